/- Whatever is looked at, each line says of each bit what the document tells, and there were as many looks: for every number of words, looks, and line; no condition but that the table of the lines is as the program's text lays it, which the card ties. -/
import Derived.RegionTactic
import Derived.IntWalk
import Derived.Deep.DeepCutAuto
import Derived.Deep.CutBlock
import Derived.Test.YtfolciibgdilcaaDoorShgG
import Derived.Test.YtfolciibgdilcaaDoorRegL
import Derived.Test.YtfolciibgdilcaaDoorTie
import Derived.Test.YtfolciibgdilcaaDoorCards
import Derived.Test.YtfolciibgdilcaaDoorLaid
import Derived.LaidMore
import Derived.SevenTiedAt
import Derived.Stop.Joined
import Derived.Test.YtfolciibgdilcaaDoorRows
import Derived.WalkKit
import Derived.ProofKit
import Derived.OpenShut
import Derived.ShutString
import Derived.ChangeOld
import Derived.Below
namespace Go.Proofs.YtfolciibgdilcaaDoor.lawShiftLines
open Go.ChangeShapes Go.WideShapes Go.ChangeAt Go.RowKit Base
open Go.ChangeMaps (open_string shut_string)
set_option linter.unusedVariables false
set_option linter.unusedSimpArgs false
theorem own : ownKnob Tryd.prog.godebug = none := by kernel_rfl
theorem laidOut : laidOutB Tryd.prog = true := by kernel_rfl
open Ly15 Ly3 Go.WideMaps Go.WideElems Go.Maps

abbrev shK : Sh := .fld (.int .i64) (.fld .bool (.fld (.int .u8) .nil))
def InAt (w : World) (A : Option Addr) (n : Nat) (ls : List Lk) : Prop :=
  ls.length = n ∧ (0 < n → ∃ b off, A = some ⟨b, off, none⟩ ∧ b < w.heap.size ∧ ∀ i p, ls[i]? = some p → w.cell? ⟨b, off + i * 3, none⟩ = some (.int .i64 p.1) ∧ w.cell? ⟨b, off + i * 3 + 1, none⟩ = some (.bool p.2.1) ∧ w.cell? ⟨b, off + i * 3 + 2, none⟩ = some (.int .u8 (p.2.2 : Int)))
theorem in_of {w : World} {A : Option Addr} {n : Nat} {rows : List (List Value)} (hg : Grid w A n (Sh.size shK) rows) (hr : ∀ r ∈ rows, Reads w shK r) : ∃ ls : List Lk, InAt w A n ls ∧ ∀ p ∈ ls, p.2.2 < 256 := by
  have hx : ∃ ls : List Lk, rows = ls.map (fun p => [Value.int .i64 p.1, Value.bool p.2.1, Value.int .u8 (p.2.2 : Int)]) ∧ ∀ p ∈ ls, p.2.2 < 256 := by
    clear hg
    induction rows with
    | nil => exact ⟨[], rfl, (fun x hx => by cases hx)⟩
    | cons r rs ih =>
      obtain ⟨xs, rfl, hx⟩ := ih (fun r hr' => hr r (by simp [hr']))
      obtain ⟨_, _, rfl, ⟨m, rfl, hm⟩, _, _, rfl, ⟨y, rfl⟩, _, _, rfl, ⟨l, rfl, hl⟩, rfl⟩ := hr r (by simp)
      have hb := bounds_u8 hl
      refine ⟨(m, y, l.toNat) :: xs, ?_, fun q hq => ?_⟩
      · simp only [List.map_cons]
        rw [Int.toNat_of_nonneg hb.1]
        rfl
      · rcases List.mem_cons.1 hq with rfl | hq
        · show l.toNat < 256
          omega
        · exact hx q hq
  obtain ⟨ls, rfl, hx⟩ := hx
  refine ⟨ls, ⟨by simpa using hg.1, fun hn => ?_⟩, hx⟩
  obtain ⟨b, off, e, hb, hc⟩ := hg.2 hn
  refine ⟨b, off, e, hb, fun i p hp => ?_⟩
  have hi : i < n := by have := (List.getElem?_eq_some_iff.1 hp).1; have := hg.1; simp at this; omega
  have h0 := hc i 0 hi (by show 0 < 3; omega)
  have h1 := hc i 1 hi (by show 1 < 3; omega)
  have h2 := hc i 2 hi (by show 2 < 3; omega)
  rw [List.getElem?_map, hp] at h0 h1 h2
  exact ⟨h0, h1, h2⟩
theorem sput_any {b n m l : Nat} {f : Nat → Bool} {w : World} (y : Bool) (h : ShF w b true n f) (hn : n ≤ 8) (hm : m < 8 * n) (hl : l < 256) (hU : Up w) :
    Calls Tryd.prog 10 #[.pointer (some ⟨b, 0, none⟩), .int .i64 m, .bool y, .int .u8 l] w fun e w' => e = .returned (.tuple #[]) ∧ Hid (ShF w' b true n (putK f l m (bn y) 4)) ∧ Hid (Wrote b w w') := by
  cases y
  · exact sput0 h hn hm hl hU
  · exact sput1 h hn hm hl hU
theorem row_wrote {w w' : World} {base b : Nat} {e : TypeId} {size : Nat} {v : Value} {n : Nat} {xs : List Value} (h : w.ownsRow base e size v n xs) (hw : Wrote b w w') (hb : b < base) : w'.ownsRow base e size v n xs := by
  refine h.kept hw ?_
  rcases h.2 with ⟨rfl, _⟩ | ⟨g, cap, cur, rfl, hg, _⟩
  · exact .inl rfl
  · refine .inr ?_
    simp [Value.ownBlock]
    omega
def New1 (s : Nat) (T : TypeId) (cs : Array Value) : Sp := fun v w => ∃ g, v = .slice (some ⟨g, 0, none⟩) 1 1 ∧ s ≤ g ∧ Obj1 w g T cs
theorem New1.stable (s : Nat) (T : TypeId) (cs : Array Value) : Stable (New1 s T cs) := fun v a b ⟨g, e, h, hl⟩ hb => ⟨g, e, h, hl.kept hb⟩
theorem New1.new {s : Nat} {T : TypeId} {cs : Array Value} {x : World} (h : s ≤ x.heap.size) : New1 s T cs (.slice (some ⟨x.heap.size, 0, none⟩) 1 1) (x.alloc (.cells cs T)) := ⟨_, rfl, h, Obj1.new _ _ _⟩
theorem New1.ex {s : Nat} {cs : Array Value} (w : World) (T : TypeId) (h : s ≤ w.heap.size) : ∃ v, ∃ x : Kin w, New1 s T cs v x.world := ⟨_, ⟨_, (Below.refl _ _).alloc (Nat.le_refl _) _⟩, New1.new h⟩
theorem New1.at {s g : Nat} {T : TypeId} {cs : Array Value} {w : World} (h : New1 s T cs (.slice (some ⟨g, 0, none⟩) 1 1) w) : Obj1 w g T cs := by
  obtain ⟨g', e, h1, h2⟩ := h
  simp at e
  subst e
  exact h2
theorem upon_append {P : Program} {o : Oper} {a : Act} {w w' : World} {v xv v' : Value} {next : Act → World → Prop} {Q : Exit → Act → World → Prop} (s x : Operand) (t : TypeId) (ho : o.op = .call { callee := .builtin .append, args := #[s, x], argTypes := #[t, t] }) (hs : a.eval s = v) (hx : a.eval x = xv)
    (hrun : (Builtin.append_ #[t, t] o.type #[v, xv]).run P w = .ok v' w') (h : next (a.put o.dst v') w') : Oper.upon P o a next Q ((execOp a.eval o).run P w) := by
  have e : (execOp a.eval o).run P w = .ok (.value v') w' := by
    unfold execOp
    simp only [ho, resolve, invoke, builtin, Sem.run_bind, Sem.run_pure, Result.andThen_ok, List.map_toArray, List.map_cons, List.map_nil, hs, hx, hrun]
  rw [e]
  exact h
theorem sl_more {w wr : World} {gs gm base n z j : Nat} {v : Value} {ls : List Lk} {f : Nat → Bool} (h : SL w gs gm base n z v j ls f wr) : SL w gs gm base n z v (j + 1) ls f wr where
  sh := h.sh
  holds := h.holds
  small := h.small
  len := Nat.le_succ_of_le h.len
  own := h.own
  seen := h.seen.mono (Nat.le_succ _)
  bel := h.bel
  size := h.size
theorem own_far {w : World} {base g k : Nat} {e : TypeId} {v : Value} {n : Nat} {xs : List Value} (h : w.ownsRow base e k v n xs) (hg : g < base) : some g ≠ v.ownBlock := fun e => by
  have := (h.lt g e.symm).1
  omega
theorem sl_next {w wx w5 w6 : World} {gs gm base n z j mm l : Nat} {u v : Value} {y : Bool} {ls : List Lk} {f : Nat → Bool} (hsh : ShF w5 gs true n (putK f l mm (bn y) 4)) (hsl : SL w gs gm base n z u j ls f wx)
    (hown : w5.ownsRow base TL 3 v (ls.length + 1) (lksC ls ++ lkC ((mm : Int), y, l))) (hse : SeenAt w6 gm (j + 1) (putK f l mm (bn y) 4) z) (hb : Below w.heap.size w w5) (hsz : base ≤ w5.heap.size) (hw : Wrote gm w5 w6) (hg : gs < gm ∧ gm < base) (hgw : w.heap.size ≤ gs) (hl : l < 256) (hm : mm < 8 * n) (hn : n ≤ 8) :
    SL w gs gm base n z v (j + 1) (ls ++ [((mm : Int), y, l)]) (putK f l mm (bn y) 4) w6 where
  sh := hsh.touch hw (by omega)
  holds := holds_put hsl.holds mm y l (by omega)
  small := fun p hp => by
    rcases List.mem_append.1 hp with hp | hp
    · exact hsl.small p hp
    · rw [List.mem_singleton.1 hp]
      exact hl
  len := by rw [List.length_append]; have := hsl.len; simp; omega
  own := by rw [List.length_append, lksC_snoc]; exact row_wrote hown hw hg.2
  seen := hse
  bel := hb.trans (hw.below (by omega) hb.size)
  size := Nat.le_trans hsz hw.size
theorem append_look {w : World} {base g n : Nat} {v : Value} {xs : List Value} (p : Lk) (ty : TypeId) (hown : w.ownsRow base TL 3 v n xs) (hg : Obj1 w g TL #[.int .i64 p.1, .bool p.2.1, .int .i64 (p.2.2 : Int)]) (hn : n ≤ 1000) (hb : base ≤ w.heap.size) :
    ∃ v' w', (Builtin.append_ #[25, 25] ty #[v, .slice (some ⟨g, 0, none⟩) 1 1]).run Tryd.prog w = .ok v' w' ∧ Hid (w'.ownsRow base TL 3 v' (n + 1) (xs ++ lkC p)) ∧ Hid (w.grownBy w' v.ownBlock) := by
  obtain ⟨i0, hi, hz0, hz1, hz2⟩ := info_parts info_l
  obtain ⟨v', w', h, ho, hg', _, _⟩ := run_append_own_at w base 25 ty TL i0 (.agg #[.int .i64 0, .bool false, .int .i64 0]) 3 24 Tryd.underlying25 hi hz0 hz1 hz2 rfl (by omega) v n xs hown ⟨g, 0, none⟩ 1 1 (lkC p) rfl
    (fun j u hj => by
      have hc := hg.cell j
      have hl : j < 3 := (List.getElem?_eq_some_iff.1 hj).1
      rcases (show j = 0 ∨ j = 1 ∨ j = 2 by omega) with rfl | rfl | rfl
      all_goals
        simp [lkC] at hj
        subst hj
        simpa [Addr.add] using hc)
    (fun u hu => by simp [lkC] at hu; rcases hu with rfl | rfl | rfl <;> rfl) (by unfold maxLen; omega) (by omega) hb
  exact ⟨v', w', h, Lib.hid ho, Lib.hid hg'⟩
def LR (w : World) (gs gm base n z N : Nat) (v i : Value) (wr : World) : Prop := ∃ j : Nat, j ≤ N ∧ j ≤ 80 ∧ i = .int .i64 j ∧ ∃ ls f, SL w gs gm base n z v j ls f wr
set_option maxRecDepth 100000 in
set_option maxHeartbeats 8000000 in
theorem walk_in (md0 : Int) (n : Nat) (A : Option Addr) (N c : Nat) (l0 : List Lk) (line : Int) (w : World) (hn : (n : Int) = min (max md0 0) 8) (hU : Up w) (hNb : N ≤ 9223372036854775807) (hi : InAt w A N l0) (hlb : ∀ p ∈ l0, p.2.2 < 256) :
    Calls Tryd.prog 4 #[.int .i64 md0, .slice A N c, .int .i64 line] w fun e w' => e = .returned (.bool true) ∧ Below w.heap.size w w' := by
  have HIN := Lib.hid hi
  have HLB := Lib.hid hlb
  have HU := Lib.hid hU
  have hn8 : n ≤ 8 := by omega
  have HNE := Lib.hid hn
  obtain ⟨z, HZ⟩ : ∃ z, Hid (8 * n = z) := ⟨_, Lib.hid rfl⟩
  have hz64 : z ≤ 64 := by rw [← HZ.out]; omega
  have HSN := Lib.hid (snew_gen md0 n hn w)
  obtain ⟨gs, HGS⟩ : ∃ gs, Hid (w.heap.size = gs) := ⟨_, Lib.hid rfl⟩
  rw [HGS.out] at HSN
  clear hi hlb hU hn
  go_enter Tryd.func4, Tryd.ntmps4
  go_wp2_with fail
  refine HSN.out.mono ?_
  rintro e w1 ⟨rfl, HS1, HB1⟩
  go_upto_region 2 with (fail)
  go_cut [8] from 27 to 30 (fun v wx => v = .int .i64 z ∧ wx = w1)
  case first =>
    have hne := HNE.out
    have hzz := HZ.out
    rcases (show md0 ≤ 0 ∨ (0 < md0 ∧ md0 ≤ 8) ∨ 8 < md0 by omega) with h | ⟨h, h2⟩ | h
    · obtain rfl : n = 0 := by omega
      obtain rfl : z = 0 := by omega
      clear hne hzz
      go_wp2
      go_meet
      exact ⟨rfl, rfl⟩
    · obtain rfl : md0 = (n : Int) := by omega
      have hw8 : IntKind.i64.wrap (8 * (n : Int)) = (z : Int) := (IntWalk.i64_in _ (by omega)).trans (by omega)
      clear hne hzz
      go_wp2
      go_meet
      exact ⟨rfl, rfl⟩
    · obtain rfl : n = 8 := by omega
      obtain rfl : z = 64 := by omega
      clear hne hzz
      go_wp2
      go_meet
      exact ⟨rfl, rfl⟩
  case rest =>
    obtain ⟨rfl, rfl⟩ := hcut
    have HBI := Lib.hid (sbits_gen HS1.out hn8)
    rw [HZ.out] at HBI
    go_wp2_with fail
    refine HBI.out.mono ?_
    rintro e w' ⟨rfl, rfl⟩
    have hmm := @run_makeMap Tryd.prog
    obtain ⟨gm, HGM⟩ : ∃ gm, Hid (wc.heap.size = gm) := ⟨_, Lib.hid rfl⟩
    obtain ⟨base, HBASE⟩ : ∃ base, Hid ((wc.alloc (.map #[] 0)).heap.size = base) := ⟨_, Lib.hid rfl⟩
    have HSL0 : Hid (SL w gs gm base n z (.slice none 0 0) 0 [] (fun _ => false) (wc.alloc (.map #[] 0))) := Lib.hid {
      sh := HS1.out.kept ((Below.refl _ _).alloc (Nat.le_refl _) _), holds := holds_nil, small := fun p hp => (by cases hp), len := Nat.le_refl _, own := ⟨rfl, .inl ⟨rfl, rfl⟩⟩,
      seen := by have := SeenAt.made (w := wc) (z := z); rwa [HGM.out] at this, bel := by have := HB1.out; rw [← HGS.out] at this; exact this.alloc this.size _, size := by rw [HBASE.out]; exact Nat.le_refl _ }
    have HGG := Lib.hid (show gs < gm ∧ gm < base from ⟨by rw [← HGM.out]; exact HS1.out.lt, by rw [← HBASE.out, ← HGM.out]; simp⟩)
    go_upto_block 0 with (fail)
    rw [HGM.out]
    generalize wc.alloc (.map #[] 0) = W2 at HSL0 HBASE ⊢
    clear hmm HS1 HB1 HBI HSN HGM
    go_cut [9, 11, 12] from 40 to 114 (fun v _ _ wx => ∃ j ls f, j ≤ 80 ∧ SL w gs gm base n z v j ls f wx)
    case first =>
      have HR0 : Hid (LR w gs gm base n z N (.slice none 0 0) (.int .i64 0) W2) := Lib.hid ⟨0, by omega, by omega, rfl, _, _, HSL0.out⟩
      go_wp2_with fail
      go_loopw [9, 11] (fun v i wx => LR w gs gm base n z N v i wx) (fun _ i _ => N - (intOf i).toNat)
      case atStart => exact HR0.out
      case round =>
        clear HR0 HSL0 HBASE
        obtain ⟨j, hj, hj8, rfl, ls, f, hsl⟩ := hrel
        have HSL := Lib.hid hsl
        clear hsl
        by_cases hjN : j < N
        · have hjNi : (j : Int) < (N : Int) := by omega
          by_cases hj80 : j < 80
          · have hj80i : (j : Int) < 80 := by omega
            obtain ⟨b, off, rfl, hblt, hc⟩ := HIN.out.2 (by omega)
            have hjl : j < l0.length := by rw [HIN.out.1]; exact hjN
            have hcj := hc j _ (List.getElem?_eq_getElem hjl)
            have hlb := HLB.out _ (List.getElem_mem hjl)
            obtain ⟨⟨m, y, l⟩, HP⟩ : ∃ p, Hid (l0[j]'hjl = p) := ⟨_, Lib.hid rfl⟩
            rw [HP.out] at hcj hlb
            simp only at hcj hlb
            have HCJ : Hid (∀ W, Below w.heap.size w W → W.cell? ⟨b, off + j * 3, none⟩ = some (.int .i64 m) ∧ W.cell? ⟨b, off + j * 3 + 1, none⟩ = some (.bool y) ∧ W.cell? ⟨b, off + j * 3 + 2, none⟩ = some (.int .u8 (l : Int))) := Lib.hid (fun W hW =>
              ⟨(hW.cell (p := ⟨b, off + j * 3, none⟩) hblt).trans hcj.1, (hW.cell (p := ⟨b, off + j * 3 + 1, none⟩) hblt).trans hcj.2.1, (hW.cell (p := ⟨b, off + j * 3 + 2, none⟩) hblt).trans hcj.2.2⟩)
            clear hc hcj
            have hdr : Below wr.heap.size wr wr.drew := (Below.refl _ _).drew
            have K0 : ∀ x : Kin wr.drew, x.world.cell? ⟨b, off + j * 3, none⟩ = some (.int .i64 m) := fun x => (HCJ.out x.world (HSL.out.bel.trans ((hdr.trans x.below).mono HSL.out.bel.size))).1
            have K1 : ∀ x : Kin wr.drew, x.world.cell? ⟨b, off + j * 3 + 1, none⟩ = some (.bool y) := fun x => (HCJ.out x.world (HSL.out.bel.trans ((hdr.trans x.below).mono HSL.out.bel.size))).2.1
            have K2 : ∀ x : Kin wr.drew, x.world.cell? ⟨b, off + j * 3 + 2, none⟩ = some (.int .u8 (l : Int)) := fun x => (HCJ.out x.world (HSL.out.bel.trans ((hdr.trans x.below).mono HSL.out.bel.size))).2.2
            by_cases hmz : 0 ≤ m ∧ m < (z : Int)
            · obtain ⟨mm, rfl⟩ : ∃ mm : Nat, m = (mm : Int) := ⟨m.toNat, by omega⟩
              have hmi : (mm : Int) < (z : Int) := hmz.2
              have hmm : mm < 8 * n := by rw [HZ.out]; omega
              clear hmz
              go_upto_region 10 with (fail)
              go_wp2_with fail
              refine wp_region_specL 16 [.d (.pointer (some ⟨gs, 0, none⟩)), .d (.slice (some ⟨b, off, none⟩) N c), .d (.int .i64 j), .d (.pointer (some ⟨b, off + j * 3, none⟩)), .d (.pointer (some ⟨b, off + j * 3, none⟩)), .d (.int .i64 mm), .d (.slice (some ⟨b, off, none⟩) N c), .d (.int .i64 j), .d (.pointer (some ⟨b, off + j * 3, none⟩)), .d (.pointer (some ⟨b, off + j * 3 + 1, none⟩)), .d (.bool y), .d (.slice (some ⟨b, off, none⟩) N c), .d (.int .i64 j), .d (.pointer (some ⟨b, off + j * 3, none⟩)), .d (.pointer (some ⟨b, off + j * 3 + 2, none⟩)), .d (.int .u8 l)] (by kernel_rfl) (by kernel_rfl) ?_
              refine spec_d rfl (fun x _ => gives_run (by go_simp)) ?_
              try simp only [Act.put, List.getElem_toArray, List.getElem_cons_succ, List.getElem_cons_zero, List.setIfInBounds_toArray, List.set_cons_zero, List.set_cons_succ]
              refine spec_d rfl (fun x _ => gives_run (by go_simp)) ?_
              try simp only [Act.put, List.getElem_toArray, List.getElem_cons_succ, List.getElem_cons_zero, List.setIfInBounds_toArray, List.set_cons_zero, List.set_cons_succ]
              refine spec_d rfl (fun x _ => gives_run (by go_simp)) ?_
              try simp only [Act.put, List.getElem_toArray, List.getElem_cons_succ, List.getElem_cons_zero, List.setIfInBounds_toArray, List.set_cons_zero, List.set_cons_succ]
              refine spec_d rfl (fun x _ => gives_run (by go_simp)) ?_
              try simp only [Act.put, List.getElem_toArray, List.getElem_cons_succ, List.getElem_cons_zero, List.setIfInBounds_toArray, List.set_cons_zero, List.set_cons_succ]
              refine spec_d rfl (fun x _ => gives_run (by go_simp)) ?_
              try simp only [Act.put, List.getElem_toArray, List.getElem_cons_succ, List.getElem_cons_zero, List.setIfInBounds_toArray, List.set_cons_zero, List.set_cons_succ]
              refine spec_d rfl (fun x _ => gives_run (by go_simp)) ?_
              try simp only [Act.put, List.getElem_toArray, List.getElem_cons_succ, List.getElem_cons_zero, List.setIfInBounds_toArray, List.set_cons_zero, List.set_cons_succ]
              refine spec_d rfl (fun x _ => gives_run (by go_simp)) ?_
              try simp only [Act.put, List.getElem_toArray, List.getElem_cons_succ, List.getElem_cons_zero, List.setIfInBounds_toArray, List.set_cons_zero, List.set_cons_succ]
              refine spec_d rfl (fun x _ => gives_run (by go_simp)) ?_
              try simp only [Act.put, List.getElem_toArray, List.getElem_cons_succ, List.getElem_cons_zero, List.setIfInBounds_toArray, List.set_cons_zero, List.set_cons_succ]
              refine spec_d rfl (fun x _ => gives_run (by go_simp)) ?_
              try simp only [Act.put, List.getElem_toArray, List.getElem_cons_succ, List.getElem_cons_zero, List.setIfInBounds_toArray, List.set_cons_zero, List.set_cons_succ]
              refine spec_d rfl (fun x _ => gives_run (by go_simp)) ?_
              try simp only [Act.put, List.getElem_toArray, List.getElem_cons_succ, List.getElem_cons_zero, List.setIfInBounds_toArray, List.set_cons_zero, List.set_cons_succ]
              refine spec_d rfl (fun x _ => gives_run (by go_simp)) ?_
              try simp only [Act.put, List.getElem_toArray, List.getElem_cons_succ, List.getElem_cons_zero, List.setIfInBounds_toArray, List.set_cons_zero, List.set_cons_succ]
              refine spec_d rfl (fun x _ => gives_run (by go_simp)) ?_
              try simp only [Act.put, List.getElem_toArray, List.getElem_cons_succ, List.getElem_cons_zero, List.setIfInBounds_toArray, List.set_cons_zero, List.set_cons_succ]
              refine spec_d rfl (fun x _ => gives_run (by go_simp)) ?_
              try simp only [Act.put, List.getElem_toArray, List.getElem_cons_succ, List.getElem_cons_zero, List.setIfInBounds_toArray, List.set_cons_zero, List.set_cons_succ]
              refine spec_d rfl (fun x _ => gives_run (by go_simp)) ?_
              try simp only [Act.put, List.getElem_toArray, List.getElem_cons_succ, List.getElem_cons_zero, List.setIfInBounds_toArray, List.set_cons_zero, List.set_cons_succ]
              refine spec_d rfl (fun x _ => gives_run (by go_simp)) ?_
              try simp only [Act.put, List.getElem_toArray, List.getElem_cons_succ, List.getElem_cons_zero, List.setIfInBounds_toArray, List.set_cons_zero, List.set_cons_succ]
              refine spec_d rfl (fun x _ => gives_run (by go_simp)) ?_
              try simp only [Act.put, List.getElem_toArray, List.getElem_cons_succ, List.getElem_cons_zero, List.setIfInBounds_toArray, List.set_cons_zero, List.set_cons_succ]
              refine spec_end (fun x hx => ?_)
              clear hx
              change wpAny _ _ _ _ (0 + 1) _ _ _
              refine wpAny_ready (rs := [16]) (by kernel_rfl) (by simp) ?_
              refine AllReady.cons rfl (fun KK hK => ?_) AllReady.nil
              go_simp
              refine (sput_any y (HSL.out.sh.kept (hdr.trans x.below)) hn8 hmm hlb (HU.out.kept ((HSL.out.bel).trans ((hdr.trans x.below).mono HSL.out.bel.size)))).mono ?_
              rintro e wa ⟨rfl, HSH, HWR⟩
              refine hK _ _ ?_
              clear hK KK
              try simp only [Act.put, List.getElem_toArray, List.getElem_cons_succ, List.getElem_cons_zero, List.setIfInBounds_toArray, List.set_cons_zero, List.set_cons_succ]
              refine wpAny_done (by kernel_rfl) ?_ _
              have hbx : Below wr.heap.size wr x.world := hdr.trans x.below
              have HSL2 := Lib.hid (HSL.out.kept hbx)
              have HSA := Lib.hid (show SL w gs gm base n z _ j ls f x.world from HSL2.out)
              have hgs : w.heap.size ≤ gs := by rw [HGS.out]; exact Nat.le_refl _
              have HBA := Lib.hid (HSL2.out.bel.trans (HWR.out.below hgs HSL2.out.bel.size))
              have HOA := Lib.hid (row_wrote HSL2.out.own HWR.out (by have := HGG.out; omega))
              have HSEA := Lib.hid (HSL2.out.seen.grown HWR.out (by have := HGG.out; simp; omega))
              have HSZA := Lib.hid (Nat.le_trans HSL2.out.size HWR.out.size)
              clear K0 K1 K2 hbx hdr HSA hgs
              generalize x.world = wx at HSL2 HWR
              clear x
              have c0 := (HCJ.out wa HBA.out).1
              go_upto_region 12 with (fail)
              clear c0
              have hdr : Below wa.heap.size wa wa.drew := (Below.refl _ _).drew
              have K0 : ∀ x : Kin wa.drew, x.world.cell? ⟨b, off + j * 3, none⟩ = some (.int .i64 (mm : Int)) := fun x => (HCJ.out x.world (HBA.out.trans ((hdr.trans x.below).mono HBA.out.size))).1
              have K1 : ∀ x : Kin wa.drew, x.world.cell? ⟨b, off + j * 3 + 1, none⟩ = some (.bool y) := fun x => (HCJ.out x.world (HBA.out.trans ((hdr.trans x.below).mono HBA.out.size))).2.1
              have K2 : ∀ x : Kin wa.drew, x.world.cell? ⟨b, off + j * 3 + 2, none⟩ = some (.int .u8 (l : Int)) := fun x => (HCJ.out x.world (HBA.out.trans ((hdr.trans x.below).mono HBA.out.size))).2.2
              have hwl : IntKind.i64.wrap (l : Int) = (l : Int) := IntWalk.i64_in _ (by omega)
              go_wp2_with fail
              refine wp_region_specL 19 [.d u9, .d (.slice (some ⟨b, off, none⟩) N c), .d (.int .i64 j), .d (.pointer (some ⟨b, off + j * 3, none⟩)), .d (.pointer (some ⟨b, off + j * 3, none⟩)), .d (.int .i64 mm), .d (.slice (some ⟨b, off, none⟩) N c), .d (.int .i64 j), .d (.pointer (some ⟨b, off + j * 3, none⟩)), .d (.pointer (some ⟨b, off + j * 3 + 1, none⟩)), .d (.bool y), .d (.slice (some ⟨b, off, none⟩) N c), .d (.int .i64 j), .d (.pointer (some ⟨b, off + j * 3, none⟩)), .d (.pointer (some ⟨b, off + j * 3 + 2, none⟩)), .d (.int .u8 l), .d (.int .i64 l), .d (.agg #[.int .i64 mm, .bool y, .int .i64 l]), .g (New1 wa.heap.size TL #[.int .i64 mm, .bool y, .int .i64 l])] (by kernel_rfl) (by kernel_rfl) ?_
              refine spec_d rfl (fun x _ => gives_run (by go_simp)) ?_
              try simp only [Act.put, List.getElem_toArray, List.getElem_cons_succ, List.getElem_cons_zero, List.setIfInBounds_toArray, List.set_cons_zero, List.set_cons_succ]
              refine spec_d rfl (fun x _ => gives_run (by go_simp)) ?_
              try simp only [Act.put, List.getElem_toArray, List.getElem_cons_succ, List.getElem_cons_zero, List.setIfInBounds_toArray, List.set_cons_zero, List.set_cons_succ]
              refine spec_d rfl (fun x _ => gives_run (by go_simp)) ?_
              try simp only [Act.put, List.getElem_toArray, List.getElem_cons_succ, List.getElem_cons_zero, List.setIfInBounds_toArray, List.set_cons_zero, List.set_cons_succ]
              refine spec_d rfl (fun x _ => gives_run (by go_simp)) ?_
              try simp only [Act.put, List.getElem_toArray, List.getElem_cons_succ, List.getElem_cons_zero, List.setIfInBounds_toArray, List.set_cons_zero, List.set_cons_succ]
              refine spec_d rfl (fun x _ => gives_run (by go_simp)) ?_
              try simp only [Act.put, List.getElem_toArray, List.getElem_cons_succ, List.getElem_cons_zero, List.setIfInBounds_toArray, List.set_cons_zero, List.set_cons_succ]
              refine spec_d rfl (fun x _ => gives_run (by go_simp)) ?_
              try simp only [Act.put, List.getElem_toArray, List.getElem_cons_succ, List.getElem_cons_zero, List.setIfInBounds_toArray, List.set_cons_zero, List.set_cons_succ]
              refine spec_d rfl (fun x _ => gives_run (by go_simp)) ?_
              try simp only [Act.put, List.getElem_toArray, List.getElem_cons_succ, List.getElem_cons_zero, List.setIfInBounds_toArray, List.set_cons_zero, List.set_cons_succ]
              refine spec_d rfl (fun x _ => gives_run (by go_simp)) ?_
              try simp only [Act.put, List.getElem_toArray, List.getElem_cons_succ, List.getElem_cons_zero, List.setIfInBounds_toArray, List.set_cons_zero, List.set_cons_succ]
              refine spec_d rfl (fun x _ => gives_run (by go_simp)) ?_
              try simp only [Act.put, List.getElem_toArray, List.getElem_cons_succ, List.getElem_cons_zero, List.setIfInBounds_toArray, List.set_cons_zero, List.set_cons_succ]
              refine spec_d rfl (fun x _ => gives_run (by go_simp)) ?_
              try simp only [Act.put, List.getElem_toArray, List.getElem_cons_succ, List.getElem_cons_zero, List.setIfInBounds_toArray, List.set_cons_zero, List.set_cons_succ]
              refine spec_d rfl (fun x _ => gives_run (by go_simp)) ?_
              try simp only [Act.put, List.getElem_toArray, List.getElem_cons_succ, List.getElem_cons_zero, List.setIfInBounds_toArray, List.set_cons_zero, List.set_cons_succ]
              refine spec_d rfl (fun x _ => gives_run (by go_simp)) ?_
              try simp only [Act.put, List.getElem_toArray, List.getElem_cons_succ, List.getElem_cons_zero, List.setIfInBounds_toArray, List.set_cons_zero, List.set_cons_succ]
              refine spec_d rfl (fun x _ => gives_run (by go_simp)) ?_
              try simp only [Act.put, List.getElem_toArray, List.getElem_cons_succ, List.getElem_cons_zero, List.setIfInBounds_toArray, List.set_cons_zero, List.set_cons_succ]
              refine spec_d rfl (fun x _ => gives_run (by go_simp)) ?_
              try simp only [Act.put, List.getElem_toArray, List.getElem_cons_succ, List.getElem_cons_zero, List.setIfInBounds_toArray, List.set_cons_zero, List.set_cons_succ]
              refine spec_d rfl (fun x _ => gives_run (by go_simp)) ?_
              try simp only [Act.put, List.getElem_toArray, List.getElem_cons_succ, List.getElem_cons_zero, List.setIfInBounds_toArray, List.set_cons_zero, List.set_cons_succ]
              refine spec_d rfl (fun x _ => gives_run (by go_simp)) ?_
              try simp only [Act.put, List.getElem_toArray, List.getElem_cons_succ, List.getElem_cons_zero, List.setIfInBounds_toArray, List.set_cons_zero, List.set_cons_succ]
              refine spec_d rfl (fun x _ => gives_run (by go_simp)) ?_
              try simp only [Act.put, List.getElem_toArray, List.getElem_cons_succ, List.getElem_cons_zero, List.setIfInBounds_toArray, List.set_cons_zero, List.set_cons_succ]
              refine spec_d rfl (fun x _ => gives_run (by go_simp)) ?_
              try simp only [Act.put, List.getElem_toArray, List.getElem_cons_succ, List.getElem_cons_zero, List.setIfInBounds_toArray, List.set_cons_zero, List.set_cons_succ]
              refine spec_g (New1.stable _ _ _) (New1.ex _ _ (Nat.le_refl _)) rfl (fun x _ => gives_ok (by go_simp) (bel_new _ _) (New1.new x.below.size)) ?_
              rintro vg ⟨xg, gg, rfl, _, _⟩
              try simp only [Act.put, List.getElem_toArray, List.getElem_cons_succ, List.getElem_cons_zero, List.setIfInBounds_toArray, List.set_cons_zero, List.set_cons_succ]
              refine spec_end (fun x hx => ?_)
              have HNG := Lib.hid (New1.at (hx _ (List.mem_singleton.2 rfl)))
              clear hx
              have hbx : Below wa.heap.size wa x.world := hdr.trans x.below
              obtain ⟨v5, w5, hrun, HO5, HG5⟩ := append_look ((mm : Int), y, l) 25 (own_below HOA.out hbx) HNG.out (by have := HSL2.out.len; omega) (Nat.le_trans HSZA.out hbx.size)
              change wpAny _ _ _ _ (1 + 1) _ _ _
              refine wpAny_ready (rs := [19]) (by kernel_rfl) (by simp) ?_
              refine AllReady.cons rfl (fun KK hK => ?_) AllReady.nil
              rw [if_pos (by rfl)]
              refine upon_append (.tmp 82) (.tmp 100) 25 rfl rfl rfl hrun ?_
              refine hK _ _ ?_
              clear hK KK
              try simp only [Act.put, List.getElem_toArray, List.getElem_cons_succ, List.getElem_cons_zero, List.setIfInBounds_toArray, List.set_cons_zero, List.set_cons_succ]
              change wpAny _ _ _ _ (0 + 1) _ _ _
              refine wpAny_ready (rs := [20]) (by kernel_rfl) (by simp) ?_
              refine AllReady.cons rfl (fun KK hK => ?_) AllReady.nil
              go_simp
              refine hK _ _ ?_
              clear hK KK
              try simp only [Act.put, List.getElem_toArray, List.getElem_cons_succ, List.getElem_cons_zero, List.setIfInBounds_toArray, List.set_cons_zero, List.set_cons_succ]
              refine wpAny_done (by kernel_rfl) ?_ _
              have HSH5 := Lib.hid ((HSH.out.kept hbx).grown HG5.out (own_far HOA.out (by have := HGG.out; omega)))
              have hse0 : SeenAt x.world gm j f z := by
                obtain ⟨D, ho, r⟩ := HSEA.out
                exact ⟨D, ho.kept (row := none) ⟨hbx.os, hbx.tape, hbx.output, hbx.size, fun i hi _ => hbx.block i hi⟩ (by simp), r⟩
              have HSE5 := Lib.hid (hse0.grown HG5.out (own_far HOA.out HGG.out.2))
              have hgw : w.heap.size ≤ base := by rw [HGS.out]; have := HGG.out; omega
              have HB5 := Lib.hid ((HBA.out.trans (hbx.mono HBA.out.size)).trans (((Below.refl _ _).grown HG5.out (Nat.le_trans HSZA.out hbx.size) (fun k hk => (HOA.out.lt k hk).1)).mono hgw))
              have HSZ5 := Lib.hid (Nat.le_trans (Nat.le_trans HSZA.out hbx.size) HG5.out.size)
              clear K0 K1 K2 hbx hdr hrun hse0 HNG hgw
              generalize x.world = wy at HG5
              clear HG5 x
              obtain ⟨D, hom, hhas, hsz⟩ := HSE5.out
              have HOM := Lib.hid hom
              have HHAS := Lib.hid hhas
              have HSZD := Lib.hid hsz
              have HMZ := Lib.hid (show mm < z by omega)
              clear hom hhas hsz HSE5
              have c0 := (HCJ.out w5 HB5.out).1
              have c1 := (HCJ.out w5 HB5.out).2.1
              cases y
              · have HKEY : Hid (keyOf Tryd.prog TK (.agg #[.int .i64 (mm : Int), .int .i64 0]) = some (KL mm (bn false))) := Lib.hid (kl_at (by omega) (bn_lt false))
                go_wp2_with (first | (at_mapUpdate; refine wpList_mapUpdate_own _ rfl _ _ _ 47 rfl TK 4 keyed Tryd.underlying47 _ gm j _ rfl HOM.out (by unfold maxLen; omega) _ _ _ rfl rfl HKEY.out _ [] (plainElem_bool Tryd.underlying4 true) ?_; intro w6 hown6 hgrow6))
                have HSE6 := Lib.hid (SeenAt.step (l := l) HOM.out HHAS.out HSZD.out HMZ.out hz64 hown6)
                have HW6 : Hid (Wrote gm w5 w6) := Lib.hid hgrow6
                clear hown6 hgrow6
                go_roundw
                case rel => exact ⟨j + 1, by omega, by omega, by go_num, _, _, sl_next HSH5.out HSL2.out HO5.out HSE6.out HB5.out HSZ5.out HW6.out HGG.out (by rw [HGS.out]; exact Nat.le_refl _) hlb hmm hn8⟩
                case measure => simp [intOf]; omega
              · have HKEY : Hid (keyOf Tryd.prog TK (.agg #[.int .i64 (mm : Int), .int .i64 1]) = some (KL mm (bn true))) := Lib.hid (kl_at (by omega) (bn_lt true))
                go_wp2_with (first | (at_mapUpdate; refine wpList_mapUpdate_own _ rfl _ _ _ 47 rfl TK 4 keyed Tryd.underlying47 _ gm j _ rfl HOM.out (by unfold maxLen; omega) _ _ _ rfl rfl HKEY.out _ [] (plainElem_bool Tryd.underlying4 true) ?_; intro w6 hown6 hgrow6))
                have HSE6 := Lib.hid (SeenAt.step (l := l) HOM.out HHAS.out HSZD.out HMZ.out hz64 hown6)
                have HW6 : Hid (Wrote gm w5 w6) := Lib.hid hgrow6
                clear hown6 hgrow6
                go_roundw
                case rel => exact ⟨j + 1, by omega, by omega, by go_num, _, _, sl_next HSH5.out HSL2.out HO5.out HSE6.out HB5.out HSZ5.out HW6.out HGG.out (by rw [HGS.out]; exact Nat.le_refl _) hlb hmm hn8⟩
                case measure => simp [intOf]; omega
            · have hmo : m < 0 ∨ ((8 * n : Nat) : Int) ≤ m := by have := HZ.out; omega
              go_upto_region 10 with (fail)
              go_wp2_with fail
              refine wp_region_specL 16 [.d (.pointer (some ⟨gs, 0, none⟩)), .d (.slice (some ⟨b, off, none⟩) N c), .d (.int .i64 j), .d (.pointer (some ⟨b, off + j * 3, none⟩)), .d (.pointer (some ⟨b, off + j * 3, none⟩)), .d (.int .i64 m), .d (.slice (some ⟨b, off, none⟩) N c), .d (.int .i64 j), .d (.pointer (some ⟨b, off + j * 3, none⟩)), .d (.pointer (some ⟨b, off + j * 3 + 1, none⟩)), .d (.bool y), .d (.slice (some ⟨b, off, none⟩) N c), .d (.int .i64 j), .d (.pointer (some ⟨b, off + j * 3, none⟩)), .d (.pointer (some ⟨b, off + j * 3 + 2, none⟩)), .d (.int .u8 l)] (by kernel_rfl) (by kernel_rfl) ?_
              refine spec_d rfl (fun x _ => gives_run (by go_simp)) ?_
              try simp only [Act.put, List.getElem_toArray, List.getElem_cons_succ, List.getElem_cons_zero, List.setIfInBounds_toArray, List.set_cons_zero, List.set_cons_succ]
              refine spec_d rfl (fun x _ => gives_run (by go_simp)) ?_
              try simp only [Act.put, List.getElem_toArray, List.getElem_cons_succ, List.getElem_cons_zero, List.setIfInBounds_toArray, List.set_cons_zero, List.set_cons_succ]
              refine spec_d rfl (fun x _ => gives_run (by go_simp)) ?_
              try simp only [Act.put, List.getElem_toArray, List.getElem_cons_succ, List.getElem_cons_zero, List.setIfInBounds_toArray, List.set_cons_zero, List.set_cons_succ]
              refine spec_d rfl (fun x _ => gives_run (by go_simp)) ?_
              try simp only [Act.put, List.getElem_toArray, List.getElem_cons_succ, List.getElem_cons_zero, List.setIfInBounds_toArray, List.set_cons_zero, List.set_cons_succ]
              refine spec_d rfl (fun x _ => gives_run (by go_simp)) ?_
              try simp only [Act.put, List.getElem_toArray, List.getElem_cons_succ, List.getElem_cons_zero, List.setIfInBounds_toArray, List.set_cons_zero, List.set_cons_succ]
              refine spec_d rfl (fun x _ => gives_run (by go_simp)) ?_
              try simp only [Act.put, List.getElem_toArray, List.getElem_cons_succ, List.getElem_cons_zero, List.setIfInBounds_toArray, List.set_cons_zero, List.set_cons_succ]
              refine spec_d rfl (fun x _ => gives_run (by go_simp)) ?_
              try simp only [Act.put, List.getElem_toArray, List.getElem_cons_succ, List.getElem_cons_zero, List.setIfInBounds_toArray, List.set_cons_zero, List.set_cons_succ]
              refine spec_d rfl (fun x _ => gives_run (by go_simp)) ?_
              try simp only [Act.put, List.getElem_toArray, List.getElem_cons_succ, List.getElem_cons_zero, List.setIfInBounds_toArray, List.set_cons_zero, List.set_cons_succ]
              refine spec_d rfl (fun x _ => gives_run (by go_simp)) ?_
              try simp only [Act.put, List.getElem_toArray, List.getElem_cons_succ, List.getElem_cons_zero, List.setIfInBounds_toArray, List.set_cons_zero, List.set_cons_succ]
              refine spec_d rfl (fun x _ => gives_run (by go_simp)) ?_
              try simp only [Act.put, List.getElem_toArray, List.getElem_cons_succ, List.getElem_cons_zero, List.setIfInBounds_toArray, List.set_cons_zero, List.set_cons_succ]
              refine spec_d rfl (fun x _ => gives_run (by go_simp)) ?_
              try simp only [Act.put, List.getElem_toArray, List.getElem_cons_succ, List.getElem_cons_zero, List.setIfInBounds_toArray, List.set_cons_zero, List.set_cons_succ]
              refine spec_d rfl (fun x _ => gives_run (by go_simp)) ?_
              try simp only [Act.put, List.getElem_toArray, List.getElem_cons_succ, List.getElem_cons_zero, List.setIfInBounds_toArray, List.set_cons_zero, List.set_cons_succ]
              refine spec_d rfl (fun x _ => gives_run (by go_simp)) ?_
              try simp only [Act.put, List.getElem_toArray, List.getElem_cons_succ, List.getElem_cons_zero, List.setIfInBounds_toArray, List.set_cons_zero, List.set_cons_succ]
              refine spec_d rfl (fun x _ => gives_run (by go_simp)) ?_
              try simp only [Act.put, List.getElem_toArray, List.getElem_cons_succ, List.getElem_cons_zero, List.setIfInBounds_toArray, List.set_cons_zero, List.set_cons_succ]
              refine spec_d rfl (fun x _ => gives_run (by go_simp)) ?_
              try simp only [Act.put, List.getElem_toArray, List.getElem_cons_succ, List.getElem_cons_zero, List.setIfInBounds_toArray, List.set_cons_zero, List.set_cons_succ]
              refine spec_d rfl (fun x _ => gives_run (by go_simp)) ?_
              try simp only [Act.put, List.getElem_toArray, List.getElem_cons_succ, List.getElem_cons_zero, List.setIfInBounds_toArray, List.set_cons_zero, List.set_cons_succ]
              refine spec_end (fun x hx => ?_)
              clear hx
              change wpAny _ _ _ _ (0 + 1) _ _ _
              refine wpAny_ready (rs := [16]) (by kernel_rfl) (by simp) ?_
              refine AllReady.cons rfl (fun KK hK => ?_) AllReady.nil
              go_simp
              refine (sput_out (HSL.out.sh.kept (hdr.trans x.below)) hn8 m y l hmo).mono ?_
              rintro e wa ⟨rfl, rfl⟩
              refine hK _ _ ?_
              clear hK KK
              try simp only [Act.put, List.getElem_toArray, List.getElem_cons_succ, List.getElem_cons_zero, List.setIfInBounds_toArray, List.set_cons_zero, List.set_cons_succ]
              refine wpAny_done (by kernel_rfl) ?_ _
              have hbx : Below wr.heap.size wr x.world := hdr.trans x.below
              have HSL2 := Lib.hid (sl_more (HSL.out.kept hbx))
              have c0 := (HCJ.out x.world (HSL.out.bel.trans (hbx.mono HSL.out.bel.size))).1
              clear K0 K1 K2 hbx hdr
              generalize x.world = wy at HSL2 c0
              clear x
              rcases (show m < 0 ∨ (0 ≤ m ∧ ¬ m < (z : Int)) by omega) with h | ⟨h, h1⟩
              · clear hmz hmo
                go_wp2
                go_roundw
                case rel => exact ⟨j + 1, by omega, by omega, by go_num, _, _, HSL2.out⟩
                case measure => simp [intOf]; omega
              · have h2 : decide (m < (z : Int)) = false := decide_eq_false h1
                clear hmz hmo
                go_wp2
                go_roundw
                case rel => exact ⟨j + 1, by omega, by omega, by go_num, _, _, HSL2.out⟩
                case measure => simp [intOf]; omega
          · obtain rfl : j = 80 := by omega
            go_wp2
            go_meet
            exact ⟨80, ls, f, by omega, HSL.out⟩
        · obtain rfl : j = N := by omega
          go_wp2
          go_meet
          exact ⟨j, ls, f, hj8, HSL.out⟩
    case rest =>
      obtain ⟨j, ls, f, hj8, hsl⟩ := hcut
      have HSL := Lib.hid hsl
      obtain ⟨Ar, cr, rfl, hcr, hlk⟩ := looks_own hsl.own
      have HLK := Lib.hid hlk
      have hq80 : ls.length ≤ 80 := Nat.le_trans hsl.len hj8
      obtain ⟨q, HQ⟩ : ∃ q, Hid (ls.length = q) := ⟨_, Lib.hid rfl⟩
      rw [HQ.out] at HLK hq80 hcr ⊢
      clear hsl hlk HSL0 HBASE
      go_upto_block 2 with (fail)
      go_cut [13, 14, 15, 16, 17, 18, 19, 20] from 115 to 165 (fun _ _ _ _ _ _ _ _ wx => Below wc.heap.size wc wx)
      case first =>
        go_wp2_with fail
        go_loopw [13] (fun i wx => ∃ k : Nat, k ≤ z ∧ i = .int .i64 k ∧ Below wc.heap.size wc wx) (fun i _ => z - (intOf i).toNat)
        case atStart => exact ⟨0, by omega, rfl, Below.refl _ _⟩
        case round =>
          obtain ⟨k, hk, rfl, hbel⟩ := hrel
          have HBK := Lib.hid hbel
          have HSLK := Lib.hid (HSL.out.kept hbel)
          clear hbel
          by_cases hkz : k < z
          · have hkzi : (k : Int) < (z : Int) := by omega
            have hk8 : k < 8 * n := by rw [HZ.out]; exact hkz
            obtain ⟨⟨p0, q0⟩, e0⟩ : ∃ pq, lineF f 0 k = pq := ⟨_, rfl⟩
            obtain ⟨⟨p1, q1⟩, e1⟩ : ∃ pq, lineF f 1 k = pq := ⟨_, rfl⟩
            obtain ⟨⟨p2, q2⟩, e2⟩ : ∃ pq, lineF f 2 k = pq := ⟨_, rfl⟩
            obtain ⟨⟨p3, q3⟩, e3⟩ : ∃ pq, lineF f 3 k = pq := ⟨_, rfl⟩
            have HE := Lib.hid (show lineF f 0 k = (p0, q0) ∧ lineF f 1 k = (p1, q1) ∧ lineF f 2 k = (p2, q2) ∧ lineF f 3 k = (p3, q3) from ⟨e0, e1, e2, e3⟩)
            have HSAY := Lib.hid (says_gen p0 p1 p2 p3 q0 q1 q2 q3 e0 e1 e2 e3 HSLK.out.sh hn8 hk8)
            clear e0 e1 e2 e3
            go_wp2_with fail
            refine HSAY.out.mono ?_
            rintro e wb ⟨rfl, HBB⟩
            have HSLB := Lib.hid (HSLK.out.kept HBB.out)
            have HBW := Lib.hid ((HBK.out.trans (HBB.out.mono HBK.out.size)).trans (((Below.refl wb.heap.size wb).alloc (Nat.le_refl _) (.cells #[.bool p0, .bool p1, .bool p2, .bool p3] 34)).alloc (by simp) (.cells #[.bool q0, .bool q1, .bool q2, .bool q3] 34) |>.mono (Nat.le_trans HBK.out.size HBB.out.size)))
            have HP4 : Hid (Obj1 ((wb.alloc (.cells #[.bool p0, .bool p1, .bool p2, .bool p3] 34)).alloc (.cells #[.bool q0, .bool q1, .bool q2, .bool q3] 34)) wb.heap.size 34 #[.bool p0, .bool p1, .bool p2, .bool p3]) := Lib.hid ((Obj1.new wb 34 _).alloc _)
            have HQ4 : Hid (Obj1 ((wb.alloc (.cells #[.bool p0, .bool p1, .bool p2, .bool p3] 34)).alloc (.cells #[.bool q0, .bool q1, .bool q2, .bool q3] 34)) (wb.heap.size + 1) 34 #[.bool q0, .bool q1, .bool q2, .bool q3]) := Lib.hid (by
              have := Obj1.new (wb.alloc (.cells #[.bool p0, .bool p1, .bool p2, .bool p3] 34)) 34 #[.bool q0, .bool q1, .bool q2, .bool q3]
              rwa [show (wb.alloc (.cells #[.bool p0, .bool p1, .bool p2, .bool p3] 34)).heap.size = wb.heap.size + 1 by simp] at this)
            have R0 : Hid (∀ W, Below wc.heap.size wc W → Calls Tryd.prog 11 #[.slice Ar q cr, .int .i64 0, .int .i64 k] W fun e w' => e = .returned (.tuple #[.bool p0, .bool q0]) ∧ W = w') := Lib.hid (fun W hW => by
              have h := rline_any (c := cr) (k := 0) (m := k) (HLK.out.kept hW) (by omega) HSL.out.small (by omega)
              rw [← line_eq HSL.out.holds (by omega) (by omega), HE.out.1] at h
              exact h)
            have L0 : Hid (∀ W, Below wc.heap.size wc W → Calls Tryd.prog 20 #[.pointer (some ⟨gs, 0, none⟩), .int .i64 0, .int .i64 k] W fun e w' => e = .returned (.tuple #[.bool p0, .bool q0]) ∧ Below W.heap.size W w') := Lib.hid (fun W hW => by
              have h := line_in (k := 0) (HSL.out.kept hW).sh hn8 (by omega) hk8
              rw [HE.out.1] at h
              exact h)
            have R1 : Hid (∀ W, Below wc.heap.size wc W → Calls Tryd.prog 11 #[.slice Ar q cr, .int .i64 1, .int .i64 k] W fun e w' => e = .returned (.tuple #[.bool p1, .bool q1]) ∧ W = w') := Lib.hid (fun W hW => by
              have h := rline_any (c := cr) (k := 1) (m := k) (HLK.out.kept hW) (by omega) HSL.out.small (by omega)
              rw [← line_eq HSL.out.holds (by omega) (by omega), HE.out.2.1] at h
              exact h)
            have L1 : Hid (∀ W, Below wc.heap.size wc W → Calls Tryd.prog 20 #[.pointer (some ⟨gs, 0, none⟩), .int .i64 1, .int .i64 k] W fun e w' => e = .returned (.tuple #[.bool p1, .bool q1]) ∧ Below W.heap.size W w') := Lib.hid (fun W hW => by
              have h := line_in (k := 1) (HSL.out.kept hW).sh hn8 (by omega) hk8
              rw [HE.out.2.1] at h
              exact h)
            have R2 : Hid (∀ W, Below wc.heap.size wc W → Calls Tryd.prog 11 #[.slice Ar q cr, .int .i64 2, .int .i64 k] W fun e w' => e = .returned (.tuple #[.bool p2, .bool q2]) ∧ W = w') := Lib.hid (fun W hW => by
              have h := rline_any (c := cr) (k := 2) (m := k) (HLK.out.kept hW) (by omega) HSL.out.small (by omega)
              rw [← line_eq HSL.out.holds (by omega) (by omega), HE.out.2.2.1] at h
              exact h)
            have L2 : Hid (∀ W, Below wc.heap.size wc W → Calls Tryd.prog 20 #[.pointer (some ⟨gs, 0, none⟩), .int .i64 2, .int .i64 k] W fun e w' => e = .returned (.tuple #[.bool p2, .bool q2]) ∧ Below W.heap.size W w') := Lib.hid (fun W hW => by
              have h := line_in (k := 2) (HSL.out.kept hW).sh hn8 (by omega) hk8
              rw [HE.out.2.2.1] at h
              exact h)
            have R3 : Hid (∀ W, Below wc.heap.size wc W → Calls Tryd.prog 11 #[.slice Ar q cr, .int .i64 3, .int .i64 k] W fun e w' => e = .returned (.tuple #[.bool p3, .bool q3]) ∧ W = w') := Lib.hid (fun W hW => by
              have h := rline_any (c := cr) (k := 3) (m := k) (HLK.out.kept hW) (by omega) HSL.out.small (by omega)
              rw [← line_eq HSL.out.holds (by omega) (by omega), HE.out.2.2.2] at h
              exact h)
            have L3 : Hid (∀ W, Below wc.heap.size wc W → Calls Tryd.prog 20 #[.pointer (some ⟨gs, 0, none⟩), .int .i64 3, .int .i64 k] W fun e w' => e = .returned (.tuple #[.bool p3, .bool q3]) ∧ Below W.heap.size W w') := Lib.hid (fun W hW => by
              have h := line_in (k := 3) (HSL.out.kept hW).sh hn8 (by omega) hk8
              rw [HE.out.2.2.2] at h
              exact h)
            go_upto_block 4 with (fail)
            generalize (wb.alloc (.cells #[.bool p0, .bool p1, .bool p2, .bool p3] 34)).alloc (.cells #[.bool q0, .bool q1, .bool q2, .bool q3] 34) = W9 at HBW HP4 HQ4 ⊢
            obtain ⟨g4, HG4⟩ : ∃ g4, Hid (wb.heap.size = g4) := ⟨_, Lib.hid rfl⟩
            rw [HG4.out] at HP4 HQ4 ⊢
            go_wp2_with fail
            go_loopw [16] (fun i wx => ∃ c : Nat, c ≤ 4 ∧ i = .int .i64 c ∧ Below W9.heap.size W9 wx) (fun i _ => 4 - (intOf i).toNat)
            case atStart => exact ⟨0, by omega, rfl, Below.refl _ _⟩
            case round =>
              obtain ⟨c, hc, rfl, hb9⟩ := hrel
              have HB9 := Lib.hid hb9
              have HBC := Lib.hid (HBW.out.trans (hb9.mono HBW.out.size))
              clear hb9
              rcases (show c = 0 ∨ c = 1 ∨ c = 2 ∨ c = 3 ∨ c = 4 by omega) with rfl | rfl | rfl | rfl | rfl
              · go_wp2_with fail
                refine (R0.out _ HBC.out).mono ?_
                rintro e w' ⟨rfl, rfl⟩
                go_wp2_with fail
                refine (L0.out _ HBC.out).mono ?_
                rintro e w5 ⟨rfl, hb5⟩
                have a := ((HP4.out.kept HB9.out).kept hb5).cell 0
                have b' := ((HQ4.out.kept HB9.out).kept hb5).cell 0
                have HB5 := Lib.hid (HB9.out.trans (hb5.mono HB9.out.size))
                clear hb5
                simp at a b'
                go_wp2
                go_roundw
                case rel => exact ⟨1, by omega, rfl, HB5.out⟩
                case measure => simp [intOf]
              · go_wp2_with fail
                refine (R1.out _ HBC.out).mono ?_
                rintro e w' ⟨rfl, rfl⟩
                go_wp2_with fail
                refine (L1.out _ HBC.out).mono ?_
                rintro e w5 ⟨rfl, hb5⟩
                have a := ((HP4.out.kept HB9.out).kept hb5).cell 1
                have b' := ((HQ4.out.kept HB9.out).kept hb5).cell 1
                have HB5 := Lib.hid (HB9.out.trans (hb5.mono HB9.out.size))
                clear hb5
                simp at a b'
                go_wp2
                go_roundw
                case rel => exact ⟨2, by omega, rfl, HB5.out⟩
                case measure => simp [intOf]
              · go_wp2_with fail
                refine (R2.out _ HBC.out).mono ?_
                rintro e w' ⟨rfl, rfl⟩
                go_wp2_with fail
                refine (L2.out _ HBC.out).mono ?_
                rintro e w5 ⟨rfl, hb5⟩
                have a := ((HP4.out.kept HB9.out).kept hb5).cell 2
                have b' := ((HQ4.out.kept HB9.out).kept hb5).cell 2
                have HB5 := Lib.hid (HB9.out.trans (hb5.mono HB9.out.size))
                clear hb5
                simp at a b'
                go_wp2
                go_roundw
                case rel => exact ⟨3, by omega, rfl, HB5.out⟩
                case measure => simp [intOf]
              · go_wp2_with fail
                refine (R3.out _ HBC.out).mono ?_
                rintro e w' ⟨rfl, rfl⟩
                go_wp2_with fail
                refine (L3.out _ HBC.out).mono ?_
                rintro e w5 ⟨rfl, hb5⟩
                have a := ((HP4.out.kept HB9.out).kept hb5).cell 3
                have b' := ((HQ4.out.kept HB9.out).kept hb5).cell 3
                have HB5 := Lib.hid (HB9.out.trans (hb5.mono HB9.out.size))
                clear hb5
                simp at a b'
                go_wp2
                go_roundw
                case rel => exact ⟨4, by omega, rfl, HB5.out⟩
                case measure => simp [intOf]
              · go_wp2
                go_roundw
                case rel => exact ⟨k + 1, by omega, by go_num, HBC.out⟩
                case measure => simp [intOf]; omega
          · obtain rfl : k = z := by omega
            go_wp2
            go_meet
            exact HBK.out
      case rest =>
        have HSLE := Lib.hid (HSL.out.kept hcut)
        have HO1 := Lib.hid (line_out HSLE.out.sh hn8 line (z : Int) (.inl (.inr (by have := HZ.out; omega))))
        have HO2 := Lib.hid (line_out HSLE.out.sh hn8 4 0 ((Nat.eq_zero_or_pos n).elim (fun h => .inl (.inr (by omega))) (fun h => .inr ⟨by omega, by omega, .inr (by omega)⟩)))
        have HSE := Lib.hid (seen_gen HSLE.out.sh hn8)
        obtain ⟨S, HS⟩ : ∃ S, Hid (seenN f (8 * n) = S) := ⟨_, Lib.hid rfl⟩
        rw [HS.out] at HSE
        go_wp2_with fail
        refine HO1.out.mono ?_
        rintro e w' ⟨rfl, rfl⟩
        go_wp2_with fail
        refine HO2.out.mono ?_
        rintro e w' ⟨rfl, rfl⟩
        go_wp2_with fail
        refine HSE.out.mono ?_
        rintro e w7 ⟨rfl, HB7⟩
        have HSL7 := Lib.hid (HSLE.out.kept HB7.out)
        obtain ⟨D, hom, _, hsz⟩ := HSL7.out.seen
        have hlen := hom.len Tryd.underlying47 3
        rw [hsz, ← HZ.out, HS.out] at hlen
        clear hom hsz
        go_wp2_with fail
        have HU7 := Lib.hid (HU.out.kept HSL7.out.bel)
        refine (one_any _ HU7.out).mono ?_
        rintro e w8 ⟨rfl, hb8⟩
        have HB8 := Lib.hid (HSL7.out.bel.trans (hb8.mono HSL7.out.bel.size))
        clear hb8
        go_wp2
        go_ret
        exact ⟨rfl, HB8.out⟩
theorem gUp : Tryd.prog.globalNamed "busbar/wires.upright" = some 0 := by kernel_rfl
theorem tUp : (Tryd.prog.globals[0]?).map (·.type) = some 34 := by kernel_rfl
theorem of_laid {W : World} (h : laidMetH Tryd.prog Rows.shiftLinesRow.laid W) : Up W := by
  rw [MakeChecks.laidMetH_plain _ _ _ (by kernel_rfl)] at h
  obtain ⟨ps, ⟨g0, t0, cs0, f0, p0, q0, hg0, ht0, hv0, hd0, _, _⟩, _, _⟩ := h
  obtain rfl := Option.some.inj (gUp.symm.trans hg0)
  obtain rfl := Option.some.inj (tUp.symm.trans ht0)
  have e := exact_cells (sh := .ar 4 .bool) 10 rfl (by kernel_rfl) hd0 rfl
  obtain ⟨l0⟩ := cs0
  simp at e
  subst e
  exact ⟨by simpa using World.var?_cell hg0 hv0 0, by simpa using World.var?_cell hg0 hv0 1, by simpa using World.var?_cell hg0 hv0 2, by simpa using World.var?_cell hg0 hv0 3⟩
theorem walk (md0 : Int) (A : Option Addr) (N c : Nat) (rows : List (List Value)) (line : Int) (w : World) (hU : Up w) (t0 : -9223372036854775808 ≤ md0) (t1 : md0 ≤ 9223372036854775807) (hg : Grid w A N (Sh.size shK) rows) (hr : ∀ r ∈ rows, Reads w shK r) (hnc : N ≤ c) (hcm : c ≤ maxLen) (u0 : -9223372036854775808 ≤ line) (u1 : line ≤ 9223372036854775807) :
    Calls Tryd.prog 4 #[.int .i64 md0, .slice A N c, .int .i64 line] w fun e w' => e = .returned (.bool true) ∧ Below w.heap.size w w' := by
  unfold maxLen at hcm
  obtain ⟨ls, hi, hb⟩ := in_of hg hr
  exact walk_in md0 (min (max md0 0) 8).toNat A N c ls line w (by omega) hU (by omega) hi hb

theorem door_met (os : Os) (args : Array Value) : laidMetH Tryd.prog Rows.shiftLinesRow.laid ((World.doorLaid Tryd.prog 400 os).forCall (fun _ _ => 0) ⟨#[], args, []⟩).memory :=
  laidMetH_of_parts3 (fuel := 8) (laidMet_of_run' 8 (by kernel_rfl) (by kernel_rfl)) (by kernel_rfl) (by kernel_rfl)
set_option maxRecDepth 100000 in
theorem lifted (os : Os) (started : os.Started) (H : Type) (enc : TypeId × Value → H) :
    ReturnsInHanded {} Tryd.checked os 4 .any (fun w args => (Rows.shiftLinesSpec.pre enc Tryd.prog Tryd.f4 [] false w args ∧ laidMetH Tryd.prog Rows.shiftLinesRow.laid w) ∧ sizedMet enc Tryd.prog Tryd.f4 (OpenSpec.ofChange Rows.shiftLinesSpec) false w args)
      (Rows.shiftLinesSpec.post enc Tryd.prog Tryd.f4 false true false false) := by
  refine returnsInHanded_of_change_and (C := Tryd.checked) (X := fun w _ => laidMetH Tryd.prog Rows.shiftLinesRow.laid w) (fun _ _ _ hh h => h.of_heap hh) own started (by kernel_rfl) Tryd.func4
    (ChangeSpec.witness_shaped (enc := enc) (C := Tryd.checked) (os := os) (X := fun w _ => laidMetH Tryd.prog Rows.shiftLinesRow.laid w) false (World.doorLaid Tryd.prog 400 os) #[.int .i64 0, .slice none 0 0, .int .i64 0] 8 rfl (World.shaped_of_RefB (by kernel_rfl) (by kernel_rfl)) (by kernel_rfl) (by kernel_rfl) (by kernel_rfl) (door_met os _)) ?_
  intro W base args ds gs before hval0 hW _ _ hL _
  have hval : ∀ (j : Nat) t v, Tryd.f4.params[j]? = some t → args[j]? = some v → Value.okWide Tryd.prog W .any base t v := hval0
  have hW' := hW
  obtain ⟨p, q, hA0, hV, rfl, hfz, hnd⟩ := hW
  have hA : DataW.TrodAll enc Tryd.prog W 0 (fun _ => true) true Tryd.f4.params.toList args.toList ds p := hA0
  rw [Tryd.params4] at hA hval
  obtain ⟨v0, vs0, d0, ds0, p0, q0, hargs, rfl, rfl, h0, r0⟩ := trodAll_cons hA
  obtain ⟨v1, vs1, d1, ds1, p1, q1, rfl, rfl, rfl, h1, r1⟩ := trodAll_cons r0
  obtain ⟨v2, vs2, d2, ds2, p2, q2, rfl, rfl, rfl, h2, r2⟩ := trodAll_cons r1
  obtain ⟨rfl, rfl, rfl⟩ := trodAll_nil r2
  obtain rfl : args = #[v0, v1, v2] := by cases args; simp_all
  obtain ⟨rfl, rfl⟩ := trodVars_none hV
  obtain ⟨words, rfl, rfl, rfl, wf0⟩ := open_int Tryd.underlying3 (hval 0 3 v0 rfl rfl) h0
  have bd0 := bounds_i64 wf0
  have k1 := h1
  have lt1 : ∀ x ∈ p1, x.block < W.heap.size := by obtain ⟨m, hm⟩ := k1; exact DataW.trod_lt m _ _ _ hm
  obtain ⟨lA, ln, lc, rfl⟩ := okWide_slice Tryd.underlying22 (hval 1 22 v1 rfl rfl)
  obtain ⟨l, g1, rd1, cb1, cc1⟩ := reads_slice (e := shK) 30 (by kernel_rfl) k1
  obtain ⟨line, rfl, rfl, rfl, wf2⟩ := open_int Tryd.underlying3 (hval 2 3 v2 rfl rfl) h2
  have bd2 := bounds_i64 wf2
  clear hA0 hval0
  refine (walk words lA ln lc l line W (of_laid hL) bd0.1 bd0.2 g1 rd1 cb1 cc1 bd2.1 bd2.2).mono fun e W' ⟨he, bel⟩ => ?_
  subst he
  exact ⟨_, rfl, _, _, _, [], _, [], hW', trodAll_mk1 (shut_bool Tryd.underlying4 _), (trodAll_cons_mk (shut_int Tryd.underlying3 wf0) (trodAll_cons_mk (Below.trod laidOut (by kernel_rfl) (of_decide_eq_true (by kernel_rfl)) k1 bel lt1) (trodAll_cons_mk (shut_int Tryd.underlying3 wf2) trodAll_mk0))), rfl, bel.frame _, fun h => by cases h⟩

theorem over : Rows.shiftLinesRow.holds Tryd.pinned (OpenSpec.ofChange Rows.shiftLinesSpec) :=
  OpenClaim.holds_of_wide 4 Tryd.f4 rfl rfl rfl rfl rfl rfl rfl ⟨rfl, rfl, rfl, rfl, rfl⟩ rfl rfl rfl rfl rfl (by kernel_rfl) Tryd.func4 (by kernel_rfl)
    (of_decide_eq_true (by kernel_rfl)) (by unfold Func.isWrapper; first | (rw [if_pos (by decide +kernel)]; kernel_rfl) | (rw [if_neg (by decide +kernel)]; exact ⟨rfl, rfl⟩))
    (fun os started H enc _ => lifted os started H enc)

/-- The card: what the row lists is tied to the program's text. -/
theorem proved : Rows.ShiftLinesCardSaid :=
  Claim7.holds_tied_plain_at .later [] [.data] true Rows.shiftLinesCard.stood.harness false
    over (fun _ h => by cases h) (by kernel_rfl) (fun _ h => by cases h) shiftLines_row_tie rfl ⟨rfl, rfl⟩ (by kernel_rfl) rfl
    (fun f fn hf hfn => by
      obtain rfl : f = 4 := Option.some.inj ((show Tryd.prog.funcNamed "busbar/busbarlaw15.ShiftLines" = some 4 by kernel_rfl).symm.trans hf) |>.symm
      obtain rfl : fn = Tryd.f4 := (Option.some.inj (Tryd.func4.symm.trans hfn)).symm
      exact ⟨by kernel_rfl, fun j t ht => by
        rw [Tryd.params4] at ht
        have hm : t ∈ [3, 22, 3] := by simpa using Array.mem_of_getElem? ht
        have hall : ([3, 22, 3].all fun u => !Tryd.prog.wantsStandIn u) = true := by kernel_rfl
        exact (show Tryd.prog.wantsStandIn t = false by simpa using List.all_eq_true.1 hall t hm)⟩)
    (by kernel_rfl)
end Go.Proofs.YtfolciibgdilcaaDoor.lawShiftLines
