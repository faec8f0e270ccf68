/- Whatever was looked at comes to the document's words, or to none; and each line says as many bits otherwise as it tells: for every number of words, and looks; no condition but that the table of the lines is as the program's text lays it, which the card ties. -/
import Derived.RegionTactic
import Derived.IntWalk
import Derived.Deep.DeepCutAuto
import Derived.Deep.CutBlock
import Derived.Test.YtnbcegijncdmaaaDoorMajG
import Derived.Test.YtnbcegijncdmaaaDoorRegL
import Derived.Test.YtnbcegijncdmaaaDoorArr
import Derived.Test.YtnbcegijncdmaaaDoorTie
import Derived.Test.YtnbcegijncdmaaaDoorCards
import Derived.Test.YtnbcegijncdmaaaDoorLaid
import Derived.LaidMore
import Derived.SevenTiedAt
import Derived.Stop.Joined
import Derived.Test.YtnbcegijncdmaaaDoorRows
import Derived.WalkKit
import Derived.ProofKit
import Derived.OpenShut
import Derived.ShutString
import Derived.ChangeOld
import Derived.Below
namespace Go.Proofs.YtnbcegijncdmaaaDoor.lawMajorReads
open Go.ChangeShapes Go.WideShapes Go.ChangeAt Go.RowKit Base
open Go.ChangeMaps (open_string shut_string)
set_option linter.unusedVariables false
set_option linter.unusedSimpArgs false
theorem own : ownKnob Tryd.prog.godebug = none := by kernel_rfl
theorem laidOut : laidOutB Tryd.prog = true := by kernel_rfl
open Ly16 Ly15 Ly3 Ly2

abbrev shK : Sh := .fld (.int .i64) (.fld .bool (.fld (.int .u8) .nil))
def InAt (w : World) (A : Option Addr) (n : Nat) (ls : List Lk) : Prop :=
  ls.length = n ∧ (0 < n → ∃ b off, A = some ⟨b, off, none⟩ ∧ b < w.heap.size ∧ ∀ i p, ls[i]? = some p → w.cell? ⟨b, off + i * 3, none⟩ = some (.int .i64 p.1) ∧ w.cell? ⟨b, off + i * 3 + 1, none⟩ = some (.bool p.2.1) ∧ w.cell? ⟨b, off + i * 3 + 2, none⟩ = some (.int .u8 (p.2.2 : Int)))
theorem in_of {w : World} {A : Option Addr} {n : Nat} {rows : List (List Value)} (hg : Grid w A n (Sh.size shK) rows) (hr : ∀ r ∈ rows, Reads w shK r) : ∃ ls : List Lk, InAt w A n ls ∧ ∀ p ∈ ls, p.2.2 < 256 := by
  have hx : ∃ ls : List Lk, rows = ls.map (fun p => [Value.int .i64 p.1, Value.bool p.2.1, Value.int .u8 (p.2.2 : Int)]) ∧ ∀ p ∈ ls, p.2.2 < 256 := by
    clear hg
    induction rows with
    | nil => exact ⟨[], rfl, (fun x hx => by cases hx)⟩
    | cons r rs ih =>
      obtain ⟨xs, rfl, hx⟩ := ih (fun r hr' => hr r (by simp [hr']))
      obtain ⟨_, _, rfl, ⟨m, rfl, hm⟩, _, _, rfl, ⟨y, rfl⟩, _, _, rfl, ⟨l, rfl, hl⟩, rfl⟩ := hr r (by simp)
      have hb := bounds_u8 hl
      refine ⟨(m, y, l.toNat) :: xs, ?_, fun q hq => ?_⟩
      · simp only [List.map_cons]
        rw [Int.toNat_of_nonneg hb.1]
        rfl
      · rcases List.mem_cons.1 hq with rfl | hq
        · show l.toNat < 256
          omega
        · exact hx q hq
  obtain ⟨ls, rfl, hx⟩ := hx
  refine ⟨ls, ⟨by simpa using hg.1, fun hn => ?_⟩, hx⟩
  obtain ⟨b, off, e, hb, hc⟩ := hg.2 hn
  refine ⟨b, off, e, hb, fun i p hp => ?_⟩
  have hi : i < n := by have := (List.getElem?_eq_some_iff.1 hp).1; have := hg.1; simp at this; omega
  have h0 := hc i 0 hi (by show 0 < 3; omega)
  have h1 := hc i 1 hi (by show 1 < 3; omega)
  have h2 := hc i 2 hi (by show 2 < 3; omega)
  rw [List.getElem?_map, hp] at h0 h1 h2
  exact ⟨h0, h1, h2⟩
theorem sput_any {b n m l : Nat} {f : Nat → Bool} {w : World} (y : Bool) (h : ShF w b true n f) (hn : n ≤ 8) (hm : m < 8 * n) (hl : l < 256) (hU : Up w) :
    Calls Tryd.prog 25 #[.pointer (some ⟨b, 0, none⟩), .int .i64 m, .bool y, .int .u8 l] w fun e w' => e = .returned (.tuple #[]) ∧ Hid (ShF w' b true n (putK f l m (bn y) 4)) ∧ Hid (Wrote b w w') := by
  cases y
  · exact sput0 h hn hm hl hU
  · exact sput1 h hn hm hl hU
def New1 (s : Nat) (T : TypeId) (cs : Array Value) : Sp := fun v w => ∃ g, v = .slice (some ⟨g, 0, none⟩) 1 1 ∧ s ≤ g ∧ Obj1 w g T cs
theorem New1.stable (s : Nat) (T : TypeId) (cs : Array Value) : Stable (New1 s T cs) := fun v a b ⟨g, e, h, hl⟩ hb => ⟨g, e, h, hl.kept hb⟩
theorem New1.new {s : Nat} {T : TypeId} {cs : Array Value} {x : World} (h : s ≤ x.heap.size) : New1 s T cs (.slice (some ⟨x.heap.size, 0, none⟩) 1 1) (x.alloc (.cells cs T)) := ⟨_, rfl, h, Obj1.new _ _ _⟩
theorem New1.ex {s : Nat} {cs : Array Value} (w : World) (T : TypeId) (h : s ≤ w.heap.size) : ∃ v, ∃ x : Kin w, New1 s T cs v x.world := ⟨_, ⟨_, (Below.refl _ _).alloc (Nat.le_refl _) _⟩, New1.new h⟩
theorem New1.at {s g : Nat} {T : TypeId} {cs : Array Value} {w : World} (h : New1 s T cs (.slice (some ⟨g, 0, none⟩) 1 1) w) : Obj1 w g T cs := by
  obtain ⟨g', e, h1, h2⟩ := h
  simp at e
  subst e
  exact h2
theorem upon_append {P : Program} {o : Oper} {a : Act} {w w' : World} {v xv v' : Value} {next : Act → World → Prop} {Q : Exit → Act → World → Prop} (s x : Operand) (t : TypeId) (ho : o.op = .call { callee := .builtin .append, args := #[s, x], argTypes := #[t, t] }) (hs : a.eval s = v) (hx : a.eval x = xv)
    (hrun : (Builtin.append_ #[t, t] o.type #[v, xv]).run P w = .ok v' w') (h : next (a.put o.dst v') w') : Oper.upon P o a next Q ((execOp a.eval o).run P w) := by
  have e : (execOp a.eval o).run P w = .ok (.value v') w' := by
    unfold execOp
    simp only [ho, resolve, invoke, builtin, Sem.run_bind, Sem.run_pure, Result.andThen_ok, List.map_toArray, List.map_cons, List.map_nil, hs, hx, hrun]
  rw [e]
  exact h
theorem sl_more {w wr : World} {gs base n j : Nat} {v : Value} {ls : List Lk} {f : Nat → Bool} (h : SL w gs base n v j ls f wr) : SL w gs base n v (j + 1) ls f wr where
  sh := h.sh
  holds := h.holds
  small := h.small
  len := Nat.le_succ_of_le h.len
  own := h.own
  bel := h.bel
  size := h.size
theorem sl_next {w wx w5 : World} {gs base n j mm l : Nat} {u v : Value} {y : Bool} {ls : List Lk} {f : Nat → Bool} (hsh : ShF w5 gs true n (putK f l mm (bn y) 4)) (hsl : SL w gs base n u j ls f wx)
    (hown : w5.ownsRow base TL 3 v (ls.length + 1) (lksC ls ++ lkC ((mm : Int), y, l))) (hb : Below w.heap.size w w5) (hsz : base ≤ w5.heap.size) (hl : l < 256) (hm : mm < 8 * n) (hn : n ≤ 8) :
    SL w gs base n v (j + 1) (ls ++ [((mm : Int), y, l)]) (putK f l mm (bn y) 4) w5 where
  sh := hsh
  holds := holds_put hsl.holds mm y l (by omega)
  small := fun p hp => by
    rcases List.mem_append.1 hp with hp | hp
    · exact hsl.small p hp
    · rw [List.mem_singleton.1 hp]
      exact hl
  len := by rw [List.length_append]; have := hsl.len; simp; omega
  own := by rw [List.length_append, lksC_snoc]; exact hown
  bel := hb
  size := hsz
theorem append_look {w : World} {base g n : Nat} {v : Value} {xs : List Value} (p : Lk) (ty : TypeId) (hown : w.ownsRow base TL 3 v n xs) (hg : Obj1 w g TL #[.int .i64 p.1, .bool p.2.1, .int .i64 (p.2.2 : Int)]) (hn : n ≤ 1000) (hb : base ≤ w.heap.size) :
    ∃ v' w', (Builtin.append_ #[52, 52] ty #[v, .slice (some ⟨g, 0, none⟩) 1 1]).run Tryd.prog w = .ok v' w' ∧ Hid (w'.ownsRow base TL 3 v' (n + 1) (xs ++ lkC p)) ∧ Hid (w.grownBy w' v.ownBlock) := by
  obtain ⟨i0, hi, hz0, hz1, hz2⟩ := info_parts info_l
  obtain ⟨v', w', h, ho, hg', _, _⟩ := run_append_own_at w base 52 ty TL i0 (.agg #[.int .i64 0, .bool false, .int .i64 0]) 3 24 Tryd.underlying52 hi hz0 hz1 hz2 rfl (by omega) v n xs hown ⟨g, 0, none⟩ 1 1 (lkC p) rfl
    (fun j u hj => by
      have hc := hg.cell j
      have hl : j < 3 := (List.getElem?_eq_some_iff.1 hj).1
      rcases (show j = 0 ∨ j = 1 ∨ j = 2 by omega) with rfl | rfl | rfl
      all_goals
        simp [lkC] at hj
        subst hj
        simpa [Addr.add] using hc)
    (fun u hu => by simp [lkC] at hu; rcases hu with rfl | rfl | rfl <;> rfl) (by unfold maxLen; omega) (by omega) hb
  exact ⟨v', w', h, Lib.hid ho, Lib.hid hg'⟩
theorem neww_ex {s n : Nat} {xs : List Value} {w : World} {A : Option Addr} (c : Nat) (h : Lst w A n xs) : ∃ v, ∃ x : Kin w, NewW s n xs v x.world := ⟨.slice A n c, Kin.me _, A, c, rfl, h⟩
theorem refwords_d (A : Option Addr) (N m c : Nat) (bs : List Bool) (w : World) (hN : 8 * m = N) (h : Lst w A N (bs.map Value.bool)) (hn : m ≤ 100000) :
    Calls Tryd.prog 35 #[.slice A N c] w fun e w' => ∃ v, e = .returned v ∧ Below w.heap.size w w' ∧ NewW w.heap.size m ((wordsOf bs m).map fun (x : Nat) => Value.int .u8 x) v w' := by
  subst hN
  refine (refwords_any A m c bs w h hn).mono ?_
  rintro e w' ⟨v, rfl, hown, hb⟩
  obtain ⟨A', c', rfl, _, _, hl⟩ := Lst.of_own hown
  exact ⟨_, rfl, hb, _, _, rfl, hl⟩
theorem convN {w : World} {A : Option Addr} {n c : Nat} {ns : List Nat} {S : ByteArray} (h : Lst w A n (ns.map fun (x : Nat) => Value.int .u8 x)) (hS : strB (ns.map fun (x : Nat) => (x : Int)) = S) : (convert 23 9 (.slice A n c)).run Tryd.prog w = .ok (.string S) w := by
  subst hS
  refine convB ?_
  rw [List.map_map]
  exact h
theorem lst_obj {w : World} {g n : Nat} {T : TypeId} {xs : List Value} (h : Obj1 w g T xs.toArray) (hn : xs.length = n) : Lst w (some ⟨g, 0, none⟩) n xs :=
  ⟨hn, fun _ => ⟨g, 0, rfl, h.lt, fun k hk => by rw [Nat.zero_add, h.cell, List.getElem?_toArray]⟩⟩
theorem eqi_four (W : World) (a b c d : Int) : (Op.equalIn 10000 57 (.agg #[.int .i64 a, .int .i64 b, .int .i64 c, .int .i64 d]) (.agg #[.int .i64 a, .int .i64 b, .int .i64 c, .int .i64 d])).run Tryd.prog W = .ok true W := by
  obtain ⟨i, hi, _⟩ := info_parts (show (Tryd.prog.info? 3).map (fun i => (i.zero, i.size, i.bytes)) = some (some (.int .i64 0), 1, 8) by kernel_rfl)
  rw [show (10000 : Nat) = 9999 + 1 from rfl, run_equalIn_array W 9999 _ _ Tryd.underlying57 hi, show Tryd.prog.cellsOf 3 = 1 by kernel_rfl, eqItems_arr W 9999 (by kernel_rfl) _ _ (fun i => .int .i64 (if i = 0 then a else if i = 1 then b else if i = 2 then c else d)) (fun i => .int .i64 (if i = 0 then a else if i = 1 then b else if i = 2 then c else d)) (fun i => (if i = 0 then a else if i = 1 then b else if i = 2 then c else d) == (if i = 0 then a else if i = 1 then b else if i = 2 then c else d)) (fun i => run_equalIn_int W 9998 3 .i64 .i64 _ _ Tryd.underlying3) _ (fun i hi => by
    have := List.mem_range.1 hi
    rcases (show i = 0 ∨ i = 1 ∨ i = 2 ∨ i = 3 by omega) with rfl | rfl | rfl | rfl
    all_goals exact ⟨rfl, rfl⟩)]
  simp
def LR (w : World) (gs base n N : Nat) (v i : Value) (wr : World) : Prop := ∃ j : Nat, j ≤ N ∧ j ≤ 120 ∧ i = .int .i64 j ∧ ∃ ls f, SL w gs base n v j ls f wr
/-- The loop over the bits. -/
def MRel (wc : World) (g0 n z : Nat) (f : Nat → Bool) (v a i : Value) (wx : World) : Prop :=
  ∃ (m : Nat) (av : Bool), m ≤ z ∧ i = .int .i64 m ∧ Hid (allN n f m = av) ∧ a = .bool av ∧ wx.ownsRow (g0 + 1) 4 1 v m ((bsM f m).map Value.bool) ∧ Obj1 wx g0 57 (oA f m 0) ∧ Below wc.heap.size wc wx ∧ g0 + 1 ≤ wx.heap.size
set_option maxRecDepth 100000 in
set_option maxHeartbeats 8000000 in
theorem walk_in (md0 : Int) (n : Nat) (A : Option Addr) (N c : Nat) (l0 : List Lk) (w : World) (hn : Go.bits BinOp.and IntKind.i64 md0 3 = (n : Int)) (hn3 : n ≤ 3) (hU : Up w) (hNb : N ≤ 9223372036854775807) (hi : InAt w A N l0) (hlb : ∀ p ∈ l0, p.2.2 < 256) :
    Calls Tryd.prog 6 #[.int .i64 md0, .slice A N c] w fun e w' => e = .returned (.bool true) ∧ Below w.heap.size w w' := by
  have HIN := Lib.hid hi
  have HLB := Lib.hid hlb
  have HU := Lib.hid hU
  have hn8 : n ≤ 8 := by omega
  obtain ⟨z, HZ⟩ : ∃ z, Hid (8 * n = z) := ⟨_, Lib.hid rfl⟩
  have hz24 : z ≤ 24 := by rw [← HZ.out]; omega
  have hw8 : IntKind.i64.wrap (8 * (n : Int)) = (z : Int) := (IntWalk.i64_in _ (by omega)).trans (by have := HZ.out; omega)
  have HSN := Lib.hid (fun W => snew_gen (n : Int) n (by omega) W)
  obtain ⟨gs, HGS⟩ : ∃ gs, Hid (w.heap.size = gs) := ⟨_, Lib.hid rfl⟩
  obtain ⟨i0, hi0, hz0, hz1, hz2⟩ := info_parts Ly2.info_bool
  have HD : Hid (decide (0 < n) = allN n (fun _ => false) 0) := Lib.hid (by unfold allN; simp)
  clear hi hlb hU
  go_enter Tryd.func6, Tryd.ntmps6
  go_wp2_with fail
  refine (HSN.out _).mono ?_
  rintro e w1 ⟨rfl, HS1, HB1⟩
  rw [HGS.out] at HS1 ⊢
  have hgs : w.heap.size ≤ gs := by rw [HGS.out]; exact Nat.le_refl _
  obtain ⟨base, HBASE⟩ : ∃ base, Hid (w1.heap.size = base) := ⟨_, Lib.hid rfl⟩
  have hgb : gs < base := by rw [← HBASE.out]; exact HS1.out.lt
  have HSL0 : Hid (SL w gs base n (.slice none 0 0) 0 [] (fun _ => false) w1) := Lib.hid {
    sh := HS1.out, holds := holds_nil, small := fun p hp => (by cases hp), len := Nat.le_refl _, own := ⟨rfl, .inl ⟨rfl, rfl⟩⟩, bel := HB1.out, size := by rw [HBASE.out]; exact Nat.le_refl _ }
  clear HS1 HB1 HSN
  go_upto_block 0 with (fail)
  go_cut [6, 7] from 28 to 90 (fun v _ wx => ∃ j ls f, j ≤ 120 ∧ SL w gs base n v j ls f wx)
  case first =>
    have HR0 : Hid (LR w gs base n N (.slice none 0 0) (.int .i64 0) w1) := Lib.hid ⟨0, by omega, by omega, rfl, _, _, HSL0.out⟩
    go_wp2_with fail
    go_loopw [6, 7] (fun v i wx => LR w gs base n N v i wx) (fun _ i _ => N - (intOf i).toNat)
    case atStart => exact HR0.out
    case round =>
      clear HR0 HSL0 HBASE
      obtain ⟨j, hj, hj8, rfl, ls, f, hsl⟩ := hrel
      have HSL := Lib.hid hsl
      clear hsl
      by_cases hjN : j < N
      · have hjNi : (j : Int) < (N : Int) := by omega
        by_cases hj80 : j < 120
        · have hj80i : (j : Int) < 120 := by omega
          obtain ⟨b, off, rfl, hblt, hc⟩ := HIN.out.2 (by omega)
          have hjl : j < l0.length := by rw [HIN.out.1]; exact hjN
          have hcj := hc j _ (List.getElem?_eq_getElem hjl)
          have hlb := HLB.out _ (List.getElem_mem hjl)
          obtain ⟨⟨m, y, l⟩, HP⟩ : ∃ p, Hid (l0[j]'hjl = p) := ⟨_, Lib.hid rfl⟩
          rw [HP.out] at hcj hlb
          simp only at hcj hlb
          have HCJ : Hid (∀ W, Below w.heap.size w W → W.cell? ⟨b, off + j * 3, none⟩ = some (.int .i64 m) ∧ W.cell? ⟨b, off + j * 3 + 1, none⟩ = some (.bool y) ∧ W.cell? ⟨b, off + j * 3 + 2, none⟩ = some (.int .u8 (l : Int))) := Lib.hid (fun W hW =>
            ⟨(hW.cell (p := ⟨b, off + j * 3, none⟩) hblt).trans hcj.1, (hW.cell (p := ⟨b, off + j * 3 + 1, none⟩) hblt).trans hcj.2.1, (hW.cell (p := ⟨b, off + j * 3 + 2, none⟩) hblt).trans hcj.2.2⟩)
          clear hc hcj
          have hdr : Below wr.heap.size wr wr.drew := (Below.refl _ _).drew
          have K0 : ∀ x : Kin wr.drew, x.world.cell? ⟨b, off + j * 3, none⟩ = some (.int .i64 m) := fun x => (HCJ.out x.world (HSL.out.bel.trans ((hdr.trans x.below).mono HSL.out.bel.size))).1
          have K1 : ∀ x : Kin wr.drew, x.world.cell? ⟨b, off + j * 3 + 1, none⟩ = some (.bool y) := fun x => (HCJ.out x.world (HSL.out.bel.trans ((hdr.trans x.below).mono HSL.out.bel.size))).2.1
          have K2 : ∀ x : Kin wr.drew, x.world.cell? ⟨b, off + j * 3 + 2, none⟩ = some (.int .u8 (l : Int)) := fun x => (HCJ.out x.world (HSL.out.bel.trans ((hdr.trans x.below).mono HSL.out.bel.size))).2.2
          by_cases hmz : 0 ≤ m ∧ m < (z : Int)
          · obtain ⟨mm, rfl⟩ : ∃ mm : Nat, m = (mm : Int) := ⟨m.toNat, by omega⟩
            have hmi : (mm : Int) < (z : Int) := hmz.2
            have hmm : mm < 8 * n := by rw [HZ.out]; omega
            clear hmz
            go_upto_region 7 with (fail)
            go_wp2_with fail
            refine wp_region_specL 16 [.d (.pointer (some ⟨gs, 0, none⟩)), .d (.slice (some ⟨b, off, none⟩) N c), .d (.int .i64 j), .d (.pointer (some ⟨b, off + j * 3, none⟩)), .d (.pointer (some ⟨b, off + j * 3, none⟩)), .d (.int .i64 mm), .d (.slice (some ⟨b, off, none⟩) N c), .d (.int .i64 j), .d (.pointer (some ⟨b, off + j * 3, none⟩)), .d (.pointer (some ⟨b, off + j * 3 + 1, none⟩)), .d (.bool y), .d (.slice (some ⟨b, off, none⟩) N c), .d (.int .i64 j), .d (.pointer (some ⟨b, off + j * 3, none⟩)), .d (.pointer (some ⟨b, off + j * 3 + 2, none⟩)), .d (.int .u8 l)] (by kernel_rfl) (by kernel_rfl) ?_
            refine spec_d rfl (fun x _ => gives_run (by go_simp)) ?_
            try simp only [Act.put, List.getElem_toArray, List.getElem_cons_succ, List.getElem_cons_zero, List.setIfInBounds_toArray, List.set_cons_zero, List.set_cons_succ]
            refine spec_d rfl (fun x _ => gives_run (by go_simp)) ?_
            try simp only [Act.put, List.getElem_toArray, List.getElem_cons_succ, List.getElem_cons_zero, List.setIfInBounds_toArray, List.set_cons_zero, List.set_cons_succ]
            refine spec_d rfl (fun x _ => gives_run (by go_simp)) ?_
            try simp only [Act.put, List.getElem_toArray, List.getElem_cons_succ, List.getElem_cons_zero, List.setIfInBounds_toArray, List.set_cons_zero, List.set_cons_succ]
            refine spec_d rfl (fun x _ => gives_run (by go_simp)) ?_
            try simp only [Act.put, List.getElem_toArray, List.getElem_cons_succ, List.getElem_cons_zero, List.setIfInBounds_toArray, List.set_cons_zero, List.set_cons_succ]
            refine spec_d rfl (fun x _ => gives_run (by go_simp)) ?_
            try simp only [Act.put, List.getElem_toArray, List.getElem_cons_succ, List.getElem_cons_zero, List.setIfInBounds_toArray, List.set_cons_zero, List.set_cons_succ]
            refine spec_d rfl (fun x _ => gives_run (by go_simp)) ?_
            try simp only [Act.put, List.getElem_toArray, List.getElem_cons_succ, List.getElem_cons_zero, List.setIfInBounds_toArray, List.set_cons_zero, List.set_cons_succ]
            refine spec_d rfl (fun x _ => gives_run (by go_simp)) ?_
            try simp only [Act.put, List.getElem_toArray, List.getElem_cons_succ, List.getElem_cons_zero, List.setIfInBounds_toArray, List.set_cons_zero, List.set_cons_succ]
            refine spec_d rfl (fun x _ => gives_run (by go_simp)) ?_
            try simp only [Act.put, List.getElem_toArray, List.getElem_cons_succ, List.getElem_cons_zero, List.setIfInBounds_toArray, List.set_cons_zero, List.set_cons_succ]
            refine spec_d rfl (fun x _ => gives_run (by go_simp)) ?_
            try simp only [Act.put, List.getElem_toArray, List.getElem_cons_succ, List.getElem_cons_zero, List.setIfInBounds_toArray, List.set_cons_zero, List.set_cons_succ]
            refine spec_d rfl (fun x _ => gives_run (by go_simp)) ?_
            try simp only [Act.put, List.getElem_toArray, List.getElem_cons_succ, List.getElem_cons_zero, List.setIfInBounds_toArray, List.set_cons_zero, List.set_cons_succ]
            refine spec_d rfl (fun x _ => gives_run (by go_simp)) ?_
            try simp only [Act.put, List.getElem_toArray, List.getElem_cons_succ, List.getElem_cons_zero, List.setIfInBounds_toArray, List.set_cons_zero, List.set_cons_succ]
            refine spec_d rfl (fun x _ => gives_run (by go_simp)) ?_
            try simp only [Act.put, List.getElem_toArray, List.getElem_cons_succ, List.getElem_cons_zero, List.setIfInBounds_toArray, List.set_cons_zero, List.set_cons_succ]
            refine spec_d rfl (fun x _ => gives_run (by go_simp)) ?_
            try simp only [Act.put, List.getElem_toArray, List.getElem_cons_succ, List.getElem_cons_zero, List.setIfInBounds_toArray, List.set_cons_zero, List.set_cons_succ]
            refine spec_d rfl (fun x _ => gives_run (by go_simp)) ?_
            try simp only [Act.put, List.getElem_toArray, List.getElem_cons_succ, List.getElem_cons_zero, List.setIfInBounds_toArray, List.set_cons_zero, List.set_cons_succ]
            refine spec_d rfl (fun x _ => gives_run (by go_simp)) ?_
            try simp only [Act.put, List.getElem_toArray, List.getElem_cons_succ, List.getElem_cons_zero, List.setIfInBounds_toArray, List.set_cons_zero, List.set_cons_succ]
            refine spec_d rfl (fun x _ => gives_run (by go_simp)) ?_
            try simp only [Act.put, List.getElem_toArray, List.getElem_cons_succ, List.getElem_cons_zero, List.setIfInBounds_toArray, List.set_cons_zero, List.set_cons_succ]
            refine spec_end (fun x hx => ?_)
            clear hx
            change wpAny _ _ _ _ (0 + 1) _ _ _
            refine wpAny_ready (rs := [16]) (by kernel_rfl) (by simp) ?_
            refine AllReady.cons rfl (fun KK hK => ?_) AllReady.nil
            go_simp
            refine (sput_any y (HSL.out.sh.kept (hdr.trans x.below)) hn8 hmm hlb (HU.out.kept ((HSL.out.bel).trans ((hdr.trans x.below).mono HSL.out.bel.size)))).mono ?_
            rintro e wa ⟨rfl, HSH, HWR⟩
            refine hK _ _ ?_
            clear hK KK
            try simp only [Act.put, List.getElem_toArray, List.getElem_cons_succ, List.getElem_cons_zero, List.setIfInBounds_toArray, List.set_cons_zero, List.set_cons_succ]
            refine wpAny_done (by kernel_rfl) ?_ _
            have hbx : Below wr.heap.size wr x.world := hdr.trans x.below
            have HSL2 := Lib.hid (HSL.out.kept hbx)
            have HBA := Lib.hid (HSL2.out.bel.trans (HWR.out.below hgs HSL2.out.bel.size))
            have HOA := Lib.hid (row_wrote HSL2.out.own HWR.out hgb)
            have HSZA := Lib.hid (Nat.le_trans HSL2.out.size HWR.out.size)
            clear K0 K1 K2 hbx hdr
            generalize x.world = wx at HSL2 HWR
            clear x
            have c0 := (HCJ.out wa HBA.out).1
            go_upto_region 9 with (fail)
            clear c0
            have hdr : Below wa.heap.size wa wa.drew := (Below.refl _ _).drew
            have K0 : ∀ x : Kin wa.drew, x.world.cell? ⟨b, off + j * 3, none⟩ = some (.int .i64 (mm : Int)) := fun x => (HCJ.out x.world (HBA.out.trans ((hdr.trans x.below).mono HBA.out.size))).1
            have K1 : ∀ x : Kin wa.drew, x.world.cell? ⟨b, off + j * 3 + 1, none⟩ = some (.bool y) := fun x => (HCJ.out x.world (HBA.out.trans ((hdr.trans x.below).mono HBA.out.size))).2.1
            have K2 : ∀ x : Kin wa.drew, x.world.cell? ⟨b, off + j * 3 + 2, none⟩ = some (.int .u8 (l : Int)) := fun x => (HCJ.out x.world (HBA.out.trans ((hdr.trans x.below).mono HBA.out.size))).2.2
            have hwl : IntKind.i64.wrap (l : Int) = (l : Int) := IntWalk.i64_in _ (by omega)
            go_wp2_with fail
            refine wp_region_specL 19 [.d u6, .d (.slice (some ⟨b, off, none⟩) N c), .d (.int .i64 j), .d (.pointer (some ⟨b, off + j * 3, none⟩)), .d (.pointer (some ⟨b, off + j * 3, none⟩)), .d (.int .i64 mm), .d (.slice (some ⟨b, off, none⟩) N c), .d (.int .i64 j), .d (.pointer (some ⟨b, off + j * 3, none⟩)), .d (.pointer (some ⟨b, off + j * 3 + 1, none⟩)), .d (.bool y), .d (.slice (some ⟨b, off, none⟩) N c), .d (.int .i64 j), .d (.pointer (some ⟨b, off + j * 3, none⟩)), .d (.pointer (some ⟨b, off + j * 3 + 2, none⟩)), .d (.int .u8 l), .d (.int .i64 l), .d (.agg #[.int .i64 mm, .bool y, .int .i64 l]), .g (New1 wa.heap.size TL #[.int .i64 mm, .bool y, .int .i64 l])] (by kernel_rfl) (by kernel_rfl) ?_
            refine spec_d rfl (fun x _ => gives_run (by go_simp)) ?_
            try simp only [Act.put, List.getElem_toArray, List.getElem_cons_succ, List.getElem_cons_zero, List.setIfInBounds_toArray, List.set_cons_zero, List.set_cons_succ]
            refine spec_d rfl (fun x _ => gives_run (by go_simp)) ?_
            try simp only [Act.put, List.getElem_toArray, List.getElem_cons_succ, List.getElem_cons_zero, List.setIfInBounds_toArray, List.set_cons_zero, List.set_cons_succ]
            refine spec_d rfl (fun x _ => gives_run (by go_simp)) ?_
            try simp only [Act.put, List.getElem_toArray, List.getElem_cons_succ, List.getElem_cons_zero, List.setIfInBounds_toArray, List.set_cons_zero, List.set_cons_succ]
            refine spec_d rfl (fun x _ => gives_run (by go_simp)) ?_
            try simp only [Act.put, List.getElem_toArray, List.getElem_cons_succ, List.getElem_cons_zero, List.setIfInBounds_toArray, List.set_cons_zero, List.set_cons_succ]
            refine spec_d rfl (fun x _ => gives_run (by go_simp)) ?_
            try simp only [Act.put, List.getElem_toArray, List.getElem_cons_succ, List.getElem_cons_zero, List.setIfInBounds_toArray, List.set_cons_zero, List.set_cons_succ]
            refine spec_d rfl (fun x _ => gives_run (by go_simp)) ?_
            try simp only [Act.put, List.getElem_toArray, List.getElem_cons_succ, List.getElem_cons_zero, List.setIfInBounds_toArray, List.set_cons_zero, List.set_cons_succ]
            refine spec_d rfl (fun x _ => gives_run (by go_simp)) ?_
            try simp only [Act.put, List.getElem_toArray, List.getElem_cons_succ, List.getElem_cons_zero, List.setIfInBounds_toArray, List.set_cons_zero, List.set_cons_succ]
            refine spec_d rfl (fun x _ => gives_run (by go_simp)) ?_
            try simp only [Act.put, List.getElem_toArray, List.getElem_cons_succ, List.getElem_cons_zero, List.setIfInBounds_toArray, List.set_cons_zero, List.set_cons_succ]
            refine spec_d rfl (fun x _ => gives_run (by go_simp)) ?_
            try simp only [Act.put, List.getElem_toArray, List.getElem_cons_succ, List.getElem_cons_zero, List.setIfInBounds_toArray, List.set_cons_zero, List.set_cons_succ]
            refine spec_d rfl (fun x _ => gives_run (by go_simp)) ?_
            try simp only [Act.put, List.getElem_toArray, List.getElem_cons_succ, List.getElem_cons_zero, List.setIfInBounds_toArray, List.set_cons_zero, List.set_cons_succ]
            refine spec_d rfl (fun x _ => gives_run (by go_simp)) ?_
            try simp only [Act.put, List.getElem_toArray, List.getElem_cons_succ, List.getElem_cons_zero, List.setIfInBounds_toArray, List.set_cons_zero, List.set_cons_succ]
            refine spec_d rfl (fun x _ => gives_run (by go_simp)) ?_
            try simp only [Act.put, List.getElem_toArray, List.getElem_cons_succ, List.getElem_cons_zero, List.setIfInBounds_toArray, List.set_cons_zero, List.set_cons_succ]
            refine spec_d rfl (fun x _ => gives_run (by go_simp)) ?_
            try simp only [Act.put, List.getElem_toArray, List.getElem_cons_succ, List.getElem_cons_zero, List.setIfInBounds_toArray, List.set_cons_zero, List.set_cons_succ]
            refine spec_d rfl (fun x _ => gives_run (by go_simp)) ?_
            try simp only [Act.put, List.getElem_toArray, List.getElem_cons_succ, List.getElem_cons_zero, List.setIfInBounds_toArray, List.set_cons_zero, List.set_cons_succ]
            refine spec_d rfl (fun x _ => gives_run (by go_simp)) ?_
            try simp only [Act.put, List.getElem_toArray, List.getElem_cons_succ, List.getElem_cons_zero, List.setIfInBounds_toArray, List.set_cons_zero, List.set_cons_succ]
            refine spec_d rfl (fun x _ => gives_run (by go_simp)) ?_
            try simp only [Act.put, List.getElem_toArray, List.getElem_cons_succ, List.getElem_cons_zero, List.setIfInBounds_toArray, List.set_cons_zero, List.set_cons_succ]
            refine spec_d rfl (fun x _ => gives_run (by go_simp)) ?_
            try simp only [Act.put, List.getElem_toArray, List.getElem_cons_succ, List.getElem_cons_zero, List.setIfInBounds_toArray, List.set_cons_zero, List.set_cons_succ]
            refine spec_d rfl (fun x _ => gives_run (by go_simp)) ?_
            try simp only [Act.put, List.getElem_toArray, List.getElem_cons_succ, List.getElem_cons_zero, List.setIfInBounds_toArray, List.set_cons_zero, List.set_cons_succ]
            refine spec_g (New1.stable _ _ _) (New1.ex _ _ (Nat.le_refl _)) rfl (fun x _ => gives_ok (by go_simp) (bel_new _ _) (New1.new x.below.size)) ?_
            rintro vg ⟨xg, gg, rfl, _, _⟩
            try simp only [Act.put, List.getElem_toArray, List.getElem_cons_succ, List.getElem_cons_zero, List.setIfInBounds_toArray, List.set_cons_zero, List.set_cons_succ]
            refine spec_end (fun x hx => ?_)
            have HNG := Lib.hid (New1.at (hx _ (List.mem_singleton.2 rfl)))
            clear hx
            have hbx : Below wa.heap.size wa x.world := hdr.trans x.below
            obtain ⟨v5, w5, hrun, HO5, HG5⟩ := append_look ((mm : Int), y, l) 52 (own_below HOA.out hbx) HNG.out (by have := HSL2.out.len; omega) (Nat.le_trans HSZA.out hbx.size)
            change wpAny _ _ _ _ (1 + 1) _ _ _
            refine wpAny_ready (rs := [19]) (by kernel_rfl) (by simp) ?_
            refine AllReady.cons rfl (fun KK hK => ?_) AllReady.nil
            rw [if_pos (by rfl)]
            refine upon_append (.tmp 71) (.tmp 89) 52 rfl rfl rfl hrun ?_
            refine hK _ _ ?_
            clear hK KK
            try simp only [Act.put, List.getElem_toArray, List.getElem_cons_succ, List.getElem_cons_zero, List.setIfInBounds_toArray, List.set_cons_zero, List.set_cons_succ]
            change wpAny _ _ _ _ (0 + 1) _ _ _
            refine wpAny_ready (rs := [20]) (by kernel_rfl) (by simp) ?_
            refine AllReady.cons rfl (fun KK hK => ?_) AllReady.nil
            go_simp
            refine hK _ _ ?_
            clear hK KK
            try simp only [Act.put, List.getElem_toArray, List.getElem_cons_succ, List.getElem_cons_zero, List.setIfInBounds_toArray, List.set_cons_zero, List.set_cons_succ]
            refine wpAny_done (by kernel_rfl) ?_ _
            have HSH5 := Lib.hid (ShF.grown (HSH.out.kept hbx) HG5.out (own_far HOA.out hgb))
            have hgw : w.heap.size ≤ base := by omega
            have HB5 := Lib.hid ((HBA.out.trans (hbx.mono HBA.out.size)).trans (((Below.refl _ _).grown HG5.out (Nat.le_trans HSZA.out hbx.size) (fun k hk => (HOA.out.lt k hk).1)).mono hgw))
            have HSZ5 := Lib.hid (Nat.le_trans (Nat.le_trans HSZA.out hbx.size) HG5.out.size)
            clear K0 K1 K2 hbx hdr hrun HNG hgw
            generalize x.world = wy at HG5
            clear HG5 x
            go_wp2
            go_roundw
            case rel => exact ⟨j + 1, by omega, by omega, by go_num, _, _, sl_next HSH5.out HSL2.out HO5.out HB5.out HSZ5.out hlb hmm hn8⟩
            case measure => simp [intOf]; omega
          · have hmo : m < 0 ∨ ((8 * n : Nat) : Int) ≤ m := by have := HZ.out; omega
            go_upto_region 7 with (fail)
            go_wp2_with fail
            refine wp_region_specL 16 [.d (.pointer (some ⟨gs, 0, none⟩)), .d (.slice (some ⟨b, off, none⟩) N c), .d (.int .i64 j), .d (.pointer (some ⟨b, off + j * 3, none⟩)), .d (.pointer (some ⟨b, off + j * 3, none⟩)), .d (.int .i64 m), .d (.slice (some ⟨b, off, none⟩) N c), .d (.int .i64 j), .d (.pointer (some ⟨b, off + j * 3, none⟩)), .d (.pointer (some ⟨b, off + j * 3 + 1, none⟩)), .d (.bool y), .d (.slice (some ⟨b, off, none⟩) N c), .d (.int .i64 j), .d (.pointer (some ⟨b, off + j * 3, none⟩)), .d (.pointer (some ⟨b, off + j * 3 + 2, none⟩)), .d (.int .u8 l)] (by kernel_rfl) (by kernel_rfl) ?_
            refine spec_d rfl (fun x _ => gives_run (by go_simp)) ?_
            try simp only [Act.put, List.getElem_toArray, List.getElem_cons_succ, List.getElem_cons_zero, List.setIfInBounds_toArray, List.set_cons_zero, List.set_cons_succ]
            refine spec_d rfl (fun x _ => gives_run (by go_simp)) ?_
            try simp only [Act.put, List.getElem_toArray, List.getElem_cons_succ, List.getElem_cons_zero, List.setIfInBounds_toArray, List.set_cons_zero, List.set_cons_succ]
            refine spec_d rfl (fun x _ => gives_run (by go_simp)) ?_
            try simp only [Act.put, List.getElem_toArray, List.getElem_cons_succ, List.getElem_cons_zero, List.setIfInBounds_toArray, List.set_cons_zero, List.set_cons_succ]
            refine spec_d rfl (fun x _ => gives_run (by go_simp)) ?_
            try simp only [Act.put, List.getElem_toArray, List.getElem_cons_succ, List.getElem_cons_zero, List.setIfInBounds_toArray, List.set_cons_zero, List.set_cons_succ]
            refine spec_d rfl (fun x _ => gives_run (by go_simp)) ?_
            try simp only [Act.put, List.getElem_toArray, List.getElem_cons_succ, List.getElem_cons_zero, List.setIfInBounds_toArray, List.set_cons_zero, List.set_cons_succ]
            refine spec_d rfl (fun x _ => gives_run (by go_simp)) ?_
            try simp only [Act.put, List.getElem_toArray, List.getElem_cons_succ, List.getElem_cons_zero, List.setIfInBounds_toArray, List.set_cons_zero, List.set_cons_succ]
            refine spec_d rfl (fun x _ => gives_run (by go_simp)) ?_
            try simp only [Act.put, List.getElem_toArray, List.getElem_cons_succ, List.getElem_cons_zero, List.setIfInBounds_toArray, List.set_cons_zero, List.set_cons_succ]
            refine spec_d rfl (fun x _ => gives_run (by go_simp)) ?_
            try simp only [Act.put, List.getElem_toArray, List.getElem_cons_succ, List.getElem_cons_zero, List.setIfInBounds_toArray, List.set_cons_zero, List.set_cons_succ]
            refine spec_d rfl (fun x _ => gives_run (by go_simp)) ?_
            try simp only [Act.put, List.getElem_toArray, List.getElem_cons_succ, List.getElem_cons_zero, List.setIfInBounds_toArray, List.set_cons_zero, List.set_cons_succ]
            refine spec_d rfl (fun x _ => gives_run (by go_simp)) ?_
            try simp only [Act.put, List.getElem_toArray, List.getElem_cons_succ, List.getElem_cons_zero, List.setIfInBounds_toArray, List.set_cons_zero, List.set_cons_succ]
            refine spec_d rfl (fun x _ => gives_run (by go_simp)) ?_
            try simp only [Act.put, List.getElem_toArray, List.getElem_cons_succ, List.getElem_cons_zero, List.setIfInBounds_toArray, List.set_cons_zero, List.set_cons_succ]
            refine spec_d rfl (fun x _ => gives_run (by go_simp)) ?_
            try simp only [Act.put, List.getElem_toArray, List.getElem_cons_succ, List.getElem_cons_zero, List.setIfInBounds_toArray, List.set_cons_zero, List.set_cons_succ]
            refine spec_d rfl (fun x _ => gives_run (by go_simp)) ?_
            try simp only [Act.put, List.getElem_toArray, List.getElem_cons_succ, List.getElem_cons_zero, List.setIfInBounds_toArray, List.set_cons_zero, List.set_cons_succ]
            refine spec_d rfl (fun x _ => gives_run (by go_simp)) ?_
            try simp only [Act.put, List.getElem_toArray, List.getElem_cons_succ, List.getElem_cons_zero, List.setIfInBounds_toArray, List.set_cons_zero, List.set_cons_succ]
            refine spec_d rfl (fun x _ => gives_run (by go_simp)) ?_
            try simp only [Act.put, List.getElem_toArray, List.getElem_cons_succ, List.getElem_cons_zero, List.setIfInBounds_toArray, List.set_cons_zero, List.set_cons_succ]
            refine spec_d rfl (fun x _ => gives_run (by go_simp)) ?_
            try simp only [Act.put, List.getElem_toArray, List.getElem_cons_succ, List.getElem_cons_zero, List.setIfInBounds_toArray, List.set_cons_zero, List.set_cons_succ]
            refine spec_end (fun x hx => ?_)
            clear hx
            change wpAny _ _ _ _ (0 + 1) _ _ _
            refine wpAny_ready (rs := [16]) (by kernel_rfl) (by simp) ?_
            refine AllReady.cons rfl (fun KK hK => ?_) AllReady.nil
            go_simp
            refine (sput_out (HSL.out.sh.kept (hdr.trans x.below)) hn8 m y l hmo).mono ?_
            rintro e wa ⟨rfl, rfl⟩
            refine hK _ _ ?_
            clear hK KK
            try simp only [Act.put, List.getElem_toArray, List.getElem_cons_succ, List.getElem_cons_zero, List.setIfInBounds_toArray, List.set_cons_zero, List.set_cons_succ]
            refine wpAny_done (by kernel_rfl) ?_ _
            have hbx : Below wr.heap.size wr x.world := hdr.trans x.below
            have HSL2 := Lib.hid (sl_more (HSL.out.kept hbx))
            have c0 := (HCJ.out x.world (HSL.out.bel.trans (hbx.mono HSL.out.bel.size))).1
            clear K0 K1 K2 hbx hdr
            generalize x.world = wy at HSL2 c0
            clear x
            rcases (show m < 0 ∨ (0 ≤ m ∧ ¬ m < (z : Int)) by omega) with h | ⟨h, h1⟩
            · clear hmz hmo
              go_wp2
              go_roundw
              case rel => exact ⟨j + 1, by omega, by omega, by go_num, _, _, HSL2.out⟩
              case measure => simp [intOf]; omega
            · have h2 : decide (m < (z : Int)) = false := decide_eq_false h1
              clear hmz hmo
              go_wp2
              go_roundw
              case rel => exact ⟨j + 1, by omega, by omega, by go_num, _, _, HSL2.out⟩
              case measure => simp [intOf]; omega
        · obtain rfl : j = 120 := by omega
          go_wp2
          go_meet
          exact ⟨120, ls, f, by omega, HSL.out⟩
      · obtain rfl : j = N := by omega
        go_wp2
        go_meet
        exact ⟨j, ls, f, hj8, HSL.out⟩
  case rest =>
    obtain ⟨j, ls, f, hj8, hsl⟩ := hcut
    have HSL := Lib.hid hsl
    obtain ⟨Ar, cr, rfl, hcr, hlk⟩ := looks_own hsl.own
    have HLK := Lib.hid hlk
    have hq80 : ls.length ≤ 120 := Nat.le_trans hsl.len hj8
    obtain ⟨q, HQ⟩ : ∃ q, Hid (ls.length = q) := ⟨_, Lib.hid rfl⟩
    rw [HQ.out] at HLK hq80 hcr ⊢
    clear hsl hlk HSL0 HBASE
    rw [show allN n (fun _ => false) 0 = allN n f 0 by simp [allN]] at HD
    obtain ⟨g0, HG0⟩ : ∃ g, Hid (wc.heap.size = g) := ⟨_, Lib.hid rfl⟩
    obtain ⟨W1, HW1⟩ : ∃ W1, W1 = wc.alloc (.cells #[.int .i64 0, .int .i64 0, .int .i64 0, .int .i64 0] 57) := ⟨_, rfl⟩
    have HO0 : Hid (Obj1 W1 g0 57 (oA f 0 0)) := Lib.hid (by
      have := Obj1.new wc 57 #[.int .i64 0, .int .i64 0, .int .i64 0, .int .i64 0]
      rw [HG0.out] at this
      rw [HW1]
      exact this)
    have HBW1 : Hid (Below wc.heap.size wc W1) := Lib.hid (by rw [HW1]; exact bel_new _ _)
    have HSZ1 : Hid (W1.heap.size = g0 + 1) := Lib.hid (by rw [HW1, ← HG0.out]; simp)
    go_upto_block 2 with (fail)
    rw [← HW1, HG0.out, HD.out]
    clear HW1
    go_cut [8, 9, 11, 12, 13, 14, 15, 16, 17] from 93 to 150 (fun v a _ _ _ _ _ _ _ wx => MRel wc g0 n z f v a (.int .i64 z) wx)
    case first =>
      go_wp2_with fail
      go_loopw [8, 9, 11] (fun v a i wx => MRel wc g0 n z f v a i wx) (fun _ _ i _ => z - (intOf i).toNat)
      case atStart => exact ⟨0, _, by omega, rfl, Lib.hid rfl, rfl, ⟨rfl, .inl ⟨rfl, rfl⟩⟩, HO0.out, HBW1.out, by rw [HSZ1.out]; exact Nat.le_refl _⟩
      case round =>
        clear HO0 HBW1 HSZ1 HD
        obtain ⟨m, av, hm, rfl, HAV, rfl, hown, hoa, hbel, hsz⟩ := hrel
        have HOWN := Lib.hid hown
        have HOA := Lib.hid hoa
        have HBEL := Lib.hid hbel
        have HSZ := Lib.hid hsz
        clear hown hoa hbel hsz
        by_cases hlt : m < z
        · have hki : (m : Int) < (z : Int) := by omega
          obtain ⟨⟨p0, q0⟩, e0⟩ : ∃ pq, lineF f 0 m = pq := ⟨_, rfl⟩
          obtain ⟨⟨p1, q1⟩, e1⟩ : ∃ pq, lineF f 1 m = pq := ⟨_, rfl⟩
          obtain ⟨⟨p2, q2⟩, e2⟩ : ∃ pq, lineF f 2 m = pq := ⟨_, rfl⟩
          obtain ⟨⟨p3, q3⟩, e3⟩ : ∃ pq, lineF f 3 m = pq := ⟨_, rfl⟩
          have HE := Lib.hid (show lineF f 0 m = (p0, q0) ∧ lineF f 1 m = (p1, q1) ∧ lineF f 2 m = (p2, q2) ∧ lineF f 3 m = (p3, q3) from ⟨e0, e1, e2, e3⟩)
          have HBE : Hid (bitB p0 p1 p2 p3 q0 q1 q2 q3 = bN f m ∧ okB p0 p1 p2 p3 q0 q1 q2 q3 = oN f m) := Lib.hid (by unfold bN oN; rw [e0, e1, e2, e3]; exact ⟨rfl, rfl⟩)
          have HOF := Lib.hid (fun W => rof_any p0 p1 p2 p3 q0 q1 q2 q3 W)
          rw [HBE.out.1, HBE.out.2] at HOF
          obtain ⟨bv, hbv⟩ : ∃ bv, bN f m = bv := ⟨_, rfl⟩
          obtain ⟨ov, hov⟩ : ∃ ov, oN f m = ov := ⟨_, rfl⟩
          have HSN := Lib.hid (bsM_snoc f m)
          have HAN := Lib.hid (allN_succ n f m)
          rw [HAV.out, hov] at HAN
          rw [hbv] at HSN
          have HE0 : Hid ((ov && (!q0 || (p0 != bv))) = oddB f 0 m) := Lib.hid (by unfold oddB; rw [hov, hbv, e0])
          have HE1 : Hid ((ov && (!q1 || (p1 != bv))) = oddB f 1 m) := Lib.hid (by unfold oddB; rw [hov, hbv, e1])
          have HE2 : Hid ((ov && (!q2 || (p2 != bv))) = oddB f 2 m) := Lib.hid (by unfold oddB; rw [hov, hbv, e2])
          have HE3 : Hid ((ov && (!q3 || (p3 != bv))) = oddB f 3 m) := Lib.hid (by unfold oddB; rw [hov, hbv, e3])
          rw [hbv, hov] at HOF
          have HOV := Lib.hid hov
          clear e0 e1 e2 e3 HBE hbv hov
          have R0 : Hid (∀ W, Below wc.heap.size wc W → Calls Tryd.prog 30 #[.slice Ar q cr, .int .i64 0, .int .i64 m] W fun e w' => e = .returned (.tuple #[.bool p0, .bool q0]) ∧ W = w') := Lib.hid (fun W hW => by
            have h := rline_any (c := cr) (k := 0) (m := m) (HLK.out.kept hW) (by omega) HSL.out.small (by omega)
            rw [← line_eq HSL.out.holds (by omega) (by omega), HE.out.1] at h
            exact h)
          have R1 : Hid (∀ W, Below wc.heap.size wc W → Calls Tryd.prog 30 #[.slice Ar q cr, .int .i64 1, .int .i64 m] W fun e w' => e = .returned (.tuple #[.bool p1, .bool q1]) ∧ W = w') := Lib.hid (fun W hW => by
            have h := rline_any (c := cr) (k := 1) (m := m) (HLK.out.kept hW) (by omega) HSL.out.small (by omega)
            rw [← line_eq HSL.out.holds (by omega) (by omega), HE.out.2.1] at h
            exact h)
          have R2 : Hid (∀ W, Below wc.heap.size wc W → Calls Tryd.prog 30 #[.slice Ar q cr, .int .i64 2, .int .i64 m] W fun e w' => e = .returned (.tuple #[.bool p2, .bool q2]) ∧ W = w') := Lib.hid (fun W hW => by
            have h := rline_any (c := cr) (k := 2) (m := m) (HLK.out.kept hW) (by omega) HSL.out.small (by omega)
            rw [← line_eq HSL.out.holds (by omega) (by omega), HE.out.2.2.1] at h
            exact h)
          have R3 : Hid (∀ W, Below wc.heap.size wc W → Calls Tryd.prog 30 #[.slice Ar q cr, .int .i64 3, .int .i64 m] W fun e w' => e = .returned (.tuple #[.bool p3, .bool q3]) ∧ W = w') := Lib.hid (fun W hW => by
            have h := rline_any (c := cr) (k := 3) (m := m) (HLK.out.kept hW) (by omega) HSL.out.small (by omega)
            rw [← line_eq HSL.out.holds (by omega) (by omega), HE.out.2.2.2] at h
            exact h)
          obtain ⟨WX, HWX⟩ : ∃ WX, WX = (wr.alloc (.cells #[.bool false, .bool false, .bool false, .bool false] 38)).alloc (.cells #[.bool false, .bool false, .bool false, .bool false] 38) := ⟨_, rfl⟩
          obtain ⟨g5, HG5⟩ : ∃ g, Hid (wr.heap.size = g) := ⟨_, Lib.hid rfl⟩
          have hg5 : g0 < g5 := by have := HG5.out; have := HSZ.out; omega
          have HPX : Hid (Obj1 WX g5 38 (stA p0 p1 p2 p3 0)) := Lib.hid (by
            have := (Obj1.new wr 38 #[.bool false, .bool false, .bool false, .bool false]).alloc (.cells #[.bool false, .bool false, .bool false, .bool false] 38)
            rw [HG5.out] at this
            rw [HWX]
            exact this)
          have HQX : Hid (Obj1 WX (g5 + 1) 38 (stA q0 q1 q2 q3 0)) := Lib.hid (by
            have := Obj1.new (wr.alloc (.cells #[.bool false, .bool false, .bool false, .bool false] 38)) 38 #[.bool false, .bool false, .bool false, .bool false]
            rw [show (wr.alloc (.cells #[.bool false, .bool false, .bool false, .bool false] 38)).heap.size = wr.heap.size + 1 by simp, HG5.out] at this
            rw [HWX]
            exact this)
          have HBX : Hid (Below wr.heap.size wr WX) := Lib.hid (by rw [HWX]; exact ((Below.refl _ _).alloc (Nat.le_refl _) _).alloc (by simp) _)
          go_upto_block 4 with (fail)
          rw [← HWX, HG5.out]
          clear HWX
          go_cut [14] from 99 to 113 (fun _ wx => Obj1 wx g5 38 #[.bool p0, .bool p1, .bool p2, .bool p3] ∧ Obj1 wx (g5 + 1) 38 #[.bool q0, .bool q1, .bool q2, .bool q3] ∧ Below wr.heap.size wr wx)
          case first =>
            go_wp2_with fail
            go_loopw [14] (fun i wx => ∃ k : Nat, k ≤ 4 ∧ i = .int .i64 k ∧ Obj1 wx g5 38 (stA p0 p1 p2 p3 k) ∧ Obj1 wx (g5 + 1) 38 (stA q0 q1 q2 q3 k) ∧ Below wr.heap.size wr wx) (fun i _ => 4 - (intOf i).toNat)
            case atStart => exact ⟨0, by omega, rfl, HPX.out, HQX.out, HBX.out⟩
            case round =>
              clear HPX HQX HBX HOF HE0 HE1 HE2 HE3
              obtain ⟨k, hk, rfl, hp, hq, hb5⟩ := hrel
              have HP := Lib.hid hp
              have HQ5 := Lib.hid hq
              have HB5 := Lib.hid hb5
              have HBC := Lib.hid (HBEL.out.trans (hb5.mono HBEL.out.size))
              have hltp := hp.lt
              have hltq := hq.lt
              clear hp hq hb5
              rcases (show k = 0 ∨ k = 1 ∨ k = 2 ∨ k = 3 ∨ k = 4 by omega) with rfl | rfl | rfl | rfl | rfl
              · have cp := HP.out.cell 0
                have cq := HQ5.out.cell 0
                have fp := HP.out.free 0
                have fq := HQ5.out.free 0
                simp [stA] at cp cq
                go_wp2_with fail
                refine (R0.out _ HBC.out).mono ?_
                rintro e w' ⟨rfl, rfl⟩
                go_wp2
                go_roundw
                case rel => exact ⟨1, by omega, rfl, (HP.out.set 0 (.bool p0)).far _ (by simp) _, (HQ5.out.far ⟨g5, 0, none⟩ (by simp) _).set 0 (.bool q0), (HB5.out.setCell (by have := HG5.out; simp; omega) _).setCell (by have := HG5.out; simp; omega) _⟩
                case measure => simp [intOf]
              · have cp := HP.out.cell 1
                have cq := HQ5.out.cell 1
                have fp := HP.out.free 1
                have fq := HQ5.out.free 1
                simp [stA] at cp cq
                go_wp2_with fail
                refine (R1.out _ HBC.out).mono ?_
                rintro e w' ⟨rfl, rfl⟩
                go_wp2
                go_roundw
                case rel => exact ⟨2, by omega, rfl, (HP.out.set 1 (.bool p1)).far _ (by simp) _, (HQ5.out.far ⟨g5, 1, none⟩ (by simp) _).set 1 (.bool q1), (HB5.out.setCell (by have := HG5.out; simp; omega) _).setCell (by have := HG5.out; simp; omega) _⟩
                case measure => simp [intOf]
              · have cp := HP.out.cell 2
                have cq := HQ5.out.cell 2
                have fp := HP.out.free 2
                have fq := HQ5.out.free 2
                simp [stA] at cp cq
                go_wp2_with fail
                refine (R2.out _ HBC.out).mono ?_
                rintro e w' ⟨rfl, rfl⟩
                go_wp2
                go_roundw
                case rel => exact ⟨3, by omega, rfl, (HP.out.set 2 (.bool p2)).far _ (by simp) _, (HQ5.out.far ⟨g5, 2, none⟩ (by simp) _).set 2 (.bool q2), (HB5.out.setCell (by have := HG5.out; simp; omega) _).setCell (by have := HG5.out; simp; omega) _⟩
                case measure => simp [intOf]
              · have cp := HP.out.cell 3
                have cq := HQ5.out.cell 3
                have fp := HP.out.free 3
                have fq := HQ5.out.free 3
                simp [stA] at cp cq
                go_wp2_with fail
                refine (R3.out _ HBC.out).mono ?_
                rintro e w' ⟨rfl, rfl⟩
                go_wp2
                go_roundw
                case rel => exact ⟨4, by omega, rfl, (HP.out.set 3 (.bool p3)).far _ (by simp) _, (HQ5.out.far ⟨g5, 3, none⟩ (by simp) _).set 3 (.bool q3), (HB5.out.setCell (by have := HG5.out; simp; omega) _).setCell (by have := HG5.out; simp; omega) _⟩
                case measure => simp [intOf]
              · go_wp2
                go_meet
                exact ⟨HP.out, HQ5.out, HB5.out⟩
          case rest =>
            obtain ⟨hp, hq, hb5⟩ := hcut
            have HP := Lib.hid hp
            have HQ5 := Lib.hid hq
            have HB5 := Lib.hid hb5
            have HOA5 := Lib.hid (HOA.out.kept hb5)
            have HOW5 := Lib.hid (own_below HOWN.out hb5)
            have HBC := Lib.hid (HBEL.out.trans (hb5.mono HBEL.out.size))
            have a0 := hp.cell 0
            have a1 := hp.cell 1
            have a2 := hp.cell 2
            have a3 := hp.cell 3
            have b0 := hq.cell 0
            have b1 := hq.cell 1
            have b2 := hq.cell 2
            have b3 := hq.cell 3
            simp at a0 a1 a2 a3 b0 b1 b2 b3
            have HSZ5 := Lib.hid (Nat.le_trans HSZ.out hb5.size)
            clear hp hq hb5 HPX HQX HBX R0 R1 R2 R3
            go_wp2_with fail
            refine (HOF.out _).mono ?_
            rintro e wb ⟨rfl, hbb⟩
            have HPb := Lib.hid (HP.out.kept hbb)
            have HQb := Lib.hid (HQ5.out.kept hbb)
            have HOb := Lib.hid (HOA5.out.kept hbb)
            have HWb := Lib.hid (own_below HOW5.out hbb)
            have HCb := Lib.hid (HBC.out.trans (hbb.mono HBC.out.size))
            have HSb := Lib.hid (Nat.le_trans HSZ5.out hbb.size)
            have HPN := Lib.hid (own_new HOWN.out (g := g5) (by rw [HG5.out]; exact Nat.le_refl _))
            have HQN := Lib.hid (own_new HOWN.out (g := g5 + 1) (by rw [HG5.out]; omega))
            clear a0 a1 a2 a3 b0 b1 b2 b3 hbb HOF HP HQ5 HOA5 HOW5 HBC HB5 HOA HOWN HBEL
            go_upto_region 23 with (at_builtin; refine push1k _ rfl (.tmp 120) (.tmp 122) 27 rfl (g0 + 1) 4 i0 (.bool false) 1 Tryd.underlying27 hi0 hz0 hz1 hz2 rfl _ _ _ rfl HWb.out (.bool bv) _ rfl rfl (by unfold maxLen; omega) (by omega) HSb.out ?_; intro v2 w2 hown2 hbel2 hg2 _)
            have HPc := Lib.hid (HPb.out.grown hg2 HPN.out)
            have HQc := Lib.hid (HQb.out.grown hg2 HQN.out)
            have HOc := Lib.hid (HOb.out.below hbel2 (by omega))
            have HWc : Hid (w2.ownsRow (g0 + 1) 4 1 v2 (m + 1) ((bsM f (m + 1)).map Value.bool)) := Lib.hid (by rw [HSN.out, List.map_append]; exact hown2)
            have HCc := Lib.hid (HCb.out.trans (hbel2.mono (by have := HG0.out; omega)))
            have HSc := Lib.hid (Nat.le_trans HSb.out hbel2.size)
            clear hown2 hbel2 hg2 HPb HQb HOb HWb HCb HSb HPN HQN
            go_cut [9] from 124 to 127 (fun a wx => ∃ av', Hid (allN n f (m + 1) = av') ∧ a = .bool av' ∧ w2 = wx)
            case first =>
              have HX := Lib.hid (show ∀ x, (av && ov) = x → allN n f (m + 1) = x from fun x h => HAN.out.trans h)
              cases av <;> cases ov
              all_goals
                go_wp2
                go_meet
                exact ⟨_, Lib.hid (HX.out _ rfl), rfl, rfl⟩
            case rest =>
              obtain ⟨av', HAV', rfl, rfl⟩ := hcut
              go_upto_block 6 with (fail)
              cases ov
              · have HSM := Lib.hid (oA_same HOV.out)
                have HO := Lib.hid (show Obj1 w2 g0 57 (oA f (m + 1) 0) by rw [← HSM.out]; exact HOc.out)
                have HW := Lib.hid (Wrote.refl g0 w2)
                go_wp2_with fail
                refine wp_loop_rounds 1 ?_
                rw [rounds_succ]
                have HWD := Lib.hid (row_wrote HWc.out HW.out (by omega))
                have HCD := Lib.hid (HCc.out.trans (HW.out.below (by have := HG0.out; omega) HCc.out.size))
                have HSD := Lib.hid (Nat.le_trans HSc.out HW.out.size)
                go_wp2
                go_roundw
                case rel => exact ⟨m + 1, av', by omega, by go_num, HAV', rfl, HWD.out, HO.out, HCD.out, HSD.out⟩
                case measure => simp [intOf]; omega
              · go_wp2_with fail
                go_loopw [17] (fun i wx => ∃ k : Nat, k ≤ 4 ∧ i = .int .i64 k ∧ Obj1 wx g0 57 (oA f m k) ∧ Wrote g0 w2 wx) (fun i _ => 4 - (intOf i).toNat)
                case atStart => exact ⟨0, by omega, rfl, HOc.out, Wrote.refl _ _⟩
                case round =>
                  obtain ⟨k, hk, rfl, hoa, hw⟩ := hrel
                  have hp4 := HPc.out.touch hw (by omega)
                  have hq4 := HQc.out.touch hw (by omega)
                  rcases (show k = 0 ∨ k = 1 ∨ k = 2 ∨ k = 3 ∨ k = 4 by omega) with rfl | rfl | rfl | rfl | rfl
                  · have c1 : wr.cell? ⟨g5 + 1, 0, none⟩ = some (.bool q0) := hq4.cell 0
                    have c2 : wr.cell? ⟨g5, 0, none⟩ = some (.bool p0) := hp4.cell 0
                    have c3 : wr.cell? ⟨g0, 0, none⟩ = some (.int .i64 (oddN f 0 m : Int)) := (hoa.cell 0).trans (by show some (oV f m 0 0) = _; rw [oV_at])
                    have f3 := hoa.free 0
                    have hlt3 := hoa.lt
                    have hle := oddN_le f 0 m
                    have hww : IntKind.i64.wrap ((oddN f 0 m : Int) + 1) = (oddN f 0 m : Int) + 1 := IntWalk.i64_in _ (by omega)
                    have HO := Lib.hid hoa
                    have HW := Lib.hid hw
                    have hob := HE0.out
                    clear hoa hp4 hq4 hw
                    cases hod : oddB f 0 m
                    · rw [hod] at hob
                      have HNO : Hid (oA f m (0 + 1) = oA f m 0) := Lib.hid (oA_off hod)
                      clear hod
                      cases q0
                      · simp at hob
                      · clear HE0 HE1 HE2 HE3
                        cases p0 <;> cases bv <;> simp at hob
                        all_goals
                          go_wp2
                          go_roundw
                          case rel => exact ⟨0 + 1, by omega, rfl, by rw [HNO.out]; exact HO.out, HW.out⟩
                          case measure => simp [intOf]
                    · rw [hod] at hob
                      have HYE := Lib.hid (oA_on (f := f) (m := m) (k := 0) (by omega) hod)
                      clear hod
                      generalize oddN f 0 m = od at c3 hww hle HYE
                      cases q0
                      · clear hob HE0 HE1 HE2 HE3
                        go_wp2
                        go_roundw
                        case rel => exact ⟨0 + 1, by omega, rfl, by rw [← HYE.out]; exact HO.out.set 0 _, HW.out.set (.inl rfl) _⟩
                        case measure => simp [intOf]
                      · clear HE0 HE1 HE2 HE3
                        cases p0 <;> cases bv <;> simp at hob
                        all_goals
                          go_wp2
                          go_roundw
                          case rel => exact ⟨0 + 1, by omega, rfl, by rw [← HYE.out]; exact HO.out.set 0 _, HW.out.set (.inl rfl) _⟩
                          case measure => simp [intOf]
                  · have c1 : wr.cell? ⟨g5 + 1, 1, none⟩ = some (.bool q1) := hq4.cell 1
                    have c2 : wr.cell? ⟨g5, 1, none⟩ = some (.bool p1) := hp4.cell 1
                    have c3 : wr.cell? ⟨g0, 1, none⟩ = some (.int .i64 (oddN f 1 m : Int)) := (hoa.cell 1).trans (by show some (oV f m 1 1) = _; rw [oV_at])
                    have f3 := hoa.free 1
                    have hlt3 := hoa.lt
                    have hle := oddN_le f 1 m
                    have hww : IntKind.i64.wrap ((oddN f 1 m : Int) + 1) = (oddN f 1 m : Int) + 1 := IntWalk.i64_in _ (by omega)
                    have HO := Lib.hid hoa
                    have HW := Lib.hid hw
                    have hob := HE1.out
                    clear hoa hp4 hq4 hw
                    cases hod : oddB f 1 m
                    · rw [hod] at hob
                      have HNO : Hid (oA f m (1 + 1) = oA f m 1) := Lib.hid (oA_off hod)
                      clear hod
                      cases q1
                      · simp at hob
                      · clear HE0 HE1 HE2 HE3
                        cases p1 <;> cases bv <;> simp at hob
                        all_goals
                          go_wp2
                          go_roundw
                          case rel => exact ⟨1 + 1, by omega, rfl, by rw [HNO.out]; exact HO.out, HW.out⟩
                          case measure => simp [intOf]
                    · rw [hod] at hob
                      have HYE := Lib.hid (oA_on (f := f) (m := m) (k := 1) (by omega) hod)
                      clear hod
                      generalize oddN f 1 m = od at c3 hww hle HYE
                      cases q1
                      · clear hob HE0 HE1 HE2 HE3
                        go_wp2
                        go_roundw
                        case rel => exact ⟨1 + 1, by omega, rfl, by rw [← HYE.out]; exact HO.out.set 1 _, HW.out.set (.inl rfl) _⟩
                        case measure => simp [intOf]
                      · clear HE0 HE1 HE2 HE3
                        cases p1 <;> cases bv <;> simp at hob
                        all_goals
                          go_wp2
                          go_roundw
                          case rel => exact ⟨1 + 1, by omega, rfl, by rw [← HYE.out]; exact HO.out.set 1 _, HW.out.set (.inl rfl) _⟩
                          case measure => simp [intOf]
                  · have c1 : wr.cell? ⟨g5 + 1, 2, none⟩ = some (.bool q2) := hq4.cell 2
                    have c2 : wr.cell? ⟨g5, 2, none⟩ = some (.bool p2) := hp4.cell 2
                    have c3 : wr.cell? ⟨g0, 2, none⟩ = some (.int .i64 (oddN f 2 m : Int)) := (hoa.cell 2).trans (by show some (oV f m 2 2) = _; rw [oV_at])
                    have f3 := hoa.free 2
                    have hlt3 := hoa.lt
                    have hle := oddN_le f 2 m
                    have hww : IntKind.i64.wrap ((oddN f 2 m : Int) + 1) = (oddN f 2 m : Int) + 1 := IntWalk.i64_in _ (by omega)
                    have HO := Lib.hid hoa
                    have HW := Lib.hid hw
                    have hob := HE2.out
                    clear hoa hp4 hq4 hw
                    cases hod : oddB f 2 m
                    · rw [hod] at hob
                      have HNO : Hid (oA f m (2 + 1) = oA f m 2) := Lib.hid (oA_off hod)
                      clear hod
                      cases q2
                      · simp at hob
                      · clear HE0 HE1 HE2 HE3
                        cases p2 <;> cases bv <;> simp at hob
                        all_goals
                          go_wp2
                          go_roundw
                          case rel => exact ⟨2 + 1, by omega, rfl, by rw [HNO.out]; exact HO.out, HW.out⟩
                          case measure => simp [intOf]
                    · rw [hod] at hob
                      have HYE := Lib.hid (oA_on (f := f) (m := m) (k := 2) (by omega) hod)
                      clear hod
                      generalize oddN f 2 m = od at c3 hww hle HYE
                      cases q2
                      · clear hob HE0 HE1 HE2 HE3
                        go_wp2
                        go_roundw
                        case rel => exact ⟨2 + 1, by omega, rfl, by rw [← HYE.out]; exact HO.out.set 2 _, HW.out.set (.inl rfl) _⟩
                        case measure => simp [intOf]
                      · clear HE0 HE1 HE2 HE3
                        cases p2 <;> cases bv <;> simp at hob
                        all_goals
                          go_wp2
                          go_roundw
                          case rel => exact ⟨2 + 1, by omega, rfl, by rw [← HYE.out]; exact HO.out.set 2 _, HW.out.set (.inl rfl) _⟩
                          case measure => simp [intOf]
                  · have c1 : wr.cell? ⟨g5 + 1, 3, none⟩ = some (.bool q3) := hq4.cell 3
                    have c2 : wr.cell? ⟨g5, 3, none⟩ = some (.bool p3) := hp4.cell 3
                    have c3 : wr.cell? ⟨g0, 3, none⟩ = some (.int .i64 (oddN f 3 m : Int)) := (hoa.cell 3).trans (by show some (oV f m 3 3) = _; rw [oV_at])
                    have f3 := hoa.free 3
                    have hlt3 := hoa.lt
                    have hle := oddN_le f 3 m
                    have hww : IntKind.i64.wrap ((oddN f 3 m : Int) + 1) = (oddN f 3 m : Int) + 1 := IntWalk.i64_in _ (by omega)
                    have HO := Lib.hid hoa
                    have HW := Lib.hid hw
                    have hob := HE3.out
                    clear hoa hp4 hq4 hw
                    cases hod : oddB f 3 m
                    · rw [hod] at hob
                      have HNO : Hid (oA f m (3 + 1) = oA f m 3) := Lib.hid (oA_off hod)
                      clear hod
                      cases q3
                      · simp at hob
                      · clear HE0 HE1 HE2 HE3
                        cases p3 <;> cases bv <;> simp at hob
                        all_goals
                          go_wp2
                          go_roundw
                          case rel => exact ⟨3 + 1, by omega, rfl, by rw [HNO.out]; exact HO.out, HW.out⟩
                          case measure => simp [intOf]
                    · rw [hod] at hob
                      have HYE := Lib.hid (oA_on (f := f) (m := m) (k := 3) (by omega) hod)
                      clear hod
                      generalize oddN f 3 m = od at c3 hww hle HYE
                      cases q3
                      · clear hob HE0 HE1 HE2 HE3
                        go_wp2
                        go_roundw
                        case rel => exact ⟨3 + 1, by omega, rfl, by rw [← HYE.out]; exact HO.out.set 3 _, HW.out.set (.inl rfl) _⟩
                        case measure => simp [intOf]
                      · clear HE0 HE1 HE2 HE3
                        cases p3 <;> cases bv <;> simp at hob
                        all_goals
                          go_wp2
                          go_roundw
                          case rel => exact ⟨3 + 1, by omega, rfl, by rw [← HYE.out]; exact HO.out.set 3 _, HW.out.set (.inl rfl) _⟩
                          case measure => simp [intOf]
                  · have HO := Lib.hid (show Obj1 wr g0 57 (oA f (m + 1) 0) by rw [← oA_next]; exact hoa)
                    have HW := Lib.hid hw
                    clear hoa hp4 hq4 hw
                    have HWD := Lib.hid (row_wrote HWc.out HW.out (by omega))
                    have HCD := Lib.hid (HCc.out.trans (HW.out.below (by have := HG0.out; omega) HCc.out.size))
                    have HSD := Lib.hid (Nat.le_trans HSc.out HW.out.size)
                    go_wp2
                    go_roundw
                    case rel => exact ⟨m + 1, av', by omega, by go_num, HAV', rfl, HWD.out, HO.out, HCD.out, HSD.out⟩
                    case measure => simp [intOf]; omega
        · obtain rfl : m = z := by omega
          go_wp2
          go_meet
          exact ⟨m, av, by omega, rfl, HAV, rfl, HOWN.out, HOA.out, HBEL.out, HSZ.out⟩
    case rest =>
      clear HO0 HBW1 HSZ1 HD
      obtain ⟨m, av, hm, hmz, HAV, rfl, hown, hoa, hbel, hsz⟩ := hcut
      obtain rfl : z = m := by
        have : (z : Int) = (m : Int) := by simpa using hmz
        omega
      clear hmz hm
      obtain ⟨Ab, cb, rfl, hcb, hcm, hlb⟩ := Lst.of_own hown
      have HLB := Lib.hid hlb
      have HOA := Lib.hid hoa
      have HBEL := Lib.hid hbel
      have HSH := Lib.hid (HSL.out.sh.kept hbel)
      have HBW := Lib.hid (HSL.out.bel.trans (hbel.mono HSL.out.bel.size))
      clear hown hoa hbel hsz hlb
      have HK1 := Lib.hid (show (av = false → n = 0 ∨ ∃ k, k < 8 * n ∧ oN f k = false) ∧ (av = true → 0 < n ∧ ∀ k, k < 8 * n → oN f k = true) from ⟨fun h => by rw [HZ.out]; exact allN_false (HAV.out.trans h), fun h => by rw [HZ.out]; exact allN_true (HAV.out.trans h)⟩)
      have HM := Lib.hid (fun W (hW : ShF W gs true n f) => msg_any hW hn8)
      have HOD := Lib.hid (fun W (hW : ShF W gs true n f) => odd_any hW hn8)
      rw [HZ.out] at HOD
      obtain ⟨o0, o1, o2, o3, HOE⟩ : ∃ o0 o1 o2 o3 : Int, Hid (oA f z 0 = #[.int .i64 o0, .int .i64 o1, .int .i64 o2, .int .i64 o3]) := ⟨_, _, _, _, Lib.hid rfl⟩
      rw [HOE.out] at HOA HOD
      have HN2 := Lib.hid (fun W => snew_gen (n : Int) n (by omega) W)
      have HB2 := Lib.hid (fun W a (h0 : ShF W a true n (fun _ => false)) (hW : ShF W gs true n f) => better_second h0 hW hn8)
      have HB1 := Lib.hid (fun W (hW : ShF W gs true n f) => better_first hW hn8)
      have HBS : Hid ((bsM f (8 * n)).length = 8 * n) := Lib.hid (bsM_len _ _)
      obtain ⟨Ws, HWS⟩ : ∃ Ws : List Nat, Hid (wordsOf (bsM f (8 * n)) n = Ws) := ⟨_, Lib.hid rfl⟩
      have HWL : Hid (Ws.length = n) := Lib.hid (by rw [← HWS.out]; simp [wordsOf])
      obtain ⟨S, HS⟩ : ∃ S, Hid (strB (Ws.map fun (x : Nat) => (x : Int)) = S) := ⟨_, Lib.hid rfl⟩
      cases av
      · have hk := HK1.out.1 rfl
        have HKK := Lib.hid hk
        have HNO : Hid (∀ w f' e w', f' = f → MsgPost w f' n e w' → e = .returned (.tuple #[.slice none 0 0, .bool false]) ∧ Below w.heap.size w w') := Lib.hid (by
          rintro w f' e w' rfl ⟨hb, h | ⟨⟨h0, h1⟩, _⟩⟩
          · exact ⟨h.2, hb⟩
          · exfalso
            rcases HKK.out with h | ⟨k, hk, hf⟩
            · omega
            · rw [h1 k hk] at hf; cases hf)
        clear hk
        go_wp2_with fail
        refine (HM.out _ HSH.out).mono ?_
        intro e wm hm
        obtain ⟨rfl, hbm⟩ := HNO.out _ _ _ _ rfl hm
        have HSHm := Lib.hid (HSH.out.kept hbm)
        have HOAm := Lib.hid (HOA.out.kept hbm)
        have HBWm := Lib.hid (HBW.out.trans (hbm.mono HBW.out.size))
        clear hbm hm
        go_wp2_with fail
        refine (HN2.out _).mono ?_
        rintro e wn ⟨rfl, HSn, HBn⟩
        have HSHn := Lib.hid (HSHm.out.kept HBn.out)
        have HOAn := Lib.hid (HOAm.out.kept HBn.out)
        have HBWn := Lib.hid (HBWm.out.trans (HBn.out.mono HBWm.out.size))
        go_wp2_with fail
        refine (HB2.out _ _ HSn.out HSHn.out).mono ?_
        intro e wo hm
        obtain ⟨rfl, hbm⟩ := HNO.out _ _ _ _ rfl hm
        have HSHo := Lib.hid (HSHn.out.kept hbm)
        have HOAo := Lib.hid (HOAn.out.kept hbm)
        have HBWo := Lib.hid (HBWn.out.trans (hbm.mono HBWn.out.size))
        clear hbm hm
        go_wp2_with fail
        refine (HB1.out _ HSHo.out).mono ?_
        intro e wp hm
        obtain ⟨rfl, hbm⟩ := HNO.out _ _ _ _ rfl hm
        have HSHp := Lib.hid (HSHo.out.kept hbm)
        have HOAp := Lib.hid (HOAo.out.kept hbm)
        have HBWp := Lib.hid (HBWo.out.trans (hbm.mono HBWo.out.size))
        clear hbm hm HSHm HOAm HBWm HSHn HOAn HBWn HSHo HOAo HBWo HSn HBn
        have HODX : Hid (∀ x : Kin wp.drew, Calls Tryd.prog 34 #[.pointer (some ⟨gs, 0, none⟩)] x.world fun e w' => e = .returned (.agg #[.int .i64 o0, .int .i64 o1, .int .i64 o2, .int .i64 o3]) ∧ Below x.world.heap.size x.world w') := Lib.hid (fun x => HOD.out x.world ((HSHp.out.drew).kept x.below))
        have K0 : ∀ x : Kin wp.drew, x.world.cell? ⟨g0, 0, none⟩ = some (.int .i64 o0) := fun x => (HOAp.out.drew.kept x.below).cell 0
        have K1 : ∀ x : Kin wp.drew, x.world.cell? ⟨g0, 1, none⟩ = some (.int .i64 o1) := fun x => (HOAp.out.drew.kept x.below).cell 1
        have K2 : ∀ x : Kin wp.drew, x.world.cell? ⟨g0, 2, none⟩ = some (.int .i64 o2) := fun x => (HOAp.out.drew.kept x.below).cell 2
        have K3 : ∀ x : Kin wp.drew, x.world.cell? ⟨g0, 3, none⟩ = some (.int .i64 o3) := fun x => (HOAp.out.drew.kept x.below).cell 3
        go_wp2_with fail
        refine wp_region_specL 63 [.d (.bool false), .d (.bool false), .d (.bool true), .d (.bool true), .d (.bool false), .d (.bool false), .d (.bool true), .d (.bool true), .d (.bool true), .d (.bool false), .d (.bool false), .d (.bool true), .d (.bool true), .d (.bool true), .d (.pointer (some ⟨gs, 0, none⟩)), .d (.agg #[.int .i64 o0, .int .i64 o1, .int .i64 o2, .int .i64 o3]), .d (.agg #[.int .i64 o0, .int .i64 o1, .int .i64 o2, .int .i64 o3]), .d (.bool true), .d (.bool true), .d (.bool true), .d (.bool false), .d (.bool false), .d undef, .d undef, .d undef, .d undef, .d undef, .d undef, .d (.bool false), .d (.bool false), .d undef, .d undef, .d undef, .d undef, .d undef, .d (.bool false), .d (.bool false), .d undef, .d undef, .d undef, .d undef, .d undef, .d (.bool false), .d (.bool false), .d (.bool false), .d (.bool true), .d (.bool true), .d (.slice none 0 0), .d (.int .i64 0), .d (.slice none 0 0), .d (.int .i64 0), .d (.int .i64 0), .d (.slice none 0 0), .d (.int .i64 0), .d (.int .i64 0), .d (.bool true), .d (.bool true), .d (.bool true), .d (.bool true), .d (.bool true), .d (.bool true), .d (.bool true), .d (.bool true)] (by kernel_rfl) (by kernel_rfl) ?_
        refine spec_d rfl (fun x _ => gives_run (by go_simp)) ?_
        try simp only [Act.put, List.getElem_toArray, List.getElem_cons_succ, List.getElem_cons_zero, List.setIfInBounds_toArray, List.set_cons_zero, List.set_cons_succ]
        refine spec_d rfl (fun x _ => gives_run (by go_simp)) ?_
        try simp only [Act.put, List.getElem_toArray, List.getElem_cons_succ, List.getElem_cons_zero, List.setIfInBounds_toArray, List.set_cons_zero, List.set_cons_succ]
        refine spec_d rfl (fun x _ => gives_run (by go_simp)) ?_
        try simp only [Act.put, List.getElem_toArray, List.getElem_cons_succ, List.getElem_cons_zero, List.setIfInBounds_toArray, List.set_cons_zero, List.set_cons_succ]
        refine spec_d rfl (fun x _ => gives_run (by go_simp)) ?_
        try simp only [Act.put, List.getElem_toArray, List.getElem_cons_succ, List.getElem_cons_zero, List.setIfInBounds_toArray, List.set_cons_zero, List.set_cons_succ]
        refine spec_d rfl (fun x _ => gives_run (by go_simp)) ?_
        try simp only [Act.put, List.getElem_toArray, List.getElem_cons_succ, List.getElem_cons_zero, List.setIfInBounds_toArray, List.set_cons_zero, List.set_cons_succ]
        refine spec_d rfl (fun x _ => gives_run (by go_simp)) ?_
        try simp only [Act.put, List.getElem_toArray, List.getElem_cons_succ, List.getElem_cons_zero, List.setIfInBounds_toArray, List.set_cons_zero, List.set_cons_succ]
        refine spec_d rfl (fun x _ => gives_run (by go_simp)) ?_
        try simp only [Act.put, List.getElem_toArray, List.getElem_cons_succ, List.getElem_cons_zero, List.setIfInBounds_toArray, List.set_cons_zero, List.set_cons_succ]
        refine spec_d rfl (fun x _ => gives_run (by go_simp)) ?_
        try simp only [Act.put, List.getElem_toArray, List.getElem_cons_succ, List.getElem_cons_zero, List.setIfInBounds_toArray, List.set_cons_zero, List.set_cons_succ]
        refine spec_d rfl (fun x _ => gives_run (by go_simp)) ?_
        try simp only [Act.put, List.getElem_toArray, List.getElem_cons_succ, List.getElem_cons_zero, List.setIfInBounds_toArray, List.set_cons_zero, List.set_cons_succ]
        refine spec_d rfl (fun x _ => gives_run (by go_simp)) ?_
        try simp only [Act.put, List.getElem_toArray, List.getElem_cons_succ, List.getElem_cons_zero, List.setIfInBounds_toArray, List.set_cons_zero, List.set_cons_succ]
        refine spec_d rfl (fun x _ => gives_run (by go_simp)) ?_
        try simp only [Act.put, List.getElem_toArray, List.getElem_cons_succ, List.getElem_cons_zero, List.setIfInBounds_toArray, List.set_cons_zero, List.set_cons_succ]
        refine spec_d rfl (fun x _ => gives_run (by go_simp)) ?_
        try simp only [Act.put, List.getElem_toArray, List.getElem_cons_succ, List.getElem_cons_zero, List.setIfInBounds_toArray, List.set_cons_zero, List.set_cons_succ]
        refine spec_d rfl (fun x _ => gives_run (by go_simp)) ?_
        try simp only [Act.put, List.getElem_toArray, List.getElem_cons_succ, List.getElem_cons_zero, List.setIfInBounds_toArray, List.set_cons_zero, List.set_cons_succ]
        refine spec_d rfl (fun x _ => gives_run (by go_simp)) ?_
        try simp only [Act.put, List.getElem_toArray, List.getElem_cons_succ, List.getElem_cons_zero, List.setIfInBounds_toArray, List.set_cons_zero, List.set_cons_succ]
        refine spec_d rfl (fun x _ => gives_run (by go_simp)) ?_
        try simp only [Act.put, List.getElem_toArray, List.getElem_cons_succ, List.getElem_cons_zero, List.setIfInBounds_toArray, List.set_cons_zero, List.set_cons_succ]
        refine spec_d rfl (fun x _ => gives_det (by go_simp) (HODX.out x)) ?_
        try simp only [Act.put, List.getElem_toArray, List.getElem_cons_succ, List.getElem_cons_zero, List.setIfInBounds_toArray, List.set_cons_zero, List.set_cons_succ]
        refine spec_d rfl (fun x _ => gives_run (by go_simp)) ?_
        try simp only [Act.put, List.getElem_toArray, List.getElem_cons_succ, List.getElem_cons_zero, List.setIfInBounds_toArray, List.set_cons_zero, List.set_cons_succ]
        refine spec_d rfl (fun x _ => gives_run (by go_simp; rw [eqi_four]; rfl)) ?_
        try simp only [Act.put, List.getElem_toArray, List.getElem_cons_succ, List.getElem_cons_zero, List.setIfInBounds_toArray, List.set_cons_zero, List.set_cons_succ]
        refine spec_d rfl (fun x _ => gives_run (by go_simp)) ?_
        try simp only [Act.put, List.getElem_toArray, List.getElem_cons_succ, List.getElem_cons_zero, List.setIfInBounds_toArray, List.set_cons_zero, List.set_cons_succ]
        refine spec_d rfl (fun x _ => gives_run (by go_simp)) ?_
        try simp only [Act.put, List.getElem_toArray, List.getElem_cons_succ, List.getElem_cons_zero, List.setIfInBounds_toArray, List.set_cons_zero, List.set_cons_succ]
        refine spec_d rfl (fun x _ => gives_run (by go_simp)) ?_
        try simp only [Act.put, List.getElem_toArray, List.getElem_cons_succ, List.getElem_cons_zero, List.setIfInBounds_toArray, List.set_cons_zero, List.set_cons_succ]
        refine spec_d rfl (fun x _ => gives_run (by go_simp)) ?_
        try simp only [Act.put, List.getElem_toArray, List.getElem_cons_succ, List.getElem_cons_zero, List.setIfInBounds_toArray, List.set_cons_zero, List.set_cons_succ]
        refine spec_skip rfl ?_
        try simp only [Act.put, List.getElem_toArray, List.getElem_cons_succ, List.getElem_cons_zero, List.setIfInBounds_toArray, List.set_cons_zero, List.set_cons_succ]
        refine spec_skip rfl ?_
        try simp only [Act.put, List.getElem_toArray, List.getElem_cons_succ, List.getElem_cons_zero, List.setIfInBounds_toArray, List.set_cons_zero, List.set_cons_succ]
        refine spec_skip rfl ?_
        try simp only [Act.put, List.getElem_toArray, List.getElem_cons_succ, List.getElem_cons_zero, List.setIfInBounds_toArray, List.set_cons_zero, List.set_cons_succ]
        refine spec_skip rfl ?_
        try simp only [Act.put, List.getElem_toArray, List.getElem_cons_succ, List.getElem_cons_zero, List.setIfInBounds_toArray, List.set_cons_zero, List.set_cons_succ]
        refine spec_skip rfl ?_
        try simp only [Act.put, List.getElem_toArray, List.getElem_cons_succ, List.getElem_cons_zero, List.setIfInBounds_toArray, List.set_cons_zero, List.set_cons_succ]
        refine spec_skip rfl ?_
        try simp only [Act.put, List.getElem_toArray, List.getElem_cons_succ, List.getElem_cons_zero, List.setIfInBounds_toArray, List.set_cons_zero, List.set_cons_succ]
        refine spec_d rfl (fun x _ => gives_run (by go_simp)) ?_
        try simp only [Act.put, List.getElem_toArray, List.getElem_cons_succ, List.getElem_cons_zero, List.setIfInBounds_toArray, List.set_cons_zero, List.set_cons_succ]
        refine spec_d rfl (fun x _ => gives_run (by go_simp)) ?_
        try simp only [Act.put, List.getElem_toArray, List.getElem_cons_succ, List.getElem_cons_zero, List.setIfInBounds_toArray, List.set_cons_zero, List.set_cons_succ]
        refine spec_skip rfl ?_
        try simp only [Act.put, List.getElem_toArray, List.getElem_cons_succ, List.getElem_cons_zero, List.setIfInBounds_toArray, List.set_cons_zero, List.set_cons_succ]
        refine spec_skip rfl ?_
        try simp only [Act.put, List.getElem_toArray, List.getElem_cons_succ, List.getElem_cons_zero, List.setIfInBounds_toArray, List.set_cons_zero, List.set_cons_succ]
        refine spec_skip rfl ?_
        try simp only [Act.put, List.getElem_toArray, List.getElem_cons_succ, List.getElem_cons_zero, List.setIfInBounds_toArray, List.set_cons_zero, List.set_cons_succ]
        refine spec_skip rfl ?_
        try simp only [Act.put, List.getElem_toArray, List.getElem_cons_succ, List.getElem_cons_zero, List.setIfInBounds_toArray, List.set_cons_zero, List.set_cons_succ]
        refine spec_skip rfl ?_
        try simp only [Act.put, List.getElem_toArray, List.getElem_cons_succ, List.getElem_cons_zero, List.setIfInBounds_toArray, List.set_cons_zero, List.set_cons_succ]
        refine spec_d rfl (fun x _ => gives_run (by go_simp)) ?_
        try simp only [Act.put, List.getElem_toArray, List.getElem_cons_succ, List.getElem_cons_zero, List.setIfInBounds_toArray, List.set_cons_zero, List.set_cons_succ]
        refine spec_d rfl (fun x _ => gives_run (by go_simp)) ?_
        try simp only [Act.put, List.getElem_toArray, List.getElem_cons_succ, List.getElem_cons_zero, List.setIfInBounds_toArray, List.set_cons_zero, List.set_cons_succ]
        refine spec_skip rfl ?_
        try simp only [Act.put, List.getElem_toArray, List.getElem_cons_succ, List.getElem_cons_zero, List.setIfInBounds_toArray, List.set_cons_zero, List.set_cons_succ]
        refine spec_skip rfl ?_
        try simp only [Act.put, List.getElem_toArray, List.getElem_cons_succ, List.getElem_cons_zero, List.setIfInBounds_toArray, List.set_cons_zero, List.set_cons_succ]
        refine spec_skip rfl ?_
        try simp only [Act.put, List.getElem_toArray, List.getElem_cons_succ, List.getElem_cons_zero, List.setIfInBounds_toArray, List.set_cons_zero, List.set_cons_succ]
        refine spec_skip rfl ?_
        try simp only [Act.put, List.getElem_toArray, List.getElem_cons_succ, List.getElem_cons_zero, List.setIfInBounds_toArray, List.set_cons_zero, List.set_cons_succ]
        refine spec_skip rfl ?_
        try simp only [Act.put, List.getElem_toArray, List.getElem_cons_succ, List.getElem_cons_zero, List.setIfInBounds_toArray, List.set_cons_zero, List.set_cons_succ]
        refine spec_d rfl (fun x _ => gives_run (by go_simp)) ?_
        try simp only [Act.put, List.getElem_toArray, List.getElem_cons_succ, List.getElem_cons_zero, List.setIfInBounds_toArray, List.set_cons_zero, List.set_cons_succ]
        refine spec_d rfl (fun x _ => gives_run (by go_simp)) ?_
        try simp only [Act.put, List.getElem_toArray, List.getElem_cons_succ, List.getElem_cons_zero, List.setIfInBounds_toArray, List.set_cons_zero, List.set_cons_succ]
        refine spec_d rfl (fun x _ => gives_run (by go_simp)) ?_
        try simp only [Act.put, List.getElem_toArray, List.getElem_cons_succ, List.getElem_cons_zero, List.setIfInBounds_toArray, List.set_cons_zero, List.set_cons_succ]
        refine spec_d rfl (fun x _ => gives_run (by go_simp)) ?_
        try simp only [Act.put, List.getElem_toArray, List.getElem_cons_succ, List.getElem_cons_zero, List.setIfInBounds_toArray, List.set_cons_zero, List.set_cons_succ]
        refine spec_d rfl (fun x _ => gives_run (by go_simp)) ?_
        try simp only [Act.put, List.getElem_toArray, List.getElem_cons_succ, List.getElem_cons_zero, List.setIfInBounds_toArray, List.set_cons_zero, List.set_cons_succ]
        refine spec_d rfl (fun x _ => gives_run (by go_simp)) ?_
        try simp only [Act.put, List.getElem_toArray, List.getElem_cons_succ, List.getElem_cons_zero, List.setIfInBounds_toArray, List.set_cons_zero, List.set_cons_succ]
        refine spec_d rfl (fun x _ => gives_run (by go_simp)) ?_
        try simp only [Act.put, List.getElem_toArray, List.getElem_cons_succ, List.getElem_cons_zero, List.setIfInBounds_toArray, List.set_cons_zero, List.set_cons_succ]
        refine spec_d rfl (fun x _ => gives_run (by go_simp)) ?_
        try simp only [Act.put, List.getElem_toArray, List.getElem_cons_succ, List.getElem_cons_zero, List.setIfInBounds_toArray, List.set_cons_zero, List.set_cons_succ]
        refine spec_d rfl (fun x _ => gives_run (by go_simp)) ?_
        try simp only [Act.put, List.getElem_toArray, List.getElem_cons_succ, List.getElem_cons_zero, List.setIfInBounds_toArray, List.set_cons_zero, List.set_cons_succ]
        refine spec_d rfl (fun x _ => gives_run (by go_simp; rfl)) ?_
        try simp only [Act.put, List.getElem_toArray, List.getElem_cons_succ, List.getElem_cons_zero, List.setIfInBounds_toArray, List.set_cons_zero, List.set_cons_succ]
        refine spec_d rfl (fun x _ => gives_run (by go_simp)) ?_
        try simp only [Act.put, List.getElem_toArray, List.getElem_cons_succ, List.getElem_cons_zero, List.setIfInBounds_toArray, List.set_cons_zero, List.set_cons_succ]
        refine spec_d rfl (fun x _ => gives_run (by go_simp)) ?_
        try simp only [Act.put, List.getElem_toArray, List.getElem_cons_succ, List.getElem_cons_zero, List.setIfInBounds_toArray, List.set_cons_zero, List.set_cons_succ]
        refine spec_d rfl (fun x _ => gives_run (by go_simp; rfl)) ?_
        try simp only [Act.put, List.getElem_toArray, List.getElem_cons_succ, List.getElem_cons_zero, List.setIfInBounds_toArray, List.set_cons_zero, List.set_cons_succ]
        refine spec_d rfl (fun x _ => gives_run (by go_simp)) ?_
        try simp only [Act.put, List.getElem_toArray, List.getElem_cons_succ, List.getElem_cons_zero, List.setIfInBounds_toArray, List.set_cons_zero, List.set_cons_succ]
        refine spec_d rfl (fun x _ => gives_run (by go_simp)) ?_
        try simp only [Act.put, List.getElem_toArray, List.getElem_cons_succ, List.getElem_cons_zero, List.setIfInBounds_toArray, List.set_cons_zero, List.set_cons_succ]
        refine spec_d rfl (fun x _ => gives_run (by go_simp)) ?_
        try simp only [Act.put, List.getElem_toArray, List.getElem_cons_succ, List.getElem_cons_zero, List.setIfInBounds_toArray, List.set_cons_zero, List.set_cons_succ]
        refine spec_d rfl (fun x _ => gives_run (by go_simp)) ?_
        try simp only [Act.put, List.getElem_toArray, List.getElem_cons_succ, List.getElem_cons_zero, List.setIfInBounds_toArray, List.set_cons_zero, List.set_cons_succ]
        refine spec_d rfl (fun x _ => gives_run (by go_simp)) ?_
        try simp only [Act.put, List.getElem_toArray, List.getElem_cons_succ, List.getElem_cons_zero, List.setIfInBounds_toArray, List.set_cons_zero, List.set_cons_succ]
        refine spec_d rfl (fun x _ => gives_det (by go_simp) (one_any x.world)) ?_
        try simp only [Act.put, List.getElem_toArray, List.getElem_cons_succ, List.getElem_cons_zero, List.setIfInBounds_toArray, List.set_cons_zero, List.set_cons_succ]
        refine spec_d rfl (fun x _ => gives_run (by go_simp)) ?_
        try simp only [Act.put, List.getElem_toArray, List.getElem_cons_succ, List.getElem_cons_zero, List.setIfInBounds_toArray, List.set_cons_zero, List.set_cons_succ]
        refine spec_d rfl (fun x _ => gives_run (by go_simp)) ?_
        try simp only [Act.put, List.getElem_toArray, List.getElem_cons_succ, List.getElem_cons_zero, List.setIfInBounds_toArray, List.set_cons_zero, List.set_cons_succ]
        refine spec_end (fun x hx => ?_)
        clear hx
        refine wpAny_done (by kernel_rfl) ?_ _
        have HBE8 := Lib.hid (HBWp.out.trans (((bel_drew wp).trans x.below).mono HBWp.out.size))
        clear K0 K1 K2 K3
        generalize x.world = w8 at HBE8 ⊢
        go_wp2
        go_ret
        exact ⟨rfl, HBE8.out⟩
      · have HKK := Lib.hid (HK1.out.2 rfl)
        have HYES : Hid (∀ w f' e w', f' = f → MsgPost w f' n e w' → ∃ g, e = .returned (.tuple #[.slice (some ⟨g, 0, none⟩) n n, .bool true]) ∧ Hid (Lst w' (some ⟨g, 0, none⟩) n (Ws.map fun (x : Nat) => Value.int .u8 x)) ∧ Below w.heap.size w w') := Lib.hid (by
          rintro w f' e w' rfl ⟨hb, h | ⟨_, g, rfl, _, ho⟩⟩
          · exfalso
            rcases h.1 with h0 | ⟨k, hk, hf⟩
            · have := HKK.out.1; omega
            · rw [HKK.out.2 k hk] at hf; cases hf
          · rw [HWS.out] at ho
            exact ⟨g, rfl, Lib.hid (lst_obj ho (by simpa using HWL.out)), hb⟩)
        go_wp2_with fail
        refine (HM.out _ HSH.out).mono ?_
        intro e wm hm
        obtain ⟨gm, rfl, HLm, hbm⟩ := HYES.out _ _ _ _ rfl hm
        have HSHm := Lib.hid (HSH.out.kept hbm)
        have HOAm := Lib.hid (HOA.out.kept hbm)
        have HLBm := Lib.hid (HLB.out.kept hbm)
        have HBWm := Lib.hid (HBW.out.trans (hbm.mono HBW.out.size))
        clear hbm hm
        go_wp2_with fail
        refine (HN2.out _).mono ?_
        rintro e wn ⟨rfl, HSn, HBn⟩
        have HSHn := Lib.hid (HSHm.out.kept HBn.out)
        have HOAn := Lib.hid (HOAm.out.kept HBn.out)
        have HLBn := Lib.hid (HLBm.out.kept HBn.out)
        have HLmn := Lib.hid (HLm.out.kept HBn.out)
        have HBWn := Lib.hid (HBWm.out.trans (HBn.out.mono HBWm.out.size))
        go_wp2_with fail
        refine (HB2.out _ _ HSn.out HSHn.out).mono ?_
        intro e wo hm
        obtain ⟨gx, rfl, HLx, hbm⟩ := HYES.out _ _ _ _ rfl hm
        have HSHo := Lib.hid (HSHn.out.kept hbm)
        have HOAo := Lib.hid (HOAn.out.kept hbm)
        have HLBo := Lib.hid (HLBn.out.kept hbm)
        have HLmo := Lib.hid (HLmn.out.kept hbm)
        have HBWo := Lib.hid (HBWn.out.trans (hbm.mono HBWn.out.size))
        clear hbm hm
        go_wp2_with fail
        refine (HB1.out _ HSHo.out).mono ?_
        intro e wp hm
        obtain ⟨gy, rfl, HLy, hbm⟩ := HYES.out _ _ _ _ rfl hm
        have HSHp := Lib.hid (HSHo.out.kept hbm)
        have HOAp := Lib.hid (HOAo.out.kept hbm)
        have HLBp := Lib.hid (HLBo.out.kept hbm)
        have HLmp := Lib.hid (HLmo.out.kept hbm)
        have HLxp := Lib.hid (HLx.out.kept hbm)
        have HBWp := Lib.hid (HBWo.out.trans (hbm.mono HBWo.out.size))
        clear hbm hm HSHm HOAm HBWm HSHn HOAn HBWn HSHo HOAo HBWo HSn HBn HLBm HLBn HLBo HLm HLmn HLmo HLx
        have HODX : Hid (∀ x : Kin wp.drew, Calls Tryd.prog 34 #[.pointer (some ⟨gs, 0, none⟩)] x.world fun e w' => e = .returned (.agg #[.int .i64 o0, .int .i64 o1, .int .i64 o2, .int .i64 o3]) ∧ Below x.world.heap.size x.world w') := Lib.hid (fun x => HOD.out x.world ((HSHp.out.drew).kept x.below))
        have K0 : ∀ x : Kin wp.drew, x.world.cell? ⟨g0, 0, none⟩ = some (.int .i64 o0) := fun x => (HOAp.out.drew.kept x.below).cell 0
        have K1 : ∀ x : Kin wp.drew, x.world.cell? ⟨g0, 1, none⟩ = some (.int .i64 o1) := fun x => (HOAp.out.drew.kept x.below).cell 1
        have K2 : ∀ x : Kin wp.drew, x.world.cell? ⟨g0, 2, none⟩ = some (.int .i64 o2) := fun x => (HOAp.out.drew.kept x.below).cell 2
        have K3 : ∀ x : Kin wp.drew, x.world.cell? ⟨g0, 3, none⟩ = some (.int .i64 o3) := fun x => (HOAp.out.drew.kept x.below).cell 3
        have Cm : ∀ x : Kin wp.drew, (convert 23 9 (.slice (some ⟨gm, 0, none⟩) n n)).run Tryd.prog x.world = .ok (.string S) x.world := fun x => convN (HLmp.out.drew.kept x.below) HS.out
        have Cx : ∀ x : Kin wp.drew, (convert 23 9 (.slice (some ⟨gx, 0, none⟩) n n)).run Tryd.prog x.world = .ok (.string S) x.world := fun x => convN (HLxp.out.drew.kept x.below) HS.out
        have Cy : ∀ x : Kin wp.drew, (convert 23 9 (.slice (some ⟨gy, 0, none⟩) n n)).run Tryd.prog x.world = .ok (.string S) x.world := fun x => convN (HLy.out.drew.kept x.below) HS.out
        have HRW : Hid (∀ x : Kin wp.drew, Calls Tryd.prog 35 #[.slice Ab z cb] x.world fun e w' => ∃ v, e = .returned v ∧ Below x.world.heap.size x.world w' ∧ NewW 0 n (Ws.map fun (x : Nat) => Value.int .u8 x) v w') := Lib.hid (fun x => by
          have h := refwords_d Ab z n cb (bsM f (8 * n)) x.world HZ.out (by rw [HZ.out]; exact HLBp.out.drew.kept x.below) (by omega)
          rw [HWS.out] at h
          exact h)
        go_wp2_with fail
        refine wp_region_specL 63 [.d (.bool true), .d (.bool true), .d (.bool true), .d (.bool true), .d (.bool true), .d (.bool true), .d (.bool true), .d (.bool true), .d (.bool true), .d (.bool true), .d (.bool true), .d (.bool true), .d (.bool true), .d (.bool true), .d (.pointer (some ⟨gs, 0, none⟩)), .d (.agg #[.int .i64 o0, .int .i64 o1, .int .i64 o2, .int .i64 o3]), .d (.agg #[.int .i64 o0, .int .i64 o1, .int .i64 o2, .int .i64 o3]), .d (.bool true), .d (.bool true), .d (.bool true), .d (.bool true), .d (.bool true), .d (.slice (some ⟨gm, 0, none⟩) n n), .d (.string S), .d (.slice Ab z cb), .g (NewW 0 n (Ws.map fun (x : Nat) => Value.int .u8 x)), .d (.string S), .d (.bool true), .d (.bool true), .d (.bool true), .d (.slice (some ⟨gx, 0, none⟩) n n), .d (.string S), .d (.slice (some ⟨gm, 0, none⟩) n n), .d (.string S), .d (.bool true), .d (.bool true), .d (.bool true), .d (.slice (some ⟨gy, 0, none⟩) n n), .d (.string S), .d (.slice (some ⟨gm, 0, none⟩) n n), .d (.string S), .d (.bool true), .d (.bool true), .d (.bool true), .d undef, .d undef, .d undef, .d undef, .d undef, .d undef, .d undef, .d undef, .d undef, .d undef, .d undef, .d undef, .d undef, .d (.bool true), .d (.bool true), .d (.bool true), .d (.bool true), .d (.bool true), .d (.bool true)] (by kernel_rfl) (by kernel_rfl) ?_
        refine spec_d rfl (fun x _ => gives_run (by go_simp)) ?_
        try simp only [Act.put, List.getElem_toArray, List.getElem_cons_succ, List.getElem_cons_zero, List.setIfInBounds_toArray, List.set_cons_zero, List.set_cons_succ]
        refine spec_d rfl (fun x _ => gives_run (by go_simp)) ?_
        try simp only [Act.put, List.getElem_toArray, List.getElem_cons_succ, List.getElem_cons_zero, List.setIfInBounds_toArray, List.set_cons_zero, List.set_cons_succ]
        refine spec_d rfl (fun x _ => gives_run (by go_simp)) ?_
        try simp only [Act.put, List.getElem_toArray, List.getElem_cons_succ, List.getElem_cons_zero, List.setIfInBounds_toArray, List.set_cons_zero, List.set_cons_succ]
        refine spec_d rfl (fun x _ => gives_run (by go_simp)) ?_
        try simp only [Act.put, List.getElem_toArray, List.getElem_cons_succ, List.getElem_cons_zero, List.setIfInBounds_toArray, List.set_cons_zero, List.set_cons_succ]
        refine spec_d rfl (fun x _ => gives_run (by go_simp)) ?_
        try simp only [Act.put, List.getElem_toArray, List.getElem_cons_succ, List.getElem_cons_zero, List.setIfInBounds_toArray, List.set_cons_zero, List.set_cons_succ]
        refine spec_d rfl (fun x _ => gives_run (by go_simp)) ?_
        try simp only [Act.put, List.getElem_toArray, List.getElem_cons_succ, List.getElem_cons_zero, List.setIfInBounds_toArray, List.set_cons_zero, List.set_cons_succ]
        refine spec_d rfl (fun x _ => gives_run (by go_simp)) ?_
        try simp only [Act.put, List.getElem_toArray, List.getElem_cons_succ, List.getElem_cons_zero, List.setIfInBounds_toArray, List.set_cons_zero, List.set_cons_succ]
        refine spec_d rfl (fun x _ => gives_run (by go_simp)) ?_
        try simp only [Act.put, List.getElem_toArray, List.getElem_cons_succ, List.getElem_cons_zero, List.setIfInBounds_toArray, List.set_cons_zero, List.set_cons_succ]
        refine spec_d rfl (fun x _ => gives_run (by go_simp)) ?_
        try simp only [Act.put, List.getElem_toArray, List.getElem_cons_succ, List.getElem_cons_zero, List.setIfInBounds_toArray, List.set_cons_zero, List.set_cons_succ]
        refine spec_d rfl (fun x _ => gives_run (by go_simp)) ?_
        try simp only [Act.put, List.getElem_toArray, List.getElem_cons_succ, List.getElem_cons_zero, List.setIfInBounds_toArray, List.set_cons_zero, List.set_cons_succ]
        refine spec_d rfl (fun x _ => gives_run (by go_simp)) ?_
        try simp only [Act.put, List.getElem_toArray, List.getElem_cons_succ, List.getElem_cons_zero, List.setIfInBounds_toArray, List.set_cons_zero, List.set_cons_succ]
        refine spec_d rfl (fun x _ => gives_run (by go_simp)) ?_
        try simp only [Act.put, List.getElem_toArray, List.getElem_cons_succ, List.getElem_cons_zero, List.setIfInBounds_toArray, List.set_cons_zero, List.set_cons_succ]
        refine spec_d rfl (fun x _ => gives_run (by go_simp)) ?_
        try simp only [Act.put, List.getElem_toArray, List.getElem_cons_succ, List.getElem_cons_zero, List.setIfInBounds_toArray, List.set_cons_zero, List.set_cons_succ]
        refine spec_d rfl (fun x _ => gives_run (by go_simp)) ?_
        try simp only [Act.put, List.getElem_toArray, List.getElem_cons_succ, List.getElem_cons_zero, List.setIfInBounds_toArray, List.set_cons_zero, List.set_cons_succ]
        refine spec_d rfl (fun x _ => gives_run (by go_simp)) ?_
        try simp only [Act.put, List.getElem_toArray, List.getElem_cons_succ, List.getElem_cons_zero, List.setIfInBounds_toArray, List.set_cons_zero, List.set_cons_succ]
        refine spec_d rfl (fun x _ => gives_det (by go_simp) (HODX.out x)) ?_
        try simp only [Act.put, List.getElem_toArray, List.getElem_cons_succ, List.getElem_cons_zero, List.setIfInBounds_toArray, List.set_cons_zero, List.set_cons_succ]
        refine spec_d rfl (fun x _ => gives_run (by go_simp)) ?_
        try simp only [Act.put, List.getElem_toArray, List.getElem_cons_succ, List.getElem_cons_zero, List.setIfInBounds_toArray, List.set_cons_zero, List.set_cons_succ]
        refine spec_d rfl (fun x _ => gives_run (by go_simp; rw [eqi_four]; rfl)) ?_
        try simp only [Act.put, List.getElem_toArray, List.getElem_cons_succ, List.getElem_cons_zero, List.setIfInBounds_toArray, List.set_cons_zero, List.set_cons_succ]
        refine spec_d rfl (fun x _ => gives_run (by go_simp)) ?_
        try simp only [Act.put, List.getElem_toArray, List.getElem_cons_succ, List.getElem_cons_zero, List.setIfInBounds_toArray, List.set_cons_zero, List.set_cons_succ]
        refine spec_d rfl (fun x _ => gives_run (by go_simp)) ?_
        try simp only [Act.put, List.getElem_toArray, List.getElem_cons_succ, List.getElem_cons_zero, List.setIfInBounds_toArray, List.set_cons_zero, List.set_cons_succ]
        refine spec_d rfl (fun x _ => gives_run (by go_simp)) ?_
        try simp only [Act.put, List.getElem_toArray, List.getElem_cons_succ, List.getElem_cons_zero, List.setIfInBounds_toArray, List.set_cons_zero, List.set_cons_succ]
        refine spec_d rfl (fun x _ => gives_run (by go_simp)) ?_
        try simp only [Act.put, List.getElem_toArray, List.getElem_cons_succ, List.getElem_cons_zero, List.setIfInBounds_toArray, List.set_cons_zero, List.set_cons_succ]
        refine spec_d rfl (fun x _ => gives_run (by go_simp)) ?_
        try simp only [Act.put, List.getElem_toArray, List.getElem_cons_succ, List.getElem_cons_zero, List.setIfInBounds_toArray, List.set_cons_zero, List.set_cons_succ]
        refine spec_d rfl (fun x _ => gives_run (by go_simp)) ?_
        try simp only [Act.put, List.getElem_toArray, List.getElem_cons_succ, List.getElem_cons_zero, List.setIfInBounds_toArray, List.set_cons_zero, List.set_cons_succ]
        refine spec_d rfl (fun x _ => gives_run (by go_simp)) ?_
        try simp only [Act.put, List.getElem_toArray, List.getElem_cons_succ, List.getElem_cons_zero, List.setIfInBounds_toArray, List.set_cons_zero, List.set_cons_succ]
        refine spec_g (NewW.stable _ _ _) (neww_ex n HLmp.out.drew) rfl (fun x _ => gives_call (by go_simp) (HRW.out x)) ?_
        rintro vg ⟨xg, Aw, cw, rfl, _⟩
        try simp only [Act.put, List.getElem_toArray, List.getElem_cons_succ, List.getElem_cons_zero, List.setIfInBounds_toArray, List.set_cons_zero, List.set_cons_succ]
        refine spec_d rfl (fun x hx => gives_run (by have h := hx _ (List.mem_singleton.2 rfl) (by kernel_rfl); obtain ⟨_, _, e, hl⟩ := h; injection e with e1 e2 e3; subst e1; subst e3; have hcc := convN (c := cw) hl HS.out; go_simp)) ?_
        try simp only [Act.put, List.getElem_toArray, List.getElem_cons_succ, List.getElem_cons_zero, List.setIfInBounds_toArray, List.set_cons_zero, List.set_cons_succ]
        refine spec_d rfl (fun x _ => gives_run (by go_simp)) ?_
        try simp only [Act.put, List.getElem_toArray, List.getElem_cons_succ, List.getElem_cons_zero, List.setIfInBounds_toArray, List.set_cons_zero, List.set_cons_succ]
        refine spec_d rfl (fun x _ => gives_run (by go_simp)) ?_
        try simp only [Act.put, List.getElem_toArray, List.getElem_cons_succ, List.getElem_cons_zero, List.setIfInBounds_toArray, List.set_cons_zero, List.set_cons_succ]
        refine spec_d rfl (fun x _ => gives_run (by go_simp)) ?_
        try simp only [Act.put, List.getElem_toArray, List.getElem_cons_succ, List.getElem_cons_zero, List.setIfInBounds_toArray, List.set_cons_zero, List.set_cons_succ]
        refine spec_d rfl (fun x _ => gives_run (by go_simp)) ?_
        try simp only [Act.put, List.getElem_toArray, List.getElem_cons_succ, List.getElem_cons_zero, List.setIfInBounds_toArray, List.set_cons_zero, List.set_cons_succ]
        refine spec_d rfl (fun x _ => gives_run (by go_simp)) ?_
        try simp only [Act.put, List.getElem_toArray, List.getElem_cons_succ, List.getElem_cons_zero, List.setIfInBounds_toArray, List.set_cons_zero, List.set_cons_succ]
        refine spec_d rfl (fun x _ => gives_run (by go_simp)) ?_
        try simp only [Act.put, List.getElem_toArray, List.getElem_cons_succ, List.getElem_cons_zero, List.setIfInBounds_toArray, List.set_cons_zero, List.set_cons_succ]
        refine spec_d rfl (fun x _ => gives_run (by go_simp)) ?_
        try simp only [Act.put, List.getElem_toArray, List.getElem_cons_succ, List.getElem_cons_zero, List.setIfInBounds_toArray, List.set_cons_zero, List.set_cons_succ]
        refine spec_d rfl (fun x _ => gives_run (by go_simp)) ?_
        try simp only [Act.put, List.getElem_toArray, List.getElem_cons_succ, List.getElem_cons_zero, List.setIfInBounds_toArray, List.set_cons_zero, List.set_cons_succ]
        refine spec_d rfl (fun x _ => gives_run (by go_simp)) ?_
        try simp only [Act.put, List.getElem_toArray, List.getElem_cons_succ, List.getElem_cons_zero, List.setIfInBounds_toArray, List.set_cons_zero, List.set_cons_succ]
        refine spec_d rfl (fun x _ => gives_run (by go_simp)) ?_
        try simp only [Act.put, List.getElem_toArray, List.getElem_cons_succ, List.getElem_cons_zero, List.setIfInBounds_toArray, List.set_cons_zero, List.set_cons_succ]
        refine spec_d rfl (fun x _ => gives_run (by go_simp)) ?_
        try simp only [Act.put, List.getElem_toArray, List.getElem_cons_succ, List.getElem_cons_zero, List.setIfInBounds_toArray, List.set_cons_zero, List.set_cons_succ]
        refine spec_d rfl (fun x _ => gives_run (by go_simp)) ?_
        try simp only [Act.put, List.getElem_toArray, List.getElem_cons_succ, List.getElem_cons_zero, List.setIfInBounds_toArray, List.set_cons_zero, List.set_cons_succ]
        refine spec_d rfl (fun x _ => gives_run (by go_simp)) ?_
        try simp only [Act.put, List.getElem_toArray, List.getElem_cons_succ, List.getElem_cons_zero, List.setIfInBounds_toArray, List.set_cons_zero, List.set_cons_succ]
        refine spec_d rfl (fun x _ => gives_run (by go_simp)) ?_
        try simp only [Act.put, List.getElem_toArray, List.getElem_cons_succ, List.getElem_cons_zero, List.setIfInBounds_toArray, List.set_cons_zero, List.set_cons_succ]
        refine spec_d rfl (fun x _ => gives_run (by go_simp)) ?_
        try simp only [Act.put, List.getElem_toArray, List.getElem_cons_succ, List.getElem_cons_zero, List.setIfInBounds_toArray, List.set_cons_zero, List.set_cons_succ]
        refine spec_d rfl (fun x _ => gives_run (by go_simp)) ?_
        try simp only [Act.put, List.getElem_toArray, List.getElem_cons_succ, List.getElem_cons_zero, List.setIfInBounds_toArray, List.set_cons_zero, List.set_cons_succ]
        refine spec_d rfl (fun x _ => gives_run (by go_simp)) ?_
        try simp only [Act.put, List.getElem_toArray, List.getElem_cons_succ, List.getElem_cons_zero, List.setIfInBounds_toArray, List.set_cons_zero, List.set_cons_succ]
        refine spec_skip rfl ?_
        try simp only [Act.put, List.getElem_toArray, List.getElem_cons_succ, List.getElem_cons_zero, List.setIfInBounds_toArray, List.set_cons_zero, List.set_cons_succ]
        refine spec_skip rfl ?_
        try simp only [Act.put, List.getElem_toArray, List.getElem_cons_succ, List.getElem_cons_zero, List.setIfInBounds_toArray, List.set_cons_zero, List.set_cons_succ]
        refine spec_skip rfl ?_
        try simp only [Act.put, List.getElem_toArray, List.getElem_cons_succ, List.getElem_cons_zero, List.setIfInBounds_toArray, List.set_cons_zero, List.set_cons_succ]
        refine spec_skip rfl ?_
        try simp only [Act.put, List.getElem_toArray, List.getElem_cons_succ, List.getElem_cons_zero, List.setIfInBounds_toArray, List.set_cons_zero, List.set_cons_succ]
        refine spec_skip rfl ?_
        try simp only [Act.put, List.getElem_toArray, List.getElem_cons_succ, List.getElem_cons_zero, List.setIfInBounds_toArray, List.set_cons_zero, List.set_cons_succ]
        refine spec_skip rfl ?_
        try simp only [Act.put, List.getElem_toArray, List.getElem_cons_succ, List.getElem_cons_zero, List.setIfInBounds_toArray, List.set_cons_zero, List.set_cons_succ]
        refine spec_skip rfl ?_
        try simp only [Act.put, List.getElem_toArray, List.getElem_cons_succ, List.getElem_cons_zero, List.setIfInBounds_toArray, List.set_cons_zero, List.set_cons_succ]
        refine spec_skip rfl ?_
        try simp only [Act.put, List.getElem_toArray, List.getElem_cons_succ, List.getElem_cons_zero, List.setIfInBounds_toArray, List.set_cons_zero, List.set_cons_succ]
        refine spec_skip rfl ?_
        try simp only [Act.put, List.getElem_toArray, List.getElem_cons_succ, List.getElem_cons_zero, List.setIfInBounds_toArray, List.set_cons_zero, List.set_cons_succ]
        refine spec_skip rfl ?_
        try simp only [Act.put, List.getElem_toArray, List.getElem_cons_succ, List.getElem_cons_zero, List.setIfInBounds_toArray, List.set_cons_zero, List.set_cons_succ]
        refine spec_skip rfl ?_
        try simp only [Act.put, List.getElem_toArray, List.getElem_cons_succ, List.getElem_cons_zero, List.setIfInBounds_toArray, List.set_cons_zero, List.set_cons_succ]
        refine spec_skip rfl ?_
        try simp only [Act.put, List.getElem_toArray, List.getElem_cons_succ, List.getElem_cons_zero, List.setIfInBounds_toArray, List.set_cons_zero, List.set_cons_succ]
        refine spec_skip rfl ?_
        try simp only [Act.put, List.getElem_toArray, List.getElem_cons_succ, List.getElem_cons_zero, List.setIfInBounds_toArray, List.set_cons_zero, List.set_cons_succ]
        refine spec_d rfl (fun x _ => gives_run (by go_simp)) ?_
        try simp only [Act.put, List.getElem_toArray, List.getElem_cons_succ, List.getElem_cons_zero, List.setIfInBounds_toArray, List.set_cons_zero, List.set_cons_succ]
        refine spec_d rfl (fun x _ => gives_run (by go_simp)) ?_
        try simp only [Act.put, List.getElem_toArray, List.getElem_cons_succ, List.getElem_cons_zero, List.setIfInBounds_toArray, List.set_cons_zero, List.set_cons_succ]
        refine spec_d rfl (fun x _ => gives_run (by go_simp)) ?_
        try simp only [Act.put, List.getElem_toArray, List.getElem_cons_succ, List.getElem_cons_zero, List.setIfInBounds_toArray, List.set_cons_zero, List.set_cons_succ]
        refine spec_d rfl (fun x _ => gives_det (by go_simp) (one_any x.world)) ?_
        try simp only [Act.put, List.getElem_toArray, List.getElem_cons_succ, List.getElem_cons_zero, List.setIfInBounds_toArray, List.set_cons_zero, List.set_cons_succ]
        refine spec_d rfl (fun x _ => gives_run (by go_simp)) ?_
        try simp only [Act.put, List.getElem_toArray, List.getElem_cons_succ, List.getElem_cons_zero, List.setIfInBounds_toArray, List.set_cons_zero, List.set_cons_succ]
        refine spec_d rfl (fun x _ => gives_run (by go_simp)) ?_
        try simp only [Act.put, List.getElem_toArray, List.getElem_cons_succ, List.getElem_cons_zero, List.setIfInBounds_toArray, List.set_cons_zero, List.set_cons_succ]
        refine spec_end (fun x hx => ?_)
        clear hx
        refine wpAny_done (by kernel_rfl) ?_ _
        have HBE8 := Lib.hid (HBWp.out.trans (((bel_drew wp).trans x.below).mono HBWp.out.size))
        clear K0 K1 K2 K3 Cm Cx Cy
        generalize x.world = w8 at HBE8 ⊢
        go_wp2
        go_ret
        exact ⟨rfl, HBE8.out⟩
theorem gUp : Tryd.prog.globalNamed "busbar/wires.upright" = some 0 := by kernel_rfl
theorem tUp : (Tryd.prog.globals[0]?).map (·.type) = some 38 := by kernel_rfl
theorem of_laid {W : World} (h : laidMetH Tryd.prog Rows.majorReadsRow.laid W) : Up W := by
  rw [MakeChecks.laidMetH_plain _ _ _ (by kernel_rfl)] at h
  obtain ⟨ps, ⟨g0, t0, cs0, f0, p0, q0, hg0, ht0, hv0, hd0, _, _⟩, _, _⟩ := h
  obtain rfl := Option.some.inj (gUp.symm.trans hg0)
  obtain rfl := Option.some.inj (tUp.symm.trans ht0)
  have e := exact_cells (sh := .ar 4 .bool) 10 rfl (by kernel_rfl) hd0 rfl
  obtain ⟨l0⟩ := cs0
  simp at e
  subst e
  exact ⟨by simpa using World.var?_cell hg0 hv0 0, by simpa using World.var?_cell hg0 hv0 1, by simpa using World.var?_cell hg0 hv0 2, by simpa using World.var?_cell hg0 hv0 3⟩
theorem walk (md0 : Int) (A : Option Addr) (N c : Nat) (rows : List (List Value)) (w : World) (hU : Up w) (t0 : -9223372036854775808 ≤ md0) (t1 : md0 ≤ 9223372036854775807) (hg : Grid w A N (Sh.size shK) rows) (hr : ∀ r ∈ rows, Reads w shK r) (hnc : N ≤ c) (hcm : c ≤ maxLen) :
    Calls Tryd.prog 6 #[.int .i64 md0, .slice A N c] w fun e w' => e = .returned (.bool true) ∧ Below w.heap.size w w' := by
  unfold maxLen at hcm
  obtain ⟨ls, hi, hb⟩ := in_of hg hr
  obtain ⟨y, y0, y1', hy'⟩ := and_mask md0 3 (by omega)
  have hy : Go.bits BinOp.and IntKind.i64 md0 3 = y := hy'
  have y1 : y ≤ 3 := y1'
  obtain ⟨n, rfl⟩ : ∃ k : Nat, y = k := ⟨y.toNat, by omega⟩
  exact walk_in md0 n A N c ls w hy (by omega) hU (by omega) hi hb

theorem door_met (os : Os) (args : Array Value) : laidMetH Tryd.prog Rows.majorReadsRow.laid ((World.doorLaid Tryd.prog 400 os).forCall (fun _ _ => 0) ⟨#[], args, []⟩).memory :=
  laidMetH_of_parts3 (fuel := 8) (laidMet_of_run' 8 (by kernel_rfl) (by kernel_rfl)) (by kernel_rfl) (by kernel_rfl)
set_option maxRecDepth 100000 in
theorem lifted (os : Os) (started : os.Started) (H : Type) (enc : TypeId × Value → H) :
    ReturnsInHanded {} Tryd.checked os 6 .any (fun w args => (Rows.majorReadsSpec.pre enc Tryd.prog Tryd.f6 [] false w args ∧ laidMetH Tryd.prog Rows.majorReadsRow.laid w) ∧ sizedMet enc Tryd.prog Tryd.f6 (OpenSpec.ofChange Rows.majorReadsSpec) false w args)
      (Rows.majorReadsSpec.post enc Tryd.prog Tryd.f6 false true false false) := by
  refine returnsInHanded_of_change_and (C := Tryd.checked) (X := fun w _ => laidMetH Tryd.prog Rows.majorReadsRow.laid w) (fun _ _ _ hh h => h.of_heap hh) own started (by kernel_rfl) Tryd.func6
    (ChangeSpec.witness_shaped (enc := enc) (C := Tryd.checked) (os := os) (X := fun w _ => laidMetH Tryd.prog Rows.majorReadsRow.laid w) false (World.doorLaid Tryd.prog 400 os) #[.int .i64 0, .slice none 0 0] 8 rfl (World.shaped_of_RefB (by kernel_rfl) (by kernel_rfl)) (by kernel_rfl) (by kernel_rfl) (by kernel_rfl) (door_met os _)) ?_
  intro W base args ds gs before hval0 hW _ _ hL _
  have hval : ∀ (j : Nat) t v, Tryd.f6.params[j]? = some t → args[j]? = some v → Value.okWide Tryd.prog W .any base t v := hval0
  have hW' := hW
  obtain ⟨p, q, hA0, hV, rfl, hfz, hnd⟩ := hW
  have hA : DataW.TrodAll enc Tryd.prog W 0 (fun _ => true) true Tryd.f6.params.toList args.toList ds p := hA0
  rw [Tryd.params6] at hA hval
  obtain ⟨v0, vs0, d0, ds0, p0, q0, hargs, rfl, rfl, h0, r0⟩ := trodAll_cons hA
  obtain ⟨v1, vs1, d1, ds1, p1, q1, rfl, rfl, rfl, h1, r1⟩ := trodAll_cons r0
  obtain ⟨rfl, rfl, rfl⟩ := trodAll_nil r1
  obtain rfl : args = #[v0, v1] := by cases args; simp_all
  obtain ⟨rfl, rfl⟩ := trodVars_none hV
  obtain ⟨words, rfl, rfl, rfl, wf0⟩ := open_int Tryd.underlying3 (hval 0 3 v0 rfl rfl) h0
  have bd0 := bounds_i64 wf0
  have k1 := h1
  have lt1 : ∀ x ∈ p1, x.block < W.heap.size := by obtain ⟨m, hm⟩ := k1; exact DataW.trod_lt m _ _ _ hm
  obtain ⟨lA, ln, lc, rfl⟩ := okWide_slice Tryd.underlying51 (hval 1 51 v1 rfl rfl)
  obtain ⟨l, g1, rd1, cb1, cc1⟩ := reads_slice (e := shK) 30 (by kernel_rfl) k1
  clear hA0 hval0
  refine (walk words lA ln lc l W (of_laid hL) bd0.1 bd0.2 g1 rd1 cb1 cc1).mono fun e W' ⟨he, bel⟩ => ?_
  subst he
  exact ⟨_, rfl, _, _, _, [], _, [], hW', trodAll_mk1 (shut_bool Tryd.underlying4 _), (trodAll_cons_mk (shut_int Tryd.underlying3 wf0) (trodAll_cons_mk (Below.trod laidOut (by kernel_rfl) (of_decide_eq_true (by kernel_rfl)) k1 bel lt1) trodAll_mk0)), rfl, bel.frame _, fun h => by cases h⟩

theorem over : Rows.majorReadsRow.holds Tryd.pinned (OpenSpec.ofChange Rows.majorReadsSpec) :=
  OpenClaim.holds_of_wide 6 Tryd.f6 rfl rfl rfl rfl rfl rfl rfl ⟨rfl, rfl, rfl, rfl, rfl⟩ rfl rfl rfl rfl rfl (by kernel_rfl) Tryd.func6 (by kernel_rfl)
    (of_decide_eq_true (by kernel_rfl)) (by unfold Func.isWrapper; first | (rw [if_pos (by decide +kernel)]; kernel_rfl) | (rw [if_neg (by decide +kernel)]; exact ⟨rfl, rfl⟩))
    (fun os started H enc _ => lifted os started H enc)

/-- The card: what the row lists is tied to the program's text. -/
theorem proved : Rows.MajorReadsCardSaid :=
  Claim7.holds_tied_plain_at .later [] [.data] true Rows.majorReadsCard.stood.harness false
    over (fun _ h => by cases h) (by kernel_rfl) (fun _ h => by cases h) majorReads_row_tie rfl ⟨rfl, rfl⟩ (by kernel_rfl) rfl
    (fun f fn hf hfn => by
      obtain rfl : f = 6 := Option.some.inj ((show Tryd.prog.funcNamed "busbar/busbarlaw16.MajorReads" = some 6 by kernel_rfl).symm.trans hf) |>.symm
      obtain rfl : fn = Tryd.f6 := (Option.some.inj (Tryd.func6.symm.trans hfn)).symm
      exact ⟨by kernel_rfl, fun j t ht => by
        rw [Tryd.params6] at ht
        have hm : t ∈ [3, 51] := by simpa using Array.mem_of_getElem? ht
        have hall : ([3, 51].all fun u => !Tryd.prog.wantsStandIn u) = true := by kernel_rfl
        exact (show Tryd.prog.wantsStandIn t = false by simpa using List.all_eq_true.1 hall t hm)⟩)
    (by kernel_rfl)
end Go.Proofs.YtnbcegijncdmaaaDoor.lawMajorReads
