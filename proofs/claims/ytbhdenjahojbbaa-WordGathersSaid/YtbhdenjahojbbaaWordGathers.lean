/- Whatever bits are told to a message, in whatever order, it is whole, and has as many missing, as the document says: for every number of words and every row of bits; no condition. -/
import Derived.Deep.RegionHeld3
import Derived.Laws.MakeOwn
import Derived.StillTailTactics
import Derived.Deep.CutRange
import Derived.Test.YtbhdenjahojbbaaWrdR
import Derived.Test.YtbhdenjahojbbaaPush
import Derived.Test.YtbhdenjahojbbaaSh
import Derived.Test.YtbhdenjahojbbaaStr
import Derived.Test.YtbhdenjahojbbaaBox
import Derived.Test.YtbhdenjahojbbaaRows
import Derived.WalkKit
import Derived.ProofKit
import Derived.OpenShut
import Derived.ShutString
import Derived.ChangeOld
import Derived.Below
namespace Go.Proofs.Ytbhdenjahojbbaa.lawWordGathers
open Go.ChangeShapes Go.WideShapes Go.ChangeAt Go.RowKit Base
open Go.ChangeMaps (open_string shut_string)
set_option linter.unusedVariables false
set_option linter.unusedSimpArgs false
theorem own : ownKnob Try.prog.godebug = none := by kernel_rfl
theorem laidOut : laidOutB Try.prog = true := by kernel_rfl
open Ly2

theorem refwords_d (A : Option Addr) (N m c : Nat) (bs : List Bool) (w : World) (hN : 8 * m = N) (h : Lst w A N (bs.map Value.bool)) (hn : m ≤ 100000) :
    Calls Try.prog 25 #[.slice A N c] w fun e w' => ∃ B d, e = .returned (.slice B m d) ∧ Hid (Lst w' B m ((wordsOf bs m).map fun (x : Nat) => Value.int .u8 x)) ∧ Hid (Below w.heap.size w w') := by
  subst hN
  refine (refwords_any A m c bs w h hn).mono ?_
  rintro e w' ⟨v, rfl, hown, hb⟩
  obtain ⟨A', c', rfl, _, _, hl⟩ := Lst.of_own hown
  exact ⟨_, _, rfl, Lib.hid hl, Lib.hid hb⟩
theorem convN {w : World} {A : Option Addr} {n c : Nat} {ns : List Nat} {S : ByteArray} (h : Lst w A n (ns.map fun (x : Nat) => Value.int .u8 x)) (hS : strB (ns.map fun (x : Nat) => (x : Int)) = S) : (convert 37 9 (.slice A n c)).run Try.prog w = .ok (.string S) w := by
  subst hS
  refine convB ?_
  rw [List.map_map]
  exact h

theorem lst_obj {w : World} {g n : Nat} {T : TypeId} {xs : List Value} (h : Obj1 w g T xs.toArray) (hn : xs.length = n) : Lst w (some ⟨g, 0, none⟩) n xs :=
  ⟨hn, fun _ => ⟨g, 0, rfl, h.lt, fun k hk => by rw [Nat.zero_add, h.cell, List.getElem?_toArray]⟩⟩
abbrev shP : Sh := .fld (.int .i64) (.fld .bool (.fld .bool .nil))
theorem rowP {w : World} {A : Option Addr} {n : Nat} {rows : List (List Value)} (hg : Grid w A n 3 rows) (hr : ∀ r ∈ rows, Reads w shP r) (k : Nat) (hk : k < n) :
    ∃ (x : Int) (y z : Bool), ∃ b off, A = some ⟨b, off, none⟩ ∧ b < w.heap.size ∧ w.cell? ⟨b, off + k * 3, none⟩ = some (.int .i64 x) ∧ w.cell? ⟨b, off + k * 3 + 1, none⟩ = some (.bool y) ∧ w.cell? ⟨b, off + k * 3 + 2, none⟩ = some (.bool z) ∧
      (-9223372036854775808 ≤ x ∧ x ≤ 9223372036854775807) := by
  obtain ⟨b, off, e, hb, hc⟩ := hg.2 (by omega)
  have hkl : k < rows.length := by rw [hg.1]; exact hk
  obtain ⟨_, _, er, ⟨x, rfl, hx⟩, _, _, rfl, ⟨y, rfl⟩, _, _, rfl, ⟨z, rfl⟩, rfl⟩ := hr _ (List.getElem_mem hkl)
  have e2 : rows[k]? = some [.int .i64 x, .bool y, .bool z] := by rw [List.getElem?_eq_getElem hkl, er]; rfl
  refine ⟨x, y, z, b, off, e, hb, ?_, ?_, ?_, bounds_i64 hx⟩
  · have := hc k 0 hk (by omega); rw [e2] at this; simpa using this
  · have := hc k 1 hk (by omega); rw [e2] at this; simpa [Nat.add_assoc] using this
  · have := hc k 2 hk (by omega); rw [e2] at this; simpa [Nat.add_assoc] using this
abbrev TB : TypeId := 4
/-- The message, and what the law keeps of it. -/
structure GSt (w : World) (g X Y m : Nat) (ws : List Nat) (kn bits : List Bool) : Prop where
  msg : Msg w g true m ws kn
  ox : Obj1 w X TB (bits.map Value.bool).toArray
  lb : bits.length = 8 * m
  oy : Obj1 w Y TB ((kn.take (8 * m)).map Value.bool).toArray
  eq : ∀ p, p < 8 * m → wbit (ws.getD (p / 8) 0) (p % 8) = bits.getD p false
theorem GSt.kept {w w' : World} {g X Y m : Nat} {ws : List Nat} {kn bits : List Bool} (h : GSt w g X Y m ws kn bits) (hb : Below w.heap.size w w') : GSt w' g X Y m ws kn bits :=
  ⟨h.msg.kept hb, h.ox.kept hb, h.lb, h.oy.kept hb, h.eq⟩
theorem GSt.drew {w : World} {g X Y m : Nat} {ws : List Nat} {kn bits : List Bool} (h : GSt w g X Y m ws kn bits) : GSt w.drew g X Y m ws kn bits := ⟨h.msg.drew, h.ox.drew, h.lb, h.oy.drew, h.eq⟩
theorem map_set {l : List Bool} {p : Nat} {b : Bool} : ((l.map Value.bool).toArray).setIfInBounds p (.bool b) = ((l.set p b).map Value.bool).toArray := by
  rw [List.setIfInBounds_toArray, List.map_set]
theorem GSt.step {w w1 w2 : World} {g X Y m p : Nat} {ws : List Nat} {kn bits : List Bool} {b z : Bool} (h : GSt w g X Y m ws kn bits) (hm : m ≤ 8) (hp : p < 8 * m) (hgx : g ≠ X) (hgy : g ≠ Y) (hxy : X ≠ Y)
    (h1 : Msg w1 g true m (ws.set (p / 8) (putb (ws.getD (p / 8) 0) (p % 8) b)) (kn.set p z)) (hw : Wrote g w w1)
    (h2 : w2 = ((w1.drew.setCell ⟨X, p, none⟩ (.bool b)).setCell ⟨Y, p, none⟩ (.bool z)) ∨ w2 = ((w1.drew.setCell ⟨Y, p, none⟩ (.bool z)).setCell ⟨X, p, none⟩ (.bool b))) :
    GSt w2 g X Y m (ws.set (p / 8) (putb (ws.getD (p / 8) 0) (p % 8) b)) (kn.set p z) (bits.set p b) := by
  have hx1 := (h.ox.touch hw (Ne.symm hgx)).drew
  have hy1 := (h.oy.touch hw (Ne.symm hgy)).drew
  have hs1 := hx1.set p (.bool b)
  have hs2 := hy1.set p (.bool z)
  rw [map_set] at hs1 hs2
  rw [← List.take_set] at hs2
  refine ⟨?_, ?_, by rw [List.length_set]; exact h.lb, ?_, fun q hq => ?_⟩
  · rcases h2 with rfl | rfl
    · exact ⟨(h1.obj.drew.far ⟨X, p, none⟩ hgx _).far ⟨Y, p, none⟩ hgy _, h1.lw, h1.lk, h1.wd⟩
    · exact ⟨(h1.obj.drew.far ⟨Y, p, none⟩ hgy _).far ⟨X, p, none⟩ hgx _, h1.lw, h1.lk, h1.wd⟩
  · rcases h2 with rfl | rfl
    · exact hs1.far ⟨Y, p, none⟩ hxy _
    · have := (hx1.far ⟨Y, p, none⟩ hxy (.bool z)).set p (.bool b)
      rwa [map_set] at this
  · rcases h2 with rfl | rfl
    · have := (hy1.far ⟨X, p, none⟩ (Ne.symm hxy) (.bool b)).set p (.bool z)
      rw [map_set, ← List.take_set] at this
      exact this
    · exact hs2.far ⟨X, p, none⟩ (Ne.symm hxy) _
  · rw [set_word h.msg.lw h.msg.wd p (by omega) b q (by omega), getD_set (by rw [h.lb]; exact hp)]
    by_cases e : q = p
    · rw [if_pos e, if_pos e]
    · rw [if_neg e, if_neg e]
      exact h.eq q hq
theorem GSt.words {w : World} {g X Y m : Nat} {ws : List Nat} {kn bits : List Bool} (h : GSt w g X Y m ws kn bits) (hm : m ≤ 8) : wordsOf bits m = ws.take m := by
  rw [wordsOf_hv _ _ h.lb]
  apply List.ext_getElem
  · simp [h.msg.lw]; omega
  · intro i h1 h2
    have hi : i < m := by simpa using h1
    have hi8 : i < ws.length := by rw [h.msg.lw]; omega
    rw [List.getElem_map, List.getElem_range, List.getElem_take]
    refine hv_of_bits (h.msg.wd _ (List.getElem_mem hi8)) (fun j hj => ?_)
    have := h.eq (8 * i + j) (by omega)
    rw [show (8 * i + j) / 8 = i by omega, show (8 * i + j) % 8 = j by omega] at this
    rw [← this, List.getD_eq_getElem?_getD, List.getElem?_eq_getElem hi8]
    rfl
theorem GSt.zero {w : World} {g X Y m : Nat} (hm : m ≤ 8) (h1 : Msg w g true m (List.replicate 8 0) (List.replicate 64 false)) (h2 : Obj1 w X TB (madeCells #[.bool false] (8 * m))) (h3 : Obj1 w Y TB (madeCells #[.bool false] (8 * m))) :
    GSt w g X Y m (List.replicate 8 0) (List.replicate 64 false) (List.replicate (8 * m) false) := by
  have e : madeCells #[.bool false] (8 * m) = ((List.replicate (8 * m) false).map Value.bool).toArray := by
    apply Array.toList_inj.1
    rw [Go.toList_madeCells_one]
    simp
  rw [e] at h2 h3
  refine ⟨h1, h2, by simp, ?_, fun p hp => ?_⟩
  · rw [List.take_replicate, Nat.min_eq_left (by omega)]
    exact h3
  · rw [List.getD_eq_getElem?_getD, List.getD_eq_getElem?_getD, List.getElem?_replicate_of_lt (by omega), List.getElem?_replicate_of_lt hp]
    have hz : ∀ r : Fin 8, wbit 0 r.1 = false := by decide
    exact hz ⟨p % 8, by omega⟩
def GRel (w : World) (g X Y m n : Nat) (i : Value) (wr : World) : Prop :=
  ∃ (k : Nat) (ws : List Nat) (kn bits : List Bool), k ≤ n ∧ k ≤ 200 ∧ i = .int .i64 k ∧ GSt wr g X Y m ws kn bits ∧ Below w.heap.size w wr
theorem far_c {W : World} {X p b o : Nat} {v : Value} (h : b ≠ X) : (W.setCell ⟨X, p, none⟩ v).cell? ⟨b, o, none⟩ = W.cell? ⟨b, o, none⟩ := World.cell?_of_block (Below.heap_setCell W ⟨X, p, none⟩ v b h)
def MkRel (w1 : World) (g L : Nat) (x y : Value) (wx : World) : Prop :=
  ∃ X Y, x = .slice (some ⟨X, 0, none⟩) L L ∧ y = .slice (some ⟨Y, 0, none⟩) L L ∧ X ≠ Y ∧ g < X ∧ g < Y ∧ Obj1 wx X TB (madeCells #[.bool false] L) ∧ Obj1 wx Y TB (madeCells #[.bool false] L) ∧ Below w1.heap.size w1 wx
theorem mk_rel (w1 : World) (g L : Nat) (hg : g < w1.heap.size) : MkRel w1 g L (.slice (some ⟨w1.heap.size, 0, none⟩) L L) (.slice (some ⟨w1.heap.size + 1, 0, none⟩) L L) ((w1.alloc (.cells (madeCells #[.bool false] L) TB)).alloc (.cells (madeCells #[.bool false] L) TB)).drew := by
  have e : (w1.alloc (.cells (madeCells #[.bool false] L) TB)).heap.size = w1.heap.size + 1 := by simp
  refine ⟨_, _, rfl, rfl, by omega, hg, by omega, ((Obj1.new w1 _ _).alloc _).drew, by rw [← e]; exact (Obj1.new _ _ _).drew, ?_⟩
  exact (((Below.refl _ _).alloc (Nat.le_refl _) _).alloc (by simp) _).drew
theorem mk_rel' (w1 : World) (g L : Nat) (hg : g < w1.heap.size) : MkRel w1 g L (.slice (some ⟨w1.heap.size + 1, 0, none⟩) L L) (.slice (some ⟨w1.heap.size, 0, none⟩) L L) ((w1.alloc (.cells (madeCells #[.bool false] L) TB)).alloc (.cells (madeCells #[.bool false] L) TB)).drew := by
  have e : (w1.alloc (.cells (madeCells #[.bool false] L) TB)).heap.size = w1.heap.size + 1 := by simp
  refine ⟨_, _, rfl, rfl, by omega, by omega, hg, by rw [← e]; exact (Obj1.new _ _ _).drew, ((Obj1.new w1 _ _).alloc _).drew, ?_⟩
  exact (((Below.refl _ _).alloc (Nat.le_refl _) _).alloc (by simp) _).drew
set_option maxRecDepth 100000 in
set_option maxHeartbeats 4000000 in
theorem walk_in (N : Int) (A : Option Addr) (n c m : Nat) (rows : List (List Value)) (w : World) (hN : (N ≤ 0 ∧ m = 0) ∨ (8 ≤ N ∧ m = 8) ∨ (0 < N ∧ N < 8 ∧ N = m)) (n0 : -9223372036854775808 ≤ N) (n1 : N ≤ 9223372036854775807) (hg : Grid w A n 3 rows) (hr : ∀ r ∈ rows, Reads w shP r) (hn : n ≤ 9223372036854775807) :
    Calls Try.prog 8 #[.int .i64 N, .slice A n c] w fun e w' => e = .returned (.bool true) ∧ Below w.heap.size w w' := by
  have hm8 : m ≤ 8 := by omega
  have HG := Lib.hid hg
  have HR := Lib.hid hr
  have HNN := Lib.hid hN
  obtain ⟨i0, hi, hz0, hz1, hz2⟩ := info_parts info_bool
  obtain ⟨L, hL⟩ : ∃ L, 8 * m = L := ⟨_, rfl⟩
  have HL := Lib.hid hL
  have hL64 : L ≤ 64 := by omega
  have hmk : ∀ W : World, (Instr.makeSlice 31 (.int .i64 (L : Int)) (.int .i64 (L : Int))).run Try.prog W = .ok (.slice (some ⟨W.heap.size, 0, none⟩) L L) (W.alloc (.cells (madeCells #[.bool false] L) TB)) := fun W => by
    have := run_make (P := Try.prog) W 31 TB i0 (.bool false) Try.underlying31 hi hz0 .i64 .i64 (L : Int) (L : Int) (by omega) (Int.le_refl _) (by rw [hz2]; omega) (by omega)
    rw [hz1] at this
    simp only [Int.toNat_natCast, Nat.mul_one] at this
    exact this
  have HMK := Lib.hid hmk
  clear hg hr hN hmk hz0 hz1 hz2 hi hL
  go_enter Try.func8, Try.ntmps8
  go_wp2_with fail
  refine (gather_any N m w HNN.out).mono ?_
  rintro e w1 ⟨rfl, HM1, HB1⟩
  obtain ⟨g, HGG⟩ : ∃ g, Hid (w.heap.size = g) := ⟨_, Lib.hid rfl⟩
  rw [HGG.out] at HM1 ⊢
  have HGW := Lib.hid (show w.heap.size ≤ g by rw [HGG.out]; exact Nat.le_refl _)
  have HGX := Lib.hid HM1.out.obj.lt
  go_upto_region 4 with (fail)
  go_cut [6] from 18 to 21 (fun v wx => v = .int .i64 (L : Int) ∧ wx = w1)
  case first =>
    rcases (show (N < 0 ∧ m = 0) ∨ (N = 0 ∧ m = 0) ∨ (8 < N ∧ m = 8) ∨ (N = 8 ∧ m = 8) ∨ (0 < N ∧ N < 8 ∧ N = m) by have := HNN.out; omega) with ⟨h, h1⟩ | ⟨rfl, h1⟩ | ⟨h, h1⟩ | ⟨rfl, h1⟩ | ⟨h, h1, h2⟩
    case' inl => have hLv : L = 0 := by have := HL.out; omega
    case' inr.inl => have hLv : L = 0 := by have := HL.out; omega
    case' inr.inr.inl => have hLv : L = 64 := by have := HL.out; omega
    case' inr.inr.inr.inl => have hLv : L = 64 := by have := HL.out; omega
    case' inr.inr.inr.inr =>
      subst h2
      have hLv : (L : Int) = 8 * (m : Int) := by have := HL.out; omega
    all_goals
      go_wp2_with fail
      go_meet
      first
        | exact ⟨by rw [hLv]; rfl, rfl⟩
        | exact ⟨by rw [hLv], rfl⟩
  case rest =>
    obtain ⟨rfl, rfl⟩ := hcut
    obtain ⟨w1, hw1⟩ : ∃ w1, w1 = wc := ⟨_, rfl⟩
    subst hw1
    go_upto_region 5 with (fail)
    go_cut [7, 8] from 22 to 25 (fun x y wx => MkRel w1 g L x y wx)
    case first =>
      have hmk := HMK.out
      go_region
      all_goals
        go_wp2_with fail
        go_meet
        first
          | exact mk_rel _ _ _ HGX.out
          | exact mk_rel' _ _ _ HGX.out
    case rest =>
      obtain ⟨X, Y, rfl, rfl, hxy, hgx, hgy, hox, hoy, hbc⟩ := hcut
      have HG2 := Lib.hid (GSt.zero hm8 (HM1.out.kept hbc) (by rw [HL.out]; exact hox) (by rw [HL.out]; exact hoy))
      have HB2 := Lib.hid (HB1.out.trans (hbc.mono HB1.out.size))
      have HXY := Lib.hid hxy
      have HGX1 := Lib.hid hgx
      have HGY1 := Lib.hid hgy
      clear hox hoy hbc hxy hgx hgy HM1 HB1 HMK
      go_wp2_with fail
      go_loopw [9] (fun i wr => GRel w g X Y m n i wr) (fun i _ => n - (intOf i).toNat)
      case atStart => exact ⟨0, _, _, _, by omega, by omega, rfl, HG2.out, HB2.out⟩
      case round =>
        obtain ⟨k, ws, kn, bits, hk, hk2, rfl, hst, hbel⟩ := hrel
        have HGR := Lib.hid hst
        have HBR := Lib.hid hbel
        clear hst hbel
        by_cases hlt : k < n ∧ k < 200
        · obtain ⟨hlt, hlt2⟩ := hlt
          obtain ⟨x, y, z, b, off, rfl, hbw, c0, c1, c2, x0, x1⟩ := rowP HG.out HR.out k hlt
          have HC0 := Lib.hid (fun W (h : Below w.heap.size w W) => (h.cell (p := ⟨b, off + k * 3, none⟩) hbw).trans c0)
          have HC1 := Lib.hid (fun W (h : Below w.heap.size w W) => (h.cell (p := ⟨b, off + k * 3 + 1, none⟩) hbw).trans c1)
          have HC2 := Lib.hid (fun W (h : Below w.heap.size w W) => (h.cell (p := ⟨b, off + k * 3 + 2, none⟩) hbw).trans c2)
          clear c0 c1 c2
          have c0 := HC0.out wr HBR.out
          have c1 := HC1.out wr HBR.out
          have c2 := HC2.out wr HBR.out
          go_wp2_with fail
          refine wp_region_still_tail 16 (by kernel_rfl) (by kernel_rfl) ?_
          simp only [List.take_succ_cons, List.take_zero, List.drop_succ_cons, List.drop_zero]
          repeat still_step
          refine wpStill_nil ?_
          change wpList _ _ _ _ _ wr.drew
          go_wp2_with fail
          by_cases hx : 0 ≤ x ∧ x < (L : Int)
          case' pos =>
            obtain ⟨p, rfl⟩ : ∃ p : Nat, x = (p : Int) := ⟨x.toNat, by omega⟩
            obtain ⟨hx0, hx1⟩ := hx
            have hpL : p < 8 * m := by have := HL.out; omega
            refine (put_in p y z HGR.out.msg.drew hm8 hpL).mono ?_
            rintro e w4 ⟨rfl, hM4, hW4⟩
            have HB4 := Lib.hid (HBR.out.drew.trans (hW4.out.below HGW.out HBR.out.drew.size))
            have hgX : g ≠ X := by have := HGX1.out; omega
            have hgY : g ≠ Y := by have := HGY1.out; omega
            have hbX : b ≠ X := by have := HGX1.out; have := HGW.out; omega
            have hbY : b ≠ Y := by have := HGY1.out; have := HGW.out; omega
            have hXY := HXY.out
            have hox := HGR.out.ox.drew.touch hW4.out (Ne.symm hgX)
            have hoy := HGR.out.oy.drew.touch hW4.out (Ne.symm hgY)
            have x1c : ∃ v, w4.cell? ⟨X, p, none⟩ = some v := ⟨_, (hox.cell p).trans (by rw [List.getElem?_toArray, List.getElem?_map, List.getElem?_eq_getElem (by rw [HGR.out.lb]; exact hpL)]; rfl)⟩
            have y1c : ∃ v, w4.cell? ⟨Y, p, none⟩ = some v := ⟨_, (hoy.cell p).trans (by rw [List.getElem?_toArray, List.getElem?_map, List.getElem?_eq_getElem (by rw [List.length_take, HGR.out.msg.lk]; omega)]; rfl)⟩
            obtain ⟨vx, x1c⟩ := x1c
            obtain ⟨vy, y1c⟩ := y1c
            have x1f := hox.free p
            have y1f := hoy.free p
            clear hox hoy c0 c1 c2
            have c0 := HC0.out w4 HB4.out
            have c1 := HC1.out w4 HB4.out
            have c2 := HC2.out w4 HB4.out
            go_wp2_with fail
            go_region_held3 (fun W => W.cell? ⟨b, off + k * 3, none⟩ = some (.int .i64 (p : Int)) ∧ W.cell? ⟨b, off + k * 3 + 1, none⟩ = some (.bool y) ∧ W.cell? ⟨b, off + k * 3 + 2, none⟩ = some (.bool z))
              (first
                | exact ⟨c0, c1, c2⟩
                | exact ⟨(far_c hbX).trans c0, (far_c hbX).trans c1, (far_c hbX).trans c2⟩
                | exact ⟨(far_c hbY).trans c0, (far_c hbY).trans c1, (far_c hbY).trans c2⟩
                | exact ⟨(far_c hbY).trans ((far_c hbX).trans c0), (far_c hbY).trans ((far_c hbX).trans c1), (far_c hbY).trans ((far_c hbX).trans c2)⟩
                | exact ⟨(far_c hbX).trans ((far_c hbY).trans c0), (far_c hbX).trans ((far_c hbY).trans c1), (far_c hbX).trans ((far_c hbY).trans c2)⟩) (fail)
            obtain ⟨ws', kn', bits', hG3⟩ : ∃ ws' kn' bits', GSt ((w4.drew.setCell ⟨X, p, none⟩ (.bool y)).setCell ⟨Y, p, none⟩ (.bool z)) g X Y m ws' kn' bits' := ⟨_, _, _, HGR.out.drew.step hm8 hpL hgX hgY hXY hM4.out hW4.out (.inl rfl)⟩
            have HGQ := Lib.hid hG3
            have HBQ := Lib.hid ((HB4.out.drew.setCell (p := ⟨X, p, none⟩) (by have := HGX1.out; have := HGW.out; simp; omega) (.bool y)).setCell (p := ⟨Y, p, none⟩) (by have := HGY1.out; have := HGW.out; simp; omega) (.bool z))
            clear hG3 x1c y1c x1f y1f c0 c1 c2
            change Exit.then _ _ _ _ ((w4.drew.setCell ⟨X, p, none⟩ (.bool y)).setCell ⟨Y, p, none⟩ (.bool z))
            generalize (w4.drew.setCell ⟨X, p, none⟩ (.bool y)).setCell ⟨Y, p, none⟩ (.bool z) = wq at HGQ HBQ ⊢
            go_wp2_with fail
          case' neg =>
            have hx2 : x < 0 ∨ 8 * (m : Int) ≤ x := by have := HL.out; omega
            refine (put_out x y z HGR.out.msg.drew hm8 hx2).mono ?_
            rintro e w4 ⟨rfl, rfl⟩
            have hx3 : (decide (0 ≤ x) && decide (x < (L : Int))) = false := by
              rw [Bool.and_eq_false_iff]
              rcases Classical.em (0 ≤ x) with h | h
              · exact .inr (by simp; have := HL.out; omega)
              · exact .inl (by simpa using h)
            obtain ⟨ws', kn', bits', hG3⟩ : ∃ ws' kn' bits', GSt wr.drew g X Y m ws' kn' bits' := ⟨_, _, _, HGR.out.drew⟩
            have HGQ := Lib.hid hG3
            have HBQ := Lib.hid HBR.out.drew
            have c0 : wr.drew.cell? ⟨b, off + k * 3, none⟩ = some (.int .i64 x) := c0
            clear hG3 c1 c2
            generalize wr.drew = wq at HGQ HBQ c0 ⊢
            by_cases hx0 : 0 ≤ x
            case' pos => have hx4 : (L : Int) ≤ x := by omega
            all_goals go_wp2_with fail
          all_goals
            obtain ⟨KT, HKT⟩ : ∃ KT, Hid (kn'.take (8 * m) = KT) := ⟨_, Lib.hid rfl⟩
            have hkl : KT.length = L := by rw [← HKT.out, List.length_take, HGQ.out.msg.lk, HL.out]; omega
            have HOY : Hid (Obj1 wq Y TB (KT.map Value.bool).toArray) := Lib.hid (by rw [← HKT.out]; exact HGQ.out.oy)
            go_loop [10, 11] (fun o i => ∃ j : Nat, j ≤ L ∧ i = .int .i64 j ∧ o = .int .i64 (((KT.take j).count false : Nat) : Int)) (fun _ i => L - (intOf i).toNat)
            case atStart => exact ⟨0, by omega, rfl, by simp⟩
            case round =>
              obtain ⟨j, hj, rfl, rfl⟩ := hrel
              by_cases hjl : j < L
              · have hjk : j < KT.length := by rw [hkl]; exact hjl
                have hc := HOY.out.cell j
                rw [List.getElem?_toArray, List.getElem?_map, List.getElem?_eq_getElem hjk, Option.map_some] at hc
                have HC : Hid (∀ q : Bool, KT[j]'hjk = q → (KT.take (j + 1)).count false = (KT.take j).count false + (if q = true then 0 else 1)) := Lib.hid (fun q hq => by
                  rw [List.take_add_one, List.getElem?_eq_getElem hjk, hq, Option.toList_some, List.count_append, List.count_singleton]
                  cases q <;> rfl)
                obtain ⟨q, HQ⟩ : ∃ q, Hid (KT[j]'hjk = q) := ⟨_, Lib.hid rfl⟩
                have hbd : (KT.take j).count false ≤ j := Nat.le_trans (List.count_le_length) (by simp; omega)
                have HD := Lib.hid (HC.out q HQ.out)
                rw [HQ.out] at hc
                obtain ⟨y1, HY⟩ : ∃ y1 : Nat, Hid ((KT.take j).count false = y1) := ⟨_, Lib.hid rfl⟩
                rw [HY.out] at hbd HD ⊢
                cases q
                · go_wp2
                  go_round
                  case rel => exact ⟨j + 1, by omega, by go_num, by rw [HD.out]; simp⟩
                  case measure => simp [intOf]; omega
                · go_wp2
                  go_round
                  case rel => exact ⟨j + 1, by omega, by go_num, by rw [HD.out]; simp⟩
                  case measure => simp [intOf]; omega
              · obtain rfl : L = j := by omega
                rw [List.take_of_length_le (by rw [hkl]; exact Nat.le_refl _)]
                obtain ⟨cI, HCI⟩ : ∃ cI : Int, Hid (((KT.count false : Nat) : Int) = cI) := ⟨_, Lib.hid rfl⟩
                have HKTC : Hid ((((kn'.take (8 * m)).count false : Nat) : Int) = cI) := Lib.hid (by rw [HKT.out]; exact HCI.out)
                rw [HCI.out]
                rcases (show 0 < cI ∨ cI = 0 by have := HCI.out; omega) with hc1 | hc1
                · have HMI : Hid (∀ x : Kin wq, Calls Try.prog 33 #[.pointer (some ⟨g, 0, none⟩)] x.world fun e w' => e = .returned (.int .i64 cI) ∧ x.world = w') := Lib.hid (fun x => by
                    have h := missing_any (HGQ.out.msg.kept x.below) hm8
                    rwa [HKTC.out] at h)
                  have hcz : (cI == 0) = false := by simp; omega
                  have hcz2 : (cI != cI) = false := by simp
                  go_wp2_with fail
                  refine (whole_no HGQ.out.msg hm8 (by have := HKTC.out; omega)).mono ?_
                  rintro e w' ⟨rfl, rfl⟩
                  go_wp2_with fail
                  refine wp_region_kin (by kernel_rfl) (by kernel_rfl) ?_
                  repeat (go_big_quiet_step (first | (go_at_call 33; exact Calls.kin_same _ (HMI.out _))))
                  refine wpQuiet_nil ?_
                  intro _ hw'
                  obtain ⟨kx, hw''⟩ := hw'
                  subst hw''
                  go_wp2
                  go_roundw
                  case rel => exact ⟨k + 1, ws', kn', bits', by omega, by omega, by go_num, HGQ.out.kept kx.below, HBQ.out.trans (kx.below.mono HBQ.out.size)⟩
                  case measure => simp [intOf]; omega
                · subst hc1
                  have HWY := Lib.hid (whole_yes HGQ.out.msg hm8 (by have := HKTC.out; omega))
                  have HWW := Lib.hid (HGQ.out.words hm8)
                  have HLW := Lib.hid (show (ws'.take m).length = m by rw [List.length_take, HGQ.out.msg.lw]; omega)
                  obtain ⟨z0, HZ0⟩ : ∃ z0, Hid (wq.heap.size = z0) := ⟨_, Lib.hid rfl⟩
                  obtain ⟨S, HS⟩ : ∃ S, Hid (strB ((ws'.take m).map fun (x : Nat) => (x : Int)) = S) := ⟨_, Lib.hid rfl⟩
                  go_wp2_with fail
                  refine HWY.out.mono ?_
                  rintro e w3 ⟨rfl, HO3, HBZ⟩
                  have HG3 := Lib.hid (HGQ.out.kept HBZ.out)
                  have HB3 := Lib.hid (HBQ.out.trans (HBZ.out.mono HBQ.out.size))
                  have HZL := Lib.hid (lst_obj (n := m) HO3.out (by rw [List.length_map]; exact HLW.out))
                  have HXL : Hid (Lst w3.drew (some ⟨X, 0, none⟩) L (bits'.map Value.bool)) := Lib.hid (lst_obj (n := L) HG3.out.drew.ox (by rw [List.length_map, HG3.out.lb, HL.out]))
                  rw [HZ0.out] at HZL ⊢
                  clear HWY HBZ
                  go_wp2_with fail
                  refine wp_region_any (by kernel_rfl) ?_
                  change wpAny _ _ _ _ _ _ _ (World.drew _)
                  refine wpAny_take (i := 0) (v := .pointer (some ⟨g, 0, none⟩)) rfl (by kernel_rfl) (by kernel_rfl) (by kernel_rfl) (fun _ _ _ h => h) (Or.inl ⟨by rfl, fun w => by go_simp⟩) ?_
                  try simp only [Act.put, List.getElem_toArray, List.getElem_cons_succ, List.getElem_cons_zero, List.setIfInBounds_toArray, List.set_cons_zero, List.set_cons_succ]
                  refine wpAny_take (i := 2) (v := .int .i64 0) rfl (by kernel_rfl) (by kernel_rfl) (by kernel_rfl) (fun _ _ _ h => h) (Or.inl ⟨by rfl, fun w => by go_simp⟩) ?_
                  try simp only [Act.put, List.getElem_toArray, List.getElem_cons_succ, List.getElem_cons_zero, List.setIfInBounds_toArray, List.set_cons_zero, List.set_cons_succ]
                  refine wpAny_ready (rs := [1]) (by kernel_rfl) (by simp) ?_
                  refine AllReady.cons rfl (fun K hK => ?_) AllReady.nil
                  go_simp
                  refine (missing_any HG3.out.drew.msg hm8).mono ?_
                  rw [HKTC.out]
                  rintro e w' ⟨rfl, rfl⟩
                  refine hK _ _ ?_
                  clear hK K
                  try simp only [Act.put, List.getElem_toArray, List.getElem_cons_succ, List.getElem_cons_zero, List.setIfInBounds_toArray, List.set_cons_zero, List.set_cons_succ]
                  refine wpAny_take (i := 3) (v := .bool false) rfl (by kernel_rfl) (by kernel_rfl) (by kernel_rfl) (fun _ _ _ h => h) (Or.inl ⟨by rfl, fun w => by go_simp⟩) ?_
                  try simp only [Act.put, List.getElem_toArray, List.getElem_cons_succ, List.getElem_cons_zero, List.setIfInBounds_toArray, List.set_cons_zero, List.set_cons_succ]
                  refine wpAny_take (i := 4) (v := .bool false) rfl (by kernel_rfl) (by kernel_rfl) (by kernel_rfl) (fun _ _ _ h => h) (Or.inl ⟨by rfl, fun w => by go_simp⟩) ?_
                  try simp only [Act.put, List.getElem_toArray, List.getElem_cons_succ, List.getElem_cons_zero, List.setIfInBounds_toArray, List.set_cons_zero, List.set_cons_succ]
                  refine wpAny_take (i := 5) (v := .bool true) rfl (by kernel_rfl) (by kernel_rfl) (by kernel_rfl) (fun _ _ _ h => h) (Or.inl ⟨by rfl, fun w => by go_simp⟩) ?_
                  try simp only [Act.put, List.getElem_toArray, List.getElem_cons_succ, List.getElem_cons_zero, List.setIfInBounds_toArray, List.set_cons_zero, List.set_cons_succ]
                  refine wpAny_take (i := 6) (v := .int .i64 0) rfl (by kernel_rfl) (by kernel_rfl) (by kernel_rfl) (fun _ _ _ h => h) (Or.inl ⟨by rfl, fun w => by go_simp⟩) ?_
                  try simp only [Act.put, List.getElem_toArray, List.getElem_cons_succ, List.getElem_cons_zero, List.setIfInBounds_toArray, List.set_cons_zero, List.set_cons_succ]
                  refine wpAny_take (i := 7) (v := .bool true) rfl (by kernel_rfl) (by kernel_rfl) (by kernel_rfl) (fun _ _ _ h => h) (Or.inl ⟨by rfl, fun w => by go_simp⟩) ?_
                  try simp only [Act.put, List.getElem_toArray, List.getElem_cons_succ, List.getElem_cons_zero, List.setIfInBounds_toArray, List.set_cons_zero, List.set_cons_succ]
                  refine wpAny_take (i := 8) (v := .bool false) rfl (by kernel_rfl) (by kernel_rfl) (by kernel_rfl) (fun _ _ _ h => h) (Or.inl ⟨by rfl, fun w => by go_simp⟩) ?_
                  try simp only [Act.put, List.getElem_toArray, List.getElem_cons_succ, List.getElem_cons_zero, List.setIfInBounds_toArray, List.set_cons_zero, List.set_cons_succ]
                  refine wpAny_take (i := 9) (v := .bool false) rfl (by kernel_rfl) (by kernel_rfl) (by kernel_rfl) (fun _ _ _ h => h) (Or.inl ⟨by rfl, fun w => by go_simp⟩) ?_
                  try simp only [Act.put, List.getElem_toArray, List.getElem_cons_succ, List.getElem_cons_zero, List.setIfInBounds_toArray, List.set_cons_zero, List.set_cons_succ]
                  refine wpAny_take (i := 10) (v := .bool false) rfl (by kernel_rfl) (by kernel_rfl) (by kernel_rfl) (fun _ _ _ h => h) (Or.inl ⟨by rfl, fun w => by go_simp⟩) ?_
                  try simp only [Act.put, List.getElem_toArray, List.getElem_cons_succ, List.getElem_cons_zero, List.setIfInBounds_toArray, List.set_cons_zero, List.set_cons_succ]
                  refine wpAny_take (i := 11) (v := .bool true) rfl (by kernel_rfl) (by kernel_rfl) (by kernel_rfl) (fun _ _ _ h => h) (Or.inl ⟨by rfl, fun w => by go_simp⟩) ?_
                  try simp only [Act.put, List.getElem_toArray, List.getElem_cons_succ, List.getElem_cons_zero, List.setIfInBounds_toArray, List.set_cons_zero, List.set_cons_succ]
                  refine wpAny_take (i := 12) (v := .bool true) rfl (by kernel_rfl) (by kernel_rfl) (by kernel_rfl) (fun _ _ _ h => h) (Or.inl ⟨by rfl, fun w => by go_simp⟩) ?_
                  try simp only [Act.put, List.getElem_toArray, List.getElem_cons_succ, List.getElem_cons_zero, List.setIfInBounds_toArray, List.set_cons_zero, List.set_cons_succ]
                  refine wpAny_take (i := 13) (v := .slice (some ⟨z0, 0, none⟩) m m) rfl (by kernel_rfl) (by kernel_rfl) (by kernel_rfl) (fun _ _ _ h => h) (Or.inl ⟨by rfl, fun w => by go_simp⟩) ?_
                  try simp only [Act.put, List.getElem_toArray, List.getElem_cons_succ, List.getElem_cons_zero, List.setIfInBounds_toArray, List.set_cons_zero, List.set_cons_succ]
                  refine wpAny_take (i := 15) (v := .slice (some ⟨X, 0, none⟩) L L) rfl (by kernel_rfl) (by kernel_rfl) (by kernel_rfl) (fun _ _ _ h => h) (Or.inl ⟨by rfl, fun w => by go_simp⟩) ?_
                  try simp only [Act.put, List.getElem_toArray, List.getElem_cons_succ, List.getElem_cons_zero, List.setIfInBounds_toArray, List.set_cons_zero, List.set_cons_succ]
                  refine wpAny_ready (rs := [14, 16]) (by kernel_rfl) (by simp) ?_
                  refine AllReady.cons rfl (fun K hK => ?_) (AllReady.cons rfl (fun K hK => ?_) AllReady.nil)
                  · have C48 := convN (c := m) HZL.out.drew HS.out
                    go_simp
                    refine hK _ _ ?_
                    clear hK K C48
                    try simp only [Act.put, List.getElem_toArray, List.getElem_cons_succ, List.getElem_cons_zero, List.setIfInBounds_toArray, List.set_cons_zero, List.set_cons_succ]
                    refine wpAny_ready (rs := [16]) (by kernel_rfl) (by simp) ?_
                    refine AllReady.cons rfl (fun K hK => ?_) AllReady.nil
                    go_simp
                    refine (refwords_d (some ⟨X, 0, none⟩) L m L bits' w3.drew HL.out HXL.out (by omega)).mono ?_
                    rw [HWW.out]
                    rintro e wc ⟨U, u1, rfl, HLc, HBc⟩
                    have HG4 := Lib.hid (HG3.out.drew.kept HBc.out)
                    have HB4 := Lib.hid (HB3.out.drew.trans (HBc.out.mono HB3.out.drew.size))
                    refine hK _ _ ?_
                    clear hK K
                    have C51 : ∀ x : Kin wc, (convert 37 9 (.slice U m u1)).run Try.prog x.world = .ok (.string S) x.world := fun x => convN (HLc.out.kept x.below) HS.out
                    refine wpAny_lex_kin 17 (by kernel_rfl) rfl (by kernel_rfl) ?_
                    try simp only [List.drop_succ_cons, List.drop_zero]
                    try simp only [Act.put, List.getElem_toArray, List.getElem_cons_succ, List.getElem_cons_zero, List.setIfInBounds_toArray, List.set_cons_zero, List.set_cons_succ]
                    repeat (go_big_quiet_step (fail))
                    refine wpQuiet_nil ?_
                    intro _ hw'
                    obtain ⟨kx, hw''⟩ := hw'
                    subst hw''
                    go_wp2
                    go_roundw
                    case rel => exact ⟨k + 1, ws', kn', bits', by omega, by omega, by go_num, HG4.out.kept kx.below, HB4.out.trans (kx.below.mono HB4.out.size)⟩
                    case measure => simp [intOf]; omega
                  · go_simp
                    refine (refwords_d (some ⟨X, 0, none⟩) L m L bits' w3.drew HL.out HXL.out (by omega)).mono ?_
                    rw [HWW.out]
                    rintro e wc ⟨U, u1, rfl, HLc, HBc⟩
                    have HG4 := Lib.hid (HG3.out.drew.kept HBc.out)
                    have HB4 := Lib.hid (HB3.out.drew.trans (HBc.out.mono HB3.out.drew.size))
                    refine hK _ _ ?_
                    clear hK K
                    try simp only [Act.put, List.getElem_toArray, List.getElem_cons_succ, List.getElem_cons_zero, List.setIfInBounds_toArray, List.set_cons_zero, List.set_cons_succ]
                    refine wpAny_ready (rs := [14, 17]) (by kernel_rfl) (by simp) ?_
                    refine AllReady.cons rfl (fun K hK => ?_) (AllReady.cons rfl (fun K hK => ?_) AllReady.nil)
                    · have C48 := convN (c := m) (HZL.out.drew.kept HBc.out) HS.out
                      go_simp
                      refine hK _ _ ?_
                      clear hK K C48
                      have C51 : ∀ x : Kin wc, (convert 37 9 (.slice U m u1)).run Try.prog x.world = .ok (.string S) x.world := fun x => convN (HLc.out.kept x.below) HS.out
                      refine wpAny_lex_kin 17 (by kernel_rfl) rfl (by kernel_rfl) ?_
                      try simp only [List.drop_succ_cons, List.drop_zero]
                      try simp only [Act.put, List.getElem_toArray, List.getElem_cons_succ, List.getElem_cons_zero, List.setIfInBounds_toArray, List.set_cons_zero, List.set_cons_succ]
                      repeat (go_big_quiet_step (fail))
                      refine wpQuiet_nil ?_
                      intro _ hw'
                      obtain ⟨kx, hw''⟩ := hw'
                      subst hw''
                      go_wp2
                      go_roundw
                      case rel => exact ⟨k + 1, ws', kn', bits', by omega, by omega, by go_num, HG4.out.kept kx.below, HB4.out.trans (kx.below.mono HB4.out.size)⟩
                      case measure => simp [intOf]; omega
                    · have C51 := convN (c := u1) HLc.out HS.out
                      go_simp
                      refine hK _ _ ?_
                      clear hK K C51
                      try simp only [Act.put, List.getElem_toArray, List.getElem_cons_succ, List.getElem_cons_zero, List.setIfInBounds_toArray, List.set_cons_zero, List.set_cons_succ]
                      have C48 := convN (c := m) (HZL.out.drew.kept HBc.out) HS.out
                      refine wpAny_ready (rs := [14]) (by kernel_rfl) (by simp) ?_
                      refine AllReady.cons rfl (fun K hK => ?_) AllReady.nil
                      go_simp
                      refine hK _ _ ?_
                      clear hK K C48
                      refine wpAny_lex_kin 18 (by kernel_rfl) rfl (by kernel_rfl) ?_
                      try simp only [List.drop_succ_cons, List.drop_zero]
                      try simp only [Act.put, List.getElem_toArray, List.getElem_cons_succ, List.getElem_cons_zero, List.setIfInBounds_toArray, List.set_cons_zero, List.set_cons_succ]
                      repeat (go_big_quiet_step (fail))
                      refine wpQuiet_nil ?_
                      intro _ hw'
                      obtain ⟨kx, hw''⟩ := hw'
                      subst hw''
                      go_wp2
                      go_roundw
                      case rel => exact ⟨k + 1, ws', kn', bits', by omega, by omega, by go_num, HG4.out.kept kx.below, HB4.out.trans (kx.below.mono HB4.out.size)⟩
                      case measure => simp [intOf]; omega
        · rcases (show k = n ∨ (k < n ∧ k = 200) by omega) with rfl | ⟨g1, rfl⟩
          all_goals
            clear hlt
            go_wp2_with fail
            refine (one_any _).mono ?_
            rintro e w9 ⟨rfl, hb9⟩
            go_wp2
            go_ret
            exact ⟨rfl, HBR.out.trans (hb9.mono HBR.out.size)⟩
theorem walk (N : Int) (A : Option Addr) (n c : Nat) (rows : List (List Value)) (w : World) (n0 : -9223372036854775808 ≤ N) (n1 : N ≤ 9223372036854775807) (hg : Grid w A n 3 rows) (hr : ∀ r ∈ rows, Reads w shP r) (hnc : n ≤ c) (hcm : c ≤ maxLen) :
    Calls Try.prog 8 #[.int .i64 N, .slice A n c] w fun e w' => e = .returned (.bool true) ∧ Below w.heap.size w w' := by
  unfold maxLen at hcm
  rcases (show N ≤ 0 ∨ 8 ≤ N ∨ (0 < N ∧ N < 8) by omega) with h | h | h
  · exact walk_in N A n c 0 rows w (.inl ⟨h, rfl⟩) n0 n1 hg hr (by omega)
  · exact walk_in N A n c 8 rows w (.inr (.inl ⟨h, rfl⟩)) n0 n1 hg hr (by omega)
  · exact walk_in N A n c N.toNat rows w (.inr (.inr ⟨h.1, h.2, by omega⟩)) n0 n1 hg hr (by omega)

set_option maxRecDepth 100000 in
theorem lifted (os : Os) (started : os.Started) (H : Type) (enc : TypeId × Value → H) :
    ReturnsInHanded {} Try.checked os 8 .any (Rows.wordGathersSpec.pre6 enc Try.prog Try.f8 Rows.wordGathersRow.domain false) (Rows.wordGathersSpec.post enc Try.prog Try.f8 false true false false) := by
  refine returnsInHanded_of_change (C := Try.checked) own started (by kernel_rfl) Try.func8
    (ChangeSpec.witness6 (enc := enc) (C := Try.checked) false ⟨#[], #[.int .i64 0, .slice none 0 0], []⟩ 8 (by kernel_rfl) (by kernel_rfl) (by kernel_rfl) (by kernel_rfl)) ?_
  intro W base args ds gs before hval0 hW hcnd _
  have hval : ∀ (j : Nat) t v, Try.f8.params[j]? = some t → args[j]? = some v → Value.okWide Try.prog W .any base t v := hval0
  have hW' := hW
  obtain ⟨p, q, hA0, hV, rfl, hfz, hnd⟩ := hW
  have hA : DataW.TrodAll enc Try.prog W 0 (fun _ => true) true Try.f8.params.toList args.toList ds p := hA0
  rw [Try.params8] at hA hval
  obtain ⟨v0, vs0, d0, ds0, p0, q0, hargs, rfl, rfl, h0, r0⟩ := trodAll_cons hA
  obtain ⟨v1, vs1, d1, ds1, p1, q1, rfl, rfl, rfl, h1, r1⟩ := trodAll_cons r0
  obtain ⟨rfl, rfl, rfl⟩ := trodAll_nil r1
  obtain rfl : args = #[v0, v1] := by cases args; simp_all
  obtain ⟨rfl, rfl⟩ := trodVars_none hV
  obtain ⟨words, rfl, rfl, rfl, wf0⟩ := open_int Try.underlying3 (hval 0 3 v0 rfl rfl) h0
  have bd0 := bounds_i64 wf0
  have k1 := h1
  have lt1 : ∀ x ∈ p1, x.block < W.heap.size := by obtain ⟨m, hm⟩ := k1; exact DataW.trod_lt m _ _ _ hm
  obtain ⟨lA, ln, lc, rfl⟩ := okWide_slice Try.underlying48 (hval 1 48 v1 rfl rfl)
  obtain ⟨l, g1, rd1, cb1, cc1⟩ := reads_slice (e := .fld (.int .i64) (.fld .bool (.fld .bool .nil))) 30 (by kernel_rfl) k1
  clear hA0 hval0
  refine (walk words lA ln lc l W bd0.1 bd0.2 g1 rd1 cb1 cc1).mono fun e W' ⟨he, bel⟩ => ?_
  subst he
  exact ⟨_, rfl, _, _, _, [], _, [], hW', trodAll_mk1 (shut_bool Try.underlying4 _), (trodAll_cons_mk (shut_int Try.underlying3 wf0) (trodAll_cons_mk (Below.trod laidOut (by kernel_rfl) (of_decide_eq_true (by kernel_rfl)) k1 bel lt1) trodAll_mk0)), rfl, bel.frame _, fun h => by cases h⟩

theorem over : Rows.wordGathersRow.holds Try.pinned (OpenSpec.ofChange Rows.wordGathersSpec) :=
  OpenClaim.holds_of_wide 8 Try.f8 rfl rfl rfl rfl rfl rfl rfl ⟨rfl, rfl, rfl, rfl, rfl⟩ rfl rfl rfl rfl rfl (by kernel_rfl) Try.func8 (by kernel_rfl)
    (of_decide_eq_true (by kernel_rfl)) (by unfold Func.isWrapper; first | (rw [if_pos (by decide +kernel)]; kernel_rfl) | (rw [if_neg (by decide +kernel)]; exact ⟨rfl, rfl⟩))
    (fun os started H enc _ => lifted os started H enc)

/-- The statement. -/
theorem proved : Rows.WordGathersSaid := over
end Go.Proofs.Ytbhdenjahojbbaa.lawWordGathers
