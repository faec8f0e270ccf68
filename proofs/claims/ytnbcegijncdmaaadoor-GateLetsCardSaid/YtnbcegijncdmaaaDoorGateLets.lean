/- A module whose sides are at most 4 ticks apart lets both drive at all their times: for every slot that is made, every words and every role; no condition but that the table of the lines is as the program's text lays it, which the card ties. -/
import Derived.RegionTactic
import Derived.IntWalk
import Derived.Deep.DeepCutAuto
import Derived.Deep.CutBlock
import Derived.Test.YtnbcegijncdmaaaDoorGatC
import Derived.Test.YtnbcegijncdmaaaDoorOne18
import Derived.Test.YtnbcegijncdmaaaDoorSh
import Derived.Test.YtnbcegijncdmaaaDoorShAr
import Derived.Test.YtnbcegijncdmaaaDoorCut
import Derived.Test.YtnbcegijncdmaaaDoorPush
import Derived.Test.YtnbcegijncdmaaaDoorTie
import Derived.Test.YtnbcegijncdmaaaDoorCards
import Derived.Test.YtnbcegijncdmaaaDoorLaid
import Derived.LaidMore
import Derived.SevenTiedAt
import Derived.Stop.Joined
import Derived.Test.YtnbcegijncdmaaaDoorRows
import Derived.WalkKit
import Derived.ProofKit
import Derived.OpenShut
import Derived.ShutString
import Derived.ChangeOld
import Derived.Below
namespace Go.Proofs.YtnbcegijncdmaaaDoor.lawGateLets
open Go.ChangeShapes Go.WideShapes Go.ChangeAt Go.RowKit Base
open Go.ChangeMaps (open_string shut_string)
set_option linter.unusedVariables false
set_option linter.unusedSimpArgs false
theorem own : ownKnob Tryd.prog.godebug = none := by kernel_rfl
theorem laidOut : laidOutB Tryd.prog = true := by kernel_rfl
open Ly18 Ly14 Ly7 Ly3 Ly2

def NewO (s : Nat) (T : TypeId) (cs : Array Value) : Sp := fun v w => ∃ g, v = .pointer (some ⟨g, 0, none⟩) ∧ s ≤ g ∧ Obj1 w g T cs
theorem NewO.stable (s : Nat) (T : TypeId) (cs : Array Value) : Stable (NewO s T cs) := fun v a b ⟨g, e, h, hl⟩ hb => ⟨g, e, h, hl.kept hb⟩
theorem NewO.new {s : Nat} {T : TypeId} {cs : Array Value} {x : World} (h : s ≤ x.heap.size) : NewO s T cs (.pointer (some ⟨x.heap.size, 0, none⟩)) (x.alloc (.cells cs T)) := ⟨_, rfl, h, Obj1.new _ _ _⟩
theorem NewO.ex {s : Nat} {cs : Array Value} (w : World) (T : TypeId) (h : s ≤ w.heap.size) : ∃ v, ∃ x : Kin w, NewO s T cs v x.world := ⟨_, ⟨_, (Below.refl _ _).alloc (Nat.le_refl _) _⟩, NewO.new h⟩
theorem NewO.at {s g : Nat} {T : TypeId} {cs : Array Value} {w : World} (h : NewO s T cs (.pointer (some ⟨g, 0, none⟩)) w) : Obj1 w g T cs := by
  obtain ⟨g', e, h1, h2⟩ := h
  simp at e
  subst e
  exact h2
theorem set_list {w : World} {g : Nat} {T : TypeId} {cs : Array Value} (h : Obj1 w g T cs) : Below g w w := Below.refl _ _
theorem slice_el : (Tryd.prog.elem 23) = 5 := by kernel_rfl
theorem size_u8 (W : World) : (sizeOf (Tryd.prog.elem 23)).run Tryd.prog W = .ok 1 W := by kernel_rfl
theorem under_sl : Tryd.prog.underlying 23 = some (.slice (Tryd.prog.elem 23)) := by kernel_rfl
theorem lst_take {w : World} {A : Option Addr} {n m : Nat} {xs : List Value} (h : Lst w A n xs) (hm : m ≤ n) : Lst w A m (xs.take m) :=
  ⟨by rw [List.length_take, h.1]; omega, fun h0 => by
    obtain ⟨b, off, e, hlt, hc⟩ := h.2 (by omega)
    exact ⟨b, off, e, hlt, fun k hk => by rw [hc k (by omega), List.getElem?_take_of_lt hk]⟩⟩
/-- What both sides drive, and what comes of it. -/
def bothF (sd pu : Bool) (bs : List Bool) (W M c a' b' x y : Int) : Nat := drF sd pu false bs (atN 0 W M c x) (atT 0 W M c x) a' b' x ||| drF sd pu true bs (atN 0 W M c y) (atT 0 W M c y) a' b' y
theorem both_alone {sd pu : Bool} {bs : List Bool} {W M c a b a' b' x y : Int} (hs : Snd 0 W M c a b) (h0 : x - 4 ≤ y) (h1 : y ≤ x + 4) :
    (if opF sd pu a b a' b' y then drF sd pu false bs (atN 0 W M c x) (atT 0 W M c x) a' b' x else 0) ||| (if opF sd pu a b a' b' x then drF sd pu true bs (atN 0 W M c y) (atT 0 W M c y) a' b' y else 0) = bothF sd pu bs W M c a' b' x y := by
  unfold bothF
  congr 1
  · by_cases h : drF sd pu false bs (atN 0 W M c x) (atT 0 W M c x) a' b' x = 0
    · rw [h]; split <;> rfl
    · rw [if_pos (dr_let hs h h0 h1)]
  · by_cases h : drF sd pu true bs (atN 0 W M c y) (atT 0 W M c y) a' b' y = 0
    · rw [h]; split <;> rfl
    · rw [if_pos (dr_let hs h (by omega) (by omega))]
theorem both_lt {sd pu : Bool} {bs : List Bool} {W M c a' b' x y : Int} : bothF sd pu bs W M c a' b' x y < 16 := Nat.or_lt_two_pow (n := 4) drF_lt drF_lt
set_option maxRecDepth 100000 in
set_option maxHeartbeats 8000000 in
theorem go (s0 s1 a0 a1 a2 a3 : Int) (A : Option Addr) (n c : Nat) (vs : List Nat) (w : World) (hl : Lst w A n (vs.map fun (x : Nat) => Value.int .u8 x)) (hx : ∀ x ∈ vs, x < 256) (hnc : n ≤ c) (hcm : c ≤ 9223372036854775807) (hU : Up w) :
    Calls Tryd.prog 9 #[.agg #[.int .i64 s0, .int .i64 s1], .slice A n c, .agg #[.int .i64 a0, .int .i64 a1, .int .i64 a2, .int .i64 a3]] w fun e w' => e = .returned (.bool true) ∧ Below w.heap.size w w' := by
  obtain ⟨y, y0, y1', hy'⟩ := and_mask s0 7 (by omega)
  have hy : Go.bits BinOp.and IntKind.i64 s0 7 = y := hy'
  have y1 : y ≤ 7 := y1'
  obtain ⟨z, z0, z1', hz'⟩ := and_mask s1 3 (by omega)
  have hz : Go.bits BinOp.and IntKind.i64 s1 3 = z := hz'
  have z1 : z ≤ 3 := z1'
  obtain ⟨m1, hm1⟩ : ∃ m, Go.bits BinOp.and IntKind.i64 a0 1 = m := ⟨_, rfl⟩
  obtain ⟨m2, hm2⟩ : ∃ m, Go.bits BinOp.and IntKind.i64 a0 2 = m := ⟨_, rfl⟩
  obtain ⟨sd, hsd⟩ : ∃ sd, (m1 == 1) = sd := ⟨_, rfl⟩
  obtain ⟨pu, hpu⟩ : ∃ pu, (m2 == 2) = pu := ⟨_, rfl⟩
  obtain ⟨r1, r10, r11', hr1'⟩ := and_mask a1 255 (by omega)
  have hr1 : Go.bits BinOp.and IntKind.i64 a1 255 = r1 := hr1'
  have r11 : r1 ≤ 255 := r11'
  obtain ⟨r2, r20, r21', hr2'⟩ := and_mask a2 255 (by omega)
  have hr2 : Go.bits BinOp.and IntKind.i64 a2 255 = r2 := hr2'
  have r21 : r2 ≤ 255 := r21'
  clear y1' hy' z1' hz' r11' hr1' r21' hr2'
  obtain ⟨cd, hcd⟩ : ∃ cd, r1 % (1 + z) = cd := ⟨_, rfl⟩
  have hcd0 : 0 ≤ cd := by rw [← hcd]; exact Int.emod_nonneg _ (by omega)
  have hcd1 : cd < 1 + z := by rw [← hcd]; exact Int.emod_lt_of_pos _ (by omega)
  have htm : r1.tmod (1 + z) = cd := by rw [Int.tmod_eq_emod_of_nonneg r10]; exact hcd
  have hwcd : IntKind.i64.wrap cd = cd := IntWalk.i64_in _ (by omega)
  obtain ⟨ap, hap⟩ : ∃ ap, r2 % 9 = ap := ⟨_, rfl⟩
  have hap0 : 0 ≤ ap ∧ ap ≤ 8 := by omega
  have htm2 : r2.tmod 9 = ap := by rw [Int.tmod_eq_emod_of_nonneg r20]; exact hap
  have hwap : IntKind.i64.wrap ap = ap := IntWalk.i64_in _ (by omega)
  have hwap2 : IntKind.i64.wrap (ap - 4) = ap - 4 := IntWalk.i64_in _ (by omega)
  have hz10 : (1 + z == 0) = false := by simp; omega
  have hzm1 : (1 + z == -1) = false := by simp; omega
  have hz1n : ¬ (1 + z = 0) := by omega
  have HMD := Lib.hid (fun W => made_any s0 s1 y z W hy hz y0 y1 z0 z1)
  have HL := Lib.hid hl
  have HX := Lib.hid hx
  have HU := Lib.hid hU
  clear hcd hap hl hx hU hy hz
  obtain ⟨WB, HWB⟩ : ∃ W, W = (w.alloc (.cells #[.int .i64 s0, .int .i64 s1] 22)).alloc (.cells #[.int .i64 a0, .int .i64 a1, .int .i64 a2, .int .i64 a3] 57) := ⟨_, rfl⟩
  have HOB : Hid (Obj1 WB (w.heap.size + 1) 57 #[.int .i64 a0, .int .i64 a1, .int .i64 a2, .int .i64 a3]) := Lib.hid (by
    have := Obj1.new (w.alloc (.cells #[.int .i64 s0, .int .i64 s1] 22)) 57 #[.int .i64 a0, .int .i64 a1, .int .i64 a2, .int .i64 a3]
    rw [alloc_size] at this
    rw [HWB]
    exact this)
  have HBB : Hid (Below w.heap.size w WB) := Lib.hid (by rw [HWB]; exact bel2 w _ _)
  go_enter Tryd.func9, Tryd.ntmps9
  go_upto_region 1 with (fail)
  have HOA : Obj1 WB w.heap.size 22 #[.int .i64 s0, .int .i64 s1] := by rw [HWB]; exact (Obj1.new w 22 _).alloc _
  have k0 : WB.cell? ⟨w.heap.size, 0, none⟩ = some (.int .i64 s0) := HOA.cell 0
  have k1 : WB.cell? ⟨w.heap.size, 1, none⟩ = some (.int .i64 s1) := HOA.cell 1
  rw [← HWB]
  clear HWB HOA
  go_wp2_with fail
  refine (HMD.out _).mono ?_
  rintro e w1 ⟨rfl, hb1⟩
  clear k0 k1
  have HB1 := Lib.hid (HBB.out.trans (hb1.mono HBB.out.size))
  have HOB1 := Lib.hid (HOB.out.kept hb1)
  clear hb1 HOB HBB HMD
  go_upto_region 2 with (fail)
  obtain ⟨g7, HG7⟩ : ∃ g, Hid (w1.heap.size = g) := ⟨_, Lib.hid rfl⟩
  have HO7 : Hid (Obj1 (w1.alloc (.cells #[.int .i64 0, .int .i64 0, .int .i64 (20 * (10 + 8 * (1 + y) + 4 * z)), .int .i64 (1 + y), .int .i64 0, .int .i64 (1 + z), .int .i64 (-1), .bool false] 25)) g7 25 #[.int .i64 0, .int .i64 0, .int .i64 (20 * (10 + 8 * (1 + y) + 4 * z)), .int .i64 (1 + y), .int .i64 0, .int .i64 (1 + z), .int .i64 (-1), .bool false]) := Lib.hid (by rw [← HG7.out]; exact Obj1.new _ _ _)
  have HOB2 := Lib.hid (HOB1.out.alloc (.cells #[.int .i64 0, .int .i64 0, .int .i64 (20 * (10 + 8 * (1 + y) + 4 * z)), .int .i64 (1 + y), .int .i64 0, .int .i64 (1 + z), .int .i64 (-1), .bool false] 25))
  have HB2 := Lib.hid (HB1.out.alloc HB1.out.size (.cells #[.int .i64 0, .int .i64 0, .int .i64 (20 * (10 + 8 * (1 + y) + 4 * z)), .int .i64 (1 + y), .int .i64 0, .int .i64 (1 + z), .int .i64 (-1), .bool false] 25))
  rw [HG7.out]
  generalize w1.alloc (.cells #[.int .i64 0, .int .i64 0, .int .i64 (20 * (10 + 8 * (1 + y) + 4 * z)), .int .i64 (1 + y), .int .i64 0, .int .i64 (1 + z), .int .i64 (-1), .bool false] 25) = W2 at HO7 HOB2 HB2 ⊢
  clear HB1 HOB1
  have c3 := HO7.out.cell 3
  simp at c3
  go_upto_if 22 with (fail)
  clear c3
  have c3 := HO7.out.cell 3
  simp at c3
  go_cut [1] from 18 to 26 (fun v wx => (∃ m us, v = .slice A m c ∧ m ≤ 8 ∧ Hid (Lst w A m (List.map (fun (x : Nat) => Value.int .u8 x) us)) ∧ Hid (∀ x ∈ us, x < 256)) ∧ wx = W2)
  case first =>
    by_cases hn : (n : Int) ≤ 1 + y
    · go_wp2
      go_meet
      exact ⟨⟨n, vs, rfl, by omega, HL, HX⟩, rfl⟩
    · obtain ⟨h, hh⟩ : ∃ h : Nat, 1 + y = (h : Int) := ⟨(1 + y).toNat, by omega⟩
      have hsl := cut_h under_sl size_u8 A n c h (by omega)
      rw [hh] at c3
      have hn' : (h : Int) < (n : Int) := by omega
      clear hn
      go_wp2
      go_meet
      exact ⟨⟨h, vs.take h, rfl, by omega, Lib.hid (by rw [List.map_take]; exact lst_take HL.out (by omega)), Lib.hid (fun x hx => HX.out x (List.mem_of_mem_take hx))⟩, rfl⟩
  case rest =>
    obtain ⟨⟨m, us, rfl, hm8, HLU, HXU⟩, rfl⟩ := hcut
    clear HL HX c3
    have d0 : Below wc.heap.size wc wc.drew := bel_drew wc
    obtain ⟨S0, S1, S2, S3, S4, S5, S6, S7⟩ := o8 0 0 (20 * (10 + 8 * (1 + y) + 4 * z)) (1 + y) 0 (1 + z) (-1) false (HO7.out.kept d0)
    have B0 : ∀ x : Kin wc.drew, x.world.cell? ⟨w.heap.size + 1, 0, none⟩ = some (.int .i64 a0) := fun x => (HOB2.out.kept (d0.trans x.below)).cell 0
    have B1 : ∀ x : Kin wc.drew, x.world.cell? ⟨w.heap.size + 1, 1, none⟩ = some (.int .i64 a1) := fun x => (HOB2.out.kept (d0.trans x.below)).cell 1
    go_wp2_with fail
    refine wp_region_specL 17 [.d (.pointer (some ⟨w.heap.size + 1, 0, none⟩)), .d (.int .i64 a0), .d (.int .i64 m1), .d (.bool sd), .d (.pointer (some ⟨w.heap.size + 1, 1, none⟩)), .d (.int .i64 a1), .d (.int .i64 r1), .d (.pointer (some ⟨g7, 5, none⟩)), .d (.int .i64 (1 + z)), .d (.int .i64 cd), .d (.slice A m c), .d (.pointer (some ⟨w.heap.size + 1, 0, none⟩)), .d (.int .i64 a0), .d (.int .i64 m2), .d (.bool pu), .d (.agg #[.bool sd, .int .i64 cd, .slice A m c, .bool pu]), .g (NewO wc.heap.size 72 #[.bool false, .int .i64 0, .slice none 0 0, .bool false])] (by kernel_rfl) (by kernel_rfl) ?_
    refine spec_d rfl (fun x _ => gives_run (by go_simp)) ?_
    try simp only [Act.put, List.getElem_toArray, List.getElem_cons_succ, List.getElem_cons_zero, List.setIfInBounds_toArray, List.set_cons_zero, List.set_cons_succ]
    refine spec_d rfl (fun x _ => gives_run (by go_simp)) ?_
    try simp only [Act.put, List.getElem_toArray, List.getElem_cons_succ, List.getElem_cons_zero, List.setIfInBounds_toArray, List.set_cons_zero, List.set_cons_succ]
    refine spec_d rfl (fun x _ => gives_run (by go_simp)) ?_
    try simp only [Act.put, List.getElem_toArray, List.getElem_cons_succ, List.getElem_cons_zero, List.setIfInBounds_toArray, List.set_cons_zero, List.set_cons_succ]
    refine spec_d rfl (fun x _ => gives_run (by go_simp)) ?_
    try simp only [Act.put, List.getElem_toArray, List.getElem_cons_succ, List.getElem_cons_zero, List.setIfInBounds_toArray, List.set_cons_zero, List.set_cons_succ]
    refine spec_d rfl (fun x _ => gives_run (by go_simp)) ?_
    try simp only [Act.put, List.getElem_toArray, List.getElem_cons_succ, List.getElem_cons_zero, List.setIfInBounds_toArray, List.set_cons_zero, List.set_cons_succ]
    refine spec_d rfl (fun x _ => gives_run (by go_simp)) ?_
    try simp only [Act.put, List.getElem_toArray, List.getElem_cons_succ, List.getElem_cons_zero, List.setIfInBounds_toArray, List.set_cons_zero, List.set_cons_succ]
    refine spec_d rfl (fun x _ => gives_run (by go_simp)) ?_
    try simp only [Act.put, List.getElem_toArray, List.getElem_cons_succ, List.getElem_cons_zero, List.setIfInBounds_toArray, List.set_cons_zero, List.set_cons_succ]
    refine spec_d rfl (fun x _ => gives_run (by go_simp)) ?_
    try simp only [Act.put, List.getElem_toArray, List.getElem_cons_succ, List.getElem_cons_zero, List.setIfInBounds_toArray, List.set_cons_zero, List.set_cons_succ]
    refine spec_d rfl (fun x _ => gives_run (by go_simp)) ?_
    try simp only [Act.put, List.getElem_toArray, List.getElem_cons_succ, List.getElem_cons_zero, List.setIfInBounds_toArray, List.set_cons_zero, List.set_cons_succ]
    refine spec_d rfl (fun x _ => gives_run (by go_simp)) ?_
    try simp only [Act.put, List.getElem_toArray, List.getElem_cons_succ, List.getElem_cons_zero, List.setIfInBounds_toArray, List.set_cons_zero, List.set_cons_succ]
    refine spec_d rfl (fun x _ => gives_run (by go_simp)) ?_
    try simp only [Act.put, List.getElem_toArray, List.getElem_cons_succ, List.getElem_cons_zero, List.setIfInBounds_toArray, List.set_cons_zero, List.set_cons_succ]
    refine spec_d rfl (fun x _ => gives_run (by go_simp)) ?_
    try simp only [Act.put, List.getElem_toArray, List.getElem_cons_succ, List.getElem_cons_zero, List.setIfInBounds_toArray, List.set_cons_zero, List.set_cons_succ]
    refine spec_d rfl (fun x _ => gives_run (by go_simp)) ?_
    try simp only [Act.put, List.getElem_toArray, List.getElem_cons_succ, List.getElem_cons_zero, List.setIfInBounds_toArray, List.set_cons_zero, List.set_cons_succ]
    refine spec_d rfl (fun x _ => gives_run (by go_simp)) ?_
    try simp only [Act.put, List.getElem_toArray, List.getElem_cons_succ, List.getElem_cons_zero, List.setIfInBounds_toArray, List.set_cons_zero, List.set_cons_succ]
    refine spec_d rfl (fun x _ => gives_run (by go_simp)) ?_
    try simp only [Act.put, List.getElem_toArray, List.getElem_cons_succ, List.getElem_cons_zero, List.setIfInBounds_toArray, List.set_cons_zero, List.set_cons_succ]
    refine spec_d rfl (fun x _ => gives_run (by go_simp)) ?_
    try simp only [Act.put, List.getElem_toArray, List.getElem_cons_succ, List.getElem_cons_zero, List.setIfInBounds_toArray, List.set_cons_zero, List.set_cons_succ]
    refine spec_g (NewO.stable _ _ _) (NewO.ex _ _ (Nat.le_refl _)) rfl (fun x _ => gives_ok (by go_simp) (bel_new _ _) (NewO.new x.below.size)) ?_
    rintro vg ⟨xg, g8, rfl, hg8, _⟩
    try simp only [Act.put, List.getElem_toArray, List.getElem_cons_succ, List.getElem_cons_zero, List.setIfInBounds_toArray, List.set_cons_zero, List.set_cons_succ]
    refine spec_end (fun x hx => ?_)
    have hgo := NewO.at (hx _ (List.mem_singleton.2 rfl))
    have HGO := Lib.hid hgo
    have q0 := hgo.cell 0
    have q1 := hgo.cell 1
    have q2 := hgo.cell 2
    have q3 := hgo.cell 3
    have f0 := hgo.free 0
    have f1 := hgo.free 1
    have f2 := hgo.free 2
    have f3 := hgo.free 3
    clear hx hgo
    change wpAny _ _ _ _ (0 + 1) _ _ _
    refine wpAny_ready (rs := [17]) (by kernel_rfl) (by simp) ?_
    refine AllReady.cons rfl (fun KK hK => ?_) AllReady.nil
    go_simp
    refine hK _ _ ?_
    clear hK KK
    try simp only [Act.put, List.getElem_toArray, List.getElem_cons_succ, List.getElem_cons_zero, List.setIfInBounds_toArray, List.set_cons_zero, List.set_cons_succ]
    refine wpAny_done (by kernel_rfl) ?_ _
    have hbx := d0.trans x.below
    have HBX := Lib.hid (HB2.out.trans (hbx.mono HB2.out.size))
    have h78 : g7 < g8 := Nat.lt_of_lt_of_le HO7.out.lt hg8
    have hw8 : w.heap.size ≤ g8 := Nat.le_trans HB2.out.size hg8
    have HO7' := Lib.hid (HO7.out.kept hbx)
    have HOB3 := Lib.hid (HOB2.out.kept hbx)
    have hB8 : w.heap.size + 1 < g8 := Nat.lt_of_lt_of_le HOB2.out.lt hg8
    clear S0 S1 S2 S3 S4 S5 S6 S7 B0 B1 q0 q1 q2 q3 f0 f1 f2 f3 HO7 HOB2
    have HGR : Hid (Obj1 ((((x.world.setCell ⟨g8, 0, none⟩ (.bool sd)).setCell ⟨g8, 1, none⟩ (.int .i64 cd)).setCell ⟨g8, 2, none⟩ (.slice A m c)).setCell ⟨g8, 3, none⟩ (.bool pu)) g8 72 #[.bool sd, .int .i64 cd, .slice A m c, .bool pu]) := Lib.hid ((((HGO.out.set 0 _).set 1 _).set 2 _).set 3 _)
    have HO74 : Hid (Obj1 ((((x.world.setCell ⟨g8, 0, none⟩ (.bool sd)).setCell ⟨g8, 1, none⟩ (.int .i64 cd)).setCell ⟨g8, 2, none⟩ (.slice A m c)).setCell ⟨g8, 3, none⟩ (.bool pu)) g7 25 #[.int .i64 0, .int .i64 0, .int .i64 (20 * (10 + 8 * (1 + y) + 4 * z)), .int .i64 (1 + y), .int .i64 0, .int .i64 (1 + z), .int .i64 (-1), .bool false]) := Lib.hid ((((HO7'.out.far ⟨g8, 0, none⟩ (by simp; omega) _).far ⟨g8, 1, none⟩ (by simp; omega) _).far ⟨g8, 2, none⟩ (by simp; omega) _).far ⟨g8, 3, none⟩ (by simp; omega) _)
    have HOB4 : Hid (Obj1 ((((x.world.setCell ⟨g8, 0, none⟩ (.bool sd)).setCell ⟨g8, 1, none⟩ (.int .i64 cd)).setCell ⟨g8, 2, none⟩ (.slice A m c)).setCell ⟨g8, 3, none⟩ (.bool pu)) (w.heap.size + 1) 57 #[.int .i64 a0, .int .i64 a1, .int .i64 a2, .int .i64 a3]) := Lib.hid ((((HOB3.out.far ⟨g8, 0, none⟩ (by simp; omega) _).far ⟨g8, 1, none⟩ (by simp; omega) _).far ⟨g8, 2, none⟩ (by simp; omega) _).far ⟨g8, 3, none⟩ (by simp; omega) _)
    have HB4 : Hid (Below w.heap.size w ((((x.world.setCell ⟨g8, 0, none⟩ (.bool sd)).setCell ⟨g8, 1, none⟩ (.int .i64 cd)).setCell ⟨g8, 2, none⟩ (.slice A m c)).setCell ⟨g8, 3, none⟩ (.bool pu))) := Lib.hid ((((HBX.out.setCell (by simpa using hw8) _).setCell (by simpa using hw8) _).setCell (by simpa using hw8) _).setCell (by simpa using hw8) _)
    generalize (((x.world.setCell ⟨g8, 0, none⟩ (.bool sd)).setCell ⟨g8, 1, none⟩ (.int .i64 cd)).setCell ⟨g8, 2, none⟩ (.slice A m c)).setCell ⟨g8, 3, none⟩ (.bool pu) = W4 at HGR HO74 HOB4 HB4 ⊢
    clear hbx HBX HO7' HOB3 HGO HB2 hm1 hm2 hsd hpu hr1 htm d0
    clear x
    obtain ⟨a, b, hs⟩ := snd_ex 0 (1 + y) (1 + z) cd
    obtain ⟨a', b', hp⟩ := pls_ex 0 (20 * (10 + 8 * (1 + y) + 4 * z))
    have HDR := Lib.hid (fun (x : Kin W4) (yy : Bool) (p : Int) (p0 : -1000000 ≤ p) (p1 : p ≤ 1000000) => drives_any 0 0 (20 * (10 + 8 * (1 + y) + 4 * z)) (1 + y) 0 (1 + z) (-1) false sd pu A m c cd p a' b' yy us _ x.world (by omega) (by omega) (by omega) (by omega) (by omega) (by omega) (by omega) (by omega) (HLU.out.kept (Kin.up x HB4.out)) HXU.out (by omega) (HU.out.kept (Kin.up x HB4.out)) hp rfl)
    have HAL := Lib.hid (fun (x : Kin W4) (p q : Int) (p0 : -1000000 ≤ p) (p1 : p ≤ 1000000) (h0 : p - 4 ≤ q) (h1 : q ≤ p + 4) => alone_any 0 0 (20 * (10 + 8 * (1 + y) + 4 * z)) (1 + y) 0 (1 + z) (-1) false sd pu A m c cd p q a b a' b' us _ x.world (by omega) (by omega) (by omega) (by omega) (by omega) (by omega) (by omega) (by omega) (by omega) (by omega) (by omega) (HLU.out.kept (Kin.up x HB4.out)) HXU.out (by omega) (HU.out.kept (Kin.up x HB4.out)) hs hp (both_alone hs h0 h1))
    have c2 := HOB4.out.cell 2
    simp at c2
    clear hs hp HOB4 HLU HXU
    obtain ⟨L, hLd⟩ : ∃ L, 20 * (10 + 8 * (1 + y) + 4 * z) = L := ⟨_, rfl⟩
    have hL0 : 1 ≤ L := by omega
    have hL1 : L ≤ 100000 := by omega
    have hwL : IntKind.i64.wrap (L - 4) = L - 4 := IntWalk.i64_in _ (by omega)
    rw [hLd] at HO74 HDR HAL ⊢
    clear hLd
    go_wp2_with fail
    clear c2 htm2 hwap
    go_loopw [10] (fun i wx => ∃ (j : Nat) (x : Kin W4), 4 ≤ j ∧ (j : Int) ≤ L + 4 ∧ i = .int .i64 j ∧ wx = x.world) (fun i _ => (L + 4).toNat - (intOf i).toNat)
    case atStart => exact ⟨4, Kin.me _, by omega, by omega, rfl, rfl⟩
    case round =>
      obtain ⟨j, x0, hj4, hjL, rfl, rfl⟩ := hrel
      have c2 := (HO74.out.kept x0.below).cell 2
      simp at c2
      by_cases hlt : (j : Int) < L - 4
      · have hwq : IntKind.i64.wrap ((j : Int) + (ap - 4)) = (j : Int) + (ap - 4) := IntWalk.i64_in _ (by omega)
        have d0 : Below x0.world.heap.size x0.world x0.world.drew := bel_drew _
        obtain ⟨q, hq⟩ : ∃ q, (j : Int) + (ap - 4) = q := ⟨_, rfl⟩
        rw [hq] at hwq
        go_upto_region 10 with (fail)
        obtain ⟨S0, S1, S2, S3, S4, S5, S6, S7⟩ := o8 0 0 L (1 + y) 0 (1 + z) (-1) false ((HO74.out.kept x0.below).kept d0)
        obtain ⟨R0, R1, R2, R3⟩ := o4 sd pu A m c cd ((HGR.out.kept x0.below).kept d0)
        have HKN : Hid (∀ x : Kin x0.world.drew, ∃ x5 : Kin W4, x.world = x5.world) := Lib.hid (fun x => Kin.ex (x0.below.trans ((d0.trans x.below).mono x0.below.size)))
        have HXX := Lib.hid (fun x5 : Kin W4 => HDR.out x5 false j (by omega) (by omega))
        have HYY := Lib.hid (fun x5 : Kin W4 => HDR.out x5 true q (by omega) (by omega))
        have HAA := Lib.hid (fun x5 : Kin W4 => HAL.out x5 j q (by omega) (by omega) (by omega) (by omega))
        have hX16 : drF sd pu false (bitsOf us) (atN 0 (1 + y) (1 + z) cd j) (atT 0 (1 + y) (1 + z) cd j) a' b' j < 16 := drF_lt
        have hY16 : drF sd pu true (bitsOf us) (atN 0 (1 + y) (1 + z) cd q) (atT 0 (1 + y) (1 + z) cd q) a' b' q < 16 := drF_lt
        have HRB : Hid (drF sd pu false (bitsOf us) (atN 0 (1 + y) (1 + z) cd j) (atT 0 (1 + y) (1 + z) cd j) a' b' j ||| drF sd pu true (bitsOf us) (atN 0 (1 + y) (1 + z) cd q) (atT 0 (1 + y) (1 + z) cd q) a' b' q = bothF sd pu (bitsOf us) (1 + y) (1 + z) cd a' b' j q) := Lib.hid rfl
        have hR16 : bothF sd pu (bitsOf us) (1 + y) (1 + z) cd a' b' j q < 16 := both_lt
        generalize bothF sd pu (bitsOf us) (1 + y) (1 + z) cd a' b' j q = R at HRB hR16 HAA
        generalize drF sd pu false (bitsOf us) (atN 0 (1 + y) (1 + z) cd j) (atT 0 (1 + y) (1 + z) cd j) a' b' j = X at HRB hX16 HXX
        generalize drF sd pu true (bitsOf us) (atN 0 (1 + y) (1 + z) cd q) (atT 0 (1 + y) (1 + z) cd q) a' b' q = Y at HRB hY16 HYY
        have HCX : Hid (∀ x : Kin x0.world.drew, Calls Tryd.prog 49 #[.agg #[.int .i64 0, .int .i64 0, .int .i64 L, .int .i64 (1 + y), .int .i64 0, .int .i64 (1 + z), .int .i64 (-1), .bool false], .agg #[.bool sd, .int .i64 cd, .slice A m c, .bool pu], .bool false, .int .i64 j] x.world fun e w' => e = .returned (.int .u8 (X : Int)) ∧ Below x.world.heap.size x.world w') := Lib.hid (fun x => by obtain ⟨x5, e⟩ := HKN.out x; rw [e]; exact HXX.out x5)
        have HCY : Hid (∀ x : Kin x0.world.drew, Calls Tryd.prog 49 #[.agg #[.int .i64 0, .int .i64 0, .int .i64 L, .int .i64 (1 + y), .int .i64 0, .int .i64 (1 + z), .int .i64 (-1), .bool false], .agg #[.bool sd, .int .i64 cd, .slice A m c, .bool pu], .bool true, .int .i64 q] x.world fun e w' => e = .returned (.int .u8 (Y : Int)) ∧ Below x.world.heap.size x.world w') := Lib.hid (fun x => by obtain ⟨x5, e⟩ := HKN.out x; rw [e]; exact HYY.out x5)
        have HOR : Hid (∀ (W : World) (g : Nat), Lst W (some ⟨g, 0, none⟩) 2 [.int .u8 (X : Int), .int .u8 (Y : Int)] → Calls Tryd.prog 15 #[.slice (some ⟨g, 0, none⟩) 2 2] W fun e w' => e = .returned (.int .u8 (R : Int)) ∧ W = w') := Lib.hid (fun W g hg => by
          have h := or_any (some ⟨g, 0, none⟩) 2 2 [X, Y] W hg (by intro x hx; simp at hx; omega) (by omega)
          rw [show orL [X, Y] = X ||| Y by simp [orL], orr HRB.out hR16] at h
          exact h)
        clear hq HXX HYY hwq
        go_wp2_with fail
        refine wp_region_specL 11 [.d (.agg #[.int .i64 0, .int .i64 0, .int .i64 L, .int .i64 (1 + y), .int .i64 0, .int .i64 (1 + z), .int .i64 (-1), .bool false]), .d (.agg #[.bool sd, .int .i64 cd, .slice A m c, .bool pu]), .d (.int .i64 j), .d (.int .u8 X), .d (.agg #[.int .i64 0, .int .i64 0, .int .i64 L, .int .i64 (1 + y), .int .i64 0, .int .i64 (1 + z), .int .i64 (-1), .bool false]), .d (.agg #[.bool sd, .int .i64 cd, .slice A m c, .bool pu]), .d (.int .i64 q), .d (.int .u8 Y), .g (NewL x0.world.heap.size 2 [.int .u8 (X : Int), .int .u8 (Y : Int)]), .d (.int .u8 R), .d (.int .u8 R)] (by kernel_rfl) (by kernel_rfl) ?_
        refine spec_d rfl (fun x _ => gives_run (by go_simp)) ?_
        try simp only [Act.put, List.getElem_toArray, List.getElem_cons_succ, List.getElem_cons_zero, List.setIfInBounds_toArray, List.set_cons_zero, List.set_cons_succ]
        refine spec_d rfl (fun x _ => gives_run (by go_simp)) ?_
        try simp only [Act.put, List.getElem_toArray, List.getElem_cons_succ, List.getElem_cons_zero, List.setIfInBounds_toArray, List.set_cons_zero, List.set_cons_succ]
        refine spec_d rfl (fun x _ => gives_run (by go_simp)) ?_
        try simp only [Act.put, List.getElem_toArray, List.getElem_cons_succ, List.getElem_cons_zero, List.setIfInBounds_toArray, List.set_cons_zero, List.set_cons_succ]
        refine spec_d rfl (fun x _ => gives_det (by go_simp) (HCX.out x)) ?_
        try simp only [Act.put, List.getElem_toArray, List.getElem_cons_succ, List.getElem_cons_zero, List.setIfInBounds_toArray, List.set_cons_zero, List.set_cons_succ]
        refine spec_d rfl (fun x _ => gives_run (by go_simp)) ?_
        try simp only [Act.put, List.getElem_toArray, List.getElem_cons_succ, List.getElem_cons_zero, List.setIfInBounds_toArray, List.set_cons_zero, List.set_cons_succ]
        refine spec_d rfl (fun x _ => gives_run (by go_simp)) ?_
        try simp only [Act.put, List.getElem_toArray, List.getElem_cons_succ, List.getElem_cons_zero, List.setIfInBounds_toArray, List.set_cons_zero, List.set_cons_succ]
        refine spec_d rfl (fun x _ => gives_run (by go_simp)) ?_
        try simp only [Act.put, List.getElem_toArray, List.getElem_cons_succ, List.getElem_cons_zero, List.setIfInBounds_toArray, List.set_cons_zero, List.set_cons_succ]
        refine spec_d rfl (fun x _ => gives_det (by go_simp) (HCY.out x)) ?_
        try simp only [Act.put, List.getElem_toArray, List.getElem_cons_succ, List.getElem_cons_zero, List.setIfInBounds_toArray, List.set_cons_zero, List.set_cons_succ]
        refine spec_g (NewL.stable _ _ _) (NewL.ex _ 29 (Nat.le_refl _) rfl) rfl (fun x _ => gives_ok (by go_simp) (bel_new _ _) (NewL.new (T := 29) x.below.size rfl)) ?_
        rintro vg ⟨xg, gg, rfl, _, _⟩
        try simp only [Act.put, List.getElem_toArray, List.getElem_cons_succ, List.getElem_cons_zero, List.setIfInBounds_toArray, List.set_cons_zero, List.set_cons_succ]
        refine spec_d rfl (fun x hx => gives_det_same (by go_simp) (HOR.out x.world gg (NewL.at (hx _ (List.mem_singleton.2 rfl) (by kernel_rfl))).2)) ?_
        try simp only [Act.put, List.getElem_toArray, List.getElem_cons_succ, List.getElem_cons_zero, List.setIfInBounds_toArray, List.set_cons_zero, List.set_cons_succ]
        refine spec_d rfl (fun x _ => gives_run (by go_simp)) ?_
        try simp only [Act.put, List.getElem_toArray, List.getElem_cons_succ, List.getElem_cons_zero, List.setIfInBounds_toArray, List.set_cons_zero, List.set_cons_succ]
        refine spec_end (fun x hx => ?_)
        clear hx
        refine wpAny_done (by kernel_rfl) ?_ _
        clear S0 S1 S2 S3 S4 S5 S6 S7 R0 R1 R2 R3 HCX HCY HOR
        obtain ⟨x5, hx5⟩ := HKN.out x
        rw [hx5]
        clear hx5 HKN d0
        clear x
        obtain ⟨S0, S1, S2, S3, S4, S5, S6, S7⟩ := o8 0 0 L (1 + y) 0 (1 + z) (-1) false HO74.out
        obtain ⟨R0, R1, R2, R3⟩ := o4 sd pu A m c cd HGR.out
        go_wp2_with fail
        refine (Calls.kin _ (HAA.out x5)).mono ?_
        rintro e w' ⟨rfl, x6, rfl⟩
        go_wp2
        go_roundw
        case rel => exact ⟨j + 1, x6, by omega, by omega, by go_num, rfl⟩
        case measure => simp [intOf]; omega
      · have hlt' : L - 4 ≤ (j : Int) := by omega
        go_wp2_with fail
        refine (One18.one_any _ (HU.out.kept (Kin.up x0 HB4.out))).mono ?_
        rintro e w2 ⟨rfl, hb2⟩
        have HE := Lib.hid ((Kin.up x0 HB4.out).trans (hb2.mono (Kin.up x0 HB4.out).size))
        clear hb2
        go_wp2
        go_ret
        exact ⟨rfl, HE.out⟩
theorem gUp : Tryd.prog.globalNamed "busbar/wires.upright" = some 0 := by kernel_rfl
theorem tUp : (Tryd.prog.globals[0]?).map (·.type) = some 38 := by kernel_rfl
theorem of_laid {W : World} (h : laidMetH Tryd.prog Rows.gateLetsRow.laid W) : Up W := by
  rw [MakeChecks.laidMetH_plain _ _ _ (by kernel_rfl)] at h
  obtain ⟨ps, ⟨g0, t0, cs0, f0, p0, q0, hg0, ht0, hv0, hd0, _, _⟩, _, _⟩ := h
  obtain rfl := Option.some.inj (gUp.symm.trans hg0)
  obtain rfl := Option.some.inj (tUp.symm.trans ht0)
  have e := exact_cells (sh := .ar 4 .bool) 10 rfl (by kernel_rfl) hd0 rfl
  obtain ⟨l0⟩ := cs0
  simp at e
  subst e
  exact ⟨by simpa using World.var?_cell hg0 hv0 0, by simpa using World.var?_cell hg0 hv0 1, by simpa using World.var?_cell hg0 hv0 2, by simpa using World.var?_cell hg0 hv0 3⟩
abbrev sh2 : Sh := .ar 2 (.int .i64)
abbrev sh4 : Sh := .ar 4 (.int .i64)
theorem walk (s : Array Value) (wA : Option Addr) (wn wc : Nat) (ws : List Int) (a : Array Value) (w : World) (hU : Up w) (rs : Reads w sh2 s.toList) (hl : Lst w wA wn (ws.map (Value.int .u8))) (hx : ∀ x ∈ ws, 0 ≤ x ∧ x ≤ 255) (hnc : wn ≤ wc) (hcm : wc ≤ maxLen) (ra : Reads w sh4 a.toList) :
    Calls Tryd.prog 9 #[.agg s, .slice wA wn wc, .agg a] w fun e w' => e = .returned (.bool true) ∧ Below w.heap.size w w' := by
  unfold maxLen at hcm
  obtain ⟨s0, s1, rfl, _, _⟩ := ar_two rs
  obtain ⟨a0, a1, a2, a3, rfl, _, _, _, _⟩ := ar_four ra
  obtain ⟨us, eu, hu⟩ := nats_in ws hx
  rw [eu] at hl
  exact go s0 s1 a0 a1 a2 a3 wA wn wc us w hl hu hnc (by omega) hU

theorem door_met (os : Os) (args : Array Value) : laidMetH Tryd.prog Rows.gateLetsRow.laid ((World.doorLaid Tryd.prog 400 os).forCall (fun _ _ => 0) ⟨#[], args, []⟩).memory :=
  laidMetH_of_parts3 (fuel := 8) (laidMet_of_run' 8 (by kernel_rfl) (by kernel_rfl)) (by kernel_rfl) (by kernel_rfl)
set_option maxRecDepth 100000 in
theorem lifted (os : Os) (started : os.Started) (H : Type) (enc : TypeId × Value → H) :
    ReturnsInHanded {} Tryd.checked os 9 .any (fun w args => (Rows.gateLetsSpec.pre enc Tryd.prog Tryd.f9 [] false w args ∧ laidMetH Tryd.prog Rows.gateLetsRow.laid w) ∧ sizedMet enc Tryd.prog Tryd.f9 (OpenSpec.ofChange Rows.gateLetsSpec) false w args)
      (Rows.gateLetsSpec.post enc Tryd.prog Tryd.f9 false true false false) := by
  refine returnsInHanded_of_change_and (C := Tryd.checked) (X := fun w _ => laidMetH Tryd.prog Rows.gateLetsRow.laid w) (fun _ _ _ hh h => h.of_heap hh) own started (by kernel_rfl) Tryd.func9
    (ChangeSpec.witness_shaped (enc := enc) (C := Tryd.checked) (os := os) (X := fun w _ => laidMetH Tryd.prog Rows.gateLetsRow.laid w) false (World.doorLaid Tryd.prog 400 os) #[.agg #[.int .i64 0, .int .i64 0], .slice none 0 0, .agg #[.int .i64 0, .int .i64 0, .int .i64 0, .int .i64 0]] 8 rfl (World.shaped_of_RefB (by kernel_rfl) (by kernel_rfl)) (by kernel_rfl) (by kernel_rfl) (by kernel_rfl) (door_met os _)) ?_
  intro W base args ds gs before hval0 hW _ _ hL _
  have hval : ∀ (j : Nat) t v, Tryd.f9.params[j]? = some t → args[j]? = some v → Value.okWide Tryd.prog W .any base t v := hval0
  have hW' := hW
  obtain ⟨p, q, hA0, hV, rfl, hfz, hnd⟩ := hW
  have hA : DataW.TrodAll enc Tryd.prog W 0 (fun _ => true) true Tryd.f9.params.toList args.toList ds p := hA0
  rw [Tryd.params9] at hA hval
  obtain ⟨v0, vs0, d0, ds0, p0, q0, hargs, rfl, rfl, h0, r0⟩ := trodAll_cons hA
  obtain ⟨v1, vs1, d1, ds1, p1, q1, rfl, rfl, rfl, h1, r1⟩ := trodAll_cons r0
  obtain ⟨v2, vs2, d2, ds2, p2, q2, rfl, rfl, rfl, h2, r2⟩ := trodAll_cons r1
  obtain ⟨rfl, rfl, rfl⟩ := trodAll_nil r2
  obtain rfl : args = #[v0, v1, v2] := by cases args; simp_all
  obtain ⟨rfl, rfl⟩ := trodVars_none hV
  have k0 := h0
  have lt0 : ∀ x ∈ p0, x.block < W.heap.size := by obtain ⟨m, hm⟩ := k0; exact DataW.trod_lt m _ _ _ hm
  obtain ⟨s, rfl⟩ := okWide_agg (by first | exact .inl ⟨_, Tryd.underlying22⟩ | exact .inr ⟨_, _, Tryd.underlying22⟩) (hval 0 22 v0 rfl rfl)
  have rd0 := reads_cells (sh := sh2) 30 (by kernel_rfl) k0
  have k1 := h1
  have lt1 : ∀ x ∈ p1, x.block < W.heap.size := by obtain ⟨m, hm⟩ := k1; exact DataW.trod_lt m _ _ _ hm
  obtain ⟨wA, wn, wc, rfl⟩ := okWide_slice Tryd.underlying23 (hval 1 23 v1 rfl rfl)
  obtain ⟨w, l1, b1, cb1, cc1⟩ := lst_ints Tryd.underlying23 Tryd.underlying5 (by kernel_rfl) k1
  have k2 := h2
  have lt2 : ∀ x ∈ p2, x.block < W.heap.size := by obtain ⟨m, hm⟩ := k2; exact DataW.trod_lt m _ _ _ hm
  obtain ⟨a, rfl⟩ := okWide_agg (by first | exact .inl ⟨_, Tryd.underlying57⟩ | exact .inr ⟨_, _, Tryd.underlying57⟩) (hval 2 57 v2 rfl rfl)
  have rd2 := reads_cells (sh := sh4) 30 (by kernel_rfl) k2
  clear hA0 hval0
  refine (walk s wA wn wc w a W (of_laid hL) rd0 l1 (ints_u8 b1) cb1 cc1 rd2).mono fun e W' ⟨he, bel⟩ => ?_
  subst he
  exact ⟨_, rfl, _, _, _, [], _, [], hW', trodAll_mk1 (shut_bool Tryd.underlying4 _), (trodAll_cons_mk (Below.trod laidOut (by kernel_rfl) (of_decide_eq_true (by kernel_rfl)) k0 bel lt0) (trodAll_cons_mk (Below.trod laidOut (by kernel_rfl) (of_decide_eq_true (by kernel_rfl)) k1 bel lt1) (trodAll_cons_mk (Below.trod laidOut (by kernel_rfl) (of_decide_eq_true (by kernel_rfl)) k2 bel lt2) trodAll_mk0))), rfl, bel.frame _, fun h => by cases h⟩

theorem over : Rows.gateLetsRow.holds Tryd.pinned (OpenSpec.ofChange Rows.gateLetsSpec) :=
  OpenClaim.holds_of_wide 9 Tryd.f9 rfl rfl rfl rfl rfl rfl rfl ⟨rfl, rfl, rfl, rfl, rfl⟩ rfl rfl rfl rfl rfl (by kernel_rfl) Tryd.func9 (by kernel_rfl)
    (of_decide_eq_true (by kernel_rfl)) (by unfold Func.isWrapper; first | (rw [if_pos (by decide +kernel)]; kernel_rfl) | (rw [if_neg (by decide +kernel)]; exact ⟨rfl, rfl⟩))
    (fun os started H enc _ => lifted os started H enc)

/-- The card: what the row lists is tied to the program's text. -/
theorem proved : Rows.GateLetsCardSaid :=
  Claim7.holds_tied_plain_at .later [] [.data] true Rows.gateLetsCard.stood.harness false
    over (fun _ h => by cases h) (by kernel_rfl) (fun _ h => by cases h) gateLets_row_tie rfl ⟨rfl, rfl⟩ (by kernel_rfl) rfl
    (fun f fn hf hfn => by
      obtain rfl : f = 9 := Option.some.inj ((show Tryd.prog.funcNamed "busbar/busbarlaw18.GateLets" = some 9 by kernel_rfl).symm.trans hf) |>.symm
      obtain rfl : fn = Tryd.f9 := (Option.some.inj (Tryd.func9.symm.trans hfn)).symm
      exact ⟨by kernel_rfl, fun j t ht => by
        rw [Tryd.params9] at ht
        have hm : t ∈ [22, 23, 57] := by simpa using Array.mem_of_getElem? ht
        have hall : ([22, 23, 57].all fun u => !Tryd.prog.wantsStandIn u) = true := by kernel_rfl
        exact (show Tryd.prog.wantsStandIn t = false by simpa using List.all_eq_true.1 hall t hm)⟩)
    (by kernel_rfl)
end Go.Proofs.YtnbcegijncdmaaaDoor.lawGateLets
