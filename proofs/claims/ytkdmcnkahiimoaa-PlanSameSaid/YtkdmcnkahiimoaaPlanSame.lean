/- A schedule is the same as itself in new memory; two are the same just if no part is another one: for every two schedules and every place; no condition. -/
import Derived.RegionTactic
import Derived.IntWalk
import Derived.Deep.DeepCutAuto
import Derived.Deep.CutBlock
import Derived.Test.YtkdmcnkahiimoaaPlnQ
import Derived.Test.YtkdmcnkahiimoaaPlnO
import Derived.Test.YtkdmcnkahiimoaaRows
import Derived.WalkKit
import Derived.ProofKit
import Derived.OpenShut
import Derived.ShutString
import Derived.ChangeOld
import Derived.Below
namespace Go.Proofs.Ytkdmcnkahiimoaa.lawPlanSame
open Go.ChangeShapes Go.WideShapes Go.ChangeAt Go.RowKit Base
open Go.ChangeMaps (open_string shut_string)
set_option linter.unusedVariables false
set_option linter.unusedSimpArgs false
theorem own : ownKnob Try.prog.godebug = none := by kernel_rfl
theorem laidOut : laidOutB Try.prog = true := by kernel_rfl
open Ly7

theorem same_x (md : Int) (A0 : Option Addr) (n0 c0 : Nat) (A1 : Option Addr) (n1 c1 : Nat) (ws0 ws1 : List Wd) (me : Int) (B0 : Option Addr) (m0 e0 : Nat) (B1 : Option Addr) (m1 e1 : Nat) (zs0 zs1 : List Wd) (w : World)
    (a0 : WinsAt w A0 n0 ws0) (a1 : WinsAt w A1 n1 ws1) (f0 : FewW n0 ws0) (f1 : FewW n1 ws1) (b0 : WinsAt w B0 m0 zs0) (b1 : WinsAt w B1 m1 zs1) (g0 : FewW m0 zs0) (g1 : FewW m1 zs1) (r : Bool) (hr : (md == me && wsEq ws0 zs0 && wsEq ws1 zs1) = r) :
    Calls Try.prog 20 #[.agg #[.int .i64 md, .slice A0 n0 c0, .slice A1 n1 c1], .agg #[.int .i64 me, .slice B0 m0 e0, .slice B1 m1 e1]] w fun e w' => e = .returned (.bool r) ∧ Below w.heap.size w w' := by
  subst hr
  exact same_any ⟨md, A0, n0, c0, A1, n1, c1, ws0, ws1⟩ ⟨me, B0, m0, e0, B1, m1, e1, zs0, zs1⟩ w ⟨a0, a1, f0, f1⟩ ⟨b0, b1, g0, g1⟩
theorem few_of {n : Nat} {us us' : List Wd} {p o R : Nat} {v : Int} (h : FewW n us) (hl : us'.length = us.length) (hw : ∀ i x x', us[i]? = some x → us'[i]? = some x' → Wr p o R v i x x') : FewW n us' :=
  ⟨h.1, fun x' hx' => by
    obtain ⟨i, hi, rfl⟩ := List.getElem_of_mem hx'
    have hi2 : i < us.length := by omega
    have := hw i _ _ (List.getElem?_eq_getElem hi2) (List.getElem?_eq_getElem hi)
    have hf := h.2 _ (List.getElem_mem hi2)
    rw [this.1, this.2.1]
    exact hf⟩
theorem few_cp {n : Nat} {ws us : List Wd} {lo hi : Nat} {w : World} (h : FewW n ws) (hc : Cps ws us lo hi w) : FewW n us :=
  ⟨h.1, fun x hx => by
    obtain ⟨i, hi, rfl⟩ := List.getElem_of_mem hx
    obtain ⟨z, a, b, h1, e, _⟩ := hc.2 i _ (List.getElem?_eq_getElem hi)
    rw [e]
    exact h.2 z (List.mem_of_getElem? h1)⟩
theorem at_of {us us' : List Wd} {k : Nat} {x : Wd} (hx : us[k]? = some x) (hl : us'.length = us.length) : ∃ x', us'[k]? = some x' :=
  ⟨_, List.getElem?_eq_getElem (by have := (List.getElem?_eq_some_iff.1 hx).1; omega)⟩
theorem ne_ad {ws us : List Wd} {k : Nat} {x z : Wd} (hz : ws[k]? = some z) (hx : us[k]? = some x) (h : x.ad ≠ z.ad) : wsEq ws us = false := by
  cases he : wsEq ws us with
  | false => rfl
  | true =>
    have := wsEq_at he hz hx
    unfold wEq at this
    simp only [Bool.and_eq_true, beq_iff_eq] at this
    exact absurd this.1.1.2.symm h
theorem ne_ts {ws us : List Wd} {k : Nat} {x z : Wd} (hz : ws[k]? = some z) (hx : us[k]? = some x) (h : x.ts ≠ z.ts) : wsEq ws us = false := by
  cases he : wsEq ws us with
  | false => rfl
  | true =>
    have := wsEq_at he hz hx
    unfold wEq at this
    simp only [Bool.and_eq_true, beq_iff_eq] at this
    exact absurd this.2.symm h
set_option maxRecDepth 100000 in
set_option maxHeartbeats 8000000 in
theorem go0 (md : Int) (A0 : Option Addr) (n0 c0 : Nat) (A1 : Option Addr) (n1 c1 : Nat) (ws0 ws1 : List Wd) (me : Int) (B0 : Option Addr) (m0 e0 : Nat) (B1 : Option Addr) (m1 e1 : Nat) (zs0 zs1 : List Wd) (pl : Int) (w : World)
    (hand : Go.bits BinOp.and IntKind.i64 pl 1 = 0) (a0 : WinsAt w A0 n0 ws0) (a1 : WinsAt w A1 n1 ws1) (b0 : WinsAt w B0 m0 zs0) (b1 : WinsAt w B1 m1 zs1) (h0 : n0 ≤ 9223372036854775807) (h1 : n1 ≤ 9223372036854775807) (h2 : m0 ≤ 9223372036854775807) (h3 : m1 ≤ 9223372036854775807) :
    Calls Try.prog 5 #[.agg #[.int .i64 md, .slice A0 n0 c0, .slice A1 n1 c1], .agg #[.int .i64 me, .slice B0 m0 e0, .slice B1 m1 e1], .int .i64 pl] w fun e w' => e = .returned (.bool true) ∧ Below w.heap.size w w' := by
  obtain ⟨gs, HGS⟩ : ∃ g, Hid (w.heap.size = g) := ⟨_, Lib.hid rfl⟩
  obtain ⟨W1, HW1⟩ : ∃ W1, W1 = (w.alloc (.cells #[.int .i64 md, .slice A0 n0 c0, .slice A1 n1 c1] 25)).alloc (.cells #[.int .i64 me, .slice B0 m0 e0, .slice B1 m1 e1] 25) := ⟨_, rfl⟩
  have HOS : Hid (Obj1 W1 gs 25 #[.int .i64 md, .slice A0 n0 c0, .slice A1 n1 c1]) := Lib.hid (by rw [HW1, ← HGS.out]; exact (Obj1.new w 25 _).alloc _)
  have HOO : Hid (Obj1 W1 (gs + 1) 25 #[.int .i64 me, .slice B0 m0 e0, .slice B1 m1 e1]) := Lib.hid (by
    have := Obj1.new (w.alloc (.cells #[.int .i64 md, .slice A0 n0 c0, .slice A1 n1 c1] 25)) 25 #[.int .i64 me, .slice B0 m0 e0, .slice B1 m1 e1]
    rw [show (w.alloc (.cells #[.int .i64 md, .slice A0 n0 c0, .slice A1 n1 c1] 25)).heap.size = w.heap.size + 1 by simp, HGS.out] at this
    rw [HW1]
    exact this)
  have HB1 : Hid (Below w.heap.size w W1) := Lib.hid (by rw [HW1]; exact ((Below.refl _ _).alloc (Nat.le_refl _) _).alloc (by simp) _)
  have HA : Hid (∀ W, Below w.heap.size w W → WinsAt W A0 n0 ws0 ∧ WinsAt W A1 n1 ws1 ∧ WinsAt W B0 m0 zs0 ∧ WinsAt W B1 m1 zs1) := Lib.hid (fun W hW => ⟨a0.kept hW, a1.kept hW, b0.kept hW, b1.kept hW⟩)
  have HFS := Lib.hid (few_any md A0 n0 c0 A1 n1 c1 ws0 ws1 W1 (a0.kept HB1.out) (a1.kept HB1.out) h0 h1)
  have HFO := Lib.hid (fun W (hW : Below W1.heap.size W1 W) => few_any me B0 m0 e0 B1 m1 e1 zs0 zs1 W (HA.out W (HB1.out.trans (hW.mono HB1.out.size))).2.2.1 (HA.out W (HB1.out.trans (hW.mono HB1.out.size))).2.2.2 h2 h3)
  clear a0 a1 b0 b1 h0 h1 h2 h3
  have s0 := HOS.out.cell 0
  have s1 := HOS.out.cell 1
  have s2 := HOS.out.cell 2
  simp at s0 s1 s2
  go_enter Try.func5, Try.ntmps5
  go_upto_region 1 with (fail)
  rw [← HW1, HGS.out]
  clear HW1
  go_wp2_with fail
  refine HFS.out.mono ?_
  rintro e w2 ⟨r, rfl, hr, hb2⟩
  have HB2 := Lib.hid hb2
  clear hb2 s0 s1 s2 HFS
  rcases hr with rfl | ⟨rfl, hf0, hf1⟩
  · go_wp2
    go_ret
    exact ⟨rfl, HB1.out.trans (HB2.out.mono HB1.out.size)⟩
  have HF0 := Lib.hid hf0
  have HF1 := Lib.hid hf1
  have HOO2 := Lib.hid (HOO.out.kept HB2.out)
  have s0 := HOO2.out.cell 0
  have s1 := HOO2.out.cell 1
  have s2 := HOO2.out.cell 2
  simp at s0 s1 s2
  clear hf0 hf1
  go_wp2_with fail
  refine (HFO.out _ HB2.out).mono ?_
  rintro e w3 ⟨r, rfl, hr, hb3⟩
  have HB3 := Lib.hid (HB2.out.trans (hb3.mono HB2.out.size))
  clear hb3 s0 s1 s2 HFO HOO2
  rcases hr with rfl | ⟨rfl, hf0, hf1⟩
  · go_wp2
    go_ret
    exact ⟨rfl, HB1.out.trans (HB3.out.mono HB1.out.size)⟩
  have HE0 := Lib.hid hf0
  have HE1 := Lib.hid hf1
  have HBC3 := Lib.hid (HB1.out.trans (HB3.out.mono HB1.out.size))
  have HOS3 := Lib.hid (HOS.out.kept HB3.out)
  have s0 := HOS3.out.cell 0
  have s1 := HOS3.out.cell 1
  have s2 := HOS3.out.cell 2
  simp at s0 s1 s2
  have HCL := Lib.hid (clone_any md A0 n0 c0 A1 n1 c1 ws0 ws1 w3 (HA.out w3 HBC3.out).1 (HA.out w3 HBC3.out).2.1 HF0.out HF1.out)
  clear hf0 hf1
  go_wp2_with fail
  refine HCL.out.mono ?_
  rintro e w4 ⟨R0, us0, R1, us1, rfl, HCC, HB4⟩
  obtain ⟨hr0, hr01, hl0, hl1, hrow0, hcp0, hrow1, hcp1⟩ := HCC.out
  obtain ⟨cs0, hor0, _⟩ := hrow0
  obtain ⟨cs1, hor1, _⟩ := hrow1
  have HR0 := Lib.hid hor0
  have HR1 := Lib.hid hor1
  have HWU : Hid (WinsAt w4 (some ⟨R0, 0, none⟩) n0 us0 ∧ WinsAt w4 (some ⟨R1, 0, none⟩) n1 us1 ∧ FewW n0 us0 ∧ FewW n1 us1) := Lib.hid ⟨HCC.out.2.2.2.2.1.wins hl0 hcp0.oks, HCC.out.2.2.2.2.2.2.1.wins hl1 hcp1.oks, few_cp HF0.out hcp0, few_cp HF1.out hcp1⟩
  have hln : ws0.length = us0.length ∧ ws1.length = us1.length := by
    have h := HA.out w (Below.refl _ _)
    rw [hl0, hl1]
    exact ⟨h.1.len, h.2.1.len⟩
  have HEQ : Hid (wsEq ws0 us0 = true ∧ wsEq ws1 us1 = true) := Lib.hid ⟨cps_eq hcp0 hln.1, cps_eq hcp1 hln.2⟩
  have HCV := Lib.hid hcp0
  have HGAP : Hid (gs + 1 < R0 ∧ R0 < R1 ∧ R1 < w4.heap.size) := Lib.hid ⟨by
    have h := HOO.out.lt
    have := HB3.out.size
    omega, hr01, hor1.lt⟩
  have hgap := HGAP.out
  clear s0 s1 s2 hr0 hcp0 hcp1 hor0 hor1 HCC HCL hln
  go_upto_region 4 with (fail)
  obtain ⟨gc, HGC⟩ : ∃ g, Hid (w4.heap.size = g) := ⟨_, Lib.hid rfl⟩
  obtain ⟨W5, HW5⟩ : ∃ W5, W5 = w4.alloc (.cells #[.int .i64 md, .slice (some ⟨R0, 0, none⟩) n0 n0, .slice (some ⟨R1, 0, none⟩) n1 n1] 25) := ⟨_, rfl⟩
  have HOC : Hid (Obj1 W5 gc 25 #[.int .i64 md, .slice (some ⟨R0, 0, none⟩) n0 n0, .slice (some ⟨R1, 0, none⟩) n1 n1]) := Lib.hid (by rw [HW5, ← HGC.out]; exact Obj1.new _ _ _)
  have HB45 : Hid (Below w4.heap.size w4 W5) := Lib.hid (by rw [HW5]; exact bel1 _ _)
  rw [← HW5, HGC.out]
  clear HW5
  rw [HGC.out] at hgap
  have HB5 := Lib.hid ((HB3.out.trans (HB4.out.mono HB3.out.size)).trans (HB45.out.mono (Nat.le_trans HB3.out.size HB4.out.size)))
  have HBC5 := Lib.hid (HB1.out.trans (HB5.out.mono HB1.out.size))
  have HS5 := Lib.hid (HOS.out.kept HB5.out)
  have HO5 := Lib.hid (HOO.out.kept HB5.out)
  have HWU5 : Hid (WinsAt W5 (some ⟨R0, 0, none⟩) n0 us0 ∧ WinsAt W5 (some ⟨R1, 0, none⟩) n1 us1) := Lib.hid ⟨HWU.out.1.kept HB45.out, HWU.out.2.1.kept HB45.out⟩
  have HR05 := Lib.hid (HR0.out.kept HB45.out)
  have HR15 := Lib.hid (HR1.out.kept HB45.out)
  have HCV5 := Lib.hid (HCV.out.kept HB45.out)
  obtain ⟨E, HE⟩ : ∃ E, Hid ((md == me && wsEq ws0 zs0 && wsEq ws1 zs1) = E) := ⟨_, Lib.hid rfl⟩
  have HE' : Hid ((me == md && wsEq zs0 ws0 && wsEq zs1 ws1) = E) := Lib.hid (by rw [← HE.out, beq_sym me md, wsEq_sym zs0, wsEq_sym zs1])
  clear HR0 HR1 HCV HB4 HB45 HOS HOO HOS3 HBC3
  have hdr : Below W5.heap.size W5 W5.drew := bel_drew W5
  have HZ : Hid (∀ z : Kin W5.drew, Obj1 z.world gs 25 #[.int .i64 md, .slice A0 n0 c0, .slice A1 n1 c1] ∧ Obj1 z.world (gs + 1) 25 #[.int .i64 me, .slice B0 m0 e0, .slice B1 m1 e1] ∧ Obj1 z.world gc 25 #[.int .i64 md, .slice (some ⟨R0, 0, none⟩) n0 n0, .slice (some ⟨R1, 0, none⟩) n1 n1]) := Lib.hid (fun z => ⟨HS5.out.kept (hdr.trans z.below), HO5.out.kept (hdr.trans z.below), HOC.out.kept (hdr.trans z.below)⟩)
  have Zgs0 : ∀ z : Kin W5.drew, z.world.cell? ⟨gs, 0, none⟩ = some (.int .i64 md) := fun z => (HZ.out z).1.cell 0
  have Zgs1 : ∀ z : Kin W5.drew, z.world.cell? ⟨gs, 1, none⟩ = some (.slice A0 n0 c0) := fun z => (HZ.out z).1.cell 1
  have Zgs2 : ∀ z : Kin W5.drew, z.world.cell? ⟨gs, 2, none⟩ = some (.slice A1 n1 c1) := fun z => (HZ.out z).1.cell 2
  have Zgo0 : ∀ z : Kin W5.drew, z.world.cell? ⟨gs + 1, 0, none⟩ = some (.int .i64 me) := fun z => (HZ.out z).2.1.cell 0
  have Zgo1 : ∀ z : Kin W5.drew, z.world.cell? ⟨gs + 1, 1, none⟩ = some (.slice B0 m0 e0) := fun z => (HZ.out z).2.1.cell 1
  have Zgo2 : ∀ z : Kin W5.drew, z.world.cell? ⟨gs + 1, 2, none⟩ = some (.slice B1 m1 e1) := fun z => (HZ.out z).2.1.cell 2
  have Zgc0 : ∀ z : Kin W5.drew, z.world.cell? ⟨gc, 0, none⟩ = some (.int .i64 md) := fun z => (HZ.out z).2.2.cell 0
  have Zgc1 : ∀ z : Kin W5.drew, z.world.cell? ⟨gc, 1, none⟩ = some (.slice (some ⟨R0, 0, none⟩) n0 n0) := fun z => (HZ.out z).2.2.cell 1
  have Zgc2 : ∀ z : Kin W5.drew, z.world.cell? ⟨gc, 2, none⟩ = some (.slice (some ⟨R1, 0, none⟩) n1 n1) := fun z => (HZ.out z).2.2.cell 2
  have HQ1 : Hid (∀ z : Kin W5.drew, Calls Try.prog 20 #[(.agg #[.int .i64 md, .slice A0 n0 c0, .slice A1 n1 c1]), (.agg #[.int .i64 md, .slice (some ⟨R0, 0, none⟩) n0 n0, .slice (some ⟨R1, 0, none⟩) n1 n1])] z.world fun e w' => e = .returned (.bool true) ∧ Below z.world.heap.size z.world w') := Lib.hid (fun z => by
    have ha := HA.out z.world (HBC5.out.trans ((hdr.trans z.below).mono HBC5.out.size))
    exact same_x md A0 n0 c0 A1 n1 c1 ws0 ws1 md _ n0 n0 _ n1 n1 us0 us1 z.world ha.1 ha.2.1 HF0.out HF1.out (HWU5.out.1.kept (hdr.trans z.below)) (HWU5.out.2.kept (hdr.trans z.below)) HWU.out.2.2.1 HWU.out.2.2.2 true (by rw [HEQ.out.1, HEQ.out.2]; simp))
  have HQ2 : Hid (∀ z : Kin W5.drew, Calls Try.prog 20 #[(.agg #[.int .i64 md, .slice (some ⟨R0, 0, none⟩) n0 n0, .slice (some ⟨R1, 0, none⟩) n1 n1]), (.agg #[.int .i64 md, .slice A0 n0 c0, .slice A1 n1 c1])] z.world fun e w' => e = .returned (.bool true) ∧ Below z.world.heap.size z.world w') := Lib.hid (fun z => by
    have ha := HA.out z.world (HBC5.out.trans ((hdr.trans z.below).mono HBC5.out.size))
    exact same_x md _ n0 n0 _ n1 n1 us0 us1 md A0 n0 c0 A1 n1 c1 ws0 ws1 z.world (HWU5.out.1.kept (hdr.trans z.below)) (HWU5.out.2.kept (hdr.trans z.below)) HWU.out.2.2.1 HWU.out.2.2.2 ha.1 ha.2.1 HF0.out HF1.out true (by rw [wsEq_sym us0, wsEq_sym us1, HEQ.out.1, HEQ.out.2]; simp))
  have HQ3 : Hid (∀ z : Kin W5.drew, Calls Try.prog 20 #[(.agg #[.int .i64 md, .slice A0 n0 c0, .slice A1 n1 c1]), (.agg #[.int .i64 me, .slice B0 m0 e0, .slice B1 m1 e1])] z.world fun e w' => e = .returned (.bool E) ∧ Below z.world.heap.size z.world w') := Lib.hid (fun z => by
    have ha := HA.out z.world (HBC5.out.trans ((hdr.trans z.below).mono HBC5.out.size))
    exact same_x md A0 n0 c0 A1 n1 c1 ws0 ws1 me B0 m0 e0 B1 m1 e1 zs0 zs1 z.world ha.1 ha.2.1 HF0.out HF1.out ha.2.2.1 ha.2.2.2 HE0.out HE1.out E HE.out)
  have HQ4 : Hid (∀ z : Kin W5.drew, Calls Try.prog 20 #[(.agg #[.int .i64 me, .slice B0 m0 e0, .slice B1 m1 e1]), (.agg #[.int .i64 md, .slice A0 n0 c0, .slice A1 n1 c1])] z.world fun e w' => e = .returned (.bool E) ∧ Below z.world.heap.size z.world w') := Lib.hid (fun z => by
    have ha := HA.out z.world (HBC5.out.trans ((hdr.trans z.below).mono HBC5.out.size))
    exact same_x me B0 m0 e0 B1 m1 e1 zs0 zs1 md A0 n0 c0 A1 n1 c1 ws0 ws1 z.world ha.2.2.1 ha.2.2.2 HE0.out HE1.out ha.1 ha.2.1 HF0.out HF1.out E HE'.out)
  refine wp_region_specL 19 [.d (.agg #[.int .i64 md, .slice A0 n0 c0, .slice A1 n1 c1]), .d (.agg #[.int .i64 md, .slice (some ⟨R0, 0, none⟩) n0 n0, .slice (some ⟨R1, 0, none⟩) n1 n1]), .d (.bool true), .d (.bool false), .d (.bool false), .d (.agg #[.int .i64 md, .slice (some ⟨R0, 0, none⟩) n0 n0, .slice (some ⟨R1, 0, none⟩) n1 n1]), .d (.agg #[.int .i64 md, .slice A0 n0 c0, .slice A1 n1 c1]), .d (.bool true), .d (.bool false), .d (.bool false), .d (.bool false), .d (.agg #[.int .i64 md, .slice A0 n0 c0, .slice A1 n1 c1]), .d (.agg #[.int .i64 me, .slice B0 m0 e0, .slice B1 m1 e1]), .d (.bool E), .d (.agg #[.int .i64 me, .slice B0 m0 e0, .slice B1 m1 e1]), .d (.agg #[.int .i64 md, .slice A0 n0 c0, .slice A1 n1 c1]), .d (.bool E), .d (.bool false), .d (.bool false)] (by kernel_rfl) (by kernel_rfl) ?_
  refine spec_d rfl (fun x _ => gives_run (by go_simp)) ?_
  try simp only [Act.put, List.getElem_toArray, List.getElem_cons_succ, List.getElem_cons_zero, List.setIfInBounds_toArray, List.set_cons_zero, List.set_cons_succ]
  refine spec_d rfl (fun x _ => gives_run (by go_simp)) ?_
  try simp only [Act.put, List.getElem_toArray, List.getElem_cons_succ, List.getElem_cons_zero, List.setIfInBounds_toArray, List.set_cons_zero, List.set_cons_succ]
  refine spec_d rfl (fun z _ => gives_det (by go_simp) (HQ1.out z)) ?_
  try simp only [Act.put, List.getElem_toArray, List.getElem_cons_succ, List.getElem_cons_zero, List.setIfInBounds_toArray, List.set_cons_zero, List.set_cons_succ]
  refine spec_d rfl (fun x _ => gives_run (by go_simp)) ?_
  try simp only [Act.put, List.getElem_toArray, List.getElem_cons_succ, List.getElem_cons_zero, List.setIfInBounds_toArray, List.set_cons_zero, List.set_cons_succ]
  refine spec_d rfl (fun x _ => gives_run (by go_simp)) ?_
  try simp only [Act.put, List.getElem_toArray, List.getElem_cons_succ, List.getElem_cons_zero, List.setIfInBounds_toArray, List.set_cons_zero, List.set_cons_succ]
  refine spec_d rfl (fun x _ => gives_run (by go_simp)) ?_
  try simp only [Act.put, List.getElem_toArray, List.getElem_cons_succ, List.getElem_cons_zero, List.setIfInBounds_toArray, List.set_cons_zero, List.set_cons_succ]
  refine spec_d rfl (fun x _ => gives_run (by go_simp)) ?_
  try simp only [Act.put, List.getElem_toArray, List.getElem_cons_succ, List.getElem_cons_zero, List.setIfInBounds_toArray, List.set_cons_zero, List.set_cons_succ]
  refine spec_d rfl (fun z _ => gives_det (by go_simp) (HQ2.out z)) ?_
  try simp only [Act.put, List.getElem_toArray, List.getElem_cons_succ, List.getElem_cons_zero, List.setIfInBounds_toArray, List.set_cons_zero, List.set_cons_succ]
  refine spec_d rfl (fun x _ => gives_run (by go_simp)) ?_
  try simp only [Act.put, List.getElem_toArray, List.getElem_cons_succ, List.getElem_cons_zero, List.setIfInBounds_toArray, List.set_cons_zero, List.set_cons_succ]
  refine spec_d rfl (fun x _ => gives_run (by go_simp)) ?_
  try simp only [Act.put, List.getElem_toArray, List.getElem_cons_succ, List.getElem_cons_zero, List.setIfInBounds_toArray, List.set_cons_zero, List.set_cons_succ]
  refine spec_d rfl (fun x _ => gives_run (by go_simp)) ?_
  try simp only [Act.put, List.getElem_toArray, List.getElem_cons_succ, List.getElem_cons_zero, List.setIfInBounds_toArray, List.set_cons_zero, List.set_cons_succ]
  refine spec_d rfl (fun x _ => gives_run (by go_simp)) ?_
  try simp only [Act.put, List.getElem_toArray, List.getElem_cons_succ, List.getElem_cons_zero, List.setIfInBounds_toArray, List.set_cons_zero, List.set_cons_succ]
  refine spec_d rfl (fun x _ => gives_run (by go_simp)) ?_
  try simp only [Act.put, List.getElem_toArray, List.getElem_cons_succ, List.getElem_cons_zero, List.setIfInBounds_toArray, List.set_cons_zero, List.set_cons_succ]
  refine spec_d rfl (fun z _ => gives_det (by go_simp) (HQ3.out z)) ?_
  try simp only [Act.put, List.getElem_toArray, List.getElem_cons_succ, List.getElem_cons_zero, List.setIfInBounds_toArray, List.set_cons_zero, List.set_cons_succ]
  refine spec_d rfl (fun x _ => gives_run (by go_simp)) ?_
  try simp only [Act.put, List.getElem_toArray, List.getElem_cons_succ, List.getElem_cons_zero, List.setIfInBounds_toArray, List.set_cons_zero, List.set_cons_succ]
  refine spec_d rfl (fun x _ => gives_run (by go_simp)) ?_
  try simp only [Act.put, List.getElem_toArray, List.getElem_cons_succ, List.getElem_cons_zero, List.setIfInBounds_toArray, List.set_cons_zero, List.set_cons_succ]
  refine spec_d rfl (fun z _ => gives_det (by go_simp) (HQ4.out z)) ?_
  try simp only [Act.put, List.getElem_toArray, List.getElem_cons_succ, List.getElem_cons_zero, List.setIfInBounds_toArray, List.set_cons_zero, List.set_cons_succ]
  refine spec_d rfl (fun x _ => gives_run (by go_simp)) ?_
  try simp only [Act.put, List.getElem_toArray, List.getElem_cons_succ, List.getElem_cons_zero, List.setIfInBounds_toArray, List.set_cons_zero, List.set_cons_succ]
  refine spec_d rfl (fun x _ => gives_run (by go_simp)) ?_
  try simp only [Act.put, List.getElem_toArray, List.getElem_cons_succ, List.getElem_cons_zero, List.setIfInBounds_toArray, List.set_cons_zero, List.set_cons_succ]
  refine spec_end (fun z hz => ?_)
  clear hz
  refine wpAny_done (by kernel_rfl) ?_ _
  have HB6 := Lib.hid (hdr.trans z.below)
  clear Zgs0 Zgs1 Zgs2 Zgo0 Zgo1 Zgo2 Zgc0 Zgc1 Zgc2 hdr HZ HQ1 HQ2 HQ3 HQ4 HE HE' HO5
  generalize z.world = w6 at HB6 ⊢
  clear z
  have HBC6 := Lib.hid (HBC5.out.trans (HB6.out.mono HBC5.out.size))
  have HS6 := Lib.hid (HS5.out.kept HB6.out)
  have HC6 := Lib.hid (HOC.out.kept HB6.out)
  have HU6 : Hid (WinsAt w6 (some ⟨R0, 0, none⟩) n0 us0 ∧ WinsAt w6 (some ⟨R1, 0, none⟩) n1 us1) := Lib.hid ⟨HWU5.out.1.kept HB6.out, HWU5.out.2.kept HB6.out⟩
  have HRV6 := Lib.hid (HR05.out.kept HB6.out)
  have HCV6 := Lib.hid (HCV5.out.kept HB6.out)
  clear HS5 HOC HWU5 HR05 HR15 HCV5 HB5 HBC5 HB6
  have cc1 := HC6.out.cell 1
  simp at cc1
  by_cases hz : n0 = 0
  · have hzi : ¬ (0 : Int) < (n0 : Int) := by omega
    go_wp2_with fail
    refine (one_any _).mono ?_
    rintro e w9 ⟨rfl, hb9⟩
    have HB9 := Lib.hid (HBC6.out.trans (hb9.mono HBC6.out.size))
    clear hb9
    go_wp2
    go_ret
    exact ⟨rfl, HB9.out⟩
  have hzi : (0 : Int) < (n0 : Int) := by omega
  have hn60 : n0 ≤ 60 := HF0.out.1
  obtain ⟨yi, y0, y1', hy'⟩ := and_mask (pl / 2) 255 (by omega)
  have hy : Go.bits BinOp.and IntKind.i64 (pl / 2) 255 = yi := hy'
  have y1 : yi ≤ 255 := y1'
  obtain ⟨yn, rfl⟩ : ∃ k : Nat, yi = k := ⟨yi.toNat, by omega⟩
  obtain ⟨k, HKE⟩ : ∃ k, Hid (yn % n0 = k) := ⟨_, Lib.hid rfl⟩
  have hrem : (yn : Int).tmod (n0 : Int) = (k : Int) := by rw [Int.tmod_eq_emod_of_nonneg (by omega), ← HKE.out]; omega
  have hkn : k < n0 := by rw [← HKE.out]; exact Nat.mod_lt _ (by omega)
  have hki : (k : Int) < (n0 : Int) := by omega
  have hzb : ((n0 : Int) == 0) = false := by simp; omega
  have hzn : ¬ (n0 : Int) = 0 := by omega
  clear hy' y1'
  have hlv : us0.length = n0 := HU6.out.1.len
  obtain ⟨x, hx⟩ : ∃ x, us0[k]? = some x := ⟨_, List.getElem?_eq_getElem (by rw [hlv]; exact hkn)⟩
  obtain ⟨zz, ca, cb, hzz, hxe, hca0, hca1, hcb0, hcb1, _, hcbo⟩ := HCV6.out.2 k x hx
  have HX := Lib.hid hx
  have HZZ := Lib.hid hzz
  have HXE := Lib.hid hxe
  have HCBO := Lib.hid hcbo
  have HCB := Lib.hid (show cb ≠ R0 ∧ cb ≠ R1 ∧ gs + 1 < cb ∧ cb ≠ gc from ⟨by omega, by omega, by omega, by omega⟩)
  obtain ⟨_, _, eR, _, k0, k1, k2, k3, k4, k5, _⟩ := HU6.out.1.six hkn hx
  injection eR with eR
  injection eR with eR1 eR2
  subst eR1 eR2
  rw [Nat.zero_add] at k3
  have f3 := HRV6.out.free (k * 6 + 3)
  have lR := HRV6.out.lt
  clear k0 k1 k2 k4 k5 hx hzz hxe hcbo hca0 hca1 hcb0 hcb1
  obtain ⟨X, HXX⟩ : ∃ X, Hid (Go.bits BinOp.xor IntKind.i64 x.ad 1 = X) := ⟨_, Lib.hid rfl⟩
  have hxor := HXX.out
  have HXN : Hid (X ≠ x.ad) := Lib.hid (by rw [← HXX.out]; exact xor_ne _)
  have hRne : R0 ≠ R1 := by omega
  have HRL := Lib.hid (show w.heap.size ≤ R0 ∧ gs ≠ R0 ∧ gs + 1 ≠ R0 ∧ gc ≠ R0 from ⟨by have := HGS.out; omega, by omega, by omega, by omega⟩)
  go_upto_region 10 with (fail)
  clear cc1 k3 f3 lR hxor hy hrem
  obtain ⟨v0, hv0, hvl0, hvw0⟩ := wins_int HU6.out.1 R0 (k * 6 + 3) X (.inr ⟨k, hkn, rfl⟩)
  obtain ⟨v1, hv1, hvl1, hvw1⟩ := wins_int HU6.out.2 R0 (k * 6 + 3) X (.inl (by omega))
  have HW7 := Lib.hid ((Wrote.refl R0 w6).set (p := ⟨R0, k * 6 + 3, none⟩) (.inl rfl) (.int .i64 X))
  have HRV7 := Lib.hid (HRV6.out.set (k * 6 + 3) (.int .i64 X))
  have HV7 := Lib.hid (show WinsAt (w6.setCell ⟨R0, k * 6 + 3, none⟩ (.int .i64 X)) (some ⟨R0, 0, none⟩) n0 v0 ∧ WinsAt (w6.setCell ⟨R0, k * 6 + 3, none⟩ (.int .i64 X)) (some ⟨R1, 0, none⟩) n1 v1 from ⟨hv0, hv1⟩)
  have HVF := Lib.hid (show FewW n0 v0 ∧ FewW n1 v1 from ⟨few_of HWU.out.2.2.1 hvl0 hvw0, few_of HWU.out.2.2.2 hvl1 hvw1⟩)
  generalize w6.setCell ⟨R0, k * 6 + 3, none⟩ (.int .i64 X) = w7 at hv0 hv1 HW7 HRV7 HV7 ⊢
  obtain ⟨x7, hx7⟩ := at_of HX.out hvl0
  have hw7 := hvw0 k x x7 HX.out hx7
  have HX7 := Lib.hid hx7
  have HW7R := Lib.hid hw7
  have HXZ : Hid (x.ad = zz.ad ∧ x.B = some ⟨cb, 0, none⟩ ∧ x.m = zz.m ∧ x.ts = zz.ts) := Lib.hid (by rw [HXE.out]; exact ⟨rfl, rfl, rfl, rfl⟩)
  have HN7 : Hid (wsEq ws0 v0 = false) := Lib.hid (ne_ad HZZ.out hx7 (by rw [hw7.2.2.2.2.2.2.1 ⟨rfl, rfl⟩, ← HXZ.out.1]; exact HXN.out))
  have HBC7 := Lib.hid (HBC6.out.trans (HW7.out.below HRL.out.1 HBC6.out.size))
  have HS7 := Lib.hid (HS6.out.touch HW7.out HRL.out.2.1)
  have HC7 := Lib.hid (HC6.out.touch HW7.out HRL.out.2.2.2)
  have HCB7 := Lib.hid (HCBO.out.touch HW7.out HCB.out.1)
  have HSF := Lib.hid (same_x md A0 n0 c0 A1 n1 c1 ws0 ws1 md (some ⟨R0, 0, none⟩) n0 n0 (some ⟨R1, 0, none⟩) n1 n1 v0 v1 w7 (HA.out w7 HBC7.out).1 (HA.out w7 HBC7.out).2.1 HF0.out HF1.out HV7.out.1 HV7.out.2 HVF.out.1 HVF.out.2 false (by rw [HN7.out]; simp))
  have s0 := HS7.out.cell 0
  have s1 := HS7.out.cell 1
  have s2 := HS7.out.cell 2
  have t0 := HC7.out.cell 0
  have t1 := HC7.out.cell 1
  have t2 := HC7.out.cell 2
  simp at s0 s1 s2 t0 t1 t2
  clear hv0 hv1 hvl0 hvl1 hvw0 hvw1 hx7 hw7 HU6 HW7 HS6 HC6 HBC6 HRV6 HCBO
  go_wp2_with fail
  refine HSF.out.mono ?_
  rintro e w8 ⟨rfl, hb8⟩
  have HV8 := Lib.hid (show WinsAt w8 (some ⟨R0, 0, none⟩) n0 v0 ∧ WinsAt w8 (some ⟨R1, 0, none⟩) n1 v1 from ⟨HV7.out.1.kept hb8, HV7.out.2.kept hb8⟩)
  have HRV8 := Lib.hid (HRV7.out.kept hb8)
  have HS8 := Lib.hid (HS7.out.kept hb8)
  have HC8 := Lib.hid (HC7.out.kept hb8)
  have HCB8 := Lib.hid (HCB7.out.kept hb8)
  have HBC8 := Lib.hid (HBC7.out.trans (hb8.mono HBC7.out.size))
  clear s0 s1 s2 t0 t1 t2 hb8 HSF HV7 HRV7 HS7 HC7 HCB7 HBC7
  obtain ⟨_, _, eR, _, k0, k1, k2, k3, k4, k5, _⟩ := HV8.out.1.six hkn HX7.out
  injection eR with eR
  injection eR with eR1 eR2
  subst eR1 eR2
  rw [Nat.zero_add] at k3
  have f3 := HRV8.out.free (k * 6 + 3)
  have lR := HRV8.out.lt
  clear k0 k1 k2 k4 k5
  obtain ⟨X2, HX2⟩ : ∃ X, Hid (Go.bits BinOp.xor IntKind.i64 x7.ad 1 = X) := ⟨_, Lib.hid rfl⟩
  have hxor := HX2.out
  go_upto_region 13 with (fail)
  clear k3 f3 lR hxor
  obtain ⟨u0, hv0, hvl0, hvw0⟩ := wins_int HV8.out.1 R0 (k * 6 + 3) X2 (.inr ⟨k, hkn, rfl⟩)
  obtain ⟨u1, hv1, hvl1, hvw1⟩ := wins_int HV8.out.2 R0 (k * 6 + 3) X2 (.inl (by omega))
  have HW9 := Lib.hid ((Wrote.refl R0 w8).set (p := ⟨R0, k * 6 + 3, none⟩) (.inl rfl) (.int .i64 X2))
  have HV9 := Lib.hid (show WinsAt (w8.setCell ⟨R0, k * 6 + 3, none⟩ (.int .i64 X2)) (some ⟨R0, 0, none⟩) n0 u0 ∧ WinsAt (w8.setCell ⟨R0, k * 6 + 3, none⟩ (.int .i64 X2)) (some ⟨R1, 0, none⟩) n1 u1 from ⟨hv0, hv1⟩)
  have HUF := Lib.hid (show FewW n0 u0 ∧ FewW n1 u1 from ⟨few_of HVF.out.1 hvl0 hvw0, few_of HVF.out.2 hvl1 hvw1⟩)
  generalize w8.setCell ⟨R0, k * 6 + 3, none⟩ (.int .i64 X2) = w9 at hv0 hv1 HW9 HV9 ⊢
  obtain ⟨x9, hx9⟩ := at_of HX7.out hvl0
  have hw9 := hvw0 k x7 x9 HX7.out hx9
  have HX9 := Lib.hid hx9
  have HBC9 := Lib.hid (HBC8.out.trans (HW9.out.below HRL.out.1 HBC8.out.size))
  have HS9 := Lib.hid (HS8.out.touch HW9.out HRL.out.2.1)
  have HC9 := Lib.hid (HC8.out.touch HW9.out HRL.out.2.2.2)
  have HCB9 := Lib.hid (HCB8.out.touch HW9.out HCB.out.1)
  have HZ9 : Hid (x9.B = some ⟨cb, 0, none⟩ ∧ x9.m = zz.m ∧ x9.ts = zz.ts) := Lib.hid (by
    have w7 := HW7R.out
    have b7 : x7.B = some ⟨cb, 0, none⟩ := w7.2.2.2.2.2.1.trans HXZ.out.2.1
    have t7 : x7.ts = zz.ts := (w7.2.2.2.2.2.2.2.2 cb 0 HXZ.out.2.1 HCB.out.1).trans HXZ.out.2.2.2
    exact ⟨hw9.2.2.2.2.2.1.trans b7, (hw9.2.1.trans w7.2.1).trans HXZ.out.2.2.1, (hw9.2.2.2.2.2.2.2.2 cb 0 b7 HCB.out.1).trans t7⟩)
  clear hv0 hv1 hvl0 hvl1 hvw0 hvw1 hx9 hw9 HV8 HW9 HS8 HC8 HCB8 HBC8 HRV8
  obtain ⟨_, _, eR, _, k0, k1, k2, k3, k4, k5, _⟩ := HV9.out.1.six hkn HX9.out
  injection eR with eR
  injection eR with eR1 eR2
  subst eR1 eR2
  rw [Nat.zero_add, HZ9.out.1, HZ9.out.2.1] at k5
  clear k0 k1 k2 k3 k4
  obtain ⟨mm, HMM⟩ : ∃ m, Hid (zz.m = m) := ⟨_, Lib.hid rfl⟩
  rw [HMM.out] at k5
  obtain ⟨dd, HDD⟩ : ∃ d, Hid (x9.d = d) := ⟨_, Lib.hid rfl⟩
  rw [HDD.out] at k5
  by_cases hm0 : mm = 0
  · have hmi : ¬ (0 : Int) < (mm : Int) := by omega
    go_wp2_with fail
    refine (one_any _).mono ?_
    rintro e wl ⟨rfl, hbl⟩
    have HBL := Lib.hid (HBC9.out.trans (hbl.mono HBC9.out.size))
    clear hbl
    go_wp2
    go_ret
    exact ⟨rfl, HBL.out⟩
  have hmi : (0 : Int) < (mm : Int) := by omega
  have hmz : 0 < mm := by omega
  obtain ⟨sb, so, rfl, hsb, j0, j1, j2, j3, j4, j5, hzok⟩ := (HA.out w (Below.refl _ _)).1.six hkn HZZ.out
  have HZK := Lib.hid hzok
  have hztl : zz.ts.length = mm := by have := hzok.tl.1; simp at this; rw [this, HMM.out]
  obtain ⟨q0, hq0⟩ : ∃ q, zz.ts[0]? = some q := ⟨_, List.getElem?_eq_getElem (by omega)⟩
  obtain ⟨tb, toff, htB, htlt, htc⟩ := hzok.tl.2 (by rw [HMM.out]; exact hmz)
  have ht0 := htc 0 (by rw [HMM.out]; exact hmz)
  rw [List.getElem?_map, hq0, Nat.add_zero] at ht0
  rw [htB, HMM.out] at j5
  obtain ⟨dz, HDZ⟩ : ∃ d, Hid (zz.d = d) := ⟨_, Lib.hid rfl⟩
  rw [HDZ.out] at j5
  have HQ0 := Lib.hid hq0
  have HSRC : Hid (∀ W, Below w.heap.size w W → W.cell? ⟨sb, so + k * 6 + 5, none⟩ = some (.slice (some ⟨tb, toff, none⟩) mm dz) ∧ W.cell? ⟨tb, toff, none⟩ = some (.int .i64 q0)) := Lib.hid (fun W hW => ⟨(hW.cell (p := ⟨sb, so + k * 6 + 5, none⟩) hsb).trans j5, (hW.cell (p := ⟨tb, toff, none⟩) htlt).trans ht0⟩)
  have cq : w9.cell? ⟨cb, 0, none⟩ = some (.int .i64 q0) := by
    rw [HCB9.out.cell, List.getElem?_toArray, List.getElem?_map, hq0]
    rfl
  obtain ⟨X3, HX3⟩ : ∃ X, Hid (Go.bits BinOp.xor IntKind.i64 q0 1 = X) := ⟨_, Lib.hid rfl⟩
  have hxor := HX3.out
  have HX3N : Hid (X3 ≠ q0) := Lib.hid (by rw [← HX3.out]; exact xor_ne _)
  clear j0 j1 j2 j3 j4 j5 hzok hztl hq0 htB htlt htc ht0 hsb
  go_upto_region 14 with (fail)
  have hdr : Below w9.heap.size w9 w9.drew := bel_drew w9
  have K5 : ∀ z : Kin w9.drew, z.world.cell? ⟨R0, k * 6 + 5, none⟩ = some (.slice (some ⟨cb, 0, none⟩) mm dd) := fun z => Kin.at (w := w9.drew) k5 z
  have KQ : ∀ z : Kin w9.drew, z.world.cell? ⟨cb, 0, none⟩ = some (.int .i64 q0) := fun z => Kin.at (w := w9.drew) cq z
  refine wp_region_specL 14 [.d (.slice (some ⟨R0, 0, none⟩) n0 n0), .d (.int .i64 k), .d (.pointer (some ⟨R0, k * 6, none⟩)), .d (.pointer (some ⟨R0, k * 6 + 5, none⟩)), .d (.slice (some ⟨cb, 0, none⟩) mm dd), .d (.slice (some ⟨R0, 0, none⟩) n0 n0), .d (.int .i64 k), .d (.pointer (some ⟨R0, k * 6, none⟩)), .d (.pointer (some ⟨R0, k * 6 + 5, none⟩)), .d (.slice (some ⟨cb, 0, none⟩) mm dd), .d (.pointer (some ⟨cb, 0, none⟩)), .d (.int .i64 q0), .d (.int .i64 X3), .d (.pointer (some ⟨cb, 0, none⟩))] (by kernel_rfl) (by kernel_rfl) ?_
  refine spec_d rfl (fun x _ => gives_run (by go_simp)) ?_
  try simp only [Act.put, List.getElem_toArray, List.getElem_cons_succ, List.getElem_cons_zero, List.setIfInBounds_toArray, List.set_cons_zero, List.set_cons_succ]
  refine spec_d rfl (fun x _ => gives_run (by go_simp)) ?_
  try simp only [Act.put, List.getElem_toArray, List.getElem_cons_succ, List.getElem_cons_zero, List.setIfInBounds_toArray, List.set_cons_zero, List.set_cons_succ]
  refine spec_d rfl (fun x _ => gives_run (by go_simp)) ?_
  try simp only [Act.put, List.getElem_toArray, List.getElem_cons_succ, List.getElem_cons_zero, List.setIfInBounds_toArray, List.set_cons_zero, List.set_cons_succ]
  refine spec_d rfl (fun x _ => gives_run (by go_simp)) ?_
  try simp only [Act.put, List.getElem_toArray, List.getElem_cons_succ, List.getElem_cons_zero, List.setIfInBounds_toArray, List.set_cons_zero, List.set_cons_succ]
  refine spec_d rfl (fun x _ => gives_run (by go_simp)) ?_
  try simp only [Act.put, List.getElem_toArray, List.getElem_cons_succ, List.getElem_cons_zero, List.setIfInBounds_toArray, List.set_cons_zero, List.set_cons_succ]
  refine spec_d rfl (fun x _ => gives_run (by go_simp)) ?_
  try simp only [Act.put, List.getElem_toArray, List.getElem_cons_succ, List.getElem_cons_zero, List.setIfInBounds_toArray, List.set_cons_zero, List.set_cons_succ]
  refine spec_d rfl (fun x _ => gives_run (by go_simp)) ?_
  try simp only [Act.put, List.getElem_toArray, List.getElem_cons_succ, List.getElem_cons_zero, List.setIfInBounds_toArray, List.set_cons_zero, List.set_cons_succ]
  refine spec_d rfl (fun x _ => gives_run (by go_simp)) ?_
  try simp only [Act.put, List.getElem_toArray, List.getElem_cons_succ, List.getElem_cons_zero, List.setIfInBounds_toArray, List.set_cons_zero, List.set_cons_succ]
  refine spec_d rfl (fun x _ => gives_run (by go_simp)) ?_
  try simp only [Act.put, List.getElem_toArray, List.getElem_cons_succ, List.getElem_cons_zero, List.setIfInBounds_toArray, List.set_cons_zero, List.set_cons_succ]
  refine spec_d rfl (fun x _ => gives_run (by go_simp)) ?_
  try simp only [Act.put, List.getElem_toArray, List.getElem_cons_succ, List.getElem_cons_zero, List.setIfInBounds_toArray, List.set_cons_zero, List.set_cons_succ]
  refine spec_d rfl (fun x _ => gives_run (by go_simp)) ?_
  try simp only [Act.put, List.getElem_toArray, List.getElem_cons_succ, List.getElem_cons_zero, List.setIfInBounds_toArray, List.set_cons_zero, List.set_cons_succ]
  refine spec_d rfl (fun x _ => gives_run (by go_simp)) ?_
  try simp only [Act.put, List.getElem_toArray, List.getElem_cons_succ, List.getElem_cons_zero, List.setIfInBounds_toArray, List.set_cons_zero, List.set_cons_succ]
  refine spec_d rfl (fun x _ => gives_run (by go_simp)) ?_
  try simp only [Act.put, List.getElem_toArray, List.getElem_cons_succ, List.getElem_cons_zero, List.setIfInBounds_toArray, List.set_cons_zero, List.set_cons_succ]
  refine spec_d rfl (fun x _ => gives_run (by go_simp)) ?_
  try simp only [Act.put, List.getElem_toArray, List.getElem_cons_succ, List.getElem_cons_zero, List.setIfInBounds_toArray, List.set_cons_zero, List.set_cons_succ]
  refine spec_end (fun z hz => ?_)
  clear hz
  have hbx := hdr.trans z.below
  have HV10 := Lib.hid (show WinsAt z.world (some ⟨R0, 0, none⟩) n0 u0 ∧ WinsAt z.world (some ⟨R1, 0, none⟩) n1 u1 from ⟨HV9.out.1.kept hbx, HV9.out.2.kept hbx⟩)
  have HS10 := Lib.hid (HS9.out.kept hbx)
  have HC10 := Lib.hid (HC9.out.kept hbx)
  have HCB10 := Lib.hid (HCB9.out.kept hbx)
  have HBC10 := Lib.hid (HBC9.out.trans (hbx.mono HBC9.out.size))
  have cq2 := KQ z
  clear K5 KQ hdr hbx cq k5 hxor
  generalize z.world = wz at HV10 HS10 HC10 HCB10 HBC10 cq2 ⊢
  clear z
  have fq := HCB10.out.free 0
  change wpAny _ _ _ _ (0 + 1) _ _ _
  refine wpAny_ready (rs := [14]) (by kernel_rfl) (by simp) ?_
  refine AllReady.cons rfl (fun KK hK => ?_) AllReady.nil
  go_simp
  refine hK _ _ ?_
  clear hK KK
  refine wpAny_done (by kernel_rfl) ?_ _
  clear fq
  obtain ⟨y0, hv0, hvl0, hvw0⟩ := wins_int HV10.out.1 cb 0 X3 (.inl HCB.out.1)
  obtain ⟨y1, hv1, hvl1, hvw1⟩ := wins_int HV10.out.2 cb 0 X3 (.inl HCB.out.2.1)
  have HW11 := Lib.hid ((Wrote.refl cb wz).set (p := ⟨cb, 0, none⟩) (.inl rfl) (.int .i64 X3))
  have HCB11 := Lib.hid (HCB10.out.set 0 (.int .i64 X3))
  have HV11 := Lib.hid (show WinsAt (wz.setCell ⟨cb, 0, none⟩ (.int .i64 X3)) (some ⟨R0, 0, none⟩) n0 y0 ∧ WinsAt (wz.setCell ⟨cb, 0, none⟩ (.int .i64 X3)) (some ⟨R1, 0, none⟩) n1 y1 from ⟨hv0, hv1⟩)
  have HYF := Lib.hid (show FewW n0 y0 ∧ FewW n1 y1 from ⟨few_of HUF.out.1 hvl0 hvw0, few_of HUF.out.2 hvl1 hvw1⟩)
  have cn : (wz.setCell ⟨cb, 0, none⟩ (.int .i64 X3)).cell? ⟨cb, 0, none⟩ = some (.int .i64 X3) := World.cell?_setCell_same _ _ _ cq2
  generalize wz.setCell ⟨cb, 0, none⟩ (.int .i64 X3) = w11 at hv0 hv1 HW11 HCB11 HV11 cn ⊢
  obtain ⟨xa, hxa⟩ := at_of HX9.out hvl0
  have hwa := hvw0 k x9 xa HX9.out hxa
  have HN11 : Hid (wsEq ws0 y0 = false) := Lib.hid (ne_ts HZZ.out hxa (fun e => by
    have h := hwa.2.2.2.2.2.2.2.1 HZ9.out.1 (by rw [HZ9.out.2.1, HMM.out]; exact hmz)
    rw [e, HQ0.out] at h
    exact HX3N.out (Option.some.inj h).symm))
  obtain ⟨_, _, eR, _, k0, k1, k2, k3, k4, k5, _⟩ := HV11.out.1.six hkn hxa
  injection eR with eR
  injection eR with eR1 eR2
  subst eR1 eR2
  rw [Nat.zero_add, hwa.2.2.2.2.2.1, HZ9.out.1, hwa.2.1, HZ9.out.2.1, HMM.out] at k5
  obtain ⟨da, HDA⟩ : ∃ d, Hid (xa.d = d) := ⟨_, Lib.hid rfl⟩
  rw [HDA.out] at k5
  have HBC11 := Lib.hid (HBC10.out.trans (HW11.out.below (by have := HCB.out.2.2.1; have := HGS.out; omega) HBC10.out.size))
  have HS11 := Lib.hid (HS10.out.touch HW11.out (by have := HCB.out.2.2.1; omega))
  have HC11 := Lib.hid (HC10.out.touch HW11.out (Ne.symm HCB.out.2.2.2))
  clear hv0 hv1 hvl0 hvl1 hvw0 hvw1 hxa hwa HV10 HW11 HS10 HC10 HCB10 HBC10 k0 k1 k2 k3 k4 HV9 HS9 HC9 HCB9 HBC9
  go_upto_region 15 with (fail)
  have hdr : Below w11.heap.size w11 w11.drew := bel_drew w11
  have HZW : Hid (∀ z : Kin w11.drew, Below w.heap.size w z.world) := Lib.hid (fun z => HBC11.out.trans ((hdr.trans z.below).mono HBC11.out.size))
  have Zs0 : ∀ z : Kin w11.drew, z.world.cell? ⟨gs, 0, none⟩ = some (.int .i64 md) := fun z => (HS11.out.kept (hdr.trans z.below)).cell 0
  have Zs1 : ∀ z : Kin w11.drew, z.world.cell? ⟨gs, 1, none⟩ = some (.slice (some ⟨sb, so, none⟩) n0 c0) := fun z => (HS11.out.kept (hdr.trans z.below)).cell 1
  have Zs2 : ∀ z : Kin w11.drew, z.world.cell? ⟨gs, 2, none⟩ = some (.slice A1 n1 c1) := fun z => (HS11.out.kept (hdr.trans z.below)).cell 2
  have Zc0 : ∀ z : Kin w11.drew, z.world.cell? ⟨gc, 0, none⟩ = some (.int .i64 md) := fun z => (HC11.out.kept (hdr.trans z.below)).cell 0
  have Zc1 : ∀ z : Kin w11.drew, z.world.cell? ⟨gc, 1, none⟩ = some (.slice (some ⟨R0, 0, none⟩) n0 n0) := fun z => (HC11.out.kept (hdr.trans z.below)).cell 1
  have Zc2 : ∀ z : Kin w11.drew, z.world.cell? ⟨gc, 2, none⟩ = some (.slice (some ⟨R1, 0, none⟩) n1 n1) := fun z => (HC11.out.kept (hdr.trans z.below)).cell 2
  have Zk : ∀ z : Kin w11.drew, z.world.cell? ⟨R0, k * 6 + 5, none⟩ = some (.slice (some ⟨cb, 0, none⟩) mm da) := fun z => Kin.at (w := w11.drew) k5 z
  have Zn : ∀ z : Kin w11.drew, z.world.cell? ⟨cb, 0, none⟩ = some (.int .i64 X3) := fun z => Kin.at (w := w11.drew) cn z
  have Zj : ∀ z : Kin w11.drew, z.world.cell? ⟨sb, so + k * 6 + 5, none⟩ = some (.slice (some ⟨tb, toff, none⟩) mm dz) := fun z => (HSRC.out z.world (HZW.out z)).1
  have Zt : ∀ z : Kin w11.drew, z.world.cell? ⟨tb, toff, none⟩ = some (.int .i64 q0) := fun z => (HSRC.out z.world (HZW.out z)).2
  have HQF : Hid (∀ z : Kin w11.drew, Calls Try.prog 20 #[(.agg #[.int .i64 md, .slice (some ⟨sb, so, none⟩) n0 c0, .slice A1 n1 c1]), (.agg #[.int .i64 md, .slice (some ⟨R0, 0, none⟩) n0 n0, .slice (some ⟨R1, 0, none⟩) n1 n1])] z.world fun e w' => e = .returned (.bool false) ∧ Below z.world.heap.size z.world w') := Lib.hid (fun z => by
    have ha := HA.out z.world (HZW.out z)
    exact same_x md (some ⟨sb, so, none⟩) n0 c0 A1 n1 c1 ws0 ws1 md _ n0 n0 _ n1 n1 y0 y1 z.world ha.1 ha.2.1 HF0.out HF1.out (HV11.out.1.kept (hdr.trans z.below)) (HV11.out.2.kept (hdr.trans z.below)) HYF.out.1 HYF.out.2 false (by rw [HN11.out]; simp))
  have hxf : (q0 == X3) = false := by have := HX3N.out; simp; exact fun h => this h.symm
  refine wp_region_specL 24 [.d (.agg #[.int .i64 md, .slice (some ⟨sb, so, none⟩) n0 c0, .slice A1 n1 c1]), .d (.agg #[.int .i64 md, .slice (some ⟨R0, 0, none⟩) n0 n0, .slice (some ⟨R1, 0, none⟩) n1 n1]), .d (.bool false), .d (.bool false), .d (.int .i64 pl), .d (.int .i64 0), .d (.pointer (some ⟨gs, 1, none⟩)), .d (.pointer (some ⟨gs, 1, none⟩)), .d (.slice (some ⟨sb, so, none⟩) n0 c0), .d (.int .i64 k), .d (.pointer (some ⟨sb, so + k * 6, none⟩)), .d (.pointer (some ⟨sb, so + k * 6 + 5, none⟩)), .d (.slice (some ⟨tb, toff, none⟩) mm dz), .d (.pointer (some ⟨tb, toff, none⟩)), .d (.int .i64 q0), .d (.slice (some ⟨R0, 0, none⟩) n0 n0), .d (.int .i64 k), .d (.pointer (some ⟨R0, k * 6, none⟩)), .d (.pointer (some ⟨R0, k * 6 + 5, none⟩)), .d (.slice (some ⟨cb, 0, none⟩) mm da), .d (.pointer (some ⟨cb, 0, none⟩)), .d (.int .i64 X3), .d (.bool false), .d (.bool false)] (by kernel_rfl) (by kernel_rfl) ?_
  refine spec_d rfl (fun x _ => gives_run (by go_simp)) ?_
  try simp only [Act.put, List.getElem_toArray, List.getElem_cons_succ, List.getElem_cons_zero, List.setIfInBounds_toArray, List.set_cons_zero, List.set_cons_succ]
  refine spec_d rfl (fun x _ => gives_run (by go_simp)) ?_
  try simp only [Act.put, List.getElem_toArray, List.getElem_cons_succ, List.getElem_cons_zero, List.setIfInBounds_toArray, List.set_cons_zero, List.set_cons_succ]
  refine spec_d rfl (fun z _ => gives_det (by go_simp) (HQF.out z)) ?_
  try simp only [Act.put, List.getElem_toArray, List.getElem_cons_succ, List.getElem_cons_zero, List.setIfInBounds_toArray, List.set_cons_zero, List.set_cons_succ]
  refine spec_d rfl (fun x _ => gives_run (by go_simp)) ?_
  try simp only [Act.put, List.getElem_toArray, List.getElem_cons_succ, List.getElem_cons_zero, List.setIfInBounds_toArray, List.set_cons_zero, List.set_cons_succ]
  refine spec_d rfl (fun x _ => gives_run (by go_simp)) ?_
  try simp only [Act.put, List.getElem_toArray, List.getElem_cons_succ, List.getElem_cons_zero, List.setIfInBounds_toArray, List.set_cons_zero, List.set_cons_succ]
  refine spec_d rfl (fun x _ => gives_run (by go_simp)) ?_
  try simp only [Act.put, List.getElem_toArray, List.getElem_cons_succ, List.getElem_cons_zero, List.setIfInBounds_toArray, List.set_cons_zero, List.set_cons_succ]
  refine spec_d rfl (fun x _ => gives_run (by go_simp)) ?_
  try simp only [Act.put, List.getElem_toArray, List.getElem_cons_succ, List.getElem_cons_zero, List.setIfInBounds_toArray, List.set_cons_zero, List.set_cons_succ]
  refine spec_d rfl (fun x _ => gives_run (by go_simp)) ?_
  try simp only [Act.put, List.getElem_toArray, List.getElem_cons_succ, List.getElem_cons_zero, List.setIfInBounds_toArray, List.set_cons_zero, List.set_cons_succ]
  refine spec_d rfl (fun x _ => gives_run (by go_simp)) ?_
  try simp only [Act.put, List.getElem_toArray, List.getElem_cons_succ, List.getElem_cons_zero, List.setIfInBounds_toArray, List.set_cons_zero, List.set_cons_succ]
  refine spec_d rfl (fun x _ => gives_run (by go_simp)) ?_
  try simp only [Act.put, List.getElem_toArray, List.getElem_cons_succ, List.getElem_cons_zero, List.setIfInBounds_toArray, List.set_cons_zero, List.set_cons_succ]
  refine spec_d rfl (fun x _ => gives_run (by go_simp)) ?_
  try simp only [Act.put, List.getElem_toArray, List.getElem_cons_succ, List.getElem_cons_zero, List.setIfInBounds_toArray, List.set_cons_zero, List.set_cons_succ]
  refine spec_d rfl (fun x _ => gives_run (by go_simp)) ?_
  try simp only [Act.put, List.getElem_toArray, List.getElem_cons_succ, List.getElem_cons_zero, List.setIfInBounds_toArray, List.set_cons_zero, List.set_cons_succ]
  refine spec_d rfl (fun x _ => gives_run (by go_simp)) ?_
  try simp only [Act.put, List.getElem_toArray, List.getElem_cons_succ, List.getElem_cons_zero, List.setIfInBounds_toArray, List.set_cons_zero, List.set_cons_succ]
  refine spec_d rfl (fun x _ => gives_run (by go_simp)) ?_
  try simp only [Act.put, List.getElem_toArray, List.getElem_cons_succ, List.getElem_cons_zero, List.setIfInBounds_toArray, List.set_cons_zero, List.set_cons_succ]
  refine spec_d rfl (fun x _ => gives_run (by go_simp)) ?_
  try simp only [Act.put, List.getElem_toArray, List.getElem_cons_succ, List.getElem_cons_zero, List.setIfInBounds_toArray, List.set_cons_zero, List.set_cons_succ]
  refine spec_d rfl (fun x _ => gives_run (by go_simp)) ?_
  try simp only [Act.put, List.getElem_toArray, List.getElem_cons_succ, List.getElem_cons_zero, List.setIfInBounds_toArray, List.set_cons_zero, List.set_cons_succ]
  refine spec_d rfl (fun x _ => gives_run (by go_simp)) ?_
  try simp only [Act.put, List.getElem_toArray, List.getElem_cons_succ, List.getElem_cons_zero, List.setIfInBounds_toArray, List.set_cons_zero, List.set_cons_succ]
  refine spec_d rfl (fun x _ => gives_run (by go_simp)) ?_
  try simp only [Act.put, List.getElem_toArray, List.getElem_cons_succ, List.getElem_cons_zero, List.setIfInBounds_toArray, List.set_cons_zero, List.set_cons_succ]
  refine spec_d rfl (fun x _ => gives_run (by go_simp)) ?_
  try simp only [Act.put, List.getElem_toArray, List.getElem_cons_succ, List.getElem_cons_zero, List.setIfInBounds_toArray, List.set_cons_zero, List.set_cons_succ]
  refine spec_d rfl (fun x _ => gives_run (by go_simp)) ?_
  try simp only [Act.put, List.getElem_toArray, List.getElem_cons_succ, List.getElem_cons_zero, List.setIfInBounds_toArray, List.set_cons_zero, List.set_cons_succ]
  refine spec_d rfl (fun x _ => gives_run (by go_simp)) ?_
  try simp only [Act.put, List.getElem_toArray, List.getElem_cons_succ, List.getElem_cons_zero, List.setIfInBounds_toArray, List.set_cons_zero, List.set_cons_succ]
  refine spec_d rfl (fun x _ => gives_run (by go_simp)) ?_
  try simp only [Act.put, List.getElem_toArray, List.getElem_cons_succ, List.getElem_cons_zero, List.setIfInBounds_toArray, List.set_cons_zero, List.set_cons_succ]
  refine spec_d rfl (fun x _ => gives_run (by go_simp)) ?_
  try simp only [Act.put, List.getElem_toArray, List.getElem_cons_succ, List.getElem_cons_zero, List.setIfInBounds_toArray, List.set_cons_zero, List.set_cons_succ]
  refine spec_d rfl (fun x _ => gives_run (by go_simp)) ?_
  try simp only [Act.put, List.getElem_toArray, List.getElem_cons_succ, List.getElem_cons_zero, List.setIfInBounds_toArray, List.set_cons_zero, List.set_cons_succ]
  refine spec_end (fun z hz => ?_)
  clear hz
  refine wpAny_done (by kernel_rfl) ?_ _
  have HBE := Lib.hid (HZW.out z)
  clear Zs0 Zs1 Zs2 Zc0 Zc1 Zc2 Zk Zn Zj Zt HQF HZW hdr k5 cn hxf
  generalize z.world = we at HBE ⊢
  clear z
  go_wp2_with fail
  refine (one_any _).mono ?_
  rintro e wl ⟨rfl, hbl⟩
  have HBL := Lib.hid (HBE.out.trans (hbl.mono HBE.out.size))
  clear hbl
  go_wp2
  go_ret
  exact ⟨rfl, HBL.out⟩
set_option maxRecDepth 100000 in
set_option maxHeartbeats 8000000 in
theorem go1 (md : Int) (A0 : Option Addr) (n0 c0 : Nat) (A1 : Option Addr) (n1 c1 : Nat) (ws0 ws1 : List Wd) (me : Int) (B0 : Option Addr) (m0 e0 : Nat) (B1 : Option Addr) (m1 e1 : Nat) (zs0 zs1 : List Wd) (pl : Int) (w : World)
    (hand : Go.bits BinOp.and IntKind.i64 pl 1 = 1) (a0 : WinsAt w A0 n0 ws0) (a1 : WinsAt w A1 n1 ws1) (b0 : WinsAt w B0 m0 zs0) (b1 : WinsAt w B1 m1 zs1) (h0 : n0 ≤ 9223372036854775807) (h1 : n1 ≤ 9223372036854775807) (h2 : m0 ≤ 9223372036854775807) (h3 : m1 ≤ 9223372036854775807) :
    Calls Try.prog 5 #[.agg #[.int .i64 md, .slice A0 n0 c0, .slice A1 n1 c1], .agg #[.int .i64 me, .slice B0 m0 e0, .slice B1 m1 e1], .int .i64 pl] w fun e w' => e = .returned (.bool true) ∧ Below w.heap.size w w' := by
  obtain ⟨gs, HGS⟩ : ∃ g, Hid (w.heap.size = g) := ⟨_, Lib.hid rfl⟩
  obtain ⟨W1, HW1⟩ : ∃ W1, W1 = (w.alloc (.cells #[.int .i64 md, .slice A0 n0 c0, .slice A1 n1 c1] 25)).alloc (.cells #[.int .i64 me, .slice B0 m0 e0, .slice B1 m1 e1] 25) := ⟨_, rfl⟩
  have HOS : Hid (Obj1 W1 gs 25 #[.int .i64 md, .slice A0 n0 c0, .slice A1 n1 c1]) := Lib.hid (by rw [HW1, ← HGS.out]; exact (Obj1.new w 25 _).alloc _)
  have HOO : Hid (Obj1 W1 (gs + 1) 25 #[.int .i64 me, .slice B0 m0 e0, .slice B1 m1 e1]) := Lib.hid (by
    have := Obj1.new (w.alloc (.cells #[.int .i64 md, .slice A0 n0 c0, .slice A1 n1 c1] 25)) 25 #[.int .i64 me, .slice B0 m0 e0, .slice B1 m1 e1]
    rw [show (w.alloc (.cells #[.int .i64 md, .slice A0 n0 c0, .slice A1 n1 c1] 25)).heap.size = w.heap.size + 1 by simp, HGS.out] at this
    rw [HW1]
    exact this)
  have HB1 : Hid (Below w.heap.size w W1) := Lib.hid (by rw [HW1]; exact ((Below.refl _ _).alloc (Nat.le_refl _) _).alloc (by simp) _)
  have HA : Hid (∀ W, Below w.heap.size w W → WinsAt W A0 n0 ws0 ∧ WinsAt W A1 n1 ws1 ∧ WinsAt W B0 m0 zs0 ∧ WinsAt W B1 m1 zs1) := Lib.hid (fun W hW => ⟨a0.kept hW, a1.kept hW, b0.kept hW, b1.kept hW⟩)
  have HFS := Lib.hid (few_any md A0 n0 c0 A1 n1 c1 ws0 ws1 W1 (a0.kept HB1.out) (a1.kept HB1.out) h0 h1)
  have HFO := Lib.hid (fun W (hW : Below W1.heap.size W1 W) => few_any me B0 m0 e0 B1 m1 e1 zs0 zs1 W (HA.out W (HB1.out.trans (hW.mono HB1.out.size))).2.2.1 (HA.out W (HB1.out.trans (hW.mono HB1.out.size))).2.2.2 h2 h3)
  clear a0 a1 b0 b1 h0 h1 h2 h3
  have s0 := HOS.out.cell 0
  have s1 := HOS.out.cell 1
  have s2 := HOS.out.cell 2
  simp at s0 s1 s2
  go_enter Try.func5, Try.ntmps5
  go_upto_region 1 with (fail)
  rw [← HW1, HGS.out]
  clear HW1
  go_wp2_with fail
  refine HFS.out.mono ?_
  rintro e w2 ⟨r, rfl, hr, hb2⟩
  have HB2 := Lib.hid hb2
  clear hb2 s0 s1 s2 HFS
  rcases hr with rfl | ⟨rfl, hf0, hf1⟩
  · go_wp2
    go_ret
    exact ⟨rfl, HB1.out.trans (HB2.out.mono HB1.out.size)⟩
  have HF0 := Lib.hid hf0
  have HF1 := Lib.hid hf1
  have HOO2 := Lib.hid (HOO.out.kept HB2.out)
  have s0 := HOO2.out.cell 0
  have s1 := HOO2.out.cell 1
  have s2 := HOO2.out.cell 2
  simp at s0 s1 s2
  clear hf0 hf1
  go_wp2_with fail
  refine (HFO.out _ HB2.out).mono ?_
  rintro e w3 ⟨r, rfl, hr, hb3⟩
  have HB3 := Lib.hid (HB2.out.trans (hb3.mono HB2.out.size))
  clear hb3 s0 s1 s2 HFO HOO2
  rcases hr with rfl | ⟨rfl, hf0, hf1⟩
  · go_wp2
    go_ret
    exact ⟨rfl, HB1.out.trans (HB3.out.mono HB1.out.size)⟩
  have HE0 := Lib.hid hf0
  have HE1 := Lib.hid hf1
  have HBC3 := Lib.hid (HB1.out.trans (HB3.out.mono HB1.out.size))
  have HOS3 := Lib.hid (HOS.out.kept HB3.out)
  have s0 := HOS3.out.cell 0
  have s1 := HOS3.out.cell 1
  have s2 := HOS3.out.cell 2
  simp at s0 s1 s2
  have HCL := Lib.hid (clone_any md A0 n0 c0 A1 n1 c1 ws0 ws1 w3 (HA.out w3 HBC3.out).1 (HA.out w3 HBC3.out).2.1 HF0.out HF1.out)
  clear hf0 hf1
  go_wp2_with fail
  refine HCL.out.mono ?_
  rintro e w4 ⟨R0, us0, R1, us1, rfl, HCC, HB4⟩
  obtain ⟨hr0, hr01, hl0, hl1, hrow0, hcp0, hrow1, hcp1⟩ := HCC.out
  obtain ⟨cs0, hor0, _⟩ := hrow0
  obtain ⟨cs1, hor1, _⟩ := hrow1
  have HR0 := Lib.hid hor0
  have HR1 := Lib.hid hor1
  have HWU : Hid (WinsAt w4 (some ⟨R0, 0, none⟩) n0 us0 ∧ WinsAt w4 (some ⟨R1, 0, none⟩) n1 us1 ∧ FewW n0 us0 ∧ FewW n1 us1) := Lib.hid ⟨HCC.out.2.2.2.2.1.wins hl0 hcp0.oks, HCC.out.2.2.2.2.2.2.1.wins hl1 hcp1.oks, few_cp HF0.out hcp0, few_cp HF1.out hcp1⟩
  have hln : ws0.length = us0.length ∧ ws1.length = us1.length := by
    have h := HA.out w (Below.refl _ _)
    rw [hl0, hl1]
    exact ⟨h.1.len, h.2.1.len⟩
  have HEQ : Hid (wsEq ws0 us0 = true ∧ wsEq ws1 us1 = true) := Lib.hid ⟨cps_eq hcp0 hln.1, cps_eq hcp1 hln.2⟩
  have HCV := Lib.hid hcp1
  have HGAP : Hid (gs + 1 < R0 ∧ R0 < R1 ∧ R1 < w4.heap.size) := Lib.hid ⟨by
    have h := HOO.out.lt
    have := HB3.out.size
    omega, hr01, hor1.lt⟩
  have hgap := HGAP.out
  clear s0 s1 s2 hr0 hcp0 hcp1 hor0 hor1 HCC HCL hln
  go_upto_region 4 with (fail)
  obtain ⟨gc, HGC⟩ : ∃ g, Hid (w4.heap.size = g) := ⟨_, Lib.hid rfl⟩
  obtain ⟨W5, HW5⟩ : ∃ W5, W5 = w4.alloc (.cells #[.int .i64 md, .slice (some ⟨R0, 0, none⟩) n0 n0, .slice (some ⟨R1, 0, none⟩) n1 n1] 25) := ⟨_, rfl⟩
  have HOC : Hid (Obj1 W5 gc 25 #[.int .i64 md, .slice (some ⟨R0, 0, none⟩) n0 n0, .slice (some ⟨R1, 0, none⟩) n1 n1]) := Lib.hid (by rw [HW5, ← HGC.out]; exact Obj1.new _ _ _)
  have HB45 : Hid (Below w4.heap.size w4 W5) := Lib.hid (by rw [HW5]; exact bel1 _ _)
  rw [← HW5, HGC.out]
  clear HW5
  rw [HGC.out] at hgap
  have HB5 := Lib.hid ((HB3.out.trans (HB4.out.mono HB3.out.size)).trans (HB45.out.mono (Nat.le_trans HB3.out.size HB4.out.size)))
  have HBC5 := Lib.hid (HB1.out.trans (HB5.out.mono HB1.out.size))
  have HS5 := Lib.hid (HOS.out.kept HB5.out)
  have HO5 := Lib.hid (HOO.out.kept HB5.out)
  have HWU5 : Hid (WinsAt W5 (some ⟨R0, 0, none⟩) n0 us0 ∧ WinsAt W5 (some ⟨R1, 0, none⟩) n1 us1) := Lib.hid ⟨HWU.out.1.kept HB45.out, HWU.out.2.1.kept HB45.out⟩
  have HR05 := Lib.hid (HR0.out.kept HB45.out)
  have HR15 := Lib.hid (HR1.out.kept HB45.out)
  have HCV5 := Lib.hid (HCV.out.kept HB45.out)
  obtain ⟨E, HE⟩ : ∃ E, Hid ((md == me && wsEq ws0 zs0 && wsEq ws1 zs1) = E) := ⟨_, Lib.hid rfl⟩
  have HE' : Hid ((me == md && wsEq zs0 ws0 && wsEq zs1 ws1) = E) := Lib.hid (by rw [← HE.out, beq_sym me md, wsEq_sym zs0, wsEq_sym zs1])
  clear HR0 HR1 HCV HB4 HB45 HOS HOO HOS3 HBC3
  have hdr : Below W5.heap.size W5 W5.drew := bel_drew W5
  have HZ : Hid (∀ z : Kin W5.drew, Obj1 z.world gs 25 #[.int .i64 md, .slice A0 n0 c0, .slice A1 n1 c1] ∧ Obj1 z.world (gs + 1) 25 #[.int .i64 me, .slice B0 m0 e0, .slice B1 m1 e1] ∧ Obj1 z.world gc 25 #[.int .i64 md, .slice (some ⟨R0, 0, none⟩) n0 n0, .slice (some ⟨R1, 0, none⟩) n1 n1]) := Lib.hid (fun z => ⟨HS5.out.kept (hdr.trans z.below), HO5.out.kept (hdr.trans z.below), HOC.out.kept (hdr.trans z.below)⟩)
  have Zgs0 : ∀ z : Kin W5.drew, z.world.cell? ⟨gs, 0, none⟩ = some (.int .i64 md) := fun z => (HZ.out z).1.cell 0
  have Zgs1 : ∀ z : Kin W5.drew, z.world.cell? ⟨gs, 1, none⟩ = some (.slice A0 n0 c0) := fun z => (HZ.out z).1.cell 1
  have Zgs2 : ∀ z : Kin W5.drew, z.world.cell? ⟨gs, 2, none⟩ = some (.slice A1 n1 c1) := fun z => (HZ.out z).1.cell 2
  have Zgo0 : ∀ z : Kin W5.drew, z.world.cell? ⟨gs + 1, 0, none⟩ = some (.int .i64 me) := fun z => (HZ.out z).2.1.cell 0
  have Zgo1 : ∀ z : Kin W5.drew, z.world.cell? ⟨gs + 1, 1, none⟩ = some (.slice B0 m0 e0) := fun z => (HZ.out z).2.1.cell 1
  have Zgo2 : ∀ z : Kin W5.drew, z.world.cell? ⟨gs + 1, 2, none⟩ = some (.slice B1 m1 e1) := fun z => (HZ.out z).2.1.cell 2
  have Zgc0 : ∀ z : Kin W5.drew, z.world.cell? ⟨gc, 0, none⟩ = some (.int .i64 md) := fun z => (HZ.out z).2.2.cell 0
  have Zgc1 : ∀ z : Kin W5.drew, z.world.cell? ⟨gc, 1, none⟩ = some (.slice (some ⟨R0, 0, none⟩) n0 n0) := fun z => (HZ.out z).2.2.cell 1
  have Zgc2 : ∀ z : Kin W5.drew, z.world.cell? ⟨gc, 2, none⟩ = some (.slice (some ⟨R1, 0, none⟩) n1 n1) := fun z => (HZ.out z).2.2.cell 2
  have HQ1 : Hid (∀ z : Kin W5.drew, Calls Try.prog 20 #[(.agg #[.int .i64 md, .slice A0 n0 c0, .slice A1 n1 c1]), (.agg #[.int .i64 md, .slice (some ⟨R0, 0, none⟩) n0 n0, .slice (some ⟨R1, 0, none⟩) n1 n1])] z.world fun e w' => e = .returned (.bool true) ∧ Below z.world.heap.size z.world w') := Lib.hid (fun z => by
    have ha := HA.out z.world (HBC5.out.trans ((hdr.trans z.below).mono HBC5.out.size))
    exact same_x md A0 n0 c0 A1 n1 c1 ws0 ws1 md _ n0 n0 _ n1 n1 us0 us1 z.world ha.1 ha.2.1 HF0.out HF1.out (HWU5.out.1.kept (hdr.trans z.below)) (HWU5.out.2.kept (hdr.trans z.below)) HWU.out.2.2.1 HWU.out.2.2.2 true (by rw [HEQ.out.1, HEQ.out.2]; simp))
  have HQ2 : Hid (∀ z : Kin W5.drew, Calls Try.prog 20 #[(.agg #[.int .i64 md, .slice (some ⟨R0, 0, none⟩) n0 n0, .slice (some ⟨R1, 0, none⟩) n1 n1]), (.agg #[.int .i64 md, .slice A0 n0 c0, .slice A1 n1 c1])] z.world fun e w' => e = .returned (.bool true) ∧ Below z.world.heap.size z.world w') := Lib.hid (fun z => by
    have ha := HA.out z.world (HBC5.out.trans ((hdr.trans z.below).mono HBC5.out.size))
    exact same_x md _ n0 n0 _ n1 n1 us0 us1 md A0 n0 c0 A1 n1 c1 ws0 ws1 z.world (HWU5.out.1.kept (hdr.trans z.below)) (HWU5.out.2.kept (hdr.trans z.below)) HWU.out.2.2.1 HWU.out.2.2.2 ha.1 ha.2.1 HF0.out HF1.out true (by rw [wsEq_sym us0, wsEq_sym us1, HEQ.out.1, HEQ.out.2]; simp))
  have HQ3 : Hid (∀ z : Kin W5.drew, Calls Try.prog 20 #[(.agg #[.int .i64 md, .slice A0 n0 c0, .slice A1 n1 c1]), (.agg #[.int .i64 me, .slice B0 m0 e0, .slice B1 m1 e1])] z.world fun e w' => e = .returned (.bool E) ∧ Below z.world.heap.size z.world w') := Lib.hid (fun z => by
    have ha := HA.out z.world (HBC5.out.trans ((hdr.trans z.below).mono HBC5.out.size))
    exact same_x md A0 n0 c0 A1 n1 c1 ws0 ws1 me B0 m0 e0 B1 m1 e1 zs0 zs1 z.world ha.1 ha.2.1 HF0.out HF1.out ha.2.2.1 ha.2.2.2 HE0.out HE1.out E HE.out)
  have HQ4 : Hid (∀ z : Kin W5.drew, Calls Try.prog 20 #[(.agg #[.int .i64 me, .slice B0 m0 e0, .slice B1 m1 e1]), (.agg #[.int .i64 md, .slice A0 n0 c0, .slice A1 n1 c1])] z.world fun e w' => e = .returned (.bool E) ∧ Below z.world.heap.size z.world w') := Lib.hid (fun z => by
    have ha := HA.out z.world (HBC5.out.trans ((hdr.trans z.below).mono HBC5.out.size))
    exact same_x me B0 m0 e0 B1 m1 e1 zs0 zs1 md A0 n0 c0 A1 n1 c1 ws0 ws1 z.world ha.2.2.1 ha.2.2.2 HE0.out HE1.out ha.1 ha.2.1 HF0.out HF1.out E HE'.out)
  refine wp_region_specL 19 [.d (.agg #[.int .i64 md, .slice A0 n0 c0, .slice A1 n1 c1]), .d (.agg #[.int .i64 md, .slice (some ⟨R0, 0, none⟩) n0 n0, .slice (some ⟨R1, 0, none⟩) n1 n1]), .d (.bool true), .d (.bool false), .d (.bool false), .d (.agg #[.int .i64 md, .slice (some ⟨R0, 0, none⟩) n0 n0, .slice (some ⟨R1, 0, none⟩) n1 n1]), .d (.agg #[.int .i64 md, .slice A0 n0 c0, .slice A1 n1 c1]), .d (.bool true), .d (.bool false), .d (.bool false), .d (.bool false), .d (.agg #[.int .i64 md, .slice A0 n0 c0, .slice A1 n1 c1]), .d (.agg #[.int .i64 me, .slice B0 m0 e0, .slice B1 m1 e1]), .d (.bool E), .d (.agg #[.int .i64 me, .slice B0 m0 e0, .slice B1 m1 e1]), .d (.agg #[.int .i64 md, .slice A0 n0 c0, .slice A1 n1 c1]), .d (.bool E), .d (.bool false), .d (.bool false)] (by kernel_rfl) (by kernel_rfl) ?_
  refine spec_d rfl (fun x _ => gives_run (by go_simp)) ?_
  try simp only [Act.put, List.getElem_toArray, List.getElem_cons_succ, List.getElem_cons_zero, List.setIfInBounds_toArray, List.set_cons_zero, List.set_cons_succ]
  refine spec_d rfl (fun x _ => gives_run (by go_simp)) ?_
  try simp only [Act.put, List.getElem_toArray, List.getElem_cons_succ, List.getElem_cons_zero, List.setIfInBounds_toArray, List.set_cons_zero, List.set_cons_succ]
  refine spec_d rfl (fun z _ => gives_det (by go_simp) (HQ1.out z)) ?_
  try simp only [Act.put, List.getElem_toArray, List.getElem_cons_succ, List.getElem_cons_zero, List.setIfInBounds_toArray, List.set_cons_zero, List.set_cons_succ]
  refine spec_d rfl (fun x _ => gives_run (by go_simp)) ?_
  try simp only [Act.put, List.getElem_toArray, List.getElem_cons_succ, List.getElem_cons_zero, List.setIfInBounds_toArray, List.set_cons_zero, List.set_cons_succ]
  refine spec_d rfl (fun x _ => gives_run (by go_simp)) ?_
  try simp only [Act.put, List.getElem_toArray, List.getElem_cons_succ, List.getElem_cons_zero, List.setIfInBounds_toArray, List.set_cons_zero, List.set_cons_succ]
  refine spec_d rfl (fun x _ => gives_run (by go_simp)) ?_
  try simp only [Act.put, List.getElem_toArray, List.getElem_cons_succ, List.getElem_cons_zero, List.setIfInBounds_toArray, List.set_cons_zero, List.set_cons_succ]
  refine spec_d rfl (fun x _ => gives_run (by go_simp)) ?_
  try simp only [Act.put, List.getElem_toArray, List.getElem_cons_succ, List.getElem_cons_zero, List.setIfInBounds_toArray, List.set_cons_zero, List.set_cons_succ]
  refine spec_d rfl (fun z _ => gives_det (by go_simp) (HQ2.out z)) ?_
  try simp only [Act.put, List.getElem_toArray, List.getElem_cons_succ, List.getElem_cons_zero, List.setIfInBounds_toArray, List.set_cons_zero, List.set_cons_succ]
  refine spec_d rfl (fun x _ => gives_run (by go_simp)) ?_
  try simp only [Act.put, List.getElem_toArray, List.getElem_cons_succ, List.getElem_cons_zero, List.setIfInBounds_toArray, List.set_cons_zero, List.set_cons_succ]
  refine spec_d rfl (fun x _ => gives_run (by go_simp)) ?_
  try simp only [Act.put, List.getElem_toArray, List.getElem_cons_succ, List.getElem_cons_zero, List.setIfInBounds_toArray, List.set_cons_zero, List.set_cons_succ]
  refine spec_d rfl (fun x _ => gives_run (by go_simp)) ?_
  try simp only [Act.put, List.getElem_toArray, List.getElem_cons_succ, List.getElem_cons_zero, List.setIfInBounds_toArray, List.set_cons_zero, List.set_cons_succ]
  refine spec_d rfl (fun x _ => gives_run (by go_simp)) ?_
  try simp only [Act.put, List.getElem_toArray, List.getElem_cons_succ, List.getElem_cons_zero, List.setIfInBounds_toArray, List.set_cons_zero, List.set_cons_succ]
  refine spec_d rfl (fun x _ => gives_run (by go_simp)) ?_
  try simp only [Act.put, List.getElem_toArray, List.getElem_cons_succ, List.getElem_cons_zero, List.setIfInBounds_toArray, List.set_cons_zero, List.set_cons_succ]
  refine spec_d rfl (fun z _ => gives_det (by go_simp) (HQ3.out z)) ?_
  try simp only [Act.put, List.getElem_toArray, List.getElem_cons_succ, List.getElem_cons_zero, List.setIfInBounds_toArray, List.set_cons_zero, List.set_cons_succ]
  refine spec_d rfl (fun x _ => gives_run (by go_simp)) ?_
  try simp only [Act.put, List.getElem_toArray, List.getElem_cons_succ, List.getElem_cons_zero, List.setIfInBounds_toArray, List.set_cons_zero, List.set_cons_succ]
  refine spec_d rfl (fun x _ => gives_run (by go_simp)) ?_
  try simp only [Act.put, List.getElem_toArray, List.getElem_cons_succ, List.getElem_cons_zero, List.setIfInBounds_toArray, List.set_cons_zero, List.set_cons_succ]
  refine spec_d rfl (fun z _ => gives_det (by go_simp) (HQ4.out z)) ?_
  try simp only [Act.put, List.getElem_toArray, List.getElem_cons_succ, List.getElem_cons_zero, List.setIfInBounds_toArray, List.set_cons_zero, List.set_cons_succ]
  refine spec_d rfl (fun x _ => gives_run (by go_simp)) ?_
  try simp only [Act.put, List.getElem_toArray, List.getElem_cons_succ, List.getElem_cons_zero, List.setIfInBounds_toArray, List.set_cons_zero, List.set_cons_succ]
  refine spec_d rfl (fun x _ => gives_run (by go_simp)) ?_
  try simp only [Act.put, List.getElem_toArray, List.getElem_cons_succ, List.getElem_cons_zero, List.setIfInBounds_toArray, List.set_cons_zero, List.set_cons_succ]
  refine spec_end (fun z hz => ?_)
  clear hz
  refine wpAny_done (by kernel_rfl) ?_ _
  have HB6 := Lib.hid (hdr.trans z.below)
  clear Zgs0 Zgs1 Zgs2 Zgo0 Zgo1 Zgo2 Zgc0 Zgc1 Zgc2 hdr HZ HQ1 HQ2 HQ3 HQ4 HE HE' HO5
  generalize z.world = w6 at HB6 ⊢
  clear z
  have HBC6 := Lib.hid (HBC5.out.trans (HB6.out.mono HBC5.out.size))
  have HS6 := Lib.hid (HS5.out.kept HB6.out)
  have HC6 := Lib.hid (HOC.out.kept HB6.out)
  have HU6 : Hid (WinsAt w6 (some ⟨R0, 0, none⟩) n0 us0 ∧ WinsAt w6 (some ⟨R1, 0, none⟩) n1 us1) := Lib.hid ⟨HWU5.out.1.kept HB6.out, HWU5.out.2.kept HB6.out⟩
  have HRV6 := Lib.hid (HR15.out.kept HB6.out)
  have HCV6 := Lib.hid (HCV5.out.kept HB6.out)
  clear HS5 HOC HWU5 HR05 HR15 HCV5 HB5 HBC5 HB6
  have cc1 := HC6.out.cell 2
  simp at cc1
  by_cases hz : n1 = 0
  · have hzi : ¬ (0 : Int) < (n1 : Int) := by omega
    go_wp2_with fail
    refine (one_any _).mono ?_
    rintro e w9 ⟨rfl, hb9⟩
    have HB9 := Lib.hid (HBC6.out.trans (hb9.mono HBC6.out.size))
    clear hb9
    go_wp2
    go_ret
    exact ⟨rfl, HB9.out⟩
  have hzi : (0 : Int) < (n1 : Int) := by omega
  have hn60 : n1 ≤ 60 := HF1.out.1
  obtain ⟨yi, y0, y1', hy'⟩ := and_mask (pl / 2) 255 (by omega)
  have hy : Go.bits BinOp.and IntKind.i64 (pl / 2) 255 = yi := hy'
  have y1 : yi ≤ 255 := y1'
  obtain ⟨yn, rfl⟩ : ∃ k : Nat, yi = k := ⟨yi.toNat, by omega⟩
  obtain ⟨k, HKE⟩ : ∃ k, Hid (yn % n1 = k) := ⟨_, Lib.hid rfl⟩
  have hrem : (yn : Int).tmod (n1 : Int) = (k : Int) := by rw [Int.tmod_eq_emod_of_nonneg (by omega), ← HKE.out]; omega
  have hkn : k < n1 := by rw [← HKE.out]; exact Nat.mod_lt _ (by omega)
  have hki : (k : Int) < (n1 : Int) := by omega
  have hzb : ((n1 : Int) == 0) = false := by simp; omega
  have hzn : ¬ (n1 : Int) = 0 := by omega
  clear hy' y1'
  have hlv : us1.length = n1 := HU6.out.2.len
  obtain ⟨x, hx⟩ : ∃ x, us1[k]? = some x := ⟨_, List.getElem?_eq_getElem (by rw [hlv]; exact hkn)⟩
  obtain ⟨zz, ca, cb, hzz, hxe, hca0, hca1, hcb0, hcb1, _, hcbo⟩ := HCV6.out.2 k x hx
  have HX := Lib.hid hx
  have HZZ := Lib.hid hzz
  have HXE := Lib.hid hxe
  have HCBO := Lib.hid hcbo
  have HCB := Lib.hid (show cb ≠ R0 ∧ cb ≠ R1 ∧ gs + 1 < cb ∧ cb ≠ gc from ⟨by omega, by omega, by omega, by have := HGC.out; omega⟩)
  obtain ⟨_, _, eR, _, k0, k1, k2, k3, k4, k5, _⟩ := HU6.out.2.six hkn hx
  injection eR with eR
  injection eR with eR1 eR2
  subst eR1 eR2
  rw [Nat.zero_add] at k3
  have f3 := HRV6.out.free (k * 6 + 3)
  have lR := HRV6.out.lt
  clear k0 k1 k2 k4 k5 hx hzz hxe hcbo hca0 hca1 hcb0 hcb1
  obtain ⟨X, HXX⟩ : ∃ X, Hid (Go.bits BinOp.xor IntKind.i64 x.ad 1 = X) := ⟨_, Lib.hid rfl⟩
  have hxor := HXX.out
  have HXN : Hid (X ≠ x.ad) := Lib.hid (by rw [← HXX.out]; exact xor_ne _)
  have hRne : R0 ≠ R1 := by omega
  have HRL := Lib.hid (show w.heap.size ≤ R1 ∧ gs ≠ R1 ∧ gs + 1 ≠ R1 ∧ gc ≠ R1 from ⟨by have := HGS.out; omega, by omega, by omega, by omega⟩)
  go_upto_region 10 with (fail)
  clear cc1 k3 f3 lR hxor hy hrem
  obtain ⟨v0, hv0, hvl0, hvw0⟩ := wins_int HU6.out.1 R1 (k * 6 + 3) X (.inl (by omega))
  obtain ⟨v1, hv1, hvl1, hvw1⟩ := wins_int HU6.out.2 R1 (k * 6 + 3) X (.inr ⟨k, hkn, rfl⟩)
  have HW7 := Lib.hid ((Wrote.refl R1 w6).set (p := ⟨R1, k * 6 + 3, none⟩) (.inl rfl) (.int .i64 X))
  have HRV7 := Lib.hid (HRV6.out.set (k * 6 + 3) (.int .i64 X))
  have HV7 := Lib.hid (show WinsAt (w6.setCell ⟨R1, k * 6 + 3, none⟩ (.int .i64 X)) (some ⟨R0, 0, none⟩) n0 v0 ∧ WinsAt (w6.setCell ⟨R1, k * 6 + 3, none⟩ (.int .i64 X)) (some ⟨R1, 0, none⟩) n1 v1 from ⟨hv0, hv1⟩)
  have HVF := Lib.hid (show FewW n0 v0 ∧ FewW n1 v1 from ⟨few_of HWU.out.2.2.1 hvl0 hvw0, few_of HWU.out.2.2.2 hvl1 hvw1⟩)
  generalize w6.setCell ⟨R1, k * 6 + 3, none⟩ (.int .i64 X) = w7 at hv0 hv1 HW7 HRV7 HV7 ⊢
  obtain ⟨x7, hx7⟩ := at_of HX.out hvl1
  have hw7 := hvw1 k x x7 HX.out hx7
  have HX7 := Lib.hid hx7
  have HW7R := Lib.hid hw7
  have HXZ : Hid (x.ad = zz.ad ∧ x.B = some ⟨cb, 0, none⟩ ∧ x.m = zz.m ∧ x.ts = zz.ts) := Lib.hid (by rw [HXE.out]; exact ⟨rfl, rfl, rfl, rfl⟩)
  have HN7 : Hid (wsEq ws1 v1 = false) := Lib.hid (ne_ad HZZ.out hx7 (by rw [hw7.2.2.2.2.2.2.1 ⟨rfl, rfl⟩, ← HXZ.out.1]; exact HXN.out))
  have HBC7 := Lib.hid (HBC6.out.trans (HW7.out.below HRL.out.1 HBC6.out.size))
  have HS7 := Lib.hid (HS6.out.touch HW7.out HRL.out.2.1)
  have HC7 := Lib.hid (HC6.out.touch HW7.out HRL.out.2.2.2)
  have HCB7 := Lib.hid (HCBO.out.touch HW7.out HCB.out.2.1)
  have HSF := Lib.hid (same_x md A0 n0 c0 A1 n1 c1 ws0 ws1 md (some ⟨R0, 0, none⟩) n0 n0 (some ⟨R1, 0, none⟩) n1 n1 v0 v1 w7 (HA.out w7 HBC7.out).1 (HA.out w7 HBC7.out).2.1 HF0.out HF1.out HV7.out.1 HV7.out.2 HVF.out.1 HVF.out.2 false (by rw [HN7.out]; simp))
  have s0 := HS7.out.cell 0
  have s1 := HS7.out.cell 1
  have s2 := HS7.out.cell 2
  have t0 := HC7.out.cell 0
  have t1 := HC7.out.cell 1
  have t2 := HC7.out.cell 2
  simp at s0 s1 s2 t0 t1 t2
  clear hv0 hv1 hvl0 hvl1 hvw0 hvw1 hx7 hw7 HU6 HW7 HS6 HC6 HBC6 HRV6 HCBO
  go_wp2_with fail
  refine HSF.out.mono ?_
  rintro e w8 ⟨rfl, hb8⟩
  have HV8 := Lib.hid (show WinsAt w8 (some ⟨R0, 0, none⟩) n0 v0 ∧ WinsAt w8 (some ⟨R1, 0, none⟩) n1 v1 from ⟨HV7.out.1.kept hb8, HV7.out.2.kept hb8⟩)
  have HRV8 := Lib.hid (HRV7.out.kept hb8)
  have HS8 := Lib.hid (HS7.out.kept hb8)
  have HC8 := Lib.hid (HC7.out.kept hb8)
  have HCB8 := Lib.hid (HCB7.out.kept hb8)
  have HBC8 := Lib.hid (HBC7.out.trans (hb8.mono HBC7.out.size))
  clear s0 s1 s2 t0 t1 t2 hb8 HSF HV7 HRV7 HS7 HC7 HCB7 HBC7
  obtain ⟨_, _, eR, _, k0, k1, k2, k3, k4, k5, _⟩ := HV8.out.2.six hkn HX7.out
  injection eR with eR
  injection eR with eR1 eR2
  subst eR1 eR2
  rw [Nat.zero_add] at k3
  have f3 := HRV8.out.free (k * 6 + 3)
  have lR := HRV8.out.lt
  clear k0 k1 k2 k4 k5
  obtain ⟨X2, HX2⟩ : ∃ X, Hid (Go.bits BinOp.xor IntKind.i64 x7.ad 1 = X) := ⟨_, Lib.hid rfl⟩
  have hxor := HX2.out
  go_upto_region 13 with (fail)
  clear k3 f3 lR hxor
  obtain ⟨u0, hv0, hvl0, hvw0⟩ := wins_int HV8.out.1 R1 (k * 6 + 3) X2 (.inl (by omega))
  obtain ⟨u1, hv1, hvl1, hvw1⟩ := wins_int HV8.out.2 R1 (k * 6 + 3) X2 (.inr ⟨k, hkn, rfl⟩)
  have HW9 := Lib.hid ((Wrote.refl R1 w8).set (p := ⟨R1, k * 6 + 3, none⟩) (.inl rfl) (.int .i64 X2))
  have HV9 := Lib.hid (show WinsAt (w8.setCell ⟨R1, k * 6 + 3, none⟩ (.int .i64 X2)) (some ⟨R0, 0, none⟩) n0 u0 ∧ WinsAt (w8.setCell ⟨R1, k * 6 + 3, none⟩ (.int .i64 X2)) (some ⟨R1, 0, none⟩) n1 u1 from ⟨hv0, hv1⟩)
  have HUF := Lib.hid (show FewW n0 u0 ∧ FewW n1 u1 from ⟨few_of HVF.out.1 hvl0 hvw0, few_of HVF.out.2 hvl1 hvw1⟩)
  generalize w8.setCell ⟨R1, k * 6 + 3, none⟩ (.int .i64 X2) = w9 at hv0 hv1 HW9 HV9 ⊢
  obtain ⟨x9, hx9⟩ := at_of HX7.out hvl1
  have hw9 := hvw1 k x7 x9 HX7.out hx9
  have HX9 := Lib.hid hx9
  have HBC9 := Lib.hid (HBC8.out.trans (HW9.out.below HRL.out.1 HBC8.out.size))
  have HS9 := Lib.hid (HS8.out.touch HW9.out HRL.out.2.1)
  have HC9 := Lib.hid (HC8.out.touch HW9.out HRL.out.2.2.2)
  have HCB9 := Lib.hid (HCB8.out.touch HW9.out HCB.out.2.1)
  have HZ9 : Hid (x9.B = some ⟨cb, 0, none⟩ ∧ x9.m = zz.m ∧ x9.ts = zz.ts) := Lib.hid (by
    have w7 := HW7R.out
    have b7 : x7.B = some ⟨cb, 0, none⟩ := w7.2.2.2.2.2.1.trans HXZ.out.2.1
    have t7 : x7.ts = zz.ts := (w7.2.2.2.2.2.2.2.2 cb 0 HXZ.out.2.1 HCB.out.2.1).trans HXZ.out.2.2.2
    exact ⟨hw9.2.2.2.2.2.1.trans b7, (hw9.2.1.trans w7.2.1).trans HXZ.out.2.2.1, (hw9.2.2.2.2.2.2.2.2 cb 0 b7 HCB.out.2.1).trans t7⟩)
  clear hv0 hv1 hvl0 hvl1 hvw0 hvw1 hx9 hw9 HV8 HW9 HS8 HC8 HCB8 HBC8 HRV8
  obtain ⟨_, _, eR, _, k0, k1, k2, k3, k4, k5, _⟩ := HV9.out.2.six hkn HX9.out
  injection eR with eR
  injection eR with eR1 eR2
  subst eR1 eR2
  rw [Nat.zero_add, HZ9.out.1, HZ9.out.2.1] at k5
  clear k0 k1 k2 k3 k4
  obtain ⟨mm, HMM⟩ : ∃ m, Hid (zz.m = m) := ⟨_, Lib.hid rfl⟩
  rw [HMM.out] at k5
  obtain ⟨dd, HDD⟩ : ∃ d, Hid (x9.d = d) := ⟨_, Lib.hid rfl⟩
  rw [HDD.out] at k5
  by_cases hm0 : mm = 0
  · have hmi : ¬ (0 : Int) < (mm : Int) := by omega
    go_wp2_with fail
    refine (one_any _).mono ?_
    rintro e wl ⟨rfl, hbl⟩
    have HBL := Lib.hid (HBC9.out.trans (hbl.mono HBC9.out.size))
    clear hbl
    go_wp2
    go_ret
    exact ⟨rfl, HBL.out⟩
  have hmi : (0 : Int) < (mm : Int) := by omega
  have hmz : 0 < mm := by omega
  obtain ⟨sb, so, rfl, hsb, j0, j1, j2, j3, j4, j5, hzok⟩ := (HA.out w (Below.refl _ _)).2.1.six hkn HZZ.out
  have HZK := Lib.hid hzok
  have hztl : zz.ts.length = mm := by have := hzok.tl.1; simp at this; rw [this, HMM.out]
  obtain ⟨q0, hq0⟩ : ∃ q, zz.ts[0]? = some q := ⟨_, List.getElem?_eq_getElem (by omega)⟩
  obtain ⟨tb, toff, htB, htlt, htc⟩ := hzok.tl.2 (by rw [HMM.out]; exact hmz)
  have ht0 := htc 0 (by rw [HMM.out]; exact hmz)
  rw [List.getElem?_map, hq0, Nat.add_zero] at ht0
  rw [htB, HMM.out] at j5
  obtain ⟨dz, HDZ⟩ : ∃ d, Hid (zz.d = d) := ⟨_, Lib.hid rfl⟩
  rw [HDZ.out] at j5
  have HQ0 := Lib.hid hq0
  have HSRC : Hid (∀ W, Below w.heap.size w W → W.cell? ⟨sb, so + k * 6 + 5, none⟩ = some (.slice (some ⟨tb, toff, none⟩) mm dz) ∧ W.cell? ⟨tb, toff, none⟩ = some (.int .i64 q0)) := Lib.hid (fun W hW => ⟨(hW.cell (p := ⟨sb, so + k * 6 + 5, none⟩) hsb).trans j5, (hW.cell (p := ⟨tb, toff, none⟩) htlt).trans ht0⟩)
  have cq : w9.cell? ⟨cb, 0, none⟩ = some (.int .i64 q0) := by
    rw [HCB9.out.cell, List.getElem?_toArray, List.getElem?_map, hq0]
    rfl
  obtain ⟨X3, HX3⟩ : ∃ X, Hid (Go.bits BinOp.xor IntKind.i64 q0 1 = X) := ⟨_, Lib.hid rfl⟩
  have hxor := HX3.out
  have HX3N : Hid (X3 ≠ q0) := Lib.hid (by rw [← HX3.out]; exact xor_ne _)
  clear j0 j1 j2 j3 j4 j5 hzok hztl hq0 htB htlt htc ht0 hsb
  go_upto_region 14 with (fail)
  have hdr : Below w9.heap.size w9 w9.drew := bel_drew w9
  have K5 : ∀ z : Kin w9.drew, z.world.cell? ⟨R1, k * 6 + 5, none⟩ = some (.slice (some ⟨cb, 0, none⟩) mm dd) := fun z => Kin.at (w := w9.drew) k5 z
  have KQ : ∀ z : Kin w9.drew, z.world.cell? ⟨cb, 0, none⟩ = some (.int .i64 q0) := fun z => Kin.at (w := w9.drew) cq z
  refine wp_region_specL 14 [.d (.slice (some ⟨R1, 0, none⟩) n1 n1), .d (.int .i64 k), .d (.pointer (some ⟨R1, k * 6, none⟩)), .d (.pointer (some ⟨R1, k * 6 + 5, none⟩)), .d (.slice (some ⟨cb, 0, none⟩) mm dd), .d (.slice (some ⟨R1, 0, none⟩) n1 n1), .d (.int .i64 k), .d (.pointer (some ⟨R1, k * 6, none⟩)), .d (.pointer (some ⟨R1, k * 6 + 5, none⟩)), .d (.slice (some ⟨cb, 0, none⟩) mm dd), .d (.pointer (some ⟨cb, 0, none⟩)), .d (.int .i64 q0), .d (.int .i64 X3), .d (.pointer (some ⟨cb, 0, none⟩))] (by kernel_rfl) (by kernel_rfl) ?_
  refine spec_d rfl (fun x _ => gives_run (by go_simp)) ?_
  try simp only [Act.put, List.getElem_toArray, List.getElem_cons_succ, List.getElem_cons_zero, List.setIfInBounds_toArray, List.set_cons_zero, List.set_cons_succ]
  refine spec_d rfl (fun x _ => gives_run (by go_simp)) ?_
  try simp only [Act.put, List.getElem_toArray, List.getElem_cons_succ, List.getElem_cons_zero, List.setIfInBounds_toArray, List.set_cons_zero, List.set_cons_succ]
  refine spec_d rfl (fun x _ => gives_run (by go_simp)) ?_
  try simp only [Act.put, List.getElem_toArray, List.getElem_cons_succ, List.getElem_cons_zero, List.setIfInBounds_toArray, List.set_cons_zero, List.set_cons_succ]
  refine spec_d rfl (fun x _ => gives_run (by go_simp)) ?_
  try simp only [Act.put, List.getElem_toArray, List.getElem_cons_succ, List.getElem_cons_zero, List.setIfInBounds_toArray, List.set_cons_zero, List.set_cons_succ]
  refine spec_d rfl (fun x _ => gives_run (by go_simp)) ?_
  try simp only [Act.put, List.getElem_toArray, List.getElem_cons_succ, List.getElem_cons_zero, List.setIfInBounds_toArray, List.set_cons_zero, List.set_cons_succ]
  refine spec_d rfl (fun x _ => gives_run (by go_simp)) ?_
  try simp only [Act.put, List.getElem_toArray, List.getElem_cons_succ, List.getElem_cons_zero, List.setIfInBounds_toArray, List.set_cons_zero, List.set_cons_succ]
  refine spec_d rfl (fun x _ => gives_run (by go_simp)) ?_
  try simp only [Act.put, List.getElem_toArray, List.getElem_cons_succ, List.getElem_cons_zero, List.setIfInBounds_toArray, List.set_cons_zero, List.set_cons_succ]
  refine spec_d rfl (fun x _ => gives_run (by go_simp)) ?_
  try simp only [Act.put, List.getElem_toArray, List.getElem_cons_succ, List.getElem_cons_zero, List.setIfInBounds_toArray, List.set_cons_zero, List.set_cons_succ]
  refine spec_d rfl (fun x _ => gives_run (by go_simp)) ?_
  try simp only [Act.put, List.getElem_toArray, List.getElem_cons_succ, List.getElem_cons_zero, List.setIfInBounds_toArray, List.set_cons_zero, List.set_cons_succ]
  refine spec_d rfl (fun x _ => gives_run (by go_simp)) ?_
  try simp only [Act.put, List.getElem_toArray, List.getElem_cons_succ, List.getElem_cons_zero, List.setIfInBounds_toArray, List.set_cons_zero, List.set_cons_succ]
  refine spec_d rfl (fun x _ => gives_run (by go_simp)) ?_
  try simp only [Act.put, List.getElem_toArray, List.getElem_cons_succ, List.getElem_cons_zero, List.setIfInBounds_toArray, List.set_cons_zero, List.set_cons_succ]
  refine spec_d rfl (fun x _ => gives_run (by go_simp)) ?_
  try simp only [Act.put, List.getElem_toArray, List.getElem_cons_succ, List.getElem_cons_zero, List.setIfInBounds_toArray, List.set_cons_zero, List.set_cons_succ]
  refine spec_d rfl (fun x _ => gives_run (by go_simp)) ?_
  try simp only [Act.put, List.getElem_toArray, List.getElem_cons_succ, List.getElem_cons_zero, List.setIfInBounds_toArray, List.set_cons_zero, List.set_cons_succ]
  refine spec_d rfl (fun x _ => gives_run (by go_simp)) ?_
  try simp only [Act.put, List.getElem_toArray, List.getElem_cons_succ, List.getElem_cons_zero, List.setIfInBounds_toArray, List.set_cons_zero, List.set_cons_succ]
  refine spec_end (fun z hz => ?_)
  clear hz
  have hbx := hdr.trans z.below
  have HV10 := Lib.hid (show WinsAt z.world (some ⟨R0, 0, none⟩) n0 u0 ∧ WinsAt z.world (some ⟨R1, 0, none⟩) n1 u1 from ⟨HV9.out.1.kept hbx, HV9.out.2.kept hbx⟩)
  have HS10 := Lib.hid (HS9.out.kept hbx)
  have HC10 := Lib.hid (HC9.out.kept hbx)
  have HCB10 := Lib.hid (HCB9.out.kept hbx)
  have HBC10 := Lib.hid (HBC9.out.trans (hbx.mono HBC9.out.size))
  have cq2 := KQ z
  clear K5 KQ hdr hbx cq k5 hxor
  generalize z.world = wz at HV10 HS10 HC10 HCB10 HBC10 cq2 ⊢
  clear z
  have fq := HCB10.out.free 0
  change wpAny _ _ _ _ (0 + 1) _ _ _
  refine wpAny_ready (rs := [14]) (by kernel_rfl) (by simp) ?_
  refine AllReady.cons rfl (fun KK hK => ?_) AllReady.nil
  go_simp
  refine hK _ _ ?_
  clear hK KK
  refine wpAny_done (by kernel_rfl) ?_ _
  clear fq
  obtain ⟨y0, hv0, hvl0, hvw0⟩ := wins_int HV10.out.1 cb 0 X3 (.inl HCB.out.1)
  obtain ⟨y1, hv1, hvl1, hvw1⟩ := wins_int HV10.out.2 cb 0 X3 (.inl HCB.out.2.1)
  have HW11 := Lib.hid ((Wrote.refl cb wz).set (p := ⟨cb, 0, none⟩) (.inl rfl) (.int .i64 X3))
  have HCB11 := Lib.hid (HCB10.out.set 0 (.int .i64 X3))
  have HV11 := Lib.hid (show WinsAt (wz.setCell ⟨cb, 0, none⟩ (.int .i64 X3)) (some ⟨R0, 0, none⟩) n0 y0 ∧ WinsAt (wz.setCell ⟨cb, 0, none⟩ (.int .i64 X3)) (some ⟨R1, 0, none⟩) n1 y1 from ⟨hv0, hv1⟩)
  have HYF := Lib.hid (show FewW n0 y0 ∧ FewW n1 y1 from ⟨few_of HUF.out.1 hvl0 hvw0, few_of HUF.out.2 hvl1 hvw1⟩)
  have cn : (wz.setCell ⟨cb, 0, none⟩ (.int .i64 X3)).cell? ⟨cb, 0, none⟩ = some (.int .i64 X3) := World.cell?_setCell_same _ _ _ cq2
  generalize wz.setCell ⟨cb, 0, none⟩ (.int .i64 X3) = w11 at hv0 hv1 HW11 HCB11 HV11 cn ⊢
  obtain ⟨xa, hxa⟩ := at_of HX9.out hvl1
  have hwa := hvw1 k x9 xa HX9.out hxa
  have HN11 : Hid (wsEq ws1 y1 = false) := Lib.hid (ne_ts HZZ.out hxa (fun e => by
    have h := hwa.2.2.2.2.2.2.2.1 HZ9.out.1 (by rw [HZ9.out.2.1, HMM.out]; exact hmz)
    rw [e, HQ0.out] at h
    exact HX3N.out (Option.some.inj h).symm))
  obtain ⟨_, _, eR, _, k0, k1, k2, k3, k4, k5, _⟩ := HV11.out.2.six hkn hxa
  injection eR with eR
  injection eR with eR1 eR2
  subst eR1 eR2
  rw [Nat.zero_add, hwa.2.2.2.2.2.1, HZ9.out.1, hwa.2.1, HZ9.out.2.1, HMM.out] at k5
  obtain ⟨da, HDA⟩ : ∃ d, Hid (xa.d = d) := ⟨_, Lib.hid rfl⟩
  rw [HDA.out] at k5
  have HBC11 := Lib.hid (HBC10.out.trans (HW11.out.below (by have := HCB.out.2.2.1; have := HGS.out; omega) HBC10.out.size))
  have HS11 := Lib.hid (HS10.out.touch HW11.out (by have := HCB.out.2.2.1; omega))
  have HC11 := Lib.hid (HC10.out.touch HW11.out (Ne.symm HCB.out.2.2.2))
  clear hv0 hv1 hvl0 hvl1 hvw0 hvw1 hxa hwa HV10 HW11 HS10 HC10 HCB10 HBC10 k0 k1 k2 k3 k4 HV9 HS9 HC9 HCB9 HBC9
  go_upto_region 15 with (fail)
  have hdr : Below w11.heap.size w11 w11.drew := bel_drew w11
  have HZW : Hid (∀ z : Kin w11.drew, Below w.heap.size w z.world) := Lib.hid (fun z => HBC11.out.trans ((hdr.trans z.below).mono HBC11.out.size))
  have Zs0 : ∀ z : Kin w11.drew, z.world.cell? ⟨gs, 0, none⟩ = some (.int .i64 md) := fun z => (HS11.out.kept (hdr.trans z.below)).cell 0
  have Zs1 : ∀ z : Kin w11.drew, z.world.cell? ⟨gs, 1, none⟩ = some (.slice A0 n0 c0) := fun z => (HS11.out.kept (hdr.trans z.below)).cell 1
  have Zs2 : ∀ z : Kin w11.drew, z.world.cell? ⟨gs, 2, none⟩ = some (.slice (some ⟨sb, so, none⟩) n1 c1) := fun z => (HS11.out.kept (hdr.trans z.below)).cell 2
  have Zc0 : ∀ z : Kin w11.drew, z.world.cell? ⟨gc, 0, none⟩ = some (.int .i64 md) := fun z => (HC11.out.kept (hdr.trans z.below)).cell 0
  have Zc1 : ∀ z : Kin w11.drew, z.world.cell? ⟨gc, 1, none⟩ = some (.slice (some ⟨R0, 0, none⟩) n0 n0) := fun z => (HC11.out.kept (hdr.trans z.below)).cell 1
  have Zc2 : ∀ z : Kin w11.drew, z.world.cell? ⟨gc, 2, none⟩ = some (.slice (some ⟨R1, 0, none⟩) n1 n1) := fun z => (HC11.out.kept (hdr.trans z.below)).cell 2
  have Zk : ∀ z : Kin w11.drew, z.world.cell? ⟨R1, k * 6 + 5, none⟩ = some (.slice (some ⟨cb, 0, none⟩) mm da) := fun z => Kin.at (w := w11.drew) k5 z
  have Zn : ∀ z : Kin w11.drew, z.world.cell? ⟨cb, 0, none⟩ = some (.int .i64 X3) := fun z => Kin.at (w := w11.drew) cn z
  have Zj : ∀ z : Kin w11.drew, z.world.cell? ⟨sb, so + k * 6 + 5, none⟩ = some (.slice (some ⟨tb, toff, none⟩) mm dz) := fun z => (HSRC.out z.world (HZW.out z)).1
  have Zt : ∀ z : Kin w11.drew, z.world.cell? ⟨tb, toff, none⟩ = some (.int .i64 q0) := fun z => (HSRC.out z.world (HZW.out z)).2
  have HQF : Hid (∀ z : Kin w11.drew, Calls Try.prog 20 #[(.agg #[.int .i64 md, .slice A0 n0 c0, .slice (some ⟨sb, so, none⟩) n1 c1]), (.agg #[.int .i64 md, .slice (some ⟨R0, 0, none⟩) n0 n0, .slice (some ⟨R1, 0, none⟩) n1 n1])] z.world fun e w' => e = .returned (.bool false) ∧ Below z.world.heap.size z.world w') := Lib.hid (fun z => by
    have ha := HA.out z.world (HZW.out z)
    exact same_x md A0 n0 c0 (some ⟨sb, so, none⟩) n1 c1 ws0 ws1 md _ n0 n0 _ n1 n1 y0 y1 z.world ha.1 ha.2.1 HF0.out HF1.out (HV11.out.1.kept (hdr.trans z.below)) (HV11.out.2.kept (hdr.trans z.below)) HYF.out.1 HYF.out.2 false (by rw [HN11.out]; simp))
  have hxf : (q0 == X3) = false := by have := HX3N.out; simp; exact fun h => this h.symm
  refine wp_region_specL 24 [.d (.agg #[.int .i64 md, .slice A0 n0 c0, .slice (some ⟨sb, so, none⟩) n1 c1]), .d (.agg #[.int .i64 md, .slice (some ⟨R0, 0, none⟩) n0 n0, .slice (some ⟨R1, 0, none⟩) n1 n1]), .d (.bool false), .d (.bool false), .d (.int .i64 pl), .d (.int .i64 1), .d (.pointer (some ⟨gs, 1, none⟩)), .d (.pointer (some ⟨gs, 2, none⟩)), .d (.slice (some ⟨sb, so, none⟩) n1 c1), .d (.int .i64 k), .d (.pointer (some ⟨sb, so + k * 6, none⟩)), .d (.pointer (some ⟨sb, so + k * 6 + 5, none⟩)), .d (.slice (some ⟨tb, toff, none⟩) mm dz), .d (.pointer (some ⟨tb, toff, none⟩)), .d (.int .i64 q0), .d (.slice (some ⟨R1, 0, none⟩) n1 n1), .d (.int .i64 k), .d (.pointer (some ⟨R1, k * 6, none⟩)), .d (.pointer (some ⟨R1, k * 6 + 5, none⟩)), .d (.slice (some ⟨cb, 0, none⟩) mm da), .d (.pointer (some ⟨cb, 0, none⟩)), .d (.int .i64 X3), .d (.bool false), .d (.bool false)] (by kernel_rfl) (by kernel_rfl) ?_
  refine spec_d rfl (fun x _ => gives_run (by go_simp)) ?_
  try simp only [Act.put, List.getElem_toArray, List.getElem_cons_succ, List.getElem_cons_zero, List.setIfInBounds_toArray, List.set_cons_zero, List.set_cons_succ]
  refine spec_d rfl (fun x _ => gives_run (by go_simp)) ?_
  try simp only [Act.put, List.getElem_toArray, List.getElem_cons_succ, List.getElem_cons_zero, List.setIfInBounds_toArray, List.set_cons_zero, List.set_cons_succ]
  refine spec_d rfl (fun z _ => gives_det (by go_simp) (HQF.out z)) ?_
  try simp only [Act.put, List.getElem_toArray, List.getElem_cons_succ, List.getElem_cons_zero, List.setIfInBounds_toArray, List.set_cons_zero, List.set_cons_succ]
  refine spec_d rfl (fun x _ => gives_run (by go_simp)) ?_
  try simp only [Act.put, List.getElem_toArray, List.getElem_cons_succ, List.getElem_cons_zero, List.setIfInBounds_toArray, List.set_cons_zero, List.set_cons_succ]
  refine spec_d rfl (fun x _ => gives_run (by go_simp)) ?_
  try simp only [Act.put, List.getElem_toArray, List.getElem_cons_succ, List.getElem_cons_zero, List.setIfInBounds_toArray, List.set_cons_zero, List.set_cons_succ]
  refine spec_d rfl (fun x _ => gives_run (by go_simp)) ?_
  try simp only [Act.put, List.getElem_toArray, List.getElem_cons_succ, List.getElem_cons_zero, List.setIfInBounds_toArray, List.set_cons_zero, List.set_cons_succ]
  refine spec_d rfl (fun x _ => gives_run (by go_simp)) ?_
  try simp only [Act.put, List.getElem_toArray, List.getElem_cons_succ, List.getElem_cons_zero, List.setIfInBounds_toArray, List.set_cons_zero, List.set_cons_succ]
  refine spec_d rfl (fun x _ => gives_run (by go_simp)) ?_
  try simp only [Act.put, List.getElem_toArray, List.getElem_cons_succ, List.getElem_cons_zero, List.setIfInBounds_toArray, List.set_cons_zero, List.set_cons_succ]
  refine spec_d rfl (fun x _ => gives_run (by go_simp)) ?_
  try simp only [Act.put, List.getElem_toArray, List.getElem_cons_succ, List.getElem_cons_zero, List.setIfInBounds_toArray, List.set_cons_zero, List.set_cons_succ]
  refine spec_d rfl (fun x _ => gives_run (by go_simp)) ?_
  try simp only [Act.put, List.getElem_toArray, List.getElem_cons_succ, List.getElem_cons_zero, List.setIfInBounds_toArray, List.set_cons_zero, List.set_cons_succ]
  refine spec_d rfl (fun x _ => gives_run (by go_simp)) ?_
  try simp only [Act.put, List.getElem_toArray, List.getElem_cons_succ, List.getElem_cons_zero, List.setIfInBounds_toArray, List.set_cons_zero, List.set_cons_succ]
  refine spec_d rfl (fun x _ => gives_run (by go_simp)) ?_
  try simp only [Act.put, List.getElem_toArray, List.getElem_cons_succ, List.getElem_cons_zero, List.setIfInBounds_toArray, List.set_cons_zero, List.set_cons_succ]
  refine spec_d rfl (fun x _ => gives_run (by go_simp)) ?_
  try simp only [Act.put, List.getElem_toArray, List.getElem_cons_succ, List.getElem_cons_zero, List.setIfInBounds_toArray, List.set_cons_zero, List.set_cons_succ]
  refine spec_d rfl (fun x _ => gives_run (by go_simp)) ?_
  try simp only [Act.put, List.getElem_toArray, List.getElem_cons_succ, List.getElem_cons_zero, List.setIfInBounds_toArray, List.set_cons_zero, List.set_cons_succ]
  refine spec_d rfl (fun x _ => gives_run (by go_simp)) ?_
  try simp only [Act.put, List.getElem_toArray, List.getElem_cons_succ, List.getElem_cons_zero, List.setIfInBounds_toArray, List.set_cons_zero, List.set_cons_succ]
  refine spec_d rfl (fun x _ => gives_run (by go_simp)) ?_
  try simp only [Act.put, List.getElem_toArray, List.getElem_cons_succ, List.getElem_cons_zero, List.setIfInBounds_toArray, List.set_cons_zero, List.set_cons_succ]
  refine spec_d rfl (fun x _ => gives_run (by go_simp)) ?_
  try simp only [Act.put, List.getElem_toArray, List.getElem_cons_succ, List.getElem_cons_zero, List.setIfInBounds_toArray, List.set_cons_zero, List.set_cons_succ]
  refine spec_d rfl (fun x _ => gives_run (by go_simp)) ?_
  try simp only [Act.put, List.getElem_toArray, List.getElem_cons_succ, List.getElem_cons_zero, List.setIfInBounds_toArray, List.set_cons_zero, List.set_cons_succ]
  refine spec_d rfl (fun x _ => gives_run (by go_simp)) ?_
  try simp only [Act.put, List.getElem_toArray, List.getElem_cons_succ, List.getElem_cons_zero, List.setIfInBounds_toArray, List.set_cons_zero, List.set_cons_succ]
  refine spec_d rfl (fun x _ => gives_run (by go_simp)) ?_
  try simp only [Act.put, List.getElem_toArray, List.getElem_cons_succ, List.getElem_cons_zero, List.setIfInBounds_toArray, List.set_cons_zero, List.set_cons_succ]
  refine spec_d rfl (fun x _ => gives_run (by go_simp)) ?_
  try simp only [Act.put, List.getElem_toArray, List.getElem_cons_succ, List.getElem_cons_zero, List.setIfInBounds_toArray, List.set_cons_zero, List.set_cons_succ]
  refine spec_d rfl (fun x _ => gives_run (by go_simp)) ?_
  try simp only [Act.put, List.getElem_toArray, List.getElem_cons_succ, List.getElem_cons_zero, List.setIfInBounds_toArray, List.set_cons_zero, List.set_cons_succ]
  refine spec_d rfl (fun x _ => gives_run (by go_simp)) ?_
  try simp only [Act.put, List.getElem_toArray, List.getElem_cons_succ, List.getElem_cons_zero, List.setIfInBounds_toArray, List.set_cons_zero, List.set_cons_succ]
  refine spec_d rfl (fun x _ => gives_run (by go_simp)) ?_
  try simp only [Act.put, List.getElem_toArray, List.getElem_cons_succ, List.getElem_cons_zero, List.setIfInBounds_toArray, List.set_cons_zero, List.set_cons_succ]
  refine spec_end (fun z hz => ?_)
  clear hz
  refine wpAny_done (by kernel_rfl) ?_ _
  have HBE := Lib.hid (HZW.out z)
  clear Zs0 Zs1 Zs2 Zc0 Zc1 Zc2 Zk Zn Zj Zt HQF HZW hdr k5 cn hxf
  generalize z.world = we at HBE ⊢
  clear z
  go_wp2_with fail
  refine (one_any _).mono ?_
  rintro e wl ⟨rfl, hbl⟩
  have HBL := Lib.hid (HBE.out.trans (hbl.mono HBE.out.size))
  clear hbl
  go_wp2
  go_ret
  exact ⟨rfl, HBL.out⟩
theorem walk (cs ds : Array Value) (pl : Int) (w : World) (hr : Reads w shS cs.toList) (hs : Reads w shS ds.toList) (p0 : -9223372036854775808 ≤ pl) (p1 : pl ≤ 9223372036854775807) :
    Calls Try.prog 5 #[.agg cs, .agg ds, .int .i64 pl] w fun e w' => e = .returned (.bool true) ∧ Below w.heap.size w w' := by
  obtain ⟨md, A0, n0, c0, A1, n1, c1, ws0, ws1, rfl, hW0, hW1, h0, h1⟩ := sched_in hr
  obtain ⟨me, B0, m0, e0, B1, m1, e1, zs0, zs1, rfl, hZ0, hZ1, h2, h3⟩ := sched_in hs
  obtain ⟨v, v0, v1', hv'⟩ := and_mask pl 1 (by omega)
  have hv : Go.bits BinOp.and IntKind.i64 pl 1 = v := hv'
  have v1 : v ≤ 1 := v1'
  rcases (show v = 0 ∨ v = 1 by omega) with rfl | rfl
  · exact go0 md A0 n0 c0 A1 n1 c1 ws0 ws1 me B0 m0 e0 B1 m1 e1 zs0 zs1 pl w hv hW0 hW1 hZ0 hZ1 h0 h1 h2 h3
  · exact go1 md A0 n0 c0 A1 n1 c1 ws0 ws1 me B0 m0 e0 B1 m1 e1 zs0 zs1 pl w hv hW0 hW1 hZ0 hZ1 h0 h1 h2 h3

set_option maxRecDepth 100000 in
theorem lifted (os : Os) (started : os.Started) (H : Type) (enc : TypeId × Value → H) :
    ReturnsInHanded {} Try.checked os 5 .any (Rows.planSameSpec.pre6 enc Try.prog Try.f5 Rows.planSameRow.domain false) (Rows.planSameSpec.post enc Try.prog Try.f5 false true false false) := by
  refine returnsInHanded_of_change (C := Try.checked) own started (by kernel_rfl) Try.func5
    (ChangeSpec.witness6 (enc := enc) (C := Try.checked) false ⟨#[], #[.agg #[.int .i64 0, .slice none 0 0, .slice none 0 0], .agg #[.int .i64 0, .slice none 0 0, .slice none 0 0], .int .i64 0], []⟩ 8 (by kernel_rfl) (by kernel_rfl) (by kernel_rfl) (by kernel_rfl)) ?_
  intro W base args ds gs before hval0 hW hcnd _
  have hval : ∀ (j : Nat) t v, Try.f5.params[j]? = some t → args[j]? = some v → Value.okWide Try.prog W .any base t v := hval0
  have hW' := hW
  obtain ⟨p, q, hA0, hV, rfl, hfz, hnd⟩ := hW
  have hA : DataW.TrodAll enc Try.prog W 0 (fun _ => true) true Try.f5.params.toList args.toList ds p := hA0
  rw [Try.params5] at hA hval
  obtain ⟨v0, vs0, d0, ds0, p0, q0, hargs, rfl, rfl, h0, r0⟩ := trodAll_cons hA
  obtain ⟨v1, vs1, d1, ds1, p1, q1, rfl, rfl, rfl, h1, r1⟩ := trodAll_cons r0
  obtain ⟨v2, vs2, d2, ds2, p2, q2, rfl, rfl, rfl, h2, r2⟩ := trodAll_cons r1
  obtain ⟨rfl, rfl, rfl⟩ := trodAll_nil r2
  obtain rfl : args = #[v0, v1, v2] := by cases args; simp_all
  obtain ⟨rfl, rfl⟩ := trodVars_none hV
  have k0 := h0
  have lt0 : ∀ x ∈ p0, x.block < W.heap.size := by obtain ⟨m, hm⟩ := k0; exact DataW.trod_lt m _ _ _ hm
  obtain ⟨s, rfl⟩ := okWide_agg (by first | exact .inl ⟨_, Try.underlying25⟩ | exact .inr ⟨_, _, Try.underlying25⟩) (hval 0 25 v0 rfl rfl)
  have rd0 := reads_cells (sh := shS) 30 (by kernel_rfl) k0
  have k1 := h1
  have lt1 : ∀ x ∈ p1, x.block < W.heap.size := by obtain ⟨m, hm⟩ := k1; exact DataW.trod_lt m _ _ _ hm
  obtain ⟨o, rfl⟩ := okWide_agg (by first | exact .inl ⟨_, Try.underlying25⟩ | exact .inr ⟨_, _, Try.underlying25⟩) (hval 1 25 v1 rfl rfl)
  have rd1 := reads_cells (sh := shS) 30 (by kernel_rfl) k1
  obtain ⟨pl, rfl, rfl, rfl, wf2⟩ := open_int Try.underlying3 (hval 2 3 v2 rfl rfl) h2
  have bd2 := bounds_i64 wf2
  clear hA0 hval0
  refine (walk s o pl W rd0 rd1 bd2.1 bd2.2).mono fun e W' ⟨he, bel⟩ => ?_
  subst he
  exact ⟨_, rfl, _, _, _, [], _, [], hW', trodAll_mk1 (shut_bool Try.underlying4 _), (trodAll_cons_mk (Below.trod laidOut (by kernel_rfl) (of_decide_eq_true (by kernel_rfl)) k0 bel lt0) (trodAll_cons_mk (Below.trod laidOut (by kernel_rfl) (of_decide_eq_true (by kernel_rfl)) k1 bel lt1) (trodAll_cons_mk (shut_int Try.underlying3 wf2) trodAll_mk0))), rfl, bel.frame _, fun h => by cases h⟩

theorem over : Rows.planSameRow.holds Try.pinned (OpenSpec.ofChange Rows.planSameSpec) :=
  OpenClaim.holds_of_wide 5 Try.f5 rfl rfl rfl rfl rfl rfl rfl ⟨rfl, rfl, rfl, rfl, rfl⟩ rfl rfl rfl rfl rfl (by kernel_rfl) Try.func5 (by kernel_rfl)
    (of_decide_eq_true (by kernel_rfl)) (by unfold Func.isWrapper; first | (rw [if_pos (by decide +kernel)]; kernel_rfl) | (rw [if_neg (by decide +kernel)]; exact ⟨rfl, rfl⟩))
    (fun os started H enc _ => lifted os started H enc)

/-- The statement. -/
theorem proved : Rows.PlanSameSaid := over
end Go.Proofs.Ytkdmcnkahiimoaa.lawPlanSame
