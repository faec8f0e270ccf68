/- Any image may be, and has the document's bytes, or none; any bytes are its image, or none: for every image, and bytes; no condition. -/
import Derived.Deep.DeepCutAuto
import Derived.Test.YthnopcoahcdjjaaImgV
import Derived.Test.YthnopcoahcdjjaaPush
import Derived.Test.YthnopcoahcdjjaaCut
import Derived.Test.YthnopcoahcdjjaaBox
import Derived.Test.YthnopcoahcdjjaaRows
import Derived.WalkKit
import Derived.ProofKit
import Derived.OpenShut
import Derived.ShutString
import Derived.ChangeOld
import Derived.Below
namespace Go.Proofs.Ythnopcoahcdjjaa.lawImageBytes
open Go.ChangeShapes Go.WideShapes Go.ChangeAt Go.RowKit Base
open Go.ChangeMaps (open_string shut_string)
set_option linter.unusedVariables false
set_option linter.unusedSimpArgs false
theorem own : ownKnob Try.prog.godebug = none := by kernel_rfl
theorem laidOut : laidOutB Try.prog = true := by kernel_rfl
open Ly10

set_option maxRecDepth 100000 in
set_option maxHeartbeats 4000000 in
theorem walk_in (m e0 e1 : Int) (n : Nat) (A : Option Addr) (c : Nat) (code : List Nat) (B : Option Addr) (k cb : Nat) (bs : List Nat) (w : World) (hn : n ≤ 1500) (hk : k ≤ 1500) (hkc : k ≤ cb) (hcb : cb ≤ 9223372036854775807)
    (ha : Lst w A n (u8s code)) (hx : ∀ x ∈ code, x < 256) (hb : Lst w B k (u8s bs)) (hy : ∀ x ∈ bs, x < 256) :
    Calls Try.prog 7 #[imv m e0 e1 A n c, .slice B k cb] w fun e w' => e = .returned (.bool true) ∧ Below w.heap.size w w' := by
  have HCL := Lib.hid (show code.length = n by have := ha.1; rwa [u8s_len] at this)
  have HYL := Lib.hid (show bs.length = k by have := hb.1; rwa [u8s_len] at this)
  have HX := Lib.hid hx
  have HY := Lib.hid hy
  have HB0 := Lib.hid (show Below w.heap.size w (w.alloc (.cells (c4 m e0 e1 A n c) TI)) from bel_new _ _)
  have ho0 := Obj1.new w TI (c4 m e0 e1 A n c)
  have HO0 := Lib.hid ho0
  have HA := Lib.hid ha
  have HBS := Lib.hid hb
  obtain ⟨gc, HGC⟩ : ∃ gc, Hid (w.heap.size = gc) := ⟨_, Lib.hid rfl⟩
  rw [HGC.out] at HO0 ho0
  obtain ⟨d0, d1, d2, d3⟩ := cells4 ho0
  clear ha hx hb hy ho0
  obtain ⟨SC, HSC⟩ : ∃ SC, Hid (strU code = SC) := ⟨_, Lib.hid rfl⟩
  have HSZ : Hid (SC.size = n) := Lib.hid (by rw [← HSC.out, strU_len]; exact HCL.out)
  go_enter Try.func7, Try.ntmps7
  go_wp2_with fail
  rw [HGC.out]
  generalize w.alloc (.cells #[.int .i64 m, .int .i64 e0, .int .i64 e1, .slice A n c] TI) = W at HB0 HO0 d0 d1 d2 d3 ⊢
  by_cases hr : RI m e0 e1 n
  case' pos =>
    have HRI := Lib.hid hr
    unfold RI at hr
    obtain ⟨m, rfl⟩ : ∃ z : Nat, m = (z : Int) := ⟨m.toNat, by omega⟩
    obtain ⟨e0, rfl⟩ : ∃ z : Nat, e0 = (z : Int) := ⟨e0.toNat, by omega⟩
    obtain ⟨e1, rfl⟩ : ∃ z : Nat, e1 = (z : Int) := ⟨e1.toNat, by omega⟩
    obtain ⟨hm, hn1, hn2, h0, h1⟩ : m < 16 ∧ 1 ≤ n ∧ n ≤ 1024 ∧ e0 < n ∧ e1 < n := by omega
    clear hr
    refine (put_ok m e0 e1 n A c code W hm hn1 hn2 h0 h1 (HA.out.kept HB0.out) HX.out).mono ?_
    rintro e w1 ⟨v, rfl, HV1, HB1⟩
    obtain ⟨X, cx, rfl, hcx, hcm, hl1⟩ := Lst.of_own HV1.out
    have HL1 := Lib.hid hl1
    have HBE1 := Lib.hid (HB0.out.trans (HB1.out.mono HB0.out.size))
    have HO1 := Lib.hid (HO0.out.kept HB1.out)
    clear d0 d1 d2 d3 hl1 HV1
    obtain ⟨d0, d1, d2, d3⟩ := cells4 HO1.out
    have C34 := convU (c := c) (HA.out.kept HBE1.out) HSC.out
    obtain ⟨N, HN⟩ : ∃ N, Hid (11 + n = N) := ⟨_, Lib.hid rfl⟩
    obtain ⟨F, HF⟩ : ∃ F, Hid (strU (imgB m e0 e1 code) = F) := ⟨_, Lib.hid rfl⟩
    rw [HN.out] at HL1 ⊢
    go_wp2_with fail
    refine (rright_yes m e0 e1 SC n HSZ.out w1 HRI.out).mono ?_
    rintro e w2 ⟨rfl, hb2⟩
    have HBE2 := Lib.hid (HBE1.out.trans (hb2.mono HBE1.out.size))
    have HO2 := Lib.hid (HO1.out.kept hb2)
    have HL2 := Lib.hid (HL1.out.kept hb2)
    clear d0 d1 d2 d3 C34 hb2
    have K0 : ∀ x : Kin w2.drew, x.world.cell? ⟨gc, 0, none⟩ = some (.int .i64 (m : Int)) := fun x => (HO2.out.kept ((bel_drew w2).trans x.below)).cell 0
    have K1 : ∀ x : Kin w2.drew, x.world.cell? ⟨gc, 1, none⟩ = some (.int .i64 (e0 : Int)) := fun x => (HO2.out.kept ((bel_drew w2).trans x.below)).cell 1
    have K2 : ∀ x : Kin w2.drew, x.world.cell? ⟨gc, 2, none⟩ = some (.int .i64 (e1 : Int)) := fun x => (HO2.out.kept ((bel_drew w2).trans x.below)).cell 2
    have K3 : ∀ x : Kin w2.drew, x.world.cell? ⟨gc, 3, none⟩ = some (.slice A n c) := fun x => (HO2.out.kept ((bel_drew w2).trans x.below)).cell 3
    have CX : ∀ x : Kin w2.drew, (convert 26 9 (.slice X N cx)).run Try.prog x.world = .ok (.string F) x.world := fun x => convU (HL2.out.kept ((bel_drew w2).trans x.below)) HF.out
    have CA : ∀ x : Kin w2.drew, (convert 26 9 (.slice A n c)).run Try.prog x.world = .ok (.string SC) x.world := fun x => convU (HA.out.kept (HBE2.out.trans (((bel_drew w2).trans x.below).mono HBE2.out.size))) HSC.out
    have HRT : Hid (∀ x : Kin w2.drew, Calls Try.prog 27 #[imv m e0 e1 A n c] x.world fun e w' => e = .returned (.bool true) ∧ Below x.world.heap.size x.world w') := Lib.hid (fun x => right_yes m e0 e1 A n c x.world HRI.out)
    have HRP : Hid (∀ x : Kin w2.drew, Calls Try.prog 28 #[.int .i64 m, .agg #[.int .i64 e0, .int .i64 e1], .string SC] x.world fun e w' => e = .returned (.string F) ∧ Below x.world.heap.size x.world w') := Lib.hid (fun x => by
      have h := rput_any m e0 e1 n code x.world hm hn2 h0 h1 HCL.out HX.out
      rw [HSC.out, HF.out] at h
      exact h.mono fun _ _ ⟨a, b⟩ => ⟨a, b.out⟩)
    go_wp2_with fail
    refine wp_region_specL 39 [.d (imv m e0 e1 A n c), .d (.bool true), .d (.bool true), .d (.bool false), .d (.bool false), .d (.int .i64 0), .d (.bool true), .d (.bool true), .d (.bool false), .d (.bool false), .d (.bool false), .d (.bool true), .d (.bool true), .d (.slice X N cx), .d (.string F),
      .d (.pointer (some ⟨gc, 0, none⟩)), .d (.int .i64 m), .d (.pointer (some ⟨gc, 1, none⟩)), .d (.agg #[.int .i64 e0, .int .i64 e1]), .d (.pointer (some ⟨gc, 3, none⟩)), .d (.slice A n c), .d (.string SC), .d (.string F), .d (.bool false), .d (.bool false), .d (.bool false), .d (.bool false), .d (.bool true), .d (.bool false), .d (.bool false),
      .d undef, .d undef, .d undef, .d undef, .d undef, .d undef, .d undef, .d (.bool false), .d (.bool false)] (by kernel_rfl) (by kernel_rfl) ?_
    refine spec_d rfl (fun x _ => gives_run (by go_simp)) ?_
    try simp only [Act.put, List.getElem_toArray, List.getElem_cons_succ, List.getElem_cons_zero, List.setIfInBounds_toArray, List.set_cons_zero, List.set_cons_succ]
    refine spec_d rfl (fun x _ => gives_det (by go_simp) (HRT.out x)) ?_
    try simp only [Act.put, List.getElem_toArray, List.getElem_cons_succ, List.getElem_cons_zero, List.setIfInBounds_toArray, List.set_cons_zero, List.set_cons_succ]
    refine spec_d rfl (fun x _ => gives_run (by go_simp)) ?_
    try simp only [Act.put, List.getElem_toArray, List.getElem_cons_succ, List.getElem_cons_zero, List.setIfInBounds_toArray, List.set_cons_zero, List.set_cons_succ]
    refine spec_d rfl (fun x _ => gives_run (by go_simp)) ?_
    try simp only [Act.put, List.getElem_toArray, List.getElem_cons_succ, List.getElem_cons_zero, List.setIfInBounds_toArray, List.set_cons_zero, List.set_cons_succ]
    refine spec_d rfl (fun x _ => gives_run (by go_simp)) ?_
    try simp only [Act.put, List.getElem_toArray, List.getElem_cons_succ, List.getElem_cons_zero, List.setIfInBounds_toArray, List.set_cons_zero, List.set_cons_succ]
    refine spec_d rfl (fun x _ => gives_run (by go_simp)) ?_
    try simp only [Act.put, List.getElem_toArray, List.getElem_cons_succ, List.getElem_cons_zero, List.setIfInBounds_toArray, List.set_cons_zero, List.set_cons_succ]
    refine spec_d rfl (fun x _ => gives_run (by go_simp)) ?_
    try simp only [Act.put, List.getElem_toArray, List.getElem_cons_succ, List.getElem_cons_zero, List.setIfInBounds_toArray, List.set_cons_zero, List.set_cons_succ]
    refine spec_d rfl (fun x _ => gives_run (by go_simp)) ?_
    try simp only [Act.put, List.getElem_toArray, List.getElem_cons_succ, List.getElem_cons_zero, List.setIfInBounds_toArray, List.set_cons_zero, List.set_cons_succ]
    refine spec_d rfl (fun x _ => gives_run (by go_simp)) ?_
    try simp only [Act.put, List.getElem_toArray, List.getElem_cons_succ, List.getElem_cons_zero, List.setIfInBounds_toArray, List.set_cons_zero, List.set_cons_succ]
    refine spec_d rfl (fun x _ => gives_run (by go_simp)) ?_
    try simp only [Act.put, List.getElem_toArray, List.getElem_cons_succ, List.getElem_cons_zero, List.setIfInBounds_toArray, List.set_cons_zero, List.set_cons_succ]
    refine spec_d rfl (fun x _ => gives_run (by go_simp)) ?_
    try simp only [Act.put, List.getElem_toArray, List.getElem_cons_succ, List.getElem_cons_zero, List.setIfInBounds_toArray, List.set_cons_zero, List.set_cons_succ]
    refine spec_d rfl (fun x _ => gives_run (by go_simp)) ?_
    try simp only [Act.put, List.getElem_toArray, List.getElem_cons_succ, List.getElem_cons_zero, List.setIfInBounds_toArray, List.set_cons_zero, List.set_cons_succ]
    refine spec_d rfl (fun x _ => gives_run (by go_simp)) ?_
    try simp only [Act.put, List.getElem_toArray, List.getElem_cons_succ, List.getElem_cons_zero, List.setIfInBounds_toArray, List.set_cons_zero, List.set_cons_succ]
    refine spec_d rfl (fun x _ => gives_run (by go_simp)) ?_
    try simp only [Act.put, List.getElem_toArray, List.getElem_cons_succ, List.getElem_cons_zero, List.setIfInBounds_toArray, List.set_cons_zero, List.set_cons_succ]
    refine spec_d rfl (fun x _ => gives_run (by go_simp)) ?_
    try simp only [Act.put, List.getElem_toArray, List.getElem_cons_succ, List.getElem_cons_zero, List.setIfInBounds_toArray, List.set_cons_zero, List.set_cons_succ]
    refine spec_d rfl (fun x _ => gives_run (by go_simp)) ?_
    try simp only [Act.put, List.getElem_toArray, List.getElem_cons_succ, List.getElem_cons_zero, List.setIfInBounds_toArray, List.set_cons_zero, List.set_cons_succ]
    refine spec_d rfl (fun x _ => gives_run (by go_simp)) ?_
    try simp only [Act.put, List.getElem_toArray, List.getElem_cons_succ, List.getElem_cons_zero, List.setIfInBounds_toArray, List.set_cons_zero, List.set_cons_succ]
    refine spec_d rfl (fun x _ => gives_run (by go_simp)) ?_
    try simp only [Act.put, List.getElem_toArray, List.getElem_cons_succ, List.getElem_cons_zero, List.setIfInBounds_toArray, List.set_cons_zero, List.set_cons_succ]
    refine spec_d rfl (fun x _ => gives_run (by go_simp)) ?_
    try simp only [Act.put, List.getElem_toArray, List.getElem_cons_succ, List.getElem_cons_zero, List.setIfInBounds_toArray, List.set_cons_zero, List.set_cons_succ]
    refine spec_d rfl (fun x _ => gives_run (by go_simp)) ?_
    try simp only [Act.put, List.getElem_toArray, List.getElem_cons_succ, List.getElem_cons_zero, List.setIfInBounds_toArray, List.set_cons_zero, List.set_cons_succ]
    refine spec_d rfl (fun x _ => gives_run (by go_simp)) ?_
    try simp only [Act.put, List.getElem_toArray, List.getElem_cons_succ, List.getElem_cons_zero, List.setIfInBounds_toArray, List.set_cons_zero, List.set_cons_succ]
    refine spec_d rfl (fun x _ => gives_run (by go_simp)) ?_
    try simp only [Act.put, List.getElem_toArray, List.getElem_cons_succ, List.getElem_cons_zero, List.setIfInBounds_toArray, List.set_cons_zero, List.set_cons_succ]
    refine spec_d rfl (fun x _ => gives_det (by go_simp) (HRP.out x)) ?_
    try simp only [Act.put, List.getElem_toArray, List.getElem_cons_succ, List.getElem_cons_zero, List.setIfInBounds_toArray, List.set_cons_zero, List.set_cons_succ]
    refine spec_d rfl (fun x _ => gives_run (by go_simp)) ?_
    try simp only [Act.put, List.getElem_toArray, List.getElem_cons_succ, List.getElem_cons_zero, List.setIfInBounds_toArray, List.set_cons_zero, List.set_cons_succ]
    refine spec_d rfl (fun x _ => gives_run (by go_simp)) ?_
    try simp only [Act.put, List.getElem_toArray, List.getElem_cons_succ, List.getElem_cons_zero, List.setIfInBounds_toArray, List.set_cons_zero, List.set_cons_succ]
    refine spec_d rfl (fun x _ => gives_run (by go_simp)) ?_
    try simp only [Act.put, List.getElem_toArray, List.getElem_cons_succ, List.getElem_cons_zero, List.setIfInBounds_toArray, List.set_cons_zero, List.set_cons_succ]
    refine spec_d rfl (fun x _ => gives_run (by go_simp)) ?_
    try simp only [Act.put, List.getElem_toArray, List.getElem_cons_succ, List.getElem_cons_zero, List.setIfInBounds_toArray, List.set_cons_zero, List.set_cons_succ]
    refine spec_d rfl (fun x _ => gives_run (by go_simp)) ?_
    try simp only [Act.put, List.getElem_toArray, List.getElem_cons_succ, List.getElem_cons_zero, List.setIfInBounds_toArray, List.set_cons_zero, List.set_cons_succ]
    refine spec_d rfl (fun x _ => gives_run (by go_simp)) ?_
    try simp only [Act.put, List.getElem_toArray, List.getElem_cons_succ, List.getElem_cons_zero, List.setIfInBounds_toArray, List.set_cons_zero, List.set_cons_succ]
    refine spec_d rfl (fun x _ => gives_run (by go_simp)) ?_
    try simp only [Act.put, List.getElem_toArray, List.getElem_cons_succ, List.getElem_cons_zero, List.setIfInBounds_toArray, List.set_cons_zero, List.set_cons_succ]
    refine spec_skip rfl ?_
    try simp only [Act.put, List.getElem_toArray, List.getElem_cons_succ, List.getElem_cons_zero, List.setIfInBounds_toArray, List.set_cons_zero, List.set_cons_succ]
    refine spec_skip rfl ?_
    try simp only [Act.put, List.getElem_toArray, List.getElem_cons_succ, List.getElem_cons_zero, List.setIfInBounds_toArray, List.set_cons_zero, List.set_cons_succ]
    refine spec_skip rfl ?_
    try simp only [Act.put, List.getElem_toArray, List.getElem_cons_succ, List.getElem_cons_zero, List.setIfInBounds_toArray, List.set_cons_zero, List.set_cons_succ]
    refine spec_skip rfl ?_
    try simp only [Act.put, List.getElem_toArray, List.getElem_cons_succ, List.getElem_cons_zero, List.setIfInBounds_toArray, List.set_cons_zero, List.set_cons_succ]
    refine spec_skip rfl ?_
    try simp only [Act.put, List.getElem_toArray, List.getElem_cons_succ, List.getElem_cons_zero, List.setIfInBounds_toArray, List.set_cons_zero, List.set_cons_succ]
    refine spec_skip rfl ?_
    try simp only [Act.put, List.getElem_toArray, List.getElem_cons_succ, List.getElem_cons_zero, List.setIfInBounds_toArray, List.set_cons_zero, List.set_cons_succ]
    refine spec_skip rfl ?_
    try simp only [Act.put, List.getElem_toArray, List.getElem_cons_succ, List.getElem_cons_zero, List.setIfInBounds_toArray, List.set_cons_zero, List.set_cons_succ]
    refine spec_d rfl (fun x _ => gives_run (by go_simp)) ?_
    try simp only [Act.put, List.getElem_toArray, List.getElem_cons_succ, List.getElem_cons_zero, List.setIfInBounds_toArray, List.set_cons_zero, List.set_cons_succ]
    refine spec_d rfl (fun x _ => gives_run (by go_simp)) ?_
    try simp only [Act.put, List.getElem_toArray, List.getElem_cons_succ, List.getElem_cons_zero, List.setIfInBounds_toArray, List.set_cons_zero, List.set_cons_succ]
    refine spec_end (fun x hx => ?_)
    clear hx
    refine wpAny_done (by kernel_rfl) ?_ _
    have HBE3 := Lib.hid (HBE2.out.trans (((bel_drew w2).trans x.below).mono HBE2.out.size))
    clear K0 K1 K2 K3 CX CA
    generalize x.world = w3 at HBE3 ⊢
  case' neg =>
    have HRI := Lib.hid hr
    clear hr
    refine (put_no m e0 e1 A n c W HRI.out (by omega)).mono ?_
    rintro e w1 ⟨rfl, HB1⟩
    have HBE1 := Lib.hid (HB0.out.trans (HB1.out.mono HB0.out.size))
    have HO1 := Lib.hid (HO0.out.kept HB1.out)
    clear d0 d1 d2 d3
    obtain ⟨d0, d1, d2, d3⟩ := cells4 HO1.out
    have C34 := convU (c := c) (HA.out.kept HBE1.out) HSC.out
    go_wp2_with fail
    refine (rright_no m e0 e1 SC n HSZ.out w1 HRI.out (by omega)).mono ?_
    rintro e w2 ⟨rfl, hb2⟩
    have HBE2 := Lib.hid (HBE1.out.trans (hb2.mono HBE1.out.size))
    have HO2 := Lib.hid (HO1.out.kept hb2)
    clear d0 d1 d2 d3 C34 hb2
    have K0 : ∀ x : Kin w2.drew, x.world.cell? ⟨gc, 0, none⟩ = some (.int .i64 m) := fun x => (HO2.out.kept ((bel_drew w2).trans x.below)).cell 0
    have K1 : ∀ x : Kin w2.drew, x.world.cell? ⟨gc, 1, none⟩ = some (.int .i64 e0) := fun x => (HO2.out.kept ((bel_drew w2).trans x.below)).cell 1
    have K2 : ∀ x : Kin w2.drew, x.world.cell? ⟨gc, 2, none⟩ = some (.int .i64 e1) := fun x => (HO2.out.kept ((bel_drew w2).trans x.below)).cell 2
    have K3 : ∀ x : Kin w2.drew, x.world.cell? ⟨gc, 3, none⟩ = some (.slice A n c) := fun x => (HO2.out.kept ((bel_drew w2).trans x.below)).cell 3
    have HRT : Hid (∀ x : Kin w2.drew, Calls Try.prog 27 #[imv m e0 e1 A n c] x.world fun e w' => e = .returned (.bool false) ∧ Below x.world.heap.size x.world w') := Lib.hid (fun x => right_no m e0 e1 A n c x.world HRI.out (by omega))
    go_wp2_with fail
    refine wp_region_specL 39 [.d (imv m e0 e1 A n c), .d (.bool false), .d (.bool false), .d (.bool false), .d (.bool false), .d (.int .i64 2), .d (.bool false), .d (.bool false), .d (.bool false), .d (.bool false), .d (.bool false), .d (.bool false), .d (.bool false), .d undef, .d undef, .d undef, .d undef, .d undef, .d undef, .d undef, .d undef, .d undef, .d undef, .d undef,
      .d (.bool false), .d (.bool false), .d (.bool false), .d (.bool false), .d (.bool true), .d (.bool true), .d (.int .i64 2), .d (.bool false), .d (.bool false), .d (.slice none 0 0), .d (.int .i64 0), .d (.bool false), .d (.bool false), .d (.bool false), .d (.bool false)] (by kernel_rfl) (by kernel_rfl) ?_
    refine spec_d rfl (fun x _ => gives_run (by go_simp)) ?_
    try simp only [Act.put, List.getElem_toArray, List.getElem_cons_succ, List.getElem_cons_zero, List.setIfInBounds_toArray, List.set_cons_zero, List.set_cons_succ]
    refine spec_d rfl (fun x _ => gives_det (by go_simp) (HRT.out x)) ?_
    try simp only [Act.put, List.getElem_toArray, List.getElem_cons_succ, List.getElem_cons_zero, List.setIfInBounds_toArray, List.set_cons_zero, List.set_cons_succ]
    refine spec_d rfl (fun x _ => gives_run (by go_simp)) ?_
    try simp only [Act.put, List.getElem_toArray, List.getElem_cons_succ, List.getElem_cons_zero, List.setIfInBounds_toArray, List.set_cons_zero, List.set_cons_succ]
    refine spec_d rfl (fun x _ => gives_run (by go_simp)) ?_
    try simp only [Act.put, List.getElem_toArray, List.getElem_cons_succ, List.getElem_cons_zero, List.setIfInBounds_toArray, List.set_cons_zero, List.set_cons_succ]
    refine spec_d rfl (fun x _ => gives_run (by go_simp)) ?_
    try simp only [Act.put, List.getElem_toArray, List.getElem_cons_succ, List.getElem_cons_zero, List.setIfInBounds_toArray, List.set_cons_zero, List.set_cons_succ]
    refine spec_d rfl (fun x _ => gives_run (by go_simp)) ?_
    try simp only [Act.put, List.getElem_toArray, List.getElem_cons_succ, List.getElem_cons_zero, List.setIfInBounds_toArray, List.set_cons_zero, List.set_cons_succ]
    refine spec_d rfl (fun x _ => gives_run (by go_simp)) ?_
    try simp only [Act.put, List.getElem_toArray, List.getElem_cons_succ, List.getElem_cons_zero, List.setIfInBounds_toArray, List.set_cons_zero, List.set_cons_succ]
    refine spec_d rfl (fun x _ => gives_run (by go_simp)) ?_
    try simp only [Act.put, List.getElem_toArray, List.getElem_cons_succ, List.getElem_cons_zero, List.setIfInBounds_toArray, List.set_cons_zero, List.set_cons_succ]
    refine spec_d rfl (fun x _ => gives_run (by go_simp)) ?_
    try simp only [Act.put, List.getElem_toArray, List.getElem_cons_succ, List.getElem_cons_zero, List.setIfInBounds_toArray, List.set_cons_zero, List.set_cons_succ]
    refine spec_d rfl (fun x _ => gives_run (by go_simp)) ?_
    try simp only [Act.put, List.getElem_toArray, List.getElem_cons_succ, List.getElem_cons_zero, List.setIfInBounds_toArray, List.set_cons_zero, List.set_cons_succ]
    refine spec_d rfl (fun x _ => gives_run (by go_simp)) ?_
    try simp only [Act.put, List.getElem_toArray, List.getElem_cons_succ, List.getElem_cons_zero, List.setIfInBounds_toArray, List.set_cons_zero, List.set_cons_succ]
    refine spec_d rfl (fun x _ => gives_run (by go_simp)) ?_
    try simp only [Act.put, List.getElem_toArray, List.getElem_cons_succ, List.getElem_cons_zero, List.setIfInBounds_toArray, List.set_cons_zero, List.set_cons_succ]
    refine spec_d rfl (fun x _ => gives_run (by go_simp)) ?_
    try simp only [Act.put, List.getElem_toArray, List.getElem_cons_succ, List.getElem_cons_zero, List.setIfInBounds_toArray, List.set_cons_zero, List.set_cons_succ]
    refine spec_skip rfl ?_
    try simp only [Act.put, List.getElem_toArray, List.getElem_cons_succ, List.getElem_cons_zero, List.setIfInBounds_toArray, List.set_cons_zero, List.set_cons_succ]
    refine spec_skip rfl ?_
    try simp only [Act.put, List.getElem_toArray, List.getElem_cons_succ, List.getElem_cons_zero, List.setIfInBounds_toArray, List.set_cons_zero, List.set_cons_succ]
    refine spec_skip rfl ?_
    try simp only [Act.put, List.getElem_toArray, List.getElem_cons_succ, List.getElem_cons_zero, List.setIfInBounds_toArray, List.set_cons_zero, List.set_cons_succ]
    refine spec_skip rfl ?_
    try simp only [Act.put, List.getElem_toArray, List.getElem_cons_succ, List.getElem_cons_zero, List.setIfInBounds_toArray, List.set_cons_zero, List.set_cons_succ]
    refine spec_skip rfl ?_
    try simp only [Act.put, List.getElem_toArray, List.getElem_cons_succ, List.getElem_cons_zero, List.setIfInBounds_toArray, List.set_cons_zero, List.set_cons_succ]
    refine spec_skip rfl ?_
    try simp only [Act.put, List.getElem_toArray, List.getElem_cons_succ, List.getElem_cons_zero, List.setIfInBounds_toArray, List.set_cons_zero, List.set_cons_succ]
    refine spec_skip rfl ?_
    try simp only [Act.put, List.getElem_toArray, List.getElem_cons_succ, List.getElem_cons_zero, List.setIfInBounds_toArray, List.set_cons_zero, List.set_cons_succ]
    refine spec_skip rfl ?_
    try simp only [Act.put, List.getElem_toArray, List.getElem_cons_succ, List.getElem_cons_zero, List.setIfInBounds_toArray, List.set_cons_zero, List.set_cons_succ]
    refine spec_skip rfl ?_
    try simp only [Act.put, List.getElem_toArray, List.getElem_cons_succ, List.getElem_cons_zero, List.setIfInBounds_toArray, List.set_cons_zero, List.set_cons_succ]
    refine spec_skip rfl ?_
    try simp only [Act.put, List.getElem_toArray, List.getElem_cons_succ, List.getElem_cons_zero, List.setIfInBounds_toArray, List.set_cons_zero, List.set_cons_succ]
    refine spec_skip rfl ?_
    try simp only [Act.put, List.getElem_toArray, List.getElem_cons_succ, List.getElem_cons_zero, List.setIfInBounds_toArray, List.set_cons_zero, List.set_cons_succ]
    refine spec_d rfl (fun x _ => gives_run (by go_simp)) ?_
    try simp only [Act.put, List.getElem_toArray, List.getElem_cons_succ, List.getElem_cons_zero, List.setIfInBounds_toArray, List.set_cons_zero, List.set_cons_succ]
    refine spec_d rfl (fun x _ => gives_run (by go_simp)) ?_
    try simp only [Act.put, List.getElem_toArray, List.getElem_cons_succ, List.getElem_cons_zero, List.setIfInBounds_toArray, List.set_cons_zero, List.set_cons_succ]
    refine spec_d rfl (fun x _ => gives_run (by go_simp)) ?_
    try simp only [Act.put, List.getElem_toArray, List.getElem_cons_succ, List.getElem_cons_zero, List.setIfInBounds_toArray, List.set_cons_zero, List.set_cons_succ]
    refine spec_d rfl (fun x _ => gives_run (by go_simp)) ?_
    try simp only [Act.put, List.getElem_toArray, List.getElem_cons_succ, List.getElem_cons_zero, List.setIfInBounds_toArray, List.set_cons_zero, List.set_cons_succ]
    refine spec_d rfl (fun x _ => gives_run (by go_simp)) ?_
    try simp only [Act.put, List.getElem_toArray, List.getElem_cons_succ, List.getElem_cons_zero, List.setIfInBounds_toArray, List.set_cons_zero, List.set_cons_succ]
    refine spec_d rfl (fun x _ => gives_run (by go_simp)) ?_
    try simp only [Act.put, List.getElem_toArray, List.getElem_cons_succ, List.getElem_cons_zero, List.setIfInBounds_toArray, List.set_cons_zero, List.set_cons_succ]
    refine spec_d rfl (fun x _ => gives_run (by go_simp)) ?_
    try simp only [Act.put, List.getElem_toArray, List.getElem_cons_succ, List.getElem_cons_zero, List.setIfInBounds_toArray, List.set_cons_zero, List.set_cons_succ]
    refine spec_d rfl (fun x _ => gives_run (by go_simp)) ?_
    try simp only [Act.put, List.getElem_toArray, List.getElem_cons_succ, List.getElem_cons_zero, List.setIfInBounds_toArray, List.set_cons_zero, List.set_cons_succ]
    refine spec_d rfl (fun x _ => gives_run (by go_simp)) ?_
    try simp only [Act.put, List.getElem_toArray, List.getElem_cons_succ, List.getElem_cons_zero, List.setIfInBounds_toArray, List.set_cons_zero, List.set_cons_succ]
    refine spec_d rfl (fun x _ => gives_run (by go_simp)) ?_
    try simp only [Act.put, List.getElem_toArray, List.getElem_cons_succ, List.getElem_cons_zero, List.setIfInBounds_toArray, List.set_cons_zero, List.set_cons_succ]
    refine spec_d rfl (fun x _ => gives_run (by go_simp)) ?_
    try simp only [Act.put, List.getElem_toArray, List.getElem_cons_succ, List.getElem_cons_zero, List.setIfInBounds_toArray, List.set_cons_zero, List.set_cons_succ]
    refine spec_d rfl (fun x _ => gives_run (by go_simp)) ?_
    try simp only [Act.put, List.getElem_toArray, List.getElem_cons_succ, List.getElem_cons_zero, List.setIfInBounds_toArray, List.set_cons_zero, List.set_cons_succ]
    refine spec_d rfl (fun x _ => gives_run (by go_simp)) ?_
    try simp only [Act.put, List.getElem_toArray, List.getElem_cons_succ, List.getElem_cons_zero, List.setIfInBounds_toArray, List.set_cons_zero, List.set_cons_succ]
    refine spec_d rfl (fun x _ => gives_run (by go_simp)) ?_
    try simp only [Act.put, List.getElem_toArray, List.getElem_cons_succ, List.getElem_cons_zero, List.setIfInBounds_toArray, List.set_cons_zero, List.set_cons_succ]
    refine spec_d rfl (fun x _ => gives_run (by go_simp)) ?_
    try simp only [Act.put, List.getElem_toArray, List.getElem_cons_succ, List.getElem_cons_zero, List.setIfInBounds_toArray, List.set_cons_zero, List.set_cons_succ]
    refine spec_end (fun x hx => ?_)
    clear hx
    refine wpAny_done (by kernel_rfl) ?_ _
    have HBE3 := Lib.hid (HBE2.out.trans (((bel_drew w2).trans x.below).mono HBE2.out.size))
    clear K0 K1 K2 K3
    generalize x.world = w3 at HBE3 ⊢
  all_goals
    have HRR := Lib.hid (read_res B k cb bs w3 (by omega) hkc hcb (HBS.out.kept HBE3.out) HY.out)
    have HRD := Lib.hid (fun X => rread_res bs k X HYL.out (by omega) HY.out)
    obtain ⟨r, HRN⟩ : ∃ r, Hid (res bs k = r) := ⟨_, Lib.hid rfl⟩
    rw [HRN.out] at HRR HRD
    obtain ⟨wh, q0, q1, cd, bad⟩ := r
    obtain ⟨SB, HSB⟩ : ∃ SB, Hid (strU bs = SB) := ⟨_, Lib.hid rfl⟩
    obtain ⟨CS, HCS⟩ : ∃ CS, Hid (strU cd = CS) := ⟨_, Lib.hid rfl⟩
    rw [HSB.out] at HRD
    have HRD2 : Hid (∀ X, Calls Try.prog 30 #[.string SB] X fun e w' => e = .returned (.tuple #[.int .i64 (wh : Int), .agg #[.int .i64 (q0 : Int), .int .i64 (q1 : Int)], .string CS, .int .i64 (bad : Int)]) ∧ Hid (Below X.heap.size X w')) := Lib.hid (fun X => by
      have h := HRD.out X
      unfold RV at h
      simp only [HCS.out] at h
      exact h)
    clear HRD
    go_wp2_with fail
    refine HRR.out.mono ?_
    rintro e w4 ⟨D, z, zd, rfl, HL4, HB4⟩
    have HBE4 := Lib.hid (HBE3.out.trans (HB4.out.mono HBE3.out.size))
    have hb5 := bel_new w4 (.cells (c4 wh q0 q1 D z zd) TI)
    have HBE5 := Lib.hid (HBE4.out.alloc HBE4.out.size (.cells (c4 wh q0 q1 D z zd) TI))
    have HO5 := Lib.hid (Obj1.new w4 TI (c4 wh q0 q1 D z zd))
    have HL5 := Lib.hid (HL4.out.kept hb5)
    obtain ⟨g8, HG8⟩ : ∃ g8, Hid (w4.heap.size = g8) := ⟨_, Lib.hid rfl⟩
    rw [HG8.out] at HO5
    clear hb5
    go_upto_region 8 with (fail)
    rw [HG8.out]
    generalize w4.alloc (.cells #[.int .i64 wh, .int .i64 q0, .int .i64 q1, .slice D z zd] TI) = w5 at HBE5 HO5 HL5 ⊢
    have C82 := convU (c := cb) (HBS.out.kept HBE5.out) HSB.out
    go_wp2_with fail
    refine (HRD2.out w5).mono ?_
    rintro e w6 ⟨rfl, HB6⟩
    have HBE6 := Lib.hid (HBE5.out.trans (HB6.out.mono HBE5.out.size))
    have HO6 := Lib.hid (HO5.out.kept HB6.out)
    have HL6 := Lib.hid (HL5.out.kept HB6.out)
    have hb7 := bel_new w6 (.cells #[.int .i64 (q0 : Int), .int .i64 (q1 : Int)] T2)
    have HBE7 := Lib.hid (HBE6.out.alloc HBE6.out.size (.cells #[.int .i64 (q0 : Int), .int .i64 (q1 : Int)] T2))
    have HO7 := Lib.hid (HO6.out.kept hb7)
    have HL7 := Lib.hid (HL6.out.kept hb7)
    have HE7 := Lib.hid (Obj1.new w6 T2 #[.int .i64 (q0 : Int), .int .i64 (q1 : Int)])
    obtain ⟨g11, HG11⟩ : ∃ g11, Hid (w6.heap.size = g11) := ⟨_, Lib.hid rfl⟩
    rw [HG11.out] at HE7
    clear hb7 C82
    go_upto_region 9 with (fail)
    rw [HG11.out]
    generalize w6.alloc (.cells #[.int .i64 (q0 : Int), .int .i64 (q1 : Int)] T2) = w7 at HBE7 HO7 HL7 HE7 ⊢
    have K0 : ∀ x : Kin w7.drew, x.world.cell? ⟨g8, 0, none⟩ = some (.int .i64 (wh : Int)) := fun x => (HO7.out.kept ((bel_drew w7).trans x.below)).cell 0
    have K1 : ∀ x : Kin w7.drew, x.world.cell? ⟨g8, 1, none⟩ = some (.int .i64 (q0 : Int)) := fun x => (HO7.out.kept ((bel_drew w7).trans x.below)).cell 1
    have K2 : ∀ x : Kin w7.drew, x.world.cell? ⟨g8, 2, none⟩ = some (.int .i64 (q1 : Int)) := fun x => (HO7.out.kept ((bel_drew w7).trans x.below)).cell 2
    have K3 : ∀ x : Kin w7.drew, x.world.cell? ⟨g8, 3, none⟩ = some (.slice D z zd) := fun x => (HO7.out.kept ((bel_drew w7).trans x.below)).cell 3
    have K4 : ∀ x : Kin w7.drew, x.world.cell? ⟨g11, 0, none⟩ = some (.int .i64 (q0 : Int)) := fun x => (HE7.out.kept ((bel_drew w7).trans x.below)).cell 0
    have K5 : ∀ x : Kin w7.drew, x.world.cell? ⟨g11, 1, none⟩ = some (.int .i64 (q1 : Int)) := fun x => (HE7.out.kept ((bel_drew w7).trans x.below)).cell 1
    have CD : ∀ x : Kin w7.drew, (convert 26 9 (.slice D z zd)).run Try.prog x.world = .ok (.string CS) x.world := fun x => convU (HL7.out.kept ((bel_drew w7).trans x.below)) HCS.out
    have CB : ∀ x : Kin w7.drew, (convert 26 9 (.slice B k cb)).run Try.prog x.world = .ok (.string SB) x.world := fun x => convU (HBS.out.kept (HBE7.out.trans (((bel_drew w7).trans x.below).mono HBE7.out.size))) HSB.out
    have hE : ∀ X, (binOp .eql 44 (.agg #[.int .i64 (q0 : Int), .int .i64 (q1 : Int)]) (.agg #[.int .i64 (q0 : Int), .int .i64 (q1 : Int)])).run Try.prog X = .ok (.bool true) X := fun X => by
      obtain ⟨i, hi⟩ : ∃ i, Try.prog.info? 3 = some i := Option.isSome_iff_exists.1 (by kernel_rfl)
      rw [eql_two X Try.underlying44 hi (by kernel_rfl) (by kernel_rfl) Try.underlying3]
      simp
    have hq := sumL_lt (s := 65535) (by omega) HY.out
    have HSS := Lib.hid (fun X => rsum_any bs X HY.out (by rw [HYL.out]; omega))
    have HS1 : Hid (∀ (x : Kin w7.drew) (g : Nat), Lst x.world (some ⟨g, 0, none⟩) 1 [.slice B k cb] → Calls Try.prog 31 #[.slice (some ⟨g, 0, none⟩) 1 1] x.world fun e w' => e = .returned (.int .u16 ((sumL 65535 bs : Nat) : Int)) ∧ x.world = w') := Lib.hid (fun x g hg => by
      have hrow : BRows x.world (some ⟨g, 0, none⟩) [⟨B, k, cb, bs⟩] := by
        refine ⟨hg, fun r hr => ?_⟩
        obtain rfl := List.mem_singleton.1 hr
        exact ⟨HBS.out.kept (HBE7.out.trans (((bel_drew w7).trans x.below).mono HBE7.out.size)), HY.out, by show k ≤ _; omega⟩
      have h := sum_any (some ⟨g, 0, none⟩) 1 _ x.world hrow (by simp)
      rw [show allB [(⟨B, k, cb, bs⟩ : BRow)] = bs by simp [allB]] at h
      exact h)
    obtain ⟨Q, HQ⟩ : ∃ Q, Hid (sumL 65535 bs = Q) := ⟨_, Lib.hid rfl⟩
    rw [HQ.out] at HSS HS1 hq
    rw [HSB.out] at HSS
    have hqw : IntKind.i64.wrap (Q : Int) = (Q : Int) := IntWalk.i64_in _ (by omega)
    refine wp_region_specL 36 [.d (.int .i64 bad), .d (.int .i64 bad), .d (.bool true), .d (.bool true), .d (.pointer (some ⟨g8, 0, none⟩)), .d (.int .i64 wh), .d (.int .i64 wh), .d (.bool true), .d (.bool true), .d (.bool true), .d (.pointer (some ⟨g8, 1, none⟩)), .d (.agg #[.int .i64 q0, .int .i64 q1]), .d (.agg #[.int .i64 q0, .int .i64 q1]), .d (.bool true), .d (.bool true), .d (.bool true),
      .d (.pointer (some ⟨g8, 3, none⟩)), .d (.slice D z zd), .d (.string CS), .d (.string CS), .d (.bool true), .d (.bool true), .d (.bool true), .d (.slice B k cb), .g (NewL w7.heap.size 1 [.slice B k cb]), .d (.int .u16 Q), .d (.int .i64 Q), .d (.slice B k cb), .d (.string SB), .d (.int .i64 Q), .d (.bool true), .d (.bool true), .d (.bool true), .d (.bool true), .d (.bool true), .d (.bool true)] (by kernel_rfl) (by kernel_rfl) ?_
    refine spec_d rfl (fun x _ => gives_run (by go_simp)) ?_
    try simp only [Act.put, List.getElem_toArray, List.getElem_cons_succ, List.getElem_cons_zero, List.setIfInBounds_toArray, List.set_cons_zero, List.set_cons_succ]
    refine spec_d rfl (fun x _ => gives_run (by go_simp)) ?_
    try simp only [Act.put, List.getElem_toArray, List.getElem_cons_succ, List.getElem_cons_zero, List.setIfInBounds_toArray, List.set_cons_zero, List.set_cons_succ]
    refine spec_d rfl (fun x _ => gives_run (by go_simp)) ?_
    try simp only [Act.put, List.getElem_toArray, List.getElem_cons_succ, List.getElem_cons_zero, List.setIfInBounds_toArray, List.set_cons_zero, List.set_cons_succ]
    refine spec_d rfl (fun x _ => gives_run (by go_simp)) ?_
    try simp only [Act.put, List.getElem_toArray, List.getElem_cons_succ, List.getElem_cons_zero, List.setIfInBounds_toArray, List.set_cons_zero, List.set_cons_succ]
    refine spec_d rfl (fun x _ => gives_run (by go_simp)) ?_
    try simp only [Act.put, List.getElem_toArray, List.getElem_cons_succ, List.getElem_cons_zero, List.setIfInBounds_toArray, List.set_cons_zero, List.set_cons_succ]
    refine spec_d rfl (fun x _ => gives_run (by go_simp)) ?_
    try simp only [Act.put, List.getElem_toArray, List.getElem_cons_succ, List.getElem_cons_zero, List.setIfInBounds_toArray, List.set_cons_zero, List.set_cons_succ]
    refine spec_d rfl (fun x _ => gives_run (by go_simp)) ?_
    try simp only [Act.put, List.getElem_toArray, List.getElem_cons_succ, List.getElem_cons_zero, List.setIfInBounds_toArray, List.set_cons_zero, List.set_cons_succ]
    refine spec_d rfl (fun x _ => gives_run (by go_simp)) ?_
    try simp only [Act.put, List.getElem_toArray, List.getElem_cons_succ, List.getElem_cons_zero, List.setIfInBounds_toArray, List.set_cons_zero, List.set_cons_succ]
    refine spec_d rfl (fun x _ => gives_run (by go_simp)) ?_
    try simp only [Act.put, List.getElem_toArray, List.getElem_cons_succ, List.getElem_cons_zero, List.setIfInBounds_toArray, List.set_cons_zero, List.set_cons_succ]
    refine spec_d rfl (fun x _ => gives_run (by go_simp)) ?_
    try simp only [Act.put, List.getElem_toArray, List.getElem_cons_succ, List.getElem_cons_zero, List.setIfInBounds_toArray, List.set_cons_zero, List.set_cons_succ]
    refine spec_d rfl (fun x _ => gives_run (by go_simp)) ?_
    try simp only [Act.put, List.getElem_toArray, List.getElem_cons_succ, List.getElem_cons_zero, List.setIfInBounds_toArray, List.set_cons_zero, List.set_cons_succ]
    refine spec_d rfl (fun x _ => gives_run (by go_simp)) ?_
    try simp only [Act.put, List.getElem_toArray, List.getElem_cons_succ, List.getElem_cons_zero, List.setIfInBounds_toArray, List.set_cons_zero, List.set_cons_succ]
    refine spec_d rfl (fun x _ => gives_run (by go_simp)) ?_
    try simp only [Act.put, List.getElem_toArray, List.getElem_cons_succ, List.getElem_cons_zero, List.setIfInBounds_toArray, List.set_cons_zero, List.set_cons_succ]
    refine spec_d rfl (fun x _ => gives_run (by go_simp)) ?_
    try simp only [Act.put, List.getElem_toArray, List.getElem_cons_succ, List.getElem_cons_zero, List.setIfInBounds_toArray, List.set_cons_zero, List.set_cons_succ]
    refine spec_d rfl (fun x _ => gives_run (by go_simp)) ?_
    try simp only [Act.put, List.getElem_toArray, List.getElem_cons_succ, List.getElem_cons_zero, List.setIfInBounds_toArray, List.set_cons_zero, List.set_cons_succ]
    refine spec_d rfl (fun x _ => gives_run (by go_simp)) ?_
    try simp only [Act.put, List.getElem_toArray, List.getElem_cons_succ, List.getElem_cons_zero, List.setIfInBounds_toArray, List.set_cons_zero, List.set_cons_succ]
    refine spec_d rfl (fun x _ => gives_run (by go_simp)) ?_
    try simp only [Act.put, List.getElem_toArray, List.getElem_cons_succ, List.getElem_cons_zero, List.setIfInBounds_toArray, List.set_cons_zero, List.set_cons_succ]
    refine spec_d rfl (fun x _ => gives_run (by go_simp)) ?_
    try simp only [Act.put, List.getElem_toArray, List.getElem_cons_succ, List.getElem_cons_zero, List.setIfInBounds_toArray, List.set_cons_zero, List.set_cons_succ]
    refine spec_d rfl (fun x _ => gives_run (by go_simp)) ?_
    try simp only [Act.put, List.getElem_toArray, List.getElem_cons_succ, List.getElem_cons_zero, List.setIfInBounds_toArray, List.set_cons_zero, List.set_cons_succ]
    refine spec_d rfl (fun x _ => gives_run (by go_simp)) ?_
    try simp only [Act.put, List.getElem_toArray, List.getElem_cons_succ, List.getElem_cons_zero, List.setIfInBounds_toArray, List.set_cons_zero, List.set_cons_succ]
    refine spec_d rfl (fun x _ => gives_run (by go_simp)) ?_
    try simp only [Act.put, List.getElem_toArray, List.getElem_cons_succ, List.getElem_cons_zero, List.setIfInBounds_toArray, List.set_cons_zero, List.set_cons_succ]
    refine spec_d rfl (fun x _ => gives_run (by go_simp)) ?_
    try simp only [Act.put, List.getElem_toArray, List.getElem_cons_succ, List.getElem_cons_zero, List.setIfInBounds_toArray, List.set_cons_zero, List.set_cons_succ]
    refine spec_d rfl (fun x _ => gives_run (by go_simp)) ?_
    try simp only [Act.put, List.getElem_toArray, List.getElem_cons_succ, List.getElem_cons_zero, List.setIfInBounds_toArray, List.set_cons_zero, List.set_cons_succ]
    refine spec_d rfl (fun x _ => gives_run (by go_simp)) ?_
    try simp only [Act.put, List.getElem_toArray, List.getElem_cons_succ, List.getElem_cons_zero, List.setIfInBounds_toArray, List.set_cons_zero, List.set_cons_succ]
    refine spec_g (NewL.stable _ _ _) (NewL.ex _ TS (Nat.le_refl _) rfl) rfl (fun x _ => gives_ok (by go_simp) (bel_new _ _) (NewL.new (T := TS) x.below.size rfl)) ?_
    rintro v ⟨y, g, rfl, _, _⟩
    try simp only [Act.put, List.getElem_toArray, List.getElem_cons_succ, List.getElem_cons_zero, List.setIfInBounds_toArray, List.set_cons_zero, List.set_cons_succ]
    refine spec_d rfl (fun x hx => gives_det_same (by go_simp) (HS1.out x g (NewL.at (hx _ (List.mem_singleton.2 rfl) (by kernel_rfl))).2)) ?_
    try simp only [Act.put, List.getElem_toArray, List.getElem_cons_succ, List.getElem_cons_zero, List.setIfInBounds_toArray, List.set_cons_zero, List.set_cons_succ]
    refine spec_d rfl (fun x _ => gives_run (by go_simp)) ?_
    try simp only [Act.put, List.getElem_toArray, List.getElem_cons_succ, List.getElem_cons_zero, List.setIfInBounds_toArray, List.set_cons_zero, List.set_cons_succ]
    refine spec_d rfl (fun x _ => gives_run (by go_simp)) ?_
    try simp only [Act.put, List.getElem_toArray, List.getElem_cons_succ, List.getElem_cons_zero, List.setIfInBounds_toArray, List.set_cons_zero, List.set_cons_succ]
    refine spec_d rfl (fun x _ => gives_run (by go_simp)) ?_
    try simp only [Act.put, List.getElem_toArray, List.getElem_cons_succ, List.getElem_cons_zero, List.setIfInBounds_toArray, List.set_cons_zero, List.set_cons_succ]
    refine spec_d rfl (fun x _ => gives_det_same (by go_simp) (HSS.out x.world)) ?_
    try simp only [Act.put, List.getElem_toArray, List.getElem_cons_succ, List.getElem_cons_zero, List.setIfInBounds_toArray, List.set_cons_zero, List.set_cons_succ]
    refine spec_d rfl (fun x _ => gives_run (by go_simp)) ?_
    try simp only [Act.put, List.getElem_toArray, List.getElem_cons_succ, List.getElem_cons_zero, List.setIfInBounds_toArray, List.set_cons_zero, List.set_cons_succ]
    refine spec_d rfl (fun x _ => gives_run (by go_simp)) ?_
    try simp only [Act.put, List.getElem_toArray, List.getElem_cons_succ, List.getElem_cons_zero, List.setIfInBounds_toArray, List.set_cons_zero, List.set_cons_succ]
    refine spec_d rfl (fun x _ => gives_run (by go_simp)) ?_
    try simp only [Act.put, List.getElem_toArray, List.getElem_cons_succ, List.getElem_cons_zero, List.setIfInBounds_toArray, List.set_cons_zero, List.set_cons_succ]
    refine spec_d rfl (fun x _ => gives_det (by go_simp) (one_any x.world)) ?_
    try simp only [Act.put, List.getElem_toArray, List.getElem_cons_succ, List.getElem_cons_zero, List.setIfInBounds_toArray, List.set_cons_zero, List.set_cons_succ]
    refine spec_d rfl (fun x _ => gives_run (by go_simp)) ?_
    try simp only [Act.put, List.getElem_toArray, List.getElem_cons_succ, List.getElem_cons_zero, List.setIfInBounds_toArray, List.set_cons_zero, List.set_cons_succ]
    refine spec_d rfl (fun x _ => gives_run (by go_simp)) ?_
    try simp only [Act.put, List.getElem_toArray, List.getElem_cons_succ, List.getElem_cons_zero, List.setIfInBounds_toArray, List.set_cons_zero, List.set_cons_succ]
    refine spec_end (fun x hx => ?_)
    clear hx
    refine wpAny_done (by kernel_rfl) ?_ _
    have HBE8 := Lib.hid (HBE7.out.trans (((bel_drew w7).trans x.below).mono HBE7.out.size))
    clear K0 K1 K2 K3 K4 K5 CD CB hE hqw
    generalize x.world = w8 at HBE8 ⊢
    go_wp2
    go_ret
    exact ⟨rfl, HBE8.out⟩
theorem walk_long (m e0 e1 : Int) (n : Nat) (A : Option Addr) (c : Nat) (B : Option Addr) (k cb : Nat) (w : World) (h : 1500 < n ∨ (n ≤ 1500 ∧ 1500 < k)) :
    Calls Try.prog 7 #[imv m e0 e1 A n c, .slice B k cb] w fun e w' => e = .returned (.bool true) ∧ Below w.heap.size w w' := by
  have HB0 := Lib.hid (show Below w.heap.size w (w.alloc (.cells (c4 m e0 e1 A n c) TI)) from bel_new _ _)
  obtain ⟨d0, d1, d2, d3⟩ := cells4 (Obj1.new w TI (c4 m e0 e1 A n c))
  rcases h with h | ⟨h, h'⟩
  · have hi : (1500 : Int) < (n : Int) := by omega
    clear h
    go_enter Try.func7, Try.ntmps7
    go_wp2
    go_ret
    exact ⟨rfl, HB0.out⟩
  · have hi : ¬ (1500 : Int) < (n : Int) := by omega
    have hi2 : (1500 : Int) < (k : Int) := by omega
    clear h h'
    go_enter Try.func7, Try.ntmps7
    go_wp2
    go_ret
    exact ⟨rfl, HB0.out⟩
theorem walk (cs : Array Value) (B : Option Addr) (k cb : Nat) (zs : List Int) (w : World) (hr : Reads w shI cs.toList) (hb : Lst w B k (zs.map (Value.int .u8))) (hz : ∀ x ∈ zs, 0 ≤ x ∧ x ≤ 255) (hkc : k ≤ cb) (hcm : cb ≤ maxLen) :
    Calls Try.prog 7 #[.agg cs, .slice B k cb] w fun e w' => e = .returned (.bool true) ∧ Below w.heap.size w w' := by
  obtain ⟨m, e0, e1, A, n, c, code, rfl, hl, hx, hnc, hc⟩ := reads_img hr
  obtain ⟨bs, ev, hv⟩ := nats_of zs hz
  rw [ev] at hb
  unfold maxLen at hcm
  by_cases h : 1500 < n ∨ (n ≤ 1500 ∧ 1500 < k)
  · exact walk_long m e0 e1 n A c B k cb w h
  · exact walk_in m e0 e1 n A c code B k cb bs w (by omega) (by omega) hkc (by omega) hl hx hb hv

set_option maxRecDepth 100000 in
theorem lifted (os : Os) (started : os.Started) (H : Type) (enc : TypeId × Value → H) :
    ReturnsInHanded {} Try.checked os 7 .any (Rows.imageBytesSpec.pre6 enc Try.prog Try.f7 Rows.imageBytesRow.domain false) (Rows.imageBytesSpec.post enc Try.prog Try.f7 false true false false) := by
  refine returnsInHanded_of_change (C := Try.checked) own started (by kernel_rfl) Try.func7
    (ChangeSpec.witness6 (enc := enc) (C := Try.checked) false ⟨#[], #[.agg #[.int .i64 0, .int .i64 0, .int .i64 0, .slice none 0 0], .slice none 0 0], []⟩ 8 (by kernel_rfl) (by kernel_rfl) (by kernel_rfl) (by kernel_rfl)) ?_
  intro W base args ds gs before hval0 hW hcnd _
  have hval : ∀ (j : Nat) t v, Try.f7.params[j]? = some t → args[j]? = some v → Value.okWide Try.prog W .any base t v := hval0
  have hW' := hW
  obtain ⟨p, q, hA0, hV, rfl, hfz, hnd⟩ := hW
  have hA : DataW.TrodAll enc Try.prog W 0 (fun _ => true) true Try.f7.params.toList args.toList ds p := hA0
  rw [Try.params7] at hA hval
  obtain ⟨v0, vs0, d0, ds0, p0, q0, hargs, rfl, rfl, h0, r0⟩ := trodAll_cons hA
  obtain ⟨v1, vs1, d1, ds1, p1, q1, rfl, rfl, rfl, h1, r1⟩ := trodAll_cons r0
  obtain ⟨rfl, rfl, rfl⟩ := trodAll_nil r1
  obtain rfl : args = #[v0, v1] := by cases args; simp_all
  obtain ⟨rfl, rfl⟩ := trodVars_none hV
  have k0 := h0
  have lt0 : ∀ x ∈ p0, x.block < W.heap.size := by obtain ⟨m, hm⟩ := k0; exact DataW.trod_lt m _ _ _ hm
  obtain ⟨m, rfl⟩ := okWide_agg (by first | exact .inl ⟨_, Try.underlying46⟩ | exact .inr ⟨_, _, Try.underlying46⟩) (hval 0 46 v0 rfl rfl)
  have rd0 := reads_cells (sh := shI) 30 (by kernel_rfl) k0
  have k1 := h1
  have lt1 : ∀ x ∈ p1, x.block < W.heap.size := by obtain ⟨m, hm⟩ := k1; exact DataW.trod_lt m _ _ _ hm
  obtain ⟨bA, bn, bc, rfl⟩ := okWide_slice Try.underlying26 (hval 1 26 v1 rfl rfl)
  obtain ⟨b, l1, b1, cb1, cc1⟩ := lst_ints Try.underlying26 Try.underlying5 (by kernel_rfl) k1
  clear hA0 hval0
  refine (walk m bA bn bc b W rd0 l1 (ints_u8 b1) cb1 cc1).mono fun e W' ⟨he, bel⟩ => ?_
  subst he
  exact ⟨_, rfl, _, _, _, [], _, [], hW', trodAll_mk1 (shut_bool Try.underlying4 _), (trodAll_cons_mk (Below.trod laidOut (by kernel_rfl) (of_decide_eq_true (by kernel_rfl)) k0 bel lt0) (trodAll_cons_mk (Below.trod laidOut (by kernel_rfl) (of_decide_eq_true (by kernel_rfl)) k1 bel lt1) trodAll_mk0)), rfl, bel.frame _, fun h => by cases h⟩

theorem over : Rows.imageBytesRow.holds Try.pinned (OpenSpec.ofChange Rows.imageBytesSpec) :=
  OpenClaim.holds_of_wide 7 Try.f7 rfl rfl rfl rfl rfl rfl rfl ⟨rfl, rfl, rfl, rfl, rfl⟩ rfl rfl rfl rfl rfl (by kernel_rfl) Try.func7 (by kernel_rfl)
    (of_decide_eq_true (by kernel_rfl)) (by unfold Func.isWrapper; first | (rw [if_pos (by decide +kernel)]; kernel_rfl) | (rw [if_neg (by decide +kernel)]; exact ⟨rfl, rfl⟩))
    (fun os started H enc _ => lifted os started H enc)

/-- The statement. -/
theorem proved : Rows.ImageBytesSaid := over
end Go.Proofs.Ythnopcoahcdjjaa.lawImageBytes
