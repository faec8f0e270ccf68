/- Any course may be, with any number of modules, or has the document's first error, and is fit as it says: for every course and number; no condition. -/
import Derived.RegionTactic
import Derived.IntWalk
import Derived.Deep.DeepCutAuto
import Derived.Deep.CutBlock
import Derived.Test.YtejhjpdcodloaaaBudH
import Derived.Test.YtejhjpdcodloaaaRows
import Derived.WalkKit
import Derived.ProofKit
import Derived.OpenShut
import Derived.ShutString
import Derived.ChangeOld
import Derived.Below
namespace Go.Proofs.Ytejhjpdcodloaaa.lawBudgetChecks
open Go.ChangeShapes Go.WideShapes Go.ChangeAt Go.RowKit Base
open Go.ChangeMaps (open_string shut_string)
set_option linter.unusedVariables false
set_option linter.unusedSimpArgs false
theorem own : ownKnob Try.prog.godebug = none := by kernel_rfl
theorem laidOut : laidOutB Try.prog = true := by kernel_rfl
open Ly21 Ly20

set_option maxRecDepth 100000 in
set_option maxHeartbeats 4000000 in
theorem walk_yes (kd fm : Int) (fy : Bool) (ln fr : Int) (A : Option Addr) (n c : Nat) (B : Option Addr) (m d : Nat) (xs : List Int) (ls : List Slp) (md : Int) (w : World) (hA : Lst w A n (xs.map (Value.int .u8))) (hW : SlsAt w B m ls) (hn : n ≤ 9223372036854775807) (hm : m ≤ 9223372036854775807) (hmd : md ≤ 9223372036854775807) :
    Calls Try.prog 3 #[.agg #[.int .i64 kd, .int .i64 fm, .bool fy, .int .i64 ln, .int .i64 fr, .slice A n c, .slice B m d], .int .i64 md] w fun e w' => e = .returned (.bool true) ∧ Below w.heap.size w w' := by
  obtain ⟨gb, HGB⟩ : ∃ gb, Hid (w.heap.size = gb) := ⟨_, Lib.hid rfl⟩
  obtain ⟨W1, HW1⟩ : ∃ W1, Hid (W1 = w.alloc (.cells #[.int .i64 kd, .int .i64 fm, .bool fy, .int .i64 ln, .int .i64 fr, .slice A n c, .slice B m d] TC)) := ⟨_, Lib.hid rfl⟩
  have HB1 : Hid (Below w.heap.size w W1) := Lib.hid (by rw [HW1.out]; exact bel1 _ _)
  have HOB : Hid (∀ W, Below W1.heap.size W1 W → Obj1 W gb TC #[.int .i64 kd, .int .i64 fm, .bool fy, .int .i64 ln, .int .i64 fr, .slice A n c, .slice B m d]) := Lib.hid (fun W h => (show Obj1 W1 gb TC #[.int .i64 kd, .int .i64 fm, .bool fy, .int .i64 ln, .int .i64 fr, .slice A n c, .slice B m d] by rw [HW1.out, ← HGB.out]; exact Obj1.new _ _ _).kept h)
  have HSL : Hid (∀ W, Below W1.heap.size W1 W → SlsAt W B m ls) := Lib.hid (fun W h => (hW.kept HB1.out).kept h)
  have HPA : Hid (∀ W, Below W1.heap.size W1 W → Lst W A n (xs.map (Value.int .u8))) := Lib.hid (fun W h => (hA.kept HB1.out).kept h)
  clear hA hW
  have HX : Hid (Below W1.heap.size W1 W1) := Lib.hid (Below.refl _ _)
  have d0 := (HOB.out _ HX.out).cell 0
  have d1 := (HOB.out _ HX.out).cell 1
  have d2 := (HOB.out _ HX.out).cell 2
  have d3 := (HOB.out _ HX.out).cell 3
  have d4 := (HOB.out _ HX.out).cell 4
  have d5 := (HOB.out _ HX.out).cell 5
  have d6 := (HOB.out _ HX.out).cell 6
  simp at d0 d1 d2 d3 d4 d5 d6
  go_enter Try.func3, Try.ntmps3
  go_upto_region 1 with (fail)
  rw [← HW1.out, HGB.out]
  clear HW1
  go_wp2_with fail
  refine (few_any kd fm fy ln fr A n c B m d _ hn hm).mono ?_
  rintro e w2 ⟨⟨q0, rfl, hq⟩, hb2⟩
  obtain ⟨q, hqq⟩ : ∃ q, decide (q0 = 1) = q := ⟨_, rfl⟩
  have HQQ := Lib.hid hqq
  rw [hqq]
  have HB2 := Lib.hid (HX.out.trans (hb2.mono HX.out.size))
  clear hb2 hqq d0 d1 d2 d3 d4 d5 d6
  cases q with
  | false =>
    go_wp2
    go_ret
    exact ⟨rfl, HB1.out.trans (HB2.out.mono HB1.out.size)⟩
  | true =>
    obtain ⟨hm60, hn400⟩ := hq.out (of_decide_eq_true HQQ.out)
    clear hq hn hm HQQ
    have HOA := Lib.hid (own_any B m d ls w2 (HSL.out _ HB2.out) (by omega))
    have d0 := (HOB.out _ HB2.out).cell 0
    have d1 := (HOB.out _ HB2.out).cell 1
    have d2 := (HOB.out _ HB2.out).cell 2
    have d3 := (HOB.out _ HB2.out).cell 3
    have d4 := (HOB.out _ HB2.out).cell 4
    have d5 := (HOB.out _ HB2.out).cell 5
    have d6 := (HOB.out _ HB2.out).cell 6
    simp at d0 d1 d2 d3 d4 d5 d6
    go_wp2_with fail
    refine HOA.out.mono ?_
    rintro e w3 ⟨OB, od, rfl, HOS, HOD, hb3⟩
    have HB3 := Lib.hid (HB2.out.trans (hb3.out.mono HB2.out.size))
    have HOS3 : Hid (∀ W, Below w3.heap.size w3 W → SlsAt W OB m ls) := Lib.hid (fun W h => HOS.out.kept h)
    clear hb3 HOS HOA d0 d1 d2 d3 d4 d5 d6
    have HRT := Lib.hid (right_any kd fm fy ln fr A n c md w3 (by omega))
    obtain ⟨r, HR⟩ : ∃ r, Hid (rightF kd fm ln fr n md = r) := ⟨_, Lib.hid rfl⟩
    rw [HR.out] at HRT
    have d0 := (HOB.out _ HB3.out).cell 0
    have d1 := (HOB.out _ HB3.out).cell 1
    have d2 := (HOB.out _ HB3.out).cell 2
    have d3 := (HOB.out _ HB3.out).cell 3
    have d4 := (HOB.out _ HB3.out).cell 4
    have d5 := (HOB.out _ HB3.out).cell 5
    have d6 := (HOB.out _ HB3.out).cell 6
    simp at d0 d1 d2 d3 d4 d5 d6
    go_wp2_with fail
    refine HRT.out.mono ?_
    rintro e w4 ⟨rfl, hb4⟩
    have HB34 := Lib.hid hb4
    have HB4 := Lib.hid (HB3.out.trans (hb4.mono HB3.out.size))
    clear hb4 HRT d0 d1 d2 d3 d4 d5 d6
    obtain ⟨E, HE⟩ : ∃ E, Hid (fitA md [] ls = E) := ⟨_, Lib.hid rfl⟩
    have HEL : Hid (E.length ≤ 60) := Lib.hid (by rw [← HE.out]; have h1 := fitA_len md ls []; have h2 := (HSL.out _ HX.out).len; simp at h1; omega)
    by_cases hr : r = 0
    · subst hr
      as_aux_lemma =>
      have HRC := Lib.hid (rcheck_any md OB m od ls w4 (HOS3.out _ HB34.out) (by omega) HOD.out)
      obtain ⟨wn, HWN⟩ : ∃ wn, Hid (chkA md [] ls = wn) := ⟨_, Lib.hid rfl⟩
      rw [HWN.out] at HRC
      have HCK : Hid ((if rightF kd fm ln fr n md ≠ 0 then rightF kd fm ln fr n md else chkA md [] ls) = wn) := Lib.hid (by rw [HR.out, if_neg (by simp), HWN.out])
      go_wp2_with fail
      refine HRC.out.mono ?_
      rintro e w5 ⟨rfl, hb5⟩
      have HB35 := Lib.hid (HB34.out.trans (hb5.mono HB34.out.size))
      have HB5 := Lib.hid (HB4.out.trans (hb5.mono HB4.out.size))
      clear hb5 HRC HB4 HB34
      have HFT := Lib.hid (fit_any kd fm fy ln fr A n c B m d xs ls md w5 (HPA.out _ HB5.out) hn400 (HSL.out _ HB5.out) (by omega) hmd)
      rw [HE.out, HR.out] at HFT
      have d0 := (HOB.out _ HB5.out).cell 0
      have d1 := (HOB.out _ HB5.out).cell 1
      have d2 := (HOB.out _ HB5.out).cell 2
      have d3 := (HOB.out _ HB5.out).cell 3
      have d4 := (HOB.out _ HB5.out).cell 4
      have d5 := (HOB.out _ HB5.out).cell 5
      have d6 := (HOB.out _ HB5.out).cell 6
      simp at d0 d1 d2 d3 d4 d5 d6
      go_wp2_with fail
      refine HFT.out.mono ?_
      rintro e w6 ⟨f, FB, fd, rfl, HFP, HFL, HFS, HFD, hb6⟩
      have HB6 := Lib.hid (HB5.out.trans (hb6.out.mono HB5.out.size))
      have HB36 := Lib.hid (HB35.out.trans (hb6.out.mono HB35.out.size))
      clear hb6 HFT HFL HB5 HB35 d0 d1 d2 d3 d4 d5 d6
      obtain ⟨N, HN⟩ : ∃ N, Hid (E.length = N) := ⟨_, Lib.hid rfl⟩
      rw [HN.out] at HFS HFD HEL ⊢
      have hN60 := HEL.out
      go_upto_region 9 with (fail)
      obtain ⟨gx, HGX⟩ : ∃ gx, Hid (w6.heap.size = gx) := ⟨_, Lib.hid rfl⟩
      obtain ⟨W7, HW7⟩ : ∃ W7, Hid (W7 = w6.alloc (.cells (f.cells (.slice FB N fd)) TC)) := ⟨_, Lib.hid rfl⟩
      have HB67 : Hid (Below w6.heap.size w6 W7) := Lib.hid (by rw [HW7.out]; exact bel1 _ _)
      have HOX : Hid (Obj1 W7 gx TC (f.cells (.slice FB N fd))) := Lib.hid (by rw [HW7.out, ← HGX.out]; exact Obj1.new _ _ _)
      have HB7 := Lib.hid (HB6.out.trans (HB67.out.mono HB6.out.size))
      have HB37 := Lib.hid (HB36.out.trans (HB67.out.mono HB36.out.size))
      have HFS7 := Lib.hid (HFS.out.kept HB67.out)
      have hw7 := HW7.out
      change Code.wp _ _ _ _ (w6.alloc (.cells (f.cells (.slice FB N fd)) TC)) at *
      rw [← hw7, HGX.out]
      clear hw7 HW7 HGX HB67 HB6 HB36 HFS
      have HRF := Lib.hid (rfit_any md OB m od ls W7 (HOS3.out _ HB37.out) (by omega))
      rw [HE.out, HN.out] at HRF
      go_wp2_with fail
      refine HRF.out.mono ?_
      rintro e w8 ⟨v8, rfl, HR8, hb8⟩
      obtain ⟨RB, rd, rfl, _, hs8⟩ := sls_own HR8.out HN.out
      have HB8 := Lib.hid (HB7.out.trans (hb8.out.mono HB7.out.size))
      have HFS8 := Lib.hid (HFS7.out.kept hb8.out)
      have HO8 := Lib.hid (HOX.out.kept hb8.out)
      have HRS8 := Lib.hid hs8
      clear hb8 HR8 HRF hs8 HB7 HFS7 HOX HB37
      have HO2 := Lib.hid (own_any FB N fd E w8 HFS8.out (by omega))
      have q6 := HO8.out.cell 6
      simp at q6
      go_wp2_with fail
      refine HO2.out.mono ?_
      rintro e w9 ⟨YB, yd, rfl, HYS, HYD, hb9⟩
      have HB9 := Lib.hid (HB8.out.trans (hb9.out.mono HB8.out.size))
      have HO9 := Lib.hid (HO8.out.kept hb9.out)
      have HRS9 := Lib.hid (HRS8.out.kept hb9.out)
      clear hb9 HO2 q6 HB8 HO8 HRS8 HFS8
      have HCH := Lib.hid (check_any kd fm fy ln fr A n c B m d ls md w9 (HSL.out _ HB9.out) (by omega) (by omega) hmd)
      rw [HCK.out] at HCH
      have d0 := (HOB.out _ HB9.out).cell 0
      have d1 := (HOB.out _ HB9.out).cell 1
      have d2 := (HOB.out _ HB9.out).cell 2
      have d3 := (HOB.out _ HB9.out).cell 3
      have d4 := (HOB.out _ HB9.out).cell 4
      have d5 := (HOB.out _ HB9.out).cell 5
      have d6 := (HOB.out _ HB9.out).cell 6
      simp at d0 d1 d2 d3 d4 d5 d6
      go_wp2_with fail
      refine HCH.out.mono ?_
      rintro e w10 ⟨rfl, hb10⟩
      have HB10 := Lib.hid (HB9.out.trans (hb10.mono HB9.out.size))
      have HO10 := Lib.hid (HO9.out.kept hb10)
      have HRS10 := Lib.hid (HRS9.out.kept hb10)
      have HYS10 := Lib.hid (HYS.out.kept hb10)
      clear hb10 HCH d0 d1 d2 d3 d4 d5 d6 HB9 HO9 HRS9 HYS
      go_wp2_with fail
      go_loopw [11] (fun i wx => ∃ k : Nat, k ≤ N ∧ i = .int .i64 k ∧ Below w10.heap.size w10 wx) (fun i _ => N - (intOf i).toNat)
      case atStart => exact ⟨0, by omega, rfl, Below.refl _ _⟩
      case round =>
        obtain ⟨k, hk, rfl, hbk⟩ := hrel
        have HBK := Lib.hid hbk
        by_cases hlt : k < N
        · have hki : (k : Int) < (N : Int) := by omega
          have hkl : k < E.length := by rw [HN.out]; exact hlt
          obtain ⟨x, hx⟩ : ∃ x, E[k]? = some x := ⟨_, List.getElem?_eq_getElem hkl⟩
          obtain ⟨b1, o1, rfl, hb1, j0, j1, j2, j3⟩ := (HYS10.out.kept hbk).four hlt hx
          obtain ⟨b2, o2, rfl, hb2, k0, k1, k2, k3⟩ := (HRS10.out.kept hbk).four hlt hx
          have J0 : ∀ z : Kin wr.drew, z.world.cell? ⟨b1, o1 + k * 4, none⟩ = some (.int .i64 x.m) := fun z => Kin.at (w := wr.drew) j0 z
          have J1 : ∀ z : Kin wr.drew, z.world.cell? ⟨b1, o1 + k * 4 + 1, none⟩ = some (.bool x.y) := fun z => Kin.at (w := wr.drew) j1 z
          have J2 : ∀ z : Kin wr.drew, z.world.cell? ⟨b1, o1 + k * 4 + 2, none⟩ = some (.int .i64 x.t) := fun z => Kin.at (w := wr.drew) j2 z
          have J3 : ∀ z : Kin wr.drew, z.world.cell? ⟨b1, o1 + k * 4 + 3, none⟩ = some (.int .i64 x.b) := fun z => Kin.at (w := wr.drew) j3 z
          have L0 : ∀ z : Kin wr.drew, z.world.cell? ⟨b2, o2 + k * 4, none⟩ = some (.int .i64 x.m) := fun z => Kin.at (w := wr.drew) k0 z
          have L1 : ∀ z : Kin wr.drew, z.world.cell? ⟨b2, o2 + k * 4 + 1, none⟩ = some (.bool x.y) := fun z => Kin.at (w := wr.drew) k1 z
          have L2 : ∀ z : Kin wr.drew, z.world.cell? ⟨b2, o2 + k * 4 + 2, none⟩ = some (.int .i64 x.t) := fun z => Kin.at (w := wr.drew) k2 z
          have L3 : ∀ z : Kin wr.drew, z.world.cell? ⟨b2, o2 + k * 4 + 3, none⟩ = some (.int .i64 x.b) := fun z => Kin.at (w := wr.drew) k3 z
          clear hbk hx hkl j0 j1 j2 j3 k0 k1 k2 k3 hb1 hb2
          go_upto_region 16 with (fail)
          refine wp_region_specL 9 [.d (.slice (some ⟨b1, o1, none⟩) N yd), .d (.int .i64 k), .d (.pointer (some ⟨b1, o1 + k * 4, none⟩)), .d (.agg #[.int .i64 x.m, .bool x.y, .int .i64 x.t, .int .i64 x.b]), .d (.slice (some ⟨b2, o2, none⟩) N rd), .d (.int .i64 k), .d (.pointer (some ⟨b2, o2 + k * 4, none⟩)), .d (.agg #[.int .i64 x.m, .bool x.y, .int .i64 x.t, .int .i64 x.b]), .d (.bool false)] (by kernel_rfl) (by kernel_rfl) ?_
          refine spec_d rfl (fun x _ => gives_run (by go_simp)) ?_
          try simp only [Act.put, List.getElem_toArray, List.getElem_cons_succ, List.getElem_cons_zero, List.setIfInBounds_toArray, List.set_cons_zero, List.set_cons_succ]
          refine spec_d rfl (fun x _ => gives_run (by go_simp)) ?_
          try simp only [Act.put, List.getElem_toArray, List.getElem_cons_succ, List.getElem_cons_zero, List.setIfInBounds_toArray, List.set_cons_zero, List.set_cons_succ]
          refine spec_d rfl (fun x _ => gives_run (by go_simp)) ?_
          try simp only [Act.put, List.getElem_toArray, List.getElem_cons_succ, List.getElem_cons_zero, List.setIfInBounds_toArray, List.set_cons_zero, List.set_cons_succ]
          refine spec_d rfl (fun x _ => gives_run (by go_simp)) ?_
          try simp only [Act.put, List.getElem_toArray, List.getElem_cons_succ, List.getElem_cons_zero, List.setIfInBounds_toArray, List.set_cons_zero, List.set_cons_succ]
          refine spec_d rfl (fun x _ => gives_run (by go_simp)) ?_
          try simp only [Act.put, List.getElem_toArray, List.getElem_cons_succ, List.getElem_cons_zero, List.setIfInBounds_toArray, List.set_cons_zero, List.set_cons_succ]
          refine spec_d rfl (fun x _ => gives_run (by go_simp)) ?_
          try simp only [Act.put, List.getElem_toArray, List.getElem_cons_succ, List.getElem_cons_zero, List.setIfInBounds_toArray, List.set_cons_zero, List.set_cons_succ]
          refine spec_d rfl (fun x _ => gives_run (by go_simp)) ?_
          try simp only [Act.put, List.getElem_toArray, List.getElem_cons_succ, List.getElem_cons_zero, List.setIfInBounds_toArray, List.set_cons_zero, List.set_cons_succ]
          refine spec_d rfl (fun x _ => gives_run (by go_simp)) ?_
          try simp only [Act.put, List.getElem_toArray, List.getElem_cons_succ, List.getElem_cons_zero, List.setIfInBounds_toArray, List.set_cons_zero, List.set_cons_succ]
          refine spec_d rfl (fun x _ => gives_run (by go_simp)) ?_
          try simp only [Act.put, List.getElem_toArray, List.getElem_cons_succ, List.getElem_cons_zero, List.setIfInBounds_toArray, List.set_cons_zero, List.set_cons_succ]
          refine spec_end (fun z hz => ?_)
          clear hz
          refine wpAny_done (by kernel_rfl) ?_ _
          have HBZ := Lib.hid (HBK.out.trans (((bel_drew wr).trans z.below).mono HBK.out.size))
          clear J0 J1 J2 J3 L0 L1 L2 L3
          generalize z.world = wz at HBZ ⊢
          clear z
          go_wp2
          go_roundw
          case rel => exact ⟨k + 1, by omega, by go_num, HBZ.out⟩
          case measure => simp [intOf]; omega
        · have hke : N = k := by omega
          subst hke
          have HB11 := Lib.hid (HB10.out.trans (hbk.mono HB10.out.size))
          have HO11 := Lib.hid (HO10.out.kept hbk)
          have f0 := HO11.out.cell 0
          have f5 := HO11.out.cell 5
          simp at f0 f5
          have d0 := (HOB.out _ HB11.out).cell 0
          have d5 := (HOB.out _ HB11.out).cell 5
          simp at d0 d5
          obtain ⟨_, hfk, _, _, _, hfn, _⟩ | ⟨hne, _⟩ := HFP.out
          rotate_left
          · exact absurd rfl hne
          rw [hfk] at f0
          rw [hfn] at f5
          clear hbk
          go_wp2_with fail
          refine (one_any _).mono ?_
          rintro e w12 ⟨rfl, hb12⟩
          have HB12 := Lib.hid (HB11.out.trans (hb12.mono HB11.out.size))
          clear hb12 f0 f5 d0 d5
          go_wp2
          go_ret
          exact ⟨rfl, HB1.out.trans (HB12.out.mono HB1.out.size)⟩
    · have hrb : (r == 0) = false := by simpa using hr
      have hrn : (r != 0) = true := by simpa using hr
      have HRN := Lib.hid hr
      clear hr
      as_aux_lemma =>
      obtain ⟨wn, HWE⟩ : ∃ wn, wn = r := ⟨_, rfl⟩
      have HCK : Hid ((if rightF kd fm ln fr n md ≠ 0 then rightF kd fm ln fr n md else chkA md [] ls) = r) := Lib.hid (by rw [HR.out, if_pos HRN.out])
      clear HWE wn
      obtain ⟨w5, HW5⟩ : ∃ w5, w5 = w4 := ⟨_, rfl⟩
      rw [← HW5] at HB34 HB4 ⊢
      have HB35 := HB34
      have HB5 := HB4
      clear HW5 HB4 HB34
      have HFT := Lib.hid (fit_any kd fm fy ln fr A n c B m d xs ls md w5 (HPA.out _ HB5.out) hn400 (HSL.out _ HB5.out) (by omega) hmd)
      rw [HE.out, HR.out] at HFT
      have d0 := (HOB.out _ HB5.out).cell 0
      have d1 := (HOB.out _ HB5.out).cell 1
      have d2 := (HOB.out _ HB5.out).cell 2
      have d3 := (HOB.out _ HB5.out).cell 3
      have d4 := (HOB.out _ HB5.out).cell 4
      have d5 := (HOB.out _ HB5.out).cell 5
      have d6 := (HOB.out _ HB5.out).cell 6
      simp at d0 d1 d2 d3 d4 d5 d6
      go_wp2_with fail
      refine HFT.out.mono ?_
      rintro e w6 ⟨f, FB, fd, rfl, HFP, HFL, HFS, HFD, hb6⟩
      have HB6 := Lib.hid (HB5.out.trans (hb6.out.mono HB5.out.size))
      have HB36 := Lib.hid (HB35.out.trans (hb6.out.mono HB35.out.size))
      clear hb6 HFT HFL HB5 HB35 d0 d1 d2 d3 d4 d5 d6
      obtain ⟨N, HN⟩ : ∃ N, Hid (E.length = N) := ⟨_, Lib.hid rfl⟩
      rw [HN.out] at HFS HFD HEL ⊢
      have hN60 := HEL.out
      go_upto_region 9 with (fail)
      obtain ⟨gx, HGX⟩ : ∃ gx, Hid (w6.heap.size = gx) := ⟨_, Lib.hid rfl⟩
      obtain ⟨W7, HW7⟩ : ∃ W7, Hid (W7 = w6.alloc (.cells (f.cells (.slice FB N fd)) TC)) := ⟨_, Lib.hid rfl⟩
      have HB67 : Hid (Below w6.heap.size w6 W7) := Lib.hid (by rw [HW7.out]; exact bel1 _ _)
      have HOX : Hid (Obj1 W7 gx TC (f.cells (.slice FB N fd))) := Lib.hid (by rw [HW7.out, ← HGX.out]; exact Obj1.new _ _ _)
      have HB7 := Lib.hid (HB6.out.trans (HB67.out.mono HB6.out.size))
      have HB37 := Lib.hid (HB36.out.trans (HB67.out.mono HB36.out.size))
      have HFS7 := Lib.hid (HFS.out.kept HB67.out)
      have hw7 := HW7.out
      change Code.wp _ _ _ _ (w6.alloc (.cells (f.cells (.slice FB N fd)) TC)) at *
      rw [← hw7, HGX.out]
      clear hw7 HW7 HGX HB67 HB6 HB36 HFS
      have HRF := Lib.hid (rfit_any md OB m od ls W7 (HOS3.out _ HB37.out) (by omega))
      rw [HE.out, HN.out] at HRF
      go_wp2_with fail
      refine HRF.out.mono ?_
      rintro e w8 ⟨v8, rfl, HR8, hb8⟩
      obtain ⟨RB, rd, rfl, _, hs8⟩ := sls_own HR8.out HN.out
      have HB8 := Lib.hid (HB7.out.trans (hb8.out.mono HB7.out.size))
      have HFS8 := Lib.hid (HFS7.out.kept hb8.out)
      have HO8 := Lib.hid (HOX.out.kept hb8.out)
      have HRS8 := Lib.hid hs8
      clear hb8 HR8 HRF hs8 HB7 HFS7 HOX HB37
      have HO2 := Lib.hid (own_any FB N fd E w8 HFS8.out (by omega))
      have q6 := HO8.out.cell 6
      simp at q6
      go_wp2_with fail
      refine HO2.out.mono ?_
      rintro e w9 ⟨YB, yd, rfl, HYS, HYD, hb9⟩
      have HB9 := Lib.hid (HB8.out.trans (hb9.out.mono HB8.out.size))
      have HO9 := Lib.hid (HO8.out.kept hb9.out)
      have HRS9 := Lib.hid (HRS8.out.kept hb9.out)
      clear hb9 HO2 q6 HB8 HO8 HRS8 HFS8
      have HCH := Lib.hid (check_any kd fm fy ln fr A n c B m d ls md w9 (HSL.out _ HB9.out) (by omega) (by omega) hmd)
      rw [HCK.out] at HCH
      have d0 := (HOB.out _ HB9.out).cell 0
      have d1 := (HOB.out _ HB9.out).cell 1
      have d2 := (HOB.out _ HB9.out).cell 2
      have d3 := (HOB.out _ HB9.out).cell 3
      have d4 := (HOB.out _ HB9.out).cell 4
      have d5 := (HOB.out _ HB9.out).cell 5
      have d6 := (HOB.out _ HB9.out).cell 6
      simp at d0 d1 d2 d3 d4 d5 d6
      go_wp2_with fail
      refine HCH.out.mono ?_
      rintro e w10 ⟨rfl, hb10⟩
      have HB10 := Lib.hid (HB9.out.trans (hb10.mono HB9.out.size))
      have HO10 := Lib.hid (HO9.out.kept hb10)
      have HRS10 := Lib.hid (HRS9.out.kept hb10)
      have HYS10 := Lib.hid (HYS.out.kept hb10)
      clear hb10 HCH d0 d1 d2 d3 d4 d5 d6 HB9 HO9 HRS9 HYS
      go_wp2_with fail
      go_loopw [11] (fun i wx => ∃ k : Nat, k ≤ N ∧ i = .int .i64 k ∧ Below w10.heap.size w10 wx) (fun i _ => N - (intOf i).toNat)
      case atStart => exact ⟨0, by omega, rfl, Below.refl _ _⟩
      case round =>
        obtain ⟨k, hk, rfl, hbk⟩ := hrel
        have HBK := Lib.hid hbk
        by_cases hlt : k < N
        · have hki : (k : Int) < (N : Int) := by omega
          have hkl : k < E.length := by rw [HN.out]; exact hlt
          obtain ⟨x, hx⟩ : ∃ x, E[k]? = some x := ⟨_, List.getElem?_eq_getElem hkl⟩
          obtain ⟨b1, o1, rfl, hb1, j0, j1, j2, j3⟩ := (HYS10.out.kept hbk).four hlt hx
          obtain ⟨b2, o2, rfl, hb2, k0, k1, k2, k3⟩ := (HRS10.out.kept hbk).four hlt hx
          have J0 : ∀ z : Kin wr.drew, z.world.cell? ⟨b1, o1 + k * 4, none⟩ = some (.int .i64 x.m) := fun z => Kin.at (w := wr.drew) j0 z
          have J1 : ∀ z : Kin wr.drew, z.world.cell? ⟨b1, o1 + k * 4 + 1, none⟩ = some (.bool x.y) := fun z => Kin.at (w := wr.drew) j1 z
          have J2 : ∀ z : Kin wr.drew, z.world.cell? ⟨b1, o1 + k * 4 + 2, none⟩ = some (.int .i64 x.t) := fun z => Kin.at (w := wr.drew) j2 z
          have J3 : ∀ z : Kin wr.drew, z.world.cell? ⟨b1, o1 + k * 4 + 3, none⟩ = some (.int .i64 x.b) := fun z => Kin.at (w := wr.drew) j3 z
          have L0 : ∀ z : Kin wr.drew, z.world.cell? ⟨b2, o2 + k * 4, none⟩ = some (.int .i64 x.m) := fun z => Kin.at (w := wr.drew) k0 z
          have L1 : ∀ z : Kin wr.drew, z.world.cell? ⟨b2, o2 + k * 4 + 1, none⟩ = some (.bool x.y) := fun z => Kin.at (w := wr.drew) k1 z
          have L2 : ∀ z : Kin wr.drew, z.world.cell? ⟨b2, o2 + k * 4 + 2, none⟩ = some (.int .i64 x.t) := fun z => Kin.at (w := wr.drew) k2 z
          have L3 : ∀ z : Kin wr.drew, z.world.cell? ⟨b2, o2 + k * 4 + 3, none⟩ = some (.int .i64 x.b) := fun z => Kin.at (w := wr.drew) k3 z
          clear hbk hx hkl j0 j1 j2 j3 k0 k1 k2 k3 hb1 hb2
          go_upto_region 16 with (fail)
          refine wp_region_specL 9 [.d (.slice (some ⟨b1, o1, none⟩) N yd), .d (.int .i64 k), .d (.pointer (some ⟨b1, o1 + k * 4, none⟩)), .d (.agg #[.int .i64 x.m, .bool x.y, .int .i64 x.t, .int .i64 x.b]), .d (.slice (some ⟨b2, o2, none⟩) N rd), .d (.int .i64 k), .d (.pointer (some ⟨b2, o2 + k * 4, none⟩)), .d (.agg #[.int .i64 x.m, .bool x.y, .int .i64 x.t, .int .i64 x.b]), .d (.bool false)] (by kernel_rfl) (by kernel_rfl) ?_
          refine spec_d rfl (fun x _ => gives_run (by go_simp)) ?_
          try simp only [Act.put, List.getElem_toArray, List.getElem_cons_succ, List.getElem_cons_zero, List.setIfInBounds_toArray, List.set_cons_zero, List.set_cons_succ]
          refine spec_d rfl (fun x _ => gives_run (by go_simp)) ?_
          try simp only [Act.put, List.getElem_toArray, List.getElem_cons_succ, List.getElem_cons_zero, List.setIfInBounds_toArray, List.set_cons_zero, List.set_cons_succ]
          refine spec_d rfl (fun x _ => gives_run (by go_simp)) ?_
          try simp only [Act.put, List.getElem_toArray, List.getElem_cons_succ, List.getElem_cons_zero, List.setIfInBounds_toArray, List.set_cons_zero, List.set_cons_succ]
          refine spec_d rfl (fun x _ => gives_run (by go_simp)) ?_
          try simp only [Act.put, List.getElem_toArray, List.getElem_cons_succ, List.getElem_cons_zero, List.setIfInBounds_toArray, List.set_cons_zero, List.set_cons_succ]
          refine spec_d rfl (fun x _ => gives_run (by go_simp)) ?_
          try simp only [Act.put, List.getElem_toArray, List.getElem_cons_succ, List.getElem_cons_zero, List.setIfInBounds_toArray, List.set_cons_zero, List.set_cons_succ]
          refine spec_d rfl (fun x _ => gives_run (by go_simp)) ?_
          try simp only [Act.put, List.getElem_toArray, List.getElem_cons_succ, List.getElem_cons_zero, List.setIfInBounds_toArray, List.set_cons_zero, List.set_cons_succ]
          refine spec_d rfl (fun x _ => gives_run (by go_simp)) ?_
          try simp only [Act.put, List.getElem_toArray, List.getElem_cons_succ, List.getElem_cons_zero, List.setIfInBounds_toArray, List.set_cons_zero, List.set_cons_succ]
          refine spec_d rfl (fun x _ => gives_run (by go_simp)) ?_
          try simp only [Act.put, List.getElem_toArray, List.getElem_cons_succ, List.getElem_cons_zero, List.setIfInBounds_toArray, List.set_cons_zero, List.set_cons_succ]
          refine spec_d rfl (fun x _ => gives_run (by go_simp)) ?_
          try simp only [Act.put, List.getElem_toArray, List.getElem_cons_succ, List.getElem_cons_zero, List.setIfInBounds_toArray, List.set_cons_zero, List.set_cons_succ]
          refine spec_end (fun z hz => ?_)
          clear hz
          refine wpAny_done (by kernel_rfl) ?_ _
          have HBZ := Lib.hid (HBK.out.trans (((bel_drew wr).trans z.below).mono HBK.out.size))
          clear J0 J1 J2 J3 L0 L1 L2 L3
          generalize z.world = wz at HBZ ⊢
          clear z
          go_wp2
          go_roundw
          case rel => exact ⟨k + 1, by omega, by go_num, HBZ.out⟩
          case measure => simp [intOf]; omega
        · have hke : N = k := by omega
          subst hke
          have HB11 := Lib.hid (HB10.out.trans (hbk.mono HB10.out.size))
          have HO11 := Lib.hid (HO10.out.kept hbk)
          have f0 := HO11.out.cell 0
          have f5 := HO11.out.cell 5
          simp at f0 f5
          have d0 := (HOB.out _ HB11.out).cell 0
          have d5 := (HOB.out _ HB11.out).cell 5
          simp at d0 d5
          have hfk : f.kd = 0 := by
            rcases HFP.out with ⟨h, _⟩ | ⟨_, h, _⟩
            · exact absurd h HRN.out
            · exact h
          rw [hfk] at f0
          clear hbk
          go_wp2_with fail
          refine (one_any _).mono ?_
          rintro e w12 ⟨rfl, hb12⟩
          have HB12 := Lib.hid (HB11.out.trans (hb12.mono HB11.out.size))
          clear hb12 f0 f5 d0 d5
          go_wp2
          go_ret
          exact ⟨rfl, HB1.out.trans (HB12.out.mono HB1.out.size)⟩
theorem walk (cs : Array Value) (md : Int) (w : World) (hr : Reads w shC cs.toList) (b0 : -9223372036854775808 ≤ md) (b1 : md ≤ 9223372036854775807) :
    Calls Try.prog 3 #[.agg cs, .int .i64 md] w fun e w' => e = .returned (.bool true) ∧ Below w.heap.size w w' := by
  obtain ⟨kd, fm, fy, ln, fr, A, n, c, B, m, d, xs, ls, rfl, hA, hW, hn, hm, _⟩ := course_in hr
  exact walk_yes kd fm fy ln fr A n c B m d xs ls md w hA hW hn hm b1

set_option maxRecDepth 100000 in
theorem lifted (os : Os) (started : os.Started) (H : Type) (enc : TypeId × Value → H) :
    ReturnsInHanded {} Try.checked os 3 .any (Rows.budgetChecksSpec.pre6 enc Try.prog Try.f3 Rows.budgetChecksRow.domain false) (Rows.budgetChecksSpec.post enc Try.prog Try.f3 false true false false) := by
  refine returnsInHanded_of_change (C := Try.checked) own started (by kernel_rfl) Try.func3
    (ChangeSpec.witness6 (enc := enc) (C := Try.checked) false ⟨#[], #[.agg #[.int .i64 0, .int .i64 0, .bool false, .int .i64 0, .int .i64 0, .slice none 0 0, .slice none 0 0], .int .i64 0], []⟩ 8 (by kernel_rfl) (by kernel_rfl) (by kernel_rfl) (by kernel_rfl)) ?_
  intro W base args ds gs before hval0 hW hcnd _
  have hval : ∀ (j : Nat) t v, Try.f3.params[j]? = some t → args[j]? = some v → Value.okWide Try.prog W .any base t v := hval0
  have hW' := hW
  obtain ⟨p, q, hA0, hV, rfl, hfz, hnd⟩ := hW
  have hA : DataW.TrodAll enc Try.prog W 0 (fun _ => true) true Try.f3.params.toList args.toList ds p := hA0
  rw [Try.params3] at hA hval
  obtain ⟨v0, vs0, d0, ds0, p0, q0, hargs, rfl, rfl, h0, r0⟩ := trodAll_cons hA
  obtain ⟨v1, vs1, d1, ds1, p1, q1, rfl, rfl, rfl, h1, r1⟩ := trodAll_cons r0
  obtain ⟨rfl, rfl, rfl⟩ := trodAll_nil r1
  obtain rfl : args = #[v0, v1] := by cases args; simp_all
  obtain ⟨rfl, rfl⟩ := trodVars_none hV
  have k0 := h0
  have lt0 : ∀ x ∈ p0, x.block < W.heap.size := by obtain ⟨m, hm⟩ := k0; exact DataW.trod_lt m _ _ _ hm
  obtain ⟨c, rfl⟩ := okWide_agg (by first | exact .inl ⟨_, Try.underlying27⟩ | exact .inr ⟨_, _, Try.underlying27⟩) (hval 0 27 v0 rfl rfl)
  have rd0 := reads_cells (sh := shC) 30 (by kernel_rfl) k0
  obtain ⟨modules, rfl, rfl, rfl, wf1⟩ := open_int Try.underlying3 (hval 1 3 v1 rfl rfl) h1
  have bd1 := bounds_i64 wf1
  clear hA0 hval0
  refine (walk c modules W rd0 bd1.1 bd1.2).mono fun e W' ⟨he, bel⟩ => ?_
  subst he
  exact ⟨_, rfl, _, _, _, [], _, [], hW', trodAll_mk1 (shut_bool Try.underlying4 _), (trodAll_cons_mk (Below.trod laidOut (by kernel_rfl) (of_decide_eq_true (by kernel_rfl)) k0 bel lt0) (trodAll_cons_mk (shut_int Try.underlying3 wf1) trodAll_mk0)), rfl, bel.frame _, fun h => by cases h⟩

theorem over : Rows.budgetChecksRow.holds Try.pinned (OpenSpec.ofChange Rows.budgetChecksSpec) :=
  OpenClaim.holds_of_wide 3 Try.f3 rfl rfl rfl rfl rfl rfl rfl ⟨rfl, rfl, rfl, rfl, rfl⟩ rfl rfl rfl rfl rfl (by kernel_rfl) Try.func3 (by kernel_rfl)
    (of_decide_eq_true (by kernel_rfl)) (by unfold Func.isWrapper; first | (rw [if_pos (by decide +kernel)]; kernel_rfl) | (rw [if_neg (by decide +kernel)]; exact ⟨rfl, rfl⟩))
    (fun os started H enc _ => lifted os started H enc)

/-- The statement. -/
theorem proved : Rows.BudgetChecksSaid := over
end Go.Proofs.Ytejhjpdcodloaaa.lawBudgetChecks
