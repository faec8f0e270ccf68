/- Any schedule may be, or has the document's first fault, and each of its windows the document's code: for every schedule; no condition. -/
import Derived.RegionTactic
import Derived.IntWalk
import Derived.Deep.DeepCutAuto
import Derived.Deep.CutBlock
import Derived.Test.YtkdmcnkahiimoaaPlnI
import Derived.Test.YtkdmcnkahiimoaaPlnJ
import Derived.Test.YtkdmcnkahiimoaaVldD
import Derived.Test.YtkdmcnkahiimoaaVldL
import Derived.Test.YtkdmcnkahiimoaaRows
import Derived.WalkKit
import Derived.ProofKit
import Derived.OpenShut
import Derived.ShutString
import Derived.ChangeOld
import Derived.Below
namespace Go.Proofs.Ytkdmcnkahiimoaa.lawValidChecks
open Go.ChangeShapes Go.WideShapes Go.ChangeAt Go.RowKit Base
open Go.ChangeMaps (open_string shut_string)
set_option linter.unusedVariables false
set_option linter.unusedSimpArgs false
theorem own : ownKnob Try.prog.godebug = none := by kernel_rfl
theorem laidOut : laidOutB Try.prog = true := by kernel_rfl
open Ly7

def WSp (n : Nat) (ws : List Wd) : Sp := fun v w => ∃ B d, v = .slice B n d ∧ WinsAt w B n ws
theorem WSp.stable (n : Nat) (ws : List Wd) : Stable (WSp n ws) := fun v a b ⟨B, d, e, h⟩ hb => ⟨B, d, e, h.kept hb⟩
theorem WSp.ex {n : Nat} {ws : List Wd} {w : World} {A : Option Addr} (c : Nat) (h : WinsAt w A n ws) : ∃ v, ∃ x : Kin w, WSp n ws v x.world := ⟨.slice A n c, Kin.me _, A, c, rfl, h⟩
theorem WSp.at {n d : Nat} {ws : List Wd} {B : Option Addr} {w : World} (h : WSp n ws (.slice B n d) w) : WinsAt w B n ws := by
  obtain ⟨B', d', e, h⟩ := h
  injection e with e1 e2 e3
  subst e1
  exact h
def W2Sp (n m : Nat) (ws us : List Wd) : Sp := fun v w => ∃ B d C e, v = .agg #[.slice B n d, .slice C m e] ∧ WinsAt w B n ws ∧ WinsAt w C m us
theorem W2Sp.stable (n m : Nat) (ws us : List Wd) : Stable (W2Sp n m ws us) := fun v a b ⟨B, d, C, e, q, h, k⟩ hb => ⟨B, d, C, e, q, h.kept hb, k.kept hb⟩
theorem W2Sp.ex {n m : Nat} {ws us : List Wd} {w : World} {A C : Option Addr} (c e : Nat) (h : WinsAt w A n ws) (k : WinsAt w C m us) : ∃ v, ∃ x : Kin w, W2Sp n m ws us v x.world := ⟨_, Kin.me _, A, c, C, e, rfl, h, k⟩
theorem W2Sp.at {n m d e : Nat} {ws us : List Wd} {B C : Option Addr} {w : World} (h : W2Sp n m ws us (.agg #[.slice B n d, .slice C m e]) w) : WinsAt w B n ws ∧ WinsAt w C m us := by
  obtain ⟨B', d', C', e', q, h, k⟩ := h
  simp at q
  obtain ⟨⟨rfl, rfl⟩, rfl, rfl⟩ := q
  exact ⟨h, k⟩
set_option maxRecDepth 100000 in
set_option maxHeartbeats 4000000 in
theorem walk_yes (md : Int) (A0 : Option Addr) (n0 c0 : Nat) (A1 : Option Addr) (n1 c1 : Nat) (ws0 ws1 : List Wd) (w : World) (hmd : md ≤ 9223372036854775807) (hW0 : WinsAt w A0 n0 ws0) (hW1 : WinsAt w A1 n1 ws1) (h0 : n0 ≤ 9223372036854775807) (h1 : n1 ≤ 9223372036854775807) :
    Calls Try.prog 6 #[.agg #[.int .i64 md, .slice A0 n0 c0, .slice A1 n1 c1]] w fun e w' => e = .returned (.bool true) ∧ Below w.heap.size w w' := by
  obtain ⟨gb, HGB⟩ : ∃ gb, Hid (w.heap.size = gb) := ⟨_, Lib.hid rfl⟩
  obtain ⟨W1, HW1⟩ : ∃ W1, W1 = w.alloc (.cells #[.int .i64 md, .slice A0 n0 c0, .slice A1 n1 c1] 25) := ⟨_, rfl⟩
  have HB1 : Hid (Below w.heap.size w W1) := Lib.hid (by rw [HW1]; exact bel1 _ _)
  have HOB : Hid (Obj1 W1 gb 25 #[.int .i64 md, .slice A0 n0 c0, .slice A1 n1 c1]) := Lib.hid (by rw [HW1, ← HGB.out]; exact Obj1.new _ _ _)
  have HF := Lib.hid (few_any md A0 n0 c0 A1 n1 c1 ws0 ws1 W1 (hW0.kept HB1.out) (hW1.kept HB1.out) h0 h1)
  have HWW : Hid (∀ W, Below W1.heap.size W1 W → WinsAt W A0 n0 ws0 ∧ WinsAt W A1 n1 ws1) := Lib.hid (fun W hB => ⟨hW0.kept (HB1.out.trans (hB.mono HB1.out.size)), hW1.kept (HB1.out.trans (hB.mono HB1.out.size))⟩)
  clear hW0 hW1 h0 h1
  have d0 : W1.cell? ⟨gb, 0, none⟩ = some (.int .i64 md) := HOB.out.cell 0
  have d1 : W1.cell? ⟨gb, 1, none⟩ = some (.slice A0 n0 c0) := HOB.out.cell 1
  have d2 : W1.cell? ⟨gb, 2, none⟩ = some (.slice A1 n1 c1) := HOB.out.cell 2
  go_enter Try.func6, Try.ntmps6
  go_upto_region 1 with (fail)
  rw [← HW1, HGB.out]
  clear HW1
  go_wp2_with fail
  refine HF.out.mono ?_
  rintro e w2 ⟨r, rfl, hr, hb2⟩
  have HB2 := Lib.hid hb2
  clear hb2 d0 d1 d2 HF
  rcases hr with rfl | ⟨rfl, hf0, hf1⟩
  · go_wp2
    go_ret
    exact ⟨rfl, HB1.out.trans (HB2.out.mono HB1.out.size)⟩
  · have HF0 := Lib.hid hf0
    have HF1 := Lib.hid hf1
    have hn0 : n0 ≤ 60 := hf0.1
    have hn1 : n1 ≤ 60 := hf1.1
    obtain ⟨v, j, cc, hck⟩ := chk_ex (winI md) md ws0 ws1
    have HS0 : Hid (Says (winI md) md ws0) := Lib.hid (says_win hmd hf0)
    have HS1 : Hid (Says (winI md) md ws1) := Lib.hid (says_win hmd hf1)
    have HRC : Hid (∀ (W : World) B d C e, WinsAt W B n0 ws0 → WinsAt W C n1 ws1 → Calls Try.prog 21 #[.int .i64 md, .agg #[.slice B n0 d, .slice C n1 e]] W fun e w' => e = .returned (.tuple #[.int .i64 v, .int .i64 j, .int .i64 cc]) ∧ Below W.heap.size W w') := Lib.hid (fun W B d C e hB hC => by
      refine (rcheck_any (winI md) md B n0 d C n1 e ws0 ws1 W hB hC (by omega) (by omega) saysr_win saysr_win).mono ?_
      rintro e w' ⟨v', j', c', rfl, h, hb⟩
      obtain ⟨rfl, rfl, rfl⟩ := chk_uniq h hck
      exact ⟨rfl, hb⟩)
    have HCH : Hid (∀ W, Below W1.heap.size W1 W → Calls Try.prog 22 #[.agg #[.int .i64 md, .slice A0 n0 c0, .slice A1 n1 c1]] W fun e w' => e = .returned (.agg #[.int .i64 v, .int .i64 j, .int .i64 cc]) ∧ Below W.heap.size W w') := Lib.hid (fun W hB => by
      refine (check_any (winI md) md A0 n0 c0 A1 n1 c1 ws0 ws1 W (HWW.out W hB).1 (HWW.out W hB).2 (by omega) (by omega) HS0.out HS1.out).mono ?_
      rintro e w' ⟨v', j', c', rfl, h, hb⟩
      obtain ⟨rfl, rfl, rfl⟩ := chk_uniq h hck
      exact ⟨rfl, hb⟩)
    have HSR0 : Hid (SaysR (winI md) md ws0) := Lib.hid saysr_win
    have HSR1 : Hid (SaysR (winI md) md ws1) := Lib.hid saysr_win
    have HO2 := Lib.hid (HOB.out.kept HB2.out)
    have X0 : ∀ z : Kin w2.drew, Obj1 z.world gb 25 #[.int .i64 md, .slice A0 n0 c0, .slice A1 n1 c1] := fun z => (HO2.out.drew).kept z.below
    have K0 : ∀ z : Kin w2.drew, z.world.cell? ⟨gb, 0, none⟩ = some (.int .i64 md) := fun z => (X0 z).cell 0
    have K1 : ∀ z : Kin w2.drew, z.world.cell? ⟨gb, 1, none⟩ = some (.slice A0 n0 c0) := fun z => (X0 z).cell 1
    have K2 : ∀ z : Kin w2.drew, z.world.cell? ⟨gb, 2, none⟩ = some (.slice A1 n1 c1) := fun z => (X0 z).cell 2
    have HKZ : Hid (∀ z : Kin w2.drew, Below W1.heap.size W1 z.world) := Lib.hid (fun z => HB2.out.trans (((bel_drew w2).trans z.below).mono HB2.out.size))
    have HW0 : Hid (∀ z : Kin w2.drew, Calls Try.prog 14 #[.slice A0 n0 c0] z.world fun e w' => ∃ v, e = .returned v ∧ Below z.world.heap.size z.world w' ∧ WSp n0 ws0 v w') := Lib.hid (fun z => (own_any A0 n0 c0 ws0 z.world (HWW.out _ (HKZ.out z)).1 (by omega)).mono (fun e w' ⟨B, d, he, hw, hb⟩ => ⟨_, he, hb.out, B, d, rfl, hw.out⟩))
    have HW1 : Hid (∀ z : Kin w2.drew, Calls Try.prog 14 #[.slice A1 n1 c1] z.world fun e w' => ∃ v, e = .returned v ∧ Below z.world.heap.size z.world w' ∧ WSp n1 ws1 v w') := Lib.hid (fun z => (own_any A1 n1 c1 ws1 z.world (HWW.out _ (HKZ.out z)).2 (by omega)).mono (fun e w' ⟨B, d, he, hw, hb⟩ => ⟨_, he, hb.out, B, d, rfl, hw.out⟩))
    have HD2 := Lib.hid (HWW.out w2.drew (HKZ.out (Kin.me _)))
    clear hf0 hf1 hck hmd
    go_upto_region 3 with (fail)
    refine wp_region_specL 19 [.d (.pointer (some ⟨gb, 0, none⟩)), .d (.int .i64 md), .d (.pointer (some ⟨gb, 1, none⟩)), .d (.pointer (some ⟨gb, 1, none⟩)), .d (.slice A0 n0 c0), .g (WSp n0 ws0), .d (.pointer (some ⟨gb, 1, none⟩)), .d (.pointer (some ⟨gb, 2, none⟩)), .d (.slice A1 n1 c1), .g (WSp n1 ws1), .g (W2Sp n0 n1 ws0 ws1), .d (.tuple #[.int .i64 v, .int .i64 j, .int .i64 cc]), .d (.tuple #[.int .i64 v, .int .i64 j, .int .i64 cc]), .d (.int .i64 v), .d (.int .i64 j), .d (.int .i64 cc), .d (.int .i64 v), .d (.int .i64 j), .d (.int .i64 cc)] (by kernel_rfl) (by kernel_rfl) ?_
    refine spec_d rfl (fun x _ => gives_run (by go_simp)) ?_
    try simp only [Act.put, List.getElem_toArray, List.getElem_cons_succ, List.getElem_cons_zero, List.setIfInBounds_toArray, List.set_cons_zero, List.set_cons_succ]
    refine spec_d rfl (fun x _ => gives_run (by go_simp)) ?_
    try simp only [Act.put, List.getElem_toArray, List.getElem_cons_succ, List.getElem_cons_zero, List.setIfInBounds_toArray, List.set_cons_zero, List.set_cons_succ]
    refine spec_d rfl (fun x _ => gives_run (by go_simp)) ?_
    try simp only [Act.put, List.getElem_toArray, List.getElem_cons_succ, List.getElem_cons_zero, List.setIfInBounds_toArray, List.set_cons_zero, List.set_cons_succ]
    refine spec_d rfl (fun x _ => gives_run (by go_simp)) ?_
    try simp only [Act.put, List.getElem_toArray, List.getElem_cons_succ, List.getElem_cons_zero, List.setIfInBounds_toArray, List.set_cons_zero, List.set_cons_succ]
    refine spec_d rfl (fun x _ => gives_run (by go_simp)) ?_
    try simp only [Act.put, List.getElem_toArray, List.getElem_cons_succ, List.getElem_cons_zero, List.setIfInBounds_toArray, List.set_cons_zero, List.set_cons_succ]
    refine spec_g (WSp.stable _ _) (WSp.ex c0 HD2.out.1) rfl (fun z _ => gives_call (by go_simp) (HW0.out z)) ?_
    rintro v5 ⟨x5, B0, e0, rfl, _⟩
    try simp only [Act.put, List.getElem_toArray, List.getElem_cons_succ, List.getElem_cons_zero, List.setIfInBounds_toArray, List.set_cons_zero, List.set_cons_succ]
    refine spec_d rfl (fun x _ => gives_run (by go_simp)) ?_
    try simp only [Act.put, List.getElem_toArray, List.getElem_cons_succ, List.getElem_cons_zero, List.setIfInBounds_toArray, List.set_cons_zero, List.set_cons_succ]
    refine spec_d rfl (fun x _ => gives_run (by go_simp)) ?_
    try simp only [Act.put, List.getElem_toArray, List.getElem_cons_succ, List.getElem_cons_zero, List.setIfInBounds_toArray, List.set_cons_zero, List.set_cons_succ]
    refine spec_d rfl (fun x _ => gives_run (by go_simp)) ?_
    try simp only [Act.put, List.getElem_toArray, List.getElem_cons_succ, List.getElem_cons_zero, List.setIfInBounds_toArray, List.set_cons_zero, List.set_cons_succ]
    refine spec_g (WSp.stable _ _) (WSp.ex c1 HD2.out.2) rfl (fun z _ => gives_call (by go_simp) (HW1.out z)) ?_
    rintro v6 ⟨x6, B1, e1, rfl, _⟩
    try simp only [Act.put, List.getElem_toArray, List.getElem_cons_succ, List.getElem_cons_zero, List.setIfInBounds_toArray, List.set_cons_zero, List.set_cons_succ]
    refine spec_g (W2Sp.stable _ _ _ _) (W2Sp.ex c0 c1 HD2.out.1 HD2.out.2) rfl (fun z hz => gives_ok (by go_simp) (Below.refl _ _) ⟨B0, e0, B1, e1, rfl, WSp.at (hz _ (List.mem_cons_of_mem _ (List.mem_singleton.2 rfl)) (by kernel_rfl)), WSp.at (hz _ (List.mem_cons_self ..) (by kernel_rfl))⟩) ?_
    rintro v7 ⟨x7, B3, e3, B4, e4, rfl, _, _⟩
    try simp only [Act.put, List.getElem_toArray, List.getElem_cons_succ, List.getElem_cons_zero, List.setIfInBounds_toArray, List.set_cons_zero, List.set_cons_succ]
    refine spec_d rfl (fun z hz => gives_det (by go_simp) (HRC.out z.world B3 e3 B4 e4 (W2Sp.at (hz _ (List.mem_cons_self ..) (by kernel_rfl))).1 (W2Sp.at (hz _ (List.mem_cons_self ..) (by kernel_rfl))).2)) ?_
    try simp only [Act.put, List.getElem_toArray, List.getElem_cons_succ, List.getElem_cons_zero, List.setIfInBounds_toArray, List.set_cons_zero, List.set_cons_succ]
    refine spec_d rfl (fun x _ => gives_run (by go_simp)) ?_
    try simp only [Act.put, List.getElem_toArray, List.getElem_cons_succ, List.getElem_cons_zero, List.setIfInBounds_toArray, List.set_cons_zero, List.set_cons_succ]
    refine spec_d rfl (fun x _ => gives_run (by go_simp)) ?_
    try simp only [Act.put, List.getElem_toArray, List.getElem_cons_succ, List.getElem_cons_zero, List.setIfInBounds_toArray, List.set_cons_zero, List.set_cons_succ]
    refine spec_d rfl (fun x _ => gives_run (by go_simp)) ?_
    try simp only [Act.put, List.getElem_toArray, List.getElem_cons_succ, List.getElem_cons_zero, List.setIfInBounds_toArray, List.set_cons_zero, List.set_cons_succ]
    refine spec_d rfl (fun x _ => gives_run (by go_simp)) ?_
    try simp only [Act.put, List.getElem_toArray, List.getElem_cons_succ, List.getElem_cons_zero, List.setIfInBounds_toArray, List.set_cons_zero, List.set_cons_succ]
    refine spec_d rfl (fun x _ => gives_run (by go_simp)) ?_
    try simp only [Act.put, List.getElem_toArray, List.getElem_cons_succ, List.getElem_cons_zero, List.setIfInBounds_toArray, List.set_cons_zero, List.set_cons_succ]
    refine spec_d rfl (fun x _ => gives_run (by go_simp)) ?_
    try simp only [Act.put, List.getElem_toArray, List.getElem_cons_succ, List.getElem_cons_zero, List.setIfInBounds_toArray, List.set_cons_zero, List.set_cons_succ]
    refine spec_d rfl (fun x _ => gives_run (by go_simp)) ?_
    try simp only [Act.put, List.getElem_toArray, List.getElem_cons_succ, List.getElem_cons_zero, List.setIfInBounds_toArray, List.set_cons_zero, List.set_cons_succ]
    refine spec_end (fun z hz => ?_)
    clear hz
    refine wpAny_done (by kernel_rfl) ?_ _
    have HB3 := Lib.hid (HKZ.out z)
    clear K0 K1 K2 X0 HKZ HW0 HW1 HD2 HO2 HRC
    generalize z.world = w3 at HB3 ⊢
    clear z
    have HO3 := Lib.hid (HOB.out.kept HB3.out)
    have d0 : w3.cell? ⟨gb, 0, none⟩ = some (.int .i64 md) := HO3.out.cell 0
    have d1 : w3.cell? ⟨gb, 1, none⟩ = some (.slice A0 n0 c0) := HO3.out.cell 1
    have d2 : w3.cell? ⟨gb, 2, none⟩ = some (.slice A1 n1 c1) := HO3.out.cell 2
    go_wp2_with fail
    refine (HCH.out w3 HB3.out).mono ?_
    rintro e w4 ⟨rfl, hb4⟩
    have HB4 := Lib.hid (HB3.out.trans (hb4.mono HB3.out.size))
    clear hb4 d0 d1 d2 HCH
    go_upto_region 5 with (fail)
    obtain ⟨gx, HGX⟩ : ∃ gx, Hid (w4.heap.size = gx) := ⟨_, Lib.hid rfl⟩
    obtain ⟨W5, HW5⟩ : ∃ W5, W5 = w4.alloc (.cells #[.int .i64 v, .int .i64 j, .int .i64 cc] TFl) := ⟨_, rfl⟩
    have HOX : Hid (Obj1 W5 gx TFl #[.int .i64 v, .int .i64 j, .int .i64 cc]) := Lib.hid (by rw [HW5, ← HGX.out]; exact Obj1.new _ _ _)
    have HB5 : Hid (Below W1.heap.size W1 W5) := Lib.hid (HB4.out.trans ((show Below w4.heap.size w4 W5 by rw [HW5]; exact bel1 _ _).mono HB4.out.size))
    rw [← HW5, HGX.out]
    clear HW5 HO3 HB4
    go_wp2_with fail
    go_loopw [7] (fun i wx => ∃ k : Nat, k ≤ 2 ∧ i = .int .i64 k ∧ Below W5.heap.size W5 wx) (fun i _ => 2 - (intOf i).toNat)
    case atStart => exact ⟨0, by omega, rfl, Below.refl _ _⟩
    case round =>
      obtain ⟨k, hk, rfl, hbk⟩ := hrel
      have HBK := Lib.hid hbk
      have HBW := Lib.hid (HB5.out.trans (hbk.mono HB5.out.size))
      have HOr := Lib.hid (HOB.out.kept HBW.out)
      have HXr := Lib.hid (HOX.out.kept hbk)
      clear hbk
      rcases (show k = 2 ∨ k = 0 ∨ k = 1 by omega) with rfl | rfl | rfl
      · as_aux_lemma =>
        have o0 := HXr.out.cell 0
        have o1 := HXr.out.cell 1
        have o2 := HXr.out.cell 2
        simp at o0 o1 o2
        go_wp2_with fail
        refine (one8_any _).mono ?_
        rintro e w6 ⟨rfl, hb6⟩
        have HB6 := Lib.hid (HBW.out.trans (hb6.mono HBW.out.size))
        clear hb6 o0 o1 o2
        go_wp2
        go_ret
        exact ⟨rfl, HB1.out.trans (HB6.out.mono HB1.out.size)⟩
      · as_aux_lemma =>
        have d0 := HOr.out.cell 0
        have d1 := HOr.out.cell 1
        have d2 := HOr.out.cell 2
        simp at d0 d1 d2
        go_wp2_with fail
        refine (own_any A0 n0 c0 ws0 _ (HWW.out _ HBW.out).1 (by omega)).mono ?_
        rintro e w6 ⟨B6, d6, rfl, HW6, HB6⟩
        clear d0 d1 d2
        have HBW6 := Lib.hid (HBW.out.trans (HB6.out.mono HBW.out.size))
        have HBK6 := Lib.hid (HBK.out.trans (HB6.out.mono HBK.out.size))
        clear HB6 HBK HBW HOr HXr
        go_wp2_with fail
        go_loopw [9] (fun i wx => ∃ q : Nat, q ≤ n0 ∧ i = .int .i64 q ∧ Below w6.heap.size w6 wx) (fun i _ => n0 - (intOf i).toNat)
        case atStart => exact ⟨0, by omega, rfl, Below.refl _ _⟩
        case round =>
          obtain ⟨q, hq, rfl, hbq⟩ := hrel
          have HBQ := Lib.hid hbq
          have HBWq := Lib.hid (HBW6.out.trans (hbq.mono HBW6.out.size))
          have HOq := Lib.hid (HOB.out.kept HBWq.out)
          clear hbq
          by_cases hlt : q < n0
          · have hqi : (q : Int) < (n0 : Int) := by omega
            have hql : q < ws0.length := by have := (HWW.out _ HBWq.out).1.len; omega
            obtain ⟨x, hx⟩ : ∃ x, ws0[q]? = some x := ⟨_, List.getElem?_eq_getElem hql⟩
            have hmem := List.mem_of_getElem? hx
            obtain ⟨b1, o1, rfl, hb1, j0, j1, j2, j3, j4, j5, hok⟩ := ((HWW.out _ HBWq.out).1).six hlt hx
            obtain ⟨b2, o2, rfl, hb2, k0, k1, k2, k3, k4, k5, hok2⟩ := (HW6.out.kept HBQ.out).six hlt hx
            have HOK : Hid (∀ z : Kin wr.drew, x.Ok z.world) := Lib.hid (fun z => hok.kept ((bel_drew wr).trans z.below))
            have HWA := Lib.hid (fun z : Kin wr.drew => HS0.out x hmem z.world (HOK.out z))
            have HWB := Lib.hid (fun z : Kin wr.drew => HSR0.out x hmem z.world (HOK.out z))
            obtain ⟨G, HG⟩ : ∃ G, Hid (winI md x = G) := ⟨_, Lib.hid rfl⟩
            rw [HG.out] at HWA HWB
            have X0 : ∀ z : Kin wr.drew, Obj1 z.world gb 25 (#[.int .i64 md, .slice (some ⟨b1, o1, none⟩) n0 c0, .slice A1 n1 c1]) := fun z => (HOq.out.drew).kept z.below
            have K0 : ∀ z : Kin wr.drew, z.world.cell? ⟨gb, 0, none⟩ = some (.int .i64 md) := fun z => (X0 z).cell 0
            have K1 : ∀ z : Kin wr.drew, z.world.cell? ⟨gb, 1, none⟩ = some (.slice (some ⟨b1, o1, none⟩) n0 c0) := fun z => (X0 z).cell 1
            have J0 : ∀ z : Kin wr.drew, z.world.cell? ⟨b1, o1 + q * 6, none⟩ = some (.int .i64 x.k) := fun z => Kin.at (w := wr.drew) j0 z
            have J1 : ∀ z : Kin wr.drew, z.world.cell? ⟨b1, o1 + q * 6 + 1, none⟩ = some (.int .i64 x.b) := fun z => Kin.at (w := wr.drew) j1 z
            have J2 : ∀ z : Kin wr.drew, z.world.cell? ⟨b1, o1 + q * 6 + 2, none⟩ = some (.int .i64 x.wd) := fun z => Kin.at (w := wr.drew) j2 z
            have J3 : ∀ z : Kin wr.drew, z.world.cell? ⟨b1, o1 + q * 6 + 3, none⟩ = some (.int .i64 x.ad) := fun z => Kin.at (w := wr.drew) j3 z
            have J4 : ∀ z : Kin wr.drew, z.world.cell? ⟨b1, o1 + q * 6 + 4, none⟩ = some (.slice x.A x.n x.c) := fun z => Kin.at (w := wr.drew) j4 z
            have J5 : ∀ z : Kin wr.drew, z.world.cell? ⟨b1, o1 + q * 6 + 5, none⟩ = some (.slice x.B x.m x.d) := fun z => Kin.at (w := wr.drew) j5 z
            have L0 : ∀ z : Kin wr.drew, z.world.cell? ⟨b2, o2 + q * 6, none⟩ = some (.int .i64 x.k) := fun z => Kin.at (w := wr.drew) k0 z
            have L1 : ∀ z : Kin wr.drew, z.world.cell? ⟨b2, o2 + q * 6 + 1, none⟩ = some (.int .i64 x.b) := fun z => Kin.at (w := wr.drew) k1 z
            have L2 : ∀ z : Kin wr.drew, z.world.cell? ⟨b2, o2 + q * 6 + 2, none⟩ = some (.int .i64 x.wd) := fun z => Kin.at (w := wr.drew) k2 z
            have L3 : ∀ z : Kin wr.drew, z.world.cell? ⟨b2, o2 + q * 6 + 3, none⟩ = some (.int .i64 x.ad) := fun z => Kin.at (w := wr.drew) k3 z
            have L4 : ∀ z : Kin wr.drew, z.world.cell? ⟨b2, o2 + q * 6 + 4, none⟩ = some (.slice x.A x.n x.c) := fun z => Kin.at (w := wr.drew) k4 z
            have L5 : ∀ z : Kin wr.drew, z.world.cell? ⟨b2, o2 + q * 6 + 5, none⟩ = some (.slice x.B x.m x.d) := fun z => Kin.at (w := wr.drew) k5 z
            clear j0 j1 j2 j3 j4 j5 k0 k1 k2 k3 k4 k5 hok hok2 hx hmem hql X0 hb1 hb2
            go_upto_region 12 with (fail)
            refine wp_region_specL 18 [.d (.int .i64 0), .d (.pointer (some ⟨gb, 1, none⟩)), .d (.pointer (some ⟨gb, 1, none⟩)), .d (.slice (some ⟨b1, o1, none⟩) n0 c0), .d (.int .i64 q), .d (.pointer (some ⟨b1, o1 + q * 6, none⟩)), .d (.agg #[.int .i64 x.k, .int .i64 x.b, .int .i64 x.wd, .int .i64 x.ad, .slice x.A x.n x.c, .slice x.B x.m x.d]), .d (.pointer (some ⟨gb, 0, none⟩)), .d (.int .i64 md), .d (.int .i64 G), .d (.slice (some ⟨b2, o2, none⟩) n0 d6), .d (.int .i64 q), .d (.pointer (some ⟨b2, o2 + q * 6, none⟩)), .d (.agg #[.int .i64 x.k, .int .i64 x.b, .int .i64 x.wd, .int .i64 x.ad, .slice x.A x.n x.c, .slice x.B x.m x.d]), .d (.pointer (some ⟨gb, 0, none⟩)), .d (.int .i64 md), .d (.int .i64 G), .d (.bool false)] (by kernel_rfl) (by kernel_rfl) ?_
            refine spec_d rfl (fun x _ => gives_run (by go_simp)) ?_
            try simp only [Act.put, List.getElem_toArray, List.getElem_cons_succ, List.getElem_cons_zero, List.setIfInBounds_toArray, List.set_cons_zero, List.set_cons_succ]
            refine spec_d rfl (fun x _ => gives_run (by go_simp)) ?_
            try simp only [Act.put, List.getElem_toArray, List.getElem_cons_succ, List.getElem_cons_zero, List.setIfInBounds_toArray, List.set_cons_zero, List.set_cons_succ]
            refine spec_d rfl (fun x _ => gives_run (by go_simp)) ?_
            try simp only [Act.put, List.getElem_toArray, List.getElem_cons_succ, List.getElem_cons_zero, List.setIfInBounds_toArray, List.set_cons_zero, List.set_cons_succ]
            refine spec_d rfl (fun x _ => gives_run (by go_simp)) ?_
            try simp only [Act.put, List.getElem_toArray, List.getElem_cons_succ, List.getElem_cons_zero, List.setIfInBounds_toArray, List.set_cons_zero, List.set_cons_succ]
            refine spec_d rfl (fun x _ => gives_run (by go_simp)) ?_
            try simp only [Act.put, List.getElem_toArray, List.getElem_cons_succ, List.getElem_cons_zero, List.setIfInBounds_toArray, List.set_cons_zero, List.set_cons_succ]
            refine spec_d rfl (fun x _ => gives_run (by go_simp)) ?_
            try simp only [Act.put, List.getElem_toArray, List.getElem_cons_succ, List.getElem_cons_zero, List.setIfInBounds_toArray, List.set_cons_zero, List.set_cons_succ]
            refine spec_d rfl (fun x _ => gives_run (by go_simp)) ?_
            try simp only [Act.put, List.getElem_toArray, List.getElem_cons_succ, List.getElem_cons_zero, List.setIfInBounds_toArray, List.set_cons_zero, List.set_cons_succ]
            refine spec_d rfl (fun x _ => gives_run (by go_simp)) ?_
            try simp only [Act.put, List.getElem_toArray, List.getElem_cons_succ, List.getElem_cons_zero, List.setIfInBounds_toArray, List.set_cons_zero, List.set_cons_succ]
            refine spec_d rfl (fun x _ => gives_run (by go_simp)) ?_
            try simp only [Act.put, List.getElem_toArray, List.getElem_cons_succ, List.getElem_cons_zero, List.setIfInBounds_toArray, List.set_cons_zero, List.set_cons_succ]
            refine spec_d rfl (fun z _ => gives_det (by go_simp) (HWA.out z)) ?_
            try simp only [Act.put, List.getElem_toArray, List.getElem_cons_succ, List.getElem_cons_zero, List.setIfInBounds_toArray, List.set_cons_zero, List.set_cons_succ]
            refine spec_d rfl (fun x _ => gives_run (by go_simp)) ?_
            try simp only [Act.put, List.getElem_toArray, List.getElem_cons_succ, List.getElem_cons_zero, List.setIfInBounds_toArray, List.set_cons_zero, List.set_cons_succ]
            refine spec_d rfl (fun x _ => gives_run (by go_simp)) ?_
            try simp only [Act.put, List.getElem_toArray, List.getElem_cons_succ, List.getElem_cons_zero, List.setIfInBounds_toArray, List.set_cons_zero, List.set_cons_succ]
            refine spec_d rfl (fun x _ => gives_run (by go_simp)) ?_
            try simp only [Act.put, List.getElem_toArray, List.getElem_cons_succ, List.getElem_cons_zero, List.setIfInBounds_toArray, List.set_cons_zero, List.set_cons_succ]
            refine spec_d rfl (fun x _ => gives_run (by go_simp)) ?_
            try simp only [Act.put, List.getElem_toArray, List.getElem_cons_succ, List.getElem_cons_zero, List.setIfInBounds_toArray, List.set_cons_zero, List.set_cons_succ]
            refine spec_d rfl (fun x _ => gives_run (by go_simp)) ?_
            try simp only [Act.put, List.getElem_toArray, List.getElem_cons_succ, List.getElem_cons_zero, List.setIfInBounds_toArray, List.set_cons_zero, List.set_cons_succ]
            refine spec_d rfl (fun x _ => gives_run (by go_simp)) ?_
            try simp only [Act.put, List.getElem_toArray, List.getElem_cons_succ, List.getElem_cons_zero, List.setIfInBounds_toArray, List.set_cons_zero, List.set_cons_succ]
            refine spec_d rfl (fun z _ => gives_det (by go_simp) (HWB.out z)) ?_
            try simp only [Act.put, List.getElem_toArray, List.getElem_cons_succ, List.getElem_cons_zero, List.setIfInBounds_toArray, List.set_cons_zero, List.set_cons_succ]
            refine spec_d rfl (fun x _ => gives_run (by go_simp)) ?_
            try simp only [Act.put, List.getElem_toArray, List.getElem_cons_succ, List.getElem_cons_zero, List.setIfInBounds_toArray, List.set_cons_zero, List.set_cons_succ]
            refine spec_end (fun z hz => ?_)
            clear hz
            refine wpAny_done (by kernel_rfl) ?_ _
            have HBZ := Lib.hid (HBQ.out.trans (((bel_drew wr).trans z.below).mono HBQ.out.size))
            clear K0 K1 J0 J1 J2 J3 J4 J5 L0 L1 L2 L3 L4 L5 HWA HWB HOK
            generalize z.world = wz at HBZ ⊢
            clear z
            go_wp2
            go_roundw
            case rel => exact ⟨q + 1, by omega, by go_num, HBZ.out⟩
            case measure => simp [intOf]; omega
          · have hqe : n0 = q := by omega
            have HBZ := Lib.hid (HBK6.out.trans (HBQ.out.mono HBK6.out.size))
            subst hqe
            go_wp2
            go_roundw
            case rel => exact ⟨0 + 1, by omega, by go_num, HBZ.out⟩
            case measure => simp [intOf]

      · as_aux_lemma =>
        have d0 := HOr.out.cell 0
        have d1 := HOr.out.cell 1
        have d2 := HOr.out.cell 2
        simp at d0 d1 d2
        go_wp2_with fail
        refine (own_any A1 n1 c1 ws1 _ (HWW.out _ HBW.out).2 (by omega)).mono ?_
        rintro e w6 ⟨B6, d6, rfl, HW6, HB6⟩
        clear d0 d1 d2
        have HBW6 := Lib.hid (HBW.out.trans (HB6.out.mono HBW.out.size))
        have HBK6 := Lib.hid (HBK.out.trans (HB6.out.mono HBK.out.size))
        clear HB6 HBK HBW HOr HXr
        go_wp2_with fail
        go_loopw [9] (fun i wx => ∃ q : Nat, q ≤ n1 ∧ i = .int .i64 q ∧ Below w6.heap.size w6 wx) (fun i _ => n1 - (intOf i).toNat)
        case atStart => exact ⟨0, by omega, rfl, Below.refl _ _⟩
        case round =>
          obtain ⟨q, hq, rfl, hbq⟩ := hrel
          have HBQ := Lib.hid hbq
          have HBWq := Lib.hid (HBW6.out.trans (hbq.mono HBW6.out.size))
          have HOq := Lib.hid (HOB.out.kept HBWq.out)
          clear hbq
          by_cases hlt : q < n1
          · have hqi : (q : Int) < (n1 : Int) := by omega
            have hql : q < ws1.length := by have := (HWW.out _ HBWq.out).2.len; omega
            obtain ⟨x, hx⟩ : ∃ x, ws1[q]? = some x := ⟨_, List.getElem?_eq_getElem hql⟩
            have hmem := List.mem_of_getElem? hx
            obtain ⟨b1, o1, rfl, hb1, j0, j1, j2, j3, j4, j5, hok⟩ := ((HWW.out _ HBWq.out).2).six hlt hx
            obtain ⟨b2, o2, rfl, hb2, k0, k1, k2, k3, k4, k5, hok2⟩ := (HW6.out.kept HBQ.out).six hlt hx
            have HOK : Hid (∀ z : Kin wr.drew, x.Ok z.world) := Lib.hid (fun z => hok.kept ((bel_drew wr).trans z.below))
            have HWA := Lib.hid (fun z : Kin wr.drew => HS1.out x hmem z.world (HOK.out z))
            have HWB := Lib.hid (fun z : Kin wr.drew => HSR1.out x hmem z.world (HOK.out z))
            obtain ⟨G, HG⟩ : ∃ G, Hid (winI md x = G) := ⟨_, Lib.hid rfl⟩
            rw [HG.out] at HWA HWB
            have X0 : ∀ z : Kin wr.drew, Obj1 z.world gb 25 (#[.int .i64 md, .slice A0 n0 c0, .slice (some ⟨b1, o1, none⟩) n1 c1]) := fun z => (HOq.out.drew).kept z.below
            have K0 : ∀ z : Kin wr.drew, z.world.cell? ⟨gb, 0, none⟩ = some (.int .i64 md) := fun z => (X0 z).cell 0
            have K1 : ∀ z : Kin wr.drew, z.world.cell? ⟨gb, 2, none⟩ = some (.slice (some ⟨b1, o1, none⟩) n1 c1) := fun z => (X0 z).cell 2
            have J0 : ∀ z : Kin wr.drew, z.world.cell? ⟨b1, o1 + q * 6, none⟩ = some (.int .i64 x.k) := fun z => Kin.at (w := wr.drew) j0 z
            have J1 : ∀ z : Kin wr.drew, z.world.cell? ⟨b1, o1 + q * 6 + 1, none⟩ = some (.int .i64 x.b) := fun z => Kin.at (w := wr.drew) j1 z
            have J2 : ∀ z : Kin wr.drew, z.world.cell? ⟨b1, o1 + q * 6 + 2, none⟩ = some (.int .i64 x.wd) := fun z => Kin.at (w := wr.drew) j2 z
            have J3 : ∀ z : Kin wr.drew, z.world.cell? ⟨b1, o1 + q * 6 + 3, none⟩ = some (.int .i64 x.ad) := fun z => Kin.at (w := wr.drew) j3 z
            have J4 : ∀ z : Kin wr.drew, z.world.cell? ⟨b1, o1 + q * 6 + 4, none⟩ = some (.slice x.A x.n x.c) := fun z => Kin.at (w := wr.drew) j4 z
            have J5 : ∀ z : Kin wr.drew, z.world.cell? ⟨b1, o1 + q * 6 + 5, none⟩ = some (.slice x.B x.m x.d) := fun z => Kin.at (w := wr.drew) j5 z
            have L0 : ∀ z : Kin wr.drew, z.world.cell? ⟨b2, o2 + q * 6, none⟩ = some (.int .i64 x.k) := fun z => Kin.at (w := wr.drew) k0 z
            have L1 : ∀ z : Kin wr.drew, z.world.cell? ⟨b2, o2 + q * 6 + 1, none⟩ = some (.int .i64 x.b) := fun z => Kin.at (w := wr.drew) k1 z
            have L2 : ∀ z : Kin wr.drew, z.world.cell? ⟨b2, o2 + q * 6 + 2, none⟩ = some (.int .i64 x.wd) := fun z => Kin.at (w := wr.drew) k2 z
            have L3 : ∀ z : Kin wr.drew, z.world.cell? ⟨b2, o2 + q * 6 + 3, none⟩ = some (.int .i64 x.ad) := fun z => Kin.at (w := wr.drew) k3 z
            have L4 : ∀ z : Kin wr.drew, z.world.cell? ⟨b2, o2 + q * 6 + 4, none⟩ = some (.slice x.A x.n x.c) := fun z => Kin.at (w := wr.drew) k4 z
            have L5 : ∀ z : Kin wr.drew, z.world.cell? ⟨b2, o2 + q * 6 + 5, none⟩ = some (.slice x.B x.m x.d) := fun z => Kin.at (w := wr.drew) k5 z
            clear j0 j1 j2 j3 j4 j5 k0 k1 k2 k3 k4 k5 hok hok2 hx hmem hql X0 hb1 hb2
            go_upto_region 12 with (fail)
            refine wp_region_specL 18 [.d (.int .i64 1), .d (.pointer (some ⟨gb, 1, none⟩)), .d (.pointer (some ⟨gb, 2, none⟩)), .d (.slice (some ⟨b1, o1, none⟩) n1 c1), .d (.int .i64 q), .d (.pointer (some ⟨b1, o1 + q * 6, none⟩)), .d (.agg #[.int .i64 x.k, .int .i64 x.b, .int .i64 x.wd, .int .i64 x.ad, .slice x.A x.n x.c, .slice x.B x.m x.d]), .d (.pointer (some ⟨gb, 0, none⟩)), .d (.int .i64 md), .d (.int .i64 G), .d (.slice (some ⟨b2, o2, none⟩) n1 d6), .d (.int .i64 q), .d (.pointer (some ⟨b2, o2 + q * 6, none⟩)), .d (.agg #[.int .i64 x.k, .int .i64 x.b, .int .i64 x.wd, .int .i64 x.ad, .slice x.A x.n x.c, .slice x.B x.m x.d]), .d (.pointer (some ⟨gb, 0, none⟩)), .d (.int .i64 md), .d (.int .i64 G), .d (.bool false)] (by kernel_rfl) (by kernel_rfl) ?_
            refine spec_d rfl (fun x _ => gives_run (by go_simp)) ?_
            try simp only [Act.put, List.getElem_toArray, List.getElem_cons_succ, List.getElem_cons_zero, List.setIfInBounds_toArray, List.set_cons_zero, List.set_cons_succ]
            refine spec_d rfl (fun x _ => gives_run (by go_simp)) ?_
            try simp only [Act.put, List.getElem_toArray, List.getElem_cons_succ, List.getElem_cons_zero, List.setIfInBounds_toArray, List.set_cons_zero, List.set_cons_succ]
            refine spec_d rfl (fun x _ => gives_run (by go_simp)) ?_
            try simp only [Act.put, List.getElem_toArray, List.getElem_cons_succ, List.getElem_cons_zero, List.setIfInBounds_toArray, List.set_cons_zero, List.set_cons_succ]
            refine spec_d rfl (fun x _ => gives_run (by go_simp)) ?_
            try simp only [Act.put, List.getElem_toArray, List.getElem_cons_succ, List.getElem_cons_zero, List.setIfInBounds_toArray, List.set_cons_zero, List.set_cons_succ]
            refine spec_d rfl (fun x _ => gives_run (by go_simp)) ?_
            try simp only [Act.put, List.getElem_toArray, List.getElem_cons_succ, List.getElem_cons_zero, List.setIfInBounds_toArray, List.set_cons_zero, List.set_cons_succ]
            refine spec_d rfl (fun x _ => gives_run (by go_simp)) ?_
            try simp only [Act.put, List.getElem_toArray, List.getElem_cons_succ, List.getElem_cons_zero, List.setIfInBounds_toArray, List.set_cons_zero, List.set_cons_succ]
            refine spec_d rfl (fun x _ => gives_run (by go_simp)) ?_
            try simp only [Act.put, List.getElem_toArray, List.getElem_cons_succ, List.getElem_cons_zero, List.setIfInBounds_toArray, List.set_cons_zero, List.set_cons_succ]
            refine spec_d rfl (fun x _ => gives_run (by go_simp)) ?_
            try simp only [Act.put, List.getElem_toArray, List.getElem_cons_succ, List.getElem_cons_zero, List.setIfInBounds_toArray, List.set_cons_zero, List.set_cons_succ]
            refine spec_d rfl (fun x _ => gives_run (by go_simp)) ?_
            try simp only [Act.put, List.getElem_toArray, List.getElem_cons_succ, List.getElem_cons_zero, List.setIfInBounds_toArray, List.set_cons_zero, List.set_cons_succ]
            refine spec_d rfl (fun z _ => gives_det (by go_simp) (HWA.out z)) ?_
            try simp only [Act.put, List.getElem_toArray, List.getElem_cons_succ, List.getElem_cons_zero, List.setIfInBounds_toArray, List.set_cons_zero, List.set_cons_succ]
            refine spec_d rfl (fun x _ => gives_run (by go_simp)) ?_
            try simp only [Act.put, List.getElem_toArray, List.getElem_cons_succ, List.getElem_cons_zero, List.setIfInBounds_toArray, List.set_cons_zero, List.set_cons_succ]
            refine spec_d rfl (fun x _ => gives_run (by go_simp)) ?_
            try simp only [Act.put, List.getElem_toArray, List.getElem_cons_succ, List.getElem_cons_zero, List.setIfInBounds_toArray, List.set_cons_zero, List.set_cons_succ]
            refine spec_d rfl (fun x _ => gives_run (by go_simp)) ?_
            try simp only [Act.put, List.getElem_toArray, List.getElem_cons_succ, List.getElem_cons_zero, List.setIfInBounds_toArray, List.set_cons_zero, List.set_cons_succ]
            refine spec_d rfl (fun x _ => gives_run (by go_simp)) ?_
            try simp only [Act.put, List.getElem_toArray, List.getElem_cons_succ, List.getElem_cons_zero, List.setIfInBounds_toArray, List.set_cons_zero, List.set_cons_succ]
            refine spec_d rfl (fun x _ => gives_run (by go_simp)) ?_
            try simp only [Act.put, List.getElem_toArray, List.getElem_cons_succ, List.getElem_cons_zero, List.setIfInBounds_toArray, List.set_cons_zero, List.set_cons_succ]
            refine spec_d rfl (fun x _ => gives_run (by go_simp)) ?_
            try simp only [Act.put, List.getElem_toArray, List.getElem_cons_succ, List.getElem_cons_zero, List.setIfInBounds_toArray, List.set_cons_zero, List.set_cons_succ]
            refine spec_d rfl (fun z _ => gives_det (by go_simp) (HWB.out z)) ?_
            try simp only [Act.put, List.getElem_toArray, List.getElem_cons_succ, List.getElem_cons_zero, List.setIfInBounds_toArray, List.set_cons_zero, List.set_cons_succ]
            refine spec_d rfl (fun x _ => gives_run (by go_simp)) ?_
            try simp only [Act.put, List.getElem_toArray, List.getElem_cons_succ, List.getElem_cons_zero, List.setIfInBounds_toArray, List.set_cons_zero, List.set_cons_succ]
            refine spec_end (fun z hz => ?_)
            clear hz
            refine wpAny_done (by kernel_rfl) ?_ _
            have HBZ := Lib.hid (HBQ.out.trans (((bel_drew wr).trans z.below).mono HBQ.out.size))
            clear K0 K1 J0 J1 J2 J3 J4 J5 L0 L1 L2 L3 L4 L5 HWA HWB HOK
            generalize z.world = wz at HBZ ⊢
            clear z
            go_wp2
            go_roundw
            case rel => exact ⟨q + 1, by omega, by go_num, HBZ.out⟩
            case measure => simp [intOf]; omega
          · have hqe : n1 = q := by omega
            have HBZ := Lib.hid (HBK6.out.trans (HBQ.out.mono HBK6.out.size))
            subst hqe
            go_wp2
            go_roundw
            case rel => exact ⟨1 + 1, by omega, by go_num, HBZ.out⟩
            case measure => simp [intOf]

theorem walk (cs : Array Value) (w : World) (hr : Reads w shS cs.toList) :
    Calls Try.prog 6 #[.agg cs] w fun e w' => e = .returned (.bool true) ∧ Below w.heap.size w w' := by
  obtain ⟨md, A0, n0, c0, A1, n1, c1, ws0, ws1, rfl, hW0, hW1, h0, h1⟩ := sched_in hr
  exact walk_yes md A0 n0 c0 A1 n1 c1 ws0 ws1 w (sched_md hr).2 hW0 hW1 h0 h1

set_option maxRecDepth 100000 in
theorem lifted (os : Os) (started : os.Started) (H : Type) (enc : TypeId × Value → H) :
    ReturnsInHanded {} Try.checked os 6 .any (Rows.validChecksSpec.pre6 enc Try.prog Try.f6 Rows.validChecksRow.domain false) (Rows.validChecksSpec.post enc Try.prog Try.f6 false true false false) := by
  refine returnsInHanded_of_change (C := Try.checked) own started (by kernel_rfl) Try.func6
    (ChangeSpec.witness6 (enc := enc) (C := Try.checked) false ⟨#[], #[.agg #[.int .i64 0, .slice none 0 0, .slice none 0 0]], []⟩ 8 (by kernel_rfl) (by kernel_rfl) (by kernel_rfl) (by kernel_rfl)) ?_
  intro W base args ds gs before hval0 hW hcnd _
  have hval : ∀ (j : Nat) t v, Try.f6.params[j]? = some t → args[j]? = some v → Value.okWide Try.prog W .any base t v := hval0
  have hW' := hW
  obtain ⟨p, q, hA0, hV, rfl, hfz, hnd⟩ := hW
  have hA : DataW.TrodAll enc Try.prog W 0 (fun _ => true) true Try.f6.params.toList args.toList ds p := hA0
  rw [Try.params6] at hA hval
  obtain ⟨v0, vs0, d0, ds0, p0, q0, hargs, rfl, rfl, h0, r0⟩ := trodAll_cons hA
  obtain ⟨rfl, rfl, rfl⟩ := trodAll_nil r0
  obtain rfl : args = #[v0] := by cases args; simp_all
  obtain ⟨rfl, rfl⟩ := trodVars_none hV
  have k0 := h0
  have lt0 : ∀ x ∈ p0, x.block < W.heap.size := by obtain ⟨m, hm⟩ := k0; exact DataW.trod_lt m _ _ _ hm
  obtain ⟨s, rfl⟩ := okWide_agg (by first | exact .inl ⟨_, Try.underlying25⟩ | exact .inr ⟨_, _, Try.underlying25⟩) (hval 0 25 v0 rfl rfl)
  have rd0 := reads_cells (sh := shS) 30 (by kernel_rfl) k0
  clear hA0 hval0
  refine (walk s W rd0).mono fun e W' ⟨he, bel⟩ => ?_
  subst he
  exact ⟨_, rfl, _, _, _, [], _, [], hW', trodAll_mk1 (shut_bool Try.underlying4 _), (trodAll_cons_mk (Below.trod laidOut (by kernel_rfl) (of_decide_eq_true (by kernel_rfl)) k0 bel lt0) trodAll_mk0), rfl, bel.frame _, fun h => by cases h⟩

theorem over : Rows.validChecksRow.holds Try.pinned (OpenSpec.ofChange Rows.validChecksSpec) :=
  OpenClaim.holds_of_wide 6 Try.f6 rfl rfl rfl rfl rfl rfl rfl ⟨rfl, rfl, rfl, rfl, rfl⟩ rfl rfl rfl rfl rfl (by kernel_rfl) Try.func6 (by kernel_rfl)
    (of_decide_eq_true (by kernel_rfl)) (by unfold Func.isWrapper; first | (rw [if_pos (by decide +kernel)]; kernel_rfl) | (rw [if_neg (by decide +kernel)]; exact ⟨rfl, rfl⟩))
    (fun os started H enc _ => lifted os started H enc)

/-- The statement. -/
theorem proved : Rows.ValidChecksSaid := over
end Go.Proofs.Ytkdmcnkahiimoaa.lawValidChecks
