/- The contract of package major's Odd, of any shift of up to eight words; no condition. -/
import Derived.Test.YtnbcegijncdmaaaDoorMajD
namespace Go.Proofs.YtnbcegijncdmaaaDoor.Ly16
open Go.ChangeShapes Go.WideShapes Go.ChangeAt Go.RowKit Base Ly3 Ly2 Ly15
set_option linter.unusedVariables false
set_option linter.unusedSimpArgs false

set_option maxRecDepth 100000 in
set_option maxHeartbeats 2000000 in
theorem odd_any {b n : Nat} {f : Nat → Bool} {w : World} (h : ShF w b true n f) (hn : n ≤ 8) : Calls Tryd.prog 34 #[.pointer (some ⟨b, 0, none⟩)] w fun e w' => e = .returned (.agg (oA f (8 * n) 0)) ∧ Below w.heap.size w w' := by
  have H := Lib.hid h
  have HBI := Lib.hid (fun W (hW : ShF W b true n f) => sbits_gen hW hn)
  have hz64 : 8 * n ≤ 64 := by omega
  obtain ⟨z, HZ⟩ : ∃ z, Hid (8 * n = z) := ⟨_, Lib.hid rfl⟩
  rw [HZ.out] at HBI hz64 ⊢
  clear h
  obtain ⟨W1, HW1⟩ : ∃ W1, W1 = (w.alloc (.cells #[.int .i64 0, .int .i64 0, .int .i64 0, .int .i64 0] 57)).alloc (.cells #[.int .i64 0, .int .i64 0, .int .i64 0, .int .i64 0] 57) := ⟨_, rfl⟩
  have HO1 : Hid (Obj1 W1 (w.heap.size + 1) 57 (oA f 0 0)) := Lib.hid (by
    have := Obj1.new (w.alloc (.cells #[.int .i64 0, .int .i64 0, .int .i64 0, .int .i64 0] 57)) 57 #[.int .i64 0, .int .i64 0, .int .i64 0, .int .i64 0]
    rw [show (w.alloc (.cells #[.int .i64 0, .int .i64 0, .int .i64 0, .int .i64 0] 57)).heap.size = w.heap.size + 1 by simp] at this
    rw [HW1]
    exact this)
  have HO21 : Hid (Obj1 W1 w.heap.size 57 #[.int .i64 0, .int .i64 0, .int .i64 0, .int .i64 0]) := Lib.hid (by rw [HW1]; exact (Obj1.new w 57 _).alloc _)
  have HB1 : Hid (Below w.heap.size w W1) := Lib.hid (by rw [HW1]; exact ((Below.refl _ _).alloc (Nat.le_refl _) _).alloc (by simp) _)
  go_enter Tryd.func34, Tryd.ntmps34
  go_upto_region 2 with (fail)
  rw [← HW1]
  clear HW1
  go_wp2_with fail
  refine (HBI.out _ (H.out.kept HB1.out)).mono ?_
  rintro e w' ⟨rfl, rfl⟩
  go_wp2_with fail
  go_loopw [12] (fun i wx => ∃ m : Nat, m ≤ z ∧ i = .int .i64 m ∧ Obj1 wx (w.heap.size + 1) 57 (oA f m 0) ∧ Obj1 wx w.heap.size 57 #[.int .i64 0, .int .i64 0, .int .i64 0, .int .i64 0] ∧ Below w.heap.size w wx) (fun i _ => z - (intOf i).toNat)
  case atStart => exact ⟨0, by omega, rfl, HO1.out, HO21.out, HB1.out⟩
  case round =>
    clear HO1 HO21 HB1
    obtain ⟨m, hm, rfl, hoa, ho2, hb⟩ := hrel
    by_cases hlt : m < z
    · have hki : (m : Int) < (z : Int) := by omega
      obtain ⟨⟨p0, q0⟩, e0⟩ : ∃ pq, lineF f 0 m = pq := ⟨_, rfl⟩
      obtain ⟨⟨p1, q1⟩, e1⟩ : ∃ pq, lineF f 1 m = pq := ⟨_, rfl⟩
      obtain ⟨⟨p2, q2⟩, e2⟩ : ∃ pq, lineF f 2 m = pq := ⟨_, rfl⟩
      obtain ⟨⟨p3, q3⟩, e3⟩ : ∃ pq, lineF f 3 m = pq := ⟨_, rfl⟩
      have HSAY := Lib.hid (says_gen p0 p1 p2 p3 q0 q1 q2 q3 e0 e1 e2 e3 (H.out.kept hb) hn (show m < 8 * n by rw [HZ.out]; exact hlt))
      have HBE : Hid (bitB p0 p1 p2 p3 q0 q1 q2 q3 = bN f m ∧ okB p0 p1 p2 p3 q0 q1 q2 q3 = oN f m) := Lib.hid (by unfold bN oN; rw [e0, e1, e2, e3]; exact ⟨rfl, rfl⟩)
      have HOF := Lib.hid (fun W => of_any p0 p1 p2 p3 q0 q1 q2 q3 W)
      rw [HBE.out.1, HBE.out.2] at HOF
      obtain ⟨bv, hbv⟩ : ∃ bv, bN f m = bv := ⟨_, rfl⟩
      obtain ⟨ov, hov⟩ : ∃ ov, oN f m = ov := ⟨_, rfl⟩
      have HE0 : Hid ((ov && (!q0 || (p0 != bv))) = oddB f 0 m) := Lib.hid (by unfold oddB; rw [hov, hbv, e0])
      have HE1 : Hid ((ov && (!q1 || (p1 != bv))) = oddB f 1 m) := Lib.hid (by unfold oddB; rw [hov, hbv, e1])
      have HE2 : Hid ((ov && (!q2 || (p2 != bv))) = oddB f 2 m) := Lib.hid (by unfold oddB; rw [hov, hbv, e2])
      have HE3 : Hid ((ov && (!q3 || (p3 != bv))) = oddB f 3 m) := Lib.hid (by unfold oddB; rw [hov, hbv, e3])
      rw [hbv, hov] at HOF
      have HO := Lib.hid hoa
      have HO2 := Lib.hid ho2
      have HB := Lib.hid hb
      clear e0 e1 e2 e3 HBE hoa ho2 hb hbv hov
      go_wp2_with fail
      refine HSAY.out.mono ?_
      rintro e wa ⟨rfl, HBA⟩
      have HOa := Lib.hid (HO.out.kept HBA.out)
      have HO2a := Lib.hid (HO2.out.kept HBA.out)
      have HBa := Lib.hid (HB.out.trans (HBA.out.mono HB.out.size))
      go_upto_region 6 with (fail)
      obtain ⟨WX, HWX⟩ : ∃ WX, WX = (wa.alloc (.cells #[.bool p0, .bool p1, .bool p2, .bool p3] 38)).alloc (.cells #[.bool q0, .bool q1, .bool q2, .bool q3] 38) := ⟨_, rfl⟩
      have HPX : Hid (Obj1 WX wa.heap.size 38 #[.bool p0, .bool p1, .bool p2, .bool p3]) := Lib.hid (by rw [HWX]; exact (Obj1.new wa 38 _).alloc _)
      have HQX : Hid (Obj1 WX (wa.heap.size + 1) 38 #[.bool q0, .bool q1, .bool q2, .bool q3]) := Lib.hid (by
        have := Obj1.new (wa.alloc (.cells #[.bool p0, .bool p1, .bool p2, .bool p3] 38)) 38 #[.bool q0, .bool q1, .bool q2, .bool q3]
        rw [show (wa.alloc (.cells #[.bool p0, .bool p1, .bool p2, .bool p3] 38)).heap.size = wa.heap.size + 1 by simp] at this
        rw [HWX]
        exact this)
      have HBX : Hid (Below wa.heap.size wa WX) := Lib.hid (by rw [HWX]; exact ((Below.refl _ _).alloc (Nat.le_refl _) _).alloc (by simp) _)
      rw [← HWX]
      clear HWX
      obtain ⟨g5, HG5⟩ : ∃ g, Hid (wa.heap.size = g) := ⟨_, Lib.hid rfl⟩
      obtain ⟨g6, HG6⟩ : ∃ g, Hid (wa.heap.size + 1 = g) := ⟨_, Lib.hid rfl⟩
      have hg56 : w.heap.size + 1 < g5 ∧ w.heap.size + 1 < g6 := by have := HOa.out.lt; have := HG5.out; have := HG6.out; omega
      rw [HG6.out] at HQX ⊢
      rw [HG5.out] at HPX ⊢
      have a0 := HPX.out.cell 0
      have a1 := HPX.out.cell 1
      have a2 := HPX.out.cell 2
      have a3 := HPX.out.cell 3
      have b0 := HQX.out.cell 0
      have b1 := HQX.out.cell 1
      have b2 := HQX.out.cell 2
      have b3 := HQX.out.cell 3
      simp at a0 a1 a2 a3 b0 b1 b2 b3
      go_wp2_with fail
      refine (HOF.out _).mono ?_
      rintro e wb ⟨rfl, hbb⟩
      have HOb := Lib.hid ((HOa.out.kept HBX.out).kept hbb)
      have HO2b := Lib.hid ((HO2a.out.kept HBX.out).kept hbb)
      have HPb := Lib.hid (HPX.out.kept hbb)
      have HQb := Lib.hid (HQX.out.kept hbb)
      have HBb := Lib.hid ((HBa.out.trans (HBX.out.mono HBa.out.size)).trans (hbb.mono (Nat.le_trans HBa.out.size HBX.out.size)))
      clear a0 a1 a2 a3 b0 b1 b2 b3 hbb HOa HO2a HBa HPX HQX HBX HOF HSAY HBA HO HO2 HB
      go_wp2_with fail
      go_loopw [27] (fun i wx => ∃ k : Nat, k ≤ 4 ∧ i = .int .i64 k ∧ Obj1 wx (w.heap.size + 1) 57 (oA f m k) ∧ Obj1 wx w.heap.size 57 #[.int .i64 0, .int .i64 0, .int .i64 0, .int .i64 0] ∧ Obj1 wx g5 38 #[.bool p0, .bool p1, .bool p2, .bool p3] ∧ Obj1 wx g6 38 #[.bool q0, .bool q1, .bool q2, .bool q3] ∧ Below w.heap.size w wx) (fun i _ => 4 - (intOf i).toNat)
      case atStart => exact ⟨0, by omega, rfl, HOb.out, HO2b.out, HPb.out, HQb.out, HBb.out⟩
      case round =>
        clear HOb HO2b HPb HQb HBb
        obtain ⟨k, hk, rfl, hoa, ho2, hp4, hq4, hb2⟩ := hrel
        rcases (show k = 0 ∨ k = 1 ∨ k = 2 ∨ k = 3 ∨ k = 4 by omega) with rfl | rfl | rfl | rfl | rfl
        · skip
          have c1 : wr.cell? ⟨g6, 0, none⟩ = some (.bool q0) := hq4.cell 0
          have c2 : wr.cell? ⟨g5, 0, none⟩ = some (.bool p0) := hp4.cell 0
          have c3 : wr.cell? ⟨w.heap.size + 1, 0, none⟩ = some (.int .i64 (oddN f 0 m : Int)) := (hoa.cell 0).trans (by show some (oV f m 0 0) = _; rw [oV_at])
          have f3 := hoa.free 0
          have hlt3 := hoa.lt
          have hle := oddN_le f 0 m
          have hww : IntKind.i64.wrap ((oddN f 0 m : Int) + 1) = (oddN f 0 m : Int) + 1 := IntWalk.i64_in _ (by omega)
          have HO := Lib.hid hoa
          have HO2 := Lib.hid ho2
          have HP4 := Lib.hid hp4
          have HQ4 := Lib.hid hq4
          have HB2 := Lib.hid hb2
          have hob := HE0.out
          clear hoa hp4 hq4 hb2 ho2
          cases hod : oddB f 0 m
          · rw [hod] at hob
            have HNO : Hid (oA f m (0 + 1) = oA f m 0) := Lib.hid (oA_off hod)
            clear hod
            cases ov
            · clear c1 c2 hob
              go_wp2
              go_roundw
              case rel => exact ⟨0 + 1, by omega, rfl, by rw [HNO.out]; exact HO.out, HO2.out, HP4.out, HQ4.out, HB2.out⟩
              case measure => simp [intOf]
            · cases q0
              · simp at hob
              · clear HE0 HE1 HE2 HE3
                cases p0 <;> cases bv <;> simp at hob
                all_goals
                  go_wp2
                  go_roundw
                  case rel => exact ⟨0 + 1, by omega, rfl, by rw [HNO.out]; exact HO.out, HO2.out, HP4.out, HQ4.out, HB2.out⟩
                  case measure => simp [intOf]
          · rw [hod] at hob
            have HYE := Lib.hid (oA_on (f := f) (m := m) (k := 0) (by omega) hod)
            clear hod
            generalize oddN f 0 m = od at c3 hww hle HYE
            cases ov
            · simp at hob
            · cases q0
              · clear hob
                go_wp2
                go_roundw
                case rel => exact ⟨0 + 1, by omega, rfl, by rw [← HYE.out]; exact HO.out.set 0 _, HO2.out.far _ (by simp) _, HP4.out.far _ (by simp; omega) _, HQ4.out.far _ (by simp; omega) _, HB2.out.setCell (by simp) _⟩
                case measure => simp [intOf]
              · clear HE0 HE1 HE2 HE3
                cases p0 <;> cases bv <;> simp at hob
                all_goals
                  go_wp2
                  go_roundw
                  case rel => exact ⟨0 + 1, by omega, rfl, by rw [← HYE.out]; exact HO.out.set 0 _, HO2.out.far _ (by simp) _, HP4.out.far _ (by simp; omega) _, HQ4.out.far _ (by simp; omega) _, HB2.out.setCell (by simp) _⟩
                  case measure => simp [intOf]
        · skip
          have c1 : wr.cell? ⟨g6, 1, none⟩ = some (.bool q1) := hq4.cell 1
          have c2 : wr.cell? ⟨g5, 1, none⟩ = some (.bool p1) := hp4.cell 1
          have c3 : wr.cell? ⟨w.heap.size + 1, 1, none⟩ = some (.int .i64 (oddN f 1 m : Int)) := (hoa.cell 1).trans (by show some (oV f m 1 1) = _; rw [oV_at])
          have f3 := hoa.free 1
          have hlt3 := hoa.lt
          have hle := oddN_le f 1 m
          have hww : IntKind.i64.wrap ((oddN f 1 m : Int) + 1) = (oddN f 1 m : Int) + 1 := IntWalk.i64_in _ (by omega)
          have HO := Lib.hid hoa
          have HO2 := Lib.hid ho2
          have HP4 := Lib.hid hp4
          have HQ4 := Lib.hid hq4
          have HB2 := Lib.hid hb2
          have hob := HE1.out
          clear hoa hp4 hq4 hb2 ho2
          cases hod : oddB f 1 m
          · rw [hod] at hob
            have HNO : Hid (oA f m (1 + 1) = oA f m 1) := Lib.hid (oA_off hod)
            clear hod
            cases ov
            · clear c1 c2 hob
              go_wp2
              go_roundw
              case rel => exact ⟨1 + 1, by omega, rfl, by rw [HNO.out]; exact HO.out, HO2.out, HP4.out, HQ4.out, HB2.out⟩
              case measure => simp [intOf]
            · cases q1
              · simp at hob
              · clear HE0 HE1 HE2 HE3
                cases p1 <;> cases bv <;> simp at hob
                all_goals
                  go_wp2
                  go_roundw
                  case rel => exact ⟨1 + 1, by omega, rfl, by rw [HNO.out]; exact HO.out, HO2.out, HP4.out, HQ4.out, HB2.out⟩
                  case measure => simp [intOf]
          · rw [hod] at hob
            have HYE := Lib.hid (oA_on (f := f) (m := m) (k := 1) (by omega) hod)
            clear hod
            generalize oddN f 1 m = od at c3 hww hle HYE
            cases ov
            · simp at hob
            · cases q1
              · clear hob
                go_wp2
                go_roundw
                case rel => exact ⟨1 + 1, by omega, rfl, by rw [← HYE.out]; exact HO.out.set 1 _, HO2.out.far _ (by simp) _, HP4.out.far _ (by simp; omega) _, HQ4.out.far _ (by simp; omega) _, HB2.out.setCell (by simp) _⟩
                case measure => simp [intOf]
              · clear HE0 HE1 HE2 HE3
                cases p1 <;> cases bv <;> simp at hob
                all_goals
                  go_wp2
                  go_roundw
                  case rel => exact ⟨1 + 1, by omega, rfl, by rw [← HYE.out]; exact HO.out.set 1 _, HO2.out.far _ (by simp) _, HP4.out.far _ (by simp; omega) _, HQ4.out.far _ (by simp; omega) _, HB2.out.setCell (by simp) _⟩
                  case measure => simp [intOf]
        · skip
          have c1 : wr.cell? ⟨g6, 2, none⟩ = some (.bool q2) := hq4.cell 2
          have c2 : wr.cell? ⟨g5, 2, none⟩ = some (.bool p2) := hp4.cell 2
          have c3 : wr.cell? ⟨w.heap.size + 1, 2, none⟩ = some (.int .i64 (oddN f 2 m : Int)) := (hoa.cell 2).trans (by show some (oV f m 2 2) = _; rw [oV_at])
          have f3 := hoa.free 2
          have hlt3 := hoa.lt
          have hle := oddN_le f 2 m
          have hww : IntKind.i64.wrap ((oddN f 2 m : Int) + 1) = (oddN f 2 m : Int) + 1 := IntWalk.i64_in _ (by omega)
          have HO := Lib.hid hoa
          have HO2 := Lib.hid ho2
          have HP4 := Lib.hid hp4
          have HQ4 := Lib.hid hq4
          have HB2 := Lib.hid hb2
          have hob := HE2.out
          clear hoa hp4 hq4 hb2 ho2
          cases hod : oddB f 2 m
          · rw [hod] at hob
            have HNO : Hid (oA f m (2 + 1) = oA f m 2) := Lib.hid (oA_off hod)
            clear hod
            cases ov
            · clear c1 c2 hob
              go_wp2
              go_roundw
              case rel => exact ⟨2 + 1, by omega, rfl, by rw [HNO.out]; exact HO.out, HO2.out, HP4.out, HQ4.out, HB2.out⟩
              case measure => simp [intOf]
            · cases q2
              · simp at hob
              · clear HE0 HE1 HE2 HE3
                cases p2 <;> cases bv <;> simp at hob
                all_goals
                  go_wp2
                  go_roundw
                  case rel => exact ⟨2 + 1, by omega, rfl, by rw [HNO.out]; exact HO.out, HO2.out, HP4.out, HQ4.out, HB2.out⟩
                  case measure => simp [intOf]
          · rw [hod] at hob
            have HYE := Lib.hid (oA_on (f := f) (m := m) (k := 2) (by omega) hod)
            clear hod
            generalize oddN f 2 m = od at c3 hww hle HYE
            cases ov
            · simp at hob
            · cases q2
              · clear hob
                go_wp2
                go_roundw
                case rel => exact ⟨2 + 1, by omega, rfl, by rw [← HYE.out]; exact HO.out.set 2 _, HO2.out.far _ (by simp) _, HP4.out.far _ (by simp; omega) _, HQ4.out.far _ (by simp; omega) _, HB2.out.setCell (by simp) _⟩
                case measure => simp [intOf]
              · clear HE0 HE1 HE2 HE3
                cases p2 <;> cases bv <;> simp at hob
                all_goals
                  go_wp2
                  go_roundw
                  case rel => exact ⟨2 + 1, by omega, rfl, by rw [← HYE.out]; exact HO.out.set 2 _, HO2.out.far _ (by simp) _, HP4.out.far _ (by simp; omega) _, HQ4.out.far _ (by simp; omega) _, HB2.out.setCell (by simp) _⟩
                  case measure => simp [intOf]
        · skip
          have c1 : wr.cell? ⟨g6, 3, none⟩ = some (.bool q3) := hq4.cell 3
          have c2 : wr.cell? ⟨g5, 3, none⟩ = some (.bool p3) := hp4.cell 3
          have c3 : wr.cell? ⟨w.heap.size + 1, 3, none⟩ = some (.int .i64 (oddN f 3 m : Int)) := (hoa.cell 3).trans (by show some (oV f m 3 3) = _; rw [oV_at])
          have f3 := hoa.free 3
          have hlt3 := hoa.lt
          have hle := oddN_le f 3 m
          have hww : IntKind.i64.wrap ((oddN f 3 m : Int) + 1) = (oddN f 3 m : Int) + 1 := IntWalk.i64_in _ (by omega)
          have HO := Lib.hid hoa
          have HO2 := Lib.hid ho2
          have HP4 := Lib.hid hp4
          have HQ4 := Lib.hid hq4
          have HB2 := Lib.hid hb2
          have hob := HE3.out
          clear hoa hp4 hq4 hb2 ho2
          cases hod : oddB f 3 m
          · rw [hod] at hob
            have HNO : Hid (oA f m (3 + 1) = oA f m 3) := Lib.hid (oA_off hod)
            clear hod
            cases ov
            · clear c1 c2 hob
              go_wp2
              go_roundw
              case rel => exact ⟨3 + 1, by omega, rfl, by rw [HNO.out]; exact HO.out, HO2.out, HP4.out, HQ4.out, HB2.out⟩
              case measure => simp [intOf]
            · cases q3
              · simp at hob
              · clear HE0 HE1 HE2 HE3
                cases p3 <;> cases bv <;> simp at hob
                all_goals
                  go_wp2
                  go_roundw
                  case rel => exact ⟨3 + 1, by omega, rfl, by rw [HNO.out]; exact HO.out, HO2.out, HP4.out, HQ4.out, HB2.out⟩
                  case measure => simp [intOf]
          · rw [hod] at hob
            have HYE := Lib.hid (oA_on (f := f) (m := m) (k := 3) (by omega) hod)
            clear hod
            generalize oddN f 3 m = od at c3 hww hle HYE
            cases ov
            · simp at hob
            · cases q3
              · clear hob
                go_wp2
                go_roundw
                case rel => exact ⟨3 + 1, by omega, rfl, by rw [← HYE.out]; exact HO.out.set 3 _, HO2.out.far _ (by simp) _, HP4.out.far _ (by simp; omega) _, HQ4.out.far _ (by simp; omega) _, HB2.out.setCell (by simp) _⟩
                case measure => simp [intOf]
              · clear HE0 HE1 HE2 HE3
                cases p3 <;> cases bv <;> simp at hob
                all_goals
                  go_wp2
                  go_roundw
                  case rel => exact ⟨3 + 1, by omega, rfl, by rw [← HYE.out]; exact HO.out.set 3 _, HO2.out.far _ (by simp) _, HP4.out.far _ (by simp; omega) _, HQ4.out.far _ (by simp; omega) _, HB2.out.setCell (by simp) _⟩
                  case measure => simp [intOf]
        · have HO := Lib.hid (oA_next f m ▸ hoa)
          have HO2 := Lib.hid ho2
          have HB2 := Lib.hid hb2
          clear hoa ho2 hp4 hq4 hb2
          go_wp2
          go_roundw
          case rel => exact ⟨m + 1, by omega, by go_num, HO.out, HO2.out, HB2.out⟩
          case measure => simp [intOf]; omega
    · obtain rfl : m = z := by omega
      have hA : oA f m 0 = #[.int .i64 (oddN f 0 m : Int), .int .i64 (oddN f 1 m : Int), .int .i64 (oddN f 2 m : Int), .int .i64 (oddN f 3 m : Int)] := by simp [oA, oV]
      rw [hA] at hoa
      generalize oddN f 0 m = x0 at hoa hA
      generalize oddN f 1 m = x1 at hoa hA
      generalize oddN f 2 m = x2 at hoa hA
      generalize oddN f 3 m = x3 at hoa hA
      have HA := Lib.hid hA
      have c0 := hoa.cell 0
      have c1 := hoa.cell 1
      have c2 := hoa.cell 2
      have c3 := hoa.cell 3
      have f0 := ho2.free 0
      have f1 := ho2.free 1
      have f2 := ho2.free 2
      have f3 := ho2.free 3
      have d0 := ho2.cell 0
      have d1 := ho2.cell 1
      have d2 := ho2.cell 2
      have d3 := ho2.cell 3
      have hlt2 := ho2.lt
      simp at c0 c1 c2 c3 d0 d1 d2 d3
      have HB := Lib.hid hb
      clear hoa ho2 hb hA
      go_wp2
      refine bodyPost_ret (v := .agg #[.int .i64 (x0 : Int), .int .i64 (x1 : Int), .int .i64 (x2 : Int), .int .i64 (x3 : Int)]) (by simp [results, Tryd.results34, go_sem, f0, f1, f2, f3, d0, d1, d2, d3, hlt2]) rfl ⟨by rw [HA.out], ?_⟩
      repeat (first | exact Below.refl _ _ | refine Below.setCell ?_ (by first | omega | (simp; done) | (simp; omega) | (have := HB.out.size; simp at this ⊢; omega)) _ | refine Below.alloc ?_ (by first | omega | (simp; done) | (simp; omega) | (have := HB.out.size; simp at this ⊢; omega)) _ | refine below_drewN' ?_ _ | refine Below.drew ?_ | refine Below.trans ?_ (HB.out.mono (by first | omega | (simp; done) | (simp; omega) | (have := HB.out.size; simp at this ⊢; omega))))
end Go.Proofs.YtnbcegijncdmaaaDoor.Ly16
