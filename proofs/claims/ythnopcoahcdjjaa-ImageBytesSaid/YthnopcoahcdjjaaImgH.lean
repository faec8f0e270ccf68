/- The small play of layer 10; no condition. -/
import Derived.Test.YthnopcoahcdjjaaImgG
namespace Go.Proofs.Ythnopcoahcdjjaa.Ly10
open Go.ChangeShapes Go.WideShapes Go.ChangeAt Go.RowKit Base
set_option linter.unusedVariables false
set_option linter.unusedSimpArgs false

theorem put_300 (A : Option Addr) (w : World) (hl : Lst w A 1 (u8s [0])) :
    Calls Try.prog 25 #[imv 3 0 0 A 1 1] w fun e w' => ∃ v, e = .returned (.tuple #[v, .int .i64 0]) ∧ Hid (w'.ownsRow w.heap.size TU 1 v 12 (u8s (imgB 3 0 0 [0]))) ∧ Hid (Below w.heap.size w w') := by
  have h := put_ok 3 0 0 1 A 1 [0] w (by omega) (by omega) (by omega) (by omega) (by omega) hl (by intro x hx; simp at hx; omega)
  exact h
theorem read_300 (A : Option Addr) (c : Nat) (w : World) (hl : Lst w A 12 (u8s (imgB 3 0 0 [0]))) (hnc : 12 ≤ c) (hc : c ≤ 9223372036854775807) :
    Calls Try.prog 29 #[.slice A 12 c] w fun e w' => ∃ g, e = .returned (.tuple #[imv 3 0 0 (some ⟨g, 0, none⟩) 1 1, .int .i64 0]) ∧ Hid (w.heap.size ≤ g) ∧ Hid (Lst w' (some ⟨g, 0, none⟩) 1 (u8s [0])) ∧ Hid (Below w.heap.size w w') := by
  have h := read_back 3 0 0 1 [0] A c w (by omega) (by omega) (by omega) (by omega) (by omega) rfl (by intro x hx; simp at hx; omega) hl hnc hc
  exact h
abbrev r4 : Array Value := #[.int .u8 49, .int .u8 50, .int .u8 51, .int .u8 52]
abbrev r5 : Array Value := #[.int .u8 53, .int .u8 54, .int .u8 55, .int .u8 56, .int .u8 57]
abbrev w6 (w3 : World) : World := ((w3.alloc (.cells r4 TU (4, 5))).alloc (.cells r5 TU (5, 6))).alloc (.cells #[.slice (some ⟨w3.heap.size, 0, none⟩) 4 4, .slice (some ⟨w3.heap.size + 1, 0, none⟩) 5 5] TS)
theorem w6_below (w3 : World) : Below w3.heap.size w3 (w6 w3) := (((Below.refl _ _).alloc (Nat.le_refl _) _).alloc (by simp) _).alloc (by simp; omega) _
theorem sum_two (w3 : World) : Calls Try.prog 31 #[.slice (some ⟨w3.heap.size + 1 + 1, 0, none⟩) 2 2] (w6 w3) fun e w' => e = .returned (.int .u16 10673) ∧ w6 w3 = w' := by
  have e4 : (w3.alloc (.cells r4 TU (4, 5))).heap.size = w3.heap.size + 1 := by simp
  have e5 : ((w3.alloc (.cells r4 TU (4, 5))).alloc (.cells r5 TU (5, 6))).heap.size = w3.heap.size + 1 + 1 := by simp
  have l4 : Lst (w3.alloc (.cells r4 TU (4, 5))) (some ⟨w3.heap.size, 0, none⟩) 4 (u8s [49, 50, 51, 52]) := lst_const
  have l5 : Lst ((w3.alloc (.cells r4 TU (4, 5))).alloc (.cells r5 TU (5, 6))) (some ⟨w3.heap.size + 1, 0, none⟩) 5 (u8s [53, 54, 55, 56, 57]) := by rw [← e4]; exact lst_const
  have l6 : Lst (w6 w3) (some ⟨w3.heap.size + 1 + 1, 0, none⟩) 2 [.slice (some ⟨w3.heap.size, 0, none⟩) 4 4, .slice (some ⟨w3.heap.size + 1, 0, none⟩) 5 5] := by rw [← e5]; exact lst_const
  have hb : Below ((w3.alloc (.cells r4 TU (4, 5))).alloc (.cells r5 TU (5, 6))).heap.size ((w3.alloc (.cells r4 TU (4, 5))).alloc (.cells r5 TU (5, 6))) (w6 w3) := (Below.refl _ _).alloc (Nat.le_refl _) _
  have hb4 : Below (w3.alloc (.cells r4 TU (4, 5))).heap.size (w3.alloc (.cells r4 TU (4, 5))) (w6 w3) := ((Below.refl _ _).alloc (Nat.le_refl _) _).alloc (by simp) _
  have h : BRows (w6 w3) (some ⟨w3.heap.size + 1 + 1, 0, none⟩) [⟨some ⟨w3.heap.size, 0, none⟩, 4, 4, [49, 50, 51, 52]⟩, ⟨some ⟨w3.heap.size + 1, 0, none⟩, 5, 5, [53, 54, 55, 56, 57]⟩] := by
    refine ⟨l6, fun r hr => ?_⟩
    rcases List.mem_cons.1 hr with rfl | hr
    · exact ⟨l4.kept hb4, by intro x hx; simp at hx; omega, by show 4 ≤ _; omega⟩
    · obtain rfl := List.mem_singleton.1 hr
      exact ⟨l5.kept hb, by intro x hx; simp at hx; omega, by show 5 ≤ _; omega⟩
  have := sum_any (some ⟨w3.heap.size + 1 + 1, 0, none⟩) 2 _ (w6 w3) h (by simp)
  rw [show allB [(⟨some ⟨w3.heap.size, 0, none⟩, 4, 4, [49, 50, 51, 52]⟩ : BRow), ⟨some ⟨w3.heap.size + 1, 0, none⟩, 5, 5, [53, 54, 55, 56, 57]⟩] = [49, 50, 51, 52, 53, 54, 55, 56, 57] from rfl, sum9] at this
  exact this
set_option maxRecDepth 100000 in
set_option maxHeartbeats 2000000 in
theorem one_any (w : World) : Calls Try.prog 33 #[] w fun e w' => e = .returned (.bool true) ∧ Below w.heap.size w w' := by
  have HB0 := Lib.hid (show Below w.heap.size w ((w.alloc (.cells #[.int .u8 0] TU)).alloc (.cells (c4 3 0 0 (some ⟨w.heap.size, 0, none⟩) 1 1) TI)) from ((Below.refl _ _).alloc (Nat.le_refl _) _).alloc (by simp) _)
  have e1s : (w.alloc (.cells #[.int .u8 0] TU)).heap.size = w.heap.size + 1 := by simp
  have HL0 := Lib.hid ((lst_new w TU [.int .u8 0]).kept ((Below.refl _ _).alloc (Nat.le_refl _) (.cells (c4 3 0 0 (some ⟨w.heap.size, 0, none⟩) 1 1) TI)))
  have HO0 := Lib.hid (Obj1.new (w.alloc (.cells #[.int .u8 0] TU)) TI (c4 3 0 0 (some ⟨w.heap.size, 0, none⟩) 1 1))
  rw [e1s] at HO0
  obtain ⟨g0, HG0⟩ : ∃ g0, Hid (w.heap.size = g0) := ⟨_, Lib.hid rfl⟩
  rw [HG0.out] at HO0 HL0 HB0
  clear e1s
  go_enter Try.func33, Try.ntmps33
  go_wp2_with fail
  rw [HG0.out]
  generalize (w.alloc (.cells #[.int .u8 0] TU)).alloc (.cells #[.int .i64 3, .int .i64 0, .int .i64 0, .slice (some ⟨g0, 0, none⟩) 1 1] TI) = W at HB0 HO0 HL0 ⊢
  refine (put_300 (some ⟨g0, 0, none⟩) W HL0.out).mono ?_
  rintro e w1 ⟨v, rfl, HV1, HB1⟩
  obtain ⟨A1, c1, rfl, hc1, hm1, hl1⟩ := Lst.of_own HV1.out
  unfold maxLen at hm1
  have HL1 := Lib.hid hl1
  have HW1 := Lib.hid (HB0.out.trans (HB1.out.mono (by have := HB0.out.size; rw [HG0.out] at this; exact this)))
  have HO1 := Lib.hid (HO0.out.kept HB1.out)
  have HLC1 := Lib.hid (HL0.out.kept HB1.out)
  clear hl1
  go_wp2_with fail
  refine (read_300 A1 c1 w1 HL1.out hc1 (by omega)).mono ?_
  rintro e w2 ⟨g2, rfl, HG2, HL2, HB2⟩
  have HW2 := Lib.hid (HW1.out.trans (HB2.out.mono (by have := HW1.out.size; rw [HG0.out] at this; exact this)))
  have HO2 := Lib.hid (HO1.out.kept HB2.out)
  have HLC2 := Lib.hid (HLC1.out.kept HB2.out)
  have HW3 := Lib.hid (HW2.out.alloc (by have := HW2.out.size; rw [HG0.out] at this; exact this) (.cells (c4 3 0 0 (some ⟨g2, 0, none⟩) 1 1) TI))
  have HO3 := Lib.hid (HO2.out.alloc (.cells (c4 3 0 0 (some ⟨g2, 0, none⟩) 1 1) TI))
  have HN3 := Lib.hid (Obj1.new w2 TI (c4 3 0 0 (some ⟨g2, 0, none⟩) 1 1))
  have hb3 : Below w2.heap.size w2 (w2.alloc (.cells (c4 3 0 0 (some ⟨g2, 0, none⟩) 1 1) TI)) := (Below.refl _ _).alloc (Nat.le_refl _) _
  have HLC3 := Lib.hid (HLC2.out.kept hb3)
  have HLR3 := Lib.hid (HL2.out.kept hb3)
  obtain ⟨g3, HG3⟩ : ∃ g3, Hid (w2.heap.size = g3) := ⟨_, Lib.hid rfl⟩
  rw [HG3.out] at HN3
  clear hb3
  have kc := fun (X : World) (C : Array Value) (n : Nat) => Go.Lib.run_convert_bytes_const (P := Try.prog) X TS TU C n n Try.underlying26 Try.underlying5
  have KC := Lib.hid kc
  clear kc
  go_upto_region 4 with (fail)
  rw [HG3.out]
  generalize w2.alloc (.cells #[.int .i64 3, .int .i64 0, .int .i64 0, .slice (some ⟨g2, 0, none⟩) 1 1] TI) = w3 at HW3 HO3 HN3 HLC3 HLR3 ⊢
  have k1 := KC.out w3 #[.int .u8 49, .int .u8 50, .int .u8 51, .int .u8 52] 4
  have k2 := KC.out (w3.alloc (.cells #[.int .u8 49, .int .u8 50, .int .u8 51, .int .u8 52] TU (4, 5))) #[.int .u8 53, .int .u8 54, .int .u8 55, .int .u8 56, .int .u8 57] 5
  rw [show (w3.alloc (.cells #[.int .u8 49, .int .u8 50, .int .u8 51, .int .u8 52] TU (4, 5))).heap.size = w3.heap.size + 1 by simp] at k2
  go_wp2_with fail
  refine (sum_two w3).mono ?_
  rintro e w' ⟨rfl, rfl⟩
  have HW6 := Lib.hid (HW3.out.trans ((w6_below w3).mono (by have := HW3.out.size; rw [HG0.out] at this; exact this)))
  have HO6 := HO3.out.kept (w6_below w3)
  have HN6 := HN3.out.kept (w6_below w3)
  have HLC6 := Lib.hid (HLC3.out.kept (w6_below w3))
  have HLR6 := Lib.hid (HLR3.out.kept (w6_below w3))
  clear k1 k2
  generalize w6 w3 = w7 at HW6 HO6 HN6 HLC6 HLR6
  obtain ⟨p0, p1, p2, p3⟩ := cells4 (show Obj1 w7 (g0 + 1) TI (c4 3 0 0 (some ⟨g0, 0, none⟩) 1 1) from HO6)
  obtain ⟨q0, q1, q2, q3⟩ := cells4 (show Obj1 w7 g3 TI (c4 3 0 0 (some ⟨g2, 0, none⟩) 1 1) from HN6)
  clear HO6 HN6
  go_wp2_with fail
  refine (same_yes 3 0 0 (some ⟨g2, 0, none⟩) 1 1 (some ⟨g0, 0, none⟩) 1 [0] w7 HLR6.out HLC6.out (by intro x hx; simp at hx; omega)).mono ?_
  rintro e w8 ⟨rfl, HB8⟩
  go_wp2
  go_ret
  refine ⟨rfl, ?_⟩
  have h7 := HW6.out.trans (HB8.out.mono (by have := HW6.out.size; rw [HG0.out] at this; exact this))
  rw [HG0.out]
  exact h7
end Go.Proofs.Ythnopcoahcdjjaa.Ly10
