/- `one` of layer 21; no condition. -/
import Derived.Test.YtejhjpdcodloaaaBudF
namespace Go.Proofs.Ytejhjpdcodloaaa.Ly21
open Go.ChangeShapes Go.WideShapes Go.ChangeAt Go.RowKit Base Go.Maps Ly20
set_option linter.unusedVariables false
set_option linter.unusedSimpArgs false

set_option maxHeartbeats 1000000 in
theorem healthy_0 (B : Option Addr) (m d : Nat) (w : World) : Calls Try.prog 40 #[.agg #[.int .i64 0, .int .i64 0, .bool false, .int .i64 0, .int .i64 0, .slice none 0 0, .slice B m d], .int .i64 0] w fun e w' => e = .returned (.bool true) ∧ Below w.heap.size w w' := by
  have HOF := Lib.hid (fun W => of_any 0 0 false 0 0 none 0 0 0 W)
  have HB1 := Lib.hid (bel1 w (.cells #[.int .i64 0, .int .i64 0, .bool false, .int .i64 0, .int .i64 0, .slice none 0 0, .slice B m d] TC))
  have hof : ofB 0 0 0 = false := rfl
  go_enter Try.func40, Try.ntmps40
  go_wp2_with fail
  refine (HOF.out _).mono ?_
  rintro e w2 ⟨rfl, hb2⟩
  have HB2 := Lib.hid (HB1.out.trans (hb2.mono HB1.out.size))
  rw [hof]
  clear hb2
  go_wp2
  go_ret
  exact ⟨rfl, HB2.out⟩
theorem sls_of8 {w : World} {b : Nat} {t : Int} (h : Obj1 w b TBS #[.int .i64 0, .bool false, .int .i64 t, .int .i64 1, .int .i64 0, .bool false, .int .i64 0, .int .i64 (-1)]) : SlsAt w (some ⟨b, 0, none⟩) 2 [⟨0, false, t, 1⟩, ⟨0, false, 0, -1⟩] where
  len := rfl
  at' := fun _ => ⟨b, 0, rfl, h.lt, fun i x hx j hj => by
    rw [h.cell]
    rcases (show i = 0 ∨ i = 1 by have := (List.getElem?_eq_some_iff.1 hx).1; simp at this; omega) with rfl | rfl
    · simp at hx
      subst hx
      rcases (show j = 0 ∨ j = 1 ∨ j = 2 ∨ j = 3 by omega) with rfl | rfl | rfl | rfl <;> rfl
    · simp at hx
      subst hx
      rcases (show j = 0 ∨ j = 1 ∨ j = 2 ∨ j = 3 by omega) with rfl | rfl | rfl | rfl <;> rfl⟩
theorem fld_c (a b c d e f g : Value) (w : World) : (Instr.field TC (.agg #[a, b, c, d, e, f, g]) 1).run Try.prog w = .ok g w := by first | rfl | kernel_rfl | (simp [Instr.field, go_sem])
set_option maxRecDepth 100000 in
set_option maxHeartbeats 2000000 in
theorem one_any (w : World) : Calls Try.prog 15 #[] w fun e w' => e = .returned (.bool true) ∧ Below w.heap.size w w' := by
  obtain ⟨b1, HB1⟩ : ∃ b, Hid (w.heap.size = b) := ⟨_, Lib.hid rfl⟩
  obtain ⟨W1, HW1⟩ : ∃ W, Hid (W = w.alloc (.cells #[.int .i64 0, .bool false, .int .i64 4399, .int .i64 1, .int .i64 0, .bool false, .int .i64 0, .int .i64 (-1)] TBS)) := ⟨_, Lib.hid rfl⟩
  obtain ⟨g1, HH1⟩ : ∃ g, Hid (b1 + 1 = g) := ⟨_, Lib.hid rfl⟩
  have HG1 : Hid (W1.heap.size = g1) := Lib.hid (by rw [HW1.out, ← HH1.out, ← HB1.out]; simp)
  obtain ⟨W2, HW2⟩ : ∃ W, Hid (W = W1.alloc (.cells #[.int .i64 0, .int .i64 0, .bool false, .int .i64 0, .int .i64 0, .slice none 0 0, .slice (some ⟨b1, 0, none⟩) 2 2] TC)) := ⟨_, Lib.hid rfl⟩
  obtain ⟨b2, HB2⟩ : ∃ b, Hid (W2.heap.size = b) := ⟨_, Lib.hid rfl⟩
  obtain ⟨W3, HW3⟩ : ∃ W, Hid (W = W2.alloc (.cells #[.int .i64 0, .bool false, .int .i64 4400, .int .i64 1, .int .i64 0, .bool false, .int .i64 0, .int .i64 (-1)] TBS)) := ⟨_, Lib.hid rfl⟩
  obtain ⟨g2, HH2⟩ : ∃ g, Hid (b2 + 1 = g) := ⟨_, Lib.hid rfl⟩
  have HG2 : Hid (W3.heap.size = g2) := Lib.hid (by rw [HW3.out, ← HH2.out, ← HB2.out]; simp)
  obtain ⟨W4, HW4⟩ : ∃ W, Hid (W = W3.alloc (.cells #[.int .i64 0, .int .i64 0, .bool false, .int .i64 0, .int .i64 0, .slice none 0 0, .slice (some ⟨b2, 0, none⟩) 2 2] TC)) := ⟨_, Lib.hid rfl⟩
  have n1 : Below w.heap.size w W1 := by rw [HW1.out]; exact bel1 _ _
  have n2 : Below W1.heap.size W1 W2 := by rw [HW2.out]; exact bel1 _ _
  have n3 : Below W2.heap.size W2 W3 := by rw [HW3.out]; exact bel1 _ _
  have n4 : Below W3.heap.size W3 W4 := by rw [HW4.out]; exact bel1 _ _
  have HBW : Hid (Below w.heap.size w W4) := Lib.hid (((n1.trans (n2.mono n1.size)).trans (n3.mono (Nat.le_trans n1.size n2.size))).trans (n4.mono (Nat.le_trans (Nat.le_trans n1.size n2.size) n3.size)))
  have HS1 : Hid (∀ W, Below W4.heap.size W4 W → SlsAt W (some ⟨b1, 0, none⟩) 2 L1) := Lib.hid (fun W h => sls_of8 ((((show Obj1 W1 b1 TBS #[.int .i64 0, .bool false, .int .i64 4399, .int .i64 1, .int .i64 0, .bool false, .int .i64 0, .int .i64 (-1)] by rw [HW1.out, ← HB1.out]; exact Obj1.new _ _ _).kept n2).kept n3).kept n4 |>.kept h))
  have HS2 : Hid (∀ W, Below W4.heap.size W4 W → SlsAt W (some ⟨b2, 0, none⟩) 2 L2) := Lib.hid (fun W h => sls_of8 (((show Obj1 W3 b2 TBS #[.int .i64 0, .bool false, .int .i64 4400, .int .i64 1, .int .i64 0, .bool false, .int .i64 0, .int .i64 (-1)] by rw [HW3.out, ← HB2.out]; exact Obj1.new _ _ _).kept n4).kept h))
  have HO1 : Hid (∀ W, Below W4.heap.size W4 W → Obj1 W g1 TC #[.int .i64 0, .int .i64 0, .bool false, .int .i64 0, .int .i64 0, .slice none 0 0, .slice (some ⟨b1, 0, none⟩) 2 2]) := Lib.hid (fun W h => (((show Obj1 W2 g1 TC #[.int .i64 0, .int .i64 0, .bool false, .int .i64 0, .int .i64 0, .slice none 0 0, .slice (some ⟨b1, 0, none⟩) 2 2] by rw [HW2.out, ← HG1.out]; exact Obj1.new _ _ _).kept n3).kept n4).kept h)
  have HO2 : Hid (∀ W, Below W4.heap.size W4 W → Obj1 W g2 TC #[.int .i64 0, .int .i64 0, .bool false, .int .i64 0, .int .i64 0, .slice none 0 0, .slice (some ⟨b2, 0, none⟩) 2 2]) := Lib.hid (fun W h => (show Obj1 W4 g2 TC #[.int .i64 0, .int .i64 0, .bool false, .int .i64 0, .int .i64 0, .slice none 0 0, .slice (some ⟨b2, 0, none⟩) 2 2] by rw [HW4.out, ← HG2.out]; exact Obj1.new _ _ _).kept h)
  have HC1 : Hid (∀ W, Below W4.heap.size W4 W → Calls Try.prog 14 #[.agg #[.int .i64 0, .int .i64 0, .bool false, .int .i64 0, .int .i64 0, .slice none 0 0, .slice (some ⟨b1, 0, none⟩) 2 2], .int .i64 1] W fun e w' => e = .returned (.int .i64 19) ∧ Below W.heap.size W w') := Lib.hid (fun W h => by
    have := check_any 0 0 false 0 0 none 0 0 (some ⟨b1, 0, none⟩) 2 2 L1 1 W (HS1.out W h) (by omega) (by omega) (by omega)
    rwa [show (if rightF 0 0 0 0 0 1 ≠ 0 then rightF 0 0 0 0 0 1 else chkA 1 [] L1) = 19 by decide] at this)
  have HC2 : Hid (∀ W, Below W4.heap.size W4 W → Calls Try.prog 14 #[.agg #[.int .i64 0, .int .i64 0, .bool false, .int .i64 0, .int .i64 0, .slice none 0 0, .slice (some ⟨b2, 0, none⟩) 2 2], .int .i64 1] W fun e w' => e = .returned (.int .i64 0) ∧ Below W.heap.size W w') := Lib.hid (fun W h => by
    have := check_any 0 0 false 0 0 none 0 0 (some ⟨b2, 0, none⟩) 2 2 L2 1 W (HS2.out W h) (by omega) (by omega) (by omega)
    rwa [show (if rightF 0 0 0 0 0 1 ≠ 0 then rightF 0 0 0 0 0 1 else chkA 1 [] L2) = 0 by decide] at this)
  have HC3 : Hid (∀ W, Below W4.heap.size W4 W → Calls Try.prog 14 #[.agg #[.int .i64 0, .int .i64 0, .bool false, .int .i64 0, .int .i64 0, .slice none 0 0, .slice (some ⟨b2, 0, none⟩) 2 2], .int .i64 0] W fun e w' => e = .returned (.int .i64 2) ∧ Below W.heap.size W w') := Lib.hid (fun W h => by
    have := check_any 0 0 false 0 0 none 0 0 (some ⟨b2, 0, none⟩) 2 2 L2 0 W (HS2.out W h) (by omega) (by omega) (by omega)
    rwa [show (if rightF 0 0 0 0 0 0 ≠ 0 then rightF 0 0 0 0 0 0 else chkA 0 [] L2) = 2 by decide] at this)
  have HF1 : Hid (∀ W, Below W4.heap.size W4 W → Calls Try.prog 12 #[.agg #[.int .i64 0, .int .i64 0, .bool false, .int .i64 0, .int .i64 0, .slice none 0 0, .slice (some ⟨b1, 0, none⟩) 2 2], .int .i64 1] W fun e w' => ∃ (f : Ft) (B' : Option Addr) (d' : Nat), e = .returned (.agg (f.cells (.slice B' 1 d'))) ∧ Below W.heap.size W w') := Lib.hid (fun W h => by
    refine (fit_any 0 0 false 0 0 none 0 0 (some ⟨b1, 0, none⟩) 2 2 [] L1 1 W ⟨rfl, fun h => absurd h (Nat.lt_irrefl _)⟩ (by omega) (HS1.out W h) (by omega) (by omega)).mono ?_
    rintro e w' ⟨f, B', d', he, _, _, _, _, hb⟩
    rw [show (fitA 1 [] L1).length = 1 by decide] at he
    exact ⟨f, B', d', he, hb.out⟩)
  have HR1 := Lib.hid n1
  clear n1 n2 n3 n4
  go_enter Try.func15, Try.ntmps15
  go_upto_region 2 with (fail)
  rw [← HW1.out, HB1.out, HH1.out, ← HW2.out]
  go_upto_region 3 with (fail)
  rw [← HW3.out, HB2.out, HH2.out, ← HW4.out]
  clear HW1 HW2 HW3 HW4 HB1 HB2 HG1 HG2 HH1 HH2
  have hfl := fld_c
  have HX0 : Hid (Below W4.heap.size W4 W4) := Lib.hid (Below.refl _ _)
  have q0 := (HO1.out _ HX0.out).cell 0
  have q1 := (HO1.out _ HX0.out).cell 1
  have q2 := (HO1.out _ HX0.out).cell 2
  have q3 := (HO1.out _ HX0.out).cell 3
  have q4 := (HO1.out _ HX0.out).cell 4
  have q5 := (HO1.out _ HX0.out).cell 5
  have q6 := (HO1.out _ HX0.out).cell 6
  simp at q0 q1 q2 q3 q4 q5 q6
  go_wp2_with fail
  refine (HC1.out _ HX0.out).mono ?_
  rintro e v1 ⟨rfl, hb1⟩
  have HB1 := Lib.hid (HX0.out.trans (hb1.mono HX0.out.size))
  clear hb1 q0 q1 q2 q3 q4 q5 q6
  have q0 := (HO2.out _ HB1.out).cell 0
  have q1 := (HO2.out _ HB1.out).cell 1
  have q2 := (HO2.out _ HB1.out).cell 2
  have q3 := (HO2.out _ HB1.out).cell 3
  have q4 := (HO2.out _ HB1.out).cell 4
  have q5 := (HO2.out _ HB1.out).cell 5
  have q6 := (HO2.out _ HB1.out).cell 6
  simp at q0 q1 q2 q3 q4 q5 q6
  go_wp2_with fail
  refine (HC2.out _ HB1.out).mono ?_
  rintro e v2 ⟨rfl, hb2⟩
  have HB2 := Lib.hid (HB1.out.trans (hb2.mono HB1.out.size))
  clear hb2 q0 q1 q2 q3 q4 q5 q6
  have q0 := (HO1.out _ HB2.out).cell 0
  have q1 := (HO1.out _ HB2.out).cell 1
  have q2 := (HO1.out _ HB2.out).cell 2
  have q3 := (HO1.out _ HB2.out).cell 3
  have q4 := (HO1.out _ HB2.out).cell 4
  have q5 := (HO1.out _ HB2.out).cell 5
  have q6 := (HO1.out _ HB2.out).cell 6
  simp at q0 q1 q2 q3 q4 q5 q6
  go_wp2_with fail
  refine (at_1 b1 2 _ (HS1.out _ HB2.out)).mono ?_
  rintro e v3 ⟨rfl, hb3⟩
  have HB3 := Lib.hid (HB2.out.trans (hb3.mono HB2.out.size))
  clear hb3 q0 q1 q2 q3 q4 q5 q6
  have q0 := (HO1.out _ HB3.out).cell 0
  have q1 := (HO1.out _ HB3.out).cell 1
  have q2 := (HO1.out _ HB3.out).cell 2
  have q3 := (HO1.out _ HB3.out).cell 3
  have q4 := (HO1.out _ HB3.out).cell 4
  have q5 := (HO1.out _ HB3.out).cell 5
  have q6 := (HO1.out _ HB3.out).cell 6
  simp at q0 q1 q2 q3 q4 q5 q6
  go_wp2_with fail
  refine (at_2 b1 2 _ (HS1.out _ HB3.out)).mono ?_
  rintro e v4 ⟨rfl, hb4⟩
  have HB4 := Lib.hid (HB3.out.trans (hb4.mono HB3.out.size))
  clear hb4 q0 q1 q2 q3 q4 q5 q6
  have q0 := (HO2.out _ HB4.out).cell 0
  have q1 := (HO2.out _ HB4.out).cell 1
  have q2 := (HO2.out _ HB4.out).cell 2
  have q3 := (HO2.out _ HB4.out).cell 3
  have q4 := (HO2.out _ HB4.out).cell 4
  have q5 := (HO2.out _ HB4.out).cell 5
  have q6 := (HO2.out _ HB4.out).cell 6
  simp at q0 q1 q2 q3 q4 q5 q6
  go_wp2_with fail
  refine (HC3.out _ HB4.out).mono ?_
  rintro e v5 ⟨rfl, hb5⟩
  have HB5 := Lib.hid (HB4.out.trans (hb5.mono HB4.out.size))
  clear hb5 q0 q1 q2 q3 q4 q5 q6
  have q0 := (HO1.out _ HB5.out).cell 0
  have q1 := (HO1.out _ HB5.out).cell 1
  have q2 := (HO1.out _ HB5.out).cell 2
  have q3 := (HO1.out _ HB5.out).cell 3
  have q4 := (HO1.out _ HB5.out).cell 4
  have q5 := (HO1.out _ HB5.out).cell 5
  have q6 := (HO1.out _ HB5.out).cell 6
  simp at q0 q1 q2 q3 q4 q5 q6
  go_wp2_with fail
  refine (HF1.out _ HB5.out).mono ?_
  rintro e v6 ⟨ft, fB, fd, rfl, hb6⟩
  have HB6 := Lib.hid (HB5.out.trans (hb6.mono HB5.out.size))
  clear hb6 q0 q1 q2 q3 q4 q5 q6
  have q0 := (HO1.out _ HB6.out).cell 0
  have q1 := (HO1.out _ HB6.out).cell 1
  have q2 := (HO1.out _ HB6.out).cell 2
  have q3 := (HO1.out _ HB6.out).cell 3
  have q4 := (HO1.out _ HB6.out).cell 4
  have q5 := (HO1.out _ HB6.out).cell 5
  have q6 := (HO1.out _ HB6.out).cell 6
  simp at q0 q1 q2 q3 q4 q5 q6
  go_wp2_with fail
  refine (healthy_0 (some ⟨b1, 0, none⟩) 2 2 _).mono ?_
  rintro e v7 ⟨rfl, hb7⟩
  have HB7 := Lib.hid (HB6.out.trans (hb7.mono HB6.out.size))
  clear hb7 q0 q1 q2 q3 q4 q5 q6
  go_wp2
  go_ret
  exact ⟨rfl, HBW.out.trans (HB7.out.mono HBW.out.size)⟩
end Go.Proofs.Ytejhjpdcodloaaa.Ly21
