/- The contracts of package margin's House, and of the statements' own helper 'one': what they come to. -/
import Derived.Test.YtnbconkefhoblaaMarC
import Derived.Test.YtnbconkefhoblaaSh
namespace Go.Proofs.Ytnbconkefhoblaa.Ly36
open Go.ChangeShapes Go.WideShapes Go.ChangeAt Go.RowKit Base
set_option linter.unusedVariables false
set_option linter.unusedSimpArgs false

theorem house_any (w : World) : Calls Try.prog 83 #[] w fun e w' => e = .returned (.agg #[.int .i64 4000, .int .i64 4400, .int .i64 1]) ∧ Below w.heap.size w w' := by
  go_enter Try.func83, Try.ntmps83
  go_wp2
  refine bodyPost_ret (v := .agg #[.int .i64 4000, .int .i64 4400, .int .i64 1]) (by simp [results, Try.results83, go_sem]) rfl ⟨rfl, ?_⟩
  repeat (first | exact Below.refl _ _ | refine Below.setCell ?_ (by first | omega | (simp; done) | (simp; omega)) _ | refine Below.alloc ?_ (by first | omega | (simp; done) | (simp; omega)) _ | refine below_drewN' ?_ _ | refine Below.drew ?_)
theorem hR : Rt 4000 4400 1 := ⟨by decide, by decide, by decide, by decide, by decide, by decide⟩
theorem h_slips (w : World) : Calls Try.prog 40 #[.agg #[.int .i64 4000, .int .i64 4400, .int .i64 1]] w fun e w' => e = .returned (.int .i64 1) ∧ Below w.heap.size w w' := by
  have := slips_yes 4000 4400 1 w hR
  rwa [show (4000 : Int) / 4400 + 1 = 1 by decide] at this
theorem ap_house : ap 4000 4400 1 = 3 := by decide
theorem h_apart (w : World) : Calls Try.prog 41 #[.agg #[.int .i64 4000, .int .i64 4400, .int .i64 1]] w fun e w' => e = .returned (.int .i64 3) ∧ Below w.heap.size w w' := by
  have := apart_yes 4000 4400 1 w hR
  rwa [ap_house] at this
theorem h_turn (w : World) : Calls Try.prog 42 #[.agg #[.int .i64 4000, .int .i64 4400, .int .i64 1]] w fun e w' => e = .returned (.int .i64 4) ∧ Below w.heap.size w w' := by
  have := turn_yes 4000 4400 1 w hR
  rwa [ap_house, show (3 : Int) + 1 = 4 by decide] at this
theorem h_early (w : World) : Calls Try.prog 43 #[.agg #[.int .i64 4000, .int .i64 4400, .int .i64 1]] w fun e w' => e = .returned (.int .i64 4) ∧ Below w.heap.size w w' := by
  have := early_yes 4000 4400 1 w hR
  rwa [ap_house, show (3 : Int) + 1 = 4 by decide] at this
theorem h_late (w : World) : Calls Try.prog 44 #[.agg #[.int .i64 4000, .int .i64 4400, .int .i64 1]] w fun e w' => e = .returned (.int .i64 5) ∧ Below w.heap.size w w' := by
  have := late_yes 4000 4400 1 w hR
  rwa [ap_house, show (3 : Int) + 1 + 1 = 5 by decide] at this
theorem h_fits10 (w : World) : Calls Try.prog 48 #[.agg #[.int .i64 4000, .int .i64 4400, .int .i64 1], .int .i64 10] w fun e w' => e = .returned (.bool true) ∧ Below w.heap.size w w' :=
  fits_c 4000 4400 1 10 true (by decide) w hR (by decide) (by decide)
theorem h_fits9 (w : World) : Calls Try.prog 48 #[.agg #[.int .i64 4000, .int .i64 4400, .int .i64 1], .int .i64 9] w fun e w' => e = .returned (.bool false) ∧ Below w.heap.size w w' :=
  fits_c 4000 4400 1 9 false (by decide) w hR (by decide) (by decide)
theorem h_least (w : World) : Calls Try.prog 45 #[.agg #[.int .i64 4000, .int .i64 4400, .int .i64 1]] w fun e w' => e = .returned (.int .i64 10) ∧ Below w.heap.size w w' := by
  have := least_yes 4000 4400 1 w hR
  rwa [show lst 4000 4400 1 = 10 by decide] at this
set_option maxHeartbeats 1000000 in
theorem one_any (w : World) : Calls Try.prog 49 #[] w fun e w' => e = .returned (.bool true) ∧ Below w.heap.size w w' := by
  go_enter Try.func49, Try.ntmps49
  go_wp2_with fail
  refine (house_any w).mono ?_
  rintro e w1 ⟨rfl, hb1⟩
  obtain ⟨x, rfl⟩ := Kin.ex hb1
  go_wp2_with fail
  refine (h_slips _).mono ?_
  rintro e w1 ⟨rfl, hb2⟩
  obtain ⟨y, rfl⟩ := Kin.ex hb2
  obtain ⟨K0, K1, K2⟩ := Kin.box3 (Below.refl _ (x.world.alloc (.cells #[.int .i64 4000, .int .i64 4400, .int .i64 1] 67)))
  go_wp2_with fail
  refine (Calls.kin _ (h_apart _)).mono ?_; rintro e w' ⟨rfl, y2, rfl⟩
  go_wp2_with fail
  refine (Calls.kin _ (h_turn _)).mono ?_; rintro e w' ⟨rfl, y3, rfl⟩
  go_wp2_with fail
  refine (Calls.kin _ (h_late _)).mono ?_; rintro e w' ⟨rfl, y4, rfl⟩
  go_wp2_with fail
  refine (Calls.kin _ (h_early _)).mono ?_; rintro e w' ⟨rfl, y5, rfl⟩
  go_wp2_with fail
  refine (Calls.kin _ (h_fits10 _)).mono ?_; rintro e w' ⟨rfl, y6, rfl⟩
  go_wp2_with fail
  refine (Calls.kin _ (h_fits9 _)).mono ?_; rintro e w' ⟨rfl, y7, rfl⟩
  go_wp2_with fail
  refine (Calls.kin _ (h_least _)).mono ?_; rintro e w' ⟨rfl, y8, rfl⟩
  go_wp2_with fail
  refine (Calls.kin _ (right_yes _ _ _ _ hR)).mono ?_; rintro e w' ⟨rfl, y9, rfl⟩
  go_wp2
  go_ret
  exact ⟨rfl, x.below.trans (y9.end1.mono x.below.size)⟩

theorem fitB_less {s s' g k n : Int} (h : Rt s g k) (h0 : 1 ≤ s') (h1 : s' ≤ s) (hf : fitB s g k n = true) : fitB s' g k n = true := by
  have hq : s' / g ≤ s / g := Int.ediv_le_ediv (by have := h.g0; omega) h1
  unfold fitB ap at *
  have := of_decide_eq_true hf
  exact decide_eq_true (by omega)
theorem reads3 {w : World} {cs : Array Value} (h : Reads w (.fld (.int .i64) (.fld (.int .i64) (.fld (.int .i64) .nil))) cs.toList) :
    ∃ s g k, cs = #[.int .i64 s, .int .i64 g, .int .i64 k] ∧ (-9223372036854775808 ≤ s ∧ s ≤ 9223372036854775807) ∧ (-9223372036854775808 ≤ g ∧ g ≤ 9223372036854775807) ∧ (-9223372036854775808 ≤ k ∧ k ≤ 9223372036854775807) := by
  obtain ⟨_, _, e, ⟨s, rfl, hs⟩, _, _, rfl, ⟨g, rfl, hg⟩, _, _, rfl, ⟨k, rfl, hk⟩, rfl⟩ := h
  exact ⟨s, g, k, by cases cs; simpa using e, bounds_i64 hs, bounds_i64 hg, bounds_i64 hk⟩
end Go.Proofs.Ytnbconkefhoblaa.Ly36
