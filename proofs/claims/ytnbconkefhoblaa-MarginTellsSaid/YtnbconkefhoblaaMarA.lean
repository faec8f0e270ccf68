/- The contracts of package margin's functions, for margins that may be, and for those that may not. -/
import Derived.Test.YtnbconkefhoblaaBox
import Derived.Test.YtnbconkefhoblaaRows
import Derived.WalkKit
import Derived.ProofKit
import Derived.OpenShut
import Derived.WalkLawsBesides
import Derived.WalkSpells
import Derived.Lib.Hide
namespace Go.Proofs.Ytnbconkefhoblaa.Ly36
open Go.ChangeShapes Go.WideShapes Go.ChangeAt Go.RowKit Base
set_option linter.unusedVariables false
set_option linter.unusedSimpArgs false

/-- A margin that may be. -/
structure Rt (s g k : Int) : Prop where
  s0 : 1 ≤ s
  s1 : s ≤ 1073741824
  g0 : 1 ≤ g
  g1 : g ≤ 1073741824
  k0 : 0 ≤ k
  k1 : k ≤ 1048576

theorem right_yes (s g k : Int) (w : World) (h : Rt s g k) : Calls Try.prog 39 #[.agg #[.int .i64 s, .int .i64 g, .int .i64 k]] w fun e w' => e = .returned (.bool true) ∧ Below w.heap.size w w' := by
  obtain ⟨s0, s1, g0, g1, k0, k1⟩ := h
  go_enter Try.func39, Try.ntmps39
  go_wp2
  go_ret
  exact ⟨rfl, (Below.refl _ _).alloc (Nat.le_refl _) _⟩
theorem right_no (s g k : Int) (w : World) (h : ¬ Rt s g k) : Calls Try.prog 39 #[.agg #[.int .i64 s, .int .i64 g, .int .i64 k]] w fun e w' => e = .returned (.bool false) ∧ Below w.heap.size w w' := by
  have h' : ¬ (1 ≤ s ∧ s ≤ 1073741824 ∧ 1 ≤ g ∧ g ≤ 1073741824 ∧ 0 ≤ k ∧ k ≤ 1048576) := fun ⟨a, b, c, d, e, f⟩ => h ⟨a, b, c, d, e, f⟩
  clear h
  rcases (show s < 1 ∨ (1 ≤ s ∧ 1073741824 < s) ∨ (1 ≤ s ∧ s ≤ 1073741824 ∧ g < 1) ∨ (1 ≤ s ∧ s ≤ 1073741824 ∧ 1 ≤ g ∧ 1073741824 < g) ∨ (1 ≤ s ∧ s ≤ 1073741824 ∧ 1 ≤ g ∧ g ≤ 1073741824 ∧ k < 0) ∨ (1 ≤ s ∧ s ≤ 1073741824 ∧ 1 ≤ g ∧ g ≤ 1073741824 ∧ 0 ≤ k ∧ 1048576 < k) by omega) with a | ⟨a, b⟩ | ⟨a, b, c⟩ | ⟨a, b, c, d⟩ | ⟨a, b, c, d, e⟩ | ⟨a, b, c, d, e, f⟩
  all_goals
    clear h'
    go_enter Try.func39, Try.ntmps39
    go_wp2
    go_ret
    exact ⟨by first | rfl | (simp; omega), (Below.refl _ _).alloc (Nat.le_refl _) _⟩

/-- How far apart clocks are. -/
def ap (s g k : Int) : Int := k + 2 * (s / g + 1)
theorem ap_bd {s g k : Int} (h : Rt s g k) : 0 ≤ s / g ∧ s / g ≤ 1073741824 ∧ 2 ≤ ap s g k ∧ ap s g k ≤ 2150000000 := by
  have h0 : 0 ≤ s / g := Int.ediv_nonneg (by have := h.s0; omega) (by have := h.g0; omega)
  have h1 : s / g ≤ s := Int.ediv_le_self _ (by have := h.s0; omega)
  have := h.s1
  have := h.k0
  have := h.k1
  unfold ap
  omega
theorem slips_no (s g k : Int) (w : World) (h : ¬ Rt s g k) : Calls Try.prog 40 #[.agg #[.int .i64 s, .int .i64 g, .int .i64 k]] w fun e w' => e = .returned (.int .i64 0) ∧ Below w.heap.size w w' := by
  go_enter Try.func40, Try.ntmps40
  go_wp2_with (go_at_call 39; refine (right_no _ _ _ _ h).mono ?_; rintro e w1 ⟨rfl, hb1⟩)
  go_ret
  refine ⟨rfl, ?_⟩
  repeat (first | exact Below.refl _ _ | refine Below.setCell ?_ (by first | omega | (simp; done) | (simp; omega) | (have := hb1.size; simp at this ⊢; omega)) _ | refine Below.alloc ?_ (by first | omega | (simp; done) | (simp; omega) | (have := hb1.size; simp at this ⊢; omega)) _ | refine below_drewN' ?_ _ | refine Below.drew ?_ | refine Below.trans ?_ (hb1.mono (by first | omega | (simp; done) | (simp; omega) | (have := hb1.size; simp at this ⊢; omega))))
theorem apart_no (s g k : Int) (w : World) (h : ¬ Rt s g k) : Calls Try.prog 41 #[.agg #[.int .i64 s, .int .i64 g, .int .i64 k]] w fun e w' => e = .returned (.int .i64 0) ∧ Below w.heap.size w w' := by
  go_enter Try.func41, Try.ntmps41
  go_wp2_with (go_at_call 39; refine (right_no _ _ _ _ h).mono ?_; rintro e w1 ⟨rfl, hb1⟩)
  go_ret
  refine ⟨rfl, ?_⟩
  repeat (first | exact Below.refl _ _ | refine Below.setCell ?_ (by first | omega | (simp; done) | (simp; omega) | (have := hb1.size; simp at this ⊢; omega)) _ | refine Below.alloc ?_ (by first | omega | (simp; done) | (simp; omega) | (have := hb1.size; simp at this ⊢; omega)) _ | refine below_drewN' ?_ _ | refine Below.drew ?_ | refine Below.trans ?_ (hb1.mono (by first | omega | (simp; done) | (simp; omega) | (have := hb1.size; simp at this ⊢; omega))))
theorem turn_no (s g k : Int) (w : World) (h : ¬ Rt s g k) : Calls Try.prog 42 #[.agg #[.int .i64 s, .int .i64 g, .int .i64 k]] w fun e w' => e = .returned (.int .i64 0) ∧ Below w.heap.size w w' := by
  go_enter Try.func42, Try.ntmps42
  go_wp2_with (go_at_call 39; refine (right_no _ _ _ _ h).mono ?_; rintro e w1 ⟨rfl, hb1⟩)
  go_ret
  refine ⟨rfl, ?_⟩
  repeat (first | exact Below.refl _ _ | refine Below.setCell ?_ (by first | omega | (simp; done) | (simp; omega) | (have := hb1.size; simp at this ⊢; omega)) _ | refine Below.alloc ?_ (by first | omega | (simp; done) | (simp; omega) | (have := hb1.size; simp at this ⊢; omega)) _ | refine below_drewN' ?_ _ | refine Below.drew ?_ | refine Below.trans ?_ (hb1.mono (by first | omega | (simp; done) | (simp; omega) | (have := hb1.size; simp at this ⊢; omega))))
theorem early_no (s g k : Int) (w : World) (h : ¬ Rt s g k) : Calls Try.prog 43 #[.agg #[.int .i64 s, .int .i64 g, .int .i64 k]] w fun e w' => e = .returned (.int .i64 0) ∧ Below w.heap.size w w' := by
  go_enter Try.func43, Try.ntmps43
  go_wp2_with (go_at_call 39; refine (right_no _ _ _ _ h).mono ?_; rintro e w1 ⟨rfl, hb1⟩)
  go_ret
  refine ⟨rfl, ?_⟩
  repeat (first | exact Below.refl _ _ | refine Below.setCell ?_ (by first | omega | (simp; done) | (simp; omega) | (have := hb1.size; simp at this ⊢; omega)) _ | refine Below.alloc ?_ (by first | omega | (simp; done) | (simp; omega) | (have := hb1.size; simp at this ⊢; omega)) _ | refine below_drewN' ?_ _ | refine Below.drew ?_ | refine Below.trans ?_ (hb1.mono (by first | omega | (simp; done) | (simp; omega) | (have := hb1.size; simp at this ⊢; omega))))
theorem late_no (s g k : Int) (w : World) (h : ¬ Rt s g k) : Calls Try.prog 44 #[.agg #[.int .i64 s, .int .i64 g, .int .i64 k]] w fun e w' => e = .returned (.int .i64 0) ∧ Below w.heap.size w w' := by
  go_enter Try.func44, Try.ntmps44
  go_wp2_with (go_at_call 39; refine (right_no _ _ _ _ h).mono ?_; rintro e w1 ⟨rfl, hb1⟩)
  go_ret
  refine ⟨rfl, ?_⟩
  repeat (first | exact Below.refl _ _ | refine Below.setCell ?_ (by first | omega | (simp; done) | (simp; omega) | (have := hb1.size; simp at this ⊢; omega)) _ | refine Below.alloc ?_ (by first | omega | (simp; done) | (simp; omega) | (have := hb1.size; simp at this ⊢; omega)) _ | refine below_drewN' ?_ _ | refine Below.drew ?_ | refine Below.trans ?_ (hb1.mono (by first | omega | (simp; done) | (simp; omega) | (have := hb1.size; simp at this ⊢; omega))))
theorem least_no (s g k : Int) (w : World) (h : ¬ Rt s g k) : Calls Try.prog 45 #[.agg #[.int .i64 s, .int .i64 g, .int .i64 k]] w fun e w' => e = .returned (.int .i64 0) ∧ Below w.heap.size w w' := by
  go_enter Try.func45, Try.ntmps45
  go_wp2_with (go_at_call 39; refine (right_no _ _ _ _ h).mono ?_; rintro e w1 ⟨rfl, hb1⟩)
  go_ret
  refine ⟨rfl, ?_⟩
  repeat (first | exact Below.refl _ _ | refine Below.setCell ?_ (by first | omega | (simp; done) | (simp; omega) | (have := hb1.size; simp at this ⊢; omega)) _ | refine Below.alloc ?_ (by first | omega | (simp; done) | (simp; omega) | (have := hb1.size; simp at this ⊢; omega)) _ | refine below_drewN' ?_ _ | refine Below.drew ?_ | refine Below.trans ?_ (hb1.mono (by first | omega | (simp; done) | (simp; omega) | (have := hb1.size; simp at this ⊢; omega))))
theorem spare_no (s g k : Int) (n : Int) (w : World) (h : ¬ Rt s g k) : Calls Try.prog 46 #[.agg #[.int .i64 s, .int .i64 g, .int .i64 k], .int .i64 n] w fun e w' => e = .returned (.int .i64 0) ∧ Below w.heap.size w w' := by
  go_enter Try.func46, Try.ntmps46
  go_wp2_with (go_at_call 39; refine (right_no _ _ _ _ h).mono ?_; rintro e w1 ⟨rfl, hb1⟩)
  go_ret
  refine ⟨rfl, ?_⟩
  repeat (first | exact Below.refl _ _ | refine Below.setCell ?_ (by first | omega | (simp; done) | (simp; omega) | (have := hb1.size; simp at this ⊢; omega)) _ | refine Below.alloc ?_ (by first | omega | (simp; done) | (simp; omega) | (have := hb1.size; simp at this ⊢; omega)) _ | refine below_drewN' ?_ _ | refine Below.drew ?_ | refine Below.trans ?_ (hb1.mono (by first | omega | (simp; done) | (simp; omega) | (have := hb1.size; simp at this ⊢; omega))))
theorem longest_no (s g k : Int) (n : Int) (w : World) (h : ¬ Rt s g k) : Calls Try.prog 47 #[.agg #[.int .i64 s, .int .i64 g, .int .i64 k], .int .i64 n] w fun e w' => e = .returned (.int .i64 0) ∧ Below w.heap.size w w' := by
  go_enter Try.func47, Try.ntmps47
  go_wp2_with (go_at_call 39; refine (right_no _ _ _ _ h).mono ?_; rintro e w1 ⟨rfl, hb1⟩)
  go_ret
  refine ⟨rfl, ?_⟩
  repeat (first | exact Below.refl _ _ | refine Below.setCell ?_ (by first | omega | (simp; done) | (simp; omega) | (have := hb1.size; simp at this ⊢; omega)) _ | refine Below.alloc ?_ (by first | omega | (simp; done) | (simp; omega) | (have := hb1.size; simp at this ⊢; omega)) _ | refine below_drewN' ?_ _ | refine Below.drew ?_ | refine Below.trans ?_ (hb1.mono (by first | omega | (simp; done) | (simp; omega) | (have := hb1.size; simp at this ⊢; omega))))
theorem slips_yes (s g k : Int) (w : World) (h : Rt s g k) : Calls Try.prog 40 #[.agg #[.int .i64 s, .int .i64 g, .int .i64 k]] w fun e w' => e = .returned (.int .i64 (s / g + 1)) ∧ Below w.heap.size w w' := by
  obtain ⟨q0, q1, a0, a1⟩ := ap_bd h
  obtain ⟨s0, s1, g0, g1, k0, k1⟩ := h
  have hg : ¬ g = 0 := by omega
  have hg' : (g == 0) = false := by simpa using hg
  go_enter Try.func40, Try.ntmps40
  go_wp2_with (go_at_call 39; refine (right_yes _ _ _ _ ⟨s0, s1, g0, g1, k0, k1⟩).mono ?_; rintro e w1 ⟨rfl, hb1⟩; obtain ⟨hc, hf⟩ := bcell hb1)
  go_ret
  refine ⟨rfl, ?_⟩
  repeat (first | exact Below.refl _ _ | refine Below.setCell ?_ (by first | omega | (simp; done) | (simp; omega) | (have := hb1.size; simp at this ⊢; omega)) _ | refine Below.alloc ?_ (by first | omega | (simp; done) | (simp; omega) | (have := hb1.size; simp at this ⊢; omega)) _ | refine below_drewN' ?_ _ | refine Below.drew ?_ | refine Below.trans ?_ (hb1.mono (by first | omega | (simp; done) | (simp; omega) | (have := hb1.size; simp at this ⊢; omega))))
theorem apart_yes (s g k : Int) (w : World) (h : Rt s g k) : Calls Try.prog 41 #[.agg #[.int .i64 s, .int .i64 g, .int .i64 k]] w fun e w' => e = .returned (.int .i64 (ap s g k)) ∧ Below w.heap.size w w' := by
  obtain ⟨q0, q1, a0, a1⟩ := ap_bd h
  unfold ap at a0 a1 ⊢
  have H := Lib.hid h
  obtain ⟨s0, s1, g0, g1, k0, k1⟩ := h
  go_enter Try.func41, Try.ntmps41
  go_wp2_with (go_at_call 39; refine (right_yes _ _ _ _ H.out).mono ?_; rintro e w1 ⟨rfl, hb1⟩; obtain ⟨hc, hf⟩ := bcell hb1)
  obtain ⟨K0, K1, K2⟩ := Kin.box3 hb1
  refine wp_region_kin (by kernel_rfl) (by kernel_rfl) ?_
  repeat (go_big_quiet_step (first | (go_at_call 40; exact Calls.kin _ (slips_yes s g k _ H.out))))
  refine wpQuiet_nil ?_
  intro _ hw'
  obtain ⟨kx, hw''⟩ := hw'
  subst hw''
  go_wp2
  go_ret
  refine ⟨rfl, ?_⟩
  have hb2 := kx.below
  repeat (first | exact Below.refl _ _ | refine Below.setCell ?_ (by first | omega | (simp; done) | (simp; omega) | (have := hb1.size; simp at this ⊢; omega) | (have := hb2.size; simp at this ⊢; omega) | (have := hb1.size; have := hb2.size; simp at *; omega)) _ | refine Below.alloc ?_ (by first | omega | (simp; done) | (simp; omega) | (have := hb1.size; simp at this ⊢; omega) | (have := hb2.size; simp at this ⊢; omega) | (have := hb1.size; have := hb2.size; simp at *; omega)) _ | refine below_drewN' ?_ _ | refine Below.drew ?_ | refine Below.trans ?_ (hb1.mono (by first | omega | (simp; done) | (simp; omega) | (have := hb1.size; simp at this ⊢; omega) | (have := hb2.size; simp at this ⊢; omega) | (have := hb1.size; have := hb2.size; simp at *; omega))) | refine Below.trans ?_ (hb2.mono (by first | omega | (simp; done) | (simp; omega) | (have := hb1.size; simp at this ⊢; omega) | (have := hb2.size; simp at this ⊢; omega) | (have := hb1.size; have := hb2.size; simp at *; omega))))
end Go.Proofs.Ytnbconkefhoblaa.Ly36
