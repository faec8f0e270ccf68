/- The contracts of package margin's functions that call others: Turn, Early, Late, Fits, Least, Spare, Longest, House. -/
import Derived.Test.YtnbconkefhoblaaMarA
namespace Go.Proofs.Ytnbconkefhoblaa.Ly36
open Go.ChangeShapes Go.WideShapes Go.ChangeAt Go.RowKit Base
set_option linter.unusedVariables false
set_option linter.unusedSimpArgs false

theorem turn_yes (s g k : Int) (w : World) (h : Rt s g k) : Calls Try.prog 42 #[.agg #[.int .i64 s, .int .i64 g, .int .i64 k]] w fun e w' => e = .returned (.int .i64 (ap s g k + 1)) ∧ Below w.heap.size w w' := by
  obtain ⟨q0, q1, a0, a1⟩ := ap_bd h
  go_enter Try.func42, Try.ntmps42
  go_wp2_with (first | (go_at_call 39; refine (right_yes _ _ _ _ h).mono ?_; rintro e w1 ⟨rfl, hb1⟩; obtain ⟨hc, hf⟩ := bcell hb1) | (go_at_call 41; refine (apart_yes _ _ _ _ h).mono ?_; rintro e w2 ⟨rfl, hb2⟩))
  go_ret
  refine ⟨rfl, ?_⟩
  repeat (first | exact Below.refl _ _ | refine Below.setCell ?_ (by first | omega | (simp; done) | (simp; omega) | (have := hb1.size; simp at this ⊢; omega) | (have := hb2.size; simp at this ⊢; omega) | (have := hb1.size; have := hb2.size; simp at *; omega)) _ | refine Below.alloc ?_ (by first | omega | (simp; done) | (simp; omega) | (have := hb1.size; simp at this ⊢; omega) | (have := hb2.size; simp at this ⊢; omega) | (have := hb1.size; have := hb2.size; simp at *; omega)) _ | refine below_drewN' ?_ _ | refine Below.drew ?_ | refine Below.trans ?_ (hb1.mono (by first | omega | (simp; done) | (simp; omega) | (have := hb1.size; simp at this ⊢; omega) | (have := hb2.size; simp at this ⊢; omega) | (have := hb1.size; have := hb2.size; simp at *; omega))) | refine Below.trans ?_ (hb2.mono (by first | omega | (simp; done) | (simp; omega) | (have := hb1.size; simp at this ⊢; omega) | (have := hb2.size; simp at this ⊢; omega) | (have := hb1.size; have := hb2.size; simp at *; omega))))
theorem early_yes (s g k : Int) (w : World) (h : Rt s g k) : Calls Try.prog 43 #[.agg #[.int .i64 s, .int .i64 g, .int .i64 k]] w fun e w' => e = .returned (.int .i64 (ap s g k + 1)) ∧ Below w.heap.size w w' := by
  obtain ⟨q0, q1, a0, a1⟩ := ap_bd h
  go_enter Try.func43, Try.ntmps43
  go_wp2_with (first | (go_at_call 39; refine (right_yes _ _ _ _ h).mono ?_; rintro e w1 ⟨rfl, hb1⟩; obtain ⟨hc, hf⟩ := bcell hb1) | (go_at_call 41; refine (apart_yes _ _ _ _ h).mono ?_; rintro e w2 ⟨rfl, hb2⟩))
  go_ret
  refine ⟨rfl, ?_⟩
  repeat (first | exact Below.refl _ _ | refine Below.setCell ?_ (by first | omega | (simp; done) | (simp; omega) | (have := hb1.size; simp at this ⊢; omega) | (have := hb2.size; simp at this ⊢; omega) | (have := hb1.size; have := hb2.size; simp at *; omega)) _ | refine Below.alloc ?_ (by first | omega | (simp; done) | (simp; omega) | (have := hb1.size; simp at this ⊢; omega) | (have := hb2.size; simp at this ⊢; omega) | (have := hb1.size; have := hb2.size; simp at *; omega)) _ | refine below_drewN' ?_ _ | refine Below.drew ?_ | refine Below.trans ?_ (hb1.mono (by first | omega | (simp; done) | (simp; omega) | (have := hb1.size; simp at this ⊢; omega) | (have := hb2.size; simp at this ⊢; omega) | (have := hb1.size; have := hb2.size; simp at *; omega))) | refine Below.trans ?_ (hb2.mono (by first | omega | (simp; done) | (simp; omega) | (have := hb1.size; simp at this ⊢; omega) | (have := hb2.size; simp at this ⊢; omega) | (have := hb1.size; have := hb2.size; simp at *; omega))))
theorem late_yes (s g k : Int) (w : World) (h : Rt s g k) : Calls Try.prog 44 #[.agg #[.int .i64 s, .int .i64 g, .int .i64 k]] w fun e w' => e = .returned (.int .i64 (ap s g k + k + 1)) ∧ Below w.heap.size w w' := by
  obtain ⟨q0, q1, a0, a1⟩ := ap_bd h
  have H := Lib.hid h
  obtain ⟨s0, s1, g0, g1, k0, k1⟩ := h
  go_enter Try.func44, Try.ntmps44
  go_wp2_with (go_at_call 39; refine (right_yes _ _ _ _ H.out).mono ?_; rintro e w1 ⟨rfl, hb1⟩; obtain ⟨hc, hf⟩ := bcell hb1)
  obtain ⟨K0, K1, K2⟩ := Kin.box3 hb1
  refine wp_region_kin (by kernel_rfl) (by kernel_rfl) ?_
  repeat (go_big_quiet_step (first | (go_at_call 41; exact Calls.kin _ (apart_yes s g k _ H.out))))
  refine wpQuiet_nil ?_
  intro _ hw'
  obtain ⟨kx, hw''⟩ := hw'
  subst hw''
  go_wp2
  go_ret
  refine ⟨rfl, ?_⟩
  have hb2 := kx.below
  repeat (first | exact Below.refl _ _ | refine Below.setCell ?_ (by first | omega | (simp; done) | (simp; omega) | (have := hb1.size; simp at this ⊢; omega) | (have := hb2.size; simp at this ⊢; omega) | (have := hb1.size; have := hb2.size; simp at *; omega)) _ | refine Below.alloc ?_ (by first | omega | (simp; done) | (simp; omega) | (have := hb1.size; simp at this ⊢; omega) | (have := hb2.size; simp at this ⊢; omega) | (have := hb1.size; have := hb2.size; simp at *; omega)) _ | refine below_drewN' ?_ _ | refine Below.drew ?_ | refine Below.trans ?_ (hb1.mono (by first | omega | (simp; done) | (simp; omega) | (have := hb1.size; simp at this ⊢; omega) | (have := hb2.size; simp at this ⊢; omega) | (have := hb1.size; have := hb2.size; simp at *; omega))) | refine Below.trans ?_ (hb2.mono (by first | omega | (simp; done) | (simp; omega) | (have := hb1.size; simp at this ⊢; omega) | (have := hb2.size; simp at this ⊢; omega) | (have := hb1.size; have := hb2.size; simp at *; omega))))
theorem fits_no (s g k n : Int) (w : World) (n0 : -9223372036854775808 ≤ n) (n1 : n ≤ 9223372036854775807) (h : ¬ Rt s g k) : Calls Try.prog 48 #[.agg #[.int .i64 s, .int .i64 g, .int .i64 k], .int .i64 n] w fun e w' => e = .returned (.bool false) ∧ Below w.heap.size w w' := by
  have H := Lib.hid h
  clear h
  go_enter Try.func48, Try.ntmps48
  go_wp2_with (first | (go_at_call 39; refine (right_no s g k _ H.out).mono ?_; rintro e w1 ⟨rfl, hb1⟩; obtain ⟨hc, hf⟩ := bcell hb1))
  go_ret
  refine ⟨rfl, ?_⟩
  repeat (first | exact Below.refl _ _ | refine Below.setCell ?_ (by first | omega | (simp; done) | (simp; omega) | (have := hb1.size; simp at this ⊢; omega)) _ | refine Below.alloc ?_ (by first | omega | (simp; done) | (simp; omega) | (have := hb1.size; simp at this ⊢; omega)) _ | refine below_drewN' ?_ _ | refine Below.drew ?_ | refine Below.trans ?_ (hb1.mono (by first | omega | (simp; done) | (simp; omega) | (have := hb1.size; simp at this ⊢; omega))))
/-- Does a half fit? -/
def fitB (s g k n : Int) : Bool := decide (ap s g k + k + 1 ≤ n / 2 ∧ ap s g k + 1 < n - n / 2)
theorem fits_yes (s g k n : Int) (w : World) (h : Rt s g k) (n0 : 0 ≤ n) (n1 : n ≤ 5000000000) : Calls Try.prog 48 #[.agg #[.int .i64 s, .int .i64 g, .int .i64 k], .int .i64 n] w fun e w' => e = .returned (.bool (fitB s g k n)) ∧ Below w.heap.size w w' := by
  obtain ⟨q0, q1, a0, a1⟩ := ap_bd h
  have k0 := h.k0
  have k1 := h.k1
  have H := Lib.hid h
  have n2 : 0 ≤ n / 2 := by omega
  have n3 : n / 2 ≤ n := by omega
  obtain ⟨B, HB⟩ : ∃ B, Hid (fitB s g k n = B) := ⟨_, Lib.hid rfl⟩
  rw [HB.out]
  have HL := Lib.hid (fun W => late_yes s g k W H.out)
  have HE := Lib.hid (fun W => early_yes s g k W H.out)
  have HBB := HB.out
  unfold fitB at HBB
  generalize ap s g k + k + 1 = L at HL HBB
  generalize ap s g k + 1 = E at HE HBB
  clear h HB
  by_cases c1 : L ≤ n / 2
  · have d1 : decide (L ≤ n / 2) = true := decide_eq_true c1
    by_cases c2 : E < n - n / 2
    · rw [decide_eq_true ⟨c1, c2⟩] at HBB
      subst HBB
      go_enter Try.func48, Try.ntmps48
      go_wp2_with (first | (go_at_call 39; refine (right_yes s g k _ H.out).mono ?_; rintro e w1 ⟨rfl, hb1⟩; obtain ⟨hc, hf⟩ := bcell hb1; have hz1 : w.heap.size < w1.heap.size := (by have := hb1.size; simp at this; omega)) | (go_at_call 44; refine (HL.out _).mono ?_; rintro e w2 ⟨rfl, hb2⟩; obtain ⟨hc2, hf2⟩ := bcell hb2) | (go_at_call 43; refine (HE.out _).mono ?_; rintro e w3 ⟨rfl, hb3⟩))
      go_ret
      refine ⟨by first | rfl | (simp; done) | (simp; omega), ?_⟩
      repeat (first | exact Below.refl _ _ | refine Below.setCell ?_ (by first | omega | (simp; done) | (simp; omega) | (have := hb1.size; simp at this ⊢; omega) | (have := hb2.size; simp at this ⊢; omega) | (have := hb3.size; simp at this ⊢; omega) | (have := hb1.size; have := hb2.size; have := hb3.size; simp at *; omega)) _ | refine Below.alloc ?_ (by first | omega | (simp; done) | (simp; omega) | (have := hb1.size; simp at this ⊢; omega) | (have := hb2.size; simp at this ⊢; omega) | (have := hb3.size; simp at this ⊢; omega) | (have := hb1.size; have := hb2.size; have := hb3.size; simp at *; omega)) _ | refine below_drewN' ?_ _ | refine Below.drew ?_ | refine Below.trans ?_ (hb1.mono (by first | omega | (simp; done) | (simp; omega) | (have := hb1.size; simp at this ⊢; omega) | (have := hb2.size; simp at this ⊢; omega) | (have := hb3.size; simp at this ⊢; omega) | (have := hb1.size; have := hb2.size; have := hb3.size; simp at *; omega))) | refine Below.trans ?_ (hb2.mono (by first | omega | (simp; done) | (simp; omega) | (have := hb1.size; simp at this ⊢; omega) | (have := hb2.size; simp at this ⊢; omega) | (have := hb3.size; simp at this ⊢; omega) | (have := hb1.size; have := hb2.size; have := hb3.size; simp at *; omega))) | refine Below.trans ?_ (hb3.mono (by first | omega | (simp; done) | (simp; omega) | (have := hb1.size; simp at this ⊢; omega) | (have := hb2.size; simp at this ⊢; omega) | (have := hb3.size; simp at this ⊢; omega) | (have := hb1.size; have := hb2.size; have := hb3.size; simp at *; omega))))
    · rw [decide_eq_false (fun x => c2 x.2)] at HBB
      subst HBB
      go_enter Try.func48, Try.ntmps48
      go_wp2_with (first | (go_at_call 39; refine (right_yes s g k _ H.out).mono ?_; rintro e w1 ⟨rfl, hb1⟩; obtain ⟨hc, hf⟩ := bcell hb1; have hz1 : w.heap.size < w1.heap.size := (by have := hb1.size; simp at this; omega)) | (go_at_call 44; refine (HL.out _).mono ?_; rintro e w2 ⟨rfl, hb2⟩; obtain ⟨hc2, hf2⟩ := bcell hb2) | (go_at_call 43; refine (HE.out _).mono ?_; rintro e w3 ⟨rfl, hb3⟩))
      go_ret
      refine ⟨by first | rfl | (simp; done) | (simp; omega), ?_⟩
      repeat (first | exact Below.refl _ _ | refine Below.setCell ?_ (by first | omega | (simp; done) | (simp; omega) | (have := hb1.size; simp at this ⊢; omega) | (have := hb2.size; simp at this ⊢; omega) | (have := hb3.size; simp at this ⊢; omega) | (have := hb1.size; have := hb2.size; have := hb3.size; simp at *; omega)) _ | refine Below.alloc ?_ (by first | omega | (simp; done) | (simp; omega) | (have := hb1.size; simp at this ⊢; omega) | (have := hb2.size; simp at this ⊢; omega) | (have := hb3.size; simp at this ⊢; omega) | (have := hb1.size; have := hb2.size; have := hb3.size; simp at *; omega)) _ | refine below_drewN' ?_ _ | refine Below.drew ?_ | refine Below.trans ?_ (hb1.mono (by first | omega | (simp; done) | (simp; omega) | (have := hb1.size; simp at this ⊢; omega) | (have := hb2.size; simp at this ⊢; omega) | (have := hb3.size; simp at this ⊢; omega) | (have := hb1.size; have := hb2.size; have := hb3.size; simp at *; omega))) | refine Below.trans ?_ (hb2.mono (by first | omega | (simp; done) | (simp; omega) | (have := hb1.size; simp at this ⊢; omega) | (have := hb2.size; simp at this ⊢; omega) | (have := hb3.size; simp at this ⊢; omega) | (have := hb1.size; have := hb2.size; have := hb3.size; simp at *; omega))) | refine Below.trans ?_ (hb3.mono (by first | omega | (simp; done) | (simp; omega) | (have := hb1.size; simp at this ⊢; omega) | (have := hb2.size; simp at this ⊢; omega) | (have := hb3.size; simp at this ⊢; omega) | (have := hb1.size; have := hb2.size; have := hb3.size; simp at *; omega))))
  · have d1 : decide (L ≤ n / 2) = false := decide_eq_false c1
    rw [decide_eq_false (fun x => c1 x.1)] at HBB
    subst HBB
    go_enter Try.func48, Try.ntmps48
    go_wp2_with (first | (go_at_call 39; refine (right_yes s g k _ H.out).mono ?_; rintro e w1 ⟨rfl, hb1⟩; obtain ⟨hc, hf⟩ := bcell hb1; have hz1 : w.heap.size < w1.heap.size := (by have := hb1.size; simp at this; omega)) | (go_at_call 44; refine (HL.out _).mono ?_; rintro e w2 ⟨rfl, hb2⟩; obtain ⟨hc2, hf2⟩ := bcell hb2) | (go_at_call 43; refine (HE.out _).mono ?_; rintro e w3 ⟨rfl, hb3⟩))
    go_ret
    refine ⟨by first | rfl | (simp; done) | (simp; omega), ?_⟩
    repeat (first | exact Below.refl _ _ | refine Below.setCell ?_ (by first | omega | (simp; done) | (simp; omega) | (have := hb1.size; simp at this ⊢; omega) | (have := hb2.size; simp at this ⊢; omega) | (have := hb1.size; have := hb2.size; simp at *; omega)) _ | refine Below.alloc ?_ (by first | omega | (simp; done) | (simp; omega) | (have := hb1.size; simp at this ⊢; omega) | (have := hb2.size; simp at this ⊢; omega) | (have := hb1.size; have := hb2.size; simp at *; omega)) _ | refine below_drewN' ?_ _ | refine Below.drew ?_ | refine Below.trans ?_ (hb1.mono (by first | omega | (simp; done) | (simp; omega) | (have := hb1.size; simp at this ⊢; omega) | (have := hb2.size; simp at this ⊢; omega) | (have := hb1.size; have := hb2.size; simp at *; omega))) | refine Below.trans ?_ (hb2.mono (by first | omega | (simp; done) | (simp; omega) | (have := hb1.size; simp at this ⊢; omega) | (have := hb2.size; simp at this ⊢; omega) | (have := hb1.size; have := hb2.size; simp at *; omega))))

/-- The least half that fits. -/
def lst (s g k : Int) : Int := 2 * (ap s g k + k + 1) + if k = 0 then 1 else 0
theorem lst_fits (s g k n : Int) (h : Rt s g k) (hn : lst s g k ≤ n) : fitB s g k n = true := by
  have := h.k0
  unfold lst at hn
  unfold fitB
  apply decide_eq_true
  split at hn <;> omega
theorem lst_not (s g k n : Int) (h : Rt s g k) (hn : n < lst s g k) : fitB s g k n = false := by
  have := h.k0
  unfold lst at hn
  unfold fitB
  apply decide_eq_false
  split at hn <;> omega
theorem lst_bd {s g k : Int} (h : Rt s g k) : 6 ≤ lst s g k ∧ lst s g k ≤ 4400000000 ∧ 2 * (ap s g k + k + 1) ≤ lst s g k ∧ lst s g k ≤ 2 * (ap s g k + k + 1) + 1 := by
  obtain ⟨q0, q1, a0, a1⟩ := ap_bd h
  have := h.k0
  have := h.k1
  unfold lst
  split <;> omega
end Go.Proofs.Ytnbconkefhoblaa.Ly36
