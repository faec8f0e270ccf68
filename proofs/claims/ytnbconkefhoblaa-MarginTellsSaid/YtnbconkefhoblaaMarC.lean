/- The contracts of package margin's Least, Spare, Longest, House, and of the statement's helpers. -/
import Derived.Test.YtnbconkefhoblaaMarB
namespace Go.Proofs.Ytnbconkefhoblaa.Ly36
open Go.ChangeShapes Go.WideShapes Go.ChangeAt Go.RowKit Base
set_option linter.unusedVariables false
set_option linter.unusedSimpArgs false

def LstRel (W : World) (L : Int) (d : Nat) (h : Value) (wr : World) : Prop := ∃ j : Nat, j ≤ d ∧ h = .int .i64 (2 * L + j) ∧ Below W.heap.size W wr
theorem fits_c (s g k n : Int) (u : Bool) (hu : fitB s g k n = u) (w : World) (h : Rt s g k) (n0 : 0 ≤ n) (n1 : n ≤ 5000000000) : Calls Try.prog 48 #[.agg #[.int .i64 s, .int .i64 g, .int .i64 k], .int .i64 n] w fun e w' => e = .returned (.bool u) ∧ Below w.heap.size w w' := by
  subst hu; exact fits_yes s g k n w h n0 n1
set_option maxRecDepth 100000 in
theorem least_yes (s g k : Int) (w : World) (h : Rt s g k) : Calls Try.prog 45 #[.agg #[.int .i64 s, .int .i64 g, .int .i64 k]] w fun e w' => e = .returned (.int .i64 (lst s g k)) ∧ Below w.heap.size w w' := by
  obtain ⟨q0, q1, a0, a1⟩ := ap_bd h
  have k0 := h.k0
  have k1 := h.k1
  have HL := Lib.hid (fun W => late_yes s g k W h)
  have HF := Lib.hid (fun n => lst_fits s g k n h)
  have HN := Lib.hid (fun n => lst_not s g k n h)
  have HFT := Lib.hid (fun n u hu W n0 n1 => fits_c s g k n u hu W h n0 n1)
  obtain ⟨L, HLL⟩ : ∃ L, Hid (ap s g k + k + 1 = L) := ⟨_, Lib.hid rfl⟩
  have hL0 : 2 ≤ L := by have := HLL.out; omega
  have hL1 : L ≤ 2151100000 := by have := HLL.out; omega
  obtain ⟨d, hd, HD⟩ : ∃ d : Nat, d ≤ 1 ∧ Hid (lst s g k = 2 * L + d) := by
    have := HLL.out
    by_cases hk : k = 0
    · exact ⟨1, by omega, show lst s g k = _ by unfold lst; rw [if_pos hk, this]; rfl⟩
    · exact ⟨0, by omega, show lst s g k = _ by unfold lst; rw [if_neg hk, this]; rfl⟩
  rw [HLL.out] at HL
  have H := Lib.hid h
  clear h
  go_enter Try.func45, Try.ntmps45
  go_wp2_with fail
  refine (right_yes s g k _ H.out).mono ?_
  rintro e w1 ⟨rfl, hb1⟩
  obtain ⟨x, rfl⟩ := Kin.ex hb1
  obtain ⟨K0, K1, K2⟩ := Kin.box3 (Below.refl _ (w.alloc (.cells #[.int .i64 s, .int .i64 g, .int .i64 k] 67)))
  go_wp2_with (first | (go_at_call 44; refine (Calls.kin _ (HL.out _)).mono ?_; rintro e w' ⟨rfl, y, rfl⟩))
  go_loopw [3] (fun hh wr => LstRel (w.alloc (.cells #[.int .i64 s, .int .i64 g, .int .i64 k] 67)) L d hh wr) (fun hh _ => (2 * L + 1 - intOf hh).toNat)
  case atStart => exact ⟨0, by omega, by simp, y.below⟩
  case round =>
    obtain ⟨j, hj, rfl, hbel⟩ := hrel
    obtain ⟨z, rfl⟩ := Kin.ex hbel
    rcases Nat.lt_or_eq_of_le hj with hlt | heq
    · have A := Lib.hid (fun W => HFT.out (2 * L + j) false (HN.out _ (by have := HD.out; omega)) W (by omega) (by omega))
      go_wp2_with (first | (go_at_call 48; refine (Calls.kin _ (A.out _)).mono ?_; rintro e w' ⟨rfl, y, rfl⟩))
      go_roundw
      case rel => exact ⟨j + 1, by omega, by simp; omega, y.below⟩
      case measure => simp [intOf]; omega
    · subst heq
      have A := Lib.hid (fun W => HFT.out (2 * L + j) true (HF.out _ (by have := HD.out; omega)) W (by omega) (by omega))
      go_wp2_with (first | (go_at_call 48; refine (Calls.kin _ (A.out _)).mono ?_; rintro e w' ⟨rfl, y, rfl⟩))
      go_ret
      exact ⟨by rw [HD.out]; rfl, y.end1⟩

theorem spare_yes (s g k n : Int) (w : World) (h : Rt s g k) (n0 : 1 ≤ n) (n1 : n ≤ 1073741824) : Calls Try.prog 46 #[.agg #[.int .i64 s, .int .i64 g, .int .i64 k], .int .i64 n] w fun e w' => e = .returned (.int .i64 (n - lst s g k)) ∧ Below w.heap.size w w' := by
  obtain ⟨b0, b1, _, _⟩ := lst_bd h
  go_enter Try.func46, Try.ntmps46
  go_wp2_with fail
  refine (right_yes s g k _ h).mono ?_
  rintro e w1 ⟨rfl, hb1⟩
  obtain ⟨x, rfl⟩ := Kin.ex hb1
  obtain ⟨K0, K1, K2⟩ := Kin.box3 (Below.refl _ (w.alloc (.cells #[.int .i64 s, .int .i64 g, .int .i64 k] 67)))
  go_wp2_with (first | (go_at_call 45; refine (Calls.kin _ (least_yes s g k _ h)).mono ?_; rintro e w' ⟨rfl, y, rfl⟩))
  go_ret
  exact ⟨rfl, y.end1⟩
theorem spare_zero (s g k n : Int) (w : World) (h : Rt s g k) (n0 : n < 1) : Calls Try.prog 46 #[.agg #[.int .i64 s, .int .i64 g, .int .i64 k], .int .i64 n] w fun e w' => e = .returned (.int .i64 0) ∧ Below w.heap.size w w' := by
  go_enter Try.func46, Try.ntmps46
  go_wp2_with fail
  refine (right_yes s g k _ h).mono ?_
  rintro e w1 ⟨rfl, hb1⟩
  go_wp2
  go_ret
  exact ⟨rfl, ((Below.refl _ _).alloc (Nat.le_refl _) _).trans (hb1.mono (by simp))⟩

/-- Does a half fit with a span? -/
def Ft (g k n s : Int) : Prop := 1 ≤ s ∧ fitB s g k n = true
def LngRel (W : World) (g k n : Int) (lo hi : Value) (wr : World) : Prop := ∃ a b : Int, 0 ≤ a ∧ a ≤ b ∧ b ≤ 1073741824 ∧ lo = .int .i64 a ∧ hi = .int .i64 b ∧ (0 < a → Ft g k n a) ∧ (b < 1073741824 → ¬ Ft g k n (b + 1)) ∧ Below W.heap.size W wr
/-- The greatest span with which a half fits. -/
def Lng (g k n r : Int) : Prop := 0 ≤ r ∧ r ≤ 1073741824 ∧ (0 < r → Ft g k n r) ∧ (r < 1073741824 → ¬ Ft g k n (r + 1))
set_option maxHeartbeats 1000000 in
theorem longest_yes (s g k n : Int) (w : World) (h : Rt s g k) (n0 : 0 ≤ n) (n1 : n ≤ 5000000000) : Calls Try.prog 47 #[.agg #[.int .i64 s, .int .i64 g, .int .i64 k], .int .i64 n] w fun e w' => ∃ r, e = .returned (.int .i64 r) ∧ Hid (Lng g k n r) ∧ Below w.heap.size w w' := by
  have HR : Hid (∀ x, 1 ≤ x → x ≤ 1073741824 → Rt x g k) := Lib.hid (fun x x0 x1 => ⟨x0, x1, h.g0, h.g1, h.k0, h.k1⟩)
  have H := Lib.hid h
  clear h
  go_enter Try.func47, Try.ntmps47
  go_wp2_with fail
  refine (right_yes s g k _ H.out).mono ?_
  rintro e w1 ⟨rfl, hb1⟩
  obtain ⟨x, rfl⟩ := Kin.ex hb1
  obtain ⟨K0, K1, K2⟩ := Kin.box3 (Below.refl _ (w.alloc (.cells #[.int .i64 s, .int .i64 g, .int .i64 k] 67)))
  go_wp2_with fail
  go_loopw [5, 6] (fun lo hi wr => LngRel (w.alloc (.cells #[.int .i64 s, .int .i64 g, .int .i64 k] 67)) g k n lo hi wr) (fun lo hi _ => (intOf hi - intOf lo).toNat)
  case atStart => exact ⟨0, 1073741824, by omega, by omega, by omega, rfl, rfl, fun h => by omega, fun h => by omega, x.below⟩
  case round =>
    obtain ⟨a, b, a0, a1, b1, rfl, rfl, hlo, hhi, hbel⟩ := hrel
    obtain ⟨z, rfl⟩ := Kin.ex hbel
    have HLO := Lib.hid hlo
    have HHI := Lib.hid hhi
    clear hlo hhi
    by_cases hlt : a < b
    · have m0 : a < (a + b + 1) / 2 := by omega
      have m1 : (a + b + 1) / 2 ≤ b := by omega
      obtain ⟨u, HU⟩ : ∃ u, Hid (fitB ((a + b + 1) / 2) g k n = u) := ⟨_, Lib.hid rfl⟩
      have A := Lib.hid (fun W => fits_c ((a + b + 1) / 2) g k n u HU.out W (HR.out _ (by omega) (by omega)) n0 n1)
      cases u
      · go_wp2_with (first | (go_at_call 48; refine (Calls.kin _ (A.out _)).mono ?_; rintro e w' ⟨rfl, y, rfl⟩))
        go_roundw
        case rel => exact ⟨a, (a + b + 1) / 2 - 1, by omega, by omega, by omega, rfl, rfl, HLO.out, (fun _ => by rw [Int.sub_add_cancel]; intro hf; have := hf.2; rw [HU.out] at this; cases this), y.below⟩
        case measure => simp [intOf]; omega
      · go_wp2_with (first | (go_at_call 48; refine (Calls.kin _ (A.out _)).mono ?_; rintro e w' ⟨rfl, y, rfl⟩))
        go_roundw
        case rel => exact ⟨(a + b + 1) / 2, b, by omega, by omega, by omega, rfl, rfl, fun _ => ⟨by omega, HU.out⟩, HHI.out, y.below⟩
        case measure => simp [intOf]; omega
    · go_wp2
      go_ret
      exact ⟨a, rfl, Lib.hid ⟨by omega, by omega, HLO.out, fun h1 => by have := HHI.out; rw [show a = b by omega]; exact this (by omega)⟩, z.end1⟩
end Go.Proofs.Ytnbconkefhoblaa.Ly36
