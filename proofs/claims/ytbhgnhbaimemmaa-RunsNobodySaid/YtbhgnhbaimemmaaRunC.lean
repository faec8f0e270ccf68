/- Layer 6's closed example. -/
import Derived.Test.YtbhgnhbaimemmaaRunB
namespace Go.Proofs.Ytbhgnhbaimemmaa.Ly6
open Go.ChangeShapes Go.WideShapes Go.ChangeAt Go.RowKit Base Ly3
set_option linter.unusedVariables false
set_option linter.unusedSimpArgs false

theorem see_lit (g : Nat) (a b c d run was since : Int) (l : Nat) (a' b' c' d' t s : Int) (hv : (nx l 0 a = a' ∧ nx l 1 b = b' ∧ nx l 2 c = c' ∧ nx l 3 d = d' ∧ t3 a' b' c' d' = t ∧ max since t = s) ∧ (0 ≤ a ∧ a ≤ 9) ∧ (0 ≤ b ∧ b ≤ 9) ∧ (0 ≤ c ∧ c ≤ 9) ∧ (0 ≤ d ∧ d ≤ 9) ∧ l < 256) (w : World) (h : Rn w g true a b c d run was since) :
    Calls Try.prog 37 #[.pointer (some ⟨g, 0, none⟩), .int .u8 l] w fun e w' => e = .returned (.tuple #[]) ∧ Hid (Rn w' g true a' b' c' d' t run s) ∧ Hid (Wrote g w w') := by
  obtain ⟨⟨h1, h2, h3, h4, h5, h6⟩, ⟨a0, a1⟩, ⟨b0, b1⟩, ⟨c0, c1⟩, ⟨d0, d1⟩, hl⟩ := hv
  exact see_raw g a b c d run was since l w h hl a0 (by omega) b0 (by omega) c0 (by omega) d0 (by omega) _ _ _ _ _ _ h1 h2 h3 h4 h5 h6

set_option maxRecDepth 100000 in
set_option maxHeartbeats 1000000 in
theorem one_any (w : World) : Calls Try.prog 45 #[] w fun e w' => e = .returned (.bool true) ∧ Below w.heap.size w w' := by
  go_enter Try.func45, Try.ntmps45
  go_wp2_with fail
  refine (new_any w).mono ?_
  rintro e w1 ⟨rfl, h1, hb1⟩
  have H1 := Lib.hid h1
  clear h1
  go_wp2_with fail
  refine wp_loop_rounds 4 ?_
  rw [rounds_succ]
  go_wp2_with (go_at_call 37; refine (see_lit _ 0 0 0 0 0 0 0 7 1 1 1 0 1 1 (by decide) _ H1.out).mono ?_; rintro e w2 ⟨rfl, H2, hb2⟩)
  rw [rounds_succ]
  go_wp2_with (go_at_call 37; refine (see_lit _ 1 1 1 0 1 0 1 7 2 2 2 0 2 2 (by decide) _ H2.out).mono ?_; rintro e w3 ⟨rfl, H3, hb3⟩)
  rw [rounds_succ]
  go_wp2_with (go_at_call 37; refine (see_lit _ 2 2 2 0 2 1 2 7 3 3 3 0 3 3 (by decide) _ H3.out).mono ?_; rintro e w4 ⟨rfl, H4, hb4⟩)
  rw [rounds_succ]
  go_wp2_with fail
  refine (run_any _ _ _ _ _ _ _ _ _ _ H4.out).mono ?_
  rintro e w' ⟨rfl, rfl⟩
  go_wp2_with fail
  refine (see_lit _ 3 3 3 0 3 2 3 15 4 4 4 1 4 4 (by decide) _ H4.out).mono ?_
  rintro e w5 ⟨rfl, H5, hb5⟩
  go_wp2_with fail
  refine (run_any _ _ _ _ _ _ _ _ _ _ H5.out).mono ?_
  rintro e w' ⟨rfl, rfl⟩
  go_wp2_with fail
  refine (see_lit _ 4 4 4 1 4 3 4 3 5 5 0 0 0 4 (by decide) _ H5.out).mono ?_
  rintro e w6 ⟨rfl, H6, hb6⟩
  go_wp2_with fail
  refine (run_any _ _ _ _ _ _ _ _ _ _ H6.out).mono ?_
  rintro e w' ⟨rfl, rfl⟩
  go_wp2_with fail
  refine (fell_any _ _ _ _ _ _ _ _ _ _ H6.out).mono ?_
  rintro e w' ⟨rfl, rfl⟩
  go_wp2_with fail
  refine (since_any _ _ _ _ _ _ _ _ _ _ H6.out).mono ?_
  rintro e w7 ⟨rfl, h7, hb7⟩
  have H7 := Lib.hid h7
  clear h7
  go_wp2_with fail
  refine (since_any _ _ _ _ _ _ _ _ _ _ H7.out).mono ?_
  rintro e w8 ⟨rfl, h8, hb8⟩
  go_wp2
  go_ret
  exact ⟨rfl, hb1.trans ((((((((hb2.out).trans hb3.out).trans hb4.out).trans hb5.out).trans hb6.out).trans hb7).trans hb8).below (Nat.le_refl _) hb1.size)⟩
end Go.Proofs.Ytbhgnhbaimemmaa.Ly6
