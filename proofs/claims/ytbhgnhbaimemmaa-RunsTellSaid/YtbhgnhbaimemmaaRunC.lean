/- Layer 6's closed example. -/
import Derived.Test.YtbhgnhbaimemmaaRunB
namespace Go.Proofs.Ytbhgnhbaimemmaa.Ly6
open Go.ChangeShapes Go.WideShapes Go.ChangeAt Go.RowKit Base Ly3
set_option linter.unusedVariables false
set_option linter.unusedSimpArgs false

theorem see_lit (g : Nat) (a b c d run was since : Int) (l : Nat) (a' b' c' d' t s : Int) (hv : (nx l 0 a = a' ∧ nx l 1 b = b' ∧ nx l 2 c = c' ∧ nx l 3 d = d' ∧ t3 a' b' c' d' = t ∧ max since t = s) ∧ (0 ≤ a ∧ a ≤ 9) ∧ (0 ≤ b ∧ b ≤ 9) ∧ (0 ≤ c ∧ c ≤ 9) ∧ (0 ≤ d ∧ d ≤ 9) ∧ l < 256) (w : World) (h : Rn w g true a b c d run was since) :
    Calls Try.prog 37 #[.pointer (some ⟨g, 0, none⟩), .int .u8 l] w fun e w' => e = .returned (.tuple #[]) ∧ Hid (Rn w' g true a' b' c' d' t run s) ∧ Hid (Wrote g w w') := by
  obtain ⟨⟨h1, h2, h3, h4, h5, h6⟩, ⟨a0, a1⟩, ⟨b0, b1⟩, ⟨c0, c1⟩, ⟨d0, d1⟩, hl⟩ := hv
  exact see_raw g a b c d run was since l w h hl a0 (by omega) b0 (by omega) c0 (by omega) d0 (by omega) _ _ _ _ _ _ h1 h2 h3 h4 h5 h6

set_option maxRecDepth 100000 in
set_option maxHeartbeats 1000000 in
theorem one_any (w : World) : Calls Try.prog 45 #[] w fun e w' => e = .returned (.bool true) ∧ Below w.heap.size w w' := by
  go_enter Try.func45, Try.ntmps45
  go_wp2_with fail
  refine (new_any w).mono ?_
  rintro e w1 ⟨rfl, h1, hb1⟩
  have H1 := Lib.hid h1
  clear h1
  go_wp2_with fail
  refine wp_loop_rounds 4 ?_
  rw [rounds_succ]
  go_wp2_with (go_at_call 37; refine (see_lit _ 0 0 0 0 0 0 0 7 1 1 1 0 1 1 (by decide) _ H1.out).mono ?_; rintro e w2 ⟨rfl, H2, hb2⟩)
  rw [rounds_succ]
  go_wp2_with (go_at_call 37; refine (see_lit _ 1 1 1 0 1 0 1 7 2 2 2 0 2 2 (by decide) _ H2.out).mono ?_; rintro e w3 ⟨rfl, H3, hb3⟩)
  rw [rounds_succ]
  go_wp2_with (go_at_call 37; refine (see_lit _ 2 2 2 0 2 1 2 7 3 3 3 0 3 3 (by decide) _ H3.out).mono ?_; rintro e w4 ⟨rfl, H4, hb4⟩)
  rw [rounds_succ]
  go_wp2_with fail
  refine (run_any _ _ _ _ _ _ _ _ _ _ H4.out).mono ?_
  rintro e w' ⟨rfl, rfl⟩
  go_wp2_with fail
  refine (see_lit _ 3 3 3 0 3 2 3 15 4 4 4 1 4 4 (by decide) _ H4.out).mono ?_
  rintro e w5 ⟨rfl, H5, hb5⟩
  go_wp2_with fail
  refine (run_any _ _ _ _ _ _ _ _ _ _ H5.out).mono ?_
  rintro e w' ⟨rfl, rfl⟩
  go_wp2_with fail
  refine (see_lit _ 4 4 4 1 4 3 4 3 5 5 0 0 0 4 (by decide) _ H5.out).mono ?_
  rintro e w6 ⟨rfl, H6, hb6⟩
  go_wp2_with fail
  refine (run_any _ _ _ _ _ _ _ _ _ _ H6.out).mono ?_
  rintro e w' ⟨rfl, rfl⟩
  go_wp2_with fail
  refine (fell_any _ _ _ _ _ _ _ _ _ _ H6.out).mono ?_
  rintro e w' ⟨rfl, rfl⟩
  go_wp2_with fail
  refine (since_any _ _ _ _ _ _ _ _ _ _ H6.out).mono ?_
  rintro e w7 ⟨rfl, h7, hb7⟩
  have H7 := Lib.hid h7
  clear h7
  go_wp2_with fail
  refine (since_any _ _ _ _ _ _ _ _ _ _ H7.out).mono ?_
  rintro e w8 ⟨rfl, h8, hb8⟩
  go_wp2
  go_ret
  exact ⟨rfl, hb1.trans ((((((((hb2.out).trans hb3.out).trans hb4.out).trans hb5.out).trans hb6.out).trans hb7).trans hb8).below (Nat.le_refl _) hb1.size)⟩

theorem rose_c (g : Nat) (m : Bool) (a b c d run was since : Int) (r : Bool) (hr : Hid (roseB run was = r)) (w : World) (h : Rn w g m a b c d run was since) :
    Calls Try.prog 40 #[.pointer (some ⟨g, 0, none⟩)] w fun e w' => e = .returned (.bool r) ∧ Below w.heap.size w w' := by
  have := rose_any g m a b c d run was since w h
  rwa [hr.out] at this
theorem fell_c (g : Nat) (m : Bool) (a b c d run was since : Int) (f : Int) (hf : Hid ((if 0 < run then 0 else was) = f)) (w : World) (h : Rn w g m a b c d run was since) :
    Calls Try.prog 41 #[.pointer (some ⟨g, 0, none⟩)] w fun e w' => e = .returned (.int .i64 f) ∧ w = w' := by
  have := fell_any g m a b c d run was since w h
  rwa [hf.out] at this
/-- A tick with all lines low. -/
theorem see_low (k g : Nat) (a b c d run was since : Int) (w : World) (hbd : Bd k a b c d run since) (hk : k ≤ 1000000) (h : Rn w g true a b c d run was since) :
    Calls Try.prog 37 #[.pointer (some ⟨g, 0, none⟩), .int .u8 0] w fun e w' => e = .returned (.tuple #[]) ∧ Hid (Rn w' g true 0 0 0 0 0 run since) ∧ Hid (Wrote g w w') := by
  obtain ⟨⟨a0, a1⟩, ⟨b0, b1⟩, ⟨c0, c1⟩, ⟨d0, d1⟩, ⟨r0, r1⟩, s0, s1⟩ := hbd
  have z : ∀ k x, k < 4 → nx 0 k x = 0 := fun k x hk => by
    have : hb 0 k = false := by simp [hb]
    simp [nx, this]
  exact see_raw g a b c d run was since 0 w h (by decide) a0 (by omega) b0 (by omega) c0 (by omega) d0 (by omega) 0 0 0 0 0 since (z 0 a (by decide)) (z 1 b (by decide)) (z 2 c (by decide)) (z 3 d (by decide)) (show t3 0 0 0 0 = 0 by decide) (show max since 0 = since by omega)
theorem nats_of (l : List Int) (hbd : ∀ x ∈ l, 0 ≤ x ∧ x ≤ 255) : ∃ xs : List Nat, l.map (Value.int .u8) = xs.map (fun (x : Nat) => Value.int .u8 x) ∧ ∀ x ∈ xs, x < 256 := by
  refine ⟨l.map Int.toNat, ?_, ?_⟩
  · rw [List.map_map]
    apply List.map_congr_left
    intro x hx
    have := hbd x hx
    simp only [Function.comp]
    rw [Int.toNat_of_nonneg this.1]
  · intro x hx
    obtain ⟨z, hz, rfl⟩ := List.mem_map.1 hx
    have := hbd z hz
    omega
end Go.Proofs.Ytbhgnhbaimemmaa.Ly6
