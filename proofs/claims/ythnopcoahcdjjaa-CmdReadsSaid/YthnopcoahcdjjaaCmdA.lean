/- The contracts of package cmd's is, Right, numbers, with; no condition. -/
import Derived.Test.YthnopcoahcdjjaaObj
import Derived.Test.YthnopcoahcdjjaaSh
import Derived.Test.YthnopcoahcdjjaaBox
import Derived.StillTailTactics
import Derived.Deep.RegionHeld3
import Derived.Deep.CutRange
import Derived.Deep.RegionWith
import Derived.Outline
namespace Go.Proofs.Ythnopcoahcdjjaa.Ly9
open Go.ChangeShapes Go.WideShapes Go.ChangeAt Go.RowKit Base
set_option linter.unusedVariables false
set_option linter.unusedSimpArgs false

theorem is_yes (o : Int) (w : World) (h0 : 0 ≤ o) (h1 : o ≤ 8) : Calls Try.prog 48 #[.int .i64 o] w fun e w' => e = .returned (.bool true) ∧ w = w' := by
  go_enter Try.func48, Try.ntmps48
  go_wp2
  go_ret
  exact ⟨by first | rfl | (simp; done) | (simp; omega), rfl⟩
theorem is_no (o : Int) (w : World) (h : o < 0 ∨ 8 < o) : Calls Try.prog 48 #[.int .i64 o] w fun e w' => e = .returned (.bool false) ∧ w = w' := by
  rcases (show o < 0 ∨ (0 ≤ o ∧ 8 < o) by omega) with g | ⟨g, g1⟩
  all_goals
    clear h
    go_enter Try.func48, Try.ntmps48
    go_wp2
    go_ret
    exact ⟨by first | rfl | (simp; done) | (simp; omega), rfl⟩
theorem within_yes (n a b : Int) (w : World) (h0 : a ≤ n) (h1 : n ≤ b) : Calls Try.prog 47 #[.int .i64 n, .int .i64 a, .int .i64 b] w fun e w' => e = .returned (.bool true) ∧ w = w' := by
  go_enter Try.func47, Try.ntmps47
  go_wp2
  go_ret
  exact ⟨by first | rfl | (simp; done) | (simp; omega), rfl⟩
theorem within_no (n a b : Int) (w : World) (h : n < a ∨ b < n) : Calls Try.prog 47 #[.int .i64 n, .int .i64 a, .int .i64 b] w fun e w' => e = .returned (.bool false) ∧ w = w' := by
  rcases (show n < a ∨ (a ≤ n ∧ b < n) by omega) with g | ⟨g, g1⟩
  all_goals
    clear h
    go_enter Try.func47, Try.ntmps47
    go_wp2
    go_ret
    exact ⟨by first | rfl | (simp; done) | (simp; omega), rfl⟩

abbrev TC : TypeId := 23
abbrev cv (o a s c m b t : Int) : Value := .agg #[.int .i64 o, .int .i64 a, .int .i64 s, .int .i64 c, .int .i64 m, .int .i64 b, .int .i64 t]
/-- A command that may be. -/
def RP (o a s c m b t : Int) : Prop :=
  (o = 1 ∧ 1 ≤ s ∧ s ≤ 8 ∧ 0 ≤ a ∧ a ≤ 64 - s ∧ 1 ≤ m ∧ m ≤ 4 ∧ 0 ≤ c ∧ c ≤ m - 1) ∨ (o = 2 ∧ 1 ≤ s ∧ s ≤ 8 ∧ 0 ≤ a ∧ a ≤ 64 - s ∧ 1 ≤ m ∧ m ≤ 4) ∨ (o = 3 ∧ 1 ≤ s ∧ s ≤ 8 ∧ 1 ≤ m ∧ m ≤ 4) ∨ (o = 4 ∧ 1 ≤ b ∧ b ≤ 100) ∨
    (o = 6 ∧ 0 ≤ t ∧ t ≤ 1023) ∨ (o = 8 ∧ 0 ≤ t ∧ t ≤ 1023) ∨ o = 0 ∨ o = 5 ∨ o = 7
instance (o a s c m b t : Int) : Decidable (RP o a s c m b t) := by unfold RP; infer_instance

def wB (n a b : Int) : Bool := decide (a ≤ n) && decide (n ≤ b)
theorem within_any (n a b : Int) (w : World) : Calls Try.prog 47 #[.int .i64 n, .int .i64 a, .int .i64 b] w fun e w' => e = .returned (.bool (wB n a b)) ∧ w = w' := by
  unfold wB
  by_cases h0 : a ≤ n
  · by_cases h1 : n ≤ b
    · rw [decide_eq_true h0, decide_eq_true h1]; exact within_yes n a b w h0 h1
    · rw [decide_eq_true h0, decide_eq_false h1]; exact within_no n a b w (by omega)
  · rw [decide_eq_false h0]; exact within_no n a b w (by omega)

set_option maxHeartbeats 16000000 in
theorem right_yes (o a s c m b t : Int) (w : World) (hy : RP o a s c m b t) (bs : -9223372036854775808 ≤ s ∧ s ≤ 9223372036854775807) :
    Calls Try.prog 18 #[cv o a s c m b t] w fun e w' => e = .returned (.bool true) ∧ Below w.heap.size w w' := by
  obtain ⟨bs0, bs1⟩ := bs
  have hb : Below w.heap.size w (w.alloc (.cells #[.int .i64 o, .int .i64 a, .int .i64 s, .int .i64 c, .int .i64 m, .int .i64 b, .int .i64 t] TC)) := (Below.refl _ _).alloc (Nat.le_refl _) _
  have HB := Lib.hid hb
  clear hb
  have hs : (1 ≤ s ∧ s ≤ 8) ∨ (s < 1) ∨ (8 < s) := by omega
  rcases hy with ⟨rfl, h1, h2, h3, h4, h5, h6, h7, h8⟩ | ⟨rfl, h1, h2, h3, h4, h5, h6⟩ | ⟨rfl, h1, h2, h3, h4⟩ | ⟨rfl, h1, h2⟩ | ⟨rfl, h1, h2⟩ | ⟨rfl, h1, h2⟩ | rfl | rfl | rfl
  all_goals
    rcases hs with ⟨s0, s1⟩ | s0 | s0
    all_goals
      first
        | (exfalso; omega)
        | (as_aux_lemma =>
            go_enter Try.func18, Try.ntmps18
            go_wp2_with (first
              | (go_at_call 47; refine (within_yes _ _ _ _ (by omega) (by omega)).mono ?_; rintro e w' ⟨rfl, rfl⟩)
              | (go_at_call 47; refine (within_no _ _ _ _ (by omega)).mono ?_; rintro e w' ⟨rfl, rfl⟩)
              | (go_at_call 47; refine (within_any _ _ _ _).mono ?_; rintro e w' ⟨rfl, rfl⟩)
              | (go_at_call 48; refine (is_yes _ _ (by omega) (by omega)).mono ?_; rintro e w' ⟨rfl, rfl⟩))
            go_ret
            exact ⟨rfl, HB.out⟩)
end Go.Proofs.Ythnopcoahcdjjaa.Ly9
