/- The contracts of package plan's Pulse and Begin, and of the document's Pulse. -/
import Derived.Test.YtkankdecbefenaaDoorPlnC
namespace Go.Proofs.YtkankdecbefenaaDoor.Ly7
open Go.ChangeShapes Go.WideShapes Go.ChangeAt Go.RowKit Base
set_option linter.unusedVariables false
set_option linter.unusedSimpArgs false

theorem ret_two {k : IntKind} {a b c d : Int} (h : a = c) (h' : b = d) : Ending.returned (Value.tuple #[.int k a, .int k b]) = Ending.returned (Value.tuple #[.int k c, .int k d]) := by rw [h, h']
/-- Where a slot's pulse lies. -/
def Pls (k l a b : Int) : Prop := (k = 3 ∧ a = 60 ∧ b = l - 60) ∨ (k = 2 ∧ a = 40 ∧ b = 80) ∨ (k = 4 ∧ a = 40 ∧ b = 80) ∨ (k = 0 ∧ a = l - 80 ∧ b = l - 40) ∨ (((k == 3) = false ∧ (k == 2) = false ∧ (k == 4) = false ∧ (k == 0) = false) ∧ a = 0 ∧ b = 0)
theorem pls_ex (k l : Int) : ∃ a b, Pls k l a b := by
  by_cases h3 : k = 3
  · exact ⟨_, _, .inl ⟨h3, rfl, rfl⟩⟩
  by_cases h2 : k = 2
  · exact ⟨_, _, .inr (.inl ⟨h2, rfl, rfl⟩)⟩
  by_cases h4 : k = 4
  · exact ⟨_, _, .inr (.inr (.inl ⟨h4, rfl, rfl⟩))⟩
  by_cases h0 : k = 0
  · exact ⟨_, _, .inr (.inr (.inr (.inl ⟨h0, rfl, rfl⟩)))⟩
  exact ⟨0, 0, .inr (.inr (.inr (.inr ⟨⟨by simpa using h3, by simpa using h2, by simpa using h4, by simpa using h0⟩, rfl, rfl⟩)))⟩
set_option maxHeartbeats 1000000 in
theorem pulse_any (k s l wo ad mn cn a b : Int) (tk : Bool) (w : World) (l0 : 0 ≤ l) (l1 : l ≤ 1048575) (h : Pls k l a b) :
    Calls Tryd.prog 39 #[.agg #[.int .i64 k, .int .i64 s, .int .i64 l, .int .i64 wo, .int .i64 ad, .int .i64 mn, .int .i64 cn, .bool tk]] w fun e w' => e = .returned (.tuple #[.int .i64 a, .int .i64 b]) ∧ Below w.heap.size w w' := by
  rcases h with ⟨rfl, rfl, rfl⟩ | ⟨rfl, rfl, rfl⟩ | ⟨rfl, rfl, rfl⟩ | ⟨rfl, rfl, rfl⟩ | ⟨⟨h3, h2, h4, h0⟩, rfl, rfl⟩
  all_goals
    go_enter Tryd.func39, Tryd.ntmps39
    go_wp2
    all_goals
      go_ret2
      refine ⟨by first | rfl | exact ret_two (by omega) (by omega), ?_⟩
      exact (Below.refl _ _).alloc (Nat.le_refl _) _
end Go.Proofs.YtkankdecbefenaaDoor.Ly7
