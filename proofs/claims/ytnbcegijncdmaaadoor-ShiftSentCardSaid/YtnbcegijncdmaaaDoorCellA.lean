/- The contracts of package cell's small functions, and of the document's own answers for them: what each returns, for every input. -/
import Derived.Test.YtnbcegijncdmaaaDoorRows
import Derived.WalkKit
import Derived.ProofKit
import Derived.OpenShut
import Derived.ShutString
import Derived.ChangeOld
import Derived.Below
import Derived.WalkLawsBesides
import Derived.WalkSpells
namespace Go.Proofs.YtnbcegijncdmaaaDoor.Ly1
open Go.ChangeShapes Go.WideShapes Go.ChangeAt Go.RowKit
set_option linter.unusedVariables false
set_option linter.unusedSimpArgs false

def lvl (b : Bool) (a : Int) : Bool := if a < 0 ∨ 20 ≤ a then false else decide (a < 10) == b
theorem lvl_out {b : Bool} {a : Int} (h : a < 0 ∨ 20 ≤ a) : lvl b a = false := by simp only [lvl, if_pos h]
theorem lvl_lo {b : Bool} {a : Int} (h : 0 ≤ a) (g : a < 10) : lvl b a = b := by
  unfold lvl; rw [if_neg (by omega), decide_eq_true g]; cases b <;> rfl
theorem lvl_hi {b : Bool} {a : Int} (h : 10 ≤ a) (g : a < 20) : lvl b a = !b := by
  unfold lvl; rw [if_neg (by omega), decide_eq_false (by omega)]; cases b <;> rfl

theorem level_any (b : Bool) (a : Int) (w : World) :
    Calls Tryd.prog 64 #[.bool b, .int .i64 a] w fun e w' => e = .returned (.bool (lvl b a)) ∧ w = w' := by
  by_cases h0 : a < 0
  · rw [lvl_out (.inl h0)]
    go_enter Tryd.func64, Tryd.ntmps64
    go_wp2
    go_ret
    exact ⟨rfl, rfl⟩
  · by_cases h1 : 20 ≤ a
    · rw [lvl_out (.inr h1)]
      go_enter Tryd.func64, Tryd.ntmps64
      go_wp2
      go_ret
      exact ⟨rfl, rfl⟩
    · by_cases h2 : a < 10
      · rw [lvl_lo (by omega) h2]
        cases b
        all_goals
          go_enter Tryd.func64, Tryd.ntmps64
          go_wp2
          go_ret
          exact ⟨rfl, rfl⟩
      · rw [lvl_hi (by omega) (by omega)]
        cases b
        all_goals
          go_enter Tryd.func64, Tryd.ntmps64
          go_wp2
          go_ret
          exact ⟨rfl, rfl⟩

theorem rlevel_any (b : Bool) (a : Int) (w : World) :
    Calls Tryd.prog 46 #[.bool b, .int .i64 a] w fun e w' => e = .returned (.bool (lvl b a)) ∧ w = w' := by
  by_cases h0 : a < 0
  · rw [lvl_out (.inl h0)]
    go_enter Tryd.func46, Tryd.ntmps46
    go_wp2
    go_ret
    exact ⟨rfl, rfl⟩
  · by_cases h1 : 20 ≤ a
    · rw [lvl_out (.inr h1)]
      go_enter Tryd.func46, Tryd.ntmps46
      go_wp2
      go_ret
      exact ⟨rfl, rfl⟩
    · by_cases h2 : a < 10
      · rw [lvl_lo (by omega) h2]
        cases b
        all_goals
          go_enter Tryd.func46, Tryd.ntmps46
          go_wp2
          go_ret
          exact ⟨rfl, rfl⟩
      · rw [lvl_hi (by omega) (by omega)]
        cases b
        all_goals
          go_enter Tryd.func46, Tryd.ntmps46
          go_wp2
          go_ret
          exact ⟨rfl, rfl⟩

def lok (n : Int) (s : Bool) : Int := if n < 0 ∨ 1099511627776 < n then -1 else 20 * n + 5 + (if s then 10 else 0)
theorem lok_out {n : Int} {s : Bool} (h : n < 0 ∨ 1099511627776 < n) : lok n s = -1 := by simp only [lok, if_pos h]
theorem lok_f {n : Int} (h : 0 ≤ n) (g : n ≤ 1099511627776) : lok n false = 20 * n + 5 := by
  unfold lok; rw [if_neg (by omega)]; simp
theorem lok_t {n : Int} (h : 0 ≤ n) (g : n ≤ 1099511627776) : lok n true = 20 * n + 15 := by
  unfold lok; rw [if_neg (by omega)]; simp; omega
theorem ret_int {k : IntKind} {a b : Int} (h : a = b) : Ending.returned (.int k a) = .returned (.int k b) := by rw [h]

theorem look_any (n : Int) (s : Bool) (w : World) :
    Calls Tryd.prog 71 #[.int .i64 n, .bool s] w fun e w' => e = .returned (.int .i64 (lok n s)) ∧ w = w' := by
  by_cases h0 : n < 0
  · rw [lok_out (.inl h0)]
    go_enter Tryd.func71, Tryd.ntmps71
    go_wp2
    go_ret
    exact ⟨rfl, rfl⟩
  · by_cases h1 : 1099511627776 < n
    · rw [lok_out (.inr h1)]
      go_enter Tryd.func71, Tryd.ntmps71
      go_wp2
      go_ret
      exact ⟨rfl, rfl⟩
    · cases s
      · rw [lok_f (by omega) (by omega)]
        go_enter Tryd.func71, Tryd.ntmps71
        go_wp2
        go_ret
        exact ⟨ret_int (by omega), rfl⟩
      · rw [lok_t (by omega) (by omega)]
        go_enter Tryd.func71, Tryd.ntmps71
        go_wp2
        go_ret
        exact ⟨ret_int (by omega), rfl⟩


theorem of_any (a b : Bool) (w : World) :
    Calls Tryd.prog 76 #[.bool a, .bool b] w fun e w' => e = .returned (.tuple #[.bool (a && !b), .bool (a != b)]) ∧ w = w' := by
  cases a <;> cases b
  all_goals
    go_enter Tryd.func76, Tryd.ntmps76
    go_wp2
    go_ret2
    exact ⟨rfl, rfl⟩

theorem cell_neg (a : Int) (w : World) (h : a < 0) :
    Calls Tryd.prog 68 #[.int .i64 a] w fun e w' => e = .returned (.tuple #[.int .i64 (-1), .int .i64 0]) ∧ w = w' := by
  go_enter Tryd.func68, Tryd.ntmps68
  go_wp2
  go_ret2
  exact ⟨rfl, rfl⟩

theorem cell_pos (a : Int) (w : World) (h : 0 ≤ a) (g : a ≤ 9223372036854775807) :
    Calls Tryd.prog 68 #[.int .i64 a] w fun e w' => e = .returned (.tuple #[.int .i64 (a / 20), .int .i64 (a % 20)]) ∧ w = w' := by
  go_enter Tryd.func68, Tryd.ntmps68
  go_wp2
  go_ret2
  exact ⟨rfl, rfl⟩
end Go.Proofs.YtnbcegijncdmaaaDoor.Ly1
