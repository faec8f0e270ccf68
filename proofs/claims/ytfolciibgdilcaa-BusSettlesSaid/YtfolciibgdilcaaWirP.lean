/- The contracts of package wires' Pulse, Side, X, Y; no condition. -/
import Derived.Test.YtfolciibgdilcaaWirN
namespace Go.Proofs.Ytfolciibgdilcaa.Ly3
open Go.ChangeShapes Go.WideShapes Go.ChangeAt Go.RowKit Base
set_option linter.unusedVariables false
set_option linter.unusedSimpArgs false

def pulseF (y : Bool) : Nat := if y then 12 else 3
theorem pulse_any (y : Bool) (w : World) : Calls Try.prog 28 #[.bool y] w fun e w' => e = .returned (.int .u8 (pulseF y)) ∧ w = w' := by
  cases y
  all_goals
    go_enter Try.func28, Try.ntmps28
    go_wp2
    go_ret
    exact ⟨rfl, rfl⟩
theorem side_any (l : Nat) (y : Bool) (w : World) (hl : l < 256) : Calls Try.prog 22 #[.int .u8 l, .bool y] w fun e w' => e = .returned (.int .u8 (l &&& pulseF y : Nat)) ∧ w = w' := by
  have e := u8_and_nat l (pulseF y) hl (by cases y <;> decide)
  have l0 : (0 : Int) ≤ (l : Int) := by omega
  have l1 : (l : Int) ≤ 255 := by omega
  go_enter Try.func22, Try.ntmps22
  go_wp2_with (go_at_call 28; refine (pulse_any _ _).mono ?_; rintro e w' ⟨rfl, rfl⟩)
  go_ret
  exact ⟨rfl, rfl⟩

/-- The lines that both sides drive for a level, of the first k. -/
theorem x_any (w : World) : Calls Try.prog 23 #[] w fun e w' => e = .returned (.int .u8 3) ∧ w = w' := by
  go_enter Try.func23, Try.ntmps23
  go_wp2
  go_ret
  exact ⟨rfl, rfl⟩
theorem y_any (w : World) : Calls Try.prog 24 #[] w fun e w' => e = .returned (.int .u8 12) ∧ w = w' := by
  go_enter Try.func24, Try.ntmps24
  go_wp2
  go_ret
  exact ⟨rfl, rfl⟩
end Go.Proofs.Ytfolciibgdilcaa.Ly3
