/- The contracts of package wires' Pulse, Side and Drive. -/
import Derived.Test.YtnbcegijncdmaaaDoorWirS
namespace Go.Proofs.YtnbcegijncdmaaaDoor.Ly3
open Go.ChangeShapes Go.WideShapes Go.ChangeAt Go.RowKit Base
set_option linter.unusedVariables false
set_option linter.unusedSimpArgs false

def pulseF (y : Bool) : Nat := if y then 12 else 3
theorem pulse_any (y : Bool) (w : World) : Calls Tryd.prog 61 #[.bool y] w fun e w' => e = .returned (.int .u8 (pulseF y)) ∧ w = w' := by
  cases y
  all_goals
    go_enter Tryd.func61, Tryd.ntmps61
    go_wp2
    go_ret
    exact ⟨rfl, rfl⟩
theorem side_any (l : Nat) (y : Bool) (w : World) (hl : l < 256) : Calls Tryd.prog 88 #[.int .u8 l, .bool y] w fun e w' => e = .returned (.int .u8 (l &&& pulseF y : Nat)) ∧ w = w' := by
  have e := u8_and_nat l (pulseF y) hl (by cases y <;> decide)
  have l0 : (0 : Int) ≤ (l : Int) := by omega
  have l1 : (l : Int) ≤ 255 := by omega
  go_enter Tryd.func88, Tryd.ntmps88
  go_wp2_with (go_at_call 61; refine (pulse_any _ _).mono ?_; rintro e w' ⟨rfl, rfl⟩)
  go_ret
  exact ⟨rfl, rfl⟩

/-- The lines that both sides drive for a level, of the first k. -/
def acc (level : Bool) : Nat → Nat
  | 0 => 0
  | k + 1 => if (k == 0 || k == 3) == level then acc level k ||| 2 ^ k else acc level k &&& (255 - 2 ^ k)
def driveF (y level : Bool) : Nat := acc level 4 &&& pulseF y
theorem acc_lt (level : Bool) (k : Nat) (hk : k ≤ 4) : acc level k < 256 := by
  rcases (show k = 0 ∨ k = 1 ∨ k = 2 ∨ k = 3 ∨ k = 4 by omega) with rfl | rfl | rfl | rfl | rfl <;> cases level <;> decide
theorem set_acc (level : Bool) (k : Nat) (h : Bool) (w : World) (hk : k < 4) (hh : h = ((k == 0 || k == 3) == level)) :
    Calls Tryd.prog 26 #[.int .u8 (acc level k), .int .i64 k, .bool h] w fun e w' => e = .returned (.int .u8 (acc level (k + 1))) ∧ w = w' := by
  subst hh
  exact set_at (acc level k) k _ w (acc_lt level k (by omega)) hk

def DRel (level : Bool) (l i : Value) : Prop := ∃ k : Nat, k ≤ 4 ∧ i = .int .i64 k ∧ l = .int .u8 (acc level k)
theorem drel (level : Bool) (k : Nat) (hk : k ≤ 4) : DRel level (.int .u8 (acc level k)) (.int .i64 k) := ⟨k, hk, rfl, rfl⟩
set_option maxHeartbeats 400000 in
theorem drive_any (y level : Bool) (w : World) (hU : Up w) :
    Calls Tryd.prog 63 #[.bool y, .bool level] w fun e w' => e = .returned (.int .u8 (driveF y level)) ∧ w = w' := by
  obtain ⟨u0, u1, u2, u3⟩ := hU
  go_enter Tryd.func63, Tryd.ntmps63
  go_wp2
  go_loop [5, 7] (fun l i => DRel level l i) (fun _ i => 4 - (intOf i).toNat)
  case atStart => exact ⟨0, by omega, rfl, rfl⟩
  case round =>
    obtain ⟨k, hk, rfl, rfl⟩ := hrel
    rcases (show k = 0 ∨ k = 1 ∨ k = 2 ∨ k = 3 ∨ k = 4 by omega) with rfl | rfl | rfl | rfl | rfl
    · go_wp2_with (go_at_call 26; refine (set_acc level 0 _ _ (by omega) (by cases level <;> rfl)).mono ?_; rintro e w' ⟨rfl, rfl⟩)
      go_round
      case rel => exact drel level 1 (by omega)
      case measure => simp [intOf]
    · go_wp2_with (go_at_call 26; refine (set_acc level 1 _ _ (by omega) (by cases level <;> rfl)).mono ?_; rintro e w' ⟨rfl, rfl⟩)
      go_round
      case rel => exact drel level 2 (by omega)
      case measure => simp [intOf]
    · go_wp2_with (go_at_call 26; refine (set_acc level 2 _ _ (by omega) (by cases level <;> rfl)).mono ?_; rintro e w' ⟨rfl, rfl⟩)
      go_round
      case rel => exact drel level 3 (by omega)
      case measure => simp [intOf]
    · go_wp2_with (go_at_call 26; refine (set_acc level 3 _ _ (by omega) (by cases level <;> rfl)).mono ?_; rintro e w' ⟨rfl, rfl⟩)
      go_round
      case rel => exact drel level 4 (by omega)
      case measure => simp [intOf]
    · go_wp2_with (go_at_call 88; refine (side_any _ _ _ (acc_lt level 4 (by omega))).mono ?_; rintro e w' ⟨rfl, rfl⟩)
      go_ret
      exact ⟨rfl, rfl⟩

end Go.Proofs.YtnbcegijncdmaaaDoor.Ly3
