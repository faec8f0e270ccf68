/- The contracts of package wires' Drive, and of layer 3's closed example. -/
import Derived.Test.YtbhdenjahojbbaaDoorWirB
namespace Go.Proofs.YtbhdenjahojbbaaDoor.Ly3
open Go.ChangeShapes Go.WideShapes Go.ChangeAt Go.RowKit Base
set_option linter.unusedVariables false
set_option linter.unusedSimpArgs false

/-- The lines that both sides drive for a level, of the first k. -/
def acc (level : Bool) : Nat → Nat
  | 0 => 0
  | k + 1 => if (k == 0 || k == 3) == level then acc level k ||| 2 ^ k else acc level k &&& (255 - 2 ^ k)
def driveF (y level : Bool) : Nat := acc level 4 &&& pulseF y
theorem acc_lt (level : Bool) (k : Nat) (hk : k ≤ 4) : acc level k < 256 := by
  rcases (show k = 0 ∨ k = 1 ∨ k = 2 ∨ k = 3 ∨ k = 4 by omega) with rfl | rfl | rfl | rfl | rfl <;> cases level <;> decide
theorem set_acc (level : Bool) (k : Nat) (h : Bool) (w : World) (hk : k < 4) (hh : h = ((k == 0 || k == 3) == level)) :
    Calls Tryd.prog 11 #[.int .u8 (acc level k), .int .i64 k, .bool h] w fun e w' => e = .returned (.int .u8 (acc level (k + 1))) ∧ w = w' := by
  subst hh
  exact set_at (acc level k) k _ w (acc_lt level k (by omega)) hk

def DRel (level : Bool) (l i : Value) : Prop := ∃ k : Nat, k ≤ 4 ∧ i = .int .i64 k ∧ l = .int .u8 (acc level k)
theorem drel (level : Bool) (k : Nat) (hk : k ≤ 4) : DRel level (.int .u8 (acc level k)) (.int .i64 k) := ⟨k, hk, rfl, rfl⟩
set_option maxHeartbeats 400000 in
theorem drive_any (y level : Bool) (w : World) (hU : Up w) :
    Calls Tryd.prog 18 #[.bool y, .bool level] w fun e w' => e = .returned (.int .u8 (driveF y level)) ∧ w = w' := by
  obtain ⟨u0, u1, u2, u3⟩ := hU
  go_enter Tryd.func18, Tryd.ntmps18
  go_wp2
  go_loop [5, 7] (fun l i => DRel level l i) (fun _ i => 4 - (intOf i).toNat)
  case atStart => exact ⟨0, by omega, rfl, rfl⟩
  case round =>
    obtain ⟨k, hk, rfl, rfl⟩ := hrel
    rcases (show k = 0 ∨ k = 1 ∨ k = 2 ∨ k = 3 ∨ k = 4 by omega) with rfl | rfl | rfl | rfl | rfl
    · go_wp2_with (go_at_call 11; refine (set_acc level 0 _ _ (by omega) (by cases level <;> rfl)).mono ?_; rintro e w' ⟨rfl, rfl⟩)
      go_round
      case rel => exact drel level 1 (by omega)
      case measure => simp [intOf]
    · go_wp2_with (go_at_call 11; refine (set_acc level 1 _ _ (by omega) (by cases level <;> rfl)).mono ?_; rintro e w' ⟨rfl, rfl⟩)
      go_round
      case rel => exact drel level 2 (by omega)
      case measure => simp [intOf]
    · go_wp2_with (go_at_call 11; refine (set_acc level 2 _ _ (by omega) (by cases level <;> rfl)).mono ?_; rintro e w' ⟨rfl, rfl⟩)
      go_round
      case rel => exact drel level 3 (by omega)
      case measure => simp [intOf]
    · go_wp2_with (go_at_call 11; refine (set_acc level 3 _ _ (by omega) (by cases level <;> rfl)).mono ?_; rintro e w' ⟨rfl, rfl⟩)
      go_round
      case rel => exact drel level 4 (by omega)
      case measure => simp [intOf]
    · go_wp2_with (go_at_call 16; refine (side_any _ _ _ (acc_lt level 4 (by omega))).mono ?_; rintro e w' ⟨rfl, rfl⟩)
      go_ret
      exact ⟨rfl, rfl⟩

theorem drive_c (y level : Bool) (r : Nat) (hr : driveF y level = r) (w : World) (hU : Up w) :
    Calls Tryd.prog 18 #[.bool y, .bool level] w fun e w' => e = .returned (.int .u8 r) ∧ w = w' := by
  subst hr; exact drive_any y level w hU
theorem pulse_c (y : Bool) (r : Nat) (hr : pulseF y = r) (w : World) : Calls Tryd.prog 17 #[.bool y] w fun e w' => e = .returned (.int .u8 r) ∧ w = w' := by
  subst hr; exact pulse_any y w
theorem says_c (l : Nat) (a b c d : Bool) (hr : said l 0 = a ∧ said l 1 = b ∧ said l 2 = c ∧ said l 3 = d) (hl : l < 256) (w : World) (hU : Up w) :
    Calls Tryd.prog 8 #[.int .u8 l] w fun e w' => e = .returned (.agg #[.bool a, .bool b, .bool c, .bool d]) ∧ Below w.heap.size w w' := by
  obtain ⟨rfl, rfl, rfl, rfl⟩ := hr; exact says_any l w hl hU
theorem says_nine (w : World) (hU : Up w) : Calls Tryd.prog 8 #[.int .u8 9] w fun e w' => e = .returned (.agg #[.bool true, .bool true, .bool true, .bool true]) ∧ Below w.heap.size w w' :=
  says_c 9 _ _ _ _ (by decide) (by decide) w hU

set_option maxHeartbeats 2000000 in
theorem one_any (w : World) (hU : Up w) : Calls Tryd.prog 14 #[] w fun e w' => e = .returned (.bool true) ∧ Below w.heap.size w w' := by
  have HU := Lib.hid hU
  clear hU
  go_enter Tryd.func14, Tryd.ntmps14
  go_wp2_with fail
  refine (says_nine _ HU.out).mono ?_
  rintro e w1 ⟨rfl, hb1⟩
  have HU1 := Lib.hid (HU.out.kept hb1)
  have HU2 : Hid (Up (w1.alloc (.cells #[.bool true, .bool true, .bool true, .bool true] 23))) := Lib.hid (HU1.out.kept ((Below.refl _ _).alloc (Nat.le_refl _) _))
  go_wp2_with (first
    | (go_at_call_of 18 (Value.bool false); refine (drive_c false true 1 (by decide) _ HU2.out).mono ?_; rintro e w' ⟨rfl, rfl⟩)
    | (go_at_call_of 18 (Value.bool true); refine (drive_c true true 8 (by decide) _ HU2.out).mono ?_; rintro e w' ⟨rfl, rfl⟩)
    | go_in)
  go_ret
  refine ⟨rfl, ?_⟩
  repeat (first | exact Below.refl _ _ | refine Below.setCell ?_ (by first | omega | (simp; done) | (simp; omega) | (have := hb1.size; simp at this ⊢; omega)) _ | refine Below.alloc ?_ (by first | omega | (simp; done) | (simp; omega) | (have := hb1.size; simp at this ⊢; omega)) _ | refine below_drewN' ?_ _ | refine Below.drew ?_ | refine Below.trans ?_ (hb1.mono (by first | omega | (simp; done) | (simp; omega) | (have := hb1.size; simp at this ⊢; omega))))
end Go.Proofs.YtbhdenjahojbbaaDoor.Ly3
