/- The contracts of package wires' functions on lines, as numbers below 256. -/
import Derived.Test.YtnbcegijncdmaaaDoorKin
import Derived.Test.YtnbcegijncdmaaaDoorObj
import Derived.Test.YtnbcegijncdmaaaDoorRows
import Derived.WalkKit
import Derived.ProofKit
import Derived.OpenShut
import Derived.WalkLawsBesides
import Derived.WalkSpells
import Derived.Lib.Hide
import Derived.Laws.BitsAllLaws
namespace Go.Proofs.YtnbcegijncdmaaaDoor.Ly3
open Go.ChangeShapes Go.WideShapes Go.ChangeAt Go.RowKit Base
set_option linter.unusedVariables false
set_option linter.unusedSimpArgs false

/-- Whether a line is high. -/
def hb (l k : Nat) : Bool := l / 2 ^ k % 2 == 1
def hiF (l : Nat) (i : Int) : Bool := decide (0 ≤ i ∧ i ≤ 3) && hb l i.toNat
theorem and_bit (l k : Nat) (hl : l < 256) (hk : k < 4) : bits .and .u8 (l : Int) ((2 ^ k : Nat) : Int) = if hb l k then ((2 ^ k : Nat) : Int) else 0 := by
  have hp : 2 ^ k < 256 := by rcases (show k = 0 ∨ k = 1 ∨ k = 2 ∨ k = 3 by omega) with rfl | rfl | rfl | rfl <;> decide
  rw [u8_and_nat l (2 ^ k) hl hp, nat_bit]
  unfold hb
  rcases Nat.mod_two_eq_zero_or_one (l / 2 ^ k) with h | h <;> simp [h]

theorem is_yes (i : Int) (w : World) (h0 : 0 ≤ i) (h1 : i ≤ 3) : Calls Tryd.prog 75 #[.int .i64 i] w fun e w' => e = .returned (.bool true) ∧ w = w' := by
  go_enter Tryd.func75, Tryd.ntmps75
  go_wp2
  go_ret
  exact ⟨by simp; omega, rfl⟩
theorem is_no (i : Int) (w : World) (h : i < 0 ∨ 3 < i) : Calls Tryd.prog 75 #[.int .i64 i] w fun e w' => e = .returned (.bool false) ∧ w = w' := by
  rcases (show i < 0 ∨ (0 ≤ i ∧ 3 < i) by omega) with g | ⟨g, g1⟩
  all_goals
    go_enter Tryd.func75, Tryd.ntmps75
    go_wp2
    go_ret
    exact ⟨by simp; try omega, rfl⟩

theorem high_no (l : Nat) (i : Int) (w : World) (h : i < 0 ∨ 3 < i) : Calls Tryd.prog 70 #[.int .u8 l, .int .i64 i] w fun e w' => e = .returned (.bool false) ∧ w = w' := by
  go_enter Tryd.func70, Tryd.ntmps70
  go_wp2_with (go_at_call 75; refine (is_no _ _ h).mono ?_; rintro e w' ⟨rfl, rfl⟩)
  go_ret
  exact ⟨rfl, rfl⟩
set_option maxHeartbeats 1000000 in
theorem high_at (l k : Nat) (w : World) (hl : l < 256) (hk : k < 4) : Calls Tryd.prog 70 #[.int .u8 l, .int .i64 k] w fun e w' => e = .returned (.bool (hb l k)) ∧ w = w' := by
  have e := and_bit l k hl hk
  have l0 : (0 : Int) ≤ (l : Int) := by omega
  have l1 : (l : Int) ≤ 255 := by omega
  cases hh : hb l k
  all_goals
    rw [hh] at e
    clear hh
    rcases (show k = 0 ∨ k = 1 ∨ k = 2 ∨ k = 3 by omega) with rfl | rfl | rfl | rfl
    all_goals
      simp at e
      go_enter Tryd.func70, Tryd.ntmps70
      go_wp2_with (go_at_call 75; refine (is_yes _ _ (by omega) (by omega)).mono ?_; rintro e w' ⟨rfl, rfl⟩)
      go_ret
      exact ⟨rfl, rfl⟩
theorem high_any (l : Nat) (i : Int) (w : World) (hl : l < 256) : Calls Tryd.prog 70 #[.int .u8 l, .int .i64 i] w fun e w' => e = .returned (.bool (hiF l i)) ∧ w = w' := by
  unfold hiF
  by_cases h : 0 ≤ i ∧ i ≤ 3
  · obtain ⟨k, rfl⟩ : ∃ k : Nat, i = k := ⟨i.toNat, by omega⟩
    rw [decide_eq_true h]
    simpa using high_at l k w hl (by omega)
  · rw [decide_eq_false h]
    simpa using high_no l i w (by omega)

/-- Lines of which one stands so. -/
def setF (l : Nat) (i : Int) (h : Bool) : Nat := if 0 ≤ i ∧ i ≤ 3 then (if h then l ||| 2 ^ i.toNat else l &&& (255 - 2 ^ i.toNat)) else l
theorem setF_lt {l : Nat} {i : Int} {h : Bool} (hl : l < 256) : setF l i h < 256 := by
  unfold setF
  split
  · split
    · exact Nat.or_lt_two_pow (n := 8) hl (by
        obtain ⟨k, hk⟩ : ∃ k, i.toNat = k := ⟨_, rfl⟩
        rw [hk]
        rcases (show k = 0 ∨ k = 1 ∨ k = 2 ∨ k = 3 by omega) with rfl | rfl | rfl | rfl <;> decide)
    · exact Nat.and_lt_two_pow (n := 8) _ (Nat.lt_of_le_of_lt (Nat.sub_le _ _) (by decide))
  · exact hl
theorem set_no (l : Nat) (i : Int) (h : Bool) (w : World) (hi : i < 0 ∨ 3 < i) : Calls Tryd.prog 26 #[.int .u8 l, .int .i64 i, .bool h] w fun e w' => e = .returned (.int .u8 l) ∧ w = w' := by
  go_enter Tryd.func26, Tryd.ntmps26
  go_wp2_with (go_at_call 75; refine (is_no _ _ hi).mono ?_; rintro e w' ⟨rfl, rfl⟩)
  go_ret
  exact ⟨rfl, rfl⟩
set_option maxHeartbeats 1000000 in
theorem set_at (l k : Nat) (h : Bool) (w : World) (hl : l < 256) (hk : k < 4) : Calls Tryd.prog 26 #[.int .u8 l, .int .i64 k, .bool h] w fun e w' => e = .returned (.int .u8 (if h then l ||| 2 ^ k else l &&& (255 - 2 ^ k) : Nat)) ∧ w = w' := by
  have hp : 2 ^ k < 256 := by rcases (show k = 0 ∨ k = 1 ∨ k = 2 ∨ k = 3 by omega) with rfl | rfl | rfl | rfl <;> decide
  have eo := u8_or_nat l (2 ^ k) hl hp
  have ea := u8_andNot_nat l (2 ^ k) hl hp
  have l0 : (0 : Int) ≤ (l : Int) := by omega
  have l1 : (l : Int) ≤ 255 := by omega
  clear hp
  cases h
  all_goals
    rcases (show k = 0 ∨ k = 1 ∨ k = 2 ∨ k = 3 by omega) with rfl | rfl | rfl | rfl
    all_goals
      simp at eo ea
      go_enter Tryd.func26, Tryd.ntmps26
      go_wp2_with (go_at_call 75; refine (is_yes _ _ (by omega) (by omega)).mono ?_; rintro e w' ⟨rfl, rfl⟩)
      go_ret
      exact ⟨rfl, rfl⟩
theorem set_any (l : Nat) (i : Int) (h : Bool) (w : World) (hl : l < 256) : Calls Tryd.prog 26 #[.int .u8 l, .int .i64 i, .bool h] w fun e w' => e = .returned (.int .u8 (setF l i h)) ∧ w = w' := by
  unfold setF
  by_cases g : 0 ≤ i ∧ i ≤ 3
  · obtain ⟨k, rfl⟩ : ∃ k : Nat, i = k := ⟨i.toNat, by omega⟩
    rw [if_pos g]
    simpa using set_at l k h w hl (by omega)
  · rw [if_neg g]
    exact set_no l i h w (by omega)
end Go.Proofs.YtnbcegijncdmaaaDoor.Ly3
