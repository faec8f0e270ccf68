/- The contract of package major's Odd, of any shift of up to eight words; no condition. -/
import Derived.Test.YtnbcegijncdmaaaDoorMajC
namespace Go.Proofs.YtnbcegijncdmaaaDoor.Ly16
open Go.ChangeShapes Go.WideShapes Go.ChangeAt Go.RowKit Base Ly3 Ly2 Ly15
set_option linter.unusedVariables false
set_option linter.unusedSimpArgs false

/-- Does a line say a bit otherwise than most? -/
def oddB (f : Nat → Bool) (j m : Nat) : Bool := oN f m && (!(lineF f j m).2 || ((lineF f j m).1 != bN f m))
def oddN (f : Nat → Bool) (j : Nat) : Nat → Nat
  | 0 => 0
  | m + 1 => oddN f j m + (if oddB f j m = true then 1 else 0)
theorem oddN_succ (f : Nat → Bool) (j m : Nat) : oddN f j (m + 1) = oddN f j m + (if oddB f j m = true then 1 else 0) := rfl
theorem oddN_le (f : Nat → Bool) (j : Nat) : ∀ m, oddN f j m ≤ m
  | 0 => by simp [oddN]
  | m + 1 => by
    have := oddN_le f j m
    unfold oddN
    split <;> omega
def oV (f : Nat → Bool) (m k j : Nat) : Value := .int .i64 ((oddN f j (if j < k then m + 1 else m) : Nat) : Int)
def oA (f : Nat → Bool) (m k : Nat) : Array Value := #[oV f m k 0, oV f m k 1, oV f m k 2, oV f m k 3]
theorem oA_next (f : Nat → Bool) (m : Nat) : oA f m 4 = oA f (m + 1) 0 := by simp [oA, oV]
theorem oV_off {f : Nat → Bool} {m k j : Nat} (h : oddB f k m = false) : oV f m (k + 1) j = oV f m k j := by
  unfold oV
  by_cases e : j = k
  · subst e
    rw [if_pos (by omega), if_neg (by omega), oddN_succ, h]
    rfl
  · by_cases e' : j < k
    · rw [if_pos (by omega), if_pos e']
    · rw [if_neg (by omega), if_neg e']
theorem oA_off {f : Nat → Bool} {m k : Nat} (h : oddB f k m = false) : oA f m (k + 1) = oA f m k := by
  unfold oA
  rw [oV_off h, oV_off h, oV_off h, oV_off h]
theorem oV_other {f : Nat → Bool} {m k j : Nat} (e : j ≠ k) : oV f m (k + 1) j = oV f m k j := by
  unfold oV
  by_cases e' : j < k
  · rw [if_pos (by omega), if_pos e']
  · rw [if_neg (by omega), if_neg e']
theorem oV_on {f : Nat → Bool} {m k : Nat} (h : oddB f k m = true) : oV f m (k + 1) k = .int .i64 ((oddN f k m : Int) + 1) := by
  unfold oV
  rw [if_pos (by omega), oddN_succ, h]
  rfl
theorem oA_on {f : Nat → Bool} {m k : Nat} (hk : k < 4) (h : oddB f k m = true) : (oA f m k).setIfInBounds k (.int .i64 ((oddN f k m : Int) + 1)) = oA f m (k + 1) := by
  rcases (show k = 0 ∨ k = 1 ∨ k = 2 ∨ k = 3 by omega) with rfl | rfl | rfl | rfl
  all_goals
    unfold oA
    rw [← oV_on h]
    simp [oV_other]
theorem oV_at (f : Nat → Bool) (m k : Nat) : oV f m k k = .int .i64 (oddN f k m : Int) := by unfold oV; rw [if_neg (by omega)]
end Go.Proofs.YtnbcegijncdmaaaDoor.Ly16
