/- The contract of package wires' Count. -/
import Derived.Test.YtnbcegijncdmaaaDoorWirA
import Derived.Test.YtnbcegijncdmaaaDoorRows
import Derived.WalkKit
import Derived.ProofKit
import Derived.OpenShut
import Derived.WalkLawsBesides
import Derived.WalkSpells
import Derived.Lib.Hide
import Derived.Laws.BitsAllLaws
namespace Go.Proofs.YtnbcegijncdmaaaDoor.Ly3
open Go.ChangeShapes Go.WideShapes Go.ChangeAt Go.RowKit Base
set_option linter.unusedVariables false
set_option linter.unusedSimpArgs false

/-- How many lines are high. -/
def cnt (l : Nat) : Nat → Nat
  | 0 => 0
  | k + 1 => cnt l k + (if hb l k then 1 else 0)
theorem cnt_le (l k : Nat) : cnt l k ≤ k := by
  induction k with
  | zero => simp [cnt]
  | succ k ih => simp only [cnt]; split <;> omega
set_option maxHeartbeats 1000000 in
theorem count_any (l : Nat) (w : World) (hl : l < 256) : Calls Tryd.prog 19 #[.int .u8 l] w fun e w' => e = .returned (.int .i64 (cnt l 4)) ∧ w = w' := by
  go_enter Tryd.func19, Tryd.ntmps19
  go_wp2
  go_loop [3, 5] (fun n i => ∃ k : Nat, k ≤ 4 ∧ i = .int .i64 k ∧ n = .int .i64 (cnt l k)) (fun _ i => 4 - (intOf i).toNat)
  case atStart => exact ⟨0, by omega, rfl, rfl⟩
  case round =>
    obtain ⟨k, hk, rfl, rfl⟩ := hrel
    have hc := cnt_le l k
    rcases Nat.lt_or_eq_of_le hk with hlt | heq
    · cases hh : hb l k
      all_goals
        have HC : Hid (cnt l (k + 1) = cnt l k + (if hb l k then 1 else 0)) := Lib.hid rfl
        have HH := Lib.hid hh
        clear hh
        go_wp2_with (go_at_call 70; refine (high_at l k _ hl hlt).mono ?_; rintro e w' ⟨rfl, rfl⟩; rw [HH.out])
        go_round
        case rel => exact ⟨k + 1, by omega, by go_num, by rw [HC.out, HH.out]; simp⟩
        case measure => simp [intOf]; omega
    · subst heq
      go_wp2
      go_ret
      exact ⟨rfl, rfl⟩

end Go.Proofs.YtnbcegijncdmaaaDoor.Ly3
