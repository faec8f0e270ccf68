/- The contracts of package fault's functions: Of, Right, left, At; what each returns. -/
import Derived.Test.YtfolciibgdilcaaBox
import Derived.Test.YtfolciibgdilcaaRows
import Derived.WalkKit
import Derived.ProofKit
import Derived.OpenShut
import Derived.WalkLawsBesides
import Derived.WalkSpells
import Derived.IntWalk
import Derived.Lib.Hide
namespace Go.Proofs.Ytfolciibgdilcaa.Ly20
open Go.ChangeShapes Go.WideShapes Go.ChangeAt Go.RowKit Base
set_option linter.unusedVariables false
set_option linter.unusedSimpArgs false

def ofB (kd md m : Int) : Bool := kd == 2 && md == m
theorem left_any (x b : Int) (w : World) (h0 : 0 ≤ x) (h1 : x ≤ 9223372036854775807) (hb : 0 < b) (hb1 : b ≤ 1000000) : Calls Try.prog 29 #[.int .i64 x, .int .i64 b] w fun e w' => e = .returned (.int .i64 (x % b)) ∧ w = w' := by
  have r0 := Int.emod_nonneg x (show b ≠ 0 by omega)
  have r1 := Int.emod_lt_of_pos x hb
  have e1 : x.tmod b = x % b := Int.tmod_eq_emod_of_nonneg h0
  have e2 : (x % b + b).tmod b = x % b := by rw [Int.tmod_eq_emod_of_nonneg (by omega), Int.add_emod_right, Int.emod_emod_of_dvd _ (Int.dvd_refl _)]
  have e3 : (x % b + b) % b = x % b := by rw [Int.add_emod_right, Int.emod_emod_of_dvd _ (Int.dvd_refl _)]
  have hz : (b == 0) = false := by simp; omega
  have hz' : ¬ b = 0 := by omega
  have E3 := Lib.hid e3
  clear e3
  go_enter Try.func29, Try.ntmps29
  go_wp2
  go_ret
  exact ⟨by first | rfl | (rw [E3.out]) | simp [E3.out], rfl⟩
end Go.Proofs.Ytfolciibgdilcaa.Ly20
