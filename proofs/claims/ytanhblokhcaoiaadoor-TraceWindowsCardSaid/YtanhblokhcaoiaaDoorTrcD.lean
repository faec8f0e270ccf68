/- Package trace's partOf: the part of the time, rounded down; no condition. -/
import Derived.Test.YtanhblokhcaoiaaDoorTrcC
namespace Go.Proofs.YtanhblokhcaoiaaDoor.Tr
open Go.ChangeShapes Go.WideShapes Go.ChangeAt Go.RowKit Base
set_option linter.unusedVariables false
set_option linter.unusedSimpArgs false

set_option maxRecDepth 100000 in
set_option maxHeartbeats 1000000 in
theorem part_any (t : Int) (w : World) (h : -9223372036854775808 ≤ t ∧ t ≤ 9223372036854775807) :
    Calls Tryd.prog 60 #[.int .i64 t] w fun e' w' => e' = .returned (.int .i64 (t / 101)) ∧ Below w.heap.size w w' := by
  obtain ⟨q, hq⟩ : ∃ q, t.tdiv 101 = q := ⟨_, rfl⟩
  obtain ⟨r, hr⟩ : ∃ r, t.tmod 101 = r := ⟨_, rfl⟩
  have hqr : 101 * q + r = t := by rw [← hq, ← hr]; exact Int.mul_tdiv_add_tmod t 101
  have hrb : -101 < r ∧ r < 101 := by
    have h1 := Int.tmod_lt_of_pos t (show (0 : Int) < 101 by decide)
    have h2 := Int.lt_tmod_of_pos t (show (0 : Int) < 101 by decide)
    omega
  have hsg : (0 ≤ t → 0 ≤ r) ∧ (t ≤ 0 → r ≤ 0) := by
    constructor
    · intro h0
      rw [← hr]
      exact Int.tmod_nonneg _ h0
    · intro h0
      have := Int.tmod_nonneg 101 (show 0 ≤ -t by omega)
      rw [Int.neg_tmod, hr] at this
      omega
  have e1 : wrap64 q = q := IntWalk.wrap64_in q (by omega)
  have e2 : IntKind.i64.wrap q = q := IntWalk.i64_in q (by omega)
  have e3 : IntKind.i64.wrap (q - 1) = q - 1 := IntWalk.i64_in _ (by omega)
  have e4 : IntKind.i64.wrap r = r := IntWalk.i64_in r (by omega)
  have e5 : wrap64 r = r := IntWalk.wrap64_in r (by omega)
  by_cases hn : r < 0
  · have hE : t / 101 = q - 1 := by omega
    rw [hE]
    clear hqr hrb hsg hE
    go_enter Tryd.func60, Tryd.ntmps60
    go_wp2
    go_ret
    exact ⟨rfl, Below.refl _ _⟩
  · have hE : t / 101 = q := by omega
    rw [hE]
    clear hqr hrb hsg hE
    go_enter Tryd.func60, Tryd.ntmps60
    go_wp2
    go_ret
    exact ⟨rfl, Below.refl _ _⟩
end Go.Proofs.YtanhblokhcaoiaaDoor.Tr
