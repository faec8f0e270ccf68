/- An image that comes in; no condition. -/
import Derived.Test.YthnopcoahcdjjaaImgH
import Derived.Test.YthnopcoahcdjjaaGrid
namespace Go.Proofs.Ythnopcoahcdjjaa.Ly10
open Go.ChangeShapes Go.WideShapes Go.ChangeAt Go.RowKit Base Go.Deep
set_option linter.unusedVariables false
set_option linter.unusedSimpArgs false

abbrev shI : Sh := .fld (.int .i64) (.fld (.ar 2 (.int .i64)) (.fld (.sl (.int .u8)) .nil))
/-- What an image holds. -/
theorem reads_img {w : World} {cs : Array Value} (h : Reads w shI cs.toList) : ∃ (m e0 e1 : Int) (A : Option Addr) (n c : Nat) (bs : List Nat), cs = c4 m e0 e1 A n c ∧ Lst w A n (u8s bs) ∧ (∀ x ∈ bs, x < 256) ∧ n ≤ c ∧ c ≤ 9223372036854775807 := by
  obtain ⟨_, _, e, ⟨m, rfl, _⟩, _, _, rfl, ⟨rows, hrl, rfl, hr⟩, _, _, rfl, ⟨A, n, c, rws, rfl, hnc, hcm, hg, hu⟩, rfl⟩ := h
  match rows, hrl, hr with
  | [r0, r1], _, hr =>
    obtain ⟨e0, rfl, _⟩ := hr r0 (by simp)
    obtain ⟨e1, rfl, _⟩ := hr r1 (by simp)
    unfold maxLen at hcm
    obtain ⟨xs, hl, hx⟩ := grid_lst hg hu
    obtain ⟨bs, ev, hv⟩ := nats_of xs hx
    rw [ev] at hl
    exact ⟨m, e0, e1, A, n, c, bs, by cases cs; simpa using e, hl, hv, hnc, by omega⟩

end Go.Proofs.Ythnopcoahcdjjaa.Ly10
