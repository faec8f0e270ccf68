/- Parts of a slice of one-celled elements: what the cut gives, what it holds; no condition. -/
import Derived.Test.YtkankdecbefenaaDoorArgs
namespace Go.Proofs.YtkankdecbefenaaDoor.Base
open Go.ChangeShapes Go.WideShapes Go.ChangeAt Go.RowKit Go.Deep
set_option linter.unusedVariables false

/-- The address of a part from l on, of a slice with room c. -/
def cutA (A : Option Addr) (l c : Nat) : Option Addr := if c = l then A else A.map (·.add l)
section
variable {P : Program} {t : TypeId} (ht : P.underlying t = some (.slice (P.elem t))) (hs : ∀ W, (sizeOf (P.elem t)).run P W = .ok 1 W)
include ht hs
theorem cut_lh (A : Option Addr) (n c l h : Nat) (h1 : l ≤ h) (h2 : h ≤ c) (W : World) :
    (Instr.slice t (.slice A n c) (some (.int .i64 (l : Int))) (some (.int .i64 (h : Int))) none).run P W = .ok (.slice (cutA A l c) (h - l) (c - l)) W := by
  rw [run_slice_lh W t A n c ht .i64 .i64 l h (by omega) (by omega) (by omega), hs]
  simp [Result.andThen, sliced, cutA]
theorem cut_l (A : Option Addr) (n c l : Nat) (h1 : l ≤ n) (W : World) :
    (Instr.slice t (.slice A n c) (some (.int .i64 (l : Int))) none none).run P W = .ok (.slice (cutA A l c) (n - l) (c - l)) W := by
  rw [run_slice_l W t A n c ht .i64 l (by omega) (by omega), hs]
  simp [Result.andThen, sliced, cutA]
theorem cut_h (A : Option Addr) (n c h : Nat) (h2 : h ≤ c) (W : World) :
    (Instr.slice t (.slice A n c) none (some (.int .i64 (h : Int))) none).run P W = .ok (.slice A h c) W := by
  rw [run_slice_h W t A n c ht .i64 h (by omega) (by omega), hs]
  cases A with
  | none => simp [Result.andThen, sliced]
  | some a =>
    have e : a.add 0 = a := by unfold Addr.add; rfl
    simp [Result.andThen, sliced, e]
end
theorem lst_cut {w : World} {A : Option Addr} {n c l h : Nat} {xs : List Value} (hl : Lst w A n xs) (h1 : l ≤ h) (h2 : h ≤ n) (h3 : n ≤ c) : Lst w (cutA A l c) (h - l) ((xs.drop l).take (h - l)) := by
  refine ⟨by rw [List.length_take, List.length_drop, hl.1]; omega, fun h0 => ?_⟩
  obtain ⟨b, off, e, hlt, hc⟩ := hl.2 (by omega)
  subst e
  refine ⟨b, off + l, ?_, hlt, fun k hk => ?_⟩
  · unfold cutA
    rw [if_neg (by omega), Option.map_some, add_eq]
  · rw [Nat.add_assoc, hc (l + k) (by omega), List.getElem?_take_of_lt hk, List.getElem?_drop]
end Go.Proofs.YtkankdecbefenaaDoor.Base
