/- Both Windows say winI of windows with short lists; a schedule's number of modules is an int. -/
import Derived.Test.YtkankdecbefenaaDoorVlcJ
import Derived.Test.YtkankdecbefenaaDoorVlcK
namespace Go.Proofs.YtkankdecbefenaaDoor.Ly7
open Go.ChangeShapes Go.WideShapes Go.ChangeAt Go.RowKit Base
set_option linter.unusedVariables false
set_option linter.unusedSimpArgs false

theorem says_win {md : Int} (hmd : md ≤ 9223372036854775807) {n : Nat} {ws : List Wd} (h : FewW n ws) : Says (winI md) md ws := fun x hx W hok =>
  (window_any md x.k x.b x.wd x.ad x.A x.n x.c x.fs x.B x.m x.d x.ts W hok.fl hok.tl (by have := h.2 x hx; omega) (by have := h.2 x hx; omega) hmd).mono (fun e w' ⟨r, he, hw, hb⟩ => ⟨by rw [he, win_uniq hw (winI_is md x)], hb⟩)
theorem sched_md {w : World} {md : Int} {r : List Value} (h : Reads w shS (.int .i64 md :: r)) : -9223372036854775808 ≤ md ∧ md ≤ 9223372036854775807 := by
  obtain ⟨_, _, e, ⟨m, rfl, hw⟩, _⟩ := h
  simp at e
  obtain ⟨rfl, _⟩ := e
  simp [Lit.wf, IntKind.min, IntKind.max, IntKind.signed, IntKind.bits] at hw
  omega
end Go.Proofs.YtkankdecbefenaaDoor.Ly7
