/- What one of layer 14 comes to, by the evaluator. -/
import Derived.Test.YtnbcegijncdmaaaDoorEvL
import Derived.Test.YtnbcegijncdmaaaDoorWirS
import Derived.Test.YtnbcegijncdmaaaDoorChecked
namespace Go.Proofs.YtnbcegijncdmaaaDoor.One14
open Go Go.RowKit Go.ChangeAt Base Ev Ly3
set_option linter.unusedVariables false
set_option linter.unusedSimpArgs false
theorem named : Named Tryd.prog := by unfold Named; kernel_rfl
theorem mixed : Tryd.prog.follows .mixedOrders = true := by kernel_rfl
abbrev up : List Value := [.bool true, .bool false, .bool false, .bool true]
theorem gl_up {W : World} (h : Up W) : GlHas W (0, up) := by
  obtain ⟨h0, h1, h2, h3⟩ := h
  unfold World.cell? at h0 h1 h2 h3
  cases hb : W.heap[0]? with
  | none => simp [hb] at h0
  | some o =>
    cases o with
    | cells cs el fz =>
      refine ⟨cs, el, fz, hb, fun j v hj => ?_⟩
      simp [hb] at h0 h1 h2 h3
      rcases j with _ | _ | _ | _ | j
      all_goals
        simp [up] at hj
        try (subst hj; assumption)
    | _ => simp [hb] at h0
set_option maxRecDepth 1000000 in
theorem one_run : runG Tryd.prog 100000 22 1 [(0, up)] 0 [] [] = some (.bool true) := by kernel_rfl
theorem one_any (w : World) (hU : Up w) : Calls Tryd.prog 22 #[] w fun e w' => e = .returned (.bool true) ∧ Below w.heap.size w w' :=
  runG_ok (vs := []) named mixed one_run (fun p hp => by obtain rfl := List.mem_singleton.1 hp; exact gl_up hU) (fun e he => by cases he) .nil
end Go.Proofs.YtnbcegijncdmaaaDoor.One14
