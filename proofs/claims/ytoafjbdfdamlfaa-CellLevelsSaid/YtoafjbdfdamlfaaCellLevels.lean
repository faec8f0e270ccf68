/- Any bit's line stands at any tick as the document says, any tick is of the cell that it says, and each half of any cell is looked at where it says: for every input; no condition. -/
import Derived.Test.YtoafjbdfdamlfaaCellO
import Derived.Test.YtoafjbdfdamlfaaSh
import Derived.Test.YtoafjbdfdamlfaaRows
import Derived.WalkKit
import Derived.ProofKit
import Derived.OpenShut
import Derived.ShutString
import Derived.ChangeOld
import Derived.Below
namespace Go.Proofs.Ytoafjbdfdamlfaa.lawCellLevels
open Go.ChangeShapes Go.WideShapes Go.ChangeAt Go.RowKit Base
open Go.ChangeMaps (open_string shut_string)
set_option linter.unusedVariables false
set_option linter.unusedSimpArgs false
theorem own : ownKnob Try.prog.godebug = none := by kernel_rfl
theorem laidOut : laidOutB Try.prog = true := by kernel_rfl
open Ly1

theorem two_at (w : World) (a b : Bool) (t : TypeId) (x : Kin (w.alloc (Obj.cells #[.bool a, .bool b] t))) : x.world.cell? ⟨w.heap.size, 0, none⟩ = some (.bool a) ∧ x.world.cell? ⟨w.heap.size, 1, none⟩ = some (.bool b) :=
  ⟨Kin.at (by rw [World.cell?_alloc_at _ _ _ _ rfl]; rfl) x, Kin.at (by rw [World.cell?_alloc_at _ _ _ _ rfl]; rfl) x⟩

set_option maxHeartbeats 1000000 in
theorem walk2 (bit : Bool) (at' : Int) (t0 t1 : Bool) (w : World) (h0 : -9223372036854775808 ≤ at') (h1 : at' ≤ 9223372036854775807) :
    Calls Try.prog 3 #[.bool bit, .int .i64 at', .agg #[.bool t0, .bool t1]] w fun e w' => e = .returned (.bool true) ∧ Below w.heap.size w w' := by
  have k0 := fun x => (two_at w t0 t1 22 x).1
  have k1 := fun x => (two_at w t0 t1 22 x).2
  by_cases hn : at' < 0
  all_goals
    cases t0 <;> cases t1
    all_goals
      go_enter Try.func3, Try.ntmps3
      go_wp2_with (first | (go_at_call 11; refine (cell_neg _ _ hn).mono ?_; rintro e w' ⟨rfl, rfl⟩) | (go_at_call 11; refine (cell_pos _ _ (by omega) h1).mono ?_; rintro e w' ⟨rfl, rfl⟩) | (go_at_call 12; refine (of_any _ _ _).mono ?_; rintro e w' ⟨rfl, rfl⟩))
      refine wp_region_kin (by kernel_rfl) (by kernel_rfl) ?_
      repeat (go_big_quiet_step (first | (go_at_call 13; exact Calls.kin_same _ (level_any _ _ _)) | (go_at_call 14; exact Calls.kin_same _ (rlevel_any _ _ _)) | (go_at_call 15; exact Calls.kin_same _ (look_any _ _ _)) | (go_at_call 16; exact Calls.kin_same _ (rlook_any _ _ _)) | (go_at_call 17; exact Calls.kin _ (one_any _))))
      refine wpQuiet_nil ?_
      intro _ hw'
      obtain ⟨kx, hw''⟩ := hw'
      subst hw''
      go_wp2
      go_ret
      exact ⟨rfl, ((Below.refl _ _).alloc (Nat.le_refl _) _).trans (kx.below.mono (by simp))⟩

theorem arr2 {w : World} {cs : Array Value} (h : Reads w (.ar 2 .bool) cs.toList) : ∃ a b, cs = #[.bool a, .bool b] := by
  obtain ⟨rows, hl, e, hr⟩ := h
  match rows, hl with
  | [r0, r1], _ =>
    obtain ⟨a, rfl⟩ := hr r0 (by simp)
    obtain ⟨b, rfl⟩ := hr r1 (by simp)
    exact ⟨a, b, by cases cs; simpa using e⟩
theorem walk (bit : Bool) (at' : Int) (cs : Array Value) (w : World) (h0 : -9223372036854775808 ≤ at') (h1 : at' ≤ 9223372036854775807) (hr : Reads w (.ar 2 .bool) cs.toList) :
    Calls Try.prog 3 #[.bool bit, .int .i64 at', .agg cs] w fun e w' => e = .returned (.bool true) ∧ Below w.heap.size w w' := by
  obtain ⟨a, b, rfl⟩ := arr2 hr
  exact walk2 bit at' a b w h0 h1

set_option maxRecDepth 100000 in
theorem lifted (os : Os) (started : os.Started) (H : Type) (enc : TypeId × Value → H) :
    ReturnsInHanded {} Try.checked os 3 .any (Rows.cellLevelsSpec.pre6 enc Try.prog Try.f3 Rows.cellLevelsRow.domain false) (Rows.cellLevelsSpec.post enc Try.prog Try.f3 false true false false) := by
  refine returnsInHanded_of_change (C := Try.checked) own started (by kernel_rfl) Try.func3
    (ChangeSpec.witness6 (enc := enc) (C := Try.checked) false ⟨#[], #[.bool false, .int .i64 0, .agg #[.bool false, .bool false]], []⟩ 8 (by kernel_rfl) (by kernel_rfl) (by kernel_rfl) (by kernel_rfl)) ?_
  intro W base args ds gs before hval0 hW hcnd _
  have hval : ∀ (j : Nat) t v, Try.f3.params[j]? = some t → args[j]? = some v → Value.okWide Try.prog W .any base t v := hval0
  have hW' := hW
  obtain ⟨p, q, hA0, hV, rfl, hfz, hnd⟩ := hW
  have hA : DataW.TrodAll enc Try.prog W 0 (fun _ => true) true Try.f3.params.toList args.toList ds p := hA0
  rw [Try.params3] at hA hval
  obtain ⟨v0, vs0, d0, ds0, p0, q0, hargs, rfl, rfl, h0, r0⟩ := trodAll_cons hA
  obtain ⟨v1, vs1, d1, ds1, p1, q1, rfl, rfl, rfl, h1, r1⟩ := trodAll_cons r0
  obtain ⟨v2, vs2, d2, ds2, p2, q2, rfl, rfl, rfl, h2, r2⟩ := trodAll_cons r1
  obtain ⟨rfl, rfl, rfl⟩ := trodAll_nil r2
  obtain rfl : args = #[v0, v1, v2] := by cases args; simp_all
  obtain ⟨rfl, rfl⟩ := trodVars_none hV
  obtain ⟨bit, rfl, rfl, rfl⟩ := open_bool Try.underlying4 (hval 0 4 v0 rfl rfl) h0
  obtain ⟨at', rfl, rfl, rfl, wf1⟩ := open_int Try.underlying3 (hval 1 3 v1 rfl rfl) h1
  have bd1 := bounds_i64 wf1
  have k2 := h2
  have lt2 : ∀ x ∈ p2, x.block < W.heap.size := by obtain ⟨m, hm⟩ := k2; exact DataW.trod_lt m _ _ _ hm
  obtain ⟨two, rfl⟩ := okWide_agg (by first | exact .inl ⟨_, Try.underlying22⟩ | exact .inr ⟨_, _, Try.underlying22⟩) (hval 2 22 v2 rfl rfl)
  have rd2 := reads_cells (sh := .ar 2 .bool) 30 (by kernel_rfl) k2
  clear hA0 hval0
  refine (walk bit at' two W bd1.1 bd1.2 rd2).mono fun e W' ⟨he, bel⟩ => ?_
  subst he
  exact ⟨_, rfl, _, _, _, [], _, [], hW', trodAll_mk1 (shut_bool Try.underlying4 _), (trodAll_cons_mk (shut_bool Try.underlying4 bit) (trodAll_cons_mk (shut_int Try.underlying3 wf1) (trodAll_cons_mk (Below.trod laidOut (by kernel_rfl) (of_decide_eq_true (by kernel_rfl)) k2 bel lt2) trodAll_mk0))), rfl, bel.frame _, fun h => by cases h⟩

theorem over : Rows.cellLevelsRow.holds Try.pinned (OpenSpec.ofChange Rows.cellLevelsSpec) :=
  OpenClaim.holds_of_wide 3 Try.f3 rfl rfl rfl rfl rfl rfl rfl ⟨rfl, rfl, rfl, rfl, rfl⟩ rfl rfl rfl rfl rfl (by kernel_rfl) Try.func3 (by kernel_rfl)
    (of_decide_eq_true (by kernel_rfl)) (by unfold Func.isWrapper; first | (rw [if_pos (by decide +kernel)]; kernel_rfl) | (rw [if_neg (by decide +kernel)]; exact ⟨rfl, rfl⟩))
    (fun os started H enc _ => lifted os started H enc)

/-- The statement. -/
theorem proved : Rows.CellLevelsSaid := over
end Go.Proofs.Ytoafjbdfdamlfaa.lawCellLevels
