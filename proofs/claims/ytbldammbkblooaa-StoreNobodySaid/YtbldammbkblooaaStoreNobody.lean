/- A store that nobody made keeps nothing: for every act, whatever words come; no condition. -/
import Derived.Test.YtbldammbkblooaaEvL
import Derived.Test.YtbldammbkblooaaSh
import Derived.Test.YtbldammbkblooaaRows
import Derived.WalkKit
import Derived.ProofKit
import Derived.OpenShut
import Derived.ShutString
import Derived.ChangeOld
import Derived.Below
namespace Go.Proofs.Ytbldammbkblooaa.lawStoreNobody
open Go.ChangeShapes Go.WideShapes Go.ChangeAt Go.RowKit Base
open Go.ChangeMaps (open_string shut_string)
set_option linter.unusedVariables false
set_option linter.unusedSimpArgs false
theorem own : ownKnob Try.prog.godebug = none := by kernel_rfl
theorem laidOut : laidOutB Try.prog = true := by kernel_rfl
open Ev

theorem named : Named Try.prog := by unfold Named; kernel_rfl
theorem mixed : Try.prog.follows .mixedOrders = true := by kernel_rfl
set_option maxRecDepth 1000000 in
theorem run_few : runW Try.prog 100000 4 5 [.len 3 (nmd 4), .bin .gtr (nmd 4) (.int .i64 200) (.bool false)] [.agg #[nmd 0, nmd 1, nmd 2, nmd 3]] = some (.bool true) := by kernel_rfl
set_option maxRecDepth 1000000 in
theorem run_many : runW Try.prog 100000 4 5 [.len 3 (nmd 4), .bin .gtr (nmd 4) (.int .i64 200) (.bool true)] [.agg #[nmd 0, nmd 1, nmd 2, nmd 3]] = some (.bool true) := by kernel_rfl
theorem ins (k a mn : Int) (A : Option Addr) (n c : Nat) : VRels (dN [.int .i64 k, .int .i64 a, .int .i64 mn, .slice A n c, .int .i64 n]) (mN [.int .i64 k, .int .i64 a, .int .i64 mn, .slice A n c, .int .i64 n])
    [.agg #[nmd 0, nmd 1, nmd 2, nmd 3]] [.agg #[.int .i64 k, .int .i64 a, .int .i64 mn, .slice A n c]] :=
  .cons _ _ _ _ (.ag _ _ (.cons _ _ _ _ (nmd_rel rfl rfl) (.cons _ _ _ _ (nmd_rel rfl rfl) (.cons _ _ _ _ (nmd_rel rfl rfl) (.cons _ _ _ _ (nmd_rel rfl rfl) .nil))))) .nil
theorem go (k a mn : Int) (A : Option Addr) (n c : Nat) (w : World) : Calls Try.prog 4 #[.agg #[.int .i64 k, .int .i64 a, .int .i64 mn, .slice A n c]] w fun e w' => e = .returned (.bool true) ∧ Below w.heap.size w w' := by
  by_cases h : n ≤ 200
  · refine runW_ok (vs := [.int .i64 k, .int .i64 a, .int .i64 mn, .slice A n c, .int .i64 n]) named mixed run_few (fun e he => ?_) (ins k a mn A n c) w
    rcases List.mem_cons.1 he with rfl | he
    · exact ent_len rfl rfl
    · rcases List.mem_cons.1 he with rfl | he
      · exact ent_cmp rfl (run_gtr (by simp; omega))
      · cases he
  · refine runW_ok (vs := [.int .i64 k, .int .i64 a, .int .i64 mn, .slice A n c, .int .i64 n]) named mixed run_many (fun e he => ?_) (ins k a mn A n c) w
    rcases List.mem_cons.1 he with rfl | he
    · exact ent_len rfl rfl
    · rcases List.mem_cons.1 he with rfl | he
      · exact ent_cmp rfl (run_gtr (by simp; omega))
      · cases he
abbrev shA : Sh := .fld (.int .i64) (.fld (.int .i64) (.fld (.int .i64) (.fld (.sl (.int .u8)) .nil)))
theorem walk (x : Array Value) (w : World) (rd : Reads w shA x.toList) : Calls Try.prog 4 #[.agg x] w fun e w' => e = .returned (.bool true) ∧ Below w.heap.size w w' := by
  obtain ⟨_, _, e, ⟨k, rfl, _⟩, _, _, rfl, ⟨a, rfl, _⟩, _, _, rfl, ⟨mn, rfl, _⟩, _, _, rfl, ⟨A, n, c, _, rfl, _⟩, rfl⟩ := rd
  obtain ⟨xs⟩ := x
  simp at e
  subst e
  exact go k a mn A n c w

set_option maxRecDepth 100000 in
theorem lifted (os : Os) (started : os.Started) (H : Type) (enc : TypeId × Value → H) :
    ReturnsInHanded {} Try.checked os 4 .any (Rows.storeNobodySpec.pre6 enc Try.prog Try.f4 Rows.storeNobodyRow.domain false) (Rows.storeNobodySpec.post enc Try.prog Try.f4 false true false false) := by
  refine returnsInHanded_of_change (C := Try.checked) own started (by kernel_rfl) Try.func4
    (ChangeSpec.witness6 (enc := enc) (C := Try.checked) false ⟨#[], #[.agg #[.int .i64 0, .int .i64 0, .int .i64 0, .slice none 0 0]], []⟩ 8 (by kernel_rfl) (by kernel_rfl) (by kernel_rfl) (by kernel_rfl)) ?_
  intro W base args ds gs before hval0 hW hcnd _
  have hval : ∀ (j : Nat) t v, Try.f4.params[j]? = some t → args[j]? = some v → Value.okWide Try.prog W .any base t v := hval0
  have hW' := hW
  obtain ⟨p, q, hA0, hV, rfl, hfz, hnd⟩ := hW
  have hA : DataW.TrodAll enc Try.prog W 0 (fun _ => true) true Try.f4.params.toList args.toList ds p := hA0
  rw [Try.params4] at hA hval
  obtain ⟨v0, vs0, d0, ds0, p0, q0, hargs, rfl, rfl, h0, r0⟩ := trodAll_cons hA
  obtain ⟨rfl, rfl, rfl⟩ := trodAll_nil r0
  obtain rfl : args = #[v0] := by cases args; simp_all
  obtain ⟨rfl, rfl⟩ := trodVars_none hV
  have k0 := h0
  have lt0 : ∀ x ∈ p0, x.block < W.heap.size := by obtain ⟨m, hm⟩ := k0; exact DataW.trod_lt m _ _ _ hm
  obtain ⟨x, rfl⟩ := okWide_agg (by first | exact .inl ⟨_, Try.underlying32⟩ | exact .inr ⟨_, _, Try.underlying32⟩) (hval 0 32 v0 rfl rfl)
  have rd0 := reads_cells (sh := shA) 30 (by kernel_rfl) k0
  clear hA0 hval0
  refine (walk x W rd0).mono fun e W' ⟨he, bel⟩ => ?_
  subst he
  exact ⟨_, rfl, _, _, _, [], _, [], hW', trodAll_mk1 (shut_bool Try.underlying4 _), (trodAll_cons_mk (Below.trod laidOut (by kernel_rfl) (of_decide_eq_true (by kernel_rfl)) k0 bel lt0) trodAll_mk0), rfl, bel.frame _, fun h => by cases h⟩

theorem over : Rows.storeNobodyRow.holds Try.pinned (OpenSpec.ofChange Rows.storeNobodySpec) :=
  OpenClaim.holds_of_wide 4 Try.f4 rfl rfl rfl rfl rfl rfl rfl ⟨rfl, rfl, rfl, rfl, rfl⟩ rfl rfl rfl rfl rfl (by kernel_rfl) Try.func4 (by kernel_rfl)
    (of_decide_eq_true (by kernel_rfl)) (by unfold Func.isWrapper; first | (rw [if_pos (by decide +kernel)]; kernel_rfl) | (rw [if_neg (by decide +kernel)]; exact ⟨rfl, rfl⟩))
    (fun os started H enc _ => lifted os started H enc)

/-- The statement. -/
theorem proved : Rows.StoreNobodySaid := over
end Go.Proofs.Ytbldammbkblooaa.lawStoreNobody
