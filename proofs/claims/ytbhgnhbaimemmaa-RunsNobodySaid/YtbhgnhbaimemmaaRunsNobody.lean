/- Runs that nobody made have no runs: for all lines that are seen and each line that is asked; no condition. -/
import Derived.Test.YtbhgnhbaimemmaaRunC
import Derived.Test.YtbhgnhbaimemmaaSh
import Derived.Test.YtbhgnhbaimemmaaRows
import Derived.WalkKit
import Derived.ProofKit
import Derived.OpenShut
import Derived.ShutString
import Derived.ChangeOld
import Derived.Below
namespace Go.Proofs.Ytbhgnhbaimemmaa.lawRunsNobody
open Go.ChangeShapes Go.WideShapes Go.ChangeAt Go.RowKit Base
open Go.ChangeMaps (open_string shut_string)
set_option linter.unusedVariables false
set_option linter.unusedSimpArgs false
theorem own : ownKnob Try.prog.godebug = none := by kernel_rfl
theorem laidOut : laidOutB Try.prog = true := by kernel_rfl
open Ly6

/-- Runs that nobody made. -/
def Nob (w : World) (v : Value) : Prop := v = .pointer none ∨ ∃ g, v = .pointer (some ⟨g, 0, none⟩) ∧ Rn w g false 0 0 0 0 0 0 0
theorem see_nob (v : Value) (l : Int) (w : World) (h : Nob w v) : Calls Try.prog 37 #[v, .int .u8 l] w fun e w' => e = .returned (.tuple #[]) ∧ w = w' := by
  rcases h with rfl | ⟨g, rfl, h⟩
  · go_enter Try.func37, Try.ntmps37
    go_wp2
    refine bodyPost_ret (results_none rfl _ _ _) rfl ?_
    exact ⟨rfl, rfl⟩
  · have c0 : w.cell? ⟨g, 0, none⟩ = some (.bool false) := h.cell 0
    clear h
    go_enter Try.func37, Try.ntmps37
    go_wp2
    refine bodyPost_ret (results_none rfl _ _ _) rfl ?_
    exact ⟨rfl, rfl⟩
theorem run_nob (v : Value) (w : World) (h : Nob w v) : Calls Try.prog 39 #[v] w fun e w' => e = .returned (.int .i64 0) ∧ w = w' := by
  rcases h with rfl | ⟨g, rfl, h⟩
  · go_enter Try.func39, Try.ntmps39
    go_wp2
    go_ret
    exact ⟨rfl, rfl⟩
  · exact run_any _ _ _ _ _ _ _ _ _ _ h
theorem fell_nob (v : Value) (w : World) (h : Nob w v) : Calls Try.prog 41 #[v] w fun e w' => e = .returned (.int .i64 0) ∧ w = w' := by
  rcases h with rfl | ⟨g, rfl, h⟩
  · go_enter Try.func41, Try.ntmps41
    go_wp2
    go_ret
    exact ⟨rfl, rfl⟩
  · exact fell_any _ _ _ _ _ _ _ _ _ _ h
theorem of_nob (v : Value) (k : Int) (w : World) (h : Nob w v) : Calls Try.prog 43 #[v, .int .i64 k] w fun e w' => e = .returned (.int .i64 0) ∧ w = w' := by
  rcases h with rfl | ⟨g, rfl, h⟩
  · go_enter Try.func43, Try.ntmps43
    go_wp2
    go_ret
    exact ⟨rfl, rfl⟩
  · have := of_any _ _ _ _ _ _ _ _ _ k _ h
    rwa [show ofF 0 0 0 0 k = 0 by unfold ofF; simp] at this
theorem same_cell {w : World} {g i : Nat} {T : TypeId} {cs : Array Value} {v : Value} (h : Obj1 w g T cs) (hv : cs[i]? = some v) : w.setCell ⟨g, i, none⟩ v = w := by
  have e : cs.setIfInBounds i v = cs := by
    apply Array.ext_getElem?
    intro j
    rw [Array.getElem?_setIfInBounds]
    split
    · next hij => subst hij; rw [hv]; split; rfl; next hh => rw [Array.getElem?_eq_none (by omega)] at hv; cases hv
    · rfl
  obtain ⟨heap, rest⟩ := w
  unfold Obj1 at h
  simp only [World.setCell] at h ⊢
  congr 1
  apply Array.ext_getElem?
  intro j
  rw [Array.getElem?_modify]
  split
  · next hij => subst hij; rw [h]; simp [e]
  · rfl
theorem since_nob (v : Value) (w : World) (h : Nob w v) : Calls Try.prog 44 #[v] w fun e w' => e = .returned (.int .i64 0) ∧ w = w' := by
  rcases h with rfl | ⟨g, rfl, h⟩
  · go_enter Try.func44, Try.ntmps44
    go_wp2
    go_ret
    exact ⟨rfl, rfl⟩
  · have c7 : w.cell? ⟨g, 7, none⟩ = some (.int .i64 0) := h.cell 7
    have f7 := h.free 7
    have HS := Lib.hid (same_cell (i := 7) (v := .int .i64 0) h rfl)
    clear h
    go_enter Try.func44, Try.ntmps44
    go_wp2
    go_ret
    exact ⟨rfl, HS.out.symm⟩
theorem rose_nob (v : Value) (w : World) (h : Nob w v) : Calls Try.prog 40 #[v] w fun e w' => e = .returned (.bool false) ∧ Below w.heap.size w w' := by
  rcases h with rfl | ⟨g, rfl, h⟩
  · go_enter Try.func40, Try.ntmps40
    go_wp2
    go_ret
    refine ⟨rfl, ?_⟩
    repeat (first | exact Below.refl _ _ | refine Below.setCell ?_ (by first | omega | (simp; done) | (simp; omega)) _ | refine Below.alloc ?_ (by first | omega | (simp; done) | (simp; omega)) _ | refine below_drewN' ?_ _ | refine Below.drew ?_)
  · exact rose_any _ _ _ _ _ _ _ _ _ _ h

set_option maxRecDepth 100000 in
set_option maxHeartbeats 1000000 in
theorem walk (l line : Int) (w : World) (l0 : 0 ≤ l) (l1 : l ≤ 255) (h0 : -9223372036854775808 ≤ line) (h1 : line ≤ 9223372036854775807) :
    Calls Try.prog 12 #[.int .u8 l, .int .i64 line] w fun e w' => e = .returned (.bool true) ∧ Below w.heap.size w w' := by
  have HN : Hid (∀ W : World, Nob W (.pointer none)) := fun W => .inl rfl
  have HZ : Hid (Nob (w.alloc (.cells (rc false 0 0 0 0 0 0 0) 70)) (.pointer (some ⟨w.heap.size, 0, none⟩))) := .inr ⟨_, rfl, Obj1.new _ _ _⟩
  go_enter Try.func12, Try.ntmps12
  go_wp2
  refine wp_loop_rounds 3 ?_
  rw [rounds_succ]
  go_wp2_with (first | (go_at_call 37; refine (see_nob _ _ _ HZ.out).mono ?_; rintro e w' ⟨rfl, rfl⟩) | (go_at_call 39; refine (run_nob _ _ HZ.out).mono ?_; rintro e w' ⟨rfl, rfl⟩) | (go_at_call 41; refine (fell_nob _ _ HZ.out).mono ?_; rintro e w' ⟨rfl, rfl⟩) | (go_at_call 43; refine (of_nob _ _ _ HZ.out).mono ?_; rintro e w' ⟨rfl, rfl⟩) | (go_at_call 44; refine (since_nob _ _ HZ.out).mono ?_; rintro e w' ⟨rfl, rfl⟩) | (go_at_call 40; refine (rose_nob _ _ HZ.out).mono ?_; rintro e w1 ⟨rfl, hb1⟩))
  rw [rounds_succ]
  go_wp2_with (first | (go_at_call 37; refine (see_nob _ _ _ (HN.out _)).mono ?_; rintro e w' ⟨rfl, rfl⟩) | (go_at_call 39; refine (run_nob _ _ (HN.out _)).mono ?_; rintro e w' ⟨rfl, rfl⟩) | (go_at_call 41; refine (fell_nob _ _ (HN.out _)).mono ?_; rintro e w' ⟨rfl, rfl⟩) | (go_at_call 43; refine (of_nob _ _ _ (HN.out _)).mono ?_; rintro e w' ⟨rfl, rfl⟩) | (go_at_call 44; refine (since_nob _ _ (HN.out _)).mono ?_; rintro e w' ⟨rfl, rfl⟩) | (go_at_call 40; refine (rose_nob _ _ (HN.out _)).mono ?_; rintro e w2 ⟨rfl, hb2⟩))
  rw [rounds_succ]
  go_wp2_with (go_at_call 45; refine (one_any _).mono ?_; rintro e w3 ⟨rfl, hb3⟩)
  go_ret
  refine ⟨rfl, ?_⟩
  repeat (first | exact Below.refl _ _ | refine Below.setCell ?_ (by first | omega | (simp; done) | (simp; omega) | (have := hb3.size; simp at this ⊢; omega) | (have := hb2.size; simp at this ⊢; omega) | (have := hb1.size; simp at this ⊢; omega) | (have := hb3.size; have := hb2.size; have := hb1.size; simp at *; omega)) _ | refine Below.alloc ?_ (by first | omega | (simp; done) | (simp; omega) | (have := hb3.size; simp at this ⊢; omega) | (have := hb2.size; simp at this ⊢; omega) | (have := hb1.size; simp at this ⊢; omega) | (have := hb3.size; have := hb2.size; have := hb1.size; simp at *; omega)) _ | refine below_drewN' ?_ _ | refine Below.drew ?_ | refine Below.trans ?_ (hb3.mono (by first | omega | (simp; done) | (simp; omega) | (have := hb3.size; simp at this ⊢; omega) | (have := hb2.size; simp at this ⊢; omega) | (have := hb1.size; simp at this ⊢; omega) | (have := hb3.size; have := hb2.size; have := hb1.size; simp at *; omega))) | refine Below.trans ?_ (hb2.mono (by first | omega | (simp; done) | (simp; omega) | (have := hb3.size; simp at this ⊢; omega) | (have := hb2.size; simp at this ⊢; omega) | (have := hb1.size; simp at this ⊢; omega) | (have := hb3.size; have := hb2.size; have := hb1.size; simp at *; omega))) | refine Below.trans ?_ (hb1.mono (by first | omega | (simp; done) | (simp; omega) | (have := hb3.size; simp at this ⊢; omega) | (have := hb2.size; simp at this ⊢; omega) | (have := hb1.size; simp at this ⊢; omega) | (have := hb3.size; have := hb2.size; have := hb1.size; simp at *; omega))))

set_option maxRecDepth 100000 in
theorem lifted (os : Os) (started : os.Started) (H : Type) (enc : TypeId × Value → H) :
    ReturnsInHanded {} Try.checked os 12 .any (Rows.runsNobodySpec.pre6 enc Try.prog Try.f12 Rows.runsNobodyRow.domain false) (Rows.runsNobodySpec.post enc Try.prog Try.f12 false true false false) := by
  refine returnsInHanded_of_change (C := Try.checked) own started (by kernel_rfl) Try.func12
    (ChangeSpec.witness6 (enc := enc) (C := Try.checked) false ⟨#[], #[.int .u8 0, .int .i64 0], []⟩ 8 (by kernel_rfl) (by kernel_rfl) (by kernel_rfl) (by kernel_rfl)) ?_
  intro W base args ds gs before hval0 hW hcnd _
  have hval : ∀ (j : Nat) t v, Try.f12.params[j]? = some t → args[j]? = some v → Value.okWide Try.prog W .any base t v := hval0
  have hW' := hW
  obtain ⟨p, q, hA0, hV, rfl, hfz, hnd⟩ := hW
  have hA : DataW.TrodAll enc Try.prog W 0 (fun _ => true) true Try.f12.params.toList args.toList ds p := hA0
  rw [Try.params12] at hA hval
  obtain ⟨v0, vs0, d0, ds0, p0, q0, hargs, rfl, rfl, h0, r0⟩ := trodAll_cons hA
  obtain ⟨v1, vs1, d1, ds1, p1, q1, rfl, rfl, rfl, h1, r1⟩ := trodAll_cons r0
  obtain ⟨rfl, rfl, rfl⟩ := trodAll_nil r1
  obtain rfl : args = #[v0, v1] := by cases args; simp_all
  obtain ⟨rfl, rfl⟩ := trodVars_none hV
  obtain ⟨l, rfl, rfl, rfl, wf0⟩ := open_int Try.underlying29 (hval 0 29 v0 rfl rfl) h0
  have bd0 := bounds_u8 wf0
  obtain ⟨line, rfl, rfl, rfl, wf1⟩ := open_int Try.underlying3 (hval 1 3 v1 rfl rfl) h1
  have bd1 := bounds_i64 wf1
  clear hA0 hval0
  refine (walk l line W bd0.1 bd0.2 bd1.1 bd1.2).mono fun e W' ⟨he, bel⟩ => ?_
  subst he
  exact ⟨_, rfl, _, _, _, [], _, [], hW', trodAll_mk1 (shut_bool Try.underlying4 _), (trodAll_cons_mk (shut_int Try.underlying29 wf0) (trodAll_cons_mk (shut_int Try.underlying3 wf1) trodAll_mk0)), rfl, bel.frame _, fun h => by cases h⟩

theorem over : Rows.runsNobodyRow.holds Try.pinned (OpenSpec.ofChange Rows.runsNobodySpec) :=
  OpenClaim.holds_of_wide 12 Try.f12 rfl rfl rfl rfl rfl rfl rfl ⟨rfl, rfl, rfl, rfl, rfl⟩ rfl rfl rfl rfl rfl (by kernel_rfl) Try.func12 (by kernel_rfl)
    (of_decide_eq_true (by kernel_rfl)) (by unfold Func.isWrapper; first | (rw [if_pos (by decide +kernel)]; kernel_rfl) | (rw [if_neg (by decide +kernel)]; exact ⟨rfl, rfl⟩))
    (fun os started H enc _ => lifted os started H enc)

/-- The statement. -/
theorem proved : Rows.RunsNobodySaid := over
end Go.Proofs.Ytbhgnhbaimemmaa.lawRunsNobody
