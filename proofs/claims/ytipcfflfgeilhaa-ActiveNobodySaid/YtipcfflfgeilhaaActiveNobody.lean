/- A watch that nobody made sees nothing: for every place and all lines; no condition. -/
import Derived.Test.YtipcfflfgeilhaaActA
import Derived.Test.YtipcfflfgeilhaaSh
import Derived.Test.YtipcfflfgeilhaaRows
import Derived.WalkKit
import Derived.ProofKit
import Derived.OpenShut
import Derived.ShutString
import Derived.ChangeOld
import Derived.Below
namespace Go.Proofs.Ytipcfflfgeilhaa.lawActiveNobody
open Go.ChangeShapes Go.WideShapes Go.ChangeAt Go.RowKit Base
open Go.ChangeMaps (open_string shut_string)
set_option linter.unusedVariables false
set_option linter.unusedSimpArgs false
theorem own : ownKnob Try.prog.godebug = none := by kernel_rfl
theorem laidOut : laidOutB Try.prog = true := by kernel_rfl
open Ly17

set_option maxRecDepth 100000 in
set_option maxHeartbeats 1000000 in
theorem walk (p l : Int) (w : World) (h0 : -9223372036854775808 ≤ p) (h1 : p ≤ 9223372036854775807) (l0 : 0 ≤ l) (l1 : l ≤ 255) :
    Calls Try.prog 8 #[.int .i64 p, .int .u8 l] w fun e w' => e = .returned (.bool true) ∧ Below w.heap.size w w' := by
  have HN : Hid (∀ W : World, Nob W (.pointer none)) := fun W => .inl rfl
  have HZ : Hid (Nob (w.alloc (.cells #[.int .i64 0, .int .i64 0] 54)) (.pointer (some ⟨w.heap.size, 0, none⟩))) := .inr ⟨_, rfl, Obj1.new _ _ _⟩
  go_enter Try.func8, Try.ntmps8
  go_wp2
  refine wp_loop_rounds 3 ?_
  rw [rounds_succ]
  go_wp2_with (first | (go_at_call 23; refine (see_nob _ _ _ _ HZ.out).mono ?_; rintro e w' ⟨rfl, rfl⟩) | (go_at_call 24; refine (first_nob _ _ HZ.out).mono ?_; rintro e w' ⟨rfl, rfl⟩) | (go_at_call 25; refine (cand_nob _ _ HZ.out).mono ?_; rintro e w' ⟨rfl, rfl⟩) | (go_at_call 26; refine (clear_nob _ _ HZ.out).mono ?_; rintro e w' ⟨rfl, rfl⟩))
  rw [rounds_succ]
  go_wp2_with (first | (go_at_call 23; refine (see_nob _ _ _ _ (HN.out _)).mono ?_; rintro e w' ⟨rfl, rfl⟩) | (go_at_call 24; refine (first_nob _ _ (HN.out _)).mono ?_; rintro e w' ⟨rfl, rfl⟩) | (go_at_call 25; refine (cand_nob _ _ (HN.out _)).mono ?_; rintro e w' ⟨rfl, rfl⟩) | (go_at_call 26; refine (clear_nob _ _ (HN.out _)).mono ?_; rintro e w' ⟨rfl, rfl⟩))
  rw [rounds_succ]
  go_wp2_with fail
  refine (dec_gap _).mono ?_
  rintro e w1 ⟨rfl, hb1⟩
  go_wp2_with fail
  refine (one_any _).mono ?_
  rintro e w2 ⟨rfl, hb2⟩
  go_wp2
  go_ret
  refine ⟨rfl, ?_⟩
  repeat (first | exact Below.refl _ _ | refine Below.setCell ?_ (by first | omega | (simp; done) | (simp; omega) | (have := hb2.size; simp at this ⊢; omega) | (have := hb1.size; simp at this ⊢; omega) | (have := hb2.size; have := hb1.size; simp at *; omega)) _ | refine Below.alloc ?_ (by first | omega | (simp; done) | (simp; omega) | (have := hb2.size; simp at this ⊢; omega) | (have := hb1.size; simp at this ⊢; omega) | (have := hb2.size; have := hb1.size; simp at *; omega)) _ | refine below_drewN' ?_ _ | refine Below.drew ?_ | refine Below.trans ?_ (hb2.mono (by first | omega | (simp; done) | (simp; omega) | (have := hb2.size; simp at this ⊢; omega) | (have := hb1.size; simp at this ⊢; omega) | (have := hb2.size; have := hb1.size; simp at *; omega))) | refine Below.trans ?_ (hb1.mono (by first | omega | (simp; done) | (simp; omega) | (have := hb2.size; simp at this ⊢; omega) | (have := hb1.size; simp at this ⊢; omega) | (have := hb2.size; have := hb1.size; simp at *; omega))))

set_option maxRecDepth 100000 in
theorem lifted (os : Os) (started : os.Started) (H : Type) (enc : TypeId × Value → H) :
    ReturnsInHanded {} Try.checked os 8 .any (Rows.activeNobodySpec.pre6 enc Try.prog Try.f8 Rows.activeNobodyRow.domain false) (Rows.activeNobodySpec.post enc Try.prog Try.f8 false true false false) := by
  refine returnsInHanded_of_change (C := Try.checked) own started (by kernel_rfl) Try.func8
    (ChangeSpec.witness6 (enc := enc) (C := Try.checked) false ⟨#[], #[.int .i64 0, .int .u8 0], []⟩ 8 (by kernel_rfl) (by kernel_rfl) (by kernel_rfl) (by kernel_rfl)) ?_
  intro W base args ds gs before hval0 hW hcnd _
  have hval : ∀ (j : Nat) t v, Try.f8.params[j]? = some t → args[j]? = some v → Value.okWide Try.prog W .any base t v := hval0
  have hW' := hW
  obtain ⟨p, q, hA0, hV, rfl, hfz, hnd⟩ := hW
  have hA : DataW.TrodAll enc Try.prog W 0 (fun _ => true) true Try.f8.params.toList args.toList ds p := hA0
  rw [Try.params8] at hA hval
  obtain ⟨v0, vs0, d0, ds0, p0, q0, hargs, rfl, rfl, h0, r0⟩ := trodAll_cons hA
  obtain ⟨v1, vs1, d1, ds1, p1, q1, rfl, rfl, rfl, h1, r1⟩ := trodAll_cons r0
  obtain ⟨rfl, rfl, rfl⟩ := trodAll_nil r1
  obtain rfl : args = #[v0, v1] := by cases args; simp_all
  obtain ⟨rfl, rfl⟩ := trodVars_none hV
  obtain ⟨p, rfl, rfl, rfl, wf0⟩ := open_int Try.underlying3 (hval 0 3 v0 rfl rfl) h0
  have bd0 := bounds_i64 wf0
  obtain ⟨l, rfl, rfl, rfl, wf1⟩ := open_int Try.underlying51 (hval 1 51 v1 rfl rfl) h1
  have bd1 := bounds_u8 wf1
  clear hA0 hval0
  refine (walk p l W bd0.1 bd0.2 bd1.1 bd1.2).mono fun e W' ⟨he, bel⟩ => ?_
  subst he
  exact ⟨_, rfl, _, _, _, [], _, [], hW', trodAll_mk1 (shut_bool Try.underlying4 _), (trodAll_cons_mk (shut_int Try.underlying3 wf0) (trodAll_cons_mk (shut_int Try.underlying51 wf1) trodAll_mk0)), rfl, bel.frame _, fun h => by cases h⟩

theorem over : Rows.activeNobodyRow.holds Try.pinned (OpenSpec.ofChange Rows.activeNobodySpec) :=
  OpenClaim.holds_of_wide 8 Try.f8 rfl rfl rfl rfl rfl rfl rfl ⟨rfl, rfl, rfl, rfl, rfl⟩ rfl rfl rfl rfl rfl (by kernel_rfl) Try.func8 (by kernel_rfl)
    (of_decide_eq_true (by kernel_rfl)) (by unfold Func.isWrapper; first | (rw [if_pos (by decide +kernel)]; kernel_rfl) | (rw [if_neg (by decide +kernel)]; exact ⟨rfl, rfl⟩))
    (fun os started H enc _ => lifted os started H enc)

/-- The statement. -/
theorem proved : Rows.ActiveNobodySaid := over
end Go.Proofs.Ytipcfflfgeilhaa.lawActiveNobody
