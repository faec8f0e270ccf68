/- Any command may be, and has the document's bytes, or none; and is as it says without what does not count: for every command; no condition. -/
import Derived.Deep.DeepCutAuto
import Derived.Deep.CutBlock
import Derived.RegionTactic
import Derived.Laws.BytesString
import Derived.Test.YthnopcoahcdjjaaCmdM
import Derived.Test.YthnopcoahcdjjaaCmdP
import Derived.Test.YthnopcoahcdjjaaPush
import Derived.Test.YthnopcoahcdjjaaSh
import Derived.Test.YthnopcoahcdjjaaRows
import Derived.WalkKit
import Derived.ProofKit
import Derived.OpenShut
import Derived.ShutString
import Derived.ChangeOld
import Derived.Below
namespace Go.Proofs.Ythnopcoahcdjjaa.lawCmdPuts
open Go.ChangeShapes Go.WideShapes Go.ChangeAt Go.RowKit Base
open Go.ChangeMaps (open_string shut_string)
set_option linter.unusedVariables false
set_option linter.unusedSimpArgs false
theorem own : ownKnob Try.prog.godebug = none := by kernel_rfl
theorem laidOut : laidOutB Try.prog = true := by kernel_rfl
open Ly9

theorem kclean (o a s c m b t x1 x2 x3 x4 x5 x6 : Int) (hw : CL o a s c m b t = cv o x1 x2 x3 x4 x5 x6) (t0 : -9223372036854775808 ≤ t) (t1 : t ≤ 9223372036854775807) (w : World) :
    Calls Try.prog 19 #[cv o a s c m b t] w fun e w' => e = .returned (cv o x1 x2 x3 x4 x5 x6) ∧ Below w.heap.size w w' := by
  have := clean_gen o a s c m b t w t0 t1
  rwa [CL_eq, hw] at this
theorem krclean (o a s c m b t x1 x2 x3 x4 x5 x6 : Int) (hw : CL o a s c m b t = cv o x1 x2 x3 x4 x5 x6) (w : World) :
    Calls Try.prog 20 #[cv o a s c m b t] w fun e w' => e = .returned (cv o x1 x2 x3 x4 x5 x6) ∧ Below w.heap.size w w' := by
  have := rclean_any o a s c m b t w
  rwa [hw] at this
set_option maxRecDepth 100000 in
set_option maxHeartbeats 8000000 in
theorem walk_yes (o a s c m b t x1 x2 x3 x4 x5 x6 : Int) (w : World) (hr : RP o a s c m b t) (bs : -9223372036854775808 ≤ s ∧ s ≤ 9223372036854775807) (t0 : -9223372036854775808 ≤ t) (t1 : t ≤ 9223372036854775807) (hw : CL o a s c m b t = cv o x1 x2 x3 x4 x5 x6) :
    Calls Try.prog 3 #[cv o a s c m b t] w fun e w' => e = .returned (.bool true) ∧ Below w.heap.size w w' := by
  have HB := Lib.hid (show Below w.heap.size w (w.alloc (.cells (c7 o a s c m b t) TC)) from (Below.refl _ _).alloc (Nat.le_refl _) _)
  have HO := Lib.hid (Obj1.new w TC (c7 o a s c m b t))
  obtain ⟨gc, HGC⟩ : ∃ gc, Hid (w.heap.size = gc) := ⟨_, Lib.hid rfl⟩
  rw [HGC.out] at HO
  have HR := Lib.hid hr
  have A1 := Lib.hid (kclean o a s c m b t x1 x2 x3 x4 x5 x6 hw t0 t1)
  have A2 := Lib.hid (krclean o a s c m b t x1 x2 x3 x4 x5 x6 hw)
  clear hr hw
  go_enter Try.func3, Try.ntmps3
  go_wp2_with fail
  rw [HGC.out]
  generalize w.alloc (.cells #[.int .i64 o, .int .i64 a, .int .i64 s, .int .i64 c, .int .i64 m, .int .i64 b, .int .i64 t] TC) = W at HB HO ⊢
  refine (own_any o a s c m b t W).mono ?_
  rintro e w1 ⟨rfl, hb1⟩
  have HB1 := Lib.hid (HB.out.trans (hb1.mono HB.out.size))
  have HB2 := Lib.hid (HB1.out.alloc HB1.out.size (.cells (c7 o a s c m b t) TR))
  have HO2 := Lib.hid ((HO.out.kept hb1).alloc (.cells (c7 o a s c m b t) TR))
  have HR2 := Lib.hid (Obj1.new w1 TR (c7 o a s c m b t))
  obtain ⟨g1, HG1⟩ : ∃ g1, Hid (w1.heap.size = g1) := ⟨_, Lib.hid rfl⟩
  rw [HG1.out] at HR2
  have HO1 := Lib.hid (HO.out.kept hb1)
  obtain ⟨d0, d1, d2, d3, d4, d5, d6⟩ := cells7 HO1.out
  obtain ⟨e0, e1, e2, e3, e4, e5, e6⟩ := cells7 HO2.out
  clear hb1 HB HO
  go_wp2_with fail
  rw [HG1.out]
  generalize w1.alloc (.cells #[.int .i64 o, .int .i64 a, .int .i64 s, .int .i64 c, .int .i64 m, .int .i64 b, .int .i64 t] TR) = W2 at HB2 HO2 HR2 ⊢
  clear d0 d1 d2 d3 d4 d5 d6 e0 e1 e2 e3 e4 e5 e6 HO1 HB1
  refine (put_ok o a s c m b t W2 HR.out bs).mono ?_
  rintro e w3 ⟨X, nx, cx, rfl, hnx, hcx, hcm, HLX, HB3⟩
  have hnx0 : 0 < nx := by rw [hnx]; simp [putB]
  have HNX := Lib.hid hnx0
  clear hnx hnx0
  have HO3 := Lib.hid (HO2.out.kept HB3.out)
  have HR3 := Lib.hid (HR2.out.kept HB3.out)
  have HBE3 := Lib.hid (HB2.out.trans (HB3.out.mono HB2.out.size))
  clear HO2 HR2 HB2
  obtain ⟨d0, d1, d2, d3, d4, d5, d6⟩ := cells7r HR3.out
  go_wp2_with fail
  refine (rright_yes o a s c m b t w3 HR.out).mono ?_
  rintro e w4 ⟨rfl, hb4⟩
  clear d0 d1 d2 d3 d4 d5 d6
  have HBE4 := Lib.hid (HBE3.out.trans (hb4.mono HBE3.out.size))
  obtain ⟨S, HS⟩ : ∃ S, Hid (bytesS (putB o a s c m b t) = S) := ⟨_, Lib.hid rfl⟩
  have C1 : ∀ x : Kin w4, (convert 26 9 (.slice X nx cx)).run Try.prog x.world = .ok (.string S) x.world := fun x => by
    rw [convS ((HLX.out.kept hb4).kept x.below) HNX.out, HS.out]
  have A3 : Hid (∀ w, Calls Try.prog 21 #[cv o a s c m b t] w fun e w' => e = .returned (.string S) ∧ Below w.heap.size w w') := Lib.hid (fun w => by
    rw [← HS.out]; exact rput_any o a s c m b t w HR.out)
  clear HLX
  have K1 := fun x : Kin w4 => cells7r ((HO3.out.kept hb4).kept x.below)
  have K2 := fun x : Kin w4 => cells7r ((HR3.out.kept hb4).kept x.below)
  have u0 := fun x => (K1 x).1
  have u1 := fun x => (K1 x).2.1
  have u2 := fun x => (K1 x).2.2.1
  have u3 := fun x => (K1 x).2.2.2.1
  have u4 := fun x => (K1 x).2.2.2.2.1
  have u5 := fun x => (K1 x).2.2.2.2.2.1
  have u6 := fun x => (K1 x).2.2.2.2.2.2
  have q0 := fun x => (K2 x).1
  have q1 := fun x => (K2 x).2.1
  have q2 := fun x => (K2 x).2.2.1
  have q3 := fun x => (K2 x).2.2.2.1
  have q4 := fun x => (K2 x).2.2.2.2.1
  have q5 := fun x => (K2 x).2.2.2.2.2.1
  have q6 := fun x => (K2 x).2.2.2.2.2.2
  clear K1 K2 hb4
  go_wp2_with fail
  refine wp_region_kin (by kernel_rfl) (by kernel_rfl) ?_
  repeat (go_big_quiet_step (first | (go_at_call 18; exact Calls.kin _ (right_yes o a s c m b t _ HR.out bs)) | (go_at_call 19; exact Calls.kin _ (A1.out _)) | (go_at_call 15; exact Calls.kin _ (own_any o x1 x2 x3 x4 x5 x6 _)) | (go_at_call 20; exact Calls.kin _ (A2.out _)) | (go_at_call 21; exact Calls.kin _ (A3.out _)) | (go_at_call 22; exact Calls.kin _ (one_any _))))
  refine wpQuiet_nil ?_
  intro _ hw'
  obtain ⟨kx, hw''⟩ := hw'
  subst hw''
  clear u0 u1 u2 u3 u4 u5 u6 q0 q1 q2 q3 q4 q5 q6
  go_wp2
  go_ret
  exact ⟨rfl, HBE4.out.trans (kx.below.mono HBE4.out.size)⟩
set_option maxRecDepth 100000 in
set_option maxHeartbeats 8000000 in
theorem walk_no (o a s c m b t x1 x2 x3 x4 x5 x6 : Int) (w : World) (hr : ¬ RP o a s c m b t) (bs : -9223372036854775808 ≤ s ∧ s ≤ 9223372036854775807) (t0 : -9223372036854775808 ≤ t) (t1 : t ≤ 9223372036854775807) (hw : CL o a s c m b t = cv o x1 x2 x3 x4 x5 x6) :
    Calls Try.prog 3 #[cv o a s c m b t] w fun e w' => e = .returned (.bool true) ∧ Below w.heap.size w w' := by
  have HB := Lib.hid (show Below w.heap.size w (w.alloc (.cells (c7 o a s c m b t) TC)) from (Below.refl _ _).alloc (Nat.le_refl _) _)
  have HO := Lib.hid (Obj1.new w TC (c7 o a s c m b t))
  obtain ⟨gc, HGC⟩ : ∃ gc, Hid (w.heap.size = gc) := ⟨_, Lib.hid rfl⟩
  rw [HGC.out] at HO
  have HR := Lib.hid hr
  have A1 := Lib.hid (kclean o a s c m b t x1 x2 x3 x4 x5 x6 hw t0 t1)
  have A2 := Lib.hid (krclean o a s c m b t x1 x2 x3 x4 x5 x6 hw)
  clear hr hw
  go_enter Try.func3, Try.ntmps3
  go_wp2_with fail
  rw [HGC.out]
  generalize w.alloc (.cells #[.int .i64 o, .int .i64 a, .int .i64 s, .int .i64 c, .int .i64 m, .int .i64 b, .int .i64 t] TC) = W at HB HO ⊢
  refine (own_any o a s c m b t W).mono ?_
  rintro e w1 ⟨rfl, hb1⟩
  have HB1 := Lib.hid (HB.out.trans (hb1.mono HB.out.size))
  have HB2 := Lib.hid (HB1.out.alloc HB1.out.size (.cells (c7 o a s c m b t) TR))
  have HO2 := Lib.hid ((HO.out.kept hb1).alloc (.cells (c7 o a s c m b t) TR))
  have HR2 := Lib.hid (Obj1.new w1 TR (c7 o a s c m b t))
  obtain ⟨g1, HG1⟩ : ∃ g1, Hid (w1.heap.size = g1) := ⟨_, Lib.hid rfl⟩
  rw [HG1.out] at HR2
  have HO1 := Lib.hid (HO.out.kept hb1)
  obtain ⟨d0, d1, d2, d3, d4, d5, d6⟩ := cells7 HO1.out
  obtain ⟨e0, e1, e2, e3, e4, e5, e6⟩ := cells7 HO2.out
  clear hb1 HB HO
  go_wp2_with fail
  rw [HG1.out]
  generalize w1.alloc (.cells #[.int .i64 o, .int .i64 a, .int .i64 s, .int .i64 c, .int .i64 m, .int .i64 b, .int .i64 t] TR) = W2 at HB2 HO2 HR2 ⊢
  clear d0 d1 d2 d3 d4 d5 d6 e0 e1 e2 e3 e4 e5 e6 HO1 HB1
  refine (put_no o a s c m b t W2 HR.out bs).mono ?_
  rintro e w3 ⟨rfl, HB3⟩
  have HO3 := Lib.hid (HO2.out.kept HB3.out)
  have HR3 := Lib.hid (HR2.out.kept HB3.out)
  have HBE3 := Lib.hid (HB2.out.trans (HB3.out.mono HB2.out.size))
  clear HO2 HR2 HB2
  obtain ⟨d0, d1, d2, d3, d4, d5, d6⟩ := cells7r HR3.out
  go_wp2_with fail
  refine (rright_no o a s c m b t w3 HR.out bs).mono ?_
  rintro e w4 ⟨rfl, hb4⟩
  clear d0 d1 d2 d3 d4 d5 d6
  have HBE4 := Lib.hid (HBE3.out.trans (hb4.mono HBE3.out.size))
  have K1 := fun x : Kin w4 => cells7r ((HO3.out.kept hb4).kept x.below)
  have K2 := fun x : Kin w4 => cells7r ((HR3.out.kept hb4).kept x.below)
  have u0 := fun x => (K1 x).1
  have u1 := fun x => (K1 x).2.1
  have u2 := fun x => (K1 x).2.2.1
  have u3 := fun x => (K1 x).2.2.2.1
  have u4 := fun x => (K1 x).2.2.2.2.1
  have u5 := fun x => (K1 x).2.2.2.2.2.1
  have u6 := fun x => (K1 x).2.2.2.2.2.2
  have q0 := fun x => (K2 x).1
  have q1 := fun x => (K2 x).2.1
  have q2 := fun x => (K2 x).2.2.1
  have q3 := fun x => (K2 x).2.2.2.1
  have q4 := fun x => (K2 x).2.2.2.2.1
  have q5 := fun x => (K2 x).2.2.2.2.2.1
  have q6 := fun x => (K2 x).2.2.2.2.2.2
  clear K1 K2 hb4
  go_wp2_with fail
  refine wp_region_kin (by kernel_rfl) (by kernel_rfl) ?_
  repeat (go_big_quiet_step (first | (go_at_call 18; exact Calls.kin _ (right_no o a s c m b t _ HR.out bs)) | (go_at_call 19; exact Calls.kin _ (A1.out _)) | (go_at_call 15; exact Calls.kin _ (own_any o x1 x2 x3 x4 x5 x6 _)) | (go_at_call 20; exact Calls.kin _ (A2.out _)) | (go_at_call 22; exact Calls.kin _ (one_any _))))
  refine wpQuiet_nil ?_
  intro _ hw'
  obtain ⟨kx, hw''⟩ := hw'
  subst hw''
  clear u0 u1 u2 u3 u4 u5 u6 q0 q1 q2 q3 q4 q5 q6
  go_wp2
  go_ret
  exact ⟨rfl, HBE4.out.trans (kx.below.mono HBE4.out.size)⟩
abbrev shC : Sh := .fld (.int .i64) (.fld (.int .i64) (.fld (.int .i64) (.fld (.int .i64) (.fld (.int .i64) (.fld (.int .i64) (.fld (.int .i64) .nil))))))
theorem walk (x : Array Value) (w : World) (rx : Reads w shC x.toList) :
    Calls Try.prog 3 #[.agg x] w fun e w' => e = .returned (.bool true) ∧ Below w.heap.size w w' := by
  obtain ⟨_, _, ex, ⟨o, rfl, _⟩, _, _, rfl, ⟨a, rfl, _⟩, _, _, rfl, ⟨s, rfl, hs⟩, _, _, rfl, ⟨c, rfl, _⟩, _, _, rfl, ⟨m, rfl, _⟩, _, _, rfl, ⟨b, rfl, _⟩, _, _, rfl, ⟨t, rfl, ht⟩, rfl⟩ := rx
  obtain ⟨l⟩ := x
  simp at ex
  subst ex
  obtain ⟨x1, x2, x3, x4, x5, x6, hw⟩ := wth_cv o (nums o a s c m b t)
  rw [CL_eq] at hw
  by_cases hr : RP o a s c m b t
  · exact walk_yes o a s c m b t x1 x2 x3 x4 x5 x6 w hr (bounds_i64 hs) (bounds_i64 ht).1 (bounds_i64 ht).2 hw
  · exact walk_no o a s c m b t x1 x2 x3 x4 x5 x6 w hr (bounds_i64 hs) (bounds_i64 ht).1 (bounds_i64 ht).2 hw

set_option maxRecDepth 100000 in
theorem lifted (os : Os) (started : os.Started) (H : Type) (enc : TypeId × Value → H) :
    ReturnsInHanded {} Try.checked os 3 .any (Rows.cmdPutsSpec.pre6 enc Try.prog Try.f3 Rows.cmdPutsRow.domain false) (Rows.cmdPutsSpec.post enc Try.prog Try.f3 false true false false) := by
  refine returnsInHanded_of_change (C := Try.checked) own started (by kernel_rfl) Try.func3
    (ChangeSpec.witness6 (enc := enc) (C := Try.checked) false ⟨#[], #[.agg #[.int .i64 0, .int .i64 0, .int .i64 0, .int .i64 0, .int .i64 0, .int .i64 0, .int .i64 0]], []⟩ 8 (by kernel_rfl) (by kernel_rfl) (by kernel_rfl) (by kernel_rfl)) ?_
  intro W base args ds gs before hval0 hW hcnd _
  have hval : ∀ (j : Nat) t v, Try.f3.params[j]? = some t → args[j]? = some v → Value.okWide Try.prog W .any base t v := hval0
  have hW' := hW
  obtain ⟨p, q, hA0, hV, rfl, hfz, hnd⟩ := hW
  have hA : DataW.TrodAll enc Try.prog W 0 (fun _ => true) true Try.f3.params.toList args.toList ds p := hA0
  rw [Try.params3] at hA hval
  obtain ⟨v0, vs0, d0, ds0, p0, q0, hargs, rfl, rfl, h0, r0⟩ := trodAll_cons hA
  obtain ⟨rfl, rfl, rfl⟩ := trodAll_nil r0
  obtain rfl : args = #[v0] := by cases args; simp_all
  obtain ⟨rfl, rfl⟩ := trodVars_none hV
  have k0 := h0
  have lt0 : ∀ x ∈ p0, x.block < W.heap.size := by obtain ⟨m, hm⟩ := k0; exact DataW.trod_lt m _ _ _ hm
  obtain ⟨x, rfl⟩ := okWide_agg (by first | exact .inl ⟨_, Try.underlying23⟩ | exact .inr ⟨_, _, Try.underlying23⟩) (hval 0 23 v0 rfl rfl)
  have rd0 := reads_cells (sh := shC) 30 (by kernel_rfl) k0
  clear hA0 hval0
  refine (walk x W rd0).mono fun e W' ⟨he, bel⟩ => ?_
  subst he
  exact ⟨_, rfl, _, _, _, [], _, [], hW', trodAll_mk1 (shut_bool Try.underlying4 _), (trodAll_cons_mk (Below.trod laidOut (by kernel_rfl) (of_decide_eq_true (by kernel_rfl)) k0 bel lt0) trodAll_mk0), rfl, bel.frame _, fun h => by cases h⟩

theorem over : Rows.cmdPutsRow.holds Try.pinned (OpenSpec.ofChange Rows.cmdPutsSpec) :=
  OpenClaim.holds_of_wide 3 Try.f3 rfl rfl rfl rfl rfl rfl rfl ⟨rfl, rfl, rfl, rfl, rfl⟩ rfl rfl rfl rfl rfl (by kernel_rfl) Try.func3 (by kernel_rfl)
    (of_decide_eq_true (by kernel_rfl)) (by unfold Func.isWrapper; first | (rw [if_pos (by decide +kernel)]; kernel_rfl) | (rw [if_neg (by decide +kernel)]; exact ⟨rfl, rfl⟩))
    (fun os started H enc _ => lifted os started H enc)

/-- The statement. -/
theorem proved : Rows.CmdPutsSaid := over
end Go.Proofs.Ythnopcoahcdjjaa.lawCmdPuts
