/- Whatever bytes there are, what stands at any place of them is the document's command, or its error: for every bytes and every place; no condition. -/
import Derived.Deep.DeepCutAuto
import Derived.Deep.CutBlock
import Derived.RegionTactic
import Derived.Laws.BytesString
import Derived.Test.YthnopcoahcdjjaaCmdS
import Derived.Test.YthnopcoahcdjjaaCmdI
import Derived.Test.YthnopcoahcdjjaaPush
import Derived.Test.YthnopcoahcdjjaaSh
import Derived.Test.YthnopcoahcdjjaaRows
import Derived.WalkKit
import Derived.ProofKit
import Derived.OpenShut
import Derived.ShutString
import Derived.ChangeOld
import Derived.Below
namespace Go.Proofs.Ythnopcoahcdjjaa.lawCmdReads
open Go.ChangeShapes Go.WideShapes Go.ChangeAt Go.RowKit Base
open Go.ChangeMaps (open_string shut_string)
set_option linter.unusedVariables false
set_option linter.unusedSimpArgs false
theorem own : ownKnob Try.prog.godebug = none := by kernel_rfl
theorem laidOut : laidOutB Try.prog = true := by kernel_rfl
open Ly9

set_option maxRecDepth 100000 in
set_option maxHeartbeats 8000000 in
theorem walk (B : Option Addr) (n cp : Nat) (bs : List Int) (a : Int) (w : World) (hl : Lst w B n (bs.map (Value.int .u8))) (hbd : ∀ x ∈ bs, 0 ≤ x ∧ x ≤ 255) (hcp : n ≤ cp) (hcm : cp ≤ maxLen) (ha0 : -9223372036854775808 ≤ a) (ha1 : a ≤ 9223372036854775807) :
    Calls Try.prog 4 #[.slice B n cp, .int .i64 a] w fun e w' => e = .returned (.bool true) ∧ Below w.heap.size w w' := by
  unfold maxLen at hcm
  have hlen : n = bs.length := by have := hl.1; simpa using this.symm
  by_cases hbig : 2000 < n
  · clear hl hbd
    go_enter Try.func4, Try.ntmps4
    go_wp2
    go_ret
    exact ⟨rfl, .refl _ _⟩
  obtain ⟨o, x1, x2, x3, x4, x5, x6, k, x, h1, h2⟩ := both_of bs a hbd (by omega)
  have H1 := Lib.hid (h1 B n cp w hl)
  have H2 := Lib.hid h2
  have HL := Lib.hid hl
  obtain ⟨S, HS⟩ : ∃ S, Hid (strB bs = S) := ⟨_, Lib.hid rfl⟩
  rw [HS.out] at H2
  clear h1 h2 hl hbd
  have hle : n ≤ 2000 := by omega
  clear hlen
  go_enter Try.func4, Try.ntmps4
  go_wp2_with fail
  refine H1.out.mono ?_
  rintro e w1 ⟨rfl, HB1⟩
  have HL1 := Lib.hid (HL.out.kept (HB1.out.alloc HB1.out.size (.cells (c7 o x1 x2 x3 x4 x5 x6) TC)))
  have C1 : (convert 26 9 (.slice B n cp)).run Try.prog (w1.alloc (.cells (c7 o x1 x2 x3 x4 x5 x6) TC)) = .ok (.string S) (w1.alloc (.cells (c7 o x1 x2 x3 x4 x5 x6) TC)) := by
    rw [convB HL1.out, HS.out]
  have HB2 := Lib.hid (HB1.out.alloc HB1.out.size (.cells (c7 o x1 x2 x3 x4 x5 x6) TC))
  have HO2 := Lib.hid (Obj1.new w1 TC (c7 o x1 x2 x3 x4 x5 x6))
  obtain ⟨g1, HG1⟩ : ∃ g1, Hid (w1.heap.size = g1) := ⟨_, Lib.hid rfl⟩
  rw [HG1.out] at HO2
  go_wp2_with fail
  rw [HG1.out]
  generalize w1.alloc (.cells #[.int .i64 o, .int .i64 x1, .int .i64 x2, .int .i64 x3, .int .i64 x4, .int .i64 x5, .int .i64 x6] TC) = W2 at HB2 HO2 C1 ⊢
  refine (H2.out W2).mono ?_
  rintro e w3 ⟨rfl, HB3⟩
  have HB4 := Lib.hid ((HB2.out.trans (HB3.out.mono HB2.out.size)).alloc (HB2.out.trans (HB3.out.mono HB2.out.size)).size (.cells (c7 o x1 x2 x3 x4 x5 x6) TR))
  have HO4 := Lib.hid ((HO2.out.kept HB3.out).alloc (.cells (c7 o x1 x2 x3 x4 x5 x6) TR))
  have HR4 := Lib.hid (Obj1.new w3 TR (c7 o x1 x2 x3 x4 x5 x6))
  obtain ⟨g3, HG3⟩ : ∃ g3, Hid (w3.heap.size = g3) := ⟨_, Lib.hid rfl⟩
  rw [HG3.out] at HR4
  clear C1 HB2 HO2 HL HL1 H1 H2
  go_wp2_with fail
  rw [HG3.out]
  generalize w3.alloc (.cells #[.int .i64 o, .int .i64 x1, .int .i64 x2, .int .i64 x3, .int .i64 x4, .int .i64 x5, .int .i64 x6] TR) = w4 at HB4 HO4 HR4 ⊢
  have K1 := fun x : Kin w4 => cells7r (HO4.out.kept x.below)
  have K2 := fun x : Kin w4 => cells7r (HR4.out.kept x.below)
  have u0 := fun x => (K1 x).1
  have u1 := fun x => (K1 x).2.1
  have u2 := fun x => (K1 x).2.2.1
  have u3 := fun x => (K1 x).2.2.2.1
  have u4 := fun x => (K1 x).2.2.2.2.1
  have u5 := fun x => (K1 x).2.2.2.2.2.1
  have u6 := fun x => (K1 x).2.2.2.2.2.2
  have q0 := fun x => (K2 x).1
  have q1 := fun x => (K2 x).2.1
  have q2 := fun x => (K2 x).2.2.1
  have q3 := fun x => (K2 x).2.2.2.1
  have q4 := fun x => (K2 x).2.2.2.2.1
  have q5 := fun x => (K2 x).2.2.2.2.2.1
  have q6 := fun x => (K2 x).2.2.2.2.2.2
  clear K1 K2
  refine wp_region_kin (by kernel_rfl) (by kernel_rfl) ?_
  repeat (go_big_quiet_step (first | (go_at_call 15; exact Calls.kin _ (own_any o x1 x2 x3 x4 x5 x6 _)) | (go_at_call 22; exact Calls.kin _ (one_any _))))
  refine wpQuiet_nil ?_
  intro _ hw'
  obtain ⟨kx, hw''⟩ := hw'
  subst hw''
  clear u0 u1 u2 u3 u4 u5 u6 q0 q1 q2 q3 q4 q5 q6
  go_wp2
  go_ret
  exact ⟨rfl, HB4.out.trans (kx.below.mono HB4.out.size)⟩

set_option maxRecDepth 100000 in
theorem lifted (os : Os) (started : os.Started) (H : Type) (enc : TypeId × Value → H) :
    ReturnsInHanded {} Try.checked os 4 .any (Rows.cmdReadsSpec.pre6 enc Try.prog Try.f4 Rows.cmdReadsRow.domain false) (Rows.cmdReadsSpec.post enc Try.prog Try.f4 false true false false) := by
  refine returnsInHanded_of_change (C := Try.checked) own started (by kernel_rfl) Try.func4
    (ChangeSpec.witness6 (enc := enc) (C := Try.checked) false ⟨#[], #[.slice none 0 0, .int .i64 0], []⟩ 8 (by kernel_rfl) (by kernel_rfl) (by kernel_rfl) (by kernel_rfl)) ?_
  intro W base args ds gs before hval0 hW hcnd _
  have hval : ∀ (j : Nat) t v, Try.f4.params[j]? = some t → args[j]? = some v → Value.okWide Try.prog W .any base t v := hval0
  have hW' := hW
  obtain ⟨p, q, hA0, hV, rfl, hfz, hnd⟩ := hW
  have hA : DataW.TrodAll enc Try.prog W 0 (fun _ => true) true Try.f4.params.toList args.toList ds p := hA0
  rw [Try.params4] at hA hval
  obtain ⟨v0, vs0, d0, ds0, p0, q0, hargs, rfl, rfl, h0, r0⟩ := trodAll_cons hA
  obtain ⟨v1, vs1, d1, ds1, p1, q1, rfl, rfl, rfl, h1, r1⟩ := trodAll_cons r0
  obtain ⟨rfl, rfl, rfl⟩ := trodAll_nil r1
  obtain rfl : args = #[v0, v1] := by cases args; simp_all
  obtain ⟨rfl, rfl⟩ := trodVars_none hV
  have k0 := h0
  have lt0 : ∀ x ∈ p0, x.block < W.heap.size := by obtain ⟨m, hm⟩ := k0; exact DataW.trod_lt m _ _ _ hm
  obtain ⟨lA, ln, lc, rfl⟩ := okWide_slice Try.underlying26 (hval 0 26 v0 rfl rfl)
  obtain ⟨l, l0, b0, cb0, cc0⟩ := lst_ints Try.underlying26 Try.underlying5 (by kernel_rfl) k0
  obtain ⟨a, rfl, rfl, rfl, wf1⟩ := open_int Try.underlying3 (hval 1 3 v1 rfl rfl) h1
  have bd1 := bounds_i64 wf1
  clear hA0 hval0
  refine (walk lA ln lc l a W l0 (ints_u8 b0) cb0 cc0 bd1.1 bd1.2).mono fun e W' ⟨he, bel⟩ => ?_
  subst he
  exact ⟨_, rfl, _, _, _, [], _, [], hW', trodAll_mk1 (shut_bool Try.underlying4 _), (trodAll_cons_mk (Below.trod laidOut (by kernel_rfl) (of_decide_eq_true (by kernel_rfl)) k0 bel lt0) (trodAll_cons_mk (shut_int Try.underlying3 wf1) trodAll_mk0)), rfl, bel.frame _, fun h => by cases h⟩

theorem over : Rows.cmdReadsRow.holds Try.pinned (OpenSpec.ofChange Rows.cmdReadsSpec) :=
  OpenClaim.holds_of_wide 4 Try.f4 rfl rfl rfl rfl rfl rfl rfl ⟨rfl, rfl, rfl, rfl, rfl⟩ rfl rfl rfl rfl rfl (by kernel_rfl) Try.func4 (by kernel_rfl)
    (of_decide_eq_true (by kernel_rfl)) (by unfold Func.isWrapper; first | (rw [if_pos (by decide +kernel)]; kernel_rfl) | (rw [if_neg (by decide +kernel)]; exact ⟨rfl, rfl⟩))
    (fun os started H enc _ => lifted os started H enc)

/-- The statement. -/
theorem proved : Rows.CmdReadsSaid := over
end Go.Proofs.Ythnopcoahcdjjaa.lawCmdReads
