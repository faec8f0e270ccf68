/- With the longest span a half fits, with one tick more it does not, and it is at least the span with which it fits: for every margin and every half; no condition. -/
import Derived.Test.YtnbconkefhoblaaMarD
import Derived.Test.YtnbconkefhoblaaSh
import Derived.Test.YtnbconkefhoblaaRows
import Derived.WalkKit
import Derived.ProofKit
import Derived.OpenShut
import Derived.ShutString
import Derived.ChangeOld
import Derived.Below
namespace Go.Proofs.Ytnbconkefhoblaa.lawMarginLongest
open Go.ChangeShapes Go.WideShapes Go.ChangeAt Go.RowKit Base
open Go.ChangeMaps (open_string shut_string)
set_option linter.unusedVariables false
set_option linter.unusedSimpArgs false
theorem own : ownKnob Try.prog.godebug = none := by kernel_rfl
theorem laidOut : laidOutB Try.prog = true := by kernel_rfl
open Ly36

theorem lng_no {s g k n r : Int} (h : Rt s g k) (hl : Lng g k n r) (hf : fitB s g k n = true) : s ≤ r := by
  obtain ⟨r0, r1, h0, h1⟩ := hl
  rcases Int.lt_or_le r s with hlt | hle
  · exact absurd ⟨by omega, fitB_less h (by omega) (by omega) hf⟩ (h1 (by have := h.s1; omega))
  · exact hle

set_option maxRecDepth 100000 in
set_option maxHeartbeats 1000000 in
theorem walk_no (s g k n : Int) (w : World) (h : ¬ Rt s g k) :
    Calls Try.prog 13 #[.agg #[.int .i64 s, .int .i64 g, .int .i64 k], .int .i64 n] w fun e w' => e = .returned (.bool true) ∧ Below w.heap.size w w' := by
  obtain ⟨y, y0, y1, hy⟩ := and_mask n 65535 (by decide)
  simp at hy y1
  have H := Lib.hid h
  clear h
  go_enter Try.func13, Try.ntmps13
  go_wp2_with fail
  refine (right_no _ _ _ _ H.out).mono ?_
  rintro e w1 ⟨rfl, hb1⟩
  obtain ⟨x, rfl⟩ := Kin.ex hb1
  go_wp2_with (first | (go_at_call 49; refine (Calls.kin _ (one_any _)).mono ?_; rintro e w' ⟨rfl, y, rfl⟩))
  go_ret
  exact ⟨rfl, Kin.end1 ‹_›⟩
set_option maxRecDepth 100000 in
set_option maxHeartbeats 1000000 in
theorem walk_yes (s g k n : Int) (w : World) (h : Rt s g k) :
    Calls Try.prog 13 #[.agg #[.int .i64 s, .int .i64 g, .int .i64 k], .int .i64 n] w fun e w' => e = .returned (.bool true) ∧ Below w.heap.size w w' := by
  obtain ⟨y, y0, y1, hy⟩ := and_mask n 65535 (by decide)
  simp at hy y1
  have H := Lib.hid h
  clear h
  go_enter Try.func13, Try.ntmps13
  go_wp2_with fail
  refine (right_yes _ _ _ _ H.out).mono ?_
  rintro e w1 ⟨rfl, hb1⟩
  obtain ⟨x, rfl⟩ := Kin.ex hb1
  obtain ⟨K0, K1, K2⟩ := Kin.box3 (Below.refl _ (w.alloc (.cells #[.int .i64 s, .int .i64 g, .int .i64 k] 67)))
  go_wp2_with fail
  refine (longest_yes s g k (1 + y) _ H.out (by omega) (by omega)).mono ?_
  rintro e w2 ⟨r, rfl, HL, hb2⟩
  obtain ⟨x2, rfl⟩ : ∃ x2 : Kin (w.alloc (.cells #[.int .i64 s, .int .i64 g, .int .i64 k] 67)), w2 = x2.world := ⟨x.on hb2, rfl⟩
  have r0 := HL.out.1
  have r1 := HL.out.2.1
  obtain ⟨u, HU⟩ : ∃ u, Hid (fitB s g k (1 + y) = u) := ⟨_, Lib.hid rfl⟩
  have A1 := Lib.hid (fun W => fits_c s g k (1 + y) u HU.out W H.out (by omega) (by omega))
  have hRx : Hid (∀ t, 1 ≤ t → t ≤ 1073741824 → Rt t g k) := Lib.hid (fun t t0 t1 => ⟨t0, t1, H.out.g0, H.out.g1, H.out.k0, H.out.k1⟩)
  have hsr : u = true → decide (r < s) = false := by
    rintro rfl
    have := lng_no H.out HL.out HU.out
    simp; omega
  have A2 := Lib.hid (fun W (h0 : 0 < r) => fits_c r g k (1 + y) true (HL.out.2.2.1 h0).2 W (hRx.out r (by omega) r1) (by omega) (by omega))
  have A3 := Lib.hid (fun W (h0 : r < 1073741824) => fits_c (r + 1) g k (1 + y) false (by
    have := HL.out.2.2.2 h0
    cases hq : fitB (r + 1) g k (1 + y) with
    | false => rfl
    | true => exact absurd ⟨by omega, hq⟩ this) W (hRx.out (r + 1) (by omega) (by omega)) (by omega) (by omega))
  have HS := Lib.hid hsr
  clear hsr
  cases u
  · rcases (show r = 0 ∨ (0 < r ∧ r < 1073741824) ∨ r = 1073741824 by omega) with rfl | ⟨g0, g1⟩ | rfl
    · skip
      go_wp2_with fail
      refine (Calls.kin _ (A1.out _)).mono ?_; rintro e w' ⟨rfl, y1, rfl⟩
      go_wp2_with fail
      refine (Calls.kin _ (A3.out _ (by decide))).mono ?_; rintro e w' ⟨rfl, y2, rfl⟩
      go_wp2_with fail
      refine (Calls.kin _ (one_any _)).mono ?_; rintro e w' ⟨rfl, y3, rfl⟩
      go_wp2
      go_ret
      exact ⟨rfl, Kin.end1 ‹_›⟩
    · have hq : (r == 1073741824) = false := by simp; omega
      go_wp2_with fail
      refine (Calls.kin _ (A1.out _)).mono ?_; rintro e w' ⟨rfl, y4, rfl⟩
      go_wp2_with fail
      refine (Calls.kin _ (A2.out _ g0)).mono ?_; rintro e w' ⟨rfl, y5, rfl⟩
      go_wp2_with fail
      refine (Calls.kin _ (A3.out _ g1)).mono ?_; rintro e w' ⟨rfl, y6, rfl⟩
      go_wp2_with fail
      refine (Calls.kin _ (one_any _)).mono ?_; rintro e w' ⟨rfl, y7, rfl⟩
      go_wp2
      go_ret
      exact ⟨rfl, Kin.end1 ‹_›⟩
    · skip
      go_wp2_with fail
      refine (Calls.kin _ (A1.out _)).mono ?_; rintro e w' ⟨rfl, y8, rfl⟩
      go_wp2_with fail
      refine (Calls.kin _ (A2.out _ (by decide))).mono ?_; rintro e w' ⟨rfl, y9, rfl⟩
      go_wp2_with fail
      refine (Calls.kin _ (one_any _)).mono ?_; rintro e w' ⟨rfl, y10, rfl⟩
      go_wp2
      go_ret
      exact ⟨rfl, Kin.end1 ‹_›⟩
  · have hs := HS.out rfl
    rcases (show r = 0 ∨ (0 < r ∧ r < 1073741824) ∨ r = 1073741824 by omega) with rfl | ⟨g0, g1⟩ | rfl
    · skip
      go_wp2_with fail
      refine (Calls.kin _ (A1.out _)).mono ?_; rintro e w' ⟨rfl, y11, rfl⟩
      go_wp2_with fail
      refine (Calls.kin _ (A3.out _ (by decide))).mono ?_; rintro e w' ⟨rfl, y12, rfl⟩
      go_wp2_with fail
      refine (Calls.kin _ (one_any _)).mono ?_; rintro e w' ⟨rfl, y13, rfl⟩
      go_wp2
      go_ret
      exact ⟨rfl, Kin.end1 ‹_›⟩
    · have hq : (r == 1073741824) = false := by simp; omega
      go_wp2_with fail
      refine (Calls.kin _ (A1.out _)).mono ?_; rintro e w' ⟨rfl, y14, rfl⟩
      go_wp2_with fail
      refine (Calls.kin _ (A2.out _ g0)).mono ?_; rintro e w' ⟨rfl, y15, rfl⟩
      go_wp2_with fail
      refine (Calls.kin _ (A3.out _ g1)).mono ?_; rintro e w' ⟨rfl, y16, rfl⟩
      go_wp2_with fail
      refine (Calls.kin _ (one_any _)).mono ?_; rintro e w' ⟨rfl, y17, rfl⟩
      go_wp2
      go_ret
      exact ⟨rfl, Kin.end1 ‹_›⟩
    · skip
      go_wp2_with fail
      refine (Calls.kin _ (A1.out _)).mono ?_; rintro e w' ⟨rfl, y18, rfl⟩
      go_wp2_with fail
      refine (Calls.kin _ (A2.out _ (by decide))).mono ?_; rintro e w' ⟨rfl, y19, rfl⟩
      go_wp2_with fail
      refine (Calls.kin _ (one_any _)).mono ?_; rintro e w' ⟨rfl, y20, rfl⟩
      go_wp2
      go_ret
      exact ⟨rfl, Kin.end1 ‹_›⟩

theorem walk (cs : Array Value) (n : Int) (w : World) (hr : Reads w (.fld (.int .i64) (.fld (.int .i64) (.fld (.int .i64) .nil))) cs.toList) (n0 : -9223372036854775808 ≤ n) (n1 : n ≤ 9223372036854775807) :
    Calls Try.prog 13 #[.agg cs, .int .i64 n] w fun e w' => e = .returned (.bool true) ∧ Below w.heap.size w w' := by
  obtain ⟨s, g, k, rfl, _⟩ := reads3 hr
  by_cases h : Rt s g k
  · exact walk_yes s g k n w h
  · exact walk_no s g k n w h

set_option maxRecDepth 100000 in
theorem lifted (os : Os) (started : os.Started) (H : Type) (enc : TypeId × Value → H) :
    ReturnsInHanded {} Try.checked os 13 .any (Rows.marginLongestSpec.pre6 enc Try.prog Try.f13 Rows.marginLongestRow.domain false) (Rows.marginLongestSpec.post enc Try.prog Try.f13 false true false false) := by
  refine returnsInHanded_of_change (C := Try.checked) own started (by kernel_rfl) Try.func13
    (ChangeSpec.witness6 (enc := enc) (C := Try.checked) false ⟨#[], #[.agg #[.int .i64 0, .int .i64 0, .int .i64 0], .int .i64 0], []⟩ 8 (by kernel_rfl) (by kernel_rfl) (by kernel_rfl) (by kernel_rfl)) ?_
  intro W base args ds gs before hval0 hW hcnd _
  have hval : ∀ (j : Nat) t v, Try.f13.params[j]? = some t → args[j]? = some v → Value.okWide Try.prog W .any base t v := hval0
  have hW' := hW
  obtain ⟨p, q, hA0, hV, rfl, hfz, hnd⟩ := hW
  have hA : DataW.TrodAll enc Try.prog W 0 (fun _ => true) true Try.f13.params.toList args.toList ds p := hA0
  rw [Try.params13] at hA hval
  obtain ⟨v0, vs0, d0, ds0, p0, q0, hargs, rfl, rfl, h0, r0⟩ := trodAll_cons hA
  obtain ⟨v1, vs1, d1, ds1, p1, q1, rfl, rfl, rfl, h1, r1⟩ := trodAll_cons r0
  obtain ⟨rfl, rfl, rfl⟩ := trodAll_nil r1
  obtain rfl : args = #[v0, v1] := by cases args; simp_all
  obtain ⟨rfl, rfl⟩ := trodVars_none hV
  have k0 := h0
  have lt0 : ∀ x ∈ p0, x.block < W.heap.size := by obtain ⟨m, hm⟩ := k0; exact DataW.trod_lt m _ _ _ hm
  obtain ⟨m, rfl⟩ := okWide_agg (by first | exact .inl ⟨_, Try.underlying67⟩ | exact .inr ⟨_, _, Try.underlying67⟩) (hval 0 67 v0 rfl rfl)
  have rd0 := reads_cells (sh := .fld (.int .i64) (.fld (.int .i64) (.fld (.int .i64) .nil))) 30 (by kernel_rfl) k0
  obtain ⟨n, rfl, rfl, rfl, wf1⟩ := open_int Try.underlying3 (hval 1 3 v1 rfl rfl) h1
  have bd1 := bounds_i64 wf1
  clear hA0 hval0
  refine (walk m n W rd0 bd1.1 bd1.2).mono fun e W' ⟨he, bel⟩ => ?_
  subst he
  exact ⟨_, rfl, _, _, _, [], _, [], hW', trodAll_mk1 (shut_bool Try.underlying4 _), (trodAll_cons_mk (Below.trod laidOut (by kernel_rfl) (of_decide_eq_true (by kernel_rfl)) k0 bel lt0) (trodAll_cons_mk (shut_int Try.underlying3 wf1) trodAll_mk0)), rfl, bel.frame _, fun h => by cases h⟩

theorem over : Rows.marginLongestRow.holds Try.pinned (OpenSpec.ofChange Rows.marginLongestSpec) :=
  OpenClaim.holds_of_wide 13 Try.f13 rfl rfl rfl rfl rfl rfl rfl ⟨rfl, rfl, rfl, rfl, rfl⟩ rfl rfl rfl rfl rfl (by kernel_rfl) Try.func13 (by kernel_rfl)
    (of_decide_eq_true (by kernel_rfl)) (by unfold Func.isWrapper; first | (rw [if_pos (by decide +kernel)]; kernel_rfl) | (rw [if_neg (by decide +kernel)]; exact ⟨rfl, rfl⟩))
    (fun os started H enc _ => lifted os started H enc)

/-- The statement. -/
theorem proved : Rows.MarginLongestSaid := over
end Go.Proofs.Ytnbconkefhoblaa.lawMarginLongest
