/- Any margin has the document's numbers, and any half fits, or not, as it says: for every margin and every half; no condition. -/
import Derived.IntWalk
import Derived.Test.YtnbconkefhoblaaMarD
import Derived.Test.YtnbconkefhoblaaSh
import Derived.Test.YtnbconkefhoblaaObj
import Derived.Test.YtnbconkefhoblaaRows
import Derived.WalkKit
import Derived.ProofKit
import Derived.OpenShut
import Derived.ShutString
import Derived.ChangeOld
import Derived.Below
namespace Go.Proofs.Ytnbconkefhoblaa.lawMarginTells
open Go.ChangeShapes Go.WideShapes Go.ChangeAt Go.RowKit Base
open Go.ChangeMaps (open_string shut_string)
set_option linter.unusedVariables false
set_option linter.unusedSimpArgs false
theorem own : ownKnob Try.prog.godebug = none := by kernel_rfl
theorem laidOut : laidOutB Try.prog = true := by kernel_rfl
open Ly36

theorem rright_yes (s g k : Int) (w : World) (h : Rt s g k) : Calls Try.prog 38 #[.agg #[.int .i64 s, .int .i64 g, .int .i64 k]] w fun e w' => e = .returned (.bool true) ∧ Below w.heap.size w w' := by
  obtain ⟨s0, s1, g0, g1, k0, k1⟩ := h
  go_enter Try.func38, Try.ntmps38
  go_wp2
  go_ret
  exact ⟨rfl, (Below.refl _ _).alloc (Nat.le_refl _) _⟩
theorem rright_no (s g k : Int) (w : World) (h : ¬ Rt s g k) : Calls Try.prog 38 #[.agg #[.int .i64 s, .int .i64 g, .int .i64 k]] w fun e w' => e = .returned (.bool false) ∧ Below w.heap.size w w' := by
  have h' : ¬ (1 ≤ s ∧ s ≤ 1073741824 ∧ 1 ≤ g ∧ g ≤ 1073741824 ∧ 0 ≤ k ∧ k ≤ 1048576) := fun ⟨a, b, c, d, e, f⟩ => h ⟨a, b, c, d, e, f⟩
  clear h
  rcases (show s < 1 ∨ (1 ≤ s ∧ 1073741824 < s) ∨ (1 ≤ s ∧ s ≤ 1073741824 ∧ g < 1) ∨ (1 ≤ s ∧ s ≤ 1073741824 ∧ 1 ≤ g ∧ 1073741824 < g) ∨ (1 ≤ s ∧ s ≤ 1073741824 ∧ 1 ≤ g ∧ g ≤ 1073741824 ∧ k < 0) ∨ (1 ≤ s ∧ s ≤ 1073741824 ∧ 1 ≤ g ∧ g ≤ 1073741824 ∧ 0 ≤ k ∧ 1048576 < k) by omega) with a | ⟨a, b⟩ | ⟨a, b, c⟩ | ⟨a, b, c, d⟩ | ⟨a, b, c, d, e⟩ | ⟨a, b, c, d, e, f⟩
  all_goals
    clear h'
    go_enter Try.func38, Try.ntmps38
    go_wp2
    go_ret
    exact ⟨by first | rfl | (simp; omega), (Below.refl _ _).alloc (Nat.le_refl _) _⟩

theorem mul_bd {a g s : Int} (g0 : 1 ≤ g) (s0 : 0 ≤ s) (a0 : 1 ≤ a) (h : a ≤ s / g + 1) : a ≤ s / g ↔ a * g ≤ s := Int.le_ediv_iff_mul_le (by omega)
theorem rslips (s g : Int) (w : World) (s0 : 1 ≤ s) (s1 : s ≤ 1073741824) (g0 : 1 ≤ g) (g1 : g ≤ 1073741824) (hq : s / g ≤ 2000) : Calls Try.prog 50 #[.int .i64 s, .int .i64 g] w fun e w' => e = .returned (.int .i64 (s / g + 1)) ∧ w = w' := by
  have q0 : 0 ≤ s / g := Int.ediv_nonneg (by omega) (by omega)
  go_enter Try.func50, Try.ntmps50
  go_wp2
  go_loop [5] (fun i => ∃ a : Int, 1 ≤ a ∧ a ≤ s / g + 1 ∧ i = .int .i64 a) (fun i => (2002 - intOf i).toNat)
  case atStart => exact ⟨1, by omega, by omega, rfl⟩
  case round =>
    obtain ⟨a, a0, a1, rfl⟩ := hrel
    have hm := mul_bd (s := s) g0 (by omega) a0 a1
    have hb0 : 0 ≤ a * g := Int.mul_nonneg (by omega) (by omega)
    have hb1 : a * g ≤ 2001 * g := Int.mul_le_mul_of_nonneg_right (by omega) (by omega)
    have hb2 : a * g ≤ 4000000000000 := by omega
    by_cases hlt : a ≤ s / g
    · have hle := hm.1 hlt
      clear hm hb1
      go_wp2
      go_round
      case rel => exact ⟨a + 1, by omega, by omega, rfl⟩
      case measure => simp [intOf]; omega
    · have hle : s < a * g := by rcases Int.lt_or_le s (a * g) with h | h; exact h; exact absurd (hm.2 h) hlt
      obtain rfl : a = s / g + 1 := by omega
      clear hm hb1
      go_wp2
      go_ret
      exact ⟨rfl, rfl⟩
/-- Does a half fit, by the document? -/
def fitR (e l n : Int) : Bool := decide (1 ≤ n ∧ l ≤ n / 2 ∧ e < n - n / 2)
theorem rfits (e l n : Int) (u : Bool) (hu : fitR e l n = u) (w : World) (e0 : 0 ≤ e) (e1 : e ≤ 5000000000) (l0 : 0 ≤ l) (l1 : l ≤ 5000000000) (n0 : 0 ≤ n) (n1 : n ≤ 5000000000) : Calls Try.prog 51 #[.int .i64 e, .int .i64 l, .int .i64 n] w fun e w' => e = .returned (.bool u) ∧ w = w' := by
  subst hu
  have n2 : 0 ≤ n / 2 := by omega
  have n3 : n / 2 ≤ n := by omega
  unfold fitR
  by_cases c0 : 1 ≤ n
  · by_cases c1 : l ≤ n / 2
    · by_cases c2 : e < n - n / 2
      · rw [decide_eq_true ⟨c0, c1, c2⟩]
        go_enter Try.func51, Try.ntmps51
        go_wp2
        go_ret
        exact ⟨by first | rfl | (simp; done) | (simp; omega), rfl⟩
      · rw [decide_eq_false (fun x => c2 x.2.2)]
        go_enter Try.func51, Try.ntmps51
        go_wp2
        go_ret
        exact ⟨by first | rfl | (simp; done) | (simp; omega), rfl⟩
    · rw [decide_eq_false (fun x => c1 x.2.1)]
      have c1' : n / 2 < l := by omega
      go_enter Try.func51, Try.ntmps51
      go_wp2
      go_ret
      exact ⟨by first | rfl | (simp; done) | (simp; omega), rfl⟩
  · rw [decide_eq_false (fun x => c0 x.1)]
    have c0' : n < 1 := by omega
    go_enter Try.func51, Try.ntmps51
    go_wp2
    go_ret
    exact ⟨by first | rfl | (simp; done) | (simp; omega), rfl⟩
theorem fit_eq {s g k n : Int} (h : Rt s g k) : fitR (ap s g k + 1) (ap s g k + k + 1) n = fitB s g k n := by
  obtain ⟨q0, q1, a0, a1⟩ := ap_bd h
  have := h.k0
  unfold fitR fitB
  rw [Bool.eq_iff_iff]
  simp only [decide_eq_true_eq]
  omega

set_option maxRecDepth 100000 in
set_option maxHeartbeats 2000000 in
theorem walk_no (s g k n : Int) (w : World) (n0 : -9223372036854775808 ≤ n) (n1 : n ≤ 9223372036854775807) (h : ¬ Rt s g k) :
    Calls Try.prog 11 #[.agg #[.int .i64 s, .int .i64 g, .int .i64 k], .int .i64 n] w fun e w' => e = .returned (.bool true) ∧ Below w.heap.size w w' := by
  have H := Lib.hid h
  clear h
  go_enter Try.func11, Try.ntmps11
  go_wp2_with fail
  refine (rright_no _ _ _ _ H.out).mono ?_
  rintro e w1 ⟨rfl, hb1⟩
  obtain ⟨x, rfl⟩ := Kin.ex hb1
  obtain ⟨K0, K1, K2⟩ := Kin.box3 hb1
  go_wp2_with fail
  have E1 := x.end1
  refine wp_region_kin (by kernel_rfl) (by kernel_rfl) ?_
  repeat (go_big_quiet_step (first | (go_at_call 39; exact Calls.kin _ (right_no _ _ _ _ H.out)) | (go_at_call 40; exact Calls.kin _ (slips_no _ _ _ _ H.out)) | (go_at_call 41; exact Calls.kin _ (apart_no _ _ _ _ H.out)) | (go_at_call 42; exact Calls.kin _ (turn_no _ _ _ _ H.out)) | (go_at_call 43; exact Calls.kin _ (early_no _ _ _ _ H.out)) | (go_at_call 44; exact Calls.kin _ (late_no _ _ _ _ H.out)) | (go_at_call 45; exact Calls.kin _ (least_no _ _ _ _ H.out)) | (go_at_call 46; exact Calls.kin _ (spare_no _ _ _ _ _ H.out)) | (go_at_call 47; exact Calls.kin _ (longest_no _ _ _ _ _ H.out)) | (go_at_call 48; exact Calls.kin _ (fits_no _ _ _ _ _ n0 n1 H.out)) | (go_at_call 49; exact Calls.kin _ (one_any _))))
  refine wpQuiet_nil ?_
  intro _ hw'
  obtain ⟨kx, hw''⟩ := hw'
  subst hw''
  go_wp2
  go_ret
  exact ⟨rfl, E1.trans (kx.below.mono E1.size)⟩
set_option maxRecDepth 100000 in
set_option maxHeartbeats 1000000 in
theorem walk_far (s g k n : Int) (w : World) (h : Rt s g k) (hq : 2000 < s / g) :
    Calls Try.prog 11 #[.agg #[.int .i64 s, .int .i64 g, .int .i64 k], .int .i64 n] w fun e w' => e = .returned (.bool true) ∧ Below w.heap.size w w' := by
  obtain ⟨s0, s1, g0, g1, k0, k1⟩ := id h
  have hg : (g == 0) = false := by simp; omega
  have hg' : ¬ g = 0 := by omega
  have H := Lib.hid h
  clear h
  go_enter Try.func11, Try.ntmps11
  go_wp2_with fail
  refine (rright_yes _ _ _ _ H.out).mono ?_
  rintro e w1 ⟨rfl, hb1⟩
  obtain ⟨x, rfl⟩ := Kin.ex hb1
  obtain ⟨K0, K1, K2⟩ := Kin.box3 (Below.refl _ (w.alloc (.cells #[.int .i64 s, .int .i64 g, .int .i64 k] 67)))
  go_wp2
  go_ret
  exact ⟨rfl, x.end1⟩

set_option maxRecDepth 100000 in
set_option maxHeartbeats 2000000 in
theorem walk_yes (s g k n : Int) (w : World) (h : Rt s g k) (hq : s / g ≤ 2000) :
    Calls Try.prog 11 #[.agg #[.int .i64 s, .int .i64 g, .int .i64 k], .int .i64 n] w fun e w' => e = .returned (.bool true) ∧ Below w.heap.size w w' := by
  obtain ⟨y, y0, y1, hy⟩ := and_mask n 65535 (by decide)
  simp at hy y1
  obtain ⟨q0, q1, a0, a1⟩ := ap_bd h
  obtain ⟨b0, b1, b2, b3⟩ := lst_bd h
  obtain ⟨s0, s1, g0, g1, k0, k1⟩ := id h
  have hg : (g == 0) = false := by simp; omega
  have hg' : ¬ g = 0 := by omega
  have CR := Lib.hid (fun W => rslips s g W s0 s1 g0 g1 hq)
  have CS := Lib.hid (fun W => slips_yes s g k W h)
  have CA := Lib.hid (fun W => apart_yes s g k W h)
  have CT := Lib.hid (fun W => turn_yes s g k W h)
  have CE := Lib.hid (fun W => early_yes s g k W h)
  have CL := Lib.hid (fun W => late_yes s g k W h)
  have CM := Lib.hid (fun W => least_yes s g k W h)
  obtain ⟨u, HU⟩ : ∃ u, Hid (fitB s g k y = u) := ⟨_, Lib.hid rfl⟩
  have CF := Lib.hid (fun W => fits_c s g k y u HU.out W h y0 (by omega))
  have CP := Lib.hid (fun W (h0 : 1 ≤ y) => spare_yes s g k y W h h0 (by omega))
  have CZ := Lib.hid (fun W (h0 : y < 1) => spare_zero s g k y W h h0)
  have f1 := (fit_eq (n := y) h).trans HU.out
  have f2 := (fit_eq (n := lst s g k) h).trans (lst_fits s g k (lst s g k) h (by omega))
  have f3 := (fit_eq (n := lst s g k - 1) h).trans (lst_not s g k (lst s g k - 1) h (by omega))
  have hap : Hid (ap s g k = k + 2 * (s / g + 1)) := Lib.hid rfl
  obtain ⟨A, HA⟩ : ∃ A, Hid (ap s g k = A) := ⟨_, Lib.hid rfl⟩
  obtain ⟨L, HL⟩ : ∃ L, Hid (lst s g k = L) := ⟨_, Lib.hid rfl⟩
  simp only [HA.out, HL.out] at a0 a1 b0 b1 b2 b3 CA CT CE CL CM CP f1 f2 f3
  have hAk : Hid (k + 2 * (s / g + 1) = A) := Lib.hid (by rw [← hap.out, HA.out])
  obtain ⟨Q, HQ⟩ : ∃ Q, Hid (s / g = Q) := ⟨_, Lib.hid rfl⟩
  rw [HQ.out] at q0 q1 hq CR CS hAk
  have HQ2 := HQ.out
  have w1 : IntKind.i64.wrap (A + 1) = A + 1 := IntWalk.i64_in _ (by omega)
  have w2 : IntKind.i64.wrap (A + k) = A + k := IntWalk.i64_in _ (by omega)
  have w3 : IntKind.i64.wrap (A + k + 1) = A + k + 1 := IntWalk.i64_in _ (by omega)
  have w4 : IntKind.i64.wrap (L - 1) = L - 1 := IntWalk.i64_in _ (by omega)
  have W1 := Lib.hid w1
  have W2 := Lib.hid w2
  have W3 := Lib.hid w3
  have W4 := Lib.hid w4
  have F1 := Lib.hid f1
  have F2 := Lib.hid f2
  have F3 := Lib.hid f3
  have H := Lib.hid h
  clear h w1 w2 w3 w4 f1 f2 f3
  go_enter Try.func11, Try.ntmps11
  go_wp2_with fail
  refine (rright_yes _ _ _ _ H.out).mono ?_
  rintro e w1 ⟨rfl, hb1⟩
  obtain ⟨x, rfl⟩ := Kin.ex hb1
  obtain ⟨K0, K1, K2⟩ := Kin.box3 (Below.refl _ (w.alloc (.cells #[.int .i64 s, .int .i64 g, .int .i64 k] 67)))
  have E1 := x.end1
  go_wp2_with fail
  go_wp2_with fail
  refine (CR.out _).mono ?_; rintro e w' ⟨rfl, rfl⟩
  clear HQ2
  go_wp2_with fail
  rw [hAk.out]
  have M0 := fun q : Kin x.world => Kin.far (K0 x) (Below.refl _ _) q
  have M1 := fun q : Kin x.world => Kin.far (K1 x) (Below.refl _ _) q
  have M2 := fun q : Kin x.world => Kin.far (K2 x) (Below.refl _ _) q
  clear K0 K1 K2
  have w1 := W1.out
  have w2 := W2.out
  have w3 := W3.out
  refine wp_region_kin (by kernel_rfl) (by kernel_rfl) ?_
  repeat (go_big_quiet_step (first | (go_at_call 39; exact Calls.kin _ (right_yes _ _ _ _ H.out)) | (go_at_call 40; exact Calls.kin _ (CS.out _)) | (go_at_call 41; exact Calls.kin _ (CA.out _)) | (go_at_call 42; exact Calls.kin _ (CT.out _)) | (go_at_call 43; exact Calls.kin _ (CE.out _)) | (go_at_call 44; exact Calls.kin _ (CL.out _))))
  refine wpQuiet_nil ?_
  intro _ hw'
  obtain ⟨kx, hw''⟩ := hw'
  subst hw''
  clear w1 w2 w3
  go_wp2_with fail
  refine (Calls.kin _ (CM.out _)).mono ?_; rintro e w' ⟨rfl, y63, rfl⟩
  go_wp2_with fail
  have w1 := W1.out
  have w2 := W2.out
  have w3 := W3.out
  have w4 := W4.out
  have f1 := F1.out
  have f2 := F2.out
  have f3 := F3.out
  have dL : decide (1 < L) = true := by simp; omega
  refine wp_region_kin2 (by kernel_rfl) (by kernel_rfl) ?_
  repeat (go_big_quiet_step (first | (go_at_call 48; exact Calls.kin _ (CF.out _)) | (go_at_call 51; exact Calls.kin_same _ (rfits _ _ _ _ rfl _ (by omega) (by omega) (by omega) (by omega) (by omega) (by omega)))))
  refine wpQuiet_nil ?_
  intro _ hw'
  obtain ⟨kx, hw''⟩ := hw'
  subst hw''
  clear w1 w2 w3 w4 f1 f2 f3
  rcases (show y < 1 ∨ 1 ≤ y by omega) with c | c
  · skip
    go_wp2_with fail
    refine (Calls.kin _ (CZ.out _ c)).mono ?_; rintro e w' ⟨rfl, y64, rfl⟩
    go_wp2_with fail
    refine (Calls.kin _ (one_any _)).mono ?_; rintro e w' ⟨rfl, y65, rfl⟩
    go_wp2
    go_ret
    exact ⟨rfl, E1.trans ((Kin.below ‹Kin x.world›).mono E1.size)⟩
  · skip
    go_wp2_with fail
    refine (Calls.kin _ (CP.out _ c)).mono ?_; rintro e w' ⟨rfl, y66, rfl⟩
    go_wp2_with fail
    refine (Calls.kin _ (one_any _)).mono ?_; rintro e w' ⟨rfl, y67, rfl⟩
    go_wp2
    go_ret
    exact ⟨rfl, E1.trans ((Kin.below ‹Kin x.world›).mono E1.size)⟩

theorem walk (cs : Array Value) (n : Int) (w : World) (hr : Reads w (.fld (.int .i64) (.fld (.int .i64) (.fld (.int .i64) .nil))) cs.toList) (n0 : -9223372036854775808 ≤ n) (n1 : n ≤ 9223372036854775807) :
    Calls Try.prog 11 #[.agg cs, .int .i64 n] w fun e w' => e = .returned (.bool true) ∧ Below w.heap.size w w' := by
  obtain ⟨s, g, k, rfl, _⟩ := reads3 hr
  by_cases h : Rt s g k
  · by_cases hb : s / g ≤ 2000
    · exact walk_yes s g k n w h hb
    · exact walk_far s g k n w h (by omega)
  · exact walk_no s g k n w n0 n1 h

set_option maxRecDepth 100000 in
theorem lifted (os : Os) (started : os.Started) (H : Type) (enc : TypeId × Value → H) :
    ReturnsInHanded {} Try.checked os 11 .any (Rows.marginTellsSpec.pre6 enc Try.prog Try.f11 Rows.marginTellsRow.domain false) (Rows.marginTellsSpec.post enc Try.prog Try.f11 false true false false) := by
  refine returnsInHanded_of_change (C := Try.checked) own started (by kernel_rfl) Try.func11
    (ChangeSpec.witness6 (enc := enc) (C := Try.checked) false ⟨#[], #[.agg #[.int .i64 0, .int .i64 0, .int .i64 0], .int .i64 0], []⟩ 8 (by kernel_rfl) (by kernel_rfl) (by kernel_rfl) (by kernel_rfl)) ?_
  intro W base args ds gs before hval0 hW hcnd _
  have hval : ∀ (j : Nat) t v, Try.f11.params[j]? = some t → args[j]? = some v → Value.okWide Try.prog W .any base t v := hval0
  have hW' := hW
  obtain ⟨p, q, hA0, hV, rfl, hfz, hnd⟩ := hW
  have hA : DataW.TrodAll enc Try.prog W 0 (fun _ => true) true Try.f11.params.toList args.toList ds p := hA0
  rw [Try.params11] at hA hval
  obtain ⟨v0, vs0, d0, ds0, p0, q0, hargs, rfl, rfl, h0, r0⟩ := trodAll_cons hA
  obtain ⟨v1, vs1, d1, ds1, p1, q1, rfl, rfl, rfl, h1, r1⟩ := trodAll_cons r0
  obtain ⟨rfl, rfl, rfl⟩ := trodAll_nil r1
  obtain rfl : args = #[v0, v1] := by cases args; simp_all
  obtain ⟨rfl, rfl⟩ := trodVars_none hV
  have k0 := h0
  have lt0 : ∀ x ∈ p0, x.block < W.heap.size := by obtain ⟨m, hm⟩ := k0; exact DataW.trod_lt m _ _ _ hm
  obtain ⟨m, rfl⟩ := okWide_agg (by first | exact .inl ⟨_, Try.underlying67⟩ | exact .inr ⟨_, _, Try.underlying67⟩) (hval 0 67 v0 rfl rfl)
  have rd0 := reads_cells (sh := .fld (.int .i64) (.fld (.int .i64) (.fld (.int .i64) .nil))) 30 (by kernel_rfl) k0
  obtain ⟨n, rfl, rfl, rfl, wf1⟩ := open_int Try.underlying3 (hval 1 3 v1 rfl rfl) h1
  have bd1 := bounds_i64 wf1
  clear hA0 hval0
  refine (walk m n W rd0 bd1.1 bd1.2).mono fun e W' ⟨he, bel⟩ => ?_
  subst he
  exact ⟨_, rfl, _, _, _, [], _, [], hW', trodAll_mk1 (shut_bool Try.underlying4 _), (trodAll_cons_mk (Below.trod laidOut (by kernel_rfl) (of_decide_eq_true (by kernel_rfl)) k0 bel lt0) (trodAll_cons_mk (shut_int Try.underlying3 wf1) trodAll_mk0)), rfl, bel.frame _, fun h => by cases h⟩

theorem over : Rows.marginTellsRow.holds Try.pinned (OpenSpec.ofChange Rows.marginTellsSpec) :=
  OpenClaim.holds_of_wide 11 Try.f11 rfl rfl rfl rfl rfl rfl rfl ⟨rfl, rfl, rfl, rfl, rfl⟩ rfl rfl rfl rfl rfl (by kernel_rfl) Try.func11 (by kernel_rfl)
    (of_decide_eq_true (by kernel_rfl)) (by unfold Func.isWrapper; first | (rw [if_pos (by decide +kernel)]; kernel_rfl) | (rw [if_neg (by decide +kernel)]; exact ⟨rfl, rfl⟩))
    (fun os started H enc _ => lifted os started H enc)

/-- The statement. -/
theorem proved : Rows.MarginTellsSaid := over
end Go.Proofs.Ytnbconkefhoblaa.lawMarginTells
