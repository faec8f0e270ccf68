/- A pattern comes again and again: what counts at a tick counts as many ticks later as the pattern has bytes: for every fault, tick and lines; no condition. -/
import Derived.IntWalk
import Derived.Test.YtnbconkefhoblaaFltD
import Derived.Test.YtnbconkefhoblaaRows
import Derived.WalkKit
import Derived.ProofKit
import Derived.OpenShut
import Derived.ShutString
import Derived.ChangeOld
import Derived.Below
namespace Go.Proofs.Ytnbconkefhoblaa.lawFaultAgain
open Go.ChangeShapes Go.WideShapes Go.ChangeAt Go.RowKit Base
open Go.ChangeMaps (open_string shut_string)
set_option linter.unusedVariables false
set_option linter.unusedSimpArgs false
theorem own : ownKnob Try.prog.godebug = none := by kernel_rfl
theorem laidOut : laidOutB Try.prog = true := by kernel_rfl
open Ly20

set_option maxRecDepth 100000 in
set_option maxHeartbeats 1000000 in
theorem walk_out (kd md : Int) (fy : Bool) (ln fr : Int) (A : Option Addr) (n c : Nat) (tk : Int) (l : Nat) (w : World) (hm : n ≤ 9223372036854775807) (hn : n = 0 ∨ 300 < n) :
    Calls Try.prog 8 #[.agg #[.int .i64 kd, .int .i64 md, .bool fy, .int .i64 ln, .int .i64 fr, .slice A n c], .int .i64 tk, .int .u8 l] w fun e w' => e = .returned (.bool true) ∧ Below w.heap.size w w' := by
  rcases (show n = 0 ∨ (1 ≤ n ∧ 300 < n) by omega) with rfl | ⟨h0, h1⟩
  all_goals
    go_enter Try.func8, Try.ntmps8
    go_wp2_with (first | (go_at_call 21; refine (one_any _).mono ?_; rintro e w' ⟨rfl, hb⟩))
    go_ret
    refine ⟨rfl, ?_⟩
    repeat (first | exact Below.refl _ _ | refine Below.setCell ?_ (by first | omega | (simp; done) | (simp; omega) | (have := hb.size; simp at this ⊢; omega)) _ | refine Below.alloc ?_ (by first | omega | (simp; done) | (simp; omega) | (have := hb.size; simp at this ⊢; omega)) _ | refine below_drewN' ?_ _ | refine Below.drew ?_ | refine Below.trans ?_ (hb.mono (by first | omega | (simp; done) | (simp; omega) | (have := hb.size; simp at this ⊢; omega))))

set_option maxRecDepth 100000 in
set_option maxHeartbeats 2000000 in
theorem walk_in (kd md : Int) (fy : Bool) (ln fr : Int) (A : Option Addr) (n c : Nat) (xs : List Int) (tk : Int) (l : Nat) (w : World) (hl8 : l < 256) (h0 : 1 ≤ n) (h1 : n ≤ 300) (hl : Lst w A n (xs.map (Value.int .u8))) (hx : ∀ x ∈ xs, 0 ≤ x ∧ x ≤ 255) :
    Calls Try.prog 8 #[.agg #[.int .i64 kd, .int .i64 md, .bool fy, .int .i64 ln, .int .i64 fr, .slice A n c], .int .i64 tk, .int .u8 l] w fun e w' => e = .returned (.bool true) ∧ Below w.heap.size w w' := by
  obtain ⟨g, g0, g1, hg⟩ := and_mask fr 65535 (by decide)
  obtain ⟨t, t0, t1, ht⟩ := and_mask tk 65535 (by decide)
  simp at hg g1 ht t1
  obtain ⟨v, b, hAt, v0, v1⟩ := AtR.ex kd g (g + t) g0 (by omega) hl hx
  have hAt2 := hAt.again (by omega) (by omega)
  obtain ⟨r, HR⟩ : ∃ r, Hid (linF kd ln l v b = r) := ⟨_, Lib.hid rfl⟩
  have hW : Below w.heap.size w (w.alloc (.cells #[.int .i64 kd, .int .i64 md, .bool fy, .int .i64 ln, .int .i64 g, .slice A n c] 33)) := (Below.refl _ _).alloc (Nat.le_refl _) _
  have A0 := Lib.hid (hAt.kept hW)
  have A1 := Lib.hid (fun q : Kin (w.alloc (.cells #[.int .i64 kd, .int .i64 md, .bool fy, .int .i64 ln, .int .i64 g, .slice A n c] 33)) => hAt.kept (hW.trans (q.below.mono hW.size)))
  have A2 := Lib.hid (fun q : Kin (w.alloc (.cells #[.int .i64 kd, .int .i64 md, .bool fy, .int .i64 ln, .int .i64 g, .slice A n c] 33)) => hAt2.kept (hW.trans (q.below.mono hW.size)))
  have A3 := Lib.hid (fun q : Kin (w.alloc (.cells #[.int .i64 kd, .int .i64 md, .bool fy, .int .i64 ln, .int .i64 g, .slice A n c] 33)) => AtR.ahead q.world (kd := kd) (A := A) (n := n) (show g - 1 < g by omega))
  obtain ⟨K0, K1, K2, K3, K4, K5⟩ := Kin.box6 (Below.refl _ (w.alloc (.cells #[.int .i64 kd, .int .i64 md, .bool fy, .int .i64 ln, .int .i64 g, .slice A n c] 33)))
  have w1 : IntKind.i64.wrap (g + t + n) = g + t + n := IntWalk.i64_in _ (by omega)
  have W1 := Lib.hid w1
  clear hAt hAt2 hl hx w1
  go_enter Try.func8, Try.ntmps8
  go_wp2_with fail
  refine (at_any kd md fy ln g A n c (g + t) v b _ (by omega) A0.out).mono ?_
  rintro e w1 ⟨rfl, hb1⟩
  obtain ⟨x, rfl⟩ := Kin.ex hb1
  go_wp2_with fail
  refine (Calls.kin _ (at_any kd md fy ln g A n c (g + t + n) v b _ (by omega) (A2.out _))).mono ?_; rintro e w' ⟨rfl, y1, rfl⟩
  go_wp2_with fail
  refine (Calls.kin _ (at_any kd md fy ln g A n c (g - 1) 0 false _ (by omega) (A3.out _))).mono ?_; rintro e w' ⟨rfl, y2, rfl⟩
  go_wp2_with fail
  have w1 := W1.out
  refine wp_region_kin2 (by kernel_rfl) (by kernel_rfl) ?_
  repeat (go_big_quiet_step (first | (go_at_call 25; exact Calls.kin _ (lines_c r kd md fy ln g A n c l _ v b _ HR.out hl8 (by omega) v0 v1 (by first | exact A1.out _ | exact A2.out _))) | (go_at_call 21; exact Calls.kin _ (one_any _))))
  refine wpQuiet_nil ?_
  intro _ hw'
  obtain ⟨kx, hw''⟩ := hw'
  subst hw''
  go_wp2
  go_ret
  exact ⟨rfl, Kin.end1 ‹_›⟩

theorem walk (cs : Array Value) (tk l : Int) (w : World) (hr : Reads w shF cs.toList) (tk0 : -9223372036854775808 ≤ tk) (tk1 : tk ≤ 9223372036854775807) (l0 : 0 ≤ l) (l1 : l ≤ 255) :
    Calls Try.prog 8 #[.agg cs, .int .i64 tk, .int .u8 l] w fun e w' => e = .returned (.bool true) ∧ Below w.heap.size w w' := by
  obtain ⟨kd, md, fy, ln, fr, A, n, c, xs, rfl, hl, hx, hnc, hcm, _⟩ := readsF hr
  obtain ⟨m, rfl⟩ : ∃ m : Nat, l = m := ⟨l.toNat, by omega⟩
  unfold maxLen at hcm
  by_cases h : 1 ≤ n ∧ n ≤ 300
  · exact walk_in kd md fy ln fr A n c xs tk m w (by omega) h.1 h.2 hl hx
  · exact walk_out kd md fy ln fr A n c tk m w (by omega) (by omega)

set_option maxRecDepth 100000 in
theorem lifted (os : Os) (started : os.Started) (H : Type) (enc : TypeId × Value → H) :
    ReturnsInHanded {} Try.checked os 8 .any (Rows.faultAgainSpec.pre6 enc Try.prog Try.f8 Rows.faultAgainRow.domain false) (Rows.faultAgainSpec.post enc Try.prog Try.f8 false true false false) := by
  refine returnsInHanded_of_change (C := Try.checked) own started (by kernel_rfl) Try.func8
    (ChangeSpec.witness6 (enc := enc) (C := Try.checked) false ⟨#[], #[.agg #[.int .i64 0, .int .i64 0, .bool false, .int .i64 0, .int .i64 0, .slice none 0 0], .int .i64 0, .int .u8 0], []⟩ 8 (by kernel_rfl) (by kernel_rfl) (by kernel_rfl) (by kernel_rfl)) ?_
  intro W base args ds gs before hval0 hW hcnd _
  have hval : ∀ (j : Nat) t v, Try.f8.params[j]? = some t → args[j]? = some v → Value.okWide Try.prog W .any base t v := hval0
  have hW' := hW
  obtain ⟨p, q, hA0, hV, rfl, hfz, hnd⟩ := hW
  have hA : DataW.TrodAll enc Try.prog W 0 (fun _ => true) true Try.f8.params.toList args.toList ds p := hA0
  rw [Try.params8] at hA hval
  obtain ⟨v0, vs0, d0, ds0, p0, q0, hargs, rfl, rfl, h0, r0⟩ := trodAll_cons hA
  obtain ⟨v1, vs1, d1, ds1, p1, q1, rfl, rfl, rfl, h1, r1⟩ := trodAll_cons r0
  obtain ⟨v2, vs2, d2, ds2, p2, q2, rfl, rfl, rfl, h2, r2⟩ := trodAll_cons r1
  obtain ⟨rfl, rfl, rfl⟩ := trodAll_nil r2
  obtain rfl : args = #[v0, v1, v2] := by cases args; simp_all
  obtain ⟨rfl, rfl⟩ := trodVars_none hV
  have k0 := h0
  have lt0 : ∀ x ∈ p0, x.block < W.heap.size := by obtain ⟨m, hm⟩ := k0; exact DataW.trod_lt m _ _ _ hm
  obtain ⟨f, rfl⟩ := okWide_agg (by first | exact .inl ⟨_, Try.underlying33⟩ | exact .inr ⟨_, _, Try.underlying33⟩) (hval 0 33 v0 rfl rfl)
  have rd0 := reads_cells (sh := shF) 30 (by kernel_rfl) k0
  obtain ⟨tk, rfl, rfl, rfl, wf1⟩ := open_int Try.underlying3 (hval 1 3 v1 rfl rfl) h1
  have bd1 := bounds_i64 wf1
  obtain ⟨l, rfl, rfl, rfl, wf2⟩ := open_int Try.underlying42 (hval 2 42 v2 rfl rfl) h2
  have bd2 := bounds_u8 wf2
  clear hA0 hval0
  refine (walk f tk l W rd0 bd1.1 bd1.2 bd2.1 bd2.2).mono fun e W' ⟨he, bel⟩ => ?_
  subst he
  exact ⟨_, rfl, _, _, _, [], _, [], hW', trodAll_mk1 (shut_bool Try.underlying4 _), (trodAll_cons_mk (Below.trod laidOut (by kernel_rfl) (of_decide_eq_true (by kernel_rfl)) k0 bel lt0) (trodAll_cons_mk (shut_int Try.underlying3 wf1) (trodAll_cons_mk (shut_int Try.underlying42 wf2) trodAll_mk0))), rfl, bel.frame _, fun h => by cases h⟩

theorem over : Rows.faultAgainRow.holds Try.pinned (OpenSpec.ofChange Rows.faultAgainSpec) :=
  OpenClaim.holds_of_wide 8 Try.f8 rfl rfl rfl rfl rfl rfl rfl ⟨rfl, rfl, rfl, rfl, rfl⟩ rfl rfl rfl rfl rfl (by kernel_rfl) Try.func8 (by kernel_rfl)
    (of_decide_eq_true (by kernel_rfl)) (by unfold Func.isWrapper; first | (rw [if_pos (by decide +kernel)]; kernel_rfl) | (rw [if_neg (by decide +kernel)]; exact ⟨rfl, rfl⟩))
    (fun os started H enc _ => lifted os started H enc)

/-- The statement. -/
theorem proved : Rows.FaultAgainSaid := over
end Go.Proofs.Ytnbconkefhoblaa.lawFaultAgain
