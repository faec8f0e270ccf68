/- Any fault may be, or not, and has the byte of any tick, as the document says: for every fault, tick and number of modules; no condition. -/
import Derived.Deep.DeepCutAuto
import Derived.Test.YtnbconkefhoblaaFltD
import Derived.Test.YtnbconkefhoblaaRows
import Derived.WalkKit
import Derived.ProofKit
import Derived.OpenShut
import Derived.ShutString
import Derived.ChangeOld
import Derived.Below
namespace Go.Proofs.Ytnbconkefhoblaa.lawFaultTells
open Go.ChangeShapes Go.WideShapes Go.ChangeAt Go.RowKit Base
open Go.ChangeMaps (open_string shut_string)
set_option linter.unusedVariables false
set_option linter.unusedSimpArgs false
theorem own : ownKnob Try.prog.godebug = none := by kernel_rfl
theorem laidOut : laidOutB Try.prog = true := by kernel_rfl
open Ly20

def p1B (kd fr : Int) (n : Nat) : Bool := decide (kd ≠ 0 ∧ ((kd ≠ 1 ∧ kd ≠ 2) ∨ fr < 0 ∨ n < 1 ∨ 256 < n))
def p2B (kd md ln ms : Int) : Bool := decide ((kd = 1 ∧ (ln < 0 ∨ 3 < ln)) ∨ (kd = 2 ∧ (md < 0 ∨ ms ≤ md)))
theorem right_p (kd md ln fr : Int) (n : Nat) (ms : Int) : rightF kd md ln fr n ms = if p1B kd fr n || p2B kd md ln ms then 2 else 0 := by
  unfold rightF p1B p2B
  simp only [Bool.or_eq_true, decide_eq_true_eq]
  by_cases k0 : kd = 0
  · rw [if_pos k0, if_neg (by omega)]
  · rw [if_neg k0]
    by_cases k1 : fr < 0 ∨ n < 1 ∨ 256 < n
    · rw [if_pos k1, if_pos (by omega)]
    · rw [if_neg k1]
      by_cases k2 : (kd = 1 ∧ 0 ≤ ln ∧ ln ≤ 3) ∨ (kd = 2 ∧ 0 ≤ md ∧ md < ms)
      · rw [if_pos k2, if_neg (by omega)]
      · rw [if_neg k2, if_pos (by omega)]

theorem of_c (o : Bool) (kd md : Int) (fy : Bool) (ln fr : Int) (A : Option Addr) (n c : Nat) (m : Int) (w : World) (ho : ofB kd md m = o) : Calls Try.prog 24 #[.agg #[.int .i64 kd, .int .i64 md, .bool fy, .int .i64 ln, .int .i64 fr, .slice A n c], .int .i64 m] w fun e w' => e = .returned (.bool o) ∧ Below w.heap.size w w' := by
  subst ho; exact of_any kd md fy ln fr A n c m w
theorem rbyte_k (kd fr tk v : Int) (A : Option Addr) (n c : Nat) (b : Bool) (w : World) (ht : tk ≤ 9223372036854775807) (hv0 : 0 ≤ v) (hv1 : v ≤ 255) (h : AtR w kd fr A n tk v b) :
    Calls Try.prog 23 #[.int .i64 kd, .int .i64 fr, .slice A n c, .int .i64 tk] w fun e w' => e = .returned (.tuple #[.int .i64 v, .bool b]) ∧ Below w.heap.size w w' :=
  (rbyte_any kd fr tk v A n c b w ht hv0 hv1 h).mono fun e w' ⟨he, hw⟩ => ⟨he, by subst hw; exact Below.refl _ _⟩

set_option maxRecDepth 100000 in
theorem walk_long (kd md : Int) (fy : Bool) (ln fr : Int) (A : Option Addr) (n c : Nat) (ms tk : Int) (w : World) (hm : n ≤ 9223372036854775807) (hn : 400 < n) :
    Calls Try.prog 5 #[.agg #[.int .i64 kd, .int .i64 md, .bool fy, .int .i64 ln, .int .i64 fr, .slice A n c], .int .i64 ms, .int .i64 tk] w fun e w' => e = .returned (.bool true) ∧ Below w.heap.size w w' := by
  go_enter Try.func5, Try.ntmps5
  go_wp2
  go_ret
  refine ⟨rfl, ?_⟩
  repeat (first | exact Below.refl _ _ | refine Below.setCell ?_ (by first | omega | (simp; done) | (simp; omega)) _ | refine Below.alloc ?_ (by first | omega | (simp; done) | (simp; omega)) _ | refine below_drewN' ?_ _ | refine Below.drew ?_)

set_option maxRecDepth 100000 in
set_option maxHeartbeats 4000000 in
theorem walk_in (kd md : Int) (fy : Bool) (ln fr : Int) (A : Option Addr) (n c : Nat) (xs : List Int) (ms tk : Int) (w : World) (htk : tk ≤ 9223372036854775807) (h1 : n ≤ 400) (hl : Lst w A n (xs.map (Value.int .u8))) (hx : ∀ x ∈ xs, 0 ≤ x ∧ x ≤ 255) :
    Calls Try.prog 5 #[.agg #[.int .i64 kd, .int .i64 md, .bool fy, .int .i64 ln, .int .i64 fr, .slice A n c], .int .i64 ms, .int .i64 tk] w fun e w' => e = .returned (.bool true) ∧ Below w.heap.size w w' := by
  have hW : Below w.heap.size w (w.alloc (.cells #[.int .i64 kd, .int .i64 md, .bool fy, .int .i64 ln, .int .i64 fr, .slice A n c] 33)) := (Below.refl _ _).alloc (Nat.le_refl _) _
  have HL := Lib.hid hl
  have HX := Lib.hid hx
  have HW := Lib.hid hW
  clear hl hx hW
  go_enter Try.func5, Try.ntmps5
  go_upto_region 4 with (fail)
  go_cut [45] (fun s wx => s = .bool (p1B kd fr n) ∧ wx = (w.alloc (.cells #[.int .i64 kd, .int .i64 md, .bool fy, .int .i64 ln, .int .i64 fr, .slice A n c] 33)))
  case first =>
    rcases (show kd = 0 ∨ (kd ≠ 0 ∧ kd ≠ 1 ∧ kd ≠ 2) ∨ kd = 1 ∨ kd = 2 by omega) with rfl | ⟨k0, k1, k2⟩ | rfl | rfl
    · go_wp2_with fail
      go_meet
      exact ⟨congrArg Value.bool (by simp [p1B]), rfl⟩
    · have k0' : (kd != 0) = true := by simpa using k0
      have k1' : (kd != 1) = true := by simpa using k1
      have k2' : (kd != 2) = true := by simpa using k2
      go_wp2_with fail
      go_meet
      exact ⟨congrArg Value.bool (by simp [p1B, k0, k1, k2]), rfl⟩
    all_goals
      rcases (show fr < 0 ∨ (0 ≤ fr ∧ n < 1) ∨ (0 ≤ fr ∧ 1 ≤ n ∧ 256 < n) ∨ (0 ≤ fr ∧ 1 ≤ n ∧ n ≤ 256) by omega) with g0 | ⟨g0, g1⟩ | ⟨g0, g1, g2⟩ | ⟨g0, g1, g2⟩
      all_goals
        go_wp2_with fail
        go_meet
        exact ⟨congrArg Value.bool (by rw [Bool.eq_iff_iff]; simp [p1B]; try omega), rfl⟩
  case rest =>
    obtain ⟨rfl, rfl⟩ := hcut
    cases hp1 : p1B kd fr n
    all_goals
      go_upto_region 6 with (fail)
      go_cut [74] (fun s wx => s = .bool (p2B kd md ln ms) ∧ wx = (w.alloc (.cells #[.int .i64 kd, .int .i64 md, .bool fy, .int .i64 ln, .int .i64 fr, .slice A n c] 33)))
      case first =>
        clear hp1
        rcases (show kd = 0 ∨ (kd ≠ 0 ∧ kd ≠ 1 ∧ kd ≠ 2) ∨ kd = 1 ∨ kd = 2 by omega) with rfl | ⟨k0, k1, k2⟩ | rfl | rfl
        · go_wp2_with fail
          go_meet
          exact ⟨congrArg Value.bool (by simp [p2B]), rfl⟩
        · have k1' : (kd == 1) = false := by simpa using k1
          have k2' : (kd == 2) = false := by simpa using k2
          go_wp2_with fail
          go_meet
          exact ⟨congrArg Value.bool (by simp [p2B, k1, k2]), rfl⟩
        · rcases (show ln < 0 ∨ (0 ≤ ln ∧ 3 < ln) ∨ (0 ≤ ln ∧ ln ≤ 3) by omega) with g0 | ⟨g0, g1⟩ | ⟨g0, g1⟩
          all_goals
            go_wp2_with fail
            go_meet
            exact ⟨congrArg Value.bool (by rw [Bool.eq_iff_iff]; simp [p2B]; try omega), rfl⟩
        · rcases (show md < 0 ∨ (0 ≤ md ∧ ms ≤ md) ∨ (0 ≤ md ∧ md < ms) by omega) with g0 | ⟨g0, g1⟩ | ⟨g0, g1⟩
          all_goals
            go_wp2_with fail
            go_meet
            exact ⟨congrArg Value.bool (by rw [Bool.eq_iff_iff]; simp [p2B]; try omega), rfl⟩
      case rest =>
        obtain ⟨rfl, rfl⟩ := hcut
        cases hp2 : p2B kd md ln ms
        all_goals
          obtain ⟨r, HR⟩ : ∃ r, Hid (rightF kd md ln fr n ms = r) := ⟨_, Lib.hid rfl⟩
          have hr := right_p kd md ln fr n ms
          rw [HR.out, hp1, hp2] at hr
          simp at hr
          subst hr
          go_wp2_with fail
          refine (right_c _ kd md fy ln fr A n c ms _ HR.out (by omega)).mono ?_
          rintro e w1 ⟨rfl, hb1⟩
          obtain ⟨x, rfl⟩ := Kin.ex hb1
          obtain ⟨K0, K1, K2, K3, K4, K5⟩ := Kin.box6 (Below.refl _ (w.alloc (.cells #[.int .i64 kd, .int .i64 md, .bool fy, .int .i64 ln, .int .i64 fr, .slice A n c] 33)))
          by_cases hfr : fr < 0
          · skip
            go_wp2_with fail
            refine (Calls.kin _ (one_any _)).mono ?_; rintro e w' ⟨rfl, y3, rfl⟩
            go_wp2
            go_ret
            exact ⟨rfl, Kin.end1 ‹_›⟩
          · obtain ⟨v, b, hAt, v0, v1⟩ := AtR.ex kd fr tk (by omega) h1 HL.out HX.out
            have A1 := Lib.hid (fun q : Kin (w.alloc (.cells #[.int .i64 kd, .int .i64 md, .bool fy, .int .i64 ln, .int .i64 fr, .slice A n c] 33)) => hAt.kept (HW.out.trans (q.below.mono HW.out.size)))
            clear hAt
            obtain ⟨o, HO⟩ : ∃ o, Hid (ofB kd md ms = o) := ⟨_, Lib.hid rfl⟩
            have hk : (kd == 2 && md == ms) = o := HO.out
            have A2 := Lib.hid (fun W => of_c o kd md fy ln fr A n c ms W HO.out)
            go_wp2_with fail
            refine (Calls.kin _ (at_any kd md fy ln fr A n c tk v b _ htk (A1.out _))).mono ?_; rintro e w' ⟨rfl, y4, rfl⟩
            go_wp2_with fail
            refine (Calls.kin _ (rbyte_k kd fr tk v A n c b _ htk v0 v1 (A1.out _))).mono ?_; rintro e w' ⟨rfl, y5, rfl⟩
            go_wp2_with fail
            cases hk2 : kd == 2
            · rw [hk2] at hk
              simp at hk
              subst hk
              refine wp_region_kin2 (by kernel_rfl) (by kernel_rfl) ?_
              repeat (go_big_quiet_step (first | (go_at_call 24; exact Calls.kin _ (A2.out _)) | (go_at_call 21; exact Calls.kin _ (one_any _))))
              refine wpQuiet_nil ?_
              intro _ hw'
              obtain ⟨kx, hw''⟩ := hw'
              subst hw''
              go_wp2
              go_ret
              exact ⟨rfl, Kin.end1 ‹_›⟩
            · rw [hk2] at hk
              simp only [Bool.true_and] at hk
              refine wp_region_kin2 (by kernel_rfl) (by kernel_rfl) ?_
              repeat (go_big_quiet_step (first | (go_at_call 24; exact Calls.kin _ (A2.out _)) | (go_at_call 21; exact Calls.kin _ (one_any _))))
              refine wpQuiet_nil ?_
              intro _ hw'
              obtain ⟨kx, hw''⟩ := hw'
              subst hw''
              go_wp2
              go_ret
              exact ⟨rfl, Kin.end1 ‹_›⟩

theorem walk (cs : Array Value) (ms tk : Int) (w : World) (hr : Reads w shF cs.toList) (ms0 : -9223372036854775808 ≤ ms) (ms1 : ms ≤ 9223372036854775807) (tk0 : -9223372036854775808 ≤ tk) (tk1 : tk ≤ 9223372036854775807) :
    Calls Try.prog 5 #[.agg cs, .int .i64 ms, .int .i64 tk] w fun e w' => e = .returned (.bool true) ∧ Below w.heap.size w w' := by
  obtain ⟨kd, md, fy, ln, fr, A, n, c, xs, rfl, hl, hx, hnc, hcm, _⟩ := readsF hr
  unfold maxLen at hcm
  by_cases h : n ≤ 400
  · exact walk_in kd md fy ln fr A n c xs ms tk w tk1 h hl hx
  · exact walk_long kd md fy ln fr A n c ms tk w (by omega) (by omega)

set_option maxRecDepth 100000 in
theorem lifted (os : Os) (started : os.Started) (H : Type) (enc : TypeId × Value → H) :
    ReturnsInHanded {} Try.checked os 5 .any (Rows.faultTellsSpec.pre6 enc Try.prog Try.f5 Rows.faultTellsRow.domain false) (Rows.faultTellsSpec.post enc Try.prog Try.f5 false true false false) := by
  refine returnsInHanded_of_change (C := Try.checked) own started (by kernel_rfl) Try.func5
    (ChangeSpec.witness6 (enc := enc) (C := Try.checked) false ⟨#[], #[.agg #[.int .i64 0, .int .i64 0, .bool false, .int .i64 0, .int .i64 0, .slice none 0 0], .int .i64 0, .int .i64 0], []⟩ 8 (by kernel_rfl) (by kernel_rfl) (by kernel_rfl) (by kernel_rfl)) ?_
  intro W base args ds gs before hval0 hW hcnd _
  have hval : ∀ (j : Nat) t v, Try.f5.params[j]? = some t → args[j]? = some v → Value.okWide Try.prog W .any base t v := hval0
  have hW' := hW
  obtain ⟨p, q, hA0, hV, rfl, hfz, hnd⟩ := hW
  have hA : DataW.TrodAll enc Try.prog W 0 (fun _ => true) true Try.f5.params.toList args.toList ds p := hA0
  rw [Try.params5] at hA hval
  obtain ⟨v0, vs0, d0, ds0, p0, q0, hargs, rfl, rfl, h0, r0⟩ := trodAll_cons hA
  obtain ⟨v1, vs1, d1, ds1, p1, q1, rfl, rfl, rfl, h1, r1⟩ := trodAll_cons r0
  obtain ⟨v2, vs2, d2, ds2, p2, q2, rfl, rfl, rfl, h2, r2⟩ := trodAll_cons r1
  obtain ⟨rfl, rfl, rfl⟩ := trodAll_nil r2
  obtain rfl : args = #[v0, v1, v2] := by cases args; simp_all
  obtain ⟨rfl, rfl⟩ := trodVars_none hV
  have k0 := h0
  have lt0 : ∀ x ∈ p0, x.block < W.heap.size := by obtain ⟨m, hm⟩ := k0; exact DataW.trod_lt m _ _ _ hm
  obtain ⟨f, rfl⟩ := okWide_agg (by first | exact .inl ⟨_, Try.underlying33⟩ | exact .inr ⟨_, _, Try.underlying33⟩) (hval 0 33 v0 rfl rfl)
  have rd0 := reads_cells (sh := shF) 30 (by kernel_rfl) k0
  obtain ⟨ms, rfl, rfl, rfl, wf1⟩ := open_int Try.underlying3 (hval 1 3 v1 rfl rfl) h1
  have bd1 := bounds_i64 wf1
  obtain ⟨tk, rfl, rfl, rfl, wf2⟩ := open_int Try.underlying3 (hval 2 3 v2 rfl rfl) h2
  have bd2 := bounds_i64 wf2
  clear hA0 hval0
  refine (walk f ms tk W rd0 bd1.1 bd1.2 bd2.1 bd2.2).mono fun e W' ⟨he, bel⟩ => ?_
  subst he
  exact ⟨_, rfl, _, _, _, [], _, [], hW', trodAll_mk1 (shut_bool Try.underlying4 _), (trodAll_cons_mk (Below.trod laidOut (by kernel_rfl) (of_decide_eq_true (by kernel_rfl)) k0 bel lt0) (trodAll_cons_mk (shut_int Try.underlying3 wf1) (trodAll_cons_mk (shut_int Try.underlying3 wf2) trodAll_mk0))), rfl, bel.frame _, fun h => by cases h⟩

theorem over : Rows.faultTellsRow.holds Try.pinned (OpenSpec.ofChange Rows.faultTellsSpec) :=
  OpenClaim.holds_of_wide 5 Try.f5 rfl rfl rfl rfl rfl rfl rfl ⟨rfl, rfl, rfl, rfl, rfl⟩ rfl rfl rfl rfl rfl (by kernel_rfl) Try.func5 (by kernel_rfl)
    (of_decide_eq_true (by kernel_rfl)) (by unfold Func.isWrapper; first | (rw [if_pos (by decide +kernel)]; kernel_rfl) | (rw [if_neg (by decide +kernel)]; exact ⟨rfl, rfl⟩))
    (fun os started H enc _ => lifted os started H enc)

/-- The statement. -/
theorem proved : Rows.FaultTellsSaid := over
end Go.Proofs.Ytnbconkefhoblaa.lawFaultTells
