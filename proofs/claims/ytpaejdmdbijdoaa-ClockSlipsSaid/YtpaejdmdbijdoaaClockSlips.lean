/- Any slips may be, or not, as the document says: for every list of slips and every gap; no condition. -/
import Derived.Test.YtpaejdmdbijdoaaClkS
import Derived.Test.YtpaejdmdbijdoaaSh
import Derived.Test.YtpaejdmdbijdoaaRows
import Derived.WalkKit
import Derived.ProofKit
import Derived.OpenShut
import Derived.ShutString
import Derived.ChangeOld
import Derived.Below
namespace Go.Proofs.Ytpaejdmdbijdoaa.lawClockSlips
open Go.ChangeShapes Go.WideShapes Go.ChangeAt Go.RowKit Base
open Go.ChangeMaps (open_string shut_string)
set_option linter.unusedVariables false
set_option linter.unusedSimpArgs false
theorem own : ownKnob Try.prog.godebug = none := by kernel_rfl
theorem laidOut : laidOutB Try.prog = true := by kernel_rfl
open Ly5

/-- What the inner loop knows, behind j of the places ahead of k. -/
def near (l : List Int) (gap : Int) (k j : Nat) : Prop := ∀ i, i < j → l.getD k 0 ≠ 0 → l.getD i 0 ≠ 0 → gap ≤ (k : Int) - i
theorem near_zero (l : List Int) (gap : Int) (k : Nat) : near l gap k 0 := fun i h => by omega
theorem near_step {l : List Int} {gap : Int} {k j : Nat} (h : near l gap k j) (g : l.getD k 0 = 0 ∨ l.getD j 0 = 0 ∨ gap ≤ (k : Int) - j) : near l gap k (j + 1) := fun i hi h1 h2 => by
  by_cases e : i = j
  · subst e
    rcases g with g | g | g
    · exact absurd g h1
    · exact absurd g h2
    · exact g
  · exact h i (by omega) h1 h2
theorem okTo_step {l : List Int} {gap : Int} {k : Nat} (ho : OkTo l gap k) (hb : -1 ≤ l.getD k 0 ∧ l.getD k 0 ≤ 1) (h : near l gap k k) : OkTo l gap (k + 1) := fun i hi => by
  by_cases e : i = k
  · subst e; exact ⟨hb, fun j hj h1 h2 => h j hj h1 h2⟩
  · exact ho i (by omega)
theorem not_gap {l : List Int} {gap : Int} {k j n : Nat} (hk : k < n) (hj : j < k) (h1 : l.getD k 0 ≠ 0) (h2 : l.getD j 0 ≠ 0) (h : (k : Int) - j < gap) : ¬ OkTo l gap n := fun g => by have := (g k hk).2 j hj h1 h2; omega

set_option maxHeartbeats 1000000 in
theorem rslips_any (A : Option Addr) (n c : Nat) (l : List Int) (gap : Int) (w : World) (hl : Lst w A n (l.map (Value.int .i64))) (hn : n ≤ 1000000) (hg0 : -9223372036854775808 ≤ gap) (hg1 : gap ≤ 9223372036854775807) :
    Calls Try.prog 35 #[.slice A n c, .int .i64 gap] w (SPost l gap n w) := by
  have hln : l.length = n := by simpa using hl.1
  have HLN := Lib.hid hln
  clear hln
  go_enter Try.func35, Try.ntmps35
  go_wp2
  go_loop [5] (fun i => ∃ k : Nat, k ≤ n ∧ i = .int .i64 k ∧ OkTo l gap k) (fun i => n - (intOf i).toNat)
  case atStart => exact ⟨0, by omega, rfl, okTo_zero _ _⟩
  case round =>
    obtain ⟨k, hk, rfl, ho⟩ := hrel
    have HO := Lib.hid ho
    clear ho
    by_cases hlt : k < n
    · obtain ⟨b, off, rfl, hbs, hc⟩ := hl.get hlt
      rw [List.getElem_map] at hc
      obtain ⟨v, HV⟩ : ∃ v, Hid (l.getD k 0 = v) := ⟨_, rfl⟩
      have e : l[k]'(by rw [HLN.out]; exact hlt) = v := by rw [← getD_lt]; exact HV.out
      rw [e] at hc
      clear e
      rcases (show v < -1 ∨ (-1 ≤ v ∧ 1 < v) ∨ (-1 ≤ v ∧ v ≤ 1) by omega) with g | ⟨g, g1⟩ | ⟨g, g1⟩
      · have HN := Lib.hid (not_out (gap := gap) hlt (.inl (by rw [HV.out]; exact g)))
        go_wp2
        go_ret
        exact SPost.no HN.out
      · have HN := Lib.hid (not_out (gap := gap) hlt (.inr (by rw [HV.out]; exact g1)))
        go_wp2
        go_ret
        exact SPost.no HN.out
      · go_wp2
        go_loop [6] (fun i => ∃ j : Nat, j ≤ k ∧ i = .int .i64 j ∧ near l gap k j) (fun i => k - (intOf i).toNat)
        case atStart => exact ⟨0, by omega, rfl, near_zero _ _ _⟩
        case round =>
          obtain ⟨j, hj, rfl, hnr⟩ := hrel
          have HNR := Lib.hid hnr
          clear hnr
          by_cases hjk : j < k
          · obtain ⟨b', off', e', _, hc2⟩ := hl.get (k := j) (by omega)
            cases e'
            rw [List.getElem_map] at hc2
            obtain ⟨u, HU⟩ : ∃ u, Hid (l.getD j 0 = u) := ⟨_, rfl⟩
            have e : l[j]'(by rw [HLN.out]; omega) = u := by rw [← getD_lt]; exact HU.out
            rw [e] at hc2
            clear e
            by_cases hv0 : v = 0
            · subst hv0
              go_wp2
              go_round
              case rel => exact ⟨j + 1, by omega, by go_num, near_step HNR.out (.inl HV.out)⟩
              case measure => simp [intOf]; omega
            · have hv1 : (v == 0) = false := by simpa using hv0
              have hv2 : (v != 0) = true := by simpa using hv0
              by_cases hu0 : u = 0
              · subst hu0
                go_wp2
                go_round
                case rel => exact ⟨j + 1, by omega, by go_num, near_step HNR.out (.inr (.inl HU.out))⟩
                case measure => simp [intOf]; omega
              · have hu1 : (u == 0) = false := by simpa using hu0
                have hu2 : (u != 0) = true := by simpa using hu0
                by_cases hgp : (k : Int) - j < gap
                · have HN := Lib.hid (not_gap (gap := gap) hlt hjk (by rw [HV.out]; exact hv0) (by rw [HU.out]; exact hu0) hgp)
                  go_wp2
                  go_ret
                  exact SPost.no HN.out
                · go_wp2
                  go_round
                  case rel => exact ⟨j + 1, by omega, by go_num, near_step HNR.out (.inr (.inr (by omega)))⟩
                  case measure => simp [intOf]; omega
          · obtain rfl : j = k := by omega
            go_wp2
            go_round
            case rel => exact ⟨j + 1, by omega, by go_num, okTo_step HO.out (by rw [HV.out]; exact ⟨g, g1⟩) HNR.out⟩
            case measure => simp [intOf]; omega
    · obtain rfl : k = n := by omega
      go_wp2
      go_ret
      exact SPost.yes HO.out

theorem walk (A : Option Addr) (n c : Nat) (l : List Int) (gap : Int) (w : World) (hl : Lst w A n (l.map (Value.int .i64))) (hb : ∀ x ∈ l, -9223372036854775808 ≤ x ∧ x ≤ 9223372036854775807) (hnc : n ≤ c) (hcm : c ≤ maxLen) (hg0 : -9223372036854775808 ≤ gap) (hg1 : gap ≤ 9223372036854775807) :
    Calls Try.prog 7 #[.slice A n c, .int .i64 gap] w fun e w' => e = .returned (.bool true) ∧ Below w.heap.size w w' := by
  have hm := hcm
  unfold maxLen at hm
  by_cases h : 300 < n
  · go_enter Try.func7, Try.ntmps7
    go_wp2
    go_ret
    exact ⟨rfl, Below.refl _ _⟩
  · clear hb
    go_enter Try.func7, Try.ntmps7
    go_wp2_with fail
    refine (slips_any A n c l gap w hl (by omega) hg0 hg1).mono ?_
    rintro e w1 ⟨r1, rfl, h1, rfl⟩
    have H1 := Lib.hid h1
    clear h1
    go_wp2_with fail
    refine (rslips_any A n c l gap w hl (by omega) hg0 hg1).mono ?_
    rintro e w1 ⟨r2, rfl, h2, rfl⟩
    obtain rfl : r1 = r2 := Bool.eq_iff_iff.2 (H1.out.trans h2.symm)
    clear h2 H1
    go_wp2_with (go_at_call 22; refine (one_any _).mono ?_; rintro e w1 ⟨rfl, hb1⟩)
    go_ret
    exact ⟨rfl, hb1⟩

set_option maxRecDepth 100000 in
theorem lifted (os : Os) (started : os.Started) (H : Type) (enc : TypeId × Value → H) :
    ReturnsInHanded {} Try.checked os 7 .any (Rows.clockSlipsSpec.pre6 enc Try.prog Try.f7 Rows.clockSlipsRow.domain false) (Rows.clockSlipsSpec.post enc Try.prog Try.f7 false true false false) := by
  refine returnsInHanded_of_change (C := Try.checked) own started (by kernel_rfl) Try.func7
    (ChangeSpec.witness6 (enc := enc) (C := Try.checked) false ⟨#[], #[.slice none 0 0, .int .i64 0], []⟩ 8 (by kernel_rfl) (by kernel_rfl) (by kernel_rfl) (by kernel_rfl)) ?_
  intro W base args ds gs before hval0 hW hcnd _
  have hval : ∀ (j : Nat) t v, Try.f7.params[j]? = some t → args[j]? = some v → Value.okWide Try.prog W .any base t v := hval0
  have hW' := hW
  obtain ⟨p, q, hA0, hV, rfl, hfz, hnd⟩ := hW
  have hA : DataW.TrodAll enc Try.prog W 0 (fun _ => true) true Try.f7.params.toList args.toList ds p := hA0
  rw [Try.params7] at hA hval
  obtain ⟨v0, vs0, d0, ds0, p0, q0, hargs, rfl, rfl, h0, r0⟩ := trodAll_cons hA
  obtain ⟨v1, vs1, d1, ds1, p1, q1, rfl, rfl, rfl, h1, r1⟩ := trodAll_cons r0
  obtain ⟨rfl, rfl, rfl⟩ := trodAll_nil r1
  obtain rfl : args = #[v0, v1] := by cases args; simp_all
  obtain ⟨rfl, rfl⟩ := trodVars_none hV
  have k0 := h0
  have lt0 : ∀ x ∈ p0, x.block < W.heap.size := by obtain ⟨m, hm⟩ := k0; exact DataW.trod_lt m _ _ _ hm
  obtain ⟨lA, ln, lc, rfl⟩ := okWide_slice Try.underlying28 (hval 0 28 v0 rfl rfl)
  obtain ⟨l, l0, b0, cb0, cc0⟩ := lst_ints Try.underlying28 Try.underlying3 (by kernel_rfl) k0
  obtain ⟨gap, rfl, rfl, rfl, wf1⟩ := open_int Try.underlying3 (hval 1 3 v1 rfl rfl) h1
  have bd1 := bounds_i64 wf1
  clear hA0 hval0
  refine (walk lA ln lc l gap W l0 (ints_i64 b0) cb0 cc0 bd1.1 bd1.2).mono fun e W' ⟨he, bel⟩ => ?_
  subst he
  exact ⟨_, rfl, _, _, _, [], _, [], hW', trodAll_mk1 (shut_bool Try.underlying4 _), (trodAll_cons_mk (Below.trod laidOut (by kernel_rfl) (of_decide_eq_true (by kernel_rfl)) k0 bel lt0) (trodAll_cons_mk (shut_int Try.underlying3 wf1) trodAll_mk0)), rfl, bel.frame _, fun h => by cases h⟩

theorem over : Rows.clockSlipsRow.holds Try.pinned (OpenSpec.ofChange Rows.clockSlipsSpec) :=
  OpenClaim.holds_of_wide 7 Try.f7 rfl rfl rfl rfl rfl rfl rfl ⟨rfl, rfl, rfl, rfl, rfl⟩ rfl rfl rfl rfl rfl (by kernel_rfl) Try.func7 (by kernel_rfl)
    (of_decide_eq_true (by kernel_rfl)) (by unfold Func.isWrapper; first | (rw [if_pos (by decide +kernel)]; kernel_rfl) | (rw [if_neg (by decide +kernel)]; exact ⟨rfl, rfl⟩))
    (fun os started H enc _ => lifted os started H enc)

/-- The statement. -/
theorem proved : Rows.ClockSlipsSaid := over
end Go.Proofs.Ytpaejdmdbijdoaa.lawClockSlips
