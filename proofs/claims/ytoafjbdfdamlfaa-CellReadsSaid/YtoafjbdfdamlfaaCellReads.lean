/- Any levels are the document's bits, moved by any ticks, or none: for every list of levels and every move; no condition. -/
import Derived.Test.YtoafjbdfdamlfaaCellO
import Derived.Test.YtoafjbdfdamlfaaCellF
import Derived.Test.YtoafjbdfdamlfaaSh
import Derived.Test.YtoafjbdfdamlfaaRows
import Derived.WalkKit
import Derived.ProofKit
import Derived.OpenShut
import Derived.ShutString
import Derived.ChangeOld
import Derived.Below
namespace Go.Proofs.Ytoafjbdfdamlfaa.lawCellReads
open Go.ChangeShapes Go.WideShapes Go.ChangeAt Go.RowKit Base
open Go.ChangeMaps (open_string shut_string)
set_option linter.unusedVariables false
set_option linter.unusedSimpArgs false
theorem own : ownKnob Try.prog.godebug = none := by kernel_rfl
theorem laidOut : laidOutB Try.prog = true := by kernel_rfl
open Ly1

theorem readTo_le (l : List Bool) (m : Int) (xs : List Bool) (h : readTo l m (l.length / 20) = some xs) : xs.length = l.length / 20 := readTo_len _ _ h

set_option maxHeartbeats 1000000 in
theorem walk (A : Option Addr) (n c : Nat) (l : List Bool) (m : Int) (w : World) (hl : Lst w A n (l.map Value.bool)) (hnc : n ≤ c) (hcm : c ≤ maxLen) (h0 : -9223372036854775808 ≤ m) (h1 : m ≤ 9223372036854775807) :
    Calls Try.prog 4 #[.slice A n c, .int .i64 m] w fun e w' => e = .returned (.bool true) ∧ Below w.heap.size w w' := by
  have hm := hcm
  unfold maxLen at hm
  by_cases h200 : 4000 < n
  · go_enter Try.func4, Try.ntmps4
    go_wp2
    go_ret
    exact ⟨rfl, Below.refl _ _⟩
  · cases hx : readTo l m (l.length / 20) with
    | none =>
      have HX := Lib.hid hx
      clear hx
      go_enter Try.func4, Try.ntmps4
      go_wp2_with fail
      refine (read_any A n c l m w hl (by omega) h0 h1).mono ?_
      intro e w1 hp
      obtain ⟨hb1, rfl⟩ := hp.no HX.out
      clear hp
      have hl1 := hl.kept hb1
      go_wp2_with fail
      refine (rread_any A n c l m w1 hl1 (by omega) h0 h1).mono ?_
      intro e w2 hp
      obtain ⟨hb2, rfl⟩ := hp.no HX.out
      clear hp
      have hb := hb1.trans (hb2.mono hb1.size)
      go_wp2_with fail
      refine wp_loop_rounds 1 ?_
      rw [rounds_succ]
      go_wp2_with (go_at_call 17; refine (one_any _).mono ?_; rintro e w3 ⟨rfl, hb3⟩)
      go_ret
      exact ⟨rfl, hb.trans (hb3.mono hb.size)⟩
    | some xs =>
      have hxl := readTo_le _ _ _ hx
      have hln : l.length = n := by simpa using hl.1
      obtain ⟨K, HK⟩ : ∃ K : Nat, l.length / 20 = K := ⟨_, rfl⟩
      rw [HK] at hxl
      have hK2 : K ≤ 200 := by omega
      have HKH := Lib.hid HK
      have HX := Lib.hid hx
      have HXL := Lib.hid hxl
      clear hx hxl HK hln
      go_enter Try.func4, Try.ntmps4
      go_wp2_with fail
      refine (read_any A n c l m w hl (by omega) h0 h1).mono ?_
      intro e w1 hp
      obtain ⟨hb1, A1, c1, rfl, hl1⟩ := hp.yes HX.out
      clear hp
      rw [HKH.out] at hl1
      rw [HKH.out]
      go_wp2_with fail
      refine (rread_any A n c l m w1 (hl.kept hb1) (by omega) h0 h1).mono ?_
      intro e w2 hp
      obtain ⟨hb2, A2, c2, rfl, hl2⟩ := hp.yes HX.out
      clear hp
      rw [HKH.out] at hl2
      rw [HKH.out]
      have hl1 := hl1.kept hb2
      have hb := hb1.trans (hb2.mono hb1.size)
      go_wp2_with fail
      go_loopw [9] (fun i wr => ∃ k : Nat, k ≤ K ∧ i = .int .i64 k ∧ Below w2.heap.size w2 wr) (fun i _ => K - (intOf i).toNat)
      case atStart => exact ⟨0, by omega, rfl, Below.refl _ _⟩
      case round =>
        obtain ⟨k, hk, rfl, hbel⟩ := hrel
        by_cases hlt : k < K
        · obtain ⟨b1, o1, rfl, _, hc1⟩ := (hl1.kept hbel).get hlt
          obtain ⟨b2, o2, rfl, _, hc2⟩ := (hl2.kept hbel).get hlt
          rw [List.getElem_map] at hc1 hc2
          generalize xs[k]'(by rw [HXL.out]; exact hlt) = x at hc1 hc2
          go_wp2
          refine wp_region_quiet_lit (by kernel_rfl) (by kernel_rfl) ?_
          repeat (go_big_quiet_step (fail))
          refine wpQuiet_nil ?_
          intro _ hw'
          obtain ⟨nq, hw''⟩ := hw'
          subst hw''
          go_wp2
          go_roundw
          case rel => exact ⟨k + 1, by omega, by go_num, ⟨hbel.os, hbel.tape, hbel.output, hbel.size, hbel.block⟩⟩
          case measure => simp [intOf]; omega
        · obtain rfl : k = K := by omega
          go_wp2_with (go_at_call 17; refine (one_any _).mono ?_; rintro e w3 ⟨rfl, hb3⟩)
          go_ret
          exact ⟨rfl, (hb.trans (hbel.mono hb.size)).trans (hb3.mono (hb.trans (hbel.mono hb.size)).size)⟩

set_option maxRecDepth 100000 in
theorem lifted (os : Os) (started : os.Started) (H : Type) (enc : TypeId × Value → H) :
    ReturnsInHanded {} Try.checked os 4 .any (Rows.cellReadsSpec.pre6 enc Try.prog Try.f4 Rows.cellReadsRow.domain false) (Rows.cellReadsSpec.post enc Try.prog Try.f4 false true false false) := by
  refine returnsInHanded_of_change (C := Try.checked) own started (by kernel_rfl) Try.func4
    (ChangeSpec.witness6 (enc := enc) (C := Try.checked) false ⟨#[], #[.slice none 0 0, .int .i64 0], []⟩ 8 (by kernel_rfl) (by kernel_rfl) (by kernel_rfl) (by kernel_rfl)) ?_
  intro W base args ds gs before hval0 hW hcnd _
  have hval : ∀ (j : Nat) t v, Try.f4.params[j]? = some t → args[j]? = some v → Value.okWide Try.prog W .any base t v := hval0
  have hW' := hW
  obtain ⟨p, q, hA0, hV, rfl, hfz, hnd⟩ := hW
  have hA : DataW.TrodAll enc Try.prog W 0 (fun _ => true) true Try.f4.params.toList args.toList ds p := hA0
  rw [Try.params4] at hA hval
  obtain ⟨v0, vs0, d0, ds0, p0, q0, hargs, rfl, rfl, h0, r0⟩ := trodAll_cons hA
  obtain ⟨v1, vs1, d1, ds1, p1, q1, rfl, rfl, rfl, h1, r1⟩ := trodAll_cons r0
  obtain ⟨rfl, rfl, rfl⟩ := trodAll_nil r1
  obtain rfl : args = #[v0, v1] := by cases args; simp_all
  obtain ⟨rfl, rfl⟩ := trodVars_none hV
  have k0 := h0
  have lt0 : ∀ x ∈ p0, x.block < W.heap.size := by obtain ⟨m, hm⟩ := k0; exact DataW.trod_lt m _ _ _ hm
  obtain ⟨lA, ln, lc, rfl⟩ := okWide_slice Try.underlying31 (hval 0 31 v0 rfl rfl)
  obtain ⟨l, l0, cb0, cc0⟩ := lst_bools Try.underlying31 Try.underlying4 (by kernel_rfl) k0
  obtain ⟨m, rfl, rfl, rfl, wf1⟩ := open_int Try.underlying3 (hval 1 3 v1 rfl rfl) h1
  have bd1 := bounds_i64 wf1
  clear hA0 hval0
  refine (walk lA ln lc l m W l0 cb0 cc0 bd1.1 bd1.2).mono fun e W' ⟨he, bel⟩ => ?_
  subst he
  exact ⟨_, rfl, _, _, _, [], _, [], hW', trodAll_mk1 (shut_bool Try.underlying4 _), (trodAll_cons_mk (Below.trod laidOut (by kernel_rfl) (of_decide_eq_true (by kernel_rfl)) k0 bel lt0) (trodAll_cons_mk (shut_int Try.underlying3 wf1) trodAll_mk0)), rfl, bel.frame _, fun h => by cases h⟩

theorem over : Rows.cellReadsRow.holds Try.pinned (OpenSpec.ofChange Rows.cellReadsSpec) :=
  OpenClaim.holds_of_wide 4 Try.f4 rfl rfl rfl rfl rfl rfl rfl ⟨rfl, rfl, rfl, rfl, rfl⟩ rfl rfl rfl rfl rfl (by kernel_rfl) Try.func4 (by kernel_rfl)
    (of_decide_eq_true (by kernel_rfl)) (by unfold Func.isWrapper; first | (rw [if_pos (by decide +kernel)]; kernel_rfl) | (rw [if_neg (by decide +kernel)]; exact ⟨rfl, rfl⟩))
    (fun os started H enc _ => lifted os started H enc)

/-- The statement. -/
theorem proved : Rows.CellReadsSaid := over
end Go.Proofs.Ytoafjbdfdamlfaa.lawCellReads
