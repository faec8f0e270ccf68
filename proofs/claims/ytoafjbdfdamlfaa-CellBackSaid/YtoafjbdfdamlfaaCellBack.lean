/- What is waved is read again, moved by at most 5 ticks back, and 4 ahead; each cell has as many high ticks as low ones, and no 21 ticks one behind the other are alike: for every list of bits and every move; no condition. -/
import Derived.Test.YtoafjbdfdamlfaaCellO
import Derived.Test.YtoafjbdfdamlfaaCellBackP
import Derived.Test.YtoafjbdfdamlfaaSh
import Derived.Test.YtoafjbdfdamlfaaRows
import Derived.WalkKit
import Derived.ProofKit
import Derived.OpenShut
import Derived.ShutString
import Derived.ChangeOld
import Derived.Below
namespace Go.Proofs.Ytoafjbdfdamlfaa.lawCellBack
open Go.ChangeShapes Go.WideShapes Go.ChangeAt Go.RowKit Base
open Go.ChangeMaps (open_string shut_string)
set_option linter.unusedVariables false
set_option linter.unusedSimpArgs false
theorem own : ownKnob Try.prog.godebug = none := by kernel_rfl
theorem laidOut : laidOutB Try.prog = true := by kernel_rfl
open Ly1

theorem and255 (x : Int) : ∃ y : Int, 0 ≤ y ∧ y ≤ 255 ∧ Go.bits BinOp.and IntKind.i64 x 255 = y := by
  have h : (BitVec.ofInt 64 x &&& BitVec.ofInt 64 255).toNat ≤ 255 := by
    rw [BitVec.toNat_and]
    exact Nat.le_trans Nat.and_le_right (by decide)
  refine ⟨((BitVec.ofInt 64 x &&& BitVec.ofInt 64 255).toNat : Int), by omega, by omega, ?_⟩
  show IntKind.i64.wrap ((BitVec.ofInt 64 x &&& BitVec.ofInt 64 255).toNat : Int) = _
  generalize (BitVec.ofInt 64 x &&& BitVec.ofInt 64 255).toNat = z at h ⊢
  simp only [IntKind.wrap, IntKind.bits, IntKind.signed]
  simp
  omega

set_option maxRecDepth 100000 in
set_option maxHeartbeats 4000000 in
theorem walk (A : Option Addr) (n c : Nat) (bs : List Bool) (mv : Int) (w : World) (hl : Lst w A n (bs.map Value.bool)) (hnc : n ≤ c) (hcm : c ≤ maxLen) (h0 : -9223372036854775808 ≤ mv) (h1 : mv ≤ 9223372036854775807) :
    Calls Try.prog 5 #[.slice A n c, .int .i64 mv] w fun e w' => e = .returned (.bool true) ∧ Below w.heap.size w w' := by
  have hm := hcm
  unfold maxLen at hm
  by_cases h200 : 200 < n
  · go_enter Try.func5, Try.ntmps5
    go_wp2
    go_ret
    exact ⟨rfl, Below.refl _ _⟩
  · have hln : bs.length = n := by simpa using hl.1
    have HLN := Lib.hid hln
    clear hln
    go_enter Try.func5, Try.ntmps5
    go_wp2_with fail
    refine (wave_any A n c bs w hl (by omega)).mono ?_
    rintro e w1 ⟨v, rfl, hown, hb1⟩
    obtain ⟨A1, c1, rfl, _, _, hl1⟩ := Lst.of_own hown
    clear hown
    obtain ⟨y, y0, y1, hy⟩ := and255 mv
    go_wp2_with fail
    refine (read_any A1 (20 * n) c1 (waveOf bs) (y % 10 - 5) w1 hl1 (by omega) (by omega) (by omega)).mono ?_
    intro e w2 hp
    obtain ⟨hb2, A2, c2, rfl, hl2⟩ := hp.yes (wave_back bs (y % 10 - 5) (by omega) (by omega))
    clear hp
    rw [waveOf_len, HLN.out, show 20 * n / 20 = n by omega] at hl2 ⊢
    have hl1 := hl1.kept hb2
    have hl := hl.kept (hb1.trans (hb2.mono hb1.size))
    have hb := hb1.trans (hb2.mono hb1.size)
    clear hb1 hb2
    go_wp2_with fail
    go_loopw [8, 9] (fun r i wr => ∃ (k : Nat) (r' : Int), k ≤ 20 * n ∧ i = .int .i64 k ∧ r = .int .i64 r' ∧ RunOk k r' ∧ Below w2.heap.size w2 wr) (fun _ i _ => 20 * n - (intOf i).toNat)
    case atStart => exact ⟨0, 0, by omega, rfl, rfl, run_start, Below.refl _ _⟩
    case round =>
      obtain ⟨k, r, hk, rfl, rfl, hrun, hbel⟩ := hrel
      by_cases hlt : k < 20 * n
      · obtain ⟨b1, o1, rfl, _, hc1⟩ := (hl1.kept hbel).get hlt
        rw [List.getElem_map] at hc1
        have hkl : k < 20 * bs.length := by rw [HLN.out]; exact hlt
        obtain ⟨q, HQ⟩ : ∃ q : Nat, Hid (k / 20 = q) := ⟨k / 20, rfl⟩
        obtain ⟨s, HS⟩ : ∃ s : Nat, Hid (k % 20 = s) := ⟨k % 20, rfl⟩
        have hq : ((k : Int) / 20) = (q : Int) := by have := HQ.out; omega
        have hs : ((k : Int) % 20) = (s : Int) := by have := HS.out; omega
        have hs20 : s < 20 := by have := HS.out; omega
        have hqn : q < n := by have := HQ.out; omega
        obtain ⟨b0, o0, rfl, _, hc0⟩ := (hl.kept hbel).get hqn
        rw [List.getElem_map] at hc0
        have hw : (waveOf bs)[k]'(by rw [waveOf_len]; exact hkl) = lvl (bs[q]'(by rw [HLN.out]; exact hqn)) (s : Int) := by
          rw [wave_lt bs k hkl]
          have e1 := HQ.out
          have e2 := HS.out
          subst e1 e2
          rfl
        generalize hbq : bs[q]'(by rw [HLN.out]; exact hqn) = bq at hc0 hw
        clear hbq
        by_cases k0 : k = 0
        · have hx : (waveOf bs)[k]'(by rw [waveOf_len]; exact hkl) = bq := by rw [hw, show s = 0 by have := HS.out; omega]; exact lvl_lo (by omega) (by omega)
          rw [hx] at hc1
          clear hx hw
          have t0 : decide ((0 : Int) < (k : Int)) = false := by simp; omega
          have t0' : decide (0 < k) = false := by simp; omega
          obtain rfl : s = 0 := by have := HS.out; omega
          have RN := run_new hrun
          have RH := Lib.hid RN
          clear RN hrun
          have hs' : ((k : Int) % 20) = 0 := by omega
          clear hs k0
          go_wp2
          refine wp_region_quiet_lit (by kernel_rfl) (by kernel_rfl) ?_
          repeat (go_big_quiet_step (fail))
          refine wpQuiet_nil ?_
          intro _ hw'
          obtain ⟨nq, hw''⟩ := hw'
          subst hw''
          go_wp2
          refine wp_region_quiet_lit (by kernel_rfl) (by kernel_rfl) ?_
          repeat (go_big_quiet_step (fail))
          refine wpQuiet_nil ?_
          intro _ hw'
          obtain ⟨nq, hw''⟩ := hw'
          subst hw''
          go_wp2
          go_roundw
          case rel => exact ⟨k + 1, _, by omega, by go_num, rfl, RH.out, ⟨hbel.os, hbel.tape, hbel.output, hbel.size, hbel.block⟩⟩
          case measure => simp [intOf]; omega

        · obtain ⟨j, HJ⟩ : ∃ j, Hid (k = j + 1) := ⟨k - 1, show k = k - 1 + 1 by omega⟩
          have hji : (k : Int) - 1 = (j : Int) := by have := HJ.out; omega
          have hj20 : j < 20 * n := by have := HJ.out; omega
          have t0 : decide ((0 : Int) < (k : Int)) = true := by simp; omega
          have t0' : decide (0 < k) = true := by simp; omega
          obtain ⟨b2, o2, e2, _, hc2⟩ := (hl1.kept hbel).get hj20
          cases e2
          rw [List.getElem_map] at hc2
          have hjl : j < 20 * bs.length := by have := HLN.out; omega
          have R1 := Lib.hid (run_new hrun)
          have R2 := Lib.hid (fun he => run_on (bs := bs) HJ.out hrun hkl he)
          have r0 : 0 ≤ r ∧ r ≤ 20 := ⟨hrun.1, hrun.2.1⟩
          have hr0 := r0.1
          have hr1 := r0.2
          clear hrun r0
          generalize hy : (waveOf bs)[j]'(by rw [waveOf_len]; exact hjl) = yv at hc2 R2
          generalize hx : (waveOf bs)[k]'(by rw [waveOf_len]; exact hkl) = xv at hc1 hw R2
          clear hx hy
          rcases (show yv = xv ∨ yv = !xv by cases xv <;> cases yv <;> simp) with rfl | rfl
          · have RR := Lib.hid (R2.out rfl)
            have r20 := (RR.out).2.1
            have r20' : decide ((20 : Int) < r + 1) = false := by simp; omega
            clear R1 R2
            rcases (show s = 0 ∨ s = 19 ∨ (s ≠ 0 ∧ s ≠ 19) by omega) with rfl | rfl | ⟨n0, n1⟩
            · rw [lvl_lo (by omega) (by omega)] at hw
              subst hw
              go_wp2
              refine wp_region_quiet_lit (by kernel_rfl) (by kernel_rfl) ?_
              repeat (go_big_quiet_step (fail))
              refine wpQuiet_nil ?_
              intro _ hw'
              obtain ⟨nq, hw''⟩ := hw'
              subst hw''
              go_wp2
              refine wp_region_quiet_lit (by kernel_rfl) (by kernel_rfl) ?_
              repeat (go_big_quiet_step (fail))
              refine wpQuiet_nil ?_
              intro _ hw'
              obtain ⟨nq, hw''⟩ := hw'
              subst hw''
              go_wp2
              go_roundw
              case rel => exact ⟨k + 1, _, by omega, by go_num, rfl, RR.out, ⟨hbel.os, hbel.tape, hbel.output, hbel.size, hbel.block⟩⟩
              case measure => simp [intOf]; omega
            · rw [lvl_hi (by omega) (by omega)] at hw
              subst hw
              go_wp2
              refine wp_region_quiet_lit (by kernel_rfl) (by kernel_rfl) ?_
              repeat (go_big_quiet_step (fail))
              refine wpQuiet_nil ?_
              intro _ hw'
              obtain ⟨nq, hw''⟩ := hw'
              subst hw''
              go_wp2
              refine wp_region_quiet_lit (by kernel_rfl) (by kernel_rfl) ?_
              repeat (go_big_quiet_step (fail))
              refine wpQuiet_nil ?_
              intro _ hw'
              obtain ⟨nq, hw''⟩ := hw'
              subst hw''
              go_wp2
              go_roundw
              case rel => exact ⟨k + 1, _, by omega, by go_num, rfl, RR.out, ⟨hbel.os, hbel.tape, hbel.output, hbel.size, hbel.block⟩⟩
              case measure => simp [intOf]; omega
            · clear hw
              have n0' : ((s : Int) == 0) = false := by simp; omega
              have n1' : ((s : Int) == 19) = false := by simp; omega
              go_wp2
              refine wp_region_quiet_lit (by kernel_rfl) (by kernel_rfl) ?_
              repeat (go_big_quiet_step (fail))
              refine wpQuiet_nil ?_
              intro _ hw'
              obtain ⟨nq, hw''⟩ := hw'
              subst hw''
              go_wp2
              refine wp_region_quiet_lit (by kernel_rfl) (by kernel_rfl) ?_
              repeat (go_big_quiet_step (fail))
              refine wpQuiet_nil ?_
              intro _ hw'
              obtain ⟨nq, hw''⟩ := hw'
              subst hw''
              go_wp2
              go_roundw
              case rel => exact ⟨k + 1, _, by omega, by go_num, rfl, RR.out, ⟨hbel.os, hbel.tape, hbel.output, hbel.size, hbel.block⟩⟩
              case measure => simp [intOf]; omega
          · clear R2
            
            rcases (show s = 0 ∨ s = 19 ∨ (s ≠ 0 ∧ s ≠ 19) by omega) with rfl | rfl | ⟨n0, n1⟩
            · rw [lvl_lo (by omega) (by omega)] at hw
              subst hw
              go_wp2
              refine wp_region_quiet_lit (by kernel_rfl) (by kernel_rfl) ?_
              repeat (go_big_quiet_step (fail))
              refine wpQuiet_nil ?_
              intro _ hw'
              obtain ⟨nq, hw''⟩ := hw'
              subst hw''
              go_wp2
              refine wp_region_quiet_lit (by kernel_rfl) (by kernel_rfl) ?_
              repeat (go_big_quiet_step (fail))
              refine wpQuiet_nil ?_
              intro _ hw'
              obtain ⟨nq, hw''⟩ := hw'
              subst hw''
              go_wp2
              go_roundw
              case rel => exact ⟨k + 1, _, by omega, by go_num, rfl, R1.out, ⟨hbel.os, hbel.tape, hbel.output, hbel.size, hbel.block⟩⟩
              case measure => simp [intOf]; omega
            · rw [lvl_hi (by omega) (by omega)] at hw
              subst hw
              go_wp2
              refine wp_region_quiet_lit (by kernel_rfl) (by kernel_rfl) ?_
              repeat (go_big_quiet_step (fail))
              refine wpQuiet_nil ?_
              intro _ hw'
              obtain ⟨nq, hw''⟩ := hw'
              subst hw''
              go_wp2
              refine wp_region_quiet_lit (by kernel_rfl) (by kernel_rfl) ?_
              repeat (go_big_quiet_step (fail))
              refine wpQuiet_nil ?_
              intro _ hw'
              obtain ⟨nq, hw''⟩ := hw'
              subst hw''
              go_wp2
              go_roundw
              case rel => exact ⟨k + 1, _, by omega, by go_num, rfl, R1.out, ⟨hbel.os, hbel.tape, hbel.output, hbel.size, hbel.block⟩⟩
              case measure => simp [intOf]; omega
            · clear hw
              have n0' : ((s : Int) == 0) = false := by simp; omega
              have n1' : ((s : Int) == 19) = false := by simp; omega
              go_wp2
              refine wp_region_quiet_lit (by kernel_rfl) (by kernel_rfl) ?_
              repeat (go_big_quiet_step (fail))
              refine wpQuiet_nil ?_
              intro _ hw'
              obtain ⟨nq, hw''⟩ := hw'
              subst hw''
              go_wp2
              refine wp_region_quiet_lit (by kernel_rfl) (by kernel_rfl) ?_
              repeat (go_big_quiet_step (fail))
              refine wpQuiet_nil ?_
              intro _ hw'
              obtain ⟨nq, hw''⟩ := hw'
              subst hw''
              go_wp2
              go_roundw
              case rel => exact ⟨k + 1, _, by omega, by go_num, rfl, R1.out, ⟨hbel.os, hbel.tape, hbel.output, hbel.size, hbel.block⟩⟩
              case measure => simp [intOf]; omega
      · obtain rfl : k = 20 * n := by omega
        go_wp2_with fail
        go_loopw [10] (fun i wr' => ∃ k : Nat, k ≤ n ∧ i = .int .i64 k ∧ Below w2.heap.size w2 wr') (fun i _ => n - (intOf i).toNat)
        case atStart => exact ⟨0, by omega, rfl, hbel⟩
        case round =>
          obtain ⟨j, hj, rfl, hbel2⟩ := hrel
          by_cases hjn : j < n
          · obtain ⟨b0, o0, rfl, _, hc0⟩ := (hl.kept hbel2).get hjn
            obtain ⟨b1, o1, rfl, _, hc1⟩ := (hl2.kept hbel2).get hjn
            rw [List.getElem_map] at hc0 hc1
            generalize bs[j]'(by rw [HLN.out]; exact hjn) = x at hc0 hc1
            go_wp2
            refine wp_region_quiet_lit (by kernel_rfl) (by kernel_rfl) ?_
            repeat (go_big_quiet_step (fail))
            refine wpQuiet_nil ?_
            intro _ hw'
            obtain ⟨nq, hw''⟩ := hw'
            subst hw''
            go_wp2
            go_roundw
            case rel => exact ⟨j + 1, by omega, by go_num, ⟨hbel2.os, hbel2.tape, hbel2.output, hbel2.size, hbel2.block⟩⟩
            case measure => simp [intOf]; omega
          · obtain rfl : j = n := by omega
            go_wp2_with (go_at_call 17; refine (one_any _).mono ?_; rintro e w3 ⟨rfl, hb3⟩)
            go_ret
            exact ⟨rfl, (hb.trans (hbel2.mono hb.size)).trans (hb3.mono (hb.trans (hbel2.mono hb.size)).size)⟩
set_option maxRecDepth 100000 in
theorem lifted (os : Os) (started : os.Started) (H : Type) (enc : TypeId × Value → H) :
    ReturnsInHanded {} Try.checked os 5 .any (Rows.cellBackSpec.pre6 enc Try.prog Try.f5 Rows.cellBackRow.domain false) (Rows.cellBackSpec.post enc Try.prog Try.f5 false true false false) := by
  refine returnsInHanded_of_change (C := Try.checked) own started (by kernel_rfl) Try.func5
    (ChangeSpec.witness6 (enc := enc) (C := Try.checked) false ⟨#[], #[.slice none 0 0, .int .i64 0], []⟩ 8 (by kernel_rfl) (by kernel_rfl) (by kernel_rfl) (by kernel_rfl)) ?_
  intro W base args ds gs before hval0 hW hcnd _
  have hval : ∀ (j : Nat) t v, Try.f5.params[j]? = some t → args[j]? = some v → Value.okWide Try.prog W .any base t v := hval0
  have hW' := hW
  obtain ⟨p, q, hA0, hV, rfl, hfz, hnd⟩ := hW
  have hA : DataW.TrodAll enc Try.prog W 0 (fun _ => true) true Try.f5.params.toList args.toList ds p := hA0
  rw [Try.params5] at hA hval
  obtain ⟨v0, vs0, d0, ds0, p0, q0, hargs, rfl, rfl, h0, r0⟩ := trodAll_cons hA
  obtain ⟨v1, vs1, d1, ds1, p1, q1, rfl, rfl, rfl, h1, r1⟩ := trodAll_cons r0
  obtain ⟨rfl, rfl, rfl⟩ := trodAll_nil r1
  obtain rfl : args = #[v0, v1] := by cases args; simp_all
  obtain ⟨rfl, rfl⟩ := trodVars_none hV
  have k0 := h0
  have lt0 : ∀ x ∈ p0, x.block < W.heap.size := by obtain ⟨m, hm⟩ := k0; exact DataW.trod_lt m _ _ _ hm
  obtain ⟨lA, ln, lc, rfl⟩ := okWide_slice Try.underlying31 (hval 0 31 v0 rfl rfl)
  obtain ⟨l, l0, cb0, cc0⟩ := lst_bools Try.underlying31 Try.underlying4 (by kernel_rfl) k0
  obtain ⟨m, rfl, rfl, rfl, wf1⟩ := open_int Try.underlying3 (hval 1 3 v1 rfl rfl) h1
  have bd1 := bounds_i64 wf1
  clear hA0 hval0
  refine (walk lA ln lc l m W l0 cb0 cc0 bd1.1 bd1.2).mono fun e W' ⟨he, bel⟩ => ?_
  subst he
  exact ⟨_, rfl, _, _, _, [], _, [], hW', trodAll_mk1 (shut_bool Try.underlying4 _), (trodAll_cons_mk (Below.trod laidOut (by kernel_rfl) (of_decide_eq_true (by kernel_rfl)) k0 bel lt0) (trodAll_cons_mk (shut_int Try.underlying3 wf1) trodAll_mk0)), rfl, bel.frame _, fun h => by cases h⟩

theorem over : Rows.cellBackRow.holds Try.pinned (OpenSpec.ofChange Rows.cellBackSpec) :=
  OpenClaim.holds_of_wide 5 Try.f5 rfl rfl rfl rfl rfl rfl rfl ⟨rfl, rfl, rfl, rfl, rfl⟩ rfl rfl rfl rfl rfl (by kernel_rfl) Try.func5 (by kernel_rfl)
    (of_decide_eq_true (by kernel_rfl)) (by unfold Func.isWrapper; first | (rw [if_pos (by decide +kernel)]; kernel_rfl) | (rw [if_neg (by decide +kernel)]; exact ⟨rfl, rfl⟩))
    (fun os started H enc _ => lifted os started H enc)

/-- The statement. -/
theorem proved : Rows.CellBackSaid := over
end Go.Proofs.Ytoafjbdfdamlfaa.lawCellBack
