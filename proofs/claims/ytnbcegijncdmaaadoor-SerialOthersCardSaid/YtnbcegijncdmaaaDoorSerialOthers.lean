/- At no place do the words of two candidates begin alike, and slots without messages send none: for every slot and place; no condition but that the table of the lines is as the program's text lays it, which the card ties. -/
import Derived.RegionTactic
import Derived.IntWalk
import Derived.Test.YtnbcegijncdmaaaDoorSerB
import Derived.Test.YtnbcegijncdmaaaDoorOne14
import Derived.Test.YtnbcegijncdmaaaDoorSh
import Derived.Test.YtnbcegijncdmaaaDoorTie
import Derived.Test.YtnbcegijncdmaaaDoorCards
import Derived.Test.YtnbcegijncdmaaaDoorLaid
import Derived.LaidMore
import Derived.SevenTiedAt
import Derived.Stop.Joined
import Derived.Test.YtnbcegijncdmaaaDoorRows
import Derived.WalkKit
import Derived.ProofKit
import Derived.OpenShut
import Derived.ShutString
import Derived.ChangeOld
import Derived.Below
namespace Go.Proofs.YtnbcegijncdmaaaDoor.lawSerialOthers
open Go.ChangeShapes Go.WideShapes Go.ChangeAt Go.RowKit Base
open Go.ChangeMaps (open_string shut_string)
set_option linter.unusedVariables false
set_option linter.unusedSimpArgs false
theorem own : ownKnob Tryd.prog.godebug = none := by kernel_rfl
theorem laidOut : laidOutB Tryd.prog = true := by kernel_rfl
open Ly14 Ly7 Ly3
theorem at_two {k W M a b p n t n' t' : Int} (e1 : atN k W M a p = n) (e2 : atT k W M a p = t) (e3 : atN k W M b p = n') (e4 : atT k W M b p = t') (h : 0 ≤ n) (h' : 0 ≤ n') : n' = n + 4 * (a - b) ∧ t' = t := by
  unfold atN at e1 e3
  unfold atT at e2 e4
  split at e1
  · rename_i g
    rw [if_pos g] at e2
    split at e3
    · rename_i g'
      rw [if_pos g'] at e4
      omega
    · omega
  · omega
theorem at_kind {k W M a p n : Int} (e1 : atN k W M a p = n) (h : k ≠ 0) : n = -1 := by
  unfold atN at e1
  rw [if_neg (fun g => h g.1)] at e1
  exact e1.symm
set_option maxRecDepth 100000 in
set_option maxHeartbeats 4000000 in
theorem go (k s l wo ad mn cn p : Int) (tk : Bool) (w : World) (p0 : -9223372036854775808 ≤ p) (p1 : p ≤ 9223372036854775807) (hU : Up w) :
    Calls Tryd.prog 4 #[.agg #[.int .i64 k, .int .i64 s, .int .i64 l, .int .i64 wo, .int .i64 ad, .int .i64 mn, .int .i64 cn, .bool tk], .int .i64 p] w fun e w' => e = .returned (.bool true) ∧ Below w.heap.size w w' := by
  obtain ⟨y7, y70, y71, hy7'⟩ := and_mask wo 7 (by omega)
  have hy7 : Go.bits BinOp.and IntKind.i64 wo 7 = y7 := hy7'
  obtain ⟨y3, y30, y31, hy3'⟩ := and_mask mn 3 (by omega)
  have hy3 : Go.bits BinOp.and IntKind.i64 mn 3 = y3 := hy3'
  have y7b : y7 ≤ 7 := y71
  have y3b : y3 ≤ 3 := y31
  clear hy7' hy3' y71 y31
  obtain ⟨K0, K1, K2, K3, K4, K5, K6, K7⟩ := box8 k s l (1 + y7) ad (1 + y3) cn tk w 25
  have HU := Lib.hid (fun x : Kin (w.alloc (.cells #[.int .i64 k, .int .i64 s, .int .i64 l, .int .i64 (1 + y7), .int .i64 ad, .int .i64 (1 + y3), .int .i64 cn, .bool tk] 25)) => hU.kept x.end1)
  have HAT := Lib.hid (fun (a : Nat) (ha : (a : Int) < 4) W => at_any k s l (1 + y7) ad (1 + y3) cn tk a p W (by omega) (by omega) (by omega) (by omega) p0 p1)
  clear hU
  go_enter Tryd.func4, Tryd.ntmps4
  go_upto_region 2 with (fail)
  clear hy7 hy3
  go_wp2_with fail
  go_loopw [5] (fun a wx => ∃ (j : Nat) (x : Kin (w.alloc (.cells #[.int .i64 k, .int .i64 s, .int .i64 l, .int .i64 (1 + y7), .int .i64 ad, .int .i64 (1 + y3), .int .i64 cn, .bool tk] 25))), (j : Int) ≤ 1 + y3 ∧ a = .int .i64 j ∧ wx = x.world) (fun a _ => 5 - (intOf a).toNat)
  case atStart => exact ⟨0, Kin.me _, by omega, rfl, rfl⟩
  case round =>
    obtain ⟨j, x, hj, rfl, rfl⟩ := hrel
    by_cases hlt : (j : Int) < 1 + y3
    · have HJ := Lib.hid (HAT.out j (by omega))
      have HKD : ∀ n, atN k (1 + y7) (1 + y3) j p = n → k ≠ 0 → n = -1 := fun n e h => at_kind e h
      have HTW : ∀ n t, atN k (1 + y7) (1 + y3) j p = n → atT k (1 + y7) (1 + y3) j p = t → ∀ (i : Nat) n' t', atN k (1 + y7) (1 + y3) i p = n' → atT k (1 + y7) (1 + y3) i p = t' → 0 ≤ n → 0 ≤ n' → n' = n + 4 * ((j : Int) - i) ∧ t' = t := fun n t e1 e2 i n' t' e3 e4 => at_two e1 e2 e3 e4
      obtain ⟨n, hn⟩ : ∃ n, atN k (1 + y7) (1 + y3) j p = n := ⟨_, rfl⟩
      obtain ⟨t, ht⟩ : ∃ t, atT k (1 + y7) (1 + y3) j p = t := ⟨_, rfl⟩
      have HK2 := Lib.hid (HKD n hn)
      have HT2 := Lib.hid (HTW n t hn ht)
      have hbd := at_bd (k := k) (wo := 1 + y7) (mn := 1 + y3) (c := j) (p := p)
      rw [hn, ht] at HJ hbd
      obtain ⟨nb0, tb0, tb1, nb1⟩ := hbd
      have nb2 : n < 64 := by by_cases h : 0 ≤ n <;> omega
      clear hn ht HKD HTW nb1
      go_wp2_with fail
      refine (Calls.kin _ (HJ.out _)).mono ?_
      rintro e w' ⟨rfl, x2, rfl⟩
      go_wp2_with fail
      go_loopw [8] (fun b wx => ∃ (i : Nat) (x : Kin (w.alloc (.cells #[.int .i64 k, .int .i64 s, .int .i64 l, .int .i64 (1 + y7), .int .i64 ad, .int .i64 (1 + y3), .int .i64 cn, .bool tk] 25))), i ≤ j ∧ b = .int .i64 i ∧ wx = x.world) (fun b _ => j - (intOf b).toNat)
      case atStart => exact ⟨0, x2, by omega, rfl, rfl⟩
      case round =>
        clear x x2
        obtain ⟨i, x, hi, rfl, rfl⟩ := hrel
        by_cases hij : i < j
        · have HI := Lib.hid (HAT.out i (by omega))
          have hiji : (i : Int) < (j : Int) := by omega
          obtain ⟨n', hn'⟩ : ∃ n, atN k (1 + y7) (1 + y3) i p = n := ⟨_, rfl⟩
          obtain ⟨t', ht'⟩ : ∃ t, atT k (1 + y7) (1 + y3) i p = t := ⟨_, rfl⟩
          have h2 := HT2.out i n' t' hn' ht'
          rw [hn', ht'] at HI
          clear hn' ht'
          go_wp2_with fail
          refine (Calls.kin _ (HI.out _)).mono ?_
          rintro e w' ⟨rfl, x3, rfl⟩
          by_cases h0 : 0 ≤ n
          · by_cases h1 : 0 ≤ n'
            · obtain ⟨rfl, rfl⟩ := h2 h0 h1
              have w1 : IntKind.i64.wrap ((j : Int) - i) = (j : Int) - i := IntWalk.i64_in _ (by omega)
              have w2 : IntKind.i64.wrap (4 * ((j : Int) - i)) = 4 * ((j : Int) - i) := IntWalk.i64_in _ (by omega)
              have w3 : IntKind.i64.wrap (n + 4 * ((j : Int) - i)) = n + 4 * ((j : Int) - i) := IntWalk.i64_in _ (by omega)
              clear h2
              go_wp2
              go_roundw
              case rel => exact ⟨i + 1, x3, by omega, by go_num, rfl⟩
              case measure => simp [intOf]; omega
            · have h1' : n' < 0 := by omega
              clear h2 h1
              go_wp2
              go_roundw
              case rel => exact ⟨i + 1, x3, by omega, by go_num, rfl⟩
              case measure => simp [intOf]; omega
          · have h0' : n < 0 := by omega
            clear h2 h0
            go_wp2
            go_roundw
            case rel => exact ⟨i + 1, x3, by omega, by go_num, rfl⟩
            case measure => simp [intOf]; omega
        · obtain rfl : i = j := by omega
          have hkk := HK2.out
          by_cases hk : k = 0
          · subst hk
            clear hkk hij HK2 HT2
            go_wp2
            go_roundw
            case rel => exact ⟨i + 1, x, by omega, by go_num, rfl⟩
            case measure => simp [intOf]; omega
          · obtain rfl := hkk hk
            have hk2 : (k != 0) = true := by simpa using hk
            clear hkk hk hij HK2 HT2
            go_wp2
            go_roundw
            case rel => exact ⟨i + 1, x, by omega, by go_num, rfl⟩
            case measure => simp [intOf]; omega
    · have hlt' : 1 + y3 ≤ (j : Int) := by omega
      clear hlt
      go_wp2_with fail
      refine (One14.one_any _ (HU.out x)).mono ?_
      rintro e w2 ⟨rfl, hb2⟩
      have HB2 := Lib.hid (x.end1.trans (hb2.mono x.end1.size))
      clear hb2
      go_wp2
      go_ret
      exact ⟨rfl, HB2.out⟩
abbrev shS : Sh := .fld (.int .i64) (.fld (.int .i64) (.fld (.int .i64) (.fld (.int .i64) (.fld (.int .i64) (.fld (.int .i64) (.fld (.int .i64) (.fld .bool .nil)))))))
theorem gUp : Tryd.prog.globalNamed "busbar/wires.upright" = some 0 := by kernel_rfl
theorem tUp : (Tryd.prog.globals[0]?).map (·.type) = some 38 := by kernel_rfl
theorem of_laid {W : World} (h : laidMetH Tryd.prog Rows.serialOthersRow.laid W) : Up W := by
  rw [MakeChecks.laidMetH_plain _ _ _ (by kernel_rfl)] at h
  obtain ⟨ps, ⟨g0, t0, cs0, f0, p0, q0, hg0, ht0, hv0, hd0, _, _⟩, _, _⟩ := h
  obtain rfl := Option.some.inj (gUp.symm.trans hg0)
  obtain rfl := Option.some.inj (tUp.symm.trans ht0)
  have e := exact_cells (sh := .ar 4 .bool) 10 rfl (by kernel_rfl) hd0 rfl
  obtain ⟨l0⟩ := cs0
  simp at e
  subst e
  exact ⟨by simpa using World.var?_cell hg0 hv0 0, by simpa using World.var?_cell hg0 hv0 1, by simpa using World.var?_cell hg0 hv0 2, by simpa using World.var?_cell hg0 hv0 3⟩
theorem walk (x : Array Value) (p : Int) (w : World) (hU : Up w) (rd : Reads w shS x.toList) (p0 : -9223372036854775808 ≤ p) (p1 : p ≤ 9223372036854775807) :
    Calls Tryd.prog 4 #[.agg x, .int .i64 p] w fun e w' => e = .returned (.bool true) ∧ Below w.heap.size w w' := by
  obtain ⟨_, _, e, ⟨k, rfl, _⟩, _, _, rfl, ⟨s, rfl, _⟩, _, _, rfl, ⟨l, rfl, _⟩, _, _, rfl, ⟨wo, rfl, _⟩, _, _, rfl, ⟨ad, rfl, _⟩, _, _, rfl, ⟨mn, rfl, wm⟩, _, _, rfl, ⟨cn, rfl, _⟩, _, _, rfl, ⟨tk, rfl⟩, rfl⟩ := rd
  obtain ⟨xs⟩ := x
  simp at e
  subst e
  exact go k s l wo ad mn cn p tk w p0 p1 hU

theorem door_met (os : Os) (args : Array Value) : laidMetH Tryd.prog Rows.serialOthersRow.laid ((World.doorLaid Tryd.prog 400 os).forCall (fun _ _ => 0) ⟨#[], args, []⟩).memory :=
  laidMetH_of_parts3 (fuel := 8) (laidMet_of_run' 8 (by kernel_rfl) (by kernel_rfl)) (by kernel_rfl) (by kernel_rfl)
set_option maxRecDepth 100000 in
theorem lifted (os : Os) (started : os.Started) (H : Type) (enc : TypeId × Value → H) :
    ReturnsInHanded {} Tryd.checked os 4 .any (fun w args => (Rows.serialOthersSpec.pre enc Tryd.prog Tryd.f4 [] false w args ∧ laidMetH Tryd.prog Rows.serialOthersRow.laid w) ∧ sizedMet enc Tryd.prog Tryd.f4 (OpenSpec.ofChange Rows.serialOthersSpec) false w args)
      (Rows.serialOthersSpec.post enc Tryd.prog Tryd.f4 false true false false) := by
  refine returnsInHanded_of_change_and (C := Tryd.checked) (X := fun w _ => laidMetH Tryd.prog Rows.serialOthersRow.laid w) (fun _ _ _ hh h => h.of_heap hh) own started (by kernel_rfl) Tryd.func4
    (ChangeSpec.witness_shaped (enc := enc) (C := Tryd.checked) (os := os) (X := fun w _ => laidMetH Tryd.prog Rows.serialOthersRow.laid w) false (World.doorLaid Tryd.prog 400 os) #[.agg #[.int .i64 0, .int .i64 0, .int .i64 0, .int .i64 0, .int .i64 0, .int .i64 0, .int .i64 0, .bool false], .int .i64 0] 8 rfl (World.shaped_of_RefB (by kernel_rfl) (by kernel_rfl)) (by kernel_rfl) (by kernel_rfl) (by kernel_rfl) (door_met os _)) ?_
  intro W base args ds gs before hval0 hW _ _ hL _
  have hval : ∀ (j : Nat) t v, Tryd.f4.params[j]? = some t → args[j]? = some v → Value.okWide Tryd.prog W .any base t v := hval0
  have hW' := hW
  obtain ⟨p, q, hA0, hV, rfl, hfz, hnd⟩ := hW
  have hA : DataW.TrodAll enc Tryd.prog W 0 (fun _ => true) true Tryd.f4.params.toList args.toList ds p := hA0
  rw [Tryd.params4] at hA hval
  obtain ⟨v0, vs0, d0, ds0, p0, q0, hargs, rfl, rfl, h0, r0⟩ := trodAll_cons hA
  obtain ⟨v1, vs1, d1, ds1, p1, q1, rfl, rfl, rfl, h1, r1⟩ := trodAll_cons r0
  obtain ⟨rfl, rfl, rfl⟩ := trodAll_nil r1
  obtain rfl : args = #[v0, v1] := by cases args; simp_all
  obtain ⟨rfl, rfl⟩ := trodVars_none hV
  have k0 := h0
  have lt0 : ∀ x ∈ p0, x.block < W.heap.size := by obtain ⟨m, hm⟩ := k0; exact DataW.trod_lt m _ _ _ hm
  obtain ⟨x, rfl⟩ := okWide_agg (by first | exact .inl ⟨_, Tryd.underlying25⟩ | exact .inr ⟨_, _, Tryd.underlying25⟩) (hval 0 25 v0 rfl rfl)
  have rd0 := reads_cells (sh := shS) 30 (by kernel_rfl) k0
  obtain ⟨place, rfl, rfl, rfl, wf1⟩ := open_int Tryd.underlying3 (hval 1 3 v1 rfl rfl) h1
  have bd1 := bounds_i64 wf1
  clear hA0 hval0
  refine (walk x place W (of_laid hL) rd0 bd1.1 bd1.2).mono fun e W' ⟨he, bel⟩ => ?_
  subst he
  exact ⟨_, rfl, _, _, _, [], _, [], hW', trodAll_mk1 (shut_bool Tryd.underlying4 _), (trodAll_cons_mk (Below.trod laidOut (by kernel_rfl) (of_decide_eq_true (by kernel_rfl)) k0 bel lt0) (trodAll_cons_mk (shut_int Tryd.underlying3 wf1) trodAll_mk0)), rfl, bel.frame _, fun h => by cases h⟩

theorem over : Rows.serialOthersRow.holds Tryd.pinned (OpenSpec.ofChange Rows.serialOthersSpec) :=
  OpenClaim.holds_of_wide 4 Tryd.f4 rfl rfl rfl rfl rfl rfl rfl ⟨rfl, rfl, rfl, rfl, rfl⟩ rfl rfl rfl rfl rfl (by kernel_rfl) Tryd.func4 (by kernel_rfl)
    (of_decide_eq_true (by kernel_rfl)) (by unfold Func.isWrapper; first | (rw [if_pos (by decide +kernel)]; kernel_rfl) | (rw [if_neg (by decide +kernel)]; exact ⟨rfl, rfl⟩))
    (fun os started H enc _ => lifted os started H enc)

/-- The card: what the row lists is tied to the program's text. -/
theorem proved : Rows.SerialOthersCardSaid :=
  Claim7.holds_tied_plain_at .later [] [.data] true Rows.serialOthersCard.stood.harness false
    over (fun _ h => by cases h) (by kernel_rfl) (fun _ h => by cases h) serialOthers_row_tie rfl ⟨rfl, rfl⟩ (by kernel_rfl) rfl
    (fun f fn hf hfn => by
      obtain rfl : f = 4 := Option.some.inj ((show Tryd.prog.funcNamed "busbar/busbarlaw14.SerialOthers" = some 4 by kernel_rfl).symm.trans hf) |>.symm
      obtain rfl : fn = Tryd.f4 := (Option.some.inj (Tryd.func4.symm.trans hfn)).symm
      exact ⟨by kernel_rfl, fun j t ht => by
        rw [Tryd.params4] at ht
        have hm : t ∈ [25, 3] := by simpa using Array.mem_of_getElem? ht
        have hall : ([25, 3].all fun u => !Tryd.prog.wantsStandIn u) = true := by kernel_rfl
        exact (show Tryd.prog.wantsStandIn t = false by simpa using List.all_eq_true.1 hall t hm)⟩)
    (by kernel_rfl)
end Go.Proofs.YtnbcegijncdmaaaDoor.lawSerialOthers
