/- Whatever slips there are, each place is passed once each frame, in order, and as many ticks went by as places were passed, but for the slips: for every length and every list of slips; no condition. -/
import Derived.Deep.CutRange
import Derived.Test.YtpaejdmdbijdoaaClkC
import Derived.Test.YtpaejdmdbijdoaaSh
import Derived.Test.YtpaejdmdbijdoaaRows
import Derived.WalkKit
import Derived.ProofKit
import Derived.OpenShut
import Derived.ShutString
import Derived.ChangeOld
import Derived.Below
namespace Go.Proofs.Ytpaejdmdbijdoaa.lawClockOnce
open Go.ChangeShapes Go.WideShapes Go.ChangeAt Go.RowKit Base
open Go.ChangeMaps (open_string shut_string)
set_option linter.unusedVariables false
set_option linter.unusedSimpArgs false
theorem own : ownKnob Try.prog.godebug = none := by kernel_rfl
theorem laidOut : laidOutB Try.prog = true := by kernel_rfl
open Ly5

theorem and255 (x : Int) : ∃ y : Int, 0 ≤ y ∧ y ≤ 255 ∧ Go.bits BinOp.and IntKind.i64 x 255 = y := by
  have h : (BitVec.ofInt 64 x &&& BitVec.ofInt 64 255).toNat ≤ 255 := by
    rw [BitVec.toNat_and]
    exact Nat.le_trans Nat.and_le_right (by decide)
  refine ⟨((BitVec.ofInt 64 x &&& BitVec.ofInt 64 255).toNat : Int), by omega, by omega, ?_⟩
  show IntKind.i64.wrap ((BitVec.ofInt 64 x &&& BitVec.ofInt 64 255).toNat : Int) = _
  generalize (BitVec.ofInt 64 x &&& BitVec.ofInt 64 255).toNat = z at h ⊢
  simp only [IntKind.wrap, IntKind.bits, IntKind.signed]
  simp
  omega

theorem mod_nx (S L d : Int) (hL : 0 < L) (h0 : 0 ≤ d) (h1 : d ≤ L) : (S + d) % L = nx (S % L) L d ∧ (S + d) / L = nf (S % L) L d (S / L) := by
  have hr := Int.emod_lt_of_pos S hL
  have hr0 := Int.emod_nonneg S (by omega : L ≠ 0)
  have hS : S = L * (S / L) + S % L := (Int.mul_ediv_add_emod S L).symm
  unfold nx nf
  split
  · rename_i h
    constructor
    · rw [show S + d = (S % L + d) + L * (S / L) by omega, Int.add_mul_emod_self_left]; exact Int.emod_eq_of_lt (by omega) h
    · rw [show S + d = (S % L + d) + L * (S / L) by omega, Int.add_mul_ediv_left _ _ (by omega), Int.ediv_eq_zero_of_lt (by omega) h]; omega
  · rename_i h
    have e : S + d = (S % L + d - L) + L * (S / L + 1) := by rw [Int.mul_add]; omega
    constructor
    · rw [e, Int.add_mul_emod_self_left]; exact Int.emod_eq_of_lt (by omega) (by omega)
    · rw [e, Int.add_mul_ediv_left _ _ (by omega), Int.ediv_eq_zero_of_lt (by omega) (by omega)]; omega

theorem step_nx {a l : Int} (h0 : 0 ≤ a) (h1 : a < l) (h8 : 8 ≤ l) : Step a l (nx a l 1) := by unfold Step nx; split <;> omega
theorem step_nx2 {a l : Int} (h0 : 0 ≤ a) (h1 : a < l) (h8 : 8 ≤ l) : Step (nx a l 1) l (nx a l 2) := by unfold Step nx; split <;> split <;> omega
theorem nx_inj {a l d d' : Int} (h0 : 0 ≤ a) (h1 : a < l) (hd : 0 ≤ d ∧ d ≤ 3) (hd' : 0 ≤ d' ∧ d' ≤ 3) (h8 : 8 ≤ l) (h : nx a l d = nx a l d') : d = d' := by unfold nx at h; split at h <;> split at h <;> omega

/-- Behind d steps a place is passed just if it is one of them. -/
theorem passed_in (b : Nat) (S L f : Int) (d n : Nat) (w : World) (hS : 0 ≤ S) (h8 : 8 ≤ L) (h2 : L ≤ 1048576) (hd : d ≤ 2) (hn : n < d) (h : Clk w b (nx (S % L) L d) L (S % L) L f) :
    Calls Try.prog 30 #[.pointer (some ⟨b, 0, none⟩), .int .i64 ((S + 1 + n) % L)] w fun e w' => e = .returned (.bool true) ∧ Below w.heap.size w w' := by
  have hr := Int.emod_lt_of_pos S (show 0 < L by omega)
  have hr0 := Int.emod_nonneg S (by omega : L ≠ 0)
  rw [show S + 1 + (n : Int) = S + (1 + n) by omega, (mod_nx S L (1 + n) (by omega) (by omega) (by omega)).1]
  rcases (show (d = 1 ∧ n = 0) ∨ (d = 2 ∧ n = 0) ∨ (d = 2 ∧ n = 1) by omega) with ⟨rfl, rfl⟩ | ⟨rfl, rfl⟩ | ⟨rfl, rfl⟩
  · have := passed1 b _ L _ f (nx (S % L) L (1 + (0 : Nat))) w h hr0 hr h8 h2 (step_nx hr0 hr h8)
    simpa using this
  · have := passed2 b _ (nx (S % L) L 1) L _ f (nx (S % L) L (1 + (0 : Nat))) w h hr0 hr h8 h2 (step_nx hr0 hr h8) (step_nx2 hr0 hr h8)
    simpa using this
  · have := passed2 b _ (nx (S % L) L 1) L _ f (nx (S % L) L (1 + (1 : Nat))) w h hr0 hr h8 h2 (step_nx hr0 hr h8) (step_nx2 hr0 hr h8)
    simpa using this
theorem passed_out (b : Nat) (S L f : Int) (d : Nat) (w : World) (hS : 0 ≤ S) (h8 : 8 ≤ L) (h2 : L ≤ 1048576) (hd : d ≤ 2) (h : Clk w b (nx (S % L) L d) L (S % L) L f) :
    Calls Try.prog 30 #[.pointer (some ⟨b, 0, none⟩), .int .i64 ((S + 1 + d) % L)] w fun e w' => e = .returned (.bool false) ∧ Below w.heap.size w w' := by
  have hr := Int.emod_lt_of_pos S (show 0 < L by omega)
  have hr0 := Int.emod_nonneg S (by omega : L ≠ 0)
  rw [show S + 1 + (d : Int) = S + (1 + d) by omega, (mod_nx S L (1 + d) (by omega) (by omega) (by omega)).1]
  rcases (show d = 0 ∨ d = 1 ∨ d = 2 by omega) with rfl | rfl | rfl
  · rw [show nx (S % L) L ((0 : Nat) : Int) = S % L from nx_zero hr] at h
    exact passed0 b _ L f _ w h hr0 hr h2
  · have := passed1 b _ L _ f (nx (S % L) L (1 + (1 : Nat))) w h hr0 hr h8 h2 (step_nx hr0 hr h8)
    rw [show (nx (S % L) L ((1 : Nat) : Int) == nx (S % L) L (1 + ((1 : Nat) : Int))) = false from by simp only [beq_eq_false_iff_ne]; intro e; have := nx_inj hr0 hr (by omega) (by omega) h8 e; omega] at this
    exact this
  · have := passed2 b _ (nx (S % L) L 1) L _ f (nx (S % L) L (1 + (2 : Nat))) w h hr0 hr h8 h2 (step_nx hr0 hr h8) (step_nx2 hr0 hr h8)
    rw [show (nx (S % L) L 1 == nx (S % L) L (1 + ((2 : Nat) : Int))) = false from by simp only [beq_eq_false_iff_ne]; intro e; have := nx_inj hr0 hr (by omega) (by omega) h8 e; omega,
      show (nx (S % L) L ((2 : Nat) : Int) == nx (S % L) L (1 + ((2 : Nat) : Int))) = false from by simp only [beq_eq_false_iff_ne]; intro e; have := nx_inj hr0 hr (by omega) (by omega) h8 e; omega] at this
    exact this

/-- What the inner loop knows, behind m of the places that were passed. -/
def IRel (w2 : World) (S : Int) (D : Nat) (nxt nn : Value) (wr : World) : Prop := ∃ m : Nat, m ≤ D ∧ nxt = .int .i64 (S + 1 + m) ∧ nn = .int .i64 m ∧ Below w2.heap.size w2 wr
/-- What the slip comes to. -/
def SRel (v : Int) (wr : World) (s : Value) (wx : World) : Prop := ∃ D : Nat, D ≤ 2 ∧ s = .int .i64 ((D : Int) - 1) ∧ cl v = D ∧ wx = wr

set_option maxRecDepth 100000 in
set_option maxHeartbeats 4000000 in
theorem walk (x : Int) (A : Option Addr) (n c : Nat) (l : List Int) (w : World) (hx0 : -9223372036854775808 ≤ x) (hx1 : x ≤ 9223372036854775807) (hl : Lst w A n (l.map (Value.int .i64))) (hbd : ∀ x ∈ l, -9223372036854775808 ≤ x ∧ x ≤ 9223372036854775807) (hnc : n ≤ c) (hcm : c ≤ maxLen) :
    Calls Try.prog 8 #[.int .i64 x, .slice A n c] w fun e w' => e = .returned (.bool true) ∧ Below w.heap.size w w' := by
  have hm := hcm
  unfold maxLen at hm
  obtain ⟨y, y0, y1, hy⟩ := and255 x
  have hln : l.length = n := by simpa using hl.1
  have HLN := Lib.hid hln
  have HBD := Lib.hid hbd
  clear hln hbd
  by_cases h600 : 600 < n
  · go_enter Try.func8, Try.ntmps8
    go_wp2_with (go_at_call 21; refine (new_yes _ w (by omega) (by omega)).mono ?_; rintro e w1 ⟨rfl, hc1, hb1⟩)
    go_ret
    exact ⟨rfl, hb1⟩
  · go_enter Try.func8, Try.ntmps8
    go_wp2_with fail
    refine (new_yes (8 + y) w (by omega) (by omega)).mono ?_
    rintro e w1 ⟨rfl, hc1, hb1⟩
    have hd600 : decide ((600 : Int) < (n : Int)) = false := by simp; omega
    obtain ⟨L, HL⟩ : ∃ L, Hid (8 + y = L) := ⟨_, rfl⟩
    rw [HL.out] at hc1 ⊢
    have hL0 : 8 ≤ L := by have := HL.out; omega
    have hL1 : L ≤ 263 := by have := HL.out; omega
    have hbl := hc1.lt
    have HC1 := Lib.hid hc1
    clear hc1
    go_wp2_with fail
    go_loopw [7, 8, 9] (fun nxt sm i wr => ∃ (k : Nat) (S aa : Int), k ≤ n ∧ i = .int .i64 k ∧ 0 ≤ S ∧ S ≤ 2 * k ∧ nxt = .int .i64 (S + 1) ∧ sm = .int .i64 S ∧ Clk wr w.heap.size (S % L) L aa L (S / L) ∧ Below w.heap.size w wr) (fun _ _ i _ => n - (intOf i).toNat)
    case atStart => exact ⟨0, 0, _, by omega, rfl, by omega, by omega, rfl, rfl, by simpa using HC1.out, hb1⟩
    case round =>
      obtain ⟨k, S, aa, hk, rfl, hS0, hS1, rfl, rfl, hclk, hbel⟩ := hrel
      have HCL := Lib.hid hclk
      clear hclk
      by_cases hlt : k < n
      · obtain ⟨b, off, rfl, hbs, hc⟩ := (hl.kept hbel).get hlt
        rw [List.getElem_map] at hc
        have hvb := HBD.out (l[k]'(by rw [HLN.out]; exact hlt)) (List.getElem_mem _)
        generalize l[k]'(by rw [HLN.out]; exact hlt) = v at hc hvb
        obtain ⟨v0, v1⟩ := hvb
        have hr := Int.emod_lt_of_pos S (show 0 < L by omega)
        have hr0 := Int.emod_nonneg S (by omega : L ≠ 0)
        have hq0 := Int.ediv_nonneg hS0 (show 0 ≤ L by omega)
        have hq1 : S / L ≤ S := Int.ediv_le_self _ hS0
        go_upto_region 9 with (fail)
        go_cut [10] from 29 to 89 (fun s10 wx => SRel v wr s10 wx)
        case first =>
          rcases (show v < -1 ∨ v = -1 ∨ v = 0 ∨ v = 1 ∨ 1 < v by omega) with g | rfl | rfl | rfl | g
          all_goals
            go_wp2_with fail
            go_meet
          · exact ⟨0, by omega, by simp, by unfold cl; rw [if_pos (by omega)]; rfl, rfl⟩
          · exact ⟨0, by omega, by simp, by decide, rfl⟩
          · exact ⟨1, by omega, by simp, by decide, rfl⟩
          · exact ⟨2, by omega, by simp, by decide, rfl⟩
          · exact ⟨2, by omega, by simp, by unfold cl; rw [if_neg (by omega), if_pos (by omega)]; rfl, rfl⟩
        case rest =>
          obtain ⟨D, hD, rfl, hcv, rfl⟩ := hcut
          have HCV := Lib.hid hcv
          clear hcv
          have e1 : S + 1 + ((D : Int) - 1) = S + D := by omega
          have e2 : 1 + ((D : Int) - 1) = D := by omega
          have e3 : S + 1 + (D : Int) - 1 = S + D := by omega
          go_wp2_with fail
          refine (tick_any _ _ L aa L _ _ wc HCL.out hr0 hr (by omega) (by omega) hq0 (by omega) (by omega) (by omega)).mono ?_
          rintro e w2 ⟨rfl, hc2, hw2⟩
          rw [HCV.out] at hc2
          have HC2 := Lib.hid hc2
          have hb2 : Below w.heap.size w w2 := hbel.trans (hw2.below (Nat.le_refl _) hbel.size)
          have HC3 : Hid (Clk w2 w.heap.size ((S + D) % L) L (S % L) L ((S + D) / L)) := by
            have := mod_nx S L D (by omega) (by omega) (by omega)
            rw [this.1, this.2]; exact hc2
          clear hc2 hw2
          go_wp2_with fail
          go_loopw [7, 11] (fun nxt nn wr' => IRel w2 S D nxt nn wr') (fun _ nn _ => 4 - (intOf nn).toNat)
          case atStart => exact ⟨0, by omega, by simp, rfl, Below.refl _ _⟩
          case round =>
            obtain ⟨m, hm2, rfl, rfl, hbel2⟩ := hrel
            rcases Nat.lt_or_eq_of_le hm2 with hlt2 | heq2
            · go_wp2_with (go_at_call 30; refine (passed_in _ S L _ D m _ hS0 hL0 (by omega) (by omega) hlt2 (Obj1.kept HC2.out hbel2)).mono ?_; rintro e w3 ⟨rfl, hb3⟩)
              go_roundw
              case rel => exact ⟨m + 1, by omega, by go_num, by go_num, hbel2.trans (hb3.mono hbel2.size)⟩
              case measure => simp [intOf]; omega
            · subst heq2
              have hd4 : decide (m < 4) = true := by simp; omega
              go_wp2_with (go_at_call 30; refine (passed_out _ S L _ m _ hS0 hL0 (by omega) (by omega) (Obj1.kept HC2.out hbel2)).mono ?_; rintro e w3 ⟨rfl, hb3⟩)
              have HK := Lib.hid (fun x : Kin w3 => Obj1.kept HC3.out ((hbel2.trans (hb3.mono hbel2.size)).trans (x.below.mono (hbel2.trans (hb3.mono hbel2.size)).size)))
              go_wp2_with fail
              refine wp_region_kin (by kernel_rfl) (by kernel_rfl) ?_
              repeat (go_big_quiet_step (first | (go_at_call 27; exact Calls.kin_same _ (pos_any _ _ _ _ _ _ _ (HK.out _) (by omega))) | (go_at_call 29; exact Calls.kin_same _ (frame_any _ _ _ _ _ _ _ (HK.out _) (by omega)))))
              refine wpQuiet_nil ?_
              intro _ hw'
              obtain ⟨kx, hw''⟩ := hw'
              subst hw''
              go_wp2
              go_roundw
              case rel => exact ⟨k + 1, S + m, _, by omega, by go_num, by omega, by omega, by go_num, rfl, HK.out kx, hb2.trans (((hbel2.trans (hb3.mono hbel2.size)).trans (kx.below.mono (hbel2.trans (hb3.mono hbel2.size)).size)).mono hb2.size)⟩
              case measure => simp [intOf]; omega
      · obtain rfl : k = n := by omega
        go_wp2_with (go_at_call 22; refine (one_any _).mono ?_; rintro e w3 ⟨rfl, hb3⟩)
        go_ret
        exact ⟨rfl, hbel.trans (hb3.mono hbel.size)⟩

set_option maxRecDepth 100000 in
theorem lifted (os : Os) (started : os.Started) (H : Type) (enc : TypeId × Value → H) :
    ReturnsInHanded {} Try.checked os 8 .any (Rows.clockOnceSpec.pre6 enc Try.prog Try.f8 Rows.clockOnceRow.domain false) (Rows.clockOnceSpec.post enc Try.prog Try.f8 false true false false) := by
  refine returnsInHanded_of_change (C := Try.checked) own started (by kernel_rfl) Try.func8
    (ChangeSpec.witness6 (enc := enc) (C := Try.checked) false ⟨#[], #[.int .i64 0, .slice none 0 0], []⟩ 8 (by kernel_rfl) (by kernel_rfl) (by kernel_rfl) (by kernel_rfl)) ?_
  intro W base args ds gs before hval0 hW hcnd _
  have hval : ∀ (j : Nat) t v, Try.f8.params[j]? = some t → args[j]? = some v → Value.okWide Try.prog W .any base t v := hval0
  have hW' := hW
  obtain ⟨p, q, hA0, hV, rfl, hfz, hnd⟩ := hW
  have hA : DataW.TrodAll enc Try.prog W 0 (fun _ => true) true Try.f8.params.toList args.toList ds p := hA0
  rw [Try.params8] at hA hval
  obtain ⟨v0, vs0, d0, ds0, p0, q0, hargs, rfl, rfl, h0, r0⟩ := trodAll_cons hA
  obtain ⟨v1, vs1, d1, ds1, p1, q1, rfl, rfl, rfl, h1, r1⟩ := trodAll_cons r0
  obtain ⟨rfl, rfl, rfl⟩ := trodAll_nil r1
  obtain rfl : args = #[v0, v1] := by cases args; simp_all
  obtain ⟨rfl, rfl⟩ := trodVars_none hV
  obtain ⟨x, rfl, rfl, rfl, wf0⟩ := open_int Try.underlying3 (hval 0 3 v0 rfl rfl) h0
  have bd0 := bounds_i64 wf0
  have k1 := h1
  have lt1 : ∀ x ∈ p1, x.block < W.heap.size := by obtain ⟨m, hm⟩ := k1; exact DataW.trod_lt m _ _ _ hm
  obtain ⟨lA, ln, lc, rfl⟩ := okWide_slice Try.underlying28 (hval 1 28 v1 rfl rfl)
  obtain ⟨l, l1, b1, cb1, cc1⟩ := lst_ints Try.underlying28 Try.underlying3 (by kernel_rfl) k1
  clear hA0 hval0
  refine (walk x lA ln lc l W bd0.1 bd0.2 l1 (ints_i64 b1) cb1 cc1).mono fun e W' ⟨he, bel⟩ => ?_
  subst he
  exact ⟨_, rfl, _, _, _, [], _, [], hW', trodAll_mk1 (shut_bool Try.underlying4 _), (trodAll_cons_mk (shut_int Try.underlying3 wf0) (trodAll_cons_mk (Below.trod laidOut (by kernel_rfl) (of_decide_eq_true (by kernel_rfl)) k1 bel lt1) trodAll_mk0)), rfl, bel.frame _, fun h => by cases h⟩

theorem over : Rows.clockOnceRow.holds Try.pinned (OpenSpec.ofChange Rows.clockOnceSpec) :=
  OpenClaim.holds_of_wide 8 Try.f8 rfl rfl rfl rfl rfl rfl rfl ⟨rfl, rfl, rfl, rfl, rfl⟩ rfl rfl rfl rfl rfl (by kernel_rfl) Try.func8 (by kernel_rfl)
    (of_decide_eq_true (by kernel_rfl)) (by unfold Func.isWrapper; first | (rw [if_pos (by decide +kernel)]; kernel_rfl) | (rw [if_neg (by decide +kernel)]; exact ⟨rfl, rfl⟩))
    (fun os started H enc _ => lifted os started H enc)

/-- The statement. -/
theorem proved : Rows.ClockOnceSaid := over
end Go.Proofs.Ytpaejdmdbijdoaa.lawClockOnce
