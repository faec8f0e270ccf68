/- Behind a tick with all lines low, whatever was seen ahead does not count: for every two lists of lines; no condition. -/
import Derived.Deep.CutRange
import Derived.Test.YtbhgnhbaimemmaaRunC
import Derived.Test.YtbhgnhbaimemmaaSh
import Derived.Test.YtbhgnhbaimemmaaRows
import Derived.WalkKit
import Derived.ProofKit
import Derived.OpenShut
import Derived.ShutString
import Derived.ChangeOld
import Derived.Below
namespace Go.Proofs.Ytbhgnhbaimemmaa.lawRunsLater
open Go.ChangeShapes Go.WideShapes Go.ChangeAt Go.RowKit Base
open Go.ChangeMaps (open_string shut_string)
set_option linter.unusedVariables false
set_option linter.unusedSimpArgs false
theorem own : ownKnob Try.prog.godebug = none := by kernel_rfl
theorem laidOut : laidOutB Try.prog = true := by kernel_rfl
open Ly6

/-- What the first loop knows: one has seen the first k, the other none. -/
def ARel (w : World) (gx gy n : Nat) (i : Value) (wr : World) : Prop :=
  ∃ (k : Nat) (a b c d run was since : Int), k ≤ n ∧ i = .int .i64 k ∧ Bd k a b c d run since ∧ Rn wr gx true a b c d run was since ∧ Rn wr gy true 0 0 0 0 0 0 0 ∧ Below w.heap.size w wr
/-- What the second loop knows, behind k of them. -/
def BRel (w : World) (gx gy n : Nat) (i : Value) (wr : World) : Prop :=
  ∃ (k : Nat) (a b c d run wx wy since : Int), k ≤ n ∧ i = .int .i64 k ∧ Bd k a b c d run since ∧ Rn wr gx true a b c d run wx since ∧ Rn wr gy true a b c d run wy since ∧ Below w.heap.size w wr

set_option maxRecDepth 100000 in
set_option maxHeartbeats 4000000 in
theorem walk_in (A B : Option Addr) (n c m d : Nat) (xs ys : List Nat) (w : World) (hn : n ≤ 300) (hm : m ≤ 300) (ha : Lst w A n (xs.map fun (x : Nat) => Value.int .u8 x)) (hb : Lst w B m (ys.map fun (x : Nat) => Value.int .u8 x)) (hx : ∀ x ∈ xs, x < 256) (hy : ∀ x ∈ ys, x < 256) :
    Calls Try.prog 13 #[.slice A n c, .slice B m d] w fun e w' => e = .returned (.bool true) ∧ Below w.heap.size w w' := by
  have hlx : xs.length = n := by simpa using ha.1
  have hly : ys.length = m := by simpa using hb.1
  have HLX := Lib.hid hlx
  have HLY := Lib.hid hly
  have HX := Lib.hid hx
  have HY := Lib.hid hy
  have HA := Lib.hid ha
  have HB := Lib.hid hb
  clear ha hb hx hy hlx hly
  go_enter Try.func13, Try.ntmps13
  go_wp2_with fail
  refine (new_any w).mono ?_
  rintro e w1 ⟨rfl, hx1, hb1⟩
  go_wp2_with fail
  refine (new_any w1).mono ?_
  rintro e w2 ⟨rfl, hy2, hb2⟩
  have l1 := hx1.lt
  have z1 := hb1.size
  have hbel0 : Below w.heap.size w w2 := hb1.trans (hb2.mono z1)
  have HX2 : Hid (Rn w2 w.heap.size true 0 0 0 0 0 0 0) := Lib.hid (hx1.kept hb2)
  have HY2 := Lib.hid hy2
  clear hx1 hy2 hb1 hb2
  obtain ⟨gx, HGX⟩ : ∃ bx, Hid (w.heap.size = bx) := ⟨_, Lib.hid rfl⟩
  obtain ⟨gy, HGY⟩ : ∃ bx, Hid (w1.heap.size = bx) := ⟨_, Lib.hid rfl⟩
  have hgx : Hid (w.heap.size ≤ gx) := Lib.hid (by rw [HGX.out]; exact Nat.le_refl _)
  have hgy : Hid (w.heap.size ≤ gy) := Lib.hid (by rw [← HGY.out]; exact z1)
  have hne : Hid (gx ≠ gy) := Lib.hid (by rw [← HGX.out, ← HGY.out]; exact Nat.ne_of_lt l1)
  rw [HGX.out] at HX2
  rw [HGX.out, HGY.out]
  rw [HGY.out] at HY2
  clear l1 z1
  go_wp2_with fail
  go_loopw [7] (fun i wr => ARel w gx gy n i wr) (fun i _ => n - (intOf i).toNat)
  case atStart => exact ⟨0, 0, 0, 0, 0, 0, 0, 0, by omega, rfl, bd_zero, HX2.out, HY2.out, hbel0⟩
  case round =>
    obtain ⟨k, a, b, cc, dd, run, was, since, hk, rfl, hbd, hrx, hry, hbel⟩ := hrel
    have HBD := Lib.hid hbd
    have HRX := Lib.hid hrx
    have HRY := Lib.hid hry
    have HBEL := Lib.hid hbel
    clear hbd hrx hry hbel hbel0 HX2 HY2
    by_cases hlt : k < n
    · obtain ⟨q, off, rfl, hbs, hg0⟩ := HA.out.get hlt
      rw [List.getElem_map] at hg0
      have hv := HX.out _ (List.getElem_mem (by rw [HLX.out]; exact hlt))
      obtain ⟨v, HV⟩ : ∃ v, Hid (xs[k]'(by rw [HLX.out]; exact hlt) = v) := ⟨_, Lib.hid rfl⟩
      rw [HV.out] at hg0 hv
      have hc := (HBEL.out.cell (p := ⟨q, off + k, none⟩) hbs).trans hg0
      obtain ⟨a', b', c', d', t, s, hbd', heq, HS⟩ := see_ex k v a b cc dd run since HBD.out (by omega) hv
      have HBD' := Lib.hid hbd'
      clear heq hbd' hg0
      go_wp2_with (go_at_call 37; refine (HS.out gx was _ HRX.out).mono ?_; rintro e w3 ⟨rfl, h3, hw3⟩)
      go_roundw
      case rel => exact ⟨k + 1, a', b', c', d', t, run, s, by omega, by go_num, HBD'.out, h3.out, Obj1.touch HRY.out hw3.out hne.out.symm, HBEL.out.trans (hw3.out.below hgx.out HBEL.out.size)⟩
      case measure => simp [intOf]; omega
    · obtain rfl : k = n := by omega
      go_wp2_with fail
      refine (see_low k gx a b cc dd run was since _ HBD.out (by omega) HRX.out).mono ?_
      rintro e w3 ⟨rfl, h3, hw3⟩
      have HY3 : Hid (Rn w3 gy true 0 0 0 0 0 0 0) := Lib.hid (Obj1.touch HRY.out hw3.out hne.out.symm)
      have HB3 := Lib.hid (HBEL.out.trans (hw3.out.below hgx.out HBEL.out.size))
      clear hw3 HBEL HRY
      go_wp2_with fail
      refine (see_low 0 gy 0 0 0 0 0 0 0 _ bd_zero (by omega) HY3.out).mono ?_
      rintro e w4 ⟨rfl, h4, hw4⟩
      have HX4 : Hid (Rn w4 gx true 0 0 0 0 0 run since) := Lib.hid (Obj1.touch h3.out hw4.out hne.out)
      have HB4 := Lib.hid (HB3.out.trans (hw4.out.below hgy.out HB3.out.size))
      clear hw4 HB3 HY3 h3
      go_wp2_with fail
      refine (since_any gx true _ _ _ _ _ _ _ _ HX4.out).mono ?_
      rintro e w5 ⟨rfl, h5, hw5⟩
      have HX5 := Lib.hid h5
      have HY5 : Hid (Rn w5 gy true 0 0 0 0 0 0 0) := Lib.hid (Obj1.touch h4.out hw5 hne.out.symm)
      have HB5 := Lib.hid (HB4.out.trans (hw5.below hgx.out HB4.out.size))
      clear hw5 HB4 HX4 h5 h4
      go_wp2_with fail
      refine (since_any gy true _ _ _ _ _ _ _ _ HY5.out).mono ?_
      rintro e w6 ⟨rfl, h6, hw6⟩
      have HY6 := Lib.hid h6
      have HX6 : Hid (Rn w6 gx true 0 0 0 0 0 run 0) := Lib.hid (Obj1.touch HX5.out hw6 hne.out)
      have HB6 := Lib.hid (HB5.out.trans (hw6.below hgy.out HB5.out.size))
      clear hw6 HB5 HX5 HY5 h6
      go_wp2_with fail
      go_loopw [8] (fun i wr => BRel w gx gy m i wr) (fun i _ => m - (intOf i).toNat)
      case atStart => exact ⟨0, 0, 0, 0, 0, 0, run, 0, 0, by omega, rfl, bd_zero, HX6.out, HY6.out, HB6.out⟩
      case round =>
        clear HX6 HY6 HB6 HBD HRX
        obtain ⟨j, a, b, cc, dd, run, wx, wy, since, hj, rfl, hbd, hrx, hry, hbel⟩ := hrel
        have HBD := Lib.hid hbd
        have HRX := Lib.hid hrx
        have HRY := Lib.hid hry
        have HBEL := Lib.hid hbel
        clear hbd hrx hry hbel
        by_cases hlt : j < m
        · obtain ⟨q, off, rfl, hbs, hg0⟩ := HB.out.get hlt
          rw [List.getElem_map] at hg0
          have hv := HY.out _ (List.getElem_mem (by rw [HLY.out]; exact hlt))
          obtain ⟨v, HV⟩ : ∃ v, Hid (ys[j]'(by rw [HLY.out]; exact hlt) = v) := ⟨_, Lib.hid rfl⟩
          rw [HV.out] at hg0 hv
          have hc := (HBEL.out.cell (p := ⟨q, off + j, none⟩) hbs).trans hg0
          obtain ⟨a', b', c', d', t, s, hbd', heq, HS⟩ := see_ex j v a b cc dd run since HBD.out (by omega) hv
          have HBD' := Lib.hid hbd'
          obtain ⟨r, HR⟩ : ∃ r, Hid (roseB t run = r) := ⟨_, Lib.hid rfl⟩
          obtain ⟨f, HF⟩ : ∃ f, Hid ((if 0 < t then 0 else run) = f) := ⟨_, Lib.hid rfl⟩
          have HG0 := Lib.hid hg0
          clear heq hbd' hg0
          go_wp2_with fail
          refine (HS.out gx wx _ HRX.out).mono ?_
          rintro e w3 ⟨rfl, h3, hw3⟩
          have HY3 : Hid (Rn w3 gy true a b cc dd run wy since) := Lib.hid (Obj1.touch HRY.out hw3.out hne.out.symm)
          have HB3 := Lib.hid (HBEL.out.trans (hw3.out.below hgx.out HBEL.out.size))
          clear hw3 HBEL HRY HRX hc
          have hc := (HB3.out.cell (p := ⟨q, off + j, none⟩) hbs).trans HG0.out
          go_wp2_with fail
          refine (HS.out gy wy _ HY3.out).mono ?_
          rintro e w4 ⟨rfl, h4, hw4⟩
          have HX4 : Hid (Rn w4 gx true a' b' c' d' t run s) := Lib.hid (Obj1.touch h3.out hw4.out hne.out)
          have HB4 := Lib.hid (HB3.out.trans (hw4.out.below hgy.out HB3.out.size))
          clear hw4 HB3 HY3 h3 hc
          go_wp2_with fail
          refine (run_any gx true _ _ _ _ _ _ _ _ HX4.out).mono ?_
          rintro e w' ⟨rfl, rfl⟩
          go_wp2_with fail
          refine (run_any gy true _ _ _ _ _ _ _ _ h4.out).mono ?_
          rintro e w' ⟨rfl, rfl⟩
          go_wp2_with fail
          refine (rose_c gx true _ _ _ _ _ _ _ r HR _ HX4.out).mono ?_
          rintro e w5 ⟨rfl, hb5⟩
          have HX5 : Hid (Rn w5 gx true a' b' c' d' t run s) := Lib.hid (Obj1.kept HX4.out hb5)
          have HY5 : Hid (Rn w5 gy true a' b' c' d' t run s) := Lib.hid (Obj1.kept h4.out hb5)
          have HB5 := Lib.hid (HB4.out.trans (hb5.mono HB4.out.size))
          clear hb5 HB4 HX4 h4
          go_wp2_with fail
          refine (rose_c gy true _ _ _ _ _ _ _ r HR _ HY5.out).mono ?_
          rintro e w6 ⟨rfl, hb6⟩
          have HX6 : Hid (Rn w6 gx true a' b' c' d' t run s) := Lib.hid (Obj1.kept HX5.out hb6)
          have HY6 : Hid (Rn w6 gy true a' b' c' d' t run s) := Lib.hid (Obj1.kept HY5.out hb6)
          have HB6 := Lib.hid (HB5.out.trans (hb6.mono HB5.out.size))
          clear hb6 HB5 HX5 HY5
          go_wp2_with fail
          refine (fell_c gx true _ _ _ _ _ _ _ f HF _ HX6.out).mono ?_
          rintro e w' ⟨rfl, rfl⟩
          go_wp2_with fail
          refine (fell_c gy true _ _ _ _ _ _ _ f HF _ HY6.out).mono ?_
          rintro e w' ⟨rfl, rfl⟩
          go_wp2_with fail
          go_roundw
          case rel => exact ⟨j + 1, a', b', c', d', t, run, run, s, by omega, by go_num, HBD'.out, HX6.out, HY6.out, HB6.out⟩
          case measure => simp [intOf]; omega
        · obtain rfl : j = m := by omega
          go_wp2_with fail
          refine (since_any gx true _ _ _ _ _ _ _ _ HRX.out).mono ?_
          rintro e w5 ⟨rfl, h5, hw5⟩
          have HY5 : Hid (Rn w5 gy true a b cc dd run wy since) := Lib.hid (Obj1.touch HRY.out hw5 hne.out.symm)
          have HB5 := Lib.hid (HBEL.out.trans (hw5.below hgx.out HBEL.out.size))
          clear hw5 h5 HRX HRY HBEL
          go_wp2_with fail
          refine (since_any gy true _ _ _ _ _ _ _ _ HY5.out).mono ?_
          rintro e w6 ⟨rfl, h6, hw6⟩
          have HB6 := Lib.hid (HB5.out.trans (hw6.below hgy.out HB5.out.size))
          clear hw6 h6 HY5 HB5
          go_wp2_with (go_at_call 45; refine (one_any _).mono ?_; rintro e w7 ⟨rfl, hb7⟩)
          go_ret
          exact ⟨rfl, HB6.out.trans (hb7.mono HB6.out.size)⟩

set_option maxRecDepth 100000 in
theorem walk_long (A B : Option Addr) (n c m d : Nat) (w : World) (hn : n ≤ 9223372036854775807) (hm : m ≤ 9223372036854775807) (h : 300 < n ∨ 300 < m) :
    Calls Try.prog 13 #[.slice A n c, .slice B m d] w fun e w' => e = .returned (.bool true) ∧ Below w.heap.size w w' := by
  rcases (show 300 < n ∨ (n ≤ 300 ∧ 300 < m) by omega) with g | ⟨g, g1⟩
  all_goals
    clear h
    go_enter Try.func13, Try.ntmps13
    go_wp2
    go_ret
    exact ⟨rfl, Below.refl _ _⟩

theorem walk (A : Option Addr) (n c : Nat) (xs : List Int) (B : Option Addr) (m d : Nat) (ys : List Int) (w : World) (ha : Lst w A n (xs.map (Value.int .u8))) (hx : ∀ x ∈ xs, 0 ≤ x ∧ x ≤ 255) (hnc : n ≤ c) (hcm : c ≤ maxLen) (hb : Lst w B m (ys.map (Value.int .u8))) (hy : ∀ x ∈ ys, 0 ≤ x ∧ x ≤ 255) (hmd : m ≤ d) (hdm : d ≤ maxLen) :
    Calls Try.prog 13 #[.slice A n c, .slice B m d] w fun e w' => e = .returned (.bool true) ∧ Below w.heap.size w w' := by
  unfold maxLen at hcm hdm
  obtain ⟨us, eu, hu⟩ := nats_of xs hx
  obtain ⟨vs, ev, hv⟩ := nats_of ys hy
  rw [eu] at ha
  rw [ev] at hb
  by_cases h : n ≤ 300 ∧ m ≤ 300
  · exact walk_in A B n c m d us vs w h.1 h.2 ha hb hu hv
  · exact walk_long A B n c m d w (by omega) (by omega) (by omega)

set_option maxRecDepth 100000 in
theorem lifted (os : Os) (started : os.Started) (H : Type) (enc : TypeId × Value → H) :
    ReturnsInHanded {} Try.checked os 13 .any (Rows.runsLaterSpec.pre6 enc Try.prog Try.f13 Rows.runsLaterRow.domain false) (Rows.runsLaterSpec.post enc Try.prog Try.f13 false true false false) := by
  refine returnsInHanded_of_change (C := Try.checked) own started (by kernel_rfl) Try.func13
    (ChangeSpec.witness6 (enc := enc) (C := Try.checked) false ⟨#[], #[.slice none 0 0, .slice none 0 0], []⟩ 8 (by kernel_rfl) (by kernel_rfl) (by kernel_rfl) (by kernel_rfl)) ?_
  intro W base args ds gs before hval0 hW hcnd _
  have hval : ∀ (j : Nat) t v, Try.f13.params[j]? = some t → args[j]? = some v → Value.okWide Try.prog W .any base t v := hval0
  have hW' := hW
  obtain ⟨p, q, hA0, hV, rfl, hfz, hnd⟩ := hW
  have hA : DataW.TrodAll enc Try.prog W 0 (fun _ => true) true Try.f13.params.toList args.toList ds p := hA0
  rw [Try.params13] at hA hval
  obtain ⟨v0, vs0, d0, ds0, p0, q0, hargs, rfl, rfl, h0, r0⟩ := trodAll_cons hA
  obtain ⟨v1, vs1, d1, ds1, p1, q1, rfl, rfl, rfl, h1, r1⟩ := trodAll_cons r0
  obtain ⟨rfl, rfl, rfl⟩ := trodAll_nil r1
  obtain rfl : args = #[v0, v1] := by cases args; simp_all
  obtain ⟨rfl, rfl⟩ := trodVars_none hV
  have k0 := h0
  have lt0 : ∀ x ∈ p0, x.block < W.heap.size := by obtain ⟨m, hm⟩ := k0; exact DataW.trod_lt m _ _ _ hm
  obtain ⟨xsA, xsn, xsc, rfl⟩ := okWide_slice Try.underlying22 (hval 0 22 v0 rfl rfl)
  obtain ⟨xs, l0, b0, cb0, cc0⟩ := lst_ints Try.underlying22 Try.underlying29 (by kernel_rfl) k0
  have k1 := h1
  have lt1 : ∀ x ∈ p1, x.block < W.heap.size := by obtain ⟨m, hm⟩ := k1; exact DataW.trod_lt m _ _ _ hm
  obtain ⟨ysA, ysn, ysc, rfl⟩ := okWide_slice Try.underlying22 (hval 1 22 v1 rfl rfl)
  obtain ⟨ys, l1, b1, cb1, cc1⟩ := lst_ints Try.underlying22 Try.underlying29 (by kernel_rfl) k1
  clear hA0 hval0
  refine (walk xsA xsn xsc xs ysA ysn ysc ys W l0 (ints_u8 b0) cb0 cc0 l1 (ints_u8 b1) cb1 cc1).mono fun e W' ⟨he, bel⟩ => ?_
  subst he
  exact ⟨_, rfl, _, _, _, [], _, [], hW', trodAll_mk1 (shut_bool Try.underlying4 _), (trodAll_cons_mk (Below.trod laidOut (by kernel_rfl) (of_decide_eq_true (by kernel_rfl)) k0 bel lt0) (trodAll_cons_mk (Below.trod laidOut (by kernel_rfl) (of_decide_eq_true (by kernel_rfl)) k1 bel lt1) trodAll_mk0)), rfl, bel.frame _, fun h => by cases h⟩

theorem over : Rows.runsLaterRow.holds Try.pinned (OpenSpec.ofChange Rows.runsLaterSpec) :=
  OpenClaim.holds_of_wide 13 Try.f13 rfl rfl rfl rfl rfl rfl rfl ⟨rfl, rfl, rfl, rfl, rfl⟩ rfl rfl rfl rfl rfl (by kernel_rfl) Try.func13 (by kernel_rfl)
    (of_decide_eq_true (by kernel_rfl)) (by unfold Func.isWrapper; first | (rw [if_pos (by decide +kernel)]; kernel_rfl) | (rw [if_neg (by decide +kernel)]; exact ⟨rfl, rfl⟩))
    (fun os started H enc _ => lifted os started H enc)

/-- The statement. -/
theorem proved : Rows.RunsLaterSaid := over
end Go.Proofs.Ytbhgnhbaimemmaa.lawRunsLater
