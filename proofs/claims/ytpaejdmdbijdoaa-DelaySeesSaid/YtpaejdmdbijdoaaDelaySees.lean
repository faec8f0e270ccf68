/- Whatever lines come, each is seen as many ticks later as the document says, also behind a new beginning: for every input; no condition. -/
import Derived.Deep.CutRange
import Derived.Test.YtpaejdmdbijdoaaDlyB
import Derived.Test.YtpaejdmdbijdoaaSh
import Derived.Test.YtpaejdmdbijdoaaRows
import Derived.WalkKit
import Derived.ProofKit
import Derived.OpenShut
import Derived.ShutString
import Derived.ChangeOld
import Derived.Below
namespace Go.Proofs.Ytpaejdmdbijdoaa.lawDelaySees
open Go.ChangeShapes Go.WideShapes Go.ChangeAt Go.RowKit Base
open Go.ChangeMaps (open_string shut_string)
set_option linter.unusedVariables false
set_option linter.unusedSimpArgs false
theorem own : ownKnob Try.prog.godebug = none := by kernel_rfl
theorem laidOut : laidOutB Try.prog = true := by kernel_rfl
open Ly4

theorem info_int : (Try.prog.info? 3).map (fun i => (i.zero, i.size, i.bytes)) = some (some (.int .i64 0), 1, 8) := by kernel_rfl

theorem seen_bd {h : List Int} {t : Nat} (hb : ∀ x ∈ h, 0 ≤ x ∧ x ≤ 255) : 0 ≤ seenF h t ∧ seenF h t ≤ 255 := by
  unfold seenF
  split
  · omega
  · rw [List.getD_eq_getElem?_getD, List.getElem?_eq_getElem (by omega)]
    exact hb _ (List.getElem_mem _)

/-- What the loop knows, behind k values. -/
def DRel (w w1 : World) (t n : Nat) (had i : Value) (wr : World) : Prop :=
  ∃ (k : Nat) (h : List Int), k ≤ n ∧ i = .int .i64 k ∧ h.length ≤ k ∧ (∀ x ∈ h, 0 ≤ x ∧ x ≤ 255) ∧ wr.ownsRow w1.heap.size 3 1 had h.length (h.map (Value.int .i64)) ∧ Dly wr w.heap.size t h ∧ Below w.heap.size w wr ∧ w1.heap.size ≤ wr.heap.size

/-- What stands behind the new beginning, or without it. -/
def DCut (w w1 : World) (t k : Nat) (had : Value) (wr : World) : Prop :=
  ∃ h : List Int, h.length ≤ k ∧ (∀ x ∈ h, 0 ≤ x ∧ x ≤ 255) ∧ wr.ownsRow w1.heap.size 3 1 had h.length (h.map (Value.int .i64)) ∧ Dly wr w.heap.size t h ∧ Below w.heap.size w wr ∧ w1.heap.size ≤ wr.heap.size

set_option maxRecDepth 100000 in
set_option maxHeartbeats 2000000 in
theorem walk (tk : Int) (A : Option Addr) (n c : Nat) (l : List Int) (cl : Int) (w : World) (ht0 : -9223372036854775808 ≤ tk) (ht1 : tk ≤ 9223372036854775807) (hl : Lst w A n (l.map (Value.int .u8))) (hb : ∀ x ∈ l, 0 ≤ x ∧ x ≤ 255) (hnc : n ≤ c) (hcm : c ≤ maxLen) (hc0 : -9223372036854775808 ≤ cl) (hc1 : cl ≤ 9223372036854775807) :
    Calls Try.prog 3 #[.int .i64 tk, .slice A n c, .int .i64 cl] w fun e w' => e = .returned (.bool true) ∧ Below w.heap.size w w' := by
  have hm := hcm
  unfold maxLen at hm
  have hln : l.length = n := by simpa using hl.1
  have HLN := Lib.hid hln
  have HBD := Lib.hid hb
  clear hln hb
  by_cases h500 : 500 < n
  · go_enter Try.func3, Try.ntmps3
    go_wp2
    go_ret
    exact ⟨rfl, Below.refl _ _⟩
  · rcases (show tk < 0 ∨ (0 ≤ tk ∧ 15 < tk) ∨ (0 ≤ tk ∧ tk ≤ 15) by omega) with g | ⟨g, g1⟩ | ⟨g, g1⟩
    · go_enter Try.func3, Try.ntmps3
      go_wp2_with (first | (go_at_call 14; refine (new_no _ _ (.inl g)).mono ?_; rintro e w' ⟨rfl, rfl⟩) | (go_at_call 15; refine (one_any _).mono ?_; rintro e w1 ⟨rfl, hb1⟩))
      go_ret
      exact ⟨rfl, hb1⟩
    · go_enter Try.func3, Try.ntmps3
      go_wp2_with (first | (go_at_call 14; refine (new_no _ _ (.inr g1)).mono ?_; rintro e w' ⟨rfl, rfl⟩) | (go_at_call 15; refine (one_any _).mono ?_; rintro e w1 ⟨rfl, hb1⟩))
      go_ret
      exact ⟨rfl, hb1⟩
    · obtain ⟨t, rfl⟩ : ∃ t : Nat, tk = t := ⟨tk.toNat, by omega⟩
      have ht : t ≤ 15 := by omega
      have hd15 : decide (15 < t) = false := by simp; omega
      obtain ⟨i0, hi, hz0, hz1, hz2⟩ := info_parts info_int
      go_enter Try.func3, Try.ntmps3
      go_wp2_with fail
      refine (new_yes t w ht).mono ?_
      rintro e w1 ⟨rfl, hd1, hb1⟩
      have hw1 : w.heap.size < w1.heap.size := hd1.lt
      go_wp2_with fail
      go_loopw [9, 10] (fun had i wr => DRel w w1 t n had i wr) (fun _ i _ => n - (intOf i).toNat)
      case atStart => exact ⟨0, [], by omega, rfl, by simp, by simp, World.ownsRow_nil _ _ _ _, hd1, hb1, Nat.le_refl _⟩
      case round =>
        obtain ⟨k, h, hk, rfl, hhk, hbh, hown, hd, hbel, hsz⟩ := hrel
        have HD := Lib.hid hd
        clear hd hd1
        by_cases hlt : k < n
        · obtain ⟨b, off, rfl, hbs, hg0⟩ := hl.get hlt
          have hvb := HBD.out (l[k]'(by rw [HLN.out]; exact hlt)) (List.getElem_mem _)
          obtain ⟨v, HV⟩ : ∃ v, Hid (l[k]'(by rw [HLN.out]; exact hlt) = v) := ⟨_, Lib.hid rfl⟩
          rw [HV.out] at hvb
          obtain ⟨v0, v1⟩ := hvb
          rw [List.getElem_map, HV.out] at hg0
          have HG := Lib.hid hg0
          clear hg0
          go_upto_if 42 with (fail)
          go_cut [9] from 34 to 70 (fun had wx => DCut w w1 t k had wx)
          case first =>
            rcases Bool.eq_false_or_eq_true ((k : Int) == cl) with hkc | hkc
            · go_wp2_with (go_at_call 16; refine (clear_any _ t _ _ HD.out).mono ?_; rintro e w2 ⟨rfl, hd2, hw2⟩)
              go_meet
              exact ⟨[], by simp, by simp, World.ownsRow_nil _ _ _ _, hd2, hbel.trans (hw2.below (Nat.le_refl _) hbel.size), Nat.le_trans hsz hw2.size⟩
            · go_wp2_with fail
              go_meet
              exact ⟨h, hhk, hbh, hown, HD.out, hbel, hsz⟩
          case rest =>
            clear hown HD hbel hsz hhk hbh
            obtain ⟨h, hhk, hbh, hown, hd, hbel, hsz⟩ := hcut
            obtain ⟨m, HM⟩ : ∃ m, Hid (h.length = m) := ⟨_, rfl⟩
            have hmk : m ≤ k := by rw [← HM.out]; exact hhk
            rw [HM.out] at hown
            have HH := Lib.hid hhk
            have HB := Lib.hid hbh
            have HD := Lib.hid hd
            clear hd hhk hbh
            have hmk5 : m ≤ 500 := by omega
            have hc := (hbel.cell (p := ⟨b, off + k, none⟩) hbs).trans HG.out
            go_wp2_with (at_builtin; refine push1 _ rfl (.tmp 45) (.tmp 51) 28 rfl w1.heap.size 3 i0 (.int .i64 0) 8 Try.underlying28 hi hz0 hz1 hz2 rfl _ _ _ rfl hown (.int .i64 v) _ rfl rfl (by unfold maxLen; omega) (by omega) hsz ?_; intro v2 w2 hown2 hbel2; obtain ⟨A2, c2, rfl, hc2a, hc2b, hl2⟩ := Lst.of_own hown2; have hb2 := hbel.trans (hbel2.mono (Nat.le_of_lt hw1)); have hcc := (hb2.cell (p := ⟨b, off + k, none⟩) hbs).trans HG.out; clear hc hown)
            have hsz2 := Nat.le_trans hsz hbel2.size
            have HD2 : Hid (Dly w2 w.heap.size t h) := by
              obtain ⟨cs, ho, r⟩ := HD.out
              exact ⟨cs, ho.below hbel2 hw1, r⟩
            refine (see_any _ t h v w2 HD2.out ht (by have := HM.out; omega) v0 v1).mono ?_
            rintro e w3 ⟨rfl, hd3, hw3⟩
            have hown3 := ownsRow_wrote hown2 hw3 hw1
            have hl3 : Lst w3 A2 (m + 1) ((h ++ [v]).map (Value.int .i64)) := by
              obtain ⟨A3, c3, e3, _, _, hl3⟩ := Lst.of_own hown3
              cases e3
              simpa using hl3
            have hb3 := hb2.trans (hw3.below (Nat.le_refl _) hb2.size)
            have hsb := seen_bd (t := t) (h := h ++ [v]) (by intro x hx; simp at hx; rcases hx with hx | rfl; exact HB.out x hx; exact ⟨v0, v1⟩)
            obtain ⟨s, HS⟩ : ∃ s, Hid (seenF (h ++ [v]) t = s) := ⟨_, Lib.hid rfl⟩
            rw [HS.out] at hsb ⊢
            obtain ⟨s0, s1⟩ := hsb
            have HD3 := Lib.hid hd3
            have hsz3 := Nat.le_trans hsz2 hw3.size
            clear hd3 hown2 hw3 hcc hl2
            go_wp2_with fail
            have HM3 : Hid ((h ++ [v]).length = m + 1) := by show (h ++ [v]).length = m + 1; simp [HM.out]
            refine (rseen_any A2 (m + 1) c2 t (h ++ [v]) w3 hl3 (by omega) ht).mono ?_
            rintro e w4 ⟨rfl, rfl⟩
            rw [HS.out]
            clear hl3
            go_wp2_with (go_at_call 19; refine (last_any _ t _ _ HD3.out).mono ?_; rintro e w' ⟨rfl, rfl⟩; rw [HM3.out])
            go_roundw
            case rel => exact ⟨k + 1, h ++ [v], by omega, by go_num, by rw [HM3.out]; omega, by intro x hx; simp at hx; rcases hx with hx | rfl; exact HB.out x hx; exact ⟨v0, v1⟩, by rw [HM3.out]; simpa using hown3, HD3.out, hb3, hsz3⟩
            case measure => simp [intOf]; omega
        · obtain rfl : k = n := by omega
          go_wp2_with (first | (go_at_call 20; refine (ticks_any _ t _ _ HD.out).mono ?_; rintro e w' ⟨rfl, rfl⟩) | (go_at_call 15; refine (one_any _).mono ?_; rintro e w3 ⟨rfl, hb3⟩))
          go_ret
          exact ⟨rfl, hbel.trans (hb3.mono hbel.size)⟩

set_option maxRecDepth 100000 in
theorem lifted (os : Os) (started : os.Started) (H : Type) (enc : TypeId × Value → H) :
    ReturnsInHanded {} Try.checked os 3 .any (Rows.delaySeesSpec.pre6 enc Try.prog Try.f3 Rows.delaySeesRow.domain false) (Rows.delaySeesSpec.post enc Try.prog Try.f3 false true false false) := by
  refine returnsInHanded_of_change (C := Try.checked) own started (by kernel_rfl) Try.func3
    (ChangeSpec.witness6 (enc := enc) (C := Try.checked) false ⟨#[], #[.int .i64 0, .slice none 0 0, .int .i64 0], []⟩ 8 (by kernel_rfl) (by kernel_rfl) (by kernel_rfl) (by kernel_rfl)) ?_
  intro W base args ds gs before hval0 hW hcnd _
  have hval : ∀ (j : Nat) t v, Try.f3.params[j]? = some t → args[j]? = some v → Value.okWide Try.prog W .any base t v := hval0
  have hW' := hW
  obtain ⟨p, q, hA0, hV, rfl, hfz, hnd⟩ := hW
  have hA : DataW.TrodAll enc Try.prog W 0 (fun _ => true) true Try.f3.params.toList args.toList ds p := hA0
  rw [Try.params3] at hA hval
  obtain ⟨v0, vs0, d0, ds0, p0, q0, hargs, rfl, rfl, h0, r0⟩ := trodAll_cons hA
  obtain ⟨v1, vs1, d1, ds1, p1, q1, rfl, rfl, rfl, h1, r1⟩ := trodAll_cons r0
  obtain ⟨v2, vs2, d2, ds2, p2, q2, rfl, rfl, rfl, h2, r2⟩ := trodAll_cons r1
  obtain ⟨rfl, rfl, rfl⟩ := trodAll_nil r2
  obtain rfl : args = #[v0, v1, v2] := by cases args; simp_all
  obtain ⟨rfl, rfl⟩ := trodVars_none hV
  obtain ⟨tk, rfl, rfl, rfl, wf0⟩ := open_int Try.underlying3 (hval 0 3 v0 rfl rfl) h0
  have bd0 := bounds_i64 wf0
  have k1 := h1
  have lt1 : ∀ x ∈ p1, x.block < W.heap.size := by obtain ⟨m, hm⟩ := k1; exact DataW.trod_lt m _ _ _ hm
  obtain ⟨lA, ln, lc, rfl⟩ := okWide_slice Try.underlying22 (hval 1 22 v1 rfl rfl)
  obtain ⟨l, l1, b1, cb1, cc1⟩ := lst_ints Try.underlying22 Try.underlying29 (by kernel_rfl) k1
  obtain ⟨cl, rfl, rfl, rfl, wf2⟩ := open_int Try.underlying3 (hval 2 3 v2 rfl rfl) h2
  have bd2 := bounds_i64 wf2
  clear hA0 hval0
  refine (walk tk lA ln lc l cl W bd0.1 bd0.2 l1 (ints_u8 b1) cb1 cc1 bd2.1 bd2.2).mono fun e W' ⟨he, bel⟩ => ?_
  subst he
  exact ⟨_, rfl, _, _, _, [], _, [], hW', trodAll_mk1 (shut_bool Try.underlying4 _), (trodAll_cons_mk (shut_int Try.underlying3 wf0) (trodAll_cons_mk (Below.trod laidOut (by kernel_rfl) (of_decide_eq_true (by kernel_rfl)) k1 bel lt1) (trodAll_cons_mk (shut_int Try.underlying3 wf2) trodAll_mk0))), rfl, bel.frame _, fun h => by cases h⟩

theorem over : Rows.delaySeesRow.holds Try.pinned (OpenSpec.ofChange Rows.delaySeesSpec) :=
  OpenClaim.holds_of_wide 3 Try.f3 rfl rfl rfl rfl rfl rfl rfl ⟨rfl, rfl, rfl, rfl, rfl⟩ rfl rfl rfl rfl rfl (by kernel_rfl) Try.func3 (by kernel_rfl)
    (of_decide_eq_true (by kernel_rfl)) (by unfold Func.isWrapper; first | (rw [if_pos (by decide +kernel)]; kernel_rfl) | (rw [if_neg (by decide +kernel)]; exact ⟨rfl, rfl⟩))
    (fun os started H enc _ => lifted os started H enc)

/-- The statement. -/
theorem proved : Rows.DelaySeesSaid := over
end Go.Proofs.Ytpaejdmdbijdoaa.lawDelaySees
