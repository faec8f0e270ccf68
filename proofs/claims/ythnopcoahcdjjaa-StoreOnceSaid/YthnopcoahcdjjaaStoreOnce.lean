/- Words that are written in two parts are written as in one, and a place that is spoilt is good again as soon as it is written: for every place, every slice of bytes, every cut; no condition. -/
import Derived.Test.YthnopcoahcdjjaaStoE
import Derived.Test.YthnopcoahcdjjaaPush
import Derived.Test.YthnopcoahcdjjaaSh
import Derived.Test.YthnopcoahcdjjaaRows
import Derived.WalkKit
import Derived.ProofKit
import Derived.OpenShut
import Derived.ShutString
import Derived.ChangeOld
import Derived.Below
namespace Go.Proofs.Ythnopcoahcdjjaa.lawStoreOnce
open Go.ChangeShapes Go.WideShapes Go.ChangeAt Go.RowKit Base
open Go.ChangeMaps (open_string shut_string)
set_option linter.unusedVariables false
set_option linter.unusedSimpArgs false
theorem own : ownKnob Try.prog.godebug = none := by kernel_rfl
theorem laidOut : laidOutB Try.prog = true := by kernel_rfl
open Ly13

theorem new_ex (w : World) : Calls Try.prog 35 #[] w fun e w' => ∃ b, e = .returned (.pointer (some ⟨b, 0, none⟩)) ∧ w.heap.size ≤ b ∧ b < w'.heap.size ∧ Hid (Sto w' b (fun _ => 0) (fun _ => false) (fun _ => 0)) ∧ Hid (Below w.heap.size w w') :=
  (new_any w).mono fun e w' ⟨he, hs, hb⟩ => ⟨_, he, Nat.le_refl _, hs.lt, hs, hb⟩
theorem lst_drop {w : World} {b o n : Nat} {vs : List Value} (h : Lst w (some ⟨b, o, none⟩) n vs) (k : Nat) (hk : k ≤ n) : Lst w (some ⟨b, o + k, none⟩) (n - k) (vs.drop k) := by
  refine ⟨by simp [h.1], fun hn => ?_⟩
  obtain ⟨b', o', e, hlt, hc⟩ := h.2 (by omega)
  cases e
  refine ⟨b, o + k, rfl, hlt, fun j hj => ?_⟩
  rw [show o + k + j = o + (k + j) by omega, hc (k + j) (by omega), List.getElem?_drop]
theorem lst_take {w : World} {b o n : Nat} {vs : List Value} (h : Lst w (some ⟨b, o, none⟩) n vs) (k : Nat) (hk : k ≤ n) : Lst w (some ⟨b, o, none⟩) k (vs.take k) := by
  refine ⟨by simp [h.1]; omega, fun hn => ?_⟩
  obtain ⟨b', o', e, hlt, hc⟩ := h.2 (by omega)
  cases e
  refine ⟨b, o, rfl, hlt, fun j hj => ?_⟩
  rw [hc j (by omega), List.getElem?_take_of_lt hj]
theorem walk_few (A : Option Addr) (n c : Nat) (p cut : Int) (w : World) (hn : n < 2 ∨ 30 < n) (hm : n ≤ 9223372036854775807) :
    Calls Try.prog 14 #[.int .i64 p, .slice A n c, .int .i64 cut] w fun e w' => e = .returned (.bool true) ∧ Below w.heap.size w w' := by
  rcases (show n < 2 ∨ (2 ≤ n ∧ 30 < n) by omega) with g | ⟨g, g1⟩
  all_goals
    clear hn
    go_enter Try.func14, Try.ntmps14
    go_wp2_with fail
    refine (one_any w).mono ?_
    rintro e w' ⟨rfl, hb⟩
    go_wp2
    go_ret
    exact ⟨rfl, hb⟩

theorem same_end (ws : List Int) (a k n : Nat) (hl : ws.length = n) (hk : k ≤ n) :
    sameB (ovrW (fun _ => 0) a ws) (ovrW (ovrW (fun _ => 0) (a + k) (ws.drop k)) a (ws.take k)) (ovr (fun _ => false) a n true) (ovr (ovr (ovr (fun _ => false) a n false) (a + k) (n - k) true) a k true) (ovr (fun _ => 0) a n 0) (ovr (ovr (ovr (fun _ => 0) a n 0) (a + k) (n - k) 0) a k 0) = true := by
  rw [sameB_iff]
  refine ⟨fun i _ => ?_, fun i _ => ?_, fun i _ => ?_⟩
  · unfold ovrW
    simp only [List.length_take, List.length_drop, hl]
    by_cases g1 : a ≤ i ∧ i < a + k
    · rw [if_pos (by omega), if_pos (by omega)]
      simp [List.getD_eq_getElem?_getD, List.getElem?_take_of_lt (show i - a < k by omega)]
    · rw [if_neg (show ¬(a ≤ i ∧ i < a + min k n) by omega)]
      by_cases g2 : a ≤ i ∧ i < a + n
      · rw [if_pos g2, if_pos (by omega)]
        simp only [List.getD_eq_getElem?_getD, List.getElem?_drop]
        rw [show k + (i - (a + k)) = i - a by omega]
      · rw [if_neg g2, if_neg (by omega)]
  · unfold ovr
    by_cases g1 : a ≤ i ∧ i < a + k
    · rw [if_pos (by omega), if_pos g1]
    · rw [if_neg g1]
      by_cases g2 : a ≤ i ∧ i < a + n
      · rw [if_pos g2, if_pos (by omega)]
      · rw [if_neg g2, if_neg (by omega), if_neg g2]
  · unfold ovr
    split <;> split <;> (try split) <;> (try split) <;> rfl
theorem good_end (a k n : Nat) (hk : k ≤ n) : allG (ovr (ovr (ovr (fun _ => false) a n false) (a + k) (n - k) true) a k true) a n = true := by
  rw [allG_iff]
  intro i hi
  unfold ovr
  by_cases g1 : a ≤ a + i ∧ a + i < a + k
  · rw [if_pos g1]
  · rw [if_neg g1, if_pos (by omega)]

set_option maxRecDepth 100000 in
set_option maxHeartbeats 2000000 in
theorem walk_in (sb so : Nat) (n c : Nat) (ws : List Int) (p cut y : Int) (a r k : Nat) (w : World) (ha : Go.bits BinOp.and IntKind.i64 p 31 = (a : Int)) (ha1 : a ≤ 31) (hy : Go.bits BinOp.and IntKind.i64 cut 255 = y) (y0 : 0 ≤ y) (y1 : y ≤ 255)
    (hr : y % ((n : Int) - 1) = (r : Int)) (hk : 1 + (r : Int) = (k : Int)) (hr1 : r < n - 1) (hn : 2 ≤ n) (hn2 : n ≤ 30) (hnc : n ≤ c) (hcm : c ≤ 9223372036854775807) (hl : Lst w (some ⟨sb, so, none⟩) n (ws.map (Value.int .u8))) :
    Calls Try.prog 14 #[.int .i64 p, .slice (some ⟨sb, so, none⟩) n c, .int .i64 cut] w fun e w' => e = .returned (.bool true) ∧ Below w.heap.size w w' := by
  have HLN := Lib.hid (show ws.length = n by simpa using hl.1)
  have HSB : Hid (sb < w.heap.size) := by
    obtain ⟨b', o', e, hlt, _⟩ := hl.2 (by omega)
    cases e
    exact hlt
  have hkn : k ≤ n - 1 := by omega
  have hk1 : 1 ≤ k := by omega
  have HL := Lib.hid hl
  clear hl
  go_enter Try.func14, Try.ntmps14
  go_wp2_with fail
  refine (new_ex w).mono ?_
  rintro e w1 ⟨b1, rfl, n1, m1, HX1, HB1⟩
  have HL1 := Lib.hid (HL.out.kept HB1.out)
  go_wp2_with fail
  refine (new_ex w1).mono ?_
  rintro e w2 ⟨b2, rfl, n2, m2, HY2, hb2⟩
  have HX2 := Lib.hid (HX1.out.kept hb2.out)
  have HL2 := Lib.hid (HL1.out.kept hb2.out)
  have HB2 := Lib.hid (HB1.out.trans (hb2.out.mono HB1.out.size))
  have S1 := HB1.out.size
  have HN12 : Hid (b1 ≠ b2) := by show _ ≠ _; omega
  have HN1 : Hid (w.heap.size ≤ b1) := n1
  have HN2 : Hid (w.heap.size ≤ b2) := by show _ ≤ _; omega
  have HA1 : Hid (∀ b' off, some (⟨sb, so, none⟩ : Addr) = some ⟨b', off, none⟩ → b' ≠ b1) := by
    intro b' off e
    cases e
    have := HSB.out
    omega
  have HA2 : Hid (∀ b' off, some (⟨sb, so, none⟩ : Addr) = some ⟨b', off, none⟩ → b' ≠ b2) := by
    intro b' off e
    cases e
    have := HSB.out
    have := HN2.out
    omega
  clear n1 m1 n2 m2 S1 hb2 HX1 HB1 HL1
  go_wp2_with fail
  refine (write_ok b1 a n c _ ws _ _ _ w2 HX2.out HL2.out (by omega) (by omega)).mono ?_
  rintro e w3 ⟨rfl, hx3, hw3⟩
  have HX3 := Lib.hid hx3
  have HY3 := Lib.hid (HY2.out.touch hw3 (Ne.symm HN12.out))
  have HL3 := Lib.hid (HL2.out.touch hw3 HA1.out)
  have HB3 := Lib.hid (HB2.out.trans (hw3.below HN1.out HB2.out.size))
  clear hx3 hw3 HX2 HY2 HL2 HB2
  go_wp2_with fail
  refine (spoil_ok b2 a n _ _ _ w3 HY3.out (by omega) (by omega)).mono ?_
  rintro e w4 ⟨rfl, hy4, hw4⟩
  have HY4 := Lib.hid hy4
  have HX4 := Lib.hid (HX3.out.touch hw4 HN12.out)
  have HL4 := Lib.hid (HL3.out.touch hw4 HA2.out)
  have HB4 := Lib.hid (HB3.out.trans (hw4.below HN2.out HB3.out.size))
  clear hy4 hw4 HX3 HY3 HL3 HB3
  obtain ⟨j, HJ⟩ : ∃ j : Nat, Hid (a + k = j) := ⟨_, Lib.hid rfl⟩
  have hak : (a : Int) + (k : Int) = (j : Int) := by have := HJ.out; omega
  have hj64 : j ≤ 64 := by have := HJ.out; omega
  have HJN : Hid (j + (n - k) ≤ 64) := by show _ ≤ _; have := HJ.out; omega
  go_wp2_with fail
  refine (write_ok b2 j (n - k) (c - k) _ (ws.drop k) _ _ _ w4 HY4.out (by rw [List.map_drop]; exact lst_drop HL4.out k (by omega)) (by omega) HJN.out).mono ?_
  rintro e w5 ⟨rfl, hy5, hw5⟩
  rw [← HJ.out] at hy5
  have HY5 := Lib.hid hy5
  have HX5 := Lib.hid (HX4.out.touch hw5 HN12.out)
  have HL5 := Lib.hid (HL4.out.touch hw5 HA2.out)
  have HB5 := Lib.hid (HB4.out.trans (hw5.below HN2.out HB4.out.size))
  clear hy5 hw5 HX4 HY4 HL4 HB4
  go_wp2_with fail
  refine (write_ok b2 a k c _ (ws.take k) _ _ _ w5 HY5.out (by rw [List.map_take]; exact lst_take HL5.out k (by omega)) (by omega) (by omega)).mono ?_
  rintro e w6 ⟨rfl, hy6, hw6⟩
  have HY6 := Lib.hid hy6
  have HX6 := Lib.hid (HX5.out.touch hw6 HN12.out)
  have HB6 := Lib.hid (HB5.out.trans (hw6.below HN2.out HB5.out.size))
  clear hy6 hw6 HX5 HY5 HL5 HB5
  go_wp2_with fail
  refine (read_ok b2 a n _ _ _ w6 HY6.out (by omega) (by omega)).mono ?_
  rintro e w7 ⟨rfl, _, hb7⟩
  rw [good_end a k n (by omega)]
  have HY7 := Lib.hid (HY6.out.kept hb7)
  have HX7 := Lib.hid (HX6.out.kept hb7)
  have HB7 := Lib.hid (HB6.out.trans (hb7.mono HB6.out.size))
  clear hb7 HY6 HX6 HB6
  go_wp2_with fail
  refine (same_any b1 b2 _ _ _ _ _ _ w7 HX7.out HY7.out).mono ?_
  rintro e w8 ⟨rfl, hb8⟩
  rw [same_end ws a k n HLN.out (by omega)]
  have HB8 := Lib.hid (HB7.out.trans (hb8.mono HB7.out.size))
  clear hb8
  go_wp2_with fail
  refine (one_any w8).mono ?_
  rintro e w9 ⟨rfl, hb9⟩
  go_wp2
  go_ret
  exact ⟨rfl, HB8.out.trans (hb9.mono HB8.out.size)⟩

theorem walk (p : Int) (A : Option Addr) (n c : Nat) (ws : List Int) (cut : Int) (w : World) (p0 : -9223372036854775808 ≤ p) (p1 : p ≤ 9223372036854775807) (hl : Lst w A n (ws.map (Value.int .u8))) (hx : ∀ x ∈ ws, 0 ≤ x ∧ x ≤ 255) (hnc : n ≤ c) (hcm : c ≤ maxLen) (c0 : -9223372036854775808 ≤ cut) (c1 : cut ≤ 9223372036854775807) :
    Calls Try.prog 14 #[.int .i64 p, .slice A n c, .int .i64 cut] w fun e w' => e = .returned (.bool true) ∧ Below w.heap.size w w' := by
  unfold maxLen at hcm
  by_cases h : n < 2 ∨ 30 < n
  · exact walk_few A n c p cut w h (by omega)
  · obtain ⟨sb, so, rfl, _, _⟩ := hl.2 (by omega)
    obtain ⟨a, a0, a1, ha⟩ := and_mask p 31 (by omega)
    obtain ⟨y, y0, y1, hy⟩ := and_mask cut 255 (by omega)
    obtain ⟨a, rfl⟩ : ∃ a' : Nat, a = (a' : Int) := ⟨a.toNat, by omega⟩
    have hr0 : 0 ≤ y % ((n : Int) - 1) := Int.emod_nonneg _ (by omega)
    have hr1 : y % ((n : Int) - 1) < (n : Int) - 1 := Int.emod_lt_of_pos _ (by omega)
    obtain ⟨r, hr⟩ : ∃ r : Nat, y % ((n : Int) - 1) = (r : Int) := ⟨(y % ((n : Int) - 1)).toNat, by omega⟩
    exact walk_in sb so n c ws p cut y a r (1 + r) w ha (by omega) hy y0 (by omega) hr (by omega) (by omega) (by omega) (by omega) hnc (by omega) hl

set_option maxRecDepth 100000 in
theorem lifted (os : Os) (started : os.Started) (H : Type) (enc : TypeId × Value → H) :
    ReturnsInHanded {} Try.checked os 14 .any (Rows.storeOnceSpec.pre6 enc Try.prog Try.f14 Rows.storeOnceRow.domain false) (Rows.storeOnceSpec.post enc Try.prog Try.f14 false true false false) := by
  refine returnsInHanded_of_change (C := Try.checked) own started (by kernel_rfl) Try.func14
    (ChangeSpec.witness6 (enc := enc) (C := Try.checked) false ⟨#[], #[.int .i64 0, .slice none 0 0, .int .i64 0], []⟩ 8 (by kernel_rfl) (by kernel_rfl) (by kernel_rfl) (by kernel_rfl)) ?_
  intro W base args ds gs before hval0 hW hcnd _
  have hval : ∀ (j : Nat) t v, Try.f14.params[j]? = some t → args[j]? = some v → Value.okWide Try.prog W .any base t v := hval0
  have hW' := hW
  obtain ⟨p, q, hA0, hV, rfl, hfz, hnd⟩ := hW
  have hA : DataW.TrodAll enc Try.prog W 0 (fun _ => true) true Try.f14.params.toList args.toList ds p := hA0
  rw [Try.params14] at hA hval
  obtain ⟨v0, vs0, d0, ds0, p0, q0, hargs, rfl, rfl, h0, r0⟩ := trodAll_cons hA
  obtain ⟨v1, vs1, d1, ds1, p1, q1, rfl, rfl, rfl, h1, r1⟩ := trodAll_cons r0
  obtain ⟨v2, vs2, d2, ds2, p2, q2, rfl, rfl, rfl, h2, r2⟩ := trodAll_cons r1
  obtain ⟨rfl, rfl, rfl⟩ := trodAll_nil r2
  obtain rfl : args = #[v0, v1, v2] := by cases args; simp_all
  obtain ⟨rfl, rfl⟩ := trodVars_none hV
  obtain ⟨p, rfl, rfl, rfl, wf0⟩ := open_int Try.underlying3 (hval 0 3 v0 rfl rfl) h0
  have bd0 := bounds_i64 wf0
  have k1 := h1
  have lt1 : ∀ x ∈ p1, x.block < W.heap.size := by obtain ⟨m, hm⟩ := k1; exact DataW.trod_lt m _ _ _ hm
  obtain ⟨wsA, wsn, wsc, rfl⟩ := okWide_slice Try.underlying26 (hval 1 26 v1 rfl rfl)
  obtain ⟨ws, l1, b1, cb1, cc1⟩ := lst_ints Try.underlying26 Try.underlying5 (by kernel_rfl) k1
  obtain ⟨cut, rfl, rfl, rfl, wf2⟩ := open_int Try.underlying3 (hval 2 3 v2 rfl rfl) h2
  have bd2 := bounds_i64 wf2
  clear hA0 hval0
  refine (walk p wsA wsn wsc ws cut W bd0.1 bd0.2 l1 (ints_u8 b1) cb1 cc1 bd2.1 bd2.2).mono fun e W' ⟨he, bel⟩ => ?_
  subst he
  exact ⟨_, rfl, _, _, _, [], _, [], hW', trodAll_mk1 (shut_bool Try.underlying4 _), (trodAll_cons_mk (shut_int Try.underlying3 wf0) (trodAll_cons_mk (Below.trod laidOut (by kernel_rfl) (of_decide_eq_true (by kernel_rfl)) k1 bel lt1) (trodAll_cons_mk (shut_int Try.underlying3 wf2) trodAll_mk0))), rfl, bel.frame _, fun h => by cases h⟩

theorem over : Rows.storeOnceRow.holds Try.pinned (OpenSpec.ofChange Rows.storeOnceSpec) :=
  OpenClaim.holds_of_wide 14 Try.f14 rfl rfl rfl rfl rfl rfl rfl ⟨rfl, rfl, rfl, rfl, rfl⟩ rfl rfl rfl rfl rfl (by kernel_rfl) Try.func14 (by kernel_rfl)
    (of_decide_eq_true (by kernel_rfl)) (by unfold Func.isWrapper; first | (rw [if_pos (by decide +kernel)]; kernel_rfl) | (rw [if_neg (by decide +kernel)]; exact ⟨rfl, rfl⟩))
    (fun os started H enc _ => lifted os started H enc)

/-- The statement. -/
theorem proved : Rows.StoreOnceSaid := over
end Go.Proofs.Ythnopcoahcdjjaa.lawStoreOnce
