/- An image that is right is read from its bytes; with one bit that is another one they are none; what is read is put as it stood: for every image, place and bytes; no condition. -/
import Derived.Deep.DeepCutAuto
import Derived.Deep.CutBlock
import Derived.Test.YthnopcoahcdjjaaImgR
import Derived.Test.YthnopcoahcdjjaaPush
import Derived.Test.YthnopcoahcdjjaaCut
import Derived.Test.YthnopcoahcdjjaaBox
import Derived.Test.YthnopcoahcdjjaaRows
import Derived.WalkKit
import Derived.ProofKit
import Derived.OpenShut
import Derived.ShutString
import Derived.ChangeOld
import Derived.Below
namespace Go.Proofs.Ythnopcoahcdjjaa.lawImageBack
open Go.ChangeShapes Go.WideShapes Go.ChangeAt Go.RowKit Base
open Go.ChangeMaps (open_string shut_string)
set_option linter.unusedVariables false
set_option linter.unusedSimpArgs false
theorem own : ownKnob Try.prog.godebug = none := by kernel_rfl
theorem laidOut : laidOutB Try.prog = true := by kernel_rfl
open Ly10

theorem lst_cur {w : World} {g N : Nat} {cur : Array Value} {xs : List Value} (h : Obj1 w g TU cur) (ht : cur.toList.take N = xs) (hl : xs.length = N) : Lst w (some ⟨g, 0, none⟩) N xs :=
  ⟨hl, fun _ => ⟨g, 0, rfl, h.lt, fun k hk => by rw [Nat.zero_add, h.cell, ← ht, List.getElem?_take_of_lt hk, Array.getElem?_toList]⟩⟩
theorem cur_set {cur : Array Value} {N j : Nat} {xs : List Nat} {u : Nat} (ht : cur.toList.take N = u8s xs) : (cur.setIfInBounds j (.int .u8 (u : Int))).toList.take N = u8s (xs.set j u) := by
  rw [Array.toList_setIfInBounds, List.take_set, ht, u8s, u8s, List.map_set]
theorem flip_ne (v s : Nat) (hv : v < 256) (hs : s < 8) : v ^^^ 2 ^ s ≠ v ∧ v ^^^ 2 ^ s < 256 := by
  constructor
  · intro h
    have h2 : v ^^^ (v ^^^ 2 ^ s) = v ^^^ v := by rw [h]
    rw [← Nat.xor_assoc, Nat.xor_self, Nat.zero_xor] at h2
    have := Nat.two_pow_pos s
    omega
  · have h2 : 2 ^ s < 2 ^ 8 := Nat.pow_lt_pow_right (by omega) hs
    exact Nat.xor_lt_two_pow (n := 8) hv h2
theorem pow_mod {s : Nat} (h : s < 8) : ((2 : Int) ^ s % 256) = ((2 ^ s : Nat) : Int) := by
  rcases (show s = 0 ∨ s = 1 ∨ s = 2 ∨ s = 3 ∨ s = 4 ∨ s = 5 ∨ s = 6 ∨ s = 7 by omega) with rfl | rfl | rfl | rfl | rfl | rfl | rfl | rfl <;> rfl
set_option maxRecDepth 100000 in
set_option maxHeartbeats 4000000 in
theorem walk_in (m e0 e1 : Int) (n : Nat) (A : Option Addr) (c : Nat) (code : List Nat) (at' : Int) (B : Option Addr) (k cb : Nat) (bs : List Nat) (w : World) (hn : n ≤ 1100) (hk : k ≤ 1100) (hkc : k ≤ cb) (hcb : cb ≤ 9223372036854775807)
    (ha : Lst w A n (u8s code)) (hx : ∀ x ∈ code, x < 256) (hb : Lst w B k (u8s bs)) (hy : ∀ x ∈ bs, x < 256) :
    Calls Try.prog 8 #[imv m e0 e1 A n c, .int .i64 at', .slice B k cb] w fun e w' => e = .returned (.bool true) ∧ Below w.heap.size w w' := by
  have HCL := Lib.hid (show code.length = n by have := ha.1; rwa [u8s_len] at this)
  have HYL := Lib.hid (show bs.length = k by have := hb.1; rwa [u8s_len] at this)
  have HX := Lib.hid hx
  have HY := Lib.hid hy
  have HB0 := Lib.hid (show Below w.heap.size w (w.alloc (.cells (c4 m e0 e1 A n c) TI)) from (Below.refl _ _).alloc (Nat.le_refl _) _)
  have ho0 := Obj1.new w TI (c4 m e0 e1 A n c)
  have HO0 := Lib.hid ho0
  have HA := Lib.hid ha
  have HBS := Lib.hid hb
  obtain ⟨gc, HGC⟩ : ∃ gc, Hid (w.heap.size = gc) := ⟨_, Lib.hid rfl⟩
  rw [HGC.out] at HO0 ho0
  obtain ⟨d0, d1, d2, d3⟩ := cells4 ho0
  clear ha hx hb hy ho0
  go_enter Try.func8, Try.ntmps8
  go_wp2_with fail
  rw [HGC.out]
  generalize w.alloc (.cells #[.int .i64 m, .int .i64 e0, .int .i64 e1, .slice A n c] TI) = W at HB0 HO0 d0 d1 d2 d3 ⊢
  obtain ⟨r, HR⟩ : ∃ r, Hid (decide (RI m e0 e1 n) = r) := ⟨_, Lib.hid rfl⟩
  have HRT : Hid (Calls Try.prog 27 #[imv m e0 e1 A n c] W fun e w' => e = .returned (.bool r) ∧ Below W.heap.size W w') := by
    by_cases hr : RI m e0 e1 n
    · rw [← HR.out, decide_eq_true hr]; exact Lib.hid (right_yes m e0 e1 A n c W hr)
    · rw [← HR.out, decide_eq_false hr]; exact Lib.hid (right_no m e0 e1 A n c W hr (by omega))
  refine HRT.out.mono ?_
  rintro e w1 ⟨rfl, hb1⟩
  have HB1 := Lib.hid (HB0.out.trans (hb1.mono HB0.out.size))
  have HO1 := Lib.hid (HO0.out.kept hb1)
  clear hb1 HRT HO0 HB0 d0 d1 d2 d3
  go_upto_if 28 with (fail)
  go_cut [7, 8, 9, 10, 11, 12, 13] from 29 to 88 (fun _ _ _ _ _ _ _ wx => Below w.heap.size w wx)
  case first =>
    cases r
    · go_wp2_with fail
      go_meet
      exact HB1.out
    · have hr : RI m e0 e1 n := of_decide_eq_true HR.out
      unfold RI at hr
      obtain ⟨m, rfl⟩ : ∃ z : Nat, m = (z : Int) := ⟨m.toNat, by omega⟩
      obtain ⟨e0, rfl⟩ : ∃ z : Nat, e0 = (z : Int) := ⟨e0.toNat, by omega⟩
      obtain ⟨e1, rfl⟩ : ∃ z : Nat, e1 = (z : Int) := ⟨e1.toNat, by omega⟩
      obtain ⟨hm, hn1, hn2, h0, h1⟩ : m < 16 ∧ 1 ≤ n ∧ n ≤ 1024 ∧ e0 < n ∧ e1 < n := by omega
      clear hr
      obtain ⟨d0, d1, d2, d3⟩ := cells4 HO1.out
      have HA1 := Lib.hid (HA.out.kept HB1.out)
      obtain ⟨N, HN⟩ : ∃ N, Hid (11 + n = N) := ⟨_, Lib.hid rfl⟩
      have hN0 : 11 ≤ N := by have := HN.out; omega
      have hN1 : N ≤ 1035 := by have := HN.out; omega
      have HP := Lib.hid (put_ok m e0 e1 n A c code w1 hm hn1 hn2 h0 h1 HA1.out HX.out)
      rw [HN.out] at HP
      have HWH : Hid (Whole (imgB m e0 e1 code) N) := Lib.hid (by have := imgB_whole m e0 e1 code; rw [HCL.out, HN.out] at this; exact this)
      have HBL := Lib.hid (imgB_lt (m := m) (e0 := e0) (e1 := e1) (code := code) (by omega) (by omega) (by omega) (by rw [HCL.out]; omega) HX.out)
      have HIL := Lib.hid (show (imgB m e0 e1 code).length = N from HWH.out.len)
      go_wp2_with fail
      refine HP.out.mono ?_
      rintro e w2 ⟨v, rfl, HV2, HB2⟩
      obtain ⟨hvl, hvo⟩ := HV2.out
      rcases hvo with ⟨rfl, h00⟩ | ⟨g, cx, cur, rfl, hgb, hgo, hnc, hcm, hcs, htk⟩
      · exact absurd h00 (by omega)
      unfold maxLen at hcm
      have ho2 : Obj1 w2 g TU cur := hgo
      have HO2 := Lib.hid ho2
      have HTK : Hid (cur.toList.take N = u8s (imgB m e0 e1 code)) := Lib.hid (by simpa using htk)
      have HL2 := Lib.hid (lst_cur ho2 HTK.out (by rw [u8s_len]; exact HIL.out))
      have HGB := Lib.hid (show w.heap.size ≤ g from Nat.le_trans HB1.out.size hgb)
      have HBE2 := Lib.hid (HB1.out.trans (HB2.out.mono HB1.out.size))
      have HOM2 := Lib.hid (HO1.out.kept HB2.out)
      have HA2 := Lib.hid (HA1.out.kept HB2.out)
      have HRB : Hid (Calls Try.prog 29 #[.slice (some ⟨g, 0, none⟩) N cx] w2 fun e w' => ∃ g, e = .returned (.tuple #[imv m e0 e1 (some ⟨g, 0, none⟩) n n, .int .i64 0]) ∧ Hid (w2.heap.size ≤ g) ∧ Hid (Lst w' (some ⟨g, 0, none⟩) n (u8s code)) ∧ Hid (Below w2.heap.size w2 w')) := Lib.hid (by
        have h := read_back m e0 e1 n code (some ⟨g, 0, none⟩) cx w2 hm hn1 hn2 h0 h1 HCL.out HX.out (by rw [HN.out]; exact HL2.out) (by rw [HN.out]; exact hnc) hcm
        rw [HN.out] at h
        exact h)
      have HCS := Lib.hid hcs
      clear d0 d1 d2 d3 hvl hgo htk hgb ho2 hcs HP HO1 HA1
      go_wp2_with fail
      refine HRB.out.mono ?_
      rintro e w3 ⟨g2, rfl, HG2, HL3, HB3⟩
      have HBE3 := Lib.hid (HBE2.out.trans (HB3.out.mono HBE2.out.size))
      have HO3 := Lib.hid (HO2.out.kept HB3.out)
      have HOM3 := Lib.hid (HOM2.out.kept HB3.out)
      have HA3 := Lib.hid (HA2.out.kept HB3.out)
      have hb4 : Below w3.heap.size w3 (w3.alloc (.cells (c4 m e0 e1 (some ⟨g2, 0, none⟩) n n) TI)) := (Below.refl _ _).alloc (Nat.le_refl _) _
      have HBE4 := Lib.hid (HBE3.out.alloc HBE3.out.size (.cells (c4 m e0 e1 (some ⟨g2, 0, none⟩) n n) TI))
      have HO4 := Lib.hid (HO3.out.kept hb4)
      have HOM4 := Lib.hid (HOM3.out.kept hb4)
      have HA4 := Lib.hid (HA3.out.kept hb4)
      have HLY4 := Lib.hid (HL3.out.kept hb4)
      have HOY4 := Lib.hid (Obj1.new w3 TI (c4 m e0 e1 (some ⟨g2, 0, none⟩) n n))
      obtain ⟨gy, HGY⟩ : ∃ gy, Hid (w3.heap.size = gy) := ⟨_, Lib.hid rfl⟩
      rw [HGY.out] at HOY4
      clear hb4 HRB HO3 HOM3 HA3 HOM2 HA2 HO2
      go_upto_region 6 with (fail)
      rw [HGY.out]
      generalize w3.alloc (.cells #[.int .i64 m, .int .i64 e0, .int .i64 e1, .slice (some ⟨g2, 0, none⟩) n n] TI) = w4 at HBE4 HO4 HOM4 HA4 HLY4 HOY4 ⊢
      obtain ⟨d0, d1, d2, d3⟩ := cells4 HOM4.out
      obtain ⟨y0, y1, y2, y3⟩ := cells4 HOY4.out
      go_wp2_with fail
      refine (same_yes m e0 e1 (some ⟨g2, 0, none⟩) n n A c code w4 HLY4.out HA4.out HX.out).mono ?_
      rintro e w5 ⟨rfl, HB5⟩
      clear d0 d1 d2 d3 y0 y1 y2 y3
      have HBE5 := Lib.hid (HBE4.out.trans (HB5.out.mono HBE4.out.size))
      have HO5 := Lib.hid (HO4.out.kept HB5.out)
      obtain ⟨d0, d1, d2, d3⟩ := cells4 (HOM4.out.kept HB5.out)
      obtain ⟨y0, y1, y2, y3⟩ := cells4 (HOY4.out.kept HB5.out)
      have HA5 := Lib.hid (HA4.out.kept HB5.out)
      have HLY5 := Lib.hid (HLY4.out.kept HB5.out)
      go_wp2_with fail
      refine (same_yes m e0 e1 A n c (some ⟨g2, 0, none⟩) n code w5 HA5.out HLY5.out HX.out).mono ?_
      rintro e w6 ⟨rfl, HB6⟩
      clear d0 d1 d2 d3 y0 y1 y2 y3
      have HBE6 := Lib.hid (HBE5.out.trans (HB6.out.mono HBE5.out.size))
      have HO6 := Lib.hid (HO5.out.kept HB6.out)
      clear HO5 HO4 HBE5 HBE4 HA5 HLY5 HA4 HLY4 HOM4 HOY4 HBE3
      obtain ⟨y, y0, y1, hand⟩ := and_mask at' 16777215 (by omega)
      obtain ⟨y, rfl⟩ : ∃ z : Nat, y = (z : Int) := ⟨y.toNat, by omega⟩
      have hand' : Go.bits BinOp.and IntKind.i64 at' 16777215 = (y : Int) := hand
      obtain ⟨q, HQ⟩ : ∃ q, Hid (y % (8 * N) = q) := ⟨_, Lib.hid rfl⟩
      have hqN : q < 8 * N := by rw [← HQ.out]; exact Nat.mod_lt _ (by omega)
      have hmod : (y : Int) % (8 * (N : Int)) = (q : Int) := by rw [← HQ.out]; push_cast; rfl
      obtain ⟨j, HJ⟩ : ∃ j, Hid (q / 8 = j) := ⟨_, Lib.hid rfl⟩
      obtain ⟨s, HS⟩ : ∃ s, Hid (q % 8 = s) := ⟨_, Lib.hid rfl⟩
      have hjN : j < N := by have := HJ.out; omega
      have hs8 : s < 8 := by have := HS.out; omega
      have hdiv : (q : Int) / 8 = (j : Int) := by have := HJ.out; omega
      have hmo8 : (q : Int) % 8 = (s : Int) := by have := HS.out; omega
      have hvx : cur[j]? = some (.int .u8 (((imgB m e0 e1 code).getD j 0 : Nat) : Int)) := by
        have h1 : (cur.toList.take N)[j]? = (u8s (imgB m e0 e1 code))[j]? := by rw [HTK.out]
        rw [List.getElem?_take_of_lt hjN, Array.getElem?_toList] at h1
        rw [h1, List.getD_eq_getElem?_getD, List.getElem?_eq_getElem (l := imgB m e0 e1 code) (by rw [HIL.out]; exact hjN)]
        show (List.map _ _)[j]? = _
        rw [List.getElem?_map, List.getElem?_eq_getElem (l := imgB m e0 e1 code) (by rw [HIL.out]; exact hjN)]
        rfl
      have hv8 := getD_lt HBL.out j
      obtain ⟨v, HV⟩ : ∃ v, Hid ((imgB m e0 e1 code).getD j 0 = v) := ⟨_, Lib.hid rfl⟩
      rw [HV.out] at hvx hv8
      have x0 := (HO6.out.cell j).trans hvx
      have x0f := HO6.out.free j
      clear hand hvx
      obtain ⟨hun, hu8⟩ := flip_ne v s hv8 hs8
      have hp8 : 2 ^ s < 256 := Nat.lt_of_lt_of_le (Nat.pow_lt_pow_right (by omega) hs8) (by decide)
      have hxor : Go.bits BinOp.xor IntKind.u8 (v : Int) (2 ^ s % 256) = ((v ^^^ 2 ^ s : Nat) : Int) := by
        have h1 := pow_mod hs8
        rw [h1]
        exact u8_xor_nat v (2 ^ s) hv8 hp8
      obtain ⟨u, HU⟩ : ∃ u, Hid (v ^^^ 2 ^ s = u) := ⟨_, Lib.hid rfl⟩
      rw [HU.out] at hun hu8 hxor
      have HUN := Lib.hid hun
      have HXOR := Lib.hid hxor
      have HWN := Lib.hid (whole_flip (x := u) HWH.out hN0 hjN HBL.out hu8 (by rw [HV.out]; exact fun e => HUN.out e.symm))
      have HBU : Hid (∀ x ∈ (imgB m e0 e1 code).set j u, x < 256) := Lib.hid (fun x hx => by
        rcases List.mem_or_eq_of_mem_set hx with h | rfl
        · exact HBL.out x h
        · exact hu8)
      have HO7 := Lib.hid (HO6.out.set j (.int .u8 (u : Int)))
      have HL7 := Lib.hid (lst_cur HO7.out (cur_set (u := u) HTK.out) (by rw [u8s_len, List.length_set]; exact HIL.out))
      have HBE7 := Lib.hid (HBE6.out.setCell (p := ⟨g, j, none⟩) HGB.out (.int .u8 (u : Int)))
      clear hun hxor hp8 
      go_upto_region 10 with (fail)
      rw [HXOR.out]
      generalize w6.setCell ⟨g, j, none⟩ (.int .u8 (u : Int)) = w7 at HO7 HL7 HBE7 ⊢
      clear x0 x0f hmod hdiv hmo8 hand'
      go_wp2_with fail
      refine (read_not (some ⟨g, 0, none⟩) N cx _ w7 HWN.out (by omega) hnc hcm HL7.out HBU.out).mono ?_
      rintro e w8 ⟨x, rfl, HXX, HB8⟩
      have hx0 := HXX.out.1
      have HBE8 := Lib.hid (HBE7.out.trans (HB8.out.mono HBE7.out.size))
      have HBE9 := Lib.hid (HBE8.out.alloc HBE8.out.size (.cells (c4 0 0 0 none 0 0) TI))
      go_wp2_with fail
      go_meet
      exact HBE9.out
  case rest =>
    have HBC := Lib.hid hcut
    have HBC2 := Lib.hid (HBS.out.kept hcut)
    clear hcut
    by_cases hok : Whole bs k ∧ RI (bs.getD 2 0 : Nat) (b2 bs 3 : Nat) (b2 bs 5 : Nat) (k - 11)
    · have hk11 : 11 ≤ k := by have := hok.1.long; omega
      have hri := hok.2
      unfold RI at hri
      obtain ⟨hm, hn1, hn2, h0, h1⟩ : bs.getD 2 0 < 16 ∧ 1 ≤ k - 11 ∧ k - 11 ≤ 1024 ∧ b2 bs 3 < k - 11 ∧ b2 bs 5 < k - 11 := by omega
      have HRK := Lib.hid (read_ok B k cb bs wc hok.1 hok.2 hk11 (by omega) hkc hcb HBC2.out HY.out)
      have HPB := Lib.hid (whole_put hok.1 hk11 HY.out (by omega))
      have HRR := Lib.hid hok.2
      clear hok hri
      obtain ⟨C, HC⟩ : ∃ C, Hid (k - 11 = C) := ⟨_, Lib.hid rfl⟩
      have hkC : 11 + C = k := by have := HC.out; omega
      obtain ⟨M, HM⟩ : ∃ M, Hid (bs.getD 2 0 = M) := ⟨_, Lib.hid rfl⟩
      obtain ⟨E0, HE0⟩ : ∃ E0, Hid (b2 bs 3 = E0) := ⟨_, Lib.hid rfl⟩
      obtain ⟨E1, HE1⟩ : ∃ E1, Hid (b2 bs 5 = E1) := ⟨_, Lib.hid rfl⟩
      obtain ⟨cd, HCD⟩ : ∃ cd, Hid ((bs.drop 9).take (k - 11) = cd) := ⟨_, Lib.hid rfl⟩
      have HCDB : Hid (∀ x ∈ cd, x < 256) := Lib.hid (fun x hx => by rw [← HCD.out] at hx; exact HY.out x (List.mem_of_mem_drop (List.mem_of_mem_take hx)))
      rw [HCD.out, HM.out, HE0.out, HE1.out, HC.out] at HRK
      rw [HCD.out, HM.out, HE0.out, HE1.out] at HPB
      rw [HM.out, HE0.out, HE1.out, HC.out] at HRR
      rw [HM.out] at hm
      rw [HC.out] at hn1 hn2 h0 h1
      rw [HE0.out] at h0
      rw [HE1.out] at h1
      have HKC := Lib.hid hkC
      clear hkC
      go_wp2_with fail
      refine HRK.out.mono ?_
      rintro e w2 ⟨g, rfl, HGG, HL2, HB2⟩
      have HBE2 := Lib.hid (HBC.out.trans (HB2.out.mono HBC.out.size))
      have HBB2 := Lib.hid (HBC2.out.kept HB2.out)
      have hb3 : Below w2.heap.size w2 (w2.alloc (.cells (c4 M E0 E1 (some ⟨g, 0, none⟩) C C) TI)) := (Below.refl _ _).alloc (Nat.le_refl _) _
      have HBE3 := Lib.hid (HBE2.out.alloc HBE2.out.size (.cells (c4 M E0 E1 (some ⟨g, 0, none⟩) C C) TI))
      have HO3 := Lib.hid (Obj1.new w2 TI (c4 M E0 E1 (some ⟨g, 0, none⟩) C C))
      have HL3 := Lib.hid (HL2.out.kept hb3)
      have HBB3 := Lib.hid (HBB2.out.kept hb3)
      obtain ⟨gz, HGZ⟩ : ∃ gz, Hid (w2.heap.size = gz) := ⟨_, Lib.hid rfl⟩
      rw [HGZ.out] at HO3
      clear hb3
      go_upto_region 15 with (fail)
      rw [HGZ.out]
      generalize w2.alloc (.cells #[.int .i64 M, .int .i64 E0, .int .i64 E1, .slice (some ⟨g, 0, none⟩) C C] TI) = w3 at HBE3 HO3 HL3 HBB3 ⊢
      obtain ⟨d0, d1, d2, d3⟩ := cells4 HO3.out
      go_wp2_with fail
      refine (put_ok M E0 E1 C (some ⟨g, 0, none⟩) C cd w3 hm hn1 hn2 h0 h1 HL3.out HCDB.out).mono ?_
      rw [HKC.out, HPB.out]
      rintro e w4 ⟨v, rfl, HV4, HB4⟩
      obtain ⟨X, cx, rfl, hcx, hcm, hl4⟩ := Lst.of_own HV4.out
      have HBE4 := Lib.hid (HBE3.out.trans (HB4.out.mono HBE3.out.size))
      obtain ⟨S, HS⟩ : ∃ S, Hid (strB (bs.map fun (x : Nat) => (x : Int)) = S) := ⟨_, Lib.hid rfl⟩
      have C1 := convU (c := cx) hl4 HS.out
      have C2 := convU (c := cb) (HBB3.out.kept HB4.out) HS.out
      clear d0 d1 d2 d3 hl4
      obtain ⟨d0, d1, d2, d3⟩ := cells4 (HO3.out.kept HB4.out)
      go_wp2_with fail
      refine (right_yes M E0 E1 (some ⟨g, 0, none⟩) C C w4 HRR.out).mono ?_
      rintro e w5 ⟨rfl, hb5⟩
      have HBE5 := Lib.hid (HBE4.out.trans (hb5.mono HBE4.out.size))
      clear C1 C2 d0 d1 d2 d3 hb5
      go_wp2_with fail
      refine (one_any w5).mono ?_
      rintro e w6 ⟨rfl, hb6⟩
      go_wp2
      go_ret
      exact ⟨rfl, HBE5.out.trans (hb6.mono HBE5.out.size)⟩
    · have HRN := Lib.hid (read_nok B k cb bs wc hok (by omega) hkc hcb HBC2.out HY.out)
      clear hok
      go_wp2_with fail
      refine HRN.out.mono ?_
      rintro e w2 ⟨x, rfl, HXX, HB2⟩
      have hx0 := HXX.out.1
      have HBE2 := Lib.hid (HBC.out.trans (HB2.out.mono HBC.out.size))
      have HBE3 := Lib.hid (HBE2.out.alloc HBE2.out.size (.cells (c4 0 0 0 none 0 0) TI))
      go_wp2_with fail
      generalize w2.alloc (.cells #[.int .i64 0, .int .i64 0, .int .i64 0, .slice none 0 0] TI) = w3 at HBE3 ⊢
      refine (one_any w3).mono ?_
      rintro e w6 ⟨rfl, hb6⟩
      go_wp2
      go_ret
      exact ⟨rfl, HBE3.out.trans (hb6.mono HBE3.out.size)⟩
theorem walk_long (m e0 e1 : Int) (n : Nat) (A : Option Addr) (c : Nat) (at' : Int) (B : Option Addr) (k cb : Nat) (w : World) (h : 1100 < n ∨ (n ≤ 1100 ∧ 1100 < k)) :
    Calls Try.prog 8 #[imv m e0 e1 A n c, .int .i64 at', .slice B k cb] w fun e w' => e = .returned (.bool true) ∧ Below w.heap.size w w' := by
  have HB0 := Lib.hid (show Below w.heap.size w (w.alloc (.cells (c4 m e0 e1 A n c) TI)) from (Below.refl _ _).alloc (Nat.le_refl _) _)
  obtain ⟨d0, d1, d2, d3⟩ := cells4 (Obj1.new w TI (c4 m e0 e1 A n c))
  rcases h with h | ⟨h, h'⟩
  · have hi : (1100 : Int) < (n : Int) := by omega
    clear h
    go_enter Try.func8, Try.ntmps8
    go_wp2
    go_ret
    exact ⟨rfl, HB0.out⟩
  · have hi : ¬ (1100 : Int) < (n : Int) := by omega
    have hi2 : (1100 : Int) < (k : Int) := by omega
    clear h h'
    go_enter Try.func8, Try.ntmps8
    go_wp2
    go_ret
    exact ⟨rfl, HB0.out⟩
theorem walk (cs : Array Value) (at' : Int) (B : Option Addr) (k cb : Nat) (zs : List Int) (w : World) (hr : Reads w shI cs.toList) (c0 : -9223372036854775808 ≤ at') (c1 : at' ≤ 9223372036854775807) (hb : Lst w B k (zs.map (Value.int .u8))) (hz : ∀ x ∈ zs, 0 ≤ x ∧ x ≤ 255) (hkc : k ≤ cb) (hcm : cb ≤ maxLen) :
    Calls Try.prog 8 #[.agg cs, .int .i64 at', .slice B k cb] w fun e w' => e = .returned (.bool true) ∧ Below w.heap.size w w' := by
  obtain ⟨m, e0, e1, A, n, c, code, rfl, hl, hx, hnc, hc⟩ := reads_img hr
  obtain ⟨bs, ev, hv⟩ := nats_of zs hz
  rw [ev] at hb
  unfold maxLen at hcm
  by_cases h : 1100 < n ∨ (n ≤ 1100 ∧ 1100 < k)
  · exact walk_long m e0 e1 n A c at' B k cb w h
  · exact walk_in m e0 e1 n A c code at' B k cb bs w (by omega) (by omega) hkc (by omega) hl hx hb hv

set_option maxRecDepth 100000 in
theorem lifted (os : Os) (started : os.Started) (H : Type) (enc : TypeId × Value → H) :
    ReturnsInHanded {} Try.checked os 8 .any (Rows.imageBackSpec.pre6 enc Try.prog Try.f8 Rows.imageBackRow.domain false) (Rows.imageBackSpec.post enc Try.prog Try.f8 false true false false) := by
  refine returnsInHanded_of_change (C := Try.checked) own started (by kernel_rfl) Try.func8
    (ChangeSpec.witness6 (enc := enc) (C := Try.checked) false ⟨#[], #[.agg #[.int .i64 0, .int .i64 0, .int .i64 0, .slice none 0 0], .int .i64 0, .slice none 0 0], []⟩ 8 (by kernel_rfl) (by kernel_rfl) (by kernel_rfl) (by kernel_rfl)) ?_
  intro W base args ds gs before hval0 hW hcnd _
  have hval : ∀ (j : Nat) t v, Try.f8.params[j]? = some t → args[j]? = some v → Value.okWide Try.prog W .any base t v := hval0
  have hW' := hW
  obtain ⟨p, q, hA0, hV, rfl, hfz, hnd⟩ := hW
  have hA : DataW.TrodAll enc Try.prog W 0 (fun _ => true) true Try.f8.params.toList args.toList ds p := hA0
  rw [Try.params8] at hA hval
  obtain ⟨v0, vs0, d0, ds0, p0, q0, hargs, rfl, rfl, h0, r0⟩ := trodAll_cons hA
  obtain ⟨v1, vs1, d1, ds1, p1, q1, rfl, rfl, rfl, h1, r1⟩ := trodAll_cons r0
  obtain ⟨v2, vs2, d2, ds2, p2, q2, rfl, rfl, rfl, h2, r2⟩ := trodAll_cons r1
  obtain ⟨rfl, rfl, rfl⟩ := trodAll_nil r2
  obtain rfl : args = #[v0, v1, v2] := by cases args; simp_all
  obtain ⟨rfl, rfl⟩ := trodVars_none hV
  have k0 := h0
  have lt0 : ∀ x ∈ p0, x.block < W.heap.size := by obtain ⟨m, hm⟩ := k0; exact DataW.trod_lt m _ _ _ hm
  obtain ⟨m, rfl⟩ := okWide_agg (by first | exact .inl ⟨_, Try.underlying46⟩ | exact .inr ⟨_, _, Try.underlying46⟩) (hval 0 46 v0 rfl rfl)
  have rd0 := reads_cells (sh := shI) 30 (by kernel_rfl) k0
  obtain ⟨at', rfl, rfl, rfl, wf1⟩ := open_int Try.underlying3 (hval 1 3 v1 rfl rfl) h1
  have bd1 := bounds_i64 wf1
  have k2 := h2
  have lt2 : ∀ x ∈ p2, x.block < W.heap.size := by obtain ⟨m, hm⟩ := k2; exact DataW.trod_lt m _ _ _ hm
  obtain ⟨bA, bn, bc, rfl⟩ := okWide_slice Try.underlying26 (hval 2 26 v2 rfl rfl)
  obtain ⟨b, l2, b2, cb2, cc2⟩ := lst_ints Try.underlying26 Try.underlying5 (by kernel_rfl) k2
  clear hA0 hval0
  refine (walk m at' bA bn bc b W rd0 bd1.1 bd1.2 l2 (ints_u8 b2) cb2 cc2).mono fun e W' ⟨he, bel⟩ => ?_
  subst he
  exact ⟨_, rfl, _, _, _, [], _, [], hW', trodAll_mk1 (shut_bool Try.underlying4 _), (trodAll_cons_mk (Below.trod laidOut (by kernel_rfl) (of_decide_eq_true (by kernel_rfl)) k0 bel lt0) (trodAll_cons_mk (shut_int Try.underlying3 wf1) (trodAll_cons_mk (Below.trod laidOut (by kernel_rfl) (of_decide_eq_true (by kernel_rfl)) k2 bel lt2) trodAll_mk0))), rfl, bel.frame _, fun h => by cases h⟩

theorem over : Rows.imageBackRow.holds Try.pinned (OpenSpec.ofChange Rows.imageBackSpec) :=
  OpenClaim.holds_of_wide 8 Try.f8 rfl rfl rfl rfl rfl rfl rfl ⟨rfl, rfl, rfl, rfl, rfl⟩ rfl rfl rfl rfl rfl (by kernel_rfl) Try.func8 (by kernel_rfl)
    (of_decide_eq_true (by kernel_rfl)) (by unfold Func.isWrapper; first | (rw [if_pos (by decide +kernel)]; kernel_rfl) | (rw [if_neg (by decide +kernel)]; exact ⟨rfl, rfl⟩))
    (fun os started H enc _ => lifted os started H enc)

/-- The statement. -/
theorem proved : Rows.ImageBackSaid := over
end Go.Proofs.Ythnopcoahcdjjaa.lawImageBack
