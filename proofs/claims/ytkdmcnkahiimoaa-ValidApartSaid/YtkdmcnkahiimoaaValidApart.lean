/- Of a schedule that may be no module is twice a candidate of a window, who takes a message never sends it, places are those of a memory, and from pulse to pulse there are at most 200 bits: for every schedule; no condition. -/
import Derived.RegionTactic
import Derived.IntWalk
import Derived.Deep.DeepCutAuto
import Derived.Deep.CutBlock
import Derived.Maps.OwnSet
import Derived.Test.YtkdmcnkahiimoaaPlnI
import Derived.Test.YtkdmcnkahiimoaaPlnJ
import Derived.Test.YtkdmcnkahiimoaaVldD
import Derived.Test.YtkdmcnkahiimoaaVldL
import Derived.Test.YtkdmcnkahiimoaaVldM
import Derived.Test.YtkdmcnkahiimoaaRows
import Derived.WalkKit
import Derived.ProofKit
import Derived.OpenShut
import Derived.ShutString
import Derived.ChangeOld
import Derived.Below
namespace Go.Proofs.Ytkdmcnkahiimoaa.lawValidApart
open Go.ChangeShapes Go.WideShapes Go.ChangeAt Go.RowKit Base
open Go.ChangeMaps (open_string shut_string)
set_option linter.unusedVariables false
set_option linter.unusedSimpArgs false
theorem own : ownKnob Try.prog.godebug = none := by kernel_rfl
theorem laidOut : laidOutB Try.prog = true := by kernel_rfl
open Ly7 Go.Maps

set_option maxRecDepth 100000 in
set_option maxHeartbeats 4000000 in
theorem walk_yes (md : Int) (A0 : Option Addr) (n0 c0 : Nat) (A1 : Option Addr) (n1 c1 : Nat) (ws0 ws1 : List Wd) (w : World) (hmd : md ≤ 9223372036854775807) (hW0 : WinsAt w A0 n0 ws0) (hW1 : WinsAt w A1 n1 ws1) (h0 : n0 ≤ 9223372036854775807) (h1 : n1 ≤ 9223372036854775807) :
    Calls Try.prog 8 #[.agg #[.int .i64 md, .slice A0 n0 c0, .slice A1 n1 c1]] w fun e w' => e = .returned (.bool true) ∧ Below w.heap.size w w' := by
  obtain ⟨gb, HGB⟩ : ∃ gb, Hid (w.heap.size = gb) := ⟨_, Lib.hid rfl⟩
  obtain ⟨W1, HW1⟩ : ∃ W1, W1 = w.alloc (.cells #[.int .i64 md, .slice A0 n0 c0, .slice A1 n1 c1] 25) := ⟨_, rfl⟩
  have HB1 : Hid (Below w.heap.size w W1) := Lib.hid (by rw [HW1]; exact bel1 _ _)
  have HOB : Hid (Obj1 W1 gb 25 #[.int .i64 md, .slice A0 n0 c0, .slice A1 n1 c1]) := Lib.hid (by rw [HW1, ← HGB.out]; exact Obj1.new _ _ _)
  have HF := Lib.hid (few_any md A0 n0 c0 A1 n1 c1 ws0 ws1 W1 (hW0.kept HB1.out) (hW1.kept HB1.out) h0 h1)
  have HWW : Hid (∀ W, Below W1.heap.size W1 W → WinsAt W A0 n0 ws0 ∧ WinsAt W A1 n1 ws1) := Lib.hid (fun W hB => ⟨hW0.kept (HB1.out.trans (hB.mono HB1.out.size)), hW1.kept (HB1.out.trans (hB.mono HB1.out.size))⟩)
  clear hW0 hW1 h0 h1
  have d0 : W1.cell? ⟨gb, 0, none⟩ = some (.int .i64 md) := HOB.out.cell 0
  have d1 : W1.cell? ⟨gb, 1, none⟩ = some (.slice A0 n0 c0) := HOB.out.cell 1
  have d2 : W1.cell? ⟨gb, 2, none⟩ = some (.slice A1 n1 c1) := HOB.out.cell 2
  obtain ⟨v, j, cc, hck⟩ := chk_ex (winI md) md ws0 ws1
  have HCK := Lib.hid hck
  have hfl := fun W => fld_code (.int .i64 v) (.int .i64 j) (.int .i64 cc) W
  clear hck
  go_enter Try.func8, Try.ntmps8
  go_upto_region 1 with (fail)
  rw [← HW1, HGB.out]
  clear HW1
  go_wp2_with fail
  refine HF.out.mono ?_
  rintro e w2 ⟨r, rfl, hr, hb2⟩
  have HB2 := Lib.hid hb2
  clear hb2 d0 d1 d2 HF
  rcases hr with rfl | ⟨rfl, hf0, hf1⟩
  · as_aux_lemma =>
    go_wp2_with fail
    refine (one8_any _).mono ?_
    rintro e w3 ⟨rfl, hb3⟩
    have HB3 := Lib.hid (HB2.out.trans (hb3.mono HB2.out.size))
    clear hb3
    go_wp2
    go_ret
    exact ⟨rfl, HB1.out.trans (HB3.out.mono HB1.out.size)⟩
  · have hn0 : n0 ≤ 60 := hf0.1
    have hn1 : n1 ≤ 60 := hf1.1
    have HS0 : Hid (Says (winI md) md ws0) := Lib.hid (says_win hmd hf0)
    have HS1 : Hid (Says (winI md) md ws1) := Lib.hid (says_win hmd hf1)
    have HFM : Hid ((∀ x ∈ ws0, x.n ≤ 40 ∧ x.m ≤ 40) ∧ (∀ x ∈ ws1, x.n ≤ 40 ∧ x.m ≤ 40)) := Lib.hid ⟨hf0.2, hf1.2⟩
    have HO2 := Lib.hid (HOB.out.kept HB2.out)
    have HCH : Hid (Calls Try.prog 22 #[.agg #[.int .i64 md, .slice A0 n0 c0, .slice A1 n1 c1]] w2 fun e w' => e = .returned (.agg #[.int .i64 v, .int .i64 j, .int .i64 cc]) ∧ Below w2.heap.size w2 w') := Lib.hid (by
      refine (check_any (winI md) md A0 n0 c0 A1 n1 c1 ws0 ws1 w2 (HWW.out _ HB2.out).1 (HWW.out _ HB2.out).2 (by omega) (by omega) HS0.out HS1.out).mono ?_
      rintro e w' ⟨v', j', c', rfl, h, hb⟩
      obtain ⟨rfl, rfl, rfl⟩ := chk_uniq h HCK.out
      exact ⟨rfl, hb⟩)
    clear hf0 hf1 hmd HS0 HS1
    have d0 : w2.cell? ⟨gb, 0, none⟩ = some (.int .i64 md) := HO2.out.cell 0
    have d1 : w2.cell? ⟨gb, 1, none⟩ = some (.slice A0 n0 c0) := HO2.out.cell 1
    have d2 : w2.cell? ⟨gb, 2, none⟩ = some (.slice A1 n1 c1) := HO2.out.cell 2
    go_wp2_with fail
    refine HCH.out.mono ?_
    rintro e w3 ⟨rfl, hb3⟩
    have HB3 := Lib.hid (HB2.out.trans (hb3.mono HB2.out.size))
    clear hb3 d0 d1 d2 HCH HO2
    by_cases hcc : cc = 0
    · subst hcc
      have HFN := Lib.hid (chk_zero HCK.out)
      clear HCK
      go_upto_region 3 with (fail)
      clear hfl
      go_wp2_with fail
      go_loopw [3] (fun i wx => ∃ k : Nat, k ≤ 2 ∧ i = .int .i64 k ∧ Below W1.heap.size W1 wx) (fun i _ => 2 - (intOf i).toNat)
      case atStart => exact ⟨0, by omega, rfl, HB3.out⟩
      case round =>
        clear HB3 HB2
        obtain ⟨k, hk, rfl, hbk⟩ := hrel
        have HBK := Lib.hid hbk
        clear hbk
        rcases (show k = 2 ∨ k = 0 ∨ k = 1 by omega) with rfl | rfl | rfl
        · as_aux_lemma =>
          go_wp2_with fail
          refine (one8_any _).mono ?_
          rintro e w6 ⟨rfl, hb6⟩
          have HB6 := Lib.hid (HBK.out.trans (hb6.mono HBK.out.size))
          clear hb6
          go_wp2
          go_ret
          exact ⟨rfl, HB1.out.trans (HB6.out.mono HB1.out.size)⟩
        · as_aux_lemma =>
          rw [show ((0 : Nat) : Int) = 0 from rfl]
          have HFR : Hid (FrNo (winI md) 0 ws0) := Lib.hid HFN.out.1
          go_wp2_with fail
          go_loopw [4] (fun i wx => ∃ q : Nat, q ≤ n0 ∧ i = .int .i64 q ∧ Below W1.heap.size W1 wx) (fun i _ => n0 - (intOf i).toNat)
          case atStart => exact ⟨0, by omega, rfl, HBK.out⟩
          case round =>
            clear HBK
            obtain ⟨q, hq, rfl, hbq⟩ := hrel
            have HBQ := Lib.hid hbq
            have HOq := Lib.hid (HOB.out.kept hbq)
            clear hbq
            have d0 := HOq.out.cell 0
            have d1 := HOq.out.cell 1
            have d2 := HOq.out.cell 2
            simp at d0 d1 d2
            by_cases hlt : q < n0
            · have hqi : (q : Int) < (n0 : Int) := by omega
              have hql : q < ws0.length := by have := (HWW.out _ HBQ.out).1.len; omega
              obtain ⟨x, hx⟩ : ∃ x, ws0[q]? = some x := ⟨_, List.getElem?_eq_getElem hql⟩
              have hmem := List.mem_of_getElem? hx
              obtain ⟨b1, o1, rfl, hb1, j0, j1, j2, j3, j4, j5, hok⟩ := ((HWW.out _ HBQ.out).1).six hlt hx
              have HOK := Lib.hid hok
              have HXZ : Hid (Win md x.k x.b x.wd x.ad x.n x.fs x.ts 0) := Lib.hid (by have h := winI_is md x; rwa [HFR.out.2.1 q x hx] at h)
              have hx40 := HFM.out.1 x hmem
              clear hx hmem hql hok hb1
              go_upto_region 10 with (fail)
              obtain ⟨gx, HGX⟩ : ∃ gx, Hid (wr.heap.size = gx) := ⟨_, Lib.hid rfl⟩
              obtain ⟨W5, HW5⟩ : ∃ W5, W5 = wr.alloc (.cells #[.int .i64 x.k, .int .i64 x.b, .int .i64 x.wd, .int .i64 x.ad, .slice x.A x.n x.c, .slice x.B x.m x.d] 41) := ⟨_, rfl⟩
              have HOX : Hid (Obj1 W5 gx 41 #[.int .i64 x.k, .int .i64 x.b, .int .i64 x.wd, .int .i64 x.ad, .slice x.A x.n x.c, .slice x.B x.m x.d]) := Lib.hid (by rw [HW5, ← HGX.out]; exact Obj1.new _ _ _)
              have HB5 : Hid (Below wr.heap.size wr W5) := Lib.hid (by rw [HW5]; exact bel1 _ _)
              have HBW5 := Lib.hid (HBQ.out.trans (HB5.out.mono HBQ.out.size))
              have HOK5 : Hid (x.Ok W5) := Lib.hid (HOK.out.kept HB5.out)
              rw [← HW5, HGX.out]
              clear HW5 d0 d1 d2 j0 j1 j2 j3 j4 j5 HB5 HOK HOq HGX
              have k0 := HOX.out.cell 0
              simp at k0
              by_cases hk0 : x.k = 0
              · have HZ := Lib.hid (win_zero hk0 HXZ.out)
                rw [hk0] at k0
                clear hk0 HXZ
                have hmm := @run_makeMap Try.prog
                go_upto_region 12 with (fail)
                obtain ⟨g, HGM⟩ : ∃ g, Hid (W5.heap.size = g) := ⟨_, Lib.hid rfl⟩
                obtain ⟨W6, HW6⟩ : ∃ W6, W6 = W5.alloc (.map #[] 0) := ⟨_, rfl⟩
                have HB56 : Hid (Below W5.heap.size W5 W6) := Lib.hid (by rw [HW6]; exact bel1 _ _)
                have HM6 : Hid (MapS W6 g 0 []) := Lib.hid (by rw [HW6, ← HGM.out]; exact MapS.made _)
                have HGG : Hid (gx < g ∧ W1.heap.size ≤ g) := Lib.hid (by have := HOX.out.lt; have := HGM.out; have := HBW5.out.size; omega)
                have HO6 := Lib.hid (HOX.out.kept HB56.out)
                have HFA : Hid (∀ W, Wrote g W6 W → Lst W x.A x.n (x.fs.map (Value.int .i64)) ∧ Lst W x.B x.m (x.ts.map (Value.int .i64))) := Lib.hid (fun W hW => by
                  have hne : ∀ (A : Option Addr) (n : Nat) (xs : List Value), Lst W5 A n xs → ∀ b' off, A = some ⟨b', off, none⟩ → 0 < n → b' ≠ g := fun A n xs hl b off e h => by
                    obtain ⟨b', off', e', hlt, _⟩ := hl.2 h
                    rw [e] at e'
                    injection e' with e'
                    injection e' with e1 _ _
                    have := HGM.out
                    omega
                  exact ⟨(HOK5.out.fl.kept HB56.out).touch2 hW (hne _ _ _ HOK5.out.fl), (HOK5.out.tl.kept HB56.out).touch2 hW (hne _ _ _ HOK5.out.tl)⟩)
                have HB6 := Lib.hid (HBW5.out.trans (HB56.out.mono HBW5.out.size))
                have HOX6 : Hid (∀ W, Wrote g W6 W → W.cell? ⟨gx, 2, none⟩ = some (.int .i64 x.wd) ∧ W.cell? ⟨gx, 3, none⟩ = some (.int .i64 x.ad) ∧ W.cell? ⟨gx, 4, none⟩ = some (.slice x.A x.n x.c) ∧ W.cell? ⟨gx, 5, none⟩ = some (.slice x.B x.m x.d)) := Lib.hid (fun W hW => by
                  have h := HO6.out.touch hW (by have := HGG.out; omega)
                  exact ⟨h.cell 2, h.cell 3, h.cell 4, h.cell 5⟩)
                obtain ⟨hlf, hlt'⟩ := HFA.out W6 (Wrote.refl _ _)
                have HLF : Hid (x.fs.length = x.n) := Lib.hid (by have := hlf.1; simpa using this)
                have HLT : Hid (x.ts.length = x.m) := Lib.hid (by have := hlt'.1; simpa using this)
                rw [← HW6, HGM.out]
                clear HW6 k0 hmm hlf hlt' HB56 HO6 HOX HOK5 HBW5 HGM
                go_wp2_with fail
                go_loopw [7] (fun i wx => ∃ k : Nat, k ≤ x.n ∧ i = .int .i64 k ∧ Hid (MapS wx g (k) (x.fs.take k)) ∧ Wrote g W6 wx) (fun i _ => x.n - (intOf i).toNat)
                case atStart => exact ⟨0, by omega, rfl, Lib.hid (by simpa using HM6.out), Wrote.refl _ _⟩
                case round =>
                  obtain ⟨k, hk, rfl, HMK, hw⟩ := hrel
                  have HW := Lib.hid hw
                  have HKS : Hid True := Lib.hid trivial
                  by_cases hlt : k < x.n
                  · have hki : (k : Int) < (x.n : Int) := by omega
                    have hkl : k < x.fs.length := by rw [HLF.out]; exact hlt
                    obtain ⟨k2, k3, k4, k5⟩ := HOX6.out wr hw
                    obtain ⟨b, off, hAb, _, hc⟩ := ((HFA.out wr hw).1).get hlt
                    rw [hAb] at k4
                    rw [List.getElem_map] at hc
                    obtain ⟨y, hy⟩ : ∃ y, x.fs[k]'hkl = y := ⟨_, rfl⟩
                    rw [hy] at hc
                    have HY : Hid (x.fs[k]? = some y) := Lib.hid (by rw [List.getElem?_eq_getElem hkl, hy])
                    have HWF : Hid ((Lit.int .i64 y).wf = true) := Lib.hid (by
                      have h1 := (namF_at HZ.out.2.1).2 y (List.mem_of_getElem? HY.out)
                      have := HFN.out.2.2.2
                      exact wf_key h1.1 (by omega))
                    obtain ⟨D, hown, hat0, hhas, hsz⟩ := HMK.out
                    have HOWN := Lib.hid hown
                    have HAT := Lib.hid hat0
                    have HHAS := Lib.hid hhas
                    have HSZ := Lib.hid hsz
                    have HNEW : Hid ((x.fs.take k).contains y = false) := Lib.hid (new_fs HZ.out.2.2.1 HY.out)
                    have HCX : Hid (∀ cc : Int, D.atKey (.int .i64 y) (.lit (.int .i64 0)) = .lit (.int .i64 cc) → cc = 0) := Lib.hid (fun cc h => by
                      rw [HAT.out y, HNEW.out] at h
                      injection h with h
                      injection h with _ h
                      exact h.symm)
                    clear hy hw hat0 hhas hsz hkl hAb
                    go_upto_region 14 with (first | (at_lookup; refine wpList_lookup_own_int _ rfl _ _ TM rfl TI TI .i64 lawI Try.underlying65 Try.underlying3 (zeroI _) g (k) _ rfl hown _ _ rfl (keyOf_int_mk Try.underlying3 HWF.out) ?_; intro cc hat hwc; obtain rfl : cc = 0 := HCX.out cc hat) | (at_mapUpdate; refine wpList_mapUpdate_own _ rfl _ _ _ TM rfl TI TI lawI Try.underlying65 _ g (k) _ rfl hown (by unfold maxLen; omega) _ _ _ rfl rfl (keyOf_int_mk Try.underlying3 HWF.out) _ [] (plainElem_int Try.underlying3 (by kernel_rfl)) ?_; intro w1 hown1 hgrow1))
                    have HMN : Hid (MapS w1 g ((k + 1)) (x.fs.take (k + 1))) := Lib.hid (by
                      have := MapS.put HWF.out HOWN.out HAT.out HHAS.out HSZ.out HNEW.out hown1
                      rw [show x.fs.take k ++ [y] = x.fs.take (k + 1) by rw [List.take_add_one, HY.out]; rfl] at this
                      exact this)
                    have HW1 : Hid (Wrote g W6 w1) := Lib.hid (HW.out.trans hgrow1)
                    clear hown hown1 hgrow1 hat hwc hc k2 k3 k4 k5
                    go_wp2
                    go_roundw
                    case rel => exact ⟨k + 1, by omega, by go_num, HMN, HW1.out⟩
                    case measure => simp [intOf]; omega
                  · have hke : k = x.n := by omega
                    subst hke
                    obtain ⟨k2, k3, k4, k5⟩ := HOX6.out wr hw
                    clear hw
                    have HM7 : Hid (MapS wr g (x.n + 0) (x.fs ++ x.ts.take 0)) := Lib.hid (by
                      have h := HMK.out
                      rw [List.take_of_length_le (by rw [HLF.out]; exact Nat.le_refl _)] at h
                      simpa using h)
                    clear HMK
                    go_wp2_with fail
                    go_loopw [8] (fun i wx => ∃ k : Nat, k ≤ x.m ∧ i = .int .i64 k ∧ Hid (MapS wx g (x.n + k) (x.fs ++ x.ts.take k)) ∧ Wrote g W6 wx) (fun i _ => x.m - (intOf i).toNat)
                    case atStart => exact ⟨0, by omega, rfl, Lib.hid HM7.out, HW.out⟩
                    case round =>
                      obtain ⟨k, hk, rfl, HMK, hw⟩ := hrel
                      have HW := Lib.hid hw
                      have HKS : Hid True := Lib.hid trivial
                      by_cases hlt : k < x.m
                      · have hki : (k : Int) < (x.m : Int) := by omega
                        have hkl : k < x.ts.length := by rw [HLT.out]; exact hlt
                        obtain ⟨k2, k3, k4, k5⟩ := HOX6.out wr hw
                        obtain ⟨b, off, hAb, _, hc⟩ := ((HFA.out wr hw).2).get hlt
                        rw [hAb] at k5
                        rw [List.getElem_map] at hc
                        obtain ⟨y, hy⟩ : ∃ y, x.ts[k]'hkl = y := ⟨_, rfl⟩
                        rw [hy] at hc
                        have HY : Hid (x.ts[k]? = some y) := Lib.hid (by rw [List.getElem?_eq_getElem hkl, hy])
                        have HWF : Hid ((Lit.int .i64 y).wf = true) := Lib.hid (by
                          have h1 := (namF_at HZ.out.2.2.2.1).2 y (List.mem_of_getElem? HY.out)
                          have := HFN.out.2.2.2
                          exact wf_key h1.1 (by omega))
                        obtain ⟨D, hown, hat0, hhas, hsz⟩ := HMK.out
                        have HOWN := Lib.hid hown
                        have HAT := Lib.hid hat0
                        have HHAS := Lib.hid hhas
                        have HSZ := Lib.hid hsz
                        have HNEW : Hid ((x.fs ++ x.ts.take k).contains y = false) := Lib.hid (new_ts HZ.out.2.2.2.2.2 HZ.out.2.2.2.2.1 HY.out)
                        have HCX : Hid (∀ cc : Int, D.atKey (.int .i64 y) (.lit (.int .i64 0)) = .lit (.int .i64 cc) → cc = 0) := Lib.hid (fun cc h => by
                          rw [HAT.out y, HNEW.out] at h
                          injection h with h
                          injection h with _ h
                          exact h.symm)
                        clear hy hw hat0 hhas hsz hkl hAb
                        go_upto_region 18 with (first | (at_lookup; refine wpList_lookup_own_int _ rfl _ _ TM rfl TI TI .i64 lawI Try.underlying65 Try.underlying3 (zeroI _) g (x.n + k) _ rfl hown _ _ rfl (keyOf_int_mk Try.underlying3 HWF.out) ?_; intro cc hat hwc; obtain rfl : cc = 0 := HCX.out cc hat) | (at_mapUpdate; refine wpList_mapUpdate_own _ rfl _ _ _ TM rfl TI TI lawI Try.underlying65 _ g (x.n + k) _ rfl hown (by unfold maxLen; omega) _ _ _ rfl rfl (keyOf_int_mk Try.underlying3 HWF.out) _ [] (plainElem_int Try.underlying3 (by kernel_rfl)) ?_; intro w1 hown1 hgrow1))
                        have HMN : Hid (MapS w1 g (x.n + (k + 1)) (x.fs ++ x.ts.take (k + 1))) := Lib.hid (by
                          have := MapS.put HWF.out HOWN.out HAT.out HHAS.out HSZ.out HNEW.out hown1
                          rw [List.append_assoc, show x.ts.take k ++ [y] = x.ts.take (k + 1) by rw [List.take_add_one, HY.out]; rfl] at this
                          exact this)
                        have HW1 : Hid (Wrote g W6 w1) := Lib.hid (HW.out.trans hgrow1)
                        clear hown hown1 hgrow1 hat hwc hc k2 k3 k4 k5
                        go_wp2
                        go_roundw
                        case rel => exact ⟨k + 1, by omega, by go_num, HMN, HW1.out⟩
                        case measure => simp [intOf]; omega
                      · have hke : k = x.m := by omega
                        subst hke
                        obtain ⟨k2, k3, k4, k5⟩ := HOX6.out wr hw
                        clear hw
                        have HSZ := HMK
                        obtain ⟨D, hown, _, _, hsz⟩ := HSZ.out
                        have hsz' : Go.Maps.size D = x.n + x.m := by
                          rw [hsz, List.length_append, List.length_take, HLF.out, HLT.out]
                          omega
                        obtain ⟨Z, hZ⟩ : ∃ Z : Nat, x.n + x.m = Z := ⟨_, rfl⟩
                        rw [hZ] at hsz'
                        have e1 : IntKind.i64.wrap ((x.n : Int) + (x.m : Int)) = (Z : Int) := by rw [IntWalk.i64_in _ (by omega)]; omega
                        obtain ⟨hz0, hz1, hz2, hz3, hz4, hz5⟩ := HZ.out
                        have hn1 : ¬ (x.n : Int) < 1 := by have := (namF_at hz1).1; have := HLF.out; omega
                        have hm1 : ¬ (x.m : Int) < 1 := by have := (namF_at hz3).1; have := HLT.out; omega
                        have e2 : IntKind.i64.wrap (x.ad + x.wd) = x.ad + x.wd := IntWalk.i64_in _ (by omega)
                        have h64 : ¬ (64 < x.ad + x.wd) := by omega
                        obtain ⟨k2, k3, k4, k5⟩ := HOX6.out wr HW.out
                        clear hsz hz0 hz1 hz2 hz3 hz4 hz5 hZ
                        have HBZ := Lib.hid (HB6.out.trans (HW.out.below (by have := HGG.out; omega) HB6.out.size))
                        go_wp2_with (at_len; refine wpList_len_own _ rfl _ _ rfl TI TI Try.underlying65 _ g _ D rfl hown ?_; rw [hsz'])
                        go_roundw
                        case rel => exact ⟨q + 1, by omega, by go_num, HBZ.out⟩
                        case measure => simp [intOf]; omega
              · have hkb : (x.k == 0) = false := by simpa using hk0
                have hkn : (x.k != 0) = true := by simpa using hk0
                clear hk0
                go_wp2
                go_roundw
                case rel => exact ⟨q + 1, by omega, by go_num, HBW5.out⟩
                case measure => simp [intOf]; omega
            · have hqe : n0 = q := by omega
              subst hqe
              have HSP : Hid (Calls Try.prog 26 #[.slice A0 n0 c0, .int .i64 0] wr fun e w' => ∃ v, e = .returned v ∧ Hid (w'.ownsRow wr.heap.size 3 1 v (spanF 0 ws0).length (inV (spanF 0 ws0))) ∧ Hid (Below wr.heap.size wr w')) := Lib.hid (spans_any A0 n0 c0 0 ws0 wr (by omega) (HWW.out _ HBQ.out).1 (by omega))
              obtain ⟨xs, HXS⟩ : ∃ xs, Hid (spanF 0 ws0 = xs) := ⟨_, Lib.hid rfl⟩
              have hsg := span_good 0 ws0
              have hsl := HFR.out.2.2
              rw [HXS.out] at HSP hsg hsl
              have hx62 : xs.length ≤ 61 := by
                rw [← HXS.out]
                unfold spanF
                have h1 := (PS_all 0 ws0 ws0.length).1
                have h2 := (HWW.out _ HBQ.out).1.len
                rw [List.length_append, List.length_singleton]
                omega
              have HSB : Hid (∀ s ∈ xs, 1 ≤ s ∧ s ≤ 200) := Lib.hid (fun s hs => ⟨hsg.1 s hs, hsl s hs⟩)
              obtain ⟨S, HS⟩ : ∃ S, Hid (endS ws0 (leadI 0) + 120 = S) := ⟨_, Lib.hid rfl⟩
              have HSUM : Hid (20 * sumI xs = S) := Lib.hid (by rw [← HS.out]; exact hsg.2)
              clear hsg hsl
              go_wp2_with fail
              refine HSP.out.mono ?_
              rintro e w7 ⟨v7, rfl, HR7, HB7⟩
              obtain ⟨A7, c7, rfl, _, _, hl7⟩ := Lst.of_own HR7.out
              obtain ⟨N, HN⟩ : ∃ N, Hid (xs.length = N) := ⟨_, Lib.hid rfl⟩
              rw [HN.out] at hl7 hx62 ⊢
              have HL7 := Lib.hid hl7
              have HBW7 := Lib.hid (HBQ.out.trans (HB7.out.mono HBQ.out.size))
              clear hl7 HR7 HB7 HSP d0 d1 d2 HOq
              go_wp2_with fail
              go_loopw [9, 11] (fun s i wx => ∃ k : Nat, k ≤ N ∧ i = .int .i64 k ∧ s = .int .i64 (sumI (xs.take k)) ∧ Below w7.heap.size w7 wx) (fun _ i _ => N - (intOf i).toNat)
              case atStart => exact ⟨0, by omega, rfl, rfl, Below.refl _ _⟩
              case round =>
                obtain ⟨k, hk, rfl, rfl, hb2⟩ := hrel
                have HB2k := Lib.hid hb2
                have HBW9 := Lib.hid (HBW7.out.trans (hb2.mono HBW7.out.size))
                have HLk := Lib.hid (HL7.out.kept hb2)
                clear hb2
                have hsb := sumI_bd (xs := xs.take k) (fun s hs => HSB.out s (List.mem_of_mem_take hs))
                have hkl : (xs.take k).length ≤ 61 := by rw [List.length_take, HN.out]; omega
                by_cases hlt : k < N
                · have hki : (k : Int) < (N : Int) := by omega
                  have hkx : k < xs.length := by rw [HN.out]; exact hlt
                  obtain ⟨tb, toff, rfl, _, hc⟩ := HLk.out.get hlt
                  rw [List.getElem_map] at hc
                  obtain ⟨s, hs⟩ : ∃ s, xs[k]'hkx = s := ⟨_, rfl⟩
                  rw [hs] at hc
                  have hss : xs[k]? = some s := by rw [List.getElem?_eq_getElem hkx, hs]
                  have HNX := Lib.hid (sumI_next hss)
                  have hs1 := HSB.out s (List.mem_of_getElem? hss)
                  have hl200 : ¬ 200 < s := by omega
                  have hl1 : ¬ s < 1 := by omega
                  obtain ⟨T, hT⟩ : ∃ T, sumI (xs.take k) = T := ⟨_, rfl⟩
                  rw [hT] at hsb HNX ⊢
                  have e1 : IntKind.i64.wrap (T + s) = T + s := IntWalk.i64_in _ (by omega)
                  clear hs hkx hss hT hs1 hsb hkl
                  go_wp2
                  go_roundw
                  case rel => exact ⟨k + 1, by omega, by go_num, by rw [HNX.out], HB2k.out⟩
                  case measure => simp [intOf]; omega
                · have hke : N = k := by omega
                  subst hke
                  have HE : Hid (xs.take N = xs) := Lib.hid (List.take_of_length_le (by rw [HN.out]; exact Nat.le_refl _))
                  rw [HE.out] at hsb ⊢
                  have hxl := HN.out
                  obtain ⟨T, hT⟩ : ∃ T, sumI xs = T := ⟨_, rfl⟩
                  have hST : S = 20 * T := by rw [← hT]; exact HSUM.out.symm
                  rw [hT] at hsb ⊢
                  have e1 : IntKind.i64.wrap (20 * T) = 20 * T := IntWalk.i64_in _ (by omega)
                  have HFRM : Hid (∀ W, Below W1.heap.size W1 W → Calls Try.prog 11 #[.agg (#[.int .i64 md, .slice A0 n0 c0, .slice A1 n1 c1]), .int .i64 0] W fun e w' => e = .returned (.int .i64 (20 * T)) ∧ Below W.heap.size W w') := Lib.hid (fun W hW => by
                    have h := frame_any md A0 n0 c0 A1 n1 c1 A0 n0 c0 0 ws0 W (by first | exact .inl ⟨rfl, rfl, rfl, rfl⟩ | exact .inr ⟨rfl, rfl, rfl, rfl⟩) (HWW.out W hW).1 (by omega)
                    rw [HS.out, hST] at h
                    exact h)
                  have HO9 := Lib.hid (HOB.out.kept HBW9.out)
                  have d0 := HO9.out.cell 0
                  have d1 := HO9.out.cell 1
                  have d2 := HO9.out.cell 2
                  simp at d0 d1 d2
                  clear hsb hkl hxl hT hST
                  go_wp2_with fail
                  refine (HFRM.out _ HBW9.out).mono ?_
                  rintro e wf ⟨rfl, hbf⟩
                  have HBF := Lib.hid (HBW9.out.trans (hbf.mono HBW9.out.size))
                  clear d0 d1 d2 hbf
                  go_wp2
                  go_roundw
                  case rel => exact ⟨0 + 1, by omega, by go_num, HBF.out⟩
                  case measure => simp [intOf]

        · as_aux_lemma =>
          rw [show ((1 : Nat) : Int) = 1 from rfl]
          have HFR : Hid (FrNo (winI md) 1 ws1) := Lib.hid HFN.out.2.1
          go_wp2_with fail
          go_loopw [4] (fun i wx => ∃ q : Nat, q ≤ n1 ∧ i = .int .i64 q ∧ Below W1.heap.size W1 wx) (fun i _ => n1 - (intOf i).toNat)
          case atStart => exact ⟨0, by omega, rfl, HBK.out⟩
          case round =>
            clear HBK
            obtain ⟨q, hq, rfl, hbq⟩ := hrel
            have HBQ := Lib.hid hbq
            have HOq := Lib.hid (HOB.out.kept hbq)
            clear hbq
            have d0 := HOq.out.cell 0
            have d1 := HOq.out.cell 1
            have d2 := HOq.out.cell 2
            simp at d0 d1 d2
            by_cases hlt : q < n1
            · have hqi : (q : Int) < (n1 : Int) := by omega
              have hql : q < ws1.length := by have := (HWW.out _ HBQ.out).2.len; omega
              obtain ⟨x, hx⟩ : ∃ x, ws1[q]? = some x := ⟨_, List.getElem?_eq_getElem hql⟩
              have hmem := List.mem_of_getElem? hx
              obtain ⟨b1, o1, rfl, hb1, j0, j1, j2, j3, j4, j5, hok⟩ := ((HWW.out _ HBQ.out).2).six hlt hx
              have HOK := Lib.hid hok
              have HXZ : Hid (Win md x.k x.b x.wd x.ad x.n x.fs x.ts 0) := Lib.hid (by have h := winI_is md x; rwa [HFR.out.2.1 q x hx] at h)
              have hx40 := HFM.out.2 x hmem
              clear hx hmem hql hok hb1
              go_upto_region 10 with (fail)
              obtain ⟨gx, HGX⟩ : ∃ gx, Hid (wr.heap.size = gx) := ⟨_, Lib.hid rfl⟩
              obtain ⟨W5, HW5⟩ : ∃ W5, W5 = wr.alloc (.cells #[.int .i64 x.k, .int .i64 x.b, .int .i64 x.wd, .int .i64 x.ad, .slice x.A x.n x.c, .slice x.B x.m x.d] 41) := ⟨_, rfl⟩
              have HOX : Hid (Obj1 W5 gx 41 #[.int .i64 x.k, .int .i64 x.b, .int .i64 x.wd, .int .i64 x.ad, .slice x.A x.n x.c, .slice x.B x.m x.d]) := Lib.hid (by rw [HW5, ← HGX.out]; exact Obj1.new _ _ _)
              have HB5 : Hid (Below wr.heap.size wr W5) := Lib.hid (by rw [HW5]; exact bel1 _ _)
              have HBW5 := Lib.hid (HBQ.out.trans (HB5.out.mono HBQ.out.size))
              have HOK5 : Hid (x.Ok W5) := Lib.hid (HOK.out.kept HB5.out)
              rw [← HW5, HGX.out]
              clear HW5 d0 d1 d2 j0 j1 j2 j3 j4 j5 HB5 HOK HOq HGX
              have k0 := HOX.out.cell 0
              simp at k0
              by_cases hk0 : x.k = 0
              · have HZ := Lib.hid (win_zero hk0 HXZ.out)
                rw [hk0] at k0
                clear hk0 HXZ
                have hmm := @run_makeMap Try.prog
                go_upto_region 12 with (fail)
                obtain ⟨g, HGM⟩ : ∃ g, Hid (W5.heap.size = g) := ⟨_, Lib.hid rfl⟩
                obtain ⟨W6, HW6⟩ : ∃ W6, W6 = W5.alloc (.map #[] 0) := ⟨_, rfl⟩
                have HB56 : Hid (Below W5.heap.size W5 W6) := Lib.hid (by rw [HW6]; exact bel1 _ _)
                have HM6 : Hid (MapS W6 g 0 []) := Lib.hid (by rw [HW6, ← HGM.out]; exact MapS.made _)
                have HGG : Hid (gx < g ∧ W1.heap.size ≤ g) := Lib.hid (by have := HOX.out.lt; have := HGM.out; have := HBW5.out.size; omega)
                have HO6 := Lib.hid (HOX.out.kept HB56.out)
                have HFA : Hid (∀ W, Wrote g W6 W → Lst W x.A x.n (x.fs.map (Value.int .i64)) ∧ Lst W x.B x.m (x.ts.map (Value.int .i64))) := Lib.hid (fun W hW => by
                  have hne : ∀ (A : Option Addr) (n : Nat) (xs : List Value), Lst W5 A n xs → ∀ b' off, A = some ⟨b', off, none⟩ → 0 < n → b' ≠ g := fun A n xs hl b off e h => by
                    obtain ⟨b', off', e', hlt, _⟩ := hl.2 h
                    rw [e] at e'
                    injection e' with e'
                    injection e' with e1 _ _
                    have := HGM.out
                    omega
                  exact ⟨(HOK5.out.fl.kept HB56.out).touch2 hW (hne _ _ _ HOK5.out.fl), (HOK5.out.tl.kept HB56.out).touch2 hW (hne _ _ _ HOK5.out.tl)⟩)
                have HB6 := Lib.hid (HBW5.out.trans (HB56.out.mono HBW5.out.size))
                have HOX6 : Hid (∀ W, Wrote g W6 W → W.cell? ⟨gx, 2, none⟩ = some (.int .i64 x.wd) ∧ W.cell? ⟨gx, 3, none⟩ = some (.int .i64 x.ad) ∧ W.cell? ⟨gx, 4, none⟩ = some (.slice x.A x.n x.c) ∧ W.cell? ⟨gx, 5, none⟩ = some (.slice x.B x.m x.d)) := Lib.hid (fun W hW => by
                  have h := HO6.out.touch hW (by have := HGG.out; omega)
                  exact ⟨h.cell 2, h.cell 3, h.cell 4, h.cell 5⟩)
                obtain ⟨hlf, hlt'⟩ := HFA.out W6 (Wrote.refl _ _)
                have HLF : Hid (x.fs.length = x.n) := Lib.hid (by have := hlf.1; simpa using this)
                have HLT : Hid (x.ts.length = x.m) := Lib.hid (by have := hlt'.1; simpa using this)
                rw [← HW6, HGM.out]
                clear HW6 k0 hmm hlf hlt' HB56 HO6 HOX HOK5 HBW5 HGM
                go_wp2_with fail
                go_loopw [7] (fun i wx => ∃ k : Nat, k ≤ x.n ∧ i = .int .i64 k ∧ Hid (MapS wx g (k) (x.fs.take k)) ∧ Wrote g W6 wx) (fun i _ => x.n - (intOf i).toNat)
                case atStart => exact ⟨0, by omega, rfl, Lib.hid (by simpa using HM6.out), Wrote.refl _ _⟩
                case round =>
                  obtain ⟨k, hk, rfl, HMK, hw⟩ := hrel
                  have HW := Lib.hid hw
                  have HKS : Hid True := Lib.hid trivial
                  by_cases hlt : k < x.n
                  · have hki : (k : Int) < (x.n : Int) := by omega
                    have hkl : k < x.fs.length := by rw [HLF.out]; exact hlt
                    obtain ⟨k2, k3, k4, k5⟩ := HOX6.out wr hw
                    obtain ⟨b, off, hAb, _, hc⟩ := ((HFA.out wr hw).1).get hlt
                    rw [hAb] at k4
                    rw [List.getElem_map] at hc
                    obtain ⟨y, hy⟩ : ∃ y, x.fs[k]'hkl = y := ⟨_, rfl⟩
                    rw [hy] at hc
                    have HY : Hid (x.fs[k]? = some y) := Lib.hid (by rw [List.getElem?_eq_getElem hkl, hy])
                    have HWF : Hid ((Lit.int .i64 y).wf = true) := Lib.hid (by
                      have h1 := (namF_at HZ.out.2.1).2 y (List.mem_of_getElem? HY.out)
                      have := HFN.out.2.2.2
                      exact wf_key h1.1 (by omega))
                    obtain ⟨D, hown, hat0, hhas, hsz⟩ := HMK.out
                    have HOWN := Lib.hid hown
                    have HAT := Lib.hid hat0
                    have HHAS := Lib.hid hhas
                    have HSZ := Lib.hid hsz
                    have HNEW : Hid ((x.fs.take k).contains y = false) := Lib.hid (new_fs HZ.out.2.2.1 HY.out)
                    have HCX : Hid (∀ cc : Int, D.atKey (.int .i64 y) (.lit (.int .i64 0)) = .lit (.int .i64 cc) → cc = 0) := Lib.hid (fun cc h => by
                      rw [HAT.out y, HNEW.out] at h
                      injection h with h
                      injection h with _ h
                      exact h.symm)
                    clear hy hw hat0 hhas hsz hkl hAb
                    go_upto_region 14 with (first | (at_lookup; refine wpList_lookup_own_int _ rfl _ _ TM rfl TI TI .i64 lawI Try.underlying65 Try.underlying3 (zeroI _) g (k) _ rfl hown _ _ rfl (keyOf_int_mk Try.underlying3 HWF.out) ?_; intro cc hat hwc; obtain rfl : cc = 0 := HCX.out cc hat) | (at_mapUpdate; refine wpList_mapUpdate_own _ rfl _ _ _ TM rfl TI TI lawI Try.underlying65 _ g (k) _ rfl hown (by unfold maxLen; omega) _ _ _ rfl rfl (keyOf_int_mk Try.underlying3 HWF.out) _ [] (plainElem_int Try.underlying3 (by kernel_rfl)) ?_; intro w1 hown1 hgrow1))
                    have HMN : Hid (MapS w1 g ((k + 1)) (x.fs.take (k + 1))) := Lib.hid (by
                      have := MapS.put HWF.out HOWN.out HAT.out HHAS.out HSZ.out HNEW.out hown1
                      rw [show x.fs.take k ++ [y] = x.fs.take (k + 1) by rw [List.take_add_one, HY.out]; rfl] at this
                      exact this)
                    have HW1 : Hid (Wrote g W6 w1) := Lib.hid (HW.out.trans hgrow1)
                    clear hown hown1 hgrow1 hat hwc hc k2 k3 k4 k5
                    go_wp2
                    go_roundw
                    case rel => exact ⟨k + 1, by omega, by go_num, HMN, HW1.out⟩
                    case measure => simp [intOf]; omega
                  · have hke : k = x.n := by omega
                    subst hke
                    obtain ⟨k2, k3, k4, k5⟩ := HOX6.out wr hw
                    clear hw
                    have HM7 : Hid (MapS wr g (x.n + 0) (x.fs ++ x.ts.take 0)) := Lib.hid (by
                      have h := HMK.out
                      rw [List.take_of_length_le (by rw [HLF.out]; exact Nat.le_refl _)] at h
                      simpa using h)
                    clear HMK
                    go_wp2_with fail
                    go_loopw [8] (fun i wx => ∃ k : Nat, k ≤ x.m ∧ i = .int .i64 k ∧ Hid (MapS wx g (x.n + k) (x.fs ++ x.ts.take k)) ∧ Wrote g W6 wx) (fun i _ => x.m - (intOf i).toNat)
                    case atStart => exact ⟨0, by omega, rfl, Lib.hid HM7.out, HW.out⟩
                    case round =>
                      obtain ⟨k, hk, rfl, HMK, hw⟩ := hrel
                      have HW := Lib.hid hw
                      have HKS : Hid True := Lib.hid trivial
                      by_cases hlt : k < x.m
                      · have hki : (k : Int) < (x.m : Int) := by omega
                        have hkl : k < x.ts.length := by rw [HLT.out]; exact hlt
                        obtain ⟨k2, k3, k4, k5⟩ := HOX6.out wr hw
                        obtain ⟨b, off, hAb, _, hc⟩ := ((HFA.out wr hw).2).get hlt
                        rw [hAb] at k5
                        rw [List.getElem_map] at hc
                        obtain ⟨y, hy⟩ : ∃ y, x.ts[k]'hkl = y := ⟨_, rfl⟩
                        rw [hy] at hc
                        have HY : Hid (x.ts[k]? = some y) := Lib.hid (by rw [List.getElem?_eq_getElem hkl, hy])
                        have HWF : Hid ((Lit.int .i64 y).wf = true) := Lib.hid (by
                          have h1 := (namF_at HZ.out.2.2.2.1).2 y (List.mem_of_getElem? HY.out)
                          have := HFN.out.2.2.2
                          exact wf_key h1.1 (by omega))
                        obtain ⟨D, hown, hat0, hhas, hsz⟩ := HMK.out
                        have HOWN := Lib.hid hown
                        have HAT := Lib.hid hat0
                        have HHAS := Lib.hid hhas
                        have HSZ := Lib.hid hsz
                        have HNEW : Hid ((x.fs ++ x.ts.take k).contains y = false) := Lib.hid (new_ts HZ.out.2.2.2.2.2 HZ.out.2.2.2.2.1 HY.out)
                        have HCX : Hid (∀ cc : Int, D.atKey (.int .i64 y) (.lit (.int .i64 0)) = .lit (.int .i64 cc) → cc = 0) := Lib.hid (fun cc h => by
                          rw [HAT.out y, HNEW.out] at h
                          injection h with h
                          injection h with _ h
                          exact h.symm)
                        clear hy hw hat0 hhas hsz hkl hAb
                        go_upto_region 18 with (first | (at_lookup; refine wpList_lookup_own_int _ rfl _ _ TM rfl TI TI .i64 lawI Try.underlying65 Try.underlying3 (zeroI _) g (x.n + k) _ rfl hown _ _ rfl (keyOf_int_mk Try.underlying3 HWF.out) ?_; intro cc hat hwc; obtain rfl : cc = 0 := HCX.out cc hat) | (at_mapUpdate; refine wpList_mapUpdate_own _ rfl _ _ _ TM rfl TI TI lawI Try.underlying65 _ g (x.n + k) _ rfl hown (by unfold maxLen; omega) _ _ _ rfl rfl (keyOf_int_mk Try.underlying3 HWF.out) _ [] (plainElem_int Try.underlying3 (by kernel_rfl)) ?_; intro w1 hown1 hgrow1))
                        have HMN : Hid (MapS w1 g (x.n + (k + 1)) (x.fs ++ x.ts.take (k + 1))) := Lib.hid (by
                          have := MapS.put HWF.out HOWN.out HAT.out HHAS.out HSZ.out HNEW.out hown1
                          rw [List.append_assoc, show x.ts.take k ++ [y] = x.ts.take (k + 1) by rw [List.take_add_one, HY.out]; rfl] at this
                          exact this)
                        have HW1 : Hid (Wrote g W6 w1) := Lib.hid (HW.out.trans hgrow1)
                        clear hown hown1 hgrow1 hat hwc hc k2 k3 k4 k5
                        go_wp2
                        go_roundw
                        case rel => exact ⟨k + 1, by omega, by go_num, HMN, HW1.out⟩
                        case measure => simp [intOf]; omega
                      · have hke : k = x.m := by omega
                        subst hke
                        obtain ⟨k2, k3, k4, k5⟩ := HOX6.out wr hw
                        clear hw
                        have HSZ := HMK
                        obtain ⟨D, hown, _, _, hsz⟩ := HSZ.out
                        have hsz' : Go.Maps.size D = x.n + x.m := by
                          rw [hsz, List.length_append, List.length_take, HLF.out, HLT.out]
                          omega
                        obtain ⟨Z, hZ⟩ : ∃ Z : Nat, x.n + x.m = Z := ⟨_, rfl⟩
                        rw [hZ] at hsz'
                        have e1 : IntKind.i64.wrap ((x.n : Int) + (x.m : Int)) = (Z : Int) := by rw [IntWalk.i64_in _ (by omega)]; omega
                        obtain ⟨hz0, hz1, hz2, hz3, hz4, hz5⟩ := HZ.out
                        have hn1 : ¬ (x.n : Int) < 1 := by have := (namF_at hz1).1; have := HLF.out; omega
                        have hm1 : ¬ (x.m : Int) < 1 := by have := (namF_at hz3).1; have := HLT.out; omega
                        have e2 : IntKind.i64.wrap (x.ad + x.wd) = x.ad + x.wd := IntWalk.i64_in _ (by omega)
                        have h64 : ¬ (64 < x.ad + x.wd) := by omega
                        obtain ⟨k2, k3, k4, k5⟩ := HOX6.out wr HW.out
                        clear hsz hz0 hz1 hz2 hz3 hz4 hz5 hZ
                        have HBZ := Lib.hid (HB6.out.trans (HW.out.below (by have := HGG.out; omega) HB6.out.size))
                        go_wp2_with (at_len; refine wpList_len_own _ rfl _ _ rfl TI TI Try.underlying65 _ g _ D rfl hown ?_; rw [hsz'])
                        go_roundw
                        case rel => exact ⟨q + 1, by omega, by go_num, HBZ.out⟩
                        case measure => simp [intOf]; omega
              · have hkb : (x.k == 0) = false := by simpa using hk0
                have hkn : (x.k != 0) = true := by simpa using hk0
                clear hk0
                go_wp2
                go_roundw
                case rel => exact ⟨q + 1, by omega, by go_num, HBW5.out⟩
                case measure => simp [intOf]; omega
            · have hqe : n1 = q := by omega
              subst hqe
              have HSP : Hid (Calls Try.prog 26 #[.slice A1 n1 c1, .int .i64 1] wr fun e w' => ∃ v, e = .returned v ∧ Hid (w'.ownsRow wr.heap.size 3 1 v (spanF 1 ws1).length (inV (spanF 1 ws1))) ∧ Hid (Below wr.heap.size wr w')) := Lib.hid (spans_any A1 n1 c1 1 ws1 wr (by omega) (HWW.out _ HBQ.out).2 (by omega))
              obtain ⟨xs, HXS⟩ : ∃ xs, Hid (spanF 1 ws1 = xs) := ⟨_, Lib.hid rfl⟩
              have hsg := span_good 1 ws1
              have hsl := HFR.out.2.2
              rw [HXS.out] at HSP hsg hsl
              have hx62 : xs.length ≤ 61 := by
                rw [← HXS.out]
                unfold spanF
                have h1 := (PS_all 1 ws1 ws1.length).1
                have h2 := (HWW.out _ HBQ.out).2.len
                rw [List.length_append, List.length_singleton]
                omega
              have HSB : Hid (∀ s ∈ xs, 1 ≤ s ∧ s ≤ 200) := Lib.hid (fun s hs => ⟨hsg.1 s hs, hsl s hs⟩)
              obtain ⟨S, HS⟩ : ∃ S, Hid (endS ws1 (leadI 1) + 120 = S) := ⟨_, Lib.hid rfl⟩
              have HSUM : Hid (20 * sumI xs = S) := Lib.hid (by rw [← HS.out]; exact hsg.2)
              clear hsg hsl
              go_wp2_with fail
              refine HSP.out.mono ?_
              rintro e w7 ⟨v7, rfl, HR7, HB7⟩
              obtain ⟨A7, c7, rfl, _, _, hl7⟩ := Lst.of_own HR7.out
              obtain ⟨N, HN⟩ : ∃ N, Hid (xs.length = N) := ⟨_, Lib.hid rfl⟩
              rw [HN.out] at hl7 hx62 ⊢
              have HL7 := Lib.hid hl7
              have HBW7 := Lib.hid (HBQ.out.trans (HB7.out.mono HBQ.out.size))
              clear hl7 HR7 HB7 HSP d0 d1 d2 HOq
              go_wp2_with fail
              go_loopw [9, 11] (fun s i wx => ∃ k : Nat, k ≤ N ∧ i = .int .i64 k ∧ s = .int .i64 (sumI (xs.take k)) ∧ Below w7.heap.size w7 wx) (fun _ i _ => N - (intOf i).toNat)
              case atStart => exact ⟨0, by omega, rfl, rfl, Below.refl _ _⟩
              case round =>
                obtain ⟨k, hk, rfl, rfl, hb2⟩ := hrel
                have HB2k := Lib.hid hb2
                have HBW9 := Lib.hid (HBW7.out.trans (hb2.mono HBW7.out.size))
                have HLk := Lib.hid (HL7.out.kept hb2)
                clear hb2
                have hsb := sumI_bd (xs := xs.take k) (fun s hs => HSB.out s (List.mem_of_mem_take hs))
                have hkl : (xs.take k).length ≤ 61 := by rw [List.length_take, HN.out]; omega
                by_cases hlt : k < N
                · have hki : (k : Int) < (N : Int) := by omega
                  have hkx : k < xs.length := by rw [HN.out]; exact hlt
                  obtain ⟨tb, toff, rfl, _, hc⟩ := HLk.out.get hlt
                  rw [List.getElem_map] at hc
                  obtain ⟨s, hs⟩ : ∃ s, xs[k]'hkx = s := ⟨_, rfl⟩
                  rw [hs] at hc
                  have hss : xs[k]? = some s := by rw [List.getElem?_eq_getElem hkx, hs]
                  have HNX := Lib.hid (sumI_next hss)
                  have hs1 := HSB.out s (List.mem_of_getElem? hss)
                  have hl200 : ¬ 200 < s := by omega
                  have hl1 : ¬ s < 1 := by omega
                  obtain ⟨T, hT⟩ : ∃ T, sumI (xs.take k) = T := ⟨_, rfl⟩
                  rw [hT] at hsb HNX ⊢
                  have e1 : IntKind.i64.wrap (T + s) = T + s := IntWalk.i64_in _ (by omega)
                  clear hs hkx hss hT hs1 hsb hkl
                  go_wp2
                  go_roundw
                  case rel => exact ⟨k + 1, by omega, by go_num, by rw [HNX.out], HB2k.out⟩
                  case measure => simp [intOf]; omega
                · have hke : N = k := by omega
                  subst hke
                  have HE : Hid (xs.take N = xs) := Lib.hid (List.take_of_length_le (by rw [HN.out]; exact Nat.le_refl _))
                  rw [HE.out] at hsb ⊢
                  have hxl := HN.out
                  obtain ⟨T, hT⟩ : ∃ T, sumI xs = T := ⟨_, rfl⟩
                  have hST : S = 20 * T := by rw [← hT]; exact HSUM.out.symm
                  rw [hT] at hsb ⊢
                  have e1 : IntKind.i64.wrap (20 * T) = 20 * T := IntWalk.i64_in _ (by omega)
                  have HFRM : Hid (∀ W, Below W1.heap.size W1 W → Calls Try.prog 11 #[.agg (#[.int .i64 md, .slice A0 n0 c0, .slice A1 n1 c1]), .int .i64 1] W fun e w' => e = .returned (.int .i64 (20 * T)) ∧ Below W.heap.size W w') := Lib.hid (fun W hW => by
                    have h := frame_any md A0 n0 c0 A1 n1 c1 A1 n1 c1 1 ws1 W (by first | exact .inl ⟨rfl, rfl, rfl, rfl⟩ | exact .inr ⟨rfl, rfl, rfl, rfl⟩) (HWW.out W hW).2 (by omega)
                    rw [HS.out, hST] at h
                    exact h)
                  have HO9 := Lib.hid (HOB.out.kept HBW9.out)
                  have d0 := HO9.out.cell 0
                  have d1 := HO9.out.cell 1
                  have d2 := HO9.out.cell 2
                  simp at d0 d1 d2
                  clear hsb hkl hxl hT hST
                  go_wp2_with fail
                  refine (HFRM.out _ HBW9.out).mono ?_
                  rintro e wf ⟨rfl, hbf⟩
                  have HBF := Lib.hid (HBW9.out.trans (hbf.mono HBW9.out.size))
                  clear d0 d1 d2 hbf
                  go_wp2
                  go_roundw
                  case rel => exact ⟨1 + 1, by omega, by go_num, HBF.out⟩
                  case measure => simp [intOf]

    · as_aux_lemma =>
      have hcb : (cc != 0) = true := by simpa using hcc
      have hce : (cc == 0) = false := by simpa using hcc
      clear hcc
      go_wp2_with fail
      refine (one8_any _).mono ?_
      rintro e w4 ⟨rfl, hb4⟩
      have HB4 := Lib.hid (HB3.out.trans (hb4.mono HB3.out.size))
      clear hb4
      go_wp2
      go_ret
      exact ⟨rfl, HB1.out.trans (HB4.out.mono HB1.out.size)⟩
theorem walk (cs : Array Value) (w : World) (hr : Reads w shS cs.toList) :
    Calls Try.prog 8 #[.agg cs] w fun e w' => e = .returned (.bool true) ∧ Below w.heap.size w w' := by
  obtain ⟨md, A0, n0, c0, A1, n1, c1, ws0, ws1, rfl, hW0, hW1, h0, h1⟩ := sched_in hr
  exact walk_yes md A0 n0 c0 A1 n1 c1 ws0 ws1 w (sched_md hr).2 hW0 hW1 h0 h1

set_option maxRecDepth 100000 in
theorem lifted (os : Os) (started : os.Started) (H : Type) (enc : TypeId × Value → H) :
    ReturnsInHanded {} Try.checked os 8 .any (Rows.validApartSpec.pre6 enc Try.prog Try.f8 Rows.validApartRow.domain false) (Rows.validApartSpec.post enc Try.prog Try.f8 false true false false) := by
  refine returnsInHanded_of_change (C := Try.checked) own started (by kernel_rfl) Try.func8
    (ChangeSpec.witness6 (enc := enc) (C := Try.checked) false ⟨#[], #[.agg #[.int .i64 0, .slice none 0 0, .slice none 0 0]], []⟩ 8 (by kernel_rfl) (by kernel_rfl) (by kernel_rfl) (by kernel_rfl)) ?_
  intro W base args ds gs before hval0 hW hcnd _
  have hval : ∀ (j : Nat) t v, Try.f8.params[j]? = some t → args[j]? = some v → Value.okWide Try.prog W .any base t v := hval0
  have hW' := hW
  obtain ⟨p, q, hA0, hV, rfl, hfz, hnd⟩ := hW
  have hA : DataW.TrodAll enc Try.prog W 0 (fun _ => true) true Try.f8.params.toList args.toList ds p := hA0
  rw [Try.params8] at hA hval
  obtain ⟨v0, vs0, d0, ds0, p0, q0, hargs, rfl, rfl, h0, r0⟩ := trodAll_cons hA
  obtain ⟨rfl, rfl, rfl⟩ := trodAll_nil r0
  obtain rfl : args = #[v0] := by cases args; simp_all
  obtain ⟨rfl, rfl⟩ := trodVars_none hV
  have k0 := h0
  have lt0 : ∀ x ∈ p0, x.block < W.heap.size := by obtain ⟨m, hm⟩ := k0; exact DataW.trod_lt m _ _ _ hm
  obtain ⟨s, rfl⟩ := okWide_agg (by first | exact .inl ⟨_, Try.underlying25⟩ | exact .inr ⟨_, _, Try.underlying25⟩) (hval 0 25 v0 rfl rfl)
  have rd0 := reads_cells (sh := shS) 30 (by kernel_rfl) k0
  clear hA0 hval0
  refine (walk s W rd0).mono fun e W' ⟨he, bel⟩ => ?_
  subst he
  exact ⟨_, rfl, _, _, _, [], _, [], hW', trodAll_mk1 (shut_bool Try.underlying4 _), (trodAll_cons_mk (Below.trod laidOut (by kernel_rfl) (of_decide_eq_true (by kernel_rfl)) k0 bel lt0) trodAll_mk0), rfl, bel.frame _, fun h => by cases h⟩

theorem over : Rows.validApartRow.holds Try.pinned (OpenSpec.ofChange Rows.validApartSpec) :=
  OpenClaim.holds_of_wide 8 Try.f8 rfl rfl rfl rfl rfl rfl rfl ⟨rfl, rfl, rfl, rfl, rfl⟩ rfl rfl rfl rfl rfl (by kernel_rfl) Try.func8 (by kernel_rfl)
    (of_decide_eq_true (by kernel_rfl)) (by unfold Func.isWrapper; first | (rw [if_pos (by decide +kernel)]; kernel_rfl) | (rw [if_neg (by decide +kernel)]; exact ⟨rfl, rfl⟩))
    (fun os started H enc _ => lifted os started H enc)

/-- The statement. -/
theorem proved : Rows.ValidApartSaid := over
end Go.Proofs.Ytkdmcnkahiimoaa.lawValidApart
