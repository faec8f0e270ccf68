/- The contract of the document's Check, over what its Window says of each window: the same first fault. -/
import Derived.Test.YtkankdecbefenaaVldC
namespace Go.Proofs.Ytkankdecbefenaa.Ly7
open Go.ChangeShapes Go.WideShapes Go.ChangeAt Go.RowKit Base
set_option linter.unusedVariables false
set_option linter.unusedSimpArgs false

def SaysR (f : Wd → Int) (md : Int) (ws : List Wd) : Prop := ∀ x ∈ ws, ∀ W, x.Ok W → Calls Try.prog 19 #[.agg #[.int .i64 x.k, .int .i64 x.b, .int .i64 x.wd, .int .i64 x.ad, .slice x.A x.n x.c, .slice x.B x.m x.d], .int .i64 md] W fun e w' => e = .returned (.int .i64 (f x)) ∧ Below W.heap.size W w'
set_option maxRecDepth 100000 in
set_option maxHeartbeats 1000000 in
theorem rcheck_any (f : Wd → Int) (md : Int) (A0 : Option Addr) (n0 c0 : Nat) (A1 : Option Addr) (n1 c1 : Nat) (ws0 ws1 : List Wd) (w : World) (hW0 : WinsAt w A0 n0 ws0) (hW1 : WinsAt w A1 n1 ws1) (h0 : n0 ≤ 9223372036854775807) (h1 : n1 ≤ 9223372036854775807) (hS0 : SaysR f md ws0) (hS1 : SaysR f md ws1) :
    Calls Try.prog 6 #[.int .i64 md, .agg #[.slice A0 n0 c0, .slice A1 n1 c1]] w fun e w' => ∃ v j c, e = .returned (.tuple #[.int .i64 v, .int .i64 j, .int .i64 c]) ∧ Chk f md ws0 ws1 v j c ∧ Below w.heap.size w w' := by
  obtain ⟨gb, HGB⟩ : ∃ gb, Hid (w.heap.size = gb) := ⟨_, Lib.hid rfl⟩
  have HWW : Hid (∀ W, Below w.heap.size w W → WinsAt W A0 n0 ws0 ∧ WinsAt W A1 n1 ws1) := Lib.hid (fun W hB => ⟨hW0.kept hB, hW1.kept hB⟩)
  have HS0 := Lib.hid hS0
  have HS1 := Lib.hid hS1
  clear hW0 hW1 hS0 hS1
  obtain ⟨W3, HW3⟩ : ∃ W3, W3 = w.alloc (.cells #[.slice A0 n0 c0, .slice A1 n1 c1] 29) := ⟨_, rfl⟩
  have HB3 : Hid (Below w.heap.size w W3) := Lib.hid (by rw [HW3]; exact bel1 _ _)
  have HOB3 : Hid (Obj1 W3 gb 29 #[.slice A0 n0 c0, .slice A1 n1 c1]) := Lib.hid (by rw [HW3, ← HGB.out]; exact Obj1.new _ _ _)
  go_enter Try.func6, Try.ntmps6
  go_upto_region 1 with (fail)
  rw [← HW3, HGB.out]
  clear HW3
  by_cases hmd : 2 ≤ md ∧ md ≤ 16
  · have m1 : ¬ md < 2 := by omega
    have m2 : ¬ 16 < md := by omega
    have HMD := Lib.hid hmd
    clear hmd
    go_upto_region 3 with (fail)
    clear m1 m2
    go_wp2_with fail
    go_loopw [7] (fun i wx => CL f ws0 ws1 W3 i wx) (fun i _ => 2 - (intOf i).toNat)
    case atStart => exact ⟨0, by omega, rfl, fun h => by omega, fun h => by omega, Below.refl _ _⟩
    case round =>
      obtain ⟨v, hv, rfl, hno0, hno1, hbel⟩ := hrel
      have HN0 := Lib.hid hno0
      have HN1 := Lib.hid hno1
      have HBEL := Lib.hid hbel
      have HBW := Lib.hid (HB3.out.trans (hbel.mono HB3.out.size))
      have HOBr := Lib.hid (HOB3.out.kept hbel)
      have d0 := HOBr.out.cell 0
      have d1 := HOBr.out.cell 1
      simp at d0 d1
      clear hno0 hno1 hbel
      rcases (show v = 2 ∨ v = 0 ∨ v = 1 by omega) with rfl | rfl | rfl
      · go_wp2
        refine bodyPost_ret (v := .tuple #[.int .i64 (0), .int .i64 (0), .int .i64 (0)]) (by simp [results, Try.results6, go_sem]) rfl ?_
        exact ⟨_, _, _, rfl, .inr ⟨HMD.out, .inr (.inr ⟨HN0.out (by omega), HN1.out (by omega), rfl, rfl, rfl⟩)⟩, HBW.out⟩
      · have HWN : Hid (∀ W, Below w.heap.size w W → WinsAt W A0 n0 ws0) := Lib.hid (fun W h => (HWW.out W h).1)
        have hlen := (HWN.out wr HBW.out).len
        by_cases hbig : 32 < n0
        · have hbi : (32 : Int) < (n0 : Int) := by omega
          have HBG : Hid (32 < ws0.length) := Lib.hid (by omega)
          clear hlen hbig
          go_wp2
          refine bodyPost_ret (v := .tuple #[.int .i64 (0), .int .i64 (-1), .int .i64 (3)]) (by simp [results, Try.results6, go_sem]) rfl ?_
          exact ⟨_, _, _, rfl, .inr ⟨HMD.out, .inl ⟨.inl ⟨HBG.out, rfl, rfl⟩, rfl⟩⟩, HBW.out⟩
        · have hbi : ¬ (32 : Int) < (n0 : Int) := by omega
          have hn32 : n0 ≤ 32 := by omega
          have HLE : Hid (ws0.length = n0 ∧ ws0.length ≤ 32) := Lib.hid (by omega)
          clear hlen hbig
          go_wp2_with fail
          clear d0 d1
          go_loopw [8] (fun i wx => ∃ k : Nat, k ≤ n0 ∧ i = .int .i64 k ∧ (∀ i, i < k → ∀ y, ws0[i]? = some y → f y = 0) ∧ Below W3.heap.size W3 wx) (fun i _ => n0 - (intOf i).toNat)
          case atStart => exact ⟨0, by omega, rfl, fun i hi => by omega, HBEL.out⟩
          case round =>
            clear HOBr HBW HBEL
            obtain ⟨k, hk, rfl, hnf, hb1⟩ := hrel
            have HNF := Lib.hid hnf
            have HB1 := Lib.hid hb1
            have HBW1 := Lib.hid (HB3.out.trans (hb1.mono HB3.out.size))
            have d0 := (HOB3.out.kept hb1).cell 0
            have d1 := (HOB3.out.kept hb1).cell 1
            simp at d0 d1
            clear hnf hb1
            by_cases hlt : k < n0
            · have hki : (k : Int) < (n0 : Int) := by omega
              have hkl : k < ws0.length := by have := HLE.out.1; omega
              obtain ⟨x, hx⟩ : ∃ x, ws0[k]? = some x := ⟨_, List.getElem?_eq_getElem hkl⟩
              obtain ⟨b, off, rfl, hb, k0, k1, k2, k3, k4, k5, hok⟩ := (HWN.out wr HBW1.out).six hlt hx
              have HX := Lib.hid hx
              have HWIN := Lib.hid (HS0.out x (List.mem_of_getElem? hx) wr hok)
              clear hx hok hkl
              go_wp2_with fail
              refine HWIN.out.mono ?_
              rintro e w6 ⟨rfl, hb6⟩
              have HB7 := Lib.hid (HB1.out.trans (hb6.mono HB1.out.size))
              have HBW7 := Lib.hid (HB3.out.trans (HB7.out.mono HB3.out.size))
              clear k0 k1 k2 k3 k4 k5 hb d0 d1 hb6 HWIN
              obtain ⟨F, HF⟩ : ∃ F, Hid (f x = F) := ⟨_, Lib.hid rfl⟩
              rw [HF.out]
              by_cases hf : F = 0
              · subst hf
                have HNX : Hid (∀ i, i < k + 1 → ∀ y, ws0[i]? = some y → f y = 0) := Lib.hid (fun i hi y hy => by
                  rcases (show i < k ∨ i = k by omega) with h | rfl
                  · exact HNF.out i h y hy
                  · rw [HX.out] at hy
                    cases hy
                    exact HF.out)
                go_wp2
                go_roundw
                case rel => exact ⟨k + 1, by omega, by go_num, HNX.out, HB7.out⟩
                case measure => simp [intOf]; omega
              · have hfb : (F != 0) = true := by simpa using hf
                have hfe : (F == 0) = false := by simpa using hf
                have HNZ : Hid (f x ≠ 0) := Lib.hid (by rw [HF.out]; exact hf)
                clear hf
                go_wp2
                refine bodyPost_ret (v := .tuple #[.int .i64 (0), .int .i64 ((k : Int)), .int .i64 (F)]) (by simp [results, Try.results6, go_sem]) rfl ?_
                exact ⟨_, _, _, rfl, .inr ⟨HMD.out, .inl ⟨.inr (.inl ⟨HLE.out.2, k, x, HX.out, HNF.out, HNZ.out, rfl, HF.out.symm⟩), rfl⟩⟩, HBW7.out⟩
            · have hke : n0 = k := by omega
              subst hke
              have HALL : Hid (∀ (i : Nat) (y : Wd), ws0[i]? = some y → f y = 0) := Lib.hid (fun i y hy => HNF.out i (by have := (List.getElem?_eq_some_iff.1 hy).1; have := HLE.out.1; omega) y hy)
              have HSP : Hid (Calls Try.prog 17 #[.slice A0 n0 c0, .int .i64 0] wr fun e w' => ∃ v, e = .returned v ∧ Hid (w'.ownsRow wr.heap.size 3 1 v (spanF 0 ws0).length (inV (spanF 0 ws0))) ∧ Hid (Below wr.heap.size wr w')) := Lib.hid (rspans_any A0 n0 c0 0 ws0 wr (by omega) (HWN.out wr HBW1.out) (by omega))
              go_wp2_with fail
              refine HSP.out.mono ?_
              rintro e w7 ⟨v7, rfl, HR7, HB7⟩
              obtain ⟨xs, HXS⟩ : ∃ xs, Hid (spanF 0 ws0 = xs) := ⟨_, Lib.hid rfl⟩
              have hx33 : xs.length ≤ 33 := by
                rw [← HXS.out]
                unfold spanF
                have h1 := (PS_all 0 ws0 ws0.length).1
                have h2 := HLE.out.2
                rw [List.length_append, List.length_singleton]
                omega
              rw [HXS.out] at HR7
              obtain ⟨A7, c7, rfl, _, _, hl7⟩ := Lst.of_own HR7.out
              obtain ⟨N, HN⟩ : ∃ N, Hid (xs.length = N) := ⟨_, Lib.hid rfl⟩
              rw [HN.out] at hl7 hx33 ⊢
              have HL7 := Lib.hid hl7
              have HB8 := Lib.hid (HB1.out.trans (HB7.out.mono HB1.out.size))
              clear hl7 HR7 HB7 HSP d0 d1
              go_wp2_with fail
              go_loopw [11] (fun i wx => ∃ k : Nat, k ≤ N ∧ i = .int .i64 k ∧ (∀ t, t < k → ∀ s, xs[t]? = some s → s ≤ 200) ∧ Below w7.heap.size w7 wx) (fun i _ => N - (intOf i).toNat)
              case atStart => exact ⟨0, by omega, rfl, fun i hi => by omega, Below.refl _ _⟩
              case round =>
                obtain ⟨k, hk, rfl, hle, hb2⟩ := hrel
                have HLS := Lib.hid hle
                have HB9 := Lib.hid (HB8.out.trans (hb2.mono HB8.out.size))
                have HBW9 := Lib.hid (HB3.out.trans (HB9.out.mono HB3.out.size))
                have HLk := Lib.hid (HL7.out.kept hb2)
                have HB2k := Lib.hid hb2
                clear hle hb2
                by_cases hlt : k < N
                · have hki : (k : Int) < (N : Int) := by omega
                  have hkx : k < xs.length := by rw [HN.out]; exact hlt
                  obtain ⟨tb, toff, rfl, _, hc⟩ := HLk.out.get hlt
                  rw [List.getElem_map] at hc
                  obtain ⟨s, hs⟩ : ∃ s, xs[k]'hkx = s := ⟨_, rfl⟩
                  rw [hs] at hc
                  have HSS : Hid (xs[k]? = some s) := Lib.hid (by rw [List.getElem?_eq_getElem hkx, hs])
                  clear hs hkx
                  by_cases h200 : 200 < s
                  · have HFA : Hid (∃ s ∈ spanF 0 ws0, 200 < s) := Lib.hid ⟨s, by rw [HXS.out]; exact List.mem_of_getElem? HSS.out, h200⟩
                    go_wp2
                    refine bodyPost_ret (v := .tuple #[.int .i64 (0), .int .i64 (-1), .int .i64 (16)]) (by simp [results, Try.results6, go_sem]) rfl ?_
                    exact ⟨_, _, _, rfl, .inr ⟨HMD.out, .inl ⟨.inr (.inr ⟨HLE.out.2, HALL.out, HFA.out, rfl, rfl⟩), rfl⟩⟩, HBW9.out⟩
                  · have HNX : Hid (∀ t, t < k + 1 → ∀ s, xs[t]? = some s → s ≤ 200) := Lib.hid (fun t ht s' hs' => by
                      rcases (show t < k ∨ t = k by omega) with h | rfl
                      · exact HLS.out t h s' hs'
                      · rw [HSS.out] at hs'
                        cases hs'
                        omega)
                    go_wp2
                    go_roundw
                    case rel => exact ⟨k + 1, by omega, by go_num, HNX.out, HB2k.out⟩
                    case measure => simp [intOf]; omega
                · have hke : N = k := by omega
                  subst hke
                  have HFN : Hid (FrNo f 0 ws0) := Lib.hid ⟨HLE.out.2, HALL.out, fun s hs => by
                    rw [HXS.out] at hs
                    obtain ⟨t, ht⟩ := List.getElem?_of_mem hs
                    exact HLS.out t (by have := (List.getElem?_eq_some_iff.1 ht).1; have := HN.out; omega) s ht⟩
                  go_wp2
                  go_roundw
                  case rel => exact ⟨0 + 1, by omega, by go_num, fun _ => HFN.out, fun h => by omega, HB9.out⟩
                  case measure => simp [intOf]

      · have HWN : Hid (∀ W, Below w.heap.size w W → WinsAt W A1 n1 ws1) := Lib.hid (fun W h => (HWW.out W h).2)
        have hlen := (HWN.out wr HBW.out).len
        by_cases hbig : 32 < n1
        · have hbi : (32 : Int) < (n1 : Int) := by omega
          have HBG : Hid (32 < ws1.length) := Lib.hid (by omega)
          clear hlen hbig
          go_wp2
          refine bodyPost_ret (v := .tuple #[.int .i64 (1), .int .i64 (-1), .int .i64 (3)]) (by simp [results, Try.results6, go_sem]) rfl ?_
          exact ⟨_, _, _, rfl, .inr ⟨HMD.out, .inr (.inl ⟨HN0.out (by omega), .inl ⟨HBG.out, rfl, rfl⟩, rfl⟩)⟩, HBW.out⟩
        · have hbi : ¬ (32 : Int) < (n1 : Int) := by omega
          have hn32 : n1 ≤ 32 := by omega
          have HLE : Hid (ws1.length = n1 ∧ ws1.length ≤ 32) := Lib.hid (by omega)
          clear hlen hbig
          go_wp2_with fail
          clear d0 d1
          go_loopw [8] (fun i wx => ∃ k : Nat, k ≤ n1 ∧ i = .int .i64 k ∧ (∀ i, i < k → ∀ y, ws1[i]? = some y → f y = 0) ∧ Below W3.heap.size W3 wx) (fun i _ => n1 - (intOf i).toNat)
          case atStart => exact ⟨0, by omega, rfl, fun i hi => by omega, HBEL.out⟩
          case round =>
            clear HOBr HBW HBEL
            obtain ⟨k, hk, rfl, hnf, hb1⟩ := hrel
            have HNF := Lib.hid hnf
            have HB1 := Lib.hid hb1
            have HBW1 := Lib.hid (HB3.out.trans (hb1.mono HB3.out.size))
            have d0 := (HOB3.out.kept hb1).cell 0
            have d1 := (HOB3.out.kept hb1).cell 1
            simp at d0 d1
            clear hnf hb1
            by_cases hlt : k < n1
            · have hki : (k : Int) < (n1 : Int) := by omega
              have hkl : k < ws1.length := by have := HLE.out.1; omega
              obtain ⟨x, hx⟩ : ∃ x, ws1[k]? = some x := ⟨_, List.getElem?_eq_getElem hkl⟩
              obtain ⟨b, off, rfl, hb, k0, k1, k2, k3, k4, k5, hok⟩ := (HWN.out wr HBW1.out).six hlt hx
              have HX := Lib.hid hx
              have HWIN := Lib.hid (HS1.out x (List.mem_of_getElem? hx) wr hok)
              clear hx hok hkl
              go_wp2_with fail
              refine HWIN.out.mono ?_
              rintro e w6 ⟨rfl, hb6⟩
              have HB7 := Lib.hid (HB1.out.trans (hb6.mono HB1.out.size))
              have HBW7 := Lib.hid (HB3.out.trans (HB7.out.mono HB3.out.size))
              clear k0 k1 k2 k3 k4 k5 hb d0 d1 hb6 HWIN
              obtain ⟨F, HF⟩ : ∃ F, Hid (f x = F) := ⟨_, Lib.hid rfl⟩
              rw [HF.out]
              by_cases hf : F = 0
              · subst hf
                have HNX : Hid (∀ i, i < k + 1 → ∀ y, ws1[i]? = some y → f y = 0) := Lib.hid (fun i hi y hy => by
                  rcases (show i < k ∨ i = k by omega) with h | rfl
                  · exact HNF.out i h y hy
                  · rw [HX.out] at hy
                    cases hy
                    exact HF.out)
                go_wp2
                go_roundw
                case rel => exact ⟨k + 1, by omega, by go_num, HNX.out, HB7.out⟩
                case measure => simp [intOf]; omega
              · have hfb : (F != 0) = true := by simpa using hf
                have hfe : (F == 0) = false := by simpa using hf
                have HNZ : Hid (f x ≠ 0) := Lib.hid (by rw [HF.out]; exact hf)
                clear hf
                go_wp2
                refine bodyPost_ret (v := .tuple #[.int .i64 (1), .int .i64 ((k : Int)), .int .i64 (F)]) (by simp [results, Try.results6, go_sem]) rfl ?_
                exact ⟨_, _, _, rfl, .inr ⟨HMD.out, .inr (.inl ⟨HN0.out (by omega), .inr (.inl ⟨HLE.out.2, k, x, HX.out, HNF.out, HNZ.out, rfl, HF.out.symm⟩), rfl⟩)⟩, HBW7.out⟩
            · have hke : n1 = k := by omega
              subst hke
              have HALL : Hid (∀ (i : Nat) (y : Wd), ws1[i]? = some y → f y = 0) := Lib.hid (fun i y hy => HNF.out i (by have := (List.getElem?_eq_some_iff.1 hy).1; have := HLE.out.1; omega) y hy)
              have HSP : Hid (Calls Try.prog 17 #[.slice A1 n1 c1, .int .i64 1] wr fun e w' => ∃ v, e = .returned v ∧ Hid (w'.ownsRow wr.heap.size 3 1 v (spanF 1 ws1).length (inV (spanF 1 ws1))) ∧ Hid (Below wr.heap.size wr w')) := Lib.hid (rspans_any A1 n1 c1 1 ws1 wr (by omega) (HWN.out wr HBW1.out) (by omega))
              go_wp2_with fail
              refine HSP.out.mono ?_
              rintro e w7 ⟨v7, rfl, HR7, HB7⟩
              obtain ⟨xs, HXS⟩ : ∃ xs, Hid (spanF 1 ws1 = xs) := ⟨_, Lib.hid rfl⟩
              have hx33 : xs.length ≤ 33 := by
                rw [← HXS.out]
                unfold spanF
                have h1 := (PS_all 1 ws1 ws1.length).1
                have h2 := HLE.out.2
                rw [List.length_append, List.length_singleton]
                omega
              rw [HXS.out] at HR7
              obtain ⟨A7, c7, rfl, _, _, hl7⟩ := Lst.of_own HR7.out
              obtain ⟨N, HN⟩ : ∃ N, Hid (xs.length = N) := ⟨_, Lib.hid rfl⟩
              rw [HN.out] at hl7 hx33 ⊢
              have HL7 := Lib.hid hl7
              have HB8 := Lib.hid (HB1.out.trans (HB7.out.mono HB1.out.size))
              clear hl7 HR7 HB7 HSP d0 d1
              go_wp2_with fail
              go_loopw [11] (fun i wx => ∃ k : Nat, k ≤ N ∧ i = .int .i64 k ∧ (∀ t, t < k → ∀ s, xs[t]? = some s → s ≤ 200) ∧ Below w7.heap.size w7 wx) (fun i _ => N - (intOf i).toNat)
              case atStart => exact ⟨0, by omega, rfl, fun i hi => by omega, Below.refl _ _⟩
              case round =>
                obtain ⟨k, hk, rfl, hle, hb2⟩ := hrel
                have HLS := Lib.hid hle
                have HB9 := Lib.hid (HB8.out.trans (hb2.mono HB8.out.size))
                have HBW9 := Lib.hid (HB3.out.trans (HB9.out.mono HB3.out.size))
                have HLk := Lib.hid (HL7.out.kept hb2)
                have HB2k := Lib.hid hb2
                clear hle hb2
                by_cases hlt : k < N
                · have hki : (k : Int) < (N : Int) := by omega
                  have hkx : k < xs.length := by rw [HN.out]; exact hlt
                  obtain ⟨tb, toff, rfl, _, hc⟩ := HLk.out.get hlt
                  rw [List.getElem_map] at hc
                  obtain ⟨s, hs⟩ : ∃ s, xs[k]'hkx = s := ⟨_, rfl⟩
                  rw [hs] at hc
                  have HSS : Hid (xs[k]? = some s) := Lib.hid (by rw [List.getElem?_eq_getElem hkx, hs])
                  clear hs hkx
                  by_cases h200 : 200 < s
                  · have HFA : Hid (∃ s ∈ spanF 1 ws1, 200 < s) := Lib.hid ⟨s, by rw [HXS.out]; exact List.mem_of_getElem? HSS.out, h200⟩
                    go_wp2
                    refine bodyPost_ret (v := .tuple #[.int .i64 (1), .int .i64 (-1), .int .i64 (16)]) (by simp [results, Try.results6, go_sem]) rfl ?_
                    exact ⟨_, _, _, rfl, .inr ⟨HMD.out, .inr (.inl ⟨HN0.out (by omega), .inr (.inr ⟨HLE.out.2, HALL.out, HFA.out, rfl, rfl⟩), rfl⟩)⟩, HBW9.out⟩
                  · have HNX : Hid (∀ t, t < k + 1 → ∀ s, xs[t]? = some s → s ≤ 200) := Lib.hid (fun t ht s' hs' => by
                      rcases (show t < k ∨ t = k by omega) with h | rfl
                      · exact HLS.out t h s' hs'
                      · rw [HSS.out] at hs'
                        cases hs'
                        omega)
                    go_wp2
                    go_roundw
                    case rel => exact ⟨k + 1, by omega, by go_num, HNX.out, HB2k.out⟩
                    case measure => simp [intOf]; omega
                · have hke : N = k := by omega
                  subst hke
                  have HFN : Hid (FrNo f 1 ws1) := Lib.hid ⟨HLE.out.2, HALL.out, fun s hs => by
                    rw [HXS.out] at hs
                    obtain ⟨t, ht⟩ := List.getElem?_of_mem hs
                    exact HLS.out t (by have := (List.getElem?_eq_some_iff.1 ht).1; have := HN.out; omega) s ht⟩
                  go_wp2
                  go_roundw
                  case rel => exact ⟨1 + 1, by omega, by go_num, fun _ => HN0.out (by omega), fun _ => HFN.out, HB9.out⟩
                  case measure => simp [intOf]

  · have HNM : Hid (md < 2 ∨ 16 < md) := Lib.hid (by omega)
    by_cases hm : md < 2
    · clear hmd
      go_wp2
      refine bodyPost_ret (v := .tuple #[.int .i64 (0), .int .i64 (-1), .int .i64 (2)]) (by simp [results, Try.results6, go_sem]) rfl ?_
      exact ⟨_, _, _, rfl, .inl ⟨HNM.out, rfl, rfl, rfl⟩, HB3.out⟩
    · have hm' : 16 < md := by omega
      clear hmd
      go_wp2
      refine bodyPost_ret (v := .tuple #[.int .i64 (0), .int .i64 (-1), .int .i64 (2)]) (by simp [results, Try.results6, go_sem]) rfl ?_
      exact ⟨_, _, _, rfl, .inl ⟨HNM.out, rfl, rfl, rfl⟩, HB3.out⟩
end Go.Proofs.Ytkankdecbefenaa.Ly7
