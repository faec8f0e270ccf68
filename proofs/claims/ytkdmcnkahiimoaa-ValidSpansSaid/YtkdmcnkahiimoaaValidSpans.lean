/- The bits from pulse to pulse of any frame are the document's: for every list of windows and version; no condition. -/
import Derived.RegionTactic
import Derived.IntWalk
import Derived.Deep.DeepCutAuto
import Derived.Deep.CutBlock
import Derived.Test.YtkdmcnkahiimoaaPlnI
import Derived.Test.YtkdmcnkahiimoaaPlnJ
import Derived.Test.YtkdmcnkahiimoaaVldD
import Derived.Test.YtkdmcnkahiimoaaRows
import Derived.WalkKit
import Derived.ProofKit
import Derived.OpenShut
import Derived.ShutString
import Derived.ChangeOld
import Derived.Below
namespace Go.Proofs.Ytkdmcnkahiimoaa.lawValidSpans
open Go.ChangeShapes Go.WideShapes Go.ChangeAt Go.RowKit Base
open Go.ChangeMaps (open_string shut_string)
set_option linter.unusedVariables false
set_option linter.unusedSimpArgs false
theorem own : ownKnob Try.prog.godebug = none := by kernel_rfl
theorem laidOut : laidOutB Try.prog = true := by kernel_rfl
open Ly7

theorem spans_no (A : Option Addr) (n c : Nat) (ver : Int) (hv : ver < 0 ∨ 1 < ver) (w : World) :
    Calls Try.prog 26 #[.slice A n c, .int .i64 ver] w fun e w' => e = .returned (.slice none 0 0) ∧ Below w.heap.size w w' := by
  rcases hv with h | h
  · go_enter Try.func26, Try.ntmps26
    go_wp2
    go_ret
    exact ⟨rfl, Below.refl _ _⟩
  · have h' : ¬ ver < 0 := by omega
    go_enter Try.func26, Try.ntmps26
    go_wp2
    go_ret
    exact ⟨rfl, Below.refl _ _⟩
set_option maxRecDepth 100000 in
set_option maxHeartbeats 1000000 in
theorem walk_no (A : Option Addr) (n c : Nat) (ws : List Wd) (ver : Int) (w : World) (hv : ver < 0 ∨ 1 < ver) (hW : WinsAt w A n ws) (h0 : n ≤ 9223372036854775807) :
    Calls Try.prog 7 #[.slice A n c, .int .i64 ver] w fun e w' => e = .returned (.bool true) ∧ Below w.heap.size w w' := by
  have HF := Lib.hid (few_any 0 A n c none 0 0 ws [] w hW (wins_nil w) h0 (by omega))
  have HSP := Lib.hid (fun W => spans_no A n c ver hv W)
  clear hW h0
  go_enter Try.func7, Try.ntmps7
  go_wp2_with fail
  refine HF.out.mono ?_
  rintro e w2 ⟨r, rfl, hr, hb2⟩
  have HB2 := Lib.hid hb2
  clear hb2 HF
  rcases hr with rfl | ⟨rfl, _, _⟩
  · go_wp2
    go_ret
    exact ⟨rfl, HB2.out⟩
  · go_wp2_with fail
    refine (HSP.out _).mono ?_
    rintro e w3 ⟨rfl, hb3⟩
    have HB3 := Lib.hid (HB2.out.trans (hb3.mono HB2.out.size))
    clear hb3
    rcases hv with h | h
    · go_wp2_with fail
      refine (one8_any _).mono ?_
      rintro e w4 ⟨rfl, hb4⟩
      have HB4 := Lib.hid (HB3.out.trans (hb4.mono HB3.out.size))
      clear hb4
      go_wp2
      go_ret
      exact ⟨rfl, HB4.out⟩
    · have h' : ¬ ver < 0 := by omega
      go_wp2_with fail
      refine (one8_any _).mono ?_
      rintro e w4 ⟨rfl, hb4⟩
      have HB4 := Lib.hid (HB3.out.trans (hb4.mono HB3.out.size))
      clear hb4
      go_wp2
      go_ret
      exact ⟨rfl, HB4.out⟩
set_option maxRecDepth 100000 in
set_option maxHeartbeats 1000000 in
theorem walk_yes (A : Option Addr) (n c : Nat) (ws : List Wd) (ver : Nat) (w : World) (hv : ver < 2) (hW : WinsAt w A n ws) (h0 : n ≤ 9223372036854775807) :
    Calls Try.prog 7 #[.slice A n c, .int .i64 (ver : Int)] w fun e w' => e = .returned (.bool true) ∧ Below w.heap.size w w' := by
  have HF := Lib.hid (few_any 0 A n c none 0 0 ws [] w hW (wins_nil w) h0 (by omega))
  have HW := Lib.hid hW
  have v1i : ¬ ((1 : Int) < (ver : Int)) := by omega
  clear hW h0
  go_enter Try.func7, Try.ntmps7
  go_wp2_with fail
  refine HF.out.mono ?_
  rintro e w2 ⟨r, rfl, hr, hb2⟩
  have HB2 := Lib.hid hb2
  clear hb2 HF
  rcases hr with rfl | ⟨rfl, hfw, _⟩
  · go_wp2
    go_ret
    exact ⟨rfl, HB2.out⟩
  · have hn60 : n ≤ 60 := hfw.1
    clear hfw
    have HSP := Lib.hid (spans_any A n c ver ws w2 hv (HW.out.kept HB2.out) (by omega))
    have HW2 := Lib.hid (HW.out.kept HB2.out)
    go_wp2_with fail
    refine HSP.out.mono ?_
    rintro e w3 ⟨v3, rfl, HR3, HB23⟩
    have HB3 := Lib.hid (HB2.out.trans (HB23.out.mono HB2.out.size))
    obtain ⟨xs, HXS⟩ : ∃ xs, Hid (spanF ver ws = xs) := ⟨_, Lib.hid rfl⟩
    have hx62 : xs.length ≤ 61 := by
      rw [← HXS.out]
      unfold spanF
      have h1 := (PS_all ver ws ws.length).1
      have h2 := HW.out.len
      rw [List.length_append, List.length_singleton]
      omega
    rw [HXS.out] at HR3
    obtain ⟨A3, c3, rfl, _, _, hl3⟩ := Lst.of_own HR3.out
    have HL3 := Lib.hid hl3
    have HOW := Lib.hid (own_any A n c ws w3 (HW.out.kept HB3.out) (by omega))
    clear hl3 HR3 HSP HB23
    go_wp2_with fail
    refine HOW.out.mono ?_
    rintro e w4 ⟨B4, d4, rfl, HW4, HB34⟩
    have HB4 := Lib.hid (HB3.out.trans (HB34.out.mono HB3.out.size))
    have HL4 := Lib.hid (HL3.out.kept HB34.out)
    have HRS := Lib.hid (rspans_any B4 n d4 ver ws w4 hv HW4.out (by omega))
    clear HL3 HOW HB34
    go_wp2_with fail
    refine HRS.out.mono ?_
    rintro e w5 ⟨v5, rfl, HR5, HB45⟩
    have HB5 := Lib.hid (HB4.out.trans (HB45.out.mono HB4.out.size))
    have HL5 := Lib.hid (HL4.out.kept HB45.out)
    rw [HXS.out] at HR5
    obtain ⟨A5, c5, rfl, _, _, hm5⟩ := Lst.of_own HR5.out
    have HM5 := Lib.hid hm5
    obtain ⟨N, HN⟩ : ∃ N, Hid (xs.length = N) := ⟨_, Lib.hid rfl⟩
    rw [HN.out] at HL5 HM5 hx62 ⊢
    clear hm5 HR5 HB45 HRS HL4
    go_wp2_with fail
    go_loopw [7] (fun i wx => ∃ k : Nat, k ≤ N ∧ i = .int .i64 k ∧ Below w5.heap.size w5 wx) (fun i _ => N - (intOf i).toNat)
    case atStart => exact ⟨0, by omega, rfl, Below.refl _ _⟩
    case round =>
      obtain ⟨k, hk, rfl, hbk⟩ := hrel
      have HBK := Lib.hid (HB5.out.trans (hbk.mono HB5.out.size))
      have HBN := Lib.hid hbk
      by_cases hlt : k < N
      · have hki : (k : Int) < (N : Int) := by omega
        have hkx : k < xs.length := by rw [HN.out]; exact hlt
        obtain ⟨tb, toff, rfl, htb, hc⟩ := (HL5.out.kept hbk).get hlt
        obtain ⟨ub, uoff, rfl, hub, hd⟩ := (HM5.out.kept hbk).get hlt
        rw [List.getElem_map] at hc hd
        obtain ⟨s, hs⟩ : ∃ s, xs[k]'hkx = s := ⟨_, rfl⟩
        rw [hs] at hc hd
        have K0 : ∀ z : Kin wr.drew, z.world.cell? ⟨tb, toff + k, none⟩ = some (.int .i64 s) := fun z => Kin.at (w := wr.drew) hc z
        have K1 : ∀ z : Kin wr.drew, z.world.cell? ⟨ub, uoff + k, none⟩ = some (.int .i64 s) := fun z => Kin.at (w := wr.drew) hd z
        clear hs hkx hbk hc hd htb hub
        go_upto_region 12 with (fail)
        refine wp_region_specL 9 [.d (.slice (some ⟨tb, toff, none⟩) N c3), .d (.int .i64 k), .d (.pointer (some ⟨tb, toff + k, none⟩)), .d (.int .i64 s), .d (.slice (some ⟨ub, uoff, none⟩) N c5), .d (.int .i64 k), .d (.pointer (some ⟨ub, uoff + k, none⟩)), .d (.int .i64 s), .d (.bool false)] (by kernel_rfl) (by kernel_rfl) ?_
        refine spec_d rfl (fun x _ => gives_run (by go_simp)) ?_
        try simp only [Act.put, List.getElem_toArray, List.getElem_cons_succ, List.getElem_cons_zero, List.setIfInBounds_toArray, List.set_cons_zero, List.set_cons_succ]
        refine spec_d rfl (fun x _ => gives_run (by go_simp)) ?_
        try simp only [Act.put, List.getElem_toArray, List.getElem_cons_succ, List.getElem_cons_zero, List.setIfInBounds_toArray, List.set_cons_zero, List.set_cons_succ]
        refine spec_d rfl (fun x _ => gives_run (by go_simp)) ?_
        try simp only [Act.put, List.getElem_toArray, List.getElem_cons_succ, List.getElem_cons_zero, List.setIfInBounds_toArray, List.set_cons_zero, List.set_cons_succ]
        refine spec_d rfl (fun x _ => gives_run (by go_simp)) ?_
        try simp only [Act.put, List.getElem_toArray, List.getElem_cons_succ, List.getElem_cons_zero, List.setIfInBounds_toArray, List.set_cons_zero, List.set_cons_succ]
        refine spec_d rfl (fun x _ => gives_run (by go_simp)) ?_
        try simp only [Act.put, List.getElem_toArray, List.getElem_cons_succ, List.getElem_cons_zero, List.setIfInBounds_toArray, List.set_cons_zero, List.set_cons_succ]
        refine spec_d rfl (fun x _ => gives_run (by go_simp)) ?_
        try simp only [Act.put, List.getElem_toArray, List.getElem_cons_succ, List.getElem_cons_zero, List.setIfInBounds_toArray, List.set_cons_zero, List.set_cons_succ]
        refine spec_d rfl (fun x _ => gives_run (by go_simp)) ?_
        try simp only [Act.put, List.getElem_toArray, List.getElem_cons_succ, List.getElem_cons_zero, List.setIfInBounds_toArray, List.set_cons_zero, List.set_cons_succ]
        refine spec_d rfl (fun x _ => gives_run (by go_simp)) ?_
        try simp only [Act.put, List.getElem_toArray, List.getElem_cons_succ, List.getElem_cons_zero, List.setIfInBounds_toArray, List.set_cons_zero, List.set_cons_succ]
        refine spec_d rfl (fun x _ => gives_run (by go_simp)) ?_
        try simp only [Act.put, List.getElem_toArray, List.getElem_cons_succ, List.getElem_cons_zero, List.setIfInBounds_toArray, List.set_cons_zero, List.set_cons_succ]
        refine spec_end (fun z hz => ?_)
        clear hz
        refine wpAny_done (by kernel_rfl) ?_ _
        have HBZ := Lib.hid (HBN.out.trans (((bel_drew wr).trans z.below).mono HBN.out.size))
        clear K0 K1
        generalize z.world = wz at HBZ ⊢
        clear z
        go_wp2
        go_roundw
        case rel => exact ⟨k + 1, by omega, by go_num, HBZ.out⟩
        case measure => simp [intOf]; omega
      · have hke : N = k := by omega
        subst hke
        clear hbk
        go_wp2_with fail
        refine (one8_any _).mono ?_
        rintro e w6 ⟨rfl, hb6⟩
        have HB6 := Lib.hid (HBK.out.trans (hb6.mono HBK.out.size))
        clear hb6
        go_wp2
        go_ret
        exact ⟨rfl, HB6.out⟩
theorem walk (A : Option Addr) (n c : Nat) (rows : List (List Value)) (ver : Int) (w : World) (hg : Grid w A n (Sh.size shW) rows) (hr : ∀ r ∈ rows, Reads w shW r) (hnc : n ≤ c) (hcm : c ≤ maxLen) (t0 : -9223372036854775808 ≤ ver) (t1 : ver ≤ 9223372036854775807) :
    Calls Try.prog 7 #[.slice A n c, .int .i64 ver] w fun e w' => e = .returned (.bool true) ∧ Below w.heap.size w w' := by
  unfold maxLen at hcm
  obtain ⟨ws, hW⟩ := wins_in hg hr
  rcases (show ver < 0 ∨ 1 < ver ∨ ver = 0 ∨ ver = 1 by omega) with h | h | rfl | rfl
  · exact walk_no A n c ws ver w (.inl h) hW (by omega)
  · exact walk_no A n c ws ver w (.inr h) hW (by omega)
  · exact walk_yes A n c ws 0 w (by omega) hW (by omega)
  · exact walk_yes A n c ws 1 w (by omega) hW (by omega)

set_option maxRecDepth 100000 in
theorem lifted (os : Os) (started : os.Started) (H : Type) (enc : TypeId × Value → H) :
    ReturnsInHanded {} Try.checked os 7 .any (Rows.validSpansSpec.pre6 enc Try.prog Try.f7 Rows.validSpansRow.domain false) (Rows.validSpansSpec.post enc Try.prog Try.f7 false true false false) := by
  refine returnsInHanded_of_change (C := Try.checked) own started (by kernel_rfl) Try.func7
    (ChangeSpec.witness6 (enc := enc) (C := Try.checked) false ⟨#[], #[.slice none 0 0, .int .i64 0], []⟩ 8 (by kernel_rfl) (by kernel_rfl) (by kernel_rfl) (by kernel_rfl)) ?_
  intro W base args ds gs before hval0 hW hcnd _
  have hval : ∀ (j : Nat) t v, Try.f7.params[j]? = some t → args[j]? = some v → Value.okWide Try.prog W .any base t v := hval0
  have hW' := hW
  obtain ⟨p, q, hA0, hV, rfl, hfz, hnd⟩ := hW
  have hA : DataW.TrodAll enc Try.prog W 0 (fun _ => true) true Try.f7.params.toList args.toList ds p := hA0
  rw [Try.params7] at hA hval
  obtain ⟨v0, vs0, d0, ds0, p0, q0, hargs, rfl, rfl, h0, r0⟩ := trodAll_cons hA
  obtain ⟨v1, vs1, d1, ds1, p1, q1, rfl, rfl, rfl, h1, r1⟩ := trodAll_cons r0
  obtain ⟨rfl, rfl, rfl⟩ := trodAll_nil r1
  obtain rfl : args = #[v0, v1] := by cases args; simp_all
  obtain ⟨rfl, rfl⟩ := trodVars_none hV
  have k0 := h0
  have lt0 : ∀ x ∈ p0, x.block < W.heap.size := by obtain ⟨m, hm⟩ := k0; exact DataW.trod_lt m _ _ _ hm
  obtain ⟨lA, ln, lc, rfl⟩ := okWide_slice Try.underlying22 (hval 0 22 v0 rfl rfl)
  obtain ⟨l, g0, rd0, cb0, cc0⟩ := reads_slice (e := shW) 30 (by kernel_rfl) k0
  obtain ⟨version, rfl, rfl, rfl, wf1⟩ := open_int Try.underlying3 (hval 1 3 v1 rfl rfl) h1
  have bd1 := bounds_i64 wf1
  clear hA0 hval0
  refine (walk lA ln lc l version W g0 rd0 cb0 cc0 bd1.1 bd1.2).mono fun e W' ⟨he, bel⟩ => ?_
  subst he
  exact ⟨_, rfl, _, _, _, [], _, [], hW', trodAll_mk1 (shut_bool Try.underlying4 _), (trodAll_cons_mk (Below.trod laidOut (by kernel_rfl) (of_decide_eq_true (by kernel_rfl)) k0 bel lt0) (trodAll_cons_mk (shut_int Try.underlying3 wf1) trodAll_mk0)), rfl, bel.frame _, fun h => by cases h⟩

theorem over : Rows.validSpansRow.holds Try.pinned (OpenSpec.ofChange Rows.validSpansSpec) :=
  OpenClaim.holds_of_wide 7 Try.f7 rfl rfl rfl rfl rfl rfl rfl ⟨rfl, rfl, rfl, rfl, rfl⟩ rfl rfl rfl rfl rfl (by kernel_rfl) Try.func7 (by kernel_rfl)
    (of_decide_eq_true (by kernel_rfl)) (by unfold Func.isWrapper; first | (rw [if_pos (by decide +kernel)]; kernel_rfl) | (rw [if_neg (by decide +kernel)]; exact ⟨rfl, rfl⟩))
    (fun os started H enc _ => lifted os started H enc)

/-- The statement. -/
theorem proved : Rows.ValidSpansSaid := over
end Go.Proofs.Ytkdmcnkahiimoaa.lawValidSpans
