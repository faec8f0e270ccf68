/- The bits from pulse to pulse: as numbers, and the contract of the document's Spans. -/
import Derived.Test.YtkankdecbefenaaPlnJ
import Derived.Test.YtkankdecbefenaaPlnI
namespace Go.Proofs.Ytkankdecbefenaa.Ly7
open Go.ChangeShapes Go.WideShapes Go.ChangeAt Go.RowKit Base
set_option linter.unusedVariables false
set_option linter.unusedSimpArgs false

theorem info_int : (Try.prog.info? 3).map (fun i => (i.zero, i.size, i.bytes)) = some (some (.int .i64 0), 1, 8) := by kernel_rfl
/-- The spans so far, the first pulse and the last one, as the slots come. -/
def spStep (st : List Int × Int × Int) (x : Sl) : List Int × Int × Int :=
  if x.k = 3 then (st.1, (x.s + 60) / 20, (x.s + 60) / 20) else if x.k = 2 then (st.1 ++ [(x.s + 40) / 20 - st.2.2], st.2.1, (x.s + 40) / 20) else st
def spL (L : List Sl) : List Int × Int × Int := L.foldl spStep ([], 0, 0)
theorem spL_snoc (L : List Sl) (x : Sl) : spL (L ++ [x]) = spStep (spL L) x := by unfold spL; rw [List.foldl_append]; rfl
def PS (ver : Nat) (ws : List Wd) (j : Nat) : List Int × Int × Int := spL (slHead ver :: midL (-1) (ws.take j) (leadI ver))
theorem PS_zero (ver : Nat) (ws : List Wd) : PS ver ws 0 = ([], 3, 3) := by
  unfold PS
  simp only [List.take_zero, midL]
  rfl
theorem PS_two {ver : Nat} {ws : List Wd} {j : Nat} {x : Wd} (hx : ws[j]? = some x) (h : x.k = 2) : PS ver ws (j + 1) = ((PS ver ws j).1 ++ [(endS (ws.take j) (leadI ver) + 40) / 20 - (PS ver ws j).2.2], (PS ver ws j).2.1, (endS (ws.take j) (leadI ver) + 40) / 20) := by
  unfold PS
  rw [midL_next hx, show x.sl (-1) (endS (ws.take j) (leadI ver)) = [⟨2, endS (ws.take j) (leadI ver), x.tk, 0, 0, 0, -1, false⟩] by unfold Wd.sl; rw [if_neg (by omega), if_pos (by omega), h], spL_snoc]
  unfold spStep
  rw [if_neg (by simp), if_pos rfl]
theorem PS_not {ver : Nat} {ws : List Wd} {j : Nat} {x : Wd} (hx : ws[j]? = some x) (h : x.k ≠ 2) : PS ver ws (j + 1) = PS ver ws j := by
  unfold PS
  rw [midL_next hx]
  unfold Wd.sl
  split
  · rw [spL_snoc]
    unfold spStep
    rw [if_neg (by simp), if_neg (by simp)]
  · split
    · rw [spL_snoc]
      unfold spStep
      rw [if_neg (by simp; omega), if_neg (by simp; omega)]
    · rw [List.append_nil]
theorem PS_past {ver : Nat} {ws : List Wd} {j : Nat} (hx : ws[j]? = none) : PS ver ws (j + 1) = PS ver ws j := by
  unfold PS
  have h := List.getElem?_eq_none_iff.1 hx
  rw [List.take_of_length_le (by omega), List.take_of_length_le h]
theorem PS_all (ver : Nat) (ws : List Wd) : ∀ j, (PS ver ws j).1.length ≤ j ∧ (PS ver ws j).2.1 = 3 ∧ 0 ≤ (PS ver ws j).2.2 ∧ (PS ver ws j).2.2 ≤ 20 + leadI ver + 1000 * (j : Int) := by
  have hl0 : 0 ≤ leadI ver := by unfold leadI; omega
  intro j
  induction j with
  | zero => rw [PS_zero]; simp; omega
  | succ j ih =>
    cases hx : ws[j]? with
    | none => rw [PS_past hx]; omega
    | some x =>
      by_cases h : x.k = 2
      · rw [PS_two hx h]
        have hb := endS_bd (ws.take j) (leadI ver)
        have hl : (ws.take j).length ≤ j := by rw [List.length_take]; omega
        have hlead : 0 ≤ leadI ver := by unfold leadI; omega
        refine ⟨by simp; omega, ih.2.1, ?_, ?_⟩
        · show 0 ≤ (endS (ws.take j) (leadI ver) + 40) / 20
          omega
        · show (endS (ws.take j) (leadI ver) + 40) / 20 ≤ 20 + leadI ver + 1000 * ((j + 1 : Nat) : Int)
          omega
      · rw [PS_not hx h]; omega
/-- The bits from pulse to pulse of a frame. -/
def spanF (ver : Nat) (ws : List Wd) : List Int := (PS ver ws ws.length).1 ++ [endS ws (leadI ver) / 20 + 6 + 3 - (PS ver ws ws.length).2.2]
abbrev inV (l : List Int) : List Value := l.map (Value.int .i64)
/-- What the document's Spans has so far. -/
def VR (w : World) (n ver : Nat) (ws : List Wd) (a l o i : Value) (wx : World) : Prop :=
  ∃ j : Nat, j ≤ n ∧ i = .int .i64 j ∧ a = .int .i64 (endS (ws.take j) (leadI ver) / 20) ∧ l = .int .i64 (PS ver ws j).2.2 ∧ wx.ownsRow w.heap.size 3 1 o (PS ver ws j).1.length (inV (PS ver ws j).1) ∧ Below w.heap.size w wx
theorem VR_two {w : World} {n ver : Nat} {ws : List Wd} {j : Nat} {x : Wd} (hj : j < n) (hx : ws[j]? = some x) (h : x.k = 2) {S G la : Int} {nq : Nat} {xs : List Int} (hS : endS (ws.take j) (leadI ver) / 20 = S) (hG : 20 * G = x.tk) (hp : PS ver ws j = (xs, 3, la)) (hn : xs.length = nq) {o : Value} {wx : World} (ho : wx.ownsRow w.heap.size 3 1 o (nq + 1) (inV xs ++ [.int .i64 (S + 2 - la)])) (hb : Below w.heap.size w wx) :
    VR w n ver ws (.int .i64 (S + G)) (.int .i64 (S + 2)) o (.int .i64 ((j + 1 : Nat) : Int)) wx := by
  refine ⟨j + 1, by omega, rfl, ?_, ?_, ?_, hb⟩
  · rw [endS_next hx]
    congr 1
    omega
  · rw [PS_two hx h]
    congr 1
    show S + 2 = (endS (ws.take j) (leadI ver) + 40) / 20
    omega
  · rw [PS_two hx h, hp, show (endS (ws.take j) (leadI ver) + 40) / 20 = S + 2 by omega]
    simpa [inV, hn] using ho
theorem VR_not {w : World} {n ver : Nat} {ws : List Wd} {j : Nat} {x : Wd} (hj : j < n) (hx : ws[j]? = some x) (h : x.k ≠ 2) {S G la : Int} {nq : Nat} {xs : List Int} (hS : endS (ws.take j) (leadI ver) / 20 = S) (hG : 20 * G = x.tk) (hp : PS ver ws j = (xs, 3, la)) (hn : xs.length = nq) {o : Value} {wx : World} (ho : wx.ownsRow w.heap.size 3 1 o nq (inV xs)) (hb : Below w.heap.size w wx) :
    VR w n ver ws (.int .i64 (S + G)) (.int .i64 la) o (.int .i64 ((j + 1 : Nat) : Int)) wx := by
  refine ⟨j + 1, by omega, rfl, ?_, ?_, ?_, hb⟩
  · rw [endS_next hx]
    congr 1
    omega
  · rw [PS_not hx h, hp]
  · rw [PS_not hx h, hp, hn]
    exact ho
set_option maxRecDepth 100000 in
set_option maxHeartbeats 1000000 in
theorem rspans_any (A : Option Addr) (n c : Nat) (ver : Nat) (ws : List Wd) (w : World) (hv : ver < 2) (hW : WinsAt w A n ws) (hn : n ≤ 900) :
    Calls Try.prog 17 #[.slice A n c, .int .i64 (ver : Int)] w fun e w' => ∃ v, e = .returned v ∧ Hid (w'.ownsRow w.heap.size 3 1 v (spanF ver ws).length (inV (spanF ver ws))) ∧ Hid (Below w.heap.size w w') := by
  obtain ⟨i0, hi, hz0, hz1, hz2⟩ := info_parts info_int
  have HW := Lib.hid hW
  have e1 : IntKind.i64.wrap (2 * (ver : Int)) = 2 * (ver : Int) := IntWalk.i64_in _ (by omega)
  have e2 : IntKind.i64.wrap (10 + 2 * (ver : Int)) = 10 + 2 * (ver : Int) := IntWalk.i64_in _ (by omega)
  have HL := Lib.hid (show 0 ≤ leadI ver ∧ leadI ver ≤ 240 ∧ leadI ver / 20 = 10 + 2 * (ver : Int) by unfold leadI; omega)
  have HR0 : Hid (VR w n ver ws (.int .i64 (10 + 2 * (ver : Int))) (.int .i64 3) (.slice none 0 0) (.int .i64 0) w) := Lib.hid ⟨0, by omega, rfl, by rw [← HL.out.2.2]; rfl, by rw [PS_zero], by rw [PS_zero]; exact ⟨rfl, .inl ⟨rfl, rfl⟩⟩, Below.refl _ _⟩
  clear hW
  go_enter Try.func17, Try.ntmps17
  go_wp2_with fail
  go_loopw [5, 6, 7, 8] (fun a l o i wx => VR w n ver ws a l o i wx) (fun _ _ _ i _ => n - (intOf i).toNat)
  case atStart => exact HR0.out
  case round =>
    clear HR0 e1 e2
    obtain ⟨j, hj, rfl, rfl, rfl, hown, hbel⟩ := hrel
    have HOWN := Lib.hid hown
    have HBEL := Lib.hid hbel
    have hlk : (ws.take j).length ≤ 900 := by rw [List.length_take]; omega
    have hbd := endS_bd (ws.take j) (leadI ver)
    have hpa := PS_all ver ws j
    obtain ⟨S, HS⟩ : ∃ S, Hid (endS (ws.take j) (leadI ver) / 20 = S) := ⟨_, Lib.hid rfl⟩
    have hS0 : 0 ≤ S ∧ S ≤ 10000000 := by have := HL.out; have := HS.out; omega
    obtain ⟨xs, f3, la, hp⟩ : ∃ xs f3 la, PS ver ws j = (xs, f3, la) := ⟨_, _, _, rfl⟩
    rw [hp] at hpa HOWN
    obtain rfl : f3 = 3 := hpa.2.1
    obtain ⟨nq, HNQ⟩ : ∃ nq, Hid (xs.length = nq) := ⟨_, Lib.hid rfl⟩
    have hla : 0 ≤ la ∧ la ≤ 10000000 := by have h := hpa.2.2; simp at h; have := HL.out; omega
    have hnq : nq ≤ 900 := by have := hpa.1; have := HNQ.out; simp at *; omega
    have HP := Lib.hid hp
    have hown' : wr.ownsRow w.heap.size 3 1 u7 nq (inV xs) := by have := HOWN.out; rwa [show (xs, (3 : Int), la).1.length = nq from HNQ.out] at this
    have HOW := Lib.hid hown'
    rw [HS.out, hp]
    clear hown hown' HOWN hpa hbd hlk hp
    by_cases hlt : j < n
    · have hji : (j : Int) < (n : Int) := by omega
      have hjl : j < ws.length := by rw [HW.out.len]; exact hlt
      obtain ⟨x, hx⟩ : ∃ x, ws[j]? = some x := ⟨_, List.getElem?_eq_getElem hjl⟩
      obtain ⟨b, off, rfl, hb, c0, c1, c2, c3, c4, c5, hok⟩ := HW.out.six hlt hx
      have HX := Lib.hid hx
      have HK : Hid (∀ W, Below w.heap.size w W → W.cell? ⟨b, off + j * 6, none⟩ = some (.int .i64 x.k) ∧ W.cell? ⟨b, off + j * 6 + 1, none⟩ = some (.int .i64 x.b) ∧ W.cell? ⟨b, off + j * 6 + 2, none⟩ = some (.int .i64 x.wd) ∧ W.cell? ⟨b, off + j * 6 + 3, none⟩ = some (.int .i64 x.ad) ∧ W.cell? ⟨b, off + j * 6 + 4, none⟩ = some (.slice x.A x.n x.c) ∧ W.cell? ⟨b, off + j * 6 + 5, none⟩ = some (.slice x.B x.m x.d)) := Lib.hid (fun W hB => ⟨(hB.cell hb).trans c0, (hB.cell hb).trans c1, (hB.cell hb).trans c2, (hB.cell hb).trans c3, (hB.cell hb).trans c4, (hB.cell hb).trans c5⟩)
      have htb := x.tk_bd
      obtain ⟨G, hG⟩ : ∃ G : Int, 20 * G = x.tk := ⟨x.tk / 20, by unfold Wd.tk tkI; split <;> (try split) <;> (try split) <;> omega⟩
      have HG := Lib.hid hG
      have HBT : Hid (∀ W, Calls Try.prog 15 #[.agg #[.int .i64 x.k, .int .i64 x.b, .int .i64 x.wd, .int .i64 x.ad, .slice x.A x.n x.c, .slice x.B x.m x.d]] W fun e w' => e = .returned (.int .i64 G) ∧ Below W.heap.size W w') := Lib.hid (fun W => (rbits_any x.k x.b x.wd x.ad x.A x.n x.c x.B x.m x.d x.g x.u x.q rfl rfl rfl (Nat.le_trans hok.nc hok.cm) x.tk rfl W).mono (fun e w' ⟨G', he, hg, hb⟩ => ⟨by rw [he, show G' = G by omega], hb⟩))
      have hG0 : 0 ≤ G ∧ G ≤ 1000 := by omega
      obtain ⟨k0, k1, k2, k3, k4, k5⟩ := HK.out wr hbel
      have e1 : IntKind.i64.wrap (S + 2) = S + 2 := IntWalk.i64_in _ (by omega)
      have e2 : IntKind.i64.wrap (S + 2 - la) = S + 2 - la := IntWalk.i64_in _ (by omega)
      have e3 : IntKind.i64.wrap (S + G) = S + G := IntWalk.i64_in _ (by omega)
      clear hx c0 c1 c2 c3 c4 c5 hok hG htb hbel hb
      by_cases hk : x.k = 2
      · have HKK := Lib.hid hk
        rw [hk] at k0
        clear hk
        go_upto_region 8 with (at_builtin; refine push1 _ rfl (.tmp 24) (.tmp 29) 38 rfl w.heap.size 3 i0 (.int .i64 0) 8 Try.underlying38 hi hz0 hz1 hz2 rfl _ _ _ rfl HOW.out (.int .i64 (S + 2 - la)) _ rfl rfl (by unfold maxLen; omega) (by omega) HBEL.out.size ?_; intro v2 w2 hown2 hbel2)
        have HO2 := Lib.hid hown2
        have HB2 := Lib.hid (HBEL.out.trans hbel2)
        clear k0 k1 k2 k3 k4 k5 hown2 hbel2 HOW
        obtain ⟨k0, k1, k2, k3, k4, k5⟩ := HK.out w2 HB2.out
        go_wp2_with fail
        refine (HBT.out _).mono ?_
        rintro e w3 ⟨rfl, hb3⟩
        have HO3 := Lib.hid (own_kept HO2.out hb3)
        have HB3 := Lib.hid (HB2.out.trans (hb3.mono HB2.out.size))
        clear k0 k1 k2 k3 k4 k5 hb3 HO2 HB2
        go_wp2
        go_roundw
        case rel => exact VR_two hlt HX.out HKK.out HS.out HG.out HP.out HNQ.out HO3.out HB3.out
        case measure => simp [intOf]; omega
      · have HKK := Lib.hid hk
        have hkb : (x.k == 2) = false := by simpa using hk
        clear hk
        go_wp2_with fail
        refine (HBT.out _).mono ?_
        rintro e w3 ⟨rfl, hb3⟩
        have HO3 := Lib.hid (own_kept HOW.out hb3)
        have HB3 := Lib.hid (HBEL.out.trans (hb3.mono HBEL.out.size))
        clear k0 k1 k2 k3 k4 k5 hb3 HOW
        go_wp2
        go_roundw
        case rel => exact VR_not hlt HX.out HKK.out HS.out HG.out HP.out HNQ.out HO3.out HB3.out
        case measure => simp [intOf]; omega
    · obtain rfl : j = n := by omega
      have HE : Hid (ws.take j = ws) := Lib.hid (List.take_of_length_le (by rw [HW.out.len]; exact Nat.le_refl _))
      have HSP : Hid (spanF ver ws = xs ++ [S + 6 + 3 - la]) := Lib.hid (by
        unfold spanF
        rw [HW.out.len, HP.out, ← HS.out, HE.out])
      have e1 : IntKind.i64.wrap (S + 6) = S + 6 := IntWalk.i64_in _ (by omega)
      have e2 : IntKind.i64.wrap (S + 6 + 3) = S + 6 + 3 := IntWalk.i64_in _ (by omega)
      have e3 : IntKind.i64.wrap (S + 6 + 3 - la) = S + 6 + 3 - la := IntWalk.i64_in _ (by omega)
      clear hbel
      go_wp2_with (at_builtin; refine push1 _ rfl (.tmp 40) (.tmp 46) 38 rfl w.heap.size 3 i0 (.int .i64 0) 8 Try.underlying38 hi hz0 hz1 hz2 rfl _ _ _ rfl HOW.out (.int .i64 (S + 6 + 3 - la)) _ rfl rfl (by unfold maxLen; omega) (by omega) HBEL.out.size ?_; intro v2 w2 hown2 hbel2)
      go_ret
      refine ⟨v2, rfl, Lib.hid ?_, Lib.hid (HBEL.out.trans hbel2)⟩
      rw [HSP.out, List.length_append, HNQ.out]
      simpa [inV] using hown2
end Go.Proofs.Ytkankdecbefenaa.Ly7
