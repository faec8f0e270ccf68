/- LayoutTells: Any parts meet, are apart, joined, and leave free what the document says: for every list of parts; no condition. -/
import Derived.RegionTactic
import Derived.IntWalk
import Derived.Deep.DeepCutAuto
import Derived.Deep.CutBlock
import Derived.Test.YtejhjpdcodloaaaLayK
import Derived.Test.YtejhjpdcodloaaaOne42
import Derived.Test.YtejhjpdcodloaaaNilz
import Derived.Test.YtejhjpdcodloaaaArr
import Derived.Test.YtejhjpdcodloaaaRows
import Derived.WalkKit
import Derived.ProofKit
import Derived.OpenShut
import Derived.ShutString
import Derived.ChangeOld
import Derived.Below
namespace Go.Proofs.Ytejhjpdcodloaaa.lawLayoutTells
open Go.ChangeShapes Go.WideShapes Go.ChangeAt Go.RowKit Base
open Go.ChangeMaps (open_string shut_string)
set_option linter.unusedVariables false
set_option linter.unusedSimpArgs false
theorem own : ownKnob Try.prog.godebug = none := by kernel_rfl
theorem laidOut : laidOutB Try.prog = true := by kernel_rfl
open Ly42

theorem gives_row {P : Program} {o : Oper} {a : Act} {w : World} {ty : TypeId} {x : Operand} (ho : o.op = .load ty x) {g : Nat} {T : TypeId} {cs : Array Value} (hx : a.eval x = .pointer (some ⟨g, 0, none⟩)) (hg : Obj1 w g T cs) {d : TypeDesc}
    (hu : P.underlying ty = some d) (hd : (match d with | .struct _ | .array _ _ => true | _ => false) = true) (hi : (P.info? ty).map (·.size) = some cs.size) : gives P o a w (SpE.d (.agg cs)).sp :=
  gives_run (by
    unfold execOp
    simp only [ho, hx, Instr.loadAt, Instr.sureAddr, Sem.run_bind, Sem.run_pure, Result.andThen_ok, run_loadVar_row w g T ty cs _ d hg hu hd hi])
theorem mB_comm (x y : Pt) : mB y x = mB x y := by
  unfold mB
  cases rB x <;> cases rB y <;> simp [Bool.and_comm]
theorem us_nB2 (l : List Pt) : usN (cnt l) 64 = nB (had l) 64 := us_nB l 64
def NwS (l : List Pt) : Sp := fun v w => ∃ B d, v = .slice B l.length d ∧ PtsAt w B l.length l
theorem NwS.stable (l : List Pt) : Stable (NwS l) := fun v a b ⟨B, d, e, h⟩ hb => ⟨B, d, e, h.kept hb⟩
theorem pts_wit (l : List Pt) (w : World) : ∃ g, PtsAt (w.alloc (.cells (ptC l).toArray TPt)) (some ⟨g, 0, none⟩) l.length l := by
  refine ⟨w.heap.size, rfl, fun _ => ⟨w.heap.size, 0, rfl, by simp, fun i x hx j hj => ?_⟩⟩
  have h1 : (w.alloc (.cells (ptC l).toArray TPt)).cell? ⟨w.heap.size, 0 + i * 2 + j, none⟩ = (ptC l).toArray[0 + i * 2 + j]? := by
    have := (Obj1.new w TPt (ptC l).toArray).cell (0 + i * 2 + j)
    exact this
  rw [h1, Nat.zero_add, ← ptC_at l i j x hx hj]
  simp
theorem NwS.ex (l : List Pt) (w : World) : ∃ v, ∃ x : Kin w, NwS l v x.world := by
  obtain ⟨g, h⟩ := pts_wit l w
  exact ⟨_, ⟨_, bel1 _ _⟩, _, 0, rfl, h⟩
theorem eqn_two (w : World) (a b : Int) : (Op.equalIn 10000 TI2 (.agg #[.int .i64 a, .int .i64 b]) (.agg #[.int .i64 a, .int .i64 b])).run Try.prog w = .ok true w := by
  obtain ⟨i, hi, _⟩ := info_parts1 info_in
  rw [show (10000 : Nat) = 9999 + 1 from rfl, run_equalIn_array w 9999 _ _ Try.underlying62 hi, show Try.prog.cellsOf 3 = 1 by kernel_rfl,
    eqItems_arr w 9999 (by kernel_rfl) _ _ (fun i => .int .i64 (if i = 0 then a else b)) (fun i => .int .i64 (if i = 0 then a else b)) (fun i => (if i = 0 then a else b) == (if i = 0 then a else b)) (fun i => run_equalIn_int w 9998 _ .i64 .i64 _ _ Try.underlying3) (List.range 2) (fun i hi => by
      have hi2 := List.mem_range.1 hi
      rcases (show i = 0 ∨ i = 1 by omega) with rfl | rfl
      · exact ⟨rfl, rfl⟩
      · exact ⟨rfl, rfl⟩)]
  simp [List.range_succ]
theorem ovJ_none (l : List Pt) (i : Nat) : ovJ l i [] = [] := rfl
theorem range_at {n k : Nat} (h : k < n) : (List.range n)[k]? = some k := by simp [h]

set_option maxRecDepth 100000 in
set_option maxHeartbeats 4000000 in
theorem walk_yes (A : Option Addr) (n c : Nat) (l : List Pt) (w : World) (hl : PtsAt w A n l) (hn : n ≤ 9223372036854775807) (hnil : NilZ A n c) :
    Calls Try.prog 6 #[.slice A n c] w fun e w' => e = .returned (.bool true) ∧ Below w.heap.size w w' := by
  by_cases h2 : 40 < n
  · have h2i : (40 : Int) < (n : Int) := by omega
    go_enter Try.func6, Try.ntmps6
    go_wp2
    go_ret
    exact ⟨rfl, Below.refl _ _⟩
  have h2i : ¬ (40 : Int) < (n : Int) := by omega
  obtain ⟨ip, hip, hzp, hsp⟩ := info_get info_bl
  have hn1 : n ≤ 40 := by omega
  have HL := Lib.hid hl
  have HLN : Hid (l.length = n) := Lib.hid hl.len
  have HOWN := Lib.hid (own_any A n c l w hl (by omega))
  clear hl h2 hnil
  go_enter Try.func6, Try.ntmps6
  go_upto_region 3 with (fail)
  clear h2i
  go_wp2_with fail
  refine HOWN.out.mono ?_
  rintro e w2 ⟨ov, rfl, HO2, hb2⟩
  obtain ⟨OA, oc, rfl, _, hp2⟩ := pts_own HO2.out HLN.out
  have HB2 := Lib.hid hb2.out
  have HPO : Hid (∀ W, Below w2.heap.size w2 W → PtsAt W OA n l) := Lib.hid (fun W h => hp2.kept h)
  have HMP := Lib.hid (map_any OA n oc l w2 hp2 (by omega))
  clear hb2 hp2 HO2 HOWN
  go_wp2_with fail
  refine HMP.out.mono ?_
  rintro e w7 ⟨cs, rfl, HCC, hb7⟩
  have HB7 := Lib.hid hb7.out
  obtain ⟨gm, HGM⟩ : ∃ g, Hid (w7.heap.size = g) := ⟨_, Lib.hid rfl⟩
  have HSZ : Hid ((Try.prog.info? TBl).map (·.size) = some cs.size) := Lib.hid (by rw [hip, HCC.out.1]; simp [hsp])
  have HOL2 : Hid ((Array.replicate 64 (Value.bool false)).size = cs.size) := Lib.hid (by rw [HCC.out.1]; simp)
  obtain ⟨W8, HW8⟩ : ∃ W, Hid (W = w7.alloc (.cells (Array.replicate 64 (.bool false)) TBl)) := ⟨_, Lib.hid rfl⟩
  have HOZ : Hid (Obj1 W8 gm TBl (Array.replicate 64 (.bool false))) := Lib.hid (by rw [HW8.out, ← HGM.out]; exact Obj1.new _ _ _)
  have HB8 : Hid (Below w7.heap.size w7 W8) := Lib.hid (by rw [HW8.out]; exact bel1 _ _)
  have HOZ3 : Hid (Obj1 (w7.alloc (.cells (Array.replicate 64 (.bool false)) TBl)) w7.heap.size TBl (Array.replicate 64 (.bool false))) := Lib.hid (Obj1.new _ _ _)
  clear hb7 HMP
  go_upto_region 5 with (first | (refine wpList_allocZ rfl TBl rfl hip hzp ?_) | (refine wpList_store_row rfl TBl _ _ rfl w7.heap.size cs rfl rfl TBl _ HOZ3.out HSZ.out HOL2.out HCC.out.one ?_))
  have HW9 := Lib.hid (wrote_setRow HOZ.out cs)
  change Code.wp _ _ _ _ ((w7.alloc (.cells (Array.replicate 64 (.bool false)) TBl)).setRow w7.heap.size cs)
  rw [← HW8.out, HGM.out]
  generalize W8.setRow gm cs = W9 at HW9 ⊢
  have HB9 : Hid (Below w2.heap.size w2 W9) := Lib.hid ((HB7.out.trans (HB8.out.mono HB7.out.size)).trans (HW9.out.2.below (by rw [← HGM.out]; exact HB7.out.size) (Nat.le_trans HB7.out.size HB8.out.size)))
  have HM9 : Hid (BlAt W9 gm (had l)) := Lib.hid ⟨cs, HW9.out.1, HCC.out⟩
  have HOBJ : Hid (Obj1 W9 gm TBl cs) := Lib.hid HW9.out.1
  have HX9 : Hid (Below W9.heap.size W9 W9) := Lib.hid (Below.refl _ _)
  clear HW9 HW8 HOZ HOZ3 HB8 HGM HOL2 HB7
  have hnB : ∀ k, nB (had l) k ≤ k := by
    intro k
    induction k with
    | zero => exact Nat.le_refl _
    | succ k ih =>
      show nB (had l) k + _ ≤ _
      split <;> omega
  go_wp2_with fail
  go_loopw [5, 8] (fun v i wx => ∃ k : Nat, k ≤ 64 ∧ i = .int .i64 k ∧ v = .int .i64 (nB (had l) k : Nat) ∧ Below W9.heap.size W9 wx) (fun _ i _ => 64 - (intOf i).toNat)
  case atStart => exact ⟨0, by omega, rfl, rfl, HX9.out⟩
  case round =>
    obtain ⟨k, hk, rfl, rfl, hbk⟩ := hrel
    have HBK := Lib.hid hbk
    by_cases hlt : k < 64
    · as_aux_lemma =>
      have hki : (k : Int) < 64 := by omega
      have hk0 : (0 : Int) ≤ (k : Int) := by omega
      obtain ⟨c0, _⟩ := (HM9.out.kept hbk).cell hlt
      obtain ⟨q, hq⟩ : ∃ q, had l k = q := ⟨_, rfl⟩
      rw [hq] at c0
      have HNX : Hid (nB (had l) (k + 1) = nB (had l) k + (if q = true then 1 else 0)) := Lib.hid (by rw [← hq]; rfl)
      have hle := hnB k
      obtain ⟨N, hN⟩ : ∃ N, nB (had l) k = N := ⟨_, rfl⟩
      rw [hN] at HNX hle ⊢
      have e1 : IntKind.i64.wrap ((N : Int) + 1) = (N : Int) + 1 := IntWalk.i64_in _ (by omega)
      clear hq hbk hnB hN
      cases q with
      | false =>
        go_wp2
        go_roundw
        case rel => exact ⟨k + 1, by omega, by go_num, by rw [HNX.out]; simp, HBK.out⟩
        case measure => simp [intOf]; omega
      | true =>
        go_wp2
        go_roundw
        case rel => exact ⟨k + 1, by omega, by go_num, by rw [HNX.out]; simp, HBK.out⟩
        case measure => simp [intOf]; omega
    · have hke : k = 64 := by omega
      subst hke
      have hle := hnB 64
      obtain ⟨N, HN⟩ : ∃ N, Hid (nB (had l) 64 = N) := ⟨_, Lib.hid rfl⟩
      rw [HN.out] at hle ⊢
      have HBW := Lib.hid (HB2.out.trans ((HB9.out.trans (HBK.out.mono HB9.out.size)).mono HB2.out.size))
      have HOV := Lib.hid (over_any A n c l wr (HL.out.kept HBW.out) (by omega))
      obtain ⟨T, HT⟩ : ∃ T, Hid (ovA l (List.range n) = T) := ⟨_, Lib.hid rfl⟩
      rw [HT.out] at HOV
      clear hbk hnB hlt hk
      go_wp2_with fail
      refine HOV.out.mono ?_
      rintro e wv ⟨VA, vc, rfl, HVP, hbv⟩
      have HBV := Lib.hid (HBK.out.trans (hbv.out.mono HBK.out.size))
      clear hbv HOV
      have HB2V : Hid (Below w2.heap.size w2 wv) := Lib.hid (HB9.out.trans (HBV.out.mono HB9.out.size))
      have HXV : Hid (Below wv.heap.size wv wv) := Lib.hid (Below.refl _ _)
      have HPV : Hid (∀ W, Below wv.heap.size wv W → PtsAt W OA n l) := Lib.hid (fun W h => HPO.out W (HB2V.out.trans (h.mono HB2V.out.size)))
      have HLV : Hid (∀ W, Below wv.heap.size wv W → PtsAt W A n l) := Lib.hid (fun W h => HL.out.kept (HB2.out.trans ((HB2V.out.trans (h.mono HB2V.out.size)).mono HB2.out.size)))
      have HVV : Hid (∀ W, Below wv.heap.size wv W → PtsAt W VA T.length T) := Lib.hid (fun W h => HVP.out.kept h)
      have HOV2 : Hid (∀ W, Below wv.heap.size wv W → Obj1 W gm TBl cs) := Lib.hid (fun W h => (HOBJ.out.kept HBV.out).kept h)
      have HWW : Hid (Below w.heap.size w wv) := Lib.hid (HB2.out.trans (HB2V.out.mono HB2.out.size))
      have HUS : Hid (usN (cnt l) 64 = N) := Lib.hid ((us_nB2 l).trans HN.out)
      obtain ⟨M, HMM⟩ : ∃ M, Hid (T.length = M) := ⟨_, Lib.hid rfl⟩
      rw [HMM.out] at HVV ⊢
      have HML : Hid (M ≤ 1600) := Lib.hid (by
        have h := ovA_len l (List.range n)
        rw [HT.out, HMM.out, List.length_range] at h
        have h2 : n * n ≤ 40 * 40 := Nat.mul_le_mul hn1 hn1
        omega)
      clear HVP HBV HBK HM9 HX9 HPO HL HBW HN
      go_wp2_with fail
      go_loopw [6, 7, 10] (fun a q i wx => ∃ (k : Nat) (dn : List Pt), k ≤ n ∧ i = .int .i64 k ∧ a = .bool (rAll l k && dn.isEmpty) ∧ q = .int .i64 (dn.length : Nat) ∧ Hid (dn ++ ovA l ((List.range n).drop k) = T) ∧ Below wv.heap.size wv wx) (fun _ _ i _ => n - (intOf i).toNat)
      case atStart => exact ⟨0, [], by omega, rfl, rfl, rfl, Lib.hid (by rw [List.drop_zero]; exact HT.out), HXV.out⟩
      case round =>
        obtain ⟨k, dn, hk, rfl, rfl, rfl, HDN, hbk⟩ := hrel
        have HBK := Lib.hid hbk
        clear hbk
        obtain ⟨a, HA⟩ : ∃ a, Hid ((rAll l k && dn.isEmpty) = a) := ⟨_, Lib.hid rfl⟩
        obtain ⟨q, HQ⟩ : ∃ q, Hid (dn.length = q) := ⟨_, Lib.hid rfl⟩
        rw [HA.out, HQ.out]
        by_cases hlt : k < n
        · as_aux_lemma =>
          have hki : (k : Int) < (n : Int) := by omega
          have hkl : k < l.length := by rw [HLN.out]; exact hlt
          obtain ⟨x, hx⟩ : ∃ x, l[k]? = some x := ⟨_, List.getElem?_eq_getElem hkl⟩
          have HXE := Lib.hid hx
          have HAT : Hid (atP l k = x) := Lib.hid (atP_is hx)
          have HDR : Hid (dn ++ (ovJ l k ((List.range n).drop (k + 1)) ++ ovA l ((List.range n).drop (k + 1))) = T) := Lib.hid (by
            have h := HDN.out
            rw [drop_next (range_at hlt)] at h
            exact h)
          obtain ⟨bA, oA, rfl, hb1, k0, k1⟩ := (HLV.out _ HBK.out).two hlt hx
          obtain ⟨bO, oO, rfl, hb2, j0, j1⟩ := (HPV.out _ HBK.out).two hlt hx
          obtain ⟨xa, xm⟩ := x
          simp only at k0 k1 j0 j1
          obtain ⟨r, HR⟩ : ∃ r, Hid (rB ⟨xa, xm⟩ = r) := ⟨_, Lib.hid rfl⟩
          have HRT := Lib.hid (fun W => right_any xa xm W)
          have HRR := Lib.hid (fun W => rright_any xa xm W)
          rw [HR.out] at HRT HRR
          have HAN : Hid ((a && r) = (rAll l (k + 1) && dn.isEmpty)) := Lib.hid (by
            rw [rAll_next, HAT.out, HR.out, ← HA.out]
            cases rAll l k <;> cases r <;> simp)
          have e1 : IntKind.i64.wrap ((k : Int) + 1) = (k : Int) + 1 := IntWalk.i64_in _ (by omega)
          clear hx hkl HDN HA hb1 hb2
          go_upto_region 15 with (fail)
          go_cut [6] from 36 to 43 (fun v wx => v = .bool (a && r) ∧ Below wr.heap.size wr wx)
          case first =>
            cases a with
            | false =>
              go_wp2
              go_meet
              exact ⟨by simp, Below.refl _ _⟩
            | true =>
              go_wp2_with fail
              refine (HRR.out _).mono ?_
              rintro e w5 ⟨rfl, hb5⟩
              go_wp2
              go_meet
              exact ⟨by simp, hb5⟩
          case rest =>
            obtain ⟨rfl, hbc⟩ := hcut
            have HBC := Lib.hid (HBK.out.trans (hbc.mono HBK.out.size))
            obtain ⟨A1, HA1⟩ : ∃ b, Hid ((a && r) = b) := ⟨_, Lib.hid rfl⟩
            rw [HA1.out]
            have HAE : Hid (A1 = (rAll l (k + 1) && dn.isEmpty)) := Lib.hid (by rw [← HA1.out]; exact HAN.out)
            clear hbc k0 k1 j0 j1 HAN HA1
            obtain ⟨bA', oA', e', _, k0, k1⟩ := (HLV.out _ HBC.out).two hlt HXE.out
            obtain ⟨rfl, rfl⟩ : bA' = bA ∧ oA' = oA := by
              injection e' with e'
              injection e' with e1 e2 _
              exact ⟨e1.symm, e2.symm⟩
            obtain ⟨bO', oO', e'', _, j0, j1⟩ := (HPV.out _ HBC.out).two hlt HXE.out
            obtain ⟨rfl, rfl⟩ : bO' = bO ∧ oO' = oO := by
              injection e'' with e'
              injection e' with e1 e2 _
              exact ⟨e1.symm, e2.symm⟩
            simp only at k0 k1 j0 j1
            have J0 : ∀ z : Kin wc.drew, z.world.cell? ⟨bO', oO' + k * 2, none⟩ = some (.int .i64 xa) := fun z => Kin.at (w := wc.drew) j0 z
            have J1 : ∀ z : Kin wc.drew, z.world.cell? ⟨bO', oO' + k * 2 + 1, none⟩ = some (.int .i64 xm) := fun z => Kin.at (w := wc.drew) j1 z
            have K0 : ∀ z : Kin wc.drew, z.world.cell? ⟨bA', oA' + k * 2, none⟩ = some (.int .i64 xa) := fun z => Kin.at (w := wc.drew) k0 z
            have K1 : ∀ z : Kin wc.drew, z.world.cell? ⟨bA', oA' + k * 2 + 1, none⟩ = some (.int .i64 xm) := fun z => Kin.at (w := wc.drew) k1 z
            clear e' e'' k0 k1 j0 j1
            go_upto_region 16 with (fail)
            refine wp_region_specL 11 [.d (.slice (some ⟨bA', oA', none⟩) n c), .d (.int .i64 k), .d (.pointer (some ⟨bA', oA' + k * 2, none⟩)), .d (.agg #[.int .i64 xa, .int .i64 xm]), .d (.bool r), .d (.slice (some ⟨bO', oO', none⟩) n oc), .d (.int .i64 k), .d (.pointer (some ⟨bO', oO' + k * 2, none⟩)), .d (.agg #[.int .i64 xa, .int .i64 xm]), .d (.bool r), .d (.bool false)] (by kernel_rfl) (by kernel_rfl) ?_
            refine spec_d rfl (fun x _ => gives_run (by go_simp)) ?_
            try simp only [Act.put, List.getElem_toArray, List.getElem_cons_succ, List.getElem_cons_zero, List.setIfInBounds_toArray, List.set_cons_zero, List.set_cons_succ]
            refine spec_d rfl (fun x _ => gives_run (by go_simp)) ?_
            try simp only [Act.put, List.getElem_toArray, List.getElem_cons_succ, List.getElem_cons_zero, List.setIfInBounds_toArray, List.set_cons_zero, List.set_cons_succ]
            refine spec_d rfl (fun x _ => gives_run (by go_simp)) ?_
            try simp only [Act.put, List.getElem_toArray, List.getElem_cons_succ, List.getElem_cons_zero, List.setIfInBounds_toArray, List.set_cons_zero, List.set_cons_succ]
            refine spec_d rfl (fun x _ => gives_run (by go_simp)) ?_
            try simp only [Act.put, List.getElem_toArray, List.getElem_cons_succ, List.getElem_cons_zero, List.setIfInBounds_toArray, List.set_cons_zero, List.set_cons_succ]
            refine spec_d rfl (fun z _ => gives_det (by go_simp) (HRT.out z.world)) ?_
            try simp only [Act.put, List.getElem_toArray, List.getElem_cons_succ, List.getElem_cons_zero, List.setIfInBounds_toArray, List.set_cons_zero, List.set_cons_succ]
            refine spec_d rfl (fun x _ => gives_run (by go_simp)) ?_
            try simp only [Act.put, List.getElem_toArray, List.getElem_cons_succ, List.getElem_cons_zero, List.setIfInBounds_toArray, List.set_cons_zero, List.set_cons_succ]
            refine spec_d rfl (fun x _ => gives_run (by go_simp)) ?_
            try simp only [Act.put, List.getElem_toArray, List.getElem_cons_succ, List.getElem_cons_zero, List.setIfInBounds_toArray, List.set_cons_zero, List.set_cons_succ]
            refine spec_d rfl (fun x _ => gives_run (by go_simp)) ?_
            try simp only [Act.put, List.getElem_toArray, List.getElem_cons_succ, List.getElem_cons_zero, List.setIfInBounds_toArray, List.set_cons_zero, List.set_cons_succ]
            refine spec_d rfl (fun x _ => gives_run (by go_simp)) ?_
            try simp only [Act.put, List.getElem_toArray, List.getElem_cons_succ, List.getElem_cons_zero, List.setIfInBounds_toArray, List.set_cons_zero, List.set_cons_succ]
            refine spec_d rfl (fun z _ => gives_det (by go_simp) (HRR.out z.world)) ?_
            try simp only [Act.put, List.getElem_toArray, List.getElem_cons_succ, List.getElem_cons_zero, List.setIfInBounds_toArray, List.set_cons_zero, List.set_cons_succ]
            refine spec_d rfl (fun z _ => gives_run (by cases r <;> go_simp)) ?_
            try simp only [Act.put, List.getElem_toArray, List.getElem_cons_succ, List.getElem_cons_zero, List.setIfInBounds_toArray, List.set_cons_zero, List.set_cons_succ]
            refine spec_end (fun z hz => ?_)
            clear hz
            refine wpAny_done (by kernel_rfl) ?_ _
            have HB4 := Lib.hid (HBC.out.trans (((bel_drew wc).trans z.below).mono HBC.out.size))
            clear J0 J1 K0 K1 HRT HRR HBC HBK
            generalize z.world = w4 at HB4 ⊢
            clear z
            go_wp2_with fail
            go_loopw [6, 7, 11] (fun a q i wx => ∃ (t : Nat) (d3 : List Pt), k + 1 ≤ t ∧ t ≤ n ∧ i = .int .i64 t ∧ a = .bool (rAll l (k + 1) && d3.isEmpty) ∧ q = .int .i64 (d3.length : Nat) ∧ Hid (d3 ++ (ovJ l k ((List.range n).drop t) ++ ovA l ((List.range n).drop (k + 1))) = T) ∧ Below wv.heap.size wv wx) (fun _ _ i _ => n - (intOf i).toNat)
            case atStart => exact ⟨k + 1, dn, Nat.le_refl _, by omega, by go_num, by rw [← HAE.out], by rw [HQ.out], HDR, HB4.out⟩
            case round =>
              clear HDR HB4 HAE HQ
              obtain ⟨t, d3, ht1, ht, rfl, rfl, rfl, HD3, hbt⟩ := hrel
              have HBT := Lib.hid hbt
              clear hbt
              obtain ⟨a3, HA3⟩ : ∃ a, Hid ((rAll l (k + 1) && d3.isEmpty) = a) := ⟨_, Lib.hid rfl⟩
              obtain ⟨q3, HQ3⟩ : ∃ q, Hid (d3.length = q) := ⟨_, Lib.hid rfl⟩
              rw [HA3.out, HQ3.out]
              by_cases htn : t < n
              · have hti : (t : Int) < (n : Int) := by omega
                have htl : t < l.length := by rw [HLN.out]; exact htn
                obtain ⟨y, hy⟩ : ∃ y, l[t]? = some y := ⟨_, List.getElem?_eq_getElem htl⟩
                have HYE := Lib.hid hy
                have HYT : Hid (atP l t = y) := Lib.hid (atP_is hy)
                obtain ⟨bA, oA, e1', _, k0, k1⟩ := (HLV.out _ HBT.out).two hlt HXE.out
                obtain ⟨bA2, oA2, e2', _, p0, p1⟩ := (HLV.out _ HBT.out).two htn hy
                obtain ⟨bO, oO, e3', _, j0, j1⟩ := (HPV.out _ HBT.out).two hlt HXE.out
                obtain ⟨bO2, oO2, e4', _, q0, q1⟩ := (HPV.out _ HBT.out).two htn hy
                obtain ⟨rfl, rfl⟩ : bA = bA' ∧ oA = oA' := by
                  injection e1' with e'
                  injection e' with e1 e2 _
                  exact ⟨e1.symm, e2.symm⟩
                obtain ⟨rfl, rfl⟩ : bA2 = bA ∧ oA2 = oA := by
                  injection e2' with e'
                  injection e' with e1 e2 _
                  exact ⟨e1.symm, e2.symm⟩
                obtain ⟨rfl, rfl⟩ : bO = bO' ∧ oO = oO' := by
                  injection e3' with e'
                  injection e' with e1 e2 _
                  exact ⟨e1.symm, e2.symm⟩
                obtain ⟨rfl, rfl⟩ : bO2 = bO ∧ oO2 = oO := by
                  injection e4' with e'
                  injection e' with e1 e2 _
                  exact ⟨e1.symm, e2.symm⟩
                obtain ⟨ya, ym⟩ := y
                simp only at k0 k1 j0 j1 p0 p1 q0 q1
                obtain ⟨m, HM⟩ : ∃ m, Hid (mB ⟨xa, xm⟩ ⟨ya, ym⟩ = m) := ⟨_, Lib.hid rfl⟩
                have HM1 := Lib.hid (fun W => meets_any xa xm ya ym W)
                have HM2 := Lib.hid (fun W => meets_any ya ym xa xm W)
                have HM3 := Lib.hid (fun W => rmeets_any xa xm ya ym W)
                rw [mB_comm ⟨xa, xm⟩ ⟨ya, ym⟩] at HM2
                rw [HM.out] at HM1 HM2 HM3
                have HND : Hid (d3 ++ ((if m = true then [⟨(k : Int), (t : Int)⟩] else []) ++ (ovJ l k ((List.range n).drop (t + 1)) ++ ovA l ((List.range n).drop (k + 1)))) = T) := Lib.hid (by
                  have h := HD3.out
                  rw [drop_next (range_at htn), ovJ_cons, HAT.out, HYT.out, HM.out, List.append_assoc] at h
                  exact h)
                have J0 : ∀ z : Kin wr.drew, z.world.cell? ⟨bO2, oO2 + k * 2, none⟩ = some (.int .i64 xa) := fun z => Kin.at (w := wr.drew) j0 z
                have J1 : ∀ z : Kin wr.drew, z.world.cell? ⟨bO2, oO2 + k * 2 + 1, none⟩ = some (.int .i64 xm) := fun z => Kin.at (w := wr.drew) j1 z
                have K0 : ∀ z : Kin wr.drew, z.world.cell? ⟨bA2, oA2 + k * 2, none⟩ = some (.int .i64 xa) := fun z => Kin.at (w := wr.drew) k0 z
                have K1 : ∀ z : Kin wr.drew, z.world.cell? ⟨bA2, oA2 + k * 2 + 1, none⟩ = some (.int .i64 xm) := fun z => Kin.at (w := wr.drew) k1 z
                have Q0 : ∀ z : Kin wr.drew, z.world.cell? ⟨bO2, oO2 + t * 2, none⟩ = some (.int .i64 ya) := fun z => Kin.at (w := wr.drew) q0 z
                have Q1 : ∀ z : Kin wr.drew, z.world.cell? ⟨bO2, oO2 + t * 2 + 1, none⟩ = some (.int .i64 ym) := fun z => Kin.at (w := wr.drew) q1 z
                have P0 : ∀ z : Kin wr.drew, z.world.cell? ⟨bA2, oA2 + t * 2, none⟩ = some (.int .i64 ya) := fun z => Kin.at (w := wr.drew) p0 z
                have P1 : ∀ z : Kin wr.drew, z.world.cell? ⟨bA2, oA2 + t * 2 + 1, none⟩ = some (.int .i64 ym) := fun z => Kin.at (w := wr.drew) p1 z
                have e2 : IntKind.i64.wrap ((t : Int) + 1) = (t : Int) + 1 := IntWalk.i64_in _ (by omega)
                clear htl hy HYT HD3 HM e1' e2' e3' e4' k0 k1 j0 j1 p0 p1 q0 q1
                go_upto_region 21 with (fail)
                refine wp_region_specL 40 [.d (.slice (some ⟨bA2, oA2, none⟩) n c), .d (.int .i64 k), .d (.pointer (some ⟨bA2, oA2 + k * 2, none⟩)), .d (.agg #[.int .i64 xa, .int .i64 xm]), .d (.slice (some ⟨bA2, oA2, none⟩) n c), .d (.int .i64 t), .d (.pointer (some ⟨bA2, oA2 + t * 2, none⟩)), .d (.agg #[.int .i64 ya, .int .i64 ym]), .d (.bool m), .d (.slice (some ⟨bO2, oO2, none⟩) n oc), .d (.int .i64 k), .d (.pointer (some ⟨bO2, oO2 + k * 2, none⟩)), .d (.agg #[.int .i64 xa, .int .i64 xm]), .d (.slice (some ⟨bO2, oO2, none⟩) n oc), .d (.int .i64 t), .d (.pointer (some ⟨bO2, oO2 + t * 2, none⟩)), .d (.agg #[.int .i64 ya, .int .i64 ym]), .d (.bool m), .d (.bool false), .d (.bool false), .d (.slice (some ⟨bA2, oA2, none⟩) n c), .d (.int .i64 t), .d (.pointer (some ⟨bA2, oA2 + t * 2, none⟩)), .d (.agg #[.int .i64 ya, .int .i64 ym]), .d (.slice (some ⟨bA2, oA2, none⟩) n c), .d (.int .i64 k), .d (.pointer (some ⟨bA2, oA2 + k * 2, none⟩)), .d (.agg #[.int .i64 xa, .int .i64 xm]), .d (.bool m), .d (.slice (some ⟨bA2, oA2, none⟩) n c), .d (.int .i64 k), .d (.pointer (some ⟨bA2, oA2 + k * 2, none⟩)), .d (.agg #[.int .i64 xa, .int .i64 xm]), .d (.slice (some ⟨bA2, oA2, none⟩) n c), .d (.int .i64 t), .d (.pointer (some ⟨bA2, oA2 + t * 2, none⟩)), .d (.agg #[.int .i64 ya, .int .i64 ym]), .d (.bool m), .d (.bool false), .d (.bool false)] (by kernel_rfl) (by kernel_rfl) ?_
                refine spec_d rfl (fun x _ => gives_run (by go_simp)) ?_
                try simp only [Act.put, List.getElem_toArray, List.getElem_cons_succ, List.getElem_cons_zero, List.setIfInBounds_toArray, List.set_cons_zero, List.set_cons_succ]
                refine spec_d rfl (fun x _ => gives_run (by go_simp)) ?_
                try simp only [Act.put, List.getElem_toArray, List.getElem_cons_succ, List.getElem_cons_zero, List.setIfInBounds_toArray, List.set_cons_zero, List.set_cons_succ]
                refine spec_d rfl (fun x _ => gives_run (by go_simp)) ?_
                try simp only [Act.put, List.getElem_toArray, List.getElem_cons_succ, List.getElem_cons_zero, List.setIfInBounds_toArray, List.set_cons_zero, List.set_cons_succ]
                refine spec_d rfl (fun x _ => gives_run (by go_simp)) ?_
                try simp only [Act.put, List.getElem_toArray, List.getElem_cons_succ, List.getElem_cons_zero, List.setIfInBounds_toArray, List.set_cons_zero, List.set_cons_succ]
                refine spec_d rfl (fun x _ => gives_run (by go_simp)) ?_
                try simp only [Act.put, List.getElem_toArray, List.getElem_cons_succ, List.getElem_cons_zero, List.setIfInBounds_toArray, List.set_cons_zero, List.set_cons_succ]
                refine spec_d rfl (fun x _ => gives_run (by go_simp)) ?_
                try simp only [Act.put, List.getElem_toArray, List.getElem_cons_succ, List.getElem_cons_zero, List.setIfInBounds_toArray, List.set_cons_zero, List.set_cons_succ]
                refine spec_d rfl (fun x _ => gives_run (by go_simp)) ?_
                try simp only [Act.put, List.getElem_toArray, List.getElem_cons_succ, List.getElem_cons_zero, List.setIfInBounds_toArray, List.set_cons_zero, List.set_cons_succ]
                refine spec_d rfl (fun x _ => gives_run (by go_simp)) ?_
                try simp only [Act.put, List.getElem_toArray, List.getElem_cons_succ, List.getElem_cons_zero, List.setIfInBounds_toArray, List.set_cons_zero, List.set_cons_succ]
                refine spec_d rfl (fun z _ => gives_det (by go_simp) (HM1.out z.world)) ?_
                try simp only [Act.put, List.getElem_toArray, List.getElem_cons_succ, List.getElem_cons_zero, List.setIfInBounds_toArray, List.set_cons_zero, List.set_cons_succ]
                refine spec_d rfl (fun x _ => gives_run (by go_simp)) ?_
                try simp only [Act.put, List.getElem_toArray, List.getElem_cons_succ, List.getElem_cons_zero, List.setIfInBounds_toArray, List.set_cons_zero, List.set_cons_succ]
                refine spec_d rfl (fun x _ => gives_run (by go_simp)) ?_
                try simp only [Act.put, List.getElem_toArray, List.getElem_cons_succ, List.getElem_cons_zero, List.setIfInBounds_toArray, List.set_cons_zero, List.set_cons_succ]
                refine spec_d rfl (fun x _ => gives_run (by go_simp)) ?_
                try simp only [Act.put, List.getElem_toArray, List.getElem_cons_succ, List.getElem_cons_zero, List.setIfInBounds_toArray, List.set_cons_zero, List.set_cons_succ]
                refine spec_d rfl (fun x _ => gives_run (by go_simp)) ?_
                try simp only [Act.put, List.getElem_toArray, List.getElem_cons_succ, List.getElem_cons_zero, List.setIfInBounds_toArray, List.set_cons_zero, List.set_cons_succ]
                refine spec_d rfl (fun x _ => gives_run (by go_simp)) ?_
                try simp only [Act.put, List.getElem_toArray, List.getElem_cons_succ, List.getElem_cons_zero, List.setIfInBounds_toArray, List.set_cons_zero, List.set_cons_succ]
                refine spec_d rfl (fun x _ => gives_run (by go_simp)) ?_
                try simp only [Act.put, List.getElem_toArray, List.getElem_cons_succ, List.getElem_cons_zero, List.setIfInBounds_toArray, List.set_cons_zero, List.set_cons_succ]
                refine spec_d rfl (fun x _ => gives_run (by go_simp)) ?_
                try simp only [Act.put, List.getElem_toArray, List.getElem_cons_succ, List.getElem_cons_zero, List.setIfInBounds_toArray, List.set_cons_zero, List.set_cons_succ]
                refine spec_d rfl (fun x _ => gives_run (by go_simp)) ?_
                try simp only [Act.put, List.getElem_toArray, List.getElem_cons_succ, List.getElem_cons_zero, List.setIfInBounds_toArray, List.set_cons_zero, List.set_cons_succ]
                refine spec_d rfl (fun z _ => gives_det (by go_simp) (HM3.out z.world)) ?_
                try simp only [Act.put, List.getElem_toArray, List.getElem_cons_succ, List.getElem_cons_zero, List.setIfInBounds_toArray, List.set_cons_zero, List.set_cons_succ]
                refine spec_d rfl (fun z _ => gives_run (by cases m <;> go_simp)) ?_
                try simp only [Act.put, List.getElem_toArray, List.getElem_cons_succ, List.getElem_cons_zero, List.setIfInBounds_toArray, List.set_cons_zero, List.set_cons_succ]
                refine spec_d rfl (fun x _ => gives_run (by go_simp)) ?_
                try simp only [Act.put, List.getElem_toArray, List.getElem_cons_succ, List.getElem_cons_zero, List.setIfInBounds_toArray, List.set_cons_zero, List.set_cons_succ]
                refine spec_d rfl (fun x _ => gives_run (by go_simp)) ?_
                try simp only [Act.put, List.getElem_toArray, List.getElem_cons_succ, List.getElem_cons_zero, List.setIfInBounds_toArray, List.set_cons_zero, List.set_cons_succ]
                refine spec_d rfl (fun x _ => gives_run (by go_simp)) ?_
                try simp only [Act.put, List.getElem_toArray, List.getElem_cons_succ, List.getElem_cons_zero, List.setIfInBounds_toArray, List.set_cons_zero, List.set_cons_succ]
                refine spec_d rfl (fun x _ => gives_run (by go_simp)) ?_
                try simp only [Act.put, List.getElem_toArray, List.getElem_cons_succ, List.getElem_cons_zero, List.setIfInBounds_toArray, List.set_cons_zero, List.set_cons_succ]
                refine spec_d rfl (fun x _ => gives_run (by go_simp)) ?_
                try simp only [Act.put, List.getElem_toArray, List.getElem_cons_succ, List.getElem_cons_zero, List.setIfInBounds_toArray, List.set_cons_zero, List.set_cons_succ]
                refine spec_d rfl (fun x _ => gives_run (by go_simp)) ?_
                try simp only [Act.put, List.getElem_toArray, List.getElem_cons_succ, List.getElem_cons_zero, List.setIfInBounds_toArray, List.set_cons_zero, List.set_cons_succ]
                refine spec_d rfl (fun x _ => gives_run (by go_simp)) ?_
                try simp only [Act.put, List.getElem_toArray, List.getElem_cons_succ, List.getElem_cons_zero, List.setIfInBounds_toArray, List.set_cons_zero, List.set_cons_succ]
                refine spec_d rfl (fun x _ => gives_run (by go_simp)) ?_
                try simp only [Act.put, List.getElem_toArray, List.getElem_cons_succ, List.getElem_cons_zero, List.setIfInBounds_toArray, List.set_cons_zero, List.set_cons_succ]
                refine spec_d rfl (fun x _ => gives_run (by go_simp)) ?_
                try simp only [Act.put, List.getElem_toArray, List.getElem_cons_succ, List.getElem_cons_zero, List.setIfInBounds_toArray, List.set_cons_zero, List.set_cons_succ]
                refine spec_d rfl (fun z _ => gives_det (by go_simp) (HM2.out z.world)) ?_
                try simp only [Act.put, List.getElem_toArray, List.getElem_cons_succ, List.getElem_cons_zero, List.setIfInBounds_toArray, List.set_cons_zero, List.set_cons_succ]
                refine spec_d rfl (fun x _ => gives_run (by go_simp)) ?_
                try simp only [Act.put, List.getElem_toArray, List.getElem_cons_succ, List.getElem_cons_zero, List.setIfInBounds_toArray, List.set_cons_zero, List.set_cons_succ]
                refine spec_d rfl (fun x _ => gives_run (by go_simp)) ?_
                try simp only [Act.put, List.getElem_toArray, List.getElem_cons_succ, List.getElem_cons_zero, List.setIfInBounds_toArray, List.set_cons_zero, List.set_cons_succ]
                refine spec_d rfl (fun x _ => gives_run (by go_simp)) ?_
                try simp only [Act.put, List.getElem_toArray, List.getElem_cons_succ, List.getElem_cons_zero, List.setIfInBounds_toArray, List.set_cons_zero, List.set_cons_succ]
                refine spec_d rfl (fun x _ => gives_run (by go_simp)) ?_
                try simp only [Act.put, List.getElem_toArray, List.getElem_cons_succ, List.getElem_cons_zero, List.setIfInBounds_toArray, List.set_cons_zero, List.set_cons_succ]
                refine spec_d rfl (fun x _ => gives_run (by go_simp)) ?_
                try simp only [Act.put, List.getElem_toArray, List.getElem_cons_succ, List.getElem_cons_zero, List.setIfInBounds_toArray, List.set_cons_zero, List.set_cons_succ]
                refine spec_d rfl (fun x _ => gives_run (by go_simp)) ?_
                try simp only [Act.put, List.getElem_toArray, List.getElem_cons_succ, List.getElem_cons_zero, List.setIfInBounds_toArray, List.set_cons_zero, List.set_cons_succ]
                refine spec_d rfl (fun x _ => gives_run (by go_simp)) ?_
                try simp only [Act.put, List.getElem_toArray, List.getElem_cons_succ, List.getElem_cons_zero, List.setIfInBounds_toArray, List.set_cons_zero, List.set_cons_succ]
                refine spec_d rfl (fun x _ => gives_run (by go_simp)) ?_
                try simp only [Act.put, List.getElem_toArray, List.getElem_cons_succ, List.getElem_cons_zero, List.setIfInBounds_toArray, List.set_cons_zero, List.set_cons_succ]
                refine spec_d rfl (fun z _ => gives_det (by go_simp) (HM1.out z.world)) ?_
                try simp only [Act.put, List.getElem_toArray, List.getElem_cons_succ, List.getElem_cons_zero, List.setIfInBounds_toArray, List.set_cons_zero, List.set_cons_succ]
                refine spec_d rfl (fun z _ => gives_run (by cases m <;> go_simp)) ?_
                try simp only [Act.put, List.getElem_toArray, List.getElem_cons_succ, List.getElem_cons_zero, List.setIfInBounds_toArray, List.set_cons_zero, List.set_cons_succ]
                refine spec_d rfl (fun x _ => gives_run (by go_simp)) ?_
                try simp only [Act.put, List.getElem_toArray, List.getElem_cons_succ, List.getElem_cons_zero, List.setIfInBounds_toArray, List.set_cons_zero, List.set_cons_succ]
                refine spec_end (fun z hz => ?_)
                clear hz
                refine wpAny_done (by kernel_rfl) ?_ _
                have HB5 := Lib.hid (HBT.out.trans (((bel_drew wr).trans z.below).mono HBT.out.size))
                clear J0 J1 K0 K1 P0 P1 Q0 Q1 HM1 HM2 HBT
                generalize z.world = w5 at HB5 ⊢
                clear z
                obtain ⟨bO, oO, e3', _, j0, j1⟩ := (HPV.out _ HB5.out).two hlt HXE.out
                obtain ⟨bO3, oO3, e4', _, q0, q1⟩ := (HPV.out _ HB5.out).two htn HYE.out
                obtain ⟨rfl, rfl⟩ : bO = bO2 ∧ oO = oO2 := by
                  injection e3' with e'
                  injection e' with e1 e2 _
                  exact ⟨e1.symm, e2.symm⟩
                obtain ⟨rfl, rfl⟩ : bO3 = bO ∧ oO3 = oO := by
                  injection e4' with e'
                  injection e' with e1 e2 _
                  exact ⟨e1.symm, e2.symm⟩
                simp only at j0 j1 q0 q1
                have J0 : ∀ z : Kin w5.drew, z.world.cell? ⟨bO3, oO3 + k * 2, none⟩ = some (.int .i64 xa) := fun z => Kin.at (w := w5.drew) j0 z
                have J1 : ∀ z : Kin w5.drew, z.world.cell? ⟨bO3, oO3 + k * 2 + 1, none⟩ = some (.int .i64 xm) := fun z => Kin.at (w := w5.drew) j1 z
                have Q0 : ∀ z : Kin w5.drew, z.world.cell? ⟨bO3, oO3 + t * 2, none⟩ = some (.int .i64 ya) := fun z => Kin.at (w := w5.drew) q0 z
                have Q1 : ∀ z : Kin w5.drew, z.world.cell? ⟨bO3, oO3 + t * 2 + 1, none⟩ = some (.int .i64 ym) := fun z => Kin.at (w := w5.drew) q1 z
                clear e3' e4' j0 j1 q0 q1
                go_upto_region 23 with (fail)
                refine wp_region_specL 9 [.d (.slice (some ⟨bO3, oO3, none⟩) n oc), .d (.int .i64 k), .d (.pointer (some ⟨bO3, oO3 + k * 2, none⟩)), .d (.agg #[.int .i64 xa, .int .i64 xm]), .d (.slice (some ⟨bO3, oO3, none⟩) n oc), .d (.int .i64 t), .d (.pointer (some ⟨bO3, oO3 + t * 2, none⟩)), .d (.agg #[.int .i64 ya, .int .i64 ym]), .d (.bool m)] (by kernel_rfl) (by kernel_rfl) ?_
                refine spec_d rfl (fun x _ => gives_run (by go_simp)) ?_
                try simp only [Act.put, List.getElem_toArray, List.getElem_cons_succ, List.getElem_cons_zero, List.setIfInBounds_toArray, List.set_cons_zero, List.set_cons_succ]
                refine spec_d rfl (fun x _ => gives_run (by go_simp)) ?_
                try simp only [Act.put, List.getElem_toArray, List.getElem_cons_succ, List.getElem_cons_zero, List.setIfInBounds_toArray, List.set_cons_zero, List.set_cons_succ]
                refine spec_d rfl (fun x _ => gives_run (by go_simp)) ?_
                try simp only [Act.put, List.getElem_toArray, List.getElem_cons_succ, List.getElem_cons_zero, List.setIfInBounds_toArray, List.set_cons_zero, List.set_cons_succ]
                refine spec_d rfl (fun x _ => gives_run (by go_simp)) ?_
                try simp only [Act.put, List.getElem_toArray, List.getElem_cons_succ, List.getElem_cons_zero, List.setIfInBounds_toArray, List.set_cons_zero, List.set_cons_succ]
                refine spec_d rfl (fun x _ => gives_run (by go_simp)) ?_
                try simp only [Act.put, List.getElem_toArray, List.getElem_cons_succ, List.getElem_cons_zero, List.setIfInBounds_toArray, List.set_cons_zero, List.set_cons_succ]
                refine spec_d rfl (fun x _ => gives_run (by go_simp)) ?_
                try simp only [Act.put, List.getElem_toArray, List.getElem_cons_succ, List.getElem_cons_zero, List.setIfInBounds_toArray, List.set_cons_zero, List.set_cons_succ]
                refine spec_d rfl (fun x _ => gives_run (by go_simp)) ?_
                try simp only [Act.put, List.getElem_toArray, List.getElem_cons_succ, List.getElem_cons_zero, List.setIfInBounds_toArray, List.set_cons_zero, List.set_cons_succ]
                refine spec_d rfl (fun x _ => gives_run (by go_simp)) ?_
                try simp only [Act.put, List.getElem_toArray, List.getElem_cons_succ, List.getElem_cons_zero, List.setIfInBounds_toArray, List.set_cons_zero, List.set_cons_succ]
                refine spec_d rfl (fun z _ => gives_det (by go_simp) (HM3.out z.world)) ?_
                try simp only [Act.put, List.getElem_toArray, List.getElem_cons_succ, List.getElem_cons_zero, List.setIfInBounds_toArray, List.set_cons_zero, List.set_cons_succ]
                refine spec_end (fun z hz => ?_)
                clear hz
                refine wpAny_done (by kernel_rfl) ?_ _
                have HB6 := Lib.hid (HB5.out.trans (((bel_drew w5).trans z.below).mono HB5.out.size))
                clear J0 J1 Q0 Q1 HM3 HB5
                generalize z.world = w6 at HB6 ⊢
                clear z
                cases m with
                | false =>
                  have HND' : Hid (d3 ++ (ovJ l k ((List.range n).drop (t + 1)) ++ ovA l ((List.range n).drop (k + 1))) = T) := Lib.hid (by
                    have h := HND.out
                    rw [if_neg (by decide), List.nil_append] at h
                    exact h)
                  go_wp2
                  go_roundw
                  case rel => exact ⟨t + 1, d3, by omega, by omega, by go_num, by rw [HA3.out], by rw [HQ3.out], HND', HB6.out⟩
                  case measure => simp [intOf]; omega
                | true =>
                  have HND' : Hid ((d3 ++ [⟨(k : Int), (t : Int)⟩]) ++ (ovJ l k ((List.range n).drop (t + 1)) ++ ovA l ((List.range n).drop (k + 1))) = T) := Lib.hid (by
                    have h := HND.out
                    rw [if_pos rfl, ← List.append_assoc] at h
                    exact h)
                  have hTq : T[q3]? = some ⟨(k : Int), (t : Int)⟩ := by
                    rw [← HND'.out, List.append_assoc, List.getElem?_append_right (by rw [HQ3.out]; exact Nat.le_refl _), HQ3.out, Nat.sub_self]
                    rfl
                  have hqM : q3 < M := by rw [← HMM.out]; exact (List.getElem?_eq_some_iff.1 hTq).1
                  have hqi : (q3 : Int) < (M : Int) := by omega
                  have hml := HML.out
                  have e3 : IntKind.i64.wrap ((q3 : Int) + 1) = (q3 : Int) + 1 := IntWalk.i64_in _ (by omega)
                  obtain ⟨bV, oV, rfl, _, v0, v1⟩ := (HVV.out _ HB6.out).two hqM hTq
                  simp only at v0 v1
                  have EQ2 := fun W => eqn_two W (k : Int) (t : Int)
                  clear hTq hml
                  go_wp2
                  go_roundw
                  case rel => exact ⟨t + 1, d3 ++ [⟨(k : Int), (t : Int)⟩], by omega, by omega, by go_num, by simp, by simp [HQ3.out], HND', HB6.out⟩
                  case measure => simp [intOf]; omega
              · have hte : t = n := by omega
                subst hte
                have HND' : Hid (d3 ++ ovA l ((List.range t).drop (k + 1)) = T) := Lib.hid (by
                  have h := HD3.out
                  rw [List.drop_of_length_le (by simp), ovJ_none, List.nil_append] at h
                  exact h)
                go_wp2
                go_roundw
                case rel => exact ⟨k + 1, d3, by omega, by go_num, by rw [HA3.out], by rw [HQ3.out], HND', HBT.out⟩
                case measure => simp [intOf]; omega
        · as_aux_lemma =>
          have hke : k = n := by omega
          subst hke
          have HDT : Hid (dn = T) := Lib.hid (by
            have h := HDN.out
            rw [List.drop_of_length_le (by simp)] at h
            simpa [ovA] using h)
          have HAP := Lib.hid (fun W h => apart_any A k c l W (HLV.out W h) (by omega))
          have HAPE : Hid (apA [] l = a) := Lib.hid (by rw [apart_is, HLN.out, HT.out, ← HDT.out]; exact HA.out)
          rw [HAPE.out] at HAP
          have hqM : q = M := by rw [← HQ.out, HDT.out, HMM.out]
          subst hqM
          have HU := Lib.hid (fun W h => used_any A k c l W (HLV.out W h) (by omega))
          rw [HUS.out] at HU
          have HJ := Lib.hid (fun W h => join_any A k c l W (HLV.out W h) (by omega))
          have HF := Lib.hid (fun W h => free2_any A k c l W (HLV.out W h) (by omega))
          have HRO := Lib.hid (fun so W => rof_any cs (had l) so W HCC.out)
          obtain ⟨PJ, HPJ⟩ : ∃ P, Hid (prN (fun i => had l i == true) 64 = P) := ⟨_, Lib.hid rfl⟩
          obtain ⟨PF, HPF⟩ : ∃ P, Hid (prN (fun i => had l i == false) 64 = P) := ⟨_, Lib.hid rfl⟩
          have HR1 := Lib.hid (fun W => HRO.out true W)
          have HR2 := Lib.hid (fun W => HRO.out false W)
          rw [HPJ.out] at HJ HR1
          rw [HPF.out] at HF HR2
          have HPJL : Hid (PJ.length ≤ 64) := Lib.hid (by rw [← HPJ.out]; exact prN_len _ 64)
          have HPFL : Hid (PF.length ≤ 64) := Lib.hid (by rw [← HPF.out]; exact prN_len _ 64)
          have HKD : Hid (∀ z : Kin wr.drew, Below wv.heap.size wv z.world) := Lib.hid (fun z => HBK.out.trans (((bel_drew wr).trans z.below).mono HBK.out.size))
          clear HRO HDN HA HQ HAPE HUS HPJ HPF hlt hk
          go_upto_region 28 with (fail)
          refine wp_region_specL 34 [.d (.int .i64 q), .d (.slice VA q vc), .d (.int .i64 q), .d (.bool true), .d (.bool true), .d (.slice A k c), .d (.bool a), .d (.bool a), .d (.bool true), .d (.bool true), .d (.bool true), .d (.slice A k c), .d (.int .i64 (N : Nat)), .d (.int .i64 (N : Nat)), .d (.bool true), .d (.bool true), .d (.bool true), .d (.slice A k c), .g (NwS PJ), .d (.agg cs), .g (NwS PJ), .d (.bool true), .d (.bool true), .d (.bool true), .d (.slice A k c), .g (NwS PF), .d (.agg cs), .g (NwS PF), .d (.bool true), .d (.bool true), .d (.bool true), .d (.bool true), .d (.bool true), .d (.bool true)] (by kernel_rfl) (by kernel_rfl) ?_
          refine spec_d rfl (fun x _ => gives_run (by go_simp)) ?_
          try simp only [Act.put, List.getElem_toArray, List.getElem_cons_succ, List.getElem_cons_zero, List.setIfInBounds_toArray, List.set_cons_zero, List.set_cons_succ]
          refine spec_d rfl (fun x _ => gives_run (by go_simp)) ?_
          try simp only [Act.put, List.getElem_toArray, List.getElem_cons_succ, List.getElem_cons_zero, List.setIfInBounds_toArray, List.set_cons_zero, List.set_cons_succ]
          refine spec_d rfl (fun x _ => gives_run (by go_simp)) ?_
          try simp only [Act.put, List.getElem_toArray, List.getElem_cons_succ, List.getElem_cons_zero, List.setIfInBounds_toArray, List.set_cons_zero, List.set_cons_succ]
          refine spec_d rfl (fun x _ => gives_run (by go_simp)) ?_
          try simp only [Act.put, List.getElem_toArray, List.getElem_cons_succ, List.getElem_cons_zero, List.setIfInBounds_toArray, List.set_cons_zero, List.set_cons_succ]
          refine spec_d rfl (fun x _ => gives_run (by go_simp)) ?_
          try simp only [Act.put, List.getElem_toArray, List.getElem_cons_succ, List.getElem_cons_zero, List.setIfInBounds_toArray, List.set_cons_zero, List.set_cons_succ]
          refine spec_d rfl (fun x _ => gives_run (by go_simp)) ?_
          try simp only [Act.put, List.getElem_toArray, List.getElem_cons_succ, List.getElem_cons_zero, List.setIfInBounds_toArray, List.set_cons_zero, List.set_cons_succ]
          refine spec_d rfl (fun z _ => gives_det (by go_simp) (HAP.out z.world (HKD.out z))) ?_
          try simp only [Act.put, List.getElem_toArray, List.getElem_cons_succ, List.getElem_cons_zero, List.setIfInBounds_toArray, List.set_cons_zero, List.set_cons_succ]
          refine spec_d rfl (fun x _ => gives_run (by go_simp)) ?_
          try simp only [Act.put, List.getElem_toArray, List.getElem_cons_succ, List.getElem_cons_zero, List.setIfInBounds_toArray, List.set_cons_zero, List.set_cons_succ]
          refine spec_d rfl (fun z _ => gives_run (by cases a <;> go_simp)) ?_
          try simp only [Act.put, List.getElem_toArray, List.getElem_cons_succ, List.getElem_cons_zero, List.setIfInBounds_toArray, List.set_cons_zero, List.set_cons_succ]
          refine spec_d rfl (fun x _ => gives_run (by go_simp)) ?_
          try simp only [Act.put, List.getElem_toArray, List.getElem_cons_succ, List.getElem_cons_zero, List.setIfInBounds_toArray, List.set_cons_zero, List.set_cons_succ]
          refine spec_d rfl (fun x _ => gives_run (by go_simp)) ?_
          try simp only [Act.put, List.getElem_toArray, List.getElem_cons_succ, List.getElem_cons_zero, List.setIfInBounds_toArray, List.set_cons_zero, List.set_cons_succ]
          refine spec_d rfl (fun x _ => gives_run (by go_simp)) ?_
          try simp only [Act.put, List.getElem_toArray, List.getElem_cons_succ, List.getElem_cons_zero, List.setIfInBounds_toArray, List.set_cons_zero, List.set_cons_succ]
          refine spec_d rfl (fun z _ => gives_det (by go_simp) (HU.out z.world (HKD.out z))) ?_
          try simp only [Act.put, List.getElem_toArray, List.getElem_cons_succ, List.getElem_cons_zero, List.setIfInBounds_toArray, List.set_cons_zero, List.set_cons_succ]
          refine spec_d rfl (fun x _ => gives_run (by go_simp)) ?_
          try simp only [Act.put, List.getElem_toArray, List.getElem_cons_succ, List.getElem_cons_zero, List.setIfInBounds_toArray, List.set_cons_zero, List.set_cons_succ]
          refine spec_d rfl (fun x _ => gives_run (by go_simp)) ?_
          try simp only [Act.put, List.getElem_toArray, List.getElem_cons_succ, List.getElem_cons_zero, List.setIfInBounds_toArray, List.set_cons_zero, List.set_cons_succ]
          refine spec_d rfl (fun x _ => gives_run (by go_simp)) ?_
          try simp only [Act.put, List.getElem_toArray, List.getElem_cons_succ, List.getElem_cons_zero, List.setIfInBounds_toArray, List.set_cons_zero, List.set_cons_succ]
          refine spec_d rfl (fun x _ => gives_run (by go_simp)) ?_
          try simp only [Act.put, List.getElem_toArray, List.getElem_cons_succ, List.getElem_cons_zero, List.setIfInBounds_toArray, List.set_cons_zero, List.set_cons_succ]
          refine spec_d rfl (fun x _ => gives_run (by go_simp)) ?_
          try simp only [Act.put, List.getElem_toArray, List.getElem_cons_succ, List.getElem_cons_zero, List.setIfInBounds_toArray, List.set_cons_zero, List.set_cons_succ]
          refine spec_g (NwS.stable _) (NwS.ex _ _) rfl (fun z _ => gives_call (by go_simp) ((HJ.out z.world (HKD.out z)).mono (by
            rintro e w' ⟨B, d, rfl, h1, h2⟩
            exact ⟨_, rfl, h2.out, B, d, rfl, h1.out⟩))) ?_
          rintro v1 ⟨zv1, Bv1, dv1, rfl, _⟩
          try simp only [Act.put, List.getElem_toArray, List.getElem_cons_succ, List.getElem_cons_zero, List.setIfInBounds_toArray, List.set_cons_zero, List.set_cons_succ]
          refine spec_d rfl (fun z _ => gives_row rfl rfl (HOV2.out _ (HKD.out z)) Try.underlying52 rfl HSZ.out) ?_
          try simp only [Act.put, List.getElem_toArray, List.getElem_cons_succ, List.getElem_cons_zero, List.setIfInBounds_toArray, List.set_cons_zero, List.set_cons_succ]
          refine spec_g (NwS.stable _) (NwS.ex _ _) rfl (fun z _ => gives_call (by go_simp) ((HR1.out z.world).mono (by
            rintro e w' ⟨B, d, rfl, h1, h2⟩
            exact ⟨_, rfl, h2.out, B, d, rfl, h1.out⟩))) ?_
          rintro v2 ⟨zv2, Bv2, dv2, rfl, _⟩
          try simp only [Act.put, List.getElem_toArray, List.getElem_cons_succ, List.getElem_cons_zero, List.setIfInBounds_toArray, List.set_cons_zero, List.set_cons_succ]
          refine spec_d rfl (fun z hz => gives_det (by go_simp) (same_yes Bv1 PJ.length dv1 Bv2 dv2 PJ z.world (by
            obtain ⟨B', d', e', h⟩ := hz _ (List.mem_cons_of_mem _ (List.mem_cons_self ..)) (by kernel_rfl)
            injection e' with e1 _ e3
            subst e1
            exact h) (by
            obtain ⟨B', d', e', h⟩ := hz _ (List.mem_cons_self ..) (by kernel_rfl)
            injection e' with e1 _ e3
            subst e1
            exact h) (by have := HPJL.out; omega))) ?_
          try simp only [Act.put, List.getElem_toArray, List.getElem_cons_succ, List.getElem_cons_zero, List.setIfInBounds_toArray, List.set_cons_zero, List.set_cons_succ]
          refine spec_d rfl (fun x _ => gives_run (by go_simp)) ?_
          try simp only [Act.put, List.getElem_toArray, List.getElem_cons_succ, List.getElem_cons_zero, List.setIfInBounds_toArray, List.set_cons_zero, List.set_cons_succ]
          refine spec_d rfl (fun x _ => gives_run (by go_simp)) ?_
          try simp only [Act.put, List.getElem_toArray, List.getElem_cons_succ, List.getElem_cons_zero, List.setIfInBounds_toArray, List.set_cons_zero, List.set_cons_succ]
          refine spec_d rfl (fun x _ => gives_run (by go_simp)) ?_
          try simp only [Act.put, List.getElem_toArray, List.getElem_cons_succ, List.getElem_cons_zero, List.setIfInBounds_toArray, List.set_cons_zero, List.set_cons_succ]
          refine spec_g (NwS.stable _) (NwS.ex _ _) rfl (fun z _ => gives_call (by go_simp) ((HF.out z.world (HKD.out z)).mono (by
            rintro e w' ⟨B, d, rfl, h1, h2⟩
            exact ⟨_, rfl, h2.out, B, d, rfl, h1.out⟩))) ?_
          rintro v3 ⟨zv3, Bv3, dv3, rfl, _⟩
          try simp only [Act.put, List.getElem_toArray, List.getElem_cons_succ, List.getElem_cons_zero, List.setIfInBounds_toArray, List.set_cons_zero, List.set_cons_succ]
          refine spec_d rfl (fun z _ => gives_row rfl rfl (HOV2.out _ (HKD.out z)) Try.underlying52 rfl HSZ.out) ?_
          try simp only [Act.put, List.getElem_toArray, List.getElem_cons_succ, List.getElem_cons_zero, List.setIfInBounds_toArray, List.set_cons_zero, List.set_cons_succ]
          refine spec_g (NwS.stable _) (NwS.ex _ _) rfl (fun z _ => gives_call (by go_simp) ((HR2.out z.world).mono (by
            rintro e w' ⟨B, d, rfl, h1, h2⟩
            exact ⟨_, rfl, h2.out, B, d, rfl, h1.out⟩))) ?_
          rintro v4 ⟨zv4, Bv4, dv4, rfl, _⟩
          try simp only [Act.put, List.getElem_toArray, List.getElem_cons_succ, List.getElem_cons_zero, List.setIfInBounds_toArray, List.set_cons_zero, List.set_cons_succ]
          refine spec_d rfl (fun z hz => gives_det (by go_simp) (same_yes Bv3 PF.length dv3 Bv4 dv4 PF z.world (by
            obtain ⟨B', d', e', h⟩ := hz _ (List.mem_cons_of_mem _ (List.mem_cons_self ..)) (by kernel_rfl)
            injection e' with e1 _ e3
            subst e1
            exact h) (by
            obtain ⟨B', d', e', h⟩ := hz _ (List.mem_cons_self ..) (by kernel_rfl)
            injection e' with e1 _ e3
            subst e1
            exact h) (by have := HPFL.out; omega))) ?_
          try simp only [Act.put, List.getElem_toArray, List.getElem_cons_succ, List.getElem_cons_zero, List.setIfInBounds_toArray, List.set_cons_zero, List.set_cons_succ]
          refine spec_d rfl (fun x _ => gives_run (by go_simp)) ?_
          try simp only [Act.put, List.getElem_toArray, List.getElem_cons_succ, List.getElem_cons_zero, List.setIfInBounds_toArray, List.set_cons_zero, List.set_cons_succ]
          refine spec_d rfl (fun x _ => gives_run (by go_simp)) ?_
          try simp only [Act.put, List.getElem_toArray, List.getElem_cons_succ, List.getElem_cons_zero, List.setIfInBounds_toArray, List.set_cons_zero, List.set_cons_succ]
          refine spec_d rfl (fun z _ => gives_det (by go_simp) (One42.one_any z.world)) ?_
          try simp only [Act.put, List.getElem_toArray, List.getElem_cons_succ, List.getElem_cons_zero, List.setIfInBounds_toArray, List.set_cons_zero, List.set_cons_succ]
          refine spec_d rfl (fun x _ => gives_run (by go_simp)) ?_
          try simp only [Act.put, List.getElem_toArray, List.getElem_cons_succ, List.getElem_cons_zero, List.setIfInBounds_toArray, List.set_cons_zero, List.set_cons_succ]
          refine spec_d rfl (fun x _ => gives_run (by go_simp)) ?_
          try simp only [Act.put, List.getElem_toArray, List.getElem_cons_succ, List.getElem_cons_zero, List.setIfInBounds_toArray, List.set_cons_zero, List.set_cons_succ]
          refine spec_end (fun z hz => ?_)
          clear hz
          refine wpAny_done (by kernel_rfl) ?_ _
          have HB5 := Lib.hid (HKD.out z)
          clear HKD
          generalize z.world = w5 at HB5 ⊢
          clear z
          go_wp2
          go_ret
          exact ⟨rfl, HWW.out.trans (HB5.out.mono HWW.out.size)⟩
theorem walk (A : Option Addr) (n c : Nat) (rows : List (List Value)) (w : World) (hg : Grid w A n (Sh.size shP) rows) (hr : ∀ r ∈ rows, Reads w shP r) (hnc : n ≤ c) (hcm : c ≤ maxLen) (hnil : NilZ A n c) :
    Calls Try.prog 6 #[.slice A n c] w fun e w' => e = .returned (.bool true) ∧ Below w.heap.size w w' := by
  unfold maxLen at hcm
  obtain ⟨tk, hp, _⟩ := pts_in hg hr
  exact walk_yes A n c tk w hp (by omega) hnil

set_option maxRecDepth 100000 in
theorem lifted (os : Os) (started : os.Started) (H : Type) (enc : TypeId × Value → H) :
    ReturnsInHanded {} Try.checked os 6 .any (Rows.layoutTellsSpec.pre6 enc Try.prog Try.f6 Rows.layoutTellsRow.domain false) (Rows.layoutTellsSpec.post enc Try.prog Try.f6 false true false false) := by
  refine returnsInHanded_of_change (C := Try.checked) own started (by kernel_rfl) Try.func6
    (ChangeSpec.witness6 (enc := enc) (C := Try.checked) false ⟨#[], #[.slice none 0 0], []⟩ 8 (by kernel_rfl) (by kernel_rfl) (by kernel_rfl) (by kernel_rfl)) ?_
  intro W base args ds gs before hval0 hW hcnd _
  have hval : ∀ (j : Nat) t v, Try.f6.params[j]? = some t → args[j]? = some v → Value.okWide Try.prog W .any base t v := hval0
  have hW' := hW
  obtain ⟨p, q, hA0, hV, rfl, hfz, hnd⟩ := hW
  have hA : DataW.TrodAll enc Try.prog W 0 (fun _ => true) true Try.f6.params.toList args.toList ds p := hA0
  rw [Try.params6] at hA hval
  obtain ⟨v0, vs0, d0, ds0, p0, q0, hargs, rfl, rfl, h0, r0⟩ := trodAll_cons hA
  obtain ⟨rfl, rfl, rfl⟩ := trodAll_nil r0
  obtain rfl : args = #[v0] := by cases args; simp_all
  obtain ⟨rfl, rfl⟩ := trodVars_none hV
  have k0 := h0
  have lt0 : ∀ x ∈ p0, x.block < W.heap.size := by obtain ⟨m, hm⟩ := k0; exact DataW.trod_lt m _ _ _ hm
  obtain ⟨lA, ln, lc, rfl⟩ := okWide_slice Try.underlying43 (hval 0 43 v0 rfl rfl)
  obtain ⟨l, g0, rd0, cb0, cc0⟩ := reads_slice (e := shP) 30 (by kernel_rfl) k0
  have z0 := nilz_any Try.underlying43 k0
  clear hA0 hval0
  refine (walk lA ln lc l W g0 rd0 cb0 cc0 z0).mono fun e W' ⟨he, bel⟩ => ?_
  subst he
  exact ⟨_, rfl, _, _, _, [], _, [], hW', trodAll_mk1 (shut_bool Try.underlying4 _), (trodAll_cons_mk (Below.trod laidOut (by kernel_rfl) (of_decide_eq_true (by kernel_rfl)) k0 bel lt0) trodAll_mk0), rfl, bel.frame _, fun h => by cases h⟩

theorem over : Rows.layoutTellsRow.holds Try.pinned (OpenSpec.ofChange Rows.layoutTellsSpec) :=
  OpenClaim.holds_of_wide 6 Try.f6 rfl rfl rfl rfl rfl rfl rfl ⟨rfl, rfl, rfl, rfl, rfl⟩ rfl rfl rfl rfl rfl (by kernel_rfl) Try.func6 (by kernel_rfl)
    (of_decide_eq_true (by kernel_rfl)) (by unfold Func.isWrapper; first | (rw [if_pos (by decide +kernel)]; kernel_rfl) | (rw [if_neg (by decide +kernel)]; exact ⟨rfl, rfl⟩))
    (fun os started H enc _ => lifted os started H enc)

/-- The statement. -/
theorem proved : Rows.LayoutTellsSaid := over
end Go.Proofs.Ytejhjpdcodloaaa.lawLayoutTells
