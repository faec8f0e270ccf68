/- Any schedule's frame has, for any module, the document's slots, and as many ticks: for every schedule, version and module; no condition. -/
import Derived.RegionTactic
import Derived.IntWalk
import Derived.Deep.DeepCutAuto
import Derived.Deep.CutBlock
import Derived.Laws.StructEq
import Derived.Test.YtkdmcnkahiimoaaPlnG
import Derived.Test.YtkdmcnkahiimoaaPlnH
import Derived.Test.YtkdmcnkahiimoaaPlnI
import Derived.Test.YtkdmcnkahiimoaaPlnJ
import Derived.Test.YtkdmcnkahiimoaaPlnO
import Derived.Test.YtkdmcnkahiimoaaRows
import Derived.WalkKit
import Derived.ProofKit
import Derived.OpenShut
import Derived.ShutString
import Derived.ChangeOld
import Derived.Below
namespace Go.Proofs.Ytkdmcnkahiimoaa.lawPlanViews
open Go.ChangeShapes Go.WideShapes Go.ChangeAt Go.RowKit Base
open Go.ChangeMaps (open_string shut_string)
set_option linter.unusedVariables false
set_option linter.unusedSimpArgs false
theorem own : ownKnob Try.prog.godebug = none := by kernel_rfl
theorem laidOut : laidOutB Try.prog = true := by kernel_rfl
open Ly7

set_option maxRecDepth 100000 in
set_option maxHeartbeats 4000000 in
theorem walk_yes (md : Int) (A0 : Option Addr) (n0 c0 : Nat) (A1 : Option Addr) (n1 c1 : Nat) (ws0 ws1 : List Wd) (A : Option Addr) (n c : Nat) (ws : List Wd) (ver : Nat) (y : Int) (w : World) (hv : (ver = 0 ∧ A = A0 ∧ n = n0 ∧ c = c0) ∨ (ver = 1 ∧ A = A1 ∧ n = n1 ∧ c = c1))
    (hws : (ver = 0 ∧ ws = ws0 ∧ n = n0) ∨ (ver = 1 ∧ ws = ws1 ∧ n = n1)) (hW0 : WinsAt w A0 n0 ws0) (hW1 : WinsAt w A1 n1 ws1) (hW : WinsAt w A n ws) (h0 : n0 ≤ 9223372036854775807) (h1 : n1 ≤ 9223372036854775807) :
    Calls Try.prog 3 #[.agg #[.int .i64 md, .slice A0 n0 c0, .slice A1 n1 c1], .int .i64 (ver : Int), .int .i64 y] w fun e w' => e = .returned (.bool true) ∧ Below w.heap.size w w' := by
  have HV := Lib.hid hv
  have HWS := Lib.hid hws
  have v1 : (ver : Int) ≤ 1 := by omega
  have v2 : (ver : Int) < 2 := by omega
  have v2n : ¬ (2 : Int) ≤ (ver : Int) := by omega
  have hver : ver < 2 := by omega
  obtain ⟨gb, HGB⟩ : ∃ gb, Hid (w.heap.size = gb) := ⟨_, Lib.hid rfl⟩
  obtain ⟨W1, HW1⟩ : ∃ W1, W1 = w.alloc (.cells #[.int .i64 md, .slice A0 n0 c0, .slice A1 n1 c1] 25) := ⟨_, rfl⟩
  have HB1 : Hid (Below w.heap.size w W1) := Lib.hid (by rw [HW1]; exact bel1 _ _)
  have HOB : Hid (Obj1 W1 gb 25 #[.int .i64 md, .slice A0 n0 c0, .slice A1 n1 c1]) := Lib.hid (by rw [HW1, ← HGB.out]; exact Obj1.new _ _ _)
  have HF := Lib.hid (few_any md A0 n0 c0 A1 n1 c1 ws0 ws1 W1 (hW0.kept HB1.out) (hW1.kept HB1.out) h0 h1)
  have HFV : Hid (∀ W, Below W1.heap.size W1 W → W.cell? ⟨gb, 1 + ver, none⟩ = some (.slice A n c)) := Lib.hid (fun W hW => by
    rw [(HOB.out.kept hW).cell]
    rcases HV.out with ⟨rfl, rfl, rfl, rfl⟩ | ⟨rfl, rfl, rfl, rfl⟩ <;> rfl)
  have HWW : Hid (∀ W, Below W1.heap.size W1 W → WinsAt W A n ws) := Lib.hid (fun W hB => hW.kept (HB1.out.trans (hB.mono HB1.out.size)))
  clear hW0 hW1 hW h0 h1 hv hws
  have d0 : W1.cell? ⟨gb, 0, none⟩ = some (.int .i64 md) := HOB.out.cell 0
  have d1 : W1.cell? ⟨gb, 1, none⟩ = some (.slice A0 n0 c0) := HOB.out.cell 1
  have d2 : W1.cell? ⟨gb, 2, none⟩ = some (.slice A1 n1 c1) := HOB.out.cell 2
  go_enter Try.func3, Try.ntmps3
  go_upto_region 1 with (fail)
  rw [← HW1, HGB.out]
  clear HW1
  go_wp2_with fail
  refine HF.out.mono ?_
  rintro e w2 ⟨r, rfl, hr, hb2⟩
  have HB2 := Lib.hid hb2
  clear hb2 d0 d1 d2 HF
  rcases hr with rfl | ⟨rfl, hf0, hf1⟩
  · go_wp2
    go_ret
    exact ⟨rfl, HB1.out.trans (HB2.out.mono HB1.out.size)⟩
  · have HFW : Hid (FewW n ws) := Lib.hid (by
      rcases HWS.out with ⟨_, rfl, rfl⟩ | ⟨_, rfl, rfl⟩
      · exact hf0
      · exact hf1)
    have hn60 : n ≤ 60 := HFW.out.1
    clear hf0 hf1 HWS
    have HO2 := Lib.hid (HOB.out.kept HB2.out)
    have d0 : w2.cell? ⟨gb, 0, none⟩ = some (.int .i64 md) := HO2.out.cell 0
    have d1 : w2.cell? ⟨gb, 1, none⟩ = some (.slice A0 n0 c0) := HO2.out.cell 1
    have d2 : w2.cell? ⟨gb, 2, none⟩ = some (.slice A1 n1 c1) := HO2.out.cell 2
    have HVW := Lib.hid (view_any md A0 n0 c0 A1 n1 c1 A n c ver y ws w2 HV.out (HWW.out w2 HB2.out) (by omega))
    go_wp2_with fail
    refine HVW.out.mono ?_
    rintro e w3 ⟨v3, rfl, HR3, HB3⟩
    obtain ⟨L, HL⟩ : ∃ L, Hid (viewL ver y ws = L) := ⟨_, Lib.hid rfl⟩
    rw [HL.out] at HR3
    have HLB : Hid (∀ z ∈ L, 0 ≤ z.l ∧ z.l ≤ 20000) := Lib.hid (by rw [← HL.out]; exact view_bd ver hver y ws)
    have hLN : L.length ≤ 62 := by
      have := view_len ver y ws
      rw [HL.out, (HWW.out W1 (Below.refl _ _)).len] at this
      omega
    have HLS : Hid (sumS L = endS ws (leadI ver) + 120) := Lib.hid (by rw [← HL.out]; exact view_sum ver y ws)
    obtain ⟨A3, c3, rfl, hs3⟩ := slots_own HR3.out rfl
    have HS3 := Lib.hid hs3
    obtain ⟨N, HN⟩ : ∃ N, Hid (L.length = N) := ⟨_, Lib.hid rfl⟩
    rw [HN.out] at HS3 hLN ⊢
    have HC3 := Lib.hid (HB2.out.trans (HB3.out.mono HB2.out.size))
    have HO3 := Lib.hid (HOB.out.kept HC3.out)
    have HOW := Lib.hid (own_any A n c ws w3 (HWW.out w3 HC3.out) (by omega))
    have f3 := HFV.out w3 HC3.out
    clear d0 d1 d2 HVW hs3 HR3 HO2
    go_wp2_with fail
    refine HOW.out.mono ?_
    rintro e w4 ⟨B4, c4, rfl, HW4, HB4⟩
    have HRV := Lib.hid (rview_any B4 n c4 ver y ws w4 hver HW4.out (by omega) (fun x hx => Nat.le_trans (HFW.out.2 x hx).2 (by omega)))
    rw [HL.out] at HRV
    clear f3 HOW
    go_wp2_with fail
    refine HRV.out.mono ?_
    rintro e w5 ⟨v5, rfl, HR5, HB5⟩
    obtain ⟨A5, c5, rfl, hs5⟩ := slots_own HR5.out rfl
    have HS5 := Lib.hid hs5
    rw [HN.out] at HS5 ⊢
    have HS3' := Lib.hid ((HS3.out.kept HB4.out).kept HB5.out)
    have HC5 := Lib.hid ((HC3.out.trans (HB4.out.mono HC3.out.size)).trans (HB5.out.mono (Nat.le_trans HC3.out.size HB4.out.size)))
    clear hs5 HR5 HRV HS3 HO3 HC3 HB3 HB4 HB5 HW4
    go_upto_block 0 with (fail)
    go_cut [9, 10, 11] from 52 to 111 (fun s _ _ wx => s = .int .i64 (sumS L) ∧ Below w5.heap.size w5 wx)
    case first =>
      go_wp2_with fail
      go_loopw [9, 10] (fun s i wx => ∃ k : Nat, k ≤ N ∧ i = .int .i64 k ∧ s = .int .i64 (sumS (L.take k)) ∧ Below w5.heap.size w5 wx) (fun _ i _ => N - (intOf i).toNat)
      case atStart => exact ⟨0, by omega, rfl, rfl, Below.refl _ _⟩
      case round =>
        obtain ⟨k, hk, rfl, rfl, hbel⟩ := hrel
        have HBEL := Lib.hid hbel
        clear hbel
        by_cases hlt : k < N
        · have hki : (k : Int) < (N : Int) := by omega
          have hkl : k < L.length := by rw [HN.out]; exact hlt
          obtain ⟨x, hx⟩ : ∃ x, L[k]? = some x := ⟨_, List.getElem?_eq_getElem hkl⟩
          have hxb := HLB.out x (List.mem_of_getElem? hx)
          have hsb := sum_bd (L.take k) (fun z hz => HLB.out z (List.mem_of_mem_take hz))
          have hlk : (L.take k).length ≤ 62 := by rw [List.length_take]; omega
          have HSN := Lib.hid (sum_snoc hx)
          obtain ⟨b3, o3, rfl, hb3, k0, k1, k2, k3, k4, k5, k6, k7⟩ := (HS3'.out.kept HBEL.out).eight hlt hx
          obtain ⟨b5, o5, rfl, hb5, j0, j1, j2, j3, j4, j5, j6, j7⟩ := (HS5.out.kept HBEL.out).eight hlt hx
          obtain ⟨S, hS⟩ : ∃ S, sumS (L.take k) = S := ⟨_, rfl⟩
          rw [hS] at hsb HSN ⊢
          have hww : IntKind.i64.wrap (S + x.l) = S + x.l := IntWalk.i64_in _ (by omega)
          have HK : Hid (∀ W, Below wr.heap.size wr W → W.cell? ⟨b3, o3 + k * 8, none⟩ = some (.int .i64 x.k) ∧ W.cell? ⟨b3, o3 + k * 8 + 1, none⟩ = some (.int .i64 x.s) ∧ W.cell? ⟨b3, o3 + k * 8 + 2, none⟩ = some (.int .i64 x.l) ∧ W.cell? ⟨b3, o3 + k * 8 + 3, none⟩ = some (.int .i64 x.wo) ∧ W.cell? ⟨b3, o3 + k * 8 + 4, none⟩ = some (.int .i64 x.ad) ∧ W.cell? ⟨b3, o3 + k * 8 + 5, none⟩ = some (.int .i64 x.mn) ∧ W.cell? ⟨b3, o3 + k * 8 + 6, none⟩ = some (.int .i64 x.cn) ∧ W.cell? ⟨b3, o3 + k * 8 + 7, none⟩ = some (.bool x.tk)) :=
            Lib.hid (fun W hW => ⟨(hW.cell (p := ⟨b3, o3 + k * 8, none⟩) hb3).trans k0, (hW.cell (p := ⟨b3, o3 + k * 8 + 1, none⟩) hb3).trans k1, (hW.cell (p := ⟨b3, o3 + k * 8 + 2, none⟩) hb3).trans k2, (hW.cell (p := ⟨b3, o3 + k * 8 + 3, none⟩) hb3).trans k3, (hW.cell (p := ⟨b3, o3 + k * 8 + 4, none⟩) hb3).trans k4, (hW.cell (p := ⟨b3, o3 + k * 8 + 5, none⟩) hb3).trans k5, (hW.cell (p := ⟨b3, o3 + k * 8 + 6, none⟩) hb3).trans k6, (hW.cell (p := ⟨b3, o3 + k * 8 + 7, none⟩) hb3).trans k7⟩)
          have HJ : Hid (∀ W, Below wr.heap.size wr W → W.cell? ⟨b5, o5 + k * 8, none⟩ = some (.int .i64 x.k) ∧ W.cell? ⟨b5, o5 + k * 8 + 1, none⟩ = some (.int .i64 x.s) ∧ W.cell? ⟨b5, o5 + k * 8 + 2, none⟩ = some (.int .i64 x.l) ∧ W.cell? ⟨b5, o5 + k * 8 + 3, none⟩ = some (.int .i64 x.wo) ∧ W.cell? ⟨b5, o5 + k * 8 + 4, none⟩ = some (.int .i64 x.ad) ∧ W.cell? ⟨b5, o5 + k * 8 + 5, none⟩ = some (.int .i64 x.mn) ∧ W.cell? ⟨b5, o5 + k * 8 + 6, none⟩ = some (.int .i64 x.cn) ∧ W.cell? ⟨b5, o5 + k * 8 + 7, none⟩ = some (.bool x.tk)) :=
            Lib.hid (fun W hW => ⟨(hW.cell (p := ⟨b5, o5 + k * 8, none⟩) hb5).trans j0, (hW.cell (p := ⟨b5, o5 + k * 8 + 1, none⟩) hb5).trans j1, (hW.cell (p := ⟨b5, o5 + k * 8 + 2, none⟩) hb5).trans j2, (hW.cell (p := ⟨b5, o5 + k * 8 + 3, none⟩) hb5).trans j3, (hW.cell (p := ⟨b5, o5 + k * 8 + 4, none⟩) hb5).trans j4, (hW.cell (p := ⟨b5, o5 + k * 8 + 5, none⟩) hb5).trans j5, (hW.cell (p := ⟨b5, o5 + k * 8 + 6, none⟩) hb5).trans j6, (hW.cell (p := ⟨b5, o5 + k * 8 + 7, none⟩) hb5).trans j7⟩)
          clear hx hS hsb hlk k0 k1 k2 k3 k4 k5 k6 k7 j0 j1 j2 j3 j4 j5 j6 j7 hb3 hb5 hxb
          go_upto_region 13 with (fail)
          have hdr : Below wr.heap.size wr wr.drew := bel_drew wr
          have K0 : ∀ z : Kin wr.drew, z.world.cell? ⟨b3, o3 + k * 8, none⟩ = some (.int .i64 x.k) := fun z => (HK.out z.world (hdr.trans z.below)).1
          have K1 : ∀ z : Kin wr.drew, z.world.cell? ⟨b3, o3 + k * 8 + 1, none⟩ = some (.int .i64 x.s) := fun z => (HK.out z.world (hdr.trans z.below)).2.1
          have K2 : ∀ z : Kin wr.drew, z.world.cell? ⟨b3, o3 + k * 8 + 2, none⟩ = some (.int .i64 x.l) := fun z => (HK.out z.world (hdr.trans z.below)).2.2.1
          have K3 : ∀ z : Kin wr.drew, z.world.cell? ⟨b3, o3 + k * 8 + 3, none⟩ = some (.int .i64 x.wo) := fun z => (HK.out z.world (hdr.trans z.below)).2.2.2.1
          have K4 : ∀ z : Kin wr.drew, z.world.cell? ⟨b3, o3 + k * 8 + 4, none⟩ = some (.int .i64 x.ad) := fun z => (HK.out z.world (hdr.trans z.below)).2.2.2.2.1
          have K5 : ∀ z : Kin wr.drew, z.world.cell? ⟨b3, o3 + k * 8 + 5, none⟩ = some (.int .i64 x.mn) := fun z => (HK.out z.world (hdr.trans z.below)).2.2.2.2.2.1
          have K6 : ∀ z : Kin wr.drew, z.world.cell? ⟨b3, o3 + k * 8 + 6, none⟩ = some (.int .i64 x.cn) := fun z => (HK.out z.world (hdr.trans z.below)).2.2.2.2.2.2.1
          have K7 : ∀ z : Kin wr.drew, z.world.cell? ⟨b3, o3 + k * 8 + 7, none⟩ = some (.bool x.tk) := fun z => (HK.out z.world (hdr.trans z.below)).2.2.2.2.2.2.2
          refine wp_region_specL 42 [.d (.slice (some ⟨b3, o3, none⟩) N c3), .d (.int .i64 k), .d (.pointer (some ⟨b3, o3 + k * 8, none⟩)), .d (.pointer (some ⟨b3, o3 + k * 8, none⟩)), .d (.int .i64 x.k), .d (.slice (some ⟨b3, o3, none⟩) N c3), .d (.int .i64 k), .d (.pointer (some ⟨b3, o3 + k * 8, none⟩)), .d (.pointer (some ⟨b3, o3 + k * 8 + 1, none⟩)), .d (.int .i64 x.s), .d (.slice (some ⟨b3, o3, none⟩) N c3), .d (.int .i64 k), .d (.pointer (some ⟨b3, o3 + k * 8, none⟩)), .d (.pointer (some ⟨b3, o3 + k * 8 + 2, none⟩)), .d (.int .i64 x.l), .d (.slice (some ⟨b3, o3, none⟩) N c3), .d (.int .i64 k), .d (.pointer (some ⟨b3, o3 + k * 8, none⟩)), .d (.pointer (some ⟨b3, o3 + k * 8 + 3, none⟩)), .d (.int .i64 x.wo), .d (.slice (some ⟨b3, o3, none⟩) N c3), .d (.int .i64 k), .d (.pointer (some ⟨b3, o3 + k * 8, none⟩)), .d (.pointer (some ⟨b3, o3 + k * 8 + 4, none⟩)), .d (.int .i64 x.ad), .d (.slice (some ⟨b3, o3, none⟩) N c3), .d (.int .i64 k), .d (.pointer (some ⟨b3, o3 + k * 8, none⟩)), .d (.pointer (some ⟨b3, o3 + k * 8 + 5, none⟩)), .d (.int .i64 x.mn), .d (.slice (some ⟨b3, o3, none⟩) N c3), .d (.int .i64 k), .d (.pointer (some ⟨b3, o3 + k * 8, none⟩)), .d (.pointer (some ⟨b3, o3 + k * 8 + 6, none⟩)), .d (.int .i64 x.cn), .d (.slice (some ⟨b3, o3, none⟩) N c3), .d (.int .i64 k), .d (.pointer (some ⟨b3, o3 + k * 8, none⟩)), .d (.pointer (some ⟨b3, o3 + k * 8 + 7, none⟩)), .d (.bool x.tk), .d (.agg #[.int .i64 x.k, .int .i64 x.s, .int .i64 x.l, .int .i64 x.wo, .int .i64 x.ad, .int .i64 x.mn, .int .i64 x.cn, .bool x.tk]), .g (NewP wr.heap.size 37 #[.int .i64 0, .int .i64 0, .int .i64 0, .int .i64 0, .int .i64 0, .int .i64 0, .int .i64 0, .bool false])] (by kernel_rfl) (by kernel_rfl) ?_
          refine spec_d rfl (fun x _ => gives_run (by go_simp)) ?_
          try simp only [Act.put, List.getElem_toArray, List.getElem_cons_succ, List.getElem_cons_zero, List.setIfInBounds_toArray, List.set_cons_zero, List.set_cons_succ]
          refine spec_d rfl (fun x _ => gives_run (by go_simp)) ?_
          try simp only [Act.put, List.getElem_toArray, List.getElem_cons_succ, List.getElem_cons_zero, List.setIfInBounds_toArray, List.set_cons_zero, List.set_cons_succ]
          refine spec_d rfl (fun x _ => gives_run (by go_simp)) ?_
          try simp only [Act.put, List.getElem_toArray, List.getElem_cons_succ, List.getElem_cons_zero, List.setIfInBounds_toArray, List.set_cons_zero, List.set_cons_succ]
          refine spec_d rfl (fun x _ => gives_run (by go_simp)) ?_
          try simp only [Act.put, List.getElem_toArray, List.getElem_cons_succ, List.getElem_cons_zero, List.setIfInBounds_toArray, List.set_cons_zero, List.set_cons_succ]
          refine spec_d rfl (fun x _ => gives_run (by go_simp)) ?_
          try simp only [Act.put, List.getElem_toArray, List.getElem_cons_succ, List.getElem_cons_zero, List.setIfInBounds_toArray, List.set_cons_zero, List.set_cons_succ]
          refine spec_d rfl (fun x _ => gives_run (by go_simp)) ?_
          try simp only [Act.put, List.getElem_toArray, List.getElem_cons_succ, List.getElem_cons_zero, List.setIfInBounds_toArray, List.set_cons_zero, List.set_cons_succ]
          refine spec_d rfl (fun x _ => gives_run (by go_simp)) ?_
          try simp only [Act.put, List.getElem_toArray, List.getElem_cons_succ, List.getElem_cons_zero, List.setIfInBounds_toArray, List.set_cons_zero, List.set_cons_succ]
          refine spec_d rfl (fun x _ => gives_run (by go_simp)) ?_
          try simp only [Act.put, List.getElem_toArray, List.getElem_cons_succ, List.getElem_cons_zero, List.setIfInBounds_toArray, List.set_cons_zero, List.set_cons_succ]
          refine spec_d rfl (fun x _ => gives_run (by go_simp)) ?_
          try simp only [Act.put, List.getElem_toArray, List.getElem_cons_succ, List.getElem_cons_zero, List.setIfInBounds_toArray, List.set_cons_zero, List.set_cons_succ]
          refine spec_d rfl (fun x _ => gives_run (by go_simp)) ?_
          try simp only [Act.put, List.getElem_toArray, List.getElem_cons_succ, List.getElem_cons_zero, List.setIfInBounds_toArray, List.set_cons_zero, List.set_cons_succ]
          refine spec_d rfl (fun x _ => gives_run (by go_simp)) ?_
          try simp only [Act.put, List.getElem_toArray, List.getElem_cons_succ, List.getElem_cons_zero, List.setIfInBounds_toArray, List.set_cons_zero, List.set_cons_succ]
          refine spec_d rfl (fun x _ => gives_run (by go_simp)) ?_
          try simp only [Act.put, List.getElem_toArray, List.getElem_cons_succ, List.getElem_cons_zero, List.setIfInBounds_toArray, List.set_cons_zero, List.set_cons_succ]
          refine spec_d rfl (fun x _ => gives_run (by go_simp)) ?_
          try simp only [Act.put, List.getElem_toArray, List.getElem_cons_succ, List.getElem_cons_zero, List.setIfInBounds_toArray, List.set_cons_zero, List.set_cons_succ]
          refine spec_d rfl (fun x _ => gives_run (by go_simp)) ?_
          try simp only [Act.put, List.getElem_toArray, List.getElem_cons_succ, List.getElem_cons_zero, List.setIfInBounds_toArray, List.set_cons_zero, List.set_cons_succ]
          refine spec_d rfl (fun x _ => gives_run (by go_simp)) ?_
          try simp only [Act.put, List.getElem_toArray, List.getElem_cons_succ, List.getElem_cons_zero, List.setIfInBounds_toArray, List.set_cons_zero, List.set_cons_succ]
          refine spec_d rfl (fun x _ => gives_run (by go_simp)) ?_
          try simp only [Act.put, List.getElem_toArray, List.getElem_cons_succ, List.getElem_cons_zero, List.setIfInBounds_toArray, List.set_cons_zero, List.set_cons_succ]
          refine spec_d rfl (fun x _ => gives_run (by go_simp)) ?_
          try simp only [Act.put, List.getElem_toArray, List.getElem_cons_succ, List.getElem_cons_zero, List.setIfInBounds_toArray, List.set_cons_zero, List.set_cons_succ]
          refine spec_d rfl (fun x _ => gives_run (by go_simp)) ?_
          try simp only [Act.put, List.getElem_toArray, List.getElem_cons_succ, List.getElem_cons_zero, List.setIfInBounds_toArray, List.set_cons_zero, List.set_cons_succ]
          refine spec_d rfl (fun x _ => gives_run (by go_simp)) ?_
          try simp only [Act.put, List.getElem_toArray, List.getElem_cons_succ, List.getElem_cons_zero, List.setIfInBounds_toArray, List.set_cons_zero, List.set_cons_succ]
          refine spec_d rfl (fun x _ => gives_run (by go_simp)) ?_
          try simp only [Act.put, List.getElem_toArray, List.getElem_cons_succ, List.getElem_cons_zero, List.setIfInBounds_toArray, List.set_cons_zero, List.set_cons_succ]
          refine spec_d rfl (fun x _ => gives_run (by go_simp)) ?_
          try simp only [Act.put, List.getElem_toArray, List.getElem_cons_succ, List.getElem_cons_zero, List.setIfInBounds_toArray, List.set_cons_zero, List.set_cons_succ]
          refine spec_d rfl (fun x _ => gives_run (by go_simp)) ?_
          try simp only [Act.put, List.getElem_toArray, List.getElem_cons_succ, List.getElem_cons_zero, List.setIfInBounds_toArray, List.set_cons_zero, List.set_cons_succ]
          refine spec_d rfl (fun x _ => gives_run (by go_simp)) ?_
          try simp only [Act.put, List.getElem_toArray, List.getElem_cons_succ, List.getElem_cons_zero, List.setIfInBounds_toArray, List.set_cons_zero, List.set_cons_succ]
          refine spec_d rfl (fun x _ => gives_run (by go_simp)) ?_
          try simp only [Act.put, List.getElem_toArray, List.getElem_cons_succ, List.getElem_cons_zero, List.setIfInBounds_toArray, List.set_cons_zero, List.set_cons_succ]
          refine spec_d rfl (fun x _ => gives_run (by go_simp)) ?_
          try simp only [Act.put, List.getElem_toArray, List.getElem_cons_succ, List.getElem_cons_zero, List.setIfInBounds_toArray, List.set_cons_zero, List.set_cons_succ]
          refine spec_d rfl (fun x _ => gives_run (by go_simp)) ?_
          try simp only [Act.put, List.getElem_toArray, List.getElem_cons_succ, List.getElem_cons_zero, List.setIfInBounds_toArray, List.set_cons_zero, List.set_cons_succ]
          refine spec_d rfl (fun x _ => gives_run (by go_simp)) ?_
          try simp only [Act.put, List.getElem_toArray, List.getElem_cons_succ, List.getElem_cons_zero, List.setIfInBounds_toArray, List.set_cons_zero, List.set_cons_succ]
          refine spec_d rfl (fun x _ => gives_run (by go_simp)) ?_
          try simp only [Act.put, List.getElem_toArray, List.getElem_cons_succ, List.getElem_cons_zero, List.setIfInBounds_toArray, List.set_cons_zero, List.set_cons_succ]
          refine spec_d rfl (fun x _ => gives_run (by go_simp)) ?_
          try simp only [Act.put, List.getElem_toArray, List.getElem_cons_succ, List.getElem_cons_zero, List.setIfInBounds_toArray, List.set_cons_zero, List.set_cons_succ]
          refine spec_d rfl (fun x _ => gives_run (by go_simp)) ?_
          try simp only [Act.put, List.getElem_toArray, List.getElem_cons_succ, List.getElem_cons_zero, List.setIfInBounds_toArray, List.set_cons_zero, List.set_cons_succ]
          refine spec_d rfl (fun x _ => gives_run (by go_simp)) ?_
          try simp only [Act.put, List.getElem_toArray, List.getElem_cons_succ, List.getElem_cons_zero, List.setIfInBounds_toArray, List.set_cons_zero, List.set_cons_succ]
          refine spec_d rfl (fun x _ => gives_run (by go_simp)) ?_
          try simp only [Act.put, List.getElem_toArray, List.getElem_cons_succ, List.getElem_cons_zero, List.setIfInBounds_toArray, List.set_cons_zero, List.set_cons_succ]
          refine spec_d rfl (fun x _ => gives_run (by go_simp)) ?_
          try simp only [Act.put, List.getElem_toArray, List.getElem_cons_succ, List.getElem_cons_zero, List.setIfInBounds_toArray, List.set_cons_zero, List.set_cons_succ]
          refine spec_d rfl (fun x _ => gives_run (by go_simp)) ?_
          try simp only [Act.put, List.getElem_toArray, List.getElem_cons_succ, List.getElem_cons_zero, List.setIfInBounds_toArray, List.set_cons_zero, List.set_cons_succ]
          refine spec_d rfl (fun x _ => gives_run (by go_simp)) ?_
          try simp only [Act.put, List.getElem_toArray, List.getElem_cons_succ, List.getElem_cons_zero, List.setIfInBounds_toArray, List.set_cons_zero, List.set_cons_succ]
          refine spec_d rfl (fun x _ => gives_run (by go_simp)) ?_
          try simp only [Act.put, List.getElem_toArray, List.getElem_cons_succ, List.getElem_cons_zero, List.setIfInBounds_toArray, List.set_cons_zero, List.set_cons_succ]
          refine spec_d rfl (fun x _ => gives_run (by go_simp)) ?_
          try simp only [Act.put, List.getElem_toArray, List.getElem_cons_succ, List.getElem_cons_zero, List.setIfInBounds_toArray, List.set_cons_zero, List.set_cons_succ]
          refine spec_d rfl (fun x _ => gives_run (by go_simp)) ?_
          try simp only [Act.put, List.getElem_toArray, List.getElem_cons_succ, List.getElem_cons_zero, List.setIfInBounds_toArray, List.set_cons_zero, List.set_cons_succ]
          refine spec_d rfl (fun x _ => gives_run (by go_simp)) ?_
          try simp only [Act.put, List.getElem_toArray, List.getElem_cons_succ, List.getElem_cons_zero, List.setIfInBounds_toArray, List.set_cons_zero, List.set_cons_succ]
          refine spec_d rfl (fun x _ => gives_run (by go_simp)) ?_
          try simp only [Act.put, List.getElem_toArray, List.getElem_cons_succ, List.getElem_cons_zero, List.setIfInBounds_toArray, List.set_cons_zero, List.set_cons_succ]
          refine spec_d rfl (fun x _ => gives_run (by go_simp)) ?_
          try simp only [Act.put, List.getElem_toArray, List.getElem_cons_succ, List.getElem_cons_zero, List.setIfInBounds_toArray, List.set_cons_zero, List.set_cons_succ]
          refine spec_g (NewP.stable _ _ _) (NewP.ex _ _ (Nat.le_refl _)) rfl (fun z _ => gives_ok (by go_simp) (bel_new _ _) (NewP.new z.below.size)) ?_
          rintro vg ⟨xg, gx, rfl, hgx, _⟩
          try simp only [Act.put, List.getElem_toArray, List.getElem_cons_succ, List.getElem_cons_zero, List.setIfInBounds_toArray, List.set_cons_zero, List.set_cons_succ]
          refine spec_end (fun z hz => ?_)
          have hgo := NewP.at (hz _ (List.mem_singleton.2 rfl))
          have HGO := Lib.hid hgo
          have q0 := hgo.cell 0
          have f0 := hgo.free 0
          have q1 := hgo.cell 1
          have f1 := hgo.free 1
          have q2 := hgo.cell 2
          have f2 := hgo.free 2
          have q3 := hgo.cell 3
          have f3 := hgo.free 3
          have q4 := hgo.cell 4
          have f4 := hgo.free 4
          have q5 := hgo.cell 5
          have f5 := hgo.free 5
          have q6 := hgo.cell 6
          have f6 := hgo.free 6
          have q7 := hgo.cell 7
          have f7 := hgo.free 7
          clear hz hgo
          change wpAny _ _ _ _ (0 + 1) _ _ _
          refine wpAny_ready (rs := [42]) (by kernel_rfl) (by simp) ?_
          refine AllReady.cons rfl (fun KK hK => ?_) AllReady.nil
          go_simp
          refine hK _ _ ?_
          clear hK KK
          refine wpAny_done (by kernel_rfl) ?_ _
          have hbx := hdr.trans z.below
          have HBX := Lib.hid hbx
          have HGX8 := Lib.hid (((((((((HGO.out).set 0 (.int .i64 x.k)).set 1 (.int .i64 x.s)).set 2 (.int .i64 x.l)).set 3 (.int .i64 x.wo)).set 4 (.int .i64 x.ad)).set 5 (.int .i64 x.mn)).set 6 (.int .i64 x.cn)).set 7 (.bool x.tk))
          have HWX := Lib.hid (((((((((Wrote.refl gx z.world).set (p := ⟨gx, 0, none⟩) (.inl rfl) (.int .i64 x.k)).set (p := ⟨gx, 1, none⟩) (.inl rfl) (.int .i64 x.s)).set (p := ⟨gx, 2, none⟩) (.inl rfl) (.int .i64 x.l)).set (p := ⟨gx, 3, none⟩) (.inl rfl) (.int .i64 x.wo)).set (p := ⟨gx, 4, none⟩) (.inl rfl) (.int .i64 x.ad)).set (p := ⟨gx, 5, none⟩) (.inl rfl) (.int .i64 x.mn)).set (p := ⟨gx, 6, none⟩) (.inl rfl) (.int .i64 x.cn)).set (p := ⟨gx, 7, none⟩) (.inl rfl) (.bool x.tk))
          generalize ((((((((z.world).setCell ⟨gx, 0, none⟩ (.int .i64 x.k)).setCell ⟨gx, 1, none⟩ (.int .i64 x.s)).setCell ⟨gx, 2, none⟩ (.int .i64 x.l)).setCell ⟨gx, 3, none⟩ (.int .i64 x.wo)).setCell ⟨gx, 4, none⟩ (.int .i64 x.ad)).setCell ⟨gx, 5, none⟩ (.int .i64 x.mn)).setCell ⟨gx, 6, none⟩ (.int .i64 x.cn)).setCell ⟨gx, 7, none⟩ (.bool x.tk) = w7 at HGX8 HWX ⊢
          have HX7 : Hid (Obj1 w7 gx 37 #[.int .i64 x.k, .int .i64 x.s, .int .i64 x.l, .int .i64 x.wo, .int .i64 x.ad, .int .i64 x.mn, .int .i64 x.cn, .bool x.tk]) := Lib.hid HGX8.out
          have HB7 : Hid (Below wr.heap.size wr w7) := Lib.hid (HBX.out.trans ((HWX.out.below hgx HBX.out.size).mono (Nat.le_refl _)))
          clear K0 K1 K2 K3 K4 K5 K6 K7 q0 q1 q2 q3 q4 q5 q6 q7 f0 f1 f2 f3 f4 f5 f6 f7 HGX8 HWX HGO hbx hdr
          clear HBX z
          go_upto_region 14 with (fail)
          have hdr : Below w7.heap.size w7 w7.drew := bel_drew w7
          have X0 : ∀ z : Kin w7.drew, Obj1 z.world gx 37 #[.int .i64 x.k, .int .i64 x.s, .int .i64 x.l, .int .i64 x.wo, .int .i64 x.ad, .int .i64 x.mn, .int .i64 x.cn, .bool x.tk] := fun z => (HX7.out.drew).kept z.below
          have J0 : ∀ z : Kin w7.drew, z.world.cell? ⟨b5, o5 + k * 8, none⟩ = some (.int .i64 x.k) := fun z => (HJ.out z.world (HB7.out.trans ((hdr.trans z.below).mono HB7.out.size))).1
          have J1 : ∀ z : Kin w7.drew, z.world.cell? ⟨b5, o5 + k * 8 + 1, none⟩ = some (.int .i64 x.s) := fun z => (HJ.out z.world (HB7.out.trans ((hdr.trans z.below).mono HB7.out.size))).2.1
          have J2 : ∀ z : Kin w7.drew, z.world.cell? ⟨b5, o5 + k * 8 + 2, none⟩ = some (.int .i64 x.l) := fun z => (HJ.out z.world (HB7.out.trans ((hdr.trans z.below).mono HB7.out.size))).2.2.1
          have J3 : ∀ z : Kin w7.drew, z.world.cell? ⟨b5, o5 + k * 8 + 3, none⟩ = some (.int .i64 x.wo) := fun z => (HJ.out z.world (HB7.out.trans ((hdr.trans z.below).mono HB7.out.size))).2.2.2.1
          have J4 : ∀ z : Kin w7.drew, z.world.cell? ⟨b5, o5 + k * 8 + 4, none⟩ = some (.int .i64 x.ad) := fun z => (HJ.out z.world (HB7.out.trans ((hdr.trans z.below).mono HB7.out.size))).2.2.2.2.1
          have J5 : ∀ z : Kin w7.drew, z.world.cell? ⟨b5, o5 + k * 8 + 5, none⟩ = some (.int .i64 x.mn) := fun z => (HJ.out z.world (HB7.out.trans ((hdr.trans z.below).mono HB7.out.size))).2.2.2.2.2.1
          have J6 : ∀ z : Kin w7.drew, z.world.cell? ⟨b5, o5 + k * 8 + 6, none⟩ = some (.int .i64 x.cn) := fun z => (HJ.out z.world (HB7.out.trans ((hdr.trans z.below).mono HB7.out.size))).2.2.2.2.2.2.1
          have J7 : ∀ z : Kin w7.drew, z.world.cell? ⟨b5, o5 + k * 8 + 7, none⟩ = some (.bool x.tk) := fun z => (HJ.out z.world (HB7.out.trans ((hdr.trans z.below).mono HB7.out.size))).2.2.2.2.2.2.2
          have G0 : ∀ z : Kin w7.drew, z.world.cell? ⟨gx, 0, none⟩ = some (.int .i64 x.k) := fun z => (X0 z).cell 0
          have G1 : ∀ z : Kin w7.drew, z.world.cell? ⟨gx, 1, none⟩ = some (.int .i64 x.s) := fun z => (X0 z).cell 1
          have G2 : ∀ z : Kin w7.drew, z.world.cell? ⟨gx, 2, none⟩ = some (.int .i64 x.l) := fun z => (X0 z).cell 2
          have G3 : ∀ z : Kin w7.drew, z.world.cell? ⟨gx, 3, none⟩ = some (.int .i64 x.wo) := fun z => (X0 z).cell 3
          have G4 : ∀ z : Kin w7.drew, z.world.cell? ⟨gx, 4, none⟩ = some (.int .i64 x.ad) := fun z => (X0 z).cell 4
          have G5 : ∀ z : Kin w7.drew, z.world.cell? ⟨gx, 5, none⟩ = some (.int .i64 x.mn) := fun z => (X0 z).cell 5
          have G6 : ∀ z : Kin w7.drew, z.world.cell? ⟨gx, 6, none⟩ = some (.int .i64 x.cn) := fun z => (X0 z).cell 6
          have G7 : ∀ z : Kin w7.drew, z.world.cell? ⟨gx, 7, none⟩ = some (.bool x.tk) := fun z => (X0 z).cell 7
          refine wp_region_specL 6 [.d (.agg #[.int .i64 x.k, .int .i64 x.s, .int .i64 x.l, .int .i64 x.wo, .int .i64 x.ad, .int .i64 x.mn, .int .i64 x.cn, .bool x.tk]), .d (.slice (some ⟨b5, o5, none⟩) N c5), .d (.int .i64 k), .d (.pointer (some ⟨b5, o5 + k * 8, none⟩)), .d (.agg #[.int .i64 x.k, .int .i64 x.s, .int .i64 x.l, .int .i64 x.wo, .int .i64 x.ad, .int .i64 x.mn, .int .i64 x.cn, .bool x.tk]), .d (.bool false)] (by kernel_rfl) (by kernel_rfl) ?_
          refine spec_d rfl (fun x _ => gives_run (by go_simp)) ?_
          try simp only [Act.put, List.getElem_toArray, List.getElem_cons_succ, List.getElem_cons_zero, List.setIfInBounds_toArray, List.set_cons_zero, List.set_cons_succ]
          refine spec_d rfl (fun x _ => gives_run (by go_simp)) ?_
          try simp only [Act.put, List.getElem_toArray, List.getElem_cons_succ, List.getElem_cons_zero, List.setIfInBounds_toArray, List.set_cons_zero, List.set_cons_succ]
          refine spec_d rfl (fun x _ => gives_run (by go_simp)) ?_
          try simp only [Act.put, List.getElem_toArray, List.getElem_cons_succ, List.getElem_cons_zero, List.setIfInBounds_toArray, List.set_cons_zero, List.set_cons_succ]
          refine spec_d rfl (fun x _ => gives_run (by go_simp)) ?_
          try simp only [Act.put, List.getElem_toArray, List.getElem_cons_succ, List.getElem_cons_zero, List.setIfInBounds_toArray, List.set_cons_zero, List.set_cons_succ]
          refine spec_d rfl (fun x _ => gives_run (by go_simp)) ?_
          try simp only [Act.put, List.getElem_toArray, List.getElem_cons_succ, List.getElem_cons_zero, List.setIfInBounds_toArray, List.set_cons_zero, List.set_cons_succ]
          refine spec_d rfl (fun x _ => gives_run (by go_simp)) ?_
          try simp only [Act.put, List.getElem_toArray, List.getElem_cons_succ, List.getElem_cons_zero, List.setIfInBounds_toArray, List.set_cons_zero, List.set_cons_succ]
          refine spec_end (fun z hz => ?_)
          clear hz
          refine wpAny_done (by kernel_rfl) ?_ _
          have HB8 := Lib.hid (HB7.out.trans ((hdr.trans z.below).mono HB7.out.size))
          clear J0 J1 J2 J3 J4 J5 J6 J7 G0 G1 G2 G3 G4 G5 G6 G7 hdr X0
          generalize z.world = w8 at HB8 ⊢
          clear z
          have c2 := (HK.out w8 HB8.out).2.2.1
          go_wp2
          go_roundw
          case rel => exact ⟨k + 1, by omega, by go_num, by rw [HSN.out], HBEL.out.trans (HB8.out.mono HBEL.out.size)⟩
          case measure => simp [intOf]; omega
        · obtain rfl : k = N := by omega
          have HE : Hid (L.take k = L) := Lib.hid (List.take_of_length_le (by rw [HN.out]; exact Nat.le_refl _))
          rw [HE.out]
          go_wp2
          go_meet
          exact ⟨rfl, HBEL.out⟩
    case rest =>
      obtain ⟨rfl, hbc⟩ := hcut
      have HCC := Lib.hid (HC5.out.trans (hbc.mono HC5.out.size))
      clear hbc HS3' HS5 HC5
      have HOW := Lib.hid (own_any A n c ws wc (HWW.out wc HCC.out) (by omega))
      have f3 := HFV.out wc HCC.out
      go_wp2_with fail
      refine HOW.out.mono ?_
      rintro e w6 ⟨B6, c6, rfl, HW6, HB6⟩
      have HC6 := Lib.hid (HCC.out.trans (HB6.out.mono HCC.out.size))
      clear f3 HOW HCC
      go_upto_block 2 with (fail)
      go_cut [13] from 117 to 137 (fun _ wx => Below w6.heap.size w6 wx)
      case first =>
        go_wp2_with fail
        go_loopw [13] (fun i wx => ∃ k : Nat, k ≤ n ∧ i = .int .i64 k ∧ Below w6.heap.size w6 wx) (fun i _ => n - (intOf i).toNat)
        case atStart => exact ⟨0, by omega, rfl, Below.refl _ _⟩
        case round =>
          obtain ⟨k, hk, rfl, hbel⟩ := hrel
          have HBEL := Lib.hid hbel
          clear hbel
          by_cases hlt : k < n
          · have hki : (k : Int) < (n : Int) := by omega
            have hkl : k < ws.length := by rw [HW6.out.len]; exact hlt
            obtain ⟨x, hx⟩ : ∃ x, ws[k]? = some x := ⟨_, List.getElem?_eq_getElem hkl⟩
            have HC7 := Lib.hid (HC6.out.trans (HBEL.out.mono HC6.out.size))
            have HFV7 := Lib.hid (fun W (hW : Below wr.heap.size wr W) => HFV.out W (HC7.out.trans (hW.mono HC7.out.size)))
            obtain ⟨b, o, rfl, hb, k0, k1, k2, k3, k4, k5, hok⟩ := (HWW.out wr HC7.out).six hlt hx
            obtain ⟨b6, o6, rfl, hb6, j0, j1, j2, j3, j4, j5, _⟩ := (HW6.out.kept HBEL.out).six hlt hx
            obtain ⟨T, hT⟩ : ∃ T, x.tk = T := ⟨_, rfl⟩
            have HTK := Lib.hid (fun W => ticks_any x.k x.b x.wd x.ad x.A x.n x.c x.B x.m x.d x.g x.u x.q rfl rfl rfl hok.nc T hT W)
            have HBT := Lib.hid (fun W => rbits_any x.k x.b x.wd x.ad x.A x.n x.c x.B x.m x.d x.g x.u x.q rfl rfl rfl (Nat.le_trans hok.nc hok.cm) T hT W)
            obtain ⟨G, HG20, HBT'⟩ : ∃ G : Int, Hid (20 * G = T) ∧ Hid (∀ W, Calls Try.prog 16 #[.agg #[.int .i64 x.k, .int .i64 x.b, .int .i64 x.wd, .int .i64 x.ad, .slice x.A x.n x.c, .slice x.B x.m x.d]] W fun e w' => e = .returned (.int .i64 G) ∧ Below W.heap.size W w') := by
              refine ⟨T / 20, Lib.hid ?_, Lib.hid (fun W => (HBT.out W).mono (fun e w' ⟨G, he, hg, hb⟩ => ⟨by rw [he, show T / 20 = G by omega], hb⟩))⟩
              have h := hT
              unfold Wd.tk tkI at h
              split at h <;> (try split at h) <;> (try split at h) <;> omega
            have htb := x.tk_bd
            rw [hT] at htb
            have e20 : IntKind.i64.wrap (20 * G) = T := (IntWalk.i64_in _ (by have := HG20.out; omega)).trans HG20.out
            have HK : Hid (∀ W, Below wr.heap.size wr W → (∀ j v, W.cell? ⟨b, j, none⟩ = v ↔ wr.cell? ⟨b, j, none⟩ = v) ∧ (∀ j v, W.cell? ⟨b6, j, none⟩ = v ↔ wr.cell? ⟨b6, j, none⟩ = v)) := Lib.hid (fun W hW => ⟨fun j v => by rw [hW.cell (p := ⟨b, j, none⟩) hb], fun j v => by rw [hW.cell (p := ⟨b6, j, none⟩) hb6]⟩)
            go_upto_region 21 with (fail)
            have hdr : Below wr.heap.size wr wr.drew := bel_drew wr
            have F0 : ∀ z : Kin wr.drew, z.world.cell? ⟨gb, 1 + ver, none⟩ = some (.slice (some ⟨b, o, none⟩) n c) := fun z => HFV7.out z.world (hdr.trans z.below)
            have K0 : ∀ z : Kin wr.drew, z.world.cell? ⟨b, o + k * 6, none⟩ = some (.int .i64 x.k) := fun z => ((HK.out z.world (hdr.trans z.below)).1 _ _).2 k0
            have K1 : ∀ z : Kin wr.drew, z.world.cell? ⟨b, o + k * 6 + 1, none⟩ = some (.int .i64 x.b) := fun z => ((HK.out z.world (hdr.trans z.below)).1 _ _).2 k1
            have K2 : ∀ z : Kin wr.drew, z.world.cell? ⟨b, o + k * 6 + 2, none⟩ = some (.int .i64 x.wd) := fun z => ((HK.out z.world (hdr.trans z.below)).1 _ _).2 k2
            have K3 : ∀ z : Kin wr.drew, z.world.cell? ⟨b, o + k * 6 + 3, none⟩ = some (.int .i64 x.ad) := fun z => ((HK.out z.world (hdr.trans z.below)).1 _ _).2 k3
            have K4 : ∀ z : Kin wr.drew, z.world.cell? ⟨b, o + k * 6 + 4, none⟩ = some (.slice x.A x.n x.c) := fun z => ((HK.out z.world (hdr.trans z.below)).1 _ _).2 k4
            have K5 : ∀ z : Kin wr.drew, z.world.cell? ⟨b, o + k * 6 + 5, none⟩ = some (.slice x.B x.m x.d) := fun z => ((HK.out z.world (hdr.trans z.below)).1 _ _).2 k5
            have J0 : ∀ z : Kin wr.drew, z.world.cell? ⟨b6, o6 + k * 6, none⟩ = some (.int .i64 x.k) := fun z => ((HK.out z.world (hdr.trans z.below)).2 _ _).2 j0
            have J1 : ∀ z : Kin wr.drew, z.world.cell? ⟨b6, o6 + k * 6 + 1, none⟩ = some (.int .i64 x.b) := fun z => ((HK.out z.world (hdr.trans z.below)).2 _ _).2 j1
            have J2 : ∀ z : Kin wr.drew, z.world.cell? ⟨b6, o6 + k * 6 + 2, none⟩ = some (.int .i64 x.wd) := fun z => ((HK.out z.world (hdr.trans z.below)).2 _ _).2 j2
            have J3 : ∀ z : Kin wr.drew, z.world.cell? ⟨b6, o6 + k * 6 + 3, none⟩ = some (.int .i64 x.ad) := fun z => ((HK.out z.world (hdr.trans z.below)).2 _ _).2 j3
            have J4 : ∀ z : Kin wr.drew, z.world.cell? ⟨b6, o6 + k * 6 + 4, none⟩ = some (.slice x.A x.n x.c) := fun z => ((HK.out z.world (hdr.trans z.below)).2 _ _).2 j4
            have J5 : ∀ z : Kin wr.drew, z.world.cell? ⟨b6, o6 + k * 6 + 5, none⟩ = some (.slice x.B x.m x.d) := fun z => ((HK.out z.world (hdr.trans z.below)).2 _ _).2 j5
            clear k0 k1 k2 k3 k4 k5 j0 j1 j2 j3 j4 j5 hok hx hT htb HBT
            refine wp_region_specL 15 [.d (.int .i64 (ver : Int)), .d (.pointer (some ⟨gb, 1, none⟩)), .d (.pointer (some ⟨gb, 1 + ver, none⟩)), .d (.slice (some ⟨b, o, none⟩) n c), .d (.int .i64 k), .d (.pointer (some ⟨b, o + k * 6, none⟩)), .d (.agg #[.int .i64 x.k, .int .i64 x.b, .int .i64 x.wd, .int .i64 x.ad, .slice x.A x.n x.c, .slice x.B x.m x.d]), .d (.int .i64 T), .d (.slice (some ⟨b6, o6, none⟩) n c6), .d (.int .i64 k), .d (.pointer (some ⟨b6, o6 + k * 6, none⟩)), .d (.agg #[.int .i64 x.k, .int .i64 x.b, .int .i64 x.wd, .int .i64 x.ad, .slice x.A x.n x.c, .slice x.B x.m x.d]), .d (.int .i64 G), .d (.int .i64 T), .d (.bool false)] (by kernel_rfl) (by kernel_rfl) ?_
            refine spec_d rfl (fun x _ => gives_run (by go_simp)) ?_
            try simp only [Act.put, List.getElem_toArray, List.getElem_cons_succ, List.getElem_cons_zero, List.setIfInBounds_toArray, List.set_cons_zero, List.set_cons_succ]
            refine spec_d rfl (fun x _ => gives_run (by go_simp)) ?_
            try simp only [Act.put, List.getElem_toArray, List.getElem_cons_succ, List.getElem_cons_zero, List.setIfInBounds_toArray, List.set_cons_zero, List.set_cons_succ]
            refine spec_d rfl (fun x _ => gives_run (by go_simp)) ?_
            try simp only [Act.put, List.getElem_toArray, List.getElem_cons_succ, List.getElem_cons_zero, List.setIfInBounds_toArray, List.set_cons_zero, List.set_cons_succ]
            refine spec_d rfl (fun x _ => gives_run (by go_simp)) ?_
            try simp only [Act.put, List.getElem_toArray, List.getElem_cons_succ, List.getElem_cons_zero, List.setIfInBounds_toArray, List.set_cons_zero, List.set_cons_succ]
            refine spec_d rfl (fun x _ => gives_run (by go_simp)) ?_
            try simp only [Act.put, List.getElem_toArray, List.getElem_cons_succ, List.getElem_cons_zero, List.setIfInBounds_toArray, List.set_cons_zero, List.set_cons_succ]
            refine spec_d rfl (fun x _ => gives_run (by go_simp)) ?_
            try simp only [Act.put, List.getElem_toArray, List.getElem_cons_succ, List.getElem_cons_zero, List.setIfInBounds_toArray, List.set_cons_zero, List.set_cons_succ]
            refine spec_d rfl (fun x _ => gives_run (by go_simp)) ?_
            try simp only [Act.put, List.getElem_toArray, List.getElem_cons_succ, List.getElem_cons_zero, List.setIfInBounds_toArray, List.set_cons_zero, List.set_cons_succ]
            refine spec_d rfl (fun z _ => gives_det (by go_simp) (HTK.out z.world)) ?_
            try simp only [Act.put, List.getElem_toArray, List.getElem_cons_succ, List.getElem_cons_zero, List.setIfInBounds_toArray, List.set_cons_zero, List.set_cons_succ]
            refine spec_d rfl (fun x _ => gives_run (by go_simp)) ?_
            try simp only [Act.put, List.getElem_toArray, List.getElem_cons_succ, List.getElem_cons_zero, List.setIfInBounds_toArray, List.set_cons_zero, List.set_cons_succ]
            refine spec_d rfl (fun x _ => gives_run (by go_simp)) ?_
            try simp only [Act.put, List.getElem_toArray, List.getElem_cons_succ, List.getElem_cons_zero, List.setIfInBounds_toArray, List.set_cons_zero, List.set_cons_succ]
            refine spec_d rfl (fun x _ => gives_run (by go_simp)) ?_
            try simp only [Act.put, List.getElem_toArray, List.getElem_cons_succ, List.getElem_cons_zero, List.setIfInBounds_toArray, List.set_cons_zero, List.set_cons_succ]
            refine spec_d rfl (fun x _ => gives_run (by go_simp)) ?_
            try simp only [Act.put, List.getElem_toArray, List.getElem_cons_succ, List.getElem_cons_zero, List.setIfInBounds_toArray, List.set_cons_zero, List.set_cons_succ]
            refine spec_d rfl (fun z _ => gives_det (by go_simp) (HBT'.out z.world)) ?_
            try simp only [Act.put, List.getElem_toArray, List.getElem_cons_succ, List.getElem_cons_zero, List.setIfInBounds_toArray, List.set_cons_zero, List.set_cons_succ]
            refine spec_d rfl (fun x _ => gives_run (by go_simp)) ?_
            try simp only [Act.put, List.getElem_toArray, List.getElem_cons_succ, List.getElem_cons_zero, List.setIfInBounds_toArray, List.set_cons_zero, List.set_cons_succ]
            refine spec_d rfl (fun x _ => gives_run (by go_simp)) ?_
            try simp only [Act.put, List.getElem_toArray, List.getElem_cons_succ, List.getElem_cons_zero, List.setIfInBounds_toArray, List.set_cons_zero, List.set_cons_succ]
            refine spec_end (fun z hz => ?_)
            clear hz
            refine wpAny_done (by kernel_rfl) ?_ _
            have HB8 := Lib.hid (HBEL.out.trans ((hdr.trans z.below).mono HBEL.out.size))
            clear F0 K0 K1 K2 K3 K4 K5 J0 J1 J2 J3 J4 J5 hdr
            generalize z.world = w8 at HB8 ⊢
            clear z
            go_wp2
            go_roundw
            case rel => exact ⟨k + 1, by omega, by go_num, HB8.out⟩
            case measure => simp [intOf]; omega
          · obtain rfl : k = n := by omega
            go_wp2
            go_meet
            exact HBEL.out
      case rest =>
        have HC9 := Lib.hid (HC6.out.trans (hcut.mono HC6.out.size))
        have HO9 := Lib.hid (HOB.out.kept HC9.out)
        have d0 := HO9.out.cell 0
        have d1 := HO9.out.cell 1
        have d2 := HO9.out.cell 2
        simp at d0 d1 d2
        have HFR := Lib.hid (fun W (hW : Below W1.heap.size W1 W) => frame_any md A0 n0 c0 A1 n1 c1 A n c ver ws W HV.out (HWW.out W hW) (by omega))
        rw [HLS.out]
        obtain ⟨S, HS⟩ : ∃ S, Hid (endS ws (leadI ver) + 120 = S) := ⟨_, Lib.hid rfl⟩
        rw [HS.out] at HFR ⊢
        clear hcut
        go_wp2_with fail
        refine (HFR.out _ HC9.out).mono ?_
        rintro e wf ⟨rfl, hbf⟩
        have HCF := Lib.hid (HC9.out.trans (hbf.mono HC9.out.size))
        clear d0 d1 d2 hbf
        go_wp2_with fail
        refine (one_any _).mono ?_
        rintro e wo ⟨rfl, hbo⟩
        have HCO := Lib.hid (HCF.out.trans (hbo.mono HCF.out.size))
        clear hbo
        go_wp2
        go_ret
        exact ⟨rfl, HB1.out.trans (HCO.out.mono HB1.out.size)⟩
set_option maxHeartbeats 2000000 in
theorem walk_no (md : Int) (A0 : Option Addr) (n0 c0 : Nat) (A1 : Option Addr) (n1 c1 : Nat) (ws0 ws1 : List Wd) (ver y : Int) (w : World) (hv : ver < 0 ∨ 2 ≤ ver) (hW0 : WinsAt w A0 n0 ws0) (hW1 : WinsAt w A1 n1 ws1) (h0 : n0 ≤ 9223372036854775807) (h1 : n1 ≤ 9223372036854775807) :
    Calls Try.prog 3 #[.agg #[.int .i64 md, .slice A0 n0 c0, .slice A1 n1 c1], .int .i64 ver, .int .i64 y] w fun e w' => e = .returned (.bool true) ∧ Below w.heap.size w w' := by
  obtain ⟨gb, HGB⟩ : ∃ gb, Hid (w.heap.size = gb) := ⟨_, Lib.hid rfl⟩
  obtain ⟨W1, HW1⟩ : ∃ W1, W1 = w.alloc (.cells #[.int .i64 md, .slice A0 n0 c0, .slice A1 n1 c1] 25) := ⟨_, rfl⟩
  have HB1 : Hid (Below w.heap.size w W1) := Lib.hid (by rw [HW1]; exact bel1 _ _)
  have HOB : Hid (Obj1 W1 gb 25 #[.int .i64 md, .slice A0 n0 c0, .slice A1 n1 c1]) := Lib.hid (by rw [HW1, ← HGB.out]; exact Obj1.new _ _ _)
  have HF := Lib.hid (few_any md A0 n0 c0 A1 n1 c1 ws0 ws1 W1 (hW0.kept HB1.out) (hW1.kept HB1.out) h0 h1)
  have HVN := Lib.hid (fun W => view_no md A0 n0 c0 A1 n1 c1 ver y hv W)
  have HFN := Lib.hid (fun W => frame_no md A0 n0 c0 A1 n1 c1 ver hv W)
  have hv2 : ver < 0 ∨ (0 ≤ ver ∧ 1 < ver) := by omega
  clear hW0 hW1 h0 h1 hv
  have d0 : W1.cell? ⟨gb, 0, none⟩ = some (.int .i64 md) := HOB.out.cell 0
  have d1 : W1.cell? ⟨gb, 1, none⟩ = some (.slice A0 n0 c0) := HOB.out.cell 1
  have d2 : W1.cell? ⟨gb, 2, none⟩ = some (.slice A1 n1 c1) := HOB.out.cell 2
  go_enter Try.func3, Try.ntmps3
  go_upto_region 1 with (fail)
  rw [← HW1, HGB.out]
  clear HW1
  go_wp2_with fail
  refine HF.out.mono ?_
  rintro e w2 ⟨r, rfl, hr, hb2⟩
  have HB2 := Lib.hid hb2
  clear hb2 d0 d1 d2 HF
  rcases hr with rfl | ⟨rfl, hf0, hf1⟩
  · go_wp2
    go_ret
    exact ⟨rfl, HB1.out.trans (HB2.out.mono HB1.out.size)⟩
  · clear hf0 hf1
    have HO2 := Lib.hid (HOB.out.kept HB2.out)
    have d0 : w2.cell? ⟨gb, 0, none⟩ = some (.int .i64 md) := HO2.out.cell 0
    have d1 : w2.cell? ⟨gb, 1, none⟩ = some (.slice A0 n0 c0) := HO2.out.cell 1
    have d2 : w2.cell? ⟨gb, 2, none⟩ = some (.slice A1 n1 c1) := HO2.out.cell 2
    go_wp2_with fail
    refine (HVN.out _).mono ?_
    rintro e w3 ⟨rfl, hb3⟩
    have HC3 := Lib.hid (HB2.out.trans (hb3.mono HB2.out.size))
    have HO3 := Lib.hid (HOB.out.kept HC3.out)
    clear d0 d1 d2 hb3
    have d0 : w3.cell? ⟨gb, 0, none⟩ = some (.int .i64 md) := HO3.out.cell 0
    have d1 : w3.cell? ⟨gb, 1, none⟩ = some (.slice A0 n0 c0) := HO3.out.cell 1
    have d2 : w3.cell? ⟨gb, 2, none⟩ = some (.slice A1 n1 c1) := HO3.out.cell 2
    rcases hv2 with hv | ⟨hv, hv'⟩
    all_goals
      go_wp2_with fail
      refine (HFN.out _).mono ?_
      rintro e w4 ⟨rfl, hb4⟩
      have HC4 := Lib.hid (HC3.out.trans (hb4.mono HC3.out.size))
      clear d0 d1 d2 hb4
      go_wp2_with fail
      refine (one_any _).mono ?_
      rintro e wo ⟨rfl, hbo⟩
      have HCO := Lib.hid (HC4.out.trans (hbo.mono HC4.out.size))
      clear hbo
      go_wp2
      go_ret
      exact ⟨rfl, HB1.out.trans (HCO.out.mono HB1.out.size)⟩
theorem walk (cs : Array Value) (ver y : Int) (w : World) (hr : Reads w shS cs.toList) (a0 : -9223372036854775808 ≤ ver) (a1 : ver ≤ 9223372036854775807) (b0 : -9223372036854775808 ≤ y) (b1 : y ≤ 9223372036854775807) :
    Calls Try.prog 3 #[.agg cs, .int .i64 ver, .int .i64 y] w fun e w' => e = .returned (.bool true) ∧ Below w.heap.size w w' := by
  obtain ⟨md, A0, n0, c0, A1, n1, c1, ws0, ws1, rfl, hW0, hW1, h0, h1⟩ := sched_in hr
  rcases (show ver < 0 ∨ 2 ≤ ver ∨ ver = 0 ∨ ver = 1 by omega) with h | h | rfl | rfl
  · exact walk_no md A0 n0 c0 A1 n1 c1 ws0 ws1 ver y w (.inl h) hW0 hW1 h0 h1
  · exact walk_no md A0 n0 c0 A1 n1 c1 ws0 ws1 ver y w (.inr h) hW0 hW1 h0 h1
  · exact walk_yes md A0 n0 c0 A1 n1 c1 ws0 ws1 A0 n0 c0 ws0 0 y w (.inl ⟨rfl, rfl, rfl, rfl⟩) (.inl ⟨rfl, rfl, rfl⟩) hW0 hW1 hW0 h0 h1
  · exact walk_yes md A0 n0 c0 A1 n1 c1 ws0 ws1 A1 n1 c1 ws1 1 y w (.inr ⟨rfl, rfl, rfl, rfl⟩) (.inr ⟨rfl, rfl, rfl⟩) hW0 hW1 hW1 h0 h1

set_option maxRecDepth 100000 in
theorem lifted (os : Os) (started : os.Started) (H : Type) (enc : TypeId × Value → H) :
    ReturnsInHanded {} Try.checked os 3 .any (Rows.planViewsSpec.pre6 enc Try.prog Try.f3 Rows.planViewsRow.domain false) (Rows.planViewsSpec.post enc Try.prog Try.f3 false true false false) := by
  refine returnsInHanded_of_change (C := Try.checked) own started (by kernel_rfl) Try.func3
    (ChangeSpec.witness6 (enc := enc) (C := Try.checked) false ⟨#[], #[.agg #[.int .i64 0, .slice none 0 0, .slice none 0 0], .int .i64 0, .int .i64 0], []⟩ 8 (by kernel_rfl) (by kernel_rfl) (by kernel_rfl) (by kernel_rfl)) ?_
  intro W base args ds gs before hval0 hW hcnd _
  have hval : ∀ (j : Nat) t v, Try.f3.params[j]? = some t → args[j]? = some v → Value.okWide Try.prog W .any base t v := hval0
  have hW' := hW
  obtain ⟨p, q, hA0, hV, rfl, hfz, hnd⟩ := hW
  have hA : DataW.TrodAll enc Try.prog W 0 (fun _ => true) true Try.f3.params.toList args.toList ds p := hA0
  rw [Try.params3] at hA hval
  obtain ⟨v0, vs0, d0, ds0, p0, q0, hargs, rfl, rfl, h0, r0⟩ := trodAll_cons hA
  obtain ⟨v1, vs1, d1, ds1, p1, q1, rfl, rfl, rfl, h1, r1⟩ := trodAll_cons r0
  obtain ⟨v2, vs2, d2, ds2, p2, q2, rfl, rfl, rfl, h2, r2⟩ := trodAll_cons r1
  obtain ⟨rfl, rfl, rfl⟩ := trodAll_nil r2
  obtain rfl : args = #[v0, v1, v2] := by cases args; simp_all
  obtain ⟨rfl, rfl⟩ := trodVars_none hV
  have k0 := h0
  have lt0 : ∀ x ∈ p0, x.block < W.heap.size := by obtain ⟨m, hm⟩ := k0; exact DataW.trod_lt m _ _ _ hm
  obtain ⟨s, rfl⟩ := okWide_agg (by first | exact .inl ⟨_, Try.underlying25⟩ | exact .inr ⟨_, _, Try.underlying25⟩) (hval 0 25 v0 rfl rfl)
  have rd0 := reads_cells (sh := shS) 30 (by kernel_rfl) k0
  obtain ⟨version, rfl, rfl, rfl, wf1⟩ := open_int Try.underlying3 (hval 1 3 v1 rfl rfl) h1
  have bd1 := bounds_i64 wf1
  obtain ⟨module, rfl, rfl, rfl, wf2⟩ := open_int Try.underlying3 (hval 2 3 v2 rfl rfl) h2
  have bd2 := bounds_i64 wf2
  clear hA0 hval0
  refine (walk s version module W rd0 bd1.1 bd1.2 bd2.1 bd2.2).mono fun e W' ⟨he, bel⟩ => ?_
  subst he
  exact ⟨_, rfl, _, _, _, [], _, [], hW', trodAll_mk1 (shut_bool Try.underlying4 _), (trodAll_cons_mk (Below.trod laidOut (by kernel_rfl) (of_decide_eq_true (by kernel_rfl)) k0 bel lt0) (trodAll_cons_mk (shut_int Try.underlying3 wf1) (trodAll_cons_mk (shut_int Try.underlying3 wf2) trodAll_mk0))), rfl, bel.frame _, fun h => by cases h⟩

theorem over : Rows.planViewsRow.holds Try.pinned (OpenSpec.ofChange Rows.planViewsSpec) :=
  OpenClaim.holds_of_wide 3 Try.f3 rfl rfl rfl rfl rfl rfl rfl ⟨rfl, rfl, rfl, rfl, rfl⟩ rfl rfl rfl rfl rfl (by kernel_rfl) Try.func3 (by kernel_rfl)
    (of_decide_eq_true (by kernel_rfl)) (by unfold Func.isWrapper; first | (rw [if_pos (by decide +kernel)]; kernel_rfl) | (rw [if_neg (by decide +kernel)]; exact ⟨rfl, rfl⟩))
    (fun os started H enc _ => lifted os started H enc)

/-- The statement. -/
theorem proved : Rows.PlanViewsSaid := over
end Go.Proofs.Ytkdmcnkahiimoaa.lawPlanViews
