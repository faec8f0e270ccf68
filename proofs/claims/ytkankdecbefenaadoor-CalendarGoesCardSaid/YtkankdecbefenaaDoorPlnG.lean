/- The contract of package plan's View; no condition but sizes. -/
import Derived.Test.YtkankdecbefenaaDoorPlnF
namespace Go.Proofs.YtkankdecbefenaaDoor.Ly7
open Go.ChangeShapes Go.WideShapes Go.ChangeAt Go.RowKit Base
set_option linter.unusedVariables false
set_option linter.unusedSimpArgs false

set_option maxRecDepth 100000 in
set_option maxHeartbeats 400000 in
theorem view_any (md : Int) (A0 : Option Addr) (n0 c0 : Nat) (A1 : Option Addr) (n1 c1 : Nat) (A : Option Addr) (n c : Nat) (ver : Nat) (y : Int) (ws : List Wd) (w : World) (hv : (ver = 0 ∧ A = A0 ∧ n = n0 ∧ c = c0) ∨ (ver = 1 ∧ A = A1 ∧ n = n1 ∧ c = c1)) (hW : WinsAt w A n ws) (hn : n ≤ 900) :
    Calls Tryd.prog 21 #[.agg #[.int .i64 md, .slice A0 n0 c0, .slice A1 n1 c1], .int .i64 (ver : Int), .int .i64 y] w fun e w' => ∃ v, e = .returned v ∧ Hid (w'.ownsRow w.heap.size TSl 8 v (viewL ver y ws).length (slC (viewL ver y ws))) ∧ Hid (Below w.heap.size w w') := by
  obtain ⟨i0, hi, hz0, hz1, hz2⟩ := info_parts info_sl
  have HW := Lib.hid hW
  have HIS := Lib.hid (fun W => is_yes ver (by omega) W)
  have v2 : ver < 2 := by omega
  have v2i : (ver : Int) < 2 := by omega
  obtain ⟨gb, HGB⟩ : ∃ gb, Hid (w.heap.size = gb) := ⟨_, Lib.hid rfl⟩
  obtain ⟨W1, HW1⟩ : ∃ W1, W1 = w.alloc (.cells #[.int .i64 md, .slice A0 n0 c0, .slice A1 n1 c1] 25) := ⟨_, rfl⟩
  have HB1 : Hid (Below w.heap.size w W1) := Lib.hid (by rw [HW1]; exact bel1 _ _)
  have hF : W1.cell? ⟨gb, 1 + ver, none⟩ = some (.slice A n c) := by
    rw [HW1, ← HGB.out, (Obj1.new w _ _).cell]
    rcases hv with ⟨rfl, rfl, rfl, rfl⟩ | ⟨rfl, rfl, rfl, rfl⟩ <;> rfl
  have HF := Lib.hid hF
  have hgb1 : gb < W1.heap.size := World.block_lt_of_cell? W1 _ hF
  have e1 : IntKind.i64.wrap (2 * (ver : Int)) = 2 * (ver : Int) := IntWalk.i64_in _ (by omega)
  have e2 : IntKind.i64.wrap (10 + 2 * (ver : Int)) = 10 + 2 * (ver : Int) := IntWalk.i64_in _ (by omega)
  have e4 : IntKind.i64.wrap ((10 + 2 * (ver : Int)) * 20) = (10 + 2 * (ver : Int)) * 20 := IntWalk.i64_in _ (by omega)
  have e5 : (10 + 2 * (ver : Int)) * 20 = leadI ver := by unfold leadI; omega
  have HL := Lib.hid (show 0 ≤ leadI ver ∧ leadI ver ≤ 240 by unfold leadI; omega)
  rw [e5] at e4
  obtain ⟨N2, HN2⟩ : ∃ N2, Hid (n + 2 = N2) := ⟨_, Lib.hid rfl⟩
  have en : IntKind.i64.wrap ((n : Int) + 2) = (N2 : Int) := (IntWalk.i64_in _ (by omega)).trans (by have := HN2.out; omega)
  clear hv hW e5
  have cF := HF.out
  clear hF
  go_enter Tryd.func21, Tryd.ntmps21
  go_upto_region 1 with (fail)
  rw [← HW1, HGB.out]
  clear HW1
  go_upto_region 3 with (go_at_call 27; refine (HIS.out _).mono ?_; rintro e w' ⟨rfl, rfl⟩)
  go_upto_region 4 with (at_make; refine wpList_make_own _ rfl _ _ 50 rfl W1.heap.size TSl i0 (.agg #[.int .i64 0, .int .i64 0, .int .i64 0, .int .i64 0, .int .i64 0, .int .i64 0, .int .i64 0, .bool false]) 8 Tryd.underlying50 hi hz0 hz1 _ _ _ N2 rfl rfl rfl (by rw [hz2]; have := HN2.out; omega) (by have := HN2.out; unfold maxLen; omega) (Nat.le_refl _) ?_; intro w2 hown2 hgrow2)
  have HR2 := Lib.hid hown2
  have HG2 := Lib.hid hgrow2
  clear hown2 hgrow2
  have hgr : W1.heap.size < w2.heap.size := (HR2.out.lt _ rfl).2
  have HB2 := Lib.hid ((Below.refl W1.heap.size W1).grown HG2.out (Nat.le_refl _) (fun k h => by cases h))
  obtain ⟨gl, HGL⟩ : ∃ gl, Hid (w2.heap.size = gl) := ⟨_, Lib.hid rfl⟩
  obtain ⟨gr, HGR⟩ : ∃ gr, Hid (W1.heap.size = gr) := ⟨_, Lib.hid rfl⟩
  obtain ⟨W3, HW3⟩ : ∃ W3, W3 = (w2.alloc (.cells #[.slice (some ⟨W1.heap.size, 0, none⟩) 0 N2] 50)).alloc (.cells #[.int .i64 0] 3) := ⟨_, rfl⟩
  have HB3 : Hid (Below w2.heap.size w2 W3) := Lib.hid (by rw [HW3]; exact ((Below.refl _ _).alloc (Nat.le_refl _) _).alloc (by simp) _)
  have cF3 : W3.cell? ⟨gb, 1 + ver, none⟩ = some (.slice A n c) := (HB3.out.cell (p := ⟨gb, 1 + ver, none⟩) (Nat.lt_trans hgb1 hgr)).trans ((World.cell?_of_block (HG2.out.block gb hgb1 (by simp))).trans HF.out)
  have HF3 := Lib.hid cF3
  have HNE1 : Hid (some (gl + 1) ≠ (Value.slice (some ⟨gr, 0, none⟩) 0 N2).ownBlock) := Lib.hid (by
    show some (gl + 1) ≠ some gr
    intro e
    have h := Option.some.inj e
    have := HGL.out; have := HGR.out; omega)
  have HNE2 : Hid (some gl ≠ (Value.slice (some ⟨gr, 0, none⟩) 0 N2).ownBlock) := Lib.hid (by
    show some gl ≠ some gr
    intro e
    have h := Option.some.inj e
    have := HGL.out; have := HGR.out; omega)
  have HV0 : Hid (VSt W1 (gl + 1) gl gr 0 (.slice (some ⟨gr, 0, none⟩) 0 N2) [] W3) := Lib.hid ⟨by
      have := Obj1.new (w2.alloc (.cells #[.slice (some ⟨W1.heap.size, 0, none⟩) 0 N2] 50)) 3 #[.int .i64 0]
      rw [show (w2.alloc (.cells #[.slice (some ⟨W1.heap.size, 0, none⟩) 0 N2] 50)).heap.size = w2.heap.size + 1 by simp, HGL.out] at this
      rw [HW3]
      exact this, by
      have := (Obj1.new w2 50 #[.slice (some ⟨W1.heap.size, 0, none⟩) 0 N2]).alloc (.cells #[.int .i64 0] 3)
      rw [HGL.out] at this
      rw [HW3, ← HGR.out]
      exact this, by
      rw [← HGR.out]
      exact HR2.out.kept (w' := W3) (row := none) ⟨HB3.out.os, HB3.out.tape, HB3.out.output, HB3.out.size, fun i hi _ => HB3.out.block i hi⟩ (Classical.em _),
      HB2.out.trans (HB3.out.mono HB2.out.size), Nat.le_trans (by rw [← HGR.out]; exact HB2.out.size) HB3.out.size, HNE1.out, HNE2.out⟩
  have HGAP : Hid (Gap W1 (gl + 1) gl gr) := Lib.hid ⟨by have := HB2.out.size; have := HGL.out; omega, by have := HB2.out.size; have := HGL.out; omega, by rw [HGR.out]; exact Nat.le_refl _, by omega⟩
  clear cF hgb1
  go_upto_region 6 with (fail)
  rw [← HW3, HGL.out, HGR.out]
  have hgb3 : gb < W3.heap.size := World.block_lt_of_cell? W3 _ cF3
  clear HW3 HB2 HB3 HR2 HG2 cF3 hgr
  have HLAY := Lib.hid (lay_any 3 0 ((10 + 2 * (ver : Int)) * 20) 0 0 0 (-1) false (gl + 1) gl gr 0 _ [] W1 W3 HV0.out HGAP.out (by simp) (by omega) (by omega))
  go_wp2_with fail
  refine HLAY.out.mono ?_
  rintro e w4 ⟨rfl, v4, hV4⟩
  have HV4 : Hid (VSt W1 (gl + 1) gl gr (leadI ver) v4 [slHead ver] w4) := Lib.hid (by
    have := hV4
    rw [show (0 : Int) + (10 + 2 * (ver : Int)) * 20 = leadI ver by unfold leadI; omega, show (10 + 2 * (ver : Int)) * 20 = leadI ver by unfold leadI; omega] at this
    exact this)
  have hwl : w.heap.size ≤ gr := by rw [← HGR.out]; exact HB1.out.size
  have HFW : Hid (∀ W, Below W1.heap.size W1 W → W.cell? ⟨gb, 1 + ver, none⟩ = some (.slice A n c)) := Lib.hid (fun W hW => (hW.cell (p := ⟨gb, 1 + ver, none⟩) (World.block_lt_of_cell? W1 _ HF.out)).trans HF.out)
  have HWW : Hid (∀ W, Below W1.heap.size W1 W → WinsAt W A n ws) := Lib.hid (fun W hW => HW.out.kept (HB1.out.trans (hW.mono HB1.out.size)))
  have cF4 := HFW.out _ HV4.out.2.2.2.1
  clear hV4 HLAY HV0 HF HF3 hgb3 HIS HGR HGL HNE1 HNE2 hi hz0 hz1 hz2
  go_upto_region 8 with (fail)
  clear cF4
  go_wp2_with fail
  go_loopw [35] (fun i wx => ∃ (j : Nat) (v : Value), j ≤ n ∧ i = .int .i64 j ∧ VSt W1 (gl + 1) gl gr (endS (ws.take j) (leadI ver)) v (slHead ver :: midL y (ws.take j) (leadI ver)) wx) (fun i _ => n - (intOf i).toNat)
  case atStart => exact ⟨0, v4, by omega, rfl, HV4.out⟩
  case round =>
    clear HV4
    obtain ⟨j, v, hj, rfl, hV⟩ := hrel
    have HV := Lib.hid hV
    clear hV
    have hml := midL_len y (ws.take j) (leadI ver)
    have hlk : (ws.take j).length ≤ 900 := by rw [List.length_take]; omega
    have hbd := endS_bd (ws.take j) (leadI ver)
    have HLN := Lib.hid (show (slHead ver :: midL y (ws.take j) (leadI ver)).length ≤ 1000 by rw [List.length_cons]; omega)
    by_cases hlt : j < n
    · have hji : (j : Int) < (n : Int) := by omega
      have hjl : j < ws.length := by rw [HW.out.len]; exact hlt
      obtain ⟨x, hx⟩ : ∃ x, ws[j]? = some x := ⟨_, List.getElem?_eq_getElem hjl⟩
      obtain ⟨b, off, rfl, hb, k0, k1, k2, k3, k4, k5, hok⟩ := (HWW.out _ HV.out.2.2.2.1).six hlt hx
      have HOK := Lib.hid hok
      have HNX := Lib.hid (endS_next (ver := ver) hx)
      have HNM := Lib.hid (midL_next (y := y) (ver := ver) hx)
      have htb := x.tk_bd
      obtain ⟨T, hT⟩ : ∃ T, x.tk = T := ⟨_, rfl⟩
      obtain ⟨S, hS⟩ : ∃ S, endS (ws.take j) (leadI ver) = S := ⟨_, rfl⟩
      have hTT := hT
      rw [hT] at htb HNX
      rw [hS] at hbd HNX HV HNM
      have hS0 : 0 ≤ S ∧ S ≤ 100000000 := by have := HL.out; omega
      obtain ⟨ss, HSS⟩ : ∃ ss, Hid (slHead ver :: midL y (ws.take j) (leadI ver) = ss) := ⟨_, Lib.hid rfl⟩
      rw [HSS.out] at HV HLN HNM
      have HXX := Lib.hid (show x.tk = T from hT)
      clear hml hlk hbd hok hx hT hS hTT
      go_upto_region 10 with (fail)
      obtain ⟨gw, HGW⟩ : ∃ gw, Hid (wr.heap.size = gw) := ⟨_, Lib.hid rfl⟩
      obtain ⟨W5, HW5⟩ : ∃ W5, W5 = wr.alloc (.cells #[.int .i64 x.k, .int .i64 x.b, .int .i64 x.wd, .int .i64 x.ad, .slice x.A x.n x.c, .slice x.B x.m x.d] 56) := ⟨_, rfl⟩
      have HOX : Hid (Obj1 W5 gw 56 #[.int .i64 x.k, .int .i64 x.b, .int .i64 x.wd, .int .i64 x.ad, .slice x.A x.n x.c, .slice x.B x.m x.d]) := Lib.hid (by rw [HW5, ← HGW.out]; exact Obj1.new _ _ _)
      have HB5 : Hid (Below wr.heap.size wr W5) := Lib.hid (by rw [HW5]; exact bel1 _ _)
      have HV5 := Lib.hid (HV.out.kept HB5.out)
      have HOK5 := Lib.hid (HOK.out.kept HB5.out)
      rw [← HW5, HGW.out]
      clear HW5 k0 k1 k2 k3 k4 k5 HB5 HOK HV hb
      by_cases h0 : x.k = 0
      · have HSLX : Hid (x.sl y S = [⟨0, S, T, x.u, x.ad, x.q, cdI x.fs y, x.ts.contains y⟩]) := Lib.hid (by unfold Wd.sl; rw [if_pos h0, HXX.out])
        rw [HSLX.out] at HNM
        have HTI : Hid (tkI 0 x.g x.u x.q = T) := Lib.hid (by have := HXX.out; unfold Wd.tk at this; rwa [h0] at this)
        rw [h0] at HOX
        obtain ⟨cd, hcd⟩ : ∃ cd, cdI x.fs y = cd := ⟨_, rfl⟩
        obtain ⟨tk, htk⟩ : ∃ tk, x.ts.contains y = tk := ⟨_, rfl⟩
        rw [hcd, htk] at HNM
        have HSL := Lib.hid (fun W (hW : Below W5.heap.size W5 W) => slot_any 0 x.b x.wd x.ad x.A x.n x.c x.B x.m x.d x.fs x.ts y x.g x.u x.q rfl rfl rfl HOK5.out.nc T cd tk HTI.out W (HOK5.out.fl.kept hW) (HOK5.out.tl.kept hW) HOK5.out.cm (Nat.le_trans HOK5.out.md HOK5.out.dm) hcd htk)
        clear h0 hcd htk HSLX
        have d0 := HOX.out.cell 0
        have d1 := HOX.out.cell 1
        have d2 := HOX.out.cell 2
        have d3 := HOX.out.cell 3
        have d4 := HOX.out.cell 4
        have d5 := HOX.out.cell 5
        simp at d0 d1 d2 d3 d4 d5
        go_wp2_with fail
        refine (HSL.out _ (Below.refl _ _)).mono ?_
        rintro e w6 ⟨rfl, hb6⟩
        have HLY := Lib.hid (lay_any 0 0 T (x.u : Int) x.ad (x.q : Int) cd tk (gl + 1) gl gr S v ss W1 w6 (HV5.out.kept hb6) HGAP.out HLN.out hS0 (by omega))
        clear d0 d1 d2 d3 d4 d5 hb6
        go_wp2_with fail
        refine HLY.out.mono ?_
        rintro e w7 ⟨rfl, v7, hV7⟩
        have HV7 := Lib.hid hV7
        clear hV7 HLY
        go_wp2
        go_roundw
        case rel => exact ⟨j + 1, v7, by omega, by go_num, by rw [HNX.out, HNM.out]; exact HV7.out⟩
        case measure => simp [intOf]; omega
      · have h0' : (x.k == 0) = false := by simpa using h0
        by_cases h1 : x.k = 1
        · have HSLX : Hid (x.sl y S = [⟨1, S, T, 0, 0, 0, -1, false⟩]) := Lib.hid (by unfold Wd.sl; rw [if_neg h0, if_pos (.inl h1), HXX.out, h1])
          rw [HSLX.out] at HNM
          have HTI : Hid (tkI 1 x.g x.u x.q = T) := Lib.hid (by have := HXX.out; unfold Wd.tk at this; rwa [h1] at this)
          have HTK := Lib.hid (fun W => ticks_any 1 x.b x.wd x.ad x.A x.n x.c x.B x.m x.d x.g x.u x.q rfl rfl rfl HOK5.out.nc T HTI.out W)
          rw [h1] at HOX
          clear h0 h0' HSLX h1
          have d0 := HOX.out.cell 0
          simp at d0
          go_upto_region 15 with (fail)
          clear d0
          have K0 : ∀ z : Kin W5.drew, z.world.cell? ⟨gw, 0, none⟩ = some (.int .i64 1) := fun z => (HOX.out.drew.kept z.below).cell 0
          have K1 : ∀ z : Kin W5.drew, z.world.cell? ⟨gw, 1, none⟩ = some (.int .i64 x.b) := fun z => (HOX.out.drew.kept z.below).cell 1
          have K2 : ∀ z : Kin W5.drew, z.world.cell? ⟨gw, 2, none⟩ = some (.int .i64 x.wd) := fun z => (HOX.out.drew.kept z.below).cell 2
          have K3 : ∀ z : Kin W5.drew, z.world.cell? ⟨gw, 3, none⟩ = some (.int .i64 x.ad) := fun z => (HOX.out.drew.kept z.below).cell 3
          have K4 : ∀ z : Kin W5.drew, z.world.cell? ⟨gw, 4, none⟩ = some (.slice x.A x.n x.c) := fun z => (HOX.out.drew.kept z.below).cell 4
          have K5 : ∀ z : Kin W5.drew, z.world.cell? ⟨gw, 5, none⟩ = some (.slice x.B x.m x.d) := fun z => (HOX.out.drew.kept z.below).cell 5
          refine wp_region_specL 6 [.d (.func (Fn.func 36) #[] #[.pointer (some ⟨gl + 1, 0, none⟩), .pointer (some ⟨gl, 0, none⟩)]), .d (.pointer (some ⟨gw, 0, none⟩)), .d (.int .i64 1), .d (.agg #[.int .i64 1, .int .i64 x.b, .int .i64 x.wd, .int .i64 x.ad, .slice x.A x.n x.c, .slice x.B x.m x.d]), .d (.int .i64 T), .d (.agg #[.int .i64 1, .int .i64 0, .int .i64 T, .int .i64 0, .int .i64 0, .int .i64 0, .int .i64 (-1), .bool false])] (by kernel_rfl) (by kernel_rfl) ?_
          refine spec_d rfl (fun x _ => gives_run (by go_simp)) ?_
          try simp only [Act.put, List.getElem_toArray, List.getElem_cons_succ, List.getElem_cons_zero, List.setIfInBounds_toArray, List.set_cons_zero, List.set_cons_succ]
          refine spec_d rfl (fun x _ => gives_run (by go_simp)) ?_
          try simp only [Act.put, List.getElem_toArray, List.getElem_cons_succ, List.getElem_cons_zero, List.setIfInBounds_toArray, List.set_cons_zero, List.set_cons_succ]
          refine spec_d rfl (fun x _ => gives_run (by go_simp)) ?_
          try simp only [Act.put, List.getElem_toArray, List.getElem_cons_succ, List.getElem_cons_zero, List.setIfInBounds_toArray, List.set_cons_zero, List.set_cons_succ]
          refine spec_d rfl (fun x _ => gives_run (by go_simp)) ?_
          try simp only [Act.put, List.getElem_toArray, List.getElem_cons_succ, List.getElem_cons_zero, List.setIfInBounds_toArray, List.set_cons_zero, List.set_cons_succ]
          refine spec_d rfl (fun z _ => gives_det (by go_simp) (HTK.out z.world)) ?_
          try simp only [Act.put, List.getElem_toArray, List.getElem_cons_succ, List.getElem_cons_zero, List.setIfInBounds_toArray, List.set_cons_zero, List.set_cons_succ]
          refine spec_d rfl (fun x _ => gives_run (by go_simp)) ?_
          try simp only [Act.put, List.getElem_toArray, List.getElem_cons_succ, List.getElem_cons_zero, List.setIfInBounds_toArray, List.set_cons_zero, List.set_cons_succ]
          refine spec_end (fun z hx => ?_)
          clear hx
          change wpAny _ _ _ _ (0 + 1) _ _ _
          refine wpAny_ready (rs := [6]) (by kernel_rfl) (by simp) ?_
          refine AllReady.cons rfl (fun KK hK => ?_) AllReady.nil
          go_simp
          refine (lay_any 1 0 T 0 0 0 (-1) false (gl + 1) gl gr S v ss W1 z.world (HV5.out.kept ((bel_drew W5).trans z.below)) HGAP.out HLN.out hS0 (by omega)).mono ?_
          rintro e w7 ⟨rfl, x7⟩
          refine hK _ _ ?_
          clear hK KK
          try simp only [Act.put, List.getElem_toArray, List.getElem_cons_succ, List.getElem_cons_zero, List.setIfInBounds_toArray, List.set_cons_zero, List.set_cons_succ]
          refine wpAny_done (by kernel_rfl) ?_ _
          have HX7 := Lib.hid x7
          obtain ⟨v7, hV7⟩ := x7
          have HV7 := Lib.hid hV7
          clear hV7 HX7 K0 K1 K2 K3 K4 K5
          go_wp2
          go_roundw
          case rel => exact ⟨j + 1, v7, by omega, by go_num, by rw [HNX.out, HNM.out]; exact HV7.out⟩
          case measure => simp [intOf]; omega
        · have h1' : (x.k == 1) = false := by simpa using h1
          by_cases h2 : x.k = 2
          · have HSLX : Hid (x.sl y S = [⟨2, S, T, 0, 0, 0, -1, false⟩]) := Lib.hid (by unfold Wd.sl; rw [if_neg h0, if_pos (.inr h2), HXX.out, h2])
            rw [HSLX.out] at HNM
            have HTI : Hid (tkI 2 x.g x.u x.q = T) := Lib.hid (by have := HXX.out; unfold Wd.tk at this; rwa [h2] at this)
            have HTK := Lib.hid (fun W => ticks_any 2 x.b x.wd x.ad x.A x.n x.c x.B x.m x.d x.g x.u x.q rfl rfl rfl HOK5.out.nc T HTI.out W)
            rw [h2] at HOX
            clear h0 h0' HSLX h1 h1' h2
            have d0 := HOX.out.cell 0
            simp at d0
            go_upto_region 15 with (fail)
            clear d0
            have K0 : ∀ z : Kin W5.drew, z.world.cell? ⟨gw, 0, none⟩ = some (.int .i64 2) := fun z => (HOX.out.drew.kept z.below).cell 0
            have K1 : ∀ z : Kin W5.drew, z.world.cell? ⟨gw, 1, none⟩ = some (.int .i64 x.b) := fun z => (HOX.out.drew.kept z.below).cell 1
            have K2 : ∀ z : Kin W5.drew, z.world.cell? ⟨gw, 2, none⟩ = some (.int .i64 x.wd) := fun z => (HOX.out.drew.kept z.below).cell 2
            have K3 : ∀ z : Kin W5.drew, z.world.cell? ⟨gw, 3, none⟩ = some (.int .i64 x.ad) := fun z => (HOX.out.drew.kept z.below).cell 3
            have K4 : ∀ z : Kin W5.drew, z.world.cell? ⟨gw, 4, none⟩ = some (.slice x.A x.n x.c) := fun z => (HOX.out.drew.kept z.below).cell 4
            have K5 : ∀ z : Kin W5.drew, z.world.cell? ⟨gw, 5, none⟩ = some (.slice x.B x.m x.d) := fun z => (HOX.out.drew.kept z.below).cell 5
            refine wp_region_specL 6 [.d (.func (Fn.func 36) #[] #[.pointer (some ⟨gl + 1, 0, none⟩), .pointer (some ⟨gl, 0, none⟩)]), .d (.pointer (some ⟨gw, 0, none⟩)), .d (.int .i64 2), .d (.agg #[.int .i64 2, .int .i64 x.b, .int .i64 x.wd, .int .i64 x.ad, .slice x.A x.n x.c, .slice x.B x.m x.d]), .d (.int .i64 T), .d (.agg #[.int .i64 2, .int .i64 0, .int .i64 T, .int .i64 0, .int .i64 0, .int .i64 0, .int .i64 (-1), .bool false])] (by kernel_rfl) (by kernel_rfl) ?_
            refine spec_d rfl (fun x _ => gives_run (by go_simp)) ?_
            try simp only [Act.put, List.getElem_toArray, List.getElem_cons_succ, List.getElem_cons_zero, List.setIfInBounds_toArray, List.set_cons_zero, List.set_cons_succ]
            refine spec_d rfl (fun x _ => gives_run (by go_simp)) ?_
            try simp only [Act.put, List.getElem_toArray, List.getElem_cons_succ, List.getElem_cons_zero, List.setIfInBounds_toArray, List.set_cons_zero, List.set_cons_succ]
            refine spec_d rfl (fun x _ => gives_run (by go_simp)) ?_
            try simp only [Act.put, List.getElem_toArray, List.getElem_cons_succ, List.getElem_cons_zero, List.setIfInBounds_toArray, List.set_cons_zero, List.set_cons_succ]
            refine spec_d rfl (fun x _ => gives_run (by go_simp)) ?_
            try simp only [Act.put, List.getElem_toArray, List.getElem_cons_succ, List.getElem_cons_zero, List.setIfInBounds_toArray, List.set_cons_zero, List.set_cons_succ]
            refine spec_d rfl (fun z _ => gives_det (by go_simp) (HTK.out z.world)) ?_
            try simp only [Act.put, List.getElem_toArray, List.getElem_cons_succ, List.getElem_cons_zero, List.setIfInBounds_toArray, List.set_cons_zero, List.set_cons_succ]
            refine spec_d rfl (fun x _ => gives_run (by go_simp)) ?_
            try simp only [Act.put, List.getElem_toArray, List.getElem_cons_succ, List.getElem_cons_zero, List.setIfInBounds_toArray, List.set_cons_zero, List.set_cons_succ]
            refine spec_end (fun z hx => ?_)
            clear hx
            change wpAny _ _ _ _ (0 + 1) _ _ _
            refine wpAny_ready (rs := [6]) (by kernel_rfl) (by simp) ?_
            refine AllReady.cons rfl (fun KK hK => ?_) AllReady.nil
            go_simp
            refine (lay_any 2 0 T 0 0 0 (-1) false (gl + 1) gl gr S v ss W1 z.world (HV5.out.kept ((bel_drew W5).trans z.below)) HGAP.out HLN.out hS0 (by omega)).mono ?_
            rintro e w7 ⟨rfl, x7⟩
            refine hK _ _ ?_
            clear hK KK
            try simp only [Act.put, List.getElem_toArray, List.getElem_cons_succ, List.getElem_cons_zero, List.setIfInBounds_toArray, List.set_cons_zero, List.set_cons_succ]
            refine wpAny_done (by kernel_rfl) ?_ _
            have HX7 := Lib.hid x7
            obtain ⟨v7, hV7⟩ := x7
            have HV7 := Lib.hid hV7
            clear hV7 HX7 K0 K1 K2 K3 K4 K5
            go_wp2
            go_roundw
            case rel => exact ⟨j + 1, v7, by omega, by go_num, by rw [HNX.out, HNM.out]; exact HV7.out⟩
            case measure => simp [intOf]; omega
          · have h2' : (x.k == 2) = false := by simpa using h2
            have HSLX : Hid (x.sl y S = []) := Lib.hid (by unfold Wd.sl; rw [if_neg h0, if_neg (by omega)])
            have HT0 : Hid (T = 0) := Lib.hid (by have := HXX.out; unfold Wd.tk tkI at this; rw [if_neg h0, if_neg h1, if_neg h2] at this; exact this.symm)
            rw [HSLX.out, List.append_nil] at HNM
            rw [HT0.out, Int.add_zero] at HNX
            clear h0 h1 h2 HSLX
            have d0 := HOX.out.cell 0
            simp at d0
            go_wp2
            go_roundw
            case rel => exact ⟨j + 1, v, by omega, by go_num, by rw [HNX.out, HNM.out]; exact HV5.out⟩
            case measure => simp [intOf]; omega
    · obtain rfl : j = n := by omega
      have HE : Hid (ws.take j = ws) := Lib.hid (List.take_of_length_le (by rw [HW.out.len]; exact Nat.le_refl _))
      rw [HE.out] at HV HLN hbd
      obtain ⟨S, HS⟩ : ∃ S, Hid (endS ws (leadI ver) = S) := ⟨_, Lib.hid rfl⟩
      rw [HS.out] at HV hbd
      have hlw : ws.length ≤ 900 := by rw [HW.out.len]; omega
      have HLY := Lib.hid (lay_any 4 0 120 0 0 0 (-1) false (gl + 1) gl gr S v _ W1 wr HV.out HGAP.out HLN.out (by have := HL.out; omega) (by omega))
      clear hml hlk hbd hlw
      go_wp2_with fail
      refine HLY.out.mono ?_
      rintro e w7 ⟨rfl, v7, hV7⟩
      have HV7 := Lib.hid hV7
      have c7 := hV7.2.1.cell 0
      simp at c7
      clear hV7 HLY
      go_wp2
      go_ret
      refine ⟨v7, rfl, Lib.hid ?_, Lib.hid (HB1.out.trans (HV7.out.2.2.2.1.mono HB1.out.size))⟩
      have hR := own_base HV7.out.2.2.1 hwl
      unfold viewL
      rw [HS.out]
      exact hR
end Go.Proofs.YtkankdecbefenaaDoor.Ly7
