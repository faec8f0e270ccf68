/- The contract of the document's own View: the same slots as package plan's; no condition but sizes. -/
import Derived.Test.YtkankdecbefenaaDoorPlnF
import Derived.Test.YtkankdecbefenaaDoorApp
import Derived.Deep.RegionHeld3
namespace Go.Proofs.YtkankdecbefenaaDoor.Ly7
open Go.ChangeShapes Go.WideShapes Go.ChangeAt Go.RowKit Base
set_option linter.unusedVariables false
set_option linter.unusedSimpArgs false

abbrev TRs : TypeId := 42
theorem info_rs : (Tryd.prog.info? TRs).map (fun i => (i.zero, i.size, i.bytes)) = some (some (.agg #[.int .i64 0, .int .i64 0, .int .i64 0, .int .i64 0, .int .i64 0, .int .i64 0, .int .i64 0, .bool false]), 8, 64) := by kernel_rfl
theorem one_cells (x : Sl) : ∀ u ∈ x.cells, u.oneCell' = true := fun u hu => by
  simp [Sl.cells] at hu
  rcases hu with rfl | rfl | rfl | rfl | rfl | rfl | rfl | rfl <;> rfl
/-- The first candidate from j on. -/
def cdJ (l : List Int) (y : Int) (j : Nat) : Int := if idxF (l.drop j) y = -1 then -1 else j + idxF (l.drop j) y
theorem cdJ_zero (l : List Int) (y : Int) : cdJ l y 0 = idxF l y := by
  unfold cdJ
  rw [List.drop_zero]
  split
  · rename_i h; rw [h]
  · simp
theorem cdJ_end (l : List Int) (y : Int) : cdJ l y l.length = -1 := by
  unfold cdJ
  rw [List.drop_length, if_pos (idx_none (fun x hx => by cases hx))]
theorem idx_cons (x : Int) (l : List Int) (y : Int) : idxF (x :: l) y = if x = y then 0 else if idxF l y = -1 then -1 else 1 + idxF l y := by
  by_cases h : x = y
  · rw [if_pos h]
    exact idx_at (i := 0) (by simp) (by simpa using h) (fun j hj => by omega)
  · rw [if_neg h]
    unfold idxF
    rw [List.findIdx?_cons]
    have : (x == y) = false := by simpa using h
    rw [this]
    cases hf : l.findIdx? (fun x => x == y) with
    | none => simp
    | some i => simp; omega
theorem cdJ_step {l : List Int} {y x : Int} {j : Nat} (hx : l[j]? = some x) : cdJ l y j = if x = y then (j : Int) else cdJ l y (j + 1) := by
  obtain ⟨hj, rfl⟩ := List.getElem?_eq_some_iff.1 hx
  unfold cdJ
  rw [List.drop_eq_getElem_cons hj, idx_cons]
  have h1 := (idx_lt (l.drop (j + 1)) y).1
  by_cases h : l[j] = y
  · simp [h]
  · simp only [if_neg h]
    by_cases h2 : idxF (l.drop (j + 1)) y = -1
    · simp [h2]
    · simp only [if_neg h2]
      rw [if_neg (by omega)]
      omega
theorem has_snoc (l : List Int) (x y : Int) : (l ++ [x]).contains y = (l.contains y || x == y) := by
  rw [Bool.eq_iff_iff]
  simp
  constructor
  · rintro (h | h)
    · exact .inl h
    · exact .inr h.symm
  · rintro (h | h)
    · exact .inl h
    · exact .inr h.symm
def rxA (k s l wo ad mn cn : Int) (tk : Bool) : Array Value := #[.int .i64 k, .int .i64 s, .int .i64 l, .int .i64 wo, .int .i64 ad, .int .i64 mn, .int .i64 cn, .bool tk]
/-- What the document's View has laid so far. -/
def DR (w : World) (n ver : Nat) (y : Int) (ws : List Wd) (p v i : Value) (wx : World) : Prop :=
  ∃ j : Nat, j ≤ n ∧ i = .int .i64 j ∧ p = .int .i64 (endS (ws.take j) (leadI ver)) ∧ wx.ownsRow w.heap.size TRs 8 v (slHead ver :: midL y (ws.take j) (leadI ver)).length (slC (slHead ver :: midL y (ws.take j) (leadI ver))) ∧ Below w.heap.size w wx
set_option maxRecDepth 100000 in
set_option maxHeartbeats 2000000 in
theorem rview_any (A : Option Addr) (n c : Nat) (ver : Nat) (y : Int) (ws : List Wd) (w : World) (hv : ver < 2) (hW : WinsAt w A n ws) (hn : n ≤ 900) (hm40 : ∀ x ∈ ws, x.m ≤ 1000) :
    Calls Tryd.prog 12 #[.slice A n c, .int .i64 (ver : Int), .int .i64 y] w fun e w' => ∃ v, e = .returned v ∧ Hid (w'.ownsRow w.heap.size TRs 8 v (viewL ver y ws).length (slC (viewL ver y ws))) ∧ Hid (Below w.heap.size w w') := by
  obtain ⟨i0, hi, hz0, hz1, hz2⟩ := info_parts info_rs
  have HW := Lib.hid hW
  have H40 := Lib.hid hm40
  have e1 : IntKind.i64.wrap (40 * (ver : Int)) = 40 * (ver : Int) := IntWalk.i64_in _ (by omega)
  have e2 : IntKind.i64.wrap (200 + 40 * (ver : Int)) = 200 + 40 * (ver : Int) := IntWalk.i64_in _ (by omega)
  have HL := Lib.hid (show 0 ≤ leadI ver ∧ leadI ver ≤ 240 ∧ 200 + 40 * (ver : Int) = leadI ver by unfold leadI; omega)
  have HR0 : Hid (DR w n ver y ws (.int .i64 (200 + 40 * (ver : Int))) (.slice (some ⟨w.heap.size, 0, none⟩) 1 1) (.int .i64 0) (w.alloc (.cells #[.int .i64 3, .int .i64 0, .int .i64 (200 + 40 * (ver : Int)), .int .i64 0, .int .i64 0, .int .i64 0, .int .i64 (-1), .bool false] TRs))) := Lib.hid ⟨0, by omega, rfl, by rw [HL.out.2.2]; rfl, by
    rw [HL.out.2.2]
    exact own_oneR w w.heap.size (Nat.le_refl _) (slHead ver).cells TRs 8 rfl, bel1 _ _⟩
  clear hW hm40
  go_enter Tryd.func12, Tryd.ntmps12
  go_wp2_with fail
  go_loopw [7, 8, 9] (fun p v i wx => DR w n ver y ws p v i wx) (fun _ _ i _ => n - (intOf i).toNat)
  case atStart => exact HR0.out
  case round =>
    clear HR0 e1 e2
    obtain ⟨j, hj, rfl, rfl, hown, hbel⟩ := hrel
    have HOWN := Lib.hid hown
    have HBEL := Lib.hid hbel
    have hml := midL_len y (ws.take j) (leadI ver)
    have hlk : (ws.take j).length ≤ 900 := by rw [List.length_take]; omega
    have hbd := endS_bd (ws.take j) (leadI ver)
    have HLN := Lib.hid (show (slHead ver :: midL y (ws.take j) (leadI ver)).length ≤ 1000 by rw [List.length_cons]; omega)
    by_cases hlt : j < n
    · have hji : (j : Int) < (n : Int) := by omega
      have hjl : j < ws.length := by rw [HW.out.len]; exact hlt
      obtain ⟨x, hx⟩ : ∃ x, ws[j]? = some x := ⟨_, List.getElem?_eq_getElem hjl⟩
      have HM40 := Lib.hid (H40.out x (List.mem_of_getElem? hx))
      have HOKW : Hid (∀ W, Below w.heap.size w W → x.Ok W) := Lib.hid (fun W hW => (HW.out.kept hW).ok x (List.mem_of_getElem? hx))
      obtain ⟨b, off, rfl, hb, k0, k1, k2, k3, k4, k5, hok⟩ := (HW.out.kept hbel).six hlt hx
      have HOK := Lib.hid hok
      have HNX := Lib.hid (endS_next (ver := ver) hx)
      have HNM := Lib.hid (midL_next (y := y) (ver := ver) hx)
      have htb := x.tk_bd
      obtain ⟨T, hT⟩ : ∃ T, x.tk = T := ⟨_, rfl⟩
      obtain ⟨S, hS⟩ : ∃ S, endS (ws.take j) (leadI ver) = S := ⟨_, rfl⟩
      have HXX := Lib.hid hT
      rw [hT] at htb HNX
      rw [hS] at hbd HNX HNM ⊢
      have hS0 : 0 ≤ S ∧ S ≤ 100000000 := by have := HL.out; omega
      have hww : IntKind.i64.wrap (S + T) = S + T := IntWalk.i64_in _ (by omega)
      obtain ⟨ss, HSS⟩ : ∃ ss, Hid (slHead ver :: midL y (ws.take j) (leadI ver) = ss) := ⟨_, Lib.hid rfl⟩
      rw [HSS.out] at HOWN HLN HNM
      clear hml hlk hbd hok hx hT hS hown hbel
      go_upto_region 7 with (fail)
      obtain ⟨gw, HGW⟩ : ∃ gw, Hid (wr.heap.size = gw) := ⟨_, Lib.hid rfl⟩
      obtain ⟨W5, HW5⟩ : ∃ W5, W5 = wr.alloc (.cells #[.int .i64 x.k, .int .i64 x.b, .int .i64 x.wd, .int .i64 x.ad, .slice x.A x.n x.c, .slice x.B x.m x.d] 61) := ⟨_, rfl⟩
      have HOX : Hid (Obj1 W5 gw 61 #[.int .i64 x.k, .int .i64 x.b, .int .i64 x.wd, .int .i64 x.ad, .slice x.A x.n x.c, .slice x.B x.m x.d]) := Lib.hid (by rw [HW5, ← HGW.out]; exact Obj1.new _ _ _)
      have HB5 : Hid (Below wr.heap.size wr W5) := Lib.hid (by rw [HW5]; exact bel1 _ _)
      have HOWN5 := Lib.hid (own_kept HOWN.out HB5.out)
      have HOK5 := Lib.hid (HOK.out.kept HB5.out)
      have HBEL5 := Lib.hid (HBEL.out.trans (HB5.out.mono HBEL.out.size))
      rw [← HW5, HGW.out]
      clear HW5 k0 k1 k2 k3 k4 k5 HOK HOWN hb
      by_cases hin : 0 ≤ x.k ∧ x.k ≤ 2
      · have h0 := hin.1
        have h2 := hin.2
        have HBT := Lib.hid (fun W => rbits_any x.k x.b x.wd x.ad x.A x.n x.c x.B x.m x.d x.g x.u x.q rfl rfl rfl (Nat.le_trans HOK5.out.nc HOK5.out.cm) T HXX.out W)
        have d0 := HOX.out.cell 0
        simp at d0
        go_upto_region 8 with (fail)
        clear d0 hin
        have K0 : ∀ z : Kin W5.drew, z.world.cell? ⟨gw, 0, none⟩ = some (.int .i64 x.k) := fun z => (HOX.out.drew.kept z.below).cell 0
        have K1 : ∀ z : Kin W5.drew, z.world.cell? ⟨gw, 1, none⟩ = some (.int .i64 x.b) := fun z => (HOX.out.drew.kept z.below).cell 1
        have K2 : ∀ z : Kin W5.drew, z.world.cell? ⟨gw, 2, none⟩ = some (.int .i64 x.wd) := fun z => (HOX.out.drew.kept z.below).cell 2
        have K3 : ∀ z : Kin W5.drew, z.world.cell? ⟨gw, 3, none⟩ = some (.int .i64 x.ad) := fun z => (HOX.out.drew.kept z.below).cell 3
        have K4 : ∀ z : Kin W5.drew, z.world.cell? ⟨gw, 4, none⟩ = some (.slice x.A x.n x.c) := fun z => (HOX.out.drew.kept z.below).cell 4
        have K5 : ∀ z : Kin W5.drew, z.world.cell? ⟨gw, 5, none⟩ = some (.slice x.B x.m x.d) := fun z => (HOX.out.drew.kept z.below).cell 5
        obtain ⟨G, HG20, HBT'⟩ : ∃ G : Int, Hid (20 * G = T) ∧ Hid (∀ W, Calls Tryd.prog 25 #[.agg #[.int .i64 x.k, .int .i64 x.b, .int .i64 x.wd, .int .i64 x.ad, .slice x.A x.n x.c, .slice x.B x.m x.d]] W fun e w' => e = .returned (.int .i64 G) ∧ Below W.heap.size W w') := by
          refine ⟨T / 20, Lib.hid ?_, Lib.hid (fun W => (HBT.out W).mono (fun e w' ⟨G, he, hg, hb⟩ => ⟨by rw [he, show T / 20 = G by omega], hb⟩))⟩
          have h := HXX.out
          unfold Wd.tk tkI at h
          split at h <;> (try split at h) <;> (try split at h) <;> omega
        have e20 : IntKind.i64.wrap (20 * G) = T := (IntWalk.i64_in _ (by have := HG20.out; omega)).trans HG20.out
        clear HBT
        refine wp_region_specL 8 [.d (.pointer (some ⟨gw, 0, none⟩)), .d (.int .i64 x.k), .d (.int .i64 S), .d (.agg #[.int .i64 x.k, .int .i64 x.b, .int .i64 x.wd, .int .i64 x.ad, .slice x.A x.n x.c, .slice x.B x.m x.d]), .d (.int .i64 G), .d (.int .i64 T), .d (.agg #[.int .i64 x.k, .int .i64 S, .int .i64 T, .int .i64 0, .int .i64 0, .int .i64 0, .int .i64 (-1), .bool false]), .g (NewP W5.heap.size TRs #[.int .i64 0, .int .i64 0, .int .i64 0, .int .i64 0, .int .i64 0, .int .i64 0, .int .i64 0, .bool false])] (by kernel_rfl) (by kernel_rfl) ?_
        refine spec_d rfl (fun x _ => gives_run (by go_simp)) ?_
        try simp only [Act.put, List.getElem_toArray, List.getElem_cons_succ, List.getElem_cons_zero, List.setIfInBounds_toArray, List.set_cons_zero, List.set_cons_succ]
        refine spec_d rfl (fun x _ => gives_run (by go_simp)) ?_
        try simp only [Act.put, List.getElem_toArray, List.getElem_cons_succ, List.getElem_cons_zero, List.setIfInBounds_toArray, List.set_cons_zero, List.set_cons_succ]
        refine spec_d rfl (fun x _ => gives_run (by go_simp)) ?_
        try simp only [Act.put, List.getElem_toArray, List.getElem_cons_succ, List.getElem_cons_zero, List.setIfInBounds_toArray, List.set_cons_zero, List.set_cons_succ]
        refine spec_d rfl (fun x _ => gives_run (by go_simp)) ?_
        try simp only [Act.put, List.getElem_toArray, List.getElem_cons_succ, List.getElem_cons_zero, List.setIfInBounds_toArray, List.set_cons_zero, List.set_cons_succ]
        refine spec_d rfl (fun z _ => gives_det (by go_simp) (HBT'.out z.world)) ?_
        try simp only [Act.put, List.getElem_toArray, List.getElem_cons_succ, List.getElem_cons_zero, List.setIfInBounds_toArray, List.set_cons_zero, List.set_cons_succ]
        refine spec_d rfl (fun x _ => gives_run (by go_simp)) ?_
        try simp only [Act.put, List.getElem_toArray, List.getElem_cons_succ, List.getElem_cons_zero, List.setIfInBounds_toArray, List.set_cons_zero, List.set_cons_succ]
        refine spec_d rfl (fun x _ => gives_run (by go_simp)) ?_
        try simp only [Act.put, List.getElem_toArray, List.getElem_cons_succ, List.getElem_cons_zero, List.setIfInBounds_toArray, List.set_cons_zero, List.set_cons_succ]
        refine spec_g (NewP.stable _ _ _) (NewP.ex _ _ (Nat.le_refl _)) rfl (fun z _ => gives_ok (by go_simp) (bel_new _ _) (NewP.new z.below.size)) ?_
        rintro vg ⟨xg, gx, rfl, hgx, _⟩
        try simp only [Act.put, List.getElem_toArray, List.getElem_cons_succ, List.getElem_cons_zero, List.setIfInBounds_toArray, List.set_cons_zero, List.set_cons_succ]
        refine spec_end (fun z hz => ?_)
        have hgo := NewP.at (hz _ (List.mem_singleton.2 rfl))
        have HGO := Lib.hid hgo
        have q0 := hgo.cell 0
        have f0 := hgo.free 0
        have q1 := hgo.cell 1
        have f1 := hgo.free 1
        have q2 := hgo.cell 2
        have f2 := hgo.free 2
        have q3 := hgo.cell 3
        have f3 := hgo.free 3
        have q4 := hgo.cell 4
        have f4 := hgo.free 4
        have q5 := hgo.cell 5
        have f5 := hgo.free 5
        have q6 := hgo.cell 6
        have f6 := hgo.free 6
        have q7 := hgo.cell 7
        have f7 := hgo.free 7
        clear hz hgo
        change wpAny _ _ _ _ (0 + 1) _ _ _
        refine wpAny_ready (rs := [8]) (by kernel_rfl) (by simp) ?_
        refine AllReady.cons rfl (fun KK hK => ?_) AllReady.nil
        go_simp
        refine hK _ _ ?_
        clear hK KK
        refine wpAny_done (by kernel_rfl) ?_ _
        have hbx := (bel_drew W5).trans z.below
        have HOX6 := Lib.hid (HOX.out.kept hbx)
        have HOW6 := Lib.hid (own_kept HOWN5.out hbx)
        have HOK6 := Lib.hid (HOK5.out.kept hbx)
        have HBE6 := Lib.hid (HBEL5.out.trans (hbx.mono HBEL5.out.size))
        have hgw : gw < gx := Nat.lt_of_lt_of_le HOX.out.lt hgx
        have hwgx : w.heap.size ≤ gx := by have := HBEL5.out.size; omega
        have HXN := Lib.hid (own_new HOWN5.out (g := gx) hgx)
        have HGX8 := Lib.hid (((((((((HGO.out.set 0 (.int .i64 x.k)).set 1 (.int .i64 S)).set 2 (.int .i64 T)).set 3 (.int .i64 0)).set 4 (.int .i64 0)).set 5 (.int .i64 0)).set 6 (.int .i64 (-1))).set 7 (.bool false)))
        have HWX := Lib.hid ((((((((Wrote.refl gx z.world).set (p := ⟨gx, 0, none⟩) (.inl rfl) (.int .i64 x.k)).set (p := ⟨gx, 1, none⟩) (.inl rfl) (.int .i64 S)).set (p := ⟨gx, 2, none⟩) (.inl rfl) (.int .i64 T)).set (p := ⟨gx, 3, none⟩) (.inl rfl) (.int .i64 0)).set (p := ⟨gx, 4, none⟩) (.inl rfl) (.int .i64 0)).set (p := ⟨gx, 5, none⟩) (.inl rfl) (.int .i64 0)).set (p := ⟨gx, 6, none⟩) (.inl rfl) (.int .i64 (-1)) |>.set (p := ⟨gx, 7, none⟩) (.inl rfl) (.bool false))
        generalize (((((((z.world.setCell ⟨gx, 0, none⟩ (.int .i64 x.k)).setCell ⟨gx, 1, none⟩ (.int .i64 S)).setCell ⟨gx, 2, none⟩ (.int .i64 T)).setCell ⟨gx, 3, none⟩ (.int .i64 0)).setCell ⟨gx, 4, none⟩ (.int .i64 0)).setCell ⟨gx, 5, none⟩ (.int .i64 0)).setCell ⟨gx, 6, none⟩ (.int .i64 (-1))).setCell ⟨gx, 7, none⟩ (.bool false) = w7 at HGX8 HWX ⊢
        have HX7 : Hid (Obj1 w7 gx TRs (rxA x.k S T 0 0 0 (-1) false)) := Lib.hid HGX8.out
        have HOX7 := Lib.hid (HOX6.out.touch HWX.out (by omega))
        have HOW7 := Lib.hid (row_wrote' HOW6.out HWX.out (Ne.symm HXN.out))
        have HBE7 := Lib.hid (HBE6.out.trans (HWX.out.below hwgx HBE6.out.size))
        clear HOX6 HOW6 HOK6 HBE6 HGX8 HGO HOX HOWN5 HBEL5 K0 K1 K2 K3 K4 K5 q0 q1 q2 q3 q4 q5 q6 q7 f0 f1 f2 f3 f4 f5 f6 f7 HWX hgx hbx
        clear z
        have d0 := HOX7.out.cell 0
        simp at d0
        by_cases hk0 : x.k = 0
        · have HSLX : Hid (x.sl y S = [⟨0, S, T, x.u, x.ad, x.q, cdI x.fs y, x.ts.contains y⟩]) := Lib.hid (by unfold Wd.sl; rw [if_pos hk0, HXX.out])
          rw [HSLX.out] at HNM
          rw [hk0] at HOX7 HX7 d0
          clear HSLX h0 h2
          obtain ⟨u, hu⟩ : ∃ u, cutN x.wd 8 = u := ⟨_, rfl⟩
          obtain ⟨pq, hp⟩ : ∃ p, cutN (x.n : Int) 4 = p := ⟨_, rfl⟩
          obtain ⟨q, hq⟩ : ∃ q, max (min x.n 4) 1 = q := ⟨_, rfl⟩
          have hpq : max 1 pq = q := by unfold cutN at hp; omega
          have HC1 := Lib.hid (fun W => rcut_any x.wd 8 u hu (by omega) W)
          have HC2 := Lib.hid (fun W => rcut_any (x.n : Int) 4 pq hp (by omega) W)
          have HUQ := Lib.hid (show x.u = u ∧ x.q = q from ⟨hu, hq⟩)
          rw [HUQ.out.1, HUQ.out.2] at HNM
          clear hu hp hq hk0
          go_upto_region 10 with (fail)
          clear d0
          have c2 := HOX7.out.cell 2
          have c3 := HOX7.out.cell 3
          have c4 := HOX7.out.cell 4
          have q3 := HX7.out.cell 3
          have q4 := HX7.out.cell 4
          have q5 := HX7.out.cell 5
          have f3 := HX7.out.free 3
          have f4 := HX7.out.free 4
          have f5 := HX7.out.free 5
          have hif : ∀ d : Decidable ((1 : Int) < (pq : Int)), @ite Int ((1 : Int) < (pq : Int)) d (pq : Int) 1 = (q : Int) := fun d => by split <;> omega
          have hgne : gw ≠ gx := by omega
          have hgne' : gx ≠ gw := by omega
          simp [rxA] at c2 c3 c4 q3 q4 q5
          go_region_held3 (fun w' => w'.cell? ⟨gw, 2, none⟩ = some (.int .i64 x.wd) ∧ w'.cell? ⟨gw, 3, none⟩ = some (.int .i64 x.ad) ∧ w'.cell? ⟨gw, 4, none⟩ = some (.slice x.A x.n x.c)) (first | go_keep | assumption) (first | (go_at_call 26; refine (HC1.out _).mono ?_; rintro e w' ⟨rfl, rfl⟩) | (go_at_call 26; refine (HC2.out _).mono ?_; rintro e w' ⟨rfl, rfl⟩))
          all_goals
            try rw [hif]
            have HX8 := HX7
            have HOX8 := HOX7
            have HOW8 := HOW7
            have HBE8 := HBE7
            clear HX7 HOX7 HOW7 HBE7
            have HX8' := Lib.hid ((((HX8.out.set 3 (.int .i64 (u : Int))).set 4 (.int .i64 x.ad)).set 5 (.int .i64 (q : Int))).drew)
            have HW8 := Lib.hid ((((Wrote.refl gx w7).set (p := ⟨gx, 3, none⟩) (.inl rfl) (.int .i64 (u : Int))).set (p := ⟨gx, 4, none⟩) (.inl rfl) (.int .i64 x.ad)).set (p := ⟨gx, 5, none⟩) (.inl rfl) (.int .i64 (q : Int)) |>.drew)
            clear c2 c3 c4 q3 q4 q5 f3 f4 f5
            generalize (((w7.setCell ⟨gx, 3, none⟩ (.int .i64 (u : Int))).setCell ⟨gx, 4, none⟩ (.int .i64 x.ad)).setCell ⟨gx, 5, none⟩ (.int .i64 (q : Int))).drew = w9 at HX8' HW8 ⊢
            have HOX9 := Lib.hid (HOX8.out.touch HW8.out (by omega))
            have HOW9 := Lib.hid (row_wrote' HOW8.out HW8.out (Ne.symm HXN.out))
            have HBE9 := Lib.hid (HBE8.out.trans (HW8.out.below hwgx HBE8.out.size))
            have HX9 : Hid (Obj1 w9 gx TRs (rxA 0 S T u x.ad q (-1) false)) := Lib.hid HX8'.out
            clear HX8 HOX8 HOW8 HBE8 HX8' HW8
            obtain ⟨f4, HF4⟩ : ∃ f4, Hid (x.fs.take 4 = f4) := ⟨_, Lib.hid rfl⟩
            have HFN : Hid (cdI x.fs y = cdJ f4 y 0) := Lib.hid (by rw [cdJ_zero, ← HF4.out]; rfl)
            rw [HFN.out] at HNM
            obtain ⟨m4, HM4⟩ : ∃ m4, Hid (min x.n 4 = m4) := ⟨_, Lib.hid rfl⟩
            have HL4 : Hid (f4.length = m4) := Lib.hid (by
              have h := (HOKW.out w9 HBE9.out).fl.1
              simp at h
              rw [← HF4.out, List.length_take, h, ← HM4.out]
              omega)
            have HFF := Lib.hid (fun W hW => (front4 (HOKW.out W hW).fl HM4.out))
            rw [HF4.out] at HFF
            have c4 := HOX9.out.cell 4
            have c5 := HOX9.out.cell 5
            simp at c4 c5
            go_upto_region 11 with (fail)
            go_cut [12] from 61 to 65 (fun v wx => v = .int .i64 ((m4 : Int) - 1) ∧ w9 = wx)
            case first =>
              have hm := HM4.out
              rcases (show x.n ≤ 4 ∨ 4 < x.n by omega) with h | h
              · obtain rfl : x.n = m4 := by omega
                have hi4 : (x.n : Int) ≤ 4 := by omega
                have hw : IntKind.i64.wrap ((x.n : Int) - 1) = (x.n : Int) - 1 := IntWalk.i64_in _ (by omega)
                go_wp2
                go_meet
                exact ⟨rfl, rfl⟩
              · obtain rfl : m4 = 4 := by omega
                have hi4 : (4 : Int) < (x.n : Int) := by omega
                go_wp2
                go_meet
                exact ⟨rfl, rfl⟩
            case rest =>
              obtain ⟨rfl, rfl⟩ := hcut
              have hm44 : m4 ≤ 4 := by have := HM4.out; omega
              clear c4 c5
              have HXJ : Hid (Obj1 w9 gx TRs (rxA 0 S T u x.ad q (cdJ f4 y m4) false)) := Lib.hid (by rw [← HL4.out, cdJ_end]; exact HX9.out)
              clear HX9
              go_wp2_with fail
              go_loopw [12] (fun i wx => ∃ t : Nat, t ≤ m4 ∧ i = .int .i64 ((t : Int) - 1) ∧ Obj1 wx gx TRs (rxA 0 S T u x.ad q (cdJ f4 y t) false) ∧ Wrote gx w9 wx) (fun i _ => (intOf i + 1).toNat)
              case atStart => exact ⟨m4, by omega, rfl, HXJ.out, Wrote.refl _ _⟩
              case round =>
                clear HXJ
                obtain ⟨t, ht, rfl, hox, hwr⟩ := hrel
                have HXJ := Lib.hid hox
                have HWR := Lib.hid hwr
                have HBR := Lib.hid (HBE9.out.trans (hwr.below hwgx HBE9.out.size))
                have HOXR := Lib.hid (HOX9.out.touch hwr (by omega))
                clear hox hwr
                rcases Nat.eq_zero_or_pos t with rfl | htp
                · have HOW9' := Lib.hid (row_wrote' HOW9.out HWR.out (Ne.symm HXN.out))
                  obtain ⟨cd, HCD⟩ : ∃ cd, Hid (cdJ f4 y 0 = cd) := ⟨_, Lib.hid rfl⟩
                  rw [HCD.out] at HXJ HNM
                  have c5 := HOXR.out.cell 5
                  simp at c5
                  clear HOW9 HBE9 HOX9 HWR
                  go_upto_region 16 with (fail)
                  clear c5
                  go_wp2_with fail
                  go_loopw [13] (fun i wx => ∃ t : Nat, t ≤ x.m ∧ i = .int .i64 (t : Int) ∧ Obj1 wx gx TRs (rxA 0 S T u x.ad q cd ((x.ts.take t).contains y)) ∧ Wrote gx wr wx) (fun i _ => x.m - (intOf i).toNat)
                  case atStart => exact ⟨0, by omega, rfl, HXJ.out, Wrote.refl _ _⟩
                  case round =>
                    obtain ⟨t, ht, rfl, hox, hwr⟩ := hrel
                    have HXT := Lib.hid hox
                    have HWT := Lib.hid hwr
                    have HBT2 := Lib.hid (HBR.out.trans (hwr.below hwgx HBR.out.size))
                    have c5 := (HOXR.out.touch hwr (by omega)).cell 5
                    have htl := (HOKW.out _ HBT2.out).tl
                    have htn : x.ts.length = x.m := by have := htl.1; simpa using this
                    simp at c5
                    clear hox hwr
                    by_cases htm : t < x.m
                    · have hti : (t : Int) < (x.m : Int) := by omega
                      have HTM := Lib.hid htm
                      have htk2 : t ≤ 1000 := by have := HM40.out; omega
                      obtain ⟨tb, toff, htA, _, hc⟩ := htl.get htm
                      rw [htA] at c5
                      rw [List.getElem_map] at hc
                      obtain ⟨xt, hxt⟩ : ∃ xt, x.ts[t]? = some xt := ⟨_, List.getElem?_eq_getElem (by rw [htn]; exact htm)⟩
                      have hxe : x.ts[t]'(by rw [htn]; exact htm) = xt := by
                        have := List.getElem?_eq_getElem (l := x.ts) (i := t) (by rw [htn]; exact htm)
                        rw [this] at hxt
                        exact Option.some.inj hxt
                      rw [hxe] at hc
                      have HSN : Hid ((x.ts.take (t + 1)).contains y = ((x.ts.take t).contains y || xt == y)) := Lib.hid (by
                        rw [List.take_add_one, hxt]
                        exact has_snoc _ _ _)
                      obtain ⟨bb, HBB⟩ : ∃ bb, Hid ((x.ts.take t).contains y = bb) := ⟨_, Lib.hid rfl⟩
                      rw [HBB.out] at HXT HSN
                      have q7 := HXT.out.cell 7
                      have f7 := HXT.out.free 7
                      have l7 := HXT.out.lt
                      simp [rxA] at q7
                      clear htl htn hxt hxe htA
                      cases bb
                      · obtain ⟨eb, HEB⟩ : ∃ eb, Hid ((xt == y) = eb) := ⟨_, Lib.hid rfl⟩
                        have heb := HEB.out
                        rw [HEB.out, Bool.false_or] at HSN
                        go_wp2
                        go_roundw
                        case rel => exact ⟨t + 1, by have := HTM.out; omega, by go_num, by rw [HSN.out]; exact HXT.out.set 7 (.bool eb), HWT.out.set (.inl rfl) _⟩
                        case measure => simp [intOf]; have := HTM.out; omega
                      · rw [Bool.true_or] at HSN
                        go_wp2
                        go_roundw
                        case rel => exact ⟨t + 1, by have := HTM.out; omega, by go_num, by rw [HSN.out]; exact HXT.out.set 7 (.bool true), HWT.out.set (.inl rfl) _⟩
                        case measure => simp [intOf]; have := HTM.out; omega
                    · obtain rfl : t = x.m := by omega
                      have HTE : Hid (x.ts.take x.m = x.ts) := Lib.hid (List.take_of_length_le (by rw [htn]; exact Nat.le_refl _))
                      rw [HTE.out] at HXT
                      have HOW9 := Lib.hid (row_wrote' HOW9'.out HWT.out (Ne.symm HXN.out))
                      have HBE9 := HBT2
                      obtain ⟨tk, HTK⟩ : ∃ tk, Hid (x.ts.contains y = tk) := ⟨_, Lib.hid rfl⟩
                      rw [HTK.out] at HXT HNM
                      have HX9 := HXT
                      clear htl htn HTE HXT HWT HBT2 HOW9' HXJ HOXR HBR
                      have q0 := HX9.out.cell 0
                      have q1 := HX9.out.cell 1
                      have q2 := HX9.out.cell 2
                      have q3 := HX9.out.cell 3
                      have q4 := HX9.out.cell 4
                      have q5 := HX9.out.cell 5
                      have q6 := HX9.out.cell 6
                      have q7 := HX9.out.cell 7
                      simp [rxA] at q0 q1 q2 q3 q4 q5 q6 q7
                      go_wp2_with (at_builtin; refine pushR _ rfl (.tmp 98) (.tmp 100) 36 rfl w.heap.size TRs i0 (.agg #[.int .i64 0, .int .i64 0, .int .i64 0, .int .i64 0, .int .i64 0, .int .i64 0, .int .i64 0, .bool false]) 8 64 Tryd.underlying36 hi hz0 hz1 hz2 rfl (by omega) _ _ _ rfl HOW9.out (Sl.cells ⟨0, S, T, u, x.ad, q, cd, tk⟩) _ rfl rfl (one_cells _) (by have := HLN.out; unfold maxLen; omega) (by have := HLN.out; omega) HBE9.out.size ?_; intro v' w10 HR10 HB10 HG10 HK10; have c2 : w10.cell? ⟨gx, 2, none⟩ = some (.int .i64 T) := (HX9.out.grown HG10.out HXN.out).cell 2)
                      go_roundw
                      case rel => exact ⟨j + 1, by omega, by go_num, by rw [HNX.out], by rw [HNM.out, slC_snoc, List.length_append]; exact HR10.out, HBE9.out.trans HB10.out⟩
                      case measure => simp [intOf]; omega
                · obtain ⟨t', rfl⟩ : ∃ t', t = t' + 1 := ⟨t - 1, by omega⟩
                  obtain ⟨fb, foff, hfA, _, hc⟩ := (HFF.out _ HBR.out).get (show t' < m4 by omega)
                  have htl : t' < f4.length := by rw [HL4.out]; omega
                  rw [List.getElem_map] at hc
                  obtain ⟨xt, hxt⟩ : ∃ xt, f4[t']? = some xt := ⟨_, List.getElem?_eq_getElem htl⟩
                  have hxe : f4[t']'htl = xt := by
                    rw [List.getElem?_eq_getElem htl] at hxt
                    exact Option.some.inj hxt
                  rw [hxe] at hc
                  have HST := Lib.hid (cdJ_step (y := y) hxt)
                  have c4 := HOXR.out.cell 4
                  simp at c4
                  rw [hfA] at c4
                  have htn : t' < x.n := by have := HM4.out; omega
                  have e1 : ((t' + 1 : Nat) : Int) - 1 = (t' : Int) := by omega
                  rw [e1]
                  have hwt : IntKind.i64.wrap ((t' : Int) - 1) = (t' : Int) - 1 := IntWalk.i64_in _ (by omega)
                  have q6 := HXJ.out.cell 6
                  have f6 := HXJ.out.free 6
                  have l6 := HXJ.out.lt
                  simp [rxA] at q6
                  clear hxt hxe htl hfA e1
                  by_cases hxy : xt = y
                  · rw [if_pos hxy] at HST
                    have hxb : (xt == y) = true := by simpa using hxy
                    clear hxy
                    go_wp2
                    go_roundw
                    case rel => exact ⟨t', by omega, rfl, by rw [HST.out]; exact HXJ.out.set 6 (.int .i64 (t' : Int)), HWR.out.set (.inl rfl) _⟩
                    case measure => first | (simp [intOf]; done) | (simp [intOf]; omega)
                  · rw [if_neg hxy] at HST
                    have hxb : (xt == y) = false := by simpa using hxy
                    clear hxy
                    go_wp2
                    go_roundw
                    case rel => exact ⟨t', by omega, rfl, by rw [HST.out]; exact HXJ.out, HWR.out⟩
                    case measure => first | (simp [intOf]; done) | (simp [intOf]; omega)
        · have HSLX : Hid (x.sl y S = [⟨x.k, S, T, 0, 0, 0, -1, false⟩]) := Lib.hid (by unfold Wd.sl; rw [if_neg hk0, if_pos (by omega), HXX.out])
          rw [HSLX.out] at HNM
          have hk0' : (x.k == 0) = false := by simpa using hk0
          have HX9 := HX7
          have HOW9 := HOW7
          have HBE9 := HBE7
          clear HSLX h0 h2 hk0 HX7 HOW7 HBE7
          have q0 := HX9.out.cell 0
          have q1 := HX9.out.cell 1
          have q2 := HX9.out.cell 2
          have q3 := HX9.out.cell 3
          have q4 := HX9.out.cell 4
          have q5 := HX9.out.cell 5
          have q6 := HX9.out.cell 6
          have q7 := HX9.out.cell 7
          simp [rxA] at q0 q1 q2 q3 q4 q5 q6 q7
          go_wp2_with (at_builtin; refine pushR _ rfl (.tmp 98) (.tmp 100) 36 rfl w.heap.size TRs i0 (.agg #[.int .i64 0, .int .i64 0, .int .i64 0, .int .i64 0, .int .i64 0, .int .i64 0, .int .i64 0, .bool false]) 8 64 Tryd.underlying36 hi hz0 hz1 hz2 rfl (by omega) _ _ _ rfl HOW9.out (Sl.cells ⟨x.k, S, T, 0, 0, 0, -1, false⟩) _ rfl rfl (one_cells _) (by have := HLN.out; unfold maxLen; omega) (by have := HLN.out; omega) HBE9.out.size ?_; intro v' w10 HR10 HB10 HG10 HK10; have c2 : w10.cell? ⟨gx, 2, none⟩ = some (.int .i64 T) := (HX9.out.grown HG10.out HXN.out).cell 2)
          go_roundw
          case rel => exact ⟨j + 1, by omega, by go_num, by rw [HNX.out], by rw [HNM.out, slC_snoc, List.length_append]; exact HR10.out, HBE9.out.trans HB10.out⟩
          case measure => simp [intOf]; omega
      · have HSLX : Hid (x.sl y S = []) := Lib.hid (by unfold Wd.sl; rw [if_neg (by omega), if_neg (by omega)])
        have HT0 : Hid (T = 0) := Lib.hid (by have := HXX.out; unfold Wd.tk tkI at this; rw [if_neg (by omega), if_neg (by omega), if_neg (by omega)] at this; exact this.symm)
        rw [HSLX.out, List.append_nil] at HNM
        rw [HT0.out, Int.add_zero] at HNX
        have d0 := HOX.out.cell 0
        simp at d0
        rcases (show x.k < 0 ∨ (0 ≤ x.k ∧ 2 < x.k) by omega) with h | ⟨h, h'⟩
        · clear hin HSLX
          go_wp2
          go_roundw
          case rel => exact ⟨j + 1, by omega, by go_num, by rw [HNX.out], by rw [HNM.out]; exact HOWN5.out, HBEL5.out⟩
          case measure => simp [intOf]; omega
        · clear hin HSLX
          go_wp2
          go_roundw
          case rel => exact ⟨j + 1, by omega, by go_num, by rw [HNX.out], by rw [HNM.out]; exact HOWN5.out, HBEL5.out⟩
          case measure => simp [intOf]; omega
    · obtain rfl : j = n := by omega
      have HE : Hid (ws.take j = ws) := Lib.hid (List.take_of_length_le (by rw [HW.out.len]; exact Nat.le_refl _))
      have hlw : ws.length ≤ 900 := by rw [HW.out.len]; omega
      rw [HE.out] at HOWN HLN ⊢
      obtain ⟨S, HS⟩ : ∃ S, Hid (endS ws (leadI ver) = S) := ⟨_, Lib.hid rfl⟩
      rw [HS.out]
      clear hml hlk hbd hlw hown hbel
      go_wp2_with (at_builtin; refine pushR _ rfl (.tmp 106) (.tmp 109) 36 rfl w.heap.size TRs i0 (.agg #[.int .i64 0, .int .i64 0, .int .i64 0, .int .i64 0, .int .i64 0, .int .i64 0, .int .i64 0, .bool false]) 8 64 Tryd.underlying36 hi hz0 hz1 hz2 rfl (by omega) _ _ _ rfl HOWN.out (Sl.cells ⟨4, S, 120, 0, 0, 0, -1, false⟩) _ rfl rfl (one_cells _) (by have := HLN.out; unfold maxLen; omega) (by have := HLN.out; omega) HBEL.out.size ?_; intro v' w10 HR10 HB10 HG10 HK10)
      go_ret
      refine ⟨v', rfl, Lib.hid ?_, Lib.hid (HBEL.out.trans HB10.out)⟩
      unfold viewL
      rw [HS.out, slC_snoc, List.length_append]
      exact HR10.out
end Go.Proofs.YtkankdecbefenaaDoor.Ly7
