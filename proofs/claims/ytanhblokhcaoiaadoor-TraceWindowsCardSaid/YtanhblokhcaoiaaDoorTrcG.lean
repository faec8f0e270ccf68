/- Package trace's finder, and what it makes: which window an event is of; no condition but sizes. -/
import Derived.Test.YtanhblokhcaoiaaDoorTrcF
namespace Go.Proofs.YtanhblokhcaoiaaDoor.Tr
open Go.ChangeShapes Go.WideShapes Go.ChangeAt Go.RowKit Base Go.Maps
open Hl (Ev TE)
set_option linter.unusedVariables false
set_option linter.unusedSimpArgs false

/-- 'v, ok := m[k]' where what stands there is known. -/
theorem wpList_lookup_val {P : Program} (w : World) {ops : Array Oper} {rest : List Oper} {o : Oper} {a : Act} {Q : Exit → Act → World → Prop} (hg : o.guard = none) (m x : Operand) (t : TypeId) (hop : o.op = Op.lookup t m x true)
    (k e : TypeId) (K : Keyed P k) (ht : P.underlying t = some (.map k e)) {z : Value} (hz : (zeroValue e).run P w = .ok z w) (b n : Nat) (D : DataW Value)
    (hm : a.eval m = .map (some b)) (hown : w.ownsMap P k vR b n D) (key : Value) (kl : Lit) (hx : a.eval x = key) (hkey : keyOf P k key = some kl) (u : Value) (y : Bool) (hu : D.atKey kl (.held z) = .held u) (hy : Go.Maps.has D kl = y)
    (hK : wpList P ops Q rest (a.put o.dst (.tuple #[u, .bool y])) w) : wpList P ops Q (o :: rest) a w :=
  wpList_lookup_own_ok w hg m x t hop k e K ht vR hz (.held z) [] rfl b n D hm hown key kl hx hkey (fun v ps hv => by
    unfold vR at hv
    rw [hu] at hv
    injection hv with hv
    injection hv with hv _
    injection hv with hv
    subst hv
    rw [hy]
    exact hK)
abbrev FC (gp : Nat) : Value := .func (.func 59) #[] #[.pointer (some ⟨gp, 0, none⟩)]
/-- What a finder holds. -/
structure FndAt (w : World) (gp gm : Nat) (fs : List Ev) : Prop where
  o : Obj1 w gp TM #[.map (some gm)]
  m : MapP w gm fs
theorem FndAt.kept {w w' : World} {gp gm : Nat} {fs : List Ev} (h : FndAt w gp gm fs) (hb : Below w.heap.size w w') : FndAt w' gp gm fs := ⟨h.o.kept hb, h.m.kept hb⟩
set_option maxRecDepth 100000 in
set_option maxHeartbeats 1000000 in
theorem finder_any (w : World) : Calls Tryd.prog 45 #[] w fun e' w' => ∃ gp gm, e' = .returned (FC gp) ∧ w.heap.size ≤ gp ∧ w.heap.size ≤ gm ∧ gp ≠ gm ∧ FndAt w' gp gm [] ∧ Below w.heap.size w w' := by
  obtain ⟨gm, HGM⟩ : ∃ g, Hid (w.heap.size = g) := ⟨_, Lib.hid rfl⟩
  obtain ⟨W1, HW1⟩ : ∃ W, Hid (W = w.alloc (.map #[] 0)) := ⟨_, Lib.hid rfl⟩
  have hb1 : Below w.heap.size w W1 := by rw [HW1.out]; exact bel_new _ _
  obtain ⟨gp, HGP⟩ : ∃ g, Hid (W1.heap.size = g) := ⟨_, Lib.hid rfl⟩
  have hgp : gp = gm + 1 := by rw [← HGP.out, HW1.out, ← HGM.out]; simp
  have HGQ := Lib.hid hgp.symm
  obtain ⟨W2, HW2⟩ : ∃ W, Hid (W = W1.alloc (.cells #[.map (some gm)] TM)) := ⟨_, Lib.hid rfl⟩
  have hb2 : Below W1.heap.size W1 W2 := by rw [HW2.out]; exact bel_new _ _
  have HF : Hid (FndAt W2 gp gm []) := Lib.hid ⟨by rw [HW2.out, ← HGP.out]; exact Obj1.new _ _ _, (show MapP W1 gm [] by rw [HW1.out, ← HGM.out]; exact MapP.made _).kept hb2⟩
  have HB2 : Hid (Below w.heap.size w W2) := Lib.hid (hb1.trans (hb2.mono hb1.size))
  have HGG : Hid (w.heap.size ≤ gp ∧ w.heap.size ≤ gm ∧ gp ≠ gm) := Lib.hid (by rw [hgp, HGM.out]; omega)
  have hmm := @run_makeMap Tryd.prog
  clear hb1 hb2 hgp
  go_enter Tryd.func45, Tryd.ntmps45
  go_upto_region 2 with (fail)
  --F1
  rw [← HW1.out, HGM.out, HGQ.out, ← HW2.out]
  clear HW1 HW2 HGM HGP hmm
  go_wp2
  go_ret
  exact ⟨gp, gm, rfl, HGG.out.1, HGG.out.2.1, HGG.out.2.2, HF.out, HB2.out⟩

/-! ### What a finder finds -/

def wn (fs : List Ev) (e : Ev) : Int := if num fs e = -1 then (fs.length : Int) else num fs e
def nw (fs : List Ev) (e : Ev) : List Ev := if num fs e = -1 then fs ++ [e] else fs
def bg (fs : List Ev) (e : Ev) : Bool := decide (num fs e = -1)
def qF (q : Int) (i : Nat) : Int := if i = 0 then q - 1 else if i = 1 then q else q + 1
theorem qF_is (q : Int) {i : Nat} (h : i < 3) : qF q i = q - 1 + (i : Int) := by
  rcases (show i = 0 ∨ i = 1 ∨ i = 2 by omega) with rfl | rfl | rfl <;> simp [qF] <;> omega
theorem ix3 (q : Int) {i : Nat} (h : i < 3) (W : World) : (Instr.index 102 (.agg #[.int .i64 (q - 1), .int .i64 q, .int .i64 (q + 1)]) (.int .i64 (i : Int))).run Tryd.prog W = .ok (.int .i64 (qF q i)) W := by
  rcases (show i = 0 ∨ i = 1 ∨ i = 2 by omega) with rfl | rfl | rfl <;> kernel_rfl
theorem info_k : (Tryd.prog.info? TK).map (fun i => (i.zero, i.size)) = some (some (.agg #[.int .i64 0, .int .i64 0, .int .i64 0]), 3) := by kernel_rfl
/-- What an event may be. -/
def EvOk (e : Ev) : Prop := W64 e.s ∧ W64 e.v ∧ 0 ≤ e.si ∧ e.si ≤ 1099511627776
theorem rm_lo (fs : List Ev) (e : Ev) : ∀ k, -1 ≤ rm fs e k
  | 0 => Int.le_refl _
  | k + 1 => by
    have := rm_lo fs e k
    show -1 ≤ max _ _
    omega
set_option maxRecDepth 100000 in
set_option maxHeartbeats 4000000 in
theorem find_any (gp gm : Nat) (fs : List Ev) (e : Ev) (w : World) (hF : FndAt w gp gm fs) (hU : Uniq fs) (hne : gp ≠ gm) (he : EvOk e) (hfe : ∀ f ∈ fs, EvOk f) (hn : fs.length ≤ 10000) :
    Calls Tryd.prog 59 #[.agg #[.int .i64 e.t, .int .i64 e.m, .int .i64 e.k, .int .i64 e.s, .int .i64 e.v, .int .i64 e.si, .int .i64 e.c, .slice e.A e.n e.d], .pointer (some ⟨gp, 0, none⟩)] w fun e' w' => e' = .returned (.tuple #[.int .i64 (wn fs e), .bool (bg fs e)]) ∧ Hid (FndAt w' gp gm (nw fs e)) ∧ Hid (Wrote gm w w') := by
  obtain ⟨iz, hiz, hzz, hsz⟩ := info_two info_k
  have HSI : Hid ((Tryd.prog.info? TK).map (·.size) = some 3) := Lib.hid (by rw [hiz]; simp [hsz])
  have HF := Lib.hid hF
  have HU := Lib.hid hU
  have HNE := Lib.hid hne
  have HFE := Lib.hid hfe
  have HLT : Hid (gp < w.heap.size ∧ gm < w.heap.size) := Lib.hid ⟨hF.o.lt, hF.m.lt⟩
  obtain ⟨hs, hv, h0, h1⟩ := he
  have HS := Lib.hid hs
  have HV := Lib.hid hv
  obtain ⟨q, hq⟩ : ∃ q, e.si / 101 = q := ⟨_, rfl⟩
  have HQ := Lib.hid hq
  have hqb : 0 ≤ q ∧ q ≤ 10886253741 := by omega
  have HQB := Lib.hid hqb
  have HPA := Lib.hid (fun W => part_any e.si W (by omega))
  rw [hq] at HPA
  have HSIB : Hid (0 ≤ e.si ∧ e.si ≤ 1099511627776) := Lib.hid ⟨h0, h1⟩
  obtain ⟨gb, HGB⟩ : ∃ gb, Hid (w.heap.size = gb) := ⟨_, Lib.hid rfl⟩
  obtain ⟨W1, HW1⟩ : ∃ W1, Hid (W1 = w.alloc (.cells #[.int .i64 e.t, .int .i64 e.m, .int .i64 e.k, .int .i64 e.s, .int .i64 e.v, .int .i64 e.si, .int .i64 e.c, .slice e.A e.n e.d] TE)) := ⟨_, Lib.hid rfl⟩
  have HB1 : Hid (Below w.heap.size w W1) := Lib.hid (by rw [HW1.out]; exact bel_new _ _)
  have HOB : Hid (Obj1 W1 gb TE #[.int .i64 e.t, .int .i64 e.m, .int .i64 e.k, .int .i64 e.s, .int .i64 e.v, .int .i64 e.si, .int .i64 e.c, .slice e.A e.n e.d]) := Lib.hid (by rw [HW1.out, ← HGB.out]; exact Obj1.new _ _ _)
  have K3 : ∀ z : Kin W1.drew, z.world.cell? ⟨gb, 3, none⟩ = some (.int .i64 e.s) := fun z => Kin.at (w := W1.drew) (HOB.out.cell 3) z
  have K4 : ∀ z : Kin W1.drew, z.world.cell? ⟨gb, 4, none⟩ = some (.int .i64 e.v) := fun z => Kin.at (w := W1.drew) (HOB.out.cell 4) z
  have K5 : ∀ z : Kin W1.drew, z.world.cell? ⟨gb, 5, none⟩ = some (.int .i64 e.si) := fun z => Kin.at (w := W1.drew) (HOB.out.cell 5) z
  have HKD : Hid (∀ z : Kin W1.drew, Below w.heap.size w z.world) := Lib.hid (fun z => HB1.out.trans (((bel_drew W1).trans z.below).mono HB1.out.size))
  clear hF hU hne hs hv h0 h1 hq hqb hfe
  go_enter Tryd.func59, Tryd.ntmps59
  go_upto_region 1 with (fail)
  rw [← HW1.out, HGB.out]
  clear HW1
  refine wp_region_specL 9 [.d (.pointer (some ⟨gb, 3, none⟩)), .d (.int .i64 (e.s)), .d (.pointer (some ⟨gb, 4, none⟩)), .d (.int .i64 (e.v)), .d (.pointer (some ⟨gb, 5, none⟩)), .d (.int .i64 (e.si)), .d (.int .i64 q), .d (.agg #[.int .i64 e.s, .int .i64 e.v, .int .i64 q]), .g (NewO W1.heap.size TK #[.int .i64 0, .int .i64 0, .int .i64 0])] (by kernel_rfl) (by kernel_rfl) ?_
  refine spec_d rfl (fun x _ => gives_run (by go_simp)) ?_
  try simp only [Act.put, List.getElem_toArray, List.getElem_cons_succ, List.getElem_cons_zero, List.setIfInBounds_toArray, List.set_cons_zero, List.set_cons_succ]
  refine spec_d rfl (fun x _ => gives_run (by go_simp)) ?_
  try simp only [Act.put, List.getElem_toArray, List.getElem_cons_succ, List.getElem_cons_zero, List.setIfInBounds_toArray, List.set_cons_zero, List.set_cons_succ]
  refine spec_d rfl (fun x _ => gives_run (by go_simp)) ?_
  try simp only [Act.put, List.getElem_toArray, List.getElem_cons_succ, List.getElem_cons_zero, List.setIfInBounds_toArray, List.set_cons_zero, List.set_cons_succ]
  refine spec_d rfl (fun x _ => gives_run (by go_simp)) ?_
  try simp only [Act.put, List.getElem_toArray, List.getElem_cons_succ, List.getElem_cons_zero, List.setIfInBounds_toArray, List.set_cons_zero, List.set_cons_succ]
  refine spec_d rfl (fun x _ => gives_run (by go_simp)) ?_
  try simp only [Act.put, List.getElem_toArray, List.getElem_cons_succ, List.getElem_cons_zero, List.setIfInBounds_toArray, List.set_cons_zero, List.set_cons_succ]
  refine spec_d rfl (fun x _ => gives_run (by go_simp)) ?_
  try simp only [Act.put, List.getElem_toArray, List.getElem_cons_succ, List.getElem_cons_zero, List.setIfInBounds_toArray, List.set_cons_zero, List.set_cons_succ]
  refine spec_d rfl (fun z _ => gives_det (by go_simp) (HPA.out z.world)) ?_
  try simp only [Act.put, List.getElem_toArray, List.getElem_cons_succ, List.getElem_cons_zero, List.setIfInBounds_toArray, List.set_cons_zero, List.set_cons_succ]
  refine spec_d rfl (fun x _ => gives_run (by go_simp)) ?_
  try simp only [Act.put, List.getElem_toArray, List.getElem_cons_succ, List.getElem_cons_zero, List.setIfInBounds_toArray, List.set_cons_zero, List.set_cons_succ]
  refine spec_g (NewO.stable _ _ _) (NewO.ex _ _ (Nat.le_refl _)) rfl (fun z _ => gives_alloc rfl hiz hzz (Nat.le_trans (bel_drew W1).size z.below.size)) ?_
  rintro v5 ⟨x5, g5, rfl, _⟩
  try simp only [Act.put, List.getElem_toArray, List.getElem_cons_succ, List.getElem_cons_zero, List.setIfInBounds_toArray, List.set_cons_zero, List.set_cons_succ]
  refine spec_end (fun z hz => ?_)
  have hgo := NewO.at (hz _ (List.mem_singleton.2 rfl))
  have HGO := Lib.hid hgo
  have HZ := Lib.hid (HKD.out z)
  have HOZ := Lib.hid (HOB.out.kept ((bel_drew W1).trans z.below))
  clear hz hgo K3 K4 K5 HKD HPA
  generalize z.world = wz at HGO HZ HOZ ⊢
  clear z
  change wpAny _ _ _ _ (0 + 1) _ _ _
  refine wpAny_ready (rs := [9]) (by kernel_rfl) (by simp) ?_
  refine AllReady.cons rfl (fun KK hK => ?_) AllReady.nil
  rw [if_pos (by rfl)]
  refine upon_rowS (ty := TK) rfl g5 #[.int .i64 e.s, .int .i64 e.v, .int .i64 q] rfl rfl TK _ HGO.out.2 HSI.out rfl (by simp [Value.oneCell']) ?_
  refine hK _ _ ?_
  clear hK KK
  try simp only [Act.put, List.getElem_toArray, List.getElem_cons_succ, List.getElem_cons_zero, List.setIfInBounds_toArray, List.set_cons_zero, List.set_cons_succ]
  have HW5 := Lib.hid (wrote_row HGO.out.2 #[.int .i64 e.s, .int .i64 e.v, .int .i64 q])
  generalize wz.setRow g5 #[.int .i64 e.s, .int .i64 e.v, .int .i64 q] = w5 at HW5 ⊢
  refine wpAny_done (by kernel_rfl) ?_ _
  have HNG : Hid (gb ≠ g5 ∧ gb < W1.heap.size) := Lib.hid (by have h1 := HGO.out.1; have h2 := HOB.out.lt; omega)
  have HB5 : Hid (Below w.heap.size w w5) := Lib.hid (HZ.out.trans ((HW5.out.2.below (Nat.le_trans HB1.out.size HGO.out.1) HZ.out.size)))
  have HO5 : Hid (Obj1 w5 gb TE #[.int .i64 e.t, .int .i64 e.m, .int .i64 e.k, .int .i64 e.s, .int .i64 e.v, .int .i64 e.si, .int .i64 e.c, .slice e.A e.n e.d]) := Lib.hid (HOZ.out.touch HW5.out.2 HNG.out.1)
  have HK5 : Hid (Obj1 w5 g5 TK #[.int .i64 e.s, .int .i64 e.v, .int .i64 q]) := Lib.hid HW5.out.1
  have HF5 : Hid (FndAt w5 gp gm fs) := Lib.hid (HF.out.kept HB5.out)
  clear HW5 HZ HOZ HGO HNG
  have d0 : w5.cell? ⟨g5, 0, none⟩ = some (.int .i64 e.s) := HK5.out.cell 0
  have d1 : w5.cell? ⟨g5, 1, none⟩ = some (.int .i64 e.v) := HK5.out.cell 1
  have d2 : w5.cell? ⟨g5, 2, none⟩ = some (.int .i64 q) := HK5.out.cell 2
  have a1 : IntKind.i64.wrap (q - 1) = q - 1 := IntWalk.i64_in _ (by have := HQB.out; omega)
  have a2 : IntKind.i64.wrap (q + 1) = q + 1 := IntWalk.i64_in _ (by have := HQB.out; omega)
  go_wp2_with fail
  --F2
  go_loopw [28, 6] (fun i l wx => ∃ k : Nat, k ≤ 3 ∧ i = .int .i64 k ∧ l = .int .i64 (rm fs e k) ∧ Below w5.heap.size w5 wx) (fun i _ _ => 3 - (intOf i).toNat)
  case atStart => exact ⟨0, by omega, rfl, rfl, Below.refl _ _⟩
  case round =>
    clear d0 d1 d2 a1 a2
    obtain ⟨k, hk, rfl, rfl, hbk⟩ := hrel
    have HBK := Lib.hid hbk
    have HFK := Lib.hid (HF5.out.kept hbk)
    have HOK := Lib.hid (HO5.out.kept hbk)
    clear hbk
    have c0 : wr.cell? ⟨gp, 0, none⟩ = some (.map (some gm)) := HFK.out.o.cell 0
    have c3 : wr.cell? ⟨gb, 3, none⟩ = some (.int .i64 e.s) := HOK.out.cell 3
    have c4 : wr.cell? ⟨gb, 4, none⟩ = some (.int .i64 e.v) := HOK.out.cell 4
    have c5 : wr.cell? ⟨gb, 5, none⟩ = some (.int .i64 e.si) := HOK.out.cell 5
    by_cases hlt : k < 3
    · have hki : (k : Int) < 3 := by omega
      have hix := fun W => ix3 q hlt W
      have HKK := Lib.hid (qF_is q hlt)
      obtain ⟨kk, hkk⟩ : ∃ kk, qF q k = kk := ⟨_, rfl⟩
      rw [hkk] at HKK
      rw [hkk] at hix
      clear hkk
      have HRM : Hid (rm fs e (k + 1) = max (rm fs e k) (mk fs e kk)) := Lib.hid (by show max (rm fs e k) (mk fs e (e.si / 101 - 1 + (k : Int))) = _; rw [HQ.out, ← HKK.out])
      have HKW : Hid (W64 kk) := Lib.hid (by have := HKK.out; have := HQB.out; exact ⟨by omega, by omega⟩)
      have HKEY := Lib.hid (kl_at HS.out HV.out HKW.out)
      obtain ⟨D, hown, _, hat⟩ := HFK.out.m
      have HOWN := Lib.hid hown
      have HAT := Lib.hid (hat e.s e.v kk HS.out HV.out HKW.out)
      clear hown hat
      have e0 : IntKind.i64.wrap ((k : Int) + 1) = (k : Int) + 1 := IntWalk.i64_in _ (by omega)
      obtain ⟨r, HR⟩ : ∃ r, Hid (rm fs e k = r) := ⟨_, Lib.hid rfl⟩
      rw [HR.out] at HRM
      rw [HR.out]
      cases hf : idx (hitE e.s e.v kk) fs with
      | none =>
        have HHAS : Hid (Go.Maps.has D (KL e.s e.v kk) = false) := Lib.hid (by rw [HAT.out.1, hf]; rfl)
        have HUV : Hid (D.atKey (KL e.s e.v kk) (.held (BV 0 0)) = .held (.agg #[.int .i64 0, .int .i64 0])) := Lib.hid (by rw [HAT.out.2]; unfold mp; rw [hf]; rfl)
        have HRN : Hid (rm fs e (k + 1) = r) := Lib.hid (by rw [HRM.out]; have := rm_lo fs e k; rw [HR.out] at this; unfold mk; rw [hf]; simp only; omega)
        have HBB : Hid (Below w5.heap.size w5 (wr.alloc (.cells #[.int .i64 0, .int .i64 0] TB))) := Lib.hid (HBK.out.trans ((bel_new wr _).mono HBK.out.size))
        clear hf HRM
        go_wp2_with (at_lookup; refine wpList_lookup_val _ rfl _ _ TM rfl TK TB keyed Tryd.underlying99 (zeroB _) gm _ D rfl HOWN.out _ _ rfl HKEY.out _ _ HUV.out HHAS.out ?_)
        --F3
        go_roundw
        case rel => exact ⟨k + 1, by omega, by go_num, by rw [HRN.out], HBB.out⟩
        case measure => simp [intOf]; omega
      | some j =>
        obtain ⟨f, hjf, hpf, _⟩ := idx_some _ _ _ hf
        have hjl : j < fs.length := (List.getElem?_eq_some_iff.1 hjf).1
        obtain ⟨hf1, hf2, hf3, hf4⟩ := HFE.out f (List.mem_of_getElem? hjf)
        have HHAS : Hid (Go.Maps.has D (KL e.s e.v kk) = true) := Lib.hid (by rw [HAT.out.1, hf]; rfl)
        have HUV : Hid (D.atKey (KL e.s e.v kk) (.held (BV 0 0)) = .held (.agg #[.int .i64 j, .int .i64 f.si])) := Lib.hid (by rw [HAT.out.2]; unfold mp; simp only [hf, hjf]; rfl)
        have HMK : Hid (mk fs e kk = if f.si - e.si ≤ 100 ∧ e.si - f.si ≤ 100 then (j : Int) else -1) := Lib.hid (by unfold mk; simp only [hf, hjf])
        have HBB : Hid (Below w5.heap.size w5 (wr.alloc (.cells #[.int .i64 j, .int .i64 f.si] TB))) := Lib.hid (HBK.out.trans ((bel_new wr _).mono HBK.out.size))
        have hlo := rm_lo fs e k
        rw [HR.out] at hlo
        obtain ⟨gx, HGX⟩ : ∃ gx, Hid (wr.heap.size = gx) := ⟨_, Lib.hid rfl⟩
        obtain ⟨WB, HWB⟩ : ∃ W, Hid (W = wr.alloc (.cells #[.int .i64 j, .int .i64 f.si] TB)) := ⟨_, Lib.hid rfl⟩
        rw [← HWB.out] at HBB
        have HOX : Hid (Obj1 WB gx TB #[.int .i64 j, .int .i64 f.si]) := Lib.hid (by rw [HWB.out, ← HGX.out]; exact Obj1.new _ _ _)
        have z0 : WB.cell? ⟨gx, 0, none⟩ = some (.int .i64 j) := HOX.out.cell 0
        have z1 : WB.cell? ⟨gx, 1, none⟩ = some (.int .i64 f.si) := HOX.out.cell 1
        have z5 : WB.cell? ⟨gb, 5, none⟩ = some (.int .i64 e.si) := (HO5.out.kept HBB.out).cell 5
        have hsb := HSIB.out
        have f1 : IntKind.i64.wrap (f.si - e.si) = f.si - e.si := IntWalk.i64_in _ (by omega)
        have f2 : IntKind.i64.wrap (e.si - f.si) = e.si - f.si := IntWalk.i64_in _ (by omega)
        by_cases n1 : f.si - e.si ≤ 100
        · by_cases n2 : e.si - f.si ≤ 100
          · have HRN : Hid (rm fs e (k + 1) = max r (j : Int)) := Lib.hid (by rw [HRM.out, HMK.out, if_pos ⟨n1, n2⟩])
            by_cases hm : r ≤ (j : Int)
            · have hmx : max r (j : Int) = (j : Int) := by omega
              clear hf HRM HMK hjf hpf hsb hf1 hf2 hf3 hf4
              go_upto_region 7 with (at_lookup; refine wpList_lookup_val _ rfl _ _ TM rfl TK TB keyed Tryd.underlying99 (zeroB _) gm _ D rfl HOWN.out _ _ rfl HKEY.out _ _ HUV.out HHAS.out ?_)
              rw [← HWB.out, HGX.out]
              clear HWB HGX c0 c3 c4 c5 hix
              go_wp2
              --F4
              go_roundw
              case rel => exact ⟨k + 1, by omega, by go_num, by rw [HRN.out, hmx]; try exact congrArg _ (by split <;> omega), HBB.out⟩
              case measure => simp [intOf]; omega
            · have hmx : max r (j : Int) = r := by omega
              clear hf HRM HMK hjf hpf hsb hf1 hf2 hf3 hf4
              go_upto_region 7 with (at_lookup; refine wpList_lookup_val _ rfl _ _ TM rfl TK TB keyed Tryd.underlying99 (zeroB _) gm _ D rfl HOWN.out _ _ rfl HKEY.out _ _ HUV.out HHAS.out ?_)
              rw [← HWB.out, HGX.out]
              clear HWB HGX c0 c3 c4 c5 hix
              go_wp2
              go_roundw
              case rel => exact ⟨k + 1, by omega, by go_num, by rw [HRN.out, hmx]; try exact congrArg _ (by split <;> omega), HBB.out⟩
              case measure => simp [intOf]; omega
          · have HRN : Hid (rm fs e (k + 1) = r) := Lib.hid (by rw [HRM.out, HMK.out, if_neg (fun h => n2 h.2)]; omega)
            clear hf HRM HMK hjf hpf hsb hf1 hf2 hf3 hf4
            go_upto_region 7 with (at_lookup; refine wpList_lookup_val _ rfl _ _ TM rfl TK TB keyed Tryd.underlying99 (zeroB _) gm _ D rfl HOWN.out _ _ rfl HKEY.out _ _ HUV.out HHAS.out ?_)
            rw [← HWB.out, HGX.out]
            clear HWB HGX c0 c3 c4 c5 hix
            go_wp2
            go_roundw
            case rel => exact ⟨k + 1, by omega, by go_num, by rw [HRN.out], HBB.out⟩
            case measure => simp [intOf]; omega
        · have HRN : Hid (rm fs e (k + 1) = r) := Lib.hid (by rw [HRM.out, HMK.out, if_neg (fun h => n1 h.1)]; omega)
          clear hf HRM HMK hjf hpf hsb hf1 hf2 hf3 hf4
          go_upto_region 7 with (at_lookup; refine wpList_lookup_val _ rfl _ _ TM rfl TK TB keyed Tryd.underlying99 (zeroB _) gm _ D rfl HOWN.out _ _ rfl HKEY.out _ _ HUV.out HHAS.out ?_)
          rw [← HWB.out, HGX.out]
          clear HWB HGX c0 c3 c4 c5 hix
          go_wp2
          go_roundw
          case rel => exact ⟨k + 1, by omega, by go_num, by rw [HRN.out], HBB.out⟩
          case measure => simp [intOf]; omega
    · obtain rfl : k = 3 := by omega
      have HNM := Lib.hid (num_max HU.out (e := e))
      rw [HNM.out]
      obtain ⟨N, HN⟩ : ∃ N, Hid (num fs e = N) := ⟨_, Lib.hid rfl⟩
      rw [HN.out]
      have HBW := Lib.hid (HB5.out.trans (HBK.out.mono HB5.out.size))
      rcases @num_lt fs e with ⟨m1, m2⟩ | ⟨j, m1, m2, m3⟩
      · have HM2 := Lib.hid m2
        obtain rfl : N = -1 := by rw [← HN.out, m1]
        have HRES : Hid (wn fs e = (fs.length : Int) ∧ bg fs e = true ∧ nw fs e = fs ++ [e]) := Lib.hid (by unfold wn bg nw; rw [m1]; exact ⟨rfl, rfl, rfl⟩)
        have HKR := Lib.hid (HK5.out.kept HBK.out)
        have d0 : wr.cell? ⟨g5, 0, none⟩ = some (.int .i64 e.s) := HKR.out.cell 0
        have d1 : wr.cell? ⟨g5, 1, none⟩ = some (.int .i64 e.v) := HKR.out.cell 1
        have d2 : wr.cell? ⟨g5, 2, none⟩ = some (.int .i64 q) := HKR.out.cell 2
        obtain ⟨D, hown, hsize, hat⟩ := HFK.out.m
        have HOWN := Lib.hid hown
        have HSZ := Lib.hid hsize
        have HAT := Lib.hid hat
        have HQW : Hid (W64 q) := Lib.hid (by have := HQB.out; exact ⟨by omega, by omega⟩)
        have HKEY := Lib.hid (kl_at HS.out HV.out HQW.out)
        have HLN : Hid (fs.length < maxLen) := Lib.hid (by unfold maxLen; omega)
        clear m1 m2 HN hown hsize hat
        go_upto_region 13 with (first | (at_len; refine wpList_len_own _ rfl _ TM rfl TK TB Tryd.underlying99 vR gm _ D rfl HOWN.out ?_; rw [HSZ.out]) | (at_mapUpdate; refine wpList_mapUpdate_own _ rfl _ _ _ TM rfl TK TB keyed Tryd.underlying99 vR gm _ D rfl HOWN.out HLN.out _ _ _ rfl rfl HKEY.out (.held (BV fs.length e.si)) [] rfl ?_; intro w1 hown1 hgrow1))
        --F5
        have HM1 : Hid (MapP w1 gm (fs ++ [e])) := Lib.hid (MapP.put HS.out HV.out (by rw [HQ.out]; exact HQW.out) HOWN.out HSZ.out HM2.out HAT.out (by rw [HQ.out]; exact hown1))
        have HW1 : Hid (Wrote gm w w1) := Lib.hid ((Wrote.of_below HBW.out).trans hgrow1)
        have HP1 : Hid (Obj1 w1 gp TM #[.map (some gm)]) := Lib.hid (HFK.out.o.touch hgrow1 HNE.out)
        clear hown1 hgrow1 HKEY HOWN HSZ HAT c0 c3 c4 c5 d0 d1 d2
        have c0 : w1.cell? ⟨gp, 0, none⟩ = some (.map (some gm)) := HP1.out.cell 0
        obtain ⟨D1, hown1, hsize1, _⟩ := HM1.out
        have HOWN := Lib.hid hown1
        obtain ⟨M, hM⟩ : ∃ M, (fs ++ [e]).length = M := ⟨_, rfl⟩
        have hML : M = fs.length + 1 := by rw [← hM]; simp
        have HSZ : Hid (Go.Maps.size D1 = M) := Lib.hid (hsize1.trans hM)
        have e9 : IntKind.i64.wrap ((M : Int) - 1) = (fs.length : Int) := by rw [IntWalk.i64_in _ (by omega)]; omega
        clear hown1 hsize1 hM hML
        go_wp2_with (at_len; refine wpList_len_own _ rfl _ TM rfl TK TB Tryd.underlying99 vR gm _ D1 rfl HOWN.out ?_; rw [HSZ.out])
        go_ret2
        exact ⟨by rw [HRES.out.1, HRES.out.2.1]; rfl, Lib.hid (by rw [HRES.out.2.2]; exact ⟨HP1.out, HM1.out⟩), HW1⟩
      · obtain rfl : N = (j : Int) := by rw [← HN.out, m1]
        have HRES : Hid (wn fs e = (j : Int) ∧ bg fs e = false ∧ nw fs e = fs) := Lib.hid (by
          have hj : ¬ ((j : Int) = -1) := by omega
          unfold wn bg nw
          rw [m1, if_neg hj, if_neg hj]
          exact ⟨rfl, decide_eq_false hj, rfl⟩)
        clear m1 m2 m3 HN c0 c3 c4 c5
        go_wp2
        go_ret2
        exact ⟨by rw [HRES.out.1, HRES.out.2.1]; rfl, Lib.hid (by rw [HRES.out.2.2]; exact HFK.out), Lib.hid (Wrote.of_below HBW.out)⟩
end Go.Proofs.YtanhblokhcaoiaaDoor.Tr
