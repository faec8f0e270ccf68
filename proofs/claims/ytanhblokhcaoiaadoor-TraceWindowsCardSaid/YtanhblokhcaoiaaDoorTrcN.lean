/- Whether all that took a message took the same (package trace's Alike); no condition but sizes. -/
import Derived.Test.YtanhblokhcaoiaaDoorTrcM
namespace Go.Proofs.YtanhblokhcaoiaaDoor.Tr
open Go.ChangeShapes Go.WideShapes Go.ChangeAt Go.RowKit Base Go.Maps
open Hl (Ev TE TI EvsAt evL)
set_option linter.unusedVariables false
set_option linter.unusedSimpArgs false

abbrev EW : Type := Ev × List Nat
def setM (m : Nat → Option EW) (N : Nat) (a : EW) : Nat → Option EW := fun j => if j = N then some a else m j
/-- Did all take the same, from here on? -/
def al : List Ev → (Nat → Option EW) → List EW → Bool
  | _, _, [] => true
  | fs, m, a :: r =>
    if isM a.1.k = true then
      if a.1.k = 2 then
        match m (wn fs a.1).toNat with
        | none => al (nw fs a.1) (setM m (wn fs a.1).toNat a) r
        | some o => if o.1.c = a.1.c ∧ o.2 = a.2 then al (nw fs a.1) m r else false
      else al (nw fs a.1) m r
    else al fs m r
abbrev TME : TypeId := 82
abbrev zE : Value := .agg #[.int .i64 0, .int .i64 0, .int .i64 0, .int .i64 0, .int .i64 0, .int .i64 0, .int .i64 0, .slice none 0 0]
def evV (o : Option EW) : Value := match o with
  | none => zE
  | some a => .agg (evL a.1).toArray
theorem zeroE (w : World) : (zeroValue TE).run Tryd.prog w = .ok zE w := by kernel_rfl
def MapE (w : World) (g cnt : Nat) (m : Nat → Option EW) : Prop :=
  ∃ D : DataW Value, w.ownsMap Tryd.prog TI vR g cnt D ∧ ∀ N : Nat, N ≤ 100000 → Go.Maps.has D (.int .i64 N) = (m N).isSome ∧ D.atKey (.int .i64 N) (.held zE) = .held (evV (m N))
theorem key_n {N : Nat} (h : N ≤ 100000) : keyOf Tryd.prog TI (.int .i64 N) = some (.int .i64 N) := keyOf_int_mk Tryd.underlying3 (Hl.wf_key ⟨by omega, by omega⟩)
theorem MapE.made (w : World) : MapE (w.alloc (.map #[] 0)) w.heap.size 0 (fun _ => none) := ⟨_, World.ownsMap_made _ _ _ _, fun N _ => ⟨rfl, rfl⟩⟩
theorem MapE.lt {w : World} {g cnt : Nat} {m : Nat → Option EW} (h : MapE w g cnt m) : g < w.heap.size := by
  obtain ⟨D, h, _⟩ := h
  exact h.lt
theorem MapE.of_block {w w' : World} {g cnt : Nat} {m : Nat → Option EW} (h : MapE w g cnt m) (hb : w'.heap[g]? = w.heap[g]?) : MapE w' g cnt m := by
  obtain ⟨D, ⟨es, cl, h1, h2, h3, h4⟩, h5⟩ := h
  exact ⟨D, ⟨es, cl, hb.trans h1, h2, h3, h4⟩, h5⟩
theorem MapE.kept {w w' : World} {g cnt : Nat} {m : Nat → Option EW} (h : MapE w g cnt m) (hb : Below w.heap.size w w') : MapE w' g cnt m := h.of_block (hb.block g h.lt)
theorem MapE.more {w : World} {g cnt : Nat} {m : Nat → Option EW} (h : MapE w g cnt m) : MapE w g (cnt + 1) m := by
  obtain ⟨D, h1, h2⟩ := h
  exact ⟨D, h1.mono (Nat.le_succ _), h2⟩
theorem MapE.put {w w0 : World} {g cnt : Nat} {m : Nat → Option EW} {N : Nat} {a : EW} {D : DataW Value} (hN : N ≤ 100000) (ho0 : w0.ownsMap Tryd.prog TI vR g cnt D)
    (hh : ∀ N : Nat, N ≤ 100000 → Go.Maps.has D (.int .i64 N) = (m N).isSome ∧ D.atKey (.int .i64 N) (.held zE) = .held (evV (m N)))
    (ho : w.ownsMap Tryd.prog TI vR g (cnt + 1) (D.put (.int .i64 N) (.held (.agg (evL a.1).toArray)))) : MapE w g (cnt + 1) (setM m N a) := by
  have hT := ho0.tidy Hl.lawI
  have hkey := Hl.lawI.key (key_n hN)
  refine ⟨_, ho, fun j hj => ?_⟩
  unfold setM
  by_cases hc : j = N
  · subst hc
    rw [if_pos rfl, has_put_same hT.isMap hkey, atKey_put_same hT.isMap hkey]
    exact ⟨rfl, rfl⟩
  · have hne : (Lit.int .i64 (j : Int)) ≠ Lit.int .i64 (N : Int) := fun e => hc (by injection e with _ e; omega)
    rw [if_neg hc, has_put_other hne, atKey_put_other hne]
    exact hh j hj
theorem get_tail {ls : List EW} {k : Nat} {a : EW} (h : ls[k]? = some a) : ls.drop k = a :: ls.drop (k + 1) := by
  obtain ⟨hk, e⟩ := List.getElem?_eq_some_iff.1 h
  rw [List.drop_eq_getElem_cons hk, e]
theorem bytes_in {w : World} {A : Option Addr} {n : Nat} {vs : List Nat} (h : Lst w A n (vs.map bV)) : Lib.BytesIn w A n (vs.map (fun (x : Nat) => (x : Int))) := fun hn => by
  obtain ⟨b, o, rfl, _, hc⟩ := h.2 hn
  have hl : vs.length = n := by have := h.1; simpa using this
  refine ⟨b, o, rfl, fun i hi => ?_⟩
  rw [hc i hi]
  first
    | (rw [List.getElem?_map, List.getElem?_eq_getElem (by omega)]; simp [bV, List.getD_eq_getElem?_getD, List.getElem?_eq_getElem (show i < vs.length by omega)])
    | (rw [List.getElem_map]; simp [bV, List.getD_eq_getElem?_getD, List.getElem?_eq_getElem (show i < vs.length by omega)])
theorem bytes_eq : ∀ {vs us : List Nat}, (∀ y ∈ vs, y < 256) → (∀ y ∈ us, y < 256) → (Lib.bytesOf (vs.map (fun (x : Nat) => (x : Int))) == Lib.bytesOf (us.map (fun (x : Nat) => (x : Int)))) = decide (vs = us)
  | [], [], _, _ => rfl
  | [], b :: us, _, _ => by simp [Lib.bytesOf]
  | a :: vs, [], _, _ => by simp [Lib.bytesOf]
  | a :: vs, b :: us, hv, hu => by
    have ih := @bytes_eq vs us (fun y hy => hv y (by simp [hy])) (fun y hy => hu y (by simp [hy]))
    have ha := hv a (by simp)
    have hb := hu b (by simp)
    rw [Bool.eq_iff_iff] at ih ⊢
    simp only [beq_iff_eq, decide_eq_true_eq, Lib.bytesOf, List.map_cons, List.cons.injEq] at ih ⊢
    rw [ih]
    have : (UInt8.ofNat (a : Int).toNat = UInt8.ofNat (b : Int).toNat) ↔ a = b := by
      rw [Int.toNat_natCast, Int.toNat_natCast]
      constructor
      · intro h
        have := congrArg UInt8.toNat h
        simp only [UInt8.toNat_ofNat'] at this
        omega
      · intro h; rw [h]
    rw [this]
set_option maxRecDepth 100000 in
set_option maxHeartbeats 8000000 in
theorem alike_any (A : Option Addr) (n c : Nat) (ls : List EW) (w : World) (hE : EvsAt w A n (ls.map (·.1))) (hL : ∀ a ∈ ls, Lst w a.1.A a.1.n (a.2.map bV) ∧ a.1.n ≤ 140737488351232) (hV : ∀ a ∈ ls, ∀ y ∈ a.2, y < 256) (hO : ∀ a ∈ ls, isM a.1.k = true → EvOk a.1) (hn : n ≤ 1000) :
    Calls Tryd.prog 35 #[.slice A n c] w fun e' w' => e' = .returned (.bool (al [] (fun _ => none) ls)) ∧ Below w.heap.size w w' := by
  have HLN : Hid (ls.length = n) := Lib.hid (by have := hE.len; simpa using this)
  have HE := Lib.hid hE
  have HL := Lib.hid hL
  have HV := Lib.hid hV
  have HOK := Lib.hid hO
  have HINV := Lib.hid (inv_run hO)
  have HN := Lib.hid hn
  obtain ⟨Q, HQ⟩ : ∃ Q, Hid (al [] (fun _ => none) ls = Q) := ⟨_, Lib.hid rfl⟩
  rw [HQ.out]
  have hmm := @run_makeMap Tryd.prog
  clear hE hL hO hV
  go_enter Tryd.func35, Tryd.ntmps35
  go_wp2_with fail
  refine (finder_any w).mono ?_
  rintro e' w1 ⟨gp, gm, rfl, h1, h2, h3, h4, h5⟩
  have HGE : Hid (w.heap.size ≤ gp ∧ w.heap.size ≤ gm ∧ gp ≠ gm) := Lib.hid ⟨h1, h2, h3⟩
  obtain ⟨gf, HGF⟩ : ∃ g, Hid (w1.heap.size = g) := ⟨_, Lib.hid rfl⟩
  obtain ⟨W2, HW2⟩ : ∃ W, Hid (W = w1.alloc (.map #[] 0)) := ⟨_, Lib.hid rfl⟩
  have hb2 : Below w1.heap.size w1 W2 := by rw [HW2.out]; exact bel_new _ _
  have HF2 := Lib.hid (h4.kept hb2)
  have HM2 : Hid (MapE W2 gf 0 (fun _ => none)) := Lib.hid (by rw [HW2.out, ← HGF.out]; exact MapE.made _)
  have HB2 := Lib.hid (h5.trans (hb2.mono h5.size))
  have HG3 : Hid (w.heap.size ≤ gf ∧ gp ≠ gf ∧ gf ≠ gm) := Lib.hid (by rw [← HGF.out]; have h6 := h5.size; have h7 := h4.o.lt; have h8 := h4.m.lt; omega)
  obtain ⟨base, HBS⟩ : ∃ base, Hid (W2.heap.size = base) := ⟨_, Lib.hid rfl⟩
  have HGP : Hid (gp < base ∧ gm < base ∧ gf < base ∧ w.heap.size ≤ base) := Lib.hid (by rw [← HBS.out]; exact ⟨HF2.out.o.lt, HF2.out.m.lt, HM2.out.lt, HB2.out.size⟩)
  clear h1 h2 h3 h4 h5 hb2
  go_upto_region 3 with (fail)
  rw [← HW2.out, HGF.out]
  clear HW2 HGF hmm
  go_wp2_with fail
  go_loopw [15] (fun i wx => ∃ k : Nat, k ≤ n ∧ ∃ fs m, i = .int .i64 k ∧ Hid (FndAt wx gp gm fs) ∧ Hid (MapE wx gf k m) ∧ Hid (Q = al fs m (ls.drop k)) ∧ Hid (fs = (runP (ls.take k)).1) ∧ Hid (∀ N o, m N = some o → o ∈ ls) ∧ Hid (Below w.heap.size w wx ∧ base ≤ wx.heap.size)) (fun i _ => n - (intOf i).toNat)
  case atStart => exact ⟨0, by omega, [], _, rfl, HF2, HM2, Lib.hid HQ.out.symm, Lib.hid rfl, Lib.hid (fun N o h => by cases h), Lib.hid ⟨HB2.out, by rw [HBS.out]; exact Nat.le_refl _⟩⟩
  case round =>
    clear HF2 HM2 HB2
    obtain ⟨k, hk, fs, m, rfl, HFD, HME, HAL, HFS, HMM, hbk⟩ := hrel
    have HBK := Lib.hid hbk.out.1
    have HBA : Hid (base ≤ wr.heap.size) := Lib.hid hbk.out.2
    clear hbk
    by_cases hlt : k < n
    · have hki : (k : Int) < (n : Int) := by omega
      have hkl : k < ls.length := by rw [HLN.out]; exact hlt
      obtain ⟨a, ha⟩ : ∃ a, ls[k]? = some a := ⟨_, List.getElem?_eq_getElem hkl⟩
      have HAM := Lib.hid (List.mem_of_getElem? ha)
      have HTL := Lib.hid (get_tail ha)
      have HRN := Lib.hid (runP_next ha)
      have HIV := Lib.hid (HINV.out k (by omega))
      obtain ⟨⟨fs0, ps0⟩, HZ⟩ : ∃ z, Hid (runP (ls.take k) = z) := ⟨_, Lib.hid rfl⟩
      rw [HZ.out] at HRN HIV HFS
      have hff : fs = fs0 := HFS.out
      subst hff
      obtain ⟨x, vs⟩ := a
      have HVL := Lib.hid (HL.out _ HAM.out)
      have HVV := Lib.hid (HV.out _ HAM.out)
      have HXO := Lib.hid (HOK.out _ HAM.out)
      simp only at HVL HXO HVV
      obtain ⟨b, off, rfl, hb, k0, k1, k2, k3, k4, k5, k6, k7⟩ := (HE.out.kept HBK.out).get hlt (x := x) (by rw [List.getElem?_map, ha]; rfl)
      obtain ⟨gx, HGX⟩ : ∃ gx, Hid (wr.heap.size = gx) := ⟨_, Lib.hid rfl⟩
      obtain ⟨W5, HW5⟩ : ∃ W5, Hid (W5 = wr.alloc (.cells #[.int .i64 x.t, .int .i64 x.m, .int .i64 x.k, .int .i64 x.s, .int .i64 x.v, .int .i64 x.si, .int .i64 x.c, .slice x.A x.n x.d] TE)) := ⟨_, Lib.hid rfl⟩
      have HGXB : Hid (base ≤ gx) := Lib.hid (by rw [← HGX.out]; exact HBA.out)
      have hb5 : Below wr.heap.size wr W5 := by rw [HW5.out]; exact bel_new _ _
      have HO5 : Hid (Obj1 W5 gx TE #[.int .i64 x.t, .int .i64 x.m, .int .i64 x.k, .int .i64 x.s, .int .i64 x.v, .int .i64 x.si, .int .i64 x.c, .slice x.A x.n x.d]) := Lib.hid (by rw [HW5.out, ← HGX.out]; exact Obj1.new _ _ _)
      have HB5 := Lib.hid (HBK.out.trans (hb5.mono HBK.out.size))
      have HFD5 := Lib.hid (HFD.out.kept hb5)
      have HME5 := Lib.hid (HME.out.kept hb5)
      have HBA5 : Hid (base ≤ W5.heap.size) := Lib.hid (Nat.le_trans HBA.out hb5.size)
      have e0 : IntKind.i64.wrap ((k : Int) + 1) = (k : Int) + 1 := IntWalk.i64_in _ (by omega)
      clear ha hkl hb hb5
      go_upto_region 6 with (fail)
      rw [← HW5.out, HGX.out]
      clear k0 k1 k2 k3 k4 k5 k6 k7 HW5 HGX
      have f0 : W5.cell? ⟨gx, 0, none⟩ = some (.int .i64 x.t) := HO5.out.cell 0
      have f1 : W5.cell? ⟨gx, 1, none⟩ = some (.int .i64 x.m) := HO5.out.cell 1
      have f2 : W5.cell? ⟨gx, 2, none⟩ = some (.int .i64 x.k) := HO5.out.cell 2
      have f3 : W5.cell? ⟨gx, 3, none⟩ = some (.int .i64 x.s) := HO5.out.cell 3
      have f4 : W5.cell? ⟨gx, 4, none⟩ = some (.int .i64 x.v) := HO5.out.cell 4
      have f5 : W5.cell? ⟨gx, 5, none⟩ = some (.int .i64 x.si) := HO5.out.cell 5
      have f6 : W5.cell? ⟨gx, 6, none⟩ = some (.int .i64 x.c) := HO5.out.cell 6
      have f7 : W5.cell? ⟨gx, 7, none⟩ = some (.slice x.A x.n x.d) := HO5.out.cell 7
      go_wp2_with fail
      refine (msg_any x W5).mono ?_
      rintro e' w6 ⟨rfl, hb6⟩
      have HO6 := Lib.hid (HO5.out.kept hb6)
      have HB6 := Lib.hid (HB5.out.trans (hb6.mono HB5.out.size))
      have HFD6 := Lib.hid (HFD5.out.kept hb6)
      have HME6 := Lib.hid (HME5.out.kept hb6)
      have HBA6 : Hid (base ≤ w6.heap.size) := Lib.hid (Nat.le_trans HBA5.out hb6.size)
      clear f0 f1 f2 f3 f4 f5 f6 f7 hb6 HO5 HB5 HFD5 HME5 HBA5 HFD HME HBK HBA
      obtain ⟨im, HIM⟩ : ∃ m, Hid (isM x.k = m) := ⟨_, Lib.hid rfl⟩
      rw [HIM.out]
      cases im with
      | false =>
        have HR2 : Hid (fs = (runP (ls.take (k + 1))).1) := Lib.hid (by rw [HRN.out, stp_not HIM.out])
        have HA2 : Hid (Q = al fs m (ls.drop (k + 1))) := Lib.hid (by rw [HAL.out, HTL.out]; show al fs m ((x, vs) :: _) = _; simp only [al, HIM.out]; rfl)
        go_wp2
        go_roundw
        case rel => exact ⟨k + 1, by omega, fs, m, by go_num, HFD6, Lib.hid HME6.out.more, HA2, HR2, HMM, Lib.hid ⟨HB6.out, HBA6.out⟩⟩
        case measure => simp [intOf]; omega
      | true =>
        have HEV := Lib.hid (HXO.out HIM.out)
        obtain ⟨p, hp1, _, hp3⟩ := add_at HIV.out x
        have HWN : Hid (0 ≤ wn fs x) := Lib.hid hp3
        have HR2 : Hid (nw fs x = (runP (ls.take (k + 1))).1) := Lib.hid (by
          rw [HRN.out]
          unfold stp
          simp only [HIM.out, if_true])
        have HFL : Hid (Uniq fs ∧ (∀ f ∈ fs, EvOk f) ∧ fs.length ≤ k) := Lib.hid (by exact ⟨HIV.out.2.1, HIV.out.2.2.1, HIV.out.2.2.2.1⟩)
        obtain ⟨J, HJ⟩ : ∃ J : Nat, Hid ((wn fs x).toNat = J) := ⟨_, Lib.hid rfl⟩
        have HJI : Hid (wn fs x = (J : Int)) := Lib.hid (by have := HWN.out; have := HJ.out; omega)
        have HJN : Hid (J ≤ 100000) := Lib.hid (by
          have h1 := HFL.out.2.2
          have h2 := HJI.out
          rcases @num_lt fs x with ⟨m1, m2⟩ | ⟨j, m1, m2, m3⟩
          · have hw : wn fs x = (fs.length : Int) := by unfold wn; rw [if_pos m1]
            omega
          · have hj : ¬ ((j : Int) = -1) := by omega
            have hw : wn fs x = (j : Int) := by unfold wn; rw [m1, if_neg hj]
            omega)
        clear hp1 hp3
        have HFN := Lib.hid (find_any gp gm fs x w6 HFD6.out HFL.out.1 HGE.out.2.2 HEV.out HFL.out.2.1 (Nat.le_trans HFL.out.2.2 (by omega)))
        rw [HJI.out] at HFN
        have f0 : w6.cell? ⟨gx, 0, none⟩ = some (.int .i64 x.t) := HO6.out.cell 0
        have f1 : w6.cell? ⟨gx, 1, none⟩ = some (.int .i64 x.m) := HO6.out.cell 1
        have f2 : w6.cell? ⟨gx, 2, none⟩ = some (.int .i64 x.k) := HO6.out.cell 2
        have f3 : w6.cell? ⟨gx, 3, none⟩ = some (.int .i64 x.s) := HO6.out.cell 3
        have f4 : w6.cell? ⟨gx, 4, none⟩ = some (.int .i64 x.v) := HO6.out.cell 4
        have f5 : w6.cell? ⟨gx, 5, none⟩ = some (.int .i64 x.si) := HO6.out.cell 5
        have f6 : w6.cell? ⟨gx, 6, none⟩ = some (.int .i64 x.c) := HO6.out.cell 6
        have f7 : w6.cell? ⟨gx, 7, none⟩ = some (.slice x.A x.n x.d) := HO6.out.cell 7
        go_wp2_with fail
        refine HFN.out.mono ?_
        rintro e' w7 ⟨rfl, hf7, hw7⟩
        have HFQ : Hid (FndAt w7 gp gm (nw fs x)) := Lib.hid hf7.out
        have HNX : Hid (gx ≠ gm) := Lib.hid (by have h1 := HGP.out; have h2 := HGXB.out; omega)
        have HO7 := Lib.hid (HO6.out.touch hw7.out HNX.out)
        have HM7 : Hid (MapE w7 gf k m) := Lib.hid (HME6.out.of_block (hw7.out.block gf HME6.out.lt (fun e => HG3.out.2.2 (Option.some.inj e))))
        have HB7 := Lib.hid (HB6.out.trans (hw7.out.below HGE.out.2.1 HB6.out.size))
        have HBA7 : Hid (base ≤ w7.heap.size) := Lib.hid (Nat.le_trans HBA6.out hw7.out.size)
        clear f0 f1 f2 f3 f4 f5 f6 f7 hf7 hw7 HFN HFD6 HME6 HO6 HB6 HBA6
        have f0 : w7.cell? ⟨gx, 0, none⟩ = some (.int .i64 x.t) := HO7.out.cell 0
        have f1 : w7.cell? ⟨gx, 1, none⟩ = some (.int .i64 x.m) := HO7.out.cell 1
        have f2 : w7.cell? ⟨gx, 2, none⟩ = some (.int .i64 x.k) := HO7.out.cell 2
        have f3 : w7.cell? ⟨gx, 3, none⟩ = some (.int .i64 x.s) := HO7.out.cell 3
        have f4 : w7.cell? ⟨gx, 4, none⟩ = some (.int .i64 x.v) := HO7.out.cell 4
        have f5 : w7.cell? ⟨gx, 5, none⟩ = some (.int .i64 x.si) := HO7.out.cell 5
        have f6 : w7.cell? ⟨gx, 6, none⟩ = some (.int .i64 x.c) := HO7.out.cell 6
        have f7 : w7.cell? ⟨gx, 7, none⟩ = some (.slice x.A x.n x.d) := HO7.out.cell 7
        by_cases hk2 : x.k = 2
        · have HK2 := Lib.hid hk2
          rw [hk2] at f2
          obtain ⟨D, hown, hat⟩ := HM7.out
          have HOWN := Lib.hid hown
          have HAT := Lib.hid hat
          have HKEY := Lib.hid (key_n HJN.out)
          have hJ := hat J HJN.out
          clear hk2 hown hat
          cases hmJ : m J with
          | none =>
            rw [hmJ] at hJ
            have HHAS : Hid (Go.Maps.has D (.int .i64 J) = false) := Lib.hid hJ.1
            have HUV : Hid (D.atKey (.int .i64 J) (.held zE) = .held (.agg #[.int .i64 0, .int .i64 0, .int .i64 0, .int .i64 0, .int .i64 0, .int .i64 0, .int .i64 0, .slice none 0 0])) := Lib.hid hJ.2
            have HA2 : Hid (Q = al (nw fs x) (setM m J (x, vs)) (ls.drop (k + 1))) := Lib.hid (by
              rw [HAL.out, HTL.out]
              show al fs m ((x, vs) :: _) = _
              simp only [al, HIM.out, if_true, HK2.out, HJ.out, hmJ, show isM 2 = true from rfl])
            have HM3 : Hid (∀ N o, setM m J (x, vs) N = some o → o ∈ ls) := Lib.hid (fun N o h => by
              unfold setM at h
              split at h
              · injection h with h; rw [← h]; exact HAM.out
              · exact HMM.out N o h)
            obtain ⟨W8, HW8⟩ : ∃ W, Hid (W = w7.alloc (.cells #[.int .i64 0, .int .i64 0, .int .i64 0, .int .i64 0, .int .i64 0, .int .i64 0, .int .i64 0, .slice none 0 0] TE)) := ⟨_, Lib.hid rfl⟩
            have hb8 : Below w7.heap.size w7 W8 := by rw [HW8.out]; exact bel_new _ _
            have HO8 := Lib.hid (HO7.out.kept hb8)
            have HF8 := Lib.hid (HFQ.out.kept hb8)
            have HOW8 : Hid (W8.ownsMap Tryd.prog TI vR gf k D) := Lib.hid (by rw [HW8.out]; exact HOWN.out.alloc _)
            have HB8 := Lib.hid (HB7.out.trans (hb8.mono HB7.out.size))
            have HBA8 : Hid (base ≤ W8.heap.size) := Lib.hid (Nat.le_trans HBA7.out hb8.size)
            have HKM : Hid (k < maxLen) := Lib.hid (by unfold maxLen; omega)
            clear hJ hmJ hb8
            go_upto_region 10 with (at_lookup; refine wpList_lookup_val _ rfl _ _ TME rfl TI TE Hl.lawI Tryd.underlying82 (zeroE _) gf _ D rfl HOWN.out _ _ rfl HKEY.out _ _ HUV.out HHAS.out ?_)
            rw [← HW8.out]
            clear f0 f1 f2 f3 f4 f5 f6 f7 HW8
            have f0 : W8.cell? ⟨gx, 0, none⟩ = some (.int .i64 x.t) := HO8.out.cell 0
            have f1 : W8.cell? ⟨gx, 1, none⟩ = some (.int .i64 x.m) := HO8.out.cell 1
            have f2 : W8.cell? ⟨gx, 2, none⟩ = some (.int .i64 x.k) := HO8.out.cell 2
            have f3 : W8.cell? ⟨gx, 3, none⟩ = some (.int .i64 x.s) := HO8.out.cell 3
            have f4 : W8.cell? ⟨gx, 4, none⟩ = some (.int .i64 x.v) := HO8.out.cell 4
            have f5 : W8.cell? ⟨gx, 5, none⟩ = some (.int .i64 x.si) := HO8.out.cell 5
            have f6 : W8.cell? ⟨gx, 6, none⟩ = some (.int .i64 x.c) := HO8.out.cell 6
            have f7 : W8.cell? ⟨gx, 7, none⟩ = some (.slice x.A x.n x.d) := HO8.out.cell 7
            go_wp2_with (at_mapUpdate; refine wpList_mapUpdate_own _ rfl _ _ _ TME rfl TI TE Hl.lawI Tryd.underlying82 vR gf _ D rfl HOW8.out HKM.out _ _ _ rfl rfl HKEY.out (.held (.agg (evL x).toArray)) [] rfl ?_; intro w9 hown9 hgrow9)
            have HM9 : Hid (MapE w9 gf (k + 1) (setM m J (x, vs))) := Lib.hid (MapE.put (a := (x, vs)) HJN.out HOW8.out HAT.out hown9)
            have hw9 : Wrote gf W8 w9 := hgrow9
            have HF9 : Hid (FndAt w9 gp gm (nw fs x)) := Lib.hid ⟨HF8.out.o.touch hw9 HG3.out.2.1, HF8.out.m.of_block (hw9.block gm HF8.out.m.lt (fun e => HG3.out.2.2 (Option.some.inj e).symm))⟩
            have HB9 := Lib.hid (HB8.out.trans (hw9.below HG3.out.1 HB8.out.size))
            have HBA9 : Hid (base ≤ w9.heap.size) := Lib.hid (Nat.le_trans HBA8.out hw9.size)
            clear hown9 hgrow9 hw9 f0 f1 f2 f3 f4 f5 f6 f7
            try go_wp2
            go_roundw
            case rel => exact ⟨k + 1, by omega, nw fs x, _, by go_num, HF9, HM9, HA2, HR2, HM3, Lib.hid ⟨HB9.out, HBA9.out⟩⟩
            case measure => simp [intOf]; omega
          | some o =>
            obtain ⟨y, us⟩ := o
            rw [hmJ] at hJ
            have HMY := Lib.hid (HMM.out J _ hmJ)
            have HHAS : Hid (Go.Maps.has D (.int .i64 J) = true) := Lib.hid hJ.1
            have HUV : Hid (D.atKey (.int .i64 J) (.held zE) = .held (.agg #[.int .i64 y.t, .int .i64 y.m, .int .i64 y.k, .int .i64 y.s, .int .i64 y.v, .int .i64 y.si, .int .i64 y.c, .slice y.A y.n y.d])) := Lib.hid hJ.2
            have HA2 : Hid (Q = if y.c = x.c ∧ us = vs then al (nw fs x) m (ls.drop (k + 1)) else false) := Lib.hid (by
              rw [HAL.out, HTL.out]
              show al fs m ((x, vs) :: _) = _
              simp only [al, HIM.out, if_true, HK2.out, HJ.out, hmJ, show isM 2 = true from rfl])
            have HYL := Lib.hid (HL.out _ HMY.out)
            have HYV := Lib.hid (HV.out _ HMY.out)
            simp only at HYL HYV
            obtain ⟨gy, HGY⟩ : ∃ g, Hid (w7.heap.size = g) := ⟨_, Lib.hid rfl⟩
            obtain ⟨W8, HW8⟩ : ∃ W, Hid (W = w7.alloc (.cells #[.int .i64 y.t, .int .i64 y.m, .int .i64 y.k, .int .i64 y.s, .int .i64 y.v, .int .i64 y.si, .int .i64 y.c, .slice y.A y.n y.d] TE)) := ⟨_, Lib.hid rfl⟩
            have hb8 : Below w7.heap.size w7 W8 := by rw [HW8.out]; exact bel_new _ _
            have HOY : Hid (Obj1 W8 gy TE #[.int .i64 y.t, .int .i64 y.m, .int .i64 y.k, .int .i64 y.s, .int .i64 y.v, .int .i64 y.si, .int .i64 y.c, .slice y.A y.n y.d]) := Lib.hid (by rw [HW8.out, ← HGY.out]; exact Obj1.new _ _ _)
            have HO8 := Lib.hid (HO7.out.kept hb8)
            have HF8 := Lib.hid (HFQ.out.kept hb8)
            have HM8 := Lib.hid (HM7.out.kept hb8)
            have HB8 := Lib.hid (HB7.out.trans (hb8.mono HB7.out.size))
            have HBA8 : Hid (base ≤ W8.heap.size) := Lib.hid (Nat.le_trans HBA7.out hb8.size)
            have HEQ := Lib.hid (Tryd.bytes_Equal_all y.A x.A y.n y.d x.n x.d (us.map (fun (x : Nat) => (x : Int))) (vs.map (fun (x : Nat) => (x : Int))) W8 (by have := HYL.out.1.1; simpa using this) (by have := HVL.out.1.1; simpa using this) (bytes_in (HYL.out.1.kept HB8.out)) (bytes_in (HVL.out.1.kept HB8.out)))
            rw [bytes_eq HYV.out HVV.out] at HEQ
            clear hJ hmJ hb8
            go_upto_region 10 with (at_lookup; refine wpList_lookup_val _ rfl _ _ TME rfl TI TE Hl.lawI Tryd.underlying82 (zeroE _) gf _ D rfl HOWN.out _ _ rfl HKEY.out _ _ HUV.out HHAS.out ?_)
            rw [← HW8.out, HGY.out]
            clear f0 f1 f2 f3 f4 f5 f6 f7 HW8 HGY
            have y6 : W8.cell? ⟨gy, 6, none⟩ = some (.int .i64 y.c) := HOY.out.cell 6
            have y7 : W8.cell? ⟨gy, 7, none⟩ = some (.slice y.A y.n y.d) := HOY.out.cell 7
            have f6 : W8.cell? ⟨gx, 6, none⟩ = some (.int .i64 x.c) := HO8.out.cell 6
            have f7 : W8.cell? ⟨gx, 7, none⟩ = some (.slice x.A x.n x.d) := HO8.out.cell 7
            by_cases hc : y.c = x.c
            · have hcb : (y.c == x.c) = true := by simpa using hc
              have hcn : (y.c != x.c) = false := by simpa using hc
              have HCC := Lib.hid hc
              obtain ⟨q, hq⟩ : ∃ q, decide (us = vs) = q := ⟨_, rfl⟩
              rw [hq] at HEQ
              clear hc
              go_wp2_with fail
              refine HEQ.out.mono ?_
              rintro e' w9 ⟨rfl, rfl⟩
              cases q with
              | true =>
                have HA3 : Hid (Q = al (nw fs x) m (ls.drop (k + 1))) := Lib.hid (by rw [HA2.out, if_pos ⟨HCC.out, of_decide_eq_true hq⟩])
                clear hq
                go_wp2
                go_roundw
                case rel => exact ⟨k + 1, by omega, nw fs x, m, by go_num, HF8, Lib.hid HM8.out.more, HA3, HR2, HMM, Lib.hid ⟨HB8.out, HBA8.out⟩⟩
                case measure => simp [intOf]; omega
              | false =>
                have HA3 : Hid (Q = false) := Lib.hid (by rw [HA2.out, if_neg (fun h => (of_decide_eq_false hq) h.2)])
                clear hq
                go_wp2
                go_ret
                exact ⟨by rw [HA3.out]; rfl, HB8.out⟩
            · have hcb : (y.c == x.c) = false := by simpa using hc
              have hcn : (y.c != x.c) = true := by simpa using hc
              have HA3 : Hid (Q = false) := Lib.hid (by rw [HA2.out, if_neg (fun h => hc h.1)])
              clear hc HEQ
              go_wp2
              go_ret
              exact ⟨by rw [HA3.out]; rfl, HB8.out⟩
        · have hkb : (x.k == 2) = false := by simpa using hk2
          have hkn : (x.k != 2) = true := by simpa using hk2
          have HA2 : Hid (Q = al (nw fs x) m (ls.drop (k + 1))) := Lib.hid (by
            rw [HAL.out, HTL.out]
            show al fs m ((x, vs) :: _) = _
            simp only [al, HIM.out, if_true]
            rw [if_neg hk2])
          clear hk2
          go_wp2
          go_roundw
          case rel => exact ⟨k + 1, by omega, nw fs x, m, by go_num, HFQ, Lib.hid HM7.out.more, HA2, HR2, HMM, Lib.hid ⟨HB7.out, HBA7.out⟩⟩
          case measure => simp [intOf]; omega
    · have hje : k = n := by omega
      subst hje
      have HA3 : Hid (Q = true) := Lib.hid (by rw [HAL.out, List.drop_of_length_le (by rw [HLN.out]; exact Nat.le_refl _)]; rfl)
      go_wp2
      go_ret
      exact ⟨by rw [HA3.out]; rfl, HBK.out⟩
end Go.Proofs.YtanhblokhcaoiaaDoor.Tr
