/- Package calendar's writers: those of the slots that write a place, and what is told of each; no condition but sizes. -/
import Derived.RegionTactic
import Derived.IntWalk
import Derived.Test.YtkankdecbefenaaDoorCalF
import Derived.Test.YtkankdecbefenaaDoorPushG
import Derived.Great.Walk
namespace Go.Proofs.YtkankdecbefenaaDoor.Ly7
open Go.ChangeShapes Go.WideShapes Go.ChangeAt Go.RowKit Base
set_option linter.unusedVariables false
set_option linter.unusedSimpArgs false

/-- Does a slot write a place? -/
def wrt (addr : Int) (z : Sl) : Bool := decide (z.k = 0 ∧ z.ad ≤ addr ∧ addr < IntKind.i64.wrap (z.ad + z.wo))
theorem filt_yes {ss : List Sl} {k : Nat} {z : Sl} {addr : Int} (h : ss[k]? = some z) (hw : wrt addr z = true) : (ss.take (k + 1)).filter (wrt addr) = (ss.take k).filter (wrt addr) ++ [z] := by
  rw [List.take_add_one, h, List.filter_append]
  simp [hw]
theorem filt_no {ss : List Sl} {k : Nat} {z : Sl} {addr : Int} (h : ss[k]? = some z) (hw : wrt addr z = false) : (ss.take (k + 1)).filter (wrt addr) = (ss.take k).filter (wrt addr) := by
  rw [List.take_add_one, h, List.filter_append]
  simp [hw]
/-- What is kept, behind so many. -/
def foldW (G : Int → Int → Int → Int → Int) (own : List Sl) (T : Int) : Nat → Int → Int
  | 0, m => m
  | k + 1, m => match own[k]? with
    | some z => G (foldW G own T k m) z.s (endF own T k) (endF own T (k + 1))
    | none => foldW G own T k m
theorem foldW_next {G : Int → Int → Int → Int → Int} {own : List Sl} {T m : Int} {k : Nat} {z : Sl} (h : own[k]? = some z) : foldW G own T (k + 1) m = G (foldW G own T k m) z.s (endF own T k) (endF own T (k + 1)) := by
  show (match own[k]? with | some z => _ | none => _) = _
  rw [h]
theorem endF_bd {own : List Sl} {T : Int} {n : Nat} (h0 : 0 < own.length) (hT : 0 ≤ T ∧ T ≤ 20000000) (hb : ∀ z ∈ own, (0 ≤ z.s ∧ z.s ≤ 20000000) ∧ 0 ≤ z.l ∧ z.l ≤ 20000) (hn : n ≤ 1000) : 0 ≤ endF own T n ∧ endF own T n ≤ 30000000000 := by
  have hr : n % own.length < own.length := Nat.mod_lt _ h0
  unfold endF
  rw [List.getElem?_eq_getElem hr]
  have h1 := hb _ (List.getElem_mem hr)
  have hq : n / own.length ≤ n := Nat.div_le_self _ _
  obtain ⟨q, hqq⟩ : ∃ q, n / own.length = q := ⟨_, rfl⟩
  rw [hqq] at hq ⊢
  have h2 := Int.mul_nonneg (show 0 ≤ (q : Int) by omega) hT.1
  have h3 : (q : Int) * T ≤ 1000 * T := Int.mul_le_mul_of_nonneg_right (by omega) hT.1
  simp only
  omega
/-- What a function that is handed in does: it changes the one variable that it was made with. -/
def DoW (fid : FuncId) (gm : Nat) (G : Int → Int → Int → Int → Int) : Prop := ∀ (W : World) (m b e x : Int), Obj1 W gm TInt #[.int .i64 m] → (0 ≤ b ∧ b ≤ 30000000000) ∧ (0 ≤ e ∧ e ≤ 30000000000) ∧ (0 ≤ x ∧ x ≤ 30000000000) →
  Calls Tryd.prog fid #[.int .i64 b, .int .i64 e, .int .i64 x, .pointer (some ⟨gm, 0, none⟩)] W fun r w' => r = .returned (.tuple #[]) ∧ Obj1 w' gm TInt #[.int .i64 (G m b e x)] ∧ Wrote gm W w'
set_option maxRecDepth 100000 in
set_option maxHeartbeats 2000000 in
theorem writers_any (f : Wd → Int) (md : Int) (A0 : Option Addr) (n0 c0 : Nat) (A1 : Option Addr) (n1 c1 : Nat) (ws0 ws1 : List Wd) (v j e : Int) (w : World) (h : Sd f md A0 n0 c0 A1 n1 c1 ws0 ws1 v j e w) (ver : Int) (ss : List Sl) (T : Int) (addr : Int) (hF : Frm e ver A0 n0 c0 A1 n1 c1 ws0 ws1 ss T) (fid : FuncId) (hE : Ent fid) (gm : Nat) (G : Int → Int → Int → Int → Int) (hD : DoW fid gm G) (m0 : Int) (hM : Obj1 w gm TInt #[.int .i64 m0]) :
    Calls Tryd.prog 29 #[.agg #[.int .i64 md, .slice A0 n0 c0, .slice A1 n1 c1], .int .i64 ver, .int .i64 addr, .func (.func fid) #[] #[.pointer (some ⟨gm, 0, none⟩)]] w fun r w' => r = .returned (.tuple #[]) ∧ Obj1 w' gm TInt #[.int .i64 (foldW G (ss.filter (wrt addr)) T (ss.filter (wrt addr)).length m0)] ∧ Wrote gm w w' := by
  have HSD := Lib.hid h
  have hfc := fld_code
  obtain ⟨gb, HGB⟩ : ∃ gb, Hid (w.heap.size = gb) := ⟨_, Lib.hid rfl⟩
  obtain ⟨W1, HW1⟩ : ∃ W1, Hid (W1 = w.alloc (.cells #[.int .i64 md, .slice A0 n0 c0, .slice A1 n1 c1] TSd)) := ⟨_, Lib.hid rfl⟩
  have HB1 : Hid (Below w.heap.size w W1) := Lib.hid (by rw [HW1.out]; exact bel1 _ _)
  have HO1 : Hid (Obj1 W1 gb TSd #[.int .i64 md, .slice A0 n0 c0, .slice A1 n1 c1]) := Lib.hid (by rw [HW1.out, ← HGB.out]; exact Obj1.new _ _ _)
  have d0 : W1.cell? ⟨gb, 0, none⟩ = some (.int .i64 md) := HO1.out.cell 0
  have d1 : W1.cell? ⟨gb, 1, none⟩ = some (.slice A0 n0 c0) := HO1.out.cell 1
  have d2 : W1.cell? ⟨gb, 2, none⟩ = some (.slice A1 n1 c1) := HO1.out.cell 2
  clear h
  obtain ⟨i0, hi, hz0, hz1, hz2⟩ := info_parts info_sl
  have HFM := Lib.hid hF
  have HDO := Lib.hid hD
  have HM0 := Lib.hid hM
  have HSL := Lib.hid (frm_sls HSD.out hF)
  have HGL0 : Hid (gm < w.heap.size) := Lib.hid hM.lt
  have HCS := Lib.hid (slots_any f md A0 n0 c0 A1 n1 c1 ws0 ws1 v j e W1 (HSD.out.kept HB1.out) ver ss T HFM.out)
  obtain ⟨N, HN⟩ : ∃ N, Hid (ss.length = N) := ⟨_, Lib.hid rfl⟩
  rw [HN.out] at HCS
  have hN9 : N ≤ 902 := by rw [← HN.out]; exact HSL.out.len
  clear hF hD hM
  go_enter Tryd.func29, Tryd.ntmps29
  go_upto_region 1 with (fail)
  rw [← HW1.out, HGB.out]
  clear HW1 HGB
  go_wp2_with fail
  refine HCS.out.mono ?_
  rintro r w2 ⟨A, c, rfl, HS2, hb2⟩
  have HB2 := Lib.hid (HB1.out.trans (hb2.mono HB1.out.size))
  clear hb2 d0 d1 d2 HCS HO1 HB1
  obtain ⟨gl, HGL⟩ : ∃ g, Hid (w2.heap.size = g) := ⟨_, Lib.hid rfl⟩
  obtain ⟨gO, HGO⟩ : ∃ g, Hid (gl + 1 = g) := ⟨_, Lib.hid rfl⟩
  obtain ⟨W3, HW3⟩ : ∃ W, Hid (W = w2.alloc (.cells #[.int .i64 T] TInt)) := ⟨_, Lib.hid rfl⟩
  obtain ⟨W4, HW4⟩ : ∃ W, Hid (W = W3.alloc (.cells #[.slice none 0 0] TLs)) := ⟨_, Lib.hid rfl⟩
  have n3 : Below w2.heap.size w2 W3 := by rw [HW3.out]; exact bel_new _ _
  have n4 : Below W3.heap.size W3 W4 := by rw [HW4.out]; exact bel_new _ _
  have s3 : W3.heap.size = gO := by rw [HW3.out, ← HGO.out, ← HGL.out]; simp
  have HL4 : Hid (Obj1 W4 gl TInt #[.int .i64 T]) := Lib.hid ((show Obj1 W3 gl TInt _ by rw [HW3.out, ← HGL.out]; exact Obj1.new _ _ _).kept n4)
  have HO4 : Hid (Obj1 W4 gO TLs #[.slice none 0 0]) := Lib.hid (by rw [HW4.out, ← s3]; exact Obj1.new _ _ _)
  have HB24 : Hid (Below w2.heap.size w2 W4) := Lib.hid (n3.trans (n4.mono n3.size))
  obtain ⟨base, HBS⟩ : ∃ b, Hid (W4.heap.size = b) := ⟨_, Lib.hid rfl⟩
  have HV0 : Hid (VSt w2 gl gO base T (.slice none 0 0) [] W4) := Lib.hid ⟨HL4.out, HO4.out, ⟨rfl, .inl ⟨rfl, rfl⟩⟩, HB24.out, by rw [HBS.out]; exact Nat.le_refl _, (by intro h; cases h), (by intro h; cases h)⟩
  have HGP : Hid (Gap w2 gl gO base) := Lib.hid ⟨by have := HGL.out; omega, by have := HGL.out; have := HGO.out; omega, by rw [← HBS.out]; exact HB24.out.size, by have := HGO.out; omega⟩
  clear n3 n4 HL4 HO4
  go_upto_region 3 with (fail)
  rw [← HW3.out, HGL.out, HGO.out, ← HW4.out]
  clear HW3 HW4 s3
  go_wp2_with fail
  go_loopw [24] (fun i wx => ∃ k : Nat, k ≤ N ∧ i = .int .i64 k ∧ ∃ v, Hid (VSt w2 gl gO base T v ((ss.take k).filter (wrt addr)) wx)) (fun i _ => N - (intOf i).toNat)
  case atStart => exact ⟨0, by omega, rfl, _, HV0⟩
  case round =>
    clear HV0
    obtain ⟨k, hk, rfl, vv, HVS⟩ := hrel
    obtain ⟨own, HOWN⟩ : ∃ own, Hid ((ss.take k).filter (wrt addr) = own) := ⟨_, Lib.hid rfl⟩
    rw [HOWN.out] at HVS
    have hol : own.length ≤ 902 := by
      rw [← HOWN.out]
      have h1 := List.length_filter_le (wrt addr) (ss.take k)
      rw [List.length_take] at h1
      omega
    by_cases hlt : k < N
    · have hki : (k : Int) < (N : Int) := by omega
      have hk0 : (0 : Int) ≤ (k : Int) := by omega
      have e2 : IntKind.i64.wrap ((k : Int) + 1) = (k : Int) + 1 := IntWalk.i64_in _ (by omega)
      obtain ⟨z, hz⟩ : ∃ z, ss[k]? = some z := ⟨_, List.getElem?_eq_getElem (by rw [HN.out]; exact hlt)⟩
      have HZK := Lib.hid hz
      obtain ⟨b, off, rfl, hb, k0, k1, k2, k3, k4, k5, k6, k7⟩ := (HS2.out.kept HVS.out.2.2.2.1).eight hlt hz
      obtain ⟨gx, HGX⟩ : ∃ gx, Hid (wr.heap.size = gx) := ⟨_, Lib.hid rfl⟩
      obtain ⟨W5, HW5⟩ : ∃ W5, Hid (W5 = wr.alloc (.cells #[.int .i64 z.k, .int .i64 z.s, .int .i64 z.l, .int .i64 z.wo, .int .i64 z.ad, .int .i64 z.mn, .int .i64 z.cn, .bool z.tk] TSl)) := ⟨_, Lib.hid rfl⟩
      have hb5 : Below wr.heap.size wr W5 := by rw [HW5.out]; exact bel_new _ _
      have HOX : Hid (Obj1 W5 gx TSl #[.int .i64 z.k, .int .i64 z.s, .int .i64 z.l, .int .i64 z.wo, .int .i64 z.ad, .int .i64 z.mn, .int .i64 z.cn, .bool z.tk]) := Lib.hid (by rw [HW5.out, ← HGX.out]; exact Obj1.new _ _ _)
      have HV5 := Lib.hid (HVS.out.kept hb5)
      clear hz hb hb5
      go_upto_region 6 with (fail)
      rw [← HW5.out, HGX.out]
      clear HW5 HGX k0 k1 k2 k3 k4 k5 k6 k7 HVS
      have d0 : W5.cell? ⟨gx, 0, none⟩ = some (.int .i64 z.k) := HOX.out.cell 0
      have d1 : W5.cell? ⟨gx, 1, none⟩ = some (.int .i64 z.s) := HOX.out.cell 1
      have d2 : W5.cell? ⟨gx, 2, none⟩ = some (.int .i64 z.l) := HOX.out.cell 2
      have d3 : W5.cell? ⟨gx, 3, none⟩ = some (.int .i64 z.wo) := HOX.out.cell 3
      have d4 : W5.cell? ⟨gx, 4, none⟩ = some (.int .i64 z.ad) := HOX.out.cell 4
      have d5 : W5.cell? ⟨gx, 5, none⟩ = some (.int .i64 z.mn) := HOX.out.cell 5
      have d6 : W5.cell? ⟨gx, 6, none⟩ = some (.int .i64 z.cn) := HOX.out.cell 6
      have d7 : W5.cell? ⟨gx, 7, none⟩ = some (.bool z.tk) := HOX.out.cell 7
      obtain ⟨Y, HY⟩ : ∃ Y, Hid (IntKind.i64.wrap (z.ad + z.wo) = Y) := ⟨_, Lib.hid rfl⟩
      have hy : IntKind.i64.wrap (z.ad + z.wo) = Y := HY.out
      by_cases hk1 : z.k = 0
      · have hkb : (z.k == 0) = true := by simpa using hk1
        by_cases ha1 : z.ad ≤ addr
        · by_cases ha2 : addr < Y
          · have HFN := Lib.hid (filt_yes HZK.out (show wrt addr z = true by unfold wrt; rw [HY.out]; exact decide_eq_true ⟨hk1, ha1, ha2⟩))
            rw [HOWN.out] at HFN
            have HS3 := Lib.hid HV5.out.1
            have HL3 := Lib.hid HV5.out.2.1
            have HR3 := Lib.hid HV5.out.2.2.1
            have HBW3 := Lib.hid HV5.out.2.2.2.1
            have HSZ3 := Lib.hid HV5.out.2.2.2.2.1
            have HN6 := Lib.hid HV5.out.2.2.2.2.2.1
            have HN7 := Lib.hid HV5.out.2.2.2.2.2.2
            have c0 : W5.cell? ⟨gO, 0, none⟩ = some vv := HL3.out.cell 0
            have HNW : Hid (([.int .i64 0, .int .i64 z.s, .int .i64 z.l, .int .i64 z.wo, .int .i64 z.ad, .int .i64 z.mn, .int .i64 z.cn, .bool z.tk] : List Value) = Sl.cells z) := Lib.hid (by unfold Sl.cells; rw [hk1])
            have HOXC : W5.heap[gx]? = some (.cells #[.int .i64 0, .int .i64 z.s, .int .i64 z.l, .int .i64 z.wo, .int .i64 z.ad, .int .i64 z.mn, .int .i64 z.cn, .bool z.tk] TSl (0, 0)) := by have h := HOX.out; unfold Obj1 at h; rw [hk1] at h; exact h
            rw [hk1] at d0
            have HSZE : Hid ((Tryd.prog.info? TSl).map (·.size) = some (#[.int .i64 0, .int .i64 z.s, .int .i64 z.l, .int .i64 z.wo, .int .i64 z.ad, .int .i64 z.mn, .int .i64 z.cn, .bool z.tk] : Array Value).size) := Lib.hid (by kernel_rfl)
            clear HV5 hk1 hkb
            go_upto_region 7 with (fail)
            clear hy HY d0 d1 d2 d3 d4 d5 d6 d7
            refine wp_region_list ?_
            refine wpList_plain rfl fun KK hK => ?_
            go_simp
            refine hK _ _ ?_
            clear hK KK
            try simp only [Act.put, List.getElem_toArray, List.getElem_cons_succ, List.getElem_cons_zero, List.setIfInBounds_toArray, List.set_cons_zero, List.set_cons_succ]
            refine wpList_load_row rfl TSl _ rfl gx rfl _ #[.int .i64 0, .int .i64 z.s, .int .i64 z.l, .int .i64 z.wo, .int .i64 z.ad, .int .i64 z.mn, .int .i64 z.cn, .bool z.tk] _ _ HOXC Tryd.underlying52 rfl HSZE.out ?_
            try simp only [Act.put, List.getElem_toArray, List.getElem_cons_succ, List.getElem_cons_zero, List.setIfInBounds_toArray, List.set_cons_zero, List.set_cons_succ]
            refine Great.wpList_buildSliceTo rfl 50 TSl 1 _ rfl W5.heap.size rfl (some 48) rfl Tryd.underlying50 #[.int .i64 0, .int .i64 z.s, .int .i64 z.l, .int .i64 z.wo, .int .i64 z.ad, .int .i64 z.mn, .int .i64 z.cn, .bool z.tk] (by kernel_rfl) ?_
            try simp only [Act.put, List.getElem_toArray, List.getElem_cons_succ, List.getElem_cons_zero, List.setIfInBounds_toArray, List.set_cons_zero, List.set_cons_succ]
            refine pushR _ rfl (.tmp 46) (.tmp 48) 50 rfl base TSl i0 (.agg #[.int .i64 0, .int .i64 0, .int .i64 0, .int .i64 0, .int .i64 0, .int .i64 0, .int .i64 0, .bool false]) 8 64 Tryd.underlying50 hi hz0 hz1 hz2 rfl (by omega) _ _ _ rfl HR3.out [.int .i64 0, .int .i64 z.s, .int .i64 z.l, .int .i64 z.wo, .int .i64 z.ad, .int .i64 z.mn, .int .i64 z.cn, .bool z.tk] _ rfl rfl (fun u hu => by simp at hu; rcases hu with rfl | rfl | rfl | rfl | rfl | rfl | rfl | rfl <;> rfl) (by unfold maxLen; omega) (by omega) HSZ3.out ?_
            intro v' w4 HR4' HB4 HG4 HK4
            have HR4 := Lib.hid HR4'.out
            rw [HNW.out] at HR4
            clear HR4'
            obtain ⟨A4, c4, rfl⟩ := own_slice HR4.out
            have HL4 := Lib.hid (HL3.out.grown HG4.out HN7.out)
            have HS4 := Lib.hid (HS3.out.grown HG4.out HN6.out)
            have e0 : w4.cell? ⟨gO, 0, none⟩ = some vv := HL4.out.cell 0
            have g0 : w4.frozen? ⟨gO, 0, none⟩ = false := HL4.out.free 0
            have z0 : gO < w4.heap.size := HL4.out.lt
            go_wp2
            have HW6 := Lib.hid ((Wrote.refl gO w4).set (p := ⟨gO, 0, none⟩) (.inl rfl) (.slice A4 (own.length + 1) c4))
            have HV6 : Hid (VSt w2 gl gO base T (.slice A4 (own.length + 1) c4) (own ++ [z]) (w4.setCell ⟨gO, 0, none⟩ (.slice A4 (own.length + 1) c4))) := Lib.hid ⟨HS4.out.far ⟨gO, 0, none⟩ HGP.out.e _, HL4.out.set 0 _, by
              have := row_wrote' HR4.out HW6.out (Ne.symm (ne_own (Nat.lt_succ_of_lt HL3.out.lt) HN7.out HK4.out))
              rw [slC_snoc, List.length_append]
              exact this, (HBW3.out.trans (HB4.out.mono HGP.out.c)).setCell (p := ⟨gO, 0, none⟩) (by have := HGP.out.b; simp; omega) _, Nat.le_trans HSZ3.out (Nat.le_trans HB4.out.size HW6.out.size), ne_own (Nat.lt_succ_of_lt HS3.out.lt) HN6.out HK4.out, ne_own (Nat.lt_succ_of_lt HL3.out.lt) HN7.out HK4.out⟩
            clear e0 g0 z0 c0 HR4 HB4 HG4 HK4 HL4 HS4 HW6
            generalize w4.setCell ⟨gO, 0, none⟩ (.slice A4 (own.length + 1) c4) = w6 at HV6 ⊢
            go_roundw
            case rel => exact ⟨k + 1, by omega, by go_num, _, by rw [HFN.out]; exact HV6⟩
            case measure => simp [intOf]; omega
          · have HFN := Lib.hid (filt_no HZK.out (show wrt addr z = false by unfold wrt; rw [HY.out]; exact decide_eq_false (fun h => ha2 h.2.2)))
            rw [HOWN.out] at HFN
            clear hk1
            go_wp2
            go_roundw
            case rel => exact ⟨k + 1, by omega, by go_num, _, by rw [HFN.out]; exact HV5⟩
            case measure => simp [intOf]; omega
        · have HFN := Lib.hid (filt_no HZK.out (show wrt addr z = false by unfold wrt; exact decide_eq_false (fun h => ha1 h.2.1)))
          rw [HOWN.out] at HFN
          clear hk1
          go_wp2
          go_roundw
          case rel => exact ⟨k + 1, by omega, by go_num, _, by rw [HFN.out]; exact HV5⟩
          case measure => simp [intOf]; omega
      · have hkb : (z.k == 0) = false := by simpa using hk1
        have HFN := Lib.hid (filt_no HZK.out (show wrt addr z = false by unfold wrt; exact decide_eq_false (fun h => hk1 h.1)))
        rw [HOWN.out] at HFN
        clear hk1
        go_wp2
        go_roundw
        case rel => exact ⟨k + 1, by omega, by go_num, _, by rw [HFN.out]; exact HV5⟩
        case measure => simp [intOf]; omega
    · have hke : k = N := by omega
      subst hke
      have HTK : Hid (ss.take k = ss) := Lib.hid (List.take_of_length_le (by rw [HN.out]; exact Nat.le_refl _))
      rw [HTK.out] at HOWN
      obtain ⟨A', c', rfl⟩ := own_slice HVS.out.2.2.1
      obtain ⟨m, HMM⟩ : ∃ m, Hid (own.length = m) := ⟨_, Lib.hid rfl⟩
      have HBW : Hid (Below w.heap.size w wr) := Lib.hid (HB2.out.trans (HVS.out.2.2.2.1.mono HB2.out.size))
      have HOBD : Hid (∀ z ∈ own, (0 ≤ z.s ∧ z.s ≤ 20000000) ∧ 0 ≤ z.l ∧ z.l ≤ 20000) := Lib.hid (fun z hz => by
        rw [← HOWN.out] at hz
        have hz := (List.mem_filter.1 hz).1
        obtain ⟨i, hi, hie⟩ := List.mem_iff_getElem.1 hz
        have h1 := sls_at HSL.out (k := i) (z := z) (by rw [List.getElem?_eq_getElem hi, hie])
        have h2 := HSL.out.bd z hz
        have h3 := HSL.out.top
        omega)
      have HTB : Hid (0 ≤ T ∧ T ≤ 20000000) := Lib.hid (by
        have h2 := HSL.out.top
        rcases HSL.out.big with h | h
        · omega
        · omega)
      have HGN : Hid (gl ≠ gm ∧ gO ≠ gm ∧ gm < base ∧ gm < w.heap.size) := Lib.hid (by
        have h1 := HGL0.out; have h2 := HGP.out.a; have h3 := HGP.out.b; have h4 := HGP.out.c; have h5 := HB2.out.size
        omega)
      have HI1 := Lib.hid (HM0.out.kept HBW.out)
      have HI2 := Lib.hid HVS.out.1
      have HI3 := Lib.hid HVS.out.2.1
      have HI4 := Lib.hid HVS.out.2.2.1
      rw [HMM.out] at HI3 HI4 hol
      have c0 : wr.cell? ⟨gO, 0, none⟩ = some (.slice A' m c') := HI3.out.cell 0
      clear HVS
      go_wp2_with fail
      clear c0
      go_loopw [54] (fun i wx => ∃ k : Nat, k ≤ m ∧ i = .int .i64 k ∧ Hid (Obj1 wx gm TInt #[.int .i64 (foldW G own T k m0)]) ∧ Hid (Wrote gm w wx) ∧ Hid (Obj1 wx gl TInt #[.int .i64 T]) ∧ Hid (Obj1 wx gO TLs #[.slice A' m c']) ∧ Hid (wx.ownsRow base TSl 8 (.slice A' m c') m (slC own))) (fun i _ => m - (intOf i).toNat)
      case atStart => exact ⟨0, by omega, rfl, HI1, Lib.hid (Wrote.of_below HBW.out), HI2, HI3, HI4⟩
      case round =>
        clear HI1 HI2 HI3 HI4
        obtain ⟨q, hq, rfl, HI1, HWG, HI2, HI3, HI4⟩ := hrel
        by_cases hlt2 : q < m
        · have hki : (q : Int) < (m : Int) := by omega
          have hk0 : (0 : Int) ≤ (q : Int) := by omega
          have e2 : IntKind.i64.wrap ((q : Int) + 1) = ((q + 1 : Nat) : Int) := by rw [show ((q + 1 : Nat) : Int) = (q : Int) + 1 by omega]; exact IntWalk.i64_in _ (by omega)
          obtain ⟨z, hz⟩ : ∃ z, own[q]? = some z := ⟨_, List.getElem?_eq_getElem (by rw [HMM.out]; exact hlt2)⟩
          have HFO := Lib.hid (foldW_next (G := G) (T := T) (m := m0) hz)
          have hzb := HOBD.out z (List.mem_of_getElem? hz)
          obtain ⟨A'', c'', ea, hsa⟩ := slots_own HI4.out HMM.out
          injection ea with ea1 _ ea3
          subst ea1
          subst ea3
          obtain ⟨b, off, rfl, hb, k0, k1, k2, k3, k4, k5, k6, k7⟩ := hsa.eight hlt2 hz
          have HSA := Lib.hid hsa
          obtain ⟨gx, HGX⟩ : ∃ gx, Hid (wr.heap.size = gx) := ⟨_, Lib.hid rfl⟩
          obtain ⟨W5, HW5⟩ : ∃ W5, Hid (W5 = wr.alloc (.cells #[.int .i64 z.k, .int .i64 z.s, .int .i64 z.l, .int .i64 z.wo, .int .i64 z.ad, .int .i64 z.mn, .int .i64 z.cn, .bool z.tk] TSl)) := ⟨_, Lib.hid rfl⟩
          have hb5 : Below wr.heap.size wr W5 := by rw [HW5.out]; exact bel_new _ _
          have HOX : Hid (Obj1 W5 gx TSl #[.int .i64 z.k, .int .i64 z.s, .int .i64 z.l, .int .i64 z.wo, .int .i64 z.ad, .int .i64 z.mn, .int .i64 z.cn, .bool z.tk]) := Lib.hid (by rw [HW5.out, ← HGX.out]; exact Obj1.new _ _ _)
          have HKZ : Hid (∀ x : Kin W5.drew, Below wr.heap.size wr x.world) := Lib.hid (fun x => hb5.trans (((bel_drew W5).trans x.below).mono hb5.size))
          obtain ⟨E0, HE0⟩ : ∃ E, Hid (endF own T q = E) := ⟨_, Lib.hid rfl⟩
          obtain ⟨E1, HE1⟩ : ∃ E, Hid (endF own T (q + 1) = E) := ⟨_, Lib.hid rfl⟩
          have hE0 : 0 ≤ E0 ∧ E0 ≤ 30000000000 := by rw [← HE0.out]; exact endF_bd (by rw [HMM.out]; omega) HTB.out HOBD.out (by omega)
          have hE1 : 0 ≤ E1 ∧ E1 ≤ 30000000000 := by rw [← HE1.out]; exact endF_bd (by rw [HMM.out]; omega) HTB.out HOBD.out (by omega)
          have HBDS : Hid ((0 ≤ z.s ∧ z.s ≤ 30000000000) ∧ (0 ≤ E0 ∧ E0 ≤ 30000000000) ∧ (0 ≤ E1 ∧ E1 ≤ 30000000000)) := Lib.hid ⟨⟨by omega, by omega⟩, hE0, hE1⟩
          have HC0 : Hid (∀ x : Kin W5.drew, Calls Tryd.prog 42 #[.int .i64 (q : Int), .pointer (some ⟨gO, 0, none⟩), .pointer (some ⟨gl, 0, none⟩)] x.world fun e w' => e = .returned (.int .i64 E0) ∧ Below x.world.heap.size x.world w') := Lib.hid (fun x => by
            have h := end_any gO gl _ m c' own T q x.world (HI3.out.kept (HKZ.out x)) (HI2.out.kept (HKZ.out x)) (HSA.out.kept (HKZ.out x)) (by omega) (by omega) (by omega) HTB.out HOBD.out
            rw [HE0.out] at h
            exact h)
          have HC1 : Hid (∀ x : Kin W5.drew, Calls Tryd.prog 42 #[.int .i64 ((q + 1 : Nat) : Int), .pointer (some ⟨gO, 0, none⟩), .pointer (some ⟨gl, 0, none⟩)] x.world fun e w' => e = .returned (.int .i64 E1) ∧ Below x.world.heap.size x.world w') := Lib.hid (fun x => by
            have h := end_any gO gl _ m c' own T (q + 1) x.world (HI3.out.kept (HKZ.out x)) (HI2.out.kept (HKZ.out x)) (HSA.out.kept (HKZ.out x)) (by omega) (by omega) (by omega) HTB.out HOBD.out
            rw [HE1.out] at h
            exact h)
          rw [HE0.out, HE1.out] at HFO
          clear hz hzb hb hb5 hsa hE0 hE1
          go_upto_region 13 with (fail)
          rw [← HW5.out, HGX.out]
          clear HW5 HGX k0 k1 k2 k3 k4 k5 k6 k7
          have D1 : ∀ x : Kin W5.drew, x.world.cell? ⟨gx, 1, none⟩ = some (.int .i64 z.s) := fun x => Kin.at (w := W5.drew) (HOX.out.cell 1) x
          obtain ⟨q1, HQ1⟩ : ∃ q1, Hid (q + 1 = q1) := ⟨_, Lib.hid rfl⟩
          rw [HQ1.out] at HC1 e2
          refine wp_region_specL 10 [.d (.func (.func fid) #[] #[.pointer (some ⟨gm, 0, none⟩)]), .d (.pointer (some ⟨gx, 1, none⟩)), .d (.int .i64 z.s), .d (.func (.func 42) #[] #[.pointer (some ⟨gO, 0, none⟩), .pointer (some ⟨gl, 0, none⟩)]), .d (.int .i64 (q : Int)), .d (.int .i64 E0), .d (.func (.func 42) #[] #[.pointer (some ⟨gO, 0, none⟩), .pointer (some ⟨gl, 0, none⟩)]), .d (.int .i64 (q : Int)), .d (.int .i64 (q1 : Int)), .d (.int .i64 E1)] (by kernel_rfl) (by kernel_rfl) ?_
          refine spec_d rfl (fun x _ => gives_run (by go_simp)) ?_
          try simp only [Act.put, List.getElem_toArray, List.getElem_cons_succ, List.getElem_cons_zero, List.setIfInBounds_toArray, List.set_cons_zero, List.set_cons_succ]
          refine spec_d rfl (fun x _ => gives_run (by go_simp)) ?_
          try simp only [Act.put, List.getElem_toArray, List.getElem_cons_succ, List.getElem_cons_zero, List.setIfInBounds_toArray, List.set_cons_zero, List.set_cons_succ]
          refine spec_d rfl (fun x _ => gives_run (by go_simp)) ?_
          try simp only [Act.put, List.getElem_toArray, List.getElem_cons_succ, List.getElem_cons_zero, List.setIfInBounds_toArray, List.set_cons_zero, List.set_cons_succ]
          refine spec_d rfl (fun x _ => gives_run (by go_simp)) ?_
          try simp only [Act.put, List.getElem_toArray, List.getElem_cons_succ, List.getElem_cons_zero, List.setIfInBounds_toArray, List.set_cons_zero, List.set_cons_succ]
          refine spec_d rfl (fun x _ => gives_run (by go_simp)) ?_
          try simp only [Act.put, List.getElem_toArray, List.getElem_cons_succ, List.getElem_cons_zero, List.setIfInBounds_toArray, List.set_cons_zero, List.set_cons_succ]
          refine spec_d rfl (fun x _ => gives_det (by go_simp) (HC0.out x)) ?_
          try simp only [Act.put, List.getElem_toArray, List.getElem_cons_succ, List.getElem_cons_zero, List.setIfInBounds_toArray, List.set_cons_zero, List.set_cons_succ]
          refine spec_d rfl (fun x _ => gives_run (by go_simp)) ?_
          try simp only [Act.put, List.getElem_toArray, List.getElem_cons_succ, List.getElem_cons_zero, List.setIfInBounds_toArray, List.set_cons_zero, List.set_cons_succ]
          refine spec_d rfl (fun x _ => gives_run (by go_simp)) ?_
          try simp only [Act.put, List.getElem_toArray, List.getElem_cons_succ, List.getElem_cons_zero, List.setIfInBounds_toArray, List.set_cons_zero, List.set_cons_succ]
          refine spec_d rfl (fun x _ => gives_run (by go_simp)) ?_
          try simp only [Act.put, List.getElem_toArray, List.getElem_cons_succ, List.getElem_cons_zero, List.setIfInBounds_toArray, List.set_cons_zero, List.set_cons_succ]
          refine spec_d rfl (fun x _ => gives_det (by go_simp) (HC1.out x)) ?_
          try simp only [Act.put, List.getElem_toArray, List.getElem_cons_succ, List.getElem_cons_zero, List.setIfInBounds_toArray, List.set_cons_zero, List.set_cons_succ]
          refine spec_end (fun x hx => ?_)
          clear hx
          have HBX := Lib.hid (HKZ.out x)
          clear D1 HC0 HC1 HKZ
          generalize x.world = w7 at HBX ⊢
          clear x
          change wpAny _ _ _ _ (0 + 1) _ _ _
          refine wpAny_ready (rs := [10]) (by kernel_rfl) (by simp) ?_
          refine AllReady.cons rfl (fun KK hK => ?_) AllReady.nil
          go_simp
          rw [hE]
          refine (HDO.out w7 (foldW G own T q m0) z.s E0 E1 (HI1.out.kept HBX.out) HBDS.out).mono ?_
          rintro r' w8 ⟨rfl, hO8, hW8⟩
          have HX1 : Hid (Obj1 w8 gm TInt #[.int .i64 (foldW G own T (q + 1) m0)]) := Lib.hid (by rw [HFO.out]; exact hO8)
          have HX2 : Hid (Wrote gm w w8) := Lib.hid ((HWG.out.then HBX.out).trans hW8)
          have HX3 : Hid (Obj1 w8 gl TInt #[.int .i64 T]) := Lib.hid ((HI2.out.kept HBX.out).touch hW8 HGN.out.1)
          have HX4 : Hid (Obj1 w8 gO TLs #[.slice (some ⟨b, off, none⟩) m c']) := Lib.hid ((HI3.out.kept HBX.out).touch hW8 HGN.out.2.1)
          have HX5 : Hid (w8.ownsRow base TSl 8 (.slice (some ⟨b, off, none⟩) m c') m (slC own)) := Lib.hid (row_wrote' (own_kept HI4.out HBX.out) hW8 (fun h => by have := (HI4.out.lt _ h).1; have := HGN.out.2.2.1; omega))
          clear hO8 hW8 HI1 HI2 HI3 HI4 HWG HBX HSA HOX
          refine hK _ _ ?_
          clear hK KK
          try simp only [Act.put, List.getElem_toArray, List.getElem_cons_succ, List.getElem_cons_zero, List.setIfInBounds_toArray, List.set_cons_zero, List.set_cons_succ]
          refine wpAny_done (by kernel_rfl) ?_ _
          go_wp2
          go_roundw
          case rel => exact ⟨q + 1, by omega, by rw [HQ1.out], HX1, HX2, HX3, HX4, HX5⟩
          case measure =>
            have hq1 := HQ1.out
            simp [intOf]
            omega
        · have hqe : q = m := by omega
          subst hqe
          go_wp2
          first | go_end0 | refine bodyPost_ret (results_none rfl _ _ _) rfl ?_
          exact ⟨rfl, by rw [HOWN.out, HMM.out]; exact HI1.out, HWG.out⟩
end Go.Proofs.YtkankdecbefenaaDoor.Ly7
