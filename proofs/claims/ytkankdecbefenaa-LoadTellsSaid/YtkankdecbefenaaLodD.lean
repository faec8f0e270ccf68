/- Package load: how often each place is written; no condition but sizes. -/
import Derived.Test.YtkankdecbefenaaLodC
import Derived.Deep.CutBlock
namespace Go.Proofs.Ytkankdecbefenaa.Ly31
open Go.ChangeShapes Go.WideShapes Go.ChangeAt Go.RowKit Base Ly7
set_option linter.unusedVariables false
set_option linter.unusedSimpArgs false

abbrev T64 : TypeId := 57
def Cs (cs : Array Value) (f : Nat → Nat) : Prop := cs.size = 64 ∧ ∀ i, i < 64 → cs[i]? = some (.int .i64 (f i : Int))
def PlAt (w : World) (g : Nat) (f : Nat → Nat) : Prop := ∃ cs, Obj1 w g T64 cs ∧ Cs cs f
theorem PlAt.lt {w : World} {g : Nat} {f : Nat → Nat} (h : PlAt w g f) : g < w.heap.size := by obtain ⟨cs, h, _⟩ := h; exact h.lt
theorem PlAt.kept {w w' : World} {g : Nat} {f : Nat → Nat} (h : PlAt w g f) (hb : Below w.heap.size w w') : PlAt w' g f := by obtain ⟨cs, h, k⟩ := h; exact ⟨cs, h.kept hb, k⟩
theorem PlAt.touch {w w' : World} {g b : Nat} {f : Nat → Nat} (h : PlAt w g f) (ht : Wrote b w w') (hne : g ≠ b) : PlAt w' g f := by obtain ⟨cs, h, k⟩ := h; exact ⟨cs, h.touch ht hne, k⟩
theorem PlAt.cell {w : World} {g : Nat} {f : Nat → Nat} (h : PlAt w g f) {i : Nat} (hi : i < 64) : w.cell? ⟨g, i, none⟩ = some (.int .i64 (f i : Int)) ∧ w.frozen? ⟨g, i, none⟩ = false := by
  obtain ⟨cs, h, k⟩ := h
  exact ⟨by rw [h.cell]; exact k.2 i hi, h.free i⟩
theorem PlAt.put {w : World} {g : Nat} {f : Nat → Nat} (h : PlAt w g f) {i : Nat} (hi : i < 64) (v : Nat) : PlAt (w.setCell ⟨g, i, none⟩ (.int .i64 (v : Int))) g (fun j => if j = i then v else f j) := by
  obtain ⟨cs, h, k1, k2⟩ := h
  refine ⟨_, h.set i (.int .i64 (v : Int)), by simpa using k1, fun j hj => ?_⟩
  show _ = some (Value.int .i64 ((if j = i then v else f j : Nat) : Int))
  by_cases e : j = i
  · subst e
    rw [Array.getElem?_setIfInBounds_self_of_lt (by rw [k1]; exact hj), if_pos rfl]
  · rw [Array.getElem?_setIfInBounds_ne (fun e' => e e'.symm), if_neg e]
    exact k2 j hj
theorem PlAt.same {w : World} {g : Nat} {f f' : Nat → Nat} (h : PlAt w g f) (he : ∀ i, i < 64 → f i = f' i) : PlAt w g f' := by
  obtain ⟨cs, h, k1, k2⟩ := h
  exact ⟨cs, h, k1, fun i hi => by rw [k2 i hi, he i hi]⟩
theorem Cs.one {cs : Array Value} {f : Nat → Nat} (h : Cs cs f) : cs.all (·.oneCell') = true := by
  rw [Array.all_eq_true]
  intro i hi
  have h1 := h.2 i (by rw [← h.1]; exact hi)
  rw [Array.getElem?_eq_getElem hi] at h1
  injection h1 with h1
  rw [h1]
  rfl
theorem Cs.zero : Cs (Array.replicate 64 (.int .i64 0)) (fun _ => 0) := ⟨by simp, fun i hi => by simp [hi]⟩

theorem info_64 : (Try.prog.info? T64).map (fun i => (i.zero, i.size)) = some (some (.agg (Array.replicate 64 (.int .i64 0))), 64) := by kernel_rfl
/-- Does a window write a place? -/
def cov (x : Wd) (i : Nat) : Bool := decide (x.k = 0 ∧ x.ad ≤ (i : Int) ∧ (i : Int) < x.ad + x.wd)
def wrN : List Wd → Nat → Nat
  | [], _ => 0
  | x :: r, i => (if cov x i = true then 1 else 0) + wrN r i
theorem wrN_snoc (l : List Wd) (x : Wd) (i : Nat) : wrN (l ++ [x]) i = wrN l i + (if cov x i = true then 1 else 0) := by
  induction l with
  | nil => simp [wrN]
  | cons y r ih => simp only [List.cons_append, wrN, ih]; omega
theorem wrN_le (l : List Wd) (i : Nat) : wrN l i ≤ l.length := by
  induction l with
  | nil => simp [wrN]
  | cons y r ih => simp only [wrN, List.length_cons]; split <;> omega
def plus (f : Nat → Nat) (a k : Nat) (i : Nat) : Nat := f i + (if a ≤ i ∧ i < a + k then 1 else 0)
set_option maxRecDepth 100000 in
set_option maxHeartbeats 3000000 in
theorem writes_any (md : Int) (A0 : Option Addr) (n0 c0 : Nat) (A1 : Option Addr) (n1 c1 : Nat) (ver : Int) (w : World) (g : Bool) (A : Option Addr) (n c : Nat) (ws : List Wd)
    (hw : ∀ W, Below w.heap.size w W → Calls Try.prog 20 #[.agg #[.int .i64 md, .slice A0 n0 c0, .slice A1 n1 c1], .int .i64 ver] W fun e w' => e = .returned (wndV A n c g) ∧ Below W.heap.size W w')
    (hg : g = true → WinsAt w A n ws ∧ n ≤ 60 ∧ ∀ x ∈ ws, WOk x) :
    Calls Try.prog 31 #[.agg #[.int .i64 md, .slice A0 n0 c0, .slice A1 n1 c1], .int .i64 ver] w fun e w' => ∃ cs, e = .returned (.agg cs) ∧ Hid (Cs cs (wrN (if g = true then ws else []))) ∧ Hid (Below w.heap.size w w') := by
  obtain ⟨TT, HTT⟩ : ∃ T, Hid ((if g = true then ws else []) = T) := ⟨_, Lib.hid rfl⟩
  rw [HTT.out]
  obtain ⟨ip, hip, hzp, hsp⟩ := info_two info_64
  obtain ⟨gb, HGB⟩ : ∃ gb, Hid (w.heap.size = gb) := ⟨_, Lib.hid rfl⟩
  obtain ⟨gr, HGR⟩ : ∃ g, Hid (gb + 1 = g) := ⟨_, Lib.hid rfl⟩
  obtain ⟨gp, HGP⟩ : ∃ g, Hid (gr + 1 = g) := ⟨_, Lib.hid rfl⟩
  obtain ⟨W1, HW1⟩ : ∃ W1, Hid (W1 = w.alloc (.cells #[.int .i64 md, .slice A0 n0 c0, .slice A1 n1 c1] 25)) := ⟨_, Lib.hid rfl⟩
  obtain ⟨W2, HW2⟩ : ∃ W, Hid (W = W1.alloc (.cells (Array.replicate 64 (.int .i64 0)) T64)) := ⟨_, Lib.hid rfl⟩
  obtain ⟨W3, HW3⟩ : ∃ W, Hid (W = W2.alloc (.cells (Array.replicate 64 (.int .i64 0)) T64)) := ⟨_, Lib.hid rfl⟩
  have n1b : Below w.heap.size w W1 := by rw [HW1.out]; exact bel1 _ _
  have n2b : Below W1.heap.size W1 W2 := by rw [HW2.out]; exact bel1 _ _
  have n3b : Below W2.heap.size W2 W3 := by rw [HW3.out]; exact bel1 _ _
  have hs1 : W1.heap.size = gr := by rw [HW1.out, ← HGR.out, ← HGB.out]; simp
  have hs2 : W2.heap.size = gp := by rw [HW2.out, ← HGP.out, ← hs1]; simp
  have HS1 := Lib.hid hs1
  have HS2 := Lib.hid hs2
  have n23 := n2b.trans (n3b.mono n2b.size)
  have HB3 : Hid (Below w.heap.size w W3) := Lib.hid (n1b.trans (n23.mono n1b.size))
  have HO1 : Hid (Obj1 W3 gb 25 #[.int .i64 md, .slice A0 n0 c0, .slice A1 n1 c1]) := Lib.hid ((show Obj1 W1 gb _ _ by rw [HW1.out, ← HGB.out]; exact Obj1.new _ _ _).kept n23)
  have HOR : Hid (Obj1 W3 gr T64 (Array.replicate 64 (.int .i64 0))) := Lib.hid ((show Obj1 W2 gr T64 _ by rw [HW2.out, ← hs1]; exact Obj1.new _ _ _).kept n3b)
  have HPN : Hid (PlAt W3 gp (wrN [])) := Lib.hid ⟨_, by rw [HW3.out, ← hs2]; exact Obj1.new _ _ _, Cs.zero⟩
  have HGG : Hid (gr ≠ gp ∧ w.heap.size ≤ gp ∧ w.heap.size ≤ gr ∧ gb ≠ gp ∧ gr < gp) := Lib.hid (by have := HGB.out; have := HGR.out; have := HGP.out; omega)
  have HWN := Lib.hid (hw W3 HB3.out)
  have HG := Lib.hid hg
  have HSI : Hid ((Try.prog.info? T64).map (·.size) = some 64) := Lib.hid (by rw [hip]; simp [hsp])
  have q0 := HO1.out.cell 0
  have q1 := HO1.out.cell 1
  have q2 := HO1.out.cell 2
  simp at q0 q1 q2
  clear n1b n2b n3b n23 hs1 hs2 hw hg
  go_enter Try.func31, Try.ntmps31
  go_upto_region 1 with (refine list_allocZ rfl T64 rfl hip hzp ?_)
  rw [← HW1.out]
  change Code.wp _ _ _ _ (W1.alloc (.cells (Array.replicate 64 (.int .i64 0)) T64))
  rw [← HW2.out, HGB.out, HS1.out]
  go_upto_region 2 with (refine list_allocZ rfl T64 rfl hip hzp ?_)
  change Code.wp _ _ _ _ (W2.alloc (.cells (Array.replicate 64 (.int .i64 0)) T64))
  rw [← HW3.out, HS2.out]
  clear HW1 HW2 HW3 HS1 HS2
  go_wp2_with fail
  refine HWN.out.mono ?_
  rintro e w3 ⟨rfl, hb3⟩
  have HB4 := Lib.hid (HB3.out.trans (hb3.mono HB3.out.size))
  have HO4 := Lib.hid (HO1.out.kept hb3)
  have HR4 := Lib.hid (HOR.out.kept hb3)
  have HP4 := Lib.hid (HPN.out.kept hb3)
  obtain ⟨V, m, d, us, HV, hU, hm, huk⟩ : ∃ (V : Option Addr) (m d : Nat) (us : List Wd), Hid (wndV A n c g = .tuple #[.slice V m d, .bool g] ∧ us = if g = true then ws else []) ∧ WinsAt w V m us ∧ m ≤ 60 ∧ ∀ x ∈ us, WOk x := by
    cases g with
    | false => exact ⟨none, 0, 0, [], Lib.hid ⟨rfl, rfl⟩, wins_nil w, by omega, fun x hx => by cases hx⟩
    | true =>
      obtain ⟨h1, h2, h3⟩ := HG.out rfl
      exact ⟨A, n, c, ws, Lib.hid ⟨rfl, rfl⟩, h1, h2, h3⟩
  have HU := Lib.hid hU
  have HUK := Lib.hid huk
  have HUE := Lib.hid HV.out.2
  rw [HV.out.1]
  clear q0 q1 q2 hb3 HWN HO1 HOR HPN HB3 hU huk HV HG
  go_upto_block 2 with (fail)
  go_wp2_with fail
  go_loopw [19] (fun i wx => ∃ k : Nat, k ≤ m ∧ i = .int .i64 k ∧ Hid (PlAt wx gp (wrN (us.take k))) ∧ Hid (Obj1 wx gr T64 (Array.replicate 64 (.int .i64 0))) ∧ Below w.heap.size w wx) (fun i _ => m - (intOf i).toNat)
  case atStart => exact ⟨0, by omega, rfl, Lib.hid (by simpa using HP4.out), HR4, HB4.out⟩
  case round =>
    clear HP4 HR4 HB4
    obtain ⟨k, hk, rfl, HPK, HOK, hbel⟩ := hrel
    have HBEL := Lib.hid hbel
    by_cases hlt : k < m
    · as_aux_lemma =>
      have hki : (k : Int) < (m : Int) := by omega
      have hkl : k < us.length := by rw [HU.out.len]; exact hlt
      obtain ⟨x, hx⟩ : ∃ x, us[k]? = some x := ⟨_, List.getElem?_eq_getElem hkl⟩
      have HXO := Lib.hid (HUK.out x (List.mem_of_getElem? hx))
      have HNX : Hid (∀ i, wrN (us.take (k + 1)) i = wrN (us.take k) i + (if cov x i = true then 1 else 0)) := Lib.hid (fun i => by rw [take_next hx, wrN_snoc])
      have HFB : Hid (∀ i, wrN (us.take k) i ≤ 60) := Lib.hid (fun i => by have h1 := wrN_le (us.take k) i; rw [List.length_take] at h1; omega)
      obtain ⟨b, off, rfl, hb, c0', c1', c2', c3', c4', c5', hok⟩ := (HU.out.kept hbel).six hlt hx
      obtain ⟨gx, HGX⟩ : ∃ gx, Hid (wr.heap.size = gx) := ⟨_, Lib.hid rfl⟩
      obtain ⟨W5, HW5⟩ : ∃ W5, Hid (W5 = wr.alloc (.cells #[.int .i64 x.k, .int .i64 x.b, .int .i64 x.wd, .int .i64 x.ad, .slice x.A x.n x.c, .slice x.B x.m x.d] 48)) := ⟨_, Lib.hid rfl⟩
      have hb5 : Below wr.heap.size wr W5 := by rw [HW5.out]; exact bel1 _ _
      have HOX : Hid (Obj1 W5 gx 48 #[.int .i64 x.k, .int .i64 x.b, .int .i64 x.wd, .int .i64 x.ad, .slice x.A x.n x.c, .slice x.B x.m x.d]) := Lib.hid (by rw [HW5.out, ← HGX.out]; exact Obj1.new _ _ _)
      have HB5 := Lib.hid (HBEL.out.trans (hb5.mono HBEL.out.size))
      have HP5 := Lib.hid (HPK.out.kept hb5)
      have HO5 := Lib.hid (HOK.out.kept hb5)
      have HXP : Hid (gx ≠ gp) := Lib.hid (by have := HPK.out.lt; have := HGX.out; omega)
      have e0 : IntKind.i64.wrap ((k : Int) + 1) = (k : Int) + 1 := IntWalk.i64_in _ (by omega)
      clear hx hkl hok hbel hb5 hb
      go_upto_region 6 with (fail)
      rw [← HW5.out, HGX.out]
      clear c0' c1' c2' c3' c4' c5' HW5 HGX HPK HOK HBEL
      have q0 := HOX.out.cell 0
      have q2 := HOX.out.cell 2
      have q3 := HOX.out.cell 3
      simp at q0 q2 q3
      by_cases hk0 : x.k = 0
      · obtain ⟨d1, d2, d3, d4, _⟩ := HXO.out.d hk0
        obtain ⟨a, ha⟩ : ∃ a : Nat, x.ad = (a : Int) := ⟨x.ad.toNat, by omega⟩
        obtain ⟨m', hm'⟩ : ∃ m' : Nat, x.wd = (m' : Int) := ⟨x.wd.toNat, by omega⟩
        have HM : Hid (a + m' ≤ 64) := Lib.hid (by omega)
        have HCV : Hid (∀ i, cov x i = decide (a ≤ i ∧ i < a + m')) := Lib.hid (fun i => by
          unfold cov
          rw [decide_eq_decide]
          constructor
          · rintro ⟨_, h1, h2⟩; exact ⟨by omega, by omega⟩
          · rintro ⟨h1, h2⟩; exact ⟨hk0, by omega, by omega⟩)
        have hkb : (x.k == 0) = true := by simpa using hk0
        have hkn : (x.k != 0) = false := by simpa using hk0
        have hm64 : m' ≤ 64 := by omega
        have ha64 : a ≤ 64 := by omega
        obtain ⟨F, HF⟩ : ∃ F, Hid (wrN (us.take k) = F) := ⟨_, Lib.hid rfl⟩
        rw [HF.out] at HP5 HFB HNX
        have HAD : Hid (x.ad = (a : Int)) := Lib.hid ha
        rw [hm'] at q2
        rw [ha] at q3
        clear d1 d2 d3 d4 hk0 ha hm'
        go_upto_block 0 with (fail)
        clear q0 q2 q3
        go_wp2_with fail
        go_loopw [28] (fun i wx => ∃ j : Nat, j ≤ m' ∧ i = .int .i64 (j : Int) ∧ Hid (PlAt wx gp (plus F a j)) ∧ Hid (Obj1 wx gr T64 (Array.replicate 64 (.int .i64 0))) ∧ Hid (Obj1 wx gx 48 #[.int .i64 x.k, .int .i64 x.b, .int .i64 x.wd, .int .i64 x.ad, .slice x.A x.n x.c, .slice x.B x.m x.d]) ∧ Below w.heap.size w wx) (fun i _ => (m' - intOf i).toNat)
        case atStart => exact ⟨0, by omega, by simp, Lib.hid (HP5.out.same (fun i hi => by unfold plus; rw [if_neg (by omega)]; rfl)), HO5, HOX, HB5.out⟩
        case round =>
          clear HP5 HO5 HOX HB5
          obtain ⟨j, hj, rfl, HPK, HOK, HXK, hbj⟩ := hrel
          have HBJ := Lib.hid hbj
          by_cases hjl : j < m'
          · have hji : (j : Int) < (m' : Int) := by omega
            have hik : a + j < 64 := by have := HM.out; omega
            obtain ⟨i, hi⟩ : ∃ i, a + j = i := ⟨_, rfl⟩
            have hic : (a : Int) + (j : Int) = (i : Int) := by omega
            have hi64 : (i : Int) < 64 := by omega
            rw [hi] at hik
            obtain ⟨k0, k1⟩ := HPK.out.cell hik
            have q3 := HXK.out.cell 3
            simp at q3
            rw [HAD.out] at q3
            have hv : plus F a j i = F i := by unfold plus; rw [if_neg (by omega)]; exact Nat.add_zero _
            rw [hv] at k0
            have hfi := HFB.out i
            obtain ⟨v, hvv⟩ : ∃ v, F i = v := ⟨_, rfl⟩
            rw [hvv] at k0 hfi
            have HV := Lib.hid hvv
            have HIE := Lib.hid hi
            have e1 : IntKind.i64.wrap ((a : Int) + (j : Int)) = (i : Int) := by rw [IntWalk.i64_in _ (by omega)]; exact hic
            have e2 : IntKind.i64.wrap ((v : Int) + 1) = (v : Int) + 1 := IntWalk.i64_in _ (by omega)
            have e3 : IntKind.i64.wrap ((j : Int) + 1) = (j : Int) + 1 := IntWalk.i64_in _ (by omega)
            have HP9 : Hid (PlAt (wr.setCell ⟨gp, i, none⟩ (.int .i64 ((v : Int) + 1))) gp (plus F a (j + 1))) := Lib.hid ((show PlAt (wr.setCell ⟨gp, i, none⟩ (.int .i64 ((v : Int) + 1))) gp _ by rw [show ((v : Int) + 1) = ((v + 1 : Nat) : Int) by omega]; exact HPK.out.put hik (v + 1)).same (fun j' hj' => by
              have h1 := HV.out
              have h2 := HIE.out
              unfold plus
              by_cases e : j' = i
              · subst e; rw [if_pos rfl, if_pos (by omega), h1]
              · rw [if_neg e]
                by_cases e2 : a ≤ j' ∧ j' < a + j
                · rw [if_pos e2, if_pos (by omega)]
                · rw [if_neg e2, if_neg (by omega)]))
            have HS9 : Hid (Wrote gp wr (wr.setCell ⟨gp, i, none⟩ (.int .i64 ((v : Int) + 1)))) := Lib.hid ((Wrote.refl gp wr).set (p := ⟨gp, i, none⟩) (.inl rfl) _)
            have HR9 := Lib.hid (HOK.out.touch HS9.out HGG.out.1)
            have HX9 := Lib.hid (HXK.out.touch HS9.out HXP.out)
            have HB9 := Lib.hid (HBJ.out.trans (HS9.out.below HGG.out.2.1 HBJ.out.size))
            clear hv hvv hic hi hbj
            go_upto_region 11 with (fail)
            generalize wr.setCell ⟨gp, i, none⟩ (.int .i64 ((v : Int) + 1)) = w9 at HP9 HR9 HX9 HB9 HS9 ⊢
            clear HS9 k0 k1 q3
            go_wp2
            go_roundw
            case rel => exact ⟨j + 1, by omega, by go_num, HP9, HR9, HX9, HB9.out⟩
            case measure => simp [intOf]; omega
          · have hje : j = m' := by omega
            subst hje
            have HPE : Hid (PlAt wr gp (wrN (us.take (k + 1)))) := Lib.hid (HPK.out.same (fun i hi => by
              rw [HNX.out, HCV.out]
              unfold plus
              simp only [decide_eq_true_eq]))
            clear hbj
            go_wp2
            go_roundw
            case rel => exact ⟨k + 1, by omega, by go_num, HPE, HOK, HBJ.out⟩
            case measure => simp [intOf]; omega
      · have hkb : (x.k == 0) = false := by simpa using hk0
        have hkn : (x.k != 0) = true := by simpa using hk0
        have HPE : Hid (PlAt W5 gp (wrN (us.take (k + 1)))) := Lib.hid (HP5.out.same (fun i hi => by
          rw [HNX.out, show cov x i = false from decide_eq_false (fun h => hk0 h.1)]
          simp))
        clear hk0
        go_wp2
        go_roundw
        case rel => exact ⟨k + 1, by omega, by go_num, HPE, HO5, HB5.out⟩
        case measure => simp [intOf]; omega
    · as_aux_lemma =>
      have hke : k = m := by omega
      subst hke
      obtain ⟨cs, hcs, hcc⟩ := HPK.out
      have HCS := Lib.hid hcs
      have HCC : Hid (Cs cs (wrN us)) := Lib.hid (by have h := hcc; rwa [List.take_of_length_le (by rw [HU.out.len]; exact Nat.le_refl _)] at h)
      have HSZ : Hid ((Try.prog.info? T64).map (·.size) = some cs.size) := Lib.hid (by rw [HSI.out, HCC.out.1])
      have HOL : Hid ((Array.replicate 64 (Value.int .i64 0)).size = cs.size) := Lib.hid (by rw [HCC.out.1]; simp)
      clear hcs hcc hbel
      go_wp2_with (first | (refine wpList_load_row rfl T64 _ rfl gp rfl _ cs _ _ HCS.out Try.underlying57 rfl HSZ.out ?_) | (refine wpList_store_row rfl T64 _ _ rfl gr cs rfl rfl T64 _ HOK.out HSZ.out HOL.out HCC.out.one ?_))
      have HW9 := Lib.hid (wrote_row HOK.out cs)
      generalize wr.setRow gr cs = we at HW9 ⊢
      have HE9 := Lib.hid HW9.out.1
      try rw [Exit.noGoto_ret]
      refine bodyPost_ret (v := .agg cs) (results_cell_row rfl _ _ gr T64 cs (0, 0) _ rfl HE9.out Try.underlying57 rfl HSZ.out) rfl ?_
      exact ⟨cs, rfl, by rw [← HTT.out, ← HUE.out]; exact HCC, Lib.hid (HBEL.out.trans (HW9.out.2.below HGG.out.2.2.1 HBEL.out.size))⟩
end Go.Proofs.Ytkankdecbefenaa.Ly31
