/- The contract of package plan's Clone: the same schedule in new memory; no condition but sizes. -/
import Derived.Test.YtkdmcnkahiimoaaPlnM
namespace Go.Proofs.Ytkdmcnkahiimoaa.Ly7
open Go.ChangeShapes Go.WideShapes Go.ChangeAt Go.RowKit Base
set_option linter.unusedVariables false
set_option linter.unusedSimpArgs false

abbrev TWn : TypeId := 41
theorem info_wn : (Try.prog.info? TWn).map (fun i => (i.zero, i.size, i.bytes)) = some (some (.agg #[.int .i64 0, .int .i64 0, .int .i64 0, .int .i64 0, .slice none 0 0, .slice none 0 0]), 6, 80) := by kernel_rfl
/-- A window whose lists lie in new memory. -/
def Wd.cp (z : Wd) (a b : Nat) : Wd := ⟨z.k, z.b, z.wd, z.ad, some ⟨a, 0, none⟩, z.n, z.n, z.fs, some ⟨b, 0, none⟩, z.m, z.m, z.ts⟩
/-- A row of windows, of which the first ones are known. -/
def RowF (w : World) (R n : Nat) (us : List Wd) : Prop := ∃ cs : Array Value, Obj1 w R TWn cs ∧ cs.size = n * 6 ∧ ∀ i (hi : i < us.length), ∀ k, k < 6 → cs[i * 6 + k]? = ((us[i]'hi).cells)[k]?
theorem RowF.lt {w : World} {R n : Nat} {us : List Wd} (h : RowF w R n us) : R < w.heap.size := by
  obtain ⟨cs, h, _⟩ := h
  exact h.lt
theorem RowF.kept {w w' : World} {R n : Nat} {us : List Wd} (h : RowF w R n us) (hb : Below w.heap.size w w') : RowF w' R n us := by
  obtain ⟨cs, h, r⟩ := h
  exact ⟨cs, h.kept hb, r⟩
theorem RowF.touch {w w' : World} {R n g : Nat} {us : List Wd} (h : RowF w R n us) (ht : Wrote g w w') (hne : R ≠ g) : RowF w' R n us := by
  obtain ⟨cs, h, r⟩ := h
  exact ⟨cs, h.touch ht hne, r⟩
theorem RowF.made (w : World) (n : Nat) : RowF (w.alloc (.cells (madeCells #[.int .i64 0, .int .i64 0, .int .i64 0, .int .i64 0, .slice none 0 0, .slice none 0 0] (n * 6)) TWn)) w.heap.size n [] :=
  ⟨_, Obj1.new _ _ _, size_madeCells _ _, fun i hi => by simp at hi⟩
/-- Six cells laid at a place of the row. -/
theorem RowF.put {w w' : World} {R n : Nat} {us : List Wd} {x : Wd} (h : RowF w R n us) (hj : us.length < n)
    (hs : ∀ cs, Obj1 w R TWn cs → Obj1 w' R TWn ((((((cs.setIfInBounds (us.length * 6) (.int .i64 x.k)).setIfInBounds (us.length * 6 + 1) (.int .i64 x.b)).setIfInBounds (us.length * 6 + 2) (.int .i64 x.wd)).setIfInBounds (us.length * 6 + 3) (.int .i64 x.ad)).setIfInBounds (us.length * 6 + 4) (.slice x.A x.n x.c)).setIfInBounds (us.length * 6 + 5) (.slice x.B x.m x.d))) :
    RowF w' R n (us ++ [x]) := by
  obtain ⟨cs, h, hz, hc⟩ := h
  refine ⟨_, hs cs h, by simpa using hz, fun i hi k hk => ?_⟩
  have hi' : i < us.length + 1 := by simpa using hi
  simp only [Array.getElem?_setIfInBounds]
  by_cases e : i = us.length
  · subst e
    rw [List.getElem_append_right (Nat.le_refl _)]
    simp only [Nat.sub_self, List.getElem_cons_zero]
    rcases (show k = 0 ∨ k = 1 ∨ k = 2 ∨ k = 3 ∨ k = 4 ∨ k = 5 by omega) with rfl | rfl | rfl | rfl | rfl | rfl
    all_goals
      simp [Wd.cells, wdC]
      try omega
  · have hlt : i < us.length := by omega
    rw [List.getElem_append_left hlt]
    rw [if_neg (by omega), if_neg (by omega), if_neg (by omega), if_neg (by omega), if_neg (by omega), if_neg (by omega)]
    exact hc i hlt k hk
theorem RowF.wins {w : World} {R n : Nat} {us : List Wd} (h : RowF w R n us) (hn : us.length = n) (hok : ∀ x ∈ us, x.Ok w) : WinsAt w (some ⟨R, 0, none⟩) n us := by
  obtain ⟨cs, h, hz, hc⟩ := h
  exact ⟨hn, fun _ => ⟨R, 0, rfl, h.lt, fun i hi j hj => by rw [Nat.zero_add, h.cell]; exact hc i hi j hj⟩, hok⟩
/-- Windows that were copied so far. -/
def Cps (ws us : List Wd) (lo hi : Nat) (w : World) : Prop := us.length ≤ ws.length ∧ ∀ (i : Nat) (x : Wd), us[i]? = some x → ∃ (z : Wd) (a b : Nat), ws[i]? = some z ∧ x = z.cp a b ∧ lo < a ∧ a < hi ∧ lo < b ∧ b < hi ∧ x.Ok w ∧ Obj1 w b 3 (z.ts.map (Value.int .i64)).toArray
theorem Cps.mono {ws us : List Wd} {lo hi hi' : Nat} {w : World} (h : Cps ws us lo hi w) (hh : hi ≤ hi') : Cps ws us lo hi' w :=
  ⟨h.1, fun i x hx => by
    obtain ⟨z, a, b, h1, h2, h3, h4, h5, h6, h7, h8⟩ := h.2 i x hx
    exact ⟨z, a, b, h1, h2, h3, by omega, h5, by omega, h7, h8⟩⟩
theorem Cps.kept {ws us : List Wd} {lo hi : Nat} {w w' : World} (h : Cps ws us lo hi w) (hb : Below w.heap.size w w') : Cps ws us lo hi w' :=
  ⟨h.1, fun i x hx => by
    obtain ⟨z, a, b, h1, h2, h3, h4, h5, h6, h7, h8⟩ := h.2 i x hx
    exact ⟨z, a, b, h1, h2, h3, h4, h5, h6, h7.kept hb, h8.kept hb⟩⟩
theorem ok_touch {w w' : World} {z : Wd} {a b g : Nat} (h : (z.cp a b).Ok w) (ht : Wrote g w w') (ha : a ≠ g) (hb : b ≠ g) : (z.cp a b).Ok w' :=
  ⟨h.fl.touch ht (fun b' off e => by
    have e : some (⟨a, 0, none⟩ : Addr) = some ⟨b', off, none⟩ := e
    injection e with e
    injection e with e1
    omega), h.tl.touch ht (fun b' off e => by
    have e : some (⟨b, 0, none⟩ : Addr) = some ⟨b', off, none⟩ := e
    injection e with e
    injection e with e1
    omega), h.nc, h.md, h.cm, h.dm⟩
theorem Cps.touch {ws us : List Wd} {lo hi g : Nat} {w w' : World} (h : Cps ws us lo hi w) (ht : Wrote g w w') (hg : g ≤ lo ∨ hi ≤ g) : Cps ws us lo hi w' :=
  ⟨h.1, fun i x hx => by
    obtain ⟨z, a, b, h1, rfl, h3, h4, h5, h6, h7, h8⟩ := h.2 i x hx
    exact ⟨z, a, b, h1, rfl, h3, h4, h5, h6, ok_touch h7 ht (by omega) (by omega), h8.touch ht (by omega)⟩⟩
theorem Cps.nil (ws : List Wd) (lo hi : Nat) (w : World) : Cps ws [] lo hi w := ⟨Nat.zero_le _, fun i x hx => by simp at hx⟩
theorem Cps.snoc {ws us : List Wd} {lo hi : Nat} {w : World} {z : Wd} {a b : Nat} (h : Cps ws us lo hi w) (hz : ws[us.length]? = some z) (ha : lo < a ∧ a < hi) (hb : lo < b ∧ b < hi) (hok : (z.cp a b).Ok w) (hob : Obj1 w b 3 (z.ts.map (Value.int .i64)).toArray) : Cps ws (us ++ [z.cp a b]) lo hi w :=
  ⟨by have := (List.getElem?_eq_some_iff.1 hz).1; simp; omega, fun i x hx => by
    by_cases e : i < us.length
    · rw [List.getElem?_append_left e] at hx
      exact h.2 i x hx
    · rw [List.getElem?_append_right (by omega)] at hx
      have hi0 : i = us.length := by
        have := (List.getElem?_eq_some_iff.1 hx).1
        simp at this
        omega
      subst hi0
      simp at hx
      subst hx
      exact ⟨z, a, b, hz, rfl, ha.1, ha.2, hb.1, hb.2, hok, hob⟩⟩
theorem Cps.oks {ws us : List Wd} {lo hi : Nat} {w : World} (h : Cps ws us lo hi w) : ∀ x ∈ us, x.Ok w := fun x hx => by
  obtain ⟨i, hi, rfl⟩ := List.getElem_of_mem hx
  obtain ⟨z, a, b, _, _, _, _, _, _, h7, _⟩ := h.2 i _ (List.getElem?_eq_getElem hi)
  exact h7
theorem newc_ex {s n : Nat} (xs : List Int) (w : World) (h : s ≤ w.heap.size) : ∃ v, ∃ x : Kin w, NewC s n xs v x.world :=
  ⟨_, ⟨w.alloc (.cells (xs.map (Value.int .i64)).toArray 3), bel1 _ _⟩, w.heap.size, rfl, h, Obj1.new _ _ _⟩
theorem newc_lst {w : World} {g n : Nat} {xs : List Int} (h : Obj1 w g 3 (xs.map (Value.int .i64)).toArray) (hn : xs.length = n) : Lst w (some ⟨g, 0, none⟩) n (xs.map (Value.int .i64)) :=
  ⟨by simpa using hn, fun _ => ⟨g, 0, rfl, h.lt, fun k hk => by rw [Nat.zero_add, h.cell, List.getElem?_toArray]⟩⟩
theorem NewC.at {s n g : Nat} {xs : List Int} {w : World} (h : NewC s n xs (.slice (some ⟨g, 0, none⟩) n n) w) : Obj1 w g 3 (xs.map (Value.int .i64)).toArray := by
  obtain ⟨g', e, h1, h2⟩ := h
  simp at e
  subst e
  exact h2
theorem ixS0 (A0 : Option Addr) (n0 c0 : Nat) (A1 : Option Addr) (n1 c1 : Nat) (W : World) : (Instr.index 23 (.agg #[.slice A0 n0 c0, .slice A1 n1 c1]) (.int .i64 0)).run Try.prog W = .ok (.slice A0 n0 c0) W := by kernel_rfl
theorem ixS1 (A0 : Option Addr) (n0 c0 : Nat) (A1 : Option Addr) (n1 c1 : Nat) (W : World) : (Instr.index 23 (.agg #[.slice A0 n0 c0, .slice A1 n1 c1]) (.int .i64 1)).run Try.prog W = .ok (.slice A1 n1 c1) W := by kernel_rfl
/-- What Clone has done when so many versions are copied. -/
def ClS (w : World) (md : Int) (n0 n1 : Nat) (ws0 ws1 : List Wd) (g3 : Nat) (v : Nat) (wx : World) : Prop :=
  Below w.heap.size w wx ∧ g3 < wx.heap.size ∧ Obj1 wx (w.heap.size + 1) 25 #[.int .i64 0, .slice none 0 0, .slice none 0 0] ∧
  ((v = 0 ∧ Obj1 wx g3 25 #[.int .i64 md, .slice none 0 0, .slice none 0 0]) ∨
   (v = 1 ∧ ∃ R0 us0, g3 < R0 ∧ us0.length = n0 ∧ Obj1 wx g3 25 #[.int .i64 md, .slice (some ⟨R0, 0, none⟩) n0 n0, .slice none 0 0] ∧ RowF wx R0 n0 us0 ∧ Cps ws0 us0 R0 wx.heap.size wx) ∨
   (v = 2 ∧ ∃ R0 us0 R1 us1, g3 < R0 ∧ R0 < R1 ∧ us0.length = n0 ∧ us1.length = n1 ∧ Obj1 wx g3 25 #[.int .i64 md, .slice (some ⟨R0, 0, none⟩) n0 n0, .slice (some ⟨R1, 0, none⟩) n1 n1] ∧ RowF wx R0 n0 us0 ∧ Cps ws0 us0 R0 R1 wx ∧ RowF wx R1 n1 us1 ∧ Cps ws1 us1 R1 wx.heap.size wx))
theorem NewC.less {s s' n : Nat} {xs : List Int} {v : Value} {w : World} (h : NewC s n xs v w) (hs : s' ≤ s) : NewC s' n xs v w := by
  obtain ⟨g, e, h1, h2⟩ := h
  exact ⟨g, e, Nat.le_trans hs h1, h2⟩
theorem cp_ok {w : World} {x : Wd} {a b : Nat} (h : x.Ok w) {w' : World} (ha : Obj1 w' a 3 (x.fs.map (Value.int .i64)).toArray) (hb : Obj1 w' b 3 (x.ts.map (Value.int .i64)).toArray) : (x.cp a b).Ok w' :=
  ⟨newc_lst ha (show x.fs.length = x.n by have := h.fl.1; simpa using this), newc_lst hb (show x.ts.length = x.m by have := h.tl.1; simpa using this), Nat.le_refl _, Nat.le_refl _, Nat.le_trans h.nc h.cm, Nat.le_trans h.md h.dm⟩
set_option maxRecDepth 100000 in
set_option maxHeartbeats 4000000 in
theorem clone_any (md : Int) (A0 : Option Addr) (n0 c0 : Nat) (A1 : Option Addr) (n1 c1 : Nat) (ws0 ws1 : List Wd) (w : World) (hW0 : WinsAt w A0 n0 ws0) (hW1 : WinsAt w A1 n1 ws1) (hF0 : FewW n0 ws0) (hF1 : FewW n1 ws1) :
    Calls Try.prog 19 #[.agg #[.int .i64 md, .slice A0 n0 c0, .slice A1 n1 c1]] w fun e w' => ∃ R0 us0 R1 us1, e = .returned (.agg #[.int .i64 md, .slice (some ⟨R0, 0, none⟩) n0 n0, .slice (some ⟨R1, 0, none⟩) n1 n1]) ∧
      Hid (w.heap.size < R0 ∧ R0 < R1 ∧ us0.length = n0 ∧ us1.length = n1 ∧ RowF w' R0 n0 us0 ∧ Cps ws0 us0 R0 R1 w' ∧ RowF w' R1 n1 us1 ∧ Cps ws1 us1 R1 w'.heap.size w') ∧ Hid (Below w.heap.size w w') := by
  obtain ⟨i0, hi, hz0, hz1, hz2⟩ := info_parts info_wn
  have HW0 := Lib.hid hW0
  have HW1 := Lib.hid hW1
  have HF0 := Lib.hid hF0
  have HF1 := Lib.hid hF1
  have hn060 : n0 ≤ 60 := hF0.1
  have hn160 : n1 ≤ 60 := hF1.1
  have HMK : Hid (∀ (n : Nat) (W : World), n ≤ 60 → (Instr.makeSlice 22 (.int .i64 (n : Int)) (.int .i64 (n : Int))).run Try.prog W = .ok (.slice (some ⟨W.heap.size, 0, none⟩) n n) (W.alloc (.cells (madeCells #[.int .i64 0, .int .i64 0, .int .i64 0, .int .i64 0, .slice none 0 0, .slice none 0 0] (n * 6)) TWn))) := Lib.hid (fun n W hn => by
    have := run_make (P := Try.prog) W 22 TWn i0 (.agg #[.int .i64 0, .int .i64 0, .int .i64 0, .int .i64 0, .slice none 0 0, .slice none 0 0]) Try.underlying22 hi hz0 .i64 .i64 n n (by omega) (Int.le_refl _) (by rw [hz2]; omega) (by omega)
    rw [hz1] at this
    simp only [Int.toNat_natCast] at this
    exact this)
  obtain ⟨g3, HG3⟩ : ∃ g, Hid (w.heap.size + 1 + 1 = g) := ⟨_, Lib.hid rfl⟩
  have HGE := Lib.hid (show w.heap.size + 1 < g3 by have := HG3.out; omega)
  obtain ⟨W3, HW3⟩ : ∃ W3, W3 = ((w.alloc (.cells #[.int .i64 md, .slice A0 n0 c0, .slice A1 n1 c1] 25)).alloc (.cells #[.int .i64 0, .slice none 0 0, .slice none 0 0] 25)).alloc (.cells #[.int .i64 md, .slice none 0 0, .slice none 0 0] 25) := ⟨_, rfl⟩
  have HO3 : Hid (Obj1 W3 g3 25 #[.int .i64 md, .slice none 0 0, .slice none 0 0]) := Lib.hid (by
    have := Obj1.new ((w.alloc (.cells #[.int .i64 md, .slice A0 n0 c0, .slice A1 n1 c1] 25)).alloc (.cells #[.int .i64 0, .slice none 0 0, .slice none 0 0] 25)) 25 #[.int .i64 md, .slice none 0 0, .slice none 0 0]
    rw [show ((w.alloc (.cells #[.int .i64 md, .slice A0 n0 c0, .slice A1 n1 c1] 25)).alloc (.cells #[.int .i64 0, .slice none 0 0, .slice none 0 0] 25)).heap.size = w.heap.size + 1 + 1 by simp, HG3.out] at this
    rw [HW3]
    exact this)
  have HQ3 : Hid (Obj1 W3 (w.heap.size + 1) 25 #[.int .i64 0, .slice none 0 0, .slice none 0 0]) := Lib.hid (by
    have := (Obj1.new (w.alloc (.cells #[.int .i64 md, .slice A0 n0 c0, .slice A1 n1 c1] 25)) 25 #[.int .i64 0, .slice none 0 0, .slice none 0 0]).alloc (.cells #[.int .i64 md, .slice none 0 0, .slice none 0 0] 25)
    rw [show (w.alloc (.cells #[.int .i64 md, .slice A0 n0 c0, .slice A1 n1 c1] 25)).heap.size = w.heap.size + 1 by simp] at this
    rw [HW3]
    exact this)
  have HB3 : Hid (Below w.heap.size w W3) := Lib.hid (by rw [HW3]; exact ((((Below.refl _ _).alloc (Nat.le_refl _) _).alloc (by simp) _).alloc (by simp; omega) _))
  have HOB : Hid (Obj1 W3 w.heap.size 25 #[.int .i64 md, .slice A0 n0 c0, .slice A1 n1 c1]) := Lib.hid (by rw [HW3]; exact ((Obj1.new w 25 _).alloc _).alloc _)
  clear hW0 hW1 hF0 hF1 hi hz0 hz1 hz2
  go_enter Try.func19, Try.ntmps19
  go_upto_region 2 with (fail)
  rw [← HW3, HG3.out]
  clear HW3
  have p1 := HOB.out.cell 1
  have p2 := HOB.out.cell 2
  simp at p1 p2
  go_wp2_with fail
  go_loopw [13] (fun i wx => ∃ v : Nat, v ≤ 2 ∧ i = .int .i64 v ∧ ClS w md n0 n1 ws0 ws1 g3 v wx) (fun i _ => 2 - (intOf i).toNat)
  case atStart => exact ⟨0, by omega, rfl, HB3.out, HO3.out.lt, HQ3.out, .inl ⟨rfl, HO3.out⟩⟩
  case round =>
    clear p1 p2 HO3 HOB HQ3 HB3
    obtain ⟨v, hv, rfl, hbel, hg3, hq, hst⟩ := hrel
    have HBEL := Lib.hid hbel
    have HQ := Lib.hid hq
    clear hbel hq
    rcases hst with ⟨rfl, ho⟩ | ⟨rfl, R0, us0, hr0, hl0, ho, hrow0, hcp0⟩ | ⟨rfl, R0, us0, R1, us1, hr0, hr01, hl0, hl1, ho, hrow0, hcp0, hrow1, hcp1⟩
    · have HO := Lib.hid ho
      have HG3L := Lib.hid hg3
      have hmk := HMK.out n0 wr (by omega)
      have hix := fun W => ixS0 A0 n0 c0 A1 n1 c1 W
      have cc1 := ho.cell 1
      have ff1 := ho.free 1
      simp at cc1
      obtain ⟨R, HRR⟩ : ∃ R, Hid (wr.heap.size = R) := ⟨_, Lib.hid rfl⟩
      obtain ⟨mc, HMC⟩ : ∃ mc : Array Value, mc = madeCells #[.int .i64 0, .int .i64 0, .int .i64 0, .int .i64 0, .slice none 0 0, .slice none 0 0] (n0 * 6) := ⟨_, rfl⟩
      obtain ⟨W5, HW5⟩ : ∃ W5, W5 = (wr.setCell ⟨g3, 1, none⟩ (.slice (some ⟨R, 0, none⟩) n0 n0)).alloc (.cells mc TWn) := ⟨_, rfl⟩
      have hr3 : g3 < R := by have := HRR.out; omega
      have HRF5 : Hid (RowF W5 R n0 []) := Lib.hid (by
        have h := RowF.made (wr.setCell ⟨g3, 1, none⟩ (.slice (some ⟨R, 0, none⟩) n0 n0)) n0
        rw [show (wr.setCell ⟨g3, 1, none⟩ (.slice (some ⟨R, 0, none⟩) n0 n0)).heap.size = R by rw [← HRR.out]; simp [World.setCell], ← HMC] at h
        rw [HW5]
        exact h)
      have HO5 : Hid (Obj1 W5 g3 25 #[.int .i64 md, .slice (some ⟨R, 0, none⟩) n0 n0, .slice none 0 0]) := Lib.hid (by
        rw [HW5]
        exact (HO.out.set 1 (.slice (some ⟨R, 0, none⟩) n0 n0)).alloc (.cells mc TWn))
      have HWA : Hid (Wrote g3 wr W5) := Lib.hid (by rw [HW5]; exact ((Wrote.refl g3 wr).set (p := ⟨g3, 1, none⟩) (.inl rfl) _).alloc _)
      have HB5 : Hid (Below w.heap.size w W5) := Lib.hid (HBEL.out.trans (HWA.out.below (by have := HG3.out; omega) HBEL.out.size))
      have HQ5 := Lib.hid (HQ.out.touch HWA.out (by have := HGE.out; omega))
      rw [← HMC, HRR.out] at hmk
      clear HMC ho
      rw [show ((0 : Nat) : Int) = 0 from rfl]
      go_upto_region 6 with (fail)
      rw [← HW5]
      clear HW5 hmk hix cc1 ff1 HO HBEL HQ HWA
      go_wp2_with fail
      go_loopw [25] (fun i wx => ∃ us : List Wd, us.length ≤ n0 ∧ i = .int .i64 us.length ∧ Below w.heap.size w wx ∧ Obj1 wx (w.heap.size + 1) 25 #[.int .i64 0, .slice none 0 0, .slice none 0 0] ∧ Obj1 wx g3 25 #[.int .i64 md, .slice (some ⟨R, 0, none⟩) n0 n0, .slice none 0 0] ∧ RowF wx R n0 us ∧ Cps ws0 us R wx.heap.size wx) (fun i _ => n0 - (intOf i).toNat)
      case atStart => exact ⟨[], by simp, rfl, HB5.out, HQ5.out, HO5.out, HRF5.out, Cps.nil _ _ _ _⟩
      case round =>
        clear HB5 HO5 HRF5 HQ5
        obtain ⟨us, hj, rfl, hbel, hq, ho, hrf, hcp⟩ := hrel
        have HBEL := Lib.hid hbel
        have HQ := Lib.hid hq
        have HO := Lib.hid ho
        have HRF := Lib.hid hrf
        have HCP := Lib.hid hcp
        obtain ⟨j, HJ⟩ : ∃ j, Hid (us.length = j) := ⟨_, Lib.hid rfl⟩
        rw [HJ.out] at hj ⊢
        by_cases hlt : j < n0
        · have hji : (j : Int) < (n0 : Int) := by omega
          have hjl : j < ws0.length := by rw [HW0.out.len]; exact hlt
          obtain ⟨x, hx⟩ : ∃ x, ws0[j]? = some x := ⟨_, List.getElem?_eq_getElem hjl⟩
          have HX := Lib.hid hx
          obtain ⟨b, off, rfl, hb, k0, k1, k2, k3, k4, k5, hok⟩ := (HW0.out.kept hbel).six hlt hx
          have HOK := Lib.hid hok
          have HXF := Lib.hid (HF0.out.2 x (List.mem_of_getElem? hx))
          have hRwr : R < wr.heap.size := hrf.lt
          clear hx hok hbel hq ho hrf hcp
          go_upto_region 9 with (fail)
          obtain ⟨gw, HGW⟩ : ∃ gw, Hid (wr.heap.size = gw) := ⟨_, Lib.hid rfl⟩
          obtain ⟨W7, HW7⟩ : ∃ W7, W7 = wr.alloc (.cells #[.int .i64 x.k, .int .i64 x.b, .int .i64 x.wd, .int .i64 x.ad, .slice x.A x.n x.c, .slice x.B x.m x.d] TWn) := ⟨_, rfl⟩
          have HOX : Hid (Obj1 W7 gw TWn #[.int .i64 x.k, .int .i64 x.b, .int .i64 x.wd, .int .i64 x.ad, .slice x.A x.n x.c, .slice x.B x.m x.d]) := Lib.hid (by rw [HW7, ← HGW.out]; exact Obj1.new _ _ _)
          have HB7 : Hid (Below wr.heap.size wr W7) := Lib.hid (by rw [HW7]; exact bel1 _ _)
          rw [← HW7, HGW.out]
          clear HW7 k0 k1 k2 k3 k4 k5
          have hdr : Below W7.heap.size W7 W7.drew := bel_drew W7
          have K4 : ∀ z : Kin W7.drew, z.world.cell? ⟨gw, 4, none⟩ = some (.slice x.A x.n x.c) := fun z => (HOX.out.kept (hdr.trans z.below)).cell 4
          have K5 : ∀ z : Kin W7.drew, z.world.cell? ⟨gw, 5, none⟩ = some (.slice x.B x.m x.d) := fun z => (HOX.out.kept (hdr.trans z.below)).cell 5
          have HC1 : Hid (∀ z : Kin W7.drew, Calls Try.prog 34 #[.slice x.A x.n x.c] z.world fun e w' => ∃ v, e = .returned v ∧ Below z.world.heap.size z.world w' ∧ NewC W7.heap.size x.n x.fs v w') := Lib.hid (fun z => (copied_any x.A x.n x.c x.fs z.world ((HOK.out.fl.kept HB7.out).kept (hdr.trans z.below)) (by have := HXF.out.1; omega)).mono (fun e w' ⟨v, he, hb, hn⟩ => ⟨v, he, hb, hn.less (hdr.trans z.below).size⟩))
          have HC2 : Hid (∀ z : Kin W7.drew, Calls Try.prog 34 #[.slice x.B x.m x.d] z.world fun e w' => ∃ v, e = .returned v ∧ Below z.world.heap.size z.world w' ∧ NewC W7.heap.size x.m x.ts v w') := Lib.hid (fun z => (copied_any x.B x.m x.d x.ts z.world ((HOK.out.tl.kept HB7.out).kept (hdr.trans z.below)) (by have := HXF.out.2; omega)).mono (fun e w' ⟨v, he, hb, hn⟩ => ⟨v, he, hb, hn.less (hdr.trans z.below).size⟩))
          refine wp_region_specL 7 [.d (.pointer (some ⟨gw, 4, none⟩)), .d (.slice x.A x.n x.c), .g (NewC W7.heap.size x.n x.fs), .d (.pointer (some ⟨gw, 5, none⟩)), .d (.slice x.B x.m x.d), .g (NewC W7.heap.size x.m x.ts), .d (.pointer (some ⟨gw, 4, none⟩))] (by kernel_rfl) (by kernel_rfl) ?_
          refine spec_d rfl (fun x _ => gives_run (by go_simp)) ?_
          try simp only [Act.put, List.getElem_toArray, List.getElem_cons_succ, List.getElem_cons_zero, List.setIfInBounds_toArray, List.set_cons_zero, List.set_cons_succ]
          refine spec_d rfl (fun x _ => gives_run (by go_simp)) ?_
          try simp only [Act.put, List.getElem_toArray, List.getElem_cons_succ, List.getElem_cons_zero, List.setIfInBounds_toArray, List.set_cons_zero, List.set_cons_succ]
          refine spec_g (NewC.stable _ _ _) (newc_ex _ _ (Nat.le_refl _)) rfl (fun z _ => gives_call (by go_simp) (HC1.out z)) ?_
          rintro v1 ⟨xg1, g1, rfl, hg1, _⟩
          try simp only [Act.put, List.getElem_toArray, List.getElem_cons_succ, List.getElem_cons_zero, List.setIfInBounds_toArray, List.set_cons_zero, List.set_cons_succ]
          refine spec_d rfl (fun x _ => gives_run (by go_simp)) ?_
          try simp only [Act.put, List.getElem_toArray, List.getElem_cons_succ, List.getElem_cons_zero, List.setIfInBounds_toArray, List.set_cons_zero, List.set_cons_succ]
          refine spec_d rfl (fun x _ => gives_run (by go_simp)) ?_
          try simp only [Act.put, List.getElem_toArray, List.getElem_cons_succ, List.getElem_cons_zero, List.setIfInBounds_toArray, List.set_cons_zero, List.set_cons_succ]
          refine spec_g (NewC.stable _ _ _) (newc_ex _ _ (Nat.le_refl _)) rfl (fun z _ => gives_call (by go_simp) (HC2.out z)) ?_
          rintro v2 ⟨xg2, g2, rfl, hg2, _⟩
          try simp only [Act.put, List.getElem_toArray, List.getElem_cons_succ, List.getElem_cons_zero, List.setIfInBounds_toArray, List.set_cons_zero, List.set_cons_succ]
          refine spec_d rfl (fun x _ => gives_run (by go_simp)) ?_
          try simp only [Act.put, List.getElem_toArray, List.getElem_cons_succ, List.getElem_cons_zero, List.setIfInBounds_toArray, List.set_cons_zero, List.set_cons_succ]
          refine spec_end (fun z hz => ?_)
          have ho1 := NewC.at (hz _ (List.mem_cons_of_mem _ (List.mem_singleton.2 rfl)))
          have ho2 := NewC.at (hz _ (List.mem_cons_self ..))
          have hbx := hdr.trans z.below
          have HOX8 := Lib.hid (HOX.out.kept hbx)
          have HL1 := Lib.hid ho1
          have HL2 := Lib.hid ho2
          have HBX := Lib.hid hbx
          clear hz ho1 ho2 K4 K5 hdr hbx
          have hgw7 : gw < W7.heap.size := HOX.out.lt
          clear HC1 HC2
          generalize z.world = wz at HOX8 HL1 HL2 HBX ⊢
          clear z
          have q4 := HOX8.out.cell 4
          have q5 := HOX8.out.cell 5
          have f4 := HOX8.out.free 4
          have f5 := HOX8.out.free 5
          simp at q4 q5
          change wpAny _ _ _ _ (2 + 1) _ _ _
          refine wpAny_ready (rs := [7]) (by kernel_rfl) (by simp) ?_
          refine AllReady.cons rfl (fun KK hK => ?_) AllReady.nil
          go_simp
          refine hK _ _ ?_
          clear hK KK
          change wpAny _ _ _ _ (1 + 1) _ _ _
          refine wpAny_ready (rs := [8]) (by kernel_rfl) (by simp) ?_
          refine AllReady.cons rfl (fun KK hK => ?_) AllReady.nil
          go_simp
          refine hK _ _ ?_
          clear hK KK
          change wpAny _ _ _ _ (0 + 1) _ _ _
          refine wpAny_ready (rs := [9]) (by kernel_rfl) (by simp) ?_
          refine AllReady.cons rfl (fun KK hK => ?_) AllReady.nil
          go_simp
          refine hK _ _ ?_
          clear hK KK
          refine wpAny_done (by kernel_rfl) ?_ _
          have HOX9 := Lib.hid ((HOX8.out.set 4 (.slice (some ⟨g1, 0, none⟩) x.n x.n)).set 5 (.slice (some ⟨g2, 0, none⟩) x.m x.m))
          have HWZ := Lib.hid (((Wrote.refl gw wz).set (p := ⟨gw, 4, none⟩) (.inl rfl) (.slice (some ⟨g1, 0, none⟩) x.n x.n)).set (p := ⟨gw, 5, none⟩) (.inl rfl) (.slice (some ⟨g2, 0, none⟩) x.m x.m))
          clear q4 q5 f4 f5
          generalize (wz.setCell ⟨gw, 4, none⟩ (.slice (some ⟨g1, 0, none⟩) x.n x.n)).setCell ⟨gw, 5, none⟩ (.slice (some ⟨g2, 0, none⟩) x.m x.m) = w8 at HOX9 HWZ ⊢
          have HN8 : Hid (Obj1 w8 gw TWn #[.int .i64 x.k, .int .i64 x.b, .int .i64 x.wd, .int .i64 x.ad, .slice (some ⟨g1, 0, none⟩) x.n x.n, .slice (some ⟨g2, 0, none⟩) x.m x.m]) := Lib.hid HOX9.out
          have HL18 := Lib.hid (HL1.out.touch HWZ.out (by omega))
          have HL28 := Lib.hid (HL2.out.touch HWZ.out (by omega))
          have HB8 : Hid (Below wr.heap.size wr w8) := Lib.hid ((HB7.out.trans (HBX.out.mono HB7.out.size)).trans (HWZ.out.below (by have := HGW.out; omega) (Nat.le_trans HB7.out.size HBX.out.size)))
          have HG12 := Lib.hid (show gw < g1 ∧ gw < g2 ∧ g1 < w8.heap.size ∧ g2 < w8.heap.size from ⟨by omega, by omega, HL18.out.lt, HL28.out.lt⟩)
          clear HOX9 HWZ HOX8 HOX HB7 HBX HL1 HL2
          have HO8 := Lib.hid (HO.out.kept HB8.out)
          have HQ8 := Lib.hid (HQ.out.kept HB8.out)
          have HRF8 := Lib.hid (HRF.out.kept HB8.out)
          have HCP8 := Lib.hid ((HCP.out.kept HB8.out).mono HB8.out.size)
          have HBE8 := Lib.hid (HBEL.out.trans (HB8.out.mono HBEL.out.size))
          obtain ⟨cs, hrow, hcz, hcc⟩ := HRF8.out
          clear hcc
          have hR8 : R < w8.heap.size := hrow.lt
          go_upto_region 10 with (fail)
          have hdr : Below w8.heap.size w8 w8.drew := bel_drew w8
          have G1 : ∀ z : Kin w8.drew, z.world.cell? ⟨g3, 1, none⟩ = some (.slice (some ⟨R, 0, none⟩) n0 n0) := fun z => (HO8.out.kept (hdr.trans z.below)).cell 1
          have N0 : ∀ z : Kin w8.drew, z.world.cell? ⟨gw, 0, none⟩ = some (.int .i64 x.k) := fun z => (HN8.out.kept (hdr.trans z.below)).cell 0
          have N1 : ∀ z : Kin w8.drew, z.world.cell? ⟨gw, 1, none⟩ = some (.int .i64 x.b) := fun z => (HN8.out.kept (hdr.trans z.below)).cell 1
          have N2 : ∀ z : Kin w8.drew, z.world.cell? ⟨gw, 2, none⟩ = some (.int .i64 x.wd) := fun z => (HN8.out.kept (hdr.trans z.below)).cell 2
          have N3 : ∀ z : Kin w8.drew, z.world.cell? ⟨gw, 3, none⟩ = some (.int .i64 x.ad) := fun z => (HN8.out.kept (hdr.trans z.below)).cell 3
          have N4 : ∀ z : Kin w8.drew, z.world.cell? ⟨gw, 4, none⟩ = some (.slice (some ⟨g1, 0, none⟩) x.n x.n) := fun z => (HN8.out.kept (hdr.trans z.below)).cell 4
          have N5 : ∀ z : Kin w8.drew, z.world.cell? ⟨gw, 5, none⟩ = some (.slice (some ⟨g2, 0, none⟩) x.m x.m) := fun z => (HN8.out.kept (hdr.trans z.below)).cell 5
          refine wp_region_specL 7 [.d (.int .i64 0), .d (.pointer (some ⟨g3, 1, none⟩)), .d (.pointer (some ⟨g3, 1, none⟩)), .d (.slice (some ⟨R, 0, none⟩) n0 n0), .d (.int .i64 j), .d (.agg #[.int .i64 x.k, .int .i64 x.b, .int .i64 x.wd, .int .i64 x.ad, .slice (some ⟨g1, 0, none⟩) x.n x.n, .slice (some ⟨g2, 0, none⟩) x.m x.m]), .d (.pointer (some ⟨R, j * 6, none⟩))] (by kernel_rfl) (by kernel_rfl) ?_
          refine spec_d rfl (fun x _ => gives_run (by go_simp)) ?_
          try simp only [Act.put, List.getElem_toArray, List.getElem_cons_succ, List.getElem_cons_zero, List.setIfInBounds_toArray, List.set_cons_zero, List.set_cons_succ]
          refine spec_d rfl (fun x _ => gives_run (by go_simp)) ?_
          try simp only [Act.put, List.getElem_toArray, List.getElem_cons_succ, List.getElem_cons_zero, List.setIfInBounds_toArray, List.set_cons_zero, List.set_cons_succ]
          refine spec_d rfl (fun x _ => gives_run (by go_simp)) ?_
          try simp only [Act.put, List.getElem_toArray, List.getElem_cons_succ, List.getElem_cons_zero, List.setIfInBounds_toArray, List.set_cons_zero, List.set_cons_succ]
          refine spec_d rfl (fun x _ => gives_run (by go_simp)) ?_
          try simp only [Act.put, List.getElem_toArray, List.getElem_cons_succ, List.getElem_cons_zero, List.setIfInBounds_toArray, List.set_cons_zero, List.set_cons_succ]
          refine spec_d rfl (fun x _ => gives_run (by go_simp)) ?_
          try simp only [Act.put, List.getElem_toArray, List.getElem_cons_succ, List.getElem_cons_zero, List.setIfInBounds_toArray, List.set_cons_zero, List.set_cons_succ]
          refine spec_d rfl (fun x _ => gives_run (by go_simp)) ?_
          try simp only [Act.put, List.getElem_toArray, List.getElem_cons_succ, List.getElem_cons_zero, List.setIfInBounds_toArray, List.set_cons_zero, List.set_cons_succ]
          refine spec_d rfl (fun x _ => gives_run (by go_simp)) ?_
          try simp only [Act.put, List.getElem_toArray, List.getElem_cons_succ, List.getElem_cons_zero, List.setIfInBounds_toArray, List.set_cons_zero, List.set_cons_succ]
          refine spec_end (fun z hz => ?_)
          clear hz
          have hbx := hdr.trans z.below
          have HBX := Lib.hid hbx
          have hrow9 := hrow.kept hbx
          clear N0 N1 N2 N3 N4 N5 G1 hdr hbx
          generalize z.world = wz at HBX hrow9 ⊢
          clear z
          obtain ⟨y0, r0⟩ : ∃ y, wz.cell? ⟨R, j * 6, none⟩ = some y := ⟨_, (hrow9.cell _).trans (Array.getElem?_eq_getElem (by omega))⟩
          have t0 := hrow9.free (j * 6)
          obtain ⟨y1, r1⟩ : ∃ y, wz.cell? ⟨R, j * 6 + 1, none⟩ = some y := ⟨_, (hrow9.cell _).trans (Array.getElem?_eq_getElem (by omega))⟩
          have t1 := hrow9.free (j * 6 + 1)
          obtain ⟨y2, r2⟩ : ∃ y, wz.cell? ⟨R, j * 6 + 2, none⟩ = some y := ⟨_, (hrow9.cell _).trans (Array.getElem?_eq_getElem (by omega))⟩
          have t2 := hrow9.free (j * 6 + 2)
          obtain ⟨y3, r3⟩ : ∃ y, wz.cell? ⟨R, j * 6 + 3, none⟩ = some y := ⟨_, (hrow9.cell _).trans (Array.getElem?_eq_getElem (by omega))⟩
          have t3 := hrow9.free (j * 6 + 3)
          obtain ⟨y4, r4⟩ : ∃ y, wz.cell? ⟨R, j * 6 + 4, none⟩ = some y := ⟨_, (hrow9.cell _).trans (Array.getElem?_eq_getElem (by omega))⟩
          have t4 := hrow9.free (j * 6 + 4)
          obtain ⟨y5, r5⟩ : ∃ y, wz.cell? ⟨R, j * 6 + 5, none⟩ = some y := ⟨_, (hrow9.cell _).trans (Array.getElem?_eq_getElem (by omega))⟩
          have t5 := hrow9.free (j * 6 + 5)
          change wpAny _ _ _ _ (0 + 1) _ _ _
          refine wpAny_ready (rs := [7]) (by kernel_rfl) (by simp) ?_
          refine AllReady.cons rfl (fun KK hK => ?_) AllReady.nil
          go_simp
          refine hK _ _ ?_
          clear hK KK
          refine wpAny_done (by kernel_rfl) ?_ _
          have HWZ := Lib.hid (((((((Wrote.refl R wz).set (p := ⟨R, j * 6, none⟩) (.inl rfl) (.int .i64 x.k)).set (p := ⟨R, j * 6 + 1, none⟩) (.inl rfl) (.int .i64 x.b)).set (p := ⟨R, j * 6 + 2, none⟩) (.inl rfl) (.int .i64 x.wd)).set (p := ⟨R, j * 6 + 3, none⟩) (.inl rfl) (.int .i64 x.ad)).set (p := ⟨R, j * 6 + 4, none⟩) (.inl rfl) (.slice (some ⟨g1, 0, none⟩) x.n x.n)).set (p := ⟨R, j * 6 + 5, none⟩) (.inl rfl) (.slice (some ⟨g2, 0, none⟩) x.m x.m))
          have HPUT : Hid (RowF (((((((wz).setCell ⟨R, j * 6, none⟩ (.int .i64 x.k)).setCell ⟨R, j * 6 + 1, none⟩ (.int .i64 x.b)).setCell ⟨R, j * 6 + 2, none⟩ (.int .i64 x.wd)).setCell ⟨R, j * 6 + 3, none⟩ (.int .i64 x.ad)).setCell ⟨R, j * 6 + 4, none⟩ (.slice (some ⟨g1, 0, none⟩) x.n x.n)).setCell ⟨R, j * 6 + 5, none⟩ (.slice (some ⟨g2, 0, none⟩) x.m x.m)) R n0 (us ++ [x.cp g1 g2])) := Lib.hid ((HRF8.out.kept HBX.out).put (by have := HJ.out; omega) (fun cs h => by
            rw [HJ.out]
            exact ((((((h).set (j * 6) (.int .i64 x.k)).set (j * 6 + 1) (.int .i64 x.b)).set (j * 6 + 2) (.int .i64 x.wd)).set (j * 6 + 3) (.int .i64 x.ad)).set (j * 6 + 4) (.slice (some ⟨g1, 0, none⟩) x.n x.n)).set (j * 6 + 5) (.slice (some ⟨g2, 0, none⟩) x.m x.m)))
          clear r0 t0 r1 t1 r2 t2 r3 t3 r4 t4 r5 t5 hrow9 hrow hcz
          generalize ((((((wz).setCell ⟨R, j * 6, none⟩ (.int .i64 x.k)).setCell ⟨R, j * 6 + 1, none⟩ (.int .i64 x.b)).setCell ⟨R, j * 6 + 2, none⟩ (.int .i64 x.wd)).setCell ⟨R, j * 6 + 3, none⟩ (.int .i64 x.ad)).setCell ⟨R, j * 6 + 4, none⟩ (.slice (some ⟨g1, 0, none⟩) x.n x.n)).setCell ⟨R, j * 6 + 5, none⟩ (.slice (some ⟨g2, 0, none⟩) x.m x.m) = w9 at HWZ HPUT ⊢
          have hg3R : g3 ≠ R := by omega
          have HO9 := Lib.hid ((HO8.out.kept HBX.out).touch HWZ.out hg3R)
          have HQ9 := Lib.hid ((HQ8.out.kept HBX.out).touch HWZ.out (by have := HGE.out; omega))
          have hg12 := HG12.out
          have hgwr := HGW.out
          have HB9 : Hid (Below w.heap.size w w9) := Lib.hid ((HBE8.out.trans (HBX.out.mono HBE8.out.size)).trans (HWZ.out.below (by have := HG3.out; omega) (Nat.le_trans HBE8.out.size HBX.out.size)))
          have hsz9 : w8.heap.size ≤ w9.heap.size := Nat.le_trans HBX.out.size HWZ.out.size
          have HOKN : Hid ((x.cp g1 g2).Ok w9) := Lib.hid (cp_ok HOK.out ((HL18.out.kept HBX.out).touch HWZ.out (by omega)) ((HL28.out.kept HBX.out).touch HWZ.out (by omega)))
          have HCP9 := Lib.hid ((((HCP8.out.kept HBX.out).touch HWZ.out (.inl (Nat.le_refl _))).mono hsz9).snoc (by rw [HJ.out]; exact HX.out) ⟨by omega, by omega⟩ ⟨by omega, by omega⟩ HOKN.out ((HL28.out.kept HBX.out).touch HWZ.out (by omega)))
          have HLJ : Hid ((us ++ [x.cp g1 g2]).length = j + 1) := Lib.hid (by rw [List.length_append, HJ.out]; rfl)
          clear HO8 HQ8 HRF8 HCP8 HBE8 HWZ HBX HL18 HL28 HN8 HB8 hg12 hgwr hsz9
          go_wp2
          go_roundw
          case rel => exact ⟨us ++ [x.cp g1 g2], by rw [HLJ.out]; omega, by rw [HLJ.out]; go_num, HB9.out, HQ9.out, HO9.out, HPUT.out, HCP9.out⟩
          case measure => simp [intOf]; omega
        · have hjn : j = n0 := by omega
          have hji : ¬ (j : Int) < (n0 : Int) := by omega
          have hul := HJ.out.trans hjn
          have ho2 := HO.out
          have hrf2 := HRF.out
          have hcp2 := HCP.out
          have HREL : Hid (ClS w md n0 n1 ws0 ws1 g3 1 wr) := Lib.hid ⟨HBEL.out, ho2.lt, HQ.out, .inr (.inl ⟨rfl, R, us, hr3, hul, ho2, hrf2, hcp2⟩)⟩
          clear hbel hq ho hrf hcp hul ho2 hrf2 hcp2
          go_wp2
          go_roundw
          case rel => exact ⟨1, by omega, rfl, HREL.out⟩
          case measure => simp [intOf]
    · have HO := Lib.hid ho
      have HROW0 := Lib.hid hrow0
      have HCP0 := Lib.hid hcp0
      have HLR0 := Lib.hid (show g3 < R0 ∧ us0.length = n0 from ⟨hr0, hl0⟩)
      have HG3L := Lib.hid hg3
      have hmk := HMK.out n1 wr (by omega)
      have hix := fun W => ixS1 A0 n0 c0 A1 n1 c1 W
      have cc1 := ho.cell 2
      have ff1 := ho.free 2
      simp at cc1
      obtain ⟨R, HRR⟩ : ∃ R, Hid (wr.heap.size = R) := ⟨_, Lib.hid rfl⟩
      obtain ⟨mc, HMC⟩ : ∃ mc : Array Value, mc = madeCells #[.int .i64 0, .int .i64 0, .int .i64 0, .int .i64 0, .slice none 0 0, .slice none 0 0] (n1 * 6) := ⟨_, rfl⟩
      obtain ⟨W5, HW5⟩ : ∃ W5, W5 = (wr.setCell ⟨g3, 2, none⟩ (.slice (some ⟨R, 0, none⟩) n1 n1)).alloc (.cells mc TWn) := ⟨_, rfl⟩
      have hr3 : g3 < R := by have := HRR.out; omega
      have HRF5 : Hid (RowF W5 R n1 []) := Lib.hid (by
        have h := RowF.made (wr.setCell ⟨g3, 2, none⟩ (.slice (some ⟨R, 0, none⟩) n1 n1)) n1
        rw [show (wr.setCell ⟨g3, 2, none⟩ (.slice (some ⟨R, 0, none⟩) n1 n1)).heap.size = R by rw [← HRR.out]; simp [World.setCell], ← HMC] at h
        rw [HW5]
        exact h)
      have HO5 : Hid (Obj1 W5 g3 25 #[.int .i64 md, .slice (some ⟨R0, 0, none⟩) n0 n0, .slice (some ⟨R, 0, none⟩) n1 n1]) := Lib.hid (by
        rw [HW5]
        exact (HO.out.set 2 (.slice (some ⟨R, 0, none⟩) n1 n1)).alloc (.cells mc TWn))
      have HWA : Hid (Wrote g3 wr W5) := Lib.hid (by rw [HW5]; exact ((Wrote.refl g3 wr).set (p := ⟨g3, 2, none⟩) (.inl rfl) _).alloc _)
      have HB5 : Hid (Below w.heap.size w W5) := Lib.hid (HBEL.out.trans (HWA.out.below (by have := HG3.out; omega) HBEL.out.size))
      have HQ5 := Lib.hid (HQ.out.touch HWA.out (by have := HGE.out; omega))
      have HROW5 := Lib.hid (HROW0.out.touch HWA.out (by omega))
      have HCP5 : Hid (Cps ws0 us0 R0 R W5) := Lib.hid (by
        have h := HCP0.out.touch HWA.out (.inl (by omega))
        rwa [HRR.out] at h)
      have hR0R : R0 < R := by have := HROW0.out.lt; have := HRR.out; omega
      clear HROW0 HCP0 hrow0 hcp0
      rw [← HMC, HRR.out] at hmk
      clear HMC ho
      rw [show ((1 : Nat) : Int) = 1 from rfl]
      go_upto_region 6 with (fail)
      rw [← HW5]
      clear HW5 hmk hix cc1 ff1 HO HBEL HQ HWA
      go_wp2_with fail
      go_loopw [25] (fun i wx => ∃ us : List Wd, us.length ≤ n1 ∧ i = .int .i64 us.length ∧ Below w.heap.size w wx ∧ Obj1 wx (w.heap.size + 1) 25 #[.int .i64 0, .slice none 0 0, .slice none 0 0] ∧ Obj1 wx g3 25 #[.int .i64 md, .slice (some ⟨R0, 0, none⟩) n0 n0, .slice (some ⟨R, 0, none⟩) n1 n1] ∧ RowF wx R n1 us ∧ Cps ws1 us R wx.heap.size wx ∧ RowF wx R0 n0 us0 ∧ Cps ws0 us0 R0 R wx) (fun i _ => n1 - (intOf i).toNat)
      case atStart => exact ⟨[], by simp, rfl, HB5.out, HQ5.out, HO5.out, HRF5.out, Cps.nil _ _ _ _, HROW5.out, HCP5.out⟩
      case round =>
        clear HB5 HO5 HRF5 HQ5 HROW5 HCP5
        obtain ⟨us, hj, rfl, hbel, hq, ho, hrf, hcp, hrow0, hcp0⟩ := hrel
        have HBEL := Lib.hid hbel
        have HQ := Lib.hid hq
        have HO := Lib.hid ho
        have HRF := Lib.hid hrf
        have HCP := Lib.hid hcp
        have HROW := Lib.hid hrow0
        have HCPO := Lib.hid hcp0
        clear hrow0 hcp0
        obtain ⟨j, HJ⟩ : ∃ j, Hid (us.length = j) := ⟨_, Lib.hid rfl⟩
        rw [HJ.out] at hj ⊢
        by_cases hlt : j < n1
        · have hji : (j : Int) < (n1 : Int) := by omega
          have hjl : j < ws1.length := by rw [HW1.out.len]; exact hlt
          obtain ⟨x, hx⟩ : ∃ x, ws1[j]? = some x := ⟨_, List.getElem?_eq_getElem hjl⟩
          have HX := Lib.hid hx
          obtain ⟨b, off, rfl, hb, k0, k1, k2, k3, k4, k5, hok⟩ := (HW1.out.kept hbel).six hlt hx
          have HOK := Lib.hid hok
          have HXF := Lib.hid (HF1.out.2 x (List.mem_of_getElem? hx))
          have hRwr : R < wr.heap.size := hrf.lt
          clear hx hok hbel hq ho hrf hcp
          go_upto_region 9 with (fail)
          obtain ⟨gw, HGW⟩ : ∃ gw, Hid (wr.heap.size = gw) := ⟨_, Lib.hid rfl⟩
          obtain ⟨W7, HW7⟩ : ∃ W7, W7 = wr.alloc (.cells #[.int .i64 x.k, .int .i64 x.b, .int .i64 x.wd, .int .i64 x.ad, .slice x.A x.n x.c, .slice x.B x.m x.d] TWn) := ⟨_, rfl⟩
          have HOX : Hid (Obj1 W7 gw TWn #[.int .i64 x.k, .int .i64 x.b, .int .i64 x.wd, .int .i64 x.ad, .slice x.A x.n x.c, .slice x.B x.m x.d]) := Lib.hid (by rw [HW7, ← HGW.out]; exact Obj1.new _ _ _)
          have HB7 : Hid (Below wr.heap.size wr W7) := Lib.hid (by rw [HW7]; exact bel1 _ _)
          rw [← HW7, HGW.out]
          clear HW7 k0 k1 k2 k3 k4 k5
          have hdr : Below W7.heap.size W7 W7.drew := bel_drew W7
          have K4 : ∀ z : Kin W7.drew, z.world.cell? ⟨gw, 4, none⟩ = some (.slice x.A x.n x.c) := fun z => (HOX.out.kept (hdr.trans z.below)).cell 4
          have K5 : ∀ z : Kin W7.drew, z.world.cell? ⟨gw, 5, none⟩ = some (.slice x.B x.m x.d) := fun z => (HOX.out.kept (hdr.trans z.below)).cell 5
          have HC1 : Hid (∀ z : Kin W7.drew, Calls Try.prog 34 #[.slice x.A x.n x.c] z.world fun e w' => ∃ v, e = .returned v ∧ Below z.world.heap.size z.world w' ∧ NewC W7.heap.size x.n x.fs v w') := Lib.hid (fun z => (copied_any x.A x.n x.c x.fs z.world ((HOK.out.fl.kept HB7.out).kept (hdr.trans z.below)) (by have := HXF.out.1; omega)).mono (fun e w' ⟨v, he, hb, hn⟩ => ⟨v, he, hb, hn.less (hdr.trans z.below).size⟩))
          have HC2 : Hid (∀ z : Kin W7.drew, Calls Try.prog 34 #[.slice x.B x.m x.d] z.world fun e w' => ∃ v, e = .returned v ∧ Below z.world.heap.size z.world w' ∧ NewC W7.heap.size x.m x.ts v w') := Lib.hid (fun z => (copied_any x.B x.m x.d x.ts z.world ((HOK.out.tl.kept HB7.out).kept (hdr.trans z.below)) (by have := HXF.out.2; omega)).mono (fun e w' ⟨v, he, hb, hn⟩ => ⟨v, he, hb, hn.less (hdr.trans z.below).size⟩))
          refine wp_region_specL 7 [.d (.pointer (some ⟨gw, 4, none⟩)), .d (.slice x.A x.n x.c), .g (NewC W7.heap.size x.n x.fs), .d (.pointer (some ⟨gw, 5, none⟩)), .d (.slice x.B x.m x.d), .g (NewC W7.heap.size x.m x.ts), .d (.pointer (some ⟨gw, 4, none⟩))] (by kernel_rfl) (by kernel_rfl) ?_
          refine spec_d rfl (fun x _ => gives_run (by go_simp)) ?_
          try simp only [Act.put, List.getElem_toArray, List.getElem_cons_succ, List.getElem_cons_zero, List.setIfInBounds_toArray, List.set_cons_zero, List.set_cons_succ]
          refine spec_d rfl (fun x _ => gives_run (by go_simp)) ?_
          try simp only [Act.put, List.getElem_toArray, List.getElem_cons_succ, List.getElem_cons_zero, List.setIfInBounds_toArray, List.set_cons_zero, List.set_cons_succ]
          refine spec_g (NewC.stable _ _ _) (newc_ex _ _ (Nat.le_refl _)) rfl (fun z _ => gives_call (by go_simp) (HC1.out z)) ?_
          rintro v1 ⟨xg1, g1, rfl, hg1, _⟩
          try simp only [Act.put, List.getElem_toArray, List.getElem_cons_succ, List.getElem_cons_zero, List.setIfInBounds_toArray, List.set_cons_zero, List.set_cons_succ]
          refine spec_d rfl (fun x _ => gives_run (by go_simp)) ?_
          try simp only [Act.put, List.getElem_toArray, List.getElem_cons_succ, List.getElem_cons_zero, List.setIfInBounds_toArray, List.set_cons_zero, List.set_cons_succ]
          refine spec_d rfl (fun x _ => gives_run (by go_simp)) ?_
          try simp only [Act.put, List.getElem_toArray, List.getElem_cons_succ, List.getElem_cons_zero, List.setIfInBounds_toArray, List.set_cons_zero, List.set_cons_succ]
          refine spec_g (NewC.stable _ _ _) (newc_ex _ _ (Nat.le_refl _)) rfl (fun z _ => gives_call (by go_simp) (HC2.out z)) ?_
          rintro v2 ⟨xg2, g2, rfl, hg2, _⟩
          try simp only [Act.put, List.getElem_toArray, List.getElem_cons_succ, List.getElem_cons_zero, List.setIfInBounds_toArray, List.set_cons_zero, List.set_cons_succ]
          refine spec_d rfl (fun x _ => gives_run (by go_simp)) ?_
          try simp only [Act.put, List.getElem_toArray, List.getElem_cons_succ, List.getElem_cons_zero, List.setIfInBounds_toArray, List.set_cons_zero, List.set_cons_succ]
          refine spec_end (fun z hz => ?_)
          have ho1 := NewC.at (hz _ (List.mem_cons_of_mem _ (List.mem_singleton.2 rfl)))
          have ho2 := NewC.at (hz _ (List.mem_cons_self ..))
          have hbx := hdr.trans z.below
          have HOX8 := Lib.hid (HOX.out.kept hbx)
          have HL1 := Lib.hid ho1
          have HL2 := Lib.hid ho2
          have HBX := Lib.hid hbx
          clear hz ho1 ho2 K4 K5 hdr hbx
          have hgw7 : gw < W7.heap.size := HOX.out.lt
          clear HC1 HC2
          generalize z.world = wz at HOX8 HL1 HL2 HBX ⊢
          clear z
          have q4 := HOX8.out.cell 4
          have q5 := HOX8.out.cell 5
          have f4 := HOX8.out.free 4
          have f5 := HOX8.out.free 5
          simp at q4 q5
          change wpAny _ _ _ _ (2 + 1) _ _ _
          refine wpAny_ready (rs := [7]) (by kernel_rfl) (by simp) ?_
          refine AllReady.cons rfl (fun KK hK => ?_) AllReady.nil
          go_simp
          refine hK _ _ ?_
          clear hK KK
          change wpAny _ _ _ _ (1 + 1) _ _ _
          refine wpAny_ready (rs := [8]) (by kernel_rfl) (by simp) ?_
          refine AllReady.cons rfl (fun KK hK => ?_) AllReady.nil
          go_simp
          refine hK _ _ ?_
          clear hK KK
          change wpAny _ _ _ _ (0 + 1) _ _ _
          refine wpAny_ready (rs := [9]) (by kernel_rfl) (by simp) ?_
          refine AllReady.cons rfl (fun KK hK => ?_) AllReady.nil
          go_simp
          refine hK _ _ ?_
          clear hK KK
          refine wpAny_done (by kernel_rfl) ?_ _
          have HOX9 := Lib.hid ((HOX8.out.set 4 (.slice (some ⟨g1, 0, none⟩) x.n x.n)).set 5 (.slice (some ⟨g2, 0, none⟩) x.m x.m))
          have HWZ := Lib.hid (((Wrote.refl gw wz).set (p := ⟨gw, 4, none⟩) (.inl rfl) (.slice (some ⟨g1, 0, none⟩) x.n x.n)).set (p := ⟨gw, 5, none⟩) (.inl rfl) (.slice (some ⟨g2, 0, none⟩) x.m x.m))
          clear q4 q5 f4 f5
          generalize (wz.setCell ⟨gw, 4, none⟩ (.slice (some ⟨g1, 0, none⟩) x.n x.n)).setCell ⟨gw, 5, none⟩ (.slice (some ⟨g2, 0, none⟩) x.m x.m) = w8 at HOX9 HWZ ⊢
          have HN8 : Hid (Obj1 w8 gw TWn #[.int .i64 x.k, .int .i64 x.b, .int .i64 x.wd, .int .i64 x.ad, .slice (some ⟨g1, 0, none⟩) x.n x.n, .slice (some ⟨g2, 0, none⟩) x.m x.m]) := Lib.hid HOX9.out
          have HL18 := Lib.hid (HL1.out.touch HWZ.out (by omega))
          have HL28 := Lib.hid (HL2.out.touch HWZ.out (by omega))
          have HB8 : Hid (Below wr.heap.size wr w8) := Lib.hid ((HB7.out.trans (HBX.out.mono HB7.out.size)).trans (HWZ.out.below (by have := HGW.out; omega) (Nat.le_trans HB7.out.size HBX.out.size)))
          have HG12 := Lib.hid (show gw < g1 ∧ gw < g2 ∧ g1 < w8.heap.size ∧ g2 < w8.heap.size from ⟨by omega, by omega, HL18.out.lt, HL28.out.lt⟩)
          clear HOX9 HWZ HOX8 HOX HB7 HBX HL1 HL2
          have HO8 := Lib.hid (HO.out.kept HB8.out)
          have HQ8 := Lib.hid (HQ.out.kept HB8.out)
          have HRF8 := Lib.hid (HRF.out.kept HB8.out)
          have HCP8 := Lib.hid ((HCP.out.kept HB8.out).mono HB8.out.size)
          have HROW8 := Lib.hid (HROW.out.kept HB8.out)
          have HCPO8 := Lib.hid (HCPO.out.kept HB8.out)
          have HBE8 := Lib.hid (HBEL.out.trans (HB8.out.mono HBEL.out.size))
          obtain ⟨cs, hrow, hcz, hcc⟩ := HRF8.out
          clear hcc
          have hR8 : R < w8.heap.size := hrow.lt
          go_upto_region 10 with (fail)
          have hdr : Below w8.heap.size w8 w8.drew := bel_drew w8
          have G1 : ∀ z : Kin w8.drew, z.world.cell? ⟨g3, 2, none⟩ = some (.slice (some ⟨R, 0, none⟩) n1 n1) := fun z => (HO8.out.kept (hdr.trans z.below)).cell 2
          have N0 : ∀ z : Kin w8.drew, z.world.cell? ⟨gw, 0, none⟩ = some (.int .i64 x.k) := fun z => (HN8.out.kept (hdr.trans z.below)).cell 0
          have N1 : ∀ z : Kin w8.drew, z.world.cell? ⟨gw, 1, none⟩ = some (.int .i64 x.b) := fun z => (HN8.out.kept (hdr.trans z.below)).cell 1
          have N2 : ∀ z : Kin w8.drew, z.world.cell? ⟨gw, 2, none⟩ = some (.int .i64 x.wd) := fun z => (HN8.out.kept (hdr.trans z.below)).cell 2
          have N3 : ∀ z : Kin w8.drew, z.world.cell? ⟨gw, 3, none⟩ = some (.int .i64 x.ad) := fun z => (HN8.out.kept (hdr.trans z.below)).cell 3
          have N4 : ∀ z : Kin w8.drew, z.world.cell? ⟨gw, 4, none⟩ = some (.slice (some ⟨g1, 0, none⟩) x.n x.n) := fun z => (HN8.out.kept (hdr.trans z.below)).cell 4
          have N5 : ∀ z : Kin w8.drew, z.world.cell? ⟨gw, 5, none⟩ = some (.slice (some ⟨g2, 0, none⟩) x.m x.m) := fun z => (HN8.out.kept (hdr.trans z.below)).cell 5
          refine wp_region_specL 7 [.d (.int .i64 1), .d (.pointer (some ⟨g3, 1, none⟩)), .d (.pointer (some ⟨g3, 2, none⟩)), .d (.slice (some ⟨R, 0, none⟩) n1 n1), .d (.int .i64 j), .d (.agg #[.int .i64 x.k, .int .i64 x.b, .int .i64 x.wd, .int .i64 x.ad, .slice (some ⟨g1, 0, none⟩) x.n x.n, .slice (some ⟨g2, 0, none⟩) x.m x.m]), .d (.pointer (some ⟨R, j * 6, none⟩))] (by kernel_rfl) (by kernel_rfl) ?_
          refine spec_d rfl (fun x _ => gives_run (by go_simp)) ?_
          try simp only [Act.put, List.getElem_toArray, List.getElem_cons_succ, List.getElem_cons_zero, List.setIfInBounds_toArray, List.set_cons_zero, List.set_cons_succ]
          refine spec_d rfl (fun x _ => gives_run (by go_simp)) ?_
          try simp only [Act.put, List.getElem_toArray, List.getElem_cons_succ, List.getElem_cons_zero, List.setIfInBounds_toArray, List.set_cons_zero, List.set_cons_succ]
          refine spec_d rfl (fun x _ => gives_run (by go_simp)) ?_
          try simp only [Act.put, List.getElem_toArray, List.getElem_cons_succ, List.getElem_cons_zero, List.setIfInBounds_toArray, List.set_cons_zero, List.set_cons_succ]
          refine spec_d rfl (fun x _ => gives_run (by go_simp)) ?_
          try simp only [Act.put, List.getElem_toArray, List.getElem_cons_succ, List.getElem_cons_zero, List.setIfInBounds_toArray, List.set_cons_zero, List.set_cons_succ]
          refine spec_d rfl (fun x _ => gives_run (by go_simp)) ?_
          try simp only [Act.put, List.getElem_toArray, List.getElem_cons_succ, List.getElem_cons_zero, List.setIfInBounds_toArray, List.set_cons_zero, List.set_cons_succ]
          refine spec_d rfl (fun x _ => gives_run (by go_simp)) ?_
          try simp only [Act.put, List.getElem_toArray, List.getElem_cons_succ, List.getElem_cons_zero, List.setIfInBounds_toArray, List.set_cons_zero, List.set_cons_succ]
          refine spec_d rfl (fun x _ => gives_run (by go_simp)) ?_
          try simp only [Act.put, List.getElem_toArray, List.getElem_cons_succ, List.getElem_cons_zero, List.setIfInBounds_toArray, List.set_cons_zero, List.set_cons_succ]
          refine spec_end (fun z hz => ?_)
          clear hz
          have hbx := hdr.trans z.below
          have HBX := Lib.hid hbx
          have hrow9 := hrow.kept hbx
          clear N0 N1 N2 N3 N4 N5 G1 hdr hbx
          generalize z.world = wz at HBX hrow9 ⊢
          clear z
          obtain ⟨y0, r0⟩ : ∃ y, wz.cell? ⟨R, j * 6, none⟩ = some y := ⟨_, (hrow9.cell _).trans (Array.getElem?_eq_getElem (by omega))⟩
          have t0 := hrow9.free (j * 6)
          obtain ⟨y1, r1⟩ : ∃ y, wz.cell? ⟨R, j * 6 + 1, none⟩ = some y := ⟨_, (hrow9.cell _).trans (Array.getElem?_eq_getElem (by omega))⟩
          have t1 := hrow9.free (j * 6 + 1)
          obtain ⟨y2, r2⟩ : ∃ y, wz.cell? ⟨R, j * 6 + 2, none⟩ = some y := ⟨_, (hrow9.cell _).trans (Array.getElem?_eq_getElem (by omega))⟩
          have t2 := hrow9.free (j * 6 + 2)
          obtain ⟨y3, r3⟩ : ∃ y, wz.cell? ⟨R, j * 6 + 3, none⟩ = some y := ⟨_, (hrow9.cell _).trans (Array.getElem?_eq_getElem (by omega))⟩
          have t3 := hrow9.free (j * 6 + 3)
          obtain ⟨y4, r4⟩ : ∃ y, wz.cell? ⟨R, j * 6 + 4, none⟩ = some y := ⟨_, (hrow9.cell _).trans (Array.getElem?_eq_getElem (by omega))⟩
          have t4 := hrow9.free (j * 6 + 4)
          obtain ⟨y5, r5⟩ : ∃ y, wz.cell? ⟨R, j * 6 + 5, none⟩ = some y := ⟨_, (hrow9.cell _).trans (Array.getElem?_eq_getElem (by omega))⟩
          have t5 := hrow9.free (j * 6 + 5)
          change wpAny _ _ _ _ (0 + 1) _ _ _
          refine wpAny_ready (rs := [7]) (by kernel_rfl) (by simp) ?_
          refine AllReady.cons rfl (fun KK hK => ?_) AllReady.nil
          go_simp
          refine hK _ _ ?_
          clear hK KK
          refine wpAny_done (by kernel_rfl) ?_ _
          have HWZ := Lib.hid (((((((Wrote.refl R wz).set (p := ⟨R, j * 6, none⟩) (.inl rfl) (.int .i64 x.k)).set (p := ⟨R, j * 6 + 1, none⟩) (.inl rfl) (.int .i64 x.b)).set (p := ⟨R, j * 6 + 2, none⟩) (.inl rfl) (.int .i64 x.wd)).set (p := ⟨R, j * 6 + 3, none⟩) (.inl rfl) (.int .i64 x.ad)).set (p := ⟨R, j * 6 + 4, none⟩) (.inl rfl) (.slice (some ⟨g1, 0, none⟩) x.n x.n)).set (p := ⟨R, j * 6 + 5, none⟩) (.inl rfl) (.slice (some ⟨g2, 0, none⟩) x.m x.m))
          have HPUT : Hid (RowF (((((((wz).setCell ⟨R, j * 6, none⟩ (.int .i64 x.k)).setCell ⟨R, j * 6 + 1, none⟩ (.int .i64 x.b)).setCell ⟨R, j * 6 + 2, none⟩ (.int .i64 x.wd)).setCell ⟨R, j * 6 + 3, none⟩ (.int .i64 x.ad)).setCell ⟨R, j * 6 + 4, none⟩ (.slice (some ⟨g1, 0, none⟩) x.n x.n)).setCell ⟨R, j * 6 + 5, none⟩ (.slice (some ⟨g2, 0, none⟩) x.m x.m)) R n1 (us ++ [x.cp g1 g2])) := Lib.hid ((HRF8.out.kept HBX.out).put (by have := HJ.out; omega) (fun cs h => by
            rw [HJ.out]
            exact ((((((h).set (j * 6) (.int .i64 x.k)).set (j * 6 + 1) (.int .i64 x.b)).set (j * 6 + 2) (.int .i64 x.wd)).set (j * 6 + 3) (.int .i64 x.ad)).set (j * 6 + 4) (.slice (some ⟨g1, 0, none⟩) x.n x.n)).set (j * 6 + 5) (.slice (some ⟨g2, 0, none⟩) x.m x.m)))
          clear r0 t0 r1 t1 r2 t2 r3 t3 r4 t4 r5 t5 hrow9 hrow hcz
          generalize ((((((wz).setCell ⟨R, j * 6, none⟩ (.int .i64 x.k)).setCell ⟨R, j * 6 + 1, none⟩ (.int .i64 x.b)).setCell ⟨R, j * 6 + 2, none⟩ (.int .i64 x.wd)).setCell ⟨R, j * 6 + 3, none⟩ (.int .i64 x.ad)).setCell ⟨R, j * 6 + 4, none⟩ (.slice (some ⟨g1, 0, none⟩) x.n x.n)).setCell ⟨R, j * 6 + 5, none⟩ (.slice (some ⟨g2, 0, none⟩) x.m x.m) = w9 at HWZ HPUT ⊢
          have hg3R : g3 ≠ R := by omega
          have HO9 := Lib.hid ((HO8.out.kept HBX.out).touch HWZ.out hg3R)
          have HQ9 := Lib.hid ((HQ8.out.kept HBX.out).touch HWZ.out (by have := HGE.out; omega))
          have hg12 := HG12.out
          have hgwr := HGW.out
          have HB9 : Hid (Below w.heap.size w w9) := Lib.hid ((HBE8.out.trans (HBX.out.mono HBE8.out.size)).trans (HWZ.out.below (by have := HG3.out; omega) (Nat.le_trans HBE8.out.size HBX.out.size)))
          have hsz9 : w8.heap.size ≤ w9.heap.size := Nat.le_trans HBX.out.size HWZ.out.size
          have HOKN : Hid ((x.cp g1 g2).Ok w9) := Lib.hid (cp_ok HOK.out ((HL18.out.kept HBX.out).touch HWZ.out (by omega)) ((HL28.out.kept HBX.out).touch HWZ.out (by omega)))
          have HCP9 := Lib.hid ((((HCP8.out.kept HBX.out).touch HWZ.out (.inl (Nat.le_refl _))).mono hsz9).snoc (by rw [HJ.out]; exact HX.out) ⟨by omega, by omega⟩ ⟨by omega, by omega⟩ HOKN.out ((HL28.out.kept HBX.out).touch HWZ.out (by omega)))
          have HROW9 := Lib.hid ((HROW8.out.kept HBX.out).touch HWZ.out (by omega))
          have HCPO9 := Lib.hid ((HCPO8.out.kept HBX.out).touch HWZ.out (.inr (Nat.le_refl _)))
          have HLJ : Hid ((us ++ [x.cp g1 g2]).length = j + 1) := Lib.hid (by rw [List.length_append, HJ.out]; rfl)
          clear HO8 HQ8 HRF8 HCP8 HBE8 HWZ HBX HL18 HL28 HN8 HB8 hg12 hgwr hsz9
          go_wp2
          go_roundw
          case rel => exact ⟨us ++ [x.cp g1 g2], by rw [HLJ.out]; omega, by rw [HLJ.out]; go_num, HB9.out, HQ9.out, HO9.out, HPUT.out, HCP9.out, HROW9.out, HCPO9.out⟩
          case measure => simp [intOf]; omega
        · have hjn : j = n1 := by omega
          have hji : ¬ (j : Int) < (n1 : Int) := by omega
          have hul := HJ.out.trans hjn
          have ho2 := HO.out
          have hrf2 := HRF.out
          have hcp2 := HCP.out
          have hrow2 := HROW.out
          have hcpo2 := HCPO.out
          have HREL : Hid (ClS w md n0 n1 ws0 ws1 g3 2 wr) := Lib.hid ⟨HBEL.out, ho2.lt, HQ.out, .inr (.inr ⟨rfl, R0, us0, R, us, HLR0.out.1, hR0R, HLR0.out.2, hul, ho2, hrow2, hcpo2, hrf2, hcp2⟩)⟩
          clear hbel hq ho hrf hcp hul ho2 hrf2 hcp2 hrow2 hcpo2
          go_wp2
          go_roundw
          case rel => exact ⟨2, by omega, rfl, HREL.out⟩
          case measure => simp [intOf]
    · have HO := Lib.hid ho
      have HROW0 := Lib.hid hrow0
      have HCP0 := Lib.hid hcp0
      have HROW1 := Lib.hid hrow1
      have HCP1 := Lib.hid hcp1
      have HLR := Lib.hid (show us0.length = n0 ∧ us1.length = n1 ∧ g3 < R0 ∧ R0 < R1 from ⟨hl0, hl1, hr0, hr01⟩)
      have d0 := HO.out.cell 0
      have d1 := HO.out.cell 1
      have d2 := HO.out.cell 2
      have q0 := HQ.out.cell 0
      have q1 := HQ.out.cell 1
      have q2 := HQ.out.cell 2
      have f0 := HQ.out.free 0
      have f1 := HQ.out.free 1
      have f2 := HQ.out.free 2
      simp at d0 d1 d2 q0 q1 q2
      clear ho hrow0 hcp0 hrow1 hcp1 hl0 hl1 hr0 hr01
      go_wp2
      have HW9 := Lib.hid ((((Wrote.refl (w.heap.size + 1) wr).set (p := ⟨w.heap.size + 1, 0, none⟩) (.inl rfl) (.int .i64 md)).set (p := ⟨w.heap.size + 1, 1, none⟩) (.inl rfl) (.slice (some ⟨R0, 0, none⟩) n0 n0)).set (p := ⟨w.heap.size + 1, 2, none⟩) (.inl rfl) (.slice (some ⟨R1, 0, none⟩) n1 n1))
      have HQ9 := Lib.hid (((HQ.out.set 0 (.int .i64 md)).set 1 (.slice (some ⟨R0, 0, none⟩) n0 n0)).set 2 (.slice (some ⟨R1, 0, none⟩) n1 n1))
      generalize ((wr.setCell ⟨w.heap.size + 1, 0, none⟩ (.int .i64 md)).setCell ⟨w.heap.size + 1, 1, none⟩ (.slice (some ⟨R0, 0, none⟩) n0 n0)).setCell ⟨w.heap.size + 1, 2, none⟩ (.slice (some ⟨R1, 0, none⟩) n1 n1) = w9 at HW9 HQ9 ⊢
      have e0 : w9.cell? ⟨w.heap.size + 1, 0, none⟩ = some (.int .i64 md) := HQ9.out.cell 0
      have e1 : w9.cell? ⟨w.heap.size + 1, 1, none⟩ = some (.slice (some ⟨R0, 0, none⟩) n0 n0) := HQ9.out.cell 1
      have e2 : w9.cell? ⟨w.heap.size + 1, 2, none⟩ = some (.slice (some ⟨R1, 0, none⟩) n1 n1) := HQ9.out.cell 2
      refine bodyPost_ret (v := .agg #[.int .i64 md, .slice (some ⟨R0, 0, none⟩) n0 n0, .slice (some ⟨R1, 0, none⟩) n1 n1]) (by simp [results, Try.results19, go_sem, e0, e1, e2]) rfl ?_
      have hg := HGE.out
      have hl := HLR.out
      refine ⟨R0, us0, R1, us1, rfl, Lib.hid ⟨by omega, hl.2.2.2, hl.1, hl.2.1, HROW0.out.touch HW9.out (by omega), HCP0.out.touch HW9.out (.inl (by omega)), HROW1.out.touch HW9.out (by omega), (HCP1.out.touch HW9.out (.inl (by omega))).mono HW9.out.size⟩, Lib.hid (HBEL.out.trans (HW9.out.below (by omega) HBEL.out.size))⟩
end Go.Proofs.Ytkdmcnkahiimoaa.Ly7
