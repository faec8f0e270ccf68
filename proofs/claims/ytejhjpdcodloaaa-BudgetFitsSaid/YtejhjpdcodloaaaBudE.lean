/- The contract of package budget's Fit; no condition but sizes. -/
import Derived.Test.YtejhjpdcodloaaaBudD
namespace Go.Proofs.Ytejhjpdcodloaaa.Ly21
open Go.ChangeShapes Go.WideShapes Go.ChangeAt Go.RowKit Base Go.Maps Ly20
set_option linter.unusedVariables false
set_option linter.unusedSimpArgs false

theorem obj7_6 {w : World} {g : Nat} {T : TypeId} {a0 a1 a2 a3 a4 a5 a6 : Value} (h : Obj1 w g T #[a0, a1, a2, a3, a4, a5, a6]) (b0 b1 b2 b3 b4 b5 : Value) : Obj1 ((((((w.setCell ⟨g, 0, none⟩ b0).setCell ⟨g, 1, none⟩ b1).setCell ⟨g, 2, none⟩ b2).setCell ⟨g, 3, none⟩ b3).setCell ⟨g, 4, none⟩ b4).setCell ⟨g, 5, none⟩ b5) g T #[b0, b1, b2, b3, b4, b5, a6] := by
  have h0 : Obj1 (w.setCell ⟨g, 0, none⟩ b0) g T #[b0, a1, a2, a3, a4, a5, a6] := h.set 0 b0
  have h1 : Obj1 ((w.setCell ⟨g, 0, none⟩ b0).setCell ⟨g, 1, none⟩ b1) g T #[b0, b1, a2, a3, a4, a5, a6] := h0.set 1 b1
  have h2 : Obj1 (((w.setCell ⟨g, 0, none⟩ b0).setCell ⟨g, 1, none⟩ b1).setCell ⟨g, 2, none⟩ b2) g T #[b0, b1, b2, a3, a4, a5, a6] := h1.set 2 b2
  have h3 : Obj1 ((((w.setCell ⟨g, 0, none⟩ b0).setCell ⟨g, 1, none⟩ b1).setCell ⟨g, 2, none⟩ b2).setCell ⟨g, 3, none⟩ b3) g T #[b0, b1, b2, b3, a4, a5, a6] := h2.set 3 b3
  have h4 : Obj1 (((((w.setCell ⟨g, 0, none⟩ b0).setCell ⟨g, 1, none⟩ b1).setCell ⟨g, 2, none⟩ b2).setCell ⟨g, 3, none⟩ b3).setCell ⟨g, 4, none⟩ b4) g T #[b0, b1, b2, b3, b4, a5, a6] := h3.set 4 b4
  have h5 : Obj1 ((((((w.setCell ⟨g, 0, none⟩ b0).setCell ⟨g, 1, none⟩ b1).setCell ⟨g, 2, none⟩ b2).setCell ⟨g, 3, none⟩ b3).setCell ⟨g, 4, none⟩ b4).setCell ⟨g, 5, none⟩ b5) g T #[b0, b1, b2, b3, b4, b5, a6] := h4.set 5 b5
  exact h5
theorem obj7_7 {w : World} {g : Nat} {T : TypeId} {a0 a1 a2 a3 a4 a5 a6 : Value} (h : Obj1 w g T #[a0, a1, a2, a3, a4, a5, a6]) (b0 b1 b2 b3 b4 b5 b6 : Value) : Obj1 (((((((w.setCell ⟨g, 0, none⟩ b0).setCell ⟨g, 1, none⟩ b1).setCell ⟨g, 2, none⟩ b2).setCell ⟨g, 3, none⟩ b3).setCell ⟨g, 4, none⟩ b4).setCell ⟨g, 5, none⟩ b5).setCell ⟨g, 6, none⟩ b6) g T #[b0, b1, b2, b3, b4, b5, b6] := by
  have h0 : Obj1 (w.setCell ⟨g, 0, none⟩ b0) g T #[b0, a1, a2, a3, a4, a5, a6] := h.set 0 b0
  have h1 : Obj1 ((w.setCell ⟨g, 0, none⟩ b0).setCell ⟨g, 1, none⟩ b1) g T #[b0, b1, a2, a3, a4, a5, a6] := h0.set 1 b1
  have h2 : Obj1 (((w.setCell ⟨g, 0, none⟩ b0).setCell ⟨g, 1, none⟩ b1).setCell ⟨g, 2, none⟩ b2) g T #[b0, b1, b2, a3, a4, a5, a6] := h1.set 2 b2
  have h3 : Obj1 ((((w.setCell ⟨g, 0, none⟩ b0).setCell ⟨g, 1, none⟩ b1).setCell ⟨g, 2, none⟩ b2).setCell ⟨g, 3, none⟩ b3) g T #[b0, b1, b2, b3, a4, a5, a6] := h2.set 3 b3
  have h4 : Obj1 (((((w.setCell ⟨g, 0, none⟩ b0).setCell ⟨g, 1, none⟩ b1).setCell ⟨g, 2, none⟩ b2).setCell ⟨g, 3, none⟩ b3).setCell ⟨g, 4, none⟩ b4) g T #[b0, b1, b2, b3, b4, a5, a6] := h3.set 4 b4
  have h5 : Obj1 ((((((w.setCell ⟨g, 0, none⟩ b0).setCell ⟨g, 1, none⟩ b1).setCell ⟨g, 2, none⟩ b2).setCell ⟨g, 3, none⟩ b3).setCell ⟨g, 4, none⟩ b4).setCell ⟨g, 5, none⟩ b5) g T #[b0, b1, b2, b3, b4, b5, a6] := h4.set 5 b5
  have h6 : Obj1 (((((((w.setCell ⟨g, 0, none⟩ b0).setCell ⟨g, 1, none⟩ b1).setCell ⟨g, 2, none⟩ b2).setCell ⟨g, 3, none⟩ b3).setCell ⟨g, 4, none⟩ b4).setCell ⟨g, 5, none⟩ b5).setCell ⟨g, 6, none⟩ b6) g T #[b0, b1, b2, b3, b4, b5, b6] := h5.set 6 b6
  exact h6
theorem wrote_setRow {w : World} {b : Nat} {t : TypeId} {old : Array Value} (h : Obj1 w b t old) (cs : Array Value) : Obj1 (w.setRow b cs) b t cs ∧ Wrote b w (w.setRow b cs) :=
  ⟨setRow_heap w b old cs t _ h, ⟨rfl, rfl, rfl, by simp, fun k _ hk => setRow_other w b k cs (fun e => hk (by rw [e]))⟩⟩
theorem row_slice {w : World} {base : Nat} {T : TypeId} {s : Nat} {v : Value} {n : Nat} {xs : List Value} (h : w.ownsRow base T s v n xs) : ∃ A c, v = .slice A n c := by
  rcases h.2 with ⟨rfl, rfl⟩ | ⟨g, cap, cur, rfl, _⟩
  · exact ⟨none, 0, rfl⟩
  · exact ⟨_, _, rfl⟩
theorem grown_of {w w' : World} (h : Below w.heap.size w w') : w.grownBy w' none := ⟨h.os, h.tape, h.output, h.size, fun i hi _ => h.block i hi⟩
theorem _root_.Go.Proofs.Ytejhjpdcodloaaa.Base.Obj1.by {w w' : World} {b : Nat} {T : TypeId} {cs : Array Value} {row : Option Nat} (h : Obj1 w b T cs) (hg : w.grownBy w' row) (hr : row ≠ some b) : Obj1 w' b T cs := (hg.block b h.lt (fun e => hr e.symm)).trans h
/-- The fault that a fit course has, and its pattern. -/
structure Ft where
  kd : Int
  fm : Int
  fy : Bool
  ln : Int
  fr : Int
  A : Option Addr
  n : Nat
  c : Nat
  xs : List Int
abbrev Ft.cells (f : Ft) (v : Value) : Array Value := #[.int .i64 f.kd, .int .i64 f.fm, .bool f.fy, .int .i64 f.ln, .int .i64 f.fr, .slice f.A f.n f.c, v]
/-- What stands in memory while a course is fitted. -/
structure Fs (base gr gf g : Nat) (f : Ft) (am ar : List Slp) (v : Value) (w : World) : Prop where
  of' : Obj1 w gf TC (f.cells v)
  or' : Obj1 w gr TC #[.int .i64 0, .int .i64 0, .bool false, .int .i64 0, .int .i64 0, .slice none 0 0, .slice none 0 0]
  mp : MapN w g am.length am
  row : w.ownsRow base TBS 4 v ar.length (slC ar)
  pat : Lst w f.A f.n (f.xs.map (Value.int .u8))
/-- The blocks are apart. -/
structure Nm (base gr gf g : Nat) (f : Ft) : Prop where
  r : gr < base
  f' : gf < base
  g' : g < base
  rf : gr ≠ gf
  gf' : g ≠ gf
  gr' : g ≠ gr
  p : ∀ b off, f.A = some ⟨b, off, none⟩ → 0 < f.n → b < base ∧ b ≠ g ∧ b ≠ gf ∧ b ≠ gr
theorem lst_by {w w' : World} {A : Option Addr} {n : Nat} {xs : List Value} {row : Option Nat} (h : Lst w A n xs) (hg : w.grownBy w' row) (hr : ∀ b off, A = some ⟨b, off, none⟩ → 0 < n → row ≠ some b) : Lst w' A n xs :=
  ⟨h.1, fun hn => by
    obtain ⟨b, off, e, hlt, hc⟩ := h.2 hn
    exact ⟨b, off, e, Nat.lt_of_lt_of_le hlt hg.size, fun k hk => by rw [← hc k hk]; exact World.cell?_of_block (hg.block b hlt (fun e' => hr b off e hn e'.symm))⟩⟩
section
variable {base gr gf g : Nat} {f : Ft} {am ar : List Slp} {v : Value} {w w' : World}
theorem Fs.kept (h : Fs base gr gf g f am ar v w) (hb : Below w.heap.size w w') : Fs base gr gf g f am ar v w' :=
  ⟨h.of'.kept hb, h.or'.kept hb, h.mp.kept hb, own_kept h.row hb, h.pat.kept hb⟩
theorem Fs.note {am' : List Slp} (h : Fs base gr gf g f am ar v w) (N : Nm base gr gf g f) (hm : MapN w' g am'.length am') (hw : Wrote g w w') : Fs base gr gf g f am' ar v w' := by
  refine ⟨h.of'.by hw (fun e => N.gf' (Option.some.inj e)), h.or'.by hw (fun e => N.gr' (Option.some.inj e)), hm, h.row.kept hw (.inr fun e => ?_), lst_by h.pat hw (fun b off e hn e' => (N.p b off e hn).2.1 (Option.some.inj e').symm)⟩
  have := (h.row.lt g e).1
  have := N.g'
  omega
theorem Fs.push {ar' : List Slp} {v' : Value} (h : Fs base gr gf g f am ar v w) (N : Nm base gr gf g f) (hw : w.grownBy w' v.ownBlock) (hr : w'.ownsRow base TBS 4 v' ar'.length (slC ar')) : Fs base gr gf g f am ar' v' (w'.setCell ⟨gf, 6, none⟩ v') := by
  have hne : ∀ b, b < base → v.ownBlock ≠ some b := fun b hb e => by have := (h.row.lt b e).1; omega
  have o1 : Obj1 w' gf TC (f.cells v) := h.of'.by hw (hne _ N.f')
  have o2 : Obj1 w' gr TC #[.int .i64 0, .int .i64 0, .bool false, .int .i64 0, .int .i64 0, .slice none 0 0, .slice none 0 0] := h.or'.by hw (hne _ N.r)
  have o3 : Lst w' f.A f.n (f.xs.map (Value.int .u8)) := lst_by h.pat hw (fun b off e hn => hne b (N.p b off e hn).1)
  have o4 : MapN w' g am.length am := h.mp.of_block (hw.block g h.mp.lt (fun e => hne g N.g' e.symm))
  have hs : Wrote gf w' (w'.setCell ⟨gf, 6, none⟩ v') := (Wrote.refl gf w').set (p := ⟨gf, 6, none⟩) (.inl rfl) v'
  refine ⟨o1.set 6 v', o2.by hs (fun e => N.rf (Option.some.inj e).symm), o4.of_block (hs.block g o4.lt (fun e => N.gf' (Option.some.inj e))), hr.kept hs (.inr fun e => ?_), lst_by o3 hs (fun b off e hn e' => (N.p b off e hn).2.2.1 (Option.some.inj e').symm)⟩
  have := (hr.lt gf e).1
  have := N.f'
  omega
end
/-- What a fit course is. -/
def FitP (fm' : Prop) (r : Int) (kd fm ln fr : Int) (n : Nat) (xs : List Int) (f : Ft) : Prop := (r = 0 ∧ f.kd = kd ∧ f.fm = fm ∧ f.ln = ln ∧ f.fr = fr ∧ f.n = n ∧ f.xs = xs) ∨ (r ≠ 0 ∧ f.kd = 0 ∧ f.n = 0 ∧ f.xs = [])
set_option maxRecDepth 100000 in
set_option maxHeartbeats 4000000 in
theorem fit_any (kd fm : Int) (fy : Bool) (ln fr : Int) (A : Option Addr) (n c : Nat) (B : Option Addr) (m d : Nat) (xs : List Int) (ls : List Slp) (md : Int) (w : World) (hA : Lst w A n (xs.map (Value.int .u8))) (hn : n ≤ 400) (hW : SlsAt w B m ls) (hm : m ≤ 900) (hmd : md ≤ 9223372036854775807) :
    Calls Try.prog 12 #[.agg #[.int .i64 kd, .int .i64 fm, .bool fy, .int .i64 ln, .int .i64 fr, .slice A n c, .slice B m d], .int .i64 md] w fun e w' => ∃ (f : Ft) (B' : Option Addr) (d' : Nat), e = .returned (.agg (f.cells (.slice B' (fitA md [] ls).length d'))) ∧ Hid (FitP True (rightF kd fm ln fr n md) kd fm ln fr n xs f) ∧ Hid (Lst w' f.A f.n (f.xs.map (Value.int .u8))) ∧ Hid (SlsAt w' B' (fitA md [] ls).length (fitA md [] ls)) ∧ Hid ((fitA md [] ls).length ≤ d') ∧ Hid (Below w.heap.size w w') := by
  obtain ⟨i0, hi, hz0, hz1, hz2⟩ := info_parts info_bs
  have HW := Lib.hid hW
  have HA := Lib.hid hA
  obtain ⟨gb, HGB⟩ : ∃ gb, Hid (w.heap.size = gb) := ⟨_, Lib.hid rfl⟩
  obtain ⟨gr, HGR⟩ : ∃ gr, Hid (gb + 1 = gr) := ⟨_, Lib.hid rfl⟩
  obtain ⟨gf, HGF⟩ : ∃ gf, Hid (gr + 1 = gf) := ⟨_, Lib.hid rfl⟩
  obtain ⟨W2, HW2⟩ : ∃ W2, W2 = (w.alloc (.cells #[.int .i64 kd, .int .i64 fm, .bool fy, .int .i64 ln, .int .i64 fr, .slice A n c, .slice B m d] TC)).alloc (.cells #[.int .i64 0, .int .i64 0, .bool false, .int .i64 0, .int .i64 0, .slice none 0 0, .slice none 0 0] TC) := ⟨_, rfl⟩
  have hsz2 : W2.heap.size = gf := by rw [HW2, ← HGF.out, ← HGR.out, ← HGB.out]; simp
  obtain ⟨W3, HW3⟩ : ∃ W3, W3 = W2.alloc (.cells #[.int .i64 0, .int .i64 0, .bool false, .int .i64 0, .int .i64 0, .slice none 0 0, .slice none 0 0] TC) := ⟨_, rfl⟩
  have HB2 : Hid (Below w.heap.size w W2) := Lib.hid (by rw [HW2]; exact ((Below.refl _ _).alloc (Nat.le_refl _) _).alloc (by simp) _)
  have HB23 : Hid (Below W2.heap.size W2 W3) := Lib.hid (by rw [HW3]; exact bel1 _ _)
  have HB3 : Hid (Below w.heap.size w W3) := Lib.hid (HB2.out.trans (HB23.out.mono HB2.out.size))
  have HO1 : Hid (Obj1 W3 gb TC #[.int .i64 kd, .int .i64 fm, .bool fy, .int .i64 ln, .int .i64 fr, .slice A n c, .slice B m d]) := Lib.hid (by
    have h : Obj1 W2 gb TC #[.int .i64 kd, .int .i64 fm, .bool fy, .int .i64 ln, .int .i64 fr, .slice A n c, .slice B m d] := by rw [HW2, ← HGB.out]; exact (Obj1.new _ _ _).kept (bel1 _ _)
    exact h.kept HB23.out)
  have HOR : Hid (Obj1 W3 gr TC #[.int .i64 0, .int .i64 0, .bool false, .int .i64 0, .int .i64 0, .slice none 0 0, .slice none 0 0]) := Lib.hid (by
    have h : Obj1 W2 gr TC #[.int .i64 0, .int .i64 0, .bool false, .int .i64 0, .int .i64 0, .slice none 0 0, .slice none 0 0] := by
      rw [HW2, ← HGR.out, ← HGB.out, show w.heap.size + 1 = (w.alloc (.cells #[.int .i64 kd, .int .i64 fm, .bool fy, .int .i64 ln, .int .i64 fr, .slice A n c, .slice B m d] TC)).heap.size by simp]
      exact Obj1.new _ _ _
    exact h.kept HB23.out)
  have HOF : Hid (Obj1 W3 gf TC #[.int .i64 0, .int .i64 0, .bool false, .int .i64 0, .int .i64 0, .slice none 0 0, .slice none 0 0]) := Lib.hid (by rw [HW3, ← hsz2]; exact Obj1.new _ _ _)
  have HSZ2 := Lib.hid hsz2
  have HRT := Lib.hid (right_any kd fm fy ln fr A n c md W3 (by omega))
  obtain ⟨r, HR⟩ : ∃ r, Hid (rightF kd fm ln fr n md = r) := ⟨_, Lib.hid rfl⟩
  rw [HR.out] at HRT ⊢
  obtain ⟨E, HE⟩ : ∃ E, Hid (fitA md [] ls = E) := ⟨_, Lib.hid rfl⟩
  rw [HE.out]
  have HEL : Hid (E.length ≤ 900) := Lib.hid (by rw [← HE.out]; have := fitA_len md ls []; have := HW.out.len; simp at *; omega)
  have d0 := HO1.out.cell 0
  have d1 := HO1.out.cell 1
  have d2 := HO1.out.cell 2
  have d3 := HO1.out.cell 3
  have d4 := HO1.out.cell 4
  have d5 := HO1.out.cell 5
  simp at d0 d1 d2 d3 d4 d5
  have hmm := @run_makeMap Try.prog
  clear hW hA
  go_enter Try.func12, Try.ntmps12
  go_upto_region 1 with (fail)
  rw [← HW2, HGB.out, HGR.out]
  clear HW2
  go_upto_region 2 with (fail)
  rw [← HW3]
  try rw [hsz2]
  clear HW3 hsz2
  go_wp2_with fail
  refine HRT.out.mono ?_
  rintro e w2 ⟨rfl, hb2⟩
  have HBW2 := Lib.hid (HB3.out.trans (hb2.mono HB3.out.size))
  have HO2 := Lib.hid (HO1.out.kept hb2)
  have HOR2 := Lib.hid (HOR.out.kept hb2)
  have HOF2 := Lib.hid (HOF.out.kept hb2)
  clear d0 d1 d2 d3 d4 d5 hb2 HRT
  by_cases hr : r = 0
  · subst hr
    as_aux_lemma =>
    have d0 := HO2.out.cell 0
    have d1 := HO2.out.cell 1
    have d2 := HO2.out.cell 2
    have d3 := HO2.out.cell 3
    have d4 := HO2.out.cell 4
    have d5 := HO2.out.cell 5
    simp at d0 d1 d2 d3 d4 d5
    have HCL := Lib.hid (clone_any kd fm fy ln fr A n c xs w2 hn (HA.out.kept HBW2.out))
    go_wp2_with fail
    refine HCL.out.mono ?_
    rintro e w3 ⟨gc, rfl, hgc, HOC, hb3⟩
    have HB3w := Lib.hid (HBW2.out.trans (hb3.mono HBW2.out.size))
    have HO3 := Lib.hid (HO2.out.kept hb3)
    have HOR3 := Lib.hid (HOR2.out.kept hb3)
    have HOF3 := Lib.hid (HOF2.out.kept hb3)
    have HGC : Hid (gf < gc) := Lib.hid (Nat.lt_of_lt_of_le HOF2.out.lt hgc)
    clear d0 d1 d2 d3 d4 d5 hb3 hgc HCL
    have f0 := HOF3.out.cell 0
    have f1 := HOF3.out.cell 1
    have f2 := HOF3.out.cell 2
    have f3 := HOF3.out.cell 3
    have f4 := HOF3.out.cell 4
    have f5 := HOF3.out.cell 5
    have p0 := HOF3.out.free 0
    have p1 := HOF3.out.free 1
    have p2 := HOF3.out.free 2
    have p3 := HOF3.out.free 3
    have p4 := HOF3.out.free 4
    have p5 := HOF3.out.free 5
    simp at f0 f1 f2 f3 f4 f5
    go_upto_region 4 with (fail)
    have HF4 := Lib.hid (obj7_6 HOF3.out (.int .i64 kd) (.int .i64 fm) (.bool fy) (.int .i64 ln) (.int .i64 fr) (.slice (some ⟨gc, 0, none⟩) n n))
    have HW4 := Lib.hid (((((((Wrote.refl gf w3).set (p := ⟨gf, 0, none⟩) (.inl rfl) (.int .i64 kd)).set (p := ⟨gf, 1, none⟩) (.inl rfl) (.int .i64 fm)).set (p := ⟨gf, 2, none⟩) (.inl rfl) (.bool fy)).set (p := ⟨gf, 3, none⟩) (.inl rfl) (.int .i64 ln)).set (p := ⟨gf, 4, none⟩) (.inl rfl) (.int .i64 fr)).set (p := ⟨gf, 5, none⟩) (.inl rfl) (.slice (some ⟨gc, 0, none⟩) n n))
    generalize (((((w3.setCell ⟨gf, 0, none⟩ (.int .i64 kd)).setCell ⟨gf, 1, none⟩ (.int .i64 fm)).setCell ⟨gf, 2, none⟩ (.bool fy)).setCell ⟨gf, 3, none⟩ (.int .i64 ln)).setCell ⟨gf, 4, none⟩ (.int .i64 fr)).setCell ⟨gf, 5, none⟩ (.slice (some ⟨gc, 0, none⟩) n n) = w4 at HF4 HW4 ⊢
    obtain ⟨f, HFt⟩ : ∃ f : Ft, Hid (f = ⟨kd, fm, fy, ln, fr, some ⟨gc, 0, none⟩, n, n, xs⟩) := ⟨_, Lib.hid rfl⟩
    have HFP : Hid (FitP True 0 kd fm ln fr n xs f) := Lib.hid (by rw [HFt.out]; exact .inl ⟨rfl, rfl, rfl, rfl, rfl, rfl, rfl⟩)
    have HOF4 : Hid (Obj1 w4 gf TC (f.cells (.slice none 0 0))) := Lib.hid (by rw [HFt.out]; exact HF4.out)
    have HOR4 := Lib.hid (HOR3.out.touch HW4.out (by have := HGF.out; omega))
    have HO4 := Lib.hid (HO3.out.touch HW4.out (by have := HGF.out; have := HGR.out; omega))
    have HP4 : Hid (Lst w4 f.A f.n (f.xs.map (Value.int .u8))) := Lib.hid (by
      rw [HFt.out]
      refine Lst.touch (A := some ⟨gc, 0, none⟩) ?_ HW4.out (fun b off e => by injection e with e; injection e with e1 _ _; have := HGC.out; omega)
      have hl : (xs.map (Value.int .u8)).length = n := HA.out.1
      exact ⟨hl, fun hn => ⟨gc, 0, rfl, HOC.out.lt, fun k hk => by rw [Nat.zero_add, HOC.out.cell, List.getElem?_toArray]⟩⟩)
    have HB4 : Hid (Below w.heap.size w w4) := Lib.hid (HB3w.out.trans (HW4.out.below (by have := HGF.out; have := HGR.out; have := HGB.out; omega) HB3w.out.size))
    have HPB : Hid (∀ b off, f.A = some ⟨b, off, none⟩ → 0 < f.n → gf < b ∧ b < w4.heap.size) := Lib.hid (fun b off e hn => by
      rw [HFt.out] at e
      injection e with e
      injection e with e1 _ _
      have h1 := HOC.out.lt
      have h2 := HW4.out.size
      have := HGC.out
      omega)
    clear f0 f1 f2 f3 f4 f5 p0 p1 p2 p3 p4 p5 HF4 HW4 HFt HOC HO3 HOR3 HOF3 HB3w HGC HO2 HOR2 HOF2 HBW2 HOF HOR HO1
    go_upto_region 5 with (fail)
    obtain ⟨g, HGM⟩ : ∃ g, Hid (w4.heap.size = g) := ⟨_, Lib.hid rfl⟩
    obtain ⟨W5, HW5⟩ : ∃ W5, W5 = w4.alloc (.map #[] 0) := ⟨_, rfl⟩
    have HB45 : Hid (Below w4.heap.size w4 W5) := Lib.hid (by rw [HW5]; exact bel1 _ _)
    have HM5 : Hid (MapN W5 g 0 []) := Lib.hid (by rw [HW5, ← HGM.out]; exact MapN.made _)
    have HB5 := Lib.hid (HB4.out.trans (HB45.out.mono HB4.out.size))
    have HO5 := Lib.hid (HO4.out.kept HB45.out)
    obtain ⟨base, HBA⟩ : ∃ base, Hid (W5.heap.size = base) := ⟨_, Lib.hid rfl⟩
    have HNM : Hid (Nm base gr gf g f) := Lib.hid (by
      have h1 := HOF4.out.lt
      have h2 := HOR4.out.lt
      have h3 := HM5.out.lt
      have h4 := HGM.out
      have h5 := HBA.out
      have h6 := HB45.out.size
      have h7 := HGF.out
      refine ⟨by omega, by omega, by omega, by omega, by omega, by omega, fun b off e hn => ?_⟩
      have := HPB.out b off e hn
      omega)
    have HBL : Hid (w.heap.size ≤ gf ∧ w.heap.size ≤ g ∧ w.heap.size ≤ base ∧ w.heap.size ≤ gr) := Lib.hid (by
      have := HB4.out.size
      have := HGM.out
      have := HBA.out
      have := HB45.out.size
      have := HGF.out
      have := HGR.out
      have := HGB.out
      omega)
    have HFS5 : Hid (Fs base gr gf g f [] [] (.slice none 0 0) W5) := Lib.hid ⟨HOF4.out.kept HB45.out, HOR4.out.kept HB45.out, HM5.out, ⟨rfl, .inl ⟨rfl, rfl⟩⟩, HP4.out.kept HB45.out⟩
    rw [← HW5, HGM.out]
    clear HW5 hmm HB45 HM5 HO4 HOF4 HOR4 HP4 HB4 HPB HGM HGB HGR HGF HSZ2 HB23 HB2 HB3
    have hbase : base ≤ W5.heap.size := by rw [HBA.out]; exact Nat.le_refl _
    have HBS := Lib.hid hbase
    clear hbase HBA
    have d6 := HO5.out.cell 6
    simp at d6
    go_upto_block 2 with (fail)
    clear d6
    go_wp2_with fail
    go_loopw [22] (fun i wx => ∃ (k : Nat) (a : List Slp) (v : Value), k ≤ m ∧ i = .int .i64 k ∧ Hid (fitA md a (ls.drop k) = E) ∧ Hid (Good md a ∧ a.length ≤ k) ∧ Hid (Fs base gr gf g f a a v wx) ∧ Hid (base ≤ wx.heap.size) ∧ Below w.heap.size w wx) (fun i _ => m - (intOf i).toNat)
    case atStart => exact ⟨0, [], _, by omega, rfl, Lib.hid (by simpa using HE.out), Lib.hid ⟨Good.nil md, by simp⟩, HFS5, HBS, HB5.out⟩
    case round =>
      clear HFS5 HBS HB5 HO5
      obtain ⟨k, a, vb, hk, rfl, HC, HG, HFS, HBS, hbel⟩ := hrel
      have HBEL := Lib.hid hbel
      by_cases hlt : k < m
      · as_aux_lemma =>
        have hki : (k : Int) < (m : Int) := by omega
        have hkl : k < ls.length := by rw [HW.out.len]; exact hlt
        obtain ⟨x, hx⟩ : ∃ x, ls[k]? = some x := ⟨_, List.getElem?_eq_getElem hkl⟩
        have HC' : Hid ((if (mayB x md && !nearL a x) = true then fitA md (a ++ [x]) (ls.drop (k + 1)) else fitA md a (ls.drop (k + 1))) = E) := Lib.hid (by
          have := HC.out
          rw [drop_next hx] at this
          exact this)
        have HGK : Hid (Good md a ∧ a.length ≤ k + 1) := Lib.hid ⟨HG.out.1, by have := HG.out.2; omega⟩
        obtain ⟨b, off, rfl, hb, k0, k1, k2, k3⟩ := (HW.out.kept hbel).four hlt hx
        clear hx hkl hb hbel HC
        go_upto_region 8 with (fail)
        obtain ⟨gx, HGX⟩ : ∃ gx, Hid (wr.heap.size = gx) := ⟨_, Lib.hid rfl⟩
        obtain ⟨W6, HW6⟩ : ∃ W6, W6 = wr.alloc (.cells #[.int .i64 x.m, .bool x.y, .int .i64 x.t, .int .i64 x.b] TBS) := ⟨_, rfl⟩
        have HOX : Hid (Obj1 W6 gx TBS #[.int .i64 x.m, .bool x.y, .int .i64 x.t, .int .i64 x.b]) := Lib.hid (by rw [HW6, ← HGX.out]; exact Obj1.new _ _ _)
        have HB6 : Hid (Below wr.heap.size wr W6) := Lib.hid (by rw [HW6]; exact bel1 _ _)
        have HBW6 := Lib.hid (HBEL.out.trans (HB6.out.mono HBEL.out.size))
        have HFS6 := Lib.hid (HFS.out.kept HB6.out)
        have HBS6 : Hid (base ≤ W6.heap.size) := Lib.hid (Nat.le_trans HBS.out HB6.out.size)
        have HGX2 : Hid (base ≤ gx) := Lib.hid (by rw [← HGX.out]; exact HBS.out)
        rw [← HW6, HGX.out]
        clear HW6 k0 k1 k2 k3 HB6 HFS HBEL HGX HBS
        have q0 := HOX.out.cell 0
        have q1 := HOX.out.cell 1
        have q2 := HOX.out.cell 2
        have q3 := HOX.out.cell 3
        simp at q0 q1 q2 q3
        have HMY := Lib.hid (fun W => may_any x md W)
        obtain ⟨q, HQ⟩ : ∃ q, Hid (mayB x md = q) := ⟨_, Lib.hid rfl⟩
        rw [HQ.out] at HMY
        go_wp2_with fail
        refine (HMY.out _).mono ?_
        rintro e w7 ⟨rfl, hb7⟩
        have HB7 := Lib.hid (HBW6.out.trans (hb7.mono HBW6.out.size))
        have HO7 := Lib.hid (HOX.out.kept hb7)
        have HFS7 := Lib.hid (HFS6.out.kept hb7)
        have HBS7 : Hid (base ≤ w7.heap.size) := Lib.hid (Nat.le_trans HBS6.out hb7.size)
        clear q0 q1 q2 q3 hb7 HMY HOX HFS6 HBW6 HBS6
        cases q with
        | false =>
          have HE2 : Hid (fitA md a (ls.drop (k + 1)) = E) := Lib.hid (by rw [← HC'.out, if_neg (by rw [HQ.out]; simp)])
          go_wp2
          go_roundw
          case rel => exact ⟨k + 1, a, vb, by omega, by go_num, HE2, HGK, HFS7, HBS7, HB7.out⟩
          case measure => simp [intOf]; omega
        | true =>
          have q0 := HO7.out.cell 0
          have q1 := HO7.out.cell 1
          have q2 := HO7.out.cell 2
          have q3 := HO7.out.cell 3
          simp at q0 q1 q2 q3
          have HNR := Lib.hid (near_any md g a.length a x w7 HFS7.out.mp HG.out.1 HQ.out hmd)
          obtain ⟨p, HP⟩ : ∃ p, Hid (nearL a x = p) := ⟨_, Lib.hid rfl⟩
          rw [HP.out] at HNR
          go_wp2_with fail
          refine HNR.out.mono ?_
          rintro e w8 ⟨rfl, hb8⟩
          have HB8 := Lib.hid (HB7.out.trans (hb8.mono HB7.out.size))
          have HO8 := Lib.hid (HO7.out.kept hb8)
          have HFS8 := Lib.hid (HFS7.out.kept hb8)
          have HBS8 : Hid (base ≤ w8.heap.size) := Lib.hid (Nat.le_trans HBS7.out hb8.size)
          clear q0 q1 q2 q3 hb8 HNR HO7 HFS7 HB7 HBS7
          cases p with
          | true =>
            have HE2 : Hid (fitA md a (ls.drop (k + 1)) = E) := Lib.hid (by rw [← HC'.out, if_neg (by rw [HQ.out, HP.out]; simp)])
            go_wp2
            go_roundw
            case rel => exact ⟨k + 1, a, vb, by omega, by go_num, HE2, HGK, HFS8, HBS8, HB8.out⟩
            case measure => simp [intOf]; omega
          | false =>
            have HE2 : Hid (fitA md (a ++ [x]) (ls.drop (k + 1)) = E) := Lib.hid (by rw [← HC'.out, if_pos (by rw [HQ.out, HP.out]; rfl)])
            have HGA : Hid (Good md (a ++ [x]) ∧ (a ++ [x]).length ≤ k + 1) := Lib.hid ⟨HG.out.1.snoc HQ.out HP.out, by have := HG.out.2; simp; omega⟩
            have HAL : Hid (a.length ≤ 900) := Lib.hid (by have := HG.out.2; omega)
            have q0 := HO8.out.cell 0
            have q1 := HO8.out.cell 1
            have q2 := HO8.out.cell 2
            have q3 := HO8.out.cell 3
            simp at q0 q1 q2 q3
            have HNT := Lib.hid (note_any md g a.length a x w8 HFS8.out.mp HQ.out hmd (by have := HAL.out; omega))
            go_wp2_with fail
            refine HNT.out.mono ?_
            rintro e w9 ⟨rfl, HM9, HW9⟩
            have HB9 := Lib.hid (HB8.out.trans (HW9.out.below HBL.out.2.1 HB8.out.size))
            have HFS9 : Hid (Fs base gr gf g f (a ++ [x]) a vb w9) := Lib.hid (HFS8.out.note HNM.out (by have := HM9.out; rwa [show a.length + 1 = (a ++ [x]).length by simp] at this) HW9.out)
            have HO9 := Lib.hid (HO8.out.touch HW9.out (by have := HGX2.out; have := HNM.out.g'; omega))
            have HBS9 : Hid (base ≤ w9.heap.size) := Lib.hid (Nat.le_trans HBS8.out HW9.out.size)
            clear q0 q1 q2 q3 HNT HM9 HW9 HB8 HO8 HFS8 HBS8
            have q0 := HO9.out.cell 0
            have q1 := HO9.out.cell 1
            have q2 := HO9.out.cell 2
            have q3 := HO9.out.cell 3
            have f6 := HFS9.out.of'.cell 6
            simp at q0 q1 q2 q3 f6
            have HROW := Lib.hid (HFS9.out.row.alloc (.cells (slL x).toArray TBS))
            go_upto_region 11 with (at_builtin; refine pushS _ rfl (.tmp 39) (.tmp 41) 25 rfl base TBS i0 (.agg #[.int .i64 0, .bool false, .int .i64 0, .int .i64 0]) 4 32 Try.underlying25 hi hz0 hz1 hz2 rfl (by decide) _ _ _ rfl HROW.out ⟨w9.heap.size, 0, none⟩ 1 1 (slL x) rfl rfl (cell_new w9 (slL x) TBS) (one_slL x) (by have := HAL.out; unfold maxLen; omega) (by have := HAL.out; omega) (by have := HBS9.out; simp; omega) ?_; intro v5 w5 O5 B5 G5 K5; obtain ⟨vA5, vd5, rfl⟩ := row_slice O5.out; have HFA := Lib.hid (HFS9.out.kept (bel1 w9 (.cells (slL x).toArray TBS))); have HFO := Lib.hid (Obj1.by HFA.out.of' G5.out (fun e => by have h1 := (HFA.out.row.lt gf e).1; have h2 := HNM.out.f'; omega)); have z6 := HFO.out.cell 6; have y6 := HFO.out.free 6; simp at z6)
            have HFS5 : Hid (Fs base gr gf g f (a ++ [x]) (a ++ [x]) (.slice vA5 (a.length + 1) vd5) (w5.setCell ⟨gf, 6, none⟩ (.slice vA5 (a.length + 1) vd5))) := Lib.hid (HFA.out.push HNM.out G5.out (by rw [slC_snoc, List.length_append, List.length_singleton]; exact O5.out))
            have HB5 : Hid (Below w.heap.size w (w5.setCell ⟨gf, 6, none⟩ (.slice vA5 (a.length + 1) vd5))) := Lib.hid (((HB9.out.alloc HB9.out.size _).trans (B5.out.mono (by have := HBL.out.2.2.1; omega))).setCell HBL.out.1 _)
            have HBS5 : Hid (base ≤ (w5.setCell ⟨gf, 6, none⟩ (.slice vA5 (a.length + 1) vd5)).heap.size) := Lib.hid (by have h1 := B5.out.size; have h2 := HBS9.out; simp [World.setCell] at h1 ⊢; omega)
            generalize w5.setCell ⟨gf, 6, none⟩ (.slice vA5 (a.length + 1) vd5) = w6 at HFS5 HB5 HBS5 ⊢
            clear q0 q1 q2 q3 f6 z6 y6 HFO HFA O5 B5 G5 K5 HROW
            go_wp2
            go_roundw
            case rel => exact ⟨k + 1, a ++ [x], .slice vA5 (a.length + 1) vd5, by omega, by go_num, HE2, HGA, HFS5, HBS5, HB5.out⟩
            case measure => simp [intOf]; omega
      · as_aux_lemma =>
        have hke : m = k := by omega
        subst hke
        have HE2 : Hid (a = E) := Lib.hid (by rw [← HC.out, List.drop_of_length_le (by rw [HW.out.len]; exact Nat.le_refl _)]; rfl)
        obtain ⟨vA, vd, rfl, hld, hsl⟩ := sls_own HFS.out.row rfl
        have hae := HE2.out
        have HSL : Hid (SlsAt wr vA E.length E) := Lib.hid (by rw [← hae]; exact hsl)
        have HLD : Hid (E.length ≤ vd) := Lib.hid (by rw [← hae]; exact hld)
        have HLN : Hid (a.length = E.length) := Lib.hid (by rw [hae])
        have HOF9 := Lib.hid HFS.out.of'
        have HOR9 := Lib.hid HFS.out.or'
        have HPT := Lib.hid HFS.out.pat
        rw [HLN.out] at HOF9
        clear hae hsl hld hbel HC HG HE2
        have f0 := HOF9.out.cell 0
        have f1 := HOF9.out.cell 1
        have f2 := HOF9.out.cell 2
        have f3 := HOF9.out.cell 3
        have f4 := HOF9.out.cell 4
        have f5 := HOF9.out.cell 5
        have f6 := HOF9.out.cell 6
        simp at f0 f1 f2 f3 f4 f5 f6
        go_wp2_with ((with_reducible show wpList _ _ _ (Oper.mk none _ _ _ _ _ :: _) _ _); refine wpList_store_row rfl TC _ _ rfl gr (f.cells (.slice vA E.length vd)) rfl rfl TC #[.int .i64 0, .int .i64 0, .bool false, .int .i64 0, .int .i64 0, .slice none 0 0, .slice none 0 0] HOR9.out (by kernel_rfl) rfl (by simp [Ft.cells, Value.oneCell']) ?_)
        have HW9 := Lib.hid (wrote_setRow (w := wr) HOR9.out (f.cells (.slice vA E.length vd)))
        generalize wr.setRow gr (f.cells (.slice vA E.length vd)) = we at HW9 ⊢
        have HE9 := Lib.hid HW9.out.1
        have HW9 := Lib.hid HW9.out.2
        clear f0 f1 f2 f3 f4 f5 f6
        have r0 : we.cell? ⟨gr, 0, none⟩ = some (.int .i64 f.kd) := HE9.out.cell 0
        have r1 : we.cell? ⟨gr, 1, none⟩ = some (.int .i64 f.fm) := HE9.out.cell 1
        have r2 : we.cell? ⟨gr, 2, none⟩ = some (.bool f.fy) := HE9.out.cell 2
        have r3 : we.cell? ⟨gr, 3, none⟩ = some (.int .i64 f.ln) := HE9.out.cell 3
        have r4 : we.cell? ⟨gr, 4, none⟩ = some (.int .i64 f.fr) := HE9.out.cell 4
        have r5 : we.cell? ⟨gr, 5, none⟩ = some (.slice f.A f.n f.c) := HE9.out.cell 5
        have r6 : we.cell? ⟨gr, 6, none⟩ = some (.slice vA E.length vd) := HE9.out.cell 6
        try rw [Exit.noGoto_ret]
        refine bodyPost_ret (v := .agg (f.cells (.slice vA E.length vd))) (by simp [results, Try.results12, go_sem, r0, r1, r2, r3, r4, r5, r6]) rfl ?_
        have hrow := HFS.out.row
        have HPN : Hid (∀ b off, f.A = some ⟨b, off, none⟩ → 0 < f.n → some gr ≠ some b) := Lib.hid (fun b off e hn e' => (HNM.out.p b off e hn).2.2.2 (Option.some.inj e').symm)
        refine ⟨f, vA, vd, rfl, HFP, Lib.hid (lst_by HPT.out HW9.out HPN.out), Lib.hid ?_, HLD, Lib.hid (HBEL.out.trans (HW9.out.below HBL.out.2.2.2 HBEL.out.size))⟩
        refine ⟨HSL.out.len, fun hn => ?_⟩
        obtain ⟨b, off, e, hlt, hc⟩ := HSL.out.at' hn
        refine ⟨b, off, e, Nat.lt_of_lt_of_le hlt HW9.out.size, fun i x hx j hj => ?_⟩
        rw [← hc i x hx j hj]
        refine World.cell?_of_block (HW9.out.block b hlt (fun e' => ?_))
        have h1 : base ≤ b := by
          rcases hrow.2 with ⟨e1, _⟩ | ⟨g2, cap, cur, e1, hb2, _⟩
          · injection e1 with e1 _ _; rw [e1] at e; cases e
          · injection e1 with e1 _ _; rw [e1] at e; injection e with e; injection e with e3 _ _; omega
        have h2 := HNM.out.r
        have h3 := Option.some.inj e'
        omega
  · have hrb : (r == 0) = false := by simpa using hr
    have HRN := Lib.hid hr
    clear hr
    as_aux_lemma =>
    go_upto_region 4 with (fail)
    obtain ⟨w4, HW4⟩ : ∃ w4, w4 = w2 := ⟨_, rfl⟩
    obtain ⟨f, HFt⟩ : ∃ f : Ft, Hid (f = ⟨0, 0, false, 0, 0, none, 0, 0, []⟩) := ⟨_, Lib.hid rfl⟩
    have HFP : Hid (FitP True r kd fm ln fr n xs f) := Lib.hid (by rw [HFt.out]; exact .inr ⟨HRN.out, rfl, rfl, rfl⟩)
    have HOF4 : Hid (Obj1 w4 gf TC (f.cells (.slice none 0 0))) := Lib.hid (by rw [HFt.out, HW4]; exact HOF2.out)
    have HOR4 : Hid (Obj1 w4 gr TC #[.int .i64 0, .int .i64 0, .bool false, .int .i64 0, .int .i64 0, .slice none 0 0, .slice none 0 0]) := Lib.hid (by rw [HW4]; exact HOR2.out)
    have HO4 : Hid (Obj1 w4 gb TC #[.int .i64 kd, .int .i64 fm, .bool fy, .int .i64 ln, .int .i64 fr, .slice A n c, .slice B m d]) := Lib.hid (by rw [HW4]; exact HO2.out)
    have HP4 : Hid (Lst w4 f.A f.n (f.xs.map (Value.int .u8))) := Lib.hid (by rw [HFt.out]; exact ⟨rfl, fun h => absurd h (Nat.lt_irrefl _)⟩)
    have HB4 : Hid (Below w.heap.size w w4) := Lib.hid (by rw [HW4]; exact HBW2.out)
    have HPB : Hid (∀ b off, f.A = some ⟨b, off, none⟩ → 0 < f.n → gf < b ∧ b < w4.heap.size) := Lib.hid (fun b off e hn => by rw [HFt.out] at e; cases e)
    rw [← HW4]
    clear HW4 HFt HO2 HOR2 HOF2 HBW2 HOF HOR HO1 hrb
    go_upto_region 5 with (fail)
    obtain ⟨g, HGM⟩ : ∃ g, Hid (w4.heap.size = g) := ⟨_, Lib.hid rfl⟩
    obtain ⟨W5, HW5⟩ : ∃ W5, W5 = w4.alloc (.map #[] 0) := ⟨_, rfl⟩
    have HB45 : Hid (Below w4.heap.size w4 W5) := Lib.hid (by rw [HW5]; exact bel1 _ _)
    have HM5 : Hid (MapN W5 g 0 []) := Lib.hid (by rw [HW5, ← HGM.out]; exact MapN.made _)
    have HB5 := Lib.hid (HB4.out.trans (HB45.out.mono HB4.out.size))
    have HO5 := Lib.hid (HO4.out.kept HB45.out)
    obtain ⟨base, HBA⟩ : ∃ base, Hid (W5.heap.size = base) := ⟨_, Lib.hid rfl⟩
    have HNM : Hid (Nm base gr gf g f) := Lib.hid (by
      have h1 := HOF4.out.lt
      have h2 := HOR4.out.lt
      have h3 := HM5.out.lt
      have h4 := HGM.out
      have h5 := HBA.out
      have h6 := HB45.out.size
      have h7 := HGF.out
      refine ⟨by omega, by omega, by omega, by omega, by omega, by omega, fun b off e hn => ?_⟩
      have := HPB.out b off e hn
      omega)
    have HBL : Hid (w.heap.size ≤ gf ∧ w.heap.size ≤ g ∧ w.heap.size ≤ base ∧ w.heap.size ≤ gr) := Lib.hid (by
      have := HB4.out.size
      have := HGM.out
      have := HBA.out
      have := HB45.out.size
      have := HGF.out
      have := HGR.out
      have := HGB.out
      omega)
    have HFS5 : Hid (Fs base gr gf g f [] [] (.slice none 0 0) W5) := Lib.hid ⟨HOF4.out.kept HB45.out, HOR4.out.kept HB45.out, HM5.out, ⟨rfl, .inl ⟨rfl, rfl⟩⟩, HP4.out.kept HB45.out⟩
    rw [← HW5, HGM.out]
    clear HW5 hmm HB45 HM5 HO4 HOF4 HOR4 HP4 HB4 HPB HGM HGB HGR HGF HSZ2 HB23 HB2 HB3
    have hbase : base ≤ W5.heap.size := by rw [HBA.out]; exact Nat.le_refl _
    have HBS := Lib.hid hbase
    clear hbase HBA
    have d6 := HO5.out.cell 6
    simp at d6
    go_upto_block 2 with (fail)
    clear d6
    go_wp2_with fail
    go_loopw [22] (fun i wx => ∃ (k : Nat) (a : List Slp) (v : Value), k ≤ m ∧ i = .int .i64 k ∧ Hid (fitA md a (ls.drop k) = E) ∧ Hid (Good md a ∧ a.length ≤ k) ∧ Hid (Fs base gr gf g f a a v wx) ∧ Hid (base ≤ wx.heap.size) ∧ Below w.heap.size w wx) (fun i _ => m - (intOf i).toNat)
    case atStart => exact ⟨0, [], _, by omega, rfl, Lib.hid (by simpa using HE.out), Lib.hid ⟨Good.nil md, by simp⟩, HFS5, HBS, HB5.out⟩
    case round =>
      clear HFS5 HBS HB5 HO5
      obtain ⟨k, a, vb, hk, rfl, HC, HG, HFS, HBS, hbel⟩ := hrel
      have HBEL := Lib.hid hbel
      by_cases hlt : k < m
      · as_aux_lemma =>
        have hki : (k : Int) < (m : Int) := by omega
        have hkl : k < ls.length := by rw [HW.out.len]; exact hlt
        obtain ⟨x, hx⟩ : ∃ x, ls[k]? = some x := ⟨_, List.getElem?_eq_getElem hkl⟩
        have HC' : Hid ((if (mayB x md && !nearL a x) = true then fitA md (a ++ [x]) (ls.drop (k + 1)) else fitA md a (ls.drop (k + 1))) = E) := Lib.hid (by
          have := HC.out
          rw [drop_next hx] at this
          exact this)
        have HGK : Hid (Good md a ∧ a.length ≤ k + 1) := Lib.hid ⟨HG.out.1, by have := HG.out.2; omega⟩
        obtain ⟨b, off, rfl, hb, k0, k1, k2, k3⟩ := (HW.out.kept hbel).four hlt hx
        clear hx hkl hb hbel HC
        go_upto_region 8 with (fail)
        obtain ⟨gx, HGX⟩ : ∃ gx, Hid (wr.heap.size = gx) := ⟨_, Lib.hid rfl⟩
        obtain ⟨W6, HW6⟩ : ∃ W6, W6 = wr.alloc (.cells #[.int .i64 x.m, .bool x.y, .int .i64 x.t, .int .i64 x.b] TBS) := ⟨_, rfl⟩
        have HOX : Hid (Obj1 W6 gx TBS #[.int .i64 x.m, .bool x.y, .int .i64 x.t, .int .i64 x.b]) := Lib.hid (by rw [HW6, ← HGX.out]; exact Obj1.new _ _ _)
        have HB6 : Hid (Below wr.heap.size wr W6) := Lib.hid (by rw [HW6]; exact bel1 _ _)
        have HBW6 := Lib.hid (HBEL.out.trans (HB6.out.mono HBEL.out.size))
        have HFS6 := Lib.hid (HFS.out.kept HB6.out)
        have HBS6 : Hid (base ≤ W6.heap.size) := Lib.hid (Nat.le_trans HBS.out HB6.out.size)
        have HGX2 : Hid (base ≤ gx) := Lib.hid (by rw [← HGX.out]; exact HBS.out)
        rw [← HW6, HGX.out]
        clear HW6 k0 k1 k2 k3 HB6 HFS HBEL HGX HBS
        have q0 := HOX.out.cell 0
        have q1 := HOX.out.cell 1
        have q2 := HOX.out.cell 2
        have q3 := HOX.out.cell 3
        simp at q0 q1 q2 q3
        have HMY := Lib.hid (fun W => may_any x md W)
        obtain ⟨q, HQ⟩ : ∃ q, Hid (mayB x md = q) := ⟨_, Lib.hid rfl⟩
        rw [HQ.out] at HMY
        go_wp2_with fail
        refine (HMY.out _).mono ?_
        rintro e w7 ⟨rfl, hb7⟩
        have HB7 := Lib.hid (HBW6.out.trans (hb7.mono HBW6.out.size))
        have HO7 := Lib.hid (HOX.out.kept hb7)
        have HFS7 := Lib.hid (HFS6.out.kept hb7)
        have HBS7 : Hid (base ≤ w7.heap.size) := Lib.hid (Nat.le_trans HBS6.out hb7.size)
        clear q0 q1 q2 q3 hb7 HMY HOX HFS6 HBW6 HBS6
        cases q with
        | false =>
          have HE2 : Hid (fitA md a (ls.drop (k + 1)) = E) := Lib.hid (by rw [← HC'.out, if_neg (by rw [HQ.out]; simp)])
          go_wp2
          go_roundw
          case rel => exact ⟨k + 1, a, vb, by omega, by go_num, HE2, HGK, HFS7, HBS7, HB7.out⟩
          case measure => simp [intOf]; omega
        | true =>
          have q0 := HO7.out.cell 0
          have q1 := HO7.out.cell 1
          have q2 := HO7.out.cell 2
          have q3 := HO7.out.cell 3
          simp at q0 q1 q2 q3
          have HNR := Lib.hid (near_any md g a.length a x w7 HFS7.out.mp HG.out.1 HQ.out hmd)
          obtain ⟨p, HP⟩ : ∃ p, Hid (nearL a x = p) := ⟨_, Lib.hid rfl⟩
          rw [HP.out] at HNR
          go_wp2_with fail
          refine HNR.out.mono ?_
          rintro e w8 ⟨rfl, hb8⟩
          have HB8 := Lib.hid (HB7.out.trans (hb8.mono HB7.out.size))
          have HO8 := Lib.hid (HO7.out.kept hb8)
          have HFS8 := Lib.hid (HFS7.out.kept hb8)
          have HBS8 : Hid (base ≤ w8.heap.size) := Lib.hid (Nat.le_trans HBS7.out hb8.size)
          clear q0 q1 q2 q3 hb8 HNR HO7 HFS7 HB7 HBS7
          cases p with
          | true =>
            have HE2 : Hid (fitA md a (ls.drop (k + 1)) = E) := Lib.hid (by rw [← HC'.out, if_neg (by rw [HQ.out, HP.out]; simp)])
            go_wp2
            go_roundw
            case rel => exact ⟨k + 1, a, vb, by omega, by go_num, HE2, HGK, HFS8, HBS8, HB8.out⟩
            case measure => simp [intOf]; omega
          | false =>
            have HE2 : Hid (fitA md (a ++ [x]) (ls.drop (k + 1)) = E) := Lib.hid (by rw [← HC'.out, if_pos (by rw [HQ.out, HP.out]; rfl)])
            have HGA : Hid (Good md (a ++ [x]) ∧ (a ++ [x]).length ≤ k + 1) := Lib.hid ⟨HG.out.1.snoc HQ.out HP.out, by have := HG.out.2; simp; omega⟩
            have HAL : Hid (a.length ≤ 900) := Lib.hid (by have := HG.out.2; omega)
            have q0 := HO8.out.cell 0
            have q1 := HO8.out.cell 1
            have q2 := HO8.out.cell 2
            have q3 := HO8.out.cell 3
            simp at q0 q1 q2 q3
            have HNT := Lib.hid (note_any md g a.length a x w8 HFS8.out.mp HQ.out hmd (by have := HAL.out; omega))
            go_wp2_with fail
            refine HNT.out.mono ?_
            rintro e w9 ⟨rfl, HM9, HW9⟩
            have HB9 := Lib.hid (HB8.out.trans (HW9.out.below HBL.out.2.1 HB8.out.size))
            have HFS9 : Hid (Fs base gr gf g f (a ++ [x]) a vb w9) := Lib.hid (HFS8.out.note HNM.out (by have := HM9.out; rwa [show a.length + 1 = (a ++ [x]).length by simp] at this) HW9.out)
            have HO9 := Lib.hid (HO8.out.touch HW9.out (by have := HGX2.out; have := HNM.out.g'; omega))
            have HBS9 : Hid (base ≤ w9.heap.size) := Lib.hid (Nat.le_trans HBS8.out HW9.out.size)
            clear q0 q1 q2 q3 HNT HM9 HW9 HB8 HO8 HFS8 HBS8
            have q0 := HO9.out.cell 0
            have q1 := HO9.out.cell 1
            have q2 := HO9.out.cell 2
            have q3 := HO9.out.cell 3
            have f6 := HFS9.out.of'.cell 6
            simp at q0 q1 q2 q3 f6
            have HROW := Lib.hid (HFS9.out.row.alloc (.cells (slL x).toArray TBS))
            go_upto_region 11 with (at_builtin; refine pushS _ rfl (.tmp 39) (.tmp 41) 25 rfl base TBS i0 (.agg #[.int .i64 0, .bool false, .int .i64 0, .int .i64 0]) 4 32 Try.underlying25 hi hz0 hz1 hz2 rfl (by decide) _ _ _ rfl HROW.out ⟨w9.heap.size, 0, none⟩ 1 1 (slL x) rfl rfl (cell_new w9 (slL x) TBS) (one_slL x) (by have := HAL.out; unfold maxLen; omega) (by have := HAL.out; omega) (by have := HBS9.out; simp; omega) ?_; intro v5 w5 O5 B5 G5 K5; obtain ⟨vA5, vd5, rfl⟩ := row_slice O5.out; have HFA := Lib.hid (HFS9.out.kept (bel1 w9 (.cells (slL x).toArray TBS))); have HFO := Lib.hid (Obj1.by HFA.out.of' G5.out (fun e => by have h1 := (HFA.out.row.lt gf e).1; have h2 := HNM.out.f'; omega)); have z6 := HFO.out.cell 6; have y6 := HFO.out.free 6; simp at z6)
            have HFS5 : Hid (Fs base gr gf g f (a ++ [x]) (a ++ [x]) (.slice vA5 (a.length + 1) vd5) (w5.setCell ⟨gf, 6, none⟩ (.slice vA5 (a.length + 1) vd5))) := Lib.hid (HFA.out.push HNM.out G5.out (by rw [slC_snoc, List.length_append, List.length_singleton]; exact O5.out))
            have HB5 : Hid (Below w.heap.size w (w5.setCell ⟨gf, 6, none⟩ (.slice vA5 (a.length + 1) vd5))) := Lib.hid (((HB9.out.alloc HB9.out.size _).trans (B5.out.mono (by have := HBL.out.2.2.1; omega))).setCell HBL.out.1 _)
            have HBS5 : Hid (base ≤ (w5.setCell ⟨gf, 6, none⟩ (.slice vA5 (a.length + 1) vd5)).heap.size) := Lib.hid (by have h1 := B5.out.size; have h2 := HBS9.out; simp [World.setCell] at h1 ⊢; omega)
            generalize w5.setCell ⟨gf, 6, none⟩ (.slice vA5 (a.length + 1) vd5) = w6 at HFS5 HB5 HBS5 ⊢
            clear q0 q1 q2 q3 f6 z6 y6 HFO HFA O5 B5 G5 K5 HROW
            go_wp2
            go_roundw
            case rel => exact ⟨k + 1, a ++ [x], .slice vA5 (a.length + 1) vd5, by omega, by go_num, HE2, HGA, HFS5, HBS5, HB5.out⟩
            case measure => simp [intOf]; omega
      · as_aux_lemma =>
        have hke : m = k := by omega
        subst hke
        have HE2 : Hid (a = E) := Lib.hid (by rw [← HC.out, List.drop_of_length_le (by rw [HW.out.len]; exact Nat.le_refl _)]; rfl)
        obtain ⟨vA, vd, rfl, hld, hsl⟩ := sls_own HFS.out.row rfl
        have hae := HE2.out
        have HSL : Hid (SlsAt wr vA E.length E) := Lib.hid (by rw [← hae]; exact hsl)
        have HLD : Hid (E.length ≤ vd) := Lib.hid (by rw [← hae]; exact hld)
        have HLN : Hid (a.length = E.length) := Lib.hid (by rw [hae])
        have HOF9 := Lib.hid HFS.out.of'
        have HOR9 := Lib.hid HFS.out.or'
        have HPT := Lib.hid HFS.out.pat
        rw [HLN.out] at HOF9
        clear hae hsl hld hbel HC HG HE2
        have f0 := HOF9.out.cell 0
        have f1 := HOF9.out.cell 1
        have f2 := HOF9.out.cell 2
        have f3 := HOF9.out.cell 3
        have f4 := HOF9.out.cell 4
        have f5 := HOF9.out.cell 5
        have f6 := HOF9.out.cell 6
        simp at f0 f1 f2 f3 f4 f5 f6
        go_wp2_with ((with_reducible show wpList _ _ _ (Oper.mk none _ _ _ _ _ :: _) _ _); refine wpList_store_row rfl TC _ _ rfl gr (f.cells (.slice vA E.length vd)) rfl rfl TC #[.int .i64 0, .int .i64 0, .bool false, .int .i64 0, .int .i64 0, .slice none 0 0, .slice none 0 0] HOR9.out (by kernel_rfl) rfl (by simp [Ft.cells, Value.oneCell']) ?_)
        have HW9 := Lib.hid (wrote_setRow (w := wr) HOR9.out (f.cells (.slice vA E.length vd)))
        generalize wr.setRow gr (f.cells (.slice vA E.length vd)) = we at HW9 ⊢
        have HE9 := Lib.hid HW9.out.1
        have HW9 := Lib.hid HW9.out.2
        clear f0 f1 f2 f3 f4 f5 f6
        have r0 : we.cell? ⟨gr, 0, none⟩ = some (.int .i64 f.kd) := HE9.out.cell 0
        have r1 : we.cell? ⟨gr, 1, none⟩ = some (.int .i64 f.fm) := HE9.out.cell 1
        have r2 : we.cell? ⟨gr, 2, none⟩ = some (.bool f.fy) := HE9.out.cell 2
        have r3 : we.cell? ⟨gr, 3, none⟩ = some (.int .i64 f.ln) := HE9.out.cell 3
        have r4 : we.cell? ⟨gr, 4, none⟩ = some (.int .i64 f.fr) := HE9.out.cell 4
        have r5 : we.cell? ⟨gr, 5, none⟩ = some (.slice f.A f.n f.c) := HE9.out.cell 5
        have r6 : we.cell? ⟨gr, 6, none⟩ = some (.slice vA E.length vd) := HE9.out.cell 6
        try rw [Exit.noGoto_ret]
        refine bodyPost_ret (v := .agg (f.cells (.slice vA E.length vd))) (by simp [results, Try.results12, go_sem, r0, r1, r2, r3, r4, r5, r6]) rfl ?_
        have hrow := HFS.out.row
        have HPN : Hid (∀ b off, f.A = some ⟨b, off, none⟩ → 0 < f.n → some gr ≠ some b) := Lib.hid (fun b off e hn e' => (HNM.out.p b off e hn).2.2.2 (Option.some.inj e').symm)
        refine ⟨f, vA, vd, rfl, HFP, Lib.hid (lst_by HPT.out HW9.out HPN.out), Lib.hid ?_, HLD, Lib.hid (HBEL.out.trans (HW9.out.below HBL.out.2.2.2 HBEL.out.size))⟩
        refine ⟨HSL.out.len, fun hn => ?_⟩
        obtain ⟨b, off, e, hlt, hc⟩ := HSL.out.at' hn
        refine ⟨b, off, e, Nat.lt_of_lt_of_le hlt HW9.out.size, fun i x hx j hj => ?_⟩
        rw [← hc i x hx j hj]
        refine World.cell?_of_block (HW9.out.block b hlt (fun e' => ?_))
        have h1 : base ≤ b := by
          rcases hrow.2 with ⟨e1, _⟩ | ⟨g2, cap, cur, e1, hb2, _⟩
          · injection e1 with e1 _ _; rw [e1] at e; cases e
          · injection e1 with e1 _ _; rw [e1] at e; injection e with e; injection e with e3 _ _; omega
        have h2 := HNM.out.r
        have h3 := Option.some.inj e'
        omega
end Go.Proofs.Ytejhjpdcodloaaa.Ly21
