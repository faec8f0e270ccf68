/- What the document's own walk over events holds, in memory; what stays where a list is put in another's place; no condition. -/
import Derived.Test.YtanhblokhcaoiaaDoorTrcV
namespace Go.Proofs.YtanhblokhcaoiaaDoor.Tr
open Go.ChangeShapes Go.WideShapes Go.ChangeAt Go.RowKit Base Go.Maps
open Hl (Ev TE TI EvsAt evL evC)
set_option linter.unusedVariables false
set_option linter.unusedSimpArgs false

abbrev T40 : TypeId := 40
/-- What the document's own walk holds. -/
structure LW (w0 w : World) (base N : Nat) (v5 v6 v7 v8 v9 : Value) (fs : List Ev) (sv tv mv : List Value) (bs : List Ev) (ps : List Pw) : Prop where
  rows : Beside w base [⟨TE, 8, v5, N, evC fs⟩, ⟨T40, 1, v6, N, sv⟩, ⟨T40, 1, v7, N, tv⟩, ⟨T40, 1, v8, N, mv⟩, ⟨TE, 8, v9, N, evC bs⟩]
  ss : Subs w base sv (ps.map (·.ss))
  ts : Subs w base tv (ps.map (·.ts))
  ms : Subs w base mv (ps.map (·.ms))
  best : bs.length = N ∧ ∀ (j : Nat) (b : Ev) (p : Pw), bs[j]? = some b → ps[j]? = some p → b.c = p.c ∧ Lst w0 b.A b.n (p.ws.map bV) ∧ b.n ≤ 40
  len : fs.length = N ∧ ps.length = N
theorem LW.kept {w0 w w' : World} {base N : Nat} {v5 v6 v7 v8 v9 : Value} {fs : List Ev} {sv tv mv : List Value} {bs : List Ev} {ps : List Pw} (h : LW w0 w base N v5 v6 v7 v8 v9 fs sv tv mv bs ps) (hb : Below w.heap.size w w') : LW w0 w' base N v5 v6 v7 v8 v9 fs sv tv mv bs ps :=
  ⟨h.rows.kept hb, h.ss.kept hb, h.ts.kept hb, h.ms.kept hb, h.best, h.len⟩
theorem LW.nil (w0 w : World) (base : Nat) : LW w0 w base 0 nilS nilS nilS nilS nilS [] [] [] [] [] [] := by
  refine ⟨⟨fun i it hi => ?_, fun i j a b hij ha hb k hk => ?_⟩, ⟨rfl, fun i v l hv => by simp at hv⟩, ⟨rfl, fun i v l hv => by simp at hv⟩, ⟨rfl, fun i v l hv => by simp at hv⟩, ⟨rfl, fun j b p hb => by simp at hb⟩, rfl, rfl⟩
  · have := List.mem_of_getElem? hi
    simp at this
    rcases this with rfl | rfl | rfl | rfl <;> exact ⟨rfl, .inl ⟨rfl, rfl⟩⟩
  · have := List.mem_of_getElem? ha
    simp at this
    rcases this with rfl | rfl | rfl | rfl <;> cases hk
theorem fs_cell {w : World} {base N c b5 : Nat} {fs : List Ev} (h : w.ownsRow base TE 8 (.slice (some ⟨b5, 0, none⟩) N c) N (evC fs)) {j : Nat} {f : Ev} (hf : fs[j]? = some f) {i : Nat} (hi : i < 8) : w.cell? ⟨b5, j * 8 + i, none⟩ = (evL f)[i]? := by
  have h1 := Hl.evC_at fs j i f hf hi
  have h2 : i < (evL f).length := hi
  rw [List.getElem?_eq_getElem h2] at h1 ⊢
  exact (row_cellN h h1).1
theorem snoc_e (l : List Ev) (e : Ev) : evC (l ++ [e]) = evC l ++ evL e := Hl.evC_snoc l e
abbrev bZ : Ev := ⟨0, 0, 0, 0, 0, 0, -1, none, 0, 0⟩
theorem one_nil : ∀ u ∈ ([.slice none 0 0] : List Value), u.oneCell' = true := by intro u hu; simp at hu; subst hu; rfl
theorem one_bZ : ∀ u ∈ ([.int .i64 0, .int .i64 0, .int .i64 0, .int .i64 0, .int .i64 0, .int .i64 0, .int .i64 (-1), .slice none 0 0] : List Value), u.oneCell' = true := Hl.one_evL bZ
theorem map_set_same {α β : Type} {l : List α} {k : Nat} {x y : α} (f : α → β) (hx : l[k]? = some x) (h : f y = f x) : (l.set k y).map f = l.map f := by
  refine List.ext_getElem? (fun i => ?_)
  rw [List.getElem?_map, List.getElem?_map, List.getElem?_set]
  by_cases hi : k = i
  · subst hi
    rw [if_pos rfl, if_pos (List.getElem?_eq_some_iff.1 hx).1, hx]
    simp [h]
  · rw [if_neg hi]
theorem takeP_ok {p : Pw} {e : Ev} {vs : List Nat} (h : PwOk p) : PwOk (takeP p e vs) := by
  obtain ⟨h1, h2, h3⟩ := h
  unfold takeP
  split
  · exact ⟨ins_sorted h1, h2, h3⟩
  · split
    · exact ⟨h1, h2, ins_sorted h3⟩
    · split
      · split
        · exact ⟨h1, ins_sorted h2, h3⟩
        · exact ⟨h1, ins_sorted h2, h3⟩
      · exact ⟨h1, h2, h3⟩
theorem addP_ok {fs : List Ev} {ps : List Pw} {e : Ev} (h : ∀ p ∈ ps, PwOk p) : ∀ p ∈ addP fs ps e, PwOk p := by
  unfold addP
  split
  · intro p hp
    rcases List.mem_append.1 hp with hp | hp
    · exact h p hp
    · simp at hp
      subst hp
      exact ⟨List.Pairwise.nil, List.Pairwise.nil, List.Pairwise.nil⟩
  · exact h
/-- The lists of the windows rise. -/
theorem stp_ok {z : List Ev × List Pw} {a : EW} (h : ∀ p ∈ z.2, PwOk p) : ∀ p ∈ (stp z a).2, PwOk p := by
  unfold stp
  split
  · have h2 := addP_ok (fs := z.1) (e := a.1) h
    show ∀ p ∈ (match (addP z.1 z.2 a.1)[(wn z.1 a.1).toNat]? with | some p => (addP z.1 z.2 a.1).set (wn z.1 a.1).toNat (takeP p a.1 a.2) | none => addP z.1 z.2 a.1), PwOk p
    cases hp : (addP z.1 z.2 a.1)[(wn z.1 a.1).toNat]? with
    | none => exact h2
    | some p =>
      intro q hq
      rcases List.mem_or_eq_of_mem_set hq with hq | rfl
      · exact h2 q hq
      · exact takeP_ok (h2 p (List.mem_of_getElem? hp))
  · exact h
theorem run_ok (ls : List EW) : ∀ p ∈ (runP ls).2, PwOk p := by
  unfold runP
  have : ∀ (ls : List EW) (z : List Ev × List Pw), (∀ p ∈ z.2, PwOk p) → ∀ p ∈ (ls.foldl stp z).2, PwOk p := by
    intro ls
    induction ls with
    | nil => intro z h; exact h
    | cons a r ih => intro z h; exact ih _ (stp_ok h)
  exact this ls ([], []) (fun p hp => by cases hp)
theorem St.of {w0 w : World} {base N : Nat} {v5 v6 v7 v8 v9 : Value} {fs : List Ev} {sv tv mv : List Value} {bs : List Ev} {ps : List Pw} (h : LW w0 w base N v5 v6 v7 v8 v9 fs sv tv mv bs ps) :
    St w base [⟨TE, 8, v5, N, evC fs⟩, ⟨T40, 1, v6, N, sv⟩, ⟨T40, 1, v7, N, tv⟩, ⟨T40, 1, v8, N, mv⟩, ⟨TE, 8, v9, N, evC bs⟩] sv tv mv (ps.map (·.ss)) (ps.map (·.ts)) (ps.map (·.ms)) := ⟨h.rows, h.ss, h.ts, h.ms⟩
/-- A window more, of which nothing is known yet. -/
theorem LW.more {w0 w w' : World} {base N : Nat} {v5 v6 v7 v8 v9 u5 u6 u7 u8 u9 : Value} {fs : List Ev} {sv tv mv : List Value} {bs : List Ev} {ps : List Pw} {e : Ev} (h : LW w0 w base N v5 v6 v7 v8 v9 fs sv tv mv bs ps)
    (hs : St w' base [⟨TE, 8, u5, N + 1, evC (fs ++ [e])⟩, ⟨T40, 1, u6, N + 1, sv ++ [nilS]⟩, ⟨T40, 1, u7, N + 1, tv ++ [nilS]⟩, ⟨T40, 1, u8, N + 1, mv ++ [nilS]⟩, ⟨TE, 8, u9, N + 1, evC (bs ++ [bZ])⟩] sv tv mv (ps.map (·.ss)) (ps.map (·.ts)) (ps.map (·.ms))) :
    LW w0 w' base (N + 1) u5 u6 u7 u8 u9 (fs ++ [e]) (sv ++ [nilS]) (tv ++ [nilS]) (mv ++ [nilS]) (bs ++ [bZ]) (ps ++ [P0 e]) where
  rows := hs.be
  ss := by rw [List.map_append]; exact hs.ss.snoc
  ts := by rw [List.map_append]; exact hs.ts.snoc
  ms := by rw [List.map_append]; exact hs.ms.snoc
  best := by
    refine ⟨by simp [h.best.1], fun j b p hb hp => ?_⟩
    rcases get_snoc hb with ⟨hj, hb⟩ | ⟨hj, rfl⟩
    · rw [List.getElem?_append_left (by rw [h.len.2, ← h.best.1]; exact hj)] at hp
      exact h.best.2 j b p hb hp
    · subst hj
      rw [h.best.1, ← h.len.2, List.getElem?_append_right (Nat.le_refl _)] at hp
      simp at hp
      subst hp
      exact ⟨rfl, ⟨rfl, fun h => absurd h (Nat.lt_irrefl _)⟩, Nat.zero_le _⟩
  len := by simp [h.len.1, h.len.2]
/-- One of the lists is put in another's place. -/
theorem LW.setS {w0 w w1 : World} {base N b6 c6 J : Nat} {v5 v7 v8 v9 v : Value} {fs : List Ev} {sv tv mv : List Value} {bs : List Ev} {ps : List Pw} {p q : Pw} (h : LW w0 w base N v5 (.slice (some ⟨b6, 0, none⟩) N c6) v7 v8 v9 fs sv tv mv bs ps) (hp : ps[J]? = some p) (hb : Below w.heap.size w w1)
    (ho : w1.ownsRow base TI 1 v q.ss.length (q.ss.map iV)) (ht : q.ts = p.ts) (hm : q.ms = p.ms) (hc : q.c = p.c) (hw : q.ws = p.ws) :
    LW w0 (w1.setCell ⟨b6, J, none⟩ v) base N v5 (.slice (some ⟨b6, 0, none⟩) N c6) v7 v8 v9 fs (sv.set J v) tv mv bs (ps.set J q) := by
  have h1 := h.kept hb
  have hW : Wrote b6 w1 (w1.setCell ⟨b6, J, none⟩ v) := (Wrote.refl b6 w1).set (.inl rfl) v
  have hown := h1.rows.own 1 _ rfl
  have hS := (St.of h1).grow (k := 1) rfl (show T40 ≠ TI from by decide) hW (it' := ⟨T40, 1, .slice (some ⟨b6, 0, none⟩) N c6, N, sv.set J v⟩) (row_setN hown J v) (.inl rfl)
  have hov : (w1.setCell ⟨b6, J, none⟩ v).ownsRow base TI 1 v q.ss.length (q.ss.map iV) := keep_nb (vr := .slice (some ⟨b6, 0, none⟩) N c6) ho hW (nb_type ho hown (show TI ≠ T40 from by decide))
  refine ⟨hS.be, ?_, ?_, ?_, ⟨h.best.1, fun j b z hbj hz => ?_⟩, h.len.1, by rw [List.length_set]; exact h.len.2⟩
  · rw [List.map_set]; exact hS.ss.set hov
  · rw [map_set_same (·.ts) hp ht]; exact hS.ts
  · rw [map_set_same (·.ms) hp hm]; exact hS.ms
  · rw [List.getElem?_set] at hz
    by_cases hj : J = j
    · subst hj
      rw [if_pos rfl, if_pos (List.getElem?_eq_some_iff.1 hp).1] at hz
      injection hz with hz
      subst hz
      rw [hc, hw]
      exact h.best.2 J b p hbj hp
    · rw [if_neg hj] at hz
      exact h.best.2 j b z hbj hz
theorem LW.setT {w0 w w1 : World} {base N b7 c7 J : Nat} {v5 v6 v8 v9 v : Value} {fs : List Ev} {sv tv mv : List Value} {bs : List Ev} {ps : List Pw} {p q : Pw} (h : LW w0 w base N v5 v6 (.slice (some ⟨b7, 0, none⟩) N c7) v8 v9 fs sv tv mv bs ps) (hp : ps[J]? = some p) (hb : Below w.heap.size w w1)
    (ho : w1.ownsRow base TI 1 v q.ts.length (q.ts.map iV)) (hs : q.ss = p.ss) (hm : q.ms = p.ms) (hc : q.c = p.c) (hw : q.ws = p.ws) :
    LW w0 (w1.setCell ⟨b7, J, none⟩ v) base N v5 v6 (.slice (some ⟨b7, 0, none⟩) N c7) v8 v9 fs sv (tv.set J v) mv bs (ps.set J q) := by
  have h1 := h.kept hb
  have hW : Wrote b7 w1 (w1.setCell ⟨b7, J, none⟩ v) := (Wrote.refl b7 w1).set (.inl rfl) v
  have hown := h1.rows.own 2 _ rfl
  have hS := (St.of h1).grow (k := 2) rfl (show T40 ≠ TI from by decide) hW (it' := ⟨T40, 1, .slice (some ⟨b7, 0, none⟩) N c7, N, tv.set J v⟩) (row_setN hown J v) (.inl rfl)
  have hov : (w1.setCell ⟨b7, J, none⟩ v).ownsRow base TI 1 v q.ts.length (q.ts.map iV) := keep_nb (vr := .slice (some ⟨b7, 0, none⟩) N c7) ho hW (nb_type ho hown (show TI ≠ T40 from by decide))
  refine ⟨hS.be, ?_, ?_, ?_, ⟨h.best.1, fun j b z hbj hz => ?_⟩, h.len.1, by rw [List.length_set]; exact h.len.2⟩
  · rw [map_set_same (·.ss) hp hs]; exact hS.ss
  · rw [List.map_set]; exact hS.ts.set hov
  · rw [map_set_same (·.ms) hp hm]; exact hS.ms
  · rw [List.getElem?_set] at hz
    by_cases hj : J = j
    · subst hj
      rw [if_pos rfl, if_pos (List.getElem?_eq_some_iff.1 hp).1] at hz
      injection hz with hz
      subst hz
      rw [hc, hw]
      exact h.best.2 J b p hbj hp
    · rw [if_neg hj] at hz
      exact h.best.2 j b z hbj hz
theorem LW.setM {w0 w w1 : World} {base N b8 c8 J : Nat} {v5 v6 v7 v9 v : Value} {fs : List Ev} {sv tv mv : List Value} {bs : List Ev} {ps : List Pw} {p q : Pw} (h : LW w0 w base N v5 v6 v7 (.slice (some ⟨b8, 0, none⟩) N c8) v9 fs sv tv mv bs ps) (hp : ps[J]? = some p) (hb : Below w.heap.size w w1)
    (ho : w1.ownsRow base TI 1 v q.ms.length (q.ms.map iV)) (hs : q.ss = p.ss) (ht : q.ts = p.ts) (hc : q.c = p.c) (hw : q.ws = p.ws) :
    LW w0 (w1.setCell ⟨b8, J, none⟩ v) base N v5 v6 v7 (.slice (some ⟨b8, 0, none⟩) N c8) v9 fs sv tv (mv.set J v) bs (ps.set J q) := by
  have h1 := h.kept hb
  have hW : Wrote b8 w1 (w1.setCell ⟨b8, J, none⟩ v) := (Wrote.refl b8 w1).set (.inl rfl) v
  have hown := h1.rows.own 3 _ rfl
  have hS := (St.of h1).grow (k := 3) rfl (show T40 ≠ TI from by decide) hW (it' := ⟨T40, 1, .slice (some ⟨b8, 0, none⟩) N c8, N, mv.set J v⟩) (row_setN hown J v) (.inl rfl)
  have hov : (w1.setCell ⟨b8, J, none⟩ v).ownsRow base TI 1 v q.ms.length (q.ms.map iV) := keep_nb (vr := .slice (some ⟨b8, 0, none⟩) N c8) ho hW (nb_type ho hown (show TI ≠ T40 from by decide))
  refine ⟨hS.be, ?_, ?_, ?_, ⟨h.best.1, fun j b z hbj hz => ?_⟩, h.len.1, by rw [List.length_set]; exact h.len.2⟩
  · rw [map_set_same (·.ss) hp hs]; exact hS.ss
  · rw [map_set_same (·.ts) hp ht]; exact hS.ts
  · rw [List.map_set]; exact hS.ms.set hov
  · rw [List.getElem?_set] at hz
    by_cases hj : J = j
    · subst hj
      rw [if_pos rfl, if_pos (List.getElem?_eq_some_iff.1 hp).1] at hz
      injection hz with hz
      subst hz
      rw [hc, hw]
      exact h.best.2 J b p hbj hp
    · rw [if_neg hj] at hz
      exact h.best.2 j b z hbj hz
end Go.Proofs.YtanhblokhcaoiaaDoor.Tr
