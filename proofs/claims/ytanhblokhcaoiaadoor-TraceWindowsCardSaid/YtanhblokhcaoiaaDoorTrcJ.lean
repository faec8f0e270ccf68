/- Windows of messages in memory, each with lists of its own: what stays where one of these is written; no condition. -/
import Derived.Test.YtanhblokhcaoiaaDoorTrcI
namespace Go.Proofs.YtanhblokhcaoiaaDoor.Tr
open Go.ChangeShapes Go.WideShapes Go.ChangeAt Go.RowKit Base Go.Maps
open Hl (Ev TE TI)
set_option linter.unusedVariables false
set_option linter.unusedSimpArgs false

/-- A window: what it says. -/
structure Pw where
  s : Int
  v : Int
  t : Int
  c : Int
  ss : List Int
  ts : List Int
  ms : List Int
  ws : List Nat
/-- .. and where its lists stand. -/
structure Wm where
  p : Pw
  sv : Value
  tv : Value
  mv : Value
  wv : Value
abbrev TW : TypeId := 63
def wmL (x : Wm) : List Value := [.int .i64 x.p.s, .int .i64 x.p.v, .int .i64 x.p.t, x.sv, x.tv, x.mv, .int .i64 x.p.c, x.wv]
def wmC (l : List Wm) : List Value := (l.map wmL).flatten
theorem wmC_snoc (l : List Wm) (x : Wm) : wmC (l ++ [x]) = wmC l ++ wmL x := by simp [wmC]
theorem wmC_len : ∀ l : List Wm, (wmC l).length = l.length * 8
  | [] => rfl
  | x :: r => by
    show (wmL x ++ wmC r).length = _
    rw [List.length_append, wmC_len r]
    simp [wmL]
    omega
theorem wmC_at : ∀ (l : List Wm) (i j : Nat) (x : Wm), l[i]? = some x → j < 8 → (wmC l)[i * 8 + j]? = (wmL x)[j]?
  | [], i, j, x, h, _ => by simp at h
  | z :: r, 0, j, x, h, hj => by
    simp at h
    subst h
    show (wmL z ++ wmC r)[0 * 8 + j]? = _
    rw [Nat.zero_mul, Nat.zero_add, List.getElem?_append_left (by simpa [wmL] using hj)]
  | z :: r, i + 1, j, x, h, hj => by
    have := wmC_at r i j x (by simpa using h) hj
    show (wmL z ++ wmC r)[(i + 1) * 8 + j]? = _
    rw [List.getElem?_append_right (by simp [wmL]; omega), show (i + 1) * 8 + j - (wmL z).length = i * 8 + j by simp [wmL]; omega]
    exact this
theorem wmC_set : ∀ (l : List Wm) (i j : Nat) (x x' : Wm) (u : Value), l[i]? = some x → j < 8 → wmL x' = (wmL x).set j u → wmC (l.set i x') = (wmC l).set (i * 8 + j) u
  | [], i, j, x, x', u, h, _, _ => by simp at h
  | z :: r, 0, j, x, x', u, h, hj, he => by
    simp at h
    subst h
    show wmL x' ++ wmC r = (wmL z ++ wmC r).set (0 * 8 + j) u
    rw [Nat.zero_mul, Nat.zero_add, List.set_append_left _ _ (by simpa [wmL] using hj), he]
  | z :: r, i + 1, j, x, x', u, h, hj, he => by
    have := wmC_set r i j x x' u (by simpa using h) hj he
    show wmL z ++ wmC (r.set i x') = (wmL z ++ wmC r).set ((i + 1) * 8 + j) u
    rw [List.set_append_right _ _ (by simp [wmL]; omega), show (i + 1) * 8 + j - (wmL z).length = i * 8 + j by simp [wmL]; omega, this]
theorem row_setN {w : World} {base s : Nat} {T : TypeId} {g cap n : Nat} {xs : List Value} (h : w.ownsRow base T s (.slice (some ⟨g, 0, none⟩) n cap) n xs) (i : Nat) (v : Value) : (w.setCell ⟨g, i, none⟩ v).ownsRow base T s (.slice (some ⟨g, 0, none⟩) n cap) n (xs.set i v) := by
  refine ⟨by rw [List.length_set]; exact h.1, ?_⟩
  rcases h.2 with ⟨e, _⟩ | ⟨g', cap', cur, e, hb, hg, hnc, hcm, hcs, ht⟩
  · cases e
  · injection e with e1 e2 e3
    injection e1 with e1
    injection e1 with e1 _ _
    subst e1
    subst e3
    have hO : Obj1 w g T cur := hg
    exact .inr ⟨g, cap, cur.setIfInBounds i v, rfl, hb, hO.set i v, hnc, hcm, by simpa using hcs, by rw [Array.toList_setIfInBounds, List.take_set, ht]⟩
theorem row_cellN {w : World} {base s : Nat} {T : TypeId} {g cap n : Nat} {xs : List Value} (h : w.ownsRow base T s (.slice (some ⟨g, 0, none⟩) n cap) n xs) {i : Nat} {v : Value} (hv : xs[i]? = some v) : w.cell? ⟨g, i, none⟩ = some v ∧ w.frozen? ⟨g, i, none⟩ = false := by
  rcases h.2 with ⟨e, _⟩ | ⟨g', cap', cur, e, hb, hg, hnc, hcm, hcs, ht⟩
  · cases e
  · injection e with e1 e2 e3
    injection e1 with e1
    injection e1 with e1 _ _
    subst e1
    have hO : Obj1 w g T cur := hg
    refine ⟨?_, hO.free i⟩
    rw [hO.cell, ← hv, ← ht]
    have hi : i < n * s := by rw [← h.1]; exact (List.getElem?_eq_some_iff.1 hv).1
    rw [List.getElem?_take_of_lt hi, Array.getElem?_toList]

/-! ### Whose is whose -/

def sub (x : Wm) (f : Nat) : Value := if f = 0 then x.sv else if f = 1 then x.tv else if f = 2 then x.mv else if f = 3 then x.wv else .bool true
def subL (x : Wm) (f : Nat) : List Value := if f = 0 then x.p.ss.map iV else if f = 1 then x.p.ts.map iV else if f = 2 then x.p.ms.map iV else x.p.ws.map bV
def subT (f : Nat) : TypeId := if f = 3 then TU8 else TI
def rowOk (w : World) (base : Nat) (x : Wm) (f : Nat) : Prop := w.ownsRow base (subT f) 1 (sub x f) (subL x f).length (subL x f)
abbrev Key : Type := Option (Nat × Nat)
def bk (RV : Value) (l : List Wm) : Key → Option Nat
  | none => RV.ownBlock
  | some (i, f) => match l[i]? with
    | some x => (sub x f).ownBlock
    | none => none
def Apart (f : Key → Option Nat) : Prop := ∀ a b, a ≠ b → ∀ k, f a = some k → f b = some k → False
theorem Apart.upd {f f' : Key → Option Nat} (h : Apart f) (k0 : Key) (hs : ∀ a, a ≠ k0 → f' a = f a) (hn : f' k0 = f k0 ∨ ∀ k, f' k0 = some k → ∀ a, f a ≠ some k) : Apart f' := by
  intro a b hab k ha hb
  by_cases e1 : a = k0
  · subst e1
    rw [hs b (Ne.symm hab)] at hb
    rcases hn with hn | hn
    · rw [hn] at ha
      exact h a b hab k ha hb
    · exact hn k ha b hb
  · rw [hs a e1] at ha
    by_cases e2 : b = k0
    · subst e2
      rcases hn with hn | hn
      · rw [hn] at hb
        exact h a b hab k ha hb
      · exact hn k hb a ha
    · rw [hs b e2] at hb
      exact h a b hab k ha hb
def PwOk (p : Pw) : Prop := p.ss.Pairwise (· < ·) ∧ p.ts.Pairwise (· < ·) ∧ p.ms.Pairwise (· < ·)
/-- Windows in memory. -/
structure WsAt (w : World) (base : Nat) (RV : Value) (l : List Wm) : Prop where
  own : w.ownsRow base TW 8 RV l.length (wmC l)
  row : ∀ (i : Nat) (x : Wm), l[i]? = some x → ∀ f, f < 4 → rowOk w base x f
  apart : Apart (bk RV l)
  ok : ∀ x ∈ l, PwOk x.p
theorem sub_none {x : Wm} {f : Nat} (h : ¬ f < 4) : (sub x f).ownBlock = none := by
  unfold sub
  rw [if_neg (by omega), if_neg (by omega), if_neg (by omega), if_neg (by omega)]
  rfl
theorem WsAt.lt {w : World} {base : Nat} {RV : Value} {l : List Wm} (h : WsAt w base RV l) : ∀ a k, bk RV l a = some k → base ≤ k ∧ k < w.heap.size
  | none, k, e => h.own.lt k e
  | some (i, f), k, e => by
    unfold bk at e
    cases hx : l[i]? with
    | none => simp only [hx] at e; cases e
    | some x =>
      simp only [hx] at e
      by_cases hf : f < 4
      · exact (h.row i x hx f hf).lt k e
      · rw [sub_none hf] at e; cases e
theorem WsAt.kept {w w' : World} {base : Nat} {RV : Value} {l : List Wm} (h : WsAt w base RV l) {row : Option Nat} (hg : w.grownBy w' row) (hr : ∀ g, row = some g → g < base) : WsAt w' base RV l where
  own := h.own.kept hg (by
    cases e : RV.ownBlock with
    | none => exact .inl rfl
    | some k => refine .inr (fun e' => ?_); have := h.own.lt k e; have := hr k e'.symm; omega)
  row := fun i x hx f hf => (h.row i x hx f hf).kept hg (by
    cases e : (sub x f).ownBlock with
    | none => exact .inl rfl
    | some k => refine .inr (fun e' => ?_); have := (h.row i x hx f hf).lt k e; have := hr k e'.symm; omega)
  apart := h.apart
  ok := h.ok
theorem WsAt.below {w w' : World} {base : Nat} {RV : Value} {l : List Wm} (h : WsAt w base RV l) (hb : Below w.heap.size w w') : WsAt w' base RV l := h.kept (row := none) (grown_of hb) (fun g e => by cases e)
/-- Whose block it is: the same, or nobody's yet. -/
def NewB (RV : Value) (l : List Wm) (v v' : Value) : Prop := v'.ownBlock = v.ownBlock ∨ ∀ k, v'.ownBlock = some k → ∀ a, bk RV l a ≠ some k
theorem WsAt.newB {w : World} {base : Nat} {RV : Value} {l : List Wm} (h : WsAt w base RV l) {v v' : Value} (hG : Grow w v v') : NewB RV l v v' := by
  rcases hG with e | ⟨g, e, hge⟩
  · exact .inl e
  · refine .inr (fun k hk a ha => ?_)
    rw [e] at hk
    injection hk with hk
    have := (h.lt a k ha).2
    omega
theorem WsAt.ownKept {w w1 : World} {base b N cap i f : Nat} {l : List Wm} {x : Wm} (h : WsAt w base (.slice (some ⟨b, 0, none⟩) N cap) l) (hx : l[i]? = some x) (hg : w.grownBy w1 (sub x f).ownBlock) : w1.ownsRow base TW 8 (.slice (some ⟨b, 0, none⟩) N cap) l.length (wmC l) :=
  h.own.kept hg (.inr (fun e => h.apart none (some (i, f)) (by simp) b rfl (by simp only [bk, hx]; exact e.symm)))
theorem bk_same {RV : Value} {l : List Wm} {i : Nat} {x x' : Wm} (hx : l[i]? = some x) (hs : ∀ f, (sub x' f).ownBlock = (sub x f).ownBlock) : ∀ a, bk RV (l.set i x') a = bk RV l a
  | none => rfl
  | some (i', f') => by
    have hil : i < l.length := (List.getElem?_eq_some_iff.1 hx).1
    show (match (l.set i x')[i']? with | some x => (sub x f').ownBlock | none => none) = (match l[i']? with | some x => (sub x f').ownBlock | none => none)
    rw [List.getElem?_set]
    by_cases hi : i = i'
    · subst hi
      rw [if_pos rfl, if_pos hil, hx]
      exact hs f'
    · rw [if_neg hi]
/-- One of a window's lists is another one, and so is its cell. -/
theorem WsAt.upd {w w1 : World} {base b N cap i f j : Nat} {l : List Wm} {x x' : Wm} {u : Value} (h : WsAt w base (.slice (some ⟨b, 0, none⟩) N cap) l) (hx : l[i]? = some x) (hj : j < 8) (hL : wmL x' = (wmL x).set j u)
    (hs : ∀ f', f' < 4 → f' ≠ f → sub x' f' = sub x f' ∧ subL x' f' = subL x f') (hg : w.grownBy w1 (sub x f).ownBlock) (hG : NewB (.slice (some ⟨b, 0, none⟩) N cap) l (sub x f) (sub x' f)) (hrow : f < 4 → rowOk w1 base x' f) (hok : PwOk x'.p) :
    WsAt (w1.setCell ⟨b, i * 8 + j, none⟩ u) base (.slice (some ⟨b, 0, none⟩) N cap) (l.set i x') := by
  have hil : i < l.length := (List.getElem?_eq_some_iff.1 hx).1
  have hN : N = l.length := by
    rcases h.own.2 with ⟨e, _⟩ | ⟨_, _, _, e, _⟩
    · cases e
    · injection e
  subst hN
  have hWb : Wrote b w1 (w1.setCell ⟨b, i * 8 + j, none⟩ u) := (Wrote.refl b w1).set (.inl rfl) u
  have hkx : bk (.slice (some ⟨b, 0, none⟩) l.length cap) l (some (i, f)) = (sub x f).ownBlock := by simp only [bk, hx]
  -- what a key's block is where the key isn't the one that is written
  have hne : ∀ a k, a ≠ some (i, f) → bk (.slice (some ⟨b, 0, none⟩) l.length cap) l a = some k → (sub x f).ownBlock ≠ some k := fun a k ha hk e => h.apart a (some (i, f)) ha k hk (by rw [hkx]; exact e)
  have keep : ∀ a (v : Value) (T : TypeId) (n s : Nat) (xs : List Value), a ≠ some (i, f) → bk (.slice (some ⟨b, 0, none⟩) l.length cap) l a = v.ownBlock → w.ownsRow base T s v n xs → w1.ownsRow base T s v n xs := fun a v T n s xs ha hv ho =>
    ho.kept hg (by
      cases e : v.ownBlock with
      | none => exact .inl rfl
      | some k => exact .inr (fun e' => hne a k ha (by rw [hv, e]) e'.symm))
  have keep2 : ∀ (v : Value) (T : TypeId) (n s : Nat) (xs : List Value), (∀ k, v.ownBlock = some k → k ≠ b) → w1.ownsRow base T s v n xs → (w1.setCell ⟨b, i * 8 + j, none⟩ u).ownsRow base T s v n xs := fun v T n s xs hv ho =>
    ho.kept hWb (by
      cases e : v.ownBlock with
      | none => exact .inl rfl
      | some k => exact .inr (fun e' => hv k e (by injection e')))
  have hbb : ∀ a k, a ≠ none → bk (.slice (some ⟨b, 0, none⟩) l.length cap) l a = some k → k ≠ b := fun a k ha hk e => h.apart a none ha k hk (by rw [e]; rfl)
  have hblt := (h.own.lt b rfl).2
  have hsame : ∀ f', f' ≠ f → (sub x' f').ownBlock = (sub x f').ownBlock := fun f' hf' => by
    by_cases h4 : f' < 4
    · rw [(hs f' h4 hf').1]
    · rw [sub_none h4, sub_none h4]
  refine ⟨?_, ?_, ?_, ?_⟩
  · have h1 := keep none _ TW l.length 8 (wmC l) (by simp) rfl h.own
    have h2 := row_setN h1 (i * 8 + j) u
    rw [List.length_set, wmC_set l i j x x' u hx hj hL]
    exact h2
  · intro i' z hz f' hf'
    rw [List.getElem?_set] at hz
    by_cases hi : i = i'
    · subst hi
      rw [if_pos rfl, if_pos hil] at hz
      injection hz with hz
      subst hz
      by_cases hff : f' = f
      · subst hff
        refine keep2 _ _ _ _ _ (fun k hk => ?_) (hrow hf')
        rcases hG with e | e
        · exact hbb (some (i, f')) k (by simp) (by rw [hkx, ← e]; exact hk)
        · exact fun e' => e k hk none (by rw [e']; rfl)
      · have hss := hs f' hf' hff
        have hr := h.row i x hx f' hf'
        unfold rowOk at hr ⊢
        rw [hss.1, hss.2]
        have hbk : bk (.slice (some ⟨b, 0, none⟩) l.length cap) l (some (i, f')) = (sub x f').ownBlock := by simp only [bk, hx]
        refine keep2 _ _ _ _ _ (fun k hk => hbb (some (i, f')) k (by simp) (by rw [hbk]; exact hk)) (keep (some (i, f')) _ _ _ _ _ (by simp [hff]) hbk hr)
    · rw [if_neg hi] at hz
      have hr := h.row i' z hz f' hf'
      have hbk : bk (.slice (some ⟨b, 0, none⟩) l.length cap) l (some (i', f')) = (sub z f').ownBlock := by simp only [bk, hz]
      exact keep2 _ _ _ _ _ (fun k hk => hbb (some (i', f')) k (by simp) (by rw [hbk]; exact hk)) (keep (some (i', f')) _ _ _ _ _ (fun e => hi (by injection e with e; injection e with e; exact e.symm)) hbk hr)
  · refine h.apart.upd (some (i, f)) ?_ ?_
    · intro a ha
      match a with
      | none => rfl
      | some (i', f') =>
        show (match (l.set i x')[i']? with | some x => (sub x f').ownBlock | none => none) = (match l[i']? with | some x => (sub x f').ownBlock | none => none)
        rw [List.getElem?_set]
        by_cases hi : i = i'
        · subst hi
          rw [if_pos rfl, if_pos hil, hx]
          exact hsame f' (fun e => ha (by rw [e]))
        · rw [if_neg hi]
    · have e1 : bk (.slice (some ⟨b, 0, none⟩) l.length cap) (l.set i x') (some (i, f)) = (sub x' f).ownBlock := by
        show (match (l.set i x')[i]? with | some x => (sub x f).ownBlock | none => none) = _
        rw [List.getElem?_set, if_pos rfl, if_pos hil]
      rw [e1, hkx]
      exact hG
  · intro z hz
    rcases List.mem_or_eq_of_mem_set hz with hz | rfl
    · exact h.ok z hz
    · exact hok
end Go.Proofs.YtanhblokhcaoiaaDoor.Tr
