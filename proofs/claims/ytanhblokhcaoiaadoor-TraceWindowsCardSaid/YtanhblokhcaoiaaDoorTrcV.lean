/- Several rows of the call's own beside one another, and rows that stand in them; which window an event is of, by the document's own look; did all take the same, event by event; no condition. -/
import Derived.Test.YtanhblokhcaoiaaDoorTrcU
namespace Go.Proofs.YtanhblokhcaoiaaDoor.Tr
open Go.ChangeShapes Go.WideShapes Go.ChangeAt Go.RowKit Base Go.Maps
open Hl (Ev TE TI EvsAt evL evC)
set_option linter.unusedVariables false
set_option linter.unusedSimpArgs false

/-- A row. -/
structure Item where
  T : TypeId
  s : Nat
  v : Value
  n : Nat
  xs : List Value
def Item.own (w : World) (base : Nat) (it : Item) : Prop := w.ownsRow base it.T it.s it.v it.n it.xs
/-- No block in common. -/
def NB (v v' : Value) : Prop := ∀ k, v.ownBlock = some k → v'.ownBlock = some k → False
theorem NB.symm {v v' : Value} (h : NB v v') : NB v' v := fun k a b => h k b a
/-- Rows beside one another. -/
structure Beside (w : World) (base : Nat) (its : List Item) : Prop where
  own : ∀ (i : Nat) (it : Item), its[i]? = some it → it.own w base
  nb : ∀ (i j : Nat) (a b : Item), i ≠ j → its[i]? = some a → its[j]? = some b → NB a.v b.v
theorem keep_nb {w w' : World} {base s n : Nat} {T : TypeId} {v vr : Value} {xs : List Value} (h : w.ownsRow base T s v n xs) (hg : w.grownBy w' vr.ownBlock) (hn : NB v vr) : w'.ownsRow base T s v n xs :=
  h.kept hg (by
    cases e : v.ownBlock with
    | none => exact .inl rfl
    | some k => exact .inr (fun e' => hn k e e'.symm))
theorem Beside.kept {w w' : World} {base : Nat} {its : List Item} (h : Beside w base its) (hb : Below w.heap.size w w') : Beside w' base its := ⟨fun i it hi => own_kept (h.own i it hi) hb, h.nb⟩
theorem Beside.grow {w w' : World} {base k : Nat} {its : List Item} {it it' : Item} (h : Beside w base its) (hk : its[k]? = some it) (hg : w.grownBy w' it.v.ownBlock) (ho : it'.own w' base) (hK : it'.v.ownBlock = it.v.ownBlock ∨ ∃ g, it'.v.ownBlock = some g ∧ w.heap.size ≤ g) : Beside w' base (its.set k it') := by
  have hkl : k < its.length := (List.getElem?_eq_some_iff.1 hk).1
  have hnew : ∀ (i : Nat) (a : Item), i ≠ k → its[i]? = some a → NB it'.v a.v := by
    intro i a hik ha b hb1 hb2
    rcases hK with e | ⟨g, e, hge⟩
    · exact h.nb k i it a (Ne.symm hik) hk ha b (by rw [← e]; exact hb1) hb2
    · rw [e] at hb1
      injection hb1 with hb1
      have := ((h.own i a ha).lt b hb2).2
      omega
  constructor
  · intro i a ha
    rw [List.getElem?_set] at ha
    by_cases hi : k = i
    · rw [if_pos hi, if_pos hkl] at ha
      injection ha with ha
      rw [← ha]
      exact ho
    · rw [if_neg hi] at ha
      exact keep_nb (h.own i a ha) hg (h.nb i k a it (Ne.symm hi) ha hk)
  · intro i j a b hij ha hb
    rw [List.getElem?_set] at ha hb
    by_cases hi : k = i
    · rw [if_pos hi, if_pos hkl] at ha
      injection ha with ha
      rw [if_neg (by omega)] at hb
      rw [← ha]
      exact hnew j b (by omega) hb
    · rw [if_neg hi] at ha
      by_cases hj : k = j
      · rw [if_pos hj, if_pos hkl] at hb
        injection hb with hb
        rw [← hb]
        exact (hnew i a (by omega) ha).symm
      · rw [if_neg hj] at hb
        exact h.nb i j a b hij ha hb
/-- Rows of different types have no block in common. -/
theorem nb_type {w : World} {base base' s s' n n' : Nat} {T T' : TypeId} {v v' : Value} {xs xs' : List Value} (h : w.ownsRow base T s v n xs) (h' : w.ownsRow base' T' s' v' n' xs') (hT : T ≠ T') : NB v v' := by
  intro k hk hk'
  rcases h.2 with ⟨rfl, _⟩ | ⟨g, cap, cur, rfl, _, hg, _⟩
  · cases hk
  · rcases h'.2 with ⟨rfl, _⟩ | ⟨g', cap', cur', rfl, _, hg', _⟩
    · cases hk'
    · have e1 : g = k := by simpa [Value.ownBlock] using hk
      have e2 : g' = k := by simpa [Value.ownBlock] using hk'
      subst e1
      subst e2
      rw [hg] at hg'
      injection hg' with hg'
      injection hg' with _ hg' _
      exact hT hg'
/-- Lists that stand in a row. -/
def Subs (w : World) (base : Nat) (vs : List Value) (ls : List (List Int)) : Prop := vs.length = ls.length ∧ ∀ (i : Nat) (v : Value) (l : List Int), vs[i]? = some v → ls[i]? = some l → w.ownsRow base TI 1 v l.length (l.map iV)
theorem Subs.kept {w w' : World} {base : Nat} {vs : List Value} {ls : List (List Int)} (h : Subs w base vs ls) (hb : Below w.heap.size w w') : Subs w' base vs ls := ⟨h.1, fun i v l hv hl => own_kept (h.2 i v l hv hl) hb⟩
theorem Subs.grow {w w' : World} {base base' s n : Nat} {T : TypeId} {vr : Value} {xs : List Value} {vs : List Value} {ls : List (List Int)} (h : Subs w base vs ls) (hr : w.ownsRow base' T s vr n xs) (hT : T ≠ TI) (hg : w.grownBy w' vr.ownBlock) : Subs w' base vs ls :=
  ⟨h.1, fun i v l hv hl => keep_nb (h.2 i v l hv hl) hg (nb_type (h.2 i v l hv hl) hr (Ne.symm hT))⟩
theorem Subs.snoc {w : World} {base : Nat} {vs : List Value} {ls : List (List Int)} (h : Subs w base vs ls) : Subs w base (vs ++ [nilS]) (ls ++ [[]]) := by
  refine ⟨by simp [h.1], fun i v l hv hl => ?_⟩
  rcases get_snoc hv with ⟨hi, hv⟩ | ⟨hi, rfl⟩
  · rw [List.getElem?_append_left (by rw [← h.1]; exact hi)] at hl
    exact h.2 i v l hv hl
  · subst hi
    rw [h.1, List.getElem?_append_right (Nat.le_refl _)] at hl
    simp at hl
    subst hl
    exact ⟨rfl, .inl ⟨rfl, rfl⟩⟩
theorem Subs.set {w : World} {base k : Nat} {vs : List Value} {ls : List (List Int)} {v : Value} {l : List Int} (h : Subs w base vs ls) (ho : w.ownsRow base TI 1 v l.length (l.map iV)) : Subs w base (vs.set k v) (ls.set k l) := by
  refine ⟨by simp [h.1], fun i v' l' hv hl => ?_⟩
  rw [List.getElem?_set] at hv hl
  by_cases hi : k = i
  · subst hi
    rw [if_pos rfl] at hv hl
    split at hv
    · injection hv with hv
      rw [if_pos (by rw [← h.1]; assumption)] at hl
      injection hl with hl
      rw [← hv, ← hl]
      exact ho
    · cases hv
  · rw [if_neg hi] at hv hl
    exact h.2 i v' l' hv hl
/-- Rows beside one another, in three of which lists stand. -/
structure St (w : World) (base : Nat) (its : List Item) (sv tv mv : List Value) (ls lt lm : List (List Int)) : Prop where
  be : Beside w base its
  ss : Subs w base sv ls
  ts : Subs w base tv lt
  ms : Subs w base mv lm
theorem St.kept {w w' : World} {base : Nat} {its : List Item} {sv tv mv : List Value} {ls lt lm : List (List Int)} (h : St w base its sv tv mv ls lt lm) (hb : Below w.heap.size w w') : St w' base its sv tv mv ls lt lm :=
  ⟨h.be.kept hb, h.ss.kept hb, h.ts.kept hb, h.ms.kept hb⟩
theorem St.grow {w w' : World} {base k : Nat} {its : List Item} {sv tv mv : List Value} {ls lt lm : List (List Int)} {it it' : Item} (h : St w base its sv tv mv ls lt lm) (hk : its[k]? = some it) (hT : it.T ≠ TI) (hg : w.grownBy w' it.v.ownBlock) (ho : it'.own w' base)
    (hK : it'.v.ownBlock = it.v.ownBlock ∨ ∃ g, it'.v.ownBlock = some g ∧ w.heap.size ≤ g) : St w' base (its.set k it') sv tv mv ls lt lm :=
  ⟨h.be.grow hk hg ho hK, h.ss.grow (h.be.own k it hk) hT hg, h.ts.grow (h.be.own k it hk) hT hg, h.ms.grow (h.be.own k it hk) hT hg⟩
/-- An append of something that has just been laid to one of the rows. -/
theorem St.push {w w1 w' : World} {base k : Nat} {its : List Item} {sv tv mv : List Value} {ls lt lm : List (List Int)} {it it' : Item} (h : St w base its sv tv mv ls lt lm) (hb : Below w.heap.size w w1) (hk : its[k]? = some it) (hT : it.T ≠ TI) (hg : w1.grownBy w' it.v.ownBlock) (ho : it'.own w' base)
    (hK : it'.v.ownBlock = it.v.ownBlock ∨ it'.v.ownBlock = some w1.heap.size) : St w' base (its.set k it') sv tv mv ls lt lm :=
  (h.kept hb).grow hk hT hg ho (by
    rcases hK with e | e
    · exact .inl e
    · exact .inr ⟨_, e, Nat.le_refl _⟩)
theorem info_40 : (Tryd.prog.info? 40).map (fun i => (i.zero, i.size, i.bytes)) = some (some (.slice none 0 0), 1, 24) := by kernel_rfl
/-- The document's own look for a window, one window further. -/
theorem num_next {fs : List Ev} {e f : Ev} {k : Nat} (h : fs[k]? = some f) : num (fs.take (k + 1)) e = if nearE e f = true then (k : Int) else num (fs.take k) e := by
  have hk : k < fs.length := (List.getElem?_eq_some_iff.1 h).1
  unfold num
  rw [List.take_add_one, h]
  show (match idx (nearE e) (fs.take k ++ [f]) with | some k => (k : Int) | none => -1) = _
  rw [idx_snoc]
  by_cases hn : nearE e f = true
  · rw [if_pos hn, if_pos hn]
    simp only [List.length_take]
    rw [Nat.min_eq_left (by omega)]
  · rw [if_neg hn, if_neg hn]
    rfl

/-! ### Did all take the same, event by event -/

/-- Has an event what was taken first? -/
def alk (z : List Ev × List Pw) (a : EW) : Bool :=
  if isM a.1.k = true ∧ a.1.k = 2 then
    match (addP z.1 z.2 a.1)[(wn z.1 a.1).toNat]? with
    | some p => decide (p.ts = []) || decide (p.c = a.1.c ∧ p.ws = a.2)
    | none => true
  else true
def alks : List Ev × List Pw → List EW → Bool
  | _, [] => true
  | z, a :: r => alk z a && alks (stp z a) r
/-- What the map of the first that took holds, and the windows tell alike. -/
def Agr (ps : List Pw) (m : Nat → Option EW) : Prop := ∀ (j : Nat) (p : Pw), ps[j]? = some p → match m j with
  | some o => p.ts ≠ [] ∧ p.c = o.1.c ∧ p.ws = o.2
  | none => p.ts = []
theorem ins_ne (l : List Int) (x : Int) : ins l x ≠ [] := fun h => by have := ins_pos l x; rw [h] at this; simp at this
theorem agr_add {fs : List Ev} {ps : List Pw} {e : Ev} {m : Nat → Option EW} (h : Agr ps m) (hm : ∀ j, ps.length ≤ j → m j = none) : Agr (addP fs ps e) m := by
  unfold addP
  split
  · intro j p hp
    rcases get_snoc hp with ⟨_, hp⟩ | ⟨rfl, rfl⟩
    · exact h j p hp
    · rw [hm _ (Nat.le_refl _)]
      rfl
  · exact h
theorem al_alks : ∀ (r : List EW) (fs : List Ev) (ps : List Pw) (m : Nat → Option EW) (k : Nat), (∀ a ∈ r, isM a.1.k = true → EvOk a.1) → Inv k (fs, ps) → Agr ps m → (∀ j, ps.length ≤ j → m j = none) → al fs m r = alks (fs, ps) r
  | [], _, _, _, _, _, _, _, _ => rfl
  | (e, vs) :: r, fs, ps, m, k, hO, hI, hA, hM => by
    have hO' : ∀ a ∈ r, isM a.1.k = true → EvOk a.1 := fun a ha => hO a (List.mem_cons_of_mem _ ha)
    have hI' := hI.step (e, vs) (hO (e, vs) (List.mem_cons_self ..))
    show al fs m ((e, vs) :: r) = (alk (fs, ps) (e, vs) && alks (stp (fs, ps) (e, vs)) r)
    cases hm : isM e.k with
    | false =>
      have h1 : alk (fs, ps) (e, vs) = true := by unfold alk; rw [if_neg (by simp [hm])]
      rw [h1, stp_not hm]
      simp only [al, hm, Bool.true_and]
      exact al_alks r fs ps m k hO' hI hA hM
    | true =>
      obtain ⟨p, hp, hpl, _⟩ := add_at hI e
      have hA2 := agr_add (fs := fs) (e := e) hA hM
      have hlen : ps.length ≤ (addP fs ps e).length := by unfold addP; split <;> simp
      have hM2 : ∀ j, (addP fs ps e).length ≤ j → m j = none := fun j hj => hM j (Nat.le_trans hlen hj)
      rw [stp_msg hm hp] at hI' ⊢
      have hpj := hA2 _ p hp
      have hget : ∀ q : Pw, ∀ (j : Nat) (z : Pw), ((addP fs ps e).set (wn fs e).toNat q)[j]? = some z → (j = (wn fs e).toNat ∧ z = q) ∨ (j ≠ (wn fs e).toNat ∧ (addP fs ps e)[j]? = some z) := by
        intro q j z hz
        rw [List.getElem?_set] at hz
        by_cases hj : (wn fs e).toNat = j
        · rw [if_pos hj, if_pos (List.getElem?_eq_some_iff.1 hp).1] at hz
          injection hz with hz
          exact .inl ⟨hj.symm, hz.symm⟩
        · rw [if_neg hj] at hz
          exact .inr ⟨Ne.symm hj, hz⟩
      by_cases h2 : e.k = 2
      · have htk : takeP p e vs = if p.ts = [] then { p with c := e.c, ws := vs, ts := ins p.ts e.m } else { p with ts := ins p.ts e.m } := by
          unfold takeP
          rw [if_neg (by omega), if_neg (by omega), if_pos h2]
        have hak : alk (fs, ps) (e, vs) = (decide (p.ts = []) || decide (p.c = e.c ∧ p.ws = vs)) := by unfold alk; rw [if_pos ⟨hm, h2⟩]; simp only [hp]
        rw [hak]
        cases ho : m (wn fs e).toNat with
        | none =>
          rw [ho] at hpj
          have hts : p.ts = [] := hpj
          simp only [al, hm, if_true, h2, ho, hts, decide_true, Bool.true_or, Bool.true_and, show isM 2 = true from rfl]
          refine al_alks r _ _ _ (k + 1) hO' hI' ?_ ?_
          · intro j z hz
            unfold setM
            rcases hget _ j z hz with ⟨rfl, rfl⟩ | ⟨hj, hz⟩
            · rw [if_pos rfl, htk, if_pos hts]
              exact ⟨ins_ne _ _, rfl, rfl⟩
            · rw [if_neg hj]
              exact hA2 j z hz
          · intro j hj
            simp only [List.length_set] at hj
            have hlt := (List.getElem?_eq_some_iff.1 hp).1
            unfold setM
            rw [if_neg (by omega)]
            exact hM2 j hj
        | some o =>
          rw [ho] at hpj
          obtain ⟨t1, t2, t3⟩ := hpj
          simp only [al, hm, if_true, h2, ho, t2, t3, decide_eq_false t1, Bool.false_or, show isM 2 = true from rfl]
          by_cases hc : o.1.c = e.c ∧ o.2 = vs
          · rw [if_pos hc, decide_eq_true hc, Bool.true_and]
            refine al_alks r _ _ _ (k + 1) hO' hI' ?_ ?_
            · intro j z hz
              rcases hget _ j z hz with ⟨rfl, rfl⟩ | ⟨hj, hz⟩
              · rw [ho, htk, if_neg t1]
                exact ⟨ins_ne _ _, t2, t3⟩
              · exact hA2 j z hz
            · intro j hj
              simp only [List.length_set] at hj
              exact hM2 j hj
          · rw [if_neg hc, decide_eq_false hc, Bool.false_and]
      · have hak : alk (fs, ps) (e, vs) = true := by unfold alk; rw [if_neg (fun h => h2 h.2)]
        rw [hak]
        simp only [al, hm, if_true, Bool.true_and]
        rw [if_neg h2]
        refine al_alks r _ _ _ (k + 1) hO' hI' ?_ ?_
        · intro j z hz
          rcases hget _ j z hz with ⟨rfl, rfl⟩ | ⟨hj, hz⟩
          · have : (takeP p e vs).ts = p.ts ∧ (takeP p e vs).c = p.c ∧ (takeP p e vs).ws = p.ws := by
              unfold takeP
              split
              · exact ⟨rfl, rfl, rfl⟩
              · split
                · exact ⟨rfl, rfl, rfl⟩
                · first | exact ⟨rfl, rfl, rfl⟩ | (rw [if_neg h2]; exact ⟨rfl, rfl, rfl⟩)
            rw [this.1, this.2.1, this.2.2]
            exact hpj
          · exact hA2 j z hz
        · intro j hj
          simp only [List.length_set] at hj
          exact hM2 j hj
theorem al_all (ls : List EW) (hO : ∀ a ∈ ls, isM a.1.k = true → EvOk a.1) : al [] (fun _ => none) ls = alks ([], []) ls :=
  al_alks ls [] [] _ 0 hO ⟨rfl, Uniq.nil, fun f hf => (by cases hf), Nat.le_refl _, fun p hp => (by cases hp)⟩ (fun j p hp => by simp at hp) (fun _ _ => rfl)
end Go.Proofs.YtanhblokhcaoiaaDoor.Tr
