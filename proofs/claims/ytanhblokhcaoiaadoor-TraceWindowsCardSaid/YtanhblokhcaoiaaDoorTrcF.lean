/- The windows that events are of: which one an event is of, and the map in which package trace notes them; no condition. -/
import Derived.Test.YtanhblokhcaoiaaDoorTrcE
import Derived.Maps.Own
import Derived.Maps.OwnSet
import Derived.Maps.OwnOps
import Derived.Maps.Views
import Derived.DeepKeys4
namespace Go.Proofs.YtanhblokhcaoiaaDoor.Tr
open Go.ChangeShapes Go.WideShapes Go.ChangeAt Go.RowKit Base Go.Maps Go.WideMaps Go.WideElems
open Hl (Ev TE)
set_option linter.unusedVariables false
set_option linter.unusedSimpArgs false

/-! ### The last that is such -/

def idxR (P : Ev → Bool) : List Ev → Option Nat
  | [] => none
  | x :: r => if P x = true then some r.length else idxR P r
def idx (P : Ev → Bool) (l : List Ev) : Option Nat := idxR P l.reverse
theorem idx_nil (P : Ev → Bool) : idx P [] = none := rfl
theorem idx_snoc (P : Ev → Bool) (l : List Ev) (x : Ev) : idx P (l ++ [x]) = if P x = true then some l.length else idx P l := by
  unfold idx
  rw [List.reverse_append]
  simp [idxR]
theorem snoc_ind {α : Type} {p : List α → Prop} (h0 : p []) (h1 : ∀ l x, p l → p (l ++ [x])) : ∀ l, p l := by
  have h : ∀ l : List α, p l.reverse := by
    intro l
    induction l with
    | nil => exact h0
    | cons x r ih => rw [List.reverse_cons]; exact h1 _ _ ih
  intro l
  have := h l.reverse
  rwa [List.reverse_reverse] at this
theorem get_snoc {α : Type} {l : List α} {x y : α} {k : Nat} (h : (l ++ [x])[k]? = some y) : (k < l.length ∧ l[k]? = some y) ∨ (k = l.length ∧ y = x) := by
  rcases Nat.lt_or_ge k l.length with hk | hk
  · rw [List.getElem?_append_left hk] at h
    exact .inl ⟨hk, h⟩
  · rw [List.getElem?_append_right hk] at h
    have h1 := (List.getElem?_eq_some_iff.1 h).1
    have : k - l.length = 0 := by simpa using h1
    rw [this] at h
    simp at h
    exact .inr ⟨by omega, h.symm⟩
theorem idx_some (P : Ev → Bool) : ∀ (l : List Ev) (k : Nat), idx P l = some k → ∃ x, l[k]? = some x ∧ P x = true ∧ ∀ j y, l[j]? = some y → P y = true → j ≤ k := by
  refine snoc_ind ?_ ?_
  · intro k h; cases h
  · intro l x ih k h
    rw [idx_snoc] at h
    by_cases hx : P x = true
    · rw [if_pos hx] at h
      injection h with h
      subst h
      refine ⟨x, by simp, hx, fun j y hj hy => ?_⟩
      rcases get_snoc hj with ⟨h1, _⟩ | ⟨h1, _⟩ <;> omega
    · rw [if_neg hx] at h
      obtain ⟨z, hz, hp, hl⟩ := ih k h
      have hk := (List.getElem?_eq_some_iff.1 hz).1
      refine ⟨z, by rw [List.getElem?_append_left hk]; exact hz, hp, fun j y hj hy => ?_⟩
      rcases get_snoc hj with ⟨_, h1⟩ | ⟨_, h1⟩
      · exact hl j y h1 hy
      · subst h1; exact absurd hy hx
theorem idx_none (P : Ev → Bool) : ∀ (l : List Ev), idx P l = none → ∀ x ∈ l, P x = false := by
  refine snoc_ind ?_ ?_
  · intro _ x hx; cases hx
  · intro l x ih h
    rw [idx_snoc] at h
    by_cases hx : P x = true
    · rw [if_pos hx] at h; cases h
    · rw [if_neg hx] at h
      intro y hy
      rcases List.mem_append.1 hy with hy | hy
      · exact ih h y hy
      · simp at hy; subst hy; simpa using hx
theorem idx_is {P : Ev → Bool} {l : List Ev} {k : Nat} {x : Ev} (hx : l[k]? = some x) (hp : P x = true) (hl : ∀ j y, l[j]? = some y → P y = true → j ≤ k) : idx P l = some k := by
  cases h : idx P l with
  | none =>
    have := idx_none P l h x (List.mem_of_getElem? hx)
    rw [hp] at this
    cases this
  | some j =>
    obtain ⟨y, hy, hpy, hlj⟩ := idx_some P l j h
    have h1 := hl j y hy hpy
    have h2 := hlj k x hx hp
    rw [show j = k by omega]

/-! ### Which window -/

def nearE (a f : Ev) : Bool := decide (a.s = f.s ∧ a.v = f.v ∧ a.si - f.si ≤ 100 ∧ f.si - a.si ≤ 100)
def hitE (s v q : Int) (f : Ev) : Bool := decide (f.s = s ∧ f.v = v ∧ f.si / 101 = q)
/-- The number of the window that an event is of. -/
def num (fs : List Ev) (e : Ev) : Int := match idx (nearE e) fs with
  | some k => (k : Int)
  | none => -1
/-- No two windows of a slot and a version begin in one part of the time. -/
def Uniq (fs : List Ev) : Prop := ∀ (j k : Nat) (x y : Ev), fs[j]? = some x → fs[k]? = some y → x.s = y.s → x.v = y.v → x.si / 101 = y.si / 101 → j = k
theorem Uniq.nil : Uniq [] := fun j k x y h => by simp at h
theorem near_of {a f : Ev} (h : nearE a f = true) : a.s = f.s ∧ a.v = f.v ∧ a.si - f.si ≤ 100 ∧ f.si - a.si ≤ 100 := by simpa [nearE] using h
theorem hit_of {s v q : Int} {f : Ev} (h : hitE s v q f = true) : f.s = s ∧ f.v = v ∧ f.si / 101 = q := by simpa [hitE] using h
theorem Uniq.snoc {fs : List Ev} {e : Ev} (h : Uniq fs) (hn : idx (nearE e) fs = none) : Uniq (fs ++ [e]) := by
  intro j k x y hj hk e1 e2 e3
  have hno := idx_none _ _ hn
  rcases get_snoc hj with ⟨h1, h2⟩ | ⟨h1, rfl⟩ <;> rcases get_snoc hk with ⟨h3, h4⟩ | ⟨h3, rfl⟩
  · exact h j k x y h2 h4 e1 e2 e3
  · exfalso
    have := hno x (List.mem_of_getElem? h2)
    simp only [nearE, decide_eq_false_iff_not] at this
    exact this ⟨e1.symm, e2.symm, by omega, by omega⟩
  · exfalso
    have := hno y (List.mem_of_getElem? h4)
    simp only [nearE, decide_eq_false_iff_not] at this
    exact this ⟨e1, e2, by omega, by omega⟩
  · omega
/-- What a part of the time tells of an event. -/
def mk (fs : List Ev) (e : Ev) (q : Int) : Int := match idx (hitE e.s e.v q) fs with
  | some k => (match fs[k]? with
    | some f => if f.si - e.si ≤ 100 ∧ e.si - f.si ≤ 100 then (k : Int) else -1
    | none => -1)
  | none => -1
theorem mk_is {fs : List Ev} {e : Ev} {q : Int} : mk fs e q = -1 ∨ ∃ (k : Nat) (f : Ev), fs[k]? = some f ∧ nearE e f = true ∧ mk fs e q = (k : Int) := by
  unfold mk
  cases h : idx (hitE e.s e.v q) fs with
  | none => exact .inl rfl
  | some k =>
    obtain ⟨f, hf, hp, _⟩ := idx_some _ _ _ h
    have hp := hit_of hp
    simp only [hf]
    by_cases hc : f.si - e.si ≤ 100 ∧ e.si - f.si ≤ 100
    · rw [if_pos hc]
      exact .inr ⟨k, f, hf, by simp only [nearE, decide_eq_true_eq]; exact ⟨hp.1.symm, hp.2.1.symm, hc.2, hc.1⟩, rfl⟩
    · rw [if_neg hc]
      exact .inl rfl
def rm (fs : List Ev) (e : Ev) : Nat → Int
  | 0 => -1
  | j + 1 => max (rm fs e j) (mk fs e (e.si / 101 - 1 + (j : Int)))
theorem num_max {fs : List Ev} {e : Ev} (hU : Uniq fs) : rm fs e 3 = num fs e := by
  show max (max (max (-1) (mk fs e (e.si / 101 - 1 + ((0 : Nat) : Int)))) (mk fs e (e.si / 101 - 1 + ((1 : Nat) : Int)))) (mk fs e (e.si / 101 - 1 + ((2 : Nat) : Int))) = num fs e
  have h0 := @mk_is fs e (e.si / 101 - 1 + ((0 : Nat) : Int))
  have h1 := @mk_is fs e (e.si / 101 - 1 + ((1 : Nat) : Int))
  have h2 := @mk_is fs e (e.si / 101 - 1 + ((2 : Nat) : Int))
  unfold num
  cases h : idx (nearE e) fs with
  | none =>
    have hno := idx_none _ _ h
    have no : ∀ z : Int, (z = -1 ∨ ∃ (k : Nat) (f : Ev), fs[k]? = some f ∧ nearE e f = true ∧ z = (k : Int)) → z = -1 := by
      rintro z (hz | ⟨k, f, hf, hn, _⟩)
      · exact hz
      · have := hno f (List.mem_of_getElem? hf)
        rw [hn] at this
        cases this
    rw [no _ h0, no _ h1, no _ h2]
    rfl
  | some k =>
    obtain ⟨x, hx, hn, hl⟩ := idx_some _ _ _ h
    show _ = (k : Int)
    have hb : ∀ z : Int, (z = -1 ∨ ∃ (k : Nat) (f : Ev), fs[k]? = some f ∧ nearE e f = true ∧ z = (k : Int)) → z ≤ (k : Int) := by
      rintro z (hz | ⟨j, f, hf, hn, rfl⟩)
      · omega
      · have := hl j f hf hn
        omega
    have b0 := hb _ h0
    have b1 := hb _ h1
    have b2 := hb _ h2
    have hnx := near_of hn
    have hm : mk fs e (x.si / 101) = (k : Int) := by
      have hi : idx (hitE e.s e.v (x.si / 101)) fs = some k := by
        refine idx_is hx (by unfold hitE; exact decide_eq_true ⟨hnx.1.symm, hnx.2.1.symm, rfl⟩) (fun j y hj hy => ?_)
        have hy := hit_of hy
        rw [hU j k y x hj hx (by rw [hy.1, hnx.1]) (by rw [hy.2.1, hnx.2.1]) hy.2.2]
        exact Nat.le_refl _
      unfold mk
      rw [hi]
      simp only [hx]
      rw [if_pos ⟨hnx.2.2.2, hnx.2.2.1⟩]
    rcases (show x.si / 101 = e.si / 101 - 1 + ((0 : Nat) : Int) ∨ x.si / 101 = e.si / 101 - 1 + ((1 : Nat) : Int) ∨ x.si / 101 = e.si / 101 - 1 + ((2 : Nat) : Int) by omega) with q | q | q <;> rw [q] at hm <;> omega
theorem num_lt {fs : List Ev} {e : Ev} : num fs e = -1 ∧ idx (nearE e) fs = none ∨ ∃ k : Nat, num fs e = (k : Int) ∧ k < fs.length ∧ idx (nearE e) fs = some k := by
  unfold num
  cases h : idx (nearE e) fs with
  | none => exact .inl ⟨rfl, rfl⟩
  | some k =>
    obtain ⟨x, hx, _⟩ := idx_some _ _ _ h
    exact .inr ⟨k, rfl, (List.getElem?_eq_some_iff.1 hx).1, rfl⟩

/-! ### The map -/

abbrev TK : TypeId := 101
abbrev TB : TypeId := 104
abbrev TM : TypeId := 99
theorem laidOut : laidOutB Tryd.prog = true := by kernel_rfl
theorem rowK : TK < Tryd.prog.types.size := of_decide_eq_true (by kernel_rfl)
theorem wideK : (match Tryd.prog.underlying TK with | some (.array _ _) | some (.struct _) => true | _ => false) = true := by kernel_rfl
set_option maxRecDepth 1000000 in
theorem keyed : Go.Maps.Keyed Tryd.prog TK := Go.Maps.Keyed.of_law (deep_law_laid laidOut (m := 2) (by omega) rowK (by kernel_rfl) wideK)
def KV (s v q : Int) : Value := .agg #[.int .i64 s, .int .i64 v, .int .i64 q]
def BV (n t : Int) : Value := .agg #[.int .i64 n, .int .i64 t]
theorem zeroB (w : World) : (zeroValue TB).run Tryd.prog w = .ok (BV 0 0) w := by kernel_rfl
noncomputable def KL (s v q : Int) : Lit := (keyOf Tryd.prog TK (KV s v q)).getD (.bool true)
theorem ktK : Tryd.prog.keyType TK = true := by kernel_rfl
abbrev W64 (x : Int) : Prop := Hl.W64 x
set_option maxRecDepth 1000000 in
theorem kl_at {s v q : Int} (hs : W64 s) (hv : W64 v) (hq : W64 q) : keyOf Tryd.prog TK (KV s v q) = some (KL s v q) := by
  have h : (keyOf Tryd.prog TK (KV s v q)).isSome = true := by
    obtain ⟨d, hd⟩ : ∃ d, Tryd.prog.types.size = d + 1 := ⟨Tryd.prog.types.size - 1, (Nat.succ_pred_eq_of_pos (Nat.lt_of_le_of_lt (Nat.zero_le _) rowK)).symm⟩
    have c1 : Tryd.prog.cellsOf 3 = 1 := by kernel_rfl
    have c3 : Tryd.prog.cellsOf TK = 3 := by kernel_rfl
    have w1 := Hl.wf_key hs
    have w2 := Hl.wf_key hv
    have w3 := Hl.wf_key hq
    unfold keyOf KV
    rw [Tryd.underlying101]
    simp only [ktK, Value.formed, Tryd.underlying101, c3, hd]
    simp [Program.keyLits, Tryd.underlying101, Tryd.underlying3, c1, c3, w1, w2, w3, Value.cells, List.mapM_cons]
  obtain ⟨l, e⟩ := Option.isSome_iff_exists.1 h
  unfold KL
  rw [e]
  rfl
set_option maxRecDepth 1000000 in
theorem kl_ne {s v q s' v' q' : Int} (hs : W64 s) (hv : W64 v) (hq : W64 q) (hs' : W64 s') (hv' : W64 v') (hq' : W64 q') (hne : ¬ (s = s' ∧ v = v' ∧ q = q')) : KL s v q ≠ KL s' v' q' := fun h => hne (by
  have e := keyed.inj (kl_at hs hv hq) (by rw [h]; exact kl_at hs' hv' hq')
  unfold KV at e
  simp at e
  exact e)
/-- An element is held as it is. -/
def vR (v : Value) : Option (DataW Value × List MemPlace) := some (.held v, [])
/-- What the map has of a part of the time. -/
def mp (fs : List Ev) (s v q : Int) : Value := match idx (hitE s v q) fs with
  | some k => (match fs[k]? with
    | some f => BV k f.si
    | none => BV 0 0)
  | none => BV 0 0
def MapP (w : World) (g : Nat) (fs : List Ev) : Prop :=
  ∃ D : DataW Value, w.ownsMap Tryd.prog TK vR g fs.length D ∧ Go.Maps.size D = fs.length ∧ ∀ s v q, W64 s → W64 v → W64 q → Go.Maps.has D (KL s v q) = (idx (hitE s v q) fs).isSome ∧ D.atKey (KL s v q) (.held (BV 0 0)) = .held (mp fs s v q)
theorem MapP.made (w : World) : MapP (w.alloc (.map #[] 0)) w.heap.size [] := ⟨_, World.ownsMap_made _ _ _ _, rfl, fun s v q _ _ _ => ⟨rfl, rfl⟩⟩
theorem MapP.lt {w : World} {g : Nat} {fs : List Ev} (h : MapP w g fs) : g < w.heap.size := by
  obtain ⟨D, h, _⟩ := h
  exact h.lt
theorem MapP.of_block {w w' : World} {g : Nat} {fs : List Ev} (h : MapP w g fs) (hb : w'.heap[g]? = w.heap[g]?) : MapP w' g fs := by
  obtain ⟨D, ⟨es, cl, h1, h2, h3, h4⟩, h5⟩ := h
  exact ⟨D, ⟨es, cl, hb.trans h1, h2, h3, h4⟩, h5⟩
theorem MapP.kept {w w' : World} {g : Nat} {fs : List Ev} (h : MapP w g fs) (hb : Below w.heap.size w w') : MapP w' g fs := h.of_block (hb.block g h.lt)
set_option maxRecDepth 1000000 in
theorem MapP.put {w w0 : World} {g : Nat} {fs : List Ev} {e : Ev} {D : DataW Value} (hs : W64 e.s) (hv : W64 e.v) (hq : W64 (e.si / 101)) (ho0 : w0.ownsMap Tryd.prog TK vR g fs.length D) (hz : Go.Maps.size D = fs.length) (hn : idx (nearE e) fs = none)
    (hh : ∀ s v q, W64 s → W64 v → W64 q → Go.Maps.has D (KL s v q) = (idx (hitE s v q) fs).isSome ∧ D.atKey (KL s v q) (.held (BV 0 0)) = .held (mp fs s v q))
    (ho : w.ownsMap Tryd.prog TK vR g (fs.length + 1) (D.put (KL e.s e.v (e.si / 101)) (.held (BV fs.length e.si)))) : MapP w g (fs ++ [e]) := by
  have hT := ho0.tidy keyed
  have hkey := keyed.key (kl_at hs hv hq)
  have hnot : idx (hitE e.s e.v (e.si / 101)) fs = none := by
    cases h : idx (hitE e.s e.v (e.si / 101)) fs with
    | none => rfl
    | some k =>
      exfalso
      obtain ⟨f, hf, hp, _⟩ := idx_some _ _ _ h
      have hp := hit_of hp
      have := idx_none _ _ hn f (List.mem_of_getElem? hf)
      simp only [nearE, decide_eq_false_iff_not] at this
      exact this ⟨hp.1.symm, hp.2.1.symm, by omega, by omega⟩
  refine ⟨_, by simpa using ho, ?_, fun s v q h1 h2 h3 => ?_⟩
  · rw [Go.Maps.size_put hT, (hh e.s e.v (e.si / 101) hs hv hq).1, hnot, hz]
    simp
  · unfold mp
    rw [idx_snoc]
    by_cases hc : e.s = s ∧ e.v = v ∧ e.si / 101 = q
    · obtain ⟨rfl, rfl, rfl⟩ := hc
      rw [if_pos (by simp [hitE]), has_put_same hT.isMap hkey, atKey_put_same hT.isMap hkey]
      simp
    · have hne := kl_ne h1 h2 h3 hs hv hq (fun h => hc ⟨h.1.symm, h.2.1.symm, h.2.2.symm⟩)
      rw [if_neg (by simp only [hitE, decide_eq_true_eq]; exact hc), has_put_other hne, atKey_put_other hne]
      obtain ⟨a, b⟩ := hh s v q h1 h2 h3
      refine ⟨a, b.trans ?_⟩
      unfold mp
      cases h : idx (hitE s v q) fs with
      | none => rfl
      | some k =>
        obtain ⟨f, hf, _⟩ := idx_some _ _ _ h
        simp only [hf, List.getElem?_append_left (List.getElem?_eq_some_iff.1 hf).1]
end Go.Proofs.YtanhblokhcaoiaaDoor.Tr
