/- Parts lie apart: all are right, and no two meet (pure); no condition. -/
import Derived.Test.YtejhjpdcodloaaaLayJ
namespace Go.Proofs.Ytejhjpdcodloaaa.Ly42
set_option linter.unusedVariables false
set_option linter.unusedSimpArgs false

def rAll (l : List Pt) (k : Nat) : Bool := (List.range k).all (fun i => rB (atP l i))
theorem rAll_next (l : List Pt) (k : Nat) : rAll l (k + 1) = (rAll l k && rB (atP l k)) := by simp [rAll, List.range_succ]
/-- No place of x is had by these. -/
theorem had_meet {l : List Pt} {x : Pt} (hx : rB x = true) : (∀ i, i < 64 → inP x i = true → had l i = false) ↔ ∀ y ∈ l, mB y x = false := by
  constructor
  · intro h y hy
    cases e : mB y x with
    | false => rfl
    | true =>
      exfalso
      have h2 : mB y x = false := meet_no (fun i hi => by
        cases e2 : inP x i with
        | false => rfl
        | true =>
          have h3 := h i (in_lt e2) e2
          have h4 : had l i = true := List.any_eq_true.2 ⟨y, hy, hi⟩
          rw [h3] at h4
          cases h4)
      rw [e] at h2
      cases h2
  · intro h i hi h1
    cases e : had l i with
    | false => rfl
    | true =>
      obtain ⟨y, hy, h2⟩ := List.any_eq_true.1 e
      have h3 := mB_of h2 h1
      rw [h y hy] at h3
      cases h3
theorem apA_iff : ∀ (n : Nat) (l : List Pt), l.length = n → (apA [] l = true ↔ (∀ x ∈ l, rB x = true) ∧ ∀ (i j : Nat) (x y : Pt), i < j → l[i]? = some x → l[j]? = some y → mB x y = false)
  | 0, l, hl => by
    have : l = [] := List.eq_nil_of_length_eq_zero hl
    subst this
    simp [apA]
  | n + 1, l, hl => by
    obtain ⟨r, x, rfl⟩ : ∃ r x, l = r ++ [x] := ⟨l.dropLast, l.getLast (by intro h; rw [h] at hl; cases hl), (List.dropLast_concat_getLast _).symm⟩
    have hr : r.length = n := by simpa using hl
    have ih := apA_iff n r hr
    rw [apA_snoc, List.nil_append, Bool.and_eq_true, ih, free_iff]
    constructor
    · rintro ⟨⟨h1, h2⟩, h3, h4⟩
      have h5 := (had_meet h3).1 h4
      refine ⟨fun y hy => ?_, fun i j y z hij hy hz => ?_⟩
      · rcases List.mem_append.1 hy with h | h
        · exact h1 y h
        · rw [List.mem_singleton.1 h]; exact h3
      · have hj : j < n + 1 := by have := (List.getElem?_eq_some_iff.1 hz).1; rwa [hl] at this
        rw [List.getElem?_append_left (by omega)] at hy
        rcases Nat.lt_or_ge j n with h | h
        · rw [List.getElem?_append_left (by omega)] at hz
          exact h2 i j y z hij hy hz
        · rw [List.getElem?_append_right (by omega), show j - r.length = 0 by omega] at hz
          have : x = z := Option.some.inj hz
          subst this
          exact h5 y (List.mem_of_getElem? hy)
    · rintro ⟨h1, h2⟩
      refine ⟨⟨fun y hy => h1 y (List.mem_append_left _ hy), fun i j y z hij hy hz => ?_⟩, h1 x (by simp), (had_meet (h1 x (by simp))).2 fun y hy => ?_⟩
      · have hj := (List.getElem?_eq_some_iff.1 hz).1
        exact h2 i j y z hij (by rw [List.getElem?_append_left (by omega)]; exact hy) (by rw [List.getElem?_append_left hj]; exact hz)
      · obtain ⟨i, hi⟩ := List.mem_iff_getElem?.1 hy
        have hil := (List.getElem?_eq_some_iff.1 hi).1
        exact h2 i n y x (by omega) (by rw [List.getElem?_append_left hil]; exact hi) (by rw [List.getElem?_append_right (by omega), show n - r.length = 0 by omega]; rfl)
theorem ovJ_nil {l : List Pt} {i : Nat} : ∀ {js : List Nat}, ovJ l i js = [] ↔ ∀ j ∈ js, mB (atP l i) (atP l j) = false
  | [] => by simp [ovJ]
  | j :: js => by
    rw [ovJ_cons]
    by_cases h : mB (atP l i) (atP l j) = true
    · simp [h]
    · simp [h, ovJ_nil (js := js)]
theorem ovA_nil {l : List Pt} : ∀ {js : List Nat}, ovA l js = [] ↔ js.Pairwise (fun a b => mB (atP l a) (atP l b) = false)
  | [] => by simp [ovA]
  | a :: r => by
    show ovJ l a r ++ ovA l r = [] ↔ _
    rw [List.append_eq_nil_iff, ovJ_nil, ovA_nil, List.pairwise_cons]
theorem apart_is (l : List Pt) : apA [] l = (rAll l l.length && (ovA l (List.range l.length)).isEmpty) := by
  rw [Bool.eq_iff_iff, apA_iff _ l rfl, Bool.and_eq_true, List.isEmpty_iff, ovA_nil]
  constructor
  · rintro ⟨h1, h2⟩
    refine ⟨List.all_eq_true.2 fun i hi => ?_, ?_⟩
    · have hil := List.mem_range.1 hi
      rw [atP_is (List.getElem?_eq_getElem hil)]
      exact h1 _ (List.getElem_mem hil)
    · rw [List.pairwise_iff_getElem]
      intro i j hi hj hij
      rw [List.length_range] at hi hj
      rw [List.getElem_range, List.getElem_range, atP_is (List.getElem?_eq_getElem hi), atP_is (List.getElem?_eq_getElem hj)]
      exact h2 i j _ _ hij (List.getElem?_eq_getElem hi) (List.getElem?_eq_getElem hj)
  · rintro ⟨h1, h2⟩
    refine ⟨fun x hx => ?_, fun i j x y hij hx hy => ?_⟩
    · obtain ⟨i, hi⟩ := List.mem_iff_getElem?.1 hx
      have hil := (List.getElem?_eq_some_iff.1 hi).1
      have := List.all_eq_true.1 h1 i (List.mem_range.2 hil)
      rwa [atP_is hi] at this
    · have hjl := (List.getElem?_eq_some_iff.1 hy).1
      rw [List.pairwise_iff_getElem] at h2
      have := h2 i j (by rw [List.length_range]; omega) (by rw [List.length_range]; exact hjl) hij
      rw [List.getElem_range, List.getElem_range, atP_is hx, atP_is hy] at this
      exact this
end Go.Proofs.Ytejhjpdcodloaaa.Ly42
