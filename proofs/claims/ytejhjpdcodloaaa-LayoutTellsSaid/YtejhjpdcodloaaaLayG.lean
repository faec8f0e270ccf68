/- What is placed, and what is free, as numbers; no condition. -/
import Derived.Test.YtejhjpdcodloaaaLayF
namespace Go.Proofs.Ytejhjpdcodloaaa.Ly42
open Go.ChangeShapes Go.WideShapes Go.ChangeAt Go.RowKit Base
set_option linter.unusedVariables false
set_option linter.unusedSimpArgs false

theorem had_app (a b : List Pt) (i : Nat) : had (a ++ b) i = (had a i || had b i) := by simp [had]
theorem cnt_zero (l : List Pt) (i : Nat) : (cnt l i == 0) = !had l i := by
  rw [← cnt_had]
  rcases Nat.eq_zero_or_pos (cnt l i) with h | h
  · rw [h]; rfl
  · rw [decide_eq_true h]
    simp
    omega
theorem free_iff {l : List Pt} {x : Pt} : freeB (cnt l) x = true ↔ rB x = true ∧ ∀ i, i < 64 → inP x i = true → had l i = false := by
  unfold freeB
  rw [Bool.and_eq_true, List.all_eq_true]
  constructor
  · rintro ⟨h1, h2⟩
    refine ⟨h1, fun i hi hx => ?_⟩
    have := h2 i (List.mem_range.2 hi)
    rw [hx, cnt_zero] at this
    simpa using this
  · rintro ⟨h1, h2⟩
    refine ⟨h1, fun i hi => ?_⟩
    rw [cnt_zero]
    cases e : inP x i with
    | false => rfl
    | true => rw [h2 i (List.mem_range.1 hi) e]; rfl
theorem in_lt {x : Pt} {i : Nat} (h : inP x i = true) : i < 64 := by
  unfold inP at h
  rw [Bool.and_eq_true] at h
  have h1 := rB_iff.1 h.1
  have h2 := of_decide_eq_true h.2
  omega
theorem had_lt {l : List Pt} {i : Nat} (h : had l i = true) : i < 64 := by
  obtain ⟨x, _, hx⟩ := List.any_eq_true.1 h
  exact in_lt hx
theorem apA_snoc (x : Pt) : ∀ (r a : List Pt), apA a (r ++ [x]) = (apA a r && freeB (cnt (a ++ r)) x)
  | [], a => by simp [apA]
  | y :: r, a => by
    show (freeB (cnt a) y && apA (a ++ [y]) (r ++ [x])) = _
    rw [apA_snoc x r (a ++ [y])]
    show _ = ((freeB (cnt a) y && apA (a ++ [y]) r) && _)
    rw [Bool.and_assoc, List.append_assoc]
    rfl
/-- A search that finds tells a place that is free. -/
theorem fnd_some {h : Nat → Bool} {s al : Nat} : ∀ (fu a r : Nat), fnd h s al fu a = some r → r + s ≤ 64 ∧ frB h r s = true ∧ ∃ q, r = a + q * al
  | 0, a, r, e => by cases e
  | fu + 1, a, r, e => by
    unfold fnd at e
    split at e
    · rename_i h1
      split at e
      · rename_i h2
        injection e with e
        subst e
        exact ⟨h1, h2, 0, by omega⟩
      · obtain ⟨h3, h4, q, h5⟩ := fnd_some fu _ _ e
        exact ⟨h3, h4, q + 1, by rw [h5, Nat.add_mul]; omega⟩
    · cases e
/-- What is placed. -/
structure Good (al : Nat) (tk pre : List Pt) (x : Pt) (z : Int) : Prop where
  m : x.m = z
  a : ∃ q : Nat, x.a = ((q * al : Nat) : Int)
  fr : freeB (cnt (tk ++ pre)) x = true
inductive Goods (al : Nat) (tk : List Pt) : List Pt → List Pt → List Int → Prop
  | nil (pre : List Pt) : Goods al tk pre [] []
  | cons (pre : List Pt) (x : Pt) (z : Int) (l : List Pt) (zs : List Int) : Good al tk pre x z → Goods al tk (pre ++ [x]) l zs → Goods al tk pre (x :: l) (z :: zs)
theorem plc_good (al : Nat) (tk : List Pt) : ∀ (zs : List Int) (out : List Pt) (i : Nat), (∀ z ∈ zs, 1 ≤ z ∧ z ≤ 8) → (∃ l, plc al tk out i zs = (out ++ l, -1, 0) ∧ Goods al tk out l zs) ∨ ∃ j : Nat, plc al tk out i zs = ([], (j : Int), 15)
  | [], out, i, _ => .inl ⟨[], by simp [plc], .nil _⟩
  | z :: r, out, i, hz => by
    obtain ⟨h1, h8⟩ := hz z (by simp)
    obtain ⟨s, rfl⟩ : ∃ s : Nat, z = (s : Int) := ⟨z.toNat, by omega⟩
    unfold plc
    cases e : fnd (had (tk ++ out)) ((s : Int)).toNat al 65 0 with
    | none => exact .inr ⟨i, rfl⟩
    | some a =>
      rw [show ((s : Int)).toNat = s by simp] at e
      obtain ⟨h2, h3, q, h4⟩ := fnd_some _ _ _ e
      rcases plc_good al tk r (out ++ [⟨(a : Int), (s : Int)⟩]) (i + 1) (fun z hz' => hz z (by simp [hz'])) with ⟨l, hl, hg⟩ | ⟨j, hj⟩
      · refine .inl ⟨⟨(a : Int), (s : Int)⟩ :: l, ?_, .cons _ _ _ _ _ ⟨rfl, ⟨q, by simp only; rw [h4, Nat.zero_add]⟩, by rw [free_dec (by omega) (by omega) h2]; exact h3⟩ hg⟩
        simp only
        rw [hl]
        simp
      · exact .inr ⟨j, hj⟩
theorem Goods.len {al : Nat} {tk pre l : List Pt} {zs : List Int} (h : Goods al tk pre l zs) : l.length = zs.length := by
  induction h with
  | nil => rfl
  | cons _ _ _ _ _ _ _ ih => simp [ih]
theorem Goods.at {al : Nat} {tk pre l : List Pt} {zs : List Int} (h : Goods al tk pre l zs) : ∀ (k : Nat) (x : Pt) (z : Int), l[k]? = some x → zs[k]? = some z → x.m = z ∧ ∃ q : Nat, x.a = ((q * al : Nat) : Int) := by
  induction h with
  | nil => intro k x z hx; simp at hx
  | cons pre y z' l zs hg _ ih =>
    intro k x z hx hz
    cases k with
    | zero =>
      simp at hx hz
      subst hx
      subst hz
      exact ⟨hg.m, hg.a⟩
    | succ k => exact ih k x z (by simpa using hx) (by simpa using hz)
theorem Goods.free {al : Nat} {tk pre l : List Pt} {zs : List Int} (h : Goods al tk pre l zs) : ∀ x ∈ l, rB x = true ∧ ∀ i, inP x i = true → had tk i = false ∧ had pre i = false := by
  induction h with
  | nil => intro x hx; cases hx
  | cons pre y z' l zs hg _ ih =>
    intro x hx
    rcases List.mem_cons.1 hx with rfl | hx
    · obtain ⟨h1, h2⟩ := free_iff.1 hg.fr
      refine ⟨h1, fun i hi => ?_⟩
      have := h2 i (in_lt hi) hi
      rw [had_app] at this
      simpa using this
    · obtain ⟨h1, h2⟩ := ih x hx
      refine ⟨h1, fun i hi => ?_⟩
      have := h2 i hi
      rw [had_app] at this
      simp at this
      exact ⟨this.1, this.2.1⟩
theorem Goods.apart {al : Nat} {tk pre l : List Pt} {zs : List Int} (h : Goods al tk pre l zs) : ∀ a : List Pt, (∀ i, had a i = true → had pre i = true) → apA a l = true := by
  induction h with
  | nil => intro a _; rfl
  | cons pre y z' l zs hg _ ih =>
    intro a ha
    obtain ⟨h1, h2⟩ := free_iff.1 hg.fr
    show (freeB (cnt a) y && apA (a ++ [y]) l) = true
    rw [Bool.and_eq_true]
    refine ⟨free_iff.2 ⟨h1, fun i hi hy => ?_⟩, ih _ (fun i hi => ?_)⟩
    · have h3 := h2 i hi hy
      rw [had_app] at h3
      simp at h3
      cases e : had a i with
      | false => rfl
      | true => rw [ha i e] at h3; cases h3.2
    · rw [had_app] at hi ⊢
      simp only [Bool.or_eq_true] at hi ⊢
      exact hi.imp (ha i) id
theorem meet_no {x o : Pt} (h : ∀ i, inP x i = true → inP o i = false) : mB x o = false := by
  cases e : mB x o with
  | false => rfl
  | true =>
    exfalso
    unfold mB at e
    simp only [Bool.and_eq_true, decide_eq_true_eq] at e
    obtain ⟨⟨⟨hx, ho⟩, h1⟩, h2⟩ := e
    have rx := rB_iff.1 hx
    have ro := rB_iff.1 ho
    have hm : ∃ i : Nat, (i : Int) = max x.a o.a := ⟨(max x.a o.a).toNat, by omega⟩
    obtain ⟨i, hi⟩ := hm
    have e1 : inP x i = true := by unfold inP; rw [hx, Bool.true_and]; exact decide_eq_true (by omega)
    have e2 : inP o i = true := by unfold inP; rw [ho, Bool.true_and]; exact decide_eq_true (by omega)
    rw [h i e1] at e2
    cases e2
/-! ### How many -/
def nB (p : Nat → Bool) : Nat → Nat
  | 0 => 0
  | k + 1 => nB p k + (if p k = true then 1 else 0)
theorem us_nB (l : List Pt) : ∀ k, usN (cnt l) k = nB (had l) k
  | 0 => rfl
  | k + 1 => by
    show usN (cnt l) k + (if 0 < cnt l k then 1 else 0) = nB (had l) k + (if had l k = true then 1 else 0)
    rw [us_nB l k, ← cnt_had]
    by_cases h : 0 < cnt l k
    · rw [if_pos h, if_pos (decide_eq_true h)]
    · rw [if_neg h, if_neg (by simpa using h)]
theorem nB_not (p q : Nat → Bool) (h : ∀ i, i < 64 → q i = !p i) : ∀ k, k ≤ 64 → nB p k + nB q k = k
  | 0, _ => rfl
  | k + 1, hk => by
    have ih := nB_not p q h k (by omega)
    have hq := h k (by omega)
    show nB p k + (if p k = true then 1 else 0) + (nB q k + (if q k = true then 1 else 0)) = k + 1
    rw [hq]
    cases p k <;> simp <;> omega
theorem nB_or (p q r : Nat → Bool) (h : ∀ i, r i = (p i || q i)) (hd : ∀ i, q i = true → p i = false) : ∀ k, nB r k = nB p k + nB q k
  | 0 => rfl
  | k + 1 => by
    have ih := nB_or p q r h hd k
    have h1 := h k
    have h2 := hd k
    show nB r k + (if r k = true then 1 else 0) = nB p k + (if p k = true then 1 else 0) + (nB q k + (if q k = true then 1 else 0))
    rw [ih, h1]
    cases hp : p k <;> cases hq : q k
    · simp
    · simp; omega
    · simp; omega
    · rw [hp] at h2; exact absurd (h2 hq) (by simp)
/-! ### The parts of places -/
theorem inP_one (k i : Nat) (hk : k < 64) : inP ⟨(k : Int), 1⟩ i = decide (i = k) := by
  unfold inP
  rw [show rB ⟨(k : Int), 1⟩ = true from rB_iff.2 ⟨by simp only; omega, by simp only; omega, by simp only; omega, by simp only; omega⟩, Bool.true_and, decide_eq_decide]
  simp only
  omega
theorem prN_good (p : Nat → Bool) : ∀ k, k ≤ 64 → (∀ i, had (prN p k) i = (decide (i < k) && p i)) ∧ apA [] (prN p k) = true ∧ ∀ x ∈ prN p k, rB x = true
  | 0, _ => ⟨fun i => by simp [prN, had], rfl, fun x hx => by cases hx⟩
  | k + 1, hk => by
    obtain ⟨h1, h2, h3⟩ := prN_good p k (by omega)
    have hl := prN_last p k
    unfold prN
    by_cases hp : p k = false
    · rw [if_pos hp]
      refine ⟨fun i => ?_, h2, h3⟩
      rw [h1 i]
      by_cases e : i = k
      · subst e; rw [hp]; simp
      · congr 1; rw [decide_eq_decide]; omega
    · rw [if_neg hp]
      have hp' : p k = true := by simpa using hp
      have hnk : ∀ l : List Pt, (∀ i, had l i = true → had (prN p k) i = true) → had l k = false := fun l hl' => by
        cases e : had l k with
        | false => rfl
        | true =>
          have := hl' k e
          rw [h1 k] at this
          simp at this
      by_cases hq : 0 < k ∧ p (k - 1) = true
      · rw [if_pos hq]
        rcases hl with ⟨_, h'⟩ | ⟨l, x, hL, _, h0, hm, hx⟩
        · rcases h' with h' | h'
          · omega
          · rw [hq.2] at h'; cases h'
        · have hxe : x.a + x.m = (k : Int) := by
            rcases hx with ⟨hx, _⟩ | ⟨_, hx⟩
            · exact hx
            · rw [hq.2] at hx; cases hx
          rw [hL] at h1 h2 h3 hnk ⊢
          rw [bump_snoc]
          have hrx := h3 x (by simp)
          have hry : rB ⟨x.a, x.m + 1⟩ = true := by
            have := rB_iff.1 hrx
            exact rB_iff.2 ⟨by simp only; omega, by simp only; omega, by simp only; omega, by simp only; omega⟩
          have hin : ∀ i, inP ⟨x.a, x.m + 1⟩ i = (inP x i || decide (i = k)) := fun i => by
            unfold inP
            rw [hrx, hry, Bool.true_and, Bool.true_and, ← Bool.decide_or, decide_eq_decide]
            simp only
            omega
          refine ⟨fun i => ?_, ?_, fun y hy => ?_⟩
          · have := h1 i
            rw [had_snoc] at this ⊢
            rw [hin, ← Bool.or_assoc, this]
            by_cases e : i = k
            · subst e; rw [hp']; simp
            · rw [decide_eq_false e, Bool.or_false]; congr 1; rw [decide_eq_decide]; omega
          · rw [apA_snoc, List.nil_append] at h2 ⊢
            rw [Bool.and_eq_true] at h2 ⊢
            refine ⟨h2.1, free_iff.2 ⟨hry, fun i hi hy => ?_⟩⟩
            rw [hin, Bool.or_eq_true] at hy
            rcases hy with hy | hy
            · exact (free_iff.1 h2.2).2 i hi hy
            · have := of_decide_eq_true hy
              subst this
              exact hnk l (fun i hi => by rw [had_app, hi]; rfl)
          · rcases List.mem_append.1 hy with hy | hy
            · exact h3 y (by simp [hy])
            · simp at hy; subst hy; exact hry
      · rw [if_neg hq]
        refine ⟨fun i => ?_, ?_, fun y hy => ?_⟩
        · rw [had_snoc, h1 i, inP_one k i (by omega)]
          by_cases e : i = k
          · subst e; rw [hp']; simp
          · rw [decide_eq_false e, Bool.or_false]; congr 1; rw [decide_eq_decide]; omega
        · rw [apA_snoc, List.nil_append, h2, Bool.true_and]
          refine free_iff.2 ⟨rB_iff.2 ⟨by simp only; omega, by simp only; omega, by simp only; omega, by simp only; omega⟩, fun i hi hy => ?_⟩
          rw [inP_one k i (by omega)] at hy
          have := of_decide_eq_true hy
          subst this
          exact hnk _ (fun i hi => hi)
        · rcases List.mem_append.1 hy with hy | hy
          · exact h3 y hy
          · simp at hy; subst hy; exact rB_iff.2 ⟨by simp only; omega, by simp only; omega, by simp only; omega, by simp only; omega⟩
theorem free_nil : (prN (fun i => had [] i == false) 64).length = 1 := by decide +kernel
/-- What is used, and what is free, is the memory. -/
theorem used_free (l : List Pt) : usN (cnt l) 64 + usN (cnt (prN (fun i => had l i == false) 64)) 64 = 64 := by
  rw [us_nB, us_nB]
  refine nB_not _ _ (fun i hi => ?_) 64 (Nat.le_refl _)
  rw [(prN_good _ 64 (Nat.le_refl _)).1 i, decide_eq_true hi, Bool.true_and]
  cases had l i <;> rfl
theorem used_app {tk l : List Pt} (h : ∀ i, had l i = true → had tk i = false) : usN (cnt (tk ++ l)) 64 = usN (cnt tk) 64 + usN (cnt l) 64 := by
  rw [us_nB, us_nB, us_nB]
  exact nB_or _ _ _ (fun i => had_app tk l i) h 64
theorem Goods.had {al : Nat} {tk pre l : List Pt} {zs : List Int} (h : Goods al tk pre l zs) (i : Nat) (hi : Ly42.had l i = true) : Ly42.had tk i = false := by
  obtain ⟨x, hx, hxi⟩ := List.any_eq_true.1 hi
  exact ((h.free x hx).2 i hxi).1
end Go.Proofs.Ytejhjpdcodloaaa.Ly42
