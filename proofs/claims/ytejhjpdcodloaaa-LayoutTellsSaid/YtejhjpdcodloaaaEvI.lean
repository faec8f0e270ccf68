/- The run of a region whose order is drawn, against every order. -/
import Derived.Test.YtejhjpdcodloaaaEvH
namespace Go.Proofs.Ytejhjpdcodloaaa.Ev
noncomputable section
open Go Go.RowKit
set_option linter.unusedVariables false
set_option linter.unusedSimpArgs false

variable {L L' L'' : LS} {D D' D'' : Nat → Prop} {m m' m'' : Nat → MB} {P : Program}

inductive StepC (P : Program) (evf : Evf) (ro : Nat) (L0 : LS) (ops : Array Oper) (M : List Nat) (i : Nat) (o : Oper) (st : PS) : SK → Value → List Value → PS → Prop
  | skip (t' : Tr Value) (hw : wantL ops st.t o = some false) : StepC P evf ro L0 ops M i o st .skip (.chan (some 0)) [] ⟨t', st.L, st.pend⟩
  | load (t' : Tr Value) (v : Value) (hw : wantL ops st.t o = some true) (h : ldo P L0 (lev L0.gl st.t) o = some v) : StepC P evf ro L0 ops M i o st .load v [] ⟨t', st.L, st.pend⟩
  | pure (t' : Tr Value) (v : Value) (hw : wantL ops st.t o = some true) (h : rdop P (fxOf L0) (lev L0.gl st.t) o = some v) : StepC P evf ro L0 ops M i o st .pure v [] ⟨t', st.L, st.pend⟩
  | alloc (t' : Tr Value) (cs : List Value) (sh : Option (Nat × Nat)) (hw : wantL ops st.t o = some true) (h : aop P (lev L0.gl st.t) o = some (cs, sh)) : StepC P evf ro L0 ops M i o st .alloc (shp (L0.n + i) sh) cs ⟨t', st.L, (i, cs) :: st.pend⟩
  | eff (t' : Tr Value) (v : Value) (L' : LS) (hw : wantL ops st.t o = some true) (hk : effK o = true) (h : opE P evf (bif fullB ops M i then ro else L0.n) st.t o (joins L0.n (st.pend.filter fun p => wb M i p.1) st.L) = some (v, L')) :
      StepC P evf ro L0 ops M i o st .eff v [] ⟨t', L', st.pend.filter fun p => !wb M i p.1⟩
theorem regStep_inv {evf : Evf} {ro : Nat} {L0 : LS} {ops : Array Oper} {M : List Nat} {nt i : Nat} {o : Oper} {st st' : PS} {k : SK} {v : Value} {c : List Value} (h : regStep P evf ro L0 ops M nt i o st = some (k, v, c, st')) :
    putL nt st.t o.dst v = some st'.t ∧ StepC P evf ro L0 ops M i o st k v c st' := by
  unfold regStep at h
  split at h <;> try (cases h; done)
  · rename_i hw
    split at h
    · rename_i u hu
      split at h <;> try (cases h; done)
      rename_i t' ht
      cases h
      exact ⟨ht, .load t' _ hw hu⟩
    · split at h
      · rename_i u hu
        split at h <;> try (cases h; done)
        rename_i t' ht
        cases h
        exact ⟨ht, .pure t' _ hw hu⟩
      · split at h
        · rename_i cs sh hc
          split at h <;> try (cases h; done)
          rename_i t' ht
          cases h
          exact ⟨ht, .alloc t' _ sh hw hc⟩
        · cases hk : effK o with
          | false => rw [hk, cond_false] at h; cases h
          | true =>
            rw [hk, cond_true] at h
            split at h <;> try (cases h; done)
            rename_i u L' hu
            split at h <;> try (cases h; done)
            rename_i t' ht
            cases h
            exact ⟨ht, .eff t' _ L' hw hk hu⟩
  · rename_i hw
    split at h <;> try (cases h; done)
    rename_i t' ht
    cases h
    exact ⟨ht, .skip t' hw⟩

section
variable {evf : Evf} {ro : Nat} {ops : Array Oper} {nt : Nat} {t : Tr Value}

theorem Run.tspec (R : Run P evf ro L ops nt t) : ∀ i, i ≤ ops.size → ∀ d v, (R.S i).t.get d = some v →
    (∃ j o, j < i ∧ ops[j]? = some o ∧ o.dst = some d ∧ v = R.V j) ∨ (t.get d = some v ∧ ∀ j o, j < i → ops[j]? = some o → o.dst ≠ some d)
  | 0, _, d, v, h => by rw [R.st0] at h; exact .inr ⟨h, fun j o hj => absurd hj (Nat.not_lt_zero _)⟩
  | i + 1, hi, d, v, h => by
    have ho : ops[i]? = some ops[i] := Array.getElem?_eq_getElem (by omega)
    obtain ⟨hp, _⟩ := regStep_inv (R.step i _ ho)
    have keep : (R.S i).t.get d = some v → (∀ o, ops[i]? = some o → o.dst ≠ some d) → ((∃ j o, j < i + 1 ∧ ops[j]? = some o ∧ o.dst = some d ∧ v = R.V j) ∨ (t.get d = some v ∧ ∀ j o, j < i + 1 → ops[j]? = some o → o.dst ≠ some d)) := fun h' hne => by
      rcases R.tspec i (by omega) d v h' with ⟨j, o, hj, h1, h2, h3⟩ | ⟨h1, h2⟩
      · exact Or.inl ⟨j, o, by omega, h1, h2, h3⟩
      · refine Or.inr ⟨h1, fun j o hj ho' => ?_⟩
        by_cases e : j = i
        · subst e; exact hne o ho'
        · exact h2 j o (by omega) ho'
    unfold putL at hp
    split at hp
    · rename_i hd
      simp only [Option.some.injEq] at hp
      rw [← hp] at h
      exact keep h fun o ho' => by rw [ho] at ho'; cases ho'; rw [hd]; simp
    · rename_i d' hd
      cases hb : Nat.blt d' nt with
      | false => rw [hb, cond_false] at hp; cases hp
      | true =>
        rw [hb, cond_true, forceV_eq] at hp
        simp only [Option.some.injEq] at hp
        rw [← hp, Tr.get_set] at h
        by_cases e : d = d'
        · rw [if_pos e] at h
          exact .inl ⟨i, ops[i], by omega, ho, by rw [hd, e], by cases h; rfl⟩
        · rw [if_neg e] at h
          exact keep h fun o ho' => by
            rw [ho] at ho'; cases ho'; rw [hd]
            simp only [ne_eq, Option.some.injEq]
            exact fun e' => e e'.symm

theorem Run.lkeep1 (R : Run P evf ro L ops nt t) {i : Nat} (hi : i < ops.size) (hk : R.K i ≠ .eff) : (R.S (i + 1)).L = (R.S i).L := by
  have ho : ops[i]? = some ops[i] := Array.getElem?_eq_getElem hi
  obtain ⟨_, hc⟩ := regStep_inv (R.step i _ ho)
  generalize hS : R.S (i + 1) = s at hc
  generalize hV : R.V i = v at hc
  generalize hC : R.C i = cc at hc
  cases hK : R.K i <;> rw [hK] at hc <;> first | (cases hc; rfl) | exact absurd hK hk
theorem Run.lkeep (R : Run P evf ro L ops nt t) {i : Nat} : ∀ (d : Nat), i + d ≤ ops.size → (∀ j, i ≤ j → j < i + d → R.K j ≠ .eff) → (R.S (i + d)).L = (R.S i).L
  | 0, _, _ => rfl
  | d + 1, hd, hk => by
    rw [show i + (d + 1) = i + d + 1 by omega, R.lkeep1 (by omega) (hk (i + d) (by omega) (by omega))]
    exact R.lkeep d (by omega) fun j h1 h2 => hk j h1 (by omega)
theorem Run.next (R : Run P evf ro L ops nt t) : ∀ (d i : Nat), i + d = ops.size → ∃ c, i ≤ c ∧ c ≤ ops.size ∧ (c < ops.size → R.K c = .eff) ∧ (∀ j, i ≤ j → j < c → R.K j ≠ .eff) ∧ (R.S c).L = (R.S i).L
  | 0, i, h => ⟨i, Nat.le_refl _, by omega, fun h' => by omega, fun j h1 h2 => by omega, rfl⟩
  | d + 1, i, h => by
    by_cases hk : R.K i = .eff
    · exact ⟨i, Nat.le_refl _, by omega, fun _ => hk, fun j h1 h2 => by omega, rfl⟩
    · obtain ⟨c, h1, h2, h3, h4, h5⟩ := R.next d (i + 1) (by omega)
      refine ⟨c, by omega, h2, h3, fun j g1 g2 => ?_, h5.trans (R.lkeep1 (by omega) hk)⟩
      by_cases e : j = i
      · subst e; exact hk
      · exact h4 j (by omega) g2

theorem Run.pspec (hB : Back ops) (R : Run P evf ro L ops nt t) : ∀ i, i ≤ ops.size → (∀ p ∈ (R.S i).pend, p.1 < i ∧ R.K p.1 = .alloc ∧ p.2 = R.C p.1 ∧ ∀ e, e < i → R.K e = .eff → wb (mskOf ops) e p.1 = false) ∧ (R.S i).pend.Pairwise fun p q => p.1 ≠ q.1
  | 0, _ => by rw [R.st0]; exact ⟨fun p hp => by simp at hp, List.Pairwise.nil⟩
  | i + 1, hi => by
    obtain ⟨ih, ihp⟩ := R.pspec hB i (by omega)
    have ho : ops[i]? = some ops[i] := Array.getElem?_eq_getElem (by omega)
    obtain ⟨_, hc⟩ := regStep_inv (R.step i _ ho)
    have up : R.K i ≠ .eff → (∀ p ∈ (R.S i).pend, p.1 < i + 1 ∧ R.K p.1 = .alloc ∧ p.2 = R.C p.1 ∧ ∀ e, e < i + 1 → R.K e = .eff → wb (mskOf ops) e p.1 = false) := fun hne p hp => by
      obtain ⟨h1, h2, h3, h4⟩ := ih p hp
      refine ⟨by omega, h2, h3, fun e he hk => ?_⟩
      by_cases e' : e = i
      · subst e'; exact absurd hk hne
      · exact h4 e (by omega) hk
    generalize hS : R.S (i + 1) = s at hc
    generalize hV : R.V i = v at hc
    generalize hC : R.C i = cc at hc
    cases hK : R.K i <;> rw [hK] at hc
    case skip => cases hc; exact ⟨up (by rw [hK]; simp), ihp⟩
    case pure => cases hc; exact ⟨up (by rw [hK]; simp), ihp⟩
    case load => cases hc; exact ⟨up (by rw [hK]; simp), ihp⟩
    case alloc =>
      cases hc
      refine ⟨fun p hp => ?_, List.Pairwise.cons (fun p hp => ?_) ihp⟩
      · rcases List.mem_cons.1 hp with rfl | hp
        · exact ⟨by simp, hK, hC.symm, fun e he hk => by
            cases hb : wb (mskOf ops) e i with
            | false => rfl
            | true =>
              have := wb_lt hB e i hb
              omega⟩
        · exact up (by rw [hK]; simp) p hp
      · exact fun e => by have := (ih p hp).1; omega
    case eff =>
      cases hc
      refine ⟨fun p hp => ?_, ihp.filter _⟩
      rw [List.mem_filter] at hp
      obtain ⟨h1, h2, h3, h4⟩ := ih p hp.1
      refine ⟨by omega, h2, h3, fun e he hk => ?_⟩
      by_cases e' : e = i
      · subst e'; simpa using hp.2
      · exact h4 e (by omega) hk
end
end
end Go.Proofs.Ytejhjpdcodloaaa.Ev
