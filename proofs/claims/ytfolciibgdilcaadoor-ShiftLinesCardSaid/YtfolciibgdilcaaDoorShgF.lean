/- How many halves were looked at, and a map of those that were: as many; no condition. -/
import Derived.Test.YtfolciibgdilcaaDoorShgE
import Derived.Maps.Own
import Derived.Maps.OwnSet
import Derived.DeepKeys4
namespace Go.Proofs.YtfolciibgdilcaaDoor.Ly15
open Go.ChangeShapes Go.WideShapes Go.ChangeAt Go.RowKit Base Ly3 Go.WideMaps Go.WideElems Go.Maps
set_option linter.unusedVariables false
set_option linter.unusedSimpArgs false

theorem putK_look (f : Nat → Bool) (l m : Nat) (y : Bool) (hm : m < 64) (m' : Nat) (y' : Bool) (hm' : m' < 64) : putK f l m (bn y) 4 (2 + 4 * m' + 2 * bn y' + 1) = if m' = m ∧ y' = y then true else f (2 + 4 * m' + 2 * bn y' + 1) := by
  have h := (putK_at f l m (bn y) hm (bn_lt y) 4 (by omega) 0 m' (bn y') (by omega) hm' (bn_lt y')).1
  simp only [Nat.mul_zero, Nat.add_zero] at h
  rw [h]
  by_cases e : m' = m ∧ y' = y
  · rw [if_pos e, if_pos ⟨e.1, by rw [e.2], by omega⟩]
  · rw [if_neg e, if_neg (fun h => e ⟨h.1, bn_eq.1 h.2.1⟩)]
theorem seenN_step (f : Nat → Bool) (k : Nat) : seenN f (k + 1) = seenN f k + (if f (2 + 4 * k + 2 * bn false + 1) = true then 1 else 0) + (if f (2 + 4 * k + 2 * bn true + 1) = true then 1 else 0) := rfl
theorem seenN_put (f : Nat → Bool) (l m : Nat) (y : Bool) (hm : m < 64) : ∀ z, z ≤ 64 → seenN (putK f l m (bn y) 4) z = if m < z ∧ f (2 + 4 * m + 2 * bn y + 1) = false then seenN f z + 1 else seenN f z
  | 0, _ => by rw [if_neg (by omega)]; rfl
  | z + 1, hz => by
    have ih := seenN_put f l m y hm z (by omega)
    rw [seenN_step, seenN_step, ih, putK_look f l m y hm z false (by omega), putK_look f l m y hm z true (by omega)]
    by_cases e : z = m
    · subst e
      rw [if_neg (by omega)]
      cases y
      · rw [if_pos (⟨rfl, rfl⟩ : z = z ∧ false = false), if_neg (by simp : ¬ (z = z ∧ true = false))]
        cases f (2 + 4 * z + 2 * bn false + 1) <;> simp <;> omega
      · rw [if_pos (⟨rfl, rfl⟩ : z = z ∧ true = true), if_neg (by simp : ¬ (z = z ∧ false = true))]
        cases f (2 + 4 * z + 2 * bn true + 1) <;> simp <;> omega
    · have c1 : ¬ (z = m ∧ false = y) := fun h => e h.1
      have c2 : ¬ (z = m ∧ true = y) := fun h => e h.1
      rw [if_neg c1, if_neg c2]
      by_cases g : m < z ∧ f (2 + 4 * m + 2 * bn y + 1) = false
      · have g' : m < z + 1 ∧ f (2 + 4 * m + 2 * bn y + 1) = false := ⟨by omega, g.2⟩
        rw [if_pos g, if_pos g']
        omega
      · have g' : ¬ (m < z + 1 ∧ f (2 + 4 * m + 2 * bn y + 1) = false) := fun h => g ⟨by omega, h.2⟩
        rw [if_neg g, if_neg g']
abbrev TK : TypeId := 48
theorem laidOut : laidOutB Tryd.prog = true := by kernel_rfl
theorem rowK : TK < Tryd.prog.types.size := of_decide_eq_true (by kernel_rfl)
theorem wideK : (match Tryd.prog.underlying TK with | some (.array _ _) | some (.struct _) => true | _ => false) = true := by kernel_rfl
set_option maxRecDepth 1000000 in
theorem keyed : Go.Maps.Keyed Tryd.prog TK := Go.Maps.Keyed.of_law (deep_law_laid laidOut (m := 2) (by omega) rowK (by kernel_rfl) wideK)
def KV (m j : Nat) : Value := .agg #[.int .i64 (m : Int), .int .i64 (j : Int)]
noncomputable def KL (m j : Nat) : Lit := (keyOf Tryd.prog TK (KV m j)).getD (.bool true)
theorem kv_all : ∀ m : Fin 64, ∀ j : Fin 2, (keyOf Tryd.prog TK (KV m.1 j.1)).isSome = true := by decide +kernel
theorem kl_at {m j : Nat} (hm : m < 64) (hj : j < 2) : keyOf Tryd.prog TK (KV m j) = some (KL m j) := by
  have h := kv_all ⟨m, hm⟩ ⟨j, hj⟩
  unfold KL
  obtain ⟨l, e⟩ := Option.isSome_iff_exists.1 h
  simp only at e
  rw [e]
  rfl
theorem kv_inj {m j m' j' : Nat} (h : KV m j = KV m' j') : m = m' ∧ j = j' := by
  unfold KV at h
  simp at h
  omega
theorem kl_ne {m j m' j' : Nat} (hm : m < 64) (hj : j < 2) (hm' : m' < 64) (hj' : j' < 2) (hne : ¬ (m = m' ∧ j = j')) : KL m j ≠ KL m' j' := fun h =>
  hne (kv_inj (keyed.inj (kl_at hm hj) (by rw [h]; exact kl_at hm' hj')))
/-- A map of the halves that were looked at. -/
def SeenAt (w : World) (g n : Nat) (f : Nat → Bool) (z : Nat) : Prop :=
  ∃ D : DataW Unit, w.ownsMap Tryd.prog TK (plainElem Tryd.prog 4) g n D ∧ (∀ m, m < 64 → ∀ y, Go.Maps.has D (KL m (bn y)) = f (2 + 4 * m + 2 * bn y + 1)) ∧ Go.Maps.size D = seenN f z
set_option maxRecDepth 1000000 in
theorem SeenAt.step {w w' : World} {g n n' z m l : Nat} {y : Bool} {f : Nat → Bool} {D : DataW Unit} {d : DataW Unit} (ho : w.ownsMap Tryd.prog TK (plainElem Tryd.prog 4) g n D) (hh : ∀ m, m < 64 → ∀ y, Go.Maps.has D (KL m (bn y)) = f (2 + 4 * m + 2 * bn y + 1)) (hs : Go.Maps.size D = seenN f z)
    (hm : m < z) (hz : z ≤ 64) (ho' : w'.ownsMap Tryd.prog TK (plainElem Tryd.prog 4) g n' (D.put (KL m (bn y)) d)) : SeenAt w' g n' (putK f l m (bn y) 4) z := by
  have hT := ho.tidy keyed
  have hk := keyed.key (kl_at (m := m) (j := bn y) (by omega) (bn_lt y))
  refine ⟨_, ho', fun m' hm' y' => ?_, ?_⟩
  · rw [putK_look f l m y (by omega) m' y' hm']
    by_cases e : m' = m ∧ y' = y
    · obtain ⟨rfl, rfl⟩ := e
      rw [if_pos ⟨rfl, rfl⟩]
      exact Go.Maps.has_put_same hT.isMap hk d
    · rw [if_neg e, Go.Maps.has_put_other (kl_ne hm' (bn_lt y') (by omega) (bn_lt y) (fun h => e ⟨h.1, bn_eq.1 h.2⟩)) d]
      exact hh m' hm' y'
  · rw [Go.Maps.size_put hT d, hh m (by omega) y, hs, seenN_put f l m y (by omega) z hz]
    cases f (2 + 4 * m + 2 * bn y + 1) <;> simp [hm]
end Go.Proofs.YtfolciibgdilcaaDoor.Ly15
