/- Plain facts on waves: what is waved is read again, moved by at most 5 ticks back, and 4 ahead; how long ticks are alike. -/
import Derived.Test.YtoafjbdfdamlfaaCellF
namespace Go.Proofs.Ytoafjbdfdamlfaa.Ly1
open Go.ChangeShapes Go.WideShapes Go.ChangeAt Go.RowKit Base
set_option linter.unusedVariables false

/-- The level that a wave has at its cell k, tick j. -/
theorem wave_get (bs : List Bool) : ∀ (k j : Nat) (hk : k < bs.length), j < 20 → (waveOf bs)[20 * k + j]? = some (lvl bs[k] (j : Int)) := by
  induction bs with
  | nil => intro k j hk; simp at hk
  | cons b r ih =>
    intro k j hk hj
    have e : waveOf (b :: r) = cellOf b ++ waveOf r := rfl
    rw [e]
    cases k with
    | zero =>
      rw [List.getElem?_append_left (by rw [cellOf_len]; omega)]
      simp [cellOf, hj]
    | succ k =>
      rw [List.getElem?_append_right (by rw [cellOf_len]; omega), cellOf_len, show 20 * (k + 1) + j - 20 = 20 * k + j by omega]
      simpa using ih k j (by simpa using hk) hj
theorem wave_lt (bs : List Bool) (i : Nat) (hi : i < 20 * bs.length) : (waveOf bs)[i]'(by rw [waveOf_len]; exact hi) = lvl (bs[i / 20]'(by omega)) ((i % 20 : Nat) : Int) := by
  have h := wave_get bs (i / 20) (i % 20) (by omega) (by omega)
  rw [show 20 * (i / 20) + i % 20 = i by omega, List.getElem?_eq_getElem (by rw [waveOf_len]; exact hi)] at h
  exact Option.some.inj h

theorem wave_bit (bs : List Bool) (m : Int) (h0 : -5 ≤ m) (h1 : m ≤ 4) (k : Nat) (hk : k < bs.length) : bitAt (waveOf bs) m k = some bs[k] := by
  have e1 : stand (waveOf bs) (20 * (k : Int) + 5) m = some bs[k] := by
    rw [stand_in (p := 20 * k + (5 + m).toNat) (by omega) (by rw [waveOf_len]; omega)]
    have h := wave_get bs k (5 + m).toNat hk (by omega)
    rw [List.getElem?_eq_getElem (by rw [waveOf_len]; omega)] at h
    rw [h, lvl_lo (by omega) (by omega)]
  have e2 : stand (waveOf bs) (20 * (k : Int) + 15) m = some (!bs[k]) := by
    rw [stand_in (p := 20 * k + (15 + m).toNat) (by omega) (by rw [waveOf_len]; omega)]
    have h := wave_get bs k (15 + m).toNat hk (by omega)
    rw [List.getElem?_eq_getElem (by rw [waveOf_len]; omega)] at h
    rw [h, lvl_hi (by omega) (by omega)]
  exact bit_yes e1 e2
theorem wave_back (bs : List Bool) (m : Int) (h0 : -5 ≤ m) (h1 : m ≤ 4) : readTo (waveOf bs) m ((waveOf bs).length / 20) = some bs := by
  have aux : ∀ k, k ≤ bs.length → readTo (waveOf bs) m k = some (bs.take k) := by
    intro k
    induction k with
    | zero => intro _; simp [readTo]
    | succ k ih =>
      intro hk
      unfold readTo
      rw [ih (by omega), wave_bit bs m h0 h1 k (by omega), List.take_succ_eq_append_getElem (by omega)]
  have := aux bs.length (Nat.le_refl _)
  rw [waveOf_len, show 20 * bs.length / 20 = bs.length by omega, this, List.take_of_length_le (Nat.le_refl _)]

/-- How many ticks may be alike, behind k ticks. -/
def RunOk (k : Nat) (r : Int) : Prop := 0 ≤ r ∧ r ≤ 20 ∧ (0 < k → r ≤ ((k - 1) % 10 : Nat) + 11 ∧ ((k - 1) / 10 % 2 = 1 → r ≤ ((k - 1) % 10 : Nat) + 1))
theorem run_start : RunOk 0 0 := ⟨by omega, by omega, fun h => by omega⟩
theorem run_new {k : Nat} {r : Int} (h : RunOk k r) : RunOk (k + 1) 1 := ⟨by omega, by omega, fun _ => ⟨by omega, fun _ => by omega⟩⟩
theorem run_more {bs : List Bool} {j : Nat} {r : Int} (h : RunOk (j + 1) r) (hj : j + 1 < 20 * bs.length) (he : (waveOf bs)[j + 1]'(by rw [waveOf_len]; exact hj) = (waveOf bs)[j]'(by rw [waveOf_len]; omega)) : RunOk (j + 1 + 1) (r + 1) := by
  obtain ⟨h0, h1, h2⟩ := h
  obtain ⟨h3, h4⟩ := h2 (by omega)
  rw [show j + 1 - 1 = j by omega] at h3 h4
  have hn : ¬ (j + 1) % 20 = 10 := by
    intro h10
    rw [wave_lt bs (j + 1) hj, wave_lt bs j (by omega), lvl_hi (by omega) (by omega), lvl_lo (by omega) (by omega)] at he
    have : bs[(j + 1) / 20]'(by omega) = bs[j / 20]'(by omega) := by congr 1; omega
    rw [this] at he
    cases hb : bs[j / 20]'(by omega) <;> rw [hb] at he <;> cases he
  refine ⟨by omega, ?_, fun _ => ⟨?_, fun hh => ?_⟩⟩
  · rcases Nat.lt_or_ge (j / 10 % 2) 1 with g | g
    · rcases Nat.lt_or_ge (j % 10) 9 with g2 | g2
      · omega
      · omega
    · have := h4 (by omega); omega
  · rw [show j + 1 + 1 - 1 = j + 1 by omega]
    rcases Nat.lt_or_ge (j % 10) 9 with g2 | g2
    · omega
    · have := h4 (by omega); omega
  · rw [show j + 1 + 1 - 1 = j + 1 by omega] at hh ⊢
    have := h4 (by omega)
    omega
theorem run_on {bs : List Bool} {k j : Nat} {r : Int} (hkj : k = j + 1) (h : RunOk k r) (hj : k < 20 * bs.length) (he : (waveOf bs)[j]'(by rw [waveOf_len]; omega) = (waveOf bs)[k]'(by rw [waveOf_len]; exact hj)) : RunOk (k + 1) (r + 1) := by
  subst hkj; exact run_more h hj he.symm
end Go.Proofs.Ytoafjbdfdamlfaa.Ly1
