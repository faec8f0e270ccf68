/- What a shift holds behind the looks of a message that is sent, with one line that is driven otherwise; plain functions; no condition. -/
import Derived.Test.YtnbcegijncdmaaaDoorShgD
import Derived.Test.YtnbcegijncdmaaaDoorWirV
namespace Go.Proofs.YtnbcegijncdmaaaDoor.Ly15
open Go.ChangeShapes Go.WideShapes Go.ChangeAt Go.RowKit Base Ly3
set_option linter.unusedVariables false
set_option linter.unusedSimpArgs false

def sentN (b : Bool) : Nat := driveF false b ||| driveF true b
theorem said_set : ∀ (b h : Bool) (line k : Fin 4), said (setF (sentN b) (line.1 : Int) h) k.1 = if k.1 = line.1 then (h == (k.1 == 0 || k.1 == 3)) else b := by decide +kernel
theorem set_lt : ∀ (b h : Bool) (line : Fin 4), setF (sentN b) (line.1 : Int) h < 256 := by decide +kernel
/-- What a line says in a half of a bit. -/
def valF (bs : List Bool) (G : Nat → Bool) (line k m j : Nat) : Bool := if k = line then (G m == (k == 0 || k == 3)) else ((bs.getD m false) != (j == 1))
/-- The first N halves were looked at. -/
def Filled (f : Nat → Bool) (bs : List Bool) (G : Nat → Bool) (line z N : Nat) : Prop :=
  ∀ k, k < 4 → ∀ m, m < z → ∀ j, j < 2 → f (2 + 256 * k + 4 * m + 2 * j + 1) = decide (2 * m + j < N) ∧ (2 * m + j < N → f (2 + 256 * k + 4 * m + 2 * j) = valF bs G line k m j)
theorem filled_nil (bs : List Bool) (G : Nat → Bool) (line z : Nat) : Filled (fun _ => false) bs G line z 0 := fun k _ m _ j _ => ⟨by simp, fun h => by omega⟩
theorem filled_put {f : Nat → Bool} {bs : List Bool} {G : Nat → Bool} {line z N m j l : Nat} (h : Filled f bs G line z N) (hz : z ≤ 64) (hm : m < z) (hj : j < 2) (hN : N = 2 * m + j) (hline : line < 4)
    (hl : l = setF (sentN ((bs.getD m false) != (j == 1))) (line : Int) (G m)) : Filled (putK f l m j 4) bs G line z (N + 1) := fun k hk m' hm' j' hj' => by
  obtain ⟨h1, h2⟩ := putK_at f l m j (by omega) hj 4 (by omega) k m' j' hk (by omega) hj'
  obtain ⟨g1, g2⟩ := h k hk m' hm' j' hj'
  rw [h1, h2]
  by_cases e : m' = m ∧ j' = j
  · obtain ⟨rfl, rfl⟩ := e
    rw [if_pos ⟨rfl, rfl, hk⟩, if_pos ⟨rfl, rfl, hk⟩]
    refine ⟨(decide_eq_true (by omega)).symm, fun _ => ?_⟩
    rw [hl]
    have := said_set ((bs.getD m' false) != (j' == 1)) (G m') ⟨line, hline⟩ ⟨k, hk⟩
    exact this
  · have e' : ¬ (m' = m ∧ j' = j ∧ k < 4) := fun ⟨a, b, _⟩ => e ⟨a, b⟩
    rw [if_neg e', if_neg e']
    refine ⟨by rw [g1]; congr 1; simp; omega, fun h' => g2 (by omega)⟩
theorem filled_line {f : Nat → Bool} {bs : List Bool} {G : Nat → Bool} {line z k m : Nat} (h : Filled f bs G line z (2 * z)) (hk : k < 4) (hm : m < z) : lineF f k m = if k = line then (false, false) else (bs.getD m false, true) := by
  obtain ⟨a1, a2⟩ := h k hk m hm 0 (by omega)
  obtain ⟨b1, b2⟩ := h k hk m hm 1 (by omega)
  rw [decide_eq_true (by omega)] at a1 b1
  have a3 := a2 (by omega)
  have b3 := b2 (by omega)
  simp only [Nat.mul_zero, Nat.add_zero, Nat.mul_one] at a1 a3 b1 b3
  unfold lineF
  rw [show 2 + 256 * k + 4 * m + 3 = 2 + 256 * k + 4 * m + 2 + 1 from rfl, a1, b1, a3, b3]
  unfold valF
  by_cases e : k = line
  · simp [e]
  · simp only [e, if_false]
    cases bs.getD m false <;> rfl
theorem filled_seen {f : Nat → Bool} {bs : List Bool} {G : Nat → Bool} {line z : Nat} (h : Filled f bs G line z (2 * z)) : ∀ n, n ≤ z → seenN f n = 2 * n
  | 0, _ => rfl
  | n + 1, hn => by
    obtain ⟨a1, _⟩ := h 0 (by omega) n (by omega) 0 (by omega)
    obtain ⟨b1, _⟩ := h 0 (by omega) n (by omega) 1 (by omega)
    rw [decide_eq_true (by omega)] at a1 b1
    simp only [Nat.mul_zero, Nat.add_zero, Nat.mul_one] at a1 b1
    unfold seenN
    rw [filled_seen h n (by omega), show 2 + 4 * n + 3 = 2 + 4 * n + 2 + 1 from rfl, a1, b1]
    simp
    omega
end Go.Proofs.YtnbcegijncdmaaaDoor.Ly15
