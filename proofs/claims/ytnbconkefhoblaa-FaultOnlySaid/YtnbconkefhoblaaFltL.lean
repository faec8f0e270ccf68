/- How each line comes to stand under a fault of a line. -/
import Derived.Test.YtnbconkefhoblaaFltE
namespace Go.Proofs.Ytnbconkefhoblaa.Ly20
open Go.ChangeShapes Go.WideShapes Go.ChangeAt Go.RowKit Base
set_option linter.unusedVariables false
set_option linter.unusedSimpArgs false

/-- How a line should stand. -/
def wantF (kd ln : Int) (l v : Nat) (b : Bool) (k : Nat) : Bool := if b = true ∧ kd = 1 ∧ (k : Int) = ln ∧ v % 4 < 2 then v % 4 == 1 else Ly3.hb l k
theorem hb_bit (l k : Nat) : Ly3.hb l k = Nat.testBit l k := by
  unfold Ly3.hb
  rw [Nat.testBit_eq_decide_div_mod_eq, Bool.eq_iff_iff]
  simp
theorem hb_set (l : Nat) (i : Int) (h : Bool) (k : Nat) (hl : l < 256) (hk : k < 4) : Ly3.hb (Ly3.setF l i h) k = if (k : Int) = i then h else Ly3.hb l k := by
  unfold Ly3.setF
  by_cases hi : 0 ≤ i ∧ i ≤ 3
  · obtain ⟨j, rfl⟩ : ∃ j : Nat, i = j := ⟨i.toNat, by omega⟩
    rw [if_pos hi]
    simp only [Int.toNat_natCast]
    have hj : j < 4 := by omega
    have c255 : (255 : Nat) - 2 ^ j = 255 ^^^ 2 ^ j := by
      rcases (show j = 0 ∨ j = 1 ∨ j = 2 ∨ j = 3 by omega) with rfl | rfl | rfl | rfl <;> decide
    cases h
    · simp only [Bool.false_eq_true, if_false]
      rw [hb_bit, Nat.testBit_and, c255, Nat.testBit_xor, Nat.testBit_two_pow, ← hb_bit]
      have : Nat.testBit 255 k = true := by rcases (show k = 0 ∨ k = 1 ∨ k = 2 ∨ k = 3 by omega) with rfl | rfl | rfl | rfl <;> decide
      rw [this]
      by_cases e : k = j
      · subst e; simp
      · rw [if_neg (by omega)]; simp [show ¬ j = k from fun h => e h.symm]
    · simp only [if_true]
      rw [hb_bit, Nat.testBit_or, Nat.testBit_two_pow, ← hb_bit]
      by_cases e : k = j
      · subst e; simp
      · rw [if_neg (by omega)]; simp [show ¬ j = k from fun h => e h.symm]
  · rw [if_neg hi, if_neg (by omega)]
theorem hb_lin (kd ln : Int) (l v : Nat) (b : Bool) (k : Nat) (hl : l < 256) (hk : k < 4) : Ly3.hb (linF kd ln l v b) k = wantF kd ln l v b k := by
  unfold linF wantF
  by_cases h1 : kd = 1 ∧ b = true
  · rw [if_pos h1]
    by_cases h2 : (v : Int) % 4 = 0
    · rw [if_pos h2, hb_set l ln false k hl hk]
      by_cases h3 : (k : Int) = ln
      · rw [if_pos h3, if_pos ⟨h1.2, h1.1, h3, by omega⟩]; simp; omega
      · rw [if_neg h3, if_neg (fun h => h3 h.2.2.1)]
    · rw [if_neg h2]
      by_cases h4 : (v : Int) % 4 = 1
      · rw [if_pos h4, hb_set l ln true k hl hk]
        by_cases h3 : (k : Int) = ln
        · rw [if_pos h3, if_pos ⟨h1.2, h1.1, h3, by omega⟩]; simp; omega
        · rw [if_neg h3, if_neg (fun h => h3 h.2.2.1)]
      · rw [if_neg h4, if_neg (fun h => by have := h.2.2.2; omega)]
  · rw [if_neg h1, if_neg (fun h => h1 ⟨h.2.1, h.1⟩)]

theorem linF_lt {kd ln : Int} {l : Nat} {v : Int} {b : Bool} (hl : l < 256) : linF kd ln l v b < 256 := by
  unfold linF
  split
  · split
    · exact Ly3.setF_lt hl
    · split
      · exact Ly3.setF_lt hl
      · exact hl
  · exact hl
theorem high_c (l k : Nat) (u : Bool) (w : World) (hu : Ly3.hb l k = u) (hl : l < 256) (hk : k < 4) : Calls Try.prog 26 #[.int .u8 l, .int .i64 k] w fun e w' => e = .returned (.bool u) ∧ w = w' := by
  subst hu; exact Ly3.high_at l k w hl hk
end Go.Proofs.Ytnbconkefhoblaa.Ly20
