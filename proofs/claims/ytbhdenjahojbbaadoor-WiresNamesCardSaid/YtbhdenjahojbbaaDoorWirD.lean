/- The contracts of the document's answer on lines; how a line stands behind Set. -/
import Derived.Test.YtbhdenjahojbbaaDoorWirC
import Derived.Test.YtbhdenjahojbbaaDoorBox
namespace Go.Proofs.YtbhdenjahojbbaaDoor.Ly3
open Go.ChangeShapes Go.WideShapes Go.ChangeAt Go.RowKit Base
set_option linter.unusedVariables false
set_option linter.unusedSimpArgs false

theorem hb_bit (l k : Nat) : hb l k = Nat.testBit l k := by
  unfold hb
  rw [Nat.testBit_eq_decide_div_mod_eq, Bool.eq_iff_iff]
  simp
theorem hb_set (l : Nat) (i : Int) (h : Bool) (k : Nat) (hl : l < 256) (hk : k < 4) : hb (setF l i h) k = if (k : Int) = i then h else hb l k := by
  unfold setF
  by_cases hi : 0 ≤ i ∧ i ≤ 3
  · obtain ⟨j, rfl⟩ : ∃ j : Nat, i = j := ⟨i.toNat, by omega⟩
    rw [if_pos hi]
    simp only [Int.toNat_natCast]
    have hj : j < 4 := by omega
    have c255 : (255 : Nat) - 2 ^ j = 255 ^^^ 2 ^ j := by
      rcases (show j = 0 ∨ j = 1 ∨ j = 2 ∨ j = 3 by omega) with rfl | rfl | rfl | rfl <;> decide
    cases h
    · simp only [Bool.false_eq_true, if_false]
      rw [hb_bit, Nat.testBit_and, c255, Nat.testBit_xor, Nat.testBit_two_pow, ← hb_bit]
      have : Nat.testBit 255 k = true := by rcases (show k = 0 ∨ k = 1 ∨ k = 2 ∨ k = 3 by omega) with rfl | rfl | rfl | rfl <;> decide
      rw [this]
      by_cases e : k = j
      · subst e; simp
      · rw [if_neg (by omega)]; simp [show ¬ j = k from fun h => e h.symm]
    · simp only [if_true]
      rw [hb_bit, Nat.testBit_or, Nat.testBit_two_pow, ← hb_bit]
      by_cases e : k = j
      · subst e; simp
      · rw [if_neg (by omega)]; simp [show ¬ j = k from fun h => e h.symm]
  · rw [if_neg hi, if_neg (by omega)]
theorem rhigh_no (l : Nat) (i : Int) (w : World) (h : i < 0 ∨ 3 < i) : Calls Tryd.prog 10 #[.int .i64 l, .int .i64 i] w fun e w' => e = .returned (.bool false) ∧ w = w' := by
  rcases (show i < 0 ∨ (0 ≤ i ∧ 3 < i) by omega) with g | ⟨g, g1⟩
  all_goals
    go_enter Tryd.func10, Tryd.ntmps10
    go_wp2
    go_ret
    exact ⟨by first | rfl | (simp; done) | (simp; omega), rfl⟩
theorem ret_bool {a b : Bool} (h : a = b) : Ending.returned (Value.bool a) = Ending.returned (Value.bool b) := by rw [h]
theorem rhigh_at (l k : Nat) (w : World) (hl : l < 256) (hk : k < 4) : Calls Tryd.prog 10 #[.int .i64 l, .int .i64 k] w fun e w' => e = .returned (.bool (hb l k)) ∧ w = w' := by
  have l0 : (0 : Int) ≤ (l : Int) := by omega
  have l1 : (l : Int) ≤ 255 := by omega
  rcases (show k = 0 ∨ k = 1 ∨ k = 2 ∨ k = 3 by omega) with rfl | rfl | rfl | rfl
  all_goals
    go_enter Tryd.func10, Tryd.ntmps10
    go_wp2
    go_ret
    exact ⟨ret_bool (by unfold hb; rw [Bool.eq_iff_iff]; simp; omega), rfl⟩
theorem rhigh_any (l : Nat) (i : Int) (w : World) (hl : l < 256) : Calls Tryd.prog 10 #[.int .i64 l, .int .i64 i] w fun e w' => e = .returned (.bool (hiF l i)) ∧ w = w' := by
  unfold hiF
  by_cases h : 0 ≤ i ∧ i ≤ 3
  · obtain ⟨k, rfl⟩ : ∃ k : Nat, i = k := ⟨i.toNat, by omega⟩
    rw [decide_eq_true h]
    simpa using rhigh_at l k w hl (by omega)
  · rw [decide_eq_false h]
    simpa using rhigh_no l i w (by omega)
theorem high_c (l k : Nat) (u : Bool) (hu : hb l k = u) (w : World) (hl : l < 256) (hk : k < 4) : Calls Tryd.prog 9 #[.int .u8 l, .int .i64 k] w fun e w' => e = .returned (.bool u) ∧ w = w' := by
  subst hu; exact high_at l k w hl hk
theorem rhigh_c (l k : Nat) (u : Bool) (hu : hb l k = u) (w : World) (hl : l < 256) (hk : k < 4) : Calls Tryd.prog 10 #[.int .i64 l, .int .i64 k] w fun e w' => e = .returned (.bool u) ∧ w = w' := by
  subst hu; exact rhigh_at l k w hl hk
set_option maxHeartbeats 1000000 in
theorem rcount_any (l : Nat) (w : World) (hl : l < 256) : Calls Tryd.prog 13 #[.int .i64 l] w fun e w' => e = .returned (.int .i64 (cnt l 4)) ∧ w = w' := by
  go_enter Tryd.func13, Tryd.ntmps13
  go_wp2
  go_loop [3, 4] (fun n i => ∃ k : Nat, k ≤ 4 ∧ i = .int .i64 k ∧ n = .int .i64 (cnt l k)) (fun _ i => 4 - (intOf i).toNat)
  case atStart => exact ⟨0, by omega, rfl, rfl⟩
  case round =>
    obtain ⟨k, hk, rfl, rfl⟩ := hrel
    have hc := cnt_le l k
    rcases Nat.lt_or_eq_of_le hk with hlt | heq
    · cases hh : hb l k
      all_goals
        have HC : Hid (cnt l (k + 1) = cnt l k + (if hb l k then 1 else 0)) := Lib.hid rfl
        have HH := Lib.hid hh
        clear hh
        go_wp2_with (go_at_call 10; refine (rhigh_at l k _ hl hlt).mono ?_; rintro e w' ⟨rfl, rfl⟩; rw [HH.out])
        go_round
        case rel => exact ⟨k + 1, by omega, by go_num, by rw [HC.out, HH.out]; simp⟩
        case measure => simp [intOf]; omega
    · subst heq
      go_wp2
      go_ret
      exact ⟨rfl, rfl⟩
end Go.Proofs.YtbhdenjahojbbaaDoor.Ly3
