/- The contracts of package clock's Apart, of the document's own, and of layer 5's closed example. -/
import Derived.Test.YtbhgnhbaimemmaaClkB
namespace Go.Proofs.Ytbhgnhbaimemmaa.Ly5
open Go.ChangeShapes Go.WideShapes Go.ChangeAt Go.RowKit Base
set_option linter.unusedVariables false
set_option linter.unusedSimpArgs false

def apartF (a b l : Int) : Int := if a < 0 ∨ l ≤ a ∨ b < 0 ∨ l ≤ b then 0 else if l < 2 * (a - b) then a - b - l else if 2 * (a - b) ≤ -l then a - b + l else a - b
theorem apartF_out {a b l : Int} (h : a < 0 ∨ l ≤ a ∨ b < 0 ∨ l ≤ b) : apartF a b l = 0 := by unfold apartF; rw [if_pos h]
theorem apartF_hi {a b l : Int} (h : ¬ (a < 0 ∨ l ≤ a ∨ b < 0 ∨ l ≤ b)) (g : l < 2 * (a - b)) : apartF a b l = a - b - l := by unfold apartF; rw [if_neg h, if_pos g]
theorem apartF_lo {a b l : Int} (h : ¬ (a < 0 ∨ l ≤ a ∨ b < 0 ∨ l ≤ b)) (g : ¬ l < 2 * (a - b)) (g2 : 2 * (a - b) ≤ -l) : apartF a b l = a - b + l := by unfold apartF; rw [if_neg h, if_neg g, if_pos g2]
theorem apartF_mid {a b l : Int} (h : ¬ (a < 0 ∨ l ≤ a ∨ b < 0 ∨ l ≤ b)) (g : ¬ l < 2 * (a - b)) (g2 : ¬ 2 * (a - b) ≤ -l) : apartF a b l = a - b := by unfold apartF; rw [if_neg h, if_neg g, if_neg g2]
theorem ret_int {k : IntKind} {a b : Int} (h : a = b) : Ending.returned (.int k a) = .returned (.int k b) := by rw [h]

set_option maxHeartbeats 1000000 in
theorem apart_any (a b l : Int) (w : World) (hl0 : 0 ≤ l) (hl1 : l ≤ 1048576) (ha0 : -9223372036854775808 ≤ a) (ha1 : a ≤ 9223372036854775807) (hb0 : -9223372036854775808 ≤ b) (hb1 : b ≤ 9223372036854775807) :
    Calls Try.prog 32 #[.int .i64 a, .int .i64 b, .int .i64 l] w fun e w' => e = .returned (.int .i64 (apartF a b l)) ∧ w = w' := by
  by_cases h : a < 0 ∨ l ≤ a ∨ b < 0 ∨ l ≤ b
  · rw [apartF_out h]
    rcases (show a < 0 ∨ (0 ≤ a ∧ l ≤ a) ∨ (0 ≤ a ∧ a < l ∧ b < 0) ∨ (0 ≤ a ∧ a < l ∧ 0 ≤ b ∧ l ≤ b) by omega) with g | ⟨g, g1⟩ | ⟨g, g1, g2⟩ | ⟨g, g1, g2, g3⟩
    all_goals
      clear h
      go_enter Try.func32, Try.ntmps32
      go_wp2
      go_ret
      exact ⟨rfl, rfl⟩
  · have k0 : 0 ≤ a := by omega
    have k1 : a < l := by omega
    have k2 : 0 ≤ b := by omega
    have k3 : b < l := by omega
    by_cases g : l < 2 * (a - b)
    · rw [apartF_hi h g]
      have g1 : 0 < a - b := by omega
      have g2 : l - (a - b) < a - b := by omega
      clear h
      go_enter Try.func32, Try.ntmps32
      go_wp2
      go_ret
      exact ⟨rfl, rfl⟩
    · by_cases g2 : 2 * (a - b) ≤ -l
      · rw [apartF_lo h g g2]
        have g3 : a - b < 0 := by omega
        have g4 : a - b + l ≤ -(a - b) := by omega
        clear h
        go_enter Try.func32, Try.ntmps32
        go_wp2
        go_ret
        exact ⟨rfl, rfl⟩
      · rw [apartF_mid h g g2]
        clear h
        rcases (show 0 < a - b ∨ a - b = 0 ∨ a - b < 0 by omega) with g3 | g3 | g3
        · have g5 : ¬ l - (a - b) < a - b := by omega
          have g6 : ¬ a - b < 0 := by omega
          go_enter Try.func32, Try.ntmps32
          go_wp2
          go_ret
          exact ⟨rfl, rfl⟩
        · obtain rfl : a = b := by omega
          go_enter Try.func32, Try.ntmps32
          go_wp2
          go_ret
          exact ⟨ret_int (by omega), rfl⟩
        · have g5 : ¬ a - b + l ≤ -(a - b) := by omega
          have g6 : ¬ 0 < a - b := by omega
          go_enter Try.func32, Try.ntmps32
          go_wp2
          go_ret
          exact ⟨rfl, rfl⟩

theorem one_apart (w : World) : Calls Try.prog 32 #[.int .i64 1, .int .i64 9, .int .i64 10] w fun e w' => e = .returned (.int .i64 2) ∧ w = w' := by
  have := apart_any 1 9 10 w (by omega) (by omega) (by omega) (by omega) (by omega) (by omega)
  rwa [show apartF 1 9 10 = 2 by decide] at this

theorem cl0 : cl 0 = 1 := by decide
theorem cl1 : cl 1 = 2 := by decide

set_option maxRecDepth 100000 in
set_option maxHeartbeats 1000000 in
theorem one_any (w : World) : Calls Try.prog 22 #[] w fun e w' => e = .returned (.bool true) ∧ Below w.heap.size w w' := by
  go_enter Try.func22, Try.ntmps22
  go_wp2_with fail
  refine (new_yes 10 w (by omega) (by omega)).mono ?_
  rintro e w1 ⟨rfl, hc1, hb1⟩
  have hbl := hc1.lt
  go_wp2_with fail
  refine (passed1 w.heap.size 0 10 9 0 0 w1 hc1 (by omega) (by omega) (by omega) (by omega) (by unfold Step; omega)).mono ?_
  rintro e w2 ⟨rfl, hb2⟩
  have hc2 := hc1.kept hb2
  clear hc1
  go_wp2_with fail
  have hw2 : Below w.heap.size w w2 := hb1.trans (hb2.mono hb1.size)
  have HC2 := Lib.hid hc2
  clear hc2 hb1 hb2
  go_loopw [3] (fun i wr => ∃ (k : Nat) (aa : Int), k ≤ 9 ∧ i = .int .i64 k ∧ (k = 9 → aa = 8) ∧ Clk wr w.heap.size k 10 aa 10 0 ∧ Below w.heap.size w wr) (fun i _ => 9 - (intOf i).toNat)
  case atStart => exact ⟨0, _, by omega, rfl, fun h => by omega, HC2.out, hw2⟩
  case round =>
    obtain ⟨k, aa, hk, rfl, haa, hclk, hbel⟩ := hrel
    have HA := Lib.hid haa
    have HCL := Lib.hid hclk
    clear haa hclk
    by_cases hlt : k < 9
    · go_wp2_with fail
      refine (tick_any _ (k : Int) 10 aa 10 0 0 wr HCL.out (by omega) (by omega) (by omega) (by omega) (by omega) (by omega) (by omega) (by omega)).mono ?_
      rintro e w3 ⟨rfl, hc3, hw3⟩
      rw [cl0] at hc3
      have e1 : nx (k : Int) 10 1 = ((k + 1 : Nat) : Int) := by unfold nx; rw [if_pos (by omega)]; omega
      have e2 : nf (k : Int) 10 1 0 = 0 := by unfold nf; rw [if_pos (by omega)]
      rw [e1, e2] at hc3
      have HC3 := Lib.hid hc3
      clear hc3 e1 e2
      go_wp2
      go_roundw
      case rel => exact ⟨k + 1, _, by omega, by go_num, fun h => by omega, HC3.out, hbel.trans (hw3.below (Nat.le_refl _) hbel.size)⟩
      case measure => simp [intOf]; omega
    · obtain rfl : k = 9 := by omega
      obtain rfl : aa = 8 := HA.out rfl
      clear HA hlt
      go_wp2_with fail
      refine (pos_any _ _ 10 8 10 0 wr HCL.out (by omega)).mono ?_
      rintro e w3 ⟨rfl, rfl⟩
      go_wp2_with fail
      refine (tick_any _ _ 10 8 10 0 1 wr HCL.out (by omega) (by omega) (by omega) (by omega) (by omega) (by omega) (by omega) (by omega)).mono ?_
      rintro e w3 ⟨rfl, hc3, hw3⟩
      rw [cl1, show nx ((9 : Nat) : Int) 10 2 = 1 by decide, show nf ((9 : Nat) : Int) 10 2 0 = 1 by decide] at hc3
      have hb3 : Below w.heap.size w w3 := hbel.trans (hw3.below (Nat.le_refl _) hbel.size)
      have HC3 := Lib.hid hc3
      clear hc3 HCL hw3 hbel hw2 HC2
      go_wp2_with fail
      refine (pos_any _ _ 10 9 10 1 w3 HC3.out (by omega)).mono ?_
      rintro e w' ⟨rfl, rfl⟩
      go_wp2_with fail
      refine (passed2 _ 1 0 10 9 1 0 w3 HC3.out (by omega) (by omega) (by omega) (by omega) (by unfold Step; omega) (by unfold Step; omega)).mono ?_
      rintro e w4 ⟨rfl, hb4⟩
      have HC4 := Lib.hid (Obj1.kept HC3.out hb4)
      go_wp2_with fail
      refine (passed2 _ 1 0 10 9 1 1 w4 HC4.out (by omega) (by omega) (by omega) (by omega) (by unfold Step; omega) (by unfold Step; omega)).mono ?_
      rintro e w5 ⟨rfl, hb5⟩
      have HC5 := Lib.hid (Obj1.kept HC4.out hb5)
      go_wp2_with fail
      refine (passed2 _ 1 0 10 9 1 2 w5 HC5.out (by omega) (by omega) (by omega) (by omega) (by unfold Step; omega) (by unfold Step; omega)).mono ?_
      rintro e w6 ⟨rfl, hb6⟩
      have HC6 := Lib.hid (Obj1.kept HC5.out hb6)
      go_wp2_with (first | (go_at_call 29; refine (frame_any _ _ 10 9 10 1 w6 HC6.out (by omega)).mono ?_; rintro e w' ⟨rfl, rfl⟩) | (go_at_call 32; refine (one_apart _).mono ?_; rintro e w' ⟨rfl, rfl⟩))
      go_ret
      refine ⟨rfl, ?_⟩
      repeat (first | exact Below.refl _ _ | refine Below.setCell ?_ (by first | omega | (simp; done) | (simp; omega) | (have := hb6.size; simp at this ⊢; omega) | (have := hb5.size; simp at this ⊢; omega) | (have := hb4.size; simp at this ⊢; omega) | (have := hb3.size; simp at this ⊢; omega) | (have := hb6.size; have := hb5.size; have := hb4.size; have := hb3.size; simp at *; omega)) _ | refine Below.alloc ?_ (by first | omega | (simp; done) | (simp; omega) | (have := hb6.size; simp at this ⊢; omega) | (have := hb5.size; simp at this ⊢; omega) | (have := hb4.size; simp at this ⊢; omega) | (have := hb3.size; simp at this ⊢; omega) | (have := hb6.size; have := hb5.size; have := hb4.size; have := hb3.size; simp at *; omega)) _ | refine below_drewN' ?_ _ | refine Below.drew ?_ | refine Below.trans ?_ (hb6.mono (by first | omega | (simp; done) | (simp; omega) | (have := hb6.size; simp at this ⊢; omega) | (have := hb5.size; simp at this ⊢; omega) | (have := hb4.size; simp at this ⊢; omega) | (have := hb3.size; simp at this ⊢; omega) | (have := hb6.size; have := hb5.size; have := hb4.size; have := hb3.size; simp at *; omega))) | refine Below.trans ?_ (hb5.mono (by first | omega | (simp; done) | (simp; omega) | (have := hb6.size; simp at this ⊢; omega) | (have := hb5.size; simp at this ⊢; omega) | (have := hb4.size; simp at this ⊢; omega) | (have := hb3.size; simp at this ⊢; omega) | (have := hb6.size; have := hb5.size; have := hb4.size; have := hb3.size; simp at *; omega))) | refine Below.trans ?_ (hb4.mono (by first | omega | (simp; done) | (simp; omega) | (have := hb6.size; simp at this ⊢; omega) | (have := hb5.size; simp at this ⊢; omega) | (have := hb4.size; simp at this ⊢; omega) | (have := hb3.size; simp at this ⊢; omega) | (have := hb6.size; have := hb5.size; have := hb4.size; have := hb3.size; simp at *; omega))) | refine Below.trans ?_ (hb3.mono (by first | omega | (simp; done) | (simp; omega) | (have := hb6.size; simp at this ⊢; omega) | (have := hb5.size; simp at this ⊢; omega) | (have := hb4.size; simp at this ⊢; omega) | (have := hb3.size; simp at this ⊢; omega) | (have := hb6.size; have := hb5.size; have := hb4.size; have := hb3.size; simp at *; omega))))
end Go.Proofs.Ytbhgnhbaimemmaa.Ly5
