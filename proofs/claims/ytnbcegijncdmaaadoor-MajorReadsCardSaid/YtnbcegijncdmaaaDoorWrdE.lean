/- The contract of the document's own Words, of layer 2: the same words as package word's; no condition. -/
import Derived.Test.YtnbcegijncdmaaaDoorWrdD

namespace Go.Proofs.YtnbcegijncdmaaaDoor.Ly2
open Go.ChangeShapes Go.WideShapes Go.ChangeAt Go.RowKit Base
set_option linter.unusedVariables false
set_option linter.unusedSimpArgs false

/-- A word by the document: behind k bits from 8 i on. -/
def hv (bs : List Bool) (i : Nat) : Nat → Nat
  | 0 => 0
  | k + 1 => 2 * hv bs i k + (if bs.getD (8 * i + k) false = true then 1 else 0)
theorem hv_lt (bs : List Bool) (i k : Nat) : hv bs i k < 2 ^ k := by
  induction k with
  | zero => simp [hv]
  | succ k ih =>
    simp only [hv]
    rw [Nat.pow_succ]
    split <;> omega
theorem wst_before (bs : List Bool) (i k : Nat) (h : k ≤ 8 * i) : wst bs k i = 0 := by
  induction k with
  | zero => rfl
  | succ k ih =>
    simp only [wst]
    rw [if_neg (by rintro ⟨_, h2⟩; omega)]
    exact ih (by omega)
theorem wst_behind (bs : List Bool) (i k : Nat) (h : 8 * i + 8 ≤ k) : wst bs k i = wst bs (8 * i + 8) i := by
  induction k with
  | zero => omega
  | succ k ih =>
    by_cases e : k + 1 = 8 * i + 8
    · rw [e]
    · simp only [wst]
      rw [if_neg (by rintro ⟨_, h2⟩; omega)]
      exact ih (by omega)
theorem wst_step (bs : List Bool) (i j : Nat) (hj : j < 8) : wst bs (8 * i + j + 1) i = if bs.getD (8 * i + j) false = true then wst bs (8 * i + j) i ||| 2 ^ (7 - j) else wst bs (8 * i + j) i := by
  simp only [wst]
  have e1 : i = (8 * i + j) / 8 := by omega
  have e2 : (8 * i + j) % 8 = j := by omega
  rw [e2]
  by_cases h : bs.getD (8 * i + j) false = true
  · rw [if_pos ⟨h, e1⟩, if_pos h]
  · rw [if_neg (fun hh => h hh.1), if_neg h]
theorem wst_hv (bs : List Bool) (i : Nat) : wst bs (8 * i + 8) i = hv bs i 8 := by
  have s0 := wst_before bs i (8 * i) (Nat.le_refl _)
  have s1 := wst_step bs i 0 (by omega)
  have s2 := wst_step bs i 1 (by omega)
  have s3 := wst_step bs i 2 (by omega)
  have s4 := wst_step bs i 3 (by omega)
  have s5 := wst_step bs i 4 (by omega)
  have s6 := wst_step bs i 5 (by omega)
  have s7 := wst_step bs i 6 (by omega)
  have s8 := wst_step bs i 7 (by omega)
  simp only [Nat.add_zero] at s1
  rw [show 8 * i + 8 = 8 * i + 7 + 1 by omega, s8, s7, s6, s5, s4, s3, s2, s1, s0]
  simp only [hv, Nat.add_zero]
  generalize bs.getD (8 * i) false = b0
  generalize bs.getD (8 * i + 1) false = b1
  generalize bs.getD (8 * i + 2) false = b2
  generalize bs.getD (8 * i + 3) false = b3
  generalize bs.getD (8 * i + 4) false = b4
  generalize bs.getD (8 * i + 5) false = b5
  generalize bs.getD (8 * i + 6) false = b6
  generalize bs.getD (8 * i + 7) false = b7
  revert b0 b1 b2 b3 b4 b5 b6 b7
  decide +kernel
theorem wordsOf_hv (bs : List Bool) (m : Nat) (h : bs.length = 8 * m) : wordsOf bs m = (List.range m).map fun i => hv bs i 8 := by
  unfold wordsOf
  apply List.map_congr_left
  intro i hi
  have := List.mem_range.1 hi
  rw [wst_behind bs i bs.length (by omega), wst_hv]
def HRel (w : World) (bs : List Bool) (m : Nat) (v i : Value) (wr : World) : Prop :=
  ∃ k : Nat, k ≤ m ∧ i = .int .i64 k ∧ wr.ownsRow w.heap.size 5 1 v k (((List.range k).map fun i => hv bs i 8).map fun (x : Nat) => Value.int .u8 x) ∧ Below w.heap.size w wr
theorem hrel_step {w wr w1 : World} {bs : List Bool} {m k N : Nat} {v : Value} (hk : k < m) (hN : hv bs k 8 = N)
    (h : w1.ownsRow w.heap.size 5 1 v (k + 1) (((List.range k).map fun i => hv bs i 8).map (fun (x : Nat) => Value.int .u8 x) ++ [Value.int .u8 (N : Int)])) (hb : Below w.heap.size w wr) (hb1 : Below w.heap.size wr w1) :
    HRel w bs m v (.int .i64 ((k : Int) + 1)) w1 := by
  subst hN
  exact ⟨k + 1, by omega, by push_cast; rfl, by rw [List.range_succ, List.map_append, List.map_append]; exact h, hb.trans hb1⟩
set_option maxRecDepth 100000 in
set_option maxHeartbeats 2000000 in
theorem refwords_any (A : Option Addr) (m c : Nat) (bs : List Bool) (w : World) (h : Lst w A (8 * m) (bs.map Value.bool)) (hn : m ≤ 100000) :
    Calls Tryd.prog 35 #[.slice A (8 * m) c] w fun e w' =>
      ∃ v, e = .returned v ∧ w'.ownsRow w.heap.size 5 1 v m ((wordsOf bs m).map fun (x : Nat) => Value.int .u8 x) ∧ Below w.heap.size w w' := by
  obtain ⟨i0, hi, hz0, hz1, hz2⟩ := info_parts info_u8
  have HBL := Lib.hid (show bs.length = 8 * m by simpa using h.1)
  have O0 : Hid (w.ownsRow w.heap.size 5 1 (.slice none 0 0) 0 []) := Lib.hid ⟨rfl, .inl ⟨rfl, rfl⟩⟩
  obtain ⟨n, hnm⟩ : ∃ n, n = 8 * m := ⟨_, rfl⟩
  rw [← hnm] at h HBL ⊢
  have hq : (n : Int) / 8 = (m : Int) := by omega
  have hnb : n ≤ 800000 := by omega
  have HNM := Lib.hid hnm
  clear hnm
  go_enter Tryd.func35, Tryd.ntmps35
  go_wp2
  go_loopw [3, 4] (fun v i wr => HRel w bs m v i wr) (fun _ i _ => m - (intOf i).toNat)
  case atStart => exact ⟨0, by omega, rfl, by simpa using O0.out, Below.refl _ _⟩
  case round =>
    obtain ⟨k, hk, rfl, hown, hbel⟩ := hrel
    by_cases hlt : k < m
    · have HBEL := Lib.hid hbel
      have HOWN := Lib.hid hown
      clear hown
      go_wp2
      go_loop [5, 6] (fun v i => ∃ j : Nat, j ≤ 8 ∧ i = .int .i64 j ∧ v = .int .i64 (hv bs k j : Nat)) (fun _ i => 8 - (intOf i).toNat)
      case atStart => exact ⟨0, by omega, rfl, rfl⟩
      case round =>
        obtain ⟨j, hj, rfl, rfl⟩ := hrel
        by_cases hj2 : j < 8
        · have hin : 8 * k + j < n := by have := HNM.out; omega
          obtain ⟨b, off, rfl, _, hc⟩ := (h.kept HBEL.out).get hin
          rw [List.getElem_map] at hc
          have hkl : 8 * k + j < bs.length := by rw [HBL.out]; exact hin
          obtain ⟨x, HX⟩ : ∃ x, Hid (bs[8 * k + j]'hkl = x) := ⟨_, Lib.hid rfl⟩
          rw [HX.out] at hc
          have hlt8 : hv bs k j < 256 := Nat.lt_of_lt_of_le (hv_lt bs k j) (Nat.pow_le_pow_right (by omega) (by omega : j ≤ 8))
          have HS : Hid (hv bs k (j + 1) = 2 * hv bs k j + (if x = true then 1 else 0)) := Lib.hid (by
            simp only [hv]
            rw [List.getD_eq_getElem?_getD, List.getElem?_eq_getElem hkl, HX.out]; rfl)
          obtain ⟨N, HN⟩ : ∃ N, Hid (hv bs k j = N) := ⟨_, Lib.hid rfl⟩
          rw [HN.out] at hlt8 HS ⊢
          rw [← Nat.add_assoc] at hc
          obtain ⟨p, hp⟩ : ∃ p : Nat, off + 8 * k + j = p := ⟨_, rfl⟩
          have hidx : (8 : Int) * (k : Int) + (j : Int) = ((8 * k + j : Nat) : Int) := by push_cast; rfl
          have hkm : k ≤ 100000 := by omega
          rw [Nat.add_assoc] at hc
          obtain ⟨z, HZ⟩ : ∃ z : Nat, 8 * k + j = z := ⟨_, rfl⟩
          rw [HZ] at hidx hc hin
          clear hp HZ
          cases x
          · go_wp2
            go_round
            case rel => exact ⟨j + 1, by omega, by go_num, by rw [HS.out]; simp⟩
            case measure => simp [intOf]; omega
          · go_wp2
            go_round
            case rel => exact ⟨j + 1, by omega, by go_num, by rw [HS.out]; simp⟩
            case measure => simp [intOf]; omega
        · obtain rfl : j = 8 := by omega
          have hN8 := hv_lt bs k 8
          obtain ⟨N, HN⟩ : ∃ N, Hid (hv bs k 8 = N) := ⟨_, Lib.hid rfl⟩
          rw [HN.out] at hN8 ⊢
          have hN256 : (N : Int) < 256 := by omega
          go_wp2_with (at_builtin; refine push1 _ rfl (.tmp 29) (.tmp 32) 23 rfl w.heap.size 5 i0 (.int .u8 0) 1 Tryd.underlying23 hi hz0 hz1 hz2 rfl _ _ _ rfl HOWN.out (.int .u8 (N : Int)) _ rfl rfl (by unfold maxLen; omega) (by omega) HBEL.out.size ?_; intro v2 w2 hown2 hbel2)
          go_roundw
          case rel => exact hrel_step hlt HN.out hown2 HBEL.out hbel2
          case measure => simp [intOf]; omega
    · obtain rfl : k = m := by omega
      go_wp2
      go_ret
      exact ⟨_, rfl, by rw [wordsOf_hv bs k (by rw [HBL.out, HNM.out])]; exact hown, hbel⟩
end Go.Proofs.YtnbcegijncdmaaaDoor.Ly2
