/- The contract of package word's Words: the words of bits, in new memory. -/
import Derived.Test.YtnbcegijncdmaaaDoorWrdA
import Derived.StillTailTactics
import Derived.IntWalk
namespace Go.Proofs.YtnbcegijncdmaaaDoor.Ly2
open Go.ChangeShapes Go.WideShapes Go.ChangeAt Go.RowKit Base
set_option linter.unusedVariables false
set_option linter.unusedSimpArgs false

theorem info_u8 : (Tryd.prog.info? 5).map (fun i => (i.zero, i.size, i.bytes)) = some (some (.int .u8 0), 1, 1) := by kernel_rfl
/-- A word, behind k of the bits. -/
def wst (bs : List Bool) : Nat → Nat → Nat
  | 0, _ => 0
  | k + 1, i => if bs.getD k false = true ∧ i = k / 8 then wst bs k i ||| 2 ^ (7 - k % 8) else wst bs k i
theorem wst_lt (bs : List Bool) (k i : Nat) : wst bs k i < 256 := by
  induction k with
  | zero => simp [wst]
  | succ k ih =>
    simp only [wst]
    split
    · refine Nat.or_lt_two_pow (n := 8) ih ?_
      have : k % 8 < 8 := Nat.mod_lt _ (by decide)
      generalize k % 8 = j at this
      rcases (show j = 0 ∨ j = 1 ∨ j = 2 ∨ j = 3 ∨ j = 4 ∨ j = 5 ∨ j = 6 ∨ j = 7 by omega) with rfl | rfl | rfl | rfl | rfl | rfl | rfl | rfl <;> decide
    · exact ih
def wcells (bs : List Bool) (m k : Nat) : Array Value := ((List.range m).map fun i => Value.int .u8 (wst bs k i)).toArray
theorem wcells_zero (bs : List Bool) (m : Nat) : wcells bs m 0 = madeCells #[.int .u8 0] m := by
  apply Array.toList_inj.1
  rw [Go.toList_madeCells_one]
  simp only [wcells]
  apply List.ext_getElem
  · simp
  · intro i h1 h2; simp [wst]
theorem wcells_get (bs : List Bool) (m k i : Nat) (hi : i < m) : (wcells bs m k)[i]? = some (.int .u8 (wst bs k i)) := by simp [wcells, hi]
theorem wcells_off (bs : List Bool) (m k : Nat) (h : bs.getD k false = false) : wcells bs m (k + 1) = wcells bs m k := by
  unfold wcells
  congr 1
  apply List.map_congr_left
  intro i _
  simp only [wst]
  rw [if_neg (by rw [h]; simp)]
theorem wcells_on (bs : List Bool) (m k : Nat) (h : bs.getD k false = true) : (wcells bs m k).setIfInBounds (k / 8) (.int .u8 ((wst bs k (k / 8) ||| 2 ^ (7 - k % 8) : Nat) : Int)) = wcells bs m (k + 1) := by
  apply Array.ext_getElem?
  intro i
  rw [Array.getElem?_setIfInBounds]
  rcases Nat.lt_or_ge i m with hi | hi
  · rw [wcells_get _ _ _ _ hi, wcells_get _ _ _ _ hi]
    by_cases e : k / 8 = i
    · subst e
      rw [if_pos rfl, if_pos (by simpa [wcells] using hi)]
      simp only [wst]
      rw [if_pos ⟨h, trivial⟩]
    · rw [if_neg e]
      simp only [wst]
      rw [if_neg (fun hh => e hh.2.symm)]
  · have e1 : (wcells bs m k)[i]? = none := by simp [wcells]; omega
    have e2 : (wcells bs m (k + 1))[i]? = none := by simp [wcells]; omega
    rw [e1, e2]
    split
    · simp [wcells]; omega
    · rfl
/-- The words of bits. -/
def wordsOf (bs : List Bool) (m : Nat) : List Nat := (List.range m).map fun i => wst bs bs.length i
theorem mask_i (j : Nat) (m : Int) (hm : ((2 ^ (7 - j) : Nat) : Int) = m) (w : World) (hj : j < 8) : Calls Tryd.prog 91 #[.int .i64 j] w fun e w' => e = .returned (.int .u8 m) ∧ w' = w :=
  (mask_c j m hm w hj).mono fun _ _ ⟨a, b⟩ => ⟨a, b.symm⟩

def VRel (w : World) (bs : List Bool) (m : Nat) (i : Value) (wr : World) : Prop := ∃ k : Nat, k ≤ 8 * m ∧ i = .int .i64 k ∧ Obj1 wr w.heap.size 5 (wcells bs m k) ∧ Below w.heap.size w wr
theorem words_odd (A : Option Addr) (n c : Nat) (w : World) (h8 : ¬ n % 8 = 0) (hn : n ≤ 9223372036854775807) : Calls Tryd.prog 80 #[.slice A n c] w fun e w' => e = .returned (.tuple #[.slice none 0 0, .bool false]) ∧ w = w' := by
  have h8' : ((n : Int) % 8 != 0) = true := by simp; omega
  have h8'' : ¬ ((n : Int) % 8 = 0) := by omega
  go_enter Tryd.func80, Tryd.ntmps80
  go_wp2
  go_ret2
  exact ⟨rfl, rfl⟩
set_option maxRecDepth 100000 in
set_option maxHeartbeats 2000000 in
theorem words_any (A : Option Addr) (m c : Nat) (bs : List Bool) (w : World) (h : Lst w A (8 * m) (bs.map Value.bool)) (hn : m ≤ 100000) :
    Calls Tryd.prog 80 #[.slice A (8 * m) c] w fun e w' => e = .returned (.tuple #[.slice (some ⟨w.heap.size, 0, none⟩) m m, .bool true]) ∧ Hid (Obj1 w' w.heap.size 5 ((wordsOf bs m).map fun (x : Nat) => Value.int .u8 x).toArray) ∧ Below w.heap.size w w' := by
  obtain ⟨i0, hi, hz0, hz1, hz2⟩ := info_parts info_u8
  have HBL := Lib.hid (show bs.length = 8 * m by simpa using h.1)
  obtain ⟨n, hnm⟩ : ∃ n, n = 8 * m := ⟨_, rfl⟩
  rw [← hnm] at h HBL ⊢
  have hq : (n : Int) / 8 = (m : Int) := by omega
  have hr : (n : Int) % 8 = 0 := by omega
  have hnb : n ≤ 800000 := by omega
  have hmk : (Instr.makeSlice 23 (.int .i64 (m : Int)) (.int .i64 (m : Int))).run Tryd.prog w = .ok (.slice (some ⟨w.heap.size, 0, none⟩) m m) (w.alloc (.cells (wcells bs m 0) 5)) := by
    have := run_make (P := Tryd.prog) w 23 5 i0 (.int .u8 0) Tryd.underlying23 hi hz0 .i64 .i64 m m (by omega) (Int.le_refl _) (by rw [hz2]; omega) (by omega)
    rw [hz1] at this
    simp only [Int.toNat_natCast, Nat.mul_one] at this
    rw [wcells_zero]
    exact this
  have HNM := Lib.hid hnm
  clear hnm hz0 hz1 hz2 hi
  go_enter Tryd.func80, Tryd.ntmps80
  go_wp2
  clear hq hr hmk
  go_loopw [5, 6, 17] (fun _ _ i wr => VRel w bs m i wr) (fun _ _ i _ => n - (intOf i).toNat)
  case atStart => exact ⟨0, by omega, rfl, Obj1.new _ _ _, (Below.refl _ _).alloc (Nat.le_refl _) _⟩
  case round =>
    obtain ⟨k, hk, rfl, hob, hbel⟩ := hrel
    rw [← HNM.out] at hk
    by_cases hlt : k < n
    · obtain ⟨b, off, rfl, _, hc⟩ := (h.kept hbel).get hlt
      rw [List.getElem_map] at hc
      have hkl : k < bs.length := by rw [HBL.out]; exact hlt
      have HGD := Lib.hid (show bs.getD k false = bs[k]'hkl by rw [List.getD_eq_getElem?_getD, List.getElem?_eq_getElem hkl]; rfl)
      obtain ⟨x, HX⟩ : ∃ x, Hid (bs[k]'hkl = x) := ⟨_, Lib.hid rfl⟩
      rw [HX.out] at hc HGD
      have HOB := Lib.hid hob
      clear hob
      cases x
      · go_wp2
        go_roundw
        case rel => exact ⟨k + 1, by have := HNM.out; omega, by go_num, by rw [wcells_off bs m k HGD.out]; exact HOB.out, hbel⟩
        case measure => simp [intOf]; omega
      · obtain ⟨q, hq⟩ : ∃ q : Nat, (k : Int) / 8 = (q : Int) := ⟨k / 8, by omega⟩
        obtain ⟨r, hr⟩ : ∃ r : Nat, (k : Int) % 8 = (r : Int) := ⟨k % 8, by omega⟩
        have hqm : q < m := by have := HNM.out; omega
        have HQ := Lib.hid (show k / 8 = q by omega)
        have HR := Lib.hid (show k % 8 = r by omega)
        have hr8 : r < 8 := by omega
        have hcell := (HOB.out.cell q).trans (wcells_get bs m k q hqm)
        have hfree := HOB.out.free q
        obtain ⟨M, HM⟩ : ∃ M, Hid (((2 ^ (7 - r) : Nat) : Int) = M) := ⟨_, Lib.hid rfl⟩
        have hp : 2 ^ (7 - r) < 256 := by rcases (show r = 0 ∨ r = 1 ∨ r = 2 ∨ r = 3 ∨ r = 4 ∨ r = 5 ∨ r = 6 ∨ r = 7 by omega) with rfl | rfl | rfl | rfl | rfl | rfl | rfl | rfl <;> decide
        have eo := u8_or_nat (wst bs k q) (2 ^ (7 - r)) (wst_lt bs k q) hp
        rw [HM.out] at eo
        obtain ⟨N, HNN⟩ : ∃ N, Hid (wst bs k q ||| 2 ^ (7 - r) = N) := ⟨_, Lib.hid rfl⟩
        obtain ⟨V, HV⟩ : ∃ V, Hid (wst bs k q = V) := ⟨_, Lib.hid rfl⟩
        rw [HNN.out, HV.out] at eo
        rw [HV.out] at hcell
        have wq : IntKind.i64.wrap (q : Int) = (q : Int) := IntWalk.i64_in _ (by omega)
        have wr1 : IntKind.i64.wrap (r : Int) = (r : Int) := IntWalk.i64_in _ (by omega)
        have hqi : (0 : Int) ≤ (q : Int) ∧ (q : Int) < (m : Int) := by omega
        have htm : ((k : Int)).tmod 8 = (r : Int) := by rw [Int.tmod_eq_emod_of_nonneg (by omega)]; exact hr
        clear hp
        go_wp2
        refine wp_region_still_tail 10 (by kernel_rfl) (by kernel_rfl) ?_
        simp only [List.take_succ_cons, List.take_zero, List.drop_succ_cons, List.drop_zero]
        repeat still_step
        still_call (mask_i r M HM.out _ hr8)
        repeat still_step
        refine wpStill_nil ?_
        change wpList _ _ _ _ _ wr.drew
        go_wp2
        go_roundw
        case rel => exact ⟨k + 1, by have := HNM.out; omega, by go_num, by
          have h2 := Obj1.set HOB.out.drew q (.int .u8 (N : Int))
          rw [← HNN.out, ← HQ.out, ← HR.out, wcells_on bs m k HGD.out] at h2
          rw [← HQ.out]
          rw [← HQ.out, ← HR.out] at HNN
          rw [← HNN.out]
          exact h2, (hbel.drew).setCell (by simp) _⟩
        case measure => simp [intOf]; omega
    · obtain rfl : k = n := by omega
      go_wp2
      go_ret2
      refine ⟨rfl, ?_, hbel⟩
      have e : wcells bs m k = ((wordsOf bs m).map fun (x : Nat) => Value.int .u8 x).toArray := by
        unfold wcells wordsOf
        rw [HBL.out, List.map_map]; rfl
      rw [← e]
      exact Lib.hid hob
end Go.Proofs.YtnbcegijncdmaaaDoor.Ly2
