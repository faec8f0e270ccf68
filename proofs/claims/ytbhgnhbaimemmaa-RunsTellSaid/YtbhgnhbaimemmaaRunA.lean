/- The contracts of package runs: third, New, See, Run, Rose, Fell, Of, Since, on one that was made; the third greatest of four. -/
import Derived.Test.YtbhgnhbaimemmaaWirA
import Derived.Test.YtbhgnhbaimemmaaBox
import Derived.Test.YtbhgnhbaimemmaaShl
import Derived.Sort.OwnSortedInts
import Derived.Outline
import Derived.Deep.CutRange
namespace Go.Proofs.Ytbhgnhbaimemmaa.Ly6
open Go.ChangeShapes Go.WideShapes Go.ChangeAt Go.RowKit Base Ly3
set_option linter.unusedVariables false
set_option linter.unusedSimpArgs false

/-- The third greatest of four. -/
def t3 (a b c d : Int) : Int := max (min (min b c) d) (max (min (min a c) d) (max (min (min a b) d) (min (min a b) c)))
theorem ms4 (a b c d : Int) : ∃ p r s, ([a, b, c, d].mergeSort fun x y => decide (x ≤ y)) = [p, t3 a b c d, r, s] := by
  unfold t3
  simp only [List.mergeSort, List.MergeSort.Internal.splitInTwo]
  simp [List.splitAt, List.splitAt.go, List.mergeSort, List.MergeSort.Internal.splitInTwo]
  by_cases h1 : a ≤ b <;> by_cases h2 : c ≤ d <;> by_cases h3 : a ≤ c <;> by_cases h4 : a ≤ d <;> by_cases h5 : b ≤ c <;> by_cases h6 : b ≤ d <;> simp [h1, h2, h3, h4, h5, h6] <;> omega
theorem t3_bd {a b c d m : Int} (a0 : 0 ≤ a) (b0 : 0 ≤ b) (c0 : 0 ≤ c) (d0 : 0 ≤ d) (a1 : a ≤ m) (b1 : b ≤ m) (c1 : c ≤ m) (d1 : d ≤ m) : 0 ≤ t3 a b c d ∧ t3 a b c d ≤ m := by unfold t3; omega

theorem third_any (a b c d : Int) (w : World) :
    Calls Try.prog 51 #[.agg #[.int .i64 a, .int .i64 b, .int .i64 c, .int .i64 d]] w fun e w' => e = .returned (.int .i64 (t3 a b c d)) ∧ Below w.heap.size w w' := by
  have ho : Obj1 (w.alloc (.cells #[.int .i64 a, .int .i64 b, .int .i64 c, .int .i64 d] 68)) w.heap.size 68 #[.int .i64 a, .int .i64 b, .int .i64 c, .int .i64 d] := Obj1.new _ _ _
  have hH := holds_of_blockI (ss := [a, b, c, d]) ho rfl
  obtain ⟨p, r, s, hms⟩ := ms4 a b c d
  have hs : Calls Try.prog 54 #[.slice (some ⟨w.heap.size, 0, none⟩) 4 4] (w.alloc (.cells #[.int .i64 a, .int .i64 b, .int .i64 c, .int .i64 d] 68)) fun e w' =>
      e = .returned (.tuple #[]) ∧ w'.cell? ⟨w.heap.size, 1, none⟩ = some (.int .i64 (t3 a b c d)) ∧ Below w.heap.size w w' := by
    refine (Try.slices_Sort_int w.heap.size 0 4 [a, b, c, d] _ hH (by simp) (by simp)).mono ?_
    rintro e w' ⟨rfl, n, os, rfl⟩
    rw [hms]
    refine ⟨rfl, ?_, ?_⟩
    · have h1 := heap_sortedI (n := n) (os := os) #[p, t3 a b c d, r, s] ho
      have h2 : Obj1 _ w.heap.size _ _ := h1
      rw [show [p, t3 a b c d, r, s].toArray = #[p, t3 a b c d, r, s] from rfl, h2.cell 1]
      simp [Go.Sort.putCells]
    · have h3 : Wrote w.heap.size _ _ := grownBy_sortedI (w := w.alloc (.cells #[.int .i64 a, .int .i64 b, .int .i64 c, .int .i64 d] 68)) (g := w.heap.size) (n := n) (os := os) [p, t3 a b c d, r, s].toArray
      exact ((Below.refl _ _).alloc (Nat.le_refl _) _).trans (h3.below (Nat.le_refl _) (by simp))
  have HS := Lib.hid hs
  clear hs hms hH ho
  go_enter Try.func51, Try.ntmps51
  go_wp2_with (go_at_call 54; refine HS.out.mono ?_; rintro e w' ⟨rfl, hc, hb⟩)
  go_ret
  exact ⟨rfl, hb⟩

/-- Runs that were made. -/
def rc (m : Bool) (a b c d run was since : Int) : Array Value := #[.bool m, .int .i64 a, .int .i64 b, .int .i64 c, .int .i64 d, .int .i64 run, .int .i64 was, .int .i64 since]
def Rn (w : World) (g : Nat) (m : Bool) (a b c d run was since : Int) : Prop := Obj1 w g 70 (rc m a b c d run was since)
theorem Rn.cells {w : World} {g : Nat} {m : Bool} {a b c d run was since : Int} (h : Rn w g m a b c d run was since) :
    w.cell? ⟨g, 0, none⟩ = some (.bool m) ∧ w.cell? ⟨g, 1, none⟩ = some (.int .i64 a) ∧ w.cell? ⟨g, 2, none⟩ = some (.int .i64 b) ∧ w.cell? ⟨g, 3, none⟩ = some (.int .i64 c) ∧ w.cell? ⟨g, 4, none⟩ = some (.int .i64 d) ∧
    w.cell? ⟨g, 5, none⟩ = some (.int .i64 run) ∧ w.cell? ⟨g, 6, none⟩ = some (.int .i64 was) ∧ w.cell? ⟨g, 7, none⟩ = some (.int .i64 since) :=
  ⟨h.cell 0, h.cell 1, h.cell 2, h.cell 3, h.cell 4, h.cell 5, h.cell 6, h.cell 7⟩
theorem Rn.frees {w : World} {g : Nat} {m : Bool} {a b c d run was since : Int} (h : Rn w g m a b c d run was since) :
    w.frozen? ⟨g, 0, none⟩ = false ∧ w.frozen? ⟨g, 1, none⟩ = false ∧ w.frozen? ⟨g, 2, none⟩ = false ∧ w.frozen? ⟨g, 3, none⟩ = false ∧ w.frozen? ⟨g, 4, none⟩ = false ∧
    w.frozen? ⟨g, 5, none⟩ = false ∧ w.frozen? ⟨g, 6, none⟩ = false ∧ w.frozen? ⟨g, 7, none⟩ = false :=
  ⟨h.free 0, h.free 1, h.free 2, h.free 3, h.free 4, h.free 5, h.free 6, h.free 7⟩

theorem new_any (w : World) : Calls Try.prog 36 #[] w fun e w' => e = .returned (.pointer (some ⟨w.heap.size, 0, none⟩)) ∧ Rn w' w.heap.size true 0 0 0 0 0 0 0 ∧ Below w.heap.size w w' := by
  go_enter Try.func36, Try.ntmps36
  go_wp2
  go_ret
  exact ⟨rfl, Obj1.new _ _ _, (Below.refl _ _).alloc (Nat.le_refl _) _⟩

theorem run_any (g : Nat) (m : Bool) (a b c d run was since : Int) (w : World) (h : Rn w g m a b c d run was since) :
    Calls Try.prog 39 #[.pointer (some ⟨g, 0, none⟩)] w fun e w' => e = .returned (.int .i64 run) ∧ w = w' := by
  obtain ⟨c0, c1, c2, c3, c4, c5, c6, c7⟩ := h.cells
  clear h
  go_enter Try.func39, Try.ntmps39
  go_wp2
  go_ret
  exact ⟨rfl, rfl⟩
theorem fell_any (g : Nat) (m : Bool) (a b c d run was since : Int) (w : World) (h : Rn w g m a b c d run was since) :
    Calls Try.prog 41 #[.pointer (some ⟨g, 0, none⟩)] w fun e w' => e = .returned (.int .i64 (if 0 < run then 0 else was)) ∧ w = w' := by
  obtain ⟨c0, c1, c2, c3, c4, c5, c6, c7⟩ := h.cells
  clear h
  by_cases hr : 0 < run
  · rw [if_pos hr]
    go_enter Try.func41, Try.ntmps41
    go_wp2
    go_ret
    exact ⟨rfl, rfl⟩
  · rw [if_neg hr]
    go_enter Try.func41, Try.ntmps41
    go_wp2
    go_ret
    exact ⟨rfl, rfl⟩
def roseB (run was : Int) : Bool := (was == 0) && decide (0 < run)
theorem rose_any (g : Nat) (m : Bool) (a b c d run was since : Int) (w : World) (h : Rn w g m a b c d run was since) :
    Calls Try.prog 40 #[.pointer (some ⟨g, 0, none⟩)] w fun e w' => e = .returned (.bool (roseB run was)) ∧ Below w.heap.size w w' := by
  have hlt := h.lt
  obtain ⟨c0, c1, c2, c3, c4, c5, c6, c7⟩ := h.cells
  clear h
  by_cases hz : was = 0
  · subst hz
    rw [show roseB run 0 = decide (0 < run) by simp [roseB]]
    go_enter Try.func40, Try.ntmps40
    go_wp2
    go_ret
    exact ⟨rfl, (Below.refl _ _).alloc (Nat.le_refl _) _⟩
  · have hz' : (was == 0) = false := by simpa using hz
    rw [show roseB run was = false by simp [roseB, hz]]
    clear hz
    go_enter Try.func40, Try.ntmps40
    go_wp2
    go_ret
    exact ⟨rfl, (Below.refl _ _).alloc (Nat.le_refl _) _⟩
def ofF (a b c d : Int) (k : Int) : Int := if k = 0 then a else if k = 1 then b else if k = 2 then c else if k = 3 then d else 0
theorem of_any (g : Nat) (m : Bool) (a b c d run was since : Int) (k : Int) (w : World) (h : Rn w g m a b c d run was since) :
    Calls Try.prog 43 #[.pointer (some ⟨g, 0, none⟩), .int .i64 k] w fun e w' => e = .returned (.int .i64 (ofF a b c d k)) ∧ w = w' := by
  obtain ⟨c0, c1, c2, c3, c4, c5, c6, c7⟩ := h.cells
  clear h
  rcases (show k < 0 ∨ (0 ≤ k ∧ 4 ≤ k) ∨ k = 0 ∨ k = 1 ∨ k = 2 ∨ k = 3 by omega) with h | ⟨h, h2⟩ | rfl | rfl | rfl | rfl
  · rw [show ofF a b c d k = 0 by unfold ofF; omega]
    go_enter Try.func43, Try.ntmps43
    go_wp2
    go_ret
    exact ⟨rfl, rfl⟩
  · rw [show ofF a b c d k = 0 by unfold ofF; omega]
    go_enter Try.func43, Try.ntmps43
    go_wp2
    go_ret
    exact ⟨rfl, rfl⟩
  all_goals
    simp only [ofF]
    go_enter Try.func43, Try.ntmps43
    go_wp2
    go_ret
    exact ⟨rfl, rfl⟩
theorem since_any (g : Nat) (m : Bool) (a b c d run was since : Int) (w : World) (h : Rn w g m a b c d run was since) :
    Calls Try.prog 44 #[.pointer (some ⟨g, 0, none⟩)] w fun e w' => e = .returned (.int .i64 since) ∧ Rn w' g m a b c d run was 0 ∧ Wrote g w w' := by
  obtain ⟨c0, c1, c2, c3, c4, c5, c6, c7⟩ := h.cells
  obtain ⟨f0, f1, f2, f3, f4, f5, f6, f7⟩ := h.frees
  have H := Lib.hid h
  clear h
  go_enter Try.func44, Try.ntmps44
  go_wp2
  go_ret
  exact ⟨rfl, H.out.set 7 (.int .i64 0), (Wrote.refl g w).set (.inl rfl) _⟩

/-- A line's run behind one more tick. -/
def nx (l k : Nat) (a : Int) : Int := if hb l k then a + 1 else 0
theorem nx_bd {l k : Nat} {a m : Int} (h0 : 0 ≤ a) (h1 : a ≤ m) : 0 ≤ nx l k a ∧ nx l k a ≤ m + 1 := by unfold nx; split <;> omega
def sc (l k : Nat) (a b c d run was since : Int) : Array Value :=
  rc true (if 0 < k then nx l 0 a else a) (if 1 < k then nx l 1 b else b) (if 2 < k then nx l 2 c else c) (if 3 < k then nx l 3 d else d) run was since
end Go.Proofs.Ytbhgnhbaimemmaa.Ly6
