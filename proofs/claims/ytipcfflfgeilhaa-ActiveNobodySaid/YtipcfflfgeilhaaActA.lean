/- The contracts of package active on one that nobody made, and of layer 17's closed example. -/
import Derived.Test.YtipcfflfgeilhaaWirA
import Derived.Test.YtipcfflfgeilhaaBox
import Derived.Outline
namespace Go.Proofs.Ytipcfflfgeilhaa.Ly17
open Go.ChangeShapes Go.WideShapes Go.ChangeAt Go.RowKit Base Ly3
set_option linter.unusedVariables false
set_option linter.unusedSimpArgs false

/-- A watch, as it stands. -/
def Wt (w : World) (g : Nat) (to' seen : Int) : Prop := Obj1 w g 54 #[.int .i64 to', .int .i64 seen]
theorem Wt.cells {w : World} {g : Nat} {a b : Int} (h : Wt w g a b) : w.cell? ⟨g, 0, none⟩ = some (.int .i64 a) ∧ w.cell? ⟨g, 1, none⟩ = some (.int .i64 b) := ⟨h.cell 0, h.cell 1⟩
/-- A watch that nobody made. -/
def Nob (w : World) (v : Value) : Prop := v = .pointer none ∨ ∃ g, v = .pointer (some ⟨g, 0, none⟩) ∧ Wt w g 0 0
theorem Nob.kept {w w' : World} {v : Value} (h : Nob w v) (hb : Below w.heap.size w w') : Nob w' v := by
  rcases h with h | ⟨g, h, k⟩
  · exact .inl h
  · exact .inr ⟨g, h, Obj1.kept k hb⟩
theorem see_nob (v : Value) (p : Int) (l : Int) (w : World) (h : Nob w v) : Calls Try.prog 23 #[v, .int .i64 p, .int .u8 l] w fun e w' => e = .returned (.tuple #[]) ∧ w = w' := by
  rcases h with rfl | ⟨g, rfl, h⟩
  · go_enter Try.func23, Try.ntmps23
    go_wp2
    refine bodyPost_ret (results_none rfl _ _ _) rfl ?_
    exact ⟨rfl, rfl⟩
  · obtain ⟨c0, c1⟩ := h.cells
    clear h
    by_cases hp : p < 20
    · go_enter Try.func23, Try.ntmps23
      go_wp2
      refine bodyPost_ret (results_none rfl _ _ _) rfl ?_
      exact ⟨rfl, rfl⟩
    · have hp0 : 0 ≤ p := by omega
      go_enter Try.func23, Try.ntmps23
      go_wp2
      refine bodyPost_ret (results_none rfl _ _ _) rfl ?_
      exact ⟨rfl, rfl⟩
theorem first_at (g : Nat) (a b : Int) (w : World) (h : Wt w g a b) (b0 : 0 ≤ b) (b1 : b ≤ 1000000) : Calls Try.prog 24 #[.pointer (some ⟨g, 0, none⟩)] w fun e w' => e = .returned (.int .i64 (b - 1)) ∧ w = w' := by
  obtain ⟨c0, c1⟩ := h.cells
  clear h
  go_enter Try.func24, Try.ntmps24
  go_wp2
  go_ret
  exact ⟨rfl, rfl⟩
theorem first_nob (v : Value) (w : World) (h : Nob w v) : Calls Try.prog 24 #[v] w fun e w' => e = .returned (.int .i64 (-1)) ∧ w = w' := by
  rcases h with rfl | ⟨g, rfl, h⟩
  · go_enter Try.func24, Try.ntmps24
    go_wp2
    go_ret
    exact ⟨rfl, rfl⟩
  · exact first_at g 0 0 w h (by omega) (by omega)
theorem cand_nob (v : Value) (w : World) (h : Nob w v) : Calls Try.prog 25 #[v] w fun e w' => e = .returned (.int .i64 (-1)) ∧ w = w' := by
  have H := Lib.hid h
  clear h
  go_enter Try.func25, Try.ntmps25
  go_wp2_with (first | (go_at_call 24; refine (first_nob _ _ H.out).mono ?_; rintro e w' ⟨rfl, rfl⟩) | go_in)
  go_ret
  exact ⟨rfl, rfl⟩
theorem cand_119 (g : Nat) (w : World) (h : Wt w g 240 119) : Calls Try.prog 25 #[.pointer (some ⟨g, 0, none⟩)] w fun e w' => e = .returned (.int .i64 1) ∧ w = w' := by
  have H := Lib.hid h
  clear h
  go_enter Try.func25, Try.ntmps25
  go_wp2_with (first | (go_at_call 24; refine (first_at _ 240 119 _ H.out (by omega) (by omega)).mono ?_; rintro e w' ⟨rfl, rfl⟩) | go_in)
  go_ret
  exact ⟨rfl, rfl⟩
theorem clear_nob (v : Value) (w : World) (h : Nob w v) : Calls Try.prog 26 #[v] w fun e w' => e = .returned (.bool false) ∧ w = w' := by
  rcases h with rfl | ⟨g, rfl, h⟩
  · go_enter Try.func26, Try.ntmps26
    go_wp2
    go_ret
    exact ⟨rfl, rfl⟩
  · obtain ⟨c0, c1⟩ := h.cells
    clear h
    go_enter Try.func26, Try.ntmps26
    go_wp2
    go_ret
    exact ⟨rfl, rfl⟩
theorem clear_at (g : Nat) (b : Int) (r : Bool) (w : World) (h : Wt w g 240 b) (b0 : 0 ≤ b) (b1 : b ≤ 1000000) (hr : Hid (decide (b - 1 < 0) = r)) : Calls Try.prog 26 #[.pointer (some ⟨g, 0, none⟩)] w fun e w' => e = .returned (.bool r) ∧ w = w' := by
  have H := Lib.hid h
  obtain ⟨c0, c1⟩ := h.cells
  clear h
  go_enter Try.func26, Try.ntmps26
  go_wp2_with (first | (go_at_call 24; refine (first_at _ 240 b _ H.out b0 b1).mono ?_; rintro e w' ⟨rfl, rfl⟩))
  go_ret
  exact ⟨by rw [← hr.out]; simp, rfl⟩

theorem count_4 (w : World) : Calls Try.prog 36 #[.int .u8 4] w fun e w' => e = .returned (.int .i64 1) ∧ w = w' := by
  go_enter Try.func36, Try.ntmps36
  go_wp2
  refine wp_loop_rounds 5 ?_
  rw [rounds_succ]
  go_wp2_with (go_at_call 45; refine (high_at 4 0 _ (by omega) (by omega)).mono ?_; rintro e w' ⟨rfl, rfl⟩; rw [show hb 4 0 = false by decide])
  rw [rounds_succ]
  go_wp2_with (go_at_call 45; refine (high_at 4 1 _ (by omega) (by omega)).mono ?_; rintro e w' ⟨rfl, rfl⟩; rw [show hb 4 1 = false by decide])
  rw [rounds_succ]
  go_wp2_with (go_at_call 45; refine (high_at 4 2 _ (by omega) (by omega)).mono ?_; rintro e w' ⟨rfl, rfl⟩; rw [show hb 4 2 = true by decide])
  rw [rounds_succ]
  go_wp2_with (go_at_call 45; refine (high_at 4 3 _ (by omega) (by omega)).mono ?_; rintro e w' ⟨rfl, rfl⟩; rw [show hb 4 3 = false by decide])
  rw [rounds_succ]
  go_wp2
  go_ret
  exact ⟨rfl, rfl⟩
theorem count_5 (w : World) : Calls Try.prog 36 #[.int .u8 5] w fun e w' => e = .returned (.int .i64 2) ∧ w = w' := by
  go_enter Try.func36, Try.ntmps36
  go_wp2
  refine wp_loop_rounds 5 ?_
  rw [rounds_succ]
  go_wp2_with (go_at_call 45; refine (high_at 5 0 _ (by omega) (by omega)).mono ?_; rintro e w' ⟨rfl, rfl⟩; rw [show hb 5 0 = true by decide])
  rw [rounds_succ]
  go_wp2_with (go_at_call 45; refine (high_at 5 1 _ (by omega) (by omega)).mono ?_; rintro e w' ⟨rfl, rfl⟩; rw [show hb 5 1 = false by decide])
  rw [rounds_succ]
  go_wp2_with (go_at_call 45; refine (high_at 5 2 _ (by omega) (by omega)).mono ?_; rintro e w' ⟨rfl, rfl⟩; rw [show hb 5 2 = true by decide])
  rw [rounds_succ]
  go_wp2_with (go_at_call 45; refine (high_at 5 3 _ (by omega) (by omega)).mono ?_; rintro e w' ⟨rfl, rfl⟩; rw [show hb 5 3 = false by decide])
  rw [rounds_succ]
  go_wp2
  go_ret
  exact ⟨rfl, rfl⟩
theorem see_117 (g : Nat) (w : World) (h : Wt w g 240 0) : Calls Try.prog 23 #[.pointer (some ⟨g, 0, none⟩), .int .i64 117, .int .u8 4] w fun e w' => e = .returned (.tuple #[]) ∧ w = w' := by
  obtain ⟨c0, c1⟩ := h.cells
  clear h
  go_enter Try.func23, Try.ntmps23
  go_wp2_with (go_at_call 36; refine (count_4 _).mono ?_; rintro e w' ⟨rfl, rfl⟩)
  refine bodyPost_ret (results_none rfl _ _ _) rfl ?_
  exact ⟨rfl, rfl⟩
theorem see_118 (g : Nat) (w : World) (h : Wt w g 240 0) : Calls Try.prog 23 #[.pointer (some ⟨g, 0, none⟩), .int .i64 118, .int .u8 5] w fun e w' => e = .returned (.tuple #[]) ∧ Hid (Wt w' g 240 119) ∧ Hid (Wrote g w w') := by
  obtain ⟨c0, c1⟩ := h.cells
  have f1 := Obj1.free h 1
  have H := Lib.hid h
  clear h
  go_enter Try.func23, Try.ntmps23
  go_wp2_with (go_at_call 36; refine (count_5 _).mono ?_; rintro e w' ⟨rfl, rfl⟩)
  go_end0
  exact ⟨rfl, Obj1.set H.out 1 (.int .i64 119), (Wrote.refl g w).set (.inl rfl) _⟩
theorem see_40 (g : Nat) (w : World) (h : Wt w g 240 119) : Calls Try.prog 23 #[.pointer (some ⟨g, 0, none⟩), .int .i64 40, .int .u8 15] w fun e w' => e = .returned (.tuple #[]) ∧ w = w' := by
  obtain ⟨c0, c1⟩ := h.cells
  clear h
  go_enter Try.func23, Try.ntmps23
  go_wp2
  refine bodyPost_ret (results_none rfl _ _ _) rfl ?_
  exact ⟨rfl, rfl⟩
/-- A slot by value. -/
def slot (a b c d e f g : Int) (t : Bool) : Value := .agg #[.int .i64 a, .int .i64 b, .int .i64 c, .int .i64 d, .int .i64 e, .int .i64 f, .int .i64 g, .bool t]
set_option maxHeartbeats 1000000 in
theorem new_any (w : World) : Calls Try.prog 38 #[.agg #[.int .i64 0, .int .i64 0, .int .i64 0, .int .i64 1, .int .i64 0, .int .i64 3, .int .i64 0, .bool false]] w fun e w' => ∃ g, e = .returned (.pointer (some ⟨g, 0, none⟩)) ∧ w.heap.size ≤ g ∧ Hid (Wt w' g 240 0) ∧ Hid (Below w.heap.size w w') := by
  go_enter Try.func38, Try.ntmps38
  go_wp2
  go_ret
  refine ⟨w.heap.size + 1 + 1, rfl, by omega, ?_, Lib.hid ?_⟩
  · have := Obj1.new ((w.alloc (.cells #[.int .i64 0, .int .i64 0, .int .i64 0, .int .i64 1, .int .i64 0, .int .i64 3, .int .i64 0, .bool false] 23)).alloc (.cells #[.int .i64 0, .int .i64 0, .int .i64 0, .int .i64 1, .int .i64 0, .int .i64 3, .int .i64 0, .bool false] 23)) 54 #[.int .i64 240, .int .i64 0]
    rw [show ((w.alloc (.cells #[.int .i64 0, .int .i64 0, .int .i64 0, .int .i64 1, .int .i64 0, .int .i64 3, .int .i64 0, .bool false] 23)).alloc (.cells #[.int .i64 0, .int .i64 0, .int .i64 0, .int .i64 1, .int .i64 0, .int .i64 3, .int .i64 0, .bool false] 23)).heap.size = w.heap.size + 1 + 1 by simp] at this
    exact this
  repeat (first | exact Below.refl _ _ | refine Below.setCell ?_ (by first | omega | (simp; done) | (simp; omega)) _ | refine Below.alloc ?_ (by first | omega | (simp; done) | (simp; omega)) _ | refine below_drewN' ?_ _ | refine Below.drew ?_)
theorem dec_gap (w : World) : Calls Try.prog 27 #[.agg #[.int .i64 1, .int .i64 0, .int .i64 0, .int .i64 0, .int .i64 0, .int .i64 0, .int .i64 0, .bool false], .int .i64 0] w fun e w' => e = .returned (.int .i64 0) ∧ Below w.heap.size w w' := by
  go_enter Try.func27, Try.ntmps27
  go_wp2
  go_ret
  refine ⟨rfl, ?_⟩
  repeat (first | exact Below.refl _ _ | refine Below.setCell ?_ (by first | omega | (simp; done) | (simp; omega)) _ | refine Below.alloc ?_ (by first | omega | (simp; done) | (simp; omega)) _ | refine below_drewN' ?_ _ | refine Below.drew ?_)
theorem dec_data (w : World) : Calls Try.prog 27 #[.agg #[.int .i64 0, .int .i64 0, .int .i64 0, .int .i64 0, .int .i64 0, .int .i64 3, .int .i64 0, .bool false], .int .i64 1] w fun e w' => e = .returned (.int .i64 110) ∧ Below w.heap.size w w' := by
  go_enter Try.func27, Try.ntmps27
  go_wp2
  go_ret
  refine ⟨rfl, ?_⟩
  repeat (first | exact Below.refl _ _ | refine Below.setCell ?_ (by first | omega | (simp; done) | (simp; omega)) _ | refine Below.alloc ?_ (by first | omega | (simp; done) | (simp; omega)) _ | refine below_drewN' ?_ _ | refine Below.drew ?_)
theorem from_any (w : World) : Calls Try.prog 39 #[] w fun e w' => e = .returned (.int .i64 20) ∧ w = w' := by
  go_enter Try.func39, Try.ntmps39
  go_wp2
  go_ret
  exact ⟨rfl, rfl⟩
set_option maxHeartbeats 1000000 in
theorem one_any (w : World) : Calls Try.prog 28 #[] w fun e w' => e = .returned (.bool true) ∧ Below w.heap.size w w' := by
  go_enter Try.func28, Try.ntmps28
  go_wp2_with fail
  refine (new_any _).mono ?_
  rintro e w1 ⟨g, rfl, hg, h1, hb1⟩
  go_wp2_with fail
  refine (clear_at g 0 true _ h1.out (by omega) (by omega) (Lib.hid (by decide))).mono ?_
  rintro e w' ⟨rfl, rfl⟩
  go_wp2_with fail
  refine (see_117 g _ h1.out).mono ?_
  rintro e w' ⟨rfl, rfl⟩
  go_wp2_with fail
  refine (see_118 g _ h1.out).mono ?_
  rintro e w2 ⟨rfl, h2, hw2⟩
  have HB2 := Lib.hid (hb1.out.trans (hw2.out.below hg hb1.out.size))
  clear hw2 h1 hb1
  go_wp2_with fail
  refine (see_40 g _ h2.out).mono ?_
  rintro e w' ⟨rfl, rfl⟩
  go_wp2_with fail
  refine (first_at g 240 119 _ h2.out (by omega) (by omega)).mono ?_
  rintro e w' ⟨rfl, rfl⟩
  go_wp2_with fail
  refine (cand_119 g _ h2.out).mono ?_
  rintro e w' ⟨rfl, rfl⟩
  go_wp2_with fail
  refine (clear_at g 119 false _ h2.out (by omega) (by omega) (Lib.hid (by decide))).mono ?_
  rintro e w' ⟨rfl, rfl⟩
  go_wp2_with fail
  refine (from_any _).mono ?_
  rintro e w' ⟨rfl, rfl⟩
  go_wp2_with fail
  refine (dec_data _).mono ?_
  rintro e w3 ⟨rfl, hb3⟩
  go_wp2
  go_ret
  exact ⟨rfl, HB2.out.trans (hb3.mono HB2.out.size)⟩
end Go.Proofs.Ytipcfflfgeilhaa.Ly17
