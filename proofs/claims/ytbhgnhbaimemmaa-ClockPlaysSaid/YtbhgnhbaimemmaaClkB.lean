/- The contracts of package clock's Passed, Set, Enter. -/
import Derived.Test.YtbhgnhbaimemmaaClkA
namespace Go.Proofs.Ytbhgnhbaimemmaa.Ly5
open Go.ChangeShapes Go.WideShapes Go.ChangeAt Go.RowKit Base
set_option linter.unusedVariables false
set_option linter.unusedSimpArgs false

/-- Whether a place is one of the first d behind another one. -/
def passB (aa l : Int) (d : Nat) (p : Int) : Bool := (decide (1 ≤ d) && nx aa l 1 == p) || (decide (2 ≤ d) && nx aa l 2 == p)

theorem passed0 (b : Nat) (a l f p : Int) (w : World) (h : Clk w b a l a l f) (h0 : 0 ≤ a) (h1 : a < l) (h2 : l ≤ 1048576) :
    Calls Try.prog 30 #[.pointer (some ⟨b, 0, none⟩), .int .i64 p] w fun e w' => e = .returned (.bool false) ∧ Below w.heap.size w w' := by
  obtain ⟨c0, c1, c2, c3, c4⟩ := h.cells
  have hlt := h.lt
  have H := Lib.hid h
  clear h
  go_enter Try.func30, Try.ntmps30
  go_wp2_with (go_at_call 48; refine (made_yes _ _ _ _ _ _ _ H.out (by omega)).mono ?_; rintro e w' ⟨rfl, rfl⟩)
  refine wp_loop_rounds 1 ?_
  rw [rounds_succ]
  go_wp2
  refine wp_region_quiet_lit (by kernel_rfl) (by kernel_rfl) ?_
  repeat (go_big_quiet_step (fail))
  refine wpQuiet_nil ?_
  intro _ hw'
  obtain ⟨nq, hw''⟩ := hw'
  subst hw''
  go_wp2
  go_ret
  exact ⟨rfl, by first | exact below_drewN' ((Below.refl _ _).alloc (Nat.le_refl _) _) _ | exact (below_drewN' (Below.refl _ _) _).alloc (Nat.le_refl _) _⟩

def Step (a l x : Int) : Prop := (a + 1 = l ∧ x = 0) ∨ (a + 1 < l ∧ x = a + 1)
theorem next_to (a l x : Int) (w : World) (h0 : 0 ≤ a) (h : Step a l x) (h2 : l ≤ 1048576) :
    Calls Try.prog 49 #[.agg #[.int .i64 a, .int .i64 l]] w fun e w' => e = .returned (.agg #[.int .i64 x, .int .i64 l]) ∧ Below w.heap.size w w' := by
  rcases h with ⟨h, rfl⟩ | ⟨h, rfl⟩
  · exact next_wrap a l w h0 h h2
  · exact next_on a l w h0 (by omega) (by omega) h2

theorem passed1 (b : Nat) (a l aa f p : Int) (w : World) (h : Clk w b a l aa l f) (h0 : 0 ≤ aa) (h1 : aa < l) (h8 : 8 ≤ l) (h2 : l ≤ 1048576) (hs : Step aa l a) :
    Calls Try.prog 30 #[.pointer (some ⟨b, 0, none⟩), .int .i64 p] w fun e w' => e = .returned (.bool (a == p)) ∧ Below w.heap.size w w' := by
  obtain ⟨c0, c1, c2, c3, c4⟩ := h.cells
  have hlt := h.lt
  have hne : (aa == a) = false := by unfold Step at hs; simp; omega
  have hne' : ¬ aa = a := by simpa using hne
  have H := Lib.hid h
  have HS := Lib.hid hs
  clear h hs
  by_cases hp : a = p
  · subst hp
    go_enter Try.func30, Try.ntmps30
    go_wp2_with (go_at_call 48; refine (made_yes _ _ _ _ _ _ _ H.out (by omega)).mono ?_; rintro e w' ⟨rfl, rfl⟩)
    refine wp_loop_rounds 2 ?_
    rw [rounds_succ]
    go_wp2
    refine wp_region_quiet_lit (by kernel_rfl) (by kernel_rfl) ?_
    repeat (go_big_quiet_step (fail))
    refine wpQuiet_nil ?_
    intro _ hw'
    obtain ⟨nq, hw''⟩ := hw'
    subst hw''
    go_wp2_with (first | (go_at_call 49; refine (next_to aa l a _ h0 HS.out h2).mono ?_; rintro e w1 ⟨rfl, hb1⟩; obtain ⟨hc, hf'⟩ := bcell hb1))
    go_ret
    refine ⟨by simp, ?_⟩
    repeat (first | exact Below.refl _ _ | refine Below.setCell ?_ (by first | omega | (simp; done) | (simp; omega) | (have := hb1.size; simp at this ⊢; omega)) _ | refine Below.alloc ?_ (by first | omega | (simp; done) | (simp; omega) | (have := hb1.size; simp at this ⊢; omega)) _ | refine below_drewN' ?_ _ | refine Below.drew ?_ | refine Below.trans ?_ (hb1.mono (by first | omega | (simp; done) | (simp; omega) | (have := hb1.size; simp at this ⊢; omega))))
  · have hp' : (a == p) = false := by simp [hp]
    rw [hp']
    go_enter Try.func30, Try.ntmps30
    go_wp2_with (go_at_call 48; refine (made_yes _ _ _ _ _ _ _ H.out (by omega)).mono ?_; rintro e w' ⟨rfl, rfl⟩)
    refine wp_loop_rounds 2 ?_
    rw [rounds_succ]
    go_wp2
    refine wp_region_quiet_lit (by kernel_rfl) (by kernel_rfl) ?_
    repeat (go_big_quiet_step (fail))
    refine wpQuiet_nil ?_
    intro _ hw'
    obtain ⟨nq, hw''⟩ := hw'
    subst hw''
    go_wp2_with (first | (go_at_call 49; refine (next_to aa l a _ h0 HS.out h2).mono ?_; rintro e w1 ⟨rfl, hb1⟩; obtain ⟨hchb1, hfhb1⟩ := bcell hb1; have hzhb1 := hb1.size; simp at hzhb1; have hghb1 : b < w1.heap.size := by omega))
    rw [rounds_succ]
    go_wp2
    refine wp_region_quiet_lit (by kernel_rfl) (by kernel_rfl) ?_
    repeat (go_big_quiet_step (fail))
    refine wpQuiet_nil ?_
    intro _ hw'
    obtain ⟨nq, hw''⟩ := hw'
    subst hw''
    go_wp2
    go_ret
    refine ⟨rfl, ?_⟩
    repeat (first | exact Below.refl _ _ | refine Below.setCell ?_ (by first | omega | (simp; done) | (simp; omega) | (have := hb1.size; simp at this ⊢; omega)) _ | refine Below.alloc ?_ (by first | omega | (simp; done) | (simp; omega) | (have := hb1.size; simp at this ⊢; omega)) _ | refine below_drewN' ?_ _ | refine Below.drew ?_ | refine Below.trans ?_ (hb1.mono (by first | omega | (simp; done) | (simp; omega) | (have := hb1.size; simp at this ⊢; omega))))

theorem passed2 (b : Nat) (a x l aa f p : Int) (w : World) (h : Clk w b a l aa l f) (h0 : 0 ≤ aa) (h1 : aa < l) (h8 : 8 ≤ l) (h2 : l ≤ 1048576) (hs : Step aa l x) (hs2 : Step x l a) :
    Calls Try.prog 30 #[.pointer (some ⟨b, 0, none⟩), .int .i64 p] w fun e w' => e = .returned (.bool (x == p || a == p)) ∧ Below w.heap.size w w' := by
  obtain ⟨c0, c1, c2, c3, c4⟩ := h.cells
  have hlt := h.lt
  have hx0 : 0 ≤ x := by unfold Step at hs; omega
  have hne : (aa == a) = false := by unfold Step at hs hs2; simp; omega
  have hne' : ¬ aa = a := by simpa using hne
  have hnx : (x == a) = false := by unfold Step at hs hs2; simp; omega
  have hnx' : ¬ x = a := by simpa using hnx
  have H := Lib.hid h
  have HS := Lib.hid hs
  have HS2 := Lib.hid hs2
  clear h hs hs2
  by_cases hp : x = p
  · subst hp
    go_enter Try.func30, Try.ntmps30
    go_wp2_with (go_at_call 48; refine (made_yes _ _ _ _ _ _ _ H.out (by omega)).mono ?_; rintro e w' ⟨rfl, rfl⟩)
    refine wp_loop_rounds 3 ?_
    rw [rounds_succ]
    go_wp2
    refine wp_region_quiet_lit (by kernel_rfl) (by kernel_rfl) ?_
    repeat (go_big_quiet_step (fail))
    refine wpQuiet_nil ?_
    intro _ hw'
    obtain ⟨nq, hw''⟩ := hw'
    subst hw''
    go_wp2_with (first | (go_at_call 49; refine (next_to aa l x _ h0 HS.out h2).mono ?_; rintro e w1 ⟨rfl, hb1⟩; obtain ⟨hchb1, hfhb1⟩ := bcell hb1; have hzhb1 := hb1.size; simp at hzhb1; have hghb1 : b < w1.heap.size := by omega))
    go_ret
    refine ⟨by simp, ?_⟩
    repeat (first | exact Below.refl _ _ | refine Below.setCell ?_ (by first | omega | (simp; done) | (simp; omega) | (have := hb1.size; simp at this ⊢; omega)) _ | refine Below.alloc ?_ (by first | omega | (simp; done) | (simp; omega) | (have := hb1.size; simp at this ⊢; omega)) _ | refine below_drewN' ?_ _ | refine Below.drew ?_ | refine Below.trans ?_ (hb1.mono (by first | omega | (simp; done) | (simp; omega) | (have := hb1.size; simp at this ⊢; omega))))
  · have hp' : (x == p) = false := by simp [hp]
    by_cases hq : a = p
    · subst hq
      go_enter Try.func30, Try.ntmps30
      go_wp2_with (go_at_call 48; refine (made_yes _ _ _ _ _ _ _ H.out (by omega)).mono ?_; rintro e w' ⟨rfl, rfl⟩)
      refine wp_loop_rounds 3 ?_
      rw [rounds_succ]
      go_wp2
      refine wp_region_quiet_lit (by kernel_rfl) (by kernel_rfl) ?_
      repeat (go_big_quiet_step (fail))
      refine wpQuiet_nil ?_
      intro _ hw'
      obtain ⟨nq, hw''⟩ := hw'
      subst hw''
      go_wp2_with (first | (go_at_call 49; refine (next_to aa l x _ h0 HS.out h2).mono ?_; rintro e w1 ⟨rfl, hb1⟩; obtain ⟨hchb1, hfhb1⟩ := bcell hb1; have hzhb1 := hb1.size; simp at hzhb1; have hghb1 : b < w1.heap.size := by omega))
      rw [rounds_succ]
      go_wp2
      refine wp_region_quiet_lit (by kernel_rfl) (by kernel_rfl) ?_
      repeat (go_big_quiet_step (fail))
      refine wpQuiet_nil ?_
      intro _ hw'
      obtain ⟨nq, hw''⟩ := hw'
      subst hw''
      go_wp2_with (first | (go_at_call 49; refine (next_to x l a _ hx0 HS2.out h2).mono ?_; rintro e w2 ⟨rfl, hb2⟩; obtain ⟨hchb2, hfhb2⟩ := bcell hb2; have hzhb2 := hb2.size; simp at hzhb2; have hghb2 : b < w2.heap.size := by omega))
      go_ret
      refine ⟨by simp, ?_⟩
      repeat (first | exact Below.refl _ _ | refine Below.setCell ?_ (by first | omega | (simp; done) | (simp; omega) | (have := hb1.size; simp at this ⊢; omega) | (have := hb2.size; simp at this ⊢; omega) | (have := hb1.size; have := hb2.size; simp at *; omega)) _ | refine Below.alloc ?_ (by first | omega | (simp; done) | (simp; omega) | (have := hb1.size; simp at this ⊢; omega) | (have := hb2.size; simp at this ⊢; omega) | (have := hb1.size; have := hb2.size; simp at *; omega)) _ | refine below_drewN' ?_ _ | refine Below.drew ?_ | refine Below.trans ?_ (hb1.mono (by first | omega | (simp; done) | (simp; omega) | (have := hb1.size; simp at this ⊢; omega) | (have := hb2.size; simp at this ⊢; omega) | (have := hb1.size; have := hb2.size; simp at *; omega))) | refine Below.trans ?_ (hb2.mono (by first | omega | (simp; done) | (simp; omega) | (have := hb1.size; simp at this ⊢; omega) | (have := hb2.size; simp at this ⊢; omega) | (have := hb1.size; have := hb2.size; simp at *; omega))))
    · have hq' : (a == p) = false := by simp [hq]
      rw [hp', hq']
      go_enter Try.func30, Try.ntmps30
      go_wp2_with (go_at_call 48; refine (made_yes _ _ _ _ _ _ _ H.out (by omega)).mono ?_; rintro e w' ⟨rfl, rfl⟩)
      refine wp_loop_rounds 3 ?_
      rw [rounds_succ]
      go_wp2
      refine wp_region_quiet_lit (by kernel_rfl) (by kernel_rfl) ?_
      repeat (go_big_quiet_step (fail))
      refine wpQuiet_nil ?_
      intro _ hw'
      obtain ⟨nq, hw''⟩ := hw'
      subst hw''
      go_wp2_with (first | (go_at_call 49; refine (next_to aa l x _ h0 HS.out h2).mono ?_; rintro e w1 ⟨rfl, hb1⟩; obtain ⟨hchb1, hfhb1⟩ := bcell hb1; have hzhb1 := hb1.size; simp at hzhb1; have hghb1 : b < w1.heap.size := by omega))
      rw [rounds_succ]
      go_wp2
      refine wp_region_quiet_lit (by kernel_rfl) (by kernel_rfl) ?_
      repeat (go_big_quiet_step (fail))
      refine wpQuiet_nil ?_
      intro _ hw'
      obtain ⟨nq, hw''⟩ := hw'
      subst hw''
      go_wp2_with (first | (go_at_call 49; refine (next_to x l a _ hx0 HS2.out h2).mono ?_; rintro e w2 ⟨rfl, hb2⟩; obtain ⟨hchb2, hfhb2⟩ := bcell hb2; have hzhb2 := hb2.size; simp at hzhb2; have hghb2 : b < w2.heap.size := by omega))
      rw [rounds_succ]
      go_wp2
      refine wp_region_quiet_lit (by kernel_rfl) (by kernel_rfl) ?_
      repeat (go_big_quiet_step (fail))
      refine wpQuiet_nil ?_
      intro _ hw'
      obtain ⟨nq, hw''⟩ := hw'
      subst hw''
      go_wp2
      go_ret
      refine ⟨rfl, ?_⟩
      repeat (first | exact Below.refl _ _ | refine Below.setCell ?_ (by first | omega | (simp; done) | (simp; omega) | (have := hb1.size; simp at this ⊢; omega) | (have := hb2.size; simp at this ⊢; omega) | (have := hb1.size; have := hb2.size; simp at *; omega)) _ | refine Below.alloc ?_ (by first | omega | (simp; done) | (simp; omega) | (have := hb1.size; simp at this ⊢; omega) | (have := hb2.size; simp at this ⊢; omega) | (have := hb1.size; have := hb2.size; simp at *; omega)) _ | refine below_drewN' ?_ _ | refine Below.drew ?_ | refine Below.trans ?_ (hb1.mono (by first | omega | (simp; done) | (simp; omega) | (have := hb1.size; simp at this ⊢; omega) | (have := hb2.size; simp at this ⊢; omega) | (have := hb1.size; have := hb2.size; simp at *; omega))) | refine Below.trans ?_ (hb2.mono (by first | omega | (simp; done) | (simp; omega) | (have := hb1.size; simp at this ⊢; omega) | (have := hb2.size; simp at this ⊢; omega) | (have := hb1.size; have := hb2.size; simp at *; omega))))

theorem set_any (b : Nat) (a l aa al f p : Int) (w : World) (h : Clk w b a l aa al f) (hl : 8 ≤ l) (h2 : l ≤ 1048576) (hp0 : -9223372036854775808 ≤ p) (hp1 : p ≤ 9223372036854775807) :
    Calls Try.prog 23 #[.pointer (some ⟨b, 0, none⟩), .int .i64 p] w fun e w' => e = .returned (.tuple #[]) ∧ Clk w' b (max 0 (min p (l - 1))) l (max 0 (min p (l - 1))) l f ∧ Wrote b w w' := by
  obtain ⟨c0, c1, c2, c3, c4⟩ := h.cells
  obtain ⟨f0, f1, f2, f3, f4⟩ := h.frees
  have H := Lib.hid h
  clear h
  rcases (show p < 0 ∨ (0 ≤ p ∧ p ≤ l - 1) ∨ l - 1 < p by omega) with g | ⟨g, g'⟩ | g
  · rw [show max 0 (min p (l - 1)) = 0 by omega]
    go_enter Try.func23, Try.ntmps23
    go_wp2_with (go_at_call 48; refine (made_yes _ _ _ _ _ _ _ H.out (by omega)).mono ?_; rintro e w' ⟨rfl, rfl⟩)
    go_end0
    exact ⟨rfl, Obj1.set (Obj1.set (Obj1.set H.out 0 _) 2 _) 3 _, (((Wrote.refl b w).set (.inl rfl) _).set (.inl rfl) _).set (.inl rfl) _⟩
  · rw [show max 0 (min p (l - 1)) = p by omega]
    go_enter Try.func23, Try.ntmps23
    go_wp2_with (go_at_call 48; refine (made_yes _ _ _ _ _ _ _ H.out (by omega)).mono ?_; rintro e w' ⟨rfl, rfl⟩)
    go_end0
    exact ⟨rfl, Obj1.set (Obj1.set (Obj1.set H.out 0 _) 2 _) 3 _, (((Wrote.refl b w).set (.inl rfl) _).set (.inl rfl) _).set (.inl rfl) _⟩
  · rw [show max 0 (min p (l - 1)) = l - 1 by omega]
    go_enter Try.func23, Try.ntmps23
    go_wp2_with (go_at_call 48; refine (made_yes _ _ _ _ _ _ _ H.out (by omega)).mono ?_; rintro e w' ⟨rfl, rfl⟩)
    all_goals
      go_end0
      exact ⟨rfl, Obj1.set (Obj1.set (Obj1.set H.out 0 _) 2 _) 3 _, (((Wrote.refl b w).set (.inl rfl) _).set (.inl rfl) _).set (.inl rfl) _⟩
end Go.Proofs.Ytbhgnhbaimemmaa.Ly5
