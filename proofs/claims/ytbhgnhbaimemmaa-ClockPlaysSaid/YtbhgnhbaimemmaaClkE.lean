/- The contracts of package clock's Enter, and of the document's own clock: Tick, Passed. -/
import Derived.Test.YtbhgnhbaimemmaaClkC
import Derived.Test.YtbhgnhbaimemmaaBox
namespace Go.Proofs.Ytbhgnhbaimemmaa.Ly5
open Go.ChangeShapes Go.WideShapes Go.ChangeAt Go.RowKit Base
set_option linter.unusedVariables false
set_option linter.unusedSimpArgs false

theorem enter_no (b : Nat) (a l aa al f p q : Int) (w : World) (h : Clk w b a l aa al f) (hl : 0 < l) (hno : q < 8 ∨ 1048576 < q ∨ p < 0 ∨ q ≤ p) :
    Calls Try.prog 24 #[.pointer (some ⟨b, 0, none⟩), .int .i64 p, .int .i64 q] w fun e w' => e = .returned (.int .i64 2) ∧ w = w' := by
  obtain ⟨c0, c1, c2, c3, c4⟩ := h.cells
  have H := Lib.hid h
  clear h
  rcases (show (q < 8 ∨ 1048576 < q) ∨ (8 ≤ q ∧ q ≤ 1048576 ∧ p < 0) ∨ (8 ≤ q ∧ q ≤ 1048576 ∧ 0 ≤ p ∧ q ≤ p) by omega) with g | ⟨g0, g1, g2⟩ | ⟨g0, g1, g2, g3⟩
  · go_enter Try.func24, Try.ntmps24
    go_wp2_with fail
    refine (made_yes _ _ _ _ _ _ _ H.out hl).mono ?_; rintro e w' ⟨rfl, rfl⟩
    go_wp2_with fail
    refine (fits_no _ _ g).mono ?_; rintro e w' ⟨rfl, rfl⟩
    go_wp2
    go_ret
    exact ⟨rfl, rfl⟩
  · go_enter Try.func24, Try.ntmps24
    go_wp2_with fail
    refine (made_yes _ _ _ _ _ _ _ H.out hl).mono ?_; rintro e w' ⟨rfl, rfl⟩
    go_wp2_with fail
    refine (fits_yes _ _ g0 g1).mono ?_; rintro e w' ⟨rfl, rfl⟩
    go_wp2
    go_ret
    exact ⟨rfl, rfl⟩
  · go_enter Try.func24, Try.ntmps24
    go_wp2_with fail
    refine (made_yes _ _ _ _ _ _ _ H.out hl).mono ?_; rintro e w' ⟨rfl, rfl⟩
    go_wp2_with fail
    refine (fits_yes _ _ g0 g1).mono ?_; rintro e w' ⟨rfl, rfl⟩
    go_wp2
    go_ret
    exact ⟨rfl, rfl⟩
set_option maxHeartbeats 1000000 in
theorem enter_yes (b : Nat) (a l aa al f p q : Int) (w : World) (h : Clk w b a l aa al f) (hl : 0 < l) (q0 : 8 ≤ q) (q1 : q ≤ 1048576) (p0 : 0 ≤ p) (p1 : p < q) :
    Calls Try.prog 24 #[.pointer (some ⟨b, 0, none⟩), .int .i64 p, .int .i64 q] w fun e w' => e = .returned (.int .i64 0) ∧ Clk w' b p q p q f ∧ Wrote b w w' := by
  obtain ⟨c0, c1, c2, c3, c4⟩ := h.cells
  obtain ⟨f0, f1, f2, f3, f4⟩ := h.frees
  have H := Lib.hid h
  clear h
  go_enter Try.func24, Try.ntmps24
  go_wp2_with fail
  refine (made_yes _ _ _ _ _ _ _ H.out hl).mono ?_; rintro e w' ⟨rfl, rfl⟩
  go_wp2_with fail
  refine (fits_yes _ _ q0 q1).mono ?_; rintro e w' ⟨rfl, rfl⟩
  go_wp2
  go_ret
  refine ⟨rfl, ?_, ?_⟩
  · have := (((H.out.set 0 (.int .i64 p)).set 1 (.int .i64 q)).set 2 (.int .i64 p)).set 3 (.int .i64 q)
    exact this
  · exact ((((Wrote.refl b w).set (.inl rfl) _).set (.inl rfl) _).set (.inl rfl) _).set (.inl rfl) _

/-- What the document's clock says is passed, d steps on. -/
def rpB (a d l p : Int) : Bool := decide (0 ≤ p ∧ p < l) && (decide (a - d < p ∧ p ≤ a) || decide (a - d < p - l ∧ p - l ≤ a))
set_option maxHeartbeats 1000000 in
theorem rpassed (a d l f p : Int) (w : World) (a0 : 0 ≤ a) (a1 : a < l) (l2 : l ≤ 1048576) (d0 : 0 ≤ d) (d2 : d ≤ 2) :
    Calls Try.prog 31 #[.agg #[.int .i64 a, .int .i64 (a - d), .int .i64 l, .int .i64 f], .int .i64 p] w fun e w' => e = .returned (.bool (rpB a d l p)) ∧ Below w.heap.size w w' := by
  obtain ⟨la, hla⟩ : ∃ la, Hid (a - d = la) := ⟨_, Lib.hid rfl⟩
  have b0 : a - 2 ≤ la := by have := hla.out; omega
  have b1 : la ≤ a := by have := hla.out; omega
  unfold rpB
  rw [hla.out]
  rcases (show (p < 0) ∨ (0 ≤ p ∧ l ≤ p) ∨ (0 ≤ p ∧ p < l) by omega) with g | ⟨g, g1⟩ | ⟨g, g1⟩
  · go_enter Try.func31, Try.ntmps31
    go_wp2
    go_ret
    refine ⟨by simp; omega, ?_⟩
    repeat (first | exact Below.refl _ _ | refine Below.setCell ?_ (by first | omega | (simp; done) | (simp; omega)) _ | refine Below.alloc ?_ (by first | omega | (simp; done) | (simp; omega)) _ | refine below_drewN' ?_ _ | refine Below.drew ?_)
  · go_enter Try.func31, Try.ntmps31
    go_wp2
    go_ret
    refine ⟨by simp; omega, ?_⟩
    repeat (first | exact Below.refl _ _ | refine Below.setCell ?_ (by first | omega | (simp; done) | (simp; omega)) _ | refine Below.alloc ?_ (by first | omega | (simp; done) | (simp; omega)) _ | refine below_drewN' ?_ _ | refine Below.drew ?_)
  · rcases (show (la < p ∧ p ≤ a) ∨ (p ≤ la ∧ ¬ (la < p - l)) ∨ (a < p ∧ la < p ∧ la < p - l ∧ p - l ≤ a) ∨ (a < p ∧ la < p ∧ p - l ≤ la) by omega) with c | c | c | c
    all_goals
      go_enter Try.func31, Try.ntmps31
      go_wp2
      go_ret
      refine ⟨by first | rfl | (simp; done) | (simp; omega), ?_⟩
      repeat (first | exact Below.refl _ _ | refine Below.setCell ?_ (by first | omega | (simp; done) | (simp; omega)) _ | refine Below.alloc ?_ (by first | omega | (simp; done) | (simp; omega)) _ | refine below_drewN' ?_ _ | refine Below.drew ?_)
set_option maxHeartbeats 1000000 in
theorem rtick (a la l f s : Int) (w : World) (a0 : 0 ≤ a) (a1 : a < l) (l8 : 8 ≤ l) (l2 : l ≤ 1048576) (f0 : 0 ≤ f) (f1 : f ≤ 1000000) (s0 : -9223372036854775808 ≤ s) (s1 : s ≤ 9223372036854775807) :
    Calls Try.prog 26 #[.agg #[.int .i64 a, .int .i64 la, .int .i64 l, .int .i64 f], .int .i64 s] w fun e w' => e = .returned (.agg #[.int .i64 (nx a l (cl s)), .int .i64 (nx a l (cl s) - cl s), .int .i64 l, .int .i64 (nf a l (cl s) f)]) ∧ Below w.heap.size w w' := by
  obtain ⟨D, HD, d0, d2⟩ : ∃ D : Int, Hid (cl s = D) ∧ 0 ≤ D ∧ D ≤ 2 := ⟨cl s, Lib.hid rfl, by unfold cl; split; omega; split <;> omega, by unfold cl; split; omega; split <;> omega⟩
  rw [HD.out]
  have HDD := HD.out
  unfold cl at HDD
  rcases (show s < -1 ∨ s = -1 ∨ s = 0 ∨ s = 1 ∨ 1 < s by omega) with g | rfl | rfl | rfl | g
  · rw [if_pos (by omega)] at HDD
    subst HDD
    clear HD d0 d2
    unfold nx nf
    by_cases hw : a + 0 < l
    · rw [if_pos hw, if_pos hw]
      go_enter Try.func26, Try.ntmps26
      go_wp2
      refine bodyPost_ret (v := .agg #[.int .i64 (a + 0), .int .i64 (a + 0 - 0), .int .i64 l, .int .i64 f]) (by simp [results, Try.results26, go_sem]; try omega) rfl ⟨rfl, ?_⟩
      repeat (first | exact Below.refl _ _ | refine Below.setCell ?_ (by first | omega | (simp; done) | (simp; omega)) _ | refine Below.alloc ?_ (by first | omega | (simp; done) | (simp; omega)) _ | refine below_drewN' ?_ _ | refine Below.drew ?_)
    · exfalso; omega
  · rw [if_pos (by omega)] at HDD
    subst HDD
    clear HD d0 d2
    unfold nx nf
    by_cases hw : a + 0 < l
    · rw [if_pos hw, if_pos hw]
      go_enter Try.func26, Try.ntmps26
      go_wp2
      refine bodyPost_ret (v := .agg #[.int .i64 (a + 0), .int .i64 (a + 0 - 0), .int .i64 l, .int .i64 f]) (by simp [results, Try.results26, go_sem]; try omega) rfl ⟨rfl, ?_⟩
      repeat (first | exact Below.refl _ _ | refine Below.setCell ?_ (by first | omega | (simp; done) | (simp; omega)) _ | refine Below.alloc ?_ (by first | omega | (simp; done) | (simp; omega)) _ | refine below_drewN' ?_ _ | refine Below.drew ?_)
    · exfalso; omega
  · rw [if_neg (by omega), if_neg (by omega)] at HDD
    subst HDD
    clear HD d0 d2
    unfold nx nf
    by_cases hw : a + 1 < l
    · rw [if_pos hw, if_pos hw]
      go_enter Try.func26, Try.ntmps26
      go_wp2
      refine bodyPost_ret (v := .agg #[.int .i64 (a + 1), .int .i64 (a + 1 - 1), .int .i64 l, .int .i64 f]) (by simp [results, Try.results26, go_sem]; try omega) rfl ⟨rfl, ?_⟩
      repeat (first | exact Below.refl _ _ | refine Below.setCell ?_ (by first | omega | (simp; done) | (simp; omega)) _ | refine Below.alloc ?_ (by first | omega | (simp; done) | (simp; omega)) _ | refine below_drewN' ?_ _ | refine Below.drew ?_)
    · rw [if_neg hw, if_neg hw]
      have hw' : l ≤ a + 1 := by omega
      go_enter Try.func26, Try.ntmps26
      go_wp2
      refine bodyPost_ret (v := .agg #[.int .i64 (a + 1 - l), .int .i64 (a + 1 - l - 1), .int .i64 l, .int .i64 (f + 1)]) (by simp [results, Try.results26, go_sem]; try omega) rfl ⟨rfl, ?_⟩
      repeat (first | exact Below.refl _ _ | refine Below.setCell ?_ (by first | omega | (simp; done) | (simp; omega)) _ | refine Below.alloc ?_ (by first | omega | (simp; done) | (simp; omega)) _ | refine below_drewN' ?_ _ | refine Below.drew ?_)
  · rw [if_neg (by omega), if_pos (by omega)] at HDD
    subst HDD
    clear HD d0 d2
    unfold nx nf
    by_cases hw : a + 2 < l
    · rw [if_pos hw, if_pos hw]
      go_enter Try.func26, Try.ntmps26
      go_wp2
      refine bodyPost_ret (v := .agg #[.int .i64 (a + 2), .int .i64 (a + 2 - 2), .int .i64 l, .int .i64 f]) (by simp [results, Try.results26, go_sem]; try omega) rfl ⟨rfl, ?_⟩
      repeat (first | exact Below.refl _ _ | refine Below.setCell ?_ (by first | omega | (simp; done) | (simp; omega)) _ | refine Below.alloc ?_ (by first | omega | (simp; done) | (simp; omega)) _ | refine below_drewN' ?_ _ | refine Below.drew ?_)
    · rw [if_neg hw, if_neg hw]
      have hw' : l ≤ a + 2 := by omega
      go_enter Try.func26, Try.ntmps26
      go_wp2
      refine bodyPost_ret (v := .agg #[.int .i64 (a + 2 - l), .int .i64 (a + 2 - l - 2), .int .i64 l, .int .i64 (f + 1)]) (by simp [results, Try.results26, go_sem]; try omega) rfl ⟨rfl, ?_⟩
      repeat (first | exact Below.refl _ _ | refine Below.setCell ?_ (by first | omega | (simp; done) | (simp; omega)) _ | refine Below.alloc ?_ (by first | omega | (simp; done) | (simp; omega)) _ | refine below_drewN' ?_ _ | refine Below.drew ?_)
  · rw [if_neg (by omega), if_pos (by omega)] at HDD
    subst HDD
    clear HD d0 d2
    unfold nx nf
    by_cases hw : a + 2 < l
    · rw [if_pos hw, if_pos hw]
      go_enter Try.func26, Try.ntmps26
      go_wp2
      refine bodyPost_ret (v := .agg #[.int .i64 (a + 2), .int .i64 (a + 2 - 2), .int .i64 l, .int .i64 f]) (by simp [results, Try.results26, go_sem]; try omega) rfl ⟨rfl, ?_⟩
      repeat (first | exact Below.refl _ _ | refine Below.setCell ?_ (by first | omega | (simp; done) | (simp; omega)) _ | refine Below.alloc ?_ (by first | omega | (simp; done) | (simp; omega)) _ | refine below_drewN' ?_ _ | refine Below.drew ?_)
    · rw [if_neg hw, if_neg hw]
      have hw' : l ≤ a + 2 := by omega
      go_enter Try.func26, Try.ntmps26
      go_wp2
      refine bodyPost_ret (v := .agg #[.int .i64 (a + 2 - l), .int .i64 (a + 2 - l - 2), .int .i64 l, .int .i64 (f + 1)]) (by simp [results, Try.results26, go_sem]; try omega) rfl ⟨rfl, ?_⟩
      repeat (first | exact Below.refl _ _ | refine Below.setCell ?_ (by first | omega | (simp; done) | (simp; omega)) _ | refine Below.alloc ?_ (by first | omega | (simp; done) | (simp; omega)) _ | refine below_drewN' ?_ _ | refine Below.drew ?_)
end Go.Proofs.Ytbhgnhbaimemmaa.Ly5
