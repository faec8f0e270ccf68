/- The contracts of the document's says and Line of layer 15; no condition. -/
import Derived.Test.YtnbcegijncdmaaaDoorShgD
namespace Go.Proofs.YtnbcegijncdmaaaDoor.Ly15
open Go.ChangeShapes Go.WideShapes Go.ChangeAt Go.RowKit Base Ly3
set_option linter.unusedVariables false
set_option linter.unusedSimpArgs false

theorem ret_bool {a b : Bool} (h : a = b) : Ending.returned (Value.bool a) = Ending.returned (Value.bool b) := by rw [h]
theorem rhigh_at (l k : Nat) (w : World) (hl : l < 256) (hk : k < 4) : Calls Tryd.prog 92 #[.int .i64 l, .int .i64 k] w fun e w' => e = .returned (.bool (hb l k)) ∧ w = w' := by
  have l0 : (0 : Int) ≤ (l : Int) := by omega
  have l1 : (l : Int) ≤ 255 := by omega
  rcases (show k = 0 ∨ k = 1 ∨ k = 2 ∨ k = 3 by omega) with rfl | rfl | rfl | rfl
  all_goals
    go_enter Tryd.func92, Tryd.ntmps92
    go_wp2
    go_ret
    exact ⟨ret_bool (by unfold hb; rw [Bool.eq_iff_iff]; simp; omega), rfl⟩
theorem rsays_any (l k : Nat) (w : World) (hl : l < 256) (hk : k < 4) : Calls Tryd.prog 78 #[.int .i64 l, .int .i64 k] w fun e w' => e = .returned (.bool (said l k)) ∧ w = w' := by
  have HR := Lib.hid (rhigh_at l k w hl hk)
  unfold said
  obtain ⟨x, HX⟩ : ∃ x, Hid (hb l k = x) := ⟨_, Lib.hid rfl⟩
  rw [HX.out] at HR ⊢
  rcases (show k = 0 ∨ k = 1 ∨ k = 2 ∨ k = 3 by omega) with rfl | rfl | rfl | rfl
  all_goals
    go_enter Tryd.func78, Tryd.ntmps78
    go_wp2_with fail
    refine HR.out.mono ?_
    rintro e w' ⟨rfl, rfl⟩
    go_wp2
    go_ret
    exact ⟨ret_bool (by cases x <;> rfl), rfl⟩
theorem last_some {w : World} {A : Option Addr} {n c m l : Nat} {ls : List Lk} {y : Bool} (h : LooksAt w A n ls) (hn : n ≤ 1000) (hl : lastF ls m y = some l) : Calls Tryd.prog 77 #[.slice A n c, .int .i64 m, .bool y] w fun e w' => e = .returned (.tuple #[.int .i64 (l : Int), .bool true]) ∧ w = w' := by
  have := last_any (c := c) (m := m) h hn y
  rw [hl] at this
  exact this
theorem last_none {w : World} {A : Option Addr} {n c m : Nat} {ls : List Lk} {y : Bool} (h : LooksAt w A n ls) (hn : n ≤ 1000) (hl : lastF ls m y = none) : Calls Tryd.prog 77 #[.slice A n c, .int .i64 m, .bool y] w fun e w' => e = .returned (.tuple #[.int .i64 0, .bool false]) ∧ w = w' := by
  have := last_any (c := c) (m := m) h hn y
  rw [hl] at this
  exact this
theorem lastF_lt0 (m : Nat) (y : Bool) : ∀ (ls : List Lk) (o : Option Nat), (∀ p ∈ ls, p.2.2 < 256) → (∀ l, o = some l → l < 256) → ∀ l, ls.foldl (fun o p => if p.1 = (m : Int) ∧ p.2.1 = y then some p.2.2 else o) o = some l → l < 256
  | [], o, _, ho, l, h => ho l h
  | p :: ls, o, hb, ho, l, h => lastF_lt0 m y ls _ (fun q hq => hb q (by simp [hq])) (fun l' hl' => by
      simp only at hl'
      split at hl'
      · cases hl'
        exact hb p (by simp)
      · exact ho l' hl') l h
theorem lastF_lt {ls : List Lk} {m l : Nat} {y : Bool} (hb : ∀ p ∈ ls, p.2.2 < 256) (h : lastF ls m y = some l) : l < 256 := lastF_lt0 m y ls none hb (fun _ h => by cases h) l h
set_option maxHeartbeats 1000000 in
theorem rline_any {w : World} {A : Option Addr} {n c k m : Nat} {ls : List Lk} (h : LooksAt w A n ls) (hn : n ≤ 1000) (hb : ∀ p ∈ ls, p.2.2 < 256) (hk : k < 4) : Calls Tryd.prog 30 #[.slice A n c, .int .i64 k, .int .i64 m] w fun e w' => e = .returned (.tuple #[.bool (lineR ls k m).1, .bool (lineR ls k m).2]) ∧ w = w' := by
  have hki : (k : Int) ≤ 3 := by omega
  unfold lineR
  rcases e0 : lastF ls m false with _ | a
  · have H0 := Lib.hid (last_none (c := c) h hn e0)
    rcases e1 : lastF ls m true with _ | b
    all_goals
      first
        | (have H1 := Lib.hid (last_none (c := c) h hn e1))
        | (have H1 := Lib.hid (last_some (c := c) h hn e1))
      clear e0 e1 h hb
      go_enter Tryd.func30, Tryd.ntmps30
      go_wp2_with fail
      refine H0.out.mono ?_
      rintro e w' ⟨rfl, rfl⟩
      go_wp2_with fail
      refine H1.out.mono ?_
      rintro e w' ⟨rfl, rfl⟩
      go_wp2
      go_ret2
      exact ⟨rfl, rfl⟩
  · have H0 := Lib.hid (last_some (c := c) h hn e0)
    have ha := lastF_lt hb e0
    rcases e1 : lastF ls m true with _ | b
    · have H1 := Lib.hid (last_none (c := c) h hn e1)
      clear e0 e1 h hb
      go_enter Tryd.func30, Tryd.ntmps30
      go_wp2_with fail
      refine H0.out.mono ?_
      rintro e w' ⟨rfl, rfl⟩
      go_wp2_with fail
      refine H1.out.mono ?_
      rintro e w' ⟨rfl, rfl⟩
      go_wp2
      go_ret2
      exact ⟨rfl, rfl⟩
    · have H1 := Lib.hid (last_some (c := c) h hn e1)
      have HSA := Lib.hid (fun W => rsays_any a k W ha hk)
      have HSB := Lib.hid (fun W => rsays_any b k W (lastF_lt hb e1) hk)
      clear e0 e1 h hb ha
      dsimp only
      generalize said a k = x at HSA ⊢
      generalize said b k = z at HSB ⊢
      cases x <;> cases z
      all_goals
        go_enter Tryd.func30, Tryd.ntmps30
        go_wp2_with fail
        refine H0.out.mono ?_
        rintro e w' ⟨rfl, rfl⟩
        go_wp2_with fail
        refine H1.out.mono ?_
        rintro e w' ⟨rfl, rfl⟩
        go_wp2_with fail
        refine (HSA.out _).mono ?_
        rintro e w' ⟨rfl, rfl⟩
        go_wp2_with fail
        refine (HSB.out _).mono ?_
        rintro e w' ⟨rfl, rfl⟩
        go_wp2_with (refine (HSA.out _).mono ?_; rintro e w' ⟨rfl, rfl⟩)
        go_ret2
        exact ⟨rfl, rfl⟩
end Go.Proofs.YtnbcegijncdmaaaDoor.Ly15
