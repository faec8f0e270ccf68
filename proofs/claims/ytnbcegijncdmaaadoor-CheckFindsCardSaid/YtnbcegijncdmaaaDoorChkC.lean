/- The contracts of the document's own answers that the statements of layers 18 and 19 ask; no condition but ints' bounds. -/
import Derived.RegionTactic
import Derived.Test.YtnbcegijncdmaaaDoorChkB
namespace Go.Proofs.YtnbcegijncdmaaaDoor.Ly19
open Go.ChangeShapes Go.WideShapes Go.ChangeAt Go.RowKit Base Ly7 Ly1 Ly3 Ly2 Ly14 Ly18
set_option linter.unusedVariables false
set_option linter.unusedSimpArgs false

theorem rdrive_any (y b : Bool) (w : World) : Calls Tryd.prog 45 #[.bool y, .bool b] w fun e w' => e = .returned (.int .i64 (driveF y b)) ∧ w = w' := by
  cases y <;> cases b
  all_goals
    go_enter Tryd.func45, Tryd.ntmps45
    go_wp2
    go_ret
    exact ⟨rfl, rfl⟩
def lookedB (n t : Int) : Bool := decide (0 ≤ n) && (t == 5 || t == 15)
theorem lkR_looked {n t m : Int} {y b : Bool} (h : LkR n t m y b) : lookedB n t = b := by
  unfold lookedB
  rcases h with ⟨h, _, _, rfl⟩ | ⟨h, ⟨h5, h15⟩, _, _, rfl⟩ | ⟨h, rfl, _, _, rfl⟩ | ⟨h, rfl, _, _, rfl⟩
  · rw [decide_eq_false (by omega)]; rfl
  · rw [ne_int h5, ne_int h15]; simp
  · rw [decide_eq_true h]; rfl
  · rw [decide_eq_true h]; rfl
theorem looked_any (n t : Int) (b : Bool) (w : World) (hb : lookedB n t = b) : Calls Tryd.prog 55 #[.int .i64 n, .int .i64 t] w fun e w' => e = .returned (.bool b) ∧ w = w' := by
  unfold lookedB at hb
  obtain ⟨x5, h5⟩ : ∃ x, (t == 5) = x := ⟨_, rfl⟩
  obtain ⟨x15, h15⟩ : ∃ x, (t == 15) = x := ⟨_, rfl⟩
  rw [h5, h15] at hb
  by_cases h : 0 ≤ n
  · rw [decide_eq_true h] at hb
    cases x5 <;> cases x15
    all_goals
      simp at hb
      subst hb
      go_enter Tryd.func55, Tryd.ntmps55
      go_wp2
      go_ret
      exact ⟨rfl, rfl⟩
  · have h' : n < 0 := by omega
    rw [decide_eq_false h] at hb
    simp at hb
    subst hb
    go_enter Tryd.func55, Tryd.ntmps55
    go_wp2
    go_ret
    exact ⟨rfl, rfl⟩
set_option maxRecDepth 100000 in
set_option maxHeartbeats 2000000 in
theorem rat_any (wo mn c p : Int) (w : World) (hw0 : 0 ≤ wo) (hw1 : wo ≤ 1000) (hm0 : 1 ≤ mn) (hm1 : mn ≤ 1000) (c0 : -9223372036854775808 ≤ c) (c1 : c ≤ 1000) (p0 : -9223372036854775808 ≤ p) (p1 : p ≤ 9223372036854775807) :
    Calls Tryd.prog 44 #[.int .i64 wo, .int .i64 mn, .int .i64 c, .int .i64 p] w fun e w' => e = .returned (.tuple #[.int .i64 (atN 0 wo mn c p), .int .i64 (atT 0 wo mn c p)]) ∧ w = w' := by
  by_cases h : 0 ≤ c ∧ c < mn ∧ 40 + 80 * c ≤ p ∧ (p - (40 + 80 * c)) / 160 < wo
  · obtain ⟨e1, e2⟩ := at_yes (k := 0) (wo := wo) (mn := mn) (c := c) (p := p) ⟨rfl, h⟩
    rw [e1, e2]
    obtain ⟨h0, h1, h2, h3⟩ := h
    obtain ⟨t, ht⟩ : ∃ t, p - 40 - 80 * c = t := ⟨_, rfl⟩
    have he : p - (40 + 80 * c) = t := by omega
    rw [he] at h3 ⊢
    have ht0 : 0 ≤ t := by omega
    have ht1 : t < 160 * wo := by omega
    have hp2 : p ≤ 1099511627776 := by omega
    have hp3 : 0 ≤ p := by omega
    have w1 : IntKind.i64.wrap (p - 40) = p - 40 := IntWalk.i64_in _ (by omega)
    have w2 : IntKind.i64.wrap (80 * c) = 80 * c := IntWalk.i64_in _ (by omega)
    have w3 : IntKind.i64.wrap (p - 40 - 80 * c) = t := (IntWalk.i64_in _ (by omega)).trans ht
    have w4 : IntKind.i64.wrap (160 * wo) = 160 * wo := IntWalk.i64_in _ (by omega)
    obtain ⟨q, hq⟩ : ∃ q, t / 20 = q := ⟨_, rfl⟩
    obtain ⟨r, hr⟩ : ∃ r, t % 20 = r := ⟨_, rfl⟩
    have htd : t.tdiv 20 = q := by rw [Int.tdiv_eq_ediv_of_nonneg ht0]; exact hq
    have htm : t.tmod 20 = r := by rw [Int.tmod_eq_emod_of_nonneg ht0]; exact hr
    have w5 : wrap64 q = q := wq64 (by omega) (by omega)
    have w6 : IntKind.i64.wrap q = q := IntWalk.i64_in _ (by omega)
    have w7 : IntKind.i64.wrap r = r := IntWalk.i64_in _ (by omega)
    rw [hq, hr]
    clear hq hr ht he h3
    go_enter Tryd.func44, Tryd.ntmps44
    go_wp2
    go_ret2
    exact ⟨rfl, rfl⟩
  · obtain ⟨e1, e2⟩ := at_no (k := 0) (wo := wo) (mn := mn) (c := c) (p := p) (fun g => h g.2)
    rw [e1, e2]
    clear e1 e2
    rcases (show c < 0 ∨ (0 ≤ c ∧ mn ≤ c) ∨ (0 ≤ c ∧ c < mn ∧ p < 0) ∨ (0 ≤ c ∧ c < mn ∧ 1099511627776 < p) ∨ (0 ≤ c ∧ c < mn ∧ 0 ≤ p ∧ p ≤ 1099511627776 ∧ p - 40 - 80 * c < 0) ∨ (0 ≤ c ∧ c < mn ∧ 0 ≤ p ∧ p ≤ 1099511627776 ∧ 0 ≤ p - 40 - 80 * c ∧ 160 * wo ≤ p - 40 - 80 * c) by omega) with g | ⟨g, g1⟩ | ⟨g, g1, g2⟩ | ⟨g, g1, g2⟩ | ⟨g, g1, g2, g3, g4⟩ | ⟨g, g1, g2, g3, g4, g5⟩
    all_goals
      clear h
      try (have w1 : IntKind.i64.wrap (p - 40) = p - 40 := IntWalk.i64_in _ (by omega))
      try (have w2 : IntKind.i64.wrap (80 * c) = 80 * c := IntWalk.i64_in _ (by omega))
      try (have w3 : IntKind.i64.wrap (p - 40 - 80 * c) = p - 40 - 80 * c := IntWalk.i64_in _ (by omega))
      try (have w4 : IntKind.i64.wrap (160 * wo) = 160 * wo := IntWalk.i64_in _ (by omega))
      go_enter Tryd.func44, Tryd.ntmps44
      go_wp2
      go_ret2
      exact ⟨rfl, rfl⟩
end Go.Proofs.YtnbcegijncdmaaaDoor.Ly19
