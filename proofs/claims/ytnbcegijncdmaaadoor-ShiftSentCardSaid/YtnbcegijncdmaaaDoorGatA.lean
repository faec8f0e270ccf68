/- The contracts of package gate's functions; no condition but ints' bounds, no more than 1000 words, and the table of the lines. -/
import Derived.Test.YtnbcegijncdmaaaDoorSerC
namespace Go.Proofs.YtnbcegijncdmaaaDoor.Ly18
open Go.ChangeShapes Go.WideShapes Go.ChangeAt Go.RowKit Base Ly7 Ly1 Ly3 Ly2 Ly14
set_option linter.unusedVariables false
set_option linter.unusedSimpArgs false

theorem o8 (k s l wo ad mn cn : Int) (tk : Bool) {W : World} {g : Nat} {T : TypeId} (h : Obj1 W g T #[.int .i64 k, .int .i64 s, .int .i64 l, .int .i64 wo, .int .i64 ad, .int .i64 mn, .int .i64 cn, .bool tk]) : (∀ x : Kin W, x.world.cell? ⟨g, 0, none⟩ = some (.int .i64 k)) ∧ (∀ x : Kin W, x.world.cell? ⟨g, 1, none⟩ = some (.int .i64 s)) ∧ (∀ x : Kin W, x.world.cell? ⟨g, 2, none⟩ = some (.int .i64 l)) ∧ (∀ x : Kin W, x.world.cell? ⟨g, 3, none⟩ = some (.int .i64 wo)) ∧ (∀ x : Kin W, x.world.cell? ⟨g, 4, none⟩ = some (.int .i64 ad)) ∧ (∀ x : Kin W, x.world.cell? ⟨g, 5, none⟩ = some (.int .i64 mn)) ∧ (∀ x : Kin W, x.world.cell? ⟨g, 6, none⟩ = some (.int .i64 cn)) ∧ (∀ x : Kin W, x.world.cell? ⟨g, 7, none⟩ = some (.bool tk)) :=
  ⟨fun x => (h.kept x.below).cell 0, fun x => (h.kept x.below).cell 1, fun x => (h.kept x.below).cell 2, fun x => (h.kept x.below).cell 3, fun x => (h.kept x.below).cell 4, fun x => (h.kept x.below).cell 5, fun x => (h.kept x.below).cell 6, fun x => (h.kept x.below).cell 7⟩
theorem o4 (sd pu : Bool) (A : Option Addr) (N cc : Nat) (c : Int) {W : World} {g : Nat} {T : TypeId} (h : Obj1 W g T #[.bool sd, .int .i64 c, .slice A N cc, .bool pu]) : (∀ x : Kin W, x.world.cell? ⟨g, 0, none⟩ = some (.bool sd)) ∧ (∀ x : Kin W, x.world.cell? ⟨g, 1, none⟩ = some (.int .i64 c)) ∧ (∀ x : Kin W, x.world.cell? ⟨g, 2, none⟩ = some (.slice A N cc)) ∧ (∀ x : Kin W, x.world.cell? ⟨g, 3, none⟩ = some (.bool pu)) :=
  ⟨fun x => (h.kept x.below).cell 0, fun x => (h.kept x.below).cell 1, fun x => (h.kept x.below).cell 2, fun x => (h.kept x.below).cell 3⟩
theorem o1 {W : World} {g : Nat} {T : TypeId} {v : Value} (h : Obj1 W g T #[v]) : ∀ x : Kin W, x.world.cell? ⟨g, 0, none⟩ = some v := fun x => (h.kept x.below).cell 0
/-- From where to ahead of where words are sent. -/
def Snd (k wo mn c a b : Int) : Prop := ((k ≠ 0 ∨ c < 0 ∨ (1 ≤ c ∧ mn ≤ c) ∨ wo < 1) ∧ a = 0 ∧ b = 0) ∨ (k = 0 ∧ 0 ≤ c ∧ (c < 1 ∨ c < mn) ∧ 1 ≤ wo ∧ a = 40 + 80 * c ∧ b = 40 + 80 * c + 160 * wo)
theorem snd_ex (k wo mn c : Int) : ∃ a b, Snd k wo mn c a b := by
  by_cases h : k ≠ 0 ∨ c < 0 ∨ (1 ≤ c ∧ mn ≤ c) ∨ wo < 1
  · exact ⟨_, _, .inl ⟨h, rfl, rfl⟩⟩
  · exact ⟨_, _, .inr ⟨by omega, by omega, by omega, by omega, rfl, rfl⟩⟩
theorem bgn_ex (k mn c : Int) : ∃ b, Bgn k mn c b ∧ ((b = 0 ∧ (k ≠ 0 ∨ c < 0 ∨ (1 ≤ c ∧ mn ≤ c))) ∨ (b = 40 + 80 * c ∧ k = 0 ∧ 0 ≤ c ∧ (c < 1 ∨ c < mn))) := by
  by_cases hk : k = 0
  · by_cases h : c < 0
    · exact ⟨0, .inr (.inl ⟨hk, h, rfl⟩), .inl ⟨rfl, .inr (.inl h)⟩⟩
    · by_cases h' : c < 1 ∨ c < mn
      · exact ⟨_, .inr (.inr (.inr ⟨hk, by omega, h', rfl⟩)), .inr ⟨rfl, hk, by omega, h'⟩⟩
      · exact ⟨0, .inr (.inr (.inl ⟨hk, by omega, by omega, by omega, rfl⟩)), .inl ⟨rfl, .inr (.inr (by omega))⟩⟩
  · exact ⟨0, .inl ⟨⟨by simpa using hk, by simpa using hk⟩, rfl⟩, .inl ⟨rfl, .inl hk⟩⟩
set_option maxRecDepth 100000 in
set_option maxHeartbeats 2000000 in
theorem sending_any (k s l wo ad mn cn : Int) (tk : Bool) (c a b : Int) (w : World) (c0 : -9223372036854775808 ≤ c) (c1 : c < 1099511627776) (m0 : -9223372036854775808 ≤ mn) (m1 : mn ≤ 9223372036854775807) (hwo : wo ≤ 1000) (h : Snd k wo mn c a b) :
    Calls Tryd.prog 85 #[.agg #[.int .i64 k, .int .i64 s, .int .i64 l, .int .i64 wo, .int .i64 ad, .int .i64 mn, .int .i64 cn, .bool tk], .int .i64 c] w fun e w' => e = .returned (.tuple #[.int .i64 a, .int .i64 b]) ∧ Below w.heap.size w w' := by
  obtain ⟨g, hg, hg2⟩ := bgn_ex k mn c
  have HBG := Lib.hid (fun W => begin_any k s l wo ad mn cn c g tk W c0 c1 m0 m1 hg)
  obtain ⟨K0, K1, K2, K3, K4, K5, K6, K7⟩ := box8 k s l wo ad mn cn tk w 25
  clear hg
  have h' : ((g = 0 ∨ (g ≠ 0 ∧ wo < 1)) ∧ a = 0 ∧ b = 0) ∨ (40 ≤ g ∧ g ≤ 100000000000000 ∧ 1 ≤ wo ∧ a = g ∧ b = g + 160 * wo) := by
    rcases h with ⟨h, rfl, rfl⟩ | ⟨h1, h2, h3, h4, rfl, rfl⟩
    · refine .inl ⟨?_, rfl, rfl⟩
      rcases hg2 with ⟨h5, h6⟩ | ⟨h5, h6, h7, h8⟩ <;> omega
    · refine .inr ?_
      rcases hg2 with ⟨h5, h6⟩ | ⟨h5, h6, h7, h8⟩ <;> omega
  clear h hg2
  rcases h' with ⟨h | ⟨h, h'⟩, rfl, rfl⟩ | ⟨h0, h1, h2, rfl, rfl⟩
  · subst h
    go_enter Tryd.func85, Tryd.ntmps85
    go_wp2_with fail
    refine (HBG.out _).mono ?_
    rintro e w1 ⟨rfl, hb1⟩
    obtain ⟨x, rfl⟩ := Kin.ex hb1
    clear hb1
    go_wp2_with fail
    refine (long_one _).mono ?_
    rintro e w' ⟨rfl, rfl⟩
    go_wp2
    go_ret2
    exact ⟨rfl, x.end1⟩
  · have hg : (g == 0) = false := ne_int h
    clear h
    go_enter Tryd.func85, Tryd.ntmps85
    go_wp2_with fail
    refine (HBG.out _).mono ?_
    rintro e w1 ⟨rfl, hb1⟩
    obtain ⟨x, rfl⟩ := Kin.ex hb1
    clear hb1
    go_wp2_with fail
    refine (long_one _).mono ?_
    rintro e w' ⟨rfl, rfl⟩
    go_wp2
    go_ret2
    exact ⟨rfl, x.end1⟩
  · have hg : (a == 0) = false := ne_int (by omega)
    obtain ⟨q, hq⟩ : ∃ q, (9223372036854775807 - a) / 160 = q := ⟨_, rfl⟩
    have hw0 : IntKind.i64.wrap (9223372036854775807 - a) = 9223372036854775807 - a := IntWalk.i64_in _ (by omega)
    have htd : (9223372036854775807 - a).tdiv 160 = q := by rw [Int.tdiv_eq_ediv_of_nonneg (by omega)]; exact hq
    have hq0 : wo ≤ q := by omega
    have hq1 : q ≤ 9223372036854775807 := by omega
    have hw1 : wrap64 q = q := wq64 (by omega) hq1
    have hw2 : IntKind.i64.wrap q = q := IntWalk.i64_in _ (by omega)
    have hw3 : IntKind.i64.wrap (160 * wo) = 160 * wo := IntWalk.i64_in _ (by omega)
    have hw4 : IntKind.i64.wrap (a + 160 * wo) = a + 160 * wo := IntWalk.i64_in _ (by omega)
    clear hq
    go_enter Tryd.func85, Tryd.ntmps85
    go_wp2_with fail
    refine (HBG.out _).mono ?_
    rintro e w1 ⟨rfl, hb1⟩
    obtain ⟨x, rfl⟩ := Kin.ex hb1
    clear hb1
    go_wp2_with fail
    refine (long_one _).mono ?_
    rintro e w' ⟨rfl, rfl⟩
    go_wp2_with fail
    refine wp_region_kin2 (by kernel_rfl) (by kernel_rfl) ?_
    repeat (go_big_quiet_step (fail))
    refine wpQuiet_nil ?_
    intro _ hw'
    obtain ⟨kx, hw''⟩ := hw'
    subst hw''
    go_wp2
    go_ret2
    exact ⟨rfl, Kin.end1 ‹_›⟩
/-- Near. -/
def nrB (a b p : Int) : Bool := decide (a < b) && decide (a ≤ p + 4) && decide (p - 4 < b)
theorem near_any (a b p : Int) (g : Nat) (w : World) (hp0 : -4611686018427387904 ≤ p) (hp1 : p ≤ 4611686018427387904) (h : w.cell? ⟨g, 0, none⟩ = some (.int .i64 p)) : Calls Tryd.prog 84 #[.int .i64 a, .int .i64 b, .pointer (some ⟨g, 0, none⟩)] w fun e w' => e = .returned (.bool (nrB a b p)) ∧ w = w' := by
  unfold nrB
  by_cases h1 : a < b
  · by_cases h2 : a ≤ p + 4
    · have h1' : decide (a < b) = true := decide_eq_true h1
      have h2' : decide (a ≤ p + 4) = true := decide_eq_true h2
      rw [h1', h2']
      go_enter Tryd.func84, Tryd.ntmps84
      go_wp2
      go_ret
      exact ⟨by simp, rfl⟩
    · have h1' : decide (a < b) = true := decide_eq_true h1
      have h2' : decide (a ≤ p + 4) = false := decide_eq_false h2
      rw [h1', h2']
      go_enter Tryd.func84, Tryd.ntmps84
      go_wp2
      go_ret
      exact ⟨by simp, rfl⟩
  · have h1' : decide (a < b) = false := decide_eq_false h1
    rw [h1']
    go_enter Tryd.func84, Tryd.ntmps84
    go_wp2
    go_ret
    exact ⟨by simp, rfl⟩
end Go.Proofs.YtnbcegijncdmaaaDoor.Ly18
