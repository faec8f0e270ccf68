/- The contracts of package cell's Cell and package serial's At: which bit, and which tick, at a place; no condition but ints' bounds. -/
import Derived.Test.YtnbcegijncdmaaaDoorPlnB
import Derived.Test.YtnbcegijncdmaaaDoorCellA
import Derived.IntWalk
import Derived.Lib.Hide
namespace Go.Proofs.YtnbcegijncdmaaaDoor.Ly14
open Go.ChangeShapes Go.WideShapes Go.ChangeAt Go.RowKit Base Ly7 Ly1
set_option linter.unusedVariables false
set_option linter.unusedSimpArgs false

theorem ret_ii {a b c d : Int} (h : a = c) (h' : b = d) : Ending.returned (Value.tuple #[.int .i64 a, .int .i64 b]) = Ending.returned (Value.tuple #[.int .i64 c, .int .i64 d]) := by rw [h, h']
theorem wq64 {q : Int} (h0 : 0 ≤ q) (h1 : q ≤ 9223372036854775807) : wrap64 q = q := by unfold wrap64; omega
theorem cell_at (x q r : Int) (w : World) (x0 : 0 ≤ x) (x1 : x ≤ 9223372036854775807) (hq : x / 20 = q) (hr : x % 20 = r) :
    Calls Tryd.prog 68 #[.int .i64 x] w fun e w' => e = .returned (.tuple #[.int .i64 q, .int .i64 r]) ∧ w = w' := by
  have htd : x.tdiv 20 = q := by rw [Int.tdiv_eq_ediv_of_nonneg x0]; exact hq
  have htm : x.tmod 20 = r := by rw [Int.tmod_eq_emod_of_nonneg x0]; exact hr
  have hw : wrap64 q = q := wq64 (by omega) (by omega)
  have hw' : IntKind.i64.wrap q = q := IntWalk.i64_in _ (by omega)
  have hr' : IntKind.i64.wrap r = r := IntWalk.i64_in _ (by omega)
  go_enter Tryd.func68, Tryd.ntmps68
  go_wp2
  go_ret2
  exact ⟨rfl, rfl⟩
theorem long_one (w : World) : Calls Tryd.prog 69 #[.int .i64 1] w fun e w' => e = .returned (.int .i64 8) ∧ w = w' := by
  go_enter Tryd.func69, Tryd.ntmps69
  go_wp2
  go_ret
  exact ⟨rfl, rfl⟩
/-- What a slot's box holds, in every world behind it. -/
theorem box8 (k s l wo ad mn cn : Int) (tk : Bool) (w : World) (t : TypeId) : (∀ x : Kin (w.alloc (.cells #[.int .i64 k, .int .i64 s, .int .i64 l, .int .i64 wo, .int .i64 ad, .int .i64 mn, .int .i64 cn, .bool tk] t)), x.world.cell? ⟨w.heap.size, 0, none⟩ = some (.int .i64 k)) ∧ (∀ x : Kin (w.alloc (.cells #[.int .i64 k, .int .i64 s, .int .i64 l, .int .i64 wo, .int .i64 ad, .int .i64 mn, .int .i64 cn, .bool tk] t)), x.world.cell? ⟨w.heap.size, 1, none⟩ = some (.int .i64 s)) ∧ (∀ x : Kin (w.alloc (.cells #[.int .i64 k, .int .i64 s, .int .i64 l, .int .i64 wo, .int .i64 ad, .int .i64 mn, .int .i64 cn, .bool tk] t)), x.world.cell? ⟨w.heap.size, 2, none⟩ = some (.int .i64 l)) ∧ (∀ x : Kin (w.alloc (.cells #[.int .i64 k, .int .i64 s, .int .i64 l, .int .i64 wo, .int .i64 ad, .int .i64 mn, .int .i64 cn, .bool tk] t)), x.world.cell? ⟨w.heap.size, 3, none⟩ = some (.int .i64 wo)) ∧ (∀ x : Kin (w.alloc (.cells #[.int .i64 k, .int .i64 s, .int .i64 l, .int .i64 wo, .int .i64 ad, .int .i64 mn, .int .i64 cn, .bool tk] t)), x.world.cell? ⟨w.heap.size, 4, none⟩ = some (.int .i64 ad)) ∧ (∀ x : Kin (w.alloc (.cells #[.int .i64 k, .int .i64 s, .int .i64 l, .int .i64 wo, .int .i64 ad, .int .i64 mn, .int .i64 cn, .bool tk] t)), x.world.cell? ⟨w.heap.size, 5, none⟩ = some (.int .i64 mn)) ∧ (∀ x : Kin (w.alloc (.cells #[.int .i64 k, .int .i64 s, .int .i64 l, .int .i64 wo, .int .i64 ad, .int .i64 mn, .int .i64 cn, .bool tk] t)), x.world.cell? ⟨w.heap.size, 6, none⟩ = some (.int .i64 cn)) ∧ (∀ x : Kin (w.alloc (.cells #[.int .i64 k, .int .i64 s, .int .i64 l, .int .i64 wo, .int .i64 ad, .int .i64 mn, .int .i64 cn, .bool tk] t)), x.world.cell? ⟨w.heap.size, 7, none⟩ = some (.bool tk)) :=
  ⟨fun x => Kin.box (Below.refl _ _) x 0, fun x => Kin.box (Below.refl _ _) x 1, fun x => Kin.box (Below.refl _ _) x 2, fun x => Kin.box (Below.refl _ _) x 3, fun x => Kin.box (Below.refl _ _) x 4, fun x => Kin.box (Below.refl _ _) x 5, fun x => Kin.box (Below.refl _ _) x 6, fun x => Kin.box (Below.refl _ _) x 7⟩
/-- Which bit, and which tick of its cell, is sent at a place. -/
def atN (k wo mn c p : Int) : Int := if k = 0 ∧ 0 ≤ c ∧ c < mn ∧ 40 + 80 * c ≤ p ∧ (p - (40 + 80 * c)) / 160 < wo then (p - (40 + 80 * c)) / 20 else -1
def atT (k wo mn c p : Int) : Int := if k = 0 ∧ 0 ≤ c ∧ c < mn ∧ 40 + 80 * c ≤ p ∧ (p - (40 + 80 * c)) / 160 < wo then (p - (40 + 80 * c)) % 20 else 0
theorem at_no {k wo mn c p : Int} (h : ¬ (k = 0 ∧ 0 ≤ c ∧ c < mn ∧ 40 + 80 * c ≤ p ∧ (p - (40 + 80 * c)) / 160 < wo)) : atN k wo mn c p = -1 ∧ atT k wo mn c p = 0 := ⟨if_neg h, if_neg h⟩
theorem at_yes {k wo mn c p : Int} (h : k = 0 ∧ 0 ≤ c ∧ c < mn ∧ 40 + 80 * c ≤ p ∧ (p - (40 + 80 * c)) / 160 < wo) : atN k wo mn c p = (p - (40 + 80 * c)) / 20 ∧ atT k wo mn c p = (p - (40 + 80 * c)) % 20 := ⟨if_pos h, if_pos h⟩
theorem at_bd {k wo mn c p : Int} : -1 ≤ atN k wo mn c p ∧ 0 ≤ atT k wo mn c p ∧ atT k wo mn c p < 20 ∧ (0 ≤ atN k wo mn c p → atN k wo mn c p < 8 * wo) := by
  unfold atN atT
  split
  · rename_i h
    refine ⟨by omega, by omega, by omega, fun _ => by omega⟩
  · exact ⟨by omega, by omega, by omega, fun h => by omega⟩
set_option maxHeartbeats 1000000 in
theorem at_any (k s l wo ad mn cn : Int) (tk : Bool) (c p : Int) (w : World) (c0 : -9223372036854775808 ≤ c) (c1 : c < 1099511627776) (m0 : -9223372036854775808 ≤ mn) (m1 : mn ≤ 9223372036854775807) (p0 : -9223372036854775808 ≤ p) (p1 : p ≤ 9223372036854775807) :
    Calls Tryd.prog 18 #[.agg #[.int .i64 k, .int .i64 s, .int .i64 l, .int .i64 wo, .int .i64 ad, .int .i64 mn, .int .i64 cn, .bool tk], .int .i64 c, .int .i64 p] w fun e w' => e = .returned (.tuple #[.int .i64 (atN k wo mn c p), .int .i64 (atT k wo mn c p)]) ∧ Below w.heap.size w w' := by
  by_cases hk : k = 0
  case neg =>
    obtain ⟨e1, e2⟩ := at_no (k := k) (wo := wo) (mn := mn) (c := c) (p := p) (fun h => hk h.1)
    rw [e1, e2]
    have hk1 : (k == 0) = false := by simpa using hk
    have hk2 : (k != 0) = true := by simpa using hk
    clear hk e1 e2
    go_enter Tryd.func18, Tryd.ntmps18
    go_wp2
    go_ret2
    refine ⟨rfl, ?_⟩
    repeat (first | exact Below.refl _ _ | refine Below.setCell ?_ (by first | omega | (simp; done) | (simp; omega)) _ | refine Below.alloc ?_ (by first | omega | (simp; done) | (simp; omega)) _ | refine below_drewN' ?_ _ | refine Below.drew ?_)
  subst hk
  by_cases hc : 0 ≤ c
  case neg =>
    obtain ⟨e1, e2⟩ := at_no (k := 0) (wo := wo) (mn := mn) (c := c) (p := p) (fun h => hc h.2.1)
    rw [e1, e2]
    have hc' : c < 0 := by omega
    clear hc e1 e2
    go_enter Tryd.func18, Tryd.ntmps18
    go_wp2
    go_ret2
    refine ⟨rfl, ?_⟩
    repeat (first | exact Below.refl _ _ | refine Below.setCell ?_ (by first | omega | (simp; done) | (simp; omega)) _ | refine Below.alloc ?_ (by first | omega | (simp; done) | (simp; omega)) _ | refine below_drewN' ?_ _ | refine Below.drew ?_)
  by_cases hm : c < mn
  case neg =>
    obtain ⟨e1, e2⟩ := at_no (k := 0) (wo := wo) (mn := mn) (c := c) (p := p) (fun h => hm h.2.2.1)
    rw [e1, e2]
    have hm' : mn ≤ c := by omega
    clear hm e1 e2
    go_enter Tryd.func18, Tryd.ntmps18
    go_wp2
    go_ret2
    refine ⟨rfl, ?_⟩
    repeat (first | exact Below.refl _ _ | refine Below.setCell ?_ (by first | omega | (simp; done) | (simp; omega)) _ | refine Below.alloc ?_ (by first | omega | (simp; done) | (simp; omega)) _ | refine below_drewN' ?_ _ | refine Below.drew ?_)
  obtain ⟨b, HBQ⟩ : ∃ b, Hid (40 + 80 * c = b) := ⟨_, Lib.hid rfl⟩
  have hb0 : 40 ≤ b := by rw [← HBQ.out]; omega
  have hb1 : b < 900000000000000 := by rw [← HBQ.out]; omega
  have HBG := Lib.hid (fun W => begin_any 0 s l wo ad mn cn c b tk W c0 c1 m0 m1 (.inr (.inr (.inr ⟨rfl, hc, .inr hm, HBQ.out.symm⟩))))
  by_cases hp : b ≤ p
  case neg =>
    obtain ⟨e1, e2⟩ := at_no (k := 0) (wo := wo) (mn := mn) (c := c) (p := p) (fun h => hp (by rw [← HBQ.out]; exact h.2.2.2.1))
    rw [e1, e2]
    have hp' : p < b := by omega
    clear hp e1 e2
    go_enter Tryd.func18, Tryd.ntmps18
    go_wp2_with fail
    refine (HBG.out _).mono ?_
    rintro e w1 ⟨rfl, hb1⟩
    have hz1 := hb1.size
    simp at hz1
    go_wp2
    go_ret2
    refine ⟨rfl, ?_⟩
    repeat (first | exact Below.refl _ _ | refine Below.setCell ?_ (by first | omega | (simp; done) | (simp; omega) | (have := hb1.size; simp at this ⊢; omega)) _ | refine Below.alloc ?_ (by first | omega | (simp; done) | (simp; omega) | (have := hb1.size; simp at this ⊢; omega)) _ | refine below_drewN' ?_ _ | refine Below.drew ?_ | refine Below.trans ?_ (hb1.mono (by first | omega | (simp; done) | (simp; omega) | (have := hb1.size; simp at this ⊢; omega))))
  obtain ⟨q, HQ⟩ : ∃ q, Hid ((p - b) / 20 = q) := ⟨_, Lib.hid rfl⟩
  obtain ⟨r, HR⟩ : ∃ r, Hid ((p - b) % 20 = r) := ⟨_, Lib.hid rfl⟩
  have hq0 : 0 ≤ q ∧ q ≤ 9223372036854775807 := by have := HQ.out; omega
  have HC := Lib.hid (fun W => cell_at (p - b) q r W (by omega) (by omega) HQ.out HR.out)
  have hwp : IntKind.i64.wrap (p - b) = p - b := IntWalk.i64_in _ (by omega)
  obtain ⟨q8, HQ8⟩ : ∃ q8, Hid (q / 8 = q8) := ⟨_, Lib.hid rfl⟩
  have htd : q.tdiv 8 = q8 := by rw [Int.tdiv_eq_ediv_of_nonneg hq0.1]; exact HQ8.out
  have hq8 : 0 ≤ q8 ∧ q8 ≤ 9223372036854775807 := by have := HQ8.out; omega
  have hw8 : wrap64 q8 = q8 := wq64 hq8.1 hq8.2
  have hw8' : IntKind.i64.wrap q8 = q8 := IntWalk.i64_in _ (by omega)
  by_cases hwo : q8 < wo
  case neg =>
    obtain ⟨e1, e2⟩ := at_no (k := 0) (wo := wo) (mn := mn) (c := c) (p := p) (fun h => hwo (by have h5 := h.2.2.2.2; rw [HBQ.out] at h5; have := HQ.out; have := HQ8.out; omega))
    rw [e1, e2]
    have hwo' : wo ≤ q8 := by omega
    clear hwo e1 e2
    go_enter Tryd.func18, Tryd.ntmps18
    go_wp2_with fail
    refine (HBG.out _).mono ?_
    rintro e w1 ⟨rfl, hb1⟩
    obtain ⟨x, rfl⟩ := Kin.ex hb1
    obtain ⟨K0, K1, K2, K3, K4, K5, K6, K7⟩ := box8 0 s l wo ad mn cn tk w 25
    go_wp2_with fail
    refine (HC.out _).mono ?_
    rintro e w' ⟨rfl, rfl⟩
    go_wp2_with fail
    refine wp_region_kin2 (by kernel_rfl) (by kernel_rfl) ?_
    repeat (go_big_quiet_step (first | (go_at_call 69; exact Calls.kin_same _ (long_one _))))
    refine wpQuiet_nil ?_
    intro _ hw'
    obtain ⟨kx, hw''⟩ := hw'
    subst hw''
    go_wp2
    go_ret2
    exact ⟨rfl, Kin.end1 ‹_›⟩
  obtain ⟨e1, e2⟩ := at_yes (k := 0) (wo := wo) (mn := mn) (c := c) (p := p) ⟨rfl, hc, hm, by rw [HBQ.out]; exact hp, by rw [HBQ.out]; have := HQ.out; have := HQ8.out; omega⟩
  rw [HBQ.out, HQ.out] at e1
  rw [HBQ.out, HR.out] at e2
  rw [e1, e2]
  clear e1 e2
  go_enter Tryd.func18, Tryd.ntmps18
  go_wp2_with fail
  refine (HBG.out _).mono ?_
  rintro e w1 ⟨rfl, hb1⟩
  obtain ⟨x, rfl⟩ := Kin.ex hb1
  obtain ⟨K0, K1, K2, K3, K4, K5, K6, K7⟩ := box8 0 s l wo ad mn cn tk w 25
  go_wp2_with fail
  refine (HC.out _).mono ?_
  rintro e w' ⟨rfl, rfl⟩
  go_wp2_with fail
  refine wp_region_kin2 (by kernel_rfl) (by kernel_rfl) ?_
  repeat (go_big_quiet_step (first | (go_at_call 69; exact Calls.kin_same _ (long_one _))))
  refine wpQuiet_nil ?_
  intro _ hw'
  obtain ⟨kx, hw''⟩ := hw'
  subst hw''
  go_wp2
  go_ret2
  exact ⟨rfl, Kin.end1 ‹_›⟩
end Go.Proofs.YtnbcegijncdmaaaDoor.Ly14
