/- The contracts of package fault's functions: Of, Right, left, At; what each returns. -/
import Derived.Test.YtnbconkefhoblaaBox
import Derived.Test.YtnbconkefhoblaaRows
import Derived.WalkKit
import Derived.ProofKit
import Derived.OpenShut
import Derived.WalkLawsBesides
import Derived.WalkSpells
import Derived.IntWalk
import Derived.Lib.Hide
namespace Go.Proofs.Ytnbconkefhoblaa.Ly20
open Go.ChangeShapes Go.WideShapes Go.ChangeAt Go.RowKit Base
set_option linter.unusedVariables false
set_option linter.unusedSimpArgs false

def ofB (kd md m : Int) : Bool := kd == 2 && md == m
theorem of_any (kd md : Int) (fy : Bool) (ln fr : Int) (A : Option Addr) (n c : Nat) (m : Int) (w : World) : Calls Try.prog 24 #[.agg #[.int .i64 kd, .int .i64 md, .bool fy, .int .i64 ln, .int .i64 fr, .slice A n c], .int .i64 m] w fun e w' => e = .returned (.bool (ofB kd md m)) ∧ Below w.heap.size w w' := by
  unfold ofB
  cases h1 : kd == 2
  · have h1' : ¬ kd = 2 := by simpa using h1
    go_enter Try.func24, Try.ntmps24
    go_wp2
    go_ret
    refine ⟨rfl, ?_⟩
    repeat (first | exact Below.refl _ _ | refine Below.setCell ?_ (by first | omega | (simp; done) | (simp; omega)) _ | refine Below.alloc ?_ (by first | omega | (simp; done) | (simp; omega)) _ | refine below_drewN' ?_ _ | refine Below.drew ?_)
  · go_enter Try.func24, Try.ntmps24
    go_wp2
    go_ret
    refine ⟨by first | rfl | simp, ?_⟩
    repeat (first | exact Below.refl _ _ | refine Below.setCell ?_ (by first | omega | (simp; done) | (simp; omega)) _ | refine Below.alloc ?_ (by first | omega | (simp; done) | (simp; omega)) _ | refine below_drewN' ?_ _ | refine Below.drew ?_)

def rightF (kd md ln fr : Int) (n : Nat) (ms : Int) : Int :=
  if kd = 0 then 0 else if fr < 0 ∨ n < 1 ∨ 256 < n then 2 else if (kd = 1 ∧ 0 ≤ ln ∧ ln ≤ 3) ∨ (kd = 2 ∧ 0 ≤ md ∧ md < ms) then 0 else 2
theorem right_0 (kd md : Int) (fy : Bool) (ln fr : Int) (A : Option Addr) (n c : Nat) (ms : Int) (w : World) (h : (kd == 0) = true) : Calls Try.prog 20 #[.agg #[.int .i64 kd, .int .i64 md, .bool fy, .int .i64 ln, .int .i64 fr, .slice A n c], .int .i64 ms] w fun e w' => e = .returned (.int .i64 0) ∧ Below w.heap.size w w' := by
  skip
  all_goals
    go_enter Try.func20, Try.ntmps20
    go_wp2
    go_ret
    refine ⟨rfl, ?_⟩
    repeat (first | exact Below.refl _ _ | refine Below.setCell ?_ (by first | omega | (simp; done) | (simp; omega)) _ | refine Below.alloc ?_ (by first | omega | (simp; done) | (simp; omega)) _ | refine below_drewN' ?_ _ | refine Below.drew ?_)
theorem right_1 (kd md : Int) (fy : Bool) (ln fr : Int) (A : Option Addr) (n c : Nat) (ms : Int) (w : World) (hn : n ≤ 9223372036854775807) (h : (kd == 0) = false) (h2 : fr < 0 ∨ n < 1 ∨ 256 < n) : Calls Try.prog 20 #[.agg #[.int .i64 kd, .int .i64 md, .bool fy, .int .i64 ln, .int .i64 fr, .slice A n c], .int .i64 ms] w fun e w' => e = .returned (.int .i64 2) ∧ Below w.heap.size w w' := by
  have h' : ¬ kd = 0 := by simpa using h
  rcases (show fr < 0 ∨ (0 ≤ fr ∧ n = 0) ∨ (0 ≤ fr ∧ 1 ≤ n ∧ 256 < n) by omega) with g | ⟨g, rfl⟩ | ⟨g, g1, g2⟩
  all_goals
    go_enter Try.func20, Try.ntmps20
    go_wp2
    go_ret
    refine ⟨rfl, ?_⟩
    repeat (first | exact Below.refl _ _ | refine Below.setCell ?_ (by first | omega | (simp; done) | (simp; omega)) _ | refine Below.alloc ?_ (by first | omega | (simp; done) | (simp; omega)) _ | refine below_drewN' ?_ _ | refine Below.drew ?_)
theorem right_2 (kd md : Int) (fy : Bool) (ln fr : Int) (A : Option Addr) (n c : Nat) (ms : Int) (w : World) (h2 : 0 ≤ fr) (h3 : 1 ≤ n) (h4 : n ≤ 256) (h : (kd == 1) = true) (l0 : 0 ≤ ln) (l1 : ln ≤ 3) : Calls Try.prog 20 #[.agg #[.int .i64 kd, .int .i64 md, .bool fy, .int .i64 ln, .int .i64 fr, .slice A n c], .int .i64 ms] w fun e w' => e = .returned (.int .i64 0) ∧ Below w.heap.size w w' := by
  have hk : kd = 1 := by simpa using h
  subst hk
  all_goals
    go_enter Try.func20, Try.ntmps20
    go_wp2
    go_ret
    refine ⟨rfl, ?_⟩
    repeat (first | exact Below.refl _ _ | refine Below.setCell ?_ (by first | omega | (simp; done) | (simp; omega)) _ | refine Below.alloc ?_ (by first | omega | (simp; done) | (simp; omega)) _ | refine below_drewN' ?_ _ | refine Below.drew ?_)
theorem right_3 (kd md : Int) (fy : Bool) (ln fr : Int) (A : Option Addr) (n c : Nat) (ms : Int) (w : World) (h2 : 0 ≤ fr) (h3 : 1 ≤ n) (h4 : n ≤ 256) (h : (kd == 1) = true) (l0 : ln < 0 ∨ 3 < ln) : Calls Try.prog 20 #[.agg #[.int .i64 kd, .int .i64 md, .bool fy, .int .i64 ln, .int .i64 fr, .slice A n c], .int .i64 ms] w fun e w' => e = .returned (.int .i64 2) ∧ Below w.heap.size w w' := by
  have hk : kd = 1 := by simpa using h
  subst hk
  rcases (show ln < 0 ∨ (0 ≤ ln ∧ 3 < ln) by omega) with g | ⟨g, g1⟩
  all_goals
    go_enter Try.func20, Try.ntmps20
    go_wp2
    go_ret
    refine ⟨rfl, ?_⟩
    repeat (first | exact Below.refl _ _ | refine Below.setCell ?_ (by first | omega | (simp; done) | (simp; omega)) _ | refine Below.alloc ?_ (by first | omega | (simp; done) | (simp; omega)) _ | refine below_drewN' ?_ _ | refine Below.drew ?_)
theorem right_4 (kd md : Int) (fy : Bool) (ln fr : Int) (A : Option Addr) (n c : Nat) (ms : Int) (w : World) (h2 : 0 ≤ fr) (h3 : 1 ≤ n) (h4 : n ≤ 256) (h : (kd == 2) = true) (l0 : 0 ≤ md) (l1 : md < ms) : Calls Try.prog 20 #[.agg #[.int .i64 kd, .int .i64 md, .bool fy, .int .i64 ln, .int .i64 fr, .slice A n c], .int .i64 ms] w fun e w' => e = .returned (.int .i64 0) ∧ Below w.heap.size w w' := by
  have hk : kd = 2 := by simpa using h
  subst hk
  all_goals
    go_enter Try.func20, Try.ntmps20
    go_wp2
    go_ret
    refine ⟨rfl, ?_⟩
    repeat (first | exact Below.refl _ _ | refine Below.setCell ?_ (by first | omega | (simp; done) | (simp; omega)) _ | refine Below.alloc ?_ (by first | omega | (simp; done) | (simp; omega)) _ | refine below_drewN' ?_ _ | refine Below.drew ?_)
theorem right_5 (kd md : Int) (fy : Bool) (ln fr : Int) (A : Option Addr) (n c : Nat) (ms : Int) (w : World) (h2 : 0 ≤ fr) (h3 : 1 ≤ n) (h4 : n ≤ 256) (h : (kd == 2) = true) (l0 : md < 0 ∨ ms ≤ md) : Calls Try.prog 20 #[.agg #[.int .i64 kd, .int .i64 md, .bool fy, .int .i64 ln, .int .i64 fr, .slice A n c], .int .i64 ms] w fun e w' => e = .returned (.int .i64 2) ∧ Below w.heap.size w w' := by
  have hk : kd = 2 := by simpa using h
  subst hk
  rcases (show md < 0 ∨ (0 ≤ md ∧ ms ≤ md) by omega) with g | ⟨g, g1⟩
  all_goals
    go_enter Try.func20, Try.ntmps20
    go_wp2
    go_ret
    refine ⟨rfl, ?_⟩
    repeat (first | exact Below.refl _ _ | refine Below.setCell ?_ (by first | omega | (simp; done) | (simp; omega)) _ | refine Below.alloc ?_ (by first | omega | (simp; done) | (simp; omega)) _ | refine below_drewN' ?_ _ | refine Below.drew ?_)
theorem right_6 (kd md : Int) (fy : Bool) (ln fr : Int) (A : Option Addr) (n c : Nat) (ms : Int) (w : World) (h2 : 0 ≤ fr) (h3 : 1 ≤ n) (h4 : n ≤ 256) (h0 : (kd == 0) = false) (h1 : (kd == 1) = false) (h : (kd == 2) = false) : Calls Try.prog 20 #[.agg #[.int .i64 kd, .int .i64 md, .bool fy, .int .i64 ln, .int .i64 fr, .slice A n c], .int .i64 ms] w fun e w' => e = .returned (.int .i64 2) ∧ Below w.heap.size w w' := by
  have h0' : ¬ kd = 0 := by simpa using h0
  have h1' : ¬ kd = 1 := by simpa using h1
  have h2' : ¬ kd = 2 := by simpa using h
  all_goals
    go_enter Try.func20, Try.ntmps20
    go_wp2
    go_ret
    refine ⟨rfl, ?_⟩
    repeat (first | exact Below.refl _ _ | refine Below.setCell ?_ (by first | omega | (simp; done) | (simp; omega)) _ | refine Below.alloc ?_ (by first | omega | (simp; done) | (simp; omega)) _ | refine below_drewN' ?_ _ | refine Below.drew ?_)
theorem right_any (kd md : Int) (fy : Bool) (ln fr : Int) (A : Option Addr) (n c : Nat) (ms : Int) (w : World) (hn : n ≤ 9223372036854775807) : Calls Try.prog 20 #[.agg #[.int .i64 kd, .int .i64 md, .bool fy, .int .i64 ln, .int .i64 fr, .slice A n c], .int .i64 ms] w fun e w' => e = .returned (.int .i64 (rightF kd md ln fr n ms)) ∧ Below w.heap.size w w' := by
  unfold rightF
  by_cases k0 : kd = 0
  · rw [if_pos k0]; exact right_0 kd md fy ln fr A n c ms w (by simpa using k0)
  · rw [if_neg k0]
    by_cases k1 : fr < 0 ∨ n < 1 ∨ 256 < n
    · rw [if_pos k1]; exact right_1 kd md fy ln fr A n c ms w hn (by simpa using k0) k1
    · rw [if_neg k1]
      by_cases k2 : kd = 1
      · by_cases k3 : 0 ≤ ln ∧ ln ≤ 3
        · rw [if_pos (.inl ⟨k2, k3⟩)]; exact right_2 kd md fy ln fr A n c ms w (by omega) (by omega) (by omega) (by simpa using k2) k3.1 k3.2
        · rw [if_neg (by omega)]; exact right_3 kd md fy ln fr A n c ms w (by omega) (by omega) (by omega) (by simpa using k2) (by omega)
      · by_cases k4 : kd = 2
        · by_cases k3 : 0 ≤ md ∧ md < ms
          · rw [if_pos (.inr ⟨k4, k3⟩)]; exact right_4 kd md fy ln fr A n c ms w (by omega) (by omega) (by omega) (by simpa using k4) k3.1 k3.2
          · rw [if_neg (by omega)]; exact right_5 kd md fy ln fr A n c ms w (by omega) (by omega) (by omega) (by simpa using k4) (by omega)
        · rw [if_neg (by omega)]; exact right_6 kd md fy ln fr A n c ms w (by omega) (by omega) (by omega) (by simpa using k0) (by simpa using k2) (by simpa using k4)

theorem left_any (x b : Int) (w : World) (h0 : 0 ≤ x) (h1 : x ≤ 9223372036854775807) (hb : 0 < b) (hb1 : b ≤ 1000000) : Calls Try.prog 71 #[.int .i64 x, .int .i64 b] w fun e w' => e = .returned (.int .i64 (x % b)) ∧ w = w' := by
  have r0 := Int.emod_nonneg x (show b ≠ 0 by omega)
  have r1 := Int.emod_lt_of_pos x hb
  have e1 : x.tmod b = x % b := Int.tmod_eq_emod_of_nonneg h0
  have e2 : (x % b + b).tmod b = x % b := by rw [Int.tmod_eq_emod_of_nonneg (by omega), Int.add_emod_right, Int.emod_emod_of_dvd _ (Int.dvd_refl _)]
  have e3 : (x % b + b) % b = x % b := by rw [Int.add_emod_right, Int.emod_emod_of_dvd _ (Int.dvd_refl _)]
  have hz : (b == 0) = false := by simp; omega
  have hz' : ¬ b = 0 := by omega
  have E3 := Lib.hid e3
  clear e3
  go_enter Try.func71, Try.ntmps71
  go_wp2
  go_ret
  exact ⟨by first | rfl | (rw [E3.out]) | simp [E3.out], rfl⟩
end Go.Proofs.Ytnbconkefhoblaa.Ly20
