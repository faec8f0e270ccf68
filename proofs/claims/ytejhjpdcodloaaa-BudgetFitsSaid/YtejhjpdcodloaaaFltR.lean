/- The contracts of package fault's Of and Right. -/
import Derived.Test.YtejhjpdcodloaaaBox
import Derived.Test.YtejhjpdcodloaaaRows
import Derived.WalkKit
import Derived.ProofKit
import Derived.OpenShut
import Derived.WalkLawsBesides
import Derived.WalkSpells
import Derived.IntWalk
import Derived.Lib.Hide
namespace Go.Proofs.Ytejhjpdcodloaaa.Ly20
open Go.ChangeShapes Go.WideShapes Go.ChangeAt Go.RowKit Base
set_option linter.unusedVariables false
set_option linter.unusedSimpArgs false

def ofB (kd md m : Int) : Bool := kd == 2 && md == m
theorem of_any (kd md : Int) (fy : Bool) (ln fr : Int) (A : Option Addr) (n c : Nat) (m : Int) (w : World) : Calls Try.prog 46 #[.agg #[.int .i64 kd, .int .i64 md, .bool fy, .int .i64 ln, .int .i64 fr, .slice A n c], .int .i64 m] w fun e w' => e = .returned (.bool (ofB kd md m)) ∧ Below w.heap.size w w' := by
  unfold ofB
  cases h1 : kd == 2
  · have h1' : ¬ kd = 2 := by simpa using h1
    go_enter Try.func46, Try.ntmps46
    go_wp2
    go_ret
    refine ⟨rfl, ?_⟩
    repeat (first | exact Below.refl _ _ | refine Below.setCell ?_ (by first | omega | (simp; done) | (simp; omega)) _ | refine Below.alloc ?_ (by first | omega | (simp; done) | (simp; omega)) _ | refine below_drewN' ?_ _ | refine Below.drew ?_)
  · go_enter Try.func46, Try.ntmps46
    go_wp2
    go_ret
    refine ⟨by first | rfl | simp, ?_⟩
    repeat (first | exact Below.refl _ _ | refine Below.setCell ?_ (by first | omega | (simp; done) | (simp; omega)) _ | refine Below.alloc ?_ (by first | omega | (simp; done) | (simp; omega)) _ | refine below_drewN' ?_ _ | refine Below.drew ?_)

def rightF (kd md ln fr : Int) (n : Nat) (ms : Int) : Int :=
  if kd = 0 then 0 else if fr < 0 ∨ n < 1 ∨ 256 < n then 2 else if (kd = 1 ∧ 0 ≤ ln ∧ ln ≤ 3) ∨ (kd = 2 ∧ 0 ≤ md ∧ md < ms) then 0 else 2
theorem right_0 (kd md : Int) (fy : Bool) (ln fr : Int) (A : Option Addr) (n c : Nat) (ms : Int) (w : World) (h : (kd == 0) = true) : Calls Try.prog 10 #[.agg #[.int .i64 kd, .int .i64 md, .bool fy, .int .i64 ln, .int .i64 fr, .slice A n c], .int .i64 ms] w fun e w' => e = .returned (.int .i64 0) ∧ Below w.heap.size w w' := by
  skip
  all_goals
    go_enter Try.func10, Try.ntmps10
    go_wp2
    go_ret
    refine ⟨rfl, ?_⟩
    repeat (first | exact Below.refl _ _ | refine Below.setCell ?_ (by first | omega | (simp; done) | (simp; omega)) _ | refine Below.alloc ?_ (by first | omega | (simp; done) | (simp; omega)) _ | refine below_drewN' ?_ _ | refine Below.drew ?_)
theorem right_1 (kd md : Int) (fy : Bool) (ln fr : Int) (A : Option Addr) (n c : Nat) (ms : Int) (w : World) (hn : n ≤ 9223372036854775807) (h : (kd == 0) = false) (h2 : fr < 0 ∨ n < 1 ∨ 256 < n) : Calls Try.prog 10 #[.agg #[.int .i64 kd, .int .i64 md, .bool fy, .int .i64 ln, .int .i64 fr, .slice A n c], .int .i64 ms] w fun e w' => e = .returned (.int .i64 2) ∧ Below w.heap.size w w' := by
  have h' : ¬ kd = 0 := by simpa using h
  rcases (show fr < 0 ∨ (0 ≤ fr ∧ n = 0) ∨ (0 ≤ fr ∧ 1 ≤ n ∧ 256 < n) by omega) with g | ⟨g, rfl⟩ | ⟨g, g1, g2⟩
  all_goals
    go_enter Try.func10, Try.ntmps10
    go_wp2
    go_ret
    refine ⟨rfl, ?_⟩
    repeat (first | exact Below.refl _ _ | refine Below.setCell ?_ (by first | omega | (simp; done) | (simp; omega)) _ | refine Below.alloc ?_ (by first | omega | (simp; done) | (simp; omega)) _ | refine below_drewN' ?_ _ | refine Below.drew ?_)
theorem right_2 (kd md : Int) (fy : Bool) (ln fr : Int) (A : Option Addr) (n c : Nat) (ms : Int) (w : World) (h2 : 0 ≤ fr) (h3 : 1 ≤ n) (h4 : n ≤ 256) (h : (kd == 1) = true) (l0 : 0 ≤ ln) (l1 : ln ≤ 3) : Calls Try.prog 10 #[.agg #[.int .i64 kd, .int .i64 md, .bool fy, .int .i64 ln, .int .i64 fr, .slice A n c], .int .i64 ms] w fun e w' => e = .returned (.int .i64 0) ∧ Below w.heap.size w w' := by
  have hk : kd = 1 := by simpa using h
  subst hk
  all_goals
    go_enter Try.func10, Try.ntmps10
    go_wp2
    go_ret
    refine ⟨rfl, ?_⟩
    repeat (first | exact Below.refl _ _ | refine Below.setCell ?_ (by first | omega | (simp; done) | (simp; omega)) _ | refine Below.alloc ?_ (by first | omega | (simp; done) | (simp; omega)) _ | refine below_drewN' ?_ _ | refine Below.drew ?_)
theorem right_3 (kd md : Int) (fy : Bool) (ln fr : Int) (A : Option Addr) (n c : Nat) (ms : Int) (w : World) (h2 : 0 ≤ fr) (h3 : 1 ≤ n) (h4 : n ≤ 256) (h : (kd == 1) = true) (l0 : ln < 0 ∨ 3 < ln) : Calls Try.prog 10 #[.agg #[.int .i64 kd, .int .i64 md, .bool fy, .int .i64 ln, .int .i64 fr, .slice A n c], .int .i64 ms] w fun e w' => e = .returned (.int .i64 2) ∧ Below w.heap.size w w' := by
  have hk : kd = 1 := by simpa using h
  subst hk
  rcases (show ln < 0 ∨ (0 ≤ ln ∧ 3 < ln) by omega) with g | ⟨g, g1⟩
  all_goals
    go_enter Try.func10, Try.ntmps10
    go_wp2
    go_ret
    refine ⟨rfl, ?_⟩
    repeat (first | exact Below.refl _ _ | refine Below.setCell ?_ (by first | omega | (simp; done) | (simp; omega)) _ | refine Below.alloc ?_ (by first | omega | (simp; done) | (simp; omega)) _ | refine below_drewN' ?_ _ | refine Below.drew ?_)
theorem right_4 (kd md : Int) (fy : Bool) (ln fr : Int) (A : Option Addr) (n c : Nat) (ms : Int) (w : World) (h2 : 0 ≤ fr) (h3 : 1 ≤ n) (h4 : n ≤ 256) (h : (kd == 2) = true) (l0 : 0 ≤ md) (l1 : md < ms) : Calls Try.prog 10 #[.agg #[.int .i64 kd, .int .i64 md, .bool fy, .int .i64 ln, .int .i64 fr, .slice A n c], .int .i64 ms] w fun e w' => e = .returned (.int .i64 0) ∧ Below w.heap.size w w' := by
  have hk : kd = 2 := by simpa using h
  subst hk
  all_goals
    go_enter Try.func10, Try.ntmps10
    go_wp2
    go_ret
    refine ⟨rfl, ?_⟩
    repeat (first | exact Below.refl _ _ | refine Below.setCell ?_ (by first | omega | (simp; done) | (simp; omega)) _ | refine Below.alloc ?_ (by first | omega | (simp; done) | (simp; omega)) _ | refine below_drewN' ?_ _ | refine Below.drew ?_)
theorem right_5 (kd md : Int) (fy : Bool) (ln fr : Int) (A : Option Addr) (n c : Nat) (ms : Int) (w : World) (h2 : 0 ≤ fr) (h3 : 1 ≤ n) (h4 : n ≤ 256) (h : (kd == 2) = true) (l0 : md < 0 ∨ ms ≤ md) : Calls Try.prog 10 #[.agg #[.int .i64 kd, .int .i64 md, .bool fy, .int .i64 ln, .int .i64 fr, .slice A n c], .int .i64 ms] w fun e w' => e = .returned (.int .i64 2) ∧ Below w.heap.size w w' := by
  have hk : kd = 2 := by simpa using h
  subst hk
  rcases (show md < 0 ∨ (0 ≤ md ∧ ms ≤ md) by omega) with g | ⟨g, g1⟩
  all_goals
    go_enter Try.func10, Try.ntmps10
    go_wp2
    go_ret
    refine ⟨rfl, ?_⟩
    repeat (first | exact Below.refl _ _ | refine Below.setCell ?_ (by first | omega | (simp; done) | (simp; omega)) _ | refine Below.alloc ?_ (by first | omega | (simp; done) | (simp; omega)) _ | refine below_drewN' ?_ _ | refine Below.drew ?_)
theorem right_6 (kd md : Int) (fy : Bool) (ln fr : Int) (A : Option Addr) (n c : Nat) (ms : Int) (w : World) (h2 : 0 ≤ fr) (h3 : 1 ≤ n) (h4 : n ≤ 256) (h0 : (kd == 0) = false) (h1 : (kd == 1) = false) (h : (kd == 2) = false) : Calls Try.prog 10 #[.agg #[.int .i64 kd, .int .i64 md, .bool fy, .int .i64 ln, .int .i64 fr, .slice A n c], .int .i64 ms] w fun e w' => e = .returned (.int .i64 2) ∧ Below w.heap.size w w' := by
  have h0' : ¬ kd = 0 := by simpa using h0
  have h1' : ¬ kd = 1 := by simpa using h1
  have h2' : ¬ kd = 2 := by simpa using h
  all_goals
    go_enter Try.func10, Try.ntmps10
    go_wp2
    go_ret
    refine ⟨rfl, ?_⟩
    repeat (first | exact Below.refl _ _ | refine Below.setCell ?_ (by first | omega | (simp; done) | (simp; omega)) _ | refine Below.alloc ?_ (by first | omega | (simp; done) | (simp; omega)) _ | refine below_drewN' ?_ _ | refine Below.drew ?_)
theorem right_any (kd md : Int) (fy : Bool) (ln fr : Int) (A : Option Addr) (n c : Nat) (ms : Int) (w : World) (hn : n ≤ 9223372036854775807) : Calls Try.prog 10 #[.agg #[.int .i64 kd, .int .i64 md, .bool fy, .int .i64 ln, .int .i64 fr, .slice A n c], .int .i64 ms] w fun e w' => e = .returned (.int .i64 (rightF kd md ln fr n ms)) ∧ Below w.heap.size w w' := by
  unfold rightF
  by_cases k0 : kd = 0
  · rw [if_pos k0]; exact right_0 kd md fy ln fr A n c ms w (by simpa using k0)
  · rw [if_neg k0]
    by_cases k1 : fr < 0 ∨ n < 1 ∨ 256 < n
    · rw [if_pos k1]; exact right_1 kd md fy ln fr A n c ms w hn (by simpa using k0) k1
    · rw [if_neg k1]
      by_cases k2 : kd = 1
      · by_cases k3 : 0 ≤ ln ∧ ln ≤ 3
        · rw [if_pos (.inl ⟨k2, k3⟩)]; exact right_2 kd md fy ln fr A n c ms w (by omega) (by omega) (by omega) (by simpa using k2) k3.1 k3.2
        · rw [if_neg (by omega)]; exact right_3 kd md fy ln fr A n c ms w (by omega) (by omega) (by omega) (by simpa using k2) (by omega)
      · by_cases k4 : kd = 2
        · by_cases k3 : 0 ≤ md ∧ md < ms
          · rw [if_pos (.inr ⟨k4, k3⟩)]; exact right_4 kd md fy ln fr A n c ms w (by omega) (by omega) (by omega) (by simpa using k4) k3.1 k3.2
          · rw [if_neg (by omega)]; exact right_5 kd md fy ln fr A n c ms w (by omega) (by omega) (by omega) (by simpa using k4) (by omega)
        · rw [if_neg (by omega)]; exact right_6 kd md fy ln fr A n c ms w (by omega) (by omega) (by omega) (by simpa using k0) (by simpa using k2) (by simpa using k4)

end Go.Proofs.Ytejhjpdcodloaaa.Ly20
