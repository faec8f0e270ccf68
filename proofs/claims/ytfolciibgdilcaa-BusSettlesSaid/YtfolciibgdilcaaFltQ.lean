/- The contracts of package fault's At: what it returns. -/
import Derived.Test.YtfolciibgdilcaaFltP
namespace Go.Proofs.Ytfolciibgdilcaa.Ly20
open Go.ChangeShapes Go.WideShapes Go.ChangeAt Go.RowKit Base
set_option linter.unusedVariables false
set_option linter.unusedSimpArgs false

theorem at_kind (kd md : Int) (fy : Bool) (ln fr : Int) (A : Option Addr) (n c : Nat) (tk : Int) (w : World) (h1 : (kd == 1) = false) (h2 : (kd == 2) = false) : Calls Try.prog 26 #[.agg #[.int .i64 kd, .int .i64 md, .bool fy, .int .i64 ln, .int .i64 fr, .slice A n c], .int .i64 tk] w fun e w' => e = .returned (.tuple #[.int .u8 0, .bool false]) ∧ Below w.heap.size w w' := by
  have h1' : ¬ kd = 1 := by simpa using h1
  have h2' : ¬ kd = 2 := by simpa using h2
  all_goals
    go_enter Try.func26, Try.ntmps26
    go_wp2
    go_ret2
    refine ⟨rfl, ?_⟩
    repeat (first | exact Below.refl _ _ | refine Below.setCell ?_ (by first | omega | (simp; done) | (simp; omega)) _ | refine Below.alloc ?_ (by first | omega | (simp; done) | (simp; omega)) _ | refine below_drewN' ?_ _ | refine Below.drew ?_)
theorem at_ahead1 (md : Int) (fy : Bool) (ln fr : Int) (A : Option Addr) (n c : Nat) (tk : Int) (w : World) (h2 : tk < fr) : Calls Try.prog 26 #[.agg #[.int .i64 1, .int .i64 md, .bool fy, .int .i64 ln, .int .i64 fr, .slice A n c], .int .i64 tk] w fun e w' => e = .returned (.tuple #[.int .u8 0, .bool false]) ∧ Below w.heap.size w w' := by
  skip
  all_goals
    go_enter Try.func26, Try.ntmps26
    go_wp2
    go_ret2
    refine ⟨rfl, ?_⟩
    repeat (first | exact Below.refl _ _ | refine Below.setCell ?_ (by first | omega | (simp; done) | (simp; omega)) _ | refine Below.alloc ?_ (by first | omega | (simp; done) | (simp; omega)) _ | refine below_drewN' ?_ _ | refine Below.drew ?_)
theorem at_empty1 (md : Int) (fy : Bool) (ln fr : Int) (A : Option Addr) (n c : Nat) (tk : Int) (w : World) (h2 : fr ≤ tk) (h3 : n = 0) : Calls Try.prog 26 #[.agg #[.int .i64 1, .int .i64 md, .bool fy, .int .i64 ln, .int .i64 fr, .slice A n c], .int .i64 tk] w fun e w' => e = .returned (.tuple #[.int .u8 0, .bool false]) ∧ Below w.heap.size w w' := by
  subst h3
  all_goals
    go_enter Try.func26, Try.ntmps26
    go_wp2
    go_ret2
    refine ⟨rfl, ?_⟩
    repeat (first | exact Below.refl _ _ | refine Below.setCell ?_ (by first | omega | (simp; done) | (simp; omega)) _ | refine Below.alloc ?_ (by first | omega | (simp; done) | (simp; omega)) _ | refine below_drewN' ?_ _ | refine Below.drew ?_)
set_option maxRecDepth 100000 in
set_option maxHeartbeats 1000000 in
theorem at_yes1 (md : Int) (fy : Bool) (ln fr : Int) (b off n c : Nat) (tk : Int) (w : World) (h0 : 0 ≤ fr) (h2 : fr ≤ tk) (ht : tk ≤ 9223372036854775807) (hn : 0 < n) (hn2 : n ≤ 400) (i : Nat) (v : Int) (hi : (tk - fr) % n = i) (hcell : w.cell? ⟨b, off + i, none⟩ = some (.int .u8 v)) :
    Calls Try.prog 26 #[.agg #[.int .i64 1, .int .i64 md, .bool fy, .int .i64 ln, .int .i64 fr, .slice (some ⟨b, off, none⟩) n c], .int .i64 tk] w fun e w' => e = .returned (.tuple #[.int .u8 v, .bool true]) ∧ Below w.heap.size w w' := by
  have a0 := Int.emod_nonneg tk (show (n : Int) ≠ 0 by omega)
  have a1 := Int.emod_lt_of_pos tk (show (0 : Int) < n by omega)
  have b0 := Int.emod_nonneg fr (show (n : Int) ≠ 0 by omega)
  have b1 := Int.emod_lt_of_pos fr (show (0 : Int) < n by omega)
  have hin : i < n := by have := Int.emod_lt_of_pos (tk - fr) (show (0 : Int) < n by omega); omega
  have hbl : b < w.heap.size := World.block_lt_of_cell? w _ hcell
  have ei : (tk % n - fr % n + n).tmod n = i := by
    rw [Int.tmod_eq_emod_of_nonneg (by omega), Int.add_emod_right, ← Int.sub_emod]; exact hi
  clear hi
  have s1 : IntKind.i64.wrap (tk % n - fr % n) = tk % n - fr % n := IntWalk.i64_in _ (by omega)
  have s2 : IntKind.i64.wrap (tk % n - fr % n + n) = tk % n - fr % n + n := IntWalk.i64_in _ (by omega)
  have hz : ((n : Int) == 0) = false := by simp; omega
  go_enter Try.func26, Try.ntmps26
  go_wp2
  obtain ⟨K0, K1, K2, K3, K4, K5⟩ := Kin.box6 (w := w) (t := 25) (a := .int .i64 1) (b := .int .i64 md) (c := .bool fy) (d := .int .i64 ln) (e := .int .i64 fr) (f := .slice (some ⟨b, off, none⟩) n c) (Below.refl _ _)
  have KP := Kin.far hcell ((Below.refl w.heap.size w).alloc (Nat.le_refl _) (.cells #[.int .i64 1, .int .i64 md, .bool fy, .int .i64 ln, .int .i64 fr, .slice (some ⟨b, off, none⟩) n c] 25))
  refine wp_region_kin (by kernel_rfl) (by kernel_rfl) ?_
  repeat (go_big_quiet_step (first | (go_at_call 29; exact Calls.kin_same _ (left_any _ _ _ (by omega) (by omega) (by omega) (by omega)))))
  refine wpQuiet_nil ?_
  intro _ hw'
  obtain ⟨kx, hw''⟩ := hw'
  subst hw''
  go_wp2
  go_ret2
  refine ⟨rfl, ?_⟩
  have hb2 := kx.below
  repeat (first | exact Below.refl _ _ | refine Below.setCell ?_ (by first | omega | (simp; done) | (simp; omega) | (have := hb2.size; simp at this ⊢; omega)) _ | refine Below.alloc ?_ (by first | omega | (simp; done) | (simp; omega) | (have := hb2.size; simp at this ⊢; omega)) _ | refine below_drewN' ?_ _ | refine Below.drew ?_ | refine Below.trans ?_ (hb2.mono (by first | omega | (simp; done) | (simp; omega) | (have := hb2.size; simp at this ⊢; omega))))
theorem at_ahead2 (md : Int) (fy : Bool) (ln fr : Int) (A : Option Addr) (n c : Nat) (tk : Int) (w : World) (h2 : tk < fr) : Calls Try.prog 26 #[.agg #[.int .i64 2, .int .i64 md, .bool fy, .int .i64 ln, .int .i64 fr, .slice A n c], .int .i64 tk] w fun e w' => e = .returned (.tuple #[.int .u8 0, .bool false]) ∧ Below w.heap.size w w' := by
  skip
  all_goals
    go_enter Try.func26, Try.ntmps26
    go_wp2
    go_ret2
    refine ⟨rfl, ?_⟩
    repeat (first | exact Below.refl _ _ | refine Below.setCell ?_ (by first | omega | (simp; done) | (simp; omega)) _ | refine Below.alloc ?_ (by first | omega | (simp; done) | (simp; omega)) _ | refine below_drewN' ?_ _ | refine Below.drew ?_)
theorem at_empty2 (md : Int) (fy : Bool) (ln fr : Int) (A : Option Addr) (n c : Nat) (tk : Int) (w : World) (h2 : fr ≤ tk) (h3 : n = 0) : Calls Try.prog 26 #[.agg #[.int .i64 2, .int .i64 md, .bool fy, .int .i64 ln, .int .i64 fr, .slice A n c], .int .i64 tk] w fun e w' => e = .returned (.tuple #[.int .u8 0, .bool false]) ∧ Below w.heap.size w w' := by
  subst h3
  all_goals
    go_enter Try.func26, Try.ntmps26
    go_wp2
    go_ret2
    refine ⟨rfl, ?_⟩
    repeat (first | exact Below.refl _ _ | refine Below.setCell ?_ (by first | omega | (simp; done) | (simp; omega)) _ | refine Below.alloc ?_ (by first | omega | (simp; done) | (simp; omega)) _ | refine below_drewN' ?_ _ | refine Below.drew ?_)
set_option maxRecDepth 100000 in
set_option maxHeartbeats 1000000 in
theorem at_yes2 (md : Int) (fy : Bool) (ln fr : Int) (b off n c : Nat) (tk : Int) (w : World) (h0 : 0 ≤ fr) (h2 : fr ≤ tk) (ht : tk ≤ 9223372036854775807) (hn : 0 < n) (hn2 : n ≤ 400) (i : Nat) (v : Int) (hi : (tk - fr) % n = i) (hcell : w.cell? ⟨b, off + i, none⟩ = some (.int .u8 v)) :
    Calls Try.prog 26 #[.agg #[.int .i64 2, .int .i64 md, .bool fy, .int .i64 ln, .int .i64 fr, .slice (some ⟨b, off, none⟩) n c], .int .i64 tk] w fun e w' => e = .returned (.tuple #[.int .u8 v, .bool true]) ∧ Below w.heap.size w w' := by
  have a0 := Int.emod_nonneg tk (show (n : Int) ≠ 0 by omega)
  have a1 := Int.emod_lt_of_pos tk (show (0 : Int) < n by omega)
  have b0 := Int.emod_nonneg fr (show (n : Int) ≠ 0 by omega)
  have b1 := Int.emod_lt_of_pos fr (show (0 : Int) < n by omega)
  have hin : i < n := by have := Int.emod_lt_of_pos (tk - fr) (show (0 : Int) < n by omega); omega
  have hbl : b < w.heap.size := World.block_lt_of_cell? w _ hcell
  have ei : (tk % n - fr % n + n).tmod n = i := by
    rw [Int.tmod_eq_emod_of_nonneg (by omega), Int.add_emod_right, ← Int.sub_emod]; exact hi
  clear hi
  have s1 : IntKind.i64.wrap (tk % n - fr % n) = tk % n - fr % n := IntWalk.i64_in _ (by omega)
  have s2 : IntKind.i64.wrap (tk % n - fr % n + n) = tk % n - fr % n + n := IntWalk.i64_in _ (by omega)
  have hz : ((n : Int) == 0) = false := by simp; omega
  go_enter Try.func26, Try.ntmps26
  go_wp2
  obtain ⟨K0, K1, K2, K3, K4, K5⟩ := Kin.box6 (w := w) (t := 25) (a := .int .i64 2) (b := .int .i64 md) (c := .bool fy) (d := .int .i64 ln) (e := .int .i64 fr) (f := .slice (some ⟨b, off, none⟩) n c) (Below.refl _ _)
  have KP := Kin.far hcell ((Below.refl w.heap.size w).alloc (Nat.le_refl _) (.cells #[.int .i64 2, .int .i64 md, .bool fy, .int .i64 ln, .int .i64 fr, .slice (some ⟨b, off, none⟩) n c] 25))
  refine wp_region_kin (by kernel_rfl) (by kernel_rfl) ?_
  repeat (go_big_quiet_step (first | (go_at_call 29; exact Calls.kin_same _ (left_any _ _ _ (by omega) (by omega) (by omega) (by omega)))))
  refine wpQuiet_nil ?_
  intro _ hw'
  obtain ⟨kx, hw''⟩ := hw'
  subst hw''
  go_wp2
  go_ret2
  refine ⟨rfl, ?_⟩
  have hb2 := kx.below
  repeat (first | exact Below.refl _ _ | refine Below.setCell ?_ (by first | omega | (simp; done) | (simp; omega) | (have := hb2.size; simp at this ⊢; omega)) _ | refine Below.alloc ?_ (by first | omega | (simp; done) | (simp; omega) | (have := hb2.size; simp at this ⊢; omega)) _ | refine below_drewN' ?_ _ | refine Below.drew ?_ | refine Below.trans ?_ (hb2.mono (by first | omega | (simp; done) | (simp; omega) | (have := hb2.size; simp at this ⊢; omega))))
end Go.Proofs.Ytfolciibgdilcaa.Ly20
