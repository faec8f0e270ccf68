/- What a module's side comes to drive: package fault's Drives. -/
import Derived.Test.YtnbconkefhoblaaFltD
namespace Go.Proofs.Ytnbconkefhoblaa.Ly20
open Go.ChangeShapes Go.WideShapes Go.ChangeAt Go.RowKit Base
set_option linter.unusedVariables false
set_option linter.unusedSimpArgs false

theorem of_c (o : Bool) (kd md : Int) (fy : Bool) (ln fr : Int) (A : Option Addr) (n c : Nat) (m : Int) (w : World) (ho : ofB kd md m = o) : Calls Try.prog 24 #[.agg #[.int .i64 kd, .int .i64 md, .bool fy, .int .i64 ln, .int .i64 fr, .slice A n c], .int .i64 m] w fun e w' => e = .returned (.bool o) ∧ Below w.heap.size w w' := by
  subst ho; exact of_any kd md fy ln fr A n c m w

theorem rbyte_k (kd fr tk v : Int) (A : Option Addr) (n c : Nat) (b : Bool) (w : World) (ht : tk ≤ 9223372036854775807) (hv0 : 0 ≤ v) (hv1 : v ≤ 255) (h : AtR w kd fr A n tk v b) :
    Calls Try.prog 23 #[.int .i64 kd, .int .i64 fr, .slice A n c, .int .i64 tk] w fun e w' => e = .returned (.tuple #[.int .i64 v, .bool b]) ∧ Below w.heap.size w w' :=
  (rbyte_any kd fr tk v A n c b w ht hv0 hv1 h).mono fun e w' ⟨he, hw⟩ => ⟨he, by subst hw; exact Below.refl _ _⟩
/-- A byte's bit, as the program asks for it. -/
theorem bit_of (v k : Nat) (hv : v < 256) (hk : k < 4) : ∃ z : Int, Go.bits BinOp.and IntKind.u8 (v : Int) ((2 ^ k : Nat) : Int) = z ∧ (z != 0) = Ly3.hb v k ∧ 0 ≤ z ∧ z ≤ 255 := by
  have e := Ly3.and_bit v k hv hk
  rcases (show k = 0 ∨ k = 1 ∨ k = 2 ∨ k = 3 by omega) with rfl | rfl | rfl | rfl
  all_goals
    refine ⟨_, e, ?_, ?_, ?_⟩
    all_goals split <;> simp_all
/-- Does a fault change what a side drives? -/
def ownB (kd md m : Int) (fy y : Bool) (v : Nat) (b : Bool) : Bool := ofB kd md m && (fy == y) && b && !Ly3.hb v 3
def drL (y : Bool) (v : Nat) : Nat := if y then 4 * (v % 4) else v % 4
theorem drL_set (y : Bool) (v : Nat) : Ly3.setF (Ly3.setF 0 (if y then 2 else 0) (Ly3.hb v 0)) (if y then 3 else 1) (Ly3.hb v 1) = drL y v := by
  unfold drL Ly3.hb
  rcases (show v % 4 = 0 ∨ v % 4 = 1 ∨ v % 4 = 2 ∨ v % 4 = 3 by omega) with e | e | e | e
  · rw [e, show v / 2 ^ 0 % 2 = 0 by simp; omega, show v / 2 ^ 1 % 2 = 0 by simp; omega]; cases y <;> decide
  · rw [e, show v / 2 ^ 0 % 2 = 1 by simp; omega, show v / 2 ^ 1 % 2 = 0 by simp; omega]; cases y <;> decide
  · rw [e, show v / 2 ^ 0 % 2 = 0 by simp; omega, show v / 2 ^ 1 % 2 = 1 by simp; omega]; cases y <;> decide
  · rw [e, show v / 2 ^ 0 % 2 = 1 by simp; omega, show v / 2 ^ 1 % 2 = 1 by simp; omega]; cases y <;> decide

set_option maxHeartbeats 1000000 in
theorem drives_no (kd md : Int) (fy : Bool) (ln fr : Int) (A : Option Addr) (n c : Nat) (m : Int) (y : Bool) (l : Nat) (op : Bool) (tk : Int) (v : Nat) (b : Bool) (w : World) (hv : v < 256) (ht : tk ≤ 9223372036854775807) (h : AtR w kd fr A n tk v b) (hown : ownB kd md m fy y v b = false) :
    Calls Try.prog 27 #[.agg #[.int .i64 kd, .int .i64 md, .bool fy, .int .i64 ln, .int .i64 fr, .slice A n c], .int .i64 m, .bool y, .int .u8 l, .bool op, .int .i64 tk] w fun e w' => e = .returned (.tuple #[.int .u8 l, .bool op]) ∧ Below w.heap.size w w' := by
  obtain ⟨o, HO⟩ : ∃ o, Hid (ofB kd md m = o) := ⟨_, Lib.hid rfl⟩
  have A0 := Lib.hid (h.kept ((Below.refl w.heap.size w).alloc (Nat.le_refl _) (.cells #[.int .i64 kd, .int .i64 md, .bool fy, .int .i64 ln, .int .i64 fr, .slice A n c] 33)))
  clear h
  have A2 := Lib.hid (fun W => of_c o kd md fy ln fr A n c m W HO.out)
  obtain ⟨z, ez, fz, _, _⟩ := bit_of v 3 hv (by omega)
  simp at ez
  unfold ownB at hown
  rw [HO.out, ← fz] at hown
  clear fz
  cases o
  · clear hown
    go_enter Try.func27, Try.ntmps27
    go_wp2_with fail
    refine (at_any kd md fy ln fr A n c tk v b _ ht A0.out).mono ?_
    rintro e w1 ⟨rfl, hb1⟩
    obtain ⟨x, rfl⟩ := Kin.ex hb1
    obtain ⟨K0, K1, K2, K3, K4, K5⟩ := Kin.box6 (Below.refl _ (w.alloc (.cells #[.int .i64 kd, .int .i64 md, .bool fy, .int .i64 ln, .int .i64 fr, .slice A n c] 33)))
    go_wp2_with (first | (go_at_call 24; refine (Calls.kin _ (A2.out _)).mono ?_; rintro e w' ⟨rfl, y, rfl⟩))
    go_ret2
    exact ⟨rfl, Kin.end1 ‹_›⟩
  · cases hq : fy == y
    · have hq' : (fy != y) = true := by simpa [bne] using hq
      have hq'' : ¬ fy = y := by simpa using hq
      clear hown
      go_enter Try.func27, Try.ntmps27
      go_wp2_with fail
      refine (at_any kd md fy ln fr A n c tk v b _ ht A0.out).mono ?_
      rintro e w1 ⟨rfl, hb1⟩
      obtain ⟨x, rfl⟩ := Kin.ex hb1
      obtain ⟨K0, K1, K2, K3, K4, K5⟩ := Kin.box6 (Below.refl _ (w.alloc (.cells #[.int .i64 kd, .int .i64 md, .bool fy, .int .i64 ln, .int .i64 fr, .slice A n c] 33)))
      go_wp2_with (first | (go_at_call 24; refine (Calls.kin _ (A2.out _)).mono ?_; rintro e w' ⟨rfl, y, rfl⟩))
      go_ret2
      exact ⟨rfl, Kin.end1 ‹_›⟩
    · obtain rfl : fy = y := by simpa using hq
      clear hq
      cases b
      · skip
        clear hown
        go_enter Try.func27, Try.ntmps27
        go_wp2_with fail
        refine (at_any kd md fy ln fr A n c tk v false _ ht A0.out).mono ?_
        rintro e w1 ⟨rfl, hb1⟩
        obtain ⟨x, rfl⟩ := Kin.ex hb1
        obtain ⟨K0, K1, K2, K3, K4, K5⟩ := Kin.box6 (Below.refl _ (w.alloc (.cells #[.int .i64 kd, .int .i64 md, .bool fy, .int .i64 ln, .int .i64 fr, .slice A n c] 33)))
        go_wp2_with (first | (go_at_call 24; refine (Calls.kin _ (A2.out _)).mono ?_; rintro e w' ⟨rfl, y, rfl⟩))
        go_ret2
        exact ⟨rfl, Kin.end1 ‹_›⟩
      · have hz : (z != 0) = true := by simpa using hown
        have hz' : ¬ z = 0 := by simpa using hz
        clear hown
        go_enter Try.func27, Try.ntmps27
        go_wp2_with fail
        refine (at_any kd md fy ln fr A n c tk v true _ ht A0.out).mono ?_
        rintro e w1 ⟨rfl, hb1⟩
        obtain ⟨x, rfl⟩ := Kin.ex hb1
        obtain ⟨K0, K1, K2, K3, K4, K5⟩ := Kin.box6 (Below.refl _ (w.alloc (.cells #[.int .i64 kd, .int .i64 md, .bool fy, .int .i64 ln, .int .i64 fr, .slice A n c] 33)))
        go_wp2_with (first | (go_at_call 24; refine (Calls.kin _ (A2.out _)).mono ?_; rintro e w' ⟨rfl, y, rfl⟩))
        go_ret2
        exact ⟨rfl, Kin.end1 ‹_›⟩
set_option maxHeartbeats 1000000 in
theorem drives_yes (kd md : Int) (ln fr : Int) (A : Option Addr) (n c : Nat) (m : Int) (y : Bool) (l : Nat) (op : Bool) (tk : Int) (v : Nat) (w : World) (hv : v < 256) (ht : tk ≤ 9223372036854775807) (h : AtR w kd fr A n tk v true) (hof : ofB kd md m = true) (h3 : Ly3.hb v 3 = false) :
    Calls Try.prog 27 #[.agg #[.int .i64 kd, .int .i64 md, .bool y, .int .i64 ln, .int .i64 fr, .slice A n c], .int .i64 m, .bool y, .int .u8 l, .bool op, .int .i64 tk] w fun e w' => e = .returned (.tuple #[.int .u8 (drL y v), .bool (Ly3.hb v 2)]) ∧ Below w.heap.size w w' := by
  have A0 := Lib.hid (h.kept ((Below.refl w.heap.size w).alloc (Nat.le_refl _) (.cells #[.int .i64 kd, .int .i64 md, .bool y, .int .i64 ln, .int .i64 fr, .slice A n c] 33)))
  clear h
  have A2 := Lib.hid (fun W => of_c true kd md y ln fr A n c m W hof)
  have HD := Lib.hid (drL_set y v)
  have h0' : (0 : Nat) < 256 := by decide
  obtain ⟨z, ez, fz, _, _⟩ := bit_of v 3 hv (by omega)
  obtain ⟨z0, ez0, fz0, _, _⟩ := bit_of v 0 hv (by omega)
  obtain ⟨z1, ez1, fz1, _, _⟩ := bit_of v 1 hv (by omega)
  obtain ⟨z2, ez2, fz2, _, _⟩ := bit_of v 2 hv (by omega)
  rw [h3] at fz
  have hz : z = 0 := by simpa using fz
  subst hz
  simp at ez ez0 ez1 ez2
  obtain ⟨b0, H0⟩ : ∃ b, Hid (Ly3.hb v 0 = b) := ⟨_, Lib.hid rfl⟩
  obtain ⟨b1, H1⟩ : ∃ b, Hid (Ly3.hb v 1 = b) := ⟨_, Lib.hid rfl⟩
  obtain ⟨b2, H2⟩ : ∃ b, Hid (Ly3.hb v 2 = b) := ⟨_, Lib.hid rfl⟩
  rw [H0.out] at fz0
  rw [H1.out] at fz1
  rw [H2.out] at fz2 ⊢
  have HE : Hid (Ly3.setF (Ly3.setF 0 (if y then 2 else 0) b0) (if y then 3 else 1) b1 = drL y v) := by
    have := HD.out; rw [H0.out, H1.out] at this; exact this
  clear fz h3 hof
  cases y
  · skip
    have HE2 := HE.out
    simp at HE2
    have HE3 := Lib.hid HE2
    clear HE HE2 HD
    go_enter Try.func27, Try.ntmps27
    go_wp2_with fail
    refine (at_any kd md false ln fr A n c tk v true _ ht A0.out).mono ?_
    rintro e w1 ⟨rfl, hb1⟩
    obtain ⟨x, rfl⟩ := Kin.ex hb1
    obtain ⟨K0, K1, K2, K3, K4, K5⟩ := Kin.box6 (Below.refl _ (w.alloc (.cells #[.int .i64 kd, .int .i64 md, .bool false, .int .i64 ln, .int .i64 fr, .slice A n c] 33)))
    go_wp2_with fail
    refine (Calls.kin _ (A2.out _)).mono ?_; rintro e w' ⟨rfl, y24, rfl⟩
    go_wp2_with fail
    refine (Ly3.set_any 0 _ b0 _ h0').mono ?_; rintro e w' ⟨rfl, rfl⟩
    go_wp2_with fail
    refine (Ly3.set_any _ _ b1 _ (Ly3.setF_lt h0')).mono ?_; rintro e w' ⟨rfl, rfl⟩
    go_wp2
    go_ret2
    exact ⟨by rw [← HE3.out]; rfl, Kin.end1 ‹_›⟩
  · skip
    have HE2 := HE.out
    simp at HE2
    have HE3 := Lib.hid HE2
    clear HE HE2 HD
    go_enter Try.func27, Try.ntmps27
    go_wp2_with fail
    refine (at_any kd md true ln fr A n c tk v true _ ht A0.out).mono ?_
    rintro e w1 ⟨rfl, hb1⟩
    obtain ⟨x, rfl⟩ := Kin.ex hb1
    obtain ⟨K0, K1, K2, K3, K4, K5⟩ := Kin.box6 (Below.refl _ (w.alloc (.cells #[.int .i64 kd, .int .i64 md, .bool true, .int .i64 ln, .int .i64 fr, .slice A n c] 33)))
    go_wp2_with fail
    refine (Calls.kin _ (A2.out _)).mono ?_; rintro e w' ⟨rfl, y25, rfl⟩
    go_wp2_with fail
    refine (Ly3.set_any 0 _ b0 _ h0').mono ?_; rintro e w' ⟨rfl, rfl⟩
    go_wp2_with fail
    refine (Ly3.set_any _ _ b1 _ (Ly3.setF_lt h0')).mono ?_; rintro e w' ⟨rfl, rfl⟩
    go_wp2
    go_ret2
    exact ⟨by rw [← HE3.out]; rfl, Kin.end1 ‹_›⟩
end Go.Proofs.Ytnbconkefhoblaa.Ly20
