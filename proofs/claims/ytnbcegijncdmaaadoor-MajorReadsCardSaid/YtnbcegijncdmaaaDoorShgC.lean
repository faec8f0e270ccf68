/- The contract of package shift's Seen on a shift of any size; no condition. -/
import Derived.Test.YtnbcegijncdmaaaDoorShgB
namespace Go.Proofs.YtnbcegijncdmaaaDoor.Ly15
open Go.ChangeShapes Go.WideShapes Go.ChangeAt Go.RowKit Base Ly3
set_option linter.unusedVariables false
set_option linter.unusedSimpArgs false

/-- How many halves of the first k bits were looked at. -/
def seenN (f : Nat → Bool) : Nat → Nat
  | 0 => 0
  | k + 1 => seenN f k + (if f (2 + 4 * k + 1) = true then 1 else 0) + (if f (2 + 4 * k + 3) = true then 1 else 0)
theorem seenN_le (f : Nat → Bool) : ∀ k, seenN f k ≤ 2 * k
  | 0 => by simp [seenN]
  | k + 1 => by
    have := seenN_le f k
    unfold seenN
    split <;> split <;> omega
def SRel (w : World) (f : Nat → Bool) (z : Nat) (sn i : Value) (wr : World) : Prop := ∃ k : Nat, k ≤ z ∧ i = .int .i64 k ∧ sn = .int .i64 (seenN f k : Nat) ∧ Below w.heap.size w wr
theorem srel {w wr : World} {f : Nat → Bool} {z k s : Nat} {S I : Int} (hk : k < z) (hs : seenN f k = s) (hS : S = (s : Int) + (if f (2 + 4 * k + 1) = true then 1 else 0) + (if f (2 + 4 * k + 3) = true then 1 else 0)) (hI : I = (k : Int) + 1) (hb : Below w.heap.size w wr) : SRel w f z (.int .i64 S) (.int .i64 I) wr := by
  refine ⟨k + 1, by omega, by rw [hI]; rfl, ?_, hb⟩
  rw [hS]
  unfold seenN
  rw [hs]
  congr 1
  split <;> split <;> omega
set_option maxRecDepth 100000 in
set_option maxHeartbeats 4000000 in
theorem seen_gen {b n : Nat} {f : Nat → Bool} {w : World} (h : ShF w b true n f) (hn : n ≤ 8) : Calls Tryd.prog 27 #[.pointer (some ⟨b, 0, none⟩)] w fun e w' => e = .returned (.int .i64 (seenN f (8 * n) : Nat)) ∧ Hid (Below w.heap.size w w') := by
  have H := Lib.hid h
  have HBI := Lib.hid (sbits_gen h hn)
  have hz64 : 8 * n ≤ 64 := by omega
  obtain ⟨z, HZ⟩ : ∃ z, Hid (8 * n = z) := ⟨_, Lib.hid rfl⟩
  rw [HZ.out] at HBI hz64 ⊢
  clear h
  go_enter Tryd.func27, Tryd.ntmps27
  go_wp2_with fail
  refine HBI.out.mono ?_
  rintro e w' ⟨rfl, rfl⟩
  go_wp2_with fail
  go_loopw [3, 9] (fun sn i wr => SRel w f z sn i wr) (fun _ i _ => z - (intOf i).toNat)
  case atStart => exact ⟨0, by omega, rfl, rfl, Below.refl _ _⟩
  case round =>
    obtain ⟨k, hk, rfl, hsn, hbel⟩ := hrel
    have HB := Lib.hid hbel
    have HS := Lib.hid (H.out.kept hbel)
    have hz := hbel.size
    have hs2 := seenN_le f k
    obtain ⟨s, HSN⟩ : ∃ s, Hid (seenN f k = s) := ⟨_, Lib.hid rfl⟩
    rw [HSN.out] at hsn hs2
    subst hsn
    clear hbel
    by_cases hlt : k < z
    · have hki : (k : Int) < (z : Int) := by omega
      have hk64 : (k : Int) < 64 := by omega
      have k0 := HS.out.more (2 + k * 4) (by omega) (by omega)
      have k1 := HS.out.more (2 + k * 4 + 1) (by omega) (by omega)
      have k2 := HS.out.more (2 + k * 4 + 2) (by omega) (by omega)
      have k3 := HS.out.more (2 + k * 4 + 3) (by omega) (by omega)
      obtain ⟨a0, ha0⟩ : ∃ a0, f (2 + k * 4) = a0 := ⟨_, rfl⟩
      obtain ⟨x0, hx0⟩ : ∃ x0, f (2 + k * 4 + 1) = x0 := ⟨_, rfl⟩
      obtain ⟨a1, ha1⟩ : ∃ a1, f (2 + k * 4 + 2) = a1 := ⟨_, rfl⟩
      obtain ⟨x1, hx1⟩ : ∃ x1, f (2 + k * 4 + 3) = x1 := ⟨_, rfl⟩
      rw [ha0] at k0
      rw [hx0] at k1
      rw [ha1] at k2
      rw [hx1] at k3
      have HX0 : Hid (f (2 + 4 * k + 1) = x0) := Lib.hid (by rw [Nat.mul_comm 4 k]; exact hx0)
      have HX1 : Hid (f (2 + 4 * k + 3) = x1) := Lib.hid (by rw [Nat.mul_comm 4 k]; exact hx1)
      have i0 := fun W => idxh0 a0 x0 a1 x1 W
      have i1 := fun W => idxh1 a0 x0 a1 x1 W
      have hw1 : IntKind.i64.wrap ((s : Int) + 1) = (s : Int) + 1 := IntWalk.i64_in _ (by omega)
      have hw2 : IntKind.i64.wrap ((s : Int) + 1 + 1) = (s : Int) + 1 + 1 := IntWalk.i64_in _ (by omega)
      clear ha0 hx0 ha1 hx1
      cases x0 <;> cases x1
      all_goals
        go_wp2_with fail
        refine wp_loop_rounds 3 ?_
        rw [rounds_succ]
        go_wp2_with fail
        rw [rounds_succ]
        go_wp2_with fail
        rw [rounds_succ]
        go_wp2_with fail
        go_roundw
        case rel =>
          refine srel hlt HSN.out (by rw [HX0.out, HX1.out]; simp <;> omega) (by go_num) ?_
          repeat (first | exact Below.refl _ _ | refine Below.setCell ?_ (by first | omega | (simp; done) | (simp; omega) | (have := HB.out.size; simp at this ⊢; omega)) _ | refine Below.alloc ?_ (by first | omega | (simp; done) | (simp; omega) | (have := HB.out.size; simp at this ⊢; omega)) _ | refine below_drewN' ?_ _ | refine Below.drew ?_ | refine Below.trans ?_ (HB.out.mono (by first | omega | (simp; done) | (simp; omega) | (have := HB.out.size; simp at this ⊢; omega))))
        case measure => simp [intOf]; omega
    · obtain rfl : k = z := by omega
      rw [← HSN.out]
      go_wp2
      go_ret
      exact ⟨rfl, HB⟩
end Go.Proofs.YtnbcegijncdmaaaDoor.Ly15
