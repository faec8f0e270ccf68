/- The check sum of layer 10, byte by byte; the contract of package image's sumByte; no condition. -/
import Derived.Test.YthnopcoahcdjjaaArgs
import Derived.Test.YthnopcoahcdjjaaObj
import Derived.Test.YthnopcoahcdjjaaRows
import Derived.WalkKit
import Derived.ProofKit
import Derived.OpenShut
import Derived.WalkLawsBesides
import Derived.WalkSpells
import Derived.Handy
import Derived.Lib.Hide
import Derived.Laws.BitsAllLaws
namespace Go.Proofs.Ythnopcoahcdjjaa.Ly10
open Go.ChangeShapes Go.WideShapes Go.ChangeAt Go.RowKit Base
set_option linter.unusedVariables false
set_option linter.unusedSimpArgs false

def bstep (s : Nat) : Nat := if s < 32768 then 2 * s else (2 * s - 65536) ^^^ 4129
def bsteps : Nat → Nat → Nat
  | 0, s => s
  | k + 1, s => bstep (bsteps k s)
/-- A byte taken in. -/
@[irreducible] def SB (s b : Nat) : Nat := bsteps 8 (s ^^^ (b * 256))
theorem SB_def (s b : Nat) : SB s b = bsteps 8 (s ^^^ (b * 256)) := by unfold SB; rfl
def sumL (s : Nat) (bs : List Nat) : Nat := bs.foldl SB s
theorem bstep_lt {s : Nat} (h : s < 65536) : bstep s < 65536 := by
  unfold bstep
  split
  · omega
  · have h2 : (2 * s - 65536) ^^^ 4129 < 2 ^ 16 := Nat.xor_lt_two_pow (by omega) (by omega)
    omega
theorem bsteps_lt {s : Nat} (h : s < 65536) (k : Nat) : bsteps k s < 65536 := by
  induction k with
  | zero => exact h
  | succ k ih => exact bstep_lt ih
theorem xor_lt {s b : Nat} (hs : s < 65536) (hb : b < 256) : s ^^^ (b * 256) < 65536 := by
  have h2 : s ^^^ (b * 256) < 2 ^ 16 := Nat.xor_lt_two_pow (by omega) (by omega)
  omega
theorem SB_lt {s b : Nat} (hs : s < 65536) (hb : b < 256) : SB s b < 65536 := by
  rw [SB_def]
  exact bsteps_lt (xor_lt hs hb) 8
theorem sumL_cons (s x : Nat) (b : List Nat) : sumL s (x :: b) = sumL (SB s x) b := by unfold sumL; rw [List.foldl_cons]
theorem sumL_lt {s : Nat} {bs : List Nat} (hs : s < 65536) (hb : ∀ x ∈ bs, x < 256) : sumL s bs < 65536 := by
  induction bs generalizing s with
  | nil => exact hs
  | cons b r ih =>
    rw [sumL_cons]
    exact ih (SB_lt hs (hb b (by simp))) (fun x hx => hb x (by simp [hx]))
theorem sumL_app (s : Nat) (a b : List Nat) : sumL s (a ++ b) = sumL (sumL s a) b := by simp [sumL]
theorem xor_cancel {a b c : Nat} (h : a ^^^ c = b ^^^ c) : a = b := by
  have := congrArg (· ^^^ c) h
  simpa [Nat.xor_assoc] using this
theorem bstep_inj {a b : Nat} (ha : a < 65536) (hb : b < 65536) (h : bstep a = bstep b) : a = b := by
  have odd : ∀ x : Nat, (2 * x ^^^ 4129) % 2 = 1 := fun x => by
    exact Nat.xor_mod_two_eq_one.2 (by omega)
  unfold bstep at h
  by_cases h1 : a < 32768 <;> by_cases h2 : b < 32768
  · rw [if_pos h1, if_pos h2] at h; omega
  · rw [if_pos h1, if_neg h2] at h
    have := odd (b - 32768)
    rw [show 2 * (b - 32768) = 2 * b - 65536 by omega, ← h] at this
    omega
  · rw [if_neg h1, if_pos h2] at h
    have := odd (a - 32768)
    rw [show 2 * (a - 32768) = 2 * a - 65536 by omega, h] at this
    omega
  · rw [if_neg h1, if_neg h2] at h
    have := xor_cancel h
    omega
theorem bsteps_inj {a b : Nat} (ha : a < 65536) (hb : b < 65536) (k : Nat) (h : bsteps k a = bsteps k b) : a = b := by
  induction k with
  | zero => exact h
  | succ k ih => exact ih (bstep_inj (bsteps_lt ha k) (bsteps_lt hb k) h)
theorem SB_inj_s {s t b : Nat} (hs : s < 65536) (ht : t < 65536) (hb : b < 256) (h : SB s b = SB t b) : s = t := by
  rw [SB_def, SB_def] at h
  exact xor_cancel (bsteps_inj (xor_lt hs hb) (xor_lt ht hb) 8 h)
theorem SB_inj_b {s b c : Nat} (hs : s < 65536) (hb : b < 256) (hc : c < 256) (h : SB s b = SB s c) : b = c := by
  rw [SB_def, SB_def] at h
  have h1 := bsteps_inj (xor_lt hs hb) (xor_lt hs hc) 8 h
  rw [Nat.xor_comm s, Nat.xor_comm s] at h1
  have := xor_cancel h1
  omega
theorem sumL_inj_s {s t : Nat} {bs : List Nat} (hs : s < 65536) (ht : t < 65536) (hb : ∀ x ∈ bs, x < 256) (h : sumL s bs = sumL t bs) : s = t := by
  induction bs generalizing s t with
  | nil => exact h
  | cons b r ih =>
    rw [sumL_cons, sumL_cons] at h
    have hb0 := hb b (by simp)
    exact SB_inj_s hs ht hb0 (ih (SB_lt hs hb0) (SB_lt ht hb0) (fun x hx => hb x (by simp [hx])) h)
/-- One byte that is another one makes another sum. -/
theorem sumL_flip {s x y : Nat} {a b : List Nat} (hs : s < 65536) (ha : ∀ x ∈ a, x < 256) (hb : ∀ x ∈ b, x < 256) (hx : x < 256) (hy : y < 256) (hne : x ≠ y) : sumL s (a ++ x :: b) ≠ sumL s (a ++ y :: b) := by
  intro h
  rw [sumL_app, sumL_app, sumL_cons, sumL_cons] at h
  have h1 := sumL_lt hs ha
  have := sumL_inj_s (SB_lt h1 hx) (SB_lt h1 hy) hb h
  exact hne (SB_inj_b h1 hx hy this)
theorem and_top {s : Nat} (hs : s < 65536) : s &&& 32768 = if s < 32768 then 0 else 32768 := by
  have h := nat_bit 15 s
  rw [show (2 : Nat) ^ 15 = 32768 from rfl] at h
  rw [h]
  by_cases h1 : s < 32768
  · rw [if_pos h1, show s / 32768 % 2 = 0 by omega]
  · rw [if_neg h1, show s / 32768 % 2 = 1 by omega]
set_option maxRecDepth 1000000 in
set_option maxHeartbeats 1000000 in
theorem sumByte_any (s b : Nat) (w : World) (hs : s < 65536) (hb : b < 256) : Calls Try.prog 54 #[.int .u16 s, .int .u8 b] w fun e w' => e = .returned (.int .u16 ((SB s b : Nat) : Int)) ∧ w = w' := by
  have ex := u16_xor_nat s (b * 256) hs (by omega)
  have ex' : Go.bits BinOp.xor IntKind.u16 (s : Int) ((b : Int) * 256) = ((s ^^^ (b * 256) : Nat) : Int) := by rw [← ex]; push_cast; rfl
  have hb0 : (0 : Int) ≤ (b : Int) := by omega
  have hb1 : (b : Int) < 256 := by omega
  have hx := xor_lt hs hb
  obtain ⟨x, HX⟩ : ∃ x, Hid (s ^^^ (b * 256) = x) := ⟨_, Lib.hid rfl⟩
  have HR : Hid (SB s b = bsteps 8 x) := Lib.hid (by rw [SB_def, HX.out])
  rw [HX.out] at ex' hx
  rw [HR.out]
  clear ex
  go_enter Try.func54, Try.ntmps54
  go_wp2_with fail
  go_loop [0, 11] (fun v i => ∃ k : Nat, k ≤ 8 ∧ i = .int .i64 k ∧ v = .int .u16 ((bsteps k x : Nat) : Int)) (fun _ i => 8 - (intOf i).toNat)
  case atStart => exact ⟨0, by omega, rfl, rfl⟩
  case round =>
    obtain ⟨k, hk, rfl, rfl⟩ := hrel
    by_cases hlt : k < 8
    · have hz := bsteps_lt hx k
      have HS : Hid (bsteps (k + 1) x = bstep (bsteps k x)) := Lib.hid rfl
      obtain ⟨z, HZ⟩ : ∃ z, Hid (bsteps k x = z) := ⟨_, Lib.hid rfl⟩
      rw [HZ.out] at hz HS ⊢
      have ea := u16_and_nat z 32768 hz (by omega)
      rw [and_top hz] at ea
      by_cases ht : z < 32768
      · rw [if_pos ht] at ea
        have ea' : Go.bits BinOp.and IntKind.u16 (z : Int) 32768 = 0 := ea
        have HB : Hid (bstep z = 2 * z) := Lib.hid (by unfold bstep; rw [if_pos ht])
        clear ea
        go_wp2
        go_round
        case rel => exact ⟨k + 1, by omega, by go_num, by rw [HS.out, HB.out]; exact congrArg (Value.int .u16) (by push_cast; omega)⟩
        case measure => simp [intOf]; omega
      · rw [if_neg ht] at ea
        have ea' : Go.bits BinOp.and IntKind.u16 (z : Int) 32768 = 32768 := ea
        obtain ⟨u, hu⟩ : ∃ u, 2 * z - 65536 = u := ⟨_, rfl⟩
        have HB : Hid (bstep z = u ^^^ 4129) := Lib.hid (by unfold bstep; rw [if_neg ht, hu])
        have e4 : Go.bits BinOp.xor IntKind.u16 (u : Int) 4129 = ((u ^^^ 4129 : Nat) : Int) := u16_xor_nat u 4129 (by omega) (by omega)
        have hwr : IntKind.u16.wrap ((z : Int) * 2) = (u : Int) := by rw [IntKind.wrap_u16]; omega
        obtain ⟨q, HQ⟩ : ∃ q, Hid (u ^^^ 4129 = q) := ⟨_, Lib.hid rfl⟩
        rw [HQ.out] at e4 HB
        clear ea
        go_wp2
        go_round
        case rel => exact ⟨k + 1, by omega, by go_num, by rw [HS.out, HB.out]⟩
        case measure => simp [intOf]; omega
    · obtain rfl : k = 8 := by omega
      go_wp2
      go_ret
      exact ⟨rfl, rfl⟩
end Go.Proofs.Ythnopcoahcdjjaa.Ly10
