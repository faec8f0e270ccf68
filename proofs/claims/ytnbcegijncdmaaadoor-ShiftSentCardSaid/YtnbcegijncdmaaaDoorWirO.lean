/- The contract of package wires' Or; no condition. -/
import Derived.Test.YtnbcegijncdmaaaDoorWirN
import Derived.Outline
namespace Go.Proofs.YtnbcegijncdmaaaDoor.Ly3
open Go.ChangeShapes Go.WideShapes Go.ChangeAt Go.RowKit Base
set_option linter.unusedVariables false
set_option linter.unusedSimpArgs false

def orL (xs : List Nat) : Nat := xs.foldl (· ||| ·) 0
theorem orL_snoc (xs : List Nat) (k : Nat) (hk : k < xs.length) : orL (xs.take (k + 1)) = orL (xs.take k) ||| xs[k] := by
  unfold orL
  rw [List.take_succ_eq_append_getElem hk, List.foldl_append]; rfl
theorem orL_lt (xs : List Nat) (h : ∀ x ∈ xs, x < 256) : orL xs < 256 := by
  unfold orL
  have aux : ∀ (ys : List Nat) (a : Nat), a < 256 → (∀ x ∈ ys, x < 256) → ys.foldl (· ||| ·) a < 256 := by
    intro ys
    induction ys with
    | nil => intro a ha _; exact ha
    | cons y r ih => intro a ha hy; exact ih _ (Nat.or_lt_two_pow (n := 8) ha (hy y (by simp))) (fun x hx => hy x (by simp [hx]))
  exact aux xs 0 (by decide) h

set_option maxHeartbeats 1000000 in
theorem or_any (A : Option Addr) (n c : Nat) (xs : List Nat) (w : World) (hl : Lst w A n (xs.map fun (x : Nat) => Value.int .u8 x)) (hx : ∀ x ∈ xs, x < 256) (hn : n ≤ 1000000) :
    Calls Tryd.prog 15 #[.slice A n c] w fun e w' => e = .returned (.int .u8 (orL xs &&& 15 : Nat)) ∧ w = w' := by
  have hln : xs.length = n := by simpa using hl.1
  have HLN := Lib.hid hln
  have HX := Lib.hid hx
  clear hln hx
  go_enter Tryd.func15, Tryd.ntmps15
  go_wp2
  go_loop [3, 8] (fun s i => ∃ k : Nat, k ≤ n ∧ i = .int .i64 k ∧ s = .int .u8 (orL (xs.take k))) (fun _ i => n - (intOf i).toNat)
  case atStart => exact ⟨0, by omega, rfl, rfl⟩
  case round =>
    obtain ⟨k, hk, rfl, rfl⟩ := hrel
    have hs := orL_lt (xs.take k) (fun x hx => HX.out x (List.mem_of_mem_take hx))
    by_cases hlt : k < n
    · obtain ⟨b, off, rfl, _, hc⟩ := hl.get hlt
      rw [List.getElem_map] at hc
      have hkl : k < xs.length := by rw [HLN.out]; exact hlt
      have hv := HX.out _ (List.getElem_mem hkl)
      have HS := Lib.hid (orL_snoc xs k hkl)
      obtain ⟨v, HV⟩ : ∃ v, Hid (xs[k]'hkl = v) := ⟨_, Lib.hid rfl⟩
      obtain ⟨s, HSS⟩ : ∃ s, Hid (orL (xs.take k) = s) := ⟨_, Lib.hid rfl⟩
      rw [HV.out] at hc hv
      rw [HSS.out] at hs ⊢
      have e := u8_or_nat s v hs hv
      have s0 : (0 : Int) ≤ (s : Int) := by omega
      have s1 : (s : Int) ≤ 255 := by omega
      have v0 : (0 : Int) ≤ (v : Int) := by omega
      have v1 : (v : Int) ≤ 255 := by omega
      go_wp2
      go_round
      case rel => exact ⟨k + 1, by omega, by go_num, by rw [HS.out, HSS.out, HV.out]⟩
      case measure => simp [intOf]; omega
    · obtain rfl : k = n := by omega
      obtain ⟨s, HSS⟩ : ∃ s, Hid (orL (xs.take k) = s) := ⟨_, Lib.hid rfl⟩
      rw [HSS.out] at hs ⊢
      have e := u8_and_nat s 15 hs (by decide)
      have s0 : (0 : Int) ≤ (s : Int) := by omega
      have s1 : (s : Int) ≤ 255 := by omega
      simp at e
      have HE : Hid (orL xs = s) := by
        show orL xs = s
        rw [← HSS.out, List.take_of_length_le (by rw [HLN.out]; exact Nat.le_refl _)]
      go_wp2
      go_ret
      exact ⟨by rw [HE.out]; rfl, rfl⟩

end Go.Proofs.YtnbcegijncdmaaaDoor.Ly3
