/- The contract of package image's Sum, over whatever rows; no condition. -/
import Derived.Test.YthnopcoahcdjjaaImgA
namespace Go.Proofs.Ythnopcoahcdjjaa.Ly10
open Go.ChangeShapes Go.WideShapes Go.ChangeAt Go.RowKit Base
set_option linter.unusedVariables false
set_option linter.unusedSimpArgs false

/-- A slice of bytes, and what it holds. -/
structure BRow where
  A : Option Addr
  n : Nat
  c : Nat
  bs : List Nat
def BRow.ok (w : World) (r : BRow) : Prop := Lst w r.A r.n (r.bs.map fun (x : Nat) => Value.int .u8 x) ∧ (∀ x ∈ r.bs, x < 256) ∧ r.n ≤ 1000000
/-- Rows of bytes, one behind the other. -/
def BRows (w : World) (LA : Option Addr) (rows : List BRow) : Prop :=
  Lst w LA rows.length (rows.map fun r => Value.slice r.A r.n r.c) ∧ ∀ r ∈ rows, r.ok w
def allB (rows : List BRow) : List Nat := rows.flatMap (·.bs)
theorem allB_lt {w : World} {LA : Option Addr} {rows : List BRow} (h : BRows w LA rows) : ∀ x ∈ allB rows, x < 256 := fun x hx => by
  obtain ⟨r, hr, hx⟩ := List.mem_flatMap.1 hx
  exact (h.2 r hr).2.1 x hx
theorem allB_take (rows : List BRow) (k : Nat) (hk : k < rows.length) : allB (rows.take (k + 1)) = allB (rows.take k) ++ rows[k].bs := by
  unfold allB
  rw [List.take_add_one, List.getElem?_eq_getElem hk, List.flatMap_append]
  simp
set_option maxRecDepth 1000000 in
set_option maxHeartbeats 1000000 in
theorem sum_any (LA : Option Addr) (c : Nat) (rows : List BRow) (w : World) (h : BRows w LA rows) (hk : rows.length ≤ 1000000) :
    Calls Try.prog 31 #[.slice LA rows.length c] w fun e w' => e = .returned (.int .u16 ((sumL 65535 (allB rows) : Nat) : Int)) ∧ w = w' := by
  have HH := Lib.hid h
  have HLT := Lib.hid (allB_lt h)
  obtain ⟨n, hn⟩ : ∃ n, rows.length = n := ⟨_, rfl⟩
  have HN := Lib.hid hn
  obtain ⟨s0, HS0⟩ : ∃ s0 : Nat, Hid (65535 = s0) := ⟨_, Lib.hid rfl⟩
  have hs0 : s0 < 65536 := by have := HS0.out; omega
  have he0 : (65535 : Int) = (s0 : Int) := by have := HS0.out; omega
  have HE0 := Lib.hid he0
  rw [HS0.out]
  rw [hn] at hk ⊢
  have hl := h.1
  rw [hn] at hl
  have HL := Lib.hid hl
  clear h hl hn he0
  go_enter Try.func31, Try.ntmps31
  go_wp2_with fail
  rw [HE0.out]
  go_loop [3, 10] (fun v i => ∃ k : Nat, k ≤ n ∧ i = .int .i64 k ∧ v = .int .u16 ((sumL s0 (allB (rows.take k)) : Nat) : Int)) (fun _ i => n - (intOf i).toNat)
  case atStart => exact ⟨0, by omega, rfl, rfl⟩
  case round =>
    obtain ⟨k, hk', rfl, rfl⟩ := hrel
    by_cases hlt : k < n
    · have hkr : k < rows.length := by rw [HN.out]; exact hlt
      obtain ⟨lb, lo, hLA, _, hc⟩ := HL.out.get hlt
      rw [List.getElem_map] at hc
      obtain ⟨r, HR⟩ : ∃ r, Hid (rows[k]'hkr = r) := ⟨_, Lib.hid rfl⟩
      rw [HR.out] at hc
      have hrok := HH.out.2 _ (List.getElem_mem hkr)
      rw [HR.out] at hrok
      obtain ⟨hrl, hrb, hrn⟩ := hrok
      obtain ⟨A, m, d, bs⟩ := r
      have HRL := Lib.hid hrl
      have HRB := Lib.hid hrb
      have HBL := Lib.hid (show bs.length = m by have := hrl.1; simpa using this)
      have HTK := Lib.hid (allB_take rows k hkr)
      have HPL := Lib.hid (show ∀ x ∈ allB (rows.take k), x < 256 from fun x hx => HLT.out x (by
        obtain ⟨r', hr', hx'⟩ := List.mem_flatMap.1 hx
        exact List.mem_flatMap.2 ⟨r', List.mem_of_mem_take hr', hx'⟩))
      obtain ⟨pl, HPP⟩ : ∃ pl, Hid (allB (rows.take k) = pl) := ⟨_, Lib.hid rfl⟩
      rw [HPP.out] at HTK HPL ⊢
      have hrn' : m ≤ 1000000 := hrn
      subst hLA
      clear hrl hrb hrn
      simp only at hc
      go_wp2_with fail
      go_loop [3, 16] (fun v i => ∃ j : Nat, j ≤ m ∧ i = .int .i64 j ∧ v = .int .u16 ((sumL s0 (pl ++ bs.take j) : Nat) : Int)) (fun _ i => m - (intOf i).toNat)
      case atStart => exact ⟨0, by omega, rfl, by simp⟩
      case round =>
        obtain ⟨j, hj, rfl, rfl⟩ := hrel
        by_cases hjl : j < m
        · have hjb : j < bs.length := by rw [HBL.out]; exact hjl
          obtain ⟨b, off, hA, _, hcb⟩ := HRL.out.get (show j < m from hjl)
          rw [List.getElem_map] at hcb
          have hx := HRB.out _ (List.getElem_mem hjb)
          have HST : Hid (sumL s0 (pl ++ bs.take (j + 1)) = SB (sumL s0 (pl ++ bs.take j)) (bs[j]'hjb)) := Lib.hid (by
            rw [List.take_add_one, List.getElem?_eq_getElem hjb, Option.toList_some, ← List.append_assoc, sumL_app, sumL_cons]
            rfl)
          have hsl : sumL s0 (pl ++ bs.take j) < 65536 := sumL_lt hs0 (fun x hx => by
            rcases List.mem_append.1 hx with h | h
            · exact HPL.out x h
            · exact HRB.out x (List.mem_of_mem_take h))
          obtain ⟨x, HX⟩ : ∃ x, Hid (bs[j]'hjb = x) := ⟨_, Lib.hid rfl⟩
          obtain ⟨s, HS⟩ : ∃ s, Hid (sumL s0 (pl ++ bs.take j) = s) := ⟨_, Lib.hid rfl⟩
          change w.cell? ⟨b, off + j, none⟩ = some (Value.int .u8 ((bs[j]'hjb : Nat) : Int)) at hcb
          rw [HX.out] at hx hcb HST
          rw [HS.out] at hsl HST ⊢
          have hA' : A = some ⟨b, off, none⟩ := hA
          subst hA'
          clear hA
          go_wp2_with fail
          refine (sumByte_any s x w hsl hx).mono ?_
          rintro e w' ⟨rfl, rfl⟩
          go_wp2
          go_round
          case rel => exact ⟨j + 1, by omega, by go_num, by rw [HST.out]⟩
          case measure => simp [intOf]; omega
        · obtain rfl : m = j := by omega
          rw [List.take_of_length_le (by rw [HBL.out]; exact Nat.le_refl _)]
          go_wp2
          go_round
          case rel => exact ⟨k + 1, by omega, by go_num, by rw [HTK.out, HR.out]⟩
          case measure => simp [intOf]; omega
    · obtain rfl : n = k := by omega
      rw [List.take_of_length_le (by rw [HN.out]; exact Nat.le_refl _)]
      go_wp2
      go_ret
      exact ⟨rfl, rfl⟩
end Go.Proofs.Ythnopcoahcdjjaa.Ly10
