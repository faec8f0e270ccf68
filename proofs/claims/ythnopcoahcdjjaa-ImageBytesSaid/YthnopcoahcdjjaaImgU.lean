/- The document's own Read of layer 10; no condition. -/
import Derived.Test.YthnopcoahcdjjaaImgT
import Derived.Laws.Slices
namespace Go.Proofs.Ythnopcoahcdjjaa.Ly10
open Go.ChangeShapes Go.WideShapes Go.ChangeAt Go.RowKit Base
set_option linter.unusedVariables false
set_option linter.unusedSimpArgs false

/-- What bytes are an image of: whose, the entries, the code, the error. -/
structure Res where
  who : Nat
  e0 : Nat
  e1 : Nat
  cd : List Nat
  bad : Nat
def res (bs : List Nat) (n : Nat) : Res :=
  if n < 11 then ⟨0, 0, 0, [], 10⟩
  else if ¬ (pre2 bs = true ∧ n = 11 + b2 bs 7) then ⟨0, 0, 0, [], 11⟩
  else if b2 bs (n - 2) ≠ sumL 65535 (bs.take (n - 2)) then ⟨0, 0, 0, [], 12⟩
  else if ¬ RI (bs.getD 2 0 : Nat) (b2 bs 3 : Nat) (b2 bs 5 : Nat) (n - 11) then ⟨0, 0, 0, [], 11⟩
  else ⟨bs.getD 2 0, b2 bs 3, b2 bs 5, (bs.drop 9).take (n - 11), 0⟩
theorem read_res (A : Option Addr) (n c : Nat) (bs : List Nat) (w : World) (hn2 : n ≤ 100000) (hnc : n ≤ c) (hc : c ≤ 9223372036854775807) (hl : Lst w A n (u8s bs)) (hb : ∀ x ∈ bs, x < 256) :
    Calls Try.prog 29 #[.slice A n c] w fun e w' => ∃ B k d, e = .returned (.tuple #[imv (res bs n).who (res bs n).e0 (res bs n).e1 B k d, .int .i64 (res bs n).bad]) ∧ Hid (Lst w' B k (u8s (res bs n).cd)) ∧ Hid (Below w.heap.size w w') := by
  by_cases h11 : n < 11
  · have e : res bs n = ⟨0, 0, 0, [], 10⟩ := by unfold res; rw [if_pos h11]
    rw [e]
    refine (read_short A n c w h11).mono ?_
    rintro e w' ⟨rfl, hbw⟩
    exact ⟨none, 0, 0, rfl, Lib.hid (Lst.nil _ _), hbw⟩
  · refine (read_any A n c bs w (by omega) hn2 hnc hc hl hb).mono ?_
    rintro e w' ⟨v, x, rfl, hr, hbw⟩
    cases hr.out with
    | form h =>
      have e : res bs n = ⟨0, 0, 0, [], 11⟩ := by unfold res; rw [if_neg h11, if_pos h]
      rw [e]
      exact ⟨none, 0, 0, rfl, Lib.hid (Lst.nil _ _), hbw⟩
    | sum h h2 =>
      have e : res bs n = ⟨0, 0, 0, [], 12⟩ := by unfold res; rw [if_neg h11, if_neg (fun h' => h' h), if_pos h2]
      rw [e]
      exact ⟨none, 0, 0, rfl, Lib.hid (Lst.nil _ _), hbw⟩
    | right h h2 h3 =>
      have e : res bs n = ⟨0, 0, 0, [], 11⟩ := by unfold res; rw [if_neg h11, if_neg (fun h' => h' h), if_neg (fun h' => h' h2), if_pos h3]
      rw [e]
      exact ⟨none, 0, 0, rfl, Lib.hid (Lst.nil _ _), hbw⟩
    | ok h h2 h3 g hg hl' =>
      have e : res bs n = ⟨bs.getD 2 0, b2 bs 3, b2 bs 5, (bs.drop 9).take (n - 11), 0⟩ := by unfold res; rw [if_neg h11, if_neg (fun h' => h' h), if_neg (fun h' => h' h2), if_neg (fun h' => h' h3)]
      rw [e]
      exact ⟨_, _, _, rfl, Lib.hid hl', hbw⟩
theorem idxU {bs : List Nat} {j : Nat} (hb : ∀ x ∈ bs, x < 256) (hj : j < bs.length) (W : World) : (Instr.index 9 (.string (strU bs)) (.int .i64 (j : Int))).run Try.prog W = .ok (.int .u8 ((bs.getD j 0 : Nat) : Int)) W := by
  have := idxS (x := ((bs.getD j 0 : Nat) : Int)) Try.underlying9 (ns := bs.map fun (x : Nat) => (x : Int)) (j := j) (by rw [List.getElem?_map, List.getElem?_eq_getElem hj, List.getD_eq_getElem?_getD, List.getElem?_eq_getElem hj]; rfl) (by omega) (by have := getD_lt hb j; omega) W
  exact this
theorem cutU_lh {bs : List Nat} (l k : Nat) (h : l + k ≤ bs.length) (W : World) : (Instr.slice 9 (.string (strU bs)) (some (.int .i64 (l : Int))) (some (.int .i64 ((l : Int) + (k : Int)))) none).run Try.prog W = .ok (.string (strU ((bs.drop l).take k))) W := by
  rw [cutS Try.underlying9 _ l k (by simpa using h) W, ← List.map_drop, ← List.map_take]
theorem cutU_h {bs : List Nat} (k : Nat) (h : k ≤ bs.length) (W : World) : (Instr.slice 9 (.string (strU bs)) none (some (.int .i64 (k : Int))) none).run Try.prog W = .ok (.string (strU (bs.take k))) W := by
  rw [run_slice_string_h W 9 (strU bs) Try.underlying9 .i64 k (by omega) (by rw [strU_len]; omega)]
  have := strB_cut (bs.map fun (x : Nat) => (x : Int)) 0 k
  rw [Nat.zero_add, List.drop_zero, ← List.map_take] at this
  rw [Int.toNat_natCast]
  exact congrArg (fun s => Result.ok (Value.string s) W) this
theorem cutU_l {bs : List Nat} (l : Nat) (h : l ≤ bs.length) (W : World) : (Instr.slice 9 (.string (strU bs)) (some (.int .i64 (l : Int))) none none).run Try.prog W = .ok (.string (strU (bs.drop l))) W := by
  rw [run_slice_string_l W 9 (strU bs) Try.underlying9 .i64 l (by omega) (by rw [strU_len]; omega)]
  have := strB_cut (bs.map fun (x : Nat) => (x : Int)) l (bs.length - l)
  rw [show l + (bs.length - l) = (strU bs).size by rw [strU_len]; omega, List.take_of_length_le (by simp), ← List.map_drop] at this
  rw [Int.toNat_natCast]
  exact congrArg (fun s => Result.ok (Value.string s) W) this
theorem strU_ne {a b : List Nat} (ha : ∀ x ∈ a, x < 256) (hb : ∀ x ∈ b, x < 256) (h : a ≠ b) : ((strU a).toList == (strU b).toList) = false := by
  rw [beq_eq_false_iff_ne, ByteArray.toList_eq, ByteArray.toList_eq]
  intro h'
  exact h (strB_inj ha hb (ByteArray.ext (Array.toList_inj.1 h')))
theorem lit_t1 : strU [84, 49] = ByteArray.mk #[84, 49] := by unfold strU; rw [strB_eq]; rfl
end Go.Proofs.Ythnopcoahcdjjaa.Ly10
