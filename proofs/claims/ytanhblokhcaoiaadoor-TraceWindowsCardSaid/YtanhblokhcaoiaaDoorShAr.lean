/- What an array of ints that comes in holds. -/
import Derived.Test.YtanhblokhcaoiaaDoorSh
namespace Go.Proofs.YtanhblokhcaoiaaDoor.Base
open Go.ChangeShapes Go.WideShapes Go.ChangeAt Go.RowKit
theorem ar_rows {w : World} : ∀ rows : List (List Value), (∀ r ∈ rows, Reads w (.int .i64) r) → ∃ xs : List Int, xs.length = rows.length ∧ rows.flatten = xs.map (Value.int .i64) ∧ ∀ x ∈ xs, -9223372036854775808 ≤ x ∧ x ≤ 9223372036854775807
  | [], _ => ⟨[], rfl, rfl, fun x h => by cases h⟩
  | r :: rows, h => by
    obtain ⟨xs, h1, h2, h3⟩ := ar_rows rows (fun r' hr => h r' (List.mem_cons_of_mem _ hr))
    obtain ⟨n, rfl, hn⟩ := h r (by simp)
    have hb := bounds_i64 hn
    refine ⟨n :: xs, by simp [h1], by simp [h2], fun x hx => ?_⟩
    rcases List.mem_cons.1 hx with rfl | hx
    · exact hb
    · exact h3 x hx
theorem ar_ints {w : World} {n : Nat} {cs : List Value} (h : Reads w (.ar n (.int .i64)) cs) : ∃ xs : List Int, xs.length = n ∧ cs = xs.map (Value.int .i64) ∧ ∀ x ∈ xs, -9223372036854775808 ≤ x ∧ x ≤ 9223372036854775807 := by
  obtain ⟨rows, hl, rfl, hr⟩ := h
  obtain ⟨xs, h1, h2, h3⟩ := ar_rows rows hr
  exact ⟨xs, h1.trans hl, h2, h3⟩
theorem ar_two {w : World} {cs : Array Value} (h : Reads w (.ar 2 (.int .i64)) cs.toList) : ∃ a b : Int, cs = #[.int .i64 a, .int .i64 b] ∧ (-9223372036854775808 ≤ a ∧ a ≤ 9223372036854775807) ∧ (-9223372036854775808 ≤ b ∧ b ≤ 9223372036854775807) := by
  obtain ⟨xs, h1, h2, h3⟩ := ar_ints h
  rcases xs with _ | ⟨a, _ | ⟨b, _ | ⟨c, xs⟩⟩⟩ <;> simp at h1
  obtain ⟨cs⟩ := cs
  simp at h2
  subst h2
  exact ⟨a, b, rfl, h3 a (by simp), h3 b (by simp)⟩
theorem ar_four {w : World} {cs : Array Value} (h : Reads w (.ar 4 (.int .i64)) cs.toList) : ∃ a b c d : Int, cs = #[.int .i64 a, .int .i64 b, .int .i64 c, .int .i64 d] ∧ (-9223372036854775808 ≤ a ∧ a ≤ 9223372036854775807) ∧ (-9223372036854775808 ≤ b ∧ b ≤ 9223372036854775807) ∧ (-9223372036854775808 ≤ c ∧ c ≤ 9223372036854775807) ∧ (-9223372036854775808 ≤ d ∧ d ≤ 9223372036854775807) := by
  obtain ⟨xs, h1, h2, h3⟩ := ar_ints h
  rcases xs with _ | ⟨a, _ | ⟨b, _ | ⟨c, _ | ⟨d, _ | ⟨e, xs⟩⟩⟩⟩⟩ <;> simp at h1
  obtain ⟨cs⟩ := cs
  simp at h2
  subst h2
  exact ⟨a, b, c, d, rfl, h3 a (by simp), h3 b (by simp), h3 c (by simp), h3 d (by simp)⟩
theorem nats_in (l : List Int) (hbd : ∀ x ∈ l, 0 ≤ x ∧ x ≤ 255) : ∃ xs : List Nat, l.map (Value.int .u8) = xs.map (fun (x : Nat) => Value.int .u8 x) ∧ ∀ x ∈ xs, x < 256 := by
  refine ⟨l.map Int.toNat, ?_, ?_⟩
  · rw [List.map_map]
    apply List.map_congr_left
    intro x hx
    have := hbd x hx
    simp only [Function.comp]
    rw [Int.toNat_of_nonneg this.1]
  · intro x hx
    obtain ⟨z, hz, rfl⟩ := List.mem_map.1 hx
    have := hbd z hz
    omega
theorem u8_rows {w : World} : ∀ rows : List (List Value), (∀ r ∈ rows, Reads w (.int .u8) r) → ∃ vs : List Nat, rows = vs.map (fun (x : Nat) => [Value.int .u8 (x : Int)]) ∧ ∀ x ∈ vs, x < 256
  | [], _ => ⟨[], rfl, fun x h => by cases h⟩
  | r :: rows, h => by
    obtain ⟨vs, h1, h2⟩ := u8_rows rows (fun r' hr => h r' (List.mem_cons_of_mem _ hr))
    obtain ⟨n, rfl, hn⟩ := h r (by simp)
    have hb := bounds_u8 hn
    refine ⟨n.toNat :: vs, by rw [List.map_cons, ← h1, Int.toNat_of_nonneg hb.1], fun x hx => ?_⟩
    rcases List.mem_cons.1 hx with rfl | hx
    · omega
    · exact h2 x hx
theorem lst_grid {w : World} {A : Option Addr} {n : Nat} {rows : List (List Value)} (hg : Grid w A n (Sh.size (.int .u8)) rows) (hr : ∀ r ∈ rows, Reads w (.int .u8) r) : ∃ vs : List Nat, Lst w A n (vs.map fun (x : Nat) => Value.int .u8 x) ∧ ∀ x ∈ vs, x < 256 := by
  obtain ⟨vs, rfl, hx⟩ := u8_rows rows hr
  refine ⟨vs, ⟨by simpa using hg.1, fun h0 => ?_⟩, hx⟩
  obtain ⟨b, off, e, hb, hc⟩ := hg.2 h0
  refine ⟨b, off, e, hb, fun k hk => ?_⟩
  have h := hc k 0 hk (by show 0 < 1; omega)
  rw [List.getElem?_map] at h ⊢
  have hk' : k < vs.length := by have := hg.1; simp at this; omega
  rw [List.getElem?_eq_getElem hk'] at h ⊢
  simpa [Sh.size] using h
end Go.Proofs.YtanhblokhcaoiaaDoor.Base
