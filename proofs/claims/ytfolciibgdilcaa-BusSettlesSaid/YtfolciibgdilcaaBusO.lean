/- The small play of layer 24, by the evaluator; what modules drive, as it comes in; no condition. -/
import Derived.Test.YtfolciibgdilcaaBusM
import Derived.Test.YtfolciibgdilcaaEvL
import Derived.Test.YtfolciibgdilcaaGrid
namespace Go.Proofs.Ytfolciibgdilcaa.Ly24
open Go.ChangeShapes Go.WideShapes Go.ChangeAt Go.RowKit Base Go.Deep
set_option linter.unusedVariables false
set_option linter.unusedSimpArgs false

theorem named : Ev.Named Try.prog := by unfold Ev.Named; kernel_rfl
theorem mixed : Try.prog.follows .mixedOrders = true := by kernel_rfl
set_option maxRecDepth 1000000 in
theorem one_run : Ev.runL Try.prog 100000 16 [] = some (.bool true) := by kernel_rfl
theorem one_any (w : World) : Calls Try.prog 16 #[] w fun e w' => e = .returned (.bool true) ∧ Below w.heap.size w w' :=
  Ev.run_ok named mixed one_run .nil w
abbrev shP : Sh := .fld (.int .i64) (.fld (.int .u8) .nil)
/-- A slice of puts. -/
def PutsAt (w : World) (A : Option Addr) (n : Nat) (ps : Puts) : Prop :=
  ps.length = n ∧ (0 < n → ∃ b off, A = some ⟨b, off, none⟩ ∧ b < w.heap.size ∧ ∀ i p, ps[i]? = some p → w.cell? ⟨b, off + i * 2, none⟩ = some (.int .i64 p.1) ∧ w.cell? ⟨b, off + i * 2 + 1, none⟩ = some (.int .u8 (p.2 : Int)))
theorem PutsAt.kept {w w' : World} {A : Option Addr} {n : Nat} {ps : Puts} (h : PutsAt w A n ps) (hb : Below w.heap.size w w') : PutsAt w' A n ps :=
  ⟨h.1, fun hn => by
    obtain ⟨b, off, e, hlt, hc⟩ := h.2 hn
    exact ⟨b, off, e, Nat.lt_of_lt_of_le hlt hb.size, fun i p hp => ⟨(hb.cell (p := ⟨b, off + i * 2, none⟩) hlt).trans (hc i p hp).1, (hb.cell (p := ⟨b, off + i * 2 + 1, none⟩) hlt).trans (hc i p hp).2⟩⟩⟩
theorem puts_of {w : World} {A : Option Addr} {n : Nat} {rows : List (List Value)} (hg : Grid w A n (Sh.size shP) rows) (hr : ∀ r ∈ rows, Reads w shP r) : ∃ ps : Puts, PutsAt w A n ps ∧ (∀ p ∈ ps, p.2 < 256) ∧ ∀ p ∈ ps, -9223372036854775808 ≤ p.1 ∧ p.1 ≤ 9223372036854775807 := by
  have hx : ∃ ps : Puts, rows = ps.map (fun p => [Value.int .i64 p.1, Value.int .u8 (p.2 : Int)]) ∧ (∀ p ∈ ps, p.2 < 256) ∧ ∀ p ∈ ps, -9223372036854775808 ≤ p.1 ∧ p.1 ≤ 9223372036854775807 := by
    clear hg
    induction rows with
    | nil => exact ⟨[], rfl, (fun x hx => by cases hx), (fun x hx => by cases hx)⟩
    | cons r rs ih =>
      obtain ⟨xs, rfl, hx, hy⟩ := ih (fun r hr' => hr r (by simp [hr']))
      obtain ⟨_, _, rfl, ⟨m, rfl, hm⟩, _, _, rfl, ⟨l, rfl, hl⟩, rfl⟩ := hr r (by simp)
      have hb := bounds_u8 hl
      have hm := bounds_i64 hm
      refine ⟨(m, l.toNat) :: xs, ?_, fun y hy => ?_, fun y hy' => ?_⟩
      · simp only [List.map_cons]
        rw [Int.toNat_of_nonneg hb.1]
        rfl
      · rcases List.mem_cons.1 hy with rfl | hy
        · show l.toNat < 256
          omega
        · exact hx y hy
      · rcases List.mem_cons.1 hy' with rfl | hy'
        · exact hm
        · exact hy y hy'
  obtain ⟨ps, rfl, hx, hy⟩ := hx
  refine ⟨ps, ⟨by simpa using hg.1, fun hn => ?_⟩, hx, hy⟩
  obtain ⟨b, off, e, hb, hc⟩ := hg.2 hn
  refine ⟨b, off, e, hb, fun i p hp => ?_⟩
  have hi : i < n := by have := (List.getElem?_eq_some_iff.1 hp).1; have := hg.1; simp at this; omega
  have h0 := hc i 0 hi (by show 0 < 2; omega)
  have h1 := hc i 1 hi (by show 1 < 2; omega)
  rw [List.getElem?_map, hp] at h0 h1
  have e0 : off + (i * Sh.size shP + 0) = off + i * 2 := rfl
  have e1 : off + (i * Sh.size shP + 1) = off + i * 2 + 1 := rfl
  rw [e0] at h0
  rw [e1] at h1
  exact ⟨h0, h1⟩
end Go.Proofs.Ytfolciibgdilcaa.Ly24
