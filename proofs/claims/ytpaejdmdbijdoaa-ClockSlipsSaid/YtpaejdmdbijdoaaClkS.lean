/- The contracts of package clock's Slips, and of the document's own: whether slips may be, tick by tick. -/
import Derived.Test.YtpaejdmdbijdoaaClkC
namespace Go.Proofs.Ytpaejdmdbijdoaa.Ly5
open Go.ChangeShapes Go.WideShapes Go.ChangeAt Go.RowKit Base
set_option linter.unusedVariables false
set_option linter.unusedSimpArgs false

/-- Whether the first k slips may be. -/
def OkTo (l : List Int) (gap : Int) (k : Nat) : Prop := ∀ i, i < k → (-1 ≤ l.getD i 0 ∧ l.getD i 0 ≤ 1) ∧ ∀ j, j < i → l.getD i 0 ≠ 0 → l.getD j 0 ≠ 0 → gap ≤ (i : Int) - j
/-- The last slip of the first k. -/
def LastAt (l : List Int) (k : Nat) (last : Int) : Prop := (last = -1 ∧ ∀ j, j < k → l.getD j 0 = 0) ∨ ∃ j : Nat, last = j ∧ j < k ∧ l.getD j 0 ≠ 0 ∧ ∀ i, j < i → i < k → l.getD i 0 = 0
theorem okTo_zero (l : List Int) (gap : Int) : OkTo l gap 0 := fun i h => by omega
theorem lastAt_zero (l : List Int) : LastAt l 0 (-1) := .inl ⟨rfl, fun j h => by omega⟩
theorem okTo_mono {l : List Int} {gap : Int} {k n : Nat} (h : OkTo l gap n) (hk : k ≤ n) : OkTo l gap k := fun i hi => h i (by omega)
theorem lastAt_bd {l : List Int} {k : Nat} {x : Int} (h : LastAt l k x) : -1 ≤ x ∧ x < k := by
  rcases h with ⟨rfl, _⟩ | ⟨j, rfl, hj, _⟩ <;> omega
theorem not_out {l : List Int} {gap : Int} {k n : Nat} (hk : k < n) (h : l.getD k 0 < -1 ∨ 1 < l.getD k 0) : ¬ OkTo l gap n := fun g => by have := (g k hk).1; omega
theorem step_zero {l : List Int} {gap x : Int} {k : Nat} (ho : OkTo l gap k) (hl : LastAt l k x) (h : l.getD k 0 = 0) : OkTo l gap (k + 1) ∧ LastAt l (k + 1) x := by
  refine ⟨fun i hi => ?_, ?_⟩
  · by_cases e : i = k
    · subst e; exact ⟨by omega, fun j hj h1 _ => absurd h h1⟩
    · exact ho i (by omega)
  · rcases hl with ⟨rfl, hz⟩ | ⟨j, rfl, hj, hn, hz⟩
    · exact .inl ⟨rfl, fun j hj => by
        by_cases e : j = k
        · subst e; exact h
        · exact hz j (by omega)⟩
    · exact .inr ⟨j, rfl, by omega, hn, fun i h1 h2 => by
        by_cases e : i = k
        · subst e; exact h
        · exact hz i h1 (by omega)⟩
theorem not_near {l : List Int} {gap x : Int} {k n : Nat} (hk : k < n) (hl : LastAt l k x) (h : l.getD k 0 ≠ 0) (h0 : 0 ≤ x) (h1 : (k : Int) - x < gap) : ¬ OkTo l gap n := fun g => by
  rcases hl with ⟨rfl, _⟩ | ⟨j, rfl, hj, hn, _⟩
  · omega
  · have := (g k hk).2 j hj h hn; omega
theorem step_far {l : List Int} {gap x : Int} {k : Nat} (ho : OkTo l gap k) (hl : LastAt l k x) (hb : -1 ≤ l.getD k 0 ∧ l.getD k 0 ≤ 1) (h : l.getD k 0 ≠ 0) (hf : x < 0 ∨ gap ≤ (k : Int) - x) : OkTo l gap (k + 1) ∧ LastAt l (k + 1) k := by
  refine ⟨fun i hi => ?_, .inr ⟨k, rfl, by omega, h, fun i h1 h2 => by omega⟩⟩
  by_cases e : i = k
  · subst e
    refine ⟨hb, fun j hj _ h2 => ?_⟩
    rcases hl with ⟨rfl, hz⟩ | ⟨j', rfl, hj', hn, hz⟩
    · exact absurd (hz j hj) h2
    · rcases Nat.lt_or_ge j' j with g | g
      · exact absurd (hz j g hj) h2
      · omega
  · exact ho i (by omega)

def SPost (l : List Int) (gap : Int) (n : Nat) (w : World) (e : Ending) (w' : World) : Prop := ∃ r, e = .returned (.bool r) ∧ (r = true ↔ OkTo l gap n) ∧ w = w'
theorem SPost.no {l : List Int} {gap : Int} {n : Nat} {w : World} (h : ¬ OkTo l gap n) : SPost l gap n w (.returned (.bool false)) w := ⟨false, rfl, by simp [h], rfl⟩
theorem SPost.yes {l : List Int} {gap : Int} {n : Nat} {w : World} (h : OkTo l gap n) : SPost l gap n w (.returned (.bool true)) w := ⟨true, rfl, by simp [h], rfl⟩
theorem getD_lt (l : List Int) (k : Nat) (h : k < l.length) : l.getD k 0 = l[k] := by simp [List.getD_eq_getElem?_getD, h]

def SRel (l : List Int) (gap : Int) (n : Nat) (last i : Value) : Prop := ∃ (k : Nat) (x : Int), k ≤ n ∧ i = .int .i64 k ∧ last = .int .i64 x ∧ OkTo l gap k ∧ LastAt l k x

set_option maxHeartbeats 1000000 in
theorem slips_any (A : Option Addr) (n c : Nat) (l : List Int) (gap : Int) (w : World) (hl : Lst w A n (l.map (Value.int .i64))) (hn : n ≤ 1000000) (hg0 : -9223372036854775808 ≤ gap) (hg1 : gap ≤ 9223372036854775807) :
    Calls Try.prog 34 #[.slice A n c, .int .i64 gap] w (SPost l gap n w) := by
  have hln : l.length = n := by simpa using hl.1
  have HLN := Lib.hid hln
  clear hln
  go_enter Try.func34, Try.ntmps34
  go_wp2
  go_loop [5, 10] (fun last i => SRel l gap n last i) (fun _ i => n - (intOf i).toNat)
  case atStart => exact ⟨0, -1, by omega, rfl, rfl, okTo_zero _ _, lastAt_zero _⟩
  case round =>
    obtain ⟨k, x, hk, rfl, rfl, ho, hla⟩ := hrel
    have hxb := lastAt_bd hla
    obtain ⟨x0, x1⟩ := hxb
    have HO := Lib.hid ho
    have HLA := Lib.hid hla
    clear ho hla
    by_cases hlt : k < n
    · obtain ⟨b, off, rfl, _, hc⟩ := hl.get hlt
      rw [List.getElem_map] at hc
      obtain ⟨v, HV⟩ : ∃ v, Hid (l.getD k 0 = v) := ⟨_, rfl⟩
      have e : l[k]'(by rw [HLN.out]; exact hlt) = v := by rw [← getD_lt]; exact HV.out
      rw [e] at hc
      clear e
      rcases (show v < -1 ∨ (-1 ≤ v ∧ 1 < v) ∨ v = 0 ∨ (v ≠ 0 ∧ -1 ≤ v ∧ v ≤ 1) by omega) with g | ⟨g, g1⟩ | rfl | ⟨g, g1, g2⟩
      · have HN := Lib.hid (not_out (gap := gap) hlt (.inl (by rw [HV.out]; exact g)))
        go_wp2
        go_ret
        exact SPost.no HN.out
      · have HN := Lib.hid (not_out (gap := gap) hlt (.inr (by rw [HV.out]; exact g1)))
        go_wp2
        go_ret
        exact SPost.no HN.out
      · have HN := Lib.hid (step_zero HO.out HLA.out HV.out)
        go_wp2
        go_round
        case rel => exact ⟨k + 1, x, by omega, by go_num, rfl, HN.out.1, HN.out.2⟩
        case measure => simp [intOf]; omega
      · have g' : (v == 0) = false := by simpa using g
        have hne : l.getD k 0 ≠ 0 := by rw [HV.out]; exact g
        have HNE := Lib.hid hne
        clear hne g
        rcases (show x < 0 ∨ (0 ≤ x ∧ (k : Int) - x < gap) ∨ (0 ≤ x ∧ gap ≤ (k : Int) - x) by omega) with q | ⟨q, q1⟩ | ⟨q, q1⟩
        · have HN := Lib.hid (step_far HO.out HLA.out (by rw [HV.out]; exact ⟨g1, g2⟩) HNE.out (.inl q))
          go_wp2
          go_round
          case rel => exact ⟨k + 1, k, by omega, by go_num, rfl, HN.out.1, HN.out.2⟩
          case measure => simp [intOf]; omega
        · have HN := Lib.hid (not_near hlt HLA.out HNE.out q q1)
          go_wp2
          go_ret
          exact SPost.no HN.out
        · have HN := Lib.hid (step_far HO.out HLA.out (by rw [HV.out]; exact ⟨g1, g2⟩) HNE.out (.inr q1))
          go_wp2
          go_round
          case rel => exact ⟨k + 1, k, by omega, by go_num, rfl, HN.out.1, HN.out.2⟩
          case measure => simp [intOf]; omega
    · obtain rfl : k = n := by omega
      go_wp2
      go_ret
      exact SPost.yes HO.out
end Go.Proofs.Ytpaejdmdbijdoaa.Ly5
