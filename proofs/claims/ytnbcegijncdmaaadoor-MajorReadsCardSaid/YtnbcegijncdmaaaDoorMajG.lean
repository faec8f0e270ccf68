/- The document's looks as a row of one's own, beside a shift; the states of the loop that tells what each line says; no condition. -/
import Derived.Test.YtnbcegijncdmaaaDoorMajF
import Derived.Test.YtnbcegijncdmaaaDoorShgE
import Derived.Test.YtnbcegijncdmaaaDoorWrdE
import Derived.Test.YtnbcegijncdmaaaDoorPush
import Derived.Test.YtnbcegijncdmaaaDoorPushG
import Derived.Test.YtnbcegijncdmaaaDoorSh
import Derived.Test.YtnbcegijncdmaaaDoorRegL
namespace Go.Proofs.YtnbcegijncdmaaaDoor.Ly16
open Go.ChangeShapes Go.WideShapes Go.ChangeAt Go.RowKit Base Ly3 Ly2 Ly15
set_option linter.unusedVariables false
set_option linter.unusedSimpArgs false

abbrev TL : TypeId := 56
def lkC (p : Lk) : List Value := [.int .i64 p.1, .bool p.2.1, .int .i64 (p.2.2 : Int)]
def lksC (ls : List Lk) : List Value := ls.flatMap lkC
theorem lksC_snoc (ls : List Lk) (p : Lk) : lksC (ls ++ [p]) = lksC ls ++ lkC p := by unfold lksC; rw [List.flatMap_append]; simp
theorem lksC_at : ∀ (ls : List Lk) (i k : Nat) (hi : i < ls.length) (hk : k < 3), (lksC ls)[i * 3 + k]? = (lkC (ls[i]'hi))[k]?
  | [], i, k, hi, _ => by simp at hi
  | p :: ls, 0, k, _, hk => by
    show (lkC p ++ lksC ls)[0 * 3 + k]? = _
    rw [Nat.zero_mul, Nat.zero_add, List.getElem?_append_left (by simpa [lkC] using hk)]
    rfl
  | p :: ls, i + 1, k, hi, hk => by
    show (lkC p ++ lksC ls)[(i + 1) * 3 + k]? = _
    rw [List.getElem?_append_right (by simp [lkC]; omega), show (i + 1) * 3 + k - (lkC p).length = i * 3 + k by simp [lkC]; omega]
    exact lksC_at ls i k (by simpa using hi) hk
theorem looks_own {w : World} {base : Nat} {v : Value} {ls : List Lk} (h : w.ownsRow base TL 3 v ls.length (lksC ls)) : ∃ A c, v = .slice A ls.length c ∧ ls.length ≤ c ∧ LooksAt w A ls.length ls := by
  rcases h.2 with ⟨rfl, h0⟩ | ⟨g, cap, cur, rfl, hb, hg, hnc, hcm, hcs, htake⟩
  · exact ⟨none, 0, by rw [h0], by omega, rfl, fun h => by omega⟩
  · refine ⟨_, cap, rfl, hnc, rfl, fun hn => ⟨g, 0, rfl, (Array.getElem?_eq_some_iff.1 hg).1, fun i p hp => ?_⟩⟩
    obtain ⟨hi, rfl⟩ := List.getElem?_eq_some_iff.1 hp
    have hc : ∀ k, k < 3 → w.cell? ⟨g, 0 + (i * 3 + k), none⟩ = (lkC ls[i])[k]? := fun k hk => by
      rw [← lksC_at ls i k hi hk, ← htake, Nat.zero_add, List.getElem?_take_of_lt (by omega)]
      simp [World.cell?, hg]
    exact ⟨hc 0 (by omega), hc 1 (by omega), hc 2 (by omega)⟩
theorem info_l : (Tryd.prog.info? TL).map (fun i => (i.zero, i.size, i.bytes)) = some (some (.agg #[.int .i64 0, .bool false, .int .i64 0]), 3, 24) := by kernel_rfl
theorem ShF.touch {w w' : World} {b g : Nat} {m : Bool} {n : Int} {f : Nat → Bool} (h : ShF w b m n f) (ht : Wrote g w w') (hne : b ≠ g) : ShF w' b m n f := by
  obtain ⟨cs, h, r⟩ := h
  exact ⟨cs, h.touch ht hne, r⟩
theorem ShF.grown {w w' : World} {b : Nat} {m : Bool} {n : Int} {f : Nat → Bool} {row : Option Nat} (h : ShF w b m n f) (ht : w.grownBy w' row) (hne : some b ≠ row) : ShF w' b m n f := by
  obtain ⟨cs, h, r⟩ := h
  exact ⟨cs, (ht.block b h.lt hne).trans h, r⟩
/-- What lies there behind j looks. -/
structure SL (w : World) (gs base n : Nat) (v : Value) (j : Nat) (ls : List Lk) (f : Nat → Bool) (wr : World) : Prop where
  sh : ShF wr gs true n f
  holds : Holds f ls
  small : ∀ p ∈ ls, p.2.2 < 256
  len : ls.length ≤ j
  own : wr.ownsRow base TL 3 v ls.length (lksC ls)
  bel : Below w.heap.size w wr
  size : base ≤ wr.heap.size
theorem SL.kept {w wr w' : World} {gs base n j : Nat} {v : Value} {ls : List Lk} {f : Nat → Bool} (h : SL w gs base n v j ls f wr) (hb : Below wr.heap.size wr w') : SL w gs base n v j ls f w' where
  sh := h.sh.kept hb
  holds := h.holds
  small := h.small
  len := h.len
  own := own_below h.own (hb.mono (Nat.le_refl _))
  bel := h.bel.trans (hb.mono h.bel.size)
  size := Nat.le_trans h.size hb.size
/-- What the lines said so far. -/
def stA (b0 b1 b2 b3 : Bool) (k : Nat) : Array Value := #[.bool (decide (0 < k) && b0), .bool (decide (1 < k) && b1), .bool (decide (2 < k) && b2), .bool (decide (3 < k) && b3)]
/-- So far all bits are known. -/
def allN (n : Nat) (f : Nat → Bool) (m : Nat) : Bool := decide (0 < n) && (List.range m).all (oN f)
theorem allN_succ (n : Nat) (f : Nat → Bool) (m : Nat) : allN n f (m + 1) = (allN n f m && oN f m) := by
  unfold allN
  rw [List.range_succ, List.all_append]
  simp [Bool.and_assoc]
theorem allN_true {n : Nat} {f : Nat → Bool} {m : Nat} (h : allN n f m = true) : 0 < n ∧ ∀ k, k < m → oN f k = true := by
  unfold allN at h
  simp at h
  exact h
theorem allN_false {n : Nat} {f : Nat → Bool} {m : Nat} (h : allN n f m = false) : n = 0 ∨ ∃ k, k < m ∧ oN f k = false := by
  unfold allN at h
  by_cases h0 : n = 0
  · exact .inl h0
  · have : 0 < n := by omega
    simp [this] at h
    exact .inr h
theorem oA_same {f : Nat → Bool} {m : Nat} (h : oN f m = false) : oA f m 0 = oA f (m + 1) 0 := by
  have e : ∀ k, oddB f k m = false := fun k => by unfold oddB; rw [h]; rfl
  rw [← oA_next, oA_off (e 3), oA_off (e 2), oA_off (e 1), oA_off (e 0)]
/-- Words that a call made, or none. -/
def NewW (s n : Nat) (xs : List Value) : Sp := fun v w => ∃ A c, v = .slice A n c ∧ Lst w A n xs
theorem NewW.stable (s n : Nat) (xs : List Value) : Stable (NewW s n xs) := fun v a b ⟨A, c, e, hl⟩ hb => ⟨A, c, e, hl.kept hb⟩
end Go.Proofs.YtnbcegijncdmaaaDoor.Ly16
