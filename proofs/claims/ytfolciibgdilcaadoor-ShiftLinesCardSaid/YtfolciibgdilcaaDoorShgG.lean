/- The document's looks as a row of one's own; what stays when something else is written; no condition. -/
import Derived.Test.YtfolciibgdilcaaDoorShgF
import Derived.Test.YtfolciibgdilcaaDoorPush
import Derived.Test.YtfolciibgdilcaaDoorSh
namespace Go.Proofs.YtfolciibgdilcaaDoor.Ly15
open Go.ChangeShapes Go.WideShapes Go.ChangeAt Go.RowKit Base Ly3 Go.WideMaps Go.WideElems Go.Maps
set_option linter.unusedVariables false
set_option linter.unusedSimpArgs false

abbrev TL : TypeId := 31
def lkC (p : Lk) : List Value := [.int .i64 p.1, .bool p.2.1, .int .i64 (p.2.2 : Int)]
def lksC (ls : List Lk) : List Value := ls.flatMap lkC
theorem lksC_snoc (ls : List Lk) (p : Lk) : lksC (ls ++ [p]) = lksC ls ++ lkC p := by unfold lksC; rw [List.flatMap_append]; simp
theorem lksC_at : ∀ (ls : List Lk) (i k : Nat) (hi : i < ls.length) (hk : k < 3), (lksC ls)[i * 3 + k]? = (lkC (ls[i]'hi))[k]?
  | [], i, k, hi, _ => by simp at hi
  | p :: ls, 0, k, _, hk => by
    show (lkC p ++ lksC ls)[0 * 3 + k]? = _
    rw [Nat.zero_mul, Nat.zero_add, List.getElem?_append_left (by simpa [lkC] using hk)]
    rfl
  | p :: ls, i + 1, k, hi, hk => by
    show (lkC p ++ lksC ls)[(i + 1) * 3 + k]? = _
    rw [List.getElem?_append_right (by simp [lkC]; omega), show (i + 1) * 3 + k - (lkC p).length = i * 3 + k by simp [lkC]; omega]
    exact lksC_at ls i k (by simpa using hi) hk
theorem looks_own {w : World} {base : Nat} {v : Value} {ls : List Lk} (h : w.ownsRow base TL 3 v ls.length (lksC ls)) : ∃ A c, v = .slice A ls.length c ∧ ls.length ≤ c ∧ LooksAt w A ls.length ls := by
  rcases h.2 with ⟨rfl, h0⟩ | ⟨g, cap, cur, rfl, hb, hg, hnc, hcm, hcs, htake⟩
  · exact ⟨none, 0, by rw [h0], by omega, rfl, fun h => by omega⟩
  · refine ⟨_, cap, rfl, hnc, rfl, fun hn => ⟨g, 0, rfl, (Array.getElem?_eq_some_iff.1 hg).1, fun i p hp => ?_⟩⟩
    obtain ⟨hi, rfl⟩ := List.getElem?_eq_some_iff.1 hp
    have hc : ∀ k, k < 3 → w.cell? ⟨g, 0 + (i * 3 + k), none⟩ = (lkC ls[i])[k]? := fun k hk => by
      rw [← lksC_at ls i k hi hk, ← htake, Nat.zero_add, List.getElem?_take_of_lt (by omega)]
      simp [World.cell?, hg]
    exact ⟨hc 0 (by omega), hc 1 (by omega), hc 2 (by omega)⟩
theorem info_l : (Tryd.prog.info? TL).map (fun i => (i.zero, i.size, i.bytes)) = some (some (.agg #[.int .i64 0, .bool false, .int .i64 0]), 3, 24) := by kernel_rfl
theorem ShF.touch {w w' : World} {b g : Nat} {m : Bool} {n : Int} {f : Nat → Bool} (h : ShF w b m n f) (ht : Wrote g w w') (hne : b ≠ g) : ShF w' b m n f := by
  obtain ⟨cs, h, r⟩ := h
  exact ⟨cs, h.touch ht hne, r⟩
theorem ShF.grown {w w' : World} {b : Nat} {m : Bool} {n : Int} {f : Nat → Bool} {row : Option Nat} (h : ShF w b m n f) (ht : w.grownBy w' row) (hne : some b ≠ row) : ShF w' b m n f := by
  obtain ⟨cs, h, r⟩ := h
  exact ⟨cs, (ht.block b h.lt hne).trans h, r⟩
theorem SeenAt.grown {w w' : World} {g n z : Nat} {f : Nat → Bool} {row : Option Nat} (h : SeenAt w g n f z) (hg : w.grownBy w' row) (hne : some g ≠ row) : SeenAt w' g n f z := by
  obtain ⟨D, h, r⟩ := h
  exact ⟨D, h.kept hg hne, r⟩
theorem SeenAt.mono {w : World} {g n n' z : Nat} {f : Nat → Bool} (h : SeenAt w g n f z) (hn : n ≤ n') : SeenAt w g n' f z := by
  obtain ⟨D, h, r⟩ := h
  exact ⟨D, h.mono hn, r⟩
theorem SeenAt.made {w : World} {z : Nat} : SeenAt (w.alloc (.map #[] 0)) w.heap.size 0 (fun _ => false) z := by
  refine ⟨.map [], World.ownsMap_made _ _ _ _, fun m hm y => rfl, ?_⟩
  have : ∀ k, seenN (fun _ => false) k = 0 := fun k => by
    induction k with
    | zero => rfl
    | succ k ih => unfold seenN; rw [ih]; simp
  rw [this]
  rfl
/-- What lies there behind j looks. -/
structure SL (w : World) (gs gm base n z : Nat) (v : Value) (j : Nat) (ls : List Lk) (f : Nat → Bool) (wr : World) : Prop where
  sh : ShF wr gs true n f
  holds : Holds f ls
  small : ∀ p ∈ ls, p.2.2 < 256
  len : ls.length ≤ j
  own : wr.ownsRow base TL 3 v ls.length (lksC ls)
  seen : SeenAt wr gm j f z
  bel : Below w.heap.size w wr
  size : base ≤ wr.heap.size
theorem SL.kept {w wr w' : World} {gs gm base n z j : Nat} {v : Value} {ls : List Lk} {f : Nat → Bool} (h : SL w gs gm base n z v j ls f wr) (hb : Below wr.heap.size wr w') : SL w gs gm base n z v j ls f w' where
  sh := h.sh.kept hb
  holds := h.holds
  small := h.small
  len := h.len
  own := own_below h.own (hb.mono (Nat.le_refl _))
  seen := by
    obtain ⟨D, ho, r⟩ := h.seen
    exact ⟨D, ho.kept (row := none) ⟨hb.os, hb.tape, hb.output, hb.size, fun i hi _ => hb.block i hi⟩ (by simp), r⟩
  bel := h.bel.trans (hb.mono h.bel.size)
  size := Nat.le_trans h.size hb.size
end Go.Proofs.YtfolciibgdilcaaDoor.Ly15
