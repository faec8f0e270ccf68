/- Words of this proof's own on an object that lies in a block of its own: what it holds, what a call that writes to it alone leaves. -/
import Derived.Test.YtkankdecbefenaaDoorKin
import Derived.Laws.AppendOwn
import Derived.Deep.Draws
import Derived.Lib.SmallJoins
namespace Go.Proofs.YtkankdecbefenaaDoor.Base
open Go.ChangeShapes Go.WideShapes Go.ChangeAt Go.RowKit
set_option linter.unusedVariables false

/-- Block b holds these cells, of which none is frozen. -/
def Obj1 (w : World) (b : Nat) (T : TypeId) (cs : Array Value) : Prop := w.heap[b]? = some (.cells cs T (0, 0))
/-- w' is as w was, but for what block b holds, and for new blocks. -/
def Wrote (b : Nat) (w w' : World) : Prop := w.grownBy w' (some b)

theorem Obj1.lt {w : World} {b : Nat} {T : TypeId} {cs : Array Value} (h : Obj1 w b T cs) : b < w.heap.size := by
  rcases Nat.lt_or_ge b w.heap.size with h' | h'
  · exact h'
  · unfold Obj1 at h; rw [Array.getElem?_eq_none h'] at h; cases h
theorem Obj1.cell {w : World} {b : Nat} {T : TypeId} {cs : Array Value} (h : Obj1 w b T cs) (i : Nat) : w.cell? ⟨b, i, none⟩ = cs[i]? := by unfold Obj1 at h; simp [World.cell?, h]
theorem Obj1.free {w : World} {b : Nat} {T : TypeId} {cs : Array Value} (h : Obj1 w b T cs) (i : Nat) : w.frozen? ⟨b, i, none⟩ = false := by unfold Obj1 at h; simp [World.frozen?, h]
theorem Obj1.new (w : World) (T : TypeId) (cs : Array Value) : Obj1 (w.alloc (.cells cs T)) w.heap.size T cs := by
  show (w.heap.push _)[w.heap.size]? = _
  simp
theorem Obj1.alloc {w : World} {b : Nat} {T : TypeId} {cs : Array Value} (h : Obj1 w b T cs) (o : Obj) : Obj1 (w.alloc o) b T cs := (Below.heap_alloc w o b h.lt).trans h
theorem Obj1.drew {w : World} {b : Nat} {T : TypeId} {cs : Array Value} (h : Obj1 w b T cs) : Obj1 w.drew b T cs := h
theorem Obj1.drewN {w : World} {b : Nat} {T : TypeId} {cs : Array Value} (h : Obj1 w b T cs) (n : Nat) : Obj1 (w.drewN n) b T cs := h
theorem Obj1.set {w : World} {b : Nat} {T : TypeId} {cs : Array Value} (h : Obj1 w b T cs) (i : Nat) (v : Value) : Obj1 (w.setCell ⟨b, i, none⟩ v) b T (cs.setIfInBounds i v) := Go.Joins.block_setCell h v
theorem Obj1.far {w : World} {b : Nat} {T : TypeId} {cs : Array Value} (h : Obj1 w b T cs) (p : Addr) (hp : b ≠ p.block) (v : Value) : Obj1 (w.setCell p v) b T cs := (Below.heap_setCell w p v b hp).trans h
theorem Obj1.below {w w' : World} {b B : Nat} {T : TypeId} {cs : Array Value} (h : Obj1 w b T cs) (hb : Below B w w') (hlt : b < B) : Obj1 w' b T cs := (hb.block b hlt).trans h
theorem Obj1.kept {w w' : World} {b : Nat} {T : TypeId} {cs : Array Value} (h : Obj1 w b T cs) (hb : Below w.heap.size w w') : Obj1 w' b T cs := h.below hb h.lt
theorem Obj1.touch {w w' : World} {b g : Nat} {T : TypeId} {cs : Array Value} (h : Obj1 w b T cs) (ht : Wrote g w w') (hne : b ≠ g) : Obj1 w' b T cs := (ht.block b h.lt (fun e => hne (Option.some.inj e))).trans h

theorem Wrote.refl (b : Nat) (w : World) : Wrote b w w := ⟨rfl, rfl, rfl, Nat.le_refl _, fun _ _ _ => rfl⟩
theorem Wrote.trans {b : Nat} {w w1 w2 : World} (h : Wrote b w w1) (k : Wrote b w1 w2) : Wrote b w w2 :=
  ⟨k.os.trans h.os, k.tape.trans h.tape, k.output.trans h.output, Nat.le_trans h.size k.size, fun i hi hne => (k.block i (Nat.lt_of_lt_of_le hi h.size) hne).trans (h.block i hi hne)⟩
theorem Wrote.alloc {b : Nat} {a w : World} (h : Wrote b a w) (o : Obj) : Wrote b a (w.alloc o) :=
  ⟨h.os, h.tape, h.output, Nat.le_trans h.size (by simp), fun i hi hne => (Below.heap_alloc w o i (Nat.lt_of_lt_of_le hi h.size)).trans (h.block i hi hne)⟩
theorem Wrote.drew {b : Nat} {a w : World} (h : Wrote b a w) : Wrote b a w.drew := ⟨h.os, h.tape, h.output, h.size, h.block⟩
theorem Wrote.drewN {b : Nat} {a w : World} (h : Wrote b a w) (n : Nat) : Wrote b a (w.drewN n) := ⟨h.os, h.tape, h.output, h.size, h.block⟩
theorem Wrote.set {b : Nat} {a w : World} (h : Wrote b a w) {p : Addr} (hp : p.block = b ∨ a.heap.size ≤ p.block) (u : Value) : Wrote b a (w.setCell p u) :=
  ⟨h.os, h.tape, h.output, by simpa [World.setCell] using h.size, fun i hi hne => (Below.heap_setCell w p u i (by
    rintro rfl
    rcases hp with hp | hp
    · exact hne (by rw [hp])
    · omega)).trans (h.block i hi hne)⟩
theorem Wrote.of_below {b : Nat} {a w : World} (h : Below a.heap.size a w) : Wrote b a w := ⟨h.os, h.tape, h.output, h.size, fun i hi _ => h.block i hi⟩
theorem Wrote.then {b : Nat} {a w w' : World} (h : Wrote b a w) (k : Below w.heap.size w w') : Wrote b a w' := h.trans (.of_below k)
theorem Wrote.below {b B : Nat} {a w : World} (h : Wrote b a w) (hB : B ≤ b) (hs : B ≤ a.heap.size) : Below B a w :=
  ⟨h.os, h.tape, h.output, h.size, fun k hk => h.block k (by omega) (fun e => by have := Option.some.inj e; omega)⟩
theorem Wrote.cell {b : Nat} {a w : World} (h : Wrote b a w) {b' o : Nat} (hlt : b' < a.heap.size) (hne : b' ≠ b) : w.cell? ⟨b', o, none⟩ = a.cell? ⟨b', o, none⟩ :=
  World.cell?_of_block (h.block b' hlt (fun e => hne (Option.some.inj e)))
theorem below_drewN' {B : Nat} {a w : World} (h : Below B a w) (n : Nat) : Below B a (w.drewN n) := ⟨h.os, h.tape, h.output, h.size, h.block⟩
theorem Lst.touch {w w' : World} {b : Nat} {A : Option Addr} {n : Nat} {xs : List Value} (h : Lst w A n xs) (ht : Wrote b w w') (hb : ∀ b' off, A = some ⟨b', off, none⟩ → b' ≠ b) : Lst w' A n xs :=
  ⟨h.1, fun hn => by
    obtain ⟨b', off, e, hlt, hc⟩ := h.2 hn
    exact ⟨b', off, e, Nat.lt_of_lt_of_le hlt ht.size, fun k hk => (ht.cell hlt (hb _ _ e)).trans (hc k hk)⟩⟩
end Go.Proofs.YtkankdecbefenaaDoor.Base
