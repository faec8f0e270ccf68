/- Words of this proof's own on a struct that came by value and lies in a block of its own, in worlds in which all that was there is as it was; no condition. -/
import Derived.Test.YtkankdecbefenaaDoorKin
namespace Go.Proofs.YtkankdecbefenaaDoor.Base
open Go.ChangeShapes Go.WideShapes Go.ChangeAt Go.RowKit
set_option linter.unusedVariables false

theorem bcell {W w1 : World} (hb : Below W.heap.size W w1) : (∀ b o, b < W.heap.size → w1.cell? ⟨b, o, none⟩ = W.cell? ⟨b, o, none⟩) ∧ (∀ b o, b < W.heap.size → w1.frozen? ⟨b, o, none⟩ = W.frozen? ⟨b, o, none⟩) :=
  ⟨fun b o h => hb.cell (p := ⟨b, o, none⟩) h, fun b o h => hb.frozen (p := ⟨b, o, none⟩) h⟩
/-- What lies in the block that was made first is read in every world behind. -/
theorem Kin.box {w w1 : World} {cs : Array Value} {t : TypeId} (hb : Below (w.alloc (.cells cs t)).heap.size (w.alloc (.cells cs t)) w1) (x : Kin w1) (i : Nat) : x.world.cell? ⟨w.heap.size, i, none⟩ = cs[i]? := by
  have h1 : w.heap.size < (w.alloc (.cells cs t)).heap.size := by simp
  rw [x.cell _ _ (Nat.lt_of_lt_of_le h1 hb.size), hb.cell (p := ⟨w.heap.size, i, none⟩) h1, World.cell?_alloc_at _ _ _ _ rfl]
theorem Kin.box3 {w w1 : World} {a b c : Value} {t : TypeId} (hb : Below (w.alloc (.cells #[a, b, c] t)).heap.size (w.alloc (.cells #[a, b, c] t)) w1) :
    (∀ x : Kin w1, x.world.cell? ⟨w.heap.size, 0, none⟩ = some a) ∧ (∀ x : Kin w1, x.world.cell? ⟨w.heap.size, 1, none⟩ = some b) ∧ (∀ x : Kin w1, x.world.cell? ⟨w.heap.size, 2, none⟩ = some c) :=
  ⟨fun x => Kin.box hb x 0, fun x => Kin.box hb x 1, fun x => Kin.box hb x 2⟩
theorem Kin.box6 {w w1 : World} {a b c d e f : Value} {t : TypeId} (hb : Below (w.alloc (.cells #[a, b, c, d, e, f] t)).heap.size (w.alloc (.cells #[a, b, c, d, e, f] t)) w1) :
    (∀ x : Kin w1, x.world.cell? ⟨w.heap.size, 0, none⟩ = some a) ∧ (∀ x : Kin w1, x.world.cell? ⟨w.heap.size, 1, none⟩ = some b) ∧ (∀ x : Kin w1, x.world.cell? ⟨w.heap.size, 2, none⟩ = some c) ∧
    (∀ x : Kin w1, x.world.cell? ⟨w.heap.size, 3, none⟩ = some d) ∧ (∀ x : Kin w1, x.world.cell? ⟨w.heap.size, 4, none⟩ = some e) ∧ (∀ x : Kin w1, x.world.cell? ⟨w.heap.size, 5, none⟩ = some f) :=
  ⟨fun x => Kin.box hb x 0, fun x => Kin.box hb x 1, fun x => Kin.box hb x 2, fun x => Kin.box hb x 3, fun x => Kin.box hb x 4, fun x => Kin.box hb x 5⟩
/-- A cell of what was there ahead. -/
theorem Kin.far {w w1 : World} {b o : Nat} {v : Value} (h : w.cell? ⟨b, o, none⟩ = some v) (hb : Below w.heap.size w w1) (x : Kin w1) : x.world.cell? ⟨b, o, none⟩ = some v := by
  have hlt := World.block_lt_of_cell? w _ h
  exact Kin.at ((hb.cell (p := ⟨b, o, none⟩) hlt).trans h) x
theorem and_mask (x : Int) (m : Nat) (hm : m ≤ 4611686018427387904) : ∃ y : Int, 0 ≤ y ∧ y ≤ m ∧ Go.bits BinOp.and IntKind.i64 x m = y := by
  have h : (BitVec.ofInt 64 x &&& BitVec.ofInt 64 m).toNat ≤ m := by
    rw [BitVec.toNat_and]
    refine Nat.le_trans Nat.and_le_right ?_
    simp
    omega
  refine ⟨((BitVec.ofInt 64 x &&& BitVec.ofInt 64 m).toNat : Int), by omega, by omega, ?_⟩
  show IntKind.i64.wrap ((BitVec.ofInt 64 x &&& BitVec.ofInt 64 m).toNat : Int) = _
  generalize (BitVec.ofInt 64 x &&& BitVec.ofInt 64 m).toNat = z at h ⊢
  simp only [IntKind.wrap, IntKind.bits, IntKind.signed]
  simp
  omega
theorem Kin.ex {w w' : World} (h : Below w.heap.size w w') : ∃ x : Kin w, w' = x.world := ⟨⟨w', h⟩, rfl⟩
/-- What was there when the call began is as it was, where it made a block and then more. -/
theorem Kin.end1 {w : World} {o : Obj} (x : Kin (w.alloc o)) : Below w.heap.size w x.world := ((Below.refl _ _).alloc (Nat.le_refl _) _).trans (x.below.mono (by simp))
/-- A region as in 'wp_region_kin', where the world is already one of a class. -/
theorem wp_region_kin2 {P : Program} {id : Nat} {Q : Exit → Act → World → Prop} {a : Act} {w : World} {x : Kin w} {l : List Oper} (hm : P.follows .mixedOrders = true) (hB : Region.lexB .any l.toArray = true)
    (h : wpQuiet P l.toArray (fun w' => ∃ x : Kin w, w' = x.world) (fun a' => ∀ w', (∃ x : Kin w, w' = x.world) → Q .normal a' w') l a) : (Code.region id l.toArray true).wp P Q a x.world :=
  wp_region_quiet (C := fun w' => ∃ x : Kin w, w' = x.world) hm hB ⟨⟨_, x.below.drew⟩, rfl⟩ (by simpa using h)
end Go.Proofs.YtkankdecbefenaaDoor.Base
