/- The contracts of package cmd's numbers, with; no condition. -/
import Derived.Test.YthnopcoahcdjjaaCmdA
namespace Go.Proofs.Ythnopcoahcdjjaa.Ly9
open Go.ChangeShapes Go.WideShapes Go.ChangeAt Go.RowKit Base
set_option linter.unusedVariables false
set_option linter.unusedSimpArgs false

/-- The numbers of a command that count. -/
def nums (o a s c m b t : Int) : List Int := if o = 1 then [a, s, c, m] else if o = 2 then [a, s, m] else if o = 3 then [s, m] else if o = 4 then [b] else if o = 6 ∨ o = 8 then [t / 256, t % 256] else []
/-- A row of numbers in new memory, or none. -/
def NR (w w' : World) (A : Option Addr) (ns : List Int) : Prop := (ns = [] → A = none) ∧ (ns ≠ [] → ∃ g, A = some ⟨g, 0, none⟩ ∧ w.heap.size ≤ g ∧ Obj1 w' g 3 (ns.map (Value.int .i64)).toArray)
theorem and255 (t : Int) (h0 : 0 ≤ t) (h1 : t ≤ 1023) : Go.bits BinOp.and IntKind.i64 t 255 = t % 256 := by
  have key : ∀ n : Fin 1024, Go.bits BinOp.and IntKind.i64 ((n.1 : Nat) : Int) 255 = ((n.1 : Nat) : Int) % 256 := by decide +kernel
  obtain ⟨k, rfl⟩ : ∃ k : Nat, t = (k : Int) := ⟨t.toNat, by omega⟩
  exact key ⟨k, by omega⟩
theorem nr_new {w : World} {ns : List Int} {x : Obj} (hne : ns ≠ []) : NR w ((w.alloc x).alloc (.cells (ns.map (Value.int .i64)).toArray 3)) (some ⟨w.heap.size + 1, 0, none⟩) ns := by
  have e : (w.alloc x).heap.size = w.heap.size + 1 := by simp
  exact ⟨fun h => absurd h hne, fun _ => ⟨_, rfl, by omega, by rw [← e]; exact Obj1.new _ _ _⟩⟩
set_option maxHeartbeats 4000000 in
theorem numbers_any (o a s c m b t : Int) (w : World) (ht : (o = 6 ∨ o = 8) → 0 ≤ t ∧ t ≤ 1023) :
    Calls Try.prog 46 #[cv o a s c m b t] w fun e w' => ∃ A, e = .returned (.slice A (nums o a s c m b t).length (nums o a s c m b t).length) ∧ Hid (NR w w' A (nums o a s c m b t)) ∧ Hid (Below w.heap.size w w') := by
  obtain ⟨W, hW⟩ : ∃ W, W = w.alloc (.cells #[.int .i64 o, .int .i64 a, .int .i64 s, .int .i64 c, .int .i64 m, .int .i64 b, .int .i64 t] TC) := ⟨_, rfl⟩
  have HW := Lib.hid hW
  have hb : Below w.heap.size w W := by rw [hW]; exact (Below.refl _ _).alloc (Nat.le_refl _) _
  have HB := Lib.hid hb
  have hl : w.heap.size ≤ W.heap.size := hb.size
  clear hb hW
  have hf : (¬ o = 1 ∧ ¬ o = 2 ∧ ¬ o = 3 ∧ ¬ o = 4 ∧ ¬ o = 6 ∧ ¬ o = 8) → ((o == 1) = false ∧ (o == 2) = false ∧ (o == 3) = false ∧ (o == 4) = false ∧ (o == 6) = false ∧ (o == 8) = false) := by
    rintro ⟨h1, h2, h3, h4, h5, h6⟩
    simp [h1, h2, h3, h4, h5, h6]
  rcases (show o = 1 ∨ o = 2 ∨ o = 3 ∨ o = 4 ∨ o = 6 ∨ o = 8 ∨ (¬ o = 1 ∧ ¬ o = 2 ∧ ¬ o = 3 ∧ ¬ o = 4 ∧ ¬ o = 6 ∧ ¬ o = 8) by omega) with rfl | rfl | rfl | rfl | rfl | rfl | q
  case inr.inr.inr.inr.inr.inr =>
    obtain ⟨e1, e2, e3, e4, e6, e8⟩ := hf q
    have hn : nums o a s c m b t = [] := by
      unfold nums
      obtain ⟨h1, h2, h3, h4, h5, h6⟩ := q
      rw [if_neg h1, if_neg h2, if_neg h3, if_neg h4, if_neg (by omega)]
    rw [hn]
    clear hf q ht hn
    go_enter Try.func46, Try.ntmps46
    go_wp2
    go_ret
    exact ⟨none, rfl, Lib.hid ⟨fun _ => rfl, fun h => absurd rfl h⟩, by rw [← HW.out]; exact HB.out⟩
  case' inr.inr.inr.inr.inl =>
    obtain ⟨t0, t1⟩ := ht (.inl rfl)
    have ha := and255 t t0 t1
  case' inr.inr.inr.inr.inr.inl =>
    obtain ⟨t0, t1⟩ := ht (.inr rfl)
    have ha := and255 t t0 t1
  all_goals
    clear hf ht
    simp only [nums, Int.reduceEq, if_true, if_false, reduceIte, true_or, or_true]
    go_enter Try.func46, Try.ntmps46
    go_wp2
    go_ret
    refine ⟨_, rfl, Lib.hid (nr_new (List.cons_ne_nil _ _)), Lib.hid ?_⟩
    exact ((Below.refl _ _).alloc (Nat.le_refl _) _).alloc (by simp) _

/-- The command that has such numbers. -/
def wth (o : Int) (ns : List Int) : Value :=
  if o = 1 then cv o (ns.getD 0 0) (ns.getD 1 0) (ns.getD 2 0) (ns.getD 3 0) 0 0 else if o = 2 then cv o (ns.getD 0 0) (ns.getD 1 0) 0 (ns.getD 2 0) 0 0 else if o = 3 then cv o 0 (ns.getD 0 0) 0 (ns.getD 1 0) 0 0
  else if o = 4 then cv o 0 0 0 0 (ns.getD 0 0) 0 else if o = 6 ∨ o = 8 then cv o 0 0 0 0 0 (ns.getD 0 0 * 256 + ns.getD 1 0) else cv o 0 0 0 0 0 0
def cnt (o : Int) : Nat := if o = 1 then 4 else if o = 2 then 3 else if o = 3 then 2 else if o = 4 then 1 else if o = 6 ∨ o = 8 then 2 else 0
theorem nums_len (o a s c m b t : Int) : (nums o a s c m b t).length = cnt o := by
  unfold nums cnt
  split; rfl
  split; rfl
  split; rfl
  split; rfl
  split <;> rfl
theorem or8 (x y : Int) (h0 : 0 ≤ x) (h1 : x ≤ 255) (k0 : 0 ≤ y) (k1 : y ≤ 255) : Go.bits BinOp.or IntKind.i64 (x * 256) y = x * 256 + y := by
  obtain ⟨a, rfl⟩ : ∃ k : Nat, x = (k : Int) := ⟨x.toNat, by omega⟩
  obtain ⟨b, rfl⟩ : ∃ k : Nat, y = (k : Int) := ⟨y.toNat, by omega⟩
  have hb : b < 2 ^ 8 := by omega
  have h : (BitVec.ofInt 64 ((a : Int) * 256) ||| BitVec.ofInt 64 (b : Int)).toNat = a * 256 + b := by
    rw [BitVec.toNat_or]
    have e1 : (BitVec.ofInt 64 ((a : Int) * 256)).toNat = a * 256 := by simp; omega
    have e2 : (BitVec.ofInt 64 (b : Int)).toNat = b := by simp; omega
    rw [e1, e2]
    have := Nat.shiftLeft_add_eq_or_of_lt hb a
    rw [Nat.shiftLeft_eq] at this
    exact this.symm
  show IntKind.i64.wrap ((BitVec.ofInt 64 ((a : Int) * 256) ||| BitVec.ofInt 64 (b : Int)).toNat : Int) = _
  rw [h]
  simp only [IntKind.wrap, IntKind.bits, IntKind.signed]
  simp
  omega
end Go.Proofs.Ythnopcoahcdjjaa.Ly9
