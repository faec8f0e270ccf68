/- The contracts of package word's mask, Bits, Parity, and of the statements' helper Bools. -/
import Derived.Test.YtnbcegijncdmaaaDoorArgs
import Derived.Test.YtnbcegijncdmaaaDoorObj
import Derived.Test.YtnbcegijncdmaaaDoorRows
import Derived.WalkKit
import Derived.ProofKit
import Derived.OpenShut
import Derived.WalkLawsBesides
import Derived.WalkSpells
import Derived.Handy
import Derived.Lib.Hide
import Derived.Laws.BitsAllLaws
namespace Go.Proofs.YtnbcegijncdmaaaDoor.Ly2
open Go.ChangeShapes Go.WideShapes Go.ChangeAt Go.RowKit Base
set_option linter.unusedVariables false
set_option linter.unusedSimpArgs false

theorem info_bool : (Tryd.prog.info? 4).map (fun i => (i.zero, i.size, i.bytes)) = some (some (.bool false), 1, 1) := by kernel_rfl

/-- A bit of a word, the highest one first. -/
def wbit (v k : Nat) : Bool := v / 2 ^ (7 - k) % 2 == 1
def wbits (v : Nat) : List Bool := (List.range 8).map (wbit v)
def bitsOf (vs : List Nat) : List Bool := vs.flatMap wbits
theorem wbits_len (v : Nat) : (wbits v).length = 8 := by simp [wbits]
theorem bitsOf_len (vs : List Nat) : (bitsOf vs).length = 8 * vs.length := by
  induction vs with
  | nil => rfl
  | cons b r ih => simp only [bitsOf, List.flatMap_cons, List.length_append, wbits_len, List.length_cons] at ih ⊢; omega
theorem bitsOf_snoc (vs : List Nat) (k : Nat) (hk : k < vs.length) : bitsOf (vs.take (k + 1)) = bitsOf (vs.take k) ++ wbits vs[k] := by
  unfold bitsOf
  rw [List.take_succ_eq_append_getElem hk, List.flatMap_append, List.flatMap_cons, List.flatMap_nil, List.append_nil]
theorem bitsOf_app (a b : List Nat) : bitsOf (a ++ b) = bitsOf a ++ bitsOf b := by simp [bitsOf]
theorem wbits_snoc (v : Nat) (j : Nat) (hj : j < 8) : (wbits v).take (j + 1) = (wbits v).take j ++ [wbit v j] := by
  rw [List.take_succ_eq_append_getElem (by rw [wbits_len]; exact hj)]
  simp [wbits]

theorem mask_at (j : Nat) (w : World) (hj : j < 8) : Calls Tryd.prog 91 #[.int .i64 j] w fun e w' => e = .returned (.int .u8 ((2 ^ (7 - j) : Nat) : Int)) ∧ w = w' := by
  rcases (show j = 0 ∨ j = 1 ∨ j = 2 ∨ j = 3 ∨ j = 4 ∨ j = 5 ∨ j = 6 ∨ j = 7 by omega) with rfl | rfl | rfl | rfl | rfl | rfl | rfl | rfl
  all_goals
    go_enter Tryd.func91, Tryd.ntmps91
    go_wp2
    go_ret
    exact ⟨rfl, rfl⟩
theorem mask_c (j : Nat) (m : Int) (hm : ((2 ^ (7 - j) : Nat) : Int) = m) (w : World) (hj : j < 8) : Calls Tryd.prog 91 #[.int .i64 j] w fun e w' => e = .returned (.int .u8 m) ∧ w = w' := by
  subst hm; exact mask_at j w hj
theorem u8_bit (v j : Nat) (hv : v < 256) (hj : j < 8) : ∃ z : Int, Go.bits BinOp.and IntKind.u8 (v : Int) ((2 ^ (7 - j) : Nat) : Int) = z ∧ (z != 0) = wbit v j := by
  have hp : 2 ^ (7 - j) < 256 := by rcases (show j = 0 ∨ j = 1 ∨ j = 2 ∨ j = 3 ∨ j = 4 ∨ j = 5 ∨ j = 6 ∨ j = 7 by omega) with rfl | rfl | rfl | rfl | rfl | rfl | rfl | rfl <;> decide
  have hp0 : 0 < 2 ^ (7 - j) := Nat.pow_pos (by decide)
  refine ⟨_, u8_and_nat v (2 ^ (7 - j)) hv hp, ?_⟩
  rw [nat_bit]
  unfold wbit
  generalize 2 ^ (7 - j) = p at hp0
  rcases Nat.mod_two_eq_zero_or_one (v / p) with h | h <;> rw [h]
  · simp
  · simp; omega

/-- What the loop over the words knows, behind k of them. -/
def WRel (w : World) (vs : List Nat) (v i : Value) (wr : World) : Prop :=
  ∃ k : Nat, k ≤ vs.length ∧ i = .int .i64 k ∧ wr.ownsRow w.heap.size 4 1 v (8 * k) ((bitsOf (vs.take k)).map Value.bool) ∧ Below w.heap.size w wr
/-- What the loop over the bits of a word knows, behind j of them. -/
def TRel (w : World) (vs : List Nat) (k : Nat) (b : Nat) (v i : Value) (wr : World) : Prop :=
  ∃ j : Nat, j ≤ 8 ∧ i = .int .i64 j ∧ wr.ownsRow w.heap.size 4 1 v (8 * k + j) ((bitsOf (vs.take k) ++ (wbits b).take j).map Value.bool) ∧ Below w.heap.size w wr
theorem trel_start {w wr : World} {vs : List Nat} {k : Nat} {b : Nat} {v : Value} (h : wr.ownsRow w.heap.size 4 1 v (8 * k) ((bitsOf (vs.take k)).map Value.bool)) (hb : Below w.heap.size w wr) :
    TRel w vs k b v (.int .i64 0) wr := ⟨0, by omega, rfl, by simpa using h, hb⟩
theorem trel_step {w wr w1 : World} {vs : List Nat} {k j : Nat} {b : Nat} {v : Value} (hj : j < 8)
    (h : w1.ownsRow w.heap.size 4 1 v (8 * k + j + 1) ((bitsOf (vs.take k) ++ (wbits b).take j).map Value.bool ++ [Value.bool (wbit b j)])) (hb : Below w.heap.size w wr) (hb1 : Below w.heap.size wr w1) :
    TRel w vs k b v (.int .i64 ((j : Int) + 1)) w1 :=
  ⟨j + 1, by omega, by push_cast; rfl, by rw [wbits_snoc b j hj, ← List.append_assoc, List.map_append (l₁ := bitsOf _ ++ _)]; exact h, hb.trans hb1⟩
theorem trel_end {w wr : World} {vs : List Nat} {k : Nat} {v : Value} (hk : k < vs.length)
    (h : wr.ownsRow w.heap.size 4 1 v (8 * k + 8) ((bitsOf (vs.take k) ++ (wbits vs[k]).take 8).map Value.bool)) (hb : Below w.heap.size w wr) :
    WRel w vs v (.int .i64 ((k : Int) + 1)) wr :=
  ⟨k + 1, by omega, by push_cast; rfl, by rw [bitsOf_snoc vs k hk]; rw [List.take_of_length_le (l := wbits vs[k]) (by rw [wbits_len]; omega)] at h; exact h, hb⟩


/-- Is the number of ones odd? -/
def par (l : List Bool) : Bool := l.foldl (fun a b => a != b) false
theorem par_snoc (l : List Bool) (k : Nat) (hk : k < l.length) : par (l.take (k + 1)) = (par (l.take k) != l[k]) := by
  unfold par
  rw [List.take_succ_eq_append_getElem hk, List.foldl_append]; rfl
theorem par_app (a b : List Bool) : par (a ++ b) = (par a != par b) := by
  unfold par
  have aux : ∀ (l : List Bool) (x : Bool), l.foldl (fun a b => a != b) x = (x != l.foldl (fun a b => a != b) false) := by
    intro l
    induction l with
    | nil => intro x; simp
    | cons y r ih => intro x; simp only [List.foldl]; rw [ih, ih (false != y)]; cases x <;> cases y <;> simp
  rw [List.foldl_append, aux]


end Go.Proofs.YtnbcegijncdmaaaDoor.Ly2
