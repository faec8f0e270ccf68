/- Arrays by value held against one another; no condition. -/
import Derived.Test.YtanhblokhcaoiaaDoorArgs
import Derived.ChangeKeysEq
namespace Go.Proofs.YtanhblokhcaoiaaDoor.Base
open Go.ChangeShapes Go.WideShapes Go.ChangeAt Go.RowKit
set_option linter.unusedVariables false
set_option linter.unusedSimpArgs false

theorem eqItems_arr {P : Program} (w : World) (d : Nat) {e : TypeId} (he : P.plainKey e = true) (xs ys : Array Value) (f g : Nat → Value) (q : Nat → Bool) (h : ∀ i, (Op.equalIn d e (f i) (g i)).run P w = .ok (q i) w) :
    ∀ (is : List Nat), (∀ i ∈ is, xs[i]? = some (f i) ∧ ys[i]? = some (g i)) → (Op.eqItems d e 1 xs ys is).run P w = .ok (is.all q) w
  | [], _ => by simp [Op.eqItems]
  | i :: is, hx => by
    obtain ⟨h1, h2⟩ := hx i (by simp)
    have ih := eqItems_arr w d he xs ys f g q h is (fun j hj => hx j (by simp [hj]))
    simp only [Op.eqItems, Sem.run_bind, Nat.mul_one, run_part_plain w he h1, run_part_plain w he h2, Result.andThen_ok, h i, List.all_cons]
    cases q i
    · simp
    · simpa using ih
theorem eql_arr {P : Program} (w : World) {t e : TypeId} {n : Nat} {i : TypeInfo} (hu : P.underlying t = some (.array n e)) (hi : P.info? e = some i) (hc : P.cellsOf e = 1) (he : P.plainKey e = true) (xs ys : Array Value) (f g : Nat → Value) (q : Nat → Bool)
    (hx : ∀ i, i < n → xs[i]? = some (f i) ∧ ys[i]? = some (g i)) (h : ∀ i, (Op.equalIn 9999 e (f i) (g i)).run P w = .ok (q i) w) :
    (binOp .eql t (.agg xs) (.agg ys)).run P w = .ok (.bool ((List.range n).all q)) w := by
  rw [run_eql_struct, show (10000 : Nat) = 9999 + 1 from rfl, run_equalIn_array w 9999 _ _ hu hi, hc, eqItems_arr w 9999 he _ _ f g q h (List.range n) (fun i hi => hx i (List.mem_range.1 hi))]
  rfl
/-- Two ints. -/
theorem eql_two {P : Program} (w : World) {t e : TypeId} {i : TypeInfo} (hu : P.underlying t = some (.array 2 e)) (hi : P.info? e = some i) (hc : P.cellsOf e = 1) (he : P.plainKey e = true) (hk : P.underlying e = some (.int .i64)) (a b c d : Int) :
    (binOp .eql t (.agg #[.int .i64 a, .int .i64 b]) (.agg #[.int .i64 c, .int .i64 d])).run P w = .ok (.bool (a == c && b == d)) w := by
  rw [eql_arr w hu hi hc he _ _ (fun i => .int .i64 (if i = 0 then a else b)) (fun i => .int .i64 (if i = 0 then c else d)) (fun i => (if i = 0 then a else b) == (if i = 0 then c else d)) (fun i hi => by
    rcases (show i = 0 ∨ i = 1 by omega) with rfl | rfl
    · exact ⟨rfl, rfl⟩
    · exact ⟨rfl, rfl⟩) (fun i => run_equalIn_int w 9998 e .i64 .i64 _ _ hk)]
  simp [List.range_succ]
end Go.Proofs.YtanhblokhcaoiaaDoor.Base
