/- The contracts of package store's Same and Clone, and of layer 13's closed example; no condition. -/
import Derived.Test.YthnopcoahcdjjaaStoB
import Derived.Test.YthnopcoahcdjjaaBox
import Derived.Test.YthnopcoahcdjjaaEvL
import Derived.ChangeKeysEq
import Derived.Deep.QuietTactic
namespace Go.Proofs.Ythnopcoahcdjjaa.Ly13
open Go.ChangeShapes Go.WideShapes Go.ChangeAt Go.RowKit Base
set_option linter.unusedVariables false
set_option linter.unusedSimpArgs false

theorem eqItems_cells {P : Program} (w : World) (d : Nat) {e : TypeId} (he : P.plainKey e = true) (xs ys : Array Value) (f g : Nat → Value) (q : Nat → Bool) (h : ∀ i, (Op.equalIn d e (f i) (g i)).run P w = .ok (q i) w) :
    ∀ (is : List Nat), (∀ i ∈ is, xs[i]? = some (f i) ∧ ys[i]? = some (g i)) → (Op.eqItems d e 1 xs ys is).run P w = .ok (is.all q) w
  | [], _ => by simp [Op.eqItems]
  | i :: is, hx => by
    obtain ⟨h1, h2⟩ := hx i (by simp)
    have ih := eqItems_cells w d he xs ys f g q h is (fun j hj => hx j (by simp [hj]))
    simp only [Op.eqItems, Sem.run_bind, Nat.mul_one, run_part_plain w he h1, run_part_plain w he h2, Result.andThen_ok, h i, List.all_cons]
    cases q i
    · simp
    · simpa using ih
def rowOf (f : Nat → Value) : List Value := (List.range 64).map f
theorem rowOf_get (f : Nat → Value) (i : Nat) (hi : i < 64) : (rowOf f)[i]? = some (f i) := by simp [rowOf, hi]
theorem eql_rows {P : Program} (w : World) {t e : TypeId} {i : TypeInfo} (hu : P.underlying t = some (.array 64 e)) (hi : P.info? e = some i) (hc : P.cellsOf e = 1) (he : P.plainKey e = true) (f g : Nat → Value) (q : Nat → Bool)
    (h : ∀ i, (Op.equalIn 9999 e (f i) (g i)).run P w = .ok (q i) w) :
    (binOp .eql t (.agg (rowOf f).toArray) (.agg (rowOf g).toArray)).run P w = .ok (.bool ((List.range 64).all q)) w := by
  rw [run_eql_struct, show (10000 : Nat) = 9999 + 1 from rfl, run_equalIn_array w 9999 _ _ hu hi, hc, eqItems_cells w 9999 he _ _ f g q h (List.range 64) (fun i hi => by
    rw [List.getElem?_toArray, List.getElem?_toArray]
    exact ⟨rowOf_get f i (List.mem_range.1 hi), rowOf_get g i (List.mem_range.1 hi)⟩)]
  rfl
def likeI (f g : Nat → Int) : Bool := (List.range 64).all fun i => f i == g i
def likeB (f g : Nat → Bool) : Bool := (List.range 64).all fun i => f i == g i
theorem likeI_iff (f g : Nat → Int) : likeI f g = true ↔ ∀ i, i < 64 → f i = g i := by simp [likeI]
theorem likeB_iff (f g : Nat → Bool) : likeB f g = true ↔ ∀ i, i < 64 → f i = g i := by simp [likeB]
theorem info_i : ∃ i, Try.prog.info? 3 = some i := Option.isSome_iff_exists.1 (by kernel_rfl)
theorem info_b : ∃ i, Try.prog.info? 4 = some i := Option.isSome_iff_exists.1 (by kernel_rfl)
theorem info_u : ∃ i, Try.prog.info? 5 = some i := Option.isSome_iff_exists.1 (by kernel_rfl)
theorem eql_words (w : World) (f g : Nat → Int) : (binOp .eql 81 (.agg (rowOf fun i => .int .u8 (f i)).toArray) (.agg (rowOf fun i => .int .u8 (g i)).toArray)).run Try.prog w = .ok (.bool (likeI f g)) w := by
  obtain ⟨i, hi⟩ := info_u
  exact eql_rows w Try.underlying81 hi (by kernel_rfl) (by kernel_rfl) _ _ _ (fun i => run_equalIn_int w 9998 5 .u8 .u8 _ _ Try.underlying5)
theorem eql_goods (w : World) (f g : Nat → Bool) : (binOp .eql 82 (.agg (rowOf fun i => .bool (f i)).toArray) (.agg (rowOf fun i => .bool (g i)).toArray)).run Try.prog w = .ok (.bool (likeB f g)) w := by
  obtain ⟨i, hi⟩ := info_b
  exact eql_rows w Try.underlying82 hi (by kernel_rfl) (by kernel_rfl) _ _ _ (fun i => run_equalIn_bool' w 9998 4 _ _ Try.underlying4)
theorem eql_ages (w : World) (f g : Nat → Int) : (binOp .eql 83 (.agg (rowOf fun i => .int .i64 (f i)).toArray) (.agg (rowOf fun i => .int .i64 (g i)).toArray)).run Try.prog w = .ok (.bool (likeI f g)) w := by
  obtain ⟨i, hi⟩ := info_i
  exact eql_rows w Try.underlying83 hi (by kernel_rfl) (by kernel_rfl) _ _ _ (fun i => run_equalIn_int w 9998 3 .i64 .i64 _ _ Try.underlying3)
theorem Sto.rowW {w : World} {b : Nat} {wd : Nat → Int} {gd : Nat → Bool} {ag : Nat → Int} (h : Sto w b wd gd ag) : (Instr.loadAt 81 (.pointer (some ⟨b, 1, none⟩))).run Try.prog w = .ok (.agg (rowOf fun i => .int .u8 (wd i)).toArray) w :=
  run_loadAt_mid w b 1 81 _ _ (fun j v hj => by
    have hj64 : j < 64 := by have := (List.getElem?_eq_some_iff.1 hj).1; simpa [rowOf] using this
    rw [rowOf_get _ j hj64] at hj
    rw [h.word j hj64]; exact hj) Try.underlying81 rfl (by rw [show (rowOf fun i => Value.int .u8 (wd i)).length = 64 by simp [rowOf]]; kernel_rfl)
theorem Sto.rowG {w : World} {b : Nat} {wd : Nat → Int} {gd : Nat → Bool} {ag : Nat → Int} (h : Sto w b wd gd ag) : (Instr.loadAt 82 (.pointer (some ⟨b, 65, none⟩))).run Try.prog w = .ok (.agg (rowOf fun i => .bool (gd i)).toArray) w :=
  run_loadAt_mid w b 65 82 _ _ (fun j v hj => by
    have hj64 : j < 64 := by have := (List.getElem?_eq_some_iff.1 hj).1; simpa [rowOf] using this
    rw [rowOf_get _ j hj64] at hj
    rw [h.good j hj64]; exact hj) Try.underlying82 rfl (by rw [show (rowOf fun i => Value.bool (gd i)).length = 64 by simp [rowOf]]; kernel_rfl)
theorem Sto.rowA {w : World} {b : Nat} {wd : Nat → Int} {gd : Nat → Bool} {ag : Nat → Int} (h : Sto w b wd gd ag) : (Instr.loadAt 83 (.pointer (some ⟨b, 129, none⟩))).run Try.prog w = .ok (.agg (rowOf fun i => .int .i64 (ag i)).toArray) w :=
  run_loadAt_mid w b 129 83 _ _ (fun j v hj => by
    have hj64 : j < 64 := by have := (List.getElem?_eq_some_iff.1 hj).1; simpa [rowOf] using this
    rw [rowOf_get _ j hj64] at hj
    rw [h.age j hj64]; exact hj) Try.underlying83 rfl (by rw [show (rowOf fun i => Value.int .i64 (ag i)).length = 64 by simp [rowOf]]; kernel_rfl)

end Go.Proofs.Ythnopcoahcdjjaa.Ly13
