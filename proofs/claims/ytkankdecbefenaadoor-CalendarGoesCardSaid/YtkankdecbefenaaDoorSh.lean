/- What comes in, read by the shape of its type: bools, numbers, strings, slices, arrays, structs, one within the other; no condition. -/
import Derived.Test.YtkankdecbefenaaDoorArgs
import Derived.Deep.Slices
import Derived.ChangeArms
namespace Go.Proofs.YtkankdecbefenaaDoor.Base
open Go.ChangeShapes Go.WideShapes Go.ChangeAt Go.RowKit Go.Deep
set_option linter.unusedVariables false

/-- The shape of a type: a struct is its fields, one behind the other. -/
inductive Sh | bool | int (k : IntKind) | str | sl (e : Sh) | ar (n : Nat) (e : Sh) | nil | fld (a r : Sh)
def Sh.size : Sh → Nat
  | .bool => 1 | .int _ => 1 | .str => 1 | .sl _ => 1 | .ar n e => n * e.size | .nil => 0 | .fld a r => a.size + r.size

mutual
def fits (P : Program) : Nat → TypeId → Sh → Bool
  | 0, _, _ => false
  | f + 1, t, sh => match P.underlying t, sh with
    | some .bool, .bool => true
    | some (.int k), .int k' => decide (k = k')
    | some .string, .str => true
    | some (.slice e), .sl s => fits P f e s && P.cellsOf e == s.size && decide (0 < s.size)
    | some (.array n e), .ar m s => n == m && fits P f e s && P.cellsOf e == s.size && P.cellsOf t == n * s.size
    | some (.struct fs), .nil => P.cellsOf t == 0 && fitsF P f 0 fs.toList .nil
    | some (.struct fs), .fld a r => P.cellsOf t == a.size + r.size && fitsF P f 0 fs.toList (.fld a r)
    | _, _ => false
def fitsF (P : Program) : Nat → Nat → List Field → Sh → Bool
  | 0, _, _, _ => false
  | f + 1, _, [], .nil => true
  | f + 1, off, x :: xs, .fld a r => x.offset == off && P.cellsOf x.type == a.size && fits P f x.type a && fitsF P f (off + a.size) xs r
  | _, _, _, _ => false
end

/-- n elements of so many cells each, at an address. -/
def Grid (w : World) (A : Option Addr) (n size : Nat) (rows : List (List Value)) : Prop :=
  rows.length = n ∧ (0 < n → ∃ b off, A = some ⟨b, off, none⟩ ∧ b < w.heap.size ∧ ∀ i j, i < n → j < size → w.cell? ⟨b, off + (i * size + j), none⟩ = rows[i]?.bind (·[j]?))

theorem Grid.kept {w w' : World} {A : Option Addr} {n size : Nat} {rows : List (List Value)} (h : Grid w A n size rows) (hb : Below w.heap.size w w') : Grid w' A n size rows :=
  ⟨h.1, fun hn => by
    obtain ⟨b, off, e, hlt, hc⟩ := h.2 hn
    exact ⟨b, off, e, Nat.lt_of_lt_of_le hlt hb.size, fun i j hi hj => (hb.cell (p := ⟨b, off + (i * size + j), none⟩) hlt).trans (hc i j hi hj)⟩⟩

def Reads (w : World) : Sh → List Value → Prop
  | .bool, cs => ∃ b, cs = [.bool b]
  | .int k, cs => ∃ n, cs = [.int k n] ∧ (Lit.int k n).wf = true
  | .str, cs => ∃ s, cs = [.string s] ∧ s.size ≤ maxLen
  | .sl e, cs => ∃ A n c rows, cs = [.slice A n c] ∧ n ≤ c ∧ c ≤ maxLen ∧ Grid w A n e.size rows ∧ ∀ r ∈ rows, Reads w e r
  | .ar n e, cs => ∃ rows : List (List Value), rows.length = n ∧ cs = rows.flatten ∧ ∀ r ∈ rows, Reads w e r
  | .nil, cs => cs = []
  | .fld a r, cs => ∃ x y, cs = x ++ y ∧ Reads w a x ∧ Reads w r y

theorem Reads.len {w : World} : ∀ {sh : Sh} {cs : List Value}, Reads w sh cs → cs.length = sh.size := by
  intro sh
  induction sh with
  | bool => rintro cs ⟨b, rfl⟩; rfl
  | int k => rintro cs ⟨n, rfl, _⟩; rfl
  | str => rintro cs ⟨s, rfl, _⟩; rfl
  | sl e _ => rintro cs ⟨A, n, c, rows, rfl, _⟩; rfl
  | ar n e ih =>
    rintro cs ⟨rows, rfl, rfl, h⟩
    simp only [Sh.size]
    induction rows with
    | nil => simp
    | cons r rs ihr =>
      have h1 := ih (h r (by simp))
      have h2 := ihr (fun r hr => h r (by simp [hr]))
      simp [h1, h2, Nat.add_mul]; omega
  | nil => rintro cs rfl; rfl
  | fld a r iha ihr => rintro cs ⟨x, y, rfl, hx, hy⟩; simp [Sh.size, iha hx, ihr hy]

section
variable {H : Type} {enc : TypeId × Value → H} {P : Program} {w : World} {base : Nat} {held : Bool}

theorem reads_of : ∀ (f : Nat),
    (∀ (t : TypeId) (sh : Sh) (fuel : Nat) (cs : List Value) (x : DataW H × List MemPlace), fits P f t sh = true → DataW.trod enc P w base (fun _ => true) held fuel t cs = some x → Reads w sh cs) ∧
    (∀ (off : Nat) (fs : List Field) (sh : Sh) (n : Nat) (cs : List Value) (xs : List (DataW H × List MemPlace)), fitsF P f off fs sh = true → xs.length = fs.length →
      (∀ (i : Nat) (fd : Field), fs[i]? = some fd → DataW.trod enc P w base (fun _ => true) held n fd.type ((cs.drop fd.offset).take (P.cellsOf fd.type)) = xs[i]?) → cs.length = off + sh.size → Reads w sh (cs.drop off)) := by
  intro f
  induction f with
  | zero => exact ⟨fun _ _ _ _ _ h => by simp [fits] at h, fun _ _ _ _ _ _ h => by simp [fitsF] at h⟩
  | succ f ih =>
    obtain ⟨ih1, ih2⟩ := ih
    refine ⟨?_, ?_⟩
    · intro t sh fuel cs x hf h
      unfold fits at hf
      split at hf
      · rename_i ht
        obtain ⟨b, rfl, _⟩ := DataW.trod_bool ht h
        exact ⟨b, rfl⟩
      · rename_i k k' ht
        obtain ⟨n, rfl, _, hw⟩ := DataW.trod_int ht h
        simp at hf
        subst hf
        exact ⟨n, rfl, hw⟩
      · rename_i ht
        obtain ⟨s, rfl, _, hs⟩ := DataW.trod_string ht h
        exact ⟨s, rfl, hs⟩
      · rename_i e s ht
        simp only [Bool.and_eq_true, beq_iff_eq, decide_eq_true_eq] at hf
        obtain ⟨⟨hf, hc⟩, hpos⟩ := hf
        rcases DataW.trod_slice ht h with ⟨rfl, _⟩ | ⟨a, len, cap, elems, rest, n, _, rfl, _, hb, hl, hm, hlen, hel, _, _⟩
        · exact ⟨none, 0, 0, [], rfl, Nat.le_refl _, Nat.zero_le _, ⟨rfl, fun h => absurd h (by omega)⟩, fun r hr => by cases hr⟩
        · obtain ⟨R, hR⟩ := choose_lt (α := List Value) (n := len) (p := fun i cs' => w.cells? base (a.add (i * P.cellsOf e)) (P.cellsOf e) = some cs' ∧ Reads w s cs') (fun i hi => by
            have h1 := hel i hi
            have h2 : elems[i]? = some (elems[i]'(by omega)) := List.getElem?_eq_getElem (by omega)
            rw [h2] at h1
            cases hcs : w.cells? base (a.add (i * P.cellsOf e)) (P.cellsOf e) with
            | none => rw [hcs] at h1; cases h1
            | some cs' => rw [hcs] at h1; exact ⟨cs', rfl, ih1 e s n cs' _ hf h1⟩)
          refine ⟨some a, len, cap, (List.range len).map R, rfl, hl, hm, ⟨by simp, fun hn => ?_⟩, ?_⟩
          · obtain ⟨b, off, sp⟩ := a
            have h0 := World.cells?_some (hR 0 hn).1
            obtain ⟨_, hl0, hc0⟩ := h0
            have hl0' : (R 0).length = s.size := by rw [(hR 0 hn).2.len]
            have hcell := hc0 0 (by omega)
            rw [List.getElem?_eq_getElem (show 0 < (R 0).length by omega)] at hcell
            have hs : sp = none := by simpa [Addr.add] using World.cell?_spot hcell
            subst hs
            refine ⟨b, off, rfl, ?_, fun i j hi hj => ?_⟩
            · have := World.block_lt_of_cell? w _ hcell
              simpa [add_eq] using this
            · obtain ⟨_, hli, hci⟩ := World.cells?_some (hR i hi).1
              have hli' : (R i).length = s.size := by rw [(hR i hi).2.len]
              have := hci j (by omega)
              rw [add_eq, add_eq, hc] at this
              rw [show off + (i * s.size + j) = off + i * s.size + j by omega, this]
              simp [hi]
          · intro r hr
            simp only [List.mem_map, List.mem_range] at hr
            obtain ⟨i, hi, rfl⟩ := hr
            exact (hR i hi).2
      · rename_i n e m s ht
        simp only [Bool.and_eq_true, beq_iff_eq] at hf
        obtain ⟨⟨⟨hnm, hf⟩, hc⟩, hct⟩ := hf
        subst hnm
        obtain ⟨xs, k, _, _, hl, hxl, hx⟩ := DataW.trod_array ht h
        rw [hct] at hl
        rw [hc] at hx
        refine ⟨(List.range n).map fun i => (cs.drop (i * s.size)).take s.size, by simp, ?_, ?_⟩
        · clear hx hxl h
          have aux : ∀ (n : Nat) (cs : List Value), cs.length = n * s.size → cs = ((List.range n).map fun i => (cs.drop (i * s.size)).take s.size).flatten := by
            intro n
            induction n with
            | zero => intro cs hl; simp at hl; simp [hl]
            | succ n ihn =>
              intro cs hl
              rw [Nat.add_mul, Nat.one_mul] at hl
              rw [List.range_succ, List.map_append, List.flatten_append]
              have h1 := ihn (cs.take (n * s.size)) (by simp; omega)
              have e1 : ((List.range n).map fun i => ((cs.take (n * s.size)).drop (i * s.size)).take s.size) = ((List.range n).map fun i => (cs.drop (i * s.size)).take s.size) := by
                apply List.map_congr_left
                intro i hi
                simp only [List.mem_range] at hi
                have : (i + 1) * s.size ≤ n * s.size := Nat.mul_le_mul_right _ hi
                rw [Nat.add_mul, Nat.one_mul] at this
                rw [List.drop_take, List.take_take]
                congr 1
                omega
              rw [e1] at h1
              rw [← h1]
              simp only [List.map_cons, List.map_nil, List.flatten_cons, List.flatten_nil, List.append_nil]
              rw [List.take_of_length_le (l := cs.drop (n * s.size)) (by simp; omega), List.take_append_drop]
          exact aux n cs hl
        · intro r hr
          simp only [List.mem_map, List.mem_range] at hr
          obtain ⟨i, hi, rfl⟩ := hr
          have := hx i hi
          rw [List.getElem?_eq_getElem (by omega)] at this
          exact ih1 e s k _ _ hf this
      · rename_i fs ht
        simp only [Bool.and_eq_true, beq_iff_eq] at hf
        obtain ⟨xs, n, _, _, hl, hxl, hx⟩ := DataW.trod_struct ht h
        have := ih2 0 fs.toList .nil n cs xs hf.2 (by simpa using hxl) (fun i fd hi => hx i fd (by simpa using hi)) (by simp [Sh.size, hl, hf.1])
        simpa using this
      · rename_i fs a r ht
        simp only [Bool.and_eq_true, beq_iff_eq] at hf
        obtain ⟨xs, n, _, _, hl, hxl, hx⟩ := DataW.trod_struct ht h
        have := ih2 0 fs.toList (.fld a r) n cs xs hf.2 (by simpa using hxl) (fun i fd hi => hx i fd (by simpa using hi)) (by simp [Sh.size, hl, hf.1])
        simpa using this
      · cases hf
    · intro off fs sh n cs xs hf hlen hx hl
      cases fs with
      | nil =>
        cases sh <;> simp only [fitsF] at hf <;> first | (cases hf; done) | skip
        simp only [Sh.size] at hl
        show cs.drop off = []
        rw [List.drop_of_length_le (by omega)]
      | cons fd fs' =>
        cases sh <;> simp only [fitsF] at hf <;> first | (cases hf; done) | skip
        rename_i a r
        simp only [Bool.and_eq_true, beq_iff_eq] at hf
        obtain ⟨⟨⟨ho, hc⟩, hf1⟩, hf2⟩ := hf
        simp only [Sh.size] at hl
        match xs, hlen with
        | y :: ys, hlen =>
          have h0 := hx 0 fd (by simp)
          rw [ho, hc] at h0
          simp at h0
          have R0 := ih1 fd.type a n _ _ hf1 h0
          have R1 := ih2 (off + a.size) fs' r n cs ys hf2 (by simpa using hlen) (fun i fd' hi => by simpa using hx (i + 1) fd' (by simpa using hi)) (by omega)
          refine ⟨(cs.drop off).take a.size, cs.drop (off + a.size), ?_, R0, R1⟩
          rw [← List.drop_drop, List.take_append_drop]

theorem reads_cells {t : TypeId} {sh : Sh} {cs : Array Value} {d : DataW H} {ps : List MemPlace} (f : Nat) (hf : fits P f t sh = true) (h : DataW.Trod enc P w base (fun _ => true) held t (.agg cs) d ps) : Reads w sh cs.toList := by
  obtain ⟨fuel, hh⟩ := h
  exact (reads_of f).1 t sh fuel _ _ hf (by simpa [Value.cells] using hh)
theorem reads_slice {t : TypeId} {e : Sh} {A : Option Addr} {n c : Nat} {d : DataW H} {ps : List MemPlace} (f : Nat) (hf : fits P f t (.sl e) = true) (h : DataW.Trod enc P w base (fun _ => true) held t (.slice A n c) d ps) :
    ∃ rows, Grid w A n e.size rows ∧ (∀ r ∈ rows, Reads w e r) ∧ n ≤ c ∧ c ≤ maxLen := by
  obtain ⟨fuel, hh⟩ := h
  obtain ⟨A', n', c', rows, he, h1, h2, h3, h4⟩ := (reads_of f).1 t (.sl e) fuel _ _ hf (by simpa [Value.cells] using hh)
  cases he
  exact ⟨rows, h3, h4, h1, h2⟩
theorem okWide_agg {r : Reach} {b0 : Nat} {t : TypeId} {v : Value} (hs : (∃ fs, P.underlying t = some (.struct fs)) ∨ ∃ n e, P.underlying t = some (.array n e)) (h : Value.okWide P w r b0 t v) : ∃ cs, v = .agg cs := by
  unfold Value.okWide at h
  rcases hs with ⟨fs, hs⟩ | ⟨n, e, hs⟩ <;> rw [hs] at h <;> obtain ⟨cs, rfl, _⟩ := h <;> exact ⟨cs, rfl⟩
end
end Go.Proofs.YtkankdecbefenaaDoor.Base
