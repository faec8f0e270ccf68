/- A package-level variable whose reading is a known datum without slices holds just the cells of that datum; no condition. -/
import Derived.Test.YtkankdecbefenaaDoorSh
import Derived.LaidMore
namespace Go.Proofs.YtkankdecbefenaaDoor.Base
open Go.ChangeShapes Go.WideShapes Go.ChangeAt Go.RowKit Go.Deep
set_option linter.unusedVariables false

mutual
def flatV {H : Type} : DataW H → Option (List Value)
  | .lit (.bool b) => some [.bool b]
  | .lit (.int k n) => some [.int k n]
  | .lit (.string l) => some [.string ⟨l.toArray⟩]
  | .agg ds => flatVs ds
  | _ => none
def flatVs {H : Type} : List (DataW H) → Option (List Value)
  | [] => some []
  | d :: r => match flatV d, flatVs r with
    | some x, some y => some (x ++ y)
    | _, _ => none
end

def Sh.flat : Sh → Bool
  | .bool => true | .int _ => true | .str => true | .sl _ => false | .ar _ e => e.flat | .nil => true | .fld a r => a.flat && r.flat

section
variable {H : Type} {enc : TypeId × Value → H} {P : Program} {w : World} {base : Nat} {spare : Nat → Bool} {held : Bool}

theorem flatVs_get {ds : List (DataW H)} {vs : List (List Value)} (hl : ds.length = vs.length) (h : ∀ i (h1 : i < ds.length) (h2 : i < vs.length), flatV ds[i] = some vs[i]) : flatVs ds = some vs.flatten := by
  induction ds generalizing vs with
  | nil => cases vs <;> simp_all [flatVs]
  | cons d r ih =>
    cases vs with
    | nil => simp at hl
    | cons x y =>
      have h0 := h 0 (by simp) (by simp)
      simp at h0
      have := ih (vs := y) (by simpa using hl) (fun i h1 h2 => h (i + 1) (by simp; omega) (by simp; omega))
      simp [flatVs, h0, this]

theorem exact_of : ∀ (f : Nat),
    (∀ (t : TypeId) (sh : Sh) (fuel : Nat) (cs : List Value) (x : DataW H × List MemPlace), sh.flat = true → fits P f t sh = true → DataW.trod enc P w base spare held fuel t cs = some x → flatV x.1 = some cs ∧ cs.length = sh.size) ∧
    (∀ (off : Nat) (fs : List Field) (sh : Sh) (n : Nat) (cs : List Value) (xs : List (DataW H × List MemPlace)), sh.flat = true → fitsF P f off fs sh = true → xs.length = fs.length →
      (∀ (i : Nat) (fd : Field), fs[i]? = some fd → DataW.trod enc P w base spare held n fd.type ((cs.drop fd.offset).take (P.cellsOf fd.type)) = xs[i]?) → cs.length = off + sh.size → flatVs (xs.map (·.1)) = some (cs.drop off)) := by
  intro f
  induction f with
  | zero => exact ⟨fun _ _ _ _ _ _ h => by simp [fits] at h, fun _ _ _ _ _ _ _ h => by simp [fitsF] at h⟩
  | succ f ih =>
    obtain ⟨ih1, ih2⟩ := ih
    refine ⟨?_, ?_⟩
    · intro t sh fuel cs x hfl hf h
      unfold fits at hf
      split at hf
      · rename_i ht
        obtain ⟨b, rfl, rfl⟩ := DataW.trod_bool ht h
        exact ⟨by simp [flatV], rfl⟩
      · rename_i k k' ht
        obtain ⟨n, rfl, rfl, hw⟩ := DataW.trod_int ht h
        exact ⟨by simp [flatV], rfl⟩
      · rename_i ht
        obtain ⟨s, rfl, rfl, hs⟩ := DataW.trod_string ht h
        exact ⟨by simp [flatV], rfl⟩
      · simp [Sh.flat] at hfl
      · rename_i n e m s ht
        simp only [Bool.and_eq_true, beq_iff_eq] at hf
        obtain ⟨⟨⟨hnm, hf⟩, hc⟩, hct⟩ := hf
        subst hnm
        obtain ⟨xs, k, _, rfl, hl, hxl, hx⟩ := DataW.trod_array ht h
        rw [hct] at hl
        rw [hc] at hx
        simp only [flatV]
        refine ⟨?_, hl⟩
        have e1 : flatVs (xs.map (·.1)) = some ((List.range n).map fun i => (cs.drop (i * s.size)).take s.size).flatten := by
          refine flatVs_get (by simp [hxl]) (fun i h1 h2 => ?_)
          have hi : i < n := by simpa [hxl] using h1
          have hxi := hx i hi
          rw [List.getElem?_eq_getElem (by omega)] at hxi
          have := (ih1 e s k _ _ (by simpa [Sh.flat] using hfl) hf hxi).1
          simpa using this
        rw [e1]
        congr 1
        clear hx hxl h e1
        have aux : ∀ (n : Nat) (cs : List Value), cs.length = n * s.size → ((List.range n).map fun i => (cs.drop (i * s.size)).take s.size).flatten = cs := by
          intro n
          induction n with
          | zero => intro cs hl; simp at hl; simp [hl]
          | succ n ihn =>
            intro cs hl
            rw [Nat.add_mul, Nat.one_mul] at hl
            rw [List.range_succ, List.map_append, List.flatten_append]
            have h1 := ihn (cs.take (n * s.size)) (by simp; omega)
            have e1 : ((List.range n).map fun i => ((cs.take (n * s.size)).drop (i * s.size)).take s.size) = ((List.range n).map fun i => (cs.drop (i * s.size)).take s.size) := by
              apply List.map_congr_left
              intro i hi
              simp only [List.mem_range] at hi
              have : (i + 1) * s.size ≤ n * s.size := Nat.mul_le_mul_right _ hi
              rw [Nat.add_mul, Nat.one_mul] at this
              rw [List.drop_take, List.take_take]
              congr 1
              omega
            rw [e1] at h1
            rw [h1]
            simp only [List.map_cons, List.map_nil, List.flatten_cons, List.flatten_nil, List.append_nil]
            rw [List.take_of_length_le (l := cs.drop (n * s.size)) (by simp; omega), List.take_append_drop]
        exact aux n cs hl
      · rename_i fs ht
        simp only [Bool.and_eq_true, beq_iff_eq] at hf
        obtain ⟨xs, n, _, rfl, hl, hxl, hx⟩ := DataW.trod_struct ht h
        have := ih2 0 fs.toList .nil n cs xs rfl hf.2 (by simpa using hxl) (fun i fd hi => hx i fd (by simpa using hi)) (by simp [Sh.size, hl, hf.1])
        exact ⟨by simpa [flatV] using this, by rw [hl, hf.1]; rfl⟩
      · rename_i fs a r ht
        simp only [Bool.and_eq_true, beq_iff_eq] at hf
        obtain ⟨xs, n, _, rfl, hl, hxl, hx⟩ := DataW.trod_struct ht h
        have := ih2 0 fs.toList (.fld a r) n cs xs hfl hf.2 (by simpa using hxl) (fun i fd hi => hx i fd (by simpa using hi)) (by simp [Sh.size, hl, hf.1])
        exact ⟨by simpa [flatV] using this, by rw [hl, hf.1]; rfl⟩
      · cases hf
    · intro off fs sh n cs xs hfl hf hlen hx hl
      cases fs with
      | nil =>
        cases sh <;> simp only [fitsF] at hf <;> first | (cases hf; done) | skip
        simp only [Sh.size] at hl
        have : xs = [] := by simpa using hlen
        subst this
        rw [List.drop_of_length_le (by omega)]
        simp [flatVs]
      | cons fd fs' =>
        cases sh <;> simp only [fitsF] at hf <;> first | (cases hf; done) | skip
        rename_i a r
        simp only [Bool.and_eq_true, beq_iff_eq] at hf
        obtain ⟨⟨⟨ho, hc⟩, hf1⟩, hf2⟩ := hf
        simp only [Sh.size] at hl
        simp only [Sh.flat, Bool.and_eq_true] at hfl
        match xs, hlen with
        | y :: ys, hlen =>
          have h0 := hx 0 fd (by simp)
          rw [ho, hc] at h0
          simp at h0
          have R0 := ih1 fd.type a n _ _ hfl.1 hf1 h0
          have R1 := ih2 (off + a.size) fs' r n cs ys hfl.2 hf2 (by simpa using hlen) (fun i fd' hi => by simpa using hx (i + 1) fd' (by simpa using hi)) (by omega)
          simp only [List.map_cons, flatVs, R0.1, R1]
          rw [← List.drop_drop, List.take_append_drop]

theorem exact_cells {t : TypeId} {sh : Sh} {fuel : Nat} {cs : List Value} {d : DataW H} {ps : List MemPlace} {vs : List Value} (f : Nat) (hs : sh.flat = true) (hf : fits P f t sh = true) (h : DataW.trod enc P w base spare held fuel t cs = some (d, ps)) (hv : flatV d = some vs) : cs = vs := by
  have := ((exact_of f).1 t sh fuel cs _ hs hf h).1
  rw [hv] at this
  exact (Option.some.inj this).symm
end
end Go.Proofs.YtkankdecbefenaaDoor.Base
