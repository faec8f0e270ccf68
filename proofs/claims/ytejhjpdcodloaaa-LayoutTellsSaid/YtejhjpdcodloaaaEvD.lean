/- The evaluator's operations that build values, and grow slices. -/
import Derived.Test.YtejhjpdcodloaaaEvC
import Derived.Laws.Tables
namespace Go.Proofs.Ytejhjpdcodloaaa.Ev
noncomputable section
open Go Go.RowKit
set_option linter.unusedVariables false
set_option linter.unusedSimpArgs false

variable {L L' L'' : LS} {D D' D'' : Nat → Prop} {m m' m'' : Nat → MB} {P : Program}

/-! ### Filling the parts of a value -/

inductive PRel (D : Nat → Prop) (m : Nat → MB) : List (Nat × Value) → List (Nat × Value) → Prop
  | nil : PRel D m [] []
  | cons (i : Nat) (x y : Value) (xs ys : List (Nat × Value)) (h : VRel D m x y) (t : PRel D m xs ys) : PRel D m ((i, x) :: xs) ((i, y) :: ys)
theorem PRel.map {ρ ρ' : Operand → Value} : ∀ (l : List (Nat × Operand)), (∀ p ∈ l, VRel D m (ρ p.2) (ρ' p.2)) → PRel D m (l.map fun p => (p.1, ρ p.2)) (l.map fun p => (p.1, ρ' p.2))
  | [], _ => .nil
  | (i, x) :: l, h => .cons i _ _ _ _ (h (i, x) (by simp)) (PRel.map l fun p hp => h p (by simp [hp]))
theorem build_ops {D : Nat → Prop} {m : Nat → MB} {ρ ρ' : Operand → Value} {o : Oper} (hρ : Rl D m ρ ρ' o) {t : TypeId} {parts : Array (Nat × Operand)} (ho : o.op = .build t parts) : ∀ p ∈ parts.toList, VRel D m (ρ p.2) (ρ' p.2) :=
  fun p hp => hρ p.2 (by simp only [ho, Op.operands]; simp; exact ⟨p.1, by simpa using hp⟩)
theorem slice_ops {D : Nat → Prop} {m : Nat → MB} {ρ ρ' : Operand → Value} {o : Oper} (hρ : Rl D m ρ ρ' o) {t : TypeId} {len : Nat} {parts : Array (Nat × Operand)} (ho : o.op = .buildSlice t len parts) : ∀ p ∈ parts.toList, VRel D m (ρ p.2) (ρ' p.2) :=
  fun p hp => hρ p.2 (by simp only [ho, Op.operands]; simp; exact ⟨p.1, by simpa using hp⟩)

def fillL (place : Nat → Option (Nat × Nat)) (cells : List Value) : List (Nat × Value) → Option (List Value)
  | [] => some cells
  | (i, v) :: rest =>
    match place i, lcells v with
    | some (off, size), some vs => bif Nat.beq vs.length size && Nat.ble (off + vs.length) cells.length then fillL place (setsL cells off vs) rest else none
    | _, _ => none

theorem fold_sets : ∀ (vs : List Value) (k off : Nat) (cs : Array Value), off + k + vs.length ≤ cs.size →
    ((vs.zipIdx k).foldl (fun cs (x : Value × Nat) => cs.setIfInBounds (off + x.2) x.1) cs).toList = cs.toList.take (off + k) ++ vs ++ cs.toList.drop (off + k + vs.length)
  | [], k, off, cs, _ => by simp
  | v :: vs, k, off, cs, h => by
    simp only [List.length_cons] at h
    rw [List.zipIdx_cons, List.foldl_cons, fold_sets vs (k + 1) off _ (by simp; omega)]
    have e := list_seg_step cs.toList (off + k) v vs (by simp; omega)
    simp only [Array.toList_setIfInBounds, List.length_cons]
    rw [← e]
    simp only [Nat.add_assoc]
theorem VRels.append : ∀ {xs ys zs ws : List Value}, VRels D m xs ys → VRels D m zs ws → VRels D m (xs ++ zs) (ys ++ ws)
  | _, _, _, _, .nil, h => h
  | _, _, _, _, .cons x y xs ys h t, h' => .cons x y _ _ h (t.append h')
theorem VRels.sets {cs ds vs ws : List Value} (h : VRels D m cs ds) (hv : VRels D m vs ws) (off : Nat) : VRels D m (setsL cs off vs) (setsL ds off ws) := by
  unfold setsL
  rw [hv.length]
  exact ((h.take off).append hv).append (h.drop _)
theorem fillL_ok {place : Nat → Option (Nat × Nat)} : ∀ {ps qs : List (Nat × Value)}, PRel D m ps qs → ∀ {cs : List Value} {ds : Array Value} {r : List Value}, VRels D m cs ds.toList → fillL place cs ps = some r →
    ∃ r' : Array Value, Instr.fill place ds qs = some r' ∧ VRels D m r r'.toList
  | _, _, .nil, cs, ds, r, h, hf => by simp only [fillL, Option.some.injEq] at hf; subst hf; exact ⟨ds, rfl, h⟩
  | _, _, .cons i x y xs ys hx t, cs, ds, r, h, hf => by
    simp only [fillL] at hf
    split at hf
    · rename_i off size vs hp hl
      cases hc : (Nat.beq vs.length size && Nat.ble (off + vs.length) cs.length) with
      | false => rw [hc, cond_false] at hf; cases hf
      | true =>
        rw [hc, cond_true] at hf
        simp only [Bool.and_eq_true, Nat.ble_eq] at hc
        obtain ⟨h1, h2⟩ := hc
        have h1 := Nat.eq_of_beq_eq_true h1
        obtain ⟨hr, _⟩ := lcells_rel hx hl
        have e1 := hr.length
        have e2 := h.length
        simp only [Array.length_toList] at e1 e2
        have hcond : (decide (y.cells.size ≠ size) || decide (off + y.cells.size > ds.size)) = false := by
          simp only [Bool.or_eq_false_iff, decide_eq_false_iff_not]
          exact ⟨by omega, by omega⟩
        have hfold : (y.cells.zipIdx.foldl (fun cs (x : Value × Nat) => cs.setIfInBounds (off + x.2) x.1) ds).toList = setsL ds.toList off y.cells.toList := by
          have := fold_sets y.cells.toList 0 off ds (by simp; omega)
          simp only [Nat.add_zero] at this
          unfold setsL
          rw [← this, ← Array.foldl_toList, Array.toList_zipIdx]
        obtain ⟨r', hr', hv⟩ := fillL_ok t (ds := y.cells.zipIdx.foldl (fun cs (x : Value × Nat) => cs.setIfInBounds (off + x.2) x.1) ds) (by rw [hfold]; exact h.sets hr off) hf
        refine ⟨r', ?_, hv⟩
        have hor : ¬ (y.cells.size ≠ size ∨ off + y.cells.size > ds.size) := by omega
        simp only [Instr.fill, hp]
        simp only [Bool.or_eq_true, decide_eq_true_eq]
        rw [if_neg hor]
        exact hr'
    · cases hf

def builtL (P : Program) (t : TypeId) (parts : List (Nat × Value)) : Option (List Value) :=
  match P.info? t, P.underlying t with
  | some it, some (.array _ e) =>
    match it.zero, P.info? e with
    | some z, some ie => bif z.cells.toList.all g1 then fillL (fun i => some (i * ie.size, ie.size)) z.cells.toList parts else none
    | _, _ => none
  | some it, some (.struct fields) =>
    match it.zero, fields.toList.mapM (fun f => (P.info? f.type).map fun i => (f.offset, i.size)) with
    | some z, some places => bif z.cells.toList.all g1 then fillL (places.toArray[·]?) z.cells.toList parts else none
    | _, _ => none
  | _, _ => none
theorem builtL_ok {t : TypeId} {ps qs : List (Nat × Value)} (hp : PRel D m ps qs) {r : List Value} (h : builtL P t ps = some r) : ∃ r', P.built t qs = some r' ∧ VRels D m r r'.toList := by
  unfold builtL at h
  unfold Program.built
  split at h
  · rename_i it n e hi hu
    split at h
    · rename_i z ie hz hie
      cases hg : z.cells.toList.all g1 with
      | false => rw [hg, cond_false] at h; cases h
      | true =>
        rw [hg, cond_true] at h
        simp only [hi, hu, hz, hie]
        exact fillL_ok hp (VRels.ground _ hg) h
    · cases h
  · rename_i it fs hi hu
    split at h
    · rename_i z places hz hpl
      cases hg : z.cells.toList.all g1 with
      | false => rw [hg, cond_false] at h; cases h
      | true =>
        rw [hg, cond_true] at h
        simp only [hi, hu, hz, hpl]
        exact fillL_ok hp (VRels.ground _ hg) h
    · cases h
  · cases h
def blop (P : Program) (t : TypeId) (parts : List (Nat × Value)) : Option Value :=
  match builtL P t parts with
  | some r => some (.agg ⟨r⟩)
  | none => none
theorem parts_map (ρ : Operand → Value) (parts : Array (Nat × Operand)) : (parts.map fun (x : Nat × Operand) => match x with | (i, x) => (i, ρ x)).toList = parts.toList.map fun p => (p.1, ρ p.2) := by simp
theorem blop_ok {ρ ρ' : Operand → Value} {o : Oper} (hρ : Rl D m ρ ρ' o) {t : TypeId} {parts : Array (Nat × Operand)} {v : Value} (ho : o.op = .build t parts) (h : blop P t (parts.toList.map fun p => (p.1, ρ p.2)) = some v) : RdAll P D m ρ' o v := by
  unfold blop at h
  split at h
  · rename_i r hr
    cases h
    obtain ⟨r', h1, h2⟩ := builtL_ok (PRel.map parts.toList (build_ops hρ ho)) hr
    refine ⟨.agg r', by cases r'; exact .ag _ _ h2, fun w => ?_⟩
    have := run_build w t (parts.map fun (x : Nat × Operand) => match x with | (i, x) => (i, ρ' x)) r' (by rw [parts_map]; exact h1)
    simp only [execOp, ho, Sem.run_bind, this, Result.andThen_ok]
    rfl
  · cases h

/-- A row of zero values. -/
def zl (z : List Value) (s : Nat) : Nat → Nat → List Value
  | 0, _ => []
  | n + 1, j => z.getD (j % s) default :: zl z s n (j + 1)
theorem zl_eq (z : Array Value) : ∀ (n j : Nat), zl z.toList z.size n j = (List.range' j n).map (z[· % z.size]!)
  | 0, _ => rfl
  | n + 1, j => by
    rw [zl, zl_eq z n (j + 1), List.range'_succ, List.map_cons]
    congr 1
    simp [Array.getElem!_eq_getD, Array.getD_eq_getD_getElem?, List.getD]
theorem made_eq (z : Array Value) (n : Nat) : ((Array.range n).map (z[· % z.size]!)).toList = zl z.toList z.size n 0 := by
  rw [zl_eq]; simp [List.range_eq_range']
def zrow (z : Value) (n : Nat) : Option (List Value) := bif (zl z.cells.toList z.cells.size n 0).all g1 then some (zl z.cells.toList z.cells.size n 0) else none

def mkL (P : Program) (t : TypeId) (l c : Value) : Option (List Value × Option (Nat × Nat)) :=
  match P.underlying t, l, c with
  | some (.slice e), .int _ (.ofNat l), .int _ (.ofNat c) => match P.info? e with
    | some i => match i.zero with
      | some z => match zrow z (c * i.size) with
        | some cs => bif Nat.ble l c && Nat.ble (i.bytes * c) 281474976710656 && Nat.ble c 9223372036854775807 then some (cs, some (l, c)) else none
        | none => none
      | none => none
    | none => none
  | _, _, _ => none
theorem mk_ok {ρ ρ' : Operand → Value} {o : Oper} (hρ : Rl D m ρ ρ' o) {t : TypeId} {l c : Operand} {cs : List Value} {sh : Option (Nat × Nat)} (ho : o.op = .makeSlice t l c) (h : mkL P t (ρ l) (ρ c) = some (cs, sh)) : AlOK P D m ρ' o cs sh := by
  unfold mkL at h
  split at h <;> try (cases h; done)
  rename_i e kl l' kc c' hu hl hc
  split at h <;> try (cases h; done)
  rename_i i hi
  split at h <;> try (cases h; done)
  rename_i z hz
  split at h <;> try (cases h; done)
  rename_i cs' hcs
  cases hq : (Nat.ble l' c' && Nat.ble (i.bytes * c') 281474976710656 && Nat.ble c' 9223372036854775807) with
  | false => rw [hq, cond_false] at h; cases h
  | true =>
    rw [hq, cond_true] at h
    cases h
    simp only [Bool.and_eq_true, Nat.ble_eq] at hq
    obtain ⟨⟨h1, h2⟩, h3⟩ := hq
    have el := int_eq (hl ▸ hρ l (by simp [ho, Op.operands]))
    have ec := int_eq (hc ▸ hρ c (by simp [ho, Op.operands]))
    have hb : (i.bytes : Int) * (Int.ofNat c') ≤ 281474976710656 := by
      have : ((i.bytes * c' : Nat) : Int) ≤ 281474976710656 := by omega
      rwa [Int.natCast_mul] at this
    have hrun := fun W => run_make (P := P) W t e i z hu hi hz kl kc (Int.ofNat l') (Int.ofNat c') (by simp) (by simp; omega) hb (by simp; omega)
    have e1 : (Int.ofNat c').toNat = c' := rfl
    have e2 : (Int.ofNat l').toNat = l' := rfl
    rw [e1, e2] at hrun
    unfold zrow at hcs
    cases hg : (zl z.cells.toList z.cells.size (c' * i.size) 0).all g1 with
    | false => rw [hg, cond_false] at hcs; cases hcs
    | true =>
      rw [hg, cond_true] at hcs
      cases hcs
      exact ⟨madeCells z.cells (c' * i.size), e, by unfold madeCells; rw [made_eq]; exact VRels.ground _ hg, fun W => by simp only [execOp, ho, el, ec, Sem.run_bind, hrun, Result.andThen_ok, shp]; rfl⟩

def bsL (P : Program) (t : TypeId) (len : Nat) (parts : List (Nat × Value)) : Option (List Value × Option (Nat × Nat)) :=
  match P.underlying t with
  | some (.slice e) => match P.info? e with
    | some i => match i.zero with
      | some z => bif Nat.ble (len * i.size) 16777216 && Nat.blt 0 (len * i.size) then (match zrow z (len * i.size) with
        | some zs => match fillL (fun j => some (j * i.size, i.size)) zs parts with
          | some cs => some (cs, some (len, len))
          | none => none
        | none => none) else none
      | none => none
    | none => none
  | _ => none
theorem bs_ok {ρ ρ' : Operand → Value} {o : Oper} (hρ : Rl D m ρ ρ' o) {t : TypeId} {len : Nat} {parts : Array (Nat × Operand)} {cs : List Value} {sh : Option (Nat × Nat)} (ho : o.op = .buildSlice t len parts) (h : bsL P t len (parts.toList.map fun p => (p.1, ρ p.2)) = some (cs, sh)) : AlOK P D m ρ' o cs sh := by
  unfold bsL at h
  split at h <;> try (cases h; done)
  rename_i e hu
  split at h <;> try (cases h; done)
  rename_i i hi
  split at h <;> try (cases h; done)
  rename_i z hz
  cases hq : (Nat.ble (len * i.size) 16777216 && Nat.blt 0 (len * i.size)) with
  | false => rw [hq, cond_false] at h; cases h
  | true =>
    rw [hq, cond_true] at h
    simp only [Bool.and_eq_true, Nat.ble_eq, Nat.blt_eq] at hq
    obtain ⟨h1, h2⟩ := hq
    split at h <;> try (cases h; done)
    rename_i zs hzs
    split at h <;> try (cases h; done)
    rename_i cs' hcs
    cases h
    unfold zrow at hzs
    cases hg : (zl z.cells.toList z.cells.size (len * i.size) 0).all g1 with
    | false => rw [hg, cond_false] at hzs; cases hzs
    | true =>
      rw [hg, cond_true] at hzs
      cases hzs
      obtain ⟨r', hr', hv⟩ := fillL_ok (PRel.map parts.toList (slice_ops hρ ho)) (ds := (Array.range (len * i.size)).map (z.cells[· % z.cells.size]!)) (by rw [made_eq]; exact VRels.ground _ hg) hcs
      refine ⟨r', e, hv, fun W => ?_⟩
      have n1 : ¬ (len * i.size > 2 ^ 24) := by omega
      have n2 : ¬ (len * i.size = 0) := by omega
      simp only [execOp, ho, Instr.buildSlice, Sem.run_bind, run_underlying hu, Result.andThen_ok, run_sizeOf' hi, if_neg n1, if_neg n2, zeroValue, typeInfo]
      simp [hi, hz, hr', newRow, shp]

/-- The operations that make one block. -/
def aop (P : Program) (ρ : Operand → Value) (o : Oper) : Option (List Value × Option (Nat × Nat)) :=
  match o.op with
  | .alloc e => match zeroL P e with
    | some cs => some (cs, none)
    | none => none
  | .box _ x => match lcells (ρ x) with
    | some cs => some (cs, none)
    | none => none
  | .makeSlice t l c => mkL P t (ρ l) (ρ c)
  | .buildSlice t len parts => bsL P t len (parts.toList.map fun p => (p.1, ρ p.2))
  | _ => none
theorem aop_ok {ρ ρ' : Operand → Value} {o : Oper} (hρ : Rl D m ρ ρ' o) {cs : List Value} {sh : Option (Nat × Nat)} (h : aop P ρ o = some (cs, sh)) : AlOK P D m ρ' o cs sh := by
  unfold aop at h
  split at h
  · rename_i e ho
    split at h <;> try (cases h; done)
    rename_i cs' hc
    cases h
    exact alloc_ok ho hc
  · rename_i e x ho
    split at h <;> try (cases h; done)
    rename_i cs' hc
    cases h
    exact box_ok hρ ho hc
  · rename_i t l c ho; exact mk_ok hρ ho h
  · rename_i t len parts ho; exact bs_ok hρ ho h
  · cases h
end
end Go.Proofs.Ytejhjpdcodloaaa.Ev
