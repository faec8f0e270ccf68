/- The evaluator's operations that only look: each is what the program's own does, in every world that holds what the evaluator's memory holds. -/
import Derived.Test.YtejhjpdcodloaaaEvA
import Derived.Orders
namespace Go.Proofs.Ytejhjpdcodloaaa.Ev
noncomputable section
open Go Go.RowKit
set_option linter.unusedVariables false
set_option linter.unusedSimpArgs false

variable {L L' L'' : LS} {D D' D'' : Nat → Prop} {m m' m'' : Nat → MB} {P : Program}

/-- What values stand for, of all that an operation looks at. -/
abbrev Rl (D : Nat → Prop) (m : Nat → MB) (ρ ρ' : Operand → Value) (o : Oper) : Prop := ∀ x ∈ o.op.operands, VRel D m (ρ x) (ρ' x)
def RdAll (P : Program) (D : Nat → Prop) (m : Nat → MB) (ρ' : Operand → Value) (o : Oper) (v : Value) : Prop :=
  ∃ v', VRel D m v v' ∧ ∀ w, (execOp ρ' o).run P w = .ok (.value v') w
/-- Which blocks are known to have just the room that is known of them, or more. -/
structure En where
  fx : Nat → Option (Option Nat)
  orc : List Ent
structure FlexOK (F : En) (D : Nat → Prop) (m : Nat → MB) : Prop where
  fx : ∀ b f, F.fx b = some f → (m b).flex = f
  orc : ∀ e ∈ F.orc, EntOK D m e

/-! ### Plain operations on plain data -/

def gop (P : Program) (ρ : Operand → Value) (o : Oper) : Option Value :=
  bif (o.op.operands.toList.all fun x => gnd (ρ x)) then
    match pureOf P (execOp ρ o) with
    | some (.value v) => bif gnd v then some v else none
    | _ => none
  else none
theorem gop_ok {ρ ρ' : Operand → Value} {o : Oper} (hρ : Rl D m ρ ρ' o) {v : Value} (hs : ∀ cs b, o.op ≠ .select cs b) (h : gop P ρ o = some v) : RdAll P D m ρ' o v := by
  unfold gop at h
  cases hg : (o.op.operands.toList.all fun x => gnd (ρ x)) with
  | false => simp [hg] at h
  | true =>
    simp only [hg, cond_true] at h
    have hc : execOp ρ' o = execOp ρ o := execOp_congr o hs fun x hx => gnd_eq (hρ x hx) (by
      have := List.all_eq_true.1 hg x (by simpa using hx)
      exact this)
    split at h
    · rename_i u hu
      cases hv : gnd u with
      | false => simp [hv] at h
      | true =>
        simp only [hv, cond_true, Option.some.injEq] at h
        subst h
        exact ⟨u, .gr u hv, fun w => by rw [hc]; exact pureOf_run _ _ hu w⟩
    · cases h

/-! ### Pointers -/

theorem ptr_eq {b o : Nat} {v' : Value} (h : VRel D m (.pointer (some ⟨b, o, none⟩)) v') : v' = .pointer (some ⟨(m b).blk, o, none⟩) ∧ D b := by
  cases h with
  | gr v hg => simp [gnd, g2, g1] at hg
  | pt b o hb => exact ⟨rfl, hb⟩
theorem int_eq {k : IntKind} {i : Int} {v' : Value} (h : VRel D m (.int k i) v') : v' = .int k i := gnd_eq h (by rfl)
theorem bool_eq {b : Bool} {v' : Value} (h : VRel D m (.bool b) v') : v' = .bool b := gnd_eq h (by rfl)
theorem agg_eq {xs : List Value} {v' : Value} (h : VRel D m (.agg ⟨xs⟩) v') : ∃ ys, v' = .agg ⟨ys⟩ ∧ VRels D m xs ys := by
  cases h with
  | gr v hg => exact ⟨xs, rfl, VRels.ground xs (by simpa [gnd, g2] using hg)⟩
  | ag xs ys h => exact ⟨ys, rfl, h⟩
theorem VRels.ground2 : ∀ (xs : List Value), xs.all g2 = true → VRels D m xs xs
  | [], _ => .nil
  | x :: xs, h => by
    simp only [List.all_cons, Bool.and_eq_true] at h
    refine .cons x x xs xs (.gr x ?_) (VRels.ground2 xs h.2)
    cases x <;> simp_all [g1, gnd, g2]
theorem tup_eq {x : Value} {xs : List Value} {v' : Value} (h : VRel D m (.tuple ⟨x :: xs⟩) v') : ∃ ys, v' = .tuple ⟨ys⟩ ∧ VRels D m (x :: xs) ys := by
  cases h with
  | gr v hg => exact ⟨x :: xs, rfl, VRels.ground2 _ (by simpa [gnd] using hg)⟩
  | tu xs ys h => exact ⟨ys, rfl, h⟩
theorem slc_eq {b o n c : Nat} {v' : Value} (h : VRel D m (.slice (some ⟨b, o, none⟩) n c) v') :
    ∃ c', v' = .slice (some ⟨(m b).blk, o, none⟩) n c' ∧ D b ∧ c ≤ c' ∧ ((m b).flex = none → c' = c) ∧ (∀ e, (m b).flex = some e → o + c' * e ≤ (m b).size) := by
  cases h with
  | gr v hg => simp [gnd, g2, g1] at hg
  | sl b o n c c' hb h1 h2 h3 => exact ⟨c', rfl, hb, h1, h2, h3⟩
theorem fun_eq {f : Fn} {xs zs : List Value} {v' : Value} (h : VRel D m (.func f ⟨xs⟩ ⟨zs⟩) v') : ∃ ys ws, v' = .func f ⟨ys⟩ ⟨ws⟩ ∧ VRels D m xs ys ∧ VRels D m zs ws := by
  cases h with
  | gr v hg => simp [gnd, g2, g1] at hg
  | fn f xs ys zs ws h h' => exact ⟨ys, ws, rfl, h, h'⟩
theorem Addr.add_none (b o n : Nat) : (⟨b, o, none⟩ : Addr).add n = ⟨b, o + n, none⟩ := by
  unfold Addr.add; split <;> simp_all

def isAggD : TypeDesc → Bool
  | .struct _ | .array _ _ => true
  | _ => false
theorem run_isAgg {t : TypeId} {d : TypeDesc} (h : P.underlying t = some d) (w : World) : (isAgg t).run P w = .ok (isAggD d) w := by
  simp only [isAgg, Sem.run_bind, run_underlying h, Result.andThen_ok]
  cases d <;> rfl
theorem run_sizeOf' {t : TypeId} {i : TypeInfo} (h : P.info? t = some i) (w : World) : (sizeOf t).run P w = .ok i.size w := by
  simp [sizeOf, typeInfo, h]

/-- The cells that the list tells, one behind the other. -/
theorem cells_rel {W0 W : World} (h : WRel L D m W0 W) {b : Nat} {k : Blk} (hk : L.hp.get b = some k) (o : Nat) (n : Nat) (hn : ((k.cells.drop o).take n).length = n) :
    ∃ ys : List Value, ys.length = n ∧ VRels D m ((k.cells.drop o).take n) ys ∧ ∀ w : World, w.heap[(m b).blk]? = W.heap[(m b).blk]? → ∀ j v, ys[j]? = some v → w.cell? ⟨(m b).blk, o + j, none⟩ = some v := by
  obtain ⟨_, _, _, cs, el, fz, hc, _, _, hr⟩ := h.blk b k hk
  have hlen : ((cs.toList.drop o).take n).length = n := by
    simp only [List.length_take, List.length_drop] at hn ⊢
    have : k.cells.length ≤ cs.toList.length := by
      by_cases h0 : k.cells.length = 0
      · omega
      · obtain ⟨v', hv, _⟩ := hr (k.cells.length - 1) (k.cells[k.cells.length - 1]'(by omega)) (by first | (simp; done) | (simp; omega))
        have := (Array.getElem?_eq_some_iff.1 hv).1
        simp; omega
    omega
  refine ⟨(cs.toList.drop o).take n, hlen, VRels.of_at (hn.trans hlen.symm) ?_, ?_⟩
  · intro j v v' h1 h2
    have hj : j < n := by rw [← hn]; exact (List.getElem?_eq_some_iff.1 h1).1
    rw [List.getElem?_take_of_lt hj, List.getElem?_drop] at h1 h2
    obtain ⟨v2, hv2, hr2⟩ := hr (o + j) v h1
    rw [Array.getElem?_toList] at h2
    rw [hv2] at h2
    cases h2
    exact hr2
  · intro w hw j v hj
    have hj' : j < n := by rw [← hlen]; exact (List.getElem?_eq_some_iff.1 hj).1
    rw [List.getElem?_take_of_lt hj', List.getElem?_drop, Array.getElem?_toList] at hj
    rw [hc] at hw
    simp [World.cell?, hw, hj]

def loadL (P : Program) (t : TypeId) (k : Blk) (o : Nat) : Option Value :=
  match P.underlying t, P.info? t with
  | some d, some i => bif isAggD d then (bif Nat.beq ((k.cells.drop o).take i.size).length i.size then some (.agg ⟨(k.cells.drop o).take i.size⟩) else none) else k.cells[o]?
  | _, _ => none
theorem loadVar_ok {W0 W : World} (h : WRel L D m W0 W) {b : Nat} {k : Blk} (hk : L.hp.get b = some k) {t : TypeId} {o : Nat} {v : Value} (hl : loadL P t k o = some v) :
    ∃ v', VRel D m v v' ∧ (loadVar t ⟨(m b).blk, o, none⟩).run P W = .ok v' W := by
  unfold loadL at hl
  split at hl
  · rename_i d i hd hi
    cases ha : isAggD d with
    | true =>
      simp only [ha, cond_true] at hl
      cases hb : Nat.beq ((k.cells.drop o).take i.size).length i.size with
      | false => rw [hb, cond_false] at hl; cases hl
      | true =>
        rw [hb, cond_true] at hl
        simp only [Option.some.injEq] at hl
        subst hl
        obtain ⟨ys, hy, hr, hc⟩ := cells_rel h hk o i.size (Nat.eq_of_beq_eq_true hb)
        refine ⟨.agg ⟨ys⟩, .ag _ _ hr, ?_⟩
        have hrun := run_loadCells_list (P := P) W ⟨(m b).blk, o, none⟩ ys (fun j v hj => by rw [Addr.add_none]; exact hc W rfl j v hj)
        rw [hy] at hrun
        simp only [loadVar, Sem.run_bind, run_isAgg hd, ha, Result.andThen_ok, if_true, run_sizeOf' hi, hrun]
        rfl
    | false =>
      simp only [ha, cond_false] at hl
      obtain ⟨_, _, _, cs, el, fz, hcs, _, _, hr⟩ := h.blk b k hk
      obtain ⟨v', hv, hr'⟩ := hr o v hl
      refine ⟨v', hr', ?_⟩
      have hc : W.cell? ⟨(m b).blk, o, none⟩ = some v' := by simp [World.cell?, hcs, hv]
      simp [loadVar, run_isAgg hd, ha, run_load, hc]
  · cases hl

def ldop (P : Program) (L : LS) (t : TypeId) (x : Value) : Option Value :=
  match x with
  | .pointer (some ⟨b, o, none⟩) => match L.hp.get b with
    | some k => loadL P t k o
    | none => none
  | _ => none
theorem ldop_ok {ρ ρ' : Operand → Value} {o : Oper} (hρ : Rl D m ρ ρ' o) {W0 W : World} (hW : WRel L D m W0 W) {t : TypeId} {x : Operand} {v : Value} (ho : o.op = .load t x) (h : ldop P L t (ρ x) = some v) : ∃ v', VRel D m v v' ∧ (execOp ρ' o).run P W = .ok (.value v') W := by
  unfold ldop at h
  split at h
  · rename_i b of hx
    split at h
    · rename_i k hk
      have hp := (ptr_eq (hx ▸ hρ x (by simp [ho, Op.operands]))).1
      obtain ⟨v', hv, hr⟩ := loadVar_ok hW hk h
      exact ⟨v', hv, by simp [execOp, ho, Instr.loadAt, Instr.sureAddr, hp, hr]⟩
    · cases h
  · cases h

def fldop (P : Program) (s : TypeId) (f : Nat) (x : Value) : Option Value :=
  match x with
  | .pointer (some ⟨b, o, none⟩) => match P.underlying s with
    | some (.struct fs) => match fs[f]? with
      | some fl => match P.info? fl.type with
        | some i => bif Nat.beq i.size 0 then none else some (.pointer (some ⟨b, o + fl.offset, none⟩))
        | none => none
      | none => none
    | _ => none
  | _ => none
theorem fldop_ok {ρ ρ' : Operand → Value} {o : Oper} (hρ : Rl D m ρ ρ' o) {s : TypeId} {f : Nat} {x : Operand} {v : Value} (ho : o.op = .fieldAddr s x f) (h : fldop P s f (ρ x) = some v) : RdAll P D m ρ' o v := by
  unfold fldop at h
  split at h
  · rename_i b of hx
    split at h
    · rename_i fs hs
      split at h
      · rename_i fl hf
        split at h
        · rename_i i hi
          cases hz : Nat.beq i.size 0 with
          | true => simp [hz] at h
          | false =>
            simp only [hz, cond_false, Option.some.injEq] at h
            subst h
            obtain ⟨hp, hd⟩ := ptr_eq (hx ▸ hρ x (by simp [ho, Op.operands]))
            refine ⟨_, .pt b _ hd, fun w => ?_⟩
            have hz' : ¬ i.size = 0 := fun e => by rw [e] at hz; cases hz
            simp [execOp, ho, Instr.fieldAt, run_underlying hs, hf, Instr.sureAddr, hp, fieldPlace, run_sizeOf' hi, hz', Addr.add_none]
        · cases h
      · cases h
    · cases h
  · cases h

def ixop (P : Program) (t : TypeId) (x i : Value) : Option Value :=
  match i, x, P.underlying t with
  | .int _ (.ofNat j), .pointer (some ⟨b, o, none⟩), some (.array len e) => match P.info? e with
    | some inf => bif Nat.blt j len then some (.pointer (some ⟨b, o + j * inf.size, none⟩)) else none
    | _ => none
  | .int _ (.ofNat j), .slice (some ⟨b, o, none⟩) n _, some (.slice e) => match P.info? e with
    | some inf => bif Nat.blt j n then some (.pointer (some ⟨b, o + j * inf.size, none⟩)) else none
    | _ => none
  | _, _, _ => none
theorem ixop_ok {ρ ρ' : Operand → Value} {o : Oper} (hρ : Rl D m ρ ρ' o) {t : TypeId} {x i : Operand} {v : Value} (ho : o.op = .indexAddr t x i) (h : ixop P t (ρ x) (ρ i) = some v) : RdAll P D m ρ' o v := by
  unfold ixop at h
  split at h
  · rename_i kd j b of len e hi hx hu
    split at h
    · rename_i inf hinf
      cases hb : Nat.blt j len with
      | false => simp [hb] at h
      | true =>
        simp only [hb, cond_true, Option.some.injEq] at h
        subst h
        have hlt : j < len := by simpa [Nat.blt_eq] using hb
        obtain ⟨hp, hd⟩ := ptr_eq (hx ▸ hρ x (by simp [ho, Op.operands]))
        have hi' := int_eq (hi ▸ hρ i (by simp [ho, Op.operands]))
        refine ⟨_, .pt b _ hd, fun w => ?_⟩
        have hlt' : (j : Int) < (len : Int) := by omega
        simp [execOp, ho, Instr.indexAt, hi', asIntOf, run_underlying hu, Instr.sureAddr, hp, hlt', hlt, run_sizeOf' hinf, Addr.add_none]
    · cases h
  · rename_i kd j b of n c e hi hx hu
    split at h
    · rename_i inf hinf
      cases hb : Nat.blt j n with
      | false => simp [hb] at h
      | true =>
        simp only [hb, cond_true, Option.some.injEq] at h
        subst h
        have hlt : j < n := by simpa [Nat.blt_eq] using hb
        obtain ⟨c', hp, hd, _⟩ := slc_eq (hx ▸ hρ x (by simp [ho, Op.operands]))
        have hi' := int_eq (hi ▸ hρ i (by simp [ho, Op.operands]))
        refine ⟨_, .pt b _ hd, fun w => ?_⟩
        have hlt' : (j : Int) < (n : Int) := by omega
        simp [execOp, ho, Instr.indexAt, hi', asIntOf, run_underlying hu, hp, hlt', hlt, run_sizeOf' hinf, Addr.add_none]
    · cases h
  · cases h

/-! ### Parts of values -/

def partL (P : Program) (t : TypeId) (cs : List Value) (off : Nat) : Option Value :=
  match P.underlying t, P.info? t with
  | some d, some i => bif isAggD d then some (.agg ⟨(cs.drop off).take i.size⟩) else cs[off]?
  | _, _ => none
theorem VRels.drop : ∀ {xs ys : List Value} (n : Nat), VRels D m xs ys → VRels D m (xs.drop n) (ys.drop n)
  | _, _, 0, h => by simpa using h
  | _, _, n + 1, .nil => by simpa using VRels.nil
  | _, _, n + 1, .cons x y xs ys h t => by simpa using t.drop n
theorem VRels.take : ∀ {xs ys : List Value} (n : Nat), VRels D m xs ys → VRels D m (xs.take n) (ys.take n)
  | _, _, 0, h => by simpa using VRels.nil
  | _, _, n + 1, .nil => by simpa using VRels.nil
  | _, _, n + 1, .cons x y xs ys h t => by simpa using VRels.cons x y _ _ h (t.take n)
theorem partL_ok {xs ys : List Value} (h : VRels D m xs ys) {t : TypeId} {off : Nat} {v : Value} (hl : partL P t xs off = some v) :
    ∃ v', VRel D m v v' ∧ ∀ w : World, (part t ⟨ys⟩ off).run P w = .ok v' w := by
  unfold partL at hl
  split at hl
  · rename_i d i hd hi
    cases ha : isAggD d with
    | true =>
      simp only [ha, cond_true, Option.some.injEq] at hl
      subst hl
      refine ⟨.agg ⟨(ys.drop off).take i.size⟩, .ag _ _ ((h.drop off).take i.size), fun w => ?_⟩
      have e : (⟨ys⟩ : Array Value).extract off (off + i.size) = ⟨(ys.drop off).take i.size⟩ := by
        apply Array.ext'
        simp [Array.toList_extract, List.extract_eq_take_drop, List.drop_take]
      simp [part, run_isAgg hd, ha, run_sizeOf' hi, e]
    | false =>
      simp only [ha, cond_false] at hl
      obtain ⟨v', hv, hr⟩ := h.at off v hl
      refine ⟨v', hr, fun w => ?_⟩
      have hv' : (⟨ys⟩ : Array Value)[off]? = some v' := by simpa using hv
      simp [part, run_isAgg hd, ha, hv']
  · cases hl

def fdop (P : Program) (t : TypeId) (f : Nat) (x : Value) : Option Value :=
  match x, P.underlying t with
  | .agg ⟨cs⟩, some (.struct fs) => match fs[f]? with
    | some fl => partL P fl.type cs fl.offset
    | none => none
  | _, _ => none
theorem fdop_ok {ρ ρ' : Operand → Value} {o : Oper} (hρ : Rl D m ρ ρ' o) {t : TypeId} {f : Nat} {x : Operand} {v : Value} (ho : o.op = .field t x f) (h : fdop P t f (ρ x) = some v) : RdAll P D m ρ' o v := by
  unfold fdop at h
  split at h
  · rename_i cs fs hx hu
    split at h
    · rename_i fl hf
      obtain ⟨ys, hy, hr⟩ := agg_eq (hx ▸ hρ x (by simp [ho, Op.operands]))
      obtain ⟨v', hv, hp⟩ := partL_ok hr h
      exact ⟨v', hv, fun w => by simp [execOp, ho, Instr.field, run_underlying hu, hf, hy, asAgg, hp w]⟩
    · cases h
  · cases h

def idop (P : Program) (t : TypeId) (x i : Value) : Option Value :=
  match i, x, P.underlying t with
  | .int _ (.ofNat j), .agg ⟨cs⟩, some (.array len e) => match P.info? e with
    | some inf => bif Nat.blt j len then partL P e cs (j * inf.size) else none
    | _ => none
  | _, _, _ => none
theorem idop_ok {ρ ρ' : Operand → Value} {o : Oper} (hρ : Rl D m ρ ρ' o) {t : TypeId} {x i : Operand} {v : Value} (ho : o.op = .index t x i) (h : idop P t (ρ x) (ρ i) = some v) : RdAll P D m ρ' o v := by
  unfold idop at h
  split at h
  · rename_i kd j cs len e hi hx hu
    split at h
    · rename_i inf hinf
      cases hb : Nat.blt j len with
      | false => simp [hb] at h
      | true =>
        simp only [hb, cond_true] at h
        have hlt : j < len := by simpa [Nat.blt_eq] using hb
        have hi' := int_eq (hi ▸ hρ i (by simp [ho, Op.operands]))
        obtain ⟨ys, hy, hr⟩ := agg_eq (hx ▸ hρ x (by simp [ho, Op.operands]))
        obtain ⟨v', hv, hp⟩ := partL_ok hr h
        have hlt' : (j : Int) < (len : Int) := by omega
        exact ⟨v', hv, fun w => by simp [execOp, ho, Instr.index, hi', asIntOf, run_underlying hu, hy, hlt', hlt, run_sizeOf' hinf, hp w]⟩
    · cases h
  · cases h

def exop (x : Value) (i : Nat) : Option Value :=
  match x with
  | .tuple ⟨v :: vs⟩ => (v :: vs)[i]?
  | _ => none
theorem exop_ok {ρ ρ' : Operand → Value} {o : Oper} (hρ : Rl D m ρ ρ' o) {i : Nat} {x : Operand} {v : Value} (ho : o.op = .extract x i) (h : exop (ρ x) i = some v) : RdAll P D m ρ' o v := by
  unfold exop at h
  split at h
  · rename_i u us hx
    obtain ⟨ys, hy, hr⟩ := tup_eq (hx ▸ hρ x (by simp [ho, Op.operands]))
    obtain ⟨v', hv, hr'⟩ := hr.at i v h
    have hv' : (⟨ys⟩ : Array Value)[i]? = some v' := by simpa using hv
    exact ⟨v', hr', fun w => by simp [execOp, ho, Instr.extract, hy, hv']⟩
  · cases h

/-! ### Slices -/

def natOf : Option Value → Nat → Option Nat
  | none, d => some d
  | some (.int _ (.ofNat j)), _ => some j
  | _, _ => none
def flexL (fx : Option Nat) (s l c : Nat) : Bool := match fx with | none => true | some e => Nat.beq e s && (Nat.blt l c || Nat.beq l 0)
def flexE (fx : Option Nat) (s : Nat) : Bool := match fx with | none => true | some e => Nat.beq e s
def slop3 (P : Program) (F : En) (t : TypeId) (x : Value) (lo hi mx : Option Value) : Option Value :=
  match x, P.underlying t, mx with
  | .slice (some ⟨b, o, none⟩) n c, some (.slice e), some (.int _ (.ofNat m)) => match F.fx b, P.info? e, natOf lo 0, hi with
    | some fx, some i, some l, some (.int _ (.ofNat h)) =>
      bif Nat.ble m c && Nat.ble h m && Nat.ble l h && flexE fx i.size then some (.slice (some ⟨b, bif Nat.beq m l then o else o + l * i.size, none⟩) (h - l) (m - l)) else none
    | _, _, _, _ => none
  | _, _, _ => none
def noFlex (fx : Option Nat) : Bool := match fx with | none => true | some _ => false
def slop (P : Program) (F : En) (t : TypeId) (x : Value) (lo hi : Option Value) : Option Value :=
  match x, P.underlying t with
  | .slice (some ⟨b, o, none⟩) n c, some (.slice e) => match F.fx b, P.info? e, natOf lo 0, natOf hi n with
    | some fx, some i, some l, some h =>
      bif Nat.ble h c && Nat.ble l h && flexL fx i.size l c then
        some (.slice (some ⟨b, bif Nat.beq c l then o else o + l * i.size, none⟩) (h - l) (c - l)) else none
    | _, _, _, _ => none
  | .pointer (some ⟨b, o, none⟩), some (.array n e) => match F.fx b, P.info? e, natOf lo 0, natOf hi n with
    | some fx, some i, some l, some h =>
      bif Nat.ble h n && Nat.ble l h && noFlex fx then
        some (.slice (some ⟨b, bif Nat.beq n l then o else o + l * i.size, none⟩) (h - l) (n - l)) else none
    | _, _, _, _ => none
  | _, _ => none
theorem natOf_rel {ρ ρ' : Operand → Value} {x : Option Operand} (hρ : ∀ y, x = some y → VRel D m (ρ y) (ρ' y)) {d j : Nat} (h : natOf (x.map ρ) d = some j) : (x = none ∧ d = j) ∨ ∃ y kd, x = some y ∧ ρ' y = .int kd (j : Int) := by
  cases x with
  | none => simp [natOf] at h; exact .inl ⟨rfl, h⟩
  | some y =>
    right
    simp only [Option.map_some] at h
    unfold natOf at h
    split at h
    · rename_i e; cases e
    · rename_i kd i e
      simp only [Option.some.injEq] at h e
      subst h
      exact ⟨y, kd, rfl, int_eq (e ▸ hρ y rfl)⟩
    · cases h
theorem bounds_ok {ρ ρ' : Operand → Value} {lo hi : Option Operand} (h1ρ : ∀ y, lo = some y → VRel D m (ρ y) (ρ' y)) (h2ρ : ∀ y, hi = some y → VRel D m (ρ y) (ρ' y)) {n c l h : Nat} (hl : natOf (lo.map ρ) 0 = some l) (hh : natOf (hi.map ρ) n = some h) (h1 : h ≤ c) (h2 : l ≤ h) (s : Bool) (w : World) :
    (Instr.sliceBounds s n c (lo.map ρ') (hi.map ρ') none).run P w = .ok (l, h, c) w := by
  have h1' : (h : Int) ≤ (c : Int) := by omega
  have h2' : (l : Int) ≤ (h : Int) := by omega
  rcases natOf_rel h1ρ hl with ⟨rfl, rfl⟩ | ⟨y, ky, rfl, ey⟩ <;> rcases natOf_rel h2ρ hh with ⟨rfl, rfl⟩ | ⟨z, kz, rfl, ez⟩ <;> simp [Instr.sliceBounds, Instr.sliceBound, asIntOf, *]
theorem slop_ok {ρ ρ' : Operand → Value} {o : Oper} (hρ : Rl D m ρ ρ' o) {F : En} (hF : FlexOK F D m) {t : TypeId} {x : Operand} {lo hi : Option Operand} {v : Value} (ho : o.op = .slice t x lo hi none) (h : slop P F t (ρ x) (lo.map ρ) (hi.map ρ) = some v) : RdAll P D m ρ' o v := by
  have hlo : ∀ y, lo = some y → VRel D m (ρ y) (ρ' y) := fun y e => hρ y (by simp [ho, Op.operands, e])
  have hhi : ∀ y, hi = some y → VRel D m (ρ y) (ρ' y) := fun y e => hρ y (by simp [ho, Op.operands, e])
  unfold slop at h
  split at h
  · rename_i b of n c e hx hu
    split at h
    · rename_i fx i l hh hk hi hl hhi'
      cases hc : (Nat.ble hh c && Nat.ble l hh && flexL fx i.size l c) with
      | false => rw [hc, cond_false] at h; cases h
      | true =>
        rw [hc, cond_true] at h
        simp only [Option.some.injEq] at h
        subst h
        simp only [Bool.and_eq_true, Nat.ble_eq] at hc
        obtain ⟨⟨h1, h2⟩, h3⟩ := hc
        obtain ⟨c', hp, hd, hcc, he, hf⟩ := slc_eq (hx ▸ hρ x (by simp [ho, Op.operands]))
        have hfx := hF.fx b fx hk
        refine ⟨.slice (some ⟨(m b).blk, bif Nat.beq c l then of else of + l * i.size, none⟩) (hh - l) (c' - l), .sl b _ _ _ _ hd (by omega) (fun e => by rw [he e]) (fun e' he' => ?_), fun w => ?_⟩
        · have := hf e' he'
          rw [hfx] at he'
          subst he'
          simp only [flexL, Bool.and_eq_true, Bool.or_eq_true, Nat.beq_eq, Nat.blt_eq] at h3
          obtain ⟨rfl, h4⟩ := h3
          have e1 : l * i.size + (c' - l) * i.size = c' * i.size := by rw [← Nat.add_mul]; congr 1; omega
          have e2 : (c' - l) * i.size ≤ c' * i.size := Nat.mul_le_mul_right _ (by omega)
          cases hb : Nat.beq c l <;> simp only [cond_true, cond_false] <;> omega
        · have hb := bounds_ok (P := P) hlo hhi hl hhi' (Nat.le_trans h1 hcc) h2 true w
          have ea : (if c' = l then some (⟨(m b).blk, of, none⟩ : Addr) else some ⟨(m b).blk, of + l * i.size, none⟩) = some ⟨(m b).blk, bif Nat.beq c l then of else of + l * i.size, none⟩ := by
            cases fx with
            | none =>
              obtain rfl : c = c' := (he hfx).symm
              cases hb : Nat.beq c l with
              | true => have : c = l := Nat.eq_of_beq_eq_true hb; simp [this]
              | false => have : ¬ c = l := Nat.ne_of_beq_eq_false hb; simp [this]
            | some e' =>
              simp only [flexL, Bool.and_eq_true, Bool.or_eq_true, Nat.beq_eq, Nat.blt_eq] at h3
              rcases h3.2 with h4 | h4
              · have h5 : ¬ c' = l := by omega
                have h6 : Nat.beq c l = false := by cases hq : Nat.beq c l with
                  | false => rfl
                  | true => have := Nat.eq_of_beq_eq_true hq; omega
                simp [h5, h6]
              · subst h4; simp
          simp only [execOp, ho, Instr.sliceAt, Instr.slice, run_underlying hu, Sem.run_bind, Result.andThen_ok, hp, Option.map_none, hb, run_sizeOf' hi]
          simp [Addr.add_none, ea]
    · cases h
  · rename_i b of n e hx hu
    split at h
    · rename_i fx i l hh hk hi hl hhi'
      cases hc : (Nat.ble hh n && Nat.ble l hh && noFlex fx) with
      | false => rw [hc, cond_false] at h; cases h
      | true =>
        rw [hc, cond_true] at h
        simp only [Option.some.injEq] at h
        subst h
        simp only [Bool.and_eq_true, Nat.ble_eq] at hc
        obtain ⟨⟨h1, h2⟩, h3⟩ := hc
        have hfx : fx = none := by cases fx with
          | none => rfl
          | some e => cases h3
        have hfx' := hF.fx b fx hk
        rw [hfx] at hfx'
        obtain ⟨hp, hd⟩ := ptr_eq (hx ▸ hρ x (by simp [ho, Op.operands]))
        refine ⟨.slice (some ⟨(m b).blk, bif Nat.beq n l then of else of + l * i.size, none⟩) (hh - l) (n - l), .sl b _ _ _ _ hd (Nat.le_refl _) (fun _ => rfl) (fun e he => by rw [hfx'] at he; cases he), fun w => ?_⟩
        have hb := bounds_ok (P := P) hlo hhi hl hhi' h1 h2 false w
        have ea : (if n = l then (⟨(m b).blk, of, none⟩ : Addr) else ⟨(m b).blk, of + l * i.size, none⟩) = ⟨(m b).blk, bif Nat.beq n l then of else of + l * i.size, none⟩ := by
          cases hb : Nat.beq n l with
          | true => have : n = l := Nat.eq_of_beq_eq_true hb; simp [this]
          | false => have : ¬ n = l := Nat.ne_of_beq_eq_false hb; simp [this]
        simp only [execOp, ho, Instr.sliceAt, Instr.sureAddr, run_underlying hu, Sem.run_bind, Sem.run_pure, Result.andThen_ok, hp, Option.map_none, hb, run_sizeOf' hi]
        simp [Addr.add_none, ea]
    · cases h
  · cases h

theorem slop3_ok {ρ ρ' : Operand → Value} {o : Oper} (hρ : Rl D m ρ ρ' o) {F : En} (hF : FlexOK F D m) {t : TypeId} {x : Operand} {lo hi mx : Option Operand} {v : Value} (ho : o.op = .slice t x lo hi mx) (h : slop3 P F t (ρ x) (lo.map ρ) (hi.map ρ) (mx.map ρ) = some v) : RdAll P D m ρ' o v := by
  have hlo : ∀ y, lo = some y → VRel D m (ρ y) (ρ' y) := fun y e => hρ y (by simp [ho, Op.operands, e])
  have hhi : ∀ y, hi = some y → VRel D m (ρ y) (ρ' y) := fun y e => hρ y (by simp [ho, Op.operands, e])
  have hmx : ∀ y, mx = some y → VRel D m (ρ y) (ρ' y) := fun y e => hρ y (by simp [ho, Op.operands, e])
  unfold slop3 at h
  split at h
  · rename_i b of n c e kd mm hx hu hm
    split at h
    · rename_i fx i l kh hh hk hi' hl hhh
      cases hc : (Nat.ble mm c && Nat.ble hh mm && Nat.ble l hh && flexE fx i.size) with
      | false => rw [hc, cond_false] at h; cases h
      | true =>
        rw [hc, cond_true] at h
        simp only [Option.some.injEq] at h
        subst h
        simp only [Bool.and_eq_true, Nat.ble_eq] at hc
        obtain ⟨⟨⟨h1, h2⟩, h3⟩, h4⟩ := hc
        have hfx := hF.fx b fx hk
        obtain ⟨c', hp, hd, hcc, he, hf⟩ := slc_eq (hx ▸ hρ x (by simp [ho, Op.operands]))
        obtain ⟨ym, rfl, em⟩ : ∃ y, mx = some y ∧ ρ' y = .int kd (Int.ofNat mm) := by
          cases mx with
          | none => simp at hm
          | some y => simp at hm; exact ⟨y, rfl, int_eq (hm ▸ hmx y rfl)⟩
        obtain ⟨yh, rfl, eh⟩ : ∃ y, hi = some y ∧ ρ' y = .int kh (Int.ofNat hh) := by
          cases hi with
          | none => simp at hhh
          | some y => simp at hhh; exact ⟨y, rfl, int_eq (hhh ▸ hhi y rfl)⟩
        refine ⟨.slice (some ⟨(m b).blk, bif Nat.beq mm l then of else of + l * i.size, none⟩) (hh - l) (mm - l), .sl b _ _ _ _ hd (Nat.le_refl _) (fun _ => rfl) (fun e' he' => ?_), fun w => ?_⟩
        · have := hf e' he'
          rw [hfx] at he'
          subst he'
          simp only [flexE, Nat.beq_eq] at h4
          subst h4
          have e1 : l * i.size + (mm - l) * i.size = mm * i.size := by rw [← Nat.add_mul]; congr 1; omega
          have e2 : (mm - l) * i.size ≤ mm * i.size := Nat.mul_le_mul_right _ (by omega)
          have e3 : mm * i.size ≤ c' * i.size := Nat.mul_le_mul_right _ (by omega)
          cases hb : Nat.beq mm l <;> simp only [cond_true, cond_false] <;> omega
        · have h1' : (mm : Int) ≤ (c' : Int) := by omega
          have h2' : (hh : Int) ≤ (mm : Int) := by omega
          have h3' : (l : Int) ≤ (hh : Int) := by omega
          have hb : (Instr.sliceBounds true n c' (lo.map ρ') (some (.int kh (Int.ofNat hh))) (some (.int kd (Int.ofNat mm)))).run P w = .ok (l, hh, mm) w := by
            rcases natOf_rel hlo hl with ⟨rfl, rfl⟩ | ⟨y, ky, rfl, ey⟩ <;> simp [Instr.sliceBounds, Instr.sliceBound, asIntOf, *]
          have ea : (if mm = l then some (⟨(m b).blk, of, none⟩ : Addr) else some ⟨(m b).blk, of + l * i.size, none⟩) = some ⟨(m b).blk, bif Nat.beq mm l then of else of + l * i.size, none⟩ := by
            cases hq : Nat.beq mm l with
            | true => have : mm = l := Nat.eq_of_beq_eq_true hq; simp [this]
            | false => have : ¬ mm = l := Nat.ne_of_beq_eq_false hq; simp [this]
          simp only [execOp, ho, Instr.sliceAt, Instr.slice, run_underlying hu, Sem.run_bind, Result.andThen_ok, hp, Option.map_some, em, eh, hb, run_sizeOf' hi']
          simp [Addr.add_none, ea]
    · cases h
  · cases h

def lenop (P : Program) (t : TypeId) (x : Value) : Option Value :=
  match x, P.underlying t with
  | .slice (some ⟨_, _, none⟩) n _, some (.slice _) => some (.int .i64 n)
  | _, _ => none
theorem lenop_ok {ρ ρ' : Operand → Value} {o : Oper} (hρ : Rl D m ρ ρ' o) {t : TypeId} {x : Operand} {v : Value} (ho : o.op = .call { callee := .builtin .len, args := #[x], argTypes := #[t] }) (h : lenop P t (ρ x) = some v) : RdAll P D m ρ' o v := by
  unfold lenop at h
  split at h
  · rename_i b of n c e hx hu
    simp only [Option.some.injEq] at h
    subst h
    obtain ⟨c', hp, _⟩ := slc_eq (hx ▸ hρ x (by simp [ho, Op.operands, Call.operands]))
    refine ⟨.int .i64 n, .gr _ rfl, fun w => ?_⟩
    simp [execOp, ho, resolve, invoke, builtin, Builtin.len_, run_underlying hu, hp, goInt]
  · cases h

/-! ### Comparing with nil -/

def nlop (P : Program) (op : BinOp) (t : TypeId) (x y : Value) : Option Value :=
  match op with
  | .eql | .neq =>
    match P.underlying t, x, y with
    | some (.pointer _), .pointer (some ⟨_, _, none⟩), .pointer none => some (.bool (op matches .neq))
    | some (.pointer _), .pointer none, .pointer (some ⟨_, _, none⟩) => some (.bool (op matches .neq))
    | some (.slice _), .slice (some ⟨_, _, none⟩) _ _, .slice none _ _ => some (.bool (op matches .neq))
    | some (.slice _), .slice none _ _, .slice (some ⟨_, _, none⟩) _ _ => some (.bool (op matches .neq))
    | _, _, _ => none
  | _ => none
theorem equal_pn {t e : TypeId} {a : Addr} (hu : P.underlying t = some (.pointer e)) (w : World) : (Op.equal t (.pointer (some a)) (.pointer none)).run P w = .ok false w := by
  rw [Op.equal, Op.maxDepth, Op.equalIn.eq_2]; simp [run_underlying hu]
theorem equal_np {t e : TypeId} {a : Addr} (hu : P.underlying t = some (.pointer e)) (w : World) : (Op.equal t (.pointer none) (.pointer (some a))).run P w = .ok false w := by
  rw [Op.equal, Op.maxDepth, Op.equalIn.eq_2]; simp [run_underlying hu]
theorem equal_sn {t e : TypeId} {a : Addr} {n c n' c' : Nat} (hu : P.underlying t = some (.slice e)) (w : World) : (Op.equal t (.slice (some a) n c) (.slice none n' c')).run P w = .ok false w := by
  rw [Op.equal, Op.maxDepth, Op.equalIn.eq_2]; simp [run_underlying hu]
theorem equal_ns {t e : TypeId} {a : Addr} {n c n' c' : Nat} (hu : P.underlying t = some (.slice e)) (w : World) : (Op.equal t (.slice none n' c') (.slice (some a) n c)).run P w = .ok false w := by
  rw [Op.equal, Op.maxDepth, Op.equalIn.eq_2]; simp [run_underlying hu]
theorem cmp_run {ρ' : Operand → Value} {o : Oper} {op : BinOp} {t yt : TypeId} {x y : Operand} {ne : Bool} {a b : Value} (hop : op = .eql ∧ ne = false ∨ op = .neq ∧ ne = true) (ho : o.op = .binOp op t x y yt) (ha : ρ' x = a) (hb : ρ' y = b)
    (hk : (∃ u v, a = .pointer u ∧ b = .pointer v) ∨ ∃ u v n c n' c', a = .slice u n c ∧ b = .slice v n' c') {w : World} (he : (Op.equal t a b).run P w = .ok false w) : (execOp ρ' o).run P w = .ok (.value (.bool ne)) w := by
  rcases hk with ⟨u, v, rfl, rfl⟩ | ⟨u, v, n, c, n', c', rfl, rfl⟩ <;> rcases hop with ⟨rfl, rfl⟩ | ⟨rfl, rfl⟩ <;>
    simp only [execOp, ho, ha, hb, eqGuard, binOp, Sem.run_bind, he, Result.andThen_ok, Sem.run_pure] <;> simp [he]
/-! ### What is known of named words -/

def veq : Value → Value → Bool
  | .chan (some a), .chan (some b) => Nat.beq a b
  | .int k a, .int k' b => decide (k = k') && decide (a = b)
  | _, _ => false
theorem veq_eq {a b : Value} (h : veq a b = true) : a = b := by
  unfold veq at h
  split at h
  · rw [Nat.eq_of_beq_eq_true h]
  · simp only [Bool.and_eq_true, decide_eq_true_eq] at h; rw [h.1, h.2]
  · cases h
def findLen : List Ent → Nat → Option Value
  | [], _ => none
  | .len a r :: es, k => bif Nat.beq a k then some r else findLen es k
  | _ :: es, k => findLen es k
theorem findLen_mem {k : Nat} {v : Value} : ∀ {es : List Ent}, findLen es k = some v → Ent.len k v ∈ es
  | .len a r :: es, h => by
    simp only [findLen] at h
    cases hb : Nat.beq a k with
    | true => rw [hb, cond_true] at h; cases h; rw [Nat.eq_of_beq_eq_true hb]; simp
    | false => rw [hb, cond_false] at h; exact List.mem_cons_of_mem _ (findLen_mem h)
  | .bin .. :: es, h => by simp only [findLen] at h; exact List.mem_cons_of_mem _ (findLen_mem h)
def findBin : List Ent → BinOp → Value → Value → Option Value
  | [], _, _, _ => none
  | .bin op x y r :: es, o, a, b => bif decide (op = o) && veq x a && veq y b then some r else findBin es o a b
  | _ :: es, o, a, b => findBin es o a b
theorem findBin_mem {o : BinOp} {x y v : Value} : ∀ {es : List Ent}, findBin es o x y = some v → Ent.bin o x y v ∈ es
  | .bin op a b r :: es, h => by
    simp only [findBin] at h
    cases hb : (decide (op = o) && veq a x && veq b y) with
    | true =>
      rw [hb, cond_true] at h
      cases h
      simp only [Bool.and_eq_true, decide_eq_true_eq] at hb
      rw [← hb.1.1, ← veq_eq hb.1.2, ← veq_eq hb.2]
      simp
    | false => rw [hb, cond_false] at h; exact List.mem_cons_of_mem _ (findBin_mem h)
  | .len .. :: es, h => by simp only [findBin] at h; exact List.mem_cons_of_mem _ (findBin_mem h)
def lenE (P : Program) (F : En) (t : TypeId) (x : Value) : Option Value :=
  match x, P.underlying t with
  | .chan (some (k + 1)), some (.slice _) => findLen F.orc k
  | _, _ => none
theorem lenE_ok {ρ ρ' : Operand → Value} {o : Oper} (hρ : Rl D m ρ ρ' o) {F : En} (hF : FlexOK F D m) {t : TypeId} {x : Operand} {v : Value} (ho : o.op = .call { callee := .builtin .len, args := #[x], argTypes := #[t] }) (h : lenE P F t (ρ x) = some v) : RdAll P D m ρ' o v := by
  unfold lenE at h
  split at h <;> try (cases h; done)
  rename_i k e hx hu
  obtain ⟨hd, A, n, c, h1, h2⟩ := hF.orc _ (findLen_mem h)
  have hp := subv_eq (u := (m k).val) (hx ▸ hρ x (by simp [ho, Op.operands, Call.operands])) rfl
  rw [h1] at hp
  exact ⟨_, h2, fun w => by simp [execOp, ho, resolve, invoke, builtin, Builtin.len_, run_underlying hu, hp, goInt]⟩
theorem binE_ok {ρ ρ' : Operand → Value} {o : Oper} (hρ : Rl D m ρ ρ' o) {F : En} (hF : FlexOK F D m) {op : BinOp} {t yt : TypeId} {x y : Operand} {v : Value} (ho : o.op = .binOp op t x y yt) (h : findBin F.orc op (ρ x) (ρ y) = some v) : RdAll P D m ρ' o v := by
  obtain ⟨_, _, kx, ix, ky, iy, r', h1, h2, h3, h4⟩ := hF.orc _ (findBin_mem h)
  have hx := subv_eq (hρ x (by simp [ho, Op.operands])) h1
  have hy := subv_eq (hρ y (by simp [ho, Op.operands])) h2
  refine ⟨r', h3, fun w => ?_⟩
  have hg : (eqGuard op t x y (Value.int kx ix) (.int ky iy)).run P w = .ok () w := by
    unfold eqGuard
    cases op <;> simp
  simp only [execOp, ho, hx, hy, Sem.run_bind, hg, h4, Result.andThen_ok]
  rfl

theorem nil_eq {v' : Value} (h : VRel D m (.pointer none) v') : v' = .pointer none := gnd_eq h rfl
theorem nils_eq {n c : Nat} {v' : Value} (h : VRel D m (.slice none n c) v') : ∃ n' c', v' = .slice none n' c' := by
  cases h with
  | gr v hg => exact ⟨_, _, rfl⟩
theorem nlop_ok {ρ ρ' : Operand → Value} {o : Oper} (hρ : Rl D m ρ ρ' o) {op : BinOp} {t yt : TypeId} {x y : Operand} {v : Value} (ho : o.op = .binOp op t x y yt) (h : nlop P op t (ρ x) (ρ y) = some v) : RdAll P D m ρ' o v := by
  have hx' := hρ x (by simp [ho, Op.operands])
  have hy' := hρ y (by simp [ho, Op.operands])
  have key : ∀ (ne : Bool), (op = .eql ∧ ne = false ∨ op = .neq ∧ ne = true) → (match P.underlying t, ρ x, ρ y with
    | some (.pointer _), .pointer (some ⟨_, _, none⟩), .pointer none => some (Value.bool ne)
    | some (.pointer _), .pointer none, .pointer (some ⟨_, _, none⟩) => some (.bool ne)
    | some (.slice _), .slice (some ⟨_, _, none⟩) _ _, .slice none _ _ => some (.bool ne)
    | some (.slice _), .slice none _ _, .slice (some ⟨_, _, none⟩) _ _ => some (.bool ne)
    | _, _, _ => none) = some v → RdAll P D m ρ' o v := by
    intro ne hop h
    split at h
    · rename_i e b of hu hx hy
      cases h
      exact ⟨.bool ne, .gr _ rfl, fun w => cmp_run hop ho (ptr_eq (hx ▸ hx')).1 (nil_eq (hy ▸ hy')) (.inl ⟨_, _, rfl, rfl⟩) (equal_pn hu w)⟩
    · rename_i e b of hu hx hy
      cases h
      exact ⟨.bool ne, .gr _ rfl, fun w => cmp_run hop ho (nil_eq (hx ▸ hx')) (ptr_eq (hy ▸ hy')).1 (.inl ⟨_, _, rfl, rfl⟩) (equal_np hu w)⟩
    · rename_i e b of n c n' c' hu hx hy
      cases h
      obtain ⟨c1, e1, _⟩ := slc_eq (hx ▸ hx')
      obtain ⟨n'', c'', e2⟩ := nils_eq (hy ▸ hy')
      exact ⟨.bool ne, .gr _ rfl, fun w => cmp_run hop ho e1 e2 (.inr ⟨_, _, _, _, _, _, rfl, rfl⟩) (equal_sn hu w)⟩
    · rename_i e n c b of n' c' hu hx hy
      cases h
      obtain ⟨c1, e1, _⟩ := slc_eq (hy ▸ hy')
      obtain ⟨n'', c'', e2⟩ := nils_eq (hx ▸ hx')
      exact ⟨.bool ne, .gr _ rfl, fun w => cmp_run hop ho e2 e1 (.inr ⟨_, _, _, _, _, _, rfl, rfl⟩) (equal_ns hu w)⟩
    · cases h
  unfold nlop at h
  split at h
  · exact key false (.inl ⟨rfl, rfl⟩) h
  · exact key true (.inr ⟨rfl, rfl⟩) h
  · cases h
end
end Go.Proofs.Ytejhjpdcodloaaa.Ev
