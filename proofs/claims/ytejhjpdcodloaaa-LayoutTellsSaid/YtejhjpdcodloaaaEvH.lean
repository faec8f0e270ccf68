/- A region whose order is drawn: the evaluator takes its operations as they stand; whatever order is drawn, the same comes of it: new blocks are made whenever they are, and taken over where they are first used; what writes or calls is done in the order that the edges give. -/
import Derived.Test.YtejhjpdcodloaaaEvG
import Derived.Orders
namespace Go.Proofs.Ytejhjpdcodloaaa.Ev
noncomputable section
open Go Go.RowKit
set_option linter.unusedVariables false
set_option linter.unusedSimpArgs false

variable {L L' L'' : LS} {D D' D'' : Nat → Prop} {m m' m'' : Nat → MB} {P : Program}

/-! ### What waits for what -/

def maskOf (acc : List Nat) : List Edge → Nat → Nat
  | [], s => s
  | e :: es, s => maskOf acc es (bif Region.binds .any e then s ||| (2 ^ e.on ||| acc.getD e.on 0) else s)
def masks : List Oper → List Nat → List Nat
  | [], acc => acc
  | o :: l, acc => masks l (acc ++ [maskOf acc o.after.toList 0])
theorem maskOf_bit {acc : List Nat} {j : Nat} : ∀ {es : List Edge} {s : Nat}, (maskOf acc es s).testBit j = true → s.testBit j = true ∨ ∃ e ∈ es, Region.binds .any e = true ∧ (e.on = j ∨ (acc.getD e.on 0).testBit j = true)
  | [], s, h => .inl h
  | e :: es, s, h => by
    rcases maskOf_bit (es := es) h with h1 | ⟨e', he', hb, hj⟩
    · cases hb : Region.binds .any e with
      | false => rw [hb, cond_false] at h1; exact .inl h1
      | true =>
        rw [hb, cond_true] at h1
        simp only [Nat.testBit_or, Bool.or_eq_true] at h1
        rcases h1 with h1 | h1 | h1
        · exact .inl h1
        · rw [Nat.testBit_two_pow] at h1
          exact .inr ⟨e, by simp, hb, .inl (by simpa using h1)⟩
        · exact .inr ⟨e, by simp, hb, .inr h1⟩
    · exact .inr ⟨e', by simp [he'], hb, hj⟩
theorem masks_spec : ∀ (l : List Oper) (acc : List Nat), (masks l acc).length = acc.length + l.length ∧ (∀ i, i < acc.length → (masks l acc)[i]? = acc[i]?) ∧
    ∀ i o, l[i]? = some o → (masks l acc)[acc.length + i]? = some (maskOf ((masks l acc).take (acc.length + i)) o.after.toList 0)
  | [], acc => ⟨by simp [masks], fun i _ => rfl, fun i o h => by simp at h⟩
  | o :: l, acc => by
    obtain ⟨h1, h2, h3⟩ := masks_spec l (acc ++ [maskOf acc o.after.toList 0])
    simp only [List.length_append, List.length_cons, List.length_nil] at h1 h2 h3
    refine ⟨by simp only [masks, List.length_cons]; omega, fun i hi => ?_, fun i o' ho => ?_⟩
    · simp only [masks]
      rw [h2 i (by omega), List.getElem?_append_left hi]
    · cases i with
      | zero =>
        simp at ho
        subst ho
        simp only [masks, Nat.add_zero]
        rw [h2 acc.length (by omega), List.getElem?_append_right (Nat.le_refl _)]
        simp only [Nat.sub_self, List.getElem?_cons_zero, Option.some.injEq]
        congr 1
        apply List.ext_getElem?
        intro j
        by_cases hj : j < acc.length
        · rw [List.getElem?_take_of_lt hj, h2 j (by omega), List.getElem?_append_left hj]
        · rw [List.getElem?_eq_none (by omega), List.getElem?_eq_none (by simp; omega)]
      | succ i =>
        have := h3 i o' (by simpa using ho)
        simp only [masks]
        rw [show acc.length + (i + 1) = acc.length + 1 + i by omega]
        exact this

def mskOf (ops : Array Oper) : List Nat := masks ops.toList []
def wb (M : List Nat) (i j : Nat) : Bool := (M.getD i 0).testBit j

def Listed (listed : Array Bool) (j : Nat) : Prop := listed.getD j false = true
def Closed (ops : Array Oper) (listed : Array Bool) : Prop := ∀ j o, ops[j]? = some o → Listed listed j → ∀ e ∈ o.after, Region.binds .any e = true → Listed listed e.on
/-- All edges go back. -/
def Back (ops : Array Oper) : Prop := ∀ i o, ops[i]? = some o → ∀ e ∈ o.after, Region.binds .any e = true → e.on < i

theorem wb_step {ops : Array Oper} {i j : Nat} (h : wb (mskOf ops) i j = true) : ∃ o, ops[i]? = some o ∧ ∃ e ∈ o.after, Region.binds .any e = true ∧ (e.on = j ∨ e.on < i ∧ wb (mskOf ops) e.on j = true) := by
  obtain ⟨h1, h2, h3⟩ := masks_spec ops.toList []
  simp only [List.length_nil, Nat.zero_add] at h1 h3
  unfold wb at h
  cases ho : ops[i]? with
  | none =>
    have : (mskOf ops)[i]? = none := by rw [List.getElem?_eq_none_iff]; unfold mskOf; rw [h1]; have := Array.getElem?_eq_none_iff.1 ho; simpa using this
    rw [List.getD_eq_getElem?_getD, this] at h
    simp at h
  | some o =>
    have hm := h3 i o (by simpa using ho)
    refine ⟨o, rfl, ?_⟩
    have e : (mskOf ops).getD i 0 = maskOf ((mskOf ops).take i) o.after.toList 0 := by rw [List.getD_eq_getElem?_getD]; unfold mskOf; rw [hm]; rfl
    rw [e] at h
    rcases maskOf_bit h with h' | ⟨e', he', hb, hj⟩
    · simp at h'
    · refine ⟨e', by simpa using he', hb, hj.imp id fun hj => ?_⟩
      by_cases hlt : e'.on < i
      · refine ⟨hlt, ?_⟩
        unfold wb
        rw [List.getD_eq_getElem?_getD] at hj ⊢
        rwa [List.getElem?_take_of_lt hlt] at hj
      · rw [List.getD_eq_getElem?_getD, List.getElem?_eq_none (by simp; omega)] at hj
        simp at hj
theorem wb_lt {ops : Array Oper} (hB : Back ops) : ∀ (i j : Nat), wb (mskOf ops) i j = true → j < i := by
  intro i
  induction i using Nat.strongRecOn with
  | _ i ih =>
    intro j h
    obtain ⟨o, ho, e, he, hb, hj⟩ := wb_step h
    have := hB i o ho e he hb
    rcases hj with rfl | ⟨h1, h2⟩
    · exact this
    · have := ih e.on h1 j h2; omega
theorem wb_listed {ops : Array Oper} {listed : Array Bool} (hC : Closed ops listed) : ∀ (i j : Nat), wb (mskOf ops) i j = true → Listed listed i → Listed listed j := by
  intro i
  induction i using Nat.strongRecOn with
  | _ i ih =>
    intro j h hl
    obtain ⟨o, ho, e, he, hb, hj⟩ := wb_step h
    have := hC i o ho hl e he hb
    rcases hj with rfl | ⟨h1, h2⟩
    · exact this
    · exact ih e.on h1 j h2 this
theorem wb_ready {ops : Array Oper} {listed : Array Bool} (hC : Closed ops listed) {i j : Nat} (hr : i ∈ Region.ready .any ops listed) (h : wb (mskOf ops) i j = true) : Listed listed j := by
  obtain ⟨_, o', ho', hall⟩ := mem_ready.1 hr
  obtain ⟨o, ho, e, he, hb, hj⟩ := wb_step h
  rw [ho] at ho'
  cases ho'
  have := hall e he hb
  rcases hj with rfl | ⟨h1, h2⟩
  · exact this
  · exact wb_listed hC e.on j h2 this

/-! ### Which regions -/

def effK (o : Oper) : Bool := match o.op with
  | .store .. => true
  | .call c => (match c.callee with | .builtin .len | .builtin .min | .builtin .max => false | _ => true)
  | _ => false
def ldK (o : Oper) : Bool := match o.op with
  | .load .. => true
  | .convert .. => true
  | _ => false
def allIx (n : Nat) (p : Nat → Bool) : Bool := (List.range n).all p
theorem allIx_at {n : Nat} {p : Nat → Bool} (h : allIx n p = true) {i : Nat} (hi : i < n) : p i = true := List.all_eq_true.1 h i (List.mem_range.2 hi)
def opAt (ops : Array Oper) (i : Nat) : Oper := ops.getD i default
/-- Edges go back; no two write one temporary; who looks at a temporary that another one writes waits for it, or is waited for; what writes or calls is done in order. -/
def okB (ops : Array Oper) (M : List Nat) : Bool :=
  Region.noSelect ops &&
  allIx ops.size fun i =>
    ((opAt ops i).after.toList.all fun e => !Region.binds .any e || Nat.blt e.on i) &&
    allIx ops.size fun j =>
      Nat.beq i j ||
      ((match (opAt ops i).dst, (opAt ops j).dst with | some d, some d' => !Nat.beq d d' | _, _ => true) &&
       (match (opAt ops j).dst with | some d => !((opAt ops i).looksAt ops).contains d || wb M i j || wb M j i | none => true) &&
       (!(effK (opAt ops i) && effK (opAt ops j) && Nat.blt j i) || wb M i j))
/-- All that loads is done ahead of it. -/
def fullB (ops : Array Oper) (M : List Nat) (i : Nat) : Bool := allIx ops.size fun j => !ldK (opAt ops j) || wb M i j

theorem opAt_eq {ops : Array Oper} {i : Nat} {o : Oper} (h : ops[i]? = some o) : opAt ops i = o ∧ i < ops.size := by
  have := Array.getElem?_eq_some_iff.1 h
  exact ⟨by unfold opAt; rw [Array.getD_eq_getD_getElem?, h]; rfl, this.1⟩
structure RegOK (ops : Array Oper) : Prop where
  sel : Region.noSelect ops = true
  back : Back ops
  dst : ∀ (i j : Nat) (oi oj : Oper) (d : Tmp), ops[i]? = some oi → ops[j]? = some oj → oi.dst = some d → oj.dst = some d → i = j
  look : ∀ (i j : Nat) (oi oj : Oper) (d : Tmp), ops[i]? = some oi → ops[j]? = some oj → i ≠ j → oj.dst = some d → d ∈ oi.looksAt ops → wb (mskOf ops) i j = true ∨ wb (mskOf ops) j i = true
  eff : ∀ (i j : Nat) (oi oj : Oper), ops[i]? = some oi → ops[j]? = some oj → effK oi = true → effK oj = true → j < i → wb (mskOf ops) i j = true
theorem okB_spec {ops : Array Oper} (h : okB ops (mskOf ops) = true) : RegOK ops := by
  unfold okB at h
  rw [Bool.and_eq_true] at h
  have key : ∀ i j oi oj, ops[i]? = some oi → ops[j]? = some oj → i ≠ j → _ := fun i j oi oj hi hj hne => by
    have h1 := allIx_at h.2 (opAt_eq hi).2
    rw [Bool.and_eq_true] at h1
    have h2 := allIx_at h1.2 (opAt_eq hj).2
    have hb : Nat.beq i j = false := by
      cases hq : Nat.beq i j with
      | false => rfl
      | true => exact absurd (Nat.eq_of_beq_eq_true hq) hne
    rw [(opAt_eq hi).1, (opAt_eq hj).1, hb, Bool.false_or] at h2
    simp only [Bool.and_eq_true] at h2
    exact h2
  refine ⟨h.1, fun i o ho e he hb => ?_, fun i j oi oj d hi hj hdi hdj => ?_, fun i j oi oj d hi hj hne hd hl => ?_, fun i j oi oj hi hj h1 h2 hlt => ?_⟩
  · have h1 := allIx_at h.2 (opAt_eq ho).2
    rw [Bool.and_eq_true, (opAt_eq ho).1] at h1
    have h2 := List.all_eq_true.1 h1.1 e (by simpa using he)
    simpa [hb, Nat.blt_eq] using h2
  · by_cases hne : i = j
    · exact hne
    · obtain ⟨⟨h1, h2⟩, h3⟩ := key i j oi oj hi hj hne
      rw [hdi, hdj] at h1
      simp at h1
  · obtain ⟨⟨h1, h2⟩, h3⟩ := key i j oi oj hi hj hne
    rw [hd] at h2
    simp only [Bool.or_eq_true, Bool.not_eq_true', List.contains_eq_mem, decide_eq_false_iff_not] at h2
    rcases h2 with (h2 | h2) | h2
    · exact absurd hl h2
    · exact .inl h2
    · exact .inr h2
  · obtain ⟨⟨_, _⟩, h3⟩ := key i j oi oj hi hj (by omega)
    have hb : Nat.blt j i = true := by simpa [Nat.blt_eq] using hlt
    simpa [h1, h2, hb] using h3

/-! ### The run of a region -/

structure PS where
  t : Tr Value
  L : LS
  pend : List (Nat × List Value)
inductive SK where
  | skip | pure | load | alloc | eff
def joins (n0 : Nat) : List (Nat × List Value) → LS → LS
  | [], L => L
  | p :: ps, L => joins n0 ps (L.put (n0 + p.1) (some ⟨p.2, none⟩))

def regStep (P : Program) (evf : Evf) (ro : Nat) (L0 : LS) (ops : Array Oper) (M : List Nat) (nt : Nat) (i : Nat) (o : Oper) (st : PS) : Option (SK × Value × List Value × PS) :=
  match wantL ops st.t o with
  | some true =>
    match ldo P L0 (lev L0.gl st.t) o with
    | some v => match putL nt st.t o.dst v with
      | some t' => some (.load, v, [], ⟨t', st.L, st.pend⟩)
      | none => none
    | none => match rdop P (fxOf L0) (lev L0.gl st.t) o with
      | some v => match putL nt st.t o.dst v with
        | some t' => some (.pure, v, [], ⟨t', st.L, st.pend⟩)
        | none => none
      | none => match aop P (lev L0.gl st.t) o with
        | some (cs, sh) => match putL nt st.t o.dst (shp (L0.n + i) sh) with
          | some t' => some (.alloc, shp (L0.n + i) sh, cs, ⟨t', st.L, (i, cs) :: st.pend⟩)
          | none => none
        | none => bif effK o then (match opE P evf (bif fullB ops M i then ro else L0.n) st.t o (joins L0.n (st.pend.filter fun p => wb M i p.1) st.L) with
          | some (v, L') => match putL nt st.t o.dst v with
            | some t' => some (.eff, v, [], ⟨t', L', st.pend.filter fun p => !wb M i p.1⟩)
            | none => none
          | none => none) else none
  | some false => match putL nt st.t o.dst (.chan (some 0)) with
    | some t' => some (.skip, .chan (some 0), [], ⟨t', st.L, st.pend⟩)
    | none => none
  | none => none

def regRun (P : Program) (evf : Evf) (ro : Nat) (L0 : LS) (ops : Array Oper) (M : List Nat) (nt : Nat) : Nat → List Oper → PS → Option PS
  | _, [], st => some st
  | i, o :: l, st => match regStep P evf ro L0 ops M nt i o st with
    | some (_, _, _, st') => regRun P evf ro L0 ops M nt (i + 1) l st'
    | none => none
def regL (P : Program) (evf : Evf) (ro : Nat) (L0 : LS) (ops : Array Oper) (nt : Nat) (t : Tr Value) : Option (Tr Value × LS) :=
  bif okB ops (mskOf ops) && Nat.ble ro L0.n then (match regRun P evf ro L0 ops (mskOf ops) nt 0 ops.toList ⟨t, ⟨L0.hp, L0.n + ops.size, L0.orc, L0.gl⟩, []⟩ with
    | some st => some (st.t, joins L0.n st.pend st.L)
    | none => none) else none

/-- What the run came through. -/
structure Run (P : Program) (evf : Evf) (ro : Nat) (L0 : LS) (ops : Array Oper) (nt : Nat) (t : Tr Value) where
  S : Nat → PS
  K : Nat → SK
  V : Nat → Value
  C : Nat → List Value
  st0 : S 0 = ⟨t, ⟨L0.hp, L0.n + ops.size, L0.orc, L0.gl⟩, []⟩
  step : ∀ i o, ops[i]? = some o → regStep P evf ro L0 ops (mskOf ops) nt i o (S i) = some (K i, V i, C i, S (i + 1))
theorem run_of {evf : Evf} {ro : Nat} {L0 : LS} {ops : Array Oper} {M : List Nat} {nt : Nat} : ∀ (l : List Oper) (i : Nat) (st fin : PS), regRun P evf ro L0 ops M nt i l st = some fin →
    ∃ (S : Nat → PS) (K : Nat → SK) (V : Nat → Value) (C : Nat → List Value), S i = st ∧ S (i + l.length) = fin ∧ ∀ j o, l[j]? = some o → regStep P evf ro L0 ops M nt (i + j) o (S (i + j)) = some (K (i + j), V (i + j), C (i + j), S (i + j + 1))
  | [], i, st, fin, h => by
    simp only [regRun, Option.some.injEq] at h
    subst h
    exact ⟨fun _ => st, fun _ => .skip, fun _ => undef, fun _ => [], rfl, rfl, fun j o h => by simp at h⟩
  | o :: l, i, st, fin, h => by
    simp only [regRun] at h
    split at h <;> try (cases h; done)
    rename_i k v c st' hs
    obtain ⟨S, K, V, C, h1, h2, h3⟩ := run_of l (i + 1) st' fin h
    refine ⟨fun j => if j = i then st else S j, fun j => if j = i then k else K j, fun j => if j = i then v else V j, fun j => if j = i then c else C j, by simp, ?_, fun j o' ho => ?_⟩
    · simp only [List.length_cons]
      rw [if_neg (by omega), show i + (l.length + 1) = i + 1 + l.length by omega]
      exact h2
    · cases j with
      | zero =>
        simp at ho
        subst ho
        simp only [Nat.add_zero, if_true]
        rw [if_neg (by omega), h1]
        exact hs
      | succ j =>
        have := h3 j o' (by simpa using ho)
        have e1 : ¬ (i + (j + 1) = i) := by omega
        have e2 : ¬ (i + (j + 1) + 1 = i) := by omega
        simp only [e1, e2, if_false]
        rw [show i + (j + 1) = i + 1 + j by omega]
        exact this
end
end Go.Proofs.Ytejhjpdcodloaaa.Ev
