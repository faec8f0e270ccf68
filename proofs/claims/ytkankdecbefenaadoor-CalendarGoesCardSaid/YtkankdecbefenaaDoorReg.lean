/- A region whose order is drawn, of which some operations yield what hangs on the world (new memory; what a call made): one walk in the order of the text serves every order; no condition. -/
import Derived.Test.YtkankdecbefenaaDoorKin
import Derived.Orders
namespace Go.Proofs.YtkankdecbefenaaDoor.Base
open Go.ChangeShapes Go.WideShapes Go.ChangeAt Go.RowKit
set_option linter.unusedVariables false
set_option linter.unusedSimpArgs false

/-! ### What waits for what -/

def maskOf (acc : List Nat) : List Edge → Nat → Nat
  | [], s => s
  | e :: es, s => maskOf acc es (bif Region.binds .any e then s ||| (2 ^ e.on ||| acc.getD e.on 0) else s)
def masks : List Oper → List Nat → List Nat
  | [], acc => acc
  | o :: l, acc => masks l (acc ++ [maskOf acc o.after.toList 0])
theorem maskOf_bit {acc : List Nat} {j : Nat} : ∀ {es : List Edge} {s : Nat}, (maskOf acc es s).testBit j = true → s.testBit j = true ∨ ∃ e ∈ es, Region.binds .any e = true ∧ (e.on = j ∨ (acc.getD e.on 0).testBit j = true)
  | [], s, h => .inl h
  | e :: es, s, h => by
    rcases maskOf_bit (es := es) h with h1 | ⟨e', he', hb, hj⟩
    · cases hb : Region.binds .any e with
      | false => rw [hb, cond_false] at h1; exact .inl h1
      | true =>
        rw [hb, cond_true] at h1
        simp only [Nat.testBit_or, Bool.or_eq_true] at h1
        rcases h1 with h1 | h1 | h1
        · exact .inl h1
        · rw [Nat.testBit_two_pow] at h1
          exact .inr ⟨e, by simp, hb, .inl (by simpa using h1)⟩
        · exact .inr ⟨e, by simp, hb, .inr h1⟩
    · exact .inr ⟨e', by simp [he'], hb, hj⟩
theorem masks_spec : ∀ (l : List Oper) (acc : List Nat), (masks l acc).length = acc.length + l.length ∧ (∀ i, i < acc.length → (masks l acc)[i]? = acc[i]?) ∧
    ∀ i o, l[i]? = some o → (masks l acc)[acc.length + i]? = some (maskOf ((masks l acc).take (acc.length + i)) o.after.toList 0)
  | [], acc => ⟨by simp [masks], fun i _ => rfl, fun i o h => by simp at h⟩
  | o :: l, acc => by
    obtain ⟨h1, h2, h3⟩ := masks_spec l (acc ++ [maskOf acc o.after.toList 0])
    simp only [List.length_append, List.length_cons, List.length_nil] at h1 h2 h3
    refine ⟨by simp only [masks, List.length_cons]; omega, fun i hi => ?_, fun i o' ho => ?_⟩
    · simp only [masks]
      rw [h2 i (by omega), List.getElem?_append_left hi]
    · cases i with
      | zero =>
        simp at ho
        subst ho
        simp only [masks, Nat.add_zero]
        rw [h2 acc.length (by omega), List.getElem?_append_right (Nat.le_refl _)]
        simp only [Nat.sub_self, List.getElem?_cons_zero, Option.some.injEq]
        congr 1
        apply List.ext_getElem?
        intro j
        by_cases hj : j < acc.length
        · rw [List.getElem?_take_of_lt hj, h2 j (by omega), List.getElem?_append_left hj]
        · rw [List.getElem?_eq_none (by omega), List.getElem?_eq_none (by simp; omega)]
      | succ i =>
        have := h3 i o' (by simpa using ho)
        simp only [masks]
        rw [show acc.length + (i + 1) = acc.length + 1 + i by omega]
        exact this
def mskOf (ops : Array Oper) : List Nat := masks ops.toList []
def wb (M : List Nat) (i j : Nat) : Bool := (M.getD i 0).testBit j
def Listed (listed : Array Bool) (j : Nat) : Prop := listed.getD j false = true
def Closed (ops : Array Oper) (listed : Array Bool) : Prop := ∀ j o, ops[j]? = some o → Listed listed j → ∀ e ∈ o.after, Region.binds .any e = true → Listed listed e.on
def Back (ops : Array Oper) : Prop := ∀ i o, ops[i]? = some o → ∀ e ∈ o.after, Region.binds .any e = true → e.on < i
theorem wb_step {ops : Array Oper} {i j : Nat} (h : wb (mskOf ops) i j = true) : ∃ o, ops[i]? = some o ∧ ∃ e ∈ o.after, Region.binds .any e = true ∧ (e.on = j ∨ e.on < i ∧ wb (mskOf ops) e.on j = true) := by
  obtain ⟨h1, h2, h3⟩ := masks_spec ops.toList []
  simp only [List.length_nil, Nat.zero_add] at h1 h3
  unfold wb at h
  cases ho : ops[i]? with
  | none =>
    have : (mskOf ops)[i]? = none := by rw [List.getElem?_eq_none_iff]; unfold mskOf; rw [h1]; have := Array.getElem?_eq_none_iff.1 ho; simpa using this
    rw [List.getD_eq_getElem?_getD, this] at h
    simp at h
  | some o =>
    have hm := h3 i o (by simpa using ho)
    refine ⟨o, rfl, ?_⟩
    have e : (mskOf ops).getD i 0 = maskOf ((mskOf ops).take i) o.after.toList 0 := by rw [List.getD_eq_getElem?_getD]; unfold mskOf; rw [hm]; rfl
    rw [e] at h
    rcases maskOf_bit h with h' | ⟨e', he', hb, hj⟩
    · simp at h'
    · refine ⟨e', by simpa using he', hb, hj.imp id fun hj => ?_⟩
      by_cases hlt : e'.on < i
      · refine ⟨hlt, ?_⟩
        unfold wb
        rw [List.getD_eq_getElem?_getD] at hj ⊢
        rwa [List.getElem?_take_of_lt hlt] at hj
      · rw [List.getD_eq_getElem?_getD, List.getElem?_eq_none (by simp; omega)] at hj
        simp at hj
theorem wb_listed {ops : Array Oper} {listed : Array Bool} (hC : Closed ops listed) : ∀ (i j : Nat), wb (mskOf ops) i j = true → Listed listed i → Listed listed j := by
  intro i
  induction i using Nat.strongRecOn with
  | _ i ih =>
    intro j h hl
    obtain ⟨o, ho, e, he, hb, hj⟩ := wb_step h
    have h1 := hC i o ho hl e he hb
    rcases hj with rfl | ⟨hlt, hj⟩
    · exact h1
    · exact ih _ hlt j hj h1
theorem wb_ready {ops : Array Oper} {listed : Array Bool} (hC : Closed ops listed) {i j : Nat} {o : Oper} (ho : ops[i]? = some o) (hr : ∀ e ∈ o.after, Region.binds .any e = true → Listed listed e.on) (h : wb (mskOf ops) i j = true) : Listed listed j := by
  obtain ⟨o', ho', e, he, hb, hj⟩ := wb_step h
  rw [ho] at ho'
  cases ho'
  have h1 := hr e he hb
  rcases hj with rfl | ⟨_, hj⟩
  · exact h1
  · exact wb_listed hC _ _ hj h1

/-! ### What an operation yields -/

/-- What is known of a value, in a world. -/
abbrev Sp := Value → World → Prop
def Stable (V : Sp) : Prop := ∀ v w w', V v w → Below w.heap.size w w' → V v w'
/-- A value that is known, or what is known of it. -/
inductive SpE where
  | d (c : Value)
  | g (V : Sp)
def SpE.sp : SpE → Sp
  | .d c => fun v _ => v = c
  | .g V => V
def givesR (P : Program) (w : World) (V : Sp) : Result Next → Prop
  | .ok (.value v) w' => Below w.heap.size w w' ∧ V v w'
  | .ok .skip w' => Below w.heap.size w w' ∧ V undef w'
  | .ok (.enter f args) w' => Calls P f args w' fun e w'' => ∃ v, e = .returned v ∧ Below w.heap.size w w'' ∧ V v w''
  | _ => False
def gives (P : Program) (o : Oper) (a : Act) (w : World) (V : Sp) : Prop := givesR P w V ((execOp a.eval o).run P w)
theorem gives_run {P : Program} {o : Oper} {a : Act} {w : World} {c : Value} (h : (execOp a.eval o).run P w = .ok (.value c) w) : gives P o a w (SpE.d c).sp := by
  unfold gives
  rw [h]
  exact ⟨Below.refl _ _, rfl⟩
theorem gives_ok {P : Program} {o : Oper} {a : Act} {w w' : World} {v : Value} {V : Sp} (h : (execOp a.eval o).run P w = .ok (.value v) w') (hb : Below w.heap.size w w') (hv : V v w') : gives P o a w V := by
  unfold gives
  rw [h]
  exact ⟨hb, hv⟩
theorem gives_call {P : Program} {o : Oper} {a : Act} {w : World} {f : FuncId} {args : Array Value} {V : Sp} (h : (execOp a.eval o).run P w = .ok (.enter f args) w)
    (hc : Calls P f args w fun e w' => ∃ v, e = .returned v ∧ Below w.heap.size w w' ∧ V v w') : gives P o a w V := by
  unfold gives
  rw [h]
  exact hc
theorem gives_det {P : Program} {o : Oper} {a : Act} {w : World} {f : FuncId} {args : Array Value} {c : Value} (h : (execOp a.eval o).run P w = .ok (.enter f args) w)
    (hc : Calls P f args w fun e w' => e = .returned c ∧ Below w.heap.size w w') : gives P o a w (SpE.d c).sp :=
  gives_call h (hc.mono fun _ _ ⟨he, hb⟩ => ⟨c, he, hb, rfl⟩)
theorem gives_det_same {P : Program} {o : Oper} {a : Act} {w : World} {f : FuncId} {args : Array Value} {c : Value} (h : (execOp a.eval o).run P w = .ok (.enter f args) w)
    (hc : Calls P f args w fun e w' => e = .returned c ∧ w = w') : gives P o a w (SpE.d c).sp :=
  gives_call h (hc.mono fun _ _ ⟨he, hb⟩ => ⟨c, he, hb ▸ Below.refl _ _, rfl⟩)

abbrev Facts := List (Nat × (World → Prop))
def factsOK (M : List Nat) (F : Facts) (i : Nat) (w : World) : Prop := ∀ f ∈ F, wb M i f.1 = true → f.2 w
/-- The walk in the order of the text. -/
def SpecW (P : Program) (ops : Array Oper) (M : List Nat) (w0 : World) (Q : Act → World → Prop) : Nat → List Oper → Facts → Act → List SpE → Prop
  | _, [], F, a, _ => ∀ x : Kin w0, (∀ f ∈ F, f.2 x.world) → Q a x.world
  | i, o :: rest, F, a, .d c :: Vs => (if Region.wanted o (yielded ops a.tmps) = true then ∀ x : Kin w0, factsOK M F i x.world → gives P o a x.world (SpE.d c).sp else c = undef) ∧ SpecW P ops M w0 Q (i + 1) rest F (a.put o.dst c) Vs
  | i, o :: rest, F, a, .g V :: Vs => Stable V ∧ (∃ v, ∃ x : Kin w0, V v x.world) ∧ Region.wanted o (yielded ops a.tmps) = true ∧ (∀ x : Kin w0, factsOK M F i x.world → gives P o a x.world V) ∧
      ∀ v, (∃ x : Kin w0, V v x.world) → SpecW P ops M w0 Q (i + 1) rest ((i, V v) :: F) (a.put o.dst v) Vs
  | _, _ :: _, _, _, [] => False
section
variable {P : Program} {ops : Array Oper} {M : List Nat} {w0 : World} {Q : Act → World → Prop} {i : Nat} {o : Oper} {rest : List Oper} {F : Facts} {a : Act} {Vs : List SpE}
theorem spec_d {c : Value} (hw : Region.wanted o (yielded ops a.tmps) = true) (h : ∀ x : Kin w0, factsOK M F i x.world → gives P o a x.world (SpE.d c).sp) (hr : SpecW P ops M w0 Q (i + 1) rest F (a.put o.dst c) Vs) :
    SpecW P ops M w0 Q i (o :: rest) F a (.d c :: Vs) := ⟨by rw [if_pos hw]; exact h, hr⟩
theorem spec_skip (hw : Region.wanted o (yielded ops a.tmps) = false) (hr : SpecW P ops M w0 Q (i + 1) rest F (a.put o.dst undef) Vs) :
    SpecW P ops M w0 Q i (o :: rest) F a (.d undef :: Vs) := ⟨by rw [if_neg (by rw [hw]; exact Bool.false_ne_true)], hr⟩
theorem spec_g {V : Sp} (hs : Stable V) (hv : ∃ v, ∃ x : Kin w0, V v x.world) (hw : Region.wanted o (yielded ops a.tmps) = true) (h : ∀ x : Kin w0, factsOK M F i x.world → gives P o a x.world V)
    (hr : ∀ v, (∃ x : Kin w0, V v x.world) → SpecW P ops M w0 Q (i + 1) rest ((i, V v) :: F) (a.put o.dst v) Vs) : SpecW P ops M w0 Q i (o :: rest) F a (.g V :: Vs) := ⟨hs, hv, hw, h, hr⟩
theorem spec_end (h : ∀ x : Kin w0, (∀ f ∈ F, f.2 x.world) → Q a x.world) : SpecW P ops M w0 Q i [] F a Vs := by
  unfold SpecW
  exact h
end

/-! ### Any order -/

def dstAt (ops : Array Oper) (j : Nat) : Option Tmp := (ops[j]?).bind (·.dst)
def actL (ops : Array Oper) (vals : Nat → Value) (p : Nat → Bool) : List Nat → Act → Act
  | [], a => a
  | j :: l, a => actL ops vals p l (bif p j then a.put (dstAt ops j) (vals j) else a)
theorem actL_put {ops : Array Oper} {vals : Nat → Value} {p : Nat → Bool} : ∀ (l : List Nat) (a : Act) (x : Option Tmp) (v : Value), (∀ j ∈ l, ∀ d, x = some d → dstAt ops j ≠ some d) → actL ops vals p l (a.put x v) = (actL ops vals p l a).put x v
  | [], a, x, v, h => rfl
  | j :: l, a, x, v, h => by
    unfold actL
    cases hp : p j with
    | false => exact actL_put l a x v (fun j hj => h j (by simp [hj]))
    | true =>
      rw [cond_true, cond_true, Act.put_comm a v (vals j) (h j (by simp))]
      exact actL_put l _ x v (fun j hj => h j (by simp [hj]))
theorem actL_same {ops : Array Oper} {vals vals' : Nat → Value} {p p' : Nat → Bool} : ∀ (l : List Nat) (a : Act), (∀ j ∈ l, p j = p' j ∧ vals j = vals' j) → actL ops vals p l a = actL ops vals' p' l a
  | [], a, h => rfl
  | j :: l, a, h => by
    obtain ⟨h1, h2⟩ := h j (by simp)
    unfold actL
    rw [h1, h2]
    exact actL_same l _ (fun j hj => h j (by simp [hj]))
theorem actL_add {ops : Array Oper} {vals vals' : Nat → Value} {p p' : Nat → Bool} {i : Nat} (hp : p i = false) (hp' : p' i = true) (ho : ∀ j, j ≠ i → p j = p' j ∧ vals j = vals' j) :
    ∀ (l : List Nat) (a : Act), i ∈ l → l.Nodup → (∀ j ∈ l, j ≠ i → ∀ d, dstAt ops i = some d → dstAt ops j ≠ some d) → actL ops vals' p' l a = (actL ops vals p l a).put (dstAt ops i) (vals' i)
  | j :: l, a, hm, hn, hd => by
    rw [List.nodup_cons] at hn
    by_cases hji : j = i
    · subst hji
      unfold actL
      rw [hp, hp', cond_true, cond_false, actL_put l _ _ _ (fun k hk => hd k (by simp [hk]) (fun e => hn.1 (e ▸ hk)))]
      congr 1
      exact (actL_same l a (fun k hk => ho k (fun e => hn.1 (e ▸ hk)))).symm
    · unfold actL
      obtain ⟨h1, h2⟩ := ho j hji
      rw [h1, h2]
      exact actL_add hp hp' ho l _ (by simpa [Ne.symm hji] using hm) hn.2 (fun k hk => hd k (by simp [hk]))
theorem put_at {a a' : Act} {d : Nat} (x : Option Tmp) (v : Value) (hs : a.tmps.size = a'.tmps.size) (h : a.tmps[d]? = a'.tmps[d]?) : (a.put x v).tmps.size = (a'.put x v).tmps.size ∧ (a.put x v).tmps[d]? = (a'.put x v).tmps[d]? := by
  cases x with
  | none => exact ⟨hs, h⟩
  | some e =>
    refine ⟨by simp [Act.put, hs], ?_⟩
    simp only [Act.put, Array.getElem?_setIfInBounds, hs, h]
theorem put_off {a : Act} {d : Nat} (x : Option Tmp) (v : Value) (h : x ≠ some d) : (a.put x v).tmps.size = a.tmps.size ∧ (a.put x v).tmps[d]? = a.tmps[d]? := by
  cases x with
  | none => exact ⟨rfl, rfl⟩
  | some e => exact ⟨by simp [Act.put], by simp only [Act.put]; rw [Array.getElem?_setIfInBounds_ne (fun e' => h (by rw [e']))]⟩
theorem actL_at {ops : Array Oper} {vals : Nat → Value} {p q : Nat → Bool} {d : Nat} : ∀ (l : List Nat) (a a' : Act), (∀ j ∈ l, dstAt ops j = some d → p j = q j) → a.tmps.size = a'.tmps.size → a.tmps[d]? = a'.tmps[d]? →
    (actL ops vals p l a).tmps[d]? = (actL ops vals q l a').tmps[d]?
  | [], a, a', _, _, h => h
  | j :: l, a, a', hpq, hs, h => by
    unfold actL
    have hl : ∀ j' ∈ l, dstAt ops j' = some d → p j' = q j' := fun j' hj' => hpq j' (List.mem_cons_of_mem _ hj')
    by_cases hd : dstAt ops j = some d
    · rw [hpq j (by simp) hd]
      cases q j with
      | false => exact actL_at l _ _ hl hs h
      | true =>
        obtain ⟨h1, h2⟩ := put_at (dstAt ops j) (vals j) hs h
        exact actL_at l _ _ hl h1 h2
    · obtain ⟨h1, h2⟩ := put_off (a := a) (d := d) (dstAt ops j) (vals j) hd
      obtain ⟨h3, h4⟩ := put_off (a := a') (d := d) (dstAt ops j) (vals j) hd
      refine actL_at l _ _ hl ?_ ?_
      · cases p j <;> cases q j <;> simp only [cond_true, cond_false] <;> omega
      · cases p j <;> cases q j <;> simp only [cond_true, cond_false, h2, h4, h]
theorem exec_same {ops : Array Oper} {o : Oper} (hs : ∀ cs b, o.op ≠ .select cs b) {a a' : Act} (h : ∀ d ∈ o.looksAt ops, a.tmps[d]? = a'.tmps[d]?) : execOp a.eval o = execOp a'.eval o :=
  execOp_congr o hs fun x hx => by
    cases x with
    | tmp t =>
      have := h t (List.mem_append_left _ (List.mem_filterMap.2 ⟨.tmp t, by simpa using hx, rfl⟩))
      simp only [Act.eval, Array.getD_eq_getD_getElem?, this]
    | _ => rfl
theorem wanted_same {ops : Array Oper} {o : Oper} {a a' : Act} (h : ∀ d ∈ o.looksAt ops, a.tmps[d]? = a'.tmps[d]?) : Region.wanted o (yielded ops a.tmps) = Region.wanted o (yielded ops a'.tmps) := by
  unfold Region.wanted
  cases hg : o.guard with
  | none => rfl
  | some gw =>
    obtain ⟨g, want⟩ := gw
    have hy : yielded ops a.tmps g = yielded ops a'.tmps g := by
      unfold yielded
      cases ht : (ops[g]?).bind (·.dst) with
      | none => rfl
      | some t => simp only [Option.bind_some]; rw [h t (by simp [Oper.looksAt, hg, ht])]
    simp only [hy]
theorem wp_of_gives {P : Program} {o : Oper} {a : Act} {w : World} {V : Sp} {K : Act → World → Prop} {Q' : Exit → Act → World → Prop} (h : gives P o a w V) (hk : ∀ v w', Below w.heap.size w w' → V v w' → K (a.put o.dst v) w') : o.wp P a w K Q' := by
  unfold gives at h
  unfold Oper.wp
  generalize (execOp a.eval o).run P w = r at *
  cases r with
  | ok n w' =>
    cases n <;> simp only [givesR] at h <;> simp only [Oper.upon]
    case value u => exact hk _ _ h.1 h.2
    case skip => exact hk _ _ h.1 h.2
    case enter f args => exact h.mono fun e w'' ⟨v, he, hb, hv⟩ => by subst he; exact hk _ _ hb hv
  | halt x w' => simp only [givesR] at h

def looksB (ops : Array Oper) (o : Oper) (d : Option Tmp) : Bool := match d with
  | some d => (o.looksAt ops).contains d
  | none => false
/-- The first k operations are such that the order does not matter to what each of them looks at; the others wait for them. -/
def regB (ops : Array Oper) (M : List Nat) (k : Nat) : Bool :=
  Region.noSelect ops && decide (k ≤ ops.size) &&
  ((List.range ops.size).all fun i => ((ops[i]?).map fun o => o.after.toList.all fun e => !Region.binds .any e || decide (e.on < i)).getD true) &&
  ((List.range k).all fun i => (List.range k).all fun j => i == j || (dstAt ops i).isNone || !(dstAt ops i == dstAt ops j)) &&
  ((List.range k).all fun i => (List.range k).all fun j => (decide (j < i) && wb M i j) || !(((ops[i]?).map fun o => looksB ops o (dstAt ops j)).getD false)) &&
  ((List.range ops.size).all fun i => decide (i < k) || (List.range k).all fun j => wb M i j)
structure RegK (ops : Array Oper) (k : Nat) : Prop where
  sel : ∀ (j : Nat) (o : Oper) cs b, ops[j]? = some o → o.op ≠ .select cs b
  le : k ≤ ops.size
  back : Back ops
  dst : ∀ i j, i < k → j < k → i ≠ j → ∀ d, dstAt ops i = some d → dstAt ops j ≠ some d
  look : ∀ i j o d, i < k → j < k → ops[i]? = some o → dstAt ops j = some d → d ∈ o.looksAt ops → j < i ∧ wb (mskOf ops) i j = true
  late : ∀ i, i < ops.size → k ≤ i → ∀ j, j < k → wb (mskOf ops) i j = true
theorem regB_spec {ops : Array Oper} {k : Nat} (h : regB ops (mskOf ops) k = true) : RegK ops k := by
  simp only [regB, Bool.and_eq_true, List.all_eq_true, List.mem_range, decide_eq_true_eq] at h
  obtain ⟨⟨⟨⟨⟨h0, h1⟩, h2⟩, h3⟩, h4⟩, h5⟩ := h
  refine ⟨Region.noSelect_spec h0, h1, ?_, ?_, ?_, ?_⟩
  · intro i o ho e he hb
    have hi : i < ops.size := (Array.getElem?_eq_some_iff.1 ho).1
    have := h2 i hi
    rw [ho] at this
    simp only [Option.map_some, Option.getD_some, List.all_eq_true] at this
    have := this e (by simpa using he)
    simpa [hb] using this
  · intro i j hi hj hij d hd he
    have := h3 i hi j hj
    rw [hd, he] at this
    simp [hij] at this
  · intro i j o d hi hj ho hd hl
    have := h4 i hi j hj
    rw [ho, hd] at this
    simpa [looksB, hl] using this
  · intro i hi hk j hj
    have := h5 i hi
    simp only [Bool.or_eq_true, decide_eq_true_eq, List.all_eq_true, List.mem_range] at this
    rcases this with h | h
    · omega
    · exact h j hj

theorem SpecW.nil_inv {P : Program} {ops : Array Oper} {M : List Nat} {w0 : World} {Q : Act → World → Prop} {i : Nat} {F : Facts} {a : Act} {Vs : List SpE} (h : SpecW P ops M w0 Q i [] F a Vs) : ∀ x : Kin w0, (∀ f ∈ F, f.2 x.world) → Q a x.world := by
  unfold SpecW at h
  exact h
def spAt (Vs : List SpE) (j : Nat) : SpE := Vs.getD j (.d undef)
def isG : SpE → Bool
  | .d _ => false
  | .g _ => true
def factsAt (Vs : List SpE) (vals : Nat → Value) : Nat → Facts
  | 0 => []
  | m + 1 => if isG (spAt Vs m) = true then (m, (spAt Vs m).sp (vals m)) :: factsAt Vs vals m else factsAt Vs vals m
theorem factsAt_mem {Vs : List SpE} {vals : Nat → Value} : ∀ {m : Nat} {f : Nat × (World → Prop)}, f ∈ factsAt Vs vals m → f.1 < m ∧ f.2 = (spAt Vs f.1).sp (vals f.1)
  | m + 1, f, h => by
    unfold factsAt at h
    split at h
    · rcases List.mem_cons.1 h with rfl | h
      · exact ⟨Nat.lt_succ_self _, rfl⟩
      · obtain ⟨h1, h2⟩ := factsAt_mem h
        exact ⟨by omega, h2⟩
    · obtain ⟨h1, h2⟩ := factsAt_mem h
      exact ⟨by omega, h2⟩
section
variable {P : Program} {ops : Array Oper} {w0 : World} {Q : Act → World → Prop} {k : Nat} {Vs : List SpE} {a0 : Act}
def actAt (ops : Array Oper) (vals : Nat → Value) (k m : Nat) (a0 : Act) : Act := actL ops vals (fun j => decide (j < m)) (List.range k) a0
theorem actAt_succ (hok : RegK ops k) (vals : Nat → Value) {m : Nat} (hm : m < k) : actAt ops vals k (m + 1) a0 = (actAt ops vals k m a0).put (dstAt ops m) (vals m) := by
  unfold actAt
  refine actL_add (vals' := vals) (i := m) (by simp) (by simp) (fun j hj => ⟨?_, rfl⟩) _ _ (List.mem_range.2 hm) List.nodup_range (fun j hj hji d hd => hok.dst m j hm (List.mem_range.1 hj) (Ne.symm hji) d hd)
  rw [decide_eq_decide]
  omega
theorem actAt_zero (vals : Nat → Value) : actAt ops vals k 0 a0 = a0 := by
  unfold actAt
  have : ∀ (l : List Nat) (a : Act), actL ops vals (fun j => decide (j < 0)) l a = a := by
    intro l
    induction l with
    | nil => intro a; rfl
    | cons j l ih => intro a; unfold actL; simpa using ih a
  exact this _ _
/-- What the walk shows of each operation, for whatever values that may be. -/
theorem spec_at (hok : RegK ops k) (h : SpecW P ops (mskOf ops) w0 Q 0 (ops.toList.take k) [] a0 Vs) (vals : Nat → Value) (hv : ∀ j, j < k → ∃ x : Kin w0, (spAt Vs j).sp (vals j) x.world) :
    ∀ m, m ≤ k → SpecW P ops (mskOf ops) w0 Q m ((ops.toList.take k).drop m) (factsAt Vs vals m) (actAt ops vals k m a0) (Vs.drop m)
  | 0, _ => by rw [actAt_zero]; exact h
  | m + 1, hm => by
    have ih := spec_at hok h vals hv m (by omega)
    have hkl : k ≤ ops.toList.length := by simpa using hok.le
    have hml : m < (ops.toList.take k).length := by rw [List.length_take]; omega
    rw [List.drop_eq_getElem_cons hml] at ih
    have hod : ((ops.toList.take k)[m]).dst = dstAt ops m := by
      unfold dstAt
      rw [List.getElem_take]
      have : ops[m]? = some (ops.toList[m]'(by rw [List.length_take] at hml; omega)) := by
        rw [← Array.getElem?_toList]
        exact List.getElem?_eq_getElem _
      rw [this]
      rfl
    cases hd : Vs.drop m with
    | nil => rw [hd] at ih; exact absurd ih (by unfold SpecW; exact id)
    | cons S rest =>
      have hs : spAt Vs m = S := by
        unfold spAt
        have : Vs[m]? = some S := by have := congrArg (·[0]?) hd; simpa [List.getElem?_drop] using this
        rw [List.getD_eq_getElem?_getD, this]
        rfl
      have hrest : Vs.drop (m + 1) = rest := by rw [← List.tail_drop, hd]; rfl
      rw [hd] at ih
      rw [hrest, actAt_succ hok vals (by omega)]
      have hvm := hv m (by omega)
      rw [hs] at hvm
      unfold factsAt
      rw [hs]
      cases S with
      | d c =>
        obtain ⟨x, hx⟩ := hvm
        have hx' : vals m = c := hx
        unfold SpecW at ih
        rw [hod] at ih
        rw [hx', if_neg (by simp [isG])]
        exact ih.2
      | g V =>
        unfold SpecW at ih
        rw [hod] at ih
        rw [if_pos (show isG (SpE.g V) = true from rfl)]
        exact ih.2.2.2.2 _ hvm
theorem spec_op (hok : RegK ops k) (h : SpecW P ops (mskOf ops) w0 Q 0 (ops.toList.take k) [] a0 Vs) (vals : Nat → Value) (hv : ∀ j, j < k → ∃ x : Kin w0, (spAt Vs j).sp (vals j) x.world) {i : Nat} {o : Oper} (hi : i < k) (ho : ops[i]? = some o) :
    Stable (spAt Vs i).sp ∧ ((Region.wanted o (yielded ops (actAt ops vals k i a0).tmps) = true ∧ ∀ x : Kin w0, factsOK (mskOf ops) (factsAt Vs vals i) i x.world → gives P o (actAt ops vals k i a0) x.world (spAt Vs i).sp) ∨
      (Region.wanted o (yielded ops (actAt ops vals k i a0).tmps) = false ∧ ∀ w, (spAt Vs i).sp undef w)) := by
  have ih := spec_at hok h vals hv i (by omega)
  have hkl : k ≤ ops.toList.length := by simpa using hok.le
  have hml : i < (ops.toList.take k).length := by rw [List.length_take]; omega
  rw [List.drop_eq_getElem_cons hml] at ih
  have hoo : (ops.toList.take k)[i] = o := by
    rw [List.getElem_take]
    have : ops[i]? = some (ops.toList[i]'(by rw [List.length_take] at hml; omega)) := by
      rw [← Array.getElem?_toList]
      exact List.getElem?_eq_getElem _
    rw [this] at ho
    exact Option.some.inj ho
  rw [hoo] at ih
  cases hd : Vs.drop i with
  | nil => rw [hd] at ih; exact absurd ih (by unfold SpecW; exact id)
  | cons S rest =>
    have hs : spAt Vs i = S := by
      unfold spAt
      have : Vs[i]? = some S := by have := congrArg (·[0]?) hd; simpa [List.getElem?_drop] using this
      rw [List.getD_eq_getElem?_getD, this]
      rfl
    rw [hd] at ih
    rw [hs]
    cases S with
    | d c =>
      unfold SpecW at ih
      refine ⟨fun v w w' h _ => h, ?_⟩
      cases hw : Region.wanted o (yielded ops (actAt ops vals k i a0).tmps) with
      | true => rw [if_pos hw] at ih; exact .inl ⟨rfl, ih.1⟩
      | false => rw [if_neg (by rw [hw]; exact Bool.false_ne_true)] at ih; exact .inr ⟨rfl, fun _ => ih.1.symm⟩
    | g V =>
      unfold SpecW at ih
      exact ⟨ih.1, .inl ⟨ih.2.2.1, ih.2.2.2.1⟩⟩
def lst (listed : Array Bool) (j : Nat) : Bool := listed.getD j false
/-- How far it has come. -/
structure RInv (ops : Array Oper) (k : Nat) (w0 : World) (Vs : List SpE) (a0 : Act) (vals : Nat → Value) (listed : Array Bool) (a : Act) (w : World) : Prop where
  act : a = actL ops vals (lst listed) (List.range k) a0
  kin : Below w0.heap.size w0 w
  had : ∀ j, j < k → Listed listed j → (spAt Vs j).sp (vals j) w
  may : ∀ j, j < k → ∃ x : Kin w0, (spAt Vs j).sp (vals j) x.world
  closed : Closed ops listed
  size : listed.size = ops.size
  none : ∀ j, k ≤ j → ¬ Listed listed j
def openOf (k : Nat) (listed : Array Bool) : Nat := ((List.range k).filter fun j => !lst listed j).length
theorem filter_leq {p q : Nat → Bool} (hpq : ∀ x, q x = true → p x = true) : ∀ l : List Nat, (l.filter q).length ≤ (l.filter p).length
  | [] => Nat.le_refl _
  | x :: l => by
    have ih := filter_leq hpq l
    cases hq : q x with
    | true => simp [List.filter_cons, hq, hpq x hq]; exact ih
    | false => cases hp : p x <;> simp [List.filter_cons, hq, hp] <;> omega
theorem filter_less {e : Nat} {p q : Nat → Bool} (hpq : ∀ x, x ≠ e → (q x = p x)) (hp : p e = true) (hq : q e = false) : ∀ l : List Nat, e ∈ l → l.Nodup → (l.filter p).length = (l.filter q).length + 1
  | x :: l, hm, hn => by
    rw [List.nodup_cons] at hn
    by_cases hx : x = e
    · subst hx
      have : l.filter p = l.filter q := List.filter_congr fun y hy => (hpq y (fun e' => hn.1 (e' ▸ hy))).symm
      simp [List.filter_cons, hp, hq, this]
    · have ih := filter_less hpq hp hq l (by simpa [Ne.symm hx] using hm) hn.2
      have := hpq x hx
      cases hp' : p x <;> simp [List.filter_cons, hp', this] <;> omega
theorem lst_set {listed : Array Bool} {i j : Nat} (hi : i < listed.size) : lst (listed.setIfInBounds i true) j = (decide (j = i) || lst listed j) := by
  unfold lst
  rw [Array.getD_eq_getD_getElem?, Array.getD_eq_getD_getElem?, Array.getElem?_setIfInBounds]
  by_cases h : i = j
  · subst h; simp [hi]
  · have : ¬ j = i := fun e => h e.symm
    simp [h, this]
theorem mem_ready' {listed : Array Bool} {i : Nat} (h : i ∈ Region.ready .any ops listed) (hs : listed.size = ops.size) : ¬ Listed listed i ∧ ∃ o, ops[i]? = some o ∧ ∀ e ∈ o.after, Region.binds .any e = true → Listed listed e.on := by
  obtain ⟨h1, o, ho, h2⟩ := mem_ready.1 h
  have hi : i < listed.size := by rw [hs]; exact (Array.getElem?_eq_some_iff.1 ho).1
  refine ⟨fun hl => ?_, o, ho, fun e he hb => ?_⟩
  · unfold Listed at hl
    rw [Array.getD_eq_getD_getElem?, Array.getElem?_eq_getElem hi] at h1 hl
    rw [Option.getD_some] at h1 hl
    rw [h1] at hl
    cases hl
  · exact h2 e he hb
theorem ready_of {listed : Array Bool} (hok : RegK ops k) (hC : Closed ops listed) (hs : listed.size = ops.size) {j : Nat} (hj : j < k) (hn : ¬ Listed listed j) : Region.ready .any ops listed ≠ [] := by
  intro h0
  induction j using Nat.strongRecOn with
  | _ j ih =>
    have hjs : j < ops.size := by have := hok.le; omega
    have ho : ops[j]? = some ops[j] := Array.getElem?_eq_getElem hjs
    by_cases hall : ∀ e ∈ (ops[j]).after, Region.binds .any e = true → Listed listed e.on
    · have : j ∈ Region.ready .any ops listed := by
        refine mem_ready.2 ⟨?_, ops[j], ho, fun e he hb => hall e he hb⟩
        unfold Listed at hn
        rw [Array.getD_eq_getD_getElem?, Array.getElem?_eq_getElem (by omega), Option.getD_some] at hn ⊢
        simpa using hn
      rw [h0] at this
      cases this
    · obtain ⟨e, he⟩ := Classical.not_forall.1 hall
      obtain ⟨he1, he2⟩ := Classical.not_imp.1 he
      obtain ⟨hb, hl⟩ := Classical.not_imp.1 he2
      have := hok.back j _ ho e he1 hb
      exact ih e.on this (by omega) hl
def listK (n k : Nat) : Array Bool := (List.replicate k true ++ List.replicate (n - k) false).toArray
theorem listK_eq {n k : Nat} {listed : Array Bool} (hs : listed.size = n) (hk : k ≤ n) (h1 : ∀ j, j < k → Listed listed j) (h2 : ∀ j, k ≤ j → ¬ Listed listed j) : listed = listK n k := by
  apply Array.ext
  · simp [listK]; omega
  · intro j hj hj'
    have e : listed.getD j false = listed[j] := by rw [Array.getD_eq_getD_getElem?, Array.getElem?_eq_getElem hj]; rfl
    simp only [listK, List.getElem_toArray]
    by_cases hjk : j < k
    · have := h1 j hjk
      unfold Listed at this
      rw [List.getElem_append_left (by simpa using hjk), List.getElem_replicate, ← e, this]
    · have := h2 j (by omega)
      unfold Listed at this
      rw [List.getElem_append_right (by simp; omega), List.getElem_replicate, ← e]
      simpa using this
theorem any_of_spec {Q' : Exit → Act → World → Prop} (hok : RegK ops k) (h : SpecW P ops (mskOf ops) w0 (fun a w => wpAny P .any ops Q' (ops.size - k) (listK ops.size k) a w) 0 (ops.toList.take k) [] a0 Vs) :
    ∀ (n : Nat) (vals : Nat → Value) (listed : Array Bool) (a : Act) (w : World), openOf k listed = n → RInv ops k w0 Vs a0 vals listed a w → wpAny P .any ops Q' (n + (ops.size - k)) listed a w
  | 0, vals, listed, a, w, hn, hI => by
    have hall : ∀ j, j < k → Listed listed j := fun j hj => by
      have h0 := List.eq_nil_of_length_eq_zero hn
      have := (List.filter_eq_nil_iff.1 h0) j (List.mem_range.2 hj)
      simpa [lst, Listed] using this
    have hlk := listK_eq hI.size hok.le hall hI.none
    have hfin := (spec_at hok h vals hI.may k (Nat.le_refl _))
    rw [List.drop_of_length_le (by rw [List.length_take]; omega)] at hfin
    have hact : a = actAt ops vals k k a0 := by
      rw [hI.act]
      exact actL_same _ _ (fun j hj => ⟨by have := hall j (List.mem_range.1 hj); unfold Listed at this; simp [lst, this, List.mem_range.1 hj], rfl⟩)
    rw [Nat.zero_add, hlk, hact]
    refine hfin.nil_inv ⟨w, hI.kin⟩ (fun f hf => ?_)
    obtain ⟨h1, h2⟩ := factsAt_mem hf
    rw [h2]
    exact hI.had _ h1 (hall _ h1)
  | n + 1, vals, listed, a, w, hn, hI => by
    have hex : ∃ j, j < k ∧ ¬ Listed listed j := by
      have : (List.range k).filter (fun j => !lst listed j) ≠ [] := fun h0 => by unfold openOf at hn; rw [h0] at hn; cases hn
      obtain ⟨j, hj⟩ := List.exists_mem_of_ne_nil _ this
      rw [List.mem_filter, List.mem_range] at hj
      exact ⟨j, hj.1, by simpa [lst, Listed] using hj.2⟩
    obtain ⟨j0, hj0, hn0⟩ := hex
    rw [show n + 1 + (ops.size - k) = (n + (ops.size - k)) + 1 by omega]
    refine ⟨fun h0 => absurd h0 (ready_of hok hI.closed hI.size hj0 hn0), fun i hi => ?_⟩
    obtain ⟨hnl, o, ho, hdep⟩ := mem_ready' hi hI.size
    have his : i < ops.size := (Array.getElem?_eq_some_iff.1 ho).1
    have hik : i < k := by
      rcases Nat.lt_or_ge i k with h' | h'
      · exact h'
      · exact absurd (wb_ready hI.closed ho hdep (hok.late i his h' j0 hj0)) hn0
    have hlook : ∀ d ∈ o.looksAt ops, a.tmps[d]? = (actAt ops vals k i a0).tmps[d]? := fun d hd => by
      rw [hI.act]
      refine actL_at _ _ _ (fun j hj hdj => ?_) rfl rfl
      obtain ⟨h1, h2⟩ := hok.look i j o d hik (List.mem_range.1 hj) ho hdj hd
      have := wb_ready hI.closed ho hdep h2
      unfold Listed at this
      simp [lst, this, h1]
    have hdst : o.dst = dstAt ops i := by unfold dstAt; rw [ho]; rfl
    have hgo : ∀ v w', Below w.heap.size w w' → (spAt Vs i).sp v w' → Stable (spAt Vs i).sp → wpAny P .any ops Q' (n + (ops.size - k)) (listed.setIfInBounds i true) (a.put o.dst v) w' := by
      intro v w' hb hv _
      have hil : i < listed.size := by rw [hI.size]; exact his
      have hkin := hI.kin.trans (hb.mono hI.kin.size)
      refine any_of_spec hok h n (fun j => if j = i then v else vals j) _ _ _ ?_ ⟨?_, hkin, ?_, ?_, ?_, by simpa using hI.size, ?_⟩
      · have hlf : lst listed i = false := by unfold Listed at hnl; simpa [lst] using hnl
        have := filter_less (e := i) (p := fun j => !lst listed j) (q := fun j => !lst (listed.setIfInBounds i true) j) (fun x hx => by simp [lst_set hil, hx]) (by simp [hlf]) (by simp [lst_set hil]) (List.range k) (List.mem_range.2 hik) List.nodup_range
        unfold openOf at hn ⊢
        omega
      · rw [hI.act, hdst]
        have hlf : lst listed i = false := by unfold Listed at hnl; simpa [lst] using hnl
        have := actL_add (ops := ops) (vals := vals) (vals' := fun j => if j = i then v else vals j) (p := lst listed) (p' := lst (listed.setIfInBounds i true)) (i := i) hlf (by simp [lst_set hil]) (fun j hj => ⟨by simp [lst_set hil, hj], by simp [hj]⟩)
          (List.range k) a0 (List.mem_range.2 hik) List.nodup_range (fun j hj hji d hd => hok.dst i j hik (List.mem_range.1 hj) (Ne.symm hji) d hd)
        rw [this]
        simp
      · intro j hj hl
        by_cases hji : j = i
        · subst hji; simpa using hv
        · have hl' : Listed listed j := by
            unfold Listed at hl ⊢
            have := lst_set (j := j) hil
            simp only [lst, hji, decide_false, Bool.false_or] at this
            rw [this] at hl
            exact hl
          simp only [hji, if_false]
          exact (spec_op hok h vals hI.may hj (Array.getElem?_eq_getElem (by have := hok.le; omega))).1 _ _ _ (hI.had j hj hl') hb
      · intro j hj
        by_cases hji : j = i
        · subst hji; exact ⟨⟨w', hkin⟩, by simpa using hv⟩
        · simp only [hji, if_false]; exact hI.may j hj
      · intro j oj hoj hl e he hbe
        have hs := fun m => lst_set (listed := listed) (i := i) (j := m) hil
        unfold lst at hs
        unfold Listed at hl ⊢
        rw [hs] at hl ⊢
        by_cases hji : j = i
        · subst hji
          rw [ho] at hoj
          cases hoj
          have := hdep e he hbe
          unfold Listed at this
          simp [this]
        · simp only [hji, decide_false, Bool.false_or] at hl
          have := hI.closed j oj hoj hl e he hbe
          unfold Listed at this
          simp [this]
      · intro j hj hl
        have hji : ¬ j = i := by omega
        unfold Listed at hl
        have hs := lst_set (listed := listed) (i := i) (j := j) hil
        unfold lst at hs
        rw [hs] at hl
        simp only [hji, decide_false, Bool.false_or] at hl
        exact hI.none j hj hl
    obtain ⟨hst, hop⟩ := spec_op hok h vals hI.may hik ho
    unfold wpOp
    simp only [ho]
    rw [wanted_same hlook]
    rcases hop with ⟨hw, hg⟩ | ⟨hw, hu⟩
    · rw [if_pos hw]
      refine .inl (wp_of_gives (V := (spAt Vs i).sp) ?_ (fun v w' hb hv => hgo v w' hb hv hst))
      have := hg ⟨w, hI.kin⟩ (fun f hf hwb => by
        obtain ⟨h1, h2⟩ := factsAt_mem hf
        rw [h2]
        exact hI.had _ (by omega) (wb_ready hI.closed ho hdep hwb))
      unfold gives at this ⊢
      rw [exec_same (fun cs b => hok.sel i o cs b ho) hlook]
      exact this
    · rw [if_neg (by rw [hw]; exact Bool.false_ne_true)]
      exact hgo undef w (Below.refl _ _) (hu w) hst
theorem spec_may {M : List Nat} : ∀ (l : List Oper) (i : Nat) (F : Facts) (a : Act) (Vs : List SpE), SpecW P ops M w0 Q i l F a Vs → ∀ m, m < l.length → ∃ v, ∃ x : Kin w0, (spAt Vs m).sp v x.world
  | [], i, F, a, Vs, h, m, hm => by simp at hm
  | o :: l, i, F, a, [], h, m, hm => absurd h (by unfold SpecW; exact id)
  | o :: l, i, F, a, .d c :: Vs, h, 0, hm => ⟨c, Kin.me _, rfl⟩
  | o :: l, i, F, a, .d c :: Vs, h, m + 1, hm => by
    unfold SpecW at h
    exact spec_may l _ _ _ Vs h.2 m (by simpa using hm)
  | o :: l, i, F, a, .g V :: Vs, h, 0, hm => by
    unfold SpecW at h
    exact h.2.1
  | o :: l, i, F, a, .g V :: Vs, h, m + 1, hm => by
    unfold SpecW at h
    obtain ⟨v, hv⟩ := h.2.1
    exact spec_may l _ _ _ Vs (h.2.2.2.2 v hv) m (by simpa using hm)
/-- The rule. -/
theorem wp_region_spec {id : Nat} {Q' : Exit → Act → World → Prop} {w : World} (k : Nat) (Vs : List SpE) (hm : P.follows .mixedOrders = true) (hB : regB ops (mskOf ops) k = true)
    (h : SpecW P ops (mskOf ops) w.drew (fun a w => wpAny P .any ops Q' (ops.size - k) (listK ops.size k) a w) 0 (ops.toList.take k) [] a0 Vs) : (Code.region id ops true).wp P Q' a0 w := by
  have hok := regB_spec hB
  have hvs : ∀ j, j < k → ∃ v, ∃ x : Kin w.drew, (spAt Vs j).sp v x.world := fun j hj => spec_may _ _ _ _ _ h j (by rw [List.length_take]; have := hok.le; simp; omega)
  refine wp_region_any hm ?_
  obtain ⟨vals, hvals⟩ : ∃ vals : Nat → Value, ∀ j, j < k → ∃ x : Kin w.drew, (spAt Vs j).sp (vals j) x.world := by
    refine ⟨fun j => if hj : j < k then (hvs j hj).choose else undef, fun j hj => ?_⟩
    simp only [hj, dif_pos]
    exact (hvs j hj).choose_spec
  have h0 : ∀ j, ¬ Listed (Array.replicate ops.size false) j := fun j hl => by
    unfold Listed at hl
    rw [Array.getD_eq_getD_getElem?, Array.getElem?_replicate] at hl
    split at hl <;> simp at hl
  have := any_of_spec (Q' := Q') hok h k vals (Array.replicate ops.size false) a0 w.drew ?_ ⟨?_, Below.refl _ _, fun j _ hl => absurd hl (h0 j), hvals, fun j o _ hl => absurd hl (h0 j), by simp, fun j _ => h0 j⟩
  · rw [show k + (ops.size - k) = ops.size by have := hok.le; omega] at this
    exact this
  · unfold openOf
    rw [List.filter_eq_self.2 (fun j _ => by have := h0 j; unfold Listed at this; simpa [lst] using this), List.length_range]
  · have : ∀ (l : List Nat) (a : Act), actL ops vals (lst (Array.replicate ops.size false)) l a = a := by
      intro l
      induction l with
      | nil => intro a; rfl
      | cons j l ih =>
        intro a
        unfold actL
        have : lst (Array.replicate ops.size false) j = false := by have := h0 j; unfold Listed at this; simpa [lst] using this
        rw [this]
        exact ih a
    exact (this _ _).symm
theorem wp_region_specL {l : List Oper} {id : Nat} {Q' : Exit → Act → World → Prop} {w : World} (k : Nat) (Vs : List SpE) (hm : P.follows .mixedOrders = true) (hB : regB l.toArray (mskOf l.toArray) k = true)
    (h : SpecW P l.toArray (mskOf l.toArray) w.drew (fun a w => wpAny P .any l.toArray Q' (l.length - k) (listK l.length k) a w) 0 (l.take k) [] a0 Vs) : (Code.region id l.toArray true).wp P Q' a0 w :=
  wp_region_spec k Vs hm hB (by simpa using h)
end
end Go.Proofs.YtkankdecbefenaaDoor.Base
