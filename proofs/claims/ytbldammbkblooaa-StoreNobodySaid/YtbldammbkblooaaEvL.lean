/- The evaluator over a function's text: what it comes to, the call comes to, in every world and whatever order is drawn. -/
import Derived.Test.YtbldammbkblooaaEvK
namespace Go.Proofs.Ytbldammbkblooaa.Ev
open Go Go.RowKit
set_option linter.unusedVariables false
set_option linter.unusedSimpArgs false

variable {L L' L'' : LS} {D D' D'' : Nat → Prop} {m m' m'' : Nat → MB} {P : Program}

def ev (P : Program) : Nat → Evf
  | 0, _, _, _, _, _ => none
  | f + 1, ro, c, t, nt, L => match c with
    | .skip => some (.normal, t, L)
    | .label _ => some (.normal, t, L)
    | .region _ ops false => match opsL P (ev P f) ro ops nt ops.toList t L with
      | some (t', L') => some (.normal, t', L')
      | none => none
    | .region _ ops true => match regL P (ev P f) ro L ops nt t with
      | some (t', L') => some (.normal, t', L')
      | none => none
    | .seq a b => match ev P f ro a t nt L with
      | some (.normal, t', L') => ev P f ro b t' nt L'
      | r => r
    | .cond x a b => match lev t x with
      | .bool true => ev P f ro a t nt L
      | .bool false => ev P f ro b t nt L
      | _ => none
    | .block id b => match ev P f ro b t nt L with
      | some (.exit i, t', L') => bif Nat.beq i id then some (.normal, t', L') else some (.exit i, t', L')
      | r => r
    | .loop b => match ev P f ro b t nt L with
      | some (.normal, t', L') => ev P f ro (.loop b) t' nt L'
      | r => r
    | .exit id => some (.exit id, t, L)
    | .ret => some (.ret, t, L)
    | _ => none

def LpOK (P : Program) (f : Nat) : Prop :=
  ∀ ro b t nt L x t' L', ev P f ro (.loop b) t nt L = some (x, t', L') → ∀ D m a W0 W, FRel D m nt t a → WRel L D m W0 W → ∀ Q : Exit → Act → World → Prop,
    (∀ D' m' a' W', Stp ro L D m W L' D' m' W' → FRel D' m' nt t' a' → WRel L' D' m' W0 W' → Q x.up a' W') → Code.rounds P b Q f a W

theorem ev_ok (hN : Named P) (hm : P.follows .mixedOrders = true) : ∀ f, EvOK P (ev P f) ∧ LpOK P f
  | 0 => ⟨fun ro c t nt L x t' L' h => by simp [ev] at h, fun ro b t nt L x t' L' h => by simp [ev] at h⟩
  | f + 1 => by
    obtain ⟨ih, il⟩ := ev_ok hN hm f
    have lp : LpOK P (f + 1) := by
      intro ro b t nt L x t' L' h D m a W0 W hF hW Q hQ
      rw [rounds_succ]
      simp only [ev] at h
      split at h
      · rename_i t1 L1 he
        exact ih _ _ _ _ _ _ _ _ he D m a W0 W hF hW _ fun D1 m1 a1 W1 hS hF1 hW1 => il _ _ _ _ _ _ _ _ h D1 m1 a1 W0 W1 hF1 hW1 Q fun D' m' a' W' hS' => hQ D' m' a' W' (hS.trans hS')
      · rename_i hne
        have hx : x ≠ .normal := fun e => hne t' L' (by rw [h, e])
        exact ih _ _ _ _ _ _ _ _ h D m a W0 W hF hW _ fun D1 m1 a1 W1 hS hF1 hW1 => by
          have := hQ D1 m1 a1 W1 hS hF1 hW1
          cases x with
          | normal => exact absurd rfl hx
          | ret => exact this
          | exit id => exact this
    refine ⟨?_, lp⟩
    intro ro c t nt L x t' L' h D m a W0 W hF hW Q hQ
    cases c with
    | skip => simp only [ev, Option.some.injEq, Prod.mk.injEq] at h; obtain ⟨rfl, rfl, rfl⟩ := h; exact wp_skip (hQ D m a W (Stp.refl _ _ _ _ _) hF hW)
    | label l => simp only [ev, Option.some.injEq, Prod.mk.injEq] at h; obtain ⟨rfl, rfl, rfl⟩ := h; exact wp_label (hQ D m a W (Stp.refl _ _ _ _ _) hF hW)
    | exit id => simp only [ev, Option.some.injEq, Prod.mk.injEq] at h; obtain ⟨rfl, rfl, rfl⟩ := h; exact wp_exit (hQ D m a W (Stp.refl _ _ _ _ _) hF hW)
    | ret => simp only [ev, Option.some.injEq, Prod.mk.injEq] at h; obtain ⟨rfl, rfl, rfl⟩ := h; exact wp_ret (hQ D m a W (Stp.refl _ _ _ _ _) hF hW)
    | rangeFunc => simp [ev] at h
    | scope => simp [ev] at h
    | goto => simp [ev] at h
    | refuse => simp [ev] at h
    | loop b => exact wp_loop_rounds (f + 1) (lp ro b t nt L x t' L' h D m a W0 W hF hW Q hQ)
    | region id ops d =>
      cases d with
      | false =>
        simp only [ev] at h
        split at h <;> try (cases h; done)
        rename_i t1 L1 he
        cases h
        exact wp_region_list (opsL_ok hN ih _ _ _ D m _ _ he hF hW hQ)
      | true =>
        simp only [ev] at h
        split at h <;> try (cases h; done)
        rename_i t1 L1 he
        cases h
        exact region_ok hN hm ih he hF hW hQ
    | seq c1 c2 =>
      simp only [ev] at h
      refine wp_seq ?_
      split at h
      · rename_i t1 L1 he
        exact ih _ _ _ _ _ _ _ _ he D m a W0 W hF hW _ fun D1 m1 a1 W1 hS hF1 hW1 => ih _ _ _ _ _ _ _ _ h D1 m1 a1 W0 W1 hF1 hW1 Q fun D' m' a' W' hS' => hQ D' m' a' W' (hS.trans hS')
      · rename_i hne
        have hx : x ≠ .normal := fun e => hne t' L' (by rw [h, e])
        exact ih _ _ _ _ _ _ _ _ h D m a W0 W hF hW _ fun D1 m1 a1 W1 hS hF1 hW1 => by
          have := hQ D1 m1 a1 W1 hS hF1 hW1
          cases x with
          | normal => exact absurd rfl hx
          | ret => exact this
          | exit id => exact this
    | cond y c1 c2 =>
      simp only [ev] at h
      split at h <;> try (cases h; done)
      · rename_i hy
        exact wp_cond_true (bool_eq (hy ▸ lev_rel hF y)) (ih _ _ _ _ _ _ _ _ h D m a W0 W hF hW Q hQ)
      · rename_i hy
        exact wp_cond_false (bool_eq (hy ▸ lev_rel hF y)) (ih _ _ _ _ _ _ _ _ h D m a W0 W hF hW Q hQ)
    | block id b =>
      simp only [ev] at h
      refine wp_block ?_
      split at h
      · rename_i i t1 L1 he
        cases hb : Nat.beq i id with
        | true =>
          rw [hb, cond_true] at h
          cases h
          have := Nat.eq_of_beq_eq_true hb
          exact ih _ _ _ _ _ _ _ _ he D m a W0 W hF hW _ fun D1 m1 a1 W1 hS hF1 hW1 => by
            simp only [LX.up, Exit.inBlock, this, if_true]
            exact hQ D1 m1 a1 W1 hS hF1 hW1
        | false =>
          rw [hb, cond_false] at h
          cases h
          have := Nat.ne_of_beq_eq_false hb
          exact ih _ _ _ _ _ _ _ _ he D m a W0 W hF hW _ fun D1 m1 a1 W1 hS hF1 hW1 => by
            simp only [LX.up, Exit.inBlock, this, if_false]
            exact hQ D1 m1 a1 W1 hS hF1 hW1
      · rename_i hne
        exact ih _ _ _ _ _ _ _ _ h D m a W0 W hF hW _ fun D1 m1 a1 W1 hS hF1 hW1 => by
          have := hQ D1 m1 a1 W1 hS hF1 hW1
          cases x with
          | normal => exact this
          | ret => exact this
          | exit i => exact absurd h (hne i t' L')

/-! ### From a call that is run to the program's own -/

def L0 : LS := ⟨.lf, 0, []⟩
def runL (P : Program) (f : Nat) (g : FuncId) (args : List Value) : Option Value :=
  match callL P (ev P f) 0 g args L0 with
  | some (v, _) => bif gnd v then some v else none
  | none => none
/-- Nothing is known. -/
abbrev D0 : Nat → Prop := fun _ => False
abbrev m0 : Nat → MB := fun _ => ⟨0, 0, none, undef⟩
theorem L0_rel (W : World) : WRel L0 D0 m0 W W := ⟨Below.refl _ _, fun b h => h.elim, fun b k h => by simp [L0, Tr.get] at h, fun b c k k' h => by simp [L0, Tr.get] at h, fun e h => by simp [L0] at h⟩
/-- Which values of the program stand for which of the evaluator's: plain data as it is; '.tuple #[]': whatever there is; '.chan none': one word, whatever it is. -/
abbrev Ins (args args' : List Value) : Prop := VRels D0 m0 args args'
theorem run_ok (hN : Named P) (hm : P.follows .mixedOrders = true) {f : Nat} {g : FuncId} {args args' : List Value} {v : Value} (h : runL P f g args = some v) (hr : Ins args args') (W : World) :
    Calls P g ⟨args'⟩ W fun e W' => e = .returned v ∧ Below W.heap.size W W' := by
  unfold runL at h
  split at h <;> try (cases h; done)
  rename_i u L1 hu
  cases hg : gnd u with
  | false => rw [hg, cond_false] at h; cases h
  | true =>
    rw [hg, cond_true] at h
    cases h
    exact callL_ok (ev_ok hN hm f).1 hu hr (L0_rel W) fun D' m' v' W' _ hv hW' => ⟨by rw [gnd_eq hv hg], hW'.bel⟩

/-! ### Calls to which words come that are known in part -/

/-- Named words: 'named k' is the k-th of the list. -/
def mN (vs : List Value) : Nat → MB := fun k => ⟨0, 0, none, vs.getD k undef⟩
def dN (vs : List Value) : Nat → Prop := fun k => k < vs.length
def nmd (k : Nat) : Value := .chan (some (k + 1))
def runW (P : Program) (f : Nat) (g : FuncId) (n : Nat) (es : List Ent) (args : List Value) : Option Value :=
  match callL P (ev P f) 0 g args ⟨.lf, n, es⟩ with
  | some (v, _) => bif gnd v then some v else none
  | none => none
theorem runW_ok (hN : Named P) (hm : P.follows .mixedOrders = true) {f : Nat} {g : FuncId} {vs : List Value} {es : List Ent} {args args' : List Value} {v : Value} (h : runW P f g vs.length es args = some v)
    (he : ∀ e ∈ es, EntOK (dN vs) (mN vs) e) (hr : VRels (dN vs) (mN vs) args args') (W : World) :
    Calls P g ⟨args'⟩ W fun e W' => e = .returned v ∧ Below W.heap.size W W' := by
  unfold runW at h
  split at h <;> try (cases h; done)
  rename_i u L1 hu
  cases hg : gnd u with
  | false => rw [hg, cond_false] at h; cases h
  | true =>
    rw [hg, cond_true] at h
    cases h
    have hW : WRel ⟨.lf, vs.length, es⟩ (dN vs) (mN vs) W W := ⟨Below.refl _ _, fun b h => h, fun b k h => by simp [Tr.get] at h, fun b c k k' h => by simp [Tr.get] at h, he⟩
    exact callL_ok (ev_ok hN hm f).1 hu hr hW fun D' m' v' W' _ hv hW' => ⟨by rw [gnd_eq hv hg], hW'.bel⟩

theorem nmd_rel {vs : List Value} {k : Nat} {v : Value} (h : vs[k]? = some v) (h1 : v.oneCell' = true) : VRel (dN vs) (mN vs) (nmd k) v := by
  have e : (mN vs k).val = v := by simp [mN, List.getD, h]
  have hk : k < vs.length := (List.getElem?_eq_some_iff.1 h).1
  have := VRel.nm (D := dN vs) (m := mN vs) k hk (by rw [e]; exact h1)
  rw [e] at this
  exact this
theorem ent_len {vs : List Value} {a r n c : Nat} {A : Option Addr} (ha : vs[a]? = some (.slice A n c)) (hr : vs[r]? = some (.int .i64 n)) : EntOK (dN vs) (mN vs) (.len a (nmd r)) :=
  ⟨(List.getElem?_eq_some_iff.1 ha).1, A, n, c, by simp [mN, List.getD, ha], nmd_rel hr rfl⟩
theorem ent_cmp {vs : List Value} {op : BinOp} {k : Nat} {kd : IntKind} {x y : Int} {b : Bool} (hk : vs[k]? = some (.int kd x)) (h : ∀ (P : Program) (t : TypeId) (w : World), (binOp op t (.int kd x) (.int kd y)).run P w = .ok (.bool b) w) :
    EntOK (dN vs) (mN vs) (.bin op (nmd k) (.int kd y) (.bool b)) := by
  refine ⟨fun j e => ?_, (fun j e => by cases e), kd, x, kd, y, .bool b, by simp [subv, nmd, mN, List.getD, hk], by simp [subv, gnd, g2, g1], .gr _ rfl, h⟩
  simp only [nmd, Value.chan.injEq, Option.some.injEq, Nat.add_right_cancel_iff] at e
  rw [← e]
  exact (List.getElem?_eq_some_iff.1 hk).1
theorem run_gtr {kd : IntKind} {x y : Int} {b : Bool} (h : decide (y < x) = b) (P : Program) (t : TypeId) (w : World) : (binOp .gtr t (.int kd x) (.int kd y)).run P w = .ok (.bool b) w := by
  subst h; simp [binOp, Op.intCmp]
theorem run_lss {kd : IntKind} {x y : Int} {b : Bool} (h : decide (x < y) = b) (P : Program) (t : TypeId) (w : World) : (binOp .lss t (.int kd x) (.int kd y)).run P w = .ok (.bool b) w := by
  subst h; simp [binOp, Op.intCmp]
theorem run_eql {kd : IntKind} {x y : Int} {b : Bool} (h : decide (x = y) = b) (P : Program) (t : TypeId) (w : World) : (binOp .eql t (.int kd x) (.int kd y)).run P w = .ok (.bool b) w := by
  subst h; simp [binOp, Op.intCmp]; rfl
theorem run_neq {kd : IntKind} {x y : Int} {b : Bool} (h : decide (x ≠ y) = b) (P : Program) (t : TypeId) (w : World) : (binOp .neq t (.int kd x) (.int kd y)).run P w = .ok (.bool b) w := by
  subst h; simp [binOp, Op.intCmp, bne]; rfl
end Go.Proofs.Ytbldammbkblooaa.Ev
