/- The evaluator over a function's text: what it comes to, the call comes to, in every world and whatever order is drawn. -/
import Derived.Test.YtejhjpdcodloaaaEvK
namespace Go.Proofs.Ytejhjpdcodloaaa.Ev
noncomputable section
open Go Go.RowKit
set_option linter.unusedVariables false
set_option linter.unusedSimpArgs false

variable {L L' L'' : LS} {D D' D'' : Nat → Prop} {m m' m'' : Nat → MB} {P : Program}

def ev (P : Program) : Nat → Evf
  | 0, _, _, _, _, _ => none
  | f + 1, ro, c, t, nt, L => match c with
    | .skip => some (.normal, t, L)
    | .label _ => some (.normal, t, L)
    | .region _ ops false => match opsL P (ev P f) ro ops nt ops.toList t L with
      | some (t', L') => some (.normal, t', L')
      | none => none
    | .region _ ops true => match regL P (ev P f) ro L ops nt t with
      | some (t', L') => some (.normal, t', L')
      | none => none
    | .seq a b => match ev P f ro a t nt L with
      | some (.normal, t', L') => ev P f ro b t' nt L'
      | r => r
    | .cond x a b => match lev L.gl t x with
      | .bool true => ev P f ro a t nt L
      | .bool false => ev P f ro b t nt L
      | _ => none
    | .block id b => match ev P f ro b t nt L with
      | some (.exit i, t', L') => bif Nat.beq i id then some (.normal, t', L') else some (.exit i, t', L')
      | r => r
    | .loop b => match ev P f ro b t nt L with
      | some (.normal, t', L') => ev P f ro (.loop b) t' nt L'
      | r => r
    | .exit id => some (.exit id, t, L)
    | .ret => some (.ret, t, L)
    | _ => none

def LpOK (P : Program) (f : Nat) : Prop :=
  ∀ ro b t nt L x t' L', ev P f ro (.loop b) t nt L = some (x, t', L') → ∀ D m a W0 W, FRel D m nt t a → WRel L D m W0 W → ∀ Q : Exit → Act → World → Prop,
    (∀ D' m' a' W', Stp ro L D m W L' D' m' W' → FRel D' m' nt t' a' → WRel L' D' m' W0 W' → Q x.up a' W') → Code.rounds P b Q f a W

theorem ev_ok (hN : Named P) (hm : P.follows .mixedOrders = true) : ∀ f, EvOK P (ev P f) ∧ LpOK P f
  | 0 => ⟨fun ro c t nt L x t' L' h => by simp [ev] at h, fun ro b t nt L x t' L' h => by simp [ev] at h⟩
  | f + 1 => by
    obtain ⟨ih, il⟩ := ev_ok hN hm f
    have lp : LpOK P (f + 1) := by
      intro ro b t nt L x t' L' h D m a W0 W hF hW Q hQ
      rw [rounds_succ]
      simp only [ev] at h
      split at h
      · rename_i t1 L1 he
        exact ih _ _ _ _ _ _ _ _ he D m a W0 W hF hW _ fun D1 m1 a1 W1 hS hF1 hW1 => il _ _ _ _ _ _ _ _ h D1 m1 a1 W0 W1 hF1 hW1 Q fun D' m' a' W' hS' => hQ D' m' a' W' (hS.trans hS')
      · rename_i hne
        have hx : x ≠ .normal := fun e => hne t' L' (by rw [h, e])
        exact ih _ _ _ _ _ _ _ _ h D m a W0 W hF hW _ fun D1 m1 a1 W1 hS hF1 hW1 => by
          have := hQ D1 m1 a1 W1 hS hF1 hW1
          cases x with
          | normal => exact absurd rfl hx
          | ret => exact this
          | exit id => exact this
    refine ⟨?_, lp⟩
    intro ro c t nt L x t' L' h D m a W0 W hF hW Q hQ
    cases c with
    | skip => simp only [ev, Option.some.injEq, Prod.mk.injEq] at h; obtain ⟨rfl, rfl, rfl⟩ := h; exact wp_skip (hQ D m a W (Stp.refl _ _ _ _ _) hF hW)
    | label l => simp only [ev, Option.some.injEq, Prod.mk.injEq] at h; obtain ⟨rfl, rfl, rfl⟩ := h; exact wp_label (hQ D m a W (Stp.refl _ _ _ _ _) hF hW)
    | exit id => simp only [ev, Option.some.injEq, Prod.mk.injEq] at h; obtain ⟨rfl, rfl, rfl⟩ := h; exact wp_exit (hQ D m a W (Stp.refl _ _ _ _ _) hF hW)
    | ret => simp only [ev, Option.some.injEq, Prod.mk.injEq] at h; obtain ⟨rfl, rfl, rfl⟩ := h; exact wp_ret (hQ D m a W (Stp.refl _ _ _ _ _) hF hW)
    | rangeFunc => simp [ev] at h
    | scope => simp [ev] at h
    | goto => simp [ev] at h
    | refuse => simp [ev] at h
    | loop b => exact wp_loop_rounds (f + 1) (lp ro b t nt L x t' L' h D m a W0 W hF hW Q hQ)
    | region id ops d =>
      cases d with
      | false =>
        simp only [ev] at h
        split at h <;> try (cases h; done)
        rename_i t1 L1 he
        cases h
        exact wp_region_list (opsL_ok hN ih _ _ _ D m _ _ he hF hW hQ)
      | true =>
        simp only [ev] at h
        split at h <;> try (cases h; done)
        rename_i t1 L1 he
        cases h
        exact region_ok hN hm ih he hF hW hQ
    | seq c1 c2 =>
      simp only [ev] at h
      refine wp_seq ?_
      split at h
      · rename_i t1 L1 he
        exact ih _ _ _ _ _ _ _ _ he D m a W0 W hF hW _ fun D1 m1 a1 W1 hS hF1 hW1 => ih _ _ _ _ _ _ _ _ h D1 m1 a1 W0 W1 hF1 hW1 Q fun D' m' a' W' hS' => hQ D' m' a' W' (hS.trans hS')
      · rename_i hne
        have hx : x ≠ .normal := fun e => hne t' L' (by rw [h, e])
        exact ih _ _ _ _ _ _ _ _ h D m a W0 W hF hW _ fun D1 m1 a1 W1 hS hF1 hW1 => by
          have := hQ D1 m1 a1 W1 hS hF1 hW1
          cases x with
          | normal => exact absurd rfl hx
          | ret => exact this
          | exit id => exact this
    | cond y c1 c2 =>
      simp only [ev] at h
      split at h <;> try (cases h; done)
      · rename_i hy
        exact wp_cond_true (bool_eq (hy ▸ lev_rel hW.gl hF y)) (ih _ _ _ _ _ _ _ _ h D m a W0 W hF hW Q hQ)
      · rename_i hy
        exact wp_cond_false (bool_eq (hy ▸ lev_rel hW.gl hF y)) (ih _ _ _ _ _ _ _ _ h D m a W0 W hF hW Q hQ)
    | block id b =>
      simp only [ev] at h
      refine wp_block ?_
      split at h
      · rename_i i t1 L1 he
        cases hb : Nat.beq i id with
        | true =>
          rw [hb, cond_true] at h
          cases h
          have := Nat.eq_of_beq_eq_true hb
          exact ih _ _ _ _ _ _ _ _ he D m a W0 W hF hW _ fun D1 m1 a1 W1 hS hF1 hW1 => by
            simp only [LX.up, Exit.inBlock, this, if_true]
            exact hQ D1 m1 a1 W1 hS hF1 hW1
        | false =>
          rw [hb, cond_false] at h
          cases h
          have := Nat.ne_of_beq_eq_false hb
          exact ih _ _ _ _ _ _ _ _ he D m a W0 W hF hW _ fun D1 m1 a1 W1 hS hF1 hW1 => by
            simp only [LX.up, Exit.inBlock, this, if_false]
            exact hQ D1 m1 a1 W1 hS hF1 hW1
      · rename_i hne
        exact ih _ _ _ _ _ _ _ _ h D m a W0 W hF hW _ fun D1 m1 a1 W1 hS hF1 hW1 => by
          have := hQ D1 m1 a1 W1 hS hF1 hW1
          cases x with
          | normal => exact this
          | ret => exact this
          | exit i => exact absurd h (hne i t' L')

/-! ### From a call that is run to the program's own -/

/-! ### The same, on a shorter road -/

inductive ER where
  | nm (t : Tr Value) (L : LS)
  | rt (t : Tr Value) (L : LS)
  | ex (i : Nat) (t : Tr Value) (L : LS)
  | no
def ER.opt : ER → Option (LX × Tr Value × LS)
  | .nm t L => some (.normal, t, L)
  | .rt t L => some (.ret, t, L)
  | .ex i t L => some (.exit i, t, L)
  | .no => none
def evS (P : Program) (ih : Nat → Code → Tr Value → Nat → LS → ER) (ro : Nat) (c : Code) (t : Tr Value) (nt : Nat) (L : LS) : ER :=
  Code.casesOn (motive := fun _ => ER) c
    (.nm t L)
    (fun _ ops draw => Bool.rec (motive := fun _ => ER) (opsF P (fun ro c t nt L => (ih ro c t nt L).opt) ro ops nt ER.nm .no ops.toList t L)
      (match regL P (fun ro c t nt L => (ih ro c t nt L).opt) ro L ops nt t with
        | some (t', L') => .nm t' L'
        | none => .no) draw)
    (fun a b => ER.rec (motive := fun _ => ER) (fun t' L' => ih ro b t' nt L') ER.rt ER.ex .no (ih ro a t nt L))
    (fun x a b => getK L.gl t x fun v => match v with
      | .bool true => ih ro a t nt L
      | .bool false => ih ro b t nt L
      | _ => .no)
    (fun id b => ER.rec (motive := fun _ => ER) ER.nm ER.rt (fun i t' L' => bif Nat.beq i id then .nm t' L' else .ex i t' L') .no (ih ro b t nt L))
    (fun b => ER.rec (motive := fun _ => ER) (fun t' L' => ih ro (.loop b) t' nt L') ER.rt ER.ex .no (ih ro b t nt L))
    (fun _ _ _ _ => .no)
    (fun id => .ex id t L)
    (fun _ => .no)
    (fun _ => .nm t L)
    (fun _ => .no)
    (.rt t L)
    (fun _ => .no)
def evR (P : Program) (f : Nat) : Nat → Code → Tr Value → Nat → LS → ER :=
  Nat.rec (motive := fun _ => Nat → Code → Tr Value → Nat → LS → ER) (fun _ _ _ _ _ => .no) (fun _ ih => evS P ih) f
def evo (P : Program) (f : Nat) : Evf := fun ro c t nt L => (evR P f ro c t nt L).opt
theorem evo_eq (P : Program) : ∀ f, evo P f = ev P f
  | 0 => rfl
  | f + 1 => by
    have ih : ∀ ro c t nt L, (evR P f ro c t nt L).opt = ev P f ro c t nt L := fun ro c t nt L => congrFun (congrFun (congrFun (congrFun (congrFun (evo_eq P f) ro) c) t) nt) L
    have ih' : (fun ro c t nt L => (evR P f ro c t nt L).opt) = ev P f := evo_eq P f
    funext ro c t nt L
    show (evS P (evR P f) ro c t nt L).opt = _
    cases c with
    | skip => rfl
    | region id ops draw =>
      cases draw with
      | false =>
        show (opsF P (fun ro c t nt L => (evR P f ro c t nt L).opt) ro ops nt ER.nm .no ops.toList t L).opt = _
        rw [ih', opsF_eq]
        simp only [ev]
        cases opsL P (ev P f) ro ops nt ops.toList t L with
        | none => rfl
        | some p => rfl
      | true =>
        show (match regL P (fun ro c t nt L => (evR P f ro c t nt L).opt) ro L ops nt t with | some (t', L') => ER.nm t' L' | none => .no).opt = _
        rw [ih']
        simp only [ev]
        cases regL P (ev P f) ro L ops nt t with
        | none => rfl
        | some p => rfl
    | seq a b =>
      show (ER.rec (motive := fun _ => ER) (fun t' L' => evR P f ro b t' nt L') ER.rt ER.ex .no (evR P f ro a t nt L)).opt = _
      simp only [ev]
      rw [← ih]
      cases evR P f ro a t nt L with
      | nm t' L' => exact ih ro b t' nt L'
      | rt _ _ => rfl
      | ex _ _ _ => rfl
      | no => rfl
    | cond x a b =>
      show (getK L.gl t x fun v => match v with | .bool true => evR P f ro a t nt L | .bool false => evR P f ro b t nt L | _ => ER.no).opt = _
      rw [getK_eq]
      simp only [ev]
      split
      · exact ih _ _ _ _ _
      · exact ih _ _ _ _ _
      · rfl
    | block id b =>
      show (ER.rec (motive := fun _ => ER) ER.nm ER.rt (fun i t' L' => bif Nat.beq i id then ER.nm t' L' else .ex i t' L') .no (evR P f ro b t nt L)).opt = _
      simp only [ev]
      rw [← ih]
      cases evR P f ro b t nt L with
      | nm t' L' => rfl
      | rt _ _ => rfl
      | ex i t' L' => simp only [ER.opt]; cases Nat.beq i id <;> rfl
      | no => rfl
    | loop b =>
      show (ER.rec (motive := fun _ => ER) (fun t' L' => evR P f ro (.loop b) t' nt L') ER.rt ER.ex .no (evR P f ro b t nt L)).opt = _
      simp only [ev]
      rw [← ih]
      cases evR P f ro b t nt L with
      | nm t' L' => exact ih ro (.loop b) t' nt L'
      | rt _ _ => rfl
      | ex _ _ _ => rfl
      | no => rfl
    | _ => rfl

def L0 : LS := ⟨.lf, 0, [], 0⟩
def runL (P : Program) (f : Nat) (g : FuncId) (args : List Value) : Option Value :=
  match callL P (evo P f) 0 g args L0 with
  | some (v, _) => bif gnd v then some v else none
  | none => none
/-- Nothing is known. -/
abbrev D0 : Nat → Prop := fun _ => False
abbrev m0 : Nat → MB := fun _ => ⟨0, 0, none, undef⟩
theorem L0_rel (W : World) : WRel L0 D0 m0 W W := ⟨Below.refl _ _, fun b h => h.elim, fun b k h => by simp [L0, Tr.get_lf] at h, fun b c k k' h => by simp [L0, Tr.get_lf] at h, fun e h => by simp [L0] at h, fun g h => absurd h (Nat.not_lt_zero _)⟩
/-- Which values of the program stand for which of the evaluator's: plain data as it is; '.tuple #[]': whatever there is; '.chan none': one word, whatever it is. -/
abbrev Ins (args args' : List Value) : Prop := VRels D0 m0 args args'
theorem run_ok (hN : Named P) (hm : P.follows .mixedOrders = true) {f : Nat} {g : FuncId} {args args' : List Value} {v : Value} (h : runL P f g args = some v) (hr : Ins args args') (W : World) :
    Calls P g ⟨args'⟩ W fun e W' => e = .returned v ∧ Below W.heap.size W W' := by
  unfold runL at h
  rw [evo_eq] at h
  split at h <;> try (cases h; done)
  rename_i u L1 hu
  cases hg : gnd u with
  | false => rw [hg, cond_false] at h; cases h
  | true =>
    rw [hg, cond_true] at h
    cases h
    exact callL_ok (ev_ok hN hm f).1 hu hr (L0_rel W) fun D' m' v' W' _ hv hW' => ⟨by rw [gnd_eq hv hg], hW'.bel⟩

/-! ### Calls to which words come that are known in part -/

/-- Named words: 'named k' is the k-th of the list. -/
def mN (vs : List Value) : Nat → MB := fun k => ⟨0, 0, none, vs.getD k undef⟩
def dN (vs : List Value) : Nat → Prop := fun k => k < vs.length
def nmd (k : Nat) : Value := .chan (some (k + 1))
def runW (P : Program) (f : Nat) (g : FuncId) (n : Nat) (es : List Ent) (args : List Value) : Option Value :=
  match callL P (evo P f) 0 g args ⟨.lf, n, es, 0⟩ with
  | some (v, _) => bif gnd v then some v else none
  | none => none
theorem runW_ok (hN : Named P) (hm : P.follows .mixedOrders = true) {f : Nat} {g : FuncId} {vs : List Value} {es : List Ent} {args args' : List Value} {v : Value} (h : runW P f g vs.length es args = some v)
    (he : ∀ e ∈ es, EntOK (dN vs) (mN vs) e) (hr : VRels (dN vs) (mN vs) args args') (W : World) :
    Calls P g ⟨args'⟩ W fun e W' => e = .returned v ∧ Below W.heap.size W W' := by
  unfold runW at h
  rw [evo_eq] at h
  split at h <;> try (cases h; done)
  rename_i u L1 hu
  cases hg : gnd u with
  | false => rw [hg, cond_false] at h; cases h
  | true =>
    rw [hg, cond_true] at h
    cases h
    have hW : WRel ⟨.lf, vs.length, es, 0⟩ (dN vs) (mN vs) W W := ⟨Below.refl _ _, fun b h => h, fun b k h => by simp [Tr.get_lf] at h, fun b c k k' h => by simp [Tr.get_lf] at h, he, fun g h => absurd h (Nat.not_lt_zero _)⟩
    exact callL_ok (ev_ok hN hm f).1 hu hr hW fun D' m' v' W' _ hv hW' => ⟨by rw [gnd_eq hv hg], hW'.bel⟩

/-- Calls in worlds in which package-level variables hold what is told: 'gs': which cells of which variable (its number; the cells) are known. -/
def glH : List (Nat × List Value) → Tr Blk → Tr Blk
  | [], t => t
  | p :: ps, t => glH ps (t.set p.1 (some ⟨p.2, none⟩))
theorem glH_get : ∀ (gs : List (Nat × List Value)) (t : Tr Blk) (b : Nat) (k : Blk), (glH gs t).get b = some k → (∃ p ∈ gs, p.1 = b ∧ k = ⟨p.2, none⟩) ∨ t.get b = some k
  | [], t, b, k, h => .inr h
  | p :: ps, t, b, k, h => by
    rcases glH_get ps _ b k h with ⟨q, hq, e⟩ | h1
    · exact .inl ⟨q, by simp [hq], e⟩
    · rw [Tr.get_set] at h1
      split at h1
      · rename_i e; cases h1; exact .inl ⟨p, by simp, e.symm, rfl⟩
      · exact .inr h1
/-- The variable's block, in the program's memory, holds these cells ahead of whatever it holds more, and is not frozen. -/
def GlHas (W : World) (p : Nat × List Value) : Prop := ∃ (cs : Array Value) (el : TypeId) (fz : Nat × Nat), W.heap[p.1]? = some (.cells cs el fz) ∧ ∀ (j : Nat) (v : Value), p.2[j]? = some v → cs[j]? = some v
def mG (G : Nat) (W : World) (vs : List Value) : Nat → MB := fun k => bif Nat.blt k G then ⟨k, (match W.heap[k]? with | some (.cells cs _ _) => cs.size | _ => 0), none, undef⟩ else ⟨0, 0, none, vs.getD (k - G) undef⟩
def dG (G : Nat) (vs : List Value) : Nat → Prop := fun k => k < G + vs.length
def runG (P : Program) (f : Nat) (g : FuncId) (G : Nat) (gs : List (Nat × List Value)) (n : Nat) (es : List Ent) (args : List Value) : Option Value :=
  bif gs.all (fun p => Nat.blt p.1 G && p.2.all g1) then (match callL P (evo P f) G g args ⟨glH gs .lf, G + n, es, G⟩ with
  | some (v, _) => bif gnd v then some v else none
  | none => none) else none
theorem runG_ok (hN : Named P) (hm : P.follows .mixedOrders = true) {f : Nat} {g : FuncId} {G : Nat} {gs : List (Nat × List Value)} {vs : List Value} {es : List Ent} {args args' : List Value} {v : Value} {W : World} (h : runG P f g G gs vs.length es args = some v)
    (hg : ∀ p ∈ gs, GlHas W p) (he : ∀ e ∈ es, EntOK (dG G vs) (mG G W vs) e) (hr : VRels (dG G vs) (mG G W vs) args args') :
    Calls P g ⟨args'⟩ W fun e W' => e = .returned v ∧ Below W.heap.size W W' := by
  unfold runG at h
  rw [evo_eq] at h
  cases hq : gs.all (fun p => Nat.blt p.1 G && p.2.all g1) with
  | false => rw [hq, cond_false] at h; cases h
  | true =>
    rw [hq, cond_true] at h
    split at h <;> try (cases h; done)
    rename_i u L1 hu
    cases hgu : gnd u with
    | false => rw [hgu, cond_false] at h; cases h
    | true =>
      rw [hgu, cond_true] at h
      cases h
      have hmg : ∀ k, k < G → (mG G W vs k).blk = k ∧ (mG G W vs k).flex = none := fun k hk => by
        have hb : Nat.blt k G = true := by simpa [Nat.blt_eq] using hk
        simp [mG, hb]
      have hget : ∀ b k, (glH gs .lf).get b = some k → ∃ p ∈ gs, p.1 = b ∧ k = ⟨p.2, none⟩ ∧ b < G ∧ p.2.all g1 = true := fun b k hk => by
        rcases glH_get gs .lf b k hk with ⟨p, hp, e1, e2⟩ | h1
        · have := List.all_eq_true.1 hq p hp
          simp only [Bool.and_eq_true, Nat.blt_eq] at this
          exact ⟨p, hp, e1, e2, by omega, this.2⟩
        · simp [Tr.get_lf] at h1
      have hW : WRel ⟨glH gs .lf, G + vs.length, es, G⟩ (dG G vs) (mG G W vs) W W := by
        refine ⟨Below.refl _ _, fun b h => h, fun b k hk => ?_, fun b c k k' hk hk' e => ?_, he, fun g hg => ⟨by unfold dG; simp only at hg; omega, (hmg g hg).1⟩⟩
        · obtain ⟨p, hp, e1, e2, hb, hall⟩ := hget b k hk
          obtain ⟨cs, el, fz, h1, h2⟩ := hg p hp
          subst e1 e2
          refine ⟨by unfold dG; omega, fun h => absurd hb (Nat.not_lt.2 h), (hmg _ hb).2, cs, el, fz, by rw [(hmg _ hb).1]; exact h1, fun h => absurd hb (Nat.not_lt.2 h), ?_, fun j v hj => ⟨v, h2 j v hj, .gr v ?_⟩⟩
          · have hbt : Nat.blt p.1 G = true := by simpa [Nat.blt_eq] using hb
            simp [mG, hbt, h1]
          · have hv := List.all_eq_true.1 hall v (List.mem_of_getElem? hj)
            cases v <;> simp_all [g1, gnd, g2]
        · obtain ⟨p, _, e1, _, hb, _⟩ := hget b k hk
          obtain ⟨q, _, e2, _, hc, _⟩ := hget c k' hk'
          rw [(hmg b hb).1, (hmg c hc).1] at e
          exact e
      exact callL_ok (ev_ok hN hm f).1 hu hr hW fun D' m' v' W' hS hv hW' => ⟨by rw [gnd_eq hv hgu], hW'.bel⟩
theorem nmd_of {k : Nat} {v : Value} (hd : D k) (hv : (m k).val = v) (h1 : v.oneCell' = true) : VRel D m (nmd k) v := by
  have := VRel.nm (D := D) (m := m) k hd (by rw [hv]; exact h1)
  rw [hv] at this
  exact this
theorem len_of {a r n c : Nat} {A : Option Addr} (ha : D a) (hav : (m a).val = .slice A n c) (hr : D r) (hrv : (m r).val = .int .i64 n) : EntOK D m (.len a (nmd r)) := ⟨ha, A, n, c, hav, nmd_of hr hrv rfl⟩
theorem cmp_of {op : BinOp} {k : Nat} {kd : IntKind} {x y : Int} {b : Bool} (hd : D k) (hv : (m k).val = .int kd x) (h : ∀ (P : Program) (t : TypeId) (w : World), (binOp op t (.int kd x) (.int kd y)).run P w = .ok (.bool b) w) :
    EntOK D m (.bin op (nmd k) (.int kd y) (.bool b)) := by
  refine ⟨fun j e => ?_, (fun j e => by cases e), kd, x, kd, y, .bool b, by simp [subv, nmd, hv], by simp [subv, gnd, g2, g1], .gr _ rfl, h⟩
  simp only [nmd, Value.chan.injEq, Option.some.injEq, Nat.add_right_cancel_iff] at e
  rw [← e]
  exact hd
section
variable {vs : List Value}
theorem mN_at {k : Nat} {v : Value} (h : vs[k]? = some v) : dN vs k ∧ (mN vs k).val = v := ⟨(List.getElem?_eq_some_iff.1 h).1, by simp [mN, List.getD, h]⟩
theorem mG_at {G : Nat} {W : World} {k : Nat} {v : Value} (h : vs[k]? = some v) : dG G vs (G + k) ∧ (mG G W vs (G + k)).val = v := by
  have hb : Nat.blt (G + k) G = false := by
    cases hq : Nat.blt (G + k) G with
    | false => rfl
    | true => simp only [Nat.blt_eq] at hq; omega
  have := (List.getElem?_eq_some_iff.1 h).1
  exact ⟨by unfold dG; omega, by simp [mG, hb, List.getD, h]⟩
theorem nmd_rel {k : Nat} {v : Value} (h : vs[k]? = some v) (h1 : v.oneCell' = true) : VRel (dN vs) (mN vs) (nmd k) v := nmd_of (mN_at h).1 (mN_at h).2 h1
theorem ent_len {a r n c : Nat} {A : Option Addr} (ha : vs[a]? = some (.slice A n c)) (hr : vs[r]? = some (.int .i64 n)) : EntOK (dN vs) (mN vs) (.len a (nmd r)) := len_of (mN_at ha).1 (mN_at ha).2 (mN_at hr).1 (mN_at hr).2
theorem ent_cmp {op : BinOp} {k : Nat} {kd : IntKind} {x y : Int} {b : Bool} (hk : vs[k]? = some (.int kd x)) (h : ∀ (P : Program) (t : TypeId) (w : World), (binOp op t (.int kd x) (.int kd y)).run P w = .ok (.bool b) w) :
    EntOK (dN vs) (mN vs) (.bin op (nmd k) (.int kd y) (.bool b)) := cmp_of (mN_at hk).1 (mN_at hk).2 h
variable {G : Nat} {W : World}
theorem nmd_relG {k : Nat} {v : Value} (h : vs[k]? = some v) (h1 : v.oneCell' = true) : VRel (dG G vs) (mG G W vs) (nmd (G + k)) v := nmd_of (mG_at (W := W) h).1 (mG_at (W := W) h).2 h1
theorem ent_lenG {a r n c : Nat} {A : Option Addr} (ha : vs[a]? = some (.slice A n c)) (hr : vs[r]? = some (.int .i64 n)) : EntOK (dG G vs) (mG G W vs) (.len (G + a) (nmd (G + r))) := len_of (mG_at (W := W) ha).1 (mG_at (W := W) ha).2 (mG_at (W := W) hr).1 (mG_at (W := W) hr).2
theorem ent_cmpG {op : BinOp} {k : Nat} {kd : IntKind} {x y : Int} {b : Bool} (hk : vs[k]? = some (.int kd x)) (h : ∀ (P : Program) (t : TypeId) (w : World), (binOp op t (.int kd x) (.int kd y)).run P w = .ok (.bool b) w) :
    EntOK (dG G vs) (mG G W vs) (.bin op (nmd (G + k)) (.int kd y) (.bool b)) := cmp_of (mG_at (W := W) hk).1 (mG_at (W := W) hk).2 h
end
theorem run_gtr {kd : IntKind} {x y : Int} {b : Bool} (h : decide (y < x) = b) (P : Program) (t : TypeId) (w : World) : (binOp .gtr t (.int kd x) (.int kd y)).run P w = .ok (.bool b) w := by
  subst h; simp [binOp, Op.intCmp]
theorem run_lss {kd : IntKind} {x y : Int} {b : Bool} (h : decide (x < y) = b) (P : Program) (t : TypeId) (w : World) : (binOp .lss t (.int kd x) (.int kd y)).run P w = .ok (.bool b) w := by
  subst h; simp [binOp, Op.intCmp]
theorem run_eql {kd : IntKind} {x y : Int} {b : Bool} (h : decide (x = y) = b) (P : Program) (t : TypeId) (w : World) : (binOp .eql t (.int kd x) (.int kd y)).run P w = .ok (.bool b) w := by
  subst h; simp [binOp, Op.intCmp]; rfl
theorem run_neq {kd : IntKind} {x y : Int} {b : Bool} (h : decide (x ≠ y) = b) (P : Program) (t : TypeId) (w : World) : (binOp .neq t (.int kd x) (.int kd y)).run P w = .ok (.bool b) w := by
  subst h; simp [binOp, Op.intCmp, bne]; rfl
end
end Go.Proofs.Ytejhjpdcodloaaa.Ev
