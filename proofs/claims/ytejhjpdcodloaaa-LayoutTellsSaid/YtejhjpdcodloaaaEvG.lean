/- Calls and operations of the evaluator, one behind the other. -/
import Derived.Test.YtejhjpdcodloaaaEvF
namespace Go.Proofs.Ytejhjpdcodloaaa.Ev
noncomputable section
open Go Go.RowKit
set_option linter.unusedVariables false
set_option linter.unusedSimpArgs false

variable {L L' L'' : LS} {D D' D'' : Nat → Prop} {m m' m'' : Nat → MB} {P : Program}

def argsF {α : Type} : List Value → Nat → Tr Value → (Tr Value → α) → α
  | [], _, t, k => k t
  | v :: vs, i, t, k => forceV v fun v => argsF vs (i + 1) (t.set i (some v)) k
theorem argsF_eq {α : Type} (k : Tr Value → α) : ∀ (vs : List Value) (i : Nat) (t : Tr Value), argsF vs i t k = k (argsT vs i t)
  | [], i, t => rfl
  | v :: vs, i, t => by rw [argsF, forceV_eq, argsF_eq k vs]; rfl
def callL (P : Program) (evf : Evf) (ro : Nat) (g : FuncId) (args : List Value) (L : LS) : Option (Value × LS) :=
  match P.funcs[g]? with
  | some fn => match fn.body with
    | some c => forceN (max fn.ntmps args.length) fun nt => argsF args 0 .lf fun t0 => match evf ro c t0 nt L with
      | some (.normal, t, L') => match resL P fn t L' with
        | some v => some (v, L')
        | none => none
      | some (.ret, t, L') => match resL P fn t L' with
        | some v => some (v, L')
        | none => none
      | _ => none
    | none => none
  | none => none

/-- What writes memory that is there, or calls. -/
def opE (P : Program) (evf : Evf) (ro : Nat) (t : Tr Value) (o : Oper) (L : LS) : Option (Value × LS) :=
  match wrop P ro (lev L.gl t) L o with
  | some r => some r
  | none => match clop (lev L.gl t) o with
    | some (g, args) => callL P evf ro g args L
    | none => none

def opL1 (P : Program) (evf : Evf) (ro : Nat) (t : Tr Value) (o : Oper) (L : LS) : Option (Value × LS) :=
  match ldo P L (lev L.gl t) o with
  | some v => some (v, L)
  | none => match rdop P (fxOf L) (lev L.gl t) o with
    | some v => some (v, L)
    | none => match aop P (lev L.gl t) o with
      | some (cs, sh) => some (shp L.n sh, L.newF cs none)
      | none => opE P evf ro t o L
def opL (P : Program) (evf : Evf) (ro : Nat) (t : Tr Value) (o : Oper) (L : LS) : Option (Value × LS) :=
  match fast P (lev L.gl t) (fkind o) with
  | some v => some (v, L)
  | none => opL1 P evf ro t o L

def opsL (P : Program) (evf : Evf) (ro : Nat) (ops : Array Oper) (nt : Nat) : List Oper → Tr Value → LS → Option (Tr Value × LS)
  | [], t, L => some (t, L)
  | o :: rest, t, L => match wantL ops t o with
    | some true => match opL P evf ro t o L with
      | some (v, L') => match putL nt t o.dst v with
        | some t' => opsL P evf ro ops nt rest t' L'
        | none => none
      | none => none
    | some false => match putL nt t o.dst (.chan (some 0)) with
      | some t' => opsL P evf ro ops nt rest t' L
      | none => none
    | none => none

def EvOK (P : Program) (evf : Evf) : Prop :=
  ∀ ro c t nt L x t' L', evf ro c t nt L = some (x, t', L') → ∀ D m a W0 W, FRel D m nt t a → WRel L D m W0 W → ∀ Q : Exit → Act → World → Prop,
    (∀ D' m' a' W', Stp ro L D m W L' D' m' W' → FRel D' m' nt t' a' → WRel L' D' m' W0 W' → Q x.up a' W') → c.wp P Q a W

theorem callL_ok {evf : Evf} (hE : EvOK P evf) {ro : Nat} {g : FuncId} {args args' : List Value} {v : Value} (h : callL P evf ro g args L = some (v, L')) (hr : VRels D m args args') {W0 W : World} (hW : WRel L D m W0 W) {R : Ending → World → Prop}
    (hR : ∀ D' m' v' W', Stp ro L D m W L' D' m' W' → VRel D' m' v v' → WRel L' D' m' W0 W' → R (.returned v') W') : Calls P g ⟨args'⟩ W R := by
  unfold callL at h
  simp only [forceN_eq, argsF_eq] at h
  split at h <;> try (cases h; done)
  rename_i fn hf
  split at h <;> try (cases h; done)
  rename_i c hb
  split at h <;> try (cases h; done)
  · rename_i t L1 he
    split at h <;> try (cases h; done)
    rename_i u hu
    cases h
    refine calls_of_wp hf hb (hE _ _ _ _ _ _ _ _ he D m _ W0 W (frame0 hr fn.ntmps) hW _ fun D' m' a' W' hS hF hW' => ?_)
    obtain ⟨v', h1, h2⟩ := resL_ok hW' hF hu
    exact ⟨hF.dfr, v', h2, hR D' m' v' W' hS h1 hW'⟩
  · rename_i t L1 he
    split at h <;> try (cases h; done)
    rename_i u hu
    cases h
    refine calls_of_wp hf hb (hE _ _ _ _ _ _ _ _ he D m _ W0 W (frame0 hr fn.ntmps) hW _ fun D' m' a' W' hS hF hW' => ?_)
    obtain ⟨v', h1, h2⟩ := resL_ok hW' hF hu
    exact ⟨hF.dfr, v', h2, hR D' m' v' W' hS h1 hW'⟩
theorem callL_body {evf : Evf} {ro : Nat} {g : FuncId} {args : List Value} {r : Value × LS} (h : callL P evf ro g args L = some r) : ∃ fn c, P.funcs[g]? = some fn ∧ fn.body = some c := by
  unfold callL at h
  split at h <;> try (cases h; done)
  rename_i fn hf
  split at h <;> try (cases h; done)
  rename_i c hb
  exact ⟨fn, c, hf, hb⟩

theorem opE_ok (hN : Named P) {evf : Evf} (hE : EvOK P evf) {ro : Nat} {t : Tr Value} {o : Oper} {v : Value} (h : opE P evf ro t o L = some (v, L')) {a : Act} (hρ : Rl D m (lev L.gl t) a.eval o) {W0 W : World} (hW : WRel L D m W0 W)
    {K : Act → World → Prop} {Q : Exit → Act → World → Prop} (hK : ∀ D' m' v' W', Stp ro L D m W L' D' m' W' → VRel D' m' v v' → WRel L' D' m' W0 W' → K (a.put o.dst v') W') : o.wp P a W K Q := by
  unfold opE at h
  unfold Oper.wp
  split at h
  · rename_i r hr
    cases h
    obtain ⟨n, v', D1, m1, W1, h1, h2, h3, h4, h5⟩ := wrop_ok hρ hW hr
    rw [h1]
    rcases h2 with rfl | ⟨rfl, rfl⟩
    · exact hK D1 m1 v' W1 h5 h3 h4
    · exact hK D1 m1 undef W1 h5 h3 h4
  · split at h <;> try (cases h; done)
    rename_i g args hc
    obtain ⟨fn, c, hf, hb⟩ := callL_body h
    obtain ⟨args', h1, h2⟩ := clop_ok hN hρ hf hb hc
    rw [h2 W]
    exact callL_ok hE h h1 hW fun D' m' v' W' hS hv hW' => hK D' m' v' W' hS hv hW'

theorem opL1_ok (hN : Named P) {evf : Evf} (hE : EvOK P evf) {ro : Nat} {t : Tr Value} {o : Oper} {v : Value} (h : opL1 P evf ro t o L = some (v, L')) {a : Act} (hρ : Rl D m (lev L.gl t) a.eval o) {W0 W : World} (hW : WRel L D m W0 W)
    {K : Act → World → Prop} {Q : Exit → Act → World → Prop} (hK : ∀ D' m' v' W', Stp ro L D m W L' D' m' W' → VRel D' m' v v' → WRel L' D' m' W0 W' → K (a.put o.dst v') W') : o.wp P a W K Q := by
  unfold opL1 at h
  simp only [LS.newF_eq] at h
  split at h
  · rename_i u hu
    cases h
    obtain ⟨v', h1, h2⟩ := ldo_ok hρ hW hu
    unfold Oper.wp
    rw [h2]
    exact hK D m v' W (Stp.refl _ _ _ _ _) h1 hW
  · split at h
    · rename_i u hu
      cases h
      obtain ⟨v', h1, h2⟩ := rdop_ok hρ (fxOf_ok hW) hu
      unfold Oper.wp
      rw [h2 W]
      exact hK D m v' W (Stp.refl _ _ _ _ _) h1 hW
    · split at h
      · rename_i cs sh hc
        cases h
        obtain ⟨n, v', D1, m1, W1, h1, h2, h3, h4, h5⟩ := new_ok hW ro (aop_ok hρ hc)
        unfold Oper.wp
        rw [h1]
        rcases h2 with rfl | ⟨rfl, rfl⟩
        · exact hK D1 m1 v' W1 h5 h3 h4
        · exact hK D1 m1 undef W1 h5 h3 h4
      · exact opE_ok hN hE h hρ hW hK
theorem opL_ok (hN : Named P) {evf : Evf} (hE : EvOK P evf) {ro : Nat} {t : Tr Value} {o : Oper} {v : Value} (h : opL P evf ro t o L = some (v, L')) {a : Act} (hρ : Rl D m (lev L.gl t) a.eval o) {W0 W : World} (hW : WRel L D m W0 W)
    {K : Act → World → Prop} {Q : Exit → Act → World → Prop} (hK : ∀ D' m' v' W', Stp ro L D m W L' D' m' W' → VRel D' m' v v' → WRel L' D' m' W0 W' → K (a.put o.dst v') W') : o.wp P a W K Q := by
  unfold opL at h
  split at h
  · rename_i u hu
    cases h
    obtain ⟨v', h1, h2⟩ := fast_ok hρ hu
    unfold Oper.wp
    rw [h2 W]
    exact hK D m v' W (Stp.refl _ _ _ _ _) h1 hW
  · exact opL1_ok hN hE h hρ hW hK

theorem opsL_ok (hN : Named P) {evf : Evf} (hE : EvOK P evf) {ro nt : Nat} {ops : Array Oper} {W0 : World} {t' : Tr Value} {L' : LS} {Q : Exit → Act → World → Prop} : ∀ (l : List Oper) (t : Tr Value) (L : LS) (D : Nat → Prop) (m : Nat → MB) (a : Act) (W : World),
    opsL P evf ro ops nt l t L = some (t', L') → FRel D m nt t a → WRel L D m W0 W → (∀ D' m' a' W', Stp ro L D m W L' D' m' W' → FRel D' m' nt t' a' → WRel L' D' m' W0 W' → Q .normal a' W') → wpList P ops Q l a W
  | [], t, L, D, m, a, W, h, hF, hW, hQ => by
    simp only [opsL, Option.some.injEq, Prod.mk.injEq] at h
    obtain ⟨rfl, rfl⟩ := h
    exact hQ D m a W (Stp.refl _ _ _ _ _) hF hW
  | o :: rest, t, L, D, m, a, W, h, hF, hW, hQ => by
    simp only [opsL] at h
    unfold wpList
    split at h <;> try (cases h; done)
    · rename_i hw
      rw [wantL_ok hF hw, if_pos rfl]
      split at h <;> try (cases h; done)
      rename_i v L1 hop
      split at h <;> try (cases h; done)
      rename_i t1 hp
      exact .inl (opL_ok hN hE hop (fun x _ => lev_rel hW.gl hF x) hW fun D1 m1 v1 W1 hS hv hW1 => opsL_ok hN hE rest t1 L1 D1 m1 _ W1 h (putL_ok (hF.mono hS.ext) hv hp) hW1 fun D' m' a' W' hS' => hQ D' m' a' W' (hS.trans hS'))
    · rename_i hw
      rw [wantL_ok hF hw, if_neg (by simp)]
      split at h <;> try (cases h; done)
      rename_i t1 hp
      exact opsL_ok hN hE rest t1 L D m _ W h (putL_ok hF .ud hp) hW hQ
/-! ### The short road through a row of operations -/

inductive FK2 where
  | mv (x : Operand) (d : Nat)
  | pk (c a b : Operand) (d : Nat)
  | fa (s : TypeId) (f : Nat) (x : Operand) (d : Nat)
  | cm (op : BinOp) (x y : Operand) (d : Nat)
  | ld (ty : TypeId) (x : Operand) (d : Nat)
  | ex (x : Operand) (i : Nat) (d : Nat)
  | ca (f : Operand) (args : List Operand) (d : Option Tmp)
  | ot
def fcall (o : Oper) : FK2 := match o.op with
  | .call c => match c.callee with
    | .value f => .ca f c.args.toList o.dst
    | _ => .ot
  | _ => .ot
def fload (o : Oper) (d : Nat) : FK2 := match o.op with
  | .load ty x => .ld ty x d
  | _ => fcall o
def fk (nt : Nat) (o : Oper) : FK2 := match o.guard, o.dst with
  | none, some d => bif Nat.blt d nt then (match fkind o with
    | .mv x => .mv x d
    | .pk c a b => .pk c a b d
    | .fa s f x => .fa s f x d
    | .cm op x y => .cm op x y d
    | .ex x i => .ex x i d
    | .ot => fload o d) else .ot
  | none, none => fcall o
  | _, _ => .ot
def getK {α : Type} (gl : Nat) (t : Tr Value) (x : Operand) (k : Value → α) : α := match x with
  | .tmp i => Option.rec (motive := fun _ => α) (k (.tuple #[])) (fun v => k v) (t.get i)
  | .const v => bif gnd v then k v else k (.tuple #[])
  | .global g => bif Nat.blt g gl then k (.pointer (some ⟨g, 0, none⟩)) else k (.tuple #[])
  | .func f => k (.func (.func f) #[] #[])
theorem getK_eq {α : Type} (gl : Nat) (t : Tr Value) (x : Operand) (k : Value → α) : getK gl t x k = k (lev gl t x) := by
  unfold getK lev
  cases x with
  | tmp i => simp only []; cases t.get i <;> rfl
  | const v => simp only []; cases gnd v <;> rfl
  | global g => simp only []; cases Nat.blt g gl <;> rfl
  | func f => rfl
def cmK {α : Type} (op : BinOp) (v u : Value) (k : Value → α) (e : α) : α := match v, u with
  | .int kd a, .int kd' b => bif decide (kd = kd') then (match cmZ op kd a b with
    | some r => forceV r k
    | none => e) else e
  | _, _ => e
def slowF {α : Type} (P : Program) (evf : Evf) (ro : Nat) (ops : Array Oper) (nt : Nat) (o : Oper) (t : Tr Value) (L : LS) (ih : Tr Value → LS → α) (e : α) : α :=
  match wantL ops t o with
    | some true => match opL P evf ro t o L with
      | some (v, L') => match putL nt t o.dst v with
        | some t' => ih t' L'
        | none => e
      | none => e
    | some false => match putL nt t o.dst (.chan (some 0)) with
      | some t' => ih t' L
      | none => e
    | none => e
def stepF {α : Type} (P : Program) (evf : Evf) (ro : Nat) (ops : Array Oper) (nt : Nat) (o : Oper) (t : Tr Value) (L : LS) (ih : Tr Value → LS → α) (e : α) : α :=
  FK2.rec (motive := fun _ => α)
    (fun x d => getK L.gl t x fun v => ih (t.set d (some v)) L)
    (fun c a b d => getK L.gl t c fun v => match v with
      | .bool true => getK L.gl t a fun u => ih (t.set d (some u)) L
      | .bool false => getK L.gl t b fun u => ih (t.set d (some u)) L
      | _ => slowF P evf ro ops nt o t L ih e)
    (fun s f x d => getK L.gl t x fun v => match fldop P s f v with
      | some u => ih (t.set d (some u)) L
      | none => slowF P evf ro ops nt o t L ih e)
    (fun op x y d => getK L.gl t x fun v => getK L.gl t y fun u => cmK op v u (fun r => ih (t.set d (some r)) L) (slowF P evf ro ops nt o t L ih e))
    (fun ty x d => getK L.gl t x fun v => match ldop P L ty v with
      | some u => forceV u fun u => ih (t.set d (some u)) L
      | none => slowF P evf ro ops nt o t L ih e)
    (fun x i d => getK L.gl t x fun v => match exop v i with
      | some u => forceV u fun u => ih (t.set d (some u)) L
      | none => slowF P evf ro ops nt o t L ih e)
    (fun f args d => getK L.gl t f fun v => match v with
      | .func (.func g) ⟨[]⟩ ⟨[]⟩ => (match callL P evf ro g (args.map (lev L.gl t)) L with
        | some (u, L') => (match putL nt t d u with
          | some t' => ih t' L'
          | none => e)
        | none => e)
      | _ => slowF P evf ro ops nt o t L ih e)
    (slowF P evf ro ops nt o t L ih e)
    (fk nt o)
theorem slow_fast {α : Type} {evf : Evf} {ro : Nat} {ops : Array Oper} {nt : Nat} {o : Oper} {t : Tr Value} {ih : Tr Value → LS → α} {e : α} {d : Nat} {v : Value} (hg : o.guard = none) (hd : o.dst = some d) (hb : Nat.blt d nt = true) (h : fast P (lev L.gl t) (fkind o) = some v) :
    slowF P evf ro ops nt o t L ih e = ih (t.set d (some v)) L := by
  unfold slowF wantL opL putL
  simp only [hg, h, hd, hb, cond_true, forceV_eq]
theorem cm_slow {α : Type} {evf : Evf} {ro : Nat} {ops : Array Oper} {nt : Nat} {o : Oper} {t : Tr Value} {ih : Tr Value → LS → α} {e : α} {d : Nat} {op : BinOp} {x y : Operand} (hf : fkind o = .cm op x y) (hg : o.guard = none) (hd : o.dst = some d) (hb : Nat.blt d nt = true) :
    cmK op (lev L.gl t x) (lev L.gl t y) (fun r => ih (t.set d (some r)) L) (slowF P evf ro ops nt o t L ih e) = slowF P evf ro ops nt o t L ih e := by
  unfold cmK
  split
  · rename_i kd a kd' b hx hy
    cases hkk : decide (kd = kd') with
    | false => rw [cond_false]
    | true =>
      rw [cond_true]
      split
      · rename_i r hz
        rw [forceV_eq]
        refine (slow_fast hg hd hb ?_).symm
        rw [hf]
        simp only [fast, hx, hy, hkk, cond_true, hz]
      · rfl
  · rfl
theorem fcall_ot {o : Oper} : (∃ f args d, fcall o = .ca f args d) ∨ fcall o = .ot := by
  unfold fcall
  split
  · split
    · exact .inl ⟨_, _, _, rfl⟩
    · exact .inr rfl
  · exact .inr rfl
theorem fk_cases {nt : Nat} {o : Oper} {r : FK2} (h : fk nt o = r) : (r = .ot) ∨ (o.guard = none ∧ o.dst = none ∧ fcall o = r) ∨ (∃ d, o.guard = none ∧ o.dst = some d ∧ Nat.blt d nt = true ∧ (match fkind o with
    | .mv x => FK2.mv x d
    | .pk c a b => .pk c a b d
    | .fa s f x => .fa s f x d
    | .cm op x y => .cm op x y d
    | .ex x i => .ex x i d
    | .ot => fload o d) = r) := by
  unfold fk at h
  split at h
  · rename_i d hg hd
    cases hb : Nat.blt d nt with
    | false => rw [hb, cond_false] at h; exact .inl h.symm
    | true => rw [hb, cond_true] at h; exact .inr (.inr ⟨d, hg, hd, hb, h⟩)
  · rename_i hg hd; exact .inr (.inl ⟨hg, hd, h⟩)
  · exact .inl h.symm
theorem fload_cases {o : Oper} {d : Nat} {r : FK2} (h : fload o d = r) : (∃ ty x, o.op = .load ty x ∧ r = .ld ty x d) ∨ fcall o = r := by
  unfold fload at h
  split at h
  · rename_i ty x ho; exact .inl ⟨ty, x, ho, h.symm⟩
  · exact .inr h
theorem fk_mv {nt : Nat} {o : Oper} {x : Operand} {d : Nat} (h : fk nt o = .mv x d) : o.guard = none ∧ o.dst = some d ∧ Nat.blt d nt = true ∧ fkind o = .mv x := by
  rcases fk_cases h with e | ⟨_, _, e⟩ | ⟨d', hg, hd, hb, e⟩
  · cases e
  · rcases fcall_ot (o := o) with ⟨_, _, _, h'⟩ | h' <;> rw [h'] at e <;> cases e
  · split at e <;> try (cases e; done)
    · rename_i hf; cases e; exact ⟨hg, hd, hb, hf⟩
    · rcases fload_cases e with ⟨_, _, _, e'⟩ | e'
      · cases e'
      · rcases fcall_ot (o := o) with ⟨_, _, _, h'⟩ | h' <;> rw [h'] at e' <;> cases e'
theorem fk_pk {nt : Nat} {o : Oper} {c a b : Operand} {d : Nat} (h : fk nt o = .pk c a b d) : o.guard = none ∧ o.dst = some d ∧ Nat.blt d nt = true ∧ fkind o = .pk c a b := by
  rcases fk_cases h with e | ⟨_, _, e⟩ | ⟨d', hg, hd, hb, e⟩
  · cases e
  · rcases fcall_ot (o := o) with ⟨_, _, _, h'⟩ | h' <;> rw [h'] at e <;> cases e
  · split at e <;> try (cases e; done)
    · rename_i hf; cases e; exact ⟨hg, hd, hb, hf⟩
    · rcases fload_cases e with ⟨_, _, _, e'⟩ | e'
      · cases e'
      · rcases fcall_ot (o := o) with ⟨_, _, _, h'⟩ | h' <;> rw [h'] at e' <;> cases e'
theorem fk_fa {nt : Nat} {o : Oper} {s : TypeId} {f : Nat} {x : Operand} {d : Nat} (h : fk nt o = .fa s f x d) : o.guard = none ∧ o.dst = some d ∧ Nat.blt d nt = true ∧ fkind o = .fa s f x := by
  rcases fk_cases h with e | ⟨_, _, e⟩ | ⟨d', hg, hd, hb, e⟩
  · cases e
  · rcases fcall_ot (o := o) with ⟨_, _, _, h'⟩ | h' <;> rw [h'] at e <;> cases e
  · split at e <;> try (cases e; done)
    · rename_i hf; cases e; exact ⟨hg, hd, hb, hf⟩
    · rcases fload_cases e with ⟨_, _, _, e'⟩ | e'
      · cases e'
      · rcases fcall_ot (o := o) with ⟨_, _, _, h'⟩ | h' <;> rw [h'] at e' <;> cases e'
theorem fk_cm {nt : Nat} {o : Oper} {op : BinOp} {x y : Operand} {d : Nat} (h : fk nt o = .cm op x y d) : o.guard = none ∧ o.dst = some d ∧ Nat.blt d nt = true ∧ fkind o = .cm op x y := by
  rcases fk_cases h with e | ⟨_, _, e⟩ | ⟨d', hg, hd, hb, e⟩
  · cases e
  · rcases fcall_ot (o := o) with ⟨_, _, _, h'⟩ | h' <;> rw [h'] at e <;> cases e
  · split at e <;> try (cases e; done)
    · rename_i hf; cases e; exact ⟨hg, hd, hb, hf⟩
    · rcases fload_cases e with ⟨_, _, _, e'⟩ | e'
      · cases e'
      · rcases fcall_ot (o := o) with ⟨_, _, _, h'⟩ | h' <;> rw [h'] at e' <;> cases e'
theorem fk_ex {nt : Nat} {o : Oper} {x : Operand} {i : Nat} {d : Nat} (h : fk nt o = .ex x i d) : o.guard = none ∧ o.dst = some d ∧ Nat.blt d nt = true ∧ fkind o = .ex x i := by
  rcases fk_cases h with e | ⟨_, _, e⟩ | ⟨d', hg, hd, hb, e⟩
  · cases e
  · rcases fcall_ot (o := o) with ⟨_, _, _, h'⟩ | h' <;> rw [h'] at e <;> cases e
  · split at e <;> try (cases e; done)
    · rename_i hf; cases e; exact ⟨hg, hd, hb, hf⟩
    · rcases fload_cases e with ⟨_, _, _, e'⟩ | e'
      · cases e'
      · rcases fcall_ot (o := o) with ⟨_, _, _, h'⟩ | h' <;> rw [h'] at e' <;> cases e'
theorem fk_ld {nt : Nat} {o : Oper} {ty : TypeId} {x : Operand} {d : Nat} (h : fk nt o = .ld ty x d) : o.guard = none ∧ o.dst = some d ∧ Nat.blt d nt = true ∧ fkind o = .ot ∧ o.op = .load ty x := by
  rcases fk_cases h with e | ⟨_, _, e⟩ | ⟨d', hg, hd, hb, e⟩
  · cases e
  · rcases fcall_ot (o := o) with ⟨_, _, _, h'⟩ | h' <;> rw [h'] at e <;> cases e
  · split at e <;> try (cases e; done)
    rename_i hf
    rcases fload_cases e with ⟨_, _, ho, e'⟩ | e'
    · cases e'; exact ⟨hg, hd, hb, hf, ho⟩
    · rcases fcall_ot (o := o) with ⟨_, _, _, h'⟩ | h' <;> rw [h'] at e' <;> cases e'
theorem fk_ca {nt : Nat} {o : Oper} {f : Operand} {args : List Operand} {dd : Option Tmp} (h : fk nt o = .ca f args dd) : o.guard = none ∧ fcall o = .ca f args dd := by
  rcases fk_cases h with e | ⟨hg, _, e⟩ | ⟨d', hg, hd, hb, e⟩
  · cases e
  · exact ⟨hg, e⟩
  · split at e <;> try (cases e; done)
    rcases fload_cases e with ⟨_, _, _, e'⟩ | e'
    · cases e'
    · exact ⟨hg, e'⟩
theorem slow_op {α : Type} {evf : Evf} {ro : Nat} {ops : Array Oper} {nt : Nat} {o : Oper} {t : Tr Value} {ih : Tr Value → LS → α} {e : α} (hg : o.guard = none) :
    slowF P evf ro ops nt o t L ih e = match opL P evf ro t o L with
      | some (v, L') => (match putL nt t o.dst v with
        | some t' => ih t' L'
        | none => e)
      | none => e := by
  unfold slowF wantL
  simp only [hg]
theorem call_slow {α : Type} {evf : Evf} {ro : Nat} {ops : Array Oper} {nt : Nat} {o : Oper} {t : Tr Value} {ih : Tr Value → LS → α} {e : α} {f : Operand} {args : List Operand} {dd : Option Tmp} (hg : o.guard = none) (hf : fcall o = .ca f args dd) :
    (match lev L.gl t f with
      | .func (.func g) ⟨[]⟩ ⟨[]⟩ => (match callL P evf ro g (args.map (lev L.gl t)) L with
        | some (u, L') => (match putL nt t dd u with
          | some t' => ih t' L'
          | none => e)
        | none => e)
      | _ => slowF P evf ro ops nt o t L ih e) = slowF P evf ro ops nt o t L ih e := by
  unfold fcall at hf
  split at hf <;> try (cases hf; done)
  rename_i c ho
  split at hf <;> try (cases hf; done)
  rename_i f' hc
  cases hf
  split
  · rename_i g hv
    rw [slow_op hg]
    have e1 : opL P evf ro t o L = callL P evf ro g (c.args.toList.map (lev L.gl t)) L := by
      simp [opL, fkind, ho, fast, opL1, ldo, rdop, aop, opE, wrop, clop, hc, hv]
    rw [e1]
  · rfl
theorem stepF_eq {α : Type} (evf : Evf) (ro : Nat) (ops : Array Oper) (nt : Nat) (o : Oper) (t : Tr Value) (L : LS) (ih : Tr Value → LS → α) (e : α) : stepF P evf ro ops nt o t L ih e = slowF P evf ro ops nt o t L ih e := by
  cases hk : fk nt o with
  | ot => simp only [stepF, hk]
  | mv x d =>
    obtain ⟨hg, hd, hb, hf⟩ := fk_mv hk
    simp only [stepF, hk, getK_eq]
    exact (slow_fast hg hd hb (by rw [hf]; rfl)).symm
  | pk c a b d =>
    obtain ⟨hg, hd, hb, hf⟩ := fk_pk hk
    simp only [stepF, hk, getK_eq]
    split
    · rename_i hv; exact (slow_fast hg hd hb (by rw [hf]; simp only [fast, hv]; rfl)).symm
    · rename_i hv; exact (slow_fast hg hd hb (by rw [hf]; simp only [fast, hv]; rfl)).symm
    · rfl
  | fa s f x d =>
    obtain ⟨hg, hd, hb, hf⟩ := fk_fa hk
    simp only [stepF, hk, getK_eq]
    split
    · rename_i hv; exact (slow_fast hg hd hb (by rw [hf]; simp only [fast, hv])).symm
    · rfl
  | cm op x y d =>
    obtain ⟨hg, hd, hb, hf⟩ := fk_cm hk
    simp only [stepF, hk, getK_eq]
    exact cm_slow hf hg hd hb
  | ex x i d =>
    obtain ⟨hg, hd, hb, hf⟩ := fk_ex hk
    simp only [stepF, hk, getK_eq]
    split
    · rename_i hv; rw [forceV_eq]; exact (slow_fast hg hd hb (by rw [hf]; simp only [fast, hv])).symm
    · rfl
  | ld ty x d =>
    obtain ⟨hg, hd, hb, hf, ho⟩ := fk_ld hk
    simp only [stepF, hk, getK_eq]
    split
    · rename_i u hv
      rw [forceV_eq, slow_op hg]
      have e1 : opL P evf ro t o L = some (u, L) := by simp [opL, fkind, ho, fast, opL1, ldo, hv]
      rw [e1]
      simp only [putL, hd, hb, cond_true, forceV_eq]
    · rfl
  | ca f args d =>
    obtain ⟨hg, hf⟩ := fk_ca hk
    simp only [stepF, hk, getK_eq]
    exact call_slow hg hf
def opsF {α : Type} (P : Program) (evf : Evf) (ro : Nat) (ops : Array Oper) (nt : Nat) (k : Tr Value → LS → α) (e : α) (l : List Oper) (t : Tr Value) (L : LS) : α :=
  List.rec (motive := fun _ => Tr Value → LS → α) (fun t L => k t L) (fun o _ ih t L => stepF P evf ro ops nt o t L ih e) l t L
theorem opsF_eq {α : Type} (evf : Evf) (ro : Nat) (ops : Array Oper) (nt : Nat) (k : Tr Value → LS → α) (e : α) : ∀ (l : List Oper) (t : Tr Value) (L : LS), opsF P evf ro ops nt k e l t L = match opsL P evf ro ops nt l t L with
    | some (t', L') => k t' L'
    | none => e
  | [], t, L => rfl
  | o :: l, t, L => by
    have e1 : opsF P evf ro ops nt k e (o :: l) t L = stepF P evf ro ops nt o t L (opsF P evf ro ops nt k e l) e := rfl
    rw [e1, stepF_eq]
    unfold slowF
    simp only [opsL]
    split
    · split
      · split
        · exact opsF_eq evf ro ops nt k e l _ _
        · rfl
      · rfl
    · split
      · exact opsF_eq evf ro ops nt k e l _ _
      · rfl
    · rfl

end
end Go.Proofs.Ytejhjpdcodloaaa.Ev
