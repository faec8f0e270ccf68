/- Calls and operations of the evaluator, one behind the other. -/
import Derived.Test.YtbldammbkblooaaEvF
namespace Go.Proofs.Ytbldammbkblooaa.Ev
open Go Go.RowKit
set_option linter.unusedVariables false
set_option linter.unusedSimpArgs false

variable {L L' L'' : LS} {D D' D'' : Nat → Prop} {m m' m'' : Nat → MB} {P : Program}

def callL (P : Program) (evf : Evf) (ro : Nat) (g : FuncId) (args : List Value) (L : LS) : Option (Value × LS) :=
  match P.funcs[g]? with
  | some fn => match fn.body with
    | some c => match evf ro c (argsT args 0 .lf) (max fn.ntmps args.length) L with
      | some (.normal, t, L') => match resL P fn t L' with
        | some v => some (v, L')
        | none => none
      | some (.ret, t, L') => match resL P fn t L' with
        | some v => some (v, L')
        | none => none
      | _ => none
    | none => none
  | none => none

/-- What writes memory that is there, or calls. -/
def opE (P : Program) (evf : Evf) (ro : Nat) (t : Tr Value) (o : Oper) (L : LS) : Option (Value × LS) :=
  match wrop P ro (lev t) L o with
  | some r => some r
  | none => match clop (lev t) o with
    | some (g, args) => callL P evf ro g args L
    | none => none

def opL (P : Program) (evf : Evf) (ro : Nat) (t : Tr Value) (o : Oper) (L : LS) : Option (Value × LS) :=
  match ldo P L (lev t) o with
  | some v => some (v, L)
  | none => match rdop P (fxOf L) (lev t) o with
    | some v => some (v, L)
    | none => match aop P (lev t) o with
      | some (cs, sh) => some (shp L.n sh, L.new cs none)
      | none => opE P evf ro t o L

def opsL (P : Program) (evf : Evf) (ro : Nat) (ops : Array Oper) (nt : Nat) : List Oper → Tr Value → LS → Option (Tr Value × LS)
  | [], t, L => some (t, L)
  | o :: rest, t, L => match wantL ops t o with
    | some true => match opL P evf ro t o L with
      | some (v, L') => match putL nt t o.dst v with
        | some t' => opsL P evf ro ops nt rest t' L'
        | none => none
      | none => none
    | some false => match putL nt t o.dst (.chan (some 0)) with
      | some t' => opsL P evf ro ops nt rest t' L
      | none => none
    | none => none

def EvOK (P : Program) (evf : Evf) : Prop :=
  ∀ ro c t nt L x t' L', evf ro c t nt L = some (x, t', L') → ∀ D m a W0 W, FRel D m nt t a → WRel L D m W0 W → ∀ Q : Exit → Act → World → Prop,
    (∀ D' m' a' W', Stp ro L D m W L' D' m' W' → FRel D' m' nt t' a' → WRel L' D' m' W0 W' → Q x.up a' W') → c.wp P Q a W

theorem callL_ok {evf : Evf} (hE : EvOK P evf) {ro : Nat} {g : FuncId} {args args' : List Value} {v : Value} (h : callL P evf ro g args L = some (v, L')) (hr : VRels D m args args') {W0 W : World} (hW : WRel L D m W0 W) {R : Ending → World → Prop}
    (hR : ∀ D' m' v' W', Stp ro L D m W L' D' m' W' → VRel D' m' v v' → WRel L' D' m' W0 W' → R (.returned v') W') : Calls P g ⟨args'⟩ W R := by
  unfold callL at h
  split at h <;> try (cases h; done)
  rename_i fn hf
  split at h <;> try (cases h; done)
  rename_i c hb
  split at h <;> try (cases h; done)
  · rename_i t L1 he
    split at h <;> try (cases h; done)
    rename_i u hu
    cases h
    refine calls_of_wp hf hb (hE _ _ _ _ _ _ _ _ he D m _ W0 W (frame0 hr fn.ntmps) hW _ fun D' m' a' W' hS hF hW' => ?_)
    obtain ⟨v', h1, h2⟩ := resL_ok hW' hF hu
    exact ⟨hF.dfr, v', h2, hR D' m' v' W' hS h1 hW'⟩
  · rename_i t L1 he
    split at h <;> try (cases h; done)
    rename_i u hu
    cases h
    refine calls_of_wp hf hb (hE _ _ _ _ _ _ _ _ he D m _ W0 W (frame0 hr fn.ntmps) hW _ fun D' m' a' W' hS hF hW' => ?_)
    obtain ⟨v', h1, h2⟩ := resL_ok hW' hF hu
    exact ⟨hF.dfr, v', h2, hR D' m' v' W' hS h1 hW'⟩
theorem callL_body {evf : Evf} {ro : Nat} {g : FuncId} {args : List Value} {r : Value × LS} (h : callL P evf ro g args L = some r) : ∃ fn c, P.funcs[g]? = some fn ∧ fn.body = some c := by
  unfold callL at h
  split at h <;> try (cases h; done)
  rename_i fn hf
  split at h <;> try (cases h; done)
  rename_i c hb
  exact ⟨fn, c, hf, hb⟩

theorem opE_ok (hN : Named P) {evf : Evf} (hE : EvOK P evf) {ro : Nat} {t : Tr Value} {o : Oper} {v : Value} (h : opE P evf ro t o L = some (v, L')) {a : Act} (hρ : Rl D m (lev t) a.eval o) {W0 W : World} (hW : WRel L D m W0 W)
    {K : Act → World → Prop} {Q : Exit → Act → World → Prop} (hK : ∀ D' m' v' W', Stp ro L D m W L' D' m' W' → VRel D' m' v v' → WRel L' D' m' W0 W' → K (a.put o.dst v') W') : o.wp P a W K Q := by
  unfold opE at h
  unfold Oper.wp
  split at h
  · rename_i r hr
    cases h
    obtain ⟨n, v', D1, m1, W1, h1, h2, h3, h4, h5⟩ := wrop_ok hρ hW hr
    rw [h1]
    rcases h2 with rfl | ⟨rfl, rfl⟩
    · exact hK D1 m1 v' W1 h5 h3 h4
    · exact hK D1 m1 undef W1 h5 h3 h4
  · split at h <;> try (cases h; done)
    rename_i g args hc
    obtain ⟨fn, c, hf, hb⟩ := callL_body h
    obtain ⟨args', h1, h2⟩ := clop_ok hN hρ hf hb hc
    rw [h2 W]
    exact callL_ok hE h h1 hW fun D' m' v' W' hS hv hW' => hK D' m' v' W' hS hv hW'

theorem opL_ok (hN : Named P) {evf : Evf} (hE : EvOK P evf) {ro : Nat} {t : Tr Value} {o : Oper} {v : Value} (h : opL P evf ro t o L = some (v, L')) {a : Act} (hρ : Rl D m (lev t) a.eval o) {W0 W : World} (hW : WRel L D m W0 W)
    {K : Act → World → Prop} {Q : Exit → Act → World → Prop} (hK : ∀ D' m' v' W', Stp ro L D m W L' D' m' W' → VRel D' m' v v' → WRel L' D' m' W0 W' → K (a.put o.dst v') W') : o.wp P a W K Q := by
  unfold opL at h
  split at h
  · rename_i u hu
    cases h
    obtain ⟨v', h1, h2⟩ := ldo_ok hρ hW hu
    unfold Oper.wp
    rw [h2]
    exact hK D m v' W (Stp.refl _ _ _ _ _) h1 hW
  · split at h
    · rename_i u hu
      cases h
      obtain ⟨v', h1, h2⟩ := rdop_ok hρ (fxOf_ok hW) hu
      unfold Oper.wp
      rw [h2 W]
      exact hK D m v' W (Stp.refl _ _ _ _ _) h1 hW
    · split at h
      · rename_i cs sh hc
        cases h
        obtain ⟨n, v', D1, m1, W1, h1, h2, h3, h4, h5⟩ := new_ok hW ro (aop_ok hρ hc)
        unfold Oper.wp
        rw [h1]
        rcases h2 with rfl | ⟨rfl, rfl⟩
        · exact hK D1 m1 v' W1 h5 h3 h4
        · exact hK D1 m1 undef W1 h5 h3 h4
      · exact opE_ok hN hE h hρ hW hK

theorem opsL_ok (hN : Named P) {evf : Evf} (hE : EvOK P evf) {ro nt : Nat} {ops : Array Oper} {W0 : World} {t' : Tr Value} {L' : LS} {Q : Exit → Act → World → Prop} : ∀ (l : List Oper) (t : Tr Value) (L : LS) (D : Nat → Prop) (m : Nat → MB) (a : Act) (W : World),
    opsL P evf ro ops nt l t L = some (t', L') → FRel D m nt t a → WRel L D m W0 W → (∀ D' m' a' W', Stp ro L D m W L' D' m' W' → FRel D' m' nt t' a' → WRel L' D' m' W0 W' → Q .normal a' W') → wpList P ops Q l a W
  | [], t, L, D, m, a, W, h, hF, hW, hQ => by
    simp only [opsL, Option.some.injEq, Prod.mk.injEq] at h
    obtain ⟨rfl, rfl⟩ := h
    exact hQ D m a W (Stp.refl _ _ _ _ _) hF hW
  | o :: rest, t, L, D, m, a, W, h, hF, hW, hQ => by
    simp only [opsL] at h
    unfold wpList
    split at h <;> try (cases h; done)
    · rename_i hw
      rw [wantL_ok hF hw, if_pos rfl]
      split at h <;> try (cases h; done)
      rename_i v L1 hop
      split at h <;> try (cases h; done)
      rename_i t1 hp
      exact .inl (opL_ok hN hE hop (fun x _ => lev_rel hF x) hW fun D1 m1 v1 W1 hS hv hW1 => opsL_ok hN hE rest t1 L1 D1 m1 _ W1 h (putL_ok (hF.mono hS.ext) hv hp) hW1 fun D' m' a' W' hS' => hQ D' m' a' W' (hS.trans hS'))
    · rename_i hw
      rw [wantL_ok hF hw, if_neg (by simp)]
      split at h <;> try (cases h; done)
      rename_i t1 hp
      exact opsL_ok hN hE rest t1 L D m _ W h (putL_ok hF .ud hp) hW hQ
end Go.Proofs.Ytbldammbkblooaa.Ev
