/- A long run in parts, each a theorem of its own: so many rounds of a loop, a row of steps, a block. -/
import Derived.Test.YtnbcegijncdmaaaDoorEvL
namespace Go.Proofs.YtnbcegijncdmaaaDoor.Ev
noncomputable section
open Go Go.RowKit
set_option linter.unusedVariables false

variable {P : Program}

/-- So many rounds of a loop's body, from fuel f + k on. -/
def iterB (P : Program) (ro : Nat) (b : Code) (nt f : Nat) : Nat → Tr Value → LS → ER
  | 0, t, L => .nm t L
  | k + 1, t, L => ER.rec (motive := fun _ => ER) (fun t' L' => iterB P ro b nt f k t' L') (fun _ _ => .no) (fun _ _ _ => .no) .no (evR P (f + k) ro b t nt L)
theorem loop_parts {ro : Nat} {b : Code} {nt f : Nat} {t1 : Tr Value} {L1 : LS} : ∀ (k : Nat) (t : Tr Value) (L : LS), iterB P ro b nt f k t L = .nm t1 L1 → evR P (f + k) ro (.loop b) t nt L = evR P f ro (.loop b) t1 nt L1
  | 0, t, L, h => by
    simp only [iterB, ER.nm.injEq] at h
    rw [h.1, h.2]
    rfl
  | k + 1, t, L, h => by
    simp only [iterB] at h
    show ER.rec (motive := fun _ => ER) (fun t' L' => evR P (f + k) ro (.loop b) t' nt L') ER.rt ER.ex .no (evR P (f + k) ro b t nt L) = _
    cases hb : evR P (f + k) ro b t nt L with
    | nm t' L' => rw [hb] at h; exact loop_parts k t' L' h
    | rt _ _ => rw [hb] at h; cases h
    | ex _ _ _ => rw [hb] at h; cases h
    | no => rw [hb] at h; cases h
theorem seq_parts {ro : Nat} {a b : Code} {nt f : Nat} {t t1 : Tr Value} {L L1 : LS} (h : evR P f ro a t nt L = .nm t1 L1) : evR P (f + 1) ro (.seq a b) t nt L = evR P f ro b t1 nt L1 := by
  show ER.rec (motive := fun _ => ER) (fun t' L' => evR P f ro b t' nt L') ER.rt ER.ex .no (evR P f ro a t nt L) = _
  rw [h]
theorem block_parts {ro id : Nat} {b : Code} {nt f : Nat} {t t1 : Tr Value} {L L1 : LS} (h : evR P f ro b t nt L = .ex id t1 L1) : evR P (f + 1) ro (.block id b) t nt L = .nm t1 L1 := by
  show ER.rec (motive := fun _ => ER) ER.nm ER.rt (fun i t' L' => bif Nat.beq i id then ER.nm t' L' else .ex i t' L') .no (evR P f ro b t nt L) = _
  rw [h]
  show (bif Nat.beq id id then ER.nm t1 L1 else .ex id t1 L1) = _
  rw [Nat.beq_refl]
  rfl
/-- A call, from its body's run. -/
theorem call_parts {ro : Nat} {g : FuncId} {fn : Func} {c : Code} {args : List Value} {t' : Tr Value} {L L' : LS} {f : Nat} {v : Value} (hf : P.funcs[g]? = some fn) (hc : fn.body = some c)
    (h : evR P f ro c (argsT args 0 .lf) (max fn.ntmps args.length) L = .rt t' L') (hv : resL P fn t' L' = some v) : callL P (evo P f) ro g args L = some (v, L') := by
  unfold callL
  simp only [hf, hc, forceN_eq, argsF_eq]
  simp only [evo, h, ER.opt, hv]
/-- The part of a body ahead of what is done by hand: it comes through, and what it leaves behind is known. -/
theorem wp_parts (hN : Named P) (hm : P.follows .mixedOrders = true) {f ro : Nat} {c : Code} {t t' : Tr Value} {nt : Nat} {L L' : LS} (h : (evR P f ro c t nt L).opt = some (.normal, t', L')) {D : Nat → Prop} {m : Nat → MB} {a : Act} {W0 W : World} (hF : FRel D m nt t a) (hW : WRel L D m W0 W) {Q : Exit → Act → World → Prop}
    (hQ : ∀ D' m' a' W', Stp ro L D m W L' D' m' W' → FRel D' m' nt t' a' → WRel L' D' m' W0 W' → Q .normal a' W') : c.wp P Q a W := by
  have e : ev P f ro c t nt L = some (.normal, t', L') := by rw [← evo_eq]; exact h
  exact (ev_ok hN hm f).1 ro c t nt L .normal t' L' e D m a W0 W hF hW Q hQ
/-! ### Parts between which what is no longer needed is forgotten -/

variable {L L' L1 Lg : LS} {D : Nat → Prop} {m : Nat → MB} {t t' t1 : Tr Value} {ro nt : Nat} {x : LX}
def Snd (P : Program) (ro : Nat) (c : Code) (nt : Nat) (t : Tr Value) (L : LS) (x : LX) (t' : Tr Value) (L' : LS) : Prop :=
  ∀ D m a W0 W, FRel D m nt t a → WRel L D m W0 W → ∀ Q : Exit → Act → World → Prop,
    (∀ D' m' a' W', Stp ro L D m W L' D' m' W' → FRel D' m' nt t' a' → WRel L' D' m' W0 W' → Q x.up a' W') → c.wp P Q a W
def Rnd (P : Program) (ro : Nat) (b : Code) (nt n : Nat) (t : Tr Value) (L : LS) (x : LX) (t' : Tr Value) (L' : LS) : Prop :=
  ∀ D m a W0 W, FRel D m nt t a → WRel L D m W0 W → ∀ Q : Exit → Act → World → Prop,
    (∀ D' m' a' W', Stp ro L D m W L' D' m' W' → FRel D' m' nt t' a' → WRel L' D' m' W0 W' → Q x.up a' W') → Code.rounds P b Q n a W
theorem snd_run (hN : Named P) (hm : P.follows .mixedOrders = true) {f : Nat} {c : Code} (h : (evR P f ro c t nt L).opt = some (x, t', L')) : Snd P ro c nt t L x t' L' := by
  intro D m a W0 W hF hW Q hQ
  exact (ev_ok hN hm f).1 ro c t nt L x t' L' (by rw [← evo_eq]; exact h) D m a W0 W hF hW Q hQ
theorem rnd_run (hN : Named P) (hm : P.follows .mixedOrders = true) {f : Nat} {b : Code} (h : (evR P f ro (.loop b) t nt L).opt = some (x, t', L')) : Rnd P ro b nt f t L x t' L' := by
  intro D m a W0 W hF hW Q hQ
  exact (ev_ok hN hm f).2 ro b t nt L x t' L' (by rw [← evo_eq]; exact h) D m a W0 W hF hW Q hQ
theorem snd_loop {n : Nat} {b : Code} (h : Rnd P ro b nt n t L x t' L') : Snd P ro (.loop b) nt t L x t' L' :=
  fun D m a W0 W hF hW Q hQ => wp_loop_rounds n (h D m a W0 W hF hW Q hQ)
theorem snd_seq {a b : Code} (h : Snd P ro a nt t L .normal t1 L1) (k : Snd P ro b nt t1 L1 x t' L') : Snd P ro (.seq a b) nt t L x t' L' :=
  fun D m ac W0 W hF hW Q hQ => wp_seq (h D m ac W0 W hF hW _ fun D1 m1 a1 W1 hS hF1 hW1 => k D1 m1 a1 W0 W1 hF1 hW1 Q fun D' m' a' W' hS' => hQ D' m' a' W' (hS.trans hS'))
theorem snd_block {id : Nat} {b : Code} (h : Snd P ro b nt t L (.exit id) t' L') : Snd P ro (.block id b) nt t L .normal t' L' :=
  fun D m a W0 W hF hW Q hQ => wp_block (h D m a W0 W hF hW _ fun D1 m1 a1 W1 hS hF1 hW1 => by
    simp only [LX.up, Exit.inBlock, if_true]
    exact hQ D1 m1 a1 W1 hS hF1 hW1)

structure Sub (ro : Nat) (Lg L1 : LS) : Prop where
  sub : ∀ b k, Lg.hp.get b = some k → L1.hp.get b = some k
  low : ∀ b, b < ro → Lg.hp.get b = L1.hp.get b
  n : Lg.n = L1.n
  orc : Lg.orc = L1.orc
  gl : Lg.gl = L1.gl
theorem Sub.rel (h : Sub ro Lg L1) {W0 W : World} (hW : WRel L1 D m W0 W) : WRel Lg D m W0 W :=
  ⟨hW.bel, fun b hb => by rw [h.n]; exact hW.lt b hb, fun b k hk => by have := hW.blk b k (h.sub b k hk); rw [h.gl]; exact this, fun b c k k' hk hk' => hW.inj b c k k' (h.sub b k hk) (h.sub c k' hk'), fun e he => hW.orc e (by rw [← h.orc]; exact he), fun g hg => hW.gl g (by rw [← h.gl]; exact hg)⟩
theorem Sub.stp (h : Sub ro Lg L1) (D : Nat → Prop) (m : Nat → MB) (W : World) : Stp ro L1 D m W Lg D m W :=
  ⟨Ext.refl _ _, by rw [h.n]; exact Nat.le_refl _, fun _ _ h => h, fun b _ k hk => ⟨k, h.sub b k hk⟩, fun b _ hb => h.low b hb, Nat.le_refl _, fun _ _ _ => rfl, fun b k hk _ => ⟨b, k, h.sub b k hk, rfl, fun h => h⟩⟩
def keepH (h0 : Tr Blk) : List Nat → Tr Blk
  | [] => .lf
  | b :: bs => (keepH h0 bs).set b (h0.get b)
theorem keepH_get (h0 : Tr Blk) : ∀ (bs : List Nat) (b : Nat), (keepH h0 bs).get b = if b ∈ bs then h0.get b else none
  | [], b => by simp [keepH, Tr.get_lf]
  | c :: bs, b => by
    rw [keepH, Tr.get_set, keepH_get h0 bs b]
    by_cases e : b = c
    · subst e; simp
    · simp [e]
def keepL (bs : List Nat) (L : LS) : LS := ⟨keepH L.hp bs, L.n, L.orc, L.gl⟩
theorem keep_sub {bs : List Nat} (hr : ∀ b, b < ro → b ∈ bs) (L : LS) : Sub ro (keepL bs L) L := by
  refine ⟨fun b k hk => ?_, fun b hb => ?_, rfl, rfl, rfl⟩
  · simp only [keepL, keepH_get] at hk
    split at hk
    · exact hk
    · cases hk
  · simp only [keepL, keepH_get, if_pos (hr b hb)]
def ER.keep (bs : List Nat) : ER → ER
  | .nm t L => .nm t (keepL bs L)
  | .rt t L => .rt t (keepL bs L)
  | .ex i t L => .ex i t (keepL bs L)
  | .no => .no
/-- So many rounds, then forget: a part of a loop's run. -/
theorem rnd_part (hN : Named P) (hm : P.follows .mixedOrders = true) {b : Code} {bs : List Nat} {n f : Nat} (hr : ∀ b, b < ro → b ∈ bs) : ∀ (k : Nat) (t : Tr Value) (L : LS), (iterB P ro b nt f k t L).keep bs = .nm t1 Lg → Rnd P ro b nt n t1 Lg x t' L' → Rnd P ro b nt (n + k) t L x t' L'
  | 0, t, L, h, hk => by
    simp only [iterB, ER.keep, ER.nm.injEq] at h
    obtain ⟨rfl, rfl⟩ := h
    intro D m a W0 W hF hW Q hQ
    have hs := keep_sub (L := L) hr
    exact hk D m a W0 W hF (hs.rel hW) Q fun D' m' a' W' hS => hQ D' m' a' W' ((hs.stp D m W).trans hS)
  | k + 1, t, L, h, hk => by
    simp only [iterB] at h
    cases hb : evR P (f + k) ro b t nt L with
    | nm t2 L2 =>
      rw [hb] at h
      have ih := rnd_part hN hm hr k t2 L2 h hk
      have hs : Snd P ro b nt t L .normal t2 L2 := snd_run hN hm (f := f + k) (by rw [hb]; rfl)
      intro D m a W0 W hF hW Q hQ
      show Code.rounds P b Q (n + k + 1) a W
      rw [rounds_succ]
      exact hs D m a W0 W hF hW _ fun D1 m1 a1 W1 hS hF1 hW1 => ih D1 m1 a1 W0 W1 hF1 hW1 Q fun D' m' a' W' hS' => hQ D' m' a' W' (hS.trans hS')
    | rt _ _ => rw [hb] at h; cases h
    | ex _ _ _ => rw [hb] at h; cases h
    | no => rw [hb] at h; cases h
/-- The last rounds, then forget. -/
theorem rnd_end (hN : Named P) (hm : P.follows .mixedOrders = true) {b : Code} {bs : List Nat} {f i : Nat} (hr : ∀ b, b < ro → b ∈ bs) (h : (evR P f ro (.loop b) t nt L).keep bs = .ex i t' L') : Rnd P ro b nt f t L (.exit i) t' L' := by
  cases hb : evR P f ro (.loop b) t nt L with
  | ex j t2 L2 =>
    rw [hb] at h
    simp only [ER.keep, ER.ex.injEq] at h
    obtain ⟨rfl, rfl, rfl⟩ := h
    have hs := keep_sub (L := L2) hr
    have hq := rnd_run hN hm (x := .exit j) (f := f) (by rw [hb]; rfl)
    intro D m a W0 W hF hW Q hQ
    exact hq D m a W0 W hF hW Q fun D' m' a' W' hS hF' hW' => hQ D' m' a' W' (hS.trans (hs.stp D' m' W')) hF' (hs.rel hW')
  | nm _ _ => rw [hb] at h; cases h
  | rt _ _ => rw [hb] at h; cases h
  | no => rw [hb] at h; cases h
theorem snd_calls {g : FuncId} {fn : Func} {c : Code} {args args' : List Value} {v : Value} {W : World} (hf : P.funcs[g]? = some fn) (hb : fn.body = some c) (hn : max fn.ntmps args.length = nt) (h : Snd P ro c nt (argsT args 0 .lf) L .ret t' L') (hv : resL P fn t' L' = some v) (hg : gnd v = true) (hr : VRels D m args args') (hW : WRel L D m W W) :
    Calls P g ⟨args'⟩ W fun e W' => e = .returned v ∧ Below W.heap.size W W' := by
  subst hn
  refine calls_of_wp hf hb (h D m _ W W (frame0 hr fn.ntmps) hW _ fun D' m' a' W' hS hF hW' => ?_)
  obtain ⟨v', h1, h2⟩ := resL_ok hW' hF hv
  exact ⟨hF.dfr, v', h2, by rw [gnd_eq h1 hg], hW'.bel⟩
theorem startG {G : Nat} {gs : List (Nat × List Value)} {vs : List Value} {es : List Ent} {W : World} (hq : gs.all (fun p => Nat.blt p.1 G && p.2.all g1) = true)
    (hg : ∀ p ∈ gs, GlHas W p) (he : ∀ e ∈ es, EntOK (dG G vs) (mG G W vs) e) : WRel ⟨glH gs .lf, G + vs.length, es, G⟩ (dG G vs) (mG G W vs) W W := by
  have hmg : ∀ k, k < G → (mG G W vs k).blk = k ∧ (mG G W vs k).flex = none := fun k hk => by
    have hb : Nat.blt k G = true := by simpa [Nat.blt_eq] using hk
    simp [mG, hb]
  have hget : ∀ b k, (glH gs .lf).get b = some k → ∃ p ∈ gs, p.1 = b ∧ k = ⟨p.2, none⟩ ∧ b < G ∧ p.2.all g1 = true := fun b k hk => by
    rcases glH_get gs .lf b k hk with ⟨p, hp, e1, e2⟩ | h1
    · have := List.all_eq_true.1 hq p hp
      simp only [Bool.and_eq_true, Nat.blt_eq] at this
      exact ⟨p, hp, e1, e2, by omega, this.2⟩
    · simp [Tr.get_lf] at h1
  refine ⟨Below.refl _ _, fun b h => h, fun b k hk => ?_, fun b c k k' hk hk' e => ?_, he, fun g hg => ⟨by unfold dG; simp only at hg; omega, (hmg g hg).1⟩⟩
  · obtain ⟨p, hp, e1, e2, hb, hall⟩ := hget b k hk
    obtain ⟨cs, el, fz, h1, h2⟩ := hg p hp
    subst e1 e2
    refine ⟨by unfold dG; omega, fun h => absurd hb (Nat.not_lt.2 h), (hmg _ hb).2, cs, el, fz, by rw [(hmg _ hb).1]; exact h1, fun h => absurd hb (Nat.not_lt.2 h), ?_, fun j v hj => ⟨v, h2 j v hj, .gr v ?_⟩⟩
    · have hbt : Nat.blt p.1 G = true := by simpa [Nat.blt_eq] using hb
      simp [mG, hbt, h1]
    · have hv := List.all_eq_true.1 hall v (List.mem_of_getElem? hj)
      cases v <;> simp_all [g1, gnd, g2]
  · obtain ⟨p, _, e1, _, hb, _⟩ := hget b k hk
    obtain ⟨q, _, e2, _, hc, _⟩ := hget c k' hk'
    rw [(hmg b hb).1, (hmg c hc).1] at e
    exact e

/-! ### A call whose answer is known -/

theorem stp_below {W0 W W' : World} (hW : WRel L D m W0 W) (hb : Below W.heap.size W W') : Stp ro L D m W L D m W' :=
  ⟨Ext.refl _ _, Nat.le_refl _, fun _ _ h => h, fun b _ k hk => ⟨k, hk⟩, fun _ _ _ => rfl, hb.size, fun K hK _ => hb.block K hK, fun b k hk _ => ⟨b, k, hk, rfl, fun h => h⟩⟩
theorem rel_below {W0 W W' : World} (hW : WRel L D m W0 W) (hb : Below W.heap.size W W') : WRel L D m W0 W' :=
  ⟨hW.bel.trans (hb.mono hW.bel.size), hW.lt, fun b k hk => by
    obtain ⟨h1, h2, h3, cs, el, fz, hc, h5, h6, h7⟩ := hW.blk b k hk
    exact ⟨h1, h2, h3, cs, el, fz, by rw [hb.block _ (Array.getElem?_eq_some_iff.1 hc).1]; exact hc, h5, h6, h7⟩, hW.inj, hW.orc, hW.gl⟩
theorem snd_region_call (hN : Named P) (hm : P.follows .mixedOrders = true) {id f : Nat} {ops : Array Oper} {o : Oper} {l : List Oper} {g : FuncId} {fn : Func} {c : Code} {v : Value} (hops : ops.toList = o :: l) (hw : wantL ops t o = some true) (hc : clop (lev L.gl t) o = some (g, []))
    (hf : P.funcs[g]? = some fn) (hb : fn.body = some c) (hg : gnd v = true) (hcall : ∀ D m W0 W, WRel L D m W0 W → Calls P g #[] W fun e W' => e = .returned v ∧ Below W.heap.size W W')
    (hp : putL nt t o.dst v = some t1) (hr : opsL P (ev P f) ro ops nt l t1 L = some (t', L')) : Snd P ro (.region id ops false) nt t L .normal t' L' := by
  intro D m a W0 W hF hW Q hQ
  refine wp_region_list ?_
  rw [hops]
  unfold wpList
  rw [wantL_ok hF hw, if_pos rfl]
  refine .inl ?_
  obtain ⟨args', h1, h2⟩ := clop_ok hN (fun x _ => lev_rel hW.gl hF x) hf hb hc
  cases h1
  unfold Oper.wp
  rw [h2 W]
  refine (hcall D m W0 W hW).mono ?_
  rintro e W' ⟨rfl, hB⟩
  exact opsL_ok hN (ev_ok hN hm f).1 l t1 L D m _ W' hr (putL_ok hF (.gr v hg) hp) (rel_below hW hB) fun D' m' a' W'' hS => hQ D' m' a' W'' ((stp_below hW hB).trans hS)
/-- What an evaluation of two in a row says of each. -/
theorem seq_inv {f : Nat} {a b : Code} (h : evR P (f + 1) ro (.seq a b) t nt L = .nm t' L') : ∃ t1 L1, evR P f ro a t nt L = .nm t1 L1 ∧ evR P f ro b t1 nt L1 = .nm t' L' := by
  have h' : ER.rec (motive := fun _ => ER) (fun t' L' => evR P f ro b t' nt L') ER.rt ER.ex .no (evR P f ro a t nt L) = ER.nm t' L' := h
  cases ha : evR P f ro a t nt L with
  | nm t1 L1 => rw [ha] at h'; exact ⟨t1, L1, rfl, h'⟩
  | rt _ _ => rw [ha] at h'; cases h'
  | ex _ _ _ => rw [ha] at h'; cases h'
  | no => rw [ha] at h'; cases h'
theorem snd_keep {c : Code} {bs : List Nat} (hr : ∀ b, b < ro → b ∈ bs) (h : Snd P ro c nt t L x t' L1) (e : keepL bs L1 = L') : Snd P ro c nt t L x t' L' := by
  subst e
  intro D m a W0 W hF hW Q hQ
  have hs := keep_sub (L := L1) hr
  exact h D m a W0 W hF hW Q fun D' m' a' W' hS hF' hW' => hQ D' m' a' W' (hS.trans (hs.stp D' m' W')) hF' (hs.rel hW')
/-- Three in a row, then forget, then a last one. -/
theorem snd_three (hN : Named P) (hm : P.follows .mixedOrders = true) {f : Nat} {a b c e : Code} {bs : List Nat} {t2 : Tr Value} {L2 : LS} (hr : ∀ b, b < ro → b ∈ bs) (h : (evR P (f + 2) ro (.seq a (.seq b c)) t nt L).keep bs = .nm t2 L2) (k : Snd P ro e nt t2 L2 x t' L') :
    Snd P ro (.seq a (.seq b (.seq c e))) nt t L x t' L' := by
  cases hh : evR P (f + 2) ro (.seq a (.seq b c)) t nt L with
  | nm t3 L3 =>
    rw [hh] at h
    simp only [ER.keep, ER.nm.injEq] at h
    obtain ⟨rfl, e2⟩ := h
    obtain ⟨ta, La, h1, h2⟩ := seq_inv hh
    obtain ⟨tb, Lb, h3, h4⟩ := seq_inv h2
    have s1 : Snd P ro a nt t L .normal ta La := snd_run hN hm (f := f + 1) (by rw [h1]; rfl)
    have s2 : Snd P ro b nt ta La .normal tb Lb := snd_run hN hm (f := f) (by rw [h3]; rfl)
    have s3 : Snd P ro c nt tb Lb .normal t3 L3 := snd_run hN hm (f := f) (by rw [h4]; rfl)
    exact snd_seq s1 (snd_seq s2 (snd_seq (snd_keep hr s3 e2) k))
  | rt _ _ => rw [hh] at h; cases h
  | ex _ _ _ => rw [hh] at h; cases h
  | no => rw [hh] at h; cases h
/-- What is left of a run, as one test. -/
def endB (P : Program) (fn : Func) : Option (LX × Tr Value × LS) → Bool
  | some (.ret, t', L') => match resL P fn t' L' with
    | some (.bool true) => true
    | _ => false
  | _ => false
theorem endB_ok {fn : Func} {r : Option (LX × Tr Value × LS)} (h : endB P fn r = true) : ∃ t' L', r = some (.ret, t', L') ∧ resL P fn t' L' = some (.bool true) := by
  unfold endB at h
  split at h <;> try (cases h; done)
  rename_i t' L'
  split at h <;> try (cases h; done)
  rename_i hv
  exact ⟨t', L', rfl, hv⟩

end
end Go.Proofs.YtnbcegijncdmaaaDoor.Ev
