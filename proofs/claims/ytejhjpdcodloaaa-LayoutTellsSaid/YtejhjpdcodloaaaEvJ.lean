/- Whatever order is drawn: what is known at each point of it. -/
import Derived.Test.YtejhjpdcodloaaaEvI
namespace Go.Proofs.Ytejhjpdcodloaaa.Ev
noncomputable section
open Go Go.RowKit
set_option linter.unusedVariables false
set_option linter.unusedSimpArgs false

variable {L L' L'' : LS} {D D' D'' : Nat → Prop} {m m' m'' : Nat → MB} {P : Program}

/-- A block that has been made, and not been used yet. -/
structure PendOK (n0 : Nat) (Ws W0 : World) (D : Nat → Prop) (m : Nat → MB) (w : World) (Lc : LS) (p : Nat × List Value) : Prop where
  d : D (n0 + p.1)
  fx : (m (n0 + p.1)).flex = none
  lo : W0.heap.size ≤ (m (n0 + p.1)).blk
  lw : Ws.heap.size ≤ (m (n0 + p.1)).blk
  row : ∃ (cs : Array Value) (el : TypeId), w.heap[(m (n0 + p.1)).blk]? = some (.cells cs el (0, 0)) ∧ cs.size = (m (n0 + p.1)).size ∧ VRels D m p.2 cs.toList
  far : ∀ b k, Lc.hp.get b = some k → (m b).blk ≠ (m (n0 + p.1)).blk
theorem PendOK.lt {n0 : Nat} {Ws W0 w : World} {Lc : LS} {p : Nat × List Value} (h : PendOK n0 Ws W0 D m w Lc p) : (m (n0 + p.1)).blk < w.heap.size := by
  obtain ⟨cs, el, hr, _⟩ := h.row
  exact (Array.getElem?_eq_some_iff.1 hr).1

theorem adopt {ro : Nat} {L0 Lc : LS} {D0 : Nat → Prop} {m0 : Nat → MB} {Ws W0 w : World} (hW : WRel Lc D m W0 w) (hS : Stp ro L0 D0 m0 Ws Lc D m w) {p : Nat × List Value} (hp : PendOK L0.n Ws W0 D m w Lc p) :
    WRel (Lc.put (L0.n + p.1) (some ⟨p.2, none⟩)) D m W0 w ∧ Stp ro L0 D0 m0 Ws (Lc.put (L0.n + p.1) (some ⟨p.2, none⟩)) D m w ∧
    ∀ q : Nat × List Value, PendOK L0.n Ws W0 D m w Lc q → (m (L0.n + p.1)).blk ≠ (m (L0.n + q.1)).blk → PendOK L0.n Ws W0 D m w (Lc.put (L0.n + p.1) (some ⟨p.2, none⟩)) q := by
  have hg := LS.get_put Lc (L0.n + p.1) (some ⟨p.2, none⟩)
  obtain ⟨cs, el, hr, hs, hv⟩ := hp.row
  refine ⟨⟨hW.bel, hW.lt, fun b k hk => ?_, fun b c k k' hk hk' e => ?_, hW.orc, hW.gl⟩, ⟨hS.ext, hS.n, hS.old, fun b hb k hk => ?_, fun b hb hr' => ?_, hS.size, hS.far, fun b k hk hlt => ?_⟩, fun q hq hne => ⟨hq.d, hq.fx, hq.lo, hq.lw, hq.row, fun b k hk => ?_⟩⟩
  · rw [hg] at hk
    by_cases e : b = L0.n + p.1
    · rw [if_pos e] at hk
      cases hk
      subst e
      exact ⟨hp.d, fun _ => hp.lo, hp.fx, cs, el, (0, 0), hr, fun _ => rfl, hs, fun j v hj => by simpa using hv.at j v hj⟩
    · rw [if_neg e] at hk
      exact hW.blk b k hk
  · rw [hg] at hk hk'
    by_cases e1 : b = L0.n + p.1 <;> by_cases e2 : c = L0.n + p.1
    · rw [e1, e2]
    · rw [if_neg e2] at hk'
      rw [e1] at e
      exact absurd e.symm (hp.far c k' hk')
    · rw [if_neg e1] at hk
      rw [e2] at e
      exact absurd e (hp.far b k hk)
    · rw [if_neg e1] at hk
      rw [if_neg e2] at hk'
      exact hW.inj b c k k' hk hk' e
  · rw [hg, if_neg (by omega)] at hk
    exact hS.kind b hb k hk
  · rw [hg, if_neg (by omega)]
    exact hS.keep b hb hr'
  · rw [hg] at hk
    by_cases e : b = L0.n + p.1
    · subst e
      have := hp.lw
      omega
    · rw [if_neg e] at hk
      exact hS.own b k hk hlt
  · rw [hg] at hk
    by_cases e : b = L0.n + p.1
    · rw [e]; exact hne
    · rw [if_neg e] at hk
      exact hq.far b k hk
theorem adopts {ro : Nat} {L0 : LS} {D0 : Nat → Prop} {m0 : Nat → MB} {Ws W0 w : World} : ∀ (l : List (Nat × List Value)) (Lc : LS), WRel Lc D m W0 w → Stp ro L0 D0 m0 Ws Lc D m w → (∀ p ∈ l, PendOK L0.n Ws W0 D m w Lc p) →
    (l.Pairwise fun p q => (m (L0.n + p.1)).blk ≠ (m (L0.n + q.1)).blk) →
    WRel (joins L0.n l Lc) D m W0 w ∧ Stp ro L0 D0 m0 Ws (joins L0.n l Lc) D m w ∧
    (∀ q : Nat × List Value, PendOK L0.n Ws W0 D m w Lc q → (∀ p ∈ l, (m (L0.n + p.1)).blk ≠ (m (L0.n + q.1)).blk) → PendOK L0.n Ws W0 D m w (joins L0.n l Lc) q) ∧
    (joins L0.n l Lc).n = Lc.n ∧ ∀ b, b < L0.n → (joins L0.n l Lc).hp.get b = Lc.hp.get b
  | [], Lc, hW, hS, _, _ => ⟨hW, hS, fun q hq _ => hq, rfl, fun _ _ => rfl⟩
  | p :: l, Lc, hW, hS, hp, hd => by
    obtain ⟨h1, h2, h3⟩ := adopt hW hS (hp p (by simp))
    rw [List.pairwise_cons] at hd
    obtain ⟨g1, g2, g3, g4, g5⟩ := adopts l (Lc.put (L0.n + p.1) (some ⟨p.2, none⟩)) h1 h2 (fun q hq => h3 q (hp q (by simp [hq])) (hd.1 q hq)) hd.2
    exact ⟨g1, g2, fun q hq hne => g3 q (h3 q hq (hne p (by simp))) fun p' hp' => hne p' (by simp [hp']), g4, fun b hb => (g5 b hb).trans (by rw [LS.get_put, if_neg (by omega)])⟩

/-- New memory of which nothing is known turns nothing. -/
theorem WRel.beside {Lc : LS} {W0 w : World} (hW : WRel Lc D m W0 w) {n : Nat} (hn : ¬ D n) (hlt : n < Lc.n) (ys : Array Value) (el : TypeId) :
    WRel Lc (also D n) (upd m n ⟨w.heap.size, ys.size, none, undef⟩) W0 (w.alloc (.cells ys el)) := by
  have E := upd_ext (m := m) hn ⟨w.heap.size, ys.size, none, undef⟩
  refine ⟨hW.bel.alloc hW.bel.size _, fun b hb => ?_, fun b k hk => ?_, fun b c k k' hk hk' e => ?_, fun e he => (hW.orc e he).mono E, fun g hg => ⟨E.d g (hW.gl g hg).1, by rw [E.m g (hW.gl g hg).1]; exact (hW.gl g hg).2⟩⟩
  · rcases hb with hb | rfl
    · exact hW.lt b hb
    · exact hlt
  · obtain ⟨h1, h2, h2', cs, el', fz, h3, hz, h4, h5⟩ := hW.blk b k hk
    have hm := E.m b h1
    refine ⟨.inl h1, by rw [hm]; exact h2, by rw [hm]; exact h2', cs, el', fz, by rw [hm, heap_alloc_old _ _ _ (hW.lt' hk)]; exact h3, hz, by rw [hm]; exact h4, fun j v hj => ?_⟩
    obtain ⟨v', g1, g2⟩ := h5 j v hj
    exact ⟨v', g1, g2.mono E⟩
  · rw [E.m b (hW.blk b k hk).1, E.m c (hW.blk c k' hk').1] at e
    exact hW.inj b c k k' hk hk' e
theorem Stp.beside {ro : Nat} {L0 Lc : LS} {D0 : Nat → Prop} {m0 : Nat → MB} {Ws W0 w : World} (hW : WRel Lc D m W0 w) (hS : Stp ro L0 D0 m0 Ws Lc D m w) {n : Nat} (hn : ¬ D n) (hle : L0.n ≤ n) (ys : Array Value) (el : TypeId) :
    Stp ro L0 D0 m0 Ws Lc (also D n) (upd m n ⟨w.heap.size, ys.size, none, undef⟩) (w.alloc (.cells ys el)) := by
  have E := upd_ext (m := m) hn ⟨w.heap.size, ys.size, none, undef⟩
  refine ⟨hS.ext.trans E, hS.n, fun b hb hd => hS.old b hb (hd.resolve_right (by omega)), hS.kind, hS.keep, by have := hS.size; simp; omega, fun K hK hne => ?_, fun b k hk hlt => ?_⟩
  · rw [heap_alloc_old _ _ _ (by have := hS.size; omega)]
    exact hS.far K hK hne
  · rw [E.m b (hW.blk b k hk).1] at hlt ⊢
    exact hS.own b k hk hlt
theorem Stp.less {ro ro' : Nat} {Lc Ln : LS} {W0 w w' : World} (hW : WRel Lc D m W0 w) (hS : Stp ro' Lc D m w Ln D' m' w') (hr : ro ≤ ro') (hn : ro' ≤ Lc.n) : Stp ro Lc D m w Ln D' m' w' := by
  refine ⟨hS.ext, hS.n, hS.old, hS.kind, fun b hb hb' => hS.keep b hb (by omega), hS.size, fun K hK hne => hS.far K hK fun b k hk hb => hne b k hk (by omega), fun b k hk hlt => ?_⟩
  obtain ⟨c, k', hc, e, hle⟩ := hS.own b k hk hlt
  refine ⟨c, k', hc, e, fun hb => ?_⟩
  by_cases h : ro' ≤ b
  · have := hle h; omega
  · have hb' : b < Lc.n := by omega
    have hk' : Lc.hp.get b = some k := by rw [← hS.keep b hb' (by omega)]; exact hk
    have hm := hS.ext.m b (hW.blk b k hk').1
    rw [hm] at e
    have := hW.inj c b k' k hc hk' e
    omega

section
variable {evf : Evf} {ro : Nat} {ops : Array Oper} {nt : Nat} {t : Tr Value}

def Pd (R : Run P evf ro L ops nt t) (listed : Array Bool) (c j : Nat) : Prop :=
  j < ops.size ∧ R.K j = .alloc ∧ Listed listed j ∧ ∀ e, e < c → R.K e = .eff → wb (mskOf ops) e j = false

structure Inv (R : Run P evf ro L ops nt t) (D : Nat → Prop) (m : Nat → MB) (W0 W : World) (listed : Array Bool) (a : Act) (w : World) (D' : Nat → Prop) (m' : Nat → MB) (c : Nat) : Prop where
  size : listed.size = ops.size
  cl : Closed ops listed
  tsz : a.tmps.size = nt
  dfr : a.defers = []
  s1 : ∀ j o d, ops[j]? = some o → o.dst = some d → Listed listed j → VRel D' m' (R.V j) (a.tmps.getD d undef)
  s0 : ∀ d v, t.get d = some v → (∀ j o, ops[j]? = some o → o.dst = some d → ¬ Listed listed j) → VRel D' m' v (a.tmps.getD d undef)
  cle : c ≤ ops.size
  ceff : c < ops.size → R.K c = .eff
  ef : ∀ j, j < ops.size → R.K j = .eff → (Listed listed j ↔ j < c)
  wr : WRel (R.S c).L D' m' W0 w
  st : Stp ro L D m W (R.S c).L D' m' w
  big : L.n + ops.size ≤ (R.S c).L.n
  ld : (∀ b, b < L.n → (R.S c).L.hp.get b = L.hp.get b) ∨ (∀ j o, ops[j]? = some o → ldK o = true → Listed listed j)
  pd : ∀ j, Pd R listed c j → PendOK L.n W W0 D' m' w (R.S c).L (j, R.C j)
  pd2 : ∀ j j', Pd R listed c j → Pd R listed c j' → j ≠ j' → (m' (L.n + j)).blk ≠ (m' (L.n + j')).blk
  un : ∀ j, j < ops.size → R.K j = .alloc → ¬ Listed listed j → ¬ D' (L.n + j)

theorem listed_set {listed : Array Bool} {i j : Nat} (hi : i < listed.size) : Listed (listed.setIfInBounds i true) j ↔ j = i ∨ Listed listed j := by
  unfold Listed
  by_cases e : j = i
  · subst e; simp [hi]
  · rw [getD_set_ne false (Ne.symm e)]
    simp [e]

theorem Inv.look {R : Run P evf ro L ops nt t} (hok : RegOK ops) {W0 W w : World} {listed : Array Bool} {a : Act} {c : Nat} (h : Inv R D m W0 W listed a w D' m' c) {i : Nat} {o : Oper} (ho : ops[i]? = some o) (hr : i ∈ Region.ready .any ops listed) :
    ∀ d v, d ∈ o.looksAt ops → (R.S i).t.get d = some v → VRel D' m' v (a.tmps.getD d undef) := by
  intro d v hd hv
  have hi : i < ops.size := (Array.getElem?_eq_some_iff.1 ho).1
  have hun : ¬ Listed listed i := by
    have := (mem_ready.1 hr).1
    unfold Listed
    intro hl
    have h2 : i < listed.size := by rw [h.size]; exact hi
    simp [h2] at this hl
    rw [this] at hl
    cases hl
  rcases R.tspec i (by omega) d v hv with ⟨j, oj, hj, h1, h2, rfl⟩ | ⟨h1, h2⟩
  · refine h.s1 j oj d h1 h2 ?_
    rcases hok.look i j o oj d ho h1 (by omega) h2 hd with hb | hb
    · exact wb_ready h.cl hr hb
    · have := wb_lt hok.back j i hb; omega
  · refine h.s0 d v h1 fun j oj hj hdj hl => ?_
    by_cases hlt : j < i
    · exact h2 j oj hlt hj hdj
    · by_cases e : j = i
      · subst e; exact hun hl
      · rcases hok.look i j o oj d ho hj (fun e' => e e'.symm) hdj hd with hb | hb
        · have := wb_lt hok.back i j hb; omega
        · exact hun (wb_listed h.cl j i hb hl)

theorem rl_of {gl : Nat} (hg : GlOK D m gl) {o : Oper} {ts : Tr Value} {a : Act} (h : ∀ d v, d ∈ o.looksAt ops → ts.get d = some v → VRel D m v (a.tmps.getD d undef)) : Rl D m (lev gl ts) a.eval o := by
  intro x hx
  cases x with
  | tmp d =>
    simp only [lev, Act.eval]
    cases hg : ts.get d with
    | none => exact .un _
    | some v =>
      refine h d v ?_ hg
      unfold Oper.looksAt
      rw [List.mem_append]
      exact .inl (List.mem_filterMap.2 ⟨.tmp d, by simpa using hx, rfl⟩)
  | const v =>
    simp only [lev, Act.eval]
    cases hg : gnd v with
    | false => exact .un _
    | true => exact .gr v hg
  | global g => exact lev_glob hg
  | func f => exact .fn (.func f) [] [] [] [] .nil .nil
theorem want_of {o : Oper} {ts : Tr Value} {a : Act} {r : Bool} (h : ∀ d v, d ∈ o.looksAt ops → ts.get d = some v → VRel D m v (a.tmps.getD d undef)) (hw : wantL ops ts o = some r) : Region.wanted o (yielded ops a.tmps) = r := by
  unfold wantL at hw
  unfold Region.wanted
  split at hw
  · rename_i hg; cases hw; simp [hg]
  · rename_i j b hg
    split at hw <;> try (cases hw; done)
    rename_i o' ho'
    split at hw <;> try (cases hw; done)
    rename_i d hd
    have hmem : d ∈ o.looksAt ops := by
      unfold Oper.looksAt
      rw [List.mem_append]
      exact .inr (by rw [hg]; simp [ho', hd])
    split at hw <;> try (cases hw; done)
    · rename_i x hx
      cases hw
      have e := bool_eq (h d _ hmem hx)
      have hq : a.tmps[d]? = some (.bool x) := by
        rw [Array.getD_eq_getD_getElem?] at e
        cases hq : a.tmps[d]? with
        | none => rw [hq] at e; cases e
        | some u => rw [hq] at e; simp at e; rw [e]
      simp [hg, yielded, ho', hd, hq]
    · rename_i hx
      cases hw
      have e : a.tmps.getD d undef = undef := ud_eq (h d _ hmem hx)
      have hq : yielded ops a.tmps j = none := by
        simp only [yielded, ho', Option.bind_some, hd]
        rw [Array.getD_eq_getD_getElem?] at e
        cases hq : a.tmps[d]? with
        | none => rfl
        | some u => rw [hq] at e; simp at e; rw [e]; rfl
      simp [hg, hq]

/-- What holds of the temporaries and of the list behind operation i. -/
theorem Inv.slots {R : Run P evf ro L ops nt t} (hok : RegOK ops) {W0 W w : World} {listed : Array Bool} {a : Act} {c : Nat} (h : Inv R D m W0 W listed a w D' m' c) {i : Nat} {o : Oper} (ho : ops[i]? = some o) (hr : i ∈ Region.ready .any ops listed)
    (E : Ext D' m' D'' m'') {v' : Value} (hv : VRel D'' m'' (R.V i) v') :
    (listed.setIfInBounds i true).size = ops.size ∧ Closed ops (listed.setIfInBounds i true) ∧ (a.put o.dst v').tmps.size = nt ∧ (a.put o.dst v').defers = [] ∧
    (∀ j oj d, ops[j]? = some oj → oj.dst = some d → Listed (listed.setIfInBounds i true) j → VRel D'' m'' (R.V j) ((a.put o.dst v').tmps.getD d undef)) ∧
    (∀ d v, t.get d = some v → (∀ j oj, ops[j]? = some oj → oj.dst = some d → ¬ Listed (listed.setIfInBounds i true) j) → VRel D'' m'' v ((a.put o.dst v').tmps.getD d undef)) := by
  have hi : i < ops.size := (Array.getElem?_eq_some_iff.1 ho).1
  have hil : i < listed.size := by rw [h.size]; exact hi
  obtain ⟨hp, _⟩ := regStep_inv (R.step i o ho)
  have hnt : ∀ d, o.dst = some d → d < nt := fun d hd => by
    unfold putL at hp
    rw [hd] at hp
    simp only at hp
    cases hb : Nat.blt d nt with
    | false => rw [hb, cond_false] at hp; cases hp
    | true => simpa [Nat.blt_eq] using hb
  have get : ∀ d, o.dst ≠ some d → (a.put o.dst v').tmps.getD d undef = a.tmps.getD d undef := fun d hd => by
    cases hq : o.dst with
    | none => rfl
    | some d' =>
      have : d' ≠ d := fun e => hd (by rw [hq, e])
      simp only [Act.put]
      by_cases hlt : d < a.tmps.size
      · simp [Array.getD, hlt, Array.getElem_setIfInBounds, this]
      · simp [Array.getD, hlt]
  have got : ∀ d, o.dst = some d → (a.put o.dst v').tmps.getD d undef = v' := fun d hd => by
    have hs : d < a.tmps.size := by rw [h.tsz]; exact hnt d hd
    simp [Act.put, hd, Array.getD, hs]
  refine ⟨by simp [h.size], fun j oj hj hl e he hb => ?_, ?_, ?_, fun j oj d hj hd hl => ?_, fun d v hv' hne => ?_⟩
  · rw [listed_set hil] at hl ⊢
    rcases hl with rfl | hl
    · obtain ⟨_, o', ho', hall⟩ := mem_ready.1 hr
      rw [hj] at ho'
      cases ho'
      exact .inr (hall e he hb)
    · exact .inr (h.cl j oj hj hl e he hb)
  · cases hq : o.dst <;> simp [Act.put, h.tsz]
  · cases hq : o.dst <;> simp [Act.put, h.dfr]
  · rw [listed_set hil] at hl
    by_cases e : j = i
    · subst e
      rw [ho] at hj
      cases hj
      rw [got d hd]
      exact hv
    · have hnd : o.dst ≠ some d := fun hq => e (hok.dst j i oj o d hj ho hd hq)
      rw [get d hnd]
      exact (h.s1 j oj d hj hd (hl.resolve_left e)).mono E
  · have hnd : o.dst ≠ some d := fun hq => hne i o ho hq ((listed_set hil).2 (.inl rfl))
    rw [get d hnd]
    exact (h.s0 d v hv' fun j oj hj hd hl => hne j oj hj hd ((listed_set hil).2 (.inr hl))).mono E
end
end
end Go.Proofs.Ytejhjpdcodloaaa.Ev
