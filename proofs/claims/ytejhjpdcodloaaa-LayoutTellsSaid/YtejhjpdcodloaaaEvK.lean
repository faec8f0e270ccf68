/- One operation more, whichever is drawn; and so the whole region. -/
import Derived.Test.YtejhjpdcodloaaaEvJ
namespace Go.Proofs.Ytejhjpdcodloaaa.Ev
noncomputable section
open Go Go.RowKit
set_option linter.unusedVariables false
set_option linter.unusedSimpArgs false

variable {L L' L'' : LS} {D D' D'' : Nat → Prop} {m m' m'' : Nat → MB} {P : Program}
section
variable {evf : Evf} {ro : Nat} {ops : Array Oper} {nt : Nat} {t : Tr Value}

theorem Inv.same {R : Run P evf ro L ops nt t} (hok : RegOK ops) {W0 W w : World} {listed : Array Bool} {a : Act} {c : Nat} (h : Inv R D m W0 W listed a w D' m' c) {i : Nat} {o : Oper} (ho : ops[i]? = some o) (hr : i ∈ Region.ready .any ops listed)
    (h1 : R.K i ≠ .eff) (h2 : R.K i ≠ .alloc) {v' : Value} (hv : VRel D' m' (R.V i) v') : Inv R D m W0 W (listed.setIfInBounds i true) (a.put o.dst v') w D' m' c := by
  have hi : i < ops.size := (Array.getElem?_eq_some_iff.1 ho).1
  have hls : ∀ j, Listed (listed.setIfInBounds i true) j ↔ j = i ∨ Listed listed j := fun j => listed_set (by rw [h.size]; exact hi)
  obtain ⟨s1, s2, s3, s4, s5, s6⟩ := h.slots hok ho hr (Ext.refl _ _) hv
  have hpd : ∀ j, Pd R (listed.setIfInBounds i true) c j → Pd R listed c j := fun j ⟨g1, g2, g3, g4⟩ => ⟨g1, g2, ((hls j).1 g3).resolve_left (fun e => h2 (e ▸ g2)), g4⟩
  refine ⟨s1, s2, s3, s4, s5, s6, h.cle, h.ceff, fun j hj hk => ?_, h.wr, h.st, h.big, ?_, fun j hj => h.pd j (hpd j hj), fun j j' hj hj' => h.pd2 j j' (hpd j hj) (hpd j' hj'), fun j hj hk hl => h.un j hj hk fun hl' => hl ((hls j).2 (.inr hl'))⟩
  · have : j ≠ i := fun e => h1 (e ▸ hk)
    rw [hls, ← h.ef j hj hk]
    exact ⟨fun h => h.resolve_left this, .inr⟩
  · rcases h.ld with h3 | h3
    · exact .inl h3
    · exact .inr fun j oj hj hk => (hls j).2 (.inr (h3 j oj hj hk))

theorem Inv.alloc {R : Run P evf ro L ops nt t} (hok : RegOK ops) {W0 W w : World} {listed : Array Bool} {a : Act} {c : Nat} (h : Inv R D m W0 W listed a w D' m' c) {i : Nat} {o : Oper} (ho : ops[i]? = some o) (hr : i ∈ Region.ready .any ops listed)
    (h2 : R.K i = .alloc) {ys : Array Value} {el : TypeId} (hys : VRels D' m' (R.C i) ys.toList) {sh : Option (Nat × Nat)} (hv : R.V i = shp (L.n + i) sh) :
    Inv R D m W0 W (listed.setIfInBounds i true) (a.put o.dst (shp w.heap.size sh)) (w.alloc (.cells ys el)) (also D' (L.n + i)) (upd m' (L.n + i) ⟨w.heap.size, ys.size, none, undef⟩) c := by
  have hi : i < ops.size := (Array.getElem?_eq_some_iff.1 ho).1
  have hls : ∀ j, Listed (listed.setIfInBounds i true) j ↔ j = i ∨ Listed listed j := fun j => listed_set (by rw [h.size]; exact hi)
  have hun : ¬ Listed listed i := by
    have := (mem_ready.1 hr).1
    unfold Listed
    intro hl
    have h2 : i < listed.size := by rw [h.size]; exact hi
    simp [h2] at this hl
    rw [this] at hl
    cases hl
  have hDn : ¬ D' (L.n + i) := h.un i hi h2 hun
  have E := upd_ext (m := m') hDn ⟨w.heap.size, ys.size, none, undef⟩
  have hn : upd m' (L.n + i) ⟨w.heap.size, ys.size, none, undef⟩ (L.n + i) = ⟨w.heap.size, ys.size, none, undef⟩ := by simp [upd]
  have hvr := shp_rel (D := also D' (L.n + i)) (m := upd m' (L.n + i) ⟨w.heap.size, ys.size, none, undef⟩) (b := L.n + i) (.inr rfl) (by rw [hn]) sh
  rw [hn] at hvr
  obtain ⟨s1, s2, s3, s4, s5, s6⟩ := h.slots hok ho hr E (v' := shp w.heap.size sh) (by rw [hv]; exact hvr)
  have hpd : ∀ j, Pd R (listed.setIfInBounds i true) c j → j ≠ i → Pd R listed c j := fun j ⟨g1, g2, g3, g4⟩ e => ⟨g1, g2, ((hls j).1 g3).resolve_left e, g4⟩
  have hold : ∀ j, Pd R listed c j → PendOK L.n W W0 (also D' (L.n + i)) (upd m' (L.n + i) ⟨w.heap.size, ys.size, none, undef⟩) (w.alloc (.cells ys el)) (R.S c).L (j, R.C j) := fun j hj => by
    have q := h.pd j hj
    have hm := E.m _ q.d
    simp only at hm
    obtain ⟨cs, el', r1, r2, r3⟩ := q.row
    refine ⟨.inl q.d, by rw [hm]; exact q.fx, by rw [hm]; exact q.lo, by rw [hm]; exact q.lw, ⟨cs, el', by rw [hm, heap_alloc_old _ _ _ q.lt]; exact r1, by rw [hm]; exact r2, r3.mono E⟩, fun b k hk => ?_⟩
    rw [E.m b (h.wr.blk b k hk).1, hm]
    exact q.far b k hk
  have hnew : PendOK L.n W W0 (also D' (L.n + i)) (upd m' (L.n + i) ⟨w.heap.size, ys.size, none, undef⟩) (w.alloc (.cells ys el)) (R.S c).L (i, R.C i) := by
    refine ⟨.inr rfl, by rw [hn], by rw [hn]; exact h.wr.bel.size, by rw [hn]; exact h.st.size, ⟨ys, el, by rw [hn]; exact heap_alloc_new _ _, by rw [hn], hys.mono E⟩, fun b k hk => ?_⟩
    rw [E.m b (h.wr.blk b k hk).1, hn]
    have := h.wr.lt' hk
    simp only
    omega
  refine ⟨s1, s2, s3, s4, s5, s6, h.cle, h.ceff, fun j hj hk => ?_, h.wr.beside hDn (by have := h.big; omega) ys el, h.st.beside h.wr hDn (by omega) ys el, h.big, ?_, fun j hj => ?_, fun j j' hj hj' hne => ?_, fun j hj hk hl => ?_⟩
  · have : j ≠ i := fun e => by rw [e, h2] at hk; cases hk
    rw [hls, ← h.ef j hj hk]
    exact ⟨fun h => h.resolve_left this, .inr⟩
  · rcases h.ld with h3 | h3
    · exact .inl h3
    · exact .inr fun j oj hj hk => (hls j).2 (.inr (h3 j oj hj hk))
  · by_cases e : j = i
    · subst e; exact hnew
    · exact hold j (hpd j hj e)
  · by_cases e : j = i <;> by_cases e' : j' = i
    · omega
    · subst e
      have q := h.pd j' (hpd j' hj' e')
      rw [hn, E.m _ q.d]
      have := q.lt
      simp only at this ⊢
      omega
    · subst e'
      have q := h.pd j (hpd j hj e)
      rw [hn, E.m _ q.d]
      have := q.lt
      simp only at this ⊢
      omega
    · rw [E.m _ (h.pd j (hpd j hj e)).d, E.m _ (h.pd j' (hpd j' hj' e')).d]
      exact h.pd2 j j' (hpd j hj e) (hpd j' hj' e') hne
  · rintro (hd | hd)
    · exact h.un j hj hk (fun hl' => hl ((hls j).2 (.inr hl'))) hd
    · exact hl ((hls j).2 (.inl (by omega)))

theorem Inv.eff (hN : Named P) (hE : EvOK P evf) {R : Run P evf ro L ops nt t} (hok : RegOK ops) (hro : ro ≤ L.n) {W0 W w : World} {listed : Array Bool} {a : Act} {c : Nat} (h : Inv R D m W0 W listed a w D' m' c) {i : Nat} {o : Oper} (ho : ops[i]? = some o) (hr : i ∈ Region.ready .any ops listed)
    (hK : R.K i = .eff) (hke : effK o = true) (heff : ∀ j oj, ops[j]? = some oj → R.K j = .eff → effK oj = true) {v : Value} {L2 : LS} (hV : R.V i = v) (hL2 : (R.S (i + 1)).L = L2)
    (hop : opE P evf (bif fullB ops (mskOf ops) i then ro else L.n) (R.S i).t o (joins L.n ((R.S i).pend.filter fun p => wb (mskOf ops) i p.1) (R.S i).L) = some (v, L2)) {Q : Exit → Act → World → Prop} :
    o.wp P a w (fun a' w' => ∃ D'' m'' c', Inv R D m W0 W (listed.setIfInBounds i true) a' w' D'' m'' c') Q := by
  have hi : i < ops.size := (Array.getElem?_eq_some_iff.1 ho).1
  have hls : ∀ j, Listed (listed.setIfInBounds i true) j ↔ j = i ∨ Listed listed j := fun j => listed_set (by rw [h.size]; exact hi)
  have hun : ¬ Listed listed i := by
    have := (mem_ready.1 hr).1
    unfold Listed
    intro hl
    have h2 : i < listed.size := by rw [h.size]; exact hi
    simp [h2] at this hl
    rw [this] at hl
    cases hl
  have hic : i = c := by
    have h1 : ¬ i < c := fun h' => hun ((h.ef i hi hK).2 h')
    by_cases h2 : c < i
    · exfalso
      have hcN : c < ops.size := by omega
      have hKc := h.ceff hcN
      have hoc : ops[c]? = some ops[c] := Array.getElem?_eq_getElem hcN
      have hb := hok.eff i c o _ ho hoc hke (heff c _ hoc hKc) h2
      have := (h.ef c hcN hKc).1 (wb_ready h.cl hr hb)
      omega
    · omega
  subst hic
  obtain ⟨ps1, ps2⟩ := R.pspec hok.back i (by omega)
  have hl1 : ∀ p ∈ (R.S i).pend.filter (fun p => wb (mskOf ops) i p.1), Pd R listed i p.1 ∧ p = (p.1, R.C p.1) := fun p hp => by
    rw [List.mem_filter] at hp
    obtain ⟨g1, g2, g3, g4⟩ := ps1 p hp.1
    exact ⟨⟨by omega, g2, wb_ready h.cl hr hp.2, g4⟩, by rw [← g3]⟩
  obtain ⟨a1, a2, a3, a4, a5⟩ := adopts ((R.S i).pend.filter fun p => wb (mskOf ops) i p.1) (R.S i).L h.wr h.st (fun p hp => by rw [(hl1 p hp).2]; exact h.pd _ (hl1 p hp).1)
    ((ps2.filter _).imp_of_mem fun {p q} hp hq hne => h.pd2 p.1 q.1 (hl1 p hp).1 (hl1 q hq).1 hne)
  have hlook := h.look hok ho hr
  refine opE_ok hN hE hop (rl_of a1.gl hlook) a1 fun D2 m2 v2 w2 hS2 hv2 hW2 => ?_
  have hro' : ro ≤ (bif fullB ops (mskOf ops) i then ro else L.n) := by cases fullB ops (mskOf ops) i <;> simp [hro]
  have hrn : (bif fullB ops (mskOf ops) i then ro else L.n) ≤ (joins L.n ((R.S i).pend.filter fun p => wb (mskOf ops) i p.1) (R.S i).L).n := by
    rw [a4]
    have := h.big
    cases fullB ops (mskOf ops) i <;> simp <;> omega
  have hS2' := hS2.less a1 hro' hrn
  obtain ⟨c', n1, n2, n3, n4, n5⟩ := R.next (ops.size - (i + 1)) (i + 1) (by omega)
  rw [hL2] at n5
  obtain ⟨s1, s2, s3, s4, s5, s6⟩ := h.slots hok ho hr hS2.ext (v' := v2) (by rw [hV]; exact hv2)
  have hpd : ∀ j, Pd R (listed.setIfInBounds i true) c' j → Pd R listed i j ∧ wb (mskOf ops) i j = false := fun j ⟨g1, g2, g3, g4⟩ =>
    ⟨⟨g1, g2, ((hls j).1 g3).resolve_left (fun e => by rw [e, hK] at g2; cases g2), fun e he hk => g4 e (by omega) hk⟩, g4 i (by omega) hK⟩
  refine ⟨D2, m2, c', s1, s2, s3, s4, s5, s6, n2, n3, fun j hj hk => ?_, by rw [n5]; exact hW2, by rw [n5]; exact a2.trans hS2', ?_, ?_, fun j hj => ?_, fun j j' hj hj' hne => ?_, fun j hj hk hl hd => ?_⟩
  · rw [hls]
    by_cases e : j = i
    · subst e; exact ⟨fun _ => by omega, fun _ => .inl rfl⟩
    · rw [h.ef j hj hk]
      constructor
      · rintro (h' | h')
        · exact absurd h' e
        · omega
      · intro h'
        by_cases hlt : j < i
        · exact .inr hlt
        · exact absurd hk (n4 j (by omega) h')
  · have := hS2.n
    rw [a4] at this
    have := h.big
    rw [n5]
    omega
  · cases hf : fullB ops (mskOf ops) i with
    | true =>
      right
      intro j oj hj hk
      have h1 := allIx_at hf (opAt_eq hj).2
      rw [(opAt_eq hj).1, hk] at h1
      exact (hls j).2 (.inr (wb_ready h.cl hr (by simpa using h1)))
    | false =>
      rcases h.ld with h3 | h3
      · left
        intro b hb
        rw [hf, cond_false] at hS2
        rw [n5, hS2.keep b (by rw [a4]; have := h.big; omega) hb, a5 b hb]
        exact h3 b hb
      · exact .inr fun j oj hj hk => (hls j).2 (.inr (h3 j oj hj hk))
  · obtain ⟨hj1, hj2⟩ := hpd j hj
    have q := a3 (j, R.C j) (h.pd j hj1) fun p hp => by
      have hp2 := (List.mem_filter.1 hp).2
      exact h.pd2 p.1 j (hl1 p hp).1 hj1 fun e => by
        rw [e, hj2] at hp2
        cases hp2
    have hm := hS2.ext.m _ q.d
    simp only at hm
    obtain ⟨cs, el', r1, r2, r3⟩ := q.row
    refine ⟨hS2.ext.d _ q.d, by rw [hm]; exact q.fx, by rw [hm]; exact q.lo, by rw [hm]; exact q.lw, ⟨cs, el', ?_, by rw [hm]; exact r2, r3.mono hS2.ext⟩, fun b k hk e => ?_⟩
    · rw [hm, hS2.far _ q.lt fun b k hk _ => q.far b k hk]
      exact r1
    · rw [n5] at hk
      rw [hm] at e
      obtain ⟨b', k', hb', e', _⟩ := hS2.own b k hk (by rw [e]; exact q.lt)
      exact q.far b' k' hb' (e'.trans e)
  · obtain ⟨hj1, _⟩ := hpd j hj
    obtain ⟨hj1', _⟩ := hpd j' hj'
    rw [hS2.ext.m _ (h.pd j hj1).d, hS2.ext.m _ (h.pd j' hj1').d]
    exact h.pd2 j j' hj1 hj1' hne
  · refine h.un j hj hk (fun hl' => hl ((hls j).2 (.inr hl'))) (hS2.old _ ?_ hd)
    rw [a4]
    have := h.big
    omega

theorem Inv.step (hN : Named P) (hE : EvOK P evf) {R : Run P evf ro L ops nt t} (hok : RegOK ops) (hro : ro ≤ L.n) {W0 W w : World} (hWL : WRel L D m W0 W) {listed : Array Bool} {a : Act} {c : Nat} (h : Inv R D m W0 W listed a w D' m' c) {i : Nat} (hr : i ∈ Region.ready .any ops listed) {Q : Exit → Act → World → Prop} :
    wpOp P ops Q i (fun a' w' => ∃ D'' m'' c', Inv R D m W0 W (listed.setIfInBounds i true) a' w' D'' m'' c') a w := by
  obtain ⟨_, o, ho, _⟩ := mem_ready.1 hr
  have hi : i < ops.size := (Array.getElem?_eq_some_iff.1 ho).1
  have hun : ¬ Listed listed i := by
    have := (mem_ready.1 hr).1
    unfold Listed
    intro hl
    have h2 : i < listed.size := by rw [h.size]; exact hi
    simp [h2] at this hl
    rw [this] at hl
    cases hl
  have hlook := h.look hok ho hr
  have hgl : GlOK D' m' L.gl := fun g hg => ⟨h.st.ext.d g (hWL.gl g hg).1, by rw [h.st.ext.m g (hWL.gl g hg).1]; exact (hWL.gl g hg).2⟩
  have hrl : Rl D' m' (lev L.gl (R.S i).t) a.eval o := rl_of hgl hlook
  obtain ⟨_, hc⟩ := regStep_inv (R.step i o ho)
  unfold wpOp
  simp only [ho]
  generalize hS : R.S (i + 1) = s at hc
  generalize hV : R.V i = v at hc
  generalize hC : R.C i = cc at hc
  cases hK : R.K i <;> rw [hK] at hc
  case skip =>
    cases hc
    rename_i t' hw
    rw [want_of hlook hw, if_neg (by simp)]
    exact ⟨D', m', c, h.same hok ho hr (by rw [hK]; simp) (by rw [hK]; simp) (by rw [hV]; exact .ud)⟩
  case pure =>
    cases hc
    rename_i t' hw hu
    rw [want_of hlook hw, if_pos rfl]
    have hF : FlexOK (fxOf L) D' m' := ⟨(fun b f hf => by
      have hd : D b := by
        unfold fxOf fxAt at hf
        simp only at hf
        split at hf
        · rename_i k hk; exact (hWL.blk b k hk).1
        · cases hf
      rw [h.st.ext.m b hd]
      exact (fxOf_ok hWL).fx b f hf), fun e he => (hWL.orc e he).mono h.st.ext⟩
    obtain ⟨v', h1, h2⟩ := rdop_ok hrl hF hu
    refine .inl ?_
    unfold Oper.wp
    rw [h2 w]
    exact ⟨D', m', c, h.same hok ho hr (by rw [hK]; simp) (by rw [hK]; simp) (by rw [hV]; exact h1)⟩
  case load =>
    cases hc
    rename_i t' hw hu
    rw [want_of hlook hw, if_pos rfl]
    have hk : ldK o = true := by
      unfold ldo at hu
      unfold ldK
      split at hu <;> first | (cases hu; done) | (rename_i e; rw [e])
    have hld : ∀ b, b < L.n → (R.S c).L.hp.get b = L.hp.get b := h.ld.resolve_right fun h' => hun (h' i o ho hk)
    have hu' := ldo_more (L' := (R.S c).L) (fun b k hb => (hld b (hWL.bn hb)).trans hb) hu
    obtain ⟨v', h1, h2⟩ := ldo_ok hrl h.wr hu'
    refine .inl ?_
    unfold Oper.wp
    rw [h2]
    exact ⟨D', m', c, h.same hok ho hr (by rw [hK]; simp) (by rw [hK]; simp) (by rw [hV]; exact h1)⟩
  case alloc =>
    cases hc
    rename_i t' sh hw hu
    rw [want_of hlook hw, if_pos rfl]
    obtain ⟨ys, el, h1, h2⟩ := aop_ok hrl hu
    refine .inl ?_
    unfold Oper.wp
    rw [h2 w]
    exact ⟨_, _, c, h.alloc hok ho hr hK (by rw [hC]; exact h1) hV⟩
  case eff =>
    cases hc
    rename_i t' L2 hw hke hu
    rw [want_of hlook hw, if_pos rfl]
    refine .inl (h.eff hN hE hok hro ho hr hK hke (fun j oj hj hk => ?_) hV (by rw [hS]) hu)
    obtain ⟨_, hc⟩ := regStep_inv (R.step j oj hj)
    generalize R.S (j + 1) = s' at hc
    generalize R.V j = v' at hc
    generalize R.C j = cc' at hc
    rw [hk] at hc
    cases hc
    assumption

/-- How many have not come up. -/
def unl (n : Nat) (listed : Array Bool) : Nat := ((List.range n).filter fun j => !listed.getD j false).length
theorem filter_leq {p q : Nat → Bool} (hpq : ∀ x, q x = true → p x = true) : ∀ l : List Nat, (l.filter q).length ≤ (l.filter p).length
  | [] => by simp
  | y :: l => by
    have ih := filter_leq hpq l
    cases hy : q y with
    | true => simp [List.filter_cons, hy, hpq y hy]; exact ih
    | false => cases hy' : p y <;> simp [List.filter_cons, hy, hy'] <;> omega
theorem filter_less {p q : Nat → Bool} (hpq : ∀ x, q x = true → p x = true) {e : Nat} (hp : p e = true) (hq : q e = false) : ∀ l : List Nat, e ∈ l → (l.filter q).length < (l.filter p).length
  | x :: l, he => by
    have hle := filter_leq hpq l
    rcases List.mem_cons.1 he with rfl | he
    · simp [List.filter_cons, hp, hq]; omega
    · have ih := filter_less hpq hp hq l he
      cases hy : q x with
      | true => simp [List.filter_cons, hy, hpq x hy]; exact ih
      | false => cases hy' : p x <;> simp [List.filter_cons, hy, hy'] <;> omega
theorem getD_in' {listed : Array Bool} {i : Nat} (hi : i < listed.size) (h : listed.getD i false = false) : listed.getD i true = false := by
  simp [hi] at h ⊢; exact h
theorem unl_set {listed : Array Bool} {i : Nat} (hs : listed.size = ops.size) (hi : i < ops.size) (h : ¬ Listed listed i) : unl ops.size (listed.setIfInBounds i true) < unl ops.size listed := by
  have hls : ∀ j, Listed (listed.setIfInBounds i true) j ↔ j = i ∨ Listed listed j := fun j => listed_set (by omega)
  refine filter_less (e := i) (fun x hx => ?_) ?_ ?_ _ (List.mem_range.2 hi)
  · cases hq : listed.getD x false with
    | false => rfl
    | true =>
      have := (hls x).2 (.inr hq)
      unfold Listed at this
      rw [this] at hx
      cases hx
  · cases hq : listed.getD i false with
    | false => rfl
    | true => exact absurd hq h
  · have := (hls i).2 (.inl rfl)
    unfold Listed at this
    rw [this]
    rfl
theorem unl_zero {listed : Array Bool} (h : unl ops.size listed = 0) : ∀ j, j < ops.size → Listed listed j := by
  intro j hj
  cases hq : listed.getD j false with
  | true => exact hq
  | false =>
    have : j ∈ (List.range ops.size).filter fun j => !listed.getD j false := List.mem_filter.2 ⟨List.mem_range.2 hj, by rw [hq]; rfl⟩
    rw [List.eq_nil_of_length_eq_zero h] at this
    cases this
theorem all_of_none {listed : Array Bool} (hB : Back ops) (hs : listed.size = ops.size) (h : Region.ready .any ops listed = []) : ∀ j, j < ops.size → Listed listed j := by
  intro j
  induction j using Nat.strongRecOn with
  | _ j ih =>
    intro hj
    cases hq : listed.getD j false with
    | true => exact hq
    | false =>
      exfalso
      have hm : j ∈ Region.ready .any ops listed := by
        refine mem_ready.2 ⟨getD_in' (by omega) hq, ops[j], Array.getElem?_eq_getElem hj, fun e he hb => ?_⟩
        have hlt := hB j _ (Array.getElem?_eq_getElem hj) e he hb
        exact ih e.on hlt (by omega)
      rw [h] at hm
      cases hm
theorem none_of_all {listed : Array Bool} (hs : listed.size = ops.size) (h : ∀ j, j < ops.size → Listed listed j) : Region.ready .any ops listed = [] := by
  cases hq : Region.ready .any ops listed with
  | nil => rfl
  | cons i l =>
    exfalso
    have hm : i ∈ Region.ready .any ops listed := by rw [hq]; simp
    obtain ⟨h1, o, ho, _⟩ := mem_ready.1 hm
    have hi := (Array.getElem?_eq_some_iff.1 ho).1
    have h2 := h i hi
    unfold Listed at h2
    have h3 : i < listed.size := by omega
    simp [h3] at h1 h2
    rw [h1] at h2
    cases h2

theorem Inv.all (hN : Named P) (hE : EvOK P evf) {R : Run P evf ro L ops nt t} (hok : RegOK ops) (hro : ro ≤ L.n) {W0 W : World} (hWL : WRel L D m W0 W) {Q : Exit → Act → World → Prop}
    (hQ : ∀ D' m' a' W', Stp ro L D m W (joins L.n (R.S ops.size).pend (R.S ops.size).L) D' m' W' → FRel D' m' nt (R.S ops.size).t a' → WRel (joins L.n (R.S ops.size).pend (R.S ops.size).L) D' m' W0 W' → Q .normal a' W') :
    ∀ (fuel : Nat) (listed : Array Bool) (a : Act) (w : World) (D' : Nat → Prop) (m' : Nat → MB) (c : Nat), Inv R D m W0 W listed a w D' m' c → unl ops.size listed ≤ fuel → wpAny P .any ops Q fuel listed a w := by
  have fin : ∀ (listed : Array Bool) (a : Act) (w : World) (D' : Nat → Prop) (m' : Nat → MB) (c : Nat), Inv R D m W0 W listed a w D' m' c → (∀ j, j < ops.size → Listed listed j) → Q .normal a w := by
    intro listed a w D' m' c h hall
    have hc : c = ops.size := by
      by_cases hlt : c < ops.size
      · have := (h.ef c hlt (h.ceff hlt)).1 (hall c hlt); omega
      · have := h.cle; omega
    subst hc
    obtain ⟨ps1, ps2⟩ := R.pspec hok.back ops.size (Nat.le_refl _)
    have hl1 : ∀ p ∈ (R.S ops.size).pend, Pd R listed ops.size p.1 ∧ p = (p.1, R.C p.1) := fun p hp => by
      obtain ⟨g1, g2, g3, g4⟩ := ps1 p hp
      exact ⟨⟨g1, g2, hall _ g1, g4⟩, by rw [← g3]⟩
    obtain ⟨a1, a2, _⟩ := adopts (R.S ops.size).pend (R.S ops.size).L h.wr h.st (fun p hp => by rw [(hl1 p hp).2]; exact h.pd _ (hl1 p hp).1)
      (ps2.imp_of_mem fun {p q} hp hq hne => h.pd2 p.1 q.1 (hl1 p hp).1 (hl1 q hq).1 hne)
    refine hQ D' m' a w a2 ⟨h.tsz, h.dfr, fun d v hv => ?_⟩ a1
    rcases R.tspec ops.size (Nat.le_refl _) d v hv with ⟨j, o, hj, h1, h2, rfl⟩ | ⟨h1, h2⟩
    · exact h.s1 j o d h1 h2 (hall j hj)
    · exact h.s0 d v h1 fun j o hj hd _ => h2 j o (Array.getElem?_eq_some_iff.1 hj).1 hj hd
  intro fuel
  induction fuel with
  | zero =>
    intro listed a w D' m' c h hu
    have hall := unl_zero (ops := ops) (Nat.le_zero.1 hu)
    exact ⟨none_of_all h.size hall, fin listed a w D' m' c h hall⟩
  | succ fuel ih =>
    intro listed a w D' m' c h hu
    refine ⟨fun h0 => fin listed a w D' m' c h (all_of_none hok.back h.size h0), fun i hi => ?_⟩
    obtain ⟨h1, o, ho, _⟩ := mem_ready.1 hi
    have hin := (Array.getElem?_eq_some_iff.1 ho).1
    have hun : ¬ Listed listed i := by
      unfold Listed
      intro hl
      have h2 : i < listed.size := by rw [h.size]; exact hin
      simp [h2] at h1 hl
      rw [h1] at hl
      cases hl
    have hlt := unl_set h.size hin hun
    exact wpOp_mono (fun a' w' ⟨D'', m'', c', h'⟩ => ih _ a' w' D'' m'' c' h' (by omega)) (h.step hN hE hok hro hWL hi)

theorem region_ok (hN : Named P) (hm : P.follows .mixedOrders = true) (hE : EvOK P evf) {id : Nat} {t' : Tr Value} (h : regL P evf ro L ops nt t = some (t', L')) {a : Act} {W0 W : World} (hF : FRel D m nt t a) (hW : WRel L D m W0 W) {Q : Exit → Act → World → Prop}
    (hQ : ∀ D' m' a' W', Stp ro L D m W L' D' m' W' → FRel D' m' nt t' a' → WRel L' D' m' W0 W' → Q .normal a' W') : (Code.region id ops true).wp P Q a W := by
  unfold regL at h
  cases hb : (okB ops (mskOf ops) && Nat.ble ro L.n) with
  | false => rw [hb, cond_false] at h; cases h
  | true =>
    rw [hb, cond_true] at h
    simp only [Bool.and_eq_true, Nat.ble_eq] at hb
    obtain ⟨hb1, hro⟩ := hb
    have hok := okB_spec hb1
    split at h <;> try (cases h; done)
    rename_i fin hfin
    cases h
    obtain ⟨S, K, V, C, h1, h2, h3⟩ := run_of ops.toList 0 _ fin hfin
    let R : Run P evf ro L ops nt t := ⟨S, K, V, C, h1, fun i o ho => by have := h3 i o (by simpa using ho); simpa using this⟩
    have hSN : R.S ops.size = fin := by simpa using h2
    obtain ⟨c, n1, n2, n3, n4, n5⟩ := R.next ops.size 0 (by omega)
    have hL0 : (R.S c).L = ⟨L.hp, L.n + ops.size, L.orc, L.gl⟩ := by rw [n5, R.st0]
    have hnl : ∀ j, ¬ Listed (Array.replicate ops.size false) j := fun j hl => by
      unfold Listed at hl
      rcases Nat.lt_or_ge j ops.size with h | h <;> simp [h] at hl
    have inv : Inv R D m W0 W (Array.replicate ops.size false) a { W with drawn := W.drawn + 1 } D m c := by
      refine ⟨by simp, fun j o hj hl => absurd hl (hnl j), hF.size, hF.dfr, fun j o d hj hd hl => absurd hl (hnl j), fun d v hv _ => hF.slot d v hv, n2, n3, fun j hj hk => ⟨fun hl => absurd hl (hnl j), fun hlt => absurd hk (n4 j (Nat.zero_le _) hlt)⟩, ?_, ?_, ?_, .inl fun b hb => by rw [hL0], fun j ⟨_, _, hl, _⟩ => absurd hl (hnl j), fun j j' ⟨_, _, hl, _⟩ => absurd hl (hnl j), fun j hj hk hl hd => ?_⟩
      · rw [hL0]
        exact ⟨hW.bel.drew, fun b hb => by have := hW.lt b hb; simp only; omega, hW.blk, hW.inj, hW.orc, hW.gl⟩
      · rw [hL0]
        exact ⟨Ext.refl _ _, by simp, fun _ _ h => h, fun _ _ k h => ⟨k, h⟩, fun _ _ _ => rfl, Nat.le_refl _, fun _ _ _ => rfl, fun b k h _ => ⟨b, k, h, rfl, fun h => h⟩⟩
      · rw [hL0]
        exact Nat.le_refl _
      · have := hW.lt _ hd; omega
    refine wp_region_any hm (Inv.all hN hE (R := R) hok hro hW (fun D' m' a' W' hS hF' hW' => hQ D' m' a' W' ?_ ?_ ?_) ops.size _ a _ D m c inv ?_)
    · rw [hSN] at hS; exact hS
    · rw [hSN] at hF'; exact hF'
    · rw [hSN] at hW'; exact hW'
    · unfold unl
      exact Nat.le_trans (List.length_filter_le _ _) (by simp)
end
end
end Go.Proofs.Ytejhjpdcodloaaa.Ev
