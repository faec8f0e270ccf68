/- The evaluator's operations that make memory, or write it. -/
import Derived.Test.YtejhjpdcodloaaaEvB
import Derived.Laws.Rows
import Derived.Laws.AppendOwn
namespace Go.Proofs.Ytejhjpdcodloaaa.Ev
noncomputable section
open Go Go.RowKit
set_option linter.unusedVariables false
set_option linter.unusedSimpArgs false

variable {L L' L'' : LS} {D D' D'' : Nat → Prop} {m m' m'' : Nat → MB} {P : Program}

def EfOK (P : Program) (L : LS) (D : Nat → Prop) (m : Nat → MB) (W0 W : World) (ro : Nat) (ρ' : Operand → Value) (o : Oper) (v : Value) (L1 : LS) : Prop :=
  ∃ n v' D1 m1 W1, (execOp ρ' o).run P W = .ok n W1 ∧ (n = .value v' ∨ n = .skip ∧ v' = undef) ∧ VRel D1 m1 v v' ∧ WRel L1 D1 m1 W0 W1 ∧ Stp ro L D m W L1 D1 m1 W1

def LS.new (L : LS) (cells : List Value) (flex : Option Nat) : LS := ⟨L.hp.set L.n (some ⟨cells, flex⟩), L.n + 1, L.orc, L.gl⟩
def upd (m : Nat → MB) (n : Nat) (x : MB) : Nat → MB := fun b => if b = n then x else m b
def also (D : Nat → Prop) (n : Nat) : Nat → Prop := fun b => D b ∨ b = n

theorem WRel.lt' {W0 W : World} (h : WRel L D m W0 W) {b : Nat} {k : Blk} (hk : L.hp.get b = some k) : (m b).blk < W.heap.size := by
  obtain ⟨_, _, _, cs, el, fz, hc, _⟩ := h.blk b k hk
  exact (Array.getElem?_eq_some_iff.1 hc).1
theorem WRel.bn {W0 W : World} (h : WRel L D m W0 W) {b : Nat} {k : Blk} (hk : L.hp.get b = some k) : b < L.n := h.lt b (h.blk b k hk).1
theorem WRel.drew {W0 W : World} (h : WRel L D m W0 W) : WRel L D m W0 W.drew := ⟨h.bel.drew, h.lt, h.blk, h.inj, h.orc, h.gl⟩
theorem Stp.drew {ro : Nat} {W W' : World} (h : Stp ro L D m W.drew L' D' m' W') : Stp ro L D m W L' D' m' W' := ⟨h.ext, h.n, h.old, h.kind, h.keep, h.size, h.far, h.own⟩
theorem upd_ext {b : Nat} (hb : ¬ D b) (x : MB) : Ext D m (also D b) (upd m b x) := ⟨fun _ h => .inl h, fun c hc => by
  have : c ≠ b := fun e => hb (e ▸ hc)
  simp [upd, this]⟩

theorem WRel.new {W0 W : World} (h : WRel L D m W0 W) (cells : List Value) (flex : Option Nat) (ys : Array Value) (el : TypeId)
    (hc : ∀ (j : Nat) (v : Value), cells[j]? = some v → ∃ v' : Value, ys[j]? = some v' ∧ VRel D m v v') :
    WRel (L.new cells flex) (also D L.n) (upd m L.n ⟨W.heap.size, ys.size, flex, undef⟩) W0 (W.alloc (.cells ys el)) ∧
    ∀ ro, Stp ro L D m W (L.new cells flex) (also D L.n) (upd m L.n ⟨W.heap.size, ys.size, flex, undef⟩) (W.alloc (.cells ys el)) := by
  have hg : ∀ b, (L.new cells flex).hp.get b = if b = L.n then some ⟨cells, flex⟩ else L.hp.get b := fun b => by simp only [LS.new, Tr.get_set]
  have hDn : ¬ D L.n := fun h' => Nat.lt_irrefl _ (h.lt _ h')
  have E := upd_ext (m := m) hDn ⟨W.heap.size, ys.size, flex, undef⟩
  have hu : ∀ b, b ≠ L.n → upd m L.n ⟨W.heap.size, ys.size, flex, undef⟩ b = m b := fun b hb => by simp [upd, hb]
  have hn : upd m L.n ⟨W.heap.size, ys.size, flex, undef⟩ L.n = ⟨W.heap.size, ys.size, flex, undef⟩ := by simp [upd]
  have hne : ∀ b k, L.hp.get b = some k → b ≠ L.n := fun b k hk e => Nat.lt_irrefl _ (e ▸ h.bn hk)
  refine ⟨⟨h.bel.alloc h.bel.size _, fun b hb => ?_, fun b k hk => ?_, fun b c k k' hk hk' e => ?_, fun e he => (h.orc e he).mono E, fun g hg => ⟨E.d g (h.gl g hg).1, by rw [E.m g (h.gl g hg).1]; exact (h.gl g hg).2⟩⟩, fun ro => ⟨E, by simp [LS.new], fun b hb hd => hd.resolve_right (by omega), fun b hb k' hk' => ?_, fun b hb _ => by rw [hg, if_neg (by omega)], by simp, fun K hK _ => heap_alloc_old _ _ _ hK, fun b k hk hlt => ?_⟩⟩
  · rcases hb with hb | rfl
    · have := h.lt b hb; simp [LS.new]; omega
    · simp [LS.new]
  · rw [hg] at hk
    by_cases hb : b = L.n
    · subst hb
      rw [if_pos rfl] at hk
      cases hk
      refine ⟨.inr rfl, fun _ => by rw [hn]; exact h.bel.size, by rw [hn], ys, el, (0, 0), by rw [hn]; exact heap_alloc_new _ _, fun _ => rfl, by rw [hn], fun j v hj => ?_⟩
      obtain ⟨v', h1, h2⟩ := hc j v hj
      exact ⟨v', h1, h2.mono E⟩
    · rw [if_neg hb] at hk
      obtain ⟨h1, h2, h2', cs, el', fz, h3, hz, h4, h5⟩ := h.blk b k hk
      refine ⟨.inl h1, by rw [hu b hb]; exact h2, by rw [hu b hb]; exact h2', cs, el', fz, by rw [hu b hb, heap_alloc_old _ _ _ (h.lt' hk)]; exact h3, hz, by rw [hu b hb]; exact h4, fun j v hj => ?_⟩
      obtain ⟨v', g1, g2⟩ := h5 j v hj
      exact ⟨v', g1, g2.mono E⟩
  · rw [hg] at hk hk'
    by_cases hb : b = L.n <;> by_cases hc' : c = L.n
    · rw [hb, hc']
    · rw [if_neg hc'] at hk'
      rw [hb, hn, hu c hc'] at e
      have := h.lt' hk'
      simp only at e
      omega
    · rw [if_neg hb] at hk
      rw [hc', hn, hu b hb] at e
      have := h.lt' hk
      simp only at e
      omega
    · rw [if_neg hb] at hk
      rw [if_neg hc'] at hk'
      rw [hu b hb, hu c hc'] at e
      exact h.inj b c k k' hk hk' e
  · rw [hg, if_neg (by omega)] at hk'
    exact ⟨k', hk'⟩
  · rw [hg] at hk
    by_cases hb : b = L.n
    · rw [hb, hn] at hlt
      simp at hlt
    · rw [if_neg hb] at hk
      exact ⟨b, k, hk, by rw [hu b hb], fun h => h⟩

/-! ### What may be stored -/

def oneL : Value → Bool
  | .tuple _ | .agg _ | .chan (some 0) => false
  | _ => true
def lcells : Value → Option (List Value)
  | .agg ⟨cs⟩ => bif cs.all oneL then some cs else none
  | .tuple _ => none
  | .chan (some 0) => none
  | v => some [v]
theorem oneL_rel {v v' : Value} (h : VRel D m v v') (h1 : oneL v = true) : v'.oneCell' = true := by
  cases h with
  | un v => simp [oneL] at h1
  | op v h => exact h
  | ud => simp [oneL] at h1
  | nm k hk h => exact h
  | gr v h => cases v <;> simp_all [oneL, Value.oneCell', gnd, g2, g1]
  | pt b o hb => rfl
  | sl b o n c c' hb h1 h2 h3 => rfl
  | ag xs ys h => simp [oneL] at h1
  | tu xs ys h => simp [oneL] at h1
  | fn f xs ys zs ws h h' => rfl
theorem oneLs_rel : ∀ {xs ys : List Value}, VRels D m xs ys → xs.all oneL = true → ∀ y ∈ ys, y.oneCell' = true
  | _, _, .nil, _, y, hy => by simp at hy
  | _, _, .cons x z xs ys h t, h1, y, hy => by
    simp only [List.all_cons, Bool.and_eq_true] at h1
    rcases List.mem_cons.1 hy with rfl | hy
    · exact oneL_rel h h1.1
    · exact oneLs_rel t h1.2 y hy
theorem cells_one {v : Value} (h : v.oneCell' = true) : v.cells.toList = [v] := by
  cases v <;> first | rfl | (simp [Value.oneCell'] at h)
theorem lcells_rel {v v' : Value} {cs : List Value} (h : VRel D m v v') (hc : lcells v = some cs) : VRels D m cs v'.cells.toList ∧ ∀ y ∈ v'.cells.toList, y.oneCell' = true := by
  unfold lcells at hc
  split at hc
  · rename_i xs
    cases ha : xs.all oneL with
    | false => rw [ha, cond_false] at hc; cases hc
    | true =>
      rw [ha, cond_true] at hc
      cases hc
      obtain ⟨ys, rfl, hr⟩ := agg_eq h
      exact ⟨hr, oneLs_rel hr ha⟩
  · cases hc
  · cases hc
  · rename_i hna hnt hnc
    cases hc
    have h1 : oneL v = true := by
      cases v <;> first | rfl | (rename_i cs; exact absurd rfl (hna cs.toList)) | (rename_i cs; exact absurd rfl (hnt cs)) | (rename_i r; cases r with | none => rfl | some r => (cases r with | zero => exact absurd rfl hnc | succ r => rfl))
    have h2 := oneL_rel h h1
    rw [cells_one h2]
    exact ⟨.cons _ _ _ _ h .nil, fun y hy => by simp at hy; subst hy; exact h2⟩

/-! ### New blocks -/

/-- What a new block's number comes to: a pointer to it, or a slice over it. -/
def shp (b : Nat) : Option (Nat × Nat) → Value
  | none => .pointer (some ⟨b, 0, none⟩)
  | some (l, c) => .slice (some ⟨b, 0, none⟩) l c
/-- The operation makes one block, with these cells, and hands back what the shape tells. -/
def AlOK (P : Program) (D : Nat → Prop) (m : Nat → MB) (ρ' : Operand → Value) (o : Oper) (cs : List Value) (sh : Option (Nat × Nat)) : Prop :=
  ∃ (ys : Array Value) (el : TypeId), VRels D m cs ys.toList ∧ ∀ W : World, (execOp ρ' o).run P W = .ok (.value (shp W.heap.size sh)) (W.alloc (.cells ys el))
theorem shp_rel {b : Nat} (hb : D b) (hf : (m b).flex = none) (sh : Option (Nat × Nat)) : VRel D m (shp b sh) (shp (m b).blk sh) := by
  cases sh with
  | none => exact .pt b 0 hb
  | some p => exact .sl b 0 _ _ _ hb (Nat.le_refl _) (fun _ => rfl) (fun e he => by rw [hf] at he; cases he)
theorem new_ok {W0 W : World} (hW : WRel L D m W0 W) (ro : Nat) {ρ' : Operand → Value} {o : Oper} {cs : List Value} {sh : Option (Nat × Nat)} (h : AlOK P D m ρ' o cs sh) : EfOK P L D m W0 W ro ρ' o (shp L.n sh) (L.new cs none) := by
  obtain ⟨ys, el, hr, he⟩ := h
  obtain ⟨h1, h2⟩ := hW.new cs none ys el (fun j v hj => by simpa using hr.at j v hj)
  refine ⟨_, _, _, _, _, he W, .inl rfl, ?_, h1, h2 ro⟩
  have hn : upd m L.n ⟨W.heap.size, ys.size, none, undef⟩ L.n = ⟨W.heap.size, ys.size, none, undef⟩ := by simp [upd]
  have := shp_rel (D := also D L.n) (m := upd m L.n ⟨W.heap.size, ys.size, none, undef⟩) (b := L.n) (.inr rfl) (by rw [hn]) sh
  rw [hn] at this
  exact this
theorem box_ok {ρ ρ' : Operand → Value} {o : Oper} (hρ : Rl D m ρ ρ' o) {e : TypeId} {x : Operand} {cs : List Value} (ho : o.op = .box e x) (h : lcells (ρ x) = some cs) : AlOK P D m ρ' o cs none :=
  ⟨(ρ' x).cells, e, (lcells_rel (hρ x (by simp [ho, Op.operands])) h).1, fun W => by simp [execOp, ho, Instr.box, newVar, newRow, shp]⟩
def zeroL (P : Program) (e : TypeId) : Option (List Value) :=
  match P.info? e with
  | some i => match i.zero with
    | some z => bif z.cells.toList.all g1 then some z.cells.toList else none
    | none => none
  | none => none
theorem alloc_ok {ρ' : Operand → Value} {o : Oper} {e : TypeId} {cs : List Value} (ho : o.op = .alloc e) (h : zeroL P e = some cs) : AlOK P D m ρ' o cs none := by
  unfold zeroL at h
  split at h
  · rename_i i hi
    split at h
    · rename_i z hz
      cases hg : z.cells.toList.all g1 with
      | false => rw [hg, cond_false] at h; cases h
      | true =>
        rw [hg, cond_true] at h
        cases h
        exact ⟨z.cells, e, VRels.ground _ hg, fun W => by simp [execOp, ho, Instr.alloc, zeroValue, typeInfo, hi, hz, newVar, newRow, shp]⟩
    · cases h
  · cases h

/-! ### Stores -/

def setsL (cs : List Value) (off : Nat) (vs : List Value) : List Value := cs.take off ++ vs ++ cs.drop (off + vs.length)
theorem setsL_at {cs ds vs ws : List Value} (h : ∀ (j : Nat) (v : Value), cs[j]? = some v → ∃ v' : Value, ds[j]? = some v' ∧ VRel D m v v') (hv : VRels D m vs ws) (off : Nat) (hfit : off + vs.length ≤ cs.length) (hd : cs.length ≤ ds.length) :
    ∀ (j : Nat) (v : Value), (setsL cs off vs)[j]? = some v → ∃ v' : Value, (ds.take off ++ ws ++ ds.drop (off + ws.length))[j]? = some v' ∧ VRel D m v v' := by
  intro j v hj
  have hl := hv.length
  unfold setsL at hj
  have e1 : (cs.take off).length = off := by simp; omega
  have e2 : (ds.take off).length = off := by simp; omega
  rw [List.append_assoc] at hj ⊢
  by_cases c1 : j < off
  · rw [List.getElem?_append_left (by omega), List.getElem?_take_of_lt c1] at hj
    rw [List.getElem?_append_left (by omega), List.getElem?_take_of_lt c1]
    exact h j v hj
  · rw [List.getElem?_append_right (by omega), e1] at hj
    rw [List.getElem?_append_right (by omega), e2]
    by_cases c2 : j - off < vs.length
    · rw [List.getElem?_append_left c2] at hj
      rw [List.getElem?_append_left (by omega)]
      exact hv.at _ v hj
    · rw [List.getElem?_append_right (by omega), List.getElem?_drop] at hj
      rw [List.getElem?_append_right (by omega), List.getElem?_drop]
      rw [hl] at hj
      exact h _ v hj

def LS.put (L : LS) (b : Nat) (k : Option Blk) : LS := ⟨L.hp.set b k, L.n, L.orc, L.gl⟩
theorem LS.get_put (L : LS) (b : Nat) (k : Option Blk) (c : Nat) : (L.put b k).hp.get c = if c = b then k else L.hp.get c := by simp only [LS.put, Tr.get_set]

theorem blk_len {W0 W : World} (h : WRel L D m W0 W) {b : Nat} {k : Blk} (hk : L.hp.get b = some k) : k.cells.length ≤ (m b).size := by
  obtain ⟨_, _, _, cs, el, fz, _, _, hs, hr⟩ := h.blk b k hk
  by_cases h0 : k.cells.length = 0
  · omega
  · obtain ⟨v', hv, _⟩ := hr (k.cells.length - 1) (k.cells[k.cells.length - 1]'(by omega)) (by first | (simp; done) | (simp; omega))
    have := (Array.getElem?_eq_some_iff.1 hv).1
    omega

theorem Stp.put {ro b : Nat} {k k' : Blk} {W W' : World} (hk : L.hp.get b = some k) (hro : ro ≤ b) (hs : W.heap.size ≤ W'.heap.size) (hf : ∀ K, K < W.heap.size → K ≠ (m b).blk → W'.heap[K]? = W.heap[K]?) : Stp ro L D m W (L.put b (some k')) D m W' :=
  ⟨Ext.refl _ _, Nat.le_refl _, fun _ _ h => h, fun c _ x hx => by
    rw [LS.get_put] at hx
    split at hx
    · rename_i e; subst e; exact ⟨k, hk⟩
    · exact ⟨x, hx⟩, fun c _ hc => by rw [LS.get_put, if_neg (by omega)], hs, fun K hK hne => hf K hK fun e => hne b k hk hro e.symm, fun c x hx _ => by
    rw [LS.get_put] at hx
    split at hx
    · rename_i e; subst e; exact ⟨c, k, hk, rfl, fun h => h⟩
    · exact ⟨c, x, hx, rfl, fun h => h⟩⟩

theorem WRel.store {W0 W : World} (h : WRel L D m W0 W) {b : Nat} {k : Blk} (hk : L.hp.get b = some k) {vs ws : List Value} (hv : VRels D m vs ws) (h1 : ∀ y ∈ ws, y.oneCell' = true) {o : Nat} (hfit : o + vs.length ≤ k.cells.length) {ro : Nat} (hro : ro ≤ b) (hgl : L.gl ≤ b) :
    ∃ W1, (storeCells ⟨(m b).blk, o, none⟩ ws).run P W = .ok () W1 ∧ WRel (L.put b (some ⟨setsL k.cells o vs, k.flex⟩)) D m W0 W1 ∧ Stp ro L D m W (L.put b (some ⟨setsL k.cells o vs, k.flex⟩)) D m W1 := by
  obtain ⟨hbn, hB, hfl, cs, el, fz, hc, hz, hs, hr⟩ := h.blk b k hk
  obtain rfl := hz hgl
  have hlen := blk_len h hk
  have hl := hv.length
  have hrun := run_storeCells_at P (m b).blk o el ws 0 cs W hc (by omega) h1
  rw [Nat.add_zero] at hrun
  have hrow : (W.setRow (m b).blk (cs.toList.take o ++ ws ++ cs.toList.drop (o + ws.length)).toArray).heap[(m b).blk]? = some (.cells (cs.toList.take o ++ ws ++ cs.toList.drop (o + ws.length)).toArray el (0, 0)) := setRow_heap W _ cs _ el _ hc
  refine ⟨_, hrun, ⟨?_, h.lt, fun c x hx => ?_, fun c d x x' hx hx' e => ?_, h.orc, h.gl⟩, Stp.put hk hro (by simp [World.setRow]) fun K hK hne => setRow_other W _ _ _ hne⟩
  · exact h.bel.trans ⟨rfl, rfl, rfl, by simp [World.setRow], fun i hi => setRow_other W _ _ _ (by have := hB hgl; omega)⟩
  · rw [LS.get_put] at hx
    by_cases e : c = b
    · subst e
      rw [if_pos rfl] at hx
      cases hx
      refine ⟨hbn, hB, hfl, _, el, (0, 0), hrow, fun _ => rfl, ?_, fun j v hj => ?_⟩
      · simp; omega
      · obtain ⟨v', e1, e2⟩ := setsL_at (ds := cs.toList) (fun j v hj => by simpa using hr j v hj) hv o hfit (by simp; omega) j v hj
        exact ⟨v', by simpa using e1, e2⟩
    · rw [if_neg e] at hx
      obtain ⟨g1, g2, g2', cs', el', fz', g3, gz, g4, g5⟩ := h.blk c x hx
      exact ⟨g1, g2, g2', cs', el', fz', by rw [setRow_other W _ _ _ fun e' => e (h.inj c b x k hx hk e')]; exact g3, gz, g4, g5⟩
  · have get : ∀ c x, (L.put b (some ⟨setsL k.cells o vs, k.flex⟩)).hp.get c = some x → ∃ y, L.hp.get c = some y := fun c x hx => by
      rw [LS.get_put] at hx
      split at hx
      · rename_i e; subst e; exact ⟨k, hk⟩
      · exact ⟨x, hx⟩
    obtain ⟨y, hy⟩ := get c x hx
    obtain ⟨y', hy'⟩ := get d x' hx'
    exact h.inj c d y y' hy hy' e

/-- The same number, list, memory, worked out. -/
def forceN {α : Type} (n : Nat) (k : Nat → α) : α := match n with
  | 0 => k 0
  | m + 1 => k (Nat.succ m)
theorem forceN_eq {α : Type} (n : Nat) (k : Nat → α) : forceN n k = k n := by cases n <;> rfl
def forceL {α β : Type} : List α → (List α → β) → β
  | [], k => k []
  | x :: xs, k => forceL xs fun ys => k (x :: ys)
theorem forceL_eq {α β : Type} : ∀ (l : List α) (k : List α → β), forceL l k = k l
  | [], k => rfl
  | x :: xs, k => by rw [forceL, forceL_eq xs]
def LS.newF (L : LS) (cells : List Value) (flex : Option Nat) : LS := match L with
  | ⟨hp, n, orc, gl⟩ => forceN n fun n => ⟨hp.set n (some ⟨cells, flex⟩), n + 1, orc, gl⟩
theorem LS.newF_eq (L : LS) (cells : List Value) (flex : Option Nat) : L.newF cells flex = L.new cells flex := by
  cases L; simp only [LS.newF, forceN_eq, LS.new]
def LS.putF (L : LS) (b : Nat) (k : Option Blk) : LS := match L with
  | ⟨hp, n, orc, gl⟩ => match k with
    | some ⟨cs, fx⟩ => forceL cs fun cs => ⟨hp.set b (some ⟨cs, fx⟩), n, orc, gl⟩
    | none => ⟨hp.set b none, n, orc, gl⟩
theorem LS.putF_eq (L : LS) (b : Nat) (k : Option Blk) : L.putF b k = L.put b k := by
  cases L; cases k <;> simp only [LS.putF, forceL_eq, LS.put]
def stop (P : Program) (ro : Nat) (L : LS) (t : TypeId) (a x : Value) : Option LS :=
  match a, lcells x, P.info? t with
  | .pointer (some ⟨b, o, none⟩), some vs, some i => match L.hp.get b with
    | some k => bif Nat.ble ro b && Nat.ble L.gl b && Nat.beq vs.length i.size && Nat.ble (o + vs.length) k.cells.length then some (L.putF b (some ⟨setsL k.cells o vs, k.flex⟩)) else none
    | none => none
  | _, _, _ => none
theorem stop_ok {ρ ρ' : Operand → Value} {o : Oper} (hρ : Rl D m ρ ρ' o) {W0 W : World} (hW : WRel L D m W0 W) {ro : Nat} {t : TypeId} {a x : Operand} {L1 : LS} (ho : o.op = .store t a x) (h : stop P ro L t (ρ a) (ρ x) = some L1) : EfOK P L D m W0 W ro ρ' o (.tuple #[]) L1 := by
  unfold stop at h
  simp only [LS.putF_eq] at h
  split at h
  · rename_i b of vs i ha hvs hi
    split at h
    · rename_i k hk
      cases hc : (Nat.ble ro b && Nat.ble L.gl b && Nat.beq vs.length i.size && Nat.ble (of + vs.length) k.cells.length) with
      | false => rw [hc, cond_false] at h; cases h
      | true =>
        rw [hc, cond_true] at h
        cases h
        simp only [Bool.and_eq_true, Nat.ble_eq] at hc
        obtain ⟨⟨⟨h1, hg1⟩, h2⟩, h3⟩ := hc
        have hp := (ptr_eq (ha ▸ hρ a (by simp [ho, Op.operands]))).1
        obtain ⟨hr, hone⟩ := lcells_rel (hρ x (by simp [ho, Op.operands])) hvs
        obtain ⟨W1, hrun, hw, hs⟩ := hW.store (P := P) hk hr hone h3 h1 hg1
        have hsz : ¬ (ρ' x).cells.size ≠ i.size := by
          have := hr.length
          have := Nat.eq_of_beq_eq_true h2
          simp at *; omega
        exact ⟨.skip, undef, D, m, W1, by simp [execOp, ho, Instr.storeAt, Instr.sureAddr, hp, storeVar, run_sizeOf' hi, hsz, hrun], .inr ⟨rfl, rfl⟩, .un _, hw, hs⟩
    · cases h
  · cases h
end
end Go.Proofs.Ytejhjpdcodloaaa.Ev
