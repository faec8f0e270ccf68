/- The evaluator's append and copy. A slice that has grown has as many cells as the program's has at least; the row that it grew from is used no more. -/
import Derived.Test.YtejhjpdcodloaaaEvD
namespace Go.Proofs.Ytejhjpdcodloaaa.Ev
noncomputable section
open Go Go.RowKit
set_option linter.unusedVariables false
set_option linter.unusedSimpArgs false

variable {L L' L'' : LS} {D D' D'' : Nat → Prop} {m m' m'' : Nat → MB} {P : Program}

def rowOf (k : Blk) (o n : Nat) : Option (List Value) := bif Nat.beq ((k.cells.drop o).take n).length n then some ((k.cells.drop o).take n) else none
theorem rowOf_ok {W0 W : World} (h : WRel L D m W0 W) {b : Nat} {k : Blk} (hk : L.hp.get b = some k) {o n : Nat} {cs : List Value} (hr : rowOf k o n = some cs) :
    cs.length = n ∧ ∃ ys : List Value, ys.length = n ∧ VRels D m cs ys ∧ ∀ j v, ys[j]? = some v → W.cell? ((⟨(m b).blk, o, none⟩ : Addr).add j) = some v := by
  unfold rowOf at hr
  cases hb : Nat.beq ((k.cells.drop o).take n).length n with
  | false => rw [hb, cond_false] at hr; cases hr
  | true =>
    rw [hb, cond_true] at hr
    cases hr
    obtain ⟨ys, h1, h2, h3⟩ := cells_rel h hk o n (Nat.eq_of_beq_eq_true hb)
    exact ⟨Nat.eq_of_beq_eq_true hb, ys, h1, h2, fun j v hj => by rw [Addr.add_none]; exact h3 W rfl j v hj⟩

theorem WRel.kill {W0 W : World} (h : WRel L D m W0 W) (ro b : Nat) (hro : ro ≤ b) : WRel (L.put b none) D m W0 W ∧ Stp ro L D m W (L.put b none) D m W := by
  have get : ∀ c x, (L.put b none).hp.get c = some x → L.hp.get c = some x := fun c x hx => by
    rw [LS.get_put] at hx
    split at hx
    · cases hx
    · exact hx
  refine ⟨⟨h.bel, h.lt, fun c x hx => h.blk c x (get c x hx), fun c d x x' hx hx' e => h.inj c d x x' (get c x hx) (get d x' hx') e, h.orc, h.gl⟩, Ext.refl _ _, Nat.le_refl _, fun _ _ h => h, fun c _ x hx => ⟨x, get c x hx⟩, fun c _ hc => by rw [LS.get_put, if_neg (by omega)], Nat.le_refl _, fun _ _ _ => rfl, fun c x hx _ => ⟨c, x, get c x hx, rfl, fun h => h⟩⟩

/-- A row that has room is written on, and goes on under another number. -/
theorem WRel.fork {W0 W : World} (h : WRel L D m W0 W) {b : Nat} {k : Blk} (hk : L.hp.get b = some k) {ro : Nat} (hro : ro ≤ b) (hgl : L.gl ≤ b) (cells : List Value) (sz : Nat) (row : Array Value) (hs : row.size = (m b).size) (hfx : k.flex = some sz)
    (hc : ∀ (j : Nat) (v : Value), cells[j]? = some v → ∃ v' : Value, row[j]? = some v' ∧ VRel D m v v') :
    WRel ((L.put b none).new cells (some sz)) (also D L.n) (upd m L.n (m b)) W0 (W.setRow (m b).blk row) ∧ Stp ro L D m W ((L.put b none).new cells (some sz)) (also D L.n) (upd m L.n (m b)) (W.setRow (m b).blk row) := by
  obtain ⟨hbn, hB, hfl, cs, el, fz, hcs, hz, hsz, hr⟩ := h.blk b k hk
  obtain rfl := hz hgl
  have hg : ∀ c, ((L.put b none).new cells (some sz)).hp.get c = if c = L.n then some ⟨cells, some sz⟩ else if c = b then none else L.hp.get c := fun c => by
    simp only [LS.new, LS.put, Tr.get_set]
  have hDn : ¬ D L.n := fun h' => Nat.lt_irrefl _ (h.lt _ h')
  have E := upd_ext (m := m) hDn (m b)
  have hu : ∀ c, c ≠ L.n → upd m L.n (m b) c = m c := fun c hb => by simp [upd, hb]
  have hn : upd m L.n (m b) L.n = m b := by simp [upd]
  have hbl := h.bn hk
  have hrow : (W.setRow (m b).blk row).heap[(m b).blk]? = some (.cells row el (0, 0)) := setRow_heap W _ cs _ el _ hcs
  have old : ∀ c x, c ≠ L.n → ((L.put b none).new cells (some sz)).hp.get c = some x → c ≠ b ∧ L.hp.get c = some x := fun c x hcn hx => by
    rw [hg, if_neg hcn] at hx
    split at hx
    · cases hx
    · exact ⟨‹_›, hx⟩
  refine ⟨⟨h.bel.trans ⟨rfl, rfl, rfl, by simp [World.setRow], fun i hi => setRow_other W _ _ _ (by have := hB hgl; omega)⟩, fun c hc' => ?_, fun c x hx => ?_, fun c d x x' hx hx' e => ?_, fun e he => (h.orc e he).mono E, fun g hg => ⟨E.d g (h.gl g hg).1, by rw [E.m g (h.gl g hg).1]; exact (h.gl g hg).2⟩⟩, E, by simp [LS.new, LS.put], fun c hc' hd => hd.resolve_right (by omega), fun c hc' x hx => ?_, fun c hc' hcr => by rw [hg, if_neg (by omega), if_neg (by omega)], by simp [World.setRow], fun K hK hne => setRow_other W _ _ _ fun e => hne b k hk hro e.symm, fun c x hx hlt => ?_⟩
  · rcases hc' with hc' | rfl
    · have := h.lt c hc'; simp [LS.new, LS.put]; omega
    · simp [LS.new, LS.put]
  · by_cases hcn : c = L.n
    · subst hcn
      rw [hg, if_pos rfl] at hx
      cases hx
      refine ⟨.inr rfl, fun _ => by rw [hn]; exact hB hgl, by rw [hn, hfl, hfx], row, el, (0, 0), by rw [hn]; exact hrow, fun _ => rfl, by rw [hn]; exact hs, fun j v hj => ?_⟩
      obtain ⟨v', e1, e2⟩ := hc j v hj
      exact ⟨v', e1, e2.mono E⟩
    · obtain ⟨hcb, hx'⟩ := old c x hcn hx
      obtain ⟨g1, g2, g2', cs', el', fz', g3, gz, g4, g5⟩ := h.blk c x hx'
      refine ⟨.inl g1, by rw [hu c hcn]; exact g2, by rw [hu c hcn]; exact g2', cs', el', fz', by rw [hu c hcn, setRow_other W _ _ _ fun e => hcb (h.inj c b x k hx' hk e)]; exact g3, gz, by rw [hu c hcn]; exact g4, fun j v hj => ?_⟩
      obtain ⟨v', e1, e2⟩ := g5 j v hj
      exact ⟨v', e1, e2.mono E⟩
  · by_cases hcn : c = L.n <;> by_cases hdn : d = L.n
    · rw [hcn, hdn]
    · obtain ⟨hdb, hy⟩ := old d x' hdn hx'
      rw [hcn, hn, hu d hdn] at e
      exact absurd (h.inj b d k x' hk hy e).symm hdb
    · obtain ⟨hcb, hy⟩ := old c x hcn hx
      rw [hdn, hn, hu c hcn] at e
      exact absurd (h.inj c b x k hy hk e) hcb
    · obtain ⟨hcb, hy⟩ := old c x hcn hx
      obtain ⟨hdb, hy'⟩ := old d x' hdn hx'
      rw [hu c hcn, hu d hdn] at e
      exact h.inj c d x x' hy hy' e
  · exact ⟨x, (old c x (by omega) hx).2⟩
  · by_cases hcn : c = L.n
    · rw [hcn, hn]
      exact ⟨b, k, hk, rfl, fun _ => hro⟩
    · exact ⟨c, x, (old c x hcn hx).2, by rw [hu c hcn], fun h => h⟩

theorem run_app_in {W W1 : World} {t ty e : TypeId} {i : TypeInfo} (ht : P.underlying t = some (.slice e)) (hi : P.info? e = some i) {a a' : Addr} {sl c n c' : Nat} {ys : List Value}
    (hf : (Builtin.firstCells i.size n (.slice (some a') n c')).run P W = .ok ys.toArray W) (hst : (storeCells (a.add (sl * i.size)) ys).run P W = .ok () W1) (hle : sl + n ≤ c) :
    (Builtin.append_ #[t, t] ty #[.slice (some a) sl c, .slice (some a') n c']).run P W = .ok (.slice (some a) (sl + n) c) W1 := by
  simp [Builtin.append_, run_underlying ht, sizeOf, typeInfo, hi, Builtin.lenOf, hle, hf, hst]

def grown (L : LS) (i : TypeInfo) (z : Value) (cs : List Value) (need : Nat) : Option (Value × LS) :=
  bif Nat.ble need 9223372036854775807 && Nat.ble (need * i.bytes) 140737488355328 && Nat.beq z.cells.size i.size && Nat.beq cs.length (need * i.size) then some (.slice (some ⟨L.n, 0, none⟩) need need, L.newF cs (some i.size)) else none
def apop (P : Program) (ro : Nat) (L : LS) (t : TypeId) (s x : Value) : Option (Value × LS) :=
  match P.underlying t with
  | some (.slice e) => match P.info? e with
    | some i => match i.zero with
      | some z => match x with
        | .slice (some ⟨b', o', none⟩) n _ => match L.hp.get b' with
          | some k' => match rowOf k' o' (n * i.size) with
            | some news => match s with
              | .slice none 0 0 => bif Nat.blt 0 n then grown L i z news n else none
              | .slice (some ⟨b, o, none⟩) sl sc => match L.hp.get b with
                | some k =>
                  bif Nat.ble (sl + n) sc then
                    (bif Nat.ble ro b && Nat.ble L.gl b && news.all oneL && Nat.ble (o + sl * i.size + news.length) k.cells.length then
                      some (.slice (some ⟨b, o, none⟩) (sl + n) sc, L.putF b (some ⟨setsL k.cells (o + sl * i.size) news, k.flex⟩)) else none)
                  else match rowOf k o (sl * i.size) with
                    | some olds => match k.flex with
                      | none => grown L i z (olds ++ news) (sl + n)
                      | some e' => bif Nat.beq e' i.size && Nat.beq o 0 && Nat.ble ro b && Nat.ble L.gl b && news.all oneL then grown (L.put b none) i z (olds ++ news) (sl + n) else none
                    | none => none
                | none => none
              | _ => none
            | none => none
          | none => none
        | _ => none
      | none => none
    | none => none
  | _ => none

theorem app_exec {ρ' : Operand → Value} {o : Oper} {s x : Operand} {t : TypeId} {a b v : Value} {W W1 : World} (ho : o.op = .call { callee := .builtin .append, args := #[s, x], argTypes := #[t, t] }) (hs : ρ' s = a) (hx : ρ' x = b)
    (hr : (Builtin.append_ #[t, t] o.type #[a, b]).run P W = .ok v W1) : (execOp ρ' o).run P W = .ok (.value v) W1 := by
  unfold execOp
  simp only [ho, resolve, invoke, builtin, Sem.run_bind, Sem.run_pure, Result.andThen_ok, List.map_toArray, List.map_cons, List.map_nil, hs, hx, hr]

/-- What has grown into new memory. -/
theorem grow_ok {W0 W : World} (hW : WRel L D m W0 W) (ro : Nat) {ρ' : Operand → Value} {o : Oper} {i : TypeInfo} {z : Value} {e : TypeId} {cs ys : List Value} {need c' : Nat} {v : Value} {L1 : LS} (hcs : VRels D m cs ys) (hge : need ≤ c')
    (hg : grown L i z cs need = some (v, L1))
    (he : (execOp ρ' o).run P W = .ok (.value (.slice (some ⟨W.heap.size, 0, none⟩) need c')) (W.drew.alloc (.cells (ys.toArray ++ Builtin.zeroCells z.cells (c' - need)) e))) : EfOK P L D m W0 W ro ρ' o v L1 := by
  unfold grown at hg
  simp only [LS.newF_eq] at hg
  cases hq : (Nat.ble need 9223372036854775807 && Nat.ble (need * i.bytes) 140737488355328 && Nat.beq z.cells.size i.size && Nat.beq cs.length (need * i.size)) with
  | false => rw [hq, cond_false] at hg; cases hg
  | true =>
    rw [hq, cond_true] at hg
    cases hg
    simp only [Bool.and_eq_true, Nat.ble_eq] at hq
    obtain ⟨⟨⟨h1, h2⟩, h3⟩, h4⟩ := hq
    have h3 := Nat.eq_of_beq_eq_true h3
    have h4 := Nat.eq_of_beq_eq_true h4
    have hl := hcs.length
    obtain ⟨hw, hs⟩ := hW.drew.new cs (some i.size) (ys.toArray ++ Builtin.zeroCells z.cells (c' - need)) e (fun j v hj => by
      obtain ⟨v', e1, e2⟩ := hcs.at j v hj
      have hj' : j < ys.toArray.size := by simpa using (List.getElem?_eq_some_iff.1 e1).1
      exact ⟨v', by rw [Array.getElem?_append_left hj']; simpa using e1, e2⟩)
    refine ⟨_, _, _, _, _, he, .inl rfl, ?_, hw, (hs ro).drew⟩
    have hn : upd m L.n ⟨W.drew.heap.size, (ys.toArray ++ Builtin.zeroCells z.cells (c' - need)).size, some i.size, undef⟩ L.n = ⟨W.heap.size, (ys.toArray ++ Builtin.zeroCells z.cells (c' - need)).size, some i.size, undef⟩ := by simp [upd]
    have := VRel.sl (D := also D L.n) (m := upd m L.n ⟨W.drew.heap.size, (ys.toArray ++ Builtin.zeroCells z.cells (c' - need)).size, some i.size, undef⟩) L.n 0 need need c' (.inr rfl) hge (fun e => by rw [hn] at e; cases e) (fun e' he' => by
      rw [hn] at he' ⊢
      cases he'
      simp only [Array.size_append, List.size_toArray, size_zeroCells, h3, ← hl, h4, ← Nat.add_mul, Nat.zero_add]
      exact Nat.le_of_eq (by congr 1; omega))
    rw [hn] at this
    exact this

theorem apop_ok {ρ ρ' : Operand → Value} {o : Oper} (hρ : Rl D m ρ ρ' o) {W0 W : World} (hW : WRel L D m W0 W) {ro : Nat} {t : TypeId} {s x : Operand} {v : Value} {L1 : LS} (ho : o.op = .call { callee := .builtin .append, args := #[s, x], argTypes := #[t, t] })
    (h : apop P ro L t (ρ s) (ρ x) = some (v, L1)) : EfOK P L D m W0 W ro ρ' o v L1 := by
  unfold apop at h
  simp only [LS.putF_eq] at h
  split at h <;> try (cases h; done)
  rename_i e hu
  split at h <;> try (cases h; done)
  rename_i i hi
  split at h <;> try (cases h; done)
  rename_i z hz
  split at h <;> try (cases h; done)
  rename_i b' o' n cx hx
  split at h <;> try (cases h; done)
  rename_i k' hk'
  split at h <;> try (cases h; done)
  rename_i news hnews
  have hxr := hρ x (by simp [ho, Op.operands, Call.operands])
  have hsr := hρ s (by simp [ho, Op.operands, Call.operands])
  obtain ⟨cx', hx', _⟩ := slc_eq (hx ▸ hxr)
  obtain ⟨hnl, ns, hnsl, hnr, hnc⟩ := rowOf_ok hW hk' hnews
  split at h
  · rename_i hs
    have hs' : ρ' s = .slice none 0 0 := gnd_eq (hs ▸ hsr) rfl
    cases hn0 : Nat.blt 0 n with
    | false => rw [hn0, cond_false] at h; cases h
    | true =>
      rw [hn0, cond_true] at h
      have hpos : 0 < n := by simpa [Nat.blt_eq] using hn0
      have hgr := h
      unfold grown at hgr
      simp only [LS.newF_eq] at hgr
      cases hq : (Nat.ble n 9223372036854775807 && Nat.ble (n * i.bytes) 140737488355328 && Nat.beq z.cells.size i.size && Nat.beq news.length (n * i.size)) with
      | false => rw [hq, cond_false] at hgr; cases hgr
      | true =>
        simp only [Bool.and_eq_true, Nat.ble_eq] at hq
        obtain ⟨⟨⟨h1, h2⟩, h3⟩, h4⟩ := hq
        have hr := run_append_nil (P := P) W t o.type e i z hu hi hz ⟨(m b').blk, o', none⟩ n cx' ns hnsl hnc hpos (by omega) (by omega)
        exact grow_ok hW ro hnr (grownCap_ge W n 0 e) h (app_exec ho hs' hx' hr)
  · rename_i b of sl sc hs
    split at h <;> try (cases h; done)
    rename_i k hk
    obtain ⟨c', hs', hdb, hcc, hc0', hcf⟩ := slc_eq (hs ▸ hsr)
    have hflx : (m b).flex = k.flex := (hW.blk b k hk).2.2.1
    have hc0 : k.flex = none → c' = sc := fun e => hc0' (hflx.trans e)
    cases hin : Nat.ble (sl + n) sc with
    | true =>
      rw [hin, cond_true] at h
      have hin' : sl + n ≤ sc := by simpa using hin
      cases hq : (Nat.ble ro b && Nat.ble L.gl b && news.all oneL && Nat.ble (of + sl * i.size + news.length) k.cells.length) with
      | false => rw [hq, cond_false] at h; cases h
      | true =>
        rw [hq, cond_true] at h
        cases h
        simp only [Bool.and_eq_true, Nat.ble_eq] at hq
        obtain ⟨⟨⟨h1, hg1⟩, h2⟩, h3⟩ := hq
        obtain ⟨W1, hst, hw, hsp⟩ := hW.store (P := P) hk hnr (oneLs_rel hnr h2) h3 h1 hg1
        have hf := run_firstCells_some (P := P) W i.size n ⟨(m b').blk, o', none⟩ n cx' ns hnsl hnc
        have hr := run_app_in (ty := o.type) hu hi (a := ⟨(m b).blk, of, none⟩) (sl := sl) (c := c') hf (by rw [Addr.add_none]; exact hst) (by omega)
        exact ⟨_, _, D, m, W1, app_exec ho hs' hx' hr, .inl rfl, .sl b of _ _ _ hdb hcc hc0' hcf, hw, hsp⟩
    | false =>
      rw [hin, cond_false] at h
      have hin' : sc < sl + n := by
        have : ¬ sl + n ≤ sc := by intro hle; rw [Nat.ble_eq_true_of_le hle] at hin; cases hin
        omega
      split at h <;> try (cases h; done)
      rename_i olds holds
      obtain ⟨hol, os, hosl, hor, hoc⟩ := rowOf_ok hW hk holds
      have bnd : ∀ {L2 : LS}, grown L2 i z (olds ++ news) (sl + n) = some (v, L1) → sl + n ≤ 9223372036854775807 ∧ (sl + n) * i.bytes ≤ 140737488355328 := by
        intro L2 hgr
        unfold grown at hgr
        simp only [LS.newF_eq] at hgr
        cases hq : (Nat.ble (sl + n) 9223372036854775807 && Nat.ble ((sl + n) * i.bytes) 140737488355328 && Nat.beq z.cells.size i.size && Nat.beq (olds ++ news).length ((sl + n) * i.size)) with
        | false => rw [hq, cond_false] at hgr; cases hgr
        | true =>
          simp only [Bool.and_eq_true, Nat.ble_eq] at hq
          exact ⟨hq.1.1.1, hq.1.1.2⟩
      have app : ∀ (C : Nat), C < sl + n → sl + n ≤ 9223372036854775807 → (sl + n) * i.bytes ≤ 140737488355328 →
          (Builtin.append_ #[t, t] o.type #[.slice (some ⟨(m b).blk, of, none⟩) sl C, .slice (some ⟨(m b').blk, o', none⟩) n cx']).run P W =
            .ok (.slice (some ⟨W.heap.size, 0, none⟩) (sl + n) (grownCap W (sl + n) C e)) (W.drew.alloc (.cells ((os ++ ns).toArray ++ Builtin.zeroCells z.cells (grownCap W (sl + n) C e - (sl + n))) e)) := by
        intro C hC h1 h2
        have hr := run_append_grow (P := P) W t o.type e i z hu hi hz ⟨(m b).blk, of, none⟩ sl C os hosl (hoc) ⟨(m b').blk, o', none⟩ n cx' ns hnsl hnc hC (by omega) (growslice_fits hC h2)
        rw [hr]
        congr 3
        simp
      split at h
      · rename_i hfx
        obtain rfl := hc0 hfx
        obtain ⟨h1, h2⟩ := bnd h
        exact grow_ok hW ro (hor.append hnr) (grownCap_ge W (sl + n) c' e) h (app_exec ho hs' hx' (app c' hin' h1 h2))
      · rename_i e' hfx
        cases hq : (Nat.beq e' i.size && Nat.beq of 0 && Nat.ble ro b && Nat.ble L.gl b && news.all oneL) with
        | false => rw [hq, cond_false] at h; cases h
        | true =>
          rw [hq, cond_true] at h
          obtain ⟨h1, h2⟩ := bnd h
          simp only [Bool.and_eq_true, Nat.ble_eq] at hq
          obtain ⟨⟨⟨⟨q1, q2⟩, q3⟩, qg⟩, q4⟩ := hq
          obtain rfl := Nat.eq_of_beq_eq_true q1
          obtain rfl := Nat.eq_of_beq_eq_true q2
          have hroom := hcf _ (hflx.trans hfx)
          by_cases hC : sl + n ≤ c'
          · obtain ⟨hbn, hB, _, cur, el, fz, hcur, hz, hsz, hcr⟩ := hW.blk b k hk
            obtain rfl := hz qg
            have hmul : (sl + n) * i.size ≤ c' * i.size := Nat.mul_le_mul_right _ hC
            rw [Nat.add_mul] at hmul
            have hst := run_storeCells_at P (m b).blk (0 + sl * i.size) el ns 0 cur W hcur (by omega) (oneLs_rel hnr q4)
            rw [Nat.add_zero] at hst
            have hf := run_firstCells_some (P := P) W i.size n ⟨(m b').blk, o', none⟩ n cx' ns hnsl hnc
            have hr := run_app_in (ty := o.type) hu hi (a := ⟨(m b).blk, 0, none⟩) (sl := sl) (c := c') hf (by rw [Addr.add_none]; exact hst) hC
            unfold grown at h
            simp only [LS.newF_eq] at h
            cases hq2 : (Nat.ble (sl + n) 9223372036854775807 && Nat.ble ((sl + n) * i.bytes) 140737488355328 && Nat.beq z.cells.size i.size && Nat.beq (olds ++ news).length ((sl + n) * i.size)) with
            | false => rw [hq2, cond_false] at h; cases h
            | true =>
              rw [hq2, cond_true] at h
              cases h
              have hos : os = cur.toList.take (sl * i.size) := by
                apply List.ext_getElem?
                intro j
                by_cases hj : j < sl * i.size
                · have hj' : j < os.length := by omega
                  have := hoc j (os[j]) (by simp)
                  rw [Addr.add_none, Nat.zero_add] at this
                  simp only [World.cell?, hcur] at this
                  rw [List.getElem?_take_of_lt hj, List.getElem?_eq_getElem hj', Array.getElem?_toList]
                  simpa using this.symm
                · rw [List.getElem?_eq_none (by omega), List.getElem?_eq_none (by simp; omega)]
              obtain ⟨hw, hsp⟩ := hW.fork hk q3 qg (olds ++ news) i.size (cur.toList.take (0 + sl * i.size) ++ ns ++ cur.toList.drop (0 + sl * i.size + ns.length)).toArray (by simp; omega) hfx (fun j v hj => by
                obtain ⟨v', e1, e2⟩ := (hor.append hnr).at j v hj
                refine ⟨v', ?_, e2⟩
                have hj' : j < (os ++ ns).length := (List.getElem?_eq_some_iff.1 e1).1
                rw [List.getElem?_toArray, Nat.zero_add, ← hos, List.getElem?_append_left hj']
                exact e1)
              have hn : upd m L.n (m b) L.n = m b := by simp [upd]
              have hv := VRel.sl (D := also D L.n) (m := upd m L.n (m b)) L.n 0 (sl + n) (sl + n) c' (.inr rfl) hC (fun e => by rw [hn, hflx, hfx] at e; cases e) (fun e he => by
                rw [hn] at he ⊢
                rw [hflx, hfx] at he
                cases he
                exact hroom)
              rw [hn] at hv
              exact ⟨_, _, _, _, _, app_exec ho hs' hx' hr, .inl rfl, hv, hw, hsp⟩
          · obtain ⟨hwk, hsk⟩ := hW.kill ro b q3
            obtain ⟨nx, v', D1, m1, W1, r1, r2, r3, r4, r5⟩ := grow_ok (P := P) (o := o) (ρ' := ρ') hwk ro (hor.append hnr) (grownCap_ge W (sl + n) c' e) h (app_exec ho hs' hx' (app c' (by omega) h1 h2))
            exact ⟨nx, v', D1, m1, W1, r1, r2, r3, r4, hsk.trans r5⟩
  · cases h

/-- Copying rows of cells of one word. -/
def cpop (P : Program) (ro : Nat) (L : LS) (dt : TypeId) (d s : Value) : Option (Value × LS) :=
  match P.underlying dt with
  | some (.slice e) => match P.info? e with
    | some i => bif Nat.beq i.size 1 then (match d, s with
      | .slice (some ⟨b, o, none⟩) dl _, .slice (some ⟨b', o', none⟩) sl _ => match L.hp.get b, L.hp.get b' with
        | some k, some k' => match rowOf k' o' (Nat.min sl dl) with
          | some news => bif Nat.ble ro b && Nat.ble L.gl b && news.all oneL && Nat.ble (o + news.length) k.cells.length then some (.int .i64 (Nat.min sl dl), L.putF b (some ⟨setsL k.cells o news, k.flex⟩)) else none
          | none => none
        | _, _ => none
      | _, _ => none) else none
    | none => none
  | _ => none
theorem cpop_ok {ρ ρ' : Operand → Value} {o : Oper} (hρ : Rl D m ρ ρ' o) {W0 W : World} (hW : WRel L D m W0 W) {ro : Nat} {dt st : TypeId} {d s : Operand} {v : Value} {L1 : LS} (ho : o.op = .call { callee := .builtin .copy, args := #[d, s], argTypes := #[dt, st] })
    (h : cpop P ro L dt (ρ d) (ρ s) = some (v, L1)) : EfOK P L D m W0 W ro ρ' o v L1 := by
  unfold cpop at h
  simp only [LS.putF_eq] at h
  split at h <;> try (cases h; done)
  rename_i e hu
  split at h <;> try (cases h; done)
  rename_i i hi
  cases h1 : Nat.beq i.size 1 with
  | false => rw [h1, cond_false] at h; cases h
  | true =>
    rw [h1, cond_true] at h
    have h1 := Nat.eq_of_beq_eq_true h1
    split at h <;> try (cases h; done)
    rename_i b of dl dc b' o' sl sc hd hs
    split at h <;> try (cases h; done)
    rename_i k k' hk hk'
    split at h <;> try (cases h; done)
    rename_i news hnews
    obtain ⟨hnl, ns, hnsl, hnr, hnc⟩ := rowOf_ok hW hk' hnews
    obtain ⟨dc', hd', _⟩ := slc_eq (hd ▸ hρ d (by simp [ho, Op.operands, Call.operands]))
    obtain ⟨sc', hs', _⟩ := slc_eq (hs ▸ hρ s (by simp [ho, Op.operands, Call.operands]))
    cases hq : (Nat.ble ro b && Nat.ble L.gl b && news.all oneL && Nat.ble (of + news.length) k.cells.length) with
    | false => rw [hq, cond_false] at h; cases h
    | true =>
      rw [hq, cond_true] at h
      cases h
      simp only [Bool.and_eq_true, Nat.ble_eq] at hq
      obtain ⟨⟨⟨q1, qg⟩, q2⟩, q3⟩ := hq
      obtain ⟨W1, hst, hw, hsp⟩ := hW.store (P := P) hk hnr (oneLs_rel hnr q2) q3 q1 qg
      have hl := run_loadCells_list (P := P) W ⟨(m b').blk, o', none⟩ ns hnc
      rw [hnsl] at hl
      have hr : (Builtin.copy_ #[dt, st] o.type #[.slice (some ⟨(m b).blk, of, none⟩) dl dc', .slice (some ⟨(m b').blk, o', none⟩) sl sc']).run P W = .ok (goInt (Nat.min sl dl)) W1 := by
        simp [Builtin.copy_, run_underlying hu, Builtin.lenOf, Builtin.firstCells, sizeOf, typeInfo, hi, h1, hl, hst]
      refine ⟨.value (goInt (Nat.min sl dl)), _, D, m, W1, ?_, .inl rfl, .gr _ rfl, hw, hsp⟩
      unfold execOp
      simp only [ho, resolve, invoke, builtin, Sem.run_bind, Sem.run_pure, Result.andThen_ok, List.map_toArray, List.map_cons, List.map_nil, hd', hs', hr]

theorem VRels.map {ρ ρ' : Operand → Value} : ∀ (l : List Operand), (∀ x ∈ l, VRel D m (ρ x) (ρ' x)) → VRels D m (l.map ρ) (l.map ρ')
  | [], _ => .nil
  | x :: l, h => .cons _ _ _ _ (h x (by simp)) (VRels.map l fun y hy => h y (by simp [hy]))
theorem mfop_ok {ρ ρ' : Operand → Value} {o : Oper} (hρ : Rl D m ρ ρ' o) {fn : Fn} {first cap : Array Operand} (ho : o.op = .makeFunc fn first cap) :
    RdAll P D m ρ' o (.func fn ⟨first.toList.map ρ⟩ ⟨cap.toList.map ρ⟩) := by
  refine ⟨.func fn ⟨first.toList.map ρ'⟩ ⟨cap.toList.map ρ'⟩, .fn fn _ _ _ _ (VRels.map _ fun x hx => hρ x (by simp only [ho, Op.operands]; simp at hx ⊢; exact .inl hx)) (VRels.map _ fun x hx => hρ x (by simp only [ho, Op.operands]; simp at hx ⊢; exact .inr hx)), fun w => ?_⟩
  have e1 : ∀ a : Array Operand, a.map ρ' = ⟨a.toList.map ρ'⟩ := fun a => by apply Array.ext'; simp
  simp only [execOp, ho, Instr.makeFunc, Sem.run_bind, Sem.run_pure, Result.andThen_ok, e1]
end
end Go.Proofs.Ytejhjpdcodloaaa.Ev
