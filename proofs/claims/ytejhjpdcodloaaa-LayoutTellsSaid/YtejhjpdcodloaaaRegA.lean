/- A region that draws, in which two variables are made: they are two; no condition. -/
import Derived.Test.YtejhjpdcodloaaaReg
namespace Go.Proofs.Ytejhjpdcodloaaa.Base
open Go.ChangeShapes Go.WideShapes Go.ChangeAt Go.RowKit
set_option linter.unusedVariables false
set_option linter.unusedSimpArgs false

def alOp : Op → Bool
  | .alloc _ => true
  | _ => false
def isAl (ops : Array Oper) (j : Nat) : Bool := ((ops[j]?).map fun o => alOp o.op).getD false
theorem isAl_op {ops : Array Oper} {j : Nat} {o : Oper} (ho : ops[j]? = some o) (h : isAl ops j = true) : alOp o.op = true := by
  unfold isAl at h
  rw [ho] at h
  simpa using h
def alB (ops : Array Oper) : Bool := ops.toList.all fun o => !alOp o.op || o.guard.isNone
theorem wanted_al {ops : Array Oper} (h : alB ops = true) : ∀ i o, ops[i]? = some o → isAl ops i = true → ∀ y, Region.wanted o y = true := by
  intro i o ho hq y
  unfold alB at h
  rw [List.all_eq_true] at h
  have h1 := h o (by rw [← Array.getElem?_toList] at ho; exact List.mem_of_getElem? ho)
  rw [isAl_op ho hq] at h1
  have h2 : o.guard = none := by simpa using h1
  unfold Region.wanted
  rw [h2]
def AlNe (ops : Array Oper) (k : Nat) (a : Act) : Prop := ∀ i j, i < k → j < k → i ≠ j → isAl ops i = true → isAl ops j = true → ∀ di dj, dstAt ops i = some di → dstAt ops j = some dj → ∀ x y, a.tmps[di]? = some x → a.tmps[dj]? = some y → x ≠ y
structure AlI (ops : Array Oper) (k : Nat) (vals : Nat → Value) (listed : Array Bool) (w : World) : Prop where
  alo : ∀ j, j < k → Listed listed j → isAl ops j = true → ∃ g, vals j = .pointer (some ⟨g, 0, none⟩) ∧ g < w.heap.size
  ne : ∀ i j, i < k → j < k → i ≠ j → Listed listed i → Listed listed j → isAl ops i = true → isAl ops j = true → vals i ≠ vals j
theorem ptr_ne {g g' : Nat} (h : g ≠ g') : (Value.pointer (some ⟨g, 0, none⟩)) ≠ .pointer (some ⟨g', 0, none⟩) := fun e => by
  injection e with e
  injection e with e
  injection e with e
  exact h e
theorem lst_back {listed : Array Bool} {i j : Nat} (hi : i < listed.size) (hji : ¬ j = i) (h : Listed (listed.setIfInBounds i true) j) : Listed listed j := by
  have := lst_set (j := j) hi
  unfold lst at this
  unfold Listed at h ⊢
  rw [this] at h
  simpa [hji] using h
theorem actL_off {ops : Array Oper} {vals : Nat → Value} {p : Nat → Bool} {d : Nat} : ∀ (l : List Nat) (a : Act), (∀ j ∈ l, dstAt ops j ≠ some d) → (actL ops vals p l a).tmps[d]? = a.tmps[d]?
  | [], a, _ => rfl
  | j :: l, a, h => by
    unfold actL
    rw [actL_off l _ (fun j' hj' => h j' (List.mem_cons_of_mem _ hj'))]
    cases p j with
    | false => rfl
    | true => exact (put_off _ _ (h j (List.mem_cons_self ..))).2
theorem actL_isL {ops : Array Oper} {vals : Nat → Value} {p : Nat → Bool} {d i : Nat} {x : Value} (hp : p i = true) (hd : dstAt ops i = some d) : ∀ (l : List Nat) (a : Act), i ∈ l → l.Nodup → (∀ j ∈ l, j ≠ i → dstAt ops j ≠ some d) → (actL ops vals p l a).tmps[d]? = some x → x = vals i
  | j :: l, a, hm, hn, ho, hx => by
    rw [List.nodup_cons] at hn
    unfold actL at hx
    by_cases hji : j = i
    · subst hji
      rw [actL_off l _ (fun j' hj' => ho j' (List.mem_cons_of_mem _ hj') (fun e => hn.1 (e ▸ hj'))), hp, cond_true, hd] at hx
      simp only [Act.put, Array.getElem?_setIfInBounds] at hx
      split at hx
      · split at hx
        · exact (Option.some.inj hx).symm
        · cases hx
      · rename_i h; exact absurd trivial h
    · exact actL_isL hp hd l _ (by simpa [Ne.symm hji] using hm) hn.2 (fun j' hj' => ho j' (List.mem_cons_of_mem _ hj')) hx
theorem wp_of_givesA {P : Program} {o : Oper} {a : Act} {w : World} {V : Sp} {K : Act → World → Prop} {Q' : Exit → Act → World → Prop} (h : gives P o a w V)
    (hk : ∀ v w', Below w.heap.size w w' → V v w' → (alOp o.op = true → v = .pointer (some ⟨w.heap.size, 0, none⟩) ∧ w.heap.size < w'.heap.size) → K (a.put o.dst v) w') : o.wp P a w K Q' := by
  cases hop : o.op with
  | alloc e =>
    have hr : (∃ c, (execOp a.eval o).run P w = .ok (.value (.pointer (some ⟨w.heap.size, 0, none⟩))) (w.alloc c)) ∨ ∃ x w', (execOp a.eval o).run P w = .halt x w' := by
      cases hi : P.info? e with
      | none => right; simp [execOp, hop, Instr.alloc, zeroValue, typeInfo, hi, newVar, newRow, Sem.run_bind]
      | some i =>
        cases hz : i.zero with
        | none => right; simp [execOp, hop, Instr.alloc, zeroValue, typeInfo, hi, hz, newVar, newRow, Sem.run_bind]
        | some z => left; exact ⟨_, by simp [execOp, hop, Instr.alloc, zeroValue, typeInfo, hi, hz, newVar, newRow]; rfl⟩
    unfold gives at h
    unfold Oper.wp
    rcases hr with ⟨c, hr⟩ | ⟨x, w', hr⟩
    · rw [hr] at h ⊢
      exact hk _ _ h.1 h.2 (fun _ => ⟨rfl, by simp⟩)
    · rw [hr] at h
      exact h.elim
  | _ => exact wp_of_gives h (fun v w' hb hv => hk v w' hb hv (fun q => by rw [hop] at q; cases q))
section
variable {P : Program} {ops : Array Oper} {w0 : World} {Q : Act → World → Prop} {k : Nat} {Vs : List SpE} {a0 : Act}
theorem actL_is (hok : RegK ops k) {vals : Nat → Value} {p : Nat → Bool} {d i : Nat} {x : Value} (hi : i < k) (hp : p i = true) (hd : dstAt ops i = some d) (hx : (actL ops vals p (List.range k) a0).tmps[d]? = some x) : x = vals i :=
  actL_isL hp hd _ _ (List.mem_range.2 hi) List.nodup_range (fun j hj hji => hok.dst i j hi (List.mem_range.1 hj) (Ne.symm hji) d hd) hx
theorem any_of_specA {Q' : Exit → Act → World → Prop} (hok : RegK ops k) (hal0 : ∀ i o, ops[i]? = some o → isAl ops i = true → ∀ y, Region.wanted o y = true) (h : SpecW P ops (mskOf ops) w0 (fun a w => AlNe ops k a → wpAny P .any ops Q' (ops.size - k) (listK ops.size k) a w) 0 (ops.toList.take k) [] a0 Vs) :
    ∀ (n : Nat) (vals : Nat → Value) (listed : Array Bool) (a : Act) (w : World), openOf k listed = n → RInv ops k w0 Vs a0 vals listed a w → AlI ops k vals listed w → wpAny P .any ops Q' (n + (ops.size - k)) listed a w
  | 0, vals, listed, a, w, hn, hI, hA => by
    have hall : ∀ j, j < k → Listed listed j := fun j hj => by
      have h0 := List.eq_nil_of_length_eq_zero hn
      have := (List.filter_eq_nil_iff.1 h0) j (List.mem_range.2 hj)
      simpa [lst, Listed] using this
    have hlk := listK_eq hI.size hok.le hall hI.none
    have hfin := (spec_at hok h vals hI.may k (Nat.le_refl _))
    rw [List.drop_of_length_le (by rw [List.length_take]; omega)] at hfin
    have hact : a = actAt ops vals k k a0 := by
      rw [hI.act]
      exact actL_same _ _ (fun j hj => ⟨by have := hall j (List.mem_range.1 hj); unfold Listed at this; simp [lst, this, List.mem_range.1 hj], rfl⟩)
    rw [Nat.zero_add, hlk, hact]
    refine hfin.nil_inv ⟨w, hI.kin⟩ (fun f hf => ?_) (by
      rw [← hact, hI.act]
      intro i j hi hj hij h1 h2 di dj e1 e2 x y hx hy
      rw [actL_is hok hi (by have := hall i hi; unfold Listed at this; exact this) e1 hx, actL_is hok hj (by have := hall j hj; unfold Listed at this; exact this) e2 hy]
      exact hA.ne i j hi hj hij (hall i hi) (hall j hj) h1 h2)
    obtain ⟨h1, h2⟩ := factsAt_mem hf
    rw [h2]
    exact hI.had _ h1 (hall _ h1)
  | n + 1, vals, listed, a, w, hn, hI, hA => by
    have hex : ∃ j, j < k ∧ ¬ Listed listed j := by
      have : (List.range k).filter (fun j => !lst listed j) ≠ [] := fun h0 => by unfold openOf at hn; rw [h0] at hn; cases hn
      obtain ⟨j, hj⟩ := List.exists_mem_of_ne_nil _ this
      rw [List.mem_filter, List.mem_range] at hj
      exact ⟨j, hj.1, by simpa [lst, Listed] using hj.2⟩
    obtain ⟨j0, hj0, hn0⟩ := hex
    rw [show n + 1 + (ops.size - k) = (n + (ops.size - k)) + 1 by omega]
    refine ⟨fun h0 => absurd h0 (ready_of hok hI.closed hI.size hj0 hn0), fun i hi => ?_⟩
    obtain ⟨hnl, o, ho, hdep⟩ := mem_ready' hi hI.size
    have his : i < ops.size := (Array.getElem?_eq_some_iff.1 ho).1
    have hik : i < k := by
      rcases Nat.lt_or_ge i k with h' | h'
      · exact h'
      · exact absurd (wb_ready hI.closed ho hdep (hok.late i his h' j0 hj0)) hn0
    have hlook : ∀ d ∈ o.looksAt ops, a.tmps[d]? = (actAt ops vals k i a0).tmps[d]? := fun d hd => by
      rw [hI.act]
      refine actL_at _ _ _ (fun j hj hdj => ?_) rfl rfl
      obtain ⟨h1, h2⟩ := hok.look i j o d hik (List.mem_range.1 hj) ho hdj hd
      have := wb_ready hI.closed ho hdep h2
      unfold Listed at this
      simp [lst, this, h1]
    have hdst : o.dst = dstAt ops i := by unfold dstAt; rw [ho]; rfl
    have hgo : ∀ v w', Below w.heap.size w w' → (spAt Vs i).sp v w' → Stable (spAt Vs i).sp → (isAl ops i = true → v = .pointer (some ⟨w.heap.size, 0, none⟩) ∧ w.heap.size < w'.heap.size) → wpAny P .any ops Q' (n + (ops.size - k)) (listed.setIfInBounds i true) (a.put o.dst v) w' := by
      intro v w' hb hv _ hal
      have hil : i < listed.size := by rw [hI.size]; exact his
      have hkin := hI.kin.trans (hb.mono hI.kin.size)
      refine any_of_specA hok hal0 h n (fun j => if j = i then v else vals j) _ _ _ ?_ ⟨?_, hkin, ?_, ?_, ?_, by simpa using hI.size, ?_⟩ ⟨?_, ?_⟩
      · have hlf : lst listed i = false := by unfold Listed at hnl; simpa [lst] using hnl
        have := filter_less (e := i) (p := fun j => !lst listed j) (q := fun j => !lst (listed.setIfInBounds i true) j) (fun x hx => by simp [lst_set hil, hx]) (by simp [hlf]) (by simp [lst_set hil]) (List.range k) (List.mem_range.2 hik) List.nodup_range
        unfold openOf at hn ⊢
        omega
      · rw [hI.act, hdst]
        have hlf : lst listed i = false := by unfold Listed at hnl; simpa [lst] using hnl
        have := actL_add (ops := ops) (vals := vals) (vals' := fun j => if j = i then v else vals j) (p := lst listed) (p' := lst (listed.setIfInBounds i true)) (i := i) hlf (by simp [lst_set hil]) (fun j hj => ⟨by simp [lst_set hil, hj], by simp [hj]⟩)
          (List.range k) a0 (List.mem_range.2 hik) List.nodup_range (fun j hj hji d hd => hok.dst i j hik (List.mem_range.1 hj) (Ne.symm hji) d hd)
        rw [this]
        simp
      · intro j hj hl
        by_cases hji : j = i
        · subst hji; simpa using hv
        · have hl' : Listed listed j := by
            unfold Listed at hl ⊢
            have := lst_set (j := j) hil
            simp only [lst, hji, decide_false, Bool.false_or] at this
            rw [this] at hl
            exact hl
          simp only [hji, if_false]
          exact (spec_op hok h vals hI.may hj (Array.getElem?_eq_getElem (by have := hok.le; omega))).1 _ _ _ (hI.had j hj hl') hb
      · intro j hj
        by_cases hji : j = i
        · subst hji; exact ⟨⟨w', hkin⟩, by simpa using hv⟩
        · simp only [hji, if_false]; exact hI.may j hj
      · intro j oj hoj hl e he hbe
        have hs := fun m => lst_set (listed := listed) (i := i) (j := m) hil
        unfold lst at hs
        unfold Listed at hl ⊢
        rw [hs] at hl ⊢
        by_cases hji : j = i
        · subst hji
          rw [ho] at hoj
          cases hoj
          have := hdep e he hbe
          unfold Listed at this
          simp [this]
        · simp only [hji, decide_false, Bool.false_or] at hl
          have := hI.closed j oj hoj hl e he hbe
          unfold Listed at this
          simp [this]
      · intro j hj hl
        have hji : ¬ j = i := by omega
        unfold Listed at hl
        have hs := lst_set (listed := listed) (i := i) (j := j) hil
        unfold lst at hs
        rw [hs] at hl
        simp only [hji, decide_false, Bool.false_or] at hl
        exact hI.none j hj hl
      · intro j hj hl h1
        by_cases hji : j = i
        · subst hji
          obtain ⟨e1, e2⟩ := hal h1
          exact ⟨w.heap.size, by simp only [if_true]; exact e1, e2⟩
        · obtain ⟨g, e1, e2⟩ := hA.alo j hj (lst_back hil hji hl) h1
          exact ⟨g, by simp only [hji, if_false]; exact e1, Nat.lt_of_lt_of_le e2 hb.size⟩
      · intro j m hj hm hjm hlj hlm h1 h2
        by_cases hji : j = i
        · subst hji
          have hmj : ¬ m = j := fun e => hjm e.symm
          obtain ⟨e1, _⟩ := hal h1
          obtain ⟨g, e3, e4⟩ := hA.alo m hm (lst_back hil hmj hlm) h2
          simp only [if_true, hmj, if_false]
          rw [e1, e3]
          exact ptr_ne (by omega)
        · by_cases hmi : m = i
          · subst hmi
            obtain ⟨e1, _⟩ := hal h2
            obtain ⟨g, e3, e4⟩ := hA.alo j hj (lst_back hil hji hlj) h1
            simp only [if_true, hji, if_false]
            rw [e1, e3]
            exact ptr_ne (by omega)
          · simp only [hji, hmi, if_false]
            exact hA.ne j m hj hm hjm (lst_back hil hji hlj) (lst_back hil hmi hlm) h1 h2
    obtain ⟨hst, hop⟩ := spec_op hok h vals hI.may hik ho
    unfold wpOp
    simp only [ho]
    rw [wanted_same hlook]
    rcases hop with ⟨hw, hg⟩ | ⟨hw, hu⟩
    · rw [if_pos hw]
      refine .inl (wp_of_givesA (V := (spAt Vs i).sp) ?_ (fun v w' hb hv hal => hgo v w' hb hv hst (fun hq => hal (isAl_op ho hq))))
      have := hg ⟨w, hI.kin⟩ (fun f hf hwb => by
        obtain ⟨h1, h2⟩ := factsAt_mem hf
        rw [h2]
        exact hI.had _ (by omega) (wb_ready hI.closed ho hdep hwb))
      unfold gives at this ⊢
      rw [exec_same (fun cs b => hok.sel i o cs b ho) hlook]
      exact this
    · rw [if_neg (by rw [hw]; exact Bool.false_ne_true)]
      exact hgo undef w (Below.refl _ _) (hu w) hst (fun hq => absurd hw (by rw [hal0 i o ho hq _]; exact fun h => Bool.noConfusion h))
/-- The rule. -/
theorem wp_region_specA {id : Nat} {Q' : Exit → Act → World → Prop} {w : World} (k : Nat) (Vs : List SpE) (hm : P.follows .mixedOrders = true) (hB : regB ops (mskOf ops) k = true) (hAl : alB ops = true)
    (h : SpecW P ops (mskOf ops) w.drew (fun a w => AlNe ops k a → wpAny P .any ops Q' (ops.size - k) (listK ops.size k) a w) 0 (ops.toList.take k) [] a0 Vs) : (Code.region id ops true).wp P Q' a0 w := by
  have hok := regB_spec hB
  have hvs : ∀ j, j < k → ∃ v, ∃ x : Kin w.drew, (spAt Vs j).sp v x.world := fun j hj => spec_may _ _ _ _ _ h j (by rw [List.length_take]; have := hok.le; simp; omega)
  refine wp_region_any hm ?_
  obtain ⟨vals, hvals⟩ : ∃ vals : Nat → Value, ∀ j, j < k → ∃ x : Kin w.drew, (spAt Vs j).sp (vals j) x.world := by
    refine ⟨fun j => if hj : j < k then (hvs j hj).choose else undef, fun j hj => ?_⟩
    simp only [hj, dif_pos]
    exact (hvs j hj).choose_spec
  have h0 : ∀ j, ¬ Listed (Array.replicate ops.size false) j := fun j hl => by
    unfold Listed at hl
    rw [Array.getD_eq_getD_getElem?, Array.getElem?_replicate] at hl
    split at hl <;> simp at hl
  have := any_of_specA (Q' := Q') hok (wanted_al hAl) h k vals (Array.replicate ops.size false) a0 w.drew ?_ ⟨?_, Below.refl _ _, fun j _ hl => absurd hl (h0 j), hvals, fun j o _ hl => absurd hl (h0 j), by simp, fun j _ => h0 j⟩ ⟨fun j _ hl => absurd hl (h0 j), fun i j _ _ _ hl => absurd hl (h0 i)⟩
  · rw [show k + (ops.size - k) = ops.size by have := hok.le; omega] at this
    exact this
  · unfold openOf
    rw [List.filter_eq_self.2 (fun j _ => by have := h0 j; unfold Listed at this; simpa [lst] using this), List.length_range]
  · have : ∀ (l : List Nat) (a : Act), actL ops vals (lst (Array.replicate ops.size false)) l a = a := by
      intro l
      induction l with
      | nil => intro a; rfl
      | cons j l ih =>
        intro a
        unfold actL
        have : lst (Array.replicate ops.size false) j = false := by have := h0 j; unfold Listed at this; simpa [lst] using this
        rw [this]
        exact ih a
    exact (this _ _).symm
theorem wp_region_specLA {l : List Oper} {id : Nat} {Q' : Exit → Act → World → Prop} {w : World} (k : Nat) (Vs : List SpE) (hm : P.follows .mixedOrders = true) (hB : regB l.toArray (mskOf l.toArray) k = true) (hAl : alB l.toArray = true)
    (h : SpecW P l.toArray (mskOf l.toArray) w.drew (fun a w => AlNe l.toArray k a → wpAny P .any l.toArray Q' (l.length - k) (listK l.length k) a w) 0 (l.take k) [] a0 Vs) : (Code.region id l.toArray true).wp P Q' a0 w :=
  wp_region_specA k Vs hm hB hAl (by simpa using h)
end
end Go.Proofs.Ytejhjpdcodloaaa.Base
