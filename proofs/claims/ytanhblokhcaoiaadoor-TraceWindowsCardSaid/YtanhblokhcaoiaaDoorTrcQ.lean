/- How many modules and windows there are of events, at most; events put behind one another; no condition. -/
import Derived.Test.YtanhblokhcaoiaaDoorTrcP
import Derived.Deep.AppendSrc
namespace Go.Proofs.YtanhblokhcaoiaaDoor.Tr
open Go.ChangeShapes Go.WideShapes Go.ChangeAt Go.RowKit Base Go.Maps
open Hl (Ev TE TI EvsAt evL evC)
set_option linter.unusedVariables false
set_option linter.unusedSimpArgs false

def sumP (p : Pw) : Nat := p.ss.length + p.ts.length + p.ms.length
def sumL (ps : List Pw) : Nat := (ps.map sumP).sum
def cntM (ls : List EW) : Nat := (ls.filter (fun a => isM a.1.k)).length
theorem sumL_snoc (ps : List Pw) (p : Pw) : sumL (ps ++ [p]) = sumL ps + sumP p := by simp [sumL]
theorem sumL_next {ps : List Pw} {k : Nat} {p : Pw} (h : ps[k]? = some p) : sumL (ps.take (k + 1)) = sumL (ps.take k) + sumP p := by rw [List.take_add_one, h]; exact sumL_snoc _ _
theorem sumL_set : ∀ {ps : List Pw} {j : Nat} {p q : Pw}, ps[j]? = some p → sumL (ps.set j q) + sumP p = sumL ps + sumP q
  | [], j, p, q, h => by simp at h
  | z :: r, 0, p, q, h => by
    simp at h
    subst h
    simp [sumL]
    omega
  | z :: r, j + 1, p, q, h => by
    have := @sumL_set r j p q (by simpa using h)
    simp only [sumL, List.set_cons_succ, List.map_cons, List.sum_cons] at this ⊢
    omega
theorem cntM_next {ls : List EW} {k : Nat} {a : EW} (h : ls[k]? = some a) : cntM (ls.take (k + 1)) = cntM (ls.take k) + (if isM a.1.k = true then 1 else 0) := by
  unfold cntM
  rw [List.take_add_one, h, List.filter_append, List.length_append]
  by_cases e : isM a.1.k = true <;> simp [e]
theorem cntM_le (ls : List EW) : cntM ls ≤ ls.length := List.length_filter_le _ _
theorem isM_iff (k : Int) : isM k = true ↔ 1 ≤ k ∧ k ≤ 3 := by
  unfold isM
  simp
  omega
theorem ins_pos (l : List Int) (x : Int) : 1 ≤ (ins l x).length := by
  unfold ins
  split
  · rename_i h
    have h : x ∈ l := by simpa using h
    exact List.length_pos_of_mem h
  · rw [insL_len l _ x (pos_le l x)]
    omega
theorem takeP_sum {p : Pw} {e : Ev} {vs : List Nat} (h : isM e.k = true) : 1 ≤ sumP (takeP p e vs) ∧ sumP (takeP p e vs) ≤ sumP p + 1 := by
  have h := (isM_iff e.k).1 h
  have a1 := ins_len p.ss e.m
  have a2 := ins_len p.ts e.m
  have a3 := ins_len p.ms e.m
  have b1 := ins_pos p.ss e.m
  have b2 := ins_pos p.ts e.m
  have b3 := ins_pos p.ms e.m
  unfold takeP
  split
  · simp only [sumP]; omega
  · split
    · simp only [sumP]; omega
    · split
      · split
        · simp only [sumP]; omega
        · simp only [sumP]; omega
      · omega
theorem run_sum {ls : List EW} (hO : ∀ a ∈ ls, isM a.1.k = true → EvOk a.1) : ∀ k, k ≤ ls.length → (∀ p ∈ (runP (ls.take k)).2, 1 ≤ sumP p) ∧ sumL (runP (ls.take k)).2 ≤ cntM (ls.take k) ∧ (runP (ls.take k)).2.length ≤ cntM (ls.take k)
  | 0, _ => ⟨fun p hp => by (simp [runP] at hp), Nat.zero_le _, Nat.zero_le _⟩
  | k + 1, hk => by
    have hx : ls[k]? = some ls[k] := List.getElem?_eq_getElem (by omega)
    obtain ⟨h1, h2, h3⟩ := run_sum hO k (by omega)
    have hI := inv_run hO k (by omega)
    rw [runP_next hx, cntM_next hx]
    obtain ⟨⟨fs, ps⟩, hz⟩ : ∃ z, runP (ls.take k) = z := ⟨_, rfl⟩
    rw [hz] at h1 h2 h3 hI ⊢
    obtain ⟨⟨e, vs⟩, ha⟩ : ∃ a, ls[k] = a := ⟨_, rfl⟩
    rw [ha]
    simp only at h1 h2 h3
    cases hm : isM e.k with
    | false =>
      rw [stp_not hm]
      exact ⟨h1, h2, h3⟩
    | true =>
      obtain ⟨p, hp, _, _⟩ := add_at hI e
      rw [stp_msg hm hp]
      obtain ⟨t1, t2⟩ := takeP_sum (p := p) (vs := vs) hm
      have hs := sumL_set (q := takeP p e vs) hp
      simp only [if_true]
      rcases @num_lt fs e with ⟨m1, m2⟩ | ⟨j, m1, m2, m3⟩
      · have hb : bg fs e = true := by unfold bg; rw [m1]; rfl
        have hw : (wn fs e).toNat = ps.length := by unfold wn; rw [if_pos m1, Int.toNat_natCast]; exact hI.1.symm
        have hA : addP fs ps e = ps ++ [P0 e] := by unfold addP; rw [if_pos hb]
        rw [hA, sumL_snoc] at hs
        have h0 : sumP (P0 e) = 0 := rfl
        refine ⟨fun q hq => ?_, by show sumL ((addP fs ps e).set _ _) ≤ _; rw [hA]; omega, ?_⟩
        · rw [hA, hw] at hq
          have : (ps ++ [P0 e]).set ps.length (takeP p e vs) = ps ++ [takeP p e vs] := by
            rw [List.set_append_right _ _ (Nat.le_refl _), Nat.sub_self]
            rfl
          rw [this] at hq
          rcases List.mem_append.1 hq with hq | hq
          · exact h1 q hq
          · simp at hq; rw [hq]; exact t1
        · rw [List.length_set, hA, List.length_append]
          simp
          omega
      · have hj : ¬ ((j : Int) = -1) := by omega
        have hb : ¬ bg fs e = true := by unfold bg; rw [m1]; simp [hj]
        have hA : addP fs ps e = ps := by unfold addP; rw [if_neg hb]
        rw [hA] at hs hp
        have hpp := h1 p (List.mem_of_getElem? hp)
        refine ⟨fun q hq => ?_, by show sumL ((addP fs ps e).set _ _) ≤ _; rw [hA]; omega, by rw [List.length_set, hA]; omega⟩
        rw [hA] at hq
        rcases List.mem_or_eq_of_mem_set hq with hq | rfl
        · exact h1 q hq
        · exact t1
theorem runP_more (ls : List EW) (a : EW) (h : isM a.1.k = false) : runP (ls ++ [a]) = runP ls := by
  unfold runP
  rw [List.foldl_append]
  exact stp_not h
theorem cnt_all (ls : List EW) : Hl.cnt 1 (ls.map (·.1)) + Hl.cnt 2 (ls.map (·.1)) + Hl.cnt 3 (ls.map (·.1)) = cntM ls := by
  induction ls with
  | nil => rfl
  | cons a r ih =>
    unfold Hl.cnt cntM at *
    simp only [List.map_cons, List.filter_cons]
    have hM := isM_iff a.1.k
    by_cases h1 : a.1.k = 1
    · have : isM a.1.k = true := hM.2 (by omega)
      simp [h1, this] at ih ⊢
      simp [show isM 1 = true from rfl]
      omega
    · by_cases h2 : a.1.k = 2
      · simp [h2] at ih ⊢
        simp [show isM 2 = true from rfl]
        omega
      · by_cases h3 : a.1.k = 3
        · simp [h3] at ih ⊢
          simp [show isM 3 = true from rfl]
          omega
        · have hf : isM a.1.k = false := by
            cases e : isM a.1.k with
            | false => rfl
            | true => have := hM.1 e; omega
          simp [h1, h2, h3, hf] at ih ⊢
          omega

/-! ### Events put into a new list -/

theorem info_ev : (Tryd.prog.info? TE).map (fun i => (i.zero, i.size, i.bytes)) = some (some (.agg #[.int .i64 0, .int .i64 0, .int .i64 0, .int .i64 0, .int .i64 0, .int .i64 0, .int .i64 0, .slice none 0 0]), 8, 80) := by kernel_rfl
theorem evC_len : ∀ l : List Ev, (evC l).length = l.length * 8
  | [] => rfl
  | x :: r => by
    show (evL x ++ evC r).length = _
    rw [List.length_append, evC_len r]
    simp [evL]
    omega
theorem evC_one (l : List Ev) : ∀ u ∈ evC l, u.oneCell' = true := by
  intro u hu
  unfold evC at hu
  rw [List.mem_flatten] at hu
  obtain ⟨r, hr, hu⟩ := hu
  obtain ⟨x, _, rfl⟩ := List.mem_map.1 hr
  exact Hl.one_evL x u hu
def Z0 (s : Nat) : Sp := fun v w => ∃ g, v = .slice (some ⟨g, 0, none⟩) 0 0 ∧ s ≤ g ∧ Obj1 w g TE #[]
theorem Z0.stable (s : Nat) : Stable (Z0 s) := fun v a b ⟨g, e, h, hl⟩ hb => ⟨g, e, h, hl.kept hb⟩
theorem Z0.new {s : Nat} {x : World} (h : s ≤ x.heap.size) : Z0 s (.slice (some ⟨x.heap.size, 0, none⟩) 0 0) (x.alloc (.cells #[] TE)) := ⟨_, rfl, h, Obj1.new _ _ _⟩
def Row8 (base n : Nat) (xs : List Value) : Sp := fun v w => w.ownsRow base TE 8 v n xs
theorem Row8.stable (base n : Nat) (xs : List Value) : Stable (Row8 base n xs) := fun v a b h hb => own_kept h hb
theorem append_new {u : World} {base : Nat} {v : Value} {A : Option Addr} {n c : Nat} {es : List Ev} (h0 : Z0 base v u) (hE : EvsAt u A n es) (hn : n ≤ 1000) (hb : base ≤ u.heap.size) (ty : TypeId) :
    ∃ v' u', (Builtin.append_ #[39, 39] ty #[v, .slice A n c]).run Tryd.prog u = .ok v' u' ∧ Below u.heap.size u u' ∧ Row8 base n (evC es) v' u' := by
  obtain ⟨i0, hi, hz0, hz1, hz2⟩ := info_three info_ev
  obtain ⟨g, rfl, hg, hO⟩ := h0
  rcases Nat.eq_zero_or_pos n with h | h
  · subst h
    obtain rfl : es = [] := List.eq_nil_of_length_eq_zero hE.len
    have hs : Src Tryd.prog i0.size 39 (.slice A 0 c) 0 [] u := by
      cases A with
      | none => exact Src.ofNil u Tryd.underlying39 c
      | some ad => exact Src.ofSlice u Tryd.underlying39 ad 0 c [] (by simp) (fun j w hj => by simp at hj) (fun w hw => by cases hw)
    refine ⟨_, _, run_append_room_src u 39 39 ty TE i0 Tryd.underlying39 hi g 0 0 0 (.slice A 0 c) 0 [] hs (by omega) (fun j hj => by simp at hj) (fun j hj => by simp at hj), Below.refl _ _, ?_⟩
    exact ⟨rfl, .inr ⟨g, 0, #[], rfl, hg, hO, Nat.le_refl _, Nat.zero_le _, rfl, rfl⟩⟩
  · obtain ⟨b, off, rfl, hlt, hc⟩ := hE.at' h
    have hl : (evC es).length = n * 8 := by rw [evC_len, hE.len]
    have hs : Src Tryd.prog i0.size 39 (.slice (some ⟨b, off, none⟩) n c) n (evC es) u := Src.ofSlice u Tryd.underlying39 ⟨b, off, none⟩ n c (evC es) (by rw [hz1]; exact hl) (fun j w hj => by
      have hj8 : j < n * 8 := by have := (List.getElem?_eq_some_iff.1 hj).1; omega
      have hjd : j / 8 < es.length := by rw [hE.len]; omega
      have h1 := hc (j / 8) _ (List.getElem?_eq_getElem hjd) (j % 8) (by omega)
      have h2 := Hl.evC_at es (j / 8) (j % 8) _ (List.getElem?_eq_getElem hjd) (by omega)
      rw [show j / 8 * 8 + j % 8 = j by omega] at h2
      rw [add_eq, show off + j = off + j / 8 * 8 + j % 8 by omega, h1, ← h2]
      exact hj) (evC_one es)
    have hold : (Builtin.firstCells i0.size 0 (.slice (some ⟨g, 0, none⟩) 0 0)).run Tryd.prog u.drew = .ok ([] : List Value).toArray u.drew := by
      rw [hz1]
      exact run_firstCells_some u.drew 8 0 ⟨g, 0, none⟩ 0 0 [] (by simp) (fun j w hj => by simp at hj)
    have hns : Builtin.nextslicecap (0 + n) 0 * i0.bytes ≤ 281474976710656 := by
      rw [hz2]
      exact growslice_fits (by omega) (by omega)
    have hcg := grownCap_ge u (0 + n) 0 TE
    have hcl := grownCap_le_maxLen u (0 + n) 0 TE (by unfold maxLen; omega)
    refine ⟨_, _, run_append_grow_src u 39 39 ty TE i0 _ Tryd.underlying39 hi hz0 (some ⟨g, 0, none⟩) 0 0 [] hold (.slice (some ⟨b, off, none⟩) n c) n (evC es) hs (by omega) (by omega) hns, (bel_drew u).trans (show Below u.heap.size u.drew _ from bel_new u.drew _), ?_⟩
    generalize grownCap u (0 + n) 0 TE = C at hcg hcl ⊢
    refine ⟨hl, .inr ⟨u.heap.size, C, _, by rw [Nat.zero_add], hb, Obj1.new _ _ _, by omega, hcl, ?_, ?_⟩⟩
    · rw [Array.size_append, size_zeroCells]
      simp [Value.cells, hl]
      omega
    · rw [List.nil_append, Array.toList_append, List.take_append_of_le_length (by simp [hl])]
      simp [← hl]
theorem gives_app {u : World} {o : Oper} {a : Act} {base : Nat} {v : Value} {A : Option Addr} {n c : Nat} {es : List Ev} (s x : Operand) (ho : o.op = .call { callee := .builtin .append, args := #[s, x], argTypes := #[39, 39] }) (hs : a.eval s = v) (hx : a.eval x = .slice A n c)
    (h0 : Z0 base v u) (hE : EvsAt u A n es) (hn : n ≤ 1000) (hb : base ≤ u.heap.size) : gives Tryd.prog o a u (Row8 base n (evC es)) := by
  obtain ⟨v', u', hr, h1, h2⟩ := append_new (c := c) h0 hE hn hb o.type
  refine gives_ok (w' := u') (v := v') ?_ h1 h2
  unfold execOp
  simp only [ho, resolve, invoke, builtin, Sem.run_bind, Sem.run_pure, Result.andThen_ok, List.map_toArray, List.map_cons, List.map_nil, hs, hx, hr]
end Go.Proofs.YtanhblokhcaoiaaDoor.Tr
