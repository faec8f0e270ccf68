/- Layer 13's own answer beside a store: the cells of places, where a range lies; no condition. -/
import Derived.Test.YthnopcoahcdjjaaStoF
namespace Go.Proofs.Ythnopcoahcdjjaa.Ly13
open Go.ChangeShapes Go.WideShapes Go.ChangeAt Go.RowKit Base
set_option linter.unusedVariables false
set_option linter.unusedSimpArgs false

theorem right_yes (a n : Int) (w : World) (h : Rt a n) : Calls Try.prog 36 #[.int .i64 a, .int .i64 n] w fun e w' => e = .returned (.bool true) ∧ w = w' := by
  obtain ⟨h0, h1, h2⟩ := h
  go_enter Try.func36, Try.ntmps36
  go_wp2
  go_ret
  exact ⟨by first | rfl | (simp; omega), rfl⟩
theorem right_no (a n : Int) (w : World) (hr : ¬ Rt a n) (n0 : -9223372036854775808 ≤ n) (n1 : n ≤ 9223372036854775807) : Calls Try.prog 36 #[.int .i64 a, .int .i64 n] w fun e w' => e = .returned (.bool false) ∧ w = w' := by
  unfold Rt at hr
  rcases (show a < 0 ∨ (0 ≤ a ∧ n < 1) ∨ (0 ≤ a ∧ 1 ≤ n ∧ 64 < n) ∨ (0 ≤ a ∧ 1 ≤ n ∧ n ≤ 64 ∧ 64 - n < a) by omega) with g | ⟨g, g1⟩ | ⟨g, g1, g2⟩ | ⟨g, g1, g2, g3⟩
  all_goals
    clear hr
    go_enter Try.func36, Try.ntmps36
    go_wp2
    go_ret
    exact ⟨by first | rfl | (simp; omega), rfl⟩

abbrev TR : TypeId := 68
def RC (cs : Array Value) (f : Nat → Int) (p : Nat → Bool) (x : Nat → Int) : Prop := cs.size = 192 ∧ ∀ k, k < 64 → cs[k * 3]? = some (.int .u8 (f k)) ∧ cs[k * 3 + 1]? = some (.bool (p k)) ∧ cs[k * 3 + 2]? = some (.int .i64 (x k))
/-- Block b is the document's places. -/
def RS (w : World) (b : Nat) (f : Nat → Int) (p : Nat → Bool) (x : Nat → Int) : Prop := ∃ cs, Obj1 w b TR cs ∧ RC cs f p x
theorem RS.lt {w : World} {b : Nat} {f : Nat → Int} {p : Nat → Bool} {x : Nat → Int} (h : RS w b f p x) : b < w.heap.size := by obtain ⟨cs, o, _⟩ := h; exact o.lt
theorem RS.free {w : World} {b : Nat} {f : Nat → Int} {p : Nat → Bool} {x : Nat → Int} (h : RS w b f p x) (i : Nat) : w.frozen? ⟨b, i, none⟩ = false := by obtain ⟨cs, o, _⟩ := h; exact o.free i
theorem RS.word {w : World} {b : Nat} {f : Nat → Int} {p : Nat → Bool} {x : Nat → Int} (h : RS w b f p x) (k : Nat) (hk : k < 64) : w.cell? ⟨b, k * 3, none⟩ = some (.int .u8 (f k)) := by obtain ⟨cs, o, s⟩ := h; exact (o.cell _).trans (s.2 k hk).1
theorem RS.good {w : World} {b : Nat} {f : Nat → Int} {p : Nat → Bool} {x : Nat → Int} (h : RS w b f p x) (k : Nat) (hk : k < 64) : w.cell? ⟨b, k * 3 + 1, none⟩ = some (.bool (p k)) := by obtain ⟨cs, o, s⟩ := h; exact (o.cell _).trans (s.2 k hk).2.1
theorem RS.age {w : World} {b : Nat} {f : Nat → Int} {p : Nat → Bool} {x : Nat → Int} (h : RS w b f p x) (k : Nat) (hk : k < 64) : w.cell? ⟨b, k * 3 + 2, none⟩ = some (.int .i64 (x k)) := by obtain ⟨cs, o, s⟩ := h; exact (o.cell _).trans (s.2 k hk).2.2
theorem RS.drewN {w : World} {b : Nat} {f : Nat → Int} {p : Nat → Bool} {x : Nat → Int} (h : RS w b f p x) (n : Nat) : RS (w.drewN n) b f p x := h
theorem RS.drew {w : World} {b : Nat} {f : Nat → Int} {p : Nat → Bool} {x : Nat → Int} (h : RS w b f p x) : RS w.drew b f p x := h
theorem RS.kept {w w' : World} {b : Nat} {f : Nat → Int} {p : Nat → Bool} {x : Nat → Int} (h : RS w b f p x) (hb : Below w.heap.size w w') : RS w' b f p x := by obtain ⟨cs, o, s⟩ := h; exact ⟨cs, o.kept hb, s⟩
theorem RS.touch {w w' : World} {b g : Nat} {f : Nat → Int} {p : Nat → Bool} {x : Nat → Int} (h : RS w b f p x) (ht : Wrote g w w') (hne : b ≠ g) : RS w' b f p x := by obtain ⟨cs, o, s⟩ := h; exact ⟨cs, o.touch ht hne, s⟩
theorem RC.set3 {cs : Array Value} {f : Nat → Int} {p : Nat → Bool} {x : Nat → Int} (h : RC cs f p x) (i : Nat) (hi : i < 64) (u : Int) (q : Bool) (y : Int) :
    RC (((cs.setIfInBounds (i * 3) (.int .u8 u)).setIfInBounds (i * 3 + 1) (.bool q)).setIfInBounds (i * 3 + 2) (.int .i64 y)) (upd f i u) (upd p i q) (upd x i y) := by
  obtain ⟨h1, h2⟩ := h
  refine ⟨by simp [h1], fun k hk => ?_⟩
  obtain ⟨a, b, c⟩ := h2 k hk
  unfold upd
  by_cases e : k = i
  · subst e
    rw [if_pos rfl, if_pos rfl, if_pos rfl]
    refine ⟨?_, ?_, ?_⟩
    · rw [Array.getElem?_setIfInBounds_ne (by omega), Array.getElem?_setIfInBounds_ne (by omega), Array.getElem?_setIfInBounds_self_of_lt (by omega)]
    · rw [Array.getElem?_setIfInBounds_ne (by omega), Array.getElem?_setIfInBounds_self_of_lt (by simp; omega)]
    · rw [Array.getElem?_setIfInBounds_self_of_lt (by simp; omega)]
  · rw [if_neg e, if_neg e, if_neg e]
    refine ⟨?_, ?_, ?_⟩
    · rw [Array.getElem?_setIfInBounds_ne (by omega), Array.getElem?_setIfInBounds_ne (by omega), Array.getElem?_setIfInBounds_ne (by omega)]; exact a
    · rw [Array.getElem?_setIfInBounds_ne (by omega), Array.getElem?_setIfInBounds_ne (by omega), Array.getElem?_setIfInBounds_ne (by omega)]; exact b
    · rw [Array.getElem?_setIfInBounds_ne (by omega), Array.getElem?_setIfInBounds_ne (by omega), Array.getElem?_setIfInBounds_ne (by omega)]; exact c
theorem RC.setX {cs : Array Value} {f : Nat → Int} {p : Nat → Bool} {x : Nat → Int} (h : RC cs f p x) (i : Nat) (hi : i < 64) (y : Int) : RC (cs.setIfInBounds (i * 3 + 2) (.int .i64 y)) f p (upd x i y) := by
  obtain ⟨h1, h2⟩ := h
  refine ⟨by simp [h1], fun k hk => ?_⟩
  obtain ⟨a, b, c⟩ := h2 k hk
  unfold upd
  refine ⟨?_, ?_, ?_⟩
  · rw [Array.getElem?_setIfInBounds_ne (by omega)]; exact a
  · rw [Array.getElem?_setIfInBounds_ne (by omega)]; exact b
  · by_cases e : k = i
    · subst e; rw [if_pos rfl, Array.getElem?_setIfInBounds_self_of_lt (by omega)]
    · rw [if_neg e, Array.getElem?_setIfInBounds_ne (by omega)]; exact c
theorem RS.set3 {w : World} {b : Nat} {f : Nat → Int} {p : Nat → Bool} {x : Nat → Int} (h : RS w b f p x) (i : Nat) (hi : i < 64) (u : Int) (q : Bool) (y : Int) :
    RS (((w.setCell ⟨b, i * 3, none⟩ (.int .u8 u)).setCell ⟨b, i * 3 + 1, none⟩ (.bool q)).setCell ⟨b, i * 3 + 2, none⟩ (.int .i64 y)) b (upd f i u) (upd p i q) (upd x i y) := by obtain ⟨cs, o, s⟩ := h; exact ⟨_, ((o.set _ _).set _ _).set _ _, s.set3 i hi u q y⟩
theorem RS.setX {w : World} {b : Nat} {f : Nat → Int} {p : Nat → Bool} {x : Nat → Int} (h : RS w b f p x) (i : Nat) (hi : i < 64) (y : Int) : RS (w.setCell ⟨b, i * 3 + 2, none⟩ (.int .i64 y)) b f p (upd x i y) := by obtain ⟨cs, o, s⟩ := h; exact ⟨_, o.set _ _, s.setX i hi y⟩
theorem wrote3 {b : Nat} {a w : World} (h : Wrote b a w) (i j k : Nat) (u v y : Value) : Wrote b a (((w.setCell ⟨b, i, none⟩ u).setCell ⟨b, j, none⟩ v).setCell ⟨b, k, none⟩ y) :=
  ((h.set (p := ⟨b, i, none⟩) (.inl rfl) _).set (p := ⟨b, j, none⟩) (.inl rfl) _).set (p := ⟨b, k, none⟩) (.inl rfl) _

def okZ (cs : Array Value) : Bool := (List.range 64).all fun k => match cs[k * 3]?, cs[k * 3 + 1]?, cs[k * 3 + 2]? with
  | some (.int .u8 0), some (.bool false), some (.int .i64 0) => true
  | _, _, _ => false
theorem okZ_rc {cs : Array Value} (h : okZ cs = true) (hs : cs.size = 192) : RC cs (fun _ => 0) (fun _ => false) (fun _ => 0) := by
  refine ⟨hs, fun k hk => ?_⟩
  have := List.all_eq_true.1 h k (List.mem_range.2 hk)
  split at this
  · rename_i a b c; exact ⟨a, b, c⟩
  · cases this
theorem info_ref0 : (Try.prog.info? TR).bind (fun i => match i.zero with | some (.agg cs) => some (cs.size, okZ cs) | _ => none) = some (192, true) := by kernel_rfl
theorem info_ref : ∃ i zc, Try.prog.info? TR = some i ∧ i.zero = some (.agg zc) ∧ RC zc (fun _ => 0) (fun _ => false) (fun _ => 0) := by
  obtain ⟨i, hi, h⟩ := Option.bind_eq_some_iff.1 info_ref0
  split at h
  · rename_i cs hz
    simp only [Option.some.injEq, Prod.mk.injEq] at h
    exact ⟨i, cs, hi, hz, okZ_rc h.2 h.1⟩
  · cases h
theorem wpList_allocA {P : Program} {ops : Array Oper} {rest : List Oper} {o : Oper} {a : Act} {w : World} {Q : Exit → Act → World → Prop} (hg : o.guard = none) (e : TypeId) (ho : o.op = .alloc e) {i : TypeInfo} {zc : Array Value} (hi : P.info? e = some i) (hz : i.zero = some (.agg zc))
    (h : wpList P ops Q rest (a.put o.dst (.pointer (some ⟨w.heap.size, 0, none⟩))) (w.alloc (.cells zc e))) : wpList P ops Q (o :: rest) a w := wpList_allocZ hg e ho hi hz h

theorem row4 {w : World} {A : Option Addr} {n : Nat} {rows : List (List Value)} (hg : Grid w A n (Sh.size shA) rows) (hr : ∀ r ∈ rows, Reads w shA r) (k : Nat) (hk : k < n) :
    ∃ (kd a m : Int) (B : Option Addr) (bn bc : Nat) (ws : List Int), ∃ b off, A = some ⟨b, off, none⟩ ∧ b < w.heap.size ∧ w.cell? ⟨b, off + k * 4, none⟩ = some (.int .i64 kd) ∧ w.cell? ⟨b, off + k * 4 + 1, none⟩ = some (.int .i64 a) ∧ w.cell? ⟨b, off + k * 4 + 2, none⟩ = some (.int .i64 m) ∧ w.cell? ⟨b, off + k * 4 + 3, none⟩ = some (.slice B bn bc) ∧
      (-9223372036854775808 ≤ a ∧ a ≤ 9223372036854775807) ∧ (-9223372036854775808 ≤ m ∧ m ≤ 9223372036854775807) ∧ bn ≤ bc ∧ bc ≤ maxLen ∧ Lst w B bn (ws.map (Value.int .u8)) := by
  obtain ⟨b, off, e, hb, hc⟩ := hg.2 (by omega)
  have hkl : k < rows.length := by rw [hg.1]; exact hk
  obtain ⟨kd, a, m, B, bn, bc, ws, er, _, ha, hm, h1, h2, hl, _⟩ := act_of (hr _ (List.getElem_mem hkl))
  have e2 : rows[k]? = some [.int .i64 kd, .int .i64 a, .int .i64 m, .slice B bn bc] := by rw [List.getElem?_eq_getElem hkl, er]
  refine ⟨kd, a, m, B, bn, bc, ws, b, off, e, hb, ?_, ?_, ?_, ?_, ha, hm, h1, h2, hl⟩
  · have := hc k 0 hk (by simp [Sh.size]); rw [e2] at this; simpa [Sh.size] using this
  · have := hc k 1 hk (by simp [Sh.size]); rw [e2] at this; simpa [Nat.add_assoc, Sh.size] using this
  · have := hc k 2 hk (by simp [Sh.size]); rw [e2] at this; simpa [Nat.add_assoc, Sh.size] using this
  · have := hc k 3 hk (by simp [Sh.size]); rw [e2] at this; simpa [Nat.add_assoc, Sh.size] using this
theorem cell_of {w : World} {A : Option Addr} {n : Nat} {ws : List Int} (h : Lst w A n (ws.map (Value.int .u8))) (q : Nat) (hq : q < n) : ∃ b o, A = some ⟨b, o, none⟩ ∧ w.cell? ⟨b, o + q, none⟩ = some (.int .u8 (ws.getD q 0)) := by
  obtain ⟨b, o, e, _, hc⟩ := h.get hq
  have hql : q < ws.length := by have := h.1; simp at this; omega
  refine ⟨b, o, e, ?_⟩
  rw [hc, List.getElem_map, List.getD_eq_getElem?_getD, List.getElem?_eq_getElem hql]
  rfl
theorem ovrW_zero (f : Nat → Int) (a : Nat) : ovrW f a [] = f := by funext k; unfold ovrW; rw [if_neg (by simp <;> omega)]
theorem ovrW_succ (f : Nat → Int) (a j : Nat) (ws : List Int) (hj : j < ws.length) : upd (ovrW f a (ws.take j)) (a + j) (ws.getD j 0) = ovrW f a (ws.take (j + 1)) := by
  funext k
  unfold upd ovrW
  have l1 : (ws.take j).length = j := by simp; omega
  have l2 : (ws.take (j + 1)).length = j + 1 := by simp; omega
  rw [l1, l2]
  by_cases e : k = a + j
  · subst e
    rw [if_pos rfl, if_pos (by omega), show a + j - a = j by omega]
    simp [List.getD_eq_getElem?_getD, List.getElem?_take_of_lt (show j < j + 1 by omega)]
  · rw [if_neg e]
    by_cases g : a ≤ k ∧ k < a + j
    · rw [if_pos g, if_pos (by omega)]
      simp [List.getD_eq_getElem?_getD, List.getElem?_take_of_lt (show k - a < j by omega), List.getElem?_take_of_lt (show k - a < j + 1 by omega)]
    · rw [if_neg g, if_neg (by omega)]
theorem upd_same (f : Nat → Int) (i : Nat) : upd f i (f i) = f := by funext k; unfold upd; split <;> simp_all
def agx (gd : Nat → Bool) (ag : Nat → Int) (j : Nat) : Nat → Int := fun k => if k < j ∧ gd k = true then ag k + 1 else ag k
theorem agx_zero (gd : Nat → Bool) (ag : Nat → Int) : agx gd ag 0 = ag := by funext k; unfold agx; rw [if_neg (by omega)]
theorem agx_on (gd : Nat → Bool) (ag : Nat → Int) (j : Nat) (h : gd j = true) : upd (agx gd ag j) j (ag j + 1) = agx gd ag (j + 1) := by
  funext k
  unfold upd agx
  by_cases e : k = j
  · subst e; rw [if_pos rfl, if_pos ⟨by omega, h⟩]
  · rw [if_neg e]
    by_cases g : k < j ∧ gd k = true
    · rw [if_pos g, if_pos ⟨by omega, g.2⟩]
    · rw [if_neg g, if_neg (fun hh => g ⟨by omega, hh.2⟩)]
theorem agx_off (gd : Nat → Bool) (ag : Nat → Int) (j : Nat) (h : gd j = false) : agx gd ag (j + 1) = agx gd ag j := by
  funext k
  unfold agx
  by_cases e : k = j
  · subst e; rw [if_neg (by rw [h]; simp), if_neg (by rw [h]; simp)]
  · by_cases g : k < j ∧ gd k = true
    · rw [if_pos g, if_pos ⟨by omega, g.2⟩]
    · rw [if_neg g, if_neg (fun hh => g ⟨by omega, hh.2⟩)]
theorem agx_agd (gd : Nat → Bool) (ag : Nat → Int) (h : ∀ k, k < 64 → ag k ≤ 100) (i : Nat) (hi : i < 64) : agd gd ag 64 i = agx gd ag 64 i := by
  unfold agd agx
  have := h i hi
  split
  · omega
  · rfl
end Go.Proofs.Ythnopcoahcdjjaa.Ly13
