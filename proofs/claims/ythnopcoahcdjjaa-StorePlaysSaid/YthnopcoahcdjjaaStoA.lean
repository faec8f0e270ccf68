/- What package store's object holds, and the contracts of New, is, why, Good, Age; no condition. -/
import Derived.Test.YthnopcoahcdjjaaObj
import Derived.Test.YthnopcoahcdjjaaSh
import Derived.StillTailTactics
import Derived.Deep.MidRow
import Derived.Laws.CopyOwn
import Derived.Deep.RegionHeld3
import Derived.Deep.CutRange
import Derived.Deep.RegionWith
import Derived.Outline
namespace Go.Proofs.Ythnopcoahcdjjaa.Ly13
open Go.ChangeShapes Go.WideShapes Go.ChangeAt Go.RowKit Base
set_option linter.unusedVariables false
set_option linter.unusedSimpArgs false

def SC (cs : Array Value) (wd : Nat → Int) (gd : Nat → Bool) (ag : Nat → Int) : Prop :=
  cs.size = 193 ∧ cs[0]? = some (.bool true) ∧ (∀ i, i < 64 → cs[1 + i]? = some (.int .u8 (wd i))) ∧ (∀ i, i < 64 → cs[65 + i]? = some (.bool (gd i))) ∧ ∀ i, i < 64 → cs[129 + i]? = some (.int .i64 (ag i))
/-- Block b is a store that New made, with such words. -/
def Sto (w : World) (b : Nat) (wd : Nat → Int) (gd : Nat → Bool) (ag : Nat → Int) : Prop := ∃ cs, Obj1 w b 85 cs ∧ SC cs wd gd ag
def upd {α : Type} (f : Nat → α) (i : Nat) (v : α) : Nat → α := fun k => if k = i then v else f k

theorem SC.setGood {cs : Array Value} {wd : Nat → Int} {gd : Nat → Bool} {ag : Nat → Int} (h : SC cs wd gd ag) (i : Nat) (hi : i < 64) (v : Bool) : SC (cs.setIfInBounds (65 + i) (.bool v)) wd (upd gd i v) ag := by
  obtain ⟨h1, h2, h3, h4, h5⟩ := h
  refine ⟨by simp [h1], ?_, fun k hk => ?_, fun k hk => ?_, fun k hk => ?_⟩
  · rw [Array.getElem?_setIfInBounds, if_neg (by omega)]; exact h2
  · rw [Array.getElem?_setIfInBounds, if_neg (by omega)]; exact h3 k hk
  · rw [Array.getElem?_setIfInBounds]
    unfold upd
    by_cases e : k = i
    · subst e; rw [if_pos rfl, if_pos (by omega), if_pos rfl]
    · rw [if_neg (by omega), if_neg e]; exact h4 k hk
  · rw [Array.getElem?_setIfInBounds, if_neg (by omega)]; exact h5 k hk
theorem SC.setAge {cs : Array Value} {wd : Nat → Int} {gd : Nat → Bool} {ag : Nat → Int} (h : SC cs wd gd ag) (i : Nat) (hi : i < 64) (v : Int) : SC (cs.setIfInBounds (129 + i) (.int .i64 v)) wd gd (upd ag i v) := by
  obtain ⟨h1, h2, h3, h4, h5⟩ := h
  refine ⟨by simp [h1], ?_, fun k hk => ?_, fun k hk => ?_, fun k hk => ?_⟩
  · rw [Array.getElem?_setIfInBounds, if_neg (by omega)]; exact h2
  · rw [Array.getElem?_setIfInBounds, if_neg (by omega)]; exact h3 k hk
  · rw [Array.getElem?_setIfInBounds, if_neg (by omega)]; exact h4 k hk
  · rw [Array.getElem?_setIfInBounds]
    unfold upd
    by_cases e : k = i
    · subst e; rw [if_pos rfl, if_pos (by omega), if_pos rfl]
    · rw [if_neg (by omega), if_neg e]; exact h5 k hk

theorem Sto.lt {w : World} {b : Nat} {wd : Nat → Int} {gd : Nat → Bool} {ag : Nat → Int} (h : Sto w b wd gd ag) : b < w.heap.size := by obtain ⟨cs, o, _⟩ := h; exact o.lt
theorem Sto.free {w : World} {b : Nat} {wd : Nat → Int} {gd : Nat → Bool} {ag : Nat → Int} (h : Sto w b wd gd ag) (i : Nat) : w.frozen? ⟨b, i, none⟩ = false := by obtain ⟨cs, o, _⟩ := h; exact o.free i
theorem Sto.made {w : World} {b : Nat} {wd : Nat → Int} {gd : Nat → Bool} {ag : Nat → Int} (h : Sto w b wd gd ag) : w.cell? ⟨b, 0, none⟩ = some (.bool true) := by obtain ⟨cs, o, s⟩ := h; exact (o.cell 0).trans s.2.1
theorem Sto.word {w : World} {b : Nat} {wd : Nat → Int} {gd : Nat → Bool} {ag : Nat → Int} (h : Sto w b wd gd ag) (i : Nat) (hi : i < 64) : w.cell? ⟨b, 1 + i, none⟩ = some (.int .u8 (wd i)) := by obtain ⟨cs, o, s⟩ := h; exact (o.cell _).trans (s.2.2.1 i hi)
theorem Sto.good {w : World} {b : Nat} {wd : Nat → Int} {gd : Nat → Bool} {ag : Nat → Int} (h : Sto w b wd gd ag) (i : Nat) (hi : i < 64) : w.cell? ⟨b, 65 + i, none⟩ = some (.bool (gd i)) := by obtain ⟨cs, o, s⟩ := h; exact (o.cell _).trans (s.2.2.2.1 i hi)
theorem Sto.age {w : World} {b : Nat} {wd : Nat → Int} {gd : Nat → Bool} {ag : Nat → Int} (h : Sto w b wd gd ag) (i : Nat) (hi : i < 64) : w.cell? ⟨b, 129 + i, none⟩ = some (.int .i64 (ag i)) := by obtain ⟨cs, o, s⟩ := h; exact (o.cell _).trans (s.2.2.2.2 i hi)
theorem Sto.setGood {w : World} {b : Nat} {wd : Nat → Int} {gd : Nat → Bool} {ag : Nat → Int} (h : Sto w b wd gd ag) (i : Nat) (hi : i < 64) (v : Bool) : Sto (w.setCell ⟨b, 65 + i, none⟩ (.bool v)) b wd (upd gd i v) ag := by obtain ⟨cs, o, s⟩ := h; exact ⟨_, o.set _ _, s.setGood i hi v⟩
theorem Sto.setAge {w : World} {b : Nat} {wd : Nat → Int} {gd : Nat → Bool} {ag : Nat → Int} (h : Sto w b wd gd ag) (i : Nat) (hi : i < 64) (v : Int) : Sto (w.setCell ⟨b, 129 + i, none⟩ (.int .i64 v)) b wd gd (upd ag i v) := by obtain ⟨cs, o, s⟩ := h; exact ⟨_, o.set _ _, s.setAge i hi v⟩
theorem Sto.drew {w : World} {b : Nat} {wd : Nat → Int} {gd : Nat → Bool} {ag : Nat → Int} (h : Sto w b wd gd ag) : Sto w.drew b wd gd ag := h
theorem Sto.drewN {w : World} {b : Nat} {wd : Nat → Int} {gd : Nat → Bool} {ag : Nat → Int} (h : Sto w b wd gd ag) (n : Nat) : Sto (w.drewN n) b wd gd ag := h
theorem Sto.kept {w w' : World} {b : Nat} {wd : Nat → Int} {gd : Nat → Bool} {ag : Nat → Int} (h : Sto w b wd gd ag) (hb : Below w.heap.size w w') : Sto w' b wd gd ag := by obtain ⟨cs, o, s⟩ := h; exact ⟨cs, o.kept hb, s⟩
theorem Sto.below {w w' : World} {b B : Nat} {wd : Nat → Int} {gd : Nat → Bool} {ag : Nat → Int} (h : Sto w b wd gd ag) (hb : Below B w w') (hlt : b < B) : Sto w' b wd gd ag := by obtain ⟨cs, o, s⟩ := h; exact ⟨cs, o.below hb hlt, s⟩
theorem Sto.touch {w w' : World} {b g : Nat} {wd : Nat → Int} {gd : Nat → Bool} {ag : Nat → Int} (h : Sto w b wd gd ag) (ht : Wrote g w w') (hne : b ≠ g) : Sto w' b wd gd ag := by obtain ⟨cs, o, s⟩ := h; exact ⟨cs, o.touch ht hne, s⟩
theorem Sto.like {w : World} {b : Nat} {wd wd' : Nat → Int} {gd gd' : Nat → Bool} {ag ag' : Nat → Int} (h : Sto w b wd gd ag) (h1 : ∀ i, i < 64 → wd i = wd' i) (h2 : ∀ i, i < 64 → gd i = gd' i) (h3 : ∀ i, i < 64 → ag i = ag' i) : Sto w b wd' gd' ag' := by
  obtain ⟨cs, o, s1, s2, s3, s4, s5⟩ := h
  exact ⟨cs, o, s1, s2, fun i hi => by rw [← h1 i hi]; exact s3 i hi, fun i hi => by rw [← h2 i hi]; exact s4 i hi, fun i hi => by rw [← h3 i hi]; exact s5 i hi⟩

def newCells : Array Value := #[.bool true] ++ (Array.replicate 64 (Value.int .u8 0) ++ (Array.replicate 64 (Value.bool false) ++ Array.replicate 64 (Value.int .i64 0)))
theorem newCells_sc : SC newCells (fun _ => 0) (fun _ => false) (fun _ => 0) := by
  refine ⟨by simp [newCells], by simp [newCells], fun i hi => ?_, fun i hi => ?_, fun i hi => ?_⟩
  · unfold newCells
    rw [Array.getElem?_append_right (by simp <;> omega), Array.getElem?_append_left (by simp <;> omega), Array.getElem?_replicate, if_pos (by simp <;> omega)]
  · unfold newCells
    rw [Array.getElem?_append_right (by simp <;> omega), Array.getElem?_append_right (by simp <;> omega), Array.getElem?_append_left (by simp <;> omega), Array.getElem?_replicate, if_pos (by simp <;> omega)]
  · unfold newCells
    rw [Array.getElem?_append_right (by simp <;> omega), Array.getElem?_append_right (by simp <;> omega), Array.getElem?_append_right (by simp <;> omega), Array.getElem?_replicate, if_pos (by simp <;> omega)]
theorem wpList_built {P : Program} {ops : Array Oper} {rest : List Oper} {o : Oper} {a : Act} {w : World} {Q : Exit → Act → World → Prop} (hg : o.guard = none) (t : TypeId) (parts : Array (Nat × Operand)) (ho : o.op = .build t parts)
    (ps : List (Nat × Value)) (hp : (parts.map fun (i, x) => (i, a.eval x)).toList = ps) (cells : Array Value) (hc : P.built t ps = some cells)
    (h : wpList P ops Q rest (a.put o.dst (.agg cells)) w) : wpList P ops Q (o :: rest) a w := by
  subst hp
  exact wpList_build hg t parts ho (by rw [hc]; rfl) (by rw [hc]; exact h)
theorem built_new : Try.prog.built 85 [(0, .bool true)] = some newCells := by kernel_rfl

set_option maxHeartbeats 1000000 in
theorem new_any (w : World) : Calls Try.prog 35 #[] w fun e w' => e = .returned (.pointer (some ⟨w.heap.size, 0, none⟩)) ∧ Sto w' w.heap.size (fun _ => 0) (fun _ => false) (fun _ => 0) ∧ Below w.heap.size w w' := by
  have HN := Lib.hid newCells_sc
  go_enter Try.func35, Try.ntmps35
  go_wp2_with (refine wpList_built rfl 85 _ rfl [(0, .bool true)] (by simp [Act.eval]) newCells built_new ?_; generalize newCells = nc at HN ⊢)
  go_ret
  exact ⟨rfl, ⟨nc, Obj1.new _ _ _, HN.out⟩, (Below.refl _ _).alloc (Nat.le_refl _) _⟩

theorem is_yes (b : Nat) (w : World) (h : w.cell? ⟨b, 0, none⟩ = some (.bool true)) : Calls Try.prog 57 #[.pointer (some ⟨b, 0, none⟩)] w fun e w' => e = .returned (.bool true) ∧ w = w' := by
  go_enter Try.func57, Try.ntmps57
  go_wp2
  go_ret
  exact ⟨rfl, rfl⟩
theorem why_ok (b : Nat) (a n : Int) (w : World) (h : w.cell? ⟨b, 0, none⟩ = some (.bool true)) (a0 : 0 ≤ a) (n0 : 1 ≤ n) (h64 : a + n ≤ 64) : Calls Try.prog 56 #[.pointer (some ⟨b, 0, none⟩), .int .i64 a, .int .i64 n] w fun e w' => e = .returned (.int .i64 0) ∧ w = w' := by
  go_enter Try.func56, Try.ntmps56
  go_wp2_with (first | (go_at_call 57; refine (is_yes _ _ h).mono ?_; rintro e w' ⟨rfl, rfl⟩))
  go_ret
  exact ⟨rfl, rfl⟩
def Rt (a n : Int) : Prop := 0 ≤ a ∧ 1 ≤ n ∧ a + n ≤ 64
instance (a n : Int) : Decidable (Rt a n) := by unfold Rt; infer_instance
theorem why_bad (b : Nat) (a n : Int) (w : World) (h : w.cell? ⟨b, 0, none⟩ = some (.bool true)) (hr : ¬ Rt a n) (a0 : -9223372036854775808 ≤ a) (a1 : a ≤ 9223372036854775807) (n0 : -9223372036854775808 ≤ n) (n1 : n ≤ 9223372036854775807) :
    Calls Try.prog 56 #[.pointer (some ⟨b, 0, none⟩), .int .i64 a, .int .i64 n] w fun e w' => e = .returned (.int .i64 2) ∧ w = w' := by
  unfold Rt at hr
  rcases (show a < 0 ∨ (0 ≤ a ∧ n < 1) ∨ (0 ≤ a ∧ 1 ≤ n ∧ 64 < n) ∨ (0 ≤ a ∧ 1 ≤ n ∧ n ≤ 64 ∧ 64 - n < a) by omega) with g | ⟨g, g1⟩ | ⟨g, g1, g2⟩ | ⟨g, g1, g2, g3⟩
  all_goals
    clear hr
    go_enter Try.func56, Try.ntmps56
    go_wp2_with (first | (go_at_call 57; refine (is_yes _ _ h).mono ?_; rintro e w' ⟨rfl, rfl⟩))
    go_ret
    exact ⟨rfl, rfl⟩
theorem good_in (b a : Nat) (x : Bool) (w : World) (h : w.cell? ⟨b, 0, none⟩ = some (.bool true)) (ha : a < 64) (hx : w.cell? ⟨b, 65 + a, none⟩ = some (.bool x)) :
    Calls Try.prog 40 #[.pointer (some ⟨b, 0, none⟩), .int .i64 a] w fun e w' => e = .returned (.bool x) ∧ w = w' := by
  go_enter Try.func40, Try.ntmps40
  go_wp2_with (first | (go_at_call 56; refine (why_ok _ _ _ _ h (by omega) (by omega) (by omega)).mono ?_; rintro e w' ⟨rfl, rfl⟩))
  go_ret
  exact ⟨rfl, rfl⟩
theorem good_out (b : Nat) (a : Int) (w : World) (h : w.cell? ⟨b, 0, none⟩ = some (.bool true)) (ha : a < 0 ∨ 64 ≤ a) (a0 : -9223372036854775808 ≤ a) (a1 : a ≤ 9223372036854775807) :
    Calls Try.prog 40 #[.pointer (some ⟨b, 0, none⟩), .int .i64 a] w fun e w' => e = .returned (.bool false) ∧ w = w' := by
  have HR : Hid (¬ Rt a 1) := by unfold Rt; show ¬ _; omega
  go_enter Try.func40, Try.ntmps40
  go_wp2_with (first | (go_at_call 56; refine (why_bad _ _ _ _ h HR.out (by omega) (by omega) (by omega) (by omega)).mono ?_; rintro e w' ⟨rfl, rfl⟩))
  go_ret
  exact ⟨rfl, rfl⟩
theorem age_in (b a : Nat) (x : Bool) (y : Int) (w : World) (h : w.cell? ⟨b, 0, none⟩ = some (.bool true)) (ha : a < 64) (hx : w.cell? ⟨b, 65 + a, none⟩ = some (.bool x)) (hy : w.cell? ⟨b, 129 + a, none⟩ = some (.int .i64 y)) :
    Calls Try.prog 41 #[.pointer (some ⟨b, 0, none⟩), .int .i64 a] w fun e w' => e = .returned (.int .i64 (if x = true then y else -1)) ∧ w = w' := by
  cases x
  all_goals
    go_enter Try.func41, Try.ntmps41
    go_wp2_with (first | (go_at_call 40; refine (good_in _ _ _ _ h ha hx).mono ?_; rintro e w' ⟨rfl, rfl⟩))
    go_ret
    exact ⟨rfl, rfl⟩
theorem age_out (b : Nat) (a : Int) (w : World) (h : w.cell? ⟨b, 0, none⟩ = some (.bool true)) (ha : a < 0 ∨ 64 ≤ a) (a0 : -9223372036854775808 ≤ a) (a1 : a ≤ 9223372036854775807) :
    Calls Try.prog 41 #[.pointer (some ⟨b, 0, none⟩), .int .i64 a] w fun e w' => e = .returned (.int .i64 (-1)) ∧ w = w' := by
  go_enter Try.func41, Try.ntmps41
  go_wp2_with (first | (go_at_call 40; refine (good_out _ _ _ h ha a0 a1).mono ?_; rintro e w' ⟨rfl, rfl⟩))
  go_ret
  exact ⟨rfl, rfl⟩
end Go.Proofs.Ythnopcoahcdjjaa.Ly13
