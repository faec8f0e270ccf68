/- The contracts of package shift's New at one word, and of a shift of one word as it stands: Bits, is, what its cells hold. -/
import Derived.Test.YtnbcegijncdmaaaDoorObj
import Derived.Test.YtnbcegijncdmaaaDoorBox
import Derived.Test.YtnbcegijncdmaaaDoorRows
import Derived.WalkKit
import Derived.ProofKit
import Derived.OpenShut
import Derived.WalkLawsBesides
import Derived.WalkSpells
import Derived.Lib.Hide
import Derived.Outline
import Derived.Laws.Tables
import Derived.Deep.CutRange
namespace Go.Proofs.YtnbcegijncdmaaaDoor.Ly15
open Go.ChangeShapes Go.WideShapes Go.ChangeAt Go.RowKit Base
set_option linter.unusedVariables false
set_option linter.unusedSimpArgs false

/-- A shift of so many words, as it stands; whether somebody made it. -/
def ShF (w : World) (b : Nat) (m : Bool) (n : Int) (f : Nat → Bool) : Prop :=
  ∃ cs, Obj1 w b 109 cs ∧ cs.size = 1026 ∧ cs[0]? = some (.bool m) ∧ cs[1]? = some (.int .i64 n) ∧ ∀ i, 2 ≤ i → i < 1026 → cs[i]? = some (.bool (f i))
def upd (f : Nat → Bool) (i : Nat) (v : Bool) : Nat → Bool := fun j => if j = i then v else f j
section
variable {w w' : World} {b : Nat} {m : Bool} {n : Int} {f : Nat → Bool}
theorem ShF.at0 (h : ShF w b m n f) : w.cell? ⟨b, 0, none⟩ = some (.bool m) := by
  obtain ⟨cs, h, _, h0, _⟩ := h
  exact (h.cell 0).trans h0
theorem ShF.at1 (h : ShF w b m n f) : w.cell? ⟨b, 1, none⟩ = some (.int .i64 n) := by
  obtain ⟨cs, h, _, _, h1, _⟩ := h
  exact (h.cell 1).trans h1
theorem ShF.more (h : ShF w b m n f) (i : Nat) (h0 : 2 ≤ i) (h1 : i < 1026) : w.cell? ⟨b, i, none⟩ = some (.bool (f i)) := by
  obtain ⟨cs, h, _, _, _, hi⟩ := h
  exact (h.cell i).trans (hi i h0 h1)
theorem ShF.free (h : ShF w b m n f) (i : Nat) : w.frozen? ⟨b, i, none⟩ = false := by
  obtain ⟨cs, h, _⟩ := h
  exact h.free i
theorem ShF.lt (h : ShF w b m n f) : b < w.heap.size := by
  obtain ⟨cs, h, _⟩ := h
  exact h.lt
theorem ShF.kept (h : ShF w b m n f) (hb : Below w.heap.size w w') : ShF w' b m n f := by
  obtain ⟨cs, h, r⟩ := h
  exact ⟨cs, h.kept hb, r⟩
theorem ShF.drew (h : ShF w b m n f) : ShF w.drew b m n f := by
  obtain ⟨cs, h, r⟩ := h
  exact ⟨cs, h.drew, r⟩
theorem ShF.set (h : ShF w b m n f) (i : Nat) (h0 : 2 ≤ i) (h1 : i < 1026) (v : Bool) : ShF (w.setCell ⟨b, i, none⟩ (.bool v)) b m n (upd f i v) := by
  obtain ⟨cs, h, hs, k0, k1, hi⟩ := h
  refine ⟨_, h.set i (.bool v), by simpa using hs, ?_, ?_, fun j j0 j1 => ?_⟩
  · rw [Array.getElem?_setIfInBounds, if_neg (by omega)]; exact k0
  · rw [Array.getElem?_setIfInBounds, if_neg (by omega)]; exact k1
  · rw [Array.getElem?_setIfInBounds]
    unfold upd
    by_cases e : i = j
    · subst e; rw [if_pos rfl, if_pos rfl, if_pos (by omega)]
    · rw [if_neg e, if_neg (fun h => e h.symm)]; exact hi j j0 j1
theorem ShF.of_list {cs : Array Value} (h : Obj1 w b 109 cs) (e : cs.toList = .bool m :: .int .i64 n :: List.replicate 1024 (.bool false)) : ShF w b m n (fun _ => false) := by
  refine ⟨cs, h, ?_, ?_, ?_, fun i h0 h1 => ?_⟩
  · rw [← Array.length_toList, e, List.length_cons, List.length_cons, List.length_replicate]
  · rw [← Array.getElem?_toList, e]; rfl
  · rw [← Array.getElem?_toList, e]; rfl
  · rw [← Array.getElem?_toList, e]
    obtain ⟨j, rfl⟩ : ∃ j, i = j + 2 := ⟨i - 2, by omega⟩
    simp only [List.getElem?_cons_succ]
    rw [List.getElem?_replicate, if_pos (by omega)]
end

set_option maxRecDepth 100000 in
theorem snew_any (w : World) : Calls Tryd.prog 24 #[.int .i64 1] w fun e w' => e = .returned (.pointer (some ⟨w.heap.size, 0, none⟩)) ∧ Hid (ShF w' w.heap.size true 1 (fun _ => false)) ∧ Hid (Below w.heap.size w w') := by
  go_enter Tryd.func24, Tryd.ntmps24
  go_upto_region 1 with (fail)
  refine wp_region_lit ?_
  repeat (first | refine wpList_build rfl 109 #[(0, .const (.bool true)), (1, .tmp 5)] rfl ?hb ?_ | go_step)
  case hb => kernel_rfl
  generalize hcs : Option.getD _ _ = cs
  have HC : Hid (cs.toList = .bool true :: .int .i64 1 :: List.replicate 1024 (.bool false)) := Lib.hid (by rw [← hcs]; kernel_rfl)
  clear hcs
  go_wp2
  go_ret
  exact ⟨rfl, ShF.of_list (Obj1.new _ _ _) HC.out, (Below.refl _ _).alloc (Nat.le_refl _) _⟩

theorem long_one (w : World) : Calls Tryd.prog 69 #[.int .i64 1] w fun e w' => e = .returned (.int .i64 8) ∧ w = w' := by
  go_enter Tryd.func69, Tryd.ntmps69
  go_wp2
  go_ret
  exact ⟨rfl, rfl⟩
theorem sbits1 (b : Nat) (f : Nat → Bool) (w : World) (h : ShF w b true 1 f) : Calls Tryd.prog 28 #[.pointer (some ⟨b, 0, none⟩)] w fun e w' => e = .returned (.int .i64 8) ∧ w = w' := by
  have c0 := h.at0
  have c1 := h.at1
  clear h
  go_enter Tryd.func28, Tryd.ntmps28
  go_wp2_with (go_at_call 69; refine (long_one _).mono ?_; rintro e w' ⟨rfl, rfl⟩)
  go_ret
  exact ⟨rfl, rfl⟩
theorem sis0 (b : Nat) (f : Nat → Bool) (w : World) (h : ShF w b true 1 f) : Calls Tryd.prog 73 #[.pointer (some ⟨b, 0, none⟩), .int .i64 0] w fun e w' => e = .returned (.bool true) ∧ w = w' := by
  have H := Lib.hid h
  clear h
  go_enter Tryd.func73, Tryd.ntmps73
  go_wp2_with (go_at_call 28; refine (sbits1 _ _ _ H.out).mono ?_; rintro e w' ⟨rfl, rfl⟩)
  go_ret
  exact ⟨rfl, rfl⟩

/-- A shift that nobody made. -/
def Nob (w : World) (v : Value) : Prop := v = .pointer none ∨ ∃ g, v = .pointer (some ⟨g, 0, none⟩) ∧ ShF w g false 0 (fun _ => false)
theorem Nob.kept {w w' : World} {v : Value} (h : Nob w v) (hb : Below w.heap.size w w') : Nob w' v := by
  rcases h with h | ⟨g, h, k⟩
  · exact .inl h
  · exact .inr ⟨g, h, k.kept hb⟩
theorem bits_nob (v : Value) (w : World) (h : Nob w v) : Calls Tryd.prog 28 #[v] w fun e w' => e = .returned (.int .i64 0) ∧ w = w' := by
  rcases h with rfl | ⟨g, rfl, h⟩
  · go_enter Tryd.func28, Tryd.ntmps28
    go_wp2
    go_ret
    exact ⟨rfl, rfl⟩
  · have c0 := h.at0
    clear h
    go_enter Tryd.func28, Tryd.ntmps28
    go_wp2
    go_ret
    exact ⟨rfl, rfl⟩
theorem is_nob (v : Value) (n : Int) (w : World) (h : Nob w v) : Calls Tryd.prog 73 #[v, .int .i64 n] w fun e w' => e = .returned (.bool false) ∧ w = w' := by
  have H := Lib.hid h
  clear h
  by_cases hn : 0 ≤ n
  · go_enter Tryd.func73, Tryd.ntmps73
    go_wp2_with (go_at_call 28; refine (bits_nob _ _ H.out).mono ?_; rintro e w' ⟨rfl, rfl⟩)
    go_ret
    exact ⟨by simp; try omega, rfl⟩
  · have hn' : n < 0 := by omega
    go_enter Tryd.func73, Tryd.ntmps73
    go_wp2
    go_ret
    exact ⟨rfl, rfl⟩
theorem put_nob (v : Value) (n : Int) (y : Bool) (l : Int) (w : World) (h : Nob w v) : Calls Tryd.prog 25 #[v, .int .i64 n, .bool y, .int .u8 l] w fun e w' => e = .returned (.tuple #[]) ∧ w = w' := by
  have H := Lib.hid h
  clear h
  go_enter Tryd.func25, Tryd.ntmps25
  go_wp2_with (go_at_call 73; refine (is_nob _ _ _ H.out).mono ?_; rintro e w' ⟨rfl, rfl⟩)
  refine bodyPost_ret (results_none rfl _ _ _) rfl ?_
  exact ⟨rfl, rfl⟩
theorem line_nob (v : Value) (k n : Int) (w : World) (h : Nob w v) : Calls Tryd.prog 29 #[v, .int .i64 k, .int .i64 n] w fun e w' => e = .returned (.tuple #[.bool false, .bool false]) ∧ w = w' := by
  have H := Lib.hid h
  clear h
  go_enter Tryd.func29, Tryd.ntmps29
  go_wp2_with (go_at_call 73; refine (is_nob _ _ _ H.out).mono ?_; rintro e w' ⟨rfl, rfl⟩)
  go_ret2
  exact ⟨rfl, rfl⟩
theorem seen_nob (v : Value) (w : World) (h : Nob w v) : Calls Tryd.prog 27 #[v] w fun e w' => e = .returned (.int .i64 0) ∧ w = w' := by
  have H := Lib.hid h
  clear h
  go_enter Tryd.func27, Tryd.ntmps27
  go_wp2_with (go_at_call 28; refine (bits_nob _ _ H.out).mono ?_; rintro e w' ⟨rfl, rfl⟩)
  refine wp_loop_rounds 1 ?_
  rw [rounds_succ]
  go_wp2
  go_ret
  exact ⟨rfl, rfl⟩
end Go.Proofs.YtnbcegijncdmaaaDoor.Ly15
