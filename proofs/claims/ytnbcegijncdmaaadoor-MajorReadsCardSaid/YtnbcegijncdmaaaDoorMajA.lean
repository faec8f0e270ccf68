/- The contracts of package shift's New at one word, and of a shift of one word of which nothing was looked at: Bits, Line, Says. -/
import Derived.Test.YtnbcegijncdmaaaDoorObj
import Derived.Test.YtnbcegijncdmaaaDoorSame
import Derived.Test.YtnbcegijncdmaaaDoorBox
import Derived.Test.YtnbcegijncdmaaaDoorRows
import Derived.WalkKit
import Derived.ProofKit
import Derived.OpenShut
import Derived.WalkLawsBesides
import Derived.WalkSpells
import Derived.Lib.Hide
import Derived.Outline
import Derived.Laws.Tables
import Derived.Deep.CutRange
namespace Go.Proofs.YtnbcegijncdmaaaDoor.Ly16
open Go.ChangeShapes Go.WideShapes Go.ChangeAt Go.RowKit Base
set_option linter.unusedVariables false
set_option linter.unusedSimpArgs false

/-- A shift of one word of which nothing was looked at. -/
def Sh0 (w : World) (b : Nat) : Prop := ∃ cs, Obj1 w b 109 cs ∧ cs.toList = .bool true :: .int .i64 1 :: List.replicate 1024 (.bool false)
theorem Sh0.at0 {w : World} {b : Nat} (h : Sh0 w b) : w.cell? ⟨b, 0, none⟩ = some (.bool true) := by
  obtain ⟨cs, h, e⟩ := h
  rw [h.cell 0, ← Array.getElem?_toList, e]; rfl
theorem Sh0.at1 {w : World} {b : Nat} (h : Sh0 w b) : w.cell? ⟨b, 1, none⟩ = some (.int .i64 1) := by
  obtain ⟨cs, h, e⟩ := h
  rw [h.cell 1, ← Array.getElem?_toList, e]; rfl
theorem Sh0.more {w : World} {b : Nat} (h : Sh0 w b) (i : Nat) (h0 : 2 ≤ i) (h1 : i < 1026) : w.cell? ⟨b, i, none⟩ = some (.bool false) := by
  obtain ⟨cs, h, e⟩ := h
  rw [h.cell i, ← Array.getElem?_toList, e]
  obtain ⟨j, rfl⟩ : ∃ j, i = j + 2 := ⟨i - 2, by omega⟩
  simp only [List.getElem?_cons_succ]
  rw [List.getElem?_replicate, if_pos (by omega)]
theorem Sh0.lt {w : World} {b : Nat} (h : Sh0 w b) : b < w.heap.size := by
  obtain ⟨cs, h, e⟩ := h
  exact h.lt
theorem Sh0.kept {w w' : World} {b : Nat} (h : Sh0 w b) (hb : Below w.heap.size w w') : Sh0 w' b := by
  obtain ⟨cs, h, e⟩ := h
  exact ⟨cs, h.kept hb, e⟩

set_option maxRecDepth 100000 in
theorem snew_any (w : World) : Calls Tryd.prog 24 #[.int .i64 1] w fun e w' => e = .returned (.pointer (some ⟨w.heap.size, 0, none⟩)) ∧ Hid (Sh0 w' w.heap.size) ∧ Hid (Below w.heap.size w w') := by
  go_enter Tryd.func24, Tryd.ntmps24
  go_upto_region 1 with (fail)
  refine wp_region_lit ?_
  repeat (first | refine wpList_build rfl 109 #[(0, .const (.bool true)), (1, .tmp 5)] rfl ?hb ?_ | go_step)
  case hb => kernel_rfl
  generalize hcs : Option.getD _ _ = cs
  have HC : Hid (cs.toList = .bool true :: .int .i64 1 :: List.replicate 1024 (.bool false)) := Lib.hid (by rw [← hcs]; kernel_rfl)
  clear hcs
  go_wp2
  go_ret
  exact ⟨rfl, ⟨cs, Obj1.new _ _ _, HC.out⟩, (Below.refl _ _).alloc (Nat.le_refl _) _⟩

theorem long_one (w : World) : Calls Tryd.prog 69 #[.int .i64 1] w fun e w' => e = .returned (.int .i64 8) ∧ w = w' := by
  go_enter Tryd.func69, Tryd.ntmps69
  go_wp2
  go_ret
  exact ⟨rfl, rfl⟩
theorem sbits0 (b : Nat) (w : World) (h : Sh0 w b) : Calls Tryd.prog 28 #[.pointer (some ⟨b, 0, none⟩)] w fun e w' => e = .returned (.int .i64 8) ∧ w = w' := by
  have c0 := h.at0
  have c1 := h.at1
  clear h
  go_enter Tryd.func28, Tryd.ntmps28
  go_wp2_with (go_at_call 69; refine (long_one _).mono ?_; rintro e w' ⟨rfl, rfl⟩)
  go_ret
  exact ⟨rfl, rfl⟩
theorem sis0 (b : Nat) (w : World) (h : Sh0 w b) : Calls Tryd.prog 73 #[.pointer (some ⟨b, 0, none⟩), .int .i64 0] w fun e w' => e = .returned (.bool true) ∧ w = w' := by
  have H := Lib.hid h
  clear h
  go_enter Tryd.func73, Tryd.ntmps73
  go_wp2_with (go_at_call 28; refine (sbits0 _ _ H.out).mono ?_; rintro e w' ⟨rfl, rfl⟩)
  go_ret
  exact ⟨rfl, rfl⟩
set_option maxRecDepth 100000 in
set_option maxHeartbeats 1000000 in
theorem sline0 (b k : Nat) (hk : k < 4) (w : World) (h : Sh0 w b) : Calls Tryd.prog 29 #[.pointer (some ⟨b, 0, none⟩), .int .i64 k, .int .i64 0] w fun e w' => e = .returned (.tuple #[.bool false, .bool false]) ∧ Below w.heap.size w w' := by
  have H := Lib.hid h
  have hlt := h.lt
  clear h
  rcases (show k = 0 ∨ k = 1 ∨ k = 2 ∨ k = 3 by omega) with rfl | rfl | rfl | rfl
  · have k0 := H.out.more 2 (by omega) (by omega)
    have k1 := H.out.more 3 (by omega) (by omega)
    have k2 := H.out.more 4 (by omega) (by omega)
    have k3 := H.out.more 5 (by omega) (by omega)
    go_enter Tryd.func29, Tryd.ntmps29
    go_wp2_with (go_at_call 73; refine (sis0 _ _ H.out).mono ?_; rintro e w' ⟨rfl, rfl⟩)
    go_ret2
    refine ⟨rfl, ?_⟩
    repeat (first | exact Below.refl _ _ | refine Below.setCell ?_ (by first | omega | (simp; done) | (simp; omega)) _ | refine Below.alloc ?_ (by first | omega | (simp; done) | (simp; omega)) _ | refine below_drewN' ?_ _ | refine Below.drew ?_)
  · have k0 := H.out.more 258 (by omega) (by omega)
    have k1 := H.out.more 259 (by omega) (by omega)
    have k2 := H.out.more 260 (by omega) (by omega)
    have k3 := H.out.more 261 (by omega) (by omega)
    go_enter Tryd.func29, Tryd.ntmps29
    go_wp2_with (go_at_call 73; refine (sis0 _ _ H.out).mono ?_; rintro e w' ⟨rfl, rfl⟩)
    go_ret2
    refine ⟨rfl, ?_⟩
    repeat (first | exact Below.refl _ _ | refine Below.setCell ?_ (by first | omega | (simp; done) | (simp; omega)) _ | refine Below.alloc ?_ (by first | omega | (simp; done) | (simp; omega)) _ | refine below_drewN' ?_ _ | refine Below.drew ?_)
  · have k0 := H.out.more 514 (by omega) (by omega)
    have k1 := H.out.more 515 (by omega) (by omega)
    have k2 := H.out.more 516 (by omega) (by omega)
    have k3 := H.out.more 517 (by omega) (by omega)
    go_enter Tryd.func29, Tryd.ntmps29
    go_wp2_with (go_at_call 73; refine (sis0 _ _ H.out).mono ?_; rintro e w' ⟨rfl, rfl⟩)
    go_ret2
    refine ⟨rfl, ?_⟩
    repeat (first | exact Below.refl _ _ | refine Below.setCell ?_ (by first | omega | (simp; done) | (simp; omega)) _ | refine Below.alloc ?_ (by first | omega | (simp; done) | (simp; omega)) _ | refine below_drewN' ?_ _ | refine Below.drew ?_)
  · have k0 := H.out.more 770 (by omega) (by omega)
    have k1 := H.out.more 771 (by omega) (by omega)
    have k2 := H.out.more 772 (by omega) (by omega)
    have k3 := H.out.more 773 (by omega) (by omega)
    go_enter Tryd.func29, Tryd.ntmps29
    go_wp2_with (go_at_call 73; refine (sis0 _ _ H.out).mono ?_; rintro e w' ⟨rfl, rfl⟩)
    go_ret2
    refine ⟨rfl, ?_⟩
    repeat (first | exact Below.refl _ _ | refine Below.setCell ?_ (by first | omega | (simp; done) | (simp; omega)) _ | refine Below.alloc ?_ (by first | omega | (simp; done) | (simp; omega)) _ | refine below_drewN' ?_ _ | refine Below.drew ?_)

abbrev f4 : Array Value := #[.bool false, .bool false, .bool false, .bool false]
def Four (w : World) (s : Nat) : Prop := Obj1 w s 38 f4 ∧ Obj1 w (s + 1) 38 f4 ∧ Obj1 w (s + 1 + 1) 38 f4 ∧ Obj1 w (s + 1 + 1 + 1) 38 f4
theorem four_new (w : World) : Four ((((w.alloc (.cells #[.bool false, .bool false, .bool false, .bool false] 38)).alloc (.cells #[.bool false, .bool false, .bool false, .bool false] 38)).alloc (.cells #[.bool false, .bool false, .bool false, .bool false] 38)).alloc (.cells #[.bool false, .bool false, .bool false, .bool false] 38)) w.heap.size := by
  have A0 := Obj1.new w 38 f4
  have A1 := Obj1.new (w.alloc (.cells #[.bool false, .bool false, .bool false, .bool false] 38)) 38 f4
  have A2 := Obj1.new ((w.alloc (.cells #[.bool false, .bool false, .bool false, .bool false] 38)).alloc (.cells #[.bool false, .bool false, .bool false, .bool false] 38)) 38 f4
  have A3 := Obj1.new (((w.alloc (.cells #[.bool false, .bool false, .bool false, .bool false] 38)).alloc (.cells #[.bool false, .bool false, .bool false, .bool false] 38)).alloc (.cells #[.bool false, .bool false, .bool false, .bool false] 38)) 38 f4
  have e1 : (w.alloc (.cells #[.bool false, .bool false, .bool false, .bool false] 38)).heap.size = w.heap.size + 1 := by simp
  have e2 : ((w.alloc (.cells #[.bool false, .bool false, .bool false, .bool false] 38)).alloc (.cells #[.bool false, .bool false, .bool false, .bool false] 38)).heap.size = w.heap.size + 1 + 1 := by simp
  have e3 : (((w.alloc (.cells #[.bool false, .bool false, .bool false, .bool false] 38)).alloc (.cells #[.bool false, .bool false, .bool false, .bool false] 38)).alloc (.cells #[.bool false, .bool false, .bool false, .bool false] 38)).heap.size = w.heap.size + 1 + 1 + 1 := by simp
  rw [e1] at A1
  rw [e2] at A2
  rw [e3] at A3
  exact ⟨((A0.alloc (.cells #[.bool false, .bool false, .bool false, .bool false] 38)).alloc (.cells #[.bool false, .bool false, .bool false, .bool false] 38)).alloc (.cells #[.bool false, .bool false, .bool false, .bool false] 38), (A1.alloc (.cells #[.bool false, .bool false, .bool false, .bool false] 38)).alloc (.cells #[.bool false, .bool false, .bool false, .bool false] 38), A2.alloc (.cells #[.bool false, .bool false, .bool false, .bool false] 38), A3⟩
theorem four_set {w : World} {s : Nat} (h : Four w s) (k : Nat) (hk : k < 4) (T : TypeId) : Four ((w.setCell ⟨s + 1 + 1, k, none⟩ (.bool false)).setCell ⟨s + 1 + 1 + 1, k, none⟩ (.bool false)) s := by
  obtain ⟨h0, h1, h2, h3⟩ := h
  have e : f4.setIfInBounds k (.bool false) = f4 := by
    rcases (show k = 0 ∨ k = 1 ∨ k = 2 ∨ k = 3 by omega) with rfl | rfl | rfl | rfl <;> rfl
  have a2 := h2.set k (.bool false)
  have a3 := (h3.far ⟨s + 1 + 1, k, none⟩ (by simp) (.bool false)).set k (.bool false)
  rw [e] at a2 a3
  exact ⟨(h0.far _ (by simp <;> omega) _).far _ (by simp <;> omega) _, (h1.far _ (by simp <;> omega) _).far _ (by simp <;> omega) _, a2.far _ (by simp) _, a3⟩
theorem Four.kept {w w' : World} {s : Nat} (h : Four w s) (hb : Below w.heap.size w w') : Four w' s := ⟨h.1.kept hb, h.2.1.kept hb, h.2.2.1.kept hb, h.2.2.2.kept hb⟩
def SRel (w : World) (i : Value) (wr : World) : Prop := ∃ k : Nat, k ≤ 4 ∧ i = .int .i64 k ∧ Four wr w.heap.size ∧ Below w.heap.size w wr
set_option maxRecDepth 100000 in
set_option maxHeartbeats 1000000 in
theorem ssays0 (b : Nat) (w : World) (h : Sh0 w b) : Calls Tryd.prog 72 #[.pointer (some ⟨b, 0, none⟩), .int .i64 0] w fun e w' => e = .returned (.tuple #[.agg #[.bool false, .bool false, .bool false, .bool false], .agg #[.bool false, .bool false, .bool false, .bool false]]) ∧ Hid (Below w.heap.size w w') := by
  have H := Lib.hid h
  have hlt := h.lt
  have H4 := Lib.hid (four_new w)
  clear h
  go_enter Tryd.func72, Tryd.ntmps72
  go_wp2
  go_loopw [9] (fun i wr => SRel w i wr) (fun i _ => 4 - (intOf i).toNat)
  case atStart =>
    refine ⟨0, by omega, rfl, H4.out, ?_⟩
    repeat (first | exact Below.refl _ _ | refine Below.setCell ?_ (by first | omega | (simp; done) | (simp; omega)) _ | refine Below.alloc ?_ (by first | omega | (simp; done) | (simp; omega)) _ | refine below_drewN' ?_ _ | refine Below.drew ?_)
  case round =>
    clear H4
    obtain ⟨k, hk, rfl, h4, hbel⟩ := hrel
    have HB := Lib.hid hbel
    have HS := Lib.hid (H.out.kept hbel)
    by_cases hk4 : k < 4
    · have HL : Hid (∀ W, Sh0 W b → Calls Tryd.prog 29 #[.pointer (some ⟨b, 0, none⟩), .int .i64 k, .int .i64 0] W fun e w' => e = .returned (.tuple #[.bool false, .bool false]) ∧ Below W.heap.size W w') := Lib.hid (fun W hW => sline0 b k hk4 W hW)
      have K4 := Lib.hid h4
      clear h4 hbel
      go_wp2_with fail
      refine (HL.out _ HS.out).mono ?_
      rintro e w1 ⟨rfl, hb1⟩
      have K4' := Lib.hid (K4.out.kept hb1)
      have HB1 := Lib.hid (HB.out.trans (hb1.mono HB.out.size))
      have hz1 := HB1.out.size
      clear hb1 K4 HB
      rcases (show k = 0 ∨ k = 1 ∨ k = 2 ∨ k = 3 by omega) with rfl | rfl | rfl | rfl
      · have f2 := K4'.out.2.2.1.free 0
        have f3 := K4'.out.2.2.2.free 0
        have g2 := K4'.out.2.2.1.cell 0
        have g3 := K4'.out.2.2.2.cell 0
        go_wp2
        go_roundw
        case rel => exact ⟨1, by omega, rfl, four_set K4'.out 0 (by omega) 0, (HB1.out.setCell (by simp; omega) _).setCell (by simp; omega) _⟩
        case measure => simp [intOf]
      · have f2 := K4'.out.2.2.1.free 1
        have f3 := K4'.out.2.2.2.free 1
        have g2 := K4'.out.2.2.1.cell 1
        have g3 := K4'.out.2.2.2.cell 1
        go_wp2
        go_roundw
        case rel => exact ⟨2, by omega, rfl, four_set K4'.out 1 (by omega) 0, (HB1.out.setCell (by simp; omega) _).setCell (by simp; omega) _⟩
        case measure => simp [intOf]
      · have f2 := K4'.out.2.2.1.free 2
        have f3 := K4'.out.2.2.2.free 2
        have g2 := K4'.out.2.2.1.cell 2
        have g3 := K4'.out.2.2.2.cell 2
        go_wp2
        go_roundw
        case rel => exact ⟨3, by omega, rfl, four_set K4'.out 2 (by omega) 0, (HB1.out.setCell (by simp; omega) _).setCell (by simp; omega) _⟩
        case measure => simp [intOf]
      · have f2 := K4'.out.2.2.1.free 3
        have f3 := K4'.out.2.2.2.free 3
        have g2 := K4'.out.2.2.1.cell 3
        have g3 := K4'.out.2.2.2.cell 3
        go_wp2
        go_roundw
        case rel => exact ⟨4, by omega, rfl, four_set K4'.out 3 (by omega) 0, (HB1.out.setCell (by simp; omega) _).setCell (by simp; omega) _⟩
        case measure => simp [intOf]
    · obtain rfl : k = 4 := by omega
      have z := HB.out.size
      have a0 := h4.1.cell 0
      have a1 := h4.1.cell 1
      have a2 := h4.1.cell 2
      have a3 := h4.1.cell 3
      have b0 := h4.2.1.cell 0
      have b1 := h4.2.1.cell 1
      have b2 := h4.2.1.cell 2
      have b3 := h4.2.1.cell 3
      have c0 := h4.2.2.1.cell 0
      have c1 := h4.2.2.1.cell 1
      have c2 := h4.2.2.1.cell 2
      have c3 := h4.2.2.1.cell 3
      have d0 := h4.2.2.2.cell 0
      have d1 := h4.2.2.2.cell 1
      have d2 := h4.2.2.2.cell 2
      have d3 := h4.2.2.2.cell 3
      simp only [f4] at a0 a1 a2 a3 b0 b1 b2 b3 c0 c1 c2 c3 d0 d1 d2 d3
      simp at a0 a1 a2 a3 b0 b1 b2 b3 c0 c1 c2 c3 d0 d1 d2 d3
      have fa0 := h4.1.free 0
      have fa1 := h4.1.free 1
      have fa2 := h4.1.free 2
      have fa3 := h4.1.free 3
      have fb0 := h4.2.1.free 0
      have fb1 := h4.2.1.free 1
      have fb2 := h4.2.1.free 2
      have fb3 := h4.2.1.free 3
      have K4 := Lib.hid h4
      clear h4 hbel
      go_wp2_with fail
      go_region
      go_wp2
      rw [same_cell (v := .bool false) K4.out.1 (i := 0) rfl, same_cell (v := .bool false) K4.out.1 (i := 1) rfl, same_cell (v := .bool false) K4.out.1 (i := 2) rfl, same_cell (v := .bool false) K4.out.1 (i := 3) rfl, same_cell (v := .bool false) K4.out.2.1 (i := 0) rfl, same_cell (v := .bool false) K4.out.2.1 (i := 1) rfl, same_cell (v := .bool false) K4.out.2.1 (i := 2) rfl, same_cell (v := .bool false) K4.out.2.1 (i := 3) rfl]
      refine bodyPost_ret (v := .tuple #[.agg #[.bool false, .bool false, .bool false, .bool false], .agg #[.bool false, .bool false, .bool false, .bool false]]) (by simp [results, Tryd.results72, go_sem, a0, a1, a2, a3, b0, b1, b2, b3]) rfl ⟨rfl, Lib.hid ?_⟩
      exact HB.out.drew
end Go.Proofs.YtnbcegijncdmaaaDoor.Ly16
