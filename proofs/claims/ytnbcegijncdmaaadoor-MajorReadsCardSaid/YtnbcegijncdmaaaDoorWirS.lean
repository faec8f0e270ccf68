/- The contract of package wires' Says, and the table of the lines. -/
import Derived.Test.YtnbcegijncdmaaaDoorWirA
import Derived.Deep.RegionHeld3
import Derived.Outline
namespace Go.Proofs.YtnbcegijncdmaaaDoor.Ly3
open Go.ChangeShapes Go.WideShapes Go.ChangeAt Go.RowKit Base
set_option linter.unusedVariables false
set_option linter.unusedSimpArgs false

/-- The table of the lines. -/
def Up (w : World) : Prop := w.cell? ⟨0, 0, none⟩ = some (.bool true) ∧ w.cell? ⟨0, 1, none⟩ = some (.bool false) ∧ w.cell? ⟨0, 2, none⟩ = some (.bool false) ∧ w.cell? ⟨0, 3, none⟩ = some (.bool true)
theorem Up.kept {w w' : World} (h : Up w) (hb : Below w.heap.size w w') : Up w' := by
  obtain ⟨h0, h1, h2, h3⟩ := h
  have hlt : 0 < w.heap.size := World.block_lt_of_cell? w _ h0
  exact ⟨(hb.cell (p := ⟨0, 0, none⟩) hlt).trans h0, (hb.cell (p := ⟨0, 1, none⟩) hlt).trans h1, (hb.cell (p := ⟨0, 2, none⟩) hlt).trans h2, (hb.cell (p := ⟨0, 3, none⟩) hlt).trans h3⟩
theorem Up.lt {w : World} (h : Up w) : 0 < w.heap.size := World.block_lt_of_cell? w _ h.1

/-- What a line says. -/
def said (l k : Nat) : Bool := hb l k == (k == 0 || k == 3)
def saysC (l k : Nat) : Array Value := #[.bool (if 0 < k then said l 0 else false), .bool (if 1 < k then said l 1 else false), .bool (if 2 < k then said l 2 else false), .bool (if 3 < k then said l 3 else false)]

set_option maxHeartbeats 2000000 in
theorem says_any (l : Nat) (w : World) (hl : l < 256) (hU : Up w) :
    Calls Tryd.prog 21 #[.int .u8 l] w fun e w' => e = .returned (.agg #[.bool (said l 0), .bool (said l 1), .bool (said l 2), .bool (said l 3)]) ∧ Below w.heap.size w w' := by
  have hUl := hU.lt
  have HU := Lib.hid hU
  clear hU
  have HO : Hid (Obj1 ((w.alloc (.cells #[.bool false, .bool false, .bool false, .bool false] 38)).alloc (.cells #[.bool false, .bool false, .bool false, .bool false] 38)) (w.heap.size + 1) 38 (saysC l 0)) := by
    have := Obj1.new (w.alloc (.cells #[.bool false, .bool false, .bool false, .bool false] 38)) 38 #[.bool false, .bool false, .bool false, .bool false]
    exact Lib.hid (by simpa [saysC] using this)
  have HR : Hid (Obj1 ((w.alloc (.cells #[.bool false, .bool false, .bool false, .bool false] 38)).alloc (.cells #[.bool false, .bool false, .bool false, .bool false] 38)) w.heap.size 38 #[.bool false, .bool false, .bool false, .bool false]) := (Obj1.new _ _ _).alloc _
  go_enter Tryd.func21, Tryd.ntmps21
  go_wp2
  go_loopw [5] (fun i wr => ∃ k : Nat, k ≤ 4 ∧ i = .int .i64 k ∧ Obj1 wr w.heap.size 38 #[.bool false, .bool false, .bool false, .bool false] ∧ Obj1 wr (w.heap.size + 1) 38 (saysC l k) ∧ Below w.heap.size w wr) (fun i _ => 4 - (intOf i).toNat)
  case atStart => exact ⟨0, by omega, rfl, HR.out, HO.out, Go.Joins.below_alloc2 _ _ _⟩
  case round =>
    obtain ⟨k, hk, rfl, hor, hob, hbel⟩ := hrel
    have HOR := Lib.hid hor
    clear hor
    have hbl := hob.lt
    rcases (show k = 0 ∨ k = 1 ∨ k = 2 ∨ k = 3 ∨ k = 4 by omega) with rfl | rfl | rfl | rfl | rfl
    · have hup := (HU.out.kept hbel).1
      have hcc := hob.cell 0
      have hff := hob.free 0
      simp [saysC] at hcc
      have HOB := Lib.hid hob
      clear hob
      go_wp2
      go_region_held3 (fun w' => w'.cell? ⟨0, 0, none⟩ = some (.bool true)) (first | go_keep | assumption) (first | (go_at_call 70; refine (high_at l 0 _ hl (by omega)).mono ?_; rintro e wa ⟨rfl, rfl⟩))
      go_wp2
      go_roundw
      case rel => exact ⟨1, by omega, rfl, (HOR.out.far _ (by simp) _).drew, by have := Obj1.drew (Obj1.set HOB.out 0 (.bool (said l 0))); simpa [saysC, said] using this, (hbel.setCell (by simp) _).drew⟩
      case measure => simp [intOf]
    · have hup := (HU.out.kept hbel).2.1
      have hcc := hob.cell 1
      have hff := hob.free 1
      simp [saysC] at hcc
      have HOB := Lib.hid hob
      clear hob
      go_wp2
      go_region_held3 (fun w' => w'.cell? ⟨0, 1, none⟩ = some (.bool false)) (first | go_keep | assumption) (first | (go_at_call 70; refine (high_at l 1 _ hl (by omega)).mono ?_; rintro e wa ⟨rfl, rfl⟩))
      go_wp2
      go_roundw
      case rel => exact ⟨2, by omega, rfl, (HOR.out.far _ (by simp) _).drew, by have := Obj1.drew (Obj1.set HOB.out 1 (.bool (said l 1))); simpa [saysC, said] using this, (hbel.setCell (by simp) _).drew⟩
      case measure => simp [intOf]
    · have hup := (HU.out.kept hbel).2.2.1
      have hcc := hob.cell 2
      have hff := hob.free 2
      simp [saysC] at hcc
      have HOB := Lib.hid hob
      clear hob
      go_wp2
      go_region_held3 (fun w' => w'.cell? ⟨0, 2, none⟩ = some (.bool false)) (first | go_keep | assumption) (first | (go_at_call 70; refine (high_at l 2 _ hl (by omega)).mono ?_; rintro e wa ⟨rfl, rfl⟩))
      go_wp2
      go_roundw
      case rel => exact ⟨3, by omega, rfl, (HOR.out.far _ (by simp) _).drew, by have := Obj1.drew (Obj1.set HOB.out 2 (.bool (said l 2))); simpa [saysC, said] using this, (hbel.setCell (by simp) _).drew⟩
      case measure => simp [intOf]
    · have hup := (HU.out.kept hbel).2.2.2
      have hcc := hob.cell 3
      have hff := hob.free 3
      simp [saysC] at hcc
      have HOB := Lib.hid hob
      clear hob
      go_wp2
      go_region_held3 (fun w' => w'.cell? ⟨0, 3, none⟩ = some (.bool true)) (first | go_keep | assumption) (first | (go_at_call 70; refine (high_at l 3 _ hl (by omega)).mono ?_; rintro e wa ⟨rfl, rfl⟩))
      go_wp2
      go_roundw
      case rel => exact ⟨4, by omega, rfl, (HOR.out.far _ (by simp) _).drew, by have := Obj1.drew (Obj1.set HOB.out 3 (.bool (said l 3))); simpa [saysC, said] using this, (hbel.setCell (by simp) _).drew⟩
      case measure => simp [intOf]
    · have hc0 := hob.cell 0
      have hc1 := hob.cell 1
      have hc2 := hob.cell 2
      have hc3 := hob.cell 3
      simp [saysC] at hc0 hc1 hc2 hc3
      have HOB := Lib.hid hob
      clear hob
      have hr0 := HOR.out.cell 0
      have hr1 := HOR.out.cell 1
      have hr2 := HOR.out.cell 2
      have hr3 := HOR.out.cell 3
      have hf0 := HOR.out.free 0
      have hf1 := HOR.out.free 1
      have hf2 := HOR.out.free 2
      have hf3 := HOR.out.free 3
      simp at hr0 hr1 hr2 hr3
      go_wp2
      refine bodyPost_ret (v := .agg #[.bool (said l 0), .bool (said l 1), .bool (said l 2), .bool (said l 3)]) (by simp [results, Tryd.results21, go_sem, hr0, hr1, hr2, hr3]) rfl ⟨rfl, ?_⟩
      repeat (first | exact Below.refl _ _ | refine Below.setCell ?_ (by first | omega | (simp; done) | (simp; omega) | (have := hbel.size; simp at this ⊢; omega)) _ | refine Below.alloc ?_ (by first | omega | (simp; done) | (simp; omega) | (have := hbel.size; simp at this ⊢; omega)) _ | refine below_drewN' ?_ _ | refine Below.drew ?_ | refine Below.trans ?_ (hbel.mono (by first | omega | (simp; done) | (simp; omega) | (have := hbel.size; simp at this ⊢; omega))))
end Go.Proofs.YtnbcegijncdmaaaDoor.Ly3
