/- The contracts of package wires' Name and Text. -/
import Derived.Test.YtbhdenjahojbbaaDoorWirD
import Derived.Test.YtbhdenjahojbbaaDoorObj
import Derived.Laws.BytesArg
namespace Go.Proofs.YtbhdenjahojbbaaDoor.Ly3
open Go.ChangeShapes Go.WideShapes Go.ChangeAt Go.RowKit Base
set_option linter.unusedVariables false
set_option linter.unusedSimpArgs false

/-- The table of the lines' names. -/
def nmS (k : Nat) : ByteArray := if k = 0 then ⟨#[97, 120]⟩ else if k = 1 then ⟨#[98, 120]⟩ else if k = 2 then ⟨#[97, 121]⟩ else ⟨#[98, 121]⟩
def Nm (w : World) : Prop := w.cell? ⟨1, 0, none⟩ = some (.string (nmS 0)) ∧ w.cell? ⟨1, 1, none⟩ = some (.string (nmS 1)) ∧ w.cell? ⟨1, 2, none⟩ = some (.string (nmS 2)) ∧ w.cell? ⟨1, 3, none⟩ = some (.string (nmS 3))
theorem Nm.kept {w w' : World} (h : Nm w) (hb : Below w.heap.size w w') : Nm w' := by
  obtain ⟨h0, h1, h2, h3⟩ := h
  have hlt : 1 < w.heap.size := World.block_lt_of_cell? w _ h0
  exact ⟨(hb.cell (p := ⟨1, 0, none⟩) hlt).trans h0, (hb.cell (p := ⟨1, 1, none⟩) hlt).trans h1, (hb.cell (p := ⟨1, 2, none⟩) hlt).trans h2, (hb.cell (p := ⟨1, 3, none⟩) hlt).trans h3⟩
theorem name_no (i : Int) (w : World) (h : i < 0 ∨ 3 < i) : Calls Tryd.prog 21 #[.int .i64 i] w fun e w' => e = .returned (.string ByteArray.empty) ∧ w = w' := by
  go_enter Tryd.func21, Tryd.ntmps21
  go_wp2_with (go_at_call 22; refine (is_no _ _ h).mono ?_; rintro e w' ⟨rfl, rfl⟩)
  go_ret
  exact ⟨rfl, rfl⟩
theorem name_at (k : Nat) (w : World) (hk : k < 4) (hN : Nm w) : Calls Tryd.prog 21 #[.int .i64 k] w fun e w' => e = .returned (.string (nmS k)) ∧ w = w' := by
  obtain ⟨n0, n1, n2, n3⟩ := hN
  rcases (show k = 0 ∨ k = 1 ∨ k = 2 ∨ k = 3 by omega) with rfl | rfl | rfl | rfl
  all_goals
    go_enter Tryd.func21, Tryd.ntmps21
    go_wp2_with (go_at_call 22; refine (is_yes _ _ (by omega) (by omega)).mono ?_; rintro e w' ⟨rfl, rfl⟩)
    go_ret
    exact ⟨rfl, rfl⟩

def sgn (l k : Nat) : UInt8 := if hb l k then 35 else 46
def sgnV (l k j : Nat) : Value := .int .u8 (if j < k then ((sgn l j).toNat : Int) else 0)
def textC (l k : Nat) : Array Value := #[sgnV l k 0, sgnV l k 1, sgnV l k 2, sgnV l k 3]
def TRel (w : World) (l : Nat) (i : Value) (wr : World) : Prop := ∃ k : Nat, k ≤ 4 ∧ i = .int .i64 k ∧ Obj1 wr w.heap.size 45 (textC l k) ∧ Below w.heap.size w wr

set_option maxHeartbeats 2000000 in
theorem text_any (l : Nat) (w : World) (hl : l < 256) :
    Calls Tryd.prog 20 #[.int .u8 l] w fun e w' => e = .returned (.string ⟨#[sgn l 0, sgn l 1, sgn l 2, sgn l 3]⟩) ∧ Below w.heap.size w w' := by
  have HO : Hid (Obj1 (w.alloc (.cells #[.int .u8 0, .int .u8 0, .int .u8 0, .int .u8 0] 45)) w.heap.size 45 (textC l 0)) := by
    have := Obj1.new w 45 #[.int .u8 0, .int .u8 0, .int .u8 0, .int .u8 0]
    exact Lib.hid (by simpa [textC, sgnV] using this)
  go_enter Tryd.func20, Tryd.ntmps20
  go_wp2
  go_loopw [4, 5] (fun _ i wr => TRel w l i wr) (fun _ i _ => 4 - (intOf i).toNat)
  case atStart => exact ⟨0, by omega, rfl, HO.out, (Below.refl _ _).alloc (Nat.le_refl _) _⟩
  case round =>
    obtain ⟨k, hk, rfl, hob, hbel⟩ := hrel
    rcases (show k = 0 ∨ k = 1 ∨ k = 2 ∨ k = 3 ∨ k = 4 by omega) with rfl | rfl | rfl | rfl | rfl
    · have hcc := hob.cell 0
      have hff := hob.free 0
      simp [textC] at hcc
      have HOB := Lib.hid hob
      clear hob
      cases hh : hb l 0
      · have HH := Lib.hid hh
        clear hh
        have A1 := Lib.hid (fun W => high_c l 0 false HH.out W hl (by omega))
        go_wp2_with fail
        refine (A1.out _).mono ?_; rintro e w' ⟨rfl, rfl⟩
        go_wp2
        go_roundw
        case rel => exact ⟨0+1, by omega, rfl, by have := Obj1.set HOB.out 0 (.int .u8 46); simpa [textC, sgnV, sgn, HH.out] using this, hbel.setCell (by simp) _⟩
        case measure => simp [intOf]
      · have HH := Lib.hid hh
        clear hh
        have A1 := Lib.hid (fun W => high_c l 0 true HH.out W hl (by omega))
        go_wp2_with fail
        refine (A1.out _).mono ?_; rintro e w' ⟨rfl, rfl⟩
        go_wp2
        go_roundw
        case rel => exact ⟨0+1, by omega, rfl, by have := Obj1.set (Obj1.set HOB.out 0 (.int .u8 46)) 0 (.int .u8 35); simpa [textC, sgnV, sgn, HH.out] using this, (hbel.setCell (by simp) _).setCell (by simp) _⟩
        case measure => simp [intOf]
    · have hcc := hob.cell 1
      have hff := hob.free 1
      simp [textC] at hcc
      have HOB := Lib.hid hob
      clear hob
      cases hh : hb l 1
      · have HH := Lib.hid hh
        clear hh
        have A1 := Lib.hid (fun W => high_c l 1 false HH.out W hl (by omega))
        go_wp2_with fail
        refine (A1.out _).mono ?_; rintro e w' ⟨rfl, rfl⟩
        go_wp2
        go_roundw
        case rel => exact ⟨1+1, by omega, rfl, by have := Obj1.set HOB.out 1 (.int .u8 46); simpa [textC, sgnV, sgn, HH.out] using this, hbel.setCell (by simp) _⟩
        case measure => simp [intOf]
      · have HH := Lib.hid hh
        clear hh
        have A1 := Lib.hid (fun W => high_c l 1 true HH.out W hl (by omega))
        go_wp2_with fail
        refine (A1.out _).mono ?_; rintro e w' ⟨rfl, rfl⟩
        go_wp2
        go_roundw
        case rel => exact ⟨1+1, by omega, rfl, by have := Obj1.set (Obj1.set HOB.out 1 (.int .u8 46)) 1 (.int .u8 35); simpa [textC, sgnV, sgn, HH.out] using this, (hbel.setCell (by simp) _).setCell (by simp) _⟩
        case measure => simp [intOf]
    · have hcc := hob.cell 2
      have hff := hob.free 2
      simp [textC] at hcc
      have HOB := Lib.hid hob
      clear hob
      cases hh : hb l 2
      · have HH := Lib.hid hh
        clear hh
        have A1 := Lib.hid (fun W => high_c l 2 false HH.out W hl (by omega))
        go_wp2_with fail
        refine (A1.out _).mono ?_; rintro e w' ⟨rfl, rfl⟩
        go_wp2
        go_roundw
        case rel => exact ⟨2+1, by omega, rfl, by have := Obj1.set HOB.out 2 (.int .u8 46); simpa [textC, sgnV, sgn, HH.out] using this, hbel.setCell (by simp) _⟩
        case measure => simp [intOf]
      · have HH := Lib.hid hh
        clear hh
        have A1 := Lib.hid (fun W => high_c l 2 true HH.out W hl (by omega))
        go_wp2_with fail
        refine (A1.out _).mono ?_; rintro e w' ⟨rfl, rfl⟩
        go_wp2
        go_roundw
        case rel => exact ⟨2+1, by omega, rfl, by have := Obj1.set (Obj1.set HOB.out 2 (.int .u8 46)) 2 (.int .u8 35); simpa [textC, sgnV, sgn, HH.out] using this, (hbel.setCell (by simp) _).setCell (by simp) _⟩
        case measure => simp [intOf]
    · have hcc := hob.cell 3
      have hff := hob.free 3
      simp [textC] at hcc
      have HOB := Lib.hid hob
      clear hob
      cases hh : hb l 3
      · have HH := Lib.hid hh
        clear hh
        have A1 := Lib.hid (fun W => high_c l 3 false HH.out W hl (by omega))
        go_wp2_with fail
        refine (A1.out _).mono ?_; rintro e w' ⟨rfl, rfl⟩
        go_wp2
        go_roundw
        case rel => exact ⟨3+1, by omega, rfl, by have := Obj1.set HOB.out 3 (.int .u8 46); simpa [textC, sgnV, sgn, HH.out] using this, hbel.setCell (by simp) _⟩
        case measure => simp [intOf]
      · have HH := Lib.hid hh
        clear hh
        have A1 := Lib.hid (fun W => high_c l 3 true HH.out W hl (by omega))
        go_wp2_with fail
        refine (A1.out _).mono ?_; rintro e w' ⟨rfl, rfl⟩
        go_wp2
        go_roundw
        case rel => exact ⟨3+1, by omega, rfl, by have := Obj1.set (Obj1.set HOB.out 3 (.int .u8 46)) 3 (.int .u8 35); simpa [textC, sgnV, sgn, HH.out] using this, (hbel.setCell (by simp) _).setCell (by simp) _⟩
        case measure => simp [intOf]
    · have hc0 := hob.cell 0
      have hc1 := hob.cell 1
      have hc2 := hob.cell 2
      have hc3 := hob.cell 3
      simp [textC, sgnV] at hc0 hc1 hc2 hc3
      have HOB := Lib.hid hob
      clear hob
      have hconv := run_convert_bytes_arg (P := Tryd.prog) wr 46 5 Tryd.underlying46 Tryd.underlying5 w.heap.size 0 4 4 [((sgn l 0).toNat : Int), ((sgn l 1).toNat : Int), ((sgn l 2).toNat : Int), ((sgn l 3).toNat : Int)] rfl (by
        intro i hi
        rcases (show i = 0 ∨ i = 1 ∨ i = 2 ∨ i = 3 by omega) with rfl | rfl | rfl | rfl
        · simpa using hc0
        · simpa using hc1
        · simpa using hc2
        · simpa using hc3) 9 Tryd.underlying9
      have hs : strOfNums [((sgn l 0).toNat : Int), ((sgn l 1).toNat : Int), ((sgn l 2).toNat : Int), ((sgn l 3).toNat : Int)] = ⟨#[sgn l 0, sgn l 1, sgn l 2, sgn l 3]⟩ := by
        simp [strOfNums]
      rw [hs] at hconv
      clear hs
      go_wp2
      go_ret
      exact ⟨rfl, hbel⟩
end Go.Proofs.YtbhdenjahojbbaaDoor.Ly3
