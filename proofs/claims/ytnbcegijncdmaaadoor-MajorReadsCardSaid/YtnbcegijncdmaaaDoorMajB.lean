/- The contracts of package major's Of, of the document's own Of, and of layer 16's closed example. -/
import Derived.Test.YtnbcegijncdmaaaDoorMajA
import Derived.Deep.QuietTactic
import Derived.BigQuiet
namespace Go.Proofs.YtnbcegijncdmaaaDoor.Ly16
open Go.ChangeShapes Go.WideShapes Go.ChangeAt Go.RowKit Base
set_option linter.unusedVariables false
set_option linter.unusedSimpArgs false

def sel (a b c d : Bool) (k : Nat) : Bool := if k = 0 then a else if k = 1 then b else if k = 2 then c else d
/-- How many lines say 1, and 0, of the first k. -/
def vo (b i : Nat → Bool) : Nat → Nat
  | 0 => 0
  | k + 1 => vo b i k + (if i k && b k then 1 else 0)
def vz (b i : Nat → Bool) : Nat → Nat
  | 0 => 0
  | k + 1 => vz b i k + (if i k && !b k then 1 else 0)
theorem v_bd (b i : Nat → Bool) (k : Nat) : vz b i k ≤ k ∧ vo b i k ≤ k := by
  induction k with
  | zero => exact ⟨Nat.le_refl _, Nat.le_refl _⟩
  | succ k ih => simp only [vz, vo]; constructor <;> split <;> omega
/-- The bit that three lines of four say, and whether they do. -/
def bitB (b0 b1 b2 b3 i0 i1 i2 i3 : Bool) : Bool := decide (3 ≤ vo (sel b0 b1 b2 b3) (sel i0 i1 i2 i3) 4)
def okB (b0 b1 b2 b3 i0 i1 i2 i3 : Bool) : Bool := decide (3 ≤ vz (sel b0 b1 b2 b3) (sel i0 i1 i2 i3) 4) || decide (3 ≤ vo (sel b0 b1 b2 b3) (sel i0 i1 i2 i3) 4)

def ORel (w : World) (b0 b1 b2 b3 i0 i1 i2 i3 : Bool) (i : Value) (wr : World) : Prop :=
  ∃ k Z O : Nat, k ≤ 4 ∧ i = .int .i64 k ∧ (vz (sel b0 b1 b2 b3) (sel i0 i1 i2 i3) k = Z ∧ vo (sel b0 b1 b2 b3) (sel i0 i1 i2 i3) k = O) ∧ Obj1 wr w.heap.size 38 #[.bool b0, .bool b1, .bool b2, .bool b3] ∧
    Obj1 wr (w.heap.size + 1) 38 #[.bool i0, .bool i1, .bool i2, .bool i3] ∧ Obj1 wr (w.heap.size + 1 + 1) 22 #[.int .i64 Z, .int .i64 O] ∧ Below w.heap.size w wr
def BA (a b c d : Bool) : Value := .agg #[.bool a, .bool b, .bool c, .bool d]
set_option maxRecDepth 100000 in
set_option maxHeartbeats 4000000 in
theorem of_any (b0 b1 b2 b3 i0 i1 i2 i3 : Bool) (w : World) :
    Calls Tryd.prog 79 #[.agg #[.bool b0, .bool b1, .bool b2, .bool b3], .agg #[.bool i0, .bool i1, .bool i2, .bool i3]] w fun e w' => e = .returned (.tuple #[.bool (bitB b0 b1 b2 b3 i0 i1 i2 i3), .bool (okB b0 b1 b2 b3 i0 i1 i2 i3)]) ∧ Below w.heap.size w w' := by
  have A0 := Obj1.new w 38 #[.bool b0, .bool b1, .bool b2, .bool b3]
  have A1 := Obj1.new (w.alloc (.cells #[.bool b0, .bool b1, .bool b2, .bool b3] 38)) 38 #[.bool i0, .bool i1, .bool i2, .bool i3]
  have A2 := Obj1.new ((w.alloc (.cells #[.bool b0, .bool b1, .bool b2, .bool b3] 38)).alloc (.cells #[.bool i0, .bool i1, .bool i2, .bool i3] 38)) 22 #[.int .i64 0, .int .i64 0]
  have e1 : (w.alloc (.cells #[.bool b0, .bool b1, .bool b2, .bool b3] 38)).heap.size = w.heap.size + 1 := by simp
  have e2 : ((w.alloc (.cells #[.bool b0, .bool b1, .bool b2, .bool b3] 38)).alloc (.cells #[.bool i0, .bool i1, .bool i2, .bool i3] 38)).heap.size = w.heap.size + 1 + 1 := by simp
  rw [e1] at A1
  rw [e2] at A2
  have HA0 := Lib.hid ((A0.alloc (.cells #[.bool i0, .bool i1, .bool i2, .bool i3] 38)).alloc (.cells #[.int .i64 0, .int .i64 0] 22))
  have HA1 := Lib.hid (A1.alloc (.cells #[.int .i64 0, .int .i64 0] 22))
  have HA2 := Lib.hid A2
  clear A0 A1 A2 e1 e2
  go_enter Tryd.func79, Tryd.ntmps79
  go_wp2
  go_loopw [8] (fun i wr => ORel w b0 b1 b2 b3 i0 i1 i2 i3 i wr) (fun i _ => 4 - (intOf i).toNat)
  case atStart =>
    refine ⟨0, 0, 0, by omega, rfl, ⟨rfl, rfl⟩, HA0.out, HA1.out, HA2.out, ?_⟩
    repeat (first | exact Below.refl _ _ | refine Below.setCell ?_ (by first | omega | (simp; done) | (simp; omega)) _ | refine Below.alloc ?_ (by first | omega | (simp; done) | (simp; omega)) _ | refine below_drewN' ?_ _ | refine Below.drew ?_)
  case round =>
    clear HA0 HA1 HA2
    obtain ⟨k, Z, O, hk, rfl, ⟨hZ, hO⟩, h0, h1, h2, hbel⟩ := hrel
    have HZ := Lib.hid hZ
    have HO := Lib.hid hO
    have bd := v_bd (sel b0 b1 b2 b3) (sel i0 i1 i2 i3) k
    rw [hZ, hO] at bd
    obtain ⟨bz, bo⟩ := bd
    clear hZ hO
    rcases (show k = 0 ∨ k = 1 ∨ k = 2 ∨ k = 3 ∨ k = 4 by omega) with rfl | rfl | rfl | rfl | rfl
    · have ci : wr.cell? ⟨w.heap.size + 1, 0, none⟩ = some (.bool i0) := h1.cell 0
      have cb : wr.cell? ⟨w.heap.size, 0, none⟩ = some (.bool b0) := h0.cell 0
      have cz : wr.cell? ⟨w.heap.size + 1 + 1, 0, none⟩ = some (.int .i64 Z) := h2.cell 0
      have co : wr.cell? ⟨w.heap.size + 1 + 1, 1, none⟩ = some (.int .i64 O) := h2.cell 1
      have fz := h2.free 0
      have fo := h2.free 1
      have hz := h2.lt
      have H0 := Lib.hid h0
      have H1 := Lib.hid h1
      have H2 := Lib.hid h2
      have HB := Lib.hid hbel
      clear h0 h1 h2 hbel
      rcases (show i0 = false ∨ (i0 = true ∧ b0 = false) ∨ (i0 = true ∧ b0 = true) by cases i0 <;> cases b0 <;> simp) with g | ⟨g, g'⟩ | ⟨g, g'⟩
      · have HZ' : Hid (vz (sel b0 b1 b2 b3) (sel i0 i1 i2 i3) 1 = Z) := Lib.hid (by show vz _ _ 0 + _ = _; rw [HZ.out]; simp [sel, g])
        have HO' : Hid (vo (sel b0 b1 b2 b3) (sel i0 i1 i2 i3) 1 = O) := Lib.hid (by show vo _ _ 0 + _ = _; rw [HO.out]; simp [sel, g])
        rw [g] at ci
        clear g
        go_wp2
        go_roundw
        case rel => exact ⟨1, Z, O, by omega, rfl, ⟨HZ'.out, HO'.out⟩, H0.out, H1.out, H2.out, HB.out⟩
        case measure => simp [intOf]
      · have HZ' : Hid (vz (sel b0 b1 b2 b3) (sel i0 i1 i2 i3) 1 = Z + 1) := Lib.hid (by show vz _ _ 0 + _ = _; rw [HZ.out]; simp [sel, g, g'])
        have HO' : Hid (vo (sel b0 b1 b2 b3) (sel i0 i1 i2 i3) 1 = O) := Lib.hid (by show vo _ _ 0 + _ = _; rw [HO.out]; simp [sel, g, g'])
        rw [g] at ci
        rw [g'] at cb
        clear g g'
        go_wp2
        go_roundw
        case rel => exact ⟨1, Z + 1, O, by omega, rfl, ⟨HZ'.out, HO'.out⟩, H0.out.far _ (by simp <;> omega) _, H1.out.far _ (by simp <;> omega) _, by have := H2.out.set 0 (.int .i64 ((Z + 1 : Nat) : Int)); exact this, HB.out.setCell (by simp; omega) _⟩
        case measure => simp [intOf]
      · have HZ' : Hid (vz (sel b0 b1 b2 b3) (sel i0 i1 i2 i3) 1 = Z) := Lib.hid (by show vz _ _ 0 + _ = _; rw [HZ.out]; simp [sel, g, g'])
        have HO' : Hid (vo (sel b0 b1 b2 b3) (sel i0 i1 i2 i3) 1 = O + 1) := Lib.hid (by show vo _ _ 0 + _ = _; rw [HO.out]; simp [sel, g, g'])
        rw [g] at ci
        rw [g'] at cb
        clear g g'
        go_wp2
        go_roundw
        case rel => exact ⟨1, Z, O + 1, by omega, rfl, ⟨HZ'.out, HO'.out⟩, H0.out.far _ (by simp <;> omega) _, H1.out.far _ (by simp <;> omega) _, by have := H2.out.set 1 (.int .i64 ((O + 1 : Nat) : Int)); exact this, HB.out.setCell (by simp; omega) _⟩
        case measure => simp [intOf]
    · have ci : wr.cell? ⟨w.heap.size + 1, 1, none⟩ = some (.bool i1) := h1.cell 1
      have cb : wr.cell? ⟨w.heap.size, 1, none⟩ = some (.bool b1) := h0.cell 1
      have cz : wr.cell? ⟨w.heap.size + 1 + 1, 0, none⟩ = some (.int .i64 Z) := h2.cell 0
      have co : wr.cell? ⟨w.heap.size + 1 + 1, 1, none⟩ = some (.int .i64 O) := h2.cell 1
      have fz := h2.free 0
      have fo := h2.free 1
      have hz := h2.lt
      have H0 := Lib.hid h0
      have H1 := Lib.hid h1
      have H2 := Lib.hid h2
      have HB := Lib.hid hbel
      clear h0 h1 h2 hbel
      rcases (show i1 = false ∨ (i1 = true ∧ b1 = false) ∨ (i1 = true ∧ b1 = true) by cases i1 <;> cases b1 <;> simp) with g | ⟨g, g'⟩ | ⟨g, g'⟩
      · have HZ' : Hid (vz (sel b0 b1 b2 b3) (sel i0 i1 i2 i3) 2 = Z) := Lib.hid (by show vz _ _ 1 + _ = _; rw [HZ.out]; simp [sel, g])
        have HO' : Hid (vo (sel b0 b1 b2 b3) (sel i0 i1 i2 i3) 2 = O) := Lib.hid (by show vo _ _ 1 + _ = _; rw [HO.out]; simp [sel, g])
        rw [g] at ci
        clear g
        go_wp2
        go_roundw
        case rel => exact ⟨2, Z, O, by omega, rfl, ⟨HZ'.out, HO'.out⟩, H0.out, H1.out, H2.out, HB.out⟩
        case measure => simp [intOf]
      · have HZ' : Hid (vz (sel b0 b1 b2 b3) (sel i0 i1 i2 i3) 2 = Z + 1) := Lib.hid (by show vz _ _ 1 + _ = _; rw [HZ.out]; simp [sel, g, g'])
        have HO' : Hid (vo (sel b0 b1 b2 b3) (sel i0 i1 i2 i3) 2 = O) := Lib.hid (by show vo _ _ 1 + _ = _; rw [HO.out]; simp [sel, g, g'])
        rw [g] at ci
        rw [g'] at cb
        clear g g'
        go_wp2
        go_roundw
        case rel => exact ⟨2, Z + 1, O, by omega, rfl, ⟨HZ'.out, HO'.out⟩, H0.out.far _ (by simp <;> omega) _, H1.out.far _ (by simp <;> omega) _, by have := H2.out.set 0 (.int .i64 ((Z + 1 : Nat) : Int)); exact this, HB.out.setCell (by simp; omega) _⟩
        case measure => simp [intOf]
      · have HZ' : Hid (vz (sel b0 b1 b2 b3) (sel i0 i1 i2 i3) 2 = Z) := Lib.hid (by show vz _ _ 1 + _ = _; rw [HZ.out]; simp [sel, g, g'])
        have HO' : Hid (vo (sel b0 b1 b2 b3) (sel i0 i1 i2 i3) 2 = O + 1) := Lib.hid (by show vo _ _ 1 + _ = _; rw [HO.out]; simp [sel, g, g'])
        rw [g] at ci
        rw [g'] at cb
        clear g g'
        go_wp2
        go_roundw
        case rel => exact ⟨2, Z, O + 1, by omega, rfl, ⟨HZ'.out, HO'.out⟩, H0.out.far _ (by simp <;> omega) _, H1.out.far _ (by simp <;> omega) _, by have := H2.out.set 1 (.int .i64 ((O + 1 : Nat) : Int)); exact this, HB.out.setCell (by simp; omega) _⟩
        case measure => simp [intOf]
    · have ci : wr.cell? ⟨w.heap.size + 1, 2, none⟩ = some (.bool i2) := h1.cell 2
      have cb : wr.cell? ⟨w.heap.size, 2, none⟩ = some (.bool b2) := h0.cell 2
      have cz : wr.cell? ⟨w.heap.size + 1 + 1, 0, none⟩ = some (.int .i64 Z) := h2.cell 0
      have co : wr.cell? ⟨w.heap.size + 1 + 1, 1, none⟩ = some (.int .i64 O) := h2.cell 1
      have fz := h2.free 0
      have fo := h2.free 1
      have hz := h2.lt
      have H0 := Lib.hid h0
      have H1 := Lib.hid h1
      have H2 := Lib.hid h2
      have HB := Lib.hid hbel
      clear h0 h1 h2 hbel
      rcases (show i2 = false ∨ (i2 = true ∧ b2 = false) ∨ (i2 = true ∧ b2 = true) by cases i2 <;> cases b2 <;> simp) with g | ⟨g, g'⟩ | ⟨g, g'⟩
      · have HZ' : Hid (vz (sel b0 b1 b2 b3) (sel i0 i1 i2 i3) 3 = Z) := Lib.hid (by show vz _ _ 2 + _ = _; rw [HZ.out]; simp [sel, g])
        have HO' : Hid (vo (sel b0 b1 b2 b3) (sel i0 i1 i2 i3) 3 = O) := Lib.hid (by show vo _ _ 2 + _ = _; rw [HO.out]; simp [sel, g])
        rw [g] at ci
        clear g
        go_wp2
        go_roundw
        case rel => exact ⟨3, Z, O, by omega, rfl, ⟨HZ'.out, HO'.out⟩, H0.out, H1.out, H2.out, HB.out⟩
        case measure => simp [intOf]
      · have HZ' : Hid (vz (sel b0 b1 b2 b3) (sel i0 i1 i2 i3) 3 = Z + 1) := Lib.hid (by show vz _ _ 2 + _ = _; rw [HZ.out]; simp [sel, g, g'])
        have HO' : Hid (vo (sel b0 b1 b2 b3) (sel i0 i1 i2 i3) 3 = O) := Lib.hid (by show vo _ _ 2 + _ = _; rw [HO.out]; simp [sel, g, g'])
        rw [g] at ci
        rw [g'] at cb
        clear g g'
        go_wp2
        go_roundw
        case rel => exact ⟨3, Z + 1, O, by omega, rfl, ⟨HZ'.out, HO'.out⟩, H0.out.far _ (by simp <;> omega) _, H1.out.far _ (by simp <;> omega) _, by have := H2.out.set 0 (.int .i64 ((Z + 1 : Nat) : Int)); exact this, HB.out.setCell (by simp; omega) _⟩
        case measure => simp [intOf]
      · have HZ' : Hid (vz (sel b0 b1 b2 b3) (sel i0 i1 i2 i3) 3 = Z) := Lib.hid (by show vz _ _ 2 + _ = _; rw [HZ.out]; simp [sel, g, g'])
        have HO' : Hid (vo (sel b0 b1 b2 b3) (sel i0 i1 i2 i3) 3 = O + 1) := Lib.hid (by show vo _ _ 2 + _ = _; rw [HO.out]; simp [sel, g, g'])
        rw [g] at ci
        rw [g'] at cb
        clear g g'
        go_wp2
        go_roundw
        case rel => exact ⟨3, Z, O + 1, by omega, rfl, ⟨HZ'.out, HO'.out⟩, H0.out.far _ (by simp <;> omega) _, H1.out.far _ (by simp <;> omega) _, by have := H2.out.set 1 (.int .i64 ((O + 1 : Nat) : Int)); exact this, HB.out.setCell (by simp; omega) _⟩
        case measure => simp [intOf]
    · have ci : wr.cell? ⟨w.heap.size + 1, 3, none⟩ = some (.bool i3) := h1.cell 3
      have cb : wr.cell? ⟨w.heap.size, 3, none⟩ = some (.bool b3) := h0.cell 3
      have cz : wr.cell? ⟨w.heap.size + 1 + 1, 0, none⟩ = some (.int .i64 Z) := h2.cell 0
      have co : wr.cell? ⟨w.heap.size + 1 + 1, 1, none⟩ = some (.int .i64 O) := h2.cell 1
      have fz := h2.free 0
      have fo := h2.free 1
      have hz := h2.lt
      have H0 := Lib.hid h0
      have H1 := Lib.hid h1
      have H2 := Lib.hid h2
      have HB := Lib.hid hbel
      clear h0 h1 h2 hbel
      rcases (show i3 = false ∨ (i3 = true ∧ b3 = false) ∨ (i3 = true ∧ b3 = true) by cases i3 <;> cases b3 <;> simp) with g | ⟨g, g'⟩ | ⟨g, g'⟩
      · have HZ' : Hid (vz (sel b0 b1 b2 b3) (sel i0 i1 i2 i3) 4 = Z) := Lib.hid (by show vz _ _ 3 + _ = _; rw [HZ.out]; simp [sel, g])
        have HO' : Hid (vo (sel b0 b1 b2 b3) (sel i0 i1 i2 i3) 4 = O) := Lib.hid (by show vo _ _ 3 + _ = _; rw [HO.out]; simp [sel, g])
        rw [g] at ci
        clear g
        go_wp2
        go_roundw
        case rel => exact ⟨4, Z, O, by omega, rfl, ⟨HZ'.out, HO'.out⟩, H0.out, H1.out, H2.out, HB.out⟩
        case measure => simp [intOf]
      · have HZ' : Hid (vz (sel b0 b1 b2 b3) (sel i0 i1 i2 i3) 4 = Z + 1) := Lib.hid (by show vz _ _ 3 + _ = _; rw [HZ.out]; simp [sel, g, g'])
        have HO' : Hid (vo (sel b0 b1 b2 b3) (sel i0 i1 i2 i3) 4 = O) := Lib.hid (by show vo _ _ 3 + _ = _; rw [HO.out]; simp [sel, g, g'])
        rw [g] at ci
        rw [g'] at cb
        clear g g'
        go_wp2
        go_roundw
        case rel => exact ⟨4, Z + 1, O, by omega, rfl, ⟨HZ'.out, HO'.out⟩, H0.out.far _ (by simp <;> omega) _, H1.out.far _ (by simp <;> omega) _, by have := H2.out.set 0 (.int .i64 ((Z + 1 : Nat) : Int)); exact this, HB.out.setCell (by simp; omega) _⟩
        case measure => simp [intOf]
      · have HZ' : Hid (vz (sel b0 b1 b2 b3) (sel i0 i1 i2 i3) 4 = Z) := Lib.hid (by show vz _ _ 3 + _ = _; rw [HZ.out]; simp [sel, g, g'])
        have HO' : Hid (vo (sel b0 b1 b2 b3) (sel i0 i1 i2 i3) 4 = O + 1) := Lib.hid (by show vo _ _ 3 + _ = _; rw [HO.out]; simp [sel, g, g'])
        rw [g] at ci
        rw [g'] at cb
        clear g g'
        go_wp2
        go_roundw
        case rel => exact ⟨4, Z, O + 1, by omega, rfl, ⟨HZ'.out, HO'.out⟩, H0.out.far _ (by simp <;> omega) _, H1.out.far _ (by simp <;> omega) _, by have := H2.out.set 1 (.int .i64 ((O + 1 : Nat) : Int)); exact this, HB.out.setCell (by simp; omega) _⟩
        case measure => simp [intOf]
    · have cz : wr.cell? ⟨w.heap.size + 1 + 1, 0, none⟩ = some (.int .i64 Z) := h2.cell 0
      have co : wr.cell? ⟨w.heap.size + 1 + 1, 1, none⟩ = some (.int .i64 O) := h2.cell 1
      have HB := Lib.hid hbel
      clear h0 h1 h2 hbel
      by_cases gz : 3 ≤ Z
      · by_cases go : 3 ≤ O
        · have ez : decide ((3 : Int) ≤ (Z : Int)) = true := by simp; omega
          have eo : decide ((3 : Int) ≤ (O : Int)) = true := by simp; omega
          have HE : Hid (bitB b0 b1 b2 b3 i0 i1 i2 i3 = true ∧ okB b0 b1 b2 b3 i0 i1 i2 i3 = true) := Lib.hid (by unfold bitB okB; rw [HZ.out, HO.out]; simp; omega)
          go_wp2_with fail
          refine wp_region_quiet_lit (by kernel_rfl) (by kernel_rfl) ?_
          repeat (go_big_quiet_step (fail))
          refine wpQuiet_nil ?_
          intro _ hw'
          obtain ⟨nq, hw''⟩ := hw'
          subst hw''
          go_wp2
          go_ret2
          refine ⟨by rw [HE.out.1, HE.out.2]; rfl, ?_⟩
          repeat (first | exact Below.refl _ _ | refine Below.setCell ?_ (by first | omega | (simp; done) | (simp; omega) | (have := HB.out.size; simp at this ⊢; omega)) _ | refine Below.alloc ?_ (by first | omega | (simp; done) | (simp; omega) | (have := HB.out.size; simp at this ⊢; omega)) _ | refine below_drewN' ?_ _ | refine Below.drew ?_ | refine Below.trans ?_ (HB.out.mono (by first | omega | (simp; done) | (simp; omega) | (have := HB.out.size; simp at this ⊢; omega))))
        · have ez : decide ((3 : Int) ≤ (Z : Int)) = true := by simp; omega
          have eo : decide ((3 : Int) ≤ (O : Int)) = false := by simp; omega
          have HE : Hid (bitB b0 b1 b2 b3 i0 i1 i2 i3 = false ∧ okB b0 b1 b2 b3 i0 i1 i2 i3 = true) := Lib.hid (by unfold bitB okB; rw [HZ.out, HO.out]; simp; omega)
          go_wp2_with fail
          refine wp_region_quiet_lit (by kernel_rfl) (by kernel_rfl) ?_
          repeat (go_big_quiet_step (fail))
          refine wpQuiet_nil ?_
          intro _ hw'
          obtain ⟨nq, hw''⟩ := hw'
          subst hw''
          go_wp2
          go_ret2
          refine ⟨by rw [HE.out.1, HE.out.2]; rfl, ?_⟩
          repeat (first | exact Below.refl _ _ | refine Below.setCell ?_ (by first | omega | (simp; done) | (simp; omega) | (have := HB.out.size; simp at this ⊢; omega)) _ | refine Below.alloc ?_ (by first | omega | (simp; done) | (simp; omega) | (have := HB.out.size; simp at this ⊢; omega)) _ | refine below_drewN' ?_ _ | refine Below.drew ?_ | refine Below.trans ?_ (HB.out.mono (by first | omega | (simp; done) | (simp; omega) | (have := HB.out.size; simp at this ⊢; omega))))
      · by_cases go : 3 ≤ O
        · have ez : decide ((3 : Int) ≤ (Z : Int)) = false := by simp; omega
          have eo : decide ((3 : Int) ≤ (O : Int)) = true := by simp; omega
          have HE : Hid (bitB b0 b1 b2 b3 i0 i1 i2 i3 = true ∧ okB b0 b1 b2 b3 i0 i1 i2 i3 = true) := Lib.hid (by unfold bitB okB; rw [HZ.out, HO.out]; simp; omega)
          go_wp2_with fail
          refine wp_region_quiet_lit (by kernel_rfl) (by kernel_rfl) ?_
          repeat (go_big_quiet_step (fail))
          refine wpQuiet_nil ?_
          intro _ hw'
          obtain ⟨nq, hw''⟩ := hw'
          subst hw''
          go_wp2
          go_ret2
          refine ⟨by rw [HE.out.1, HE.out.2]; rfl, ?_⟩
          repeat (first | exact Below.refl _ _ | refine Below.setCell ?_ (by first | omega | (simp; done) | (simp; omega) | (have := HB.out.size; simp at this ⊢; omega)) _ | refine Below.alloc ?_ (by first | omega | (simp; done) | (simp; omega) | (have := HB.out.size; simp at this ⊢; omega)) _ | refine below_drewN' ?_ _ | refine Below.drew ?_ | refine Below.trans ?_ (HB.out.mono (by first | omega | (simp; done) | (simp; omega) | (have := HB.out.size; simp at this ⊢; omega))))
        · have ez : decide ((3 : Int) ≤ (Z : Int)) = false := by simp; omega
          have eo : decide ((3 : Int) ≤ (O : Int)) = false := by simp; omega
          have HE : Hid (bitB b0 b1 b2 b3 i0 i1 i2 i3 = false ∧ okB b0 b1 b2 b3 i0 i1 i2 i3 = false) := Lib.hid (by unfold bitB okB; rw [HZ.out, HO.out]; simp; omega)
          go_wp2_with fail
          refine wp_region_quiet_lit (by kernel_rfl) (by kernel_rfl) ?_
          repeat (go_big_quiet_step (fail))
          refine wpQuiet_nil ?_
          intro _ hw'
          obtain ⟨nq, hw''⟩ := hw'
          subst hw''
          go_wp2
          go_ret2
          refine ⟨by rw [HE.out.1, HE.out.2]; rfl, ?_⟩
          repeat (first | exact Below.refl _ _ | refine Below.setCell ?_ (by first | omega | (simp; done) | (simp; omega) | (have := HB.out.size; simp at this ⊢; omega)) _ | refine Below.alloc ?_ (by first | omega | (simp; done) | (simp; omega) | (have := HB.out.size; simp at this ⊢; omega)) _ | refine below_drewN' ?_ _ | refine Below.drew ?_ | refine Below.trans ?_ (HB.out.mono (by first | omega | (simp; done) | (simp; omega) | (have := HB.out.size; simp at this ⊢; omega))))

def RORel (b0 b1 b2 b3 i0 i1 i2 i3 : Bool) (o z i : Value) : Prop :=
  ∃ k Z O : Nat, k ≤ 4 ∧ i = .int .i64 k ∧ z = .int .i64 Z ∧ o = .int .i64 O ∧ vz (sel b0 b1 b2 b3) (sel i0 i1 i2 i3) k = Z ∧ vo (sel b0 b1 b2 b3) (sel i0 i1 i2 i3) k = O
set_option maxRecDepth 100000 in
set_option maxHeartbeats 4000000 in
theorem rof_any (b0 b1 b2 b3 i0 i1 i2 i3 : Bool) (w : World) :
    Calls Tryd.prog 31 #[.agg #[.bool b0, .bool b1, .bool b2, .bool b3], .agg #[.bool i0, .bool i1, .bool i2, .bool i3]] w fun e w' => e = .returned (.tuple #[.bool (bitB b0 b1 b2 b3 i0 i1 i2 i3), .bool (okB b0 b1 b2 b3 i0 i1 i2 i3)]) ∧ Below w.heap.size w w' := by
  go_enter Tryd.func31, Tryd.ntmps31
  go_wp2
  go_loop [6, 7, 8] (fun o z i => RORel b0 b1 b2 b3 i0 i1 i2 i3 o z i) (fun _ _ i => 4 - (intOf i).toNat)
  case atStart => exact ⟨0, 0, 0, by omega, rfl, rfl, rfl, rfl, rfl⟩
  case round =>
    obtain ⟨k, Z, O, hk, rfl, rfl, rfl, hZ, hO⟩ := hrel
    have HZ := Lib.hid hZ
    have HO := Lib.hid hO
    have bd := v_bd (sel b0 b1 b2 b3) (sel i0 i1 i2 i3) k
    rw [hZ, hO] at bd
    obtain ⟨bz, bo⟩ := bd
    clear hZ hO
    rcases (show k = 0 ∨ k = 1 ∨ k = 2 ∨ k = 3 ∨ k = 4 by omega) with rfl | rfl | rfl | rfl | rfl
    · rcases (show i0 = false ∨ (i0 = true ∧ b0 = false) ∨ (i0 = true ∧ b0 = true) by cases i0 <;> cases b0 <;> simp) with g | ⟨g, g'⟩ | ⟨g, g'⟩
      · have HZ' : Hid (vz (sel b0 b1 b2 b3) (sel i0 i1 i2 i3) 1 = Z) := Lib.hid (by show vz _ _ 0 + _ = _; rw [HZ.out]; simp [sel, g])
        have HO' : Hid (vo (sel b0 b1 b2 b3) (sel i0 i1 i2 i3) 1 = O) := Lib.hid (by show vo _ _ 0 + _ = _; rw [HO.out]; simp [sel, g])
        subst g
        go_wp2
        go_round
        case rel => first | exact ⟨1, Z, O, by omega, rfl, rfl, rfl, HZ'.out, HO'.out⟩ | exact ⟨_, _, _, ⟨1, Z, O, by omega, rfl, rfl, rfl, HZ'.out, HO'.out⟩, rfl, rfl, rfl⟩
        case measure => simp [intOf]
      · have HZ' : Hid (vz (sel b0 b1 b2 b3) (sel i0 i1 i2 i3) 1 = Z + 1) := Lib.hid (by show vz _ _ 0 + _ = _; rw [HZ.out]; simp [sel, g, g'])
        have HO' : Hid (vo (sel b0 b1 b2 b3) (sel i0 i1 i2 i3) 1 = O) := Lib.hid (by show vo _ _ 0 + _ = _; rw [HO.out]; simp [sel, g, g'])
        subst g g'
        go_wp2
        go_round
        case rel => first | exact ⟨1, Z + 1, O, by omega, rfl, by go_num, by go_num, HZ'.out, HO'.out⟩ | exact ⟨_, _, _, ⟨1, Z + 1, O, by omega, rfl, by go_num, by go_num, HZ'.out, HO'.out⟩, rfl, rfl, rfl⟩
        case measure => simp [intOf]
      · have HZ' : Hid (vz (sel b0 b1 b2 b3) (sel i0 i1 i2 i3) 1 = Z) := Lib.hid (by show vz _ _ 0 + _ = _; rw [HZ.out]; simp [sel, g, g'])
        have HO' : Hid (vo (sel b0 b1 b2 b3) (sel i0 i1 i2 i3) 1 = O + 1) := Lib.hid (by show vo _ _ 0 + _ = _; rw [HO.out]; simp [sel, g, g'])
        subst g g'
        go_wp2
        go_round
        case rel => first | exact ⟨1, Z, O + 1, by omega, rfl, by go_num, by go_num, HZ'.out, HO'.out⟩ | exact ⟨_, _, _, ⟨1, Z, O + 1, by omega, rfl, by go_num, by go_num, HZ'.out, HO'.out⟩, rfl, rfl, rfl⟩
        case measure => simp [intOf]
    · rcases (show i1 = false ∨ (i1 = true ∧ b1 = false) ∨ (i1 = true ∧ b1 = true) by cases i1 <;> cases b1 <;> simp) with g | ⟨g, g'⟩ | ⟨g, g'⟩
      · have HZ' : Hid (vz (sel b0 b1 b2 b3) (sel i0 i1 i2 i3) 2 = Z) := Lib.hid (by show vz _ _ 1 + _ = _; rw [HZ.out]; simp [sel, g])
        have HO' : Hid (vo (sel b0 b1 b2 b3) (sel i0 i1 i2 i3) 2 = O) := Lib.hid (by show vo _ _ 1 + _ = _; rw [HO.out]; simp [sel, g])
        subst g
        go_wp2
        go_round
        case rel => first | exact ⟨2, Z, O, by omega, rfl, rfl, rfl, HZ'.out, HO'.out⟩ | exact ⟨_, _, _, ⟨2, Z, O, by omega, rfl, rfl, rfl, HZ'.out, HO'.out⟩, rfl, rfl, rfl⟩
        case measure => simp [intOf]
      · have HZ' : Hid (vz (sel b0 b1 b2 b3) (sel i0 i1 i2 i3) 2 = Z + 1) := Lib.hid (by show vz _ _ 1 + _ = _; rw [HZ.out]; simp [sel, g, g'])
        have HO' : Hid (vo (sel b0 b1 b2 b3) (sel i0 i1 i2 i3) 2 = O) := Lib.hid (by show vo _ _ 1 + _ = _; rw [HO.out]; simp [sel, g, g'])
        subst g g'
        go_wp2
        go_round
        case rel => first | exact ⟨2, Z + 1, O, by omega, rfl, by go_num, by go_num, HZ'.out, HO'.out⟩ | exact ⟨_, _, _, ⟨2, Z + 1, O, by omega, rfl, by go_num, by go_num, HZ'.out, HO'.out⟩, rfl, rfl, rfl⟩
        case measure => simp [intOf]
      · have HZ' : Hid (vz (sel b0 b1 b2 b3) (sel i0 i1 i2 i3) 2 = Z) := Lib.hid (by show vz _ _ 1 + _ = _; rw [HZ.out]; simp [sel, g, g'])
        have HO' : Hid (vo (sel b0 b1 b2 b3) (sel i0 i1 i2 i3) 2 = O + 1) := Lib.hid (by show vo _ _ 1 + _ = _; rw [HO.out]; simp [sel, g, g'])
        subst g g'
        go_wp2
        go_round
        case rel => first | exact ⟨2, Z, O + 1, by omega, rfl, by go_num, by go_num, HZ'.out, HO'.out⟩ | exact ⟨_, _, _, ⟨2, Z, O + 1, by omega, rfl, by go_num, by go_num, HZ'.out, HO'.out⟩, rfl, rfl, rfl⟩
        case measure => simp [intOf]
    · rcases (show i2 = false ∨ (i2 = true ∧ b2 = false) ∨ (i2 = true ∧ b2 = true) by cases i2 <;> cases b2 <;> simp) with g | ⟨g, g'⟩ | ⟨g, g'⟩
      · have HZ' : Hid (vz (sel b0 b1 b2 b3) (sel i0 i1 i2 i3) 3 = Z) := Lib.hid (by show vz _ _ 2 + _ = _; rw [HZ.out]; simp [sel, g])
        have HO' : Hid (vo (sel b0 b1 b2 b3) (sel i0 i1 i2 i3) 3 = O) := Lib.hid (by show vo _ _ 2 + _ = _; rw [HO.out]; simp [sel, g])
        subst g
        go_wp2
        go_round
        case rel => first | exact ⟨3, Z, O, by omega, rfl, rfl, rfl, HZ'.out, HO'.out⟩ | exact ⟨_, _, _, ⟨3, Z, O, by omega, rfl, rfl, rfl, HZ'.out, HO'.out⟩, rfl, rfl, rfl⟩
        case measure => simp [intOf]
      · have HZ' : Hid (vz (sel b0 b1 b2 b3) (sel i0 i1 i2 i3) 3 = Z + 1) := Lib.hid (by show vz _ _ 2 + _ = _; rw [HZ.out]; simp [sel, g, g'])
        have HO' : Hid (vo (sel b0 b1 b2 b3) (sel i0 i1 i2 i3) 3 = O) := Lib.hid (by show vo _ _ 2 + _ = _; rw [HO.out]; simp [sel, g, g'])
        subst g g'
        go_wp2
        go_round
        case rel => first | exact ⟨3, Z + 1, O, by omega, rfl, by go_num, by go_num, HZ'.out, HO'.out⟩ | exact ⟨_, _, _, ⟨3, Z + 1, O, by omega, rfl, by go_num, by go_num, HZ'.out, HO'.out⟩, rfl, rfl, rfl⟩
        case measure => simp [intOf]
      · have HZ' : Hid (vz (sel b0 b1 b2 b3) (sel i0 i1 i2 i3) 3 = Z) := Lib.hid (by show vz _ _ 2 + _ = _; rw [HZ.out]; simp [sel, g, g'])
        have HO' : Hid (vo (sel b0 b1 b2 b3) (sel i0 i1 i2 i3) 3 = O + 1) := Lib.hid (by show vo _ _ 2 + _ = _; rw [HO.out]; simp [sel, g, g'])
        subst g g'
        go_wp2
        go_round
        case rel => first | exact ⟨3, Z, O + 1, by omega, rfl, by go_num, by go_num, HZ'.out, HO'.out⟩ | exact ⟨_, _, _, ⟨3, Z, O + 1, by omega, rfl, by go_num, by go_num, HZ'.out, HO'.out⟩, rfl, rfl, rfl⟩
        case measure => simp [intOf]
    · rcases (show i3 = false ∨ (i3 = true ∧ b3 = false) ∨ (i3 = true ∧ b3 = true) by cases i3 <;> cases b3 <;> simp) with g | ⟨g, g'⟩ | ⟨g, g'⟩
      · have HZ' : Hid (vz (sel b0 b1 b2 b3) (sel i0 i1 i2 i3) 4 = Z) := Lib.hid (by show vz _ _ 3 + _ = _; rw [HZ.out]; simp [sel, g])
        have HO' : Hid (vo (sel b0 b1 b2 b3) (sel i0 i1 i2 i3) 4 = O) := Lib.hid (by show vo _ _ 3 + _ = _; rw [HO.out]; simp [sel, g])
        subst g
        go_wp2
        go_round
        case rel => first | exact ⟨4, Z, O, by omega, rfl, rfl, rfl, HZ'.out, HO'.out⟩ | exact ⟨_, _, _, ⟨4, Z, O, by omega, rfl, rfl, rfl, HZ'.out, HO'.out⟩, rfl, rfl, rfl⟩
        case measure => simp [intOf]
      · have HZ' : Hid (vz (sel b0 b1 b2 b3) (sel i0 i1 i2 i3) 4 = Z + 1) := Lib.hid (by show vz _ _ 3 + _ = _; rw [HZ.out]; simp [sel, g, g'])
        have HO' : Hid (vo (sel b0 b1 b2 b3) (sel i0 i1 i2 i3) 4 = O) := Lib.hid (by show vo _ _ 3 + _ = _; rw [HO.out]; simp [sel, g, g'])
        subst g g'
        go_wp2
        go_round
        case rel => first | exact ⟨4, Z + 1, O, by omega, rfl, by go_num, by go_num, HZ'.out, HO'.out⟩ | exact ⟨_, _, _, ⟨4, Z + 1, O, by omega, rfl, by go_num, by go_num, HZ'.out, HO'.out⟩, rfl, rfl, rfl⟩
        case measure => simp [intOf]
      · have HZ' : Hid (vz (sel b0 b1 b2 b3) (sel i0 i1 i2 i3) 4 = Z) := Lib.hid (by show vz _ _ 3 + _ = _; rw [HZ.out]; simp [sel, g, g'])
        have HO' : Hid (vo (sel b0 b1 b2 b3) (sel i0 i1 i2 i3) 4 = O + 1) := Lib.hid (by show vo _ _ 3 + _ = _; rw [HO.out]; simp [sel, g, g'])
        subst g g'
        go_wp2
        go_round
        case rel => first | exact ⟨4, Z, O + 1, by omega, rfl, by go_num, by go_num, HZ'.out, HO'.out⟩ | exact ⟨_, _, _, ⟨4, Z, O + 1, by omega, rfl, by go_num, by go_num, HZ'.out, HO'.out⟩, rfl, rfl, rfl⟩
        case measure => simp [intOf]
    · by_cases gz : 3 ≤ Z
      · by_cases go : 3 ≤ O
        · have ez : decide ((3 : Int) ≤ (Z : Int)) = true := by simp; omega
          have eo : decide ((3 : Int) ≤ (O : Int)) = true := by simp; omega
          have HE : Hid (bitB b0 b1 b2 b3 i0 i1 i2 i3 = true ∧ okB b0 b1 b2 b3 i0 i1 i2 i3 = true) := Lib.hid (by unfold bitB okB; rw [HZ.out, HO.out]; simp; omega)
          go_wp2
          go_ret2
          refine ⟨by rw [HE.out.1, HE.out.2]; rfl, ?_⟩
          repeat (first | exact Below.refl _ _ | refine Below.setCell ?_ (by first | omega | (simp; done) | (simp; omega)) _ | refine Below.alloc ?_ (by first | omega | (simp; done) | (simp; omega)) _ | refine below_drewN' ?_ _ | refine Below.drew ?_)
        · have ez : decide ((3 : Int) ≤ (Z : Int)) = true := by simp; omega
          have eo : decide ((3 : Int) ≤ (O : Int)) = false := by simp; omega
          have HE : Hid (bitB b0 b1 b2 b3 i0 i1 i2 i3 = false ∧ okB b0 b1 b2 b3 i0 i1 i2 i3 = true) := Lib.hid (by unfold bitB okB; rw [HZ.out, HO.out]; simp; omega)
          go_wp2
          go_ret2
          refine ⟨by rw [HE.out.1, HE.out.2]; rfl, ?_⟩
          repeat (first | exact Below.refl _ _ | refine Below.setCell ?_ (by first | omega | (simp; done) | (simp; omega)) _ | refine Below.alloc ?_ (by first | omega | (simp; done) | (simp; omega)) _ | refine below_drewN' ?_ _ | refine Below.drew ?_)
      · by_cases go : 3 ≤ O
        · have ez : decide ((3 : Int) ≤ (Z : Int)) = false := by simp; omega
          have eo : decide ((3 : Int) ≤ (O : Int)) = true := by simp; omega
          have HE : Hid (bitB b0 b1 b2 b3 i0 i1 i2 i3 = true ∧ okB b0 b1 b2 b3 i0 i1 i2 i3 = true) := Lib.hid (by unfold bitB okB; rw [HZ.out, HO.out]; simp; omega)
          go_wp2
          go_ret2
          refine ⟨by rw [HE.out.1, HE.out.2]; rfl, ?_⟩
          repeat (first | exact Below.refl _ _ | refine Below.setCell ?_ (by first | omega | (simp; done) | (simp; omega)) _ | refine Below.alloc ?_ (by first | omega | (simp; done) | (simp; omega)) _ | refine below_drewN' ?_ _ | refine Below.drew ?_)
        · have ez : decide ((3 : Int) ≤ (Z : Int)) = false := by simp; omega
          have eo : decide ((3 : Int) ≤ (O : Int)) = false := by simp; omega
          have HE : Hid (bitB b0 b1 b2 b3 i0 i1 i2 i3 = false ∧ okB b0 b1 b2 b3 i0 i1 i2 i3 = false) := Lib.hid (by unfold bitB okB; rw [HZ.out, HO.out]; simp; omega)
          go_wp2
          go_ret2
          refine ⟨by rw [HE.out.1, HE.out.2]; rfl, ?_⟩
          repeat (first | exact Below.refl _ _ | refine Below.setCell ?_ (by first | omega | (simp; done) | (simp; omega)) _ | refine Below.alloc ?_ (by first | omega | (simp; done) | (simp; omega)) _ | refine below_drewN' ?_ _ | refine Below.drew ?_)

set_option maxRecDepth 100000 in
set_option maxHeartbeats 1000000 in
theorem message0 (b : Nat) (w : World) (h : Sh0 w b) : Calls Tryd.prog 32 #[.pointer (some ⟨b, 0, none⟩)] w fun e w' => e = .returned (.tuple #[.slice none 0 0, .bool false]) ∧ Below w.heap.size w w' := by
  have H := Lib.hid h
  clear h
  go_enter Tryd.func32, Tryd.ntmps32
  go_wp2_with fail
  refine (sbits0 _ _ H.out).mono ?_
  rintro e w' ⟨rfl, rfl⟩
  go_wp2_with fail
  refine wp_loop_rounds 1 ?_
  rw [rounds_succ]
  go_wp2_with fail
  refine (ssays0 _ _ H.out).mono ?_
  rintro e w1 ⟨rfl, hb1⟩
  go_wp2_with fail
  refine (of_any false false false false false false false false _).mono ?_
  rintro e w2 ⟨rfl, hb2⟩
  rw [show bitB false false false false false false false false = false by decide, show okB false false false false false false false false = false by decide]
  go_wp2
  go_ret2
  exact ⟨rfl, hb1.out.trans (hb2.mono hb1.out.size)⟩

set_option maxRecDepth 100000 in
set_option maxHeartbeats 1000000 in
theorem one_any (w : World) : Calls Tryd.prog 36 #[] w fun e w' => e = .returned (.bool true) ∧ Below w.heap.size w w' := by
  have b1 : bitB true true false true true true true true = true := by decide
  have o1 : okB true true false true true true true true = true := by decide
  have b2 : bitB true false false true true true true true = false := by decide
  have o2 : okB true false false true true true true true = false := by decide
  have C1 := Lib.hid (fun W => of_any true true false true true true true true W)
  have C2 := Lib.hid (fun W => of_any true false false true true true true true W)
  rw [b1, o1] at C1
  rw [b2, o2] at C2
  clear b1 o1 b2 o2
  have HO : Hid (Obj1 (w.alloc (.cells #[.bool true, .bool true, .bool true, .bool true] 38)) w.heap.size 38 #[.bool true, .bool true, .bool true, .bool true]) := Obj1.new _ _ _
  go_enter Tryd.func36, Tryd.ntmps36
  go_wp2_with fail
  refine (C1.out _).mono ?_
  rintro e w1 ⟨rfl, hb1⟩
  have HO1 : Hid (Obj1 w1 w.heap.size 38 #[.bool true, .bool true, .bool true, .bool true]) := Lib.hid (HO.out.kept hb1)
  have HB1 : Hid (Below w.heap.size w w1) := Lib.hid (((Below.refl _ _).alloc (Nat.le_refl _) _).trans (hb1.mono (by simp)))
  have d0 : w1.cell? ⟨w.heap.size, 0, none⟩ = some (.bool true) := HO1.out.cell 0
  have d1 : w1.cell? ⟨w.heap.size, 1, none⟩ = some (.bool true) := HO1.out.cell 1
  have d2 : w1.cell? ⟨w.heap.size, 2, none⟩ = some (.bool true) := HO1.out.cell 2
  have d3 : w1.cell? ⟨w.heap.size, 3, none⟩ = some (.bool true) := HO1.out.cell 3
  clear hb1
  go_wp2_with fail
  refine (C2.out _).mono ?_
  rintro e w2 ⟨rfl, hb2⟩
  have HB2 := Lib.hid (HB1.out.trans (hb2.mono HB1.out.size))
  clear hb2 d0 d1 d2 d3
  go_wp2_with fail
  refine (snew_any _).mono ?_
  rintro e w3 ⟨rfl, h3, hb3⟩
  have HB3 := Lib.hid (HB2.out.trans (hb3.out.mono HB2.out.size))
  clear hb3
  go_wp2_with fail
  refine (message0 _ _ h3.out).mono ?_
  rintro e w4 ⟨rfl, hb4⟩
  go_wp2
  go_ret
  exact ⟨rfl, HB3.out.trans (hb4.mono HB3.out.size)⟩
end Go.Proofs.YtnbcegijncdmaaaDoor.Ly16
