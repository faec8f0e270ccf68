/- The contract of package shift's Says on a shift of any size; no condition. -/
import Derived.Test.YtnbcegijncdmaaaDoorShgA
import Derived.Test.YtnbcegijncdmaaaDoorShfC
namespace Go.Proofs.YtnbcegijncdmaaaDoor.Ly15
open Go.ChangeShapes Go.WideShapes Go.ChangeAt Go.RowKit Base Ly3
set_option linter.unusedVariables false
set_option linter.unusedSimpArgs false

def Fo2 (w : World) (s : Nat) (A B : Array Value) : Prop := Obj1 w s 38 #[.bool false, .bool false, .bool false, .bool false] ∧ Obj1 w (s + 1) 38 #[.bool false, .bool false, .bool false, .bool false] ∧ Obj1 w (s + 1 + 1) 38 A ∧ Obj1 w (s + 1 + 1 + 1) 38 B
theorem Fo2.kept {w w' : World} {s : Nat} {A B : Array Value} (h : Fo2 w s A B) (hb : Below w.heap.size w w') : Fo2 w' s A B := ⟨h.1.kept hb, h.2.1.kept hb, h.2.2.1.kept hb, h.2.2.2.kept hb⟩
theorem Fo2.set {w : World} {s : Nat} {A B : Array Value} (h : Fo2 w s A B) (k : Nat) (v u : Value) : Fo2 ((w.setCell ⟨s + 1 + 1, k, none⟩ v).setCell ⟨s + 1 + 1 + 1, k, none⟩ u) s (A.setIfInBounds k v) (B.setIfInBounds k u) := by
  obtain ⟨h0, h1, h2, h3⟩ := h
  exact ⟨(h0.far _ (by simp <;> omega) _).far _ (by simp <;> omega) _, (h1.far _ (by simp <;> omega) _).far _ (by simp <;> omega) _, (h2.set k v).far _ (by simp) _, (h3.far ⟨s + 1 + 1, k, none⟩ (by simp) v).set k u⟩
def GRel (w : World) (p0 p1 p2 p3 q0 q1 q2 q3 : Bool) (i : Value) (wr : World) : Prop := Below w.heap.size w wr ∧ ((i = .int .i64 0 ∧ Fo2 wr w.heap.size #[.bool false, .bool false, .bool false, .bool false] #[.bool false, .bool false, .bool false, .bool false]) ∨ (i = .int .i64 1 ∧ Fo2 wr w.heap.size #[.bool p0, .bool false, .bool false, .bool false] #[.bool q0, .bool false, .bool false, .bool false]) ∨ (i = .int .i64 2 ∧ Fo2 wr w.heap.size #[.bool p0, .bool p1, .bool false, .bool false] #[.bool q0, .bool q1, .bool false, .bool false]) ∨ (i = .int .i64 3 ∧ Fo2 wr w.heap.size #[.bool p0, .bool p1, .bool p2, .bool false] #[.bool q0, .bool q1, .bool q2, .bool false]) ∨ (i = .int .i64 4 ∧ Fo2 wr w.heap.size #[.bool p0, .bool p1, .bool p2, .bool p3] #[.bool q0, .bool q1, .bool q2, .bool q3]))
set_option maxRecDepth 100000 in
set_option maxHeartbeats 2000000 in
theorem says_gen {b n m : Nat} {f : Nat → Bool} (p0 p1 p2 p3 q0 q1 q2 q3 : Bool) (e0 : lineF f 0 m = (p0, q0)) (e1 : lineF f 1 m = (p1, q1)) (e2 : lineF f 2 m = (p2, q2)) (e3 : lineF f 3 m = (p3, q3)) {w : World} (h : ShF w b true n f) (hn : n ≤ 8) (hm : m < 8 * n) :
    Calls Tryd.prog 72 #[.pointer (some ⟨b, 0, none⟩), .int .i64 m] w fun e w' => e = .returned (.tuple #[.agg #[.bool p0, .bool p1, .bool p2, .bool p3], .agg #[.bool q0, .bool q1, .bool q2, .bool q3]]) ∧ Hid (Below w.heap.size w w') := by
  have H := Lib.hid h
  have L0 : Hid (∀ W, ShF W b true n f → Calls Tryd.prog 29 #[.pointer (some ⟨b, 0, none⟩), .int .i64 0, .int .i64 m] W fun e w' => e = .returned (.tuple #[.bool p0, .bool q0]) ∧ Below W.heap.size W w') := Lib.hid (fun W hW => by
    have := line_in (k := 0) hW hn (by omega) hm
    rw [e0] at this
    exact this)
  have L1 : Hid (∀ W, ShF W b true n f → Calls Tryd.prog 29 #[.pointer (some ⟨b, 0, none⟩), .int .i64 1, .int .i64 m] W fun e w' => e = .returned (.tuple #[.bool p1, .bool q1]) ∧ Below W.heap.size W w') := Lib.hid (fun W hW => by
    have := line_in (k := 1) hW hn (by omega) hm
    rw [e1] at this
    exact this)
  have L2 : Hid (∀ W, ShF W b true n f → Calls Tryd.prog 29 #[.pointer (some ⟨b, 0, none⟩), .int .i64 2, .int .i64 m] W fun e w' => e = .returned (.tuple #[.bool p2, .bool q2]) ∧ Below W.heap.size W w') := Lib.hid (fun W hW => by
    have := line_in (k := 2) hW hn (by omega) hm
    rw [e2] at this
    exact this)
  have L3 : Hid (∀ W, ShF W b true n f → Calls Tryd.prog 29 #[.pointer (some ⟨b, 0, none⟩), .int .i64 3, .int .i64 m] W fun e w' => e = .returned (.tuple #[.bool p3, .bool q3]) ∧ Below W.heap.size W w') := Lib.hid (fun W hW => by
    have := line_in (k := 3) hW hn (by omega) hm
    rw [e3] at this
    exact this)
  have H4 : Hid (Fo2 ((((w.alloc (.cells #[.bool false, .bool false, .bool false, .bool false] 38)).alloc (.cells #[.bool false, .bool false, .bool false, .bool false] 38)).alloc (.cells #[.bool false, .bool false, .bool false, .bool false] 38)).alloc (.cells #[.bool false, .bool false, .bool false, .bool false] 38)) w.heap.size #[.bool false, .bool false, .bool false, .bool false] #[.bool false, .bool false, .bool false, .bool false]) := Lib.hid (fo_new w)
  clear h e0 e1 e2 e3 hm
  go_enter Tryd.func72, Tryd.ntmps72
  go_wp2
  go_loopw [9] (fun i wr => GRel w p0 p1 p2 p3 q0 q1 q2 q3 i wr) (fun i _ => 4 - (intOf i).toNat)
  case atStart =>
    refine ⟨?_, .inl ⟨rfl, H4.out⟩⟩
    repeat (first | exact Below.refl _ _ | refine Below.setCell ?_ (by first | omega | (simp; done) | (simp; omega)) _ | refine Below.alloc ?_ (by first | omega | (simp; done) | (simp; omega)) _ | refine below_drewN' ?_ _ | refine Below.drew ?_)
  case round =>
    clear H4
    obtain ⟨hbel, hrel⟩ := hrel
    have HB := Lib.hid hbel
    have HS := Lib.hid (H.out.kept hbel)
    have hz1 := hbel.size
    clear hbel
    rcases hrel with ⟨rfl, h4⟩ | ⟨rfl, h4⟩ | ⟨rfl, h4⟩ | ⟨rfl, h4⟩ | ⟨rfl, h4⟩
    · have K5 := Lib.hid h4
      clear h4
      go_wp2_with fail
      refine (L0.out _ HS.out).mono ?_
      rintro e w' ⟨rfl, hb⟩
      have K6 := Lib.hid (K5.out.kept hb)
      have HB6 := Lib.hid (HB.out.trans (hb.mono hz1))
      have hz6 := HB6.out.size
      clear hb
      have f2 := K6.out.2.2.1.free 0
      have f3 := K6.out.2.2.2.free 0
      have g2 := K6.out.2.2.1.cell 0
      have g3 := K6.out.2.2.2.cell 0
      go_wp2
      go_roundw
      case rel => exact ⟨(HB6.out.setCell (by simp <;> omega) _).setCell (by simp <;> omega) _, .inr (.inl ⟨rfl, K6.out.set 0 (.bool p0) (.bool q0)⟩)⟩
      case measure => simp [intOf]
    · have K5 := Lib.hid h4
      clear h4
      go_wp2_with fail
      refine (L1.out _ HS.out).mono ?_
      rintro e w' ⟨rfl, hb⟩
      have K6 := Lib.hid (K5.out.kept hb)
      have HB6 := Lib.hid (HB.out.trans (hb.mono hz1))
      have hz6 := HB6.out.size
      clear hb
      have f2 := K6.out.2.2.1.free 1
      have f3 := K6.out.2.2.2.free 1
      have g2 := K6.out.2.2.1.cell 1
      have g3 := K6.out.2.2.2.cell 1
      go_wp2
      go_roundw
      case rel => exact ⟨(HB6.out.setCell (by simp <;> omega) _).setCell (by simp <;> omega) _, .inr (.inr (.inl ⟨rfl, K6.out.set 1 (.bool p1) (.bool q1)⟩))⟩
      case measure => simp [intOf]
    · have K5 := Lib.hid h4
      clear h4
      go_wp2_with fail
      refine (L2.out _ HS.out).mono ?_
      rintro e w' ⟨rfl, hb⟩
      have K6 := Lib.hid (K5.out.kept hb)
      have HB6 := Lib.hid (HB.out.trans (hb.mono hz1))
      have hz6 := HB6.out.size
      clear hb
      have f2 := K6.out.2.2.1.free 2
      have f3 := K6.out.2.2.2.free 2
      have g2 := K6.out.2.2.1.cell 2
      have g3 := K6.out.2.2.2.cell 2
      go_wp2
      go_roundw
      case rel => exact ⟨(HB6.out.setCell (by simp <;> omega) _).setCell (by simp <;> omega) _, .inr (.inr (.inr (.inl ⟨rfl, K6.out.set 2 (.bool p2) (.bool q2)⟩)))⟩
      case measure => simp [intOf]
    · have K5 := Lib.hid h4
      clear h4
      go_wp2_with fail
      refine (L3.out _ HS.out).mono ?_
      rintro e w' ⟨rfl, hb⟩
      have K6 := Lib.hid (K5.out.kept hb)
      have HB6 := Lib.hid (HB.out.trans (hb.mono hz1))
      have hz6 := HB6.out.size
      clear hb
      have f2 := K6.out.2.2.1.free 3
      have f3 := K6.out.2.2.2.free 3
      have g2 := K6.out.2.2.1.cell 3
      have g3 := K6.out.2.2.2.cell 3
      go_wp2
      go_roundw
      case rel => exact ⟨(HB6.out.setCell (by simp <;> omega) _).setCell (by simp <;> omega) _, .inr (.inr (.inr (.inr (⟨rfl, K6.out.set 3 (.bool p3) (.bool q3)⟩))))⟩
      case measure => simp [intOf]
    · have K5 := Lib.hid h4
      clear h4
      have a0 := K5.out.1.cell 0
      have a1 := K5.out.1.cell 1
      have a2 := K5.out.1.cell 2
      have a3 := K5.out.1.cell 3
      have b0 := K5.out.2.1.cell 0
      have b1 := K5.out.2.1.cell 1
      have b2 := K5.out.2.1.cell 2
      have b3 := K5.out.2.1.cell 3
      have c0 := K5.out.2.2.1.cell 0
      have c1 := K5.out.2.2.1.cell 1
      have c2 := K5.out.2.2.1.cell 2
      have c3 := K5.out.2.2.1.cell 3
      have d0 := K5.out.2.2.2.cell 0
      have d1 := K5.out.2.2.2.cell 1
      have d2 := K5.out.2.2.2.cell 2
      have d3 := K5.out.2.2.2.cell 3
      simp at a0 a1 a2 a3 b0 b1 b2 b3 c0 c1 c2 c3 d0 d1 d2 d3
      have fa0 := K5.out.1.free 0
      have fa1 := K5.out.1.free 1
      have fa2 := K5.out.1.free 2
      have fa3 := K5.out.1.free 3
      have fb0 := K5.out.2.1.free 0
      have fb1 := K5.out.2.1.free 1
      have fb2 := K5.out.2.1.free 2
      have fb3 := K5.out.2.1.free 3
      go_wp2_with fail
      go_region
      go_wp2
      refine bodyPost_ret (v := .tuple #[.agg #[.bool p0, .bool p1, .bool p2, .bool p3], .agg #[.bool q0, .bool q1, .bool q2, .bool q3]]) (by simp [results, Tryd.results72, go_sem, a0, a1, a2, a3, b0, b1, b2, b3]) rfl ⟨rfl, ?_⟩
      exact Lib.hid (below8 HB.out _ _ _ _ _ _ _ _).drew
end Go.Proofs.YtnbcegijncdmaaaDoor.Ly15
