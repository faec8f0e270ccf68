/- The contracts of package shift's Line, Says and Seen on a shift of one word of which the first bit was looked at, and of layer 15's closed example. -/
import Derived.Test.YtnbcegijncdmaaaDoorShfB
import Derived.RegionTactic
namespace Go.Proofs.YtnbcegijncdmaaaDoor.Ly15
open Go.ChangeShapes Go.WideShapes Go.ChangeAt Go.RowKit Base Ly3
set_option linter.unusedVariables false
set_option linter.unusedSimpArgs false

/-- All lines said the first bit; no other bit was looked at. -/
def Fin1 (f : Nat → Bool) : Prop := (∀ k, k < 4 → f (2 + 256 * k) = true ∧ f (3 + 256 * k) = true ∧ f (4 + 256 * k) = false ∧ f (5 + 256 * k) = true) ∧ ∀ n, 1 ≤ n → n < 8 → f (3 + 4 * n) = false ∧ f (5 + 4 * n) = false
set_option maxRecDepth 100000 in
set_option maxHeartbeats 1000000 in
theorem line_0 (b : Nat) (f : Nat → Bool) (hf : Fin1 f) (w : World) (h : ShF w b true 1 f) : Calls Tryd.prog 29 #[.pointer (some ⟨b, 0, none⟩), .int .i64 0, .int .i64 0] w fun e w' => e = .returned (.tuple #[.bool true, .bool true]) ∧ Below w.heap.size w w' := by
  have H := Lib.hid h
  have hlt := h.lt
  have k0 := h.more 2 (by omega) (by omega)
  have k1 := h.more 3 (by omega) (by omega)
  have k2 := h.more 4 (by omega) (by omega)
  have k3 := h.more 5 (by omega) (by omega)
  obtain ⟨e0, e1, e2, e3⟩ := hf.1 0 (by omega)
  rw [show f 2 = true from e0] at k0
  rw [show f 3 = true from e1] at k1
  rw [show f 4 = false from e2] at k2
  rw [show f 5 = true from e3] at k3
  clear h e0 e1 e2 e3 hf
  go_enter Tryd.func29, Tryd.ntmps29
  go_wp2_with (first | (go_at_call 73; refine (sis0 _ _ _ H.out).mono ?_; rintro e w' ⟨rfl, rfl⟩) | (go_at_call 76; refine (of_any _ _ _).mono ?_; rintro e w' ⟨rfl, rfl⟩))
  go_ret2
  refine ⟨rfl, ?_⟩
  repeat (first | exact Below.refl _ _ | refine Below.setCell ?_ (by first | omega | (simp; done) | (simp; omega)) _ | refine Below.alloc ?_ (by first | omega | (simp; done) | (simp; omega)) _ | refine below_drewN' ?_ _ | refine Below.drew ?_)
set_option maxRecDepth 100000 in
set_option maxHeartbeats 1000000 in
theorem line_1 (b : Nat) (f : Nat → Bool) (hf : Fin1 f) (w : World) (h : ShF w b true 1 f) : Calls Tryd.prog 29 #[.pointer (some ⟨b, 0, none⟩), .int .i64 1, .int .i64 0] w fun e w' => e = .returned (.tuple #[.bool true, .bool true]) ∧ Below w.heap.size w w' := by
  have H := Lib.hid h
  have hlt := h.lt
  have k0 := h.more 258 (by omega) (by omega)
  have k1 := h.more 259 (by omega) (by omega)
  have k2 := h.more 260 (by omega) (by omega)
  have k3 := h.more 261 (by omega) (by omega)
  obtain ⟨e0, e1, e2, e3⟩ := hf.1 1 (by omega)
  rw [show f 258 = true from e0] at k0
  rw [show f 259 = true from e1] at k1
  rw [show f 260 = false from e2] at k2
  rw [show f 261 = true from e3] at k3
  clear h e0 e1 e2 e3 hf
  go_enter Tryd.func29, Tryd.ntmps29
  go_wp2_with (first | (go_at_call 73; refine (sis0 _ _ _ H.out).mono ?_; rintro e w' ⟨rfl, rfl⟩) | (go_at_call 76; refine (of_any _ _ _).mono ?_; rintro e w' ⟨rfl, rfl⟩))
  go_ret2
  refine ⟨rfl, ?_⟩
  repeat (first | exact Below.refl _ _ | refine Below.setCell ?_ (by first | omega | (simp; done) | (simp; omega)) _ | refine Below.alloc ?_ (by first | omega | (simp; done) | (simp; omega)) _ | refine below_drewN' ?_ _ | refine Below.drew ?_)
set_option maxRecDepth 100000 in
set_option maxHeartbeats 1000000 in
theorem line_2 (b : Nat) (f : Nat → Bool) (hf : Fin1 f) (w : World) (h : ShF w b true 1 f) : Calls Tryd.prog 29 #[.pointer (some ⟨b, 0, none⟩), .int .i64 2, .int .i64 0] w fun e w' => e = .returned (.tuple #[.bool true, .bool true]) ∧ Below w.heap.size w w' := by
  have H := Lib.hid h
  have hlt := h.lt
  have k0 := h.more 514 (by omega) (by omega)
  have k1 := h.more 515 (by omega) (by omega)
  have k2 := h.more 516 (by omega) (by omega)
  have k3 := h.more 517 (by omega) (by omega)
  obtain ⟨e0, e1, e2, e3⟩ := hf.1 2 (by omega)
  rw [show f 514 = true from e0] at k0
  rw [show f 515 = true from e1] at k1
  rw [show f 516 = false from e2] at k2
  rw [show f 517 = true from e3] at k3
  clear h e0 e1 e2 e3 hf
  go_enter Tryd.func29, Tryd.ntmps29
  go_wp2_with (first | (go_at_call 73; refine (sis0 _ _ _ H.out).mono ?_; rintro e w' ⟨rfl, rfl⟩) | (go_at_call 76; refine (of_any _ _ _).mono ?_; rintro e w' ⟨rfl, rfl⟩))
  go_ret2
  refine ⟨rfl, ?_⟩
  repeat (first | exact Below.refl _ _ | refine Below.setCell ?_ (by first | omega | (simp; done) | (simp; omega)) _ | refine Below.alloc ?_ (by first | omega | (simp; done) | (simp; omega)) _ | refine below_drewN' ?_ _ | refine Below.drew ?_)
set_option maxRecDepth 100000 in
set_option maxHeartbeats 1000000 in
theorem line_3 (b : Nat) (f : Nat → Bool) (hf : Fin1 f) (w : World) (h : ShF w b true 1 f) : Calls Tryd.prog 29 #[.pointer (some ⟨b, 0, none⟩), .int .i64 3, .int .i64 0] w fun e w' => e = .returned (.tuple #[.bool true, .bool true]) ∧ Below w.heap.size w w' := by
  have H := Lib.hid h
  have hlt := h.lt
  have k0 := h.more 770 (by omega) (by omega)
  have k1 := h.more 771 (by omega) (by omega)
  have k2 := h.more 772 (by omega) (by omega)
  have k3 := h.more 773 (by omega) (by omega)
  obtain ⟨e0, e1, e2, e3⟩ := hf.1 3 (by omega)
  rw [show f 770 = true from e0] at k0
  rw [show f 771 = true from e1] at k1
  rw [show f 772 = false from e2] at k2
  rw [show f 773 = true from e3] at k3
  clear h e0 e1 e2 e3 hf
  go_enter Tryd.func29, Tryd.ntmps29
  go_wp2_with (first | (go_at_call 73; refine (sis0 _ _ _ H.out).mono ?_; rintro e w' ⟨rfl, rfl⟩) | (go_at_call 76; refine (of_any _ _ _).mono ?_; rintro e w' ⟨rfl, rfl⟩))
  go_ret2
  refine ⟨rfl, ?_⟩
  repeat (first | exact Below.refl _ _ | refine Below.setCell ?_ (by first | omega | (simp; done) | (simp; omega)) _ | refine Below.alloc ?_ (by first | omega | (simp; done) | (simp; omega)) _ | refine below_drewN' ?_ _ | refine Below.drew ?_)
/-- The blocks of a call of Says behind k lines. -/
def Fo (w : World) (s : Nat) (A : Array Value) : Prop := Obj1 w s 38 #[.bool false, .bool false, .bool false, .bool false] ∧ Obj1 w (s + 1) 38 #[.bool false, .bool false, .bool false, .bool false] ∧ Obj1 w (s + 1 + 1) 38 A ∧ Obj1 w (s + 1 + 1 + 1) 38 A
theorem fo_new (w : World) : Fo ((((w.alloc (.cells #[.bool false, .bool false, .bool false, .bool false] 38)).alloc (.cells #[.bool false, .bool false, .bool false, .bool false] 38)).alloc (.cells #[.bool false, .bool false, .bool false, .bool false] 38)).alloc (.cells #[.bool false, .bool false, .bool false, .bool false] 38)) w.heap.size #[.bool false, .bool false, .bool false, .bool false] := by
  have A0 := Obj1.new w 38 #[.bool false, .bool false, .bool false, .bool false]
  have A1 := Obj1.new (w.alloc (.cells #[.bool false, .bool false, .bool false, .bool false] 38)) 38 #[.bool false, .bool false, .bool false, .bool false]
  have A2 := Obj1.new ((w.alloc (.cells #[.bool false, .bool false, .bool false, .bool false] 38)).alloc (.cells #[.bool false, .bool false, .bool false, .bool false] 38)) 38 #[.bool false, .bool false, .bool false, .bool false]
  have A3 := Obj1.new (((w.alloc (.cells #[.bool false, .bool false, .bool false, .bool false] 38)).alloc (.cells #[.bool false, .bool false, .bool false, .bool false] 38)).alloc (.cells #[.bool false, .bool false, .bool false, .bool false] 38)) 38 #[.bool false, .bool false, .bool false, .bool false]
  have e1 : (w.alloc (.cells #[.bool false, .bool false, .bool false, .bool false] 38)).heap.size = w.heap.size + 1 := by simp
  have e2 : ((w.alloc (.cells #[.bool false, .bool false, .bool false, .bool false] 38)).alloc (.cells #[.bool false, .bool false, .bool false, .bool false] 38)).heap.size = w.heap.size + 1 + 1 := by simp
  have e3 : (((w.alloc (.cells #[.bool false, .bool false, .bool false, .bool false] 38)).alloc (.cells #[.bool false, .bool false, .bool false, .bool false] 38)).alloc (.cells #[.bool false, .bool false, .bool false, .bool false] 38)).heap.size = w.heap.size + 1 + 1 + 1 := by simp
  rw [e1] at A1
  rw [e2] at A2
  rw [e3] at A3
  exact ⟨((A0.alloc (.cells #[.bool false, .bool false, .bool false, .bool false] 38)).alloc (.cells #[.bool false, .bool false, .bool false, .bool false] 38)).alloc (.cells #[.bool false, .bool false, .bool false, .bool false] 38), (A1.alloc (.cells #[.bool false, .bool false, .bool false, .bool false] 38)).alloc (.cells #[.bool false, .bool false, .bool false, .bool false] 38), A2.alloc (.cells #[.bool false, .bool false, .bool false, .bool false] 38), A3⟩
theorem Fo.kept {w w' : World} {s : Nat} {A : Array Value} (h : Fo w s A) (hb : Below w.heap.size w w') : Fo w' s A := ⟨h.1.kept hb, h.2.1.kept hb, h.2.2.1.kept hb, h.2.2.2.kept hb⟩
theorem Fo.set {w : World} {s : Nat} {A : Array Value} (h : Fo w s A) (k : Nat) (v : Value) : Fo ((w.setCell ⟨s + 1 + 1, k, none⟩ v).setCell ⟨s + 1 + 1 + 1, k, none⟩ v) s (A.setIfInBounds k v) := by
  obtain ⟨h0, h1, h2, h3⟩ := h
  exact ⟨(h0.far _ (by simp <;> omega) _).far _ (by simp <;> omega) _, (h1.far _ (by simp <;> omega) _).far _ (by simp <;> omega) _, (h2.set k v).far _ (by simp) _, (h3.far ⟨s + 1 + 1, k, none⟩ (by simp) v).set k v⟩
theorem below8 {w wr : World} (h : Below w.heap.size w wr) (v0 v1 v2 v3 u0 u1 u2 u3 : Value) : Below w.heap.size w ((((((((wr.setCell ⟨w.heap.size, 0, none⟩ v0).setCell ⟨w.heap.size, 1, none⟩ v1).setCell ⟨w.heap.size, 2, none⟩ v2).setCell ⟨w.heap.size, 3, none⟩ v3).setCell ⟨w.heap.size + 1, 0, none⟩ u0).setCell ⟨w.heap.size + 1, 1, none⟩ u1).setCell ⟨w.heap.size + 1, 2, none⟩ u2).setCell ⟨w.heap.size + 1, 3, none⟩ u3) :=
  (((((((h.setCell (Nat.le_refl _) _).setCell (Nat.le_refl _) _).setCell (Nat.le_refl _) _).setCell (Nat.le_refl _) _).setCell (Nat.le_succ _) _).setCell (Nat.le_succ _) _).setCell (Nat.le_succ _) _).setCell (Nat.le_succ _) _
def YRel (w : World) (i : Value) (wr : World) : Prop := Below w.heap.size w wr ∧ ((i = .int .i64 0 ∧ Fo wr w.heap.size #[.bool false, .bool false, .bool false, .bool false]) ∨ (i = .int .i64 1 ∧ Fo wr w.heap.size #[.bool true, .bool false, .bool false, .bool false]) ∨ (i = .int .i64 2 ∧ Fo wr w.heap.size #[.bool true, .bool true, .bool false, .bool false]) ∨ (i = .int .i64 3 ∧ Fo wr w.heap.size #[.bool true, .bool true, .bool true, .bool false]) ∨ (i = .int .i64 4 ∧ Fo wr w.heap.size #[.bool true, .bool true, .bool true, .bool true]))
set_option maxRecDepth 100000 in
set_option maxHeartbeats 1000000 in
theorem says_fin (b : Nat) (f : Nat → Bool) (hf : Fin1 f) (w : World) (h : ShF w b true 1 f) : Calls Tryd.prog 72 #[.pointer (some ⟨b, 0, none⟩), .int .i64 0] w fun e w' => e = .returned (.tuple #[.agg #[.bool true, .bool true, .bool true, .bool true], .agg #[.bool true, .bool true, .bool true, .bool true]]) ∧ Hid (Below w.heap.size w w') := by
  have H := Lib.hid h
  have HF := Lib.hid hf
  have H4 := Lib.hid (fo_new w)
  clear h hf
  go_enter Tryd.func72, Tryd.ntmps72
  go_wp2
  go_loopw [9] (fun i wr => YRel w i wr) (fun i _ => 4 - (intOf i).toNat)
  case atStart =>
    refine ⟨?_, .inl ⟨rfl, H4.out⟩⟩
    repeat (first | exact Below.refl _ _ | refine Below.setCell ?_ (by first | omega | (simp; done) | (simp; omega)) _ | refine Below.alloc ?_ (by first | omega | (simp; done) | (simp; omega)) _ | refine below_drewN' ?_ _ | refine Below.drew ?_)
  case round =>
    clear H4
    obtain ⟨hbel, hrel⟩ := hrel
    have HB := Lib.hid hbel
    have HS := Lib.hid (H.out.kept hbel)
    clear hbel
    rcases hrel with ⟨rfl, h4⟩ | ⟨rfl, h4⟩ | ⟨rfl, h4⟩ | ⟨rfl, h4⟩ | ⟨rfl, h4⟩
    · have K4 := Lib.hid h4
      clear h4
      go_wp2_with fail
      refine (line_0 b f HF.out _ HS.out).mono ?_
      rintro e w1 ⟨rfl, hb1⟩
      have K5 := Lib.hid (K4.out.kept hb1)
      have HB1 := Lib.hid (HB.out.trans (hb1.mono HB.out.size))
      have hz1 := HB1.out.size
      clear hb1 K4 HB
      have f2 := K5.out.2.2.1.free 0
      have f3 := K5.out.2.2.2.free 0
      have g2 := K5.out.2.2.1.cell 0
      have g3 := K5.out.2.2.2.cell 0
      go_wp2
      go_roundw
      case rel => exact ⟨(HB1.out.setCell (by simp <;> omega) _).setCell (by simp <;> omega) _, .inr (.inl ⟨rfl, K5.out.set 0 (.bool true)⟩)⟩
      case measure => simp [intOf]
    · have K4 := Lib.hid h4
      clear h4
      go_wp2_with fail
      refine (line_1 b f HF.out _ HS.out).mono ?_
      rintro e w1 ⟨rfl, hb1⟩
      have K5 := Lib.hid (K4.out.kept hb1)
      have HB1 := Lib.hid (HB.out.trans (hb1.mono HB.out.size))
      have hz1 := HB1.out.size
      clear hb1 K4 HB
      have f2 := K5.out.2.2.1.free 1
      have f3 := K5.out.2.2.2.free 1
      have g2 := K5.out.2.2.1.cell 1
      have g3 := K5.out.2.2.2.cell 1
      go_wp2
      go_roundw
      case rel => exact ⟨(HB1.out.setCell (by simp <;> omega) _).setCell (by simp <;> omega) _, .inr (.inr (.inl ⟨rfl, K5.out.set 1 (.bool true)⟩))⟩
      case measure => simp [intOf]
    · have K4 := Lib.hid h4
      clear h4
      go_wp2_with fail
      refine (line_2 b f HF.out _ HS.out).mono ?_
      rintro e w1 ⟨rfl, hb1⟩
      have K5 := Lib.hid (K4.out.kept hb1)
      have HB1 := Lib.hid (HB.out.trans (hb1.mono HB.out.size))
      have hz1 := HB1.out.size
      clear hb1 K4 HB
      have f2 := K5.out.2.2.1.free 2
      have f3 := K5.out.2.2.2.free 2
      have g2 := K5.out.2.2.1.cell 2
      have g3 := K5.out.2.2.2.cell 2
      go_wp2
      go_roundw
      case rel => exact ⟨(HB1.out.setCell (by simp <;> omega) _).setCell (by simp <;> omega) _, .inr (.inr (.inr (.inl ⟨rfl, K5.out.set 2 (.bool true)⟩)))⟩
      case measure => simp [intOf]
    · have K4 := Lib.hid h4
      clear h4
      go_wp2_with fail
      refine (line_3 b f HF.out _ HS.out).mono ?_
      rintro e w1 ⟨rfl, hb1⟩
      have K5 := Lib.hid (K4.out.kept hb1)
      have HB1 := Lib.hid (HB.out.trans (hb1.mono HB.out.size))
      have hz1 := HB1.out.size
      clear hb1 K4 HB
      have f2 := K5.out.2.2.1.free 3
      have f3 := K5.out.2.2.2.free 3
      have g2 := K5.out.2.2.1.cell 3
      have g3 := K5.out.2.2.2.cell 3
      go_wp2
      go_roundw
      case rel => exact ⟨(HB1.out.setCell (by simp <;> omega) _).setCell (by simp <;> omega) _, .inr (.inr (.inr (.inr ⟨rfl, K5.out.set 3 (.bool true)⟩)))⟩
      case measure => simp [intOf]
    · have z := HB.out.size
      have K4 := Lib.hid h4
      clear h4
      have a0 := K4.out.1.cell 0
      have a1 := K4.out.1.cell 1
      have a2 := K4.out.1.cell 2
      have a3 := K4.out.1.cell 3
      have b0 := K4.out.2.1.cell 0
      have b1 := K4.out.2.1.cell 1
      have b2 := K4.out.2.1.cell 2
      have b3 := K4.out.2.1.cell 3
      have c0 := K4.out.2.2.1.cell 0
      have c1 := K4.out.2.2.1.cell 1
      have c2 := K4.out.2.2.1.cell 2
      have c3 := K4.out.2.2.1.cell 3
      have d0 := K4.out.2.2.2.cell 0
      have d1 := K4.out.2.2.2.cell 1
      have d2 := K4.out.2.2.2.cell 2
      have d3 := K4.out.2.2.2.cell 3
      simp at a0 a1 a2 a3 b0 b1 b2 b3 c0 c1 c2 c3 d0 d1 d2 d3
      have fa0 := K4.out.1.free 0
      have fa1 := K4.out.1.free 1
      have fa2 := K4.out.1.free 2
      have fa3 := K4.out.1.free 3
      have fb0 := K4.out.2.1.free 0
      have fb1 := K4.out.2.1.free 1
      have fb2 := K4.out.2.1.free 2
      have fb3 := K4.out.2.1.free 3
      go_wp2_with fail
      go_region
      go_wp2
      refine bodyPost_ret (v := .tuple #[.agg #[.bool true, .bool true, .bool true, .bool true], .agg #[.bool true, .bool true, .bool true, .bool true]]) (by simp [results, Tryd.results72, go_sem, a0, a1, a2, a3, b0, b1, b2, b3]) rfl ⟨rfl, ?_⟩
      exact Lib.hid (below8 HB.out _ _ _ _ _ _ _ _).drew

theorem idxh0 (a b c d : Bool) (W : World) : (Instr.index 104 (.agg #[.bool a, .bool b, .bool c, .bool d]) (.int .i64 0)).run Tryd.prog W = .ok (.agg #[.bool a, .bool b]) W := by kernel_rfl
theorem idxh1 (a b c d : Bool) (W : World) : (Instr.index 104 (.agg #[.bool a, .bool b, .bool c, .bool d]) (.int .i64 1)).run Tryd.prog W = .ok (.agg #[.bool c, .bool d]) W := by kernel_rfl
def ZRel (w : World) (sn i : Value) (wr : World) : Prop := ∃ n : Nat, n ≤ 8 ∧ i = .int .i64 n ∧ sn = .int .i64 (if n = 0 then 0 else 2) ∧ Below w.heap.size w wr
set_option maxRecDepth 100000 in
set_option maxHeartbeats 2000000 in
theorem seen_fin (b : Nat) (f : Nat → Bool) (hf : Fin1 f) (w : World) (h : ShF w b true 1 f) : Calls Tryd.prog 27 #[.pointer (some ⟨b, 0, none⟩)] w fun e w' => e = .returned (.int .i64 2) ∧ Hid (Below w.heap.size w w') := by
  have H := Lib.hid h
  have HF := Lib.hid hf
  clear h hf
  go_enter Tryd.func27, Tryd.ntmps27
  go_wp2_with fail
  refine (sbits1 b f _ H.out).mono ?_
  rintro e w' ⟨rfl, rfl⟩
  go_wp2_with fail
  go_loopw [3, 9] (fun sn i wr => ZRel w sn i wr) (fun _ i _ => 8 - (intOf i).toNat)
  case atStart => exact ⟨0, by omega, rfl, rfl, Below.refl _ _⟩
  case round =>
    obtain ⟨n, hn, rfl, rfl, hbel⟩ := hrel
    have HB := Lib.hid hbel
    have HS := Lib.hid (H.out.kept hbel)
    have hz := hbel.size
    clear hbel
    rcases (show n = 0 ∨ n = 1 ∨ n = 2 ∨ n = 3 ∨ n = 4 ∨ n = 5 ∨ n = 6 ∨ n = 7 ∨ n = 8 by omega) with rfl | rfl | rfl | rfl | rfl | rfl | rfl | rfl | rfl
    · have k0 := HS.out.more 2 (by omega) (by omega)
      have k1 := HS.out.more 3 (by omega) (by omega)
      have k2 := HS.out.more 4 (by omega) (by omega)
      have k3 := HS.out.more 5 (by omega) (by omega)
      obtain ⟨e0, e1, e2, e3⟩ := HF.out.1 0 (by omega)
      rw [show f 3 = true from e1] at k1
      rw [show f 5 = true from e3] at k3
      clear e1 e3 e0 e2
      have i0 := fun W => idxh0 (f 2) true (f 4) true W
      have i1 := fun W => idxh1 (f 2) true (f 4) true W
      go_wp2_with fail
      refine wp_loop_rounds 3 ?_
      rw [rounds_succ]
      go_wp2_with fail
      rw [rounds_succ]
      go_wp2_with fail
      rw [rounds_succ]
      go_wp2_with fail
      go_roundw
      case rel =>
        refine ⟨1, by omega, rfl, rfl, ?_⟩
        repeat (first | exact Below.refl _ _ | refine Below.setCell ?_ (by first | omega | (simp; done) | (simp; omega) | (have := HB.out.size; simp at this ⊢; omega)) _ | refine Below.alloc ?_ (by first | omega | (simp; done) | (simp; omega) | (have := HB.out.size; simp at this ⊢; omega)) _ | refine below_drewN' ?_ _ | refine Below.drew ?_ | refine Below.trans ?_ (HB.out.mono (by first | omega | (simp; done) | (simp; omega) | (have := HB.out.size; simp at this ⊢; omega))))
      case measure => simp [intOf]
    · have k0 := HS.out.more 6 (by omega) (by omega)
      have k1 := HS.out.more 7 (by omega) (by omega)
      have k2 := HS.out.more 8 (by omega) (by omega)
      have k3 := HS.out.more 9 (by omega) (by omega)
      obtain ⟨e1, e3⟩ := HF.out.2 1 (by omega) (by omega)
      rw [show f 7 = false from e1] at k1
      rw [show f 9 = false from e3] at k3
      clear e1 e3
      have i0 := fun W => idxh0 (f 6) false (f 8) false W
      have i1 := fun W => idxh1 (f 6) false (f 8) false W
      go_wp2_with fail
      refine wp_loop_rounds 3 ?_
      rw [rounds_succ]
      go_wp2_with fail
      rw [rounds_succ]
      go_wp2_with fail
      rw [rounds_succ]
      go_wp2_with fail
      go_roundw
      case rel =>
        refine ⟨2, by omega, rfl, rfl, ?_⟩
        repeat (first | exact Below.refl _ _ | refine Below.setCell ?_ (by first | omega | (simp; done) | (simp; omega) | (have := HB.out.size; simp at this ⊢; omega)) _ | refine Below.alloc ?_ (by first | omega | (simp; done) | (simp; omega) | (have := HB.out.size; simp at this ⊢; omega)) _ | refine below_drewN' ?_ _ | refine Below.drew ?_ | refine Below.trans ?_ (HB.out.mono (by first | omega | (simp; done) | (simp; omega) | (have := HB.out.size; simp at this ⊢; omega))))
      case measure => simp [intOf]
    · have k0 := HS.out.more 10 (by omega) (by omega)
      have k1 := HS.out.more 11 (by omega) (by omega)
      have k2 := HS.out.more 12 (by omega) (by omega)
      have k3 := HS.out.more 13 (by omega) (by omega)
      obtain ⟨e1, e3⟩ := HF.out.2 2 (by omega) (by omega)
      rw [show f 11 = false from e1] at k1
      rw [show f 13 = false from e3] at k3
      clear e1 e3
      have i0 := fun W => idxh0 (f 10) false (f 12) false W
      have i1 := fun W => idxh1 (f 10) false (f 12) false W
      go_wp2_with fail
      refine wp_loop_rounds 3 ?_
      rw [rounds_succ]
      go_wp2_with fail
      rw [rounds_succ]
      go_wp2_with fail
      rw [rounds_succ]
      go_wp2_with fail
      go_roundw
      case rel =>
        refine ⟨3, by omega, rfl, rfl, ?_⟩
        repeat (first | exact Below.refl _ _ | refine Below.setCell ?_ (by first | omega | (simp; done) | (simp; omega) | (have := HB.out.size; simp at this ⊢; omega)) _ | refine Below.alloc ?_ (by first | omega | (simp; done) | (simp; omega) | (have := HB.out.size; simp at this ⊢; omega)) _ | refine below_drewN' ?_ _ | refine Below.drew ?_ | refine Below.trans ?_ (HB.out.mono (by first | omega | (simp; done) | (simp; omega) | (have := HB.out.size; simp at this ⊢; omega))))
      case measure => simp [intOf]
    · have k0 := HS.out.more 14 (by omega) (by omega)
      have k1 := HS.out.more 15 (by omega) (by omega)
      have k2 := HS.out.more 16 (by omega) (by omega)
      have k3 := HS.out.more 17 (by omega) (by omega)
      obtain ⟨e1, e3⟩ := HF.out.2 3 (by omega) (by omega)
      rw [show f 15 = false from e1] at k1
      rw [show f 17 = false from e3] at k3
      clear e1 e3
      have i0 := fun W => idxh0 (f 14) false (f 16) false W
      have i1 := fun W => idxh1 (f 14) false (f 16) false W
      go_wp2_with fail
      refine wp_loop_rounds 3 ?_
      rw [rounds_succ]
      go_wp2_with fail
      rw [rounds_succ]
      go_wp2_with fail
      rw [rounds_succ]
      go_wp2_with fail
      go_roundw
      case rel =>
        refine ⟨4, by omega, rfl, rfl, ?_⟩
        repeat (first | exact Below.refl _ _ | refine Below.setCell ?_ (by first | omega | (simp; done) | (simp; omega) | (have := HB.out.size; simp at this ⊢; omega)) _ | refine Below.alloc ?_ (by first | omega | (simp; done) | (simp; omega) | (have := HB.out.size; simp at this ⊢; omega)) _ | refine below_drewN' ?_ _ | refine Below.drew ?_ | refine Below.trans ?_ (HB.out.mono (by first | omega | (simp; done) | (simp; omega) | (have := HB.out.size; simp at this ⊢; omega))))
      case measure => simp [intOf]
    · have k0 := HS.out.more 18 (by omega) (by omega)
      have k1 := HS.out.more 19 (by omega) (by omega)
      have k2 := HS.out.more 20 (by omega) (by omega)
      have k3 := HS.out.more 21 (by omega) (by omega)
      obtain ⟨e1, e3⟩ := HF.out.2 4 (by omega) (by omega)
      rw [show f 19 = false from e1] at k1
      rw [show f 21 = false from e3] at k3
      clear e1 e3
      have i0 := fun W => idxh0 (f 18) false (f 20) false W
      have i1 := fun W => idxh1 (f 18) false (f 20) false W
      go_wp2_with fail
      refine wp_loop_rounds 3 ?_
      rw [rounds_succ]
      go_wp2_with fail
      rw [rounds_succ]
      go_wp2_with fail
      rw [rounds_succ]
      go_wp2_with fail
      go_roundw
      case rel =>
        refine ⟨5, by omega, rfl, rfl, ?_⟩
        repeat (first | exact Below.refl _ _ | refine Below.setCell ?_ (by first | omega | (simp; done) | (simp; omega) | (have := HB.out.size; simp at this ⊢; omega)) _ | refine Below.alloc ?_ (by first | omega | (simp; done) | (simp; omega) | (have := HB.out.size; simp at this ⊢; omega)) _ | refine below_drewN' ?_ _ | refine Below.drew ?_ | refine Below.trans ?_ (HB.out.mono (by first | omega | (simp; done) | (simp; omega) | (have := HB.out.size; simp at this ⊢; omega))))
      case measure => simp [intOf]
    · have k0 := HS.out.more 22 (by omega) (by omega)
      have k1 := HS.out.more 23 (by omega) (by omega)
      have k2 := HS.out.more 24 (by omega) (by omega)
      have k3 := HS.out.more 25 (by omega) (by omega)
      obtain ⟨e1, e3⟩ := HF.out.2 5 (by omega) (by omega)
      rw [show f 23 = false from e1] at k1
      rw [show f 25 = false from e3] at k3
      clear e1 e3
      have i0 := fun W => idxh0 (f 22) false (f 24) false W
      have i1 := fun W => idxh1 (f 22) false (f 24) false W
      go_wp2_with fail
      refine wp_loop_rounds 3 ?_
      rw [rounds_succ]
      go_wp2_with fail
      rw [rounds_succ]
      go_wp2_with fail
      rw [rounds_succ]
      go_wp2_with fail
      go_roundw
      case rel =>
        refine ⟨6, by omega, rfl, rfl, ?_⟩
        repeat (first | exact Below.refl _ _ | refine Below.setCell ?_ (by first | omega | (simp; done) | (simp; omega) | (have := HB.out.size; simp at this ⊢; omega)) _ | refine Below.alloc ?_ (by first | omega | (simp; done) | (simp; omega) | (have := HB.out.size; simp at this ⊢; omega)) _ | refine below_drewN' ?_ _ | refine Below.drew ?_ | refine Below.trans ?_ (HB.out.mono (by first | omega | (simp; done) | (simp; omega) | (have := HB.out.size; simp at this ⊢; omega))))
      case measure => simp [intOf]
    · have k0 := HS.out.more 26 (by omega) (by omega)
      have k1 := HS.out.more 27 (by omega) (by omega)
      have k2 := HS.out.more 28 (by omega) (by omega)
      have k3 := HS.out.more 29 (by omega) (by omega)
      obtain ⟨e1, e3⟩ := HF.out.2 6 (by omega) (by omega)
      rw [show f 27 = false from e1] at k1
      rw [show f 29 = false from e3] at k3
      clear e1 e3
      have i0 := fun W => idxh0 (f 26) false (f 28) false W
      have i1 := fun W => idxh1 (f 26) false (f 28) false W
      go_wp2_with fail
      refine wp_loop_rounds 3 ?_
      rw [rounds_succ]
      go_wp2_with fail
      rw [rounds_succ]
      go_wp2_with fail
      rw [rounds_succ]
      go_wp2_with fail
      go_roundw
      case rel =>
        refine ⟨7, by omega, rfl, rfl, ?_⟩
        repeat (first | exact Below.refl _ _ | refine Below.setCell ?_ (by first | omega | (simp; done) | (simp; omega) | (have := HB.out.size; simp at this ⊢; omega)) _ | refine Below.alloc ?_ (by first | omega | (simp; done) | (simp; omega) | (have := HB.out.size; simp at this ⊢; omega)) _ | refine below_drewN' ?_ _ | refine Below.drew ?_ | refine Below.trans ?_ (HB.out.mono (by first | omega | (simp; done) | (simp; omega) | (have := HB.out.size; simp at this ⊢; omega))))
      case measure => simp [intOf]
    · have k0 := HS.out.more 30 (by omega) (by omega)
      have k1 := HS.out.more 31 (by omega) (by omega)
      have k2 := HS.out.more 32 (by omega) (by omega)
      have k3 := HS.out.more 33 (by omega) (by omega)
      obtain ⟨e1, e3⟩ := HF.out.2 7 (by omega) (by omega)
      rw [show f 31 = false from e1] at k1
      rw [show f 33 = false from e3] at k3
      clear e1 e3
      have i0 := fun W => idxh0 (f 30) false (f 32) false W
      have i1 := fun W => idxh1 (f 30) false (f 32) false W
      go_wp2_with fail
      refine wp_loop_rounds 3 ?_
      rw [rounds_succ]
      go_wp2_with fail
      rw [rounds_succ]
      go_wp2_with fail
      rw [rounds_succ]
      go_wp2_with fail
      go_roundw
      case rel =>
        refine ⟨8, by omega, rfl, rfl, ?_⟩
        repeat (first | exact Below.refl _ _ | refine Below.setCell ?_ (by first | omega | (simp; done) | (simp; omega) | (have := HB.out.size; simp at this ⊢; omega)) _ | refine Below.alloc ?_ (by first | omega | (simp; done) | (simp; omega) | (have := HB.out.size; simp at this ⊢; omega)) _ | refine below_drewN' ?_ _ | refine Below.drew ?_ | refine Below.trans ?_ (HB.out.mono (by first | omega | (simp; done) | (simp; omega) | (have := HB.out.size; simp at this ⊢; omega))))
      case measure => simp [intOf]
    · go_wp2
      go_ret
      exact ⟨rfl, HB⟩

theorem fin_of : Fin1 (upd (upd (upd (upd (upd (upd (upd (upd (upd (upd (upd (upd (upd (upd (upd (upd (fun _ => false) 2 (said 9 0)) 3 true) 258 (said 9 1)) 259 true) 514 (said 9 2)) 515 true) 770 (said 9 3)) 771 true) 4 (said 6 0)) 5 true) 260 (said 6 1)) 261 true) 516 (said 6 2)) 517 true) 772 (said 6 3)) 773 true) := by
  refine ⟨fun k hk => ?_, fun n h0 h1 => ?_⟩
  · rcases (show k = 0 ∨ k = 1 ∨ k = 2 ∨ k = 3 by omega) with rfl | rfl | rfl | rfl <;> decide
  · rcases (show n = 1 ∨ n = 2 ∨ n = 3 ∨ n = 4 ∨ n = 5 ∨ n = 6 ∨ n = 7 by omega) with rfl | rfl | rfl | rfl | rfl | rfl | rfl <;> decide
theorem arr_eq (W : World) : (binOp .eql 38 (.agg #[.bool true, .bool true, .bool true, .bool true]) (.agg #[.bool true, .bool true, .bool true, .bool true])).run Tryd.prog W = .ok (.bool true) W := by kernel_rfl
theorem arr_ne (W : World) : (binOp .neq 38 (.agg #[.bool false, .bool false, .bool false, .bool false]) (.agg #[.bool false, .bool false, .bool false, .bool false])).run Tryd.prog W = .ok (.bool false) W := by kernel_rfl
theorem alloc2 {w : World} {b : Nat} {m : Bool} {n : Int} {f : Nat → Bool} (h : ShF w b m n f) (o u : Obj) : ShF ((w.alloc o).alloc u) b m n f := h.kept (((Below.refl _ _).alloc (Nat.le_refl _) _).alloc (by simp) _)
theorem up_on {w w' : World} (h : Up w) (hb : Below w.heap.size w w') : Up w' := h.kept hb
set_option maxRecDepth 100000 in
set_option maxHeartbeats 1000000 in
theorem one_any (w : World) (hU : Up w) : Calls Tryd.prog 23 #[] w fun e w' => e = .returned (.bool true) ∧ Below w.heap.size w w' := by
  have HU := Lib.hid hU
  clear hU
  go_enter Tryd.func23, Tryd.ntmps23
  go_wp2_with fail
  refine (snew_any _).mono ?_
  rintro e w1 ⟨rfl, H1, hb1⟩
  have HU1 := Lib.hid (HU.out.kept hb1.out)
  go_wp2_with fail
  refine (put_a _ _ 9 (by decide) _ H1.out HU1.out).mono ?_
  rintro e w2 ⟨rfl, H2, hw2⟩
  have HB2 := Lib.hid (hb1.out.trans (hw2.out.below (Nat.le_refl _) hb1.out.size))
  have HU2 := Lib.hid (HU.out.kept HB2.out)
  clear hw2 H1 HU1
  go_wp2_with fail
  refine (put_b _ _ 6 (by decide) _ H2.out HU2.out).mono ?_
  rintro e w3 ⟨rfl, H3, hw3⟩
  have HB3 := Lib.hid (HB2.out.trans (hw3.out.below (Nat.le_refl _) HB2.out.size))
  clear hw3 H2 HU2 HB2 hb1
  have HF := Lib.hid fin_of
  go_wp2_with fail
  refine (says_fin _ _ HF.out _ H3.out).mono ?_
  rintro e w4 ⟨rfl, hb4⟩
  have H4 := Lib.hid (H3.out.kept hb4.out)
  have HB4 := Lib.hid (HB3.out.trans (hb4.out.mono HB3.out.size))
  clear hb4 H3 HB3
  have A0 := (Obj1.new w4 38 #[.bool true, .bool true, .bool true, .bool true]).alloc (.cells #[.bool true, .bool true, .bool true, .bool true] 38)
  have A1 := Obj1.new (w4.alloc (.cells #[.bool true, .bool true, .bool true, .bool true] 38)) 38 #[.bool true, .bool true, .bool true, .bool true]
  rw [show (w4.alloc (.cells #[.bool true, .bool true, .bool true, .bool true] 38)).heap.size = w4.heap.size + 1 by simp] at A1
  have HA0 := Lib.hid A0
  have HA1 := Lib.hid A1
  clear A0 A1
  go_wp2_with fail
  refine (sbits1 _ _ _ (alloc2 H4.out _ _)).mono ?_
  rintro e w' ⟨rfl, rfl⟩
  go_wp2_with fail
  refine (seen_fin _ _ HF.out _ (alloc2 H4.out _ _)).mono ?_
  rintro e w5 ⟨rfl, hb5⟩
  have K0 := Lib.hid (HA0.out.kept hb5.out)
  have K1 := Lib.hid (HA1.out.kept hb5.out)
  have p0 := K0.out.cell 0
  have p1 := K0.out.cell 1
  have p2 := K0.out.cell 2
  have p3 := K0.out.cell 3
  have q0 := K1.out.cell 0
  have q1 := K1.out.cell 1
  have q2 := K1.out.cell 2
  have q3 := K1.out.cell 3
  simp at p0 p1 p2 p3 q0 q1 q2 q3
  have HB5 : Hid (Below w.heap.size w w5) := Lib.hid (((HB4.out.alloc HB4.out.size _).alloc (by simp; exact Nat.le_succ_of_le HB4.out.size) _).trans (hb5.out.mono (by simp; exact Nat.le_trans HB4.out.size (by omega))))
  clear hb5 HA0 HA1 K0 K1 H4
  have he := fun W => arr_eq W
  go_wp2
  go_ret
  exact ⟨rfl, HB5.out⟩
end Go.Proofs.YtnbcegijncdmaaaDoor.Ly15
