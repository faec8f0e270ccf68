/- Where all lines say a bit one that says otherwise changes nothing; two that do make no other one; and what three say no fourth undoes: for every input; no condition. -/
import Derived.BigRegion
import Derived.RegionTactic
import Derived.Test.YtnbconkefhoblaaMajB
import Derived.Test.YtnbconkefhoblaaSh
import Derived.Test.YtnbconkefhoblaaRows
import Derived.WalkKit
import Derived.ProofKit
import Derived.OpenShut
import Derived.ShutString
import Derived.ChangeOld
import Derived.Below
namespace Go.Proofs.Ytnbconkefhoblaa.lawMajorHolds
open Go.ChangeShapes Go.WideShapes Go.ChangeAt Go.RowKit Base
open Go.ChangeMaps (open_string shut_string)
set_option linter.unusedVariables false
set_option linter.unusedSimpArgs false
theorem own : ownKnob Try.prog.godebug = none := by kernel_rfl
theorem laidOut : laidOutB Try.prog = true := by kernel_rfl
open Ly16

theorem arr2b {w : World} {cs : Array Value} (h : Reads w (.ar 2 .bool) cs.toList) : ∃ a b, cs = #[.bool a, .bool b] := by
  obtain ⟨rows, hl, e, hr⟩ := h
  match rows, hl with
  | [r0, r1], _ =>
    obtain ⟨a, rfl⟩ := hr r0 (by simp)
    obtain ⟨b, rfl⟩ := hr r1 (by simp)
    exact ⟨a, b, by cases cs; simpa using e⟩
theorem arr2i {w : World} {cs : Array Value} (h : Reads w (.ar 2 (.int .i64)) cs.toList) : ∃ a b, cs = #[.int .i64 a, .int .i64 b] ∧ (-9223372036854775808 ≤ a ∧ a ≤ 9223372036854775807) ∧ (-9223372036854775808 ≤ b ∧ b ≤ 9223372036854775807) := by
  obtain ⟨rows, hl, e, hr⟩ := h
  match rows, hl with
  | [r0, r1], _ =>
    obtain ⟨a, rfl, ha⟩ := hr r0 (by simp)
    obtain ⟨b, rfl, hb⟩ := hr r1 (by simp)
    exact ⟨a, b, by cases cs; simpa using e, bounds_i64 ha, bounds_i64 hb⟩
theorem and3 (x : Int) : ∃ p : Nat, p < 4 ∧ Go.bits BinOp.and IntKind.i64 x 3 = (p : Int) := by
  obtain ⟨y, h0, h1, h2⟩ := and_mask x 3 (by decide)
  refine ⟨y.toNat, by omega, ?_⟩
  rw [Int.toNat_of_nonneg h0]
  simpa using h2

/-- Levels of which one stands otherwise. -/
def off (x : Nat) (t : Bool) (A : Nat → Bool) (j : Nat) : Bool := if j = x then t else A j
def arr (A : Nat → Bool) : Array Value := #[.bool (A 0), .bool (A 1), .bool (A 2), .bool (A 3)]
theorem arr_set (A : Nat → Bool) (x : Nat) (hx : x < 4) (t : Bool) : (arr A).setIfInBounds x (.bool t) = arr (off x t A) := by
  rcases (show x = 0 ∨ x = 1 ∨ x = 2 ∨ x = 3 by omega) with rfl | rfl | rfl | rfl <;> rfl
theorem one_off : ∀ x : Fin 4, ∀ bit t i : Bool, bitB (off x t (fun _ => bit) 0) (off x t (fun _ => bit) 1) (off x t (fun _ => bit) 2) (off x t (fun _ => bit) 3) (off x i (fun _ => true) 0) (off x i (fun _ => true) 1) (off x i (fun _ => true) 2) (off x i (fun _ => true) 3) = bit ∧
    okB (off x t (fun _ => bit) 0) (off x t (fun _ => bit) 1) (off x t (fun _ => bit) 2) (off x t (fun _ => bit) 3) (off x i (fun _ => true) 0) (off x i (fun _ => true) 1) (off x i (fun _ => true) 2) (off x i (fun _ => true) 3) = true := by decide +kernel
def BB (A I : Nat → Bool) : Bool := bitB (A 0) (A 1) (A 2) (A 3) (I 0) (I 1) (I 2) (I 3)
def KB (A I : Nat → Bool) : Bool := okB (A 0) (A 1) (A 2) (A 3) (I 0) (I 1) (I 2) (I 3)
theorem two_off : ∀ x y : Fin 4, ∀ bit t i u j : Bool, (KB (off y u (off x t fun _ => bit)) (off y j (off x i fun _ => true)) = true → BB (off y u (off x t fun _ => bit)) (off y j (off x i fun _ => true)) = bit) ∧ (x = y → KB (off y u (off x t fun _ => bit)) (off y j (off x i fun _ => true)) = true) := by decide +kernel

/-- What lies in the call's own blocks. -/
def St (w wx : World) (a0 a1 : Int) (t0 t1 : Bool) (A I : Nat → Bool) : Prop :=
  Obj1 wx w.heap.size 27 #[.int .i64 a0, .int .i64 a1] ∧ Obj1 wx (w.heap.size + 1) 28 #[.bool t0, .bool t1] ∧ Obj1 wx (w.heap.size + 1 + 1) 22 (arr A) ∧ Obj1 wx (w.heap.size + 1 + 1 + 1) 22 (arr I) ∧ Below w.heap.size w wx
theorem st_gen (w : World) (a0 a1 : Int) (t0 t1 : Bool) (A I : Nat → Bool) : St w ((((w.alloc (.cells #[.int .i64 a0, .int .i64 a1] 27)).alloc (.cells #[.bool t0, .bool t1] 28)).alloc (.cells (arr A) 22)).alloc (.cells (arr I) 22)) a0 a1 t0 t1 A I := by
  have A0 := Obj1.new w 27 #[.int .i64 a0, .int .i64 a1]
  have A1 := Obj1.new (w.alloc (.cells #[.int .i64 a0, .int .i64 a1] 27)) 28 #[.bool t0, .bool t1]
  have A2 := Obj1.new ((w.alloc (.cells #[.int .i64 a0, .int .i64 a1] 27)).alloc (.cells #[.bool t0, .bool t1] 28)) 22 (arr A)
  have A3 := Obj1.new (((w.alloc (.cells #[.int .i64 a0, .int .i64 a1] 27)).alloc (.cells #[.bool t0, .bool t1] 28)).alloc (.cells (arr A) 22)) 22 (arr I)
  have e1 : (w.alloc (.cells #[.int .i64 a0, .int .i64 a1] 27)).heap.size = w.heap.size + 1 := by simp
  have e2 : ((w.alloc (.cells #[.int .i64 a0, .int .i64 a1] 27)).alloc (.cells #[.bool t0, .bool t1] 28)).heap.size = w.heap.size + 1 + 1 := by simp
  have e3 : (((w.alloc (.cells #[.int .i64 a0, .int .i64 a1] 27)).alloc (.cells #[.bool t0, .bool t1] 28)).alloc (.cells (arr A) 22)).heap.size = w.heap.size + 1 + 1 + 1 := by simp
  rw [e1] at A1
  rw [e2] at A2
  rw [e3] at A3
  refine ⟨((A0.alloc _).alloc _).alloc _, (A1.alloc _).alloc _, A2.alloc _, A3, ?_⟩
  repeat (first | exact Below.refl _ _ | refine Below.setCell ?_ (by first | omega | (simp; done) | (simp; omega)) _ | refine Below.alloc ?_ (by first | omega | (simp; done) | (simp; omega)) _ | refine below_drewN' ?_ _ | refine Below.drew ?_)
theorem arr_0 (t b : Bool) : arr (off 0 t fun _ => b) = #[.bool t, .bool b, .bool b, .bool b] := rfl
theorem arr_1 (t b : Bool) : arr (off 1 t fun _ => b) = #[.bool b, .bool t, .bool b, .bool b] := rfl
theorem arr_2 (t b : Bool) : arr (off 2 t fun _ => b) = #[.bool b, .bool b, .bool t, .bool b] := rfl
theorem arr_3 (t b : Bool) : arr (off 3 t fun _ => b) = #[.bool b, .bool b, .bool b, .bool t] := rfl
theorem St.cells {w wx : World} {a0 a1 : Int} {t0 t1 : Bool} {A I : Nat → Bool} (h : St w wx a0 a1 t0 t1 A I) :
    wx.cell? ⟨w.heap.size + 1 + 1, 0, none⟩ = some (.bool (A 0)) ∧ wx.cell? ⟨w.heap.size + 1 + 1, 1, none⟩ = some (.bool (A 1)) ∧ wx.cell? ⟨w.heap.size + 1 + 1, 2, none⟩ = some (.bool (A 2)) ∧ wx.cell? ⟨w.heap.size + 1 + 1, 3, none⟩ = some (.bool (A 3)) ∧
    wx.cell? ⟨w.heap.size + 1 + 1 + 1, 0, none⟩ = some (.bool (I 0)) ∧ wx.cell? ⟨w.heap.size + 1 + 1 + 1, 1, none⟩ = some (.bool (I 1)) ∧ wx.cell? ⟨w.heap.size + 1 + 1 + 1, 2, none⟩ = some (.bool (I 2)) ∧ wx.cell? ⟨w.heap.size + 1 + 1 + 1, 3, none⟩ = some (.bool (I 3)) :=
  ⟨h.2.2.1.cell 0, h.2.2.1.cell 1, h.2.2.1.cell 2, h.2.2.1.cell 3, h.2.2.2.1.cell 0, h.2.2.2.1.cell 1, h.2.2.2.1.cell 2, h.2.2.2.1.cell 3⟩
theorem St.drew {w wx : World} {a0 a1 : Int} {t0 t1 : Bool} {A I : Nat → Bool} (h : St w wx a0 a1 t0 t1 A I) : St w wx.drew a0 a1 t0 t1 A I := ⟨h.1, h.2.1, h.2.2.1, h.2.2.2.1, h.2.2.2.2.drew⟩
theorem St.kept {w wx w' : World} {a0 a1 : Int} {t0 t1 : Bool} {A I : Nat → Bool} (h : St w wx a0 a1 t0 t1 A I) (hb : Below wx.heap.size wx w') : St w w' a0 a1 t0 t1 A I :=
  ⟨h.1.kept hb, h.2.1.kept hb, h.2.2.1.kept hb, h.2.2.2.1.kept hb, h.2.2.2.2.trans (hb.mono h.2.2.2.2.size)⟩
theorem St.set {w wx : World} {a0 a1 : Int} {t0 t1 : Bool} {A I : Nat → Bool} (h : St w wx a0 a1 t0 t1 A I) (x : Nat) (hx : x < 4) (t i : Bool) : St w ((wx.setCell ⟨w.heap.size + 1 + 1, x, none⟩ (.bool t)).setCell ⟨w.heap.size + 1 + 1 + 1, x, none⟩ (.bool i)) a0 a1 t0 t1 (off x t A) (off x i I) := by
  obtain ⟨h0, h1, h2, h3, hb⟩ := h
  have k2 := h2.set x (.bool t)
  have k3 := (h3.far ⟨w.heap.size + 1 + 1, x, none⟩ (by simp) (.bool t)).set x (.bool i)
  rw [arr_set _ _ hx] at k2 k3
  exact ⟨(h0.far _ (by simp <;> omega) _).far _ (by simp <;> omega) _, (h1.far _ (by simp <;> omega) _).far _ (by simp <;> omega) _, k2.far _ (by simp) _, k3, (hb.setCell (by simp <;> omega) _).setCell (by simp <;> omega) _⟩

set_option maxRecDepth 100000 in
set_option maxHeartbeats 1000000 in
theorem walk4 (bit : Bool) (a0 a1 : Int) (t0 t1 : Bool) (w : World) (ha : -9223372036854775808 ≤ a0 ∧ a0 ≤ 9223372036854775807) (hb : -9223372036854775808 ≤ a1 ∧ a1 ≤ 9223372036854775807) :
    Calls Try.prog 4 #[.bool bit, .agg #[.int .i64 a0, .int .i64 a1], .agg #[.bool t0, .bool t1]] w fun e w' => e = .returned (.bool true) ∧ Below w.heap.size w w' := by
  obtain ⟨h0, h1⟩ := ha
  obtain ⟨h2, h3⟩ := hb
  obtain ⟨x, hx, ex⟩ := and3 a0
  obtain ⟨y, hy, ey⟩ := and3 a1
  go_enter Try.func4, Try.ntmps4
  go_wp2_with fail
  go_region
  go_upto_region 4 with (fail)
  clear ex ey
  go_cut [7] from 27 to 37 (fun v wx => v = .int .i64 x ∧ ∃ i : Bool, St w wx a0 a1 t0 t1 (off x t0 fun _ => bit) (off x i fun _ => true))
  case first =>
    rcases (show x = 0 ∨ x = 1 ∨ x = 2 ∨ x = 3 by omega) with rfl | rfl | rfl | rfl
    · have h := (st_gen w a0 a1 t0 t1 (off 0 t0 fun _ => bit) (off 0 (Go.bits BinOp.and IntKind.i64 (a0 / 4) 1 == 1) fun _ => true)).drew.drew
      rw [arr_0, arr_0] at h
      have H := Lib.hid h
      clear h
      go_region
      go_wp2
      go_meet
      exact ⟨rfl, _, H.out⟩
    · have h := (st_gen w a0 a1 t0 t1 (off 1 t0 fun _ => bit) (off 1 (Go.bits BinOp.and IntKind.i64 (a0 / 4) 1 == 1) fun _ => true)).drew.drew
      rw [arr_1, arr_1] at h
      have H := Lib.hid h
      clear h
      go_region
      go_wp2
      go_meet
      exact ⟨rfl, _, H.out⟩
    · have h := (st_gen w a0 a1 t0 t1 (off 2 t0 fun _ => bit) (off 2 (Go.bits BinOp.and IntKind.i64 (a0 / 4) 1 == 1) fun _ => true)).drew.drew
      rw [arr_2, arr_2] at h
      have H := Lib.hid h
      clear h
      go_region
      go_wp2
      go_meet
      exact ⟨rfl, _, H.out⟩
    · have h := (st_gen w a0 a1 t0 t1 (off 3 t0 fun _ => bit) (off 3 (Go.bits BinOp.and IntKind.i64 (a0 / 4) 1 == 1) fun _ => true)).drew.drew
      rw [arr_3, arr_3] at h
      have H := Lib.hid h
      clear h
      go_region
      go_wp2
      go_meet
      exact ⟨rfl, _, H.out⟩
  case rest =>
    obtain ⟨rfl, i0, hst⟩ := hcut
    obtain ⟨A, HA⟩ : ∃ A, Hid ((off x t0 fun _ => bit) = A) := ⟨_, Lib.hid rfl⟩
    obtain ⟨I, HI⟩ : ∃ I, Hid ((off x i0 fun _ => true) = I) := ⟨_, Lib.hid rfl⟩
    rw [HA.out, HI.out] at hst
    have HX : Hid (BB A I = bit ∧ KB A I = true) := by rw [← HA.out, ← HI.out]; exact Lib.hid (one_off ⟨x, hx⟩ bit t0 i0)
    have HST := Lib.hid hst
    clear hst
    have C1 : Hid (∀ W, Calls Try.prog 17 #[.agg #[.bool (A 0), .bool (A 1), .bool (A 2), .bool (A 3)], .agg #[.bool (I 0), .bool (I 1), .bool (I 2), .bool (I 3)]] W fun e w' => e = .returned (.tuple #[.bool bit, .bool true]) ∧ Below W.heap.size W w') := Lib.hid (fun W => by
      have := of_any (A 0) (A 1) (A 2) (A 3) (I 0) (I 1) (I 2) (I 3) W
      rwa [show bitB (A 0) (A 1) (A 2) (A 3) (I 0) (I 1) (I 2) (I 3) = bit from HX.out.1, show okB (A 0) (A 1) (A 2) (A 3) (I 0) (I 1) (I 2) (I 3) = true from HX.out.2] at this)
    obtain ⟨p0, p1, p2, p3, q0, q1, q2, q3⟩ := St.cells HST.out
    go_wp2_with fail
    refine (C1.out _).mono ?_
    rintro e w1 ⟨rfl, hb1⟩
    have HST1 := Lib.hid (HST.out.kept hb1)
    clear hb1 HST p0 p1 p2 p3 q0 q1 q2 q3 C1
    go_upto_region 8 with (fail)
    go_cut [7] from 51 to 61 (fun v wz => v = .int .i64 x ∧ ∃ i : Bool, St w wz a0 a1 t0 t1 (off y t1 A) (off y i I))
    case first =>
      rcases (show y = 0 ∨ y = 1 ∨ y = 2 ∨ y = 3 by omega) with rfl | rfl | rfl | rfl
      · have z0 : w1.cell? ⟨w.heap.size, 1, none⟩ = some (.int .i64 a1) := HST1.out.1.cell 1
        have z1 : w1.cell? ⟨w.heap.size + 1, 1, none⟩ = some (.bool t1) := HST1.out.2.1.cell 1
        have z2 : w1.cell? ⟨w.heap.size + 1 + 1, 0, none⟩ = some (.bool (A 0)) := HST1.out.2.2.1.cell 0
        have z3 : w1.cell? ⟨w.heap.size + 1 + 1 + 1, 0, none⟩ = some (.bool (I 0)) := HST1.out.2.2.2.1.cell 0
        have z4 := HST1.out.2.2.1.free 0
        have z5 := HST1.out.2.2.2.1.free 0
        go_region
        go_wp2
        go_meet
        first
          | exact ⟨rfl, _, (HST1.out.set 0 (by omega) _ _).drew⟩
          | exact ⟨rfl, _, HST1.out.set 0 (by omega) _ _⟩
      · have z0 : w1.cell? ⟨w.heap.size, 1, none⟩ = some (.int .i64 a1) := HST1.out.1.cell 1
        have z1 : w1.cell? ⟨w.heap.size + 1, 1, none⟩ = some (.bool t1) := HST1.out.2.1.cell 1
        have z2 : w1.cell? ⟨w.heap.size + 1 + 1, 1, none⟩ = some (.bool (A 1)) := HST1.out.2.2.1.cell 1
        have z3 : w1.cell? ⟨w.heap.size + 1 + 1 + 1, 1, none⟩ = some (.bool (I 1)) := HST1.out.2.2.2.1.cell 1
        have z4 := HST1.out.2.2.1.free 1
        have z5 := HST1.out.2.2.2.1.free 1
        go_region
        go_wp2
        go_meet
        first
          | exact ⟨rfl, _, (HST1.out.set 1 (by omega) _ _).drew⟩
          | exact ⟨rfl, _, HST1.out.set 1 (by omega) _ _⟩
      · have z0 : w1.cell? ⟨w.heap.size, 1, none⟩ = some (.int .i64 a1) := HST1.out.1.cell 1
        have z1 : w1.cell? ⟨w.heap.size + 1, 1, none⟩ = some (.bool t1) := HST1.out.2.1.cell 1
        have z2 : w1.cell? ⟨w.heap.size + 1 + 1, 2, none⟩ = some (.bool (A 2)) := HST1.out.2.2.1.cell 2
        have z3 : w1.cell? ⟨w.heap.size + 1 + 1 + 1, 2, none⟩ = some (.bool (I 2)) := HST1.out.2.2.2.1.cell 2
        have z4 := HST1.out.2.2.1.free 2
        have z5 := HST1.out.2.2.2.1.free 2
        go_region
        go_wp2
        go_meet
        first
          | exact ⟨rfl, _, (HST1.out.set 2 (by omega) _ _).drew⟩
          | exact ⟨rfl, _, HST1.out.set 2 (by omega) _ _⟩
      · have z0 : w1.cell? ⟨w.heap.size, 1, none⟩ = some (.int .i64 a1) := HST1.out.1.cell 1
        have z1 : w1.cell? ⟨w.heap.size + 1, 1, none⟩ = some (.bool t1) := HST1.out.2.1.cell 1
        have z2 : w1.cell? ⟨w.heap.size + 1 + 1, 3, none⟩ = some (.bool (A 3)) := HST1.out.2.2.1.cell 3
        have z3 : w1.cell? ⟨w.heap.size + 1 + 1 + 1, 3, none⟩ = some (.bool (I 3)) := HST1.out.2.2.2.1.cell 3
        have z4 := HST1.out.2.2.1.free 3
        have z5 := HST1.out.2.2.2.1.free 3
        go_region
        go_wp2
        go_meet
        first
          | exact ⟨rfl, _, (HST1.out.set 3 (by omega) _ _).drew⟩
          | exact ⟨rfl, _, HST1.out.set 3 (by omega) _ _⟩
    case rest =>
      clear HST1
      obtain ⟨rfl, i1, hst⟩ := hcut
      have HY := Lib.hid (two_off ⟨x, hx⟩ ⟨y, hy⟩ bit t0 i0 t1 i1)
      obtain ⟨A', HA'⟩ : ∃ A', Hid (off y t1 A = A') := ⟨_, Lib.hid rfl⟩
      obtain ⟨I', HI'⟩ : ∃ I', Hid (off y i1 I = I') := ⟨_, Lib.hid rfl⟩
      rw [HA'.out, HI'.out] at hst
      obtain ⟨B, HBB⟩ : ∃ B, Hid (BB A' I' = B) := ⟨_, Lib.hid rfl⟩
      obtain ⟨K, HKK⟩ : ∃ K, Hid (KB A' I' = K) := ⟨_, Lib.hid rfl⟩
      have HY2 : Hid ((K = true → B = bit) ∧ (x = y → K = true)) := by
        have h := HY.out
        rw [show (off (⟨x, hx⟩ : Fin 4) t0 fun _ => bit) = A from HA.out, show (off (⟨x, hx⟩ : Fin 4) i0 fun _ => true) = I from HI.out, show off (⟨y, hy⟩ : Fin 4) t1 A = A' from HA'.out, show off (⟨y, hy⟩ : Fin 4) i1 I = I' from HI'.out, HBB.out, HKK.out] at h
        exact Lib.hid ⟨h.1, fun e => h.2 (Fin.ext e)⟩
      clear HY
      have HST := Lib.hid hst
      clear hst
      have C2 : Hid (∀ W, Calls Try.prog 17 #[.agg #[.bool (A' 0), .bool (A' 1), .bool (A' 2), .bool (A' 3)], .agg #[.bool (I' 0), .bool (I' 1), .bool (I' 2), .bool (I' 3)]] W fun e w' => e = .returned (.tuple #[.bool B, .bool K]) ∧ Below W.heap.size W w') := Lib.hid (fun W => by
        have := of_any (A' 0) (A' 1) (A' 2) (A' 3) (I' 0) (I' 1) (I' 2) (I' 3) W
        rwa [show bitB (A' 0) (A' 1) (A' 2) (A' 3) (I' 0) (I' 1) (I' 2) (I' 3) = B from HBB.out, show okB (A' 0) (A' 1) (A' 2) (A' 3) (I' 0) (I' 1) (I' 2) (I' 3) = K from HKK.out] at this)
      obtain ⟨p0, p1, p2, p3, q0, q1, q2, q3⟩ := St.cells HST.out
      go_wp2_with fail
      refine (C2.out _).mono ?_
      rintro e w2 ⟨rfl, hb2⟩
      have HB2 := Lib.hid (HST.out.2.2.2.2.trans (hb2.mono HST.out.2.2.2.2.size))
      clear hb2 HST p0 p1 p2 p3 q0 q1 q2 q3 C2
      have hy2 := HY2.out
      cases hK : K
      · have hxy : ((x : Int) == (y : Int)) = false := by
          have : x ≠ y := fun e => by have := hy2.2 e; rw [hK] at this; cases this
          simp; omega
        clear hy2
        rcases Bool.eq_false_or_eq_true ((x : Int) == (y : Int)) with hxy | hxy
        all_goals
          go_wp2_with fail
          refine (one_any _).mono ?_
          rintro e w3 ⟨rfl, hb3⟩
          go_wp2
          go_ret
          exact ⟨rfl, HB2.out.trans (hb3.mono HB2.out.size)⟩
      · have hB : B = bit := hy2.1 hK
        clear hy2 HY2 HBB
        subst hB
        rcases Bool.eq_false_or_eq_true ((x : Int) == (y : Int)) with hxy | hxy
        all_goals
          go_wp2_with fail
          refine (one_any _).mono ?_
          rintro e w3 ⟨rfl, hb3⟩
          go_wp2
          go_ret
          exact ⟨rfl, HB2.out.trans (hb3.mono HB2.out.size)⟩
theorem walk (bit : Bool) (cs ds : Array Value) (w : World) (hr : Reads w (.ar 2 (.int .i64)) cs.toList) (hs : Reads w (.ar 2 .bool) ds.toList) :
    Calls Try.prog 4 #[.bool bit, .agg cs, .agg ds] w fun e w' => e = .returned (.bool true) ∧ Below w.heap.size w w' := by
  obtain ⟨a, b, rfl, ha, hb⟩ := arr2i hr
  obtain ⟨a', b', rfl⟩ := arr2b hs
  exact walk4 bit a b a' b' w ha hb

set_option maxRecDepth 100000 in
theorem lifted (os : Os) (started : os.Started) (H : Type) (enc : TypeId × Value → H) :
    ReturnsInHanded {} Try.checked os 4 .any (Rows.majorHoldsSpec.pre6 enc Try.prog Try.f4 Rows.majorHoldsRow.domain false) (Rows.majorHoldsSpec.post enc Try.prog Try.f4 false true false false) := by
  refine returnsInHanded_of_change (C := Try.checked) own started (by kernel_rfl) Try.func4
    (ChangeSpec.witness6 (enc := enc) (C := Try.checked) false ⟨#[], #[.bool false, .agg #[.int .i64 0, .int .i64 0], .agg #[.bool false, .bool false]], []⟩ 8 (by kernel_rfl) (by kernel_rfl) (by kernel_rfl) (by kernel_rfl)) ?_
  intro W base args ds gs before hval0 hW hcnd _
  have hval : ∀ (j : Nat) t v, Try.f4.params[j]? = some t → args[j]? = some v → Value.okWide Try.prog W .any base t v := hval0
  have hW' := hW
  obtain ⟨p, q, hA0, hV, rfl, hfz, hnd⟩ := hW
  have hA : DataW.TrodAll enc Try.prog W 0 (fun _ => true) true Try.f4.params.toList args.toList ds p := hA0
  rw [Try.params4] at hA hval
  obtain ⟨v0, vs0, d0, ds0, p0, q0, hargs, rfl, rfl, h0, r0⟩ := trodAll_cons hA
  obtain ⟨v1, vs1, d1, ds1, p1, q1, rfl, rfl, rfl, h1, r1⟩ := trodAll_cons r0
  obtain ⟨v2, vs2, d2, ds2, p2, q2, rfl, rfl, rfl, h2, r2⟩ := trodAll_cons r1
  obtain ⟨rfl, rfl, rfl⟩ := trodAll_nil r2
  obtain rfl : args = #[v0, v1, v2] := by cases args; simp_all
  obtain ⟨rfl, rfl⟩ := trodVars_none hV
  obtain ⟨bit, rfl, rfl, rfl⟩ := open_bool Try.underlying4 (hval 0 4 v0 rfl rfl) h0
  have k1 := h1
  have lt1 : ∀ x ∈ p1, x.block < W.heap.size := by obtain ⟨m, hm⟩ := k1; exact DataW.trod_lt m _ _ _ hm
  obtain ⟨a, rfl⟩ := okWide_agg (by first | exact .inl ⟨_, Try.underlying27⟩ | exact .inr ⟨_, _, Try.underlying27⟩) (hval 1 27 v1 rfl rfl)
  have rd1 := reads_cells (sh := .ar 2 (.int .i64)) 30 (by kernel_rfl) k1
  have k2 := h2
  have lt2 : ∀ x ∈ p2, x.block < W.heap.size := by obtain ⟨m, hm⟩ := k2; exact DataW.trod_lt m _ _ _ hm
  obtain ⟨say, rfl⟩ := okWide_agg (by first | exact .inl ⟨_, Try.underlying28⟩ | exact .inr ⟨_, _, Try.underlying28⟩) (hval 2 28 v2 rfl rfl)
  have rd2 := reads_cells (sh := .ar 2 .bool) 30 (by kernel_rfl) k2
  clear hA0 hval0
  refine (walk bit a say W rd1 rd2).mono fun e W' ⟨he, bel⟩ => ?_
  subst he
  exact ⟨_, rfl, _, _, _, [], _, [], hW', trodAll_mk1 (shut_bool Try.underlying4 _), (trodAll_cons_mk (shut_bool Try.underlying4 bit) (trodAll_cons_mk (Below.trod laidOut (by kernel_rfl) (of_decide_eq_true (by kernel_rfl)) k1 bel lt1) (trodAll_cons_mk (Below.trod laidOut (by kernel_rfl) (of_decide_eq_true (by kernel_rfl)) k2 bel lt2) trodAll_mk0))), rfl, bel.frame _, fun h => by cases h⟩

theorem over : Rows.majorHoldsRow.holds Try.pinned (OpenSpec.ofChange Rows.majorHoldsSpec) :=
  OpenClaim.holds_of_wide 4 Try.f4 rfl rfl rfl rfl rfl rfl rfl ⟨rfl, rfl, rfl, rfl, rfl⟩ rfl rfl rfl rfl rfl (by kernel_rfl) Try.func4 (by kernel_rfl)
    (of_decide_eq_true (by kernel_rfl)) (by unfold Func.isWrapper; first | (rw [if_pos (by decide +kernel)]; kernel_rfl) | (rw [if_neg (by decide +kernel)]; exact ⟨rfl, rfl⟩))
    (fun os started H enc _ => lifted os started H enc)

/-- The statement. -/
theorem proved : Rows.MajorHoldsSaid := over
end Go.Proofs.Ytnbconkefhoblaa.lawMajorHolds
