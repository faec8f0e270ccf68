/- The contract of the document's own Read, of layer 9, where a command's bytes stand: op by op; no condition. -/
import Derived.Test.YthnopcoahcdjjaaCmdP
namespace Go.Proofs.Ythnopcoahcdjjaa.Ly9
open Go.ChangeShapes Go.WideShapes Go.ChangeAt Go.RowKit Base
set_option linter.unusedVariables false
set_option linter.unusedSimpArgs false

attribute [-go_sem] run_index_string run_slice_string
/-- Right, or not, as a bool. -/
def RR (r : Bool) (o a s c m b t : Int) : Prop := (r = true ∧ RP o a s c m b t) ∨ (r = false ∧ ¬ RP o a s c m b t)
theorem rright_r (r : Bool) (o a s c m b t : Int) (w : World) (h : RR r o a s c m b t) (bs : -9223372036854775808 ≤ s ∧ s ≤ 9223372036854775807) :
    Calls Try.prog 17 #[cv o a s c m b t] w fun e w' => e = .returned (.bool r) ∧ Below w.heap.size w w' := by
  rcases h with ⟨rfl, h⟩ | ⟨rfl, h⟩
  · exact rright_yes o a s c m b t w h
  · exact rright_no o a s c m b t w h bs
theorem long_is (o : Int) (k : Nat) (w : World) (h0 : 0 ≤ o) (h1 : o ≤ 8) (hk : cnt o + 1 = k) : Calls Try.prog 50 #[.int .i64 o] w fun e w' => e = .returned (.int .i64 (k : Int)) ∧ Below w.heap.size w w' := by
  subst hk
  exact long_any o w h0 h1
set_option maxRecDepth 100000 in
set_option maxHeartbeats 4000000 in
theorem rread_0 (S V : ByteArray) (at' n : Nat) (r : Bool) (w : World) (hS : S.size = n) (hn : n ≤ 2000) (ha : at' + 1 ≤ n) 
    (HI : ∀ w, (Instr.index 9 (.string S) (.int .i64 at')).run Try.prog w = .ok (.int .u8 0) w)
    (HC : ∀ w, (Instr.slice 9 (.string S) (some (.int .i64 at')) (some (.int .i64 ((at' : Int) + 1))) none).run Try.prog w = .ok (.string V) w)
     (hr : RR r 0 0 0 0 0 0 0) :
    Calls Try.prog 24 #[.string S, .int .i64 at'] w fun e w' => e = .returned (.tuple (if r = true then #[cv 0 0 0 0 0 0 0, .int .i64 ((at' : Int) + 1), .int .i64 0] else #[cv 0 0 0 0 0 0 0, .int .i64 0, .int .i64 11])) ∧ Hid (Below w.heap.size w w') := by
  have HR := Lib.hid hr
  have HB := Lib.hid (show Below w.heap.size w ((w.alloc (.cells (c7 0 0 0 0 0 0 0) TR)).alloc (.cells (c7 0 0 0 0 0 0 0) TR)) from ((Below.refl _ _).alloc (Nat.le_refl _) _).alloc (by simp) _)
  have HO := Lib.hid ((Obj1.new w TR (c7 0 0 0 0 0 0 0)).alloc (.cells (c7 0 0 0 0 0 0 0) TR))
  have HQ := Lib.hid (Obj1.new (w.alloc (.cells (c7 0 0 0 0 0 0 0) TR)) TR (c7 0 0 0 0 0 0 0))
  rw [show (w.alloc (.cells (c7 0 0 0 0 0 0 0) TR)).heap.size = w.heap.size + 1 by simp] at HQ
  obtain ⟨g4, HG4⟩ : ∃ g4, Hid (w.heap.size = g4) := ⟨_, Lib.hid rfl⟩
  rw [HG4.out] at HO HQ
  clear hr
  go_enter Try.func24, Try.ntmps24
  go_wp2_with fail
  rw [HG4.out]
  refine (long_is 0 1 _ (by omega) (by omega) rfl).mono ?_
  rintro e w3 ⟨rfl, hb3⟩
  have HB3 := Lib.hid (HB.out.trans (hb3.mono HB.out.size))
  have HO3 := Lib.hid (HO.out.kept hb3)
  have HQ3 := Lib.hid (HQ.out.kept hb3)
  clear hb3 HB HO HQ
  obtain ⟨u0, u1, u2, u3, u4, u5, u6⟩ := cells7r HQ3.out
  obtain ⟨f0, f1, f2, f3, f4, f5, f6⟩ := frees7r HQ3.out
  have hfit : ¬ ((n : Int) - (at' : Int) < 1) := by omega
  go_wp2_with fail
  have HB4 : Hid (Below w.heap.size w w3) := Lib.hid HB3.out
  have HO4 : Hid (Obj1 w3 g4 TR (c7 0 0 0 0 0 0 0)) := Lib.hid HO3.out
  have HQ4 : Hid (Obj1 w3 (g4 + 1) TR (c7 0 0 0 0 0 0 0)) := Lib.hid HQ3.out
  clear u0 u1 u2 u3 u4 u5 u6 f0 f1 f2 f3 f4 f5 f6 HB3 HO3 HQ3
  generalize w3 = w4 at HB4 HO4 HQ4 ⊢
  refine (rright_r r 0 0 0 0 0 0 0 w4 HR.out (by omega)).mono ?_
  rintro e w5 ⟨rfl, hb5⟩
  have HB5 := Lib.hid (HB4.out.trans (hb5.mono HB4.out.size))
  have HO5 := Lib.hid (HO4.out.kept hb5)
  have HQ5 := Lib.hid (HQ4.out.kept hb5)
  clear hb5
  obtain ⟨u0, u1, u2, u3, u4, u5, u6⟩ := cells7r HQ5.out
  obtain ⟨z0, z1, z2, z3, z4, z5, z6⟩ := cells7r HO5.out
  obtain ⟨f0, f1, f2, f3, f4, f5, f6⟩ := frees7r HO5.out
  cases r
  · go_wp2
    refine bodyPost_ret (v := .tuple #[cv 0 0 0 0 0 0 0, .int .i64 0, .int .i64 11]) (by simp [results, Try.results24, go_sem, z0, z1, z2, z3, z4, z5, z6]) rfl ⟨rfl, Lib.hid ?_⟩
    exact set7' HB5.out (by have := HG4.out; omega) _ _ _ _ _ _ _
  · go_wp2
    refine bodyPost_ret (v := .tuple #[cv 0 0 0 0 0 0 0, .int .i64 ((at' : Int) + 1), .int .i64 0]) (by simp [results, Try.results24, go_sem, z0, z1, z2, z3, z4, z5, z6]) rfl ⟨rfl, Lib.hid ?_⟩
    exact set7' HB5.out (by have := HG4.out; omega) _ _ _ _ _ _ _
set_option maxRecDepth 100000 in
set_option maxHeartbeats 4000000 in
theorem rread_1 (S V : ByteArray) (at' n : Nat) (r : Bool) (x1 x2 x3 x4 : Int) (w : World) (hS : S.size = n) (hn : n ≤ 2000) (ha : at' + 5 ≤ n) (b1 : 0 ≤ x1 ∧ x1 ≤ 255) (b2 : 0 ≤ x2 ∧ x2 ≤ 255) (b3 : 0 ≤ x3 ∧ x3 ≤ 255) (b4 : 0 ≤ x4 ∧ x4 ≤ 255)
    (HI : ∀ w, (Instr.index 9 (.string S) (.int .i64 at')).run Try.prog w = .ok (.int .u8 1) w)
    (HC : ∀ w, (Instr.slice 9 (.string S) (some (.int .i64 at')) (some (.int .i64 ((at' : Int) + 5))) none).run Try.prog w = .ok (.string V) w)
    (H1 : ∀ w, (Instr.index 9 (.string V) (.int .i64 1)).run Try.prog w = .ok (.int .u8 x1) w) (H2 : ∀ w, (Instr.index 9 (.string V) (.int .i64 2)).run Try.prog w = .ok (.int .u8 x2) w) (H3 : ∀ w, (Instr.index 9 (.string V) (.int .i64 3)).run Try.prog w = .ok (.int .u8 x3) w) (H4 : ∀ w, (Instr.index 9 (.string V) (.int .i64 4)).run Try.prog w = .ok (.int .u8 x4) w) (hr : RR r 1 x1 x2 x3 x4 0 0) :
    Calls Try.prog 24 #[.string S, .int .i64 at'] w fun e w' => e = .returned (.tuple (if r = true then #[cv 1 x1 x2 x3 x4 0 0, .int .i64 ((at' : Int) + 5), .int .i64 0] else #[cv 0 0 0 0 0 0 0, .int .i64 0, .int .i64 11])) ∧ Hid (Below w.heap.size w w') := by
  have HR := Lib.hid hr
  have HB := Lib.hid (show Below w.heap.size w ((w.alloc (.cells (c7 0 0 0 0 0 0 0) TR)).alloc (.cells (c7 1 0 0 0 0 0 0) TR)) from ((Below.refl _ _).alloc (Nat.le_refl _) _).alloc (by simp) _)
  have HO := Lib.hid ((Obj1.new w TR (c7 0 0 0 0 0 0 0)).alloc (.cells (c7 1 0 0 0 0 0 0) TR))
  have HQ := Lib.hid (Obj1.new (w.alloc (.cells (c7 0 0 0 0 0 0 0) TR)) TR (c7 1 0 0 0 0 0 0))
  rw [show (w.alloc (.cells (c7 0 0 0 0 0 0 0) TR)).heap.size = w.heap.size + 1 by simp] at HQ
  obtain ⟨g4, HG4⟩ : ∃ g4, Hid (w.heap.size = g4) := ⟨_, Lib.hid rfl⟩
  rw [HG4.out] at HO HQ
  clear hr
  go_enter Try.func24, Try.ntmps24
  go_wp2_with fail
  rw [HG4.out]
  refine (long_is 1 5 _ (by omega) (by omega) rfl).mono ?_
  rintro e w3 ⟨rfl, hb3⟩
  have HB3 := Lib.hid (HB.out.trans (hb3.mono HB.out.size))
  have HO3 := Lib.hid (HO.out.kept hb3)
  have HQ3 := Lib.hid (HQ.out.kept hb3)
  clear hb3 HB HO HQ
  obtain ⟨u0, u1, u2, u3, u4, u5, u6⟩ := cells7r HQ3.out
  obtain ⟨f0, f1, f2, f3, f4, f5, f6⟩ := frees7r HQ3.out
  have hfit : ¬ ((n : Int) - (at' : Int) < 5) := by omega
  go_wp2_with fail
  go_region
  go_wp2_with fail
  have HB4 : Hid (Below w.heap.size w ((((w3.setCell ⟨g4 + 1, 1, none⟩ (.int .i64 (x1))).setCell ⟨g4 + 1, 2, none⟩ (.int .i64 (x2))).setCell ⟨g4 + 1, 3, none⟩ (.int .i64 (x3))).setCell ⟨g4 + 1, 4, none⟩ (.int .i64 (x4)))) := Lib.hid ((((HB3.out.setCell (p := ⟨g4 + 1, 1, none⟩) (by have := HG4.out; simp; omega) (.int .i64 (x1))).setCell (p := ⟨g4 + 1, 2, none⟩) (by have := HG4.out; simp; omega) (.int .i64 (x2))).setCell (p := ⟨g4 + 1, 3, none⟩) (by have := HG4.out; simp; omega) (.int .i64 (x3))).setCell (p := ⟨g4 + 1, 4, none⟩) (by have := HG4.out; simp; omega) (.int .i64 (x4)))
  have HO4 : Hid (Obj1 ((((w3.setCell ⟨g4 + 1, 1, none⟩ (.int .i64 (x1))).setCell ⟨g4 + 1, 2, none⟩ (.int .i64 (x2))).setCell ⟨g4 + 1, 3, none⟩ (.int .i64 (x3))).setCell ⟨g4 + 1, 4, none⟩ (.int .i64 (x4))) g4 TR (c7 0 0 0 0 0 0 0)) := Lib.hid ((((HO3.out.far ⟨g4 + 1, 1, none⟩ (by simp) (.int .i64 (x1))).far ⟨g4 + 1, 2, none⟩ (by simp) (.int .i64 (x2))).far ⟨g4 + 1, 3, none⟩ (by simp) (.int .i64 (x3))).far ⟨g4 + 1, 4, none⟩ (by simp) (.int .i64 (x4)))
  have HQ4 : Hid (Obj1 ((((w3.setCell ⟨g4 + 1, 1, none⟩ (.int .i64 (x1))).setCell ⟨g4 + 1, 2, none⟩ (.int .i64 (x2))).setCell ⟨g4 + 1, 3, none⟩ (.int .i64 (x3))).setCell ⟨g4 + 1, 4, none⟩ (.int .i64 (x4))) (g4 + 1) TR (c7 1 x1 x2 x3 x4 0 0)) := Lib.hid ((((HQ3.out.set 1 (.int .i64 (x1))).set 2 (.int .i64 (x2))).set 3 (.int .i64 (x3))).set 4 (.int .i64 (x4)))
  clear u0 u1 u2 u3 u4 u5 u6 f0 f1 f2 f3 f4 f5 f6 HB3 HO3 HQ3
  generalize ((((w3.setCell ⟨g4 + 1, 1, none⟩ (.int .i64 (x1))).setCell ⟨g4 + 1, 2, none⟩ (.int .i64 (x2))).setCell ⟨g4 + 1, 3, none⟩ (.int .i64 (x3))).setCell ⟨g4 + 1, 4, none⟩ (.int .i64 (x4))) = w4 at HB4 HO4 HQ4 ⊢
  refine (rright_r r 1 x1 x2 x3 x4 0 0 w4.drew HR.out (by omega)).mono ?_
  rintro e w5 ⟨rfl, hb5⟩
  have HB5 := Lib.hid (HB4.out.drew.trans (hb5.mono HB4.out.drew.size))
  have HO5 := Lib.hid (HO4.out.drew.kept hb5)
  have HQ5 := Lib.hid (HQ4.out.drew.kept hb5)
  clear hb5
  obtain ⟨u0, u1, u2, u3, u4, u5, u6⟩ := cells7r HQ5.out
  obtain ⟨z0, z1, z2, z3, z4, z5, z6⟩ := cells7r HO5.out
  obtain ⟨f0, f1, f2, f3, f4, f5, f6⟩ := frees7r HO5.out
  cases r
  · go_wp2
    refine bodyPost_ret (v := .tuple #[cv 0 0 0 0 0 0 0, .int .i64 0, .int .i64 11]) (by simp [results, Try.results24, go_sem, z0, z1, z2, z3, z4, z5, z6]) rfl ⟨rfl, Lib.hid ?_⟩
    exact set7' HB5.out (by have := HG4.out; omega) _ _ _ _ _ _ _
  · go_wp2
    refine bodyPost_ret (v := .tuple #[cv 1 x1 x2 x3 x4 0 0, .int .i64 ((at' : Int) + 5), .int .i64 0]) (by simp [results, Try.results24, go_sem, z0, z1, z2, z3, z4, z5, z6]) rfl ⟨rfl, Lib.hid ?_⟩
    exact set7' HB5.out (by have := HG4.out; omega) _ _ _ _ _ _ _
set_option maxRecDepth 100000 in
set_option maxHeartbeats 4000000 in
theorem rread_2 (S V : ByteArray) (at' n : Nat) (r : Bool) (x1 x2 x3 : Int) (w : World) (hS : S.size = n) (hn : n ≤ 2000) (ha : at' + 4 ≤ n) (b1 : 0 ≤ x1 ∧ x1 ≤ 255) (b2 : 0 ≤ x2 ∧ x2 ≤ 255) (b3 : 0 ≤ x3 ∧ x3 ≤ 255)
    (HI : ∀ w, (Instr.index 9 (.string S) (.int .i64 at')).run Try.prog w = .ok (.int .u8 2) w)
    (HC : ∀ w, (Instr.slice 9 (.string S) (some (.int .i64 at')) (some (.int .i64 ((at' : Int) + 4))) none).run Try.prog w = .ok (.string V) w)
    (H1 : ∀ w, (Instr.index 9 (.string V) (.int .i64 1)).run Try.prog w = .ok (.int .u8 x1) w) (H2 : ∀ w, (Instr.index 9 (.string V) (.int .i64 2)).run Try.prog w = .ok (.int .u8 x2) w) (H3 : ∀ w, (Instr.index 9 (.string V) (.int .i64 3)).run Try.prog w = .ok (.int .u8 x3) w) (hr : RR r 2 x1 x2 0 x3 0 0) :
    Calls Try.prog 24 #[.string S, .int .i64 at'] w fun e w' => e = .returned (.tuple (if r = true then #[cv 2 x1 x2 0 x3 0 0, .int .i64 ((at' : Int) + 4), .int .i64 0] else #[cv 0 0 0 0 0 0 0, .int .i64 0, .int .i64 11])) ∧ Hid (Below w.heap.size w w') := by
  have HR := Lib.hid hr
  have HB := Lib.hid (show Below w.heap.size w ((w.alloc (.cells (c7 0 0 0 0 0 0 0) TR)).alloc (.cells (c7 2 0 0 0 0 0 0) TR)) from ((Below.refl _ _).alloc (Nat.le_refl _) _).alloc (by simp) _)
  have HO := Lib.hid ((Obj1.new w TR (c7 0 0 0 0 0 0 0)).alloc (.cells (c7 2 0 0 0 0 0 0) TR))
  have HQ := Lib.hid (Obj1.new (w.alloc (.cells (c7 0 0 0 0 0 0 0) TR)) TR (c7 2 0 0 0 0 0 0))
  rw [show (w.alloc (.cells (c7 0 0 0 0 0 0 0) TR)).heap.size = w.heap.size + 1 by simp] at HQ
  obtain ⟨g4, HG4⟩ : ∃ g4, Hid (w.heap.size = g4) := ⟨_, Lib.hid rfl⟩
  rw [HG4.out] at HO HQ
  clear hr
  go_enter Try.func24, Try.ntmps24
  go_wp2_with fail
  rw [HG4.out]
  refine (long_is 2 4 _ (by omega) (by omega) rfl).mono ?_
  rintro e w3 ⟨rfl, hb3⟩
  have HB3 := Lib.hid (HB.out.trans (hb3.mono HB.out.size))
  have HO3 := Lib.hid (HO.out.kept hb3)
  have HQ3 := Lib.hid (HQ.out.kept hb3)
  clear hb3 HB HO HQ
  obtain ⟨u0, u1, u2, u3, u4, u5, u6⟩ := cells7r HQ3.out
  obtain ⟨f0, f1, f2, f3, f4, f5, f6⟩ := frees7r HQ3.out
  have hfit : ¬ ((n : Int) - (at' : Int) < 4) := by omega
  go_wp2_with fail
  go_region
  go_wp2_with fail
  have HB4 : Hid (Below w.heap.size w (((w3.setCell ⟨g4 + 1, 1, none⟩ (.int .i64 (x1))).setCell ⟨g4 + 1, 2, none⟩ (.int .i64 (x2))).setCell ⟨g4 + 1, 4, none⟩ (.int .i64 (x3)))) := Lib.hid (((HB3.out.setCell (p := ⟨g4 + 1, 1, none⟩) (by have := HG4.out; simp; omega) (.int .i64 (x1))).setCell (p := ⟨g4 + 1, 2, none⟩) (by have := HG4.out; simp; omega) (.int .i64 (x2))).setCell (p := ⟨g4 + 1, 4, none⟩) (by have := HG4.out; simp; omega) (.int .i64 (x3)))
  have HO4 : Hid (Obj1 (((w3.setCell ⟨g4 + 1, 1, none⟩ (.int .i64 (x1))).setCell ⟨g4 + 1, 2, none⟩ (.int .i64 (x2))).setCell ⟨g4 + 1, 4, none⟩ (.int .i64 (x3))) g4 TR (c7 0 0 0 0 0 0 0)) := Lib.hid (((HO3.out.far ⟨g4 + 1, 1, none⟩ (by simp) (.int .i64 (x1))).far ⟨g4 + 1, 2, none⟩ (by simp) (.int .i64 (x2))).far ⟨g4 + 1, 4, none⟩ (by simp) (.int .i64 (x3)))
  have HQ4 : Hid (Obj1 (((w3.setCell ⟨g4 + 1, 1, none⟩ (.int .i64 (x1))).setCell ⟨g4 + 1, 2, none⟩ (.int .i64 (x2))).setCell ⟨g4 + 1, 4, none⟩ (.int .i64 (x3))) (g4 + 1) TR (c7 2 x1 x2 0 x3 0 0)) := Lib.hid (((HQ3.out.set 1 (.int .i64 (x1))).set 2 (.int .i64 (x2))).set 4 (.int .i64 (x3)))
  clear u0 u1 u2 u3 u4 u5 u6 f0 f1 f2 f3 f4 f5 f6 HB3 HO3 HQ3
  generalize (((w3.setCell ⟨g4 + 1, 1, none⟩ (.int .i64 (x1))).setCell ⟨g4 + 1, 2, none⟩ (.int .i64 (x2))).setCell ⟨g4 + 1, 4, none⟩ (.int .i64 (x3))) = w4 at HB4 HO4 HQ4 ⊢
  refine (rright_r r 2 x1 x2 0 x3 0 0 w4.drew HR.out (by omega)).mono ?_
  rintro e w5 ⟨rfl, hb5⟩
  have HB5 := Lib.hid (HB4.out.drew.trans (hb5.mono HB4.out.drew.size))
  have HO5 := Lib.hid (HO4.out.drew.kept hb5)
  have HQ5 := Lib.hid (HQ4.out.drew.kept hb5)
  clear hb5
  obtain ⟨u0, u1, u2, u3, u4, u5, u6⟩ := cells7r HQ5.out
  obtain ⟨z0, z1, z2, z3, z4, z5, z6⟩ := cells7r HO5.out
  obtain ⟨f0, f1, f2, f3, f4, f5, f6⟩ := frees7r HO5.out
  cases r
  · go_wp2
    refine bodyPost_ret (v := .tuple #[cv 0 0 0 0 0 0 0, .int .i64 0, .int .i64 11]) (by simp [results, Try.results24, go_sem, z0, z1, z2, z3, z4, z5, z6]) rfl ⟨rfl, Lib.hid ?_⟩
    exact set7' HB5.out (by have := HG4.out; omega) _ _ _ _ _ _ _
  · go_wp2
    refine bodyPost_ret (v := .tuple #[cv 2 x1 x2 0 x3 0 0, .int .i64 ((at' : Int) + 4), .int .i64 0]) (by simp [results, Try.results24, go_sem, z0, z1, z2, z3, z4, z5, z6]) rfl ⟨rfl, Lib.hid ?_⟩
    exact set7' HB5.out (by have := HG4.out; omega) _ _ _ _ _ _ _
set_option maxRecDepth 100000 in
set_option maxHeartbeats 4000000 in
theorem rread_3 (S V : ByteArray) (at' n : Nat) (r : Bool) (x1 x2 : Int) (w : World) (hS : S.size = n) (hn : n ≤ 2000) (ha : at' + 3 ≤ n) (b1 : 0 ≤ x1 ∧ x1 ≤ 255) (b2 : 0 ≤ x2 ∧ x2 ≤ 255)
    (HI : ∀ w, (Instr.index 9 (.string S) (.int .i64 at')).run Try.prog w = .ok (.int .u8 3) w)
    (HC : ∀ w, (Instr.slice 9 (.string S) (some (.int .i64 at')) (some (.int .i64 ((at' : Int) + 3))) none).run Try.prog w = .ok (.string V) w)
    (H1 : ∀ w, (Instr.index 9 (.string V) (.int .i64 1)).run Try.prog w = .ok (.int .u8 x1) w) (H2 : ∀ w, (Instr.index 9 (.string V) (.int .i64 2)).run Try.prog w = .ok (.int .u8 x2) w) (hr : RR r 3 0 x1 0 x2 0 0) :
    Calls Try.prog 24 #[.string S, .int .i64 at'] w fun e w' => e = .returned (.tuple (if r = true then #[cv 3 0 x1 0 x2 0 0, .int .i64 ((at' : Int) + 3), .int .i64 0] else #[cv 0 0 0 0 0 0 0, .int .i64 0, .int .i64 11])) ∧ Hid (Below w.heap.size w w') := by
  have HR := Lib.hid hr
  have HB := Lib.hid (show Below w.heap.size w ((w.alloc (.cells (c7 0 0 0 0 0 0 0) TR)).alloc (.cells (c7 3 0 0 0 0 0 0) TR)) from ((Below.refl _ _).alloc (Nat.le_refl _) _).alloc (by simp) _)
  have HO := Lib.hid ((Obj1.new w TR (c7 0 0 0 0 0 0 0)).alloc (.cells (c7 3 0 0 0 0 0 0) TR))
  have HQ := Lib.hid (Obj1.new (w.alloc (.cells (c7 0 0 0 0 0 0 0) TR)) TR (c7 3 0 0 0 0 0 0))
  rw [show (w.alloc (.cells (c7 0 0 0 0 0 0 0) TR)).heap.size = w.heap.size + 1 by simp] at HQ
  obtain ⟨g4, HG4⟩ : ∃ g4, Hid (w.heap.size = g4) := ⟨_, Lib.hid rfl⟩
  rw [HG4.out] at HO HQ
  clear hr
  go_enter Try.func24, Try.ntmps24
  go_wp2_with fail
  rw [HG4.out]
  refine (long_is 3 3 _ (by omega) (by omega) rfl).mono ?_
  rintro e w3 ⟨rfl, hb3⟩
  have HB3 := Lib.hid (HB.out.trans (hb3.mono HB.out.size))
  have HO3 := Lib.hid (HO.out.kept hb3)
  have HQ3 := Lib.hid (HQ.out.kept hb3)
  clear hb3 HB HO HQ
  obtain ⟨u0, u1, u2, u3, u4, u5, u6⟩ := cells7r HQ3.out
  obtain ⟨f0, f1, f2, f3, f4, f5, f6⟩ := frees7r HQ3.out
  have hfit : ¬ ((n : Int) - (at' : Int) < 3) := by omega
  go_wp2_with fail
  go_region
  go_wp2_with fail
  have HB4 : Hid (Below w.heap.size w ((w3.setCell ⟨g4 + 1, 2, none⟩ (.int .i64 (x1))).setCell ⟨g4 + 1, 4, none⟩ (.int .i64 (x2)))) := Lib.hid ((HB3.out.setCell (p := ⟨g4 + 1, 2, none⟩) (by have := HG4.out; simp; omega) (.int .i64 (x1))).setCell (p := ⟨g4 + 1, 4, none⟩) (by have := HG4.out; simp; omega) (.int .i64 (x2)))
  have HO4 : Hid (Obj1 ((w3.setCell ⟨g4 + 1, 2, none⟩ (.int .i64 (x1))).setCell ⟨g4 + 1, 4, none⟩ (.int .i64 (x2))) g4 TR (c7 0 0 0 0 0 0 0)) := Lib.hid ((HO3.out.far ⟨g4 + 1, 2, none⟩ (by simp) (.int .i64 (x1))).far ⟨g4 + 1, 4, none⟩ (by simp) (.int .i64 (x2)))
  have HQ4 : Hid (Obj1 ((w3.setCell ⟨g4 + 1, 2, none⟩ (.int .i64 (x1))).setCell ⟨g4 + 1, 4, none⟩ (.int .i64 (x2))) (g4 + 1) TR (c7 3 0 x1 0 x2 0 0)) := Lib.hid ((HQ3.out.set 2 (.int .i64 (x1))).set 4 (.int .i64 (x2)))
  clear u0 u1 u2 u3 u4 u5 u6 f0 f1 f2 f3 f4 f5 f6 HB3 HO3 HQ3
  generalize ((w3.setCell ⟨g4 + 1, 2, none⟩ (.int .i64 (x1))).setCell ⟨g4 + 1, 4, none⟩ (.int .i64 (x2))) = w4 at HB4 HO4 HQ4 ⊢
  refine (rright_r r 3 0 x1 0 x2 0 0 w4.drew HR.out (by omega)).mono ?_
  rintro e w5 ⟨rfl, hb5⟩
  have HB5 := Lib.hid (HB4.out.drew.trans (hb5.mono HB4.out.drew.size))
  have HO5 := Lib.hid (HO4.out.drew.kept hb5)
  have HQ5 := Lib.hid (HQ4.out.drew.kept hb5)
  clear hb5
  obtain ⟨u0, u1, u2, u3, u4, u5, u6⟩ := cells7r HQ5.out
  obtain ⟨z0, z1, z2, z3, z4, z5, z6⟩ := cells7r HO5.out
  obtain ⟨f0, f1, f2, f3, f4, f5, f6⟩ := frees7r HO5.out
  cases r
  · go_wp2
    refine bodyPost_ret (v := .tuple #[cv 0 0 0 0 0 0 0, .int .i64 0, .int .i64 11]) (by simp [results, Try.results24, go_sem, z0, z1, z2, z3, z4, z5, z6]) rfl ⟨rfl, Lib.hid ?_⟩
    exact set7' HB5.out (by have := HG4.out; omega) _ _ _ _ _ _ _
  · go_wp2
    refine bodyPost_ret (v := .tuple #[cv 3 0 x1 0 x2 0 0, .int .i64 ((at' : Int) + 3), .int .i64 0]) (by simp [results, Try.results24, go_sem, z0, z1, z2, z3, z4, z5, z6]) rfl ⟨rfl, Lib.hid ?_⟩
    exact set7' HB5.out (by have := HG4.out; omega) _ _ _ _ _ _ _
set_option maxRecDepth 100000 in
set_option maxHeartbeats 4000000 in
theorem rread_4 (S V : ByteArray) (at' n : Nat) (r : Bool) (x1 : Int) (w : World) (hS : S.size = n) (hn : n ≤ 2000) (ha : at' + 2 ≤ n) (b1 : 0 ≤ x1 ∧ x1 ≤ 255)
    (HI : ∀ w, (Instr.index 9 (.string S) (.int .i64 at')).run Try.prog w = .ok (.int .u8 4) w)
    (HC : ∀ w, (Instr.slice 9 (.string S) (some (.int .i64 at')) (some (.int .i64 ((at' : Int) + 2))) none).run Try.prog w = .ok (.string V) w)
    (H1 : ∀ w, (Instr.index 9 (.string V) (.int .i64 1)).run Try.prog w = .ok (.int .u8 x1) w) (hr : RR r 4 0 0 0 0 x1 0) :
    Calls Try.prog 24 #[.string S, .int .i64 at'] w fun e w' => e = .returned (.tuple (if r = true then #[cv 4 0 0 0 0 x1 0, .int .i64 ((at' : Int) + 2), .int .i64 0] else #[cv 0 0 0 0 0 0 0, .int .i64 0, .int .i64 11])) ∧ Hid (Below w.heap.size w w') := by
  have HR := Lib.hid hr
  have HB := Lib.hid (show Below w.heap.size w ((w.alloc (.cells (c7 0 0 0 0 0 0 0) TR)).alloc (.cells (c7 4 0 0 0 0 0 0) TR)) from ((Below.refl _ _).alloc (Nat.le_refl _) _).alloc (by simp) _)
  have HO := Lib.hid ((Obj1.new w TR (c7 0 0 0 0 0 0 0)).alloc (.cells (c7 4 0 0 0 0 0 0) TR))
  have HQ := Lib.hid (Obj1.new (w.alloc (.cells (c7 0 0 0 0 0 0 0) TR)) TR (c7 4 0 0 0 0 0 0))
  rw [show (w.alloc (.cells (c7 0 0 0 0 0 0 0) TR)).heap.size = w.heap.size + 1 by simp] at HQ
  obtain ⟨g4, HG4⟩ : ∃ g4, Hid (w.heap.size = g4) := ⟨_, Lib.hid rfl⟩
  rw [HG4.out] at HO HQ
  clear hr
  go_enter Try.func24, Try.ntmps24
  go_wp2_with fail
  rw [HG4.out]
  refine (long_is 4 2 _ (by omega) (by omega) rfl).mono ?_
  rintro e w3 ⟨rfl, hb3⟩
  have HB3 := Lib.hid (HB.out.trans (hb3.mono HB.out.size))
  have HO3 := Lib.hid (HO.out.kept hb3)
  have HQ3 := Lib.hid (HQ.out.kept hb3)
  clear hb3 HB HO HQ
  obtain ⟨u0, u1, u2, u3, u4, u5, u6⟩ := cells7r HQ3.out
  obtain ⟨f0, f1, f2, f3, f4, f5, f6⟩ := frees7r HQ3.out
  have hfit : ¬ ((n : Int) - (at' : Int) < 2) := by omega
  go_wp2_with fail
  have HB4 : Hid (Below w.heap.size w (w3.setCell ⟨g4 + 1, 5, none⟩ (.int .i64 (x1)))) := Lib.hid (HB3.out.setCell (p := ⟨g4 + 1, 5, none⟩) (by have := HG4.out; simp; omega) (.int .i64 (x1)))
  have HO4 : Hid (Obj1 (w3.setCell ⟨g4 + 1, 5, none⟩ (.int .i64 (x1))) g4 TR (c7 0 0 0 0 0 0 0)) := Lib.hid (HO3.out.far ⟨g4 + 1, 5, none⟩ (by simp) (.int .i64 (x1)))
  have HQ4 : Hid (Obj1 (w3.setCell ⟨g4 + 1, 5, none⟩ (.int .i64 (x1))) (g4 + 1) TR (c7 4 0 0 0 0 x1 0)) := Lib.hid (HQ3.out.set 5 (.int .i64 (x1)))
  clear u0 u1 u2 u3 u4 u5 u6 f0 f1 f2 f3 f4 f5 f6 HB3 HO3 HQ3
  generalize (w3.setCell ⟨g4 + 1, 5, none⟩ (.int .i64 (x1))) = w4 at HB4 HO4 HQ4 ⊢
  refine (rright_r r 4 0 0 0 0 x1 0 w4 HR.out (by omega)).mono ?_
  rintro e w5 ⟨rfl, hb5⟩
  have HB5 := Lib.hid (HB4.out.trans (hb5.mono HB4.out.size))
  have HO5 := Lib.hid (HO4.out.kept hb5)
  have HQ5 := Lib.hid (HQ4.out.kept hb5)
  clear hb5
  obtain ⟨u0, u1, u2, u3, u4, u5, u6⟩ := cells7r HQ5.out
  obtain ⟨z0, z1, z2, z3, z4, z5, z6⟩ := cells7r HO5.out
  obtain ⟨f0, f1, f2, f3, f4, f5, f6⟩ := frees7r HO5.out
  cases r
  · go_wp2
    refine bodyPost_ret (v := .tuple #[cv 0 0 0 0 0 0 0, .int .i64 0, .int .i64 11]) (by simp [results, Try.results24, go_sem, z0, z1, z2, z3, z4, z5, z6]) rfl ⟨rfl, Lib.hid ?_⟩
    exact set7' HB5.out (by have := HG4.out; omega) _ _ _ _ _ _ _
  · go_wp2
    refine bodyPost_ret (v := .tuple #[cv 4 0 0 0 0 x1 0, .int .i64 ((at' : Int) + 2), .int .i64 0]) (by simp [results, Try.results24, go_sem, z0, z1, z2, z3, z4, z5, z6]) rfl ⟨rfl, Lib.hid ?_⟩
    exact set7' HB5.out (by have := HG4.out; omega) _ _ _ _ _ _ _
set_option maxRecDepth 100000 in
set_option maxHeartbeats 4000000 in
theorem rread_5 (S V : ByteArray) (at' n : Nat) (r : Bool) (w : World) (hS : S.size = n) (hn : n ≤ 2000) (ha : at' + 1 ≤ n) 
    (HI : ∀ w, (Instr.index 9 (.string S) (.int .i64 at')).run Try.prog w = .ok (.int .u8 5) w)
    (HC : ∀ w, (Instr.slice 9 (.string S) (some (.int .i64 at')) (some (.int .i64 ((at' : Int) + 1))) none).run Try.prog w = .ok (.string V) w)
     (hr : RR r 5 0 0 0 0 0 0) :
    Calls Try.prog 24 #[.string S, .int .i64 at'] w fun e w' => e = .returned (.tuple (if r = true then #[cv 5 0 0 0 0 0 0, .int .i64 ((at' : Int) + 1), .int .i64 0] else #[cv 0 0 0 0 0 0 0, .int .i64 0, .int .i64 11])) ∧ Hid (Below w.heap.size w w') := by
  have HR := Lib.hid hr
  have HB := Lib.hid (show Below w.heap.size w ((w.alloc (.cells (c7 0 0 0 0 0 0 0) TR)).alloc (.cells (c7 5 0 0 0 0 0 0) TR)) from ((Below.refl _ _).alloc (Nat.le_refl _) _).alloc (by simp) _)
  have HO := Lib.hid ((Obj1.new w TR (c7 0 0 0 0 0 0 0)).alloc (.cells (c7 5 0 0 0 0 0 0) TR))
  have HQ := Lib.hid (Obj1.new (w.alloc (.cells (c7 0 0 0 0 0 0 0) TR)) TR (c7 5 0 0 0 0 0 0))
  rw [show (w.alloc (.cells (c7 0 0 0 0 0 0 0) TR)).heap.size = w.heap.size + 1 by simp] at HQ
  obtain ⟨g4, HG4⟩ : ∃ g4, Hid (w.heap.size = g4) := ⟨_, Lib.hid rfl⟩
  rw [HG4.out] at HO HQ
  clear hr
  go_enter Try.func24, Try.ntmps24
  go_wp2_with fail
  rw [HG4.out]
  refine (long_is 5 1 _ (by omega) (by omega) rfl).mono ?_
  rintro e w3 ⟨rfl, hb3⟩
  have HB3 := Lib.hid (HB.out.trans (hb3.mono HB.out.size))
  have HO3 := Lib.hid (HO.out.kept hb3)
  have HQ3 := Lib.hid (HQ.out.kept hb3)
  clear hb3 HB HO HQ
  obtain ⟨u0, u1, u2, u3, u4, u5, u6⟩ := cells7r HQ3.out
  obtain ⟨f0, f1, f2, f3, f4, f5, f6⟩ := frees7r HQ3.out
  have hfit : ¬ ((n : Int) - (at' : Int) < 1) := by omega
  go_wp2_with fail
  have HB4 : Hid (Below w.heap.size w w3) := Lib.hid HB3.out
  have HO4 : Hid (Obj1 w3 g4 TR (c7 0 0 0 0 0 0 0)) := Lib.hid HO3.out
  have HQ4 : Hid (Obj1 w3 (g4 + 1) TR (c7 5 0 0 0 0 0 0)) := Lib.hid HQ3.out
  clear u0 u1 u2 u3 u4 u5 u6 f0 f1 f2 f3 f4 f5 f6 HB3 HO3 HQ3
  generalize w3 = w4 at HB4 HO4 HQ4 ⊢
  refine (rright_r r 5 0 0 0 0 0 0 w4 HR.out (by omega)).mono ?_
  rintro e w5 ⟨rfl, hb5⟩
  have HB5 := Lib.hid (HB4.out.trans (hb5.mono HB4.out.size))
  have HO5 := Lib.hid (HO4.out.kept hb5)
  have HQ5 := Lib.hid (HQ4.out.kept hb5)
  clear hb5
  obtain ⟨u0, u1, u2, u3, u4, u5, u6⟩ := cells7r HQ5.out
  obtain ⟨z0, z1, z2, z3, z4, z5, z6⟩ := cells7r HO5.out
  obtain ⟨f0, f1, f2, f3, f4, f5, f6⟩ := frees7r HO5.out
  cases r
  · go_wp2
    refine bodyPost_ret (v := .tuple #[cv 0 0 0 0 0 0 0, .int .i64 0, .int .i64 11]) (by simp [results, Try.results24, go_sem, z0, z1, z2, z3, z4, z5, z6]) rfl ⟨rfl, Lib.hid ?_⟩
    exact set7' HB5.out (by have := HG4.out; omega) _ _ _ _ _ _ _
  · go_wp2
    refine bodyPost_ret (v := .tuple #[cv 5 0 0 0 0 0 0, .int .i64 ((at' : Int) + 1), .int .i64 0]) (by simp [results, Try.results24, go_sem, z0, z1, z2, z3, z4, z5, z6]) rfl ⟨rfl, Lib.hid ?_⟩
    exact set7' HB5.out (by have := HG4.out; omega) _ _ _ _ _ _ _
set_option maxRecDepth 100000 in
set_option maxHeartbeats 4000000 in
theorem rread_6 (S V : ByteArray) (at' n : Nat) (r : Bool) (x1 x2 : Int) (w : World) (hS : S.size = n) (hn : n ≤ 2000) (ha : at' + 3 ≤ n) (b1 : 0 ≤ x1 ∧ x1 ≤ 255) (b2 : 0 ≤ x2 ∧ x2 ≤ 255)
    (HI : ∀ w, (Instr.index 9 (.string S) (.int .i64 at')).run Try.prog w = .ok (.int .u8 6) w)
    (HC : ∀ w, (Instr.slice 9 (.string S) (some (.int .i64 at')) (some (.int .i64 ((at' : Int) + 3))) none).run Try.prog w = .ok (.string V) w)
    (H1 : ∀ w, (Instr.index 9 (.string V) (.int .i64 1)).run Try.prog w = .ok (.int .u8 x1) w) (H2 : ∀ w, (Instr.index 9 (.string V) (.int .i64 2)).run Try.prog w = .ok (.int .u8 x2) w) (hr : RR r 6 0 0 0 0 0 (256 * x1 + x2)) :
    Calls Try.prog 24 #[.string S, .int .i64 at'] w fun e w' => e = .returned (.tuple (if r = true then #[cv 6 0 0 0 0 0 (256 * x1 + x2), .int .i64 ((at' : Int) + 3), .int .i64 0] else #[cv 0 0 0 0 0 0 0, .int .i64 0, .int .i64 11])) ∧ Hid (Below w.heap.size w w') := by
  have HR := Lib.hid hr
  have HB := Lib.hid (show Below w.heap.size w ((w.alloc (.cells (c7 0 0 0 0 0 0 0) TR)).alloc (.cells (c7 6 0 0 0 0 0 0) TR)) from ((Below.refl _ _).alloc (Nat.le_refl _) _).alloc (by simp) _)
  have HO := Lib.hid ((Obj1.new w TR (c7 0 0 0 0 0 0 0)).alloc (.cells (c7 6 0 0 0 0 0 0) TR))
  have HQ := Lib.hid (Obj1.new (w.alloc (.cells (c7 0 0 0 0 0 0 0) TR)) TR (c7 6 0 0 0 0 0 0))
  rw [show (w.alloc (.cells (c7 0 0 0 0 0 0 0) TR)).heap.size = w.heap.size + 1 by simp] at HQ
  obtain ⟨g4, HG4⟩ : ∃ g4, Hid (w.heap.size = g4) := ⟨_, Lib.hid rfl⟩
  rw [HG4.out] at HO HQ
  clear hr
  go_enter Try.func24, Try.ntmps24
  go_wp2_with fail
  rw [HG4.out]
  refine (long_is 6 3 _ (by omega) (by omega) rfl).mono ?_
  rintro e w3 ⟨rfl, hb3⟩
  have HB3 := Lib.hid (HB.out.trans (hb3.mono HB.out.size))
  have HO3 := Lib.hid (HO.out.kept hb3)
  have HQ3 := Lib.hid (HQ.out.kept hb3)
  clear hb3 HB HO HQ
  obtain ⟨u0, u1, u2, u3, u4, u5, u6⟩ := cells7r HQ3.out
  obtain ⟨f0, f1, f2, f3, f4, f5, f6⟩ := frees7r HQ3.out
  have hfit : ¬ ((n : Int) - (at' : Int) < 3) := by omega
  go_wp2_with fail
  go_region
  go_wp2_with fail
  have HB4 : Hid (Below w.heap.size w (w3.setCell ⟨g4 + 1, 6, none⟩ (.int .i64 (256 * x1 + x2)))) := Lib.hid (HB3.out.setCell (p := ⟨g4 + 1, 6, none⟩) (by have := HG4.out; simp; omega) (.int .i64 (256 * x1 + x2)))
  have HO4 : Hid (Obj1 (w3.setCell ⟨g4 + 1, 6, none⟩ (.int .i64 (256 * x1 + x2))) g4 TR (c7 0 0 0 0 0 0 0)) := Lib.hid (HO3.out.far ⟨g4 + 1, 6, none⟩ (by simp) (.int .i64 (256 * x1 + x2)))
  have HQ4 : Hid (Obj1 (w3.setCell ⟨g4 + 1, 6, none⟩ (.int .i64 (256 * x1 + x2))) (g4 + 1) TR (c7 6 0 0 0 0 0 (256 * x1 + x2))) := Lib.hid (HQ3.out.set 6 (.int .i64 (256 * x1 + x2)))
  clear u0 u1 u2 u3 u4 u5 u6 f0 f1 f2 f3 f4 f5 f6 HB3 HO3 HQ3
  generalize (w3.setCell ⟨g4 + 1, 6, none⟩ (.int .i64 (256 * x1 + x2))) = w4 at HB4 HO4 HQ4 ⊢
  refine (rright_r r 6 0 0 0 0 0 (256 * x1 + x2) w4.drew HR.out (by omega)).mono ?_
  rintro e w5 ⟨rfl, hb5⟩
  have HB5 := Lib.hid (HB4.out.drew.trans (hb5.mono HB4.out.drew.size))
  have HO5 := Lib.hid (HO4.out.drew.kept hb5)
  have HQ5 := Lib.hid (HQ4.out.drew.kept hb5)
  clear hb5
  obtain ⟨u0, u1, u2, u3, u4, u5, u6⟩ := cells7r HQ5.out
  obtain ⟨z0, z1, z2, z3, z4, z5, z6⟩ := cells7r HO5.out
  obtain ⟨f0, f1, f2, f3, f4, f5, f6⟩ := frees7r HO5.out
  cases r
  · go_wp2
    refine bodyPost_ret (v := .tuple #[cv 0 0 0 0 0 0 0, .int .i64 0, .int .i64 11]) (by simp [results, Try.results24, go_sem, z0, z1, z2, z3, z4, z5, z6]) rfl ⟨rfl, Lib.hid ?_⟩
    exact set7' HB5.out (by have := HG4.out; omega) _ _ _ _ _ _ _
  · go_wp2
    refine bodyPost_ret (v := .tuple #[cv 6 0 0 0 0 0 (256 * x1 + x2), .int .i64 ((at' : Int) + 3), .int .i64 0]) (by simp [results, Try.results24, go_sem, z0, z1, z2, z3, z4, z5, z6]) rfl ⟨rfl, Lib.hid ?_⟩
    exact set7' HB5.out (by have := HG4.out; omega) _ _ _ _ _ _ _
set_option maxRecDepth 100000 in
set_option maxHeartbeats 4000000 in
theorem rread_7 (S V : ByteArray) (at' n : Nat) (r : Bool) (w : World) (hS : S.size = n) (hn : n ≤ 2000) (ha : at' + 1 ≤ n) 
    (HI : ∀ w, (Instr.index 9 (.string S) (.int .i64 at')).run Try.prog w = .ok (.int .u8 7) w)
    (HC : ∀ w, (Instr.slice 9 (.string S) (some (.int .i64 at')) (some (.int .i64 ((at' : Int) + 1))) none).run Try.prog w = .ok (.string V) w)
     (hr : RR r 7 0 0 0 0 0 0) :
    Calls Try.prog 24 #[.string S, .int .i64 at'] w fun e w' => e = .returned (.tuple (if r = true then #[cv 7 0 0 0 0 0 0, .int .i64 ((at' : Int) + 1), .int .i64 0] else #[cv 0 0 0 0 0 0 0, .int .i64 0, .int .i64 11])) ∧ Hid (Below w.heap.size w w') := by
  have HR := Lib.hid hr
  have HB := Lib.hid (show Below w.heap.size w ((w.alloc (.cells (c7 0 0 0 0 0 0 0) TR)).alloc (.cells (c7 7 0 0 0 0 0 0) TR)) from ((Below.refl _ _).alloc (Nat.le_refl _) _).alloc (by simp) _)
  have HO := Lib.hid ((Obj1.new w TR (c7 0 0 0 0 0 0 0)).alloc (.cells (c7 7 0 0 0 0 0 0) TR))
  have HQ := Lib.hid (Obj1.new (w.alloc (.cells (c7 0 0 0 0 0 0 0) TR)) TR (c7 7 0 0 0 0 0 0))
  rw [show (w.alloc (.cells (c7 0 0 0 0 0 0 0) TR)).heap.size = w.heap.size + 1 by simp] at HQ
  obtain ⟨g4, HG4⟩ : ∃ g4, Hid (w.heap.size = g4) := ⟨_, Lib.hid rfl⟩
  rw [HG4.out] at HO HQ
  clear hr
  go_enter Try.func24, Try.ntmps24
  go_wp2_with fail
  rw [HG4.out]
  refine (long_is 7 1 _ (by omega) (by omega) rfl).mono ?_
  rintro e w3 ⟨rfl, hb3⟩
  have HB3 := Lib.hid (HB.out.trans (hb3.mono HB.out.size))
  have HO3 := Lib.hid (HO.out.kept hb3)
  have HQ3 := Lib.hid (HQ.out.kept hb3)
  clear hb3 HB HO HQ
  obtain ⟨u0, u1, u2, u3, u4, u5, u6⟩ := cells7r HQ3.out
  obtain ⟨f0, f1, f2, f3, f4, f5, f6⟩ := frees7r HQ3.out
  have hfit : ¬ ((n : Int) - (at' : Int) < 1) := by omega
  go_wp2_with fail
  have HB4 : Hid (Below w.heap.size w w3) := Lib.hid HB3.out
  have HO4 : Hid (Obj1 w3 g4 TR (c7 0 0 0 0 0 0 0)) := Lib.hid HO3.out
  have HQ4 : Hid (Obj1 w3 (g4 + 1) TR (c7 7 0 0 0 0 0 0)) := Lib.hid HQ3.out
  clear u0 u1 u2 u3 u4 u5 u6 f0 f1 f2 f3 f4 f5 f6 HB3 HO3 HQ3
  generalize w3 = w4 at HB4 HO4 HQ4 ⊢
  refine (rright_r r 7 0 0 0 0 0 0 w4 HR.out (by omega)).mono ?_
  rintro e w5 ⟨rfl, hb5⟩
  have HB5 := Lib.hid (HB4.out.trans (hb5.mono HB4.out.size))
  have HO5 := Lib.hid (HO4.out.kept hb5)
  have HQ5 := Lib.hid (HQ4.out.kept hb5)
  clear hb5
  obtain ⟨u0, u1, u2, u3, u4, u5, u6⟩ := cells7r HQ5.out
  obtain ⟨z0, z1, z2, z3, z4, z5, z6⟩ := cells7r HO5.out
  obtain ⟨f0, f1, f2, f3, f4, f5, f6⟩ := frees7r HO5.out
  cases r
  · go_wp2
    refine bodyPost_ret (v := .tuple #[cv 0 0 0 0 0 0 0, .int .i64 0, .int .i64 11]) (by simp [results, Try.results24, go_sem, z0, z1, z2, z3, z4, z5, z6]) rfl ⟨rfl, Lib.hid ?_⟩
    exact set7' HB5.out (by have := HG4.out; omega) _ _ _ _ _ _ _
  · go_wp2
    refine bodyPost_ret (v := .tuple #[cv 7 0 0 0 0 0 0, .int .i64 ((at' : Int) + 1), .int .i64 0]) (by simp [results, Try.results24, go_sem, z0, z1, z2, z3, z4, z5, z6]) rfl ⟨rfl, Lib.hid ?_⟩
    exact set7' HB5.out (by have := HG4.out; omega) _ _ _ _ _ _ _
set_option maxRecDepth 100000 in
set_option maxHeartbeats 4000000 in
theorem rread_8 (S V : ByteArray) (at' n : Nat) (r : Bool) (x1 x2 : Int) (w : World) (hS : S.size = n) (hn : n ≤ 2000) (ha : at' + 3 ≤ n) (b1 : 0 ≤ x1 ∧ x1 ≤ 255) (b2 : 0 ≤ x2 ∧ x2 ≤ 255)
    (HI : ∀ w, (Instr.index 9 (.string S) (.int .i64 at')).run Try.prog w = .ok (.int .u8 8) w)
    (HC : ∀ w, (Instr.slice 9 (.string S) (some (.int .i64 at')) (some (.int .i64 ((at' : Int) + 3))) none).run Try.prog w = .ok (.string V) w)
    (H1 : ∀ w, (Instr.index 9 (.string V) (.int .i64 1)).run Try.prog w = .ok (.int .u8 x1) w) (H2 : ∀ w, (Instr.index 9 (.string V) (.int .i64 2)).run Try.prog w = .ok (.int .u8 x2) w) (hr : RR r 8 0 0 0 0 0 (256 * x1 + x2)) :
    Calls Try.prog 24 #[.string S, .int .i64 at'] w fun e w' => e = .returned (.tuple (if r = true then #[cv 8 0 0 0 0 0 (256 * x1 + x2), .int .i64 ((at' : Int) + 3), .int .i64 0] else #[cv 0 0 0 0 0 0 0, .int .i64 0, .int .i64 11])) ∧ Hid (Below w.heap.size w w') := by
  have HR := Lib.hid hr
  have HB := Lib.hid (show Below w.heap.size w ((w.alloc (.cells (c7 0 0 0 0 0 0 0) TR)).alloc (.cells (c7 8 0 0 0 0 0 0) TR)) from ((Below.refl _ _).alloc (Nat.le_refl _) _).alloc (by simp) _)
  have HO := Lib.hid ((Obj1.new w TR (c7 0 0 0 0 0 0 0)).alloc (.cells (c7 8 0 0 0 0 0 0) TR))
  have HQ := Lib.hid (Obj1.new (w.alloc (.cells (c7 0 0 0 0 0 0 0) TR)) TR (c7 8 0 0 0 0 0 0))
  rw [show (w.alloc (.cells (c7 0 0 0 0 0 0 0) TR)).heap.size = w.heap.size + 1 by simp] at HQ
  obtain ⟨g4, HG4⟩ : ∃ g4, Hid (w.heap.size = g4) := ⟨_, Lib.hid rfl⟩
  rw [HG4.out] at HO HQ
  clear hr
  go_enter Try.func24, Try.ntmps24
  go_wp2_with fail
  rw [HG4.out]
  refine (long_is 8 3 _ (by omega) (by omega) rfl).mono ?_
  rintro e w3 ⟨rfl, hb3⟩
  have HB3 := Lib.hid (HB.out.trans (hb3.mono HB.out.size))
  have HO3 := Lib.hid (HO.out.kept hb3)
  have HQ3 := Lib.hid (HQ.out.kept hb3)
  clear hb3 HB HO HQ
  obtain ⟨u0, u1, u2, u3, u4, u5, u6⟩ := cells7r HQ3.out
  obtain ⟨f0, f1, f2, f3, f4, f5, f6⟩ := frees7r HQ3.out
  have hfit : ¬ ((n : Int) - (at' : Int) < 3) := by omega
  go_wp2_with fail
  go_region
  go_wp2_with fail
  have HB4 : Hid (Below w.heap.size w (w3.setCell ⟨g4 + 1, 6, none⟩ (.int .i64 (256 * x1 + x2)))) := Lib.hid (HB3.out.setCell (p := ⟨g4 + 1, 6, none⟩) (by have := HG4.out; simp; omega) (.int .i64 (256 * x1 + x2)))
  have HO4 : Hid (Obj1 (w3.setCell ⟨g4 + 1, 6, none⟩ (.int .i64 (256 * x1 + x2))) g4 TR (c7 0 0 0 0 0 0 0)) := Lib.hid (HO3.out.far ⟨g4 + 1, 6, none⟩ (by simp) (.int .i64 (256 * x1 + x2)))
  have HQ4 : Hid (Obj1 (w3.setCell ⟨g4 + 1, 6, none⟩ (.int .i64 (256 * x1 + x2))) (g4 + 1) TR (c7 8 0 0 0 0 0 (256 * x1 + x2))) := Lib.hid (HQ3.out.set 6 (.int .i64 (256 * x1 + x2)))
  clear u0 u1 u2 u3 u4 u5 u6 f0 f1 f2 f3 f4 f5 f6 HB3 HO3 HQ3
  generalize (w3.setCell ⟨g4 + 1, 6, none⟩ (.int .i64 (256 * x1 + x2))) = w4 at HB4 HO4 HQ4 ⊢
  refine (rright_r r 8 0 0 0 0 0 (256 * x1 + x2) w4.drew HR.out (by omega)).mono ?_
  rintro e w5 ⟨rfl, hb5⟩
  have HB5 := Lib.hid (HB4.out.drew.trans (hb5.mono HB4.out.drew.size))
  have HO5 := Lib.hid (HO4.out.drew.kept hb5)
  have HQ5 := Lib.hid (HQ4.out.drew.kept hb5)
  clear hb5
  obtain ⟨u0, u1, u2, u3, u4, u5, u6⟩ := cells7r HQ5.out
  obtain ⟨z0, z1, z2, z3, z4, z5, z6⟩ := cells7r HO5.out
  obtain ⟨f0, f1, f2, f3, f4, f5, f6⟩ := frees7r HO5.out
  cases r
  · go_wp2
    refine bodyPost_ret (v := .tuple #[cv 0 0 0 0 0 0 0, .int .i64 0, .int .i64 11]) (by simp [results, Try.results24, go_sem, z0, z1, z2, z3, z4, z5, z6]) rfl ⟨rfl, Lib.hid ?_⟩
    exact set7' HB5.out (by have := HG4.out; omega) _ _ _ _ _ _ _
  · go_wp2
    refine bodyPost_ret (v := .tuple #[cv 8 0 0 0 0 0 (256 * x1 + x2), .int .i64 ((at' : Int) + 3), .int .i64 0]) (by simp [results, Try.results24, go_sem, z0, z1, z2, z3, z4, z5, z6]) rfl ⟨rfl, Lib.hid ?_⟩
    exact set7' HB5.out (by have := HG4.out; omega) _ _ _ _ _ _ _
end Go.Proofs.Ythnopcoahcdjjaa.Ly9
