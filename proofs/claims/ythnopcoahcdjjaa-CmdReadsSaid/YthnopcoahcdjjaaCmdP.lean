/- The contract of the document's own Read, of layer 9, where no command stands; no condition. -/
import Derived.Test.YthnopcoahcdjjaaCmdJ
import Derived.Test.YthnopcoahcdjjaaCmdG
import Derived.Test.YthnopcoahcdjjaaStr
namespace Go.Proofs.Ythnopcoahcdjjaa.Ly9
open Go.ChangeShapes Go.WideShapes Go.ChangeAt Go.RowKit Base
set_option linter.unusedVariables false
set_option linter.unusedSimpArgs false

abbrev TR : TypeId := 24
theorem cells7r {w : World} {g : Nat} {T : TypeId} {o a s c m b t : Int} (h : Obj1 w g T (c7 o a s c m b t)) :
    w.cell? ⟨g, 0, none⟩ = some (.int .i64 o) ∧ w.cell? ⟨g, 1, none⟩ = some (.int .i64 a) ∧ w.cell? ⟨g, 2, none⟩ = some (.int .i64 s) ∧ w.cell? ⟨g, 3, none⟩ = some (.int .i64 c) ∧ w.cell? ⟨g, 4, none⟩ = some (.int .i64 m) ∧ w.cell? ⟨g, 5, none⟩ = some (.int .i64 b) ∧ w.cell? ⟨g, 6, none⟩ = some (.int .i64 t) :=
  ⟨h.cell 0, h.cell 1, h.cell 2, h.cell 3, h.cell 4, h.cell 5, h.cell 6⟩
theorem frees7r {w : World} {g : Nat} {T : TypeId} {cs : Array Value} (h : Obj1 w g T cs) :
    w.frozen? ⟨g, 0, none⟩ = false ∧ w.frozen? ⟨g, 1, none⟩ = false ∧ w.frozen? ⟨g, 2, none⟩ = false ∧ w.frozen? ⟨g, 3, none⟩ = false ∧ w.frozen? ⟨g, 4, none⟩ = false ∧ w.frozen? ⟨g, 5, none⟩ = false ∧ w.frozen? ⟨g, 6, none⟩ = false :=
  ⟨h.free 0, h.free 1, h.free 2, h.free 3, h.free 4, h.free 5, h.free 6⟩
theorem long_any (o : Int) (w : World) (h0 : 0 ≤ o) (h1 : o ≤ 8) : Calls Try.prog 50 #[.int .i64 o] w fun e w' => e = .returned (.int .i64 ((cnt o + 1 : Nat) : Int)) ∧ Below w.heap.size w w' := by
  rcases (show o = 0 ∨ o = 1 ∨ o = 2 ∨ o = 3 ∨ o = 4 ∨ o = 5 ∨ o = 6 ∨ o = 7 ∨ o = 8 by omega) with rfl | rfl | rfl | rfl | rfl | rfl | rfl | rfl | rfl
  all_goals exact Ev.run_ok (f := 1000) named mixed (by kernel_rfl) (.cons _ _ _ _ (.gr _ rfl) .nil) w
set_option maxRecDepth 100000 in
set_option maxHeartbeats 4000000 in
theorem rread_arg (S : ByteArray) (a : Int) (w : World) (hS : S.size ≤ 2000) (h : a < 0 ∨ (S.size : Int) < a) :
    Calls Try.prog 24 #[.string S, .int .i64 a] w fun e w' => e = .returned (.tuple #[cv 0 0 0 0 0 0 0, .int .i64 0, .int .i64 2]) ∧ Hid (Below w.heap.size w w') := by
  rcases h with h | h
  all_goals
    go_enter Try.func24, Try.ntmps24
    go_wp2
    refine bodyPost_ret (by simp [results, Try.results24, go_sem]) rfl ⟨rfl, Lib.hid ?_⟩
    repeat (first | exact Below.refl _ _ | refine Below.setCell ?_ (by first | omega | (simp; done) | (simp; omega)) _ | refine Below.alloc ?_ (by first | omega | (simp; done) | (simp; omega)) _ | refine below_drewN' ?_ _ | refine Below.drew ?_)
set_option maxRecDepth 100000 in
set_option maxHeartbeats 4000000 in
theorem rread_end (S : ByteArray) (n : Nat) (w : World) (hS : S.size = n) (hn : n ≤ 2000) :
    Calls Try.prog 24 #[.string S, .int .i64 n] w fun e w' => e = .returned (.tuple #[cv 0 0 0 0 0 0 0, .int .i64 0, .int .i64 10]) ∧ Hid (Below w.heap.size w w') := by
  go_enter Try.func24, Try.ntmps24
  go_wp2
  refine bodyPost_ret (by simp [results, Try.results24, go_sem]) rfl ⟨rfl, Lib.hid ?_⟩
  repeat (first | exact Below.refl _ _ | refine Below.setCell ?_ (by first | omega | (simp; done) | (simp; omega)) _ | refine Below.alloc ?_ (by first | omega | (simp; done) | (simp; omega)) _ | refine below_drewN' ?_ _ | refine Below.drew ?_)
attribute [-go_sem] run_index_string
set_option maxRecDepth 100000 in
set_option maxHeartbeats 4000000 in
theorem rread_op (o : Int) (S : ByteArray) (a n : Nat) (w : World) (hS : S.size = n) (hn : n ≤ 2000) (ha : a < n) (h8 : 8 < o) (h255 : o ≤ 255)
    (HI : ∀ w, (Instr.index 9 (.string S) (.int .i64 a)).run Try.prog w = .ok (.int .u8 o) w) :
    Calls Try.prog 24 #[.string S, .int .i64 a] w fun e w' => e = .returned (.tuple #[cv 0 0 0 0 0 0 0, .int .i64 0, .int .i64 11]) ∧ Hid (Below w.heap.size w w') := by
  go_enter Try.func24, Try.ntmps24
  go_wp2
  refine bodyPost_ret (by simp [results, Try.results24, go_sem]) rfl ⟨rfl, Lib.hid ?_⟩
  repeat (first | exact Below.refl _ _ | refine Below.setCell ?_ (by first | omega | (simp; done) | (simp; omega)) _ | refine Below.alloc ?_ (by first | omega | (simp; done) | (simp; omega)) _ | refine below_drewN' ?_ _ | refine Below.drew ?_)
set_option maxRecDepth 100000 in
set_option maxHeartbeats 4000000 in
theorem rread_short (o : Int) (S : ByteArray) (a n : Nat) (w : World) (hS : S.size = n) (hn : n ≤ 2000) (ha : a < n) (h0 : 0 ≤ o) (h8 : o ≤ 8) (hs : n < a + (cnt o + 1))
    (HI : ∀ w, (Instr.index 9 (.string S) (.int .i64 a)).run Try.prog w = .ok (.int .u8 o) w) :
    Calls Try.prog 24 #[.string S, .int .i64 a] w fun e w' => e = .returned (.tuple #[cv 0 0 0 0 0 0 0, .int .i64 0, .int .i64 10]) ∧ Hid (Below w.heap.size w w') := by
  obtain ⟨k, HK⟩ : ∃ k, Hid (cnt o + 1 = k) := ⟨_, Lib.hid rfl⟩
  rw [HK.out] at hs
  have hk4 : k ≤ 5 := by
    rw [← HK.out]
    unfold cnt
    repeat (first | (split; omega) | omega)
  have HB := Lib.hid (show Below w.heap.size w ((w.alloc (.cells (c7 0 0 0 0 0 0 0) TR)).alloc (.cells (c7 o 0 0 0 0 0 0) TR)) from ((Below.refl _ _).alloc (Nat.le_refl _) _).alloc (by simp) _)
  have HO := Lib.hid ((Obj1.new w TR (c7 0 0 0 0 0 0 0)).alloc (.cells (c7 o 0 0 0 0 0 0) TR))
  obtain ⟨g4, HG4⟩ : ∃ g4, Hid (w.heap.size = g4) := ⟨_, Lib.hid rfl⟩
  rw [HG4.out] at HO
  go_enter Try.func24, Try.ntmps24
  go_wp2_with fail
  rw [HG4.out]
  refine (long_any o _ h0 h8).mono ?_
  rw [HK.out]
  rintro e w3 ⟨rfl, hb3⟩
  have HB3 := Lib.hid (HB.out.trans (hb3.mono HB.out.size))
  have HO3 := Lib.hid (HO.out.kept hb3)
  clear hb3
  obtain ⟨z0, z1, z2, z3, z4, z5, z6⟩ := cells7r HO3.out
  obtain ⟨f0, f1, f2, f3, f4, f5, f6⟩ := frees7r HO3.out
  have hlt : (n : Int) - (a : Int) < (k : Int) := by omega
  go_wp2
  refine bodyPost_ret (v := .tuple #[cv 0 0 0 0 0 0 0, .int .i64 0, .int .i64 10]) (by simp [results, Try.results24, go_sem, z0, z1, z2, z3, z4, z5, z6]) rfl ⟨rfl, Lib.hid ?_⟩
  exact set7' HB3.out (by have := HG4.out; omega) _ _ _ _ _ _ _
end Go.Proofs.Ythnopcoahcdjjaa.Ly9
