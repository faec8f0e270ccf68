/- The contracts of the document's own Right, Clean, of layer 9; no condition. -/
import Derived.Test.YthnopcoahcdjjaaCmdI
import Derived.Test.YthnopcoahcdjjaaCmdB
namespace Go.Proofs.Ythnopcoahcdjjaa.Ly9
open Go.ChangeShapes Go.WideShapes Go.ChangeAt Go.RowKit Base
set_option linter.unusedVariables false
set_option linter.unusedSimpArgs false

set_option maxHeartbeats 16000000 in
theorem rright_yes (o a s c m b t : Int) (w : World) (hy : RP o a s c m b t) :
    Calls Try.prog 17 #[cv o a s c m b t] w fun e w' => e = .returned (.bool true) ∧ Below w.heap.size w w' := by
  have HB := Lib.hid (show Below w.heap.size w (w.alloc (.cells (c7 o a s c m b t) 24)) from (Below.refl _ _).alloc (Nat.le_refl _) _)
  rcases hy with ⟨rfl, h1, h2, h3, h4, h5, h6, h7, h8⟩ | ⟨rfl, h1, h2, h3, h4, h5, h6⟩ | ⟨rfl, h1, h2, h3, h4⟩ | ⟨rfl, h1, h2⟩ | ⟨rfl, h1, h2⟩ | ⟨rfl, h1, h2⟩ | rfl | rfl | rfl
  all_goals
    as_aux_lemma =>
      go_enter Try.func17, Try.ntmps17
      go_wp2
      go_ret
      exact ⟨by first | rfl | (simp; done) | (simp; omega), HB.out⟩
set_option maxHeartbeats 16000000 in
theorem rright_no (o a s c m b t : Int) (w : World) (hn : ¬ RP o a s c m b t) (bs : -9223372036854775808 ≤ s ∧ s ≤ 9223372036854775807) :
    Calls Try.prog 17 #[cv o a s c m b t] w fun e w' => e = .returned (.bool false) ∧ Below w.heap.size w w' := by
  obtain ⟨bs0, bs1⟩ := bs
  have HB := Lib.hid (show Below w.heap.size w (w.alloc (.cells (c7 o a s c m b t) 24)) from (Below.refl _ _).alloc (Nat.le_refl _) _)
  rcases no_of hn with ⟨rfl, q | q⟩ | ⟨rfl, ⟨h0, h1⟩, q | q⟩ | ⟨rfl, ⟨h0, h1⟩, ⟨h2, h3⟩, q | q⟩ | ⟨rfl, ⟨h0, h1⟩, ⟨h2, h3⟩, ⟨h4, h5⟩, q | q⟩ | ⟨rfl, q | q⟩ | ⟨rfl, ⟨h0, h1⟩, q | q⟩ | ⟨rfl, ⟨h0, h1⟩, ⟨h2, h3⟩, q | q⟩ | ⟨rfl, q | q⟩ | ⟨rfl, ⟨h0, h1⟩, q | q⟩ | ⟨rfl, q | q⟩ | ⟨rfl, q | q⟩ | ⟨rfl, q | q⟩ | q | q
  all_goals
    clear hn
    as_aux_lemma =>
      go_enter Try.func17, Try.ntmps17
      go_wp2
      all_goals
        go_ret
        exact ⟨by first | rfl | (simp; done) | (simp; omega), HB.out⟩
/-- A command without what does not count. -/
def CL (o a s c m b t : Int) : Value := if o = 1 then cv o a s c m 0 0 else if o = 2 then cv o a s 0 m 0 0 else if o = 3 then cv o 0 s 0 m 0 0 else if o = 4 then cv o 0 0 0 0 b 0 else if o = 6 ∨ o = 8 then cv o 0 0 0 0 0 t else cv o 0 0 0 0 0 0
theorem CL_eq (o a s c m b t : Int) : wth o (nums o a s c m b t) = CL o a s c m b t := by
  unfold wth nums CL
  split
  · rfl
  split
  · rfl
  split
  · rfl
  split
  · rfl
  split
  · simp only [List.getD_cons_zero, List.getD_cons_succ]
    rw [show t / 256 * 256 + t % 256 = t by omega]
  · rfl
theorem two7 {w : World} (T : TypeId) (x y z : Array Value) : Below w.heap.size w (((w.alloc (.cells x T)).alloc (.cells y T)).alloc (.cells z T)) := (((Below.refl _ _).alloc (Nat.le_refl _) _).alloc (by simp) _).alloc (by simp; omega) _
set_option maxRecDepth 100000 in
set_option maxHeartbeats 8000000 in
theorem rclean_any (o a s c m b t : Int) (w : World) :
    Calls Try.prog 20 #[cv o a s c m b t] w fun e w' => e = .returned (CL o a s c m b t) ∧ Below w.heap.size w w' := by
  rcases (show o = 1 ∨ o = 2 ∨ o = 3 ∨ o = 4 ∨ o = 6 ∨ o = 8 ∨ (¬ o = 1 ∧ ¬ o = 2 ∧ ¬ o = 3 ∧ ¬ o = 4 ∧ ¬ o = 6 ∧ ¬ o = 8) by omega) with rfl | rfl | rfl | rfl | rfl | rfl | q
  · rw [show CL 1 a s c m b t = cv 1 a s c m 0 0 from rfl]
    go_enter Try.func20, Try.ntmps20
    go_wp2
    go_region
    go_wp2
    refine bodyPost_ret (v := cv 1 a s c m 0 0) (by simp [results, Try.results20, go_sem]) rfl ⟨rfl, ?_⟩
    repeat (first | exact Below.refl _ _ | refine Below.setCell ?_ (by first | omega | (simp; done) | (simp; omega)) _ | refine Below.alloc ?_ (by first | omega | (simp; done) | (simp; omega)) _ | refine below_drewN' ?_ _ | refine Below.drew ?_)
  · rw [show CL 2 a s c m b t = cv 2 a s 0 m 0 0 from rfl]
    go_enter Try.func20, Try.ntmps20
    go_wp2
    go_region
    go_wp2
    refine bodyPost_ret (v := cv 2 a s 0 m 0 0) (by simp [results, Try.results20, go_sem]) rfl ⟨rfl, ?_⟩
    repeat (first | exact Below.refl _ _ | refine Below.setCell ?_ (by first | omega | (simp; done) | (simp; omega)) _ | refine Below.alloc ?_ (by first | omega | (simp; done) | (simp; omega)) _ | refine below_drewN' ?_ _ | refine Below.drew ?_)
  · rw [show CL 3 a s c m b t = cv 3 0 s 0 m 0 0 from rfl]
    go_enter Try.func20, Try.ntmps20
    go_wp2
    go_region
    go_wp2
    refine bodyPost_ret (v := cv 3 0 s 0 m 0 0) (by simp [results, Try.results20, go_sem]) rfl ⟨rfl, ?_⟩
    repeat (first | exact Below.refl _ _ | refine Below.setCell ?_ (by first | omega | (simp; done) | (simp; omega)) _ | refine Below.alloc ?_ (by first | omega | (simp; done) | (simp; omega)) _ | refine below_drewN' ?_ _ | refine Below.drew ?_)
  · rw [show CL 4 a s c m b t = cv 4 0 0 0 0 b 0 from rfl]
    go_enter Try.func20, Try.ntmps20
    go_wp2
    refine bodyPost_ret (v := cv 4 0 0 0 0 b 0) (by simp [results, Try.results20, go_sem]) rfl ⟨rfl, ?_⟩
    repeat (first | exact Below.refl _ _ | refine Below.setCell ?_ (by first | omega | (simp; done) | (simp; omega)) _ | refine Below.alloc ?_ (by first | omega | (simp; done) | (simp; omega)) _ | refine below_drewN' ?_ _ | refine Below.drew ?_)
  · rw [show CL 6 a s c m b t = cv 6 0 0 0 0 0 t from rfl]
    go_enter Try.func20, Try.ntmps20
    go_wp2
    refine bodyPost_ret (v := cv 6 0 0 0 0 0 t) (by simp [results, Try.results20, go_sem]) rfl ⟨rfl, ?_⟩
    repeat (first | exact Below.refl _ _ | refine Below.setCell ?_ (by first | omega | (simp; done) | (simp; omega)) _ | refine Below.alloc ?_ (by first | omega | (simp; done) | (simp; omega)) _ | refine below_drewN' ?_ _ | refine Below.drew ?_)
  · rw [show CL 8 a s c m b t = cv 8 0 0 0 0 0 t from rfl]
    go_enter Try.func20, Try.ntmps20
    go_wp2
    refine bodyPost_ret (v := cv 8 0 0 0 0 0 t) (by simp [results, Try.results20, go_sem]) rfl ⟨rfl, ?_⟩
    repeat (first | exact Below.refl _ _ | refine Below.setCell ?_ (by first | omega | (simp; done) | (simp; omega)) _ | refine Below.alloc ?_ (by first | omega | (simp; done) | (simp; omega)) _ | refine below_drewN' ?_ _ | refine Below.drew ?_)
  · have hf : (o == 1) = false ∧ (o == 2) = false ∧ (o == 3) = false ∧ (o == 4) = false ∧ (o == 6) = false ∧ (o == 8) = false := by
      obtain ⟨h1, h2, h3, h4, h5, h6⟩ := q
      simp [h1, h2, h3, h4, h5, h6]
    obtain ⟨e1, e2, e3, e4, e6, e8⟩ := hf
    have hv : CL o a s c m b t = cv o 0 0 0 0 0 0 := by
      obtain ⟨h1, h2, h3, h4, h5, h6⟩ := q
      unfold CL
      rw [if_neg h1, if_neg h2, if_neg h3, if_neg h4, if_neg (by omega)]
    rw [hv]
    clear q hv
    go_enter Try.func20, Try.ntmps20
    go_wp2
    refine bodyPost_ret (v := cv o 0 0 0 0 0 0) (by simp [results, Try.results20, go_sem]) rfl ⟨rfl, ?_⟩
    repeat (first | exact Below.refl _ _ | refine Below.setCell ?_ (by first | omega | (simp; done) | (simp; omega)) _ | refine Below.alloc ?_ (by first | omega | (simp; done) | (simp; omega)) _ | refine below_drewN' ?_ _ | refine Below.drew ?_)
end Go.Proofs.Ythnopcoahcdjjaa.Ly9
