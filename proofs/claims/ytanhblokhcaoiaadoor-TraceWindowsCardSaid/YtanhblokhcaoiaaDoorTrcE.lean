/- Package trace's isMessage; no condition. -/
import Derived.Test.YtanhblokhcaoiaaDoorTrcD
namespace Go.Proofs.YtanhblokhcaoiaaDoor.Tr
open Go.ChangeShapes Go.WideShapes Go.ChangeAt Go.RowKit Base
open Hl (Ev TE)
set_option linter.unusedVariables false
set_option linter.unusedSimpArgs false

def isM (k : Int) : Bool := k == 1 || k == 2 || k == 3
set_option maxRecDepth 100000 in
set_option maxHeartbeats 1000000 in
theorem msg_any (x : Ev) (w : World) : Calls Tryd.prog 46 #[.agg #[.int .i64 x.t, .int .i64 x.m, .int .i64 x.k, .int .i64 x.s, .int .i64 x.v, .int .i64 x.si, .int .i64 x.c, .slice x.A x.n x.d]] w fun e' w' => e' = .returned (.bool (isM x.k)) ∧ Below w.heap.size w w' := by
  obtain ⟨gb, HGB⟩ : ∃ gb, Hid (w.heap.size = gb) := ⟨_, Lib.hid rfl⟩
  obtain ⟨k, hk⟩ : ∃ k, x.k = k := ⟨_, rfl⟩
  obtain ⟨W1, HW1⟩ : ∃ W1, Hid (W1 = w.alloc (.cells #[.int .i64 x.t, .int .i64 x.m, .int .i64 x.k, .int .i64 x.s, .int .i64 x.v, .int .i64 x.si, .int .i64 x.c, .slice x.A x.n x.d] TE)) := ⟨_, Lib.hid rfl⟩
  have HB1 : Hid (Below w.heap.size w W1) := Lib.hid (by rw [HW1.out]; exact bel_new _ _)
  have q2 : W1.cell? ⟨gb, 2, none⟩ = some (.int .i64 k) := by rw [← hk, HW1.out, ← HGB.out]; exact (Obj1.new _ _ _).cell 2
  rw [hk] at HW1 ⊢
  clear hk
  by_cases h1 : k = 1
  · subst h1
    rw [show isM 1 = true from rfl]
    go_enter Tryd.func46, Tryd.ntmps46
    go_upto_region 1 with (fail)
    rw [← HW1.out, HGB.out]
    clear HW1
    go_wp2
    go_ret
    exact ⟨rfl, HB1.out⟩
  · have b1 : (k == 1) = false := by simpa using h1
    by_cases h2 : k = 2
    · subst h2
      rw [show isM 2 = true from rfl]
      go_enter Tryd.func46, Tryd.ntmps46
      go_upto_region 1 with (fail)
      rw [← HW1.out, HGB.out]
      clear HW1
      go_wp2
      go_ret
      exact ⟨rfl, HB1.out⟩
    · have b2 : (k == 2) = false := by simpa using h2
      obtain ⟨p, b3⟩ : ∃ p, (k == 3) = p := ⟨_, rfl⟩
      rw [show isM k = p by unfold isM; rw [b1, b2, b3]; rfl]
      go_enter Tryd.func46, Tryd.ntmps46
      go_upto_region 1 with (fail)
      rw [← HW1.out, HGB.out]
      clear HW1
      go_wp2
      go_ret
      exact ⟨rfl, HB1.out⟩
end Go.Proofs.YtanhblokhcaoiaaDoor.Tr
