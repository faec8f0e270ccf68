/- More span, less gap, or more skew never make clocks nearer, nor the least half less, and a half that is greater by two fits where one did: for every margin, whatever comes beside; no condition. -/
import Derived.Test.YtnbconkefhoblaaMarD
import Derived.Test.YtnbconkefhoblaaSh
import Derived.Test.YtnbconkefhoblaaObj
import Derived.Test.YtnbconkefhoblaaRows
import Derived.WalkKit
import Derived.ProofKit
import Derived.OpenShut
import Derived.ShutString
import Derived.ChangeOld
import Derived.Below
namespace Go.Proofs.Ytnbconkefhoblaa.lawMarginGrows
open Go.ChangeShapes Go.WideShapes Go.ChangeAt Go.RowKit Base
open Go.ChangeMaps (open_string shut_string)
set_option linter.unusedVariables false
set_option linter.unusedSimpArgs false
theorem own : ownKnob Try.prog.godebug = none := by kernel_rfl
theorem laidOut : laidOutB Try.prog = true := by kernel_rfl
open Ly36

theorem ap_span {s g k t : Int} (h : Rt s g k) (ht : 0 ≤ t) : ap s g k ≤ ap (s + t) g k := by
  have hq : s / g ≤ (s + t) / g := Int.ediv_le_ediv (by have := h.g0; omega) (by omega)
  unfold ap; omega
theorem div_gap {s g g' : Int} (s0 : 0 ≤ s) (h0 : 1 ≤ g') (h1 : g' ≤ g) : s / g ≤ s / g' := by
  obtain ⟨a, rfl⟩ : ∃ a : Nat, s = a := ⟨s.toNat, by omega⟩
  obtain ⟨b, rfl⟩ : ∃ b : Nat, g = b := ⟨g.toNat, by omega⟩
  obtain ⟨c, rfl⟩ : ∃ c : Nat, g' = c := ⟨g'.toNat, by omega⟩
  have := Nat.div_le_div_left (a := a) (show c ≤ b by omega) (show 0 < c by omega)
  rw [← Int.natCast_ediv, ← Int.natCast_ediv]
  exact Int.ofNat_le.2 this
theorem ap_gap {s g k g' : Int} (h : Rt s g k) (h0 : 1 ≤ g') (h1 : g' ≤ g) : ap s g k ≤ ap s g' k := by
  have := div_gap (s := s) (by have := h.s0; omega) h0 h1
  unfold ap; omega
theorem ap_skew {s g k t : Int} (ht : 0 ≤ t) : ap s g k ≤ ap s g (k + t) := by unfold ap; omega
theorem lst_up {s g k s' g' k' : Int} (h : ap s g k ≤ ap s' g' k') (hk : k = k') : lst s g k ≤ lst s' g' k' := by
  subst hk; unfold lst; omega
theorem lst_skew {s g k t : Int} (hk : 0 ≤ k) (ht : 0 ≤ t) : lst s g k ≤ lst s g (k + t) := by
  unfold lst ap; split <;> split <;> omega
theorem fit_two {s g k n : Int} (hf : fitB s g k n = true) : fitB s g k (n + 2) = true := by
  unfold fitB at *
  have := of_decide_eq_true hf
  exact decide_eq_true (by omega)

theorem cut_any (a : Int) (w : World) (a0 : 0 ≤ a) (a1 : a ≤ 1073741824) : Calls Try.prog 84 #[.int .i64 a] w fun e w' => e = .returned (.int .i64 a) ∧ w = w' := by
  go_enter Try.func84, Try.ntmps84
  go_wp2
  all_goals
    go_ret
    exact ⟨by first | rfl | (congr 1; omega), rfl⟩
theorem cut_neg (a : Int) (w : World) (a0 : a < 0) : Calls Try.prog 84 #[.int .i64 a] w fun e w' => e = .returned (.int .i64 0) ∧ w = w' := by
  go_enter Try.func84, Try.ntmps84
  go_wp2
  all_goals
    go_ret
    exact ⟨by first | rfl | (congr 1; omega), rfl⟩
theorem ret_int {k : IntKind} {a b : Int} (h : a = b) : Ending.returned (Value.int k a) = Ending.returned (Value.int k b) := by rw [h]
set_option maxHeartbeats 1000000 in
theorem wait_any (a b m : Int) (w : World) (a0 : 0 ≤ a) (a1 : a ≤ 1073741824) (b0 : 0 ≤ b) (b1 : b ≤ 1073741824) (hm : Hid (m = 2 * max a b + 400)) : Calls Try.prog 52 #[.int .i64 a, .int .i64 b] w fun e w' => e = .returned (.int .i64 m) ∧ Below w.heap.size w w' := by
  go_enter Try.func52, Try.ntmps52
  go_wp2_with (first | (go_at_call 84; refine (cut_any _ _ (by omega) (by omega)).mono ?_; rintro e w' ⟨rfl, rfl⟩))
  all_goals
    go_ret
    exact ⟨ret_int (by have := hm.out; omega), Below.refl _ _⟩
theorem wait_neg (a : Int) (w : World) (a0 : a < 0) : Calls Try.prog 52 #[.int .i64 a, .int .i64 0] w fun e w' => e = .returned (.int .i64 400) ∧ Below w.heap.size w w' := by
  go_enter Try.func52, Try.ntmps52
  go_wp2_with fail
  refine (cut_neg _ _ a0).mono ?_
  rintro e w' ⟨rfl, rfl⟩
  go_wp2_with fail
  refine (cut_any _ _ (by omega) (by omega)).mono ?_
  rintro e w' ⟨rfl, rfl⟩
  go_wp2
  all_goals
    go_ret
    exact ⟨ret_int (by omega), Below.refl _ _⟩

set_option maxRecDepth 100000 in
set_option maxHeartbeats 1000000 in
theorem walk_no (s g k b n : Int) (w : World) (h : ¬ Rt s g k) :
    Calls Try.prog 12 #[.agg #[.int .i64 s, .int .i64 g, .int .i64 k], .int .i64 b, .int .i64 n] w fun e w' => e = .returned (.bool true) ∧ Below w.heap.size w w' := by
  obtain ⟨y, y0, y1, hy⟩ := and_mask b 65535 (by decide)
  simp at hy y1
  have H := Lib.hid h
  clear h
  go_enter Try.func12, Try.ntmps12
  go_wp2_with fail
  refine (right_no _ _ _ _ H.out).mono ?_
  rintro e w1 ⟨rfl, hb1⟩
  obtain ⟨x, rfl⟩ := Kin.ex hb1
  go_wp2_with (first | (go_at_call 49; refine (Calls.kin _ (one_any _)).mono ?_; rintro e w' ⟨rfl, y, rfl⟩))
  go_ret
  exact ⟨rfl, Kin.end1 ‹_›⟩
set_option maxRecDepth 100000 in
set_option maxHeartbeats 1000000 in
theorem walk_big (s g k b n : Int) (w : World) (h : Rt s g k) (hbig : 536870912 < s ∨ 524288 < k) :
    Calls Try.prog 12 #[.agg #[.int .i64 s, .int .i64 g, .int .i64 k], .int .i64 b, .int .i64 n] w fun e w' => e = .returned (.bool true) ∧ Below w.heap.size w w' := by
  obtain ⟨y, y0, y1, hy⟩ := and_mask b 65535 (by decide)
  simp at hy y1
  have H := Lib.hid h
  clear h
  rcases (show 536870912 < s ∨ (s ≤ 536870912 ∧ 524288 < k) by omega) with g0 | ⟨g0, g1⟩
  all_goals
    clear hbig
    go_enter Try.func12, Try.ntmps12
    go_wp2_with fail
    refine (right_yes _ _ _ _ H.out).mono ?_
    rintro e w1 ⟨rfl, hb1⟩
    obtain ⟨x, rfl⟩ := Kin.ex hb1
    obtain ⟨K0, K1, K2⟩ := Kin.box3 (Below.refl _ (w.alloc (.cells #[.int .i64 s, .int .i64 g, .int .i64 k] 67)))
    go_wp2_with (first | (go_at_call 49; refine (Calls.kin _ (one_any _)).mono ?_; rintro e w' ⟨rfl, y, rfl⟩))
    go_ret
    exact ⟨rfl, Kin.end1 ‹_›⟩
/-- What three structs that were made one behind the other hold, in every world behind. -/
theorem three {w : World} {a0 a1 a2 b0 b1 b2 c0 c1 c2 : Value} {t : TypeId} (q : Kin (((w.alloc (.cells #[a0, a1, a2] t)).alloc (.cells #[b0, b1, b2] t)).alloc (.cells #[c0, c1, c2] t))) :
    (q.world.cell? ⟨w.heap.size, 0, none⟩ = some a0 ∧ q.world.cell? ⟨w.heap.size, 1, none⟩ = some a1 ∧ q.world.cell? ⟨w.heap.size, 2, none⟩ = some a2) ∧
    (q.world.cell? ⟨w.heap.size + 1, 0, none⟩ = some b0 ∧ q.world.cell? ⟨w.heap.size + 1, 1, none⟩ = some b1 ∧ q.world.cell? ⟨w.heap.size + 1, 2, none⟩ = some b2) ∧
    (q.world.cell? ⟨w.heap.size + 1 + 1, 0, none⟩ = some c0 ∧ q.world.cell? ⟨w.heap.size + 1 + 1, 1, none⟩ = some c1 ∧ q.world.cell? ⟨w.heap.size + 1 + 1, 2, none⟩ = some c2) := by
  have A := (((Obj1.new w t #[a0, a1, a2]).alloc (.cells #[b0, b1, b2] t)).alloc (.cells #[c0, c1, c2] t)).kept q.below
  have B := ((Obj1.new (w.alloc (.cells #[a0, a1, a2] t)) t #[b0, b1, b2]).alloc (.cells #[c0, c1, c2] t)).kept q.below
  have C := (Obj1.new ((w.alloc (.cells #[a0, a1, a2] t)).alloc (.cells #[b0, b1, b2] t)) t #[c0, c1, c2]).kept q.below
  rw [show (w.alloc (.cells #[a0, a1, a2] t)).heap.size = w.heap.size + 1 by simp] at B
  rw [show ((w.alloc (.cells #[a0, a1, a2] t)).alloc (.cells #[b0, b1, b2] t)).heap.size = w.heap.size + 1 + 1 by simp] at C
  exact ⟨⟨A.cell 0, A.cell 1, A.cell 2⟩, ⟨B.cell 0, B.cell 1, B.cell 2⟩, ⟨C.cell 0, C.cell 1, C.cell 2⟩⟩
theorem below3 (w : World) (a b c : Obj) : Below w.heap.size w (((w.alloc a).alloc b).alloc c) :=
  (((Below.refl _ _).alloc (Nat.le_refl _) _).alloc (by simp) _).alloc (by simp; omega) _

set_option maxRecDepth 100000 in
set_option maxHeartbeats 4000000 in
theorem walk_yes (s g k b n : Int) (w : World) (hRt : Rt s g k) (hs : s ≤ 536870912) (hk : k ≤ 524288) :
    Calls Try.prog 12 #[.agg #[.int .i64 s, .int .i64 g, .int .i64 k], .int .i64 b, .int .i64 n] w fun e w' => e = .returned (.bool true) ∧ Below w.heap.size w w' := by
  obtain ⟨y, y0, y1, hy⟩ := and_mask b 65535 (by decide)
  obtain ⟨z, z0, z1, hz⟩ := and_mask n 1048575 (by decide)
  simp at hy y1 hz z1
  obtain ⟨s0, s1, g0, g1, k0, k1⟩ := id hRt
  obtain ⟨u, HU⟩ : ∃ u, Hid (fitB s g k z = u) := ⟨_, Lib.hid rfl⟩
  have A1 := Lib.hid (fun W => fits_c s g k z u HU.out W hRt (by omega) (by omega))
  have A2 := Lib.hid (fun W (hu : u = true) => fits_c s g k (z + 2) true (fit_two (HU.out.trans hu)) W hRt (by omega) (by omega))
  have RA : Rt (s + y) g k := ⟨by omega, by omega, g0, g1, k0, k1⟩
  have RC : Rt s g (k + y) := ⟨s0, s1, g0, g1, by omega, by omega⟩
  have p1 : decide (ap (s + y) g k < ap s g k) = false := by have := ap_span hRt y0; simp; omega
  have p2 : decide (lst (s + y) g k < lst s g k) = false := by have := lst_up (ap_span hRt y0) (rfl : k = k); simp; omega
  have p3 : decide (ap s g (k + y) < ap s g k) = false := by have := ap_skew (s := s) (g := g) (k := k) y0; simp; omega
  have p4 : decide (lst s g (k + y) < lst s g k) = false := by have := lst_skew (s := s) (g := g) k0 y0; simp; omega
  go_enter Try.func12, Try.ntmps12
  go_wp2_with fail
  refine (right_yes _ _ _ _ hRt).mono ?_
  rintro e w1 ⟨rfl, hb1⟩
  obtain ⟨x, rfl⟩ := Kin.ex hb1
  obtain ⟨K0, K1, K2⟩ := Kin.box3 (Below.refl _ (w.alloc (.cells #[.int .i64 s, .int .i64 g, .int .i64 k] 67)))
  have hxs := x.below.size
  simp at hxs
  have hlt : w.heap.size < x.world.heap.size := by omega
  go_wp2_with fail
  · have hG : 1 < g - y := by assumption
    have RB : Rt s (g - y) k := ⟨s0, s1, by omega, by omega, k0, k1⟩
    have q1 : decide (ap s (g - y) k < ap s g k) = false := by have := ap_gap hRt (show 1 ≤ g - y by omega) (by omega); simp; omega
    have q2 : decide (lst s (g - y) k < lst s g k) = false := by have := lst_up (ap_gap hRt (show 1 ≤ g - y by omega) (by omega)) (rfl : k = k); simp; omega
    have hbW := below3 x.world (.cells #[.int .i64 (s + y), .int .i64 g, .int .i64 k] 67) (.cells #[.int .i64 s, .int .i64 (g - y), .int .i64 k] 67) (.cells #[.int .i64 s, .int .i64 g, .int .i64 (k + y)] 67)
    have M0 := fun q => Kin.far (K0 x) hbW q
    have M1 := fun q => Kin.far (K1 x) hbW q
    have M2 := fun q => Kin.far (K2 x) hbW q
    have T0 := fun q => (three (w := x.world) (a0 := .int .i64 (s + y)) (a1 := .int .i64 g) (a2 := .int .i64 k) (b0 := .int .i64 s) (b1 := .int .i64 (g - y)) (b2 := .int .i64 k) (c0 := .int .i64 s) (c1 := .int .i64 g) (c2 := .int .i64 (k + y)) (t := 67) q).1
    have T1 := fun q => (three (w := x.world) (a0 := .int .i64 (s + y)) (a1 := .int .i64 g) (a2 := .int .i64 k) (b0 := .int .i64 s) (b1 := .int .i64 (g - y)) (b2 := .int .i64 k) (c0 := .int .i64 s) (c1 := .int .i64 g) (c2 := .int .i64 (k + y)) (t := 67) q).2.1
    have T2 := fun q => (three (w := x.world) (a0 := .int .i64 (s + y)) (a1 := .int .i64 g) (a2 := .int .i64 k) (b0 := .int .i64 s) (b1 := .int .i64 (g - y)) (b2 := .int .i64 k) (c0 := .int .i64 s) (c1 := .int .i64 g) (c2 := .int .i64 (k + y)) (t := 67) q).2.2
    clear K0 K1 K2
    have e1 := x.end1
    refine wp_region_kin (by kernel_rfl) (by kernel_rfl) ?_
    repeat (go_big_quiet_step (first | (go_at_call 41; exact Calls.kin _ (apart_yes _ _ _ _ (by assumption))) | (go_at_call 45; exact Calls.kin _ (least_yes _ _ _ _ (by assumption)))))
    refine wpQuiet_nil ?_
    intro _ hw'
    obtain ⟨kx, hw''⟩ := hw'
    subst hw''
    have fin : ∀ q : Kin (((x.world.alloc (.cells #[.int .i64 (s + y), .int .i64 g, .int .i64 k] 67)).alloc (.cells #[.int .i64 s, .int .i64 (g - y), .int .i64 k] 67)).alloc (.cells #[.int .i64 s, .int .i64 g, .int .i64 (k + y)] 67)), Below w.heap.size w q.world := fun q => e1.trans ((hbW.trans (q.below.mono hbW.size)).mono e1.size)
    have FIN := Lib.hid fin
    clear fin hbW e1 T0 T1 T2 p1 p2 p3 p4 q1 q2 RA RB RC hb1
    cases u
    · skip
      go_wp2_with fail
      refine (Calls.kin _ (A1.out _)).mono ?_; rintro e w' ⟨rfl, y1, rfl⟩
      rcases (show y < z ∨ y = z ∨ z < y by omega) with c | rfl | c
      · skip
        go_wp2_with fail
        refine (Calls.kin _ (wait_any y z (2 * z + 400) _ (by omega) (by omega) (by omega) (by omega) (Lib.hid (by omega)))).mono ?_; rintro e w' ⟨rfl, y2, rfl⟩
        go_wp2_with fail
        all_goals first | (exfalso; omega) | skip
        all_goals
          go_wp2_with fail
          refine (Calls.kin _ (wait_neg (-y - 1) _ (by omega))).mono ?_; rintro e w' ⟨rfl, y3, rfl⟩
          go_wp2_with fail
          refine (Calls.kin _ (one_any _)).mono ?_; rintro e w' ⟨rfl, y4, rfl⟩
          go_wp2
          go_ret
          exact ⟨rfl, FIN.out _⟩
      · skip
        go_wp2_with fail
        refine (Calls.kin _ (wait_any y y (2 * y + 400) _ (by omega) (by omega) (by omega) (by omega) (Lib.hid (by omega)))).mono ?_; rintro e w' ⟨rfl, y5, rfl⟩
        go_wp2_with fail
        all_goals first | (exfalso; omega) | skip
        all_goals
          go_wp2_with fail
          refine (Calls.kin _ (wait_neg (-y - 1) _ (by omega))).mono ?_; rintro e w' ⟨rfl, y6, rfl⟩
          go_wp2_with fail
          refine (Calls.kin _ (one_any _)).mono ?_; rintro e w' ⟨rfl, y7, rfl⟩
          go_wp2
          go_ret
          exact ⟨rfl, FIN.out _⟩
      · skip
        go_wp2_with fail
        refine (Calls.kin _ (wait_any y z (2 * y + 400) _ (by omega) (by omega) (by omega) (by omega) (Lib.hid (by omega)))).mono ?_; rintro e w' ⟨rfl, y8, rfl⟩
        go_wp2_with fail
        all_goals first | (exfalso; omega) | skip
        all_goals
          go_wp2_with fail
          refine (Calls.kin _ (wait_neg (-y - 1) _ (by omega))).mono ?_; rintro e w' ⟨rfl, y9, rfl⟩
          go_wp2_with fail
          refine (Calls.kin _ (one_any _)).mono ?_; rintro e w' ⟨rfl, y10, rfl⟩
          go_wp2
          go_ret
          exact ⟨rfl, FIN.out _⟩
    · skip
      go_wp2_with fail
      refine (Calls.kin _ (A1.out _)).mono ?_; rintro e w' ⟨rfl, y11, rfl⟩
      go_wp2_with fail
      refine (Calls.kin _ (A2.out _ trivial)).mono ?_; rintro e w' ⟨rfl, y12, rfl⟩
      rcases (show y < z ∨ y = z ∨ z < y by omega) with c | rfl | c
      · skip
        go_wp2_with fail
        refine (Calls.kin _ (wait_any y z (2 * z + 400) _ (by omega) (by omega) (by omega) (by omega) (Lib.hid (by omega)))).mono ?_; rintro e w' ⟨rfl, y13, rfl⟩
        go_wp2_with fail
        all_goals first | (exfalso; omega) | skip
        all_goals
          go_wp2_with fail
          refine (Calls.kin _ (wait_neg (-y - 1) _ (by omega))).mono ?_; rintro e w' ⟨rfl, y14, rfl⟩
          go_wp2_with fail
          refine (Calls.kin _ (one_any _)).mono ?_; rintro e w' ⟨rfl, y15, rfl⟩
          go_wp2
          go_ret
          exact ⟨rfl, FIN.out _⟩
      · skip
        go_wp2_with fail
        refine (Calls.kin _ (wait_any y y (2 * y + 400) _ (by omega) (by omega) (by omega) (by omega) (Lib.hid (by omega)))).mono ?_; rintro e w' ⟨rfl, y16, rfl⟩
        go_wp2_with fail
        all_goals first | (exfalso; omega) | skip
        all_goals
          go_wp2_with fail
          refine (Calls.kin _ (wait_neg (-y - 1) _ (by omega))).mono ?_; rintro e w' ⟨rfl, y17, rfl⟩
          go_wp2_with fail
          refine (Calls.kin _ (one_any _)).mono ?_; rintro e w' ⟨rfl, y18, rfl⟩
          go_wp2
          go_ret
          exact ⟨rfl, FIN.out _⟩
      · skip
        go_wp2_with fail
        refine (Calls.kin _ (wait_any y z (2 * y + 400) _ (by omega) (by omega) (by omega) (by omega) (Lib.hid (by omega)))).mono ?_; rintro e w' ⟨rfl, y19, rfl⟩
        go_wp2_with fail
        all_goals first | (exfalso; omega) | skip
        all_goals
          go_wp2_with fail
          refine (Calls.kin _ (wait_neg (-y - 1) _ (by omega))).mono ?_; rintro e w' ⟨rfl, y20, rfl⟩
          go_wp2_with fail
          refine (Calls.kin _ (one_any _)).mono ?_; rintro e w' ⟨rfl, y21, rfl⟩
          go_wp2
          go_ret
          exact ⟨rfl, FIN.out _⟩
  · skip
    have RB : Rt s (1) k := ⟨s0, s1, by omega, by omega, k0, k1⟩
    have q1 : decide (ap s (1) k < ap s g k) = false := by have := ap_gap hRt (show 1 ≤ 1 by omega) (by omega); simp; omega
    have q2 : decide (lst s (1) k < lst s g k) = false := by have := lst_up (ap_gap hRt (show 1 ≤ 1 by omega) (by omega)) (rfl : k = k); simp; omega
    have hbW := below3 x.world (.cells #[.int .i64 (s + y), .int .i64 g, .int .i64 k] 67) (.cells #[.int .i64 s, .int .i64 (1), .int .i64 k] 67) (.cells #[.int .i64 s, .int .i64 g, .int .i64 (k + y)] 67)
    have M0 := fun q => Kin.far (K0 x) hbW q
    have M1 := fun q => Kin.far (K1 x) hbW q
    have M2 := fun q => Kin.far (K2 x) hbW q
    have T0 := fun q => (three (w := x.world) (a0 := .int .i64 (s + y)) (a1 := .int .i64 g) (a2 := .int .i64 k) (b0 := .int .i64 s) (b1 := .int .i64 (1)) (b2 := .int .i64 k) (c0 := .int .i64 s) (c1 := .int .i64 g) (c2 := .int .i64 (k + y)) (t := 67) q).1
    have T1 := fun q => (three (w := x.world) (a0 := .int .i64 (s + y)) (a1 := .int .i64 g) (a2 := .int .i64 k) (b0 := .int .i64 s) (b1 := .int .i64 (1)) (b2 := .int .i64 k) (c0 := .int .i64 s) (c1 := .int .i64 g) (c2 := .int .i64 (k + y)) (t := 67) q).2.1
    have T2 := fun q => (three (w := x.world) (a0 := .int .i64 (s + y)) (a1 := .int .i64 g) (a2 := .int .i64 k) (b0 := .int .i64 s) (b1 := .int .i64 (1)) (b2 := .int .i64 k) (c0 := .int .i64 s) (c1 := .int .i64 g) (c2 := .int .i64 (k + y)) (t := 67) q).2.2
    clear K0 K1 K2
    have e1 := x.end1
    refine wp_region_kin (by kernel_rfl) (by kernel_rfl) ?_
    repeat (go_big_quiet_step (first | (go_at_call 41; exact Calls.kin _ (apart_yes _ _ _ _ (by assumption))) | (go_at_call 45; exact Calls.kin _ (least_yes _ _ _ _ (by assumption)))))
    refine wpQuiet_nil ?_
    intro _ hw'
    obtain ⟨kx, hw''⟩ := hw'
    subst hw''
    have fin : ∀ q : Kin (((x.world.alloc (.cells #[.int .i64 (s + y), .int .i64 g, .int .i64 k] 67)).alloc (.cells #[.int .i64 s, .int .i64 1, .int .i64 k] 67)).alloc (.cells #[.int .i64 s, .int .i64 g, .int .i64 (k + y)] 67)), Below w.heap.size w q.world := fun q => e1.trans ((hbW.trans (q.below.mono hbW.size)).mono e1.size)
    have FIN := Lib.hid fin
    clear fin hbW e1 T0 T1 T2 p1 p2 p3 p4 q1 q2 RA RB RC hb1
    cases u
    · skip
      go_wp2_with fail
      refine (Calls.kin _ (A1.out _)).mono ?_; rintro e w' ⟨rfl, y22, rfl⟩
      rcases (show y < z ∨ y = z ∨ z < y by omega) with c | rfl | c
      · skip
        go_wp2_with fail
        refine (Calls.kin _ (wait_any y z (2 * z + 400) _ (by omega) (by omega) (by omega) (by omega) (Lib.hid (by omega)))).mono ?_; rintro e w' ⟨rfl, y23, rfl⟩
        go_wp2_with fail
        all_goals first | (exfalso; omega) | skip
        all_goals
          go_wp2_with fail
          refine (Calls.kin _ (wait_neg (-y - 1) _ (by omega))).mono ?_; rintro e w' ⟨rfl, y24, rfl⟩
          go_wp2_with fail
          refine (Calls.kin _ (one_any _)).mono ?_; rintro e w' ⟨rfl, y25, rfl⟩
          go_wp2
          go_ret
          exact ⟨rfl, FIN.out _⟩
      · skip
        go_wp2_with fail
        refine (Calls.kin _ (wait_any y y (2 * y + 400) _ (by omega) (by omega) (by omega) (by omega) (Lib.hid (by omega)))).mono ?_; rintro e w' ⟨rfl, y26, rfl⟩
        go_wp2_with fail
        all_goals first | (exfalso; omega) | skip
        all_goals
          go_wp2_with fail
          refine (Calls.kin _ (wait_neg (-y - 1) _ (by omega))).mono ?_; rintro e w' ⟨rfl, y27, rfl⟩
          go_wp2_with fail
          refine (Calls.kin _ (one_any _)).mono ?_; rintro e w' ⟨rfl, y28, rfl⟩
          go_wp2
          go_ret
          exact ⟨rfl, FIN.out _⟩
      · skip
        go_wp2_with fail
        refine (Calls.kin _ (wait_any y z (2 * y + 400) _ (by omega) (by omega) (by omega) (by omega) (Lib.hid (by omega)))).mono ?_; rintro e w' ⟨rfl, y29, rfl⟩
        go_wp2_with fail
        all_goals first | (exfalso; omega) | skip
        all_goals
          go_wp2_with fail
          refine (Calls.kin _ (wait_neg (-y - 1) _ (by omega))).mono ?_; rintro e w' ⟨rfl, y30, rfl⟩
          go_wp2_with fail
          refine (Calls.kin _ (one_any _)).mono ?_; rintro e w' ⟨rfl, y31, rfl⟩
          go_wp2
          go_ret
          exact ⟨rfl, FIN.out _⟩
    · skip
      go_wp2_with fail
      refine (Calls.kin _ (A1.out _)).mono ?_; rintro e w' ⟨rfl, y32, rfl⟩
      go_wp2_with fail
      refine (Calls.kin _ (A2.out _ trivial)).mono ?_; rintro e w' ⟨rfl, y33, rfl⟩
      rcases (show y < z ∨ y = z ∨ z < y by omega) with c | rfl | c
      · skip
        go_wp2_with fail
        refine (Calls.kin _ (wait_any y z (2 * z + 400) _ (by omega) (by omega) (by omega) (by omega) (Lib.hid (by omega)))).mono ?_; rintro e w' ⟨rfl, y34, rfl⟩
        go_wp2_with fail
        all_goals first | (exfalso; omega) | skip
        all_goals
          go_wp2_with fail
          refine (Calls.kin _ (wait_neg (-y - 1) _ (by omega))).mono ?_; rintro e w' ⟨rfl, y35, rfl⟩
          go_wp2_with fail
          refine (Calls.kin _ (one_any _)).mono ?_; rintro e w' ⟨rfl, y36, rfl⟩
          go_wp2
          go_ret
          exact ⟨rfl, FIN.out _⟩
      · skip
        go_wp2_with fail
        refine (Calls.kin _ (wait_any y y (2 * y + 400) _ (by omega) (by omega) (by omega) (by omega) (Lib.hid (by omega)))).mono ?_; rintro e w' ⟨rfl, y37, rfl⟩
        go_wp2_with fail
        all_goals first | (exfalso; omega) | skip
        all_goals
          go_wp2_with fail
          refine (Calls.kin _ (wait_neg (-y - 1) _ (by omega))).mono ?_; rintro e w' ⟨rfl, y38, rfl⟩
          go_wp2_with fail
          refine (Calls.kin _ (one_any _)).mono ?_; rintro e w' ⟨rfl, y39, rfl⟩
          go_wp2
          go_ret
          exact ⟨rfl, FIN.out _⟩
      · skip
        go_wp2_with fail
        refine (Calls.kin _ (wait_any y z (2 * y + 400) _ (by omega) (by omega) (by omega) (by omega) (Lib.hid (by omega)))).mono ?_; rintro e w' ⟨rfl, y40, rfl⟩
        go_wp2_with fail
        all_goals first | (exfalso; omega) | skip
        all_goals
          go_wp2_with fail
          refine (Calls.kin _ (wait_neg (-y - 1) _ (by omega))).mono ?_; rintro e w' ⟨rfl, y41, rfl⟩
          go_wp2_with fail
          refine (Calls.kin _ (one_any _)).mono ?_; rintro e w' ⟨rfl, y42, rfl⟩
          go_wp2
          go_ret
          exact ⟨rfl, FIN.out _⟩
theorem walk (cs : Array Value) (b n : Int) (w : World) (hr : Reads w (.fld (.int .i64) (.fld (.int .i64) (.fld (.int .i64) .nil))) cs.toList) (b0 : -9223372036854775808 ≤ b) (b1 : b ≤ 9223372036854775807) (n0 : -9223372036854775808 ≤ n) (n1 : n ≤ 9223372036854775807) :
    Calls Try.prog 12 #[.agg cs, .int .i64 b, .int .i64 n] w fun e w' => e = .returned (.bool true) ∧ Below w.heap.size w w' := by
  obtain ⟨s, g, k, rfl, _⟩ := reads3 hr
  by_cases h : Rt s g k
  · by_cases hb : s ≤ 536870912 ∧ k ≤ 524288
    · exact walk_yes s g k b n w h hb.1 hb.2
    · exact walk_big s g k b n w h (by omega)
  · exact walk_no s g k b n w h

set_option maxRecDepth 100000 in
theorem lifted (os : Os) (started : os.Started) (H : Type) (enc : TypeId × Value → H) :
    ReturnsInHanded {} Try.checked os 12 .any (Rows.marginGrowsSpec.pre6 enc Try.prog Try.f12 Rows.marginGrowsRow.domain false) (Rows.marginGrowsSpec.post enc Try.prog Try.f12 false true false false) := by
  refine returnsInHanded_of_change (C := Try.checked) own started (by kernel_rfl) Try.func12
    (ChangeSpec.witness6 (enc := enc) (C := Try.checked) false ⟨#[], #[.agg #[.int .i64 0, .int .i64 0, .int .i64 0], .int .i64 0, .int .i64 0], []⟩ 8 (by kernel_rfl) (by kernel_rfl) (by kernel_rfl) (by kernel_rfl)) ?_
  intro W base args ds gs before hval0 hW hcnd _
  have hval : ∀ (j : Nat) t v, Try.f12.params[j]? = some t → args[j]? = some v → Value.okWide Try.prog W .any base t v := hval0
  have hW' := hW
  obtain ⟨p, q, hA0, hV, rfl, hfz, hnd⟩ := hW
  have hA : DataW.TrodAll enc Try.prog W 0 (fun _ => true) true Try.f12.params.toList args.toList ds p := hA0
  rw [Try.params12] at hA hval
  obtain ⟨v0, vs0, d0, ds0, p0, q0, hargs, rfl, rfl, h0, r0⟩ := trodAll_cons hA
  obtain ⟨v1, vs1, d1, ds1, p1, q1, rfl, rfl, rfl, h1, r1⟩ := trodAll_cons r0
  obtain ⟨v2, vs2, d2, ds2, p2, q2, rfl, rfl, rfl, h2, r2⟩ := trodAll_cons r1
  obtain ⟨rfl, rfl, rfl⟩ := trodAll_nil r2
  obtain rfl : args = #[v0, v1, v2] := by cases args; simp_all
  obtain ⟨rfl, rfl⟩ := trodVars_none hV
  have k0 := h0
  have lt0 : ∀ x ∈ p0, x.block < W.heap.size := by obtain ⟨m, hm⟩ := k0; exact DataW.trod_lt m _ _ _ hm
  obtain ⟨m, rfl⟩ := okWide_agg (by first | exact .inl ⟨_, Try.underlying67⟩ | exact .inr ⟨_, _, Try.underlying67⟩) (hval 0 67 v0 rfl rfl)
  have rd0 := reads_cells (sh := .fld (.int .i64) (.fld (.int .i64) (.fld (.int .i64) .nil))) 30 (by kernel_rfl) k0
  obtain ⟨b, rfl, rfl, rfl, wf1⟩ := open_int Try.underlying3 (hval 1 3 v1 rfl rfl) h1
  have bd1 := bounds_i64 wf1
  obtain ⟨n, rfl, rfl, rfl, wf2⟩ := open_int Try.underlying3 (hval 2 3 v2 rfl rfl) h2
  have bd2 := bounds_i64 wf2
  clear hA0 hval0
  refine (walk m b n W rd0 bd1.1 bd1.2 bd2.1 bd2.2).mono fun e W' ⟨he, bel⟩ => ?_
  subst he
  exact ⟨_, rfl, _, _, _, [], _, [], hW', trodAll_mk1 (shut_bool Try.underlying4 _), (trodAll_cons_mk (Below.trod laidOut (by kernel_rfl) (of_decide_eq_true (by kernel_rfl)) k0 bel lt0) (trodAll_cons_mk (shut_int Try.underlying3 wf1) (trodAll_cons_mk (shut_int Try.underlying3 wf2) trodAll_mk0))), rfl, bel.frame _, fun h => by cases h⟩

theorem over : Rows.marginGrowsRow.holds Try.pinned (OpenSpec.ofChange Rows.marginGrowsSpec) :=
  OpenClaim.holds_of_wide 12 Try.f12 rfl rfl rfl rfl rfl rfl rfl ⟨rfl, rfl, rfl, rfl, rfl⟩ rfl rfl rfl rfl rfl (by kernel_rfl) Try.func12 (by kernel_rfl)
    (of_decide_eq_true (by kernel_rfl)) (by unfold Func.isWrapper; first | (rw [if_pos (by decide +kernel)]; kernel_rfl) | (rw [if_neg (by decide +kernel)]; exact ⟨rfl, rfl⟩))
    (fun os started H enc _ => lifted os started H enc)

/-- The statement. -/
theorem proved : Rows.MarginGrowsSaid := over
end Go.Proofs.Ytnbconkefhoblaa.lawMarginGrows
