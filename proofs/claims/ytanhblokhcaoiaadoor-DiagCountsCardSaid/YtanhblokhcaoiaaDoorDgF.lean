/- The statements' own helper 'one' of layer 40. -/
import Derived.Test.YtanhblokhcaoiaaDoorDgE
import Derived.Test.YtanhblokhcaoiaaDoorArr
namespace Go.Proofs.YtanhblokhcaoiaaDoor.Dg
open Go.ChangeShapes Go.WideShapes Go.ChangeAt Go.RowKit Base
open Joi (stV)
set_option linter.unusedVariables false
set_option linter.unusedSimpArgs false

theorem eq4 (a b c d : Int) (w : World) : (Op.equalIn 9999 T4 (.agg #[.int .i64 a, .int .i64 b, .int .i64 c, .int .i64 d]) (.agg #[.int .i64 a, .int .i64 b, .int .i64 c, .int .i64 d])).run Tryd.prog w = .ok true w := by
  obtain ⟨i, hi, _⟩ := info_three (show (Tryd.prog.info? 3).map (fun i => (i.zero, i.size, i.bytes)) = some (some (.int .i64 0), 1, 8) by kernel_rfl)
  rw [show (9999 : Nat) = 9998 + 1 from rfl, run_equalIn_array w 9998 _ _ Tryd.underlying22 hi, show Tryd.prog.cellsOf 3 = 1 by kernel_rfl,
    eqItems_arr w 9998 (by kernel_rfl) _ _ (fun i => .int .i64 (oF a b c d i)) (fun i => .int .i64 (oF a b c d i)) (fun i => oF a b c d i == oF a b c d i) (fun i => run_equalIn_int w 9997 _ .i64 .i64 _ _ Tryd.underlying3) (List.range 4) (fun i hi => by
      rcases four (List.mem_range.1 hi) with rfl | rfl | rfl | rfl <;> exact ⟨rfl, rfl⟩)]
  simp [List.range_succ]
theorem nu_dig (n : Nat) (h : n < 10) : nuT (n : Int) = [UInt8.ofNat (48 + n)] := by
  unfold nuT Lib.itoa
  rw [if_neg (by omega), show (max (n : Int) 0).toNat = n by omega, Lib.decDigits_one h]
theorem one_txt : txT 8 (oF 8 0 0 0) 4 = [98, 105, 116, 115, 32, 56, 32, 97, 120, 32, 56, 32, 98, 120, 32, 48, 32, 97, 121, 32, 48, 32, 98, 121, 32, 48] := by
  have h8 : nuT 8 = [56] := nu_dig 8 (by decide)
  have h0 : nuT 0 = [48] := nu_dig 0 (by decide)
  simp [txT, oF, nmL, h8, h0]
def m0 (g : Nat) : Ms := ⟨0, 0, 0, some ⟨g, 0, none⟩, 1, 1, true, false, 8, 0, 0, 0⟩
def m1 (g : Nat) : Ms := ⟨0, 0, 0, some ⟨g, 0, none⟩, 1, 1, false, false, 0, 5, 0, 0⟩
theorem ms_two (w : World) (g h : Nat) (T : TypeId) : MsAt (w.alloc (.cells (msL (m0 g) ++ msL (m1 h)).toArray T)) (some ⟨w.heap.size, 0, none⟩) 2 [m0 g, m1 h] := by
  refine ⟨rfl, fun _ => ⟨w.heap.size, 0, rfl, by simp, fun i x hx j hj => ?_⟩⟩
  rw [Nat.zero_add, (Obj1.new w T _).cell]
  rcases (show i = 0 ∨ i = 1 ∨ 2 ≤ i by omega) with rfl | rfl | hi
  · have : m0 g = x := Option.some.inj hx
    subst this
    rcases (show j = 0 ∨ j = 1 ∨ j = 2 ∨ j = 3 ∨ j = 4 ∨ j = 5 ∨ j = 6 ∨ j = 7 ∨ j = 8 ∨ j = 9 by omega) with rfl | rfl | rfl | rfl | rfl | rfl | rfl | rfl | rfl | rfl <;> rfl
  · have : m1 h = x := Option.some.inj hx
    subst this
    rcases (show j = 0 ∨ j = 1 ∨ j = 2 ∨ j = 3 ∨ j = 4 ∨ j = 5 ∨ j = 6 ∨ j = 7 ∨ j = 8 ∨ j = 9 by omega) with rfl | rfl | rfl | rfl | rfl | rfl | rfl | rfl | rfl | rfl <;> rfl
  · rw [List.getElem?_eq_none (by simpa using hi)] at hx
    cases hx
theorem m_ok (g h : Nat) : ∀ m ∈ [m0 g, m1 h], MOk m := by
  intro m hm
  simp at hm
  rcases hm with rfl | rfl
  · refine ⟨by simp [m0, m1], fun i hi => ?_⟩
    rcases four hi with rfl | rfl | rfl | rfl <;> simp [m0, Ms.o, oF]
  · refine ⟨by simp [m0, m1], fun i hi => ?_⟩
    rcases four hi with rfl | rfl | rfl | rfl <;> simp [m1, Ms.o, oF]
theorem of_two (g h : Nat) : c5 (sB [m0 g, m1 h]) (sO [m0 g, m1 h]) = #[.int .i64 8, .int .i64 8, .int .i64 0, .int .i64 0, .int .i64 0] := by
  simp [c5, sB, sO, bI, oI, Ms.o, oF, m0, m1]
set_option maxRecDepth 100000 in
set_option maxHeartbeats 2000000 in
theorem one40_any (w : World) (hL : Txt.Lf w) (hN : Nm w) : Calls Tryd.prog 17 #[] w fun e w' => e = .returned (.bool true) ∧ Below w.heap.size w w' := by
  have HLF : Hid (∀ W, Below w.heap.size w W → Txt.Lf W) := Lib.hid (fun W h => hL.kept h)
  have HNM : Hid (∀ W, Below w.heap.size w W → Nm W) := Lib.hid (fun W h => hN.kept h)
  have HS := Lib.hid (fun W => sus_any 8 8 0 0 0 W)
  rw [show susF (oF 8 0 0 0) = 0 by decide] at HS
  have HSH := Lib.hid (fun W => share_yes 8 8 0 0 0 0 (by decide) (by decide) W)
  rw [show shF 8 (oF 8 0 0 0 0) = 1000 by decide] at HSH
  have HWS := Lib.hid (fun W => wst_any 8 8 0 0 0 W)
  rw [show wsI (oF 8 0 0 0) 4 = 0 by decide] at HWS
  have HCL := Lib.hid (fun W => cln_any 8 8 0 0 0 W)
  rw [show decide (wsI (oF 8 0 0 0) 4 = -1) = false by decide] at HCL
  have HTX := Lib.hid (fun W (h : Below w.heap.size w W) => text_any 8 8 0 0 0 W (by decide) (fun i => by unfold oF; split <;> (try split) <;> (try split) <;> decide) (HLF.out W h) (HNM.out W h))
  rw [one_txt] at HTX
  clear hL hN
  go_enter Tryd.func17, Tryd.ntmps17
  go_wp2_with fail
  obtain ⟨ga, HGA⟩ : ∃ g, Hid (w.heap.size = g) := ⟨_, Lib.hid rfl⟩
  obtain ⟨gc, HGC⟩ : ∃ g, Hid (ga + 1 = g) := ⟨_, Lib.hid rfl⟩
  obtain ⟨W2, HW2⟩ : ∃ W, Hid (W = (w.alloc (.cells #[.int .u8 1] 5)).alloc (.cells #[.int .u8 1] 5)) := ⟨_, Lib.hid rfl⟩
  have s2 : W2.heap.size = gc + 1 := by rw [HW2.out, ← HGC.out, ← HGA.out]; simp
  have b2 : Below w.heap.size w W2 := by rw [HW2.out]; exact ((Below.refl _ _).alloc (Nat.le_refl _) _).alloc (by simp) _
  have b3 := bel_new W2 (.cells (msL (m0 ga) ++ msL (m1 gc)).toArray TM)
  have HB3 := Lib.hid (b2.trans (b3.mono b2.size))
  have HM := ms_two W2 ga gc TM
  have HOF := Lib.hid (of_any (some ⟨W2.heap.size, 0, none⟩) 2 2 [m0 ga, m1 gc] _ HM (by decide) (m_ok ga gc))
  rw [of_two, s2] at HOF
  rw [← HW2.out, HGA.out, HGC.out]
  clear HW2 HGA HGC s2 b2 b3 HM
  refine HOF.out.mono ?_
  rintro e w4 ⟨rfl, hb4⟩
  have HB4 := Lib.hid (HB3.out.trans (hb4.mono HB3.out.size))
  obtain ⟨g1, HG1⟩ : ∃ g, Hid (w4.heap.size = g) := ⟨_, Lib.hid rfl⟩
  obtain ⟨W5, HW5⟩ : ∃ W, Hid (W = w4.alloc (.cells #[.int .i64 8, .int .i64 8, .int .i64 0, .int .i64 0, .int .i64 0] TC)) := ⟨_, Lib.hid rfl⟩
  have b5 : Below w4.heap.size w4 W5 := by rw [HW5.out]; exact bel_new _ _
  have HB5 := Lib.hid (HB4.out.trans (b5.mono HB4.out.size))
  have HO5 : Hid (Obj1 W5 g1 TC #[.int .i64 8, .int .i64 8, .int .i64 0, .int .i64 0, .int .i64 0]) := Lib.hid (by rw [HW5.out, ← HG1.out]; exact Obj1.new _ _ _)
  clear hb4 HOF HB3 b5
  go_upto_region 2 with (fail)
  rw [← HW5.out, HG1.out]
  clear HW5 HG1
  have q0 := HO5.out.cell 0
  have q1 := HO5.out.cell 1
  have q2 := HO5.out.cell 2
  have q3 := HO5.out.cell 3
  have q4 := HO5.out.cell 4
  simp at q0 q1 q2 q3 q4
  have EQ4 := fun W => eq4 8 0 0 0 W
  go_wp2_with fail
  refine (HS.out _).mono ?_
  rintro e w6 ⟨rfl, hb6⟩
  have HB6 := Lib.hid (HB5.out.trans (hb6.mono HB5.out.size))
  have HO6 := Lib.hid (HO5.out.kept hb6)
  clear hb6 q0 q1 q2 q3 q4
  have q0 := HO6.out.cell 0
  have q1 := HO6.out.cell 1
  have q2 := HO6.out.cell 2
  have q3 := HO6.out.cell 3
  have q4 := HO6.out.cell 4
  simp at q0 q1 q2 q3 q4
  go_wp2_with fail
  refine (HSH.out _).mono ?_
  rintro e w7 ⟨rfl, hb7⟩
  have HB7 := Lib.hid (HB6.out.trans (hb7.mono HB6.out.size))
  have HO7 := Lib.hid (HO6.out.kept hb7)
  clear hb7 q0 q1 q2 q3 q4
  have q0 := HO7.out.cell 0
  have q1 := HO7.out.cell 1
  have q2 := HO7.out.cell 2
  have q3 := HO7.out.cell 3
  have q4 := HO7.out.cell 4
  simp at q0 q1 q2 q3 q4
  go_wp2_with fail
  refine (HWS.out _).mono ?_
  rintro e w8 ⟨rfl, hb8⟩
  have HB8 := Lib.hid (HB7.out.trans (hb8.mono HB7.out.size))
  have HO8 := Lib.hid (HO7.out.kept hb8)
  clear hb8 q0 q1 q2 q3 q4
  have q0 := HO8.out.cell 0
  have q1 := HO8.out.cell 1
  have q2 := HO8.out.cell 2
  have q3 := HO8.out.cell 3
  have q4 := HO8.out.cell 4
  simp at q0 q1 q2 q3 q4
  go_wp2_with fail
  refine (HCL.out _).mono ?_
  rintro e w9 ⟨rfl, hb9⟩
  have HB9 := Lib.hid (HB8.out.trans (hb9.mono HB8.out.size))
  have HO9 := Lib.hid (HO8.out.kept hb9)
  clear hb9 q0 q1 q2 q3 q4
  have q0 := HO9.out.cell 0
  have q1 := HO9.out.cell 1
  have q2 := HO9.out.cell 2
  have q3 := HO9.out.cell 3
  have q4 := HO9.out.cell 4
  simp at q0 q1 q2 q3 q4
  go_wp2_with fail
  refine (HTX.out _ HB9.out).mono ?_
  rintro e w10 ⟨rfl, hb10⟩
  have HB10 := Lib.hid (HB9.out.trans (hb10.mono HB9.out.size))
  have HO10 := Lib.hid (HO9.out.kept hb10)
  clear hb10 q0 q1 q2 q3 q4
  have q0 := HO10.out.cell 0
  have q1 := HO10.out.cell 1
  have q2 := HO10.out.cell 2
  have q3 := HO10.out.cell 3
  have q4 := HO10.out.cell 4
  simp at q0 q1 q2 q3 q4
  go_wp2
  go_ret
  exact ⟨rfl, HB10.out⟩
end Go.Proofs.YtanhblokhcaoiaaDoor.Dg
