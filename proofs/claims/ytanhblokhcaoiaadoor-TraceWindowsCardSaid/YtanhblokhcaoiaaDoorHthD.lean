/- The statements' own helper 'one' of layer 33. -/
import Derived.Test.YtanhblokhcaoiaaDoorHthC
namespace Go.Proofs.YtanhblokhcaoiaaDoor.Hl
open Go.ChangeShapes Go.WideShapes Go.ChangeAt Go.RowKit Base
open Joi (stV)
open Dg (nuT nu_len)
set_option linter.unusedVariables false
set_option linter.unusedSimpArgs false

theorem nu_dig (n : Nat) (h : n < 10) : nuT (n : Int) = [UInt8.ofNat (48 + n)] := by
  unfold nuT Lib.itoa
  rw [if_neg (by omega), show (max (n : Int) 0).toNat = n by omega, Lib.decDigits_one h]
def fo (i : Nat) : Int := if i = 1 then 1 else if i = 2 then 1 else 0
theorem one_txt : txH fo 7 = [115, 101, 110, 116, 32, 48, 32, 116, 111, 111, 107, 32, 49, 32, 109, 105, 115, 115, 101, 100, 32, 49, 32, 115, 121, 110, 99, 101, 100, 32, 48, 32, 108, 111, 115, 116, 32, 48, 32, 100, 105, 101, 100, 32, 48, 32, 116, 117, 114, 110, 101, 100, 32, 48] := by
  have h1 : nuT 1 = [49] := nu_dig 1 (by decide)
  have h0 : nuT 0 = [48] := nu_dig 0 (by decide)
  simp [txH, fo, nmH, h0, h1]
def e1 : Ev := ⟨0, 1, 2, 0, 0, 0, 0, none, 0, 0⟩
def e2 : Ev := ⟨0, 1, 3, 0, 0, 0, 0, none, 0, 0⟩
def e3 : Ev := ⟨0, 2, 2, 0, 0, 0, 0, none, 0, 0⟩
theorem evs_three (w : World) (T : TypeId) : EvsAt (w.alloc (.cells (evL e1 ++ evL e2 ++ evL e3).toArray T)) (some ⟨w.heap.size, 0, none⟩) 3 [e1, e2, e3] := by
  refine ⟨rfl, fun _ => ⟨w.heap.size, 0, rfl, by simp, fun i x hx j hj => ?_⟩⟩
  rw [Nat.zero_add, (Obj1.new w T _).cell]
  rcases (show i = 0 ∨ i = 1 ∨ i = 2 ∨ 3 ≤ i by omega) with rfl | rfl | rfl | hi
  · have : e1 = x := Option.some.inj hx
    subst this
    rcases (show j = 0 ∨ j = 1 ∨ j = 2 ∨ j = 3 ∨ j = 4 ∨ j = 5 ∨ j = 6 ∨ j = 7 by omega) with rfl | rfl | rfl | rfl | rfl | rfl | rfl | rfl <;> rfl
  · have : e2 = x := Option.some.inj hx
    subst this
    rcases (show j = 0 ∨ j = 1 ∨ j = 2 ∨ j = 3 ∨ j = 4 ∨ j = 5 ∨ j = 6 ∨ j = 7 by omega) with rfl | rfl | rfl | rfl | rfl | rfl | rfl | rfl <;> rfl
  · have : e3 = x := Option.some.inj hx
    subst this
    rcases (show j = 0 ∨ j = 1 ∨ j = 2 ∨ j = 3 ∨ j = 4 ∨ j = 5 ∨ j = 6 ∨ j = 7 by omega) with rfl | rfl | rfl | rfl | rfl | rfl | rfl | rfl <;> rfl
  · rw [List.getElem?_eq_none (by simpa using hi)] at hx
    cases hx
theorem of_three : c7 (cI (own [1, 1] [e1, e2, e3])) = #[.int .i64 0, .int .i64 1, .int .i64 1, .int .i64 0, .int .i64 0, .int .i64 0, .int .i64 0] := by
  simp [c7, cI, cnt, own, inB, e1, e2, e3]
set_option maxRecDepth 100000 in
set_option maxHeartbeats 2000000 in
theorem one33_any (w : World) (hL : Txt.Lf w) : Calls Tryd.prog 26 #[] w fun e w' => e = .returned (.bool true) ∧ Below w.heap.size w w' := by
  have HLF : Hid (∀ W, Below w.heap.size w W → Txt.Lf W) := Lib.hid (fun W h => hL.kept h)
  have HFI : Hid (∀ W, Calls Tryd.prog 23 #[.agg #[.int .i64 0, .int .i64 1, .int .i64 1, .int .i64 0, .int .i64 0, .int .i64 0, .int .i64 0]] W fun e' w' => e' = .returned (.int .i64 500) ∧ Below W.heap.size W w') := Lib.hid (fun W => fit_any fo W (by decide) (by decide))
  have HFZ : Hid (∀ W, Calls Tryd.prog 23 #[.agg #[.int .i64 0, .int .i64 0, .int .i64 0, .int .i64 0, .int .i64 0, .int .i64 0, .int .i64 0]] W fun e' w' => e' = .returned (.int .i64 1000) ∧ Below W.heap.size W w') := Lib.hid (fun W => fit_any (fun _ => 0) W (by decide) (by decide))
  have HTX : Hid (∀ W, Below w.heap.size w W → Calls Tryd.prog 24 #[.agg #[.int .i64 0, .int .i64 1, .int .i64 1, .int .i64 0, .int .i64 0, .int .i64 0, .int .i64 0]] W fun e' w' => e' = .returned (.string ⟨([115, 101, 110, 116, 32, 48, 32, 116, 111, 111, 107, 32, 49, 32, 109, 105, 115, 115, 101, 100, 32, 49, 32, 115, 121, 110, 99, 101, 100, 32, 48, 32, 108, 111, 115, 116, 32, 48, 32, 100, 105, 101, 100, 32, 48, 32, 116, 117, 114, 110, 101, 100, 32, 48] : List UInt8).toArray⟩) ∧ Below W.heap.size W w') := Lib.hid (fun W h => by
    have h2 := text_any fo W (fun i => by unfold fo; split <;> (try split) <;> decide) (HLF.out W h)
    rw [one_txt] at h2
    exact h2)
  clear hL
  go_enter Tryd.func26, Tryd.ntmps26
  go_wp2_with fail
  obtain ⟨ga, HGA⟩ : ∃ g, Hid (w.heap.size = g) := ⟨_, Lib.hid rfl⟩
  obtain ⟨gc, HGC⟩ : ∃ g, Hid (ga + 1 = g) := ⟨_, Lib.hid rfl⟩
  obtain ⟨W1, HW1⟩ : ∃ W, Hid (W = w.alloc (.cells (evL e1 ++ evL e2 ++ evL e3).toArray TE)) := ⟨_, Lib.hid rfl⟩
  obtain ⟨W2, HW2⟩ : ∃ W, Hid (W = W1.alloc (.cells ([1, 1].map (Value.int .i64)).toArray TI)) := ⟨_, Lib.hid rfl⟩
  have s1 : W1.heap.size = gc := by rw [HW1.out, ← HGC.out, ← HGA.out]; simp
  have b1 : Below w.heap.size w W1 := by rw [HW1.out]; exact bel_new _ _
  have b2 : Below W1.heap.size W1 W2 := by rw [HW2.out]; exact bel_new _ _
  have HB2 := Lib.hid (b1.trans (b2.mono b1.size))
  have HE : Hid (EvsAt W2 (some ⟨ga, 0, none⟩) 3 [e1, e2, e3]) := Lib.hid ((show EvsAt W1 _ 3 _ by rw [HW1.out, ← HGA.out]; exact evs_three _ _).kept b2)
  have HM : Hid (Lst W2 (some ⟨gc, 0, none⟩) 2 ([1, 1].map (Value.int .i64))) := Lib.hid (by rw [HW2.out, ← s1]; exact lst_row _ _ _)
  have HOF := Lib.hid (of_any (some ⟨ga, 0, none⟩) 3 3 [e1, e2, e3] (some ⟨gc, 0, none⟩) 2 2 [1, 1] W2 HE.out HM.out (by decide) (by decide) (by intro x hx; simp at hx; subst hx; unfold W64; omega) (by intro x hx; simp at hx; rcases hx with rfl | rfl | rfl <;> (unfold W64; decide)))
  rw [of_three] at HOF
  have HWE : Hid ((w.alloc (.cells (evL e1 ++ evL e2 ++ evL e3).toArray TE)).alloc (.cells #[.int .i64 1, .int .i64 1] TI) = W2) := Lib.hid (by rw [HW2.out, HW1.out]; rfl)
  simp only [evL, e1, e2, e3, List.cons_append, List.nil_append] at HWE
  rw [HWE.out, HGA.out, HGC.out]
  clear HW1 HW2 HWE HGA HGC s1 b1 b2 HE HM
  refine HOF.out.mono ?_
  rintro e w4 ⟨rfl, hb4⟩
  have HB4 := Lib.hid (HB2.out.trans (hb4.mono HB2.out.size))
  obtain ⟨g1, HG1⟩ : ∃ g, Hid (w4.heap.size = g) := ⟨_, Lib.hid rfl⟩
  obtain ⟨W5, HW5⟩ : ∃ W, Hid (W = w4.alloc (.cells #[.int .i64 0, .int .i64 1, .int .i64 1, .int .i64 0, .int .i64 0, .int .i64 0, .int .i64 0] TH)) := ⟨_, Lib.hid rfl⟩
  have b5 : Below w4.heap.size w4 W5 := by rw [HW5.out]; exact bel_new _ _
  have HB5 := Lib.hid (HB4.out.trans (b5.mono HB4.out.size))
  have HO5 : Hid (Obj1 W5 g1 TH #[.int .i64 0, .int .i64 1, .int .i64 1, .int .i64 0, .int .i64 0, .int .i64 0, .int .i64 0]) := Lib.hid (by rw [HW5.out, ← HG1.out]; exact Obj1.new _ _ _)
  clear hb4 HOF HB2 b5
  go_upto_region 2 with (fail)
  rw [← HW5.out, HG1.out]
  clear HW5 HG1
  have q0 := HO5.out.cell 0
  have q1 := HO5.out.cell 1
  have q2 := HO5.out.cell 2
  have q3 := HO5.out.cell 3
  have q4 := HO5.out.cell 4
  have q5 := HO5.out.cell 5
  have q6 := HO5.out.cell 6
  simp at q0 q1 q2 q3 q4 q5 q6
  go_wp2_with fail
  refine (HFI.out _).mono ?_
  rintro e w6 ⟨rfl, hb6⟩
  have HB6 := Lib.hid (HB5.out.trans (hb6.mono HB5.out.size))
  have HO6 := Lib.hid (HO5.out.kept hb6)
  clear hb6 q0 q1 q2 q3 q4 q5 q6 HO5
  have q0 := HO6.out.cell 0
  have q1 := HO6.out.cell 1
  have q2 := HO6.out.cell 2
  have q3 := HO6.out.cell 3
  have q4 := HO6.out.cell 4
  have q5 := HO6.out.cell 5
  have q6 := HO6.out.cell 6
  simp at q0 q1 q2 q3 q4 q5 q6
  go_wp2_with fail
  refine (HFZ.out _).mono ?_
  rintro e w7 ⟨rfl, hb7⟩
  have HB7 := Lib.hid (HB6.out.trans (hb7.mono HB6.out.size))
  have HO7 := Lib.hid (HO6.out.kept hb7)
  clear hb7 q0 q1 q2 q3 q4 q5 q6 HO6
  have q0 := HO7.out.cell 0
  have q1 := HO7.out.cell 1
  have q2 := HO7.out.cell 2
  have q3 := HO7.out.cell 3
  have q4 := HO7.out.cell 4
  have q5 := HO7.out.cell 5
  have q6 := HO7.out.cell 6
  simp at q0 q1 q2 q3 q4 q5 q6
  go_wp2_with fail
  refine (HTX.out _ HB7.out).mono ?_
  rintro e w8 ⟨rfl, hb8⟩
  have HB8 := Lib.hid (HB7.out.trans (hb8.mono HB7.out.size))
  have HO8 := Lib.hid (HO7.out.kept hb8)
  clear hb8 q0 q1 q2 q3 q4 q5 q6 HO7
  have q0 := HO8.out.cell 0
  have q1 := HO8.out.cell 1
  have q2 := HO8.out.cell 2
  have q3 := HO8.out.cell 3
  have q4 := HO8.out.cell 4
  have q5 := HO8.out.cell 5
  have q6 := HO8.out.cell 6
  simp at q0 q1 q2 q3 q4 q5 q6
  go_wp2
  go_ret
  exact ⟨rfl, HB8.out⟩
end Go.Proofs.YtanhblokhcaoiaaDoor.Hl
