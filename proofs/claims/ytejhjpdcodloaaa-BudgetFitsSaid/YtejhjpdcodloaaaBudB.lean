/- The contracts of package budget's may, near, note, and of the document's May, Near. -/
import Derived.Test.YtejhjpdcodloaaaBudA
import Derived.RegionTactic
import Derived.Deep.DeepCutAuto
import Derived.Deep.CutBlock
namespace Go.Proofs.Ytejhjpdcodloaaa.Ly21
open Go.ChangeShapes Go.WideShapes Go.ChangeAt Go.RowKit Base Go.Maps
set_option linter.unusedVariables false
set_option linter.unusedSimpArgs false

theorem bel1 (w : World) (o : Obj) : Below w.heap.size w (w.alloc o) := (Below.refl _ _).alloc (Nat.le_refl _) _
set_option maxHeartbeats 1000000 in
theorem may_any (x : Slp) (md : Int) (w : World) : Calls Try.prog 36 #[.agg x.cells, .int .i64 md] w fun e w' => e = .returned (.bool (mayB x md)) ∧ Below w.heap.size w w' := by
  obtain ⟨m, y, t, b⟩ := x
  have HB1 := Lib.hid (bel1 w (.cells #[.int .i64 m, .bool y, .int .i64 t, .int .i64 b] 40))
  obtain ⟨q, HQ⟩ : ∃ q, Hid (mayB ⟨m, y, t, b⟩ md = q) := ⟨_, Lib.hid rfl⟩
  rcases (show m < 0 ∨ (0 ≤ m ∧ md ≤ m) ∨ ((0 ≤ m ∧ m < md) ∧ t < 0) ∨ ((0 ≤ m ∧ m < md) ∧ 0 ≤ t ∧ 1099511627776 < t) ∨ ((0 ≤ m ∧ m < md) ∧ (0 ≤ t ∧ t ≤ 1099511627776) ∧ b = -1) ∨ ((0 ≤ m ∧ m < md) ∧ (0 ≤ t ∧ t ≤ 1099511627776) ∧ b = 1) ∨ ((0 ≤ m ∧ m < md) ∧ (0 ≤ t ∧ t ≤ 1099511627776) ∧ b ≠ -1 ∧ b ≠ 1) by omega) with h | ⟨h, h1⟩ | ⟨⟨h, h1⟩, h2⟩ | ⟨⟨h, h1⟩, h2, h3⟩ | ⟨⟨h, h1⟩, ⟨h2, h3⟩, rfl⟩ | ⟨⟨h, h1⟩, ⟨h2, h3⟩, rfl⟩ | ⟨⟨h, h1⟩, ⟨h2, h3⟩, h4, h5⟩
  · have hq : q = false := by rw [← HQ.out]; unfold mayB; exact decide_eq_false (by simp only; omega)
    rw [HQ.out, hq]
    clear hq
    go_enter Try.func36, Try.ntmps36
    go_wp2
    go_ret
    exact ⟨rfl, HB1.out⟩
  · have hq : q = false := by rw [← HQ.out]; unfold mayB; exact decide_eq_false (by simp only; omega)
    rw [HQ.out, hq]
    clear hq
    go_enter Try.func36, Try.ntmps36
    go_wp2
    go_ret
    exact ⟨rfl, HB1.out⟩
  · have hq : q = false := by rw [← HQ.out]; unfold mayB; exact decide_eq_false (by simp only; omega)
    rw [HQ.out, hq]
    clear hq
    go_enter Try.func36, Try.ntmps36
    go_wp2
    go_ret
    exact ⟨rfl, HB1.out⟩
  · have hq : q = false := by rw [← HQ.out]; unfold mayB; exact decide_eq_false (by simp only; omega)
    rw [HQ.out, hq]
    clear hq
    go_enter Try.func36, Try.ntmps36
    go_wp2
    go_ret
    exact ⟨rfl, HB1.out⟩
  · have hq : q = true := by rw [← HQ.out]; unfold mayB; exact decide_eq_true (by refine ⟨?_, ?_, ?_, ?_, ?_⟩ <;> simp <;> omega)
    rw [HQ.out, hq]
    clear hq
    go_enter Try.func36, Try.ntmps36
    go_wp2
    go_ret
    exact ⟨rfl, HB1.out⟩
  · have hq : q = true := by rw [← HQ.out]; unfold mayB; exact decide_eq_true (by refine ⟨?_, ?_, ?_, ?_, ?_⟩ <;> simp <;> omega)
    rw [HQ.out, hq]
    clear hq
    go_enter Try.func36, Try.ntmps36
    go_wp2
    go_ret
    exact ⟨rfl, HB1.out⟩
  · have hq : q = false := by rw [← HQ.out]; unfold mayB; exact decide_eq_false (by simp only; omega)
    rw [HQ.out, hq]
    clear hq
    have hb1 : (b == 1) = false := by simpa using h5
    have hb2 : (b == -1) = false := by simpa using h4
    go_enter Try.func36, Try.ntmps36
    go_wp2
    go_ret
    exact ⟨rfl, HB1.out⟩
set_option maxHeartbeats 1000000 in
theorem rmay_any (x : Slp) (md : Int) (w : World) : Calls Try.prog 33 #[.agg x.cells, .int .i64 md] w fun e w' => e = .returned (.bool (mayB x md)) ∧ Below w.heap.size w w' := by
  obtain ⟨m, y, t, b⟩ := x
  have HB1 := Lib.hid (bel1 w (.cells #[.int .i64 m, .bool y, .int .i64 t, .int .i64 b] 37))
  obtain ⟨q, HQ⟩ : ∃ q, Hid (mayB ⟨m, y, t, b⟩ md = q) := ⟨_, Lib.hid rfl⟩
  rcases (show m < 0 ∨ (0 ≤ m ∧ md ≤ m) ∨ ((0 ≤ m ∧ m < md) ∧ t < 0) ∨ ((0 ≤ m ∧ m < md) ∧ 0 ≤ t ∧ 1099511627776 < t) ∨ ((0 ≤ m ∧ m < md) ∧ (0 ≤ t ∧ t ≤ 1099511627776) ∧ b = -1) ∨ ((0 ≤ m ∧ m < md) ∧ (0 ≤ t ∧ t ≤ 1099511627776) ∧ b = 1) ∨ ((0 ≤ m ∧ m < md) ∧ (0 ≤ t ∧ t ≤ 1099511627776) ∧ b ≠ -1 ∧ b ≠ 1) by omega) with h | ⟨h, h1⟩ | ⟨⟨h, h1⟩, h2⟩ | ⟨⟨h, h1⟩, h2, h3⟩ | ⟨⟨h, h1⟩, ⟨h2, h3⟩, rfl⟩ | ⟨⟨h, h1⟩, ⟨h2, h3⟩, rfl⟩ | ⟨⟨h, h1⟩, ⟨h2, h3⟩, h4, h5⟩
  · have hq : q = false := by rw [← HQ.out]; unfold mayB; exact decide_eq_false (by simp only; omega)
    rw [HQ.out, hq]
    clear hq
    go_enter Try.func33, Try.ntmps33
    go_wp2
    go_ret
    exact ⟨rfl, HB1.out⟩
  · have hq : q = false := by rw [← HQ.out]; unfold mayB; exact decide_eq_false (by simp only; omega)
    rw [HQ.out, hq]
    clear hq
    go_enter Try.func33, Try.ntmps33
    go_wp2
    go_ret
    exact ⟨rfl, HB1.out⟩
  · have hq : q = false := by rw [← HQ.out]; unfold mayB; exact decide_eq_false (by simp only; omega)
    rw [HQ.out, hq]
    clear hq
    go_enter Try.func33, Try.ntmps33
    go_wp2
    go_ret
    exact ⟨rfl, HB1.out⟩
  · have hq : q = false := by rw [← HQ.out]; unfold mayB; exact decide_eq_false (by simp only; omega)
    rw [HQ.out, hq]
    clear hq
    go_enter Try.func33, Try.ntmps33
    go_wp2
    go_ret
    exact ⟨rfl, HB1.out⟩
  · have hq : q = true := by rw [← HQ.out]; unfold mayB; exact decide_eq_true (by refine ⟨?_, ?_, ?_, ?_, ?_⟩ <;> simp <;> omega)
    rw [HQ.out, hq]
    clear hq
    go_enter Try.func33, Try.ntmps33
    go_wp2
    go_ret
    exact ⟨rfl, HB1.out⟩
  · have hq : q = true := by rw [← HQ.out]; unfold mayB; exact decide_eq_true (by refine ⟨?_, ?_, ?_, ?_, ?_⟩ <;> simp <;> omega)
    rw [HQ.out, hq]
    clear hq
    go_enter Try.func33, Try.ntmps33
    go_wp2
    go_ret
    exact ⟨rfl, HB1.out⟩
  · have hq : q = false := by rw [← HQ.out]; unfold mayB; exact decide_eq_false (by simp only; omega)
    rw [HQ.out, hq]
    clear hq
    have hb1 : (b == 1) = false := by simpa using h5
    have hb2 : (b == -1) = false := by simpa using h4
    go_enter Try.func33, Try.ntmps33
    go_wp2
    go_ret
    exact ⟨rfl, HB1.out⟩

set_option maxRecDepth 100000 in
set_option maxHeartbeats 1000000 in
theorem rnear_any (A : Option Addr) (n c : Nat) (l : List Slp) (x : Slp) (w : World) (hl : SlsAt w A n l) (hn : n ≤ 1000) (hb : ∀ a ∈ l, 0 ≤ a.t ∧ a.t ≤ 1099511627776) (hx : 0 ≤ x.t ∧ x.t ≤ 1099511627776) :
    Calls Try.prog 34 #[.slice A n c, .agg x.cells] w fun e w' => e = .returned (.bool (nearL l x)) ∧ Below w.heap.size w w' := by
  obtain ⟨m, y, t, b⟩ := x
  have HL := Lib.hid hl
  have HBD := Lib.hid hb
  have hx0 : 0 ≤ t := hx.1
  have hx1 : t ≤ 1099511627776 := hx.2
  obtain ⟨gb, HGB⟩ : ∃ gb, Hid (w.heap.size = gb) := ⟨_, Lib.hid rfl⟩
  obtain ⟨W1, HW1⟩ : ∃ W1, W1 = w.alloc (.cells #[.int .i64 m, .bool y, .int .i64 t, .int .i64 b] 37) := ⟨_, rfl⟩
  have HB1 : Hid (Below w.heap.size w W1) := Lib.hid (by rw [HW1]; exact bel1 _ _)
  have HO1 : Hid (Obj1 W1 gb 37 #[.int .i64 m, .bool y, .int .i64 t, .int .i64 b]) := Lib.hid (by rw [HW1, ← HGB.out]; exact Obj1.new _ _ _)
  obtain ⟨Q, HQ⟩ : ∃ Q, Hid (nearL l ⟨m, y, t, b⟩ = Q) := ⟨_, Lib.hid rfl⟩
  rw [HQ.out]
  clear hl hb hx
  go_enter Try.func34, Try.ntmps34
  go_upto_region 1 with (fail)
  rw [← HW1, HGB.out]
  clear HW1
  go_wp2_with fail
  go_loopw [5] (fun i wx => ∃ k : Nat, k ≤ n ∧ i = .int .i64 k ∧ Hid (nearL (l.take k) ⟨m, y, t, b⟩ = false) ∧ Below W1.heap.size W1 wx) (fun i _ => n - (intOf i).toNat)
  case atStart => exact ⟨0, by omega, rfl, Lib.hid rfl, Below.refl _ _⟩
  case round =>
    obtain ⟨k, hk, rfl, HN, hbel⟩ := hrel
    have HBEL := Lib.hid hbel
    have HBW := Lib.hid (HB1.out.trans (hbel.mono HB1.out.size))
    have HOr := Lib.hid (HO1.out.kept hbel)
    clear hbel
    have d0 := HOr.out.cell 0
    have d1 := HOr.out.cell 1
    have d2 := HOr.out.cell 2
    simp at d0 d1 d2
    by_cases hlt : k < n
    · have hki : (k : Int) < (n : Int) := by omega
      have hkl : k < l.length := by rw [HL.out.len]; exact hlt
      obtain ⟨x, hx⟩ : ∃ x, l[k]? = some x := ⟨_, List.getElem?_eq_getElem hkl⟩
      have hxm := List.mem_of_getElem? hx
      have hxb := HBD.out x hxm
      have HX := Lib.hid hx
      obtain ⟨b0, off, rfl, hb0, j0, j1, j2, j3⟩ := (HL.out.kept HBW.out).four hlt hx
      obtain ⟨xm, xy, xt, xb⟩ := x
      simp only at j0 j1 j2 j3 hxb
      have e1 : IntKind.i64.wrap (xt - t) = xt - t := IntWalk.i64_in _ (by omega)
      have e2 : IntKind.i64.wrap (t - xt) = t - xt := IntWalk.i64_in _ (by omega)
      clear hx hkl hb0
      have HNO : Hid (nearB ⟨xm, xy, xt, xb⟩ ⟨m, y, t, b⟩ = false → nearL (l.take (k + 1)) ⟨m, y, t, b⟩ = false) := Lib.hid (fun h => by
        rw [List.take_add_one, HX.out]
        show nearL (l.take k ++ [_]) _ = false
        rw [nearL_snoc, HN.out, h]
        rfl)
      rcases (show xm ≠ m ∨ (xm = m ∧ xy ≠ y) ∨ (xm = m ∧ xy = y ∧ ¬ xt - t < 4400) ∨ (xm = m ∧ xy = y ∧ xt - t < 4400 ∧ ¬ t - xt < 4400) ∨ (xm = m ∧ xy = y ∧ xt - t < 4400 ∧ t - xt < 4400) by
          by_cases h1 : xm = m
          · by_cases h2 : xy = y
            · by_cases h3 : xt - t < 4400
              · by_cases h4 : t - xt < 4400
                · exact .inr (.inr (.inr (.inr ⟨h1, h2, h3, h4⟩)))
                · exact .inr (.inr (.inr (.inl ⟨h1, h2, h3, h4⟩)))
              · exact .inr (.inr (.inl ⟨h1, h2, h3⟩))
            · exact .inr (.inl ⟨h1, h2⟩)
          · exact .inl h1) with h | ⟨rfl, h⟩ | ⟨rfl, rfl, h⟩ | ⟨rfl, rfl, h, h'⟩ | ⟨rfl, rfl, h, h'⟩
      · have HNB := Lib.hid (HNO.out (by simp only [nearB]; exact decide_eq_false (fun q => h q.1)))
        have hb : (xm == m) = false := by simpa using h
        clear h
        go_upto_region 4 with (fail)
        refine wp_region_quiet_lit (by kernel_rfl) (by kernel_rfl) ?_
        repeat (go_big_quiet_step (fail))
        refine wpQuiet_nil ?_
        intro _ hw'
        obtain ⟨nq, hw''⟩ := hw'
        subst hw''
        go_wp2
        go_roundw
        case rel => exact ⟨k + 1, by omega, by go_num, HNB, by have := HBEL.out; (first | exact this.drewN _ | (refine this.trans ((show Below _ _ (World.drewN _ _) from ?_).mono this.size); exact below_drewN' (Below.refl _ _) _) | exact below_drewN' this _)⟩
        case measure => simp [intOf]; omega
      · have HNB := Lib.hid (HNO.out (by simp only [nearB]; exact decide_eq_false (fun q => h q.2.1)))
        have hb : (xy == y) = false := by simpa using h
        clear h
        go_upto_region 4 with (fail)
        refine wp_region_quiet_lit (by kernel_rfl) (by kernel_rfl) ?_
        repeat (go_big_quiet_step (fail))
        refine wpQuiet_nil ?_
        intro _ hw'
        obtain ⟨nq, hw''⟩ := hw'
        subst hw''
        go_wp2
        go_roundw
        case rel => exact ⟨k + 1, by omega, by go_num, HNB, by have := HBEL.out; (first | exact this.drewN _ | (refine this.trans ((show Below _ _ (World.drewN _ _) from ?_).mono this.size); exact below_drewN' (Below.refl _ _) _) | exact below_drewN' this _)⟩
        case measure => simp [intOf]; omega
      · have HNB := Lib.hid (HNO.out (by simp only [nearB]; exact decide_eq_false (fun q => h q.2.2.1)))
        go_upto_region 4 with (fail)
        refine wp_region_quiet_lit (by kernel_rfl) (by kernel_rfl) ?_
        repeat (go_big_quiet_step (fail))
        refine wpQuiet_nil ?_
        intro _ hw'
        obtain ⟨nq, hw''⟩ := hw'
        subst hw''
        go_wp2
        go_roundw
        case rel => exact ⟨k + 1, by omega, by go_num, HNB, by have := HBEL.out; (first | exact this.drewN _ | (refine this.trans ((show Below _ _ (World.drewN _ _) from ?_).mono this.size); exact below_drewN' (Below.refl _ _) _) | exact below_drewN' this _)⟩
        case measure => simp [intOf]; omega
      · have HNB := Lib.hid (HNO.out (by simp only [nearB]; exact decide_eq_false (fun q => h' q.2.2.2)))
        go_upto_region 4 with (fail)
        refine wp_region_quiet_lit (by kernel_rfl) (by kernel_rfl) ?_
        repeat (go_big_quiet_step (fail))
        refine wpQuiet_nil ?_
        intro _ hw'
        obtain ⟨nq, hw''⟩ := hw'
        subst hw''
        go_wp2
        go_roundw
        case rel => exact ⟨k + 1, by omega, by go_num, HNB, by have := HBEL.out; (first | exact this.drewN _ | (refine this.trans ((show Below _ _ (World.drewN _ _) from ?_).mono this.size); exact below_drewN' (Below.refl _ _) _) | exact below_drewN' this _)⟩
        case measure => simp [intOf]; omega
      · have HYES : Hid (true = Q) := Lib.hid (by
          rw [← HQ.out]
          exact (List.any_eq_true.2 ⟨_, hxm, by unfold nearB; exact decide_eq_true ⟨rfl, rfl, h, h'⟩⟩).symm)
        clear hxm
        go_upto_region 4 with (fail)
        refine wp_region_quiet_lit (by kernel_rfl) (by kernel_rfl) ?_
        repeat (go_big_quiet_step (fail))
        refine wpQuiet_nil ?_
        intro _ hw'
        obtain ⟨nq, hw''⟩ := hw'
        subst hw''
        go_wp2
        go_ret
        exact ⟨by rw [← HYES.out]; rfl, by have := HBW.out; (first | exact this.drewN _ | (refine this.trans ((show Below _ _ (World.drewN _ _) from ?_).mono this.size); exact below_drewN' (Below.refl _ _) _) | exact below_drewN' this _)⟩
    · have hke : n = k := by omega
      subst hke
      have HNF : Hid (false = Q) := Lib.hid (by rw [← HQ.out, ← HN.out, List.take_of_length_le (by rw [HL.out.len]; exact Nat.le_refl _)])
      go_wp2
      go_ret
      exact ⟨by rw [← HNF.out]; rfl, HBW.out⟩
set_option maxRecDepth 100000 in
set_option maxHeartbeats 1000000 in
theorem near_any (md : Int) (g n : Nat) (l : List Slp) (x : Slp) (w : World) (hm : MapN w g n l) (hg : Good md l) (hx : mayB x md = true) (hmd : md ≤ 9223372036854775807) :
    Calls Try.prog 37 #[.map (some g), .agg x.cells] w fun e w' => e = .returned (.bool (nearL l x)) ∧ Below w.heap.size w w' := by
  have hns := near_spans hg x (by simp [mayB] at hx; omega)
  obtain ⟨m, y, t, b⟩ := x
  simp only [mayB, decide_eq_true_eq] at hx
  obtain ⟨x0, x1, x2, x3, _⟩ := hx
  obtain ⟨q, hq⟩ : ∃ q, t / 4400 = q := ⟨_, rfl⟩
  have hq0 : 0 ≤ q ∧ q ≤ 250000000 := by omega
  have HTD : Hid (t.tdiv 4400 = q) := Lib.hid (by rw [Int.tdiv_eq_ediv_of_nonneg x2, hq])
  simp only [hq] at hns
  have HNS := Lib.hid hns
  have HM := Lib.hid hm
  have HWM : Hid (W64 m) := Lib.hid ⟨by omega, by omega⟩
  obtain ⟨gb, HGB⟩ : ∃ gb, Hid (w.heap.size = gb) := ⟨_, Lib.hid rfl⟩
  obtain ⟨W1, HW1⟩ : ∃ W1, W1 = w.alloc (.cells #[.int .i64 m, .bool y, .int .i64 t, .int .i64 b] 40) := ⟨_, rfl⟩
  have HB1 : Hid (Below w.heap.size w W1) := Lib.hid (by rw [HW1]; exact bel1 _ _)
  have HO1 : Hid (Obj1 W1 gb 40 #[.int .i64 m, .bool y, .int .i64 t, .int .i64 b]) := Lib.hid (by rw [HW1, ← HGB.out]; exact Obj1.new _ _ _)
  have HM1 := Lib.hid (HM.out.kept HB1.out)
  obtain ⟨Q, HQ⟩ : ∃ Q, Hid (nearL l ⟨m, y, t, b⟩ = Q) := ⟨_, Lib.hid rfl⟩
  rw [HQ.out]
  have d0 := HO1.out.cell 0
  have d1 := HO1.out.cell 1
  have d2 := HO1.out.cell 2
  simp at d0 d1 d2
  have hwq : IntKind.i64.wrap (t.tdiv 4400) = q := by rw [HTD.out]; exact IntWalk.i64_in _ (by omega)
  have hwq' : wrap64 q = q := IntWalk.wrap64_in q (by omega)
  have htd := HTD.out
  have e0 : IntKind.i64.wrap (q - 1) = q - 1 := IntWalk.i64_in _ (by omega)
  have e1 : IntKind.i64.wrap (q + 1) = q + 1 := IntWalk.i64_in _ (by omega)
  have HGT : Hid (∀ a ∈ l, 0 ≤ a.t ∧ a.t ≤ 1099511627776) := Lib.hid (fun a ha => by have := hg.1 a ha; simp [mayB] at this; omega)
  clear hm hns hq HM hg
  go_enter Try.func37, Try.ntmps37
  go_upto_region 1 with (fail)
  rw [← HW1, HGB.out]
  clear HW1
  go_wp2_with fail
  go_loopw [5] (fun i wx => ∃ k : Nat, k ≤ 3 ∧ i = .int .i64 (q - 1 + k) ∧ Hid (∀ j : Nat, j < k → nK l ⟨m, y, t, b⟩ (q - 1 + j) = false) ∧ W1 = wx) (fun i _ => (q + 2 - intOf i).toNat)
  case atStart => exact ⟨0, by omega, by simp, Lib.hid (fun j hj => by omega), rfl⟩
  case round =>
    obtain ⟨k, hk, rfl, HN, rfl⟩ := hrel
    obtain ⟨kk, hkk⟩ : ∃ kk, q - 1 + (k : Int) = kk := ⟨_, rfl⟩
    have HKK := Lib.hid hkk
    rw [hkk]
    by_cases hlt : k < 3
    · have hle : kk ≤ q + 1 := by omega
      have hk0 : -1 ≤ kk ∧ kk ≤ 250000001 := by omega
      have en : IntKind.i64.wrap (kk + 1) = kk + 1 := IntWalk.i64_in _ (by omega)
      have HKW : Hid (W64 kk) := Lib.hid ⟨by omega, by omega⟩
      obtain ⟨D, hown, hat0⟩ := HM1.out
      have HAT := Lib.hid (hat0 m y kk HWM.out HKW.out)
      have HKEY := Lib.hid (kl_at (y := y) HWM.out HKW.out)
      clear hat0
      have HREL : Hid (nK l ⟨m, y, t, b⟩ kk = false → ∀ j : Nat, j < k + 1 → nK l ⟨m, y, t, b⟩ (q - 1 + j) = false) := Lib.hid (fun h j hj => by
        rcases (show j < k ∨ j = k by omega) with h' | rfl
        · exact HN.out j h'
        · rw [HKK.out]; exact h)
      cases hf : fnd l m y kk with
      | none =>
        have HNO := Lib.hid (HREL.out (by unfold nK; simp only; rw [hf]))
        have HHAS : Hid (Go.Maps.has D (KL m y kk) = false) := Lib.hid (by rw [HAT.out.1, hf]; rfl)
        clear hf hkk
        go_wp2_with (at_lookup; refine wpList_lookup_own_ok_int _ rfl _ _ TM rfl TK TI .i64 keyed Try.underlying71 Try.underlying3 (zeroI _) g n _ rfl hown _ _ rfl HKEY.out ?_; intro cc hat hwc; rw [HHAS.out])
        go_roundw
        case rel => exact ⟨k + 1, by omega, by (have := HKK.out; simp; omega), HNO, trivial⟩
        case measure => simp [intOf]; omega
      | some tk =>
        have HHAS : Hid (Go.Maps.has D (KL m y kk) = true) := Lib.hid (by rw [HAT.out.1, hf]; rfl)
        have HCX : Hid (∀ cc : Int, D.atKey (KL m y kk) (.lit (.int .i64 0)) = .lit (.int .i64 cc) → cc = tk) := Lib.hid (fun cc h => by
          rw [HAT.out.2, hf] at h
          injection h with h
          injection h with _ h
          exact h.symm)
        obtain ⟨htk0, htk1⟩ : 0 ≤ tk ∧ tk ≤ 1099511627776 := by
          obtain ⟨a, ha, _, rfl⟩ := fnd_some hf
          exact HGT.out a ha
        have f1 : IntKind.i64.wrap (tk - t) = tk - t := IntWalk.i64_in _ (by omega)
        have f2 : IntKind.i64.wrap (t - tk) = t - tk := IntWalk.i64_in _ (by omega)
        by_cases hn1 : tk - t < 4400 ∧ t - tk < 4400
        · have HYES : Hid (true = Q) := Lib.hid (by
            rw [← HQ.out, ← HNS.out]
            have : nK l ⟨m, y, t, b⟩ kk = true := by unfold nK; simp only; rw [hf]; exact decide_eq_true hn1
            rcases (show k = 0 ∨ k = 1 ∨ k = 2 by omega) with rfl | rfl | rfl
            · rw [show q - 1 = kk by omega, this]; rfl
            · rw [show q = kk by omega, this]; simp
            · rw [show q + 1 = kk by omega, this]; simp)
          obtain ⟨n1, n2⟩ := hn1
          clear hf hkk
          go_wp2_with (at_lookup; refine wpList_lookup_own_ok_int _ rfl _ _ TM rfl TK TI .i64 keyed Try.underlying71 Try.underlying3 (zeroI _) g n _ rfl hown _ _ rfl HKEY.out ?_; intro cc hat hwc; rw [HHAS.out]; obtain rfl : cc = tk := HCX.out cc hat)
          all_goals
            go_ret
            exact ⟨by rw [← HYES.out]; rfl, HB1.out⟩
        · have HNO := Lib.hid (HREL.out (by unfold nK; simp only; rw [hf]; exact decide_eq_false hn1))
          rcases (show (tk < t ∧ ¬ t - tk < 4400) ∨ (t < tk ∧ ¬ tk - t < 4400) by omega) with ⟨o1, o2⟩ | ⟨o1, o2⟩
          all_goals
            clear hf hkk hn1
            go_wp2_with (at_lookup; refine wpList_lookup_own_ok_int _ rfl _ _ TM rfl TK TI .i64 keyed Try.underlying71 Try.underlying3 (zeroI _) g n _ rfl hown _ _ rfl HKEY.out ?_; intro cc hat hwc; rw [HHAS.out]; obtain rfl : cc = tk := HCX.out cc hat)
            go_roundw
            case rel => exact ⟨k + 1, by omega, by (have := HKK.out; simp; omega), HNO, trivial⟩
            case measure => simp [intOf]; omega
    · have hgt : ¬ kk ≤ q + 1 := by omega
      have HNF : Hid (false = Q) := Lib.hid (by
        rw [← HQ.out, ← HNS.out]
        have h0 := HN.out 0 (by omega)
        have h1 := HN.out 1 (by omega)
        have h2 := HN.out 2 (by omega)
        rw [show q - 1 + ((0 : Nat) : Int) = q - 1 by omega] at h0
        rw [show q - 1 + ((1 : Nat) : Int) = q by omega] at h1
        rw [show q - 1 + ((2 : Nat) : Int) = q + 1 by omega] at h2
        rw [h0, h1, h2]
        rfl)
      clear hkk
      go_wp2
      go_ret
      exact ⟨by rw [← HNF.out]; rfl, HB1.out⟩
set_option maxRecDepth 100000 in
set_option maxHeartbeats 1000000 in
theorem note_any (md : Int) (g n : Nat) (l : List Slp) (x : Slp) (w : World) (hm : MapN w g n l) (hx : mayB x md = true) (hmd : md ≤ 9223372036854775807) (hn : n ≤ 10000) :
    Calls Try.prog 38 #[.map (some g), .agg x.cells] w fun e w' => e = .returned (.tuple #[]) ∧ Hid (MapN w' g (n + 1) (l ++ [x])) ∧ Hid (Wrote g w w') := by
  obtain ⟨m, y, t, b⟩ := x
  simp only [mayB, decide_eq_true_eq] at hx
  obtain ⟨x0, x1, x2, x3, _⟩ := hx
  obtain ⟨q, hq⟩ : ∃ q, t / 4400 = q := ⟨_, rfl⟩
  have HQ := Lib.hid hq
  have hq0 : 0 ≤ q ∧ q ≤ 250000000 := by omega
  have HTD : Hid (t.tdiv 4400 = q) := Lib.hid (by rw [Int.tdiv_eq_ediv_of_nonneg x2, hq])
  have HWM : Hid (W64 m) := Lib.hid ⟨by omega, by omega⟩
  have HWQ : Hid (W64 q) := Lib.hid ⟨by omega, by omega⟩
  have HT : Hid (0 ≤ t ∧ t ≤ 1099511627776) := Lib.hid ⟨x2, x3⟩
  obtain ⟨gb, HGB⟩ : ∃ gb, Hid (w.heap.size = gb) := ⟨_, Lib.hid rfl⟩
  obtain ⟨W1, HW1⟩ : ∃ W1, W1 = w.alloc (.cells #[.int .i64 m, .bool y, .int .i64 t, .int .i64 b] 40) := ⟨_, rfl⟩
  have HB1 : Hid (Below w.heap.size w W1) := Lib.hid (by rw [HW1]; exact bel1 _ _)
  have HO1 : Hid (Obj1 W1 gb 40 #[.int .i64 m, .bool y, .int .i64 t, .int .i64 b]) := Lib.hid (by rw [HW1, ← HGB.out]; exact Obj1.new _ _ _)
  have HWR : Hid (Wrote g w W1) := Lib.hid (by rw [HW1]; exact World.grownBy_alloc w _ _)
  have hm1 := hm.kept HB1.out
  obtain ⟨D, hown, hat0⟩ := hm1
  have HOWN := Lib.hid hown
  have HAT := Lib.hid hat0
  have HKEY := Lib.hid (kl_at (y := y) HWM.out HWQ.out)
  have HWT : Hid ((Lit.int .i64 t).wf = true) := Lib.hid (wf_of ⟨by omega, by omega⟩)
  have d0 := HO1.out.cell 0
  have d1 := HO1.out.cell 1
  have d2 := HO1.out.cell 2
  simp at d0 d1 d2
  have htd := HTD.out
  have hwq' : wrap64 q = q := IntWalk.wrap64_in q (by omega)
  clear hm hat0 hq
  go_enter Try.func38, Try.ntmps38
  go_upto_region 1 with (fail)
  rw [← HW1, HGB.out]
  clear HW1
  go_wp2_with (at_mapUpdate; refine wpList_mapUpdate_own _ rfl _ _ _ TM rfl TK TI keyed Try.underlying71 _ g n _ rfl hown (by unfold maxLen; omega) _ _ _ rfl rfl HKEY.out _ [] (plainElem_int Try.underlying3 HWT.out) ?_; intro w1 hown1 hgrow1)
  have HMN : Hid (MapN w1 g (n + 1) (l ++ [⟨m, y, t, b⟩])) := Lib.hid (MapN.put (x := ⟨m, y, t, b⟩) HWM.out HT.out.1 HT.out.2 HOWN.out HAT.out (by rw [show (⟨m, y, t, b⟩ : Slp).t / 4400 = q from HQ.out]; exact hown1))
  have HW2 : Hid (Wrote g w w1) := Lib.hid (HWR.out.trans hgrow1)
  first | go_end0 | refine bodyPost_ret (results_none rfl _ _ _) rfl ?_
  exact ⟨rfl, HMN, HW2⟩
end Go.Proofs.Ytejhjpdcodloaaa.Ly21
