/- The document's near and numbers of layer 28; no condition but sizes. -/
import Derived.Test.YtanhblokhcaoiaaDoorTrcR
namespace Go.Proofs.YtanhblokhcaoiaaDoor.Tr
open Go.ChangeShapes Go.WideShapes Go.ChangeAt Go.RowKit Base Go.Maps
open Hl (Ev TE TI EvsAt evL evC)
set_option linter.unusedVariables false
set_option linter.unusedSimpArgs false

theorem nearE_is (x y : Ev) : nearE x y = ((x.s == y.s) && (x.v == y.v) && decide (x.si - y.si ≤ 100) && decide (y.si - x.si ≤ 100)) := by
  unfold nearE
  rw [Bool.eq_iff_iff]
  simp only [decide_eq_true_eq, Bool.and_eq_true, beq_iff_eq]
  constructor
  · rintro ⟨a, b, c, d⟩; exact ⟨⟨⟨a, b⟩, c⟩, d⟩
  · rintro ⟨⟨⟨a, b⟩, c⟩, d⟩; exact ⟨a, b, c, d⟩
set_option maxRecDepth 100000 in
set_option maxHeartbeats 2000000 in
theorem near_any (x y : Ev) (w : World) (hx : 0 ≤ x.si ∧ x.si ≤ 1099511627776) (hy : 0 ≤ y.si ∧ y.si ≤ 1099511627776) :
    Calls Tryd.prog 32 #[.agg #[.int .i64 x.t, .int .i64 x.m, .int .i64 x.k, .int .i64 x.s, .int .i64 x.v, .int .i64 x.si, .int .i64 x.c, .slice x.A x.n x.d], .agg #[.int .i64 y.t, .int .i64 y.m, .int .i64 y.k, .int .i64 y.s, .int .i64 y.v, .int .i64 y.si, .int .i64 y.c, .slice y.A y.n y.d]] w fun e' w' => e' = .returned (.bool (nearE x y)) ∧ Below w.heap.size w w' := by
  obtain ⟨g2, HG2⟩ : ∃ g, Hid (w.heap.size = g) := ⟨_, Lib.hid rfl⟩
  obtain ⟨g3, HG3⟩ : ∃ g, Hid (g2 + 1 = g) := ⟨_, Lib.hid rfl⟩
  obtain ⟨W1, HW1⟩ : ∃ W, Hid (W = w.alloc (.cells #[.int .i64 x.t, .int .i64 x.m, .int .i64 x.k, .int .i64 x.s, .int .i64 x.v, .int .i64 x.si, .int .i64 x.c, .slice x.A x.n x.d] TE)) := ⟨_, Lib.hid rfl⟩
  obtain ⟨W2, HW2⟩ : ∃ W, Hid (W = W1.alloc (.cells #[.int .i64 y.t, .int .i64 y.m, .int .i64 y.k, .int .i64 y.s, .int .i64 y.v, .int .i64 y.si, .int .i64 y.c, .slice y.A y.n y.d] TE)) := ⟨_, Lib.hid rfl⟩
  have n1 : Below w.heap.size w W1 := by rw [HW1.out]; exact bel_new _ _
  have n2 : Below W1.heap.size W1 W2 := by rw [HW2.out]; exact bel_new _ _
  have s1 : W1.heap.size = g3 := by rw [HW1.out, ← HG3.out, ← HG2.out]; simp
  have HB2 := Lib.hid (n1.trans (n2.mono n1.size))
  have HO2 : Hid (Obj1 W2 g2 TE #[.int .i64 x.t, .int .i64 x.m, .int .i64 x.k, .int .i64 x.s, .int .i64 x.v, .int .i64 x.si, .int .i64 x.c, .slice x.A x.n x.d]) := Lib.hid ((show Obj1 W1 g2 TE _ by rw [HW1.out, ← HG2.out]; exact Obj1.new _ _ _).kept n2)
  have HO3 : Hid (Obj1 W2 g3 TE #[.int .i64 y.t, .int .i64 y.m, .int .i64 y.k, .int .i64 y.s, .int .i64 y.v, .int .i64 y.si, .int .i64 y.c, .slice y.A y.n y.d]) := Lib.hid (by rw [HW2.out, ← s1]; exact Obj1.new _ _ _)
  have a3 : W2.cell? ⟨g2, 3, none⟩ = some (.int .i64 x.s) := HO2.out.cell 3
  have a4 : W2.cell? ⟨g2, 4, none⟩ = some (.int .i64 x.v) := HO2.out.cell 4
  have a5 : W2.cell? ⟨g2, 5, none⟩ = some (.int .i64 x.si) := HO2.out.cell 5
  have b3 : W2.cell? ⟨g3, 3, none⟩ = some (.int .i64 y.s) := HO3.out.cell 3
  have b4 : W2.cell? ⟨g3, 4, none⟩ = some (.int .i64 y.v) := HO3.out.cell 4
  have b5 : W2.cell? ⟨g3, 5, none⟩ = some (.int .i64 y.si) := HO3.out.cell 5
  have e1 : IntKind.i64.wrap (x.si - y.si) = x.si - y.si := IntWalk.i64_in _ (by omega)
  have e2 : IntKind.i64.wrap (y.si - x.si) = y.si - x.si := IntWalk.i64_in _ (by omega)
  rw [nearE_is]
  obtain ⟨p, hp⟩ : ∃ p, (x.s == y.s) = p := ⟨_, rfl⟩
  obtain ⟨q, hq⟩ : ∃ q, (x.v == y.v) = q := ⟨_, rfl⟩
  obtain ⟨d1, hd1⟩ : ∃ d, x.si - y.si = d := ⟨_, rfl⟩
  obtain ⟨d2, hd2⟩ : ∃ d, y.si - x.si = d := ⟨_, rfl⟩
  rw [hd1] at e1
  rw [hd2] at e2
  rw [hp, hq, hd1, hd2]
  clear n1 n2 s1 hx hy
  cases p with
  | false =>
    go_enter Tryd.func32, Tryd.ntmps32
    go_upto_region 1 with (fail)
    rw [← HW1.out, HG2.out, HG3.out, ← HW2.out]
    clear HW1 HW2
    go_wp2
    go_ret
    exact ⟨by simp, HB2.out⟩
  | true =>
    cases q with
    | false =>
      go_enter Tryd.func32, Tryd.ntmps32
      go_upto_region 1 with (fail)
      rw [← HW1.out, HG2.out, HG3.out, ← HW2.out]
      clear HW1 HW2
      go_wp2
      go_ret
      exact ⟨by simp, HB2.out⟩
    | true =>
      by_cases c1 : d1 ≤ 100
      · by_cases c2 : d2 ≤ 100
        · go_enter Tryd.func32, Tryd.ntmps32
          go_upto_region 1 with (fail)
          rw [← HW1.out, HG2.out, HG3.out, ← HW2.out]
          clear HW1 HW2
          go_wp2
          go_ret
          exact ⟨by first | (simp [c1, c2]; done) | (simp; omega), HB2.out⟩
        · go_enter Tryd.func32, Tryd.ntmps32
          go_upto_region 1 with (fail)
          rw [← HW1.out, HG2.out, HG3.out, ← HW2.out]
          clear HW1 HW2
          go_wp2
          go_ret
          exact ⟨by first | (simp [c1, c2]; done) | (simp; omega), HB2.out⟩
      · go_enter Tryd.func32, Tryd.ntmps32
        go_upto_region 1 with (fail)
        rw [← HW1.out, HG2.out, HG3.out, ← HW2.out]
        clear HW1 HW2
        go_wp2
        go_ret
        exact ⟨by first | (simp [c1]; done) | (simp; omega), HB2.out⟩
theorem take_eq {l m : List Int} {k : Nat} {x y : Int} (hx : l[k]? = some x) (hy : m[k]? = some y) (h : l.take k = m.take k) (e : x = y) : l.take (k + 1) = m.take (k + 1) := by
  rw [List.take_add_one, List.take_add_one, h, hx, hy, e]
set_option maxRecDepth 100000 in
set_option maxHeartbeats 2000000 in
theorem numbers_any (A : Option Addr) (n c : Nat) (l : List Int) (B : Option Addr) (m d : Nat) (ks : List Int) (w : World) (hl : Lst w A n (l.map iV)) (hk : Lst w B m (ks.map iV)) (hn : n ≤ 100000) :
    Calls Tryd.prog 36 #[.slice A n c, .slice B m d] w fun e' w' => e' = .returned (.bool (decide (l = ks))) ∧ Below w.heap.size w w' := by
  have HL := Lib.hid hl
  have HK := Lib.hid hk
  have HLN : Hid (l.length = n) := Lib.hid (by have := hl.1; simpa using this)
  have HKN : Hid (ks.length = m) := Lib.hid (by have := hk.1; simpa using this)
  obtain ⟨Q, HQ⟩ : ∃ Q, Hid (decide (l = ks) = Q) := ⟨_, Lib.hid rfl⟩
  rw [HQ.out]
  clear hl hk
  by_cases hnm : n = m
  · subst hnm
    go_enter Tryd.func36, Tryd.ntmps36
    go_wp2_with fail
    go_loopw [5] (fun i wx => ∃ k : Nat, k ≤ n ∧ i = .int .i64 k ∧ Hid (l.take k = ks.take k) ∧ Below w.heap.size w wx) (fun i _ => n - (intOf i).toNat)
    case atStart => exact ⟨0, by omega, rfl, Lib.hid rfl, Below.refl _ _⟩
    case round =>
      obtain ⟨k, hk, rfl, HT, hbk⟩ := hrel
      have HBK := Lib.hid hbk
      by_cases hlt : k < n
      · have hki : (k : Int) < (n : Int) := by omega
        have hk0 : (0 : Int) ≤ (k : Int) := by omega
        obtain ⟨b, off, rfl, _, hc⟩ := (HL.out.kept hbk).get hlt
        obtain ⟨b', off', rfl, _, hc'⟩ := (HK.out.kept hbk).get hlt
        rw [List.getElem_map] at hc hc'
        have hkl : k < l.length := by rw [HLN.out]; exact hlt
        have hkk : k < ks.length := by rw [HKN.out]; exact hlt
        obtain ⟨x, hx⟩ : ∃ x, l[k]'hkl = x := ⟨_, rfl⟩
        obtain ⟨y, hy⟩ : ∃ y, ks[k]'hkk = y := ⟨_, rfl⟩
        rw [hx] at hc
        rw [hy] at hc'
        have hx' : l[k]? = some x := by rw [List.getElem?_eq_getElem hkl, hx]
        have hy' : ks[k]? = some y := by rw [List.getElem?_eq_getElem hkk, hy]
        have e0 : IntKind.i64.wrap ((k : Int) + 1) = (k : Int) + 1 := IntWalk.i64_in _ (by omega)
        by_cases hxy : x = y
        · have HT2 := Lib.hid (take_eq hx' hy' HT.out hxy)
          subst hxy
          clear hx hy hx' hy' hkl hkk hbk
          go_upto_region 6 with (fail)
          refine wp_region_quiet_lit (by kernel_rfl) (by kernel_rfl) ?_
          repeat (go_big_quiet_step (fail))
          refine wpQuiet_nil ?_
          intro _ hw'
          obtain ⟨nq, hw''⟩ := hw'
          subst hw''
          go_wp2
          go_roundw
          case rel => exact ⟨k + 1, by omega, by go_num, HT2, below_drewN' HBK.out _⟩
          case measure => simp [intOf]; omega
        · have hb : (x == y) = false := by simpa using hxy
          have hb' : (x != y) = true := by simpa using hxy
          have HF : Hid (Q = false) := Lib.hid (by rw [← HQ.out]; exact decide_eq_false (fun h => hxy (by rw [h] at hx'; exact Option.some.inj (hx'.symm.trans hy'))))
          clear hx hy hx' hy' hkl hkk hbk hxy
          go_upto_region 6 with (fail)
          refine wp_region_quiet_lit (by kernel_rfl) (by kernel_rfl) ?_
          repeat (go_big_quiet_step (fail))
          refine wpQuiet_nil ?_
          intro _ hw'
          obtain ⟨nq, hw''⟩ := hw'
          subst hw''
          go_wp2
          go_ret
          exact ⟨by rw [HF.out]; rfl, below_drewN' HBK.out _⟩
      · have hje : k = n := by omega
        subst hje
        have HF : Hid (Q = true) := Lib.hid (by
          rw [← HQ.out]
          refine decide_eq_true ?_
          have := HT.out
          rwa [List.take_of_length_le (by rw [HLN.out]; exact Nat.le_refl _), List.take_of_length_le (by rw [HKN.out]; exact Nat.le_refl _)] at this)
        go_wp2
        go_ret
        exact ⟨by rw [HF.out]; rfl, HBK.out⟩
  · have hb : ((n : Int) == (m : Int)) = false := by
      have : (n : Int) ≠ (m : Int) := by omega
      simpa using this
    have hb' : ((n : Int) != (m : Int)) = true := by
      have : (n : Int) ≠ (m : Int) := by omega
      simpa using this
    have HF : Hid (Q = false) := Lib.hid (by rw [← HQ.out]; exact decide_eq_false (fun h => hnm (by rw [← HLN.out, ← HKN.out, h])))
    clear hnm
    go_enter Tryd.func36, Tryd.ntmps36
    go_wp2
    go_ret
    exact ⟨by rw [HF.out]; rfl, Below.refl _ _⟩
end Go.Proofs.YtanhblokhcaoiaaDoor.Tr
