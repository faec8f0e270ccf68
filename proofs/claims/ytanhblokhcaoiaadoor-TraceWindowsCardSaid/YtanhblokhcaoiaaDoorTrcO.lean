/- Layer 28's 'one': a message that two took; no condition but that the library's tables are laid. -/
import Derived.Test.YtanhblokhcaoiaaDoorTrcN
namespace Go.Proofs.YtanhblokhcaoiaaDoor.Tr
open Go.ChangeShapes Go.WideShapes Go.ChangeAt Go.RowKit Base Go.Maps
open Hl (Ev TE TI EvsAt evL evC)
set_option linter.unusedVariables false
set_option linter.unusedSimpArgs false

abbrev e0 (g1 : Nat) : Ev := ⟨500, 2, 2, 1, 0, 500, 0, some ⟨g1, 0, none⟩, 1, 1⟩
abbrev e1 (g2 : Nat) : Ev := ⟨0, 1, 2, 1, 0, 502, 0, some ⟨g2, 0, none⟩, 1, 1⟩
abbrev e2 : Ev := ⟨0, 3, 3, 1, 0, 600, 0, none, 0, 0⟩
abbrev l3 (g1 g2 : Nat) : List EW := [(e0 g1, [7]), (e1 g2, [7]), (e2, [])]
theorem run3 (g1 g2 : Nat) : (runP (l3 g1 g2)).2 = [⟨1, 0, 500, 0, [], [1, 2], [3], [7]⟩] := by kernel_rfl
theorem al3 (g1 g2 : Nat) : al [] (fun _ => none) (l3 g1 g2) = true := by kernel_rfl
theorem cnt3 (g1 g2 : Nat) : Hl.cnt 2 [e0 g1, e1 g2, e2] = 2 := by kernel_rfl
theorem agrA : agr [1, 2] [3] [1, 3] = false := by kernel_rfl
theorem agrB : agr [1, 2] [3] [1, 2] = true := by kernel_rfl
theorem txt3 (g1 : Nat) : teT (e0 g1) [7] = [53, 48, 48, 32, 50, 32, 116, 111, 111, 107, 32, 49, 32, 48, 32, 48, 32, 48, 55] := by
  show Lib.join ([Lib.itoa 500, Lib.itoa 2, nmT 2, Lib.itoa 1, Lib.itoa 0, Lib.itoa 0] ++ [hxT [7]]) [32] = _
  first | kernel_rfl | decide +kernel
theorem evs3 {w : World} {g1 g2 g3 : Nat} (h : Obj1 w g3 TE #[.int .i64 500, .int .i64 2, .int .i64 2, .int .i64 1, .int .i64 0, .int .i64 500, .int .i64 0, .slice (some ⟨g1, 0, none⟩) 1 1, .int .i64 0, .int .i64 1, .int .i64 2, .int .i64 1, .int .i64 0, .int .i64 502, .int .i64 0, .slice (some ⟨g2, 0, none⟩) 1 1, .int .i64 0, .int .i64 3, .int .i64 3, .int .i64 1, .int .i64 0, .int .i64 600, .int .i64 0, .slice none 0 0]) : EvsAt w (some ⟨g3, 0, none⟩) 3 [e0 g1, e1 g2, e2] where
  len := rfl
  at' := fun _ => ⟨g3, 0, rfl, h.lt, fun i x hx j hj => by
    rw [h.cell, ← Hl.evC_at _ i j x hx hj, Nat.zero_add, show (#[.int .i64 500, .int .i64 2, .int .i64 2, .int .i64 1, .int .i64 0, .int .i64 500, .int .i64 0, .slice (some ⟨g1, 0, none⟩) 1 1, .int .i64 0, .int .i64 1, .int .i64 2, .int .i64 1, .int .i64 0, .int .i64 502, .int .i64 0, .slice (some ⟨g2, 0, none⟩) 1 1, .int .i64 0, .int .i64 3, .int .i64 3, .int .i64 1, .int .i64 0, .int .i64 600, .int .i64 0, .slice none 0 0] : Array Value) = (evC [e0 g1, e1 g2, e2]).toArray from rfl, List.getElem?_toArray]⟩
set_option maxRecDepth 100000 in
set_option maxHeartbeats 8000000 in
theorem one28 (w : World) (hU : Txt.Lf w) : Calls Tryd.prog 31 #[] w fun e' w' => e' = .returned (.bool true) ∧ Below w.heap.size w w' := by
  obtain ⟨g1, HG1⟩ : ∃ g, Hid (w.heap.size = g) := ⟨_, Lib.hid rfl⟩
  obtain ⟨g2, HG2⟩ : ∃ g, Hid (g1 + 1 = g) := ⟨_, Lib.hid rfl⟩
  obtain ⟨g3, HG3⟩ : ∃ g, Hid (g2 + 1 = g) := ⟨_, Lib.hid rfl⟩
  obtain ⟨W1, HW1⟩ : ∃ W, Hid (W = w.alloc (.cells #[.int .u8 7] TU8)) := ⟨_, Lib.hid rfl⟩
  obtain ⟨W2, HW2⟩ : ∃ W, Hid (W = W1.alloc (.cells #[.int .u8 7] TU8)) := ⟨_, Lib.hid rfl⟩
  obtain ⟨W3, HW3⟩ : ∃ W, Hid (W = W2.alloc (.cells #[.int .i64 500, .int .i64 2, .int .i64 2, .int .i64 1, .int .i64 0, .int .i64 500, .int .i64 0, .slice (some ⟨g1, 0, none⟩) 1 1, .int .i64 0, .int .i64 1, .int .i64 2, .int .i64 1, .int .i64 0, .int .i64 502, .int .i64 0, .slice (some ⟨g2, 0, none⟩) 1 1, .int .i64 0, .int .i64 3, .int .i64 3, .int .i64 1, .int .i64 0, .int .i64 600, .int .i64 0, .slice none 0 0] TE)) := ⟨_, Lib.hid rfl⟩
  have n1 : Below w.heap.size w W1 := by rw [HW1.out]; exact bel_new _ _
  have n2 : Below W1.heap.size W1 W2 := by rw [HW2.out]; exact bel_new _ _
  have n3 : Below W2.heap.size W2 W3 := by rw [HW3.out]; exact bel_new _ _
  have s1 : W1.heap.size = g2 := by rw [HW1.out, ← HG2.out, ← HG1.out]; simp
  have s2 : W2.heap.size = g3 := by rw [HW2.out, ← HG3.out, ← s1]; simp
  have b2 : Below w.heap.size w W2 := n1.trans (n2.mono n1.size)
  have hb3 : Below w.heap.size w W3 := b2.trans (n3.mono b2.size)
  have HO3 : Hid (Obj1 W3 g3 TE #[.int .i64 500, .int .i64 2, .int .i64 2, .int .i64 1, .int .i64 0, .int .i64 500, .int .i64 0, .slice (some ⟨g1, 0, none⟩) 1 1, .int .i64 0, .int .i64 1, .int .i64 2, .int .i64 1, .int .i64 0, .int .i64 502, .int .i64 0, .slice (some ⟨g2, 0, none⟩) 1 1, .int .i64 0, .int .i64 3, .int .i64 3, .int .i64 1, .int .i64 0, .int .i64 600, .int .i64 0, .slice none 0 0]) := Lib.hid (by rw [HW3.out, ← s2]; exact Obj1.new _ _ _)
  have HA : Hid (Obj1 W3 g1 TU8 #[.int .u8 7]) := Lib.hid (((show Obj1 W1 g1 TU8 _ by rw [HW1.out, ← HG1.out]; exact Obj1.new _ _ _).kept n2).kept n3)
  have HB : Hid (Obj1 W3 g2 TU8 #[.int .u8 7]) := Lib.hid ((show Obj1 W2 g2 TU8 _ by rw [HW2.out, ← s1]; exact Obj1.new _ _ _).kept n3)
  have HB3 := Lib.hid hb3
  have HUL := Lib.hid hU
  have HLW : Hid (∀ W, Below W3.heap.size W3 W → ∀ a ∈ l3 g1 g2, Lst W a.1.A a.1.n (a.2.map bV) ∧ a.1.n ≤ 140737488351232) := Lib.hid (fun W hW a ha => by
    have one : ∀ g, Obj1 W g TU8 #[.int .u8 7] → Lst W (some ⟨g, 0, none⟩) 1 [.int .u8 7] := fun g hg => ⟨rfl, fun _ => ⟨g, 0, rfl, hg.lt, fun k hk => by
      obtain rfl : k = 0 := by omega
      exact hg.cell 0⟩⟩
    simp only [List.mem_cons, List.not_mem_nil, or_false] at ha
    rcases ha with rfl | rfl | rfl
    · exact ⟨one g1 (HA.out.kept hW), by show (1 : Nat) ≤ 140737488351232; omega⟩
    · exact ⟨one g2 (HB.out.kept hW), by show (1 : Nat) ≤ 140737488351232; omega⟩
    · exact ⟨⟨rfl, fun h => absurd h (Nat.lt_irrefl _)⟩, by show (0 : Nat) ≤ 140737488351232; omega⟩)
  have HOK : Hid (∀ a ∈ l3 g1 g2, isM a.1.k = true → EvOk a.1) := Lib.hid (fun a ha _ => by
    simp only [List.mem_cons, List.not_mem_nil, or_false] at ha
    rcases ha with rfl | rfl | rfl
    · exact ⟨(by decide : (-9223372036854775808 : Int) ≤ 1 ∧ (1 : Int) ≤ 9223372036854775807), (by decide : (-9223372036854775808 : Int) ≤ 0 ∧ (0 : Int) ≤ 9223372036854775807), (by decide : (0 : Int) ≤ 500), (by decide : (500 : Int) ≤ 1099511627776)⟩
    · exact ⟨(by decide : (-9223372036854775808 : Int) ≤ 1 ∧ (1 : Int) ≤ 9223372036854775807), (by decide : (-9223372036854775808 : Int) ≤ 0 ∧ (0 : Int) ≤ 9223372036854775807), (by decide : (0 : Int) ≤ 502), (by decide : (502 : Int) ≤ 1099511627776)⟩
    · exact ⟨(by decide : (-9223372036854775808 : Int) ≤ 1 ∧ (1 : Int) ≤ 9223372036854775807), (by decide : (-9223372036854775808 : Int) ≤ 0 ∧ (0 : Int) ≤ 9223372036854775807), (by decide : (0 : Int) ≤ 600), (by decide : (600 : Int) ≤ 1099511627776)⟩)
  have HVS : Hid (∀ a ∈ l3 g1 g2, ∀ y ∈ a.2, y < 256) := Lib.hid (fun a ha y hy => by
    simp only [List.mem_cons, List.not_mem_nil, or_false] at ha
    rcases ha with rfl | rfl | rfl <;> simp at hy <;> omega)
  have HWI := Lib.hid (windows_any (some ⟨g3, 0, none⟩) 3 3 (l3 g1 g2) W3 (evs3 HO3.out) (HLW.out W3 (Below.refl _ _)) HOK.out (by omega))
  clear n1 n2 n3 s1 s2 b2 hb3 hU
  go_enter Tryd.func31, Tryd.ntmps31
  go_upto_region 2 with (fail)
  --F1
  rw [← HW1.out, HG1.out, HG2.out, ← HW2.out, HG3.out, ← HW3.out]
  clear HW1 HW2 HW3 HG1 HG2 HG3
  go_wp2_with fail
  refine HWI.out.mono ?_
  rintro e' w4 ⟨RV, l, rfl, h1, h2, h3⟩
  rw [run3] at h2
  obtain ⟨x, rfl, hxp⟩ : ∃ x : Wm, l = [x] ∧ x.p = ⟨1, 0, 500, 0, [], [1, 2], [3], [7]⟩ := by
    match l, h2 with
    | [], h2 => cases h2
    | [x], h2 => exact ⟨x, rfl, by simpa using h2⟩
    | _ :: _ :: _, h2 => simp at h2
  obtain ⟨RA, rc, rfl⟩ := row_sl h1.own
  obtain ⟨b, rfl⟩ := row_someN h1.own (by show 0 < 1; omega)
  have et : subL x 1 = [1, 2].map iV := by show x.p.ts.map iV = _; rw [hxp]
  have em : subL x 2 = [3].map iV := by show x.p.ms.map iV = _; rw [hxp]
  have ht : w4.ownsRow W3.heap.size TI 1 x.tv 2 ([1, 2].map iV) := by
    have h := h1.row 0 x rfl 1 (by omega)
    unfold rowOk at h
    rw [et] at h
    exact h
  have hm : w4.ownsRow W3.heap.size TI 1 x.mv 1 ([3].map iV) := by
    have h := h1.row 0 x rfl 2 (by omega)
    unfold rowOk at h
    rw [em] at h
    exact h
  obtain ⟨tA, tc, e1', _, ht2⟩ := row_lst ht
  obtain ⟨mA, mc, e2', _, hm2⟩ := row_lst hm
  obtain ⟨tb, toff, htA, _, htc⟩ := ht2.2 (by omega)
  have t0 : w4.cell? ⟨tb, toff, none⟩ = some (.int .i64 1) := htc 0 (by omega)
  rw [htA] at e1' ht2
  clear htc htA
  have HT := Lib.hid ht2
  have HM := Lib.hid hm2
  obtain ⟨sv, HSV⟩ : ∃ v, x.sv = v := ⟨_, rfl⟩
  obtain ⟨wv, HWV⟩ : ∃ v, x.wv = v := ⟨_, rfl⟩
  have hL : wmL x = [.int .i64 1, .int .i64 0, .int .i64 500, sv, .slice (some ⟨tb, toff, none⟩) 2 tc, .slice mA 1 mc, .int .i64 0, wv] := by
    unfold wmL
    rw [hxp, HSV, HWV, e1', e2']
  have HCW : Hid (∀ (W : World), Below w4.heap.size w4 W → ∀ (j : Nat) (v : Value), ([.int .i64 1, .int .i64 0, .int .i64 500, sv, .slice (some ⟨tb, toff, none⟩) 2 tc, .slice mA 1 mc, .int .i64 0, wv] : List Value)[j]? = some v → W.cell? ⟨b, j, none⟩ = some v) := Lib.hid (fun W hW j v hv => by
    have hj : j < 8 := (List.getElem?_eq_some_iff.1 hv).1
    have hc := (cellW h1.own (i := 0) (x := x) rfl hj (v := v) (by rw [hL]; exact hv)).1
    rw [Nat.zero_mul, Nat.zero_add] at hc
    exact (hW.cell (p := ⟨b, j, none⟩) (World.block_lt_of_cell? w4 _ hc)).trans hc)
  have HB4 := Lib.hid h3
  clear h1 h2 ht hm e1' e2' et em ht2 hm2 HSV HWV hL hxp HWI
  have HAL := Lib.hid (alike_any (some ⟨g3, 0, none⟩) 3 3 (l3 g1 g2) w4 ((evs3 HO3.out).kept h3) (HLW.out w4 h3) HVS.out HOK.out (by omega))
  rw [al3] at HAL
  have HB34 : Hid (Below W3.heap.size W3 w4) := Lib.hid h3
  clear h3
  have HX := Lib.hid (HCW.out w4 (Below.refl _ _))
  have c0 : w4.cell? ⟨b, 0, none⟩ = some (.int .i64 1) := HX.out 0 _ rfl
  have c1 : w4.cell? ⟨b, 1, none⟩ = some (.int .i64 0) := HX.out 1 _ rfl
  have c2 : w4.cell? ⟨b, 2, none⟩ = some (.int .i64 500) := HX.out 2 _ rfl
  have c3 : w4.cell? ⟨b, 3, none⟩ = some (sv) := HX.out 3 _ rfl
  have c4 : w4.cell? ⟨b, 4, none⟩ = some (.slice (some ⟨tb, toff, none⟩) 2 tc) := HX.out 4 _ rfl
  have c5 : w4.cell? ⟨b, 5, none⟩ = some (.slice mA 1 mc) := HX.out 5 _ rfl
  have c6 : w4.cell? ⟨b, 6, none⟩ = some (.int .i64 0) := HX.out 6 _ rfl
  have c7 : w4.cell? ⟨b, 7, none⟩ = some (wv) := HX.out 7 _ rfl
  go_wp2_with fail
  --F2
  refine HAL.out.mono ?_
  rintro e' w5 ⟨rfl, hb5⟩
  have HB5 : Hid (Below W3.heap.size W3 w5) := Lib.hid (HB34.out.trans (hb5.mono HB34.out.size))
  have HT5 := Lib.hid (HT.out.kept hb5)
  have HM5 := Lib.hid (HM.out.kept hb5)
  have HX5 := Lib.hid (HCW.out w5 hb5)
  have HB45 : Hid (Below w4.heap.size w4 w5) := Lib.hid hb5
  clear c0 c1 c2 c3 c4 c5 c6 c7 t0 hb5 HAL HX
  have c0 : w5.cell? ⟨b, 0, none⟩ = some (.int .i64 1) := HX5.out 0 _ rfl
  have c1 : w5.cell? ⟨b, 1, none⟩ = some (.int .i64 0) := HX5.out 1 _ rfl
  have c2 : w5.cell? ⟨b, 2, none⟩ = some (.int .i64 500) := HX5.out 2 _ rfl
  have c3 : w5.cell? ⟨b, 3, none⟩ = some (sv) := HX5.out 3 _ rfl
  have c4 : w5.cell? ⟨b, 4, none⟩ = some (.slice (some ⟨tb, toff, none⟩) 2 tc) := HX5.out 4 _ rfl
  have c5 : w5.cell? ⟨b, 5, none⟩ = some (.slice mA 1 mc) := HX5.out 5 _ rfl
  have c6 : w5.cell? ⟨b, 6, none⟩ = some (.int .i64 0) := HX5.out 6 _ rfl
  have c7 : w5.cell? ⟨b, 7, none⟩ = some (wv) := HX5.out 7 _ rfl
  obtain ⟨ga, HGA⟩ : ∃ g, Hid (w5.heap.size = g) := ⟨_, Lib.hid rfl⟩
  obtain ⟨WA, HWA⟩ : ∃ W, Hid (W = w5.alloc (.cells #[.int .i64 1, .int .i64 3] TI)) := ⟨_, Lib.hid rfl⟩
  have hba : Below w5.heap.size w5 WA := by rw [HWA.out]; exact bel_new _ _
  have HLA : Hid (Lst WA (some ⟨ga, 0, none⟩) 2 ([1, 3].map iV)) := Lib.hid (by rw [HWA.out, ← HGA.out]; exact lst_row w5 TI [.int .i64 1, .int .i64 3])
  have HAG := Lib.hid (agreed_any 1 0 500 0 sv wv (some ⟨tb, toff, none⟩) 2 tc [1, 2] mA 1 mc [3] (some ⟨ga, 0, none⟩) 2 2 [1, 3] WA (HT5.out.kept hba) (HM5.out.kept hba) HLA.out (by omega) (by omega) (by omega))
  rw [agrA] at HAG
  have HB5A : Hid (Below W3.heap.size W3 WA) := Lib.hid (HB5.out.trans (hba.mono HB5.out.size))
  have HB4A : Hid (Below w4.heap.size w4 WA) := Lib.hid (HB45.out.trans (hba.mono HB45.out.size))
  clear hba
  go_wp2_with fail
  rw [← HWA.out, HGA.out]
  refine HAG.out.mono ?_
  rintro e' w6 ⟨rfl, hb6⟩
  have HB6 : Hid (Below W3.heap.size W3 w6) := Lib.hid (HB5A.out.trans (hb6.mono HB5A.out.size))
  have HB46 : Hid (Below w4.heap.size w4 w6) := Lib.hid (HB4A.out.trans (hb6.mono HB4A.out.size))
  have HX6 := Lib.hid (HCW.out w6 HB46.out)
  clear c0 c1 c2 c3 c4 c5 c6 c7 hb6 HAG HX5 HWA HGA
  have c0 : w6.cell? ⟨b, 0, none⟩ = some (.int .i64 1) := HX6.out 0 _ rfl
  have c1 : w6.cell? ⟨b, 1, none⟩ = some (.int .i64 0) := HX6.out 1 _ rfl
  have c2 : w6.cell? ⟨b, 2, none⟩ = some (.int .i64 500) := HX6.out 2 _ rfl
  have c3 : w6.cell? ⟨b, 3, none⟩ = some (sv) := HX6.out 3 _ rfl
  have c4 : w6.cell? ⟨b, 4, none⟩ = some (.slice (some ⟨tb, toff, none⟩) 2 tc) := HX6.out 4 _ rfl
  have c5 : w6.cell? ⟨b, 5, none⟩ = some (.slice mA 1 mc) := HX6.out 5 _ rfl
  have c6 : w6.cell? ⟨b, 6, none⟩ = some (.int .i64 0) := HX6.out 6 _ rfl
  have c7 : w6.cell? ⟨b, 7, none⟩ = some (wv) := HX6.out 7 _ rfl
  obtain ⟨gc, HGA⟩ : ∃ g, Hid (w6.heap.size = g) := ⟨_, Lib.hid rfl⟩
  obtain ⟨WC, HWA⟩ : ∃ W, Hid (W = w6.alloc (.cells #[.int .i64 1, .int .i64 2] TI)) := ⟨_, Lib.hid rfl⟩
  have hba : Below w6.heap.size w6 WC := by rw [HWA.out]; exact bel_new _ _
  have HLC : Hid (Lst WC (some ⟨gc, 0, none⟩) 2 ([1, 2].map iV)) := Lib.hid (by rw [HWA.out, ← HGA.out]; exact lst_row w6 TI [.int .i64 1, .int .i64 2])
  have hb4c : Below w4.heap.size w4 WC := HB46.out.trans (hba.mono HB46.out.size)
  have HAG := Lib.hid (agreed_any 1 0 500 0 sv wv (some ⟨tb, toff, none⟩) 2 tc [1, 2] mA 1 mc [3] (some ⟨gc, 0, none⟩) 2 2 [1, 2] WC (HT.out.kept hb4c) (HM.out.kept hb4c) HLC.out (by omega) (by omega) (by omega))
  rw [agrB] at HAG
  have HB6C : Hid (Below W3.heap.size W3 WC) := Lib.hid (HB6.out.trans (hba.mono HB6.out.size))
  clear hba hb4c
  go_wp2_with fail
  rw [← HWA.out, HGA.out]
  refine HAG.out.mono ?_
  rintro e' w7 ⟨rfl, hb7⟩
  have HB7 : Hid (Below W3.heap.size W3 w7) := Lib.hid (HB6C.out.trans (hb7.mono HB6C.out.size))
  clear c0 c1 c2 c3 c4 c5 c6 c7 hb7 HAG HX6 HWA HGA
  have HO7 := Lib.hid (HO3.out.kept HB7.out)
  have k0 : w7.cell? ⟨g3, 0, none⟩ = some (.int .i64 500) := HO7.out.cell 0
  have k1 : w7.cell? ⟨g3, 1, none⟩ = some (.int .i64 2) := HO7.out.cell 1
  have k2 : w7.cell? ⟨g3, 2, none⟩ = some (.int .i64 2) := HO7.out.cell 2
  have k3 : w7.cell? ⟨g3, 3, none⟩ = some (.int .i64 1) := HO7.out.cell 3
  have k4 : w7.cell? ⟨g3, 4, none⟩ = some (.int .i64 0) := HO7.out.cell 4
  have k5 : w7.cell? ⟨g3, 5, none⟩ = some (.int .i64 500) := HO7.out.cell 5
  have k6 : w7.cell? ⟨g3, 6, none⟩ = some (.int .i64 0) := HO7.out.cell 6
  have k7 : w7.cell? ⟨g3, 7, none⟩ = some (.slice (some ⟨g1, 0, none⟩) 1 1) := HO7.out.cell 7
  have HTX := Lib.hid (text_any (e0 g1) [7] w7 (HUL.out.kept (HB3.out.trans (HB7.out.mono HB3.out.size))) (HLW.out w7 HB7.out _ (List.mem_cons_self ..)).1 (by intro y hy; simp at hy; omega) (by show (1 : Nat) ≤ 100; omega) ⟨(by decide : (-9223372036854775808 : Int) ≤ 500 ∧ (500 : Int) ≤ 9223372036854775807), (by decide : (-9223372036854775808 : Int) ≤ 2 ∧ (2 : Int) ≤ 9223372036854775807), (by decide : (-9223372036854775808 : Int) ≤ 1 ∧ (1 : Int) ≤ 9223372036854775807), (by decide : (-9223372036854775808 : Int) ≤ 0 ∧ (0 : Int) ≤ 9223372036854775807), (by decide : (-9223372036854775808 : Int) ≤ 0 ∧ (0 : Int) ≤ 9223372036854775807)⟩)
  rw [txt3] at HTX
  go_wp2_with fail
  --F3
  refine HTX.out.mono ?_
  rintro e' w8 ⟨rfl, hb8⟩
  have HB8 : Hid (Below W3.heap.size W3 w8) := Lib.hid (HB7.out.trans (hb8.mono HB7.out.size))
  clear hb8 HTX k0 k1 k2 k3 k4 k5 k6 k7
  have HCT := Lib.hid (Hl.count_any (some ⟨g3, 0, none⟩) 3 3 [e0 g1, e1 g2, e2] 2 w8 ((evs3 HO3.out).kept HB8.out) (by omega))
  rw [cnt3] at HCT
  go_wp2_with fail
  refine HCT.out.mono ?_
  rintro e' w9 ⟨rfl, hb9⟩
  have HB9 : Hid (Below w.heap.size w w9) := Lib.hid (HB3.out.trans ((HB8.out.trans (hb9.mono HB8.out.size)).mono HB3.out.size))
  clear hb9 HCT
  go_wp2
  go_ret
  exact ⟨rfl, HB9.out⟩
end Go.Proofs.YtanhblokhcaoiaaDoor.Tr
