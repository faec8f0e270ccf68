/- What package valid's Window says of a window that is no message; the statements' own helper 'one' of layer 8. -/
import Derived.Test.YtkdmcnkahiimoaaVldC
namespace Go.Proofs.Ytkdmcnkahiimoaa.Ly7
open Go.ChangeShapes Go.WideShapes Go.ChangeAt Go.RowKit Base
set_option linter.unusedVariables false
set_option linter.unusedSimpArgs false

/-- The error of a gap or a short pulse. -/
def gapF (x : Wd) : Int := if x.k = 1 then (if x.b < 1 ∨ 100 < x.b then 3 else 0) else 0
theorem window_gap (x : Wd) (hk : x.k = 1) (md : Int) (w : World) : Calls Try.prog 23 #[.agg #[.int .i64 x.k, .int .i64 x.b, .int .i64 x.wd, .int .i64 x.ad, .slice x.A x.n x.c, .slice x.B x.m x.d], .int .i64 md] w fun e w' => e = .returned (.int .i64 (gapF x)) ∧ Below w.heap.size w w' := by
  rw [hk]
  obtain ⟨b, hb⟩ : ∃ b, x.b = b := ⟨_, rfl⟩
  have HG : Hid (gapF x = if b < 1 ∨ 100 < b then 3 else 0) := Lib.hid (by unfold gapF; rw [if_pos hk, hb])
  rw [hb]
  clear hk hb
  have HB1 : Hid (Below w.heap.size w (w.alloc (.cells #[.int .i64 1, .int .i64 b, .int .i64 x.wd, .int .i64 x.ad, .slice x.A x.n x.c, .slice x.B x.m x.d] 41))) := Lib.hid (bel1 _ _)
  by_cases h1 : b < 1
  · go_enter Try.func23, Try.ntmps23
    go_wp2
    go_ret
    exact ⟨by rw [HG.out, if_pos (.inl h1)]; rfl, HB1.out⟩
  · by_cases h2 : 100 < b
    · go_enter Try.func23, Try.ntmps23
      go_wp2
      go_ret
      exact ⟨by rw [HG.out, if_pos (.inr h2)]; rfl, HB1.out⟩
    · go_enter Try.func23, Try.ntmps23
      go_wp2
      go_ret
      exact ⟨by rw [HG.out, if_neg (by omega)]; rfl, HB1.out⟩
theorem window_short (x : Wd) (hk : x.k = 2) (md : Int) (w : World) : Calls Try.prog 23 #[.agg #[.int .i64 x.k, .int .i64 x.b, .int .i64 x.wd, .int .i64 x.ad, .slice x.A x.n x.c, .slice x.B x.m x.d], .int .i64 md] w fun e w' => e = .returned (.int .i64 0) ∧ Below w.heap.size w w' := by
  rw [hk]
  clear hk
  go_enter Try.func23, Try.ntmps23
  go_wp2
  go_ret
  exact ⟨rfl, bel1 _ _⟩
def wSh : Wd := ⟨2, 0, 0, 0, none, 0, 0, [], none, 0, 0, []⟩
def wGp (b : Int) : Wd := ⟨1, b, 0, 0, none, 0, 0, [], none, 0, 0, []⟩
theorem ok_sh (w : World) : wSh.Ok w := ⟨Lst.nil _ _, Lst.nil _ _, Nat.le_refl _, Nat.le_refl _, by unfold wSh; simp, by unfold wSh; simp⟩
theorem ok_gp (b : Int) (w : World) : (wGp b).Ok w := ⟨Lst.nil _ _, Lst.nil _ _, Nat.le_refl _, Nat.le_refl _, by unfold wGp; simp, by unfold wGp; simp⟩
theorem says_sh (md : Int) : Says gapF md [wSh] := fun x hx W _ => by
  obtain rfl := List.mem_singleton.1 hx
  exact window_short wSh rfl md W
theorem says_gp (md b : Int) : Says gapF md [wGp b] := fun x hx W _ => by
  obtain rfl := List.mem_singleton.1 hx
  exact window_gap (wGp b) rfl md W
theorem no_sh : FrNo gapF 0 [wSh] := by
  refine ⟨by simp, fun i y hy => ?_, by decide⟩
  have h := List.mem_of_getElem? hy
  obtain rfl := List.mem_singleton.1 h
  rfl
theorem no_gp : FrNo gapF 1 [wGp 100] := by
  refine ⟨by simp, fun i y hy => ?_, by decide⟩
  have h := List.mem_of_getElem? hy
  obtain rfl := List.mem_singleton.1 h
  rfl
theorem fr_no {f : Wd → Int} {ver : Nat} {ws : List Wd} (h : FrNo f ver ws) {j e : Int} : ¬ Fr f ver ws j e := by
  rintro (⟨h1, _⟩ | ⟨_, k, x, hx, _, hf, _⟩ | ⟨_, _, ⟨s, hs, h2⟩, _⟩)
  · have := h.1; omega
  · exact hf (h.2.1 k x hx)
  · have := h.2.2 s hs; omega
theorem chk_1 {v j e : Int} (h : Chk gapF 2 [wSh] [wGp 101] v j e) : v = 1 ∧ j = 0 ∧ e = 3 := by
  rcases h with ⟨h, _⟩ | ⟨_, ⟨h, _⟩ | ⟨_, h, hv⟩ | ⟨_, h, _⟩⟩
  · omega
  · exact absurd h (fr_no no_sh)
  · rcases h with ⟨h1, _⟩ | ⟨_, k, x, hx, _, hf, rfl, rfl⟩ | ⟨_, ha, _⟩
    · simp at h1
    · match k, hx with
      | 0, hx =>
        simp at hx
        subst hx
        exact ⟨hv, rfl, rfl⟩
      | k + 1, hx => simp at hx
    · have := ha 0 (wGp 101) rfl
      exact absurd this (by decide)
  · have := h.2.1 0 (wGp 101) rfl
    exact absurd this (by decide)
theorem chk_2 {v j e : Int} (h : Chk gapF 2 [wSh] [wGp 100] v j e) : v = 0 ∧ j = 0 ∧ e = 0 := by
  rcases h with ⟨h, _⟩ | ⟨_, ⟨h, _⟩ | ⟨_, h, hv⟩ | ⟨_, h, r⟩⟩
  · omega
  · exact absurd h (fr_no no_sh)
  · exact absurd h (fr_no no_gp)
  · exact r
theorem chk_3 {v j e : Int} (h : Chk gapF 1 [] [] v j e) : v = 0 ∧ j = -1 ∧ e = 2 := by
  rcases h with ⟨h, r⟩ | ⟨h, _⟩
  · exact r
  · omega
theorem wins_nil (w : World) : WinsAt w none 0 [] := ⟨rfl, fun h => absurd h (by omega), fun x hx => by cases hx⟩
theorem wins_one {w : World} {g : Nat} {T : TypeId} {x : Wd} (h : Obj1 w g T #[.int .i64 x.k, .int .i64 x.b, .int .i64 x.wd, .int .i64 x.ad, .slice x.A x.n x.c, .slice x.B x.m x.d]) (hok : x.Ok w) : WinsAt w (some ⟨g, 0, none⟩) 1 [x] :=
  ⟨rfl, fun _ => ⟨g, 0, rfl, h.lt, fun i hi j hj => by
    obtain rfl : i = 0 := by simpa using hi
    have := h.cell j
    rw [show 0 + 0 * 6 + j = j by omega]
    exact this⟩, fun y hy => by
    obtain rfl := List.mem_singleton.1 hy
    exact hok⟩
theorem fld_code (a b c : Value) (w : World) : (Instr.field TFl (.agg #[a, b, c]) 2).run Try.prog w = .ok c w := by first | rfl | kernel_rfl | (simp [Instr.field, go_sem])
set_option maxRecDepth 100000 in
set_option maxHeartbeats 1000000 in
theorem one8_any (w : World) : Calls Try.prog 25 #[] w fun e w' => e = .returned (.bool true) ∧ Below w.heap.size w w' := by
  go_enter Try.func25, Try.ntmps25
  go_upto_region 3 with (fail)
  obtain ⟨V1, HV1⟩ : ∃ V1, V1 = w.alloc (.cells #[.int .i64 1, .int .i64 101, .int .i64 0, .int .i64 0, .slice none 0 0, .slice none 0 0] 41) := ⟨_, rfl⟩
  rw [← HV1]
  have hs1 : V1.heap.size = w.heap.size + 1 := by rw [HV1]; simp
  obtain ⟨V2, HV2⟩ : ∃ V2, V2 = V1.alloc (.cells #[.int .i64 2, .int .i64 0, .int .i64 0, .int .i64 0, .slice none 0 0, .slice none 0 0] 41) := ⟨_, rfl⟩
  rw [← HV2]
  have hs2 : V2.heap.size = w.heap.size + 1 + 1 := by rw [HV2]; simp [hs1]
  obtain ⟨V3, HV3⟩ : ∃ V3, V3 = V2.alloc (.cells #[.int .i64 1, .int .i64 101, .int .i64 0, .int .i64 0, .slice none 0 0, .slice none 0 0] 41) := ⟨_, rfl⟩
  rw [← HV3]
  have hs3 : V3.heap.size = w.heap.size + 1 + 1 + 1 := by rw [HV3]; simp [hs2]
  obtain ⟨V4, HV4⟩ : ∃ V4, V4 = V3.alloc (.cells #[.int .i64 2, .slice (some ⟨w.heap.size + 1, 0, none⟩) 1 1, .slice (some ⟨w.heap.size + 1 + 1, 0, none⟩) 1 1] 25) := ⟨_, rfl⟩
  rw [← HV4]
  have hO1 : Obj1 V2 (w.heap.size + 1) 41 #[.int .i64 2, .int .i64 0, .int .i64 0, .int .i64 0, .slice none 0 0, .slice none 0 0] := by rw [← hs1, HV2]; exact Obj1.new _ _ _
  have hO2 : Obj1 V3 (w.heap.size + 1 + 1) 41 #[.int .i64 1, .int .i64 101, .int .i64 0, .int .i64 0, .slice none 0 0, .slice none 0 0] := by rw [← hs2, HV3]; exact Obj1.new _ _ _
  have hO3 : Obj1 V4 (w.heap.size + 1 + 1 + 1) 25 #[.int .i64 2, .slice (some ⟨w.heap.size + 1, 0, none⟩) 1 1, .slice (some ⟨w.heap.size + 1 + 1, 0, none⟩) 1 1] := by rw [← hs3, HV4]; exact Obj1.new _ _ _
  have b01 : Below w.heap.size w V1 := by rw [HV1]; exact bel1 _ _
  have b12 : Below V1.heap.size V1 V2 := by rw [HV2]; exact bel1 _ _
  have b23 : Below V2.heap.size V2 V3 := by rw [HV3]; exact bel1 _ _
  have b34 : Below V3.heap.size V3 V4 := by rw [HV4]; exact bel1 _ _
  have b24 : Below V2.heap.size V2 V4 := b23.trans (b34.mono b23.size)
  have b04 : Below w.heap.size w V4 := b01.trans ((b12.trans (b24.mono b12.size)).mono b01.size)
  have HO1 := Lib.hid (hO1.kept b24)
  have HO2 := Lib.hid (hO2.kept b34)
  have HB4 := Lib.hid b04
  obtain ⟨g1, HG1⟩ : ∃ g, w.heap.size + 1 = g := ⟨_, rfl⟩
  rw [HG1] at HO1 HO2 hO3 ⊢
  obtain ⟨g2, HG2⟩ : ∃ g, g1 + 1 = g := ⟨_, rfl⟩
  rw [HG2] at HO2 hO3 ⊢
  obtain ⟨g3, HG3⟩ : ∃ g, g2 + 1 = g := ⟨_, rfl⟩
  rw [HG3] at hO3 ⊢
  have HG := Lib.hid (show w.heap.size < g1 ∧ g1 < g2 ∧ g2 < g3 by omega)
  have HO3 := Lib.hid hO3
  clear HV1 HV2 HV3 HV4 hs1 hs2 hs3 hO1 hO2 hO3 b01 b12 b23 b34 b24 b04 HG1 HG2 HG3
  have HC1 := Lib.hid (check_any gapF 2 (some ⟨g1, 0, none⟩) 1 1 (some ⟨g2, 0, none⟩) 1 1 [wSh] [wGp 101] V4 (wins_one HO1.out (ok_sh _)) (wins_one HO2.out (ok_gp _ _)) (by omega) (by omega) (says_sh 2) (says_gp 2 101))
  have d0 := HO3.out.cell 0
  have d1 := HO3.out.cell 1
  have d2 := HO3.out.cell 2
  simp at d0 d1 d2
  go_wp2_with fail
  refine HC1.out.mono ?_
  rintro e w5 ⟨v, j, c, rfl, hc, hb5⟩
  obtain ⟨rfl, rfl, rfl⟩ := chk_1 hc
  have HO15 := Lib.hid (HO1.out.kept hb5)
  have HO25 := Lib.hid (HO2.out.kept hb5)
  have HO35 := Lib.hid (HO3.out.kept hb5)
  have HB5 := Lib.hid (HB4.out.trans (hb5.mono HB4.out.size))
  clear d0 d1 d2 HC1 hc hb5 HO1 HO2 HO3 HB4
  go_upto_region 4 with (fail)
  obtain ⟨g5, HG5⟩ : ∃ g, Hid (w5.heap.size = g) := ⟨_, Lib.hid rfl⟩
  obtain ⟨W6, HW6⟩ : ∃ W6, W6 = w5.alloc (.cells #[.int .i64 1, .int .i64 0, .int .i64 3] TFl) := ⟨_, rfl⟩
  have HB56 : Hid (Below w5.heap.size w5 W6) := Lib.hid (by rw [HW6]; exact bel1 _ _)
  have HO56 : Hid (Obj1 W6 g5 TFl #[.int .i64 1, .int .i64 0, .int .i64 3]) := Lib.hid (by rw [HW6, ← HG5.out]; exact Obj1.new _ _ _)
  have HO16 := Lib.hid (HO15.out.kept HB56.out)
  have HO26 := Lib.hid (HO25.out.kept HB56.out)
  have HO36 := Lib.hid (HO35.out.kept HB56.out)
  have HB6 := Lib.hid (HB5.out.trans (HB56.out.mono HB5.out.size))
  have HGX := Lib.hid (show w.heap.size < g1 ∧ g1 < g2 ∧ g2 < g3 ∧ g3 < g5 by have := HG.out; have := HO35.out.lt; have := HG5.out; omega)
  rw [← HW6, HG5.out]
  clear HW6 HO15 HO25 HO35 HB5 HB56 HG
  have d0 := HO36.out.cell 0
  have d1 := HO36.out.cell 1
  have d2 := HO36.out.cell 2
  have p1 := HO26.out.cell 1
  have f1 := HO26.out.free 1
  simp at d0 d1 d2 p1
  go_upto_region 5 with (fail)
  have HW7 := Lib.hid ((Wrote.refl g2 W6).set (p := ⟨g2, 1, none⟩) (.inl rfl) (.int .i64 100))
  have HO27 : Hid (Obj1 _ g2 41 #[.int .i64 1, .int .i64 100, .int .i64 0, .int .i64 0, .slice none 0 0, .slice none 0 0]) := Lib.hid (HO26.out.set 1 (.int .i64 100))
  generalize W6.setCell ⟨g2, 1, none⟩ (.int .i64 100) = W7 at HW7 HO27 ⊢
  have HO17 := Lib.hid (HO16.out.touch HW7.out (by have := HGX.out; omega))
  have HO37 := Lib.hid (HO36.out.touch HW7.out (by have := HGX.out; omega))
  have HO57 := Lib.hid (HO56.out.touch HW7.out (by have := HGX.out; omega))
  have HB7 := Lib.hid (HB6.out.trans (HW7.out.below (by have := HGX.out; omega) HB6.out.size))
  clear d0 d1 d2 p1 f1 HO16 HO26 HO36 HO56 HB6 HW7
  have HC2 : Hid (Calls Try.prog 22 #[.agg #[.int .i64 2, .slice (some ⟨g1, 0, none⟩) 1 1, .slice (some ⟨g2, 0, none⟩) 1 1]] W7 fun e w' => e = .returned (.agg #[.int .i64 0, .int .i64 0, .int .i64 0]) ∧ Below W7.heap.size W7 w') := Lib.hid ((check_any gapF 2 (some ⟨g1, 0, none⟩) 1 1 (some ⟨g2, 0, none⟩) 1 1 [wSh] [wGp 100] W7 (wins_one HO17.out (ok_sh _)) (wins_one HO27.out (ok_gp _ _)) (by omega) (by omega) (says_sh 2) (says_gp 2 100)).mono (fun e w' ⟨v, j, c, he, hc, hb⟩ => by
    obtain ⟨rfl, rfl, rfl⟩ := chk_2 hc
    exact ⟨he, hb⟩))
  have HC3 : Hid (∀ W, Calls Try.prog 22 #[.agg #[.int .i64 1, .slice none 0 0, .slice none 0 0]] W fun e w' => e = .returned (.agg #[.int .i64 0, .int .i64 (-1), .int .i64 2]) ∧ Below W.heap.size W w') := Lib.hid (fun W => (check_any gapF 1 none 0 0 none 0 0 [] [] W (wins_nil W) (wins_nil W) (by omega) (by omega) (fun x hx => by cases hx) (fun x hx => by cases hx)).mono (fun e w' ⟨v, j, c, he, hc, hb⟩ => by
    obtain ⟨rfl, rfl, rfl⟩ := chk_3 hc
    exact ⟨he, hb⟩))
  have d0 := HO37.out.cell 0
  have d1 := HO37.out.cell 1
  have d2 := HO37.out.cell 2
  have x0 := HO57.out.cell 0
  have x1 := HO57.out.cell 1
  have x2 := HO57.out.cell 2
  simp at d0 d1 d2 x0 x1 x2
  go_wp2_with fail
  refine HC2.out.mono ?_
  rintro e w8 ⟨rfl, hb8⟩
  have HB8 := Lib.hid (HB7.out.trans (hb8.mono HB7.out.size))
  clear hb8 d0 d1 d2 x0 x1 x2
  go_wp2_with fail
  refine (HC3.out _).mono ?_
  rintro e w9 ⟨rfl, hb9⟩
  have HB9 := Lib.hid (HB8.out.trans (hb9.mono HB8.out.size))
  clear hb9
  have hfl := fun W => fld_code (.int .i64 0) (.int .i64 (-1)) (.int .i64 2) W
  go_wp2
  go_ret
  exact ⟨rfl, HB9.out⟩
end Go.Proofs.Ytkdmcnkahiimoaa.Ly7
