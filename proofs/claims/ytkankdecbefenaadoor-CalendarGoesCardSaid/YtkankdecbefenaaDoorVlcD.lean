/- What package valid's Window says of a window that is no message; the statements' own helper 'one' of layer 8. -/
import Derived.Test.YtkankdecbefenaaDoorVlcC
namespace Go.Proofs.YtkankdecbefenaaDoor.Ly7
open Go.ChangeShapes Go.WideShapes Go.ChangeAt Go.RowKit Base
set_option linter.unusedVariables false
set_option linter.unusedSimpArgs false

/-- The error of a gap or a short pulse. -/
def gapF (x : Wd) : Int := if x.k = 1 then (if x.b < 1 ∨ 100 < x.b then 3 else 0) else 0
theorem window_gap (x : Wd) (hk : x.k = 1) (md : Int) (w : World) : Calls Tryd.prog 23 #[.agg #[.int .i64 x.k, .int .i64 x.b, .int .i64 x.wd, .int .i64 x.ad, .slice x.A x.n x.c, .slice x.B x.m x.d], .int .i64 md] w fun e w' => e = .returned (.int .i64 (gapF x)) ∧ Below w.heap.size w w' := by
  rw [hk]
  obtain ⟨b, hb⟩ : ∃ b, x.b = b := ⟨_, rfl⟩
  have HG : Hid (gapF x = if b < 1 ∨ 100 < b then 3 else 0) := Lib.hid (by unfold gapF; rw [if_pos hk, hb])
  rw [hb]
  clear hk hb
  have HB1 : Hid (Below w.heap.size w (w.alloc (.cells #[.int .i64 1, .int .i64 b, .int .i64 x.wd, .int .i64 x.ad, .slice x.A x.n x.c, .slice x.B x.m x.d] 56))) := Lib.hid (bel1 _ _)
  by_cases h1 : b < 1
  · go_enter Tryd.func23, Tryd.ntmps23
    go_wp2
    go_ret
    exact ⟨by rw [HG.out, if_pos (.inl h1)]; rfl, HB1.out⟩
  · by_cases h2 : 100 < b
    · go_enter Tryd.func23, Tryd.ntmps23
      go_wp2
      go_ret
      exact ⟨by rw [HG.out, if_pos (.inr h2)]; rfl, HB1.out⟩
    · go_enter Tryd.func23, Tryd.ntmps23
      go_wp2
      go_ret
      exact ⟨by rw [HG.out, if_neg (by omega)]; rfl, HB1.out⟩
theorem window_short (x : Wd) (hk : x.k = 2) (md : Int) (w : World) : Calls Tryd.prog 23 #[.agg #[.int .i64 x.k, .int .i64 x.b, .int .i64 x.wd, .int .i64 x.ad, .slice x.A x.n x.c, .slice x.B x.m x.d], .int .i64 md] w fun e w' => e = .returned (.int .i64 0) ∧ Below w.heap.size w w' := by
  rw [hk]
  clear hk
  go_enter Tryd.func23, Tryd.ntmps23
  go_wp2
  go_ret
  exact ⟨rfl, bel1 _ _⟩
def wSh : Wd := ⟨2, 0, 0, 0, none, 0, 0, [], none, 0, 0, []⟩
def wGp (b : Int) : Wd := ⟨1, b, 0, 0, none, 0, 0, [], none, 0, 0, []⟩
theorem ok_sh (w : World) : wSh.Ok w := ⟨Lst.nil _ _, Lst.nil _ _, Nat.le_refl _, Nat.le_refl _, by unfold wSh; simp, by unfold wSh; simp⟩
theorem ok_gp (b : Int) (w : World) : (wGp b).Ok w := ⟨Lst.nil _ _, Lst.nil _ _, Nat.le_refl _, Nat.le_refl _, by unfold wGp; simp, by unfold wGp; simp⟩
theorem says_sh (md : Int) : Says gapF md [wSh] := fun x hx W _ => by
  obtain rfl := List.mem_singleton.1 hx
  exact window_short wSh rfl md W
theorem says_gp (md b : Int) : Says gapF md [wGp b] := fun x hx W _ => by
  obtain rfl := List.mem_singleton.1 hx
  exact window_gap (wGp b) rfl md W
theorem no_sh : FrNo gapF 0 [wSh] := by
  refine ⟨by simp, fun i y hy => ?_, by decide⟩
  have h := List.mem_of_getElem? hy
  obtain rfl := List.mem_singleton.1 h
  rfl
theorem no_gp : FrNo gapF 1 [wGp 100] := by
  refine ⟨by simp, fun i y hy => ?_, by decide⟩
  have h := List.mem_of_getElem? hy
  obtain rfl := List.mem_singleton.1 h
  rfl
theorem fr_no {f : Wd → Int} {ver : Nat} {ws : List Wd} (h : FrNo f ver ws) {j e : Int} : ¬ Fr f ver ws j e := by
  rintro (⟨h1, _⟩ | ⟨_, k, x, hx, _, hf, _⟩ | ⟨_, _, ⟨s, hs, h2⟩, _⟩)
  · have := h.1; omega
  · exact hf (h.2.1 k x hx)
  · have := h.2.2 s hs; omega
theorem chk_1 {v j e : Int} (h : Chk gapF 2 [wSh] [wGp 101] v j e) : v = 1 ∧ j = 0 ∧ e = 3 := by
  rcases h with ⟨h, _⟩ | ⟨_, ⟨h, _⟩ | ⟨_, h, hv⟩ | ⟨_, h, _⟩⟩
  · omega
  · exact absurd h (fr_no no_sh)
  · rcases h with ⟨h1, _⟩ | ⟨_, k, x, hx, _, hf, rfl, rfl⟩ | ⟨_, ha, _⟩
    · simp at h1
    · match k, hx with
      | 0, hx =>
        simp at hx
        subst hx
        exact ⟨hv, rfl, rfl⟩
      | k + 1, hx => simp at hx
    · have := ha 0 (wGp 101) rfl
      exact absurd this (by decide)
  · have := h.2.1 0 (wGp 101) rfl
    exact absurd this (by decide)
theorem chk_2 {v j e : Int} (h : Chk gapF 2 [wSh] [wGp 100] v j e) : v = 0 ∧ j = 0 ∧ e = 0 := by
  rcases h with ⟨h, _⟩ | ⟨_, ⟨h, _⟩ | ⟨_, h, hv⟩ | ⟨_, h, r⟩⟩
  · omega
  · exact absurd h (fr_no no_sh)
  · exact absurd h (fr_no no_gp)
  · exact r
theorem chk_3 {v j e : Int} (h : Chk gapF 1 [] [] v j e) : v = 0 ∧ j = -1 ∧ e = 2 := by
  rcases h with ⟨h, r⟩ | ⟨h, _⟩
  · exact r
  · omega
theorem wins_nil (w : World) : WinsAt w none 0 [] := ⟨rfl, fun h => absurd h (by omega), fun x hx => by cases hx⟩
theorem wins_one {w : World} {g : Nat} {T : TypeId} {x : Wd} (h : Obj1 w g T #[.int .i64 x.k, .int .i64 x.b, .int .i64 x.wd, .int .i64 x.ad, .slice x.A x.n x.c, .slice x.B x.m x.d]) (hok : x.Ok w) : WinsAt w (some ⟨g, 0, none⟩) 1 [x] :=
  ⟨rfl, fun _ => ⟨g, 0, rfl, h.lt, fun i hi j hj => by
    obtain rfl : i = 0 := by simpa using hi
    have := h.cell j
    rw [show 0 + 0 * 6 + j = j by omega]
    exact this⟩, fun y hy => by
    obtain rfl := List.mem_singleton.1 hy
    exact hok⟩
set_option maxRecDepth 100000 in
theorem fld_code (a b c : Value) (w : World) : (Instr.field TFl (.agg #[a, b, c]) 2).run Tryd.prog w = .ok c w := by first | rfl | kernel_rfl | (simp [Instr.field, go_sem])
end Go.Proofs.YtkankdecbefenaaDoor.Ly7
