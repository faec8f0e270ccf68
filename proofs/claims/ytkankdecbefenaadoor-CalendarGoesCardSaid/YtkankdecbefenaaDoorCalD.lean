/- Layer 43's one. -/
import Derived.Test.YtkankdecbefenaaDoorCalC
namespace Go.Proofs.YtkankdecbefenaaDoor.Ly7
open Go.ChangeShapes Go.WideShapes Go.ChangeAt Go.RowKit Base
open Joi (stV)
set_option linter.unusedVariables false
set_option linter.unusedSimpArgs false

theorem no_e0 : FrNo gapF 0 [] := ⟨by simp, fun i y hy => by simp at hy, by decide⟩
theorem no_e1 : FrNo gapF 1 [] := ⟨by simp, fun i y hy => by simp at hy, by decide⟩
theorem sd_one (w : World) : Sd gapF 2 none 0 0 none 0 0 [] [] 0 0 0 w :=
  ⟨wins_nil w, wins_nil w, by omega, by omega, fun x hx => (by cases hx), fun x hx => (by cases hx), .inr ⟨by omega, .inr (.inr ⟨no_e0, no_e1, rfl, rfl, rfl⟩)⟩⟩
abbrev ssO : List Sl := [⟨3, 0, 200, 0, 0, 0, -1, false⟩, ⟨4, 200, 120, 0, 0, 0, -1, false⟩]
theorem frm_one : Frm 0 0 none 0 0 none 0 0 [] [] ssO 320 := .inl ⟨rfl, 0, none, 0, 0, [], rfl, .inl ⟨rfl, rfl, rfl, rfl, rfl⟩, rfl, rfl⟩
theorem at_one {k p : Int} (h : AtR ssO 320 530 k p) : k = 1 ∧ p = 10 := by
  rcases h with ⟨h | h | h, _⟩ | ⟨_, _, _, i, z, rfl, hz, h1, h2, rfl⟩
  · simp at h
  · omega
  · omega
  · match i, hz with
    | 0, hz => simp at hz; subst hz; simp at h2
    | 1, hz => simp at hz; subst hz; exact ⟨rfl, rfl⟩
    | i + 2, hz => simp at hz
theorem next_one : nextF ssO 320 1 201 = 520 := by decide
theorem beg_one : begF ssO 320 1 521 = 2 := by decide
theorem line_one : (⟨(lineT ssO).toArray⟩ : ByteArray) = ⟨#[76, 50, 48, 48, 32, 86, 49, 50, 48]⟩ := by decide +kernel
set_option maxRecDepth 100000 in
set_option maxHeartbeats 1000000 in
theorem one43 (w : World) (hL : Txt.Lf w) : Calls Tryd.prog 11 #[] w fun e w' => e = .returned (.bool true) ∧ Below w.heap.size w w' := by
  have HLF : Hid (∀ W, Below w.heap.size w W → Txt.Lf W) := Lib.hid (fun W h => hL.kept h)
  obtain ⟨gb, HGB⟩ : ∃ gb, Hid (w.heap.size = gb) := ⟨_, Lib.hid rfl⟩
  obtain ⟨W1, HW1⟩ : ∃ W1, Hid (W1 = w.alloc (.cells #[.int .i64 2, .slice none 0 0, .slice none 0 0] TSd)) := ⟨_, Lib.hid rfl⟩
  have HB1 : Hid (Below w.heap.size w W1) := Lib.hid (by rw [HW1.out]; exact bel1 _ _)
  have HO1 : Hid (Obj1 W1 gb TSd #[.int .i64 2, .slice none 0 0, .slice none 0 0]) := Lib.hid (by rw [HW1.out, ← HGB.out]; exact Obj1.new _ _ _)
  clear hL
  go_enter Tryd.func11, Tryd.ntmps11
  go_upto_region 2 with (fail)
  rw [← HW1.out, HGB.out]
  clear HW1 HGB
  have d0 : W1.cell? ⟨gb, 0, none⟩ = some (.int .i64 2) := HO1.out.cell 0
  have d1 : W1.cell? ⟨gb, 1, none⟩ = some (.slice none 0 0) := HO1.out.cell 1
  have d2 : W1.cell? ⟨gb, 2, none⟩ = some (.slice none 0 0) := HO1.out.cell 2
  go_wp2_with fail
  refine (at_any gapF 2 none 0 0 none 0 0 [] [] 0 0 0 W1 (sd_one W1) 0 ssO 320 530 frm_one).mono ?_
  rintro r w2 ⟨k, p, rfl, hat, hb2⟩
  obtain ⟨rfl, rfl⟩ := at_one hat
  have HB2 := Lib.hid (HB1.out.trans (hb2.mono HB1.out.size))
  have HO2 := Lib.hid (HO1.out.kept hb2)
  clear hat hb2 d0 d1 d2
  have d0 : w2.cell? ⟨gb, 0, none⟩ = some (.int .i64 2) := HO2.out.cell 0
  have d1 : w2.cell? ⟨gb, 1, none⟩ = some (.slice none 0 0) := HO2.out.cell 1
  have d2 : w2.cell? ⟨gb, 2, none⟩ = some (.slice none 0 0) := HO2.out.cell 2
  have HLI := Lib.hid (line_any gapF 2 none 0 0 none 0 0 [] [] 0 0 0 w2 (sd_one w2) 0 ssO 320 frm_one (HLF.out _ HB2.out))
  rw [line_one] at HLI
  go_wp2_with fail
  refine HLI.out.mono ?_
  rintro r w3 ⟨rfl, hb3⟩
  have HB3 := Lib.hid (HB2.out.trans (hb3.mono HB2.out.size))
  have HO3 := Lib.hid (HO2.out.kept hb3)
  clear hb3 d0 d1 d2 HLI
  have d0 : w3.cell? ⟨gb, 0, none⟩ = some (.int .i64 2) := HO3.out.cell 0
  have d1 : w3.cell? ⟨gb, 1, none⟩ = some (.slice none 0 0) := HO3.out.cell 1
  have d2 : w3.cell? ⟨gb, 2, none⟩ = some (.slice none 0 0) := HO3.out.cell 2
  have HNE := Lib.hid (next_any gapF 2 none 0 0 none 0 0 [] [] 0 0 0 w3 (sd_one w3) 0 ssO 320 1 201 frm_one)
  rw [next_one] at HNE
  go_wp2_with fail
  refine HNE.out.mono ?_
  rintro r w4 ⟨rfl, hb4⟩
  have HB4 := Lib.hid (HB3.out.trans (hb4.mono HB3.out.size))
  have HO4 := Lib.hid (HO3.out.kept hb4)
  clear hb4 d0 d1 d2 HNE
  have d0 : w4.cell? ⟨gb, 0, none⟩ = some (.int .i64 2) := HO4.out.cell 0
  have d1 : w4.cell? ⟨gb, 1, none⟩ = some (.slice none 0 0) := HO4.out.cell 1
  have d2 : w4.cell? ⟨gb, 2, none⟩ = some (.slice none 0 0) := HO4.out.cell 2
  have HBE := Lib.hid (begins_any gapF 2 none 0 0 none 0 0 [] [] 0 0 0 w4 (sd_one w4) 0 ssO 320 1 521 frm_one)
  rw [beg_one] at HBE
  go_wp2_with fail
  refine HBE.out.mono ?_
  rintro r w5 ⟨rfl, hb5⟩
  have HB5 := Lib.hid (HB4.out.trans (hb5.mono HB4.out.size))
  clear hb5 d0 d1 d2 HBE
  go_wp2
  go_ret
  exact ⟨rfl, HB5.out⟩
end Go.Proofs.YtkankdecbefenaaDoor.Ly7
