/- Any schedule's ticks are in the document's slots, which begin when, and as often as, it says: for all schedules, versions, slots and ticks; no condition. -/
import Derived.RegionTactic
import Derived.IntWalk
import Derived.Deep.DeepCutAuto
import Derived.Deep.CutBlock
import Derived.Stop.LaidErr
import Derived.Test.YtkankdecbefenaaDoorCalE
import Derived.Test.YtkankdecbefenaaDoorPlnH
import Derived.Test.YtkankdecbefenaaDoorTie
import Derived.Test.YtkankdecbefenaaDoorCards
import Derived.Test.YtkankdecbefenaaDoorLaid
import Derived.LaidMore
import Derived.SevenTiedAt
import Derived.Stop.Joined
import Derived.Test.YtkankdecbefenaaDoorRows
import Derived.WalkKit
import Derived.ProofKit
import Derived.OpenShut
import Derived.ShutString
import Derived.ChangeOld
import Derived.Below
namespace Go.Proofs.YtkankdecbefenaaDoor.lawCalendarTells
open Go.ChangeShapes Go.WideShapes Go.ChangeAt Go.RowKit Base
open Go.ChangeMaps (open_string shut_string)
set_option linter.unusedVariables false
set_option linter.unusedSimpArgs false
theorem own : ownKnob Tryd.prog.godebug = none := by kernel_rfl
theorem laidOut : laidOutB Tryd.prog = true := by kernel_rfl
open Ly7

def Ld (w : World) : Prop := Txt.Lf w
theorem of_laid {W : World} (h : laidMetH Tryd.prog Rows.calendarTellsRow.laid W) : Ld W := by
  rw [MakeChecks.laidMetH_plain _ _ _ (by kernel_rfl)] at h
  have h1 := laidMet.tail (laidMet.tail h)
  exact Lib.tabIs_of_head (g := 0) (t := 106) (e := 89) (n := 20) (by kernel_rfl) (by kernel_rfl) Tryd.underlying106 Tryd.underlying89 (by kernel_rfl) (by kernel_rfl) h1
abbrev T3 : TypeId := 26
set_option maxRecDepth 100000 in
set_option maxHeartbeats 8000000 in
theorem go (md : Int) (A0 : Option Addr) (n0 c0 : Nat) (A1 : Option Addr) (n1 c1 : Nat) (ws0 ws1 : List Wd) (ver slot tick ticks : Int) (w : World) (hU : Ld w) (hW0 : WinsAt w A0 n0 ws0) (hW1 : WinsAt w A1 n1 ws1) (h0 : n0 ≤ 9223372036854775807) (h1 : n1 ≤ 9223372036854775807) (hmd : md ≤ 9223372036854775807) :
    Calls Tryd.prog 3 #[.agg #[.int .i64 md, .slice A0 n0 c0, .slice A1 n1 c1], .int .i64 ver, .agg #[.int .i64 slot, .int .i64 tick, .int .i64 ticks]] w fun e w' => e = .returned (.bool true) ∧ Below w.heap.size w w' := by
  have HLF : Hid (∀ W, Below w.heap.size w W → Txt.Lf W) := Lib.hid (fun W h => Txt.Lf.kept hU h)
  have hfc := fld_code
  obtain ⟨gb, HGB⟩ : ∃ gb, Hid (w.heap.size = gb) := ⟨_, Lib.hid rfl⟩
  obtain ⟨ga, HGA⟩ : ∃ ga, Hid (gb + 1 = ga) := ⟨_, Lib.hid rfl⟩
  obtain ⟨W1, HW1⟩ : ∃ W, Hid (W = w.alloc (.cells #[.int .i64 md, .slice A0 n0 c0, .slice A1 n1 c1] TSd)) := ⟨_, Lib.hid rfl⟩
  obtain ⟨W2, HW2⟩ : ∃ W, Hid (W = W1.alloc (.cells #[.int .i64 slot, .int .i64 tick, .int .i64 ticks] T3)) := ⟨_, Lib.hid rfl⟩
  have n1' : Below w.heap.size w W1 := by rw [HW1.out]; exact bel_new _ _
  have n2' : Below W1.heap.size W1 W2 := by rw [HW2.out]; exact bel_new _ _
  have s1 : W1.heap.size = ga := by rw [HW1.out, ← HGA.out, ← HGB.out]; simp
  have HB2 : Hid (Below w.heap.size w W2) := Lib.hid (n1'.trans (n2'.mono n1'.size))
  have HO2 : Hid (Obj1 W2 gb TSd #[.int .i64 md, .slice A0 n0 c0, .slice A1 n1 c1]) := Lib.hid ((show Obj1 W1 gb TSd _ by rw [HW1.out, ← HGB.out]; exact Obj1.new _ _ _).kept n2')
  have HA2 : Hid (Obj1 W2 ga T3 #[.int .i64 slot, .int .i64 tick, .int .i64 ticks]) := Lib.hid (by rw [HW2.out, ← s1]; exact Obj1.new _ _ _)
  have HFW := Lib.hid (few_any md A0 n0 c0 A1 n1 c1 ws0 ws1 W2 (hW0.kept HB2.out) (hW1.kept HB2.out) h0 h1)
  have HW0 := Lib.hid hW0
  have HWN := Lib.hid hW1
  have HMD := Lib.hid hmd
  have d0 : W2.cell? ⟨gb, 0, none⟩ = some (.int .i64 md) := HO2.out.cell 0
  have d1 : W2.cell? ⟨gb, 1, none⟩ = some (.slice A0 n0 c0) := HO2.out.cell 1
  have d2 : W2.cell? ⟨gb, 2, none⟩ = some (.slice A1 n1 c1) := HO2.out.cell 2
  clear hU hW0 hW1 h0 h1 hmd n1' n2' s1
  go_enter Tryd.func3, Tryd.ntmps3
  go_upto_region 1 with (fail)
  rw [← HW1.out, HGB.out, HGA.out, ← HW2.out]
  clear HW1 HW2 HGA HGB
  go_wp2_with fail
  refine HFW.out.mono ?_
  rintro e' w3 ⟨r, rfl, hr, hb3⟩
  have HB3 : Hid (Below w.heap.size w w3) := Lib.hid (HB2.out.trans (hb3.mono HB2.out.size))
  have HO3 := Lib.hid (HO2.out.kept hb3)
  have HA3 := Lib.hid (HA2.out.kept hb3)
  clear hb3 d0 d1 d2 HFW HO2 HA2 HB2
  rcases hr with rfl | ⟨rfl, hf0, hf1⟩
  · go_wp2
    go_ret
    exact ⟨rfl, HB3.out⟩
  have HF0 := Lib.hid hf0
  have HF1 := Lib.hid hf1
  clear hf0 hf1
  obtain ⟨fv, fj, e, hck⟩ := chk_ex (winI md) md ws0 ws1
  have HSD : Hid (∀ W, Below w.heap.size w W → Sd (winI md) md A0 n0 c0 A1 n1 c1 ws0 ws1 fv fj e W) := Lib.hid (fun W hb =>
    ⟨HW0.out.kept hb, HWN.out.kept hb, by have := HF0.out.1; omega, by have := HF1.out.1; omega, says_win HMD.out HF0.out, says_win HMD.out HF1.out, hck⟩)
  clear hck
  have k0 : ∀ z : Kin w3.drew, z.world.cell? ⟨ga, 0, none⟩ = some (.int .i64 slot) := fun z => Kin.at (w := w3.drew) (HA3.out.cell 0) z
  have k1 : ∀ z : Kin w3.drew, z.world.cell? ⟨ga, 1, none⟩ = some (.int .i64 tick) := fun z => Kin.at (w := w3.drew) (HA3.out.cell 1) z
  have k2 : ∀ z : Kin w3.drew, z.world.cell? ⟨ga, 2, none⟩ = some (.int .i64 ticks) := fun z => Kin.at (w := w3.drew) (HA3.out.cell 2) z
  go_upto_region 3 with (fail)
  refine wp_region_specL 9 [.d (.pointer (some ⟨ga, 0, none⟩)), .d (.int .i64 slot), .d (.pointer (some ⟨ga, 1, none⟩)), .d (.int .i64 tick), .d (.pointer (some ⟨ga, 2, none⟩)), .d (.int .i64 ticks), .d (.int .i64 slot), .d (.int .i64 tick), .d (.int .i64 ticks)] (by kernel_rfl) (by kernel_rfl) ?_
  refine spec_d rfl (fun x _ => gives_run (by go_simp)) ?_
  try simp only [Act.put, List.getElem_toArray, List.getElem_cons_succ, List.getElem_cons_zero, List.setIfInBounds_toArray, List.set_cons_zero, List.set_cons_succ]
  refine spec_d rfl (fun x _ => gives_run (by go_simp)) ?_
  try simp only [Act.put, List.getElem_toArray, List.getElem_cons_succ, List.getElem_cons_zero, List.setIfInBounds_toArray, List.set_cons_zero, List.set_cons_succ]
  refine spec_d rfl (fun x _ => gives_run (by go_simp)) ?_
  try simp only [Act.put, List.getElem_toArray, List.getElem_cons_succ, List.getElem_cons_zero, List.setIfInBounds_toArray, List.set_cons_zero, List.set_cons_succ]
  refine spec_d rfl (fun x _ => gives_run (by go_simp)) ?_
  try simp only [Act.put, List.getElem_toArray, List.getElem_cons_succ, List.getElem_cons_zero, List.setIfInBounds_toArray, List.set_cons_zero, List.set_cons_succ]
  refine spec_d rfl (fun x _ => gives_run (by go_simp)) ?_
  try simp only [Act.put, List.getElem_toArray, List.getElem_cons_succ, List.getElem_cons_zero, List.setIfInBounds_toArray, List.set_cons_zero, List.set_cons_succ]
  refine spec_d rfl (fun x _ => gives_run (by go_simp)) ?_
  try simp only [Act.put, List.getElem_toArray, List.getElem_cons_succ, List.getElem_cons_zero, List.setIfInBounds_toArray, List.set_cons_zero, List.set_cons_succ]
  refine spec_d rfl (fun x _ => gives_run (by go_simp)) ?_
  try simp only [Act.put, List.getElem_toArray, List.getElem_cons_succ, List.getElem_cons_zero, List.setIfInBounds_toArray, List.set_cons_zero, List.set_cons_succ]
  refine spec_d rfl (fun x _ => gives_run (by go_simp)) ?_
  try simp only [Act.put, List.getElem_toArray, List.getElem_cons_succ, List.getElem_cons_zero, List.setIfInBounds_toArray, List.set_cons_zero, List.set_cons_succ]
  refine spec_d rfl (fun x _ => gives_run (by go_simp)) ?_
  try simp only [Act.put, List.getElem_toArray, List.getElem_cons_succ, List.getElem_cons_zero, List.setIfInBounds_toArray, List.set_cons_zero, List.set_cons_succ]
  refine spec_end (fun z hz => ?_)
  clear hz
  refine wpAny_done (by kernel_rfl) ?_ _
  have HBZ : Hid (Below w3.heap.size w3 z.world) := Lib.hid ((bel_drew w3).trans z.below)
  clear k0 k1 k2 HA3
  generalize z.world = w4 at HBZ ⊢
  clear z
  have HB4 := Lib.hid (HB3.out.trans (HBZ.out.mono HB3.out.size))
  have HO4 := Lib.hid (HO3.out.kept HBZ.out)
  clear HBZ HO3
  obtain ⟨ss, T, HFR, HCASE⟩ : ∃ ss T, Hid (Frm e ver A0 n0 c0 A1 n1 c1 ws0 ws1 ss T) ∧ Hid (((e ≠ 0 ∨ ver < 0 ∨ 2 ≤ ver) ∧ ss = [] ∧ T = 0) ∨ (∃ (k : Nat) (A : Option Addr) (n c : Nat) (ws : List Wd), e = 0 ∧ ver = (k : Int) ∧ k < 2 ∧ Ver k A0 n0 c0 A1 n1 c1 ws0 ws1 A n c ws ∧ ss = viewL k (-1) ws ∧ T = endS ws (leadI k) + 120)) := by
    rcases frm_ex e ver A0 n0 c0 A1 n1 c1 ws0 ws1 with ⟨ss, T, h, h2⟩ | ⟨k, A, n, c, ws, h1, h2, h3, h4, h5⟩
    · exact ⟨ss, T, Lib.hid h, Lib.hid (.inl h2)⟩
    · exact ⟨_, _, Lib.hid h5, Lib.hid (.inr ⟨k, A, n, c, ws, h1, h2, h3, h4, rfl, rfl⟩)⟩
  have HSL := Lib.hid (frm_sls (HSD.out w (Below.refl _ _)) HFR.out)
  have HAT := Lib.hid (at_any (winI md) md A0 n0 c0 A1 n1 c1 ws0 ws1 fv fj e w4 (HSD.out w4 HB4.out) ver ss T tick HFR.out)
  have d0 : w4.cell? ⟨gb, 0, none⟩ = some (.int .i64 md) := HO4.out.cell 0
  have d1 : w4.cell? ⟨gb, 1, none⟩ = some (.slice A0 n0 c0) := HO4.out.cell 1
  have d2 : w4.cell? ⟨gb, 2, none⟩ = some (.slice A1 n1 c1) := HO4.out.cell 2
  go_wp2_with fail
  refine HAT.out.mono ?_
  rintro e' w5 ⟨k, p, rfl, hat, hb5⟩
  have HAR := Lib.hid hat
  have HB5 := Lib.hid (HB4.out.trans (hb5.mono HB4.out.size))
  have HO5 := Lib.hid (HO4.out.kept hb5)
  clear hat hb5 d0 d1 d2 HAT HO4 HB4
  have d0 : ∀ z : Kin w5.drew, z.world.cell? ⟨gb, 0, none⟩ = some (.int .i64 md) := fun z => Kin.at (w := w5.drew) (HO5.out.cell 0) z
  have d1 : ∀ z : Kin w5.drew, z.world.cell? ⟨gb, 1, none⟩ = some (.slice A0 n0 c0) := fun z => Kin.at (w := w5.drew) (HO5.out.cell 1) z
  have d2 : ∀ z : Kin w5.drew, z.world.cell? ⟨gb, 2, none⟩ = some (.slice A1 n1 c1) := fun z => Kin.at (w := w5.drew) (HO5.out.cell 2) z
  obtain ⟨nx, HNX⟩ : ∃ nx, Hid (nextF ss T slot tick = nx) := ⟨_, Lib.hid rfl⟩
  obtain ⟨bg, HBG⟩ : ∃ bg, Hid (begF ss T slot ticks = bg) := ⟨_, Lib.hid rfl⟩
  have HKZ : Hid (∀ z : Kin w5.drew, Below w.heap.size w z.world) := Lib.hid (fun z => HB5.out.trans (((bel_drew w5).trans z.below).mono HB5.out.size))
  have HCN : Hid (∀ z : Kin w5.drew, Calls Tryd.prog 8 #[.agg #[.int .i64 md, .slice A0 n0 c0, .slice A1 n1 c1], .int .i64 ver, .int .i64 slot, .int .i64 tick] z.world fun r w' => r = .returned (.int .i64 nx) ∧ Below z.world.heap.size z.world w') := Lib.hid (fun z => by
    have h := next_any (winI md) md A0 n0 c0 A1 n1 c1 ws0 ws1 fv fj e z.world (HSD.out _ (HKZ.out z)) ver ss T slot tick HFR.out
    rw [HNX.out] at h
    exact h)
  have HCB : Hid (∀ z : Kin w5.drew, Calls Tryd.prog 9 #[.agg #[.int .i64 md, .slice A0 n0 c0, .slice A1 n1 c1], .int .i64 ver, .int .i64 slot, .int .i64 ticks] z.world fun r w' => r = .returned (.int .i64 bg) ∧ Below z.world.heap.size z.world w') := Lib.hid (fun z => by
    have h := begins_any (winI md) md A0 n0 c0 A1 n1 c1 ws0 ws1 fv fj e z.world (HSD.out _ (HKZ.out z)) ver ss T slot ticks HFR.out
    rw [HBG.out] at h
    exact h)
  go_upto_region 5 with (fail)
  refine wp_region_specL 12 [.d (.agg #[.int .i64 md, .slice A0 n0 c0, .slice A1 n1 c1]), .d (.int .i64 ver), .d (.int .i64 slot), .d (.int .i64 tick), .d (.int .i64 nx), .d (.agg #[.int .i64 md, .slice A0 n0 c0, .slice A1 n1 c1]), .d (.int .i64 ver), .d (.int .i64 slot), .d (.int .i64 ticks), .d (.int .i64 bg), .d (.int .i64 nx), .d (.int .i64 bg)] (by kernel_rfl) (by kernel_rfl) ?_
  refine spec_d rfl (fun x _ => gives_run (by go_simp)) ?_
  try simp only [Act.put, List.getElem_toArray, List.getElem_cons_succ, List.getElem_cons_zero, List.setIfInBounds_toArray, List.set_cons_zero, List.set_cons_succ]
  refine spec_d rfl (fun x _ => gives_run (by go_simp)) ?_
  try simp only [Act.put, List.getElem_toArray, List.getElem_cons_succ, List.getElem_cons_zero, List.setIfInBounds_toArray, List.set_cons_zero, List.set_cons_succ]
  refine spec_d rfl (fun x _ => gives_run (by go_simp)) ?_
  try simp only [Act.put, List.getElem_toArray, List.getElem_cons_succ, List.getElem_cons_zero, List.setIfInBounds_toArray, List.set_cons_zero, List.set_cons_succ]
  refine spec_d rfl (fun x _ => gives_run (by go_simp)) ?_
  try simp only [Act.put, List.getElem_toArray, List.getElem_cons_succ, List.getElem_cons_zero, List.setIfInBounds_toArray, List.set_cons_zero, List.set_cons_succ]
  refine spec_d rfl (fun z _ => gives_det (by go_simp) (HCN.out z)) ?_
  try simp only [Act.put, List.getElem_toArray, List.getElem_cons_succ, List.getElem_cons_zero, List.setIfInBounds_toArray, List.set_cons_zero, List.set_cons_succ]
  refine spec_d rfl (fun x _ => gives_run (by go_simp)) ?_
  try simp only [Act.put, List.getElem_toArray, List.getElem_cons_succ, List.getElem_cons_zero, List.setIfInBounds_toArray, List.set_cons_zero, List.set_cons_succ]
  refine spec_d rfl (fun x _ => gives_run (by go_simp)) ?_
  try simp only [Act.put, List.getElem_toArray, List.getElem_cons_succ, List.getElem_cons_zero, List.setIfInBounds_toArray, List.set_cons_zero, List.set_cons_succ]
  refine spec_d rfl (fun x _ => gives_run (by go_simp)) ?_
  try simp only [Act.put, List.getElem_toArray, List.getElem_cons_succ, List.getElem_cons_zero, List.setIfInBounds_toArray, List.set_cons_zero, List.set_cons_succ]
  refine spec_d rfl (fun x _ => gives_run (by go_simp)) ?_
  try simp only [Act.put, List.getElem_toArray, List.getElem_cons_succ, List.getElem_cons_zero, List.setIfInBounds_toArray, List.set_cons_zero, List.set_cons_succ]
  refine spec_d rfl (fun z _ => gives_det (by go_simp) (HCB.out z)) ?_
  try simp only [Act.put, List.getElem_toArray, List.getElem_cons_succ, List.getElem_cons_zero, List.setIfInBounds_toArray, List.set_cons_zero, List.set_cons_succ]
  refine spec_d rfl (fun x _ => gives_run (by go_simp)) ?_
  try simp only [Act.put, List.getElem_toArray, List.getElem_cons_succ, List.getElem_cons_zero, List.setIfInBounds_toArray, List.set_cons_zero, List.set_cons_succ]
  refine spec_d rfl (fun x _ => gives_run (by go_simp)) ?_
  try simp only [Act.put, List.getElem_toArray, List.getElem_cons_succ, List.getElem_cons_zero, List.setIfInBounds_toArray, List.set_cons_zero, List.set_cons_succ]
  refine spec_end (fun z hz => ?_)
  clear hz
  refine wpAny_done (by kernel_rfl) ?_ _
  have HBZ : Hid (Below w5.heap.size w5 z.world) := Lib.hid ((bel_drew w5).trans z.below)
  clear d0 d1 d2 HCN HCB HKZ
  generalize z.world = w6 at HBZ ⊢
  clear z
  have HB6 := Lib.hid (HB5.out.trans (HBZ.out.mono HB5.out.size))
  have HO6 := Lib.hid (HO5.out.kept HBZ.out)
  clear HBZ HO5 HB5
  have HCK := Lib.hid ((HSD.out w (Below.refl _ _)).code w6 HB6.out)
  have d0 : w6.cell? ⟨gb, 0, none⟩ = some (.int .i64 md) := HO6.out.cell 0
  have d1 : w6.cell? ⟨gb, 1, none⟩ = some (.slice A0 n0 c0) := HO6.out.cell 1
  have d2 : w6.cell? ⟨gb, 2, none⟩ = some (.slice A1 n1 c1) := HO6.out.cell 2
  go_wp2_with fail
  refine HCK.out.mono ?_
  rintro e' w7 ⟨rfl, hb7⟩
  have HB7 := Lib.hid (HB6.out.trans (hb7.mono HB6.out.size))
  have HO7 := Lib.hid (HO6.out.kept hb7)
  clear hb7 d0 d1 d2 HCK HO6 HB6
  rcases HCASE.out with ⟨hbad, hss, hT⟩ | ⟨vn, A, n, c, ws, he, hvn, hv2, hver, hss, hT⟩
  · as_aux_lemma =>
    have HAB := HAR.out
    rw [hss] at HAB
    obtain ⟨hk, hp⟩ := at_bad HAB
    have hnx : nx = -1 := by rw [← HNX.out, hss]; exact next_out (by simp; omega)
    have hbg : bg = 0 := by rw [← HBG.out, hss]; exact beg_out (by simp; omega)
    subst hk
    subst hp
    subst hnx
    subst hbg
    clear HAB HAR HNX HBG HFR HCASE HSL hss hT
    by_cases he : e = 0
    · subst he
      have hbad2 : ver < 0 ∨ 2 ≤ ver := hbad.resolve_left (fun h => h rfl)
      clear hbad
      rcases hbad2 with hv | hv
      · go_wp2_with fail
        refine (one43 _ (HLF.out _ HB7.out)).mono ?_
        rintro e' wo ⟨rfl, hbo⟩
        have HBO := Lib.hid (HB7.out.trans (hbo.mono HB7.out.size))
        clear hbo
        go_wp2
        go_ret
        exact ⟨rfl, HBO.out⟩
      · have hv1 : ¬ ver < 0 := by omega
        have hv2 : 1 < ver := by omega
        clear hv
        go_wp2_with fail
        refine (one43 _ (HLF.out _ HB7.out)).mono ?_
        rintro e' wo ⟨rfl, hbo⟩
        have HBO := Lib.hid (HB7.out.trans (hbo.mono HB7.out.size))
        clear hbo
        go_wp2
        go_ret
        exact ⟨rfl, HBO.out⟩
    · have hen : (e != 0) = true := by simpa using he
      clear he hbad
      go_wp2_with fail
      refine (one43 _ (HLF.out _ HB7.out)).mono ?_
      rintro e' wo ⟨rfl, hbo⟩
      have HBO := Lib.hid (HB7.out.trans (hbo.mono HB7.out.size))
      clear hbo
      go_wp2
      go_ret
      exact ⟨rfl, HBO.out⟩
  subst he
  subst hvn
  have HVR := Lib.hid hver
  have HSS := Lib.hid hss
  have HTT := Lib.hid hT
  have hvi : (vn : Int) ≤ 1 := by omega
  have hv0 : ¬ (vn : Int) < 0 := by omega
  have hv1 : ¬ (1 : Int) < (vn : Int) := by omega
  have hv22 : (vn : Int) < 2 := by omega
  have hvk : (0 : Int) ≤ (vn : Int) := by omega
  have HV2 := Lib.hid hv2
  have HWV : Hid (WinsAt w A n ws ∧ n ≤ 900 ∧ ((vn = 0 ∧ A = A0 ∧ n = n0 ∧ c = c0) ∨ (vn = 1 ∧ A = A1 ∧ n = n1 ∧ c = c1))) := Lib.hid ((HSD.out w (Below.refl _ _)).ver hver)
  have HM40 : Hid (∀ x ∈ ws, x.m ≤ 1000) := Lib.hid (by
    rcases hver with ⟨_, _, _, _, rfl⟩ | ⟨_, _, _, _, rfl⟩
    · exact fun x hx => Nat.le_trans (HF0.out.2 x hx).2 (by omega)
    · exact fun x hx => Nat.le_trans (HF1.out.2 x hx).2 (by omega))
  clear hver hss hT hv2 HCASE
  have HFV : Hid (∀ W, Below w7.heap.size w7 W → W.cell? ⟨gb, 1 + vn, none⟩ = some (.slice A n c)) := Lib.hid (fun W hW => by
    rw [(HO7.out.kept hW).cell]
    rcases HWV.out.2.2 with ⟨rfl, rfl, rfl, rfl⟩ | ⟨rfl, rfl, rfl, rfl⟩ <;> rfl)
  have f3 := HFV.out w7 (Below.refl _ _)
  have HOW := Lib.hid (own_any A n c ws w7 (HWV.out.1.kept HB7.out) HWV.out.2.1)
  go_wp2_with fail
  refine HOW.out.mono ?_
  rintro e' w8 ⟨B4, c4, rfl, HW4, HB4'⟩
  have HRV := Lib.hid (rview_any B4 n c4 vn (-1) ws w8 HV2.out HW4.out HWV.out.2.1 HM40.out)
  rw [← HSS.out] at HRV
  have HB8 := Lib.hid (HB7.out.trans (HB4'.out.mono HB7.out.size))
  have HO8 := Lib.hid (HO7.out.kept HB4'.out)
  clear f3 HOW HFV HB4' HO7 HB7
  go_wp2_with fail
  refine HRV.out.mono ?_
  rintro e' w9 ⟨v9, rfl, HR9, hb9⟩
  obtain ⟨A9, c9, rfl, hs9⟩ := slots_own HR9.out rfl
  obtain ⟨N, HN⟩ : ∃ N, Hid (ss.length = N) := ⟨_, Lib.hid rfl⟩
  rw [HN.out] at hs9 ⊢
  have HS9 := Lib.hid hs9
  have HB9 := Lib.hid (HB8.out.trans (hb9.out.mono HB8.out.size))
  have HO9 := Lib.hid (HO8.out.kept hb9.out)
  clear hs9 hb9 HR9 HRV HO8 HB8 HW4
  have HFC := Lib.hid (frame_any md A0 n0 c0 A1 n1 c1 A n c vn ws w9 HWV.out.2.2 (HWV.out.1.kept HB9.out) (Nat.le_trans HWV.out.2.1 (by omega)))
  rw [← HTT.out] at HFC
  have d0 : w9.cell? ⟨gb, 0, none⟩ = some (.int .i64 md) := HO9.out.cell 0
  have d1 : w9.cell? ⟨gb, 1, none⟩ = some (.slice A0 n0 c0) := HO9.out.cell 1
  have d2 : w9.cell? ⟨gb, 2, none⟩ = some (.slice A1 n1 c1) := HO9.out.cell 2
  go_wp2_with fail
  refine HFC.out.mono ?_
  rintro e' wa ⟨rfl, hba⟩
  have HBA := Lib.hid (HB9.out.trans (hba.mono HB9.out.size))
  have HSA := Lib.hid (HS9.out.kept hba)
  clear hba d0 d1 d2 HFC HO9 HB9 HS9
  have hnil : ss ≠ [] := by
    intro h
    have := HSS.out
    rw [h] at this
    unfold viewL at this
    simp at this
  have hT3 : 320 ≤ T ∧ T ≤ 20000000 := by
    have h2 := HSL.out.top
    rcases HSL.out.big with h | h
    · exact absurd h.1 hnil
    · omega
  have HNIL := Lib.hid hnil
  have HT3 := Lib.hid hT3
  have hT1 : ¬ T < 1 := by omega
  have hTn : ¬ T = 0 := by omega
  clear hnil hT3
  by_cases ht0 : tick < 0
  · as_aux_lemma =>
    obtain ⟨hk, hp⟩ := at_out HAR.out (.inl ht0)
    have hnx : nx = -1 := by rw [← HNX.out]; exact next_out (.inr (.inr (.inl ht0)))
    subst hk
    subst hp
    subst hnx
    have ht1 : ¬ (0 : Int) ≤ tick := by omega
    go_wp2_with fail
    refine (one43 _ (HLF.out _ HBA.out)).mono ?_
    rintro e' wo ⟨rfl, hbo⟩
    have HBO := Lib.hid (HBA.out.trans (hbo.mono HBA.out.size))
    clear hbo
    go_wp2
    go_ret
    exact ⟨rfl, HBO.out⟩
  by_cases ht2 : 1099511627776 < tick
  · as_aux_lemma =>
    obtain ⟨hk, hp⟩ := at_out HAR.out (.inr ht2)
    have hnx : nx = -1 := by rw [← HNX.out]; exact next_out (.inr (.inr (.inr ht2)))
    subst hk
    subst hp
    subst hnx
    have ht1 : (0 : Int) ≤ tick := by omega
    have ht3 : ¬ tick ≤ 1099511627776 := by omega
    have hd : decide (tick ≤ 1099511627776) = false := decide_eq_false ht3
    clear ht0 ht2
    go_wp2_with fail
    refine (one43 _ (HLF.out _ HBA.out)).mono ?_
    rintro e' wo ⟨rfl, hbo⟩
    have HBO := Lib.hid (HBA.out.trans (hbo.mono HBA.out.size))
    clear hbo
    go_wp2
    go_ret
    exact ⟨rfl, HBO.out⟩
  have ht1 : (0 : Int) ≤ tick := by omega
  have ht3 : tick ≤ 1099511627776 := by omega
  have hd : decide (tick ≤ 1099511627776) = true := decide_eq_true ht3
  have HTK : Hid (0 ≤ tick ∧ tick ≤ 1099511627776) := Lib.hid ⟨ht1, ht3⟩
  clear ht0 ht2
  obtain ⟨i, z, hki, hz, hp0, hpl, hpm⟩ := at_in HAR.out HNIL.out ht1 ht3
  subst hki
  obtain ⟨M, HM⟩ : ∃ M, Hid (tick % T = M) := ⟨_, Lib.hid rfl⟩
  have hmt : tick.tmod T = M := by rw [Int.tmod_eq_emod_of_nonneg ht1]; exact HM.out
  have hme : tick % T = M := HM.out
  have hMM : Hid (z.s + p = M) := Lib.hid (by rw [← HM.out]; exact hpm)
  have hMb : 0 ≤ M ∧ M < 20000000 := by
    rw [← HM.out]
    have := HT3.out
    have h1 := Int.emod_nonneg tick (show T ≠ 0 by omega)
    have h2 := Int.emod_lt_of_pos tick (show 0 < T by omega)
    omega
  have hwz : IntKind.i64.wrap (z.s + p) = M := by rw [hMM.out]; exact IntWalk.i64_in _ (by omega)
  have hiN : i < N := by rw [← HN.out]; exact (List.getElem?_eq_some_iff.1 hz).1
  have hii : (i : Int) < (N : Int) := by omega
  have hi0 : (0 : Int) ≤ (i : Int) := by omega
  have hpl2 : ¬ z.l ≤ p := by omega
  have hp00 : ¬ p < 0 := by omega
  obtain ⟨b, off, rfl, hb, k0, k1, k2, k3, k4, k5, k6, k7⟩ := HSA.out.eight hiN hz
  clear hz hp0 hpl hpm hMb hiN hb k0 k3 k4 k5 k6 k7
  go_upto_region 18 with (fail)
  clear hwz hmt hme hd hii hi0 hpl2 hp00 k1 k2 hT1 ht1 ht3
  by_cases a1 : slot < 0
  · as_aux_lemma =>
    have hnx : nx = -1 := by rw [← HNX.out]; exact next_out (.inl a1)
    have hbg : bg = 0 := by rw [← HBG.out]; exact beg_out (.inl a1)
    subst hnx
    subst hbg
    go_wp2_with fail
    refine (one43 _ (HLF.out _ HBA.out)).mono ?_
    rintro e' wo ⟨rfl, hbo⟩
    have HBO := Lib.hid (HBA.out.trans (hbo.mono HBA.out.size))
    clear hbo
    go_wp2
    go_ret
    exact ⟨rfl, HBO.out⟩
  by_cases a2 : (N : Int) ≤ slot
  · as_aux_lemma =>
    have hnx : nx = -1 := by rw [← HNX.out]; exact next_out (.inr (.inl (by rw [HN.out]; exact a2)))
    have hbg : bg = 0 := by rw [← HBG.out]; exact beg_out (.inr (.inl (by rw [HN.out]; exact a2)))
    subst hnx
    subst hbg
    go_wp2_with fail
    refine (one43 _ (HLF.out _ HBA.out)).mono ?_
    rintro e' wo ⟨rfl, hbo⟩
    have HBO := Lib.hid (HBA.out.trans (hbo.mono HBA.out.size))
    clear hbo
    go_wp2
    go_ret
    exact ⟨rfl, HBO.out⟩
  obtain ⟨s, rfl⟩ : ∃ s : Nat, slot = (s : Int) := ⟨slot.toNat, by omega⟩
  have hsN : s < N := by omega
  have hs0 : (0 : Int) ≤ (s : Int) := by omega
  have hsi : (s : Int) < (N : Int) := by omega
  obtain ⟨y, hy⟩ : ∃ y, ss[s]? = some y := ⟨_, List.getElem?_eq_getElem (by rw [HN.out]; exact hsN)⟩
  have HYK := Lib.hid hy
  obtain ⟨nx', hn1, hn2, hn3, hn4, hn5, hn6⟩ := next_in HSL.out hy HT3.out.1 HTK.out.1 HTK.out.2
  have hnn : nx' = nx := by rw [← hn1]; exact HNX.out
  subst hnn
  have HYB : Hid (0 ≤ y.s ∧ y.s ≤ 20000000) := Lib.hid (by have := sls_at HSL.out hy; have := HSL.out.bd y (List.mem_of_getElem? hy); have := HT3.out; omega)
  obtain ⟨b', off', e', hb', j0, j1, j2, j3, j4, j5, j6, j7⟩ := HSA.out.eight hsN hy
  injection e' with e'
  injection e' with ea eb _
  subst ea
  subst eb
  have J1 : ∀ x : Kin wa.drew, x.world.cell? ⟨b, off + s * 8 + 1, none⟩ = some (.int .i64 y.s) := fun x => Kin.at (w := wa.drew) j1 x
  have JK : Hid (∀ W, Below wa.heap.size wa W → W.cell? ⟨b, off + s * 8 + 1, none⟩ = some (.int .i64 y.s)) := Lib.hid (fun W hW => cell_later hW j1)
  have q1 : ¬ nx' < tick := by omega
  have q2 : IntKind.i64.wrap (nx' - tick) = nx' - tick := IntWalk.i64_in _ (by have := HTK.out; omega)
  have q3 : ¬ T ≤ nx' - tick := by omega
  have q4 : nx'.tmod T = y.s := by rw [Int.tmod_eq_emod_of_nonneg (by have := HTK.out; omega)]; exact hn4
  have q44 : nx' % T = y.s := hn4
  have q5 : IntKind.i64.wrap (nx' - T) = nx' - T := IntWalk.i64_in _ (by have := HT3.out; have := HTK.out; omega)
  have HN5 := Lib.hid hn5
  clear hy hb' j0 j1 j2 j3 j4 j5 j6 j7 hn1 hn2 hn3 hn4 hn6 a1 a2 hn5
  go_upto_region 20 with (fail)
  rcases HN5.out with hA | ⟨hB, hC⟩
  · as_aux_lemma =>
    have q6 : (nx' != y.s) = false := by simpa using hA
    clear hA HN5
    refine wp_region_specL 46 [.d (.int .i64 nx'), .d (.int .i64 tick), .d (.bool false), .d (.bool false), .d (.int .i64 nx'), .d (.int .i64 tick), .d (.int .i64 (nx' - tick)), .d (.int .i64 T), .d (.bool false), .d (.bool false), .d undef, .d undef, .d undef, .d undef, .d undef, .d undef, .d undef, .d (.bool false), .d (.bool false), .d (.bool false), .d (.int .i64 nx'), .d (.int .i64 T), .d (.int .i64 y.s), .d (.slice (some ⟨b, off, none⟩) N c9), .d (.int .i64 (s : Int)), .d (.pointer (some ⟨b, off + s * 8, none⟩)), .d (.pointer (some ⟨b, off + s * 8 + 1, none⟩)), .d (.int .i64 y.s), .d (.bool false), .d (.bool false), .d (.bool false), .d (.int .i64 nx'), .d (.slice (some ⟨b, off, none⟩) N c9), .d (.int .i64 (s : Int)), .d (.pointer (some ⟨b, off + s * 8, none⟩)), .d (.pointer (some ⟨b, off + s * 8 + 1, none⟩)), .d (.int .i64 y.s), .d (.bool false), .d (.bool false), .d undef, .d undef, .d undef, .d undef, .d undef, .d (.bool false), .d (.bool false)] (by kernel_rfl) (by kernel_rfl) ?_
    refine spec_d rfl (fun x _ => gives_run (by go_simp)) ?_
    try simp only [Act.put, List.getElem_toArray, List.getElem_cons_succ, List.getElem_cons_zero, List.setIfInBounds_toArray, List.set_cons_zero, List.set_cons_succ]
    refine spec_d rfl (fun x _ => gives_run (by go_simp)) ?_
    try simp only [Act.put, List.getElem_toArray, List.getElem_cons_succ, List.getElem_cons_zero, List.setIfInBounds_toArray, List.set_cons_zero, List.set_cons_succ]
    refine spec_d rfl (fun x _ => gives_run (by go_simp)) ?_
    try simp only [Act.put, List.getElem_toArray, List.getElem_cons_succ, List.getElem_cons_zero, List.setIfInBounds_toArray, List.set_cons_zero, List.set_cons_succ]
    refine spec_d rfl (fun x _ => gives_run (by go_simp)) ?_
    try simp only [Act.put, List.getElem_toArray, List.getElem_cons_succ, List.getElem_cons_zero, List.setIfInBounds_toArray, List.set_cons_zero, List.set_cons_succ]
    refine spec_d rfl (fun x _ => gives_run (by go_simp)) ?_
    try simp only [Act.put, List.getElem_toArray, List.getElem_cons_succ, List.getElem_cons_zero, List.setIfInBounds_toArray, List.set_cons_zero, List.set_cons_succ]
    refine spec_d rfl (fun x _ => gives_run (by go_simp)) ?_
    try simp only [Act.put, List.getElem_toArray, List.getElem_cons_succ, List.getElem_cons_zero, List.setIfInBounds_toArray, List.set_cons_zero, List.set_cons_succ]
    refine spec_d rfl (fun x _ => gives_run (by go_simp)) ?_
    try simp only [Act.put, List.getElem_toArray, List.getElem_cons_succ, List.getElem_cons_zero, List.setIfInBounds_toArray, List.set_cons_zero, List.set_cons_succ]
    refine spec_d rfl (fun x _ => gives_run (by go_simp)) ?_
    try simp only [Act.put, List.getElem_toArray, List.getElem_cons_succ, List.getElem_cons_zero, List.setIfInBounds_toArray, List.set_cons_zero, List.set_cons_succ]
    refine spec_d rfl (fun x _ => gives_run (by go_simp)) ?_
    try simp only [Act.put, List.getElem_toArray, List.getElem_cons_succ, List.getElem_cons_zero, List.setIfInBounds_toArray, List.set_cons_zero, List.set_cons_succ]
    refine spec_d rfl (fun x _ => gives_run (by go_simp)) ?_
    try simp only [Act.put, List.getElem_toArray, List.getElem_cons_succ, List.getElem_cons_zero, List.setIfInBounds_toArray, List.set_cons_zero, List.set_cons_succ]
    refine spec_skip rfl ?_
    try simp only [Act.put, List.getElem_toArray, List.getElem_cons_succ, List.getElem_cons_zero, List.setIfInBounds_toArray, List.set_cons_zero, List.set_cons_succ]
    refine spec_skip rfl ?_
    try simp only [Act.put, List.getElem_toArray, List.getElem_cons_succ, List.getElem_cons_zero, List.setIfInBounds_toArray, List.set_cons_zero, List.set_cons_succ]
    refine spec_skip rfl ?_
    try simp only [Act.put, List.getElem_toArray, List.getElem_cons_succ, List.getElem_cons_zero, List.setIfInBounds_toArray, List.set_cons_zero, List.set_cons_succ]
    refine spec_skip rfl ?_
    try simp only [Act.put, List.getElem_toArray, List.getElem_cons_succ, List.getElem_cons_zero, List.setIfInBounds_toArray, List.set_cons_zero, List.set_cons_succ]
    refine spec_skip rfl ?_
    try simp only [Act.put, List.getElem_toArray, List.getElem_cons_succ, List.getElem_cons_zero, List.setIfInBounds_toArray, List.set_cons_zero, List.set_cons_succ]
    refine spec_skip rfl ?_
    try simp only [Act.put, List.getElem_toArray, List.getElem_cons_succ, List.getElem_cons_zero, List.setIfInBounds_toArray, List.set_cons_zero, List.set_cons_succ]
    refine spec_skip rfl ?_
    try simp only [Act.put, List.getElem_toArray, List.getElem_cons_succ, List.getElem_cons_zero, List.setIfInBounds_toArray, List.set_cons_zero, List.set_cons_succ]
    refine spec_d rfl (fun x _ => gives_run (by go_simp)) ?_
    try simp only [Act.put, List.getElem_toArray, List.getElem_cons_succ, List.getElem_cons_zero, List.setIfInBounds_toArray, List.set_cons_zero, List.set_cons_succ]
    refine spec_d rfl (fun x _ => gives_run (by go_simp)) ?_
    try simp only [Act.put, List.getElem_toArray, List.getElem_cons_succ, List.getElem_cons_zero, List.setIfInBounds_toArray, List.set_cons_zero, List.set_cons_succ]
    refine spec_d rfl (fun x _ => gives_run (by go_simp)) ?_
    try simp only [Act.put, List.getElem_toArray, List.getElem_cons_succ, List.getElem_cons_zero, List.setIfInBounds_toArray, List.set_cons_zero, List.set_cons_succ]
    refine spec_d rfl (fun x _ => gives_run (by go_simp)) ?_
    try simp only [Act.put, List.getElem_toArray, List.getElem_cons_succ, List.getElem_cons_zero, List.setIfInBounds_toArray, List.set_cons_zero, List.set_cons_succ]
    refine spec_d rfl (fun x _ => gives_run (by go_simp)) ?_
    try simp only [Act.put, List.getElem_toArray, List.getElem_cons_succ, List.getElem_cons_zero, List.setIfInBounds_toArray, List.set_cons_zero, List.set_cons_succ]
    refine spec_d rfl (fun x _ => gives_run (by go_simp)) ?_
    try simp only [Act.put, List.getElem_toArray, List.getElem_cons_succ, List.getElem_cons_zero, List.setIfInBounds_toArray, List.set_cons_zero, List.set_cons_succ]
    refine spec_d rfl (fun x _ => gives_run (by go_simp)) ?_
    try simp only [Act.put, List.getElem_toArray, List.getElem_cons_succ, List.getElem_cons_zero, List.setIfInBounds_toArray, List.set_cons_zero, List.set_cons_succ]
    refine spec_d rfl (fun x _ => gives_run (by go_simp)) ?_
    try simp only [Act.put, List.getElem_toArray, List.getElem_cons_succ, List.getElem_cons_zero, List.setIfInBounds_toArray, List.set_cons_zero, List.set_cons_succ]
    refine spec_d rfl (fun x _ => gives_run (by go_simp)) ?_
    try simp only [Act.put, List.getElem_toArray, List.getElem_cons_succ, List.getElem_cons_zero, List.setIfInBounds_toArray, List.set_cons_zero, List.set_cons_succ]
    refine spec_d rfl (fun x _ => gives_run (by go_simp)) ?_
    try simp only [Act.put, List.getElem_toArray, List.getElem_cons_succ, List.getElem_cons_zero, List.setIfInBounds_toArray, List.set_cons_zero, List.set_cons_succ]
    refine spec_d rfl (fun x _ => gives_run (by go_simp)) ?_
    try simp only [Act.put, List.getElem_toArray, List.getElem_cons_succ, List.getElem_cons_zero, List.setIfInBounds_toArray, List.set_cons_zero, List.set_cons_succ]
    refine spec_d rfl (fun x _ => gives_run (by go_simp)) ?_
    try simp only [Act.put, List.getElem_toArray, List.getElem_cons_succ, List.getElem_cons_zero, List.setIfInBounds_toArray, List.set_cons_zero, List.set_cons_succ]
    refine spec_d rfl (fun x _ => gives_run (by go_simp)) ?_
    try simp only [Act.put, List.getElem_toArray, List.getElem_cons_succ, List.getElem_cons_zero, List.setIfInBounds_toArray, List.set_cons_zero, List.set_cons_succ]
    refine spec_d rfl (fun x _ => gives_run (by go_simp)) ?_
    try simp only [Act.put, List.getElem_toArray, List.getElem_cons_succ, List.getElem_cons_zero, List.setIfInBounds_toArray, List.set_cons_zero, List.set_cons_succ]
    refine spec_d rfl (fun x _ => gives_run (by go_simp)) ?_
    try simp only [Act.put, List.getElem_toArray, List.getElem_cons_succ, List.getElem_cons_zero, List.setIfInBounds_toArray, List.set_cons_zero, List.set_cons_succ]
    refine spec_d rfl (fun x _ => gives_run (by go_simp)) ?_
    try simp only [Act.put, List.getElem_toArray, List.getElem_cons_succ, List.getElem_cons_zero, List.setIfInBounds_toArray, List.set_cons_zero, List.set_cons_succ]
    refine spec_d rfl (fun x _ => gives_run (by go_simp)) ?_
    try simp only [Act.put, List.getElem_toArray, List.getElem_cons_succ, List.getElem_cons_zero, List.setIfInBounds_toArray, List.set_cons_zero, List.set_cons_succ]
    refine spec_d rfl (fun x _ => gives_run (by go_simp)) ?_
    try simp only [Act.put, List.getElem_toArray, List.getElem_cons_succ, List.getElem_cons_zero, List.setIfInBounds_toArray, List.set_cons_zero, List.set_cons_succ]
    refine spec_d rfl (fun x _ => gives_run (by go_simp)) ?_
    try simp only [Act.put, List.getElem_toArray, List.getElem_cons_succ, List.getElem_cons_zero, List.setIfInBounds_toArray, List.set_cons_zero, List.set_cons_succ]
    refine spec_d rfl (fun x _ => gives_run (by go_simp)) ?_
    try simp only [Act.put, List.getElem_toArray, List.getElem_cons_succ, List.getElem_cons_zero, List.setIfInBounds_toArray, List.set_cons_zero, List.set_cons_succ]
    refine spec_d rfl (fun x _ => gives_run (by go_simp)) ?_
    try simp only [Act.put, List.getElem_toArray, List.getElem_cons_succ, List.getElem_cons_zero, List.setIfInBounds_toArray, List.set_cons_zero, List.set_cons_succ]
    refine spec_d rfl (fun x _ => gives_run (by go_simp)) ?_
    try simp only [Act.put, List.getElem_toArray, List.getElem_cons_succ, List.getElem_cons_zero, List.setIfInBounds_toArray, List.set_cons_zero, List.set_cons_succ]
    refine spec_skip rfl ?_
    try simp only [Act.put, List.getElem_toArray, List.getElem_cons_succ, List.getElem_cons_zero, List.setIfInBounds_toArray, List.set_cons_zero, List.set_cons_succ]
    refine spec_skip rfl ?_
    try simp only [Act.put, List.getElem_toArray, List.getElem_cons_succ, List.getElem_cons_zero, List.setIfInBounds_toArray, List.set_cons_zero, List.set_cons_succ]
    refine spec_skip rfl ?_
    try simp only [Act.put, List.getElem_toArray, List.getElem_cons_succ, List.getElem_cons_zero, List.setIfInBounds_toArray, List.set_cons_zero, List.set_cons_succ]
    refine spec_skip rfl ?_
    try simp only [Act.put, List.getElem_toArray, List.getElem_cons_succ, List.getElem_cons_zero, List.setIfInBounds_toArray, List.set_cons_zero, List.set_cons_succ]
    refine spec_skip rfl ?_
    try simp only [Act.put, List.getElem_toArray, List.getElem_cons_succ, List.getElem_cons_zero, List.setIfInBounds_toArray, List.set_cons_zero, List.set_cons_succ]
    refine spec_d rfl (fun x _ => gives_run (by go_simp)) ?_
    try simp only [Act.put, List.getElem_toArray, List.getElem_cons_succ, List.getElem_cons_zero, List.setIfInBounds_toArray, List.set_cons_zero, List.set_cons_succ]
    refine spec_d rfl (fun x _ => gives_run (by go_simp)) ?_
    try simp only [Act.put, List.getElem_toArray, List.getElem_cons_succ, List.getElem_cons_zero, List.setIfInBounds_toArray, List.set_cons_zero, List.set_cons_succ]
    refine spec_end (fun x hx => ?_)
    clear hx
    refine wpAny_done (by kernel_rfl) ?_ _
    have HBX : Hid (Below wa.heap.size wa x.world) := Lib.hid ((bel_drew wa).trans x.below)
    clear J1 q1 q2 q3 q4 q44 q5 q6
    generalize x.world = wb at HBX ⊢
    clear x
    have HBB := Lib.hid (HBA.out.trans (HBX.out.mono HBA.out.size))
    by_cases b1 : ticks < 1
    · have hbg : bg = 0 := by rw [← HBG.out]; exact beg_out (.inr (.inr (.inl b1)))
      subst hbg
      have b2 : ¬ (0 : Int) < ticks := by omega
      go_wp2_with fail
      refine (one43 _ (HLF.out _ HBB.out)).mono ?_
      rintro e' wo ⟨rfl, hbo⟩
      have HBO := Lib.hid (HBB.out.trans (hbo.mono HBB.out.size))
      clear hbo
      go_wp2
      go_ret
      exact ⟨rfl, HBO.out⟩
    by_cases b2 : 60000 < ticks
    · have b3 : (0 : Int) < ticks := by omega
      go_wp2_with fail
      refine (one43 _ (HLF.out _ HBB.out)).mono ?_
      rintro e' wo ⟨rfl, hbo⟩
      have HBO := Lib.hid (HBB.out.trans (hbo.mono HBB.out.size))
      clear hbo
      go_wp2
      go_ret
      exact ⟨rfl, HBO.out⟩
    have HBE : Hid (bg = if ticks ≤ y.s then 0 else (ticks - 1 - y.s) / T + 1) := Lib.hid (by rw [← HBG.out]; exact beg_in HYK.out (by omega) (by omega))
    have HTS : Hid (1 ≤ ticks ∧ ticks ≤ 60000) := Lib.hid (by omega)
    have HIFF : Hid (∀ i : Nat, (i : Int) ≤ bg → ((i : Int) < bg ↔ y.s + (i : Int) * T < ticks)) := Lib.hid (fun i hi => by
      have h := HBE.out
      by_cases hc : ticks ≤ y.s
      · rw [if_pos hc] at h
        have : (i : Int) = 0 := by omega
        rw [this]
        omega
      · rw [if_neg hc] at h
        rw [h]
        exact beg_lt HT3.out.1 (by omega))
    have HBG0 : Hid (0 ≤ bg) := Lib.hid (by
      have h := HBE.out
      by_cases hc : ticks ≤ y.s
      · rw [if_pos hc] at h; omega
      · rw [if_neg hc] at h
        have := Int.ediv_nonneg (show 0 ≤ ticks - 1 - y.s by omega) (show 0 ≤ T by have := HT3.out; omega)
        omega)
    have j1 := JK.out wb HBX.out
    go_wp2_with fail
    clear j1 b1 b2
    go_loopw [18, 19] (fun q x wx => ∃ i : Nat, (i : Int) ≤ bg ∧ q = .int .i64 i ∧ x = .int .i64 (y.s + (i : Int) * T) ∧ wb = wx) (fun q _ _ => bg.toNat - (intOf q).toNat)
    case atStart => exact ⟨0, by have := HBG0.out; omega, rfl, by simp, rfl⟩
    case round =>
      obtain ⟨i, hi, rfl, rfl, rfl⟩ := hrel
      have hif := HIFF.out i hi
      obtain ⟨X, hX⟩ : ∃ X, y.s + (i : Int) * T = X := ⟨_, rfl⟩
      have HXT : Hid (y.s + ((i + 1 : Nat) : Int) * T = X + T) := Lib.hid (by rw [← hX]; have : ((i + 1 : Nat) : Int) = (i : Int) + 1 := by omega
                                                                              rw [this, Int.add_mul, Int.one_mul]; omega)
      rw [hX] at hif ⊢
      have HX0 : Hid (0 ≤ X) := Lib.hid (by rw [← hX]; have h1 := HYB.out; have h2 := Int.mul_nonneg (show 0 ≤ (i : Int) by omega) (show 0 ≤ T by have := HT3.out; omega); omega)
      clear hX
      by_cases hlt : (i : Int) < bg
      · have hxt : X < ticks := hif.1 hlt
        have e1 : IntKind.i64.wrap ((i : Int) + 1) = (i : Int) + 1 := IntWalk.i64_in _ (by
          have h := HBE.out
          have := HTS.out
          by_cases hc : ticks ≤ y.s
          · rw [if_pos hc] at h; omega
          · rw [if_neg hc] at h
            have h2 := Int.ediv_le_self T (show 0 ≤ ticks - 1 - y.s by omega)
            have := HYB.out
            omega)
        have e2 : IntKind.i64.wrap (X + T) = X + T := IntWalk.i64_in _ (by have := HTS.out; have := HT3.out; have := HX0.out; omega)
        clear hif
        go_wp2
        go_roundw
        case rel => exact ⟨i + 1, by omega, by go_num, by rw [HXT.out], by first | rfl | trivial⟩
        case measure => simp [intOf]; omega
      · have hie : bg = (i : Int) := by omega
        have hxt : ¬ X < ticks := fun h => hlt (hif.2 h)
        subst hie
        clear hif hi hlt
        go_wp2_with fail
        refine (one43 _ (HLF.out _ HBB.out)).mono ?_
        rintro e' wo ⟨rfl, hbo⟩
        have HBO := Lib.hid (HBB.out.trans (hbo.mono HBB.out.size))
        clear hbo
        go_wp2
        go_ret
        exact ⟨rfl, HBO.out⟩
  · as_aux_lemma =>
    have q6 : (nx' != y.s) = true := by simpa using hB
    have q7 : ¬ tick ≤ nx' - T := by omega
    clear hB hC HN5
    refine wp_region_specL 46 [.d (.int .i64 nx'), .d (.int .i64 tick), .d (.bool false), .d (.bool false), .d (.int .i64 nx'), .d (.int .i64 tick), .d (.int .i64 (nx' - tick)), .d (.int .i64 T), .d (.bool false), .d (.bool false), .d undef, .d undef, .d undef, .d undef, .d undef, .d undef, .d undef, .d (.bool false), .d (.bool false), .d (.bool false), .d (.int .i64 nx'), .d (.int .i64 T), .d (.int .i64 y.s), .d (.slice (some ⟨b, off, none⟩) N c9), .d (.int .i64 (s : Int)), .d (.pointer (some ⟨b, off + s * 8, none⟩)), .d (.pointer (some ⟨b, off + s * 8 + 1, none⟩)), .d (.int .i64 y.s), .d (.bool false), .d (.bool false), .d (.bool false), .d (.int .i64 nx'), .d (.slice (some ⟨b, off, none⟩) N c9), .d (.int .i64 (s : Int)), .d (.pointer (some ⟨b, off + s * 8, none⟩)), .d (.pointer (some ⟨b, off + s * 8 + 1, none⟩)), .d (.int .i64 y.s), .d (.bool true), .d (.bool true), .d (.int .i64 nx'), .d (.int .i64 T), .d (.int .i64 (nx' - T)), .d (.int .i64 tick), .d (.bool false), .d (.bool false), .d (.bool false)] (by kernel_rfl) (by kernel_rfl) ?_
    refine spec_d rfl (fun x _ => gives_run (by go_simp)) ?_
    try simp only [Act.put, List.getElem_toArray, List.getElem_cons_succ, List.getElem_cons_zero, List.setIfInBounds_toArray, List.set_cons_zero, List.set_cons_succ]
    refine spec_d rfl (fun x _ => gives_run (by go_simp)) ?_
    try simp only [Act.put, List.getElem_toArray, List.getElem_cons_succ, List.getElem_cons_zero, List.setIfInBounds_toArray, List.set_cons_zero, List.set_cons_succ]
    refine spec_d rfl (fun x _ => gives_run (by go_simp)) ?_
    try simp only [Act.put, List.getElem_toArray, List.getElem_cons_succ, List.getElem_cons_zero, List.setIfInBounds_toArray, List.set_cons_zero, List.set_cons_succ]
    refine spec_d rfl (fun x _ => gives_run (by go_simp)) ?_
    try simp only [Act.put, List.getElem_toArray, List.getElem_cons_succ, List.getElem_cons_zero, List.setIfInBounds_toArray, List.set_cons_zero, List.set_cons_succ]
    refine spec_d rfl (fun x _ => gives_run (by go_simp)) ?_
    try simp only [Act.put, List.getElem_toArray, List.getElem_cons_succ, List.getElem_cons_zero, List.setIfInBounds_toArray, List.set_cons_zero, List.set_cons_succ]
    refine spec_d rfl (fun x _ => gives_run (by go_simp)) ?_
    try simp only [Act.put, List.getElem_toArray, List.getElem_cons_succ, List.getElem_cons_zero, List.setIfInBounds_toArray, List.set_cons_zero, List.set_cons_succ]
    refine spec_d rfl (fun x _ => gives_run (by go_simp)) ?_
    try simp only [Act.put, List.getElem_toArray, List.getElem_cons_succ, List.getElem_cons_zero, List.setIfInBounds_toArray, List.set_cons_zero, List.set_cons_succ]
    refine spec_d rfl (fun x _ => gives_run (by go_simp)) ?_
    try simp only [Act.put, List.getElem_toArray, List.getElem_cons_succ, List.getElem_cons_zero, List.setIfInBounds_toArray, List.set_cons_zero, List.set_cons_succ]
    refine spec_d rfl (fun x _ => gives_run (by go_simp)) ?_
    try simp only [Act.put, List.getElem_toArray, List.getElem_cons_succ, List.getElem_cons_zero, List.setIfInBounds_toArray, List.set_cons_zero, List.set_cons_succ]
    refine spec_d rfl (fun x _ => gives_run (by go_simp)) ?_
    try simp only [Act.put, List.getElem_toArray, List.getElem_cons_succ, List.getElem_cons_zero, List.setIfInBounds_toArray, List.set_cons_zero, List.set_cons_succ]
    refine spec_skip rfl ?_
    try simp only [Act.put, List.getElem_toArray, List.getElem_cons_succ, List.getElem_cons_zero, List.setIfInBounds_toArray, List.set_cons_zero, List.set_cons_succ]
    refine spec_skip rfl ?_
    try simp only [Act.put, List.getElem_toArray, List.getElem_cons_succ, List.getElem_cons_zero, List.setIfInBounds_toArray, List.set_cons_zero, List.set_cons_succ]
    refine spec_skip rfl ?_
    try simp only [Act.put, List.getElem_toArray, List.getElem_cons_succ, List.getElem_cons_zero, List.setIfInBounds_toArray, List.set_cons_zero, List.set_cons_succ]
    refine spec_skip rfl ?_
    try simp only [Act.put, List.getElem_toArray, List.getElem_cons_succ, List.getElem_cons_zero, List.setIfInBounds_toArray, List.set_cons_zero, List.set_cons_succ]
    refine spec_skip rfl ?_
    try simp only [Act.put, List.getElem_toArray, List.getElem_cons_succ, List.getElem_cons_zero, List.setIfInBounds_toArray, List.set_cons_zero, List.set_cons_succ]
    refine spec_skip rfl ?_
    try simp only [Act.put, List.getElem_toArray, List.getElem_cons_succ, List.getElem_cons_zero, List.setIfInBounds_toArray, List.set_cons_zero, List.set_cons_succ]
    refine spec_skip rfl ?_
    try simp only [Act.put, List.getElem_toArray, List.getElem_cons_succ, List.getElem_cons_zero, List.setIfInBounds_toArray, List.set_cons_zero, List.set_cons_succ]
    refine spec_d rfl (fun x _ => gives_run (by go_simp)) ?_
    try simp only [Act.put, List.getElem_toArray, List.getElem_cons_succ, List.getElem_cons_zero, List.setIfInBounds_toArray, List.set_cons_zero, List.set_cons_succ]
    refine spec_d rfl (fun x _ => gives_run (by go_simp)) ?_
    try simp only [Act.put, List.getElem_toArray, List.getElem_cons_succ, List.getElem_cons_zero, List.setIfInBounds_toArray, List.set_cons_zero, List.set_cons_succ]
    refine spec_d rfl (fun x _ => gives_run (by go_simp)) ?_
    try simp only [Act.put, List.getElem_toArray, List.getElem_cons_succ, List.getElem_cons_zero, List.setIfInBounds_toArray, List.set_cons_zero, List.set_cons_succ]
    refine spec_d rfl (fun x _ => gives_run (by go_simp)) ?_
    try simp only [Act.put, List.getElem_toArray, List.getElem_cons_succ, List.getElem_cons_zero, List.setIfInBounds_toArray, List.set_cons_zero, List.set_cons_succ]
    refine spec_d rfl (fun x _ => gives_run (by go_simp)) ?_
    try simp only [Act.put, List.getElem_toArray, List.getElem_cons_succ, List.getElem_cons_zero, List.setIfInBounds_toArray, List.set_cons_zero, List.set_cons_succ]
    refine spec_d rfl (fun x _ => gives_run (by go_simp)) ?_
    try simp only [Act.put, List.getElem_toArray, List.getElem_cons_succ, List.getElem_cons_zero, List.setIfInBounds_toArray, List.set_cons_zero, List.set_cons_succ]
    refine spec_d rfl (fun x _ => gives_run (by go_simp)) ?_
    try simp only [Act.put, List.getElem_toArray, List.getElem_cons_succ, List.getElem_cons_zero, List.setIfInBounds_toArray, List.set_cons_zero, List.set_cons_succ]
    refine spec_d rfl (fun x _ => gives_run (by go_simp)) ?_
    try simp only [Act.put, List.getElem_toArray, List.getElem_cons_succ, List.getElem_cons_zero, List.setIfInBounds_toArray, List.set_cons_zero, List.set_cons_succ]
    refine spec_d rfl (fun x _ => gives_run (by go_simp)) ?_
    try simp only [Act.put, List.getElem_toArray, List.getElem_cons_succ, List.getElem_cons_zero, List.setIfInBounds_toArray, List.set_cons_zero, List.set_cons_succ]
    refine spec_d rfl (fun x _ => gives_run (by go_simp)) ?_
    try simp only [Act.put, List.getElem_toArray, List.getElem_cons_succ, List.getElem_cons_zero, List.setIfInBounds_toArray, List.set_cons_zero, List.set_cons_succ]
    refine spec_d rfl (fun x _ => gives_run (by go_simp)) ?_
    try simp only [Act.put, List.getElem_toArray, List.getElem_cons_succ, List.getElem_cons_zero, List.setIfInBounds_toArray, List.set_cons_zero, List.set_cons_succ]
    refine spec_d rfl (fun x _ => gives_run (by go_simp)) ?_
    try simp only [Act.put, List.getElem_toArray, List.getElem_cons_succ, List.getElem_cons_zero, List.setIfInBounds_toArray, List.set_cons_zero, List.set_cons_succ]
    refine spec_d rfl (fun x _ => gives_run (by go_simp)) ?_
    try simp only [Act.put, List.getElem_toArray, List.getElem_cons_succ, List.getElem_cons_zero, List.setIfInBounds_toArray, List.set_cons_zero, List.set_cons_succ]
    refine spec_d rfl (fun x _ => gives_run (by go_simp)) ?_
    try simp only [Act.put, List.getElem_toArray, List.getElem_cons_succ, List.getElem_cons_zero, List.setIfInBounds_toArray, List.set_cons_zero, List.set_cons_succ]
    refine spec_d rfl (fun x _ => gives_run (by go_simp)) ?_
    try simp only [Act.put, List.getElem_toArray, List.getElem_cons_succ, List.getElem_cons_zero, List.setIfInBounds_toArray, List.set_cons_zero, List.set_cons_succ]
    refine spec_d rfl (fun x _ => gives_run (by go_simp)) ?_
    try simp only [Act.put, List.getElem_toArray, List.getElem_cons_succ, List.getElem_cons_zero, List.setIfInBounds_toArray, List.set_cons_zero, List.set_cons_succ]
    refine spec_d rfl (fun x _ => gives_run (by go_simp)) ?_
    try simp only [Act.put, List.getElem_toArray, List.getElem_cons_succ, List.getElem_cons_zero, List.setIfInBounds_toArray, List.set_cons_zero, List.set_cons_succ]
    refine spec_d rfl (fun x _ => gives_run (by go_simp)) ?_
    try simp only [Act.put, List.getElem_toArray, List.getElem_cons_succ, List.getElem_cons_zero, List.setIfInBounds_toArray, List.set_cons_zero, List.set_cons_succ]
    refine spec_d rfl (fun x _ => gives_run (by go_simp)) ?_
    try simp only [Act.put, List.getElem_toArray, List.getElem_cons_succ, List.getElem_cons_zero, List.setIfInBounds_toArray, List.set_cons_zero, List.set_cons_succ]
    refine spec_d rfl (fun x _ => gives_run (by go_simp)) ?_
    try simp only [Act.put, List.getElem_toArray, List.getElem_cons_succ, List.getElem_cons_zero, List.setIfInBounds_toArray, List.set_cons_zero, List.set_cons_succ]
    refine spec_d rfl (fun x _ => gives_run (by go_simp)) ?_
    try simp only [Act.put, List.getElem_toArray, List.getElem_cons_succ, List.getElem_cons_zero, List.setIfInBounds_toArray, List.set_cons_zero, List.set_cons_succ]
    refine spec_d rfl (fun x _ => gives_run (by go_simp)) ?_
    try simp only [Act.put, List.getElem_toArray, List.getElem_cons_succ, List.getElem_cons_zero, List.setIfInBounds_toArray, List.set_cons_zero, List.set_cons_succ]
    refine spec_d rfl (fun x _ => gives_run (by go_simp)) ?_
    try simp only [Act.put, List.getElem_toArray, List.getElem_cons_succ, List.getElem_cons_zero, List.setIfInBounds_toArray, List.set_cons_zero, List.set_cons_succ]
    refine spec_d rfl (fun x _ => gives_run (by go_simp)) ?_
    try simp only [Act.put, List.getElem_toArray, List.getElem_cons_succ, List.getElem_cons_zero, List.setIfInBounds_toArray, List.set_cons_zero, List.set_cons_succ]
    refine spec_d rfl (fun x _ => gives_run (by go_simp)) ?_
    try simp only [Act.put, List.getElem_toArray, List.getElem_cons_succ, List.getElem_cons_zero, List.setIfInBounds_toArray, List.set_cons_zero, List.set_cons_succ]
    refine spec_d rfl (fun x _ => gives_run (by go_simp)) ?_
    try simp only [Act.put, List.getElem_toArray, List.getElem_cons_succ, List.getElem_cons_zero, List.setIfInBounds_toArray, List.set_cons_zero, List.set_cons_succ]
    refine spec_d rfl (fun x _ => gives_run (by go_simp)) ?_
    try simp only [Act.put, List.getElem_toArray, List.getElem_cons_succ, List.getElem_cons_zero, List.setIfInBounds_toArray, List.set_cons_zero, List.set_cons_succ]
    refine spec_d rfl (fun x _ => gives_run (by go_simp)) ?_
    try simp only [Act.put, List.getElem_toArray, List.getElem_cons_succ, List.getElem_cons_zero, List.setIfInBounds_toArray, List.set_cons_zero, List.set_cons_succ]
    refine spec_d rfl (fun x _ => gives_run (by go_simp)) ?_
    try simp only [Act.put, List.getElem_toArray, List.getElem_cons_succ, List.getElem_cons_zero, List.setIfInBounds_toArray, List.set_cons_zero, List.set_cons_succ]
    refine spec_end (fun x hx => ?_)
    clear hx
    refine wpAny_done (by kernel_rfl) ?_ _
    have HBX : Hid (Below wa.heap.size wa x.world) := Lib.hid ((bel_drew wa).trans x.below)
    clear J1 q1 q2 q3 q4 q44 q5 q6 q7
    generalize x.world = wb at HBX ⊢
    clear x
    have HBB := Lib.hid (HBA.out.trans (HBX.out.mono HBA.out.size))
    by_cases b1 : ticks < 1
    · have hbg : bg = 0 := by rw [← HBG.out]; exact beg_out (.inr (.inr (.inl b1)))
      subst hbg
      have b2 : ¬ (0 : Int) < ticks := by omega
      go_wp2_with fail
      refine (one43 _ (HLF.out _ HBB.out)).mono ?_
      rintro e' wo ⟨rfl, hbo⟩
      have HBO := Lib.hid (HBB.out.trans (hbo.mono HBB.out.size))
      clear hbo
      go_wp2
      go_ret
      exact ⟨rfl, HBO.out⟩
    by_cases b2 : 60000 < ticks
    · have b3 : (0 : Int) < ticks := by omega
      go_wp2_with fail
      refine (one43 _ (HLF.out _ HBB.out)).mono ?_
      rintro e' wo ⟨rfl, hbo⟩
      have HBO := Lib.hid (HBB.out.trans (hbo.mono HBB.out.size))
      clear hbo
      go_wp2
      go_ret
      exact ⟨rfl, HBO.out⟩
    have HBE : Hid (bg = if ticks ≤ y.s then 0 else (ticks - 1 - y.s) / T + 1) := Lib.hid (by rw [← HBG.out]; exact beg_in HYK.out (by omega) (by omega))
    have HTS : Hid (1 ≤ ticks ∧ ticks ≤ 60000) := Lib.hid (by omega)
    have HIFF : Hid (∀ i : Nat, (i : Int) ≤ bg → ((i : Int) < bg ↔ y.s + (i : Int) * T < ticks)) := Lib.hid (fun i hi => by
      have h := HBE.out
      by_cases hc : ticks ≤ y.s
      · rw [if_pos hc] at h
        have : (i : Int) = 0 := by omega
        rw [this]
        omega
      · rw [if_neg hc] at h
        rw [h]
        exact beg_lt HT3.out.1 (by omega))
    have HBG0 : Hid (0 ≤ bg) := Lib.hid (by
      have h := HBE.out
      by_cases hc : ticks ≤ y.s
      · rw [if_pos hc] at h; omega
      · rw [if_neg hc] at h
        have := Int.ediv_nonneg (show 0 ≤ ticks - 1 - y.s by omega) (show 0 ≤ T by have := HT3.out; omega)
        omega)
    have j1 := JK.out wb HBX.out
    go_wp2_with fail
    clear j1 b1 b2
    go_loopw [18, 19] (fun q x wx => ∃ i : Nat, (i : Int) ≤ bg ∧ q = .int .i64 i ∧ x = .int .i64 (y.s + (i : Int) * T) ∧ wb = wx) (fun q _ _ => bg.toNat - (intOf q).toNat)
    case atStart => exact ⟨0, by have := HBG0.out; omega, rfl, by simp, rfl⟩
    case round =>
      obtain ⟨i, hi, rfl, rfl, rfl⟩ := hrel
      have hif := HIFF.out i hi
      obtain ⟨X, hX⟩ : ∃ X, y.s + (i : Int) * T = X := ⟨_, rfl⟩
      have HXT : Hid (y.s + ((i + 1 : Nat) : Int) * T = X + T) := Lib.hid (by rw [← hX]; have : ((i + 1 : Nat) : Int) = (i : Int) + 1 := by omega
                                                                              rw [this, Int.add_mul, Int.one_mul]; omega)
      rw [hX] at hif ⊢
      have HX0 : Hid (0 ≤ X) := Lib.hid (by rw [← hX]; have h1 := HYB.out; have h2 := Int.mul_nonneg (show 0 ≤ (i : Int) by omega) (show 0 ≤ T by have := HT3.out; omega); omega)
      clear hX
      by_cases hlt : (i : Int) < bg
      · have hxt : X < ticks := hif.1 hlt
        have e1 : IntKind.i64.wrap ((i : Int) + 1) = (i : Int) + 1 := IntWalk.i64_in _ (by
          have h := HBE.out
          have := HTS.out
          by_cases hc : ticks ≤ y.s
          · rw [if_pos hc] at h; omega
          · rw [if_neg hc] at h
            have h2 := Int.ediv_le_self T (show 0 ≤ ticks - 1 - y.s by omega)
            have := HYB.out
            omega)
        have e2 : IntKind.i64.wrap (X + T) = X + T := IntWalk.i64_in _ (by have := HTS.out; have := HT3.out; have := HX0.out; omega)
        clear hif
        go_wp2
        go_roundw
        case rel => exact ⟨i + 1, by omega, by go_num, by rw [HXT.out], by first | rfl | trivial⟩
        case measure => simp [intOf]; omega
      · have hie : bg = (i : Int) := by omega
        have hxt : ¬ X < ticks := fun h => hlt (hif.2 h)
        subst hie
        clear hif hi hlt
        go_wp2_with fail
        refine (one43 _ (HLF.out _ HBB.out)).mono ?_
        rintro e' wo ⟨rfl, hbo⟩
        have HBO := Lib.hid (HBB.out.trans (hbo.mono HBB.out.size))
        clear hbo
        go_wp2
        go_ret
        exact ⟨rfl, HBO.out⟩
theorem three_in {w : World} {l : List Value} (h : Reads w (.ar 3 (.int .i64)) l) : ∃ x y z : Int, (⟨l⟩ : Array Value) = #[.int .i64 x, .int .i64 y, .int .i64 z] := by
  obtain ⟨rows, hl, rfl, hr⟩ := h
  match rows, hl with
  | [r0, r1, r2], _ =>
    obtain ⟨a, rfl, _⟩ := hr r0 (by simp)
    obtain ⟨b, rfl, _⟩ := hr r1 (by simp)
    obtain ⟨c, rfl, _⟩ := hr r2 (by simp)
    exact ⟨a, b, c, rfl⟩
theorem walk (cs : Array Value) (ver : Int) (cs2 : Array Value) (w : World) (hU : Ld w) (hr : Reads w shS cs.toList) (a0 : -9223372036854775808 ≤ ver) (a1 : ver ≤ 9223372036854775807) (hr2 : Reads w (.ar 3 (.int .i64)) cs2.toList) :
    Calls Tryd.prog 3 #[.agg cs, .int .i64 ver, .agg cs2] w fun e w' => e = .returned (.bool true) ∧ Below w.heap.size w w' := by
  obtain ⟨md, A0, n0, c0, A1, n1, c1, ws0, ws1, rfl, hW0, hW1, h0, h1⟩ := sched_in hr
  obtain ⟨l⟩ := cs2
  obtain ⟨x, y, z, h3⟩ := three_in (l := l) hr2
  rw [h3]
  exact go md A0 n0 c0 A1 n1 c1 ws0 ws1 ver x y z w hU hW0 hW1 h0 h1 (sched_md hr).2
theorem door_met (os : Os) (args : Array Value) : laidMetH Tryd.prog Rows.calendarTellsRow.laid ((World.doorLaid Tryd.prog 400 os).forCall (fun _ _ => 0) ⟨#[], args, []⟩).memory :=
  laidMetH_of_parts3 (fuel := 8) (laidMet_of_run' 8 (by kernel_rfl) (by kernel_rfl)) (by kernel_rfl) (by kernel_rfl)
set_option maxRecDepth 100000 in
theorem lifted (os : Os) (started : os.Started) (H : Type) (enc : TypeId × Value → H) :
    ReturnsInHanded {} Tryd.checked os 3 .any (fun w args => (Rows.calendarTellsSpec.pre enc Tryd.prog Tryd.f3 [] false w args ∧ laidMetH Tryd.prog Rows.calendarTellsRow.laid w) ∧ sizedMet enc Tryd.prog Tryd.f3 (OpenSpec.ofChange Rows.calendarTellsSpec) false w args)
      (Rows.calendarTellsSpec.post enc Tryd.prog Tryd.f3 false true false false) := by
  refine returnsInHanded_of_change_and (C := Tryd.checked) (X := fun w _ => laidMetH Tryd.prog Rows.calendarTellsRow.laid w) (fun _ _ _ hh h => h.of_heap hh) own started (by kernel_rfl) Tryd.func3
    (ChangeSpec.witness_shaped (enc := enc) (C := Tryd.checked) (os := os) (X := fun w _ => laidMetH Tryd.prog Rows.calendarTellsRow.laid w) false (World.doorLaid Tryd.prog 400 os) #[.agg #[.int .i64 0, .slice none 0 0, .slice none 0 0], .int .i64 0, .agg #[.int .i64 0, .int .i64 0, .int .i64 0]] 8 rfl (World.shaped_of_RefB (by kernel_rfl) (by kernel_rfl)) (by kernel_rfl) (by kernel_rfl) (by kernel_rfl) (door_met os _)) ?_
  intro W base args ds gs before hval0 hW _ _ hL _
  have hval : ∀ (j : Nat) t v, Tryd.f3.params[j]? = some t → args[j]? = some v → Value.okWide Tryd.prog W .any base t v := hval0
  have hW' := hW
  obtain ⟨p, q, hA0, hV, rfl, hfz, hnd⟩ := hW
  have hA : DataW.TrodAll enc Tryd.prog W 0 (fun _ => true) true Tryd.f3.params.toList args.toList ds p := hA0
  rw [Tryd.params3] at hA hval
  obtain ⟨v0, vs0, d0, ds0, p0, q0, hargs, rfl, rfl, h0, r0⟩ := trodAll_cons hA
  obtain ⟨v1, vs1, d1, ds1, p1, q1, rfl, rfl, rfl, h1, r1⟩ := trodAll_cons r0
  obtain ⟨v2, vs2, d2, ds2, p2, q2, rfl, rfl, rfl, h2, r2⟩ := trodAll_cons r1
  obtain ⟨rfl, rfl, rfl⟩ := trodAll_nil r2
  obtain rfl : args = #[v0, v1, v2] := by cases args; simp_all
  obtain ⟨rfl, rfl⟩ := trodVars_none hV
  have k0 := h0
  have lt0 : ∀ x ∈ p0, x.block < W.heap.size := by obtain ⟨m, hm⟩ := k0; exact DataW.trod_lt m _ _ _ hm
  obtain ⟨s, rfl⟩ := okWide_agg (by first | exact .inl ⟨_, Tryd.underlying25⟩ | exact .inr ⟨_, _, Tryd.underlying25⟩) (hval 0 25 v0 rfl rfl)
  have rd0 := reads_cells (sh := shS) 30 (by kernel_rfl) k0
  obtain ⟨version, rfl, rfl, rfl, wf1⟩ := open_int Tryd.underlying3 (hval 1 3 v1 rfl rfl) h1
  have bd1 := bounds_i64 wf1
  have k2 := h2
  have lt2 : ∀ x ∈ p2, x.block < W.heap.size := by obtain ⟨m, hm⟩ := k2; exact DataW.trod_lt m _ _ _ hm
  obtain ⟨a, rfl⟩ := okWide_agg (by first | exact .inl ⟨_, Tryd.underlying26⟩ | exact .inr ⟨_, _, Tryd.underlying26⟩) (hval 2 26 v2 rfl rfl)
  have rd2 := reads_cells (sh := .ar 3 (.int .i64)) 30 (by kernel_rfl) k2
  clear hA0 hval0
  refine (walk s version a W (of_laid hL) rd0 bd1.1 bd1.2 rd2).mono fun e W' ⟨he, bel⟩ => ?_
  subst he
  exact ⟨_, rfl, _, _, _, [], _, [], hW', trodAll_mk1 (shut_bool Tryd.underlying4 _), (trodAll_cons_mk (Below.trod laidOut (by kernel_rfl) (of_decide_eq_true (by kernel_rfl)) k0 bel lt0) (trodAll_cons_mk (shut_int Tryd.underlying3 wf1) (trodAll_cons_mk (Below.trod laidOut (by kernel_rfl) (of_decide_eq_true (by kernel_rfl)) k2 bel lt2) trodAll_mk0))), rfl, bel.frame _, fun h => by cases h⟩

theorem over : Rows.calendarTellsRow.holds Tryd.pinned (OpenSpec.ofChange Rows.calendarTellsSpec) :=
  OpenClaim.holds_of_wide 3 Tryd.f3 rfl rfl rfl rfl rfl rfl rfl ⟨rfl, rfl, rfl, rfl, rfl⟩ rfl rfl rfl rfl rfl (by kernel_rfl) Tryd.func3 (by kernel_rfl)
    (of_decide_eq_true (by kernel_rfl)) (by unfold Func.isWrapper; first | (rw [if_pos (by decide +kernel)]; kernel_rfl) | (rw [if_neg (by decide +kernel)]; exact ⟨rfl, rfl⟩))
    (fun os started H enc _ => lifted os started H enc)

/-- The card: what the row lists is tied to the program's text. -/
theorem proved : Rows.CalendarTellsCardSaid :=
  Claim7.holds_tied_plain_at .later [] [.data,.data,.data] true Rows.calendarTellsCard.stood.harness false
    over (fun _ h => by cases h) (by kernel_rfl) (fun _ h => by cases h) calendarTells_row_tie rfl ⟨rfl, rfl⟩ (by kernel_rfl) rfl
    (fun f fn hf hfn => by
      obtain rfl : f = 3 := Option.some.inj ((show Tryd.prog.funcNamed "busbar/busbarlaw43.CalendarTells" = some 3 by kernel_rfl).symm.trans hf) |>.symm
      obtain rfl : fn = Tryd.f3 := (Option.some.inj (Tryd.func3.symm.trans hfn)).symm
      exact ⟨by kernel_rfl, fun j t ht => by
        rw [Tryd.params3] at ht
        have hm : t ∈ [25, 3, 26] := by simpa using Array.mem_of_getElem? ht
        have hall : ([25, 3, 26].all fun u => !Tryd.prog.wantsStandIn u) = true := by kernel_rfl
        exact (show Tryd.prog.wantsStandIn t = false by simpa using List.all_eq_true.1 hall t hm)⟩)
    (by kernel_rfl)
end Go.Proofs.YtkankdecbefenaaDoor.lawCalendarTells
