/- Any count has the document's suspect, shares, and line: for every count and line; no condition. -/
import Derived.RegionTactic
import Derived.IntWalk
import Derived.Deep.DeepCutAuto
import Derived.Deep.CutBlock
import Derived.Stop.LaidErr
import Derived.Test.YtanhblokhcaoiaaDoorDgF
import Derived.Test.YtanhblokhcaoiaaDoorSh
import Derived.Test.YtanhblokhcaoiaaDoorShAr
import Derived.Test.YtanhblokhcaoiaaDoorTie
import Derived.Test.YtanhblokhcaoiaaDoorCards
import Derived.Test.YtanhblokhcaoiaaDoorLaid
import Derived.LaidMore
import Derived.SevenTiedAt
import Derived.Stop.Joined
import Derived.Test.YtanhblokhcaoiaaDoorRows
import Derived.WalkKit
import Derived.ProofKit
import Derived.OpenShut
import Derived.ShutString
import Derived.ChangeOld
import Derived.Below
namespace Go.Proofs.YtanhblokhcaoiaaDoor.lawDiagTells
open Go.ChangeShapes Go.WideShapes Go.ChangeAt Go.RowKit Base
open Go.ChangeMaps (open_string shut_string)
set_option linter.unusedVariables false
set_option linter.unusedSimpArgs false
theorem own : ownKnob Tryd.prog.godebug = none := by kernel_rfl
theorem laidOut : laidOutB Tryd.prog = true := by kernel_rfl
open Dg

abbrev shC : Sh := .fld (.int .i64) (.fld (.ar 4 (.int .i64)) .nil)
def Ld (w : World) : Prop := Txt.Lf w ∧ Nm w
theorem gNm : Tryd.prog.globalNamed "busbar/wires.names" = some 0 := by kernel_rfl
theorem tNm : (Tryd.prog.globals[0]?).map (·.type) = some 88 := by kernel_rfl
theorem of_laid {W : World} (h : laidMetH Tryd.prog Rows.diagTellsRow.laid W) : Ld W := by
  rw [MakeChecks.laidMetH_plain _ _ _ (by kernel_rfl)] at h
  have h1 := laidMet.tail (laidMet.tail (laidMet.tail h))
  refine ⟨Lib.tabIs_of_head (g := 1) (t := 125) (e := 75) (n := 20) (by kernel_rfl) (by kernel_rfl) Tryd.underlying125 Tryd.underlying75 (by kernel_rfl) (by kernel_rfl) h1, ?_⟩
  obtain ⟨ps, ⟨g0, t0, cs0, f0, p0, q0, hg0, ht0, hv0, hd0, _, _⟩, _⟩ := h
  obtain rfl := Option.some.inj (gNm.symm.trans hg0)
  obtain rfl := Option.some.inj (tNm.symm.trans ht0)
  have e := exact_cells (sh := .ar 4 .str) 10 rfl (by kernel_rfl) hd0 rfl
  obtain ⟨l0⟩ := cs0
  simp at e
  subst e
  exact ⟨by simpa [nmL] using World.var?_cell hg0 hv0 0, by simpa [nmL] using World.var?_cell hg0 hv0 1, by simpa [nmL] using World.var?_cell hg0 hv0 2, by simpa [nmL] using World.var?_cell hg0 hv0 3⟩
theorem count_in {w : World} {cs : Array Value} (h : Reads w shC cs.toList) : ∃ e a b c d : Int, cs = #[.int .i64 e, .int .i64 a, .int .i64 b, .int .i64 c, .int .i64 d] ∧ (-9223372036854775808 ≤ e ∧ e ≤ 9223372036854775807) ∧ ∀ i, oF a b c d i ≤ 9223372036854775807 := by
  obtain ⟨x, y, e1, ⟨n, rfl, hn⟩, x2, y2, rfl, ha, hz⟩ := h
  obtain rfl := (show y2 = [] from hz)
  obtain ⟨xs, h1, rfl, h3⟩ := ar_ints ha
  rcases xs with _ | ⟨a, _ | ⟨b, _ | ⟨c, _ | ⟨d, _ | ⟨f, xs⟩⟩⟩⟩⟩ <;> simp at h1
  obtain ⟨l⟩ := cs
  simp at e1
  subst e1
  refine ⟨n, a, b, c, d, rfl, bounds_i64 hn, fun i => ?_⟩
  have ha := h3 a (by simp)
  have hb := h3 b (by simp)
  have hc := h3 c (by simp)
  have hd := h3 d (by simp)
  unfold oF
  split <;> (try split) <;> (try split) <;> omega
set_option maxRecDepth 100000 in
set_option maxHeartbeats 4000000 in
theorem go (e a b c d l : Int) (w : World) (hU : Ld w) (he0 : -9223372036854775808 ≤ e) (he : e ≤ 9223372036854775807) (ho : ∀ i, oF a b c d i ≤ 9223372036854775807) :
    Calls Tryd.prog 3 #[.agg #[.int .i64 e, .int .i64 a, .int .i64 b, .int .i64 c, .int .i64 d], .int .i64 l] w fun e w' => e = .returned (.bool true) ∧ Below w.heap.size w w' := by
  obtain ⟨gb, HGB⟩ : ∃ gb, Hid (w.heap.size = gb) := ⟨_, Lib.hid rfl⟩
  obtain ⟨W1, HW1⟩ : ∃ W1, Hid (W1 = w.alloc (.cells #[.int .i64 e, .int .i64 a, .int .i64 b, .int .i64 c, .int .i64 d] TC)) := ⟨_, Lib.hid rfl⟩
  have HB1 : Hid (Below w.heap.size w W1) := Lib.hid (by rw [HW1.out]; exact bel_new _ _)
  have HO1 : Hid (Obj1 W1 gb TC #[.int .i64 e, .int .i64 a, .int .i64 b, .int .i64 c, .int .i64 d]) := Lib.hid (by rw [HW1.out, ← HGB.out]; exact Obj1.new _ _ _)
  have HSU := Lib.hid (fun W => sus_any e a b c d W)
  have HRS := Lib.hid (fun W => rsus_any a b c d W)
  have HWS := Lib.hid (fun W => wst_any e a b c d W)
  have HRW := Lib.hid (fun W => rwst_any a b c d W)
  have HCL := Lib.hid (fun W => cln_any e a b c d W)
  have HTX := Lib.hid (fun W (h : Below w.heap.size w W) => text_any e a b c d W he ho (hU.1.kept h) (hU.2.kept h))
  have HRT := Lib.hid (fun W => rtext_any e a b c d W he ho)
  have HON := Lib.hid (fun W (h : Below w.heap.size w W) => one40_any W (hU.1.kept h) (hU.2.kept h))
  obtain ⟨X, HX⟩ : ∃ X, Hid (susF (oF a b c d) = X) := ⟨_, Lib.hid rfl⟩
  obtain ⟨Y, HY⟩ : ∃ Y, Hid (wsI (oF a b c d) 4 = Y) := ⟨_, Lib.hid rfl⟩
  obtain ⟨TX, HTT⟩ : ∃ T, Hid (txT e (oF a b c d) 4 = T) := ⟨_, Lib.hid rfl⟩
  rw [HX.out] at HSU HRS
  rw [HY.out] at HWS HRW HCL
  rw [HTT.out] at HTX HRT
  obtain ⟨q, hq⟩ : ∃ q, decide (Y = -1) = q := ⟨_, rfl⟩
  rw [hq] at HCL
  have hq2 : (Y == -1) = q := by rw [← hq]; rfl
  have q0 := HO1.out.cell 0
  simp at q0
  clear hU hq
  by_cases hy : 0 < e ∧ 0 ≤ l ∧ l ≤ 3
  · obtain ⟨h1, h2, h3⟩ := hy
    obtain ⟨l, rfl⟩ : ∃ n : Nat, l = (n : Int) := ⟨l.toNat, by omega⟩
    have hl4 : l < 4 := by omega
    have hl4i : (l : Int) < 4 := by omega
    have hcl := cell5 HO1.out hl4
    have HSH := Lib.hid (fun W => share_yes e a b c d l h1 hl4 W)
    obtain ⟨o, hoo⟩ : ∃ o, oF a b c d l = o := ⟨_, rfl⟩
    rw [hoo] at hcl HSH
    obtain ⟨m1, hm1⟩ : ∃ m, min o 1099511627776 = m := ⟨_, rfl⟩
    obtain ⟨m2, hm2⟩ : ∃ m, max 0 m1 = m := ⟨_, rfl⟩
    obtain ⟨n, hn⟩ : ∃ n, min e 1099511627776 = n := ⟨_, rfl⟩
    obtain ⟨k, hk⟩ : ∃ k, (1000 * m2).tdiv n = k := ⟨_, rfl⟩
    obtain ⟨SH, hSH⟩ : ∃ r, min 1000 k = r := ⟨_, rfl⟩
    have hk2 : 1000 * m2 / n = k := by rw [← hk, Int.tdiv_eq_ediv_of_nonneg (by omega)]
    rw [show shF e o = SH by unfold shF; rw [hm1, hm2, hn, hk2, hSH]] at HSH
    have hk0 : 0 ≤ k := by rw [← hk2]; exact Int.ediv_nonneg (by omega) (by omega)
    have hk1 : k ≤ 1000 * m2 := by rw [← hk2]; exact Int.ediv_le_self _ (by omega)
    have e1 : IntKind.i64.wrap (1000 * m2) = 1000 * m2 := IntWalk.i64_in _ (by omega)
    have e2 : wrap64 k = k := IntWalk.wrap64_in k (by omega)
    have e3 : IntKind.i64.wrap k = k := IntWalk.i64_in k (by omega)
    have e4 : (n == 0) = false := by simp; omega
    have e5 : ¬ n = 0 := by omega
    have K0 : ∀ z : Kin W1.drew, z.world.cell? ⟨gb, 0, none⟩ = some (.int .i64 e) := fun z => Kin.at (w := W1.drew) q0 z
    have K1 : ∀ z : Kin W1.drew, z.world.cell? ⟨gb, 1 + l, none⟩ = some (.int .i64 o) := fun z => Kin.at (w := W1.drew) hcl z
    clear hk2 hk0 hk1 hoo
    go_enter Tryd.func3, Tryd.ntmps3
    go_upto_region 2 with (fail)
    rw [← HW1.out, HGB.out]
    clear HW1
    go_upto_region 3 with (fail)
    clear q0 hcl
    refine wp_region_specL 13 [.d (.int .i64 l), .d (.pointer (some ⟨gb, 1, none⟩)), .d (.pointer (some ⟨gb, 1 + l, none⟩)), .d (.int .i64 o), .d (.int .i64 m1), .d (.int .i64 m2), .d (.int .i64 (1000 * m2)), .d (.pointer (some ⟨gb, 0, none⟩)), .d (.int .i64 e), .d (.int .i64 n), .d (.int .i64 k), .d (.int .i64 SH), .d (.int .i64 SH)] (by kernel_rfl) (by kernel_rfl) ?_
    refine spec_d rfl (fun x _ => gives_run (by go_simp)) ?_
    try simp only [Act.put, List.getElem_toArray, List.getElem_cons_succ, List.getElem_cons_zero, List.setIfInBounds_toArray, List.set_cons_zero, List.set_cons_succ]
    refine spec_d rfl (fun x _ => gives_run (by go_simp)) ?_
    try simp only [Act.put, List.getElem_toArray, List.getElem_cons_succ, List.getElem_cons_zero, List.setIfInBounds_toArray, List.set_cons_zero, List.set_cons_succ]
    refine spec_d rfl (fun x _ => gives_run (by go_simp)) ?_
    try simp only [Act.put, List.getElem_toArray, List.getElem_cons_succ, List.getElem_cons_zero, List.setIfInBounds_toArray, List.set_cons_zero, List.set_cons_succ]
    refine spec_d rfl (fun x _ => gives_run (by go_simp)) ?_
    try simp only [Act.put, List.getElem_toArray, List.getElem_cons_succ, List.getElem_cons_zero, List.setIfInBounds_toArray, List.set_cons_zero, List.set_cons_succ]
    refine spec_d rfl (fun x _ => gives_run (by go_simp)) ?_
    try simp only [Act.put, List.getElem_toArray, List.getElem_cons_succ, List.getElem_cons_zero, List.setIfInBounds_toArray, List.set_cons_zero, List.set_cons_succ]
    refine spec_d rfl (fun x _ => gives_run (by go_simp)) ?_
    try simp only [Act.put, List.getElem_toArray, List.getElem_cons_succ, List.getElem_cons_zero, List.setIfInBounds_toArray, List.set_cons_zero, List.set_cons_succ]
    refine spec_d rfl (fun x _ => gives_run (by go_simp)) ?_
    try simp only [Act.put, List.getElem_toArray, List.getElem_cons_succ, List.getElem_cons_zero, List.setIfInBounds_toArray, List.set_cons_zero, List.set_cons_succ]
    refine spec_d rfl (fun x _ => gives_run (by go_simp)) ?_
    try simp only [Act.put, List.getElem_toArray, List.getElem_cons_succ, List.getElem_cons_zero, List.setIfInBounds_toArray, List.set_cons_zero, List.set_cons_succ]
    refine spec_d rfl (fun x _ => gives_run (by go_simp)) ?_
    try simp only [Act.put, List.getElem_toArray, List.getElem_cons_succ, List.getElem_cons_zero, List.setIfInBounds_toArray, List.set_cons_zero, List.set_cons_succ]
    refine spec_d rfl (fun x _ => gives_run (by go_simp)) ?_
    try simp only [Act.put, List.getElem_toArray, List.getElem_cons_succ, List.getElem_cons_zero, List.setIfInBounds_toArray, List.set_cons_zero, List.set_cons_succ]
    refine spec_d rfl (fun x _ => gives_run (by go_simp)) ?_
    try simp only [Act.put, List.getElem_toArray, List.getElem_cons_succ, List.getElem_cons_zero, List.setIfInBounds_toArray, List.set_cons_zero, List.set_cons_succ]
    refine spec_d rfl (fun x _ => gives_run (by go_simp)) ?_
    try simp only [Act.put, List.getElem_toArray, List.getElem_cons_succ, List.getElem_cons_zero, List.setIfInBounds_toArray, List.set_cons_zero, List.set_cons_succ]
    refine spec_d rfl (fun x _ => gives_run (by go_simp)) ?_
    try simp only [Act.put, List.getElem_toArray, List.getElem_cons_succ, List.getElem_cons_zero, List.setIfInBounds_toArray, List.set_cons_zero, List.set_cons_succ]
    refine spec_end (fun z hz => ?_)
    clear hz
    refine wpAny_done (by kernel_rfl) ?_ _
    have HB5 := Lib.hid (HB1.out.trans (((bel_drew W1).trans z.below).mono HB1.out.size))
    have HO5 := Lib.hid (HO1.out.kept ((bel_drew W1).trans z.below))
    clear K0 K1 e1 e2 e3 e4 e5 hm1 hm2 hn hk hSH
    generalize z.world = w5 at HB5 HO5 ⊢
    clear z
    have HKD : Hid (∀ z : Kin w5.drew, Below w.heap.size w z.world) := Lib.hid (fun z => HB5.out.trans (((bel_drew w5).trans z.below).mono HB5.out.size))
    have X0 : ∀ z : Kin w5.drew, Obj1 z.world gb TC #[.int .i64 e, .int .i64 a, .int .i64 b, .int .i64 c, .int .i64 d] := fun z => (HO5.out.drew).kept z.below
    have K0 : ∀ z : Kin w5.drew, z.world.cell? ⟨gb, 0, none⟩ = some (.int .i64 e) := fun z => (X0 z).cell 0
    have K1 : ∀ z : Kin w5.drew, z.world.cell? ⟨gb, 1, none⟩ = some (.int .i64 a) := fun z => (X0 z).cell 1
    have K2 : ∀ z : Kin w5.drew, z.world.cell? ⟨gb, 2, none⟩ = some (.int .i64 b) := fun z => (X0 z).cell 2
    have K3 : ∀ z : Kin w5.drew, z.world.cell? ⟨gb, 3, none⟩ = some (.int .i64 c) := fun z => (X0 z).cell 3
    have K4 : ∀ z : Kin w5.drew, z.world.cell? ⟨gb, 4, none⟩ = some (.int .i64 d) := fun z => (X0 z).cell 4
    clear X0
    go_upto_region 4 with (fail)
    refine wp_region_specL 44 [.d (.agg #[.int .i64 e, .int .i64 a, .int .i64 b, .int .i64 c, .int .i64 d]), .d (.int .i64 X), .d (.pointer (some ⟨gb, 1, none⟩)), .d (.agg #[.int .i64 a, .int .i64 b, .int .i64 c, .int .i64 d]), .d (.int .i64 X), .d (.bool true), .d (.bool true), .d (.agg #[.int .i64 e, .int .i64 a, .int .i64 b, .int .i64 c, .int .i64 d]), .d (.int .i64 Y), .d (.pointer (some ⟨gb, 1, none⟩)), .d (.agg #[.int .i64 a, .int .i64 b, .int .i64 c, .int .i64 d]), .d (.int .i64 Y), .d (.bool true), .d (.bool true), .d (.bool true), .d (.agg #[.int .i64 e, .int .i64 a, .int .i64 b, .int .i64 c, .int .i64 d]), .d (.bool q), .d (.pointer (some ⟨gb, 1, none⟩)), .d (.agg #[.int .i64 a, .int .i64 b, .int .i64 c, .int .i64 d]), .d (.int .i64 Y), .d (.bool q), .d (.bool true), .d (.bool true), .d (.bool true), .d (.agg #[.int .i64 e, .int .i64 a, .int .i64 b, .int .i64 c, .int .i64 d]), .d (.int .i64 l), .d (.int .i64 SH), .d (.int .i64 SH), .d (.bool true), .d (.bool true), .d (.bool true), .d (.agg #[.int .i64 e, .int .i64 a, .int .i64 b, .int .i64 c, .int .i64 d]), .d (.string ⟨TX.toArray⟩), .d (.pointer (some ⟨gb, 0, none⟩)), .d (.int .i64 e), .d (.pointer (some ⟨gb, 1, none⟩)), .d (.agg #[.int .i64 a, .int .i64 b, .int .i64 c, .int .i64 d]), .d (.string ⟨TX.toArray⟩), .d (.bool true), .d (.bool true), .d (.bool true), .d (.bool true), .d (.bool true), .d (.bool true)] (by kernel_rfl) (by kernel_rfl) ?_
    refine spec_d rfl (fun x _ => gives_run (by go_simp)) ?_
    try simp only [Act.put, List.getElem_toArray, List.getElem_cons_succ, List.getElem_cons_zero, List.setIfInBounds_toArray, List.set_cons_zero, List.set_cons_succ]
    refine spec_d rfl (fun z _ => gives_det (by go_simp) (HSU.out z.world)) ?_
    try simp only [Act.put, List.getElem_toArray, List.getElem_cons_succ, List.getElem_cons_zero, List.setIfInBounds_toArray, List.set_cons_zero, List.set_cons_succ]
    refine spec_d rfl (fun x _ => gives_run (by go_simp)) ?_
    try simp only [Act.put, List.getElem_toArray, List.getElem_cons_succ, List.getElem_cons_zero, List.setIfInBounds_toArray, List.set_cons_zero, List.set_cons_succ]
    refine spec_d rfl (fun x _ => gives_run (by go_simp)) ?_
    try simp only [Act.put, List.getElem_toArray, List.getElem_cons_succ, List.getElem_cons_zero, List.setIfInBounds_toArray, List.set_cons_zero, List.set_cons_succ]
    refine spec_d rfl (fun z _ => gives_det (by go_simp) (HRS.out z.world)) ?_
    try simp only [Act.put, List.getElem_toArray, List.getElem_cons_succ, List.getElem_cons_zero, List.setIfInBounds_toArray, List.set_cons_zero, List.set_cons_succ]
    refine spec_d rfl (fun x _ => gives_run (by go_simp)) ?_
    try simp only [Act.put, List.getElem_toArray, List.getElem_cons_succ, List.getElem_cons_zero, List.setIfInBounds_toArray, List.set_cons_zero, List.set_cons_succ]
    refine spec_d rfl (fun x _ => gives_run (by go_simp)) ?_
    try simp only [Act.put, List.getElem_toArray, List.getElem_cons_succ, List.getElem_cons_zero, List.setIfInBounds_toArray, List.set_cons_zero, List.set_cons_succ]
    refine spec_d rfl (fun x _ => gives_run (by go_simp)) ?_
    try simp only [Act.put, List.getElem_toArray, List.getElem_cons_succ, List.getElem_cons_zero, List.setIfInBounds_toArray, List.set_cons_zero, List.set_cons_succ]
    refine spec_d rfl (fun z _ => gives_det (by go_simp) (HWS.out z.world)) ?_
    try simp only [Act.put, List.getElem_toArray, List.getElem_cons_succ, List.getElem_cons_zero, List.setIfInBounds_toArray, List.set_cons_zero, List.set_cons_succ]
    refine spec_d rfl (fun x _ => gives_run (by go_simp)) ?_
    try simp only [Act.put, List.getElem_toArray, List.getElem_cons_succ, List.getElem_cons_zero, List.setIfInBounds_toArray, List.set_cons_zero, List.set_cons_succ]
    refine spec_d rfl (fun x _ => gives_run (by go_simp)) ?_
    try simp only [Act.put, List.getElem_toArray, List.getElem_cons_succ, List.getElem_cons_zero, List.setIfInBounds_toArray, List.set_cons_zero, List.set_cons_succ]
    refine spec_d rfl (fun z _ => gives_det (by go_simp) (HRW.out z.world)) ?_
    try simp only [Act.put, List.getElem_toArray, List.getElem_cons_succ, List.getElem_cons_zero, List.setIfInBounds_toArray, List.set_cons_zero, List.set_cons_succ]
    refine spec_d rfl (fun x _ => gives_run (by go_simp)) ?_
    try simp only [Act.put, List.getElem_toArray, List.getElem_cons_succ, List.getElem_cons_zero, List.setIfInBounds_toArray, List.set_cons_zero, List.set_cons_succ]
    refine spec_d rfl (fun x _ => gives_run (by go_simp)) ?_
    try simp only [Act.put, List.getElem_toArray, List.getElem_cons_succ, List.getElem_cons_zero, List.setIfInBounds_toArray, List.set_cons_zero, List.set_cons_succ]
    refine spec_d rfl (fun x _ => gives_run (by go_simp)) ?_
    try simp only [Act.put, List.getElem_toArray, List.getElem_cons_succ, List.getElem_cons_zero, List.setIfInBounds_toArray, List.set_cons_zero, List.set_cons_succ]
    refine spec_d rfl (fun x _ => gives_run (by go_simp)) ?_
    try simp only [Act.put, List.getElem_toArray, List.getElem_cons_succ, List.getElem_cons_zero, List.setIfInBounds_toArray, List.set_cons_zero, List.set_cons_succ]
    refine spec_d rfl (fun z _ => gives_det (by go_simp) (HCL.out z.world)) ?_
    try simp only [Act.put, List.getElem_toArray, List.getElem_cons_succ, List.getElem_cons_zero, List.setIfInBounds_toArray, List.set_cons_zero, List.set_cons_succ]
    refine spec_d rfl (fun x _ => gives_run (by go_simp)) ?_
    try simp only [Act.put, List.getElem_toArray, List.getElem_cons_succ, List.getElem_cons_zero, List.setIfInBounds_toArray, List.set_cons_zero, List.set_cons_succ]
    refine spec_d rfl (fun x _ => gives_run (by go_simp)) ?_
    try simp only [Act.put, List.getElem_toArray, List.getElem_cons_succ, List.getElem_cons_zero, List.setIfInBounds_toArray, List.set_cons_zero, List.set_cons_succ]
    refine spec_d rfl (fun z _ => gives_det (by go_simp) (HRW.out z.world)) ?_
    try simp only [Act.put, List.getElem_toArray, List.getElem_cons_succ, List.getElem_cons_zero, List.setIfInBounds_toArray, List.set_cons_zero, List.set_cons_succ]
    refine spec_d rfl (fun z _ => gives_run (by go_simp)) ?_
    try simp only [Act.put, List.getElem_toArray, List.getElem_cons_succ, List.getElem_cons_zero, List.setIfInBounds_toArray, List.set_cons_zero, List.set_cons_succ]
    refine spec_d rfl (fun z _ => gives_run (by cases q <;> go_simp)) ?_
    try simp only [Act.put, List.getElem_toArray, List.getElem_cons_succ, List.getElem_cons_zero, List.setIfInBounds_toArray, List.set_cons_zero, List.set_cons_succ]
    refine spec_d rfl (fun x _ => gives_run (by go_simp)) ?_
    try simp only [Act.put, List.getElem_toArray, List.getElem_cons_succ, List.getElem_cons_zero, List.setIfInBounds_toArray, List.set_cons_zero, List.set_cons_succ]
    refine spec_d rfl (fun x _ => gives_run (by go_simp)) ?_
    try simp only [Act.put, List.getElem_toArray, List.getElem_cons_succ, List.getElem_cons_zero, List.setIfInBounds_toArray, List.set_cons_zero, List.set_cons_succ]
    refine spec_d rfl (fun x _ => gives_run (by go_simp)) ?_
    try simp only [Act.put, List.getElem_toArray, List.getElem_cons_succ, List.getElem_cons_zero, List.setIfInBounds_toArray, List.set_cons_zero, List.set_cons_succ]
    refine spec_d rfl (fun x _ => gives_run (by go_simp)) ?_
    try simp only [Act.put, List.getElem_toArray, List.getElem_cons_succ, List.getElem_cons_zero, List.setIfInBounds_toArray, List.set_cons_zero, List.set_cons_succ]
    refine spec_d rfl (fun z _ => gives_det (by go_simp) (HSH.out z.world)) ?_
    try simp only [Act.put, List.getElem_toArray, List.getElem_cons_succ, List.getElem_cons_zero, List.setIfInBounds_toArray, List.set_cons_zero, List.set_cons_succ]
    refine spec_d rfl (fun x _ => gives_run (by go_simp)) ?_
    try simp only [Act.put, List.getElem_toArray, List.getElem_cons_succ, List.getElem_cons_zero, List.setIfInBounds_toArray, List.set_cons_zero, List.set_cons_succ]
    refine spec_d rfl (fun x _ => gives_run (by go_simp)) ?_
    try simp only [Act.put, List.getElem_toArray, List.getElem_cons_succ, List.getElem_cons_zero, List.setIfInBounds_toArray, List.set_cons_zero, List.set_cons_succ]
    refine spec_d rfl (fun x _ => gives_run (by go_simp)) ?_
    try simp only [Act.put, List.getElem_toArray, List.getElem_cons_succ, List.getElem_cons_zero, List.setIfInBounds_toArray, List.set_cons_zero, List.set_cons_succ]
    refine spec_d rfl (fun x _ => gives_run (by go_simp)) ?_
    try simp only [Act.put, List.getElem_toArray, List.getElem_cons_succ, List.getElem_cons_zero, List.setIfInBounds_toArray, List.set_cons_zero, List.set_cons_succ]
    refine spec_d rfl (fun x _ => gives_run (by go_simp)) ?_
    try simp only [Act.put, List.getElem_toArray, List.getElem_cons_succ, List.getElem_cons_zero, List.setIfInBounds_toArray, List.set_cons_zero, List.set_cons_succ]
    refine spec_d rfl (fun z _ => gives_det (by go_simp) (HTX.out z.world (HKD.out z))) ?_
    try simp only [Act.put, List.getElem_toArray, List.getElem_cons_succ, List.getElem_cons_zero, List.setIfInBounds_toArray, List.set_cons_zero, List.set_cons_succ]
    refine spec_d rfl (fun x _ => gives_run (by go_simp)) ?_
    try simp only [Act.put, List.getElem_toArray, List.getElem_cons_succ, List.getElem_cons_zero, List.setIfInBounds_toArray, List.set_cons_zero, List.set_cons_succ]
    refine spec_d rfl (fun x _ => gives_run (by go_simp)) ?_
    try simp only [Act.put, List.getElem_toArray, List.getElem_cons_succ, List.getElem_cons_zero, List.setIfInBounds_toArray, List.set_cons_zero, List.set_cons_succ]
    refine spec_d rfl (fun x _ => gives_run (by go_simp)) ?_
    try simp only [Act.put, List.getElem_toArray, List.getElem_cons_succ, List.getElem_cons_zero, List.setIfInBounds_toArray, List.set_cons_zero, List.set_cons_succ]
    refine spec_d rfl (fun x _ => gives_run (by go_simp)) ?_
    try simp only [Act.put, List.getElem_toArray, List.getElem_cons_succ, List.getElem_cons_zero, List.setIfInBounds_toArray, List.set_cons_zero, List.set_cons_succ]
    refine spec_d rfl (fun z _ => gives_det (by go_simp) (HRT.out z.world)) ?_
    try simp only [Act.put, List.getElem_toArray, List.getElem_cons_succ, List.getElem_cons_zero, List.setIfInBounds_toArray, List.set_cons_zero, List.set_cons_succ]
    refine spec_d rfl (fun x _ => gives_run (by go_simp)) ?_
    try simp only [Act.put, List.getElem_toArray, List.getElem_cons_succ, List.getElem_cons_zero, List.setIfInBounds_toArray, List.set_cons_zero, List.set_cons_succ]
    refine spec_d rfl (fun x _ => gives_run (by go_simp)) ?_
    try simp only [Act.put, List.getElem_toArray, List.getElem_cons_succ, List.getElem_cons_zero, List.setIfInBounds_toArray, List.set_cons_zero, List.set_cons_succ]
    refine spec_d rfl (fun x _ => gives_run (by go_simp)) ?_
    try simp only [Act.put, List.getElem_toArray, List.getElem_cons_succ, List.getElem_cons_zero, List.setIfInBounds_toArray, List.set_cons_zero, List.set_cons_succ]
    refine spec_d rfl (fun z _ => gives_det (by go_simp) (HON.out z.world (HKD.out z))) ?_
    try simp only [Act.put, List.getElem_toArray, List.getElem_cons_succ, List.getElem_cons_zero, List.setIfInBounds_toArray, List.set_cons_zero, List.set_cons_succ]
    refine spec_d rfl (fun x _ => gives_run (by go_simp)) ?_
    try simp only [Act.put, List.getElem_toArray, List.getElem_cons_succ, List.getElem_cons_zero, List.setIfInBounds_toArray, List.set_cons_zero, List.set_cons_succ]
    refine spec_d rfl (fun x _ => gives_run (by go_simp)) ?_
    try simp only [Act.put, List.getElem_toArray, List.getElem_cons_succ, List.getElem_cons_zero, List.setIfInBounds_toArray, List.set_cons_zero, List.set_cons_succ]
    refine spec_end (fun z hz => ?_)
    clear hz
    refine wpAny_done (by kernel_rfl) ?_ _
    have HBZ := Lib.hid (HKD.out z)
    clear HKD K0 K1 K2 K3 K4
    generalize z.world = w9 at HBZ ⊢
    clear z
    go_wp2
    go_ret
    exact ⟨rfl, HBZ.out⟩
  · have hor : (¬ 0 < e) ∨ (0 < e ∧ ¬ 0 ≤ l) ∨ (0 < e ∧ 0 ≤ l ∧ ¬ l ≤ 3) := by omega
    have HSH := Lib.hid (fun W => share_no e a b c d l (by omega) W)
    obtain ⟨SH, HSS⟩ : ∃ s : Int, Hid ((0 : Int) = s) := ⟨_, Lib.hid rfl⟩
    clear hy
    rcases hor with h1 | ⟨h1, h2⟩ | ⟨h1, h2, h3⟩
    all_goals
      go_enter Tryd.func3, Tryd.ntmps3
      go_upto_region 2 with (fail)
      rw [← HW1.out, HGB.out]
      clear HW1
      have HKD : Hid (∀ z : Kin W1.drew, Below w.heap.size w z.world) := Lib.hid (fun z => HB1.out.trans (((bel_drew W1).trans z.below).mono HB1.out.size))
      have X0 : ∀ z : Kin W1.drew, Obj1 z.world gb TC #[.int .i64 e, .int .i64 a, .int .i64 b, .int .i64 c, .int .i64 d] := fun z => (HO1.out.drew).kept z.below
      have K0 : ∀ z : Kin W1.drew, z.world.cell? ⟨gb, 0, none⟩ = some (.int .i64 e) := fun z => (X0 z).cell 0
      have K1 : ∀ z : Kin W1.drew, z.world.cell? ⟨gb, 1, none⟩ = some (.int .i64 a) := fun z => (X0 z).cell 1
      have K2 : ∀ z : Kin W1.drew, z.world.cell? ⟨gb, 2, none⟩ = some (.int .i64 b) := fun z => (X0 z).cell 2
      have K3 : ∀ z : Kin W1.drew, z.world.cell? ⟨gb, 3, none⟩ = some (.int .i64 c) := fun z => (X0 z).cell 3
      have K4 : ∀ z : Kin W1.drew, z.world.cell? ⟨gb, 4, none⟩ = some (.int .i64 d) := fun z => (X0 z).cell 4
      clear X0
      go_upto_region 4 with (fail)
      refine wp_region_specL 44 [.d (.agg #[.int .i64 e, .int .i64 a, .int .i64 b, .int .i64 c, .int .i64 d]), .d (.int .i64 X), .d (.pointer (some ⟨gb, 1, none⟩)), .d (.agg #[.int .i64 a, .int .i64 b, .int .i64 c, .int .i64 d]), .d (.int .i64 X), .d (.bool true), .d (.bool true), .d (.agg #[.int .i64 e, .int .i64 a, .int .i64 b, .int .i64 c, .int .i64 d]), .d (.int .i64 Y), .d (.pointer (some ⟨gb, 1, none⟩)), .d (.agg #[.int .i64 a, .int .i64 b, .int .i64 c, .int .i64 d]), .d (.int .i64 Y), .d (.bool true), .d (.bool true), .d (.bool true), .d (.agg #[.int .i64 e, .int .i64 a, .int .i64 b, .int .i64 c, .int .i64 d]), .d (.bool q), .d (.pointer (some ⟨gb, 1, none⟩)), .d (.agg #[.int .i64 a, .int .i64 b, .int .i64 c, .int .i64 d]), .d (.int .i64 Y), .d (.bool q), .d (.bool true), .d (.bool true), .d (.bool true), .d (.agg #[.int .i64 e, .int .i64 a, .int .i64 b, .int .i64 c, .int .i64 d]), .d (.int .i64 l), .d (.int .i64 0), .d (.int .i64 0), .d (.bool true), .d (.bool true), .d (.bool true), .d (.agg #[.int .i64 e, .int .i64 a, .int .i64 b, .int .i64 c, .int .i64 d]), .d (.string ⟨TX.toArray⟩), .d (.pointer (some ⟨gb, 0, none⟩)), .d (.int .i64 e), .d (.pointer (some ⟨gb, 1, none⟩)), .d (.agg #[.int .i64 a, .int .i64 b, .int .i64 c, .int .i64 d]), .d (.string ⟨TX.toArray⟩), .d (.bool true), .d (.bool true), .d (.bool true), .d (.bool true), .d (.bool true), .d (.bool true)] (by kernel_rfl) (by kernel_rfl) ?_
      refine spec_d rfl (fun x _ => gives_run (by go_simp)) ?_
      try simp only [Act.put, List.getElem_toArray, List.getElem_cons_succ, List.getElem_cons_zero, List.setIfInBounds_toArray, List.set_cons_zero, List.set_cons_succ]
      refine spec_d rfl (fun z _ => gives_det (by go_simp) (HSU.out z.world)) ?_
      try simp only [Act.put, List.getElem_toArray, List.getElem_cons_succ, List.getElem_cons_zero, List.setIfInBounds_toArray, List.set_cons_zero, List.set_cons_succ]
      refine spec_d rfl (fun x _ => gives_run (by go_simp)) ?_
      try simp only [Act.put, List.getElem_toArray, List.getElem_cons_succ, List.getElem_cons_zero, List.setIfInBounds_toArray, List.set_cons_zero, List.set_cons_succ]
      refine spec_d rfl (fun x _ => gives_run (by go_simp)) ?_
      try simp only [Act.put, List.getElem_toArray, List.getElem_cons_succ, List.getElem_cons_zero, List.setIfInBounds_toArray, List.set_cons_zero, List.set_cons_succ]
      refine spec_d rfl (fun z _ => gives_det (by go_simp) (HRS.out z.world)) ?_
      try simp only [Act.put, List.getElem_toArray, List.getElem_cons_succ, List.getElem_cons_zero, List.setIfInBounds_toArray, List.set_cons_zero, List.set_cons_succ]
      refine spec_d rfl (fun x _ => gives_run (by go_simp)) ?_
      try simp only [Act.put, List.getElem_toArray, List.getElem_cons_succ, List.getElem_cons_zero, List.setIfInBounds_toArray, List.set_cons_zero, List.set_cons_succ]
      refine spec_d rfl (fun x _ => gives_run (by go_simp)) ?_
      try simp only [Act.put, List.getElem_toArray, List.getElem_cons_succ, List.getElem_cons_zero, List.setIfInBounds_toArray, List.set_cons_zero, List.set_cons_succ]
      refine spec_d rfl (fun x _ => gives_run (by go_simp)) ?_
      try simp only [Act.put, List.getElem_toArray, List.getElem_cons_succ, List.getElem_cons_zero, List.setIfInBounds_toArray, List.set_cons_zero, List.set_cons_succ]
      refine spec_d rfl (fun z _ => gives_det (by go_simp) (HWS.out z.world)) ?_
      try simp only [Act.put, List.getElem_toArray, List.getElem_cons_succ, List.getElem_cons_zero, List.setIfInBounds_toArray, List.set_cons_zero, List.set_cons_succ]
      refine spec_d rfl (fun x _ => gives_run (by go_simp)) ?_
      try simp only [Act.put, List.getElem_toArray, List.getElem_cons_succ, List.getElem_cons_zero, List.setIfInBounds_toArray, List.set_cons_zero, List.set_cons_succ]
      refine spec_d rfl (fun x _ => gives_run (by go_simp)) ?_
      try simp only [Act.put, List.getElem_toArray, List.getElem_cons_succ, List.getElem_cons_zero, List.setIfInBounds_toArray, List.set_cons_zero, List.set_cons_succ]
      refine spec_d rfl (fun z _ => gives_det (by go_simp) (HRW.out z.world)) ?_
      try simp only [Act.put, List.getElem_toArray, List.getElem_cons_succ, List.getElem_cons_zero, List.setIfInBounds_toArray, List.set_cons_zero, List.set_cons_succ]
      refine spec_d rfl (fun x _ => gives_run (by go_simp)) ?_
      try simp only [Act.put, List.getElem_toArray, List.getElem_cons_succ, List.getElem_cons_zero, List.setIfInBounds_toArray, List.set_cons_zero, List.set_cons_succ]
      refine spec_d rfl (fun x _ => gives_run (by go_simp)) ?_
      try simp only [Act.put, List.getElem_toArray, List.getElem_cons_succ, List.getElem_cons_zero, List.setIfInBounds_toArray, List.set_cons_zero, List.set_cons_succ]
      refine spec_d rfl (fun x _ => gives_run (by go_simp)) ?_
      try simp only [Act.put, List.getElem_toArray, List.getElem_cons_succ, List.getElem_cons_zero, List.setIfInBounds_toArray, List.set_cons_zero, List.set_cons_succ]
      refine spec_d rfl (fun x _ => gives_run (by go_simp)) ?_
      try simp only [Act.put, List.getElem_toArray, List.getElem_cons_succ, List.getElem_cons_zero, List.setIfInBounds_toArray, List.set_cons_zero, List.set_cons_succ]
      refine spec_d rfl (fun z _ => gives_det (by go_simp) (HCL.out z.world)) ?_
      try simp only [Act.put, List.getElem_toArray, List.getElem_cons_succ, List.getElem_cons_zero, List.setIfInBounds_toArray, List.set_cons_zero, List.set_cons_succ]
      refine spec_d rfl (fun x _ => gives_run (by go_simp)) ?_
      try simp only [Act.put, List.getElem_toArray, List.getElem_cons_succ, List.getElem_cons_zero, List.setIfInBounds_toArray, List.set_cons_zero, List.set_cons_succ]
      refine spec_d rfl (fun x _ => gives_run (by go_simp)) ?_
      try simp only [Act.put, List.getElem_toArray, List.getElem_cons_succ, List.getElem_cons_zero, List.setIfInBounds_toArray, List.set_cons_zero, List.set_cons_succ]
      refine spec_d rfl (fun z _ => gives_det (by go_simp) (HRW.out z.world)) ?_
      try simp only [Act.put, List.getElem_toArray, List.getElem_cons_succ, List.getElem_cons_zero, List.setIfInBounds_toArray, List.set_cons_zero, List.set_cons_succ]
      refine spec_d rfl (fun z _ => gives_run (by go_simp)) ?_
      try simp only [Act.put, List.getElem_toArray, List.getElem_cons_succ, List.getElem_cons_zero, List.setIfInBounds_toArray, List.set_cons_zero, List.set_cons_succ]
      refine spec_d rfl (fun z _ => gives_run (by cases q <;> go_simp)) ?_
      try simp only [Act.put, List.getElem_toArray, List.getElem_cons_succ, List.getElem_cons_zero, List.setIfInBounds_toArray, List.set_cons_zero, List.set_cons_succ]
      refine spec_d rfl (fun x _ => gives_run (by go_simp)) ?_
      try simp only [Act.put, List.getElem_toArray, List.getElem_cons_succ, List.getElem_cons_zero, List.setIfInBounds_toArray, List.set_cons_zero, List.set_cons_succ]
      refine spec_d rfl (fun x _ => gives_run (by go_simp)) ?_
      try simp only [Act.put, List.getElem_toArray, List.getElem_cons_succ, List.getElem_cons_zero, List.setIfInBounds_toArray, List.set_cons_zero, List.set_cons_succ]
      refine spec_d rfl (fun x _ => gives_run (by go_simp)) ?_
      try simp only [Act.put, List.getElem_toArray, List.getElem_cons_succ, List.getElem_cons_zero, List.setIfInBounds_toArray, List.set_cons_zero, List.set_cons_succ]
      refine spec_d rfl (fun x _ => gives_run (by go_simp)) ?_
      try simp only [Act.put, List.getElem_toArray, List.getElem_cons_succ, List.getElem_cons_zero, List.setIfInBounds_toArray, List.set_cons_zero, List.set_cons_succ]
      refine spec_d rfl (fun z _ => gives_det (by go_simp) (HSH.out z.world)) ?_
      try simp only [Act.put, List.getElem_toArray, List.getElem_cons_succ, List.getElem_cons_zero, List.setIfInBounds_toArray, List.set_cons_zero, List.set_cons_succ]
      refine spec_d rfl (fun x _ => gives_run (by go_simp)) ?_
      try simp only [Act.put, List.getElem_toArray, List.getElem_cons_succ, List.getElem_cons_zero, List.setIfInBounds_toArray, List.set_cons_zero, List.set_cons_succ]
      refine spec_d rfl (fun x _ => gives_run (by go_simp)) ?_
      try simp only [Act.put, List.getElem_toArray, List.getElem_cons_succ, List.getElem_cons_zero, List.setIfInBounds_toArray, List.set_cons_zero, List.set_cons_succ]
      refine spec_d rfl (fun x _ => gives_run (by go_simp)) ?_
      try simp only [Act.put, List.getElem_toArray, List.getElem_cons_succ, List.getElem_cons_zero, List.setIfInBounds_toArray, List.set_cons_zero, List.set_cons_succ]
      refine spec_d rfl (fun x _ => gives_run (by go_simp)) ?_
      try simp only [Act.put, List.getElem_toArray, List.getElem_cons_succ, List.getElem_cons_zero, List.setIfInBounds_toArray, List.set_cons_zero, List.set_cons_succ]
      refine spec_d rfl (fun x _ => gives_run (by go_simp)) ?_
      try simp only [Act.put, List.getElem_toArray, List.getElem_cons_succ, List.getElem_cons_zero, List.setIfInBounds_toArray, List.set_cons_zero, List.set_cons_succ]
      refine spec_d rfl (fun z _ => gives_det (by go_simp) (HTX.out z.world (HKD.out z))) ?_
      try simp only [Act.put, List.getElem_toArray, List.getElem_cons_succ, List.getElem_cons_zero, List.setIfInBounds_toArray, List.set_cons_zero, List.set_cons_succ]
      refine spec_d rfl (fun x _ => gives_run (by go_simp)) ?_
      try simp only [Act.put, List.getElem_toArray, List.getElem_cons_succ, List.getElem_cons_zero, List.setIfInBounds_toArray, List.set_cons_zero, List.set_cons_succ]
      refine spec_d rfl (fun x _ => gives_run (by go_simp)) ?_
      try simp only [Act.put, List.getElem_toArray, List.getElem_cons_succ, List.getElem_cons_zero, List.setIfInBounds_toArray, List.set_cons_zero, List.set_cons_succ]
      refine spec_d rfl (fun x _ => gives_run (by go_simp)) ?_
      try simp only [Act.put, List.getElem_toArray, List.getElem_cons_succ, List.getElem_cons_zero, List.setIfInBounds_toArray, List.set_cons_zero, List.set_cons_succ]
      refine spec_d rfl (fun x _ => gives_run (by go_simp)) ?_
      try simp only [Act.put, List.getElem_toArray, List.getElem_cons_succ, List.getElem_cons_zero, List.setIfInBounds_toArray, List.set_cons_zero, List.set_cons_succ]
      refine spec_d rfl (fun z _ => gives_det (by go_simp) (HRT.out z.world)) ?_
      try simp only [Act.put, List.getElem_toArray, List.getElem_cons_succ, List.getElem_cons_zero, List.setIfInBounds_toArray, List.set_cons_zero, List.set_cons_succ]
      refine spec_d rfl (fun x _ => gives_run (by go_simp)) ?_
      try simp only [Act.put, List.getElem_toArray, List.getElem_cons_succ, List.getElem_cons_zero, List.setIfInBounds_toArray, List.set_cons_zero, List.set_cons_succ]
      refine spec_d rfl (fun x _ => gives_run (by go_simp)) ?_
      try simp only [Act.put, List.getElem_toArray, List.getElem_cons_succ, List.getElem_cons_zero, List.setIfInBounds_toArray, List.set_cons_zero, List.set_cons_succ]
      refine spec_d rfl (fun x _ => gives_run (by go_simp)) ?_
      try simp only [Act.put, List.getElem_toArray, List.getElem_cons_succ, List.getElem_cons_zero, List.setIfInBounds_toArray, List.set_cons_zero, List.set_cons_succ]
      refine spec_d rfl (fun z _ => gives_det (by go_simp) (HON.out z.world (HKD.out z))) ?_
      try simp only [Act.put, List.getElem_toArray, List.getElem_cons_succ, List.getElem_cons_zero, List.setIfInBounds_toArray, List.set_cons_zero, List.set_cons_succ]
      refine spec_d rfl (fun x _ => gives_run (by go_simp)) ?_
      try simp only [Act.put, List.getElem_toArray, List.getElem_cons_succ, List.getElem_cons_zero, List.setIfInBounds_toArray, List.set_cons_zero, List.set_cons_succ]
      refine spec_d rfl (fun x _ => gives_run (by go_simp)) ?_
      try simp only [Act.put, List.getElem_toArray, List.getElem_cons_succ, List.getElem_cons_zero, List.setIfInBounds_toArray, List.set_cons_zero, List.set_cons_succ]
      refine spec_end (fun z hz => ?_)
      clear hz
      refine wpAny_done (by kernel_rfl) ?_ _
      have HBZ := Lib.hid (HKD.out z)
      clear HKD K0 K1 K2 K3 K4
      generalize z.world = w9 at HBZ ⊢
      clear z
      go_wp2
      go_ret
      exact ⟨rfl, HBZ.out⟩
theorem walk (c : Array Value) (line : Int) (w : World) (hU : Ld w) (rs : Reads w shC c.toList) (a0 : -9223372036854775808 ≤ line) (a1 : line ≤ 9223372036854775807) :
    Calls Tryd.prog 3 #[.agg c, .int .i64 line] w fun e w' => e = .returned (.bool true) ∧ Below w.heap.size w w' := by
  obtain ⟨e, a, b, c', d, rfl, he, ho⟩ := count_in rs
  exact go e a b c' d line w hU he.1 he.2 ho

theorem door_met (os : Os) (args : Array Value) : laidMetH Tryd.prog Rows.diagTellsRow.laid ((World.doorLaid Tryd.prog 400 os).forCall (fun _ _ => 0) ⟨#[], args, []⟩).memory :=
  laidMetH_of_parts3 (fuel := 8) (laidMet_of_run' 8 (by kernel_rfl) (by kernel_rfl)) (by kernel_rfl) (by kernel_rfl)
set_option maxRecDepth 100000 in
theorem lifted (os : Os) (started : os.Started) (H : Type) (enc : TypeId × Value → H) :
    ReturnsInHanded {} Tryd.checked os 3 .any (fun w args => (Rows.diagTellsSpec.pre enc Tryd.prog Tryd.f3 [] false w args ∧ laidMetH Tryd.prog Rows.diagTellsRow.laid w) ∧ sizedMet enc Tryd.prog Tryd.f3 (OpenSpec.ofChange Rows.diagTellsSpec) false w args)
      (Rows.diagTellsSpec.post enc Tryd.prog Tryd.f3 false true false false) := by
  refine returnsInHanded_of_change_and (C := Tryd.checked) (X := fun w _ => laidMetH Tryd.prog Rows.diagTellsRow.laid w) (fun _ _ _ hh h => h.of_heap hh) own started (by kernel_rfl) Tryd.func3
    (ChangeSpec.witness_shaped (enc := enc) (C := Tryd.checked) (os := os) (X := fun w _ => laidMetH Tryd.prog Rows.diagTellsRow.laid w) false (World.doorLaid Tryd.prog 400 os) #[.agg #[.int .i64 0, .int .i64 0, .int .i64 0, .int .i64 0, .int .i64 0], .int .i64 0] 8 rfl (World.shaped_of_RefB (by kernel_rfl) (by kernel_rfl)) (by kernel_rfl) (by kernel_rfl) (by kernel_rfl) (door_met os _)) ?_
  intro W base args ds gs before hval0 hW _ _ hL _
  have hval : ∀ (j : Nat) t v, Tryd.f3.params[j]? = some t → args[j]? = some v → Value.okWide Tryd.prog W .any base t v := hval0
  have hW' := hW
  obtain ⟨p, q, hA0, hV, rfl, hfz, hnd⟩ := hW
  have hA : DataW.TrodAll enc Tryd.prog W 0 (fun _ => true) true Tryd.f3.params.toList args.toList ds p := hA0
  rw [Tryd.params3] at hA hval
  obtain ⟨v0, vs0, d0, ds0, p0, q0, hargs, rfl, rfl, h0, r0⟩ := trodAll_cons hA
  obtain ⟨v1, vs1, d1, ds1, p1, q1, rfl, rfl, rfl, h1, r1⟩ := trodAll_cons r0
  obtain ⟨rfl, rfl, rfl⟩ := trodAll_nil r1
  obtain rfl : args = #[v0, v1] := by cases args; simp_all
  obtain ⟨rfl, rfl⟩ := trodVars_none hV
  have k0 := h0
  have lt0 : ∀ x ∈ p0, x.block < W.heap.size := by obtain ⟨m, hm⟩ := k0; exact DataW.trod_lt m _ _ _ hm
  obtain ⟨c, rfl⟩ := okWide_agg (by first | exact .inl ⟨_, Tryd.underlying24⟩ | exact .inr ⟨_, _, Tryd.underlying24⟩) (hval 0 24 v0 rfl rfl)
  have rd0 := reads_cells (sh := shC) 30 (by kernel_rfl) k0
  obtain ⟨line, rfl, rfl, rfl, wf1⟩ := open_int Tryd.underlying3 (hval 1 3 v1 rfl rfl) h1
  have bd1 := bounds_i64 wf1
  clear hA0 hval0
  refine (walk c line W (of_laid hL) rd0 bd1.1 bd1.2).mono fun e W' ⟨he, bel⟩ => ?_
  subst he
  exact ⟨_, rfl, _, _, _, [], _, [], hW', trodAll_mk1 (shut_bool Tryd.underlying4 _), (trodAll_cons_mk (Below.trod laidOut (by kernel_rfl) (of_decide_eq_true (by kernel_rfl)) k0 bel lt0) (trodAll_cons_mk (shut_int Tryd.underlying3 wf1) trodAll_mk0)), rfl, bel.frame _, fun h => by cases h⟩

theorem over : Rows.diagTellsRow.holds Tryd.pinned (OpenSpec.ofChange Rows.diagTellsSpec) :=
  OpenClaim.holds_of_wide 3 Tryd.f3 rfl rfl rfl rfl rfl rfl rfl ⟨rfl, rfl, rfl, rfl, rfl⟩ rfl rfl rfl rfl rfl (by kernel_rfl) Tryd.func3 (by kernel_rfl)
    (of_decide_eq_true (by kernel_rfl)) (by unfold Func.isWrapper; first | (rw [if_pos (by decide +kernel)]; kernel_rfl) | (rw [if_neg (by decide +kernel)]; exact ⟨rfl, rfl⟩))
    (fun os started H enc _ => lifted os started H enc)

/-- The card: what the row lists is tied to the program's text. -/
theorem proved : Rows.DiagTellsCardSaid :=
  Claim7.holds_tied_plain_at .later [] [.data,.data,.data,.data] true Rows.diagTellsCard.stood.harness false
    over (fun _ h => by cases h) (by kernel_rfl) (fun _ h => by cases h) diagTells_row_tie rfl ⟨rfl, rfl⟩ (by kernel_rfl) rfl
    (fun f fn hf hfn => by
      obtain rfl : f = 3 := Option.some.inj ((show Tryd.prog.funcNamed "busbar/busbarlaw40.DiagTells" = some 3 by kernel_rfl).symm.trans hf) |>.symm
      obtain rfl : fn = Tryd.f3 := (Option.some.inj (Tryd.func3.symm.trans hfn)).symm
      exact ⟨by kernel_rfl, fun j t ht => by
        rw [Tryd.params3] at ht
        have hm : t ∈ [24, 3] := by simpa using Array.mem_of_getElem? ht
        have hall : ([24, 3].all fun u => !Tryd.prog.wantsStandIn u) = true := by kernel_rfl
        exact (show Tryd.prog.wantsStandIn t = false by simpa using List.all_eq_true.1 hall t hm)⟩)
    (by kernel_rfl)
end Go.Proofs.YtanhblokhcaoiaaDoor.lawDiagTells
