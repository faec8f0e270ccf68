/- A slot that begins next is at its first place then; the tick ahead of it is the last one of another slot, or of a frame; a place that is written is never older than a frame, and never later than a frame and a window: for all schedules, versions, slots and ticks; no condition. -/
import Derived.RegionTactic
import Derived.IntWalk
import Derived.Deep.DeepCutAuto
import Derived.Deep.CutBlock
import Derived.Stop.LaidErr
import Derived.Test.YtkankdecbefenaaDoorCalJ
import Derived.Test.YtkankdecbefenaaDoorPlnH
import Derived.Test.YtkankdecbefenaaDoorTie
import Derived.Test.YtkankdecbefenaaDoorCards
import Derived.Test.YtkankdecbefenaaDoorLaid
import Derived.LaidMore
import Derived.SevenTiedAt
import Derived.Stop.Joined
import Derived.Test.YtkankdecbefenaaDoorRows
import Derived.WalkKit
import Derived.ProofKit
import Derived.OpenShut
import Derived.ShutString
import Derived.ChangeOld
import Derived.Below
namespace Go.Proofs.YtkankdecbefenaaDoor.lawCalendarGoes
open Go.ChangeShapes Go.WideShapes Go.ChangeAt Go.RowKit Base
open Go.ChangeMaps (open_string shut_string)
set_option linter.unusedVariables false
set_option linter.unusedSimpArgs false
theorem own : ownKnob Tryd.prog.godebug = none := by kernel_rfl
theorem laidOut : laidOutB Tryd.prog = true := by kernel_rfl
open Ly7

def Ld (w : World) : Prop := Txt.Lf w
theorem of_laid {W : World} (h : laidMetH Tryd.prog Rows.calendarGoesRow.laid W) : Ld W := by
  rw [MakeChecks.laidMetH_plain _ _ _ (by kernel_rfl)] at h
  have h1 := laidMet.tail (laidMet.tail h)
  exact Lib.tabIs_of_head (g := 0) (t := 106) (e := 89) (n := 20) (by kernel_rfl) (by kernel_rfl) Tryd.underlying106 Tryd.underlying89 (by kernel_rfl) (by kernel_rfl) h1
abbrev T2 : TypeId := 49
set_option maxRecDepth 100000 in
set_option maxHeartbeats 8000000 in
theorem go (md : Int) (A0 : Option Addr) (n0 c0 : Nat) (A1 : Option Addr) (n1 c1 : Nat) (ws0 ws1 : List Wd) (vx a0 a1 : Int) (w : World) (hU : Ld w) (hW0 : WinsAt w A0 n0 ws0) (hW1 : WinsAt w A1 n1 ws1) (h0 : n0 ≤ 9223372036854775807) (h1 : n1 ≤ 9223372036854775807) (hmd : md ≤ 9223372036854775807) :
    Calls Tryd.prog 5 #[.agg #[.int .i64 md, .slice A0 n0 c0, .slice A1 n1 c1], .int .i64 vx, .agg #[.int .i64 a0, .int .i64 a1]] w fun e w' => e = .returned (.bool true) ∧ Below w.heap.size w w' := by
  have HLF : Hid (∀ W, Below w.heap.size w W → Txt.Lf W) := Lib.hid (fun W h => Txt.Lf.kept hU h)
  have hfc := fld_code
  obtain ⟨y1, y10, y11', hy1'⟩ := and_mask vx 1 (by omega)
  have hy1 : Go.bits BinOp.and IntKind.i64 vx 1 = y1 := hy1'
  have y11 : y1 ≤ 1 := y11'
  obtain ⟨vn, rfl⟩ : ∃ k : Nat, y1 = (k : Int) := ⟨y1.toNat, by omega⟩
  have hvn : vn < 2 := by omega
  obtain ⟨y2, y20, y21', hy2'⟩ := and_mask a0 255 (by omega)
  have hy2 : Go.bits BinOp.and IntKind.i64 a0 255 = y2 := hy2'
  have y21 : y2 ≤ 255 := y21'
  obtain ⟨rn, rfl⟩ : ∃ k : Nat, y2 = (k : Int) := ⟨y2.toNat, by omega⟩
  have hrn : rn ≤ 255 := by omega
  obtain ⟨tick, ht0, ht1', hy3'⟩ := and_mask a1 1048575 (by omega)
  have hy3 : Go.bits BinOp.and IntKind.i64 a1 1048575 = tick := hy3'
  have ht1 : tick ≤ 1048575 := ht1'
  clear y11' hy1' y21' hy2' ht1' hy3' y10 y11 y20 y21
  obtain ⟨gb, HGB⟩ : ∃ gb, Hid (w.heap.size = gb) := ⟨_, Lib.hid rfl⟩
  obtain ⟨ga, HGA⟩ : ∃ ga, Hid (gb + 1 = ga) := ⟨_, Lib.hid rfl⟩
  obtain ⟨W1, HW1⟩ : ∃ W, Hid (W = w.alloc (.cells #[.int .i64 md, .slice A0 n0 c0, .slice A1 n1 c1] TSd)) := ⟨_, Lib.hid rfl⟩
  obtain ⟨W2, HW2⟩ : ∃ W, Hid (W = W1.alloc (.cells #[.int .i64 a0, .int .i64 a1] T2)) := ⟨_, Lib.hid rfl⟩
  have n1' : Below w.heap.size w W1 := by rw [HW1.out]; exact bel_new _ _
  have n2' : Below W1.heap.size W1 W2 := by rw [HW2.out]; exact bel_new _ _
  have s1 : W1.heap.size = ga := by rw [HW1.out, ← HGA.out, ← HGB.out]; simp
  have HB2 : Hid (Below w.heap.size w W2) := Lib.hid (n1'.trans (n2'.mono n1'.size))
  have HO2 : Hid (Obj1 W2 gb TSd #[.int .i64 md, .slice A0 n0 c0, .slice A1 n1 c1]) := Lib.hid ((show Obj1 W1 gb TSd _ by rw [HW1.out, ← HGB.out]; exact Obj1.new _ _ _).kept n2')
  have HA2 : Hid (Obj1 W2 ga T2 #[.int .i64 a0, .int .i64 a1]) := Lib.hid (by rw [HW2.out, ← s1]; exact Obj1.new _ _ _)
  have HFW := Lib.hid (few_any md A0 n0 c0 A1 n1 c1 ws0 ws1 W2 (hW0.kept HB2.out) (hW1.kept HB2.out) h0 h1)
  have HW0 := Lib.hid hW0
  have HWN := Lib.hid hW1
  have HMD := Lib.hid hmd
  have HVN := Lib.hid hvn
  have HRN := Lib.hid hrn
  have HTK : Hid (0 ≤ tick ∧ tick ≤ 1048575) := Lib.hid ⟨ht0, ht1⟩
  have d0 : W2.cell? ⟨gb, 0, none⟩ = some (.int .i64 md) := HO2.out.cell 0
  have d1 : W2.cell? ⟨gb, 1, none⟩ = some (.slice A0 n0 c0) := HO2.out.cell 1
  have d2 : W2.cell? ⟨gb, 2, none⟩ = some (.slice A1 n1 c1) := HO2.out.cell 2
  clear hU hW0 hW1 h0 h1 hmd n1' n2' s1 hvn hrn ht0 ht1
  go_enter Tryd.func5, Tryd.ntmps5
  go_upto_region 1 with (fail)
  rw [← HW1.out, HGB.out, HGA.out, ← HW2.out]
  clear HW1 HW2 HGA HGB
  go_wp2_with fail
  refine HFW.out.mono ?_
  rintro e' w3 ⟨r, rfl, hr, hb3⟩
  have HB3 : Hid (Below w.heap.size w w3) := Lib.hid (HB2.out.trans (hb3.mono HB2.out.size))
  have HO3 := Lib.hid (HO2.out.kept hb3)
  have HA3 := Lib.hid (HA2.out.kept hb3)
  clear hb3 d0 d1 d2 HFW HO2 HA2 HB2
  rcases hr with rfl | ⟨rfl, hf0, hf1⟩
  · go_wp2_with fail
    refine (one43 _ (HLF.out _ HB3.out)).mono ?_
    rintro e' wo ⟨rfl, hbo⟩
    have HBO := Lib.hid (HB3.out.trans (hbo.mono HB3.out.size))
    clear hbo
    go_wp2
    go_ret
    exact ⟨rfl, HBO.out⟩
  have HF0 := Lib.hid hf0
  have HF1 := Lib.hid hf1
  clear hf0 hf1
  obtain ⟨fv, fj, e, hck⟩ := chk_ex (winI md) md ws0 ws1
  have HSD : Hid (∀ W, Below w.heap.size w W → Sd (winI md) md A0 n0 c0 A1 n1 c1 ws0 ws1 fv fj e W) := Lib.hid (fun W hb =>
    ⟨HW0.out.kept hb, HWN.out.kept hb, by have := HF0.out.1; omega, by have := HF1.out.1; omega, says_win HMD.out HF0.out, says_win HMD.out HF1.out, hck⟩)
  have HCH := Lib.hid hck
  clear hck
  have HCK := Lib.hid ((HSD.out w (Below.refl _ _)).code w3 HB3.out)
  have d0 : w3.cell? ⟨gb, 0, none⟩ = some (.int .i64 md) := HO3.out.cell 0
  have d1 : w3.cell? ⟨gb, 1, none⟩ = some (.slice A0 n0 c0) := HO3.out.cell 1
  have d2 : w3.cell? ⟨gb, 2, none⟩ = some (.slice A1 n1 c1) := HO3.out.cell 2
  go_wp2_with fail
  refine HCK.out.mono ?_
  rintro e' w4 ⟨rfl, hb4⟩
  have HB4 := Lib.hid (HB3.out.trans (hb4.mono HB3.out.size))
  have HO4 := Lib.hid (HO3.out.kept hb4)
  have HA4 := Lib.hid (HA3.out.kept hb4)
  clear hb4 d0 d1 d2 HCK HO3 HA3 HB3
  by_cases he : e = 0
  case neg =>
    have hen : (e != 0) = true := by simpa using he
    clear he
    go_wp2_with fail
    refine (one43 _ (HLF.out _ HB4.out)).mono ?_
    rintro e' wo ⟨rfl, hbo⟩
    have HBO := Lib.hid (HB4.out.trans (hbo.mono HB4.out.size))
    clear hbo
    go_wp2
    go_ret
    exact ⟨rfl, HBO.out⟩
  subst he
  obtain ⟨A, n, c, ws, ss, T, HVR, HSS, HTT, HFR⟩ : ∃ A n c ws ss T, Hid (Ver vn A0 n0 c0 A1 n1 c1 ws0 ws1 A n c ws) ∧ Hid (ss = viewL vn (-1) ws) ∧ Hid (T = endS ws (leadI vn) + 120) ∧ Hid (Frm 0 (vn : Int) A0 n0 c0 A1 n1 c1 ws0 ws1 ss T) := by
    rcases (show vn = 0 ∨ vn = 1 by have := HVN.out; omega) with h | h
    · have hv : Ver vn A0 n0 c0 A1 n1 c1 ws0 ws1 A0 n0 c0 ws0 := .inl ⟨h, rfl, rfl, rfl, rfl⟩
      exact ⟨A0, n0, c0, ws0, _, _, Lib.hid hv, Lib.hid rfl, Lib.hid rfl, Lib.hid (.inl ⟨rfl, vn, A0, n0, c0, ws0, rfl, hv, rfl, rfl⟩)⟩
    · have hv : Ver vn A0 n0 c0 A1 n1 c1 ws0 ws1 A1 n1 c1 ws1 := .inr ⟨h, rfl, rfl, rfl, rfl⟩
      exact ⟨A1, n1, c1, ws1, _, _, Lib.hid hv, Lib.hid rfl, Lib.hid rfl, Lib.hid (.inl ⟨rfl, vn, A1, n1, c1, ws1, rfl, hv, rfl, rfl⟩)⟩
  have HSL := Lib.hid (frm_sls (HSD.out w (Below.refl _ _)) HFR.out)
  have HVA := Lib.hid (frm_valid HCH.out HFR.out)
  have HWV := Lib.hid ((HSD.out w (Below.refl _ _)).ver HVR.out)
  have hnil : ss ≠ [] := by
    intro h
    have := HSS.out
    rw [h] at this
    unfold viewL at this
    simp at this
  have hT3 : 320 ≤ T ∧ T ≤ 20000000 ∧ 2 ≤ ss.length ∧ ss.length ≤ 902 := by
    have h2 := HSL.out.top
    have h3 := HSL.out.len
    rcases HSL.out.big with h | h
    · exact absurd h.1 hnil
    · omega
  have HNIL := Lib.hid hnil
  obtain ⟨N, HN⟩ : ∃ N, Hid (ss.length = N) := ⟨_, Lib.hid rfl⟩
  rw [HN.out] at hT3
  have HT3 := Lib.hid hT3
  clear hnil hT3
  have HVW := Lib.hid (view_any md A0 n0 c0 A1 n1 c1 A n c vn (-1) ws w4 HWV.out.2.2 (HWV.out.1.kept HB4.out) HWV.out.2.1)
  rw [← HSS.out] at HVW
  have d0 : w4.cell? ⟨gb, 0, none⟩ = some (.int .i64 md) := HO4.out.cell 0
  have d1 : w4.cell? ⟨gb, 1, none⟩ = some (.slice A0 n0 c0) := HO4.out.cell 1
  have d2 : w4.cell? ⟨gb, 2, none⟩ = some (.slice A1 n1 c1) := HO4.out.cell 2
  go_wp2_with fail
  refine HVW.out.mono ?_
  rintro e' w5 ⟨v5, rfl, HR5, hb5⟩
  obtain ⟨A7, c7, rfl, hs5⟩ := slots_own HR5.out rfl
  rw [HN.out] at hs5 ⊢
  have HS5 := Lib.hid hs5
  have HB5 := Lib.hid (HB4.out.trans (hb5.out.mono HB4.out.size))
  have HO5 := Lib.hid (HO4.out.kept hb5.out)
  have HA5 := Lib.hid (HA4.out.kept hb5.out)
  clear hs5 hb5 HR5 d0 d1 d2 HVW HO4 HA4 HB4
  have hN0 : ¬ (N : Int) = 0 := by have := HT3.out; omega
  have hNz : ¬ N = 0 := by have := HT3.out; omega
  have hNb : ((N : Int) == 0) = false := by simpa using hN0
  obtain ⟨s, hs⟩ : ∃ s, rn % N = s := ⟨_, rfl⟩
  obtain ⟨q, hq⟩ : ∃ q, rn / N = q := ⟨_, rfl⟩
  obtain ⟨m1, m2, _, _, _, _, m3, m4⟩ := md_num hs hq (show 0 < N by omega)
  have hsN : s < N := by omega
  have HSN := Lib.hid hsN
  have m5 : IntKind.i64.wrap (s : Int) = (s : Int) := IntWalk.i64_in _ (by have := HT3.out; omega)
  have k0 : ∀ z : Kin w5.drew, z.world.cell? ⟨ga, 0, none⟩ = some (.int .i64 a0) := fun z => Kin.at (w := w5.drew) (HA5.out.cell 0) z
  have k1 : ∀ z : Kin w5.drew, z.world.cell? ⟨ga, 1, none⟩ = some (.int .i64 a1) := fun z => Kin.at (w := w5.drew) (HA5.out.cell 1) z
  clear hs hq hsN
  go_upto_region 7 with (fail)
  refine wp_region_specL 11 [.d (.pointer (some ⟨ga, 0, none⟩)), .d (.int .i64 a0), .d (.int .i64 (rn : Int)), .d (.slice A7 N c7), .d (.int .i64 (N : Int)), .d (.int .i64 (s : Int)), .d (.pointer (some ⟨ga, 1, none⟩)), .d (.int .i64 a1), .d (.int .i64 tick), .d (.int .i64 (s : Int)), .d (.int .i64 tick)] (by kernel_rfl) (by kernel_rfl) ?_
  refine spec_d rfl (fun x _ => gives_run (by go_simp)) ?_
  try simp only [Act.put, List.getElem_toArray, List.getElem_cons_succ, List.getElem_cons_zero, List.setIfInBounds_toArray, List.set_cons_zero, List.set_cons_succ]
  refine spec_d rfl (fun x _ => gives_run (by go_simp)) ?_
  try simp only [Act.put, List.getElem_toArray, List.getElem_cons_succ, List.getElem_cons_zero, List.setIfInBounds_toArray, List.set_cons_zero, List.set_cons_succ]
  refine spec_d rfl (fun x _ => gives_run (by go_simp)) ?_
  try simp only [Act.put, List.getElem_toArray, List.getElem_cons_succ, List.getElem_cons_zero, List.setIfInBounds_toArray, List.set_cons_zero, List.set_cons_succ]
  refine spec_d rfl (fun x _ => gives_run (by go_simp)) ?_
  try simp only [Act.put, List.getElem_toArray, List.getElem_cons_succ, List.getElem_cons_zero, List.setIfInBounds_toArray, List.set_cons_zero, List.set_cons_succ]
  refine spec_d rfl (fun x _ => gives_run (by go_simp)) ?_
  try simp only [Act.put, List.getElem_toArray, List.getElem_cons_succ, List.getElem_cons_zero, List.setIfInBounds_toArray, List.set_cons_zero, List.set_cons_succ]
  refine spec_d rfl (fun x _ => gives_run (by go_simp)) ?_
  try simp only [Act.put, List.getElem_toArray, List.getElem_cons_succ, List.getElem_cons_zero, List.setIfInBounds_toArray, List.set_cons_zero, List.set_cons_succ]
  refine spec_d rfl (fun x _ => gives_run (by go_simp)) ?_
  try simp only [Act.put, List.getElem_toArray, List.getElem_cons_succ, List.getElem_cons_zero, List.setIfInBounds_toArray, List.set_cons_zero, List.set_cons_succ]
  refine spec_d rfl (fun x _ => gives_run (by go_simp)) ?_
  try simp only [Act.put, List.getElem_toArray, List.getElem_cons_succ, List.getElem_cons_zero, List.setIfInBounds_toArray, List.set_cons_zero, List.set_cons_succ]
  refine spec_d rfl (fun x _ => gives_run (by go_simp)) ?_
  try simp only [Act.put, List.getElem_toArray, List.getElem_cons_succ, List.getElem_cons_zero, List.setIfInBounds_toArray, List.set_cons_zero, List.set_cons_succ]
  refine spec_d rfl (fun x _ => gives_run (by go_simp)) ?_
  try simp only [Act.put, List.getElem_toArray, List.getElem_cons_succ, List.getElem_cons_zero, List.setIfInBounds_toArray, List.set_cons_zero, List.set_cons_succ]
  refine spec_d rfl (fun x _ => gives_run (by go_simp)) ?_
  try simp only [Act.put, List.getElem_toArray, List.getElem_cons_succ, List.getElem_cons_zero, List.setIfInBounds_toArray, List.set_cons_zero, List.set_cons_succ]
  refine spec_end (fun z hz => ?_)
  clear hz
  refine wpAny_done (by kernel_rfl) ?_ _
  have HBZ : Hid (Below w5.heap.size w5 z.world) := Lib.hid ((bel_drew w5).trans z.below)
  clear k0 k1 HA5 m1 m2 m5 hy1 hy2 hy3
  generalize z.world = w6 at HBZ ⊢
  clear z
  have HB6 := Lib.hid (HB5.out.trans (HBZ.out.mono HB5.out.size))
  have HO6 := Lib.hid (HO5.out.kept HBZ.out)
  have HS6 := Lib.hid (HS5.out.kept HBZ.out)
  clear HBZ HO5 HB5 HS5
  obtain ⟨z, hz⟩ : ∃ z, ss[s]? = some z := ⟨_, List.getElem?_eq_getElem (by rw [HN.out]; exact HSN.out)⟩
  have HZK := Lib.hid hz
  obtain ⟨nx, hn1, hn2, hn3, hn4, _, _⟩ := next_in HSL.out hz HT3.out.1 HTK.out.1 (by have := HTK.out; omega)
  have HNB : Hid (tick ≤ nx ∧ nx - tick < T ∧ nx % T = z.s) := Lib.hid ⟨hn2, hn3, hn4⟩
  have HCN := Lib.hid (next_any (winI md) md A0 n0 c0 A1 n1 c1 ws0 ws1 fv fj 0 w6 (HSD.out _ HB6.out) (vn : Int) ss T (s : Int) tick HFR.out)
  rw [hn1] at HCN
  clear hz hn1 hn2 hn3 hn4
  have d0 : w6.cell? ⟨gb, 0, none⟩ = some (.int .i64 md) := HO6.out.cell 0
  have d1 : w6.cell? ⟨gb, 1, none⟩ = some (.slice A0 n0 c0) := HO6.out.cell 1
  have d2 : w6.cell? ⟨gb, 2, none⟩ = some (.slice A1 n1 c1) := HO6.out.cell 2
  go_wp2_with fail
  refine HCN.out.mono ?_
  rintro e' w7 ⟨rfl, hb7⟩
  have HB7 := Lib.hid (HB6.out.trans (hb7.mono HB6.out.size))
  have HO7 := Lib.hid (HO6.out.kept hb7)
  have HS7 := Lib.hid (HS6.out.kept hb7)
  clear hb7 d0 d1 d2 HCN HO6 HB6 HS6
  have HAT := Lib.hid (at_any (winI md) md A0 n0 c0 A1 n1 c1 ws0 ws1 fv fj 0 w7 (HSD.out w7 HB7.out) (vn : Int) ss T nx HFR.out)
  have d0 : w7.cell? ⟨gb, 0, none⟩ = some (.int .i64 md) := HO7.out.cell 0
  have d1 : w7.cell? ⟨gb, 1, none⟩ = some (.slice A0 n0 c0) := HO7.out.cell 1
  have d2 : w7.cell? ⟨gb, 2, none⟩ = some (.slice A1 n1 c1) := HO7.out.cell 2
  go_wp2_with fail
  refine HAT.out.mono ?_
  rintro e' w8 ⟨k, p, rfl, hat, hb8⟩
  have HB8 := Lib.hid (HB7.out.trans (hb8.mono HB7.out.size))
  have HO8 := Lib.hid (HO7.out.kept hb8)
  have HS8 := Lib.hid (HS7.out.kept hb8)
  have hkp : k = (s : Int) ∧ p = 0 := by
    have hnb := HNB.out
    have ht := HTK.out
    have h3 := HT3.out
    obtain ⟨i, y, hk, hy, hp0, hpl, hpm⟩ := at_in hat HNIL.out (by omega) (by omega)
    rw [hnb.2.2] at hpm
    have hzl := (HVA.out z (List.mem_of_getElem? HZK.out)).1
    have hi := at_uniq HSL.out hy HZK.out (M := z.s) (by omega) (by omega) (by omega) (by omega)
    subst hi
    rw [hy] at HZK
    have hyz : y = z := Option.some.inj HZK.out
    subst hyz
    exact ⟨hk, by omega⟩
  obtain ⟨hk, hp⟩ := hkp
  subst hk
  subst hp
  clear hat hb8 d0 d1 d2 HAT HO7 HB7 HS7
  have g1 : ¬ nx < tick := by have := HNB.out; omega
  have g2 : ((s : Int) != (s : Int)) = false := by simp
  go_upto_region 12 with (fail)
  clear g1 g2
  by_cases hnx : 0 < nx
  case neg =>
    have hnx' : ¬ nx > 0 := hnx
    go_upto_region 16 with (fail)
    clear hnx hnx'
    have HFC := Lib.hid (frame_any md A0 n0 c0 A1 n1 c1 A n c vn ws w8 HWV.out.2.2 (HWV.out.1.kept HB8.out) (Nat.le_trans HWV.out.2.1 (by omega)))
    rw [← HTT.out] at HFC
    have d0 : w8.cell? ⟨gb, 0, none⟩ = some (.int .i64 md) := HO8.out.cell 0
    have d1 : w8.cell? ⟨gb, 1, none⟩ = some (.slice A0 n0 c0) := HO8.out.cell 1
    have d2 : w8.cell? ⟨gb, 2, none⟩ = some (.slice A1 n1 c1) := HO8.out.cell 2
    go_wp2_with fail
    refine HFC.out.mono ?_
    rintro e' wa ⟨rfl, hba⟩
    have HBA := Lib.hid (HB8.out.trans (hba.mono HB8.out.size))
    have HOA := Lib.hid (HO8.out.kept hba)
    clear hba d0 d1 d2 HFC
    go_wp2_with fail
    go_loopw [16] (fun i wx => ∃ k : Nat, k ≤ 64 ∧ i = .int .i64 k ∧ Below wa.heap.size wa wx) (fun i _ => 64 - (intOf i).toNat)
    case atStart => exact ⟨0, by omega, rfl, Below.refl _ _⟩
    case round =>
      obtain ⟨k, hk, rfl, hbk⟩ := hrel
      have HBK := Lib.hid (HBA.out.trans (hbk.mono HBA.out.size))
      have HOK := Lib.hid (HOA.out.kept hbk)
      have HWK := Lib.hid hbk
      clear hbk
      by_cases hlt : k < 64
      · have hki : (k : Int) < 64 := by omega
        have e1 : IntKind.i64.wrap ((k : Int) + 1) = (k : Int) + 1 := IntWalk.i64_in _ (by omega)
        obtain ⟨ag, hag⟩ : ∃ a, ageF ss T (k : Int) = a := ⟨_, rfl⟩
        obtain ⟨la, hla⟩ : ∃ a, lateF ss T (k : Int) = a := ⟨_, rfl⟩
        have hal := age_late (addr := (k : Int)) HSL.out HVA.out HT3.out.1
        rw [hag, hla] at hal
        obtain ⟨⟨l1, l2⟩, l3, l4, l5, l6⟩ := hal
        have HKZ : Hid (∀ x : Kin wr.drew, Below w.heap.size w x.world) := Lib.hid (fun x => HBK.out.trans (((bel_drew wr).trans x.below).mono HBK.out.size))
        have HCA : Hid (∀ x : Kin wr.drew, Calls Tryd.prog 15 #[.agg #[.int .i64 md, .slice A0 n0 c0, .slice A1 n1 c1], .int .i64 (vn : Int), .int .i64 (k : Int)] x.world fun r w' => r = .returned (.int .i64 ag) ∧ Below x.world.heap.size x.world w') := Lib.hid (fun x => by
          have h := age_any (winI md) md A0 n0 c0 A1 n1 c1 ws0 ws1 fv fj 0 x.world (HSD.out _ (HKZ.out x)) (vn : Int) ss T (k : Int) HFR.out
          rw [hag] at h
          exact h)
        have HCL : Hid (∀ x : Kin wr.drew, Calls Tryd.prog 16 #[.agg #[.int .i64 md, .slice A0 n0 c0, .slice A1 n1 c1], .int .i64 (vn : Int), .int .i64 (k : Int)] x.world fun r w' => r = .returned (.int .i64 la) ∧ Below x.world.heap.size x.world w') := Lib.hid (fun x => by
          have h := late_any (winI md) md A0 n0 c0 A1 n1 c1 ws0 ws1 fv fj 0 x.world (HSD.out _ (HKZ.out x)) (vn : Int) ss T (k : Int) HFR.out
          rw [hla] at h
          exact h)
        clear hag hla
        have d0 : ∀ z : Kin wr.drew, z.world.cell? ⟨gb, 0, none⟩ = some (.int .i64 md) := fun z => Kin.at (w := wr.drew) (HOK.out.cell 0) z
        have d1 : ∀ z : Kin wr.drew, z.world.cell? ⟨gb, 1, none⟩ = some (.slice A0 n0 c0) := fun z => Kin.at (w := wr.drew) (HOK.out.cell 1) z
        have d2 : ∀ z : Kin wr.drew, z.world.cell? ⟨gb, 2, none⟩ = some (.slice A1 n1 c1) := fun z => Kin.at (w := wr.drew) (HOK.out.cell 2) z
        go_upto_region 20 with (fail)
        refine wp_region_specL 10 [.d (.agg #[.int .i64 md, .slice A0 n0 c0, .slice A1 n1 c1]), .d (.int .i64 (vn : Int)), .d (.int .i64 (k : Int)), .d (.int .i64 ag), .d (.agg #[.int .i64 md, .slice A0 n0 c0, .slice A1 n1 c1]), .d (.int .i64 (vn : Int)), .d (.int .i64 (k : Int)), .d (.int .i64 la), .d (.int .i64 ag), .d (.int .i64 la)] (by kernel_rfl) (by kernel_rfl) ?_
        refine spec_d rfl (fun x _ => gives_run (by go_simp)) ?_
        try simp only [Act.put, List.getElem_toArray, List.getElem_cons_succ, List.getElem_cons_zero, List.setIfInBounds_toArray, List.set_cons_zero, List.set_cons_succ]
        refine spec_d rfl (fun x _ => gives_run (by go_simp)) ?_
        try simp only [Act.put, List.getElem_toArray, List.getElem_cons_succ, List.getElem_cons_zero, List.setIfInBounds_toArray, List.set_cons_zero, List.set_cons_succ]
        refine spec_d rfl (fun x _ => gives_run (by go_simp)) ?_
        try simp only [Act.put, List.getElem_toArray, List.getElem_cons_succ, List.getElem_cons_zero, List.setIfInBounds_toArray, List.set_cons_zero, List.set_cons_succ]
        refine spec_d rfl (fun x _ => gives_det (by go_simp) (HCA.out x)) ?_
        try simp only [Act.put, List.getElem_toArray, List.getElem_cons_succ, List.getElem_cons_zero, List.setIfInBounds_toArray, List.set_cons_zero, List.set_cons_succ]
        refine spec_d rfl (fun x _ => gives_run (by go_simp)) ?_
        try simp only [Act.put, List.getElem_toArray, List.getElem_cons_succ, List.getElem_cons_zero, List.setIfInBounds_toArray, List.set_cons_zero, List.set_cons_succ]
        refine spec_d rfl (fun x _ => gives_run (by go_simp)) ?_
        try simp only [Act.put, List.getElem_toArray, List.getElem_cons_succ, List.getElem_cons_zero, List.setIfInBounds_toArray, List.set_cons_zero, List.set_cons_succ]
        refine spec_d rfl (fun x _ => gives_run (by go_simp)) ?_
        try simp only [Act.put, List.getElem_toArray, List.getElem_cons_succ, List.getElem_cons_zero, List.setIfInBounds_toArray, List.set_cons_zero, List.set_cons_succ]
        refine spec_d rfl (fun x _ => gives_det (by go_simp) (HCL.out x)) ?_
        try simp only [Act.put, List.getElem_toArray, List.getElem_cons_succ, List.getElem_cons_zero, List.setIfInBounds_toArray, List.set_cons_zero, List.set_cons_succ]
        refine spec_d rfl (fun x _ => gives_run (by go_simp)) ?_
        try simp only [Act.put, List.getElem_toArray, List.getElem_cons_succ, List.getElem_cons_zero, List.setIfInBounds_toArray, List.set_cons_zero, List.set_cons_succ]
        refine spec_d rfl (fun x _ => gives_run (by go_simp)) ?_
        try simp only [Act.put, List.getElem_toArray, List.getElem_cons_succ, List.getElem_cons_zero, List.setIfInBounds_toArray, List.set_cons_zero, List.set_cons_succ]
        refine spec_end (fun x hx => ?_)
        clear hx
        refine wpAny_done (by kernel_rfl) ?_ _
        have HBX : Hid (Below wa.heap.size wa x.world) := Lib.hid (HWK.out.trans (((bel_drew wr).trans x.below).mono HWK.out.size))
        clear d0 d1 d2 HCA HCL HKZ
        generalize x.world = wb at HBX ⊢
        clear x
        have p1 : ¬ ag < 0 := by omega
        have p2 : ¬ T < ag := by omega
        have p4 : IntKind.i64.wrap (T + 1720) = T + 1720 := IntWalk.i64_in _ (by have := HT3.out; omega)
        have p5 : ¬ T + 1720 ≤ la := by omega
        obtain ⟨b0, hb0⟩ : ∃ b0, (la == 0) = b0 := ⟨_, rfl⟩
        have hb1 : (ag == 0) = b0 := by
          rw [← hb0, Bool.eq_iff_iff]
          simpa using l3
        have hb2 : (b0 != b0) = false := by cases b0 <;> rfl
        clear l1 l2 l3 l4 l5
        by_cases hl0 : 0 < la
        · have p6 : ¬ la < 360 := by have := l6 hl0; omega
          clear l6
          go_wp2
          go_roundw
          case rel => exact ⟨k + 1, by omega, by go_num, HBX.out⟩
          case measure => simp [intOf]; omega
        · clear l6
          go_wp2
          go_roundw
          case rel => exact ⟨k + 1, by omega, by go_num, HBX.out⟩
          case measure => simp [intOf]; omega
      · have hke : k = 64 := by omega
        subst hke
        obtain ⟨t1, t2⟩ := beg_twice HSL.out HT3.out.1 HZK.out
        have HC1 := Lib.hid (begins_any (winI md) md A0 n0 c0 A1 n1 c1 ws0 ws1 fv fj 0 wr (HSD.out _ HBK.out) (vn : Int) ss T (s : Int) T HFR.out)
        rw [t1] at HC1
        have d0 : wr.cell? ⟨gb, 0, none⟩ = some (.int .i64 md) := HOK.out.cell 0
        have d1 : wr.cell? ⟨gb, 1, none⟩ = some (.slice A0 n0 c0) := HOK.out.cell 1
        have d2 : wr.cell? ⟨gb, 2, none⟩ = some (.slice A1 n1 c1) := HOK.out.cell 2
        go_wp2_with fail
        refine HC1.out.mono ?_
        rintro e' wc ⟨rfl, hbc⟩
        have HBC := Lib.hid (HBK.out.trans (hbc.mono HBK.out.size))
        have HOC := Lib.hid (HOK.out.kept hbc)
        have HC2 := Lib.hid (begins_any (winI md) md A0 n0 c0 A1 n1 c1 ws0 ws1 fv fj 0 wc (HSD.out _ HBC.out) (vn : Int) ss T (s : Int) (2 * T) HFR.out)
        rw [t2] at HC2
        have p4 : IntKind.i64.wrap (2 * T) = 2 * T := IntWalk.i64_in _ (by have := HT3.out; omega)
        clear d0 d1 d2 hbc t1 t2 HC1
        have d0 : wc.cell? ⟨gb, 0, none⟩ = some (.int .i64 md) := HOC.out.cell 0
        have d1 : wc.cell? ⟨gb, 1, none⟩ = some (.slice A0 n0 c0) := HOC.out.cell 1
        have d2 : wc.cell? ⟨gb, 2, none⟩ = some (.slice A1 n1 c1) := HOC.out.cell 2
        go_wp2_with fail
        refine HC2.out.mono ?_
        rintro e' wd ⟨rfl, hbd⟩
        have HBD := Lib.hid (HBC.out.trans (hbd.mono HBC.out.size))
        clear d0 d1 d2 hbd HC2 p4
        go_wp2_with fail
        refine (one43 _ (HLF.out _ HBD.out)).mono ?_
        rintro e' wo ⟨rfl, hbo⟩
        have HBO := Lib.hid (HBD.out.trans (hbo.mono HBD.out.size))
        clear hbo
        go_wp2
        go_ret
        exact ⟨rfl, HBO.out⟩
  obtain ⟨j, y, hj, hy, hjm, hyl⟩ := prev_slot HSL.out HVA.out HT3.out.1 HZK.out HNB.out.2.2
  rw [HN.out] at hj
  have HJM := Lib.hid hjm
  have HYK := Lib.hid hy
  have HYL := Lib.hid hyl
  have HAT := Lib.hid (at_any (winI md) md A0 n0 c0 A1 n1 c1 ws0 ws1 fv fj 0 w8 (HSD.out w8 HB8.out) (vn : Int) ss T (nx - 1) HFR.out)
  have e1 : IntKind.i64.wrap (nx - 1) = nx - 1 := IntWalk.i64_in _ (by have := HNB.out; have := HTK.out; have := HT3.out; omega)
  clear hjm hy hyl
  have d0 : w8.cell? ⟨gb, 0, none⟩ = some (.int .i64 md) := HO8.out.cell 0
  have d1 : w8.cell? ⟨gb, 1, none⟩ = some (.slice A0 n0 c0) := HO8.out.cell 1
  have d2 : w8.cell? ⟨gb, 2, none⟩ = some (.slice A1 n1 c1) := HO8.out.cell 2
  go_wp2_with fail
  refine HAT.out.mono ?_
  rintro e' w9 ⟨k, p, rfl, hat, hb9⟩
  have HB9 := Lib.hid (HB8.out.trans (hb9.mono HB8.out.size))
  have HO9 := Lib.hid (HO8.out.kept hb9)
  have HS9 := Lib.hid (HS8.out.kept hb9)
  have hkp : k = (j : Int) ∧ p = y.l - 1 := by
    have hnb := HNB.out
    have ht := HTK.out
    have h3 := HT3.out
    have hl := HYL.out
    obtain ⟨i, y', hk, hy', hp0, hpl, hpm⟩ := at_in hat HNIL.out (by omega) (by omega)
    rw [HJM.out] at hpm
    have hi := at_uniq HSL.out hy' HYK.out (M := y.s + y.l - 1) (by omega) (by omega) (by omega) (by omega)
    subst hi
    rw [hy'] at HYK
    have hyz : y' = y := Option.some.inj HYK.out
    subst hyz
    exact ⟨hk, by omega⟩
  obtain ⟨hk, hp⟩ := hkp
  subst hk
  subst hp
  clear hat hb9 d0 d1 d2 HAT HO8 HB8 HS8 e1 hnx
  obtain ⟨qq, hqq⟩ : ∃ q, (s + N - 1) / N = q := ⟨_, rfl⟩
  obtain ⟨m1, m2, _, _, _, _, m3', m4'⟩ := md_num hj hqq (show 0 < N by omega)
  have hsc : ((s + N - 1 : Nat) : Int) = (s : Int) + (N : Int) - 1 := by have := HT3.out; omega
  rw [hsc] at m1 m2
  have e1 : IntKind.i64.wrap ((s : Int) + (N : Int)) = (s : Int) + (N : Int) := IntWalk.i64_in _ (by have := HT3.out; have := HSN.out; omega)
  have e2 : IntKind.i64.wrap ((s : Int) + (N : Int) - 1) = (s : Int) + (N : Int) - 1 := IntWalk.i64_in _ (by have := HT3.out; have := HSN.out; omega)
  have e3 : IntKind.i64.wrap (j : Int) = (j : Int) := IntWalk.i64_in _ (by have := HT3.out; omega)
  have e4 : IntKind.i64.wrap (y.l - 1) = y.l - 1 := IntWalk.i64_in _ (by have := HSL.out.bd y (List.mem_of_getElem? HYK.out); omega)
  obtain ⟨b, off, rfl, hb, k0, k1, k2, k3, k4, k5, k6, k7⟩ := HS9.out.eight (show j < N by omega) HYK.out
  have g1 : (y.l - 1 != y.l - 1) = false := by simp
  have g2 : ((j : Int) != (j : Int)) = false := by simp
  clear hj hqq hsc hb k0 k1 k3 k4 k5 k6 k7
  go_upto_region 16 with (fail)
  clear m1 m2 m3' m4' e1 e2 e3 e4 k2 g1 g2
  have HFC := Lib.hid (frame_any md A0 n0 c0 A1 n1 c1 A n c vn ws w9 HWV.out.2.2 (HWV.out.1.kept HB9.out) (Nat.le_trans HWV.out.2.1 (by omega)))
  rw [← HTT.out] at HFC
  have d0 : w9.cell? ⟨gb, 0, none⟩ = some (.int .i64 md) := HO9.out.cell 0
  have d1 : w9.cell? ⟨gb, 1, none⟩ = some (.slice A0 n0 c0) := HO9.out.cell 1
  have d2 : w9.cell? ⟨gb, 2, none⟩ = some (.slice A1 n1 c1) := HO9.out.cell 2
  go_wp2_with fail
  refine HFC.out.mono ?_
  rintro e' wa ⟨rfl, hba⟩
  have HBA := Lib.hid (HB9.out.trans (hba.mono HB9.out.size))
  have HOA := Lib.hid (HO9.out.kept hba)
  clear hba d0 d1 d2 HFC
  go_wp2_with fail
  go_loopw [16] (fun i wx => ∃ k : Nat, k ≤ 64 ∧ i = .int .i64 k ∧ Below wa.heap.size wa wx) (fun i _ => 64 - (intOf i).toNat)
  case atStart => exact ⟨0, by omega, rfl, Below.refl _ _⟩
  case round =>
    obtain ⟨k, hk, rfl, hbk⟩ := hrel
    have HBK := Lib.hid (HBA.out.trans (hbk.mono HBA.out.size))
    have HOK := Lib.hid (HOA.out.kept hbk)
    have HWK := Lib.hid hbk
    clear hbk
    by_cases hlt : k < 64
    · have hki : (k : Int) < 64 := by omega
      have e1 : IntKind.i64.wrap ((k : Int) + 1) = (k : Int) + 1 := IntWalk.i64_in _ (by omega)
      obtain ⟨ag, hag⟩ : ∃ a, ageF ss T (k : Int) = a := ⟨_, rfl⟩
      obtain ⟨la, hla⟩ : ∃ a, lateF ss T (k : Int) = a := ⟨_, rfl⟩
      have hal := age_late (addr := (k : Int)) HSL.out HVA.out HT3.out.1
      rw [hag, hla] at hal
      obtain ⟨⟨l1, l2⟩, l3, l4, l5, l6⟩ := hal
      have HKZ : Hid (∀ x : Kin wr.drew, Below w.heap.size w x.world) := Lib.hid (fun x => HBK.out.trans (((bel_drew wr).trans x.below).mono HBK.out.size))
      have HCA : Hid (∀ x : Kin wr.drew, Calls Tryd.prog 15 #[.agg #[.int .i64 md, .slice A0 n0 c0, .slice A1 n1 c1], .int .i64 (vn : Int), .int .i64 (k : Int)] x.world fun r w' => r = .returned (.int .i64 ag) ∧ Below x.world.heap.size x.world w') := Lib.hid (fun x => by
        have h := age_any (winI md) md A0 n0 c0 A1 n1 c1 ws0 ws1 fv fj 0 x.world (HSD.out _ (HKZ.out x)) (vn : Int) ss T (k : Int) HFR.out
        rw [hag] at h
        exact h)
      have HCL : Hid (∀ x : Kin wr.drew, Calls Tryd.prog 16 #[.agg #[.int .i64 md, .slice A0 n0 c0, .slice A1 n1 c1], .int .i64 (vn : Int), .int .i64 (k : Int)] x.world fun r w' => r = .returned (.int .i64 la) ∧ Below x.world.heap.size x.world w') := Lib.hid (fun x => by
        have h := late_any (winI md) md A0 n0 c0 A1 n1 c1 ws0 ws1 fv fj 0 x.world (HSD.out _ (HKZ.out x)) (vn : Int) ss T (k : Int) HFR.out
        rw [hla] at h
        exact h)
      clear hag hla
      have d0 : ∀ z : Kin wr.drew, z.world.cell? ⟨gb, 0, none⟩ = some (.int .i64 md) := fun z => Kin.at (w := wr.drew) (HOK.out.cell 0) z
      have d1 : ∀ z : Kin wr.drew, z.world.cell? ⟨gb, 1, none⟩ = some (.slice A0 n0 c0) := fun z => Kin.at (w := wr.drew) (HOK.out.cell 1) z
      have d2 : ∀ z : Kin wr.drew, z.world.cell? ⟨gb, 2, none⟩ = some (.slice A1 n1 c1) := fun z => Kin.at (w := wr.drew) (HOK.out.cell 2) z
      go_upto_region 20 with (fail)
      refine wp_region_specL 10 [.d (.agg #[.int .i64 md, .slice A0 n0 c0, .slice A1 n1 c1]), .d (.int .i64 (vn : Int)), .d (.int .i64 (k : Int)), .d (.int .i64 ag), .d (.agg #[.int .i64 md, .slice A0 n0 c0, .slice A1 n1 c1]), .d (.int .i64 (vn : Int)), .d (.int .i64 (k : Int)), .d (.int .i64 la), .d (.int .i64 ag), .d (.int .i64 la)] (by kernel_rfl) (by kernel_rfl) ?_
      refine spec_d rfl (fun x _ => gives_run (by go_simp)) ?_
      try simp only [Act.put, List.getElem_toArray, List.getElem_cons_succ, List.getElem_cons_zero, List.setIfInBounds_toArray, List.set_cons_zero, List.set_cons_succ]
      refine spec_d rfl (fun x _ => gives_run (by go_simp)) ?_
      try simp only [Act.put, List.getElem_toArray, List.getElem_cons_succ, List.getElem_cons_zero, List.setIfInBounds_toArray, List.set_cons_zero, List.set_cons_succ]
      refine spec_d rfl (fun x _ => gives_run (by go_simp)) ?_
      try simp only [Act.put, List.getElem_toArray, List.getElem_cons_succ, List.getElem_cons_zero, List.setIfInBounds_toArray, List.set_cons_zero, List.set_cons_succ]
      refine spec_d rfl (fun x _ => gives_det (by go_simp) (HCA.out x)) ?_
      try simp only [Act.put, List.getElem_toArray, List.getElem_cons_succ, List.getElem_cons_zero, List.setIfInBounds_toArray, List.set_cons_zero, List.set_cons_succ]
      refine spec_d rfl (fun x _ => gives_run (by go_simp)) ?_
      try simp only [Act.put, List.getElem_toArray, List.getElem_cons_succ, List.getElem_cons_zero, List.setIfInBounds_toArray, List.set_cons_zero, List.set_cons_succ]
      refine spec_d rfl (fun x _ => gives_run (by go_simp)) ?_
      try simp only [Act.put, List.getElem_toArray, List.getElem_cons_succ, List.getElem_cons_zero, List.setIfInBounds_toArray, List.set_cons_zero, List.set_cons_succ]
      refine spec_d rfl (fun x _ => gives_run (by go_simp)) ?_
      try simp only [Act.put, List.getElem_toArray, List.getElem_cons_succ, List.getElem_cons_zero, List.setIfInBounds_toArray, List.set_cons_zero, List.set_cons_succ]
      refine spec_d rfl (fun x _ => gives_det (by go_simp) (HCL.out x)) ?_
      try simp only [Act.put, List.getElem_toArray, List.getElem_cons_succ, List.getElem_cons_zero, List.setIfInBounds_toArray, List.set_cons_zero, List.set_cons_succ]
      refine spec_d rfl (fun x _ => gives_run (by go_simp)) ?_
      try simp only [Act.put, List.getElem_toArray, List.getElem_cons_succ, List.getElem_cons_zero, List.setIfInBounds_toArray, List.set_cons_zero, List.set_cons_succ]
      refine spec_d rfl (fun x _ => gives_run (by go_simp)) ?_
      try simp only [Act.put, List.getElem_toArray, List.getElem_cons_succ, List.getElem_cons_zero, List.setIfInBounds_toArray, List.set_cons_zero, List.set_cons_succ]
      refine spec_end (fun x hx => ?_)
      clear hx
      refine wpAny_done (by kernel_rfl) ?_ _
      have HBX : Hid (Below wa.heap.size wa x.world) := Lib.hid (HWK.out.trans (((bel_drew wr).trans x.below).mono HWK.out.size))
      clear d0 d1 d2 HCA HCL HKZ
      generalize x.world = wb at HBX ⊢
      clear x
      have p1 : ¬ ag < 0 := by omega
      have p2 : ¬ T < ag := by omega
      have p4 : IntKind.i64.wrap (T + 1720) = T + 1720 := IntWalk.i64_in _ (by have := HT3.out; omega)
      have p5 : ¬ T + 1720 ≤ la := by omega
      obtain ⟨b0, hb0⟩ : ∃ b0, (la == 0) = b0 := ⟨_, rfl⟩
      have hb1 : (ag == 0) = b0 := by
        rw [← hb0, Bool.eq_iff_iff]
        simpa using l3
      have hb2 : (b0 != b0) = false := by cases b0 <;> rfl
      clear l1 l2 l3 l4 l5
      by_cases hl0 : 0 < la
      · have p6 : ¬ la < 360 := by have := l6 hl0; omega
        clear l6
        go_wp2
        go_roundw
        case rel => exact ⟨k + 1, by omega, by go_num, HBX.out⟩
        case measure => simp [intOf]; omega
      · clear l6
        go_wp2
        go_roundw
        case rel => exact ⟨k + 1, by omega, by go_num, HBX.out⟩
        case measure => simp [intOf]; omega
    · have hke : k = 64 := by omega
      subst hke
      obtain ⟨t1, t2⟩ := beg_twice HSL.out HT3.out.1 HZK.out
      have HC1 := Lib.hid (begins_any (winI md) md A0 n0 c0 A1 n1 c1 ws0 ws1 fv fj 0 wr (HSD.out _ HBK.out) (vn : Int) ss T (s : Int) T HFR.out)
      rw [t1] at HC1
      have d0 : wr.cell? ⟨gb, 0, none⟩ = some (.int .i64 md) := HOK.out.cell 0
      have d1 : wr.cell? ⟨gb, 1, none⟩ = some (.slice A0 n0 c0) := HOK.out.cell 1
      have d2 : wr.cell? ⟨gb, 2, none⟩ = some (.slice A1 n1 c1) := HOK.out.cell 2
      go_wp2_with fail
      refine HC1.out.mono ?_
      rintro e' wc ⟨rfl, hbc⟩
      have HBC := Lib.hid (HBK.out.trans (hbc.mono HBK.out.size))
      have HOC := Lib.hid (HOK.out.kept hbc)
      have HC2 := Lib.hid (begins_any (winI md) md A0 n0 c0 A1 n1 c1 ws0 ws1 fv fj 0 wc (HSD.out _ HBC.out) (vn : Int) ss T (s : Int) (2 * T) HFR.out)
      rw [t2] at HC2
      have p4 : IntKind.i64.wrap (2 * T) = 2 * T := IntWalk.i64_in _ (by have := HT3.out; omega)
      clear d0 d1 d2 hbc t1 t2 HC1
      have d0 : wc.cell? ⟨gb, 0, none⟩ = some (.int .i64 md) := HOC.out.cell 0
      have d1 : wc.cell? ⟨gb, 1, none⟩ = some (.slice A0 n0 c0) := HOC.out.cell 1
      have d2 : wc.cell? ⟨gb, 2, none⟩ = some (.slice A1 n1 c1) := HOC.out.cell 2
      go_wp2_with fail
      refine HC2.out.mono ?_
      rintro e' wd ⟨rfl, hbd⟩
      have HBD := Lib.hid (HBC.out.trans (hbd.mono HBC.out.size))
      clear d0 d1 d2 hbd HC2 p4
      go_wp2_with fail
      refine (one43 _ (HLF.out _ HBD.out)).mono ?_
      rintro e' wo ⟨rfl, hbo⟩
      have HBO := Lib.hid (HBD.out.trans (hbo.mono HBD.out.size))
      clear hbo
      go_wp2
      go_ret
      exact ⟨rfl, HBO.out⟩
theorem two_in {w : World} {l : List Value} (h : Reads w (.ar 2 (.int .i64)) l) : ∃ x y : Int, (⟨l⟩ : Array Value) = #[.int .i64 x, .int .i64 y] := by
  obtain ⟨rows, hl, rfl, hr⟩ := h
  match rows, hl with
  | [r0, r1], _ =>
    obtain ⟨a, rfl, _⟩ := hr r0 (by simp)
    obtain ⟨b, rfl, _⟩ := hr r1 (by simp)
    exact ⟨a, b, rfl⟩
theorem walk (cs : Array Value) (ver : Int) (cs2 : Array Value) (w : World) (hU : Ld w) (hr : Reads w shS cs.toList) (a0 : -9223372036854775808 ≤ ver) (a1 : ver ≤ 9223372036854775807) (hr2 : Reads w (.ar 2 (.int .i64)) cs2.toList) :
    Calls Tryd.prog 5 #[.agg cs, .int .i64 ver, .agg cs2] w fun e w' => e = .returned (.bool true) ∧ Below w.heap.size w w' := by
  obtain ⟨md, A0, n0, c0, A1, n1, c1, ws0, ws1, rfl, hW0, hW1, h0, h1⟩ := sched_in hr
  obtain ⟨l⟩ := cs2
  obtain ⟨x, y, h3⟩ := two_in (l := l) hr2
  rw [h3]
  exact go md A0 n0 c0 A1 n1 c1 ws0 ws1 ver x y w hU hW0 hW1 h0 h1 (sched_md hr).2
theorem door_met (os : Os) (args : Array Value) : laidMetH Tryd.prog Rows.calendarGoesRow.laid ((World.doorLaid Tryd.prog 400 os).forCall (fun _ _ => 0) ⟨#[], args, []⟩).memory :=
  laidMetH_of_parts3 (fuel := 8) (laidMet_of_run' 8 (by kernel_rfl) (by kernel_rfl)) (by kernel_rfl) (by kernel_rfl)
set_option maxRecDepth 100000 in
theorem lifted (os : Os) (started : os.Started) (H : Type) (enc : TypeId × Value → H) :
    ReturnsInHanded {} Tryd.checked os 5 .any (fun w args => (Rows.calendarGoesSpec.pre enc Tryd.prog Tryd.f5 [] false w args ∧ laidMetH Tryd.prog Rows.calendarGoesRow.laid w) ∧ sizedMet enc Tryd.prog Tryd.f5 (OpenSpec.ofChange Rows.calendarGoesSpec) false w args)
      (Rows.calendarGoesSpec.post enc Tryd.prog Tryd.f5 false true false false) := by
  refine returnsInHanded_of_change_and (C := Tryd.checked) (X := fun w _ => laidMetH Tryd.prog Rows.calendarGoesRow.laid w) (fun _ _ _ hh h => h.of_heap hh) own started (by kernel_rfl) Tryd.func5
    (ChangeSpec.witness_shaped (enc := enc) (C := Tryd.checked) (os := os) (X := fun w _ => laidMetH Tryd.prog Rows.calendarGoesRow.laid w) false (World.doorLaid Tryd.prog 400 os) #[.agg #[.int .i64 0, .slice none 0 0, .slice none 0 0], .int .i64 0, .agg #[.int .i64 0, .int .i64 0]] 8 rfl (World.shaped_of_RefB (by kernel_rfl) (by kernel_rfl)) (by kernel_rfl) (by kernel_rfl) (by kernel_rfl) (door_met os _)) ?_
  intro W base args ds gs before hval0 hW _ _ hL _
  have hval : ∀ (j : Nat) t v, Tryd.f5.params[j]? = some t → args[j]? = some v → Value.okWide Tryd.prog W .any base t v := hval0
  have hW' := hW
  obtain ⟨p, q, hA0, hV, rfl, hfz, hnd⟩ := hW
  have hA : DataW.TrodAll enc Tryd.prog W 0 (fun _ => true) true Tryd.f5.params.toList args.toList ds p := hA0
  rw [Tryd.params5] at hA hval
  obtain ⟨v0, vs0, d0, ds0, p0, q0, hargs, rfl, rfl, h0, r0⟩ := trodAll_cons hA
  obtain ⟨v1, vs1, d1, ds1, p1, q1, rfl, rfl, rfl, h1, r1⟩ := trodAll_cons r0
  obtain ⟨v2, vs2, d2, ds2, p2, q2, rfl, rfl, rfl, h2, r2⟩ := trodAll_cons r1
  obtain ⟨rfl, rfl, rfl⟩ := trodAll_nil r2
  obtain rfl : args = #[v0, v1, v2] := by cases args; simp_all
  obtain ⟨rfl, rfl⟩ := trodVars_none hV
  have k0 := h0
  have lt0 : ∀ x ∈ p0, x.block < W.heap.size := by obtain ⟨m, hm⟩ := k0; exact DataW.trod_lt m _ _ _ hm
  obtain ⟨s, rfl⟩ := okWide_agg (by first | exact .inl ⟨_, Tryd.underlying25⟩ | exact .inr ⟨_, _, Tryd.underlying25⟩) (hval 0 25 v0 rfl rfl)
  have rd0 := reads_cells (sh := shS) 30 (by kernel_rfl) k0
  obtain ⟨version, rfl, rfl, rfl, wf1⟩ := open_int Tryd.underlying3 (hval 1 3 v1 rfl rfl) h1
  have bd1 := bounds_i64 wf1
  have k2 := h2
  have lt2 : ∀ x ∈ p2, x.block < W.heap.size := by obtain ⟨m, hm⟩ := k2; exact DataW.trod_lt m _ _ _ hm
  obtain ⟨a, rfl⟩ := okWide_agg (by first | exact .inl ⟨_, Tryd.underlying49⟩ | exact .inr ⟨_, _, Tryd.underlying49⟩) (hval 2 49 v2 rfl rfl)
  have rd2 := reads_cells (sh := .ar 2 (.int .i64)) 30 (by kernel_rfl) k2
  clear hA0 hval0
  refine (walk s version a W (of_laid hL) rd0 bd1.1 bd1.2 rd2).mono fun e W' ⟨he, bel⟩ => ?_
  subst he
  exact ⟨_, rfl, _, _, _, [], _, [], hW', trodAll_mk1 (shut_bool Tryd.underlying4 _), (trodAll_cons_mk (Below.trod laidOut (by kernel_rfl) (of_decide_eq_true (by kernel_rfl)) k0 bel lt0) (trodAll_cons_mk (shut_int Tryd.underlying3 wf1) (trodAll_cons_mk (Below.trod laidOut (by kernel_rfl) (of_decide_eq_true (by kernel_rfl)) k2 bel lt2) trodAll_mk0))), rfl, bel.frame _, fun h => by cases h⟩

theorem over : Rows.calendarGoesRow.holds Tryd.pinned (OpenSpec.ofChange Rows.calendarGoesSpec) :=
  OpenClaim.holds_of_wide 5 Tryd.f5 rfl rfl rfl rfl rfl rfl rfl ⟨rfl, rfl, rfl, rfl, rfl⟩ rfl rfl rfl rfl rfl (by kernel_rfl) Tryd.func5 (by kernel_rfl)
    (of_decide_eq_true (by kernel_rfl)) (by unfold Func.isWrapper; first | (rw [if_pos (by decide +kernel)]; kernel_rfl) | (rw [if_neg (by decide +kernel)]; exact ⟨rfl, rfl⟩))
    (fun os started H enc _ => lifted os started H enc)

/-- The card: what the row lists is tied to the program's text. -/
theorem proved : Rows.CalendarGoesCardSaid :=
  Claim7.holds_tied_plain_at .later [] [.data,.data,.data] true Rows.calendarGoesCard.stood.harness false
    over (fun _ h => by cases h) (by kernel_rfl) (fun _ h => by cases h) calendarGoes_row_tie rfl ⟨rfl, rfl⟩ (by kernel_rfl) rfl
    (fun f fn hf hfn => by
      obtain rfl : f = 5 := Option.some.inj ((show Tryd.prog.funcNamed "busbar/busbarlaw43.CalendarGoes" = some 5 by kernel_rfl).symm.trans hf) |>.symm
      obtain rfl : fn = Tryd.f5 := (Option.some.inj (Tryd.func5.symm.trans hfn)).symm
      exact ⟨by kernel_rfl, fun j t ht => by
        rw [Tryd.params5] at ht
        have hm : t ∈ [25, 3, 49] := by simpa using Array.mem_of_getElem? ht
        have hall : ([25, 3, 49].all fun u => !Tryd.prog.wantsStandIn u) = true := by kernel_rfl
        exact (show Tryd.prog.wantsStandIn t = false by simpa using List.all_eq_true.1 hall t hm)⟩)
    (by kernel_rfl)
end Go.Proofs.YtkankdecbefenaaDoor.lawCalendarGoes
