/- Any events are of the document's windows, and alike, or agreed on, as it says: for all lists of events and modules; no condition. -/
import Derived.RegionTactic
import Derived.IntWalk
import Derived.Deep.DeepCutAuto
import Derived.Deep.CutBlock
import Derived.Stop.LaidErr
import Derived.Test.YtanhblokhcaoiaaDoorTrcY
import Derived.Test.YtanhblokhcaoiaaDoorTie
import Derived.Test.YtanhblokhcaoiaaDoorCards
import Derived.Test.YtanhblokhcaoiaaDoorLaid
import Derived.LaidMore
import Derived.SevenTiedAt
import Derived.Stop.Joined
import Derived.Test.YtanhblokhcaoiaaDoorRows
import Derived.WalkKit
import Derived.ProofKit
import Derived.OpenShut
import Derived.ShutString
import Derived.ChangeOld
import Derived.Below
namespace Go.Proofs.YtanhblokhcaoiaaDoor.lawTraceWindowsZ
open Go.ChangeShapes Go.WideShapes Go.ChangeAt Go.RowKit Base
open Go.ChangeMaps (open_string shut_string)
set_option linter.unusedVariables false
set_option linter.unusedSimpArgs false
theorem own : ownKnob Tryd.prog.godebug = none := by kernel_rfl
theorem laidOut : laidOutB Tryd.prog = true := by kernel_rfl
open Tr
open Hl (Ev TE EvsAt evL evC)

def Ld (w : World) : Prop := Txt.Lf w
theorem of_laid {W : World} (h : laidMetH Tryd.prog Rows.traceWindowsRow.laid W) : Ld W := by
  rw [MakeChecks.laidMetH_plain _ _ _ (by kernel_rfl)] at h
  have h1 := laidMet.tail (laidMet.tail h)
  exact Lib.tabIs_of_head (g := 1) (t := 125) (e := 75) (n := 20) (by kernel_rfl) (by kernel_rfl) Tryd.underlying125 Tryd.underlying75 (by kernel_rfl) (by kernel_rfl) h1
abbrev TL : TypeId := 39
theorem obj_keep {w w' : World} {g : Nat} {T : TypeId} {cs : Array Value} {r : Option Nat} (h : Obj1 w g T cs) (hg : w.grownBy w' r) (hr : r ≠ some g) : Obj1 w' g T cs := (hg.block g h.lt (Ne.symm hr)).trans h
theorem one_new2 (x : Ev) : ∀ u ∈ ([.int .i64 x.t, .int .i64 x.m, .int .i64 x.k, .int .i64 x.s, .int .i64 x.v, .int .i64 x.si, .int .i64 x.c, .slice x.A x.n x.d] : List Value), u.oneCell' = true := Hl.one_evL x
set_option maxRecDepth 100000 in
set_option maxHeartbeats 40000000 in
theorem go (A : Option Addr) (n c : Nat) (ls : List EW) (B : Option Addr) (m d : Nat) (mods : List Int) (w : World) (hU : Ld w) (hE : EvsAt w A n (ls.map (·.1))) (hI : ∀ a ∈ ls, EvIn w a) (hM : Lst w B m (mods.map iV)) (hnm : n ≤ 9223372036854775807) (hmm : m ≤ 9223372036854775807) :
    Calls Tryd.prog 7 #[.slice A n c, .slice B m d] w fun e w' => e = .returned (.bool true) ∧ Below w.heap.size w w' := by
  have HLN : Hid (ls.length = n) := Lib.hid (by have := hE.len; simpa using this)
  have HE := Lib.hid hE
  have HI := Lib.hid hI
  have HMS := Lib.hid hM
  have HML : Hid (mods.length = m) := Lib.hid (by have := hM.1; simpa using this)
  have HU := Lib.hid hU
  clear hU hE hI hM
  by_cases h60 : 60 < n
  · have h60i : (60 : Int) < (n : Int) := by omega
    go_enter Tryd.func7, Tryd.ntmps7
    go_wp2
    go_ret
    exact ⟨rfl, Below.refl _ _⟩
  have h60i : ¬ (60 : Int) < (n : Int) := by omega
  by_cases h40 : 40 < m
  · have h40i : (40 : Int) < (m : Int) := by omega
    go_enter Tryd.func7, Tryd.ntmps7
    go_wp2
    go_ret
    exact ⟨rfl, Below.refl _ _⟩
  have h40i : ¬ (40 : Int) < (m : Int) := by omega
  go_enter Tryd.func7, Tryd.ntmps7
  go_wp2_with fail
  --F1
  go_loopw [11, 5, 6, 7, 8, 9, 10] (fun i r5 r6 r7 r8 r9 r10 wx => ∃ k : Nat, k ≤ n ∧ ∃ (N : Nat) (fs : List Ev) (ps : List Pw) (sv tv mv : List Value) (bs : List Ev) (A5 : Option Addr) (c5 : Nat) (A6 : Option Addr) (c6 : Nat) (A7 : Option Addr) (c7 : Nat) (A8 : Option Addr) (c8 : Nat) (A9 : Option Addr) (c9 : Nat) (q : Bool), i = .int .i64 k ∧ r5 = .slice A5 N c5 ∧ r6 = .slice A6 N c6 ∧ r7 = .slice A7 N c7 ∧ r8 = .slice A8 N c8 ∧ r9 = .slice A9 N c9 ∧ r10 = .bool q ∧
    Hid (LW w wx w.heap.size N (.slice A5 N c5) (.slice A6 N c6) (.slice A7 N c7) (.slice A8 N c8) (.slice A9 N c9) fs sv tv mv bs ps) ∧ Hid (runP (ls.take k) = (fs, ps)) ∧ Hid ((q && alks (fs, ps) (ls.drop k)) = alks ([], []) ls) ∧ Hid (∀ a ∈ ls.take k, (0 ≤ a.1.si ∧ a.1.si ≤ 1099511627776) ∧ a.1.n ≤ 40) ∧ Below w.heap.size w wx) (fun i _ _ _ _ _ _ _ => n - (intOf i).toNat)
  case atStart => exact ⟨0, by omega, 0, [], [], [], [], [], [], none, 0, none, 0, none, 0, none, 0, none, 0, true, rfl, rfl, rfl, rfl, rfl, rfl, rfl, Lib.hid (LW.nil _ _ _), Lib.hid rfl, Lib.hid rfl, Lib.hid (fun a ha => by simp at ha), Below.refl _ _⟩
  case round =>
    obtain ⟨k, hk, N, fs, ps, sv, tv, mv, bs, A5, c5, A6, c6, A7, c7, A8, c8, A9, c9, q, rfl, rfl, rfl, rfl, rfl, rfl, rfl, HLW, HRP, HAK, HBD, hbk⟩ := hrel
    have HBK := Lib.hid hbk
    by_cases hlt : k < n
    · have hki : (k : Int) < (n : Int) := by omega
      have hk0 : (0 : Int) ≤ (k : Int) := by omega
      have hkl : k < ls.length := by rw [HLN.out]; exact hlt
      obtain ⟨a, ha⟩ : ∃ a, ls[k]? = some a := ⟨_, List.getElem?_eq_getElem hkl⟩
      have HAM := Lib.hid (List.mem_of_getElem? ha)
      have HTL := Lib.hid (get_tail ha)
      have HRN := Lib.hid (runP_next ha)
      have HTK : Hid (ls.take (k + 1) = ls.take k ++ [a]) := Lib.hid (by rw [List.take_add_one, ha]; rfl)
      obtain ⟨x, vs⟩ := a
      have HXI := Lib.hid (HI.out _ HAM.out)
      have hxn : x.n ≤ 9223372036854775807 := by have := HXI.out.2.2.2.2; unfold maxLen at this; simpa using this
      obtain ⟨b, off, rfl, hb, k0, k1, k2, k3, k4, k5, k6, k7⟩ := (HE.out.kept hbk).get hlt (x := x) (by rw [List.getElem?_map, ha]; rfl)
      obtain ⟨gx, HGX⟩ : ∃ gx, Hid (wr.heap.size = gx) := ⟨_, Lib.hid rfl⟩
      obtain ⟨W5, HW5⟩ : ∃ W5, Hid (W5 = wr.alloc (.cells #[.int .i64 x.t, .int .i64 x.m, .int .i64 x.k, .int .i64 x.s, .int .i64 x.v, .int .i64 x.si, .int .i64 x.c, .slice x.A x.n x.d] TE)) := ⟨_, Lib.hid rfl⟩
      have HNR : Hid (∀ (i : Nat) (it : Tr.Item), ([⟨TE, 8, .slice A5 N c5, N, evC fs⟩, ⟨T40, 1, .slice A6 N c6, N, sv⟩, ⟨T40, 1, .slice A7 N c7, N, tv⟩, ⟨T40, 1, .slice A8 N c8, N, mv⟩, ⟨TE, 8, .slice A9 N c9, N, evC bs⟩] : List Tr.Item)[i]? = some it → it.v.ownBlock ≠ some gx) := Lib.hid (fun i it hi e => by have := ((HLW.out.rows.own i it hi).lt gx e).2; have := HGX.out; omega)
      have hb5 : Below wr.heap.size wr W5 := by rw [HW5.out]; exact bel_new _ _
      have HO5 : Hid (Obj1 W5 gx TE #[.int .i64 x.t, .int .i64 x.m, .int .i64 x.k, .int .i64 x.s, .int .i64 x.v, .int .i64 x.si, .int .i64 x.c, .slice x.A x.n x.d]) := Lib.hid (by rw [HW5.out, ← HGX.out]; exact Obj1.new _ _ _)
      have HB5 := Lib.hid (HBK.out.trans (hb5.mono HBK.out.size))
      have HLW5 := Lib.hid (HLW.out.kept hb5)
      have e0 : IntKind.i64.wrap ((k : Int) + 1) = (k : Int) + 1 := IntWalk.i64_in _ (by omega)
      clear ha hkl hb hb5 hbk
      go_upto_region 11 with (fail)
      rw [← HW5.out, HGX.out]
      clear k0 k1 k2 k3 k4 k5 k6 k7 HW5 HGX
      have f0 : W5.cell? ⟨gx, 0, none⟩ = some (.int .i64 x.t) := HO5.out.cell 0
      have f1 : W5.cell? ⟨gx, 1, none⟩ = some (.int .i64 x.m) := HO5.out.cell 1
      have f2 : W5.cell? ⟨gx, 2, none⟩ = some (.int .i64 x.k) := HO5.out.cell 2
      have f3 : W5.cell? ⟨gx, 3, none⟩ = some (.int .i64 x.s) := HO5.out.cell 3
      have f4 : W5.cell? ⟨gx, 4, none⟩ = some (.int .i64 x.v) := HO5.out.cell 4
      have f5 : W5.cell? ⟨gx, 5, none⟩ = some (.int .i64 x.si) := HO5.out.cell 5
      have f6 : W5.cell? ⟨gx, 6, none⟩ = some (.int .i64 x.c) := HO5.out.cell 6
      have f7 : W5.cell? ⟨gx, 7, none⟩ = some (.slice x.A x.n x.d) := HO5.out.cell 7
      by_cases hs0 : x.si < 0
      · go_wp2
        go_ret
        exact ⟨rfl, HB5.out⟩
      by_cases hs1 : 1099511627776 < x.si
      · go_wp2
        go_ret
        exact ⟨rfl, HB5.out⟩
      by_cases hx40 : 40 < x.n
      · have hx40i : (40 : Int) < (x.n : Int) := by omega
        go_wp2
        go_ret
        exact ⟨rfl, HB5.out⟩
      have hx40i : ¬ (40 : Int) < (x.n : Int) := by omega
      have HBD2 : Hid (∀ a ∈ ls.take (k + 1), (0 ≤ a.1.si ∧ a.1.si ≤ 1099511627776) ∧ a.1.n ≤ 40) := Lib.hid (fun a ha => by
        rw [HTK.out] at ha
        rcases List.mem_append.1 ha with ha | ha
        · exact HBD.out a ha
        · simp at ha
          subst ha
          exact ⟨⟨by show 0 ≤ x.si; omega, by show x.si ≤ _; omega⟩, by show x.n ≤ 40; omega⟩)
      by_cases hm : isM x.k = true
      · have hm3 := (isM_iff x.k).1 hm
        have hk1 : ¬ x.k < 1 := by omega
        have hk3 : ¬ (3 : Int) < x.k := by omega
        have HM3 := Lib.hid hm
        have HMK : Hid (x.k = 1 ∨ x.k = 2 ∨ x.k = 3) := Lib.hid (by omega)
        have HSI : Hid (0 ≤ x.si ∧ x.si ≤ 1099511627776) := Lib.hid (by omega)
        have HINV : Hid (Inv k (fs, ps)) := Lib.hid (by
          have h := inv_run (ls := ls.take k) (fun a ha hm => by
            obtain ⟨⟨_, _, s1, s2, _⟩, _⟩ := HI.out a (List.mem_of_mem_take ha)
            exact ⟨s1, s2, (HBD.out a ha).1⟩) (ls.take k).length (Nat.le_refl _)
          rw [List.take_length, HRP.out, List.length_take, Nat.min_eq_left (by have := HLN.out; omega)] at h
          exact h)
        have HN60 : Hid (N ≤ 60) := Lib.hid (by have h1 := HINV.out.2.2.2.1; have h2 := HLW.out.len.1; simp only at h1; omega)
        have HFB : Hid (∀ f ∈ fs, 0 ≤ f.si ∧ f.si ≤ 1099511627776) := Lib.hid (by
          have := (inv_run (ls := ls.take k) (fun a ha hm => by
            obtain ⟨⟨_, _, s1, s2, _⟩, _⟩ := HI.out a (List.mem_of_mem_take ha)
            exact ⟨s1, s2, (HBD.out a ha).1⟩) (ls.take k).length (Nat.le_refl _)).2.2.1
          rw [List.take_length, HRP.out] at this
          exact fun f hf => (this f hf).2.2)
        clear hm hm3 hx40
        go_wp2_with fail
        clear hs0 hs1 hx40i hk1 hk3
        --F2
        go_loopw [14, 13] (fun i s wx => ∃ j : Nat, j ≤ N ∧ i = .int .i64 j ∧ s = .int .i64 (num (fs.take j) x) ∧ Below W5.heap.size W5 wx) (fun i _ _ => N - (intOf i).toNat)
        case atStart => exact ⟨0, by omega, rfl, rfl, Below.refl _ _⟩
        case round =>
          clear f0 f1 f2 f3 f4 f5 f6 f7
          obtain ⟨j, hj, rfl, rfl, hbj⟩ := hrel
          have HBJ := Lib.hid hbj
          have HLWJ := Lib.hid (HLW5.out.kept hbj)
          have HOJ := Lib.hid (HO5.out.kept hbj)
          by_cases hlt : j < N
          · have hji : (j : Int) < (N : Int) := by omega
            have hj0 : (0 : Int) ≤ (j : Int) := by omega
            obtain ⟨f, hf⟩ : ∃ f, fs[j]? = some f := ⟨_, List.getElem?_eq_getElem (by rw [HLWJ.out.len.1]; exact hlt)⟩
            have ho := HLWJ.out.rows.own 0 _ rfl
            obtain ⟨b5, rfl⟩ := row_someN (w := wr) (base := w.heap.size) (T := TE) (s := 8) (N := N) (c := c5) (n := N) (xs := evC fs) ho (by omega)
            have HCL : Hid (∀ z : Kin wr.drew, ∀ i, i < 8 → z.world.cell? ⟨b5, j * 8 + i, none⟩ = (evL f)[i]?) := Lib.hid (fun z i hi => fs_cell (own_kept ho ((bel_drew wr).trans z.below)) hf hi)
            have HNX := Lib.hid (num_next (e := x) hf)
            have hfb := HFB.out f (List.mem_of_getElem? hf)
            have HNE := Lib.hid (fun W => near_any x f W HSI.out hfb)
            obtain ⟨q2, HQ2⟩ : ∃ q2, Hid (nearE x f = q2) := ⟨_, Lib.hid rfl⟩
            rw [HQ2.out] at HNE HNX
            obtain ⟨M, HMM⟩ : ∃ M, Hid (num (fs.take j) x = M) := ⟨_, Lib.hid rfl⟩
            rw [HMM.out] at HNX
            rw [HMM.out]
            have e1 : IntKind.i64.wrap ((j : Int) + 1) = (j : Int) + 1 := IntWalk.i64_in _ (by have := HN60.out; omega)
            have K0 : ∀ z : Kin wr.drew, z.world.cell? ⟨b5, j * 8, none⟩ = some (.int .i64 f.t) := fun z => HCL.out z 0 (by omega)
            have K1 : ∀ z : Kin wr.drew, z.world.cell? ⟨b5, j * 8 + 1, none⟩ = some (.int .i64 f.m) := fun z => HCL.out z 1 (by omega)
            have K2 : ∀ z : Kin wr.drew, z.world.cell? ⟨b5, j * 8 + 2, none⟩ = some (.int .i64 f.k) := fun z => HCL.out z 2 (by omega)
            have K3 : ∀ z : Kin wr.drew, z.world.cell? ⟨b5, j * 8 + 3, none⟩ = some (.int .i64 f.s) := fun z => HCL.out z 3 (by omega)
            have K4 : ∀ z : Kin wr.drew, z.world.cell? ⟨b5, j * 8 + 4, none⟩ = some (.int .i64 f.v) := fun z => HCL.out z 4 (by omega)
            have K5 : ∀ z : Kin wr.drew, z.world.cell? ⟨b5, j * 8 + 5, none⟩ = some (.int .i64 f.si) := fun z => HCL.out z 5 (by omega)
            have K6 : ∀ z : Kin wr.drew, z.world.cell? ⟨b5, j * 8 + 6, none⟩ = some (.int .i64 f.c) := fun z => HCL.out z 6 (by omega)
            have K7 : ∀ z : Kin wr.drew, z.world.cell? ⟨b5, j * 8 + 7, none⟩ = some (.slice f.A f.n f.d) := fun z => HCL.out z 7 (by omega)
            have G0 : ∀ z : Kin wr.drew, z.world.cell? ⟨gx, 0, none⟩ = some (.int .i64 x.t) := fun z => Kin.at (w := wr.drew) (HOJ.out.cell 0) z
            have G1 : ∀ z : Kin wr.drew, z.world.cell? ⟨gx, 1, none⟩ = some (.int .i64 x.m) := fun z => Kin.at (w := wr.drew) (HOJ.out.cell 1) z
            have G2 : ∀ z : Kin wr.drew, z.world.cell? ⟨gx, 2, none⟩ = some (.int .i64 x.k) := fun z => Kin.at (w := wr.drew) (HOJ.out.cell 2) z
            have G3 : ∀ z : Kin wr.drew, z.world.cell? ⟨gx, 3, none⟩ = some (.int .i64 x.s) := fun z => Kin.at (w := wr.drew) (HOJ.out.cell 3) z
            have G4 : ∀ z : Kin wr.drew, z.world.cell? ⟨gx, 4, none⟩ = some (.int .i64 x.v) := fun z => Kin.at (w := wr.drew) (HOJ.out.cell 4) z
            have G5 : ∀ z : Kin wr.drew, z.world.cell? ⟨gx, 5, none⟩ = some (.int .i64 x.si) := fun z => Kin.at (w := wr.drew) (HOJ.out.cell 5) z
            have G6 : ∀ z : Kin wr.drew, z.world.cell? ⟨gx, 6, none⟩ = some (.int .i64 x.c) := fun z => Kin.at (w := wr.drew) (HOJ.out.cell 6) z
            have G7 : ∀ z : Kin wr.drew, z.world.cell? ⟨gx, 7, none⟩ = some (.slice x.A x.n x.d) := fun z => Kin.at (w := wr.drew) (HOJ.out.cell 7) z
            have HKD : Hid (∀ z : Kin wr.drew, Below wr.heap.size wr z.world) := Lib.hid (fun z => (bel_drew wr).trans z.below)
            clear hf ho hfb hbj
            go_upto_region 18 with (fail)
            refine wp_region_specL 6 [.d (.agg #[.int .i64 x.t, .int .i64 x.m, .int .i64 x.k, .int .i64 x.s, .int .i64 x.v, .int .i64 x.si, .int .i64 x.c, .slice x.A x.n x.d]), .d (.slice (some ⟨b5, 0, none⟩) N c5), .d (.int .i64 (j : Int)), .d (.pointer (some ⟨b5, j * 8, none⟩)), .d (.agg #[.int .i64 f.t, .int .i64 f.m, .int .i64 f.k, .int .i64 f.s, .int .i64 f.v, .int .i64 f.si, .int .i64 f.c, .slice f.A f.n f.d]), .d (.bool q2)] (by kernel_rfl) (by kernel_rfl) ?_
            refine spec_d rfl (fun x _ => gives_run (by go_simp)) ?_
            try simp only [Act.put, List.getElem_toArray, List.getElem_cons_succ, List.getElem_cons_zero, List.setIfInBounds_toArray, List.set_cons_zero, List.set_cons_succ]
            refine spec_d rfl (fun x _ => gives_run (by go_simp)) ?_
            try simp only [Act.put, List.getElem_toArray, List.getElem_cons_succ, List.getElem_cons_zero, List.setIfInBounds_toArray, List.set_cons_zero, List.set_cons_succ]
            refine spec_d rfl (fun x _ => gives_run (by go_simp)) ?_
            try simp only [Act.put, List.getElem_toArray, List.getElem_cons_succ, List.getElem_cons_zero, List.setIfInBounds_toArray, List.set_cons_zero, List.set_cons_succ]
            refine spec_d rfl (fun x _ => gives_run (by go_simp)) ?_
            try simp only [Act.put, List.getElem_toArray, List.getElem_cons_succ, List.getElem_cons_zero, List.setIfInBounds_toArray, List.set_cons_zero, List.set_cons_succ]
            refine spec_d rfl (fun x _ => gives_run (by go_simp)) ?_
            try simp only [Act.put, List.getElem_toArray, List.getElem_cons_succ, List.getElem_cons_zero, List.setIfInBounds_toArray, List.set_cons_zero, List.set_cons_succ]
            refine spec_d rfl (fun z _ => gives_det (by go_simp) (HNE.out z.world)) ?_
            try simp only [Act.put, List.getElem_toArray, List.getElem_cons_succ, List.getElem_cons_zero, List.setIfInBounds_toArray, List.set_cons_zero, List.set_cons_succ]
            refine spec_end (fun z hz => ?_)
            clear hz
            refine wpAny_done (by kernel_rfl) ?_ _
            have HBZ := Lib.hid (HKD.out z)
            clear HKD K0 K1 K2 K3 K4 K5 K6 K7 G0 G1 G2 G3 G4 G5 G6 G7
            generalize z.world = wz at HBZ ⊢
            clear z
            have HBW : Hid (Below W5.heap.size W5 wz) := Lib.hid (HBJ.out.trans (HBZ.out.mono HBJ.out.size))
            cases q2 with
            | true =>
              have HN2 : Hid (num (fs.take (j + 1)) x = (j : Int)) := Lib.hid (by rw [HNX.out]; rfl)
              go_wp2
              go_roundw
              case rel => exact ⟨j + 1, by omega, by go_num, by rw [HN2.out], HBW.out⟩
              case measure => simp [intOf]; omega
            | false =>
              have HN2 : Hid (num (fs.take (j + 1)) x = M) := Lib.hid (by rw [HNX.out]; rfl)
              go_wp2
              go_roundw
              case rel => exact ⟨j + 1, by omega, by go_num, by rw [HN2.out], HBW.out⟩
              case measure => simp [intOf]; omega
          · have hje : j = N := by omega
            subst hje
            have HNM : Hid (fs.take j = fs) := Lib.hid (List.take_of_length_le (by rw [HLWJ.out.len.1]; exact Nat.le_refl _))
            rw [HNM.out]
            have HS0 : Hid (St wr w.heap.size [⟨TE, 8, .slice A5 j c5, j, evC fs⟩, ⟨T40, 1, .slice A6 j c6, j, sv⟩, ⟨T40, 1, .slice A7 j c7, j, tv⟩, ⟨T40, 1, .slice A8 j c8, j, mv⟩, ⟨TE, 8, .slice A9 j c9, j, evC bs⟩] sv tv mv (ps.map (·.ss)) (ps.map (·.ts)) (ps.map (·.ms))) := Lib.hid ⟨HLWJ.out.rows, HLWJ.out.ss, HLWJ.out.ts, HLWJ.out.ms⟩
            have HQ0 : Hid (w.heap.size ≤ wr.heap.size) := Lib.hid (HB5.out.trans (HBJ.out.mono HB5.out.size)).size
            have f0 : wr.cell? ⟨gx, 0, none⟩ = some (.int .i64 x.t) := HOJ.out.cell 0
            have f1 : wr.cell? ⟨gx, 1, none⟩ = some (.int .i64 x.m) := HOJ.out.cell 1
            have f2 : wr.cell? ⟨gx, 2, none⟩ = some (.int .i64 x.k) := HOJ.out.cell 2
            have f3 : wr.cell? ⟨gx, 3, none⟩ = some (.int .i64 x.s) := HOJ.out.cell 3
            have f4 : wr.cell? ⟨gx, 4, none⟩ = some (.int .i64 x.v) := HOJ.out.cell 4
            have f5 : wr.cell? ⟨gx, 5, none⟩ = some (.int .i64 x.si) := HOJ.out.cell 5
            have f6 : wr.cell? ⟨gx, 6, none⟩ = some (.int .i64 x.c) := HOJ.out.cell 6
            have f7 : wr.cell? ⟨gx, 7, none⟩ = some (.slice x.A x.n x.d) := HOJ.out.cell 7
            obtain ⟨ie, hie1, hie2, hie3, hie4⟩ := info_three info_ev
            obtain ⟨ii, hii1, hii2, hii3, hii4⟩ := info_three info_40
            have HMA : Hid (j + 1 ≤ maxLen) := Lib.hid (by have := HN60.out; unfold maxLen; omega)
            have HMB : Hid ((j + 1) * 80 ≤ 140737488355328) := Lib.hid (by have := HN60.out; omega)
            have HMC : Hid ((j + 1) * 24 ≤ 140737488355328) := Lib.hid (by have := HN60.out; omega)
            clear hbj
            rcases @num_lt fs x with ⟨m1, m2⟩ | ⟨jj, m1, m2, m3⟩
            · rw [m1]
              clear m2
              have HR0 : Hid ((wr.alloc (.cells #[.int .i64 x.t, .int .i64 x.m, .int .i64 x.k, .int .i64 x.s, .int .i64 x.v, .int .i64 x.si, .int .i64 x.c, .slice x.A x.n x.d] TE)).ownsRow w.heap.size TE 8 (.slice A5 j c5) j (evC fs)) := Lib.hid ((HS0.out.kept (bel_new wr (.cells #[.int .i64 x.t, .int .i64 x.m, .int .i64 x.k, .int .i64 x.s, .int .i64 x.v, .int .i64 x.si, .int .i64 x.c, .slice x.A x.n x.d] TE))).be.own 0 _ rfl)
              have HN0 : Hid (∀ (i : Nat) (u : Value), ([.int .i64 x.t, .int .i64 x.m, .int .i64 x.k, .int .i64 x.s, .int .i64 x.v, .int .i64 x.si, .int .i64 x.c, .slice x.A x.n x.d] : List Value)[i]? = some u → (wr.alloc (.cells #[.int .i64 x.t, .int .i64 x.m, .int .i64 x.k, .int .i64 x.s, .int .i64 x.v, .int .i64 x.si, .int .i64 x.c, .slice x.A x.n x.d] TE)).cell? ((⟨wr.heap.size, 0, none⟩ : Addr).add i) = some u) := Lib.hid (cell_new wr [.int .i64 x.t, .int .i64 x.m, .int .i64 x.k, .int .i64 x.s, .int .i64 x.v, .int .i64 x.si, .int .i64 x.c, .slice x.A x.n x.d] TE)
              have HZ0 : Hid (w.heap.size ≤ (wr.alloc (.cells #[.int .i64 x.t, .int .i64 x.m, .int .i64 x.k, .int .i64 x.s, .int .i64 x.v, .int .i64 x.si, .int .i64 x.c, .slice x.A x.n x.d] TE)).heap.size) := Lib.hid (Nat.le_trans HQ0.out (bel_new wr (.cells #[.int .i64 x.t, .int .i64 x.m, .int .i64 x.k, .int .i64 x.s, .int .i64 x.v, .int .i64 x.si, .int .i64 x.c, .slice x.A x.n x.d] TE)).size)
              go_upto_region 25 with (first | (at_builtin; refine pushS _ rfl (.tmp 77) (.tmp 79) 39 rfl w.heap.size TE ie _ 8 80 Tryd.underlying39 hie1 hie2 hie3 hie4 rfl (by decide) _ _ _ rfl HR0.out ⟨wr.heap.size, 0, none⟩ 1 1 [.int .i64 x.t, .int .i64 x.m, .int .i64 x.k, .int .i64 x.s, .int .i64 x.v, .int .i64 x.si, .int .i64 x.c, .slice x.A x.n x.d] rfl rfl HN0.out (one_new2 x) HMA.out HMB.out HZ0.out ?_; intro V5 X0 O0 B0 G0 K0; have HS1 : Hid (St X0 w.heap.size [⟨TE, 8, V5, j + 1, evC (fs ++ [x])⟩, ⟨T40, 1, .slice A6 j c6, j, sv⟩, ⟨T40, 1, .slice A7 j c7, j, tv⟩, ⟨T40, 1, .slice A8 j c8, j, mv⟩, ⟨TE, 8, .slice A9 j c9, j, evC bs⟩] sv tv mv (ps.map (·.ss)) (ps.map (·.ts)) (ps.map (·.ms))) := Lib.hid (HS0.out.push (bel_new wr (.cells #[.int .i64 x.t, .int .i64 x.m, .int .i64 x.k, .int .i64 x.s, .int .i64 x.v, .int .i64 x.si, .int .i64 x.c, .slice x.A x.n x.d] TE)) (k := 0) rfl (show TE ≠ Hl.TI from by decide) G0.out (it' := ⟨TE, 8, V5, j + 1, _⟩) (by show World.ownsRow _ _ _ _ _ _ (evC (fs ++ [x])); rw [snoc_e]; exact O0.out) K0.out); have HQ1 : Hid (w.heap.size ≤ X0.heap.size) := Lib.hid (Nat.le_trans HZ0.out B0.out.size); have HR1 : Hid ((X0.alloc (.cells #[.slice none 0 0] T40)).ownsRow w.heap.size T40 1 (.slice A6 j c6) j (sv)) := Lib.hid ((HS1.out.kept (bel_new X0 (.cells #[.slice none 0 0] T40))).be.own 1 _ rfl); have HN1 : Hid (∀ (i : Nat) (u : Value), ([.slice none 0 0] : List Value)[i]? = some u → (X0.alloc (.cells #[.slice none 0 0] T40)).cell? ((⟨X0.heap.size, 0, none⟩ : Addr).add i) = some u) := Lib.hid (cell_new X0 [.slice none 0 0] T40); have HZ1 : Hid (w.heap.size ≤ (X0.alloc (.cells #[.slice none 0 0] T40)).heap.size) := Lib.hid (Nat.le_trans HQ1.out (bel_new X0 (.cells #[.slice none 0 0] T40)).size)) | (at_builtin; refine pushS _ rfl (.tmp 81) (.tmp 82) 56 rfl w.heap.size T40 ii _ 1 24 Tryd.underlying56 hii1 hii2 hii3 hii4 rfl (by decide) _ _ _ rfl HR1.out ⟨X0.heap.size, 0, none⟩ 1 1 [.slice none 0 0] rfl rfl HN1.out one_nil HMA.out HMC.out HZ1.out ?_; intro V6 X1 O1 B1 G1 K1; have HS2 : Hid (St X1 w.heap.size [⟨TE, 8, V5, j + 1, evC (fs ++ [x])⟩, ⟨T40, 1, V6, j + 1, sv ++ [nilS]⟩, ⟨T40, 1, .slice A7 j c7, j, tv⟩, ⟨T40, 1, .slice A8 j c8, j, mv⟩, ⟨TE, 8, .slice A9 j c9, j, evC bs⟩] sv tv mv (ps.map (·.ss)) (ps.map (·.ts)) (ps.map (·.ms))) := Lib.hid (HS1.out.push (bel_new X0 (.cells #[.slice none 0 0] T40)) (k := 1) rfl (show T40 ≠ Hl.TI from by decide) G1.out (it' := ⟨T40, 1, V6, j + 1, _⟩) O1.out K1.out); have HQ2 : Hid (w.heap.size ≤ X1.heap.size) := Lib.hid (Nat.le_trans HZ1.out B1.out.size); have HR2 : Hid ((X1.alloc (.cells #[.slice none 0 0] T40)).ownsRow w.heap.size T40 1 (.slice A7 j c7) j (tv)) := Lib.hid ((HS2.out.kept (bel_new X1 (.cells #[.slice none 0 0] T40))).be.own 2 _ rfl); have HN2 : Hid (∀ (i : Nat) (u : Value), ([.slice none 0 0] : List Value)[i]? = some u → (X1.alloc (.cells #[.slice none 0 0] T40)).cell? ((⟨X1.heap.size, 0, none⟩ : Addr).add i) = some u) := Lib.hid (cell_new X1 [.slice none 0 0] T40); have HZ2 : Hid (w.heap.size ≤ (X1.alloc (.cells #[.slice none 0 0] T40)).heap.size) := Lib.hid (Nat.le_trans HQ2.out (bel_new X1 (.cells #[.slice none 0 0] T40)).size)) | (at_builtin; refine pushS _ rfl (.tmp 84) (.tmp 85) 56 rfl w.heap.size T40 ii _ 1 24 Tryd.underlying56 hii1 hii2 hii3 hii4 rfl (by decide) _ _ _ rfl HR2.out ⟨X1.heap.size, 0, none⟩ 1 1 [.slice none 0 0] rfl rfl HN2.out one_nil HMA.out HMC.out HZ2.out ?_; intro V7 X2 O2 B2 G2 K2; have HS3 : Hid (St X2 w.heap.size [⟨TE, 8, V5, j + 1, evC (fs ++ [x])⟩, ⟨T40, 1, V6, j + 1, sv ++ [nilS]⟩, ⟨T40, 1, V7, j + 1, tv ++ [nilS]⟩, ⟨T40, 1, .slice A8 j c8, j, mv⟩, ⟨TE, 8, .slice A9 j c9, j, evC bs⟩] sv tv mv (ps.map (·.ss)) (ps.map (·.ts)) (ps.map (·.ms))) := Lib.hid (HS2.out.push (bel_new X1 (.cells #[.slice none 0 0] T40)) (k := 2) rfl (show T40 ≠ Hl.TI from by decide) G2.out (it' := ⟨T40, 1, V7, j + 1, _⟩) O2.out K2.out); have HQ3 : Hid (w.heap.size ≤ X2.heap.size) := Lib.hid (Nat.le_trans HZ2.out B2.out.size); have HR3 : Hid ((X2.alloc (.cells #[.slice none 0 0] T40)).ownsRow w.heap.size T40 1 (.slice A8 j c8) j (mv)) := Lib.hid ((HS3.out.kept (bel_new X2 (.cells #[.slice none 0 0] T40))).be.own 3 _ rfl); have HN3 : Hid (∀ (i : Nat) (u : Value), ([.slice none 0 0] : List Value)[i]? = some u → (X2.alloc (.cells #[.slice none 0 0] T40)).cell? ((⟨X2.heap.size, 0, none⟩ : Addr).add i) = some u) := Lib.hid (cell_new X2 [.slice none 0 0] T40); have HZ3 : Hid (w.heap.size ≤ (X2.alloc (.cells #[.slice none 0 0] T40)).heap.size) := Lib.hid (Nat.le_trans HQ3.out (bel_new X2 (.cells #[.slice none 0 0] T40)).size)) | (at_builtin; refine pushS _ rfl (.tmp 87) (.tmp 88) 56 rfl w.heap.size T40 ii _ 1 24 Tryd.underlying56 hii1 hii2 hii3 hii4 rfl (by decide) _ _ _ rfl HR3.out ⟨X2.heap.size, 0, none⟩ 1 1 [.slice none 0 0] rfl rfl HN3.out one_nil HMA.out HMC.out HZ3.out ?_; intro V8 X3 O3 B3 G3 K3; have HS4 : Hid (St X3 w.heap.size [⟨TE, 8, V5, j + 1, evC (fs ++ [x])⟩, ⟨T40, 1, V6, j + 1, sv ++ [nilS]⟩, ⟨T40, 1, V7, j + 1, tv ++ [nilS]⟩, ⟨T40, 1, V8, j + 1, mv ++ [nilS]⟩, ⟨TE, 8, .slice A9 j c9, j, evC bs⟩] sv tv mv (ps.map (·.ss)) (ps.map (·.ts)) (ps.map (·.ms))) := Lib.hid (HS3.out.push (bel_new X2 (.cells #[.slice none 0 0] T40)) (k := 3) rfl (show T40 ≠ Hl.TI from by decide) G3.out (it' := ⟨T40, 1, V8, j + 1, _⟩) O3.out K3.out); have HQ4 : Hid (w.heap.size ≤ X3.heap.size) := Lib.hid (Nat.le_trans HZ3.out B3.out.size); have HR4 : Hid ((X3.alloc (.cells #[.int .i64 0, .int .i64 0, .int .i64 0, .int .i64 0, .int .i64 0, .int .i64 0, .int .i64 (-1), .slice none 0 0] TE)).ownsRow w.heap.size TE 8 (.slice A9 j c9) j (evC bs)) := Lib.hid ((HS4.out.kept (bel_new X3 (.cells #[.int .i64 0, .int .i64 0, .int .i64 0, .int .i64 0, .int .i64 0, .int .i64 0, .int .i64 (-1), .slice none 0 0] TE))).be.own 4 _ rfl); have HN4 : Hid (∀ (i : Nat) (u : Value), ([.int .i64 0, .int .i64 0, .int .i64 0, .int .i64 0, .int .i64 0, .int .i64 0, .int .i64 (-1), .slice none 0 0] : List Value)[i]? = some u → (X3.alloc (.cells #[.int .i64 0, .int .i64 0, .int .i64 0, .int .i64 0, .int .i64 0, .int .i64 0, .int .i64 (-1), .slice none 0 0] TE)).cell? ((⟨X3.heap.size, 0, none⟩ : Addr).add i) = some u) := Lib.hid (cell_new X3 [.int .i64 0, .int .i64 0, .int .i64 0, .int .i64 0, .int .i64 0, .int .i64 0, .int .i64 (-1), .slice none 0 0] TE); have HZ4 : Hid (w.heap.size ≤ (X3.alloc (.cells #[.int .i64 0, .int .i64 0, .int .i64 0, .int .i64 0, .int .i64 0, .int .i64 0, .int .i64 (-1), .slice none 0 0] TE)).heap.size) := Lib.hid (Nat.le_trans HQ4.out (bel_new X3 (.cells #[.int .i64 0, .int .i64 0, .int .i64 0, .int .i64 0, .int .i64 0, .int .i64 0, .int .i64 (-1), .slice none 0 0] TE)).size)) | (at_builtin; refine pushS _ rfl (.tmp 90) (.tmp 92) 39 rfl w.heap.size TE ie _ 8 80 Tryd.underlying39 hie1 hie2 hie3 hie4 rfl (by decide) _ _ _ rfl HR4.out ⟨X3.heap.size, 0, none⟩ 1 1 [.int .i64 0, .int .i64 0, .int .i64 0, .int .i64 0, .int .i64 0, .int .i64 0, .int .i64 (-1), .slice none 0 0] rfl rfl HN4.out one_bZ HMA.out HMB.out HZ4.out ?_; intro V9 X4 O4 B4 G4 K4; have HS5 : Hid (St X4 w.heap.size [⟨TE, 8, V5, j + 1, evC (fs ++ [x])⟩, ⟨T40, 1, V6, j + 1, sv ++ [nilS]⟩, ⟨T40, 1, V7, j + 1, tv ++ [nilS]⟩, ⟨T40, 1, V8, j + 1, mv ++ [nilS]⟩, ⟨TE, 8, V9, j + 1, evC (bs ++ [bZ])⟩] sv tv mv (ps.map (·.ss)) (ps.map (·.ts)) (ps.map (·.ms))) := Lib.hid (HS4.out.push (bel_new X3 (.cells #[.int .i64 0, .int .i64 0, .int .i64 0, .int .i64 0, .int .i64 0, .int .i64 0, .int .i64 (-1), .slice none 0 0] TE)) (k := 4) rfl (show TE ≠ Hl.TI from by decide) G4.out (it' := ⟨TE, 8, V9, j + 1, _⟩) (by show World.ownsRow _ _ _ _ _ _ (evC (bs ++ [bZ])); rw [snoc_e]; exact O4.out) K4.out); have HQ5 : Hid (w.heap.size ≤ X4.heap.size) := Lib.hid (Nat.le_trans HZ4.out B4.out.size)))
              --F3
              have HOQ : Hid (Obj1 X4 gx TE #[.int .i64 x.t, .int .i64 x.m, .int .i64 x.k, .int .i64 x.s, .int .i64 x.v, .int .i64 x.si, .int .i64 x.c, .slice x.A x.n x.d]) := Lib.hid (by
                have h0 := obj_keep (HOJ.out.alloc (.cells #[.int .i64 x.t, .int .i64 x.m, .int .i64 x.k, .int .i64 x.s, .int .i64 x.v, .int .i64 x.si, .int .i64 x.c, .slice x.A x.n x.d] TE)) G0.out (HNR.out 0 _ rfl)
                have h1 := obj_keep (h0.alloc (.cells #[.slice none 0 0] T40)) G1.out (HNR.out 1 _ rfl)
                have h2 := obj_keep (h1.alloc (.cells #[.slice none 0 0] T40)) G2.out (HNR.out 2 _ rfl)
                have h3 := obj_keep (h2.alloc (.cells #[.slice none 0 0] T40)) G3.out (HNR.out 3 _ rfl)
                exact obj_keep (h3.alloc (.cells #[.int .i64 0, .int .i64 0, .int .i64 0, .int .i64 0, .int .i64 0, .int .i64 0, .int .i64 (-1), .slice none 0 0] TE)) G4.out (HNR.out 4 _ rfl))
              have HNG : Hid (V9.ownBlock ≠ some gx) := Lib.hid (by
                have h0 := obj_keep (HOJ.out.alloc (.cells #[.int .i64 x.t, .int .i64 x.m, .int .i64 x.k, .int .i64 x.s, .int .i64 x.v, .int .i64 x.si, .int .i64 x.c, .slice x.A x.n x.d] TE)) G0.out (HNR.out 0 _ rfl)
                have h1 := obj_keep (h0.alloc (.cells #[.slice none 0 0] T40)) G1.out (HNR.out 1 _ rfl)
                have h2 := obj_keep (h1.alloc (.cells #[.slice none 0 0] T40)) G2.out (HNR.out 2 _ rfl)
                have h3 := (obj_keep (h2.alloc (.cells #[.slice none 0 0] T40)) G3.out (HNR.out 3 _ rfl)).alloc (.cells #[.int .i64 0, .int .i64 0, .int .i64 0, .int .i64 0, .int .i64 0, .int .i64 0, .int .i64 (-1), .slice none 0 0] TE)
                rcases K4.out with e | e
                · rw [e]
                  exact HNR.out 4 _ rfl
                · rw [e]
                  intro e'
                  injection e' with e'
                  exact Nat.lt_irrefl _ (Nat.lt_of_lt_of_eq h3.lt e'))
              have HBQ : Hid (Below w.heap.size w X4) := Lib.hid (by
                have b0 : Below w.heap.size w wr := HB5.out.trans (HBJ.out.mono HB5.out.size)
                have b1 := (b0.alloc HQ0.out (.cells #[.int .i64 x.t, .int .i64 x.m, .int .i64 x.k, .int .i64 x.s, .int .i64 x.v, .int .i64 x.si, .int .i64 x.c, .slice x.A x.n x.d] TE)).trans B0.out
                have b2 := (b1.alloc HQ1.out (.cells #[.slice none 0 0] T40)).trans B1.out
                have b3 := (b2.alloc HQ2.out (.cells #[.slice none 0 0] T40)).trans B2.out
                have b4 := (b3.alloc HQ3.out (.cells #[.slice none 0 0] T40)).trans B3.out
                exact (b4.alloc HQ4.out (.cells #[.int .i64 0, .int .i64 0, .int .i64 0, .int .i64 0, .int .i64 0, .int .i64 0, .int .i64 (-1), .slice none 0 0] TE)).trans B4.out)
              have HAP : Hid (addP fs ps x = ps ++ [P0 x] ∧ nw fs x = fs ++ [x] ∧ (wn fs x).toNat = j) := Lib.hid (by
                have hb : bg fs x = true := by unfold bg; rw [m1]; rfl
                refine ⟨by unfold addP; rw [if_pos hb], by unfold nw; rw [if_pos m1], ?_⟩
                unfold wn
                rw [if_pos m1, Int.toNat_natCast]
                exact HLWJ.out.len.1)
              have HLQ := Lib.hid (HLWJ.out.more HS5.out)
              clear O0 B0 G0 K0 O1 B1 G1 K1 O2 B2 G2 K2 O3 B3 G3 K3 O4 B4 G4 K4 HS0 HS1 HS2 HS3 HS4 HR0 HR1 HR2 HR3 HR4 HN0 HN1 HN2 HN3 HN4 HZ0 HZ1 HZ2 HZ3 HZ4 HQ0 HQ1 HQ2 HQ3 HQ4 f0 f1 f2 f3 f4 f5 f6 f7
              obtain ⟨D5, d5, hD5⟩ : ∃ A c, V5 = .slice A (j + 1) c := row_sl (HS5.out.be.own 0 _ rfl)
              subst hD5
              obtain ⟨D6, d6, hD6⟩ : ∃ A c, V6 = .slice A (j + 1) c := row_sl (HS5.out.be.own 1 _ rfl)
              subst hD6
              obtain ⟨D7, d7, hD7⟩ : ∃ A c, V7 = .slice A (j + 1) c := row_sl (HS5.out.be.own 2 _ rfl)
              subst hD7
              obtain ⟨D8, d8, hD8⟩ : ∃ A c, V8 = .slice A (j + 1) c := row_sl (HS5.out.be.own 3 _ rfl)
              subst hD8
              obtain ⟨D9, d9, hD9⟩ : ∃ A c, V9 = .slice A (j + 1) c := row_sl (HS5.out.be.own 4 _ rfl)
              subst hD9
              clear HS5 m1
              obtain ⟨N', HNP⟩ : ∃ N', Hid (j + 1 = N') := ⟨_, Lib.hid rfl⟩
              rw [HNP.out] at HLQ
              rw [HNP.out]
              rw [← HAP.out.1] at HLQ
              obtain ⟨psA, HPSA⟩ : ∃ l, Hid (addP fs ps x = l) := ⟨_, Lib.hid rfl⟩
              obtain ⟨p, hp1, hp2, _⟩ := add_at HINV.out x
              rw [HPSA.out] at HLQ hp1
              rw [HAP.out.2.2] at hp1
              have HP1 := Lib.hid hp1
              have HPZ : Hid (p.ss.length ≤ 100000 ∧ p.ts.length ≤ 100000 ∧ p.ms.length ≤ 100000) := Lib.hid (by omega)
              have HPK : Hid (PwOk p) := Lib.hid (by
                have h := run_ok (ls.take k)
                rw [HRP.out] at h
                have h2 := addP_ok (fs := fs) (e := x) h
                rw [HPSA.out] at h2
                exact h2 p (List.mem_of_getElem? HP1.out))
              have hjN : j < N' := by have := HNP.out; omega
              have hjNi : (j : Int) < (N' : Int) := by omega
              have hj0 : (0 : Int) ≤ (j : Int) := by omega
              have HBX : Hid (w.heap.size ≤ X4.heap.size) := Lib.hid HBQ.out.size
              have g2 : X4.cell? ⟨gx, 2, none⟩ = some (.int .i64 x.k) := HOQ.out.cell 2
              have g1 : X4.cell? ⟨gx, 1, none⟩ = some (.int .i64 x.m) := HOQ.out.cell 1
              clear hp1 hp2
              rcases HMK.out with hk1 | hk2 | hk3
              · rw [hk1] at g2
                have HK1 := Lib.hid hk1
                clear hk1
                obtain ⟨b6, hb6⟩ := row_someN (HLQ.out.rows.own 1 _ rfl) (show 0 < N' by omega)
                subst hb6
                obtain ⟨v, hv⟩ : ∃ v, (sv ++ [nilS])[j]? = some v := ⟨_, List.getElem?_eq_getElem (by have h1 := HLQ.out.ss.1; have h2 := HLQ.out.len.2; simp only [List.length_map] at h1; omega)⟩
                have hvo := HLQ.out.ss.2 j v p.ss hv (by rw [List.getElem?_map, HP1.out]; rfl)
                obtain ⟨sA, sc, hvs⟩ := row_sl hvo
                subst hvs
                have HVO := Lib.hid hvo
                have HCW : Hid (∀ W, Below X4.heap.size X4 W → W.cell? ⟨b6, j, none⟩ = some (.slice sA p.ss.length sc) ∧ W.frozen? ⟨b6, j, none⟩ = false) := Lib.hid (fun W hW => row_cellN (own_kept (HLQ.out.rows.own 1 _ rfl) hW) (by exact hv))
                have HWI := Lib.hid (with_any w.heap.size sA sc p.ss x.m X4.drew (own_kept HVO.out (bel_drew X4)) HPK.out.1 HBX.out HPZ.out.1)
                have k3 : X4.cell? ⟨b6, j, none⟩ = some (.slice sA p.ss.length sc) := (HCW.out X4 (Below.refl _ _)).1
                clear hv hvo
                have HTP : Hid (takeP p x vs = { p with ss := ins p.ss x.m }) := Lib.hid (by unfold takeP; rw [if_pos HK1.out])
                have HRP2 : Hid (runP (ls.take (k + 1)) = (fs ++ [x], psA.set j (takeP p x vs))) := Lib.hid (by
                  rw [HRN.out, HRP.out, stp_msg HM3.out (p := p) (by rw [HPSA.out, HAP.out.2.2]; exact HP1.out), HPSA.out, HAP.out.2.2, HAP.out.2.1])
                have HAK2 : Hid ((q && alks (fs ++ [x], psA.set j (takeP p x vs)) (ls.drop (k + 1))) = alks ([], []) ls) := Lib.hid (by
                  rw [← HAK.out, HTL.out]
                  show _ = (q && (alk (fs, ps) (x, vs) && alks (stp (fs, ps) (x, vs)) (ls.drop (k + 1))))
                  rw [stp_msg HM3.out (p := p) (by rw [HPSA.out, HAP.out.2.2]; exact HP1.out), HPSA.out, HAP.out.2.2, HAP.out.2.1, show alk (fs, ps) (x, vs) = true from by unfold alk; rw [if_neg (fun h => by have h1 := h.2; have h2 := HK1.out; simp only at h1; omega)]]
                  rfl)
                go_upto_region 27 with (fail)
                refine wp_region_any (by kernel_rfl) ?_
                change wpAny _ _ _ _ _ _ _ (World.drew _)
                refine wpAny_take (i := 0) (v := .slice (some ⟨b6, 0, none⟩) N' d6) rfl (by kernel_rfl) (by kernel_rfl) (by kernel_rfl) (fun _ _ _ h => h) (Or.inl ⟨by rfl, fun w => by go_simp⟩) ?_
                try simp only [Act.put, List.getElem_toArray, List.getElem_cons_succ, List.getElem_cons_zero, List.setIfInBounds_toArray, List.set_cons_zero, List.set_cons_succ]
                refine wpAny_take (i := 1) (v := .int .i64 (j : Int)) rfl (by kernel_rfl) (by kernel_rfl) (by kernel_rfl) (fun _ _ _ h => h) (Or.inl ⟨by rfl, fun w => by go_simp⟩) ?_
                try simp only [Act.put, List.getElem_toArray, List.getElem_cons_succ, List.getElem_cons_zero, List.setIfInBounds_toArray, List.set_cons_zero, List.set_cons_succ]
                refine wpAny_take (i := 2) (v := .slice (some ⟨b6, 0, none⟩) N' d6) rfl (by kernel_rfl) (by kernel_rfl) (by kernel_rfl) (fun _ _ _ h => h) (Or.inl ⟨by rfl, fun w => by go_simp⟩) ?_
                try simp only [Act.put, List.getElem_toArray, List.getElem_cons_succ, List.getElem_cons_zero, List.setIfInBounds_toArray, List.set_cons_zero, List.set_cons_succ]
                refine wpAny_take (i := 3) (v := .int .i64 (j : Int)) rfl (by kernel_rfl) (by kernel_rfl) (by kernel_rfl) (fun _ _ _ h => h) (Or.inl ⟨by rfl, fun w => by go_simp⟩) ?_
                try simp only [Act.put, List.getElem_toArray, List.getElem_cons_succ, List.getElem_cons_zero, List.setIfInBounds_toArray, List.set_cons_zero, List.set_cons_succ]
                refine wpAny_take (i := 4) (v := .pointer (some ⟨b6, j, none⟩)) rfl (by kernel_rfl) (by kernel_rfl) (by kernel_rfl) (fun _ _ _ h => h) (Or.inl ⟨by rfl, fun w => by go_simp⟩) ?_
                try simp only [Act.put, List.getElem_toArray, List.getElem_cons_succ, List.getElem_cons_zero, List.setIfInBounds_toArray, List.set_cons_zero, List.set_cons_succ]
                refine wpAny_take (i := 6) (v := .pointer (some ⟨gx, 1, none⟩)) rfl (by kernel_rfl) (by kernel_rfl) (by kernel_rfl) (fun _ _ _ h => h) (Or.inl ⟨by rfl, fun w => by go_simp⟩) ?_
                try simp only [Act.put, List.getElem_toArray, List.getElem_cons_succ, List.getElem_cons_zero, List.setIfInBounds_toArray, List.set_cons_zero, List.set_cons_succ]
                refine wpAny_ready (rs := [5, 7]) (by kernel_rfl) (by simp) ?_
                refine AllReady.cons rfl (fun KK hK => ?_) (AllReady.cons rfl (fun KK hK => ?_) AllReady.nil)
                · go_simp
                  refine hK _ _ ?_
                  clear hK KK
                  try simp only [Act.put, List.getElem_toArray, List.getElem_cons_succ, List.getElem_cons_zero, List.setIfInBounds_toArray, List.set_cons_zero, List.set_cons_succ]
                  refine wpAny_ready (rs := [7]) (by kernel_rfl) (by simp) ?_
                  refine AllReady.cons rfl (fun KK hK => ?_) AllReady.nil
                  go_simp
                  refine hK _ _ ?_
                  clear hK KK
                  try simp only [Act.put, List.getElem_toArray, List.getElem_cons_succ, List.getElem_cons_zero, List.setIfInBounds_toArray, List.set_cons_zero, List.set_cons_succ]
                  refine wpAny_ready (rs := [8]) (by kernel_rfl) (by simp) ?_
                  refine AllReady.cons rfl (fun KK hK => ?_) AllReady.nil
                  go_simp
                  refine HWI.out.mono ?_
                  rintro e' w8 ⟨A', c', rfl, ho', hb'⟩
                  have HO8 := Lib.hid ho'
                  have HB8 : Hid (Below X4.heap.size X4 w8) := Lib.hid ((bel_drew X4).trans hb')
                  clear ho' hb'
                  refine hK _ _ ?_
                  clear hK KK
                  try simp only [Act.put, List.getElem_toArray, List.getElem_cons_succ, List.getElem_cons_zero, List.setIfInBounds_toArray, List.set_cons_zero, List.set_cons_succ]
                  have y1 : w8.cell? ⟨b6, j, none⟩ = some (.slice sA p.ss.length sc) := (HCW.out w8 HB8.out).1
                  have y2 : w8.frozen? ⟨b6, j, none⟩ = false := (HCW.out w8 HB8.out).2
                  refine wpAny_take (i := 9) (v := .pointer (some ⟨b6, j, none⟩)) rfl (by kernel_rfl) (by kernel_rfl) (by kernel_rfl) (fun _ _ _ h => h) (Or.inl ⟨by rfl, fun w => by go_simp⟩) ?_
                  try simp only [Act.put, List.getElem_toArray, List.getElem_cons_succ, List.getElem_cons_zero, List.setIfInBounds_toArray, List.set_cons_zero, List.set_cons_succ]
                  refine wpAny_ready (rs := [10]) (by kernel_rfl) (by simp) ?_
                  refine AllReady.cons rfl (fun KK hK => ?_) AllReady.nil
                  go_simp
                  refine hK _ _ ?_
                  clear hK KK
                  try simp only [Act.put, List.getElem_toArray, List.getElem_cons_succ, List.getElem_cons_zero, List.setIfInBounds_toArray, List.set_cons_zero, List.set_cons_succ]
                  refine wpAny_done (by kernel_rfl) ?_ _
                  have HLE := Lib.hid (HLQ.out.setS (v := .slice A' (ins p.ss x.m).length c') (q := takeP p x vs) HP1.out HB8.out (by rw [HTP.out]; exact HO8.out) (by rw [HTP.out]) (by rw [HTP.out]) (by rw [HTP.out]) (by rw [HTP.out]))
                  have HBE : Hid (Below w.heap.size w (w8.setCell ⟨b6, j, none⟩ (.slice A' (ins p.ss x.m).length c'))) := Lib.hid ((HBQ.out.trans (HB8.out.mono HBX.out)).setCell ((HLQ.out.rows.own 1 _ rfl).lt b6 rfl).1 _)
                  clear y1 y2 k3 g1 HO8 HB8 HWI HCW HVO
                  generalize w8.setCell ⟨b6, j, none⟩ (.slice A' (ins p.ss x.m).length c') = w9 at HLE HBE ⊢
                  go_wp2
                  go_roundw
                  case rel => exact ⟨k + 1, by omega, N', fs ++ [x], psA.set j (takeP p x vs), _, _, _, _, D5, d5, some ⟨b6, 0, none⟩, d6, D7, d7, D8, d8, D9, d9, q, by go_num, rfl, rfl, rfl, rfl, rfl, rfl, HLE, HRP2, HAK2, HBD2, HBE.out⟩
                  case measure => simp [intOf]; omega
                · go_simp
                  refine hK _ _ ?_
                  clear hK KK
                  try simp only [Act.put, List.getElem_toArray, List.getElem_cons_succ, List.getElem_cons_zero, List.setIfInBounds_toArray, List.set_cons_zero, List.set_cons_succ]
                  refine wpAny_ready (rs := [5]) (by kernel_rfl) (by simp) ?_
                  refine AllReady.cons rfl (fun KK hK => ?_) AllReady.nil
                  go_simp
                  refine hK _ _ ?_
                  clear hK KK
                  try simp only [Act.put, List.getElem_toArray, List.getElem_cons_succ, List.getElem_cons_zero, List.setIfInBounds_toArray, List.set_cons_zero, List.set_cons_succ]
                  refine wpAny_ready (rs := [8]) (by kernel_rfl) (by simp) ?_
                  refine AllReady.cons rfl (fun KK hK => ?_) AllReady.nil
                  go_simp
                  refine HWI.out.mono ?_
                  rintro e' w8 ⟨A', c', rfl, ho', hb'⟩
                  have HO8 := Lib.hid ho'
                  have HB8 : Hid (Below X4.heap.size X4 w8) := Lib.hid ((bel_drew X4).trans hb')
                  clear ho' hb'
                  refine hK _ _ ?_
                  clear hK KK
                  try simp only [Act.put, List.getElem_toArray, List.getElem_cons_succ, List.getElem_cons_zero, List.setIfInBounds_toArray, List.set_cons_zero, List.set_cons_succ]
                  have y1 : w8.cell? ⟨b6, j, none⟩ = some (.slice sA p.ss.length sc) := (HCW.out w8 HB8.out).1
                  have y2 : w8.frozen? ⟨b6, j, none⟩ = false := (HCW.out w8 HB8.out).2
                  refine wpAny_take (i := 9) (v := .pointer (some ⟨b6, j, none⟩)) rfl (by kernel_rfl) (by kernel_rfl) (by kernel_rfl) (fun _ _ _ h => h) (Or.inl ⟨by rfl, fun w => by go_simp⟩) ?_
                  try simp only [Act.put, List.getElem_toArray, List.getElem_cons_succ, List.getElem_cons_zero, List.setIfInBounds_toArray, List.set_cons_zero, List.set_cons_succ]
                  refine wpAny_ready (rs := [10]) (by kernel_rfl) (by simp) ?_
                  refine AllReady.cons rfl (fun KK hK => ?_) AllReady.nil
                  go_simp
                  refine hK _ _ ?_
                  clear hK KK
                  try simp only [Act.put, List.getElem_toArray, List.getElem_cons_succ, List.getElem_cons_zero, List.setIfInBounds_toArray, List.set_cons_zero, List.set_cons_succ]
                  refine wpAny_done (by kernel_rfl) ?_ _
                  have HLE := Lib.hid (HLQ.out.setS (v := .slice A' (ins p.ss x.m).length c') (q := takeP p x vs) HP1.out HB8.out (by rw [HTP.out]; exact HO8.out) (by rw [HTP.out]) (by rw [HTP.out]) (by rw [HTP.out]) (by rw [HTP.out]))
                  have HBE : Hid (Below w.heap.size w (w8.setCell ⟨b6, j, none⟩ (.slice A' (ins p.ss x.m).length c'))) := Lib.hid ((HBQ.out.trans (HB8.out.mono HBX.out)).setCell ((HLQ.out.rows.own 1 _ rfl).lt b6 rfl).1 _)
                  clear y1 y2 k3 g1 HO8 HB8 HWI HCW HVO
                  generalize w8.setCell ⟨b6, j, none⟩ (.slice A' (ins p.ss x.m).length c') = w9 at HLE HBE ⊢
                  go_wp2
                  go_roundw
                  case rel => exact ⟨k + 1, by omega, N', fs ++ [x], psA.set j (takeP p x vs), _, _, _, _, D5, d5, some ⟨b6, 0, none⟩, d6, D7, d7, D8, d8, D9, d9, q, by go_num, rfl, rfl, rfl, rfl, rfl, rfl, HLE, HRP2, HAK2, HBD2, HBE.out⟩
                  case measure => simp [intOf]; omega
              · rw [hk2] at g2
                have HK2 := Lib.hid hk2
                clear hk2
                skip
                have HWS : Hid (∀ p ∈ psA, ∀ y ∈ p.ws, y < 256) := Lib.hid (by
                  have h := run_ws (ls.take k) (fun a ha => (HI.out a (List.mem_of_mem_take ha)).2.2.2.1)
                  rw [HRP.out] at h
                  have h2 := addP_ws (fs := fs) (e := x) h
                  rw [HPSA.out] at h2
                  exact h2)
                obtain ⟨b7, hb7⟩ := row_someN (HLQ.out.rows.own 2 _ rfl) (show 0 < N' by omega)
                subst hb7
                obtain ⟨b9, hb9⟩ := row_someN (HLQ.out.rows.own 4 _ rfl) (show 0 < N' by omega)
                subst hb9
                obtain ⟨v, hv⟩ : ∃ v, (tv ++ [nilS])[j]? = some v := ⟨_, List.getElem?_eq_getElem (by have h1 := HLQ.out.ts.1; have h2 := HLQ.out.len.2; simp only [List.length_map] at h1; omega)⟩
                have hvo := HLQ.out.ts.2 j v p.ts hv (by rw [List.getElem?_map, HP1.out]; rfl)
                obtain ⟨sA, sc, hvs⟩ := row_sl hvo
                subst hvs
                have HVV := Lib.hid hv
                have k7 : X4.cell? ⟨b7, j, none⟩ = some (.slice sA p.ts.length sc) := (row_cellN (HLQ.out.rows.own 2 _ rfl) hv).1
                obtain ⟨tn, HTN⟩ : ∃ tn, Hid (p.ts.length = tn) := ⟨_, Lib.hid rfl⟩
                rw [HTN.out] at k7
                have HWB : Hid (∀ y ∈ (pB p x vs).ws, y < 256) := Lib.hid (by
                  unfold pB
                  split
                  · exact HXI.out.2.2.2.1
                  · exact HWS.out _ (List.mem_of_getElem? HP1.out))
                clear hv hvo
                obtain ⟨Q3, HQ3⟩ : ∃ q3, Hid ((q && (decide (x.c = (pB p x vs).c) && decide (vs = (pB p x vs).ws))) = q3) := ⟨_, Lib.hid rfl⟩
                have HRP2 : Hid (runP (ls.take (k + 1)) = (fs ++ [x], psA.set j (takeP p x vs))) := Lib.hid (by
                  rw [HRN.out, HRP.out, stp_msg HM3.out (p := p) (by rw [HPSA.out, HAP.out.2.2]; exact HP1.out), HPSA.out, HAP.out.2.2, HAP.out.2.1])
                have HAK2 : Hid ((Q3 && alks (fs ++ [x], psA.set j (takeP p x vs)) (ls.drop (k + 1))) = alks ([], []) ls) := Lib.hid (by
                  rw [← HAK.out, HTL.out]
                  show _ = (q && (alk (fs, ps) (x, vs) && alks (stp (fs, ps) (x, vs)) (ls.drop (k + 1))))
                  rw [stp_msg HM3.out (p := p) (by rw [HPSA.out, HAP.out.2.2]; exact HP1.out), HPSA.out, HAP.out.2.2, HAP.out.2.1, alk_two HM3.out HK2.out (p := p) (by rw [HPSA.out, HAP.out.2.2]; exact HP1.out), ← HQ3.out, Bool.and_assoc])
                have HX40 : Hid (x.n ≤ 40) := Lib.hid ((HBD2.out (x, vs) (by rw [HTK.out]; simp)).2)
                have HSZE : Hid ((Tryd.prog.info? TE).map (·.size) = some (#[.int .i64 x.t, .int .i64 x.m, .int .i64 x.k, .int .i64 x.s, .int .i64 x.v, .int .i64 x.si, .int .i64 x.c, .slice x.A x.n x.d] : Array Value).size) := Lib.hid (by kernel_rfl)
                have HONE : Hid ((#[.int .i64 x.t, .int .i64 x.m, .int .i64 x.k, .int .i64 x.s, .int .i64 x.v, .int .i64 x.si, .int .i64 x.c, .slice x.A x.n x.d] : Array Value).all (·.oneCell') = true) := Lib.hid (by simp [Value.oneCell'])
                have HOX : Hid (Obj1 X4 gx TE #[.int .i64 x.t, .int .i64 x.m, .int .i64 x.k, .int .i64 x.s, .int .i64 x.v, .int .i64 x.si, .int .i64 x.c, .slice x.A x.n x.d]) := Lib.hid HOQ.out
                have HTJ : Hid (j * 8 < 9223372036854775807) := Lib.hid (by have := HN60.out; omega)
                go_upto_if 115 with (fail)
                obtain ⟨t0, ht0⟩ : ∃ t0, ((tn : Int) == 0) = t0 := ⟨_, rfl⟩
                rw [ht0]
                have HT0 := Lib.hid ht0
                clear ht0 k7
                go_cut [10] from 116 to 119 (fun v wx => v = .bool q ∧ ∃ bs2 ps2, Hid (LW w wx w.heap.size N' (.slice D5 N' d5) (.slice D6 N' d6) (.slice (some ⟨b7, 0, none⟩) N' d7) (.slice D8 N' d8) (.slice (some ⟨b9, 0, none⟩) N' d9) (fs ++ [x]) (sv ++ [nilS]) (tv ++ [nilS]) (mv ++ [nilS]) bs2 ps2) ∧ Hid (ps2[j]? = some (pB p x vs)) ∧ Hid (ps2.set j (takeP p x vs) = psA.set j (takeP p x vs)) ∧ Hid (Obj1 wx gx TE #[.int .i64 x.t, .int .i64 x.m, .int .i64 x.k, .int .i64 x.s, .int .i64 x.v, .int .i64 x.si, .int .i64 x.c, .slice x.A x.n x.d]) ∧ Hid (Below w.heap.size w wx))
                case first =>
                  clear g1 g2
                  cases t0 with
                  | true =>
                    have HTZ : Hid (p.ts = []) := Lib.hid (List.length_eq_zero_iff.1 (by rw [HTN.out]; have h := HT0.out; simp at h; exact h))
                    have HPB : Hid (pB p x vs = { p with c := x.c, ws := vs }) := Lib.hid (by unfold pB; rw [if_pos HTZ.out])
                    have HTH : Hid (X4.there b9 (j * 8) (#[.int .i64 x.t, .int .i64 x.m, .int .i64 x.k, .int .i64 x.s, .int .i64 x.v, .int .i64 x.si, .int .i64 x.c, .slice x.A x.n x.d] : Array Value).size) := Lib.hid (row_there (HLQ.out.rows.own 4 _ rfl) (by have h1 := HLQ.out.best.1; omega))
                    have HL2 : Hid (LW w (X4.setCells b9 (j * 8) (#[.int .i64 x.t, .int .i64 x.m, .int .i64 x.k, .int .i64 x.s, .int .i64 x.v, .int .i64 x.si, .int .i64 x.c, .slice x.A x.n x.d] : Array Value).toList) w.heap.size N' (.slice D5 N' d5) (.slice D6 N' d6) (.slice (some ⟨b7, 0, none⟩) N' d7) (.slice D8 N' d8) (.slice (some ⟨b9, 0, none⟩) N' d9) (fs ++ [x]) (sv ++ [nilS]) (tv ++ [nilS]) (mv ++ [nilS]) ((bs ++ [bZ]).set j x) (psA.set j (pB p x vs))) := Lib.hid (by rw [HPB.out]; exact HLQ.out.setB HP1.out HXI.out.2.2.1 HX40.out)
                    have HWR := Lib.hid (row_sets (#[.int .i64 x.t, .int .i64 x.m, .int .i64 x.k, .int .i64 x.s, .int .i64 x.v, .int .i64 x.si, .int .i64 x.c, .slice x.A x.n x.d] : Array Value).toList (j * 8) X4 _ (HLQ.out.rows.own 4 _ rfl)).2
                    have HGN : Hid (gx ≠ b9) := Lib.hid (fun e => HNG.out (by rw [e]; rfl))
                    have HO2 : Hid (Obj1 (X4.setCells b9 (j * 8) (#[.int .i64 x.t, .int .i64 x.m, .int .i64 x.k, .int .i64 x.s, .int .i64 x.v, .int .i64 x.si, .int .i64 x.c, .slice x.A x.n x.d] : Array Value).toList) gx TE #[.int .i64 x.t, .int .i64 x.m, .int .i64 x.k, .int .i64 x.s, .int .i64 x.v, .int .i64 x.si, .int .i64 x.c, .slice x.A x.n x.d]) := Lib.hid (HOX.out.touch HWR.out HGN.out)
                    have HB2 : Hid (Below w.heap.size w (X4.setCells b9 (j * 8) (#[.int .i64 x.t, .int .i64 x.m, .int .i64 x.k, .int .i64 x.s, .int .i64 x.v, .int .i64 x.si, .int .i64 x.c, .slice x.A x.n x.d] : Array Value).toList)) := Lib.hid (HBQ.out.trans (HWR.out.below ((HLQ.out.rows.own 4 _ rfl).lt b9 rfl).1 HBX.out))
                    have HP2 : Hid ((psA.set j (pB p x vs))[j]? = some (pB p x vs)) := Lib.hid (by rw [List.getElem?_set, if_pos rfl, if_pos (List.getElem?_eq_some_iff.1 HP1.out).1])
                    have HS2 : Hid ((psA.set j (pB p x vs)).set j (takeP p x vs) = psA.set j (takeP p x vs)) := Lib.hid (by rw [List.set_set])
                    have f0 : X4.cell? ⟨gx, 0, none⟩ = some (.int .i64 x.t) := HOX.out.cell 0
                    have f1 : X4.cell? ⟨gx, 1, none⟩ = some (.int .i64 x.m) := HOX.out.cell 1
                    have f2 : X4.cell? ⟨gx, 2, none⟩ = some (.int .i64 x.k) := HOX.out.cell 2
                    have f3 : X4.cell? ⟨gx, 3, none⟩ = some (.int .i64 x.s) := HOX.out.cell 3
                    have f4 : X4.cell? ⟨gx, 4, none⟩ = some (.int .i64 x.v) := HOX.out.cell 4
                    have f5 : X4.cell? ⟨gx, 5, none⟩ = some (.int .i64 x.si) := HOX.out.cell 5
                    have f6 : X4.cell? ⟨gx, 6, none⟩ = some (.int .i64 x.c) := HOX.out.cell 6
                    have f7 : X4.cell? ⟨gx, 7, none⟩ = some (.slice x.A x.n x.d) := HOX.out.cell 7
                    go_wp2_with ((with_reducible show wpList _ _ _ (Oper.mk none _ _ _ _ _ :: _) _ _); go_must (refine wpList_store_mid rfl TE _ _ rfl b9 (j * 8) #[.int .i64 x.t, .int .i64 x.m, .int .i64 x.k, .int .i64 x.s, .int .i64 x.v, .int .i64 x.si, .int .i64 x.c, .slice x.A x.n x.d] rfl rfl HTH.out HSZE.out HONE.out ?_))
                    go_meet
                    exact ⟨rfl, _, _, HL2, HP2, HS2, HO2, HB2⟩
                  | false =>
                    have HTP1 : Hid (¬ p.ts = []) := Lib.hid (fun e => by have h := HTN.out; rw [e] at h; have h2 := HT0.out; rw [← h] at h2; simp at h2)
                    have HPB : Hid (pB p x vs = p) := Lib.hid (by unfold pB; rw [if_neg HTP1.out])
                    have HP2 : Hid (psA[j]? = some (pB p x vs)) := Lib.hid (by rw [HPB.out]; exact HP1.out)
                    go_wp2
                    go_meet
                    exact ⟨rfl, _, _, Lib.hid HLQ.out, HP2, Lib.hid rfl, Lib.hid HOX.out, Lib.hid HBQ.out⟩
                case rest =>
                  obtain ⟨rfl, bs2, ps2, HL2, HP2, HS2, HO2, HB2⟩ := hcut
                  clear g1 g2
                  generalize wc = W2 at HL2 HO2 HB2 ⊢
                  obtain ⟨bb, hbb⟩ : ∃ b, bs2[j]? = some b := ⟨_, List.getElem?_eq_getElem (by have h1 := HL2.out.best.1; have h2 := HL2.out.len; omega)⟩
                  have HBB := Lib.hid (HL2.out.best.2 j bb _ hbb HP2.out)
                  have HCA : Hid (∀ z : Kin W2.drew, ∀ i, i < 8 → z.world.cell? ⟨b9, j * 8 + i, none⟩ = (evL bb)[i]?) := Lib.hid (fun z i hi => fs_cell (own_kept (HL2.out.rows.own 4 _ rfl) ((bel_drew W2).trans z.below)) hbb hi)
                  have HVX : Hid (∀ y ∈ vs, y < 256) := Lib.hid HXI.out.2.2.2.1
                  have HVB : Hid (∀ y ∈ (pB p x vs).ws, y < 256) := Lib.hid HWB.out
                  obtain ⟨SX, HSX⟩ : ∃ S, Hid (strB (vs.map fun (x : Nat) => (x : Int)) = S) := ⟨_, Lib.hid rfl⟩
                  obtain ⟨SB, HSB⟩ : ∃ S, Hid (strB ((pB p x vs).ws.map fun (x : Nat) => (x : Int)) = S) := ⟨_, Lib.hid rfl⟩
                  have HSE : Hid ((SX.toList == SB.toList) = decide (vs = (pB p x vs).ws)) := Lib.hid (by rw [← HSX.out, ← HSB.out]; exact str_eqL HVX.out HVB.out)
                  have HKZ : Hid (∀ z : Kin W2.drew, Below w.heap.size w z.world) := Lib.hid (fun z => HB2.out.trans (((bel_drew W2).trans z.below).mono HB2.out.size))
                  have CX : ∀ z : Kin W2.drew, (convert 33 9 (.slice x.A x.n x.d)).run Tryd.prog z.world = .ok (.string SX) z.world := fun z => by rw [← HSX.out]; exact str_conv (HXI.out.2.2.1.kept (HKZ.out z))
                  have CB : ∀ z : Kin W2.drew, (convert 33 9 (.slice bb.A bb.n bb.d)).run Tryd.prog z.world = .ok (.string SB) z.world := fun z => by rw [← HSB.out]; exact str_conv (HBB.out.2.1.kept (HKZ.out z))
                  have z6 : ∀ z : Kin W2.drew, z.world.cell? ⟨b9, j * 8 + 6, none⟩ = some (.int .i64 bb.c) := fun z => HCA.out z 6 (by omega)
                  have z7 : ∀ z : Kin W2.drew, z.world.cell? ⟨b9, j * 8 + 7, none⟩ = some (.slice bb.A bb.n bb.d) := fun z => HCA.out z 7 (by omega)
                  have y6 : ∀ z : Kin W2.drew, z.world.cell? ⟨gx, 6, none⟩ = some (.int .i64 x.c) := fun z => Kin.at (w := W2.drew) (HO2.out.cell 6) z
                  have y7 : ∀ z : Kin W2.drew, z.world.cell? ⟨gx, 7, none⟩ = some (.slice x.A x.n x.d) := fun z => Kin.at (w := W2.drew) (HO2.out.cell 7) z
                  have HBC : Hid (bb.c = (pB p x vs).c) := Lib.hid HBB.out.1
                  clear hbb
                  go_upto_region 31 with (fail)
                  go_cut [10] from 120 to 142 (fun v wx => v = .bool Q3 ∧ Below W2.heap.size W2 wx)
                  case first =>
                    cases q with
                    | false =>
                      have hq3 : Q3 = false := by rw [← HQ3.out]; rfl
                      subst hq3
                      refine wp_region_specL 23 [.d (.bool false), .d (.bool false), .d undef, .d undef, .d undef, .d undef, .d undef, .d undef, .d undef, .d undef, .d (.bool false), .d (.bool false), .d undef, .d undef, .d undef, .d undef, .d undef, .d undef, .d undef, .d undef, .d undef, .d undef, .d (.bool false)] (by kernel_rfl) (by kernel_rfl) ?_
                      refine spec_d rfl (fun x _ => gives_run (by go_simp)) ?_
                      try simp only [Act.put, List.getElem_toArray, List.getElem_cons_succ, List.getElem_cons_zero, List.setIfInBounds_toArray, List.set_cons_zero, List.set_cons_succ]
                      refine spec_d rfl (fun x _ => gives_run (by go_simp)) ?_
                      try simp only [Act.put, List.getElem_toArray, List.getElem_cons_succ, List.getElem_cons_zero, List.setIfInBounds_toArray, List.set_cons_zero, List.set_cons_succ]
                      refine spec_skip rfl ?_
                      try simp only [Act.put, List.getElem_toArray, List.getElem_cons_succ, List.getElem_cons_zero, List.setIfInBounds_toArray, List.set_cons_zero, List.set_cons_succ]
                      refine spec_skip rfl ?_
                      try simp only [Act.put, List.getElem_toArray, List.getElem_cons_succ, List.getElem_cons_zero, List.setIfInBounds_toArray, List.set_cons_zero, List.set_cons_succ]
                      refine spec_skip rfl ?_
                      try simp only [Act.put, List.getElem_toArray, List.getElem_cons_succ, List.getElem_cons_zero, List.setIfInBounds_toArray, List.set_cons_zero, List.set_cons_succ]
                      refine spec_skip rfl ?_
                      try simp only [Act.put, List.getElem_toArray, List.getElem_cons_succ, List.getElem_cons_zero, List.setIfInBounds_toArray, List.set_cons_zero, List.set_cons_succ]
                      refine spec_skip rfl ?_
                      try simp only [Act.put, List.getElem_toArray, List.getElem_cons_succ, List.getElem_cons_zero, List.setIfInBounds_toArray, List.set_cons_zero, List.set_cons_succ]
                      refine spec_skip rfl ?_
                      try simp only [Act.put, List.getElem_toArray, List.getElem_cons_succ, List.getElem_cons_zero, List.setIfInBounds_toArray, List.set_cons_zero, List.set_cons_succ]
                      refine spec_skip rfl ?_
                      try simp only [Act.put, List.getElem_toArray, List.getElem_cons_succ, List.getElem_cons_zero, List.setIfInBounds_toArray, List.set_cons_zero, List.set_cons_succ]
                      refine spec_skip rfl ?_
                      try simp only [Act.put, List.getElem_toArray, List.getElem_cons_succ, List.getElem_cons_zero, List.setIfInBounds_toArray, List.set_cons_zero, List.set_cons_succ]
                      refine spec_d rfl (fun x _ => gives_run (by go_simp)) ?_
                      try simp only [Act.put, List.getElem_toArray, List.getElem_cons_succ, List.getElem_cons_zero, List.setIfInBounds_toArray, List.set_cons_zero, List.set_cons_succ]
                      refine spec_d rfl (fun x _ => gives_run (by go_simp)) ?_
                      try simp only [Act.put, List.getElem_toArray, List.getElem_cons_succ, List.getElem_cons_zero, List.setIfInBounds_toArray, List.set_cons_zero, List.set_cons_succ]
                      refine spec_skip rfl ?_
                      try simp only [Act.put, List.getElem_toArray, List.getElem_cons_succ, List.getElem_cons_zero, List.setIfInBounds_toArray, List.set_cons_zero, List.set_cons_succ]
                      refine spec_skip rfl ?_
                      try simp only [Act.put, List.getElem_toArray, List.getElem_cons_succ, List.getElem_cons_zero, List.setIfInBounds_toArray, List.set_cons_zero, List.set_cons_succ]
                      refine spec_skip rfl ?_
                      try simp only [Act.put, List.getElem_toArray, List.getElem_cons_succ, List.getElem_cons_zero, List.setIfInBounds_toArray, List.set_cons_zero, List.set_cons_succ]
                      refine spec_skip rfl ?_
                      try simp only [Act.put, List.getElem_toArray, List.getElem_cons_succ, List.getElem_cons_zero, List.setIfInBounds_toArray, List.set_cons_zero, List.set_cons_succ]
                      refine spec_skip rfl ?_
                      try simp only [Act.put, List.getElem_toArray, List.getElem_cons_succ, List.getElem_cons_zero, List.setIfInBounds_toArray, List.set_cons_zero, List.set_cons_succ]
                      refine spec_skip rfl ?_
                      try simp only [Act.put, List.getElem_toArray, List.getElem_cons_succ, List.getElem_cons_zero, List.setIfInBounds_toArray, List.set_cons_zero, List.set_cons_succ]
                      refine spec_skip rfl ?_
                      try simp only [Act.put, List.getElem_toArray, List.getElem_cons_succ, List.getElem_cons_zero, List.setIfInBounds_toArray, List.set_cons_zero, List.set_cons_succ]
                      refine spec_skip rfl ?_
                      try simp only [Act.put, List.getElem_toArray, List.getElem_cons_succ, List.getElem_cons_zero, List.setIfInBounds_toArray, List.set_cons_zero, List.set_cons_succ]
                      refine spec_skip rfl ?_
                      try simp only [Act.put, List.getElem_toArray, List.getElem_cons_succ, List.getElem_cons_zero, List.setIfInBounds_toArray, List.set_cons_zero, List.set_cons_succ]
                      refine spec_skip rfl ?_
                      try simp only [Act.put, List.getElem_toArray, List.getElem_cons_succ, List.getElem_cons_zero, List.setIfInBounds_toArray, List.set_cons_zero, List.set_cons_succ]
                      refine spec_d rfl (fun x _ => gives_run (by go_simp)) ?_
                      try simp only [Act.put, List.getElem_toArray, List.getElem_cons_succ, List.getElem_cons_zero, List.setIfInBounds_toArray, List.set_cons_zero, List.set_cons_succ]
                      refine spec_end (fun z hz => ?_)
                      clear hz
                      change wpAny _ _ _ _ (0 + 1) _ _ _
                      refine wpAny_ready (rs := [23]) (by kernel_rfl) (by simp) ?_
                      refine AllReady.cons rfl (fun KK hK => ?_) AllReady.nil
                      go_simp
                      refine hK _ _ ?_
                      clear hK KK
                      try simp only [Act.put, List.getElem_toArray, List.getElem_cons_succ, List.getElem_cons_zero, List.setIfInBounds_toArray, List.set_cons_zero, List.set_cons_succ]
                      refine wpAny_done (by kernel_rfl) ?_ _
                      have HBZ : Hid (Below W2.heap.size W2 z.world) := Lib.hid ((bel_drew W2).trans z.below)
                      clear CX CB z6 z7 y6 y7
                      generalize z.world = wz at HBZ ⊢
                      clear z
                      go_wp2
                      go_meet
                      exact ⟨rfl, HBZ.out⟩
                    | true =>
                      by_cases hc : x.c = bb.c
                      · have hq3 : (SX.toList == SB.toList) = Q3 := by rw [HSE.out, ← HQ3.out, Bool.true_and, ← HBC.out, decide_eq_true hc, Bool.true_and]
                        have hcb : (x.c == bb.c) = true := by simpa using hc
                        clear hc
                        refine wp_region_specL 23 [.d (.bool true), .d (.bool true), .d (.pointer (some ⟨gx, 6, none⟩)), .d (.int .i64 x.c), .d (.slice (some ⟨b9, 0, none⟩) N' d9), .d (.int .i64 (j : Int)), .d (.pointer (some ⟨b9, j * 8, none⟩)), .d (.pointer (some ⟨b9, j * 8 + 6, none⟩)), .d (.int .i64 bb.c), .d (.bool true), .d (.bool true), .d (.bool true), .d (.pointer (some ⟨gx, 7, none⟩)), .d (.slice x.A x.n x.d), .d (.string SX), .d (.slice (some ⟨b9, 0, none⟩) N' d9), .d (.int .i64 (j : Int)), .d (.pointer (some ⟨b9, j * 8, none⟩)), .d (.pointer (some ⟨b9, j * 8 + 7, none⟩)), .d (.slice bb.A bb.n bb.d), .d (.string SB), .d (.bool Q3), .d (.bool Q3)] (by kernel_rfl) (by kernel_rfl) ?_
                        refine spec_d rfl (fun x _ => gives_run (by go_simp)) ?_
                        try simp only [Act.put, List.getElem_toArray, List.getElem_cons_succ, List.getElem_cons_zero, List.setIfInBounds_toArray, List.set_cons_zero, List.set_cons_succ]
                        refine spec_d rfl (fun x _ => gives_run (by go_simp)) ?_
                        try simp only [Act.put, List.getElem_toArray, List.getElem_cons_succ, List.getElem_cons_zero, List.setIfInBounds_toArray, List.set_cons_zero, List.set_cons_succ]
                        refine spec_d rfl (fun x _ => gives_run (by go_simp)) ?_
                        try simp only [Act.put, List.getElem_toArray, List.getElem_cons_succ, List.getElem_cons_zero, List.setIfInBounds_toArray, List.set_cons_zero, List.set_cons_succ]
                        refine spec_d rfl (fun x _ => gives_run (by go_simp)) ?_
                        try simp only [Act.put, List.getElem_toArray, List.getElem_cons_succ, List.getElem_cons_zero, List.setIfInBounds_toArray, List.set_cons_zero, List.set_cons_succ]
                        refine spec_d rfl (fun x _ => gives_run (by go_simp)) ?_
                        try simp only [Act.put, List.getElem_toArray, List.getElem_cons_succ, List.getElem_cons_zero, List.setIfInBounds_toArray, List.set_cons_zero, List.set_cons_succ]
                        refine spec_d rfl (fun x _ => gives_run (by go_simp)) ?_
                        try simp only [Act.put, List.getElem_toArray, List.getElem_cons_succ, List.getElem_cons_zero, List.setIfInBounds_toArray, List.set_cons_zero, List.set_cons_succ]
                        refine spec_d rfl (fun x _ => gives_run (by go_simp)) ?_
                        try simp only [Act.put, List.getElem_toArray, List.getElem_cons_succ, List.getElem_cons_zero, List.setIfInBounds_toArray, List.set_cons_zero, List.set_cons_succ]
                        refine spec_d rfl (fun x _ => gives_run (by go_simp)) ?_
                        try simp only [Act.put, List.getElem_toArray, List.getElem_cons_succ, List.getElem_cons_zero, List.setIfInBounds_toArray, List.set_cons_zero, List.set_cons_succ]
                        refine spec_d rfl (fun x _ => gives_run (by go_simp)) ?_
                        try simp only [Act.put, List.getElem_toArray, List.getElem_cons_succ, List.getElem_cons_zero, List.setIfInBounds_toArray, List.set_cons_zero, List.set_cons_succ]
                        refine spec_d rfl (fun x _ => gives_run (by go_simp)) ?_
                        try simp only [Act.put, List.getElem_toArray, List.getElem_cons_succ, List.getElem_cons_zero, List.setIfInBounds_toArray, List.set_cons_zero, List.set_cons_succ]
                        refine spec_d rfl (fun x _ => gives_run (by go_simp)) ?_
                        try simp only [Act.put, List.getElem_toArray, List.getElem_cons_succ, List.getElem_cons_zero, List.setIfInBounds_toArray, List.set_cons_zero, List.set_cons_succ]
                        refine spec_d rfl (fun x _ => gives_run (by go_simp)) ?_
                        try simp only [Act.put, List.getElem_toArray, List.getElem_cons_succ, List.getElem_cons_zero, List.setIfInBounds_toArray, List.set_cons_zero, List.set_cons_succ]
                        refine spec_d rfl (fun x _ => gives_run (by go_simp)) ?_
                        try simp only [Act.put, List.getElem_toArray, List.getElem_cons_succ, List.getElem_cons_zero, List.setIfInBounds_toArray, List.set_cons_zero, List.set_cons_succ]
                        refine spec_d rfl (fun x _ => gives_run (by go_simp)) ?_
                        try simp only [Act.put, List.getElem_toArray, List.getElem_cons_succ, List.getElem_cons_zero, List.setIfInBounds_toArray, List.set_cons_zero, List.set_cons_succ]
                        refine spec_d rfl (fun x _ => gives_run (by go_simp)) ?_
                        try simp only [Act.put, List.getElem_toArray, List.getElem_cons_succ, List.getElem_cons_zero, List.setIfInBounds_toArray, List.set_cons_zero, List.set_cons_succ]
                        refine spec_d rfl (fun x _ => gives_run (by go_simp)) ?_
                        try simp only [Act.put, List.getElem_toArray, List.getElem_cons_succ, List.getElem_cons_zero, List.setIfInBounds_toArray, List.set_cons_zero, List.set_cons_succ]
                        refine spec_d rfl (fun x _ => gives_run (by go_simp)) ?_
                        try simp only [Act.put, List.getElem_toArray, List.getElem_cons_succ, List.getElem_cons_zero, List.setIfInBounds_toArray, List.set_cons_zero, List.set_cons_succ]
                        refine spec_d rfl (fun x _ => gives_run (by go_simp)) ?_
                        try simp only [Act.put, List.getElem_toArray, List.getElem_cons_succ, List.getElem_cons_zero, List.setIfInBounds_toArray, List.set_cons_zero, List.set_cons_succ]
                        refine spec_d rfl (fun x _ => gives_run (by go_simp)) ?_
                        try simp only [Act.put, List.getElem_toArray, List.getElem_cons_succ, List.getElem_cons_zero, List.setIfInBounds_toArray, List.set_cons_zero, List.set_cons_succ]
                        refine spec_d rfl (fun x _ => gives_run (by go_simp)) ?_
                        try simp only [Act.put, List.getElem_toArray, List.getElem_cons_succ, List.getElem_cons_zero, List.setIfInBounds_toArray, List.set_cons_zero, List.set_cons_succ]
                        refine spec_d rfl (fun x _ => gives_run (by go_simp)) ?_
                        try simp only [Act.put, List.getElem_toArray, List.getElem_cons_succ, List.getElem_cons_zero, List.setIfInBounds_toArray, List.set_cons_zero, List.set_cons_succ]
                        refine spec_d rfl (fun x _ => gives_run (by go_simp)) ?_
                        try simp only [Act.put, List.getElem_toArray, List.getElem_cons_succ, List.getElem_cons_zero, List.setIfInBounds_toArray, List.set_cons_zero, List.set_cons_succ]
                        refine spec_d rfl (fun x _ => gives_run (by go_simp)) ?_
                        try simp only [Act.put, List.getElem_toArray, List.getElem_cons_succ, List.getElem_cons_zero, List.setIfInBounds_toArray, List.set_cons_zero, List.set_cons_succ]
                        refine spec_end (fun z hz => ?_)
                        clear hz
                        change wpAny _ _ _ _ (0 + 1) _ _ _
                        refine wpAny_ready (rs := [23]) (by kernel_rfl) (by simp) ?_
                        refine AllReady.cons rfl (fun KK hK => ?_) AllReady.nil
                        go_simp
                        refine hK _ _ ?_
                        clear hK KK
                        try simp only [Act.put, List.getElem_toArray, List.getElem_cons_succ, List.getElem_cons_zero, List.setIfInBounds_toArray, List.set_cons_zero, List.set_cons_succ]
                        refine wpAny_done (by kernel_rfl) ?_ _
                        have HBZ : Hid (Below W2.heap.size W2 z.world) := Lib.hid ((bel_drew W2).trans z.below)
                        clear CX CB z6 z7 y6 y7
                        generalize z.world = wz at HBZ ⊢
                        clear z
                        go_wp2
                        go_meet
                        exact ⟨rfl, HBZ.out⟩
                      · have hq3 : Q3 = false := by rw [← HQ3.out, Bool.true_and, ← HBC.out, decide_eq_false hc, Bool.false_and]
                        subst hq3
                        have hcb : (x.c == bb.c) = false := by simpa using hc
                        clear hc
                        refine wp_region_specL 23 [.d (.bool true), .d (.bool true), .d (.pointer (some ⟨gx, 6, none⟩)), .d (.int .i64 x.c), .d (.slice (some ⟨b9, 0, none⟩) N' d9), .d (.int .i64 (j : Int)), .d (.pointer (some ⟨b9, j * 8, none⟩)), .d (.pointer (some ⟨b9, j * 8 + 6, none⟩)), .d (.int .i64 bb.c), .d (.bool false), .d (.bool false), .d (.bool false), .d undef, .d undef, .d undef, .d undef, .d undef, .d undef, .d undef, .d undef, .d undef, .d undef, .d (.bool false)] (by kernel_rfl) (by kernel_rfl) ?_
                        refine spec_d rfl (fun x _ => gives_run (by go_simp)) ?_
                        try simp only [Act.put, List.getElem_toArray, List.getElem_cons_succ, List.getElem_cons_zero, List.setIfInBounds_toArray, List.set_cons_zero, List.set_cons_succ]
                        refine spec_d rfl (fun x _ => gives_run (by go_simp)) ?_
                        try simp only [Act.put, List.getElem_toArray, List.getElem_cons_succ, List.getElem_cons_zero, List.setIfInBounds_toArray, List.set_cons_zero, List.set_cons_succ]
                        refine spec_d rfl (fun x _ => gives_run (by go_simp)) ?_
                        try simp only [Act.put, List.getElem_toArray, List.getElem_cons_succ, List.getElem_cons_zero, List.setIfInBounds_toArray, List.set_cons_zero, List.set_cons_succ]
                        refine spec_d rfl (fun x _ => gives_run (by go_simp)) ?_
                        try simp only [Act.put, List.getElem_toArray, List.getElem_cons_succ, List.getElem_cons_zero, List.setIfInBounds_toArray, List.set_cons_zero, List.set_cons_succ]
                        refine spec_d rfl (fun x _ => gives_run (by go_simp)) ?_
                        try simp only [Act.put, List.getElem_toArray, List.getElem_cons_succ, List.getElem_cons_zero, List.setIfInBounds_toArray, List.set_cons_zero, List.set_cons_succ]
                        refine spec_d rfl (fun x _ => gives_run (by go_simp)) ?_
                        try simp only [Act.put, List.getElem_toArray, List.getElem_cons_succ, List.getElem_cons_zero, List.setIfInBounds_toArray, List.set_cons_zero, List.set_cons_succ]
                        refine spec_d rfl (fun x _ => gives_run (by go_simp)) ?_
                        try simp only [Act.put, List.getElem_toArray, List.getElem_cons_succ, List.getElem_cons_zero, List.setIfInBounds_toArray, List.set_cons_zero, List.set_cons_succ]
                        refine spec_d rfl (fun x _ => gives_run (by go_simp)) ?_
                        try simp only [Act.put, List.getElem_toArray, List.getElem_cons_succ, List.getElem_cons_zero, List.setIfInBounds_toArray, List.set_cons_zero, List.set_cons_succ]
                        refine spec_d rfl (fun x _ => gives_run (by go_simp)) ?_
                        try simp only [Act.put, List.getElem_toArray, List.getElem_cons_succ, List.getElem_cons_zero, List.setIfInBounds_toArray, List.set_cons_zero, List.set_cons_succ]
                        refine spec_d rfl (fun x _ => gives_run (by go_simp)) ?_
                        try simp only [Act.put, List.getElem_toArray, List.getElem_cons_succ, List.getElem_cons_zero, List.setIfInBounds_toArray, List.set_cons_zero, List.set_cons_succ]
                        refine spec_d rfl (fun x _ => gives_run (by go_simp)) ?_
                        try simp only [Act.put, List.getElem_toArray, List.getElem_cons_succ, List.getElem_cons_zero, List.setIfInBounds_toArray, List.set_cons_zero, List.set_cons_succ]
                        refine spec_d rfl (fun x _ => gives_run (by go_simp)) ?_
                        try simp only [Act.put, List.getElem_toArray, List.getElem_cons_succ, List.getElem_cons_zero, List.setIfInBounds_toArray, List.set_cons_zero, List.set_cons_succ]
                        refine spec_skip rfl ?_
                        try simp only [Act.put, List.getElem_toArray, List.getElem_cons_succ, List.getElem_cons_zero, List.setIfInBounds_toArray, List.set_cons_zero, List.set_cons_succ]
                        refine spec_skip rfl ?_
                        try simp only [Act.put, List.getElem_toArray, List.getElem_cons_succ, List.getElem_cons_zero, List.setIfInBounds_toArray, List.set_cons_zero, List.set_cons_succ]
                        refine spec_skip rfl ?_
                        try simp only [Act.put, List.getElem_toArray, List.getElem_cons_succ, List.getElem_cons_zero, List.setIfInBounds_toArray, List.set_cons_zero, List.set_cons_succ]
                        refine spec_skip rfl ?_
                        try simp only [Act.put, List.getElem_toArray, List.getElem_cons_succ, List.getElem_cons_zero, List.setIfInBounds_toArray, List.set_cons_zero, List.set_cons_succ]
                        refine spec_skip rfl ?_
                        try simp only [Act.put, List.getElem_toArray, List.getElem_cons_succ, List.getElem_cons_zero, List.setIfInBounds_toArray, List.set_cons_zero, List.set_cons_succ]
                        refine spec_skip rfl ?_
                        try simp only [Act.put, List.getElem_toArray, List.getElem_cons_succ, List.getElem_cons_zero, List.setIfInBounds_toArray, List.set_cons_zero, List.set_cons_succ]
                        refine spec_skip rfl ?_
                        try simp only [Act.put, List.getElem_toArray, List.getElem_cons_succ, List.getElem_cons_zero, List.setIfInBounds_toArray, List.set_cons_zero, List.set_cons_succ]
                        refine spec_skip rfl ?_
                        try simp only [Act.put, List.getElem_toArray, List.getElem_cons_succ, List.getElem_cons_zero, List.setIfInBounds_toArray, List.set_cons_zero, List.set_cons_succ]
                        refine spec_skip rfl ?_
                        try simp only [Act.put, List.getElem_toArray, List.getElem_cons_succ, List.getElem_cons_zero, List.setIfInBounds_toArray, List.set_cons_zero, List.set_cons_succ]
                        refine spec_skip rfl ?_
                        try simp only [Act.put, List.getElem_toArray, List.getElem_cons_succ, List.getElem_cons_zero, List.setIfInBounds_toArray, List.set_cons_zero, List.set_cons_succ]
                        refine spec_d rfl (fun x _ => gives_run (by go_simp)) ?_
                        try simp only [Act.put, List.getElem_toArray, List.getElem_cons_succ, List.getElem_cons_zero, List.setIfInBounds_toArray, List.set_cons_zero, List.set_cons_succ]
                        refine spec_end (fun z hz => ?_)
                        clear hz
                        change wpAny _ _ _ _ (0 + 1) _ _ _
                        refine wpAny_ready (rs := [23]) (by kernel_rfl) (by simp) ?_
                        refine AllReady.cons rfl (fun KK hK => ?_) AllReady.nil
                        go_simp
                        refine hK _ _ ?_
                        clear hK KK
                        try simp only [Act.put, List.getElem_toArray, List.getElem_cons_succ, List.getElem_cons_zero, List.setIfInBounds_toArray, List.set_cons_zero, List.set_cons_succ]
                        refine wpAny_done (by kernel_rfl) ?_ _
                        have HBZ : Hid (Below W2.heap.size W2 z.world) := Lib.hid ((bel_drew W2).trans z.below)
                        clear CX CB z6 z7 y6 y7
                        generalize z.world = wz at HBZ ⊢
                        clear z
                        go_wp2
                        go_meet
                        exact ⟨rfl, HBZ.out⟩
                  case rest =>
                    obtain ⟨rfl, hbz⟩ := hcut
                    have HL3 := Lib.hid (HL2.out.kept hbz)
                    have HP3 := Lib.hid HP2.out
                    have HS3 := Lib.hid HS2.out
                    have HO3 := Lib.hid (HO2.out.kept hbz)
                    have HB3 := Lib.hid (HB2.out.trans (hbz.mono HB2.out.size))
                    clear hbz CX CB z6 z7 y6 y7 HL2 HP2 HS2 HO2 HB2 HCA HKZ HBB HBC
                    clear HLQ HOX HBX
                    have HBX3 : Hid (w.heap.size ≤ wc.heap.size) := Lib.hid HB3.out.size
                    have HTSS := Lib.hid (pB_ts p x vs)
                    have HVO : Hid (wc.ownsRow w.heap.size Hl.TI 1 (.slice sA p.ts.length sc) p.ts.length (p.ts.map iV)) := Lib.hid (HL3.out.ts.2 j _ p.ts HVV.out (by rw [List.getElem?_map, HP3.out]; show some (pB p x vs).ts = _; rw [HTSS.out.1]))
                    have HCW : Hid (∀ W, Below wc.heap.size wc W → W.cell? ⟨b7, j, none⟩ = some (.slice sA p.ts.length sc) ∧ W.frozen? ⟨b7, j, none⟩ = false) := Lib.hid (fun W hW => row_cellN (own_kept (HL3.out.rows.own 2 _ rfl) hW) (by exact HVV.out))
                    have HWI := Lib.hid (with_any w.heap.size sA sc p.ts x.m wc.drew (own_kept HVO.out (bel_drew wc)) HPK.out.2.1 HBX3.out HPZ.out.2.1)
                    have k3 : wc.cell? ⟨b7, j, none⟩ = some (.slice sA p.ts.length sc) := (HCW.out wc (Below.refl _ _)).1
                    have g1 : wc.cell? ⟨gx, 1, none⟩ = some (.int .i64 x.m) := HO3.out.cell 1
                    have HTP := Lib.hid (take_two (p := p) (vs := vs) HK2.out)
                    go_upto_region 32 with (fail)
                    refine wp_region_any (by kernel_rfl) ?_
                    change wpAny _ _ _ _ _ _ _ (World.drew _)
                    refine wpAny_take (i := 0) (v := .slice (some ⟨b7, 0, none⟩) N' d7) rfl (by kernel_rfl) (by kernel_rfl) (by kernel_rfl) (fun _ _ _ h => h) (Or.inl ⟨by rfl, fun w => by go_simp⟩) ?_
                    try simp only [Act.put, List.getElem_toArray, List.getElem_cons_succ, List.getElem_cons_zero, List.setIfInBounds_toArray, List.set_cons_zero, List.set_cons_succ]
                    refine wpAny_take (i := 1) (v := .int .i64 (j : Int)) rfl (by kernel_rfl) (by kernel_rfl) (by kernel_rfl) (fun _ _ _ h => h) (Or.inl ⟨by rfl, fun w => by go_simp⟩) ?_
                    try simp only [Act.put, List.getElem_toArray, List.getElem_cons_succ, List.getElem_cons_zero, List.setIfInBounds_toArray, List.set_cons_zero, List.set_cons_succ]
                    refine wpAny_take (i := 2) (v := .slice (some ⟨b7, 0, none⟩) N' d7) rfl (by kernel_rfl) (by kernel_rfl) (by kernel_rfl) (fun _ _ _ h => h) (Or.inl ⟨by rfl, fun w => by go_simp⟩) ?_
                    try simp only [Act.put, List.getElem_toArray, List.getElem_cons_succ, List.getElem_cons_zero, List.setIfInBounds_toArray, List.set_cons_zero, List.set_cons_succ]
                    refine wpAny_take (i := 3) (v := .int .i64 (j : Int)) rfl (by kernel_rfl) (by kernel_rfl) (by kernel_rfl) (fun _ _ _ h => h) (Or.inl ⟨by rfl, fun w => by go_simp⟩) ?_
                    try simp only [Act.put, List.getElem_toArray, List.getElem_cons_succ, List.getElem_cons_zero, List.setIfInBounds_toArray, List.set_cons_zero, List.set_cons_succ]
                    refine wpAny_take (i := 4) (v := .pointer (some ⟨b7, j, none⟩)) rfl (by kernel_rfl) (by kernel_rfl) (by kernel_rfl) (fun _ _ _ h => h) (Or.inl ⟨by rfl, fun w => by go_simp⟩) ?_
                    try simp only [Act.put, List.getElem_toArray, List.getElem_cons_succ, List.getElem_cons_zero, List.setIfInBounds_toArray, List.set_cons_zero, List.set_cons_succ]
                    refine wpAny_take (i := 6) (v := .pointer (some ⟨gx, 1, none⟩)) rfl (by kernel_rfl) (by kernel_rfl) (by kernel_rfl) (fun _ _ _ h => h) (Or.inl ⟨by rfl, fun w => by go_simp⟩) ?_
                    try simp only [Act.put, List.getElem_toArray, List.getElem_cons_succ, List.getElem_cons_zero, List.setIfInBounds_toArray, List.set_cons_zero, List.set_cons_succ]
                    refine wpAny_ready (rs := [5, 7]) (by kernel_rfl) (by simp) ?_
                    refine AllReady.cons rfl (fun KK hK => ?_) (AllReady.cons rfl (fun KK hK => ?_) AllReady.nil)
                    · go_simp
                      refine hK _ _ ?_
                      clear hK KK
                      try simp only [Act.put, List.getElem_toArray, List.getElem_cons_succ, List.getElem_cons_zero, List.setIfInBounds_toArray, List.set_cons_zero, List.set_cons_succ]
                      refine wpAny_ready (rs := [7]) (by kernel_rfl) (by simp) ?_
                      refine AllReady.cons rfl (fun KK hK => ?_) AllReady.nil
                      go_simp
                      refine hK _ _ ?_
                      clear hK KK
                      try simp only [Act.put, List.getElem_toArray, List.getElem_cons_succ, List.getElem_cons_zero, List.setIfInBounds_toArray, List.set_cons_zero, List.set_cons_succ]
                      refine wpAny_ready (rs := [8]) (by kernel_rfl) (by simp) ?_
                      refine AllReady.cons rfl (fun KK hK => ?_) AllReady.nil
                      go_simp
                      refine HWI.out.mono ?_
                      rintro e' w8 ⟨A', c', rfl, ho', hb'⟩
                      have HO8 := Lib.hid ho'
                      have HB8 : Hid (Below wc.heap.size wc w8) := Lib.hid ((bel_drew wc).trans hb')
                      clear ho' hb'
                      refine hK _ _ ?_
                      clear hK KK
                      try simp only [Act.put, List.getElem_toArray, List.getElem_cons_succ, List.getElem_cons_zero, List.setIfInBounds_toArray, List.set_cons_zero, List.set_cons_succ]
                      have y1 : w8.cell? ⟨b7, j, none⟩ = some (.slice sA p.ts.length sc) := (HCW.out w8 HB8.out).1
                      have y2 : w8.frozen? ⟨b7, j, none⟩ = false := (HCW.out w8 HB8.out).2
                      refine wpAny_take (i := 9) (v := .pointer (some ⟨b7, j, none⟩)) rfl (by kernel_rfl) (by kernel_rfl) (by kernel_rfl) (fun _ _ _ h => h) (Or.inl ⟨by rfl, fun w => by go_simp⟩) ?_
                      try simp only [Act.put, List.getElem_toArray, List.getElem_cons_succ, List.getElem_cons_zero, List.setIfInBounds_toArray, List.set_cons_zero, List.set_cons_succ]
                      refine wpAny_ready (rs := [10]) (by kernel_rfl) (by simp) ?_
                      refine AllReady.cons rfl (fun KK hK => ?_) AllReady.nil
                      go_simp
                      refine hK _ _ ?_
                      clear hK KK
                      try simp only [Act.put, List.getElem_toArray, List.getElem_cons_succ, List.getElem_cons_zero, List.setIfInBounds_toArray, List.set_cons_zero, List.set_cons_succ]
                      refine wpAny_done (by kernel_rfl) ?_ _
                      have HLE := Lib.hid (HL3.out.setT (v := .slice A' (ins p.ts x.m).length c') (q := takeP p x vs) HP3.out HB8.out (by rw [HTP.out]; exact HO8.out) (by rw [HTP.out]) (by rw [HTP.out]) (by rw [HTP.out]) (by rw [HTP.out]))
                      rw [HS3.out] at HLE
                      have HBE : Hid (Below w.heap.size w (w8.setCell ⟨b7, j, none⟩ (.slice A' (ins p.ts x.m).length c'))) := Lib.hid ((HB3.out.trans (HB8.out.mono HBX3.out)).setCell ((HL3.out.rows.own 2 _ rfl).lt b7 rfl).1 _)
                      clear y1 y2 k3 g1 HO8 HB8 HWI HCW HVO
                      generalize w8.setCell ⟨b7, j, none⟩ (.slice A' (ins p.ts x.m).length c') = w9 at HLE HBE ⊢
                      go_wp2
                      go_roundw
                      case rel => exact ⟨k + 1, by omega, N', fs ++ [x], psA.set j (takeP p x vs), _, _, _, _, D5, d5, D6, d6, some ⟨b7, 0, none⟩, d7, D8, d8, some ⟨b9, 0, none⟩, d9, Q3, by go_num, rfl, rfl, rfl, rfl, rfl, rfl, HLE, HRP2, HAK2, HBD2, HBE.out⟩
                      case measure => simp [intOf]; omega
                    · go_simp
                      refine hK _ _ ?_
                      clear hK KK
                      try simp only [Act.put, List.getElem_toArray, List.getElem_cons_succ, List.getElem_cons_zero, List.setIfInBounds_toArray, List.set_cons_zero, List.set_cons_succ]
                      refine wpAny_ready (rs := [5]) (by kernel_rfl) (by simp) ?_
                      refine AllReady.cons rfl (fun KK hK => ?_) AllReady.nil
                      go_simp
                      refine hK _ _ ?_
                      clear hK KK
                      try simp only [Act.put, List.getElem_toArray, List.getElem_cons_succ, List.getElem_cons_zero, List.setIfInBounds_toArray, List.set_cons_zero, List.set_cons_succ]
                      refine wpAny_ready (rs := [8]) (by kernel_rfl) (by simp) ?_
                      refine AllReady.cons rfl (fun KK hK => ?_) AllReady.nil
                      go_simp
                      refine HWI.out.mono ?_
                      rintro e' w8 ⟨A', c', rfl, ho', hb'⟩
                      have HO8 := Lib.hid ho'
                      have HB8 : Hid (Below wc.heap.size wc w8) := Lib.hid ((bel_drew wc).trans hb')
                      clear ho' hb'
                      refine hK _ _ ?_
                      clear hK KK
                      try simp only [Act.put, List.getElem_toArray, List.getElem_cons_succ, List.getElem_cons_zero, List.setIfInBounds_toArray, List.set_cons_zero, List.set_cons_succ]
                      have y1 : w8.cell? ⟨b7, j, none⟩ = some (.slice sA p.ts.length sc) := (HCW.out w8 HB8.out).1
                      have y2 : w8.frozen? ⟨b7, j, none⟩ = false := (HCW.out w8 HB8.out).2
                      refine wpAny_take (i := 9) (v := .pointer (some ⟨b7, j, none⟩)) rfl (by kernel_rfl) (by kernel_rfl) (by kernel_rfl) (fun _ _ _ h => h) (Or.inl ⟨by rfl, fun w => by go_simp⟩) ?_
                      try simp only [Act.put, List.getElem_toArray, List.getElem_cons_succ, List.getElem_cons_zero, List.setIfInBounds_toArray, List.set_cons_zero, List.set_cons_succ]
                      refine wpAny_ready (rs := [10]) (by kernel_rfl) (by simp) ?_
                      refine AllReady.cons rfl (fun KK hK => ?_) AllReady.nil
                      go_simp
                      refine hK _ _ ?_
                      clear hK KK
                      try simp only [Act.put, List.getElem_toArray, List.getElem_cons_succ, List.getElem_cons_zero, List.setIfInBounds_toArray, List.set_cons_zero, List.set_cons_succ]
                      refine wpAny_done (by kernel_rfl) ?_ _
                      have HLE := Lib.hid (HL3.out.setT (v := .slice A' (ins p.ts x.m).length c') (q := takeP p x vs) HP3.out HB8.out (by rw [HTP.out]; exact HO8.out) (by rw [HTP.out]) (by rw [HTP.out]) (by rw [HTP.out]) (by rw [HTP.out]))
                      rw [HS3.out] at HLE
                      have HBE : Hid (Below w.heap.size w (w8.setCell ⟨b7, j, none⟩ (.slice A' (ins p.ts x.m).length c'))) := Lib.hid ((HB3.out.trans (HB8.out.mono HBX3.out)).setCell ((HL3.out.rows.own 2 _ rfl).lt b7 rfl).1 _)
                      clear y1 y2 k3 g1 HO8 HB8 HWI HCW HVO
                      generalize w8.setCell ⟨b7, j, none⟩ (.slice A' (ins p.ts x.m).length c') = w9 at HLE HBE ⊢
                      go_wp2
                      go_roundw
                      case rel => exact ⟨k + 1, by omega, N', fs ++ [x], psA.set j (takeP p x vs), _, _, _, _, D5, d5, D6, d6, some ⟨b7, 0, none⟩, d7, D8, d8, some ⟨b9, 0, none⟩, d9, Q3, by go_num, rfl, rfl, rfl, rfl, rfl, rfl, HLE, HRP2, HAK2, HBD2, HBE.out⟩
                      case measure => simp [intOf]; omega
              · rw [hk3] at g2
                have HK3 := Lib.hid hk3
                clear hk3
                obtain ⟨b8, hb8⟩ := row_someN (HLQ.out.rows.own 3 _ rfl) (show 0 < N' by omega)
                subst hb8
                obtain ⟨v, hv⟩ : ∃ v, (mv ++ [nilS])[j]? = some v := ⟨_, List.getElem?_eq_getElem (by have h1 := HLQ.out.ms.1; have h2 := HLQ.out.len.2; simp only [List.length_map] at h1; omega)⟩
                have hvo := HLQ.out.ms.2 j v p.ms hv (by rw [List.getElem?_map, HP1.out]; rfl)
                obtain ⟨sA, sc, hvs⟩ := row_sl hvo
                subst hvs
                have HVO := Lib.hid hvo
                have HCW : Hid (∀ W, Below X4.heap.size X4 W → W.cell? ⟨b8, j, none⟩ = some (.slice sA p.ms.length sc) ∧ W.frozen? ⟨b8, j, none⟩ = false) := Lib.hid (fun W hW => row_cellN (own_kept (HLQ.out.rows.own 3 _ rfl) hW) (by exact hv))
                have HWI := Lib.hid (with_any w.heap.size sA sc p.ms x.m X4.drew (own_kept HVO.out (bel_drew X4)) HPK.out.2.2 HBX.out HPZ.out.2.2)
                have k3 : X4.cell? ⟨b8, j, none⟩ = some (.slice sA p.ms.length sc) := (HCW.out X4 (Below.refl _ _)).1
                clear hv hvo
                have HTP : Hid (takeP p x vs = { p with ms := ins p.ms x.m }) := Lib.hid (by have := HK3.out; unfold takeP; rw [if_neg (by omega), if_pos HK3.out])
                have HRP2 : Hid (runP (ls.take (k + 1)) = (fs ++ [x], psA.set j (takeP p x vs))) := Lib.hid (by
                  rw [HRN.out, HRP.out, stp_msg HM3.out (p := p) (by rw [HPSA.out, HAP.out.2.2]; exact HP1.out), HPSA.out, HAP.out.2.2, HAP.out.2.1])
                have HAK2 : Hid ((q && alks (fs ++ [x], psA.set j (takeP p x vs)) (ls.drop (k + 1))) = alks ([], []) ls) := Lib.hid (by
                  rw [← HAK.out, HTL.out]
                  show _ = (q && (alk (fs, ps) (x, vs) && alks (stp (fs, ps) (x, vs)) (ls.drop (k + 1))))
                  rw [stp_msg HM3.out (p := p) (by rw [HPSA.out, HAP.out.2.2]; exact HP1.out), HPSA.out, HAP.out.2.2, HAP.out.2.1, show alk (fs, ps) (x, vs) = true from by unfold alk; rw [if_neg (fun h => by have h1 := h.2; have h2 := HK3.out; simp only at h1; omega)]]
                  rfl)
                go_upto_region 34 with (fail)
                refine wp_region_any (by kernel_rfl) ?_
                change wpAny _ _ _ _ _ _ _ (World.drew _)
                refine wpAny_take (i := 0) (v := .slice (some ⟨b8, 0, none⟩) N' d8) rfl (by kernel_rfl) (by kernel_rfl) (by kernel_rfl) (fun _ _ _ h => h) (Or.inl ⟨by rfl, fun w => by go_simp⟩) ?_
                try simp only [Act.put, List.getElem_toArray, List.getElem_cons_succ, List.getElem_cons_zero, List.setIfInBounds_toArray, List.set_cons_zero, List.set_cons_succ]
                refine wpAny_take (i := 1) (v := .int .i64 (j : Int)) rfl (by kernel_rfl) (by kernel_rfl) (by kernel_rfl) (fun _ _ _ h => h) (Or.inl ⟨by rfl, fun w => by go_simp⟩) ?_
                try simp only [Act.put, List.getElem_toArray, List.getElem_cons_succ, List.getElem_cons_zero, List.setIfInBounds_toArray, List.set_cons_zero, List.set_cons_succ]
                refine wpAny_take (i := 2) (v := .slice (some ⟨b8, 0, none⟩) N' d8) rfl (by kernel_rfl) (by kernel_rfl) (by kernel_rfl) (fun _ _ _ h => h) (Or.inl ⟨by rfl, fun w => by go_simp⟩) ?_
                try simp only [Act.put, List.getElem_toArray, List.getElem_cons_succ, List.getElem_cons_zero, List.setIfInBounds_toArray, List.set_cons_zero, List.set_cons_succ]
                refine wpAny_take (i := 3) (v := .int .i64 (j : Int)) rfl (by kernel_rfl) (by kernel_rfl) (by kernel_rfl) (fun _ _ _ h => h) (Or.inl ⟨by rfl, fun w => by go_simp⟩) ?_
                try simp only [Act.put, List.getElem_toArray, List.getElem_cons_succ, List.getElem_cons_zero, List.setIfInBounds_toArray, List.set_cons_zero, List.set_cons_succ]
                refine wpAny_take (i := 4) (v := .pointer (some ⟨b8, j, none⟩)) rfl (by kernel_rfl) (by kernel_rfl) (by kernel_rfl) (fun _ _ _ h => h) (Or.inl ⟨by rfl, fun w => by go_simp⟩) ?_
                try simp only [Act.put, List.getElem_toArray, List.getElem_cons_succ, List.getElem_cons_zero, List.setIfInBounds_toArray, List.set_cons_zero, List.set_cons_succ]
                refine wpAny_take (i := 6) (v := .pointer (some ⟨gx, 1, none⟩)) rfl (by kernel_rfl) (by kernel_rfl) (by kernel_rfl) (fun _ _ _ h => h) (Or.inl ⟨by rfl, fun w => by go_simp⟩) ?_
                try simp only [Act.put, List.getElem_toArray, List.getElem_cons_succ, List.getElem_cons_zero, List.setIfInBounds_toArray, List.set_cons_zero, List.set_cons_succ]
                refine wpAny_ready (rs := [5, 7]) (by kernel_rfl) (by simp) ?_
                refine AllReady.cons rfl (fun KK hK => ?_) (AllReady.cons rfl (fun KK hK => ?_) AllReady.nil)
                · go_simp
                  refine hK _ _ ?_
                  clear hK KK
                  try simp only [Act.put, List.getElem_toArray, List.getElem_cons_succ, List.getElem_cons_zero, List.setIfInBounds_toArray, List.set_cons_zero, List.set_cons_succ]
                  refine wpAny_ready (rs := [7]) (by kernel_rfl) (by simp) ?_
                  refine AllReady.cons rfl (fun KK hK => ?_) AllReady.nil
                  go_simp
                  refine hK _ _ ?_
                  clear hK KK
                  try simp only [Act.put, List.getElem_toArray, List.getElem_cons_succ, List.getElem_cons_zero, List.setIfInBounds_toArray, List.set_cons_zero, List.set_cons_succ]
                  refine wpAny_ready (rs := [8]) (by kernel_rfl) (by simp) ?_
                  refine AllReady.cons rfl (fun KK hK => ?_) AllReady.nil
                  go_simp
                  refine HWI.out.mono ?_
                  rintro e' w8 ⟨A', c', rfl, ho', hb'⟩
                  have HO8 := Lib.hid ho'
                  have HB8 : Hid (Below X4.heap.size X4 w8) := Lib.hid ((bel_drew X4).trans hb')
                  clear ho' hb'
                  refine hK _ _ ?_
                  clear hK KK
                  try simp only [Act.put, List.getElem_toArray, List.getElem_cons_succ, List.getElem_cons_zero, List.setIfInBounds_toArray, List.set_cons_zero, List.set_cons_succ]
                  have y1 : w8.cell? ⟨b8, j, none⟩ = some (.slice sA p.ms.length sc) := (HCW.out w8 HB8.out).1
                  have y2 : w8.frozen? ⟨b8, j, none⟩ = false := (HCW.out w8 HB8.out).2
                  refine wpAny_take (i := 9) (v := .pointer (some ⟨b8, j, none⟩)) rfl (by kernel_rfl) (by kernel_rfl) (by kernel_rfl) (fun _ _ _ h => h) (Or.inl ⟨by rfl, fun w => by go_simp⟩) ?_
                  try simp only [Act.put, List.getElem_toArray, List.getElem_cons_succ, List.getElem_cons_zero, List.setIfInBounds_toArray, List.set_cons_zero, List.set_cons_succ]
                  refine wpAny_ready (rs := [10]) (by kernel_rfl) (by simp) ?_
                  refine AllReady.cons rfl (fun KK hK => ?_) AllReady.nil
                  go_simp
                  refine hK _ _ ?_
                  clear hK KK
                  try simp only [Act.put, List.getElem_toArray, List.getElem_cons_succ, List.getElem_cons_zero, List.setIfInBounds_toArray, List.set_cons_zero, List.set_cons_succ]
                  refine wpAny_done (by kernel_rfl) ?_ _
                  have HLE := Lib.hid (HLQ.out.setM (v := .slice A' (ins p.ms x.m).length c') (q := takeP p x vs) HP1.out HB8.out (by rw [HTP.out]; exact HO8.out) (by rw [HTP.out]) (by rw [HTP.out]) (by rw [HTP.out]) (by rw [HTP.out]))
                  have HBE : Hid (Below w.heap.size w (w8.setCell ⟨b8, j, none⟩ (.slice A' (ins p.ms x.m).length c'))) := Lib.hid ((HBQ.out.trans (HB8.out.mono HBX.out)).setCell ((HLQ.out.rows.own 3 _ rfl).lt b8 rfl).1 _)
                  clear y1 y2 k3 g1 HO8 HB8 HWI HCW HVO
                  generalize w8.setCell ⟨b8, j, none⟩ (.slice A' (ins p.ms x.m).length c') = w9 at HLE HBE ⊢
                  go_wp2
                  go_roundw
                  case rel => exact ⟨k + 1, by omega, N', fs ++ [x], psA.set j (takeP p x vs), _, _, _, _, D5, d5, D6, d6, D7, d7, some ⟨b8, 0, none⟩, d8, D9, d9, q, by go_num, rfl, rfl, rfl, rfl, rfl, rfl, HLE, HRP2, HAK2, HBD2, HBE.out⟩
                  case measure => simp [intOf]; omega
                · go_simp
                  refine hK _ _ ?_
                  clear hK KK
                  try simp only [Act.put, List.getElem_toArray, List.getElem_cons_succ, List.getElem_cons_zero, List.setIfInBounds_toArray, List.set_cons_zero, List.set_cons_succ]
                  refine wpAny_ready (rs := [5]) (by kernel_rfl) (by simp) ?_
                  refine AllReady.cons rfl (fun KK hK => ?_) AllReady.nil
                  go_simp
                  refine hK _ _ ?_
                  clear hK KK
                  try simp only [Act.put, List.getElem_toArray, List.getElem_cons_succ, List.getElem_cons_zero, List.setIfInBounds_toArray, List.set_cons_zero, List.set_cons_succ]
                  refine wpAny_ready (rs := [8]) (by kernel_rfl) (by simp) ?_
                  refine AllReady.cons rfl (fun KK hK => ?_) AllReady.nil
                  go_simp
                  refine HWI.out.mono ?_
                  rintro e' w8 ⟨A', c', rfl, ho', hb'⟩
                  have HO8 := Lib.hid ho'
                  have HB8 : Hid (Below X4.heap.size X4 w8) := Lib.hid ((bel_drew X4).trans hb')
                  clear ho' hb'
                  refine hK _ _ ?_
                  clear hK KK
                  try simp only [Act.put, List.getElem_toArray, List.getElem_cons_succ, List.getElem_cons_zero, List.setIfInBounds_toArray, List.set_cons_zero, List.set_cons_succ]
                  have y1 : w8.cell? ⟨b8, j, none⟩ = some (.slice sA p.ms.length sc) := (HCW.out w8 HB8.out).1
                  have y2 : w8.frozen? ⟨b8, j, none⟩ = false := (HCW.out w8 HB8.out).2
                  refine wpAny_take (i := 9) (v := .pointer (some ⟨b8, j, none⟩)) rfl (by kernel_rfl) (by kernel_rfl) (by kernel_rfl) (fun _ _ _ h => h) (Or.inl ⟨by rfl, fun w => by go_simp⟩) ?_
                  try simp only [Act.put, List.getElem_toArray, List.getElem_cons_succ, List.getElem_cons_zero, List.setIfInBounds_toArray, List.set_cons_zero, List.set_cons_succ]
                  refine wpAny_ready (rs := [10]) (by kernel_rfl) (by simp) ?_
                  refine AllReady.cons rfl (fun KK hK => ?_) AllReady.nil
                  go_simp
                  refine hK _ _ ?_
                  clear hK KK
                  try simp only [Act.put, List.getElem_toArray, List.getElem_cons_succ, List.getElem_cons_zero, List.setIfInBounds_toArray, List.set_cons_zero, List.set_cons_succ]
                  refine wpAny_done (by kernel_rfl) ?_ _
                  have HLE := Lib.hid (HLQ.out.setM (v := .slice A' (ins p.ms x.m).length c') (q := takeP p x vs) HP1.out HB8.out (by rw [HTP.out]; exact HO8.out) (by rw [HTP.out]) (by rw [HTP.out]) (by rw [HTP.out]) (by rw [HTP.out]))
                  have HBE : Hid (Below w.heap.size w (w8.setCell ⟨b8, j, none⟩ (.slice A' (ins p.ms x.m).length c'))) := Lib.hid ((HBQ.out.trans (HB8.out.mono HBX.out)).setCell ((HLQ.out.rows.own 3 _ rfl).lt b8 rfl).1 _)
                  clear y1 y2 k3 g1 HO8 HB8 HWI HCW HVO
                  generalize w8.setCell ⟨b8, j, none⟩ (.slice A' (ins p.ms x.m).length c') = w9 at HLE HBE ⊢
                  go_wp2
                  go_roundw
                  case rel => exact ⟨k + 1, by omega, N', fs ++ [x], psA.set j (takeP p x vs), _, _, _, _, D5, d5, D6, d6, D7, d7, some ⟨b8, 0, none⟩, d8, D9, d9, q, by go_num, rfl, rfl, rfl, rfl, rfl, rfl, HLE, HRP2, HAK2, HBD2, HBE.out⟩
                  case measure => simp [intOf]; omega
            · have hjj0 : ¬ ((jj : Int) < 0) := by omega
              rw [m1]
              have HAP : Hid (addP fs ps x = ps ∧ nw fs x = fs ∧ (wn fs x).toNat = jj) := Lib.hid (by
                have hj : ¬ ((jj : Int) = -1) := by omega
                have hb : ¬ bg fs x = true := by unfold bg; rw [m1]; simp [hj]
                refine ⟨by unfold addP; rw [if_neg hb], by unfold nw; rw [m1, if_neg hj], ?_⟩
                unfold wn
                rw [m1, if_neg hj, Int.toNat_natCast])
              have HBQ : Hid (Below w.heap.size w wr) := Lib.hid (HB5.out.trans (HBJ.out.mono HB5.out.size))
              have HLQ := Lib.hid HLWJ.out
              clear HS0 HQ0 m1 m3
              go_upto_region 25 with (fail)
              clear f0 f1 f2 f3 f4 f5 f6 f7
              rw [← HAP.out.1] at HLQ
              obtain ⟨psA, HPSA⟩ : ∃ l, Hid (addP fs ps x = l) := ⟨_, Lib.hid rfl⟩
              obtain ⟨p, hp1, hp2, _⟩ := add_at HINV.out x
              rw [HPSA.out] at HLQ hp1
              rw [HAP.out.2.2] at hp1
              have HP1 := Lib.hid hp1
              have HPZ : Hid (p.ss.length ≤ 100000 ∧ p.ts.length ≤ 100000 ∧ p.ms.length ≤ 100000) := Lib.hid (by omega)
              have HPK : Hid (PwOk p) := Lib.hid (by
                have h := run_ok (ls.take k)
                rw [HRP.out] at h
                have h2 := addP_ok (fs := fs) (e := x) h
                rw [HPSA.out] at h2
                exact h2 p (List.mem_of_getElem? HP1.out))
              have hjN : jj < j := by have := HLWJ.out.len.1; omega
              have hjNi : (jj : Int) < (j : Int) := by omega
              have hj0 : (0 : Int) ≤ (jj : Int) := by omega
              have HBX : Hid (w.heap.size ≤ wr.heap.size) := Lib.hid HBQ.out.size
              have g2 : wr.cell? ⟨gx, 2, none⟩ = some (.int .i64 x.k) := HOJ.out.cell 2
              have g1 : wr.cell? ⟨gx, 1, none⟩ = some (.int .i64 x.m) := HOJ.out.cell 1
              clear hp1 hp2
              rcases HMK.out with hk1 | hk2 | hk3
              · rw [hk1] at g2
                have HK1 := Lib.hid hk1
                clear hk1
                obtain ⟨b6, hb6⟩ := row_someN (HLQ.out.rows.own 1 _ rfl) (show 0 < j by omega)
                subst hb6
                obtain ⟨v, hv⟩ : ∃ v, sv[jj]? = some v := ⟨_, List.getElem?_eq_getElem (by have h1 := HLQ.out.ss.1; have h2 := HLQ.out.len.2; simp only [List.length_map] at h1; omega)⟩
                have hvo := HLQ.out.ss.2 jj v p.ss hv (by rw [List.getElem?_map, HP1.out]; rfl)
                obtain ⟨sA, sc, hvs⟩ := row_sl hvo
                subst hvs
                have HVO := Lib.hid hvo
                have HCW : Hid (∀ W, Below wr.heap.size wr W → W.cell? ⟨b6, jj, none⟩ = some (.slice sA p.ss.length sc) ∧ W.frozen? ⟨b6, jj, none⟩ = false) := Lib.hid (fun W hW => row_cellN (own_kept (HLQ.out.rows.own 1 _ rfl) hW) (by exact hv))
                have HWI := Lib.hid (with_any w.heap.size sA sc p.ss x.m wr.drew (own_kept HVO.out (bel_drew wr)) HPK.out.1 HBX.out HPZ.out.1)
                have k3 : wr.cell? ⟨b6, jj, none⟩ = some (.slice sA p.ss.length sc) := (HCW.out wr (Below.refl _ _)).1
                clear hv hvo
                have HTP : Hid (takeP p x vs = { p with ss := ins p.ss x.m }) := Lib.hid (by unfold takeP; rw [if_pos HK1.out])
                have HRP2 : Hid (runP (ls.take (k + 1)) = (fs, psA.set jj (takeP p x vs))) := Lib.hid (by
                  rw [HRN.out, HRP.out, stp_msg HM3.out (p := p) (by rw [HPSA.out, HAP.out.2.2]; exact HP1.out), HPSA.out, HAP.out.2.2, HAP.out.2.1])
                have HAK2 : Hid ((q && alks (fs, psA.set jj (takeP p x vs)) (ls.drop (k + 1))) = alks ([], []) ls) := Lib.hid (by
                  rw [← HAK.out, HTL.out]
                  show _ = (q && (alk (fs, ps) (x, vs) && alks (stp (fs, ps) (x, vs)) (ls.drop (k + 1))))
                  rw [stp_msg HM3.out (p := p) (by rw [HPSA.out, HAP.out.2.2]; exact HP1.out), HPSA.out, HAP.out.2.2, HAP.out.2.1, show alk (fs, ps) (x, vs) = true from by unfold alk; rw [if_neg (fun h => by have h1 := h.2; have h2 := HK1.out; simp only at h1; omega)]]
                  rfl)
                go_upto_region 27 with (fail)
                refine wp_region_any (by kernel_rfl) ?_
                change wpAny _ _ _ _ _ _ _ (World.drew _)
                refine wpAny_take (i := 0) (v := .slice (some ⟨b6, 0, none⟩) j c6) rfl (by kernel_rfl) (by kernel_rfl) (by kernel_rfl) (fun _ _ _ h => h) (Or.inl ⟨by rfl, fun w => by go_simp⟩) ?_
                try simp only [Act.put, List.getElem_toArray, List.getElem_cons_succ, List.getElem_cons_zero, List.setIfInBounds_toArray, List.set_cons_zero, List.set_cons_succ]
                refine wpAny_take (i := 1) (v := .int .i64 (jj : Int)) rfl (by kernel_rfl) (by kernel_rfl) (by kernel_rfl) (fun _ _ _ h => h) (Or.inl ⟨by rfl, fun w => by go_simp⟩) ?_
                try simp only [Act.put, List.getElem_toArray, List.getElem_cons_succ, List.getElem_cons_zero, List.setIfInBounds_toArray, List.set_cons_zero, List.set_cons_succ]
                refine wpAny_take (i := 2) (v := .slice (some ⟨b6, 0, none⟩) j c6) rfl (by kernel_rfl) (by kernel_rfl) (by kernel_rfl) (fun _ _ _ h => h) (Or.inl ⟨by rfl, fun w => by go_simp⟩) ?_
                try simp only [Act.put, List.getElem_toArray, List.getElem_cons_succ, List.getElem_cons_zero, List.setIfInBounds_toArray, List.set_cons_zero, List.set_cons_succ]
                refine wpAny_take (i := 3) (v := .int .i64 (jj : Int)) rfl (by kernel_rfl) (by kernel_rfl) (by kernel_rfl) (fun _ _ _ h => h) (Or.inl ⟨by rfl, fun w => by go_simp⟩) ?_
                try simp only [Act.put, List.getElem_toArray, List.getElem_cons_succ, List.getElem_cons_zero, List.setIfInBounds_toArray, List.set_cons_zero, List.set_cons_succ]
                refine wpAny_take (i := 4) (v := .pointer (some ⟨b6, jj, none⟩)) rfl (by kernel_rfl) (by kernel_rfl) (by kernel_rfl) (fun _ _ _ h => h) (Or.inl ⟨by rfl, fun w => by go_simp⟩) ?_
                try simp only [Act.put, List.getElem_toArray, List.getElem_cons_succ, List.getElem_cons_zero, List.setIfInBounds_toArray, List.set_cons_zero, List.set_cons_succ]
                refine wpAny_take (i := 6) (v := .pointer (some ⟨gx, 1, none⟩)) rfl (by kernel_rfl) (by kernel_rfl) (by kernel_rfl) (fun _ _ _ h => h) (Or.inl ⟨by rfl, fun w => by go_simp⟩) ?_
                try simp only [Act.put, List.getElem_toArray, List.getElem_cons_succ, List.getElem_cons_zero, List.setIfInBounds_toArray, List.set_cons_zero, List.set_cons_succ]
                refine wpAny_ready (rs := [5, 7]) (by kernel_rfl) (by simp) ?_
                refine AllReady.cons rfl (fun KK hK => ?_) (AllReady.cons rfl (fun KK hK => ?_) AllReady.nil)
                · go_simp
                  refine hK _ _ ?_
                  clear hK KK
                  try simp only [Act.put, List.getElem_toArray, List.getElem_cons_succ, List.getElem_cons_zero, List.setIfInBounds_toArray, List.set_cons_zero, List.set_cons_succ]
                  refine wpAny_ready (rs := [7]) (by kernel_rfl) (by simp) ?_
                  refine AllReady.cons rfl (fun KK hK => ?_) AllReady.nil
                  go_simp
                  refine hK _ _ ?_
                  clear hK KK
                  try simp only [Act.put, List.getElem_toArray, List.getElem_cons_succ, List.getElem_cons_zero, List.setIfInBounds_toArray, List.set_cons_zero, List.set_cons_succ]
                  refine wpAny_ready (rs := [8]) (by kernel_rfl) (by simp) ?_
                  refine AllReady.cons rfl (fun KK hK => ?_) AllReady.nil
                  go_simp
                  refine HWI.out.mono ?_
                  rintro e' w8 ⟨A', c', rfl, ho', hb'⟩
                  have HO8 := Lib.hid ho'
                  have HB8 : Hid (Below wr.heap.size wr w8) := Lib.hid ((bel_drew wr).trans hb')
                  clear ho' hb'
                  refine hK _ _ ?_
                  clear hK KK
                  try simp only [Act.put, List.getElem_toArray, List.getElem_cons_succ, List.getElem_cons_zero, List.setIfInBounds_toArray, List.set_cons_zero, List.set_cons_succ]
                  have y1 : w8.cell? ⟨b6, jj, none⟩ = some (.slice sA p.ss.length sc) := (HCW.out w8 HB8.out).1
                  have y2 : w8.frozen? ⟨b6, jj, none⟩ = false := (HCW.out w8 HB8.out).2
                  refine wpAny_take (i := 9) (v := .pointer (some ⟨b6, jj, none⟩)) rfl (by kernel_rfl) (by kernel_rfl) (by kernel_rfl) (fun _ _ _ h => h) (Or.inl ⟨by rfl, fun w => by go_simp⟩) ?_
                  try simp only [Act.put, List.getElem_toArray, List.getElem_cons_succ, List.getElem_cons_zero, List.setIfInBounds_toArray, List.set_cons_zero, List.set_cons_succ]
                  refine wpAny_ready (rs := [10]) (by kernel_rfl) (by simp) ?_
                  refine AllReady.cons rfl (fun KK hK => ?_) AllReady.nil
                  go_simp
                  refine hK _ _ ?_
                  clear hK KK
                  try simp only [Act.put, List.getElem_toArray, List.getElem_cons_succ, List.getElem_cons_zero, List.setIfInBounds_toArray, List.set_cons_zero, List.set_cons_succ]
                  refine wpAny_done (by kernel_rfl) ?_ _
                  have HLE := Lib.hid (HLQ.out.setS (v := .slice A' (ins p.ss x.m).length c') (q := takeP p x vs) HP1.out HB8.out (by rw [HTP.out]; exact HO8.out) (by rw [HTP.out]) (by rw [HTP.out]) (by rw [HTP.out]) (by rw [HTP.out]))
                  have HBE : Hid (Below w.heap.size w (w8.setCell ⟨b6, jj, none⟩ (.slice A' (ins p.ss x.m).length c'))) := Lib.hid ((HBQ.out.trans (HB8.out.mono HBX.out)).setCell ((HLQ.out.rows.own 1 _ rfl).lt b6 rfl).1 _)
                  clear y1 y2 k3 g1 HO8 HB8 HWI HCW HVO
                  generalize w8.setCell ⟨b6, jj, none⟩ (.slice A' (ins p.ss x.m).length c') = w9 at HLE HBE ⊢
                  go_wp2
                  go_roundw
                  case rel => exact ⟨k + 1, by omega, j, fs, psA.set jj (takeP p x vs), _, _, _, _, A5, c5, some ⟨b6, 0, none⟩, c6, A7, c7, A8, c8, A9, c9, q, by go_num, rfl, rfl, rfl, rfl, rfl, rfl, HLE, HRP2, HAK2, HBD2, HBE.out⟩
                  case measure => simp [intOf]; omega
                · go_simp
                  refine hK _ _ ?_
                  clear hK KK
                  try simp only [Act.put, List.getElem_toArray, List.getElem_cons_succ, List.getElem_cons_zero, List.setIfInBounds_toArray, List.set_cons_zero, List.set_cons_succ]
                  refine wpAny_ready (rs := [5]) (by kernel_rfl) (by simp) ?_
                  refine AllReady.cons rfl (fun KK hK => ?_) AllReady.nil
                  go_simp
                  refine hK _ _ ?_
                  clear hK KK
                  try simp only [Act.put, List.getElem_toArray, List.getElem_cons_succ, List.getElem_cons_zero, List.setIfInBounds_toArray, List.set_cons_zero, List.set_cons_succ]
                  refine wpAny_ready (rs := [8]) (by kernel_rfl) (by simp) ?_
                  refine AllReady.cons rfl (fun KK hK => ?_) AllReady.nil
                  go_simp
                  refine HWI.out.mono ?_
                  rintro e' w8 ⟨A', c', rfl, ho', hb'⟩
                  have HO8 := Lib.hid ho'
                  have HB8 : Hid (Below wr.heap.size wr w8) := Lib.hid ((bel_drew wr).trans hb')
                  clear ho' hb'
                  refine hK _ _ ?_
                  clear hK KK
                  try simp only [Act.put, List.getElem_toArray, List.getElem_cons_succ, List.getElem_cons_zero, List.setIfInBounds_toArray, List.set_cons_zero, List.set_cons_succ]
                  have y1 : w8.cell? ⟨b6, jj, none⟩ = some (.slice sA p.ss.length sc) := (HCW.out w8 HB8.out).1
                  have y2 : w8.frozen? ⟨b6, jj, none⟩ = false := (HCW.out w8 HB8.out).2
                  refine wpAny_take (i := 9) (v := .pointer (some ⟨b6, jj, none⟩)) rfl (by kernel_rfl) (by kernel_rfl) (by kernel_rfl) (fun _ _ _ h => h) (Or.inl ⟨by rfl, fun w => by go_simp⟩) ?_
                  try simp only [Act.put, List.getElem_toArray, List.getElem_cons_succ, List.getElem_cons_zero, List.setIfInBounds_toArray, List.set_cons_zero, List.set_cons_succ]
                  refine wpAny_ready (rs := [10]) (by kernel_rfl) (by simp) ?_
                  refine AllReady.cons rfl (fun KK hK => ?_) AllReady.nil
                  go_simp
                  refine hK _ _ ?_
                  clear hK KK
                  try simp only [Act.put, List.getElem_toArray, List.getElem_cons_succ, List.getElem_cons_zero, List.setIfInBounds_toArray, List.set_cons_zero, List.set_cons_succ]
                  refine wpAny_done (by kernel_rfl) ?_ _
                  have HLE := Lib.hid (HLQ.out.setS (v := .slice A' (ins p.ss x.m).length c') (q := takeP p x vs) HP1.out HB8.out (by rw [HTP.out]; exact HO8.out) (by rw [HTP.out]) (by rw [HTP.out]) (by rw [HTP.out]) (by rw [HTP.out]))
                  have HBE : Hid (Below w.heap.size w (w8.setCell ⟨b6, jj, none⟩ (.slice A' (ins p.ss x.m).length c'))) := Lib.hid ((HBQ.out.trans (HB8.out.mono HBX.out)).setCell ((HLQ.out.rows.own 1 _ rfl).lt b6 rfl).1 _)
                  clear y1 y2 k3 g1 HO8 HB8 HWI HCW HVO
                  generalize w8.setCell ⟨b6, jj, none⟩ (.slice A' (ins p.ss x.m).length c') = w9 at HLE HBE ⊢
                  go_wp2
                  go_roundw
                  case rel => exact ⟨k + 1, by omega, j, fs, psA.set jj (takeP p x vs), _, _, _, _, A5, c5, some ⟨b6, 0, none⟩, c6, A7, c7, A8, c8, A9, c9, q, by go_num, rfl, rfl, rfl, rfl, rfl, rfl, HLE, HRP2, HAK2, HBD2, HBE.out⟩
                  case measure => simp [intOf]; omega
              · rw [hk2] at g2
                have HK2 := Lib.hid hk2
                clear hk2
                have HNG : Hid ((Value.slice A9 j c9).ownBlock ≠ some gx) := Lib.hid (HNR.out 4 _ rfl)
                have HWS : Hid (∀ p ∈ psA, ∀ y ∈ p.ws, y < 256) := Lib.hid (by
                  have h := run_ws (ls.take k) (fun a ha => (HI.out a (List.mem_of_mem_take ha)).2.2.2.1)
                  rw [HRP.out] at h
                  have h2 := addP_ws (fs := fs) (e := x) h
                  rw [HPSA.out] at h2
                  exact h2)
                obtain ⟨b7, hb7⟩ := row_someN (HLQ.out.rows.own 2 _ rfl) (show 0 < j by omega)
                subst hb7
                obtain ⟨b9, hb9⟩ := row_someN (HLQ.out.rows.own 4 _ rfl) (show 0 < j by omega)
                subst hb9
                obtain ⟨v, hv⟩ : ∃ v, (tv)[jj]? = some v := ⟨_, List.getElem?_eq_getElem (by have h1 := HLQ.out.ts.1; have h2 := HLQ.out.len.2; simp only [List.length_map] at h1; omega)⟩
                have hvo := HLQ.out.ts.2 jj v p.ts hv (by rw [List.getElem?_map, HP1.out]; rfl)
                obtain ⟨sA, sc, hvs⟩ := row_sl hvo
                subst hvs
                have HVV := Lib.hid hv
                have k7 : wr.cell? ⟨b7, jj, none⟩ = some (.slice sA p.ts.length sc) := (row_cellN (HLQ.out.rows.own 2 _ rfl) hv).1
                obtain ⟨tn, HTN⟩ : ∃ tn, Hid (p.ts.length = tn) := ⟨_, Lib.hid rfl⟩
                rw [HTN.out] at k7
                have HWB : Hid (∀ y ∈ (pB p x vs).ws, y < 256) := Lib.hid (by
                  unfold pB
                  split
                  · exact HXI.out.2.2.2.1
                  · exact HWS.out _ (List.mem_of_getElem? HP1.out))
                clear hv hvo
                obtain ⟨Q3, HQ3⟩ : ∃ q3, Hid ((q && (decide (x.c = (pB p x vs).c) && decide (vs = (pB p x vs).ws))) = q3) := ⟨_, Lib.hid rfl⟩
                have HRP2 : Hid (runP (ls.take (k + 1)) = (fs, psA.set jj (takeP p x vs))) := Lib.hid (by
                  rw [HRN.out, HRP.out, stp_msg HM3.out (p := p) (by rw [HPSA.out, HAP.out.2.2]; exact HP1.out), HPSA.out, HAP.out.2.2, HAP.out.2.1])
                have HAK2 : Hid ((Q3 && alks (fs, psA.set jj (takeP p x vs)) (ls.drop (k + 1))) = alks ([], []) ls) := Lib.hid (by
                  rw [← HAK.out, HTL.out]
                  show _ = (q && (alk (fs, ps) (x, vs) && alks (stp (fs, ps) (x, vs)) (ls.drop (k + 1))))
                  rw [stp_msg HM3.out (p := p) (by rw [HPSA.out, HAP.out.2.2]; exact HP1.out), HPSA.out, HAP.out.2.2, HAP.out.2.1, alk_two HM3.out HK2.out (p := p) (by rw [HPSA.out, HAP.out.2.2]; exact HP1.out), ← HQ3.out, Bool.and_assoc])
                have HX40 : Hid (x.n ≤ 40) := Lib.hid ((HBD2.out (x, vs) (by rw [HTK.out]; simp)).2)
                have HSZE : Hid ((Tryd.prog.info? TE).map (·.size) = some (#[.int .i64 x.t, .int .i64 x.m, .int .i64 x.k, .int .i64 x.s, .int .i64 x.v, .int .i64 x.si, .int .i64 x.c, .slice x.A x.n x.d] : Array Value).size) := Lib.hid (by kernel_rfl)
                have HONE : Hid ((#[.int .i64 x.t, .int .i64 x.m, .int .i64 x.k, .int .i64 x.s, .int .i64 x.v, .int .i64 x.si, .int .i64 x.c, .slice x.A x.n x.d] : Array Value).all (·.oneCell') = true) := Lib.hid (by simp [Value.oneCell'])
                have HOX : Hid (Obj1 wr gx TE #[.int .i64 x.t, .int .i64 x.m, .int .i64 x.k, .int .i64 x.s, .int .i64 x.v, .int .i64 x.si, .int .i64 x.c, .slice x.A x.n x.d]) := Lib.hid HOJ.out
                have HTJ : Hid (jj * 8 < 9223372036854775807) := Lib.hid (by have := HN60.out; omega)
                go_upto_if 115 with (fail)
                obtain ⟨t0, ht0⟩ : ∃ t0, ((tn : Int) == 0) = t0 := ⟨_, rfl⟩
                rw [ht0]
                have HT0 := Lib.hid ht0
                clear ht0 k7
                go_cut [10] from 116 to 119 (fun v wx => v = .bool q ∧ ∃ bs2 ps2, Hid (LW w wx w.heap.size j (.slice A5 j c5) (.slice A6 j c6) (.slice (some ⟨b7, 0, none⟩) j c7) (.slice A8 j c8) (.slice (some ⟨b9, 0, none⟩) j c9) (fs) (sv) (tv) (mv) bs2 ps2) ∧ Hid (ps2[jj]? = some (pB p x vs)) ∧ Hid (ps2.set jj (takeP p x vs) = psA.set jj (takeP p x vs)) ∧ Hid (Obj1 wx gx TE #[.int .i64 x.t, .int .i64 x.m, .int .i64 x.k, .int .i64 x.s, .int .i64 x.v, .int .i64 x.si, .int .i64 x.c, .slice x.A x.n x.d]) ∧ Hid (Below w.heap.size w wx))
                case first =>
                  clear g1 g2
                  cases t0 with
                  | true =>
                    have HTZ : Hid (p.ts = []) := Lib.hid (List.length_eq_zero_iff.1 (by rw [HTN.out]; have h := HT0.out; simp at h; exact h))
                    have HPB : Hid (pB p x vs = { p with c := x.c, ws := vs }) := Lib.hid (by unfold pB; rw [if_pos HTZ.out])
                    have HTH : Hid (wr.there b9 (jj * 8) (#[.int .i64 x.t, .int .i64 x.m, .int .i64 x.k, .int .i64 x.s, .int .i64 x.v, .int .i64 x.si, .int .i64 x.c, .slice x.A x.n x.d] : Array Value).size) := Lib.hid (row_there (HLQ.out.rows.own 4 _ rfl) (by have h1 := HLQ.out.best.1; omega))
                    have HL2 : Hid (LW w (wr.setCells b9 (jj * 8) (#[.int .i64 x.t, .int .i64 x.m, .int .i64 x.k, .int .i64 x.s, .int .i64 x.v, .int .i64 x.si, .int .i64 x.c, .slice x.A x.n x.d] : Array Value).toList) w.heap.size j (.slice A5 j c5) (.slice A6 j c6) (.slice (some ⟨b7, 0, none⟩) j c7) (.slice A8 j c8) (.slice (some ⟨b9, 0, none⟩) j c9) (fs) (sv) (tv) (mv) ((bs).set jj x) (psA.set jj (pB p x vs))) := Lib.hid (by rw [HPB.out]; exact HLQ.out.setB HP1.out HXI.out.2.2.1 HX40.out)
                    have HWR := Lib.hid (row_sets (#[.int .i64 x.t, .int .i64 x.m, .int .i64 x.k, .int .i64 x.s, .int .i64 x.v, .int .i64 x.si, .int .i64 x.c, .slice x.A x.n x.d] : Array Value).toList (jj * 8) wr _ (HLQ.out.rows.own 4 _ rfl)).2
                    have HGN : Hid (gx ≠ b9) := Lib.hid (fun e => HNG.out (by rw [e]; rfl))
                    have HO2 : Hid (Obj1 (wr.setCells b9 (jj * 8) (#[.int .i64 x.t, .int .i64 x.m, .int .i64 x.k, .int .i64 x.s, .int .i64 x.v, .int .i64 x.si, .int .i64 x.c, .slice x.A x.n x.d] : Array Value).toList) gx TE #[.int .i64 x.t, .int .i64 x.m, .int .i64 x.k, .int .i64 x.s, .int .i64 x.v, .int .i64 x.si, .int .i64 x.c, .slice x.A x.n x.d]) := Lib.hid (HOX.out.touch HWR.out HGN.out)
                    have HB2 : Hid (Below w.heap.size w (wr.setCells b9 (jj * 8) (#[.int .i64 x.t, .int .i64 x.m, .int .i64 x.k, .int .i64 x.s, .int .i64 x.v, .int .i64 x.si, .int .i64 x.c, .slice x.A x.n x.d] : Array Value).toList)) := Lib.hid (HBQ.out.trans (HWR.out.below ((HLQ.out.rows.own 4 _ rfl).lt b9 rfl).1 HBX.out))
                    have HP2 : Hid ((psA.set jj (pB p x vs))[jj]? = some (pB p x vs)) := Lib.hid (by rw [List.getElem?_set, if_pos rfl, if_pos (List.getElem?_eq_some_iff.1 HP1.out).1])
                    have HS2 : Hid ((psA.set jj (pB p x vs)).set jj (takeP p x vs) = psA.set jj (takeP p x vs)) := Lib.hid (by rw [List.set_set])
                    have f0 : wr.cell? ⟨gx, 0, none⟩ = some (.int .i64 x.t) := HOX.out.cell 0
                    have f1 : wr.cell? ⟨gx, 1, none⟩ = some (.int .i64 x.m) := HOX.out.cell 1
                    have f2 : wr.cell? ⟨gx, 2, none⟩ = some (.int .i64 x.k) := HOX.out.cell 2
                    have f3 : wr.cell? ⟨gx, 3, none⟩ = some (.int .i64 x.s) := HOX.out.cell 3
                    have f4 : wr.cell? ⟨gx, 4, none⟩ = some (.int .i64 x.v) := HOX.out.cell 4
                    have f5 : wr.cell? ⟨gx, 5, none⟩ = some (.int .i64 x.si) := HOX.out.cell 5
                    have f6 : wr.cell? ⟨gx, 6, none⟩ = some (.int .i64 x.c) := HOX.out.cell 6
                    have f7 : wr.cell? ⟨gx, 7, none⟩ = some (.slice x.A x.n x.d) := HOX.out.cell 7
                    go_wp2_with ((with_reducible show wpList _ _ _ (Oper.mk none _ _ _ _ _ :: _) _ _); go_must (refine wpList_store_mid rfl TE _ _ rfl b9 (jj * 8) #[.int .i64 x.t, .int .i64 x.m, .int .i64 x.k, .int .i64 x.s, .int .i64 x.v, .int .i64 x.si, .int .i64 x.c, .slice x.A x.n x.d] rfl rfl HTH.out HSZE.out HONE.out ?_))
                    go_meet
                    exact ⟨rfl, _, _, HL2, HP2, HS2, HO2, HB2⟩
                  | false =>
                    have HTP1 : Hid (¬ p.ts = []) := Lib.hid (fun e => by have h := HTN.out; rw [e] at h; have h2 := HT0.out; rw [← h] at h2; simp at h2)
                    have HPB : Hid (pB p x vs = p) := Lib.hid (by unfold pB; rw [if_neg HTP1.out])
                    have HP2 : Hid (psA[jj]? = some (pB p x vs)) := Lib.hid (by rw [HPB.out]; exact HP1.out)
                    go_wp2
                    go_meet
                    exact ⟨rfl, _, _, Lib.hid HLQ.out, HP2, Lib.hid rfl, Lib.hid HOX.out, Lib.hid HBQ.out⟩
                case rest =>
                  obtain ⟨rfl, bs2, ps2, HL2, HP2, HS2, HO2, HB2⟩ := hcut
                  clear g1 g2
                  generalize wc = W2 at HL2 HO2 HB2 ⊢
                  obtain ⟨bb, hbb⟩ : ∃ b, bs2[jj]? = some b := ⟨_, List.getElem?_eq_getElem (by have h1 := HL2.out.best.1; have h2 := HL2.out.len; omega)⟩
                  have HBB := Lib.hid (HL2.out.best.2 jj bb _ hbb HP2.out)
                  have HCA : Hid (∀ z : Kin W2.drew, ∀ i, i < 8 → z.world.cell? ⟨b9, jj * 8 + i, none⟩ = (evL bb)[i]?) := Lib.hid (fun z i hi => fs_cell (own_kept (HL2.out.rows.own 4 _ rfl) ((bel_drew W2).trans z.below)) hbb hi)
                  have HVX : Hid (∀ y ∈ vs, y < 256) := Lib.hid HXI.out.2.2.2.1
                  have HVB : Hid (∀ y ∈ (pB p x vs).ws, y < 256) := Lib.hid HWB.out
                  obtain ⟨SX, HSX⟩ : ∃ S, Hid (strB (vs.map fun (x : Nat) => (x : Int)) = S) := ⟨_, Lib.hid rfl⟩
                  obtain ⟨SB, HSB⟩ : ∃ S, Hid (strB ((pB p x vs).ws.map fun (x : Nat) => (x : Int)) = S) := ⟨_, Lib.hid rfl⟩
                  have HSE : Hid ((SX.toList == SB.toList) = decide (vs = (pB p x vs).ws)) := Lib.hid (by rw [← HSX.out, ← HSB.out]; exact str_eqL HVX.out HVB.out)
                  have HKZ : Hid (∀ z : Kin W2.drew, Below w.heap.size w z.world) := Lib.hid (fun z => HB2.out.trans (((bel_drew W2).trans z.below).mono HB2.out.size))
                  have CX : ∀ z : Kin W2.drew, (convert 33 9 (.slice x.A x.n x.d)).run Tryd.prog z.world = .ok (.string SX) z.world := fun z => by rw [← HSX.out]; exact str_conv (HXI.out.2.2.1.kept (HKZ.out z))
                  have CB : ∀ z : Kin W2.drew, (convert 33 9 (.slice bb.A bb.n bb.d)).run Tryd.prog z.world = .ok (.string SB) z.world := fun z => by rw [← HSB.out]; exact str_conv (HBB.out.2.1.kept (HKZ.out z))
                  have z6 : ∀ z : Kin W2.drew, z.world.cell? ⟨b9, jj * 8 + 6, none⟩ = some (.int .i64 bb.c) := fun z => HCA.out z 6 (by omega)
                  have z7 : ∀ z : Kin W2.drew, z.world.cell? ⟨b9, jj * 8 + 7, none⟩ = some (.slice bb.A bb.n bb.d) := fun z => HCA.out z 7 (by omega)
                  have y6 : ∀ z : Kin W2.drew, z.world.cell? ⟨gx, 6, none⟩ = some (.int .i64 x.c) := fun z => Kin.at (w := W2.drew) (HO2.out.cell 6) z
                  have y7 : ∀ z : Kin W2.drew, z.world.cell? ⟨gx, 7, none⟩ = some (.slice x.A x.n x.d) := fun z => Kin.at (w := W2.drew) (HO2.out.cell 7) z
                  have HBC : Hid (bb.c = (pB p x vs).c) := Lib.hid HBB.out.1
                  clear hbb
                  go_upto_region 31 with (fail)
                  go_cut [10] from 120 to 142 (fun v wx => v = .bool Q3 ∧ Below W2.heap.size W2 wx)
                  case first =>
                    cases q with
                    | false =>
                      have hq3 : Q3 = false := by rw [← HQ3.out]; rfl
                      subst hq3
                      refine wp_region_specL 23 [.d (.bool false), .d (.bool false), .d undef, .d undef, .d undef, .d undef, .d undef, .d undef, .d undef, .d undef, .d (.bool false), .d (.bool false), .d undef, .d undef, .d undef, .d undef, .d undef, .d undef, .d undef, .d undef, .d undef, .d undef, .d (.bool false)] (by kernel_rfl) (by kernel_rfl) ?_
                      refine spec_d rfl (fun x _ => gives_run (by go_simp)) ?_
                      try simp only [Act.put, List.getElem_toArray, List.getElem_cons_succ, List.getElem_cons_zero, List.setIfInBounds_toArray, List.set_cons_zero, List.set_cons_succ]
                      refine spec_d rfl (fun x _ => gives_run (by go_simp)) ?_
                      try simp only [Act.put, List.getElem_toArray, List.getElem_cons_succ, List.getElem_cons_zero, List.setIfInBounds_toArray, List.set_cons_zero, List.set_cons_succ]
                      refine spec_skip rfl ?_
                      try simp only [Act.put, List.getElem_toArray, List.getElem_cons_succ, List.getElem_cons_zero, List.setIfInBounds_toArray, List.set_cons_zero, List.set_cons_succ]
                      refine spec_skip rfl ?_
                      try simp only [Act.put, List.getElem_toArray, List.getElem_cons_succ, List.getElem_cons_zero, List.setIfInBounds_toArray, List.set_cons_zero, List.set_cons_succ]
                      refine spec_skip rfl ?_
                      try simp only [Act.put, List.getElem_toArray, List.getElem_cons_succ, List.getElem_cons_zero, List.setIfInBounds_toArray, List.set_cons_zero, List.set_cons_succ]
                      refine spec_skip rfl ?_
                      try simp only [Act.put, List.getElem_toArray, List.getElem_cons_succ, List.getElem_cons_zero, List.setIfInBounds_toArray, List.set_cons_zero, List.set_cons_succ]
                      refine spec_skip rfl ?_
                      try simp only [Act.put, List.getElem_toArray, List.getElem_cons_succ, List.getElem_cons_zero, List.setIfInBounds_toArray, List.set_cons_zero, List.set_cons_succ]
                      refine spec_skip rfl ?_
                      try simp only [Act.put, List.getElem_toArray, List.getElem_cons_succ, List.getElem_cons_zero, List.setIfInBounds_toArray, List.set_cons_zero, List.set_cons_succ]
                      refine spec_skip rfl ?_
                      try simp only [Act.put, List.getElem_toArray, List.getElem_cons_succ, List.getElem_cons_zero, List.setIfInBounds_toArray, List.set_cons_zero, List.set_cons_succ]
                      refine spec_skip rfl ?_
                      try simp only [Act.put, List.getElem_toArray, List.getElem_cons_succ, List.getElem_cons_zero, List.setIfInBounds_toArray, List.set_cons_zero, List.set_cons_succ]
                      refine spec_d rfl (fun x _ => gives_run (by go_simp)) ?_
                      try simp only [Act.put, List.getElem_toArray, List.getElem_cons_succ, List.getElem_cons_zero, List.setIfInBounds_toArray, List.set_cons_zero, List.set_cons_succ]
                      refine spec_d rfl (fun x _ => gives_run (by go_simp)) ?_
                      try simp only [Act.put, List.getElem_toArray, List.getElem_cons_succ, List.getElem_cons_zero, List.setIfInBounds_toArray, List.set_cons_zero, List.set_cons_succ]
                      refine spec_skip rfl ?_
                      try simp only [Act.put, List.getElem_toArray, List.getElem_cons_succ, List.getElem_cons_zero, List.setIfInBounds_toArray, List.set_cons_zero, List.set_cons_succ]
                      refine spec_skip rfl ?_
                      try simp only [Act.put, List.getElem_toArray, List.getElem_cons_succ, List.getElem_cons_zero, List.setIfInBounds_toArray, List.set_cons_zero, List.set_cons_succ]
                      refine spec_skip rfl ?_
                      try simp only [Act.put, List.getElem_toArray, List.getElem_cons_succ, List.getElem_cons_zero, List.setIfInBounds_toArray, List.set_cons_zero, List.set_cons_succ]
                      refine spec_skip rfl ?_
                      try simp only [Act.put, List.getElem_toArray, List.getElem_cons_succ, List.getElem_cons_zero, List.setIfInBounds_toArray, List.set_cons_zero, List.set_cons_succ]
                      refine spec_skip rfl ?_
                      try simp only [Act.put, List.getElem_toArray, List.getElem_cons_succ, List.getElem_cons_zero, List.setIfInBounds_toArray, List.set_cons_zero, List.set_cons_succ]
                      refine spec_skip rfl ?_
                      try simp only [Act.put, List.getElem_toArray, List.getElem_cons_succ, List.getElem_cons_zero, List.setIfInBounds_toArray, List.set_cons_zero, List.set_cons_succ]
                      refine spec_skip rfl ?_
                      try simp only [Act.put, List.getElem_toArray, List.getElem_cons_succ, List.getElem_cons_zero, List.setIfInBounds_toArray, List.set_cons_zero, List.set_cons_succ]
                      refine spec_skip rfl ?_
                      try simp only [Act.put, List.getElem_toArray, List.getElem_cons_succ, List.getElem_cons_zero, List.setIfInBounds_toArray, List.set_cons_zero, List.set_cons_succ]
                      refine spec_skip rfl ?_
                      try simp only [Act.put, List.getElem_toArray, List.getElem_cons_succ, List.getElem_cons_zero, List.setIfInBounds_toArray, List.set_cons_zero, List.set_cons_succ]
                      refine spec_skip rfl ?_
                      try simp only [Act.put, List.getElem_toArray, List.getElem_cons_succ, List.getElem_cons_zero, List.setIfInBounds_toArray, List.set_cons_zero, List.set_cons_succ]
                      refine spec_d rfl (fun x _ => gives_run (by go_simp)) ?_
                      try simp only [Act.put, List.getElem_toArray, List.getElem_cons_succ, List.getElem_cons_zero, List.setIfInBounds_toArray, List.set_cons_zero, List.set_cons_succ]
                      refine spec_end (fun z hz => ?_)
                      clear hz
                      change wpAny _ _ _ _ (0 + 1) _ _ _
                      refine wpAny_ready (rs := [23]) (by kernel_rfl) (by simp) ?_
                      refine AllReady.cons rfl (fun KK hK => ?_) AllReady.nil
                      go_simp
                      refine hK _ _ ?_
                      clear hK KK
                      try simp only [Act.put, List.getElem_toArray, List.getElem_cons_succ, List.getElem_cons_zero, List.setIfInBounds_toArray, List.set_cons_zero, List.set_cons_succ]
                      refine wpAny_done (by kernel_rfl) ?_ _
                      have HBZ : Hid (Below W2.heap.size W2 z.world) := Lib.hid ((bel_drew W2).trans z.below)
                      clear CX CB z6 z7 y6 y7
                      generalize z.world = wz at HBZ ⊢
                      clear z
                      go_wp2
                      go_meet
                      exact ⟨rfl, HBZ.out⟩
                    | true =>
                      by_cases hc : x.c = bb.c
                      · have hq3 : (SX.toList == SB.toList) = Q3 := by rw [HSE.out, ← HQ3.out, Bool.true_and, ← HBC.out, decide_eq_true hc, Bool.true_and]
                        have hcb : (x.c == bb.c) = true := by simpa using hc
                        clear hc
                        refine wp_region_specL 23 [.d (.bool true), .d (.bool true), .d (.pointer (some ⟨gx, 6, none⟩)), .d (.int .i64 x.c), .d (.slice (some ⟨b9, 0, none⟩) j c9), .d (.int .i64 (jj : Int)), .d (.pointer (some ⟨b9, jj * 8, none⟩)), .d (.pointer (some ⟨b9, jj * 8 + 6, none⟩)), .d (.int .i64 bb.c), .d (.bool true), .d (.bool true), .d (.bool true), .d (.pointer (some ⟨gx, 7, none⟩)), .d (.slice x.A x.n x.d), .d (.string SX), .d (.slice (some ⟨b9, 0, none⟩) j c9), .d (.int .i64 (jj : Int)), .d (.pointer (some ⟨b9, jj * 8, none⟩)), .d (.pointer (some ⟨b9, jj * 8 + 7, none⟩)), .d (.slice bb.A bb.n bb.d), .d (.string SB), .d (.bool Q3), .d (.bool Q3)] (by kernel_rfl) (by kernel_rfl) ?_
                        refine spec_d rfl (fun x _ => gives_run (by go_simp)) ?_
                        try simp only [Act.put, List.getElem_toArray, List.getElem_cons_succ, List.getElem_cons_zero, List.setIfInBounds_toArray, List.set_cons_zero, List.set_cons_succ]
                        refine spec_d rfl (fun x _ => gives_run (by go_simp)) ?_
                        try simp only [Act.put, List.getElem_toArray, List.getElem_cons_succ, List.getElem_cons_zero, List.setIfInBounds_toArray, List.set_cons_zero, List.set_cons_succ]
                        refine spec_d rfl (fun x _ => gives_run (by go_simp)) ?_
                        try simp only [Act.put, List.getElem_toArray, List.getElem_cons_succ, List.getElem_cons_zero, List.setIfInBounds_toArray, List.set_cons_zero, List.set_cons_succ]
                        refine spec_d rfl (fun x _ => gives_run (by go_simp)) ?_
                        try simp only [Act.put, List.getElem_toArray, List.getElem_cons_succ, List.getElem_cons_zero, List.setIfInBounds_toArray, List.set_cons_zero, List.set_cons_succ]
                        refine spec_d rfl (fun x _ => gives_run (by go_simp)) ?_
                        try simp only [Act.put, List.getElem_toArray, List.getElem_cons_succ, List.getElem_cons_zero, List.setIfInBounds_toArray, List.set_cons_zero, List.set_cons_succ]
                        refine spec_d rfl (fun x _ => gives_run (by go_simp)) ?_
                        try simp only [Act.put, List.getElem_toArray, List.getElem_cons_succ, List.getElem_cons_zero, List.setIfInBounds_toArray, List.set_cons_zero, List.set_cons_succ]
                        refine spec_d rfl (fun x _ => gives_run (by go_simp)) ?_
                        try simp only [Act.put, List.getElem_toArray, List.getElem_cons_succ, List.getElem_cons_zero, List.setIfInBounds_toArray, List.set_cons_zero, List.set_cons_succ]
                        refine spec_d rfl (fun x _ => gives_run (by go_simp)) ?_
                        try simp only [Act.put, List.getElem_toArray, List.getElem_cons_succ, List.getElem_cons_zero, List.setIfInBounds_toArray, List.set_cons_zero, List.set_cons_succ]
                        refine spec_d rfl (fun x _ => gives_run (by go_simp)) ?_
                        try simp only [Act.put, List.getElem_toArray, List.getElem_cons_succ, List.getElem_cons_zero, List.setIfInBounds_toArray, List.set_cons_zero, List.set_cons_succ]
                        refine spec_d rfl (fun x _ => gives_run (by go_simp)) ?_
                        try simp only [Act.put, List.getElem_toArray, List.getElem_cons_succ, List.getElem_cons_zero, List.setIfInBounds_toArray, List.set_cons_zero, List.set_cons_succ]
                        refine spec_d rfl (fun x _ => gives_run (by go_simp)) ?_
                        try simp only [Act.put, List.getElem_toArray, List.getElem_cons_succ, List.getElem_cons_zero, List.setIfInBounds_toArray, List.set_cons_zero, List.set_cons_succ]
                        refine spec_d rfl (fun x _ => gives_run (by go_simp)) ?_
                        try simp only [Act.put, List.getElem_toArray, List.getElem_cons_succ, List.getElem_cons_zero, List.setIfInBounds_toArray, List.set_cons_zero, List.set_cons_succ]
                        refine spec_d rfl (fun x _ => gives_run (by go_simp)) ?_
                        try simp only [Act.put, List.getElem_toArray, List.getElem_cons_succ, List.getElem_cons_zero, List.setIfInBounds_toArray, List.set_cons_zero, List.set_cons_succ]
                        refine spec_d rfl (fun x _ => gives_run (by go_simp)) ?_
                        try simp only [Act.put, List.getElem_toArray, List.getElem_cons_succ, List.getElem_cons_zero, List.setIfInBounds_toArray, List.set_cons_zero, List.set_cons_succ]
                        refine spec_d rfl (fun x _ => gives_run (by go_simp)) ?_
                        try simp only [Act.put, List.getElem_toArray, List.getElem_cons_succ, List.getElem_cons_zero, List.setIfInBounds_toArray, List.set_cons_zero, List.set_cons_succ]
                        refine spec_d rfl (fun x _ => gives_run (by go_simp)) ?_
                        try simp only [Act.put, List.getElem_toArray, List.getElem_cons_succ, List.getElem_cons_zero, List.setIfInBounds_toArray, List.set_cons_zero, List.set_cons_succ]
                        refine spec_d rfl (fun x _ => gives_run (by go_simp)) ?_
                        try simp only [Act.put, List.getElem_toArray, List.getElem_cons_succ, List.getElem_cons_zero, List.setIfInBounds_toArray, List.set_cons_zero, List.set_cons_succ]
                        refine spec_d rfl (fun x _ => gives_run (by go_simp)) ?_
                        try simp only [Act.put, List.getElem_toArray, List.getElem_cons_succ, List.getElem_cons_zero, List.setIfInBounds_toArray, List.set_cons_zero, List.set_cons_succ]
                        refine spec_d rfl (fun x _ => gives_run (by go_simp)) ?_
                        try simp only [Act.put, List.getElem_toArray, List.getElem_cons_succ, List.getElem_cons_zero, List.setIfInBounds_toArray, List.set_cons_zero, List.set_cons_succ]
                        refine spec_d rfl (fun x _ => gives_run (by go_simp)) ?_
                        try simp only [Act.put, List.getElem_toArray, List.getElem_cons_succ, List.getElem_cons_zero, List.setIfInBounds_toArray, List.set_cons_zero, List.set_cons_succ]
                        refine spec_d rfl (fun x _ => gives_run (by go_simp)) ?_
                        try simp only [Act.put, List.getElem_toArray, List.getElem_cons_succ, List.getElem_cons_zero, List.setIfInBounds_toArray, List.set_cons_zero, List.set_cons_succ]
                        refine spec_d rfl (fun x _ => gives_run (by go_simp)) ?_
                        try simp only [Act.put, List.getElem_toArray, List.getElem_cons_succ, List.getElem_cons_zero, List.setIfInBounds_toArray, List.set_cons_zero, List.set_cons_succ]
                        refine spec_d rfl (fun x _ => gives_run (by go_simp)) ?_
                        try simp only [Act.put, List.getElem_toArray, List.getElem_cons_succ, List.getElem_cons_zero, List.setIfInBounds_toArray, List.set_cons_zero, List.set_cons_succ]
                        refine spec_end (fun z hz => ?_)
                        clear hz
                        change wpAny _ _ _ _ (0 + 1) _ _ _
                        refine wpAny_ready (rs := [23]) (by kernel_rfl) (by simp) ?_
                        refine AllReady.cons rfl (fun KK hK => ?_) AllReady.nil
                        go_simp
                        refine hK _ _ ?_
                        clear hK KK
                        try simp only [Act.put, List.getElem_toArray, List.getElem_cons_succ, List.getElem_cons_zero, List.setIfInBounds_toArray, List.set_cons_zero, List.set_cons_succ]
                        refine wpAny_done (by kernel_rfl) ?_ _
                        have HBZ : Hid (Below W2.heap.size W2 z.world) := Lib.hid ((bel_drew W2).trans z.below)
                        clear CX CB z6 z7 y6 y7
                        generalize z.world = wz at HBZ ⊢
                        clear z
                        go_wp2
                        go_meet
                        exact ⟨rfl, HBZ.out⟩
                      · have hq3 : Q3 = false := by rw [← HQ3.out, Bool.true_and, ← HBC.out, decide_eq_false hc, Bool.false_and]
                        subst hq3
                        have hcb : (x.c == bb.c) = false := by simpa using hc
                        clear hc
                        refine wp_region_specL 23 [.d (.bool true), .d (.bool true), .d (.pointer (some ⟨gx, 6, none⟩)), .d (.int .i64 x.c), .d (.slice (some ⟨b9, 0, none⟩) j c9), .d (.int .i64 (jj : Int)), .d (.pointer (some ⟨b9, jj * 8, none⟩)), .d (.pointer (some ⟨b9, jj * 8 + 6, none⟩)), .d (.int .i64 bb.c), .d (.bool false), .d (.bool false), .d (.bool false), .d undef, .d undef, .d undef, .d undef, .d undef, .d undef, .d undef, .d undef, .d undef, .d undef, .d (.bool false)] (by kernel_rfl) (by kernel_rfl) ?_
                        refine spec_d rfl (fun x _ => gives_run (by go_simp)) ?_
                        try simp only [Act.put, List.getElem_toArray, List.getElem_cons_succ, List.getElem_cons_zero, List.setIfInBounds_toArray, List.set_cons_zero, List.set_cons_succ]
                        refine spec_d rfl (fun x _ => gives_run (by go_simp)) ?_
                        try simp only [Act.put, List.getElem_toArray, List.getElem_cons_succ, List.getElem_cons_zero, List.setIfInBounds_toArray, List.set_cons_zero, List.set_cons_succ]
                        refine spec_d rfl (fun x _ => gives_run (by go_simp)) ?_
                        try simp only [Act.put, List.getElem_toArray, List.getElem_cons_succ, List.getElem_cons_zero, List.setIfInBounds_toArray, List.set_cons_zero, List.set_cons_succ]
                        refine spec_d rfl (fun x _ => gives_run (by go_simp)) ?_
                        try simp only [Act.put, List.getElem_toArray, List.getElem_cons_succ, List.getElem_cons_zero, List.setIfInBounds_toArray, List.set_cons_zero, List.set_cons_succ]
                        refine spec_d rfl (fun x _ => gives_run (by go_simp)) ?_
                        try simp only [Act.put, List.getElem_toArray, List.getElem_cons_succ, List.getElem_cons_zero, List.setIfInBounds_toArray, List.set_cons_zero, List.set_cons_succ]
                        refine spec_d rfl (fun x _ => gives_run (by go_simp)) ?_
                        try simp only [Act.put, List.getElem_toArray, List.getElem_cons_succ, List.getElem_cons_zero, List.setIfInBounds_toArray, List.set_cons_zero, List.set_cons_succ]
                        refine spec_d rfl (fun x _ => gives_run (by go_simp)) ?_
                        try simp only [Act.put, List.getElem_toArray, List.getElem_cons_succ, List.getElem_cons_zero, List.setIfInBounds_toArray, List.set_cons_zero, List.set_cons_succ]
                        refine spec_d rfl (fun x _ => gives_run (by go_simp)) ?_
                        try simp only [Act.put, List.getElem_toArray, List.getElem_cons_succ, List.getElem_cons_zero, List.setIfInBounds_toArray, List.set_cons_zero, List.set_cons_succ]
                        refine spec_d rfl (fun x _ => gives_run (by go_simp)) ?_
                        try simp only [Act.put, List.getElem_toArray, List.getElem_cons_succ, List.getElem_cons_zero, List.setIfInBounds_toArray, List.set_cons_zero, List.set_cons_succ]
                        refine spec_d rfl (fun x _ => gives_run (by go_simp)) ?_
                        try simp only [Act.put, List.getElem_toArray, List.getElem_cons_succ, List.getElem_cons_zero, List.setIfInBounds_toArray, List.set_cons_zero, List.set_cons_succ]
                        refine spec_d rfl (fun x _ => gives_run (by go_simp)) ?_
                        try simp only [Act.put, List.getElem_toArray, List.getElem_cons_succ, List.getElem_cons_zero, List.setIfInBounds_toArray, List.set_cons_zero, List.set_cons_succ]
                        refine spec_d rfl (fun x _ => gives_run (by go_simp)) ?_
                        try simp only [Act.put, List.getElem_toArray, List.getElem_cons_succ, List.getElem_cons_zero, List.setIfInBounds_toArray, List.set_cons_zero, List.set_cons_succ]
                        refine spec_skip rfl ?_
                        try simp only [Act.put, List.getElem_toArray, List.getElem_cons_succ, List.getElem_cons_zero, List.setIfInBounds_toArray, List.set_cons_zero, List.set_cons_succ]
                        refine spec_skip rfl ?_
                        try simp only [Act.put, List.getElem_toArray, List.getElem_cons_succ, List.getElem_cons_zero, List.setIfInBounds_toArray, List.set_cons_zero, List.set_cons_succ]
                        refine spec_skip rfl ?_
                        try simp only [Act.put, List.getElem_toArray, List.getElem_cons_succ, List.getElem_cons_zero, List.setIfInBounds_toArray, List.set_cons_zero, List.set_cons_succ]
                        refine spec_skip rfl ?_
                        try simp only [Act.put, List.getElem_toArray, List.getElem_cons_succ, List.getElem_cons_zero, List.setIfInBounds_toArray, List.set_cons_zero, List.set_cons_succ]
                        refine spec_skip rfl ?_
                        try simp only [Act.put, List.getElem_toArray, List.getElem_cons_succ, List.getElem_cons_zero, List.setIfInBounds_toArray, List.set_cons_zero, List.set_cons_succ]
                        refine spec_skip rfl ?_
                        try simp only [Act.put, List.getElem_toArray, List.getElem_cons_succ, List.getElem_cons_zero, List.setIfInBounds_toArray, List.set_cons_zero, List.set_cons_succ]
                        refine spec_skip rfl ?_
                        try simp only [Act.put, List.getElem_toArray, List.getElem_cons_succ, List.getElem_cons_zero, List.setIfInBounds_toArray, List.set_cons_zero, List.set_cons_succ]
                        refine spec_skip rfl ?_
                        try simp only [Act.put, List.getElem_toArray, List.getElem_cons_succ, List.getElem_cons_zero, List.setIfInBounds_toArray, List.set_cons_zero, List.set_cons_succ]
                        refine spec_skip rfl ?_
                        try simp only [Act.put, List.getElem_toArray, List.getElem_cons_succ, List.getElem_cons_zero, List.setIfInBounds_toArray, List.set_cons_zero, List.set_cons_succ]
                        refine spec_skip rfl ?_
                        try simp only [Act.put, List.getElem_toArray, List.getElem_cons_succ, List.getElem_cons_zero, List.setIfInBounds_toArray, List.set_cons_zero, List.set_cons_succ]
                        refine spec_d rfl (fun x _ => gives_run (by go_simp)) ?_
                        try simp only [Act.put, List.getElem_toArray, List.getElem_cons_succ, List.getElem_cons_zero, List.setIfInBounds_toArray, List.set_cons_zero, List.set_cons_succ]
                        refine spec_end (fun z hz => ?_)
                        clear hz
                        change wpAny _ _ _ _ (0 + 1) _ _ _
                        refine wpAny_ready (rs := [23]) (by kernel_rfl) (by simp) ?_
                        refine AllReady.cons rfl (fun KK hK => ?_) AllReady.nil
                        go_simp
                        refine hK _ _ ?_
                        clear hK KK
                        try simp only [Act.put, List.getElem_toArray, List.getElem_cons_succ, List.getElem_cons_zero, List.setIfInBounds_toArray, List.set_cons_zero, List.set_cons_succ]
                        refine wpAny_done (by kernel_rfl) ?_ _
                        have HBZ : Hid (Below W2.heap.size W2 z.world) := Lib.hid ((bel_drew W2).trans z.below)
                        clear CX CB z6 z7 y6 y7
                        generalize z.world = wz at HBZ ⊢
                        clear z
                        go_wp2
                        go_meet
                        exact ⟨rfl, HBZ.out⟩
                  case rest =>
                    obtain ⟨rfl, hbz⟩ := hcut
                    have HL3 := Lib.hid (HL2.out.kept hbz)
                    have HP3 := Lib.hid HP2.out
                    have HS3 := Lib.hid HS2.out
                    have HO3 := Lib.hid (HO2.out.kept hbz)
                    have HB3 := Lib.hid (HB2.out.trans (hbz.mono HB2.out.size))
                    clear hbz CX CB z6 z7 y6 y7 HL2 HP2 HS2 HO2 HB2 HCA HKZ HBB HBC
                    clear HLQ HOX HBX
                    have HBX3 : Hid (w.heap.size ≤ wc.heap.size) := Lib.hid HB3.out.size
                    have HTSS := Lib.hid (pB_ts p x vs)
                    have HVO : Hid (wc.ownsRow w.heap.size Hl.TI 1 (.slice sA p.ts.length sc) p.ts.length (p.ts.map iV)) := Lib.hid (HL3.out.ts.2 jj _ p.ts HVV.out (by rw [List.getElem?_map, HP3.out]; show some (pB p x vs).ts = _; rw [HTSS.out.1]))
                    have HCW : Hid (∀ W, Below wc.heap.size wc W → W.cell? ⟨b7, jj, none⟩ = some (.slice sA p.ts.length sc) ∧ W.frozen? ⟨b7, jj, none⟩ = false) := Lib.hid (fun W hW => row_cellN (own_kept (HL3.out.rows.own 2 _ rfl) hW) (by exact HVV.out))
                    have HWI := Lib.hid (with_any w.heap.size sA sc p.ts x.m wc.drew (own_kept HVO.out (bel_drew wc)) HPK.out.2.1 HBX3.out HPZ.out.2.1)
                    have k3 : wc.cell? ⟨b7, jj, none⟩ = some (.slice sA p.ts.length sc) := (HCW.out wc (Below.refl _ _)).1
                    have g1 : wc.cell? ⟨gx, 1, none⟩ = some (.int .i64 x.m) := HO3.out.cell 1
                    have HTP := Lib.hid (take_two (p := p) (vs := vs) HK2.out)
                    go_upto_region 32 with (fail)
                    refine wp_region_any (by kernel_rfl) ?_
                    change wpAny _ _ _ _ _ _ _ (World.drew _)
                    refine wpAny_take (i := 0) (v := .slice (some ⟨b7, 0, none⟩) j c7) rfl (by kernel_rfl) (by kernel_rfl) (by kernel_rfl) (fun _ _ _ h => h) (Or.inl ⟨by rfl, fun w => by go_simp⟩) ?_
                    try simp only [Act.put, List.getElem_toArray, List.getElem_cons_succ, List.getElem_cons_zero, List.setIfInBounds_toArray, List.set_cons_zero, List.set_cons_succ]
                    refine wpAny_take (i := 1) (v := .int .i64 (jj : Int)) rfl (by kernel_rfl) (by kernel_rfl) (by kernel_rfl) (fun _ _ _ h => h) (Or.inl ⟨by rfl, fun w => by go_simp⟩) ?_
                    try simp only [Act.put, List.getElem_toArray, List.getElem_cons_succ, List.getElem_cons_zero, List.setIfInBounds_toArray, List.set_cons_zero, List.set_cons_succ]
                    refine wpAny_take (i := 2) (v := .slice (some ⟨b7, 0, none⟩) j c7) rfl (by kernel_rfl) (by kernel_rfl) (by kernel_rfl) (fun _ _ _ h => h) (Or.inl ⟨by rfl, fun w => by go_simp⟩) ?_
                    try simp only [Act.put, List.getElem_toArray, List.getElem_cons_succ, List.getElem_cons_zero, List.setIfInBounds_toArray, List.set_cons_zero, List.set_cons_succ]
                    refine wpAny_take (i := 3) (v := .int .i64 (jj : Int)) rfl (by kernel_rfl) (by kernel_rfl) (by kernel_rfl) (fun _ _ _ h => h) (Or.inl ⟨by rfl, fun w => by go_simp⟩) ?_
                    try simp only [Act.put, List.getElem_toArray, List.getElem_cons_succ, List.getElem_cons_zero, List.setIfInBounds_toArray, List.set_cons_zero, List.set_cons_succ]
                    refine wpAny_take (i := 4) (v := .pointer (some ⟨b7, jj, none⟩)) rfl (by kernel_rfl) (by kernel_rfl) (by kernel_rfl) (fun _ _ _ h => h) (Or.inl ⟨by rfl, fun w => by go_simp⟩) ?_
                    try simp only [Act.put, List.getElem_toArray, List.getElem_cons_succ, List.getElem_cons_zero, List.setIfInBounds_toArray, List.set_cons_zero, List.set_cons_succ]
                    refine wpAny_take (i := 6) (v := .pointer (some ⟨gx, 1, none⟩)) rfl (by kernel_rfl) (by kernel_rfl) (by kernel_rfl) (fun _ _ _ h => h) (Or.inl ⟨by rfl, fun w => by go_simp⟩) ?_
                    try simp only [Act.put, List.getElem_toArray, List.getElem_cons_succ, List.getElem_cons_zero, List.setIfInBounds_toArray, List.set_cons_zero, List.set_cons_succ]
                    refine wpAny_ready (rs := [5, 7]) (by kernel_rfl) (by simp) ?_
                    refine AllReady.cons rfl (fun KK hK => ?_) (AllReady.cons rfl (fun KK hK => ?_) AllReady.nil)
                    · go_simp
                      refine hK _ _ ?_
                      clear hK KK
                      try simp only [Act.put, List.getElem_toArray, List.getElem_cons_succ, List.getElem_cons_zero, List.setIfInBounds_toArray, List.set_cons_zero, List.set_cons_succ]
                      refine wpAny_ready (rs := [7]) (by kernel_rfl) (by simp) ?_
                      refine AllReady.cons rfl (fun KK hK => ?_) AllReady.nil
                      go_simp
                      refine hK _ _ ?_
                      clear hK KK
                      try simp only [Act.put, List.getElem_toArray, List.getElem_cons_succ, List.getElem_cons_zero, List.setIfInBounds_toArray, List.set_cons_zero, List.set_cons_succ]
                      refine wpAny_ready (rs := [8]) (by kernel_rfl) (by simp) ?_
                      refine AllReady.cons rfl (fun KK hK => ?_) AllReady.nil
                      go_simp
                      refine HWI.out.mono ?_
                      rintro e' w8 ⟨A', c', rfl, ho', hb'⟩
                      have HO8 := Lib.hid ho'
                      have HB8 : Hid (Below wc.heap.size wc w8) := Lib.hid ((bel_drew wc).trans hb')
                      clear ho' hb'
                      refine hK _ _ ?_
                      clear hK KK
                      try simp only [Act.put, List.getElem_toArray, List.getElem_cons_succ, List.getElem_cons_zero, List.setIfInBounds_toArray, List.set_cons_zero, List.set_cons_succ]
                      have y1 : w8.cell? ⟨b7, jj, none⟩ = some (.slice sA p.ts.length sc) := (HCW.out w8 HB8.out).1
                      have y2 : w8.frozen? ⟨b7, jj, none⟩ = false := (HCW.out w8 HB8.out).2
                      refine wpAny_take (i := 9) (v := .pointer (some ⟨b7, jj, none⟩)) rfl (by kernel_rfl) (by kernel_rfl) (by kernel_rfl) (fun _ _ _ h => h) (Or.inl ⟨by rfl, fun w => by go_simp⟩) ?_
                      try simp only [Act.put, List.getElem_toArray, List.getElem_cons_succ, List.getElem_cons_zero, List.setIfInBounds_toArray, List.set_cons_zero, List.set_cons_succ]
                      refine wpAny_ready (rs := [10]) (by kernel_rfl) (by simp) ?_
                      refine AllReady.cons rfl (fun KK hK => ?_) AllReady.nil
                      go_simp
                      refine hK _ _ ?_
                      clear hK KK
                      try simp only [Act.put, List.getElem_toArray, List.getElem_cons_succ, List.getElem_cons_zero, List.setIfInBounds_toArray, List.set_cons_zero, List.set_cons_succ]
                      refine wpAny_done (by kernel_rfl) ?_ _
                      have HLE := Lib.hid (HL3.out.setT (v := .slice A' (ins p.ts x.m).length c') (q := takeP p x vs) HP3.out HB8.out (by rw [HTP.out]; exact HO8.out) (by rw [HTP.out]) (by rw [HTP.out]) (by rw [HTP.out]) (by rw [HTP.out]))
                      rw [HS3.out] at HLE
                      have HBE : Hid (Below w.heap.size w (w8.setCell ⟨b7, jj, none⟩ (.slice A' (ins p.ts x.m).length c'))) := Lib.hid ((HB3.out.trans (HB8.out.mono HBX3.out)).setCell ((HL3.out.rows.own 2 _ rfl).lt b7 rfl).1 _)
                      clear y1 y2 k3 g1 HO8 HB8 HWI HCW HVO
                      generalize w8.setCell ⟨b7, jj, none⟩ (.slice A' (ins p.ts x.m).length c') = w9 at HLE HBE ⊢
                      go_wp2
                      go_roundw
                      case rel => exact ⟨k + 1, by omega, j, fs, psA.set jj (takeP p x vs), _, _, _, _, A5, c5, A6, c6, some ⟨b7, 0, none⟩, c7, A8, c8, some ⟨b9, 0, none⟩, c9, Q3, by go_num, rfl, rfl, rfl, rfl, rfl, rfl, HLE, HRP2, HAK2, HBD2, HBE.out⟩
                      case measure => simp [intOf]; omega
                    · go_simp
                      refine hK _ _ ?_
                      clear hK KK
                      try simp only [Act.put, List.getElem_toArray, List.getElem_cons_succ, List.getElem_cons_zero, List.setIfInBounds_toArray, List.set_cons_zero, List.set_cons_succ]
                      refine wpAny_ready (rs := [5]) (by kernel_rfl) (by simp) ?_
                      refine AllReady.cons rfl (fun KK hK => ?_) AllReady.nil
                      go_simp
                      refine hK _ _ ?_
                      clear hK KK
                      try simp only [Act.put, List.getElem_toArray, List.getElem_cons_succ, List.getElem_cons_zero, List.setIfInBounds_toArray, List.set_cons_zero, List.set_cons_succ]
                      refine wpAny_ready (rs := [8]) (by kernel_rfl) (by simp) ?_
                      refine AllReady.cons rfl (fun KK hK => ?_) AllReady.nil
                      go_simp
                      refine HWI.out.mono ?_
                      rintro e' w8 ⟨A', c', rfl, ho', hb'⟩
                      have HO8 := Lib.hid ho'
                      have HB8 : Hid (Below wc.heap.size wc w8) := Lib.hid ((bel_drew wc).trans hb')
                      clear ho' hb'
                      refine hK _ _ ?_
                      clear hK KK
                      try simp only [Act.put, List.getElem_toArray, List.getElem_cons_succ, List.getElem_cons_zero, List.setIfInBounds_toArray, List.set_cons_zero, List.set_cons_succ]
                      have y1 : w8.cell? ⟨b7, jj, none⟩ = some (.slice sA p.ts.length sc) := (HCW.out w8 HB8.out).1
                      have y2 : w8.frozen? ⟨b7, jj, none⟩ = false := (HCW.out w8 HB8.out).2
                      refine wpAny_take (i := 9) (v := .pointer (some ⟨b7, jj, none⟩)) rfl (by kernel_rfl) (by kernel_rfl) (by kernel_rfl) (fun _ _ _ h => h) (Or.inl ⟨by rfl, fun w => by go_simp⟩) ?_
                      try simp only [Act.put, List.getElem_toArray, List.getElem_cons_succ, List.getElem_cons_zero, List.setIfInBounds_toArray, List.set_cons_zero, List.set_cons_succ]
                      refine wpAny_ready (rs := [10]) (by kernel_rfl) (by simp) ?_
                      refine AllReady.cons rfl (fun KK hK => ?_) AllReady.nil
                      go_simp
                      refine hK _ _ ?_
                      clear hK KK
                      try simp only [Act.put, List.getElem_toArray, List.getElem_cons_succ, List.getElem_cons_zero, List.setIfInBounds_toArray, List.set_cons_zero, List.set_cons_succ]
                      refine wpAny_done (by kernel_rfl) ?_ _
                      have HLE := Lib.hid (HL3.out.setT (v := .slice A' (ins p.ts x.m).length c') (q := takeP p x vs) HP3.out HB8.out (by rw [HTP.out]; exact HO8.out) (by rw [HTP.out]) (by rw [HTP.out]) (by rw [HTP.out]) (by rw [HTP.out]))
                      rw [HS3.out] at HLE
                      have HBE : Hid (Below w.heap.size w (w8.setCell ⟨b7, jj, none⟩ (.slice A' (ins p.ts x.m).length c'))) := Lib.hid ((HB3.out.trans (HB8.out.mono HBX3.out)).setCell ((HL3.out.rows.own 2 _ rfl).lt b7 rfl).1 _)
                      clear y1 y2 k3 g1 HO8 HB8 HWI HCW HVO
                      generalize w8.setCell ⟨b7, jj, none⟩ (.slice A' (ins p.ts x.m).length c') = w9 at HLE HBE ⊢
                      go_wp2
                      go_roundw
                      case rel => exact ⟨k + 1, by omega, j, fs, psA.set jj (takeP p x vs), _, _, _, _, A5, c5, A6, c6, some ⟨b7, 0, none⟩, c7, A8, c8, some ⟨b9, 0, none⟩, c9, Q3, by go_num, rfl, rfl, rfl, rfl, rfl, rfl, HLE, HRP2, HAK2, HBD2, HBE.out⟩
                      case measure => simp [intOf]; omega
              · rw [hk3] at g2
                have HK3 := Lib.hid hk3
                clear hk3
                obtain ⟨b8, hb8⟩ := row_someN (HLQ.out.rows.own 3 _ rfl) (show 0 < j by omega)
                subst hb8
                obtain ⟨v, hv⟩ : ∃ v, mv[jj]? = some v := ⟨_, List.getElem?_eq_getElem (by have h1 := HLQ.out.ms.1; have h2 := HLQ.out.len.2; simp only [List.length_map] at h1; omega)⟩
                have hvo := HLQ.out.ms.2 jj v p.ms hv (by rw [List.getElem?_map, HP1.out]; rfl)
                obtain ⟨sA, sc, hvs⟩ := row_sl hvo
                subst hvs
                have HVO := Lib.hid hvo
                have HCW : Hid (∀ W, Below wr.heap.size wr W → W.cell? ⟨b8, jj, none⟩ = some (.slice sA p.ms.length sc) ∧ W.frozen? ⟨b8, jj, none⟩ = false) := Lib.hid (fun W hW => row_cellN (own_kept (HLQ.out.rows.own 3 _ rfl) hW) (by exact hv))
                have HWI := Lib.hid (with_any w.heap.size sA sc p.ms x.m wr.drew (own_kept HVO.out (bel_drew wr)) HPK.out.2.2 HBX.out HPZ.out.2.2)
                have k3 : wr.cell? ⟨b8, jj, none⟩ = some (.slice sA p.ms.length sc) := (HCW.out wr (Below.refl _ _)).1
                clear hv hvo
                have HTP : Hid (takeP p x vs = { p with ms := ins p.ms x.m }) := Lib.hid (by have := HK3.out; unfold takeP; rw [if_neg (by omega), if_pos HK3.out])
                have HRP2 : Hid (runP (ls.take (k + 1)) = (fs, psA.set jj (takeP p x vs))) := Lib.hid (by
                  rw [HRN.out, HRP.out, stp_msg HM3.out (p := p) (by rw [HPSA.out, HAP.out.2.2]; exact HP1.out), HPSA.out, HAP.out.2.2, HAP.out.2.1])
                have HAK2 : Hid ((q && alks (fs, psA.set jj (takeP p x vs)) (ls.drop (k + 1))) = alks ([], []) ls) := Lib.hid (by
                  rw [← HAK.out, HTL.out]
                  show _ = (q && (alk (fs, ps) (x, vs) && alks (stp (fs, ps) (x, vs)) (ls.drop (k + 1))))
                  rw [stp_msg HM3.out (p := p) (by rw [HPSA.out, HAP.out.2.2]; exact HP1.out), HPSA.out, HAP.out.2.2, HAP.out.2.1, show alk (fs, ps) (x, vs) = true from by unfold alk; rw [if_neg (fun h => by have h1 := h.2; have h2 := HK3.out; simp only at h1; omega)]]
                  rfl)
                go_upto_region 34 with (fail)
                refine wp_region_any (by kernel_rfl) ?_
                change wpAny _ _ _ _ _ _ _ (World.drew _)
                refine wpAny_take (i := 0) (v := .slice (some ⟨b8, 0, none⟩) j c8) rfl (by kernel_rfl) (by kernel_rfl) (by kernel_rfl) (fun _ _ _ h => h) (Or.inl ⟨by rfl, fun w => by go_simp⟩) ?_
                try simp only [Act.put, List.getElem_toArray, List.getElem_cons_succ, List.getElem_cons_zero, List.setIfInBounds_toArray, List.set_cons_zero, List.set_cons_succ]
                refine wpAny_take (i := 1) (v := .int .i64 (jj : Int)) rfl (by kernel_rfl) (by kernel_rfl) (by kernel_rfl) (fun _ _ _ h => h) (Or.inl ⟨by rfl, fun w => by go_simp⟩) ?_
                try simp only [Act.put, List.getElem_toArray, List.getElem_cons_succ, List.getElem_cons_zero, List.setIfInBounds_toArray, List.set_cons_zero, List.set_cons_succ]
                refine wpAny_take (i := 2) (v := .slice (some ⟨b8, 0, none⟩) j c8) rfl (by kernel_rfl) (by kernel_rfl) (by kernel_rfl) (fun _ _ _ h => h) (Or.inl ⟨by rfl, fun w => by go_simp⟩) ?_
                try simp only [Act.put, List.getElem_toArray, List.getElem_cons_succ, List.getElem_cons_zero, List.setIfInBounds_toArray, List.set_cons_zero, List.set_cons_succ]
                refine wpAny_take (i := 3) (v := .int .i64 (jj : Int)) rfl (by kernel_rfl) (by kernel_rfl) (by kernel_rfl) (fun _ _ _ h => h) (Or.inl ⟨by rfl, fun w => by go_simp⟩) ?_
                try simp only [Act.put, List.getElem_toArray, List.getElem_cons_succ, List.getElem_cons_zero, List.setIfInBounds_toArray, List.set_cons_zero, List.set_cons_succ]
                refine wpAny_take (i := 4) (v := .pointer (some ⟨b8, jj, none⟩)) rfl (by kernel_rfl) (by kernel_rfl) (by kernel_rfl) (fun _ _ _ h => h) (Or.inl ⟨by rfl, fun w => by go_simp⟩) ?_
                try simp only [Act.put, List.getElem_toArray, List.getElem_cons_succ, List.getElem_cons_zero, List.setIfInBounds_toArray, List.set_cons_zero, List.set_cons_succ]
                refine wpAny_take (i := 6) (v := .pointer (some ⟨gx, 1, none⟩)) rfl (by kernel_rfl) (by kernel_rfl) (by kernel_rfl) (fun _ _ _ h => h) (Or.inl ⟨by rfl, fun w => by go_simp⟩) ?_
                try simp only [Act.put, List.getElem_toArray, List.getElem_cons_succ, List.getElem_cons_zero, List.setIfInBounds_toArray, List.set_cons_zero, List.set_cons_succ]
                refine wpAny_ready (rs := [5, 7]) (by kernel_rfl) (by simp) ?_
                refine AllReady.cons rfl (fun KK hK => ?_) (AllReady.cons rfl (fun KK hK => ?_) AllReady.nil)
                · go_simp
                  refine hK _ _ ?_
                  clear hK KK
                  try simp only [Act.put, List.getElem_toArray, List.getElem_cons_succ, List.getElem_cons_zero, List.setIfInBounds_toArray, List.set_cons_zero, List.set_cons_succ]
                  refine wpAny_ready (rs := [7]) (by kernel_rfl) (by simp) ?_
                  refine AllReady.cons rfl (fun KK hK => ?_) AllReady.nil
                  go_simp
                  refine hK _ _ ?_
                  clear hK KK
                  try simp only [Act.put, List.getElem_toArray, List.getElem_cons_succ, List.getElem_cons_zero, List.setIfInBounds_toArray, List.set_cons_zero, List.set_cons_succ]
                  refine wpAny_ready (rs := [8]) (by kernel_rfl) (by simp) ?_
                  refine AllReady.cons rfl (fun KK hK => ?_) AllReady.nil
                  go_simp
                  refine HWI.out.mono ?_
                  rintro e' w8 ⟨A', c', rfl, ho', hb'⟩
                  have HO8 := Lib.hid ho'
                  have HB8 : Hid (Below wr.heap.size wr w8) := Lib.hid ((bel_drew wr).trans hb')
                  clear ho' hb'
                  refine hK _ _ ?_
                  clear hK KK
                  try simp only [Act.put, List.getElem_toArray, List.getElem_cons_succ, List.getElem_cons_zero, List.setIfInBounds_toArray, List.set_cons_zero, List.set_cons_succ]
                  have y1 : w8.cell? ⟨b8, jj, none⟩ = some (.slice sA p.ms.length sc) := (HCW.out w8 HB8.out).1
                  have y2 : w8.frozen? ⟨b8, jj, none⟩ = false := (HCW.out w8 HB8.out).2
                  refine wpAny_take (i := 9) (v := .pointer (some ⟨b8, jj, none⟩)) rfl (by kernel_rfl) (by kernel_rfl) (by kernel_rfl) (fun _ _ _ h => h) (Or.inl ⟨by rfl, fun w => by go_simp⟩) ?_
                  try simp only [Act.put, List.getElem_toArray, List.getElem_cons_succ, List.getElem_cons_zero, List.setIfInBounds_toArray, List.set_cons_zero, List.set_cons_succ]
                  refine wpAny_ready (rs := [10]) (by kernel_rfl) (by simp) ?_
                  refine AllReady.cons rfl (fun KK hK => ?_) AllReady.nil
                  go_simp
                  refine hK _ _ ?_
                  clear hK KK
                  try simp only [Act.put, List.getElem_toArray, List.getElem_cons_succ, List.getElem_cons_zero, List.setIfInBounds_toArray, List.set_cons_zero, List.set_cons_succ]
                  refine wpAny_done (by kernel_rfl) ?_ _
                  have HLE := Lib.hid (HLQ.out.setM (v := .slice A' (ins p.ms x.m).length c') (q := takeP p x vs) HP1.out HB8.out (by rw [HTP.out]; exact HO8.out) (by rw [HTP.out]) (by rw [HTP.out]) (by rw [HTP.out]) (by rw [HTP.out]))
                  have HBE : Hid (Below w.heap.size w (w8.setCell ⟨b8, jj, none⟩ (.slice A' (ins p.ms x.m).length c'))) := Lib.hid ((HBQ.out.trans (HB8.out.mono HBX.out)).setCell ((HLQ.out.rows.own 3 _ rfl).lt b8 rfl).1 _)
                  clear y1 y2 k3 g1 HO8 HB8 HWI HCW HVO
                  generalize w8.setCell ⟨b8, jj, none⟩ (.slice A' (ins p.ms x.m).length c') = w9 at HLE HBE ⊢
                  go_wp2
                  go_roundw
                  case rel => exact ⟨k + 1, by omega, j, fs, psA.set jj (takeP p x vs), _, _, _, _, A5, c5, A6, c6, A7, c7, some ⟨b8, 0, none⟩, c8, A9, c9, q, by go_num, rfl, rfl, rfl, rfl, rfl, rfl, HLE, HRP2, HAK2, HBD2, HBE.out⟩
                  case measure => simp [intOf]; omega
                · go_simp
                  refine hK _ _ ?_
                  clear hK KK
                  try simp only [Act.put, List.getElem_toArray, List.getElem_cons_succ, List.getElem_cons_zero, List.setIfInBounds_toArray, List.set_cons_zero, List.set_cons_succ]
                  refine wpAny_ready (rs := [5]) (by kernel_rfl) (by simp) ?_
                  refine AllReady.cons rfl (fun KK hK => ?_) AllReady.nil
                  go_simp
                  refine hK _ _ ?_
                  clear hK KK
                  try simp only [Act.put, List.getElem_toArray, List.getElem_cons_succ, List.getElem_cons_zero, List.setIfInBounds_toArray, List.set_cons_zero, List.set_cons_succ]
                  refine wpAny_ready (rs := [8]) (by kernel_rfl) (by simp) ?_
                  refine AllReady.cons rfl (fun KK hK => ?_) AllReady.nil
                  go_simp
                  refine HWI.out.mono ?_
                  rintro e' w8 ⟨A', c', rfl, ho', hb'⟩
                  have HO8 := Lib.hid ho'
                  have HB8 : Hid (Below wr.heap.size wr w8) := Lib.hid ((bel_drew wr).trans hb')
                  clear ho' hb'
                  refine hK _ _ ?_
                  clear hK KK
                  try simp only [Act.put, List.getElem_toArray, List.getElem_cons_succ, List.getElem_cons_zero, List.setIfInBounds_toArray, List.set_cons_zero, List.set_cons_succ]
                  have y1 : w8.cell? ⟨b8, jj, none⟩ = some (.slice sA p.ms.length sc) := (HCW.out w8 HB8.out).1
                  have y2 : w8.frozen? ⟨b8, jj, none⟩ = false := (HCW.out w8 HB8.out).2
                  refine wpAny_take (i := 9) (v := .pointer (some ⟨b8, jj, none⟩)) rfl (by kernel_rfl) (by kernel_rfl) (by kernel_rfl) (fun _ _ _ h => h) (Or.inl ⟨by rfl, fun w => by go_simp⟩) ?_
                  try simp only [Act.put, List.getElem_toArray, List.getElem_cons_succ, List.getElem_cons_zero, List.setIfInBounds_toArray, List.set_cons_zero, List.set_cons_succ]
                  refine wpAny_ready (rs := [10]) (by kernel_rfl) (by simp) ?_
                  refine AllReady.cons rfl (fun KK hK => ?_) AllReady.nil
                  go_simp
                  refine hK _ _ ?_
                  clear hK KK
                  try simp only [Act.put, List.getElem_toArray, List.getElem_cons_succ, List.getElem_cons_zero, List.setIfInBounds_toArray, List.set_cons_zero, List.set_cons_succ]
                  refine wpAny_done (by kernel_rfl) ?_ _
                  have HLE := Lib.hid (HLQ.out.setM (v := .slice A' (ins p.ms x.m).length c') (q := takeP p x vs) HP1.out HB8.out (by rw [HTP.out]; exact HO8.out) (by rw [HTP.out]) (by rw [HTP.out]) (by rw [HTP.out]) (by rw [HTP.out]))
                  have HBE : Hid (Below w.heap.size w (w8.setCell ⟨b8, jj, none⟩ (.slice A' (ins p.ms x.m).length c'))) := Lib.hid ((HBQ.out.trans (HB8.out.mono HBX.out)).setCell ((HLQ.out.rows.own 3 _ rfl).lt b8 rfl).1 _)
                  clear y1 y2 k3 g1 HO8 HB8 HWI HCW HVO
                  generalize w8.setCell ⟨b8, jj, none⟩ (.slice A' (ins p.ms x.m).length c') = w9 at HLE HBE ⊢
                  go_wp2
                  go_roundw
                  case rel => exact ⟨k + 1, by omega, j, fs, psA.set jj (takeP p x vs), _, _, _, _, A5, c5, A6, c6, A7, c7, some ⟨b8, 0, none⟩, c8, A9, c9, q, by go_num, rfl, rfl, rfl, rfl, rfl, rfl, HLE, HRP2, HAK2, HBD2, HBE.out⟩
                  case measure => simp [intOf]; omega
      · have hmi := isM_iff x.k
        have HRP2 : Hid (runP (ls.take (k + 1)) = (fs, ps)) := Lib.hid (by rw [HRN.out, HRP.out]; exact stp_not (by simpa using hm))
        have HAK2 : Hid ((q && alks (fs, ps) (ls.drop (k + 1))) = alks ([], []) ls) := Lib.hid (by
          rw [← HAK.out, HTL.out]
          show _ = (q && (alk (fs, ps) (x, vs) && alks (stp (fs, ps) (x, vs)) (ls.drop (k + 1))))
          rw [stp_not (by simpa using hm), show alk (fs, ps) (x, vs) = true from by unfold alk; rw [if_neg (fun h => hm h.1)]]
          rfl)
        by_cases hk1 : x.k < 1
        · clear hm hmi hx40
          go_wp2
          go_roundw
          case rel => exact ⟨k + 1, by omega, N, fs, ps, sv, tv, mv, bs, A5, c5, A6, c6, A7, c7, A8, c8, A9, c9, q, by go_num, rfl, rfl, rfl, rfl, rfl, rfl, HLW5, HRP2, HAK2, HBD2, HB5.out⟩
          case measure => simp [intOf]; omega
        · have hk3 : (3 : Int) < x.k := by
            have : ¬ (1 ≤ x.k ∧ x.k ≤ 3) := fun h => hm (hmi.2 h)
            omega
          clear hm hmi hx40
          go_wp2
          go_roundw
          case rel => exact ⟨k + 1, by omega, N, fs, ps, sv, tv, mv, bs, A5, c5, A6, c6, A7, c7, A8, c8, A9, c9, q, by go_num, rfl, rfl, rfl, rfl, rfl, rfl, HLW5, HRP2, HAK2, HBD2, HB5.out⟩
          case measure => simp [intOf]; omega
    · have hje : k = n := by omega
      subst hje
      as_aux_lemma =>
        have HTA : Hid (ls.take k = ls) := Lib.hid (List.take_of_length_le (by rw [HLN.out]; exact Nat.le_refl _))
        have HDA : Hid (ls.drop k = []) := Lib.hid (List.drop_of_length_le (by rw [HLN.out]; exact Nat.le_refl _))
        rw [HTA.out] at HRP HBD
        have HOA : Hid (∀ a ∈ ls, isM a.1.k = true → EvOk a.1) := Lib.hid (fun a ha _ => by
          obtain ⟨⟨_, _, s1, s2, _⟩, _⟩ := HI.out a ha
          exact ⟨s1, s2, (HBD.out a ha).1⟩)
        have HQA : Hid (al [] (fun _ => none) ls = q) := Lib.hid (by
          rw [al_all ls HOA.out, ← HAK.out, HDA.out]
          simp [alks])
        have HHD : Hid (Hd (fs, ps)) := Lib.hid (by rw [← HRP.out]; exact run_hd ls)
        have HVS : Hid (∀ a ∈ ls, ∀ y ∈ a.2, y < 256) := Lib.hid (fun a ha => (HI.out a ha).2.2.2.1)
        have HPV : Hid (∀ p ∈ ps, ∀ y ∈ p.ws, y < 256) := Lib.hid (by have h := run_ws ls HVS.out; rw [HRP.out] at h; exact h)
        have HPO : Hid (∀ p ∈ ps, PwOk p) := Lib.hid (by have h := run_ok ls; rw [HRP.out] at h; exact h)
        have HINV : Hid (Inv k (fs, ps)) := Lib.hid (by
          have h := inv_run HOA.out ls.length (Nat.le_refl _)
          rw [List.take_length, HRP.out, HLN.out] at h
          exact h)
        have HN60 : Hid (N ≤ 60) := Lib.hid (by have h1 := HINV.out.2.2.2.1; have h2 := HLW.out.len.1; simp only at h1; omega)
        have HWN := Lib.hid (windows_any A k c ls wr (HE.out.kept HBK.out) (fun a ha => ⟨(HI.out a ha).2.2.1.kept HBK.out, by have := (HBD.out a ha).2; omega⟩) HOA.out (by omega))
        rw [HRP.out] at HWN
        have HSZ : Hid (w.heap.size ≤ wr.heap.size) := Lib.hid HBK.out.size
        obtain ⟨B0, HB0⟩ : ∃ B0, Hid (wr.heap.size = B0) := ⟨_, Lib.hid rfl⟩
        clear hbk
        go_wp2_with fail
        refine HWN.out.mono ?_
        rintro e' w2 ⟨RV, l, rfl, hws, hlp, hb2⟩
        have hlp' : l.map Wm.p = ps := hlp
        have hln : l.length = N := by have h := congrArg List.length hlp'; rw [List.length_map] at h; rw [h]; exact HLW.out.len.2
        rw [HB0.out] at hws
        obtain ⟨RA, rc, hRV⟩ := row_sl hws.own
        subst hRV
        have HWS := Lib.hid hws
        rw [hln] at HWS ⊢
        have HLP := Lib.hid hlp'
        have HLNN := Lib.hid hln
        have HL2 := Lib.hid (HLW.out.kept hb2)
        have HB2 := Lib.hid (HBK.out.trans (hb2.mono HSZ.out))
        have HALK := Lib.hid (alike_any A k c ls w2 (HE.out.kept HB2.out) (fun a ha => ⟨(HI.out a ha).2.2.1.kept HB2.out, by have := (HBD.out a ha).2; omega⟩) HVS.out HOA.out (by omega))
        rw [HQA.out] at HALK
        clear hws hlp hlp' hln hb2 HWN
        have hqq : (q != q) = false := by cases q <;> rfl
        go_wp2_with fail
        refine HALK.out.mono ?_
        rintro e' w3 ⟨rfl, hb3⟩
        have HL3 := Lib.hid (HL2.out.kept hb3)
        have HW3 := Lib.hid (HWS.out.below hb3)
        have HB3 := Lib.hid (HB2.out.trans (hb3.mono HB2.out.size))
        clear hb3 HALK HWS HL2 HB2
        go_wp2_with fail
        --F9
        go_loopw [16] (fun i wx => ∃ j : Nat, j ≤ N ∧ i = .int .i64 j ∧ Below w3.heap.size w3 wx) (fun i _ => N - (intOf i).toNat)
        case atStart => exact ⟨0, by omega, rfl, Below.refl _ _⟩
        case round =>
          obtain ⟨j, hj, rfl, hbj⟩ := hrel
          have HB5J := Lib.hid hbj
          have HB5 : Hid (Below w.heap.size w wr) := Lib.hid (HB3.out.trans (hbj.mono HB3.out.size))
          by_cases hlt : j < N
          · have hji : (j : Int) < (N : Int) := by omega
            have hj0 : (0 : Int) ≤ (j : Int) := by omega
            have HLJ := Lib.hid (HL3.out.kept hbj)
            have HWJ := Lib.hid (HW3.out.below hbj)
            have HSB : Hid (w.heap.size ≤ wr.heap.size) := Lib.hid HB5.out.size
            have e1 : IntKind.i64.wrap ((j : Int) + 1) = (j : Int) + 1 := IntWalk.i64_in _ (by have := HN60.out; omega)
            obtain ⟨f, hf⟩ : ∃ f, fs[j]? = some f := ⟨_, List.getElem?_eq_getElem (by rw [HLJ.out.len.1]; exact hlt)⟩
            obtain ⟨b, hb⟩ : ∃ b, bs[j]? = some b := ⟨_, List.getElem?_eq_getElem (by rw [HLJ.out.best.1]; exact hlt)⟩
            obtain ⟨y, hy⟩ : ∃ y, l[j]? = some y := ⟨_, List.getElem?_eq_getElem (by rw [HLNN.out]; exact hlt)⟩
            obtain ⟨p, ysv, ytv, ymv, ywv⟩ := y
            have hp : ps[j]? = some p := by rw [← HLP.out, List.getElem?_map, hy]; rfl
            have HPK : Hid (PwOk p) := Lib.hid (HPO.out p (List.mem_of_getElem? hp))
            have HPW : Hid (∀ y ∈ p.ws, y < 256) := Lib.hid (HPV.out p (List.mem_of_getElem? hp))
            have HZL : Hid (p.ss.length ≤ 100000 ∧ p.ts.length ≤ 100000 ∧ p.ms.length ≤ 100000) := Lib.hid (by have := HINV.out.2.2.2.2 p (List.mem_of_getElem? hp); omega)
            have hhj := HHD.out.2 j p f hp hf
            have HBB := Lib.hid (HLJ.out.best.2 j b p hb hp)
            obtain ⟨vS, hvS⟩ : ∃ v, sv[j]? = some v := ⟨_, List.getElem?_eq_getElem (by have h1 := HLJ.out.ss.1; have h2 := HLJ.out.len.2; simp only [List.length_map] at h1; omega)⟩
            obtain ⟨vT, hvT⟩ : ∃ v, tv[j]? = some v := ⟨_, List.getElem?_eq_getElem (by have h1 := HLJ.out.ts.1; have h2 := HLJ.out.len.2; simp only [List.length_map] at h1; omega)⟩
            obtain ⟨vM, hvM⟩ : ∃ v, mv[j]? = some v := ⟨_, List.getElem?_eq_getElem (by have h1 := HLJ.out.ms.1; have h2 := HLJ.out.len.2; simp only [List.length_map] at h1; omega)⟩
            have hoS := HLJ.out.ss.2 j vS p.ss hvS (by rw [List.getElem?_map, hp]; rfl)
            have hoT := HLJ.out.ts.2 j vT p.ts hvT (by rw [List.getElem?_map, hp]; rfl)
            have hoM := HLJ.out.ms.2 j vM p.ms hvM (by rw [List.getElem?_map, hp]; rfl)
            obtain ⟨SA, sc, hS⟩ := row_sl hoS
            obtain ⟨TA, tc, hT⟩ := row_sl hoT
            obtain ⟨MA, mc, hM⟩ := row_sl hoM
            subst hS
            subst hT
            subst hM
            have hrS : wr.ownsRow B0 Hl.TI 1 ysv p.ss.length (p.ss.map iV) := by have h := HWJ.out.row j _ hy 0 (by omega); have h' : wr.ownsRow B0 Hl.TI 1 ysv (p.ss.map iV).length (p.ss.map iV) := h; rwa [List.length_map] at h'
            have hrT : wr.ownsRow B0 Hl.TI 1 ytv p.ts.length (p.ts.map iV) := by have h := HWJ.out.row j _ hy 1 (by omega); have h' : wr.ownsRow B0 Hl.TI 1 ytv (p.ts.map iV).length (p.ts.map iV) := h; rwa [List.length_map] at h'
            have hrM : wr.ownsRow B0 Hl.TI 1 ymv p.ms.length (p.ms.map iV) := by have h := HWJ.out.row j _ hy 2 (by omega); have h' : wr.ownsRow B0 Hl.TI 1 ymv (p.ms.map iV).length (p.ms.map iV) := h; rwa [List.length_map] at h'
            have hrW : wr.ownsRow B0 TU8 1 ywv p.ws.length (p.ws.map bV) := by have h := HWJ.out.row j _ hy 3 (by omega); have h' : wr.ownsRow B0 TU8 1 ywv (p.ws.map bV).length (p.ws.map bV) := h; rwa [List.length_map] at h'
            obtain ⟨RS, rs, hS⟩ := row_sl hrS
            obtain ⟨RT, rt, hT⟩ := row_sl hrT
            obtain ⟨RM, rm, hM⟩ := row_sl hrM
            obtain ⟨RW, rw0, hW⟩ := row_sl hrW
            subst hS
            subst hT
            subst hM
            subst hW
            have hro : wr.ownsRow B0 TW 8 (.slice RA N rc) N (wmC l) := by have h := HWJ.out.own; rwa [HLNN.out] at h
            obtain ⟨bR, hbR⟩ := row_someN hro (show 0 < N by omega)
            subst hbR
            have HRO := Lib.hid hro
            have HLX := Lib.hid hy
            obtain ⟨b5, hb5⟩ := row_someN (HLJ.out.rows.own 0 _ rfl) (show 0 < N by omega)
            subst hb5
            obtain ⟨b6, hb6⟩ := row_someN (HLJ.out.rows.own 1 _ rfl) (show 0 < N by omega)
            subst hb6
            obtain ⟨b7, hb7⟩ := row_someN (HLJ.out.rows.own 2 _ rfl) (show 0 < N by omega)
            subst hb7
            obtain ⟨b8, hb8⟩ := row_someN (HLJ.out.rows.own 3 _ rfl) (show 0 < N by omega)
            subst hb8
            obtain ⟨b9, hb9⟩ := row_someN (HLJ.out.rows.own 4 _ rfl) (show 0 < N by omega)
            subst hb9
            have HCS : Hid (∀ W, Below wr.heap.size wr W → W.cell? ⟨b6, j, none⟩ = some (.slice SA p.ss.length sc)) := Lib.hid (fun W hW => (row_cellN (own_kept (HLJ.out.rows.own 1 _ rfl) hW) hvS).1)
            have HCT : Hid (∀ W, Below wr.heap.size wr W → W.cell? ⟨b7, j, none⟩ = some (.slice TA p.ts.length tc)) := Lib.hid (fun W hW => (row_cellN (own_kept (HLJ.out.rows.own 2 _ rfl) hW) hvT).1)
            have HCM : Hid (∀ W, Below wr.heap.size wr W → W.cell? ⟨b8, j, none⟩ = some (.slice MA p.ms.length mc)) := Lib.hid (fun W hW => (row_cellN (own_kept (HLJ.out.rows.own 3 _ rfl) hW) hvM).1)
            have HCf : Hid (∀ W, Below wr.heap.size wr W → ∀ i, i < 8 → W.cell? ⟨b5, j * 8 + i, none⟩ = (evL f)[i]?) := Lib.hid (fun W hW i hi => fs_cell (own_kept (HLJ.out.rows.own 0 _ rfl) hW) hf hi)
            have HCb : Hid (∀ W, Below wr.heap.size wr W → ∀ i, i < 8 → W.cell? ⟨b9, j * 8 + i, none⟩ = (evL b)[i]?) := Lib.hid (fun W hW i hi => fs_cell (own_kept (HLJ.out.rows.own 4 _ rfl) hW) hb hi)
            have HKZ : Hid (∀ z : Kin wr.drew, Below wr.heap.size wr z.world) := Lib.hid (fun z => (bel_drew wr).trans z.below)
            have HOT : Hid (wr.ownsRow w.heap.size Hl.TI 1 (.slice TA p.ts.length tc) p.ts.length (p.ts.map iV)) := Lib.hid hoT
            have HOM : Hid (wr.ownsRow w.heap.size Hl.TI 1 (.slice MA p.ms.length mc) p.ms.length (p.ms.map iV)) := Lib.hid hoM
            have HLS := Lib.hid (lst_own hoS)
            have HLT := Lib.hid (lst_own hoT)
            have HLM := Lib.hid (lst_own hoM)
            have HRS' := Lib.hid (lst_own hrS)
            have HRT' := Lib.hid (lst_own hrT)
            have HRM' := Lib.hid (lst_own hrM)
            have HRW' := Lib.hid (lst_own hrW)
            have HNU1 : Hid (∀ z : Kin wr.drew, Calls Tryd.prog 36 #[.slice RS p.ss.length rs, .slice SA p.ss.length sc] z.world fun e' w' => e' = .returned (.bool true) ∧ Below z.world.heap.size z.world w') := Lib.hid (fun z => by have h := numbers_any RS p.ss.length rs p.ss SA p.ss.length sc p.ss z.world (HRS'.out.kept (HKZ.out z)) (HLS.out.kept (HKZ.out z)) HZL.out.1; simpa using h)
            have HNU2 : Hid (∀ z : Kin wr.drew, Calls Tryd.prog 36 #[.slice RT p.ts.length rt, .slice TA p.ts.length tc] z.world fun e' w' => e' = .returned (.bool true) ∧ Below z.world.heap.size z.world w') := Lib.hid (fun z => by have h := numbers_any RT p.ts.length rt p.ts TA p.ts.length tc p.ts z.world (HRT'.out.kept (HKZ.out z)) (HLT.out.kept (HKZ.out z)) HZL.out.2.1; simpa using h)
            have HNU3 : Hid (∀ z : Kin wr.drew, Calls Tryd.prog 36 #[.slice RM p.ms.length rm, .slice MA p.ms.length mc] z.world fun e' w' => e' = .returned (.bool true) ∧ Below z.world.heap.size z.world w') := Lib.hid (fun z => by have h := numbers_any RM p.ms.length rm p.ms MA p.ms.length mc p.ms z.world (HRM'.out.kept (HKZ.out z)) (HLM.out.kept (HKZ.out z)) HZL.out.2.2; simpa using h)
            obtain ⟨SW, HSW⟩ : ∃ S, Hid (strB (p.ws.map fun (x : Nat) => (x : Int)) = S) := ⟨_, Lib.hid rfl⟩
            have CX : ∀ z : Kin wr.drew, (convert 33 9 (.slice RW p.ws.length rw0)).run Tryd.prog z.world = .ok (.string SW) z.world := fun z => by rw [← HSW.out]; exact str_conv (HRW'.out.kept (HKZ.out z))
            have CB : ∀ z : Kin wr.drew, (convert 33 9 (.slice b.A b.n b.d)).run Tryd.prog z.world = .ok (.string SW) z.world := fun z => by rw [← HSW.out]; exact str_conv (HBB.out.2.1.kept (HB5.out.trans ((HKZ.out z).mono HB5.out.size)))
            have r0 : ∀ z : Kin wr.drew, z.world.cell? ⟨bR, j * 8, none⟩ = some (.int .i64 p.s) := fun z => wm_cell (own_kept HRO.out (HKZ.out z)) HLX.out (i := 0) (by omega)
            have r1 : ∀ z : Kin wr.drew, z.world.cell? ⟨bR, j * 8 + 1, none⟩ = some (.int .i64 p.v) := fun z => wm_cell (own_kept HRO.out (HKZ.out z)) HLX.out (i := 1) (by omega)
            have r2 : ∀ z : Kin wr.drew, z.world.cell? ⟨bR, j * 8 + 2, none⟩ = some (.int .i64 p.t) := fun z => wm_cell (own_kept HRO.out (HKZ.out z)) HLX.out (i := 2) (by omega)
            have r3 : ∀ z : Kin wr.drew, z.world.cell? ⟨bR, j * 8 + 3, none⟩ = some (.slice RS p.ss.length rs) := fun z => wm_cell (own_kept HRO.out (HKZ.out z)) HLX.out (i := 3) (by omega)
            have r4 : ∀ z : Kin wr.drew, z.world.cell? ⟨bR, j * 8 + 4, none⟩ = some (.slice RT p.ts.length rt) := fun z => wm_cell (own_kept HRO.out (HKZ.out z)) HLX.out (i := 4) (by omega)
            have r5 : ∀ z : Kin wr.drew, z.world.cell? ⟨bR, j * 8 + 5, none⟩ = some (.slice RM p.ms.length rm) := fun z => wm_cell (own_kept HRO.out (HKZ.out z)) HLX.out (i := 5) (by omega)
            have r6 : ∀ z : Kin wr.drew, z.world.cell? ⟨bR, j * 8 + 6, none⟩ = some (.int .i64 p.c) := fun z => wm_cell (own_kept HRO.out (HKZ.out z)) HLX.out (i := 6) (by omega)
            have r7 : ∀ z : Kin wr.drew, z.world.cell? ⟨bR, j * 8 + 7, none⟩ = some (.slice RW p.ws.length rw0) := fun z => wm_cell (own_kept HRO.out (HKZ.out z)) HLX.out (i := 7) (by omega)
            have d6 : ∀ z : Kin wr.drew, z.world.cell? ⟨b6, j, none⟩ = some (.slice SA p.ss.length sc) := fun z => HCS.out _ (HKZ.out z)
            have d7 : ∀ z : Kin wr.drew, z.world.cell? ⟨b7, j, none⟩ = some (.slice TA p.ts.length tc) := fun z => HCT.out _ (HKZ.out z)
            have d8 : ∀ z : Kin wr.drew, z.world.cell? ⟨b8, j, none⟩ = some (.slice MA p.ms.length mc) := fun z => HCM.out _ (HKZ.out z)
            have f3 : ∀ z : Kin wr.drew, z.world.cell? ⟨b5, j * 8 + 3, none⟩ = some (.int .i64 f.s) := fun z => HCf.out _ (HKZ.out z) 3 (by omega)
            have f4 : ∀ z : Kin wr.drew, z.world.cell? ⟨b5, j * 8 + 4, none⟩ = some (.int .i64 f.v) := fun z => HCf.out _ (HKZ.out z) 4 (by omega)
            have f5 : ∀ z : Kin wr.drew, z.world.cell? ⟨b5, j * 8 + 5, none⟩ = some (.int .i64 f.si) := fun z => HCf.out _ (HKZ.out z) 5 (by omega)
            have d9 : ∀ z : Kin wr.drew, z.world.cell? ⟨b9, j * 8 + 6, none⟩ = some (.int .i64 b.c) := fun z => HCb.out _ (HKZ.out z) 6 (by omega)
            have d0 : ∀ z : Kin wr.drew, z.world.cell? ⟨b9, j * 8 + 7, none⟩ = some (.slice b.A b.n b.d) := fun z => HCb.out _ (HKZ.out z) 7 (by omega)
            have n1 : (p.s != f.s) = false := by rw [hhj.1]; simp
            have n2 : (p.v != f.v) = false := by rw [hhj.2.1]; simp
            have n3 : (p.t != f.si) = false := by rw [hhj.2.2]; simp
            have n4 : (p.c != b.c) = false := by rw [HBB.out.1]; simp
            have n5 : (SW != SW) = false := ba_nself SW
            have n6 : (SW.toList != SW.toList) = false := bne_self_eq_false _
            clear hf hb hy hp hhj hvS hvT hvM hoS hoT hoM hrS hrT hrM hrW hro hbj
            go_upto_region 41 with (fail)
            refine wp_region_specL 104 [.d (.slice (some ⟨bR, 0, none⟩) N rc), .d (.int .i64 (j : Int)), .d (.pointer (some ⟨bR, j * 8, none⟩)), .d (.pointer (some ⟨bR, j * 8, none⟩)), .d (.int .i64 p.s), .d (.slice (some ⟨b5, 0, none⟩) N c5), .d (.int .i64 (j : Int)), .d (.pointer (some ⟨b5, j * 8, none⟩)), .d (.pointer (some ⟨b5, j * 8 + 3, none⟩)), .d (.int .i64 f.s), .d (.bool false), .d (.bool false), .d (.slice (some ⟨bR, 0, none⟩) N rc), .d (.int .i64 (j : Int)), .d (.pointer (some ⟨bR, j * 8, none⟩)), .d (.pointer (some ⟨bR, j * 8 + 1, none⟩)), .d (.int .i64 p.v), .d (.slice (some ⟨b5, 0, none⟩) N c5), .d (.int .i64 (j : Int)), .d (.pointer (some ⟨b5, j * 8, none⟩)), .d (.pointer (some ⟨b5, j * 8 + 4, none⟩)), .d (.int .i64 f.v), .d (.bool false), .d (.bool false), .d (.bool false), .d (.slice (some ⟨bR, 0, none⟩) N rc), .d (.int .i64 (j : Int)), .d (.pointer (some ⟨bR, j * 8, none⟩)), .d (.pointer (some ⟨bR, j * 8 + 2, none⟩)), .d (.int .i64 p.t), .d (.slice (some ⟨b5, 0, none⟩) N c5), .d (.int .i64 (j : Int)), .d (.pointer (some ⟨b5, j * 8, none⟩)), .d (.pointer (some ⟨b5, j * 8 + 5, none⟩)), .d (.int .i64 f.si), .d (.bool false), .d (.bool false), .d (.bool false), .d (.slice (some ⟨bR, 0, none⟩) N rc), .d (.int .i64 (j : Int)), .d (.pointer (some ⟨bR, j * 8, none⟩)), .d (.pointer (some ⟨bR, j * 8 + 3, none⟩)), .d (.slice RS p.ss.length rs), .d (.slice (some ⟨b6, 0, none⟩) N c6), .d (.int .i64 (j : Int)), .d (.pointer (some ⟨b6, j, none⟩)), .d (.slice SA p.ss.length sc), .d (.bool true), .d (.bool false), .d (.bool false), .d (.bool false), .d (.slice (some ⟨bR, 0, none⟩) N rc), .d (.int .i64 (j : Int)), .d (.pointer (some ⟨bR, j * 8, none⟩)), .d (.pointer (some ⟨bR, j * 8 + 4, none⟩)), .d (.slice RT p.ts.length rt), .d (.slice (some ⟨b7, 0, none⟩) N c7), .d (.int .i64 (j : Int)), .d (.pointer (some ⟨b7, j, none⟩)), .d (.slice TA p.ts.length tc), .d (.bool true), .d (.bool false), .d (.bool false), .d (.bool false), .d (.slice (some ⟨bR, 0, none⟩) N rc), .d (.int .i64 (j : Int)), .d (.pointer (some ⟨bR, j * 8, none⟩)), .d (.pointer (some ⟨bR, j * 8 + 5, none⟩)), .d (.slice RM p.ms.length rm), .d (.slice (some ⟨b8, 0, none⟩) N c8), .d (.int .i64 (j : Int)), .d (.pointer (some ⟨b8, j, none⟩)), .d (.slice MA p.ms.length mc), .d (.bool true), .d (.bool false), .d (.bool false), .d (.bool false), .d (.slice (some ⟨bR, 0, none⟩) N rc), .d (.int .i64 (j : Int)), .d (.pointer (some ⟨bR, j * 8, none⟩)), .d (.pointer (some ⟨bR, j * 8 + 6, none⟩)), .d (.int .i64 p.c), .d (.slice (some ⟨b9, 0, none⟩) N c9), .d (.int .i64 (j : Int)), .d (.pointer (some ⟨b9, j * 8, none⟩)), .d (.pointer (some ⟨b9, j * 8 + 6, none⟩)), .d (.int .i64 b.c), .d (.bool false), .d (.bool false), .d (.bool false), .d (.slice (some ⟨bR, 0, none⟩) N rc), .d (.int .i64 (j : Int)), .d (.pointer (some ⟨bR, j * 8, none⟩)), .d (.pointer (some ⟨bR, j * 8 + 7, none⟩)), .d (.slice RW p.ws.length rw0), .d (.string SW), .d (.slice (some ⟨b9, 0, none⟩) N c9), .d (.int .i64 (j : Int)), .d (.pointer (some ⟨b9, j * 8, none⟩)), .d (.pointer (some ⟨b9, j * 8 + 7, none⟩)), .d (.slice b.A b.n b.d), .d (.string SW), .d (.bool false), .d (.bool false)] (by kernel_rfl) (by kernel_rfl) ?_
            refine spec_d rfl (fun x _ => gives_run rfl) ?_
            try simp only [Act.put, List.getElem_toArray, List.getElem_cons_succ, List.getElem_cons_zero, List.setIfInBounds_toArray, List.set_cons_zero, List.set_cons_succ]
            refine spec_d rfl (fun x _ => gives_run rfl) ?_
            try simp only [Act.put, List.getElem_toArray, List.getElem_cons_succ, List.getElem_cons_zero, List.setIfInBounds_toArray, List.set_cons_zero, List.set_cons_succ]
            refine spec_d rfl (fun x _ => gives_run (by go_simp)) ?_
            try simp only [Act.put, List.getElem_toArray, List.getElem_cons_succ, List.getElem_cons_zero, List.setIfInBounds_toArray, List.set_cons_zero, List.set_cons_succ]
            refine spec_d rfl (fun x _ => gives_run rfl) ?_
            try simp only [Act.put, List.getElem_toArray, List.getElem_cons_succ, List.getElem_cons_zero, List.setIfInBounds_toArray, List.set_cons_zero, List.set_cons_succ]
            refine spec_d rfl (fun x _ => gives_run (by go_simp)) ?_
            try simp only [Act.put, List.getElem_toArray, List.getElem_cons_succ, List.getElem_cons_zero, List.setIfInBounds_toArray, List.set_cons_zero, List.set_cons_succ]
            refine spec_d rfl (fun x _ => gives_run rfl) ?_
            try simp only [Act.put, List.getElem_toArray, List.getElem_cons_succ, List.getElem_cons_zero, List.setIfInBounds_toArray, List.set_cons_zero, List.set_cons_succ]
            refine spec_d rfl (fun x _ => gives_run rfl) ?_
            try simp only [Act.put, List.getElem_toArray, List.getElem_cons_succ, List.getElem_cons_zero, List.setIfInBounds_toArray, List.set_cons_zero, List.set_cons_succ]
            refine spec_d rfl (fun x _ => gives_run (by go_simp)) ?_
            try simp only [Act.put, List.getElem_toArray, List.getElem_cons_succ, List.getElem_cons_zero, List.setIfInBounds_toArray, List.set_cons_zero, List.set_cons_succ]
            refine spec_d rfl (fun x _ => gives_run rfl) ?_
            try simp only [Act.put, List.getElem_toArray, List.getElem_cons_succ, List.getElem_cons_zero, List.setIfInBounds_toArray, List.set_cons_zero, List.set_cons_succ]
            refine spec_d rfl (fun x _ => gives_run (by go_simp)) ?_
            try simp only [Act.put, List.getElem_toArray, List.getElem_cons_succ, List.getElem_cons_zero, List.setIfInBounds_toArray, List.set_cons_zero, List.set_cons_succ]
            refine spec_d rfl (fun x _ => gives_run (by go_simp)) ?_
            try simp only [Act.put, List.getElem_toArray, List.getElem_cons_succ, List.getElem_cons_zero, List.setIfInBounds_toArray, List.set_cons_zero, List.set_cons_succ]
            refine spec_d rfl (fun x _ => gives_run rfl) ?_
            try simp only [Act.put, List.getElem_toArray, List.getElem_cons_succ, List.getElem_cons_zero, List.setIfInBounds_toArray, List.set_cons_zero, List.set_cons_succ]
            refine spec_d rfl (fun x _ => gives_run rfl) ?_
            try simp only [Act.put, List.getElem_toArray, List.getElem_cons_succ, List.getElem_cons_zero, List.setIfInBounds_toArray, List.set_cons_zero, List.set_cons_succ]
            refine spec_d rfl (fun x _ => gives_run rfl) ?_
            try simp only [Act.put, List.getElem_toArray, List.getElem_cons_succ, List.getElem_cons_zero, List.setIfInBounds_toArray, List.set_cons_zero, List.set_cons_succ]
            refine spec_d rfl (fun x _ => gives_run (by go_simp)) ?_
            try simp only [Act.put, List.getElem_toArray, List.getElem_cons_succ, List.getElem_cons_zero, List.setIfInBounds_toArray, List.set_cons_zero, List.set_cons_succ]
            refine spec_d rfl (fun x _ => gives_run rfl) ?_
            try simp only [Act.put, List.getElem_toArray, List.getElem_cons_succ, List.getElem_cons_zero, List.setIfInBounds_toArray, List.set_cons_zero, List.set_cons_succ]
            refine spec_d rfl (fun x _ => gives_run (by go_simp)) ?_
            try simp only [Act.put, List.getElem_toArray, List.getElem_cons_succ, List.getElem_cons_zero, List.setIfInBounds_toArray, List.set_cons_zero, List.set_cons_succ]
            refine spec_d rfl (fun x _ => gives_run rfl) ?_
            try simp only [Act.put, List.getElem_toArray, List.getElem_cons_succ, List.getElem_cons_zero, List.setIfInBounds_toArray, List.set_cons_zero, List.set_cons_succ]
            refine spec_d rfl (fun x _ => gives_run rfl) ?_
            try simp only [Act.put, List.getElem_toArray, List.getElem_cons_succ, List.getElem_cons_zero, List.setIfInBounds_toArray, List.set_cons_zero, List.set_cons_succ]
            refine spec_d rfl (fun x _ => gives_run (by go_simp)) ?_
            try simp only [Act.put, List.getElem_toArray, List.getElem_cons_succ, List.getElem_cons_zero, List.setIfInBounds_toArray, List.set_cons_zero, List.set_cons_succ]
            refine spec_d rfl (fun x _ => gives_run rfl) ?_
            try simp only [Act.put, List.getElem_toArray, List.getElem_cons_succ, List.getElem_cons_zero, List.setIfInBounds_toArray, List.set_cons_zero, List.set_cons_succ]
            refine spec_d rfl (fun x _ => gives_run (by go_simp)) ?_
            try simp only [Act.put, List.getElem_toArray, List.getElem_cons_succ, List.getElem_cons_zero, List.setIfInBounds_toArray, List.set_cons_zero, List.set_cons_succ]
            refine spec_d rfl (fun x _ => gives_run (by go_simp)) ?_
            try simp only [Act.put, List.getElem_toArray, List.getElem_cons_succ, List.getElem_cons_zero, List.setIfInBounds_toArray, List.set_cons_zero, List.set_cons_succ]
            refine spec_d rfl (fun x _ => gives_run rfl) ?_
            try simp only [Act.put, List.getElem_toArray, List.getElem_cons_succ, List.getElem_cons_zero, List.setIfInBounds_toArray, List.set_cons_zero, List.set_cons_succ]
            refine spec_d rfl (fun x _ => gives_run rfl) ?_
            try simp only [Act.put, List.getElem_toArray, List.getElem_cons_succ, List.getElem_cons_zero, List.setIfInBounds_toArray, List.set_cons_zero, List.set_cons_succ]
            refine spec_d rfl (fun x _ => gives_run rfl) ?_
            try simp only [Act.put, List.getElem_toArray, List.getElem_cons_succ, List.getElem_cons_zero, List.setIfInBounds_toArray, List.set_cons_zero, List.set_cons_succ]
            refine spec_d rfl (fun x _ => gives_run rfl) ?_
            try simp only [Act.put, List.getElem_toArray, List.getElem_cons_succ, List.getElem_cons_zero, List.setIfInBounds_toArray, List.set_cons_zero, List.set_cons_succ]
            refine spec_d rfl (fun x _ => gives_run (by go_simp)) ?_
            try simp only [Act.put, List.getElem_toArray, List.getElem_cons_succ, List.getElem_cons_zero, List.setIfInBounds_toArray, List.set_cons_zero, List.set_cons_succ]
            refine spec_d rfl (fun x _ => gives_run rfl) ?_
            try simp only [Act.put, List.getElem_toArray, List.getElem_cons_succ, List.getElem_cons_zero, List.setIfInBounds_toArray, List.set_cons_zero, List.set_cons_succ]
            refine spec_d rfl (fun x _ => gives_run (by go_simp)) ?_
            try simp only [Act.put, List.getElem_toArray, List.getElem_cons_succ, List.getElem_cons_zero, List.setIfInBounds_toArray, List.set_cons_zero, List.set_cons_succ]
            refine spec_d rfl (fun x _ => gives_run rfl) ?_
            try simp only [Act.put, List.getElem_toArray, List.getElem_cons_succ, List.getElem_cons_zero, List.setIfInBounds_toArray, List.set_cons_zero, List.set_cons_succ]
            refine spec_d rfl (fun x _ => gives_run rfl) ?_
            try simp only [Act.put, List.getElem_toArray, List.getElem_cons_succ, List.getElem_cons_zero, List.setIfInBounds_toArray, List.set_cons_zero, List.set_cons_succ]
            refine spec_d rfl (fun x _ => gives_run (by go_simp)) ?_
            try simp only [Act.put, List.getElem_toArray, List.getElem_cons_succ, List.getElem_cons_zero, List.setIfInBounds_toArray, List.set_cons_zero, List.set_cons_succ]
            refine spec_d rfl (fun x _ => gives_run rfl) ?_
            try simp only [Act.put, List.getElem_toArray, List.getElem_cons_succ, List.getElem_cons_zero, List.setIfInBounds_toArray, List.set_cons_zero, List.set_cons_succ]
            refine spec_d rfl (fun x _ => gives_run (by go_simp)) ?_
            try simp only [Act.put, List.getElem_toArray, List.getElem_cons_succ, List.getElem_cons_zero, List.setIfInBounds_toArray, List.set_cons_zero, List.set_cons_succ]
            refine spec_d rfl (fun x _ => gives_run (by go_simp)) ?_
            try simp only [Act.put, List.getElem_toArray, List.getElem_cons_succ, List.getElem_cons_zero, List.setIfInBounds_toArray, List.set_cons_zero, List.set_cons_succ]
            refine spec_d rfl (fun x _ => gives_run rfl) ?_
            try simp only [Act.put, List.getElem_toArray, List.getElem_cons_succ, List.getElem_cons_zero, List.setIfInBounds_toArray, List.set_cons_zero, List.set_cons_succ]
            refine spec_d rfl (fun x _ => gives_run rfl) ?_
            try simp only [Act.put, List.getElem_toArray, List.getElem_cons_succ, List.getElem_cons_zero, List.setIfInBounds_toArray, List.set_cons_zero, List.set_cons_succ]
            refine spec_d rfl (fun x _ => gives_run rfl) ?_
            try simp only [Act.put, List.getElem_toArray, List.getElem_cons_succ, List.getElem_cons_zero, List.setIfInBounds_toArray, List.set_cons_zero, List.set_cons_succ]
            refine spec_d rfl (fun x _ => gives_run rfl) ?_
            try simp only [Act.put, List.getElem_toArray, List.getElem_cons_succ, List.getElem_cons_zero, List.setIfInBounds_toArray, List.set_cons_zero, List.set_cons_succ]
            refine spec_d rfl (fun x _ => gives_run (by go_simp)) ?_
            try simp only [Act.put, List.getElem_toArray, List.getElem_cons_succ, List.getElem_cons_zero, List.setIfInBounds_toArray, List.set_cons_zero, List.set_cons_succ]
            refine spec_d rfl (fun x _ => gives_run rfl) ?_
            try simp only [Act.put, List.getElem_toArray, List.getElem_cons_succ, List.getElem_cons_zero, List.setIfInBounds_toArray, List.set_cons_zero, List.set_cons_succ]
            refine spec_d rfl (fun x _ => gives_run (by go_simp)) ?_
            try simp only [Act.put, List.getElem_toArray, List.getElem_cons_succ, List.getElem_cons_zero, List.setIfInBounds_toArray, List.set_cons_zero, List.set_cons_succ]
            refine spec_d rfl (fun x _ => gives_run rfl) ?_
            try simp only [Act.put, List.getElem_toArray, List.getElem_cons_succ, List.getElem_cons_zero, List.setIfInBounds_toArray, List.set_cons_zero, List.set_cons_succ]
            refine spec_d rfl (fun x _ => gives_run rfl) ?_
            try simp only [Act.put, List.getElem_toArray, List.getElem_cons_succ, List.getElem_cons_zero, List.setIfInBounds_toArray, List.set_cons_zero, List.set_cons_succ]
            refine spec_d rfl (fun x _ => gives_run (by go_simp)) ?_
            try simp only [Act.put, List.getElem_toArray, List.getElem_cons_succ, List.getElem_cons_zero, List.setIfInBounds_toArray, List.set_cons_zero, List.set_cons_succ]
            refine spec_d rfl (fun x _ => gives_run (by go_simp)) ?_
            try simp only [Act.put, List.getElem_toArray, List.getElem_cons_succ, List.getElem_cons_zero, List.setIfInBounds_toArray, List.set_cons_zero, List.set_cons_succ]
            refine spec_d rfl (fun z _ => gives_det (by go_simp) (HNU1.out z)) ?_
            try simp only [Act.put, List.getElem_toArray, List.getElem_cons_succ, List.getElem_cons_zero, List.setIfInBounds_toArray, List.set_cons_zero, List.set_cons_succ]
            refine spec_d rfl (fun x _ => gives_run rfl) ?_
            try simp only [Act.put, List.getElem_toArray, List.getElem_cons_succ, List.getElem_cons_zero, List.setIfInBounds_toArray, List.set_cons_zero, List.set_cons_succ]
            refine spec_d rfl (fun x _ => gives_run rfl) ?_
            try simp only [Act.put, List.getElem_toArray, List.getElem_cons_succ, List.getElem_cons_zero, List.setIfInBounds_toArray, List.set_cons_zero, List.set_cons_succ]
            refine spec_d rfl (fun x _ => gives_run rfl) ?_
            try simp only [Act.put, List.getElem_toArray, List.getElem_cons_succ, List.getElem_cons_zero, List.setIfInBounds_toArray, List.set_cons_zero, List.set_cons_succ]
            refine spec_d rfl (fun x _ => gives_run rfl) ?_
            try simp only [Act.put, List.getElem_toArray, List.getElem_cons_succ, List.getElem_cons_zero, List.setIfInBounds_toArray, List.set_cons_zero, List.set_cons_succ]
            refine spec_d rfl (fun x _ => gives_run rfl) ?_
            try simp only [Act.put, List.getElem_toArray, List.getElem_cons_succ, List.getElem_cons_zero, List.setIfInBounds_toArray, List.set_cons_zero, List.set_cons_succ]
            refine spec_d rfl (fun x _ => gives_run (by go_simp)) ?_
            try simp only [Act.put, List.getElem_toArray, List.getElem_cons_succ, List.getElem_cons_zero, List.setIfInBounds_toArray, List.set_cons_zero, List.set_cons_succ]
            refine spec_d rfl (fun x _ => gives_run rfl) ?_
            try simp only [Act.put, List.getElem_toArray, List.getElem_cons_succ, List.getElem_cons_zero, List.setIfInBounds_toArray, List.set_cons_zero, List.set_cons_succ]
            refine spec_d rfl (fun x _ => gives_run (by go_simp)) ?_
            try simp only [Act.put, List.getElem_toArray, List.getElem_cons_succ, List.getElem_cons_zero, List.setIfInBounds_toArray, List.set_cons_zero, List.set_cons_succ]
            refine spec_d rfl (fun x _ => gives_run rfl) ?_
            try simp only [Act.put, List.getElem_toArray, List.getElem_cons_succ, List.getElem_cons_zero, List.setIfInBounds_toArray, List.set_cons_zero, List.set_cons_succ]
            refine spec_d rfl (fun x _ => gives_run rfl) ?_
            try simp only [Act.put, List.getElem_toArray, List.getElem_cons_succ, List.getElem_cons_zero, List.setIfInBounds_toArray, List.set_cons_zero, List.set_cons_succ]
            refine spec_d rfl (fun x _ => gives_run (by go_simp)) ?_
            try simp only [Act.put, List.getElem_toArray, List.getElem_cons_succ, List.getElem_cons_zero, List.setIfInBounds_toArray, List.set_cons_zero, List.set_cons_succ]
            refine spec_d rfl (fun x _ => gives_run (by go_simp)) ?_
            try simp only [Act.put, List.getElem_toArray, List.getElem_cons_succ, List.getElem_cons_zero, List.setIfInBounds_toArray, List.set_cons_zero, List.set_cons_succ]
            refine spec_d rfl (fun z _ => gives_det (by go_simp) (HNU2.out z)) ?_
            try simp only [Act.put, List.getElem_toArray, List.getElem_cons_succ, List.getElem_cons_zero, List.setIfInBounds_toArray, List.set_cons_zero, List.set_cons_succ]
            refine spec_d rfl (fun x _ => gives_run rfl) ?_
            try simp only [Act.put, List.getElem_toArray, List.getElem_cons_succ, List.getElem_cons_zero, List.setIfInBounds_toArray, List.set_cons_zero, List.set_cons_succ]
            refine spec_d rfl (fun x _ => gives_run rfl) ?_
            try simp only [Act.put, List.getElem_toArray, List.getElem_cons_succ, List.getElem_cons_zero, List.setIfInBounds_toArray, List.set_cons_zero, List.set_cons_succ]
            refine spec_d rfl (fun x _ => gives_run rfl) ?_
            try simp only [Act.put, List.getElem_toArray, List.getElem_cons_succ, List.getElem_cons_zero, List.setIfInBounds_toArray, List.set_cons_zero, List.set_cons_succ]
            refine spec_d rfl (fun x _ => gives_run rfl) ?_
            try simp only [Act.put, List.getElem_toArray, List.getElem_cons_succ, List.getElem_cons_zero, List.setIfInBounds_toArray, List.set_cons_zero, List.set_cons_succ]
            refine spec_d rfl (fun x _ => gives_run rfl) ?_
            try simp only [Act.put, List.getElem_toArray, List.getElem_cons_succ, List.getElem_cons_zero, List.setIfInBounds_toArray, List.set_cons_zero, List.set_cons_succ]
            refine spec_d rfl (fun x _ => gives_run (by go_simp)) ?_
            try simp only [Act.put, List.getElem_toArray, List.getElem_cons_succ, List.getElem_cons_zero, List.setIfInBounds_toArray, List.set_cons_zero, List.set_cons_succ]
            refine spec_d rfl (fun x _ => gives_run rfl) ?_
            try simp only [Act.put, List.getElem_toArray, List.getElem_cons_succ, List.getElem_cons_zero, List.setIfInBounds_toArray, List.set_cons_zero, List.set_cons_succ]
            refine spec_d rfl (fun x _ => gives_run (by go_simp)) ?_
            try simp only [Act.put, List.getElem_toArray, List.getElem_cons_succ, List.getElem_cons_zero, List.setIfInBounds_toArray, List.set_cons_zero, List.set_cons_succ]
            refine spec_d rfl (fun x _ => gives_run rfl) ?_
            try simp only [Act.put, List.getElem_toArray, List.getElem_cons_succ, List.getElem_cons_zero, List.setIfInBounds_toArray, List.set_cons_zero, List.set_cons_succ]
            refine spec_d rfl (fun x _ => gives_run rfl) ?_
            try simp only [Act.put, List.getElem_toArray, List.getElem_cons_succ, List.getElem_cons_zero, List.setIfInBounds_toArray, List.set_cons_zero, List.set_cons_succ]
            refine spec_d rfl (fun x _ => gives_run (by go_simp)) ?_
            try simp only [Act.put, List.getElem_toArray, List.getElem_cons_succ, List.getElem_cons_zero, List.setIfInBounds_toArray, List.set_cons_zero, List.set_cons_succ]
            refine spec_d rfl (fun x _ => gives_run (by go_simp)) ?_
            try simp only [Act.put, List.getElem_toArray, List.getElem_cons_succ, List.getElem_cons_zero, List.setIfInBounds_toArray, List.set_cons_zero, List.set_cons_succ]
            refine spec_d rfl (fun z _ => gives_det (by go_simp) (HNU3.out z)) ?_
            try simp only [Act.put, List.getElem_toArray, List.getElem_cons_succ, List.getElem_cons_zero, List.setIfInBounds_toArray, List.set_cons_zero, List.set_cons_succ]
            refine spec_d rfl (fun x _ => gives_run rfl) ?_
            try simp only [Act.put, List.getElem_toArray, List.getElem_cons_succ, List.getElem_cons_zero, List.setIfInBounds_toArray, List.set_cons_zero, List.set_cons_succ]
            refine spec_d rfl (fun x _ => gives_run rfl) ?_
            try simp only [Act.put, List.getElem_toArray, List.getElem_cons_succ, List.getElem_cons_zero, List.setIfInBounds_toArray, List.set_cons_zero, List.set_cons_succ]
            refine spec_d rfl (fun x _ => gives_run rfl) ?_
            try simp only [Act.put, List.getElem_toArray, List.getElem_cons_succ, List.getElem_cons_zero, List.setIfInBounds_toArray, List.set_cons_zero, List.set_cons_succ]
            refine spec_d rfl (fun x _ => gives_run rfl) ?_
            try simp only [Act.put, List.getElem_toArray, List.getElem_cons_succ, List.getElem_cons_zero, List.setIfInBounds_toArray, List.set_cons_zero, List.set_cons_succ]
            refine spec_d rfl (fun x _ => gives_run rfl) ?_
            try simp only [Act.put, List.getElem_toArray, List.getElem_cons_succ, List.getElem_cons_zero, List.setIfInBounds_toArray, List.set_cons_zero, List.set_cons_succ]
            refine spec_d rfl (fun x _ => gives_run (by go_simp)) ?_
            try simp only [Act.put, List.getElem_toArray, List.getElem_cons_succ, List.getElem_cons_zero, List.setIfInBounds_toArray, List.set_cons_zero, List.set_cons_succ]
            refine spec_d rfl (fun x _ => gives_run rfl) ?_
            try simp only [Act.put, List.getElem_toArray, List.getElem_cons_succ, List.getElem_cons_zero, List.setIfInBounds_toArray, List.set_cons_zero, List.set_cons_succ]
            refine spec_d rfl (fun x _ => gives_run (by go_simp)) ?_
            try simp only [Act.put, List.getElem_toArray, List.getElem_cons_succ, List.getElem_cons_zero, List.setIfInBounds_toArray, List.set_cons_zero, List.set_cons_succ]
            refine spec_d rfl (fun x _ => gives_run rfl) ?_
            try simp only [Act.put, List.getElem_toArray, List.getElem_cons_succ, List.getElem_cons_zero, List.setIfInBounds_toArray, List.set_cons_zero, List.set_cons_succ]
            refine spec_d rfl (fun x _ => gives_run rfl) ?_
            try simp only [Act.put, List.getElem_toArray, List.getElem_cons_succ, List.getElem_cons_zero, List.setIfInBounds_toArray, List.set_cons_zero, List.set_cons_succ]
            refine spec_d rfl (fun x _ => gives_run (by go_simp)) ?_
            try simp only [Act.put, List.getElem_toArray, List.getElem_cons_succ, List.getElem_cons_zero, List.setIfInBounds_toArray, List.set_cons_zero, List.set_cons_succ]
            refine spec_d rfl (fun x _ => gives_run rfl) ?_
            try simp only [Act.put, List.getElem_toArray, List.getElem_cons_succ, List.getElem_cons_zero, List.setIfInBounds_toArray, List.set_cons_zero, List.set_cons_succ]
            refine spec_d rfl (fun x _ => gives_run (by go_simp)) ?_
            try simp only [Act.put, List.getElem_toArray, List.getElem_cons_succ, List.getElem_cons_zero, List.setIfInBounds_toArray, List.set_cons_zero, List.set_cons_succ]
            refine spec_d rfl (fun x _ => gives_run (by go_simp)) ?_
            try simp only [Act.put, List.getElem_toArray, List.getElem_cons_succ, List.getElem_cons_zero, List.setIfInBounds_toArray, List.set_cons_zero, List.set_cons_succ]
            refine spec_d rfl (fun x _ => gives_run rfl) ?_
            try simp only [Act.put, List.getElem_toArray, List.getElem_cons_succ, List.getElem_cons_zero, List.setIfInBounds_toArray, List.set_cons_zero, List.set_cons_succ]
            refine spec_d rfl (fun x _ => gives_run rfl) ?_
            try simp only [Act.put, List.getElem_toArray, List.getElem_cons_succ, List.getElem_cons_zero, List.setIfInBounds_toArray, List.set_cons_zero, List.set_cons_succ]
            refine spec_d rfl (fun x _ => gives_run rfl) ?_
            try simp only [Act.put, List.getElem_toArray, List.getElem_cons_succ, List.getElem_cons_zero, List.setIfInBounds_toArray, List.set_cons_zero, List.set_cons_succ]
            refine spec_d rfl (fun x _ => gives_run rfl) ?_
            try simp only [Act.put, List.getElem_toArray, List.getElem_cons_succ, List.getElem_cons_zero, List.setIfInBounds_toArray, List.set_cons_zero, List.set_cons_succ]
            refine spec_d rfl (fun x _ => gives_run (by go_simp)) ?_
            try simp only [Act.put, List.getElem_toArray, List.getElem_cons_succ, List.getElem_cons_zero, List.setIfInBounds_toArray, List.set_cons_zero, List.set_cons_succ]
            refine spec_d rfl (fun x _ => gives_run rfl) ?_
            try simp only [Act.put, List.getElem_toArray, List.getElem_cons_succ, List.getElem_cons_zero, List.setIfInBounds_toArray, List.set_cons_zero, List.set_cons_succ]
            refine spec_d rfl (fun x _ => gives_run (by go_simp)) ?_
            try simp only [Act.put, List.getElem_toArray, List.getElem_cons_succ, List.getElem_cons_zero, List.setIfInBounds_toArray, List.set_cons_zero, List.set_cons_succ]
            refine spec_d rfl (fun x _ => gives_run (by go_simp)) ?_
            try simp only [Act.put, List.getElem_toArray, List.getElem_cons_succ, List.getElem_cons_zero, List.setIfInBounds_toArray, List.set_cons_zero, List.set_cons_succ]
            refine spec_d rfl (fun x _ => gives_run rfl) ?_
            try simp only [Act.put, List.getElem_toArray, List.getElem_cons_succ, List.getElem_cons_zero, List.setIfInBounds_toArray, List.set_cons_zero, List.set_cons_succ]
            refine spec_d rfl (fun x _ => gives_run rfl) ?_
            try simp only [Act.put, List.getElem_toArray, List.getElem_cons_succ, List.getElem_cons_zero, List.setIfInBounds_toArray, List.set_cons_zero, List.set_cons_succ]
            refine spec_d rfl (fun x _ => gives_run (by go_simp)) ?_
            try simp only [Act.put, List.getElem_toArray, List.getElem_cons_succ, List.getElem_cons_zero, List.setIfInBounds_toArray, List.set_cons_zero, List.set_cons_succ]
            refine spec_d rfl (fun x _ => gives_run rfl) ?_
            try simp only [Act.put, List.getElem_toArray, List.getElem_cons_succ, List.getElem_cons_zero, List.setIfInBounds_toArray, List.set_cons_zero, List.set_cons_succ]
            refine spec_d rfl (fun x _ => gives_run (by go_simp)) ?_
            try simp only [Act.put, List.getElem_toArray, List.getElem_cons_succ, List.getElem_cons_zero, List.setIfInBounds_toArray, List.set_cons_zero, List.set_cons_succ]
            refine spec_d rfl (fun x _ => gives_run (by go_simp)) ?_
            try simp only [Act.put, List.getElem_toArray, List.getElem_cons_succ, List.getElem_cons_zero, List.setIfInBounds_toArray, List.set_cons_zero, List.set_cons_succ]
            refine spec_d rfl (fun x _ => gives_run (by go_simp)) ?_
            try simp only [Act.put, List.getElem_toArray, List.getElem_cons_succ, List.getElem_cons_zero, List.setIfInBounds_toArray, List.set_cons_zero, List.set_cons_succ]
            refine spec_d rfl (fun x _ => gives_run rfl) ?_
            try simp only [Act.put, List.getElem_toArray, List.getElem_cons_succ, List.getElem_cons_zero, List.setIfInBounds_toArray, List.set_cons_zero, List.set_cons_succ]
            refine spec_end (fun z hz => ?_)
            clear hz
            refine wpAny_done (by kernel_rfl) ?_ _
            have HB5J2 : Hid (Below w3.heap.size w3 z.world) := Lib.hid (HB5J.out.trans ((HKZ.out z).mono HB5J.out.size))
            have HB52 : Hid (Below w.heap.size w z.world) := Lib.hid (HB5.out.trans ((HKZ.out z).mono HB5.out.size))
            have HTO : Hid (∀ W, Below z.world.heap.size z.world W → W.ownsRow w.heap.size Hl.TI 1 (.slice TA p.ts.length tc) p.ts.length (p.ts.map iV)) := Lib.hid (fun W hW => own_kept HOT.out ((HKZ.out z).trans (hW.mono (HKZ.out z).size)))
            have HMO : Hid (∀ W, Below z.world.heap.size z.world W → W.ownsRow w.heap.size Hl.TI 1 (.slice MA p.ms.length mc) p.ms.length (p.ms.map iV)) := Lib.hid (fun W hW => own_kept HOM.out ((HKZ.out z).trans (hW.mono (HKZ.out z).size)))
            have HCb7 : Hid (∀ W, Below z.world.heap.size z.world W → W.cell? ⟨b7, j, none⟩ = some (.slice TA p.ts.length tc)) := Lib.hid (fun W hW => HCT.out _ ((HKZ.out z).trans (hW.mono (HKZ.out z).size)))
            have HCb8 : Hid (∀ W, Below z.world.heap.size z.world W → W.cell? ⟨b8, j, none⟩ = some (.slice MA p.ms.length mc)) := Lib.hid (fun W hW => HCM.out _ ((HKZ.out z).trans (hW.mono (HKZ.out z).size)))
            have HRT : Hid (∀ W, Below z.world.heap.size z.world W → Lst W RT p.ts.length (p.ts.map iV)) := Lib.hid (fun W hW => HRT'.out.kept ((HKZ.out z).trans (hW.mono (HKZ.out z).size)))
            have HRM : Hid (∀ W, Below z.world.heap.size z.world W → Lst W RM p.ms.length (p.ms.map iV)) := Lib.hid (fun W hW => HRM'.out.kept ((HKZ.out z).trans (hW.mono (HKZ.out z).size)))
            have HCR : Hid (∀ W, Below z.world.heap.size z.world W → ∀ i, i < 8 → W.cell? ⟨bR, j * 8 + i, none⟩ = (wmL ⟨p, .slice RS p.ss.length rs, .slice RT p.ts.length rt, .slice RM p.ms.length rm, .slice RW p.ws.length rw0⟩)[i]?) := Lib.hid (fun W hW i hi => wm_cell (own_kept HRO.out ((HKZ.out z).trans (hW.mono (HKZ.out z).size))) HLX.out hi)
            have HSB2 : Hid (w.heap.size ≤ z.world.heap.size) := Lib.hid HB52.out.size
            clear HKZ HNU1 HNU2 HNU3 CX CB r0 r1 r2 r3 r4 r5 r6 r7 d6 d7 d8 f3 f4 f5 d9 d0 n1 n2 n3 n4 n5 n6 HB5 HB5J HSB HCT HCM HRT' HRM' HOT HOM HLJ HWJ HRO HCS HCf HCb HLS HLT HLM HRS' HRW'
            generalize z.world = w5 at HB5J2 HB52 HTO HMO HCb7 HCb8 HRT HRM HCR HSB2 ⊢
            clear z
            have HB5J := Lib.hid HB5J2.out
            have HB5 := Lib.hid HB52.out
            have HSB := Lib.hid HSB2.out
            clear HB5J2 HB52 HSB2
            go_wp2_with fail
            go_loopw [19, 17, 18] (fun i a b wx => ∃ t : Nat, t ≤ m ∧ i = .int .i64 t ∧ a = .bool (anyc p.ts mods t) ∧ b = .bool (anyc p.ms mods t) ∧ Below w5.heap.size w5 wx) (fun i _ _ _ => m - (intOf i).toNat)
            case atStart => exact ⟨0, by omega, rfl, rfl, rfl, Below.refl _ _⟩
            case round =>
              as_aux_lemma =>
                obtain ⟨t, ht, rfl, rfl, rfl, hb4⟩ := hrel
                by_cases hlt4 : t < m
                · have hti : (t : Int) < (m : Int) := by omega
                  have ht0 : (0 : Int) ≤ (t : Int) := by omega
                  obtain ⟨x, hx⟩ : ∃ x, mods[t]? = some x := ⟨_, List.getElem?_eq_getElem (by rw [HML.out]; exact hlt4)⟩
                  have HX := Lib.hid hx
                  obtain ⟨bB, oB, hBB, hbB, hcB⟩ := HMS.out.2 (by omega)
                  subst hBB
                  have hcx : w.cell? ⟨bB, oB + t, none⟩ = some (.int .i64 x) := by rw [hcB t hlt4, List.getElem?_map, hx]; rfl
                  have HCX : Hid (∀ W, Below w5.heap.size w5 W → W.cell? ⟨bB, oB + t, none⟩ = some (.int .i64 x)) := Lib.hid (fun W hW => cell_later (HB5.out.trans (hW.mono HB5.out.size)) hcx)
                  have e4 : IntKind.i64.wrap ((t : Int) + 1) = (t : Int) + 1 := IntWalk.i64_in _ (by omega)
                  have HBW1 := Lib.hid hb4
                  clear hx hbB hcB hcx hb4
                  obtain ⟨a1, HA1⟩ : ∃ a, Hid (anyc p.ts mods t = a) := ⟨_, Lib.hid rfl⟩
                  obtain ⟨q1, HQ1⟩ : ∃ q, Hid (p.ts.contains x = q) := ⟨_, Lib.hid rfl⟩
                  have HN1 : Hid (anyc p.ts mods (t + 1) = (a1 || q1)) := Lib.hid (by rw [anyc_next HX.out, HA1.out, HQ1.out])
                  rw [HA1.out]
                  have hins : (((ins p.ts x).length : Int) == (p.ts.length : Int)) = q1 := by rw [ins_same]; exact HQ1.out
                  go_upto_region 47 with (fail)
                  go_cut [17] from 294 to 312 (fun v wx => v = .bool (a1 || q1) ∧ Below wr.heap.size wr wx)
                  case first =>
                    have HZK : Hid (∀ z : Kin wr.drew, Below wr.heap.size wr z.world) := Lib.hid (fun z => (bel_drew wr).trans z.below)
                    have HWb7 : Hid (∀ z : Kin wr.drew, Calls Tryd.prog 33 #[.slice TA p.ts.length tc, .int .i64 x] z.world fun e w' => ∃ v, e = .returned v ∧ Below z.world.heap.size z.world w' ∧ WithV (ins p.ts x).length v w') := Lib.hid (fun z => with_v (HTO.out z.world (HBW1.out.trans ((HZK.out z).mono HBW1.out.size))) HPK.out.2.1 (Nat.le_trans HSB.out (Nat.le_trans HBW1.out.size (HZK.out z).size)) HZL.out.2.1)
                    have j1 : ∀ z : Kin wr.drew, z.world.cell? ⟨b7, j, none⟩ = some (.slice TA p.ts.length tc) := fun z => HCb7.out z.world (HBW1.out.trans ((HZK.out z).mono HBW1.out.size))
                    have j2 : ∀ z : Kin wr.drew, z.world.cell? ⟨bB, oB + t, none⟩ = some (.int .i64 x) := fun z => HCX.out z.world (HBW1.out.trans ((HZK.out z).mono HBW1.out.size))
                    cases a1 with
                    | true =>
                      refine wp_region_specL 19 [.d (.bool true), .d (.bool true), .d undef, .d undef, .d undef, .d undef, .d undef, .d undef, .d undef, .d undef, .d undef, .d undef, .d undef, .d undef, .d undef, .d undef, .d undef, .d undef, .d (.bool true)] (by kernel_rfl) (by kernel_rfl) ?_
                      refine spec_d rfl (fun x _ => gives_run (by go_simp)) ?_
                      try simp only [Act.put, List.getElem_toArray, List.getElem_cons_succ, List.getElem_cons_zero, List.setIfInBounds_toArray, List.set_cons_zero, List.set_cons_succ]
                      refine spec_d rfl (fun x _ => gives_run (by go_simp)) ?_
                      try simp only [Act.put, List.getElem_toArray, List.getElem_cons_succ, List.getElem_cons_zero, List.setIfInBounds_toArray, List.set_cons_zero, List.set_cons_succ]
                      refine spec_skip rfl ?_
                      try simp only [Act.put, List.getElem_toArray, List.getElem_cons_succ, List.getElem_cons_zero, List.setIfInBounds_toArray, List.set_cons_zero, List.set_cons_succ]
                      refine spec_skip rfl ?_
                      try simp only [Act.put, List.getElem_toArray, List.getElem_cons_succ, List.getElem_cons_zero, List.setIfInBounds_toArray, List.set_cons_zero, List.set_cons_succ]
                      refine spec_skip rfl ?_
                      try simp only [Act.put, List.getElem_toArray, List.getElem_cons_succ, List.getElem_cons_zero, List.setIfInBounds_toArray, List.set_cons_zero, List.set_cons_succ]
                      refine spec_skip rfl ?_
                      try simp only [Act.put, List.getElem_toArray, List.getElem_cons_succ, List.getElem_cons_zero, List.setIfInBounds_toArray, List.set_cons_zero, List.set_cons_succ]
                      refine spec_skip rfl ?_
                      try simp only [Act.put, List.getElem_toArray, List.getElem_cons_succ, List.getElem_cons_zero, List.setIfInBounds_toArray, List.set_cons_zero, List.set_cons_succ]
                      refine spec_skip rfl ?_
                      try simp only [Act.put, List.getElem_toArray, List.getElem_cons_succ, List.getElem_cons_zero, List.setIfInBounds_toArray, List.set_cons_zero, List.set_cons_succ]
                      refine spec_skip rfl ?_
                      try simp only [Act.put, List.getElem_toArray, List.getElem_cons_succ, List.getElem_cons_zero, List.setIfInBounds_toArray, List.set_cons_zero, List.set_cons_succ]
                      refine spec_skip rfl ?_
                      try simp only [Act.put, List.getElem_toArray, List.getElem_cons_succ, List.getElem_cons_zero, List.setIfInBounds_toArray, List.set_cons_zero, List.set_cons_succ]
                      refine spec_skip rfl ?_
                      try simp only [Act.put, List.getElem_toArray, List.getElem_cons_succ, List.getElem_cons_zero, List.setIfInBounds_toArray, List.set_cons_zero, List.set_cons_succ]
                      refine spec_skip rfl ?_
                      try simp only [Act.put, List.getElem_toArray, List.getElem_cons_succ, List.getElem_cons_zero, List.setIfInBounds_toArray, List.set_cons_zero, List.set_cons_succ]
                      refine spec_skip rfl ?_
                      try simp only [Act.put, List.getElem_toArray, List.getElem_cons_succ, List.getElem_cons_zero, List.setIfInBounds_toArray, List.set_cons_zero, List.set_cons_succ]
                      refine spec_skip rfl ?_
                      try simp only [Act.put, List.getElem_toArray, List.getElem_cons_succ, List.getElem_cons_zero, List.setIfInBounds_toArray, List.set_cons_zero, List.set_cons_succ]
                      refine spec_skip rfl ?_
                      try simp only [Act.put, List.getElem_toArray, List.getElem_cons_succ, List.getElem_cons_zero, List.setIfInBounds_toArray, List.set_cons_zero, List.set_cons_succ]
                      refine spec_skip rfl ?_
                      try simp only [Act.put, List.getElem_toArray, List.getElem_cons_succ, List.getElem_cons_zero, List.setIfInBounds_toArray, List.set_cons_zero, List.set_cons_succ]
                      refine spec_skip rfl ?_
                      try simp only [Act.put, List.getElem_toArray, List.getElem_cons_succ, List.getElem_cons_zero, List.setIfInBounds_toArray, List.set_cons_zero, List.set_cons_succ]
                      refine spec_skip rfl ?_
                      try simp only [Act.put, List.getElem_toArray, List.getElem_cons_succ, List.getElem_cons_zero, List.setIfInBounds_toArray, List.set_cons_zero, List.set_cons_succ]
                      refine spec_d rfl (fun x _ => gives_run (by go_simp)) ?_
                      try simp only [Act.put, List.getElem_toArray, List.getElem_cons_succ, List.getElem_cons_zero, List.setIfInBounds_toArray, List.set_cons_zero, List.set_cons_succ]
                      refine spec_end (fun z hz => ?_)
                      clear hz
                      change wpAny _ _ _ _ (0 + 1) _ _ _
                      refine wpAny_ready (rs := [19]) (by kernel_rfl) (by simp) ?_
                      refine AllReady.cons rfl (fun KK hK => ?_) AllReady.nil
                      go_simp
                      refine hK _ _ ?_
                      clear hK KK
                      try simp only [Act.put, List.getElem_toArray, List.getElem_cons_succ, List.getElem_cons_zero, List.setIfInBounds_toArray, List.set_cons_zero, List.set_cons_succ]
                      refine wpAny_done (by kernel_rfl) ?_ _
                      have HBZ : Hid (Below wr.heap.size wr z.world) := Lib.hid ((bel_drew wr).trans z.below)
                      clear j1 j2 HWb7 HZK
                      generalize z.world = wz at HBZ ⊢
                      clear z
                      go_wp2
                      go_meet
                      exact ⟨rfl, HBZ.out⟩
                    | false =>
                      refine wp_region_specL 19 [.d (.bool false), .d (.bool false), .d (.slice (some ⟨b7, 0, none⟩) N c7), .d (.int .i64 (j : Int)), .d (.pointer (some ⟨b7, j, none⟩)), .d (.slice TA p.ts.length tc), .d (.slice (some ⟨bB, oB, none⟩) m d), .d (.int .i64 (t : Int)), .d (.pointer (some ⟨bB, oB + t, none⟩)), .d (.int .i64 x), .g (WithV (ins p.ts x).length), .d (.int .i64 ((ins p.ts x).length : Int)), .d (.slice (some ⟨b7, 0, none⟩) N c7), .d (.int .i64 (j : Int)), .d (.pointer (some ⟨b7, j, none⟩)), .d (.slice TA p.ts.length tc), .d (.int .i64 (p.ts.length : Int)), .d (.bool q1), .d (.bool q1)] (by kernel_rfl) (by kernel_rfl) ?_
                      refine spec_d rfl (fun x _ => gives_run (by go_simp)) ?_
                      try simp only [Act.put, List.getElem_toArray, List.getElem_cons_succ, List.getElem_cons_zero, List.setIfInBounds_toArray, List.set_cons_zero, List.set_cons_succ]
                      refine spec_d rfl (fun x _ => gives_run (by go_simp)) ?_
                      try simp only [Act.put, List.getElem_toArray, List.getElem_cons_succ, List.getElem_cons_zero, List.setIfInBounds_toArray, List.set_cons_zero, List.set_cons_succ]
                      refine spec_d rfl (fun x _ => gives_run (by go_simp)) ?_
                      try simp only [Act.put, List.getElem_toArray, List.getElem_cons_succ, List.getElem_cons_zero, List.setIfInBounds_toArray, List.set_cons_zero, List.set_cons_succ]
                      refine spec_d rfl (fun x _ => gives_run (by go_simp)) ?_
                      try simp only [Act.put, List.getElem_toArray, List.getElem_cons_succ, List.getElem_cons_zero, List.setIfInBounds_toArray, List.set_cons_zero, List.set_cons_succ]
                      refine spec_d rfl (fun x _ => gives_run (by go_simp)) ?_
                      try simp only [Act.put, List.getElem_toArray, List.getElem_cons_succ, List.getElem_cons_zero, List.setIfInBounds_toArray, List.set_cons_zero, List.set_cons_succ]
                      refine spec_d rfl (fun x _ => gives_run (by go_simp)) ?_
                      try simp only [Act.put, List.getElem_toArray, List.getElem_cons_succ, List.getElem_cons_zero, List.setIfInBounds_toArray, List.set_cons_zero, List.set_cons_succ]
                      refine spec_d rfl (fun x _ => gives_run (by go_simp)) ?_
                      try simp only [Act.put, List.getElem_toArray, List.getElem_cons_succ, List.getElem_cons_zero, List.setIfInBounds_toArray, List.set_cons_zero, List.set_cons_succ]
                      refine spec_d rfl (fun x _ => gives_run (by go_simp)) ?_
                      try simp only [Act.put, List.getElem_toArray, List.getElem_cons_succ, List.getElem_cons_zero, List.setIfInBounds_toArray, List.set_cons_zero, List.set_cons_succ]
                      refine spec_d rfl (fun x _ => gives_run (by go_simp)) ?_
                      try simp only [Act.put, List.getElem_toArray, List.getElem_cons_succ, List.getElem_cons_zero, List.setIfInBounds_toArray, List.set_cons_zero, List.set_cons_succ]
                      refine spec_d rfl (fun x _ => gives_run (by go_simp)) ?_
                      try simp only [Act.put, List.getElem_toArray, List.getElem_cons_succ, List.getElem_cons_zero, List.setIfInBounds_toArray, List.set_cons_zero, List.set_cons_succ]
                      refine spec_g (WithV.stable _) (WithV.ex _ _) rfl (fun z _ => gives_call (by go_simp) (HWb7.out z)) ?_
                      try simp only [Act.put, List.getElem_toArray, List.getElem_cons_succ, List.getElem_cons_zero, List.setIfInBounds_toArray, List.set_cons_zero, List.set_cons_succ]
                      rintro vg ⟨_, gA, gc, rfl⟩
                      try simp only [Act.put, List.getElem_toArray, List.getElem_cons_succ, List.getElem_cons_zero, List.setIfInBounds_toArray, List.set_cons_zero, List.set_cons_succ]
                      refine spec_d rfl (fun x _ => gives_run (by go_simp)) ?_
                      try simp only [Act.put, List.getElem_toArray, List.getElem_cons_succ, List.getElem_cons_zero, List.setIfInBounds_toArray, List.set_cons_zero, List.set_cons_succ]
                      refine spec_d rfl (fun x _ => gives_run (by go_simp)) ?_
                      try simp only [Act.put, List.getElem_toArray, List.getElem_cons_succ, List.getElem_cons_zero, List.setIfInBounds_toArray, List.set_cons_zero, List.set_cons_succ]
                      refine spec_d rfl (fun x _ => gives_run (by go_simp)) ?_
                      try simp only [Act.put, List.getElem_toArray, List.getElem_cons_succ, List.getElem_cons_zero, List.setIfInBounds_toArray, List.set_cons_zero, List.set_cons_succ]
                      refine spec_d rfl (fun x _ => gives_run (by go_simp)) ?_
                      try simp only [Act.put, List.getElem_toArray, List.getElem_cons_succ, List.getElem_cons_zero, List.setIfInBounds_toArray, List.set_cons_zero, List.set_cons_succ]
                      refine spec_d rfl (fun x _ => gives_run (by go_simp)) ?_
                      try simp only [Act.put, List.getElem_toArray, List.getElem_cons_succ, List.getElem_cons_zero, List.setIfInBounds_toArray, List.set_cons_zero, List.set_cons_succ]
                      refine spec_d rfl (fun x _ => gives_run (by go_simp)) ?_
                      try simp only [Act.put, List.getElem_toArray, List.getElem_cons_succ, List.getElem_cons_zero, List.setIfInBounds_toArray, List.set_cons_zero, List.set_cons_succ]
                      refine spec_d rfl (fun x _ => gives_run (by go_simp)) ?_
                      try simp only [Act.put, List.getElem_toArray, List.getElem_cons_succ, List.getElem_cons_zero, List.setIfInBounds_toArray, List.set_cons_zero, List.set_cons_succ]
                      refine spec_d rfl (fun x _ => gives_run (by go_simp)) ?_
                      try simp only [Act.put, List.getElem_toArray, List.getElem_cons_succ, List.getElem_cons_zero, List.setIfInBounds_toArray, List.set_cons_zero, List.set_cons_succ]
                      refine spec_end (fun z hz => ?_)
                      clear hz
                      change wpAny _ _ _ _ (0 + 1) _ _ _
                      refine wpAny_ready (rs := [19]) (by kernel_rfl) (by simp) ?_
                      refine AllReady.cons rfl (fun KK hK => ?_) AllReady.nil
                      go_simp
                      refine hK _ _ ?_
                      clear hK KK
                      try simp only [Act.put, List.getElem_toArray, List.getElem_cons_succ, List.getElem_cons_zero, List.setIfInBounds_toArray, List.set_cons_zero, List.set_cons_succ]
                      refine wpAny_done (by kernel_rfl) ?_ _
                      have HBZ : Hid (Below wr.heap.size wr z.world) := Lib.hid ((bel_drew wr).trans z.below)
                      clear j1 j2 HWb7 HZK
                      generalize z.world = wz at HBZ ⊢
                      clear z
                      go_wp2
                      go_meet
                      exact ⟨by simp, HBZ.out⟩
                  case rest =>
                    obtain ⟨rfl, hbc⟩ := hcut
                    clear hins
                    have HBW2 := Lib.hid (HBW1.out.trans (hbc.mono HBW1.out.size))
                    clear hbc
                    obtain ⟨a2, HA2⟩ : ∃ a, Hid (anyc p.ms mods t = a) := ⟨_, Lib.hid rfl⟩
                    obtain ⟨q2, HQ2⟩ : ∃ q, Hid (p.ms.contains x = q) := ⟨_, Lib.hid rfl⟩
                    have HN2 : Hid (anyc p.ms mods (t + 1) = (a2 || q2)) := Lib.hid (by rw [anyc_next HX.out, HA2.out, HQ2.out])
                    rw [HA2.out]
                    have hins : (((ins p.ms x).length : Int) == (p.ms.length : Int)) = q2 := by rw [ins_same]; exact HQ2.out
                    go_upto_region 48 with (fail)
                    have HZK : Hid (∀ z : Kin wc.drew, Below wc.heap.size wc z.world) := Lib.hid (fun z => (bel_drew wc).trans z.below)
                    have HWb8 : Hid (∀ z : Kin wc.drew, Calls Tryd.prog 33 #[.slice MA p.ms.length mc, .int .i64 x] z.world fun e w' => ∃ v, e = .returned v ∧ Below z.world.heap.size z.world w' ∧ WithV (ins p.ms x).length v w') := Lib.hid (fun z => with_v (HMO.out z.world (HBW2.out.trans ((HZK.out z).mono HBW2.out.size))) HPK.out.2.2 (Nat.le_trans HSB.out (Nat.le_trans HBW2.out.size (HZK.out z).size)) HZL.out.2.2)
                    have j1 : ∀ z : Kin wc.drew, z.world.cell? ⟨b8, j, none⟩ = some (.slice MA p.ms.length mc) := fun z => HCb8.out z.world (HBW2.out.trans ((HZK.out z).mono HBW2.out.size))
                    have j2 : ∀ z : Kin wc.drew, z.world.cell? ⟨bB, oB + t, none⟩ = some (.int .i64 x) := fun z => HCX.out z.world (HBW2.out.trans ((HZK.out z).mono HBW2.out.size))
                    cases a2 with
                    | true =>
                      refine wp_region_specL 19 [.d (.bool true), .d (.bool true), .d undef, .d undef, .d undef, .d undef, .d undef, .d undef, .d undef, .d undef, .d undef, .d undef, .d undef, .d undef, .d undef, .d undef, .d undef, .d undef, .d (.bool true)] (by kernel_rfl) (by kernel_rfl) ?_
                      refine spec_d rfl (fun x _ => gives_run (by go_simp)) ?_
                      try simp only [Act.put, List.getElem_toArray, List.getElem_cons_succ, List.getElem_cons_zero, List.setIfInBounds_toArray, List.set_cons_zero, List.set_cons_succ]
                      refine spec_d rfl (fun x _ => gives_run (by go_simp)) ?_
                      try simp only [Act.put, List.getElem_toArray, List.getElem_cons_succ, List.getElem_cons_zero, List.setIfInBounds_toArray, List.set_cons_zero, List.set_cons_succ]
                      refine spec_skip rfl ?_
                      try simp only [Act.put, List.getElem_toArray, List.getElem_cons_succ, List.getElem_cons_zero, List.setIfInBounds_toArray, List.set_cons_zero, List.set_cons_succ]
                      refine spec_skip rfl ?_
                      try simp only [Act.put, List.getElem_toArray, List.getElem_cons_succ, List.getElem_cons_zero, List.setIfInBounds_toArray, List.set_cons_zero, List.set_cons_succ]
                      refine spec_skip rfl ?_
                      try simp only [Act.put, List.getElem_toArray, List.getElem_cons_succ, List.getElem_cons_zero, List.setIfInBounds_toArray, List.set_cons_zero, List.set_cons_succ]
                      refine spec_skip rfl ?_
                      try simp only [Act.put, List.getElem_toArray, List.getElem_cons_succ, List.getElem_cons_zero, List.setIfInBounds_toArray, List.set_cons_zero, List.set_cons_succ]
                      refine spec_skip rfl ?_
                      try simp only [Act.put, List.getElem_toArray, List.getElem_cons_succ, List.getElem_cons_zero, List.setIfInBounds_toArray, List.set_cons_zero, List.set_cons_succ]
                      refine spec_skip rfl ?_
                      try simp only [Act.put, List.getElem_toArray, List.getElem_cons_succ, List.getElem_cons_zero, List.setIfInBounds_toArray, List.set_cons_zero, List.set_cons_succ]
                      refine spec_skip rfl ?_
                      try simp only [Act.put, List.getElem_toArray, List.getElem_cons_succ, List.getElem_cons_zero, List.setIfInBounds_toArray, List.set_cons_zero, List.set_cons_succ]
                      refine spec_skip rfl ?_
                      try simp only [Act.put, List.getElem_toArray, List.getElem_cons_succ, List.getElem_cons_zero, List.setIfInBounds_toArray, List.set_cons_zero, List.set_cons_succ]
                      refine spec_skip rfl ?_
                      try simp only [Act.put, List.getElem_toArray, List.getElem_cons_succ, List.getElem_cons_zero, List.setIfInBounds_toArray, List.set_cons_zero, List.set_cons_succ]
                      refine spec_skip rfl ?_
                      try simp only [Act.put, List.getElem_toArray, List.getElem_cons_succ, List.getElem_cons_zero, List.setIfInBounds_toArray, List.set_cons_zero, List.set_cons_succ]
                      refine spec_skip rfl ?_
                      try simp only [Act.put, List.getElem_toArray, List.getElem_cons_succ, List.getElem_cons_zero, List.setIfInBounds_toArray, List.set_cons_zero, List.set_cons_succ]
                      refine spec_skip rfl ?_
                      try simp only [Act.put, List.getElem_toArray, List.getElem_cons_succ, List.getElem_cons_zero, List.setIfInBounds_toArray, List.set_cons_zero, List.set_cons_succ]
                      refine spec_skip rfl ?_
                      try simp only [Act.put, List.getElem_toArray, List.getElem_cons_succ, List.getElem_cons_zero, List.setIfInBounds_toArray, List.set_cons_zero, List.set_cons_succ]
                      refine spec_skip rfl ?_
                      try simp only [Act.put, List.getElem_toArray, List.getElem_cons_succ, List.getElem_cons_zero, List.setIfInBounds_toArray, List.set_cons_zero, List.set_cons_succ]
                      refine spec_skip rfl ?_
                      try simp only [Act.put, List.getElem_toArray, List.getElem_cons_succ, List.getElem_cons_zero, List.setIfInBounds_toArray, List.set_cons_zero, List.set_cons_succ]
                      refine spec_skip rfl ?_
                      try simp only [Act.put, List.getElem_toArray, List.getElem_cons_succ, List.getElem_cons_zero, List.setIfInBounds_toArray, List.set_cons_zero, List.set_cons_succ]
                      refine spec_d rfl (fun x _ => gives_run (by go_simp)) ?_
                      try simp only [Act.put, List.getElem_toArray, List.getElem_cons_succ, List.getElem_cons_zero, List.setIfInBounds_toArray, List.set_cons_zero, List.set_cons_succ]
                      refine spec_end (fun z hz => ?_)
                      clear hz
                      change wpAny _ _ _ _ (0 + 1) _ _ _
                      refine wpAny_ready (rs := [19]) (by kernel_rfl) (by simp) ?_
                      refine AllReady.cons rfl (fun KK hK => ?_) AllReady.nil
                      go_simp
                      refine hK _ _ ?_
                      clear hK KK
                      try simp only [Act.put, List.getElem_toArray, List.getElem_cons_succ, List.getElem_cons_zero, List.setIfInBounds_toArray, List.set_cons_zero, List.set_cons_succ]
                      refine wpAny_done (by kernel_rfl) ?_ _
                      have HBZ : Hid (Below wc.heap.size wc z.world) := Lib.hid ((bel_drew wc).trans z.below)
                      clear j1 j2 HWb8 HZK
                      generalize z.world = wz at HBZ ⊢
                      clear z
                      have HBW3 := Lib.hid (HBW2.out.trans (HBZ.out.mono HBW2.out.size))
                      clear HBZ
                      go_wp2
                      go_roundw
                      case rel => exact ⟨t + 1, by omega, by go_num, by rw [HN1.out], by rw [HN2.out]; first | rfl | simp, HBW3.out⟩
                      case measure => simp [intOf]; omega
                    | false =>
                      refine wp_region_specL 19 [.d (.bool false), .d (.bool false), .d (.slice (some ⟨b8, 0, none⟩) N c8), .d (.int .i64 (j : Int)), .d (.pointer (some ⟨b8, j, none⟩)), .d (.slice MA p.ms.length mc), .d (.slice (some ⟨bB, oB, none⟩) m d), .d (.int .i64 (t : Int)), .d (.pointer (some ⟨bB, oB + t, none⟩)), .d (.int .i64 x), .g (WithV (ins p.ms x).length), .d (.int .i64 ((ins p.ms x).length : Int)), .d (.slice (some ⟨b8, 0, none⟩) N c8), .d (.int .i64 (j : Int)), .d (.pointer (some ⟨b8, j, none⟩)), .d (.slice MA p.ms.length mc), .d (.int .i64 (p.ms.length : Int)), .d (.bool q2), .d (.bool q2)] (by kernel_rfl) (by kernel_rfl) ?_
                      refine spec_d rfl (fun x _ => gives_run (by go_simp)) ?_
                      try simp only [Act.put, List.getElem_toArray, List.getElem_cons_succ, List.getElem_cons_zero, List.setIfInBounds_toArray, List.set_cons_zero, List.set_cons_succ]
                      refine spec_d rfl (fun x _ => gives_run (by go_simp)) ?_
                      try simp only [Act.put, List.getElem_toArray, List.getElem_cons_succ, List.getElem_cons_zero, List.setIfInBounds_toArray, List.set_cons_zero, List.set_cons_succ]
                      refine spec_d rfl (fun x _ => gives_run (by go_simp)) ?_
                      try simp only [Act.put, List.getElem_toArray, List.getElem_cons_succ, List.getElem_cons_zero, List.setIfInBounds_toArray, List.set_cons_zero, List.set_cons_succ]
                      refine spec_d rfl (fun x _ => gives_run (by go_simp)) ?_
                      try simp only [Act.put, List.getElem_toArray, List.getElem_cons_succ, List.getElem_cons_zero, List.setIfInBounds_toArray, List.set_cons_zero, List.set_cons_succ]
                      refine spec_d rfl (fun x _ => gives_run (by go_simp)) ?_
                      try simp only [Act.put, List.getElem_toArray, List.getElem_cons_succ, List.getElem_cons_zero, List.setIfInBounds_toArray, List.set_cons_zero, List.set_cons_succ]
                      refine spec_d rfl (fun x _ => gives_run (by go_simp)) ?_
                      try simp only [Act.put, List.getElem_toArray, List.getElem_cons_succ, List.getElem_cons_zero, List.setIfInBounds_toArray, List.set_cons_zero, List.set_cons_succ]
                      refine spec_d rfl (fun x _ => gives_run (by go_simp)) ?_
                      try simp only [Act.put, List.getElem_toArray, List.getElem_cons_succ, List.getElem_cons_zero, List.setIfInBounds_toArray, List.set_cons_zero, List.set_cons_succ]
                      refine spec_d rfl (fun x _ => gives_run (by go_simp)) ?_
                      try simp only [Act.put, List.getElem_toArray, List.getElem_cons_succ, List.getElem_cons_zero, List.setIfInBounds_toArray, List.set_cons_zero, List.set_cons_succ]
                      refine spec_d rfl (fun x _ => gives_run (by go_simp)) ?_
                      try simp only [Act.put, List.getElem_toArray, List.getElem_cons_succ, List.getElem_cons_zero, List.setIfInBounds_toArray, List.set_cons_zero, List.set_cons_succ]
                      refine spec_d rfl (fun x _ => gives_run (by go_simp)) ?_
                      try simp only [Act.put, List.getElem_toArray, List.getElem_cons_succ, List.getElem_cons_zero, List.setIfInBounds_toArray, List.set_cons_zero, List.set_cons_succ]
                      refine spec_g (WithV.stable _) (WithV.ex _ _) rfl (fun z _ => gives_call (by go_simp) (HWb8.out z)) ?_
                      try simp only [Act.put, List.getElem_toArray, List.getElem_cons_succ, List.getElem_cons_zero, List.setIfInBounds_toArray, List.set_cons_zero, List.set_cons_succ]
                      rintro vg ⟨_, gA, gc, rfl⟩
                      try simp only [Act.put, List.getElem_toArray, List.getElem_cons_succ, List.getElem_cons_zero, List.setIfInBounds_toArray, List.set_cons_zero, List.set_cons_succ]
                      refine spec_d rfl (fun x _ => gives_run (by go_simp)) ?_
                      try simp only [Act.put, List.getElem_toArray, List.getElem_cons_succ, List.getElem_cons_zero, List.setIfInBounds_toArray, List.set_cons_zero, List.set_cons_succ]
                      refine spec_d rfl (fun x _ => gives_run (by go_simp)) ?_
                      try simp only [Act.put, List.getElem_toArray, List.getElem_cons_succ, List.getElem_cons_zero, List.setIfInBounds_toArray, List.set_cons_zero, List.set_cons_succ]
                      refine spec_d rfl (fun x _ => gives_run (by go_simp)) ?_
                      try simp only [Act.put, List.getElem_toArray, List.getElem_cons_succ, List.getElem_cons_zero, List.setIfInBounds_toArray, List.set_cons_zero, List.set_cons_succ]
                      refine spec_d rfl (fun x _ => gives_run (by go_simp)) ?_
                      try simp only [Act.put, List.getElem_toArray, List.getElem_cons_succ, List.getElem_cons_zero, List.setIfInBounds_toArray, List.set_cons_zero, List.set_cons_succ]
                      refine spec_d rfl (fun x _ => gives_run (by go_simp)) ?_
                      try simp only [Act.put, List.getElem_toArray, List.getElem_cons_succ, List.getElem_cons_zero, List.setIfInBounds_toArray, List.set_cons_zero, List.set_cons_succ]
                      refine spec_d rfl (fun x _ => gives_run (by go_simp)) ?_
                      try simp only [Act.put, List.getElem_toArray, List.getElem_cons_succ, List.getElem_cons_zero, List.setIfInBounds_toArray, List.set_cons_zero, List.set_cons_succ]
                      refine spec_d rfl (fun x _ => gives_run (by go_simp)) ?_
                      try simp only [Act.put, List.getElem_toArray, List.getElem_cons_succ, List.getElem_cons_zero, List.setIfInBounds_toArray, List.set_cons_zero, List.set_cons_succ]
                      refine spec_d rfl (fun x _ => gives_run (by go_simp)) ?_
                      try simp only [Act.put, List.getElem_toArray, List.getElem_cons_succ, List.getElem_cons_zero, List.setIfInBounds_toArray, List.set_cons_zero, List.set_cons_succ]
                      refine spec_end (fun z hz => ?_)
                      clear hz
                      change wpAny _ _ _ _ (0 + 1) _ _ _
                      refine wpAny_ready (rs := [19]) (by kernel_rfl) (by simp) ?_
                      refine AllReady.cons rfl (fun KK hK => ?_) AllReady.nil
                      go_simp
                      refine hK _ _ ?_
                      clear hK KK
                      try simp only [Act.put, List.getElem_toArray, List.getElem_cons_succ, List.getElem_cons_zero, List.setIfInBounds_toArray, List.set_cons_zero, List.set_cons_succ]
                      refine wpAny_done (by kernel_rfl) ?_ _
                      have HBZ : Hid (Below wc.heap.size wc z.world) := Lib.hid ((bel_drew wc).trans z.below)
                      clear j1 j2 HWb8 HZK
                      generalize z.world = wz at HBZ ⊢
                      clear z
                      have HBW3 := Lib.hid (HBW2.out.trans (HBZ.out.mono HBW2.out.size))
                      clear HBZ
                      go_wp2
                      go_roundw
                      case rel => exact ⟨t + 1, by omega, by go_num, by rw [HN1.out], by rw [HN2.out]; first | rfl | simp, HBW3.out⟩
                      case measure => simp [intOf]; omega
                · have hte : t = m := by omega
                  subst hte
                  have HB6 := Lib.hid hb4
                  clear hb4
                  have HAG := Lib.hid (agreed_any p.s p.v p.t p.c (.slice RS p.ss.length rs) (.slice RW p.ws.length rw0) RT p.ts.length rt p.ts RM p.ms.length rm p.ms B t d mods wr (HRT.out wr HB6.out) (HRM.out wr HB6.out) (HMS.out.kept (HB5.out.trans (HB6.out.mono HB5.out.size))) HZL.out.2.1 HZL.out.2.2 (by omega))
                  rw [anyc_all HML.out] at HAG
                  obtain ⟨a1, HA1⟩ : ∃ a, Hid (anyc p.ts mods t = a) := ⟨_, Lib.hid rfl⟩
                  obtain ⟨a2, HA2⟩ : ∃ a, Hid (anyc p.ms mods t = a) := ⟨_, Lib.hid rfl⟩
                  rw [HA1.out, HA2.out] at HAG
                  rw [HA1.out, HA2.out]
                  have r0 : wr.cell? ⟨bR, j * 8, none⟩ = some (.int .i64 p.s) := (HCR.out wr HB6.out 0 (by omega))
                  have r1 : wr.cell? ⟨bR, j * 8 + 1, none⟩ = some (.int .i64 p.v) := (HCR.out wr HB6.out 1 (by omega))
                  have r2 : wr.cell? ⟨bR, j * 8 + 2, none⟩ = some (.int .i64 p.t) := (HCR.out wr HB6.out 2 (by omega))
                  have r3 : wr.cell? ⟨bR, j * 8 + 3, none⟩ = some (.slice RS p.ss.length rs) := (HCR.out wr HB6.out 3 (by omega))
                  have r4 : wr.cell? ⟨bR, j * 8 + 4, none⟩ = some (.slice RT p.ts.length rt) := (HCR.out wr HB6.out 4 (by omega))
                  have r5 : wr.cell? ⟨bR, j * 8 + 5, none⟩ = some (.slice RM p.ms.length rm) := (HCR.out wr HB6.out 5 (by omega))
                  have r6 : wr.cell? ⟨bR, j * 8 + 6, none⟩ = some (.int .i64 p.c) := (HCR.out wr HB6.out 6 (by omega))
                  have r7 : wr.cell? ⟨bR, j * 8 + 7, none⟩ = some (.slice RW p.ws.length rw0) := (HCR.out wr HB6.out 7 (by omega))
                  go_wp2_with fail
                  refine HAG.out.mono ?_
                  rintro e' w9 ⟨rfl, hb9⟩
                  have HB9 : Hid (Below w3.heap.size w3 w9) := Lib.hid (HB5J.out.trans ((HB6.out.trans (hb9.mono HB6.out.size)).mono HB5J.out.size))
                  clear hb9 HAG r0 r1 r2 r3 r4 r5 r6 r7
                  cases a1 <;> cases a2 <;> (
                    go_wp2
                    go_roundw
                    case rel => exact ⟨j + 1, by omega, by go_num, HB9.out⟩
                    case measure => simp [intOf]; omega)
          · have hje : j = N := by omega
            subst hje
            go_wp2_with fail
            refine (one28 wr (HU.out.kept HB5.out)).mono ?_
            rintro e' wA ⟨rfl, hbA⟩
            have HBA : Hid (Below w.heap.size w wA) := Lib.hid (HB5.out.trans (hbA.mono HB5.out.size))
            clear hbA
            go_wp2
            go_ret
            exact ⟨rfl, HBA.out⟩
end Go.Proofs.YtanhblokhcaoiaaDoor.lawTraceWindowsZ
