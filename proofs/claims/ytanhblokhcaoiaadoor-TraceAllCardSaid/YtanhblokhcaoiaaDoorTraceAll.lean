/- Each event of a message is of one window: windows have as many modules as events at most, none without one; what is noted beside changes nothing: for all lists of events; no condition. -/
import Derived.RegionTactic
import Derived.IntWalk
import Derived.Deep.DeepCutAuto
import Derived.Deep.CutBlock
import Derived.Stop.LaidErr
import Derived.Test.YtanhblokhcaoiaaDoorTrcR
import Derived.Test.YtanhblokhcaoiaaDoorTie
import Derived.Test.YtanhblokhcaoiaaDoorCards
import Derived.Test.YtanhblokhcaoiaaDoorLaid
import Derived.LaidMore
import Derived.SevenTiedAt
import Derived.Stop.Joined
import Derived.Test.YtanhblokhcaoiaaDoorRows
import Derived.WalkKit
import Derived.ProofKit
import Derived.OpenShut
import Derived.ShutString
import Derived.ChangeOld
import Derived.Below
namespace Go.Proofs.YtanhblokhcaoiaaDoor.lawTraceAll
open Go.ChangeShapes Go.WideShapes Go.ChangeAt Go.RowKit Base
open Go.ChangeMaps (open_string shut_string)
set_option linter.unusedVariables false
set_option linter.unusedSimpArgs false
theorem own : ownKnob Tryd.prog.godebug = none := by kernel_rfl
theorem laidOut : laidOutB Tryd.prog = true := by kernel_rfl
open Tr
open Hl (Ev TE EvsAt evL evC)

def Ld (w : World) : Prop := Txt.Lf w
theorem of_laid {W : World} (h : laidMetH Tryd.prog Rows.traceAllRow.laid W) : Ld W := by
  rw [MakeChecks.laidMetH_plain _ _ _ (by kernel_rfl)] at h
  have h1 := laidMet.tail (laidMet.tail h)
  exact Lib.tabIs_of_head (g := 1) (t := 125) (e := 75) (n := 20) (by kernel_rfl) (by kernel_rfl) Tryd.underlying125 Tryd.underlying75 (by kernel_rfl) (by kernel_rfl) h1
theorem sumL_take_le : ∀ (ps : List Pw) (k : Nat), sumL (ps.take k) ≤ sumL ps
  | [], k => by simp
  | p :: r, 0 => Nat.zero_le _
  | p :: r, k + 1 => by
    have := sumL_take_le r k
    simp only [sumL, List.take_succ_cons, List.map_cons, List.sum_cons] at this ⊢
    omega
theorem row8_ex {u : World} {A : Option Addr} {n : Nat} {es : List Ev} (hE : EvsAt u A n es) (hn : n ≤ 1000) : ∃ v, ∃ x : Kin u.drew, Row8 u.heap.size n (evC es) v x.world := by
  have hb : Below u.heap.size u (u.drew.alloc (.cells #[] TE)) := (bel_drew u).trans (show Below u.heap.size u.drew _ from bel_new u.drew _)
  have h0 : Z0 u.heap.size (.slice (some ⟨u.heap.size, 0, none⟩) 0 0) (u.drew.alloc (.cells #[] TE)) := Z0.new (x := u.drew) (Nat.le_refl _)
  obtain ⟨v', u', _, h1, h2⟩ := append_new (c := 0) h0 (hE.kept hb) hn hb.size 0
  exact ⟨v', ⟨u', (show Below u.drew.heap.size u.drew _ from bel_new u.drew _).trans (h1.mono (by simp))⟩, h2⟩
abbrev TL : TypeId := 39
set_option maxRecDepth 100000 in
set_option maxHeartbeats 8000000 in
theorem go (A : Option Addr) (n c : Nat) (ls : List EW) (x : Ev) (vs : List Nat) (w : World) (hU : Ld w) (hE : EvsAt w A n (ls.map (·.1))) (hI : ∀ a ∈ ls, EvIn w a) (hX : EvIn w (x, vs)) (hW : ∀ a ∈ ls, a.1.n ≤ 140737488351232) (hXW : x.n ≤ 140737488351232) (hnm : n ≤ 9223372036854775807) :
    Calls Tryd.prog 8 #[.slice A n c, .agg #[.int .i64 x.t, .int .i64 x.m, .int .i64 x.k, .int .i64 x.s, .int .i64 x.v, .int .i64 x.si, .int .i64 x.c, .slice x.A x.n x.d]] w fun e w' => e = .returned (.bool true) ∧ Below w.heap.size w w' := by
  obtain ⟨g3, HG3⟩ : ∃ g, Hid (w.heap.size = g) := ⟨_, Lib.hid rfl⟩
  obtain ⟨W1, HW1⟩ : ∃ W1, Hid (W1 = w.alloc (.cells #[.int .i64 x.t, .int .i64 x.m, .int .i64 x.k, .int .i64 x.s, .int .i64 x.v, .int .i64 x.si, .int .i64 x.c, .slice x.A x.n x.d] TE)) := ⟨_, Lib.hid rfl⟩
  have hb1 : Below w.heap.size w W1 := by rw [HW1.out]; exact bel_new _ _
  have HB1 := Lib.hid hb1
  have HO1 : Hid (Obj1 W1 g3 TE #[.int .i64 x.t, .int .i64 x.m, .int .i64 x.k, .int .i64 x.s, .int .i64 x.v, .int .i64 x.si, .int .i64 x.c, .slice x.A x.n x.d]) := Lib.hid (by rw [HW1.out, ← HG3.out]; exact Obj1.new _ _ _)
  have HLN : Hid (ls.length = n) := Lib.hid (by have := hE.len; simpa using this)
  have HE0 := Lib.hid hE
  have HE := Lib.hid (hE.kept hb1)
  have HW := Lib.hid hW
  have HXW := Lib.hid hXW
  have HG3B : Hid (w.heap.size ≤ g3) := Lib.hid (by rw [HG3.out]; exact Nat.le_refl _)
  have HI := Lib.hid hI
  have HX := Lib.hid hX
  have HU := Lib.hid hU
  clear hU hE hI hX hb1 hW hXW
  by_cases h60 : 60 < n
  · have h60i : (60 : Int) < (n : Int) := by omega
    go_enter Tryd.func8, Tryd.ntmps8
    go_upto_region 1 with (fail)
    rw [← HW1.out, HG3.out]
    clear HW1
    go_wp2
    go_ret
    exact ⟨rfl, HB1.out⟩
  have h60i : ¬ (60 : Int) < (n : Int) := by omega
  go_enter Tryd.func8, Tryd.ntmps8
  go_upto_region 1 with (fail)
  rw [← HW1.out, HG3.out]
  clear HW1 HG3
  go_wp2_with fail
  --F1
  go_loopw [7, 5] (fun i s wx => ∃ k : Nat, k ≤ n ∧ i = .int .i64 k ∧ s = .int .i64 (cntM (ls.take k) : Nat) ∧ Hid (∀ a ∈ ls.take k, 0 ≤ a.1.si ∧ a.1.si ≤ 1099511627776) ∧ W1 = wx) (fun i _ _ => n - (intOf i).toNat)
  case atStart => exact ⟨0, by omega, rfl, rfl, Lib.hid (fun a ha => by simp at ha), rfl⟩
  case round =>
    obtain ⟨k, hk, rfl, rfl, HSB, rfl⟩ := hrel
    by_cases hlt : k < n
    · have hki : (k : Int) < (n : Int) := by omega
      have hk0 : (0 : Int) ≤ (k : Int) := by omega
      have hkl : k < ls.length := by rw [HLN.out]; exact hlt
      obtain ⟨a, ha⟩ : ∃ a, ls[k]? = some a := ⟨_, List.getElem?_eq_getElem hkl⟩
      have HCN := Lib.hid (cntM_next ha)
      have HTK : Hid (ls.take (k + 1) = ls.take k ++ [a]) := Lib.hid (by rw [List.take_add_one, ha]; rfl)
      obtain ⟨y, us⟩ := a
      obtain ⟨b, off, rfl, hb, k0, k1, k2, k3, k4, k5, k6, k7⟩ := HE.out.get hlt (x := y) (by rw [List.getElem?_map, ha]; rfl)
      have hcl := cntM_le (ls.take k)
      rw [List.length_take] at hcl
      obtain ⟨q, HQ⟩ : ∃ q, Hid (cntM (ls.take k) = q) := ⟨_, Lib.hid rfl⟩
      rw [HQ.out] at HCN hcl ⊢
      have e0 : IntKind.i64.wrap ((k : Int) + 1) = (k : Int) + 1 := IntWalk.i64_in _ (by omega)
      have e1 : IntKind.i64.wrap ((q : Int) + 1) = (q : Int) + 1 := IntWalk.i64_in _ (by omega)
      obtain ⟨yk, HYK⟩ : ∃ z, Hid (y.k = z) := ⟨_, Lib.hid rfl⟩
      obtain ⟨ys, HYS⟩ : ∃ z, Hid (y.si = z) := ⟨_, Lib.hid rfl⟩
      rw [HYK.out] at k2
      rw [HYS.out] at k5
      clear ha hkl hb k0 k1 k3 k4 k6 k7 hcl
      by_cases hs0 : ys < 0
      · clear k2
        go_wp2
        go_ret
        exact ⟨rfl, HB1.out⟩
      · by_cases hs1 : 1099511627776 < ys
        · clear k2
          go_wp2
          go_ret
          exact ⟨rfl, HB1.out⟩
        · have HSB2 : Hid (∀ a ∈ ls.take (k + 1), 0 ≤ a.1.si ∧ a.1.si ≤ 1099511627776) := Lib.hid (fun a ha => by
            rw [HTK.out] at ha
            rcases List.mem_append.1 ha with ha | ha
            · exact HSB.out a ha
            · simp at ha
              subst ha
              show 0 ≤ y.si ∧ y.si ≤ _
              rw [HYS.out]
              omega)
          have HMI := Lib.hid (isM_iff yk)
          simp only [HYK.out] at HCN
          by_cases hk1 : 1 ≤ yk
          · by_cases hk3 : yk ≤ 3
            · have HC2 : Hid (cntM (ls.take (k + 1)) = q + 1) := Lib.hid (by rw [HCN.out, if_pos (HMI.out.2 ⟨hk1, hk3⟩)])
              go_wp2
              go_roundw
              case rel => exact ⟨k + 1, by omega, by go_num, by rw [HC2.out]; go_num, HSB2, trivial⟩
              case measure => simp [intOf]; omega
            · have HC2 : Hid (cntM (ls.take (k + 1)) = q) := Lib.hid (by rw [HCN.out, if_neg (fun h => hk3 (HMI.out.1 h).2)]; rfl)
              go_wp2
              go_roundw
              case rel => exact ⟨k + 1, by omega, by go_num, by rw [HC2.out], HSB2, trivial⟩
              case measure => simp [intOf]; omega
          · have HC2 : Hid (cntM (ls.take (k + 1)) = q) := Lib.hid (by rw [HCN.out, if_neg (fun h => hk1 (HMI.out.1 h).1)]; rfl)
            go_wp2
            go_roundw
            case rel => exact ⟨k + 1, by omega, by go_num, by rw [HC2.out], HSB2, trivial⟩
            case measure => simp [intOf]; omega
    · have hje : k = n := by omega
      subst hje
      have HT : Hid (ls.take k = ls) := Lib.hid (List.take_of_length_le (by rw [HLN.out]; exact Nat.le_refl _))
      rw [HT.out] at HSB
      rw [HT.out]
      have HOK : Hid (∀ a ∈ ls, isM a.1.k = true → EvOk a.1) := Lib.hid (fun a ha _ => by
        obtain ⟨⟨_, _, s1, s2, _⟩, _⟩ := HI.out a ha
        exact ⟨s1, s2, HSB.out a ha⟩)
      have HWI := Lib.hid (windows_any A k c ls W1 HE.out (fun a ha => ⟨(HI.out a ha).2.2.1.kept HB1.out, HW.out a ha⟩) HOK.out (by omega))
      have HRS := Lib.hid (run_sum HOK.out ls.length (Nat.le_refl _))
      rw [List.take_length] at HRS
      have hcl := cntM_le ls
      rw [HLN.out] at hcl
      have HCA := Lib.hid (cnt_all ls)
      obtain ⟨C, HC⟩ : ∃ C, Hid (cntM ls = C) := ⟨_, Lib.hid rfl⟩
      rw [HC.out] at HRS hcl HCA ⊢
      obtain ⟨ps, HPS⟩ : ∃ ps, Hid ((runP ls).2 = ps) := ⟨_, Lib.hid rfl⟩
      rw [HPS.out] at HRS HWI
      have HC60 : Hid (C ≤ 60) := Lib.hid (by omega)
      clear hcl
      go_wp2_with fail
      refine HWI.out.mono ?_
      rintro e' w2 ⟨RV, l, rfl, h1, h2, h3⟩
      obtain ⟨RA, rc, rfl⟩ := row_sl h1.own
      have HWS := Lib.hid h1
      have HP := Lib.hid h2
      have HB2 := Lib.hid h3
      obtain ⟨N, HNL⟩ : ∃ N, Hid (l.length = N) := ⟨_, Lib.hid rfl⟩
      rw [HNL.out] at HWS
      rw [HNL.out]
      have HPN : Hid (ps.length = N) := Lib.hid (by rw [← HP.out, List.length_map]; exact HNL.out)
      clear h1 h2 h3 HWI
      go_wp2_with fail
      --F2
      go_loopw [9, 6] (fun i s wx => ∃ j : Nat, j ≤ N ∧ i = .int .i64 j ∧ s = .int .i64 (sumL (ps.take j) : Nat) ∧ Below w2.heap.size w2 wx) (fun i _ _ => N - (intOf i).toNat)
      case atStart => exact ⟨0, by omega, rfl, rfl, Below.refl _ _⟩
      case round =>
        obtain ⟨j, hj, rfl, rfl, hbj⟩ := hrel
        have HBJ := Lib.hid hbj
        by_cases hlt : j < N
        · have hji : (j : Int) < (N : Int) := by omega
          have hj0 : (0 : Int) ≤ (j : Int) := by omega
          obtain ⟨z, hz⟩ : ∃ z, l[j]? = some z := ⟨_, List.getElem?_eq_getElem (by have := HNL.out; omega)⟩
          obtain ⟨b, rfl⟩ := row_someN HWS.out.own (by have := HNL.out; omega)
          have hpj : ps[j]? = some z.p := by rw [← HP.out, List.getElem?_map, hz]; rfl
          have HSN := Lib.hid (sumL_next hpj)
          have hs1 := HRS.out.1 z.p (List.mem_of_getElem? hpj)
          have hs2 : sumL (ps.take (j + 1)) ≤ C := Nat.le_trans (sumL_take_le ps (j + 1)) HRS.out.2.1
          have hsv : ∀ f, f < 3 → ∃ A' c', sub z f = .slice A' (subL z f).length c' := fun f hf => row_sl (HWS.out.row j z hz f (by omega))
          obtain ⟨sA, sc, h0⟩ := hsv 0 (by omega)
          obtain ⟨tA, tc, h1⟩ := hsv 1 (by omega)
          obtain ⟨mA, mc, h2⟩ := hsv 2 (by omega)
          have h0' : z.sv = .slice sA z.p.ss.length sc := by rw [show z.sv = sub z 0 from rfl, h0]; show Value.slice sA (z.p.ss.map iV).length sc = _; rw [List.length_map]
          have h1' : z.tv = .slice tA z.p.ts.length tc := by rw [show z.tv = sub z 1 from rfl, h1]; show Value.slice tA (z.p.ts.map iV).length tc = _; rw [List.length_map]
          have h2' : z.mv = .slice mA z.p.ms.length mc := by rw [show z.mv = sub z 2 from rfl, h2]; show Value.slice mA (z.p.ms.map iV).length mc = _; rw [List.length_map]
          obtain ⟨a3, ha3⟩ : ∃ a, z.p.ss.length = a := ⟨_, rfl⟩
          obtain ⟨a4, ha4⟩ : ∃ a, z.p.ts.length = a := ⟨_, rfl⟩
          obtain ⟨a5, ha5⟩ : ∃ a, z.p.ms.length = a := ⟨_, rfl⟩
          have hsp : sumP z.p = a3 + a4 + a5 := by unfold sumP; rw [ha3, ha4, ha5]
          have cw : ∀ i v, i < 8 → (wmL z)[i]? = some v → wr.cell? ⟨b, j * 8 + i, none⟩ = some v := fun i v hi hv => by
            have hc := (cellW HWS.out.own hz hi hv).1
            exact (hbj.cell (p := ⟨b, j * 8 + i, none⟩) (World.block_lt_of_cell? w2 _ hc)).trans hc
          have q3 : wr.cell? ⟨b, j * 8 + 3, none⟩ = some (.slice sA a3 sc) := cw 3 _ (by omega) (by show some z.sv = _; rw [h0', ha3])
          have q4 : wr.cell? ⟨b, j * 8 + 4, none⟩ = some (.slice tA a4 tc) := cw 4 _ (by omega) (by show some z.tv = _; rw [h1', ha4])
          have q5 : wr.cell? ⟨b, j * 8 + 5, none⟩ = some (.slice mA a5 mc) := cw 5 _ (by omega) (by show some z.mv = _; rw [h2', ha5])
          rw [hsp] at HSN hs1
          obtain ⟨S, HS⟩ : ∃ S, Hid (sumL (ps.take j) = S) := ⟨_, Lib.hid rfl⟩
          have hS := HSN.out
          rw [HS.out] at HSN hS
          rw [HS.out]
          have h60' := HC60.out
          have e0 : IntKind.i64.wrap ((j : Int) + 1) = (j : Int) + 1 := IntWalk.i64_in _ (by have := HPN.out; have := HRS.out.2.2; omega)
          have e1 : IntKind.i64.wrap ((a3 : Int) + (a4 : Int)) = (a3 : Int) + (a4 : Int) := IntWalk.i64_in _ (by omega)
          have e2 : IntKind.i64.wrap ((a3 : Int) + (a4 : Int) + (a5 : Int)) = (a3 : Int) + (a4 : Int) + (a5 : Int) := IntWalk.i64_in _ (by omega)
          obtain ⟨T, hT⟩ : ∃ T : Nat, a3 + a4 + a5 = T := ⟨_, rfl⟩
          have e2' : (a3 : Int) + (a4 : Int) + (a5 : Int) = (T : Int) := by omega
          rw [e2'] at e2
          rw [hT] at HSN hs1 hS
          have e3 : IntKind.i64.wrap ((S : Int) + (T : Int)) = (S : Int) + (T : Int) := IntWalk.i64_in _ (by omega)
          have hT1 : ¬ ((T : Int) < 1) := by omega
          have e5 : wrap64 ((a3 : Int) + (a4 : Int) + (a5 : Int)) = (T : Int) := by rw [IntWalk.wrap64_in _ (by omega)]; exact e2'
          have e6 : wrap64 ((S : Int) + (T : Int)) = (S : Int) + (T : Int) := IntWalk.wrap64_in _ (by omega)
          clear hz hpj hsv h0 h1 h2 h0' h1' h2' ha3 ha4 ha5 hsp cw hbj hs1 hs2 hS h60' hT e2'
          go_upto_region 15 with (fail)
          refine wp_region_quiet_lit (by kernel_rfl) (by kernel_rfl) ?_
          repeat (go_big_quiet_step (fail))
          refine wpQuiet_nil ?_
          intro _ hw'
          obtain ⟨nq, hw''⟩ := hw'
          subst hw''
          go_wp2
          go_roundw
          case rel => exact ⟨j + 1, by omega, by go_num, by rw [HSN.out]; go_num, below_drewN' HBJ.out _⟩
          case measure => simp [intOf]; omega
        · have hje : j = N := by omega
          subst hje
          have HTS : Hid (ps.take j = ps) := Lib.hid (List.take_of_length_le (by rw [HPN.out]; exact Nat.le_refl _))
          rw [HTS.out]
          obtain ⟨S, HS⟩ : ∃ S, Hid (sumL ps = S) := ⟨_, Lib.hid rfl⟩
          rw [HS.out]
          have hSC : (S : Int) ≤ (C : Int) := by have := HRS.out.2.1; have := HS.out; omega
          have hNC : (j : Int) ≤ (C : Int) := by have := HRS.out.2.2; have := HPN.out; omega
          have HBW : Hid (Below w.heap.size w wr) := Lib.hid (HB1.out.trans ((HB2.out.trans (hbj.mono HB2.out.size)).mono HB1.out.size))
          have HOW : Hid (Obj1 wr g3 TE #[.int .i64 x.t, .int .i64 x.m, .int .i64 x.k, .int .i64 x.s, .int .i64 x.v, .int .i64 x.si, .int .i64 x.c, .slice x.A x.n x.d]) := Lib.hid ((HO1.out.kept HB2.out).kept hbj)
          have c2 : wr.cell? ⟨g3, 2, none⟩ = some (.int .i64 x.k) := HOW.out.cell 2
          have f2 : wr.frozen? ⟨g3, 2, none⟩ = false := HOW.out.free 2
          obtain ⟨q, hq0, hq1, hqe⟩ := and_mask x.k 3 (by omega)
          have hbit : Go.bits BinOp.and IntKind.i64 x.k 3 = q := hqe
          obtain ⟨q4, hq4⟩ : ∃ z, 4 + q = z := ⟨_, rfl⟩
          have ew : IntKind.i64.wrap (4 + q) = q4 := by rw [IntWalk.i64_in _ (by omega)]; exact hq4
          have HQM : Hid (isM q4 = false) := Lib.hid (by
            cases e : isM q4 with
            | false => rfl
            | true => have := (isM_iff q4).1 e; omega)
          clear hbj hq0 hq1 hqe hq4
          go_upto_region 20 with (fail)
          --F3
          clear c2 f2 ew hbit
          have HOS : Hid (Obj1 (wr.setCell ⟨g3, 2, none⟩ (.int .i64 q4)) g3 TE #[.int .i64 x.t, .int .i64 x.m, .int .i64 q4, .int .i64 x.s, .int .i64 x.v, .int .i64 x.si, .int .i64 x.c, .slice x.A x.n x.d]) := Lib.hid (HOW.out.set 2 (.int .i64 q4))
          have HBS : Hid (Below w.heap.size w (wr.setCell ⟨g3, 2, none⟩ (.int .i64 q4))) := Lib.hid (HBW.out.setCell HG3B.out _)
          generalize wr.setCell ⟨g3, 2, none⟩ (.int .i64 q4) = ws at HOS HBS ⊢
          have HES := Lib.hid (HE0.out.kept HBS.out)
          obtain ⟨i0, hi, hz0, hz1, hz2⟩ := info_three info_ev
          have HKD : Hid (∀ z : Kin ws.drew, Below ws.heap.size ws z.world) := Lib.hid (fun z => (bel_drew ws).trans z.below)
          have HSZ8 : Hid ((Tryd.prog.info? TE).map (·.size) = some 8) := Lib.hid (by rw [hi]; simp [hz1])
          have HK60 : Hid (k ≤ 60) := Lib.hid (by omega)
          refine wp_region_specL 5 [.g (Z0 ws.heap.size), .d (.slice A k c), .g (Row8 ws.heap.size k (evC (ls.map (·.1)))), .d (.agg #[.int .i64 x.t, .int .i64 x.m, .int .i64 q4, .int .i64 x.s, .int .i64 x.v, .int .i64 x.si, .int .i64 x.c, .slice x.A x.n x.d]), .g (NewR ws.heap.size TE #[.int .i64 x.t, .int .i64 x.m, .int .i64 q4, .int .i64 x.s, .int .i64 x.v, .int .i64 x.si, .int .i64 x.c, .slice x.A x.n x.d])] (by kernel_rfl) (by kernel_rfl) ?_
          refine spec_g (Z0.stable _) ⟨_, ⟨_, bel_new ws.drew _⟩, Z0.new (Nat.le_refl _)⟩ rfl (fun z _ => gives_ok (by first | (go_simp; done) | (go_simp; rfl)) (bel_new _ _) (Z0.new (HKD.out z).size)) ?_
          rintro v0 ⟨x0, h0⟩
          try simp only [Act.put, List.getElem_toArray, List.getElem_cons_succ, List.getElem_cons_zero, List.setIfInBounds_toArray, List.set_cons_zero, List.set_cons_succ]
          refine spec_d rfl (fun z _ => gives_run (by go_simp)) ?_
          try simp only [Act.put, List.getElem_toArray, List.getElem_cons_succ, List.getElem_cons_zero, List.setIfInBounds_toArray, List.set_cons_zero, List.set_cons_succ]
          refine spec_g (Row8.stable _ _ _) (row8_ex HES.out (Nat.le_trans HK60.out (by omega))) rfl (fun z hz => gives_app (.tmp 89) (.tmp 90) rfl rfl rfl (hz _ (List.mem_singleton.2 rfl) (by kernel_rfl)) (HES.out.kept (HKD.out z)) (Nat.le_trans HK60.out (by omega)) (HKD.out z).size) ?_
          rintro v2 ⟨x2, h2⟩
          try simp only [Act.put, List.getElem_toArray, List.getElem_cons_succ, List.getElem_cons_zero, List.setIfInBounds_toArray, List.set_cons_zero, List.set_cons_succ]
          refine spec_d rfl (fun z _ => gives_rowL rfl rfl (HOS.out.kept (HKD.out z)) Tryd.underlying45 rfl HSZ8.out) ?_
          try simp only [Act.put, List.getElem_toArray, List.getElem_cons_succ, List.getElem_cons_zero, List.setIfInBounds_toArray, List.set_cons_zero, List.set_cons_succ]
          refine spec_g (NewR.stable _ _ _) (NewR.ex _ _ (Nat.le_refl _)) rfl (fun z _ => gives_ok (by first | (go_simp; done) | (go_simp; rfl)) (bel_new _ _) (NewR.new (HKD.out z).size)) ?_
          rintro v4 ⟨x4, g4, rfl, _⟩
          try simp only [Act.put, List.getElem_toArray, List.getElem_cons_succ, List.getElem_cons_zero, List.setIfInBounds_toArray, List.set_cons_zero, List.set_cons_succ]
          refine spec_end (fun z hz => ?_)
          have HR2 : Hid (z.world.ownsRow ws.heap.size TE 8 v2 k (evC (ls.map (·.1)))) := Lib.hid (show Row8 ws.heap.size k (evC (List.map (fun (a : EW) => a.1) ls)) v2 z.world from hz (2, Row8 ws.heap.size k (evC (List.map (fun (a : EW) => a.1) ls)) v2) (by simp))
          have HN4 : Hid (Obj1 z.world g4 TE #[.int .i64 x.t, .int .i64 x.m, .int .i64 q4, .int .i64 x.s, .int .i64 x.v, .int .i64 x.si, .int .i64 x.c, .slice x.A x.n x.d]) := Lib.hid (NewR.at (hz _ (List.mem_cons_self ..)))
          have HBZ := Lib.hid (HKD.out z)
          clear hz HKD h0 x0 h2 x2
          generalize z.world = wz at HR2 HN4 HBZ ⊢
          clear z
          obtain ⟨v5, w5, hrun, HO5, HG5⟩ := app_run (P := Tryd.prog) (evL ⟨x.t, x.m, q4, x.s, x.v, x.si, x.c, x.A, x.n, x.d⟩) TL Tryd.underlying39 hi hz0 hz1 hz2 rfl (by decide) HR2.out HN4.out rfl (Hl.one_evL _) (by have := HK60.out; unfold maxLen; omega) (by have := HK60.out; omega) HBZ.out.size
          have HB5 : Hid (Below w.heap.size w w5) := Lib.hid (HBS.out.trans ((HBZ.out.trans (belowB HG5.out HBZ.out.size (fun g e => (HR2.out.lt g e).1))).mono HBS.out.size))
          rw [← Hl.evC_snoc] at HO5
          obtain ⟨A5, c5, hv5, _, hE5⟩ := Hl.evs_own HO5.out (by simp [HLN.out])
          subst hv5
          have HE5 : Hid (EvsAt w5 A5 (k + 1) ((ls ++ [((⟨x.t, x.m, q4, x.s, x.v, x.si, x.c, x.A, x.n, x.d⟩ : Ev), vs)]).map (·.1))) := Lib.hid (by rw [List.map_append]; exact hE5)
          have HWI := Lib.hid (windows_any A5 (k + 1) c5 (ls ++ [((⟨x.t, x.m, q4, x.s, x.v, x.si, x.c, x.A, x.n, x.d⟩ : Ev), vs)]) w5 HE5.out (fun a ha => by
            rcases List.mem_append.1 ha with ha | ha
            · exact ⟨(HI.out a ha).2.2.1.kept HB5.out, HW.out a ha⟩
            · simp at ha
              subst ha
              exact ⟨HX.out.2.2.1.kept HB5.out, HXW.out⟩) (fun a ha hm => by
            rcases List.mem_append.1 ha with ha | ha
            · exact HOK.out a ha hm
            · simp at ha
              subst ha
              exact absurd (HQM.out.symm.trans hm) (by simp)) (by have := HK60.out; omega))
          rw [runP_more ls _ HQM.out, HPS.out] at HWI
          clear hE5 HE5
          change wpAny _ _ _ _ (2 + 1) _ _ _
          refine wpAny_ready (rs := [5]) (by kernel_rfl) (by simp) ?_
          refine AllReady.cons rfl (fun KK hK => ?_) AllReady.nil
          rw [if_pos (by rfl)]
          refine upon_app (.tmp 91) (.tmp 93) TL rfl rfl rfl hrun ?_
          refine hK _ _ ?_
          clear hK KK
          try simp only [Act.put, List.getElem_toArray, List.getElem_cons_succ, List.getElem_cons_zero, List.setIfInBounds_toArray, List.set_cons_zero, List.set_cons_succ]
          refine wpAny_ready (rs := [6]) (by kernel_rfl) (by simp) ?_
          refine AllReady.cons rfl (fun KK hK => ?_) AllReady.nil
          go_simp
          refine HWI.out.mono ?_
          rintro e' w6 ⟨RV, l2, rfl, h1, h2, h3⟩
          obtain ⟨RB, rd, rfl⟩ := row_sl h1.own
          have HL2 : Hid (l2.length = j) := Lib.hid (by rw [← HPN.out, ← h2, List.length_map])
          have HB6 : Hid (Below w.heap.size w w6) := Lib.hid (HB5.out.trans (h3.mono HB5.out.size))
          rw [HL2.out]
          clear h1 h2 h3 HWI hrun
          refine hK _ _ ?_
          clear hK KK
          try simp only [Act.put, List.getElem_toArray, List.getElem_cons_succ, List.getElem_cons_zero, List.setIfInBounds_toArray, List.set_cons_zero, List.set_cons_succ]
          refine wpAny_ready (rs := [7]) (by kernel_rfl) (by simp) ?_
          refine AllReady.cons rfl (fun KK hK => ?_) AllReady.nil
          go_simp
          refine hK _ _ ?_
          clear hK KK
          try simp only [Act.put, List.getElem_toArray, List.getElem_cons_succ, List.getElem_cons_zero, List.setIfInBounds_toArray, List.set_cons_zero, List.set_cons_succ]
          refine wpAny_done (by kernel_rfl) ?_ _
          clear HO5 HG5 HR2 HN4 HBZ HOS HBS HES HSZ8 HOW HBW
          have HC1 := Lib.hid (Hl.count_any A k c (ls.map (·.1)) 1 w6 (HE0.out.kept HB6.out) (by have := HK60.out; omega))
          obtain ⟨n1, HN1⟩ : ∃ m, Hid (Hl.cnt 1 (ls.map (·.1)) = m) := ⟨_, Lib.hid rfl⟩
          obtain ⟨n2, HN2⟩ : ∃ m, Hid (Hl.cnt 2 (ls.map (·.1)) = m) := ⟨_, Lib.hid rfl⟩
          obtain ⟨n3, HN3⟩ : ∃ m, Hid (Hl.cnt 3 (ls.map (·.1)) = m) := ⟨_, Lib.hid rfl⟩
          rw [HN1.out] at HC1
          have hca := HCA.out
          rw [HN1.out, HN2.out, HN3.out] at hca
          have h60' := HC60.out
          have e1 : IntKind.i64.wrap ((n1 : Int) + (n2 : Int)) = (n1 : Int) + (n2 : Int) := IntWalk.i64_in _ (by omega)
          have e2 : IntKind.i64.wrap ((n1 : Int) + (n2 : Int) + (n3 : Int)) = (C : Int) := by rw [IntWalk.i64_in _ (by omega)]; omega
          clear hca h60'
          go_wp2_with fail
          --F4
          refine HC1.out.mono ?_
          rintro e' w7 ⟨rfl, hb7⟩
          have HB7 : Hid (Below w.heap.size w w7) := Lib.hid (HB6.out.trans (hb7.mono HB6.out.size))
          have HC2 := Lib.hid (Hl.count_any A k c (ls.map (·.1)) 2 w7 (HE0.out.kept HB7.out) (by have := HK60.out; omega))
          rw [HN2.out] at HC2
          clear hb7 HC1
          go_wp2_with fail
          refine HC2.out.mono ?_
          rintro e' w8 ⟨rfl, hb8⟩
          have HB8 : Hid (Below w.heap.size w w8) := Lib.hid (HB7.out.trans (hb8.mono HB7.out.size))
          have HC3 := Lib.hid (Hl.count_any A k c (ls.map (·.1)) 3 w8 (HE0.out.kept HB8.out) (by have := HK60.out; omega))
          rw [HN3.out] at HC3
          clear hb8 HC2
          go_wp2_with fail
          refine HC3.out.mono ?_
          rintro e' w9 ⟨rfl, hb9⟩
          have HB9 : Hid (Below w.heap.size w w9) := Lib.hid (HB8.out.trans (hb9.mono HB8.out.size))
          clear hb9 HC3
          go_wp2_with fail
          refine (one28 w9 (HU.out.kept HB9.out)).mono ?_
          rintro e' wA ⟨rfl, hbA⟩
          have HBA : Hid (Below w.heap.size w wA) := Lib.hid (HB9.out.trans (hbA.mono HB9.out.size))
          clear hbA
          go_wp2
          go_ret
          exact ⟨rfl, HBA.out⟩
theorem walk (A : Option Addr) (n c : Nat) (rows : List (List Value)) (oc : Array Value) (w : World) (hU : Ld w) (s0 : ∀ b off, A = some ⟨b, off, none⟩ → ∀ i, i < n → ∀ A' n' c', w.cell? ⟨b, off + i * 8 + 7, none⟩ = some (.slice A' n' c') → n' ≤ reachBytes)
    (s1 : ∀ A' n' c', oc.toList[7]? = some (.slice A' n' c') → n' ≤ reachBytes) (hg : Grid w A n (Sh.size shE) rows) (hr : ∀ r ∈ rows, Reads w shE r) (hnc : n ≤ c) (hcm : c ≤ maxLen) (rs : Reads w shE oc.toList) :
    Calls Tryd.prog 8 #[.slice A n c, .agg oc] w fun e w' => e = .returned (.bool true) ∧ Below w.heap.size w w' := by
  unfold maxLen at hcm
  obtain ⟨ls, he, hv⟩ := Tr.evs_in hg hr
  obtain ⟨⟨x, vs⟩, hx, hi⟩ := ev_in rs
  obtain ⟨l⟩ := oc
  have hx' : l = Hl.evL x := hx
  subst hx'
  have hR : reachBytes = 140737488351232 := rfl
  refine go A n c ls x vs w hU he hv hi (fun a ha => ?_) (by rw [← hR]; exact s1 x.A x.n x.d rfl) (by omega)
  obtain ⟨i, hi2, hia⟩ := List.mem_iff_getElem.1 ha
  have hln : ls.length = n := by have := he.len; simpa using this
  obtain ⟨b, off, hA, _, _, _, _, _, _, _, _, k7⟩ := he.get (i := i) (by omega) (x := a.1) (by rw [List.getElem?_map, List.getElem?_eq_getElem hi2, hia]; rfl)
  rw [← hR]
  exact s0 b off hA i (by omega) _ _ _ k7

theorem door_met (os : Os) (args : Array Value) : laidMetH Tryd.prog Rows.traceAllRow.laid ((World.doorLaid Tryd.prog 400 os).forCall (fun _ _ => 0) ⟨#[], args, []⟩).memory :=
  laidMetH_of_parts3 (fuel := 8) (laidMet_of_run' 8 (by kernel_rfl) (by kernel_rfl)) (by kernel_rfl) (by kernel_rfl)
set_option maxRecDepth 100000 in
theorem lifted (os : Os) (started : os.Started) (H : Type) (enc : TypeId × Value → H) :
    ReturnsInHanded {} Tryd.checked os 8 .any (fun w args => (Rows.traceAllSpec.pre enc Tryd.prog Tryd.f8 [] false w args ∧ laidMetH Tryd.prog Rows.traceAllRow.laid w) ∧ sizedMet enc Tryd.prog Tryd.f8 (OpenSpec.ofChange Rows.traceAllSpec) false w args)
      (Rows.traceAllSpec.post enc Tryd.prog Tryd.f8 false true false false) := by
  refine returnsInHanded_of_change_and (C := Tryd.checked) (X := fun w _ => laidMetH Tryd.prog Rows.traceAllRow.laid w) (fun _ _ _ hh h => h.of_heap hh) own started (by kernel_rfl) Tryd.func8
    (ChangeSpec.witness_shaped (enc := enc) (C := Tryd.checked) (os := os) (X := fun w _ => laidMetH Tryd.prog Rows.traceAllRow.laid w) false (World.doorLaid Tryd.prog 400 os) #[.slice none 0 0, .agg #[.int .i64 0, .int .i64 0, .int .i64 0, .int .i64 0, .int .i64 0, .int .i64 0, .int .i64 0, .slice none 0 0]] 8 rfl (World.shaped_of_RefB (by kernel_rfl) (by kernel_rfl)) (by kernel_rfl) (by kernel_rfl) (by kernel_rfl) (door_met os _)) ?_
  intro W base args ds gs before hval0 hW _ hSZ hL _
  have hval : ∀ (j : Nat) t v, Tryd.f8.params[j]? = some t → args[j]? = some v → Value.okWide Tryd.prog W .any base t v := hval0
  have hW' := hW
  obtain ⟨p, q, hA0, hV, rfl, hfz, hnd⟩ := hW
  have hA : DataW.TrodAll enc Tryd.prog W 0 (fun _ => true) true Tryd.f8.params.toList args.toList ds p := hA0
  rw [Tryd.params8] at hA hval hSZ
  obtain ⟨v0, vs0, d0, ds0, p0, q0, hargs, rfl, rfl, h0, r0⟩ := trodAll_cons hA
  obtain ⟨v1, vs1, d1, ds1, p1, q1, rfl, rfl, rfl, h1, r1⟩ := trodAll_cons r0
  obtain ⟨rfl, rfl, rfl⟩ := trodAll_nil r1
  obtain rfl : args = #[v0, v1] := by cases args; simp_all
  obtain ⟨rfl, rfl⟩ := trodVars_none hV
  have k0 := h0
  have lt0 : ∀ x ∈ p0, x.block < W.heap.size := by obtain ⟨m, hm⟩ := k0; exact DataW.trod_lt m _ _ _ hm
  obtain ⟨lA, ln, lc, rfl⟩ := okWide_slice Tryd.underlying39 (hval 0 39 v0 rfl rfl)
  obtain ⟨l, g0, rd0, cb0, cc0⟩ := reads_slice (e := shE) 30 (by kernel_rfl) k0
  have k1 := h1
  have lt1 : ∀ x ∈ p1, x.block < W.heap.size := by obtain ⟨m, hm⟩ := k1; exact DataW.trod_lt m _ _ _ hm
  obtain ⟨e, rfl⟩ := okWide_agg (by first | exact .inl ⟨_, Tryd.underlying45⟩ | exact .inr ⟨_, _, Tryd.underlying45⟩) (hval 1 45 v1 rfl rfl)
  have rd1 := reads_cells (sh := shE) 30 (by kernel_rfl) k1
  have sz0 : ∀ k ∈ d0.weights Tryd.prog 39, k ≤ reachBytes := fun k hk => by
    have := List.all_eq_true.1 hSZ k (DataW.weights_mem_each (j := 0) (t := 39) (d := d0) rfl rfl k hk)
    simpa using this
  have sz1 : ∀ k ∈ d1.weights Tryd.prog 45, k ≤ reachBytes := fun k hk => by
    have := List.all_eq_true.1 hSZ k (DataW.weights_mem_each (j := 1) (t := 45) (d := d1) rfl rfl k hk)
    simpa using this
  obtain ⟨fu0, hk0⟩ := id h0
  obtain ⟨fu1, hk1⟩ := id h1
  clear hA0 hval0
  refine (walk lA ln lc l e W (of_laid hL) (fun b off hA i hi A' n' c' hc => small_slice hk0 sz0 hA hi hc) (fun A' n' c' hc => small_event hk1 sz1 hc) g0 rd0 cb0 cc0 rd1).mono fun e W' ⟨he, bel⟩ => ?_
  subst he
  exact ⟨_, rfl, _, _, _, [], _, [], hW', trodAll_mk1 (shut_bool Tryd.underlying4 _), (trodAll_cons_mk (Below.trod laidOut (by kernel_rfl) (of_decide_eq_true (by kernel_rfl)) k0 bel lt0) (trodAll_cons_mk (Below.trod laidOut (by kernel_rfl) (of_decide_eq_true (by kernel_rfl)) k1 bel lt1) trodAll_mk0)), rfl, bel.frame _, fun h => by cases h⟩

theorem over : Rows.traceAllRow.holds Tryd.pinned (OpenSpec.ofChange Rows.traceAllSpec) :=
  OpenClaim.holds_of_wide 8 Tryd.f8 rfl rfl rfl rfl rfl rfl rfl ⟨rfl, rfl, rfl, rfl, rfl⟩ rfl rfl rfl rfl rfl (by kernel_rfl) Tryd.func8 (by kernel_rfl)
    (of_decide_eq_true (by kernel_rfl)) (by unfold Func.isWrapper; first | (rw [if_pos (by decide +kernel)]; kernel_rfl) | (rw [if_neg (by decide +kernel)]; exact ⟨rfl, rfl⟩))
    (fun os started H enc _ => lifted os started H enc)

/-- The card: what the row lists is tied to the program's text. -/
theorem proved : Rows.TraceAllCardSaid :=
  Claim7.holds_tied_plain_at .later [] [.data,.data,.data] true Rows.traceAllCard.stood.harness false
    over (fun _ h => by cases h) (by kernel_rfl) (fun _ h => by cases h) traceAll_row_tie rfl ⟨rfl, rfl⟩ (by kernel_rfl) rfl
    (fun f fn hf hfn => by
      obtain rfl : f = 8 := Option.some.inj ((show Tryd.prog.funcNamed "busbar/busbarlaw28.TraceAll" = some 8 by kernel_rfl).symm.trans hf) |>.symm
      obtain rfl : fn = Tryd.f8 := (Option.some.inj (Tryd.func8.symm.trans hfn)).symm
      exact ⟨by kernel_rfl, fun j t ht => by
        rw [Tryd.params8] at ht
        have hm : t ∈ [39, 45] := by simpa using Array.mem_of_getElem? ht
        have hall : ([39, 45].all fun u => !Tryd.prog.wantsStandIn u) = true := by kernel_rfl
        exact (show Tryd.prog.wantsStandIn t = false by simpa using List.all_eq_true.1 hall t hm)⟩)
    (by kernel_rfl)
end Go.Proofs.YtanhblokhcaoiaaDoor.lawTraceAll
