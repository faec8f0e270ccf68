/- Whatever modules drive, tick by tick, with whatever fault, the lines come to stand, and those drove, as the document says: for every number of modules, puts, and fault; no condition. -/
import Derived.RegionTactic
import Derived.IntWalk
import Derived.Deep.DeepCutAuto
import Derived.Deep.CutBlock
import Derived.Test.YtfolciibgdilcaaBusP
import Derived.Test.YtfolciibgdilcaaRows
import Derived.WalkKit
import Derived.ProofKit
import Derived.OpenShut
import Derived.ShutString
import Derived.ChangeOld
import Derived.Below
namespace Go.Proofs.Ytfolciibgdilcaa.lawBusSettles
open Go.ChangeShapes Go.WideShapes Go.ChangeAt Go.RowKit Base
open Go.ChangeMaps (open_string shut_string)
set_option linter.unusedVariables false
set_option linter.unusedSimpArgs false
theorem own : ownKnob Try.prog.godebug = none := by kernel_rfl
theorem laidOut : laidOutB Try.prog = true := by kernel_rfl
open Ly24

abbrev T16 : TypeId := 28
abbrev TP : TypeId := 32
/-- No module beyond the n-th drives. -/
def Zn (n : Nat) (ds : List Nat) : Prop := ∀ m, n ≤ m → ds.getD m 0 = 0
/-- What lies there between the steps. -/
structure St (w : World) (gb g5 n : Nat) (F : Array Value) (dr dv : List Nat) (ln : Nat) (wr : World) : Prop where
  bus : BusAt wr gb n dr dv ln true
  flt : Obj1 wr g5 TF F
  bel : Below w.heap.size w wr
theorem St.kept {w wr w' : World} {gb g5 n : Nat} {F : Array Value} {dr dv : List Nat} {ln : Nat} (h : St w gb g5 n F dr dv ln wr) (hb : Below wr.heap.size wr w') : St w gb g5 n F dr dv ln w' := ⟨h.bus.kept hb, h.flt.kept hb, h.bel.trans (hb.mono h.bel.size)⟩
theorem arr_at {ds : List Nat} {m : Nat} (hm : m < ds.length) : (i64s ds).toArray[m]? = some (.int .i64 (ds[m] : Nat)) := by
  rw [List.getElem?_toArray, List.getElem?_map, List.getElem?_eq_getElem hm]
  rfl
theorem arr_set {ds : List Nat} {m r : Nat} : (i64s ds).toArray.setIfInBounds m (.int .i64 (r : Int)) = (i64s (ds.set m r)).toArray := by
  apply Array.toList_inj.1
  rw [Array.toList_setIfInBounds]
  simp [i64s, List.map_set]
theorem getD_at {ds : List Nat} {m : Nat} (hm : m < ds.length) : ds.getD m 0 = ds[m] := by rw [List.getD_eq_getElem?_getD, List.getElem?_eq_getElem hm]; rfl
theorem Zn.set {n m r : Nat} {ds : List Nat} (h : Zn n ds) (hm : m < n) : Zn n (ds.set m r) := fun j hj => by
  have := h j hj
  rw [List.getD_eq_getElem?_getD] at this ⊢
  rw [List.getElem?_set_ne (by omega)]
  exact this
theorem Zn.z (n : Nat) : Zn n z16 := fun m _ => by
  unfold z16
  rw [List.getD_eq_getElem?_getD, List.getElem?_replicate]
  split <;> rfl
def ORel (w : World) (gb g5 n N : Nat) (F : Array Value) (i : Value) (wr : World) : Prop := ∃ t : Nat, t ≤ N ∧ i = .int .i64 t ∧ ∃ dv ln, St w gb g5 n F z16 dv ln wr
def PRel (w : World) (gb g5 gd n k : Nat) (F : Array Value) (dv : List Nat) (ln : Nat) (i : Value) (wr : World) : Prop :=
  ∃ (j : Nat) (ds : List Nat), j ≤ k ∧ j ≤ 30 ∧ i = .int .i64 j ∧ St w gb g5 n F ds dv ln wr ∧ Obj1 wr gd T16 (i64s ds).toArray ∧ Zn n ds
def MRel (w : World) (gb g5 gd n : Nat) (F : Array Value) (ds : List Nat) (r : Nat) (p q i : Value) (wr : World) : Prop :=
  ∃ m : Nat, m ≤ n ∧ p = .int .i64 (drv ds m : Nat) ∧ q = .int .i64 ((tlk ds m).length : Nat) ∧ i = .int .i64 m ∧ St w gb g5 n F z16 ds r wr ∧ Obj1 wr gd T16 (i64s ds).toArray
theorem mrel {w wr : World} {gb g5 gd n m r : Nat} {F : Array Value} {ds : List Nat} {P Q I : Int} (hlt : m < n) (hp : P = ((drv ds (m + 1) : Nat) : Int)) (hq : Q = (((tlk ds (m + 1)).length : Nat) : Int)) (hi : I = ((m + 1 : Nat) : Int)) (hs : St w gb g5 n F z16 ds r wr) (hd : Obj1 wr gd T16 (i64s ds).toArray) : MRel w gb g5 gd n F ds r (.int .i64 P) (.int .i64 Q) (.int .i64 I) wr :=
  ⟨m + 1, by omega, by rw [hp], by rw [hq], by rw [hi], hs, hd⟩
def KRel (w : World) (gb g5 gd n : Nat) (F : Array Value) (ds : List Nat) (r : Nat) (i : Value) (wr : World) : Prop :=
  ∃ k : Nat, k ≤ 4 ∧ i = .int .i64 k ∧ St w gb g5 n F z16 ds r wr ∧ Obj1 wr gd T16 (i64s ds).toArray
def IRel (w : World) (gb g5 gd n : Nat) (F : Array Value) (ds : List Nat) (r k : Nat) (h i : Value) (wr : World) : Prop :=
  ∃ m : Nat, m ≤ n ∧ h = .bool (hitF ds k m) ∧ i = .int .i64 m ∧ St w gb g5 n F z16 ds r wr ∧ Obj1 wr gd T16 (i64s ds).toArray
theorem st_want {kd ln : Int} {l v kk : Nat} {b ht : Bool} (h : Ly3.hb l kk = ht) : stF ht (b && ((kd == 1) && (ln == (kk : Int)))) v = Ly20.wantF kd ln l v b kk := by
  unfold stF Ly20.wantF
  rw [h]
  by_cases hc : b = true ∧ kd = 1 ∧ (kk : Int) = ln ∧ v % 4 < 2
  · obtain ⟨rfl, rfl, rfl, hv⟩ := hc
    simp [hv]
  · rw [if_neg hc, if_neg]
    rintro ⟨h1, h2⟩
    apply hc
    simp only [Bool.and_eq_true, beq_iff_eq] at h1
    exact ⟨h1.1, h1.2.1, h1.2.2.symm, h2⟩
theorem ne3 {d : Nat} (h : ¬ d = 3) : ((d : Int) != 3) = true := by simp; omega
theorem ne0 {d : Nat} (h : ¬ d = 0) : ((d : Int) != 0) = true := by simp; omega
theorem wq4 {d q : Nat} (h : d / 4 = q) (hd : d < 16) : wrap64 (q : Int) = (q : Int) := by unfold wrap64; omega
theorem tm4 {d e : Nat} (h : d % 4 = e) : (d : Int).tmod 4 = (e : Int) := by rw [Int.tmod_eq_emod_of_nonneg (by omega), ← h]; omega
theorem td4 {d e : Nat} (h : d / 4 = e) : (d : Int).tdiv 4 = (e : Int) := by rw [Int.tdiv_eq_ediv_of_nonneg (by omega), ← h]; omega
theorem drv_le (ds : List Nat) (m : Nat) (h : ds.length = 16) : drv ds m ≤ 16 := by
  unfold drv
  refine Nat.le_trans (List.length_filter_le _ _) ?_
  rw [List.length_take, h]
  omega
set_option maxRecDepth 100000 in
set_option maxHeartbeats 8000000 in
theorem walk_in (md0 : Int) (n : Nat) (A : Option Addr) (N c : Nat) (ts : List TickIn) (kd md : Int) (fy : Bool) (ln fr : Int) (B : Option Addr) (fn fcp : Nat) (xs : List Int) (w : World) (hn : (n : Int) = min (max md0 0) 16) (hN : N ≤ 40) (hfn : fn ≤ 300)
    (ht : TicksAt w A N ts) (hl : Lst w B fn (xs.map (Value.int .u8))) (hx : ∀ x ∈ xs, 0 ≤ x ∧ x ≤ 255) :
    Calls Try.prog 3 #[.int .i64 md0, .slice A N c, .agg (fc kd md fy ln fr B fn fcp)] w fun e w' => e = .returned (.bool true) ∧ Below w.heap.size w w' := by
  obtain ⟨f, f0, f1, hand⟩ := and_mask fr 255 (by omega)
  have hand' : Go.bits BinOp.and IntKind.i64 fr 255 = f := hand
  have HT := Lib.hid ht
  have HL := Lib.hid hl
  have HX := Lib.hid hx
  have hn16 : n ≤ 16 := by omega
  have HB0 := Lib.hid (bel_new w (.cells (fc kd md fy ln f B fn fcp) TF))
  have HO1 := Lib.hid (Obj1.new w TF (fc kd md fy ln f B fn fcp))
  have ho0 := Obj1.new w TF (fc kd md fy ln fr B fn fcp)
  obtain ⟨g5, HG5⟩ : ∃ g5, Hid (w.heap.size = g5) := ⟨_, Lib.hid rfl⟩
  rw [HG5.out] at HO1 ho0
  have k4 := ho0.cell 4
  have k5 := ho0.cell 5
  have f4 := ho0.free 4
  have HNE := Lib.hid hn
  clear ht hl hx ho0 hand hn
  go_enter Try.func3, Try.ntmps3
  go_upto_region 4 with (fail)
  rw [HG5.out]
  generalize w.alloc (.cells #[.int .i64 kd, .int .i64 md, .bool fy, .int .i64 ln, .int .i64 f, .slice B fn fcp] TF) = W at HB0 HO1 ⊢
  clear k4 k5 f4 hand'
  go_wp2_with fail
  refine (new_any n md0 W HNE.out).mono ?_
  rintro e w1 ⟨rfl, HN1, HB1⟩
  obtain ⟨gb, HGB⟩ : ∃ gb, Hid (W.heap.size = gb) := ⟨_, Lib.hid rfl⟩
  rw [HGB.out] at HN1 ⊢
  have HS1 : Hid (St w gb g5 n (fc kd md fy ln f B fn fcp) z16 z16 0 w1) := Lib.hid ⟨HN1.out, HO1.out.kept HB1.out, HB0.out.trans (HB1.out.mono HB0.out.size)⟩
  have HGW := Lib.hid (show w.heap.size ≤ g5 ∧ g5 < gb from ⟨by rw [HG5.out]; exact Nat.le_refl _, by rw [← HGB.out]; exact HO1.out.lt⟩)
  clear HN1 HB1 HO1 HB0
  go_upto_region 7 with (fail)
  go_cut [8] from 40 to 42 (fun v wx => v = .int .i64 n ∧ wx = w1)
  case first =>
    have hne := HNE.out
    rcases (show md0 ≤ 0 ∨ (0 < md0 ∧ md0 ≤ 16) ∨ 16 < md0 by omega) with h | ⟨h, h2⟩ | h
    · obtain rfl : n = 0 := by omega
      clear hne
      go_wp2
      go_meet
      exact ⟨rfl, rfl⟩
    · obtain rfl : md0 = (n : Int) := by omega
      clear hne
      go_wp2
      go_meet
      exact ⟨rfl, rfl⟩
    · obtain rfl : n = 16 := by omega
      clear hne
      go_wp2
      go_meet
      exact ⟨rfl, rfl⟩
  case rest =>
    obtain ⟨rfl, rfl⟩ := hcut
    go_wp2_with fail
    go_loopw [9] (fun i wr => ORel w gb g5 n N (fc kd md fy ln f B fn fcp) i wr) (fun i _ => N - (intOf i).toNat)
    case atStart => exact ⟨0, by omega, rfl, z16, 0, HS1.out⟩
    case round =>
      obtain ⟨tk, htk, rfl, dv, l0, hst⟩ := hrel
      have HST := Lib.hid hst
      clear hst
      by_cases hlt : tk < N
      · have htl : tk < ts.length := by rw [HT.out.1]; exact hlt
        obtain ⟨b, off, hA, hblt, hcell⟩ := HT.out.2.1 (by omega)
        have hc0 := hcell tk _ (List.getElem?_eq_getElem htl)
        have hin := HT.out.2.2 _ (List.getElem_mem htl)
        obtain ⟨⟨D, k, kc, ps⟩, HTI⟩ : ∃ ti, Hid (ts[tk]'htl = ti) := ⟨_, Lib.hid rfl⟩
        rw [HTI.out] at hc0 hin
        obtain ⟨hpu, hpb, hkm⟩ := hin
        have hkm' : k ≤ 9223372036854775807 := hkm
        have HPU := Lib.hid (show PutsAt w D k ps from hpu)
        have HPB := Lib.hid (show ∀ p ∈ ps, p.2 < 256 from hpb)
        have HPL := Lib.hid (show ps.length = k from hpu.1)
        have HC0 : Hid (∀ W, Below w.heap.size w W → W.cell? ⟨b, off + tk, none⟩ = some (.slice D k kc)) := Lib.hid (fun W hW => (hW.cell (p := ⟨b, off + tk, none⟩) hblt).trans hc0)
        have hA' : A = some ⟨b, off, none⟩ := hA
        subst hA'
        clear hA hcell hc0 hpu hpb hkm
        have hti : (tk : Int) < (N : Int) := by omega
        obtain ⟨gd, HGD⟩ : ∃ gd, Hid (wr.heap.size = gd) := ⟨_, Lib.hid rfl⟩
        have HS2 : Hid (St w gb g5 n (fc kd md fy ln f B fn fcp) z16 dv l0 (wr.alloc (.cells #[.int .i64 0, .int .i64 0, .int .i64 0, .int .i64 0, .int .i64 0, .int .i64 0, .int .i64 0, .int .i64 0, .int .i64 0, .int .i64 0, .int .i64 0, .int .i64 0, .int .i64 0, .int .i64 0, .int .i64 0, .int .i64 0] T16))) := Lib.hid (HST.out.kept (bel_new wr (.cells (i64s z16).toArray T16)))
        have HD2 : Hid (Obj1 (wr.alloc (.cells #[.int .i64 0, .int .i64 0, .int .i64 0, .int .i64 0, .int .i64 0, .int .i64 0, .int .i64 0, .int .i64 0, .int .i64 0, .int .i64 0, .int .i64 0, .int .i64 0, .int .i64 0, .int .i64 0, .int .i64 0, .int .i64 0] T16)) gd T16 (i64s z16).toArray) := Lib.hid (by
          have := Obj1.new wr T16 (i64s z16).toArray
          rw [HGD.out] at this
          exact this)
        have HGD2 := Lib.hid (show gb < gd by rw [← HGD.out]; exact HST.out.bus.obj.lt)
        clear HST
        go_upto_block 2 with (fail)
        rw [HGD.out]
        generalize wr.alloc (.cells #[.int .i64 0, .int .i64 0, .int .i64 0, .int .i64 0, .int .i64 0, .int .i64 0, .int .i64 0, .int .i64 0, .int .i64 0, .int .i64 0, .int .i64 0, .int .i64 0, .int .i64 0, .int .i64 0, .int .i64 0, .int .i64 0] T16) = W2 at HS2 HD2 ⊢
        go_cut [11, 12] from 49 to 95 (fun _ _ wx => ∃ ds, St w gb g5 n (fc kd md fy ln f B fn fcp) ds dv l0 wx ∧ Obj1 wx gd T16 (i64s ds).toArray ∧ Zn n ds)
        case first =>
          have HP0 : Hid (PRel w gb g5 gd n k (fc kd md fy ln f B fn fcp) dv l0 (.int .i64 0) W2) := Lib.hid ⟨0, z16, by omega, by omega, rfl, HS2.out, HD2.out, Zn.z n⟩
          go_wp2_with fail
          go_loopw [11] (fun i wx => PRel w gb g5 gd n k (fc kd md fy ln f B fn fcp) dv l0 i wx) (fun i _ => k - (intOf i).toNat)
          case atStart => exact HP0.out
          case round =>
            obtain ⟨j, ds, hj, hj30, rfl, hs, hd, hz⟩ := hrel
            have HS3 := Lib.hid hs
            have HD3 := Lib.hid hd
            have HZ3 := Lib.hid hz
            have kc0 := HC0.out _ hs.bel
            clear hs hd hz
            by_cases hjk : j < k
            · have hjki : (j : Int) < (k : Int) := by omega
              by_cases hj3 : j < 30
              · have hj3i : (j : Int) < 30 := by omega
                obtain ⟨pb, poff, rfl, hpblt, hpc⟩ := HPU.out.2 (by omega)
                have hjl : j < ps.length := by rw [HPL.out]; exact hjk
                have hpj0 := List.getElem?_eq_getElem hjl
                have hlb := HPB.out _ (List.getElem_mem hjl)
                obtain ⟨⟨m, l⟩, HPJ⟩ : ∃ p, Hid (ps[j]'hjl = p) := ⟨_, Lib.hid rfl⟩
                rw [HPJ.out] at hpj0 hlb
                have c0 := (HS3.out.bel.cell (p := ⟨pb, poff + j * 2, none⟩) hpblt).trans (hpc j _ hpj0).1
                have c1 := (HS3.out.bel.cell (p := ⟨pb, poff + j * 2 + 1, none⟩) hpblt).trans (hpc j _ hpj0).2
                clear hpj0 hpc
                simp only at c0 c1 hlb
                go_upto_region 16 with (fail)
                obtain ⟨gp, HGP⟩ : ∃ gp, Hid (wr.heap.size = gp) := ⟨_, Lib.hid rfl⟩
                have HS4 := Lib.hid (HS3.out.kept (bel_new wr (.cells #[.int .i64 m, .int .u8 (l : Int)] TP)))
                have HD4 := Lib.hid (HD3.out.kept (bel_new wr (.cells #[.int .i64 m, .int .u8 (l : Int)] TP)))
                have HO4 := Lib.hid (Obj1.new wr TP #[.int .i64 m, .int .u8 (l : Int)])
                have HLP := Lib.hid (show gd < gp by rw [← HGP.out]; exact HD3.out.lt)
                rw [HGP.out] at HO4 ⊢
                generalize wr.alloc (.cells #[.int .i64 m, .int .u8 (l : Int)] TP) = W4 at HS4 HD4 HO4 ⊢
                clear c0 c1 HS3 HD3 kc0
                have o0 := HO4.out.cell 0
                have o1 := HO4.out.cell 1
                by_cases hmn : 0 ≤ m ∧ m < (n : Int)
                · obtain ⟨mm, rfl⟩ : ∃ mm : Nat, m = (mm : Int) := ⟨m.toNat, by omega⟩
                  have hmm : mm < n := by omega
                  have hmi : (mm : Int) < (n : Int) := hmn.2
                  have hml : mm < ds.length := by rw [HS4.out.bus.ldr]; omega
                  have hdd : ds.getD mm 0 < 16 := by rw [getD_at hml]; exact HS4.out.bus.bdr _ (List.getElem_mem hml)
                  obtain ⟨dd, HDD⟩ : ∃ dd, Hid (ds.getD mm 0 = dd) := ⟨_, Lib.hid rfl⟩
                  have hput := put_in HS4.out.bus mm l hmm hlb
                  rw [HDD.out] at hput hdd
                  rw [or_mod hdd] at hput
                  obtain ⟨l2, HL2⟩ : ∃ l2, Hid (l % 16 = l2) := ⟨_, Lib.hid rfl⟩
                  rw [HL2.out] at hput
                  have hl2 : l2 < 16 := by rw [← HL2.out]; exact Nat.mod_lt _ (by omega)
                  obtain ⟨r, HR⟩ : ∃ r, Hid (dd ||| l2 = r) := ⟨_, Lib.hid rfl⟩
                  have hr : Go.bits BinOp.or IntKind.i64 (dd : Int) (l2 : Int) = (r : Int) := by rw [i64_orN dd l2 (by omega) (by omega), HR.out]
                  rw [HR.out] at hput
                  have HPUT := Lib.hid hput
                  have hrem : (l : Int).tmod 16 = (l2 : Int) := by rw [Int.tmod_eq_emod_of_nonneg (by omega), ← HL2.out]; omega
                  have HREM := Lib.hid hrem
                  have HORR := Lib.hid hr
                  clear hput hmn hrem hr
                  go_wp2_with fail
                  refine HPUT.out.mono ?_
                  rintro e wa ⟨rfl, HBA, HWR⟩
                  clear o0 o1
                  have HD5 := Lib.hid (HD4.out.touch HWR.out (by have := HGD2.out; omega))
                  have HO5 := Lib.hid (HO4.out.touch HWR.out (by have := HGD2.out; have := HLP.out; omega))
                  have HF5 := Lib.hid (HS4.out.flt.touch HWR.out (by have := HGW.out; omega))
                  have HB5 := Lib.hid (HS4.out.bel.trans (HWR.out.below (by have := HGW.out; omega) HS4.out.bel.size))
                  have o0 := HO5.out.cell 0
                  go_upto_region 18 with (fail)
                  clear o0
                  have hdr : Below wa.heap.size wa wa.drew := (Below.refl _ _).drew
                  have hdc := arr_at hml
                  rw [← getD_at hml, HDD.out] at hdc
                  have K0 : ∀ x : Kin wa.drew, x.world.cell? ⟨gp, 0, none⟩ = some (.int .i64 (mm : Int)) := fun x => (HO5.out.kept (hdr.trans x.below)).cell 0
                  have K1 : ∀ x : Kin wa.drew, x.world.cell? ⟨gp, 1, none⟩ = some (.int .u8 (l : Int)) := fun x => (HO5.out.kept (hdr.trans x.below)).cell 1
                  have K2 : ∀ x : Kin wa.drew, x.world.cell? ⟨gd, mm, none⟩ = some (.int .i64 (dd : Int)) := fun x => ((HD5.out.kept (hdr.trans x.below)).cell mm).trans hdc
                  clear hdc
                  have hrem := HREM.out
                  have hor := HORR.out
                  have hm16i : (mm : Int) < 16 := by omega
                  have hwl : IntKind.i64.wrap (l : Int) = (l : Int) := IntWalk.i64_in _ (by omega)
                  go_wp2_with fail
                  refine wp_region_specL 12 [.d (.pointer (some ⟨gp, 0, none⟩)), .d (.int .i64 mm), .d (.pointer (some ⟨gp, 0, none⟩)), .d (.int .i64 mm), .d (.pointer (some ⟨gd, mm, none⟩)), .d (.int .i64 dd), .d (.pointer (some ⟨gp, 1, none⟩)), .d (.int .u8 l), .d (.int .i64 l), .d (.int .i64 l2), .d (.int .i64 r), .d (.pointer (some ⟨gd, mm, none⟩))] (by kernel_rfl) (by kernel_rfl) ?_
                  refine spec_d rfl (fun x _ => gives_run (by go_simp)) ?_
                  try simp only [Act.put, List.getElem_toArray, List.getElem_cons_succ, List.getElem_cons_zero, List.setIfInBounds_toArray, List.set_cons_zero, List.set_cons_succ]
                  refine spec_d rfl (fun x _ => gives_run (by go_simp)) ?_
                  try simp only [Act.put, List.getElem_toArray, List.getElem_cons_succ, List.getElem_cons_zero, List.setIfInBounds_toArray, List.set_cons_zero, List.set_cons_succ]
                  refine spec_d rfl (fun x _ => gives_run (by go_simp)) ?_
                  try simp only [Act.put, List.getElem_toArray, List.getElem_cons_succ, List.getElem_cons_zero, List.setIfInBounds_toArray, List.set_cons_zero, List.set_cons_succ]
                  refine spec_d rfl (fun x _ => gives_run (by go_simp)) ?_
                  try simp only [Act.put, List.getElem_toArray, List.getElem_cons_succ, List.getElem_cons_zero, List.setIfInBounds_toArray, List.set_cons_zero, List.set_cons_succ]
                  refine spec_d rfl (fun x _ => gives_run (by go_simp)) ?_
                  try simp only [Act.put, List.getElem_toArray, List.getElem_cons_succ, List.getElem_cons_zero, List.setIfInBounds_toArray, List.set_cons_zero, List.set_cons_succ]
                  refine spec_d rfl (fun x _ => gives_run (by go_simp)) ?_
                  try simp only [Act.put, List.getElem_toArray, List.getElem_cons_succ, List.getElem_cons_zero, List.setIfInBounds_toArray, List.set_cons_zero, List.set_cons_succ]
                  refine spec_d rfl (fun x _ => gives_run (by go_simp)) ?_
                  try simp only [Act.put, List.getElem_toArray, List.getElem_cons_succ, List.getElem_cons_zero, List.setIfInBounds_toArray, List.set_cons_zero, List.set_cons_succ]
                  refine spec_d rfl (fun x _ => gives_run (by go_simp)) ?_
                  try simp only [Act.put, List.getElem_toArray, List.getElem_cons_succ, List.getElem_cons_zero, List.setIfInBounds_toArray, List.set_cons_zero, List.set_cons_succ]
                  refine spec_d rfl (fun x _ => gives_run (by go_simp)) ?_
                  try simp only [Act.put, List.getElem_toArray, List.getElem_cons_succ, List.getElem_cons_zero, List.setIfInBounds_toArray, List.set_cons_zero, List.set_cons_succ]
                  refine spec_d rfl (fun x _ => gives_run (by go_simp)) ?_
                  try simp only [Act.put, List.getElem_toArray, List.getElem_cons_succ, List.getElem_cons_zero, List.setIfInBounds_toArray, List.set_cons_zero, List.set_cons_succ]
                  refine spec_d rfl (fun x _ => gives_run (by go_simp)) ?_
                  try simp only [Act.put, List.getElem_toArray, List.getElem_cons_succ, List.getElem_cons_zero, List.setIfInBounds_toArray, List.set_cons_zero, List.set_cons_succ]
                  refine spec_d rfl (fun x _ => gives_run (by go_simp)) ?_
                  try simp only [Act.put, List.getElem_toArray, List.getElem_cons_succ, List.getElem_cons_zero, List.setIfInBounds_toArray, List.set_cons_zero, List.set_cons_succ]
                  refine spec_end (fun x hx => ?_)
                  have hx0 : x.world.frozen? ⟨gd, mm, none⟩ = false := (HD5.out.kept (hdr.trans x.below)).free mm
                  have hx1 := K2 x
                  clear hx
                  change wpAny _ _ _ _ (0 + 1) _ _ _
                  refine wpAny_ready (rs := [12]) (by kernel_rfl) (by simp) ?_
                  refine AllReady.cons rfl (fun KK hK => ?_) AllReady.nil
                  go_simp
                  refine hK _ _ ?_
                  clear hK KK
                  try simp only [Act.put, List.getElem_toArray, List.getElem_cons_succ, List.getElem_cons_zero, List.setIfInBounds_toArray, List.set_cons_zero, List.set_cons_succ]
                  refine wpAny_done (by kernel_rfl) ?_ _
                  have hbx : Below wa.heap.size wa x.world := hdr.trans x.below
                  have HD6 : Hid (Obj1 (x.world.setCell ⟨gd, mm, none⟩ (.int .i64 (r : Int))) gd T16 (i64s (ds.set mm r)).toArray) := Lib.hid (by
                    have := (HD5.out.kept hbx).set mm (.int .i64 (r : Int))
                    rw [arr_set] at this
                    exact this)
                  have hwg : Wrote gd wa (x.world.setCell ⟨gd, mm, none⟩ (.int .i64 (r : Int))) := (Wrote.of_below hbx).set (.inl rfl) _
                  have HS6 : Hid (St w gb g5 n (fc kd md fy ln f B fn fcp) (ds.set mm r) dv l0 (x.world.setCell ⟨gd, mm, none⟩ (.int .i64 (r : Int)))) := Lib.hid ⟨HBA.out.touch hwg (by have := HGD2.out; omega), HF5.out.touch hwg (by have := HGD2.out; have := HGW.out; omega), HB5.out.trans (hwg.below (by have := HGD2.out; have := HGW.out; omega) HB5.out.size)⟩
                  have HZ6 := Lib.hid (HZ3.out.set (r := r) hmm)
                  generalize x.world.setCell ⟨gd, mm, none⟩ (.int .i64 (r : Int)) = W6 at HD6 HS6 ⊢
                  clear hwg hbx hx0 hx1 K0 K1 K2 hrem hor hwl hdr
                  go_wp2
                  go_roundw
                  case rel => exact ⟨j + 1, ds.set mm r, by omega, by omega, by go_num, HS6.out, HD6.out, HZ6.out⟩
                  case measure => simp [intOf]; omega
                · have HPUT := Lib.hid (put_out HS4.out.bus m l (by omega))
                  go_wp2_with fail
                  refine HPUT.out.mono ?_
                  rintro e wa ⟨rfl, rfl⟩
                  rcases (show m < 0 ∨ (0 ≤ m ∧ ¬ m < (n : Int)) by omega) with h0 | ⟨h0, h1⟩
                  all_goals
                    go_wp2
                    go_roundw
                    case rel => exact ⟨j + 1, ds, by omega, by omega, by go_num, HS4.out, HD4.out, HZ3.out⟩
                    case measure => simp [intOf]; omega
              · obtain rfl : j = 30 := by omega
                go_wp2
                go_meet
                exact ⟨ds, HS3.out, HD3.out, HZ3.out⟩
            · obtain rfl : j = k := by omega
              go_wp2
              go_meet
              exact ⟨ds, HS3.out, HD3.out, HZ3.out⟩
        case rest =>
          obtain ⟨ds, hs, hd, hz⟩ := hcut
          have HS7 := Lib.hid hs
          have HD7 := Lib.hid hd
          have HZ7 := Lib.hid hz
          obtain ⟨v0, b7, hat, hv0, hv1⟩ := Ly20.AtR.ex kd f tk f0 (by omega) HL.out HX.out
          obtain ⟨v, rfl⟩ : ∃ v : Nat, v0 = (v : Int) := ⟨v0.toNat, by omega⟩
          have HAT := Lib.hid hat
          have hv8 : v < 256 := by omega
          have htk9 : (tk : Int) ≤ 9223372036854775807 := by omega
          have HRB := Lib.hid (Ly20.rbyte_any kd f tk v B fn fcp b7 _ htk9 hv0 hv1 (HAT.out.kept hs.bel))
          have g0 := hs.flt.cell 0
          have g1 := hs.flt.cell 1
          have g2 := hs.flt.cell 2
          have g3 := hs.flt.cell 3
          have g4 := hs.flt.cell 4
          have g5' := hs.flt.cell 5
          have hal : allL ds < 16 := and15_lt _
          obtain ⟨r, HR⟩ : ∃ r, Hid (Ly20.linF kd ln (allL ds) v b7 = r) := ⟨_, Lib.hid rfl⟩
          have hr16 : r < 16 := by rw [← HR.out]; exact Ly20.linF16 hal
          have HSE := Lib.hid (settle_any kd md fy ln f B fn fcp tk r hr16 hs.bus (fun W hW => by
            have := Ly20.lines_any kd md fy ln f B fn fcp (allL ds) tk v b7 W (by omega) htk9 hv0 hv1 (HAT.out.kept (hs.bel.trans (hW.below (by have := HGW.out; omega) hs.bel.size)))
            rw [HR.out] at this
            exact this))
          clear hs hd hz hat
          go_wp2_with fail
          refine HRB.out.mono ?_
          rintro e w' ⟨rfl, rfl⟩
          go_wp2_with fail
          refine HSE.out.mono ?_
          rintro e wd ⟨rfl, HBD, HWD⟩
          have HS8 : Hid (St w gb g5 n (fc kd md fy ln f B fn fcp) z16 ds r wd) := Lib.hid ⟨HBD.out, HS7.out.flt.touch HWD.out (by have := HGW.out; omega), HS7.out.bel.trans (HWD.out.below (by have := HGW.out; omega) HS7.out.bel.size)⟩
          have HD8 := Lib.hid (HD7.out.touch HWD.out (by have := HGD2.out; omega))
          clear g0 g1 g2 g3 g4 g5' HS7 HD7 HBD HWD
          go_upto_block 4 with (fail)
          go_cut [16, 17, 18, 19] from 111 to 157 (fun p q _ _ wx => p = .int .i64 (drv ds n : Nat) ∧ q = .int .i64 ((tlk ds n).length : Nat) ∧ St w gb g5 n (fc kd md fy ln f B fn fcp) z16 ds r wx ∧ Obj1 wx gd T16 (i64s ds).toArray)
          case first =>
            have HM0 : Hid (MRel w gb g5 gd n (fc kd md fy ln f B fn fcp) ds r (.int .i64 0) (.int .i64 0) (.int .i64 0) wd) := Lib.hid ⟨0, by omega, rfl, rfl, rfl, HS8.out, HD8.out⟩
            go_wp2_with fail
            go_loopw [16, 17, 18] (fun p q i wx => MRel w gb g5 gd n (fc kd md fy ln f B fn fcp) ds r p q i wx) (fun _ _ i _ => n - (intOf i).toNat)
            case atStart => exact HM0.out
            case round =>
              obtain ⟨m, hm, hp, hq, rfl, hs, hd⟩ := hrel
              have HS9 := Lib.hid hs
              have HD9 := Lib.hid hd
              clear hs hd
              obtain ⟨q1, HQ1⟩ : ∃ q1, Hid (drv ds m = q1) := ⟨_, Lib.hid rfl⟩
              obtain ⟨z1, HZ1⟩ : ∃ z1, Hid ((tlk ds m).length = z1) := ⟨_, Lib.hid rfl⟩
              have hz16 : z1 ≤ m := by rw [← HZ1.out]; exact tlk_len ds m
              have hq16 : q1 ≤ 16 := by rw [← HQ1.out]; exact drv_le ds m HS9.out.bus.ldv
              rw [HQ1.out] at hp
              rw [HZ1.out] at hq
              subst hp
              subst hq
              by_cases hlt : m < n
              · have hmi : (m : Int) < (n : Int) := by omega
                have hm16 : (m : Int) < 16 := by omega
                have hml : m < ds.length := by rw [HS9.out.bus.ldv]; omega
                have hdd : ds.getD m 0 < 16 := by rw [getD_at hml]; exact HS9.out.bus.bdv _ (List.getElem_mem hml)
                obtain ⟨d, HDD⟩ : ∃ d, Hid (ds.getD m 0 = d) := ⟨_, Lib.hid rfl⟩
                rw [HDD.out] at hdd
                have hdc := arr_at hml
                rw [← getD_at hml, HDD.out] at hdc
                have hdr : Below wr.heap.size wr wr.drew := (Below.refl _ _).drew
                have HDV : Hid (∀ x : Kin wr.drew, Calls Try.prog 9 #[.pointer (some ⟨gb, 0, none⟩), .int .i64 m] x.world fun e w' => e = .returned (.int .u8 (d : Int)) ∧ x.world = w') := Lib.hid (fun x => by
                  have := drove_in (HS9.out.bus.kept (hdr.trans x.below)) m hlt
                  rw [HDD.out] at this
                  exact this)
                have K2 : ∀ x : Kin wr.drew, x.world.cell? ⟨gd, m, none⟩ = some (.int .i64 (d : Int)) := fun x => ((HD9.out.kept (hdr.trans x.below)).cell m).trans hdc
                have HDC := Lib.hid hdc
                clear hdc
                have hwd : IntKind.i64.wrap (d : Int) = (d : Int) := IntWalk.i64_in _ (by omega)
                go_upto_region 25 with (fail)
                go_wp2_with fail
                refine wp_region_specL 8 [.d (.pointer (some ⟨gb, 0, none⟩)), .d (.int .i64 m), .d (.int .u8 d), .d (.int .i64 d), .d (.int .i64 m), .d (.pointer (some ⟨gd, m, none⟩)), .d (.int .i64 d), .d (.bool false)] (by kernel_rfl) (by kernel_rfl) ?_
                refine spec_d rfl (fun x _ => gives_run (by go_simp)) ?_
                try simp only [Act.put, List.getElem_toArray, List.getElem_cons_succ, List.getElem_cons_zero, List.setIfInBounds_toArray, List.set_cons_zero, List.set_cons_succ]
                refine spec_d rfl (fun x _ => gives_run (by go_simp)) ?_
                try simp only [Act.put, List.getElem_toArray, List.getElem_cons_succ, List.getElem_cons_zero, List.setIfInBounds_toArray, List.set_cons_zero, List.set_cons_succ]
                refine spec_d rfl (fun x _ => gives_det_same (by go_simp) (HDV.out x)) ?_
                try simp only [Act.put, List.getElem_toArray, List.getElem_cons_succ, List.getElem_cons_zero, List.setIfInBounds_toArray, List.set_cons_zero, List.set_cons_succ]
                refine spec_d rfl (fun x _ => gives_run (by go_simp)) ?_
                try simp only [Act.put, List.getElem_toArray, List.getElem_cons_succ, List.getElem_cons_zero, List.setIfInBounds_toArray, List.set_cons_zero, List.set_cons_succ]
                refine spec_d rfl (fun x _ => gives_run (by go_simp)) ?_
                try simp only [Act.put, List.getElem_toArray, List.getElem_cons_succ, List.getElem_cons_zero, List.setIfInBounds_toArray, List.set_cons_zero, List.set_cons_succ]
                refine spec_d rfl (fun x _ => gives_run (by go_simp)) ?_
                try simp only [Act.put, List.getElem_toArray, List.getElem_cons_succ, List.getElem_cons_zero, List.setIfInBounds_toArray, List.set_cons_zero, List.set_cons_succ]
                refine spec_d rfl (fun x _ => gives_run (by go_simp)) ?_
                try simp only [Act.put, List.getElem_toArray, List.getElem_cons_succ, List.getElem_cons_zero, List.setIfInBounds_toArray, List.set_cons_zero, List.set_cons_succ]
                refine spec_d rfl (fun x _ => gives_run (by go_simp)) ?_
                try simp only [Act.put, List.getElem_toArray, List.getElem_cons_succ, List.getElem_cons_zero, List.setIfInBounds_toArray, List.set_cons_zero, List.set_cons_succ]
                refine spec_end (fun x hx => ?_)
                clear hx
                refine wpAny_done (by kernel_rfl) ?_ _
                have hbx := hdr.trans x.below
                have HS10 := Lib.hid (HS9.out.kept hbx)
                have HD10 := Lib.hid (HD9.out.kept hbx)
                have hd2 := K2 x
                clear K2 hbx hdr hwd
                generalize x.world = W10 at HS10 HD10 hd2 ⊢
                clear x
                have HDS : Hid (ds[m] = d) := Lib.hid (by rw [← getD_at hml]; exact HDD.out)
                by_cases hd0 : d = 0
                · have HQ2 : Hid (drv ds (m + 1) = q1) := Lib.hid (by rw [drv_succ ds m hml, HDS.out, if_pos hd0, HQ1.out]; rfl)
                  have HZ2 : Hid ((tlk ds (m + 1)).length = z1) := Lib.hid (by rw [tlk_succ, if_neg (by rw [HDD.out, hd0]; decide), HZ1.out])
                  subst hd0
                  go_wp2
                  go_roundw
                  case rel => exact mrel hlt (by rw [HQ2.out]) (by rw [HZ2.out]) (by go_num) HS10.out HD10.out
                  case measure => simp [intOf]; omega
                · have HQ2 : Hid (drv ds (m + 1) = q1 + 1) := Lib.hid (by rw [drv_succ ds m hml, HDS.out, if_neg hd0, HQ1.out])
                  have HTK : Hid (talk (ds.getD m 0) = (decide (d % 4 ≠ 3) && decide (d / 4 ≠ 3))) := Lib.hid (by rw [HDD.out]; exact talk_eq hdd hd0)
                  have hb0 : ((d : Int) != 0) = true := ne0 hd0
                  have hw1 : IntKind.i64.wrap ((q1 : Int) + 1) = (q1 : Int) + 1 := IntWalk.i64_in _ (by omega)
                  obtain ⟨e4, HE4⟩ : ∃ e4, Hid (d % 4 = e4) := ⟨_, Lib.hid rfl⟩
                  obtain ⟨q4, HQ4⟩ : ∃ q4, Hid (d / 4 = q4) := ⟨_, Lib.hid rfl⟩
                  rw [HE4.out, HQ4.out] at HTK
                  have htm : (d : Int).tmod 4 = (e4 : Int) := tm4 HE4.out
                  have htd : (d : Int).tdiv 4 = (q4 : Int) := td4 HQ4.out
                  have hwq : wrap64 (q4 : Int) = (q4 : Int) := wq4 HQ4.out hdd
                  clear hd0
                  by_cases he : e4 = 3
                  · have HZ2 : Hid ((tlk ds (m + 1)).length = z1) := Lib.hid (by rw [tlk_succ, if_neg (by rw [HTK.out, he]; simp), HZ1.out])
                    subst he
                    go_wp2
                    go_roundw
                    case rel => exact mrel hlt (by rw [HQ2.out]; omega) (by rw [HZ2.out]) (by go_num) HS10.out HD10.out
                    case measure => simp [intOf]; omega
                  · have he1 : ((e4 : Int) != 3) = true := ne3 he
                    by_cases hf : q4 = 3
                    · have HZ2 : Hid ((tlk ds (m + 1)).length = z1) := Lib.hid (by rw [tlk_succ, if_neg (by rw [HTK.out, hf]; simp), HZ1.out])
                      subst hf
                      clear he
                      go_wp2
                      go_roundw
                      case rel => exact mrel hlt (by rw [HQ2.out]; omega) (by rw [HZ2.out]) (by go_num) HS10.out HD10.out
                      case measure => simp [intOf]; omega
                    · have hf1 : ((q4 : Int) != 3) = true := ne3 hf
                      have HT1 : Hid (talk (ds.getD m 0) = true) := Lib.hid (by rw [HTK.out]; simp [he, hf])
                      have HZ2 : Hid ((tlk ds (m + 1)).length = z1 + 1) := Lib.hid (by rw [tlk_succ, if_pos HT1.out, List.length_append, HZ1.out]; rfl)
                      have HAT2 : Hid ((tlk ds n)[z1]? = some m) := Lib.hid (by rw [← HZ1.out]; exact tlk_at hlt HT1.out)
                      obtain ⟨zt, HZT⟩ : ∃ zt, Hid ((tlk ds n).length = zt) := ⟨_, Lib.hid rfl⟩
                      have hzz : z1 < zt := by rw [← HZT.out]; exact (List.getElem?_eq_some_iff.1 HAT2.out).1
                      have hzt : zt ≤ n := by rw [← HZT.out]; exact tlk_len ds n
                      have hzzi : (z1 : Int) < (zt : Int) := by omega
                      have hw2 : IntKind.i64.wrap ((z1 : Int) + 1) = (z1 : Int) + 1 := IntWalk.i64_in _ (by omega)
                      have HTA := Lib.hid (talkers_at HS10.out.bus)
                      clear he hf
                      go_wp2_with fail
                      refine HTA.out.mono ?_
                      rintro e wt ⟨vt, rfl, HOWN, HBT⟩
                      obtain ⟨At, ct, rfl, hzc, hcm, hlst⟩ := Lst.of_own HOWN.out
                      rw [HZT.out] at hlst hzc ⊢
                      obtain ⟨gt, ot, rfl, hgt, hct⟩ := hlst.2 (by omega)
                      have hct1 : wt.cell? ⟨gt, ot + z1, none⟩ = some (.int .i64 (m : Int)) := by
                        rw [hct z1 hzz, List.getElem?_map, HAT2.out]
                        rfl
                      have HS11 := Lib.hid (HS10.out.kept HBT.out)
                      have HD11 := Lib.hid (HD10.out.kept HBT.out)
                      clear hlst hct HOWN HTA hd2
                      go_wp2
                      go_roundw
                      case rel => exact mrel hlt (by rw [HQ2.out]; omega) (by rw [HZ2.out]; omega) (by go_num) HS11.out HD11.out
                      case measure => simp [intOf]; omega
              · obtain rfl : m = n := by omega
                rw [← HQ1.out, ← HZ1.out]
                go_wp2
                go_meet
                exact ⟨rfl, rfl, HS9.out, HD9.out⟩
          case rest =>
            obtain ⟨rfl, rfl, hs, hd⟩ := hcut
            have HSA := Lib.hid hs
            have HDA := Lib.hid hd
            clear hs hd HS8 HD8
            obtain ⟨Q, HQ⟩ : ∃ Q, Hid (drv ds n = Q) := ⟨_, Lib.hid rfl⟩
            obtain ⟨Z, HZ⟩ : ∃ Z, Hid ((tlk ds n).length = Z) := ⟨_, Lib.hid rfl⟩
            rw [HQ.out, HZ.out]
            go_upto_block 6 with (fail)
            go_cut [20, 21, 22] from 158 to 193 (fun _ _ _ wx => St w gb g5 n (fc kd md fy ln f B fn fcp) z16 ds r wx ∧ Obj1 wx gd T16 (i64s ds).toArray)
            case first =>
              have HK0 : Hid (KRel w gb g5 gd n (fc kd md fy ln f B fn fcp) ds r (.int .i64 0) wc) := Lib.hid ⟨0, by omega, rfl, HSA.out, HDA.out⟩
              go_wp2_with fail
              go_loopw [20] (fun i wx => KRel w gb g5 gd n (fc kd md fy ln f B fn fcp) ds r i wx) (fun i _ => 4 - (intOf i).toNat)
              case atStart => exact HK0.out
              case round =>
                obtain ⟨kk, hkk, rfl, hs, hd⟩ := hrel
                have HSB := Lib.hid hs
                have HDB := Lib.hid hd
                clear hs hd
                by_cases hlt : kk < 4
                · have hk4 : kk < 4 := hlt
                  have hki : (kk : Int) < 4 := by omega
                  go_upto_block 8 with (fail)
                  go_cut [21, 22] from 162 to 174 (fun h _ wx => h = .bool (hitF ds kk n) ∧ St w gb g5 n (fc kd md fy ln f B fn fcp) z16 ds r wx ∧ Obj1 wx gd T16 (i64s ds).toArray)
                  case first =>
                    have HI0 : Hid (IRel w gb g5 gd n (fc kd md fy ln f B fn fcp) ds r kk (.bool false) (.int .i64 0) wr) := Lib.hid ⟨0, by omega, rfl, rfl, HSB.out, HDB.out⟩
                    go_wp2_with fail
                    go_loopw [21, 22] (fun h i wx => IRel w gb g5 gd n (fc kd md fy ln f B fn fcp) ds r kk h i wx) (fun _ i _ => n - (intOf i).toNat)
                    case atStart => exact HI0.out
                    case round =>
                      obtain ⟨m, hm, hh, rfl, hs, hd⟩ := hrel
                      have HSC := Lib.hid hs
                      have HDC := Lib.hid hd
                      clear hs hd
                      obtain ⟨hb, HHB⟩ : ∃ hb, Hid (hitF ds kk m = hb) := ⟨_, Lib.hid rfl⟩
                      rw [HHB.out] at hh
                      subst hh
                      by_cases hlt : m < n
                      · have hmi : (m : Int) < (n : Int) := by omega
                        have hm16 : (m : Int) < 16 := by omega
                        have hml : m < ds.length := by rw [HSC.out.bus.ldv]; omega
                        have hdd : ds.getD m 0 < 16 := by rw [getD_at hml]; exact HSC.out.bus.bdv _ (List.getElem_mem hml)
                        obtain ⟨d, HDD⟩ : ∃ d, Hid (ds.getD m 0 = d) := ⟨_, Lib.hid rfl⟩
                        rw [HDD.out] at hdd
                        have hdc := arr_at hml
                        rw [← getD_at hml, HDD.out] at hdc
                        have hd2 := (HDC.out.cell m).trans hdc
                        obtain ⟨hb2, HB2⟩ : ∃ hb2, Hid (Ly3.hb d kk = hb2) := ⟨_, Lib.hid rfl⟩
                        have hsu := hitF_succ ds kk m
                        rw [HHB.out, HDD.out, HB2.out] at hsu
                        have HSU := Lib.hid hsu
                        clear hdc hsu
                        cases hb
                        · have HRH := Lib.hid (Ly3.rhigh_at d kk wr (by omega) hk4)
                          rw [HB2.out] at HRH
                          go_wp2_with fail
                          refine HRH.out.mono ?_
                          rintro e w' ⟨rfl, rfl⟩
                          go_wp2
                          go_roundw
                          case rel => exact ⟨m + 1, by omega, by rw [HSU.out]; rfl, by go_num, HSC.out, HDC.out⟩
                          case measure => simp [intOf]; omega
                        · go_wp2
                          go_roundw
                          case rel => exact ⟨m + 1, by omega, by rw [HSU.out]; rfl, by go_num, HSC.out, HDC.out⟩
                          case measure => simp [intOf]; omega
                      · obtain rfl : m = n := by omega
                        rw [← HHB.out]
                        go_wp2
                        go_meet
                        exact ⟨rfl, HSC.out, HDC.out⟩
                  case rest =>
                    obtain ⟨rfl, hs, hd⟩ := hcut
                    have HSD := Lib.hid hs
                    have HDD := Lib.hid hd
                    have g0 := hs.flt.cell 0
                    have g3 := hs.flt.cell 3
                    clear hs hd HSB HDB
                    obtain ⟨x, HX⟩ : ∃ x, Hid (Ly3.hb r kk = x) := ⟨_, Lib.hid rfl⟩
                    obtain ⟨ht, HT9⟩ : ∃ ht, Hid (hitF ds kk n = ht) := ⟨_, Lib.hid rfl⟩
                    have HW : Hid (x = Ly20.wantF kd ln (allL ds) v b7 kk) := Lib.hid (by rw [← HX.out, ← HR.out]; exact Ly20.hb_lin kd ln (allL ds) v b7 kk (by omega) hk4)
                    have HH9 : Hid (Ly3.hb (allL ds) kk = ht) := Lib.hid (by rw [← HT9.out]; exact (hit_all HSD.out.bus.ldv hn16 HZ7.out hk4).symm)
                    have HST9 : Hid (∀ fb, fb = (b7 && ((kd == 1) && (ln == (kk : Int)))) → stF ht fb v = x) := Lib.hid (fun fb hfb => by rw [HW.out, hfb]; exact st_want HH9.out)
                    have HHI := Lib.hid (Ly3.high_at r kk wc (by omega) hk4)
                    rw [HX.out] at HHI
                    rw [HT9.out]
                    clear HW HH9
                    cases b7
                    · have HSQ := Lib.hid (HST9.out false (by simp))
                      go_wp2_with fail
                      refine HHI.out.mono ?_
                      rintro e w' ⟨rfl, rfl⟩
                      go_wp2_with fail
                      refine (stands_any ht false v _ hv8).mono ?_
                      rintro e w' ⟨rfl, rfl⟩
                      rw [HSQ.out]
                      go_wp2
                      go_roundw
                      case rel => exact ⟨kk + 1, by omega, by go_num, HSD.out, HDD.out⟩
                      case measure => simp [intOf]; omega
                    · by_cases hk1 : kd = 1
                      · have hkb : (kd == 1) = true := by rw [hk1]; rfl
                        by_cases hl1 : ln = (kk : Int)
                        · have hlb : (ln == (kk : Int)) = true := by rw [hl1]; simp
                          have HSQ := Lib.hid (HST9.out true (by rw [hkb, hlb]; rfl))
                          clear hk1 hl1
                          go_wp2_with fail
                          refine HHI.out.mono ?_
                          rintro e w' ⟨rfl, rfl⟩
                          go_wp2_with fail
                          refine (stands_any ht true v _ hv8).mono ?_
                          rintro e w' ⟨rfl, rfl⟩
                          rw [HSQ.out]
                          go_wp2
                          go_roundw
                          case rel => exact ⟨kk + 1, by omega, by go_num, HSD.out, HDD.out⟩
                          case measure => simp [intOf]; omega
                        · have hlb : (ln == (kk : Int)) = false := by simpa using hl1
                          have HSQ := Lib.hid (HST9.out false (by rw [hkb, hlb]; rfl))
                          clear hk1 hl1
                          go_wp2_with fail
                          refine HHI.out.mono ?_
                          rintro e w' ⟨rfl, rfl⟩
                          go_wp2_with fail
                          refine (stands_any ht false v _ hv8).mono ?_
                          rintro e w' ⟨rfl, rfl⟩
                          rw [HSQ.out]
                          go_wp2
                          go_roundw
                          case rel => exact ⟨kk + 1, by omega, by go_num, HSD.out, HDD.out⟩
                          case measure => simp [intOf]; omega
                      · have hkb : (kd == 1) = false := by simpa using hk1
                        have HSQ := Lib.hid (HST9.out false (by rw [hkb]; rfl))
                        clear hk1
                        go_wp2_with fail
                        refine HHI.out.mono ?_
                        rintro e w' ⟨rfl, rfl⟩
                        go_wp2_with fail
                        refine (stands_any ht false v _ hv8).mono ?_
                        rintro e w' ⟨rfl, rfl⟩
                        rw [HSQ.out]
                        go_wp2
                        go_roundw
                        case rel => exact ⟨kk + 1, by omega, by go_num, HSD.out, HDD.out⟩
                        case measure => simp [intOf]; omega
                · obtain rfl : kk = 4 := by omega
                  go_wp2
                  go_meet
                  exact ⟨HSB.out, HDB.out⟩
            case rest =>
              obtain ⟨hs, hd⟩ := hcut
              have HSE9 := Lib.hid hs
              clear hd hs HSA HDA
              have HLI := Lib.hid (lines_at HSE9.out.bus)
              have HDRV := Lib.hid (drivers_at HSE9.out.bus)
              have HTLK := Lib.hid (talkers_at HSE9.out.bus)
              rw [HQ.out] at HDRV
              rw [HZ.out] at HTLK
              go_wp2_with fail
              refine HLI.out.mono ?_
              rintro e w' ⟨rfl, rfl⟩
              go_wp2_with fail
              refine HDRV.out.mono ?_
              rintro e w' ⟨rfl, rfl⟩
              go_wp2_with fail
              refine HTLK.out.mono ?_
              rintro e wt ⟨vt, rfl, HOWN, HBT⟩
              obtain ⟨At, ct, rfl, hzc, hcm, hlst⟩ := Lst.of_own HOWN.out
              clear hlst HOWN hzc hcm
              have HSF := Lib.hid (HSE9.out.kept HBT.out)
              go_wp2_with fail
              refine (drove_out HSF.out.bus (n : Int) (.inr (by omega))).mono ?_
              rintro e w' ⟨rfl, rfl⟩
              go_wp2_with fail
              refine (drove_out HSF.out.bus (-1) (.inl (by omega))).mono ?_
              rintro e w' ⟨rfl, rfl⟩
              go_wp2
              go_roundw
              case rel => exact ⟨tk + 1, by omega, by go_num, ds, r, HSF.out⟩
              case measure => simp [intOf]; omega
      · obtain rfl : tk = N := by omega
        go_wp2_with fail
        refine (one_any wr).mono ?_
        rintro e wo ⟨rfl, hbo⟩
        have HBO := Lib.hid (HST.out.bel.trans (hbo.mono HST.out.bel.size))
        clear hbo
        go_wp2
        go_ret
        exact ⟨rfl, HBO.out⟩
abbrev shF : Sh := .fld (.int .i64) (.fld (.int .i64) (.fld .bool (.fld (.int .i64) (.fld (.int .i64) (.fld (.sl (.int .u8)) .nil)))))
theorem readsF {w : World} {cs : Array Value} (h : Reads w shF cs.toList) :
    ∃ (kd md : Int) (fy : Bool) (ln fr : Int) (A : Option Addr) (n c : Nat) (xs : List Int), cs = fc kd md fy ln fr A n c ∧ Lst w A n (xs.map (Value.int .u8)) ∧ (∀ x ∈ xs, 0 ≤ x ∧ x ≤ 255) := by
  obtain ⟨_, _, e, ⟨kd, rfl, hk⟩, _, _, rfl, ⟨md, rfl, hm⟩, _, _, rfl, ⟨fy, rfl⟩, _, _, rfl, ⟨ln, rfl, hln⟩, _, _, rfl, ⟨fr, rfl, hf⟩, _, _, rfl, ⟨A, n, c, rows, rfl, hnc, hcm, hg, hr⟩, rfl⟩ := h
  obtain ⟨xs, hl, hx⟩ := grid_lst hg hr
  exact ⟨kd, md, fy, ln, fr, A, n, c, xs, by cases cs; simpa using e, hl, hx⟩
set_option maxRecDepth 100000 in
theorem walk (md0 : Int) (A : Option Addr) (N c : Nat) (rows : List (List Value)) (cs : Array Value) (w : World) (t0 : -9223372036854775808 ≤ md0) (t1 : md0 ≤ 9223372036854775807) (hg : Grid w A N (Sh.size (.sl shP)) rows) (hr : ∀ r ∈ rows, Reads w (.sl shP) r) (hnc : N ≤ c) (hcm : c ≤ maxLen) (hm : Reads w shF cs.toList) :
    Calls Try.prog 3 #[.int .i64 md0, .slice A N c, .agg cs] w fun e w' => e = .returned (.bool true) ∧ Below w.heap.size w w' := by
  unfold maxLen at hcm
  obtain ⟨ts, ht⟩ := ticks_of hg hr
  obtain ⟨kd, md, fy, ln, fr, B, fn, fcp, xs, rfl, hl, hx⟩ := readsF hm
  clear hg hr hm
  by_cases hN : N ≤ 40
  · by_cases hfn : fn ≤ 300
    · exact walk_in md0 (min (max md0 0) 16).toNat A N c ts kd md fy ln fr B fn fcp xs w (by omega) hN hfn ht hl hx
    · have hNi : ¬ (40 : Int) < (N : Int) := by omega
      have hfi : (300 : Int) < (fn : Int) := by omega
      have ho0 := Obj1.new w TF (fc kd md fy ln fr B fn fcp)
      have HB := Lib.hid (bel_new w (.cells (fc kd md fy ln fr B fn fcp) TF))
      obtain ⟨g5, HG5⟩ : ∃ g5, Hid (w.heap.size = g5) := ⟨_, Lib.hid rfl⟩
      have k5 := ho0.cell 5
      clear ho0 ht hl hx hN hfn
      go_enter Try.func3, Try.ntmps3
      go_wp2
      go_ret
      exact ⟨rfl, HB.out⟩
  · have hNi : (40 : Int) < (N : Int) := by omega
    have HB := Lib.hid (bel_new w (.cells (fc kd md fy ln fr B fn fcp) TF))
    clear ht hl hx hN
    go_enter Try.func3, Try.ntmps3
    go_wp2
    go_ret
    exact ⟨rfl, HB.out⟩

set_option maxRecDepth 100000 in
theorem lifted (os : Os) (started : os.Started) (H : Type) (enc : TypeId × Value → H) :
    ReturnsInHanded {} Try.checked os 3 .any (Rows.busSettlesSpec.pre6 enc Try.prog Try.f3 Rows.busSettlesRow.domain false) (Rows.busSettlesSpec.post enc Try.prog Try.f3 false true false false) := by
  refine returnsInHanded_of_change (C := Try.checked) own started (by kernel_rfl) Try.func3
    (ChangeSpec.witness6 (enc := enc) (C := Try.checked) false ⟨#[], #[.int .i64 0, .slice none 0 0, .agg #[.int .i64 0, .int .i64 0, .bool false, .int .i64 0, .int .i64 0, .slice none 0 0]], []⟩ 8 (by kernel_rfl) (by kernel_rfl) (by kernel_rfl) (by kernel_rfl)) ?_
  intro W base args ds gs before hval0 hW hcnd _
  have hval : ∀ (j : Nat) t v, Try.f3.params[j]? = some t → args[j]? = some v → Value.okWide Try.prog W .any base t v := hval0
  have hW' := hW
  obtain ⟨p, q, hA0, hV, rfl, hfz, hnd⟩ := hW
  have hA : DataW.TrodAll enc Try.prog W 0 (fun _ => true) true Try.f3.params.toList args.toList ds p := hA0
  rw [Try.params3] at hA hval
  obtain ⟨v0, vs0, d0, ds0, p0, q0, hargs, rfl, rfl, h0, r0⟩ := trodAll_cons hA
  obtain ⟨v1, vs1, d1, ds1, p1, q1, rfl, rfl, rfl, h1, r1⟩ := trodAll_cons r0
  obtain ⟨v2, vs2, d2, ds2, p2, q2, rfl, rfl, rfl, h2, r2⟩ := trodAll_cons r1
  obtain ⟨rfl, rfl, rfl⟩ := trodAll_nil r2
  obtain rfl : args = #[v0, v1, v2] := by cases args; simp_all
  obtain ⟨rfl, rfl⟩ := trodVars_none hV
  obtain ⟨modules, rfl, rfl, rfl, wf0⟩ := open_int Try.underlying3 (hval 0 3 v0 rfl rfl) h0
  have bd0 := bounds_i64 wf0
  have k1 := h1
  have lt1 : ∀ x ∈ p1, x.block < W.heap.size := by obtain ⟨m, hm⟩ := k1; exact DataW.trod_lt m _ _ _ hm
  obtain ⟨lA, ln, lc, rfl⟩ := okWide_slice Try.underlying22 (hval 1 22 v1 rfl rfl)
  obtain ⟨l, g1, rd1, cb1, cc1⟩ := reads_slice (e := .sl shP) 30 (by kernel_rfl) k1
  have k2 := h2
  have lt2 : ∀ x ∈ p2, x.block < W.heap.size := by obtain ⟨m, hm⟩ := k2; exact DataW.trod_lt m _ _ _ hm
  obtain ⟨f, rfl⟩ := okWide_agg (by first | exact .inl ⟨_, Try.underlying25⟩ | exact .inr ⟨_, _, Try.underlying25⟩) (hval 2 25 v2 rfl rfl)
  have rd2 := reads_cells (sh := shF) 30 (by kernel_rfl) k2
  clear hA0 hval0
  refine (walk modules lA ln lc l f W bd0.1 bd0.2 g1 rd1 cb1 cc1 rd2).mono fun e W' ⟨he, bel⟩ => ?_
  subst he
  exact ⟨_, rfl, _, _, _, [], _, [], hW', trodAll_mk1 (shut_bool Try.underlying4 _), (trodAll_cons_mk (shut_int Try.underlying3 wf0) (trodAll_cons_mk (Below.trod laidOut (by kernel_rfl) (of_decide_eq_true (by kernel_rfl)) k1 bel lt1) (trodAll_cons_mk (Below.trod laidOut (by kernel_rfl) (of_decide_eq_true (by kernel_rfl)) k2 bel lt2) trodAll_mk0))), rfl, bel.frame _, fun h => by cases h⟩

theorem over : Rows.busSettlesRow.holds Try.pinned (OpenSpec.ofChange Rows.busSettlesSpec) :=
  OpenClaim.holds_of_wide 3 Try.f3 rfl rfl rfl rfl rfl rfl rfl ⟨rfl, rfl, rfl, rfl, rfl⟩ rfl rfl rfl rfl rfl (by kernel_rfl) Try.func3 (by kernel_rfl)
    (of_decide_eq_true (by kernel_rfl)) (by unfold Func.isWrapper; first | (rw [if_pos (by decide +kernel)]; kernel_rfl) | (rw [if_neg (by decide +kernel)]; exact ⟨rfl, rfl⟩))
    (fun os started H enc _ => lifted os started H enc)

/-- The statement. -/
theorem proved : Rows.BusSettlesSaid := over
end Go.Proofs.Ytfolciibgdilcaa.lawBusSettles
