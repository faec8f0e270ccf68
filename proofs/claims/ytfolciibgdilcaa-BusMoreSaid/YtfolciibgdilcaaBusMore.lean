/- Who drives more lets no line be lower; in whatever order modules drive, lines come to stand alike; a bus that nobody made has none: for every puts, one more, and tick; no condition. -/
import Derived.RegionTactic
import Derived.IntWalk
import Derived.Deep.DeepCutAuto
import Derived.Test.YtfolciibgdilcaaBusO
import Derived.Test.YtfolciibgdilcaaRows
import Derived.WalkKit
import Derived.ProofKit
import Derived.OpenShut
import Derived.ShutString
import Derived.ChangeOld
import Derived.Below
namespace Go.Proofs.Ytfolciibgdilcaa.lawBusMore
open Go.ChangeShapes Go.WideShapes Go.ChangeAt Go.RowKit Base
open Go.ChangeMaps (open_string shut_string)
set_option linter.unusedVariables false
set_option linter.unusedSimpArgs false
theorem own : ownKnob Try.prog.godebug = none := by kernel_rfl
theorem laidOut : laidOutB Try.prog = true := by kernel_rfl
open Ly24

def MRel (w : World) (n ga gb gc g0 : Nat) (m : Int) (l : Nat) (ps : Puts) (i : Value) (wr : World) : Prop :=
  ∃ j : Nat, j ≤ n ∧ i = .int .i64 j ∧ BusAt wr ga 16 (D (ps.take j).reverse) z16 0 true ∧ BusAt wr gb 16 (D (ps.drop (n - j))) z16 0 true ∧ BusAt wr gc 16 (D (ps.take j).reverse) z16 0 true ∧ Obj1 wr g0 32 #[.int .i64 m, .int .u8 l] ∧ Below w.heap.size w wr
set_option maxRecDepth 100000 in
set_option maxHeartbeats 4000000 in
theorem walk_in (A : Option Addr) (n c : Nat) (ps : Puts) (m : Int) (l : Nat) (tk : Int) (w : World) (hn : n ≤ 60) (ht : tk ≤ 9223372036854775807) (ha : PutsAt w A n ps) (hp : ∀ p ∈ ps, p.2 < 256) (hl : l < 256) :
    Calls Try.prog 4 #[.slice A n c, .agg #[.int .i64 m, .int .u8 l], .int .i64 tk] w fun e w' => e = .returned (.bool true) ∧ Below w.heap.size w w' := by
  have HP := Lib.hid hp
  have HA := Lib.hid ha
  have HPL := Lib.hid ha.1
  have HB0 := Lib.hid (bel_new w (.cells #[.int .i64 m, .int .u8 l] 32))
  have HO0 := Lib.hid (Obj1.new w 32 #[.int .i64 m, .int .u8 l])
  obtain ⟨g0, HG0⟩ : ∃ g0, Hid (w.heap.size = g0) := ⟨_, Lib.hid rfl⟩
  rw [HG0.out] at HO0
  clear ha hp
  go_enter Try.func4, Try.ntmps4
  go_wp2_with fail
  rw [HG0.out]
  generalize w.alloc (.cells #[.int .i64 m, .int .u8 l] 32) = W at HB0 HO0 ⊢
  refine (new_any 16 16 W (by omega)).mono ?_
  rintro e w1 ⟨rfl, HA1, HB1⟩
  have HBE1 := Lib.hid (HB0.out.trans (HB1.out.mono HB0.out.size))
  have HO1 := Lib.hid (HO0.out.kept HB1.out)
  obtain ⟨ga, HGA⟩ : ∃ ga, Hid (W.heap.size = ga) := ⟨_, Lib.hid rfl⟩
  rw [HGA.out] at HA1 ⊢
  go_wp2_with fail
  refine (new_any 16 16 w1 (by omega)).mono ?_
  rintro e w2 ⟨rfl, HB2a, HB2⟩
  have HBE2 := Lib.hid (HBE1.out.trans (HB2.out.mono HBE1.out.size))
  have HO2 := Lib.hid (HO1.out.kept HB2.out)
  have HA2 := Lib.hid (HA1.out.kept HB2.out)
  obtain ⟨gb, HGB⟩ : ∃ gb, Hid (w1.heap.size = gb) := ⟨_, Lib.hid rfl⟩
  rw [HGB.out] at HB2a ⊢
  go_wp2_with fail
  refine (new_any 16 16 w2 (by omega)).mono ?_
  rintro e w3 ⟨rfl, HC3, HB3⟩
  have HBE3 := Lib.hid (HBE2.out.trans (HB3.out.mono HBE2.out.size))
  have HO3 := Lib.hid (HO2.out.kept HB3.out)
  have HA3 := Lib.hid (HA2.out.kept HB3.out)
  have HB3a := Lib.hid (HB2a.out.kept HB3.out)
  obtain ⟨gc, HGC⟩ : ∃ gc, Hid (w2.heap.size = gc) := ⟨_, Lib.hid rfl⟩
  rw [HGC.out] at HC3 ⊢
  have HLA := Lib.hid (show g0 < ga ∧ ga < gb ∧ gb < gc from ⟨by rw [← HGA.out]; exact HO0.out.lt, by rw [← HGB.out]; exact HA1.out.obj.lt, by rw [← HGC.out]; exact HB2a.out.obj.lt⟩)
  have HGW := Lib.hid (show w.heap.size ≤ g0 by rw [HG0.out]; exact Nat.le_refl _)
  have HST : Hid (MRel w n ga gb gc g0 m l ps (.int .i64 0) w3) := Lib.hid ⟨0, by omega, rfl, by simpa [D_nil] using HA3.out, by rw [Nat.sub_zero, List.drop_of_length_le (by rw [HPL.out]; exact Nat.le_refl _), D_nil]; exact HB3a.out, by simpa [D_nil] using HC3.out, HO3.out, HBE3.out⟩
  have HO0w := Lib.hid HO3.out
  clear HA3 HB3a HC3 HA2 HA1 HB2a HO1 HO2 HB1 HB2 HB3 HBE1 HBE2 HO0 HB0 HGA HGB HGC
  go_wp2_with fail
  go_loopw [10] (fun i wr => MRel w n ga gb gc g0 m l ps i wr) (fun i _ => n - (intOf i).toNat)
  case atStart => exact HST.out
  case round =>
    obtain ⟨j, hj, rfl, hba, hbb, hbc, hob, hbel⟩ := hrel
    have HOB := Lib.hid hob
    have HBA := Lib.hid hba
    have HBB := Lib.hid hbb
    have HBC := Lib.hid hbc
    have HBE := Lib.hid hbel
    clear hba hbb hbc hbel hob
    by_cases hlt : j < n
    · have hjl : j < ps.length := by rw [HPL.out]; exact hlt
      obtain ⟨b, off, rfl, hblt, hcell⟩ := HA.out.2 (by omega)
      have HCELL : Hid (∀ W, Below w.heap.size w W → ∀ i p, ps[i]? = some p → W.cell? ⟨b, off + i * 2, none⟩ = some (.int .i64 p.1) ∧ W.cell? ⟨b, off + i * 2 + 1, none⟩ = some (.int .u8 (p.2 : Int))) := Lib.hid (fun W hW i p hp =>
        ⟨(hW.cell (p := ⟨b, off + i * 2, none⟩) hblt).trans (hcell i p hp).1, (hW.cell (p := ⟨b, off + i * 2 + 1, none⟩) hblt).trans (hcell i p hp).2⟩)
      obtain ⟨k, hk⟩ : ∃ k : Nat, n - (j + 1) = k := ⟨_, rfl⟩
      have hkl : k < ps.length := by rw [HPL.out]; omega
      have HJ := Lib.hid (List.getElem?_eq_getElem hjl)
      have HK := Lib.hid (List.getElem?_eq_getElem hkl)
      have hb1 := HP.out _ (List.getElem_mem hjl)
      have hb2 := HP.out _ (List.getElem_mem hkl)
      have HTK : Hid ((ps.take (j + 1)).reverse = (ps[j]'hjl) :: (ps.take j).reverse) := Lib.hid (by rw [List.take_succ_eq_append_getElem hjl, List.reverse_append]; rfl)
      have HDK : Hid (ps.drop (n - (j + 1)) = (ps[k]'hkl) :: ps.drop (n - j)) := Lib.hid (by rw [hk, List.drop_eq_getElem_cons hkl, show k + 1 = n - j by omega])
      obtain ⟨p1, HP1⟩ : ∃ p1, Hid (ps[j]'hjl = p1) := ⟨_, Lib.hid rfl⟩
      obtain ⟨p2, HP2⟩ : ∃ p2, Hid (ps[k]'hkl = p2) := ⟨_, Lib.hid rfl⟩
      rw [HP1.out] at HJ hb1 HTK
      rw [HP2.out] at HK hb2 HDK
      have hki : (n : Int) - 1 - (j : Int) = (k : Int) := by omega
      have hji : (j : Int) < (n : Int) := by omega
      have hkn : (k : Int) < (n : Int) := by omega
      have hkn0 : k < n := by omega
      have hw1 : IntKind.i64.wrap ((n : Int) - 1) = (n : Int) - 1 := IntWalk.i64_in _ (by omega)
      have hw2 : IntKind.i64.wrap (k : Int) = (k : Int) := IntWalk.i64_in _ (by omega)
      clear hcell
      have K0 : ∀ x : Kin wr.drew, x.world.cell? ⟨b, off + j * 2, none⟩ = some (.int .i64 p1.1) := fun x => (HCELL.out x.world (HBE.out.trans (((bel_drew wr).trans x.below).mono HBE.out.size)) j p1 HJ.out).1
      have K1 : ∀ x : Kin wr.drew, x.world.cell? ⟨b, off + j * 2 + 1, none⟩ = some (.int .u8 (p1.2 : Int)) := fun x => (HCELL.out x.world (HBE.out.trans (((bel_drew wr).trans x.below).mono HBE.out.size)) j p1 HJ.out).2
      go_wp2_with fail
      refine wp_region_specL 11 [.d (.pointer (some ⟨ga, 0, none⟩)), .d (.slice (some ⟨b, off, none⟩) n c), .d (.int .i64 j), .d (.pointer (some ⟨b, off + j * 2, none⟩)), .d (.pointer (some ⟨b, off + j * 2, none⟩)), .d (.int .i64 p1.1), .d (.slice (some ⟨b, off, none⟩) n c), .d (.int .i64 j), .d (.pointer (some ⟨b, off + j * 2, none⟩)), .d (.pointer (some ⟨b, off + j * 2 + 1, none⟩)), .d (.int .u8 p1.2)] (by kernel_rfl) (by kernel_rfl) ?_
      refine spec_d rfl (fun x _ => gives_run (by go_simp)) ?_
      try simp only [Act.put, List.getElem_toArray, List.getElem_cons_succ, List.getElem_cons_zero, List.setIfInBounds_toArray, List.set_cons_zero, List.set_cons_succ]
      refine spec_d rfl (fun x _ => gives_run (by go_simp)) ?_
      try simp only [Act.put, List.getElem_toArray, List.getElem_cons_succ, List.getElem_cons_zero, List.setIfInBounds_toArray, List.set_cons_zero, List.set_cons_succ]
      refine spec_d rfl (fun x _ => gives_run (by go_simp)) ?_
      try simp only [Act.put, List.getElem_toArray, List.getElem_cons_succ, List.getElem_cons_zero, List.setIfInBounds_toArray, List.set_cons_zero, List.set_cons_succ]
      refine spec_d rfl (fun x _ => gives_run (by go_simp)) ?_
      try simp only [Act.put, List.getElem_toArray, List.getElem_cons_succ, List.getElem_cons_zero, List.setIfInBounds_toArray, List.set_cons_zero, List.set_cons_succ]
      refine spec_d rfl (fun x _ => gives_run (by go_simp)) ?_
      try simp only [Act.put, List.getElem_toArray, List.getElem_cons_succ, List.getElem_cons_zero, List.setIfInBounds_toArray, List.set_cons_zero, List.set_cons_succ]
      refine spec_d rfl (fun x _ => gives_run (by go_simp)) ?_
      try simp only [Act.put, List.getElem_toArray, List.getElem_cons_succ, List.getElem_cons_zero, List.setIfInBounds_toArray, List.set_cons_zero, List.set_cons_succ]
      refine spec_d rfl (fun x _ => gives_run (by go_simp)) ?_
      try simp only [Act.put, List.getElem_toArray, List.getElem_cons_succ, List.getElem_cons_zero, List.setIfInBounds_toArray, List.set_cons_zero, List.set_cons_succ]
      refine spec_d rfl (fun x _ => gives_run (by go_simp)) ?_
      try simp only [Act.put, List.getElem_toArray, List.getElem_cons_succ, List.getElem_cons_zero, List.setIfInBounds_toArray, List.set_cons_zero, List.set_cons_succ]
      refine spec_d rfl (fun x _ => gives_run (by go_simp)) ?_
      try simp only [Act.put, List.getElem_toArray, List.getElem_cons_succ, List.getElem_cons_zero, List.setIfInBounds_toArray, List.set_cons_zero, List.set_cons_succ]
      refine spec_d rfl (fun x _ => gives_run (by go_simp)) ?_
      try simp only [Act.put, List.getElem_toArray, List.getElem_cons_succ, List.getElem_cons_zero, List.setIfInBounds_toArray, List.set_cons_zero, List.set_cons_succ]
      refine spec_d rfl (fun x _ => gives_run (by go_simp)) ?_
      try simp only [Act.put, List.getElem_toArray, List.getElem_cons_succ, List.getElem_cons_zero, List.setIfInBounds_toArray, List.set_cons_zero, List.set_cons_succ]
      refine spec_end (fun x hx => ?_)
      clear hx
      change wpAny _ _ _ _ (0 + 1) _ _ _
      refine wpAny_ready (rs := [11]) (by kernel_rfl) (by simp) ?_
      refine AllReady.cons rfl (fun KK hK => ?_) AllReady.nil
      go_simp
      refine (put_D ((HBA.out).kept ((bel_drew wr).trans x.below)) p1.1 p1.2 hb1).mono ?_
      rintro e wa ⟨rfl, HQ, HR⟩
      refine hK _ _ ?_
      clear hK KK
      try simp only [Act.put, List.getElem_toArray, List.getElem_cons_succ, List.getElem_cons_zero, List.setIfInBounds_toArray, List.set_cons_zero, List.set_cons_succ]
      refine wpAny_done (by kernel_rfl) ?_ _
      have HX := Lib.hid ((bel_drew wr).trans x.below)
      clear K0 K1
      have HBEa := Lib.hid ((HBE.out.trans (HX.out.mono HBE.out.size)).trans (HR.out.below (by have := HLA.out; have := HGW.out; omega) (HBE.out.trans (HX.out.mono HBE.out.size)).size))
      have HBBa := Lib.hid ((HBB.out.kept HX.out).touch HR.out (by have := HLA.out; omega))
      have HBCa := Lib.hid ((HBC.out.kept HX.out).touch HR.out (by have := HLA.out; omega))
      have HOBa := Lib.hid ((HOB.out.kept HX.out).touch HR.out (by have := HLA.out; omega))
      clear HBB HBC HBA
      have K0 : ∀ x : Kin wa.drew, x.world.cell? ⟨b, off + k * 2, none⟩ = some (.int .i64 p2.1) := fun x => (HCELL.out x.world (HBEa.out.trans (((bel_drew wa).trans x.below).mono HBEa.out.size)) k p2 HK.out).1
      have K1 : ∀ x : Kin wa.drew, x.world.cell? ⟨b, off + k * 2 + 1, none⟩ = some (.int .u8 (p2.2 : Int)) := fun x => (HCELL.out x.world (HBEa.out.trans (((bel_drew wa).trans x.below).mono HBEa.out.size)) k p2 HK.out).2
      go_wp2_with fail
      refine wp_region_specL 19 [.d (.pointer (some ⟨gb, 0, none⟩)), .d (.slice (some ⟨b, off, none⟩) n c), .d (.slice (some ⟨b, off, none⟩) n c), .d (.int .i64 n), .d (.int .i64 ((n : Int) - 1)), .d (.int .i64 j), .d (.int .i64 k), .d (.pointer (some ⟨b, off + k * 2, none⟩)), .d (.pointer (some ⟨b, off + k * 2, none⟩)), .d (.int .i64 p2.1), .d (.slice (some ⟨b, off, none⟩) n c), .d (.slice (some ⟨b, off, none⟩) n c), .d (.int .i64 n), .d (.int .i64 ((n : Int) - 1)), .d (.int .i64 j), .d (.int .i64 k), .d (.pointer (some ⟨b, off + k * 2, none⟩)), .d (.pointer (some ⟨b, off + k * 2 + 1, none⟩)), .d (.int .u8 p2.2)] (by kernel_rfl) (by kernel_rfl) ?_
      refine spec_d rfl (fun x _ => gives_run (by go_simp)) ?_
      try simp only [Act.put, List.getElem_toArray, List.getElem_cons_succ, List.getElem_cons_zero, List.setIfInBounds_toArray, List.set_cons_zero, List.set_cons_succ]
      refine spec_d rfl (fun x _ => gives_run (by go_simp)) ?_
      try simp only [Act.put, List.getElem_toArray, List.getElem_cons_succ, List.getElem_cons_zero, List.setIfInBounds_toArray, List.set_cons_zero, List.set_cons_succ]
      refine spec_d rfl (fun x _ => gives_run (by go_simp)) ?_
      try simp only [Act.put, List.getElem_toArray, List.getElem_cons_succ, List.getElem_cons_zero, List.setIfInBounds_toArray, List.set_cons_zero, List.set_cons_succ]
      refine spec_d rfl (fun x _ => gives_run (by go_simp)) ?_
      try simp only [Act.put, List.getElem_toArray, List.getElem_cons_succ, List.getElem_cons_zero, List.setIfInBounds_toArray, List.set_cons_zero, List.set_cons_succ]
      refine spec_d rfl (fun x _ => gives_run (by go_simp)) ?_
      try simp only [Act.put, List.getElem_toArray, List.getElem_cons_succ, List.getElem_cons_zero, List.setIfInBounds_toArray, List.set_cons_zero, List.set_cons_succ]
      refine spec_d rfl (fun x _ => gives_run (by go_simp)) ?_
      try simp only [Act.put, List.getElem_toArray, List.getElem_cons_succ, List.getElem_cons_zero, List.setIfInBounds_toArray, List.set_cons_zero, List.set_cons_succ]
      refine spec_d rfl (fun x _ => gives_run (by go_simp)) ?_
      try simp only [Act.put, List.getElem_toArray, List.getElem_cons_succ, List.getElem_cons_zero, List.setIfInBounds_toArray, List.set_cons_zero, List.set_cons_succ]
      refine spec_d rfl (fun x _ => gives_run (by go_simp)) ?_
      try simp only [Act.put, List.getElem_toArray, List.getElem_cons_succ, List.getElem_cons_zero, List.setIfInBounds_toArray, List.set_cons_zero, List.set_cons_succ]
      refine spec_d rfl (fun x _ => gives_run (by go_simp)) ?_
      try simp only [Act.put, List.getElem_toArray, List.getElem_cons_succ, List.getElem_cons_zero, List.setIfInBounds_toArray, List.set_cons_zero, List.set_cons_succ]
      refine spec_d rfl (fun x _ => gives_run (by go_simp)) ?_
      try simp only [Act.put, List.getElem_toArray, List.getElem_cons_succ, List.getElem_cons_zero, List.setIfInBounds_toArray, List.set_cons_zero, List.set_cons_succ]
      refine spec_d rfl (fun x _ => gives_run (by go_simp)) ?_
      try simp only [Act.put, List.getElem_toArray, List.getElem_cons_succ, List.getElem_cons_zero, List.setIfInBounds_toArray, List.set_cons_zero, List.set_cons_succ]
      refine spec_d rfl (fun x _ => gives_run (by go_simp)) ?_
      try simp only [Act.put, List.getElem_toArray, List.getElem_cons_succ, List.getElem_cons_zero, List.setIfInBounds_toArray, List.set_cons_zero, List.set_cons_succ]
      refine spec_d rfl (fun x _ => gives_run (by go_simp)) ?_
      try simp only [Act.put, List.getElem_toArray, List.getElem_cons_succ, List.getElem_cons_zero, List.setIfInBounds_toArray, List.set_cons_zero, List.set_cons_succ]
      refine spec_d rfl (fun x _ => gives_run (by go_simp)) ?_
      try simp only [Act.put, List.getElem_toArray, List.getElem_cons_succ, List.getElem_cons_zero, List.setIfInBounds_toArray, List.set_cons_zero, List.set_cons_succ]
      refine spec_d rfl (fun x _ => gives_run (by go_simp)) ?_
      try simp only [Act.put, List.getElem_toArray, List.getElem_cons_succ, List.getElem_cons_zero, List.setIfInBounds_toArray, List.set_cons_zero, List.set_cons_succ]
      refine spec_d rfl (fun x _ => gives_run (by go_simp)) ?_
      try simp only [Act.put, List.getElem_toArray, List.getElem_cons_succ, List.getElem_cons_zero, List.setIfInBounds_toArray, List.set_cons_zero, List.set_cons_succ]
      refine spec_d rfl (fun x _ => gives_run (by go_simp)) ?_
      try simp only [Act.put, List.getElem_toArray, List.getElem_cons_succ, List.getElem_cons_zero, List.setIfInBounds_toArray, List.set_cons_zero, List.set_cons_succ]
      refine spec_d rfl (fun x _ => gives_run (by go_simp)) ?_
      try simp only [Act.put, List.getElem_toArray, List.getElem_cons_succ, List.getElem_cons_zero, List.setIfInBounds_toArray, List.set_cons_zero, List.set_cons_succ]
      refine spec_d rfl (fun x _ => gives_run (by go_simp)) ?_
      try simp only [Act.put, List.getElem_toArray, List.getElem_cons_succ, List.getElem_cons_zero, List.setIfInBounds_toArray, List.set_cons_zero, List.set_cons_succ]
      refine spec_end (fun x hx => ?_)
      clear hx
      change wpAny _ _ _ _ (0 + 1) _ _ _
      refine wpAny_ready (rs := [19]) (by kernel_rfl) (by simp) ?_
      refine AllReady.cons rfl (fun KK hK => ?_) AllReady.nil
      go_simp
      refine (put_D ((HBBa.out).kept ((bel_drew wa).trans x.below)) p2.1 p2.2 hb2).mono ?_
      rintro e wb ⟨rfl, HQa, HRa⟩
      refine hK _ _ ?_
      clear hK KK
      try simp only [Act.put, List.getElem_toArray, List.getElem_cons_succ, List.getElem_cons_zero, List.setIfInBounds_toArray, List.set_cons_zero, List.set_cons_succ]
      refine wpAny_done (by kernel_rfl) ?_ _
      have HXa := Lib.hid ((bel_drew wa).trans x.below)
      clear K0 K1
      have HBEb := Lib.hid ((HBEa.out.trans (HXa.out.mono HBEa.out.size)).trans (HRa.out.below (by have := HLA.out; have := HGW.out; omega) (HBEa.out.trans (HXa.out.mono HBEa.out.size)).size))
      have HBAb := Lib.hid ((HQ.out.kept HXa.out).touch HRa.out (by have := HLA.out; omega))
      have HBCb := Lib.hid ((HBCa.out.kept HXa.out).touch HRa.out (by have := HLA.out; omega))
      have HOBb := Lib.hid ((HOBa.out.kept HXa.out).touch HRa.out (by have := HLA.out; omega))
      clear HBBa HBCa HQ
      have K0 : ∀ x : Kin wb.drew, x.world.cell? ⟨b, off + j * 2, none⟩ = some (.int .i64 p1.1) := fun x => (HCELL.out x.world (HBEb.out.trans (((bel_drew wb).trans x.below).mono HBEb.out.size)) j p1 HJ.out).1
      have K1 : ∀ x : Kin wb.drew, x.world.cell? ⟨b, off + j * 2 + 1, none⟩ = some (.int .u8 (p1.2 : Int)) := fun x => (HCELL.out x.world (HBEb.out.trans (((bel_drew wb).trans x.below).mono HBEb.out.size)) j p1 HJ.out).2
      go_wp2_with fail
      refine wp_region_specL 11 [.d (.pointer (some ⟨gc, 0, none⟩)), .d (.slice (some ⟨b, off, none⟩) n c), .d (.int .i64 j), .d (.pointer (some ⟨b, off + j * 2, none⟩)), .d (.pointer (some ⟨b, off + j * 2, none⟩)), .d (.int .i64 p1.1), .d (.slice (some ⟨b, off, none⟩) n c), .d (.int .i64 j), .d (.pointer (some ⟨b, off + j * 2, none⟩)), .d (.pointer (some ⟨b, off + j * 2 + 1, none⟩)), .d (.int .u8 p1.2)] (by kernel_rfl) (by kernel_rfl) ?_
      refine spec_d rfl (fun x _ => gives_run (by go_simp)) ?_
      try simp only [Act.put, List.getElem_toArray, List.getElem_cons_succ, List.getElem_cons_zero, List.setIfInBounds_toArray, List.set_cons_zero, List.set_cons_succ]
      refine spec_d rfl (fun x _ => gives_run (by go_simp)) ?_
      try simp only [Act.put, List.getElem_toArray, List.getElem_cons_succ, List.getElem_cons_zero, List.setIfInBounds_toArray, List.set_cons_zero, List.set_cons_succ]
      refine spec_d rfl (fun x _ => gives_run (by go_simp)) ?_
      try simp only [Act.put, List.getElem_toArray, List.getElem_cons_succ, List.getElem_cons_zero, List.setIfInBounds_toArray, List.set_cons_zero, List.set_cons_succ]
      refine spec_d rfl (fun x _ => gives_run (by go_simp)) ?_
      try simp only [Act.put, List.getElem_toArray, List.getElem_cons_succ, List.getElem_cons_zero, List.setIfInBounds_toArray, List.set_cons_zero, List.set_cons_succ]
      refine spec_d rfl (fun x _ => gives_run (by go_simp)) ?_
      try simp only [Act.put, List.getElem_toArray, List.getElem_cons_succ, List.getElem_cons_zero, List.setIfInBounds_toArray, List.set_cons_zero, List.set_cons_succ]
      refine spec_d rfl (fun x _ => gives_run (by go_simp)) ?_
      try simp only [Act.put, List.getElem_toArray, List.getElem_cons_succ, List.getElem_cons_zero, List.setIfInBounds_toArray, List.set_cons_zero, List.set_cons_succ]
      refine spec_d rfl (fun x _ => gives_run (by go_simp)) ?_
      try simp only [Act.put, List.getElem_toArray, List.getElem_cons_succ, List.getElem_cons_zero, List.setIfInBounds_toArray, List.set_cons_zero, List.set_cons_succ]
      refine spec_d rfl (fun x _ => gives_run (by go_simp)) ?_
      try simp only [Act.put, List.getElem_toArray, List.getElem_cons_succ, List.getElem_cons_zero, List.setIfInBounds_toArray, List.set_cons_zero, List.set_cons_succ]
      refine spec_d rfl (fun x _ => gives_run (by go_simp)) ?_
      try simp only [Act.put, List.getElem_toArray, List.getElem_cons_succ, List.getElem_cons_zero, List.setIfInBounds_toArray, List.set_cons_zero, List.set_cons_succ]
      refine spec_d rfl (fun x _ => gives_run (by go_simp)) ?_
      try simp only [Act.put, List.getElem_toArray, List.getElem_cons_succ, List.getElem_cons_zero, List.setIfInBounds_toArray, List.set_cons_zero, List.set_cons_succ]
      refine spec_d rfl (fun x _ => gives_run (by go_simp)) ?_
      try simp only [Act.put, List.getElem_toArray, List.getElem_cons_succ, List.getElem_cons_zero, List.setIfInBounds_toArray, List.set_cons_zero, List.set_cons_succ]
      refine spec_end (fun x hx => ?_)
      clear hx
      change wpAny _ _ _ _ (0 + 1) _ _ _
      refine wpAny_ready (rs := [11]) (by kernel_rfl) (by simp) ?_
      refine AllReady.cons rfl (fun KK hK => ?_) AllReady.nil
      go_simp
      refine (put_D ((HBCb.out).kept ((bel_drew wb).trans x.below)) p1.1 p1.2 hb1).mono ?_
      rintro e wd ⟨rfl, HQb, HRb⟩
      refine hK _ _ ?_
      clear hK KK
      try simp only [Act.put, List.getElem_toArray, List.getElem_cons_succ, List.getElem_cons_zero, List.setIfInBounds_toArray, List.set_cons_zero, List.set_cons_succ]
      refine wpAny_done (by kernel_rfl) ?_ _
      have HXb := Lib.hid ((bel_drew wb).trans x.below)
      clear K0 K1
      have HBEd := Lib.hid ((HBEb.out.trans (HXb.out.mono HBEb.out.size)).trans (HRb.out.below (by have := HLA.out; have := HGW.out; omega) (HBEb.out.trans (HXb.out.mono HBEb.out.size)).size))
      have HBAd := Lib.hid ((HBAb.out.kept HXb.out).touch HRb.out (by have := HLA.out; omega))
      have HBBd := Lib.hid ((HQa.out.kept HXb.out).touch HRb.out (by have := HLA.out; omega))
      have HOBd := Lib.hid ((HOBb.out.kept HXb.out).touch HRb.out (by have := HLA.out; omega))
      clear hw1 hw2
      go_wp2
      go_roundw
      case rel => exact ⟨j + 1, by omega, by go_num, by rw [HTK.out]; exact HBAd.out, by rw [HDK.out]; exact HBBd.out, by rw [HTK.out]; exact HQb.out, HOBd.out, HBEd.out⟩
      case measure => simp [intOf]; omega
    · obtain rfl : j = n := by omega
      have HBA' : Hid (BusAt wr ga 16 (D ps) z16 0 true) := Lib.hid (by
        have h := HBA.out
        rw [List.take_of_length_le (by rw [HPL.out]; exact Nat.le_refl _), D_reverse] at h
        exact h)
      have HBB' : Hid (BusAt wr gb 16 (D ps) z16 0 true) := Lib.hid (by
        have h := HBB.out
        rw [Nat.sub_self, List.drop_zero] at h
        exact h)
      have HBC' : Hid (BusAt wr gc 16 (D ps) z16 0 true) := Lib.hid (by
        have h := HBC.out
        rw [List.take_of_length_le (by rw [HPL.out]; exact Nat.le_refl _), D_reverse] at h
        exact h)
      clear HBA HBB HBC
      have m0 := HOB.out.cell 0
      have m1 := HOB.out.cell 1
      go_wp2_with fail
      refine (put_D HBC'.out m l hl).mono ?_
      rintro e w4 ⟨rfl, HQ4, HR4⟩
      clear m0 m1
      have HBE4 := Lib.hid (HBE.out.trans (HR4.out.below (by have := HLA.out; have := HGW.out; omega) HBE.out.size))
      have HA4 := Lib.hid (HBA'.out.touch HR4.out (by have := HLA.out; omega))
      have HB4 := Lib.hid (HBB'.out.touch HR4.out (by have := HLA.out; omega))
      obtain ⟨ds, HDS⟩ : ∃ ds, Hid (D ps = ds) := ⟨_, Lib.hid rfl⟩
      obtain ⟨es, HES⟩ : ∃ es, Hid (D ((m, l) :: ps) = es) := ⟨_, Lib.hid rfl⟩
      have HMO : Hid (Ly3.orL [allL ds, allL es] &&& 15 = allL es) := Lib.hid (by rw [← HDS.out, ← HES.out]; exact all_more ps (m, l))
      have HDM : Hid (drv ds 16 ≤ drv es 16) := Lib.hid (by rw [← HDS.out, ← HES.out]; exact drv_more ps (m, l) 16 (by omega))
      rw [HDS.out] at HA4 HB4
      rw [HES.out] at HQ4
      obtain ⟨X, HXN⟩ : ∃ X, Hid (allL ds = X) := ⟨_, Lib.hid rfl⟩
      obtain ⟨Z, HZN⟩ : ∃ Z, Hid (allL es = Z) := ⟨_, Lib.hid rfl⟩
      have hX16 : X < 16 := by rw [← HXN.out]; exact and15_lt _
      have hZ16 : Z < 16 := by rw [← HZN.out]; exact and15_lt _
      rw [HXN.out, HZN.out] at HMO
      have HLX : Hid (∀ (q : List Nat) (r : Nat) (W : World), allL q = r → r < 16 → Calls Try.prog 19 #[.agg (fc 0 0 false 0 0 none 0 0), .int .u8 (allL q : Nat), .int .i64 tk] W fun e w' => e = .returned (.int .u8 (r : Int)) ∧ Below W.heap.size W w') := Lib.hid (fun q r W hq hr => by
        have h := Ly20.lines_any 0 0 false 0 0 none 0 0 r tk 0 false W (by omega) ht (by omega) (by omega) (.inr ⟨rfl, rfl, .inl ⟨by omega, by omega⟩⟩)
        rw [hq]
        exact h)
      clear HBA' HBB' HBC'
      go_wp2_with fail
      refine (settle_any 0 0 false 0 0 none 0 0 tk X hX16 HA4.out (fun W _ => HLX.out ds X W HXN.out hX16)).mono ?_
      rintro e w5 ⟨rfl, HA5, HR5⟩
      have HBE5 := Lib.hid (HBE4.out.trans (HR5.out.below (by have := HLA.out; have := HGW.out; omega) HBE4.out.size))
      have HB5 := Lib.hid (HB4.out.touch HR5.out (by have := HLA.out; omega))
      have HC5 := Lib.hid (HQ4.out.touch HR5.out (by have := HLA.out; omega))
      go_wp2_with fail
      refine (settle_any 0 0 false 0 0 none 0 0 tk X hX16 HB5.out (fun W _ => HLX.out ds X W HXN.out hX16)).mono ?_
      rintro e w6 ⟨rfl, HB6, HR6⟩
      have HBE6 := Lib.hid (HBE5.out.trans (HR6.out.below (by have := HLA.out; have := HGW.out; omega) HBE5.out.size))
      have HA6 := Lib.hid (HA5.out.touch HR6.out (by have := HLA.out; omega))
      have HC6 := Lib.hid (HC5.out.touch HR6.out (by have := HLA.out; omega))
      go_wp2_with fail
      refine (settle_any 0 0 false 0 0 none 0 0 tk Z hZ16 HC6.out (fun W _ => HLX.out es Z W HZN.out hZ16)).mono ?_
      rintro e w7 ⟨rfl, HC7, HR7⟩
      have HBE7 := Lib.hid (HBE6.out.trans (HR7.out.below (by have := HLA.out; have := HGW.out; omega) HBE6.out.size))
      have HA7 := Lib.hid (HA6.out.touch HR7.out (by have := HLA.out; omega))
      have HB7 := Lib.hid (HB6.out.touch HR7.out (by have := HLA.out; omega))
      have hb8 : Below w7.heap.size w7 (w7.alloc (.cells #[.int .u8 (X : Int), .int .u8 (Z : Int)] TLn)) := bel_new _ _
      have HBE8 := Lib.hid (HBE7.out.alloc HBE7.out.size (.cells #[.int .u8 (X : Int), .int .u8 (Z : Int)] TLn))
      have HA8 := Lib.hid (HA7.out.kept hb8)
      have HB8 := Lib.hid (HB7.out.kept hb8)
      have HC8 := Lib.hid (HC7.out.kept hb8)
      have HOR8 : Hid (Calls Try.prog 17 #[.slice (some ⟨w7.heap.size, 0, none⟩) 2 2] (w7.alloc (.cells #[.int .u8 (X : Int), .int .u8 (Z : Int)] TLn)) fun e w' => e = .returned (.int .u8 (Z : Int)) ∧ w7.alloc (.cells #[.int .u8 (X : Int), .int .u8 (Z : Int)] TLn) = w') := Lib.hid (by
        have h := Ly3.or_any (some ⟨w7.heap.size, 0, none⟩) 2 2 [X, Z] (w7.alloc (.cells #[.int .u8 (X : Int), .int .u8 (Z : Int)] TLn)) (lst_row w7 TLn [.int .u8 (X : Int), .int .u8 (Z : Int)]) (by intro x hx; simp at hx; omega) (by omega)
        rw [HMO.out] at h
        exact h)
      obtain ⟨dA, HDA⟩ : ∃ dA, Hid (drv ds 16 = dA) := ⟨_, Lib.hid rfl⟩
      obtain ⟨dC, HDC⟩ : ∃ dC, Hid (drv es 16 = dC) := ⟨_, Lib.hid rfl⟩
      have hdm : dA ≤ dC := by have := HDM.out; rw [HDA.out, HDC.out] at this; exact this
      have hdmi : ¬ (dC : Int) < (dA : Int) := by omega
      have HDA8 := Lib.hid (drivers_at HA8.out)
      have HDB8 := Lib.hid (drivers_at HB8.out)
      have HDC8 := Lib.hid (drivers_at HC8.out)
      rw [HDA.out] at HDA8 HDB8
      rw [HDC.out] at HDC8
      clear hb8
      go_wp2_with fail
      refine HOR8.out.mono ?_
      rintro e w' ⟨rfl, rfl⟩
      generalize w7.alloc (.cells #[.int .u8 (X : Int), .int .u8 (Z : Int)] TLn) = w8 at HBE8 HA8 HB8 HC8 HDA8 HDB8 HDC8
      go_wp2_with fail
      refine HDA8.out.mono ?_
      rintro e w' ⟨rfl, rfl⟩
      go_wp2_with fail
      refine HDB8.out.mono ?_
      rintro e w' ⟨rfl, rfl⟩
      go_wp2_with fail
      refine HDC8.out.mono ?_
      rintro e w' ⟨rfl, rfl⟩
      go_wp2_with fail
      refine HDA8.out.mono ?_
      rintro e w' ⟨rfl, rfl⟩
      go_wp2_with fail
      rw [show decide (dC < dA) = false from decide_eq_false (by omega)]
      go_loopw [14, 15] (fun i _ wr => ∃ q : Nat, q ≤ 2 ∧ i = .int .i64 q ∧ Below w.heap.size w wr) (fun i _ _ => 2 - (intOf i).toNat)
      case atStart => exact ⟨0, by omega, rfl, HBE8.out⟩
      case round =>
        obtain ⟨q, hq, rfl, hbq⟩ := hrel
        have HBQ := Lib.hid hbq
        clear hbq
        rcases (show q = 0 ∨ q = 1 ∨ q = 2 by omega) with rfl | rfl | rfl
        · have HN := Lib.hid (show NoBus (wr.alloc (.cells (busC 0 z16 z16 0 false) TB)) (.pointer (some ⟨wr.heap.size, 0, none⟩)) from .inr ⟨_, rfl, bus_no wr⟩)
          have HBN := Lib.hid (HBQ.out.alloc HBQ.out.size (.cells (busC 0 z16 z16 0 false) TB))
          go_wp2_with fail
          refine (put_nob (w := wr.alloc (.cells (busC 0 z16 z16 0 false) TB)) HN.out 15).mono ?_
          rintro e w' ⟨rfl, rfl⟩
          generalize wr.alloc (.cells (busC 0 z16 z16 0 false) TB) = u1 at HN HBN
          go_wp2_with fail
          refine (settle_nob HN.out 0 0 false 0 0 none 0 0 tk).mono ?_
          rintro e u2 ⟨rfl, HU2⟩
          have HN2 := Lib.hid (HN.out.kept HU2.out)
          have HBN2 := Lib.hid (HBN.out.trans (HU2.out.mono HBN.out.size))
          go_wp2_with fail
          refine (lines_nob HN2.out).mono ?_
          rintro e w' ⟨rfl, rfl⟩
          go_wp2_with fail
          refine (drove_nob HN2.out).mono ?_
          rintro e w' ⟨rfl, rfl⟩
          go_wp2_with fail
          refine (drivers_nob HN2.out).mono ?_
          rintro e w' ⟨rfl, rfl⟩
          go_wp2_with fail
          refine (talkers_nob HN2.out).mono ?_
          rintro e w' ⟨rfl, rfl⟩
          go_wp2
          go_roundw
          case rel => exact ⟨1, by omega, rfl, HBN2.out⟩
          case measure => simp [intOf]
        · have HN := Lib.hid (show NoBus (wr.alloc (.cells (busC 0 z16 z16 0 false) TB)) (.pointer none) from .inl rfl)
          have HBN := Lib.hid (HBQ.out.alloc HBQ.out.size (.cells (busC 0 z16 z16 0 false) TB))
          go_wp2_with fail
          refine (put_nob (w := wr.alloc (.cells (busC 0 z16 z16 0 false) TB)) HN.out 15).mono ?_
          rintro e w' ⟨rfl, rfl⟩
          generalize wr.alloc (.cells (busC 0 z16 z16 0 false) TB) = u1 at HN HBN
          go_wp2_with fail
          refine (settle_nob HN.out 0 0 false 0 0 none 0 0 tk).mono ?_
          rintro e u2 ⟨rfl, HU2⟩
          have HN2 := Lib.hid (HN.out.kept HU2.out)
          have HBN2 := Lib.hid (HBN.out.trans (HU2.out.mono HBN.out.size))
          go_wp2_with fail
          refine (lines_nob HN2.out).mono ?_
          rintro e w' ⟨rfl, rfl⟩
          go_wp2_with fail
          refine (drove_nob HN2.out).mono ?_
          rintro e w' ⟨rfl, rfl⟩
          go_wp2_with fail
          refine (drivers_nob HN2.out).mono ?_
          rintro e w' ⟨rfl, rfl⟩
          go_wp2_with fail
          refine (talkers_nob HN2.out).mono ?_
          rintro e w' ⟨rfl, rfl⟩
          go_wp2
          go_roundw
          case rel => exact ⟨2, by omega, rfl, HBN2.out⟩
          case measure => simp [intOf]
        · go_wp2_with fail
          refine (one_any _).mono ?_
          rintro e w9 ⟨rfl, hb9⟩
          go_wp2
          go_ret
          exact ⟨rfl, HBQ.out.trans (hb9.mono HBQ.out.size)⟩
theorem walk (A : Option Addr) (n c : Nat) (rows : List (List Value)) (cs : Array Value) (tk : Int) (w : World) (hg : Grid w A n (Sh.size shP) rows) (hr : ∀ r ∈ rows, Reads w shP r) (hnc : n ≤ c) (hcm : c ≤ maxLen) (hm : Reads w shP cs.toList) (t0 : -9223372036854775808 ≤ tk) (t1 : tk ≤ 9223372036854775807) :
    Calls Try.prog 4 #[.slice A n c, .agg cs, .int .i64 tk] w fun e w' => e = .returned (.bool true) ∧ Below w.heap.size w w' := by
  unfold maxLen at hcm
  obtain ⟨ps, hp, hb, _⟩ := puts_of hg hr
  obtain ⟨_, _, e, ⟨m, rfl, _⟩, _, _, rfl, ⟨l, rfl, hl⟩, rfl⟩ := hm
  obtain ⟨xs⟩ := cs
  simp at e
  subst e
  have hlb := bounds_u8 hl
  obtain ⟨l, rfl⟩ : ∃ z : Nat, l = (z : Int) := ⟨l.toNat, by omega⟩
  by_cases h : n ≤ 60
  · exact walk_in A n c ps m l tk w h t1 hp hb (by omega)
  · have hi : (60 : Int) < (n : Int) := by omega
    clear hp hb hg hr hl h
    go_enter Try.func4, Try.ntmps4
    go_wp2
    go_ret
    exact ⟨rfl, bel_new _ _⟩

set_option maxRecDepth 100000 in
theorem lifted (os : Os) (started : os.Started) (H : Type) (enc : TypeId × Value → H) :
    ReturnsInHanded {} Try.checked os 4 .any (Rows.busMoreSpec.pre6 enc Try.prog Try.f4 Rows.busMoreRow.domain false) (Rows.busMoreSpec.post enc Try.prog Try.f4 false true false false) := by
  refine returnsInHanded_of_change (C := Try.checked) own started (by kernel_rfl) Try.func4
    (ChangeSpec.witness6 (enc := enc) (C := Try.checked) false ⟨#[], #[.slice none 0 0, .agg #[.int .i64 0, .int .u8 0], .int .i64 0], []⟩ 8 (by kernel_rfl) (by kernel_rfl) (by kernel_rfl) (by kernel_rfl)) ?_
  intro W base args ds gs before hval0 hW hcnd _
  have hval : ∀ (j : Nat) t v, Try.f4.params[j]? = some t → args[j]? = some v → Value.okWide Try.prog W .any base t v := hval0
  have hW' := hW
  obtain ⟨p, q, hA0, hV, rfl, hfz, hnd⟩ := hW
  have hA : DataW.TrodAll enc Try.prog W 0 (fun _ => true) true Try.f4.params.toList args.toList ds p := hA0
  rw [Try.params4] at hA hval
  obtain ⟨v0, vs0, d0, ds0, p0, q0, hargs, rfl, rfl, h0, r0⟩ := trodAll_cons hA
  obtain ⟨v1, vs1, d1, ds1, p1, q1, rfl, rfl, rfl, h1, r1⟩ := trodAll_cons r0
  obtain ⟨v2, vs2, d2, ds2, p2, q2, rfl, rfl, rfl, h2, r2⟩ := trodAll_cons r1
  obtain ⟨rfl, rfl, rfl⟩ := trodAll_nil r2
  obtain rfl : args = #[v0, v1, v2] := by cases args; simp_all
  obtain ⟨rfl, rfl⟩ := trodVars_none hV
  have k0 := h0
  have lt0 : ∀ x ∈ p0, x.block < W.heap.size := by obtain ⟨m, hm⟩ := k0; exact DataW.trod_lt m _ _ _ hm
  obtain ⟨lA, ln, lc, rfl⟩ := okWide_slice Try.underlying29 (hval 0 29 v0 rfl rfl)
  obtain ⟨l, g0, rd0, cb0, cc0⟩ := reads_slice (e := shP) 30 (by kernel_rfl) k0
  have k1 := h1
  have lt1 : ∀ x ∈ p1, x.block < W.heap.size := by obtain ⟨m, hm⟩ := k1; exact DataW.trod_lt m _ _ _ hm
  obtain ⟨more, rfl⟩ := okWide_agg (by first | exact .inl ⟨_, Try.underlying32⟩ | exact .inr ⟨_, _, Try.underlying32⟩) (hval 1 32 v1 rfl rfl)
  have rd1 := reads_cells (sh := shP) 30 (by kernel_rfl) k1
  obtain ⟨tick, rfl, rfl, rfl, wf2⟩ := open_int Try.underlying3 (hval 2 3 v2 rfl rfl) h2
  have bd2 := bounds_i64 wf2
  clear hA0 hval0
  refine (walk lA ln lc l more tick W g0 rd0 cb0 cc0 rd1 bd2.1 bd2.2).mono fun e W' ⟨he, bel⟩ => ?_
  subst he
  exact ⟨_, rfl, _, _, _, [], _, [], hW', trodAll_mk1 (shut_bool Try.underlying4 _), (trodAll_cons_mk (Below.trod laidOut (by kernel_rfl) (of_decide_eq_true (by kernel_rfl)) k0 bel lt0) (trodAll_cons_mk (Below.trod laidOut (by kernel_rfl) (of_decide_eq_true (by kernel_rfl)) k1 bel lt1) (trodAll_cons_mk (shut_int Try.underlying3 wf2) trodAll_mk0))), rfl, bel.frame _, fun h => by cases h⟩

theorem over : Rows.busMoreRow.holds Try.pinned (OpenSpec.ofChange Rows.busMoreSpec) :=
  OpenClaim.holds_of_wide 4 Try.f4 rfl rfl rfl rfl rfl rfl rfl ⟨rfl, rfl, rfl, rfl, rfl⟩ rfl rfl rfl rfl rfl (by kernel_rfl) Try.func4 (by kernel_rfl)
    (of_decide_eq_true (by kernel_rfl)) (by unfold Func.isWrapper; first | (rw [if_pos (by decide +kernel)]; kernel_rfl) | (rw [if_neg (by decide +kernel)]; exact ⟨rfl, rfl⟩))
    (fun os started H enc _ => lifted os started H enc)

/-- The statement. -/
theorem proved : Rows.BusMoreSaid := over
end Go.Proofs.Ytfolciibgdilcaa.lawBusMore
