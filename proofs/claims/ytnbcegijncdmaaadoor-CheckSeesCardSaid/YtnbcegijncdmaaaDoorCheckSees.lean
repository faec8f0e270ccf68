/- Whatever a partner drives at whatever places, in whatever role, it was looked as often, and it was as often wrong, as the document says: for every slot that is made, every role with up to 20 words (the statement asks for no more), and up to 200 looks; no condition but that the table of the lines is as the program's text lays it, which the card ties. -/
import Derived.RegionTactic
import Derived.IntWalk
import Derived.Deep.DeepCutAuto
import Derived.Deep.CutBlock
import Derived.Test.YtnbcegijncdmaaaDoorChkC
import Derived.Test.YtnbcegijncdmaaaDoorChkO
import Derived.Test.YtnbcegijncdmaaaDoorGatC
import Derived.Test.YtnbcegijncdmaaaDoorOne14
import Derived.Test.YtnbcegijncdmaaaDoorSh
import Derived.Test.YtnbcegijncdmaaaDoorShAr
import Derived.Test.YtnbcegijncdmaaaDoorPush
import Derived.Test.YtnbcegijncdmaaaDoorTie
import Derived.Test.YtnbcegijncdmaaaDoorCards
import Derived.Test.YtnbcegijncdmaaaDoorLaid
import Derived.LaidMore
import Derived.SevenTiedAt
import Derived.Stop.Joined
import Derived.Test.YtnbcegijncdmaaaDoorRows
import Derived.WalkKit
import Derived.ProofKit
import Derived.OpenShut
import Derived.ShutString
import Derived.ChangeOld
import Derived.Below
namespace Go.Proofs.YtnbcegijncdmaaaDoor.lawCheckSees
open Go.ChangeShapes Go.WideShapes Go.ChangeAt Go.RowKit Base
open Go.ChangeMaps (open_string shut_string)
set_option linter.unusedVariables false
set_option linter.unusedSimpArgs false
theorem own : ownKnob Tryd.prog.godebug = none := by kernel_rfl
theorem laidOut : laidOutB Tryd.prog = true := by kernel_rfl
open Ly19 Ly18 Ly14 Ly7 Ly3 Ly2

abbrev shK : Sh := .fld (.int .i64) (.fld (.int .u8) .nil)
abbrev See := Int × Nat
def SAt (w : World) (A : Option Addr) (n : Nat) (ls : List See) : Prop :=
  ls.length = n ∧ (0 < n → ∃ b off, A = some ⟨b, off, none⟩ ∧ b < w.heap.size ∧ ∀ i p, ls[i]? = some p → w.cell? ⟨b, off + i * 2, none⟩ = some (.int .i64 p.1) ∧ w.cell? ⟨b, off + i * 2 + 1, none⟩ = some (.int .u8 (p.2 : Int)))
theorem sat_of {w : World} {A : Option Addr} {n : Nat} {rows : List (List Value)} (hg : Grid w A n (Sh.size shK) rows) (hr : ∀ r ∈ rows, Reads w shK r) : ∃ ls : List See, SAt w A n ls ∧ ∀ p ∈ ls, (-9223372036854775808 ≤ p.1 ∧ p.1 ≤ 9223372036854775807) ∧ p.2 < 256 := by
  have hx : ∃ ls : List See, rows = ls.map (fun p => [Value.int .i64 p.1, Value.int .u8 (p.2 : Int)]) ∧ ∀ p ∈ ls, (-9223372036854775808 ≤ p.1 ∧ p.1 ≤ 9223372036854775807) ∧ p.2 < 256 := by
    clear hg
    induction rows with
    | nil => exact ⟨[], rfl, (fun x hx => by cases hx)⟩
    | cons r rs ih =>
      obtain ⟨xs, rfl, hx⟩ := ih (fun r hr' => hr r (by simp [hr']))
      obtain ⟨_, _, rfl, ⟨m, rfl, hm⟩, _, _, rfl, ⟨l, rfl, hl⟩, rfl⟩ := hr r (by simp)
      have hb := bounds_u8 hl
      have hm' := bounds_i64 hm
      refine ⟨(m, l.toNat) :: xs, ?_, fun q hq => ?_⟩
      · simp only [List.map_cons]
        rw [Int.toNat_of_nonneg hb.1]
        rfl
      · rcases List.mem_cons.1 hq with rfl | hq
        · exact ⟨hm', by show l.toNat < 256; omega⟩
        · exact hx q hq
  obtain ⟨ls, rfl, hx⟩ := hx
  refine ⟨ls, ⟨by simpa using hg.1, fun hn => ?_⟩, hx⟩
  obtain ⟨b, off, e, hb, hc⟩ := hg.2 hn
  refine ⟨b, off, e, hb, fun i p hp => ?_⟩
  have hi : i < n := by have := (List.getElem?_eq_some_iff.1 hp).1; have := hg.1; simp at this; omega
  have h0 := hc i 0 hi (by show 0 < 2; omega)
  have h1 := hc i 1 hi (by show 1 < 2; omega)
  rw [List.getElem?_map, hp] at h0 h1
  exact ⟨h0, h1⟩
set_option maxRecDepth 100000 in
set_option maxHeartbeats 8000000 in
theorem go (s0 s1 c0 : Int) (sd pu : Bool) (A : Option Addr) (N cc : Nat) (vs : List Nat) (B : Option Addr) (n cb : Nat) (ls : List See) (w : World) (hN : N ≤ 20) (hl : Lst w A N (vs.map fun (x : Nat) => Value.int .u8 x)) (hx : ∀ x ∈ vs, x < 256)
    (k0 : -9223372036854775808 ≤ c0) (k1 : c0 ≤ 9223372036854775807) (hs : SAt w B n ls) (hb : ∀ p ∈ ls, (-9223372036854775808 ≤ p.1 ∧ p.1 ≤ 9223372036854775807) ∧ p.2 < 256) (hn : n ≤ 9223372036854775807) (hU : Up w) :
    Calls Tryd.prog 11 #[.agg #[.int .i64 s0, .int .i64 s1], .agg #[.bool sd, .int .i64 c0, .slice A N cc, .bool pu], .slice B n cb] w fun e w' => e = .returned (.bool true) ∧ Below w.heap.size w w' := by
  obtain ⟨y, y0, y1', hy'⟩ := and_mask s0 7 (by omega)
  have hy : Go.bits BinOp.and IntKind.i64 s0 7 = y := hy'
  have y1 : y ≤ 7 := y1'
  obtain ⟨z, z0, z1', hz'⟩ := and_mask s1 3 (by omega)
  have hz : Go.bits BinOp.and IntKind.i64 s1 3 = z := hz'
  have z1 : z ≤ 3 := z1'
  clear y1' hy' z1' hz'
  have HMD := Lib.hid (fun W => made_any s0 s1 y z W hy hz y0 y1 z0 z1)
  clear hy hz
  obtain ⟨cd, hcd, cd0, cd1⟩ : ∃ cd, ((c0 < -5 ∧ cd = -5) ∨ (c0 = -5 ∧ cd = -5) ∨ (-5 < c0 ∧ c0 < 500 ∧ cd = c0) ∨ (c0 = 500 ∧ cd = 500) ∨ (500 < c0 ∧ cd = 500)) ∧ -5 ≤ cd ∧ cd ≤ 500 := by
    rcases (show c0 < -5 ∨ c0 = -5 ∨ (-5 < c0 ∧ c0 < 500) ∨ c0 = 500 ∨ 500 < c0 by omega) with h | h | ⟨h, h'⟩ | h | h
    · exact ⟨-5, .inl ⟨h, rfl⟩, by omega, by omega⟩
    · exact ⟨-5, .inr (.inl ⟨h, rfl⟩), by omega, by omega⟩
    · exact ⟨c0, .inr (.inr (.inl ⟨h, h', rfl⟩)), by omega, by omega⟩
    · exact ⟨500, .inr (.inr (.inr (.inl ⟨h, rfl⟩))), by omega, by omega⟩
    · exact ⟨500, .inr (.inr (.inr (.inr ⟨h, rfl⟩))), by omega, by omega⟩
  have HCD := Lib.hid hcd
  have HL := Lib.hid hl
  have HX := Lib.hid hx
  have HU := Lib.hid hU
  have HS := Lib.hid hs
  have HBD := Lib.hid hb
  clear hcd hl hx hU hs hb
  obtain ⟨WB, HWB⟩ : ∃ W, W = (w.alloc (.cells #[.int .i64 s0, .int .i64 s1] 22)).alloc (.cells #[.bool sd, .int .i64 c0, .slice A N cc, .bool pu] 72) := ⟨_, rfl⟩
  have HOR : Hid (Obj1 WB (w.heap.size + 1) 72 #[.bool sd, .int .i64 c0, .slice A N cc, .bool pu]) := Lib.hid (by
    have := Obj1.new (w.alloc (.cells #[.int .i64 s0, .int .i64 s1] 22)) 72 #[.bool sd, .int .i64 c0, .slice A N cc, .bool pu]
    rw [alloc_size] at this
    rw [HWB]
    exact this)
  have HOA : Hid (Obj1 WB w.heap.size 22 #[.int .i64 s0, .int .i64 s1]) := Lib.hid (by rw [HWB]; exact (Obj1.new w 22 _).alloc _)
  have HBB : Hid (Below w.heap.size w WB) := Lib.hid (by rw [HWB]; exact bel2 w _ _)
  obtain ⟨g3, HG3⟩ : ∃ g, Hid (w.heap.size = g) := ⟨_, Lib.hid rfl⟩
  go_enter Tryd.func11, Tryd.ntmps11
  go_upto_region 1 with (fail)
  have q0 : WB.cell? ⟨w.heap.size, 0, none⟩ = some (.int .i64 s0) := HOA.out.cell 0
  have q1 : WB.cell? ⟨w.heap.size, 1, none⟩ = some (.int .i64 s1) := HOA.out.cell 1
  have q2 : WB.cell? ⟨w.heap.size + 1, 2, none⟩ = some (.slice A N cc) := HOR.out.cell 2
  rw [← HWB]
  clear HWB
  go_wp2_with fail
  rw [show decide ((20 : Int) < (N : Int)) = false from decide_eq_false (by omega)]
  refine (HMD.out _).mono ?_
  rintro e w1 ⟨rfl, hb1⟩
  clear q0 q1 q2
  have HB1 := Lib.hid (HBB.out.trans (hb1.mono HBB.out.size))
  have HOR1 := Lib.hid (HOR.out.kept hb1)
  have HOA1 := Lib.hid (HOA.out.kept hb1)
  clear hb1 HOR HOA HBB HMD
  go_upto_region 4 with (fail)
  obtain ⟨g7, HG7⟩ : ∃ g, Hid (w1.heap.size = g) := ⟨_, Lib.hid rfl⟩
  have HO7 : Hid (Obj1 (w1.alloc (.cells #[.int .i64 0, .int .i64 0, .int .i64 (20 * (10 + 8 * (1 + y) + 4 * z)), .int .i64 (1 + y), .int .i64 0, .int .i64 (1 + z), .int .i64 (-1), .bool false] 25)) g7 25 #[.int .i64 0, .int .i64 0, .int .i64 (20 * (10 + 8 * (1 + y) + 4 * z)), .int .i64 (1 + y), .int .i64 0, .int .i64 (1 + z), .int .i64 (-1), .bool false]) := Lib.hid (by rw [← HG7.out]; exact Obj1.new _ _ _)
  have HOR2 := Lib.hid (HOR1.out.alloc (.cells #[.int .i64 0, .int .i64 0, .int .i64 (20 * (10 + 8 * (1 + y) + 4 * z)), .int .i64 (1 + y), .int .i64 0, .int .i64 (1 + z), .int .i64 (-1), .bool false] 25))
  have HOA2 := Lib.hid (HOA1.out.alloc (.cells #[.int .i64 0, .int .i64 0, .int .i64 (20 * (10 + 8 * (1 + y) + 4 * z)), .int .i64 (1 + y), .int .i64 0, .int .i64 (1 + z), .int .i64 (-1), .bool false] 25))
  have HB2 := Lib.hid (HB1.out.alloc HB1.out.size (.cells #[.int .i64 0, .int .i64 0, .int .i64 (20 * (10 + 8 * (1 + y) + 4 * z)), .int .i64 (1 + y), .int .i64 0, .int .i64 (1 + z), .int .i64 (-1), .bool false] 25))
  have H37 : Hid (w.heap.size + 1 < g7) := Lib.hid (by rw [← HG7.out]; exact HOR1.out.lt)
  rw [HG7.out]
  generalize w1.alloc (.cells #[.int .i64 0, .int .i64 0, .int .i64 (20 * (10 + 8 * (1 + y) + 4 * z)), .int .i64 (1 + y), .int .i64 0, .int .i64 (1 + z), .int .i64 (-1), .bool false] 25) = W2 at HO7 HOR2 HOA2 HB2 ⊢
  clear HB1 HOR1 HOA1
  rw [HG3.out] at HOR2 HOA2 H37 ⊢
  have e1 := HOR2.out.cell 1
  have e2 := HOR2.out.free 1
  simp at e1
  go_cut [29] from 26 to 30 (fun v wx => v = .int .i64 cd ∧ wx = W2.setCell ⟨g3 + 1, 1, none⟩ (.int .i64 cd))
  case first =>
    rcases HCD.out with ⟨h, rfl⟩ | ⟨rfl, rfl⟩ | ⟨h, h', rfl⟩ | ⟨rfl, rfl⟩ | ⟨h, rfl⟩
    all_goals
      clear HCD
      go_wp2
      go_meet
      exact ⟨rfl, rfl⟩
  case rest =>
    obtain ⟨rfl, rfl⟩ := hcut
    have HOR3 : Hid (Obj1 (W2.setCell ⟨g3 + 1, 1, none⟩ (.int .i64 cd)) (g3 + 1) 72 #[.bool sd, .int .i64 cd, .slice A N cc, .bool pu]) := Lib.hid (HOR2.out.set 1 _)
    have HO73 : Hid (Obj1 (W2.setCell ⟨g3 + 1, 1, none⟩ (.int .i64 cd)) g7 25 #[.int .i64 0, .int .i64 0, .int .i64 (20 * (10 + 8 * (1 + y) + 4 * z)), .int .i64 (1 + y), .int .i64 0, .int .i64 (1 + z), .int .i64 (-1), .bool false]) := Lib.hid (HO7.out.far ⟨g3 + 1, 1, none⟩ (by have := H37.out; simp; omega) _)
    have HOA3 : Hid (Obj1 (W2.setCell ⟨g3 + 1, 1, none⟩ (.int .i64 cd)) g3 22 #[.int .i64 s0, .int .i64 s1]) := Lib.hid (HOA2.out.far ⟨g3 + 1, 1, none⟩ (by simp) _)
    have HB3 : Hid (Below w.heap.size w (W2.setCell ⟨g3 + 1, 1, none⟩ (.int .i64 cd))) := Lib.hid (HB2.out.setCell (by rw [HG3.out]; simp) _)
    generalize W2.setCell ⟨g3 + 1, 1, none⟩ (.int .i64 cd) = W3 at HOR3 HO73 HOA3 HB3 ⊢
    clear HOR2 HO7 HOA2 HB2 e1 e2 HCD HG7
    go_wp2_with fail
    refine (cnew_any _).mono ?_
    rintro e w4 ⟨rfl, HCK, HB4⟩
    obtain ⟨g8, HG8⟩ : ∃ g, Hid (W3.heap.size = g) := ⟨_, Lib.hid rfl⟩
    have H78 : Hid (g7 < g8 ∧ g3 + 1 < g8) := Lib.hid (by rw [← HG8.out]; exact ⟨HO73.out.lt, HOR3.out.lt⟩)
    have HG38 : Hid (w.heap.size ≤ g8) := Lib.hid (by rw [← HG8.out]; exact HB3.out.size)
    rw [HG8.out] at HCK ⊢
    have HOR4 := Lib.hid (HOR3.out.kept HB4.out)
    have HO74 := Lib.hid (HO73.out.kept HB4.out)
    have HBW4 := Lib.hid (HB3.out.trans (HB4.out.mono HB3.out.size))
    have q0 := (HOA3.out.kept HB4.out).cell 0
    simp at q0
    have q2 := HOR4.out.cell 2
    simp at q2
    clear HOR3 HO73 HOA3 HB3 HB4 HG8
    go_upto_region 9 with (fail)
    obtain ⟨yy, hyy⟩ : ∃ yy, (Go.bits BinOp.and IntKind.i64 (s0 / 8) 1 == 1) = yy := ⟨_, rfl⟩
    rw [hyy]
    clear hyy q0
    go_wp2_with fail
    refine (refbits_any A N cc vs w4 (HL.out.kept HBW4.out) HX.out (by omega)).mono ?_
    rintro e W5 ⟨v, rfl, hown, hb5⟩
    clear q2
    obtain ⟨D, dc, rfl, hdc, hdm, hlD⟩ := Lst.of_own hown
    have HDB : Hid (∀ b off, D = some ⟨b, off, none⟩ → b ≠ g8) := Lib.hid (fun b off e h => by
      have := (hown.lt b (by rw [e]; rfl)).1
      have := HCK.out.lt
      omega)
    have HLD := Lib.hid hlD
    have HBW5 := Lib.hid (HBW4.out.trans (hb5.mono HBW4.out.size))
    have HCK5 := Lib.hid (HCK.out.kept hb5)
    have HOR5 := Lib.hid (HOR4.out.kept hb5)
    have HO75 := Lib.hid (HO74.out.kept hb5)
    have HBOF : Hid (∀ W, Wrote g8 W5 W → Below w.heap.size w W) := Lib.hid (fun W h => HBW5.out.trans (h.below HG38.out HBW5.out.size))
    clear hown hlD hb5 HCK HOR4 HO74 HBW4
    obtain ⟨l, hLd⟩ : ∃ l, 20 * (10 + 8 * (1 + y) + 4 * z) = l := ⟨_, rfl⟩
    rw [hLd] at HO75 ⊢
    clear hLd
    go_wp2_with fail
    go_loopw [11, 12, 13] (fun lk wr i wx => ∃ j a b : Nat, j ≤ n ∧ j ≤ 200 ∧ b ≤ a ∧ a ≤ j ∧ lk = .int .i64 a ∧ wr = .int .i64 b ∧ i = .int .i64 j ∧ Ck wx g8 a b ∧ Wrote g8 W5 wx) (fun _ _ i _ => 201 - (intOf i).toNat)
    case atStart => exact ⟨0, 0, 0, by omega, by omega, by omega, by omega, rfl, rfl, rfl, HCK5.out, Wrote.refl _ _⟩
    case round =>
      obtain ⟨j, a, k, hjn, hj2, hka, haj, rfl, rfl, rfl, hck, hw⟩ := hrel
      have HC := Lib.hid hck
      have HW := Lib.hid hw
      clear hck hw HCK5
      by_cases hlt : j < n
      · have hlti : (j : Int) < (n : Int) := by omega
        by_cases hlt2 : j < 200
        · have hlti2 : (j : Int) < 200 := by omega
          obtain ⟨b, off, rfl, hblt, hc⟩ := HS.out.2 (by omega)
          have hjl : j < ls.length := by rw [HS.out.1]; exact hlt
          have hcj := hc j _ (List.getElem?_eq_getElem hjl)
          have hbd := HBD.out _ (List.getElem_mem hjl)
          obtain ⟨⟨P, L⟩, HP⟩ : ∃ p, Hid (ls[j]'hjl = p) := ⟨_, Lib.hid rfl⟩
          rw [HP.out] at hcj hbd
          simp only at hcj hbd
          obtain ⟨⟨hp0, hp1⟩, hL⟩ := hbd
          have HCJ : Hid (∀ W, Below w.heap.size w W → W.cell? ⟨b, off + j * 2, none⟩ = some (.int .i64 P) ∧ W.cell? ⟨b, off + j * 2 + 1, none⟩ = some (.int .u8 (L : Int))) := Lib.hid (fun W hW =>
            ⟨(hW.cell (p := ⟨b, off + j * 2, none⟩) hblt).trans hcj.1, (hW.cell (p := ⟨b, off + j * 2 + 1, none⟩) hblt).trans hcj.2⟩)
          clear hc hcj HP
          have HSX := Lib.hid (HBOF.out wr HW.out)
          have d0 : Below wr.heap.size wr wr.drew := bel_drew wr
          obtain ⟨m, yk, bb, hlk⟩ := lkR_ex (atN 0 (1 + y) (1 + z) cd P) (atT 0 (1 + y) (1 + z) cd P)
          have HLK := Lib.hid hlk
          have hlook := lkR_looked hlk
          have HRA := Lib.hid (fun W => rat_any (1 + y) (1 + z) cd P W (by omega) (by omega) (by omega) (by omega) (by omega) (by omega) hp0 hp1)
          have E0 : ∀ x : Kin wr.drew, x.world.cell? ⟨b, off + j * 2, none⟩ = some (.int .i64 P) := fun x => (HCJ.out x.world (HSX.out.trans ((d0.trans x.below).mono HSX.out.size))).1
          have E1 : ∀ x : Kin wr.drew, x.world.cell? ⟨b, off + j * 2 + 1, none⟩ = some (.int .u8 (L : Int)) := fun x => (HCJ.out x.world (HSX.out.trans ((d0.trans x.below).mono HSX.out.size))).2
          obtain ⟨S0, S1, S2, S3, S4, S5, S6, S7⟩ := o8 0 0 l (1 + y) 0 (1 + z) (-1) false ((HO75.out.touch HW.out (by have := H78.out; omega)).kept d0)
          have HCX := Lib.hid (fun x : Kin wr.drew => (show Ck x.world g8 a k from HC.out.kept (d0.trans x.below)))
          have HLX := Lib.hid (fun x : Kin wr.drew => HL.out.kept (HSX.out.trans ((d0.trans x.below).mono HSX.out.size)))
          have HUX := Lib.hid (fun x : Kin wr.drew => HU.out.kept (HSX.out.trans ((d0.trans x.below).mono HSX.out.size)))
          clear hlk
          cases sd
          · obtain ⟨R0, R1, R2, R3⟩ := o4 false pu A N cc cd ((HOR5.out.touch HW.out (by have := H78.out; omega)).kept d0)
            go_wp2_with fail
            refine wp_region_specL 14 [.d (.pointer (some ⟨g8, 0, none⟩)), .d (.agg #[.int .i64 0, .int .i64 0, .int .i64 l, .int .i64 (1 + y), .int .i64 0, .int .i64 (1 + z), .int .i64 (-1), .bool false]), .d (.agg #[.bool false, .int .i64 cd, .slice A N cc, .bool pu]), .d (.bool yy), .d (.slice (some ⟨b, off, none⟩) n cb), .d (.int .i64 j), .d (.pointer (some ⟨b, off + j * 2, none⟩)), .d (.pointer (some ⟨b, off + j * 2, none⟩)), .d (.int .i64 P), .d (.slice (some ⟨b, off, none⟩) n cb), .d (.int .i64 j), .d (.pointer (some ⟨b, off + j * 2, none⟩)), .d (.pointer (some ⟨b, off + j * 2 + 1, none⟩)), .d (.int .u8 L)] (by kernel_rfl) (by kernel_rfl) ?_
            refine spec_d rfl (fun x _ => gives_run (by go_simp)) ?_
            try simp only [Act.put, List.getElem_toArray, List.getElem_cons_succ, List.getElem_cons_zero, List.setIfInBounds_toArray, List.set_cons_zero, List.set_cons_succ]
            refine spec_d rfl (fun x _ => gives_run (by go_simp)) ?_
            try simp only [Act.put, List.getElem_toArray, List.getElem_cons_succ, List.getElem_cons_zero, List.setIfInBounds_toArray, List.set_cons_zero, List.set_cons_succ]
            refine spec_d rfl (fun x _ => gives_run (by go_simp)) ?_
            try simp only [Act.put, List.getElem_toArray, List.getElem_cons_succ, List.getElem_cons_zero, List.setIfInBounds_toArray, List.set_cons_zero, List.set_cons_succ]
            refine spec_d rfl (fun x _ => gives_run (by go_simp)) ?_
            try simp only [Act.put, List.getElem_toArray, List.getElem_cons_succ, List.getElem_cons_zero, List.setIfInBounds_toArray, List.set_cons_zero, List.set_cons_succ]
            refine spec_d rfl (fun x _ => gives_run (by go_simp)) ?_
            try simp only [Act.put, List.getElem_toArray, List.getElem_cons_succ, List.getElem_cons_zero, List.setIfInBounds_toArray, List.set_cons_zero, List.set_cons_succ]
            refine spec_d rfl (fun x _ => gives_run (by go_simp)) ?_
            try simp only [Act.put, List.getElem_toArray, List.getElem_cons_succ, List.getElem_cons_zero, List.setIfInBounds_toArray, List.set_cons_zero, List.set_cons_succ]
            refine spec_d rfl (fun x _ => gives_run (by go_simp)) ?_
            try simp only [Act.put, List.getElem_toArray, List.getElem_cons_succ, List.getElem_cons_zero, List.setIfInBounds_toArray, List.set_cons_zero, List.set_cons_succ]
            refine spec_d rfl (fun x _ => gives_run (by go_simp)) ?_
            try simp only [Act.put, List.getElem_toArray, List.getElem_cons_succ, List.getElem_cons_zero, List.setIfInBounds_toArray, List.set_cons_zero, List.set_cons_succ]
            refine spec_d rfl (fun x _ => gives_run (by go_simp)) ?_
            try simp only [Act.put, List.getElem_toArray, List.getElem_cons_succ, List.getElem_cons_zero, List.setIfInBounds_toArray, List.set_cons_zero, List.set_cons_succ]
            refine spec_d rfl (fun x _ => gives_run (by go_simp)) ?_
            try simp only [Act.put, List.getElem_toArray, List.getElem_cons_succ, List.getElem_cons_zero, List.setIfInBounds_toArray, List.set_cons_zero, List.set_cons_succ]
            refine spec_d rfl (fun x _ => gives_run (by go_simp)) ?_
            try simp only [Act.put, List.getElem_toArray, List.getElem_cons_succ, List.getElem_cons_zero, List.setIfInBounds_toArray, List.set_cons_zero, List.set_cons_succ]
            refine spec_d rfl (fun x _ => gives_run (by go_simp)) ?_
            try simp only [Act.put, List.getElem_toArray, List.getElem_cons_succ, List.getElem_cons_zero, List.setIfInBounds_toArray, List.set_cons_zero, List.set_cons_succ]
            refine spec_d rfl (fun x _ => gives_run (by go_simp)) ?_
            try simp only [Act.put, List.getElem_toArray, List.getElem_cons_succ, List.getElem_cons_zero, List.setIfInBounds_toArray, List.set_cons_zero, List.set_cons_succ]
            refine spec_d rfl (fun x _ => gives_run (by go_simp)) ?_
            try simp only [Act.put, List.getElem_toArray, List.getElem_cons_succ, List.getElem_cons_zero, List.setIfInBounds_toArray, List.set_cons_zero, List.set_cons_succ]
            refine spec_end (fun x hx => ?_)
            clear hx
            change wpAny _ _ _ _ (0 + 1) _ _ _
            refine wpAny_ready (rs := [14]) (by kernel_rfl) (by simp) ?_
            refine AllReady.cons rfl (fun KK hK => ?_) AllReady.nil
            go_simp
            refine (csee_off 0 0 l (1 + y) 0 (1 + z) (-1) false false pu A N cc cd P yy L (HCX.out x) rfl).mono ?_
            rintro e wa ⟨rfl, HQ, HR⟩
            refine hK _ _ ?_
            clear hK KK
            try simp only [Act.put, List.getElem_toArray, List.getElem_cons_succ, List.getElem_cons_zero, List.setIfInBounds_toArray, List.set_cons_zero, List.set_cons_succ]
            refine wpAny_done (by kernel_rfl) ?_ _
            go_upto_region 15 with (fail)
            have hbx : Below wr.heap.size wr x.world := d0.trans x.below
            have HW5 : Hid (Wrote g8 W5 wa) := Lib.hid ((HW.out.then hbx).trans HR.out)
            have HSA := Lib.hid (HBOF.out wa HW5.out)
            clear S0 S1 S2 S3 S4 S5 S6 S7 R0 R1 R2 R3 E0 E1 hbx d0 HR
            clear x
            have d1 : Below wa.heap.size wa wa := Below.refl _ _
            obtain ⟨S0, S1, S2, S3, S4, S5, S6, S7⟩ := o8 0 0 l (1 + y) 0 (1 + z) (-1) false ((HO75.out.touch HW5.out (by have := H78.out; omega)).kept d1)
            obtain ⟨R0, R1, R2, R3⟩ := o4 false pu A N cc cd ((HOR5.out.touch HW5.out (by have := H78.out; omega)).kept d1)
            have E0 : ∀ x : Kin wa, x.world.cell? ⟨b, off + j * 2, none⟩ = some (.int .i64 P) := fun x => (HCJ.out x.world (HSA.out.trans ((d1.trans x.below).mono HSA.out.size))).1
            have E1 : ∀ x : Kin wa, x.world.cell? ⟨b, off + j * 2 + 1, none⟩ = some (.int .u8 (L : Int)) := fun x => (HCJ.out x.world (HSA.out.trans ((d1.trans x.below).mono HSA.out.size))).2
            go_wp2_with fail
            refine wp_region_kin (by kernel_rfl) (by kernel_rfl) ?_
            repeat (go_big_quiet_step (first | (go_at_call 44; exact Calls.kin_same _ (HRA.out _))))
            refine wpQuiet_nil ?_
            intro _ hw'
            obtain ⟨kx, hw''⟩ := hw'
            subst hw''
            have HCK6 := Lib.hid (show Ck kx.world g8 a k from HQ.out.kept (d1.trans kx.below))
            have HW6 := Lib.hid (HW5.out.then (d1.trans kx.below))
            have HL6 := Lib.hid (clooks_any HCK6.out)
            have HR6 := Lib.hid (cwrong_any HCK6.out)
            have HB6 := Lib.hid (cbad_any _ rfl HCK6.out)
            go_wp2_with fail
            refine HL6.out.mono ?_
            rintro e w' ⟨rfl, rfl⟩
            go_wp2_with fail
            refine HR6.out.mono ?_
            rintro e w' ⟨rfl, rfl⟩
            go_wp2_with fail
            refine HB6.out.mono ?_
            rintro e w' ⟨rfl, rfl⟩
            go_wp2
            go_roundw
            case rel => exact ⟨j + 1, a, k, by omega, by omega, by omega, by omega, by first | rfl | go_num, by first | rfl | go_num, by go_num, HCK6.out, HW6.out⟩
            case measure => simp [intOf]; omega
          · obtain ⟨R0, R1, R2, R3⟩ := o4 true pu A N cc cd ((HOR5.out.touch HW.out (by have := H78.out; omega)).kept d0)
            cases bb
            · have HLO := Lib.hid (fun W => looked_any _ _ false W hlook)
              go_wp2_with fail
              refine wp_region_specL 14 [.d (.pointer (some ⟨g8, 0, none⟩)), .d (.agg #[.int .i64 0, .int .i64 0, .int .i64 l, .int .i64 (1 + y), .int .i64 0, .int .i64 (1 + z), .int .i64 (-1), .bool false]), .d (.agg #[.bool true, .int .i64 cd, .slice A N cc, .bool pu]), .d (.bool yy), .d (.slice (some ⟨b, off, none⟩) n cb), .d (.int .i64 j), .d (.pointer (some ⟨b, off + j * 2, none⟩)), .d (.pointer (some ⟨b, off + j * 2, none⟩)), .d (.int .i64 P), .d (.slice (some ⟨b, off, none⟩) n cb), .d (.int .i64 j), .d (.pointer (some ⟨b, off + j * 2, none⟩)), .d (.pointer (some ⟨b, off + j * 2 + 1, none⟩)), .d (.int .u8 L)] (by kernel_rfl) (by kernel_rfl) ?_
              refine spec_d rfl (fun x _ => gives_run (by go_simp)) ?_
              try simp only [Act.put, List.getElem_toArray, List.getElem_cons_succ, List.getElem_cons_zero, List.setIfInBounds_toArray, List.set_cons_zero, List.set_cons_succ]
              refine spec_d rfl (fun x _ => gives_run (by go_simp)) ?_
              try simp only [Act.put, List.getElem_toArray, List.getElem_cons_succ, List.getElem_cons_zero, List.setIfInBounds_toArray, List.set_cons_zero, List.set_cons_succ]
              refine spec_d rfl (fun x _ => gives_run (by go_simp)) ?_
              try simp only [Act.put, List.getElem_toArray, List.getElem_cons_succ, List.getElem_cons_zero, List.setIfInBounds_toArray, List.set_cons_zero, List.set_cons_succ]
              refine spec_d rfl (fun x _ => gives_run (by go_simp)) ?_
              try simp only [Act.put, List.getElem_toArray, List.getElem_cons_succ, List.getElem_cons_zero, List.setIfInBounds_toArray, List.set_cons_zero, List.set_cons_succ]
              refine spec_d rfl (fun x _ => gives_run (by go_simp)) ?_
              try simp only [Act.put, List.getElem_toArray, List.getElem_cons_succ, List.getElem_cons_zero, List.setIfInBounds_toArray, List.set_cons_zero, List.set_cons_succ]
              refine spec_d rfl (fun x _ => gives_run (by go_simp)) ?_
              try simp only [Act.put, List.getElem_toArray, List.getElem_cons_succ, List.getElem_cons_zero, List.setIfInBounds_toArray, List.set_cons_zero, List.set_cons_succ]
              refine spec_d rfl (fun x _ => gives_run (by go_simp)) ?_
              try simp only [Act.put, List.getElem_toArray, List.getElem_cons_succ, List.getElem_cons_zero, List.setIfInBounds_toArray, List.set_cons_zero, List.set_cons_succ]
              refine spec_d rfl (fun x _ => gives_run (by go_simp)) ?_
              try simp only [Act.put, List.getElem_toArray, List.getElem_cons_succ, List.getElem_cons_zero, List.setIfInBounds_toArray, List.set_cons_zero, List.set_cons_succ]
              refine spec_d rfl (fun x _ => gives_run (by go_simp)) ?_
              try simp only [Act.put, List.getElem_toArray, List.getElem_cons_succ, List.getElem_cons_zero, List.setIfInBounds_toArray, List.set_cons_zero, List.set_cons_succ]
              refine spec_d rfl (fun x _ => gives_run (by go_simp)) ?_
              try simp only [Act.put, List.getElem_toArray, List.getElem_cons_succ, List.getElem_cons_zero, List.setIfInBounds_toArray, List.set_cons_zero, List.set_cons_succ]
              refine spec_d rfl (fun x _ => gives_run (by go_simp)) ?_
              try simp only [Act.put, List.getElem_toArray, List.getElem_cons_succ, List.getElem_cons_zero, List.setIfInBounds_toArray, List.set_cons_zero, List.set_cons_succ]
              refine spec_d rfl (fun x _ => gives_run (by go_simp)) ?_
              try simp only [Act.put, List.getElem_toArray, List.getElem_cons_succ, List.getElem_cons_zero, List.setIfInBounds_toArray, List.set_cons_zero, List.set_cons_succ]
              refine spec_d rfl (fun x _ => gives_run (by go_simp)) ?_
              try simp only [Act.put, List.getElem_toArray, List.getElem_cons_succ, List.getElem_cons_zero, List.setIfInBounds_toArray, List.set_cons_zero, List.set_cons_succ]
              refine spec_d rfl (fun x _ => gives_run (by go_simp)) ?_
              try simp only [Act.put, List.getElem_toArray, List.getElem_cons_succ, List.getElem_cons_zero, List.setIfInBounds_toArray, List.set_cons_zero, List.set_cons_succ]
              refine spec_end (fun x hx => ?_)
              clear hx
              change wpAny _ _ _ _ (0 + 1) _ _ _
              refine wpAny_ready (rs := [14]) (by kernel_rfl) (by simp) ?_
              refine AllReady.cons rfl (fun KK hK => ?_) AllReady.nil
              go_simp
              refine (csee_no 0 0 l (1 + y) 0 (1 + z) (-1) false true pu A N cc cd P m yy yk L (HCX.out x) rfl (by omega) (by omega) (by omega) (by omega) hp0 hp1 (by omega) HLK.out).mono ?_
              rintro e wa ⟨rfl, HQ, HR⟩
              refine hK _ _ ?_
              clear hK KK
              try simp only [Act.put, List.getElem_toArray, List.getElem_cons_succ, List.getElem_cons_zero, List.setIfInBounds_toArray, List.set_cons_zero, List.set_cons_succ]
              refine wpAny_done (by kernel_rfl) ?_ _
              go_upto_region 15 with (fail)
              have hbx : Below wr.heap.size wr x.world := d0.trans x.below
              have HW5 : Hid (Wrote g8 W5 wa) := Lib.hid ((HW.out.then hbx).trans HR.out)
              have HSA := Lib.hid (HBOF.out wa HW5.out)
              clear S0 S1 S2 S3 S4 S5 S6 S7 R0 R1 R2 R3 E0 E1 hbx d0 HR
              clear x
              have d1 : Below wa.heap.size wa wa := Below.refl _ _
              obtain ⟨S0, S1, S2, S3, S4, S5, S6, S7⟩ := o8 0 0 l (1 + y) 0 (1 + z) (-1) false ((HO75.out.touch HW5.out (by have := H78.out; omega)).kept d1)
              obtain ⟨R0, R1, R2, R3⟩ := o4 true pu A N cc cd ((HOR5.out.touch HW5.out (by have := H78.out; omega)).kept d1)
              have E0 : ∀ x : Kin wa, x.world.cell? ⟨b, off + j * 2, none⟩ = some (.int .i64 P) := fun x => (HCJ.out x.world (HSA.out.trans ((d1.trans x.below).mono HSA.out.size))).1
              have E1 : ∀ x : Kin wa, x.world.cell? ⟨b, off + j * 2 + 1, none⟩ = some (.int .u8 (L : Int)) := fun x => (HCJ.out x.world (HSA.out.trans ((d1.trans x.below).mono HSA.out.size))).2
              go_wp2_with fail
              refine wp_region_kin (by kernel_rfl) (by kernel_rfl) ?_
              repeat (go_big_quiet_step (first | (go_at_call 44; exact Calls.kin_same _ (HRA.out _))))
              refine wpQuiet_nil ?_
              intro _ hw'
              obtain ⟨kx, hw''⟩ := hw'
              subst hw''
              have HCK6 := Lib.hid (show Ck kx.world g8 a k from HQ.out.kept (d1.trans kx.below))
              have HW6 := Lib.hid (HW5.out.then (d1.trans kx.below))
              have HL6 := Lib.hid (clooks_any HCK6.out)
              have HR6 := Lib.hid (cwrong_any HCK6.out)
              have HB6 := Lib.hid (cbad_any _ rfl HCK6.out)
              go_wp2_with fail
              refine (HLO.out _).mono ?_
              rintro e w' ⟨rfl, rfl⟩
              go_wp2_with fail
              refine HL6.out.mono ?_
              rintro e w' ⟨rfl, rfl⟩
              go_wp2_with fail
              refine HR6.out.mono ?_
              rintro e w' ⟨rfl, rfl⟩
              go_wp2_with fail
              refine HB6.out.mono ?_
              rintro e w' ⟨rfl, rfl⟩
              go_wp2
              go_roundw
              case rel => exact ⟨j + 1, a, k, by omega, by omega, by omega, by omega, by first | rfl | go_num, by first | rfl | go_num, by go_num, HCK6.out, HW6.out⟩
              case measure => simp [intOf]; omega
            · have HLO := Lib.hid (fun W => looked_any _ _ true W hlook)
              obtain ⟨u, HUD⟩ : ∃ u, Hid (wdF yy (bitsOf vs) (atN 0 (1 + y) (1 + z) cd P) (atT 0 (1 + y) (1 + z) cd P) = u) := ⟨_, Lib.hid rfl⟩
              obtain ⟨r, HRD⟩ : ∃ r, Hid (okB yy L (wdF yy (bitsOf vs) (atN 0 (1 + y) (1 + z) cd P) (atT 0 (1 + y) (1 + z) cd P)) = r) := ⟨_, Lib.hid rfl⟩
              go_wp2_with fail
              refine wp_region_specL 14 [.d (.pointer (some ⟨g8, 0, none⟩)), .d (.agg #[.int .i64 0, .int .i64 0, .int .i64 l, .int .i64 (1 + y), .int .i64 0, .int .i64 (1 + z), .int .i64 (-1), .bool false]), .d (.agg #[.bool true, .int .i64 cd, .slice A N cc, .bool pu]), .d (.bool yy), .d (.slice (some ⟨b, off, none⟩) n cb), .d (.int .i64 j), .d (.pointer (some ⟨b, off + j * 2, none⟩)), .d (.pointer (some ⟨b, off + j * 2, none⟩)), .d (.int .i64 P), .d (.slice (some ⟨b, off, none⟩) n cb), .d (.int .i64 j), .d (.pointer (some ⟨b, off + j * 2, none⟩)), .d (.pointer (some ⟨b, off + j * 2 + 1, none⟩)), .d (.int .u8 L)] (by kernel_rfl) (by kernel_rfl) ?_
              refine spec_d rfl (fun x _ => gives_run (by go_simp)) ?_
              try simp only [Act.put, List.getElem_toArray, List.getElem_cons_succ, List.getElem_cons_zero, List.setIfInBounds_toArray, List.set_cons_zero, List.set_cons_succ]
              refine spec_d rfl (fun x _ => gives_run (by go_simp)) ?_
              try simp only [Act.put, List.getElem_toArray, List.getElem_cons_succ, List.getElem_cons_zero, List.setIfInBounds_toArray, List.set_cons_zero, List.set_cons_succ]
              refine spec_d rfl (fun x _ => gives_run (by go_simp)) ?_
              try simp only [Act.put, List.getElem_toArray, List.getElem_cons_succ, List.getElem_cons_zero, List.setIfInBounds_toArray, List.set_cons_zero, List.set_cons_succ]
              refine spec_d rfl (fun x _ => gives_run (by go_simp)) ?_
              try simp only [Act.put, List.getElem_toArray, List.getElem_cons_succ, List.getElem_cons_zero, List.setIfInBounds_toArray, List.set_cons_zero, List.set_cons_succ]
              refine spec_d rfl (fun x _ => gives_run (by go_simp)) ?_
              try simp only [Act.put, List.getElem_toArray, List.getElem_cons_succ, List.getElem_cons_zero, List.setIfInBounds_toArray, List.set_cons_zero, List.set_cons_succ]
              refine spec_d rfl (fun x _ => gives_run (by go_simp)) ?_
              try simp only [Act.put, List.getElem_toArray, List.getElem_cons_succ, List.getElem_cons_zero, List.setIfInBounds_toArray, List.set_cons_zero, List.set_cons_succ]
              refine spec_d rfl (fun x _ => gives_run (by go_simp)) ?_
              try simp only [Act.put, List.getElem_toArray, List.getElem_cons_succ, List.getElem_cons_zero, List.setIfInBounds_toArray, List.set_cons_zero, List.set_cons_succ]
              refine spec_d rfl (fun x _ => gives_run (by go_simp)) ?_
              try simp only [Act.put, List.getElem_toArray, List.getElem_cons_succ, List.getElem_cons_zero, List.setIfInBounds_toArray, List.set_cons_zero, List.set_cons_succ]
              refine spec_d rfl (fun x _ => gives_run (by go_simp)) ?_
              try simp only [Act.put, List.getElem_toArray, List.getElem_cons_succ, List.getElem_cons_zero, List.setIfInBounds_toArray, List.set_cons_zero, List.set_cons_succ]
              refine spec_d rfl (fun x _ => gives_run (by go_simp)) ?_
              try simp only [Act.put, List.getElem_toArray, List.getElem_cons_succ, List.getElem_cons_zero, List.setIfInBounds_toArray, List.set_cons_zero, List.set_cons_succ]
              refine spec_d rfl (fun x _ => gives_run (by go_simp)) ?_
              try simp only [Act.put, List.getElem_toArray, List.getElem_cons_succ, List.getElem_cons_zero, List.setIfInBounds_toArray, List.set_cons_zero, List.set_cons_succ]
              refine spec_d rfl (fun x _ => gives_run (by go_simp)) ?_
              try simp only [Act.put, List.getElem_toArray, List.getElem_cons_succ, List.getElem_cons_zero, List.setIfInBounds_toArray, List.set_cons_zero, List.set_cons_succ]
              refine spec_d rfl (fun x _ => gives_run (by go_simp)) ?_
              try simp only [Act.put, List.getElem_toArray, List.getElem_cons_succ, List.getElem_cons_zero, List.setIfInBounds_toArray, List.set_cons_zero, List.set_cons_succ]
              refine spec_d rfl (fun x _ => gives_run (by go_simp)) ?_
              try simp only [Act.put, List.getElem_toArray, List.getElem_cons_succ, List.getElem_cons_zero, List.setIfInBounds_toArray, List.set_cons_zero, List.set_cons_succ]
              refine spec_end (fun x hx => ?_)
              clear hx
              change wpAny _ _ _ _ (0 + 1) _ _ _
              refine wpAny_ready (rs := [14]) (by kernel_rfl) (by simp) ?_
              refine AllReady.cons rfl (fun KK hK => ?_) AllReady.nil
              go_simp
              refine (csee_yes 0 0 l (1 + y) 0 (1 + z) (-1) false true pu A N cc cd P m yy yk L vs (HCX.out x) rfl (by omega) (by omega) (by omega) (by omega) hp0 hp1 (by omega) HLK.out (HLX.out x) HX.out (by omega) (HUX.out x) hL (by omega) (by omega) (by omega) (by omega) r HRD.out).mono ?_
              rintro e wa ⟨rfl, HQ, HR⟩
              refine hK _ _ ?_
              clear hK KK
              try simp only [Act.put, List.getElem_toArray, List.getElem_cons_succ, List.getElem_cons_zero, List.setIfInBounds_toArray, List.set_cons_zero, List.set_cons_succ]
              refine wpAny_done (by kernel_rfl) ?_ _
              go_upto_region 15 with (fail)
              have hbx : Below wr.heap.size wr x.world := d0.trans x.below
              have HW5 : Hid (Wrote g8 W5 wa) := Lib.hid ((HW.out.then hbx).trans HR.out)
              have HSA := Lib.hid (HBOF.out wa HW5.out)
              clear S0 S1 S2 S3 S4 S5 S6 S7 R0 R1 R2 R3 E0 E1 hbx d0 HR
              clear x
              have d1 : Below wa.heap.size wa wa := Below.refl _ _
              obtain ⟨S0, S1, S2, S3, S4, S5, S6, S7⟩ := o8 0 0 l (1 + y) 0 (1 + z) (-1) false ((HO75.out.touch HW5.out (by have := H78.out; omega)).kept d1)
              obtain ⟨R0, R1, R2, R3⟩ := o4 true pu A N cc cd ((HOR5.out.touch HW5.out (by have := H78.out; omega)).kept d1)
              have E0 : ∀ x : Kin wa, x.world.cell? ⟨b, off + j * 2, none⟩ = some (.int .i64 P) := fun x => (HCJ.out x.world (HSA.out.trans ((d1.trans x.below).mono HSA.out.size))).1
              have E1 : ∀ x : Kin wa, x.world.cell? ⟨b, off + j * 2 + 1, none⟩ = some (.int .u8 (L : Int)) := fun x => (HCJ.out x.world (HSA.out.trans ((d1.trans x.below).mono HSA.out.size))).2
              go_wp2_with fail
              refine wp_region_kin (by kernel_rfl) (by kernel_rfl) ?_
              repeat (go_big_quiet_step (first | (go_at_call 44; exact Calls.kin_same _ (HRA.out _))))
              refine wpQuiet_nil ?_
              intro _ hw'
              obtain ⟨kx, hw''⟩ := hw'
              subst hw''
              have HCK6 := Lib.hid (show Ck kx.world g8 ((a : Int) + 1) (if r then (k : Int) else (k : Int) + 1) from HQ.out.kept (d1.trans kx.below))
              have HW6 := Lib.hid (HW5.out.then (d1.trans kx.below))
              have HL6 := Lib.hid (clooks_any HCK6.out)
              have HR6 := Lib.hid (cwrong_any HCK6.out)
              have HB6 := Lib.hid (cbad_any _ rfl HCK6.out)
              have hat := at_bd (k := 0) (wo := 1 + y) (mn := 1 + z) (c := cd) (p := P)
              have HDX : Hid (Lst kx.world D (8 * N) ((bitsOf vs).map Value.bool)) := Lib.hid (HLD.out.touch HW6.out HDB.out)
              have hn0 : 0 ≤ atN 0 (1 + y) (1 + z) cd P := by
                rcases HLK.out with ⟨_, _, _, h⟩ | ⟨_, _, _, _, h⟩ | ⟨h, _⟩ | ⟨h, _⟩
                · cases h
                · cases h
                · exact h
                · exact h
              go_wp2_with fail
              refine (HLO.out _).mono ?_
              rintro e w' ⟨rfl, rfl⟩
              obtain ⟨nn, hnn⟩ : ∃ nn : Nat, atN 0 (1 + y) (1 + z) cd P = (nn : Int) := ⟨(atN 0 (1 + y) (1 + z) cd P).toNat, by omega⟩
              obtain ⟨t, ht⟩ : ∃ t, atT 0 (1 + y) (1 + z) cd P = t := ⟨_, rfl⟩
              rw [hnn, ht] at HUD HRD
              rw [hnn, ht] at hat
              rw [hnn, ht]
              have hn64 : nn < 64 := by have := hat.2.2.2 (by omega); omega
              have hrem : (L : Int).tmod 16 = ((L % 16 : Nat) : Int) := by rw [Int.tmod_eq_emod_of_nonneg (by omega)]; omega
              have hw16 : IntKind.i64.wrap ((L % 16 : Nat) : Int) = ((L % 16 : Nat) : Int) := IntWalk.i64_in _ (by omega)
              have hwL : IntKind.i64.wrap (L : Int) = (L : Int) := IntWalk.i64_in _ (by omega)
              have HNE : Hid ((((L % 16 : Nat) : Int) != (u : Int)) = !r) := Lib.hid (by
                rw [HUD.out] at HRD
                rw [← HRD.out]
                show (!(((L % 16 : Nat) : Int) == (u : Int))) = !okB yy L u
                rw [nat_eq]
                congr 1
                rw [← HUD.out]
                by_cases h : nn < (bitsOf vs).length
                · rw [wdF_in (List.getElem?_eq_getElem h)]
                  exact (ok_at ⟨L, hL⟩ yy _).symm
                · rw [wdF_out (.inr (by omega))]
                  exact (ok_zero ⟨L, hL⟩ yy).symm)
              clear hlook HLO hat hnn ht
              by_cases h8 : nn < 8 * N
              · have hbl : nn < (bitsOf vs).length := by have := HDX.out.1; simp at this; omega
                obtain ⟨bd, od, rfl, hbdl, hcd⟩ := HDX.out.get h8
                rw [List.getElem_map] at hcd
                obtain ⟨bt, HBT⟩ : ∃ bt, Hid ((bitsOf vs)[nn]'hbl = bt) := ⟨_, Lib.hid rfl⟩
                rw [HBT.out] at hcd
                have HUL : Hid (driveF yy (Ly1.lvl bt t) = u) := Lib.hid (by rw [← HUD.out, wdF_in (by rw [List.getElem?_eq_getElem hbl, HBT.out])])
                have h8i : (nn : Int) < ((8 * N : Nat) : Int) := by omega
                go_wp2_with fail
                refine (Ly1.rlevel_any bt t _).mono ?_
                rintro e w' ⟨rfl, rfl⟩
                go_wp2_with fail
                refine (rdrive_any yy _ _).mono ?_
                rintro e w' ⟨rfl, rfl⟩
                rw [HUL.out]
                have hne := HNE.out
                cases r
                · simp only [Bool.not_false] at hne
                  go_wp2_with fail
                  refine HL6.out.mono ?_
                  rintro e w' ⟨rfl, rfl⟩
                  go_wp2_with fail
                  refine HR6.out.mono ?_
                  rintro e w' ⟨rfl, rfl⟩
                  go_wp2_with fail
                  refine HB6.out.mono ?_
                  rintro e w' ⟨rfl, rfl⟩
                  go_wp2
                  go_roundw
                  case rel => exact ⟨j + 1, a + 1, k + 1, by omega, by omega, by omega, by omega, by first | rfl | go_num, by first | rfl | go_num, by go_num, HCK6.out, HW6.out⟩
                  case measure => simp [intOf]; omega
                · simp only [Bool.not_true] at hne
                  go_wp2_with fail
                  refine HL6.out.mono ?_
                  rintro e w' ⟨rfl, rfl⟩
                  go_wp2_with fail
                  refine HR6.out.mono ?_
                  rintro e w' ⟨rfl, rfl⟩
                  go_wp2_with fail
                  refine HB6.out.mono ?_
                  rintro e w' ⟨rfl, rfl⟩
                  go_wp2
                  go_roundw
                  case rel => exact ⟨j + 1, a + 1, k, by omega, by omega, by omega, by omega, by first | rfl | go_num, by first | rfl | go_num, by go_num, HCK6.out, HW6.out⟩
                  case measure => simp [intOf]; omega
              · have h8i : decide ((nn : Int) < ((8 * N : Nat) : Int)) = false := decide_eq_false (by omega)
                have h8j : ((8 * N : Nat) : Int) ≤ (nn : Int) := by omega
                obtain rfl : u = 0 := by rw [← HUD.out]; exact wdF_out (.inr (by rw [show (bitsOf vs).length = 8 * N by have := HDX.out.1; simpa using this]; omega))
                have hne := HNE.out
                simp only [Int.ofNat_zero, Int.natCast_zero] at hne
                cases r
                · simp only [Bool.not_false] at hne
                  go_wp2_with fail
                  refine HL6.out.mono ?_
                  rintro e w' ⟨rfl, rfl⟩
                  go_wp2_with fail
                  refine HR6.out.mono ?_
                  rintro e w' ⟨rfl, rfl⟩
                  go_wp2_with fail
                  refine HB6.out.mono ?_
                  rintro e w' ⟨rfl, rfl⟩
                  go_wp2
                  go_roundw
                  case rel => exact ⟨j + 1, a + 1, k + 1, by omega, by omega, by omega, by omega, by first | rfl | go_num, by first | rfl | go_num, by go_num, HCK6.out, HW6.out⟩
                  case measure => simp [intOf]; omega
                · simp only [Bool.not_true] at hne
                  go_wp2_with fail
                  refine HL6.out.mono ?_
                  rintro e w' ⟨rfl, rfl⟩
                  go_wp2_with fail
                  refine HR6.out.mono ?_
                  rintro e w' ⟨rfl, rfl⟩
                  go_wp2_with fail
                  refine HB6.out.mono ?_
                  rintro e w' ⟨rfl, rfl⟩
                  go_wp2
                  go_roundw
                  case rel => exact ⟨j + 1, a + 1, k, by omega, by omega, by omega, by omega, by first | rfl | go_num, by first | rfl | go_num, by go_num, HCK6.out, HW6.out⟩
                  case measure => simp [intOf]; omega
        · obtain rfl : j = 200 := by omega
          go_wp2_with fail
          refine (cclear_any HC.out).mono ?_
          rintro e w6 ⟨rfl, HQ, HR⟩
          have HW6 := Lib.hid (HW.out.trans HR.out)
          have HB6 := Lib.hid (HBOF.out w6 HW6.out)
          have HLK6 := Lib.hid (clooks_any HQ.out)
          have HWR6 := Lib.hid (cwrong_any HQ.out)
          have HBD6 := Lib.hid (cbad_any false (by decide) HQ.out)
          go_wp2_with fail
          refine HLK6.out.mono ?_
          rintro e w' ⟨rfl, rfl⟩
          go_wp2_with fail
          refine HWR6.out.mono ?_
          rintro e w' ⟨rfl, rfl⟩
          go_wp2_with fail
          refine HBD6.out.mono ?_
          rintro e w' ⟨rfl, rfl⟩
          go_wp2_with fail
          refine (Ly19.one_any _ (One14.gl_up (HU.out.kept HB6.out))).mono ?_
          rintro e w8 ⟨rfl, hb8⟩
          have HE := Lib.hid (HB6.out.trans (hb8.mono HB6.out.size))
          clear hb8
          go_wp2
          go_ret
          exact ⟨rfl, HE.out⟩
      · obtain rfl : j = n := by omega
        go_wp2_with fail
        refine (cclear_any HC.out).mono ?_
        rintro e w6 ⟨rfl, HQ, HR⟩
        have HW6 := Lib.hid (HW.out.trans HR.out)
        have HB6 := Lib.hid (HBOF.out w6 HW6.out)
        have HLK6 := Lib.hid (clooks_any HQ.out)
        have HWR6 := Lib.hid (cwrong_any HQ.out)
        have HBD6 := Lib.hid (cbad_any false (by decide) HQ.out)
        go_wp2_with fail
        refine HLK6.out.mono ?_
        rintro e w' ⟨rfl, rfl⟩
        go_wp2_with fail
        refine HWR6.out.mono ?_
        rintro e w' ⟨rfl, rfl⟩
        go_wp2_with fail
        refine HBD6.out.mono ?_
        rintro e w' ⟨rfl, rfl⟩
        go_wp2_with fail
        refine (Ly19.one_any _ (One14.gl_up (HU.out.kept HB6.out))).mono ?_
        rintro e w8 ⟨rfl, hb8⟩
        have HE := Lib.hid (HB6.out.trans (hb8.mono HB6.out.size))
        clear hb8
        go_wp2
        go_ret
        exact ⟨rfl, HE.out⟩
theorem gUp : Tryd.prog.globalNamed "busbar/wires.upright" = some 0 := by kernel_rfl
theorem tUp : (Tryd.prog.globals[0]?).map (·.type) = some 38 := by kernel_rfl
theorem of_laid {W : World} (h : laidMetH Tryd.prog Rows.checkSeesRow.laid W) : Up W := by
  rw [MakeChecks.laidMetH_plain _ _ _ (by kernel_rfl)] at h
  obtain ⟨ps, ⟨g0, t0, cs0, f0, p0, q0, hg0, ht0, hv0, hd0, _, _⟩, _, _⟩ := h
  obtain rfl := Option.some.inj (gUp.symm.trans hg0)
  obtain rfl := Option.some.inj (tUp.symm.trans ht0)
  have e := exact_cells (sh := .ar 4 .bool) 10 rfl (by kernel_rfl) hd0 rfl
  obtain ⟨l0⟩ := cs0
  simp at e
  subst e
  exact ⟨by simpa using World.var?_cell hg0 hv0 0, by simpa using World.var?_cell hg0 hv0 1, by simpa using World.var?_cell hg0 hv0 2, by simpa using World.var?_cell hg0 hv0 3⟩
theorem walk_long (s0 s1 c0 : Int) (sd pu : Bool) (A : Option Addr) (N cc : Nat) (B : Option Addr) (n cb : Nat) (w : World) (hN : 20 < N) (hM : N ≤ 9223372036854775807) :
    Calls Tryd.prog 11 #[.agg #[.int .i64 s0, .int .i64 s1], .agg #[.bool sd, .int .i64 c0, .slice A N cc, .bool pu], .slice B n cb] w fun e w' => e = .returned (.bool true) ∧ Below w.heap.size w w' := by
  have hN' : (20 : Int) < (N : Int) := by omega
  go_enter Tryd.func11, Tryd.ntmps11
  go_wp2
  go_ret
  refine ⟨rfl, ?_⟩
  repeat (first | exact Below.refl _ _ | refine Below.setCell ?_ (by first | omega | (simp; done) | (simp; omega)) _ | refine Below.alloc ?_ (by first | omega | (simp; done) | (simp; omega)) _ | refine below_drewN' ?_ _ | refine Below.drew ?_)
abbrev sh2 : Sh := .ar 2 (.int .i64)
abbrev shR : Sh := .fld .bool (.fld (.int .i64) (.fld (.sl (.int .u8)) (.fld .bool .nil)))
theorem walk (s : Array Value) (r : Array Value) (B : Option Addr) (n cb : Nat) (rows : List (List Value)) (w : World) (hU : Up w) (rs : Reads w sh2 s.toList) (rr : Reads w shR r.toList) (hg : Grid w B n (Sh.size shK) rows) (hr : ∀ r ∈ rows, Reads w shK r) (hnc : n ≤ cb) (hcm : cb ≤ maxLen) :
    Calls Tryd.prog 11 #[.agg s, .agg r, .slice B n cb] w fun e w' => e = .returned (.bool true) ∧ Below w.heap.size w w' := by
  obtain ⟨s0, s1, rfl, _, _⟩ := ar_two rs
  obtain ⟨_, _, e', ⟨sd, rfl⟩, _, _, rfl, ⟨c, rfl, hc⟩, _, _, rfl, ⟨A, N, cc, wrows, rfl, hn, hm, hgw, hrr⟩, _, _, rfl, ⟨pu, rfl⟩, rfl⟩ := rr
  obtain ⟨r⟩ := r
  simp at e'
  subst e'
  unfold maxLen at hm hcm
  have bc := bounds_i64 hc
  by_cases h : N ≤ 20
  · obtain ⟨vs, hl, hx⟩ := lst_grid hgw hrr
    obtain ⟨ls, hs, hb⟩ := sat_of hg hr
    exact go s0 s1 c sd pu A N cc vs B n cb ls w h hl hx bc.1 bc.2 hs hb (by omega) hU
  · exact walk_long s0 s1 c sd pu A N cc B n cb w (by omega) (by omega)

theorem door_met (os : Os) (args : Array Value) : laidMetH Tryd.prog Rows.checkSeesRow.laid ((World.doorLaid Tryd.prog 400 os).forCall (fun _ _ => 0) ⟨#[], args, []⟩).memory :=
  laidMetH_of_parts3 (fuel := 8) (laidMet_of_run' 8 (by kernel_rfl) (by kernel_rfl)) (by kernel_rfl) (by kernel_rfl)
set_option maxRecDepth 100000 in
theorem lifted (os : Os) (started : os.Started) (H : Type) (enc : TypeId × Value → H) :
    ReturnsInHanded {} Tryd.checked os 11 .any (fun w args => (Rows.checkSeesSpec.pre enc Tryd.prog Tryd.f11 [] false w args ∧ laidMetH Tryd.prog Rows.checkSeesRow.laid w) ∧ sizedMet enc Tryd.prog Tryd.f11 (OpenSpec.ofChange Rows.checkSeesSpec) false w args)
      (Rows.checkSeesSpec.post enc Tryd.prog Tryd.f11 false true false false) := by
  refine returnsInHanded_of_change_and (C := Tryd.checked) (X := fun w _ => laidMetH Tryd.prog Rows.checkSeesRow.laid w) (fun _ _ _ hh h => h.of_heap hh) own started (by kernel_rfl) Tryd.func11
    (ChangeSpec.witness_shaped (enc := enc) (C := Tryd.checked) (os := os) (X := fun w _ => laidMetH Tryd.prog Rows.checkSeesRow.laid w) false (World.doorLaid Tryd.prog 400 os) #[.agg #[.int .i64 0, .int .i64 0], .agg #[.bool false, .int .i64 0, .slice none 0 0, .bool false], .slice none 0 0] 8 rfl (World.shaped_of_RefB (by kernel_rfl) (by kernel_rfl)) (by kernel_rfl) (by kernel_rfl) (by kernel_rfl) (door_met os _)) ?_
  intro W base args ds gs before hval0 hW _ _ hL _
  have hval : ∀ (j : Nat) t v, Tryd.f11.params[j]? = some t → args[j]? = some v → Value.okWide Tryd.prog W .any base t v := hval0
  have hW' := hW
  obtain ⟨p, q, hA0, hV, rfl, hfz, hnd⟩ := hW
  have hA : DataW.TrodAll enc Tryd.prog W 0 (fun _ => true) true Tryd.f11.params.toList args.toList ds p := hA0
  rw [Tryd.params11] at hA hval
  obtain ⟨v0, vs0, d0, ds0, p0, q0, hargs, rfl, rfl, h0, r0⟩ := trodAll_cons hA
  obtain ⟨v1, vs1, d1, ds1, p1, q1, rfl, rfl, rfl, h1, r1⟩ := trodAll_cons r0
  obtain ⟨v2, vs2, d2, ds2, p2, q2, rfl, rfl, rfl, h2, r2⟩ := trodAll_cons r1
  obtain ⟨rfl, rfl, rfl⟩ := trodAll_nil r2
  obtain rfl : args = #[v0, v1, v2] := by cases args; simp_all
  obtain ⟨rfl, rfl⟩ := trodVars_none hV
  have k0 := h0
  have lt0 : ∀ x ∈ p0, x.block < W.heap.size := by obtain ⟨m, hm⟩ := k0; exact DataW.trod_lt m _ _ _ hm
  obtain ⟨s, rfl⟩ := okWide_agg (by first | exact .inl ⟨_, Tryd.underlying22⟩ | exact .inr ⟨_, _, Tryd.underlying22⟩) (hval 0 22 v0 rfl rfl)
  have rd0 := reads_cells (sh := sh2) 30 (by kernel_rfl) k0
  have k1 := h1
  have lt1 : ∀ x ∈ p1, x.block < W.heap.size := by obtain ⟨m, hm⟩ := k1; exact DataW.trod_lt m _ _ _ hm
  obtain ⟨r, rfl⟩ := okWide_agg (by first | exact .inl ⟨_, Tryd.underlying72⟩ | exact .inr ⟨_, _, Tryd.underlying72⟩) (hval 1 72 v1 rfl rfl)
  have rd1 := reads_cells (sh := shR) 30 (by kernel_rfl) k1
  have k2 := h2
  have lt2 : ∀ x ∈ p2, x.block < W.heap.size := by obtain ⟨m, hm⟩ := k2; exact DataW.trod_lt m _ _ _ hm
  obtain ⟨lA, ln, lc, rfl⟩ := okWide_slice Tryd.underlying82 (hval 2 82 v2 rfl rfl)
  obtain ⟨l, g2, rd2, cb2, cc2⟩ := reads_slice (e := shK) 30 (by kernel_rfl) k2
  clear hA0 hval0
  refine (walk s r lA ln lc l W (of_laid hL) rd0 rd1 g2 rd2 cb2 cc2).mono fun e W' ⟨he, bel⟩ => ?_
  subst he
  exact ⟨_, rfl, _, _, _, [], _, [], hW', trodAll_mk1 (shut_bool Tryd.underlying4 _), (trodAll_cons_mk (Below.trod laidOut (by kernel_rfl) (of_decide_eq_true (by kernel_rfl)) k0 bel lt0) (trodAll_cons_mk (Below.trod laidOut (by kernel_rfl) (of_decide_eq_true (by kernel_rfl)) k1 bel lt1) (trodAll_cons_mk (Below.trod laidOut (by kernel_rfl) (of_decide_eq_true (by kernel_rfl)) k2 bel lt2) trodAll_mk0))), rfl, bel.frame _, fun h => by cases h⟩

theorem over : Rows.checkSeesRow.holds Tryd.pinned (OpenSpec.ofChange Rows.checkSeesSpec) :=
  OpenClaim.holds_of_wide 11 Tryd.f11 rfl rfl rfl rfl rfl rfl rfl ⟨rfl, rfl, rfl, rfl, rfl⟩ rfl rfl rfl rfl rfl (by kernel_rfl) Tryd.func11 (by kernel_rfl)
    (of_decide_eq_true (by kernel_rfl)) (by unfold Func.isWrapper; first | (rw [if_pos (by decide +kernel)]; kernel_rfl) | (rw [if_neg (by decide +kernel)]; exact ⟨rfl, rfl⟩))
    (fun os started H enc _ => lifted os started H enc)

/-- The card: what the row lists is tied to the program's text. -/
theorem proved : Rows.CheckSeesCardSaid :=
  Claim7.holds_tied_plain_at .later [] [.data] true Rows.checkSeesCard.stood.harness false
    over (fun _ h => by cases h) (by kernel_rfl) (fun _ h => by cases h) checkSees_row_tie rfl ⟨rfl, rfl⟩ (by kernel_rfl) rfl
    (fun f fn hf hfn => by
      obtain rfl : f = 11 := Option.some.inj ((show Tryd.prog.funcNamed "busbar/busbarlaw19.CheckSees" = some 11 by kernel_rfl).symm.trans hf) |>.symm
      obtain rfl : fn = Tryd.f11 := (Option.some.inj (Tryd.func11.symm.trans hfn)).symm
      exact ⟨by kernel_rfl, fun j t ht => by
        rw [Tryd.params11] at ht
        have hm : t ∈ [22, 72, 82] := by simpa using Array.mem_of_getElem? ht
        have hall : ([22, 72, 82].all fun u => !Tryd.prog.wantsStandIn u) = true := by kernel_rfl
        exact (show Tryd.prog.wantsStandIn t = false by simpa using List.all_eq_true.1 hall t hm)⟩)
    (by kernel_rfl)
end Go.Proofs.YtnbcegijncdmaaaDoor.lawCheckSees
