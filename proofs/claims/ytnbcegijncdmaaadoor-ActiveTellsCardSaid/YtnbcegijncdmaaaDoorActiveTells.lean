/- Of a candidate that sends, up to 5 ticks ahead or behind, alone, with one line that may stand otherwise, who watches tells its number: for every slot that is made, every words, line and move; no condition but that the table of the lines is as the program's text lays it, which the card ties. -/
import Derived.RegionTactic
import Derived.IntWalk
import Derived.Deep.DeepCutAuto
import Derived.Deep.CutBlock
import Derived.Test.YtnbcegijncdmaaaDoorActB
import Derived.Test.YtnbcegijncdmaaaDoorGatC
import Derived.Test.YtnbcegijncdmaaaDoorOne17
import Derived.Test.YtnbcegijncdmaaaDoorSh
import Derived.Test.YtnbcegijncdmaaaDoorShAr
import Derived.Test.YtnbcegijncdmaaaDoorPush
import Derived.Test.YtnbcegijncdmaaaDoorTie
import Derived.Test.YtnbcegijncdmaaaDoorCards
import Derived.Test.YtnbcegijncdmaaaDoorLaid
import Derived.LaidMore
import Derived.SevenTiedAt
import Derived.Stop.Joined
import Derived.Test.YtnbcegijncdmaaaDoorRows
import Derived.WalkKit
import Derived.ProofKit
import Derived.OpenShut
import Derived.ShutString
import Derived.ChangeOld
import Derived.Below
namespace Go.Proofs.YtnbcegijncdmaaaDoor.lawActiveTells
open Go.ChangeShapes Go.WideShapes Go.ChangeAt Go.RowKit Base
open Go.ChangeMaps (open_string shut_string)
set_option linter.unusedVariables false
set_option linter.unusedSimpArgs false
theorem own : ownKnob Tryd.prog.godebug = none := by kernel_rfl
theorem laidOut : laidOutB Tryd.prog = true := by kernel_rfl
open Ly17 Ly18 Ly14 Ly7 Ly3 Ly2

/-- What both sides drive at a place. -/
def lpF (bs : List Bool) (W M c p : Int) : Nat := wdF false bs (atN 0 W M c p) (atT 0 W M c p) ||| wdF true bs (atN 0 W M c p) (atT 0 W M c p)
theorem lp_cases (bs : List Bool) (W M c p : Int) : lpF bs W M c p = 0 ∨ ∃ b, lpF bs W M c p = bothN b := by
  unfold lpF wdF
  split
  · exact .inl rfl
  · split
    · exact .inr ⟨_, rfl⟩
    · exact .inl rfl
theorem lp_ahead {bs : List Bool} {W M c p : Int} (h : p < 40 + 80 * c) : lpF bs W M c p = 0 := by
  obtain ⟨e1, e2⟩ := at_no (k := 0) (wo := W) (mn := M) (c := c) (p := p) (fun g => by omega)
  unfold lpF
  rw [e1, wdF_out (.inl (by omega)), wdF_out (.inl (by omega))]
  rfl
theorem lp_at {bs : List Bool} {W M c p : Int} {b : Bool} (hW : 1 ≤ W) (h0 : 0 ≤ c) (h1 : c < M) (hb : bs[0]? = some b) (p0 : 40 + 80 * c ≤ p) (p1 : p < 40 + 80 * c + 20) : lpF bs W M c p = bothN (Ly1.lvl b (p - (40 + 80 * c))) := by
  obtain ⟨e1, e2⟩ := at_yes (k := 0) (wo := W) (mn := M) (c := c) (p := p) ⟨rfl, h0, h1, p0, by omega⟩
  unfold lpF
  rw [e1, e2, show (p - (40 + 80 * c)) / 20 = ((0 : Nat) : Int) by omega, show (p - (40 + 80 * c)) % 20 = p - (40 + 80 * c) by omega, wdF_in hb, wdF_in hb]
  rfl
/-- Where something is seen first. -/
theorem first_seen {bs : List Bool} {W M c mv : Int} {b : Bool} (fl st : Bool) (line : Nat) (hl : line < 4) (hW : 1 ≤ W) (h0 : 0 ≤ c) (h1 : c < M) (hb : bs[0]? = some b) (m0 : -5 ≤ mv) (m1 : mv ≤ 5) :
    ∃ S : Int, 35 + 80 * c ≤ S ∧ S ≤ 55 + 80 * c ∧ (∀ p, p < S → cnt (lnF fl st line (lpF bs W M c (p + mv))) 4 < 2) ∧ 2 ≤ cnt (lnF fl st line (lpF bs W M c (S + mv))) 4 := by
  by_cases h : cnt (lnF fl st line (bothN b)) 4 < 2
  · refine ⟨50 + 80 * c - mv, by omega, by omega, fun p hp => ?_, ?_⟩
    · by_cases hp' : p + mv < 40 + 80 * c
      · rw [lp_ahead hp']; exact ln_zero fl st ⟨line, hl⟩
      · rw [lp_at hW h0 h1 hb (by omega) (by omega), Ly1.lvl_lo (by omega) (by omega)]; exact h
    · rw [lp_at hW h0 h1 hb (by omega) (by omega), Ly1.lvl_hi (by omega) (by omega)]
      exact ln_two fl st b ⟨line, hl⟩ h
  · refine ⟨40 + 80 * c - mv, by omega, by omega, fun p hp => ?_, ?_⟩
    · rw [lp_ahead (by omega)]; exact ln_zero fl st ⟨line, hl⟩
    · rw [lp_at hW h0 h1 hb (by omega) (by omega), Ly1.lvl_lo (by omega) (by omega)]; omega
theorem lnF_lt (fl st : Bool) (line : Nat) (hl : line < 4) (bs : List Bool) (W M c p : Int) : lnF fl st line (lpF bs W M c p) < 256 := by
  rcases lp_cases bs W M c p with h | ⟨b, h⟩
  · rw [h]; exact ln_lt0 fl st ⟨line, hl⟩
  · rw [h]; exact ln_lt fl st b ⟨line, hl⟩
theorem lp_lt (bs : List Bool) (W M c p : Int) : lpF bs W M c p < 16 := Nat.or_lt_two_pow (n := 4) (wdF_lt _ _ _ _) (wdF_lt _ _ _ _)
def Env (w : World) (g7 g5 : Nat) (l y z a0 a1 a2 a3 : Int) (wx : World) : Prop :=
  Obj1 wx g7 25 #[.int .i64 0, .int .i64 0, .int .i64 l, .int .i64 (1 + y), .int .i64 0, .int .i64 (1 + z), .int .i64 (-1), .bool false] ∧ Obj1 wx g5 57 #[.int .i64 a0, .int .i64 a1, .int .i64 a2, .int .i64 a3] ∧ Below w.heap.size w wx
theorem Env.kept {w wx w' : World} {g7 g5 : Nat} {l y z a0 a1 a2 a3 : Int} (h : Env w g7 g5 l y z a0 a1 a2 a3 wx) (hb : Below wx.heap.size wx w') : Env w g7 g5 l y z a0 a1 a2 a3 w' :=
  ⟨h.1.kept hb, h.2.1.kept hb, h.2.2.trans (hb.mono h.2.2.size)⟩
theorem Env.touch {w wx w' : World} {g7 g5 g : Nat} {l y z a0 a1 a2 a3 : Int} (h : Env w g7 g5 l y z a0 a1 a2 a3 wx) (hb : Wrote g wx w') (h7 : g7 < g) (h5 : g5 < g) (hw : w.heap.size ≤ g) : Env w g7 g5 l y z a0 a1 a2 a3 w' :=
  ⟨h.1.touch hb (by omega), h.2.1.touch hb (by omega), h.2.2.trans (hb.below hw h.2.2.size)⟩
set_option maxRecDepth 100000 in
set_option maxHeartbeats 4000000 in
theorem go (s0 s1 a0 a1 a2 a3 : Int) (A : Option Addr) (n c : Nat) (vs : List Nat) (w : World) (hl : Lst w A n (vs.map fun (x : Nat) => Value.int .u8 x)) (hx : ∀ x ∈ vs, x < 256) (hn : n ≤ 9223372036854775807) (hU : Up w) :
    Calls Tryd.prog 7 #[.agg #[.int .i64 s0, .int .i64 s1], .slice A n c, .agg #[.int .i64 a0, .int .i64 a1, .int .i64 a2, .int .i64 a3]] w fun e w' => e = .returned (.bool true) ∧ Below w.heap.size w w' := by
  obtain ⟨y, y0, y1', hy'⟩ := and_mask s0 7 (by omega)
  have hy : Go.bits BinOp.and IntKind.i64 s0 7 = y := hy'
  have y1 : y ≤ 7 := y1'
  obtain ⟨z, z0, z1', hz'⟩ := and_mask s1 3 (by omega)
  have hz : Go.bits BinOp.and IntKind.i64 s1 3 = z := hz'
  have z1 : z ≤ 3 := z1'
  obtain ⟨r1, r10, r11', hr1'⟩ := and_mask a0 255 (by omega)
  have hr1 : Go.bits BinOp.and IntKind.i64 a0 255 = r1 := hr1'
  have r11 : r1 ≤ 255 := r11'
  obtain ⟨r2, r20, r21', hr2'⟩ := and_mask a1 255 (by omega)
  have hr2 : Go.bits BinOp.and IntKind.i64 a1 255 = r2 := hr2'
  have r21 : r2 ≤ 255 := r21'
  obtain ⟨li, li0, li1', hli'⟩ := and_mask a2 3 (by omega)
  have hli : Go.bits BinOp.and IntKind.i64 a2 3 = li := hli'
  have li1 : li ≤ 3 := li1'
  obtain ⟨line, rfl⟩ : ∃ k : Nat, li = k := ⟨li.toNat, by omega⟩
  have hline : line < 4 := by omega
  clear y1' hy' z1' hz' r11' hr1' r21' hr2' li1' hli'
  obtain ⟨cd, hcd⟩ : ∃ cd, r1 % (1 + z) = cd := ⟨_, rfl⟩
  have hcd0 : 0 ≤ cd := by rw [← hcd]; exact Int.emod_nonneg _ (by omega)
  have hcd1 : cd < 1 + z := by rw [← hcd]; exact Int.emod_lt_of_pos _ (by omega)
  have htm : r1.tmod (1 + z) = cd := by rw [Int.tmod_eq_emod_of_nonneg r10]; exact hcd
  have hwcd : IntKind.i64.wrap cd = cd := IntWalk.i64_in _ (by omega)
  obtain ⟨ap, hap⟩ : ∃ ap, r2 % 11 = ap := ⟨_, rfl⟩
  have hap0 : 0 ≤ ap ∧ ap ≤ 10 := by omega
  have htm2 : r2.tmod 11 = ap := by rw [Int.tmod_eq_emod_of_nonneg r20]; exact hap
  have hwap : IntKind.i64.wrap ap = ap := IntWalk.i64_in _ (by omega)
  have hwap2 : IntKind.i64.wrap (ap - 5) = ap - 5 := IntWalk.i64_in _ (by omega)
  have hz10 : (1 + z == 0) = false := by simp; omega
  have hz1n : ¬ (1 + z = 0) := by omega
  have HMD := Lib.hid (fun W => made_any s0 s1 y z W hy hz y0 y1 z0 z1)
  have HL := Lib.hid hl
  have HX := Lib.hid hx
  have HU := Lib.hid hU
  have HBL : Hid ((bitsOf vs).length = 8 * n) := Lib.hid (by rw [bitsOf_len]; have := hl.1; simp at this; rw [this])
  clear hcd hap hl hx hU hy hz
  obtain ⟨WB, HWB⟩ : ∃ W, W = (w.alloc (.cells #[.int .i64 s0, .int .i64 s1] 22)).alloc (.cells #[.int .i64 a0, .int .i64 a1, .int .i64 a2, .int .i64 a3] 57) := ⟨_, rfl⟩
  have HOB : Hid (Obj1 WB (w.heap.size + 1) 57 #[.int .i64 a0, .int .i64 a1, .int .i64 a2, .int .i64 a3]) := Lib.hid (by
    have := Obj1.new (w.alloc (.cells #[.int .i64 s0, .int .i64 s1] 22)) 57 #[.int .i64 a0, .int .i64 a1, .int .i64 a2, .int .i64 a3]
    rw [alloc_size] at this
    rw [HWB]
    exact this)
  have HBB : Hid (Below w.heap.size w WB) := Lib.hid (by rw [HWB]; exact bel2 w _ _)
  obtain ⟨g5, HG5⟩ : ∃ g, Hid (w.heap.size + 1 = g) := ⟨_, Lib.hid rfl⟩
  go_enter Tryd.func7, Tryd.ntmps7
  go_upto_region 1 with (fail)
  have HOA : Obj1 WB w.heap.size 22 #[.int .i64 s0, .int .i64 s1] := by rw [HWB]; exact (Obj1.new w 22 _).alloc _
  have k0 : WB.cell? ⟨w.heap.size, 0, none⟩ = some (.int .i64 s0) := HOA.cell 0
  have k1 : WB.cell? ⟨w.heap.size, 1, none⟩ = some (.int .i64 s1) := HOA.cell 1
  rw [← HWB]
  clear HWB HOA
  go_wp2_with fail
  refine (HMD.out _).mono ?_
  rintro e w1 ⟨rfl, hb1⟩
  clear k0 k1
  have HB1 := Lib.hid (HBB.out.trans (hb1.mono HBB.out.size))
  have HOB1 := Lib.hid (HOB.out.kept hb1)
  clear hb1 HOB HBB HMD
  go_upto_region 2 with (fail)
  obtain ⟨g7, HG7⟩ : ∃ g, Hid (w1.heap.size = g) := ⟨_, Lib.hid rfl⟩
  have HO7 : Hid (Obj1 (w1.alloc (.cells #[.int .i64 0, .int .i64 0, .int .i64 (20 * (10 + 8 * (1 + y) + 4 * z)), .int .i64 (1 + y), .int .i64 0, .int .i64 (1 + z), .int .i64 (-1), .bool false] 25)) g7 25 #[.int .i64 0, .int .i64 0, .int .i64 (20 * (10 + 8 * (1 + y) + 4 * z)), .int .i64 (1 + y), .int .i64 0, .int .i64 (1 + z), .int .i64 (-1), .bool false]) := Lib.hid (by rw [← HG7.out]; exact Obj1.new _ _ _)
  have HOB2 := Lib.hid (HOB1.out.alloc (.cells #[.int .i64 0, .int .i64 0, .int .i64 (20 * (10 + 8 * (1 + y) + 4 * z)), .int .i64 (1 + y), .int .i64 0, .int .i64 (1 + z), .int .i64 (-1), .bool false] 25))
  have HB2 := Lib.hid (HB1.out.alloc HB1.out.size (.cells #[.int .i64 0, .int .i64 0, .int .i64 (20 * (10 + 8 * (1 + y) + 4 * z)), .int .i64 (1 + y), .int .i64 0, .int .i64 (1 + z), .int .i64 (-1), .bool false] 25))
  rw [HG5.out] at HOB2 ⊢
  rw [HG7.out]
  generalize w1.alloc (.cells #[.int .i64 0, .int .i64 0, .int .i64 (20 * (10 + 8 * (1 + y) + 4 * z)), .int .i64 (1 + y), .int .i64 0, .int .i64 (1 + z), .int .i64 (-1), .bool false] 25) = W2 at HO7 HOB2 HB2 ⊢
  clear HB1 HOB1 HG7
  have c3 := HO7.out.cell 3
  have c5 := HO7.out.cell 5
  have e0 := HOB2.out.cell 0
  have e1 := HOB2.out.cell 1
  simp at c3 c5 e0 e1
  by_cases hshort : (n : Int) < 1 + y
  · go_wp2_with fail
    refine (One17.one_any _ (HU.out.kept HB2.out)).mono ?_
    rintro e w8 ⟨rfl, hb8⟩
    have HE := Lib.hid (HB2.out.trans (hb8.mono HB2.out.size))
    clear hb8
    go_wp2
    go_ret
    exact ⟨rfl, HE.out⟩
  · have hlong : 1 + y ≤ (n : Int) := by omega
    have hd : decide ((n : Int) < 1 + y) = false := decide_eq_false hshort
    have hb0 : 0 < (bitsOf vs).length := by rw [HBL.out]; omega
    obtain ⟨b0, hb0'⟩ : ∃ b0, (bitsOf vs)[0]? = some b0 := ⟨_, List.getElem?_eq_getElem hb0⟩
    have HB0 := Lib.hid hb0'
    clear hshort hb0 hb0'
    go_upto_region 6 with (fail)
    try rw [hd]
    clear c3 c5 e0 e1
    have E2 : ∀ x : Kin W2, x.world.cell? ⟨g5, 2, none⟩ = some (.int .i64 a2) := fun x => (HOB2.out.kept x.below).cell 2
    go_wp2_with fail
    refine wp_region_kin (by kernel_rfl) (by kernel_rfl) ?_
    repeat (go_big_quiet_step (fail))
    refine wpQuiet_nil ?_
    intro _ hw'
    obtain ⟨kx, hw''⟩ := hw'
    subst hw''
    obtain ⟨st, hst⟩ : ∃ st, (Go.bits BinOp.and IntKind.i64 (a2 / 4) 1 == 1) = st := ⟨_, rfl⟩
    rw [hst]
    have HO7x := Lib.hid (HO7.out.kept kx.below)
    have HOBx := Lib.hid (HOB2.out.kept kx.below)
    have HBx := Lib.hid (HB2.out.trans (kx.below.mono HB2.out.size))
    clear E2 hst HO7 HOB2 HB2
    generalize kx.world = W3 at HO7x HOBx HBx ⊢
    clear kx
    obtain ⟨l, hLd⟩ : ∃ l, 20 * (10 + 8 * (1 + y) + 4 * z) = l := ⟨_, rfl⟩
    have hl0 : 0 ≤ l ∧ l ≤ 10000 := by omega
    have hll : 200 + 80 * cd ≤ l := by omega
    rw [hLd] at HO7x ⊢
    clear hLd
    have HNW := Lib.hid (fun W => anew_any 0 0 l (1 + y) 0 (1 + z) (-1) false W (by omega) (by omega))
    obtain ⟨fl, HFL⟩ : ∃ fl, Hid ((Go.bits BinOp.and IntKind.i64 (a2 / 8) 1 == 1) = fl) := ⟨_, Lib.hid rfl⟩
    obtain ⟨S, hS0, hS1, hS2, hS3⟩ := first_seen (bs := bitsOf vs) (W := 1 + y) (M := 1 + z) (c := cd) (mv := ap - 5) fl st line hline (by omega) hcd0 hcd1 HB0.out (by omega) (by omega)
    have HS2 := Lib.hid hS2
    have HS3 := Lib.hid hS3
    clear hS2 hS3
    have HS7 : Hid (Obj1 W3 g7 25 #[.int .i64 0, .int .i64 0, .int .i64 l, .int .i64 (1 + y), .int .i64 0, .int .i64 (1 + z), .int .i64 (-1), .bool false]) := Lib.hid HO7x.out
    have T0 := HO7x.out.cell 0
    have T1 := HO7x.out.cell 1
    have T2 := HO7x.out.cell 2
    have T3 := HO7x.out.cell 3
    have T4 := HO7x.out.cell 4
    have T5 := HO7x.out.cell 5
    have T6 := HO7x.out.cell 6
    have T7 := HO7x.out.cell 7
    simp at T0 T1 T2 T3 T4 T5 T6 T7
    go_wp2_with fail
    refine (HNW.out _).mono ?_
    rintro e w4 ⟨g12, rfl, hg12, HWT, HB4⟩
    clear T0 T1 T2 T3 T4 T5 T6 T7 HNW HS7
    have HG12 : Hid (g7 < g12 ∧ g5 < g12 ∧ w.heap.size ≤ g12) := Lib.hid ⟨Nat.lt_of_lt_of_le HO7x.out.lt hg12, Nat.lt_of_lt_of_le HOBx.out.lt hg12, Nat.le_trans HBx.out.size hg12⟩
    have HENV : Hid (Env w g7 g5 l y z a0 a1 a2 a3 w4) := Lib.hid ⟨HO7x.out.kept HB4.out, HOBx.out.kept HB4.out, HBx.out.trans (HB4.out.mono HBx.out.size)⟩
    clear HO7x HOBx HBx HB4 hg12
    go_wp2_with fail
    go_loopw [13, 14] (fun sn i wx => ∃ j : Nat, (j : Int) ≤ l ∧ i = .int .i64 j ∧ sn = .int .i64 (if S < j then S else -1) ∧ Wt wx g12 (80 * (1 + z)) (if S < j then S + 1 else 0) ∧ Env w g7 g5 l y z a0 a1 a2 a3 wx) (fun _ i _ => (l + 1).toNat - (intOf i).toNat)
    case atStart => exact ⟨0, by omega, rfl, by rw [if_neg (by omega)], by rw [if_neg (by omega)]; exact HWT.out, HENV.out⟩
    case round =>
      clear HWT HENV
      obtain ⟨j, hjl, rfl, rfl, hwt, henv⟩ := hrel
      have HW := Lib.hid hwt
      have HE := Lib.hid henv
      clear hwt henv
      have cl := HE.out.1.cell 2
      simp at cl
      obtain ⟨sv, HSV⟩ : ∃ sv, Hid ((if S < (j : Int) then S else -1) = sv) := ⟨_, Lib.hid rfl⟩
      rw [HSV.out]
      by_cases hlt : (j : Int) < l
      · have hwq : IntKind.i64.wrap ((j : Int) + (ap - 5)) = (j : Int) + (ap - 5) := IntWalk.i64_in _ (by omega)
        obtain ⟨q, hq⟩ : ∃ q, (j : Int) + (ap - 5) = q := ⟨_, rfl⟩
        rw [hq] at hwq
        have hq0 : -100000 ≤ q ∧ q ≤ 100000 := by omega
        go_upto_region 13 with (fail)
        clear cl
        have d0 : Below wr.heap.size wr wr.drew := bel_drew wr
        obtain ⟨S0, S1, S2, S3, S4, S5, S6, S7⟩ := o8 0 0 l (1 + y) 0 (1 + z) (-1) false (HE.out.1.kept d0)
        obtain ⟨u, HUD⟩ : ∃ u, Hid (wdF false (bitsOf vs) (atN 0 (1 + y) (1 + z) cd q) (atT 0 (1 + y) (1 + z) cd q) = u) := ⟨_, Lib.hid rfl⟩
        obtain ⟨v, HVD⟩ : ∃ v, Hid (wdF true (bitsOf vs) (atN 0 (1 + y) (1 + z) cd q) (atT 0 (1 + y) (1 + z) cd q) = v) := ⟨_, Lib.hid rfl⟩
        have hu16 : u < 16 := by rw [← HUD.out]; exact wdF_lt _ _ _ _
        have hv16 : v < 16 := by rw [← HVD.out]; exact wdF_lt _ _ _ _
        obtain ⟨R, HRD⟩ : ∃ R, Hid (lpF (bitsOf vs) (1 + y) (1 + z) cd q = R) := ⟨_, Lib.hid rfl⟩
        have hR16 : R < 16 := by rw [← HRD.out]; exact lp_lt _ _ _ _ _
        have HUV : Hid (u ||| v = R) := Lib.hid (by rw [← HUD.out, ← HVD.out, ← HRD.out]; rfl)
        have HBX : Hid (∀ x : Kin wr.drew, Below w.heap.size w x.world) := Lib.hid (fun x => (HE.out.kept (d0.trans x.below)).2.2)
        have HCX := Lib.hid (fun x : Kin wr.drew => words_any 0 0 l (1 + y) 0 (1 + z) (-1) false cd q false A n c vs u x.world (by omega) (by omega) (by omega) (by omega) (by omega) (by omega) (HL.out.kept (HBX.out x)) HX.out hn (HU.out.kept (HBX.out x)) HUD.out)
        have HCY := Lib.hid (fun x : Kin wr.drew => words_any 0 0 l (1 + y) 0 (1 + z) (-1) false cd q true A n c vs v x.world (by omega) (by omega) (by omega) (by omega) (by omega) (by omega) (HL.out.kept (HBX.out x)) HX.out hn (HU.out.kept (HBX.out x)) HVD.out)
        have HOR : Hid (∀ (W : World) (g : Nat), Lst W (some ⟨g, 0, none⟩) 2 [.int .u8 (u : Int), .int .u8 (v : Int)] → Calls Tryd.prog 15 #[.slice (some ⟨g, 0, none⟩) 2 2] W fun e w' => e = .returned (.int .u8 (R : Int)) ∧ W = w') := Lib.hid (fun W g hg => by
          have h := or_any (some ⟨g, 0, none⟩) 2 2 [u, v] W hg (by intro x hx; simp at hx; omega) (by omega)
          rw [show orL [u, v] = u ||| v by simp [orL], orr HUV.out hR16] at h
          exact h)
        have HLN : Hid (∀ p, p = (j : Int) → lnF fl st line (lpF (bitsOf vs) (1 + y) (1 + z) cd (p + (ap - 5))) = lnF fl st line R) := Lib.hid (fun p hp => by rw [hp, hq, HRD.out])
        have hln : lnF fl st line R < 256 := by rw [← HRD.out]; exact lnF_lt fl st line hline _ _ _ _ _
        have HNO : Hid ((j : Int) < S → cnt (lnF fl st line R) 4 < 2) := Lib.hid (fun h => by rw [← HLN.out j rfl]; exact HS2.out j h)
        have HYE : Hid ((j : Int) = S → 2 ≤ cnt (lnF fl st line R) 4) := Lib.hid (fun h => by rw [← HLN.out S h.symm]; exact HS3.out)
        clear hq HUD HVD HUV HRD HLN
        go_wp2_with fail
        refine wp_region_specL 13 [.d (.agg #[.int .i64 0, .int .i64 0, .int .i64 l, .int .i64 (1 + y), .int .i64 0, .int .i64 (1 + z), .int .i64 (-1), .bool false]), .d (.int .i64 cd), .d (.slice A n c), .d (.int .i64 q), .d (.int .u8 u), .d (.agg #[.int .i64 0, .int .i64 0, .int .i64 l, .int .i64 (1 + y), .int .i64 0, .int .i64 (1 + z), .int .i64 (-1), .bool false]), .d (.int .i64 cd), .d (.slice A n c), .d (.int .i64 q), .d (.int .u8 v), .g (NewL wr.heap.size 2 [.int .u8 (u : Int), .int .u8 (v : Int)]), .d (.int .u8 R), .d (.int .u8 R)] (by kernel_rfl) (by kernel_rfl) ?_
        refine spec_d rfl (fun x _ => gives_run (by go_simp)) ?_
        try simp only [Act.put, List.getElem_toArray, List.getElem_cons_succ, List.getElem_cons_zero, List.setIfInBounds_toArray, List.set_cons_zero, List.set_cons_succ]
        refine spec_d rfl (fun x _ => gives_run (by go_simp)) ?_
        try simp only [Act.put, List.getElem_toArray, List.getElem_cons_succ, List.getElem_cons_zero, List.setIfInBounds_toArray, List.set_cons_zero, List.set_cons_succ]
        refine spec_d rfl (fun x _ => gives_run (by go_simp)) ?_
        try simp only [Act.put, List.getElem_toArray, List.getElem_cons_succ, List.getElem_cons_zero, List.setIfInBounds_toArray, List.set_cons_zero, List.set_cons_succ]
        refine spec_d rfl (fun x _ => gives_run (by go_simp)) ?_
        try simp only [Act.put, List.getElem_toArray, List.getElem_cons_succ, List.getElem_cons_zero, List.setIfInBounds_toArray, List.set_cons_zero, List.set_cons_succ]
        refine spec_d rfl (fun x _ => gives_det (by go_simp) (HCX.out x)) ?_
        try simp only [Act.put, List.getElem_toArray, List.getElem_cons_succ, List.getElem_cons_zero, List.setIfInBounds_toArray, List.set_cons_zero, List.set_cons_succ]
        refine spec_d rfl (fun x _ => gives_run (by go_simp)) ?_
        try simp only [Act.put, List.getElem_toArray, List.getElem_cons_succ, List.getElem_cons_zero, List.setIfInBounds_toArray, List.set_cons_zero, List.set_cons_succ]
        refine spec_d rfl (fun x _ => gives_run (by go_simp)) ?_
        try simp only [Act.put, List.getElem_toArray, List.getElem_cons_succ, List.getElem_cons_zero, List.setIfInBounds_toArray, List.set_cons_zero, List.set_cons_succ]
        refine spec_d rfl (fun x _ => gives_run (by go_simp)) ?_
        try simp only [Act.put, List.getElem_toArray, List.getElem_cons_succ, List.getElem_cons_zero, List.setIfInBounds_toArray, List.set_cons_zero, List.set_cons_succ]
        refine spec_d rfl (fun x _ => gives_run (by go_simp)) ?_
        try simp only [Act.put, List.getElem_toArray, List.getElem_cons_succ, List.getElem_cons_zero, List.setIfInBounds_toArray, List.set_cons_zero, List.set_cons_succ]
        refine spec_d rfl (fun x _ => gives_det (by go_simp) (HCY.out x)) ?_
        try simp only [Act.put, List.getElem_toArray, List.getElem_cons_succ, List.getElem_cons_zero, List.setIfInBounds_toArray, List.set_cons_zero, List.set_cons_succ]
        refine spec_g (NewL.stable _ _ _) (NewL.ex _ 29 (Nat.le_refl _) rfl) rfl (fun x _ => gives_ok (by go_simp) (bel_new _ _) (NewL.new (T := 29) x.below.size rfl)) ?_
        rintro vg ⟨xg, gg, rfl, _, _⟩
        try simp only [Act.put, List.getElem_toArray, List.getElem_cons_succ, List.getElem_cons_zero, List.setIfInBounds_toArray, List.set_cons_zero, List.set_cons_succ]
        refine spec_d rfl (fun x hx => gives_det_same (by go_simp) (HOR.out x.world gg (NewL.at (hx _ (List.mem_singleton.2 rfl) (by kernel_rfl))).2)) ?_
        try simp only [Act.put, List.getElem_toArray, List.getElem_cons_succ, List.getElem_cons_zero, List.setIfInBounds_toArray, List.set_cons_zero, List.set_cons_succ]
        refine spec_d rfl (fun x _ => gives_run (by go_simp)) ?_
        try simp only [Act.put, List.getElem_toArray, List.getElem_cons_succ, List.getElem_cons_zero, List.setIfInBounds_toArray, List.set_cons_zero, List.set_cons_succ]
        refine spec_end (fun x hx => ?_)
        clear hx
        refine wpAny_done (by kernel_rfl) ?_ _
        have HEX := Lib.hid (HE.out.kept (d0.trans x.below))
        have HWX := Lib.hid (show Wt x.world g12 (80 * (1 + z)) (if S < j then S + 1 else 0) from HW.out.kept (d0.trans x.below))
        clear S0 S1 S2 S3 S4 S5 S6 S7 HCX HCY HOR HBX d0
        generalize x.world = wa at HEX HWX ⊢
        clear x
        have e2 := HEX.out.2.1.cell 2
        simp at e2
        go_upto_if 76 with (fail)
        rw [HFL.out]
        clear e2
        go_cut [16] from 77 to 80 (fun v wx => v = .int .u8 ((lnF fl st line R : Nat) : Int) ∧ wx = wa)
        case first =>
          cases fl
          · go_wp2
            go_meet
            exact ⟨rfl, rfl⟩
          · have HSE := Lib.hid (fun W => set_any R (line : Int) st W (by omega))
            go_wp2_with fail
            refine (HSE.out _).mono ?_
            rintro e w' ⟨rfl, rfl⟩
            go_wp2
            go_meet
            exact ⟨rfl, rfl⟩
        case rest =>
          obtain ⟨rfl, rfl⟩ := hcut
          generalize lnF fl st line R = LL at hln HNO HYE ⊢
          rcases (show (j : Int) < S ∨ (j : Int) = S ∨ S < (j : Int) by omega) with h | h | h
          · have HW0 := Lib.hid (show Wt wc g12 (80 * (1 + z)) 0 from by have := HWX.out; rwa [if_neg (show ¬ S < (j : Int) by omega)] at this)
            have HSN := Lib.hid (asee_no (p := j) HW0.out hln (.inr (.inr (.inr (HNO.out h)))))
            have HCL := Lib.hid (aclear_any true (by decide) HW0.out (by omega) (by omega) (by omega))
            have hif : sv = -1 := by rw [← HSV.out]; exact if_neg (by omega)
            rw [hif]
            clear hif
            go_wp2_with fail
            refine HSN.out.mono ?_
            rintro e w' ⟨rfl, rfl⟩
            go_wp2_with fail
            refine HCL.out.mono ?_
            rintro e w' ⟨rfl, rfl⟩
            go_wp2
            go_roundw
            case rel => exact ⟨j + 1, by omega, by go_num, by rw [if_neg (by omega)], by rw [if_neg (by omega)]; exact HW0.out, HEX.out⟩
            case measure => simp [intOf]; omega
          · have HYE2 := Lib.hid (HYE.out h)
            have HSVn := Lib.hid (show sv = -1 by rw [← HSV.out]; exact if_neg (by omega))
            clear HYE HNO HSV HS2 HS3
            obtain rfl : S = (j : Int) := h.symm
            clear h
            have HW0 := Lib.hid (show Wt wc g12 (80 * (1 + z)) 0 from by have := HWX.out; rwa [if_neg (show ¬ (j : Int) < (j : Int) by omega)] at this)
            have HSY := Lib.hid (asee_yes (p := j) HW0.out hln (by omega) (by omega) (by omega) HYE2.out)
            rw [HSVn.out]
            clear HSVn HYE2 HWX HW
            go_wp2_with fail
            refine HSY.out.mono ?_
            rintro e wd ⟨rfl, HQ, HR⟩
            have HED := Lib.hid (HEX.out.touch HR.out HG12.out.1 HG12.out.2.1 HG12.out.2.2)
            have HCL := Lib.hid (aclear_any false (decide_eq_false (by omega)) HQ.out (by omega) (by omega) (by omega))
            go_wp2_with fail
            refine HCL.out.mono ?_
            rintro e w' ⟨rfl, rfl⟩
            go_wp2
            go_roundw
            case rel => exact ⟨j + 1, by omega, by go_num, by rw [if_pos (by omega)], by rw [if_pos (by omega)]; exact HQ.out, HED.out⟩
            case measure => simp [intOf]; omega
          · have HW0 := Lib.hid (show Wt wc g12 (80 * (1 + z)) (S + 1) from by have := HWX.out; rwa [if_pos h] at this)
            have HSN := Lib.hid (asee_no (p := j) HW0.out hln (.inl (by omega)))
            have hif : sv = S := by rw [← HSV.out]; exact if_pos h
            have hS : 0 ≤ S := by omega
            rw [hif]
            clear hif
            go_wp2_with fail
            refine HSN.out.mono ?_
            rintro e w' ⟨rfl, rfl⟩
            go_wp2
            go_roundw
            case rel => exact ⟨j + 1, by omega, by go_num, by rw [if_pos (by omega)], by rw [if_pos (by omega)]; exact HW0.out, HEX.out⟩
            case measure => simp [intOf]; omega
      · have hjl' : l ≤ (j : Int) := by omega
        have HW0 := Lib.hid (show Wt wr g12 (80 * (1 + z)) (S + 1) from by have := HW.out; rwa [if_pos (show S < (j : Int) by omega)] at this)
        have hif : sv = S := by rw [← HSV.out]; exact if_pos (by omega)
        rw [hif]
        clear hif
        have HCD := Lib.hid (acand_any cd HW0.out (by omega) (by omega) (by omega))
        go_wp2_with fail
        refine HCD.out.mono ?_
        rintro e w' ⟨rfl, rfl⟩
        clear cl
        go_wp2_with fail
        go_loopw [17] (fun i wx => ∃ (k : Nat) (x : Kin wr), (k : Int) ≤ 1 + z ∧ i = .int .i64 k ∧ wx = x.world) (fun i _ => 5 - (intOf i).toNat)
        case atStart => exact ⟨0, Kin.me _, by omega, rfl, rfl⟩
        case round =>
          obtain ⟨k, x, hk, rfl, rfl⟩ := hrel
          obtain ⟨S0, S1, S2, S3, S4, S5, S6, S7⟩ := o8 0 0 l (1 + y) 0 (1 + z) (-1) false HE.out.1
          by_cases hk2 : (k : Int) < 1 + z
          · have HDC := Lib.hid (fun W => adecides_any 0 l (1 + y) 0 (1 + z) (-1) false k W (by omega) hk2 (by omega))
            go_wp2_with fail
            refine (Calls.kin _ (HDC.out _)).mono ?_
            rintro e w' ⟨rfl, x2, rfl⟩
            by_cases hkc : cd < (k : Int)
            · have h1 : S ≤ 30 + 80 * (k : Int) := by omega
              go_wp2
              go_roundw
              case rel => exact ⟨k + 1, x2, by omega, by go_num, rfl⟩
              case measure => simp [intOf]; omega
            · have h0 : (k : Int) ≤ cd := by omega
              have h1 : 30 + 80 * (k : Int) < S := by omega
              go_wp2
              go_roundw
              case rel => exact ⟨k + 1, x2, by omega, by go_num, rfl⟩
              case measure => simp [intOf]; omega
          · have hk3 : 1 + z ≤ (k : Int) := by omega
            have HF := Lib.hid (afirst_any (show Wt x.world g12 (80 * (1 + z)) (S + 1) from HW0.out.kept x.below) (by omega) (by omega))
            have hSS : S + 1 - 1 = S := by omega
            go_wp2_with fail
            refine HF.out.mono ?_
            rintro e w' ⟨rfl, rfl⟩
            rw [hSS]
            go_wp2_with fail
            refine (One17.one_any _ (HU.out.kept (HE.out.kept x.below).2.2)).mono ?_
            rintro e w8 ⟨rfl, hb8⟩
            have HEE := Lib.hid ((HE.out.kept x.below).2.2.trans (hb8.mono (HE.out.kept x.below).2.2.size))
            clear hb8
            go_wp2
            go_ret
            exact ⟨rfl, HEE.out⟩
abbrev sh2 : Sh := .ar 2 (.int .i64)
abbrev sh4 : Sh := .ar 4 (.int .i64)
theorem gUp : Tryd.prog.globalNamed "busbar/wires.upright" = some 0 := by kernel_rfl
theorem tUp : (Tryd.prog.globals[0]?).map (·.type) = some 38 := by kernel_rfl
theorem of_laid {W : World} (h : laidMetH Tryd.prog Rows.activeTellsRow.laid W) : Up W := by
  rw [MakeChecks.laidMetH_plain _ _ _ (by kernel_rfl)] at h
  obtain ⟨ps, ⟨g0, t0, cs0, f0, p0, q0, hg0, ht0, hv0, hd0, _, _⟩, _, _⟩ := h
  obtain rfl := Option.some.inj (gUp.symm.trans hg0)
  obtain rfl := Option.some.inj (tUp.symm.trans ht0)
  have e := exact_cells (sh := .ar 4 .bool) 10 rfl (by kernel_rfl) hd0 rfl
  obtain ⟨l0⟩ := cs0
  simp at e
  subst e
  exact ⟨by simpa using World.var?_cell hg0 hv0 0, by simpa using World.var?_cell hg0 hv0 1, by simpa using World.var?_cell hg0 hv0 2, by simpa using World.var?_cell hg0 hv0 3⟩
theorem walk (s : Array Value) (wA : Option Addr) (wn wc : Nat) (ws : List Int) (a : Array Value) (w : World) (hU : Up w) (rs : Reads w sh2 s.toList) (hl : Lst w wA wn (ws.map (Value.int .u8))) (hx : ∀ x ∈ ws, 0 ≤ x ∧ x ≤ 255) (hnc : wn ≤ wc) (hcm : wc ≤ maxLen) (ra : Reads w sh4 a.toList) :
    Calls Tryd.prog 7 #[.agg s, .slice wA wn wc, .agg a] w fun e w' => e = .returned (.bool true) ∧ Below w.heap.size w w' := by
  unfold maxLen at hcm
  obtain ⟨s0, s1, rfl, _, _⟩ := ar_two rs
  obtain ⟨a0, a1, a2, a3, rfl, _, _, _, _⟩ := ar_four ra
  obtain ⟨us, eu, hu⟩ := nats_in ws hx
  rw [eu] at hl
  exact go s0 s1 a0 a1 a2 a3 wA wn wc us w hl hu (by omega) hU

theorem door_met (os : Os) (args : Array Value) : laidMetH Tryd.prog Rows.activeTellsRow.laid ((World.doorLaid Tryd.prog 400 os).forCall (fun _ _ => 0) ⟨#[], args, []⟩).memory :=
  laidMetH_of_parts3 (fuel := 8) (laidMet_of_run' 8 (by kernel_rfl) (by kernel_rfl)) (by kernel_rfl) (by kernel_rfl)
set_option maxRecDepth 100000 in
theorem lifted (os : Os) (started : os.Started) (H : Type) (enc : TypeId × Value → H) :
    ReturnsInHanded {} Tryd.checked os 7 .any (fun w args => (Rows.activeTellsSpec.pre enc Tryd.prog Tryd.f7 [] false w args ∧ laidMetH Tryd.prog Rows.activeTellsRow.laid w) ∧ sizedMet enc Tryd.prog Tryd.f7 (OpenSpec.ofChange Rows.activeTellsSpec) false w args)
      (Rows.activeTellsSpec.post enc Tryd.prog Tryd.f7 false true false false) := by
  refine returnsInHanded_of_change_and (C := Tryd.checked) (X := fun w _ => laidMetH Tryd.prog Rows.activeTellsRow.laid w) (fun _ _ _ hh h => h.of_heap hh) own started (by kernel_rfl) Tryd.func7
    (ChangeSpec.witness_shaped (enc := enc) (C := Tryd.checked) (os := os) (X := fun w _ => laidMetH Tryd.prog Rows.activeTellsRow.laid w) false (World.doorLaid Tryd.prog 400 os) #[.agg #[.int .i64 0, .int .i64 0], .slice none 0 0, .agg #[.int .i64 0, .int .i64 0, .int .i64 0, .int .i64 0]] 8 rfl (World.shaped_of_RefB (by kernel_rfl) (by kernel_rfl)) (by kernel_rfl) (by kernel_rfl) (by kernel_rfl) (door_met os _)) ?_
  intro W base args ds gs before hval0 hW _ _ hL _
  have hval : ∀ (j : Nat) t v, Tryd.f7.params[j]? = some t → args[j]? = some v → Value.okWide Tryd.prog W .any base t v := hval0
  have hW' := hW
  obtain ⟨p, q, hA0, hV, rfl, hfz, hnd⟩ := hW
  have hA : DataW.TrodAll enc Tryd.prog W 0 (fun _ => true) true Tryd.f7.params.toList args.toList ds p := hA0
  rw [Tryd.params7] at hA hval
  obtain ⟨v0, vs0, d0, ds0, p0, q0, hargs, rfl, rfl, h0, r0⟩ := trodAll_cons hA
  obtain ⟨v1, vs1, d1, ds1, p1, q1, rfl, rfl, rfl, h1, r1⟩ := trodAll_cons r0
  obtain ⟨v2, vs2, d2, ds2, p2, q2, rfl, rfl, rfl, h2, r2⟩ := trodAll_cons r1
  obtain ⟨rfl, rfl, rfl⟩ := trodAll_nil r2
  obtain rfl : args = #[v0, v1, v2] := by cases args; simp_all
  obtain ⟨rfl, rfl⟩ := trodVars_none hV
  have k0 := h0
  have lt0 : ∀ x ∈ p0, x.block < W.heap.size := by obtain ⟨m, hm⟩ := k0; exact DataW.trod_lt m _ _ _ hm
  obtain ⟨s, rfl⟩ := okWide_agg (by first | exact .inl ⟨_, Tryd.underlying22⟩ | exact .inr ⟨_, _, Tryd.underlying22⟩) (hval 0 22 v0 rfl rfl)
  have rd0 := reads_cells (sh := sh2) 30 (by kernel_rfl) k0
  have k1 := h1
  have lt1 : ∀ x ∈ p1, x.block < W.heap.size := by obtain ⟨m, hm⟩ := k1; exact DataW.trod_lt m _ _ _ hm
  obtain ⟨wA, wn, wc, rfl⟩ := okWide_slice Tryd.underlying23 (hval 1 23 v1 rfl rfl)
  obtain ⟨w, l1, b1, cb1, cc1⟩ := lst_ints Tryd.underlying23 Tryd.underlying5 (by kernel_rfl) k1
  have k2 := h2
  have lt2 : ∀ x ∈ p2, x.block < W.heap.size := by obtain ⟨m, hm⟩ := k2; exact DataW.trod_lt m _ _ _ hm
  obtain ⟨a, rfl⟩ := okWide_agg (by first | exact .inl ⟨_, Tryd.underlying57⟩ | exact .inr ⟨_, _, Tryd.underlying57⟩) (hval 2 57 v2 rfl rfl)
  have rd2 := reads_cells (sh := sh4) 30 (by kernel_rfl) k2
  clear hA0 hval0
  refine (walk s wA wn wc w a W (of_laid hL) rd0 l1 (ints_u8 b1) cb1 cc1 rd2).mono fun e W' ⟨he, bel⟩ => ?_
  subst he
  exact ⟨_, rfl, _, _, _, [], _, [], hW', trodAll_mk1 (shut_bool Tryd.underlying4 _), (trodAll_cons_mk (Below.trod laidOut (by kernel_rfl) (of_decide_eq_true (by kernel_rfl)) k0 bel lt0) (trodAll_cons_mk (Below.trod laidOut (by kernel_rfl) (of_decide_eq_true (by kernel_rfl)) k1 bel lt1) (trodAll_cons_mk (Below.trod laidOut (by kernel_rfl) (of_decide_eq_true (by kernel_rfl)) k2 bel lt2) trodAll_mk0))), rfl, bel.frame _, fun h => by cases h⟩

theorem over : Rows.activeTellsRow.holds Tryd.pinned (OpenSpec.ofChange Rows.activeTellsSpec) :=
  OpenClaim.holds_of_wide 7 Tryd.f7 rfl rfl rfl rfl rfl rfl rfl ⟨rfl, rfl, rfl, rfl, rfl⟩ rfl rfl rfl rfl rfl (by kernel_rfl) Tryd.func7 (by kernel_rfl)
    (of_decide_eq_true (by kernel_rfl)) (by unfold Func.isWrapper; first | (rw [if_pos (by decide +kernel)]; kernel_rfl) | (rw [if_neg (by decide +kernel)]; exact ⟨rfl, rfl⟩))
    (fun os started H enc _ => lifted os started H enc)

/-- The card: what the row lists is tied to the program's text. -/
theorem proved : Rows.ActiveTellsCardSaid :=
  Claim7.holds_tied_plain_at .later [] [.data] true Rows.activeTellsCard.stood.harness false
    over (fun _ h => by cases h) (by kernel_rfl) (fun _ h => by cases h) activeTells_row_tie rfl ⟨rfl, rfl⟩ (by kernel_rfl) rfl
    (fun f fn hf hfn => by
      obtain rfl : f = 7 := Option.some.inj ((show Tryd.prog.funcNamed "busbar/busbarlaw17.ActiveTells" = some 7 by kernel_rfl).symm.trans hf) |>.symm
      obtain rfl : fn = Tryd.f7 := (Option.some.inj (Tryd.func7.symm.trans hfn)).symm
      exact ⟨by kernel_rfl, fun j t ht => by
        rw [Tryd.params7] at ht
        have hm : t ∈ [22, 23, 57] := by simpa using Array.mem_of_getElem? ht
        have hall : ([22, 23, 57].all fun u => !Tryd.prog.wantsStandIn u) = true := by kernel_rfl
        exact (show Tryd.prog.wantsStandIn t = false by simpa using List.all_eq_true.1 hall t hm)⟩)
    (by kernel_rfl)
end Go.Proofs.YtnbcegijncdmaaaDoor.lawActiveTells
