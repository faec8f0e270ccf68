/- A partner up to 4 ticks apart that drives what it should is never wrong; one that drives otherwise at some place where it is looked at, is: for every slot that is made, every words, and every such place; no condition but that the table of the lines is as the program's text lays it, which the card ties. -/
import Derived.RegionTactic
import Derived.IntWalk
import Derived.Deep.DeepCutAuto
import Derived.Deep.CutBlock
import Derived.Test.YtnbcegijncdmaaaDoorChkC
import Derived.Test.YtnbcegijncdmaaaDoorChkO
import Derived.Test.YtnbcegijncdmaaaDoorGatC
import Derived.Test.YtnbcegijncdmaaaDoorOne14
import Derived.Test.YtnbcegijncdmaaaDoorSh
import Derived.Test.YtnbcegijncdmaaaDoorShAr
import Derived.Test.YtnbcegijncdmaaaDoorPush
import Derived.Test.YtnbcegijncdmaaaDoorTie
import Derived.Test.YtnbcegijncdmaaaDoorCards
import Derived.Test.YtnbcegijncdmaaaDoorLaid
import Derived.LaidMore
import Derived.SevenTiedAt
import Derived.Stop.Joined
import Derived.Test.YtnbcegijncdmaaaDoorRows
import Derived.WalkKit
import Derived.ProofKit
import Derived.OpenShut
import Derived.ShutString
import Derived.ChangeOld
import Derived.Below
namespace Go.Proofs.YtnbcegijncdmaaaDoor.lawCheckFinds
open Go.ChangeShapes Go.WideShapes Go.ChangeAt Go.RowKit Base
open Go.ChangeMaps (open_string shut_string)
set_option linter.unusedVariables false
set_option linter.unusedSimpArgs false
theorem own : ownKnob Tryd.prog.godebug = none := by kernel_rfl
theorem laidOut : laidOutB Tryd.prog = true := by kernel_rfl
open Ly19 Ly18 Ly14 Ly7 Ly3 Ly2

/-- How many halves were looked at ahead of a place. -/
def nxt (W b p : Int) : Int := max 0 (min (16 * W) ((p - b + 4) / 10))
theorem nxt_no {W M c p n t m : Int} {yk : Bool} (hn : atN 0 W M c p = n) (ht : atT 0 W M c p = t) (hW : 0 ≤ W) (h0 : 0 ≤ c) (h1 : c < M) (h : LkR n t m yk false) : nxt W (40 + 80 * c) (p + 1) = nxt W (40 + 80 * c) p := by
  unfold nxt
  have key : n < 0 ∨ (t ≠ 5 ∧ t ≠ 15) := by
    rcases h with ⟨h, _⟩ | ⟨_, h, _⟩ | ⟨_, _, _, _, h⟩ | ⟨_, _, _, _, h⟩
    · exact .inl h
    · exact .inr h
    · cases h
    · cases h
  unfold atN at hn
  unfold atT at ht
  split at hn
  · rename_i e
    rw [if_pos e] at ht
    omega
  · rename_i e
    have : p < 40 + 80 * c ∨ W ≤ (p - (40 + 80 * c)) / 160 := by omega
    omega
theorem nxt_yes {W M c p n t m : Int} {yk : Bool} (hn : atN 0 W M c p = n) (ht : atT 0 W M c p = t) (h0 : 0 ≤ c) (h1 : c < M) (h : LkR n t m yk true) : nxt W (40 + 80 * c) (p + 1) = nxt W (40 + 80 * c) p + 1 ∧ nxt W (40 + 80 * c) p = 2 * n + (if yk then 1 else 0) ∧ 0 ≤ n ∧ n < 8 * W ∧ (t = if yk then 15 else 5) ∧ p - (40 + 80 * c) = 20 * n + t := by
  unfold nxt
  have key : 0 ≤ n ∧ (t = if yk then 15 else 5) := by
    rcases h with ⟨_, _, _, h⟩ | ⟨_, _, _, _, h⟩ | ⟨h, h', _, h'', _⟩ | ⟨h, h', _, h'', _⟩
    · cases h
    · cases h
    · subst h''; exact ⟨h, h'⟩
    · subst h''; exact ⟨h, h'⟩
  obtain ⟨k0, k1⟩ := key
  obtain ⟨_, _, _, h4, h5, h6, h7⟩ := at_inv hn ht k0
  cases yk
  · simp at k1 ⊢; omega
  · simp at k1 ⊢; omega
theorem wd_near4 {W M c p d n t m : Int} {y yk : Bool} {bs : List Bool} (hn : atN 0 W M c p = n) (ht : atT 0 W M c p = t) (h0 : 0 ≤ c) (h1 : c < M) (h : LkR n t m yk true) (d0 : -4 ≤ d) (d1 : d ≤ 4) (hb : 8 * W ≤ bs.length) :
    ∃ b : Bool, wdF y bs n t = driveF y b ∧ wdF y bs (atN 0 W M c (p + d)) (atT 0 W M c (p + d)) = driveF y b := by
  obtain ⟨_, _, k0, k1, k2, k3⟩ := nxt_yes hn ht h0 h1 h
  obtain ⟨q, rfl⟩ : ∃ q : Nat, n = q := ⟨n.toNat, by omega⟩
  have hq : q < bs.length := by omega
  have ht' : 0 ≤ t ∧ t < 20 := by cases yk <;> simp at k2 <;> omega
  have e : (p + d - (40 + 80 * c)) = 20 * q + (t + d) := by omega
  have htd : 0 ≤ t + d ∧ t + d < 20 := by cases yk <;> simp at k2 <;> omega
  obtain ⟨e1, e2⟩ := at_yes (k := 0) (wo := W) (mn := M) (c := c) (p := p + d) ⟨rfl, h0, h1, by omega, by rw [e]; omega⟩
  rw [e] at e1 e2
  rw [e1, e2, show (20 * (q : Int) + (t + d)) / 20 = (q : Int) by omega, show (20 * (q : Int) + (t + d)) % 20 = t + d by omega]
  rw [wdF_in (List.getElem?_eq_getElem hq), wdF_in (List.getElem?_eq_getElem hq)]
  cases yk
  · simp at k2
    exact ⟨bs[q], by rw [Ly1.lvl_lo (by omega) (by omega)], by rw [Ly1.lvl_lo (by omega) (by omega)]⟩
  · simp at k2
    exact ⟨!bs[q], by rw [Ly1.lvl_hi (by omega) (by omega)], by rw [Ly1.lvl_hi (by omega) (by omega)]⟩
theorem ok_same : ∀ y b : Bool, okB y (driveF y b) (driveF y b) = true := by decide
theorem bad_zero : ∀ y b : Bool, okB y 0 (driveF y b) = false := by decide
theorem bad_both : ∀ y b : Bool, okB y (pulseF y) (driveF y b) = false := by decide
/-- The other line. -/
def othF (y b : Bool) : Nat := pulseF y &&& (255 - driveF y b)
theorem bad_oth : ∀ y b : Bool, okB y (othF y b) (driveF y b) = false := by decide
theorem andnot : ∀ y b : Bool, Go.bits BinOp.andNot IntKind.u8 (pulseF y : Int) (driveF y b : Int) = (othF y b : Int) := by decide +kernel
theorem oth_lt : ∀ y b : Bool, othF y b < 256 := by decide
theorem pf_lt : ∀ y : Bool, pulseF y < 256 := by decide
theorem df_lt : ∀ y b : Bool, driveF y b < 256 := by decide
def Env (w : World) (g7 g8 g5 : Nat) (l y z cd : Int) (A : Option Addr) (n c : Nat) (a0 a1 a2 a3 : Int) (wx : World) : Prop :=
  Obj1 wx g7 25 #[.int .i64 0, .int .i64 0, .int .i64 l, .int .i64 (1 + y), .int .i64 0, .int .i64 (1 + z), .int .i64 (-1), .bool false] ∧ Obj1 wx g8 72 #[.bool true, .int .i64 cd, .slice A n c, .bool false] ∧ Obj1 wx g5 57 #[.int .i64 a0, .int .i64 a1, .int .i64 a2, .int .i64 a3] ∧ Below w.heap.size w wx
theorem Env.kept {w wx w' : World} {g7 g8 g5 n c : Nat} {l y z cd a0 a1 a2 a3 : Int} {A : Option Addr} (h : Env w g7 g8 g5 l y z cd A n c a0 a1 a2 a3 wx) (hb : Below wx.heap.size wx w') : Env w g7 g8 g5 l y z cd A n c a0 a1 a2 a3 w' :=
  ⟨h.1.kept hb, h.2.1.kept hb, h.2.2.1.kept hb, h.2.2.2.trans (hb.mono h.2.2.2.size)⟩
theorem Env.touch {w wx w' : World} {g7 g8 g5 n c g : Nat} {l y z cd a0 a1 a2 a3 : Int} {A : Option Addr} (h : Env w g7 g8 g5 l y z cd A n c a0 a1 a2 a3 wx) (hb : Wrote g wx w') (h7 : g7 < g) (h8 : g8 < g) (h5 : g5 < g) (hw : w.heap.size ≤ g) : Env w g7 g8 g5 l y z cd A n c a0 a1 a2 a3 w' :=
  ⟨h.1.touch hb (by omega), h.2.1.touch hb (by omega), h.2.2.1.touch hb (by omega), h.2.2.2.trans (hb.below hw h.2.2.2.size)⟩
set_option maxRecDepth 100000 in
set_option maxHeartbeats 8000000 in
theorem go (s0 s1 a0 a1 a2 a3 : Int) (A : Option Addr) (n c : Nat) (vs : List Nat) (w : World) (hl : Lst w A n (vs.map fun (x : Nat) => Value.int .u8 x)) (hx : ∀ x ∈ vs, x < 256) (hn : n ≤ 9223372036854775807) (hU : Up w) :
    Calls Tryd.prog 12 #[.agg #[.int .i64 s0, .int .i64 s1], .slice A n c, .agg #[.int .i64 a0, .int .i64 a1, .int .i64 a2, .int .i64 a3]] w fun e w' => e = .returned (.bool true) ∧ Below w.heap.size w w' := by
  obtain ⟨y, y0, y1', hy'⟩ := and_mask s0 7 (by omega)
  have hy : Go.bits BinOp.and IntKind.i64 s0 7 = y := hy'
  have y1 : y ≤ 7 := y1'
  obtain ⟨z, z0, z1', hz'⟩ := and_mask s1 3 (by omega)
  have hz : Go.bits BinOp.and IntKind.i64 s1 3 = z := hz'
  have z1 : z ≤ 3 := z1'
  obtain ⟨r1, r10, r11', hr1'⟩ := and_mask a0 255 (by omega)
  have hr1 : Go.bits BinOp.and IntKind.i64 a0 255 = r1 := hr1'
  have r11 : r1 ≤ 255 := r11'
  obtain ⟨r2, r20, r21', hr2'⟩ := and_mask a1 255 (by omega)
  have hr2 : Go.bits BinOp.and IntKind.i64 a1 255 = r2 := hr2'
  have r21 : r2 ≤ 255 := r21'
  obtain ⟨r3, r30, r31', hr3'⟩ := and_mask a3 65535 (by omega)
  have hr3 : Go.bits BinOp.and IntKind.i64 a3 65535 = r3 := hr3'
  have r31 : r3 ≤ 65535 := r31'
  obtain ⟨sw, sw0, sw1', hsw'⟩ := and_mask (a2 / 2) 3 (by omega)
  have hsw : Go.bits BinOp.and IntKind.i64 (a2 / 2) 3 = sw := hsw'
  have sw1 : sw ≤ 3 := sw1'
  clear y1' hy' z1' hz' r11' hr1' r21' hr2' r31' hr3' sw1' hsw'
  obtain ⟨cd, hcd⟩ : ∃ cd, r1 % (1 + z) = cd := ⟨_, rfl⟩
  have hcd0 : 0 ≤ cd := by rw [← hcd]; exact Int.emod_nonneg _ (by omega)
  have hcd1 : cd < 1 + z := by rw [← hcd]; exact Int.emod_lt_of_pos _ (by omega)
  have htm : r1.tmod (1 + z) = cd := by rw [Int.tmod_eq_emod_of_nonneg r10]; exact hcd
  have hwcd : IntKind.i64.wrap cd = cd := IntWalk.i64_in _ (by omega)
  obtain ⟨ap, hap⟩ : ∃ ap, r2 % 9 = ap := ⟨_, rfl⟩
  have hap0 : 0 ≤ ap ∧ ap ≤ 8 := by omega
  have htm2 : r2.tmod 9 = ap := by rw [Int.tmod_eq_emod_of_nonneg r20]; exact hap
  have hwap : IntKind.i64.wrap ap = ap := IntWalk.i64_in _ (by omega)
  have hwap2 : IntKind.i64.wrap (ap - 4) = ap - 4 := IntWalk.i64_in _ (by omega)
  obtain ⟨K, hK⟩ : ∃ K, r3 % (16 * (1 + y)) = K := ⟨_, rfl⟩
  have hK0 : 0 ≤ K := by rw [← hK]; exact Int.emod_nonneg _ (by omega)
  have hK1 : K < 16 * (1 + y) := by rw [← hK]; exact Int.emod_lt_of_pos _ (by omega)
  have htm3 : r3.tmod (16 * (1 + y)) = K := by rw [Int.tmod_eq_emod_of_nonneg r30]; exact hK
  have hwK : IntKind.i64.wrap K = K := IntWalk.i64_in _ (by omega)
  have hwK1 : IntKind.i64.wrap (K + 1) = K + 1 := IntWalk.i64_in _ (by omega)
  have hw16 : IntKind.i64.wrap (16 * (1 + y)) = 16 * (1 + y) := IntWalk.i64_in _ (by omega)
  have hz10 : (1 + z == 0) = false := by simp; omega
  have hz1n : ¬ (1 + z = 0) := by omega
  have hy1n : ¬ (16 * (1 + y) = 0) := by omega
  have HMD := Lib.hid (fun W => made_any s0 s1 y z W hy hz y0 y1 z0 z1)
  have HL := Lib.hid hl
  have HX := Lib.hid hx
  have HU := Lib.hid hU
  have HBL : Hid ((bitsOf vs).length = 8 * n) := Lib.hid (by rw [bitsOf_len]; have := hl.1; simp at this; rw [this])
  clear hcd hap hK hl hx hU hy hz
  obtain ⟨WB, HWB⟩ : ∃ W, W = (w.alloc (.cells #[.int .i64 s0, .int .i64 s1] 22)).alloc (.cells #[.int .i64 a0, .int .i64 a1, .int .i64 a2, .int .i64 a3] 57) := ⟨_, rfl⟩
  have HOB : Hid (Obj1 WB (w.heap.size + 1) 57 #[.int .i64 a0, .int .i64 a1, .int .i64 a2, .int .i64 a3]) := Lib.hid (by
    have := Obj1.new (w.alloc (.cells #[.int .i64 s0, .int .i64 s1] 22)) 57 #[.int .i64 a0, .int .i64 a1, .int .i64 a2, .int .i64 a3]
    rw [alloc_size] at this
    rw [HWB]
    exact this)
  have HBB : Hid (Below w.heap.size w WB) := Lib.hid (by rw [HWB]; exact bel2 w _ _)
  obtain ⟨g5, HG5⟩ : ∃ g, Hid (w.heap.size + 1 = g) := ⟨_, Lib.hid rfl⟩
  go_enter Tryd.func12, Tryd.ntmps12
  go_upto_region 1 with (fail)
  have HOA : Obj1 WB w.heap.size 22 #[.int .i64 s0, .int .i64 s1] := by rw [HWB]; exact (Obj1.new w 22 _).alloc _
  have k0 : WB.cell? ⟨w.heap.size, 0, none⟩ = some (.int .i64 s0) := HOA.cell 0
  have k1 : WB.cell? ⟨w.heap.size, 1, none⟩ = some (.int .i64 s1) := HOA.cell 1
  rw [← HWB]
  clear HWB HOA
  go_wp2_with fail
  refine (HMD.out _).mono ?_
  rintro e w1 ⟨rfl, hb1⟩
  clear k0 k1
  have HB1 := Lib.hid (HBB.out.trans (hb1.mono HBB.out.size))
  have HOB1 := Lib.hid (HOB.out.kept hb1)
  clear hb1 HOB HBB HMD
  go_upto_region 2 with (fail)
  obtain ⟨g7, HG7⟩ : ∃ g, Hid (w1.heap.size = g) := ⟨_, Lib.hid rfl⟩
  have HO7 : Hid (Obj1 (w1.alloc (.cells #[.int .i64 0, .int .i64 0, .int .i64 (20 * (10 + 8 * (1 + y) + 4 * z)), .int .i64 (1 + y), .int .i64 0, .int .i64 (1 + z), .int .i64 (-1), .bool false] 25)) g7 25 #[.int .i64 0, .int .i64 0, .int .i64 (20 * (10 + 8 * (1 + y) + 4 * z)), .int .i64 (1 + y), .int .i64 0, .int .i64 (1 + z), .int .i64 (-1), .bool false]) := Lib.hid (by rw [← HG7.out]; exact Obj1.new _ _ _)
  have HOB2 := Lib.hid (HOB1.out.alloc (.cells #[.int .i64 0, .int .i64 0, .int .i64 (20 * (10 + 8 * (1 + y) + 4 * z)), .int .i64 (1 + y), .int .i64 0, .int .i64 (1 + z), .int .i64 (-1), .bool false] 25))
  have HB2 := Lib.hid (HB1.out.alloc HB1.out.size (.cells #[.int .i64 0, .int .i64 0, .int .i64 (20 * (10 + 8 * (1 + y) + 4 * z)), .int .i64 (1 + y), .int .i64 0, .int .i64 (1 + z), .int .i64 (-1), .bool false] 25))
  rw [HG5.out] at HOB2 ⊢
  rw [HG7.out]
  generalize w1.alloc (.cells #[.int .i64 0, .int .i64 0, .int .i64 (20 * (10 + 8 * (1 + y) + 4 * z)), .int .i64 (1 + y), .int .i64 0, .int .i64 (1 + z), .int .i64 (-1), .bool false] 25) = W2 at HO7 HOB2 HB2 ⊢
  clear HB1 HOB1 HG7
  have c3 := HO7.out.cell 3
  have c5 := HO7.out.cell 5
  have e0 := HOB2.out.cell 0
  simp at c3 c5 e0
  by_cases hshort : (n : Int) < 1 + y
  · go_wp2_with fail
    refine (Ly19.one_any _ (One14.gl_up (HU.out.kept HB2.out))).mono ?_
    rintro e w8 ⟨rfl, hb8⟩
    have HE := Lib.hid (HB2.out.trans (hb8.mono HB2.out.size))
    clear hb8
    go_wp2
    go_ret
    exact ⟨rfl, HE.out⟩
  · have hlong : 1 + y ≤ (n : Int) := by omega
    have hbits : (8 * (1 + y) : Int) ≤ ((bitsOf vs).length : Int) := by rw [HBL.out]; omega
    have HBITS := Lib.hid hbits
    clear hshort hbits
    go_upto_region 5 with (fail)
    clear c3 c5 e0
    obtain ⟨g8, HG8⟩ : ∃ g, Hid (W2.heap.size = g) := ⟨_, Lib.hid rfl⟩
    have HO8 : Hid (Obj1 (W2.alloc (.cells #[.bool true, .int .i64 cd, .slice A n c, .bool false] 72)) g8 72 #[.bool true, .int .i64 cd, .slice A n c, .bool false]) := Lib.hid (by rw [← HG8.out]; exact Obj1.new _ _ _)
    have HO73 := Lib.hid (HO7.out.alloc (.cells #[.bool true, .int .i64 cd, .slice A n c, .bool false] 72))
    have HOB3 := Lib.hid (HOB2.out.alloc (.cells #[.bool true, .int .i64 cd, .slice A n c, .bool false] 72))
    have HB3 := Lib.hid (HB2.out.alloc HB2.out.size (.cells #[.bool true, .int .i64 cd, .slice A n c, .bool false] 72))
    rw [HG8.out]
    generalize W2.alloc (.cells #[.bool true, .int .i64 cd, .slice A n c, .bool false] 72) = W3 at HO8 HO73 HOB3 HB3 ⊢
    clear HO7 HOB2 HB2 HG8
    have e1 := HOB3.out.cell 1
    have e2 := HOB3.out.cell 2
    simp at e1 e2
    go_upto_region 7 with (fail)
    obtain ⟨yy, hyy⟩ : ∃ yy, (Go.bits BinOp.and IntKind.i64 a2 1 == 1) = yy := ⟨_, rfl⟩
    rw [hyy]
    clear hyy e1 e2
    go_wp2_with fail
    refine (cnew_any _).mono ?_
    rintro e w4 ⟨rfl, HC1, HB4⟩
    obtain ⟨g11, HG11⟩ : ∃ g, Hid (W3.heap.size = g) := ⟨_, Lib.hid rfl⟩
    have H11 : Hid (g7 < g11 ∧ g8 < g11 ∧ g5 < g11 ∧ w.heap.size ≤ g11) := Lib.hid (by rw [← HG11.out]; exact ⟨HO73.out.lt, HO8.out.lt, HOB3.out.lt, HB3.out.size⟩)
    rw [HG11.out] at HC1 ⊢
    go_wp2_with fail
    refine (cnew_any _).mono ?_
    rintro e w5 ⟨rfl, HC2, HB5⟩
    obtain ⟨g12, HG12⟩ : ∃ g, Hid (w4.heap.size = g) := ⟨_, Lib.hid rfl⟩
    have H12 : Hid (g11 < g12) := Lib.hid (by rw [← HG12.out]; exact HC1.out.lt)
    rw [HG12.out] at HC2 ⊢
    have HC15 := Lib.hid (HC1.out.kept HB5.out)
    obtain ⟨l, hLd⟩ : ∃ l, 20 * (10 + 8 * (1 + y) + 4 * z) = l := ⟨_, rfl⟩
    have hl0 : 0 ≤ l ∧ l ≤ 10000 := by omega
    have hll : 40 + 80 * cd + 160 * (1 + y) ≤ l - 40 := by omega
    have hwl : IntKind.i64.wrap (l - 10) = l - 10 := IntWalk.i64_in _ (by omega)
    rw [hLd] at HO73 ⊢
    clear hLd
    have HENV : Hid (Env w g7 g8 g5 l y z cd A n c a0 a1 a2 a3 w5) := Lib.hid ⟨(HO73.out.kept HB4.out).kept HB5.out, (HO8.out.kept HB4.out).kept HB5.out, (HOB3.out.kept HB4.out).kept HB5.out, (HB3.out.trans (HB4.out.mono HB3.out.size)).trans (HB5.out.mono (Nat.le_trans HB3.out.size HB4.out.size))⟩
    clear HC1 HB4 HB5 HO73 HO8 HOB3 HB3 HG11 HG12
    have e3 := HENV.out.2.2.1.cell 3
    have c3 := HENV.out.1.cell 3
    simp at e3 c3
    go_wp2_with fail
    clear e3 c3
    have HN10 : Hid (nxt (1 + y) (40 + 80 * cd) 10 = 0) := Lib.hid (by unfold nxt; omega)
    have HNL : Hid (∀ p, l - 10 ≤ p → nxt (1 + y) (40 + 80 * cd) p = 16 * (1 + y)) := Lib.hid (fun p hp => by unfold nxt; omega)
    have HNB : Hid (∀ p, 0 ≤ nxt (1 + y) (40 + 80 * cd) p ∧ nxt (1 + y) (40 + 80 * cd) p ≤ 16 * (1 + y)) := Lib.hid (fun p => by unfold nxt; omega)
    go_loopw [14] (fun i wx => ∃ j : Nat, 10 ≤ j ∧ (j : Int) ≤ l + 10 ∧ i = .int .i64 j ∧ Ck wx g11 (nxt (1 + y) (40 + 80 * cd) j) 0 ∧ Ck wx g12 (nxt (1 + y) (40 + 80 * cd) j) (if K < nxt (1 + y) (40 + 80 * cd) j then 1 else 0) ∧ Env w g7 g8 g5 l y z cd A n c a0 a1 a2 a3 wx) (fun i _ => (l + 10).toNat - (intOf i).toNat)
    case atStart => exact ⟨10, by omega, by omega, rfl, by rw [show ((10 : Nat) : Int) = 10 from rfl, HN10.out]; exact HC15.out, by rw [show ((10 : Nat) : Int) = 10 from rfl, HN10.out, if_neg (by omega)]; exact HC2.out, HENV.out⟩
    case round =>
      clear HC15 HC2 HENV HN10
      obtain ⟨j, hj10, hjl, rfl, hc1, hc2, henv⟩ := hrel
      have H1 := Lib.hid hc1
      have H2 := Lib.hid hc2
      have HE := Lib.hid henv
      clear hc1 hc2 henv
      have cl := HE.out.1.cell 2
      simp at cl
      have hnb := HNB.out j
      by_cases hlt : (j : Int) < l - 10
      · have hwq : IntKind.i64.wrap ((j : Int) + (ap - 4)) = (j : Int) + (ap - 4) := IntWalk.i64_in _ (by omega)
        obtain ⟨m, yk, bb, hlk⟩ := lkR_ex (atN 0 (1 + y) (1 + z) cd j) (atT 0 (1 + y) (1 + z) cd j)
        obtain ⟨u, HUD⟩ : ∃ u, Hid (wdF yy (bitsOf vs) (atN 0 (1 + y) (1 + z) cd ((j : Int) + (ap - 4))) (atT 0 (1 + y) (1 + z) cd ((j : Int) + (ap - 4))) = u) := ⟨_, Lib.hid rfl⟩
        have hu16 : u < 16 := by rw [← HUD.out]; exact wdF_lt _ _ _ _
        have HWD := Lib.hid (fun (W : World) (hb : Below w.heap.size w W) => words_any 0 0 l (1 + y) 0 (1 + z) (-1) false cd ((j : Int) + (ap - 4)) yy A n c vs u W (by omega) (by omega) (by omega) (by omega) (by omega) (by omega) (HL.out.kept hb) HX.out hn (HU.out.kept hb) HUD.out)
        cases bb
        · have hnn := nxt_no rfl rfl (by omega) hcd0 hcd1 hlk
          have HLK := Lib.hid hlk
          have HNN := Lib.hid hnn
          clear hlk hnn
          obtain ⟨N, hN⟩ : ∃ N, nxt (1 + y) (40 + 80 * cd) j = N := ⟨_, rfl⟩
          have hcj : ((j : Int) + 1) = ((j + 1 : Nat) : Int) := by omega
          rw [hcj] at HNN
          rw [hN] at H1 H2 HNN hnb
          clear hN hcj
          obtain ⟨S0, S1, S2, S3, S4, S5, S6, S7⟩ := o8 0 0 l (1 + y) 0 (1 + z) (-1) false HE.out.1
          obtain ⟨R0, R1, R2, R3⟩ := o4 true false A n c cd HE.out.2.1
          have A2 : ∀ x : Kin wr, x.world.cell? ⟨g5, 2, none⟩ = some (.int .i64 a2) := fun x => (HE.out.2.2.1.kept x.below).cell 2
          obtain ⟨x0, hx0⟩ : ∃ x0 : Kin wr, x0.world = wr := ⟨Kin.me _, rfl⟩
          rw [← hx0]
          clear hx0 cl
          go_wp2_with fail
          refine (Calls.kin _ (HWD.out _ (HE.out.kept x0.below).2.2.2)).mono ?_
          rintro e w' ⟨rfl, x1, rfl⟩
          have HE1 := Lib.hid (HE.out.kept x1.below)
          have H11' := Lib.hid (show Ck x1.world g11 N 0 from H1.out.kept x1.below)
          have H12' := Lib.hid (show Ck x1.world g12 N (if K < N then 1 else 0) from H2.out.kept x1.below)
          go_wp2_with fail
          refine (csee_no 0 0 l (1 + y) 0 (1 + z) (-1) false true false A n c cd j m yy yk u H11'.out rfl (by omega) (by omega) (by omega) (by omega) (by omega) (by omega) (by omega) HLK.out).mono ?_
          rintro e w3 ⟨rfl, HQ1, HR1⟩
          have HE3 := Lib.hid (HE1.out.touch HR1.out H11.out.1 H11.out.2.1 H11.out.2.2.1 H11.out.2.2.2)
          have H23 := Lib.hid (show Ck w3 g12 N (if K < N then 1 else 0) from H12'.out.touch HR1.out (by have := H12.out; omega))
          clear S0 S1 S2 S3 S4 S5 S6 S7 R0 R1 R2 R3 A2 H11' H12' HE1 HR1
          clear x1 x0
          have HL1 := Lib.hid (clooks_any HQ1.out)
          have HL2 := Lib.hid (clooks_any H23.out)
          go_wp2_with fail
          refine HL1.out.mono ?_
          rintro e w' ⟨rfl, rfl⟩
          have hnk : N = K + 1 → ¬ (N = K) := fun h => by omega
          by_cases hNK : N = K + 1
          · have hNK2 : (N == K) = false := ne_int (by omega)
            have hNK1 : (N == K + 1) = true := by rw [hNK]; simp
            go_wp2_with fail
            refine HL2.out.mono ?_
            rintro e w' ⟨rfl, rfl⟩
            obtain ⟨S0, S1, S2, S3, S4, S5, S6, S7⟩ := o8 0 0 l (1 + y) 0 (1 + z) (-1) false HE3.out.1
            obtain ⟨R0, R1, R2, R3⟩ := o4 true false A n c cd HE3.out.2.1
            have A2 : ∀ x : Kin w3, x.world.cell? ⟨g5, 2, none⟩ = some (.int .i64 a2) := fun x => (HE3.out.2.2.1.kept x.below).cell 2
            obtain ⟨x0, hx0⟩ : ∃ x0 : Kin w3, x0.world = w3 := ⟨Kin.me _, rfl⟩
            have HX0 := Lib.hid hx0
            clear hx0
            rw [← HX0.out]
            go_wp2_with fail
            rw [HX0.out]
            refine (csee_no 0 0 l (1 + y) 0 (1 + z) (-1) false true false A n c cd j m yy yk u H23.out rfl (by omega) (by omega) (by omega) (by omega) (by omega) (by omega) (by omega) HLK.out).mono ?_
            rintro e w6 ⟨rfl, HQ2, HR2⟩
            have HE6 := Lib.hid (HE3.out.touch HR2.out (by have := H11.out; have := H12.out; omega) (by have := H11.out; have := H12.out; omega) (by have := H11.out; have := H12.out; omega) (by have := H11.out; have := H12.out; omega))
            have H16 := Lib.hid (show Ck w6 g11 N 0 from HQ1.out.touch HR2.out (by have := H12.out; omega))
            clear S0 S1 S2 S3 S4 S5 S6 S7 R0 R1 R2 R3 A2 HX0
            clear x0
            go_wp2
            go_roundw
            case rel => exact ⟨j + 1, by omega, by omega, by go_num, by rw [HNN.out]; exact H16.out, by rw [HNN.out]; exact HQ2.out, HE6.out⟩
            case measure => simp [intOf]; omega
          · have hNK1 : (N == K + 1) = false := ne_int hNK
            obtain ⟨S0, S1, S2, S3, S4, S5, S6, S7⟩ := o8 0 0 l (1 + y) 0 (1 + z) (-1) false HE3.out.1
            obtain ⟨R0, R1, R2, R3⟩ := o4 true false A n c cd HE3.out.2.1
            have A2 : ∀ x : Kin w3, x.world.cell? ⟨g5, 2, none⟩ = some (.int .i64 a2) := fun x => (HE3.out.2.2.1.kept x.below).cell 2
            obtain ⟨x0, hx0⟩ : ∃ x0 : Kin w3, x0.world = w3 := ⟨Kin.me _, rfl⟩
            have HX0 := Lib.hid hx0
            clear hx0
            rw [← HX0.out]
            go_wp2_with fail
            rw [HX0.out]
            refine (csee_no 0 0 l (1 + y) 0 (1 + z) (-1) false true false A n c cd j m yy yk u H23.out rfl (by omega) (by omega) (by omega) (by omega) (by omega) (by omega) (by omega) HLK.out).mono ?_
            rintro e w6 ⟨rfl, HQ2, HR2⟩
            have HE6 := Lib.hid (HE3.out.touch HR2.out (by have := H11.out; have := H12.out; omega) (by have := H11.out; have := H12.out; omega) (by have := H11.out; have := H12.out; omega) (by have := H11.out; have := H12.out; omega))
            have H16 := Lib.hid (show Ck w6 g11 N 0 from HQ1.out.touch HR2.out (by have := H12.out; omega))
            clear S0 S1 S2 S3 S4 S5 S6 S7 R0 R1 R2 R3 A2 HX0
            clear x0
            go_wp2
            go_roundw
            case rel => exact ⟨j + 1, by omega, by omega, by go_num, by rw [HNN.out]; exact H16.out, by rw [HNN.out]; exact HQ2.out, HE6.out⟩
            case measure => simp [intOf]; omega
        · have hyes := nxt_yes rfl rfl hcd0 hcd1 hlk
          obtain ⟨bt, hb1, hb2⟩ := wd_near4 (y := yy) rfl rfl hcd0 hcd1 hlk (by omega) (by omega) HBITS.out (d := ap - 4)
          have HLK := Lib.hid hlk
          have HNN := Lib.hid hyes.1
          have HSD := Lib.hid hb1
          obtain rfl : u = driveF yy bt := by rw [← HUD.out]; exact hb2
          clear hlk hyes hb1 hb2
          obtain ⟨N, hN⟩ : ∃ N, nxt (1 + y) (40 + 80 * cd) j = N := ⟨_, rfl⟩
          have hcj : ((j : Int) + 1) = ((j + 1 : Nat) : Int) := by omega
          rw [hcj] at HNN
          rw [hN] at H1 H2 HNN hnb
          clear hN hcj
          have HOKS : Hid (okB yy (driveF yy bt) (wdF yy (bitsOf vs) (atN 0 (1 + y) (1 + z) cd j) (atT 0 (1 + y) (1 + z) cd j)) = true) := Lib.hid (by rw [HSD.out]; exact ok_same _ _)
          obtain ⟨S0, S1, S2, S3, S4, S5, S6, S7⟩ := o8 0 0 l (1 + y) 0 (1 + z) (-1) false HE.out.1
          obtain ⟨R0, R1, R2, R3⟩ := o4 true false A n c cd HE.out.2.1
          have A2 : ∀ x : Kin wr, x.world.cell? ⟨g5, 2, none⟩ = some (.int .i64 a2) := fun x => (HE.out.2.2.1.kept x.below).cell 2
          obtain ⟨x0, hx0⟩ : ∃ x0 : Kin wr, x0.world = wr := ⟨Kin.me _, rfl⟩
          rw [← hx0]
          clear hx0 cl
          go_wp2_with fail
          refine (Calls.kin _ (HWD.out _ (HE.out.kept x0.below).2.2.2)).mono ?_
          rintro e w' ⟨rfl, x1, rfl⟩
          have HE1 := Lib.hid (HE.out.kept x1.below)
          have H11' := Lib.hid (show Ck x1.world g11 N 0 from H1.out.kept x1.below)
          have H12' := Lib.hid (show Ck x1.world g12 N (if K < N then 1 else 0) from H2.out.kept x1.below)
          go_wp2_with fail
          refine (csee_yes 0 0 l (1 + y) 0 (1 + z) (-1) false true false A n c cd j m yy yk (driveF yy bt) vs H11'.out rfl (by omega) (by omega) (by omega) (by omega) (by omega) (by omega) (by omega) HLK.out (HL.out.kept HE1.out.2.2.2) HX.out hn (HU.out.kept HE1.out.2.2.2) (df_lt _ _) (by omega) (by omega) (by omega) (by omega) true HOKS.out).mono ?_
          rintro e w3 ⟨rfl, HQ1, HR1⟩
          have HE3 := Lib.hid (HE1.out.touch HR1.out H11.out.1 H11.out.2.1 H11.out.2.2.1 H11.out.2.2.2)
          have HQ1' := Lib.hid (show Ck w3 g11 (N + 1) 0 from HQ1.out)
          have H23 := Lib.hid (show Ck w3 g12 N (if K < N then 1 else 0) from H12'.out.touch HR1.out (by have := H12.out; omega))
          clear S0 S1 S2 S3 S4 S5 S6 S7 R0 R1 R2 R3 A2 H11' H12' HE1 HR1 HQ1
          clear x1 x0
          have HL1 := Lib.hid (clooks_any HQ1'.out)
          have HL2 := Lib.hid (clooks_any H23.out)
          go_wp2_with fail
          refine HL1.out.mono ?_
          rintro e w' ⟨rfl, rfl⟩
          by_cases hNK : N = K
          · subst hNK
            go_wp2_with fail
            refine HL2.out.mono ?_
            rintro e w' ⟨rfl, rfl⟩
            obtain ⟨S0, S1, S2, S3, S4, S5, S6, S7⟩ := o8 0 0 l (1 + y) 0 (1 + z) (-1) false HE3.out.1
            obtain ⟨R0, R1, R2, R3⟩ := o4 true false A n c cd HE3.out.2.1
            have A2 : ∀ x : Kin w3, x.world.cell? ⟨g5, 2, none⟩ = some (.int .i64 a2) := fun x => (HE3.out.2.2.1.kept x.below).cell 2
            obtain ⟨x0, hx0⟩ : ∃ x0 : Kin w3, x0.world = w3 := ⟨Kin.me _, rfl⟩
            have HX0 := Lib.hid hx0
            clear hx0
            have HIF : Hid ((if N < N + 1 then (1 : Int) else 0) = (if false = true then (if N < N then (1 : Int) else 0) else (if N < N then (1 : Int) else 0) + 1)) := Lib.hid (by rw [if_pos (show N < N + 1 by omega), if_neg (show ¬ (false = true) by decide), if_neg (show ¬ N < N by omega)]; rfl)
            rcases (show sw = 0 ∨ sw = 1 ∨ sw = 2 ∨ sw = 3 by omega) with rfl | rfl | rfl | rfl
            · rw [← HX0.out]
              go_wp2_with fail
              rw [HX0.out]
              refine (csee_yes 0 0 l (1 + y) 0 (1 + z) (-1) false true false A n c cd j m yy yk (0) vs H23.out rfl (by omega) (by omega) (by omega) (by omega) (by omega) (by omega) (by omega) HLK.out (HL.out.kept HE3.out.2.2.2) HX.out hn (HU.out.kept HE3.out.2.2.2) (by omega) (by omega) (by omega) (by split <;> omega) (by split <;> omega) false (by rw [HSD.out]; exact bad_zero _ _)).mono ?_
              rintro e w6 ⟨rfl, HQ2, HR2⟩
              have HE6 := Lib.hid (HE3.out.touch HR2.out (by have := H11.out; have := H12.out; omega) (by have := H11.out; have := H12.out; omega) (by have := H11.out; have := H12.out; omega) (by have := H11.out; have := H12.out; omega))
              have H16 := Lib.hid (show Ck w6 g11 (N + 1) 0 from HQ1'.out.touch HR2.out (by have := H12.out; omega))
              clear S0 S1 S2 S3 S4 S5 S6 S7 R0 R1 R2 R3 A2 HX0
              clear x0
              go_wp2
              go_roundw
              case rel => exact ⟨j + 1, by omega, by omega, by go_num, by rw [HNN.out]; exact H16.out, by rw [HNN.out, HIF.out]; exact HQ2.out, HE6.out⟩
              case measure => simp [intOf]; omega
            · rw [← HX0.out]
              go_wp2_with fail
              refine (Ly3.pulse_any yy _).mono ?_
              rintro e w' ⟨rfl, rfl⟩
              go_wp2_with fail
              rw [HX0.out]
              refine (csee_yes 0 0 l (1 + y) 0 (1 + z) (-1) false true false A n c cd j m yy yk (pulseF yy) vs H23.out rfl (by omega) (by omega) (by omega) (by omega) (by omega) (by omega) (by omega) HLK.out (HL.out.kept HE3.out.2.2.2) HX.out hn (HU.out.kept HE3.out.2.2.2) (pf_lt _) (by omega) (by omega) (by split <;> omega) (by split <;> omega) false (by rw [HSD.out]; exact bad_both _ _)).mono ?_
              rintro e w6 ⟨rfl, HQ2, HR2⟩
              have HE6 := Lib.hid (HE3.out.touch HR2.out (by have := H11.out; have := H12.out; omega) (by have := H11.out; have := H12.out; omega) (by have := H11.out; have := H12.out; omega) (by have := H11.out; have := H12.out; omega))
              have H16 := Lib.hid (show Ck w6 g11 (N + 1) 0 from HQ1'.out.touch HR2.out (by have := H12.out; omega))
              clear S0 S1 S2 S3 S4 S5 S6 S7 R0 R1 R2 R3 A2 HX0
              clear x0
              go_wp2
              go_roundw
              case rel => exact ⟨j + 1, by omega, by omega, by go_num, by rw [HNN.out]; exact H16.out, by rw [HNN.out, HIF.out]; exact HQ2.out, HE6.out⟩
              case measure => simp [intOf]; omega
            · rw [← HX0.out]
              go_wp2_with fail
              refine (Ly3.pulse_any yy _).mono ?_
              rintro e w' ⟨rfl, rfl⟩
              have han := andnot yy bt
              go_wp2_with fail
              rw [HX0.out]
              refine (csee_yes 0 0 l (1 + y) 0 (1 + z) (-1) false true false A n c cd j m yy yk (othF yy bt) vs H23.out rfl (by omega) (by omega) (by omega) (by omega) (by omega) (by omega) (by omega) HLK.out (HL.out.kept HE3.out.2.2.2) HX.out hn (HU.out.kept HE3.out.2.2.2) (oth_lt _ _) (by omega) (by omega) (by split <;> omega) (by split <;> omega) false (by rw [HSD.out]; exact bad_oth _ _)).mono ?_
              rintro e w6 ⟨rfl, HQ2, HR2⟩
              have HE6 := Lib.hid (HE3.out.touch HR2.out (by have := H11.out; have := H12.out; omega) (by have := H11.out; have := H12.out; omega) (by have := H11.out; have := H12.out; omega) (by have := H11.out; have := H12.out; omega))
              have H16 := Lib.hid (show Ck w6 g11 (N + 1) 0 from HQ1'.out.touch HR2.out (by have := H12.out; omega))
              clear S0 S1 S2 S3 S4 S5 S6 S7 R0 R1 R2 R3 A2 HX0
              clear x0
              go_wp2
              go_roundw
              case rel => exact ⟨j + 1, by omega, by omega, by go_num, by rw [HNN.out]; exact H16.out, by rw [HNN.out, HIF.out]; exact HQ2.out, HE6.out⟩
              case measure => simp [intOf]; omega
            · rw [← HX0.out]
              go_wp2_with fail
              refine (Ly3.pulse_any yy _).mono ?_
              rintro e w' ⟨rfl, rfl⟩
              have han := andnot yy bt
              go_wp2_with fail
              rw [HX0.out]
              refine (csee_yes 0 0 l (1 + y) 0 (1 + z) (-1) false true false A n c cd j m yy yk (othF yy bt) vs H23.out rfl (by omega) (by omega) (by omega) (by omega) (by omega) (by omega) (by omega) HLK.out (HL.out.kept HE3.out.2.2.2) HX.out hn (HU.out.kept HE3.out.2.2.2) (oth_lt _ _) (by omega) (by omega) (by split <;> omega) (by split <;> omega) false (by rw [HSD.out]; exact bad_oth _ _)).mono ?_
              rintro e w6 ⟨rfl, HQ2, HR2⟩
              have HE6 := Lib.hid (HE3.out.touch HR2.out (by have := H11.out; have := H12.out; omega) (by have := H11.out; have := H12.out; omega) (by have := H11.out; have := H12.out; omega) (by have := H11.out; have := H12.out; omega))
              have H16 := Lib.hid (show Ck w6 g11 (N + 1) 0 from HQ1'.out.touch HR2.out (by have := H12.out; omega))
              clear S0 S1 S2 S3 S4 S5 S6 S7 R0 R1 R2 R3 A2 HX0
              clear x0
              go_wp2
              go_roundw
              case rel => exact ⟨j + 1, by omega, by omega, by go_num, by rw [HNN.out]; exact H16.out, by rw [HNN.out, HIF.out]; exact HQ2.out, HE6.out⟩
              case measure => simp [intOf]; omega
          · have hNK1 : (N == K) = false := ne_int hNK
            have hNK2 : (N + 1 == K + 1) = false := ne_int (by omega)
            obtain ⟨S0, S1, S2, S3, S4, S5, S6, S7⟩ := o8 0 0 l (1 + y) 0 (1 + z) (-1) false HE3.out.1
            obtain ⟨R0, R1, R2, R3⟩ := o4 true false A n c cd HE3.out.2.1
            have A2 : ∀ x : Kin w3, x.world.cell? ⟨g5, 2, none⟩ = some (.int .i64 a2) := fun x => (HE3.out.2.2.1.kept x.below).cell 2
            obtain ⟨x0, hx0⟩ : ∃ x0 : Kin w3, x0.world = w3 := ⟨Kin.me _, rfl⟩
            have HX0 := Lib.hid hx0
            clear hx0
            have HIF : Hid ((if K < N + 1 then (1 : Int) else 0) = (if true = true then (if K < N then (1 : Int) else 0) else (if K < N then (1 : Int) else 0) + 1)) := Lib.hid (by rw [if_pos rfl]; by_cases h : K < N <;> simp [h] <;> omega)
            rw [← HX0.out]
            go_wp2_with fail
            rw [HX0.out]
            refine (csee_yes 0 0 l (1 + y) 0 (1 + z) (-1) false true false A n c cd j m yy yk (driveF yy bt) vs H23.out rfl (by omega) (by omega) (by omega) (by omega) (by omega) (by omega) (by omega) HLK.out (HL.out.kept HE3.out.2.2.2) HX.out hn (HU.out.kept HE3.out.2.2.2) (df_lt _ _) (by omega) (by omega) (by split <;> omega) (by split <;> omega) true (by rw [HSD.out]; exact ok_same _ _)).mono ?_
            rintro e w6 ⟨rfl, HQ2, HR2⟩
            have HE6 := Lib.hid (HE3.out.touch HR2.out (by have := H11.out; have := H12.out; omega) (by have := H11.out; have := H12.out; omega) (by have := H11.out; have := H12.out; omega) (by have := H11.out; have := H12.out; omega))
            have H16 := Lib.hid (show Ck w6 g11 (N + 1) 0 from HQ1'.out.touch HR2.out (by have := H12.out; omega))
            clear S0 S1 S2 S3 S4 S5 S6 S7 R0 R1 R2 R3 A2 HX0
            clear x0
            go_wp2
            go_roundw
            case rel => exact ⟨j + 1, by omega, by omega, by go_num, by rw [HNN.out]; exact H16.out, by rw [HNN.out, HIF.out]; exact HQ2.out, HE6.out⟩
            case measure => simp [intOf]; omega
      · have hle : l - 10 ≤ (j : Int) := by omega
        have hnl := HNL.out j hle
        rw [hnl] at H1 H2
        have H2' := Lib.hid (show Ck wr g12 (16 * (1 + y)) 1 from by have := H2.out; rwa [if_pos hK1] at this)
        clear hnl H2 hnb
        go_upto_region 22 with (fail)
        clear cl
        have d0 : Below wr.heap.size wr wr.drew := bel_drew wr
        obtain ⟨S0, S1, S2, S3, S4, S5, S6, S7⟩ := o8 0 0 l (1 + y) 0 (1 + z) (-1) false (HE.out.1.kept d0)
        have B1 := Lib.hid (fun x : Kin wr.drew => cbad_any false (by decide) (show Ck x.world g11 (16 * (1 + y)) 0 from H1.out.kept (d0.trans x.below)))
        have B2 := Lib.hid (fun x : Kin wr.drew => clooks_any (show Ck x.world g11 (16 * (1 + y)) 0 from H1.out.kept (d0.trans x.below)))
        have B3 := Lib.hid (fun x : Kin wr.drew => cwrong_any (show Ck x.world g12 (16 * (1 + y)) 1 from H2'.out.kept (d0.trans x.below)))
        have B4 := Lib.hid (fun x : Kin wr.drew => cbad_any true (by decide) (show Ck x.world g12 (16 * (1 + y)) 1 from H2'.out.kept (d0.trans x.below)))
        have B5 := Lib.hid (fun x : Kin wr.drew => Ly19.one_any x.world (One14.gl_up (HU.out.kept (HE.out.kept (d0.trans x.below)).2.2.2)))
        go_wp2_with fail
        refine wp_region_specL 24 [.d (.pointer (some ⟨g11, 0, none⟩)), .d (.bool false), .d (.bool true), .d (.bool true), .d (.pointer (some ⟨g11, 0, none⟩)), .d (.int .i64 (16 * (1 + y))), .d (.pointer (some ⟨g7, 3, none⟩)), .d (.int .i64 (1 + y)), .d (.int .i64 (16 * (1 + y))), .d (.bool true), .d (.bool true), .d (.bool true), .d (.pointer (some ⟨g12, 0, none⟩)), .d (.int .i64 1), .d (.bool true), .d (.bool true), .d (.bool true), .d (.pointer (some ⟨g12, 0, none⟩)), .d (.bool true), .d (.bool true), .d (.bool true), .d (.bool true), .d (.bool true), .d (.bool true)] (by kernel_rfl) (by kernel_rfl) ?_
        refine spec_d rfl (fun x _ => gives_run (by go_simp)) ?_
        try simp only [Act.put, List.getElem_toArray, List.getElem_cons_succ, List.getElem_cons_zero, List.setIfInBounds_toArray, List.set_cons_zero, List.set_cons_succ]
        refine spec_d rfl (fun x _ => gives_det_same (by go_simp) (B1.out x)) ?_
        try simp only [Act.put, List.getElem_toArray, List.getElem_cons_succ, List.getElem_cons_zero, List.setIfInBounds_toArray, List.set_cons_zero, List.set_cons_succ]
        refine spec_d rfl (fun x _ => gives_run (by go_simp)) ?_
        try simp only [Act.put, List.getElem_toArray, List.getElem_cons_succ, List.getElem_cons_zero, List.setIfInBounds_toArray, List.set_cons_zero, List.set_cons_succ]
        refine spec_d rfl (fun x _ => gives_run (by go_simp)) ?_
        try simp only [Act.put, List.getElem_toArray, List.getElem_cons_succ, List.getElem_cons_zero, List.setIfInBounds_toArray, List.set_cons_zero, List.set_cons_succ]
        refine spec_d rfl (fun x _ => gives_run (by go_simp)) ?_
        try simp only [Act.put, List.getElem_toArray, List.getElem_cons_succ, List.getElem_cons_zero, List.setIfInBounds_toArray, List.set_cons_zero, List.set_cons_succ]
        refine spec_d rfl (fun x _ => gives_det_same (by go_simp) (B2.out x)) ?_
        try simp only [Act.put, List.getElem_toArray, List.getElem_cons_succ, List.getElem_cons_zero, List.setIfInBounds_toArray, List.set_cons_zero, List.set_cons_succ]
        refine spec_d rfl (fun x _ => gives_run (by go_simp)) ?_
        try simp only [Act.put, List.getElem_toArray, List.getElem_cons_succ, List.getElem_cons_zero, List.setIfInBounds_toArray, List.set_cons_zero, List.set_cons_succ]
        refine spec_d rfl (fun x _ => gives_run (by go_simp)) ?_
        try simp only [Act.put, List.getElem_toArray, List.getElem_cons_succ, List.getElem_cons_zero, List.setIfInBounds_toArray, List.set_cons_zero, List.set_cons_succ]
        refine spec_d rfl (fun x _ => gives_run (by go_simp)) ?_
        try simp only [Act.put, List.getElem_toArray, List.getElem_cons_succ, List.getElem_cons_zero, List.setIfInBounds_toArray, List.set_cons_zero, List.set_cons_succ]
        refine spec_d rfl (fun x _ => gives_run (by go_simp)) ?_
        try simp only [Act.put, List.getElem_toArray, List.getElem_cons_succ, List.getElem_cons_zero, List.setIfInBounds_toArray, List.set_cons_zero, List.set_cons_succ]
        refine spec_d rfl (fun x _ => gives_run (by go_simp)) ?_
        try simp only [Act.put, List.getElem_toArray, List.getElem_cons_succ, List.getElem_cons_zero, List.setIfInBounds_toArray, List.set_cons_zero, List.set_cons_succ]
        refine spec_d rfl (fun x _ => gives_run (by go_simp)) ?_
        try simp only [Act.put, List.getElem_toArray, List.getElem_cons_succ, List.getElem_cons_zero, List.setIfInBounds_toArray, List.set_cons_zero, List.set_cons_succ]
        refine spec_d rfl (fun x _ => gives_run (by go_simp)) ?_
        try simp only [Act.put, List.getElem_toArray, List.getElem_cons_succ, List.getElem_cons_zero, List.setIfInBounds_toArray, List.set_cons_zero, List.set_cons_succ]
        refine spec_d rfl (fun x _ => gives_det_same (by go_simp) (B3.out x)) ?_
        try simp only [Act.put, List.getElem_toArray, List.getElem_cons_succ, List.getElem_cons_zero, List.setIfInBounds_toArray, List.set_cons_zero, List.set_cons_succ]
        refine spec_d rfl (fun x _ => gives_run (by go_simp)) ?_
        try simp only [Act.put, List.getElem_toArray, List.getElem_cons_succ, List.getElem_cons_zero, List.setIfInBounds_toArray, List.set_cons_zero, List.set_cons_succ]
        refine spec_d rfl (fun x _ => gives_run (by go_simp)) ?_
        try simp only [Act.put, List.getElem_toArray, List.getElem_cons_succ, List.getElem_cons_zero, List.setIfInBounds_toArray, List.set_cons_zero, List.set_cons_succ]
        refine spec_d rfl (fun x _ => gives_run (by go_simp)) ?_
        try simp only [Act.put, List.getElem_toArray, List.getElem_cons_succ, List.getElem_cons_zero, List.setIfInBounds_toArray, List.set_cons_zero, List.set_cons_succ]
        refine spec_d rfl (fun x _ => gives_run (by go_simp)) ?_
        try simp only [Act.put, List.getElem_toArray, List.getElem_cons_succ, List.getElem_cons_zero, List.setIfInBounds_toArray, List.set_cons_zero, List.set_cons_succ]
        refine spec_d rfl (fun x _ => gives_det_same (by go_simp) (B4.out x)) ?_
        try simp only [Act.put, List.getElem_toArray, List.getElem_cons_succ, List.getElem_cons_zero, List.setIfInBounds_toArray, List.set_cons_zero, List.set_cons_succ]
        refine spec_d rfl (fun x _ => gives_run (by go_simp)) ?_
        try simp only [Act.put, List.getElem_toArray, List.getElem_cons_succ, List.getElem_cons_zero, List.setIfInBounds_toArray, List.set_cons_zero, List.set_cons_succ]
        refine spec_d rfl (fun x _ => gives_run (by go_simp)) ?_
        try simp only [Act.put, List.getElem_toArray, List.getElem_cons_succ, List.getElem_cons_zero, List.setIfInBounds_toArray, List.set_cons_zero, List.set_cons_succ]
        refine spec_d rfl (fun x _ => gives_det (by go_simp) (B5.out x)) ?_
        try simp only [Act.put, List.getElem_toArray, List.getElem_cons_succ, List.getElem_cons_zero, List.setIfInBounds_toArray, List.set_cons_zero, List.set_cons_succ]
        refine spec_d rfl (fun x _ => gives_run (by go_simp)) ?_
        try simp only [Act.put, List.getElem_toArray, List.getElem_cons_succ, List.getElem_cons_zero, List.setIfInBounds_toArray, List.set_cons_zero, List.set_cons_succ]
        refine spec_d rfl (fun x _ => gives_run (by go_simp)) ?_
        try simp only [Act.put, List.getElem_toArray, List.getElem_cons_succ, List.getElem_cons_zero, List.setIfInBounds_toArray, List.set_cons_zero, List.set_cons_succ]
        refine spec_end (fun x hx => ?_)
        clear hx
        refine wpAny_done (by kernel_rfl) ?_ _
        go_wp2
        go_ret
        exact ⟨rfl, (HE.out.kept (d0.trans x.below)).2.2.2⟩
abbrev sh2 : Sh := .ar 2 (.int .i64)
abbrev sh4 : Sh := .ar 4 (.int .i64)
theorem gUp : Tryd.prog.globalNamed "busbar/wires.upright" = some 0 := by kernel_rfl
theorem tUp : (Tryd.prog.globals[0]?).map (·.type) = some 38 := by kernel_rfl
theorem of_laid {W : World} (h : laidMetH Tryd.prog Rows.checkFindsRow.laid W) : Up W := by
  rw [MakeChecks.laidMetH_plain _ _ _ (by kernel_rfl)] at h
  obtain ⟨ps, ⟨g0, t0, cs0, f0, p0, q0, hg0, ht0, hv0, hd0, _, _⟩, _, _⟩ := h
  obtain rfl := Option.some.inj (gUp.symm.trans hg0)
  obtain rfl := Option.some.inj (tUp.symm.trans ht0)
  have e := exact_cells (sh := .ar 4 .bool) 10 rfl (by kernel_rfl) hd0 rfl
  obtain ⟨l0⟩ := cs0
  simp at e
  subst e
  exact ⟨by simpa using World.var?_cell hg0 hv0 0, by simpa using World.var?_cell hg0 hv0 1, by simpa using World.var?_cell hg0 hv0 2, by simpa using World.var?_cell hg0 hv0 3⟩
theorem walk (s : Array Value) (wA : Option Addr) (wn wc : Nat) (ws : List Int) (a : Array Value) (w : World) (hU : Up w) (rs : Reads w sh2 s.toList) (hl : Lst w wA wn (ws.map (Value.int .u8))) (hx : ∀ x ∈ ws, 0 ≤ x ∧ x ≤ 255) (hnc : wn ≤ wc) (hcm : wc ≤ maxLen) (ra : Reads w sh4 a.toList) :
    Calls Tryd.prog 12 #[.agg s, .slice wA wn wc, .agg a] w fun e w' => e = .returned (.bool true) ∧ Below w.heap.size w w' := by
  unfold maxLen at hcm
  obtain ⟨s0, s1, rfl, _, _⟩ := ar_two rs
  obtain ⟨a0, a1, a2, a3, rfl, _, _, _, _⟩ := ar_four ra
  obtain ⟨us, eu, hu⟩ := nats_in ws hx
  rw [eu] at hl
  exact go s0 s1 a0 a1 a2 a3 wA wn wc us w hl hu (by omega) hU

theorem door_met (os : Os) (args : Array Value) : laidMetH Tryd.prog Rows.checkFindsRow.laid ((World.doorLaid Tryd.prog 400 os).forCall (fun _ _ => 0) ⟨#[], args, []⟩).memory :=
  laidMetH_of_parts3 (fuel := 8) (laidMet_of_run' 8 (by kernel_rfl) (by kernel_rfl)) (by kernel_rfl) (by kernel_rfl)
set_option maxRecDepth 100000 in
theorem lifted (os : Os) (started : os.Started) (H : Type) (enc : TypeId × Value → H) :
    ReturnsInHanded {} Tryd.checked os 12 .any (fun w args => (Rows.checkFindsSpec.pre enc Tryd.prog Tryd.f12 [] false w args ∧ laidMetH Tryd.prog Rows.checkFindsRow.laid w) ∧ sizedMet enc Tryd.prog Tryd.f12 (OpenSpec.ofChange Rows.checkFindsSpec) false w args)
      (Rows.checkFindsSpec.post enc Tryd.prog Tryd.f12 false true false false) := by
  refine returnsInHanded_of_change_and (C := Tryd.checked) (X := fun w _ => laidMetH Tryd.prog Rows.checkFindsRow.laid w) (fun _ _ _ hh h => h.of_heap hh) own started (by kernel_rfl) Tryd.func12
    (ChangeSpec.witness_shaped (enc := enc) (C := Tryd.checked) (os := os) (X := fun w _ => laidMetH Tryd.prog Rows.checkFindsRow.laid w) false (World.doorLaid Tryd.prog 400 os) #[.agg #[.int .i64 0, .int .i64 0], .slice none 0 0, .agg #[.int .i64 0, .int .i64 0, .int .i64 0, .int .i64 0]] 8 rfl (World.shaped_of_RefB (by kernel_rfl) (by kernel_rfl)) (by kernel_rfl) (by kernel_rfl) (by kernel_rfl) (door_met os _)) ?_
  intro W base args ds gs before hval0 hW _ _ hL _
  have hval : ∀ (j : Nat) t v, Tryd.f12.params[j]? = some t → args[j]? = some v → Value.okWide Tryd.prog W .any base t v := hval0
  have hW' := hW
  obtain ⟨p, q, hA0, hV, rfl, hfz, hnd⟩ := hW
  have hA : DataW.TrodAll enc Tryd.prog W 0 (fun _ => true) true Tryd.f12.params.toList args.toList ds p := hA0
  rw [Tryd.params12] at hA hval
  obtain ⟨v0, vs0, d0, ds0, p0, q0, hargs, rfl, rfl, h0, r0⟩ := trodAll_cons hA
  obtain ⟨v1, vs1, d1, ds1, p1, q1, rfl, rfl, rfl, h1, r1⟩ := trodAll_cons r0
  obtain ⟨v2, vs2, d2, ds2, p2, q2, rfl, rfl, rfl, h2, r2⟩ := trodAll_cons r1
  obtain ⟨rfl, rfl, rfl⟩ := trodAll_nil r2
  obtain rfl : args = #[v0, v1, v2] := by cases args; simp_all
  obtain ⟨rfl, rfl⟩ := trodVars_none hV
  have k0 := h0
  have lt0 : ∀ x ∈ p0, x.block < W.heap.size := by obtain ⟨m, hm⟩ := k0; exact DataW.trod_lt m _ _ _ hm
  obtain ⟨s, rfl⟩ := okWide_agg (by first | exact .inl ⟨_, Tryd.underlying22⟩ | exact .inr ⟨_, _, Tryd.underlying22⟩) (hval 0 22 v0 rfl rfl)
  have rd0 := reads_cells (sh := sh2) 30 (by kernel_rfl) k0
  have k1 := h1
  have lt1 : ∀ x ∈ p1, x.block < W.heap.size := by obtain ⟨m, hm⟩ := k1; exact DataW.trod_lt m _ _ _ hm
  obtain ⟨wA, wn, wc, rfl⟩ := okWide_slice Tryd.underlying23 (hval 1 23 v1 rfl rfl)
  obtain ⟨w, l1, b1, cb1, cc1⟩ := lst_ints Tryd.underlying23 Tryd.underlying5 (by kernel_rfl) k1
  have k2 := h2
  have lt2 : ∀ x ∈ p2, x.block < W.heap.size := by obtain ⟨m, hm⟩ := k2; exact DataW.trod_lt m _ _ _ hm
  obtain ⟨a, rfl⟩ := okWide_agg (by first | exact .inl ⟨_, Tryd.underlying57⟩ | exact .inr ⟨_, _, Tryd.underlying57⟩) (hval 2 57 v2 rfl rfl)
  have rd2 := reads_cells (sh := sh4) 30 (by kernel_rfl) k2
  clear hA0 hval0
  refine (walk s wA wn wc w a W (of_laid hL) rd0 l1 (ints_u8 b1) cb1 cc1 rd2).mono fun e W' ⟨he, bel⟩ => ?_
  subst he
  exact ⟨_, rfl, _, _, _, [], _, [], hW', trodAll_mk1 (shut_bool Tryd.underlying4 _), (trodAll_cons_mk (Below.trod laidOut (by kernel_rfl) (of_decide_eq_true (by kernel_rfl)) k0 bel lt0) (trodAll_cons_mk (Below.trod laidOut (by kernel_rfl) (of_decide_eq_true (by kernel_rfl)) k1 bel lt1) (trodAll_cons_mk (Below.trod laidOut (by kernel_rfl) (of_decide_eq_true (by kernel_rfl)) k2 bel lt2) trodAll_mk0))), rfl, bel.frame _, fun h => by cases h⟩

theorem over : Rows.checkFindsRow.holds Tryd.pinned (OpenSpec.ofChange Rows.checkFindsSpec) :=
  OpenClaim.holds_of_wide 12 Tryd.f12 rfl rfl rfl rfl rfl rfl rfl ⟨rfl, rfl, rfl, rfl, rfl⟩ rfl rfl rfl rfl rfl (by kernel_rfl) Tryd.func12 (by kernel_rfl)
    (of_decide_eq_true (by kernel_rfl)) (by unfold Func.isWrapper; first | (rw [if_pos (by decide +kernel)]; kernel_rfl) | (rw [if_neg (by decide +kernel)]; exact ⟨rfl, rfl⟩))
    (fun os started H enc _ => lifted os started H enc)

/-- The card: what the row lists is tied to the program's text. -/
theorem proved : Rows.CheckFindsCardSaid :=
  Claim7.holds_tied_plain_at .later [] [.data] true Rows.checkFindsCard.stood.harness false
    over (fun _ h => by cases h) (by kernel_rfl) (fun _ h => by cases h) checkFinds_row_tie rfl ⟨rfl, rfl⟩ (by kernel_rfl) rfl
    (fun f fn hf hfn => by
      obtain rfl : f = 12 := Option.some.inj ((show Tryd.prog.funcNamed "busbar/busbarlaw19.CheckFinds" = some 12 by kernel_rfl).symm.trans hf) |>.symm
      obtain rfl : fn = Tryd.f12 := (Option.some.inj (Tryd.func12.symm.trans hfn)).symm
      exact ⟨by kernel_rfl, fun j t ht => by
        rw [Tryd.params12] at ht
        have hm : t ∈ [22, 23, 57] := by simpa using Array.mem_of_getElem? ht
        have hall : ([22, 23, 57].all fun u => !Tryd.prog.wantsStandIn u) = true := by kernel_rfl
        exact (show Tryd.prog.wantsStandIn t = false by simpa using List.all_eq_true.1 hall t hm)⟩)
    (by kernel_rfl)
end Go.Proofs.YtnbcegijncdmaaaDoor.lawCheckFinds
