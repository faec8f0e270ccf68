/- Through a slot both sides together have two lines high while words are sent, and none at other places; all four in the pulse; each bit is looked at twice, in order, and is what the lines say there: for every slot that is made, every candidate and words; no condition but that the table of the lines is as the program's text lays it, which the card ties. -/
import Derived.RegionTactic
import Derived.IntWalk
import Derived.Deep.DeepCutAuto
import Derived.Deep.CutBlock
import Derived.Test.YtnbcegijncdmaaaDoorGatC
import Derived.Test.YtnbcegijncdmaaaDoorOne14
import Derived.Test.YtnbcegijncdmaaaDoorSh
import Derived.Test.YtnbcegijncdmaaaDoorShAr
import Derived.Test.YtnbcegijncdmaaaDoorPush
import Derived.Test.YtnbcegijncdmaaaDoorCut
import Derived.Test.YtnbcegijncdmaaaDoorTie
import Derived.Test.YtnbcegijncdmaaaDoorCards
import Derived.Test.YtnbcegijncdmaaaDoorLaid
import Derived.LaidMore
import Derived.SevenTiedAt
import Derived.Stop.Joined
import Derived.Test.YtnbcegijncdmaaaDoorRows
import Derived.WalkKit
import Derived.ProofKit
import Derived.OpenShut
import Derived.ShutString
import Derived.ChangeOld
import Derived.Below
namespace Go.Proofs.YtnbcegijncdmaaaDoor.lawSerialWhole
open Go.ChangeShapes Go.WideShapes Go.ChangeAt Go.RowKit Base
open Go.ChangeMaps (open_string shut_string)
set_option linter.unusedVariables false
set_option linter.unusedSimpArgs false
theorem own : ownKnob Tryd.prog.godebug = none := by kernel_rfl
theorem laidOut : laidOutB Tryd.prog = true := by kernel_rfl
open Ly18 Ly14 Ly7 Ly3 Ly2

/-- How many halves were looked at ahead of a place. -/
def nxt (W b p : Int) : Int := max 0 (min (16 * W) ((p - b + 4) / 10))
theorem nxt_no {W M c p n t m : Int} {yk : Bool} (hn : atN 0 W M c p = n) (ht : atT 0 W M c p = t) (hW : 0 ≤ W) (h0 : 0 ≤ c) (h1 : c < M) (h : LkR n t m yk false) : nxt W (40 + 80 * c) (p + 1) = nxt W (40 + 80 * c) p := by
  unfold nxt
  have key : n < 0 ∨ (t ≠ 5 ∧ t ≠ 15) := by
    rcases h with ⟨h, _⟩ | ⟨_, h, _⟩ | ⟨_, _, _, _, h⟩ | ⟨_, _, _, _, h⟩
    · exact .inl h
    · exact .inr h
    · cases h
    · cases h
  unfold atN at hn
  unfold atT at ht
  split at hn
  · rename_i e
    rw [if_pos e] at ht
    omega
  · rename_i e
    have : p < 40 + 80 * c ∨ W ≤ (p - (40 + 80 * c)) / 160 := by omega
    omega
theorem nxt_yes {W M c p n t m : Int} {yk : Bool} (hn : atN 0 W M c p = n) (ht : atT 0 W M c p = t) (h0 : 0 ≤ c) (h1 : c < M) (h : LkR n t m yk true) : nxt W (40 + 80 * c) (p + 1) = nxt W (40 + 80 * c) p + 1 ∧ nxt W (40 + 80 * c) p = 2 * n + (if yk then 1 else 0) ∧ 0 ≤ n ∧ n < 8 * W ∧ (t = if yk then 15 else 5) ∧ m = n := by
  unfold nxt
  have key : 0 ≤ n ∧ (t = if yk then 15 else 5) ∧ m = n := by
    rcases h with ⟨_, _, _, h⟩ | ⟨_, _, _, _, h⟩ | ⟨h, h', h3, h'', _⟩ | ⟨h, h', h3, h'', _⟩
    · cases h
    · cases h
    · subst h''; exact ⟨h, h', h3⟩
    · subst h''; exact ⟨h, h', h3⟩
  obtain ⟨k0, k1, k2⟩ := key
  obtain ⟨_, _, _, h4, h5, h6, h7⟩ := at_inv hn ht k0
  cases yk
  · simp at k1 ⊢; omega
  · simp at k1 ⊢; omega
def bothN (b : Bool) : Nat := driveF false b ||| driveF true b
def lpF (bs : List Bool) (n t : Int) : Nat := wdF false bs n t ||| wdF true bs n t
theorem lp_in {bs : List Bool} {n : Nat} {t : Int} {b : Bool} (h : bs[n]? = some b) : lpF bs n t = bothN (Ly1.lvl b t) := by
  unfold lpF
  rw [wdF_in h, wdF_in h]
  rfl
theorem lp_out {bs : List Bool} {n t : Int} (h : n < 0 ∨ (bs.length : Int) ≤ n) : lpF bs n t = 0 := by
  unfold lpF
  rw [wdF_out h, wdF_out h]
  rfl
theorem both_cnt : ∀ b : Bool, cnt (bothN b) 4 = 2 ∧ bothN b ≠ 0 ∧ bothN b < 16 := by decide +kernel
theorem both_said : ∀ b : Bool, said (bothN b) 0 = b ∧ said (bothN b) 1 = b ∧ said (bothN b) 2 = b ∧ said (bothN b) 3 = b := by decide +kernel
theorem nums0 (q : Nat) (h : q < 64) : (2 * (q : Int)).tdiv 2 = (q : Int) ∧ wrap64 (q : Int) = (q : Int) ∧ (2 * (q : Int)).tmod 2 = 0 ∧ IntKind.i64.wrap (2 * (q : Int) + 1) = 2 * (q : Int) + 1 ∧ IntKind.i64.wrap (q : Int) = (q : Int) :=
  ⟨by rw [Int.tdiv_eq_ediv_of_nonneg (by omega)]; omega, wq64 (by omega) (by omega), by rw [Int.tmod_eq_emod_of_nonneg (by omega)]; omega, IntWalk.i64_in _ (by omega), IntWalk.i64_in _ (by omega)⟩
theorem nums1 (q : Nat) (h : q < 64) : (2 * (q : Int) + 1).tdiv 2 = (q : Int) ∧ wrap64 (q : Int) = (q : Int) ∧ (2 * (q : Int) + 1).tmod 2 = 1 ∧ IntKind.i64.wrap (2 * (q : Int) + 1 + 1) = 2 * (q : Int) + 1 + 1 ∧ IntKind.i64.wrap (q : Int) = (q : Int) :=
  ⟨by rw [Int.tdiv_eq_ediv_of_nonneg (by omega)]; omega, wq64 (by omega) (by omega), by rw [Int.tmod_eq_emod_of_nonneg (by omega)]; omega, IntWalk.i64_in _ (by omega), IntWalk.i64_in _ (by omega)⟩
theorem lv_ff : Ly1.lvl false (if false = true then (15 : Int) else 5) = false := by decide
theorem lv_ft : Ly1.lvl true (if false = true then (15 : Int) else 5) = true := by decide
theorem lv_tf : Ly1.lvl false (if true = true then (15 : Int) else 5) = true := by decide
theorem lv_tt : Ly1.lvl true (if true = true then (15 : Int) else 5) = false := by decide
theorem says_both (b : Bool) (W : World) (hW : Up W) : Calls Tryd.prog 21 #[.int .u8 ((bothN b : Nat) : Int)] W fun e w' => e = .returned (.agg #[.bool b, .bool b, .bool b, .bool b]) ∧ Below W.heap.size W w' := by
  obtain ⟨e0, e1, e2, e3⟩ := both_said b
  have hlt : bothN b < 256 := by have := (both_cnt b).2.2; omega
  have h := says_any (bothN b) W hlt hW
  rw [e0, e1, e2, e3] at h
  exact h
theorem cnt0 : cnt 0 4 = 0 := by decide
theorem cnt15 : cnt 15 4 = 4 := by decide
def ppF (a b p : Int) : Nat := plF false a b p ||| plF true a b p
theorem pp_cases (a b p : Int) : (ppF a b p = 0 ∧ ¬ (a ≤ p ∧ p < b)) ∨ (ppF a b p = 15 ∧ a ≤ p ∧ p < b) := by
  unfold ppF plF
  by_cases h : a ≤ p ∧ p < b
  · rw [if_pos h, if_pos h]; exact .inr ⟨rfl, h⟩
  · rw [if_neg h, if_neg h]; exact .inl ⟨rfl, h⟩
theorem lp_lt (bs : List Bool) (n t : Int) : lpF bs n t < 16 := Nat.or_lt_two_pow (n := 4) (wdF_lt _ _ _ _) (wdF_lt _ _ _ _)
theorem pp_lt (a b p : Int) : ppF a b p < 16 := Nat.or_lt_two_pow (n := 4) (plF_lt _ _ _ _) (plF_lt _ _ _ _)
theorem sent_quiet {W M c p n t l : Int} {bs : List Bool} (hn : atN 0 W M c p = n) (ht : atT 0 W M c p = t) (hl : 40 + 80 * c + 160 * W ≤ l - 80) (h : l - 80 ≤ p) : n < 0 := by
  by_cases h0 : 0 ≤ n
  · obtain ⟨_, _, _, h4, h5, h6, h7⟩ := at_inv hn ht h0
    omega
  · omega
theorem ne0_int {n : Nat} (h : n ≠ 0) : ((n : Int) != 0) = true := by simp; exact h
theorem slice_el : (Tryd.prog.elem 23) = 5 := by kernel_rfl
theorem size_u8 (W : World) : (sizeOf (Tryd.prog.elem 23)).run Tryd.prog W = .ok 1 W := by kernel_rfl
theorem under_sl : Tryd.prog.underlying 23 = some (.slice (Tryd.prog.elem 23)) := by kernel_rfl
theorem lst_take {w : World} {A : Option Addr} {n m : Nat} {xs : List Value} (h : Lst w A n xs) (hm : m ≤ n) : Lst w A m (xs.take m) :=
  ⟨by rw [List.length_take, h.1]; omega, fun h0 => by
    obtain ⟨b, off, e, hlt, hc⟩ := h.2 (by omega)
    exact ⟨b, off, e, hlt, fun k hk => by rw [hc k (by omega), List.getElem?_take_of_lt hk]⟩⟩
set_option maxRecDepth 100000 in
set_option maxHeartbeats 4000000 in
theorem go (s0 s1 cn0 : Int) (A : Option Addr) (n c : Nat) (vs : List Nat) (w : World) (hl : Lst w A n (vs.map fun (x : Nat) => Value.int .u8 x)) (hx : ∀ x ∈ vs, x < 256) (hnc : n ≤ c) (hcm : c ≤ 9223372036854775807) (hU : Up w) :
    Calls Tryd.prog 3 #[.agg #[.int .i64 s0, .int .i64 s1], .int .i64 cn0, .slice A n c] w fun e w' => e = .returned (.bool true) ∧ Below w.heap.size w w' := by
  obtain ⟨y, y0, y1', hy'⟩ := and_mask s0 7 (by omega)
  have hy : Go.bits BinOp.and IntKind.i64 s0 7 = y := hy'
  have y1 : y ≤ 7 := y1'
  obtain ⟨z, z0, z1', hz'⟩ := and_mask s1 3 (by omega)
  have hz : Go.bits BinOp.and IntKind.i64 s1 3 = z := hz'
  have z1 : z ≤ 3 := z1'
  obtain ⟨r1, r10, r11', hr1'⟩ := and_mask cn0 255 (by omega)
  have hr1 : Go.bits BinOp.and IntKind.i64 cn0 255 = r1 := hr1'
  have r11 : r1 ≤ 255 := r11'
  clear y1' hy' z1' hz' r11' hr1'
  obtain ⟨cd, hcd⟩ : ∃ cd, r1 % (1 + z) = cd := ⟨_, rfl⟩
  have hcd0 : 0 ≤ cd := by rw [← hcd]; exact Int.emod_nonneg _ (by omega)
  have hcd1 : cd < 1 + z := by rw [← hcd]; exact Int.emod_lt_of_pos _ (by omega)
  have htm : r1.tmod (1 + z) = cd := by rw [Int.tmod_eq_emod_of_nonneg r10]; exact hcd
  have hwcd : IntKind.i64.wrap cd = cd := IntWalk.i64_in _ (by omega)
  have hz10 : (1 + z == 0) = false := by simp; omega
  have hz1n : ¬ (1 + z = 0) := by omega
  have HMD := Lib.hid (fun W => made_any s0 s1 y z W hy hz y0 y1 z0 z1)
  have HL := Lib.hid hl
  have HX := Lib.hid hx
  have HU := Lib.hid hU
  clear hcd hl hx hU hy hz
  obtain ⟨WB, HWB⟩ : ∃ W, W = w.alloc (.cells #[.int .i64 s0, .int .i64 s1] 22) := ⟨_, rfl⟩
  have HBB : Hid (Below w.heap.size w WB) := Lib.hid (by rw [HWB]; exact bel_new w _)
  go_enter Tryd.func3, Tryd.ntmps3
  go_upto_region 1 with (fail)
  have HOA : Obj1 WB w.heap.size 22 #[.int .i64 s0, .int .i64 s1] := by rw [HWB]; exact Obj1.new w 22 _
  have k0 : WB.cell? ⟨w.heap.size, 0, none⟩ = some (.int .i64 s0) := HOA.cell 0
  have k1 : WB.cell? ⟨w.heap.size, 1, none⟩ = some (.int .i64 s1) := HOA.cell 1
  rw [← HWB]
  clear HWB HOA
  go_wp2_with fail
  refine (HMD.out _).mono ?_
  rintro e w1 ⟨rfl, hb1⟩
  clear k0 k1
  have HB1 := Lib.hid (HBB.out.trans (hb1.mono HBB.out.size))
  clear hb1 HBB HMD
  go_upto_region 2 with (fail)
  obtain ⟨g7, HG7⟩ : ∃ g, Hid (w1.heap.size = g) := ⟨_, Lib.hid rfl⟩
  have HO7 : Hid (Obj1 (w1.alloc (.cells #[.int .i64 0, .int .i64 0, .int .i64 (20 * (10 + 8 * (1 + y) + 4 * z)), .int .i64 (1 + y), .int .i64 0, .int .i64 (1 + z), .int .i64 (-1), .bool false] 25)) g7 25 #[.int .i64 0, .int .i64 0, .int .i64 (20 * (10 + 8 * (1 + y) + 4 * z)), .int .i64 (1 + y), .int .i64 0, .int .i64 (1 + z), .int .i64 (-1), .bool false]) := Lib.hid (by rw [← HG7.out]; exact Obj1.new _ _ _)
  have HB2 := Lib.hid (HB1.out.alloc HB1.out.size (.cells #[.int .i64 0, .int .i64 0, .int .i64 (20 * (10 + 8 * (1 + y) + 4 * z)), .int .i64 (1 + y), .int .i64 0, .int .i64 (1 + z), .int .i64 (-1), .bool false] 25))
  rw [HG7.out]
  generalize w1.alloc (.cells #[.int .i64 0, .int .i64 0, .int .i64 (20 * (10 + 8 * (1 + y) + 4 * z)), .int .i64 (1 + y), .int .i64 0, .int .i64 (1 + z), .int .i64 (-1), .bool false] 25) = W2 at HO7 HB2 ⊢
  clear HB1 HG7
  have c3 := HO7.out.cell 3
  have c5 := HO7.out.cell 5
  simp at c3 c5
  go_upto_if 35 with (fail)
  clear c3 c5
  have c3 := HO7.out.cell 3
  simp at c3
  go_cut [2] from 31 to 39 (fun v wx => (∃ m us, v = .slice A m c ∧ (m : Int) ≤ 1 + y ∧ Hid (Lst w A m (List.map (fun (x : Nat) => Value.int .u8 x) us)) ∧ Hid (∀ x ∈ us, x < 256)) ∧ wx = W2)
  case first =>
    by_cases hn : (n : Int) ≤ 1 + y
    · go_wp2
      go_meet
      exact ⟨⟨n, vs, rfl, hn, HL, HX⟩, rfl⟩
    · obtain ⟨h, hh⟩ : ∃ h : Nat, 1 + y = (h : Int) := ⟨(1 + y).toNat, by omega⟩
      have hsl := cut_h under_sl size_u8 A n c h (by omega)
      rw [hh] at c3
      have hn' : (h : Int) < (n : Int) := by omega
      clear hn
      go_wp2
      go_meet
      exact ⟨⟨h, vs.take h, rfl, by omega, Lib.hid (by rw [List.map_take]; exact lst_take HL.out (by omega)), Lib.hid (fun x hx => HX.out x (List.mem_of_mem_take hx))⟩, rfl⟩
  case rest =>
    obtain ⟨⟨m, us, rfl, hm8, HLU, HXU⟩, rfl⟩ := hcut
    clear HL HX c3
    go_wp2_with fail
    refine (refbits_any A m c us wc (HLU.out.kept HB2.out) HXU.out (by omega)).mono ?_
    rintro e W5 ⟨v, rfl, hown, hb5⟩
    obtain ⟨D, dc, rfl, hdc, hdm, hlD⟩ := Lst.of_own hown
    have HLD := Lib.hid hlD
    have HB5 := Lib.hid (HB2.out.trans (hb5.mono HB2.out.size))
    have HO75 := Lib.hid (HO7.out.kept hb5)
    clear hown hlD hb5 HO7 HB2
    obtain ⟨l, hLd⟩ : ∃ l, 20 * (10 + 8 * (1 + y) + 4 * z) = l := ⟨_, rfl⟩
    have hl0 : 0 ≤ l ∧ l ≤ 10000 := by omega
    have hll : 40 + 80 * cd + 160 * (1 + y) ≤ l - 80 := by omega
    rw [hLd] at HO75 ⊢
    clear hLd
    have HN0 : Hid (nxt (1 + y) (40 + 80 * cd) 0 = 0) := Lib.hid (by unfold nxt; omega)
    have HNL : Hid (∀ p, l ≤ p → nxt (1 + y) (40 + 80 * cd) p = 16 * (1 + y)) := Lib.hid (fun p hp => by unfold nxt; omega)
    have HNB : Hid (∀ p, 0 ≤ nxt (1 + y) (40 + 80 * cd) p ∧ nxt (1 + y) (40 + 80 * cd) p ≤ 16 * (1 + y)) := Lib.hid (fun p => by unfold nxt; omega)
    have HBLN : Hid ((bitsOf us).length = 8 * m) := Lib.hid (by have := HLD.out.1; simpa using this)
    go_wp2_with fail
    go_loopw [9, 10] (fun nx i wx => ∃ (j : Nat) (N : Int) (x : Kin W5), (j : Int) ≤ l ∧ i = .int .i64 j ∧ Hid (nxt (1 + y) (40 + 80 * cd) j = N) ∧ nx = .int .i64 N ∧ wx = x.world) (fun _ i _ => (l + 1).toNat - (intOf i).toNat)
    case atStart => exact ⟨0, 0, Kin.me _, by omega, rfl, HN0, rfl, rfl⟩
    case round =>
      obtain ⟨j, N, x0, hjl, rfl, HN, rfl, rfl⟩ := hrel
      have cl := (HO75.out.kept x0.below).cell 2
      simp at cl
      have hnb := HNB.out j
      rw [HN.out] at hnb
      by_cases hlt : (j : Int) < l
      · go_upto_region 10 with (fail)
        clear cl
        have d0 : Below x0.world.heap.size x0.world x0.world.drew := bel_drew _
        obtain ⟨S0, S1, S2, S3, S4, S5, S6, S7⟩ := o8 0 0 l (1 + y) 0 (1 + z) (-1) false ((HO75.out.kept x0.below).kept d0)
        obtain ⟨nn, hnn⟩ : ∃ nn, atN 0 (1 + y) (1 + z) cd j = nn := ⟨_, rfl⟩
        obtain ⟨t, ht⟩ : ∃ t, atT 0 (1 + y) (1 + z) cd j = t := ⟨_, rfl⟩
        obtain ⟨mk, yk, bb, hlk⟩ := lkR_ex nn t
        have HNN := Lib.hid hnn
        have HTT := Lib.hid ht
        have hbd := at_bd (k := 0) (wo := 1 + y) (mn := 1 + z) (c := cd) (p := j)
        rw [hnn, ht] at hbd
        obtain ⟨nb0, tb0, tb1, nb1⟩ := hbd
        have nb2 : nn < 64 := by by_cases h : 0 ≤ nn <;> omega
        have HQT : Hid (l - 80 ≤ (j : Int) → nn < 0) := Lib.hid (fun h => sent_quiet (bs := []) hnn ht hll h)
        have HSK : Hid (∀ x : Kin x0.world.drew, Below w.heap.size w x.world) := Lib.hid (fun x => HB5.out.trans ((x0.below.mono HB5.out.size).trans ((d0.trans x.below).mono (Nat.le_trans HB5.out.size x0.below.size))))
        obtain ⟨u, HUD⟩ : ∃ u, Hid (wdF false (bitsOf us) nn t = u) := ⟨_, Lib.hid rfl⟩
        obtain ⟨v, HVD⟩ : ∃ v, Hid (wdF true (bitsOf us) nn t = v) := ⟨_, Lib.hid rfl⟩
        have hu16 : u < 16 := by rw [← HUD.out]; exact wdF_lt _ _ _ _
        have hv16 : v < 16 := by rw [← HVD.out]; exact wdF_lt _ _ _ _
        obtain ⟨R, HRD⟩ : ∃ R, Hid (lpF (bitsOf us) nn t = R) := ⟨_, Lib.hid rfl⟩
        have hR16 : R < 16 := by rw [← HRD.out]; exact lp_lt _ _ _
        have HUV : Hid (u ||| v = R) := Lib.hid (by rw [← HUD.out, ← HVD.out, ← HRD.out]; rfl)
        have HCX := Lib.hid (fun x : Kin x0.world.drew => words_any 0 0 l (1 + y) 0 (1 + z) (-1) false cd j false A m c us u x.world (by omega) (by omega) (by omega) (by omega) (by omega) (by omega) (HLU.out.kept (HSK.out x)) HXU.out (by omega) (HU.out.kept (HSK.out x)) (by rw [hnn, ht]; exact HUD.out))
        have HCY := Lib.hid (fun x : Kin x0.world.drew => words_any 0 0 l (1 + y) 0 (1 + z) (-1) false cd j true A m c us v x.world (by omega) (by omega) (by omega) (by omega) (by omega) (by omega) (HLU.out.kept (HSK.out x)) HXU.out (by omega) (HU.out.kept (HSK.out x)) (by rw [hnn, ht]; exact HVD.out))
        have HOR : Hid (∀ (W : World) (g : Nat), Lst W (some ⟨g, 0, none⟩) 2 [.int .u8 (u : Int), .int .u8 (v : Int)] → Calls Tryd.prog 15 #[.slice (some ⟨g, 0, none⟩) 2 2] W fun e w' => e = .returned (.int .u8 (R : Int)) ∧ W = w') := Lib.hid (fun W g hg => by
          have h := or_any (some ⟨g, 0, none⟩) 2 2 [u, v] W hg (by intro x hx; simp at hx; omega) (by omega)
          rw [show orL [u, v] = u ||| v by simp [orL], orr HUV.out hR16] at h
          exact h)
        have HKN : Hid (∀ x : Kin x0.world.drew, ∃ x5 : Kin W5, x.world = x5.world) := Lib.hid (fun x => Kin.ex (x0.below.trans ((d0.trans x.below).mono x0.below.size)))
        have HAT := Lib.hid (fun W => at_any 0 0 l (1 + y) 0 (1 + z) (-1) false cd j W (by omega) (by omega) (by omega) (by omega) (by omega) (by omega))
        have HLK := Lib.hid (fun W => slook_any 0 0 l (1 + y) 0 (1 + z) (-1) false cd j mk yk bb W (by omega) (by omega) (by omega) (by omega) (by omega) (by omega) (by omega) (by rw [hnn, ht]; exact hlk))
        rw [hnn, ht] at HAT
        have HLKR := Lib.hid hlk
        clear hnn ht hlk HUV
        go_wp2_with fail
        refine wp_region_specL 13 [.d (.agg #[.int .i64 0, .int .i64 0, .int .i64 l, .int .i64 (1 + y), .int .i64 0, .int .i64 (1 + z), .int .i64 (-1), .bool false]), .d (.int .i64 cd), .d (.slice A m c), .d (.int .i64 j), .d (.int .u8 u), .d (.agg #[.int .i64 0, .int .i64 0, .int .i64 l, .int .i64 (1 + y), .int .i64 0, .int .i64 (1 + z), .int .i64 (-1), .bool false]), .d (.int .i64 cd), .d (.slice A m c), .d (.int .i64 j), .d (.int .u8 v), .g (NewL x0.world.heap.size 2 [.int .u8 (u : Int), .int .u8 (v : Int)]), .d (.int .u8 R), .d (.int .u8 R)] (by kernel_rfl) (by kernel_rfl) ?_
        refine spec_d rfl (fun x _ => gives_run (by go_simp)) ?_
        try simp only [Act.put, List.getElem_toArray, List.getElem_cons_succ, List.getElem_cons_zero, List.setIfInBounds_toArray, List.set_cons_zero, List.set_cons_succ]
        refine spec_d rfl (fun x _ => gives_run (by go_simp)) ?_
        try simp only [Act.put, List.getElem_toArray, List.getElem_cons_succ, List.getElem_cons_zero, List.setIfInBounds_toArray, List.set_cons_zero, List.set_cons_succ]
        refine spec_d rfl (fun x _ => gives_run (by go_simp)) ?_
        try simp only [Act.put, List.getElem_toArray, List.getElem_cons_succ, List.getElem_cons_zero, List.setIfInBounds_toArray, List.set_cons_zero, List.set_cons_succ]
        refine spec_d rfl (fun x _ => gives_run (by go_simp)) ?_
        try simp only [Act.put, List.getElem_toArray, List.getElem_cons_succ, List.getElem_cons_zero, List.setIfInBounds_toArray, List.set_cons_zero, List.set_cons_succ]
        refine spec_d rfl (fun x _ => gives_det (by go_simp) (HCX.out x)) ?_
        try simp only [Act.put, List.getElem_toArray, List.getElem_cons_succ, List.getElem_cons_zero, List.setIfInBounds_toArray, List.set_cons_zero, List.set_cons_succ]
        refine spec_d rfl (fun x _ => gives_run (by go_simp)) ?_
        try simp only [Act.put, List.getElem_toArray, List.getElem_cons_succ, List.getElem_cons_zero, List.setIfInBounds_toArray, List.set_cons_zero, List.set_cons_succ]
        refine spec_d rfl (fun x _ => gives_run (by go_simp)) ?_
        try simp only [Act.put, List.getElem_toArray, List.getElem_cons_succ, List.getElem_cons_zero, List.setIfInBounds_toArray, List.set_cons_zero, List.set_cons_succ]
        refine spec_d rfl (fun x _ => gives_run (by go_simp)) ?_
        try simp only [Act.put, List.getElem_toArray, List.getElem_cons_succ, List.getElem_cons_zero, List.setIfInBounds_toArray, List.set_cons_zero, List.set_cons_succ]
        refine spec_d rfl (fun x _ => gives_run (by go_simp)) ?_
        try simp only [Act.put, List.getElem_toArray, List.getElem_cons_succ, List.getElem_cons_zero, List.setIfInBounds_toArray, List.set_cons_zero, List.set_cons_succ]
        refine spec_d rfl (fun x _ => gives_det (by go_simp) (HCY.out x)) ?_
        try simp only [Act.put, List.getElem_toArray, List.getElem_cons_succ, List.getElem_cons_zero, List.setIfInBounds_toArray, List.set_cons_zero, List.set_cons_succ]
        refine spec_g (NewL.stable _ _ _) (NewL.ex _ 29 (Nat.le_refl _) rfl) rfl (fun x _ => gives_ok (by go_simp) (bel_new _ _) (NewL.new (T := 29) x.below.size rfl)) ?_
        rintro vg ⟨xg, gg, rfl, _, _⟩
        try simp only [Act.put, List.getElem_toArray, List.getElem_cons_succ, List.getElem_cons_zero, List.setIfInBounds_toArray, List.set_cons_zero, List.set_cons_succ]
        refine spec_d rfl (fun x hx => gives_det_same (by go_simp) (HOR.out x.world gg (NewL.at (hx _ (List.mem_singleton.2 rfl) (by kernel_rfl))).2)) ?_
        try simp only [Act.put, List.getElem_toArray, List.getElem_cons_succ, List.getElem_cons_zero, List.setIfInBounds_toArray, List.set_cons_zero, List.set_cons_succ]
        refine spec_d rfl (fun x _ => gives_run (by go_simp)) ?_
        try simp only [Act.put, List.getElem_toArray, List.getElem_cons_succ, List.getElem_cons_zero, List.setIfInBounds_toArray, List.set_cons_zero, List.set_cons_succ]
        refine spec_end (fun x hx => ?_)
        clear hx
        refine wpAny_done (by kernel_rfl) ?_ _
        obtain ⟨x1, hx1⟩ := HKN.out x
        rw [hx1]
        clear S0 S1 S2 S3 S4 S5 S6 S7 HCX HCY HOR HKN HSK hx1 d0
        have d0 : Below x1.world.heap.size x1.world x1.world.drew := bel_drew _
        obtain ⟨S0, S1, S2, S3, S4, S5, S6, S7⟩ := o8 0 0 l (1 + y) 0 (1 + z) (-1) false ((HO75.out.kept x1.below).kept d0)
        obtain ⟨P, HPD⟩ : ∃ P, Hid (ppF (l - 80) (l - 40) j = P) := ⟨_, Lib.hid rfl⟩
        obtain ⟨pu, HPU⟩ : ∃ u, Hid (plF false (l - 80) (l - 40) j = u) := ⟨_, Lib.hid rfl⟩
        obtain ⟨pv, HPV⟩ : ∃ v, Hid (plF true (l - 80) (l - 40) j = v) := ⟨_, Lib.hid rfl⟩
        have hpu16 : pu < 16 := by rw [← HPU.out]; exact plF_lt _ _ _ _
        have hpv16 : pv < 16 := by rw [← HPV.out]; exact plF_lt _ _ _ _
        have hP16 : P < 16 := by rw [← HPD.out]; exact pp_lt _ _ _
        have HPUV : Hid (pu ||| pv = P) := Lib.hid (by rw [← HPU.out, ← HPV.out, ← HPD.out]; rfl)
        have hpls : Pls 0 l (l - 80) (l - 40) := .inr (.inr (.inr (.inl ⟨rfl, rfl, rfl⟩)))
        have HCX := Lib.hid (fun x : Kin x1.world.drew => spulse_any 0 0 l (1 + y) 0 (1 + z) (-1) false (l - 80) (l - 40) j false pu x.world (by omega) (by omega) hpls HPU.out)
        have HCY := Lib.hid (fun x : Kin x1.world.drew => spulse_any 0 0 l (1 + y) 0 (1 + z) (-1) false (l - 80) (l - 40) j true pv x.world (by omega) (by omega) hpls HPV.out)
        have HOR : Hid (∀ (W : World) (g : Nat), Lst W (some ⟨g, 0, none⟩) 2 [.int .u8 (pu : Int), .int .u8 (pv : Int)] → Calls Tryd.prog 15 #[.slice (some ⟨g, 0, none⟩) 2 2] W fun e w' => e = .returned (.int .u8 (P : Int)) ∧ W = w') := Lib.hid (fun W g hg => by
          have h := or_any (some ⟨g, 0, none⟩) 2 2 [pu, pv] W hg (by intro x hx; simp at hx; omega) (by omega)
          rw [show orL [pu, pv] = pu ||| pv by simp [orL], orr HPUV.out hP16] at h
          exact h)
        have HKN : Hid (∀ x : Kin x1.world.drew, ∃ x5 : Kin W5, x.world = x5.world) := Lib.hid (fun x => Kin.ex (x1.below.trans ((d0.trans x.below).mono x1.below.size)))
        clear HPU HPV HPUV hpls HUD HVD
        go_upto_region 11 with (fail)
        go_wp2_with fail
        refine wp_region_specL 9 [.d (.agg #[.int .i64 0, .int .i64 0, .int .i64 l, .int .i64 (1 + y), .int .i64 0, .int .i64 (1 + z), .int .i64 (-1), .bool false]), .d (.int .i64 j), .d (.int .u8 pu), .d (.agg #[.int .i64 0, .int .i64 0, .int .i64 l, .int .i64 (1 + y), .int .i64 0, .int .i64 (1 + z), .int .i64 (-1), .bool false]), .d (.int .i64 j), .d (.int .u8 pv), .g (NewL x1.world.heap.size 2 [.int .u8 (pu : Int), .int .u8 (pv : Int)]), .d (.int .u8 P), .d (.int .u8 P)] (by kernel_rfl) (by kernel_rfl) ?_
        refine spec_d rfl (fun x _ => gives_run (by go_simp)) ?_
        try simp only [Act.put, List.getElem_toArray, List.getElem_cons_succ, List.getElem_cons_zero, List.setIfInBounds_toArray, List.set_cons_zero, List.set_cons_succ]
        refine spec_d rfl (fun x _ => gives_run (by go_simp)) ?_
        try simp only [Act.put, List.getElem_toArray, List.getElem_cons_succ, List.getElem_cons_zero, List.setIfInBounds_toArray, List.set_cons_zero, List.set_cons_succ]
        refine spec_d rfl (fun x _ => gives_det (by go_simp) (HCX.out x)) ?_
        try simp only [Act.put, List.getElem_toArray, List.getElem_cons_succ, List.getElem_cons_zero, List.setIfInBounds_toArray, List.set_cons_zero, List.set_cons_succ]
        refine spec_d rfl (fun x _ => gives_run (by go_simp)) ?_
        try simp only [Act.put, List.getElem_toArray, List.getElem_cons_succ, List.getElem_cons_zero, List.setIfInBounds_toArray, List.set_cons_zero, List.set_cons_succ]
        refine spec_d rfl (fun x _ => gives_run (by go_simp)) ?_
        try simp only [Act.put, List.getElem_toArray, List.getElem_cons_succ, List.getElem_cons_zero, List.setIfInBounds_toArray, List.set_cons_zero, List.set_cons_succ]
        refine spec_d rfl (fun x _ => gives_det (by go_simp) (HCY.out x)) ?_
        try simp only [Act.put, List.getElem_toArray, List.getElem_cons_succ, List.getElem_cons_zero, List.setIfInBounds_toArray, List.set_cons_zero, List.set_cons_succ]
        refine spec_g (NewL.stable _ _ _) (NewL.ex _ 29 (Nat.le_refl _) rfl) rfl (fun x _ => gives_ok (by go_simp) (bel_new _ _) (NewL.new (T := 29) x.below.size rfl)) ?_
        rintro vg ⟨xg, gg, rfl, _, _⟩
        try simp only [Act.put, List.getElem_toArray, List.getElem_cons_succ, List.getElem_cons_zero, List.setIfInBounds_toArray, List.set_cons_zero, List.set_cons_succ]
        refine spec_d rfl (fun x hx => gives_det_same (by go_simp) (HOR.out x.world gg (NewL.at (hx _ (List.mem_singleton.2 rfl) (by kernel_rfl))).2)) ?_
        try simp only [Act.put, List.getElem_toArray, List.getElem_cons_succ, List.getElem_cons_zero, List.setIfInBounds_toArray, List.set_cons_zero, List.set_cons_succ]
        refine spec_d rfl (fun x _ => gives_run (by go_simp)) ?_
        try simp only [Act.put, List.getElem_toArray, List.getElem_cons_succ, List.getElem_cons_zero, List.setIfInBounds_toArray, List.set_cons_zero, List.set_cons_succ]
        refine spec_end (fun x hx => ?_)
        clear hx
        refine wpAny_done (by kernel_rfl) ?_ _
        obtain ⟨x2, hx2⟩ := HKN.out x
        rw [hx2]
        clear S0 S1 S2 S3 S4 S5 S6 S7 HCX HCY HOR HKN hx2 d0
        obtain ⟨S0, S1, S2, S3, S4, S5, S6, S7⟩ := o8 0 0 l (1 + y) 0 (1 + z) (-1) false HO75.out
        go_wp2_with fail
        refine (Calls.kin _ (HAT.out _)).mono ?_
        rintro e w' ⟨rfl, x3, rfl⟩
        obtain ⟨cR, hcR⟩ : ∃ q, cnt R 4 = q := ⟨_, rfl⟩
        obtain ⟨cP, hcP⟩ : ∃ q, cnt P 4 = q := ⟨_, rfl⟩
        have HCR := Lib.hid (fun W => count_any R W (by omega))
        have HCP := Lib.hid (fun W => count_any P W (by omega))
        rw [hcR] at HCR
        rw [hcP] at HCP
        have HPC : Hid (((P : Int) != 0) = false ∧ ((cP : Int) == 4) = false ∨ nn < 0 ∧ ((P : Int) != 0) = true ∧ ((cP : Int) == 4) = true) := Lib.hid (by
          rcases pp_cases (l - 80) (l - 40) j with ⟨h, _⟩ | ⟨h, h1, h2⟩
          · rw [HPD.out] at h
            rw [h, cnt0] at hcP
            exact .inl ⟨by rw [h]; rfl, by rw [← hcP]; rfl⟩
          · rw [HPD.out] at h
            rw [h, cnt15] at hcP
            exact .inr ⟨HQT.out h1, by rw [h]; rfl, by rw [← hcP]; rfl⟩)
        have HRZ : Hid (nn < 0 ∨ 8 * (m : Int) ≤ nn → ((R : Int) != 0) = false ∧ ((cR : Int) == 2) = false) := Lib.hid (fun h => by
          have e := lp_out (bs := bitsOf us) (t := t) (n := nn) (by rw [HBLN.out]; omega)
          rw [HRD.out] at e
          rw [e, cnt0] at hcR
          exact ⟨by rw [e]; rfl, by rw [← hcR]; rfl⟩)
        have HRY : Hid (∀ b, (bitsOf us)[nn.toNat]? = some b → 0 ≤ nn → R = bothN (Ly1.lvl b t) ∧ ((cR : Int) == 2) = true) := Lib.hid (fun b hb h => by
          have e := lp_in (bs := bitsOf us) (t := t) hb
          rw [Int.toNat_of_nonneg h, HRD.out] at e
          rw [e, (both_cnt _).1] at hcR
          exact ⟨e, by rw [← hcR]; rfl⟩)
        have HNX : Hid (bb = false → nxt (1 + y) (40 + 80 * cd) ((j + 1 : Nat) : Int) = N) := Lib.hid (fun h => by
          subst h
          have := nxt_no HNN.out HTT.out (by omega) hcd0 hcd1 HLKR.out
          rw [HN.out] at this
          exact_mod_cast this)
        have HNY : Hid (bb = true → nxt (1 + y) (40 + 80 * cd) ((j + 1 : Nat) : Int) = N + 1 ∧ N = 2 * nn + (if yk then 1 else 0) ∧ 0 ≤ nn ∧ (t = if yk then 15 else 5) ∧ mk = nn) := Lib.hid (fun h => by
          subst h
          obtain ⟨h1, h2, h3, h4, h5, h6⟩ := nxt_yes HNN.out HTT.out hcd0 hcd1 HLKR.out
          rw [HN.out] at h1 h2
          exact ⟨by exact_mod_cast h1, h2, h3, h5, h6⟩)
        have HBF : Hid (nn < 0 → bb = false) := Lib.hid (fun h => by
          rcases HLKR.out with ⟨_, _, _, h'⟩ | ⟨h', _⟩ | ⟨h', _⟩ | ⟨h', _⟩
          · exact h'
          · omega
          · omega
          · omega)
        clear hcR hcP HQT HPD HRD HLKR HNN HTT HN
        by_cases hneg : nn < 0
        · obtain ⟨hr0, hr2⟩ := HRZ.out (.inl hneg)
          obtain rfl := HBF.out hneg
          clear HRZ HRY HNY HBF
          rcases HPC.out with ⟨hp0, hp4⟩ | ⟨_, hp0, hp4⟩
          · clear HPC
            go_wp2_with fail
            refine (HCR.out _).mono ?_
            rintro e w' ⟨rfl, rfl⟩
            go_wp2_with fail
            refine (HCP.out _).mono ?_
            rintro e w' ⟨rfl, rfl⟩
            go_wp2_with fail
            refine (Calls.kin _ (HLK.out _)).mono ?_
            rintro e w' ⟨rfl, x4, rfl⟩
            go_wp2
            go_roundw
            case rel => exact ⟨j + 1, N, x4, by omega, by go_num, Lib.hid (HNX.out (by first | rfl | trivial)), rfl, rfl⟩
            case measure => simp [intOf]; omega
          · clear HPC
            go_wp2_with fail
            refine (HCR.out _).mono ?_
            rintro e w' ⟨rfl, rfl⟩
            go_wp2_with fail
            refine (HCP.out _).mono ?_
            rintro e w' ⟨rfl, rfl⟩
            go_wp2_with fail
            refine (Calls.kin _ (HLK.out _)).mono ?_
            rintro e w' ⟨rfl, x4, rfl⟩
            go_wp2
            go_roundw
            case rel => exact ⟨j + 1, N, x4, by omega, by go_num, Lib.hid (HNX.out (by first | rfl | trivial)), rfl, rfl⟩
            case measure => simp [intOf]; omega
        · have hpos : 0 ≤ nn := by omega
          obtain ⟨hp0, hp4⟩ : ((P : Int) != 0) = false ∧ ((cP : Int) == 4) = false := by rcases HPC.out with h | ⟨h, _⟩; exact h; exact absurd h hneg
          clear HPC hneg
          by_cases hout : ((8 * m : Nat) : Int) ≤ nn
          · obtain ⟨hr0, hr2⟩ := HRZ.out (.inr (by omega))
            have hdl : decide (nn < ((8 * m : Nat) : Int)) = false := decide_eq_false (by omega)
            clear HRZ HRY
            go_wp2_with fail
            refine (HCR.out _).mono ?_
            rintro e w' ⟨rfl, rfl⟩
            go_wp2_with fail
            refine (HCP.out _).mono ?_
            rintro e w' ⟨rfl, rfl⟩
            go_wp2_with fail
            refine (Calls.kin _ (HLK.out _)).mono ?_
            rintro e w' ⟨rfl, x4, rfl⟩
            cases bb
            · go_wp2
              go_roundw
              case rel => exact ⟨j + 1, N, x4, by omega, by go_num, Lib.hid (HNX.out (by first | rfl | trivial)), rfl, rfl⟩
              case measure => simp [intOf]; omega
            · obtain ⟨hnx, hN2, hn0, htt, rfl⟩ := HNY.out (by first | rfl | trivial)
              have HNX2 := Lib.hid hnx
              clear HNX HNY HBF hnx
              have hmk : 0 ≤ mk := hn0
              cases yk
              · have hN3 : N = 2 * mk := by simpa using hN2
                clear hN2
                subst hN3
                have hq1 : (2 * mk).tdiv 2 = mk := by rw [Int.tdiv_eq_ediv_of_nonneg (by omega)]; omega
                have hq2 : wrap64 mk = mk := wq64 (by omega) (by omega)
                have hq3 : (2 * mk).tmod 2 = 0 := by rw [Int.tmod_eq_emod_of_nonneg (by omega)]; omega
                have hq4 : IntKind.i64.wrap (2 * mk + 1) = 2 * mk + 1 := IntWalk.i64_in _ (by omega)
                have hq5 : IntKind.i64.wrap mk = mk := IntWalk.i64_in _ (by omega)
                go_wp2
                go_roundw
                case rel => exact ⟨j + 1, _, x4, by omega, by go_num, HNX2, rfl, rfl⟩
                case measure => simp [intOf]; omega
              · have hN3 : N = 2 * mk + 1 := by simpa using hN2
                clear hN2
                subst hN3
                have hq1 : (2 * mk + 1).tdiv 2 = mk := by rw [Int.tdiv_eq_ediv_of_nonneg (by omega)]; omega
                have hq2 : wrap64 mk = mk := wq64 (by omega) (by omega)
                have hq3 : (2 * mk + 1).tmod 2 = 1 := by rw [Int.tmod_eq_emod_of_nonneg (by omega)]; omega
                have hq4 : IntKind.i64.wrap (2 * mk + 1 + 1) = 2 * mk + 1 + 1 := IntWalk.i64_in _ (by omega)
                have hq5 : IntKind.i64.wrap mk = mk := IntWalk.i64_in _ (by omega)
                go_wp2
                go_roundw
                case rel => exact ⟨j + 1, _, x4, by omega, by go_num, HNX2, rfl, rfl⟩
                case measure => simp [intOf]; omega
          · have hin : nn < ((8 * m : Nat) : Int) := by omega
            obtain ⟨q, rfl⟩ : ∃ q : Nat, nn = (q : Int) := ⟨nn.toNat, by omega⟩
            have hq8 : q < 8 * m := by omega
            have hq64 : q < 64 := by omega
            have hql : q < (bitsOf us).length := by rw [HBLN.out]; exact hq8
            obtain ⟨bt, hbt⟩ : ∃ bt, (bitsOf us)[q]? = some bt := ⟨_, List.getElem?_eq_getElem hql⟩
            obtain ⟨hR, hr2⟩ := HRY.out bt (by rw [Int.toNat_natCast]; exact hbt) hpos
            have HRR := Lib.hid hR
            have HBT := Lib.hid hbt
            clear HRZ HRY hout hR hbt hql
            obtain ⟨bd, od, rfl, hbdl, hcd⟩ := HLD.out.get hq8
            have HCD : Hid (W5.cell? ⟨bd, od + q, none⟩ = some (.bool bt)) := Lib.hid (by
              rw [hcd]
              congr 1
              rw [List.getElem_map]
              congr 1
              have := HBT.out
              rw [List.getElem?_eq_getElem (by rw [HBLN.out]; exact hq8)] at this
              exact Option.some.inj this)
            have HBDL := Lib.hid hbdl
            clear hcd hbdl HBT
            go_wp2_with fail
            refine (HCR.out _).mono ?_
            rintro e w' ⟨rfl, rfl⟩
            go_wp2_with fail
            refine (HCP.out _).mono ?_
            rintro e w' ⟨rfl, rfl⟩
            go_wp2_with fail
            refine (Calls.kin _ (HLK.out _)).mono ?_
            rintro e w' ⟨rfl, x4, rfl⟩
            cases bb
            · go_wp2
              go_roundw
              case rel => exact ⟨j + 1, N, x4, by omega, by go_num, Lib.hid (HNX.out (by first | rfl | trivial)), rfl, rfl⟩
              case measure => simp [intOf]; omega
            · obtain ⟨hnx, hN2, hn0, htt, hmkq⟩ := HNY.out (by first | rfl | trivial)
              subst hmkq
              have HNX2 := Lib.hid hnx
              have HTT := Lib.hid htt
              clear HNX HNY HBF hnx htt
              cases yk <;> cases bt
              · have hN3 : N = 2 * (q : Int) := by simpa using hN2
                clear hN2
                subst hN3
                obtain ⟨hq1, hq2, hq3, hq4, hq5⟩ := nums0 q hq64
                have HSA : Hid (∀ W : World, Up W → Calls Tryd.prog 21 #[.int .u8 (R : Int)] W fun e w' => e = .returned (.agg #[.bool false, .bool false, .bool false, .bool false]) ∧ Below W.heap.size W w') := Lib.hid (fun W hW => by
                  have hRb : R = bothN false := by rw [HRR.out, HTT.out, lv_ff]
                  rw [hRb]
                  exact says_both false W hW)
                clear HRR HTT
                go_wp2_with fail
                refine (Calls.kin _ (HSA.out _ (HU.out.kept (Kin.up x4 HB5.out)))).mono ?_
                rintro e w' ⟨rfl, x5, rfl⟩
                go_upto_region 23 with (fail)
                obtain ⟨W6, HW6⟩ : ∃ W6, W6 = x5.world.alloc (.cells #[.bool false, .bool false, .bool false, .bool false] 38) := ⟨_, rfl⟩
                have hb6 : Below x5.world.heap.size x5.world W6 := by rw [HW6]; exact bel_new _ _
                have HO6 : Obj1 W6 x5.world.heap.size 38 #[.bool false, .bool false, .bool false, .bool false] := by rw [HW6]; exact Obj1.new _ _ _
                obtain ⟨g19, HG19⟩ : ∃ g, Hid (x5.world.heap.size = g) := ⟨_, Lib.hid rfl⟩
                rw [← HW6]
                rw [HG19.out] at HO6 ⊢
                clear HW6
                have B0 : ∀ x : Kin W6, x.world.cell? ⟨g19, 0, none⟩ = some (.bool false) := fun x => (HO6.kept x.below).cell 0
                have B1 : ∀ x : Kin W6, x.world.cell? ⟨g19, 1, none⟩ = some (.bool false) := fun x => (HO6.kept x.below).cell 1
                have B2 : ∀ x : Kin W6, x.world.cell? ⟨g19, 2, none⟩ = some (.bool false) := fun x => (HO6.kept x.below).cell 2
                have B3 : ∀ x : Kin W6, x.world.cell? ⟨g19, 3, none⟩ = some (.bool false) := fun x => (HO6.kept x.below).cell 3
                have H56 : Hid (∀ x : Kin W6, ∃ x7 : Kin W5, x.world = x7.world) := Lib.hid (fun x => Kin.ex (x5.below.trans ((hb6.trans (x.below.mono hb6.size)).mono x5.below.size)))
                have BD : ∀ x : Kin W6, x.world.cell? ⟨bd, od + q, none⟩ = some (.bool false) := fun x => by
                  obtain ⟨x7, e⟩ := H56.out x
                  rw [e]
                  exact (x7.below.cell (p := ⟨bd, od + q, none⟩) HBDL.out).trans HCD.out
                obtain ⟨x6, hx6⟩ : ∃ x6 : Kin W6, x6.world = W6 := ⟨Kin.me _, rfl⟩
                rw [← hx6]
                clear hx6 hb6 HO6 S0 S1 S2 S3 S4 S5 S6 S7
                go_wp2_with fail
                refine wp_loop_rounds 5 ?_
                rw [rounds_succ]
                go_wp2_with fail
                refine wp_region_kin2 (by kernel_rfl) (by kernel_rfl) ?_
                repeat (go_big_quiet_step (fail))
                refine wpQuiet_nil ?_
                intro _ hw'
                obtain ⟨kx, hw''⟩ := hw'
                subst hw''
                go_wp2_with fail
                rw [rounds_succ]
                go_wp2_with fail
                refine wp_region_kin2 (by kernel_rfl) (by kernel_rfl) ?_
                repeat (go_big_quiet_step (fail))
                refine wpQuiet_nil ?_
                intro _ hw'
                obtain ⟨kx, hw''⟩ := hw'
                subst hw''
                go_wp2_with fail
                rw [rounds_succ]
                go_wp2_with fail
                refine wp_region_kin2 (by kernel_rfl) (by kernel_rfl) ?_
                repeat (go_big_quiet_step (fail))
                refine wpQuiet_nil ?_
                intro _ hw'
                obtain ⟨kx, hw''⟩ := hw'
                subst hw''
                go_wp2_with fail
                rw [rounds_succ]
                go_wp2_with fail
                refine wp_region_kin2 (by kernel_rfl) (by kernel_rfl) ?_
                repeat (go_big_quiet_step (fail))
                refine wpQuiet_nil ?_
                intro _ hw'
                obtain ⟨kx, hw''⟩ := hw'
                subst hw''
                go_wp2_with fail
                rw [rounds_succ]
                go_wp2_with fail
                obtain ⟨x8, hx8⟩ := H56.out ‹Kin W6›
                rw [hx8]
                go_wp2
                go_roundw
                case rel => exact ⟨j + 1, _, x8, by omega, by go_num, HNX2, rfl, rfl⟩
                case measure => simp [intOf]; omega
              · have hN3 : N = 2 * (q : Int) := by simpa using hN2
                clear hN2
                subst hN3
                obtain ⟨hq1, hq2, hq3, hq4, hq5⟩ := nums0 q hq64
                have HSA : Hid (∀ W : World, Up W → Calls Tryd.prog 21 #[.int .u8 (R : Int)] W fun e w' => e = .returned (.agg #[.bool true, .bool true, .bool true, .bool true]) ∧ Below W.heap.size W w') := Lib.hid (fun W hW => by
                  have hRb : R = bothN true := by rw [HRR.out, HTT.out, lv_ft]
                  rw [hRb]
                  exact says_both true W hW)
                clear HRR HTT
                go_wp2_with fail
                refine (Calls.kin _ (HSA.out _ (HU.out.kept (Kin.up x4 HB5.out)))).mono ?_
                rintro e w' ⟨rfl, x5, rfl⟩
                go_upto_region 23 with (fail)
                obtain ⟨W6, HW6⟩ : ∃ W6, W6 = x5.world.alloc (.cells #[.bool true, .bool true, .bool true, .bool true] 38) := ⟨_, rfl⟩
                have hb6 : Below x5.world.heap.size x5.world W6 := by rw [HW6]; exact bel_new _ _
                have HO6 : Obj1 W6 x5.world.heap.size 38 #[.bool true, .bool true, .bool true, .bool true] := by rw [HW6]; exact Obj1.new _ _ _
                obtain ⟨g19, HG19⟩ : ∃ g, Hid (x5.world.heap.size = g) := ⟨_, Lib.hid rfl⟩
                rw [← HW6]
                rw [HG19.out] at HO6 ⊢
                clear HW6
                have B0 : ∀ x : Kin W6, x.world.cell? ⟨g19, 0, none⟩ = some (.bool true) := fun x => (HO6.kept x.below).cell 0
                have B1 : ∀ x : Kin W6, x.world.cell? ⟨g19, 1, none⟩ = some (.bool true) := fun x => (HO6.kept x.below).cell 1
                have B2 : ∀ x : Kin W6, x.world.cell? ⟨g19, 2, none⟩ = some (.bool true) := fun x => (HO6.kept x.below).cell 2
                have B3 : ∀ x : Kin W6, x.world.cell? ⟨g19, 3, none⟩ = some (.bool true) := fun x => (HO6.kept x.below).cell 3
                have H56 : Hid (∀ x : Kin W6, ∃ x7 : Kin W5, x.world = x7.world) := Lib.hid (fun x => Kin.ex (x5.below.trans ((hb6.trans (x.below.mono hb6.size)).mono x5.below.size)))
                have BD : ∀ x : Kin W6, x.world.cell? ⟨bd, od + q, none⟩ = some (.bool true) := fun x => by
                  obtain ⟨x7, e⟩ := H56.out x
                  rw [e]
                  exact (x7.below.cell (p := ⟨bd, od + q, none⟩) HBDL.out).trans HCD.out
                obtain ⟨x6, hx6⟩ : ∃ x6 : Kin W6, x6.world = W6 := ⟨Kin.me _, rfl⟩
                rw [← hx6]
                clear hx6 hb6 HO6 S0 S1 S2 S3 S4 S5 S6 S7
                go_wp2_with fail
                refine wp_loop_rounds 5 ?_
                rw [rounds_succ]
                go_wp2_with fail
                refine wp_region_kin2 (by kernel_rfl) (by kernel_rfl) ?_
                repeat (go_big_quiet_step (fail))
                refine wpQuiet_nil ?_
                intro _ hw'
                obtain ⟨kx, hw''⟩ := hw'
                subst hw''
                go_wp2_with fail
                rw [rounds_succ]
                go_wp2_with fail
                refine wp_region_kin2 (by kernel_rfl) (by kernel_rfl) ?_
                repeat (go_big_quiet_step (fail))
                refine wpQuiet_nil ?_
                intro _ hw'
                obtain ⟨kx, hw''⟩ := hw'
                subst hw''
                go_wp2_with fail
                rw [rounds_succ]
                go_wp2_with fail
                refine wp_region_kin2 (by kernel_rfl) (by kernel_rfl) ?_
                repeat (go_big_quiet_step (fail))
                refine wpQuiet_nil ?_
                intro _ hw'
                obtain ⟨kx, hw''⟩ := hw'
                subst hw''
                go_wp2_with fail
                rw [rounds_succ]
                go_wp2_with fail
                refine wp_region_kin2 (by kernel_rfl) (by kernel_rfl) ?_
                repeat (go_big_quiet_step (fail))
                refine wpQuiet_nil ?_
                intro _ hw'
                obtain ⟨kx, hw''⟩ := hw'
                subst hw''
                go_wp2_with fail
                rw [rounds_succ]
                go_wp2_with fail
                obtain ⟨x8, hx8⟩ := H56.out ‹Kin W6›
                rw [hx8]
                go_wp2
                go_roundw
                case rel => exact ⟨j + 1, _, x8, by omega, by go_num, HNX2, rfl, rfl⟩
                case measure => simp [intOf]; omega
              · have hN3 : N = 2 * (q : Int) + 1 := by simpa using hN2
                clear hN2
                subst hN3
                obtain ⟨hq1, hq2, hq3, hq4, hq5⟩ := nums1 q hq64
                have HSA : Hid (∀ W : World, Up W → Calls Tryd.prog 21 #[.int .u8 (R : Int)] W fun e w' => e = .returned (.agg #[.bool true, .bool true, .bool true, .bool true]) ∧ Below W.heap.size W w') := Lib.hid (fun W hW => by
                  have hRb : R = bothN true := by rw [HRR.out, HTT.out, lv_tf]
                  rw [hRb]
                  exact says_both true W hW)
                clear HRR HTT
                go_wp2_with fail
                refine (Calls.kin _ (HSA.out _ (HU.out.kept (Kin.up x4 HB5.out)))).mono ?_
                rintro e w' ⟨rfl, x5, rfl⟩
                go_upto_region 23 with (fail)
                obtain ⟨W6, HW6⟩ : ∃ W6, W6 = x5.world.alloc (.cells #[.bool true, .bool true, .bool true, .bool true] 38) := ⟨_, rfl⟩
                have hb6 : Below x5.world.heap.size x5.world W6 := by rw [HW6]; exact bel_new _ _
                have HO6 : Obj1 W6 x5.world.heap.size 38 #[.bool true, .bool true, .bool true, .bool true] := by rw [HW6]; exact Obj1.new _ _ _
                obtain ⟨g19, HG19⟩ : ∃ g, Hid (x5.world.heap.size = g) := ⟨_, Lib.hid rfl⟩
                rw [← HW6]
                rw [HG19.out] at HO6 ⊢
                clear HW6
                have B0 : ∀ x : Kin W6, x.world.cell? ⟨g19, 0, none⟩ = some (.bool true) := fun x => (HO6.kept x.below).cell 0
                have B1 : ∀ x : Kin W6, x.world.cell? ⟨g19, 1, none⟩ = some (.bool true) := fun x => (HO6.kept x.below).cell 1
                have B2 : ∀ x : Kin W6, x.world.cell? ⟨g19, 2, none⟩ = some (.bool true) := fun x => (HO6.kept x.below).cell 2
                have B3 : ∀ x : Kin W6, x.world.cell? ⟨g19, 3, none⟩ = some (.bool true) := fun x => (HO6.kept x.below).cell 3
                have H56 : Hid (∀ x : Kin W6, ∃ x7 : Kin W5, x.world = x7.world) := Lib.hid (fun x => Kin.ex (x5.below.trans ((hb6.trans (x.below.mono hb6.size)).mono x5.below.size)))
                have BD : ∀ x : Kin W6, x.world.cell? ⟨bd, od + q, none⟩ = some (.bool false) := fun x => by
                  obtain ⟨x7, e⟩ := H56.out x
                  rw [e]
                  exact (x7.below.cell (p := ⟨bd, od + q, none⟩) HBDL.out).trans HCD.out
                obtain ⟨x6, hx6⟩ : ∃ x6 : Kin W6, x6.world = W6 := ⟨Kin.me _, rfl⟩
                rw [← hx6]
                clear hx6 hb6 HO6 S0 S1 S2 S3 S4 S5 S6 S7
                go_wp2_with fail
                refine wp_loop_rounds 5 ?_
                rw [rounds_succ]
                go_wp2_with fail
                refine wp_region_kin2 (by kernel_rfl) (by kernel_rfl) ?_
                repeat (go_big_quiet_step (fail))
                refine wpQuiet_nil ?_
                intro _ hw'
                obtain ⟨kx, hw''⟩ := hw'
                subst hw''
                go_wp2_with fail
                rw [rounds_succ]
                go_wp2_with fail
                refine wp_region_kin2 (by kernel_rfl) (by kernel_rfl) ?_
                repeat (go_big_quiet_step (fail))
                refine wpQuiet_nil ?_
                intro _ hw'
                obtain ⟨kx, hw''⟩ := hw'
                subst hw''
                go_wp2_with fail
                rw [rounds_succ]
                go_wp2_with fail
                refine wp_region_kin2 (by kernel_rfl) (by kernel_rfl) ?_
                repeat (go_big_quiet_step (fail))
                refine wpQuiet_nil ?_
                intro _ hw'
                obtain ⟨kx, hw''⟩ := hw'
                subst hw''
                go_wp2_with fail
                rw [rounds_succ]
                go_wp2_with fail
                refine wp_region_kin2 (by kernel_rfl) (by kernel_rfl) ?_
                repeat (go_big_quiet_step (fail))
                refine wpQuiet_nil ?_
                intro _ hw'
                obtain ⟨kx, hw''⟩ := hw'
                subst hw''
                go_wp2_with fail
                rw [rounds_succ]
                go_wp2_with fail
                obtain ⟨x8, hx8⟩ := H56.out ‹Kin W6›
                rw [hx8]
                go_wp2
                go_roundw
                case rel => exact ⟨j + 1, _, x8, by omega, by go_num, HNX2, rfl, rfl⟩
                case measure => simp [intOf]; omega
              · have hN3 : N = 2 * (q : Int) + 1 := by simpa using hN2
                clear hN2
                subst hN3
                obtain ⟨hq1, hq2, hq3, hq4, hq5⟩ := nums1 q hq64
                have HSA : Hid (∀ W : World, Up W → Calls Tryd.prog 21 #[.int .u8 (R : Int)] W fun e w' => e = .returned (.agg #[.bool false, .bool false, .bool false, .bool false]) ∧ Below W.heap.size W w') := Lib.hid (fun W hW => by
                  have hRb : R = bothN false := by rw [HRR.out, HTT.out, lv_tt]
                  rw [hRb]
                  exact says_both false W hW)
                clear HRR HTT
                go_wp2_with fail
                refine (Calls.kin _ (HSA.out _ (HU.out.kept (Kin.up x4 HB5.out)))).mono ?_
                rintro e w' ⟨rfl, x5, rfl⟩
                go_upto_region 23 with (fail)
                obtain ⟨W6, HW6⟩ : ∃ W6, W6 = x5.world.alloc (.cells #[.bool false, .bool false, .bool false, .bool false] 38) := ⟨_, rfl⟩
                have hb6 : Below x5.world.heap.size x5.world W6 := by rw [HW6]; exact bel_new _ _
                have HO6 : Obj1 W6 x5.world.heap.size 38 #[.bool false, .bool false, .bool false, .bool false] := by rw [HW6]; exact Obj1.new _ _ _
                obtain ⟨g19, HG19⟩ : ∃ g, Hid (x5.world.heap.size = g) := ⟨_, Lib.hid rfl⟩
                rw [← HW6]
                rw [HG19.out] at HO6 ⊢
                clear HW6
                have B0 : ∀ x : Kin W6, x.world.cell? ⟨g19, 0, none⟩ = some (.bool false) := fun x => (HO6.kept x.below).cell 0
                have B1 : ∀ x : Kin W6, x.world.cell? ⟨g19, 1, none⟩ = some (.bool false) := fun x => (HO6.kept x.below).cell 1
                have B2 : ∀ x : Kin W6, x.world.cell? ⟨g19, 2, none⟩ = some (.bool false) := fun x => (HO6.kept x.below).cell 2
                have B3 : ∀ x : Kin W6, x.world.cell? ⟨g19, 3, none⟩ = some (.bool false) := fun x => (HO6.kept x.below).cell 3
                have H56 : Hid (∀ x : Kin W6, ∃ x7 : Kin W5, x.world = x7.world) := Lib.hid (fun x => Kin.ex (x5.below.trans ((hb6.trans (x.below.mono hb6.size)).mono x5.below.size)))
                have BD : ∀ x : Kin W6, x.world.cell? ⟨bd, od + q, none⟩ = some (.bool true) := fun x => by
                  obtain ⟨x7, e⟩ := H56.out x
                  rw [e]
                  exact (x7.below.cell (p := ⟨bd, od + q, none⟩) HBDL.out).trans HCD.out
                obtain ⟨x6, hx6⟩ : ∃ x6 : Kin W6, x6.world = W6 := ⟨Kin.me _, rfl⟩
                rw [← hx6]
                clear hx6 hb6 HO6 S0 S1 S2 S3 S4 S5 S6 S7
                go_wp2_with fail
                refine wp_loop_rounds 5 ?_
                rw [rounds_succ]
                go_wp2_with fail
                refine wp_region_kin2 (by kernel_rfl) (by kernel_rfl) ?_
                repeat (go_big_quiet_step (fail))
                refine wpQuiet_nil ?_
                intro _ hw'
                obtain ⟨kx, hw''⟩ := hw'
                subst hw''
                go_wp2_with fail
                rw [rounds_succ]
                go_wp2_with fail
                refine wp_region_kin2 (by kernel_rfl) (by kernel_rfl) ?_
                repeat (go_big_quiet_step (fail))
                refine wpQuiet_nil ?_
                intro _ hw'
                obtain ⟨kx, hw''⟩ := hw'
                subst hw''
                go_wp2_with fail
                rw [rounds_succ]
                go_wp2_with fail
                refine wp_region_kin2 (by kernel_rfl) (by kernel_rfl) ?_
                repeat (go_big_quiet_step (fail))
                refine wpQuiet_nil ?_
                intro _ hw'
                obtain ⟨kx, hw''⟩ := hw'
                subst hw''
                go_wp2_with fail
                rw [rounds_succ]
                go_wp2_with fail
                refine wp_region_kin2 (by kernel_rfl) (by kernel_rfl) ?_
                repeat (go_big_quiet_step (fail))
                refine wpQuiet_nil ?_
                intro _ hw'
                obtain ⟨kx, hw''⟩ := hw'
                subst hw''
                go_wp2_with fail
                rw [rounds_succ]
                go_wp2_with fail
                obtain ⟨x8, hx8⟩ := H56.out ‹Kin W6›
                rw [hx8]
                go_wp2
                go_roundw
                case rel => exact ⟨j + 1, _, x8, by omega, by go_num, HNX2, rfl, rfl⟩
                case measure => simp [intOf]; omega
      · obtain hjl' : l ≤ (j : Int) := by omega
        have HN16 : Hid (N = 16 * (1 + y)) := Lib.hid (by rw [← HN.out]; exact HNL.out _ hjl')
        obtain rfl := HN16.out
        have c3 := (HO75.out.kept x0.below).cell 3
        simp at c3
        have hw16 : IntKind.i64.wrap (16 * (1 + y)) = 16 * (1 + y) := IntWalk.i64_in _ (by omega)
        go_wp2_with fail
        refine (One14.one_any _ (HU.out.kept (Kin.up x0 HB5.out))).mono ?_
        rintro e w8 ⟨rfl, hb8⟩
        have HEE := Lib.hid ((Kin.up x0 HB5.out).trans (hb8.mono (Kin.up x0 HB5.out).size))
        clear hb8
        go_wp2
        go_ret
        exact ⟨rfl, HEE.out⟩
abbrev sh2 : Sh := .ar 2 (.int .i64)
theorem gUp : Tryd.prog.globalNamed "busbar/wires.upright" = some 0 := by kernel_rfl
theorem tUp : (Tryd.prog.globals[0]?).map (·.type) = some 38 := by kernel_rfl
theorem of_laid {W : World} (h : laidMetH Tryd.prog Rows.serialWholeRow.laid W) : Up W := by
  rw [MakeChecks.laidMetH_plain _ _ _ (by kernel_rfl)] at h
  obtain ⟨ps, ⟨g0, t0, cs0, f0, p0, q0, hg0, ht0, hv0, hd0, _, _⟩, _, _⟩ := h
  obtain rfl := Option.some.inj (gUp.symm.trans hg0)
  obtain rfl := Option.some.inj (tUp.symm.trans ht0)
  have e := exact_cells (sh := .ar 4 .bool) 10 rfl (by kernel_rfl) hd0 rfl
  obtain ⟨l0⟩ := cs0
  simp at e
  subst e
  exact ⟨by simpa using World.var?_cell hg0 hv0 0, by simpa using World.var?_cell hg0 hv0 1, by simpa using World.var?_cell hg0 hv0 2, by simpa using World.var?_cell hg0 hv0 3⟩
theorem walk (s : Array Value) (cn : Int) (wA : Option Addr) (wn wc : Nat) (ws : List Int) (w : World) (hU : Up w) (rs : Reads w sh2 s.toList) (_ : -9223372036854775808 ≤ cn) (_ : cn ≤ 9223372036854775807) (hl : Lst w wA wn (ws.map (Value.int .u8))) (hx : ∀ x ∈ ws, 0 ≤ x ∧ x ≤ 255) (hnc : wn ≤ wc) (hcm : wc ≤ maxLen) :
    Calls Tryd.prog 3 #[.agg s, .int .i64 cn, .slice wA wn wc] w fun e w' => e = .returned (.bool true) ∧ Below w.heap.size w w' := by
  unfold maxLen at hcm
  obtain ⟨s0, s1, rfl, _, _⟩ := ar_two rs
  obtain ⟨us, eu, hu⟩ := nats_in ws hx
  rw [eu] at hl
  exact go s0 s1 cn wA wn wc us w hl hu hnc (by omega) hU

theorem door_met (os : Os) (args : Array Value) : laidMetH Tryd.prog Rows.serialWholeRow.laid ((World.doorLaid Tryd.prog 400 os).forCall (fun _ _ => 0) ⟨#[], args, []⟩).memory :=
  laidMetH_of_parts3 (fuel := 8) (laidMet_of_run' 8 (by kernel_rfl) (by kernel_rfl)) (by kernel_rfl) (by kernel_rfl)
set_option maxRecDepth 100000 in
theorem lifted (os : Os) (started : os.Started) (H : Type) (enc : TypeId × Value → H) :
    ReturnsInHanded {} Tryd.checked os 3 .any (fun w args => (Rows.serialWholeSpec.pre enc Tryd.prog Tryd.f3 [] false w args ∧ laidMetH Tryd.prog Rows.serialWholeRow.laid w) ∧ sizedMet enc Tryd.prog Tryd.f3 (OpenSpec.ofChange Rows.serialWholeSpec) false w args)
      (Rows.serialWholeSpec.post enc Tryd.prog Tryd.f3 false true false false) := by
  refine returnsInHanded_of_change_and (C := Tryd.checked) (X := fun w _ => laidMetH Tryd.prog Rows.serialWholeRow.laid w) (fun _ _ _ hh h => h.of_heap hh) own started (by kernel_rfl) Tryd.func3
    (ChangeSpec.witness_shaped (enc := enc) (C := Tryd.checked) (os := os) (X := fun w _ => laidMetH Tryd.prog Rows.serialWholeRow.laid w) false (World.doorLaid Tryd.prog 400 os) #[.agg #[.int .i64 0, .int .i64 0], .int .i64 0, .slice none 0 0] 8 rfl (World.shaped_of_RefB (by kernel_rfl) (by kernel_rfl)) (by kernel_rfl) (by kernel_rfl) (by kernel_rfl) (door_met os _)) ?_
  intro W base args ds gs before hval0 hW _ _ hL _
  have hval : ∀ (j : Nat) t v, Tryd.f3.params[j]? = some t → args[j]? = some v → Value.okWide Tryd.prog W .any base t v := hval0
  have hW' := hW
  obtain ⟨p, q, hA0, hV, rfl, hfz, hnd⟩ := hW
  have hA : DataW.TrodAll enc Tryd.prog W 0 (fun _ => true) true Tryd.f3.params.toList args.toList ds p := hA0
  rw [Tryd.params3] at hA hval
  obtain ⟨v0, vs0, d0, ds0, p0, q0, hargs, rfl, rfl, h0, r0⟩ := trodAll_cons hA
  obtain ⟨v1, vs1, d1, ds1, p1, q1, rfl, rfl, rfl, h1, r1⟩ := trodAll_cons r0
  obtain ⟨v2, vs2, d2, ds2, p2, q2, rfl, rfl, rfl, h2, r2⟩ := trodAll_cons r1
  obtain ⟨rfl, rfl, rfl⟩ := trodAll_nil r2
  obtain rfl : args = #[v0, v1, v2] := by cases args; simp_all
  obtain ⟨rfl, rfl⟩ := trodVars_none hV
  have k0 := h0
  have lt0 : ∀ x ∈ p0, x.block < W.heap.size := by obtain ⟨m, hm⟩ := k0; exact DataW.trod_lt m _ _ _ hm
  obtain ⟨s, rfl⟩ := okWide_agg (by first | exact .inl ⟨_, Tryd.underlying22⟩ | exact .inr ⟨_, _, Tryd.underlying22⟩) (hval 0 22 v0 rfl rfl)
  have rd0 := reads_cells (sh := sh2) 30 (by kernel_rfl) k0
  obtain ⟨cn, rfl, rfl, rfl, wf1⟩ := open_int Tryd.underlying3 (hval 1 3 v1 rfl rfl) h1
  have bd1 := bounds_i64 wf1
  have k2 := h2
  have lt2 : ∀ x ∈ p2, x.block < W.heap.size := by obtain ⟨m, hm⟩ := k2; exact DataW.trod_lt m _ _ _ hm
  obtain ⟨wA, wn, wc, rfl⟩ := okWide_slice Tryd.underlying23 (hval 2 23 v2 rfl rfl)
  obtain ⟨w, l2, b2, cb2, cc2⟩ := lst_ints Tryd.underlying23 Tryd.underlying5 (by kernel_rfl) k2
  clear hA0 hval0
  refine (walk s cn wA wn wc w W (of_laid hL) rd0 bd1.1 bd1.2 l2 (ints_u8 b2) cb2 cc2).mono fun e W' ⟨he, bel⟩ => ?_
  subst he
  exact ⟨_, rfl, _, _, _, [], _, [], hW', trodAll_mk1 (shut_bool Tryd.underlying4 _), (trodAll_cons_mk (Below.trod laidOut (by kernel_rfl) (of_decide_eq_true (by kernel_rfl)) k0 bel lt0) (trodAll_cons_mk (shut_int Tryd.underlying3 wf1) (trodAll_cons_mk (Below.trod laidOut (by kernel_rfl) (of_decide_eq_true (by kernel_rfl)) k2 bel lt2) trodAll_mk0))), rfl, bel.frame _, fun h => by cases h⟩

theorem over : Rows.serialWholeRow.holds Tryd.pinned (OpenSpec.ofChange Rows.serialWholeSpec) :=
  OpenClaim.holds_of_wide 3 Tryd.f3 rfl rfl rfl rfl rfl rfl rfl ⟨rfl, rfl, rfl, rfl, rfl⟩ rfl rfl rfl rfl rfl (by kernel_rfl) Tryd.func3 (by kernel_rfl)
    (of_decide_eq_true (by kernel_rfl)) (by unfold Func.isWrapper; first | (rw [if_pos (by decide +kernel)]; kernel_rfl) | (rw [if_neg (by decide +kernel)]; exact ⟨rfl, rfl⟩))
    (fun os started H enc _ => lifted os started H enc)

/-- The card: what the row lists is tied to the program's text. -/
theorem proved : Rows.SerialWholeCardSaid :=
  Claim7.holds_tied_plain_at .later [] [.data] true Rows.serialWholeCard.stood.harness false
    over (fun _ h => by cases h) (by kernel_rfl) (fun _ h => by cases h) serialWhole_row_tie rfl ⟨rfl, rfl⟩ (by kernel_rfl) rfl
    (fun f fn hf hfn => by
      obtain rfl : f = 3 := Option.some.inj ((show Tryd.prog.funcNamed "busbar/busbarlaw14.SerialWhole" = some 3 by kernel_rfl).symm.trans hf) |>.symm
      obtain rfl : fn = Tryd.f3 := (Option.some.inj (Tryd.func3.symm.trans hfn)).symm
      exact ⟨by kernel_rfl, fun j t ht => by
        rw [Tryd.params3] at ht
        have hm : t ∈ [22, 3, 23] := by simpa using Array.mem_of_getElem? ht
        have hall : ([22, 3, 23].all fun u => !Tryd.prog.wantsStandIn u) = true := by kernel_rfl
        exact (show Tryd.prog.wantsStandIn t = false by simpa using List.all_eq_true.1 hall t hm)⟩)
    (by kernel_rfl)
end Go.Proofs.YtnbcegijncdmaaaDoor.lawSerialWhole
