/- Of a message that is sent each line says each bit, wherever a clock that looks is up to 5 ticks ahead, or 4 behind; where one line is driven otherwise the other three do: for every words, line and move; no condition but that the table of the lines is as the program's text lays it, which the card ties. -/
import Derived.RegionTactic
import Derived.IntWalk
import Derived.Deep.DeepCutAuto
import Derived.Deep.CutBlock
import Derived.Test.YtnbcegijncdmaaaDoorSntA
import Derived.Test.YtnbcegijncdmaaaDoorShgC
import Derived.Test.YtnbcegijncdmaaaDoorShfC
import Derived.Test.YtnbcegijncdmaaaDoorGatC
import Derived.Test.YtnbcegijncdmaaaDoorSh
import Derived.Test.YtnbcegijncdmaaaDoorShAr
import Derived.Test.YtnbcegijncdmaaaDoorPush
import Derived.Test.YtnbcegijncdmaaaDoorTie
import Derived.Test.YtnbcegijncdmaaaDoorCards
import Derived.Test.YtnbcegijncdmaaaDoorLaid
import Derived.LaidMore
import Derived.SevenTiedAt
import Derived.Stop.Joined
import Derived.Test.YtnbcegijncdmaaaDoorRows
import Derived.WalkKit
import Derived.ProofKit
import Derived.OpenShut
import Derived.ShutString
import Derived.ChangeOld
import Derived.Below
namespace Go.Proofs.YtnbcegijncdmaaaDoor.lawShiftSent
open Go.ChangeShapes Go.WideShapes Go.ChangeAt Go.RowKit Base
open Go.ChangeMaps (open_string shut_string)
set_option linter.unusedVariables false
set_option linter.unusedSimpArgs false
theorem own : ownKnob Tryd.prog.godebug = none := by kernel_rfl
theorem laidOut : laidOutB Tryd.prog = true := by kernel_rfl
open Ly15 Ly18 Ly14 Ly7 Ly3 Ly2

/-- How many halves were looked at ahead of a place. -/
def nxt (W b p : Int) : Int := max 0 (min (16 * W) ((p - b + 4) / 10))
def Env (w : World) (g7 g5 : Nat) (l y z a0 a1 : Int) (wx : World) : Prop :=
  Obj1 wx g7 25 #[.int .i64 0, .int .i64 0, .int .i64 l, .int .i64 (1 + y), .int .i64 0, .int .i64 (1 + z), .int .i64 (-1), .bool false] ∧ Obj1 wx g5 22 #[.int .i64 a0, .int .i64 a1] ∧ Below w.heap.size w wx
theorem Env.kept {w wx w' : World} {g7 g5 : Nat} {l y z a0 a1 : Int} (h : Env w g7 g5 l y z a0 a1 wx) (hb : Below wx.heap.size wx w') : Env w g7 g5 l y z a0 a1 w' :=
  ⟨h.1.kept hb, h.2.1.kept hb, h.2.2.trans (hb.mono h.2.2.size)⟩
theorem Env.touch {w wx w' : World} {g7 g5 g : Nat} {l y z a0 a1 : Int} (h : Env w g7 g5 l y z a0 a1 wx) (hb : Wrote g wx w') (h7 : g7 < g) (h5 : g5 < g) (hw : w.heap.size ≤ g) : Env w g7 g5 l y z a0 a1 w' :=
  ⟨h.1.touch hb (by omega), h.2.1.touch hb (by omega), h.2.2.trans (hb.below hw h.2.2.size)⟩
theorem nxt_no {W M p n t m : Int} {yk : Bool} (hn : atN 0 W M 0 p = n) (ht : atT 0 W M 0 p = t) (hW : 0 ≤ W) (h1 : 0 < M) (h : LkR n t m yk false) : nxt W 40 (p + 1) = nxt W 40 p := by
  unfold nxt
  have key : n < 0 ∨ (t ≠ 5 ∧ t ≠ 15) := by
    rcases h with ⟨h, _⟩ | ⟨_, h, _⟩ | ⟨_, _, _, _, h⟩ | ⟨_, _, _, _, h⟩
    · exact .inl h
    · exact .inr h
    · cases h
    · cases h
  unfold atN at hn
  unfold atT at ht
  split at hn
  · rename_i e
    rw [if_pos e] at ht
    omega
  · rename_i e
    have : p < 40 ∨ W ≤ (p - (40 + 80 * 0)) / 160 := by omega
    omega
theorem nxt_yes {W M p n t m : Int} {yk : Bool} (hn : atN 0 W M 0 p = n) (ht : atT 0 W M 0 p = t) (h1 : 0 < M) (h : LkR n t m yk true) : nxt W 40 (p + 1) = nxt W 40 p + 1 ∧ nxt W 40 p = 2 * n + (if yk then 1 else 0) ∧ 0 ≤ n ∧ n < 8 * W ∧ (t = if yk then 15 else 5) ∧ m = n ∧ p - 40 = 20 * n + t := by
  unfold nxt
  have key : 0 ≤ n ∧ (t = if yk then 15 else 5) ∧ m = n := by
    rcases h with ⟨_, _, _, h⟩ | ⟨_, _, _, _, h⟩ | ⟨h, h', h3, h'', _⟩ | ⟨h, h', h3, h'', _⟩
    · cases h
    · cases h
    · subst h''; exact ⟨h, h', h3⟩
    · subst h''; exact ⟨h, h', h3⟩
  obtain ⟨k0, k1, k2⟩ := key
  obtain ⟨_, _, _, h4, h5, h6, h7⟩ := at_inv hn ht k0
  cases yk
  · simp at k1 ⊢; omega
  · simp at k1 ⊢; omega
theorem look_sent {W M p d n t m : Int} {yk : Bool} {bs : List Bool} (hn : atN 0 W M 0 p = n) (ht : atT 0 W M 0 p = t) (h1 : 0 < M) (h : LkR n t m yk true) (d0 : -5 ≤ d) (d1 : d ≤ 4) (hb : 8 * W ≤ bs.length) (y : Bool) :
    wdF y bs (atN 0 W M 0 (p + d)) (atT 0 W M 0 (p + d)) = driveF y ((bs.getD n.toNat false) != yk) := by
  obtain ⟨_, _, k0, k1, k2, _, k3⟩ := nxt_yes hn ht h1 h
  obtain ⟨q, rfl⟩ : ∃ q : Nat, n = q := ⟨n.toNat, by omega⟩
  have hq : q < bs.length := by omega
  have e : (p + d - (40 + 80 * 0)) = 20 * q + (t + d) := by omega
  have htd : 0 ≤ t + d ∧ t + d < 20 := by cases yk <;> simp at k2 <;> omega
  obtain ⟨e1, e2⟩ := at_yes (k := 0) (wo := W) (mn := M) (c := 0) (p := p + d) ⟨rfl, by omega, h1, by omega, by rw [e]; omega⟩
  rw [e] at e1 e2
  rw [e1, e2, show (20 * (q : Int) + (t + d)) / 20 = (q : Int) by omega, show (20 * (q : Int) + (t + d)) % 20 = t + d by omega]
  rw [wdF_in (List.getElem?_eq_getElem hq), Int.toNat_natCast, List.getD_eq_getElem?_getD, List.getElem?_eq_getElem hq]
  cases yk
  · simp at k2
    rw [Ly1.lvl_lo (by omega) (by omega)]; simp
  · simp at k2
    rw [Ly1.lvl_hi (by omega) (by omega)]; simp
theorem sent_lt : ∀ b : Bool, sentN b < 16 := by decide
/-- How the line is driven at a bit. -/
def gF (a1 : Int) (m : Nat) : Bool := Go.bits BinOp.and IntKind.i64 (a1 / 2 ^ (Go.bits BinOp.and IntKind.i64 (m : Int) 31).toNat) 1 == 1
theorem mask7 (n : Nat) (h0 : 1 ≤ n) (h1 : n ≤ 8) : Go.bits BinOp.and IntKind.i64 ((n : Int) - 1) 7 = (n : Int) - 1 := by
  rcases (show n = 1 ∨ n = 2 ∨ n = 3 ∨ n = 4 ∨ n = 5 ∨ n = 6 ∨ n = 7 ∨ n = 8 by omega) with rfl | rfl | rfl | rfl | rfl | rfl | rfl | rfl <;> decide +kernel
theorem mask3 : Go.bits BinOp.and IntKind.i64 0 3 = 0 := by decide +kernel
set_option maxRecDepth 100000 in
set_option maxHeartbeats 3000000 in
theorem go (li0 a0 a1 : Int) (A : Option Addr) (n c : Nat) (vs : List Nat) (w : World) (hl : Lst w A n (vs.map fun (x : Nat) => Value.int .u8 x)) (hx : ∀ x ∈ vs, x < 256) (hn0 : 1 ≤ n) (hn8 : n ≤ 8) (hU : Up w) :
    Calls Tryd.prog 5 #[.slice A n c, .int .i64 li0, .agg #[.int .i64 a0, .int .i64 a1]] w fun e w' => e = .returned (.bool true) ∧ Below w.heap.size w w' := by
  obtain ⟨li, li0', li1', hli'⟩ := and_mask li0 3 (by omega)
  have hli : Go.bits BinOp.and IntKind.i64 li0 3 = li := hli'
  have li1 : li ≤ 3 := li1'
  obtain ⟨line, rfl⟩ : ∃ k : Nat, li = k := ⟨li.toNat, by omega⟩
  have hline : line < 4 := by omega
  obtain ⟨r2, r20, r21', hr2'⟩ := and_mask a0 255 (by omega)
  have hr2 : Go.bits BinOp.and IntKind.i64 a0 255 = r2 := hr2'
  have r21 : r2 ≤ 255 := r21'
  clear li1' hli' r21' hr2'
  obtain ⟨ap, hap⟩ : ∃ ap, r2 % 10 = ap := ⟨_, rfl⟩
  have hap0 : 0 ≤ ap ∧ ap ≤ 9 := by omega
  have htm2 : r2.tmod 10 = ap := by rw [Int.tmod_eq_emod_of_nonneg r20]; exact hap
  have hwap : IntKind.i64.wrap ap = ap := IntWalk.i64_in _ (by omega)
  have hwap2 : IntKind.i64.wrap (ap - 5) = ap - 5 := IntWalk.i64_in _ (by omega)
  obtain ⟨y, hyd⟩ : ∃ y, (n : Int) - 1 = y := ⟨_, rfl⟩
  have y0 : 0 ≤ y ∧ y ≤ 7 := by omega
  have hwy : IntKind.i64.wrap ((n : Int) - 1) = y := (IntWalk.i64_in _ (by omega)).trans hyd
  obtain ⟨z, hz, HZ⟩ : ∃ z, Go.bits BinOp.and IntKind.i64 0 3 = z ∧ Hid (z = 0) := ⟨_, mask3, Lib.hid rfl⟩
  have HMD := Lib.hid (fun W => made_any y 0 y z W (by rw [← hyd]; exact mask7 n hn0 hn8) hz y0.1 y0.2 (by rw [HZ.out]; omega) (by rw [HZ.out]; omega))
  have HSN := Lib.hid (fun W => snew_gen (n : Int) n (by omega) W)
  have HL := Lib.hid hl
  have HX := Lib.hid hx
  have HU := Lib.hid hU
  have HY := Lib.hid hyd
  have hn1i : ¬ ((n : Int) < 1) := by omega
  have hn8i : (n : Int) ≤ 8 := by omega
  clear hap hl hx hU hz hyd
  obtain ⟨WB, HWB⟩ : ∃ W, W = w.alloc (.cells #[.int .i64 a0, .int .i64 a1] 22) := ⟨_, rfl⟩
  have HBB : Hid (Below w.heap.size w WB) := Lib.hid (by rw [HWB]; exact bel_new w _)
  have HOA : Hid (Obj1 WB w.heap.size 22 #[.int .i64 a0, .int .i64 a1]) := Lib.hid (by rw [HWB]; exact Obj1.new w 22 _)
  obtain ⟨g5, HG5⟩ : ∃ g, Hid (w.heap.size = g) := ⟨_, Lib.hid rfl⟩
  go_enter Tryd.func5, Tryd.ntmps5
  go_upto_region 1 with (fail)
  rw [← HWB]
  rw [HG5.out] at HOA ⊢
  clear HWB
  have q0 := HOA.out.cell 0
  simp at q0
  go_wp2_with fail
  refine (HMD.out _).mono ?_
  rintro e w1 ⟨rfl, hb1⟩
  have HB1 := Lib.hid (HBB.out.trans (hb1.mono HBB.out.size))
  have HOB1 := Lib.hid (HOA.out.kept hb1)
  clear hb1 HOA HBB HMD q0
  go_upto_region 6 with (fail)
  obtain ⟨g7, HG7⟩ : ∃ g, Hid (w1.heap.size = g) := ⟨_, Lib.hid rfl⟩
  have HO7 : Hid (Obj1 (w1.alloc (.cells #[.int .i64 0, .int .i64 0, .int .i64 (20 * (10 + 8 * (1 + y) + 4 * z)), .int .i64 (1 + y), .int .i64 0, .int .i64 (1 + z), .int .i64 (-1), .bool false] 25)) g7 25 #[.int .i64 0, .int .i64 0, .int .i64 (20 * (10 + 8 * (1 + y) + 4 * z)), .int .i64 (1 + y), .int .i64 0, .int .i64 (1 + z), .int .i64 (-1), .bool false]) := Lib.hid (by rw [← HG7.out]; exact Obj1.new _ _ _)
  have HOB2 := Lib.hid (HOB1.out.alloc (.cells #[.int .i64 0, .int .i64 0, .int .i64 (20 * (10 + 8 * (1 + y) + 4 * z)), .int .i64 (1 + y), .int .i64 0, .int .i64 (1 + z), .int .i64 (-1), .bool false] 25))
  have HB2 := Lib.hid (HB1.out.alloc HB1.out.size (.cells #[.int .i64 0, .int .i64 0, .int .i64 (20 * (10 + 8 * (1 + y) + 4 * z)), .int .i64 (1 + y), .int .i64 0, .int .i64 (1 + z), .int .i64 (-1), .bool false] 25))
  rw [HG7.out]
  generalize w1.alloc (.cells #[.int .i64 0, .int .i64 0, .int .i64 (20 * (10 + 8 * (1 + y) + 4 * z)), .int .i64 (1 + y), .int .i64 0, .int .i64 (1 + z), .int .i64 (-1), .bool false] 25) = W2 at HO7 HOB2 HB2 ⊢
  clear HB1 HOB1 HG7
  go_wp2_with fail
  refine (HSN.out _).mono ?_
  rintro e w4 ⟨rfl, HSH, HB4⟩
  obtain ⟨g9, HG9⟩ : ∃ g, Hid (W2.heap.size = g) := ⟨_, Lib.hid rfl⟩
  have HGS : Hid (g7 < g9 ∧ g5 < g9 ∧ w.heap.size ≤ g9) := Lib.hid (by rw [← HG9.out]; exact ⟨HO7.out.lt, HOB2.out.lt, HB2.out.size⟩)
  rw [HG9.out] at HSH ⊢
  obtain ⟨l, hLd⟩ : ∃ l, 20 * (10 + 8 * (1 + y) + 4 * z) = l := ⟨_, rfl⟩
  have hl0 : 0 ≤ l ∧ l ≤ 10000 := by have := HZ.out; omega
  have hll : 40 + 160 * (1 + y) ≤ l - 80 := by have := HZ.out; omega
  have hwl : IntKind.i64.wrap (l - 10) = l - 10 := IntWalk.i64_in _ (by omega)
  rw [hLd] at HO7 ⊢
  clear hLd
  have HENV : Hid (Env w g7 g5 l y z a0 a1 w4) := Lib.hid ⟨HO7.out.kept HB4.out, HOB2.out.kept HB4.out, HB2.out.trans (HB4.out.mono HB2.out.size)⟩
  clear HO7 HOB2 HB2 HB4 HG9 HSN
  go_wp2_with fail
  go_loopw [10] (fun i wx => ∃ (j N : Nat) (f : Nat → Bool), 10 ≤ j ∧ (j : Int) ≤ l + 10 ∧ i = .int .i64 j ∧ Hid (nxt (1 + y) 40 j = N) ∧ ShF wx g9 true n f ∧ Hid (Filled f (bitsOf vs) (gF a1) line (8 * n) N) ∧ Env w g7 g5 l y z a0 a1 wx) (fun i _ => (l + 10).toNat - (intOf i).toNat)
  case atStart => exact ⟨10, 0, fun _ => false, by omega, by omega, rfl, Lib.hid (by unfold nxt; omega), HSH.out, Lib.hid (filled_nil _ _ _ _), HENV.out⟩
  case round =>
    clear HSH HENV
    obtain ⟨j, N, f, hj10, hjl, rfl, HN, hsh, HFI, henv⟩ := hrel
    have HS := Lib.hid hsh
    have HE := Lib.hid henv
    clear hsh henv
    have cl := HE.out.1.cell 2
    simp at cl
    by_cases hlt : (j : Int) < l - 10
    · obtain ⟨nn, hnn⟩ : ∃ nn, atN 0 (1 + y) (1 + z) 0 j = nn := ⟨_, rfl⟩
      obtain ⟨t, ht⟩ : ∃ t, atT 0 (1 + y) (1 + z) 0 j = t := ⟨_, rfl⟩
      obtain ⟨mk, yk, bb, hlk⟩ := lkR_ex nn t
      have HLK := Lib.hid (fun W => slook_any 0 0 l (1 + y) 0 (1 + z) (-1) false 0 j mk yk bb W (by omega) (by omega) (by have := HZ.out; omega) (by have := HZ.out; omega) (by omega) (by omega) (by omega) (by rw [hnn, ht]; exact hlk))
      have T0 := HE.out.1.cell 0
      have T1 := HE.out.1.cell 1
      have T3 := HE.out.1.cell 3
      have T4 := HE.out.1.cell 4
      have T5 := HE.out.1.cell 5
      have T6 := HE.out.1.cell 6
      have T7 := HE.out.1.cell 7
      simp at T0 T1 T3 T4 T5 T6 T7
      go_wp2_with fail
      refine (HLK.out _).mono ?_
      rintro e wa ⟨rfl, hba⟩
      have HEA := Lib.hid (HE.out.kept hba)
      have HSA := Lib.hid (HS.out.kept hba)
      clear hba T0 T1 T3 T4 T5 T6 T7 cl
      cases bb
      · have HNX : Hid (nxt (1 + y) 40 ((j + 1 : Nat) : Int) = (N : Int)) := Lib.hid (by
          have := nxt_no hnn ht (by omega) (by have := HZ.out; omega) hlk
          rw [HN.out] at this
          exact_mod_cast this)
        clear hnn ht hlk
        go_wp2
        go_roundw
        case rel => exact ⟨j + 1, N, f, by omega, by omega, by go_num, HNX, HSA.out, HFI, HEA.out⟩
        case measure => simp [intOf]; omega
      · have e1 := HEA.out.2.1.cell 1
        simp at e1
        obtain ⟨q, hq⟩ : ∃ q, (j : Int) + (ap - 5) = q := ⟨_, rfl⟩
        have hwq : IntKind.i64.wrap ((j : Int) + (ap - 5)) = q := (IntWalk.i64_in _ (by omega)).trans hq
        go_upto_region 13 with (fail)
        have hyes := nxt_yes hnn ht (by have := HZ.out; omega) hlk
        have hsnt := look_sent (bs := bitsOf vs) (d := ap - 5) hnn ht (by have := HZ.out; omega) hlk (by omega) (by omega) (by rw [bitsOf_len]; have := HL.out.1; simp at this; have := HY.out; omega)
        rw [hq] at hsnt
        obtain ⟨B, hB⟩ : ∃ B, (((bitsOf vs).getD nn.toNat false) != yk) = B := ⟨_, rfl⟩
        rw [hB] at hsnt
        have HBQ := Lib.hid hB
        obtain ⟨u, HUD⟩ : ∃ u, Hid (driveF false B = u) := ⟨_, Lib.hid rfl⟩
        obtain ⟨v, HVD⟩ : ∃ v, Hid (driveF true B = v) := ⟨_, Lib.hid rfl⟩
        obtain ⟨R, HRD⟩ : ∃ R, Hid (sentN B = R) := ⟨_, Lib.hid rfl⟩
        have hu16 : u < 16 := by rw [← HUD.out]; exact driveF_lt _ _
        have hv16 : v < 16 := by rw [← HVD.out]; exact driveF_lt _ _
        have hR16 : R < 16 := by rw [← HRD.out]; exact sent_lt _
        have HUV : Hid (u ||| v = R) := Lib.hid (by rw [← HUD.out, ← HVD.out, ← HRD.out]; rfl)
        have d0 : Below wa.heap.size wa wa.drew := bel_drew wa
        have HBX : Hid (∀ x : Kin wa.drew, Below w.heap.size w x.world) := Lib.hid (fun x => (HEA.out.kept (d0.trans x.below)).2.2)
        have hq0 : -100000 ≤ q ∧ q ≤ 100000 := by omega
        have HCX := Lib.hid (fun x : Kin wa.drew => words_any 0 0 l (1 + y) 0 (1 + z) (-1) false 0 q false A n c vs u x.world (by omega) (by omega) (by have := HZ.out; omega) (by have := HZ.out; omega) (by omega) (by omega) (HL.out.kept (HBX.out x)) HX.out (by omega) (HU.out.kept (HBX.out x)) ((hsnt false).trans HUD.out))
        have HCY := Lib.hid (fun x : Kin wa.drew => words_any 0 0 l (1 + y) 0 (1 + z) (-1) false 0 q true A n c vs v x.world (by omega) (by omega) (by have := HZ.out; omega) (by have := HZ.out; omega) (by omega) (by omega) (HL.out.kept (HBX.out x)) HX.out (by omega) (HU.out.kept (HBX.out x)) ((hsnt true).trans HVD.out))
        have HOR : Hid (∀ (W : World) (g : Nat), Lst W (some ⟨g, 0, none⟩) 2 [.int .u8 (u : Int), .int .u8 (v : Int)] → Calls Tryd.prog 15 #[.slice (some ⟨g, 0, none⟩) 2 2] W fun e w' => e = .returned (.int .u8 (R : Int)) ∧ W = w') := Lib.hid (fun W g hg => by
          have h := or_any (some ⟨g, 0, none⟩) 2 2 [u, v] W hg (by intro x hx; simp at hx; omega) (by omega)
          rw [show orL [u, v] = u ||| v by simp [orL], orr HUV.out hR16] at h
          exact h)
        have HYES := Lib.hid hyes
        obtain ⟨S0, S1, S2, S3, S4, S5, S6, S7⟩ := o8 0 0 l (1 + y) 0 (1 + z) (-1) false (HEA.out.1.kept d0)
        clear hyes hsnt hB hq HUV HUD HVD hlk hnn ht e1
        go_wp2_with fail
        refine wp_region_specL 11 [.d (.agg #[.int .i64 0, .int .i64 0, .int .i64 l, .int .i64 (1 + y), .int .i64 0, .int .i64 (1 + z), .int .i64 (-1), .bool false]), .d (.slice A n c), .d (.int .i64 q), .d (.int .u8 u), .d (.agg #[.int .i64 0, .int .i64 0, .int .i64 l, .int .i64 (1 + y), .int .i64 0, .int .i64 (1 + z), .int .i64 (-1), .bool false]), .d (.slice A n c), .d (.int .i64 q), .d (.int .u8 v), .g (NewL wa.heap.size 2 [.int .u8 (u : Int), .int .u8 (v : Int)]), .d (.int .u8 R), .d (.int .u8 R)] (by kernel_rfl) (by kernel_rfl) ?_
        refine spec_d rfl (fun x _ => gives_run (by go_simp)) ?_
        try simp only [Act.put, List.getElem_toArray, List.getElem_cons_succ, List.getElem_cons_zero, List.setIfInBounds_toArray, List.set_cons_zero, List.set_cons_succ]
        refine spec_d rfl (fun x _ => gives_run (by go_simp)) ?_
        try simp only [Act.put, List.getElem_toArray, List.getElem_cons_succ, List.getElem_cons_zero, List.setIfInBounds_toArray, List.set_cons_zero, List.set_cons_succ]
        refine spec_d rfl (fun x _ => gives_run (by go_simp)) ?_
        try simp only [Act.put, List.getElem_toArray, List.getElem_cons_succ, List.getElem_cons_zero, List.setIfInBounds_toArray, List.set_cons_zero, List.set_cons_succ]
        refine spec_d rfl (fun x _ => gives_det (by go_simp) (HCX.out x)) ?_
        try simp only [Act.put, List.getElem_toArray, List.getElem_cons_succ, List.getElem_cons_zero, List.setIfInBounds_toArray, List.set_cons_zero, List.set_cons_succ]
        refine spec_d rfl (fun x _ => gives_run (by go_simp)) ?_
        try simp only [Act.put, List.getElem_toArray, List.getElem_cons_succ, List.getElem_cons_zero, List.setIfInBounds_toArray, List.set_cons_zero, List.set_cons_succ]
        refine spec_d rfl (fun x _ => gives_run (by go_simp)) ?_
        try simp only [Act.put, List.getElem_toArray, List.getElem_cons_succ, List.getElem_cons_zero, List.setIfInBounds_toArray, List.set_cons_zero, List.set_cons_succ]
        refine spec_d rfl (fun x _ => gives_run (by go_simp)) ?_
        try simp only [Act.put, List.getElem_toArray, List.getElem_cons_succ, List.getElem_cons_zero, List.setIfInBounds_toArray, List.set_cons_zero, List.set_cons_succ]
        refine spec_d rfl (fun x _ => gives_det (by go_simp) (HCY.out x)) ?_
        try simp only [Act.put, List.getElem_toArray, List.getElem_cons_succ, List.getElem_cons_zero, List.setIfInBounds_toArray, List.set_cons_zero, List.set_cons_succ]
        refine spec_g (NewL.stable _ _ _) (NewL.ex _ 29 (Nat.le_refl _) rfl) rfl (fun x _ => gives_ok (by go_simp) (bel_new _ _) (NewL.new (T := 29) x.below.size rfl)) ?_
        rintro vg ⟨xg, gg, rfl, _, _⟩
        try simp only [Act.put, List.getElem_toArray, List.getElem_cons_succ, List.getElem_cons_zero, List.setIfInBounds_toArray, List.set_cons_zero, List.set_cons_succ]
        refine spec_d rfl (fun x hx => gives_det_same (by go_simp) (HOR.out x.world gg (NewL.at (hx _ (List.mem_singleton.2 rfl) (by kernel_rfl))).2)) ?_
        try simp only [Act.put, List.getElem_toArray, List.getElem_cons_succ, List.getElem_cons_zero, List.setIfInBounds_toArray, List.set_cons_zero, List.set_cons_succ]
        refine spec_d rfl (fun x _ => gives_run (by go_simp)) ?_
        try simp only [Act.put, List.getElem_toArray, List.getElem_cons_succ, List.getElem_cons_zero, List.setIfInBounds_toArray, List.set_cons_zero, List.set_cons_succ]
        refine spec_end (fun x hx => ?_)
        clear hx
        refine wpAny_done (by kernel_rfl) ?_ _
        have HEB := Lib.hid (HEA.out.kept (d0.trans x.below))
        have HSB := Lib.hid (HSA.out.kept (d0.trans x.below))
        clear S0 S1 S2 S3 S4 S5 S6 S7 HCX HCY HOR HBX d0
        generalize x.world = wb at HEB HSB ⊢
        obtain ⟨hnx, hN2, hn0, hn8w, htt, hmk, _⟩ := HYES.out
        obtain ⟨qq, hqq⟩ : ∃ qq : Nat, nn = qq := ⟨nn.toNat, by omega⟩
        rw [hqq] at hmk hN2 hn8w
        subst hmk
        have hq64 : qq < 64 := by have := HY.out; omega
        have e1 := HEB.out.2.1.cell 1
        simp at e1
        obtain ⟨ea, ea0, ea1', hea'⟩ := and_mask (qq : Int) 31 (by omega)
        have hea : Go.bits BinOp.and IntKind.i64 (qq : Int) 31 = ea := hea'
        have ea1 : ea ≤ 31 := ea1'
        clear ea1' hea' HYES
        have HNX : Hid (nxt (1 + y) 40 ((j + 1 : Nat) : Int) = ((N + 1 : Nat) : Int)) := Lib.hid (by
          rw [HN.out] at hnx
          exact_mod_cast hnx)
        rw [HN.out] at hN2
        have hN0 : yk = false → N = 2 * qq + 0 := fun h => by rw [h] at hN2; simp at hN2; omega
        have hN1 : yk = true → N = 2 * qq + 1 := fun h => by rw [h] at hN2; simp at hN2; omega
        have hq8 : qq < 8 * n := by have := HY.out; omega
        have hG : (Go.bits BinOp.and IntKind.i64 (a1 / 2 ^ ea.toNat) 1 == 1) = gF a1 qq := by unfold gF; rw [hea]
        rw [hqq, Int.toNat_natCast] at HBQ
        have HSE := Lib.hid (fun W => set_any R (line : Int) (gF a1 qq) W (by omega))
        obtain ⟨L, HLD⟩ : ∃ L, Hid (setF R (line : Int) (gF a1 qq) = L) := ⟨_, Lib.hid rfl⟩
        have hL' : L < 256 := by rw [← HLD.out]; exact setF_lt (by omega)
        rw [HLD.out] at HSE
        have HGG := Lib.hid hG
        clear hN2 hnx htt hn8w hG
        go_wp2_with fail
        rw [HGG.out]
        refine (HSE.out _).mono ?_
        rintro e w' ⟨rfl, rfl⟩
        clear e1 hea HSE HGG hqq
        cases yk
        · have HPT := Lib.hid (sput0 HSB.out hn8 hq8 hL' (HU.out.kept HEB.out.2.2))
          have hNq : N = 2 * qq + 0 := hN0 rfl
          have HF2 : Hid (Filled (putK f L qq 0 4) (bitsOf vs) (gF a1) line (8 * n) (N + 1)) := Lib.hid (filled_put HFI.out (by omega) hq8 (by omega) hNq hline (by
            rw [← HLD.out, ← HRD.out, ← HBQ.out]
            rfl))
          go_wp2_with fail
          refine HPT.out.mono ?_
          rintro e wd ⟨rfl, HQ, HR⟩
          have HED := Lib.hid (HEB.out.touch HR.out HGS.out.1 HGS.out.2.1 HGS.out.2.2)
          go_wp2
          go_roundw
          case rel => exact ⟨j + 1, N + 1, _, by omega, by omega, by go_num, HNX, HQ.out, HF2, HED.out⟩
          case measure => simp [intOf]; omega
        · have HPT := Lib.hid (sput1 HSB.out hn8 hq8 hL' (HU.out.kept HEB.out.2.2))
          have hNq : N = 2 * qq + 1 := hN1 rfl
          have HF2 : Hid (Filled (putK f L qq 1 4) (bitsOf vs) (gF a1) line (8 * n) (N + 1)) := Lib.hid (filled_put HFI.out (by omega) hq8 (by omega) hNq hline (by
            rw [← HLD.out, ← HRD.out, ← HBQ.out]
            rfl))
          go_wp2_with fail
          refine HPT.out.mono ?_
          rintro e wd ⟨rfl, HQ, HR⟩
          have HED := Lib.hid (HEB.out.touch HR.out HGS.out.1 HGS.out.2.1 HGS.out.2.2)
          go_wp2
          go_roundw
          case rel => exact ⟨j + 1, N + 1, _, by omega, by omega, by go_num, HNX, HQ.out, HF2, HED.out⟩
          case measure => simp [intOf]; omega
    · have hge : l - 10 ≤ (j : Int) := by omega
      have hNN : N = 2 * (8 * n) := by
        have h1 : nxt (1 + y) 40 j = 16 * (1 + y) := by unfold nxt; omega
        have h2 := HN.out
        have h3 := HY.out
        omega
      have HF := Lib.hid (show Filled f (bitsOf vs) (gF a1) line (8 * n) (2 * (8 * n)) from by have := HFI.out; rwa [hNN] at this)
      have HBLN : Hid ((bitsOf vs).length = 8 * n) := Lib.hid (by rw [bitsOf_len]; have := HL.out.1; simp at this; rw [this])
      clear HFI hNN hlt
      go_wp2_with fail
      refine (refbits_any A n c vs wr (HL.out.kept HE.out.2.2) HX.out (by omega)).mono ?_
      rintro e W5 ⟨v, rfl, hown, hb5⟩
      obtain ⟨D, dc, rfl, hdc, hdm, hlD⟩ := Lst.of_own hown
      have HLD := Lib.hid hlD
      have HE5 := Lib.hid (HE.out.kept hb5)
      have HS5 := Lib.hid (HS.out.kept hb5)
      clear hown hlD hb5 HE HS cl
      have HSEEN := Lib.hid (seen_gen HS5.out hn8)
      have hsn : seenN f (8 * n) = 2 * (8 * n) := filled_seen HF.out (8 * n) (Nat.le_refl _)
      rw [hsn] at HSEEN
      clear hsn
      obtain ⟨zz, hzz⟩ : ∃ zz, 8 * n = zz := ⟨_, rfl⟩
      have hz64 : zz ≤ 64 := by omega
      have HZZ := Lib.hid hzz
      rw [hzz] at HSEEN HF HLD HBLN ⊢
      clear hzz
      have hw2 : IntKind.i64.wrap (2 * (zz : Int)) = 2 * (zz : Int) := IntWalk.i64_in _ (by omega)
      have hc2 : (((2 * zz : Nat) : Int) != 2 * (zz : Int)) = false := by push_cast; simp
      go_wp2_with fail
      refine HSEEN.out.mono ?_
      rintro e W8 ⟨rfl, hb8⟩
      have HE8 := Lib.hid (HE5.out.kept hb8.out)
      have HS8 := Lib.hid (HS5.out.kept hb8.out)
      have HL8 := Lib.hid (HLD.out.kept hb8.out)
      have HBI := Lib.hid (sbits_gen HS8.out hn8)
      rw [HZZ.out] at HBI
      clear hb8 HE5 HS5 HLD HSEEN
      go_wp2_with fail
      refine HBI.out.mono ?_
      rintro e w' ⟨rfl, rfl⟩
      go_wp2_with fail
      go_loopw [17] (fun i wx => ∃ (m : Nat) (x : Kin W8), m ≤ zz ∧ i = .int .i64 m ∧ wx = x.world) (fun i _ => zz - (intOf i).toNat)
      case atStart => exact ⟨0, Kin.me _, by omega, rfl, rfl⟩
      case round =>
        obtain ⟨m, x, hm, rfl, rfl⟩ := hrel
        by_cases hmz : m < zz
        · have hmi : (m : Int) < (zz : Int) := by omega
          obtain ⟨bd, od, rfl, hbdl, hcd⟩ := HL8.out.get hmz
          have hml : m < (bitsOf vs).length := by rw [HBLN.out]; exact hmz
          rw [List.getElem_map] at hcd
          obtain ⟨bt, HBT⟩ : ∃ bt, Hid ((bitsOf vs)[m]'hml = bt) := ⟨_, Lib.hid rfl⟩
          rw [HBT.out] at hcd
          have HGD : Hid ((bitsOf vs).getD m false = bt) := Lib.hid (by rw [List.getD_eq_getElem?_getD, List.getElem?_eq_getElem hml, ← HBT.out]; rfl)
          have BD : ∀ x : Kin W8, x.world.cell? ⟨bd, od + m, none⟩ = some (.bool bt) := fun x => (x.below.cell (p := ⟨bd, od + m, none⟩) hbdl).trans hcd
          clear hcd hbdl
          go_wp2_with fail
          go_loopw [18] (fun i wx => ∃ (k : Nat) (x : Kin W8), k ≤ 4 ∧ i = .int .i64 k ∧ wx = x.world) (fun i _ => 4 - (intOf i).toNat)
          case atStart => exact ⟨0, x, by omega, rfl, rfl⟩
          case round =>
            clear x
            obtain ⟨k, x, hk, rfl, rfl⟩ := hrel
            by_cases hk4 : k < 4
            · have hki : (k : Int) < 4 := by omega
              have HLI := Lib.hid (line_in (HS8.out.kept x.below) hn8 hk4 (show m < 8 * n by rw [HZZ.out]; exact hmz))
              have hfl := filled_line HF.out hk4 hmz
              rw [HGD.out] at hfl
              rw [hfl] at HLI
              clear hfl
              by_cases hkl : k = line
              · rw [if_pos hkl] at HLI
                have hb1 : ((k : Int) != (line : Int)) = false := by rw [hkl]; simp
                have hb2 : ((k : Int) == (line : Int)) = true := by rw [hkl]; simp
                clear hkl
                go_wp2_with fail
                refine (Calls.kin _ HLI.out).mono ?_
                rintro e w' ⟨rfl, x2, rfl⟩
                go_wp2
                go_roundw
                case rel => exact ⟨k + 1, x2, by omega, by go_num, rfl⟩
                case measure => simp [intOf]; omega
              · rw [if_neg hkl] at HLI
                have hb1 : ((k : Int) != (line : Int)) = true := by simp; omega
                have hb2 : ((k : Int) == (line : Int)) = false := ne_int (by omega)
                clear hkl
                go_wp2_with fail
                refine (Calls.kin _ HLI.out).mono ?_
                rintro e w' ⟨rfl, x2, rfl⟩
                go_wp2
                go_roundw
                case rel => exact ⟨k + 1, x2, by omega, by go_num, rfl⟩
                case measure => simp [intOf]; omega
            · obtain rfl : k = 4 := by omega
              go_wp2
              go_roundw
              case rel => exact ⟨m + 1, x, by omega, by go_num, rfl⟩
              case measure => simp [intOf]; omega
        · obtain rfl : m = zz := by omega
          go_wp2_with fail
          refine (Ly15.one_any _ (HU.out.kept (HE8.out.kept x.below).2.2)).mono ?_
          rintro e w9 ⟨rfl, hb9⟩
          have HEE := Lib.hid ((HE8.out.kept x.below).2.2.trans (hb9.mono (HE8.out.kept x.below).2.2.size))
          clear hb9
          go_wp2
          go_ret
          exact ⟨rfl, HEE.out⟩
theorem walk_out (li0 a0 a1 : Int) (A : Option Addr) (n c : Nat) (w : World) (hn : n < 1 ∨ 8 < n) (hm : n ≤ 9223372036854775807) (hU : Up w) :
    Calls Tryd.prog 5 #[.slice A n c, .int .i64 li0, .agg #[.int .i64 a0, .int .i64 a1]] w fun e w' => e = .returned (.bool true) ∧ Below w.heap.size w w' := by
  have HU := Lib.hid hU
  clear hU
  rcases hn with h | h
  · have hi : (n : Int) < 1 := by omega
    go_enter Tryd.func5, Tryd.ntmps5
    go_wp2_with fail
    refine (Ly15.one_any _ (HU.out.kept (bel_new w _))).mono ?_
    rintro e w9 ⟨rfl, hb9⟩
    have HEE := Lib.hid ((bel_new w _).trans (hb9.mono (bel_new w _).size))
    clear hb9
    go_wp2
    go_ret
    exact ⟨rfl, HEE.out⟩
  · have hi : 1 ≤ (n : Int) := by omega
    have hi2 : 8 < (n : Int) := by omega
    go_enter Tryd.func5, Tryd.ntmps5
    go_wp2_with fail
    refine (Ly15.one_any _ (HU.out.kept (bel_new w _))).mono ?_
    rintro e w9 ⟨rfl, hb9⟩
    have HEE := Lib.hid ((bel_new w _).trans (hb9.mono (bel_new w _).size))
    clear hb9
    go_wp2
    go_ret
    exact ⟨rfl, HEE.out⟩
abbrev sh2 : Sh := .ar 2 (.int .i64)
theorem gUp : Tryd.prog.globalNamed "busbar/wires.upright" = some 0 := by kernel_rfl
theorem tUp : (Tryd.prog.globals[0]?).map (·.type) = some 38 := by kernel_rfl
theorem of_laid {W : World} (h : laidMetH Tryd.prog Rows.shiftSentRow.laid W) : Up W := by
  rw [MakeChecks.laidMetH_plain _ _ _ (by kernel_rfl)] at h
  obtain ⟨ps, ⟨g0, t0, cs0, f0, p0, q0, hg0, ht0, hv0, hd0, _, _⟩, _, _⟩ := h
  obtain rfl := Option.some.inj (gUp.symm.trans hg0)
  obtain rfl := Option.some.inj (tUp.symm.trans ht0)
  have e := exact_cells (sh := .ar 4 .bool) 10 rfl (by kernel_rfl) hd0 rfl
  obtain ⟨l0⟩ := cs0
  simp at e
  subst e
  exact ⟨by simpa using World.var?_cell hg0 hv0 0, by simpa using World.var?_cell hg0 hv0 1, by simpa using World.var?_cell hg0 hv0 2, by simpa using World.var?_cell hg0 hv0 3⟩
theorem walk (wA : Option Addr) (wn wc : Nat) (ws : List Int) (li : Int) (a : Array Value) (w : World) (hU : Up w) (hl : Lst w wA wn (ws.map (Value.int .u8))) (hx : ∀ x ∈ ws, 0 ≤ x ∧ x ≤ 255) (hnc : wn ≤ wc) (hcm : wc ≤ maxLen) (_ : -9223372036854775808 ≤ li) (_ : li ≤ 9223372036854775807) (ra : Reads w sh2 a.toList) :
    Calls Tryd.prog 5 #[.slice wA wn wc, .int .i64 li, .agg a] w fun e w' => e = .returned (.bool true) ∧ Below w.heap.size w w' := by
  unfold maxLen at hcm
  obtain ⟨a0, a1, rfl, _, _⟩ := ar_two ra
  obtain ⟨us, eu, hu⟩ := nats_in ws hx
  rw [eu] at hl
  by_cases h : 1 ≤ wn ∧ wn ≤ 8
  · exact go li a0 a1 wA wn wc us w hl hu h.1 h.2 hU
  · exact walk_out li a0 a1 wA wn wc w (by omega) (by omega) hU

theorem door_met (os : Os) (args : Array Value) : laidMetH Tryd.prog Rows.shiftSentRow.laid ((World.doorLaid Tryd.prog 400 os).forCall (fun _ _ => 0) ⟨#[], args, []⟩).memory :=
  laidMetH_of_parts3 (fuel := 8) (laidMet_of_run' 8 (by kernel_rfl) (by kernel_rfl)) (by kernel_rfl) (by kernel_rfl)
set_option maxRecDepth 100000 in
theorem lifted (os : Os) (started : os.Started) (H : Type) (enc : TypeId × Value → H) :
    ReturnsInHanded {} Tryd.checked os 5 .any (fun w args => (Rows.shiftSentSpec.pre enc Tryd.prog Tryd.f5 [] false w args ∧ laidMetH Tryd.prog Rows.shiftSentRow.laid w) ∧ sizedMet enc Tryd.prog Tryd.f5 (OpenSpec.ofChange Rows.shiftSentSpec) false w args)
      (Rows.shiftSentSpec.post enc Tryd.prog Tryd.f5 false true false false) := by
  refine returnsInHanded_of_change_and (C := Tryd.checked) (X := fun w _ => laidMetH Tryd.prog Rows.shiftSentRow.laid w) (fun _ _ _ hh h => h.of_heap hh) own started (by kernel_rfl) Tryd.func5
    (ChangeSpec.witness_shaped (enc := enc) (C := Tryd.checked) (os := os) (X := fun w _ => laidMetH Tryd.prog Rows.shiftSentRow.laid w) false (World.doorLaid Tryd.prog 400 os) #[.slice none 0 0, .int .i64 0, .agg #[.int .i64 0, .int .i64 0]] 8 rfl (World.shaped_of_RefB (by kernel_rfl) (by kernel_rfl)) (by kernel_rfl) (by kernel_rfl) (by kernel_rfl) (door_met os _)) ?_
  intro W base args ds gs before hval0 hW _ _ hL _
  have hval : ∀ (j : Nat) t v, Tryd.f5.params[j]? = some t → args[j]? = some v → Value.okWide Tryd.prog W .any base t v := hval0
  have hW' := hW
  obtain ⟨p, q, hA0, hV, rfl, hfz, hnd⟩ := hW
  have hA : DataW.TrodAll enc Tryd.prog W 0 (fun _ => true) true Tryd.f5.params.toList args.toList ds p := hA0
  rw [Tryd.params5] at hA hval
  obtain ⟨v0, vs0, d0, ds0, p0, q0, hargs, rfl, rfl, h0, r0⟩ := trodAll_cons hA
  obtain ⟨v1, vs1, d1, ds1, p1, q1, rfl, rfl, rfl, h1, r1⟩ := trodAll_cons r0
  obtain ⟨v2, vs2, d2, ds2, p2, q2, rfl, rfl, rfl, h2, r2⟩ := trodAll_cons r1
  obtain ⟨rfl, rfl, rfl⟩ := trodAll_nil r2
  obtain rfl : args = #[v0, v1, v2] := by cases args; simp_all
  obtain ⟨rfl, rfl⟩ := trodVars_none hV
  have k0 := h0
  have lt0 : ∀ x ∈ p0, x.block < W.heap.size := by obtain ⟨m, hm⟩ := k0; exact DataW.trod_lt m _ _ _ hm
  obtain ⟨wA, wn, wc, rfl⟩ := okWide_slice Tryd.underlying23 (hval 0 23 v0 rfl rfl)
  obtain ⟨w, l0, b0, cb0, cc0⟩ := lst_ints Tryd.underlying23 Tryd.underlying5 (by kernel_rfl) k0
  obtain ⟨li, rfl, rfl, rfl, wf1⟩ := open_int Tryd.underlying3 (hval 1 3 v1 rfl rfl) h1
  have bd1 := bounds_i64 wf1
  have k2 := h2
  have lt2 : ∀ x ∈ p2, x.block < W.heap.size := by obtain ⟨m, hm⟩ := k2; exact DataW.trod_lt m _ _ _ hm
  obtain ⟨a, rfl⟩ := okWide_agg (by first | exact .inl ⟨_, Tryd.underlying22⟩ | exact .inr ⟨_, _, Tryd.underlying22⟩) (hval 2 22 v2 rfl rfl)
  have rd2 := reads_cells (sh := sh2) 30 (by kernel_rfl) k2
  clear hA0 hval0
  refine (walk wA wn wc w li a W (of_laid hL) l0 (ints_u8 b0) cb0 cc0 bd1.1 bd1.2 rd2).mono fun e W' ⟨he, bel⟩ => ?_
  subst he
  exact ⟨_, rfl, _, _, _, [], _, [], hW', trodAll_mk1 (shut_bool Tryd.underlying4 _), (trodAll_cons_mk (Below.trod laidOut (by kernel_rfl) (of_decide_eq_true (by kernel_rfl)) k0 bel lt0) (trodAll_cons_mk (shut_int Tryd.underlying3 wf1) (trodAll_cons_mk (Below.trod laidOut (by kernel_rfl) (of_decide_eq_true (by kernel_rfl)) k2 bel lt2) trodAll_mk0))), rfl, bel.frame _, fun h => by cases h⟩

theorem over : Rows.shiftSentRow.holds Tryd.pinned (OpenSpec.ofChange Rows.shiftSentSpec) :=
  OpenClaim.holds_of_wide 5 Tryd.f5 rfl rfl rfl rfl rfl rfl rfl ⟨rfl, rfl, rfl, rfl, rfl⟩ rfl rfl rfl rfl rfl (by kernel_rfl) Tryd.func5 (by kernel_rfl)
    (of_decide_eq_true (by kernel_rfl)) (by unfold Func.isWrapper; first | (rw [if_pos (by decide +kernel)]; kernel_rfl) | (rw [if_neg (by decide +kernel)]; exact ⟨rfl, rfl⟩))
    (fun os started H enc _ => lifted os started H enc)

/-- The card: what the row lists is tied to the program's text. -/
theorem proved : Rows.ShiftSentCardSaid :=
  Claim7.holds_tied_plain_at .later [] [.data] true Rows.shiftSentCard.stood.harness false
    over (fun _ h => by cases h) (by kernel_rfl) (fun _ h => by cases h) shiftSent_row_tie rfl ⟨rfl, rfl⟩ (by kernel_rfl) rfl
    (fun f fn hf hfn => by
      obtain rfl : f = 5 := Option.some.inj ((show Tryd.prog.funcNamed "busbar/busbarlaw15.ShiftSent" = some 5 by kernel_rfl).symm.trans hf) |>.symm
      obtain rfl : fn = Tryd.f5 := (Option.some.inj (Tryd.func5.symm.trans hfn)).symm
      exact ⟨by kernel_rfl, fun j t ht => by
        rw [Tryd.params5] at ht
        have hm : t ∈ [23, 3, 22] := by simpa using Array.mem_of_getElem? ht
        have hall : ([23, 3, 22].all fun u => !Tryd.prog.wantsStandIn u) = true := by kernel_rfl
        exact (show Tryd.prog.wantsStandIn t = false by simpa using List.all_eq_true.1 hall t hm)⟩)
    (by kernel_rfl)
end Go.Proofs.YtnbcegijncdmaaaDoor.lawShiftSent
