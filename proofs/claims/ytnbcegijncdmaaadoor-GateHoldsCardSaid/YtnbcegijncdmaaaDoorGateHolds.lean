/- Four ticks and more from all its times a side lets its partner drive nothing: for every slot, role and place; no condition but that the table of the lines is as the program's text lays it, which the card ties. -/
import Derived.RegionTactic
import Derived.IntWalk
import Derived.Deep.DeepCutAuto
import Derived.Deep.CutBlock
import Derived.Test.YtnbcegijncdmaaaDoorGatC
import Derived.Test.YtnbcegijncdmaaaDoorOne18
import Derived.Test.YtnbcegijncdmaaaDoorSh
import Derived.Test.YtnbcegijncdmaaaDoorShAr
import Derived.Test.YtnbcegijncdmaaaDoorCut
import Derived.Test.YtnbcegijncdmaaaDoorPush
import Derived.Test.YtnbcegijncdmaaaDoorTie
import Derived.Test.YtnbcegijncdmaaaDoorCards
import Derived.Test.YtnbcegijncdmaaaDoorLaid
import Derived.LaidMore
import Derived.SevenTiedAt
import Derived.Stop.Joined
import Derived.Test.YtnbcegijncdmaaaDoorRows
import Derived.WalkKit
import Derived.ProofKit
import Derived.OpenShut
import Derived.ShutString
import Derived.ChangeOld
import Derived.Below
namespace Go.Proofs.YtnbcegijncdmaaaDoor.lawGateHolds
open Go.ChangeShapes Go.WideShapes Go.ChangeAt Go.RowKit Base
open Go.ChangeMaps (open_string shut_string)
set_option linter.unusedVariables false
set_option linter.unusedSimpArgs false
theorem own : ownKnob Tryd.prog.godebug = none := by kernel_rfl
theorem laidOut : laidOutB Tryd.prog = true := by kernel_rfl
open Ly18 Ly14 Ly7 Ly3 Ly2

def zs8 : List Nat := [0, 0, 0, 0, 0, 0, 0, 0]
def AggN (sd pu : Bool) (c : Int) (s : Nat) : Sp := fun v w => ∃ g, v = .agg #[.bool sd, .int .i64 c, .slice (some ⟨g, 0, none⟩) 8 8, .bool pu] ∧ s ≤ g ∧ Lst w (some ⟨g, 0, none⟩) 8 [.int .u8 0, .int .u8 0, .int .u8 0, .int .u8 0, .int .u8 0, .int .u8 0, .int .u8 0, .int .u8 0]
theorem AggN.stable (sd pu : Bool) (c : Int) (s : Nat) : Stable (AggN sd pu c s) := fun v a b ⟨g, e, h, hl⟩ hb => ⟨g, e, h, hl.kept hb⟩
theorem AggN.ex (sd pu : Bool) (c : Int) (w : World) : ∃ v, ∃ x : Kin w, AggN sd pu c w.heap.size v x.world :=
  ⟨_, ⟨_, (Below.refl _ _).alloc (Nat.le_refl _) (.cells [.int .u8 0, .int .u8 0, .int .u8 0, .int .u8 0, .int .u8 0, .int .u8 0, .int .u8 0, .int .u8 0].toArray 0)⟩, ⟨_, rfl, Nat.le_refl _, lst_row w 0 [.int .u8 0, .int .u8 0, .int .u8 0, .int .u8 0, .int .u8 0, .int .u8 0, .int .u8 0, .int .u8 0]⟩⟩
theorem AggN.at {sd pu : Bool} {c : Int} {s g : Nat} {w : World} (h : AggN sd pu c s (.agg #[.bool sd, .int .i64 c, .slice (some ⟨g, 0, none⟩) 8 8, .bool pu]) w) : Lst w (some ⟨g, 0, none⟩) 8 [.int .u8 0, .int .u8 0, .int .u8 0, .int .u8 0, .int .u8 0, .int .u8 0, .int .u8 0, .int .u8 0] := by
  obtain ⟨g', e, _, hl⟩ := h
  simp at e
  subst e
  exact hl
theorem mk8 (W : World) : (Instr.makeSlice 23 (.int .i64 8) (.int .i64 8)).run Tryd.prog W = .ok (.slice (some ⟨W.heap.size, 0, none⟩) 8 8) (W.alloc (.cells #[.int .u8 0, .int .u8 0, .int .u8 0, .int .u8 0, .int .u8 0, .int .u8 0, .int .u8 0, .int .u8 0] 5)) := by kernel_rfl
theorem ne_of {n : Nat} {b : Bool} (h : decide (n ≠ 0) = b) : ((n : Int) != 0) = b := by
  rw [← h, Bool.eq_iff_iff]
  simp
set_option maxRecDepth 100000 in
set_option maxHeartbeats 8000000 in
theorem go (k s l0 wo0 ad mn0 cn : Int) (tk sd pu : Bool) (c0 x0 : Int) (A : Option Addr) (N cc : Nat) (w : World) (hN : N ≤ 20) (hU : Up w) :
    Calls Tryd.prog 10 #[.agg #[.int .i64 k, .int .i64 s, .int .i64 l0, .int .i64 wo0, .int .i64 ad, .int .i64 mn0, .int .i64 cn, .bool tk], .agg #[.bool sd, .int .i64 c0, .slice A N cc, .bool pu], .int .i64 x0] w fun e w' => e = .returned (.bool true) ∧ Below w.heap.size w w' := by
  obtain ⟨y, y0, y1', hy'⟩ := and_mask wo0 7 (by omega)
  have hy : Go.bits BinOp.and IntKind.i64 wo0 7 = y := hy'
  have y1 : y ≤ 7 := y1'
  obtain ⟨z, z0, z1', hz'⟩ := and_mask mn0 3 (by omega)
  have hz : Go.bits BinOp.and IntKind.i64 mn0 3 = z := hz'
  have z1 : z ≤ 3 := z1'
  obtain ⟨r, r0, r1', hr'⟩ := and_mask l0 4095 (by omega)
  have hr : Go.bits BinOp.and IntKind.i64 l0 4095 = r := hr'
  have r1 : r ≤ 4095 := r1'
  obtain ⟨c, cc0, cc1', hc'⟩ := and_mask c0 3 (by omega)
  have hc : Go.bits BinOp.and IntKind.i64 c0 3 = c := hc'
  have cc1 : c ≤ 3 := cc1'
  obtain ⟨X, X0, X1', hX'⟩ := and_mask x0 65535 (by omega)
  have hX : Go.bits BinOp.and IntKind.i64 x0 65535 = X := hX'
  have X1 : X ≤ 65535 := X1'
  clear y1' hy' z1' hz' r1' hr' cc1' hc' X1' hX'
  have hw1 : IntKind.i64.wrap (1 + y) = 1 + y := IntWalk.i64_in _ (by omega)
  have hw2 : IntKind.i64.wrap (1000 + r) = 1000 + r := IntWalk.i64_in _ (by omega)
  have hw3 : IntKind.i64.wrap (1 + z) = 1 + z := IntWalk.i64_in _ (by omega)
  obtain ⟨wo, hwo⟩ : ∃ wo, 1 + y = wo := ⟨_, rfl⟩
  obtain ⟨l, hl⟩ : ∃ l, 1000 + r = l := ⟨_, rfl⟩
  obtain ⟨mn, hmn⟩ : ∃ mn, 1 + z = mn := ⟨_, rfl⟩
  have bw : 1 ≤ wo ∧ wo ≤ 8 := by omega
  have bl : 0 ≤ l ∧ l ≤ 10000 := by omega
  have bm : 1 ≤ mn ∧ mn ≤ 4 := by omega
  rw [hwo] at hw1
  rw [hl] at hw2
  rw [hmn] at hw3
  obtain ⟨a, b, hs⟩ := snd_ex k wo mn c
  obtain ⟨aq, bq, hsq⟩ := snd_ex k wo mn 0
  obtain ⟨a', b', hp⟩ := pls_ex k l
  obtain ⟨W1, HW1, HO8, HO4, HB⟩ := two k s l wo ad mn cn tk sd pu A N cc c w 25 72
  have HO8' := Lib.hid HO8
  have HO4' := Lib.hid HO4
  have HB' := Lib.hid HB
  have HU := Lib.hid hU
  have hzl : (bitsOf zs8).length = 64 := by decide
  have HD := Lib.hid (fun (W : World) (h : Below w.heap.size w W) (g : Nat) (hL : Lst W (some ⟨g, 0, none⟩) 8 [.int .u8 0, .int .u8 0, .int .u8 0, .int .u8 0, .int .u8 0, .int .u8 0, .int .u8 0, .int .u8 0]) (p : Int) (p0 : -1000000 ≤ p) (p1 : p ≤ 1000000) => drives_any k s l wo ad mn cn tk sd pu (some ⟨g, 0, none⟩) 8 8 c p a' b' true zs8 _ W (by omega) (by omega) (by omega) (by omega) (by omega) (by omega) (by omega) (by omega) hL (by decide) (by omega) (hU.kept h) hp rfl)
  have HAN : Hid (anyN (fun p => decide (drF sd pu true (bitsOf zs8) (atN k wo mn c p) (atT k wo mn c p) a' b' p ≠ 0)) (X - 4) 9 = opF sd pu a b a' b' X) := Lib.hid (dr_any hs bm.1 (by rw [hzl]; omega))
  have HOP := Lib.hid (fun W => opens_any k s l wo ad mn cn tk sd pu A N cc c X a b a' b' _ _ W (by omega) (by omega) (by omega) (by omega) (by omega) (by omega) (by omega) (by omega) (by omega) hs hp rfl rfl)
  have HOQ : Hid (∀ W : World, Calls Tryd.prog 50 #[.agg #[.int .i64 k, .int .i64 s, .int .i64 l, .int .i64 wo, .int .i64 ad, .int .i64 mn, .int .i64 cn, .bool tk], .agg #[.bool false, .int .i64 0, .slice none 0 0, .bool false], .int .i64 X] W fun e w' => e = .returned (.bool false) ∧ Below W.heap.size W w') := Lib.hid (fun W => by
    have h := opens_any k s l wo ad mn cn tk false false none 0 0 0 X aq bq a' b' _ _ W (by omega) (by omega) (by omega) (by omega) (by omega) (by omega) (by omega) (by omega) (by omega) hsq hp rfl rfl
    simpa using h)
  have HAQ : Hid (∀ W : World, Below w.heap.size w W → Calls Tryd.prog 52 #[.agg #[.int .i64 k, .int .i64 s, .int .i64 l, .int .i64 wo, .int .i64 ad, .int .i64 mn, .int .i64 cn, .bool tk], .agg #[.bool false, .int .i64 0, .slice none 0 0, .bool false], .int .i64 X, .int .i64 X] W fun e w' => e = .returned (.int .u8 ((0 : Nat) : Int)) ∧ Below W.heap.size W w') := Lib.hid (fun W h =>
    alone_any k s l wo ad mn cn tk false false none 0 0 0 X X aq bq a' b' [] 0 W (by omega) (by omega) (by omega) (by omega) (by omega) (by omega) (by omega) (by omega) (by omega) (by omega) (by omega) (Lst.nil _ _) (by intro x hx; cases hx) (by omega) (hU.kept h) hsq hp (by simp [opF]))
  obtain ⟨f, HF⟩ : ∃ f : Int → Bool, Hid (∀ p, decide (drF sd pu true (bitsOf zs8) (atN k wo mn c p) (atT k wo mn c p) a' b' p ≠ 0) = f p) := ⟨_, Lib.hid (fun _ => rfl)⟩
  rw [show (fun p => decide (drF sd pu true (bitsOf zs8) (atN k wo mn c p) (atT k wo mn c p) a' b' p ≠ 0)) = f from funext HF.out] at HAN
  obtain ⟨u, HUU⟩ : ∃ u, Hid (opF sd pu a b a' b' X = u) := ⟨_, Lib.hid rfl⟩
  have HOU : Hid (∀ W : World, Calls Tryd.prog 50 #[.agg #[.int .i64 k, .int .i64 s, .int .i64 l, .int .i64 wo, .int .i64 ad, .int .i64 mn, .int .i64 cn, .bool tk], .agg #[.bool sd, .int .i64 c, .slice A N cc, .bool pu], .int .i64 X] W fun e w' => e = .returned (.bool u) ∧ Below W.heap.size W w') := Lib.hid (fun W => by
    have h := HOP.out W
    rw [← HUU.out]
    exact h)
  rw [HUU.out] at HAN
  clear hs hsq hp hU HB HO8 HO4 HOP HUU hzl
  go_enter Tryd.func10, Tryd.ntmps10
  go_upto_region 5 with (fail)
  rw [← HW1]
  rw [show decide ((20 : Int) < (N : Int)) = false from decide_eq_false (by omega)]
  clear HW1 hy hz hr hc hwo hl hmn hw1 hw2 hw3
  have hx4 : IntKind.i64.wrap (X - 4) = X - 4 := IntWalk.i64_in _ (by omega)
  have hx5 : IntKind.i64.wrap (X + 4) = X + 4 := IntWalk.i64_in _ (by omega)
  go_wp2_with fail
  clear hX
  go_loopw [7, 8] (fun nr i wx => ∃ (m : Nat) (x : Kin W1), m ≤ 9 ∧ nr = .bool (anyN f (X - 4) m) ∧ i = .int .i64 (X - 4 + m) ∧ wx = x.world) (fun _ i _ => (X + 6 - intOf i).toNat)
  case atStart => exact ⟨0, Kin.me _, by omega, rfl, by simp, rfl⟩
  case round =>
    obtain ⟨m, x1, hm, rfl, rfl, rfl⟩ := hrel
    by_cases hlt : m < 9
    · have hle : X - 4 + (m : Int) ≤ X + 4 := by omega
      have hw9 : IntKind.i64.wrap (X - 4 + (m : Int) + 1) = X - 4 + (m : Int) + 1 := IntWalk.i64_in _ (by omega)
      obtain ⟨p, hpp⟩ : ∃ p, X - 4 + (m : Int) = p := ⟨_, rfl⟩
      have HST : Hid (anyN f (X - 4) (m + 1) = (anyN f (X - 4) m || f p)) := Lib.hid (by show (_ || f (X - 4 + (m : Int))) = _; rw [hpp])
      rw [hpp] at hle hw9 ⊢
      have hp1 : -1000000 ≤ p ∧ p ≤ 1000000 := by omega
      have hp2 : p + 1 = X - 4 + ((m + 1 : Nat) : Int) := by omega
      go_upto_region 10 with (fail)
      have d0 : Below x1.world.heap.size x1.world x1.world.drew := bel_drew _
      obtain ⟨S0, S1, S2, S3, S4, S5, S6, S7⟩ := o8 k s l wo ad mn cn tk ((HO8'.out.kept x1.below).kept d0)
      obtain ⟨R0, R1, R2, R3⟩ := o4 sd pu A N cc c ((HO4'.out.kept x1.below).kept d0)
      have HKN : Hid (∀ x : Kin x1.world.drew, ∃ x5 : Kin W1, x.world = x5.world) := Lib.hid (fun x => Kin.ex (x1.below.trans ((d0.trans x.below).mono x1.below.size)))
      have HDD := Lib.hid (fun (x : Kin x1.world.drew) (g : Nat) hL => HD.out x.world (by obtain ⟨x5, e⟩ := HKN.out x; rw [e]; exact Kin.up x5 HB'.out) g hL p hp1.1 hp1.2)
      have hne := ne_of (HF.out p)
      obtain ⟨D, HDE⟩ : ∃ D, Hid (drF sd pu true (bitsOf zs8) (atN k wo mn c p) (atT k wo mn c p) a' b' p = D) := ⟨_, Lib.hid rfl⟩
      rw [HDE.out] at HDD hne
      have hmk := mk8
      generalize hnr : anyN f (X - 4) m = nr at HST ⊢
      generalize f p = fp at HST hne
      clear hnr hpp
      cases nr
      · go_wp2_with fail
        refine wp_region_specL 15 [.d (.bool false), .d (.bool false), .d (.agg #[.int .i64 k, .int .i64 s, .int .i64 l, .int .i64 wo, .int .i64 ad, .int .i64 mn, .int .i64 cn, .bool tk]), .d (.pointer (some ⟨w.heap.size + 1, 0, none⟩)), .d (.bool sd), .d (.pointer (some ⟨w.heap.size + 1, 1, none⟩)), .d (.int .i64 c), .g (NewL x1.world.heap.size 8 [.int .u8 0, .int .u8 0, .int .u8 0, .int .u8 0, .int .u8 0, .int .u8 0, .int .u8 0, .int .u8 0]), .d (.pointer (some ⟨w.heap.size + 1, 3, none⟩)), .d (.bool pu), .g (AggN sd pu c x1.world.heap.size), .d (.int .i64 p), .d (.int .u8 D), .d (.bool fp), .d (.bool fp)] (by kernel_rfl) (by kernel_rfl) ?_
        refine spec_d rfl (fun x _ => gives_run (by go_simp)) ?_
        try simp only [Act.put, List.getElem_toArray, List.getElem_cons_succ, List.getElem_cons_zero, List.setIfInBounds_toArray, List.set_cons_zero, List.set_cons_succ]
        refine spec_d rfl (fun x _ => gives_run (by go_simp)) ?_
        try simp only [Act.put, List.getElem_toArray, List.getElem_cons_succ, List.getElem_cons_zero, List.setIfInBounds_toArray, List.set_cons_zero, List.set_cons_succ]
        refine spec_d rfl (fun x _ => gives_run (by go_simp)) ?_
        try simp only [Act.put, List.getElem_toArray, List.getElem_cons_succ, List.getElem_cons_zero, List.setIfInBounds_toArray, List.set_cons_zero, List.set_cons_succ]
        refine spec_d rfl (fun x _ => gives_run (by go_simp)) ?_
        try simp only [Act.put, List.getElem_toArray, List.getElem_cons_succ, List.getElem_cons_zero, List.setIfInBounds_toArray, List.set_cons_zero, List.set_cons_succ]
        refine spec_d rfl (fun x _ => gives_run (by go_simp)) ?_
        try simp only [Act.put, List.getElem_toArray, List.getElem_cons_succ, List.getElem_cons_zero, List.setIfInBounds_toArray, List.set_cons_zero, List.set_cons_succ]
        refine spec_d rfl (fun x _ => gives_run (by go_simp)) ?_
        try simp only [Act.put, List.getElem_toArray, List.getElem_cons_succ, List.getElem_cons_zero, List.setIfInBounds_toArray, List.set_cons_zero, List.set_cons_succ]
        refine spec_d rfl (fun x _ => gives_run (by go_simp)) ?_
        try simp only [Act.put, List.getElem_toArray, List.getElem_cons_succ, List.getElem_cons_zero, List.setIfInBounds_toArray, List.set_cons_zero, List.set_cons_succ]
        refine spec_g (NewL.stable _ _ _) (NewL.ex _ 5 (Nat.le_refl _) rfl) rfl (fun x _ => gives_ok (by go_simp) (bel_new _ _) (NewL.new (T := 5) (xs := [.int .u8 0, .int .u8 0, .int .u8 0, .int .u8 0, .int .u8 0, .int .u8 0, .int .u8 0, .int .u8 0]) x.below.size rfl)) ?_
        rintro vg ⟨xg, gg, rfl, _, _⟩
        try simp only [Act.put, List.getElem_toArray, List.getElem_cons_succ, List.getElem_cons_zero, List.setIfInBounds_toArray, List.set_cons_zero, List.set_cons_succ]
        refine spec_d rfl (fun x _ => gives_run (by go_simp)) ?_
        try simp only [Act.put, List.getElem_toArray, List.getElem_cons_succ, List.getElem_cons_zero, List.setIfInBounds_toArray, List.set_cons_zero, List.set_cons_succ]
        refine spec_d rfl (fun x _ => gives_run (by go_simp)) ?_
        try simp only [Act.put, List.getElem_toArray, List.getElem_cons_succ, List.getElem_cons_zero, List.setIfInBounds_toArray, List.set_cons_zero, List.set_cons_succ]
        refine spec_g (AggN.stable _ _ _ _) (AggN.ex _ _ _ _) rfl (fun x hx => gives_ok (by go_simp) (Below.refl _ _) ⟨gg, rfl, (NewL.at (hx _ (List.mem_singleton.2 rfl) (by kernel_rfl))).1, (NewL.at (hx _ (List.mem_singleton.2 rfl) (by kernel_rfl))).2⟩) ?_
        rintro va ⟨xa, ga, rfl, _, _⟩
        try simp only [Act.put, List.getElem_toArray, List.getElem_cons_succ, List.getElem_cons_zero, List.setIfInBounds_toArray, List.set_cons_zero, List.set_cons_succ]
        refine spec_d rfl (fun x _ => gives_run (by go_simp)) ?_
        try simp only [Act.put, List.getElem_toArray, List.getElem_cons_succ, List.getElem_cons_zero, List.setIfInBounds_toArray, List.set_cons_zero, List.set_cons_succ]
        refine spec_d rfl (fun x hx => gives_det (by go_simp) (HDD.out x ga (AggN.at (hx _ (List.mem_cons_self ..) (by kernel_rfl))))) ?_
        try simp only [Act.put, List.getElem_toArray, List.getElem_cons_succ, List.getElem_cons_zero, List.setIfInBounds_toArray, List.set_cons_zero, List.set_cons_succ]
        refine spec_d rfl (fun x _ => gives_run (by go_simp)) ?_
        try simp only [Act.put, List.getElem_toArray, List.getElem_cons_succ, List.getElem_cons_zero, List.setIfInBounds_toArray, List.set_cons_zero, List.set_cons_succ]
        refine spec_d rfl (fun x _ => gives_run (by go_simp)) ?_
        try simp only [Act.put, List.getElem_toArray, List.getElem_cons_succ, List.getElem_cons_zero, List.setIfInBounds_toArray, List.set_cons_zero, List.set_cons_succ]
        refine spec_end (fun x hx => ?_)
        clear hx
        change wpAny _ _ _ _ (0 + 1) _ _ _
        refine wpAny_ready (rs := [15]) (by kernel_rfl) (by simp) ?_
        refine AllReady.cons rfl (fun KK hK => ?_) AllReady.nil
        go_simp
        refine hK _ _ ?_
        clear hK KK
        try simp only [Act.put, List.getElem_toArray, List.getElem_cons_succ, List.getElem_cons_zero, List.setIfInBounds_toArray, List.set_cons_zero, List.set_cons_succ]
        refine wpAny_done (by kernel_rfl) ?_ _
        clear S0 S1 S2 S3 S4 S5 S6 S7 R0 R1 R2 R3 HDD hne
        obtain ⟨x5, hx5⟩ := HKN.out x
        rw [hx5]
        clear hx5 HKN d0
        clear x
        go_wp2
        go_roundw
        case rel => exact ⟨m + 1, x5, by omega, by rw [HST.out]; simp, by first | rfl | go_num | simp, rfl⟩
        case measure => simp [intOf]; omega
      · go_wp2_with fail
        refine wp_region_specL 15 [.d (.bool true), .d (.bool true), .d undef, .d undef, .d undef, .d undef, .d undef, .d undef, .d undef, .d undef, .d undef, .d undef, .d undef, .d undef, .d (.bool true)] (by kernel_rfl) (by kernel_rfl) ?_
        refine spec_d rfl (fun x _ => gives_run (by go_simp)) ?_
        try simp only [Act.put, List.getElem_toArray, List.getElem_cons_succ, List.getElem_cons_zero, List.setIfInBounds_toArray, List.set_cons_zero, List.set_cons_succ]
        refine spec_d rfl (fun x _ => gives_run (by go_simp)) ?_
        try simp only [Act.put, List.getElem_toArray, List.getElem_cons_succ, List.getElem_cons_zero, List.setIfInBounds_toArray, List.set_cons_zero, List.set_cons_succ]
        refine spec_skip rfl ?_
        try simp only [Act.put, List.getElem_toArray, List.getElem_cons_succ, List.getElem_cons_zero, List.setIfInBounds_toArray, List.set_cons_zero, List.set_cons_succ]
        refine spec_skip rfl ?_
        try simp only [Act.put, List.getElem_toArray, List.getElem_cons_succ, List.getElem_cons_zero, List.setIfInBounds_toArray, List.set_cons_zero, List.set_cons_succ]
        refine spec_skip rfl ?_
        try simp only [Act.put, List.getElem_toArray, List.getElem_cons_succ, List.getElem_cons_zero, List.setIfInBounds_toArray, List.set_cons_zero, List.set_cons_succ]
        refine spec_skip rfl ?_
        try simp only [Act.put, List.getElem_toArray, List.getElem_cons_succ, List.getElem_cons_zero, List.setIfInBounds_toArray, List.set_cons_zero, List.set_cons_succ]
        refine spec_skip rfl ?_
        try simp only [Act.put, List.getElem_toArray, List.getElem_cons_succ, List.getElem_cons_zero, List.setIfInBounds_toArray, List.set_cons_zero, List.set_cons_succ]
        refine spec_skip rfl ?_
        try simp only [Act.put, List.getElem_toArray, List.getElem_cons_succ, List.getElem_cons_zero, List.setIfInBounds_toArray, List.set_cons_zero, List.set_cons_succ]
        refine spec_skip rfl ?_
        try simp only [Act.put, List.getElem_toArray, List.getElem_cons_succ, List.getElem_cons_zero, List.setIfInBounds_toArray, List.set_cons_zero, List.set_cons_succ]
        refine spec_skip rfl ?_
        try simp only [Act.put, List.getElem_toArray, List.getElem_cons_succ, List.getElem_cons_zero, List.setIfInBounds_toArray, List.set_cons_zero, List.set_cons_succ]
        refine spec_skip rfl ?_
        try simp only [Act.put, List.getElem_toArray, List.getElem_cons_succ, List.getElem_cons_zero, List.setIfInBounds_toArray, List.set_cons_zero, List.set_cons_succ]
        refine spec_skip rfl ?_
        try simp only [Act.put, List.getElem_toArray, List.getElem_cons_succ, List.getElem_cons_zero, List.setIfInBounds_toArray, List.set_cons_zero, List.set_cons_succ]
        refine spec_skip rfl ?_
        try simp only [Act.put, List.getElem_toArray, List.getElem_cons_succ, List.getElem_cons_zero, List.setIfInBounds_toArray, List.set_cons_zero, List.set_cons_succ]
        refine spec_skip rfl ?_
        try simp only [Act.put, List.getElem_toArray, List.getElem_cons_succ, List.getElem_cons_zero, List.setIfInBounds_toArray, List.set_cons_zero, List.set_cons_succ]
        refine spec_d rfl (fun x _ => gives_run (by go_simp)) ?_
        try simp only [Act.put, List.getElem_toArray, List.getElem_cons_succ, List.getElem_cons_zero, List.setIfInBounds_toArray, List.set_cons_zero, List.set_cons_succ]
        refine spec_end (fun x hx => ?_)
        clear hx
        change wpAny _ _ _ _ (0 + 1) _ _ _
        refine wpAny_ready (rs := [15]) (by kernel_rfl) (by simp) ?_
        refine AllReady.cons rfl (fun KK hK => ?_) AllReady.nil
        go_simp
        refine hK _ _ ?_
        clear hK KK
        try simp only [Act.put, List.getElem_toArray, List.getElem_cons_succ, List.getElem_cons_zero, List.setIfInBounds_toArray, List.set_cons_zero, List.set_cons_succ]
        refine wpAny_done (by kernel_rfl) ?_ _
        clear S0 S1 S2 S3 S4 S5 S6 S7 R0 R1 R2 R3 HDD hne
        obtain ⟨x5, hx5⟩ := HKN.out x
        rw [hx5]
        clear hx5 HKN d0
        clear x
        go_wp2
        go_roundw
        case rel => exact ⟨m + 1, x5, by omega, by rw [HST.out]; simp, by first | rfl | go_num | simp, rfl⟩
        case measure => simp [intOf]; omega
    · obtain rfl : m = 9 := by omega
      have hgt : X + 4 < X - 4 + ((9 : Nat) : Int) := by omega
      have hd : decide (X - 4 + ((9 : Nat) : Int) ≤ X + 4) = false := decide_eq_false (by omega)
      rw [HAN.out]
      go_upto_region 12 with (fail)
      obtain ⟨W9, HW9⟩ : ∃ W9, W9 = x1.world.alloc (.cells #[.bool false, .int .i64 0, .slice none 0 0, .bool false] 72) := ⟨_, rfl⟩
      have hb9 : Below x1.world.heap.size x1.world W9 := by rw [HW9]; exact bel_new _ _
      have HOQ9 : Obj1 W9 x1.world.heap.size 72 #[.bool false, .int .i64 0, .slice none 0 0, .bool false] := by rw [HW9]; exact Obj1.new _ _ _
      obtain ⟨S0, S1, S2, S3, S4, S5, S6, S7⟩ := o8 k s l wo ad mn cn tk ((HO8'.out.kept x1.below).kept hb9)
      obtain ⟨R0, R1, R2, R3⟩ := o4 sd pu A N cc c ((HO4'.out.kept x1.below).kept hb9)
      obtain ⟨T0, T1, T2, T3⟩ := o4 false false none 0 0 0 HOQ9
      have HBB := Lib.hid ((Kin.up x1 HB'.out).trans (hb9.mono (Kin.up x1 HB'.out).size))
      rw [← HW9]
      clear HW9 hb9 HOQ9 hd hgt
      generalize x1.world.heap.size = g9 at T0 T1 T2 T3 ⊢
      obtain ⟨xa, hxa⟩ : ∃ xa : Kin W9, xa.world = W9 := ⟨Kin.me _, rfl⟩
      rw [← hxa]
      clear hxa
      have HUP := Lib.hid (fun x : Kin W9 => Kin.up x HBB.out)
      go_wp2_with fail
      refine (Calls.kin _ (HOU.out _)).mono ?_
      rintro e w' ⟨rfl, xb, rfl⟩
      go_wp2_with fail
      refine (Calls.kin _ (HOQ.out _)).mono ?_
      rintro e w' ⟨rfl, xc, rfl⟩
      go_wp2_with fail
      refine (Calls.kin _ (HAQ.out _ (HUP.out xc))).mono ?_
      rintro e w' ⟨rfl, xd, rfl⟩
      go_wp2_with fail
      refine (Calls.kin _ (One18.one_any _ (HU.out.kept (HUP.out xd)))).mono ?_
      rintro e w' ⟨rfl, xe, rfl⟩
      go_wp2
      go_ret
      exact ⟨rfl, HUP.out xe⟩
theorem walk_long (k s l0 wo0 ad mn0 cn : Int) (tk sd pu : Bool) (c0 x0 : Int) (A : Option Addr) (N cc : Nat) (w : World) (hN : 20 < N) (hM : N ≤ 9223372036854775807) :
    Calls Tryd.prog 10 #[.agg #[.int .i64 k, .int .i64 s, .int .i64 l0, .int .i64 wo0, .int .i64 ad, .int .i64 mn0, .int .i64 cn, .bool tk], .agg #[.bool sd, .int .i64 c0, .slice A N cc, .bool pu], .int .i64 x0] w fun e w' => e = .returned (.bool true) ∧ Below w.heap.size w w' := by
  have hN' : (20 : Int) < (N : Int) := by omega
  go_enter Tryd.func10, Tryd.ntmps10
  go_wp2
  go_ret
  refine ⟨rfl, ?_⟩
  repeat (first | exact Below.refl _ _ | refine Below.setCell ?_ (by first | omega | (simp; done) | (simp; omega)) _ | refine Below.alloc ?_ (by first | omega | (simp; done) | (simp; omega)) _ | refine below_drewN' ?_ _ | refine Below.drew ?_)
abbrev shS : Sh := .fld (.int .i64) (.fld (.int .i64) (.fld (.int .i64) (.fld (.int .i64) (.fld (.int .i64) (.fld (.int .i64) (.fld (.int .i64) (.fld .bool .nil)))))))
abbrev shR : Sh := .fld .bool (.fld (.int .i64) (.fld (.sl (.int .u8)) (.fld .bool .nil)))
theorem gUp : Tryd.prog.globalNamed "busbar/wires.upright" = some 0 := by kernel_rfl
theorem tUp : (Tryd.prog.globals[0]?).map (·.type) = some 38 := by kernel_rfl
theorem of_laid {W : World} (h : laidMetH Tryd.prog Rows.gateHoldsRow.laid W) : Up W := by
  rw [MakeChecks.laidMetH_plain _ _ _ (by kernel_rfl)] at h
  obtain ⟨ps, ⟨g0, t0, cs0, f0, p0, q0, hg0, ht0, hv0, hd0, _, _⟩, _, _⟩ := h
  obtain rfl := Option.some.inj (gUp.symm.trans hg0)
  obtain rfl := Option.some.inj (tUp.symm.trans ht0)
  have e := exact_cells (sh := .ar 4 .bool) 10 rfl (by kernel_rfl) hd0 rfl
  obtain ⟨l0⟩ := cs0
  simp at e
  subst e
  exact ⟨by simpa using World.var?_cell hg0 hv0 0, by simpa using World.var?_cell hg0 hv0 1, by simpa using World.var?_cell hg0 hv0 2, by simpa using World.var?_cell hg0 hv0 3⟩
theorem walk (s : Array Value) (r : Array Value) (x : Int) (w : World) (hU : Up w) (rs : Reads w shS s.toList) (rr : Reads w shR r.toList) (x0 : -9223372036854775808 ≤ x) (x1 : x ≤ 9223372036854775807) :
    Calls Tryd.prog 10 #[.agg s, .agg r, .int .i64 x] w fun e w' => e = .returned (.bool true) ∧ Below w.heap.size w w' := by
  obtain ⟨_, _, e, ⟨k, rfl, _⟩, _, _, rfl, ⟨st, rfl, _⟩, _, _, rfl, ⟨l, rfl, _⟩, _, _, rfl, ⟨wo, rfl, _⟩, _, _, rfl, ⟨ad, rfl, _⟩, _, _, rfl, ⟨mn, rfl, wm⟩, _, _, rfl, ⟨cn, rfl, _⟩, _, _, rfl, ⟨tk, rfl⟩, rfl⟩ := rs
  obtain ⟨_, _, e', ⟨sd, rfl⟩, _, _, rfl, ⟨c, rfl, _⟩, _, _, rfl, ⟨A, N, cc, rows, rfl, hn, hm, hg, hrr⟩, _, _, rfl, ⟨pu, rfl⟩, rfl⟩ := rr
  obtain ⟨s⟩ := s
  obtain ⟨r⟩ := r
  simp at e e'
  subst e e'
  unfold maxLen at hm
  by_cases h : N ≤ 20
  · exact go k st l wo ad mn cn tk sd pu c x A N cc w h hU
  · exact walk_long k st l wo ad mn cn tk sd pu c x A N cc w (by omega) (by omega)

theorem door_met (os : Os) (args : Array Value) : laidMetH Tryd.prog Rows.gateHoldsRow.laid ((World.doorLaid Tryd.prog 400 os).forCall (fun _ _ => 0) ⟨#[], args, []⟩).memory :=
  laidMetH_of_parts3 (fuel := 8) (laidMet_of_run' 8 (by kernel_rfl) (by kernel_rfl)) (by kernel_rfl) (by kernel_rfl)
set_option maxRecDepth 100000 in
theorem lifted (os : Os) (started : os.Started) (H : Type) (enc : TypeId × Value → H) :
    ReturnsInHanded {} Tryd.checked os 10 .any (fun w args => (Rows.gateHoldsSpec.pre enc Tryd.prog Tryd.f10 [] false w args ∧ laidMetH Tryd.prog Rows.gateHoldsRow.laid w) ∧ sizedMet enc Tryd.prog Tryd.f10 (OpenSpec.ofChange Rows.gateHoldsSpec) false w args)
      (Rows.gateHoldsSpec.post enc Tryd.prog Tryd.f10 false true false false) := by
  refine returnsInHanded_of_change_and (C := Tryd.checked) (X := fun w _ => laidMetH Tryd.prog Rows.gateHoldsRow.laid w) (fun _ _ _ hh h => h.of_heap hh) own started (by kernel_rfl) Tryd.func10
    (ChangeSpec.witness_shaped (enc := enc) (C := Tryd.checked) (os := os) (X := fun w _ => laidMetH Tryd.prog Rows.gateHoldsRow.laid w) false (World.doorLaid Tryd.prog 400 os) #[.agg #[.int .i64 0, .int .i64 0, .int .i64 0, .int .i64 0, .int .i64 0, .int .i64 0, .int .i64 0, .bool false], .agg #[.bool false, .int .i64 0, .slice none 0 0, .bool false], .int .i64 0] 8 rfl (World.shaped_of_RefB (by kernel_rfl) (by kernel_rfl)) (by kernel_rfl) (by kernel_rfl) (by kernel_rfl) (door_met os _)) ?_
  intro W base args ds gs before hval0 hW _ _ hL _
  have hval : ∀ (j : Nat) t v, Tryd.f10.params[j]? = some t → args[j]? = some v → Value.okWide Tryd.prog W .any base t v := hval0
  have hW' := hW
  obtain ⟨p, q, hA0, hV, rfl, hfz, hnd⟩ := hW
  have hA : DataW.TrodAll enc Tryd.prog W 0 (fun _ => true) true Tryd.f10.params.toList args.toList ds p := hA0
  rw [Tryd.params10] at hA hval
  obtain ⟨v0, vs0, d0, ds0, p0, q0, hargs, rfl, rfl, h0, r0⟩ := trodAll_cons hA
  obtain ⟨v1, vs1, d1, ds1, p1, q1, rfl, rfl, rfl, h1, r1⟩ := trodAll_cons r0
  obtain ⟨v2, vs2, d2, ds2, p2, q2, rfl, rfl, rfl, h2, r2⟩ := trodAll_cons r1
  obtain ⟨rfl, rfl, rfl⟩ := trodAll_nil r2
  obtain rfl : args = #[v0, v1, v2] := by cases args; simp_all
  obtain ⟨rfl, rfl⟩ := trodVars_none hV
  have k0 := h0
  have lt0 : ∀ x ∈ p0, x.block < W.heap.size := by obtain ⟨m, hm⟩ := k0; exact DataW.trod_lt m _ _ _ hm
  obtain ⟨s, rfl⟩ := okWide_agg (by first | exact .inl ⟨_, Tryd.underlying25⟩ | exact .inr ⟨_, _, Tryd.underlying25⟩) (hval 0 25 v0 rfl rfl)
  have rd0 := reads_cells (sh := shS) 30 (by kernel_rfl) k0
  have k1 := h1
  have lt1 : ∀ x ∈ p1, x.block < W.heap.size := by obtain ⟨m, hm⟩ := k1; exact DataW.trod_lt m _ _ _ hm
  obtain ⟨r, rfl⟩ := okWide_agg (by first | exact .inl ⟨_, Tryd.underlying72⟩ | exact .inr ⟨_, _, Tryd.underlying72⟩) (hval 1 72 v1 rfl rfl)
  have rd1 := reads_cells (sh := shR) 30 (by kernel_rfl) k1
  obtain ⟨x, rfl, rfl, rfl, wf2⟩ := open_int Tryd.underlying3 (hval 2 3 v2 rfl rfl) h2
  have bd2 := bounds_i64 wf2
  clear hA0 hval0
  refine (walk s r x W (of_laid hL) rd0 rd1 bd2.1 bd2.2).mono fun e W' ⟨he, bel⟩ => ?_
  subst he
  exact ⟨_, rfl, _, _, _, [], _, [], hW', trodAll_mk1 (shut_bool Tryd.underlying4 _), (trodAll_cons_mk (Below.trod laidOut (by kernel_rfl) (of_decide_eq_true (by kernel_rfl)) k0 bel lt0) (trodAll_cons_mk (Below.trod laidOut (by kernel_rfl) (of_decide_eq_true (by kernel_rfl)) k1 bel lt1) (trodAll_cons_mk (shut_int Tryd.underlying3 wf2) trodAll_mk0))), rfl, bel.frame _, fun h => by cases h⟩

theorem over : Rows.gateHoldsRow.holds Tryd.pinned (OpenSpec.ofChange Rows.gateHoldsSpec) :=
  OpenClaim.holds_of_wide 10 Tryd.f10 rfl rfl rfl rfl rfl rfl rfl ⟨rfl, rfl, rfl, rfl, rfl⟩ rfl rfl rfl rfl rfl (by kernel_rfl) Tryd.func10 (by kernel_rfl)
    (of_decide_eq_true (by kernel_rfl)) (by unfold Func.isWrapper; first | (rw [if_pos (by decide +kernel)]; kernel_rfl) | (rw [if_neg (by decide +kernel)]; exact ⟨rfl, rfl⟩))
    (fun os started H enc _ => lifted os started H enc)

/-- The card: what the row lists is tied to the program's text. -/
theorem proved : Rows.GateHoldsCardSaid :=
  Claim7.holds_tied_plain_at .later [] [.data] true Rows.gateHoldsCard.stood.harness false
    over (fun _ h => by cases h) (by kernel_rfl) (fun _ h => by cases h) gateHolds_row_tie rfl ⟨rfl, rfl⟩ (by kernel_rfl) rfl
    (fun f fn hf hfn => by
      obtain rfl : f = 10 := Option.some.inj ((show Tryd.prog.funcNamed "busbar/busbarlaw18.GateHolds" = some 10 by kernel_rfl).symm.trans hf) |>.symm
      obtain rfl : fn = Tryd.f10 := (Option.some.inj (Tryd.func10.symm.trans hfn)).symm
      exact ⟨by kernel_rfl, fun j t ht => by
        rw [Tryd.params10] at ht
        have hm : t ∈ [25, 72, 3] := by simpa using Array.mem_of_getElem? ht
        have hall : ([25, 72, 3].all fun u => !Tryd.prog.wantsStandIn u) = true := by kernel_rfl
        exact (show Tryd.prog.wantsStandIn t = false by simpa using List.all_eq_true.1 hall t hm)⟩)
    (by kernel_rfl)
end Go.Proofs.YtnbcegijncdmaaaDoor.lawGateHolds
