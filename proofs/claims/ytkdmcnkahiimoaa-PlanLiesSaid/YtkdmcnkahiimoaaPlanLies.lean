/- Slots lie one behind the other, without a tick between; each pulse lies within its slot, two bits and more from its ends; the words of each candidate end two bits and more ahead of it: for every schedule, version and module; no condition. -/
import Derived.RegionTactic
import Derived.IntWalk
import Derived.Deep.DeepCutAuto
import Derived.Deep.CutBlock
import Derived.Test.YtkdmcnkahiimoaaPlnG
import Derived.Test.YtkdmcnkahiimoaaPlnI
import Derived.Test.YtkdmcnkahiimoaaPlnJ
import Derived.Test.YtkdmcnkahiimoaaPlnO
import Derived.Test.YtkdmcnkahiimoaaPlnP
import Derived.Test.YtkdmcnkahiimoaaRows
import Derived.WalkKit
import Derived.ProofKit
import Derived.OpenShut
import Derived.ShutString
import Derived.ChangeOld
import Derived.Below
namespace Go.Proofs.Ytkdmcnkahiimoaa.lawPlanLies
open Go.ChangeShapes Go.WideShapes Go.ChangeAt Go.RowKit Base
open Go.ChangeMaps (open_string shut_string)
set_option linter.unusedVariables false
set_option linter.unusedSimpArgs false
theorem own : ownKnob Try.prog.godebug = none := by kernel_rfl
theorem laidOut : laidOutB Try.prog = true := by kernel_rfl
open Ly7

/-- What a slot of a frame is like. -/
def Kd (z : Sl) : Prop := 0 ≤ z.l ∧ z.l ≤ 20000 ∧ ((z.k = 3 ∧ 200 ≤ z.l) ∨ (z.k = 4 ∧ z.l = 120) ∨ (z.k = 2 ∧ z.l = 120) ∨ z.k = 1 ∨ (z.k = 0 ∧ ∃ u q : Nat, z.wo = (u : Int) ∧ z.mn = (q : Int) ∧ u ≤ 8 ∧ 1 ≤ q ∧ q ≤ 4 ∧ z.l = (10 + 8 * (u : Int) + 4 * ((q : Int) - 1)) * 20))
theorem sl_kd (x : Wd) (y s : Int) : ∀ z ∈ x.sl y s, Kd z := by
  have hb := x.tk_bd
  have hu := cutN_le x.wd 8
  intro z hz
  unfold Wd.sl at hz
  split at hz
  · rename_i h0
    simp at hz
    subst hz
    refine ⟨hb.1, hb.2, .inr (.inr (.inr (.inr ⟨rfl, x.u, x.q, rfl, rfl, by unfold Wd.u; omega, by unfold Wd.q; omega, by unfold Wd.q; omega, ?_⟩)))⟩
    show x.tk = _
    unfold Wd.tk tkI
    rw [if_pos h0]
  · split at hz
    · rename_i h0 h
      simp at hz
      subst hz
      refine ⟨hb.1, hb.2, ?_⟩
      rcases h with h | h
      · exact .inr (.inr (.inr (.inl h)))
      · refine .inr (.inr (.inl ⟨h, ?_⟩))
        show x.tk = _
        unfold Wd.tk tkI
        rw [if_neg h0, if_neg (by omega), if_pos h]
    · cases hz
theorem mid_kd (y : Int) : ∀ (ws : List Wd) (s : Int), ∀ z ∈ midL y ws s, Kd z
  | [], s => fun z hz => by cases hz
  | x :: r, s => fun z hz => by
    rcases List.mem_append.1 hz with h | h
    · exact sl_kd x y s z h
    · exact mid_kd y r _ z h
theorem view_kd (ver : Nat) (hv : ver < 2) (y : Int) (ws : List Wd) : ∀ z ∈ viewL ver y ws, Kd z := fun z hz => by
  unfold viewL at hz
  rcases List.mem_append.1 hz with h | h
  · rcases List.mem_cons.1 h with rfl | h
    · unfold Kd slHead leadI; simp; omega
    · exact mid_kd y ws _ z h
  · simp at h
    subst h
    unfold Kd slLast
    simp
/-- Each begins where those ahead end. -/
def Chain : List Sl → Int → Prop
  | [], _ => True
  | x :: r, s => x.s = s ∧ Chain r (s + x.l)
theorem chain_app (a b : List Sl) : ∀ s, Chain a s → Chain b (s + sumS a) → Chain (a ++ b) s := by
  induction a with
  | nil => intro s _ h; simpa [sumS] using h
  | cons x r ih =>
    intro s h1 h2
    refine ⟨h1.1, ih _ h1.2 ?_⟩
    simp only [sumS] at h2
    rw [Int.add_assoc]
    exact h2
theorem chain_sl (x : Wd) (y s : Int) : Chain (x.sl y s) s := by
  unfold Wd.sl
  split
  · exact ⟨rfl, trivial⟩
  · split
    · exact ⟨rfl, trivial⟩
    · trivial
theorem chain_mid (y : Int) : ∀ (ws : List Wd) (s : Int), Chain (midL y ws s) s
  | [], s => trivial
  | x :: r, s => by
    refine chain_app _ _ _ (chain_sl x y s) ?_
    rw [sl_sum]
    exact chain_mid y r _
theorem chain_view (ver : Nat) (y : Int) (ws : List Wd) : Chain (viewL ver y ws) 0 := by
  unfold viewL
  refine chain_app _ _ _ ⟨rfl, ?_⟩ ?_
  · have := chain_mid y ws (leadI ver)
    simpa [slHead] using this
  · refine ⟨?_, trivial⟩
    have := mid_sum y ws (leadI ver)
    simp only [slLast, sumS, slHead]
    omega
theorem chain_at : ∀ (ss : List Sl) (s : Int) (k : Nat) (x : Sl), Chain ss s → ss[k]? = some x → x.s = s + sumS (ss.take k)
  | [], s, k, x, _, h => by simp at h
  | z :: r, s, 0, x, hc, h => by
    simp at h
    subst h
    simpa [sumS] using hc.1
  | z :: r, s, k + 1, x, hc, h => by
    have := chain_at r _ k x hc.2 (by simpa using h)
    rw [this]
    simp only [List.take_succ_cons, sumS]
    omega
set_option maxRecDepth 100000 in
set_option maxHeartbeats 4000000 in
theorem walk_yes (md : Int) (A0 : Option Addr) (n0 c0 : Nat) (A1 : Option Addr) (n1 c1 : Nat) (ws0 ws1 : List Wd) (A : Option Addr) (n c : Nat) (ws : List Wd) (vr : Int) (ver : Nat) (y : Int) (w : World) (hv : (ver = 0 ∧ A = A0 ∧ n = n0 ∧ c = c0) ∨ (ver = 1 ∧ A = A1 ∧ n = n1 ∧ c = c1)) (hm : Go.bits BinOp.and IntKind.i64 vr 1 = (ver : Int))
    (hws : (ver = 0 ∧ ws = ws0 ∧ n = n0) ∨ (ver = 1 ∧ ws = ws1 ∧ n = n1)) (hW0 : WinsAt w A0 n0 ws0) (hW1 : WinsAt w A1 n1 ws1) (hW : WinsAt w A n ws) (h0 : n0 ≤ 9223372036854775807) (h1 : n1 ≤ 9223372036854775807) :
    Calls Try.prog 4 #[.agg #[.int .i64 md, .slice A0 n0 c0, .slice A1 n1 c1], .int .i64 vr, .int .i64 y] w fun e w' => e = .returned (.bool true) ∧ Below w.heap.size w w' := by
  have HV := Lib.hid hv
  have HWS := Lib.hid hws
  have hver : ver < 2 := by omega
  obtain ⟨gb, HGB⟩ : ∃ gb, Hid (w.heap.size = gb) := ⟨_, Lib.hid rfl⟩
  obtain ⟨W1, HW1⟩ : ∃ W1, W1 = w.alloc (.cells #[.int .i64 md, .slice A0 n0 c0, .slice A1 n1 c1] 25) := ⟨_, rfl⟩
  have HB1 : Hid (Below w.heap.size w W1) := Lib.hid (by rw [HW1]; exact bel1 _ _)
  have HOB : Hid (Obj1 W1 gb 25 #[.int .i64 md, .slice A0 n0 c0, .slice A1 n1 c1]) := Lib.hid (by rw [HW1, ← HGB.out]; exact Obj1.new _ _ _)
  have HF := Lib.hid (few_any md A0 n0 c0 A1 n1 c1 ws0 ws1 W1 (hW0.kept HB1.out) (hW1.kept HB1.out) h0 h1)
  have HWW : Hid (∀ W, Below W1.heap.size W1 W → WinsAt W A n ws) := Lib.hid (fun W hB => hW.kept (HB1.out.trans (hB.mono HB1.out.size)))
  clear hW0 hW1 hW h0 h1 hv hws
  have d0 : W1.cell? ⟨gb, 0, none⟩ = some (.int .i64 md) := HOB.out.cell 0
  have d1 : W1.cell? ⟨gb, 1, none⟩ = some (.slice A0 n0 c0) := HOB.out.cell 1
  have d2 : W1.cell? ⟨gb, 2, none⟩ = some (.slice A1 n1 c1) := HOB.out.cell 2
  go_enter Try.func4, Try.ntmps4
  go_upto_region 1 with (fail)
  rw [← HW1, HGB.out]
  clear HW1
  go_wp2_with fail
  refine HF.out.mono ?_
  rintro e w2 ⟨r, rfl, hr, hb2⟩
  have HB2 := Lib.hid hb2
  clear hb2 d0 d1 d2 HF
  rcases hr with rfl | ⟨rfl, hf0, hf1⟩
  · go_wp2
    go_ret
    exact ⟨rfl, HB1.out.trans (HB2.out.mono HB1.out.size)⟩
  · have hn60 : n ≤ 60 := by
      rcases HWS.out with ⟨_, rfl, rfl⟩ | ⟨_, rfl, rfl⟩
      · exact hf0.1
      · exact hf1.1
    clear hf0 hf1 HWS
    have HO2 := Lib.hid (HOB.out.kept HB2.out)
    have d0 : w2.cell? ⟨gb, 0, none⟩ = some (.int .i64 md) := HO2.out.cell 0
    have d1 : w2.cell? ⟨gb, 1, none⟩ = some (.slice A0 n0 c0) := HO2.out.cell 1
    have d2 : w2.cell? ⟨gb, 2, none⟩ = some (.slice A1 n1 c1) := HO2.out.cell 2
    have HVW := Lib.hid (view_any md A0 n0 c0 A1 n1 c1 A n c ver y ws w2 HV.out (HWW.out w2 HB2.out) (by omega))
    go_wp2_with fail
    refine HVW.out.mono ?_
    rintro e w3 ⟨v3, rfl, HR3, HB3⟩
    obtain ⟨L, HL⟩ : ∃ L, Hid (viewL ver y ws = L) := ⟨_, Lib.hid rfl⟩
    rw [HL.out] at HR3
    have HLK : Hid (∀ z ∈ L, Kd z) := Lib.hid (by rw [← HL.out]; exact view_kd ver hver y ws)
    have HLB : Hid (∀ z ∈ L, 0 ≤ z.l ∧ z.l ≤ 20000) := Lib.hid (fun z hz => ⟨(HLK.out z hz).1, (HLK.out z hz).2.1⟩)
    have HLC : Hid (Chain L 0) := Lib.hid (by rw [← HL.out]; exact chain_view ver y ws)
    have hLN : L.length ≤ 62 := by
      have := view_len ver y ws
      rw [HL.out, (HWW.out W1 (Below.refl _ _)).len] at this
      omega
    have HLS : Hid (sumS L = endS ws (leadI ver) + 120) := Lib.hid (by rw [← HL.out]; exact view_sum ver y ws)
    obtain ⟨A3, c3, rfl, hs3⟩ := slots_own HR3.out rfl
    have HS3 := Lib.hid hs3
    obtain ⟨N, HN⟩ : ∃ N, Hid (L.length = N) := ⟨_, Lib.hid rfl⟩
    rw [HN.out] at HS3 hLN ⊢
    have HC3 := Lib.hid (HB2.out.trans (HB3.out.mono HB2.out.size))
    clear d0 d1 d2 HVW hs3 HR3 HO2 HB3
    go_wp2_with fail
    go_loopw [8, 9] (fun s i wx => ∃ k : Nat, k ≤ N ∧ i = .int .i64 k ∧ s = .int .i64 (sumS (L.take k)) ∧ Below w3.heap.size w3 wx) (fun _ i _ => N - (intOf i).toNat)
    case atStart => exact ⟨0, by omega, rfl, rfl, Below.refl _ _⟩
    case round =>
      obtain ⟨k, hk, rfl, rfl, hbel⟩ := hrel
      have HBEL := Lib.hid hbel
      clear hbel
      by_cases hlt : k < N
      · have hki : (k : Int) < (N : Int) := by omega
        have hkl : k < L.length := by rw [HN.out]; exact hlt
        obtain ⟨x, hx⟩ : ∃ x, L[k]? = some x := ⟨_, List.getElem?_eq_getElem hkl⟩
        have hkd := HLK.out x (List.mem_of_getElem? hx)
        have hsb := sum_bd (L.take k) (fun z hz => HLB.out z (List.mem_of_mem_take hz))
        have hlk : (L.take k).length ≤ 62 := by rw [List.length_take]; omega
        have HSN := Lib.hid (sum_snoc hx)
        have hch := chain_at L 0 k x HLC.out hx
        obtain ⟨b3, o3, rfl, hb3, k0, k1, k2, k3, k4, k5, k6, k7⟩ := (HS3.out.kept HBEL.out).eight hlt hx
        obtain ⟨S, hS⟩ : ∃ S, sumS (L.take k) = S := ⟨_, rfl⟩
        rw [hS] at hsb HSN hch ⊢
        have hxs : x.s = S := by omega
        have l0 := hkd.1
        have l1 := hkd.2.1
        have hww : IntKind.i64.wrap (S + x.l) = S + x.l := IntWalk.i64_in _ (by omega)
        have hw40 : IntKind.i64.wrap (x.l - 40) = x.l - 40 := IntWalk.i64_in _ (by omega)
        obtain ⟨a, b, hp⟩ := pls_ex x.k x.l
        have HPU := Lib.hid (fun W => pulse_any x.k x.s x.l x.wo x.ad x.mn x.cn a b x.tk W l0 (by omega) hp)
        have HAB : Hid (x.k ≠ 1 → 40 ≤ a ∧ a < b ∧ b ≤ x.l - 40) := Lib.hid (fun h1 => by
          unfold Pls at hp
          rcases hkd.2.2 with ⟨h, h'⟩ | ⟨h, h'⟩ | ⟨h, h'⟩ | h | ⟨h, u, q, _, _, h2, h3, h4, h5⟩
          all_goals
            rw [h] at hp
            simp at hp
            omega)
        have HAE9 : Hid (x.k = 0 → a = x.l - 80) := Lib.hid (fun h => by
          unfold Pls at hp
          rw [h] at hp
          simp at hp
          omega)
        have HKD := Lib.hid hkd
        have HXS := Lib.hid hxs
        clear hx hS hsb hlk hch hkd hxs hp
        go_upto_region 10 with (fail)
        obtain ⟨gx, HGX⟩ : ∃ gx, Hid (wr.heap.size = gx) := ⟨_, Lib.hid rfl⟩
        obtain ⟨W5, HW5⟩ : ∃ W5, W5 = wr.alloc (.cells #[.int .i64 x.k, .int .i64 x.s, .int .i64 x.l, .int .i64 x.wo, .int .i64 x.ad, .int .i64 x.mn, .int .i64 x.cn, .bool x.tk] 36) := ⟨_, rfl⟩
        have HOX : Hid (Obj1 W5 gx 36 #[.int .i64 x.k, .int .i64 x.s, .int .i64 x.l, .int .i64 x.wo, .int .i64 x.ad, .int .i64 x.mn, .int .i64 x.cn, .bool x.tk]) := Lib.hid (by rw [HW5, ← HGX.out]; exact Obj1.new _ _ _)
        have HB5 : Hid (Below wr.heap.size wr W5) := Lib.hid (by rw [HW5]; exact bel1 _ _)
        rw [← HW5, HGX.out]
        clear HW5 k0 k1 k2 k3 k4 k5 k6 k7 hb3
        have q0 := HOX.out.cell 0
        have q1 := HOX.out.cell 1
        have q2 := HOX.out.cell 2
        have q3 := HOX.out.cell 3
        have q4 := HOX.out.cell 4
        have q5 := HOX.out.cell 5
        have q6 := HOX.out.cell 6
        have q7 := HOX.out.cell 7
        simp at q0 q1 q2 q3 q4 q5 q6 q7
        go_wp2_with fail
        refine (HPU.out _).mono ?_
        rintro e w6 ⟨rfl, hb6⟩
        have HOX6 := Lib.hid (HOX.out.kept hb6)
        have HB6 := Lib.hid (HB5.out.trans (hb6.mono HB5.out.size))
        clear q0 q1 q2 q3 q4 q5 q6 q7 hb6 HPU HOX HB5
        by_cases hk1 : x.k = 1
        · have q0 := HOX6.out.cell 0
          have q1 := HOX6.out.cell 1
          have q2 := HOX6.out.cell 2
          simp at q0 q1 q2
          rw [hk1] at q0
          rw [HXS.out] at q1
          have HBQ := HB6
          clear hk1
          go_wp2_with fail
          refine wp_loop_rounds 1 ?_
          rw [rounds_succ]
          have HB9 := Lib.hid (HBEL.out.trans (HBQ.out.mono HBEL.out.size))
          go_wp2
          go_roundw
          case rel => exact ⟨k + 1, by omega, by go_num, by rw [HSN.out], HB9.out⟩
          case measure => simp [intOf]; omega
        · have hab := HAB.out hk1
          have a40 : ¬ a < 40 := by omega
          have ba : ¬ b ≤ a := by omega
          have bl : ¬ (x.l - 40 < b) := by omega
          have hk1b : (x.k == 1) = false := by simpa using hk1
          have hk1n : (x.k != 1) = true := by simpa using hk1
          by_cases hk0 : x.k = 0
          · obtain ⟨u, q, hwo, hmn, hu8, hq1, hq4, hl⟩ : ∃ u q : Nat, x.wo = (u : Int) ∧ x.mn = (q : Int) ∧ u ≤ 8 ∧ 1 ≤ q ∧ q ≤ 4 ∧ x.l = (10 + 8 * (u : Int) + 4 * ((q : Int) - 1)) * 20 := by
              rcases HKD.out.2.2 with ⟨h, h'⟩ | ⟨h, h'⟩ | ⟨h, h'⟩ | h | ⟨h, r⟩
              · omega
              · omega
              · omega
              · omega
              · exact r
            have HO0 : Hid (Obj1 w6 gx 36 #[.int .i64 0, .int .i64 x.s, .int .i64 x.l, .int .i64 (u : Int), .int .i64 x.ad, .int .i64 (q : Int), .int .i64 x.cn, .bool x.tk]) := Lib.hid (by have := HOX6.out; rw [hk0, hwo, hmn] at this; exact this)
            have HLE := Lib.hid (show ∀ cc : Nat, cc < q → 40 + 80 * (cc : Int) + 160 * (u : Int) ≤ x.l - 120 from fun cc hc => by omega)
            have q0 := HO0.out.cell 0
            have q1 := HO0.out.cell 1
            have q2 := HO0.out.cell 2
            have q5 := HO0.out.cell 5
            simp at q0 q1 q2 q5
            rw [HXS.out] at q1
            have HAE : Hid (a = x.l - 80) := Lib.hid (HAE9.out hk0)
            clear hk0 hk1 hk1b hk1n hwo hmn hl
            go_upto_block 4 with (fail)
            clear q0 q1 q2 q5
            go_wp2_with fail
            go_loopw [13] (fun i wx => ∃ cc : Nat, cc ≤ q ∧ i = .int .i64 cc ∧ Below w6.heap.size w6 wx) (fun i _ => q - (intOf i).toNat)
            case atStart => exact ⟨0, by omega, rfl, Below.refl _ _⟩
            case round =>
              obtain ⟨cc, hcc, rfl, hbc⟩ := hrel
              have HOC := Lib.hid (HO0.out.kept hbc)
              have HBC := Lib.hid (HB6.out.trans (hbc.mono HB6.out.size))
              have q0 := HOC.out.cell 0
              have q5 := HOC.out.cell 5
              simp at q0 q5
              by_cases hcq : cc < q
              · have hci : (cc : Int) < (q : Int) := by omega
                have HBG := Lib.hid (fun W => begin_any 0 x.s x.l (u : Int) x.ad (q : Int) x.cn (cc : Int) (40 + 80 * (cc : Int)) x.tk W (by omega) (by omega) (by omega) (by omega) (.inr (.inr (.inr ⟨rfl, by omega, .inr hci, rfl⟩))))
                have hle := HLE.out cc hcq
                have g1 : ¬ (40 + 80 * (cc : Int) < 40) := by omega
                have e1 : IntKind.i64.wrap (160 * (u : Int)) = 160 * (u : Int) := IntWalk.i64_in _ (by omega)
                have e2 : IntKind.i64.wrap (40 + 80 * (cc : Int) + 160 * (u : Int)) = 40 + 80 * (cc : Int) + 160 * (u : Int) := IntWalk.i64_in _ (by omega)
                have e3 : IntKind.i64.wrap (a - 40) = a - 40 := IntWalk.i64_in _ (by have := HAE.out; omega)
                have g2 : ¬ (a - 40 < 40 + 80 * (cc : Int) + 160 * (u : Int)) := by have := HAE.out; omega
                go_upto_region 16 with (fail)
                clear q0 q5
                have hdr : Below wr.heap.size wr wr.drew := bel_drew wr
                have X0 : ∀ z : Kin wr.drew, Obj1 z.world gx 36 #[.int .i64 0, .int .i64 x.s, .int .i64 x.l, .int .i64 (u : Int), .int .i64 x.ad, .int .i64 (q : Int), .int .i64 x.cn, .bool x.tk] := fun z => (HOC.out.drew).kept z.below
                have K0 : ∀ z : Kin wr.drew, z.world.cell? ⟨gx, 0, none⟩ = some (.int .i64 0) := fun z => (X0 z).cell 0
                have K1 : ∀ z : Kin wr.drew, z.world.cell? ⟨gx, 1, none⟩ = some (.int .i64 x.s) := fun z => (X0 z).cell 1
                have K2 : ∀ z : Kin wr.drew, z.world.cell? ⟨gx, 2, none⟩ = some (.int .i64 x.l) := fun z => (X0 z).cell 2
                have K3 : ∀ z : Kin wr.drew, z.world.cell? ⟨gx, 3, none⟩ = some (.int .i64 (u : Int)) := fun z => (X0 z).cell 3
                have K4 : ∀ z : Kin wr.drew, z.world.cell? ⟨gx, 4, none⟩ = some (.int .i64 x.ad) := fun z => (X0 z).cell 4
                have K5 : ∀ z : Kin wr.drew, z.world.cell? ⟨gx, 5, none⟩ = some (.int .i64 (q : Int)) := fun z => (X0 z).cell 5
                have K6 : ∀ z : Kin wr.drew, z.world.cell? ⟨gx, 6, none⟩ = some (.int .i64 x.cn) := fun z => (X0 z).cell 6
                have K7 : ∀ z : Kin wr.drew, z.world.cell? ⟨gx, 7, none⟩ = some (.bool x.tk) := fun z => (X0 z).cell 7
                refine wp_region_specL 16 [.d (.agg #[.int .i64 0, .int .i64 x.s, .int .i64 x.l, .int .i64 (u : Int), .int .i64 x.ad, .int .i64 (q : Int), .int .i64 x.cn, .bool x.tk]), .d (.int .i64 cc), .d (.int .i64 (40 + 80 * (cc : Int))), .d (.bool false), .d (.bool false), .d (.agg #[.int .i64 0, .int .i64 x.s, .int .i64 x.l, .int .i64 (u : Int), .int .i64 x.ad, .int .i64 (q : Int), .int .i64 x.cn, .bool x.tk]), .d (.int .i64 cc), .d (.int .i64 (40 + 80 * (cc : Int))), .d (.pointer (some ⟨gx, 3, none⟩)), .d (.int .i64 (u : Int)), .d (.int .i64 (160 * (u : Int))), .d (.int .i64 (40 + 80 * (cc : Int) + 160 * (u : Int))), .d (.int .i64 a), .d (.int .i64 (a - 40)), .d (.bool false), .d (.bool false)] (by kernel_rfl) (by kernel_rfl) ?_
                refine spec_d rfl (fun x _ => gives_run (by go_simp)) ?_
                try simp only [Act.put, List.getElem_toArray, List.getElem_cons_succ, List.getElem_cons_zero, List.setIfInBounds_toArray, List.set_cons_zero, List.set_cons_succ]
                refine spec_d rfl (fun x _ => gives_run (by go_simp)) ?_
                try simp only [Act.put, List.getElem_toArray, List.getElem_cons_succ, List.getElem_cons_zero, List.setIfInBounds_toArray, List.set_cons_zero, List.set_cons_succ]
                refine spec_d rfl (fun z _ => gives_det (by go_simp) (HBG.out z.world)) ?_
                try simp only [Act.put, List.getElem_toArray, List.getElem_cons_succ, List.getElem_cons_zero, List.setIfInBounds_toArray, List.set_cons_zero, List.set_cons_succ]
                refine spec_d rfl (fun x _ => gives_run (by go_simp)) ?_
                try simp only [Act.put, List.getElem_toArray, List.getElem_cons_succ, List.getElem_cons_zero, List.setIfInBounds_toArray, List.set_cons_zero, List.set_cons_succ]
                refine spec_d rfl (fun x _ => gives_run (by go_simp)) ?_
                try simp only [Act.put, List.getElem_toArray, List.getElem_cons_succ, List.getElem_cons_zero, List.setIfInBounds_toArray, List.set_cons_zero, List.set_cons_succ]
                refine spec_d rfl (fun x _ => gives_run (by go_simp)) ?_
                try simp only [Act.put, List.getElem_toArray, List.getElem_cons_succ, List.getElem_cons_zero, List.setIfInBounds_toArray, List.set_cons_zero, List.set_cons_succ]
                refine spec_d rfl (fun x _ => gives_run (by go_simp)) ?_
                try simp only [Act.put, List.getElem_toArray, List.getElem_cons_succ, List.getElem_cons_zero, List.setIfInBounds_toArray, List.set_cons_zero, List.set_cons_succ]
                refine spec_d rfl (fun z _ => gives_det (by go_simp) (HBG.out z.world)) ?_
                try simp only [Act.put, List.getElem_toArray, List.getElem_cons_succ, List.getElem_cons_zero, List.setIfInBounds_toArray, List.set_cons_zero, List.set_cons_succ]
                refine spec_d rfl (fun x _ => gives_run (by go_simp)) ?_
                try simp only [Act.put, List.getElem_toArray, List.getElem_cons_succ, List.getElem_cons_zero, List.setIfInBounds_toArray, List.set_cons_zero, List.set_cons_succ]
                refine spec_d rfl (fun x _ => gives_run (by go_simp)) ?_
                try simp only [Act.put, List.getElem_toArray, List.getElem_cons_succ, List.getElem_cons_zero, List.setIfInBounds_toArray, List.set_cons_zero, List.set_cons_succ]
                refine spec_d rfl (fun x _ => gives_run (by go_simp)) ?_
                try simp only [Act.put, List.getElem_toArray, List.getElem_cons_succ, List.getElem_cons_zero, List.setIfInBounds_toArray, List.set_cons_zero, List.set_cons_succ]
                refine spec_d rfl (fun x _ => gives_run (by go_simp)) ?_
                try simp only [Act.put, List.getElem_toArray, List.getElem_cons_succ, List.getElem_cons_zero, List.setIfInBounds_toArray, List.set_cons_zero, List.set_cons_succ]
                refine spec_d rfl (fun x _ => gives_run (by go_simp)) ?_
                try simp only [Act.put, List.getElem_toArray, List.getElem_cons_succ, List.getElem_cons_zero, List.setIfInBounds_toArray, List.set_cons_zero, List.set_cons_succ]
                refine spec_d rfl (fun x _ => gives_run (by go_simp)) ?_
                try simp only [Act.put, List.getElem_toArray, List.getElem_cons_succ, List.getElem_cons_zero, List.setIfInBounds_toArray, List.set_cons_zero, List.set_cons_succ]
                refine spec_d rfl (fun x _ => gives_run (by go_simp)) ?_
                try simp only [Act.put, List.getElem_toArray, List.getElem_cons_succ, List.getElem_cons_zero, List.setIfInBounds_toArray, List.set_cons_zero, List.set_cons_succ]
                refine spec_d rfl (fun x _ => gives_run (by go_simp)) ?_
                try simp only [Act.put, List.getElem_toArray, List.getElem_cons_succ, List.getElem_cons_zero, List.setIfInBounds_toArray, List.set_cons_zero, List.set_cons_succ]
                refine spec_end (fun z hz => ?_)
                clear hz
                refine wpAny_done (by kernel_rfl) ?_ _
                have HB8 := Lib.hid (hbc.trans ((hdr.trans z.below).mono hbc.size))
                clear K0 K1 K2 K3 K4 K5 K6 K7 hdr X0
                generalize z.world = w8 at HB8 ⊢
                clear z
                go_wp2
                go_roundw
                case rel => exact ⟨cc + 1, by omega, by go_num, HB8.out⟩
                case measure => simp [intOf]; omega
              · obtain rfl : cc = q := by omega
                have HBQ := HBC
                have q2 := HOC.out.cell 2
                simp at q2
                have HB9 := Lib.hid (HBEL.out.trans (HBQ.out.mono HBEL.out.size))
                go_wp2
                go_roundw
                case rel => exact ⟨k + 1, by omega, by go_num, by rw [HSN.out], HB9.out⟩
                case measure => simp [intOf]; omega
          · have hk0b : (x.k == 0) = false := by simpa using hk0
            have q0 := HOX6.out.cell 0
            have q1 := HOX6.out.cell 1
            have q2 := HOX6.out.cell 2
            simp at q0 q1 q2
            rw [HXS.out] at q1
            have HBQ := HB6
            clear hk0 hk1 hab
            go_wp2_with fail
            refine wp_loop_rounds 1 ?_
            rw [rounds_succ]
            have HB9 := Lib.hid (HBEL.out.trans (HBQ.out.mono HBEL.out.size))
            go_wp2
            go_roundw
            case rel => exact ⟨k + 1, by omega, by go_num, by rw [HSN.out], HB9.out⟩
            case measure => simp [intOf]; omega
      · obtain rfl : k = N := by omega
        have HE : Hid (L.take k = L) := Lib.hid (List.take_of_length_le (by rw [HN.out]; exact Nat.le_refl _))
        rw [HE.out, HLS.out]
        have HC9 := Lib.hid (HC3.out.trans (HBEL.out.mono HC3.out.size))
        have HO9 := Lib.hid (HOB.out.kept HC9.out)
        have d0 := HO9.out.cell 0
        have d1 := HO9.out.cell 1
        have d2 := HO9.out.cell 2
        simp at d0 d1 d2
        have HFR := Lib.hid (fun W (hW : Below W1.heap.size W1 W) => frame_any md A0 n0 c0 A1 n1 c1 A n c ver ws W HV.out (HWW.out W hW) (by omega))
        obtain ⟨S, HS⟩ : ∃ S, Hid (endS ws (leadI ver) + 120 = S) := ⟨_, Lib.hid rfl⟩
        rw [HS.out] at HFR ⊢
        go_wp2_with fail
        refine (HFR.out _ HC9.out).mono ?_
        rintro e wf ⟨rfl, hbf⟩
        have HCF := Lib.hid (HC9.out.trans (hbf.mono HC9.out.size))
        clear d0 d1 d2 hbf
        go_wp2_with fail
        refine (one_any _).mono ?_
        rintro e wo ⟨rfl, hbo⟩
        have HCO := Lib.hid (HCF.out.trans (hbo.mono HCF.out.size))
        clear hbo
        go_wp2
        go_ret
        exact ⟨rfl, HB1.out.trans (HCO.out.mono HB1.out.size)⟩
theorem walk (cs : Array Value) (vr y : Int) (w : World) (hr : Reads w shS cs.toList) (a0 : -9223372036854775808 ≤ vr) (a1 : vr ≤ 9223372036854775807) (b0 : -9223372036854775808 ≤ y) (b1 : y ≤ 9223372036854775807) :
    Calls Try.prog 4 #[.agg cs, .int .i64 vr, .int .i64 y] w fun e w' => e = .returned (.bool true) ∧ Below w.heap.size w w' := by
  obtain ⟨md, A0, n0, c0, A1, n1, c1, ws0, ws1, rfl, hW0, hW1, h0, h1⟩ := sched_in hr
  obtain ⟨v, v0, v1', hv'⟩ := and_mask vr 1 (by omega)
  have hv : Go.bits BinOp.and IntKind.i64 vr 1 = v := hv'
  have v1 : v ≤ 1 := v1'
  rcases (show v = 0 ∨ v = 1 by omega) with rfl | rfl
  · exact walk_yes md A0 n0 c0 A1 n1 c1 ws0 ws1 A0 n0 c0 ws0 vr 0 y w (.inl ⟨rfl, rfl, rfl, rfl⟩) hv (.inl ⟨rfl, rfl, rfl⟩) hW0 hW1 hW0 h0 h1
  · exact walk_yes md A0 n0 c0 A1 n1 c1 ws0 ws1 A1 n1 c1 ws1 vr 1 y w (.inr ⟨rfl, rfl, rfl, rfl⟩) hv (.inr ⟨rfl, rfl, rfl⟩) hW0 hW1 hW1 h0 h1

set_option maxRecDepth 100000 in
theorem lifted (os : Os) (started : os.Started) (H : Type) (enc : TypeId × Value → H) :
    ReturnsInHanded {} Try.checked os 4 .any (Rows.planLiesSpec.pre6 enc Try.prog Try.f4 Rows.planLiesRow.domain false) (Rows.planLiesSpec.post enc Try.prog Try.f4 false true false false) := by
  refine returnsInHanded_of_change (C := Try.checked) own started (by kernel_rfl) Try.func4
    (ChangeSpec.witness6 (enc := enc) (C := Try.checked) false ⟨#[], #[.agg #[.int .i64 0, .slice none 0 0, .slice none 0 0], .int .i64 0, .int .i64 0], []⟩ 8 (by kernel_rfl) (by kernel_rfl) (by kernel_rfl) (by kernel_rfl)) ?_
  intro W base args ds gs before hval0 hW hcnd _
  have hval : ∀ (j : Nat) t v, Try.f4.params[j]? = some t → args[j]? = some v → Value.okWide Try.prog W .any base t v := hval0
  have hW' := hW
  obtain ⟨p, q, hA0, hV, rfl, hfz, hnd⟩ := hW
  have hA : DataW.TrodAll enc Try.prog W 0 (fun _ => true) true Try.f4.params.toList args.toList ds p := hA0
  rw [Try.params4] at hA hval
  obtain ⟨v0, vs0, d0, ds0, p0, q0, hargs, rfl, rfl, h0, r0⟩ := trodAll_cons hA
  obtain ⟨v1, vs1, d1, ds1, p1, q1, rfl, rfl, rfl, h1, r1⟩ := trodAll_cons r0
  obtain ⟨v2, vs2, d2, ds2, p2, q2, rfl, rfl, rfl, h2, r2⟩ := trodAll_cons r1
  obtain ⟨rfl, rfl, rfl⟩ := trodAll_nil r2
  obtain rfl : args = #[v0, v1, v2] := by cases args; simp_all
  obtain ⟨rfl, rfl⟩ := trodVars_none hV
  have k0 := h0
  have lt0 : ∀ x ∈ p0, x.block < W.heap.size := by obtain ⟨m, hm⟩ := k0; exact DataW.trod_lt m _ _ _ hm
  obtain ⟨s, rfl⟩ := okWide_agg (by first | exact .inl ⟨_, Try.underlying25⟩ | exact .inr ⟨_, _, Try.underlying25⟩) (hval 0 25 v0 rfl rfl)
  have rd0 := reads_cells (sh := shS) 30 (by kernel_rfl) k0
  obtain ⟨version, rfl, rfl, rfl, wf1⟩ := open_int Try.underlying3 (hval 1 3 v1 rfl rfl) h1
  have bd1 := bounds_i64 wf1
  obtain ⟨module, rfl, rfl, rfl, wf2⟩ := open_int Try.underlying3 (hval 2 3 v2 rfl rfl) h2
  have bd2 := bounds_i64 wf2
  clear hA0 hval0
  refine (walk s version module W rd0 bd1.1 bd1.2 bd2.1 bd2.2).mono fun e W' ⟨he, bel⟩ => ?_
  subst he
  exact ⟨_, rfl, _, _, _, [], _, [], hW', trodAll_mk1 (shut_bool Try.underlying4 _), (trodAll_cons_mk (Below.trod laidOut (by kernel_rfl) (of_decide_eq_true (by kernel_rfl)) k0 bel lt0) (trodAll_cons_mk (shut_int Try.underlying3 wf1) (trodAll_cons_mk (shut_int Try.underlying3 wf2) trodAll_mk0))), rfl, bel.frame _, fun h => by cases h⟩

theorem over : Rows.planLiesRow.holds Try.pinned (OpenSpec.ofChange Rows.planLiesSpec) :=
  OpenClaim.holds_of_wide 4 Try.f4 rfl rfl rfl rfl rfl rfl rfl ⟨rfl, rfl, rfl, rfl, rfl⟩ rfl rfl rfl rfl rfl (by kernel_rfl) Try.func4 (by kernel_rfl)
    (of_decide_eq_true (by kernel_rfl)) (by unfold Func.isWrapper; first | (rw [if_pos (by decide +kernel)]; kernel_rfl) | (rw [if_neg (by decide +kernel)]; exact ⟨rfl, rfl⟩))
    (fun os started H enc _ => lifted os started H enc)

/-- The statement. -/
theorem proved : Rows.PlanLiesSaid := over
end Go.Proofs.Ytkdmcnkahiimoaa.lawPlanLies
