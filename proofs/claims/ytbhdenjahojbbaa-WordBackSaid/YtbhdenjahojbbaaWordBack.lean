/- Words come back from their bits; told bit by bit, from any one on, they come whole, in new memory; a message that nobody made has none: for every words, place and byte; no condition. -/
import Derived.Test.YtbhdenjahojbbaaWrdR
import Derived.Test.YtbhdenjahojbbaaPush
import Derived.Test.YtbhdenjahojbbaaSh
import Derived.Test.YtbhdenjahojbbaaStr
import Derived.Test.YtbhdenjahojbbaaBox
import Derived.Test.YtbhdenjahojbbaaRows
import Derived.WalkKit
import Derived.ProofKit
import Derived.OpenShut
import Derived.ShutString
import Derived.ChangeOld
import Derived.Below
namespace Go.Proofs.Ytbhdenjahojbbaa.lawWordBack
open Go.ChangeShapes Go.WideShapes Go.ChangeAt Go.RowKit Base
open Go.ChangeMaps (open_string shut_string)
set_option linter.unusedVariables false
set_option linter.unusedSimpArgs false
theorem own : ownKnob Try.prog.godebug = none := by kernel_rfl
theorem laidOut : laidOutB Try.prog = true := by kernel_rfl
open Ly2

theorem bits_d (A : Option Addr) (n c : Nat) (vs : List Nat) (w : World) (h : Lst w A n (vs.map fun (x : Nat) => Value.int .u8 x)) (hx : ∀ x ∈ vs, x < 256) (hn : n ≤ 1000000) :
    Calls Try.prog 24 #[.slice A n c] w fun e w' => ∃ B d, e = .returned (.slice B (8 * n) d) ∧ Hid (Lst w' B (8 * n) ((bitsOf vs).map Value.bool)) ∧ Hid (Below w.heap.size w w') := by
  refine (bits_any A n c vs w h hx hn).mono ?_
  rintro e w' ⟨v, rfl, hown, hb⟩
  obtain ⟨A', c', rfl, _, _, hl⟩ := Lst.of_own hown
  exact ⟨_, _, rfl, Lib.hid hl, Lib.hid hb⟩
theorem words_d (A : Option Addr) (N m c : Nat) (bs : List Bool) (w : World) (hN : 8 * m = N) (h : Lst w A N (bs.map Value.bool)) (hn : m ≤ 100000) :
    Calls Try.prog 22 #[.slice A N c] w fun e w' => ∃ B, e = .returned (.tuple #[.slice B m m, .bool true]) ∧ Hid (Lst w' B m ((wordsOf bs m).map fun (x : Nat) => Value.int .u8 x)) ∧ Hid (Below w.heap.size w w') := by
  subst hN
  refine (words_any A m c bs w h hn).mono ?_
  rintro e w' ⟨rfl, hob, hb⟩
  refine ⟨_, rfl, Lib.hid ⟨by simp [wordsOf], fun _ => ⟨_, 0, rfl, hob.out.lt, fun k hk => ?_⟩⟩, Lib.hid hb⟩
  rw [Nat.zero_add, hob.out.cell, List.getElem?_toArray]
theorem convN {w : World} {A : Option Addr} {n c : Nat} {ns : List Nat} {S : ByteArray} (h : Lst w A n (ns.map fun (x : Nat) => Value.int .u8 x)) (hS : strB (ns.map fun (x : Nat) => (x : Int)) = S) : (convert 37 9 (.slice A n c)).run Try.prog w = .ok (.string S) w := by
  subst hS
  refine convB ?_
  rw [List.map_map]
  exact h
theorem nats_of (l : List Int) (hbd : ∀ x ∈ l, 0 ≤ x ∧ x ≤ 255) : ∃ xs : List Nat, l.map (Value.int .u8) = xs.map (fun (x : Nat) => Value.int .u8 x) ∧ ∀ x ∈ xs, x < 256 := by
  refine ⟨l.map Int.toNat, ?_, ?_⟩
  · rw [List.map_map]
    apply List.map_congr_left
    intro x hx
    have := hbd x hx
    simp only [Function.comp]
    rw [Int.toNat_of_nonneg this.1]
  · intro x hx
    obtain ⟨z, hz, rfl⟩ := List.mem_map.1 hx
    have := hbd z hz
    omega

theorem lst_takeN {w : World} {A : Option Addr} {n : Nat} {vs : List Nat} (h : Lst w A n (vs.map fun (x : Nat) => Value.int .u8 x)) (k : Nat) (hk : k ≤ n) : Lst w A k ((vs.take k).map fun (x : Nat) => Value.int .u8 x) := by
  have hl : vs.length = n := by have := h.1; simpa using this
  refine ⟨by simp [hl]; omega, fun hk0 => ?_⟩
  obtain ⟨b, o, e, hlt, hc⟩ := h.2 (by omega)
  refine ⟨b, o, e, hlt, fun j hj => ?_⟩
  rw [hc j (by omega), List.map_take, List.getElem?_take_of_lt hj]
theorem lst_obj {w : World} {g n : Nat} {T : TypeId} {xs : List Value} (h : Obj1 w g T xs.toArray) (hn : xs.length = n) : Lst w (some ⟨g, 0, none⟩) n xs :=
  ⟨hn, fun _ => ⟨g, 0, rfl, h.lt, fun k hk => by rw [Nat.zero_add, h.cell, List.getElem?_toArray]⟩⟩
theorem slice8 (A : Option Addr) (n c : Nat) (h : 8 ≤ c) (W : World) : (Instr.slice 37 (.slice A n c) none (some (.int .i64 8)) none).run Try.prog W = .ok (.slice A 8 c) W := by
  have h8 : (8 : Int) ≤ (c : Int) := by omega
  simp [go_sem, h8, h]
attribute [-go_sem] run_slice_h
def BackRel (w w3 : World) (g N a : Nat) (bits : List Bool) (i : Value) (wr : World) : Prop :=
  ∃ (j : Nat) (ws : List Nat) (kn : List Bool), j ≤ N ∧ i = .int .i64 j ∧ Ly2.Told N a j bits ws kn ∧ Msg wr g true (N / 8) ws kn ∧ Wrote g w3 wr
set_option maxRecDepth 100000 in
set_option maxHeartbeats 4000000 in
theorem walk_in (A : Option Addr) (n c k : Nat) (vs : List Nat) (fr : Int) (bt : Int) (w : World) (hk : (n ≤ 8 ∧ k = n) ∨ (8 < n ∧ k = 8)) (hnc : n ≤ c) (hcm : c ≤ 9223372036854775807) (f0 : -9223372036854775808 ≤ fr) (f1 : fr ≤ 9223372036854775807)
    (b0 : 0 ≤ bt) (b1 : bt ≤ 255) (ha : Lst w A k (vs.map fun (x : Nat) => Value.int .u8 x)) (hx : ∀ x ∈ vs, x < 256) :
    Calls Try.prog 9 #[.slice A n c, .int .i64 fr, .int .u8 bt] w fun e w' => e = .returned (.bool true) ∧ Below w.heap.size w w' := by
  have HA := Lib.hid ha
  have HX := Lib.hid hx
  have HVL := Lib.hid (show vs.length = k by have := ha.1; simpa using this)
  have HK8 : k ≤ 8 := by omega
  have HBL := Lib.hid (show (bitsOf vs).length = 8 * k by rw [bitsOf_len, HVL.out])
  obtain ⟨S, HS⟩ : ∃ S, Hid (strB (vs.map fun (x : Nat) => (x : Int)) = S) := ⟨_, Lib.hid rfl⟩
  obtain ⟨y, y0, y1, hand⟩ := and_mask fr 255 (by omega)
  obtain ⟨a, rfl⟩ : ∃ a : Nat, y = (a : Int) := ⟨y.toNat, by omega⟩
  have HAND : Go.bits BinOp.and IntKind.i64 fr 255 = (a : Int) := hand
  have HWB := Lib.hid (show wordsOf (bitsOf vs) k = vs by rw [← HVL.out]; exact words_bits vs hx)
  clear ha hx hand
  have hsl : 8 < n → ∀ W, (Instr.slice 37 (.slice A n c) none (some (.int .i64 8)) none).run Try.prog W = .ok (.slice A k c) W := fun h W => by
    rw [slice8 A n c (by omega) W]
    rcases hk with ⟨hn, hk⟩ | ⟨hn, hk⟩
    · omega
    · rw [hk]
  rcases hk with ⟨hn, hk⟩ | ⟨hn, hk⟩
  case' inl =>
    subst hk
    clear hsl
  case' inr =>
    have hsl := hsl hn
    clear hk
  all_goals
    go_enter Try.func9, Try.ntmps9
    go_wp2_with fail
    refine (bits_d A k c vs w HA.out HX.out (by omega)).mono ?_
    rintro e w1 ⟨P, p1, rfl, HL1, HB1⟩
    go_wp2_with fail
    refine (words_d P (8 * k) k p1 (bitsOf vs) w1 rfl HL1.out (by omega)).mono ?_
    rw [HWB.out]
    rintro e w2 ⟨Q, rfl, HL2, HB2⟩
    have HE2 := Lib.hid (HB1.out.trans (HB2.out.mono HB1.out.size))
    have HP2 := Lib.hid (HL1.out.kept HB2.out)
    go_wp2_with fail
    refine (gather_any (k : Int) k w2 (by omega)).mono ?_
    rintro e w3 ⟨rfl, HM3, HB3⟩
    obtain ⟨g, HG⟩ : ∃ g, Hid (w2.heap.size = g) := ⟨_, Lib.hid rfl⟩
    rw [HG.out] at HM3 ⊢
    have HE3 := Lib.hid (HE2.out.trans (HB3.out.mono HE2.out.size))
    have HP3 := Lib.hid (HP2.out.kept HB3.out)
    have HQ3 := Lib.hid (HL2.out.kept HB3.out)
    have HA3 := Lib.hid (HA.out.kept HE3.out)
    have HPG : Hid (∀ b off, P = some ⟨b, off, none⟩ → 0 < k → b < g) := Lib.hid (fun b off e hk0 => by
      obtain ⟨b', off', e', hlt, _⟩ := HP2.out.2 (by omega)
      rw [e] at e'
      cases e'
      rw [← HG.out]
      exact hlt)
    have HGW : Hid (w.heap.size ≤ g) := Lib.hid (by rw [← HG.out]; exact HE2.out.size)
    have C42 := convN (c := k) HQ3.out HS.out
    have C44 := convN (c := c) HA3.out HS.out
    have HLG := Lib.hid (fun W => long_any (k : Int) W ((8 * k : Nat) : Int) (.inr ⟨by omega, by omega, by push_cast; omega⟩))
    have HMI : Hid (Calls Try.prog 33 #[.pointer (some ⟨g, 0, none⟩)] w3 fun e w' => e = .returned (.int .i64 ((8 * k : Nat) : Int)) ∧ w3 = w') := Lib.hid (by
      have h := missing_any HM3.out HK8
      rw [show ((List.replicate 64 false).take (8 * k)).count false = 8 * k by rw [List.take_replicate, List.count_replicate_self]; omega] at h
      exact h)
    go_wp2_with fail
    refine (HLG.out _).mono ?_
    rintro e w' ⟨rfl, rfl⟩
    go_wp2_with fail
    refine HMI.out.mono ?_
    rintro e w' ⟨rfl, rfl⟩
    clear C42 C44 HMI HLG HP2 HQ3 HL2 HB2 HB3 HL1 HB1 HE2
    go_wp2_with fail
    go_loopw [11] (fun i wr => BackRel w w3 g (8 * k) a (bitsOf vs) i wr) (fun i _ => 8 * k - (intOf i).toNat)
    case atStart => exact ⟨0, _, _, by omega, rfl, Ly2.Told.zero _ _ _ (by omega), by rw [show 8 * k / 8 = k by omega]; exact HM3.out, Wrote.refl _ _⟩
    case round =>
      obtain ⟨j, ws, kn, hj, rfl, hT, hM, hWr⟩ := hrel
      rw [show 8 * k / 8 = k by omega] at hM
      have HT := Lib.hid hT
      have HM := Lib.hid hM
      have HWR := Lib.hid hWr
      have HPJ : Hid (Lst wr P (8 * k) ((bitsOf vs).map Value.bool)) := Lib.hid (by
        rcases Nat.eq_zero_or_pos k with h0 | h0
        · exact ⟨HP3.out.1, fun hn => absurd hn (by omega)⟩
        · exact HP3.out.touch hWr (fun b off e => by have := HPG.out b off e h0; omega))
      clear hT hM hWr
      by_cases hlt : j < 8 * k
      · have hcount := HT.out.cnt
        have HWN := Lib.hid (whole_no HM.out HK8 (by omega))
        have HMS := Lib.hid (missing_any HM.out HK8)
        obtain ⟨z, HZ⟩ : ∃ z, Hid ((kn.take (8 * k)).count false = z) := ⟨_, Lib.hid rfl⟩
        rw [HZ.out] at hcount HMS
        have hz : (z : Int) = ((8 * k : Nat) : Int) - (j : Int) := by omega
        rw [hz] at HMS
        obtain ⟨p, HP⟩ : ∃ p, Hid ((j + a) % (8 * k) = p) := ⟨_, Lib.hid rfl⟩
        have hp : p < 8 * k := by rw [← HP.out]; exact Nat.mod_lt _ (by omega)
        have hpi : ((j : Int) + (a : Int)) % (8 * (k : Int)) = (p : Int) := by rw [← HP.out]; push_cast; rfl
        obtain ⟨b, off, hPe, _, hc⟩ := HPJ.out.get hp
        rw [List.getElem_map] at hc
        obtain ⟨u, HU⟩ : ∃ u, Hid ((bitsOf vs)[p]'(by rw [HBL.out]; exact hp) = u) := ⟨_, Lib.hid rfl⟩
        rw [HU.out] at hc
        have HUD : Hid ((bitsOf vs).getD p false = u) := Lib.hid (by rw [List.getD_eq_getElem?_getD, List.getElem?_eq_getElem (by rw [HBL.out]; exact hp), HU.out]; rfl)
        subst hPe
        have hk0 : 0 < k := by omega
        clear hcount hz
        go_wp2_with fail
        refine HWN.out.mono ?_
        rintro e w' ⟨rfl, rfl⟩
        go_wp2_with fail
        refine HMS.out.mono ?_
        rintro e w' ⟨rfl, rfl⟩
        go_wp2_with fail
        refine (put_in p u true HM.out HK8 hp).mono ?_
        rintro e w4 ⟨rfl, hM4, hW4⟩
        have HT2 := Lib.hid (HT.out.step (by omega) hlt)
        rw [HP.out, HUD.out] at HT2
        go_wp2
        go_roundw
        case rel => exact ⟨j + 1, _, _, by omega, by go_num, HT2.out, by rw [show 8 * k / 8 = k by omega]; exact hM4.out, HWR.out.trans hW4.out⟩
        case measure => simp [intOf]; omega
      · obtain rfl : j = 8 * k := by omega
        have h0 : (kn.take (8 * k)).count false = 0 := by have := HT.out.cnt; omega
        have HEr := Lib.hid (HE3.out.trans (HWR.out.below HGW.out HE3.out.size))
        have HFU := Lib.hid (HT.out.full HK8 HVL.out HX.out)
        have HWY := Lib.hid (whole_yes HM.out HK8 h0)
        rw [HFU.out] at HWY
        obtain ⟨g1, HG1⟩ : ∃ g1, Hid (wr.heap.size = g1) := ⟨_, Lib.hid rfl⟩
        rw [HG1.out] at HWY
        have HG1g : Hid (g < g1) := Lib.hid (by rw [← HG1.out]; exact HM.out.obj.lt)
        clear h0
        go_wp2_with fail
        refine HWY.out.mono ?_
        rintro e w5 ⟨rfl, HO5, HB5⟩
        have HE5 := Lib.hid (HEr.out.trans (HB5.out.mono (by have := HG1.out; have := HEr.out.size; omega)))
        have HM5 := Lib.hid (HM.out.kept (by rw [HG1.out]; exact HB5.out))
        have HA5 := Lib.hid (HA.out.kept HE5.out)
        have HL5 := Lib.hid (lst_obj (n := k) HO5.out (by rw [List.length_map]; exact HVL.out))
        have C106 := convN (c := k) HL5.out HS.out
        have C108 := convN (c := c) HA5.out HS.out
        have HG1w : Hid (w.heap.size ≤ g1) := Lib.hid (by have := HG1.out; have := HEr.out.size; omega)
        have HC7 : Hid (∀ W, Msg W g true k ws kn → Calls Try.prog 32 #[.pointer (some ⟨g, 0, none⟩)] W fun e w' => e = .returned (.tuple #[.slice (some ⟨W.heap.size, 0, none⟩) k k, .bool true]) ∧ Hid (Obj1 w' W.heap.size 5 (vs.map fun (x : Nat) => Value.int .u8 x).toArray) ∧ Hid (Below W.heap.size W w')) := Lib.hid (fun W hm => by
          have h0 : (kn.take (8 * k)).count false = 0 := by have := HT.out.cnt; omega
          have h := whole_yes hm HK8 h0
          rw [HFU.out] at h
          exact h)
        clear HWY
        rcases Nat.eq_zero_or_pos k with hk0 | hk0
        case' inl =>
          have hk0' : ¬ (0 : Int) < (k : Int) := by omega
          have HM6 := HM5
          have HE6 := HE5
          clear hk0
          go_wp2_with fail
          clear C106 C108 hk0'
          generalize w5 = w6 at HM6 HE6 ⊢
        case' inr =>
          have hk0' : (0 : Int) < (k : Int) := by omega
          have hv0 : 0 < vs.length := by rw [HVL.out]; exact hk0
          have hc5 := HO5.out.cell 0
          rw [List.getElem?_toArray, List.getElem?_map, List.getElem?_eq_getElem hv0, Option.map_some] at hc5
          have hf5 := HO5.out.free 0
          obtain ⟨v0, HV0⟩ : ∃ v0, Hid (vs[0]'hv0 = v0) := ⟨_, Lib.hid rfl⟩
          rw [HV0.out] at hc5
          obtain ⟨X, hX⟩ : ∃ X, Go.bits BinOp.xor IntKind.u8 (v0 : Int) bt = X := ⟨_, rfl⟩
          have HM6 := Lib.hid (HM5.out.touch ((Wrote.refl g1 w5).set (p := ⟨g1, 0, none⟩) (.inl rfl) (.int .u8 X)) (by have := HG1g.out; omega))
          have HE6 := Lib.hid (HE5.out.setCell (p := ⟨g1, 0, none⟩) (by have := HG1w.out; simp; omega) (.int .u8 X))
          clear HV0 hk0
          go_wp2_with fail
          clear C106 C108 hk0' hc5 hf5 hX
          generalize w5.setCell ⟨g1, 0, none⟩ (.int .u8 X) = w6 at HM6 HE6 ⊢
        all_goals
          refine (HC7.out _ HM6.out).mono ?_
          rintro e w7 ⟨rfl, HO7, HB7⟩
          have HE7 := Lib.hid (HE6.out.trans (HB7.out.mono HE6.out.size))
          have HL7 := Lib.hid (lst_obj (n := k) HO7.out (by rw [List.length_map]; exact HVL.out))
          have HA7 := Lib.hid (HA.out.kept HE7.out)
          have hzv := zero_tm
          clear HC7
          go_wp2_with fail
          go_loopw [19] (fun i wr2 => ∃ j : Nat, j ≤ 2 ∧ i = .int .i64 j ∧ Below w7.heap.size w7 wr2) (fun i _ => 2 - (intOf i).toNat)
          case atStart => exact ⟨0, by omega, rfl, Below.refl _ _⟩
          case round =>
            obtain ⟨j, hj, rfl, hbel⟩ := hrel
            have hb8 : Below w7.heap.size w7 (wr.alloc (.cells (mcells false 0 (List.replicate 8 0) (List.replicate 64 false)) TM)) := hbel.alloc hbel.size _
            have HBE := Lib.hid hbel
            have HB8 := Lib.hid hb8
            have HN : Hid (Nob (wr.alloc (.cells (mcells false 0 (List.replicate 8 0) (List.replicate 64 false)) TM)) (.pointer (some ⟨wr.heap.size, 0, none⟩))) := Lib.hid (.inr ⟨_, 0, _, _, rfl, ⟨Obj1.new _ _ _, rfl, rfl, fun x hx => by have := List.eq_of_mem_replicate hx; omega⟩⟩)
            clear hbel hb8
            rcases (show j = 0 ∨ j = 1 ∨ j = 2 by omega) with rfl | rfl | rfl
            · go_wp2_with fail
              refine (put_nob fr true true HN.out).mono ?_
              rintro e w' ⟨rfl, rfl⟩
              go_wp2_with fail
              refine (whole_nob HN.out).mono ?_
              rintro e w' ⟨rfl, rfl⟩
              go_wp2_with fail
              refine (missing_nob HN.out).mono ?_
              rintro e w' ⟨rfl, rfl⟩
              go_wp2
              go_roundw
              case rel => exact ⟨1, by omega, rfl, HB8.out⟩
              case measure => simp [intOf]
            · go_wp2_with fail
              refine (put_nob (v := .pointer none) fr true true (.inl rfl)).mono ?_
              rintro e w' ⟨rfl, rfl⟩
              go_wp2_with fail
              refine (whole_nob (v := .pointer none) (.inl rfl)).mono ?_
              rintro e w' ⟨rfl, rfl⟩
              go_wp2_with fail
              refine (missing_nob (v := .pointer none) (.inl rfl)).mono ?_
              rintro e w' ⟨rfl, rfl⟩
              go_wp2
              go_roundw
              case rel => exact ⟨2, by omega, rfl, HB8.out⟩
              case measure => simp [intOf]
            · have C152 := convN (c := k) (HL7.out.kept HBE.out) HS.out
              have C154 := convN (c := c) (HA7.out.kept HBE.out) HS.out
              go_wp2_with fail
              refine (one_any _).mono ?_
              rintro e w9 ⟨rfl, hb9⟩
              go_wp2
              go_ret
              have h8 := HE7.out.trans (HBE.out.mono HE7.out.size)
              exact ⟨rfl, h8.trans (hb9.mono h8.size)⟩
theorem walk (A : Option Addr) (n c : Nat) (xs : List Int) (fr bt : Int) (w : World) (ha : Lst w A n (xs.map (Value.int .u8))) (hx : ∀ x ∈ xs, 0 ≤ x ∧ x ≤ 255) (hnc : n ≤ c) (hcm : c ≤ maxLen) (f0 : -9223372036854775808 ≤ fr) (f1 : fr ≤ 9223372036854775807) (b0 : 0 ≤ bt) (b1 : bt ≤ 255) :
    Calls Try.prog 9 #[.slice A n c, .int .i64 fr, .int .u8 bt] w fun e w' => e = .returned (.bool true) ∧ Below w.heap.size w w' := by
  unfold maxLen at hcm
  obtain ⟨vs, ev, hv⟩ := nats_of xs hx
  rw [ev] at ha
  by_cases h : n ≤ 8
  · exact walk_in A n c n vs fr bt w (.inl ⟨h, rfl⟩) hnc (by omega) f0 f1 b0 b1 ha hv
  · exact walk_in A n c 8 (vs.take 8) fr bt w (.inr ⟨by omega, rfl⟩) hnc (by omega) f0 f1 b0 b1 (lst_takeN ha 8 (by omega)) (fun x hx => hv x (List.mem_of_mem_take hx))

set_option maxRecDepth 100000 in
theorem lifted (os : Os) (started : os.Started) (H : Type) (enc : TypeId × Value → H) :
    ReturnsInHanded {} Try.checked os 9 .any (Rows.wordBackSpec.pre6 enc Try.prog Try.f9 Rows.wordBackRow.domain false) (Rows.wordBackSpec.post enc Try.prog Try.f9 false true false false) := by
  refine returnsInHanded_of_change (C := Try.checked) own started (by kernel_rfl) Try.func9
    (ChangeSpec.witness6 (enc := enc) (C := Try.checked) false ⟨#[], #[.slice none 0 0, .int .i64 0, .int .u8 0], []⟩ 8 (by kernel_rfl) (by kernel_rfl) (by kernel_rfl) (by kernel_rfl)) ?_
  intro W base args ds gs before hval0 hW hcnd _
  have hval : ∀ (j : Nat) t v, Try.f9.params[j]? = some t → args[j]? = some v → Value.okWide Try.prog W .any base t v := hval0
  have hW' := hW
  obtain ⟨p, q, hA0, hV, rfl, hfz, hnd⟩ := hW
  have hA : DataW.TrodAll enc Try.prog W 0 (fun _ => true) true Try.f9.params.toList args.toList ds p := hA0
  rw [Try.params9] at hA hval
  obtain ⟨v0, vs0, d0, ds0, p0, q0, hargs, rfl, rfl, h0, r0⟩ := trodAll_cons hA
  obtain ⟨v1, vs1, d1, ds1, p1, q1, rfl, rfl, rfl, h1, r1⟩ := trodAll_cons r0
  obtain ⟨v2, vs2, d2, ds2, p2, q2, rfl, rfl, rfl, h2, r2⟩ := trodAll_cons r1
  obtain ⟨rfl, rfl, rfl⟩ := trodAll_nil r2
  obtain rfl : args = #[v0, v1, v2] := by cases args; simp_all
  obtain ⟨rfl, rfl⟩ := trodVars_none hV
  have k0 := h0
  have lt0 : ∀ x ∈ p0, x.block < W.heap.size := by obtain ⟨m, hm⟩ := k0; exact DataW.trod_lt m _ _ _ hm
  obtain ⟨wA, wn, wc, rfl⟩ := okWide_slice Try.underlying37 (hval 0 37 v0 rfl rfl)
  obtain ⟨w, l0, b0, cb0, cc0⟩ := lst_ints Try.underlying37 Try.underlying5 (by kernel_rfl) k0
  obtain ⟨fr, rfl, rfl, rfl, wf1⟩ := open_int Try.underlying3 (hval 1 3 v1 rfl rfl) h1
  have bd1 := bounds_i64 wf1
  obtain ⟨bt, rfl, rfl, rfl, wf2⟩ := open_int Try.underlying5 (hval 2 5 v2 rfl rfl) h2
  have bd2 := bounds_u8 wf2
  clear hA0 hval0
  refine (walk wA wn wc w fr bt W l0 (ints_u8 b0) cb0 cc0 bd1.1 bd1.2 bd2.1 bd2.2).mono fun e W' ⟨he, bel⟩ => ?_
  subst he
  exact ⟨_, rfl, _, _, _, [], _, [], hW', trodAll_mk1 (shut_bool Try.underlying4 _), (trodAll_cons_mk (Below.trod laidOut (by kernel_rfl) (of_decide_eq_true (by kernel_rfl)) k0 bel lt0) (trodAll_cons_mk (shut_int Try.underlying3 wf1) (trodAll_cons_mk (shut_int Try.underlying5 wf2) trodAll_mk0))), rfl, bel.frame _, fun h => by cases h⟩

theorem over : Rows.wordBackRow.holds Try.pinned (OpenSpec.ofChange Rows.wordBackSpec) :=
  OpenClaim.holds_of_wide 9 Try.f9 rfl rfl rfl rfl rfl rfl rfl ⟨rfl, rfl, rfl, rfl, rfl⟩ rfl rfl rfl rfl rfl (by kernel_rfl) Try.func9 (by kernel_rfl)
    (of_decide_eq_true (by kernel_rfl)) (by unfold Func.isWrapper; first | (rw [if_pos (by decide +kernel)]; kernel_rfl) | (rw [if_neg (by decide +kernel)]; exact ⟨rfl, rfl⟩))
    (fun os started H enc _ => lifted os started H enc)

/-- The statement. -/
theorem proved : Rows.WordBackSaid := over
end Go.Proofs.Ytbhdenjahojbbaa.lawWordBack
