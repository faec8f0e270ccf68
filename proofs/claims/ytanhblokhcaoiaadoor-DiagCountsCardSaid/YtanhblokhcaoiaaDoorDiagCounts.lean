/- Any messages have the document's count; messages in two parts have the sum of both: for every list of messages and place; no condition. -/
import Derived.RegionTactic
import Derived.IntWalk
import Derived.Deep.DeepCutAuto
import Derived.Deep.CutBlock
import Derived.Stop.LaidErr
import Derived.Test.YtanhblokhcaoiaaDoorDgF
import Derived.Test.YtanhblokhcaoiaaDoorSh
import Derived.Test.YtanhblokhcaoiaaDoorShAr
import Derived.Test.YtanhblokhcaoiaaDoorNilz
import Derived.Test.YtanhblokhcaoiaaDoorTie
import Derived.Test.YtanhblokhcaoiaaDoorCards
import Derived.Test.YtanhblokhcaoiaaDoorLaid
import Derived.LaidMore
import Derived.SevenTiedAt
import Derived.Stop.Joined
import Derived.Test.YtanhblokhcaoiaaDoorRows
import Derived.WalkKit
import Derived.ProofKit
import Derived.OpenShut
import Derived.ShutString
import Derived.ChangeOld
import Derived.Below
namespace Go.Proofs.YtanhblokhcaoiaaDoor.lawDiagCounts
open Go.ChangeShapes Go.WideShapes Go.ChangeAt Go.RowKit Base
open Go.ChangeMaps (open_string shut_string)
set_option linter.unusedVariables false
set_option linter.unusedSimpArgs false
theorem own : ownKnob Tryd.prog.godebug = none := by kernel_rfl
theorem laidOut : laidOutB Tryd.prog = true := by kernel_rfl
open Dg

abbrev shM : Sh := .fld (.int .i64) (.fld (.int .i64) (.fld (.int .i64) (.fld (.sl (.int .u8)) (.fld .bool (.fld .bool (.fld (.ar 4 (.int .i64)) .nil))))))
def Ld (w : World) : Prop := Txt.Lf w ∧ Nm w
theorem gNm : Tryd.prog.globalNamed "busbar/wires.names" = some 0 := by kernel_rfl
theorem tNm : (Tryd.prog.globals[0]?).map (·.type) = some 88 := by kernel_rfl
theorem of_laid {W : World} (h : laidMetH Tryd.prog Rows.diagCountsRow.laid W) : Ld W := by
  rw [MakeChecks.laidMetH_plain _ _ _ (by kernel_rfl)] at h
  have h1 := laidMet.tail (laidMet.tail (laidMet.tail h))
  refine ⟨Lib.tabIs_of_head (g := 1) (t := 125) (e := 75) (n := 20) (by kernel_rfl) (by kernel_rfl) Tryd.underlying125 Tryd.underlying75 (by kernel_rfl) (by kernel_rfl) h1, ?_⟩
  obtain ⟨ps, ⟨g0, t0, cs0, f0, p0, q0, hg0, ht0, hv0, hd0, _, _⟩, _⟩ := h
  obtain rfl := Option.some.inj (gNm.symm.trans hg0)
  obtain rfl := Option.some.inj (tNm.symm.trans ht0)
  have e := exact_cells (sh := .ar 4 .str) 10 rfl (by kernel_rfl) hd0 rfl
  obtain ⟨l0⟩ := cs0
  simp at e
  subst e
  exact ⟨by simpa [nmL] using World.var?_cell hg0 hv0 0, by simpa [nmL] using World.var?_cell hg0 hv0 1, by simpa [nmL] using World.var?_cell hg0 hv0 2, by simpa [nmL] using World.var?_cell hg0 hv0 3⟩
theorem ms_in {w : World} {A : Option Addr} {n : Nat} {rows : List (List Value)} (hg : Grid w A n 10 rows) (hr : ∀ r ∈ rows, Reads w shM r) : ∃ ls : List Ms, MsAt w A n ls := by
  have hx : ∃ ls : List Ms, rows = ls.map msL := by
    clear hg
    induction rows with
    | nil => exact ⟨[], rfl⟩
    | cons r rs ih =>
      obtain ⟨xs, rfl⟩ := ih (fun r hr' => hr r (by simp [hr']))
      obtain ⟨_, _, rfl, ⟨s, rfl, _⟩, _, _, rfl, ⟨st, rfl, _⟩, _, _, rfl, ⟨cd, rfl, _⟩, _, _, rfl, ⟨A', n', c', _, rfl, _, _, _, _⟩, _, _, rfl, ⟨kn, rfl⟩, _, _, rfl, ⟨vt, rfl⟩, _, _, rfl, har, hz⟩ := hr r (by simp)
      obtain ⟨is, h1, rfl, _⟩ := ar_ints har
      have hz' : (_ : List Value) = [] := hz
      subst hz'
      rcases is with _ | ⟨a, _ | ⟨b, _ | ⟨c, _ | ⟨d, _ | ⟨f, is⟩⟩⟩⟩⟩ <;> simp at h1
      exact ⟨⟨s, st, cd, A', n', c', kn, vt, a, b, c, d⟩ :: xs, rfl⟩
  obtain ⟨ls, rfl⟩ := hx
  refine ⟨ls, by simpa using hg.1, fun hn => ?_⟩
  obtain ⟨b, off, e, hb, hc⟩ := hg.2 hn
  refine ⟨b, off, e, hb, fun i x hx j hj => ?_⟩
  have hi : i < n := by have := (List.getElem?_eq_some_iff.1 hx).1; have := hg.1; simp at this; omega
  have h := hc i j hi (by omega)
  rw [show off + i * 10 + j = off + (i * 10 + j) by omega, h, List.getElem?_map, hx]
  rfl
theorem ms_front {w : World} {A : Option Addr} {n : Nat} {ls : List Ms} (h : MsAt w A n ls) {k : Nat} (hk : k ≤ n) : MsAt w A k (ls.take k) where
  len := by rw [List.length_take, h.len]; omega
  at' := fun hn => by
    obtain ⟨b, off, e, hb, hc⟩ := h.at' (by omega)
    exact ⟨b, off, e, hb, fun i x hx j hj => hc i x (by
      have hi := (List.getElem?_eq_some_iff.1 hx).1
      rw [List.length_take] at hi
      rwa [List.getElem?_take_of_lt (by omega)] at hx) j hj⟩
theorem ms_back {w : World} {b off : Nat} {n : Nat} {ls : List Ms} (h : MsAt w (some ⟨b, off, none⟩) n ls) {k : Nat} (hk : k ≤ n) : MsAt w (some ⟨b, off + k * 10, none⟩) (n - k) (ls.drop k) where
  len := by rw [List.length_drop, h.len]
  at' := fun hn => by
    obtain ⟨b', off', e, hb, hc⟩ := h.at' (by omega)
    injection e with e
    injection e with e1 e2
    subst e1 e2
    refine ⟨b, off + k * 10, rfl, hb, fun i x hx j hj => ?_⟩
    rw [List.getElem?_drop] at hx
    have := hc (k + i) x hx j hj
    rw [show off + k * 10 + i * 10 + j = off + (k + i) * 10 + j by omega]
    exact this
theorem ms_none {w : World} {A : Option Addr} {ls : List Ms} (h : ls = []) : MsAt w A 0 ls := ⟨by rw [h]; rfl, fun h => absurd h (Nat.lt_irrefl _)⟩
theorem cell_o {w : World} {b off : Nat} {x : Ms} (h6 : w.cell? ⟨b, off + 6, none⟩ = some (.int .i64 x.a)) (h7 : w.cell? ⟨b, off + 7, none⟩ = some (.int .i64 x.b)) (h8 : w.cell? ⟨b, off + 8, none⟩ = some (.int .i64 x.e)) (h9 : w.cell? ⟨b, off + 9, none⟩ = some (.int .i64 x.f)) {j : Nat} (hj : j < 4) :
    w.cell? ⟨b, off + 6 + j, none⟩ = some (.int .i64 (x.o j)) := by
  rcases four hj with rfl | rfl | rfl | rfl
  · exact h6
  · exact h7
  · exact h8
  · exact h9
/-- The sums with the first j lines of one more. -/
def pO (T : Nat → Int) (x : Ms) (j : Nat) (i : Nat) : Int := T i + (if i < j then oI x i else 0)
theorem pO_set (S : Int) (T : Nat → Int) (x : Ms) {j : Nat} (hj : j < 4) : (c5 S (pO T x j)).setIfInBounds (1 + j) (.int .i64 (pO T x (j + 1) j)) = c5 S (pO T x (j + 1)) := by
  rcases four hj with rfl | rfl | rfl | rfl <;> rfl
set_option maxRecDepth 100000 in
theorem size_ms : ∀ W, (sizeOf (Tryd.prog.elem 32)).run Tryd.prog W = .ok 10 W := fun W => by
  have h : (Tryd.prog.info? (Tryd.prog.elem 32)).map (·.size) = some 10 := by kernel_rfl
  obtain ⟨i, hi, hs⟩ := Option.map_eq_some_iff.1 h
  have h2 : Tryd.prog.cellsOf (Tryd.prog.elem 32) = 10 := by kernel_rfl
  have h3 := run_sizeOf W hi
  rwa [h2] at h3
set_option maxRecDepth 100000 in
set_option maxHeartbeats 4000000 in
theorem go (A : Option Addr) (n c : Nat) (ls : List Ms) (cut : Int) (w : World) (hU : Ld w) (hM : MsAt w A n ls) (hnc : n ≤ c) (hcm : c ≤ 9223372036854775807) (hnil : A = none → n = 0 ∧ c = 0) (c0 : -9223372036854775808 ≤ cut) (c1 : cut ≤ 9223372036854775807) :
    Calls Tryd.prog 4 #[.slice A n c, .int .i64 cut] w fun e w' => e = .returned (.bool true) ∧ Below w.heap.size w w' := by
  by_cases h60 : 60 < n
  · have hi : (60 : Int) < (n : Int) := by omega
    go_enter Tryd.func4, Tryd.ntmps4
    go_wp2
    go_ret
    exact ⟨rfl, Below.refl _ _⟩
  have hi60 : ¬ (60 : Int) < (n : Int) := by omega
  have hn60 : n ≤ 60 := by omega
  obtain ⟨g5, HG5⟩ : ∃ g, Hid (w.heap.size = g) := ⟨_, Lib.hid rfl⟩
  obtain ⟨W1, HW1⟩ : ∃ W, Hid (W = w.alloc (.cells #[.int .i64 0, .int .i64 0, .int .i64 0, .int .i64 0, .int .i64 0] TC)) := ⟨_, Lib.hid rfl⟩
  have hb1 : Below w.heap.size w W1 := by rw [HW1.out]; exact bel_new _ _
  have HB1 := Lib.hid hb1
  have HO1 : Hid (Obj1 W1 g5 TC (c5 0 (fun _ => 0))) := Lib.hid (by rw [HW1.out, ← HG5.out]; exact Obj1.new _ _ _)
  have HGG : Hid (w.heap.size ≤ g5) := Lib.hid (by rw [HG5.out]; exact Nat.le_refl _)
  have HML := Lib.hid hM
  have HLN : Hid (ls.length = n) := Lib.hid hM.len
  have HLD : Hid (∀ W, Below w.heap.size w W → Ld W) := Lib.hid (fun W h => ⟨hU.1.kept h, hU.2.kept h⟩)
  have HNIL := Lib.hid hnil
  have HCB : Hid (-9223372036854775808 ≤ cut ∧ cut ≤ 9223372036854775807) := Lib.hid ⟨c0, c1⟩
  have HCM := Lib.hid hcm
  clear h60 hb1 hM hU hnil c0 c1 hcm
  go_enter Tryd.func4, Tryd.ntmps4
  go_upto_region 4 with (fail)
  rw [← HW1.out, HG5.out]
  clear HW1 HG5 hi60
  go_wp2_with fail
  go_loopw [6] (fun i wx => ∃ k : Nat, k ≤ n ∧ i = .int .i64 k ∧ Hid (∀ m ∈ ls.take k, MOk m) ∧ Hid (Obj1 wx g5 TC (c5 (sB (ls.take k)) (sO (ls.take k)))) ∧ Below w.heap.size w wx) (fun i _ => n - (intOf i).toNat)
  case atStart => exact ⟨0, by omega, rfl, Lib.hid (fun m hm => by simp at hm), HO1, HB1.out⟩
  case round =>
    clear HO1 HB1
    obtain ⟨k, hk, rfl, HMO, HK, hbk⟩ := hrel
    have HBK := Lib.hid hbk
    by_cases hlt : k < n
    · as_aux_lemma =>
      have hki : (k : Int) < (n : Int) := by omega
      have hkl : k < ls.length := by rw [HLN.out]; exact hlt
      obtain ⟨x, hx⟩ : ∃ x, ls[k]? = some x := ⟨_, List.getElem?_eq_getElem hkl⟩
      have HXE := Lib.hid hx
      obtain ⟨b, off, rfl, hb, k0, k1, k2, k3, k4, k5, k6, k7, k8, k9⟩ := (HML.out.kept hbk).get hlt hx
      have hlk : (ls.take k).length ≤ 60 := by rw [List.length_take]; omega
      have hb1 := sB_bd (ls.take k) HMO.out
      have HB2 := Lib.hid (fun i (hi : i < 4) => by have h := sO_bd (ls.take k) HMO.out i hi; exact (show -65970697666560 ≤ sO (ls.take k) i ∧ sO (ls.take k) i ≤ 65970697666560 by omega))
      have HN1 := Lib.hid (sB_next hx)
      have HN2 := Lib.hid (fun i => sO_next hx i)
      have HTK : Hid (ls.take (k + 1) = ls.take k ++ [x]) := Lib.hid (by rw [List.take_add_one, hx]; rfl)
      have HSBB : Hid (0 ≤ sB (ls.take k) ∧ sB (ls.take k) ≤ 48000) := Lib.hid (by omega)
      obtain ⟨S, HS⟩ : ∃ S, Hid (sB (ls.take k) = S) := ⟨_, Lib.hid rfl⟩
      obtain ⟨T, HT⟩ : ∃ T, Hid (sO (ls.take k) = T) := ⟨_, Lib.hid rfl⟩
      rw [HS.out] at HN1 HSBB
      rw [HT.out] at HN2 HB2
      rw [HS.out, HT.out] at HK
      have e0 : IntKind.i64.wrap ((k : Int) + 1) = (k : Int) + 1 := IntWalk.i64_in _ (by omega)
      have HMS : Hid (∀ W, Below w.heap.size w W → _) := Lib.hid (fun W h => (HML.out.kept h).get hlt HXE.out)
      clear hkl hb hlk hb1 hx
      by_cases hw : 100 < x.n
      · have hwi : (100 : Int) < (x.n : Int) := by omega
        clear hbk
        go_wp2
        go_ret
        exact ⟨rfl, HBK.out⟩
      · have hwi : ¬ (100 : Int) < (x.n : Int) := by omega
        have HXN : Hid (x.n ≤ 100) := Lib.hid (by omega)
        clear hbk hw
        go_wp2_with fail
        go_loopw [7] (fun i wx => ∃ j : Nat, j ≤ 4 ∧ i = .int .i64 j ∧ Hid (∀ i, i < j → -1099511627776 ≤ x.o i ∧ x.o i ≤ 1099511627776) ∧ Hid (Obj1 wx g5 TC (c5 S (pO T x j))) ∧ Below w.heap.size w wx) (fun i _ => 4 - (intOf i).toNat)
        case atStart => exact ⟨0, by omega, rfl, Lib.hid (fun i hi => by omega), Lib.hid (by rw [show c5 S (pO T x 0) = c5 S T from c5_congr (fun i _ => by unfold pO; rw [if_neg (by omega), Int.add_zero])]; exact HK.out), HBK.out⟩
        case round =>
          clear HK HBK k0 k1 k2 k3 k4 k5 k6 k7 k8 k9
          obtain ⟨j, hj, rfl, HJB, HJ, hbj⟩ := hrel
          have HBJ := Lib.hid hbj
          obtain ⟨b', off', e', _, k0, k1, k2, k3, k4, k5, k6, k7, k8, k9⟩ := HMS.out _ hbj
          obtain ⟨rfl, rfl⟩ : b' = b ∧ off' = off := by
            injection e' with e'
            injection e' with e1 e2 _
            exact ⟨e1.symm, e2.symm⟩
          by_cases hj4 : j < 4
          · have hji : (j : Int) < 4 := by omega
            have hj0 : (0 : Int) ≤ (j : Int) := by omega
            have hco := cell_o k6 k7 k8 k9 hj4
            obtain ⟨v, hv⟩ : ∃ v, x.o j = v := ⟨_, rfl⟩
            rw [hv] at hco
            have HV := Lib.hid hv
            have e1 : IntKind.i64.wrap ((j : Int) + 1) = (j : Int) + 1 := IntWalk.i64_in _ (by omega)
            clear hv k0 k1 k2 k3 k5 k6 k7 k8 k9 e' hbj
            by_cases hv1 : v < -1099511627776
            · go_wp2
              go_ret
              exact ⟨rfl, HBJ.out⟩
            · by_cases hv2 : 1099511627776 < v
              · go_wp2
                go_ret
                exact ⟨rfl, HBJ.out⟩
              · have HJB2 : Hid (∀ i, i < j + 1 → -1099511627776 ≤ x.o i ∧ x.o i ≤ 1099511627776) := Lib.hid (fun i hi => by
                  rcases (show i < j ∨ i = j by omega) with h | rfl
                  · exact HJB.out i h
                  · rw [HV.out]; omega)
                obtain ⟨kn, HKN⟩ : ∃ q, Hid (x.kn = q) := ⟨_, Lib.hid rfl⟩
                rw [HKN.out] at k4
                cases kn with
                | false =>
                  have HE : Hid (c5 S (pO T x (j + 1)) = c5 S (pO T x j)) := Lib.hid (c5_congr (fun i _ => by
                    have h0 : oI x i = 0 := by unfold oI; rw [HKN.out]; rfl
                    unfold pO
                    rw [h0]
                    split <;> split <;> rfl))
                  go_wp2
                  go_roundw
                  case rel => exact ⟨j + 1, by omega, by go_num, HJB2, by rw [HE.out]; exact HJ, HBJ.out⟩
                  case measure => simp [intOf]; omega
                | true =>
                  have hg := cellO HJ.out hj4
                  have hgv : pO T x j j = T j := by unfold pO; rw [if_neg (Nat.lt_irrefl _), Int.add_zero]
                  rw [hgv] at hg
                  have hTb := HB2.out j hj4
                  obtain ⟨t0, ht0⟩ : ∃ t, T j = t := ⟨_, rfl⟩
                  rw [ht0] at hg hTb
                  have e2 : IntKind.i64.wrap (t0 + v) = t0 + v := IntWalk.i64_in _ (by omega)
                  have HPV : Hid (pO T x (j + 1) j = t0 + v) := Lib.hid (by
                    unfold pO oI
                    rw [if_pos (by omega), HKN.out, HV.out, ht0]
                    rfl)
                  have K0 : ∀ z : Kin wr.drew, z.world.cell? ⟨b', off' + k * 10 + 6 + j, none⟩ = some (.int .i64 v) := fun z => Kin.at (w := wr.drew) hco z
                  have K1 : ∀ z : Kin wr.drew, z.world.cell? ⟨g5, 1 + j, none⟩ = some (.int .i64 t0) := fun z => Kin.at (w := wr.drew) hg z
                  clear hgv ht0 hTb
                  go_upto_region 15 with (fail)
                  clear hco hg k4 hv1 hv2
                  refine wp_region_specL 15 [.d (.int .i64 j), .d (.int .i64 j), .d (.pointer (some ⟨g5, 1, none⟩)), .d (.pointer (some ⟨g5, 1 + j, none⟩)), .d (.int .i64 t0), .d (.slice (some ⟨b', off', none⟩) n c), .d (.int .i64 k), .d (.int .i64 j), .d (.pointer (some ⟨b', off' + k * 10, none⟩)), .d (.pointer (some ⟨b', off' + k * 10 + 6, none⟩)), .d (.pointer (some ⟨b', off' + k * 10 + 6 + j, none⟩)), .d (.int .i64 v), .d (.int .i64 (t0 + v)), .d (.pointer (some ⟨g5, 1, none⟩)), .d (.pointer (some ⟨g5, 1 + j, none⟩))] (by kernel_rfl) (by kernel_rfl) ?_
                  refine spec_d rfl (fun x _ => gives_run (by go_simp)) ?_
                  try simp only [Act.put, List.getElem_toArray, List.getElem_cons_succ, List.getElem_cons_zero, List.setIfInBounds_toArray, List.set_cons_zero, List.set_cons_succ]
                  refine spec_d rfl (fun x _ => gives_run (by go_simp)) ?_
                  try simp only [Act.put, List.getElem_toArray, List.getElem_cons_succ, List.getElem_cons_zero, List.setIfInBounds_toArray, List.set_cons_zero, List.set_cons_succ]
                  refine spec_d rfl (fun x _ => gives_run (by go_simp)) ?_
                  try simp only [Act.put, List.getElem_toArray, List.getElem_cons_succ, List.getElem_cons_zero, List.setIfInBounds_toArray, List.set_cons_zero, List.set_cons_succ]
                  refine spec_d rfl (fun x _ => gives_run (by go_simp)) ?_
                  try simp only [Act.put, List.getElem_toArray, List.getElem_cons_succ, List.getElem_cons_zero, List.setIfInBounds_toArray, List.set_cons_zero, List.set_cons_succ]
                  refine spec_d rfl (fun x _ => gives_run (by go_simp)) ?_
                  try simp only [Act.put, List.getElem_toArray, List.getElem_cons_succ, List.getElem_cons_zero, List.setIfInBounds_toArray, List.set_cons_zero, List.set_cons_succ]
                  refine spec_d rfl (fun x _ => gives_run (by go_simp)) ?_
                  try simp only [Act.put, List.getElem_toArray, List.getElem_cons_succ, List.getElem_cons_zero, List.setIfInBounds_toArray, List.set_cons_zero, List.set_cons_succ]
                  refine spec_d rfl (fun x _ => gives_run (by go_simp)) ?_
                  try simp only [Act.put, List.getElem_toArray, List.getElem_cons_succ, List.getElem_cons_zero, List.setIfInBounds_toArray, List.set_cons_zero, List.set_cons_succ]
                  refine spec_d rfl (fun x _ => gives_run (by go_simp)) ?_
                  try simp only [Act.put, List.getElem_toArray, List.getElem_cons_succ, List.getElem_cons_zero, List.setIfInBounds_toArray, List.set_cons_zero, List.set_cons_succ]
                  refine spec_d rfl (fun x _ => gives_run (by go_simp)) ?_
                  try simp only [Act.put, List.getElem_toArray, List.getElem_cons_succ, List.getElem_cons_zero, List.setIfInBounds_toArray, List.set_cons_zero, List.set_cons_succ]
                  refine spec_d rfl (fun x _ => gives_run (by go_simp)) ?_
                  try simp only [Act.put, List.getElem_toArray, List.getElem_cons_succ, List.getElem_cons_zero, List.setIfInBounds_toArray, List.set_cons_zero, List.set_cons_succ]
                  refine spec_d rfl (fun x _ => gives_run (by go_simp)) ?_
                  try simp only [Act.put, List.getElem_toArray, List.getElem_cons_succ, List.getElem_cons_zero, List.setIfInBounds_toArray, List.set_cons_zero, List.set_cons_succ]
                  refine spec_d rfl (fun x _ => gives_run (by go_simp)) ?_
                  try simp only [Act.put, List.getElem_toArray, List.getElem_cons_succ, List.getElem_cons_zero, List.setIfInBounds_toArray, List.set_cons_zero, List.set_cons_succ]
                  refine spec_d rfl (fun x _ => gives_run (by go_simp)) ?_
                  try simp only [Act.put, List.getElem_toArray, List.getElem_cons_succ, List.getElem_cons_zero, List.setIfInBounds_toArray, List.set_cons_zero, List.set_cons_succ]
                  refine spec_d rfl (fun x _ => gives_run (by go_simp)) ?_
                  try simp only [Act.put, List.getElem_toArray, List.getElem_cons_succ, List.getElem_cons_zero, List.setIfInBounds_toArray, List.set_cons_zero, List.set_cons_succ]
                  refine spec_d rfl (fun x _ => gives_run (by go_simp)) ?_
                  try simp only [Act.put, List.getElem_toArray, List.getElem_cons_succ, List.getElem_cons_zero, List.setIfInBounds_toArray, List.set_cons_zero, List.set_cons_succ]
                  refine spec_end (fun z hz => ?_)
                  clear hz
                  have hzb := (bel_drew wr).trans z.below
                  have HKZ := Lib.hid (HJ.out.kept hzb)
                  have HBZ := Lib.hid (HBJ.out.trans (hzb.mono HBJ.out.size))
                  have y0 := K1 z
                  have y1 := HKZ.out.free (1 + j)
                  clear K0 K1 hzb
                  generalize z.world = wz at HKZ HBZ y0 y1 ⊢
                  clear z
                  change wpAny _ _ _ _ (0 + 1) _ _ _
                  refine wpAny_ready (rs := [15]) (by kernel_rfl) (by simp) ?_
                  refine AllReady.cons rfl (fun KK hK => ?_) AllReady.nil
                  go_simp
                  refine hK _ _ ?_
                  clear hK KK
                  try simp only [Act.put, List.getElem_toArray, List.getElem_cons_succ, List.getElem_cons_zero, List.setIfInBounds_toArray, List.set_cons_zero, List.set_cons_succ]
                  refine wpAny_done (by kernel_rfl) ?_ _
                  have HN : Hid (Obj1 (wz.setCell ⟨g5, 1 + j, none⟩ (.int .i64 (t0 + v))) g5 TC (c5 S (pO T x (j + 1)))) := Lib.hid (by rw [← HPV.out, ← pO_set S T x hj4]; exact HKZ.out.set (1 + j) (.int .i64 (pO T x (j + 1) j)))
                  have HW9 : Hid (Wrote g5 wz (wz.setCell ⟨g5, 1 + j, none⟩ (.int .i64 (t0 + v)))) := Lib.hid ((Wrote.refl g5 wz).set (p := ⟨g5, 1 + j, none⟩) (.inl rfl) _)
                  have HB9 := Lib.hid (HBZ.out.trans (HW9.out.below HGG.out HBZ.out.size))
                  generalize wz.setCell ⟨g5, 1 + j, none⟩ (.int .i64 (t0 + v)) = w9 at HN HB9 HW9 ⊢
                  clear HW9 y0 y1
                  go_wp2
                  go_roundw
                  case rel => exact ⟨j + 1, by omega, by go_num, HJB2, HN, HB9.out⟩
                  case measure => simp [intOf]; omega
          · have hje : j = 4 := by omega
            subst hje
            have HMO2 : Hid (∀ m ∈ ls.take (k + 1), MOk m) := Lib.hid (by
              intro m hm
              rw [HTK.out] at hm
              rcases List.mem_append.1 hm with h | h
              · exact HMO.out m h
              · rw [List.mem_singleton.1 h]
                exact ⟨HXN.out, HJB.out⟩)
            have HJE : Hid (c5 S (pO T x 4) = c5 S (sO (ls.take (k + 1)))) := Lib.hid (c5_congr (fun i hi => by rw [HN2.out]; unfold pO; rw [if_pos hi]))
            rw [HJE.out] at HJ
            obtain ⟨U, HU⟩ : ∃ U, Hid (sO (ls.take (k + 1)) = U) := ⟨_, Lib.hid rfl⟩
            rw [HU.out] at HJ
            obtain ⟨kn, HKN⟩ : ∃ q, Hid (x.kn = q) := ⟨_, Lib.hid rfl⟩
            rw [HKN.out] at k4
            clear hbj hj4 hj k6 k7 k8 k9 e' k0 k1 k2 k5
            cases kn with
            | false =>
              have HE : Hid (sB (ls.take (k + 1)) = S) := Lib.hid (by rw [HN1.out, show bI x = 0 by unfold bI; rw [HKN.out]; rfl, Int.add_zero])
              go_wp2
              go_roundw
              case rel => exact ⟨k + 1, by omega, by go_num, HMO2, by rw [HE.out, HU.out]; exact HJ, HBJ.out⟩
              case measure => simp [intOf]; omega
            | true =>
              have HE : Hid (sB (ls.take (k + 1)) = S + 8 * (x.n : Int)) := Lib.hid (by rw [HN1.out, show bI x = 8 * (x.n : Int) by unfold bI; rw [HKN.out]; rfl])
              have hxn := HXN.out
              have hsb := HSBB.out
              have e2 : IntKind.i64.wrap (8 * (x.n : Int)) = 8 * (x.n : Int) := IntWalk.i64_in _ (by omega)
              have e3 : IntKind.i64.wrap (S + 8 * (x.n : Int)) = S + 8 * (x.n : Int) := IntWalk.i64_in _ (by omega)
              have hg : wr.cell? ⟨g5, 0, none⟩ = some (.int .i64 S) := HJ.out.cell 0
              have K0 : ∀ z : Kin wr.drew, z.world.cell? ⟨b', off' + k * 10 + 3, none⟩ = some (.slice x.A x.n x.c) := fun z => Kin.at (w := wr.drew) k3 z
              have K1 : ∀ z : Kin wr.drew, z.world.cell? ⟨g5, 0, none⟩ = some (.int .i64 S) := fun z => Kin.at (w := wr.drew) hg z
              clear hxn hsb
              go_upto_region 17 with (fail)
              clear k3 k4 hg
              refine wp_region_specL 11 [.d (.pointer (some ⟨g5, 0, none⟩)), .d (.int .i64 S), .d (.slice (some ⟨b', off', none⟩) n c), .d (.int .i64 k), .d (.pointer (some ⟨b', off' + k * 10, none⟩)), .d (.pointer (some ⟨b', off' + k * 10 + 3, none⟩)), .d (.slice x.A x.n x.c), .d (.int .i64 x.n), .d (.int .i64 (8 * (x.n : Int))), .d (.int .i64 (S + 8 * (x.n : Int))), .d (.pointer (some ⟨g5, 0, none⟩))] (by kernel_rfl) (by kernel_rfl) ?_
              refine spec_d rfl (fun x _ => gives_run (by go_simp)) ?_
              try simp only [Act.put, List.getElem_toArray, List.getElem_cons_succ, List.getElem_cons_zero, List.setIfInBounds_toArray, List.set_cons_zero, List.set_cons_succ]
              refine spec_d rfl (fun x _ => gives_run (by go_simp)) ?_
              try simp only [Act.put, List.getElem_toArray, List.getElem_cons_succ, List.getElem_cons_zero, List.setIfInBounds_toArray, List.set_cons_zero, List.set_cons_succ]
              refine spec_d rfl (fun x _ => gives_run (by go_simp)) ?_
              try simp only [Act.put, List.getElem_toArray, List.getElem_cons_succ, List.getElem_cons_zero, List.setIfInBounds_toArray, List.set_cons_zero, List.set_cons_succ]
              refine spec_d rfl (fun x _ => gives_run (by go_simp)) ?_
              try simp only [Act.put, List.getElem_toArray, List.getElem_cons_succ, List.getElem_cons_zero, List.setIfInBounds_toArray, List.set_cons_zero, List.set_cons_succ]
              refine spec_d rfl (fun x _ => gives_run (by go_simp)) ?_
              try simp only [Act.put, List.getElem_toArray, List.getElem_cons_succ, List.getElem_cons_zero, List.setIfInBounds_toArray, List.set_cons_zero, List.set_cons_succ]
              refine spec_d rfl (fun x _ => gives_run (by go_simp)) ?_
              try simp only [Act.put, List.getElem_toArray, List.getElem_cons_succ, List.getElem_cons_zero, List.setIfInBounds_toArray, List.set_cons_zero, List.set_cons_succ]
              refine spec_d rfl (fun x _ => gives_run (by go_simp)) ?_
              try simp only [Act.put, List.getElem_toArray, List.getElem_cons_succ, List.getElem_cons_zero, List.setIfInBounds_toArray, List.set_cons_zero, List.set_cons_succ]
              refine spec_d rfl (fun x _ => gives_run (by go_simp)) ?_
              try simp only [Act.put, List.getElem_toArray, List.getElem_cons_succ, List.getElem_cons_zero, List.setIfInBounds_toArray, List.set_cons_zero, List.set_cons_succ]
              refine spec_d rfl (fun x _ => gives_run (by go_simp)) ?_
              try simp only [Act.put, List.getElem_toArray, List.getElem_cons_succ, List.getElem_cons_zero, List.setIfInBounds_toArray, List.set_cons_zero, List.set_cons_succ]
              refine spec_d rfl (fun x _ => gives_run (by go_simp)) ?_
              try simp only [Act.put, List.getElem_toArray, List.getElem_cons_succ, List.getElem_cons_zero, List.setIfInBounds_toArray, List.set_cons_zero, List.set_cons_succ]
              refine spec_d rfl (fun x _ => gives_run (by go_simp)) ?_
              try simp only [Act.put, List.getElem_toArray, List.getElem_cons_succ, List.getElem_cons_zero, List.setIfInBounds_toArray, List.set_cons_zero, List.set_cons_succ]
              refine spec_end (fun z hz => ?_)
              clear hz
              have hzb := (bel_drew wr).trans z.below
              have HKZ := Lib.hid (HJ.out.kept hzb)
              have HBZ := Lib.hid (HBJ.out.trans (hzb.mono HBJ.out.size))
              have y0 := K1 z
              have y1 := HKZ.out.free 0
              clear K0 K1 hzb
              generalize z.world = wz at HKZ HBZ y0 y1 ⊢
              clear z
              change wpAny _ _ _ _ (0 + 1) _ _ _
              refine wpAny_ready (rs := [11]) (by kernel_rfl) (by simp) ?_
              refine AllReady.cons rfl (fun KK hK => ?_) AllReady.nil
              go_simp
              refine hK _ _ ?_
              clear hK KK
              try simp only [Act.put, List.getElem_toArray, List.getElem_cons_succ, List.getElem_cons_zero, List.setIfInBounds_toArray, List.set_cons_zero, List.set_cons_succ]
              refine wpAny_done (by kernel_rfl) ?_ _
              have HN : Hid (Obj1 (wz.setCell ⟨g5, 0, none⟩ (.int .i64 (S + 8 * (x.n : Int)))) g5 TC (c5 (S + 8 * (x.n : Int)) U)) := Lib.hid (HKZ.out.set 0 (.int .i64 (S + 8 * (x.n : Int))))
              have HW9 : Hid (Wrote g5 wz (wz.setCell ⟨g5, 0, none⟩ (.int .i64 (S + 8 * (x.n : Int))))) := Lib.hid ((Wrote.refl g5 wz).set (p := ⟨g5, 0, none⟩) (.inl rfl) _)
              have HB9 := Lib.hid (HBZ.out.trans (HW9.out.below HGG.out HBZ.out.size))
              generalize wz.setCell ⟨g5, 0, none⟩ (.int .i64 (S + 8 * (x.n : Int))) = w9 at HN HB9 HW9 ⊢
              clear HW9 y0 y1
              go_wp2
              go_roundw
              case rel => exact ⟨k + 1, by omega, by go_num, HMO2, by rw [HE.out, HU.out]; exact HN, HB9.out⟩
              case measure => simp [intOf]; omega
    · as_aux_lemma =>
      have hke : k = n := by omega
      subst hke
      have HTE : Hid (ls.take k = ls) := Lib.hid (List.take_of_length_le (by rw [HLN.out]; exact Nat.le_refl _))
      rw [HTE.out] at HMO HK
      obtain ⟨cb0, cb1⟩ := HCB.out
      obtain ⟨m1, hm1⟩ : ∃ m, min cut (k : Int) = m := ⟨_, rfl⟩
      obtain ⟨m2, hm2⟩ : ∃ m, max 0 m1 = m := ⟨_, rfl⟩
      obtain ⟨q, hq⟩ : ∃ q : Nat, m2 = (q : Int) := ⟨m2.toNat, by omega⟩
      subst hq
      have hqn : q ≤ k := by omega
      have hqi : (q : Int) ≤ (k : Int) := by omega
      have hq0 : (0 : Int) ≤ (q : Int) := by omega
      have hqc : q ≤ c := by omega
      have hcm := HCM.out
      obtain ⟨AA, HAA, HMB⟩ : ∃ AA, Hid (∀ d : Decidable (c = q), @ite (Option Addr) (c = q) d A (A.map (·.add (q * 10))) = AA) ∧ Hid (∀ W, Below w.heap.size w W → MsAt W AA (k - q) (ls.drop q)) := by
        by_cases hcq : c = q
        · exact ⟨A, Lib.hid (fun d => by rw [if_pos hcq]), Lib.hid (fun W h => by
            have : k - q = 0 := by omega
            rw [this]
            exact ms_none (by rw [List.drop_of_length_le (by rw [HLN.out]; omega)]))⟩
        · cases A with
          | none => have := HNIL.out rfl; omega
          | some ad =>
            by_cases hk0 : 0 < k
            · obtain ⟨b, off, e, _⟩ := HML.out.at' hk0
              injection e with e
              subst e
              exact ⟨some ⟨b, off + q * 10, none⟩, Lib.hid (fun d => by rw [if_neg hcq]; show some (Addr.add _ _) = _; rw [add_eq]), Lib.hid (fun W h => ms_back (HML.out.kept h) hqn)⟩
            · exact ⟨(some ad).map (·.add (q * 10)), Lib.hid (fun d => by rw [if_neg hcq]), Lib.hid (fun W h => by
                have : k - q = 0 := by omega
                rw [this]
                exact ms_none (by rw [List.drop_of_length_le (by rw [HLN.out]; omega)]))⟩
      have HMF : Hid (∀ W, Below w.heap.size w W → MsAt W A q (ls.take q)) := Lib.hid (fun W h => ms_front (HML.out.kept h) hqn)
      have HOF0 := Lib.hid (fun W (h : Below w.heap.size w W) => of_any A k c ls W (HML.out.kept h) (by omega) HMO.out)
      have HOF1 := Lib.hid (fun W (h : Below w.heap.size w W) => of_any A q c (ls.take q) W (HMF.out W h) (by omega) (fun m hm => HMO.out m (List.mem_of_mem_take hm)))
      have HOF2 := Lib.hid (fun W (h : Below w.heap.size w W) => of_any AA (k - q) (c - q) (ls.drop q) W (HMB.out W h) (by omega) (fun m hm => HMO.out m (List.mem_of_mem_drop hm)))
      have hs1 := sB_bd (ls.take q) (fun m hm => HMO.out m (List.mem_of_mem_take hm))
      have hs2 := sB_bd (ls.drop q) (fun m hm => HMO.out m (List.mem_of_mem_drop hm))
      have hl1 : (ls.take q).length ≤ 60 := by rw [List.length_take]; omega
      have hl2 : (ls.drop q).length ≤ 60 := by rw [List.length_drop, HLN.out]; omega
      have hsb : sB (ls.take q) + sB (ls.drop q) = sB ls := by rw [← sB_app, List.take_append_drop]
      have hso : (fun i => sO (ls.take q) i + sO (ls.drop q) i) = sO ls := funext (fun i => by rw [← sO_app, List.take_append_drop])
      have HSM := Lib.hid (fun W => sum_any (sB (ls.take q)) (sB (ls.drop q)) (sO (ls.take q)) (sO (ls.drop q)) W ⟨by omega, by omega⟩ (fun i hi => by
        have h1 := sO_bd (ls.take q) (fun m hm => HMO.out m (List.mem_of_mem_take hm)) i hi
        have h2 := sO_bd (ls.drop q) (fun m hm => HMO.out m (List.mem_of_mem_drop hm)) i hi
        omega))
      rw [hsb, hso] at HSM
      have HON := Lib.hid (fun W (h : Below w.heap.size w W) => one40_any W (HLD.out W h).1 (HLD.out W h).2)
      clear hs1 hs2 hl1 hl2 hsb hso
      obtain ⟨E, HE⟩ : ∃ E, Hid (sB ls = E) := ⟨_, Lib.hid rfl⟩
      obtain ⟨O, HO⟩ : ∃ O, Hid (sO ls = O) := ⟨_, Lib.hid rfl⟩
      obtain ⟨E1, HE1⟩ : ∃ E, Hid (sB (ls.take q) = E) := ⟨_, Lib.hid rfl⟩
      obtain ⟨O1, HO1⟩ : ∃ O, Hid (sO (ls.take q) = O) := ⟨_, Lib.hid rfl⟩
      obtain ⟨E2, HE2⟩ : ∃ E, Hid (sB (ls.drop q) = E) := ⟨_, Lib.hid rfl⟩
      obtain ⟨O2, HO2⟩ : ∃ O, Hid (sO (ls.drop q) = O) := ⟨_, Lib.hid rfl⟩
      rw [HE.out, HO.out] at HOF0 HSM HK
      rw [HE1.out, HO1.out] at HOF1 HSM
      rw [HE2.out, HO2.out] at HOF2 HSM
      have HSM2 : Hid (∀ W, Calls Tryd.prog 19 #[.agg #[.int .i64 E1, .int .i64 (O1 0), .int .i64 (O1 1), .int .i64 (O1 2), .int .i64 (O1 3)], .agg #[.int .i64 E2, .int .i64 (O2 0), .int .i64 (O2 1), .int .i64 (O2 2), .int .i64 (O2 3)]] W fun e' w' => e' = .returned (.agg (c5 E O)) ∧ Below W.heap.size W w') := Lib.hid (fun W => HSM.out W)
      have EQ4 := fun W => eq4 (O 0) (O 1) (O 2) (O 3) W
      have hsz := size_ms
      have haa := HAA.out
      have X0 : ∀ z : Kin wr.drew, Obj1 z.world g5 TC (c5 E O) := fun z => (HK.out.drew).kept z.below
      have K0 : ∀ z : Kin wr.drew, z.world.cell? ⟨g5, 0, none⟩ = some (.int .i64 E) := fun z => (X0 z).cell 0
      have K1 : ∀ z : Kin wr.drew, z.world.cell? ⟨g5, 1, none⟩ = some (.int .i64 (O 0)) := fun z => (X0 z).cell 1
      have K2 : ∀ z : Kin wr.drew, z.world.cell? ⟨g5, 2, none⟩ = some (.int .i64 (O 1)) := fun z => (X0 z).cell 2
      have K3 : ∀ z : Kin wr.drew, z.world.cell? ⟨g5, 3, none⟩ = some (.int .i64 (O 2)) := fun z => (X0 z).cell 3
      have K4 : ∀ z : Kin wr.drew, z.world.cell? ⟨g5, 4, none⟩ = some (.int .i64 (O 3)) := fun z => (X0 z).cell 4
      have HKD : Hid (∀ z : Kin wr.drew, Below w.heap.size w z.world) := Lib.hid (fun z => HBK.out.trans (((bel_drew wr).trans z.below).mono HBK.out.size))
      clear X0 hbk hlt hk cb0 cb1
      go_upto_region 19 with (fail)
      refine wp_region_specL 21 [.d (.slice A k c), .d (.agg #[.int .i64 E, .int .i64 (O 0), .int .i64 (O 1), .int .i64 (O 2), .int .i64 (O 3)]), .d (.agg #[.int .i64 E, .int .i64 (O 0), .int .i64 (O 1), .int .i64 (O 2), .int .i64 (O 3)]), .d (.bool true), .d (.bool true), .d (.slice A k c), .d (.int .i64 q), .d (.slice A q c), .d (.agg #[.int .i64 E1, .int .i64 (O1 0), .int .i64 (O1 1), .int .i64 (O1 2), .int .i64 (O1 3)]), .d (.slice A k c), .d (.int .i64 q), .d (.slice AA (k - q) (c - q)), .d (.agg #[.int .i64 E2, .int .i64 (O2 0), .int .i64 (O2 1), .int .i64 (O2 2), .int .i64 (O2 3)]), .d (.agg #[.int .i64 E, .int .i64 (O 0), .int .i64 (O 1), .int .i64 (O 2), .int .i64 (O 3)]), .d (.agg #[.int .i64 E, .int .i64 (O 0), .int .i64 (O 1), .int .i64 (O 2), .int .i64 (O 3)]), .d (.bool true), .d (.bool true), .d (.bool true), .d (.bool true), .d (.bool true), .d (.bool true)] (by kernel_rfl) (by kernel_rfl) ?_
      refine spec_d rfl (fun x _ => gives_run (by go_simp)) ?_
      try simp only [Act.put, List.getElem_toArray, List.getElem_cons_succ, List.getElem_cons_zero, List.setIfInBounds_toArray, List.set_cons_zero, List.set_cons_succ]
      refine spec_d rfl (fun z _ => gives_det (by go_simp) (HOF0.out z.world (HKD.out z))) ?_
      try simp only [Act.put, List.getElem_toArray, List.getElem_cons_succ, List.getElem_cons_zero, List.setIfInBounds_toArray, List.set_cons_zero, List.set_cons_succ]
      refine spec_d rfl (fun x _ => gives_run (by go_simp)) ?_
      try simp only [Act.put, List.getElem_toArray, List.getElem_cons_succ, List.getElem_cons_zero, List.setIfInBounds_toArray, List.set_cons_zero, List.set_cons_succ]
      refine spec_d rfl (fun x _ => gives_run (by go_simp)) ?_
      try simp only [Act.put, List.getElem_toArray, List.getElem_cons_succ, List.getElem_cons_zero, List.setIfInBounds_toArray, List.set_cons_zero, List.set_cons_succ]
      refine spec_d rfl (fun x _ => gives_run (by go_simp)) ?_
      try simp only [Act.put, List.getElem_toArray, List.getElem_cons_succ, List.getElem_cons_zero, List.setIfInBounds_toArray, List.set_cons_zero, List.set_cons_succ]
      refine spec_d rfl (fun x _ => gives_run (by go_simp)) ?_
      try simp only [Act.put, List.getElem_toArray, List.getElem_cons_succ, List.getElem_cons_zero, List.setIfInBounds_toArray, List.set_cons_zero, List.set_cons_succ]
      refine spec_d rfl (fun x _ => gives_run (by go_simp)) ?_
      try simp only [Act.put, List.getElem_toArray, List.getElem_cons_succ, List.getElem_cons_zero, List.setIfInBounds_toArray, List.set_cons_zero, List.set_cons_succ]
      refine spec_d rfl (fun x _ => gives_run (by go_simp)) ?_
      try simp only [Act.put, List.getElem_toArray, List.getElem_cons_succ, List.getElem_cons_zero, List.setIfInBounds_toArray, List.set_cons_zero, List.set_cons_succ]
      refine spec_d rfl (fun z _ => gives_det (by go_simp) (HOF1.out z.world (HKD.out z))) ?_
      try simp only [Act.put, List.getElem_toArray, List.getElem_cons_succ, List.getElem_cons_zero, List.setIfInBounds_toArray, List.set_cons_zero, List.set_cons_succ]
      refine spec_d rfl (fun x _ => gives_run (by go_simp)) ?_
      try simp only [Act.put, List.getElem_toArray, List.getElem_cons_succ, List.getElem_cons_zero, List.setIfInBounds_toArray, List.set_cons_zero, List.set_cons_succ]
      refine spec_d rfl (fun x _ => gives_run (by go_simp)) ?_
      try simp only [Act.put, List.getElem_toArray, List.getElem_cons_succ, List.getElem_cons_zero, List.setIfInBounds_toArray, List.set_cons_zero, List.set_cons_succ]
      refine spec_d rfl (fun x _ => gives_run (by go_simp)) ?_
      try simp only [Act.put, List.getElem_toArray, List.getElem_cons_succ, List.getElem_cons_zero, List.setIfInBounds_toArray, List.set_cons_zero, List.set_cons_succ]
      refine spec_d rfl (fun z _ => gives_det (by go_simp) (HOF2.out z.world (HKD.out z))) ?_
      try simp only [Act.put, List.getElem_toArray, List.getElem_cons_succ, List.getElem_cons_zero, List.setIfInBounds_toArray, List.set_cons_zero, List.set_cons_succ]
      refine spec_d rfl (fun z _ => gives_det (by go_simp) (HSM2.out z.world)) ?_
      try simp only [Act.put, List.getElem_toArray, List.getElem_cons_succ, List.getElem_cons_zero, List.setIfInBounds_toArray, List.set_cons_zero, List.set_cons_succ]
      refine spec_d rfl (fun x _ => gives_run (by go_simp)) ?_
      try simp only [Act.put, List.getElem_toArray, List.getElem_cons_succ, List.getElem_cons_zero, List.setIfInBounds_toArray, List.set_cons_zero, List.set_cons_succ]
      refine spec_d rfl (fun x _ => gives_run (by go_simp)) ?_
      try simp only [Act.put, List.getElem_toArray, List.getElem_cons_succ, List.getElem_cons_zero, List.setIfInBounds_toArray, List.set_cons_zero, List.set_cons_succ]
      refine spec_d rfl (fun x _ => gives_run (by go_simp)) ?_
      try simp only [Act.put, List.getElem_toArray, List.getElem_cons_succ, List.getElem_cons_zero, List.setIfInBounds_toArray, List.set_cons_zero, List.set_cons_succ]
      refine spec_d rfl (fun x _ => gives_run (by go_simp)) ?_
      try simp only [Act.put, List.getElem_toArray, List.getElem_cons_succ, List.getElem_cons_zero, List.setIfInBounds_toArray, List.set_cons_zero, List.set_cons_succ]
      refine spec_d rfl (fun z _ => gives_det (by go_simp) (HON.out z.world (HKD.out z))) ?_
      try simp only [Act.put, List.getElem_toArray, List.getElem_cons_succ, List.getElem_cons_zero, List.setIfInBounds_toArray, List.set_cons_zero, List.set_cons_succ]
      refine spec_d rfl (fun x _ => gives_run (by go_simp)) ?_
      try simp only [Act.put, List.getElem_toArray, List.getElem_cons_succ, List.getElem_cons_zero, List.setIfInBounds_toArray, List.set_cons_zero, List.set_cons_succ]
      refine spec_d rfl (fun x _ => gives_run (by go_simp)) ?_
      try simp only [Act.put, List.getElem_toArray, List.getElem_cons_succ, List.getElem_cons_zero, List.setIfInBounds_toArray, List.set_cons_zero, List.set_cons_succ]
      refine spec_end (fun z hz => ?_)
      clear hz
      refine wpAny_done (by kernel_rfl) ?_ _
      have HBZ := Lib.hid (HKD.out z)
      clear HKD K0 K1 K2 K3 K4
      generalize z.world = w9 at HBZ ⊢
      clear z
      go_wp2
      go_ret
      exact ⟨rfl, HBZ.out⟩
theorem walk (A : Option Addr) (n c : Nat) (rows : List (List Value)) (cut : Int) (w : World) (hU : Ld w) (hg : Grid w A n (Sh.size shM) rows) (hr : ∀ r ∈ rows, Reads w shM r) (hnc : n ≤ c) (hcm : c ≤ maxLen) (hnil : NilZ A n c) (a0 : -9223372036854775808 ≤ cut) (a1 : cut ≤ 9223372036854775807) :
    Calls Tryd.prog 4 #[.slice A n c, .int .i64 cut] w fun e w' => e = .returned (.bool true) ∧ Below w.heap.size w w' := by
  unfold maxLen at hcm
  obtain ⟨ls, hm⟩ := ms_in hg hr
  exact go A n c ls cut w hU hm hnc (by omega) hnil a0 a1

theorem door_met (os : Os) (args : Array Value) : laidMetH Tryd.prog Rows.diagCountsRow.laid ((World.doorLaid Tryd.prog 400 os).forCall (fun _ _ => 0) ⟨#[], args, []⟩).memory :=
  laidMetH_of_parts3 (fuel := 8) (laidMet_of_run' 8 (by kernel_rfl) (by kernel_rfl)) (by kernel_rfl) (by kernel_rfl)
set_option maxRecDepth 100000 in
theorem lifted (os : Os) (started : os.Started) (H : Type) (enc : TypeId × Value → H) :
    ReturnsInHanded {} Tryd.checked os 4 .any (fun w args => (Rows.diagCountsSpec.pre enc Tryd.prog Tryd.f4 [] false w args ∧ laidMetH Tryd.prog Rows.diagCountsRow.laid w) ∧ sizedMet enc Tryd.prog Tryd.f4 (OpenSpec.ofChange Rows.diagCountsSpec) false w args)
      (Rows.diagCountsSpec.post enc Tryd.prog Tryd.f4 false true false false) := by
  refine returnsInHanded_of_change_and (C := Tryd.checked) (X := fun w _ => laidMetH Tryd.prog Rows.diagCountsRow.laid w) (fun _ _ _ hh h => h.of_heap hh) own started (by kernel_rfl) Tryd.func4
    (ChangeSpec.witness_shaped (enc := enc) (C := Tryd.checked) (os := os) (X := fun w _ => laidMetH Tryd.prog Rows.diagCountsRow.laid w) false (World.doorLaid Tryd.prog 400 os) #[.slice none 0 0, .int .i64 0] 8 rfl (World.shaped_of_RefB (by kernel_rfl) (by kernel_rfl)) (by kernel_rfl) (by kernel_rfl) (by kernel_rfl) (door_met os _)) ?_
  intro W base args ds gs before hval0 hW _ _ hL _
  have hval : ∀ (j : Nat) t v, Tryd.f4.params[j]? = some t → args[j]? = some v → Value.okWide Tryd.prog W .any base t v := hval0
  have hW' := hW
  obtain ⟨p, q, hA0, hV, rfl, hfz, hnd⟩ := hW
  have hA : DataW.TrodAll enc Tryd.prog W 0 (fun _ => true) true Tryd.f4.params.toList args.toList ds p := hA0
  rw [Tryd.params4] at hA hval
  obtain ⟨v0, vs0, d0, ds0, p0, q0, hargs, rfl, rfl, h0, r0⟩ := trodAll_cons hA
  obtain ⟨v1, vs1, d1, ds1, p1, q1, rfl, rfl, rfl, h1, r1⟩ := trodAll_cons r0
  obtain ⟨rfl, rfl, rfl⟩ := trodAll_nil r1
  obtain rfl : args = #[v0, v1] := by cases args; simp_all
  obtain ⟨rfl, rfl⟩ := trodVars_none hV
  have k0 := h0
  have lt0 : ∀ x ∈ p0, x.block < W.heap.size := by obtain ⟨m, hm⟩ := k0; exact DataW.trod_lt m _ _ _ hm
  obtain ⟨lA, ln, lc, rfl⟩ := okWide_slice Tryd.underlying32 (hval 0 32 v0 rfl rfl)
  obtain ⟨l, g0, rd0, cb0, cc0⟩ := reads_slice (e := shM) 30 (by kernel_rfl) k0
  have z0 := nilz_any Tryd.underlying32 k0
  obtain ⟨cut, rfl, rfl, rfl, wf1⟩ := open_int Tryd.underlying3 (hval 1 3 v1 rfl rfl) h1
  have bd1 := bounds_i64 wf1
  clear hA0 hval0
  refine (walk lA ln lc l cut W (of_laid hL) g0 rd0 cb0 cc0 z0 bd1.1 bd1.2).mono fun e W' ⟨he, bel⟩ => ?_
  subst he
  exact ⟨_, rfl, _, _, _, [], _, [], hW', trodAll_mk1 (shut_bool Tryd.underlying4 _), (trodAll_cons_mk (Below.trod laidOut (by kernel_rfl) (of_decide_eq_true (by kernel_rfl)) k0 bel lt0) (trodAll_cons_mk (shut_int Tryd.underlying3 wf1) trodAll_mk0)), rfl, bel.frame _, fun h => by cases h⟩

theorem over : Rows.diagCountsRow.holds Tryd.pinned (OpenSpec.ofChange Rows.diagCountsSpec) :=
  OpenClaim.holds_of_wide 4 Tryd.f4 rfl rfl rfl rfl rfl rfl rfl ⟨rfl, rfl, rfl, rfl, rfl⟩ rfl rfl rfl rfl rfl (by kernel_rfl) Tryd.func4 (by kernel_rfl)
    (of_decide_eq_true (by kernel_rfl)) (by unfold Func.isWrapper; first | (rw [if_pos (by decide +kernel)]; kernel_rfl) | (rw [if_neg (by decide +kernel)]; exact ⟨rfl, rfl⟩))
    (fun os started H enc _ => lifted os started H enc)

/-- The card: what the row lists is tied to the program's text. -/
theorem proved : Rows.DiagCountsCardSaid :=
  Claim7.holds_tied_plain_at .later [] [.data,.data,.data,.data] true Rows.diagCountsCard.stood.harness false
    over (fun _ h => by cases h) (by kernel_rfl) (fun _ h => by cases h) diagCounts_row_tie rfl ⟨rfl, rfl⟩ (by kernel_rfl) rfl
    (fun f fn hf hfn => by
      obtain rfl : f = 4 := Option.some.inj ((show Tryd.prog.funcNamed "busbar/busbarlaw40.DiagCounts" = some 4 by kernel_rfl).symm.trans hf) |>.symm
      obtain rfl : fn = Tryd.f4 := (Option.some.inj (Tryd.func4.symm.trans hfn)).symm
      exact ⟨by kernel_rfl, fun j t ht => by
        rw [Tryd.params4] at ht
        have hm : t ∈ [32, 3] := by simpa using Array.mem_of_getElem? ht
        have hall : ([32, 3].all fun u => !Tryd.prog.wantsStandIn u) = true := by kernel_rfl
        exact (show Tryd.prog.wantsStandIn t = false by simpa using List.all_eq_true.1 hall t hm)⟩)
    (by kernel_rfl)
end Go.Proofs.YtanhblokhcaoiaaDoor.lawDiagCounts
