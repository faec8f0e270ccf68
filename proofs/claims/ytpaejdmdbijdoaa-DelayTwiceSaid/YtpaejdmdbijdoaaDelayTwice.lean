/- What is seen through two delays is seen through one of as many ticks as both; one that nobody made sees nothing: for every input; no condition. -/
import Derived.Deep.CutRange
import Derived.Deep.RegionHeld3
import Derived.Test.YtpaejdmdbijdoaaDlyB
import Derived.Test.YtpaejdmdbijdoaaSh
import Derived.Test.YtpaejdmdbijdoaaRows
import Derived.WalkKit
import Derived.ProofKit
import Derived.OpenShut
import Derived.ShutString
import Derived.ChangeOld
import Derived.Below
namespace Go.Proofs.Ytpaejdmdbijdoaa.lawDelayTwice
open Go.ChangeShapes Go.WideShapes Go.ChangeAt Go.RowKit Base
open Go.ChangeMaps (open_string shut_string)
set_option linter.unusedVariables false
set_option linter.unusedSimpArgs false
theorem own : ownKnob Try.prog.godebug = none := by kernel_rfl
theorem laidOut : laidOutB Try.prog = true := by kernel_rfl
open Ly4

theorem and7 (x : Int) : ∃ y : Nat, y ≤ 7 ∧ Go.bits BinOp.and IntKind.i64 x 7 = y := by
  have h : (BitVec.ofInt 64 x &&& BitVec.ofInt 64 7).toNat ≤ 7 := by
    rw [BitVec.toNat_and]
    exact Nat.le_trans Nat.and_le_right (by decide)
  refine ⟨(BitVec.ofInt 64 x &&& BitVec.ofInt 64 7).toNat, by omega, ?_⟩
  show IntKind.i64.wrap ((BitVec.ofInt 64 x &&& BitVec.ofInt 64 7).toNat : Int) = _
  generalize (BitVec.ofInt 64 x &&& BitVec.ofInt 64 7).toNat = z at h ⊢
  simp only [IntKind.wrap, IntKind.bits, IntKind.signed]
  simp
  omega

/-- What the first delay told, value by value, of the first k. -/
def told (l : List Int) (a k : Nat) : List Int := (List.range k).map fun i => seenF (l.take (i + 1)) a
theorem told_len (l : List Int) (a k : Nat) : (told l a k).length = k := by simp [told]
theorem told_snoc (l : List Int) (a k : Nat) : told l a (k + 1) = told l a k ++ [seenF (l.take (k + 1)) a] := by simp [told, List.range_succ]
theorem seen_take (l : List Int) (a k : Nat) (hk : k ≤ l.length) : seenF (l.take k) a = if k ≤ a then 0 else l.getD (k - 1 - a) 0 := by
  unfold seenF
  rw [List.length_take, Nat.min_eq_left hk]
  split
  · rfl
  · simp [List.getD_eq_getElem?_getD, List.getElem?_take, show k - 1 - a < k by omega]
theorem seen_twice (l : List Int) (a b k : Nat) (hk : k < l.length) : seenF (told l a (k + 1)) b = seenF (l.take (k + 1)) (a + b) := by
  rw [seen_take l (a + b) (k + 1) (by omega)]
  unfold seenF
  rw [told_len]
  by_cases h : k + 1 ≤ b
  · rw [if_pos h, if_pos (by omega)]
  · rw [if_neg h]
    have : (told l a (k + 1)).getD (k + 1 - 1 - b) 0 = seenF (l.take (k + 1 - 1 - b + 1)) a := by
      simp [told, List.getD_eq_getElem?_getD, show k - b < k + 1 by omega]
    rw [this, seen_take l a _ (by omega)]
    by_cases h2 : k + 1 ≤ a + b
    · rw [if_pos (by omega), if_pos h2]
    · rw [if_neg (by omega), if_neg h2]; congr 1; omega

theorem seen_bd {h : List Int} {t : Nat} (hb : ∀ x ∈ h, 0 ≤ x ∧ x ≤ 255) : 0 ≤ seenF h t ∧ seenF h t ≤ 255 := by
  unfold seenF
  split
  · omega
  · rw [List.getD_eq_getElem?_getD, List.getElem?_eq_getElem (by omega)]
    exact hb _ (List.getElem_mem _)

/-- Three delays, and a value of what came in. -/
def Tri (w : World) (bx by' bz : Nat) (a b : Nat) (hx hy hz : List Int) (g o : Nat) (v : Int) : Prop :=
  Dly w bx a hx ∧ Dly w by' b hy ∧ Dly w bz (a + b) hz ∧ w.cell? ⟨g, o, none⟩ = some (.int .u8 v)
theorem see_x {w : World} {bx by' bz a b : Nat} {hx hy hz : List Int} {g o : Nat} {v : Int} (h : Tri w bx by' bz a b hx hy hz g o v) (n1 : bx ≠ by') (n2 : bx ≠ bz) (n3 : g ≠ bx) (ha : a ≤ 15) (hh : hx.length ≤ 1000000000) (x : Int) (x0 : 0 ≤ x) (x1 : x ≤ 255) {s : Int} (hs : Hid (seenF (hx ++ [x]) a = s)) :
    Calls Try.prog 17 #[.pointer (some ⟨bx, 0, none⟩), .int .u8 x] w fun e w' => e = .returned (.int .u8 s) ∧ Hid (Tri w' bx by' bz a b (hx ++ [x]) hy hz g o v) ∧ Hid (Wrote bx w w') ∧ w'.cell? ⟨g, o, none⟩ = some (.int .u8 v) := by
  obtain ⟨d1, d2, d3, hc⟩ := h
  refine (see_any bx a hx x w d1 ha hh x0 x1).mono ?_
  rintro e w' ⟨rfl, h1, h2⟩
  rw [hs.out]
  have hc' := (h2.cell (World.block_lt_of_cell? w _ hc) n3).trans hc
  exact ⟨rfl, ⟨h1, d2.touch h2 n1.symm, d3.touch h2 n2.symm, hc'⟩, h2, hc'⟩
theorem see_y {w : World} {bx by' bz a b : Nat} {hx hy hz : List Int} {g o : Nat} {v : Int} (h : Tri w bx by' bz a b hx hy hz g o v) (n1 : bx ≠ by') (n2 : by' ≠ bz) (n3 : g ≠ by') (ha : b ≤ 15) (hh : hy.length ≤ 1000000000) (x : Int) (x0 : 0 ≤ x) (x1 : x ≤ 255) {s : Int} (hs : Hid (seenF (hy ++ [x]) b = s)) :
    Calls Try.prog 17 #[.pointer (some ⟨by', 0, none⟩), .int .u8 x] w fun e w' => e = .returned (.int .u8 s) ∧ Hid (Tri w' bx by' bz a b hx (hy ++ [x]) hz g o v) ∧ Hid (Wrote by' w w') ∧ w'.cell? ⟨g, o, none⟩ = some (.int .u8 v) := by
  obtain ⟨d1, d2, d3, hc⟩ := h
  refine (see_any by' b hy x w d2 ha hh x0 x1).mono ?_
  rintro e w' ⟨rfl, h1, h2⟩
  rw [hs.out]
  have hc' := (h2.cell (World.block_lt_of_cell? w _ hc) n3).trans hc
  exact ⟨rfl, ⟨d1.touch h2 n1, h1, d3.touch h2 n2.symm, hc'⟩, h2, hc'⟩
theorem see_z {w : World} {bx by' bz a b : Nat} {hx hy hz : List Int} {g o : Nat} {v : Int} (h : Tri w bx by' bz a b hx hy hz g o v) (n1 : bx ≠ bz) (n2 : by' ≠ bz) (n3 : g ≠ bz) (ha : a + b ≤ 15) (hh : hz.length ≤ 1000000000) (x : Int) (x0 : 0 ≤ x) (x1 : x ≤ 255) {s : Int} (hs : Hid (seenF (hz ++ [x]) (a + b) = s)) :
    Calls Try.prog 17 #[.pointer (some ⟨bz, 0, none⟩), .int .u8 x] w fun e w' => e = .returned (.int .u8 s) ∧ Hid (Tri w' bx by' bz a b hx hy (hz ++ [x]) g o v) ∧ Hid (Wrote bz w w') ∧ w'.cell? ⟨g, o, none⟩ = some (.int .u8 v) := by
  obtain ⟨d1, d2, d3, hc⟩ := h
  refine (see_any bz (a + b) hz x w d3 ha hh x0 x1).mono ?_
  rintro e w' ⟨rfl, h1, h2⟩
  rw [hs.out]
  have hc' := (h2.cell (World.block_lt_of_cell? w _ hc) n3).trans hc
  exact ⟨rfl, ⟨d1.touch h2 n1, d2.touch h2 n2, h1, hc'⟩, h2, hc'⟩

/-- A delay that nobody made. -/
def Nob (w : World) (v : Value) : Prop := v = .pointer none ∨ ∃ b, v = .pointer (some ⟨b, 0, none⟩) ∧ ∃ cs, Obj1 w b 36 cs ∧ cs.size = 19 ∧ cs[0]? = some (.bool false) ∧ cs[1]? = some (.int .i64 0) ∧ cs[2]? = some (.int .i64 0)
theorem see_nob (v : Value) (x : Int) (w : World) (h : Nob w v) : Calls Try.prog 17 #[v, .int .u8 x] w fun e w' => e = .returned (.int .u8 0) ∧ w = w' := by
  rcases h with rfl | ⟨b, rfl, cs, ho, _, h0, h1, h2⟩
  · go_enter Try.func17, Try.ntmps17
    go_wp2
    go_ret
    exact ⟨rfl, rfl⟩
  · have c0 := (ho.cell 0).trans h0
    clear ho h0 h1 h2
    go_enter Try.func17, Try.ntmps17
    go_wp2
    go_ret
    exact ⟨rfl, rfl⟩
theorem ticks_nob (v : Value) (w : World) (h : Nob w v) : Calls Try.prog 20 #[v] w fun e w' => e = .returned (.int .i64 0) ∧ w = w' := by
  rcases h with rfl | ⟨b, rfl, cs, ho, _, h0, h1, h2⟩
  · go_enter Try.func20, Try.ntmps20
    go_wp2
    go_ret
    exact ⟨rfl, rfl⟩
  · have c0 := (ho.cell 1).trans h1
    clear ho h0 h1 h2
    go_enter Try.func20, Try.ntmps20
    go_wp2
    go_ret
    exact ⟨rfl, rfl⟩
theorem last_nob (v : Value) (w : World) (h : Nob w v) : Calls Try.prog 19 #[v] w fun e w' => e = .returned (.int .i64 0) ∧ w = w' := by
  rcases h with rfl | ⟨b, rfl, cs, ho, _, h0, h1, h2⟩
  · go_enter Try.func19, Try.ntmps19
    go_wp2
    go_ret
    exact ⟨rfl, rfl⟩
  · have c0 := (ho.cell 2).trans h2
    clear ho h0 h1 h2
    go_enter Try.func19, Try.ntmps19
    go_wp2
    go_ret
    exact ⟨rfl, rfl⟩
def noneCells : Array Value := #[.bool false, .int .i64 0, .int .i64 0, .int .u8 0, .int .u8 0, .int .u8 0, .int .u8 0, .int .u8 0, .int .u8 0, .int .u8 0, .int .u8 0, .int .u8 0, .int .u8 0, .int .u8 0, .int .u8 0, .int .u8 0, .int .u8 0, .int .u8 0, .int .u8 0]
theorem clear_nil (w : World) : Calls Try.prog 16 #[.pointer none] w fun e w' => e = .returned (.tuple #[]) ∧ w = w' := by
  go_enter Try.func16, Try.ntmps16
  go_wp2
  refine bodyPost_ret (results_none rfl _ _ _) rfl ?_
  exact ⟨rfl, rfl⟩
set_option maxRecDepth 100000 in
theorem clear_zero (b : Nat) (cs : Array Value) (w : World) (ho : Obj1 w b 36 cs) (hs : cs.size = 19) (h0 : cs[0]? = some (.bool false)) (h1 : cs[1]? = some (.int .i64 0)) :
    Calls Try.prog 16 #[.pointer (some ⟨b, 0, none⟩)] w fun e w' => e = .returned (.tuple #[]) ∧ Obj1 w' b 36 noneCells ∧ Wrote b w w' := by
  have c0 := (ho.cell 0).trans h0
  have c1 := (ho.cell 1).trans h1
  have HO := Lib.hid ho
  have HS := Lib.hid hs
  clear ho hs h0 h1
  go_enter Try.func16, Try.ntmps16
  go_wp2
  go_still_tail 11, (by kernel_rfl)
  change wpList _ _ _ _ _ w.drew
  refine wpList_store_row rfl 36 _ _ rfl b noneCells rfl rfl 36 cs HO.out (by kernel_rfl) (by rw [HS.out]; rfl) (by simp [noneCells, Value.oneCell']) ?_
  have HW := Lib.hid (wrote_setRow (w := w.drew) HO.out noneCells)
  generalize w.drew.setRow b noneCells = W at HW ⊢
  go_wp2
  go_end0
  exact ⟨rfl, HW.out.1, ((Wrote.refl b w).drew).trans HW.out.2⟩

theorem new_sum (a b : Nat) (w : World) (h : a + b ≤ 15) :
    Calls Try.prog 14 #[.int .i64 ((a : Int) + (b : Int))] w fun e w' => e = .returned (.tuple #[.pointer (some ⟨w.heap.size, 0, none⟩), .int .i64 0]) ∧ Dly w' w.heap.size (a + b) [] ∧ Below w.heap.size w w' := by
  have := new_yes (a + b) w h
  rwa [Int.natCast_add] at this

/-- What the loop over the values knows, behind k of them. -/
def TRel (w : World) (bx by' bz a b n : Nat) (l : List Int) (i : Value) (wr : World) : Prop :=
  ∃ k : Nat, k ≤ n ∧ i = .int .i64 k ∧ Dly wr bx a (l.take k) ∧ Dly wr by' b (told l a k) ∧ Dly wr bz (a + b) (l.take k) ∧ Below w.heap.size w wr

set_option maxRecDepth 100000 in
set_option maxHeartbeats 2000000 in
theorem walk (x y : Int) (A : Option Addr) (n c : Nat) (l : List Int) (w : World) (hx0 : -9223372036854775808 ≤ x) (hx1 : x ≤ 9223372036854775807) (hy0 : -9223372036854775808 ≤ y) (hy1 : y ≤ 9223372036854775807) (hl : Lst w A n (l.map (Value.int .u8))) (hb : ∀ x ∈ l, 0 ≤ x ∧ x ≤ 255) (hnc : n ≤ c) (hcm : c ≤ maxLen) :
    Calls Try.prog 4 #[.int .i64 x, .int .i64 y, .slice A n c] w fun e w' => e = .returned (.bool true) ∧ Below w.heap.size w w' := by
  have hm := hcm
  unfold maxLen at hm
  obtain ⟨a, a7, ha⟩ := and7 x
  obtain ⟨b, b7, hbb⟩ := and7 y
  have hln : l.length = n := by simpa using hl.1
  have HLN := Lib.hid hln
  have HBD := Lib.hid hb
  clear hln hb
  by_cases h500 : 500 < n
  · go_enter Try.func4, Try.ntmps4
    go_wp2_with fail
    refine (new_yes a w (by omega)).mono ?_
    rintro e w1 ⟨rfl, hd1, hb1⟩
    go_wp2_with fail
    refine (new_yes b w1 (by omega)).mono ?_
    rintro e w2 ⟨rfl, hd2, hb2⟩
    go_wp2_with fail
    refine (new_sum a b w2 (by omega)).mono ?_
    rintro e w3 ⟨rfl, hd3, hb3⟩
    go_wp2
    go_ret
    refine ⟨rfl, ?_⟩
    repeat (first | exact Below.refl _ _ | refine Below.setCell ?_ (by first | omega | (simp; done) | (simp; omega) | (have := hb3.size; simp at this ⊢; omega) | (have := hb2.size; simp at this ⊢; omega) | (have := hb1.size; simp at this ⊢; omega) | (have := hb3.size; have := hb2.size; have := hb1.size; simp at *; omega)) _ | refine Below.alloc ?_ (by first | omega | (simp; done) | (simp; omega) | (have := hb3.size; simp at this ⊢; omega) | (have := hb2.size; simp at this ⊢; omega) | (have := hb1.size; simp at this ⊢; omega) | (have := hb3.size; have := hb2.size; have := hb1.size; simp at *; omega)) _ | refine below_drewN' ?_ _ | refine Below.drew ?_ | refine Below.trans ?_ (hb3.mono (by first | omega | (simp; done) | (simp; omega) | (have := hb3.size; simp at this ⊢; omega) | (have := hb2.size; simp at this ⊢; omega) | (have := hb1.size; simp at this ⊢; omega) | (have := hb3.size; have := hb2.size; have := hb1.size; simp at *; omega))) | refine Below.trans ?_ (hb2.mono (by first | omega | (simp; done) | (simp; omega) | (have := hb3.size; simp at this ⊢; omega) | (have := hb2.size; simp at this ⊢; omega) | (have := hb1.size; simp at this ⊢; omega) | (have := hb3.size; have := hb2.size; have := hb1.size; simp at *; omega))) | refine Below.trans ?_ (hb1.mono (by first | omega | (simp; done) | (simp; omega) | (have := hb3.size; simp at this ⊢; omega) | (have := hb2.size; simp at this ⊢; omega) | (have := hb1.size; simp at this ⊢; omega) | (have := hb3.size; have := hb2.size; have := hb1.size; simp at *; omega))))
  · have hd5 : decide ((500 : Int) < (n : Int)) = false := by simp; omega
    go_enter Try.func4, Try.ntmps4
    go_wp2_with fail
    refine (new_yes a w (by omega)).mono ?_
    rintro e w1 ⟨rfl, hd1, hb1⟩
    go_wp2_with fail
    refine (new_yes b w1 (by omega)).mono ?_
    rintro e w2 ⟨rfl, hd2, hb2⟩
    go_wp2_with fail
    refine (new_sum a b w2 (by omega)).mono ?_
    rintro e w3 ⟨rfl, hd3, hb3⟩
    have l1 := hd1.lt
    have l2 := hd2.lt
    have l3 := hd3.lt
    have z1 := hb1.size
    have z2 := hb2.size
    have z3 := hb3.size
    have hbel0 : Below w.heap.size w w3 := (hb1.trans (hb2.mono z1)).trans (hb3.mono (Nat.le_trans z1 z2))
    have HX := Lib.hid ((hd1.kept hb2).kept hb3)
    have HY := Lib.hid (hd2.kept hb3)
    have HZ := Lib.hid hd3
    clear hd1 hd2 hd3 hb1 hb2 hb3
    obtain ⟨bx, HBX⟩ : ∃ bx, Hid (w.heap.size = bx) := ⟨_, Lib.hid rfl⟩
    obtain ⟨by', HBY⟩ : ∃ bx, Hid (w1.heap.size = bx) := ⟨_, Lib.hid rfl⟩
    obtain ⟨bz, HBZ⟩ : ∃ bx, Hid (w2.heap.size = bx) := ⟨_, Lib.hid rfl⟩
    rw [HBX.out] at HX l1 z1 ⊢
    rw [HBY.out] at HY l1 l2 z1 z2 ⊢
    rw [HBZ.out] at HZ l2 l3 z2 z3 ⊢
    go_wp2_with fail
    go_loopw [13] (fun i wr => TRel w bx by' bz a b n l i wr) (fun i _ => n - (intOf i).toNat)
    case atStart => exact ⟨0, by omega, rfl, HX.out, HY.out, HZ.out, hbel0⟩
    case round =>
      obtain ⟨k, hk, rfl, hx, hy, hz, hbel⟩ := hrel
      by_cases hlt : k < n
      · obtain ⟨g, off, rfl, hbs, hg0⟩ := hl.get hlt
        have hvb := HBD.out (l[k]'(by rw [HLN.out]; exact hlt)) (List.getElem_mem _)
        obtain ⟨v, HV⟩ : ∃ v, Hid (l[k]'(by rw [HLN.out]; exact hlt) = v) := ⟨_, Lib.hid rfl⟩
        rw [HV.out] at hvb
        obtain ⟨v0, v1⟩ := hvb
        rw [List.getElem_map, HV.out] at hg0
        have hc := (hbel.cell (p := ⟨g, off + k, none⟩) hbs).trans hg0
        have HT : Hid (Tri wr bx by' bz a b (l.take k) (told l a k) (l.take k) g (off + k) v) := ⟨hx, hy, hz, hc⟩
        clear hx hy hz hg0
        have hkl : k < l.length := by rw [HLN.out]; exact hlt
        have ht : l.take k ++ [v] = l.take (k + 1) := by rw [← HV.out]; exact (List.take_succ_eq_append_getElem hkl).symm
        obtain ⟨s, HS⟩ : ∃ s, Hid (seenF (l.take k ++ [v]) a = s) := ⟨_, Lib.hid rfl⟩
        obtain ⟨r, HR⟩ : ∃ r, Hid (seenF (l.take k ++ [v]) (a + b) = r) := ⟨_, Lib.hid rfl⟩
        have HR2 : Hid (seenF (told l a k ++ [s]) b = r) := by
          show seenF (told l a k ++ [s]) b = r
          rw [← HS.out, ht, ← told_snoc, seen_twice l a b k hkl, ← HR.out, ht]
        have HT1 : Hid (told l a k ++ [s] = told l a (k + 1)) := by show _ = _; rw [← HS.out, ht, ← told_snoc]
        have HT2 := Lib.hid ht
        have hsb := seen_bd (h := l.take k ++ [v]) (t := a) (by intro x hx; rw [ht] at hx; exact HBD.out x (List.mem_of_mem_take hx))
        rw [HS.out] at hsb
        obtain ⟨s0, s1⟩ := hsb
        have HL1 : Hid ((l.take k).length ≤ 1000000000) := by show _ ≤ _; simp; omega
        have HL2 : Hid ((told l a k).length ≤ 1000000000) := by show _ ≤ _; rw [told_len]; omega
        have HTd : Hid (Tri wr.drew bx by' bz a b (l.take k) (told l a k) (l.take k) g (off + k) v) := HT.out
        have hgx : g < bx := by rw [← HBX.out]; exact hbs
        clear ht
        go_wp2_with fail
        go_region_held3 (fun w' => w'.cell? ⟨g, off + k, none⟩ = some (.int .u8 v)) (first | go_keep | assumption)
          (first
            | (go_at_call_of 17 (Value.pointer (some ⟨bx, 0, none⟩)); refine (see_x HTd.out (by omega) (by omega) (by omega) (by omega) HL1.out v v0 v1 HS).mono ?_; rintro e wa ⟨rfl, HTa, HWa, hca⟩)
            | (go_at_call_of 17 (Value.pointer (some ⟨by', 0, none⟩)); refine (see_y HTa.out (by omega) (by omega) (by omega) (by omega) HL2.out s s0 s1 HR2).mono ?_; rintro e wb ⟨rfl, HTb, HWb, hcb⟩)
            | (go_at_call_of 17 (Value.pointer (some ⟨bz, 0, none⟩)); refine (see_z HTb.out (by omega) (by omega) (by omega) (by omega) HL1.out v v0 v1 HR).mono ?_; rintro e wc ⟨rfl, HTc, HWc, hcc⟩))
        go_wp2
        go_roundw
        case rel =>
          obtain ⟨dx, dy, dz, _⟩ := HTc.out
          have hw1' : Below w.heap.size wr.drew wa := HWa.out.below (by rw [HBX.out]; exact Nat.le_refl _) hbel.size
          have hw2' : Below w.heap.size wa wb := HWb.out.below (by rw [HBX.out]; omega) (Nat.le_trans hbel.size hw1'.size)
          have hw3' : Below w.heap.size wb wc := HWc.out.below (by rw [HBX.out]; omega) (Nat.le_trans hbel.size (Nat.le_trans hw1'.size hw2'.size))
          exact ⟨k + 1, by omega, by go_num, by rw [← HT2.out]; exact dx, by rw [← HT1.out]; exact dy, by rw [← HT2.out]; exact dz, ((hbel.drew.trans hw1').trans hw2').trans hw3'⟩
        case measure => simp [intOf]; omega
      · obtain rfl : k = n := by omega
        clear HX HY HZ hx hy hz
        have HN : Hid (∀ W : World, Nob W (.pointer none)) := fun W => .inl rfl
        have HO : Hid (Obj1 (wr.alloc (.cells noneCells 36)) wr.heap.size 36 noneCells) := Obj1.new _ _ _
        go_wp2_with fail
        refine wp_loop_rounds 3 ?_
        rw [rounds_succ]
        go_wp2_with fail
        refine (clear_zero _ noneCells _ HO.out rfl rfl rfl).mono ?_
        rintro e wa ⟨rfl, hoa, hwa⟩
        have HNa : Hid (Nob wa (.pointer (some ⟨wr.heap.size, 0, none⟩))) := .inr ⟨_, rfl, noneCells, hoa, rfl, rfl, rfl, rfl⟩
        have hba : Below w.heap.size w wa := (hbel.alloc hbel.size _).trans (hwa.below hbel.size (by simp; exact Nat.le_succ_of_le hbel.size))
        clear hoa hwa HO
        go_wp2_with (first | (go_at_call 17; refine (see_nob _ _ _ HNa.out).mono ?_; rintro e w' ⟨rfl, rfl⟩) | (go_at_call 20; refine (ticks_nob _ _ HNa.out).mono ?_; rintro e w' ⟨rfl, rfl⟩) | (go_at_call 19; refine (last_nob _ _ HNa.out).mono ?_; rintro e w' ⟨rfl, rfl⟩))
        rw [rounds_succ]
        go_wp2_with fail
        refine (clear_nil _).mono ?_
        rintro e w' ⟨rfl, rfl⟩
        go_wp2_with (first | (go_at_call 17; refine (see_nob _ _ _ (HN.out _)).mono ?_; rintro e w' ⟨rfl, rfl⟩) | (go_at_call 20; refine (ticks_nob _ _ (HN.out _)).mono ?_; rintro e w' ⟨rfl, rfl⟩) | (go_at_call 19; refine (last_nob _ _ (HN.out _)).mono ?_; rintro e w' ⟨rfl, rfl⟩))
        rw [rounds_succ]
        go_wp2_with (go_at_call 15; refine (one_any _).mono ?_; rintro e w4 ⟨rfl, hb4⟩)
        go_ret
        refine ⟨rfl, ?_⟩
        repeat (first | exact Below.refl _ _ | refine Below.setCell ?_ (by first | omega | (simp; done) | (simp; omega) | (have := hb4.size; simp at this ⊢; omega) | (have := hba.size; simp at this ⊢; omega) | (have := hb4.size; have := hba.size; simp at *; omega)) _ | refine Below.alloc ?_ (by first | omega | (simp; done) | (simp; omega) | (have := hb4.size; simp at this ⊢; omega) | (have := hba.size; simp at this ⊢; omega) | (have := hb4.size; have := hba.size; simp at *; omega)) _ | refine below_drewN' ?_ _ | refine Below.drew ?_ | refine Below.trans ?_ (hb4.mono (by first | omega | (simp; done) | (simp; omega) | (have := hb4.size; simp at this ⊢; omega) | (have := hba.size; simp at this ⊢; omega) | (have := hb4.size; have := hba.size; simp at *; omega))) | refine Below.trans ?_ (hba.mono (by first | omega | (simp; done) | (simp; omega) | (have := hb4.size; simp at this ⊢; omega) | (have := hba.size; simp at this ⊢; omega) | (have := hb4.size; have := hba.size; simp at *; omega))))

set_option maxRecDepth 100000 in
theorem lifted (os : Os) (started : os.Started) (H : Type) (enc : TypeId × Value → H) :
    ReturnsInHanded {} Try.checked os 4 .any (Rows.delayTwiceSpec.pre6 enc Try.prog Try.f4 Rows.delayTwiceRow.domain false) (Rows.delayTwiceSpec.post enc Try.prog Try.f4 false true false false) := by
  refine returnsInHanded_of_change (C := Try.checked) own started (by kernel_rfl) Try.func4
    (ChangeSpec.witness6 (enc := enc) (C := Try.checked) false ⟨#[], #[.int .i64 0, .int .i64 0, .slice none 0 0], []⟩ 8 (by kernel_rfl) (by kernel_rfl) (by kernel_rfl) (by kernel_rfl)) ?_
  intro W base args ds gs before hval0 hW hcnd _
  have hval : ∀ (j : Nat) t v, Try.f4.params[j]? = some t → args[j]? = some v → Value.okWide Try.prog W .any base t v := hval0
  have hW' := hW
  obtain ⟨p, q, hA0, hV, rfl, hfz, hnd⟩ := hW
  have hA : DataW.TrodAll enc Try.prog W 0 (fun _ => true) true Try.f4.params.toList args.toList ds p := hA0
  rw [Try.params4] at hA hval
  obtain ⟨v0, vs0, d0, ds0, p0, q0, hargs, rfl, rfl, h0, r0⟩ := trodAll_cons hA
  obtain ⟨v1, vs1, d1, ds1, p1, q1, rfl, rfl, rfl, h1, r1⟩ := trodAll_cons r0
  obtain ⟨v2, vs2, d2, ds2, p2, q2, rfl, rfl, rfl, h2, r2⟩ := trodAll_cons r1
  obtain ⟨rfl, rfl, rfl⟩ := trodAll_nil r2
  obtain rfl : args = #[v0, v1, v2] := by cases args; simp_all
  obtain ⟨rfl, rfl⟩ := trodVars_none hV
  obtain ⟨x, rfl, rfl, rfl, wf0⟩ := open_int Try.underlying3 (hval 0 3 v0 rfl rfl) h0
  have bd0 := bounds_i64 wf0
  obtain ⟨y, rfl, rfl, rfl, wf1⟩ := open_int Try.underlying3 (hval 1 3 v1 rfl rfl) h1
  have bd1 := bounds_i64 wf1
  have k2 := h2
  have lt2 : ∀ x ∈ p2, x.block < W.heap.size := by obtain ⟨m, hm⟩ := k2; exact DataW.trod_lt m _ _ _ hm
  obtain ⟨lA, ln, lc, rfl⟩ := okWide_slice Try.underlying22 (hval 2 22 v2 rfl rfl)
  obtain ⟨l, l2, b2, cb2, cc2⟩ := lst_ints Try.underlying22 Try.underlying29 (by kernel_rfl) k2
  clear hA0 hval0
  refine (walk x y lA ln lc l W bd0.1 bd0.2 bd1.1 bd1.2 l2 (ints_u8 b2) cb2 cc2).mono fun e W' ⟨he, bel⟩ => ?_
  subst he
  exact ⟨_, rfl, _, _, _, [], _, [], hW', trodAll_mk1 (shut_bool Try.underlying4 _), (trodAll_cons_mk (shut_int Try.underlying3 wf0) (trodAll_cons_mk (shut_int Try.underlying3 wf1) (trodAll_cons_mk (Below.trod laidOut (by kernel_rfl) (of_decide_eq_true (by kernel_rfl)) k2 bel lt2) trodAll_mk0))), rfl, bel.frame _, fun h => by cases h⟩

theorem over : Rows.delayTwiceRow.holds Try.pinned (OpenSpec.ofChange Rows.delayTwiceSpec) :=
  OpenClaim.holds_of_wide 4 Try.f4 rfl rfl rfl rfl rfl rfl rfl ⟨rfl, rfl, rfl, rfl, rfl⟩ rfl rfl rfl rfl rfl (by kernel_rfl) Try.func4 (by kernel_rfl)
    (of_decide_eq_true (by kernel_rfl)) (by unfold Func.isWrapper; first | (rw [if_pos (by decide +kernel)]; kernel_rfl) | (rw [if_neg (by decide +kernel)]; exact ⟨rfl, rfl⟩))
    (fun os started H enc _ => lifted os started H enc)

/-- The statement. -/
theorem proved : Rows.DelayTwiceSaid := over
end Go.Proofs.Ytpaejdmdbijdoaa.lawDelayTwice
