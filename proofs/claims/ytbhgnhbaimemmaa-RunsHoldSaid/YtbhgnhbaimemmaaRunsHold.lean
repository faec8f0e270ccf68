/- A run of four lines goes on, whatever one of them does, and ends when one more is low; while two lines at most are high there is none: for every two lines and every list of levels; no condition. -/
import Derived.Deep.CutRange
import Derived.Test.YtbhgnhbaimemmaaRunC
import Derived.Test.YtbhgnhbaimemmaaSh
import Derived.Test.YtbhgnhbaimemmaaRows
import Derived.WalkKit
import Derived.ProofKit
import Derived.OpenShut
import Derived.ShutString
import Derived.ChangeOld
import Derived.Below
namespace Go.Proofs.Ytbhgnhbaimemmaa.lawRunsHold
open Go.ChangeShapes Go.WideShapes Go.ChangeAt Go.RowKit Base
open Go.ChangeMaps (open_string shut_string)
set_option linter.unusedVariables false
set_option linter.unusedSimpArgs false
theorem own : ownKnob Try.prog.godebug = none := by kernel_rfl
theorem laidOut : laidOutB Try.prog = true := by kernel_rfl
open Ly6 Ly3

/-- What each line has where one has x, another one y, and all else z. -/
def U (p o : Nat) (x y z : Int) (j : Nat) : Int := if j = p then x else if j = o then y else z
theorem u_bd {p o : Nat} {x y z m : Int} (x0 : 0 ≤ x) (x1 : x ≤ m) (y0 : 0 ≤ y) (y1 : y ≤ m) (z0 : 0 ≤ z) (z1 : z ≤ m) (j : Nat) : 0 ≤ U p o x y z j ∧ U p o x y z j ≤ m := by
  unfold U; split; omega; split <;> omega
theorem u_nx {p o l : Nat} {x y z X Y Z : Int} (hx : nx l p x = X) (hy : nx l o y = Y) (hz : ∀ j < 4, j ≠ p → j ≠ o → nx l j z = Z) {j : Nat} (hj : j < 4) : nx l j (U p o x y z j) = U p o X Y Z j := by
  unfold U
  by_cases h : j = p
  · subst h; simpa using hx
  · rw [if_neg h, if_neg h]
    by_cases h2 : j = o
    · subst h2; simpa using hy
    · rw [if_neg h2, if_neg h2]; exact hz j hj h h2
theorem t3_hold {p o : Nat} (hp : p < 4) (ho : o < 4) (hne : o ≠ p) {x m : Int} (x0 : 0 ≤ x) (x1 : x ≤ m) : t3 (U p o x m m 0) (U p o x m m 1) (U p o x m m 2) (U p o x m m 3) = m := by
  rcases (show p = 0 ∨ p = 1 ∨ p = 2 ∨ p = 3 by omega) with rfl | rfl | rfl | rfl <;> simp [U, t3] <;> omega
theorem t3_two {p o : Nat} (hp : p < 4) (ho : o < 4) (hne : o ≠ p) {z : Int} (z0 : 0 ≤ z) : t3 (U p o 0 0 z 0) (U p o 0 0 z 1) (U p o 0 0 z 2) (U p o 0 0 z 3) = 0 := by
  rcases (show p = 0 ∨ p = 1 ∨ p = 2 ∨ p = 3 by omega) with rfl | rfl | rfl | rfl <;> rcases (show o = 0 ∨ o = 1 ∨ o = 2 ∨ o = 3 by omega) with rfl | rfl | rfl | rfl <;> first | (exact absurd rfl hne) | (simp [U, t3] <;> omega)
theorem t3_low {p o : Nat} (hp : p < 4) (ho : o < 4) (hne : o ≠ p) {x y : Int} (x0 : 0 ≤ x) (y0 : 0 ≤ y) : t3 (U p o x y 0 0) (U p o x y 0 1) (U p o x y 0 2) (U p o x y 0 3) = 0 := by
  rcases (show p = 0 ∨ p = 1 ∨ p = 2 ∨ p = 3 by omega) with rfl | rfl | rfl | rfl <;> rcases (show o = 0 ∨ o = 1 ∨ o = 2 ∨ o = 3 by omega) with rfl | rfl | rfl | rfl <;> first | (exact absurd rfl hne) | (simp [U, t3] <;> omega)
theorem hb1 : ∀ p : Nat, p < 4 → ∀ h : Bool, ∀ j : Nat, j < 4 → hb (setF 15 (p : Int) h) j = if j = p then h else true := by decide +kernel
theorem hb2 : ∀ p : Nat, p < 4 → ∀ o : Nat, o < 4 → ∀ j : Nat, j < 4 → hb (setF (setF 15 (p : Int) false) (o : Int) false) j = if j = p then false else if j = o then false else true := by decide +kernel
theorem hb3 : ∀ p : Nat, p < 4 → ∀ o : Nat, o < 4 → o ≠ p → ∀ h : Bool, ∀ j : Nat, j < 4 → hb (setF (setF 0 (p : Int) h) (o : Int) true) j = if j = p then h else if j = o then true else false := by decide +kernel
theorem and3 (x : Int) : ∃ p : Nat, p < 4 ∧ Go.bits BinOp.and IntKind.i64 x 3 = (p : Int) := by
  obtain ⟨y, h0, h1, h2⟩ := and_mask x 3 (by decide)
  refine ⟨y.toNat, by omega, ?_⟩
  rw [Int.toNat_of_nonneg h0]
  simpa using h2
theorem next3 : ∀ p : Nat, p < 4 → ∃ o : Nat, o < 4 ∧ o ≠ p ∧ Go.bits BinOp.and IntKind.i64 ((p : Int) + 1) 3 = (o : Int) := by
  intro p hp
  rcases (show p = 0 ∨ p = 1 ∨ p = 2 ∨ p = 3 by omega) with rfl | rfl | rfl | rfl
  · exact ⟨1, by decide, by decide, by decide +kernel⟩
  · exact ⟨2, by decide, by decide, by decide +kernel⟩
  · exact ⟨3, by decide, by decide, by decide +kernel⟩
  · exact ⟨0, by decide, by decide, by decide +kernel⟩

/-- Runs where one line has x, another one y, and all else z. -/
def Hd (w : World) (g p o : Nat) (x y z run was since : Int) : Prop := Rn w g true (U p o x y z 0) (U p o x y z 1) (U p o x y z 2) (U p o x y z 3) run was since
theorem see_u (g p o l : Nat) (x y z run was since X Y Z t s : Int) (hl : l < 256) (hbd : (0 ≤ x ∧ x ≤ 1000) ∧ (0 ≤ y ∧ y ≤ 1000) ∧ 0 ≤ z ∧ z ≤ 1000) (hx : nx l p x = X) (hy : nx l o y = Y) (hz : ∀ j < 4, j ≠ p → j ≠ o → nx l j z = Z)
    (ht : t3 (U p o X Y Z 0) (U p o X Y Z 1) (U p o X Y Z 2) (U p o X Y Z 3) = t) (hs : max since t = s) (w : World) (h : Hd w g p o x y z run was since) :
    Calls Try.prog 37 #[.pointer (some ⟨g, 0, none⟩), .int .u8 l] w fun e w' => e = .returned (.tuple #[]) ∧ Hid (Hd w' g p o X Y Z t run s) ∧ Hid (Wrote g w w') := by
  obtain ⟨⟨x0, x1⟩, ⟨y0, y1⟩, z0, z1⟩ := hbd
  have b := fun j => u_bd (p := p) (o := o) (m := 1000) x0 x1 y0 y1 z0 z1 j
  have c0 := b 0
  have c1 := b 1
  have c2 := b 2
  have c3 := b 3
  exact see_raw g _ _ _ _ run was since l w h hl c0.1 (by omega) c1.1 (by omega) c2.1 (by omega) c3.1 (by omega) _ _ _ _ _ _ (u_nx hx hy hz (by decide)) (u_nx hx hy hz (by decide)) (u_nx hx hy hz (by decide)) (u_nx hx hy hz (by decide)) ht hs

/-- One of the lines high at will, all else high. -/
theorem see_hold (g p o k : Nat) (q was since : Int) (h : Bool) (l : Nat) (hp : p < 4) (ho : o < 4) (hne : o ≠ p) (hk : k ≤ 500) (q0 : 0 ≤ q) (q1 : q ≤ k) (s0 : 0 ≤ since) (s1 : since ≤ k) (hl : Hid (setF 15 (p : Int) h = l)) (w : World) (hh : Hd w g p o q k k k was since) :
    Calls Try.prog 37 #[.pointer (some ⟨g, 0, none⟩), .int .u8 l] w fun e w' => e = .returned (.tuple #[]) ∧ Hid (Hd w' g p o (if h then q + 1 else 0) ((k : Int) + 1) ((k : Int) + 1) ((k : Int) + 1) k ((k : Int) + 1)) ∧ Hid (Wrote g w w') := by
  rw [← hl.out]
  refine see_u g p o _ q k k k was since _ _ _ _ _ (setF_lt (by decide)) (by omega) ?_ ?_ ?_ ?_ ?_ w hh
  · simp only [nx]; rw [hb1 p hp h p hp, if_pos rfl]
  · simp only [nx]; rw [hb1 p hp h o ho, if_neg hne, if_pos rfl]
  · intro j hj h1 h2; simp only [nx]; rw [hb1 p hp h j hj, if_neg h1, if_pos rfl]
  · exact t3_hold hp ho hne (by split <;> omega) (by split <;> omega)
  · omega
theorem see_two (g p o k : Nat) (q was since : Int) (l : Nat) (hp : p < 4) (ho : o < 4) (hne : o ≠ p) (hk : k ≤ 500) (q0 : 0 ≤ q) (q1 : q ≤ k) (s0 : 0 ≤ since) (hl : Hid (setF (setF 15 (p : Int) false) (o : Int) false = l)) (w : World) (hh : Hd w g p o q k k k was since) :
    Calls Try.prog 37 #[.pointer (some ⟨g, 0, none⟩), .int .u8 l] w fun e w' => e = .returned (.tuple #[]) ∧ Hid (Hd w' g p o 0 0 ((k : Int) + 1) 0 k since) ∧ Hid (Wrote g w w') := by
  rw [← hl.out]
  refine see_u g p o _ q k k k was since _ _ _ _ _ (setF_lt (setF_lt (by decide))) (by omega) ?_ ?_ ?_ ?_ ?_ w hh
  · simp only [nx]; rw [hb2 p hp o ho p hp]; simp
  · simp only [nx]; rw [hb2 p hp o ho o ho]; simp
  · intro j hj h1 h2; simp only [nx]; rw [hb2 p hp o ho j hj, if_neg h1, if_neg h2, if_pos rfl]
  · exact t3_two hp ho hne (by omega)
  · omega
theorem see_few (g p o k : Nat) (x y z was since : Int) (h : Bool) (l : Nat) (hp : p < 4) (ho : o < 4) (hne : o ≠ p) (hk : k ≤ 500) (hb : (0 ≤ x ∧ x ≤ k) ∧ (0 ≤ y ∧ y ≤ k) ∧ 0 ≤ z ∧ z ≤ 501) (s0 : 0 ≤ since) (hl : Hid (setF (setF 0 (p : Int) h) (o : Int) true = l)) (w : World) (hh : Hd w g p o x y z 0 was since) :
    Calls Try.prog 37 #[.pointer (some ⟨g, 0, none⟩), .int .u8 l] w fun e w' => e = .returned (.tuple #[]) ∧ Hid (Hd w' g p o (if h then x + 1 else 0) (y + 1) 0 0 0 since) ∧ Hid (Wrote g w w') := by
  rw [← hl.out]
  refine see_u g p o _ x y z 0 was since _ _ _ _ _ (setF_lt (setF_lt (by decide))) (by omega) ?_ ?_ ?_ ?_ ?_ w hh
  · simp only [nx]; rw [hb3 p hp o ho hne h p hp, if_pos rfl]
  · simp only [nx]; rw [hb3 p hp o ho hne h o ho, if_neg hne, if_pos rfl, if_pos rfl]
  · intro j hj h1 h2; simp only [nx]; rw [hb3 p hp o ho hne h j hj, if_neg h1, if_neg h2]; simp
  · exact t3_low hp ho hne (by split <;> omega) (by omega)
  · omega
theorem set_c (l : Nat) (i : Nat) (h : Bool) (l' : Nat) (hl : l < 256) (hs : Hid (setF l (i : Int) h = l')) (w : World) : Calls Try.prog 46 #[.int .u8 l, .int .i64 i, .bool h] w fun e w' => e = .returned (.int .u8 l') ∧ w = w' := by
  have := set_any l (i : Int) h w hl
  rwa [hs.out] at this

/-- What the first loop knows. -/
def HRel (w : World) (g p o N : Nat) (i : Value) (wr : World) : Prop :=
  ∃ (k : Nat) (q was since : Int), k ≤ N ∧ i = .int .i64 k ∧ (0 ≤ q ∧ q ≤ k) ∧ (0 ≤ since ∧ since ≤ k) ∧ Hd wr g p o q k k k was since ∧ Below w.heap.size w wr
/-- What the second loop knows. -/
def LRel (w : World) (g p o N : Nat) (i : Value) (wr : World) : Prop :=
  ∃ (k : Nat) (x y z was since : Int), k ≤ N ∧ i = .int .i64 k ∧ ((0 ≤ x ∧ x ≤ k) ∧ (0 ≤ y ∧ y ≤ k) ∧ 0 ≤ z ∧ z ≤ 501) ∧ 0 ≤ since ∧ Hd wr g p o x y z 0 was since ∧ Below w.heap.size w wr

set_option maxRecDepth 100000 in
set_option maxHeartbeats 4000000 in
theorem walk_in (li ot : Int) (A : Option Addr) (n c N : Nat) (bs : List Bool) (w : World) (ha : Lst w A n (bs.map Value.bool)) (hnm : n ≤ 9223372036854775807) (hN : (n ≤ N ∧ N ≤ n ∧ N ≤ 300) ∨ (N < n ∧ N ≤ 300 ∧ 300 ≤ N)) :
    Calls Try.prog 11 #[.int .i64 li, .int .i64 ot, .slice A n c] w fun e w' => e = .returned (.bool true) ∧ Below w.heap.size w w' := by
  have hlx : bs.length = n := by simpa using ha.1
  have HLX := Lib.hid hlx
  have HA := Lib.hid ha
  clear ha hlx
  obtain ⟨p, hp, hpe⟩ := and3 li
  obtain ⟨q, hq, hqe⟩ := and3 ot
  obtain ⟨s, hs, hsp, hse⟩ := next3 p hp
  have HSP := Lib.hid hsp
  clear hsp
  have hmin : min (n : Int) 300 = (N : Int) := by omega
  go_enter Try.func11, Try.ntmps11
  go_upto_if 17 with (fail)
  go_cut [1] from 15 to 20 (fun v wx => ∃ o : Nat, o < 4 ∧ o ≠ p ∧ v = .int .i64 o ∧ w = wx)
  case first =>
    by_cases hpq : p = q
    · subst hpq
      go_wp2
      go_meet
      exact ⟨s, hs, HSP.out, rfl, rfl⟩
    · have hpq' : ((p : Int) == (q : Int)) = false := by simp; omega
      have HPQ := Lib.hid hpq
      clear hpq
      go_wp2
      go_meet
      exact ⟨q, hq, fun h => HPQ.out h.symm, rfl, rfl⟩
  case rest =>
    obtain ⟨o, ho, hop, rfl, rfl⟩ := hcut
    have HOP := Lib.hid hop
    clear hop hpe hqe hse hs hq HSP
    go_wp2_with fail
    refine (new_any w).mono ?_
    rintro e w1 ⟨rfl, h1, hb1⟩
    have H1 := Lib.hid h1
    clear h1
    obtain ⟨g, HG⟩ : ∃ bx, Hid (w.heap.size = bx) := ⟨_, Lib.hid rfl⟩
    have hgx : Hid (w.heap.size ≤ g) := Lib.hid (by rw [HG.out]; exact Nat.le_refl _)
    rw [HG.out] at H1
    rw [HG.out]
    go_wp2_with fail
    refine (see_low 0 g 0 0 0 0 0 0 0 _ bd_zero (by omega) H1.out).mono ?_
    rintro e w2 ⟨rfl, h2, hw2⟩
    have HB2 := Lib.hid (hb1.trans (hw2.out.below hgx.out hb1.size))
    have H2 : Hid (Hd w2 g p o 0 ((0 : Nat) : Int) ((0 : Nat) : Int) ((0 : Nat) : Int) 0 0) := by
      have e0 : ∀ j, U p o 0 ((0 : Nat) : Int) ((0 : Nat) : Int) j = 0 := fun j => by unfold U; split; rfl; split <;> rfl
      show Rn _ _ _ _ _ _ _ _ _ _
      simp only [e0]
      exact h2.out
    clear hb1 hw2 h2 H1
    go_wp2_with fail
    go_loopw [8] (fun i wr => HRel w g p o N i wr) (fun i _ => N - (intOf i).toNat)
    case atStart => exact ⟨0, 0, 0, 0, by omega, rfl, by omega, by omega, H2.out, HB2.out⟩
    case round =>
      clear H2 HB2
      obtain ⟨k, q, was, since, hk, rfl, ⟨q0, q1⟩, ⟨s0, s1⟩, hr, hbel⟩ := hrel
      have HR := Lib.hid hr
      have HBEL := Lib.hid hbel
      clear hr hbel
      by_cases hlt : k < N
      · have hkn : k < n := by omega
        have hk3 : k < 300 := by omega
        obtain ⟨a, off, rfl, hbs, hg0⟩ := HA.out.get hkn
        rw [List.getElem_map] at hg0
        obtain ⟨v, HV⟩ : ∃ v, Hid (bs[k]'(by rw [HLX.out]; exact hkn) = v) := ⟨_, Lib.hid rfl⟩
        rw [HV.out] at hg0
        have hc := (HBEL.out.cell (p := ⟨a, off + k, none⟩) hbs).trans hg0
        clear hg0
        obtain ⟨l, HL⟩ : ∃ l, Hid (setF 15 (p : Int) v = l) := ⟨_, Lib.hid rfl⟩
        obtain ⟨r, hr0⟩ : ∃ r : Bool, ((k : Int) == 0) = r := ⟨_, rfl⟩
        have HRO : Hid (roseB ((k : Int) + 1) k = r) := Lib.hid (by rw [← hr0]; unfold roseB; rw [show decide (0 < (k : Int) + 1) = true from decide_eq_true (by omega), Bool.and_true])
        have HFE : Hid ((if 0 < (k : Int) + 1 then 0 else (k : Int)) = 0) := Lib.hid (by rw [if_pos (by omega)])
        go_wp2_with fail
        refine (set_c 15 p v l (by decide) HL _).mono ?_
        rintro e w' ⟨rfl, rfl⟩
        go_wp2_with fail
        refine (see_hold g p o k q was since v l hp ho HOP.out (by omega) q0 q1 s0 s1 HL _ HR.out).mono ?_
        rintro e w3 ⟨rfl, h3, hw3⟩
        have HB3 := Lib.hid (HBEL.out.trans (hw3.out.below hgx.out HBEL.out.size))
        clear hw3 HBEL HR hc
        go_wp2_with fail
        refine (run_any g true _ _ _ _ _ _ _ _ h3.out).mono ?_
        rintro e w' ⟨rfl, rfl⟩
        go_wp2_with fail
        refine (rose_c g true _ _ _ _ _ _ _ r HRO _ h3.out).mono ?_
        rintro e w4 ⟨rfl, hb4⟩
        have H4 : Hid (Hd w4 g p o (if v then q + 1 else 0) ((k : Int) + 1) ((k : Int) + 1) ((k : Int) + 1) k ((k : Int) + 1)) := Lib.hid (Obj1.kept h3.out hb4)
        have HB4 := Lib.hid (HB3.out.trans (hb4.mono HB3.out.size))
        clear h3 HB3 hb4
        go_wp2_with fail
        refine (fell_c g true _ _ _ _ _ _ _ _ HFE _ H4.out).mono ?_
        rintro e w' ⟨rfl, rfl⟩
        clear hr0
        go_wp2_with fail
        go_roundw
        case rel => exact ⟨k + 1, if v then q + 1 else 0, k, (k : Int) + 1, by omega, by go_num, by split <;> omega, by omega, H4.out, HB4.out⟩
        case measure => simp [intOf]; omega
      · obtain rfl : k = N := by omega
        obtain ⟨l1, HL1⟩ : ∃ l, Hid (setF 15 (p : Int) false = l) := ⟨_, Lib.hid rfl⟩
        obtain ⟨l2, HL2⟩ : ∃ l, Hid (setF l1 (o : Int) false = l) := ⟨_, Lib.hid rfl⟩
        have hl1 : l1 < 256 := by rw [← HL1.out]; exact setF_lt (by decide)
        have HL2' : Hid (setF (setF 15 (p : Int) false) (o : Int) false = l2) := Lib.hid (by rw [HL1.out, HL2.out])
        rcases hN with ⟨n0, n1, n2⟩ | ⟨n0, n1, n2⟩
        all_goals
          go_wp2_with fail
          refine (set_c 15 p false l1 (by decide) HL1 _).mono ?_
          rintro e w' ⟨rfl, rfl⟩
          go_wp2_with fail
          refine (set_c l1 o false l2 hl1 HL2 _).mono ?_
          rintro e w' ⟨rfl, rfl⟩
          go_wp2_with fail
          refine (see_two g p o k q was since l2 hp ho HOP.out (by omega) q0 q1 s0 HL2' _ HR.out).mono ?_
          rintro e w3 ⟨rfl, h3, hw3⟩
          have HB3 := Lib.hid (HBEL.out.trans (hw3.out.below hgx.out HBEL.out.size))
          clear hw3 HBEL HR
          go_wp2_with fail
          refine (run_any g true _ _ _ _ _ _ _ _ h3.out).mono ?_
          rintro e w' ⟨rfl, rfl⟩
          go_wp2_with fail
          refine (fell_c g true _ _ _ _ _ _ _ (k : Int) (Lib.hid (by rw [if_neg (by omega)])) _ h3.out).mono ?_
          rintro e w' ⟨rfl, rfl⟩
          go_wp2_with fail
          refine (rose_c g true _ _ _ _ _ _ _ false (Lib.hid (by simp [roseB])) _ h3.out).mono ?_
          rintro e w4 ⟨rfl, hb4⟩
          have H4 : Hid (Hd w4 g p o 0 0 ((k : Int) + 1) 0 k since) := Lib.hid (Obj1.kept h3.out hb4)
          have HB4 := Lib.hid (HB3.out.trans (hb4.mono HB3.out.size))
          clear h3 HB3 hb4
          go_wp2_with fail
          go_loopw [10] (fun i wr => LRel w g p o k i wr) (fun i _ => k - (intOf i).toNat)
          case atStart => exact ⟨0, 0, 0, (k : Int) + 1, k, since, by omega, rfl, by omega, s0, H4.out, HB4.out⟩
          case round =>
            clear H4 HB4
            obtain ⟨j, x, y, z, was, since, hj, rfl, hbd, s0, hr, hbel⟩ := hrel
            have HBD := Lib.hid hbd
            have HR := Lib.hid hr
            have HBEL := Lib.hid hbel
            clear hr hbel hbd
            by_cases hlt : j < k
            · have hkn : j < n := by omega
              have hk3 : j < 300 := by omega
              obtain ⟨a, off, rfl, hbs, hg0⟩ := HA.out.get hkn
              rw [List.getElem_map] at hg0
              obtain ⟨v, HV⟩ : ∃ v, Hid (bs[j]'(by rw [HLX.out]; exact hkn) = v) := ⟨_, Lib.hid rfl⟩
              rw [HV.out] at hg0
              have hc := (HBEL.out.cell (p := ⟨a, off + j, none⟩) hbs).trans hg0
              clear hg0
              obtain ⟨l3, HL3⟩ : ∃ l, Hid (setF 0 (p : Int) v = l) := ⟨_, Lib.hid rfl⟩
              obtain ⟨l4, HL4⟩ : ∃ l, Hid (setF l3 (o : Int) true = l) := ⟨_, Lib.hid rfl⟩
              have hl3 : l3 < 256 := by rw [← HL3.out]; exact setF_lt (by decide)
              have HL4' : Hid (setF (setF 0 (p : Int) v) (o : Int) true = l4) := Lib.hid (by rw [HL3.out, HL4.out])
              go_wp2_with fail
              refine (set_c 0 p v l3 (by decide) HL3 _).mono ?_
              rintro e w' ⟨rfl, rfl⟩
              go_wp2_with fail
              refine (set_c l3 o true l4 hl3 HL4 _).mono ?_
              rintro e w' ⟨rfl, rfl⟩
              go_wp2_with fail
              refine (see_few g p o j x y z was since v l4 hp ho HOP.out (by omega) HBD.out s0 HL4' _ HR.out).mono ?_
              rintro e w3 ⟨rfl, h3, hw3⟩
              have HB3 := Lib.hid (HBEL.out.trans (hw3.out.below hgx.out HBEL.out.size))
              clear hw3 HBEL HR hc
              go_wp2_with fail
              refine (run_any g true _ _ _ _ _ _ _ _ h3.out).mono ?_
              rintro e w' ⟨rfl, rfl⟩
              go_wp2_with fail
              refine (fell_c g true _ _ _ _ _ _ _ 0 (Lib.hid (by simp)) _ h3.out).mono ?_
              rintro e w' ⟨rfl, rfl⟩
              go_wp2_with fail
              refine (rose_c g true _ _ _ _ _ _ _ false (Lib.hid (by simp [roseB])) _ h3.out).mono ?_
              rintro e w4 ⟨rfl, hb4⟩
              have H4 : Hid (Hd w4 g p o (if v then x + 1 else 0) (y + 1) 0 0 0 since) := Lib.hid (Obj1.kept h3.out hb4)
              have HB4 := Lib.hid (HB3.out.trans (hb4.mono HB3.out.size))
              clear h3 HB3 hb4
              go_wp2_with fail
              go_roundw
              case rel => exact ⟨j + 1, if v then x + 1 else 0, y + 1, 0, 0, since, by omega, by go_num, by have := HBD.out; split <;> omega, s0, H4.out, HB4.out⟩
              case measure => simp [intOf]; omega
            · obtain rfl : j = k := by omega
              go_wp2_with (go_at_call 45; refine (one_any _).mono ?_; rintro e w7 ⟨rfl, hb7⟩)
              go_ret
              exact ⟨rfl, HBEL.out.trans (hb7.mono HBEL.out.size)⟩

theorem walk (li ot : Int) (A : Option Addr) (n c : Nat) (bs : List Bool) (w : World) (i0 : -9223372036854775808 ≤ li) (i1 : li ≤ 9223372036854775807) (j0 : -9223372036854775808 ≤ ot) (j1 : ot ≤ 9223372036854775807) (ha : Lst w A n (bs.map Value.bool)) (hnc : n ≤ c) (hcm : c ≤ maxLen) :
    Calls Try.prog 11 #[.int .i64 li, .int .i64 ot, .slice A n c] w fun e w' => e = .returned (.bool true) ∧ Below w.heap.size w w' := by
  unfold maxLen at hcm
  by_cases h : n ≤ 300
  · exact walk_in li ot A n c n bs w ha (by omega) (by omega)
  · exact walk_in li ot A n c 300 bs w ha (by omega) (by omega)

set_option maxRecDepth 100000 in
theorem lifted (os : Os) (started : os.Started) (H : Type) (enc : TypeId × Value → H) :
    ReturnsInHanded {} Try.checked os 11 .any (Rows.runsHoldSpec.pre6 enc Try.prog Try.f11 Rows.runsHoldRow.domain false) (Rows.runsHoldSpec.post enc Try.prog Try.f11 false true false false) := by
  refine returnsInHanded_of_change (C := Try.checked) own started (by kernel_rfl) Try.func11
    (ChangeSpec.witness6 (enc := enc) (C := Try.checked) false ⟨#[], #[.int .i64 0, .int .i64 0, .slice none 0 0], []⟩ 8 (by kernel_rfl) (by kernel_rfl) (by kernel_rfl) (by kernel_rfl)) ?_
  intro W base args ds gs before hval0 hW hcnd _
  have hval : ∀ (j : Nat) t v, Try.f11.params[j]? = some t → args[j]? = some v → Value.okWide Try.prog W .any base t v := hval0
  have hW' := hW
  obtain ⟨p, q, hA0, hV, rfl, hfz, hnd⟩ := hW
  have hA : DataW.TrodAll enc Try.prog W 0 (fun _ => true) true Try.f11.params.toList args.toList ds p := hA0
  rw [Try.params11] at hA hval
  obtain ⟨v0, vs0, d0, ds0, p0, q0, hargs, rfl, rfl, h0, r0⟩ := trodAll_cons hA
  obtain ⟨v1, vs1, d1, ds1, p1, q1, rfl, rfl, rfl, h1, r1⟩ := trodAll_cons r0
  obtain ⟨v2, vs2, d2, ds2, p2, q2, rfl, rfl, rfl, h2, r2⟩ := trodAll_cons r1
  obtain ⟨rfl, rfl, rfl⟩ := trodAll_nil r2
  obtain rfl : args = #[v0, v1, v2] := by cases args; simp_all
  obtain ⟨rfl, rfl⟩ := trodVars_none hV
  obtain ⟨li, rfl, rfl, rfl, wf0⟩ := open_int Try.underlying3 (hval 0 3 v0 rfl rfl) h0
  have bd0 := bounds_i64 wf0
  obtain ⟨ot, rfl, rfl, rfl, wf1⟩ := open_int Try.underlying3 (hval 1 3 v1 rfl rfl) h1
  have bd1 := bounds_i64 wf1
  have k2 := h2
  have lt2 : ∀ x ∈ p2, x.block < W.heap.size := by obtain ⟨m, hm⟩ := k2; exact DataW.trod_lt m _ _ _ hm
  obtain ⟨bsA, bsn, bsc, rfl⟩ := okWide_slice Try.underlying65 (hval 2 65 v2 rfl rfl)
  obtain ⟨bs, l2, cb2, cc2⟩ := lst_bools Try.underlying65 Try.underlying4 (by kernel_rfl) k2
  clear hA0 hval0
  refine (walk li ot bsA bsn bsc bs W bd0.1 bd0.2 bd1.1 bd1.2 l2 cb2 cc2).mono fun e W' ⟨he, bel⟩ => ?_
  subst he
  exact ⟨_, rfl, _, _, _, [], _, [], hW', trodAll_mk1 (shut_bool Try.underlying4 _), (trodAll_cons_mk (shut_int Try.underlying3 wf0) (trodAll_cons_mk (shut_int Try.underlying3 wf1) (trodAll_cons_mk (Below.trod laidOut (by kernel_rfl) (of_decide_eq_true (by kernel_rfl)) k2 bel lt2) trodAll_mk0))), rfl, bel.frame _, fun h => by cases h⟩

theorem over : Rows.runsHoldRow.holds Try.pinned (OpenSpec.ofChange Rows.runsHoldSpec) :=
  OpenClaim.holds_of_wide 11 Try.f11 rfl rfl rfl rfl rfl rfl rfl ⟨rfl, rfl, rfl, rfl, rfl⟩ rfl rfl rfl rfl rfl (by kernel_rfl) Try.func11 (by kernel_rfl)
    (of_decide_eq_true (by kernel_rfl)) (by unfold Func.isWrapper; first | (rw [if_pos (by decide +kernel)]; kernel_rfl) | (rw [if_neg (by decide +kernel)]; exact ⟨rfl, rfl⟩))
    (fun os started H enc _ => lifted os started H enc)

/-- The statement. -/
theorem proved : Rows.RunsHoldSaid := over
end Go.Proofs.Ytbhgnhbaimemmaa.lawRunsHold
