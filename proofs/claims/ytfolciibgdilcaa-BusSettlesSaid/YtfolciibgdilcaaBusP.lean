/- What the lines stand like, by the document of layers 3, 20 and 24: plain numbers, and the contracts of the document's High and Stands; no condition. -/
import Derived.Test.YtfolciibgdilcaaBusO
namespace Go.Proofs.Ytfolciibgdilcaa.Ly20
open Go.ChangeShapes Go.WideShapes Go.ChangeAt Go.RowKit Base
set_option linter.unusedVariables false
set_option linter.unusedSimpArgs false

/-- How a line should stand. -/
def wantF (kd ln : Int) (l v : Nat) (b : Bool) (k : Nat) : Bool := if b = true ∧ kd = 1 ∧ (k : Int) = ln ∧ v % 4 < 2 then v % 4 == 1 else Ly3.hb l k
theorem hb_bit (l k : Nat) : Ly3.hb l k = Nat.testBit l k := by
  unfold Ly3.hb
  rw [Nat.testBit_eq_decide_div_mod_eq, Bool.eq_iff_iff]
  simp
theorem hb_set (l : Nat) (i : Int) (h : Bool) (k : Nat) (hl : l < 256) (hk : k < 4) : Ly3.hb (Ly3.setF l i h) k = if (k : Int) = i then h else Ly3.hb l k := by
  unfold Ly3.setF
  by_cases hi : 0 ≤ i ∧ i ≤ 3
  · obtain ⟨j, rfl⟩ : ∃ j : Nat, i = j := ⟨i.toNat, by omega⟩
    rw [if_pos hi]
    simp only [Int.toNat_natCast]
    have hj : j < 4 := by omega
    have c255 : (255 : Nat) - 2 ^ j = 255 ^^^ 2 ^ j := by
      rcases (show j = 0 ∨ j = 1 ∨ j = 2 ∨ j = 3 by omega) with rfl | rfl | rfl | rfl <;> decide
    cases h
    · simp only [Bool.false_eq_true, if_false]
      rw [hb_bit, Nat.testBit_and, c255, Nat.testBit_xor, Nat.testBit_two_pow, ← hb_bit]
      have : Nat.testBit 255 k = true := by rcases (show k = 0 ∨ k = 1 ∨ k = 2 ∨ k = 3 by omega) with rfl | rfl | rfl | rfl <;> decide
      rw [this]
      by_cases e : k = j
      · subst e; simp
      · rw [if_neg (by omega)]; simp [show ¬ j = k from fun h => e h.symm]
    · simp only [if_true]
      rw [hb_bit, Nat.testBit_or, Nat.testBit_two_pow, ← hb_bit]
      by_cases e : k = j
      · subst e; simp
      · rw [if_neg (by omega)]; simp [show ¬ j = k from fun h => e h.symm]
  · rw [if_neg hi, if_neg (by omega)]
theorem hb_lin (kd ln : Int) (l v : Nat) (b : Bool) (k : Nat) (hl : l < 256) (hk : k < 4) : Ly3.hb (linF kd ln l v b) k = wantF kd ln l v b k := by
  unfold linF wantF
  by_cases h1 : kd = 1 ∧ b = true
  · rw [if_pos h1]
    by_cases h2 : (v : Int) % 4 = 0
    · rw [if_pos h2, hb_set l ln false k hl hk]
      by_cases h3 : (k : Int) = ln
      · rw [if_pos h3, if_pos ⟨h1.2, h1.1, h3, by omega⟩]; simp; omega
      · rw [if_neg h3, if_neg (fun h => h3 h.2.2.1)]
    · rw [if_neg h2]
      by_cases h4 : (v : Int) % 4 = 1
      · rw [if_pos h4, hb_set l ln true k hl hk]
        by_cases h3 : (k : Int) = ln
        · rw [if_pos h3, if_pos ⟨h1.2, h1.1, h3, by omega⟩]; simp; omega
        · rw [if_neg h3, if_neg (fun h => h3 h.2.2.1)]
      · rw [if_neg h4, if_neg (fun h => by have := h.2.2.2; omega)]
  · rw [if_neg h1, if_neg (fun h => h1 ⟨h.2.1, h.1⟩)]


theorem setF16 {l : Nat} {i : Int} {h : Bool} (hl : l < 16) : Ly3.setF l i h < 16 := by
  unfold Ly3.setF
  split
  · rename_i hi
    split
    · refine Nat.or_lt_two_pow (n := 4) hl ?_
      exact Nat.pow_lt_pow_right (by omega) (by omega)
    · have := @Nat.and_le_left l (255 - 2 ^ i.toNat)
      omega
  · exact hl
theorem linF16 {kd ln : Int} {l : Nat} {v : Int} {b : Bool} (hl : l < 16) : linF kd ln l v b < 16 := by
  unfold linF
  split
  · split
    · exact setF16 hl
    · split
      · exact setF16 hl
      · exact hl
  · exact hl
end Go.Proofs.Ytfolciibgdilcaa.Ly20
namespace Go.Proofs.Ytfolciibgdilcaa.Ly3
open Go.ChangeShapes Go.WideShapes Go.ChangeAt Go.RowKit Base
set_option linter.unusedVariables false
set_option linter.unusedSimpArgs false
theorem rhigh_no (l : Nat) (i : Int) (w : World) (h : i < 0 ∨ 3 < i) : Calls Try.prog 11 #[.int .i64 l, .int .i64 i] w fun e w' => e = .returned (.bool false) ∧ w = w' := by
  rcases (show i < 0 ∨ (0 ≤ i ∧ 3 < i) by omega) with g | ⟨g, g1⟩
  all_goals
    go_enter Try.func11, Try.ntmps11
    go_wp2
    go_ret
    exact ⟨by first | rfl | (simp; done) | (simp; omega), rfl⟩
theorem ret_bool {a b : Bool} (h : a = b) : Ending.returned (Value.bool a) = Ending.returned (Value.bool b) := by rw [h]
theorem rhigh_at (l k : Nat) (w : World) (hl : l < 256) (hk : k < 4) : Calls Try.prog 11 #[.int .i64 l, .int .i64 k] w fun e w' => e = .returned (.bool (hb l k)) ∧ w = w' := by
  have l0 : (0 : Int) ≤ (l : Int) := by omega
  have l1 : (l : Int) ≤ 255 := by omega
  rcases (show k = 0 ∨ k = 1 ∨ k = 2 ∨ k = 3 by omega) with rfl | rfl | rfl | rfl
  all_goals
    go_enter Try.func11, Try.ntmps11
    go_wp2
    go_ret
    exact ⟨ret_bool (by unfold hb; rw [Bool.eq_iff_iff]; simp; omega), rfl⟩

end Go.Proofs.Ytfolciibgdilcaa.Ly3
namespace Go.Proofs.Ytfolciibgdilcaa.Ly24
open Go.ChangeShapes Go.WideShapes Go.ChangeAt Go.RowKit Base Go.Deep
set_option linter.unusedVariables false
set_option linter.unusedSimpArgs false

def stF (d f : Bool) (v : Nat) : Bool := if f = true ∧ v % 4 < 2 then v % 4 == 1 else d
theorem ret_b {a b : Bool} (h : a = b) : Ending.returned (Value.bool a) = Ending.returned (Value.bool b) := by rw [h]
theorem ret_beq (r : Nat) : ((r : Int) == 1) = (r == 1) := by
  rw [Bool.eq_iff_iff]
  simp
  omega
theorem stands_any (d f : Bool) (v : Nat) (w : World) (hv : v < 256) : Calls Try.prog 13 #[.bool d, .bool f, .int .i64 v] w fun e w' => e = .returned (.bool (stF d f v)) ∧ w = w' := by
  obtain ⟨r, hr⟩ : ∃ r, v % 4 = r := ⟨_, rfl⟩
  have hri : (v : Int) % 4 = (r : Int) := by omega
  have hb := ret_beq r
  cases f
  · have HQ : Hid (stF d false v = d) := Lib.hid (by unfold stF; simp)
    rw [HQ.out]
    clear hr
    go_enter Try.func13, Try.ntmps13
    go_wp2
    go_ret
    exact ⟨rfl, rfl⟩
  · by_cases h2 : r < 2
    · have HQ : Hid (stF d true v = (r == 1)) := Lib.hid (by unfold stF; rw [hr, if_pos ⟨rfl, h2⟩])
      rw [HQ.out]
      have h2i : (r : Int) < 2 := by omega
      obtain ⟨q, HQQ⟩ : ∃ q, Hid ((r == 1) = q) := ⟨_, Lib.hid rfl⟩
      rw [HQQ.out] at hb ⊢
      clear hr
      go_enter Try.func13, Try.ntmps13
      go_wp2
      go_ret
      exact ⟨rfl, rfl⟩
    · have HQ : Hid (stF d true v = d) := Lib.hid (by unfold stF; rw [hr, if_neg (fun h => h2 h.2)])
      rw [HQ.out]
      have h2i : ¬ (r : Int) < 2 := by omega
      clear hr
      go_enter Try.func13, Try.ntmps13
      go_wp2
      go_ret
      exact ⟨rfl, rfl⟩
theorem i64_orN (a b : Nat) (ha : a < 65536) (hb : b < 65536) : Go.bits BinOp.or IntKind.i64 (a : Int) (b : Int) = ((a ||| b : Nat) : Int) := by
  have h : (BitVec.ofInt 64 (a : Int) ||| BitVec.ofInt 64 (b : Int)).toNat = a ||| b := by
    rw [BitVec.toNat_or]
    have e1 : (BitVec.ofInt 64 (a : Int)).toNat = a := by simp; omega
    have e2 : (BitVec.ofInt 64 (b : Int)).toNat = b := by simp; omega
    rw [e1, e2]
  have hlt : a ||| b < 65536 := by
    have h2 : a ||| b < 2 ^ 16 := Nat.or_lt_two_pow (by omega) (by omega)
    omega
  show IntKind.i64.wrap ((BitVec.ofInt 64 (a : Int) ||| BitVec.ofInt 64 (b : Int)).toNat : Int) = _
  rw [h]
  simp only [IntKind.wrap, IntKind.bits, IntKind.signed]
  simp
  omega
theorem or_mod {d l : Nat} (hd : d < 16) : (d ||| l) &&& 15 = d ||| l % 16 := by
  rw [Nat.and_or_distrib_right, and15 hd, show (15 : Nat) = 2 ^ 4 - 1 from rfl, Nat.and_two_pow_sub_one_eq_mod]
theorem talk_eq {d : Nat} (hd : d < 16) (h0 : d ≠ 0) : talk d = (decide (d % 4 ≠ 3) && decide (d / 4 ≠ 3)) := by
  have h : ∀ d : Fin 16, d.1 ≠ 0 → talk d.1 = (decide (d.1 % 4 ≠ 3) && decide (d.1 / 4 ≠ 3)) := by decide
  exact h ⟨d, hd⟩ h0
theorem tlk_pre (dv : List Nat) (m : Nat) : ∀ k, tlk dv m <+: tlk dv (m + k)
  | 0 => List.prefix_rfl
  | k + 1 => by
    have ih := tlk_pre dv m k
    rw [show m + (k + 1) = m + k + 1 by omega, tlk_succ]
    split
    · exact ih.trans (List.prefix_append _ _)
    · exact ih
theorem tlk_at {dv : List Nat} {m n : Nat} (hm : m < n) (ht : talk (dv.getD m 0) = true) : (tlk dv n)[(tlk dv m).length]? = some m := by
  obtain ⟨k, rfl⟩ : ∃ k, n = m + 1 + k := ⟨n - (m + 1), by omega⟩
  obtain ⟨s, hs⟩ := tlk_pre dv (m + 1) k
  rw [tlk_succ, if_pos ht] at hs
  rw [← hs, List.append_assoc, List.getElem?_append_right (Nat.le_refl _), Nat.sub_self]
  rfl
/-- Is a line driven by one of the first m? -/
def hitF (ds : List Nat) (k m : Nat) : Bool := (List.range m).any fun j => Ly3.hb (ds.getD j 0) k
theorem hitF_succ (ds : List Nat) (k m : Nat) : hitF ds k (m + 1) = (hitF ds k m || Ly3.hb (ds.getD m 0) k) := by
  unfold hitF
  rw [List.range_succ, List.any_append]
  simp
theorem fold_hb (k : Nat) : ∀ (l : List Nat) (a : Nat), Ly3.hb (l.foldl (· ||| ·) a) k = (Ly3.hb a k || l.any fun d => Ly3.hb d k)
  | [], a => by simp
  | d :: l, a => by
    rw [List.foldl_cons, fold_hb k l, List.any_cons, Ly20.hb_bit, Nat.testBit_or, ← Ly20.hb_bit, ← Ly20.hb_bit, Bool.or_assoc]
theorem hit_all {ds : List Nat} {k n : Nat} (hl : ds.length = 16) (hn : n ≤ 16) (hz : ∀ m, n ≤ m → ds.getD m 0 = 0) (hk : k < 4) : hitF ds k n = Ly3.hb (allL ds) k := by
  have h1 : Ly3.hb (allL ds) k = ds.any fun d => Ly3.hb d k := by
    have h0 : Ly3.hb 0 k = false := by unfold Ly3.hb; simp
    have h15 : Nat.testBit 15 k = true := by rcases (show k = 0 ∨ k = 1 ∨ k = 2 ∨ k = 3 by omega) with rfl | rfl | rfl | rfl <;> decide
    unfold allL Ly3.orL
    rw [Ly20.hb_bit, Nat.testBit_and, h15, Bool.and_true, ← Ly20.hb_bit, fold_hb, h0, Bool.false_or]
  rw [h1, Bool.eq_iff_iff]
  unfold hitF
  rw [List.any_eq_true, List.any_eq_true]
  constructor
  · rintro ⟨j, hj, h⟩
    rw [List.mem_range] at hj
    refine ⟨ds[j]'(by omega), List.getElem_mem _, ?_⟩
    rw [List.getD_eq_getElem?_getD, List.getElem?_eq_getElem (by omega)] at h
    exact h
  · rintro ⟨d, hd, h⟩
    obtain ⟨j, hj, rfl⟩ := List.getElem_of_mem hd
    have hg : ds.getD j 0 = ds[j] := by rw [List.getD_eq_getElem?_getD, List.getElem?_eq_getElem hj]; rfl
    refine ⟨j, ?_, by rw [hg]; exact h⟩
    rw [List.mem_range]
    rcases Nat.lt_or_ge j n with h' | h'
    · exact h'
    · have := hz j h'
      rw [hg] at this
      rw [this] at h
      have h0 : Ly3.hb 0 k = false := by unfold Ly3.hb; simp
      rw [h0] at h
      cases h
/-- A tick's puts, as they come in. -/
structure TickIn where
  A : Option Addr
  n : Nat
  c : Nat
  ps : Puts
def TicksAt (w : World) (A : Option Addr) (n : Nat) (ts : List TickIn) : Prop :=
  ts.length = n ∧ (0 < n → ∃ b off, A = some ⟨b, off, none⟩ ∧ b < w.heap.size ∧ ∀ i t, ts[i]? = some t → w.cell? ⟨b, off + i, none⟩ = some (.slice t.A t.n t.c)) ∧
    ∀ t ∈ ts, PutsAt w t.A t.n t.ps ∧ (∀ p ∈ t.ps, p.2 < 256) ∧ t.n ≤ 9223372036854775807
theorem ticks_of {w : World} {A : Option Addr} {n : Nat} {rows : List (List Value)} (hg : Grid w A n (Sh.size (.sl shP)) rows) (hr : ∀ r ∈ rows, Reads w (.sl shP) r) : ∃ ts, TicksAt w A n ts := by
  have hx : ∃ ts : List TickIn, rows = ts.map (fun t => [Value.slice t.A t.n t.c]) ∧ ∀ t ∈ ts, PutsAt w t.A t.n t.ps ∧ (∀ p ∈ t.ps, p.2 < 256) ∧ t.n ≤ 9223372036854775807 := by
    clear hg
    induction rows with
    | nil => exact ⟨[], rfl, (fun x hx => by cases hx)⟩
    | cons r rs ih =>
      obtain ⟨xs, rfl, hx⟩ := ih (fun r hr' => hr r (by simp [hr']))
      obtain ⟨B, k, d, rws, rfl, hkd, hdm, hg, hrr⟩ := hr r (by simp)
      obtain ⟨ps, hp, hb, _⟩ := puts_of hg hrr
      unfold maxLen at hdm
      refine ⟨⟨B, k, d, ps⟩ :: xs, rfl, fun t ht => ?_⟩
      rcases List.mem_cons.1 ht with rfl | ht
      · exact ⟨hp, hb, by show k ≤ _; omega⟩
      · exact hx t ht
  obtain ⟨ts, rfl, hx⟩ := hx
  refine ⟨ts, by simpa using hg.1, fun hn => ?_, hx⟩
  obtain ⟨b, off, e, hb, hc⟩ := hg.2 hn
  refine ⟨b, off, e, hb, fun i t ht => ?_⟩
  have hi : i < n := by have := (List.getElem?_eq_some_iff.1 ht).1; have := hg.1; simp at this; omega
  have h0 := hc i 0 hi (by show 0 < 1; omega)
  rw [List.getElem?_map, ht] at h0
  have e0 : off + (i * Sh.size (.sl shP) + 0) = off + i := by show off + (i * 1 + 0) = _; omega
  rw [e0] at h0
  exact h0
end Go.Proofs.Ytfolciibgdilcaa.Ly24
