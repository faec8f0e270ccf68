/- The statements' own helper 'one' of layer 20, and a pattern that comes again. -/
import Derived.Test.YtnbconkefhoblaaFltC
import Derived.Test.YtnbconkefhoblaaObj
import Derived.Test.YtnbconkefhoblaaSh
namespace Go.Proofs.Ytnbconkefhoblaa.Ly20
open Go.ChangeShapes Go.WideShapes Go.ChangeAt Go.RowKit Base
set_option linter.unusedVariables false
set_option linter.unusedSimpArgs false

theorem lines_c (r : Nat) (kd md : Int) (fy : Bool) (ln fr : Int) (A : Option Addr) (n c : Nat) (l : Nat) (tk v : Int) (b : Bool) (w : World) (hr : linF kd ln l v b = r) (hl : l < 256) (ht : tk ≤ 9223372036854775807) (hv0 : 0 ≤ v) (hv1 : v ≤ 255) (h : AtR w kd fr A n tk v b) :
    Calls Try.prog 25 #[.agg #[.int .i64 kd, .int .i64 md, .bool fy, .int .i64 ln, .int .i64 fr, .slice A n c], .int .u8 l, .int .i64 tk] w fun e w' => e = .returned (.int .u8 r) ∧ Below w.heap.size w w' := by
  subst hr; exact lines_any kd md fy ln fr A n c l tk v b w hl ht hv0 hv1 h
theorem right_c (r : Int) (kd md : Int) (fy : Bool) (ln fr : Int) (A : Option Addr) (n c : Nat) (ms : Int) (w : World) (hr : rightF kd md ln fr n ms = r) (hn : n ≤ 9223372036854775807) :
    Calls Try.prog 20 #[.agg #[.int .i64 kd, .int .i64 md, .bool fy, .int .i64 ln, .int .i64 fr, .slice A n c], .int .i64 ms] w fun e w' => e = .returned (.int .i64 r) ∧ Below w.heap.size w w' := by
  subst hr; exact right_any kd md fy ln fr A n c ms w hn

theorem AtR.again {w : World} {kd fr tk v : Int} {A : Option Addr} {n : Nat} {b : Bool} (h : AtR w kd fr A n tk v b) (h0 : fr ≤ tk) (hn : 0 < n) : AtR w kd fr A n (tk + n) v b := by
  rcases h with ⟨h0, h1, h2, h3, h4, h5, blk, off, i, h6, h7, h8, h9⟩ | ⟨rfl, rfl, h⟩
  · exact .inl ⟨h0, h1, h2, by omega, h4, h5, blk, off, i, h6, by rw [show tk + (n : Int) - fr = tk - fr + n by omega, Int.add_emod_right]; exact h7, h8, h9⟩
  · exact .inr ⟨rfl, rfl, .inl (by omega)⟩
theorem AtR.ahead (w : World) {kd fr tk : Int} {A : Option Addr} {n : Nat} (h : tk < fr) : AtR w kd fr A n tk 0 false := .inr ⟨rfl, rfl, .inr (.inl h)⟩

set_option maxRecDepth 100000 in
set_option maxHeartbeats 1000000 in
theorem one_any (w : World) : Calls Try.prog 21 #[] w fun e w' => e = .returned (.bool true) ∧ Below w.heap.size w w' := by
  have hB : Below w.heap.size w ((w.alloc (.cells #[.int .u8 1] 5)).alloc (.cells #[.int .i64 1, .int .i64 0, .bool false, .int .i64 2, .int .i64 5, .slice (some ⟨w.heap.size, 0, none⟩) 1 1] 33)) :=
    ((Below.refl _ _).alloc (Nat.le_refl _) _).alloc (by simp) _
  have HB := Lib.hid hB
  clear hB
  go_enter Try.func21, Try.ntmps21
  go_wp2_with fail
  refine (lines_c 0 1 0 false 2 5 _ 1 1 0 4 0 false _ (by decide) (by decide) (by decide) (by decide) (by decide) (AtR.ahead _ (by decide))).mono ?_
  rintro e w1 ⟨rfl, hb1⟩
  obtain ⟨x, rfl⟩ := Kin.ex hb1
  obtain ⟨K0, K1, K2, K3, K4, K5⟩ := Kin.box6 (Below.refl _ ((w.alloc (.cells #[.int .u8 1] 5)).alloc (.cells #[.int .i64 1, .int .i64 0, .bool false, .int .i64 2, .int .i64 5, .slice (some ⟨w.heap.size, 0, none⟩) 1 1] 33)))
  have hz : (w.alloc (.cells #[.int .u8 1] 5)).heap.size = w.heap.size + 1 := by simp
  simp only [hz] at K0 K1 K2 K3 K4 K5
  clear hz
  have hcell : x.world.cell? ⟨w.heap.size, 0 + 0, none⟩ = some (.int .u8 1) := ((((Obj1.new w 5 #[.int .u8 1]).alloc _).kept x.below).cell 0)
  have HC := Lib.hid hcell
  clear hcell
  go_wp2_with fail
  refine (Calls.kin _ (lines_c 4 1 0 false 2 5 _ 1 1 0 5 1 true _ (by decide) (by decide) (by decide) (by decide) (by decide) (.inl ⟨rfl, .inl rfl, by decide, by decide, by decide, by decide, w.heap.size, 0, 0, rfl, by decide, by decide, HC.out⟩))).mono ?_; rintro e w' ⟨rfl, y21, rfl⟩
  go_wp2_with fail
  refine (Calls.kin _ (right_c 0 1 0 false 2 5 _ 1 1 2 _ (by decide) (by decide))).mono ?_; rintro e w' ⟨rfl, y22, rfl⟩
  go_wp2_with fail
  refine (Calls.kin _ (right_c 2 3 0 false 0 0 _ 0 0 2 _ (by decide) (by decide))).mono ?_; rintro e w' ⟨rfl, y23, rfl⟩
  go_wp2
  go_ret
  exact ⟨rfl, HB.out.trans ((Kin.below ‹_›).mono HB.out.size)⟩
/-- The shape of a fault. -/
def shF : Sh := .fld (.int .i64) (.fld (.int .i64) (.fld .bool (.fld (.int .i64) (.fld (.int .i64) (.fld (.sl (.int .u8)) .nil)))))
theorem grid_lst {w : World} {A : Option Addr} {n : Nat} {rows : List (List Value)} (hg : Grid w A n 1 rows) (hr : ∀ r ∈ rows, Reads w (.int .u8) r) : ∃ xs : List Int, Lst w A n (xs.map (Value.int .u8)) ∧ ∀ x ∈ xs, 0 ≤ x ∧ x ≤ 255 := by
  have hx : ∃ xs : List Int, rows = xs.map (fun x => [Value.int .u8 x]) ∧ ∀ x ∈ xs, 0 ≤ x ∧ x ≤ 255 := by
    clear hg
    induction rows with
    | nil => exact ⟨[], rfl, fun x hx => by cases hx⟩
    | cons r rs ih =>
      obtain ⟨xs, rfl, hx⟩ := ih (fun r hr' => hr r (by simp [hr']))
      obtain ⟨x, rfl, hw⟩ := hr r (by simp)
      exact ⟨x :: xs, rfl, fun y hy => by
        rcases List.mem_cons.1 hy with rfl | hy
        · exact bounds_u8 hw
        · exact hx y hy⟩
  obtain ⟨xs, rfl, hx⟩ := hx
  refine ⟨xs, ⟨by simpa using hg.1, fun hn => ?_⟩, hx⟩
  obtain ⟨b, off, e, hb, hc⟩ := hg.2 hn
  refine ⟨b, off, e, hb, fun k hk => ?_⟩
  have := hc k 0 hk (by omega)
  rw [show off + (k * 1 + 0) = off + k by omega] at this
  rw [this, List.getElem?_map, List.getElem?_map]
  cases xs[k]? <;> rfl
theorem readsF {w : World} {cs : Array Value} (h : Reads w shF cs.toList) :
    ∃ (kd md : Int) (fy : Bool) (ln fr : Int) (A : Option Addr) (n c : Nat) (xs : List Int), cs = #[.int .i64 kd, .int .i64 md, .bool fy, .int .i64 ln, .int .i64 fr, .slice A n c] ∧ Lst w A n (xs.map (Value.int .u8)) ∧ (∀ x ∈ xs, 0 ≤ x ∧ x ≤ 255) ∧ n ≤ c ∧ c ≤ maxLen ∧
      ((-9223372036854775808 ≤ kd ∧ kd ≤ 9223372036854775807) ∧ (-9223372036854775808 ≤ md ∧ md ≤ 9223372036854775807) ∧ (-9223372036854775808 ≤ ln ∧ ln ≤ 9223372036854775807) ∧ (-9223372036854775808 ≤ fr ∧ fr ≤ 9223372036854775807)) := by
  obtain ⟨_, _, e, ⟨kd, rfl, hk⟩, _, _, rfl, ⟨md, rfl, hm⟩, _, _, rfl, ⟨fy, rfl⟩, _, _, rfl, ⟨ln, rfl, hln⟩, _, _, rfl, ⟨fr, rfl, hf⟩, _, _, rfl, ⟨A, n, c, rows, rfl, hnc, hcm, hg, hr⟩, rfl⟩ := h
  obtain ⟨xs, hl, hx⟩ := grid_lst hg hr
  exact ⟨kd, md, fy, ln, fr, A, n, c, xs, by cases cs; simpa using e, hl, hx, hnc, hcm, bounds_i64 hk, bounds_i64 hm, bounds_i64 hln, bounds_i64 hf⟩
end Go.Proofs.Ytnbconkefhoblaa.Ly20
