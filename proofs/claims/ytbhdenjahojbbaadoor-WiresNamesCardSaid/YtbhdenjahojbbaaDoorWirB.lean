/- The contracts of package wires' Pulse, Side, Or, Says, Drive: what they tell of lines, as numbers below 256. -/
import Derived.Test.YtbhdenjahojbbaaDoorWirN
import Derived.Deep.RegionHeld3
import Derived.Outline
namespace Go.Proofs.YtbhdenjahojbbaaDoor.Ly3
open Go.ChangeShapes Go.WideShapes Go.ChangeAt Go.RowKit Base
set_option linter.unusedVariables false
set_option linter.unusedSimpArgs false

/-- The table of the lines. -/
def Up (w : World) : Prop := w.cell? ⟨0, 0, none⟩ = some (.bool true) ∧ w.cell? ⟨0, 1, none⟩ = some (.bool false) ∧ w.cell? ⟨0, 2, none⟩ = some (.bool false) ∧ w.cell? ⟨0, 3, none⟩ = some (.bool true)
theorem Up.kept {w w' : World} (h : Up w) (hb : Below w.heap.size w w') : Up w' := by
  obtain ⟨h0, h1, h2, h3⟩ := h
  have hlt : 0 < w.heap.size := World.block_lt_of_cell? w _ h0
  exact ⟨(hb.cell (p := ⟨0, 0, none⟩) hlt).trans h0, (hb.cell (p := ⟨0, 1, none⟩) hlt).trans h1, (hb.cell (p := ⟨0, 2, none⟩) hlt).trans h2, (hb.cell (p := ⟨0, 3, none⟩) hlt).trans h3⟩
theorem Up.lt {w : World} (h : Up w) : 0 < w.heap.size := World.block_lt_of_cell? w _ h.1

def pulseF (y : Bool) : Nat := if y then 12 else 3
theorem pulse_any (y : Bool) (w : World) : Calls Tryd.prog 17 #[.bool y] w fun e w' => e = .returned (.int .u8 (pulseF y)) ∧ w = w' := by
  cases y
  all_goals
    go_enter Tryd.func17, Tryd.ntmps17
    go_wp2
    go_ret
    exact ⟨rfl, rfl⟩
theorem side_any (l : Nat) (y : Bool) (w : World) (hl : l < 256) : Calls Tryd.prog 16 #[.int .u8 l, .bool y] w fun e w' => e = .returned (.int .u8 (l &&& pulseF y : Nat)) ∧ w = w' := by
  have e := u8_and_nat l (pulseF y) hl (by cases y <;> decide)
  have l0 : (0 : Int) ≤ (l : Int) := by omega
  have l1 : (l : Int) ≤ 255 := by omega
  go_enter Tryd.func16, Tryd.ntmps16
  go_wp2_with (go_at_call 17; refine (pulse_any _ _).mono ?_; rintro e w' ⟨rfl, rfl⟩)
  go_ret
  exact ⟨rfl, rfl⟩

def orL (xs : List Nat) : Nat := xs.foldl (· ||| ·) 0
theorem orL_snoc (xs : List Nat) (k : Nat) (hk : k < xs.length) : orL (xs.take (k + 1)) = orL (xs.take k) ||| xs[k] := by
  unfold orL
  rw [List.take_succ_eq_append_getElem hk, List.foldl_append]; rfl
theorem orL_lt (xs : List Nat) (h : ∀ x ∈ xs, x < 256) : orL xs < 256 := by
  unfold orL
  have aux : ∀ (ys : List Nat) (a : Nat), a < 256 → (∀ x ∈ ys, x < 256) → ys.foldl (· ||| ·) a < 256 := by
    intro ys
    induction ys with
    | nil => intro a ha _; exact ha
    | cons y r ih => intro a ha hy; exact ih _ (Nat.or_lt_two_pow (n := 8) ha (hy y (by simp))) (fun x hx => hy x (by simp [hx]))
  exact aux xs 0 (by decide) h

set_option maxHeartbeats 1000000 in
theorem or_any (A : Option Addr) (n c : Nat) (xs : List Nat) (w : World) (hl : Lst w A n (xs.map fun (x : Nat) => Value.int .u8 x)) (hx : ∀ x ∈ xs, x < 256) (hn : n ≤ 1000000) :
    Calls Tryd.prog 15 #[.slice A n c] w fun e w' => e = .returned (.int .u8 (orL xs &&& 15 : Nat)) ∧ w = w' := by
  have hln : xs.length = n := by simpa using hl.1
  have HLN := Lib.hid hln
  have HX := Lib.hid hx
  clear hln hx
  go_enter Tryd.func15, Tryd.ntmps15
  go_wp2
  go_loop [3, 8] (fun s i => ∃ k : Nat, k ≤ n ∧ i = .int .i64 k ∧ s = .int .u8 (orL (xs.take k))) (fun _ i => n - (intOf i).toNat)
  case atStart => exact ⟨0, by omega, rfl, rfl⟩
  case round =>
    obtain ⟨k, hk, rfl, rfl⟩ := hrel
    have hs := orL_lt (xs.take k) (fun x hx => HX.out x (List.mem_of_mem_take hx))
    by_cases hlt : k < n
    · obtain ⟨b, off, rfl, _, hc⟩ := hl.get hlt
      rw [List.getElem_map] at hc
      have hkl : k < xs.length := by rw [HLN.out]; exact hlt
      have hv := HX.out _ (List.getElem_mem hkl)
      have HS := Lib.hid (orL_snoc xs k hkl)
      obtain ⟨v, HV⟩ : ∃ v, Hid (xs[k]'hkl = v) := ⟨_, Lib.hid rfl⟩
      obtain ⟨s, HSS⟩ : ∃ s, Hid (orL (xs.take k) = s) := ⟨_, Lib.hid rfl⟩
      rw [HV.out] at hc hv
      rw [HSS.out] at hs ⊢
      have e := u8_or_nat s v hs hv
      have s0 : (0 : Int) ≤ (s : Int) := by omega
      have s1 : (s : Int) ≤ 255 := by omega
      have v0 : (0 : Int) ≤ (v : Int) := by omega
      have v1 : (v : Int) ≤ 255 := by omega
      go_wp2
      go_round
      case rel => exact ⟨k + 1, by omega, by go_num, by rw [HS.out, HSS.out, HV.out]⟩
      case measure => simp [intOf]; omega
    · obtain rfl : k = n := by omega
      obtain ⟨s, HSS⟩ : ∃ s, Hid (orL (xs.take k) = s) := ⟨_, Lib.hid rfl⟩
      rw [HSS.out] at hs ⊢
      have e := u8_and_nat s 15 hs (by decide)
      have s0 : (0 : Int) ≤ (s : Int) := by omega
      have s1 : (s : Int) ≤ 255 := by omega
      simp at e
      have HE : Hid (orL xs = s) := by
        show orL xs = s
        rw [← HSS.out, List.take_of_length_le (by rw [HLN.out]; exact Nat.le_refl _)]
      go_wp2
      go_ret
      exact ⟨by rw [HE.out]; rfl, rfl⟩

/-- What a line says. -/
def said (l k : Nat) : Bool := hb l k == (k == 0 || k == 3)
def saysC (l k : Nat) : Array Value := #[.bool (if 0 < k then said l 0 else false), .bool (if 1 < k then said l 1 else false), .bool (if 2 < k then said l 2 else false), .bool (if 3 < k then said l 3 else false)]

set_option maxHeartbeats 2000000 in
theorem says_any (l : Nat) (w : World) (hl : l < 256) (hU : Up w) :
    Calls Tryd.prog 8 #[.int .u8 l] w fun e w' => e = .returned (.agg #[.bool (said l 0), .bool (said l 1), .bool (said l 2), .bool (said l 3)]) ∧ Below w.heap.size w w' := by
  have hUl := hU.lt
  have HU := Lib.hid hU
  clear hU
  have HO : Hid (Obj1 ((w.alloc (.cells #[.bool false, .bool false, .bool false, .bool false] 23)).alloc (.cells #[.bool false, .bool false, .bool false, .bool false] 23)) (w.heap.size + 1) 23 (saysC l 0)) := by
    have := Obj1.new (w.alloc (.cells #[.bool false, .bool false, .bool false, .bool false] 23)) 23 #[.bool false, .bool false, .bool false, .bool false]
    exact Lib.hid (by simpa [saysC] using this)
  have HR : Hid (Obj1 ((w.alloc (.cells #[.bool false, .bool false, .bool false, .bool false] 23)).alloc (.cells #[.bool false, .bool false, .bool false, .bool false] 23)) w.heap.size 23 #[.bool false, .bool false, .bool false, .bool false]) := (Obj1.new _ _ _).alloc _
  go_enter Tryd.func8, Tryd.ntmps8
  go_wp2
  go_loopw [5] (fun i wr => ∃ k : Nat, k ≤ 4 ∧ i = .int .i64 k ∧ Obj1 wr w.heap.size 23 #[.bool false, .bool false, .bool false, .bool false] ∧ Obj1 wr (w.heap.size + 1) 23 (saysC l k) ∧ Below w.heap.size w wr) (fun i _ => 4 - (intOf i).toNat)
  case atStart => exact ⟨0, by omega, rfl, HR.out, HO.out, Go.Joins.below_alloc2 _ _ _⟩
  case round =>
    obtain ⟨k, hk, rfl, hor, hob, hbel⟩ := hrel
    have HOR := Lib.hid hor
    clear hor
    have hbl := hob.lt
    rcases (show k = 0 ∨ k = 1 ∨ k = 2 ∨ k = 3 ∨ k = 4 by omega) with rfl | rfl | rfl | rfl | rfl
    · have hup := (HU.out.kept hbel).1
      have hcc := hob.cell 0
      have hff := hob.free 0
      simp [saysC] at hcc
      have HOB := Lib.hid hob
      clear hob
      go_wp2
      go_region_held3 (fun w' => w'.cell? ⟨0, 0, none⟩ = some (.bool true)) (first | go_keep | assumption) (first | (go_at_call 9; refine (high_at l 0 _ hl (by omega)).mono ?_; rintro e wa ⟨rfl, rfl⟩))
      go_wp2
      go_roundw
      case rel => exact ⟨1, by omega, rfl, (HOR.out.far _ (by simp) _).drew, by have := Obj1.drew (Obj1.set HOB.out 0 (.bool (said l 0))); simpa [saysC, said] using this, (hbel.setCell (by simp) _).drew⟩
      case measure => simp [intOf]
    · have hup := (HU.out.kept hbel).2.1
      have hcc := hob.cell 1
      have hff := hob.free 1
      simp [saysC] at hcc
      have HOB := Lib.hid hob
      clear hob
      go_wp2
      go_region_held3 (fun w' => w'.cell? ⟨0, 1, none⟩ = some (.bool false)) (first | go_keep | assumption) (first | (go_at_call 9; refine (high_at l 1 _ hl (by omega)).mono ?_; rintro e wa ⟨rfl, rfl⟩))
      go_wp2
      go_roundw
      case rel => exact ⟨2, by omega, rfl, (HOR.out.far _ (by simp) _).drew, by have := Obj1.drew (Obj1.set HOB.out 1 (.bool (said l 1))); simpa [saysC, said] using this, (hbel.setCell (by simp) _).drew⟩
      case measure => simp [intOf]
    · have hup := (HU.out.kept hbel).2.2.1
      have hcc := hob.cell 2
      have hff := hob.free 2
      simp [saysC] at hcc
      have HOB := Lib.hid hob
      clear hob
      go_wp2
      go_region_held3 (fun w' => w'.cell? ⟨0, 2, none⟩ = some (.bool false)) (first | go_keep | assumption) (first | (go_at_call 9; refine (high_at l 2 _ hl (by omega)).mono ?_; rintro e wa ⟨rfl, rfl⟩))
      go_wp2
      go_roundw
      case rel => exact ⟨3, by omega, rfl, (HOR.out.far _ (by simp) _).drew, by have := Obj1.drew (Obj1.set HOB.out 2 (.bool (said l 2))); simpa [saysC, said] using this, (hbel.setCell (by simp) _).drew⟩
      case measure => simp [intOf]
    · have hup := (HU.out.kept hbel).2.2.2
      have hcc := hob.cell 3
      have hff := hob.free 3
      simp [saysC] at hcc
      have HOB := Lib.hid hob
      clear hob
      go_wp2
      go_region_held3 (fun w' => w'.cell? ⟨0, 3, none⟩ = some (.bool true)) (first | go_keep | assumption) (first | (go_at_call 9; refine (high_at l 3 _ hl (by omega)).mono ?_; rintro e wa ⟨rfl, rfl⟩))
      go_wp2
      go_roundw
      case rel => exact ⟨4, by omega, rfl, (HOR.out.far _ (by simp) _).drew, by have := Obj1.drew (Obj1.set HOB.out 3 (.bool (said l 3))); simpa [saysC, said] using this, (hbel.setCell (by simp) _).drew⟩
      case measure => simp [intOf]
    · have hc0 := hob.cell 0
      have hc1 := hob.cell 1
      have hc2 := hob.cell 2
      have hc3 := hob.cell 3
      simp [saysC] at hc0 hc1 hc2 hc3
      have HOB := Lib.hid hob
      clear hob
      have hr0 := HOR.out.cell 0
      have hr1 := HOR.out.cell 1
      have hr2 := HOR.out.cell 2
      have hr3 := HOR.out.cell 3
      have hf0 := HOR.out.free 0
      have hf1 := HOR.out.free 1
      have hf2 := HOR.out.free 2
      have hf3 := HOR.out.free 3
      simp at hr0 hr1 hr2 hr3
      go_wp2
      refine bodyPost_ret (v := .agg #[.bool (said l 0), .bool (said l 1), .bool (said l 2), .bool (said l 3)]) (by simp [results, Tryd.results8, go_sem, hr0, hr1, hr2, hr3]) rfl ⟨rfl, ?_⟩
      repeat (first | exact Below.refl _ _ | refine Below.setCell ?_ (by first | omega | (simp; done) | (simp; omega) | (have := hbel.size; simp at this ⊢; omega)) _ | refine Below.alloc ?_ (by first | omega | (simp; done) | (simp; omega) | (have := hbel.size; simp at this ⊢; omega)) _ | refine below_drewN' ?_ _ | refine Below.drew ?_ | refine Below.trans ?_ (hbel.mono (by first | omega | (simp; done) | (simp; omega) | (have := hbel.size; simp at this ⊢; omega))))
end Go.Proofs.YtbhdenjahojbbaaDoor.Ly3
