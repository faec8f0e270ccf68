/- Each side drives for each level, and for a pulse, what the document says, and any lines are parted by sides, and put together, as it says: for every input; no condition but that the table of the lines is as the program's text lays it, which the card ties. -/
import Derived.Test.YtbhdenjahojbbaaDoorWirD
import Derived.Test.YtbhdenjahojbbaaDoorSh
import Derived.Test.YtbhdenjahojbbaaDoorTie
import Derived.Test.YtbhdenjahojbbaaDoorCards
import Derived.Test.YtbhdenjahojbbaaDoorLaid
import Derived.LaidMore
import Derived.SevenTiedAt
import Derived.Stop.Joined
import Derived.Test.YtbhdenjahojbbaaDoorRows
import Derived.WalkKit
import Derived.ProofKit
import Derived.OpenShut
import Derived.ShutString
import Derived.ChangeOld
import Derived.Below
namespace Go.Proofs.YtbhdenjahojbbaaDoor.lawWiresDrive
open Go.ChangeShapes Go.WideShapes Go.ChangeAt Go.RowKit Base
open Go.ChangeMaps (open_string shut_string)
set_option linter.unusedVariables false
set_option linter.unusedSimpArgs false
theorem own : ownKnob Tryd.prog.godebug = none := by kernel_rfl
theorem laidOut : laidOutB Tryd.prog = true := by kernel_rfl
open Ly3

theorem gUp : Tryd.prog.globalNamed "busbar/wires.upright" = some 0 := by kernel_rfl
theorem tUp : (Tryd.prog.globals[0]?).map (·.type) = some 23 := by kernel_rfl
theorem of_laid {W : World} (h : laidMetH Tryd.prog Rows.wiresDriveRow.laid W) : Up W := by
  rw [MakeChecks.laidMetH_plain _ _ _ (by kernel_rfl)] at h
  obtain ⟨ps, ⟨g0, t0, cs0, f0, p0, q0, hg0, ht0, hv0, hd0, _, _⟩, _, _⟩ := h
  obtain rfl := Option.some.inj (gUp.symm.trans hg0)
  obtain rfl := Option.some.inj (tUp.symm.trans ht0)
  have e := exact_cells (sh := .ar 4 .bool) 10 rfl (by kernel_rfl) hd0 rfl
  obtain ⟨l0⟩ := cs0
  simp at e
  subst e
  exact ⟨by simpa using World.var?_cell hg0 hv0 0, by simpa using World.var?_cell hg0 hv0 1, by simpa using World.var?_cell hg0 hv0 2, by simpa using World.var?_cell hg0 hv0 3⟩

def JRel (i : Value) : Prop := ∃ k : Nat, k ≤ 4 ∧ i = .int .i64 k
def anyH (xs : List Nat) (i : Nat) : Bool := xs.any (fun x => hb x i)
def WRel (xs : List Nat) (n i : Nat) (wnt j : Value) : Prop := ∃ k : Nat, k ≤ n ∧ wnt = .bool (anyH (xs.take k) i) ∧ j = .int .i64 k
theorem anyH_snoc (xs : List Nat) (j i : Nat) (h : j < xs.length) : anyH (xs.take (j + 1)) i = (anyH (xs.take j) i || hb xs[j] i) := by
  unfold anyH
  rw [List.take_succ_eq_append_getElem h, List.any_append]; simp
theorem hb_and (a b k : Nat) : hb (a &&& b) k = (hb a k && hb b k) := by simp [hb_bit]
theorem hb_or (a b k : Nat) : hb (a ||| b) k = (hb a k || hb b k) := by simp [hb_bit]
theorem hb_orL (xs : List Nat) (i : Nat) (hi : i < 4) : hb (orL xs &&& 15) i = anyH xs i := by
  have h15 : hb 15 i = true := by rcases (show i = 0 ∨ i = 1 ∨ i = 2 ∨ i = 3 by omega) with rfl | rfl | rfl | rfl <;> decide
  rw [hb_and, h15, Bool.and_true]
  unfold orL anyH
  have aux : ∀ (ys : List Nat) (a : Nat), hb (ys.foldl (· ||| ·) a) i = (hb a i || ys.any (fun x => hb x i)) := by
    intro ys
    induction ys with
    | nil => intro a; simp
    | cons y r ih => intro a; simp only [List.foldl, List.any]; rw [ih, hb_or, Bool.or_assoc]
  rw [aux]
  simp [hb_bit]
theorem side_c (l : Nat) (y : Bool) (r : Nat) (hr : l &&& pulseF y = r) (w : World) (hl : l < 256) : Calls Tryd.prog 16 #[.int .u8 l, .bool y] w fun e w' => e = .returned (.int .u8 r) ∧ w = w' := by
  subst hr; exact side_any l y w hl
theorem rdrive_false_false (w : World) : Calls Tryd.prog 19 #[.bool false, .bool false] w fun e w' => e = .returned (.int .i64 2) ∧ w = w' := by
  go_enter Tryd.func19, Tryd.ntmps19
  go_wp2
  go_ret
  exact ⟨rfl, rfl⟩
theorem rdrive_false_true (w : World) : Calls Tryd.prog 19 #[.bool false, .bool true] w fun e w' => e = .returned (.int .i64 1) ∧ w = w' := by
  go_enter Tryd.func19, Tryd.ntmps19
  go_wp2
  go_ret
  exact ⟨rfl, rfl⟩
theorem rdrive_true_false (w : World) : Calls Tryd.prog 19 #[.bool true, .bool false] w fun e w' => e = .returned (.int .i64 4) ∧ w = w' := by
  go_enter Tryd.func19, Tryd.ntmps19
  go_wp2
  go_ret
  exact ⟨rfl, rfl⟩
theorem rdrive_true_true (w : World) : Calls Tryd.prog 19 #[.bool true, .bool true] w fun e w' => e = .returned (.int .i64 8) ∧ w = w' := by
  go_enter Tryd.func19, Tryd.ntmps19
  go_wp2
  go_ret
  exact ⟨rfl, rfl⟩
set_option maxRecDepth 100000 in
set_option maxHeartbeats 4000000 in
theorem walk_false (level : Bool) (A : Option Addr) (n c : Nat) (xs : List Nat) (w : World) (hU : Up w) (h60 : n ≤ 60) (hl : Lst w A n (xs.map fun (x : Nat) => Value.int .u8 x)) (hx : ∀ x ∈ xs, x < 256) :
    Calls Tryd.prog 4 #[.bool false, .bool level, .slice A n c] w fun e w' => e = .returned (.bool true) ∧ Below w.heap.size w w' := by
  have HLN := Lib.hid (show xs.length = n by simpa using hl.1)
  have COR := Lib.hid (or_any A n c xs w hl hx (by omega))
  have HU := Lib.hid hU
  have HX := Lib.hid hx
  have HL := Lib.hid hl
  clear hU hx hl
  obtain ⟨O, HO⟩ : ∃ O, Hid (orL xs &&& 15 = O) := ⟨_, Lib.hid rfl⟩
  rw [HO.out] at COR
  have hO8 : O < 256 := by rw [← HO.out]; exact Nat.and_lt_two_pow (n := 8) _ (by decide)
  have hO : Hid (∀ i, i < 4 → Hid (hb O i = anyH xs i)) := Lib.hid (fun i hi => Lib.hid (by rw [← HO.out]; exact hb_orL xs i hi))
  go_enter Tryd.func4, Tryd.ntmps4
  go_wp2_with fail
  refine COR.out.mono ?_
  rintro e w' ⟨rfl, rfl⟩
  go_wp2_with fail
  go_loop [8, 9, 10] (fun i _ _ => JRel i) (fun i _ _ => 4 - (intOf i).toNat)
  case atStart => exact ⟨0, by omega, rfl⟩
  case round =>
    obtain ⟨k, hk, rfl⟩ := hrel
    rcases (show k = 0 ∨ k = 1 ∨ k = 2 ∨ k = 3 ∨ k = 4 by omega) with rfl | rfl | rfl | rfl | rfl
    · have hOi : Hid (hb O 0 = anyH xs 0) := hO.out 0 (by omega)
      go_wp2_with fail
      go_loop [9, 10] (fun wnt j => WRel xs n 0 wnt j) (fun _ j => n - (intOf j).toNat)
      case atStart => exact ⟨0, by omega, rfl, rfl⟩
      case round =>
        obtain ⟨j, hj, rfl, rfl⟩ := hrel
        rcases Nat.lt_or_eq_of_le hj with hlt | heq
        · obtain ⟨b, off, hA, hbl, hc⟩ := HL.out.get hlt
          have hjl : j < xs.length := by rw [HLN.out]; exact hlt
          have hv := HX.out _ (List.getElem_mem hjl)
          have HS := Lib.hid (anyH_snoc xs j 0 hjl)
          rw [List.getElem_map] at hc
          obtain ⟨v, HV⟩ : ∃ v, Hid (xs[j]'hjl = v) := ⟨_, Lib.hid rfl⟩
          rw [HV.out] at hc hv
          have hv0 : (0 : Int) ≤ (v : Int) := by omega
          have hv1 : (v : Int) ≤ 255 := by omega
          obtain ⟨z, HZ⟩ : ∃ z, Hid (hb v 0 = z) := ⟨_, Lib.hid rfl⟩
          obtain ⟨u, HU2⟩ : ∃ u, Hid (anyH (xs.take j) 0 = u) := ⟨_, Lib.hid rfl⟩
          have C := Lib.hid (fun W => rhigh_c v 0 z HZ.out W hv (by omega))
          rw [HU2.out]
          cases u
          · obtain rfl : A = some ⟨b, off, none⟩ := hA
            go_wp2_with fail
            refine (C.out _).mono ?_; rintro e w' ⟨rfl, rfl⟩
            go_wp2
            go_round
            case rel => exact ⟨j + 1, by omega, by rw [HS.out, HU2.out, HV.out, HZ.out]; simp, by go_num⟩
            case measure => simp [intOf]; omega
          · go_wp2
            go_round
            case rel => exact ⟨j + 1, by omega, by rw [HS.out, HU2.out]; simp, by go_num⟩
            case measure => simp [intOf]; omega
        · obtain rfl : j = n := heq
          obtain ⟨u, HU2⟩ : ∃ u, Hid (anyH xs 0 = u) := ⟨_, Lib.hid rfl⟩
          rw [List.take_of_length_le (by rw [HLN.out]; exact Nat.le_refl _), HU2.out]
          have C1 := Lib.hid (fun W => high_c O 0 u (hOi.out.trans HU2.out) W hO8 (by omega))
          have C2 := Lib.hid (fun W => side_c O false (O &&& pulseF false) rfl W hO8)
          have C3 := Lib.hid (fun W => high_c (O &&& pulseF false) 0 (u && true) (by rw [hb_and, hOi.out, HU2.out]; cases u <;> decide) W (Nat.lt_of_le_of_lt Nat.and_le_left hO8) (by omega))
          obtain ⟨S, HSS⟩ : ∃ S, Hid (O &&& pulseF false = S) := ⟨_, Lib.hid rfl⟩
          rw [HSS.out] at C2 C3
          cases u
          all_goals
            go_wp2_with fail
            refine (C1.out _).mono ?_; rintro e w' ⟨rfl, rfl⟩
            go_wp2_with fail
            refine (C2.out _).mono ?_; rintro e w' ⟨rfl, rfl⟩
            go_wp2_with fail
            refine (C3.out _).mono ?_; rintro e w' ⟨rfl, rfl⟩
            go_wp2
            go_round
            case rel => exact ⟨0+1, by omega, rfl⟩
            case measure => simp [intOf]
    · have hOi : Hid (hb O 1 = anyH xs 1) := hO.out 1 (by omega)
      go_wp2_with fail
      go_loop [9, 10] (fun wnt j => WRel xs n 1 wnt j) (fun _ j => n - (intOf j).toNat)
      case atStart => exact ⟨0, by omega, rfl, rfl⟩
      case round =>
        obtain ⟨j, hj, rfl, rfl⟩ := hrel
        rcases Nat.lt_or_eq_of_le hj with hlt | heq
        · obtain ⟨b, off, hA, hbl, hc⟩ := HL.out.get hlt
          have hjl : j < xs.length := by rw [HLN.out]; exact hlt
          have hv := HX.out _ (List.getElem_mem hjl)
          have HS := Lib.hid (anyH_snoc xs j 1 hjl)
          rw [List.getElem_map] at hc
          obtain ⟨v, HV⟩ : ∃ v, Hid (xs[j]'hjl = v) := ⟨_, Lib.hid rfl⟩
          rw [HV.out] at hc hv
          have hv0 : (0 : Int) ≤ (v : Int) := by omega
          have hv1 : (v : Int) ≤ 255 := by omega
          obtain ⟨z, HZ⟩ : ∃ z, Hid (hb v 1 = z) := ⟨_, Lib.hid rfl⟩
          obtain ⟨u, HU2⟩ : ∃ u, Hid (anyH (xs.take j) 1 = u) := ⟨_, Lib.hid rfl⟩
          have C := Lib.hid (fun W => rhigh_c v 1 z HZ.out W hv (by omega))
          rw [HU2.out]
          cases u
          · obtain rfl : A = some ⟨b, off, none⟩ := hA
            go_wp2_with fail
            refine (C.out _).mono ?_; rintro e w' ⟨rfl, rfl⟩
            go_wp2
            go_round
            case rel => exact ⟨j + 1, by omega, by rw [HS.out, HU2.out, HV.out, HZ.out]; simp, by go_num⟩
            case measure => simp [intOf]; omega
          · go_wp2
            go_round
            case rel => exact ⟨j + 1, by omega, by rw [HS.out, HU2.out]; simp, by go_num⟩
            case measure => simp [intOf]; omega
        · obtain rfl : j = n := heq
          obtain ⟨u, HU2⟩ : ∃ u, Hid (anyH xs 1 = u) := ⟨_, Lib.hid rfl⟩
          rw [List.take_of_length_le (by rw [HLN.out]; exact Nat.le_refl _), HU2.out]
          have C1 := Lib.hid (fun W => high_c O 1 u (hOi.out.trans HU2.out) W hO8 (by omega))
          have C2 := Lib.hid (fun W => side_c O false (O &&& pulseF false) rfl W hO8)
          have C3 := Lib.hid (fun W => high_c (O &&& pulseF false) 1 (u && true) (by rw [hb_and, hOi.out, HU2.out]; cases u <;> decide) W (Nat.lt_of_le_of_lt Nat.and_le_left hO8) (by omega))
          obtain ⟨S, HSS⟩ : ∃ S, Hid (O &&& pulseF false = S) := ⟨_, Lib.hid rfl⟩
          rw [HSS.out] at C2 C3
          cases u
          all_goals
            go_wp2_with fail
            refine (C1.out _).mono ?_; rintro e w' ⟨rfl, rfl⟩
            go_wp2_with fail
            refine (C2.out _).mono ?_; rintro e w' ⟨rfl, rfl⟩
            go_wp2_with fail
            refine (C3.out _).mono ?_; rintro e w' ⟨rfl, rfl⟩
            go_wp2
            go_round
            case rel => exact ⟨1+1, by omega, rfl⟩
            case measure => simp [intOf]
    · have hOi : Hid (hb O 2 = anyH xs 2) := hO.out 2 (by omega)
      go_wp2_with fail
      go_loop [9, 10] (fun wnt j => WRel xs n 2 wnt j) (fun _ j => n - (intOf j).toNat)
      case atStart => exact ⟨0, by omega, rfl, rfl⟩
      case round =>
        obtain ⟨j, hj, rfl, rfl⟩ := hrel
        rcases Nat.lt_or_eq_of_le hj with hlt | heq
        · obtain ⟨b, off, hA, hbl, hc⟩ := HL.out.get hlt
          have hjl : j < xs.length := by rw [HLN.out]; exact hlt
          have hv := HX.out _ (List.getElem_mem hjl)
          have HS := Lib.hid (anyH_snoc xs j 2 hjl)
          rw [List.getElem_map] at hc
          obtain ⟨v, HV⟩ : ∃ v, Hid (xs[j]'hjl = v) := ⟨_, Lib.hid rfl⟩
          rw [HV.out] at hc hv
          have hv0 : (0 : Int) ≤ (v : Int) := by omega
          have hv1 : (v : Int) ≤ 255 := by omega
          obtain ⟨z, HZ⟩ : ∃ z, Hid (hb v 2 = z) := ⟨_, Lib.hid rfl⟩
          obtain ⟨u, HU2⟩ : ∃ u, Hid (anyH (xs.take j) 2 = u) := ⟨_, Lib.hid rfl⟩
          have C := Lib.hid (fun W => rhigh_c v 2 z HZ.out W hv (by omega))
          rw [HU2.out]
          cases u
          · obtain rfl : A = some ⟨b, off, none⟩ := hA
            go_wp2_with fail
            refine (C.out _).mono ?_; rintro e w' ⟨rfl, rfl⟩
            go_wp2
            go_round
            case rel => exact ⟨j + 1, by omega, by rw [HS.out, HU2.out, HV.out, HZ.out]; simp, by go_num⟩
            case measure => simp [intOf]; omega
          · go_wp2
            go_round
            case rel => exact ⟨j + 1, by omega, by rw [HS.out, HU2.out]; simp, by go_num⟩
            case measure => simp [intOf]; omega
        · obtain rfl : j = n := heq
          obtain ⟨u, HU2⟩ : ∃ u, Hid (anyH xs 2 = u) := ⟨_, Lib.hid rfl⟩
          rw [List.take_of_length_le (by rw [HLN.out]; exact Nat.le_refl _), HU2.out]
          have C1 := Lib.hid (fun W => high_c O 2 u (hOi.out.trans HU2.out) W hO8 (by omega))
          have C2 := Lib.hid (fun W => side_c O false (O &&& pulseF false) rfl W hO8)
          have C3 := Lib.hid (fun W => high_c (O &&& pulseF false) 2 (u && false) (by rw [hb_and, hOi.out, HU2.out]; cases u <;> decide) W (Nat.lt_of_le_of_lt Nat.and_le_left hO8) (by omega))
          obtain ⟨S, HSS⟩ : ∃ S, Hid (O &&& pulseF false = S) := ⟨_, Lib.hid rfl⟩
          rw [HSS.out] at C2 C3
          cases u
          all_goals
            go_wp2_with fail
            refine (C1.out _).mono ?_; rintro e w' ⟨rfl, rfl⟩
            go_wp2_with fail
            refine (C2.out _).mono ?_; rintro e w' ⟨rfl, rfl⟩
            go_wp2_with fail
            refine (C3.out _).mono ?_; rintro e w' ⟨rfl, rfl⟩
            go_wp2
            go_round
            case rel => exact ⟨2+1, by omega, rfl⟩
            case measure => simp [intOf]
    · have hOi : Hid (hb O 3 = anyH xs 3) := hO.out 3 (by omega)
      go_wp2_with fail
      go_loop [9, 10] (fun wnt j => WRel xs n 3 wnt j) (fun _ j => n - (intOf j).toNat)
      case atStart => exact ⟨0, by omega, rfl, rfl⟩
      case round =>
        obtain ⟨j, hj, rfl, rfl⟩ := hrel
        rcases Nat.lt_or_eq_of_le hj with hlt | heq
        · obtain ⟨b, off, hA, hbl, hc⟩ := HL.out.get hlt
          have hjl : j < xs.length := by rw [HLN.out]; exact hlt
          have hv := HX.out _ (List.getElem_mem hjl)
          have HS := Lib.hid (anyH_snoc xs j 3 hjl)
          rw [List.getElem_map] at hc
          obtain ⟨v, HV⟩ : ∃ v, Hid (xs[j]'hjl = v) := ⟨_, Lib.hid rfl⟩
          rw [HV.out] at hc hv
          have hv0 : (0 : Int) ≤ (v : Int) := by omega
          have hv1 : (v : Int) ≤ 255 := by omega
          obtain ⟨z, HZ⟩ : ∃ z, Hid (hb v 3 = z) := ⟨_, Lib.hid rfl⟩
          obtain ⟨u, HU2⟩ : ∃ u, Hid (anyH (xs.take j) 3 = u) := ⟨_, Lib.hid rfl⟩
          have C := Lib.hid (fun W => rhigh_c v 3 z HZ.out W hv (by omega))
          rw [HU2.out]
          cases u
          · obtain rfl : A = some ⟨b, off, none⟩ := hA
            go_wp2_with fail
            refine (C.out _).mono ?_; rintro e w' ⟨rfl, rfl⟩
            go_wp2
            go_round
            case rel => exact ⟨j + 1, by omega, by rw [HS.out, HU2.out, HV.out, HZ.out]; simp, by go_num⟩
            case measure => simp [intOf]; omega
          · go_wp2
            go_round
            case rel => exact ⟨j + 1, by omega, by rw [HS.out, HU2.out]; simp, by go_num⟩
            case measure => simp [intOf]; omega
        · obtain rfl : j = n := heq
          obtain ⟨u, HU2⟩ : ∃ u, Hid (anyH xs 3 = u) := ⟨_, Lib.hid rfl⟩
          rw [List.take_of_length_le (by rw [HLN.out]; exact Nat.le_refl _), HU2.out]
          have C1 := Lib.hid (fun W => high_c O 3 u (hOi.out.trans HU2.out) W hO8 (by omega))
          have C2 := Lib.hid (fun W => side_c O false (O &&& pulseF false) rfl W hO8)
          have C3 := Lib.hid (fun W => high_c (O &&& pulseF false) 3 (u && false) (by rw [hb_and, hOi.out, HU2.out]; cases u <;> decide) W (Nat.lt_of_le_of_lt Nat.and_le_left hO8) (by omega))
          obtain ⟨S, HSS⟩ : ∃ S, Hid (O &&& pulseF false = S) := ⟨_, Lib.hid rfl⟩
          rw [HSS.out] at C2 C3
          cases u
          all_goals
            go_wp2_with fail
            refine (C1.out _).mono ?_; rintro e w' ⟨rfl, rfl⟩
            go_wp2_with fail
            refine (C2.out _).mono ?_; rintro e w' ⟨rfl, rfl⟩
            go_wp2_with fail
            refine (C3.out _).mono ?_; rintro e w' ⟨rfl, rfl⟩
            go_wp2
            go_round
            case rel => exact ⟨3+1, by omega, rfl⟩
            case measure => simp [intOf]
    · cases level
      · go_wp2_with fail
        refine (pulse_c false 3 rfl _).mono ?_; rintro e w' ⟨rfl, rfl⟩
        go_wp2_with fail
        refine (drive_c false false 2 (by decide) _ HU.out).mono ?_; rintro e w' ⟨rfl, rfl⟩
        go_wp2_with fail
        refine (rdrive_false_false _).mono ?_; rintro e w' ⟨rfl, rfl⟩
        go_wp2_with fail
        refine (or_any none 0 0 [] _ (Lst.nil _ _) (fun x hx => by cases hx) (by omega)).mono ?_; rintro e w' ⟨rfl, rfl⟩
        go_wp2_with fail
        refine (one_any _ HU.out).mono ?_; rintro e w9 ⟨rfl, hb9⟩
        go_wp2
        go_ret
        exact ⟨rfl, hb9⟩
      · go_wp2_with fail
        refine (pulse_c false 3 rfl _).mono ?_; rintro e w' ⟨rfl, rfl⟩
        go_wp2_with fail
        refine (drive_c false true 1 (by decide) _ HU.out).mono ?_; rintro e w' ⟨rfl, rfl⟩
        go_wp2_with fail
        refine (rdrive_false_true _).mono ?_; rintro e w' ⟨rfl, rfl⟩
        go_wp2_with fail
        refine (or_any none 0 0 [] _ (Lst.nil _ _) (fun x hx => by cases hx) (by omega)).mono ?_; rintro e w' ⟨rfl, rfl⟩
        go_wp2_with fail
        refine (one_any _ HU.out).mono ?_; rintro e w9 ⟨rfl, hb9⟩
        go_wp2
        go_ret
        exact ⟨rfl, hb9⟩

set_option maxRecDepth 100000 in
set_option maxHeartbeats 4000000 in
theorem walk_true (level : Bool) (A : Option Addr) (n c : Nat) (xs : List Nat) (w : World) (hU : Up w) (h60 : n ≤ 60) (hl : Lst w A n (xs.map fun (x : Nat) => Value.int .u8 x)) (hx : ∀ x ∈ xs, x < 256) :
    Calls Tryd.prog 4 #[.bool true, .bool level, .slice A n c] w fun e w' => e = .returned (.bool true) ∧ Below w.heap.size w w' := by
  have HLN := Lib.hid (show xs.length = n by simpa using hl.1)
  have COR := Lib.hid (or_any A n c xs w hl hx (by omega))
  have HU := Lib.hid hU
  have HX := Lib.hid hx
  have HL := Lib.hid hl
  clear hU hx hl
  obtain ⟨O, HO⟩ : ∃ O, Hid (orL xs &&& 15 = O) := ⟨_, Lib.hid rfl⟩
  rw [HO.out] at COR
  have hO8 : O < 256 := by rw [← HO.out]; exact Nat.and_lt_two_pow (n := 8) _ (by decide)
  have hO : Hid (∀ i, i < 4 → Hid (hb O i = anyH xs i)) := Lib.hid (fun i hi => Lib.hid (by rw [← HO.out]; exact hb_orL xs i hi))
  go_enter Tryd.func4, Tryd.ntmps4
  go_wp2_with fail
  refine COR.out.mono ?_
  rintro e w' ⟨rfl, rfl⟩
  go_wp2_with fail
  go_loop [8, 9, 10] (fun i _ _ => JRel i) (fun i _ _ => 4 - (intOf i).toNat)
  case atStart => exact ⟨0, by omega, rfl⟩
  case round =>
    obtain ⟨k, hk, rfl⟩ := hrel
    rcases (show k = 0 ∨ k = 1 ∨ k = 2 ∨ k = 3 ∨ k = 4 by omega) with rfl | rfl | rfl | rfl | rfl
    · have hOi : Hid (hb O 0 = anyH xs 0) := hO.out 0 (by omega)
      go_wp2_with fail
      go_loop [9, 10] (fun wnt j => WRel xs n 0 wnt j) (fun _ j => n - (intOf j).toNat)
      case atStart => exact ⟨0, by omega, rfl, rfl⟩
      case round =>
        obtain ⟨j, hj, rfl, rfl⟩ := hrel
        rcases Nat.lt_or_eq_of_le hj with hlt | heq
        · obtain ⟨b, off, hA, hbl, hc⟩ := HL.out.get hlt
          have hjl : j < xs.length := by rw [HLN.out]; exact hlt
          have hv := HX.out _ (List.getElem_mem hjl)
          have HS := Lib.hid (anyH_snoc xs j 0 hjl)
          rw [List.getElem_map] at hc
          obtain ⟨v, HV⟩ : ∃ v, Hid (xs[j]'hjl = v) := ⟨_, Lib.hid rfl⟩
          rw [HV.out] at hc hv
          have hv0 : (0 : Int) ≤ (v : Int) := by omega
          have hv1 : (v : Int) ≤ 255 := by omega
          obtain ⟨z, HZ⟩ : ∃ z, Hid (hb v 0 = z) := ⟨_, Lib.hid rfl⟩
          obtain ⟨u, HU2⟩ : ∃ u, Hid (anyH (xs.take j) 0 = u) := ⟨_, Lib.hid rfl⟩
          have C := Lib.hid (fun W => rhigh_c v 0 z HZ.out W hv (by omega))
          rw [HU2.out]
          cases u
          · obtain rfl : A = some ⟨b, off, none⟩ := hA
            go_wp2_with fail
            refine (C.out _).mono ?_; rintro e w' ⟨rfl, rfl⟩
            go_wp2
            go_round
            case rel => exact ⟨j + 1, by omega, by rw [HS.out, HU2.out, HV.out, HZ.out]; simp, by go_num⟩
            case measure => simp [intOf]; omega
          · go_wp2
            go_round
            case rel => exact ⟨j + 1, by omega, by rw [HS.out, HU2.out]; simp, by go_num⟩
            case measure => simp [intOf]; omega
        · obtain rfl : j = n := heq
          obtain ⟨u, HU2⟩ : ∃ u, Hid (anyH xs 0 = u) := ⟨_, Lib.hid rfl⟩
          rw [List.take_of_length_le (by rw [HLN.out]; exact Nat.le_refl _), HU2.out]
          have C1 := Lib.hid (fun W => high_c O 0 u (hOi.out.trans HU2.out) W hO8 (by omega))
          have C2 := Lib.hid (fun W => side_c O true (O &&& pulseF true) rfl W hO8)
          have C3 := Lib.hid (fun W => high_c (O &&& pulseF true) 0 (u && false) (by rw [hb_and, hOi.out, HU2.out]; cases u <;> decide) W (Nat.lt_of_le_of_lt Nat.and_le_left hO8) (by omega))
          obtain ⟨S, HSS⟩ : ∃ S, Hid (O &&& pulseF true = S) := ⟨_, Lib.hid rfl⟩
          rw [HSS.out] at C2 C3
          cases u
          all_goals
            go_wp2_with fail
            refine (C1.out _).mono ?_; rintro e w' ⟨rfl, rfl⟩
            go_wp2_with fail
            refine (C2.out _).mono ?_; rintro e w' ⟨rfl, rfl⟩
            go_wp2_with fail
            refine (C3.out _).mono ?_; rintro e w' ⟨rfl, rfl⟩
            go_wp2
            go_round
            case rel => exact ⟨0+1, by omega, rfl⟩
            case measure => simp [intOf]
    · have hOi : Hid (hb O 1 = anyH xs 1) := hO.out 1 (by omega)
      go_wp2_with fail
      go_loop [9, 10] (fun wnt j => WRel xs n 1 wnt j) (fun _ j => n - (intOf j).toNat)
      case atStart => exact ⟨0, by omega, rfl, rfl⟩
      case round =>
        obtain ⟨j, hj, rfl, rfl⟩ := hrel
        rcases Nat.lt_or_eq_of_le hj with hlt | heq
        · obtain ⟨b, off, hA, hbl, hc⟩ := HL.out.get hlt
          have hjl : j < xs.length := by rw [HLN.out]; exact hlt
          have hv := HX.out _ (List.getElem_mem hjl)
          have HS := Lib.hid (anyH_snoc xs j 1 hjl)
          rw [List.getElem_map] at hc
          obtain ⟨v, HV⟩ : ∃ v, Hid (xs[j]'hjl = v) := ⟨_, Lib.hid rfl⟩
          rw [HV.out] at hc hv
          have hv0 : (0 : Int) ≤ (v : Int) := by omega
          have hv1 : (v : Int) ≤ 255 := by omega
          obtain ⟨z, HZ⟩ : ∃ z, Hid (hb v 1 = z) := ⟨_, Lib.hid rfl⟩
          obtain ⟨u, HU2⟩ : ∃ u, Hid (anyH (xs.take j) 1 = u) := ⟨_, Lib.hid rfl⟩
          have C := Lib.hid (fun W => rhigh_c v 1 z HZ.out W hv (by omega))
          rw [HU2.out]
          cases u
          · obtain rfl : A = some ⟨b, off, none⟩ := hA
            go_wp2_with fail
            refine (C.out _).mono ?_; rintro e w' ⟨rfl, rfl⟩
            go_wp2
            go_round
            case rel => exact ⟨j + 1, by omega, by rw [HS.out, HU2.out, HV.out, HZ.out]; simp, by go_num⟩
            case measure => simp [intOf]; omega
          · go_wp2
            go_round
            case rel => exact ⟨j + 1, by omega, by rw [HS.out, HU2.out]; simp, by go_num⟩
            case measure => simp [intOf]; omega
        · obtain rfl : j = n := heq
          obtain ⟨u, HU2⟩ : ∃ u, Hid (anyH xs 1 = u) := ⟨_, Lib.hid rfl⟩
          rw [List.take_of_length_le (by rw [HLN.out]; exact Nat.le_refl _), HU2.out]
          have C1 := Lib.hid (fun W => high_c O 1 u (hOi.out.trans HU2.out) W hO8 (by omega))
          have C2 := Lib.hid (fun W => side_c O true (O &&& pulseF true) rfl W hO8)
          have C3 := Lib.hid (fun W => high_c (O &&& pulseF true) 1 (u && false) (by rw [hb_and, hOi.out, HU2.out]; cases u <;> decide) W (Nat.lt_of_le_of_lt Nat.and_le_left hO8) (by omega))
          obtain ⟨S, HSS⟩ : ∃ S, Hid (O &&& pulseF true = S) := ⟨_, Lib.hid rfl⟩
          rw [HSS.out] at C2 C3
          cases u
          all_goals
            go_wp2_with fail
            refine (C1.out _).mono ?_; rintro e w' ⟨rfl, rfl⟩
            go_wp2_with fail
            refine (C2.out _).mono ?_; rintro e w' ⟨rfl, rfl⟩
            go_wp2_with fail
            refine (C3.out _).mono ?_; rintro e w' ⟨rfl, rfl⟩
            go_wp2
            go_round
            case rel => exact ⟨1+1, by omega, rfl⟩
            case measure => simp [intOf]
    · have hOi : Hid (hb O 2 = anyH xs 2) := hO.out 2 (by omega)
      go_wp2_with fail
      go_loop [9, 10] (fun wnt j => WRel xs n 2 wnt j) (fun _ j => n - (intOf j).toNat)
      case atStart => exact ⟨0, by omega, rfl, rfl⟩
      case round =>
        obtain ⟨j, hj, rfl, rfl⟩ := hrel
        rcases Nat.lt_or_eq_of_le hj with hlt | heq
        · obtain ⟨b, off, hA, hbl, hc⟩ := HL.out.get hlt
          have hjl : j < xs.length := by rw [HLN.out]; exact hlt
          have hv := HX.out _ (List.getElem_mem hjl)
          have HS := Lib.hid (anyH_snoc xs j 2 hjl)
          rw [List.getElem_map] at hc
          obtain ⟨v, HV⟩ : ∃ v, Hid (xs[j]'hjl = v) := ⟨_, Lib.hid rfl⟩
          rw [HV.out] at hc hv
          have hv0 : (0 : Int) ≤ (v : Int) := by omega
          have hv1 : (v : Int) ≤ 255 := by omega
          obtain ⟨z, HZ⟩ : ∃ z, Hid (hb v 2 = z) := ⟨_, Lib.hid rfl⟩
          obtain ⟨u, HU2⟩ : ∃ u, Hid (anyH (xs.take j) 2 = u) := ⟨_, Lib.hid rfl⟩
          have C := Lib.hid (fun W => rhigh_c v 2 z HZ.out W hv (by omega))
          rw [HU2.out]
          cases u
          · obtain rfl : A = some ⟨b, off, none⟩ := hA
            go_wp2_with fail
            refine (C.out _).mono ?_; rintro e w' ⟨rfl, rfl⟩
            go_wp2
            go_round
            case rel => exact ⟨j + 1, by omega, by rw [HS.out, HU2.out, HV.out, HZ.out]; simp, by go_num⟩
            case measure => simp [intOf]; omega
          · go_wp2
            go_round
            case rel => exact ⟨j + 1, by omega, by rw [HS.out, HU2.out]; simp, by go_num⟩
            case measure => simp [intOf]; omega
        · obtain rfl : j = n := heq
          obtain ⟨u, HU2⟩ : ∃ u, Hid (anyH xs 2 = u) := ⟨_, Lib.hid rfl⟩
          rw [List.take_of_length_le (by rw [HLN.out]; exact Nat.le_refl _), HU2.out]
          have C1 := Lib.hid (fun W => high_c O 2 u (hOi.out.trans HU2.out) W hO8 (by omega))
          have C2 := Lib.hid (fun W => side_c O true (O &&& pulseF true) rfl W hO8)
          have C3 := Lib.hid (fun W => high_c (O &&& pulseF true) 2 (u && true) (by rw [hb_and, hOi.out, HU2.out]; cases u <;> decide) W (Nat.lt_of_le_of_lt Nat.and_le_left hO8) (by omega))
          obtain ⟨S, HSS⟩ : ∃ S, Hid (O &&& pulseF true = S) := ⟨_, Lib.hid rfl⟩
          rw [HSS.out] at C2 C3
          cases u
          all_goals
            go_wp2_with fail
            refine (C1.out _).mono ?_; rintro e w' ⟨rfl, rfl⟩
            go_wp2_with fail
            refine (C2.out _).mono ?_; rintro e w' ⟨rfl, rfl⟩
            go_wp2_with fail
            refine (C3.out _).mono ?_; rintro e w' ⟨rfl, rfl⟩
            go_wp2
            go_round
            case rel => exact ⟨2+1, by omega, rfl⟩
            case measure => simp [intOf]
    · have hOi : Hid (hb O 3 = anyH xs 3) := hO.out 3 (by omega)
      go_wp2_with fail
      go_loop [9, 10] (fun wnt j => WRel xs n 3 wnt j) (fun _ j => n - (intOf j).toNat)
      case atStart => exact ⟨0, by omega, rfl, rfl⟩
      case round =>
        obtain ⟨j, hj, rfl, rfl⟩ := hrel
        rcases Nat.lt_or_eq_of_le hj with hlt | heq
        · obtain ⟨b, off, hA, hbl, hc⟩ := HL.out.get hlt
          have hjl : j < xs.length := by rw [HLN.out]; exact hlt
          have hv := HX.out _ (List.getElem_mem hjl)
          have HS := Lib.hid (anyH_snoc xs j 3 hjl)
          rw [List.getElem_map] at hc
          obtain ⟨v, HV⟩ : ∃ v, Hid (xs[j]'hjl = v) := ⟨_, Lib.hid rfl⟩
          rw [HV.out] at hc hv
          have hv0 : (0 : Int) ≤ (v : Int) := by omega
          have hv1 : (v : Int) ≤ 255 := by omega
          obtain ⟨z, HZ⟩ : ∃ z, Hid (hb v 3 = z) := ⟨_, Lib.hid rfl⟩
          obtain ⟨u, HU2⟩ : ∃ u, Hid (anyH (xs.take j) 3 = u) := ⟨_, Lib.hid rfl⟩
          have C := Lib.hid (fun W => rhigh_c v 3 z HZ.out W hv (by omega))
          rw [HU2.out]
          cases u
          · obtain rfl : A = some ⟨b, off, none⟩ := hA
            go_wp2_with fail
            refine (C.out _).mono ?_; rintro e w' ⟨rfl, rfl⟩
            go_wp2
            go_round
            case rel => exact ⟨j + 1, by omega, by rw [HS.out, HU2.out, HV.out, HZ.out]; simp, by go_num⟩
            case measure => simp [intOf]; omega
          · go_wp2
            go_round
            case rel => exact ⟨j + 1, by omega, by rw [HS.out, HU2.out]; simp, by go_num⟩
            case measure => simp [intOf]; omega
        · obtain rfl : j = n := heq
          obtain ⟨u, HU2⟩ : ∃ u, Hid (anyH xs 3 = u) := ⟨_, Lib.hid rfl⟩
          rw [List.take_of_length_le (by rw [HLN.out]; exact Nat.le_refl _), HU2.out]
          have C1 := Lib.hid (fun W => high_c O 3 u (hOi.out.trans HU2.out) W hO8 (by omega))
          have C2 := Lib.hid (fun W => side_c O true (O &&& pulseF true) rfl W hO8)
          have C3 := Lib.hid (fun W => high_c (O &&& pulseF true) 3 (u && true) (by rw [hb_and, hOi.out, HU2.out]; cases u <;> decide) W (Nat.lt_of_le_of_lt Nat.and_le_left hO8) (by omega))
          obtain ⟨S, HSS⟩ : ∃ S, Hid (O &&& pulseF true = S) := ⟨_, Lib.hid rfl⟩
          rw [HSS.out] at C2 C3
          cases u
          all_goals
            go_wp2_with fail
            refine (C1.out _).mono ?_; rintro e w' ⟨rfl, rfl⟩
            go_wp2_with fail
            refine (C2.out _).mono ?_; rintro e w' ⟨rfl, rfl⟩
            go_wp2_with fail
            refine (C3.out _).mono ?_; rintro e w' ⟨rfl, rfl⟩
            go_wp2
            go_round
            case rel => exact ⟨3+1, by omega, rfl⟩
            case measure => simp [intOf]
    · cases level
      · go_wp2_with fail
        refine (pulse_c true 12 rfl _).mono ?_; rintro e w' ⟨rfl, rfl⟩
        go_wp2_with fail
        refine (drive_c true false 4 (by decide) _ HU.out).mono ?_; rintro e w' ⟨rfl, rfl⟩
        go_wp2_with fail
        refine (rdrive_true_false _).mono ?_; rintro e w' ⟨rfl, rfl⟩
        go_wp2_with fail
        refine (or_any none 0 0 [] _ (Lst.nil _ _) (fun x hx => by cases hx) (by omega)).mono ?_; rintro e w' ⟨rfl, rfl⟩
        go_wp2_with fail
        refine (one_any _ HU.out).mono ?_; rintro e w9 ⟨rfl, hb9⟩
        go_wp2
        go_ret
        exact ⟨rfl, hb9⟩
      · go_wp2_with fail
        refine (pulse_c true 12 rfl _).mono ?_; rintro e w' ⟨rfl, rfl⟩
        go_wp2_with fail
        refine (drive_c true true 8 (by decide) _ HU.out).mono ?_; rintro e w' ⟨rfl, rfl⟩
        go_wp2_with fail
        refine (rdrive_true_true _).mono ?_; rintro e w' ⟨rfl, rfl⟩
        go_wp2_with fail
        refine (or_any none 0 0 [] _ (Lst.nil _ _) (fun x hx => by cases hx) (by omega)).mono ?_; rintro e w' ⟨rfl, rfl⟩
        go_wp2_with fail
        refine (one_any _ HU.out).mono ?_; rintro e w9 ⟨rfl, hb9⟩
        go_wp2
        go_ret
        exact ⟨rfl, hb9⟩

set_option maxRecDepth 100000 in
theorem walk_long (y level : Bool) (A : Option Addr) (n c : Nat) (w : World) (hm : n ≤ 9223372036854775807) (h60 : 60 < n) :
    Calls Tryd.prog 4 #[.bool y, .bool level, .slice A n c] w fun e w' => e = .returned (.bool true) ∧ Below w.heap.size w w' := by
  go_enter Tryd.func4, Tryd.ntmps4
  go_wp2
  go_ret
  exact ⟨rfl, Below.refl _ _⟩
theorem walk (y level : Bool) (A : Option Addr) (n c : Nat) (l : List Int) (w : World) (hU : Up w) (hl : Lst w A n (l.map (Value.int .u8))) (hbd : ∀ x ∈ l, 0 ≤ x ∧ x ≤ 255) (hnc : n ≤ c) (hcm : c ≤ maxLen) :
    Calls Tryd.prog 4 #[.bool y, .bool level, .slice A n c] w fun e w' => e = .returned (.bool true) ∧ Below w.heap.size w w' := by
  unfold maxLen at hcm
  by_cases h : n ≤ 60
  · have e : l.map (Value.int .u8) = (l.map Int.toNat).map (fun (x : Nat) => Value.int .u8 x) := by
      rw [List.map_map]
      apply List.map_congr_left
      intro x hx
      have := hbd x hx
      simp only [Function.comp]
      rw [Int.toNat_of_nonneg this.1]
    rw [e] at hl
    have hx : ∀ x ∈ l.map Int.toNat, x < 256 := by
      intro x hx
      obtain ⟨z, hz, rfl⟩ := List.mem_map.1 hx
      have := hbd z hz
      omega
    cases y
    · exact walk_false level A n c _ w hU h hl hx
    · exact walk_true level A n c _ w hU h hl hx
  · exact walk_long y level A n c w (by omega) (by omega)

theorem door_met (os : Os) (args : Array Value) : laidMetH Tryd.prog Rows.wiresDriveRow.laid ((World.doorLaid Tryd.prog 400 os).forCall (fun _ _ => 0) ⟨#[], args, []⟩).memory :=
  laidMetH_of_parts3 (fuel := 8) (laidMet_of_run' 8 (by kernel_rfl) (by kernel_rfl)) (by kernel_rfl) (by kernel_rfl)
set_option maxRecDepth 100000 in
theorem lifted (os : Os) (started : os.Started) (H : Type) (enc : TypeId × Value → H) :
    ReturnsInHanded {} Tryd.checked os 4 .any (fun w args => (Rows.wiresDriveSpec.pre enc Tryd.prog Tryd.f4 [] false w args ∧ laidMetH Tryd.prog Rows.wiresDriveRow.laid w) ∧ sizedMet enc Tryd.prog Tryd.f4 (OpenSpec.ofChange Rows.wiresDriveSpec) false w args)
      (Rows.wiresDriveSpec.post enc Tryd.prog Tryd.f4 false true false false) := by
  refine returnsInHanded_of_change_and (C := Tryd.checked) (X := fun w _ => laidMetH Tryd.prog Rows.wiresDriveRow.laid w) (fun _ _ _ hh h => h.of_heap hh) own started (by kernel_rfl) Tryd.func4
    (ChangeSpec.witness_shaped (enc := enc) (C := Tryd.checked) (os := os) (X := fun w _ => laidMetH Tryd.prog Rows.wiresDriveRow.laid w) false (World.doorLaid Tryd.prog 400 os) #[.bool false, .bool false, .slice none 0 0] 8 rfl (World.shaped_of_RefB (by kernel_rfl) (by kernel_rfl)) (by kernel_rfl) (by kernel_rfl) (by kernel_rfl) (door_met os _)) ?_
  intro W base args ds gs before hval0 hW _ _ hL _
  have hval : ∀ (j : Nat) t v, Tryd.f4.params[j]? = some t → args[j]? = some v → Value.okWide Tryd.prog W .any base t v := hval0
  have hW' := hW
  obtain ⟨p, q, hA0, hV, rfl, hfz, hnd⟩ := hW
  have hA : DataW.TrodAll enc Tryd.prog W 0 (fun _ => true) true Tryd.f4.params.toList args.toList ds p := hA0
  rw [Tryd.params4] at hA hval
  obtain ⟨v0, vs0, d0, ds0, p0, q0, hargs, rfl, rfl, h0, r0⟩ := trodAll_cons hA
  obtain ⟨v1, vs1, d1, ds1, p1, q1, rfl, rfl, rfl, h1, r1⟩ := trodAll_cons r0
  obtain ⟨v2, vs2, d2, ds2, p2, q2, rfl, rfl, rfl, h2, r2⟩ := trodAll_cons r1
  obtain ⟨rfl, rfl, rfl⟩ := trodAll_nil r2
  obtain rfl : args = #[v0, v1, v2] := by cases args; simp_all
  obtain ⟨rfl, rfl⟩ := trodVars_none hV
  obtain ⟨y, rfl, rfl, rfl⟩ := open_bool Tryd.underlying4 (hval 0 4 v0 rfl rfl) h0
  obtain ⟨level, rfl, rfl, rfl⟩ := open_bool Tryd.underlying4 (hval 1 4 v1 rfl rfl) h1
  have k2 := h2
  have lt2 : ∀ x ∈ p2, x.block < W.heap.size := by obtain ⟨m, hm⟩ := k2; exact DataW.trod_lt m _ _ _ hm
  obtain ⟨lA, ln, lc, rfl⟩ := okWide_slice Tryd.underlying32 (hval 2 32 v2 rfl rfl)
  obtain ⟨l, l2, b2, cb2, cc2⟩ := lst_ints Tryd.underlying32 Tryd.underlying22 (by kernel_rfl) k2
  clear hA0 hval0
  refine (walk y level lA ln lc l W (of_laid hL) l2 (ints_u8 b2) cb2 cc2).mono fun e W' ⟨he, bel⟩ => ?_
  subst he
  exact ⟨_, rfl, _, _, _, [], _, [], hW', trodAll_mk1 (shut_bool Tryd.underlying4 _), (trodAll_cons_mk (shut_bool Tryd.underlying4 y) (trodAll_cons_mk (shut_bool Tryd.underlying4 level) (trodAll_cons_mk (Below.trod laidOut (by kernel_rfl) (of_decide_eq_true (by kernel_rfl)) k2 bel lt2) trodAll_mk0))), rfl, bel.frame _, fun h => by cases h⟩

theorem over : Rows.wiresDriveRow.holds Tryd.pinned (OpenSpec.ofChange Rows.wiresDriveSpec) :=
  OpenClaim.holds_of_wide 4 Tryd.f4 rfl rfl rfl rfl rfl rfl rfl ⟨rfl, rfl, rfl, rfl, rfl⟩ rfl rfl rfl rfl rfl (by kernel_rfl) Tryd.func4 (by kernel_rfl)
    (of_decide_eq_true (by kernel_rfl)) (by unfold Func.isWrapper; first | (rw [if_pos (by decide +kernel)]; kernel_rfl) | (rw [if_neg (by decide +kernel)]; exact ⟨rfl, rfl⟩))
    (fun os started H enc _ => lifted os started H enc)

/-- The card: what the row lists is tied to the program's text. -/
theorem proved : Rows.WiresDriveCardSaid :=
  Claim7.holds_tied_plain_at .later [] [.data] true Rows.wiresDriveCard.stood.harness false
    over (fun _ h => by cases h) (by kernel_rfl) (fun _ h => by cases h) wiresDrive_row_tie rfl ⟨rfl, rfl⟩ (by kernel_rfl) rfl
    (fun f fn hf hfn => by
      obtain rfl : f = 4 := Option.some.inj ((show Tryd.prog.funcNamed "busbar/busbarlaw03.WiresDrive" = some 4 by kernel_rfl).symm.trans hf) |>.symm
      obtain rfl : fn = Tryd.f4 := (Option.some.inj (Tryd.func4.symm.trans hfn)).symm
      exact ⟨by kernel_rfl, fun j t ht => by
        rw [Tryd.params4] at ht
        have hm : t ∈ [4, 4, 32] := by simpa using Array.mem_of_getElem? ht
        have hall : ([4, 4, 32].all fun u => !Tryd.prog.wantsStandIn u) = true := by kernel_rfl
        exact (show Tryd.prog.wantsStandIn t = false by simpa using List.all_eq_true.1 hall t hm)⟩)
    (by kernel_rfl)
end Go.Proofs.YtbhdenjahojbbaaDoor.lawWiresDrive
