/- What both sides drive for a level is said by all four lines, two of which are high; with any one line that stands otherwise three still say it: for every input; no condition but that the table of the lines is as the program's text lays it, which the card ties. -/
import Derived.Test.YtbhdenjahojbbaaDoorWirC
import Derived.Test.YtbhdenjahojbbaaDoorSh
import Derived.Test.YtbhdenjahojbbaaDoorTie
import Derived.Test.YtbhdenjahojbbaaDoorCards
import Derived.Test.YtbhdenjahojbbaaDoorLaid
import Derived.LaidMore
import Derived.SevenTiedAt
import Derived.Stop.Joined
import Derived.Test.YtbhdenjahojbbaaDoorRows
import Derived.WalkKit
import Derived.ProofKit
import Derived.OpenShut
import Derived.ShutString
import Derived.ChangeOld
import Derived.Below
namespace Go.Proofs.YtbhdenjahojbbaaDoor.lawWiresSay
open Go.ChangeShapes Go.WideShapes Go.ChangeAt Go.RowKit Base
open Go.ChangeMaps (open_string shut_string)
set_option linter.unusedVariables false
set_option linter.unusedSimpArgs false
theorem own : ownKnob Tryd.prog.godebug = none := by kernel_rfl
theorem laidOut : laidOutB Tryd.prog = true := by kernel_rfl
open Ly3

theorem gUp : Tryd.prog.globalNamed "busbar/wires.upright" = some 0 := by kernel_rfl
theorem tUp : (Tryd.prog.globals[0]?).map (·.type) = some 23 := by kernel_rfl
theorem of_laid {W : World} (h : laidMetH Tryd.prog Rows.wiresSayRow.laid W) : Up W := by
  rw [MakeChecks.laidMetH_plain _ _ _ (by kernel_rfl)] at h
  obtain ⟨ps, ⟨g0, t0, cs0, f0, p0, q0, hg0, ht0, hv0, hd0, _, _⟩, _, _⟩ := h
  obtain rfl := Option.some.inj (gUp.symm.trans hg0)
  obtain rfl := Option.some.inj (tUp.symm.trans ht0)
  have e := exact_cells (sh := .ar 4 .bool) 10 rfl (by kernel_rfl) hd0 rfl
  obtain ⟨l0⟩ := cs0
  simp at e
  subst e
  exact ⟨by simpa using World.var?_cell hg0 hv0 0, by simpa using World.var?_cell hg0 hv0 1, by simpa using World.var?_cell hg0 hv0 2, by simpa using World.var?_cell hg0 hv0 3⟩

/-- The lines that both sides drive for a level. -/
def both (level : Bool) : Nat := if level then 9 else 6
theorem both_lt (level : Bool) : both level < 256 := by cases level <;> decide
theorem or_both (level : Bool) : orL [driveF false level, driveF true level] &&& 15 = both level := by cases level <;> decide
theorem said_both (level : Bool) (k : Nat) (hk : k < 4) : said (both level) k = level := by
  rcases (show k = 0 ∨ k = 1 ∨ k = 2 ∨ k = 3 by omega) with rfl | rfl | rfl | rfl <;> cases level <;> decide
/-- How many of the first k lines say the level. -/
def many (t : Nat) (level : Bool) : Nat → Nat
  | 0 => 0
  | k + 1 => many t level k + (if said t k = level then 1 else 0)
theorem many_le (t : Nat) (level : Bool) (k : Nat) : many t level k ≤ k := by
  induction k with
  | zero => simp [many]
  | succ k ih => simp only [many]; split <;> omega
theorem many_three (level : Bool) (line : Int) (high : Bool) : 3 ≤ many (setF (both level) line high) level 4 := by
  by_cases h : 0 ≤ line ∧ line ≤ 3
  · rcases (show line = 0 ∨ line = 1 ∨ line = 2 ∨ line = 3 by omega) with rfl | rfl | rfl | rfl <;> cases level <;> cases high <;> decide
  · have : setF (both level) line high = both level := by unfold setF; rw [if_neg h]
    rw [this]
    cases level <;> decide
theorem or2 (a b : Nat) (r : Nat) (ha : a < 256) (hb : b < 256) (hr : orL [a, b] &&& 15 = r) (w : World) (g : Nat) (t : TypeId) (c : Nat) (ho : Obj1 w g t #[.int .u8 a, .int .u8 b]) :
    Calls Tryd.prog 15 #[.slice (some ⟨g, 0, none⟩) 2 c] w fun e w' => e = .returned (.int .u8 r) ∧ w = w' := by
  subst hr
  refine or_any (some ⟨g, 0, none⟩) 2 c [a, b] w ⟨rfl, fun _ => ⟨g, 0, rfl, ho.lt, fun k hk => ?_⟩⟩ (by intro x hx; simp at hx; rcases hx with rfl | rfl <;> assumption) (by omega)
  rw [Nat.zero_add, ho.cell]
  rcases (show k = 0 ∨ k = 1 by omega) with rfl | rfl <;> rfl
theorem count_c (l r : Nat) (hr : cnt l 4 = r) (hl : l < 256) (w : World) : Calls Tryd.prog 12 #[.int .u8 l] w fun e w' => e = .returned (.int .i64 r) ∧ w = w' := by
  subst hr; exact count_any l w hl

/-- What the loop over the lines knows. -/
def SRel (level : Bool) (t : Nat) (n i : Value) : Prop := ∃ k : Nat, k ≤ 4 ∧ i = .int .i64 k ∧ n = .int .i64 (many t level k)

set_option maxRecDepth 100000 in
set_option maxHeartbeats 4000000 in
theorem walk (level : Bool) (line : Int) (high : Bool) (w : World) (hU : Up w) (h0 : -9223372036854775808 ≤ line) (h1 : line ≤ 9223372036854775807) :
    Calls Tryd.prog 5 #[.bool level, .int .i64 line, .bool high] w fun e w' => e = .returned (.bool true) ∧ Below w.heap.size w w' := by
  have HU := Lib.hid hU
  clear hU
  go_enter Tryd.func5, Tryd.ntmps5
  go_wp2_with (first
    | (go_at_call_of 18 (Value.bool false); refine (drive_any false level _ HU.out).mono ?_; rintro e w' ⟨rfl, rfl⟩)
    | (go_at_call_of 18 (Value.bool true); refine (drive_any true level _ HU.out).mono ?_; rintro e w' ⟨rfl, rfl⟩))
  refine (or2 (driveF false level) (driveF true level) (both level) (by cases level <;> decide) (by cases level <;> decide) (or_both level) _ _ 22 _ (Obj1.new _ _ _)).mono ?_
  rintro e w1 ⟨rfl, rfl⟩
  have HU1 : Hid (Up (w.alloc (.cells #[.int .u8 (driveF false level), .int .u8 (driveF true level)] 22))) := Lib.hid (HU.out.kept ((Below.refl _ _).alloc (Nat.le_refl _) _))
  go_wp2_with fail
  refine (says_c (both level) level level level level ⟨said_both level 0 (by omega), said_both level 1 (by omega), said_both level 2 (by omega), said_both level 3 (by omega)⟩ (both_lt level) _ HU1.out).mono ?_
  rintro e w2 ⟨rfl, hb2⟩
  have HU2 : Hid (Up (w2.alloc (.cells #[.bool level, .bool level, .bool level, .bool level] 23))) := Lib.hid ((HU1.out.kept hb2).kept ((Below.refl _ _).alloc (Nat.le_refl _) _))
  go_wp2_with (go_at_call 11; refine (set_any (both level) line high _ (both_lt level)).mono ?_; rintro e w' ⟨rfl, rfl⟩)
  have hsl := setF_lt (l := both level) (i := line) (h := high) (both_lt level)
  have HM := Lib.hid (many_three level line high)
  obtain ⟨t, HT⟩ : ∃ t, Hid (setF (both level) line high = t) := ⟨_, Lib.hid rfl⟩
  rw [HT.out] at hsl HM ⊢
  refine (says_any t _ hsl HU2.out).mono ?_
  rintro e w3 ⟨rfl, hb3⟩
  have HS : Hid (Obj1 (w3.alloc (.cells #[.bool (said t 0), .bool (said t 1), .bool (said t 2), .bool (said t 3)] 23)) w2.heap.size 23 #[.bool level, .bool level, .bool level, .bool level]) := Lib.hid (((Obj1.new w2 _ _).kept hb3).alloc _)
  have HB : Hid (Obj1 (w3.alloc (.cells #[.bool (said t 0), .bool (said t 1), .bool (said t 2), .bool (said t 3)] 23)) w3.heap.size 23 #[.bool (said t 0), .bool (said t 1), .bool (said t 2), .bool (said t 3)]) := Lib.hid (Obj1.new _ _ _)
  have HU3 : Hid (Up (w3.alloc (.cells #[.bool (said t 0), .bool (said t 1), .bool (said t 2), .bool (said t 3)] 23))) := Lib.hid ((HU2.out.kept hb3).kept ((Below.refl _ _).alloc (Nat.le_refl _) _))
  have hbel : Below w.heap.size w (w3.alloc (.cells #[.bool (said t 0), .bool (said t 1), .bool (said t 2), .bool (said t 3)] 23)) := by
    have z2 := hb2.size
    have z3 := hb3.size
    simp at z2 z3
    repeat (first | exact Below.refl _ _ | refine Below.setCell ?_ (by first | omega | (simp; done) | (simp; omega) | (have := hb3.size; simp at this ⊢; omega) | (have := hb2.size; simp at this ⊢; omega) | (have := hb3.size; have := hb2.size; simp at *; omega)) _ | refine Below.alloc ?_ (by first | omega | (simp; done) | (simp; omega) | (have := hb3.size; simp at this ⊢; omega) | (have := hb2.size; simp at this ⊢; omega) | (have := hb3.size; have := hb2.size; simp at *; omega)) _ | refine below_drewN' ?_ _ | refine Below.drew ?_ | refine Below.trans ?_ (hb3.mono (by first | omega | (simp; done) | (simp; omega) | (have := hb3.size; simp at this ⊢; omega) | (have := hb2.size; simp at this ⊢; omega) | (have := hb3.size; have := hb2.size; simp at *; omega))) | refine Below.trans ?_ (hb2.mono (by first | omega | (simp; done) | (simp; omega) | (have := hb3.size; simp at this ⊢; omega) | (have := hb2.size; simp at this ⊢; omega) | (have := hb3.size; have := hb2.size; simp at *; omega))))
  go_wp2_with fail
  generalize w3.alloc (.cells #[.bool (said t 0), .bool (said t 1), .bool (said t 2), .bool (said t 3)] 23) = w4 at HS HB HU3 hbel ⊢
  clear HU HU1 HU2 hb2 hb3
  go_loop [10, 11] (fun n i => SRel level t n i) (fun _ i => 4 - (intOf i).toNat)
  case atStart => exact ⟨0, by omega, rfl, rfl⟩
  case round =>
    obtain ⟨k, hk, rfl, rfl⟩ := hrel
    have hm := many_le t level k
    rcases Nat.lt_or_eq_of_le hk with hlt | heq
    · have hs : w4.cell? ⟨w2.heap.size, k, none⟩ = some (.bool level) := by
        rw [HS.out.cell]
        rcases (show k = 0 ∨ k = 1 ∨ k = 2 ∨ k = 3 by omega) with rfl | rfl | rfl | rfl <;> rfl
      have ht : w4.cell? ⟨w3.heap.size, k, none⟩ = some (.bool (said t k)) := by
        rw [HB.out.cell]
        rcases (show k = 0 ∨ k = 1 ∨ k = 2 ∨ k = 3 by omega) with rfl | rfl | rfl | rfl <;> rfl
      have HN : Hid (many t level (k + 1) = many t level k + (if said t k = level then 1 else 0)) := Lib.hid rfl
      obtain ⟨u, HQ⟩ : ∃ u, Hid (said t k = u) := ⟨_, Lib.hid rfl⟩
      rw [HQ.out] at ht
      obtain ⟨N, HNN⟩ : ∃ N, Hid (many t level k = N) := ⟨_, Lib.hid rfl⟩
      rw [HNN.out] at hm ⊢
      cases u <;> cases level
      all_goals
        go_wp2
        go_round
        case rel => exact ⟨k + 1, by omega, by go_num, by rw [HN.out, HQ.out, HNN.out]; simp⟩
        case measure => simp [intOf]; omega
    · subst heq
      obtain ⟨N, HNN⟩ : ∃ N, Hid (many t level 4 = N) := ⟨_, Lib.hid rfl⟩
      have h3 := HM.out
      rw [HNN.out] at h3 ⊢
      have hd3 : decide ((3 : Int) ≤ (N : Int)) = true := by simp; omega
      have hd3' : decide (3 ≤ N) = true := by simp; omega
      have C1 := Lib.hid (fun W => count_c (both level) 2 (by cases level <;> decide) (both_lt level) W)
      have C2 := Lib.hid (fun W => count_c (driveF false level) 1 (by cases level <;> decide) (by cases level <;> decide) W)
      have C3 := Lib.hid (fun W => count_c 15 4 (by decide) (by decide) W)
      have P1 := Lib.hid (fun W => pulse_c false 3 rfl W)
      have P2 := Lib.hid (fun W => pulse_c true 12 rfl W)
      clear h3
      go_wp2_with fail
      refine (C1.out _).mono ?_
      rintro e w' ⟨rfl, rfl⟩
      go_wp2_with fail
      refine (drive_any false level _ HU3.out).mono ?_
      rintro e w' ⟨rfl, rfl⟩
      go_wp2_with fail
      refine (C2.out _).mono ?_
      rintro e w' ⟨rfl, rfl⟩
      go_wp2_with fail
      refine (P1.out _).mono ?_
      rintro e w' ⟨rfl, rfl⟩
      go_wp2_with fail
      refine (P2.out _).mono ?_
      rintro e w' ⟨rfl, rfl⟩
      go_wp2_with fail
      refine (or2 3 12 15 (by decide) (by decide) (by decide) _ _ 22 _ (Obj1.new w4 22 #[.int .u8 3, .int .u8 12])).mono ?_
      rintro e w' ⟨rfl, rfl⟩
      go_wp2_with fail
      refine (C3.out _).mono ?_
      rintro e w' ⟨rfl, rfl⟩
      go_wp2_with fail
      refine (one_any _ (HU3.out.kept ((Below.refl _ _).alloc (Nat.le_refl _) _))).mono ?_
      rintro e w7 ⟨rfl, hb7⟩
      go_wp2
      go_ret
      refine ⟨rfl, ?_⟩
      have z4 := hbel.size
      exact (hbel.alloc z4 _).trans (hb7.mono (by simp; omega))

theorem door_met (os : Os) (args : Array Value) : laidMetH Tryd.prog Rows.wiresSayRow.laid ((World.doorLaid Tryd.prog 400 os).forCall (fun _ _ => 0) ⟨#[], args, []⟩).memory :=
  laidMetH_of_parts3 (fuel := 8) (laidMet_of_run' 8 (by kernel_rfl) (by kernel_rfl)) (by kernel_rfl) (by kernel_rfl)
set_option maxRecDepth 100000 in
theorem lifted (os : Os) (started : os.Started) (H : Type) (enc : TypeId × Value → H) :
    ReturnsInHanded {} Tryd.checked os 5 .any (fun w args => (Rows.wiresSaySpec.pre enc Tryd.prog Tryd.f5 [] false w args ∧ laidMetH Tryd.prog Rows.wiresSayRow.laid w) ∧ sizedMet enc Tryd.prog Tryd.f5 (OpenSpec.ofChange Rows.wiresSaySpec) false w args)
      (Rows.wiresSaySpec.post enc Tryd.prog Tryd.f5 false true false false) := by
  refine returnsInHanded_of_change_and (C := Tryd.checked) (X := fun w _ => laidMetH Tryd.prog Rows.wiresSayRow.laid w) (fun _ _ _ hh h => h.of_heap hh) own started (by kernel_rfl) Tryd.func5
    (ChangeSpec.witness_shaped (enc := enc) (C := Tryd.checked) (os := os) (X := fun w _ => laidMetH Tryd.prog Rows.wiresSayRow.laid w) false (World.doorLaid Tryd.prog 400 os) #[.bool false, .int .i64 0, .bool false] 8 rfl (World.shaped_of_RefB (by kernel_rfl) (by kernel_rfl)) (by kernel_rfl) (by kernel_rfl) (by kernel_rfl) (door_met os _)) ?_
  intro W base args ds gs before hval0 hW _ _ hL _
  have hval : ∀ (j : Nat) t v, Tryd.f5.params[j]? = some t → args[j]? = some v → Value.okWide Tryd.prog W .any base t v := hval0
  have hW' := hW
  obtain ⟨p, q, hA0, hV, rfl, hfz, hnd⟩ := hW
  have hA : DataW.TrodAll enc Tryd.prog W 0 (fun _ => true) true Tryd.f5.params.toList args.toList ds p := hA0
  rw [Tryd.params5] at hA hval
  obtain ⟨v0, vs0, d0, ds0, p0, q0, hargs, rfl, rfl, h0, r0⟩ := trodAll_cons hA
  obtain ⟨v1, vs1, d1, ds1, p1, q1, rfl, rfl, rfl, h1, r1⟩ := trodAll_cons r0
  obtain ⟨v2, vs2, d2, ds2, p2, q2, rfl, rfl, rfl, h2, r2⟩ := trodAll_cons r1
  obtain ⟨rfl, rfl, rfl⟩ := trodAll_nil r2
  obtain rfl : args = #[v0, v1, v2] := by cases args; simp_all
  obtain ⟨rfl, rfl⟩ := trodVars_none hV
  obtain ⟨level, rfl, rfl, rfl⟩ := open_bool Tryd.underlying4 (hval 0 4 v0 rfl rfl) h0
  obtain ⟨line, rfl, rfl, rfl, wf1⟩ := open_int Tryd.underlying3 (hval 1 3 v1 rfl rfl) h1
  have bd1 := bounds_i64 wf1
  obtain ⟨high, rfl, rfl, rfl⟩ := open_bool Tryd.underlying4 (hval 2 4 v2 rfl rfl) h2
  clear hA0 hval0
  refine (walk level line high W (of_laid hL) bd1.1 bd1.2).mono fun e W' ⟨he, bel⟩ => ?_
  subst he
  exact ⟨_, rfl, _, _, _, [], _, [], hW', trodAll_mk1 (shut_bool Tryd.underlying4 _), (trodAll_cons_mk (shut_bool Tryd.underlying4 level) (trodAll_cons_mk (shut_int Tryd.underlying3 wf1) (trodAll_cons_mk (shut_bool Tryd.underlying4 high) trodAll_mk0))), rfl, bel.frame _, fun h => by cases h⟩

theorem over : Rows.wiresSayRow.holds Tryd.pinned (OpenSpec.ofChange Rows.wiresSaySpec) :=
  OpenClaim.holds_of_wide 5 Tryd.f5 rfl rfl rfl rfl rfl rfl rfl ⟨rfl, rfl, rfl, rfl, rfl⟩ rfl rfl rfl rfl rfl (by kernel_rfl) Tryd.func5 (by kernel_rfl)
    (of_decide_eq_true (by kernel_rfl)) (by unfold Func.isWrapper; first | (rw [if_pos (by decide +kernel)]; kernel_rfl) | (rw [if_neg (by decide +kernel)]; exact ⟨rfl, rfl⟩))
    (fun os started H enc _ => lifted os started H enc)

/-- The card: what the row lists is tied to the program's text. -/
theorem proved : Rows.WiresSayCardSaid :=
  Claim7.holds_tied_plain_at .later [] [.data] true Rows.wiresSayCard.stood.harness false
    over (fun _ h => by cases h) (by kernel_rfl) (fun _ h => by cases h) wiresSay_row_tie rfl ⟨rfl, rfl⟩ (by kernel_rfl) rfl
    (fun f fn hf hfn => by
      obtain rfl : f = 5 := Option.some.inj ((show Tryd.prog.funcNamed "busbar/busbarlaw03.WiresSay" = some 5 by kernel_rfl).symm.trans hf) |>.symm
      obtain rfl : fn = Tryd.f5 := (Option.some.inj (Tryd.func5.symm.trans hfn)).symm
      exact ⟨by kernel_rfl, fun j t ht => by
        rw [Tryd.params5] at ht
        have hm : t ∈ [4, 3, 4] := by simpa using Array.mem_of_getElem? ht
        have hall : ([4, 3, 4].all fun u => !Tryd.prog.wantsStandIn u) = true := by kernel_rfl
        exact (show Tryd.prog.wantsStandIn t = false by simpa using List.all_eq_true.1 hall t hm)⟩)
    (by kernel_rfl)
end Go.Proofs.YtbhdenjahojbbaaDoor.lawWiresSay
