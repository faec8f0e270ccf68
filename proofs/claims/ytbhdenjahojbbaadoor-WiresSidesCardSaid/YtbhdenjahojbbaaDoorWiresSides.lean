/- Any lines are those of both sides put together; in whatever order lines are put together, and however often, it is the same: for every input; no condition but that the table of the lines is as the program's text lays it, which the card ties. -/
import Derived.Test.YtbhdenjahojbbaaDoorWirC
import Derived.Test.YtbhdenjahojbbaaDoorSh
import Derived.Test.YtbhdenjahojbbaaDoorTie
import Derived.Test.YtbhdenjahojbbaaDoorCards
import Derived.Test.YtbhdenjahojbbaaDoorLaid
import Derived.LaidMore
import Derived.SevenTiedAt
import Derived.Stop.Joined
import Derived.Test.YtbhdenjahojbbaaDoorRows
import Derived.WalkKit
import Derived.ProofKit
import Derived.OpenShut
import Derived.ShutString
import Derived.ChangeOld
import Derived.Below
namespace Go.Proofs.YtbhdenjahojbbaaDoor.lawWiresSides
open Go.ChangeShapes Go.WideShapes Go.ChangeAt Go.RowKit Base
open Go.ChangeMaps (open_string shut_string)
set_option linter.unusedVariables false
set_option linter.unusedSimpArgs false
theorem own : ownKnob Tryd.prog.godebug = none := by kernel_rfl
theorem laidOut : laidOutB Tryd.prog = true := by kernel_rfl
open Ly3

theorem gUp : Tryd.prog.globalNamed "busbar/wires.upright" = some 0 := by kernel_rfl
theorem tUp : (Tryd.prog.globals[0]?).map (·.type) = some 23 := by kernel_rfl
theorem of_laid {W : World} (h : laidMetH Tryd.prog Rows.wiresSidesRow.laid W) : Up W := by
  rw [MakeChecks.laidMetH_plain _ _ _ (by kernel_rfl)] at h
  obtain ⟨ps, ⟨g0, t0, cs0, f0, p0, q0, hg0, ht0, hv0, hd0, _, _⟩, _, _⟩ := h
  obtain rfl := Option.some.inj (gUp.symm.trans hg0)
  obtain rfl := Option.some.inj (tUp.symm.trans ht0)
  have e := exact_cells (sh := .ar 4 .bool) 10 rfl (by kernel_rfl) hd0 rfl
  obtain ⟨l0⟩ := cs0
  simp at e
  subst e
  exact ⟨by simpa using World.var?_cell hg0 hv0 0, by simpa using World.var?_cell hg0 hv0 1, by simpa using World.var?_cell hg0 hv0 2, by simpa using World.var?_cell hg0 hv0 3⟩

theorem hb_bit (l k : Nat) : hb l k = Nat.testBit l k := by
  unfold hb
  rw [Nat.testBit_eq_decide_div_mod_eq, Bool.eq_iff_iff]
  simp
theorem hb_and (a b k : Nat) : hb (a &&& b) k = (hb a k && hb b k) := by simp [hb_bit]
theorem hb_or (a b k : Nat) : hb (a ||| b) k = (hb a k || hb b k) := by simp [hb_bit]
theorem hb_zero (k : Nat) : hb 0 k = false := by simp [hb_bit]
theorem hb_sides (a k : Nat) (hk : k < 4) : hb (orL [a &&& 3, a &&& 12] &&& 15) k = hb a k := by
  unfold orL
  simp only [List.foldl]
  rw [hb_and, hb_or, hb_or, hb_and, hb_and, hb_zero]
  rcases (show k = 0 ∨ k = 1 ∨ k = 2 ∨ k = 3 by omega) with rfl | rfl | rfl | rfl
  all_goals
    generalize hb a _ = u
    cases u <;> decide
theorem hb_swap (a b k : Nat) : hb (orL [b, a, b] &&& 15) k = hb (orL [a, b] &&& 15) k := by
  unfold orL
  simp only [List.foldl]
  simp only [hb_and, hb_or, hb_zero]
  generalize hb a k = u
  generalize hb b k = v
  cases u <;> cases v <;> simp
theorem cnt_sides (a : Nat) : cnt (a &&& 3) 4 + cnt (a &&& 12) 4 = cnt a 4 := by
  simp only [cnt, hb_and, show hb 3 0 = true by decide, show hb 3 1 = true by decide, show hb 3 2 = false by decide, show hb 3 3 = false by decide, show hb 12 0 = false by decide, show hb 12 1 = false by decide, show hb 12 2 = true by decide, show hb 12 3 = true by decide]
  generalize hb a 0 = u0
  generalize hb a 1 = u1
  generalize hb a 2 = u2
  generalize hb a 3 = u3
  cases u0 <;> cases u1 <;> cases u2 <;> cases u3 <;> decide
theorem cnt_ge (a b : Nat) : cnt a 4 ≤ cnt (orL [a, b] &&& 15) 4 := by
  unfold orL
  simp only [List.foldl]
  simp only [cnt, hb_and, hb_or, hb_zero, show hb 15 0 = true by decide, show hb 15 1 = true by decide, show hb 15 2 = true by decide, show hb 15 3 = true by decide]
  generalize hb a 0 = u0
  generalize hb a 1 = u1
  generalize hb a 2 = u2
  generalize hb a 3 = u3
  generalize hb b 0 = v0
  generalize hb b 1 = v1
  generalize hb b 2 = v2
  generalize hb b 3 = v3
  have s : ∀ u v : Bool, (if u = true then 1 else 0) ≤ (if ((false || u || v) && true) = true then 1 else 0) := by decide
  have s0 := s u0 v0
  have s1 := s u1 v1
  have s2 := s u2 v2
  have s3 := s u3 v3
  omega
theorem or15_lt (xs : List Nat) : orL xs &&& 15 < 256 := Nat.and_lt_two_pow (n := 8) _ (by decide)
theorem or2 (a b : Nat) (r : Nat) (ha : a < 256) (hb : b < 256) (hr : orL [a, b] &&& 15 = r) (w : World) (g : Nat) (t : TypeId) (c : Nat) (ho : Obj1 w g t #[.int .u8 a, .int .u8 b]) :
    Calls Tryd.prog 15 #[.slice (some ⟨g, 0, none⟩) 2 c] w fun e w' => e = .returned (.int .u8 r) ∧ w = w' := by
  subst hr
  refine or_any (some ⟨g, 0, none⟩) 2 c [a, b] w ⟨rfl, fun _ => ⟨g, 0, rfl, ho.lt, fun k hk => ?_⟩⟩ (by intro x hx; simp at hx; rcases hx with rfl | rfl <;> assumption) (by omega)
  rw [Nat.zero_add, ho.cell]
  rcases (show k = 0 ∨ k = 1 by omega) with rfl | rfl <;> rfl
theorem or3 (a b d : Nat) (r : Nat) (ha : a < 256) (hb : b < 256) (hd : d < 256) (hr : orL [a, b, d] &&& 15 = r) (w : World) (g : Nat) (t : TypeId) (c : Nat) (ho : Obj1 w g t #[.int .u8 a, .int .u8 b, .int .u8 d]) :
    Calls Tryd.prog 15 #[.slice (some ⟨g, 0, none⟩) 3 c] w fun e w' => e = .returned (.int .u8 r) ∧ w = w' := by
  subst hr
  refine or_any (some ⟨g, 0, none⟩) 3 c [a, b, d] w ⟨rfl, fun _ => ⟨g, 0, rfl, ho.lt, fun k hk => ?_⟩⟩ (by intro x hx; simp at hx; rcases hx with rfl | rfl | rfl <;> assumption) (by omega)
  rw [Nat.zero_add, ho.cell]
  rcases (show k = 0 ∨ k = 1 ∨ k = 2 by omega) with rfl | rfl | rfl <;> rfl
theorem side_c (l : Nat) (y : Bool) (r : Nat) (hr : l &&& pulseF y = r) (w : World) (hl : l < 256) : Calls Tryd.prog 16 #[.int .u8 l, .bool y] w fun e w' => e = .returned (.int .u8 r) ∧ w = w' := by
  subst hr; exact side_any l y w hl
theorem count_c (l r : Nat) (hr : cnt l 4 = r) (hl : l < 256) (w : World) : Calls Tryd.prog 12 #[.int .u8 l] w fun e w' => e = .returned (.int .i64 r) ∧ w = w' := by
  subst hr; exact count_any l w hl
theorem high_c (l k : Nat) (u : Bool) (hu : hb l k = u) (w : World) (hl : l < 256) (hk : k < 4) : Calls Tryd.prog 9 #[.int .u8 l, .int .i64 k] w fun e w' => e = .returned (.bool u) ∧ w = w' := by
  subst hu; exact high_at l k w hl hk

theorem obj_second (w : World) (xs cs : Array Value) (t s : TypeId) : Obj1 ((w.alloc (.cells xs s)).alloc (.cells cs t)) (w.heap.size + 1) t cs := by
  have := Obj1.new (w.alloc (.cells xs s)) t cs
  simpa using this

def IRel (w : World) (i : Value) (wr : World) : Prop := ∃ k : Nat, k ≤ 4 ∧ i = .int .i64 k ∧ Below w.heap.size w wr

set_option maxRecDepth 100000 in
set_option maxHeartbeats 1500000 in
theorem walk0 (a b : Nat) (w : World) (hU : Up w) (ha : a < 256) (hb' : b < 256) :
    Calls Tryd.prog 6 #[.int .u8 a, .int .u8 b] w fun e w' => e = .returned (.bool true) ∧ Below w.heap.size w w' := by
  have HU := Lib.hid hU
  clear hU
  have hx : a &&& 3 < 256 := Nat.and_lt_two_pow (n := 8) _ (by decide)
  have hy : a &&& 12 < 256 := Nat.and_lt_two_pow (n := 8) _ (by decide)
  obtain ⟨x, HX⟩ : ∃ x, Hid (a &&& 3 = x) := ⟨_, Lib.hid rfl⟩
  obtain ⟨y, HY⟩ : ∃ y, Hid (a &&& 12 = y) := ⟨_, Lib.hid rfl⟩
  have hcs := cnt_sides a
  have hsd := fun k => hb_sides a k
  rw [HX.out] at hx
  rw [HY.out] at hy
  rw [HX.out, HY.out] at hcs
  simp only [HX.out, HY.out] at hsd
  obtain ⟨c, HC⟩ : ∃ c, Hid (orL [x, y] &&& 15 = c) := ⟨_, Lib.hid rfl⟩
  have hc : c < 256 := by rw [← HC.out]; exact or15_lt _
  simp only [HC.out] at hsd
  obtain ⟨d, HD⟩ : ∃ d, Hid (orL [a, b] &&& 15 = d) := ⟨_, Lib.hid rfl⟩
  have hd : d < 256 := by rw [← HD.out]; exact or15_lt _
  obtain ⟨f, HF⟩ : ∃ f, Hid (orL [b, a, b] &&& 15 = f) := ⟨_, Lib.hid rfl⟩
  have hf : f < 256 := by rw [← HF.out]; exact or15_lt _
  have hsw := fun k => hb_swap a b k
  simp only [HF.out, HD.out] at hsw
  have hge := cnt_ge a b
  rw [HD.out] at hge
  have HCS := Lib.hid hcs
  have HSD := Lib.hid hsd
  have HSW := Lib.hid hsw
  have HGE := Lib.hid hge
  clear hcs hsd hsw hge
  have SX := Lib.hid (fun W => side_c a false x HX.out W ha)
  have SY := Lib.hid (fun W => side_c a true y HY.out W ha)
  go_enter Tryd.func6, Tryd.ntmps6
  go_wp2_with fail
  refine (SX.out _).mono ?_
  rintro e w' ⟨rfl, rfl⟩
  go_wp2_with fail
  refine (SY.out _).mono ?_
  rintro e w' ⟨rfl, rfl⟩
  go_wp2_with fail
  refine (or2 x y c hx hy HC.out _ _ 22 _ (Obj1.new _ _ _)).mono ?_
  rintro e w1 ⟨rfl, rfl⟩
  go_wp2_with fail
  go_loopw [6] (fun i wr => IRel w i wr) (fun i _ => 4 - (intOf i).toNat)
  case atStart => exact ⟨0, by omega, rfl, (Below.refl _ _).alloc (Nat.le_refl _) _⟩
  case round =>
    obtain ⟨k, hk, rfl, hbel⟩ := hrel
    rcases Nat.lt_or_eq_of_le hk with hlt | heq
    · obtain ⟨u, HQ⟩ : ∃ u, Hid (hb a k = u) := ⟨_, Lib.hid rfl⟩
      obtain ⟨v, HV⟩ : ∃ v, Hid (hb d k = v) := ⟨_, Lib.hid rfl⟩
      have A1 := Lib.hid (fun W => high_c c k u ((HSD.out k hlt).trans HQ.out) W hc hlt)
      have A2 := Lib.hid (fun W => high_c a k u HQ.out W ha hlt)
      have A3 := Lib.hid (fun W => high_c d k v HV.out W hd hlt)
      have A4 := Lib.hid (fun W => high_c f k v ((HSW.out k).trans HV.out) W hf hlt)
      cases u <;> cases v
      all_goals
        go_wp2_with fail
        refine (A1.out _).mono ?_
        rintro e w' ⟨rfl, rfl⟩
        go_wp2_with fail
        refine (A2.out _).mono ?_
        rintro e w' ⟨rfl, rfl⟩
        go_wp2_with fail
        refine (or2 a b d ha hb' HD.out _ _ 22 _ (Obj1.new wr 22 #[.int .u8 a, .int .u8 b])).mono ?_
        rintro e w' ⟨rfl, rfl⟩
        go_wp2_with fail
        refine (A3.out _).mono ?_
        rintro e w' ⟨rfl, rfl⟩
        go_wp2_with fail
        refine (or3 b a b f hb' ha hb' HF.out ((wr.alloc (.cells #[.int .u8 a, .int .u8 b] 22)).alloc (.cells #[.int .u8 b, .int .u8 a, .int .u8 b] 22)) (wr.heap.size + 1) 22 3 (obj_second wr _ _ _ _)).mono ?_
        rintro e w' ⟨rfl, rfl⟩
        go_wp2_with fail
        refine (A4.out _).mono ?_
        rintro e w' ⟨rfl, rfl⟩
        go_wp2
        go_roundw
        case rel =>
          refine ⟨k + 1, by omega, by go_num, ?_⟩
          repeat (first | exact Below.refl _ _ | refine Below.setCell ?_ (by first | omega | (simp; done) | (simp; omega) | (have := hbel.size; simp at this ⊢; omega)) _ | refine Below.alloc ?_ (by first | omega | (simp; done) | (simp; omega) | (have := hbel.size; simp at this ⊢; omega)) _ | refine below_drewN' ?_ _ | refine Below.drew ?_ | refine Below.trans ?_ (hbel.mono (by first | omega | (simp; done) | (simp; omega) | (have := hbel.size; simp at this ⊢; omega))))
        case measure => simp [intOf]; omega
    · subst heq
      have hp := cnt_le x 4
      have hq := cnt_le y 4
      have hr := cnt_le a 4
      have ht := cnt_le d 4
      obtain ⟨p, HP⟩ : ∃ p, Hid (cnt x 4 = p) := ⟨_, Lib.hid rfl⟩
      obtain ⟨q, HQ⟩ : ∃ q, Hid (cnt y 4 = q) := ⟨_, Lib.hid rfl⟩
      obtain ⟨r, HR⟩ : ∃ r, Hid (cnt a 4 = r) := ⟨_, Lib.hid rfl⟩
      obtain ⟨t, HT⟩ : ∃ t, Hid (cnt d 4 = t) := ⟨_, Lib.hid rfl⟩
      have hpq := HCS.out
      have hrt := HGE.out
      rw [HP.out, HQ.out, HR.out] at hpq
      rw [HR.out, HT.out] at hrt
      rw [HP.out] at hp
      rw [HQ.out] at hq
      rw [HR.out] at hr
      rw [HT.out] at ht
      have C1 := Lib.hid (fun W => count_c x p HP.out hx W)
      have C2 := Lib.hid (fun W => count_c y q HQ.out hy W)
      have C3 := Lib.hid (fun W => count_c a r HR.out ha W)
      have C4 := Lib.hid (fun W => count_c d t HT.out hd W)
      have hd1 : decide ((p : Int) + (q : Int) = (r : Int)) = true := by simp; omega
      have hd2 : ((p : Int) + (q : Int) == (r : Int)) = true := by simp; omega
      have hd3 : decide ((r : Int) ≤ (t : Int)) = true := by simp; omega
      have hd4 : decide (r ≤ t) = true := by simp; omega
      clear HCS HGE HSD HSW
      go_wp2_with fail
      refine (SX.out _).mono ?_
      rintro e w' ⟨rfl, rfl⟩
      go_wp2_with fail
      refine (C1.out _).mono ?_
      rintro e w' ⟨rfl, rfl⟩
      go_wp2_with fail
      refine (SY.out _).mono ?_
      rintro e w' ⟨rfl, rfl⟩
      go_wp2_with fail
      refine (C2.out _).mono ?_
      rintro e w' ⟨rfl, rfl⟩
      go_wp2_with fail
      refine (C3.out _).mono ?_
      rintro e w' ⟨rfl, rfl⟩
      go_wp2_with fail
      refine (or2 a b d ha hb' HD.out _ _ 22 _ (Obj1.new wr 22 #[.int .u8 a, .int .u8 b])).mono ?_
      rintro e w' ⟨rfl, rfl⟩
      go_wp2_with fail
      refine (C4.out _).mono ?_
      rintro e w' ⟨rfl, rfl⟩
      go_wp2_with fail
      refine (C3.out _).mono ?_
      rintro e w' ⟨rfl, rfl⟩
      go_wp2_with fail
      refine (one_any _ ((HU.out.kept hbel).kept ((Below.refl _ _).alloc (Nat.le_refl _) _))).mono ?_
      rintro e w7 ⟨rfl, hb7⟩
      go_wp2
      go_ret
      refine ⟨rfl, ?_⟩
      have z4 := hbel.size
      exact (hbel.alloc z4 _).trans (hb7.mono (by simp; omega))

theorem walk (a b : Int) (w : World) (hU : Up w) (a0 : 0 ≤ a) (a1 : a ≤ 255) (b0 : 0 ≤ b) (b1 : b ≤ 255) :
    Calls Tryd.prog 6 #[.int .u8 a, .int .u8 b] w fun e w' => e = .returned (.bool true) ∧ Below w.heap.size w w' := by
  obtain ⟨n, rfl⟩ : ∃ n : Nat, a = n := ⟨a.toNat, by omega⟩
  obtain ⟨m, rfl⟩ : ∃ m : Nat, b = m := ⟨b.toNat, by omega⟩
  exact walk0 n m w hU (by omega) (by omega)

theorem door_met (os : Os) (args : Array Value) : laidMetH Tryd.prog Rows.wiresSidesRow.laid ((World.doorLaid Tryd.prog 400 os).forCall (fun _ _ => 0) ⟨#[], args, []⟩).memory :=
  laidMetH_of_parts3 (fuel := 8) (laidMet_of_run' 8 (by kernel_rfl) (by kernel_rfl)) (by kernel_rfl) (by kernel_rfl)
set_option maxRecDepth 100000 in
theorem lifted (os : Os) (started : os.Started) (H : Type) (enc : TypeId × Value → H) :
    ReturnsInHanded {} Tryd.checked os 6 .any (fun w args => (Rows.wiresSidesSpec.pre enc Tryd.prog Tryd.f6 [] false w args ∧ laidMetH Tryd.prog Rows.wiresSidesRow.laid w) ∧ sizedMet enc Tryd.prog Tryd.f6 (OpenSpec.ofChange Rows.wiresSidesSpec) false w args)
      (Rows.wiresSidesSpec.post enc Tryd.prog Tryd.f6 false true false false) := by
  refine returnsInHanded_of_change_and (C := Tryd.checked) (X := fun w _ => laidMetH Tryd.prog Rows.wiresSidesRow.laid w) (fun _ _ _ hh h => h.of_heap hh) own started (by kernel_rfl) Tryd.func6
    (ChangeSpec.witness_shaped (enc := enc) (C := Tryd.checked) (os := os) (X := fun w _ => laidMetH Tryd.prog Rows.wiresSidesRow.laid w) false (World.doorLaid Tryd.prog 400 os) #[.int .u8 0, .int .u8 0] 8 rfl (World.shaped_of_RefB (by kernel_rfl) (by kernel_rfl)) (by kernel_rfl) (by kernel_rfl) (by kernel_rfl) (door_met os _)) ?_
  intro W base args ds gs before hval0 hW _ _ hL _
  have hval : ∀ (j : Nat) t v, Tryd.f6.params[j]? = some t → args[j]? = some v → Value.okWide Tryd.prog W .any base t v := hval0
  have hW' := hW
  obtain ⟨p, q, hA0, hV, rfl, hfz, hnd⟩ := hW
  have hA : DataW.TrodAll enc Tryd.prog W 0 (fun _ => true) true Tryd.f6.params.toList args.toList ds p := hA0
  rw [Tryd.params6] at hA hval
  obtain ⟨v0, vs0, d0, ds0, p0, q0, hargs, rfl, rfl, h0, r0⟩ := trodAll_cons hA
  obtain ⟨v1, vs1, d1, ds1, p1, q1, rfl, rfl, rfl, h1, r1⟩ := trodAll_cons r0
  obtain ⟨rfl, rfl, rfl⟩ := trodAll_nil r1
  obtain rfl : args = #[v0, v1] := by cases args; simp_all
  obtain ⟨rfl, rfl⟩ := trodVars_none hV
  obtain ⟨a, rfl, rfl, rfl, wf0⟩ := open_int Tryd.underlying22 (hval 0 22 v0 rfl rfl) h0
  have bd0 := bounds_u8 wf0
  obtain ⟨b, rfl, rfl, rfl, wf1⟩ := open_int Tryd.underlying22 (hval 1 22 v1 rfl rfl) h1
  have bd1 := bounds_u8 wf1
  clear hA0 hval0
  refine (walk a b W (of_laid hL) bd0.1 bd0.2 bd1.1 bd1.2).mono fun e W' ⟨he, bel⟩ => ?_
  subst he
  exact ⟨_, rfl, _, _, _, [], _, [], hW', trodAll_mk1 (shut_bool Tryd.underlying4 _), (trodAll_cons_mk (shut_int Tryd.underlying22 wf0) (trodAll_cons_mk (shut_int Tryd.underlying22 wf1) trodAll_mk0)), rfl, bel.frame _, fun h => by cases h⟩

theorem over : Rows.wiresSidesRow.holds Tryd.pinned (OpenSpec.ofChange Rows.wiresSidesSpec) :=
  OpenClaim.holds_of_wide 6 Tryd.f6 rfl rfl rfl rfl rfl rfl rfl ⟨rfl, rfl, rfl, rfl, rfl⟩ rfl rfl rfl rfl rfl (by kernel_rfl) Tryd.func6 (by kernel_rfl)
    (of_decide_eq_true (by kernel_rfl)) (by unfold Func.isWrapper; first | (rw [if_pos (by decide +kernel)]; kernel_rfl) | (rw [if_neg (by decide +kernel)]; exact ⟨rfl, rfl⟩))
    (fun os started H enc _ => lifted os started H enc)

/-- The card: what the row lists is tied to the program's text. -/
theorem proved : Rows.WiresSidesCardSaid :=
  Claim7.holds_tied_plain_at .later [] [.data] true Rows.wiresSidesCard.stood.harness false
    over (fun _ h => by cases h) (by kernel_rfl) (fun _ h => by cases h) wiresSides_row_tie rfl ⟨rfl, rfl⟩ (by kernel_rfl) rfl
    (fun f fn hf hfn => by
      obtain rfl : f = 6 := Option.some.inj ((show Tryd.prog.funcNamed "busbar/busbarlaw03.WiresSides" = some 6 by kernel_rfl).symm.trans hf) |>.symm
      obtain rfl : fn = Tryd.f6 := (Option.some.inj (Tryd.func6.symm.trans hfn)).symm
      exact ⟨by kernel_rfl, fun j t ht => by
        rw [Tryd.params6] at ht
        have hm : t ∈ [22, 22] := by simpa using Array.mem_of_getElem? ht
        have hall : ([22, 22].all fun u => !Tryd.prog.wantsStandIn u) = true := by kernel_rfl
        exact (show Tryd.prog.wantsStandIn t = false by simpa using List.all_eq_true.1 hall t hm)⟩)
    (by kernel_rfl)
end Go.Proofs.YtbhdenjahojbbaaDoor.lawWiresSides
