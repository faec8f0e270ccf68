/- The contracts of package plan's Ticks and slot, and of the document's Bits; no condition but that lists have the room that they say. -/
import Derived.Test.YtkankdecbefenaaDoorPlnC
import Derived.Test.YtkankdecbefenaaDoorRegL
import Derived.IntWalk
import Derived.Deep.DeepCutAuto
import Derived.Deep.CutBlock
namespace Go.Proofs.YtkankdecbefenaaDoor.Ly7
open Go.ChangeShapes Go.WideShapes Go.ChangeAt Go.RowKit Base
set_option linter.unusedVariables false
set_option linter.unusedSimpArgs false

/-- How many ticks a window has, by its kind, its bits, words and candidates. -/
def tkI (k : Int) (g u q : Nat) : Int := if k = 0 then (10 + 8 * (u : Int) + 4 * ((q : Int) - 1)) * 20 else if k = 1 then (g : Int) * 20 else if k = 2 then 120 else 0
theorem tkI_bd (k : Int) {g u q : Nat} (hg : g ≤ 1000) (hu : u ≤ 8) (hq : 1 ≤ q) (hq4 : q ≤ 4) : 0 ≤ tkI k g u q ∧ tkI k g u q ≤ 20000 := by unfold tkI; split <;> (try split) <;> (try split) <;> omega
def gapN (b : Int) : Nat := cutN b 1000
set_option maxRecDepth 100000 in
set_option maxHeartbeats 2000000 in
theorem ticks_any (k b wd ad : Int) (A : Option Addr) (n c : Nat) (B : Option Addr) (m d : Nat) (g u q : Nat) (hg : cutN b 1000 = g) (hu : cutN wd 8 = u) (hq : max (min n 4) 1 = q) (hc : n ≤ c) (T : Int) (hT : tkI k g u q = T) (w : World) :
    Calls Tryd.prog 28 #[.agg #[.int .i64 k, .int .i64 b, .int .i64 wd, .int .i64 ad, .slice A n c, .slice B m d]] w fun e w' => e = .returned (.int .i64 T) ∧ Below w.heap.size w w' := by
  by_cases h0 : k = 0
  · subst h0
    have HW := Lib.hid (fun W => words_any 0 b wd ad A n c B m d u hu W)
    have HM := Lib.hid (fun W => many_any 0 b wd ad A n c B m d q hq hc W)
    have u8 := cutN_le wd 8
    rw [hu] at u8
    have hq4 : 1 ≤ q ∧ q ≤ 4 := by omega
    have e1 : IntKind.i64.wrap (8 * (u : Int)) = 8 * (u : Int) := IntWalk.i64_in _ (by omega)
    have e2 : IntKind.i64.wrap (10 + 8 * (u : Int)) = 10 + 8 * (u : Int) := IntWalk.i64_in _ (by omega)
    have e3 : IntKind.i64.wrap ((q : Int) - 1) = (q : Int) - 1 := IntWalk.i64_in _ (by omega)
    have e4 : IntKind.i64.wrap (4 * ((q : Int) - 1)) = 4 * ((q : Int) - 1) := IntWalk.i64_in _ (by omega)
    have e5 : IntKind.i64.wrap (10 + 8 * (u : Int) + 4 * ((q : Int) - 1)) = 10 + 8 * (u : Int) + 4 * ((q : Int) - 1) := IntWalk.i64_in _ (by omega)
    have e6 : IntKind.i64.wrap ((10 + 8 * (u : Int) + 4 * ((q : Int) - 1)) * 20) = (10 + 8 * (u : Int) + 4 * ((q : Int) - 1)) * 20 := IntWalk.i64_in _ (by omega)
    have HT := Lib.hid (show T = (10 + 8 * (u : Int) + 4 * ((q : Int) - 1)) * 20 by rw [← hT]; unfold tkI; rw [if_pos rfl])
    clear hT hu hq hg u8 hq4
    obtain ⟨W1, HW1⟩ : ∃ W1, W1 = w.alloc (.cells #[.int .i64 0, .int .i64 b, .int .i64 wd, .int .i64 ad, .slice A n c, .slice B m d] 56) := ⟨_, rfl⟩
    have HO := Lib.hid (Obj1.new w 56 #[.int .i64 0, .int .i64 b, .int .i64 wd, .int .i64 ad, .slice A n c, .slice B m d])
    have HB := Lib.hid (bel1 w (.cells #[.int .i64 0, .int .i64 b, .int .i64 wd, .int .i64 ad, .slice A n c, .slice B m d] 56))
    rw [← HW1] at HO HB
    go_enter Tryd.func28, Tryd.ntmps28
    go_upto_region 3 with (fail)
    rw [← HW1]
    clear HW1
    have K : ∀ x : Kin W1.drew, Obj1 x.world w.heap.size 56 #[.int .i64 0, .int .i64 b, .int .i64 wd, .int .i64 ad, .slice A n c, .slice B m d] := fun x => (HO.out.drew).kept x.below
    have K0 : ∀ x : Kin W1.drew, x.world.cell? ⟨w.heap.size, 0, none⟩ = some (.int .i64 0) := fun x => (K x).cell 0
    have K1 : ∀ x : Kin W1.drew, x.world.cell? ⟨w.heap.size, 1, none⟩ = some (.int .i64 b) := fun x => (K x).cell 1
    have K2 : ∀ x : Kin W1.drew, x.world.cell? ⟨w.heap.size, 2, none⟩ = some (.int .i64 wd) := fun x => (K x).cell 2
    have K3 : ∀ x : Kin W1.drew, x.world.cell? ⟨w.heap.size, 3, none⟩ = some (.int .i64 ad) := fun x => (K x).cell 3
    have K4 : ∀ x : Kin W1.drew, x.world.cell? ⟨w.heap.size, 4, none⟩ = some (.slice A n c) := fun x => (K x).cell 4
    have K5 : ∀ x : Kin W1.drew, x.world.cell? ⟨w.heap.size, 5, none⟩ = some (.slice B m d) := fun x => (K x).cell 5
    clear K
    refine wp_region_specL 11 [.d (.agg #[.int .i64 0, .int .i64 b, .int .i64 wd, .int .i64 ad, .slice A n c, .slice B m d]), .d (.int .i64 (u : Int)), .d (.int .i64 (8 * (u : Int))), .d (.int .i64 (10 + 8 * (u : Int))), .d (.agg #[.int .i64 0, .int .i64 b, .int .i64 wd, .int .i64 ad, .slice A n c, .slice B m d]), .d (.int .i64 (q : Int)), .d (.int .i64 ((q : Int) - 1)), .d (.int .i64 (4 * ((q : Int) - 1))), .d (.int .i64 (10 + 8 * (u : Int) + 4 * ((q : Int) - 1))), .d (.int .i64 ((10 + 8 * (u : Int) + 4 * ((q : Int) - 1)) * 20)), .d (.int .i64 ((10 + 8 * (u : Int) + 4 * ((q : Int) - 1)) * 20))] (by kernel_rfl) (by kernel_rfl) ?_
    refine spec_d rfl (fun x _ => gives_run (by go_simp)) ?_
    try simp only [Act.put, List.getElem_toArray, List.getElem_cons_succ, List.getElem_cons_zero, List.setIfInBounds_toArray, List.set_cons_zero, List.set_cons_succ]
    refine spec_d rfl (fun x _ => gives_det (by go_simp) (HW.out x.world)) ?_
    try simp only [Act.put, List.getElem_toArray, List.getElem_cons_succ, List.getElem_cons_zero, List.setIfInBounds_toArray, List.set_cons_zero, List.set_cons_succ]
    refine spec_d rfl (fun x _ => gives_run (by go_simp)) ?_
    try simp only [Act.put, List.getElem_toArray, List.getElem_cons_succ, List.getElem_cons_zero, List.setIfInBounds_toArray, List.set_cons_zero, List.set_cons_succ]
    refine spec_d rfl (fun x _ => gives_run (by go_simp)) ?_
    try simp only [Act.put, List.getElem_toArray, List.getElem_cons_succ, List.getElem_cons_zero, List.setIfInBounds_toArray, List.set_cons_zero, List.set_cons_succ]
    refine spec_d rfl (fun x _ => gives_run (by go_simp)) ?_
    try simp only [Act.put, List.getElem_toArray, List.getElem_cons_succ, List.getElem_cons_zero, List.setIfInBounds_toArray, List.set_cons_zero, List.set_cons_succ]
    refine spec_d rfl (fun x _ => gives_det (by go_simp) (HM.out x.world)) ?_
    try simp only [Act.put, List.getElem_toArray, List.getElem_cons_succ, List.getElem_cons_zero, List.setIfInBounds_toArray, List.set_cons_zero, List.set_cons_succ]
    refine spec_d rfl (fun x _ => gives_run (by go_simp)) ?_
    try simp only [Act.put, List.getElem_toArray, List.getElem_cons_succ, List.getElem_cons_zero, List.setIfInBounds_toArray, List.set_cons_zero, List.set_cons_succ]
    refine spec_d rfl (fun x _ => gives_run (by go_simp)) ?_
    try simp only [Act.put, List.getElem_toArray, List.getElem_cons_succ, List.getElem_cons_zero, List.setIfInBounds_toArray, List.set_cons_zero, List.set_cons_succ]
    refine spec_d rfl (fun x _ => gives_run (by go_simp)) ?_
    try simp only [Act.put, List.getElem_toArray, List.getElem_cons_succ, List.getElem_cons_zero, List.setIfInBounds_toArray, List.set_cons_zero, List.set_cons_succ]
    refine spec_d rfl (fun x _ => gives_run (by go_simp)) ?_
    try simp only [Act.put, List.getElem_toArray, List.getElem_cons_succ, List.getElem_cons_zero, List.setIfInBounds_toArray, List.set_cons_zero, List.set_cons_succ]
    refine spec_d rfl (fun x _ => gives_run (by go_simp)) ?_
    try simp only [Act.put, List.getElem_toArray, List.getElem_cons_succ, List.getElem_cons_zero, List.setIfInBounds_toArray, List.set_cons_zero, List.set_cons_succ]
    refine spec_end (fun x hx => ?_)
    clear hx
    refine wpAny_done (by kernel_rfl) ?_ _
    have HBE := Lib.hid (HB.out.trans (((bel_drew W1).trans x.below).mono HB.out.size))
    clear K0 K1 K2 K3 K4 K5
    generalize x.world = w8 at HBE ⊢
    go_wp2
    go_ret
    exact ⟨ret_int HT.out.symm, HBE.out⟩
  · have h0' : (k == 0) = false := by simpa using h0
    by_cases h1 : k = 1
    · subst h1
      have HT := Lib.hid (show T = (g : Int) * 20 by rw [← hT]; unfold tkI; rw [if_neg (by omega), if_pos rfl])
      clear hT h0 h0'
      rcases cutN_is _ _ _ (by omega) hg with ⟨h, rfl⟩ | ⟨h, h', rfl⟩ | ⟨h, h'⟩
      · clear hg
        go_enter Tryd.func28, Tryd.ntmps28
        go_wp2
        all_goals
          go_ret
          exact ⟨by first | rfl | exact ret_int (by have := HT.out; omega), bel1 _ _⟩
      · have hw : IntKind.i64.wrap ((g : Int) * 20) = (g : Int) * 20 := IntWalk.i64_in _ (by omega)
        clear hg
        go_enter Tryd.func28, Tryd.ntmps28
        go_wp2
        all_goals
          go_ret
          exact ⟨by first | rfl | exact ret_int (by have := HT.out; omega), bel1 _ _⟩
      · obtain rfl : g = 1000 := by omega
        clear hg h'
        go_enter Tryd.func28, Tryd.ntmps28
        go_wp2
        all_goals
          go_ret
          exact ⟨by first | rfl | exact ret_int (by have := HT.out; omega), bel1 _ _⟩
    · have h1' : (k == 1) = false := by simpa using h1
      by_cases h2 : k = 2
      · subst h2
        have HT := Lib.hid (show T = 120 by rw [← hT]; rfl)
        clear hT h0 h0' h1 h1'
        go_enter Tryd.func28, Tryd.ntmps28
        go_wp2
        go_ret
        exact ⟨ret_int HT.out.symm, bel1 _ _⟩
      · have h2' : (k == 2) = false := by simpa using h2
        have HT := Lib.hid (show T = 0 by rw [← hT]; unfold tkI; rw [if_neg h0, if_neg h1, if_neg h2])
        clear hT h0 h1 h2
        go_enter Tryd.func28, Tryd.ntmps28
        go_wp2
        go_ret
        exact ⟨ret_int HT.out.symm, bel1 _ _⟩
set_option maxRecDepth 100000 in
set_option maxHeartbeats 2000000 in
theorem rbits_any (k b wd ad : Int) (A : Option Addr) (n c : Nat) (B : Option Addr) (m d : Nat) (g u q : Nat) (hg : cutN b 1000 = g) (hu : cutN wd 8 = u) (hq : max (min n 4) 1 = q) (hn : n ≤ 9223372036854775807) (T : Int) (hT : tkI k g u q = T) (w : World) :
    Calls Tryd.prog 25 #[.agg #[.int .i64 k, .int .i64 b, .int .i64 wd, .int .i64 ad, .slice A n c, .slice B m d]] w fun e w' => ∃ G : Int, e = .returned (.int .i64 G) ∧ 20 * G = T ∧ Below w.heap.size w w' := by
  by_cases h0 : k = 0
  · subst h0
    have HW := Lib.hid (fun W => rcut_any wd 8 u hu (by omega) W)
    obtain ⟨p, hp⟩ : ∃ p, cutN (n : Int) 4 = p := ⟨_, rfl⟩
    have HM := Lib.hid (fun W => rcut_any (n : Int) 4 p hp (by omega) W)
    have hpq : max 1 p = q := by unfold cutN at hp; omega
    have u8 := cutN_le wd 8
    rw [hu] at u8
    have hq4 : 1 ≤ q ∧ q ≤ 4 ∧ p ≤ 4 := by unfold cutN at hp; omega
    have e1 : IntKind.i64.wrap (8 * (u : Int)) = 8 * (u : Int) := IntWalk.i64_in _ (by omega)
    have e2 : IntKind.i64.wrap (10 + 8 * (u : Int)) = 10 + 8 * (u : Int) := IntWalk.i64_in _ (by omega)
    have e3 : IntKind.i64.wrap ((p : Int) - 1) = (p : Int) - 1 := IntWalk.i64_in _ (by omega)
    have e3' : max 0 ((p : Int) - 1) = (q : Int) - 1 := by omega
    have e4 : IntKind.i64.wrap (4 * ((q : Int) - 1)) = 4 * ((q : Int) - 1) := IntWalk.i64_in _ (by omega)
    have e5 : IntKind.i64.wrap (10 + 8 * (u : Int) + 4 * ((q : Int) - 1)) = 10 + 8 * (u : Int) + 4 * ((q : Int) - 1) := IntWalk.i64_in _ (by omega)
    have HT := Lib.hid (show 20 * (10 + 8 * (u : Int) + 4 * ((q : Int) - 1)) = T by rw [← hT]; unfold tkI; rw [if_pos rfl]; omega)
    clear hT hu hq hg u8 hq4 hp hpq
    obtain ⟨W1, HW1⟩ : ∃ W1, W1 = w.alloc (.cells #[.int .i64 0, .int .i64 b, .int .i64 wd, .int .i64 ad, .slice A n c, .slice B m d] 61) := ⟨_, rfl⟩
    have HO := Lib.hid (Obj1.new w 61 #[.int .i64 0, .int .i64 b, .int .i64 wd, .int .i64 ad, .slice A n c, .slice B m d])
    have HB := Lib.hid (bel1 w (.cells #[.int .i64 0, .int .i64 b, .int .i64 wd, .int .i64 ad, .slice A n c, .slice B m d] 61))
    rw [← HW1] at HO HB
    go_enter Tryd.func25, Tryd.ntmps25
    go_upto_region 3 with (fail)
    rw [← HW1]
    clear HW1
    have K2 : ∀ x : Kin W1.drew, x.world.cell? ⟨w.heap.size, 2, none⟩ = some (.int .i64 wd) := fun x => ((HO.out.drew).kept x.below).cell 2
    have K4 : ∀ x : Kin W1.drew, x.world.cell? ⟨w.heap.size, 4, none⟩ = some (.slice A n c) := fun x => ((HO.out.drew).kept x.below).cell 4
    refine wp_region_specL 14 [.d (.pointer (some ⟨w.heap.size, 2, none⟩)), .d (.int .i64 wd), .d (.int .i64 (u : Int)), .d (.int .i64 (8 * (u : Int))), .d (.int .i64 (10 + 8 * (u : Int))), .d (.pointer (some ⟨w.heap.size, 4, none⟩)), .d (.slice A n c), .d (.int .i64 (n : Int)), .d (.int .i64 (p : Int)), .d (.int .i64 ((p : Int) - 1)), .d (.int .i64 ((q : Int) - 1)), .d (.int .i64 (4 * ((q : Int) - 1))), .d (.int .i64 (10 + 8 * (u : Int) + 4 * ((q : Int) - 1))), .d (.int .i64 (10 + 8 * (u : Int) + 4 * ((q : Int) - 1)))] (by kernel_rfl) (by kernel_rfl) ?_
    refine spec_d rfl (fun x _ => gives_run (by go_simp)) ?_
    try simp only [Act.put, List.getElem_toArray, List.getElem_cons_succ, List.getElem_cons_zero, List.setIfInBounds_toArray, List.set_cons_zero, List.set_cons_succ]
    refine spec_d rfl (fun x _ => gives_run (by go_simp)) ?_
    try simp only [Act.put, List.getElem_toArray, List.getElem_cons_succ, List.getElem_cons_zero, List.setIfInBounds_toArray, List.set_cons_zero, List.set_cons_succ]
    refine spec_d rfl (fun x _ => gives_det_same (by go_simp) (HW.out x.world)) ?_
    try simp only [Act.put, List.getElem_toArray, List.getElem_cons_succ, List.getElem_cons_zero, List.setIfInBounds_toArray, List.set_cons_zero, List.set_cons_succ]
    refine spec_d rfl (fun x _ => gives_run (by go_simp)) ?_
    try simp only [Act.put, List.getElem_toArray, List.getElem_cons_succ, List.getElem_cons_zero, List.setIfInBounds_toArray, List.set_cons_zero, List.set_cons_succ]
    refine spec_d rfl (fun x _ => gives_run (by go_simp)) ?_
    try simp only [Act.put, List.getElem_toArray, List.getElem_cons_succ, List.getElem_cons_zero, List.setIfInBounds_toArray, List.set_cons_zero, List.set_cons_succ]
    refine spec_d rfl (fun x _ => gives_run (by go_simp)) ?_
    try simp only [Act.put, List.getElem_toArray, List.getElem_cons_succ, List.getElem_cons_zero, List.setIfInBounds_toArray, List.set_cons_zero, List.set_cons_succ]
    refine spec_d rfl (fun x _ => gives_run (by go_simp)) ?_
    try simp only [Act.put, List.getElem_toArray, List.getElem_cons_succ, List.getElem_cons_zero, List.setIfInBounds_toArray, List.set_cons_zero, List.set_cons_succ]
    refine spec_d rfl (fun x _ => gives_run (by go_simp)) ?_
    try simp only [Act.put, List.getElem_toArray, List.getElem_cons_succ, List.getElem_cons_zero, List.setIfInBounds_toArray, List.set_cons_zero, List.set_cons_succ]
    refine spec_d rfl (fun x _ => gives_det_same (by go_simp) (HM.out x.world)) ?_
    try simp only [Act.put, List.getElem_toArray, List.getElem_cons_succ, List.getElem_cons_zero, List.setIfInBounds_toArray, List.set_cons_zero, List.set_cons_succ]
    refine spec_d rfl (fun x _ => gives_run (by go_simp)) ?_
    try simp only [Act.put, List.getElem_toArray, List.getElem_cons_succ, List.getElem_cons_zero, List.setIfInBounds_toArray, List.set_cons_zero, List.set_cons_succ]
    refine spec_d rfl (fun x _ => gives_run (by go_simp; split <;> omega)) ?_
    try simp only [Act.put, List.getElem_toArray, List.getElem_cons_succ, List.getElem_cons_zero, List.setIfInBounds_toArray, List.set_cons_zero, List.set_cons_succ]
    refine spec_d rfl (fun x _ => gives_run (by go_simp)) ?_
    try simp only [Act.put, List.getElem_toArray, List.getElem_cons_succ, List.getElem_cons_zero, List.setIfInBounds_toArray, List.set_cons_zero, List.set_cons_succ]
    refine spec_d rfl (fun x _ => gives_run (by go_simp)) ?_
    try simp only [Act.put, List.getElem_toArray, List.getElem_cons_succ, List.getElem_cons_zero, List.setIfInBounds_toArray, List.set_cons_zero, List.set_cons_succ]
    refine spec_d rfl (fun x _ => gives_run (by go_simp)) ?_
    try simp only [Act.put, List.getElem_toArray, List.getElem_cons_succ, List.getElem_cons_zero, List.setIfInBounds_toArray, List.set_cons_zero, List.set_cons_succ]
    refine spec_end (fun x hx => ?_)
    clear hx
    refine wpAny_done (by kernel_rfl) ?_ _
    have HBE := Lib.hid (HB.out.trans (((bel_drew W1).trans x.below).mono HB.out.size))
    clear K2 K4
    generalize x.world = w8 at HBE ⊢
    go_wp2
    go_ret
    exact ⟨_, rfl, HT.out, HBE.out⟩
  · have h0' : (k == 0) = false := by simpa using h0
    by_cases h1 : k = 1
    · subst h1
      have HT := Lib.hid (show 20 * (g : Int) = T by rw [← hT]; unfold tkI; rw [if_neg (by omega), if_pos rfl]; omega)
      have HC := Lib.hid (fun W => rcut_any b 1000 g hg (by omega) W)
      clear hT h0 h0' hg
      go_enter Tryd.func25, Tryd.ntmps25
      go_wp2_with (go_at_call 26; refine (HC.out _).mono ?_; rintro e w' ⟨rfl, rfl⟩)
      go_ret
      exact ⟨_, rfl, HT.out, bel1 _ _⟩
    · have h1' : (k == 1) = false := by simpa using h1
      by_cases h2 : k = 2
      · subst h2
        have HT := Lib.hid (show 20 * (6 : Int) = T by rw [← hT]; rfl)
        clear hT h0 h0' h1 h1'
        go_enter Tryd.func25, Tryd.ntmps25
        go_wp2
        go_ret
        exact ⟨_, rfl, HT.out, bel1 _ _⟩
      · have h2' : (k == 2) = false := by simpa using h2
        have HT := Lib.hid (show 20 * (0 : Int) = T by rw [← hT]; unfold tkI; rw [if_neg h0, if_neg h1, if_neg h2]; rfl)
        clear hT h0 h1 h2
        go_enter Tryd.func25, Tryd.ntmps25
        go_wp2
        go_ret
        exact ⟨_, rfl, HT.out, bel1 _ _⟩
end Go.Proofs.YtkankdecbefenaaDoor.Ly7
