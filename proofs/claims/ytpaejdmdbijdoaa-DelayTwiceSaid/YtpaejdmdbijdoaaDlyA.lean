/- The contracts of package delay's functions: what each tells, and what the delay holds behind it. -/
import Derived.Test.YtpaejdmdbijdoaaObj
import Derived.Test.YtpaejdmdbijdoaaRows
import Derived.WalkKit
import Derived.ProofKit
import Derived.OpenShut
import Derived.WalkLawsBesides
import Derived.WalkSpells
import Derived.Lib.Hide
import Derived.RegionTactic
namespace Go.Proofs.Ytpaejdmdbijdoaa.Ly4
open Go.ChangeShapes Go.WideShapes Go.ChangeAt Go.RowKit Base
set_option linter.unusedVariables false
set_option linter.unusedSimpArgs false

/-- A delay of t ticks in block b, that took the values h. -/
def Dly (w : World) (b : Nat) (t : Nat) (h : List Int) : Prop :=
  ∃ cs : Array Value, Obj1 w b 36 cs ∧ cs.size = 19 ∧ cs[0]? = some (.bool true) ∧ cs[1]? = some (.int .i64 t) ∧ cs[2]? = some (.int .i64 h.length) ∧
    ∀ i, i < h.length → h.length ≤ i + 16 → cs[3 + i % 16]? = some (.int .u8 (h.getD i 0))

theorem Dly.kept {w w' : World} {b t : Nat} {h : List Int} (d : Dly w b t h) (hb : Below w.heap.size w w') : Dly w' b t h := by
  obtain ⟨cs, ho, r⟩ := d; exact ⟨cs, ho.kept hb, r⟩
theorem Dly.touch {w w' : World} {b g t : Nat} {h : List Int} (d : Dly w b t h) (ht : Wrote g w w') (hne : b ≠ g) : Dly w' b t h := by
  obtain ⟨cs, ho, r⟩ := d; exact ⟨cs, ho.touch ht hne, r⟩
theorem Dly.lt {w : World} {b t : Nat} {h : List Int} (d : Dly w b t h) : b < w.heap.size := by obtain ⟨cs, ho, r⟩ := d; exact ho.lt

/-- What a delay of t ticks tells last, of the values h. -/
def seenF (h : List Int) (t : Nat) : Int := if h.length ≤ t then 0 else h.getD (h.length - 1 - t) 0

theorem new_yes (t : Nat) (w : World) (h : t ≤ 15) :
    Calls Try.prog 14 #[.int .i64 t] w fun e w' => e = .returned (.tuple #[.pointer (some ⟨w.heap.size, 0, none⟩), .int .i64 0]) ∧ Dly w' w.heap.size t [] ∧ Below w.heap.size w w' := by
  go_enter Try.func14, Try.ntmps14
  go_wp2
  go_ret2
  exact ⟨rfl, ⟨_, Obj1.new _ _ _, rfl, rfl, rfl, rfl, fun i hi => by simp at hi⟩, (Below.refl _ _).alloc (Nat.le_refl _) _⟩
theorem new_no (t : Int) (w : World) (h : t < 0 ∨ 15 < t) : Calls Try.prog 14 #[.int .i64 t] w fun e w' => e = .returned (.tuple #[.pointer none, .int .i64 2]) ∧ w = w' := by
  rcases (show t < 0 ∨ (0 ≤ t ∧ 16 ≤ t) by omega) with g | ⟨g, g1⟩
  all_goals
    go_enter Try.func14, Try.ntmps14
    go_wp2
    go_ret2
    exact ⟨rfl, rfl⟩
theorem ticks_any (b t : Nat) (h : List Int) (w : World) (d : Dly w b t h) : Calls Try.prog 20 #[.pointer (some ⟨b, 0, none⟩)] w fun e w' => e = .returned (.int .i64 t) ∧ w = w' := by
  obtain ⟨cs, ho, _, h0, h1, h2, _⟩ := d
  have c1 := (ho.cell 1).trans h1
  clear ho h0 h1 h2
  go_enter Try.func20, Try.ntmps20
  go_wp2
  go_ret
  exact ⟨rfl, rfl⟩
theorem last_any (b t : Nat) (h : List Int) (w : World) (d : Dly w b t h) : Calls Try.prog 19 #[.pointer (some ⟨b, 0, none⟩)] w fun e w' => e = .returned (.int .i64 h.length) ∧ w = w' := by
  obtain ⟨cs, ho, _, h0, h1, h2, _⟩ := d
  have c1 := (ho.cell 2).trans h2
  clear ho h0 h1 h2
  go_enter Try.func19, Try.ntmps19
  go_wp2
  go_ret
  exact ⟨rfl, rfl⟩

theorem push_cells {cs : Array Value} {t K i : Nat} {h : List Int} {x : Int} (hs : cs.size = 19) (h0 : cs[0]? = some (.bool true)) (h1 : cs[1]? = some (.int .i64 t)) (hK : h.length = K) (hi : K % 16 = i)
    (hr : ∀ i, i < h.length → h.length ≤ i + 16 → cs[3 + i % 16]? = some (.int .u8 (h.getD i 0))) :
    let cs' := (cs.setIfInBounds (3 + i) (.int .u8 x)).setIfInBounds 2 (.int .i64 ((K : Int) + 1))
    cs'.size = 19 ∧ cs'[0]? = some (.bool true) ∧ cs'[1]? = some (.int .i64 t) ∧ cs'[2]? = some (.int .i64 (h ++ [x]).length) ∧
      ∀ i, i < (h ++ [x]).length → (h ++ [x]).length ≤ i + 16 → cs'[3 + i % 16]? = some (.int .u8 ((h ++ [x]).getD i 0)) := by
  intro cs'
  have hi16 : i < 16 := by omega
  refine ⟨by simp [cs', hs], ?_, ?_, ?_, ?_⟩
  · simp only [cs', Array.getElem?_setIfInBounds]
    rw [if_neg (by omega), if_neg (by omega)]; exact h0
  · simp only [cs', Array.getElem?_setIfInBounds]
    rw [if_neg (by omega), if_neg (by omega)]; exact h1
  · simp only [cs', Array.getElem?_setIfInBounds]
    rw [if_pos trivial]
    simp [hs, hK]
  · intro j hj hj2
    simp only [List.length_append, List.length_cons, List.length_nil] at hj hj2
    simp only [cs', Array.getElem?_setIfInBounds]
    rw [if_neg (by omega)]
    by_cases e : j = K
    · subst e
      rw [hi, if_pos rfl]
      simp [hs, hK, hi16]
      omega
    · rw [if_neg (by omega), hr j (by omega) (by omega)]
      simp [List.getD_eq_getElem?_getD, List.getElem?_append_left (show j < h.length by omega)]

theorem seen_no {h : List Int} {x : Int} {t K : Nat} (hK : h.length = K) (hl : K + 1 ≤ t) : seenF (h ++ [x]) t = 0 := by unfold seenF; rw [if_pos (by simp [hK]; omega)]
theorem seen_at {h : List Int} {x : Int} {t K : Nat} (hK : h.length = K) (hl : ¬ K + 1 ≤ t) : seenF (h ++ [x]) t = (h ++ [x]).getD (K - t) 0 := by
  unfold seenF
  rw [if_neg (by simp [hK]; omega)]
  simp only [List.length_append, List.length_cons, List.length_nil, hK]
  congr 1

set_option maxHeartbeats 1000000 in
theorem see_any (b t : Nat) (h : List Int) (x : Int) (w : World) (d : Dly w b t h) (ht : t ≤ 15) (hh : h.length ≤ 1000000000) (hx0 : 0 ≤ x) (hx1 : x ≤ 255) :
    Calls Try.prog 17 #[.pointer (some ⟨b, 0, none⟩), .int .u8 x] w fun e w' => e = .returned (.int .u8 (seenF (h ++ [x]) t)) ∧ Dly w' b t (h ++ [x]) ∧ Wrote b w w' := by
  obtain ⟨cs, ho, hs, h0, h1, h2, hr⟩ := d
  have c0 := (ho.cell 0).trans h0
  have c1 := (ho.cell 1).trans h1
  have c2 := (ho.cell 2).trans h2
  obtain ⟨K, HK⟩ : ∃ K, Hid (h.length = K) := ⟨_, rfl⟩
  rw [HK.out] at c2
  have hK : K ≤ 1000000000 := by rw [← HK.out]; exact hh
  obtain ⟨i, HI⟩ : ∃ i, Hid (K % 16 = i) := ⟨_, rfl⟩
  have hi16 : i < 16 := by have := HI.out; omega
  have hki : (K : Int) % 16 = (i : Int) := by have := HI.out; omega
  have f2 := ho.free 2
  have f3 := ho.free (3 + i)
  have c3 : ∃ v, w.cell? ⟨b, 3 + i, none⟩ = some v := ⟨cs[3 + i]'(by omega), by rw [ho.cell, Array.getElem?_eq_getElem (by omega)]⟩
  obtain ⟨v3, c3⟩ := c3
  have P := push_cells (x := x) hs h0 h1 HK.out HI.out hr
  have HO : Hid (Obj1 ((w.setCell ⟨b, 3 + i, none⟩ (.int .u8 x)).setCell ⟨b, 2, none⟩ (.int .i64 ((K : Int) + 1))).drew b 36 ((cs.setIfInBounds (3 + i) (.int .u8 x)).setIfInBounds 2 (.int .i64 ((K : Int) + 1)))) := (ho.set (3 + i) _).set 2 _
  have HW : Hid (Wrote b w ((w.setCell ⟨b, 3 + i, none⟩ (.int .u8 x)).setCell ⟨b, 2, none⟩ (.int .i64 ((K : Int) + 1))).drew) := (((Wrote.refl b w).set (.inl rfl) _).set (.inl rfl) _).drew
  generalize (cs.setIfInBounds (3 + i) (.int .u8 x)).setIfInBounds 2 (.int .i64 ((K : Int) + 1)) = cs' at HO P
  have HP := Lib.hid P
  clear h0 h1 h2 hs hh P hr ho
  go_enter Try.func17, Try.ntmps17
  go_wp2
  go_region
  go_wp2
  generalize ((w.setCell ⟨b, 3 + i, none⟩ (.int .u8 x)).setCell ⟨b, 2, none⟩ (.int .i64 ((K : Int) + 1))).drew = W at HO HW ⊢
  have e1 := (HO.out.cell 1).trans HP.out.2.2.1
  have e2 := (HO.out.cell 2).trans HP.out.2.2.2.1
  rw [List.length_append, HK.out] at e2
  have e2 : W.cell? ⟨b, 2, none⟩ = some (.int .i64 ((K : Int) + 1)) := e2
  have HD : Hid (Dly W b t (h ++ [x])) := ⟨cs', HO.out, HP.out⟩
  clear c0 c1 c2 c3 f2 f3
  by_cases hle : K + 1 ≤ t
  · have HS := Lib.hid (seen_no (x := x) HK.out hle)
    refine wp_region_quiet_lit (by kernel_rfl) (by kernel_rfl) ?_
    repeat (go_big_quiet_step (fail))
    refine wpQuiet_nil ?_
    intro _ hw'
    obtain ⟨nq, hw''⟩ := hw'
    subst hw''
    go_wp2
    go_ret
    exact ⟨by rw [HS.out]; rfl, HD.out, HW.out.drewN _⟩
  · have HS := Lib.hid (seen_at (x := x) HK.out hle)
    obtain ⟨j, HJ⟩ : ∃ j, Hid ((K - t) % 16 = j) := ⟨_, rfl⟩
    have hj16 : j < 16 := by have := HJ.out; omega
    have e4 := (HO.out.cell (3 + (K - t) % 16)).trans (HP.out.2.2.2.2 (K - t) (by simp [HK.out]; omega) (by simp [HK.out]; omega))
    rw [HJ.out, ← HS.out] at e4
    have hkj : ((K : Int) - t) % 16 = (j : Int) := by have := HJ.out; omega
    obtain ⟨y, HY⟩ : ∃ y, Hid (seenF (h ++ [x]) t = y) := ⟨_, rfl⟩
    rw [HY.out] at e4
    clear HS
    refine wp_region_quiet_lit (by kernel_rfl) (by kernel_rfl) ?_
    repeat (go_big_quiet_step (fail))
    refine wpQuiet_nil ?_
    intro _ hw'
    obtain ⟨nq, hw''⟩ := hw'
    subst hw''
    go_wp2
    refine wp_region_quiet_lit (by kernel_rfl) (by kernel_rfl) ?_
    repeat (go_big_quiet_step (fail))
    refine wpQuiet_nil ?_
    intro _ hw'
    obtain ⟨nq, hw''⟩ := hw'
    subst hw''
    go_wp2
    go_ret
    exact ⟨by rw [HY.out]; rfl, HD.out, (HW.out.drewN _).drewN _⟩
end Go.Proofs.Ytpaejdmdbijdoaa.Ly4
