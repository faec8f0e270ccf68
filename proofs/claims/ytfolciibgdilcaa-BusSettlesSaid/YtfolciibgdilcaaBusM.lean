/- What modules drive, put by put: plain lists; no condition. -/
import Derived.Test.YtfolciibgdilcaaBusC
namespace Go.Proofs.Ytfolciibgdilcaa.Ly24
open Go.ChangeShapes Go.WideShapes Go.ChangeAt Go.RowKit Base
set_option linter.unusedVariables false
set_option linter.unusedSimpArgs false

abbrev Puts := List (Int × Nat)
/-- What one module drives. -/
def hits (ps : Puts) (m : Nat) : Nat := ps.foldr (fun p d => if p.1 = (m : Int) then (p.2 &&& 15) ||| d else d) 0
def D (ps : Puts) : List Nat := (List.range 16).map (hits ps)
theorem hits_cons (p : Int × Nat) (ps : Puts) (m : Nat) : hits (p :: ps) m = if p.1 = (m : Int) then (p.2 &&& 15) ||| hits ps m else hits ps m := rfl
theorem and15_lt (x : Nat) : x &&& 15 < 16 := by
  have := @Nat.and_le_right x 15
  omega
theorem or_lt16 {a b : Nat} (ha : a < 16) (hb : b < 16) : a ||| b < 16 := Nat.or_lt_two_pow (n := 4) ha hb
theorem hits_lt (ps : Puts) (m : Nat) : hits ps m < 16 := by
  induction ps with
  | nil => simp [hits]
  | cons p ps ih =>
    rw [hits_cons]
    split
    · exact or_lt16 (and15_lt _) ih
    · exact ih
theorem and15 {a : Nat} (h : a < 16) : a &&& 15 = a := by
  rw [show (15 : Nat) = 2 ^ 4 - 1 from rfl, Nat.and_two_pow_sub_one_eq_mod]
  exact Nat.mod_eq_of_lt h
theorem put_val {a l : Nat} (h : a < 16) : (a ||| l) &&& 15 = (l &&& 15) ||| a := by
  rw [Nat.and_or_distrib_right, and15 h, Nat.or_comm]
theorem hits_snoc (ps : Puts) (p : Int × Nat) (m : Nat) : hits (ps ++ [p]) m = hits (p :: ps) m := by
  induction ps with
  | nil => rfl
  | cons q ps ih =>
    rw [List.cons_append, hits_cons, ih, hits_cons, hits_cons, hits_cons]
    by_cases h1 : p.1 = (m : Int)
    · by_cases h2 : q.1 = (m : Int)
      · simp only [h1, h2, if_true]
        rw [← Nat.or_assoc, ← Nat.or_assoc, Nat.or_comm (q.2 &&& 15)]
      · simp only [h1, h2, if_true, if_false]
    · by_cases h2 : q.1 = (m : Int)
      · simp only [h1, h2, if_true, if_false]
      · simp only [h1, h2, if_false]
theorem D_snoc (ps : Puts) (p : Int × Nat) : D (ps ++ [p]) = D (p :: ps) := by
  unfold D
  exact List.map_congr_left fun m _ => hits_snoc ps p m
theorem hits_reverse (ps : Puts) (m : Nat) : hits ps.reverse m = hits ps m := by
  induction ps with
  | nil => rfl
  | cons p ps ih => rw [List.reverse_cons, hits_snoc, hits_cons, hits_cons, ih]
theorem D_reverse (ps : Puts) : D ps.reverse = D ps := List.map_congr_left fun m _ => hits_reverse ps m
theorem D_len (ps : Puts) : (D ps).length = 16 := by simp [D]
theorem D_get (ps : Puts) {m : Nat} (hm : m < 16) : (D ps).getD m 0 = hits ps m := by
  rw [List.getD_eq_getElem?_getD, D, List.getElem?_map, List.getElem?_range hm]
  rfl
theorem D_out (ps : Puts) (p : Int × Nat) (h : p.1 < 0 ∨ 16 ≤ p.1) : D (p :: ps) = D ps := by
  unfold D
  refine List.map_congr_left fun m hm => ?_
  rw [List.mem_range] at hm
  rw [hits_cons, if_neg (by omega)]
theorem D_in (ps : Puts) (m l : Nat) (h : m < 16) : (D ps).set m (((D ps).getD m 0 ||| l) &&& 15) = D (((m : Int), l) :: ps) := by
  rw [D_get ps h, put_val (hits_lt _ _)]
  apply List.ext_getElem?
  intro j
  rw [List.getElem?_set, D_len]
  by_cases hj : m = j
  · subst hj
    rw [if_pos rfl, if_pos h]
    unfold D
    rw [List.getElem?_map, List.getElem?_range h, Option.map_some, hits_cons, if_pos rfl]
  · rw [if_neg hj]
    unfold D
    rw [List.getElem?_map, List.getElem?_map]
    by_cases hj16 : j < 16
    · rw [List.getElem?_range hj16, Option.map_some, Option.map_some, hits_cons, if_neg (by simp; omega)]
    · rw [List.getElem?_eq_none (by simpa using hj16)]
      rfl
theorem D_nil : D [] = z16 := by decide
theorem D_lt (ps : Puts) : ∀ x ∈ D ps, x < 16 := fun x hx => by
  obtain ⟨m, _, rfl⟩ := List.mem_map.1 hx
  exact hits_lt _ _
theorem put_D {w : World} {b : Nat} {ps : Puts} {dv : List Nat} {ln : Nat} {md : Bool} (h : BusAt w b 16 (D ps) dv ln md) (m : Int) (l : Nat) (hl : l < 256) : Calls Try.prog 6 #[.pointer (some ⟨b, 0, none⟩), .int .i64 m, .int .u8 l] w fun e w' => e = .returned (.tuple #[]) ∧ Hid (BusAt w' b 16 (D ((m, l) :: ps)) dv ln md) ∧ Hid (Wrote b w w') := by
  by_cases hm : m < 0 ∨ (16 : Int) ≤ m
  · refine (put_out h m l hm).mono ?_
    rintro e w' ⟨rfl, rfl⟩
    exact ⟨rfl, Lib.hid (by rw [D_out ps (m, l) hm]; exact h), Lib.hid (Wrote.refl _ _)⟩
  · obtain ⟨k, rfl⟩ : ∃ k : Nat, m = (k : Int) := ⟨m.toNat, by omega⟩
    have hk : k < 16 := by omega
    have := put_in h k l hk hl
    rw [D_in ps k l hk] at this
    exact this
theorem allL_D (ps : Puts) : Ly3.orL (D ps) = (List.range 16).foldl (fun a m => a ||| hits ps m) 0 := by
  unfold Ly3.orL D
  rw [List.foldl_map]
theorem hits_more (ps : Puts) (p : Int × Nat) (m : Nat) : hits ps m ||| hits (p :: ps) m = hits (p :: ps) m := by
  rw [hits_cons]
  split
  · rw [Nat.or_comm (p.2 &&& 15), ← Nat.or_assoc, Nat.or_self]
  · exact Nat.or_self _
theorem fold_more (f g : Nat → Nat) (h : ∀ m, f m ||| g m = g m) : ∀ (l : List Nat) (a b : Nat), a ||| b = b → l.foldl (fun a m => a ||| f m) a ||| l.foldl (fun a m => a ||| g m) b = l.foldl (fun a m => a ||| g m) b
  | [], a, b, hab => hab
  | m :: l, a, b, hab => by
    rw [List.foldl_cons, List.foldl_cons]
    refine fold_more f g h l _ _ ?_
    rw [Nat.or_assoc, ← Nat.or_assoc (f m), Nat.or_comm (f m) b, Nat.or_assoc b, h m, ← Nat.or_assoc, hab]
theorem all_more (ps : Puts) (p : Int × Nat) : Ly3.orL [allL (D ps), allL (D (p :: ps))] &&& 15 = allL (D (p :: ps)) := by
  have h := fold_more (hits ps) (hits (p :: ps)) (hits_more ps p) (List.range 16) 0 0 rfl
  rw [← allL_D, ← allL_D] at h
  show ((0 ||| allL (D ps)) ||| allL (D (p :: ps))) &&& 15 = _
  unfold allL
  rw [Nat.zero_or, ← Nat.and_or_distrib_right, h]
  exact and15 (and15_lt _)
theorem drv_more (ps : Puts) (p : Int × Nat) : ∀ k, k ≤ 16 → drv (D ps) k ≤ drv (D (p :: ps)) k := by
  intro k
  induction k with
  | zero => intro _; simp [drv]
  | succ k ih =>
    intro hk
    have ih := ih (by omega)
    have e1 : (D ps)[k]'(by rw [D_len]; omega) = hits ps k := by
      have := D_get ps (m := k) (by omega)
      rw [List.getD_eq_getElem?_getD, List.getElem?_eq_getElem (by rw [D_len]; omega)] at this
      exact this
    have e2 : (D (p :: ps))[k]'(by rw [D_len]; omega) = hits (p :: ps) k := by
      have := D_get (p :: ps) (m := k) (by omega)
      rw [List.getD_eq_getElem?_getD, List.getElem?_eq_getElem (by rw [D_len]; omega)] at this
      exact this
    rw [drv_succ _ _ (by rw [D_len]; omega), drv_succ _ _ (by rw [D_len]; omega), e1, e2]
    have h := hits_more ps p k
    by_cases h0 : hits ps k = 0
    · rw [if_pos h0]; omega
    · have h1 : ¬ hits (p :: ps) k = 0 := fun h' => by
        rw [h', Nat.or_zero] at h
        exact h0 h
      rw [if_neg h0, if_neg h1]
      omega
end Go.Proofs.Ytfolciibgdilcaa.Ly24
