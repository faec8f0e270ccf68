/- What CalendarTells wants of numbers; which frame there is; no condition. -/
import Derived.Test.YtkankdecbefenaaDoorCalD
namespace Go.Proofs.YtkankdecbefenaaDoor.Ly7
open Go.ChangeShapes Go.WideShapes Go.ChangeAt Go.RowKit Base
set_option linter.unusedVariables false
set_option linter.unusedSimpArgs false

theorem beg_lt {s T t i : Int} (hT : 320 ≤ T) (hi : 0 ≤ i) : i < (t - 1 - s) / T + 1 ↔ s + i * T < t := by
  have h := Int.le_ediv_iff_mul_le (a := i) (b := t - 1 - s) (show 0 < T by omega)
  constructor
  · intro h1
    have := h.1 (by omega)
    omega
  · intro h1
    have := h.2 (by omega)
    omega
theorem next_facts {s T t q : Int} (hT : 320 ≤ T) (hs : 0 ≤ s) (hsT : s < T) (h : s < t) (hq : (t - s + T - 1) / T = q) : t ≤ s + q * T ∧ s + q * T - t < T ∧ (s + q * T) % T = s ∧ s + q * T - T < t := by
  have h1 := Int.ediv_mul_le (t - s + T - 1) (show T ≠ 0 by omega)
  have h2 := Int.lt_ediv_add_one_mul_self (t - s + T - 1) (show 0 < T by omega)
  rw [hq] at h1 h2
  have h3 : (q + 1) * T = q * T + T := by rw [Int.add_mul, Int.one_mul]
  rw [h3] at h2
  refine ⟨by omega, by omega, ?_, by omega⟩
  rw [Int.add_mul_emod_self_right]
  exact Int.emod_eq_of_lt hs hsT
/-- The last slot of a frame has ticks: so each begins ahead of the frame's end. -/
theorem last_lt {ss : List Sl} {T : Int} {k : Nat} {z : Sl} (h : Sls ss T) (hz : ss[k]? = some z) (hT : 320 ≤ T) : z.s < T := by
  obtain ⟨init, last, e, hl⟩ := h.last (by omega)
  subst e
  obtain ⟨a1, a2, a3, a4⟩ := sls_at h hz
  rcases Nat.lt_or_ge k init.length with hk | hk
  · have h5 := sls_at h (k := init.length) (z := last) (by simp)
    have c1 := chain_at _ 0 k z h.ch hz
    have c2 := chain_at _ 0 init.length last h.ch (by simp)
    have e1 : ((init ++ [last]).take init.length).take k = (init ++ [last]).take k := by rw [List.take_take, Nat.min_eq_left (by omega)]
    have hsub : sumS ((init ++ [last]).take init.length) = sumS ((init ++ [last]).take k) + sumS (((init ++ [last]).take init.length).drop k) := by
      rw [← e1, ← sumS_app, List.take_append_drop]
    have hp := sum_bd (((init ++ [last]).take init.length).drop k) (fun y hy => h.bd y (List.mem_of_mem_take (List.mem_of_mem_drop hy)))
    have h6 := h5.2.1
    omega
  · have hke : k = init.length := by
      have := (List.getElem?_eq_some_iff.1 hz).1
      simp at this
      omega
    subst hke
    have : z = last := by
      simp at hz
      exact hz.symm
    subst this
    omega
/-- What is told when a slot begins next. -/
theorem next_in {ss : List Sl} {T tick : Int} {k : Nat} {z : Sl} (h : Sls ss T) (hz : ss[k]? = some z) (hT : 320 ≤ T) (h0 : 0 ≤ tick) (h1 : tick ≤ 1099511627776) : ∃ n, nextF ss T (k : Int) tick = n ∧ tick ≤ n ∧ n - tick < T ∧ n % T = z.s ∧ (n = z.s ∨ (n ≠ z.s ∧ n - T < tick)) ∧ n ≤ 1099600000000 := by
  have hk : k < ss.length := (List.getElem?_eq_some_iff.1 hz).1
  obtain ⟨a1, a2, _, _⟩ := sls_at h hz
  have htop := h.top
  have hb := h.bd z (List.mem_of_getElem? hz)
  have hl : 0 ≤ z.l := hb.1
  by_cases hs : z.s < T
  · have e : nextF ss T (k : Int) tick = if tick ≤ z.s then z.s else z.s + (tick - z.s + T - 1) / T * T := by
      unfold nextF
      rw [if_neg (by omega), Int.toNat_natCast, hz]
    rw [e]
    by_cases hc : tick ≤ z.s
    · rw [if_pos hc]
      exact ⟨_, rfl, hc, by omega, Int.emod_eq_of_lt a1 hs, .inl rfl, by omega⟩
    · rw [if_neg hc]
      obtain ⟨b1, b2, b3, b4⟩ := next_facts hT a1 hs (show z.s < tick by omega) rfl
      exact ⟨_, rfl, b1, b2, b3, .inr ⟨by omega, b4⟩, by omega⟩
  · exfalso
    have hs2 : z.s = T ∧ z.l = 0 := by omega
    exact hs (by
      have := last_lt h hz hT
      omega)
theorem next_out {ss : List Sl} {T slot tick : Int} (h : slot < 0 ∨ (ss.length : Int) ≤ slot ∨ tick < 0 ∨ 1099511627776 < tick) : nextF ss T slot tick = -1 := by unfold nextF; rw [if_pos h]
theorem beg_out {ss : List Sl} {T slot tick : Int} (h : slot < 0 ∨ (ss.length : Int) ≤ slot ∨ tick < 1 ∨ 1099511627776 < tick) : begF ss T slot tick = 0 := by unfold begF; rw [if_pos h]
theorem beg_in {ss : List Sl} {T t : Int} {k : Nat} {z : Sl} (hz : ss[k]? = some z) (h0 : 1 ≤ t) (h1 : t ≤ 1099511627776) : begF ss T (k : Int) t = if t ≤ z.s then 0 else (t - 1 - z.s) / T + 1 := by
  have hk : k < ss.length := (List.getElem?_eq_some_iff.1 hz).1
  unfold begF
  rw [if_neg (by omega), Int.toNat_natCast, hz]
theorem at_bad {T tick k p : Int} (h : AtR [] T tick k p) : k = -1 ∧ p = 0 := by
  rcases h with ⟨_, h⟩ | ⟨h, _⟩
  · exact h
  · exact absurd rfl h
theorem at_out {ss : List Sl} {T tick k p : Int} (h : AtR ss T tick k p) (ht : tick < 0 ∨ 1099511627776 < tick) : k = -1 ∧ p = 0 := by
  rcases h with ⟨_, h⟩ | ⟨_, h1, h2, _⟩
  · exact h
  · omega
theorem at_in {ss : List Sl} {T tick k p : Int} (h : AtR ss T tick k p) (h0 : ss ≠ []) (h1 : 0 ≤ tick) (h2 : tick ≤ 1099511627776) : ∃ (i : Nat) (z : Sl), k = (i : Int) ∧ ss[i]? = some z ∧ 0 ≤ p ∧ p < z.l ∧ z.s + p = tick % T := by
  rcases h with ⟨h | h | h, _⟩ | ⟨_, _, _, i, z, rfl, hz, a, b, rfl⟩
  · exact absurd h h0
  · omega
  · omega
  · exact ⟨i, z, rfl, hz, by omega, by omega, by omega⟩
/-- There is a frame, or none. -/
theorem frm_ex (e ver : Int) (A0 : Option Addr) (n0 c0 : Nat) (A1 : Option Addr) (n1 c1 : Nat) (ws0 ws1 : List Wd) : (∃ ss T, Frm e ver A0 n0 c0 A1 n1 c1 ws0 ws1 ss T ∧ (e ≠ 0 ∨ ver < 0 ∨ 2 ≤ ver) ∧ ss = [] ∧ T = 0) ∨
    (∃ (k : Nat) (A : Option Addr) (n c : Nat) (ws : List Wd), e = 0 ∧ ver = (k : Int) ∧ k < 2 ∧ Ver k A0 n0 c0 A1 n1 c1 ws0 ws1 A n c ws ∧ Frm e ver A0 n0 c0 A1 n1 c1 ws0 ws1 (viewL k (-1) ws) (endS ws (leadI k) + 120)) := by
  by_cases h : e ≠ 0 ∨ ver < 0 ∨ 2 ≤ ver
  · exact .inl ⟨[], 0, .inr ⟨h, rfl, rfl⟩, h, rfl, rfl⟩
  · have he : e = 0 := by omega
    rcases (show ver = 0 ∨ ver = 1 by omega) with rfl | rfl
    · exact .inr ⟨0, A0, n0, c0, ws0, he, rfl, by omega, .inl ⟨rfl, rfl, rfl, rfl, rfl⟩, .inl ⟨he, 0, A0, n0, c0, ws0, rfl, .inl ⟨rfl, rfl, rfl, rfl, rfl⟩, rfl, rfl⟩⟩
    · exact .inr ⟨1, A1, n1, c1, ws1, he, rfl, by omega, .inr ⟨rfl, rfl, rfl, rfl, rfl⟩, .inl ⟨he, 1, A1, n1, c1, ws1, rfl, .inr ⟨rfl, rfl, rfl, rfl, rfl⟩, rfl, rfl⟩⟩
end Go.Proofs.YtkankdecbefenaaDoor.Ly7
