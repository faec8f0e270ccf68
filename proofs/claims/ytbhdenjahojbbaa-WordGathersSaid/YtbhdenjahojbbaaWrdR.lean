/- Words and bits, back and forth; what a message holds, bit by bit. -/
import Derived.Test.YtbhdenjahojbbaaWrdQ
namespace Go.Proofs.Ytbhdenjahojbbaa.Ly2
open Go.ChangeShapes Go.WideShapes Go.ChangeAt Go.RowKit Base
set_option linter.unusedVariables false
set_option linter.unusedSimpArgs false

theorem hv_self : ∀ v : Fin 256, 2 * (2 * (2 * (2 * (2 * (2 * (2 * (2 * 0 + (if wbit v.1 0 = true then 1 else 0)) + (if wbit v.1 1 = true then 1 else 0)) + (if wbit v.1 2 = true then 1 else 0)) + (if wbit v.1 3 = true then 1 else 0)) + (if wbit v.1 4 = true then 1 else 0)) + (if wbit v.1 5 = true then 1 else 0)) + (if wbit v.1 6 = true then 1 else 0)) + (if wbit v.1 7 = true then 1 else 0) = v.1 := by decide +kernel
theorem hv_of_bits {bs : List Bool} {i v : Nat} (hv' : v < 256) (h : ∀ j, j < 8 → bs.getD (8 * i + j) false = wbit v j) : hv bs i 8 = v := by
  have h0 := h 0 (by omega)
  have h1 := h 1 (by omega)
  have h2 := h 2 (by omega)
  have h3 := h 3 (by omega)
  have h4 := h 4 (by omega)
  have h5 := h 5 (by omega)
  have h6 := h 6 (by omega)
  have h7 := h 7 (by omega)
  simp only [hv, h0, h1, h2, h3, h4, h5, h6, h7]
  exact hv_self ⟨v, hv'⟩
theorem bitsOf_getD (vs : List Nat) (q r : Nat) (hr : r < 8) (hq : q < vs.length) : (bitsOf vs).getD (8 * q + r) false = wbit (vs[q]'hq) r := by
  rw [List.getD_eq_getElem?_getD, bitsOf_at vs q r hr hq]
  rfl
theorem words_bits (vs : List Nat) (hx : ∀ x ∈ vs, x < 256) : wordsOf (bitsOf vs) vs.length = vs := by
  rw [wordsOf_hv _ _ (bitsOf_len vs)]
  apply List.ext_getElem
  · simp
  · intro i h1 h2
    rw [List.getElem_map, List.getElem_range]
    exact hv_of_bits (hx _ (List.getElem_mem h2)) (fun j hj => bitsOf_getD vs i j hj h2)
/-- Two words with the same bits are the same. -/
theorem word_ext {u v : Nat} (hu : u < 256) (hv' : v < 256) (h : ∀ j, j < 8 → wbit u j = wbit v j) : u = v := by
  have e1 := hv_self ⟨u, hu⟩
  have e2 := hv_self ⟨v, hv'⟩
  simp only [h 0 (by omega), h 1 (by omega), h 2 (by omega), h 3 (by omega), h 4 (by omega), h 5 (by omega), h 6 (by omega), h 7 (by omega)] at e1
  exact e1.symm.trans e2
/-- A message, of which some bits are told: bits it says at each known place. -/
structure Says (N : Nat) (bits : List Bool) (ws : List Nat) (kn : List Bool) : Prop where
  lw : ws.length = 8
  lk : kn.length = 64
  wd : ∀ x ∈ ws, x < 256
  eq : ∀ p, p < N → kn.getD p false = true → wbit (ws.getD (p / 8) 0) (p % 8) = bits.getD p false
theorem getD_lt {ws : List Nat} (wd : ∀ x ∈ ws, x < 256) (q : Nat) : ws.getD q 0 < 256 := by
  rw [List.getD_eq_getElem?_getD]
  cases h : ws[q]? with
  | none => simp
  | some v => exact wd v (List.mem_of_getElem? h)
theorem set_word {ws : List Nat} (lw : ws.length = 8) (wd : ∀ x ∈ ws, x < 256) (p : Nat) (hp : p < 64) (b : Bool) (q : Nat) (hq : q < 64) :
    wbit ((ws.set (p / 8) (putb (ws.getD (p / 8) 0) (p % 8) b)).getD (q / 8) 0) (q % 8) = if q = p then b else wbit (ws.getD (q / 8) 0) (q % 8) := by
  by_cases e : q / 8 = p / 8
  · rw [e]
    have h1 : (ws.set (p / 8) (putb (ws.getD (p / 8) 0) (p % 8) b)).getD (p / 8) 0 = putb (ws.getD (p / 8) 0) (p % 8) b := by
      rw [List.getD_eq_getElem?_getD, List.getElem?_set_self (by omega)]
      rfl
    rw [h1, putb_bit b (getD_lt wd _) (by omega) (by omega)]
    by_cases e2 : q % 8 = p % 8
    · rw [if_pos e2, if_pos (by omega)]
    · rw [if_neg e2, if_neg (by omega)]
  · rw [if_neg (by intro h; exact e (by rw [h]))]
    rw [List.getD_eq_getElem?_getD, List.getElem?_set_ne (fun h => e h.symm), ← List.getD_eq_getElem?_getD]
theorem getD_set {kn : List Bool} {p q : Nat} {z : Bool} (hp : p < kn.length) : (kn.set p z).getD q false = if q = p then z else kn.getD q false := by
  rw [List.getD_eq_getElem?_getD, List.getD_eq_getElem?_getD]
  by_cases e : q = p
  · subst e
    rw [List.getElem?_set_self hp, if_pos rfl]
    rfl
  · rw [List.getElem?_set_ne (fun h => e h.symm), if_neg e]
theorem set_wd {ws : List Nat} (wd : ∀ x ∈ ws, x < 256) (p : Nat) (b : Bool) : ∀ x ∈ ws.set (p / 8) (putb (ws.getD (p / 8) 0) (p % 8) b), x < 256 := fun x hx => by
  rcases List.mem_or_eq_of_mem_set hx with h' | rfl
  · exact wd x h'
  · exact putb_lt b (getD_lt wd _) (by omega)
theorem Says.tell {N : Nat} {bits : List Bool} {ws : List Nat} {kn : List Bool} (h : Says N bits ws kn) (hN : N ≤ 64) (p : Nat) (hp : p < N) :
    Says N bits (ws.set (p / 8) (putb (ws.getD (p / 8) 0) (p % 8) (bits.getD p false))) (kn.set p true) := by
  refine ⟨by rw [List.length_set]; exact h.lw, by rw [List.length_set]; exact h.lk, set_wd h.wd p _, fun q hq hk => ?_⟩
  rw [set_word h.lw h.wd p (by omega) _ q (by omega)]
  by_cases e : q = p
  · rw [if_pos e, e]
  · rw [if_neg e]
    refine h.eq q hq ?_
    rwa [getD_set (by rw [h.lk]; omega), if_neg e] at hk
theorem count_set {l : List Bool} {p : Nat} (hp : p < l.length) (h : l.getD p false = false) : (l.set p true).count false + 1 = l.count false := by
  induction l generalizing p with
  | nil => simp at hp
  | cons x r ih =>
    cases p with
    | zero =>
      have hx : x = false := by simpa using h
      subst hx
      rw [List.set_cons_zero, List.count_cons_self, List.count_cons_of_ne (by simp)]
    | succ p =>
      rw [List.set_cons_succ]
      have := ih (p := p) (by simpa using hp) (by simpa using h)
      cases x
      · rw [List.count_cons_self, List.count_cons_self]; omega
      · rw [List.count_cons_of_ne (by simp), List.count_cons_of_ne (by simp)]; exact this
theorem count_zero {l : List Bool} (h : l.count false = 0) (p : Nat) (hp : p < l.length) : l.getD p false = true := by
  rw [List.getD_eq_getElem?_getD, List.getElem?_eq_getElem hp]
  have := List.count_eq_zero.1 h
  cases e : l[p] with
  | true => rfl
  | false => exact absurd (e ▸ List.getElem_mem hp) this
theorem getD_take {l : List Bool} {N p : Nat} (hp : p < N) : (l.take N).getD p false = l.getD p false := by
  rw [List.getD_eq_getElem?_getD, List.getD_eq_getElem?_getD, List.getElem?_take_of_lt hp]
/-- i bits are told, from a on, round. -/
structure Told (N a i : Nat) (bits : List Bool) (ws : List Nat) (kn : List Bool) : Prop where
  says : Says N bits ws kn
  cnt : (kn.take N).count false + i = N
  who : ∀ p, p < N → kn.getD p false = true → ∃ j, j < i ∧ (j + a) % N = p
theorem mod_inj {N a i j : Nat} (hij : i < j) (hj : j < N) : (i + a) % N ≠ (j + a) % N := by
  intro h
  have h1 : (j + a - (i + a)) % N = 0 := by
    have := Nat.sub_mod_eq_zero_of_mod_eq h.symm
    exact this
  rw [show j + a - (i + a) = j - i by omega, Nat.mod_eq_of_lt (by omega)] at h1
  omega
theorem Told.zero (N a : Nat) (bits : List Bool) (hN : N ≤ 64) : Told N a 0 bits (List.replicate 8 0) (List.replicate 64 false) := by
  refine ⟨⟨rfl, rfl, fun x hx => by have := List.eq_of_mem_replicate hx; omega, fun p hp hk => ?_⟩, ?_, fun p hp hk => ?_⟩
  · rw [List.getD_eq_getElem?_getD, List.getElem?_replicate_of_lt (by omega)] at hk
    simp at hk
  · rw [List.take_replicate, List.count_replicate_self]
    omega
  · rw [List.getD_eq_getElem?_getD, List.getElem?_replicate_of_lt (by omega)] at hk
    simp at hk
theorem Told.step {N a i : Nat} {bits : List Bool} {ws : List Nat} {kn : List Bool} (h : Told N a i bits ws kn) (hN : N ≤ 64) (hi : i < N) :
    Told N a (i + 1) bits (ws.set ((i + a) % N / 8) (putb (ws.getD ((i + a) % N / 8) 0) ((i + a) % N % 8) (bits.getD ((i + a) % N) false))) (kn.set ((i + a) % N) true) := by
  have hp : (i + a) % N < N := Nat.mod_lt _ (by omega)
  have hlt : kn.getD ((i + a) % N) false = false := by
    cases e : kn.getD ((i + a) % N) false with
    | false => rfl
    | true =>
      obtain ⟨j, hj, hjp⟩ := h.who _ hp e
      exact absurd hjp (mod_inj hj hi)
  refine ⟨h.says.tell hN _ hp, ?_, fun q hq hk => ?_⟩
  · have := count_set (l := kn.take N) (p := (i + a) % N) (by rw [List.length_take, h.says.lk]; omega) (by rw [getD_take hp]; exact hlt)
    rw [List.take_set] 
    have := h.cnt
    omega
  · rw [getD_set (by rw [h.says.lk]; omega)] at hk
    by_cases e : q = (i + a) % N
    · exact ⟨i, by omega, e.symm⟩
    · rw [if_neg e] at hk
      obtain ⟨j, hj, hjq⟩ := h.who q hq hk
      exact ⟨j, by omega, hjq⟩
theorem Told.full {m a : Nat} {vs ws : List Nat} {kn : List Bool} (h : Told (8 * m) a (8 * m) (bitsOf vs) ws kn) (hm : m ≤ 8) (hv' : vs.length = m) (hx : ∀ x ∈ vs, x < 256) : ws.take m = vs := by
  have h0 : (kn.take (8 * m)).count false = 0 := by have := h.cnt; omega
  have hl : (kn.take (8 * m)).length = 8 * m := by rw [List.length_take, h.says.lk]; omega
  apply List.ext_getElem
  · rw [List.length_take, h.says.lw, hv']; omega
  · intro i h1 h2
    rw [List.getElem_take]
    have hi8 : i < ws.length := by rw [h.says.lw]; omega
    refine word_ext (h.says.wd _ (List.getElem_mem hi8)) (hx _ (List.getElem_mem h2)) (fun j hj => ?_)
    have hk := count_zero h0 (8 * i + j) (by omega)
    rw [getD_take (by omega)] at hk
    have := h.says.eq (8 * i + j) (by omega) hk
    rw [show (8 * i + j) / 8 = i by omega, show (8 * i + j) % 8 = j by omega, bitsOf_getD vs i j hj h2] at this
    rw [← this, List.getD_eq_getElem?_getD, List.getElem?_eq_getElem hi8]
    rfl
end Go.Proofs.Ytbhdenjahojbbaa.Ly2
