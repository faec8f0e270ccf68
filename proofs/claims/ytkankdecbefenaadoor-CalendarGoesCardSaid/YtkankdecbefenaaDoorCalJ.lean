/- What CalendarGoes wants of numbers; no condition. -/
import Derived.Test.YtkankdecbefenaaDoorCalI
namespace Go.Proofs.YtkankdecbefenaaDoor.Ly7
open Go.ChangeShapes Go.WideShapes Go.ChangeAt Go.RowKit Base
set_option linter.unusedVariables false
set_option linter.unusedSimpArgs false

theorem emod_pred {n T m : Int} (hT : 1 ≤ T) (hm : n % T = m) (h : 1 ≤ m) : (n - 1) % T = m - 1 := by
  have h1 : n % T < T := Int.emod_lt_of_pos _ (by omega)
  have h2 := Int.emod_add_mul_ediv n T
  have e : n - 1 = (m - 1) + T * (n / T) := by omega
  rw [e, Int.add_mul_emod_self_left]
  exact Int.emod_eq_of_lt (by omega) (by omega)
theorem emod_zero {n T : Int} (hT : 1 ≤ T) (hm : n % T = 0) : (n - 1) % T = T - 1 := by
  have h2 := Int.emod_add_mul_ediv n T
  have e3 : T * (n / T - 1) = T * (n / T) - T := by rw [Int.mul_sub, Int.mul_one]
  have e : n - 1 = (T - 1) + T * (n / T - 1) := by omega
  rw [e, Int.add_mul_emod_self_left]
  exact Int.emod_eq_of_lt (by omega) (by omega)
/-- The slot ahead of one, and its last place. -/
theorem prev_slot {ss : List Sl} {T n : Int} {s : Nat} {z : Sl} (h : Sls ss T) (hv : ∀ z ∈ ss, VSl z) (hT : 320 ≤ T) (hz : ss[s]? = some z) (hn : n % T = z.s) : ∃ (j : Nat) (y : Sl), (s + ss.length - 1) % ss.length = j ∧ ss[j]? = some y ∧ (n - 1) % T = y.s + y.l - 1 ∧ 0 < y.l := by
  have hs : s < ss.length := (List.getElem?_eq_some_iff.1 hz).1
  rcases Nat.eq_zero_or_pos s with h0 | h0
  · subst h0
    obtain ⟨y, hy⟩ : ∃ y, ss[ss.length - 1]? = some y := ⟨_, List.getElem?_eq_getElem (by omega)⟩
    have h1 := (sls_at h hy).2.2.2 (by omega)
    have h2 := chain_at ss 0 0 z h.ch hz
    have h3 : z.s = 0 := by simpa [sumS] using h2
    rw [h3] at hn
    exact ⟨ss.length - 1, y, by rw [Nat.mod_eq_of_lt (by omega)]; omega, hy, by rw [emod_zero (by omega) hn]; omega, (hv y (List.mem_of_getElem? hy)).1⟩
  · obtain ⟨y, hy⟩ : ∃ y, ss[s - 1]? = some y := ⟨_, List.getElem?_eq_getElem (by omega)⟩
    have h1 := (sls_at h hy).2.2.1 z (by rw [show s - 1 + 1 = s by omega]; exact hz)
    have h2 := sls_at h hy
    have hl := (hv y (List.mem_of_getElem? hy)).1
    refine ⟨s - 1, y, ?_, hy, by rw [emod_pred (by omega) hn (by omega)]; omega, hl⟩
    rw [show s + ss.length - 1 = (s - 1) + ss.length by omega, Nat.add_mod_right, Nat.mod_eq_of_lt (by omega)]
theorem beg_twice {ss : List Sl} {T : Int} {s : Nat} {z : Sl} (h : Sls ss T) (hT : 320 ≤ T) (hz : ss[s]? = some z) : begF ss T (s : Int) T = 1 ∧ begF ss T (s : Int) (2 * T) = 2 := by
  have hs := last_lt h hz hT
  have h0 := (sls_at h hz).1
  have htop := h.top
  constructor
  · rw [beg_in hz (by omega) (by omega), if_neg (by omega), Int.ediv_eq_zero_of_lt (by omega) (by omega)]
    rfl
  · rw [beg_in hz (by omega) (by omega), if_neg (by omega), show 2 * T - 1 - z.s = (T - 1 - z.s) + 1 * T by omega, Int.add_mul_ediv_right _ _ (by omega), Int.ediv_eq_zero_of_lt (by omega) (by omega)]
    rfl
end Go.Proofs.YtkankdecbefenaaDoor.Ly7
