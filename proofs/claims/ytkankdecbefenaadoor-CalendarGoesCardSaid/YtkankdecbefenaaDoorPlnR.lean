/- What the slots of a frame are like, and that they lie one behind the other (as in the text of PlanLies). -/
import Derived.Test.YtkankdecbefenaaDoorPlnJ
namespace Go.Proofs.YtkankdecbefenaaDoor.Ly7
open Go.ChangeShapes Go.WideShapes Go.ChangeAt Go.RowKit Base
set_option linter.unusedVariables false
set_option linter.unusedSimpArgs false

/-- What a slot of a frame is like. -/
def Kd (z : Sl) : Prop := 0 ≤ z.l ∧ z.l ≤ 20000 ∧ ((z.k = 3 ∧ 200 ≤ z.l) ∨ (z.k = 4 ∧ z.l = 120) ∨ (z.k = 2 ∧ z.l = 120) ∨ z.k = 1 ∨ (z.k = 0 ∧ ∃ u q : Nat, z.wo = (u : Int) ∧ z.mn = (q : Int) ∧ u ≤ 8 ∧ 1 ≤ q ∧ q ≤ 4 ∧ z.l = (10 + 8 * (u : Int) + 4 * ((q : Int) - 1)) * 20))
theorem sl_kd (x : Wd) (y s : Int) : ∀ z ∈ x.sl y s, Kd z := by
  have hb := x.tk_bd
  have hu := cutN_le x.wd 8
  intro z hz
  unfold Wd.sl at hz
  split at hz
  · rename_i h0
    simp at hz
    subst hz
    refine ⟨hb.1, hb.2, .inr (.inr (.inr (.inr ⟨rfl, x.u, x.q, rfl, rfl, by unfold Wd.u; omega, by unfold Wd.q; omega, by unfold Wd.q; omega, ?_⟩)))⟩
    show x.tk = _
    unfold Wd.tk tkI
    rw [if_pos h0]
  · split at hz
    · rename_i h0 h
      simp at hz
      subst hz
      refine ⟨hb.1, hb.2, ?_⟩
      rcases h with h | h
      · exact .inr (.inr (.inr (.inl h)))
      · refine .inr (.inr (.inl ⟨h, ?_⟩))
        show x.tk = _
        unfold Wd.tk tkI
        rw [if_neg h0, if_neg (by omega), if_pos h]
    · cases hz
theorem mid_kd (y : Int) : ∀ (ws : List Wd) (s : Int), ∀ z ∈ midL y ws s, Kd z
  | [], s => fun z hz => by cases hz
  | x :: r, s => fun z hz => by
    rcases List.mem_append.1 hz with h | h
    · exact sl_kd x y s z h
    · exact mid_kd y r _ z h
theorem view_kd (ver : Nat) (hv : ver < 2) (y : Int) (ws : List Wd) : ∀ z ∈ viewL ver y ws, Kd z := fun z hz => by
  unfold viewL at hz
  rcases List.mem_append.1 hz with h | h
  · rcases List.mem_cons.1 h with rfl | h
    · unfold Kd slHead leadI; simp; omega
    · exact mid_kd y ws _ z h
  · simp at h
    subst h
    unfold Kd slLast
    simp
/-- Each begins where those ahead end. -/
def Chain : List Sl → Int → Prop
  | [], _ => True
  | x :: r, s => x.s = s ∧ Chain r (s + x.l)
theorem chain_app (a b : List Sl) : ∀ s, Chain a s → Chain b (s + sumS a) → Chain (a ++ b) s := by
  induction a with
  | nil => intro s _ h; simpa [sumS] using h
  | cons x r ih =>
    intro s h1 h2
    refine ⟨h1.1, ih _ h1.2 ?_⟩
    simp only [sumS] at h2
    rw [Int.add_assoc]
    exact h2
theorem chain_sl (x : Wd) (y s : Int) : Chain (x.sl y s) s := by
  unfold Wd.sl
  split
  · exact ⟨rfl, trivial⟩
  · split
    · exact ⟨rfl, trivial⟩
    · trivial
theorem chain_mid (y : Int) : ∀ (ws : List Wd) (s : Int), Chain (midL y ws s) s
  | [], s => trivial
  | x :: r, s => by
    refine chain_app _ _ _ (chain_sl x y s) ?_
    rw [sl_sum]
    exact chain_mid y r _
theorem chain_view (ver : Nat) (y : Int) (ws : List Wd) : Chain (viewL ver y ws) 0 := by
  unfold viewL
  refine chain_app _ _ _ ⟨rfl, ?_⟩ ?_
  · have := chain_mid y ws (leadI ver)
    simpa [slHead] using this
  · refine ⟨?_, trivial⟩
    have := mid_sum y ws (leadI ver)
    simp only [slLast, sumS, slHead]
    omega
theorem chain_at : ∀ (ss : List Sl) (s : Int) (k : Nat) (x : Sl), Chain ss s → ss[k]? = some x → x.s = s + sumS (ss.take k)
  | [], s, k, x, _, h => by simp at h
  | z :: r, s, 0, x, hc, h => by
    simp at h
    subst h
    simpa [sumS] using hc.1
  | z :: r, s, k + 1, x, hc, h => by
    have := chain_at r _ k x hc.2 (by simpa using h)
    rw [this]
    simp only [List.take_succ_cons, sumS]
    omega
end Go.Proofs.YtkankdecbefenaaDoor.Ly7
