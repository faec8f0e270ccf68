/- The first fault of a schedule is one; there is one or none. -/
import Derived.Test.YtkankdecbefenaaDoorVlcD
namespace Go.Proofs.YtkankdecbefenaaDoor.Ly7
open Go.ChangeShapes Go.WideShapes Go.ChangeAt Go.RowKit Base
set_option linter.unusedVariables false
set_option linter.unusedSimpArgs false

theorem least {p : Nat → Prop} : ∀ n, p n → ∃ k, p k ∧ ∀ i, i < k → ¬ p i := by
  intro n
  induction n using Nat.strongRecOn with
  | ind n ih =>
    intro h
    by_cases hx : ∃ i, i < n ∧ p i
    · obtain ⟨i, hi, hp⟩ := hx
      exact ih i hi hp
    · exact ⟨n, h, fun i hi hp => hx ⟨i, hi, hp⟩⟩
theorem fr_or (f : Wd → Int) (ver : Nat) (ws : List Wd) : FrNo f ver ws ∨ ∃ j e, Fr f ver ws j e := by
  by_cases h : 32 < ws.length
  · exact .inr ⟨-1, 3, .inl ⟨h, rfl, rfl⟩⟩
  have h' : ws.length ≤ 32 := by omega
  by_cases ha : ∃ (k : Nat), ∃ x, ws[k]? = some x ∧ f x ≠ 0
  · obtain ⟨k0, hk0⟩ := ha
    obtain ⟨k, ⟨x, hx, hf⟩, hl⟩ := least (p := fun k => ∃ x, ws[k]? = some x ∧ f x ≠ 0) k0 hk0
    exact .inr ⟨k, f x, .inr (.inl ⟨h', k, x, hx, fun i hi y hy => Classical.byContradiction fun hn => hl i hi ⟨y, hy, hn⟩, hf, rfl, rfl⟩)⟩
  have hall : ∀ (i : Nat) (y : Wd), ws[i]? = some y → f y = 0 := fun i y hy => Classical.byContradiction fun hn => ha ⟨i, y, hy, hn⟩
  by_cases hs : ∃ s ∈ spanF ver ws, 200 < s
  · exact .inr ⟨-1, 16, .inr (.inr ⟨h', hall, hs, rfl, rfl⟩)⟩
  · exact .inl ⟨h', hall, fun s hm => by
      by_cases h2 : 200 < s
      · exact absurd ⟨s, hm, h2⟩ hs
      · omega⟩
theorem fr_uniq {f : Wd → Int} {ver : Nat} {ws : List Wd} {j e j' e' : Int} (h : Fr f ver ws j e) (h' : Fr f ver ws j' e') : j = j' ∧ e = e' := by
  rcases h with ⟨h1, rfl, rfl⟩ | ⟨h1, k, x, hx, hb, hf, rfl, rfl⟩ | ⟨h1, ha, hs, rfl, rfl⟩
  · rcases h' with ⟨_, rfl, rfl⟩ | ⟨h2, _⟩ | ⟨h2, _⟩
    · exact ⟨rfl, rfl⟩
    · omega
    · omega
  · rcases h' with ⟨h2, _⟩ | ⟨_, k', x', hx', hb', hf', rfl, rfl⟩ | ⟨_, ha, _⟩
    · omega
    · obtain rfl : k = k' := by
        rcases (show k < k' ∨ k = k' ∨ k' < k by omega) with h | h | h
        · exact absurd (hb' k h x hx) hf
        · exact h
        · exact absurd (hb k' h x' hx') hf'
      rw [hx] at hx'
      cases hx'
      exact ⟨rfl, rfl⟩
    · exact absurd (ha k x hx) hf
  · rcases h' with ⟨h2, _⟩ | ⟨_, k', x', hx', hb', hf', _⟩ | ⟨_, _, _, rfl, rfl⟩
    · omega
    · exact absurd (ha k' x' hx') hf'
    · exact ⟨rfl, rfl⟩
theorem chk_ex (f : Wd → Int) (md : Int) (ws0 ws1 : List Wd) : ∃ v j e, Chk f md ws0 ws1 v j e := by
  by_cases hm : 2 ≤ md ∧ md ≤ 16
  · rcases fr_or f 0 ws0 with h0 | ⟨j, e, h0⟩
    · rcases fr_or f 1 ws1 with h1 | ⟨j, e, h1⟩
      · exact ⟨0, 0, 0, .inr ⟨hm, .inr (.inr ⟨h0, h1, rfl, rfl, rfl⟩)⟩⟩
      · exact ⟨1, j, e, .inr ⟨hm, .inr (.inl ⟨h0, h1, rfl⟩)⟩⟩
    · exact ⟨0, j, e, .inr ⟨hm, .inl ⟨h0, rfl⟩⟩⟩
  · exact ⟨0, -1, 2, .inl ⟨by omega, rfl, rfl, rfl⟩⟩
theorem chk_uniq {f : Wd → Int} {md : Int} {ws0 ws1 : List Wd} {v j e v' j' e' : Int} (h : Chk f md ws0 ws1 v j e) (h' : Chk f md ws0 ws1 v' j' e') : v = v' ∧ j = j' ∧ e = e' := by
  rcases h with ⟨hm, rfl, rfl, rfl⟩ | ⟨hm, h⟩
  · rcases h' with ⟨_, rfl, rfl, rfl⟩ | ⟨hm', _⟩
    · exact ⟨rfl, rfl, rfl⟩
    · omega
  · rcases h' with ⟨hm', _⟩ | ⟨_, h'⟩
    · omega
    rcases h with ⟨h, rfl⟩ | ⟨hn, h, rfl⟩ | ⟨hn, hn1, rfl, rfl, rfl⟩
    · rcases h' with ⟨h', rfl⟩ | ⟨hn', _⟩ | ⟨hn', _⟩
      · exact ⟨rfl, fr_uniq h h'⟩
      · exact absurd h (fr_no hn')
      · exact absurd h (fr_no hn')
    · rcases h' with ⟨h', rfl⟩ | ⟨_, h', rfl⟩ | ⟨_, hn1', _⟩
      · exact absurd h' (fr_no hn)
      · exact ⟨rfl, fr_uniq h h'⟩
      · exact absurd h (fr_no hn1')
    · rcases h' with ⟨h', rfl⟩ | ⟨_, h', rfl⟩ | ⟨_, _, rfl, rfl, rfl⟩
      · exact absurd h' (fr_no hn)
      · exact absurd h' (fr_no hn1)
      · exact ⟨rfl, rfl, rfl⟩
end Go.Proofs.YtkankdecbefenaaDoor.Ly7
