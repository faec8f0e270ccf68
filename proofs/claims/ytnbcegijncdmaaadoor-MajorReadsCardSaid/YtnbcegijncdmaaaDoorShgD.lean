/- The contracts of the document's last, says, Line of layer 15, and what a shift holds behind any looks; no condition. -/
import Derived.Test.YtnbcegijncdmaaaDoorShgC
namespace Go.Proofs.YtnbcegijncdmaaaDoor.Ly15
open Go.ChangeShapes Go.WideShapes Go.ChangeAt Go.RowKit Base Ly3
set_option linter.unusedVariables false
set_option linter.unusedSimpArgs false

abbrev Lk := Int × Bool × Nat
/-- The last look at a half. -/
def lastF (ls : List Lk) (m : Nat) (y : Bool) : Option Nat := ls.foldl (fun o p => if p.1 = (m : Int) ∧ p.2.1 = y then some p.2.2 else o) none
theorem lastF_snoc (ls : List Lk) (p : Lk) (m : Nat) (y : Bool) : lastF (ls ++ [p]) m y = if p.1 = (m : Int) ∧ p.2.1 = y then some p.2.2 else lastF ls m y := by
  unfold lastF
  rw [List.foldl_append]
  rfl
/-- What a line says by the document. -/
def lineR (ls : List Lk) (k m : Nat) : Bool × Bool :=
  match lastF ls m false, lastF ls m true with
  | some a, some b => if said a k = said b k then (false, false) else (said a k, true)
  | _, _ => (false, false)
def bn (y : Bool) : Nat := if y then 1 else 0
/-- It holds what these looks left. -/
def Holds (f : Nat → Bool) (ls : List Lk) : Prop := ∀ k, k < 4 → ∀ m, m < 64 → ∀ y, f (2 + 256 * k + 4 * m + 2 * bn y + 1) = (lastF ls m y).isSome ∧ f (2 + 256 * k + 4 * m + 2 * bn y) = match lastF ls m y with | some l => said l k | none => false
theorem holds_nil : Holds (fun _ => false) [] := fun k _ m _ y => ⟨rfl, rfl⟩
theorem putK_at (f : Nat → Bool) (l m j : Nat) (hm : m < 64) (hj : j < 2) : ∀ K, K ≤ 4 → ∀ k m' j', k < 4 → m' < 64 → j' < 2 →
    putK f l m j K (2 + 256 * k + 4 * m' + 2 * j' + 1) = (if m' = m ∧ j' = j ∧ k < K then true else f (2 + 256 * k + 4 * m' + 2 * j' + 1)) ∧
    putK f l m j K (2 + 256 * k + 4 * m' + 2 * j') = (if m' = m ∧ j' = j ∧ k < K then said l k else f (2 + 256 * k + 4 * m' + 2 * j'))
  | 0, _, k, m', j', _, _, _ => by
    constructor
    · rw [if_neg (by omega)]; rfl
    · rw [if_neg (by omega)]; rfl
  | K + 1, hK, k, m', j', hk, hm', hj' => by
    obtain ⟨h1, h2⟩ := putK_at f l m j hm hj K (by omega) k m' j' hk hm' hj'
    unfold putK upd
    by_cases e : m' = m ∧ j' = j ∧ k = K
    · obtain ⟨rfl, rfl, rfl⟩ := e
      constructor
      · rw [if_pos rfl, if_pos ⟨rfl, rfl, by omega⟩]
      · rw [if_neg (by omega), if_pos rfl, if_pos ⟨rfl, rfl, by omega⟩]
    · constructor
      · rw [if_neg (by omega), if_neg (by omega), h1]
        by_cases g : m' = m ∧ j' = j ∧ k < K
        · rw [if_pos g, if_pos ⟨g.1, g.2.1, by omega⟩]
        · rw [if_neg g, if_neg (by omega)]
      · rw [if_neg (by omega), if_neg (by omega), h2]
        by_cases g : m' = m ∧ j' = j ∧ k < K
        · rw [if_pos g, if_pos ⟨g.1, g.2.1, by omega⟩]
        · rw [if_neg g, if_neg (by omega)]
theorem bn_lt (y : Bool) : bn y < 2 := by cases y <;> decide
theorem bn_eq {x y : Bool} : bn x = bn y ↔ x = y := by cases x <;> cases y <;> decide
theorem holds_put {f : Nat → Bool} {ls : List Lk} (h : Holds f ls) (m : Nat) (y : Bool) (l : Nat) (hm : m < 64) : Holds (putK f l m (bn y) 4) (ls ++ [((m : Int), y, l)]) := fun k hk m' hm' y' => by
  obtain ⟨h1, h2⟩ := putK_at f l m (bn y) hm (bn_lt y) 4 (by omega) k m' (bn y') hk hm' (bn_lt y')
  obtain ⟨g1, g2⟩ := h k hk m' hm' y'
  rw [h1, h2, lastF_snoc]
  by_cases e : m' = m ∧ y' = y
  · obtain ⟨rfl, rfl⟩ := e
    have e1 : m' = m' ∧ bn y' = bn y' ∧ k < 4 := ⟨rfl, rfl, hk⟩
    have e2 : ((m' : Int), y', l).1 = (m' : Int) ∧ ((m' : Int), y', l).2.1 = y' := ⟨rfl, rfl⟩
    rw [if_pos e1, if_pos e1, if_pos e2]
    exact ⟨rfl, rfl⟩
  · have e1 : ¬ (m' = m ∧ bn y' = bn y ∧ k < 4) := fun ⟨a, b, _⟩ => e ⟨a, bn_eq.1 b⟩
    have e2 : ¬ ((m : Int) = (m' : Int) ∧ y = y') := fun ⟨a, b⟩ => e ⟨by omega, b.symm⟩
    rw [if_neg e1, if_neg e1, if_neg e2]
    exact ⟨g1, g2⟩
theorem line_eq {f : Nat → Bool} {ls : List Lk} (h : Holds f ls) {k m : Nat} (hk : k < 4) (hm : m < 64) : lineF f k m = lineR ls k m := by
  have h0 := h k hk m hm false
  have h1 := h k hk m hm true
  simp only [bn, Bool.false_eq_true, if_false, if_true, Nat.mul_zero, Nat.add_zero, Nat.mul_one] at h0 h1
  unfold lineF lineR
  rw [h0.1, h0.2, show 2 + 256 * k + 4 * m + 3 = 2 + 256 * k + 4 * m + 2 + 1 from rfl, h1.1, h1.2]
  cases lastF ls m false with
  | none => simp
  | some a =>
    cases lastF ls m true with
    | none => simp
    | some b =>
      simp only [Option.isSome_some, and_self, if_true]
      cases said a k <;> cases said b k <;> rfl
/-- A row of looks, as the document keeps them. -/
def LooksAt (w : World) (A : Option Addr) (n : Nat) (ls : List Lk) : Prop :=
  ls.length = n ∧ (0 < n → ∃ b off, A = some ⟨b, off, none⟩ ∧ b < w.heap.size ∧ ∀ i p, ls[i]? = some p → w.cell? ⟨b, off + i * 3, none⟩ = some (.int .i64 p.1) ∧ w.cell? ⟨b, off + i * 3 + 1, none⟩ = some (.bool p.2.1) ∧ w.cell? ⟨b, off + i * 3 + 2, none⟩ = some (.int .i64 (p.2.2 : Int)))
theorem LooksAt.kept {w w' : World} {A : Option Addr} {n : Nat} {ls : List Lk} (h : LooksAt w A n ls) (hb : Below w.heap.size w w') : LooksAt w' A n ls :=
  ⟨h.1, fun hn => by
    obtain ⟨b, off, e, hlt, hc⟩ := h.2 hn
    exact ⟨b, off, e, Nat.lt_of_lt_of_le hlt hb.size, fun i p hp => ⟨(hb.cell (p := ⟨b, off + i * 3, none⟩) hlt).trans (hc i p hp).1, (hb.cell (p := ⟨b, off + i * 3 + 1, none⟩) hlt).trans (hc i p hp).2.1, (hb.cell (p := ⟨b, off + i * 3 + 2, none⟩) hlt).trans (hc i p hp).2.2⟩⟩⟩
def lastV (o : Option Nat) : Value := .tuple #[.int .i64 ((o.getD 0 : Nat) : Int), .bool o.isSome]
def LRel (ls : List Lk) (n m : Nat) (y : Bool) (w : World) (i : Value) (wr : World) : Prop := w = wr ∧ ∃ k : Nat, k ≤ n ∧ i = .int .i64 ((k : Int) - 1) ∧ lastF (ls.take k) m y = lastF ls m y
set_option maxRecDepth 100000 in
set_option maxHeartbeats 2000000 in
theorem last_any {w : World} {A : Option Addr} {n c m : Nat} {ls : List Lk} (h : LooksAt w A n ls) (hn : n ≤ 1000) (y : Bool) : Calls Tryd.prog 77 #[.slice A n c, .int .i64 m, .bool y] w fun e w' => e = .returned (lastV (lastF ls m y)) ∧ w = w' := by
  have H := Lib.hid h
  have hw0 : IntKind.i64.wrap ((n : Int) - 1) = (n : Int) - 1 := IntWalk.i64_in _ (by omega)
  clear h
  go_enter Tryd.func77, Tryd.ntmps77
  go_wp2_with fail
  go_loopw [8] (fun i wr => LRel ls n m y w i wr) (fun i _ => (intOf i + 1).toNat)
  case atStart => exact ⟨rfl, n, by omega, rfl, by rw [List.take_of_length_le (by rw [H.out.1]; exact Nat.le_refl _)]⟩
  case round =>
    obtain ⟨rfl, k, hk, rfl, hl⟩ := hrel
    have HL := Lib.hid hl
    clear hl
    rcases k with _ | k
    · have HN : Hid (lastF ls m y = none) := Lib.hid (by rw [← HL.out, List.take_zero]; rfl)
      go_wp2
      go_ret2
      exact ⟨by rw [HN.out]; rfl, rfl⟩
    · have hki : ((k + 1 : Nat) : Int) - 1 = (k : Int) := by omega
      have hkn : (k : Int) < (n : Int) := by omega
      have hw1 : IntKind.i64.wrap ((k : Int) - 1) = (k : Int) - 1 := IntWalk.i64_in _ (by omega)
      rw [hki]
      obtain ⟨b, off, rfl, hblt, hc⟩ := H.out.2 (by omega)
      have hkl : k < ls.length := by rw [H.out.1]; omega
      obtain ⟨c0, c1, c2⟩ := hc k _ (List.getElem?_eq_getElem hkl)
      have hsn : lastF (ls.take (k + 1)) m y = if (ls[k]'hkl).1 = (m : Int) ∧ (ls[k]'hkl).2.1 = y then some (ls[k]'hkl).2.2 else lastF (ls.take k) m y := by
        rw [List.take_succ_eq_append_getElem hkl, lastF_snoc]
      rw [HL.out] at hsn
      have HSN := Lib.hid hsn
      clear hc hsn hki
      obtain ⟨⟨N, Y, L⟩, HP⟩ : ∃ p, Hid (ls[k]'hkl = p) := ⟨_, Lib.hid rfl⟩
      rw [HP.out] at c0 c1 c2 HSN
      simp only at c0 c1 c2 HSN
      by_cases e1 : N = (m : Int)
      · have e1b : (N == (m : Int)) = true := by rw [e1]; simp
        by_cases e2 : Y = y
        · have HV : Hid (lastF ls m y = some L) := Lib.hid (by rw [HSN.out, if_pos ⟨e1, e2⟩])
          have e2b : (Y == y) = true := by rw [e2]; simp
          clear e1 e2
          go_wp2
          go_ret2
          exact ⟨by rw [HV.out]; rfl, rfl⟩
        · have HV : Hid (lastF (ls.take k) m y = lastF ls m y) := Lib.hid (by rw [HSN.out, if_neg (fun h => e2 h.2)])
          have e2b : (Y == y) = false := by simpa using e2
          clear e1 e2
          go_wp2
          go_roundw
          case rel => exact ⟨rfl, k, by omega, rfl, HV.out⟩
          case measure => simp [intOf]
      · have HV : Hid (lastF (ls.take k) m y = lastF ls m y) := Lib.hid (by rw [HSN.out, if_neg (fun h => e1 h.1)])
        have e1b : (N == (m : Int)) = false := by simpa using e1
        clear e1
        go_wp2
        go_roundw
        case rel => exact ⟨rfl, k, by omega, rfl, HV.out⟩
        case measure => simp [intOf]
end Go.Proofs.YtnbcegijncdmaaaDoor.Ly15
