/- Schedules as they come in; slots out of a row; how many ticks slots have together; no condition. -/
import Derived.Test.YtkankdecbefenaaDoorPlnI
import Derived.Test.YtkankdecbefenaaDoorSh
namespace Go.Proofs.YtkankdecbefenaaDoor.Ly7
open Go.ChangeShapes Go.WideShapes Go.ChangeAt Go.RowKit Base
set_option linter.unusedVariables false
set_option linter.unusedSimpArgs false

abbrev shW : Sh := .fld (.int .i64) (.fld (.int .i64) (.fld (.int .i64) (.fld (.int .i64) (.fld (.sl (.int .i64)) (.fld (.sl (.int .i64)) .nil)))))
abbrev shS : Sh := .fld (.int .i64) (.fld (.ar 2 (.sl shW)) .nil)
theorem grid_i64 {w : World} {A : Option Addr} {n : Nat} {rows : List (List Value)} (hg : Grid w A n 1 rows) (hr : ∀ r ∈ rows, Reads w (.int .i64) r) : ∃ xs : List Int, Lst w A n (xs.map (Value.int .i64)) := by
  have hx : ∃ xs : List Int, rows = xs.map (fun x => [Value.int .i64 x]) := by
    clear hg
    induction rows with
    | nil => exact ⟨[], rfl⟩
    | cons r rs ih =>
      obtain ⟨xs, rfl⟩ := ih (fun r hr' => hr r (by simp [hr']))
      obtain ⟨x, rfl, hw⟩ := hr r (by simp)
      exact ⟨x :: xs, rfl⟩
  obtain ⟨xs, rfl⟩ := hx
  refine ⟨xs, ⟨by simpa using hg.1, fun hn => ?_⟩⟩
  obtain ⟨b, off, e, hb, hc⟩ := hg.2 hn
  refine ⟨b, off, e, hb, fun k hk => ?_⟩
  have := hc k 0 hk (by omega)
  rw [show off + (k * 1 + 0) = off + k by omega] at this
  rw [this, List.getElem?_map, List.getElem?_map]
  cases xs[k]? <;> rfl
theorem wd_in {w : World} {r : List Value} (h : Reads w shW r) : ∃ x : Wd, r = wdL x ∧ x.Ok w := by
  obtain ⟨_, _, rfl, ⟨k, rfl, _⟩, _, _, rfl, ⟨b, rfl, _⟩, _, _, rfl, ⟨wd, rfl, _⟩, _, _, rfl, ⟨ad, rfl, _⟩, _, _, rfl, ⟨A, n, c, ra, rfl, hnc, hcm, hga, hra⟩, _, _, rfl, ⟨B, m, d, rb, rfl, hmd, hdm, hgb, hrb⟩, rfl⟩ := h
  obtain ⟨fs, hf⟩ := grid_i64 hga hra
  obtain ⟨ts, ht⟩ := grid_i64 hgb hrb
  unfold maxLen at hcm hdm
  exact ⟨⟨k, b, wd, ad, A, n, c, fs, B, m, d, ts⟩, rfl, hf, ht, hnc, hmd, by omega, by omega⟩
theorem wins_in {w : World} {A : Option Addr} {n : Nat} {rows : List (List Value)} (hg : Grid w A n 6 rows) (hr : ∀ r ∈ rows, Reads w shW r) : ∃ ws : List Wd, WinsAt w A n ws := by
  have hx : ∃ ws : List Wd, rows = ws.map wdL ∧ ∀ x ∈ ws, x.Ok w := by
    clear hg
    induction rows with
    | nil => exact ⟨[], rfl, fun x hx => by cases hx⟩
    | cons r rs ih =>
      obtain ⟨ws, rfl, hok⟩ := ih (fun r hr' => hr r (by simp [hr']))
      obtain ⟨x, rfl, hx⟩ := wd_in (hr r (by simp))
      exact ⟨x :: ws, rfl, fun y hy => by
        rcases List.mem_cons.1 hy with rfl | hy
        · exact hx
        · exact hok y hy⟩
  obtain ⟨ws, rfl, hok⟩ := hx
  refine ⟨ws, by simpa using hg.1, fun hn => ?_, hok⟩
  obtain ⟨b, off, e, hb, hc⟩ := hg.2 hn
  refine ⟨b, off, e, hb, fun i hi j hj => ?_⟩
  have := hc i j (by have := hg.1; simp at this; omega) hj
  rw [← Nat.add_assoc] at this
  rw [this, List.getElem?_map, List.getElem?_eq_getElem hi, show (ws[i]).cells = (wdL ws[i]).toArray from rfl, List.getElem?_toArray]
  rfl
theorem sched_in {w : World} {cs : Array Value} (h : Reads w shS cs.toList) : ∃ (md : Int) (A0 : Option Addr) (n0 c0 : Nat) (A1 : Option Addr) (n1 c1 : Nat) (ws0 ws1 : List Wd), cs = #[.int .i64 md, .slice A0 n0 c0, .slice A1 n1 c1] ∧
    WinsAt w A0 n0 ws0 ∧ WinsAt w A1 n1 ws1 ∧ n0 ≤ 9223372036854775807 ∧ n1 ≤ 9223372036854775807 := by
  obtain ⟨_, _, e, ⟨md, rfl, _⟩, _, _, rfl, ⟨rows, hl, rfl, hr⟩, rfl⟩ := h
  match rows, hl with
  | [r0, r1], _ =>
    obtain ⟨A0, n0, c0, g0, rfl, h1, h2, h3, h4⟩ := hr r0 (by simp)
    obtain ⟨A1, n1, c1, g1, rfl, h5, h6, h7, h8⟩ := hr r1 (by simp)
    obtain ⟨ws0, hw0⟩ := wins_in h3 h4
    obtain ⟨ws1, hw1⟩ := wins_in h7 h8
    unfold maxLen at h2 h6
    exact ⟨md, A0, n0, c0, A1, n1, c1, ws0, ws1, by cases cs; simpa using e, hw0, hw1, by omega, by omega⟩
/-- Slots that lie one behind the other. -/
structure SlAt (w : World) (A : Option Addr) (n : Nat) (ss : List Sl) : Prop where
  len : ss.length = n
  at' : 0 < n → ∃ b off, A = some ⟨b, off, none⟩ ∧ b < w.heap.size ∧ ∀ i (hi : i < ss.length), ∀ j, j < 8 → w.cell? ⟨b, off + i * 8 + j, none⟩ = ((ss[i]'hi).cells)[j]?
theorem SlAt.kept {w w' : World} {A : Option Addr} {n : Nat} {ss : List Sl} (h : SlAt w A n ss) (hb : Below w.heap.size w w') : SlAt w' A n ss where
  len := h.len
  at' := fun hn => by
    obtain ⟨b, off, e, hlt, hc⟩ := h.at' hn
    exact ⟨b, off, e, Nat.lt_of_lt_of_le hlt hb.size, fun i hi j hj => (hb.cell (p := ⟨b, off + i * 8 + j, none⟩) hlt).trans (hc i hi j hj)⟩
theorem SlAt.eight {w : World} {A : Option Addr} {n : Nat} {ss : List Sl} (h : SlAt w A n ss) {i : Nat} (hi : i < n) {x : Sl} (hx : ss[i]? = some x) : ∃ b off, A = some ⟨b, off, none⟩ ∧ b < w.heap.size ∧
    w.cell? ⟨b, off + i * 8, none⟩ = some (.int .i64 x.k) ∧ w.cell? ⟨b, off + i * 8 + 1, none⟩ = some (.int .i64 x.s) ∧ w.cell? ⟨b, off + i * 8 + 2, none⟩ = some (.int .i64 x.l) ∧ w.cell? ⟨b, off + i * 8 + 3, none⟩ = some (.int .i64 x.wo) ∧
    w.cell? ⟨b, off + i * 8 + 4, none⟩ = some (.int .i64 x.ad) ∧ w.cell? ⟨b, off + i * 8 + 5, none⟩ = some (.int .i64 x.mn) ∧ w.cell? ⟨b, off + i * 8 + 6, none⟩ = some (.int .i64 x.cn) ∧ w.cell? ⟨b, off + i * 8 + 7, none⟩ = some (.bool x.tk) := by
  obtain ⟨b, off, e, hlt, hc⟩ := h.at' (by omega)
  obtain ⟨hil, rfl⟩ := List.getElem?_eq_some_iff.1 hx
  exact ⟨b, off, e, hlt, hc i hil 0 (by omega), hc i hil 1 (by omega), hc i hil 2 (by omega), hc i hil 3 (by omega), hc i hil 4 (by omega), hc i hil 5 (by omega), hc i hil 6 (by omega), hc i hil 7 (by omega)⟩
theorem slots_own {w : World} {base : Nat} {T : TypeId} {v : Value} {n : Nat} {ss : List Sl} (h : w.ownsRow base T 8 v n (slC ss)) (hn : ss.length = n) : ∃ A c, v = .slice A n c ∧ SlAt w A n ss := by
  rcases h.2 with ⟨rfl, h0⟩ | ⟨g, cap, cur, rfl, hb, hg, hnc, hcm, hcs, htake⟩
  · exact ⟨none, 0, by rw [h0], hn, fun h => by omega⟩
  · refine ⟨_, cap, rfl, hn, fun hn => ⟨g, 0, rfl, (Array.getElem?_eq_some_iff.1 hg).1, fun i hi j hj => ?_⟩⟩
    have hc : w.cell? ⟨g, 0 + (i * 8 + j), none⟩ = (ss[i].cells)[j]? := by
      rw [← slC_at ss i j hi hj, ← htake, Nat.zero_add, List.getElem?_take_of_lt (by omega)]
      simp [World.cell?, hg]
    rw [Nat.add_assoc, hc]
/-- How many ticks slots have together. -/
def sumS : List Sl → Int
  | [] => 0
  | x :: r => x.l + sumS r
theorem sumS_app (a b : List Sl) : sumS (a ++ b) = sumS a + sumS b := by
  induction a with
  | nil => simp [sumS]
  | cons x r ih => simp only [List.cons_append, sumS, ih]; omega
theorem sl_sum (x : Wd) (y s : Int) : sumS (x.sl y s) = x.tk := by
  unfold Wd.sl
  split
  · simp [sumS]
  · split
    · simp [sumS]
    · rename_i h0 h
      unfold Wd.tk tkI
      rw [if_neg h0, if_neg (by omega), if_neg (by omega)]
      rfl
theorem mid_sum (y : Int) : ∀ (ws : List Wd) (s : Int), s + sumS (midL y ws s) = endS ws s
  | [], s => by simp [midL, sumS, endS]
  | x :: r, s => by
    have := mid_sum y r (s + x.tk)
    simp only [midL, sumS_app, sl_sum, endS]
    omega
theorem view_sum (ver : Nat) (y : Int) (ws : List Wd) : sumS (viewL ver y ws) = endS ws (leadI ver) + 120 := by
  have := mid_sum y ws (leadI ver)
  unfold viewL
  rw [sumS_app]
  simp only [sumS, slHead, slLast]
  omega
theorem view_len (ver : Nat) (y : Int) (ws : List Wd) : (viewL ver y ws).length ≤ ws.length + 2 := by
  have := midL_len y ws (leadI ver)
  unfold viewL
  simp
  omega
theorem sl_bd (x : Wd) (y s : Int) : ∀ z ∈ x.sl y s, 0 ≤ z.l ∧ z.l ≤ 20000 := by
  have := x.tk_bd
  intro z hz
  unfold Wd.sl at hz
  split at hz
  · simp at hz; subst hz; exact this
  · split at hz
    · simp at hz; subst hz; exact this
    · cases hz
theorem mid_bd (y : Int) : ∀ (ws : List Wd) (s : Int), ∀ z ∈ midL y ws s, 0 ≤ z.l ∧ z.l ≤ 20000
  | [], s => fun z hz => by cases hz
  | x :: r, s => fun z hz => by
    rcases List.mem_append.1 hz with h | h
    · exact sl_bd x y s z h
    · exact mid_bd y r _ z h
theorem view_bd (ver : Nat) (hv : ver < 2) (y : Int) (ws : List Wd) : ∀ z ∈ viewL ver y ws, 0 ≤ z.l ∧ z.l ≤ 20000 := fun z hz => by
  unfold viewL at hz
  rcases List.mem_append.1 hz with h | h
  · rcases List.mem_cons.1 h with rfl | h
    · unfold slHead leadI; simp; omega
    · exact mid_bd y ws _ z h
  · simp at h
    subst h
    unfold slLast
    simp
theorem sum_bd : ∀ (ss : List Sl), (∀ z ∈ ss, 0 ≤ z.l ∧ z.l ≤ 20000) → 0 ≤ sumS ss ∧ sumS ss ≤ 20000 * ss.length
  | [], _ => by simp [sumS]
  | x :: r, h => by
    have := sum_bd r (fun z hz => h z (by simp [hz]))
    have := h x (by simp)
    simp only [sumS, List.length_cons]
    omega
theorem sum_snoc {ss : List Sl} {k : Nat} {x : Sl} (hx : ss[k]? = some x) : sumS (ss.take (k + 1)) = sumS (ss.take k) + x.l := by
  rw [List.take_add_one, hx, sumS_app]
  simp [sumS]
end Go.Proofs.YtkankdecbefenaaDoor.Ly7
