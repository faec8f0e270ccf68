/- Slips in memory, and noted in a map: what is near; no condition. -/
import Derived.Test.YtejhjpdcodloaaaFltU
import Derived.Test.YtejhjpdcodloaaaGrid
import Derived.IntWalk
import Derived.Maps.Own
import Derived.Maps.OwnSet
import Derived.Maps.OwnOps
import Derived.Maps.Views
import Derived.DeepKeys4
namespace Go.Proofs.Ytejhjpdcodloaaa.Ly21
open Go.ChangeShapes Go.WideShapes Go.ChangeAt Go.RowKit Base Go.Maps Go.WideMaps Go.WideElems
set_option linter.unusedVariables false
set_option linter.unusedSimpArgs false

structure Slp where
  m : Int
  y : Bool
  t : Int
  b : Int
abbrev Slp.cells (x : Slp) : Array Value := #[.int .i64 x.m, .bool x.y, .int .i64 x.t, .int .i64 x.b]
def slL (x : Slp) : List Value := [.int .i64 x.m, .bool x.y, .int .i64 x.t, .int .i64 x.b]
def slC (l : List Slp) : List Value := (l.map slL).flatten
theorem slC_snoc (l : List Slp) (x : Slp) : slC (l ++ [x]) = slC l ++ slL x := by simp [slC]
theorem slC_at : ∀ (l : List Slp) (i j : Nat) (x : Slp), l[i]? = some x → j < 4 → (slC l)[i * 4 + j]? = (slL x)[j]?
  | [], i, j, x, h, _ => by simp at h
  | z :: r, 0, j, x, h, hj => by
    simp at h
    subst h
    show (slL z ++ slC r)[0 * 4 + j]? = _
    rw [Nat.zero_mul, Nat.zero_add, List.getElem?_append_left (by simpa [slL] using hj)]
  | z :: r, i + 1, j, x, h, hj => by
    have := slC_at r i j x (by simpa using h) hj
    show (slL z ++ slC r)[(i + 1) * 4 + j]? = _
    rw [List.getElem?_append_right (by simp [slL]; omega), show (i + 1) * 4 + j - (slL z).length = i * 4 + j by simp [slL]; omega]
    exact this
/-- Slips in memory. -/
structure SlsAt (w : World) (A : Option Addr) (n : Nat) (ls : List Slp) : Prop where
  len : ls.length = n
  at' : 0 < n → ∃ b off, A = some ⟨b, off, none⟩ ∧ b < w.heap.size ∧ ∀ i x, ls[i]? = some x → ∀ j, j < 4 → w.cell? ⟨b, off + i * 4 + j, none⟩ = (slL x)[j]?
theorem SlsAt.kept {w w' : World} {A : Option Addr} {n : Nat} {ls : List Slp} (h : SlsAt w A n ls) (hb : Below w.heap.size w w') : SlsAt w' A n ls where
  len := h.len
  at' := fun hn => by
    obtain ⟨b, off, e, hlt, hc⟩ := h.at' hn
    exact ⟨b, off, e, Nat.lt_of_lt_of_le hlt hb.size, fun i x hx j hj => (hb.cell (p := ⟨b, _, none⟩) hlt).trans (hc i x hx j hj)⟩
theorem SlsAt.four {w : World} {A : Option Addr} {n : Nat} {ls : List Slp} (h : SlsAt w A n ls) {i : Nat} (hi : i < n) {x : Slp} (hx : ls[i]? = some x) : ∃ b off, A = some ⟨b, off, none⟩ ∧ b < w.heap.size ∧
    w.cell? ⟨b, off + i * 4, none⟩ = some (.int .i64 x.m) ∧ w.cell? ⟨b, off + i * 4 + 1, none⟩ = some (.bool x.y) ∧ w.cell? ⟨b, off + i * 4 + 2, none⟩ = some (.int .i64 x.t) ∧ w.cell? ⟨b, off + i * 4 + 3, none⟩ = some (.int .i64 x.b) := by
  obtain ⟨b, off, e, hlt, hc⟩ := h.at' (by omega)
  have h' := hc i x hx
  exact ⟨b, off, e, hlt, h' 0 (by omega), h' 1 (by omega), h' 2 (by omega), h' 3 (by omega)⟩
theorem SlsAt.nil (w : World) : SlsAt w none 0 [] := ⟨rfl, fun h => by omega⟩
theorem sls_own {w : World} {base : Nat} {T : TypeId} {v : Value} {n : Nat} {ls : List Slp} (h : w.ownsRow base T 4 v n (slC ls)) (hn : ls.length = n) : ∃ A c, v = .slice A n c ∧ n ≤ c ∧ SlsAt w A n ls := by
  rcases h.2 with ⟨rfl, h0⟩ | ⟨g, cap, cur, rfl, hb, hg, hnc, hcm, hcs, htake⟩
  · exact ⟨none, 0, by rw [h0], by omega, hn, fun h => by omega⟩
  · refine ⟨_, cap, rfl, hnc, hn, fun hn0 => ⟨g, 0, rfl, (Array.getElem?_eq_some_iff.1 hg).1, fun i x hx j hj => ?_⟩⟩
    have hin : i < n := by have := (List.getElem?_eq_some_iff.1 hx).1; omega
    have hij : i * 4 + j < n * 4 := by omega
    rw [← slC_at ls i j x hx hj, ← htake, show (⟨g, 0 + i * 4 + j, none⟩ : Addr) = ⟨g, i * 4 + j, none⟩ by simp]
    simp [World.cell?, hg, List.getElem?_take, hij]
abbrev shL : Sh := .fld (.int .i64) (.fld .bool (.fld (.int .i64) (.fld (.int .i64) .nil)))
/-- What is written of a slip that came in. -/
def Slp.Wf (x : Slp) : Prop := (-9223372036854775808 ≤ x.m ∧ x.m ≤ 9223372036854775807) ∧ (-9223372036854775808 ≤ x.t ∧ x.t ≤ 9223372036854775807) ∧ (-9223372036854775808 ≤ x.b ∧ x.b ≤ 9223372036854775807)
theorem sls_in {w : World} {A : Option Addr} {n : Nat} {rows : List (List Value)} (hg : Grid w A n 4 rows) (hr : ∀ r ∈ rows, Reads w shL r) : ∃ ls : List Slp, SlsAt w A n ls ∧ ∀ x ∈ ls, x.Wf := by
  have hx : ∃ ls : List Slp, rows = ls.map slL ∧ ∀ x ∈ ls, x.Wf := by
    clear hg
    induction rows with
    | nil => exact ⟨[], rfl, fun x hx => by cases hx⟩
    | cons r rs ih =>
      obtain ⟨xs, rfl, hx⟩ := ih (fun r hr' => hr r (by simp [hr']))
      obtain ⟨_, _, rfl, ⟨m, rfl, hm⟩, _, _, rfl, ⟨y, rfl⟩, _, _, rfl, ⟨t, rfl, ht⟩, _, _, rfl, ⟨b, rfl, hb⟩, rfl⟩ := hr r (by simp)
      refine ⟨⟨m, y, t, b⟩ :: xs, rfl, fun q hq => ?_⟩
      rcases List.mem_cons.1 hq with rfl | hq
      · exact ⟨bounds_i64 hm, bounds_i64 ht, bounds_i64 hb⟩
      · exact hx q hq
  obtain ⟨ls, rfl, hx⟩ := hx
  refine ⟨ls, ⟨by simpa using hg.1, fun hn => ?_⟩, hx⟩
  obtain ⟨b, off, e, hb, hc⟩ := hg.2 hn
  refine ⟨b, off, e, hb, fun i x hx j hj => ?_⟩
  have hi : i < n := by have := (List.getElem?_eq_some_iff.1 hx).1; have := hg.1; simp at this; omega
  have h := hc i j hi (by omega)
  rw [show off + i * 4 + j = off + (i * 4 + j) by omega, h, List.getElem?_map, hx]
  rfl

/-! ### What may be, what is near -/

def mayB (x : Slp) (md : Int) : Bool := decide (0 ≤ x.m ∧ x.m < md ∧ 0 ≤ x.t ∧ x.t ≤ 1099511627776 ∧ (x.b = -1 ∨ x.b = 1))
def nearB (a x : Slp) : Bool := decide (a.m = x.m ∧ a.y = x.y ∧ a.t - x.t < 4400 ∧ x.t - a.t < 4400)
def nearL (l : List Slp) (x : Slp) : Bool := l.any (fun a => nearB a x)
theorem nearL_snoc (l : List Slp) (a x : Slp) : nearL (l ++ [a]) x = (nearL l x || nearB a x) := by simp [nearL]
/-- The first error, behind slips that may be. -/
def chkA (md : Int) : List Slp → List Slp → Int
  | _, [] => 0
  | a, x :: r => if mayB x md = false then 2 else if nearL a x = true then 19 else chkA md (a ++ [x]) r
def fitA (md : Int) : List Slp → List Slp → List Slp
  | a, [] => a
  | a, x :: r => if (mayB x md && !nearL a x) = true then fitA md (a ++ [x]) r else fitA md a r
/-- Slips that may be together. -/
def Good (md : Int) (l : List Slp) : Prop := (∀ x ∈ l, mayB x md = true) ∧ l.Pairwise (fun a b => nearB a b = false)
theorem Good.nil (md : Int) : Good md [] := ⟨fun x hx => (by cases hx), List.Pairwise.nil⟩
theorem Good.snoc {md : Int} {l : List Slp} {x : Slp} (h : Good md l) (hm : mayB x md = true) (hn : nearL l x = false) : Good md (l ++ [x]) := by
  refine ⟨fun z hz => ?_, ?_⟩
  · rcases List.mem_append.1 hz with hz | hz
    · exact h.1 z hz
    · simp at hz; subst hz; exact hm
  · rw [List.pairwise_append]
    refine ⟨h.2, List.pairwise_singleton _ _, fun a ha b hb => ?_⟩
    simp at hb
    subst hb
    cases e : nearB a b with
    | false => rfl
    | true =>
      have : nearL l b = true := List.any_eq_true.2 ⟨a, ha, e⟩
      rw [hn] at this
      cases this
theorem near_comm (a b : Slp) : nearB a b = nearB b a := by
  unfold nearB
  rw [Bool.eq_iff_iff]
  simp only [decide_eq_true_eq]
  constructor <;> rintro ⟨h1, h2, h3, h4⟩ <;> exact ⟨h1.symm, h2.symm, h4, h3⟩
theorem apart_mem {l : List Slp} (h : l.Pairwise (fun a b => nearB a b = false)) : ∀ a ∈ l, ∀ b ∈ l, a = b ∨ nearB a b = false := by
  induction l with
  | nil => intro a ha; cases ha
  | cons z r ih =>
    rw [List.pairwise_cons] at h
    intro a ha b hb
    rcases List.mem_cons.1 ha with ea | ha1
    · rcases List.mem_cons.1 hb with eb | hb1
      · exact .inl (by rw [ea, eb])
      · exact .inr (by rw [ea]; exact h.1 b hb1)
    · rcases List.mem_cons.1 hb with eb | hb1
      · exact .inr (by rw [near_comm, eb]; exact h.1 a ha1)
      · exact ih h.2 a ha1 b hb1
def hitB (m : Int) (y : Bool) (k : Int) (a : Slp) : Bool := decide (a.m = m ∧ a.y = y ∧ a.t.tdiv 4400 = k)
/-- When a clock slipped last, in a span. -/
def fnd (l : List Slp) (m : Int) (y : Bool) (k : Int) : Option Int := (l.reverse.find? (hitB m y k)).map (·.t)
theorem fnd_snoc (l : List Slp) (x : Slp) (m : Int) (y : Bool) (k : Int) : fnd (l ++ [x]) m y k = if hitB m y k x = true then some x.t else fnd l m y k := by
  unfold fnd
  rw [List.reverse_append]
  simp only [List.reverse_cons, List.reverse_nil, List.nil_append, List.singleton_append, List.find?_cons]
  cases hitB m y k x <;> simp
theorem fnd_some {l : List Slp} {m : Int} {y : Bool} {k tk : Int} (h : fnd l m y k = some tk) : ∃ a ∈ l, hitB m y k a = true ∧ a.t = tk := by
  unfold fnd at h
  rw [Option.map_eq_some_iff] at h
  obtain ⟨a, ha, rfl⟩ := h
  exact ⟨a, List.mem_reverse.1 (List.mem_of_find?_eq_some ha), List.find?_some ha, rfl⟩
theorem fnd_hit {l : List Slp} {m : Int} {y : Bool} {k : Int} {a : Slp} (ha : a ∈ l) (hh : hitB m y k a = true) : ∃ tk, fnd l m y k = some tk := by
  unfold fnd
  cases e : l.reverse.find? (hitB m y k) with
  | none =>
    have := List.find?_eq_none.1 e a (List.mem_reverse.2 ha)
    exact absurd hh this
  | some z => exact ⟨z.t, rfl⟩
/-- Is one noted in a span too near? -/
def nK (l : List Slp) (x : Slp) (k : Int) : Bool := match fnd l x.m x.y k with
  | some tk => decide (tk - x.t < 4400 ∧ x.t - tk < 4400)
  | none => false
theorem near_spans {md : Int} {l : List Slp} (hg : Good md l) (x : Slp) (h0 : 0 ≤ x.t) : (nK l x (x.t / 4400 - 1) || nK l x (x.t / 4400) || nK l x (x.t / 4400 + 1)) = nearL l x := by
  have hpos : ∀ a ∈ l, 0 ≤ a.t := fun a ha => by have := hg.1 a ha; simp [mayB] at this; omega
  rw [Bool.eq_iff_iff]
  constructor
  · intro h
    obtain ⟨k, hk⟩ : ∃ k, nK l x k = true := by
      rw [Bool.or_eq_true, Bool.or_eq_true] at h
      rcases h with (h | h) | h
      · exact ⟨_, h⟩
      · exact ⟨_, h⟩
      · exact ⟨_, h⟩
    unfold nK at hk
    cases e : fnd l x.m x.y k with
    | none => rw [e] at hk; cases hk
    | some tk =>
      rw [e] at hk
      simp only [decide_eq_true_eq] at hk
      obtain ⟨a, ha, hh, rfl⟩ := fnd_some e
      simp only [hitB, decide_eq_true_eq] at hh
      exact List.any_eq_true.2 ⟨a, ha, by simp only [nearB, decide_eq_true_eq]; exact ⟨hh.1, hh.2.1, hk⟩⟩
  · intro h
    obtain ⟨a, ha, hn⟩ := List.any_eq_true.1 h
    simp only [nearB, decide_eq_true_eq] at hn
    have ha0 := hpos a ha
    have hd : a.t.tdiv 4400 = a.t / 4400 := Int.tdiv_eq_ediv_of_nonneg ha0
    have hit : hitB x.m x.y (a.t / 4400) a = true := by simp only [hitB, decide_eq_true_eq]; exact ⟨hn.1, hn.2.1, hd⟩
    obtain ⟨tk, htk⟩ := fnd_hit ha hit
    obtain ⟨b, hb, hhb, rfl⟩ := fnd_some htk
    have hb0 := hpos b hb
    simp only [hitB, decide_eq_true_eq] at hhb
    have hdb : b.t.tdiv 4400 = b.t / 4400 := Int.tdiv_eq_ediv_of_nonneg hb0
    rw [hdb] at hhb
    have hab : b.t = a.t := by
      rcases apart_mem hg.2 b hb a ha with rfl | h'
      · rfl
      · exfalso
        have : nearB b a = true := by
          simp only [nearB, decide_eq_true_eq]
          exact ⟨by rw [hhb.1, hn.1], by rw [hhb.2.1, hn.2.1], by omega, by omega⟩
        rw [h'] at this
        cases this
    have hk : nK l x (a.t / 4400) = true := by
      unfold nK
      rw [htk]
      simp only [decide_eq_true_eq]
      rw [hab]
      exact hn.2.2
    rcases (show a.t / 4400 = x.t / 4400 - 1 ∨ a.t / 4400 = x.t / 4400 ∨ a.t / 4400 = x.t / 4400 + 1 by omega) with e | e | e
    · rw [e] at hk; rw [hk]; rfl
    · rw [e] at hk; rw [hk]; simp
    · rw [e] at hk; rw [hk]; simp

/-! ### The map -/

abbrev TI : TypeId := 3
abbrev TK : TypeId := 84
abbrev TM : TypeId := 71
theorem laidOut : laidOutB Try.prog = true := by kernel_rfl
theorem rowK : TK < Try.prog.types.size := of_decide_eq_true (by kernel_rfl)
theorem wideK : (match Try.prog.underlying TK with | some (.array _ _) | some (.struct _) => true | _ => false) = true := by kernel_rfl
set_option maxRecDepth 1000000 in
theorem keyed : Go.Maps.Keyed Try.prog TK := Go.Maps.Keyed.of_law (deep_law_laid laidOut (m := 2) (by omega) rowK (by kernel_rfl) wideK)
theorem zeroI (w : World) : (zeroValue TI).run Try.prog w = .ok (.int .i64 0) w := by kernel_rfl
def KV (m : Int) (y : Bool) (k : Int) : Value := .agg #[.int .i64 m, .bool y, .int .i64 k]
noncomputable def KL (m : Int) (y : Bool) (k : Int) : Lit := (keyOf Try.prog TK (KV m y k)).getD (.bool true)
theorem ktK : Try.prog.keyType TK = true := by kernel_rfl
def W64 (x : Int) : Prop := -9223372036854775808 ≤ x ∧ x ≤ 9223372036854775807
theorem wf_of {x : Int} (h : W64 x) : (Lit.int .i64 x).wf = true := WalkArith.wf_i64 h
theorem kl_at {m k : Int} {y : Bool} (hm : W64 m) (hk : W64 k) : keyOf Try.prog TK (KV m y k) = some (KL m y k) := by
  have h : (keyOf Try.prog TK (KV m y k)).isSome = true := by
    obtain ⟨d, hd⟩ : ∃ d, Try.prog.types.size = d + 1 := ⟨Try.prog.types.size - 1, (Nat.succ_pred_eq_of_pos (Nat.lt_of_le_of_lt (Nat.zero_le _) rowK)).symm⟩
    have c1 : Try.prog.cellsOf 3 = 1 := by kernel_rfl
    have c2 : Try.prog.cellsOf 4 = 1 := by kernel_rfl
    have c3 : Try.prog.cellsOf TK = 3 := by kernel_rfl
    have w1 := wf_of hm
    have w2 := wf_of hk
    unfold keyOf KV
    rw [Try.underlying84]
    simp only [ktK, Value.formed, Try.underlying84, c3, hd]
    simp [Program.keyLits, Try.underlying84, Try.underlying3, Try.underlying4, c1, c2, c3, w1, w2, Value.cells, List.mapM_cons]
  obtain ⟨l, e⟩ := Option.isSome_iff_exists.1 h
  unfold KL
  rw [e]
  rfl
theorem kl_ne {m k m' k' : Int} {y y' : Bool} (hm : W64 m) (hk : W64 k) (hm' : W64 m') (hk' : W64 k') (hne : ¬ (m = m' ∧ y = y' ∧ k = k')) : KL m y k ≠ KL m' y' k' := fun h => hne (by
  have e := keyed.inj (kl_at (y := y) hm hk) (by rw [h]; exact kl_at (y := y') hm' hk')
  unfold KV at e
  simp at e
  exact e)
/-- A map of when each clock slipped last, in each of its spans. -/
def MapN (w : World) (g n : Nat) (l : List Slp) : Prop :=
  ∃ D : DataW Unit, w.ownsMap Try.prog TK (plainElem Try.prog TI) g n D ∧ ∀ m y k, W64 m → W64 k → Go.Maps.has D (KL m y k) = (fnd l m y k).isSome ∧ D.atKey (KL m y k) (.lit (.int .i64 0)) = .lit (.int .i64 ((fnd l m y k).getD 0))
theorem MapN.made (w : World) : MapN (w.alloc (.map #[] 0)) w.heap.size 0 [] := ⟨_, World.ownsMap_made _ _ _ _, fun m y k _ _ => ⟨rfl, rfl⟩⟩
theorem MapN.lt {w : World} {g n : Nat} {l : List Slp} (h : MapN w g n l) : g < w.heap.size := by
  obtain ⟨D, h, _⟩ := h
  exact h.lt
theorem MapN.of_block {w w' : World} {g n : Nat} {l : List Slp} (h : MapN w g n l) (hb : w'.heap[g]? = w.heap[g]?) : MapN w' g n l := by
  obtain ⟨D, ⟨es, cl, h1, h2, h3, h4⟩, h5⟩ := h
  exact ⟨D, ⟨es, cl, hb.trans h1, h2, h3, h4⟩, h5⟩
theorem MapN.kept {w w' : World} {g n : Nat} {l : List Slp} (h : MapN w g n l) (hb : Below w.heap.size w w') : MapN w' g n l := h.of_block (hb.block g h.lt)
theorem MapN.put {w w0 : World} {g n n0 : Nat} {l : List Slp} {x : Slp} {D : DataW Unit} (hx : W64 x.m) (ht : 0 ≤ x.t) (ht1 : x.t ≤ 1099511627776) (ho0 : w0.ownsMap Try.prog TK (plainElem Try.prog TI) g n0 D)
    (hh : ∀ m y k, W64 m → W64 k → Go.Maps.has D (KL m y k) = (fnd l m y k).isSome ∧ D.atKey (KL m y k) (.lit (.int .i64 0)) = .lit (.int .i64 ((fnd l m y k).getD 0)))
    (ho : w.ownsMap Try.prog TK (plainElem Try.prog TI) g n (D.put (KL x.m x.y (x.t / 4400)) (.lit (.int .i64 x.t)))) : MapN w g n (l ++ [x]) := by
  have hT := ho0.tidy keyed
  have hq : W64 (x.t / 4400) := by unfold W64; omega
  have hd : x.t.tdiv 4400 = x.t / 4400 := Int.tdiv_eq_ediv_of_nonneg ht
  have hkey := keyed.key (kl_at (y := x.y) hx hq)
  refine ⟨_, ho, fun m y k hm hk => ?_⟩
  rw [fnd_snoc]
  by_cases e : x.m = m ∧ x.y = y ∧ x.t / 4400 = k
  · obtain ⟨rfl, rfl, rfl⟩ := e
    rw [if_pos (by simp [hitB, hd]), has_put_same hT.isMap hkey, atKey_put_same hT.isMap hkey]
    exact ⟨rfl, rfl⟩
  · have hne := kl_ne (y := y) (y' := x.y) hm hk hx hq (fun h => e ⟨h.1.symm, h.2.1.symm, h.2.2.symm⟩)
    rw [if_neg (by simp only [hitB, decide_eq_true_eq, hd]; exact e), has_put_other hne, atKey_put_other hne]
    exact hh m y k hm hk
end Go.Proofs.Ytejhjpdcodloaaa.Ly21
