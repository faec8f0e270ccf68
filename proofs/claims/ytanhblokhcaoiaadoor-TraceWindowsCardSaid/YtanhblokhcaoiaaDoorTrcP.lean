/- Events that come in, with their words; no condition. -/
import Derived.Test.YtanhblokhcaoiaaDoorTrcO
import Derived.Test.YtanhblokhcaoiaaDoorSh
import Derived.Test.YtanhblokhcaoiaaDoorShAr
import Derived.Test.YtanhblokhcaoiaaDoorArr
import Derived.Test.YtanhblokhcaoiaaDoorBox
namespace Go.Proofs.YtanhblokhcaoiaaDoor.Tr
open Go.ChangeShapes Go.WideShapes Go.ChangeAt Go.RowKit Base Go.Maps
open Hl (Ev TE TI EvsAt evL evC)
set_option linter.unusedVariables false
set_option linter.unusedSimpArgs false

abbrev shE : Sh := .fld (.int .i64) (.fld (.int .i64) (.fld (.int .i64) (.fld (.int .i64) (.fld (.int .i64) (.fld (.int .i64) (.fld (.int .i64) (.fld (.sl (.int .u8)) .nil)))))))
theorem u8_of {x : Int} (h : (Lit.int .u8 x).wf = true) : ∃ n : Nat, x = (n : Int) ∧ n < 256 := by
  have h' := bounds_u8 h
  exact ⟨x.toNat, by omega, by omega⟩
theorem words_in {w : World} {A : Option Addr} {n : Nat} {rows : List (List Value)} (hg : Grid w A n 1 rows) (hr : ∀ r ∈ rows, Reads w (.int .u8) r) : ∃ vs : List Nat, Lst w A n (vs.map bV) ∧ ∀ y ∈ vs, y < 256 := by
  have hx : ∃ vs : List Nat, rows = vs.map (fun x => [bV x]) ∧ ∀ y ∈ vs, y < 256 := by
    clear hg
    induction rows with
    | nil => exact ⟨[], rfl, fun y hy => by cases hy⟩
    | cons r rs ih =>
      obtain ⟨vs, rfl, hv⟩ := ih (fun r hr' => hr r (by simp [hr']))
      obtain ⟨x, rfl, hx⟩ := hr r (by simp)
      obtain ⟨m, rfl, hm⟩ := u8_of hx
      refine ⟨m :: vs, rfl, fun y hy => ?_⟩
      rcases List.mem_cons.1 hy with rfl | hy
      · exact hm
      · exact hv y hy
  obtain ⟨vs, rfl, hv⟩ := hx
  have hl : vs.length = n := by have := hg.1; simpa using this
  refine ⟨vs, ⟨by simpa using hl, fun hn => ?_⟩, hv⟩
  obtain ⟨b, off, e, hb, hc⟩ := hg.2 hn
  refine ⟨b, off, e, hb, fun k hk => ?_⟩
  have h := hc k 0 hk (by omega)
  rw [show off + k = off + (k * 1 + 0) by omega, h, List.getElem?_map, List.getElem?_eq_getElem (by omega)]
  first
    | rfl
    | (rw [List.getElem?_map, List.getElem?_eq_getElem (by omega)]; rfl)
    | simp [bV]
/-- What an event that comes in is. -/
def EvIn (w : World) (a : EW) : Prop := (I64 a.1.t ∧ I64 a.1.m ∧ I64 a.1.s ∧ I64 a.1.v ∧ I64 a.1.c) ∧ (I64 a.1.k ∧ I64 a.1.si) ∧ Lst w a.1.A a.1.n (a.2.map bV) ∧ (∀ y ∈ a.2, y < 256) ∧ a.1.n ≤ maxLen
theorem ev_in {w : World} {r : List Value} (h : Reads w shE r) : ∃ a : EW, r = evL a.1 ∧ EvIn w a := by
  obtain ⟨_, _, rfl, ⟨a0, rfl, ha0⟩, _, _, rfl, ⟨a1, rfl, ha1⟩, _, _, rfl, ⟨a2, rfl, ha2⟩, _, _, rfl, ⟨a3, rfl, ha3⟩, _, _, rfl, ⟨a4, rfl, ha4⟩, _, _, rfl, ⟨a5, rfl, ha5⟩, _, _, rfl, ⟨a6, rfl, ha6⟩, _, _, rfl, ⟨A', n', c', rows, rfl, hnc, hcm, hg, hr⟩, hz⟩ := h
  have hz' : (_ : List Value) = [] := hz
  subst hz'
  obtain ⟨vs, hl, hv⟩ := words_in hg hr
  exact ⟨(⟨a0, a1, a2, a3, a4, a5, a6, A', n', c'⟩, vs), rfl, ⟨bounds_i64 ha0, bounds_i64 ha1, bounds_i64 ha3, bounds_i64 ha4, bounds_i64 ha6⟩, ⟨bounds_i64 ha2, bounds_i64 ha5⟩, hl, hv, Nat.le_trans hnc hcm⟩
theorem evs_in {w : World} {A : Option Addr} {n : Nat} {rows : List (List Value)} (hg : Grid w A n 8 rows) (hr : ∀ r ∈ rows, Reads w shE r) : ∃ ls : List EW, EvsAt w A n (ls.map (·.1)) ∧ ∀ a ∈ ls, EvIn w a := by
  have hx : ∃ ls : List EW, rows = ls.map (fun a => evL a.1) ∧ ∀ a ∈ ls, EvIn w a := by
    clear hg
    induction rows with
    | nil => exact ⟨[], rfl, fun x hx => by cases hx⟩
    | cons r rs ih =>
      obtain ⟨xs, rfl, hx⟩ := ih (fun r hr' => hr r (by simp [hr']))
      obtain ⟨a, rfl, ha⟩ := ev_in (hr r (by simp))
      refine ⟨a :: xs, rfl, fun q hq => ?_⟩
      rcases List.mem_cons.1 hq with rfl | hq
      · exact ha
      · exact hx q hq
  obtain ⟨ls, rfl, hx⟩ := hx
  refine ⟨ls, ⟨by simpa using hg.1, fun hn => ?_⟩, hx⟩
  obtain ⟨b, off, e, hb, hc⟩ := hg.2 hn
  refine ⟨b, off, e, hb, fun i x hx j hj => ?_⟩
  have hi : i < n := by
    have h1 := (List.getElem?_eq_some_iff.1 hx).1
    have h2 := hg.1
    simp only [List.length_map] at h1 h2
    omega
  have h := hc i j hi (by omega)
  rw [List.getElem?_map] at hx
  obtain ⟨a, ha, rfl⟩ := Option.map_eq_some_iff.1 hx
  rw [show off + i * 8 + j = off + (i * 8 + j) by omega, h, List.getElem?_map, ha]
  rfl
end Go.Proofs.YtanhblokhcaoiaaDoor.Tr
