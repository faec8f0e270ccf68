/- How long the words of events that come in can be; no condition. -/
import Derived.Test.YtanhblokhcaoiaaDoorTrcQ
import Derived.SizedLaws
namespace Go.Proofs.YtanhblokhcaoiaaDoor.Tr
open Go.ChangeShapes Go.WideShapes Go.ChangeAt Go.RowKit Base Go.Maps
open Hl (Ev TE TI EvsAt evL evC)
set_option linter.unusedVariables false
set_option linter.unusedSimpArgs false

section
variable {H : Type} {enc : TypeId × Value → H} {w : World} {base : Nat} {sp : Nat → Bool} {held : Bool}
theorem weightsAll_mem {P : Program} {e : TypeId} : ∀ {l : List (DataW H)} {d : DataW H}, d ∈ l → ∀ n ∈ d.weights P e, n ∈ DataW.weightsAll P e l
  | z :: r, d, hd, n, hn => by
    simp only [DataW.weightsAll, List.mem_append]
    rcases List.mem_cons.1 hd with rfl | hd
    · exact .inl hn
    · exact .inr (weightsAll_mem hd n hn)
theorem small_words {fuel : Nat} {cs : List Value} {x : DataW H × List MemPlace} (h : DataW.trod enc Tryd.prog w base sp held fuel 33 cs = some x) (hs : ∀ n ∈ x.1.weights Tryd.prog 33, n ≤ reachBytes) {A : Option Addr} {n c : Nat} (hc : cs = [.slice A n c]) : n ≤ reachBytes := by
  rcases DataW.trod_slice Tryd.underlying33 h with ⟨rfl, rfl⟩ | ⟨a, len, cap, elems, rest, m, _, rfl, rfl, _, _, _, hlen, _⟩
  · injection hc with hc _
    injection hc with _ hc _
    rw [← hc]
    exact Nat.zero_le _
  · injection hc with hc _
    injection hc with _ hc _
    have hb : Tryd.prog.bytesOf 5 = 1 := by kernel_rfl
    have := hs ((elems.length + rest.length) * 1) (by simp [DataW.weights, Tryd.underlying33, hb])
    omega
theorem small_event {fuel : Nat} {cs : List Value} {x : DataW H × List MemPlace} (h : DataW.trod enc Tryd.prog w base sp held fuel TE cs = some x) (hs : ∀ n ∈ x.1.weights Tryd.prog TE, n ≤ reachBytes) {A : Option Addr} {n c : Nat} (hc : cs[7]? = some (.slice A n c)) : n ≤ reachBytes := by
  obtain ⟨xs, m, _, rfl, _, hxl, hx⟩ := DataW.trod_struct Tryd.underlying45 h
  have hxl : xs.length = 8 := hxl
  obtain ⟨y, hy⟩ : ∃ y, xs[7]? = some y := ⟨_, List.getElem?_eq_getElem (by omega)⟩
  have h7 := hx 7 _ rfl
  rw [hy] at h7
  refine small_words h7 (fun k hk => hs k ?_) (A := A) (c := c) ?_
  · simp only [DataW.weights, Tryd.underlying45]
    exact DataW.weights_mem_each (j := 7) (t := 33) (d := y.1) (by rfl) (by rw [List.getElem?_map, hy]; rfl) k hk
  · have h1 : Tryd.prog.cellsOf 33 = 1 := by kernel_rfl
    have hl := (List.getElem?_eq_some_iff.1 hc).1
    have hv := (List.getElem?_eq_some_iff.1 hc).2
    show (cs.drop 7).take (Tryd.prog.cellsOf 33) = _
    rw [h1, List.drop_eq_getElem_cons hl, hv]
    rfl
theorem small_slice {fuel : Nat} {A : Option Addr} {n c : Nat} {x : DataW H × List MemPlace} (h : DataW.trod enc Tryd.prog w base sp held fuel 39 [.slice A n c] = some x) (hs : ∀ n ∈ x.1.weights Tryd.prog 39, n ≤ reachBytes) {b off : Nat} (hA : A = some ⟨b, off, none⟩) {i : Nat} (hi : i < n) {A' : Option Addr} {n' c' : Nat}
    (hc : w.cell? ⟨b, off + i * 8 + 7, none⟩ = some (.slice A' n' c')) : n' ≤ reachBytes := by
  rcases DataW.trod_slice Tryd.underlying39 h with ⟨e, rfl⟩ | ⟨a, len, cap, elems, rest, m, _, e, rfl, _, _, _, hlen, hel, _⟩
  · injection e with e _
    injection e with e _ _
    rw [e] at hA
    cases hA
  · injection e with e _
    injection e with e1 e2 _
    subst e2
    rw [e1] at hA
    injection hA with hA
    subst hA
    have hce : Tryd.prog.cellsOf TE = 8 := by kernel_rfl
    have h1 := hel i hi
    obtain ⟨y, hy⟩ : ∃ y, elems[i]? = some y := ⟨_, List.getElem?_eq_getElem (by omega)⟩
    rw [hy, hce] at h1
    cases hcs : w.cells? base (Addr.add ⟨b, off, none⟩ (i * 8)) 8 with
    | none => rw [hcs] at h1; cases h1
    | some cs =>
      rw [hcs] at h1
      obtain ⟨_, hl0, hc0⟩ := World.cells?_some hcs
      have h7 := hc0 7 (by omega)
      rw [add_eq, add_eq, hc] at h7
      refine small_event h1 (fun k hk => hs k ?_) h7.symm
      simp only [DataW.weights, Tryd.underlying39]
      exact List.mem_cons_of_mem _ (List.mem_append_left _ (weightsAll_mem (List.mem_map.2 ⟨y, List.mem_of_getElem? hy, rfl⟩) k hk))
end
end Go.Proofs.YtanhblokhcaoiaaDoor.Tr
