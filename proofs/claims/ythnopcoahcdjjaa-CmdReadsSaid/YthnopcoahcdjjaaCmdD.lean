/- The contracts of package cmd's with and Clean; no condition. -/
import Derived.Test.YthnopcoahcdjjaaCmdC
namespace Go.Proofs.Ythnopcoahcdjjaa.Ly9
open Go.ChangeShapes Go.WideShapes Go.ChangeAt Go.RowKit Base
set_option linter.unusedVariables false
set_option linter.unusedSimpArgs false

theorem new7 {w : World} (cs : Array Value) : Below w.heap.size w (w.alloc (.cells cs TC)) := (Below.refl _ _).alloc (Nat.le_refl _) _
theorem set7 {w w1 : World} (h : Below w.heap.size w w1) (a b c d e f g : Value) :
    Below w.heap.size w (((((((w1.setCell ⟨w.heap.size, 0, none⟩ a).setCell ⟨w.heap.size, 1, none⟩ b).setCell ⟨w.heap.size, 2, none⟩ c).setCell ⟨w.heap.size, 3, none⟩ d).setCell ⟨w.heap.size, 4, none⟩ e).setCell ⟨w.heap.size, 5, none⟩ f).setCell ⟨w.heap.size, 6, none⟩ g) :=
  ((((((h.setCell (Nat.le_refl _) _).setCell (Nat.le_refl _) _).setCell (Nat.le_refl _) _).setCell (Nat.le_refl _) _).setCell (Nat.le_refl _) _).setCell (Nat.le_refl _) _).setCell (Nat.le_refl _) _
set_option maxRecDepth 100000 in
set_option maxHeartbeats 8000000 in
theorem with_any (o : Int) (ns : List Int) (A : Option Addr) (n : Nat) (w : World) (hl : Lst w A n (ns.map (Value.int .i64))) (hn : ns.length = cnt o) (hb : (o = 6 ∨ o = 8) → ∀ x ∈ ns, 0 ≤ x ∧ x ≤ 255) :
    Calls Try.prog 49 #[.int .i64 o, .slice A n n] w fun e w' => e = .returned (wth o ns) ∧ Below w.heap.size w w' := by
  have hnl : ns.length = n := by simpa using hl.1
  rcases (show o = 1 ∨ o = 2 ∨ o = 3 ∨ o = 4 ∨ o = 6 ∨ o = 8 ∨ (¬ o = 1 ∧ ¬ o = 2 ∧ ¬ o = 3 ∧ ¬ o = 4 ∧ ¬ o = 6 ∧ ¬ o = 8) by omega) with rfl | rfl | rfl | rfl | rfl | rfl | q
  · obtain ⟨n0, n1, n2, n3, rfl⟩ : ∃ a b c d, ns = [a, b, c, d] := by
      match ns, hn with
      | [a, b, c, d], _ => exact ⟨a, b, c, d, rfl⟩
    simp at hnl
    subst hnl
    obtain ⟨b, off, rfl, _, hc⟩ := hl.2 (by omega)
    have c0 := hc 0 (by omega)
    have c1 := hc 1 (by omega)
    have c2 := hc 2 (by omega)
    have c3 := hc 3 (by omega)
    simp only [List.map_cons, List.getElem?_cons_zero, List.getElem?_cons_succ, Nat.add_zero] at c0 c1 c2 c3
    clear hc hl hb hn
    have hv : wth 1 [n0, n1, n2, n3] = cv 1 n0 n1 n2 n3 0 0 := rfl
    rw [hv]
    go_enter Try.func49, Try.ntmps49
    go_wp2
    go_region
    go_wp2
    refine bodyPost_ret (by simp [results, Try.results49, go_sem]) rfl ⟨rfl, ?_⟩
    repeat (first | exact Below.refl _ _ | refine Below.setCell ?_ (by first | omega | (simp; done) | (simp; omega)) _ | refine Below.alloc ?_ (by first | omega | (simp; done) | (simp; omega)) _ | refine below_drewN' ?_ _ | refine Below.drew ?_)
  · obtain ⟨n0, n1, n2, rfl⟩ : ∃ a b c, ns = [a, b, c] := by
      match ns, hn with
      | [a, b, c], _ => exact ⟨a, b, c, rfl⟩
    simp at hnl
    subst hnl
    obtain ⟨b, off, rfl, _, hc⟩ := hl.2 (by omega)
    have c0 := hc 0 (by omega)
    have c1 := hc 1 (by omega)
    have c2 := hc 2 (by omega)
    simp only [List.map_cons, List.getElem?_cons_zero, List.getElem?_cons_succ, Nat.add_zero] at c0 c1 c2
    clear hc hl hb hn
    have hv : wth 2 [n0, n1, n2] = cv 2 n0 n1 0 n2 0 0 := rfl
    rw [hv]
    go_enter Try.func49, Try.ntmps49
    go_wp2
    go_region
    go_wp2
    refine bodyPost_ret (by simp [results, Try.results49, go_sem]) rfl ⟨rfl, ?_⟩
    repeat (first | exact Below.refl _ _ | refine Below.setCell ?_ (by first | omega | (simp; done) | (simp; omega)) _ | refine Below.alloc ?_ (by first | omega | (simp; done) | (simp; omega)) _ | refine below_drewN' ?_ _ | refine Below.drew ?_)
  · obtain ⟨n0, n1, rfl⟩ : ∃ a b, ns = [a, b] := by
      match ns, hn with
      | [a, b], _ => exact ⟨a, b, rfl⟩
    simp at hnl
    subst hnl
    obtain ⟨b, off, rfl, _, hc⟩ := hl.2 (by omega)
    have c0 := hc 0 (by omega)
    have c1 := hc 1 (by omega)
    simp only [List.map_cons, List.getElem?_cons_zero, List.getElem?_cons_succ, Nat.add_zero] at c0 c1
    clear hc hl hb hn
    have hv : wth 3 [n0, n1] = cv 3 0 n0 0 n1 0 0 := rfl
    rw [hv]
    go_enter Try.func49, Try.ntmps49
    go_wp2
    go_region
    go_wp2
    refine bodyPost_ret (by simp [results, Try.results49, go_sem]) rfl ⟨rfl, ?_⟩
    repeat (first | exact Below.refl _ _ | refine Below.setCell ?_ (by first | omega | (simp; done) | (simp; omega)) _ | refine Below.alloc ?_ (by first | omega | (simp; done) | (simp; omega)) _ | refine below_drewN' ?_ _ | refine Below.drew ?_)
  · obtain ⟨n0, rfl⟩ : ∃ a, ns = [a] := by
      match ns, hn with
      | [a], _ => exact ⟨a, rfl⟩
    simp at hnl
    subst hnl
    obtain ⟨b, off, rfl, _, hc⟩ := hl.2 (by omega)
    have c0 := hc 0 (by omega)
    simp only [List.map_cons, List.getElem?_cons_zero, List.getElem?_cons_succ, Nat.add_zero] at c0
    clear hc hl hb hn
    have hv : wth 4 [n0] = cv 4 0 0 0 0 n0 0 := rfl
    rw [hv]
    go_enter Try.func49, Try.ntmps49
    go_wp2
    refine bodyPost_ret (by simp [results, Try.results49, go_sem]) rfl ⟨rfl, ?_⟩
    repeat (first | exact Below.refl _ _ | refine Below.setCell ?_ (by first | omega | (simp; done) | (simp; omega)) _ | refine Below.alloc ?_ (by first | omega | (simp; done) | (simp; omega)) _ | refine below_drewN' ?_ _ | refine Below.drew ?_)
  · obtain ⟨n0, n1, rfl⟩ : ∃ a b, ns = [a, b] := by
      match ns, hn with
      | [a, b], _ => exact ⟨a, b, rfl⟩
    simp at hnl
    subst hnl
    obtain ⟨b, off, rfl, _, hc⟩ := hl.2 (by omega)
    have c0 := hc 0 (by omega)
    have c1 := hc 1 (by omega)
    simp only [List.map_cons, List.getElem?_cons_zero, List.getElem?_cons_succ, Nat.add_zero] at c0 c1
    obtain ⟨p0, p1⟩ := hb (by omega) n0 (by simp)
    obtain ⟨q0, q1⟩ := hb (by omega) n1 (by simp)
    have ho := or8 n0 n1 p0 p1 q0 q1
    clear hc hl hb hn
    have hv : wth 6 [n0, n1] = cv 6 0 0 0 0 0 (n0 * 256 + n1) := rfl
    rw [hv]
    go_enter Try.func49, Try.ntmps49
    go_wp2
    go_region
    go_wp2
    refine bodyPost_ret (by simp [results, Try.results49, go_sem]) rfl ⟨rfl, ?_⟩
    repeat (first | exact Below.refl _ _ | refine Below.setCell ?_ (by first | omega | (simp; done) | (simp; omega)) _ | refine Below.alloc ?_ (by first | omega | (simp; done) | (simp; omega)) _ | refine below_drewN' ?_ _ | refine Below.drew ?_)
  · obtain ⟨n0, n1, rfl⟩ : ∃ a b, ns = [a, b] := by
      match ns, hn with
      | [a, b], _ => exact ⟨a, b, rfl⟩
    simp at hnl
    subst hnl
    obtain ⟨b, off, rfl, _, hc⟩ := hl.2 (by omega)
    have c0 := hc 0 (by omega)
    have c1 := hc 1 (by omega)
    simp only [List.map_cons, List.getElem?_cons_zero, List.getElem?_cons_succ, Nat.add_zero] at c0 c1
    obtain ⟨p0, p1⟩ := hb (by omega) n0 (by simp)
    obtain ⟨q0, q1⟩ := hb (by omega) n1 (by simp)
    have ho := or8 n0 n1 p0 p1 q0 q1
    clear hc hl hb hn
    have hv : wth 8 [n0, n1] = cv 8 0 0 0 0 0 (n0 * 256 + n1) := rfl
    rw [hv]
    go_enter Try.func49, Try.ntmps49
    go_wp2
    go_region
    go_wp2
    refine bodyPost_ret (by simp [results, Try.results49, go_sem]) rfl ⟨rfl, ?_⟩
    repeat (first | exact Below.refl _ _ | refine Below.setCell ?_ (by first | omega | (simp; done) | (simp; omega)) _ | refine Below.alloc ?_ (by first | omega | (simp; done) | (simp; omega)) _ | refine below_drewN' ?_ _ | refine Below.drew ?_)
  · have hf : (o == 1) = false ∧ (o == 2) = false ∧ (o == 3) = false ∧ (o == 4) = false ∧ (o == 6) = false ∧ (o == 8) = false := by
      obtain ⟨h1, h2, h3, h4, h5, h6⟩ := q
      simp [h1, h2, h3, h4, h5, h6]
    obtain ⟨e1, e2, e3, e4, e6, e8⟩ := hf
    have hv : wth o ns = cv o 0 0 0 0 0 0 := by
      obtain ⟨h1, h2, h3, h4, h5, h6⟩ := q
      unfold wth
      rw [if_neg h1, if_neg h2, if_neg h3, if_neg h4, if_neg (by omega)]
    rw [hv]
    clear hl hb hn hnl q hv
    go_enter Try.func49, Try.ntmps49
    go_wp2
    refine bodyPost_ret (by simp [results, Try.results49, go_sem]) rfl ⟨rfl, ?_⟩
    repeat (first | exact Below.refl _ _ | refine Below.setCell ?_ (by first | omega | (simp; done) | (simp; omega)) _ | refine Below.alloc ?_ (by first | omega | (simp; done) | (simp; omega)) _ | refine below_drewN' ?_ _ | refine Below.drew ?_)
end Go.Proofs.Ythnopcoahcdjjaa.Ly9
