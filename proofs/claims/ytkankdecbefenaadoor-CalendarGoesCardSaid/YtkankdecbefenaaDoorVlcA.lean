/- The bits from pulse to pulse: as numbers, and the contract of the document's Spans. -/
import Derived.Test.YtkankdecbefenaaDoorPlnJ
import Derived.Test.YtkankdecbefenaaDoorPlnI
namespace Go.Proofs.YtkankdecbefenaaDoor.Ly7
open Go.ChangeShapes Go.WideShapes Go.ChangeAt Go.RowKit Base
set_option linter.unusedVariables false
set_option linter.unusedSimpArgs false

theorem info_int : (Tryd.prog.info? 3).map (fun i => (i.zero, i.size, i.bytes)) = some (some (.int .i64 0), 1, 8) := by kernel_rfl
/-- The spans so far, the first pulse and the last one, as the slots come. -/
def spStep (st : List Int × Int × Int) (x : Sl) : List Int × Int × Int :=
  if x.k = 3 then (st.1, (x.s + 60) / 20, (x.s + 60) / 20) else if x.k = 2 then (st.1 ++ [(x.s + 40) / 20 - st.2.2], st.2.1, (x.s + 40) / 20) else st
def spL (L : List Sl) : List Int × Int × Int := L.foldl spStep ([], 0, 0)
theorem spL_snoc (L : List Sl) (x : Sl) : spL (L ++ [x]) = spStep (spL L) x := by unfold spL; rw [List.foldl_append]; rfl
def PS (ver : Nat) (ws : List Wd) (j : Nat) : List Int × Int × Int := spL (slHead ver :: midL (-1) (ws.take j) (leadI ver))
theorem PS_zero (ver : Nat) (ws : List Wd) : PS ver ws 0 = ([], 3, 3) := by
  unfold PS
  simp only [List.take_zero, midL]
  rfl
theorem PS_two {ver : Nat} {ws : List Wd} {j : Nat} {x : Wd} (hx : ws[j]? = some x) (h : x.k = 2) : PS ver ws (j + 1) = ((PS ver ws j).1 ++ [(endS (ws.take j) (leadI ver) + 40) / 20 - (PS ver ws j).2.2], (PS ver ws j).2.1, (endS (ws.take j) (leadI ver) + 40) / 20) := by
  unfold PS
  rw [midL_next hx, show x.sl (-1) (endS (ws.take j) (leadI ver)) = [⟨2, endS (ws.take j) (leadI ver), x.tk, 0, 0, 0, -1, false⟩] by unfold Wd.sl; rw [if_neg (by omega), if_pos (by omega), h], spL_snoc]
  unfold spStep
  rw [if_neg (by simp), if_pos rfl]
theorem PS_not {ver : Nat} {ws : List Wd} {j : Nat} {x : Wd} (hx : ws[j]? = some x) (h : x.k ≠ 2) : PS ver ws (j + 1) = PS ver ws j := by
  unfold PS
  rw [midL_next hx]
  unfold Wd.sl
  split
  · rw [spL_snoc]
    unfold spStep
    rw [if_neg (by simp), if_neg (by simp)]
  · split
    · rw [spL_snoc]
      unfold spStep
      rw [if_neg (by simp; omega), if_neg (by simp; omega)]
    · rw [List.append_nil]
theorem PS_past {ver : Nat} {ws : List Wd} {j : Nat} (hx : ws[j]? = none) : PS ver ws (j + 1) = PS ver ws j := by
  unfold PS
  have h := List.getElem?_eq_none_iff.1 hx
  rw [List.take_of_length_le (by omega), List.take_of_length_le h]
theorem PS_all (ver : Nat) (ws : List Wd) : ∀ j, (PS ver ws j).1.length ≤ j ∧ (PS ver ws j).2.1 = 3 ∧ 0 ≤ (PS ver ws j).2.2 ∧ (PS ver ws j).2.2 ≤ 20 + leadI ver + 1000 * (j : Int) := by
  have hl0 : 0 ≤ leadI ver := by unfold leadI; omega
  intro j
  induction j with
  | zero => rw [PS_zero]; simp; omega
  | succ j ih =>
    cases hx : ws[j]? with
    | none => rw [PS_past hx]; omega
    | some x =>
      by_cases h : x.k = 2
      · rw [PS_two hx h]
        have hb := endS_bd (ws.take j) (leadI ver)
        have hl : (ws.take j).length ≤ j := by rw [List.length_take]; omega
        have hlead : 0 ≤ leadI ver := by unfold leadI; omega
        refine ⟨by simp; omega, ih.2.1, ?_, ?_⟩
        · show 0 ≤ (endS (ws.take j) (leadI ver) + 40) / 20
          omega
        · show (endS (ws.take j) (leadI ver) + 40) / 20 ≤ 20 + leadI ver + 1000 * ((j + 1 : Nat) : Int)
          omega
      · rw [PS_not hx h]; omega
/-- The bits from pulse to pulse of a frame. -/
def spanF (ver : Nat) (ws : List Wd) : List Int := (PS ver ws ws.length).1 ++ [endS ws (leadI ver) / 20 + 6 + 3 - (PS ver ws ws.length).2.2]
abbrev inV (l : List Int) : List Value := l.map (Value.int .i64)
/-- What the document's Spans has so far. -/
def VR (w : World) (n ver : Nat) (ws : List Wd) (a l o i : Value) (wx : World) : Prop :=
  ∃ j : Nat, j ≤ n ∧ i = .int .i64 j ∧ a = .int .i64 (endS (ws.take j) (leadI ver) / 20) ∧ l = .int .i64 (PS ver ws j).2.2 ∧ wx.ownsRow w.heap.size 3 1 o (PS ver ws j).1.length (inV (PS ver ws j).1) ∧ Below w.heap.size w wx
theorem VR_two {w : World} {n ver : Nat} {ws : List Wd} {j : Nat} {x : Wd} (hj : j < n) (hx : ws[j]? = some x) (h : x.k = 2) {S G la : Int} {nq : Nat} {xs : List Int} (hS : endS (ws.take j) (leadI ver) / 20 = S) (hG : 20 * G = x.tk) (hp : PS ver ws j = (xs, 3, la)) (hn : xs.length = nq) {o : Value} {wx : World} (ho : wx.ownsRow w.heap.size 3 1 o (nq + 1) (inV xs ++ [.int .i64 (S + 2 - la)])) (hb : Below w.heap.size w wx) :
    VR w n ver ws (.int .i64 (S + G)) (.int .i64 (S + 2)) o (.int .i64 ((j + 1 : Nat) : Int)) wx := by
  refine ⟨j + 1, by omega, rfl, ?_, ?_, ?_, hb⟩
  · rw [endS_next hx]
    congr 1
    omega
  · rw [PS_two hx h]
    congr 1
    show S + 2 = (endS (ws.take j) (leadI ver) + 40) / 20
    omega
  · rw [PS_two hx h, hp, show (endS (ws.take j) (leadI ver) + 40) / 20 = S + 2 by omega]
    simpa [inV, hn] using ho
theorem VR_not {w : World} {n ver : Nat} {ws : List Wd} {j : Nat} {x : Wd} (hj : j < n) (hx : ws[j]? = some x) (h : x.k ≠ 2) {S G la : Int} {nq : Nat} {xs : List Int} (hS : endS (ws.take j) (leadI ver) / 20 = S) (hG : 20 * G = x.tk) (hp : PS ver ws j = (xs, 3, la)) (hn : xs.length = nq) {o : Value} {wx : World} (ho : wx.ownsRow w.heap.size 3 1 o nq (inV xs)) (hb : Below w.heap.size w wx) :
    VR w n ver ws (.int .i64 (S + G)) (.int .i64 la) o (.int .i64 ((j + 1 : Nat) : Int)) wx := by
  refine ⟨j + 1, by omega, rfl, ?_, ?_, ?_, hb⟩
  · rw [endS_next hx]
    congr 1
    omega
  · rw [PS_not hx h, hp]
  · rw [PS_not hx h, hp, hn]
    exact ho
end Go.Proofs.YtkankdecbefenaaDoor.Ly7
