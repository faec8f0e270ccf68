/- The contracts of package delay's Clear, of the document's own answer, and of layer 4's closed example. -/
import Derived.Test.YtpaejdmdbijdoaaDlyA
import Derived.Outline
import Derived.StillTailTactics
import Derived.Laws.Tables
namespace Go.Proofs.Ytpaejdmdbijdoaa.Ly4
open Go.ChangeShapes Go.WideShapes Go.ChangeAt Go.RowKit Base
set_option linter.unusedVariables false
set_option linter.unusedSimpArgs false

theorem ownsRow_wrote {w w' : World} {base b : Nat} {e : TypeId} {size : Nat} {v : Value} {n : Nat} {xs : List Value} (h : w.ownsRow base e size v n xs) (hw : Wrote b w w') (hb : b < base) : w'.ownsRow base e size v n xs := by
  refine h.kept hw ?_
  rcases h.2 with ⟨rfl, _⟩ | ⟨g, cap, cur, rfl, hg, _⟩
  · exact .inl rfl
  · refine .inr ?_
    simp [Value.ownBlock]
    omega

theorem wrote_setRow {b : Nat} {w : World} {T : TypeId} {cs : Array Value} (h : Obj1 w b T cs) (cs' : Array Value) : Obj1 (w.setRow b cs') b T cs' ∧ Wrote b w (w.setRow b cs') := by
  refine ⟨setRow_heap w b _ _ T _ h, rfl, rfl, rfl, by simp, fun i hi hne => ?_⟩
  have : i ≠ b := fun e => hne (by rw [e])
  simp only [World.setRow, Array.getElem?_modify]
  rw [if_neg (by omega)]

def zeroCells (t : Nat) : Array Value := #[.bool true, .int .i64 t, .int .i64 0, .int .u8 0, .int .u8 0, .int .u8 0, .int .u8 0, .int .u8 0, .int .u8 0, .int .u8 0, .int .u8 0, .int .u8 0, .int .u8 0, .int .u8 0, .int .u8 0, .int .u8 0, .int .u8 0, .int .u8 0, .int .u8 0]

set_option maxRecDepth 100000 in
theorem clear_any (b t : Nat) (h : List Int) (w : World) (d : Dly w b t h) :
    Calls Try.prog 16 #[.pointer (some ⟨b, 0, none⟩)] w fun e w' => e = .returned (.tuple #[]) ∧ Dly w' b t [] ∧ Wrote b w w' := by
  obtain ⟨cs, ho, hs, h0, h1, h2, hr⟩ := d
  have c0 := (ho.cell 0).trans h0
  have c1 := (ho.cell 1).trans h1
  have HO := Lib.hid ho
  have HS := Lib.hid hs
  clear ho hs hr h0 h1 h2
  go_enter Try.func16, Try.ntmps16
  go_wp2
  go_still_tail 11, (by kernel_rfl)
  change wpList _ _ _ _ _ w.drew
  refine wpList_store_row rfl 36 _ _ rfl b (zeroCells t) rfl rfl 36 cs HO.out (by kernel_rfl) (by rw [HS.out]; rfl) (by simp [zeroCells, Value.oneCell']) ?_
  have HW := Lib.hid (wrote_setRow (w := w.drew) HO.out (zeroCells t))
  generalize w.drew.setRow b (zeroCells t) = W at HW ⊢
  go_wp2
  go_end0
  exact ⟨rfl, ⟨_, HW.out.1, rfl, rfl, rfl, rfl, fun i hi => by simp at hi⟩, ((Wrote.refl b w).drew).trans HW.out.2⟩

theorem rseen_any (A : Option Addr) (n c t : Nat) (h : List Int) (w : World) (hl : Lst w A n (h.map (Value.int .i64))) (hn : n ≤ 1000000) (ht : t ≤ 15) :
    Calls Try.prog 18 #[.slice A n c, .int .i64 t] w fun e w' => e = .returned (.int .i64 (seenF h t)) ∧ w = w' := by
  have hln : h.length = n := by simpa using hl.1
  unfold seenF
  rw [hln]
  by_cases hle : n ≤ t
  · rw [if_pos hle]
    clear hln
    go_enter Try.func18, Try.ntmps18
    go_wp2
    go_ret
    exact ⟨rfl, rfl⟩
  · rw [if_neg hle]
    obtain ⟨j, hj⟩ : ∃ j, n - 1 - t = j := ⟨_, rfl⟩
    have hjn : j < n := by omega
    have hk : (n : Int) - 1 - (t : Int) = (j : Int) := by omega
    obtain ⟨b, off, rfl, _, hc⟩ := hl.get hjn
    rw [List.getElem_map] at hc
    have e : h.getD j 0 = h[j]'(by omega) := by simp [List.getD_eq_getElem?_getD, show j < h.length by omega]
    rw [hj, e]
    generalize h[j]'(by omega) = x at hc
    clear hj hln e hl
    go_enter Try.func18, Try.ntmps18
    go_wp2
    go_ret
    exact ⟨rfl, rfl⟩

set_option maxHeartbeats 1000000 in
theorem one_any (w : World) : Calls Try.prog 15 #[] w fun e w' => e = .returned (.bool true) ∧ Below w.heap.size w w' := by
  go_enter Try.func15, Try.ntmps15
  go_wp2_with fail
  refine (new_yes 1 w (by omega)).mono ?_
  rintro e w1 ⟨rfl, hd1, hb1⟩
  go_wp2_with fail
  refine (see_any _ 1 [] 5 w1 hd1 (by omega) (by simp) (by omega) (by omega)).mono ?_
  rintro e w2 ⟨rfl, hd2, hw2⟩
  rw [show seenF ([] ++ [5]) 1 = 0 by decide]
  have hb2 := hb1.trans (hw2.below (Nat.le_refl _) hb1.size)
  have HD2 := Lib.hid hd2
  clear hd2 hd1 hw2 hb1
  go_wp2_with fail
  refine (see_any _ 1 [5] 6 w2 HD2.out (by omega) (by simp) (by omega) (by omega)).mono ?_
  rintro e w3 ⟨rfl, hd3, hw3⟩
  rw [show seenF ([5] ++ [6]) 1 = 5 by decide]
  have hb3 := hb2.trans (hw3.below (Nat.le_refl _) hb2.size)
  have HD3 := Lib.hid hd3
  clear hd3 hw3 HD2
  go_wp2_with (first | (go_at_call 20; refine (ticks_any _ 1 _ _ HD3.out).mono ?_; rintro e w' ⟨rfl, rfl⟩) | (go_at_call 19; refine (last_any _ 1 _ _ HD3.out).mono ?_; rintro e w' ⟨rfl, rfl⟩))
  go_ret
  exact ⟨rfl, hb3⟩
end Go.Proofs.Ytpaejdmdbijdoaa.Ly4
