/- The contract of layer 1's closed example: it is true, and leaves all memory that was there as it was. -/
import Derived.Test.YtoafjbdfdamlfaaCellR
namespace Go.Proofs.Ytoafjbdfdamlfaa.Ly1
open Go.ChangeShapes Go.WideShapes Go.ChangeAt Go.RowKit Base
set_option linter.unusedVariables false
set_option linter.unusedSimpArgs false

theorem wave_true : waveOf [true] = [true, true, true, true, true, true, true, true, true, true, false, false, false, false, false, false, false, false, false, false] := by decide
theorem read_true : readTo (waveOf [true]) 0 ((waveOf [true]).length / 20) = some [true] := by decide
theorem lst_one (w : World) (u : Value) (t : TypeId) : Lst (w.alloc (.cells #[u] t)) (some ⟨w.heap.size, 0, none⟩) 1 [u] :=
  ⟨rfl, fun _ => ⟨w.heap.size, 0, rfl, by simp, fun k hk => by
    obtain rfl : k = 0 := by omega
    rw [World.cell?_alloc_at _ _ _ _ rfl]; rfl⟩⟩

set_option maxHeartbeats 1000000 in
theorem one_any (w : World) : Calls Try.prog 17 #[] w fun e w' => e = .returned (.bool true) ∧ Below w.heap.size w w' := by
  go_enter Try.func17, Try.ntmps17
  go_wp2_with fail
  refine (wave_any _ 1 1 [true] _ (lst_one w (.bool true) _) (by omega)).mono ?_
  rintro e w1 ⟨v, rfl, hown, hb1⟩
  have hb01 : Below w.heap.size w w1 := ((Below.refl _ _).alloc (Nat.le_refl _) _).trans (hb1.mono (by simp))
  obtain ⟨A, c, rfl, _, _, hl⟩ := Lst.of_own hown
  have hA : ∃ b off, A = some ⟨b, off, none⟩ ∧ w1.cell? ⟨b, off + 9, none⟩ = some (.bool true) ∧ w1.cell? ⟨b, off + 10, none⟩ = some (.bool false) := by
    obtain ⟨b, off, e, _, h⟩ := hl.2 (by omega)
    exact ⟨b, off, e, by rw [h 9 (by omega), wave_true]; rfl, by rw [h 10 (by omega), wave_true]; rfl⟩
  clear hown
  go_wp2_with fail
  refine (read_any A 20 c (waveOf [true]) 0 w1 hl (by omega) (by omega) (by omega)).mono ?_
  rintro e w2 ⟨hb2, hr⟩
  have hb02 : Below w.heap.size w w2 := hb01.trans (hb2.mono hb01.size)
  obtain ⟨b, off, rfl, h9, h10⟩ := hA
  have hblt : b < w1.heap.size := World.block_lt_of_cell? w1 _ h9
  rcases hr with ⟨hn, _⟩ | ⟨xs, v2, hx, rfl, hown2⟩
  · rw [read_true] at hn; cases hn
  · rw [read_true] at hx
    cases hx
    obtain ⟨A2, c2, rfl, _, _, hl2⟩ := Lst.of_own hown2
    rw [waveOf_len] at hl2
    obtain ⟨b2, off2, rfl, _, h0⟩ := hl2.get (k := 0) (by simp)
    simp at h0
    have h9' : w2.cell? ⟨b, off + 9, none⟩ = some (.bool true) := (hb2.cell (p := ⟨b, off + 9, none⟩) hblt).trans h9
    have h10' : w2.cell? ⟨b, off + 10, none⟩ = some (.bool false) := (hb2.cell (p := ⟨b, off + 10, none⟩) hblt).trans h10
    clear h9 h10 hl hl2 hown2
    rw [waveOf_len]
    go_wp2_with (go_at_call 15; refine (look_t _ _ (by omega) (by omega)).mono ?_; rintro e w' ⟨rfl, rfl⟩)
    go_ret
    exact ⟨rfl, hb02⟩
end Go.Proofs.Ytoafjbdfdamlfaa.Ly1
