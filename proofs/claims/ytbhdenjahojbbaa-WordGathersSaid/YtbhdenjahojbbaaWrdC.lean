/- The statements' own helper 'one' of layer 2. -/
import Derived.Test.YtbhdenjahojbbaaWrdB
namespace Go.Proofs.Ytbhdenjahojbbaa.Ly2
open Go.ChangeShapes Go.WideShapes Go.ChangeAt Go.RowKit Base
set_option linter.unusedVariables false
set_option linter.unusedSimpArgs false

set_option maxRecDepth 100000 in
set_option maxHeartbeats 1000000 in
theorem one_any (w : World) : Calls Try.prog 29 #[] w fun e w' => e = .returned (.bool true) ∧ Below w.heap.size w w' := by
  have hlst : Lst (w.alloc (.cells #[.int .u8 5] 5)) (some ⟨w.heap.size, 0, none⟩) 1 ([5].map fun (x : Nat) => Value.int .u8 x) :=
    ⟨rfl, fun _ => ⟨w.heap.size, 0, rfl, by simp, fun k hk => by
      obtain rfl : k = 0 := by omega
      exact (Obj1.new w 5 #[.int .u8 5]).cell 0⟩⟩
  have HB := Lib.hid (bits_any (some ⟨w.heap.size, 0, none⟩) 1 1 [5] _ hlst (by intro x hx; simp at hx; omega) (by omega))
  have h0 : Below w.heap.size w (w.alloc (.cells #[.int .u8 5] 5)) := (Below.refl _ _).alloc (Nat.le_refl _) _
  have H0 := Lib.hid h0
  clear hlst h0
  go_enter Try.func29, Try.ntmps29
  go_wp2_with fail
  refine HB.out.mono ?_
  rintro e w1 ⟨v, rfl, hown, hb1⟩
  obtain ⟨B, d, rfl, hd, hdm, hl⟩ := Lst.of_own hown
  obtain ⟨b, off, rfl, hbl, hc⟩ := hl.2 (by decide)
  have HL := Lib.hid hl
  have H1 := Lib.hid (H0.out.trans (hb1.mono H0.out.size))
  clear hown hb1 hl
  have c4 := hc 4 (by decide)
  have c5 := hc 5 (by decide)
  have c6 := hc 6 (by decide)
  have c7 := hc 7 (by decide)
  rw [show ((bitsOf [5]).map Value.bool)[4]? = some (Value.bool false) from rfl] at c4
  rw [show ((bitsOf [5]).map Value.bool)[5]? = some (Value.bool true) from rfl] at c5
  rw [show ((bitsOf [5]).map Value.bool)[6]? = some (Value.bool false) from rfl] at c6
  rw [show ((bitsOf [5]).map Value.bool)[7]? = some (Value.bool true) from rfl] at c7
  clear hc
  go_wp2_with fail
  refine (words_any (some ⟨b, off, none⟩) 1 d (bitsOf [5]) w1 HL.out (by omega)).mono ?_
  rintro e w2 ⟨rfl, HO, hb2⟩
  have k4 := (hb2.cell (p := ⟨b, off + 4, none⟩) hbl).trans c4
  have k5 := (hb2.cell (p := ⟨b, off + 5, none⟩) hbl).trans c5
  have k6 := (hb2.cell (p := ⟨b, off + 6, none⟩) hbl).trans c6
  have k7 := (hb2.cell (p := ⟨b, off + 7, none⟩) hbl).trans c7
  have w0 := HO.out.cell 0
  rw [show (((wordsOf (bitsOf [5]) 1).map fun (x : Nat) => Value.int .u8 x).toArray)[0]? = some (Value.int .u8 ((wst (bitsOf [5]) 8 0 : Nat) : Int)) from rfl, show wst (bitsOf [5]) 8 0 = 5 by decide] at w0
  have H2 := Lib.hid (H1.out.trans (hb2.mono H1.out.size))
  clear c4 c5 c6 c7 hb2
  go_wp2
  go_ret
  exact ⟨rfl, H2.out⟩
end Go.Proofs.Ytbhdenjahojbbaa.Ly2
