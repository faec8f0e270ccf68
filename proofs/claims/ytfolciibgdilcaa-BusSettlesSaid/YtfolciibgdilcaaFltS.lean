/- What counts at a tick, by the code and by the document, and how lines come to stand: package fault's At and Lines. -/
import Derived.Test.YtfolciibgdilcaaFltQ
import Derived.Test.YtfolciibgdilcaaWirA
import Derived.Test.YtfolciibgdilcaaArgs
namespace Go.Proofs.Ytfolciibgdilcaa.Ly20
open Go.ChangeShapes Go.WideShapes Go.ChangeAt Go.RowKit Base
set_option linter.unusedVariables false
set_option linter.unusedSimpArgs false

/-- The byte that counts at a tick, and whether one does. -/
def AtR (w : World) (kd fr : Int) (A : Option Addr) (n : Nat) (tk v : Int) (b : Bool) : Prop :=
  (b = true ∧ (kd = 1 ∨ kd = 2) ∧ 0 ≤ fr ∧ fr ≤ tk ∧ 0 < n ∧ n ≤ 400 ∧ ∃ (blk off i : Nat), A = some ⟨blk, off, none⟩ ∧ (tk - fr) % n = i ∧ i < n ∧ w.cell? ⟨blk, off + i, none⟩ = some (.int .u8 v)) ∨
    (b = false ∧ v = 0 ∧ ((kd ≠ 1 ∧ kd ≠ 2) ∨ tk < fr ∨ n = 0))
theorem AtR.kept {w w' : World} {kd fr tk v : Int} {A : Option Addr} {n : Nat} {b : Bool} (h : AtR w kd fr A n tk v b) (hb : Below w.heap.size w w') : AtR w' kd fr A n tk v b := by
  rcases h with ⟨h0, h1, h2, h3, h4, h5, blk, off, i, h6, h7, h8, h9⟩ | h
  · exact .inl ⟨h0, h1, h2, h3, h4, h5, blk, off, i, h6, h7, h8, (hb.cell (p := ⟨blk, off + i, none⟩) (World.block_lt_of_cell? w _ h9)).trans h9⟩
  · exact .inr h
theorem AtR.ex {w : World} {A : Option Addr} {n : Nat} {xs : List Int} (kd fr tk : Int) (h0 : 0 ≤ fr) (hn : n ≤ 400) (hl : Lst w A n (xs.map (Value.int .u8))) (hx : ∀ x ∈ xs, 0 ≤ x ∧ x ≤ 255) :
    ∃ v b, AtR w kd fr A n tk v b ∧ 0 ≤ v ∧ v ≤ 255 := by
  by_cases hc : (kd = 1 ∨ kd = 2) ∧ fr ≤ tk ∧ 0 < n
  · obtain ⟨h1, h2, h3⟩ := hc
    obtain ⟨blk, off, rfl, hlt, hcell⟩ := hl.2 h3
    have hln : xs.length = n := by simpa using hl.1
    have hm0 := Int.emod_nonneg (tk - fr) (show (n : Int) ≠ 0 by omega)
    have hm1 := Int.emod_lt_of_pos (tk - fr) (show (0 : Int) < n by omega)
    obtain ⟨i, hi⟩ : ∃ i : Nat, (tk - fr) % n = i := ⟨((tk - fr) % n).toNat, by omega⟩
    have hin : i < n := by omega
    have hv := hx (xs[i]'(by omega)) (List.getElem_mem _)
    refine ⟨xs[i]'(by omega), true, .inl ⟨rfl, h1, h0, h2, h3, hn, blk, off, i, rfl, hi, hin, ?_⟩, hv.1, hv.2⟩
    rw [hcell i hin, List.getElem?_map, List.getElem?_eq_getElem (by omega)]; rfl
  · exact ⟨0, false, .inr ⟨rfl, rfl, by omega⟩, by omega, by omega⟩
theorem at_any (kd md : Int) (fy : Bool) (ln fr : Int) (A : Option Addr) (n c : Nat) (tk v : Int) (b : Bool) (w : World) (ht : tk ≤ 9223372036854775807) (h : AtR w kd fr A n tk v b) : Calls Try.prog 26 #[.agg #[.int .i64 kd, .int .i64 md, .bool fy, .int .i64 ln, .int .i64 fr, .slice A n c], .int .i64 tk] w fun e w' => e = .returned (.tuple #[.int .u8 v, .bool b]) ∧ Below w.heap.size w w' := by
  rcases h with ⟨rfl, h1, h2, h3, h4, h5, blk, off, i, rfl, h7, h8, h9⟩ | ⟨rfl, rfl, h⟩
  · rcases h1 with rfl | rfl
    · exact at_yes1 md fy ln fr blk off n c tk w h2 h3 ht h4 h5 i v h7 h9
    · exact at_yes2 md fy ln fr blk off n c tk w h2 h3 ht h4 h5 i v h7 h9
  · by_cases k1 : kd = 1
    · subst k1
      by_cases k3 : tk < fr
      · exact at_ahead1 md fy ln fr A n c tk w k3
      · exact at_empty1 md fy ln fr A n c tk w (by omega) (by omega)
    · by_cases k2 : kd = 2
      · subst k2
        by_cases k3 : tk < fr
        · exact at_ahead2 md fy ln fr A n c tk w k3
        · exact at_empty2 md fy ln fr A n c tk w (by omega) (by omega)
      · exact at_kind kd md fy ln fr A n c tk w (by simpa using k1) (by simpa using k2)

theorem rbyte_kind (kd fr tk : Int) (A : Option Addr) (n c : Nat) (w : World) (h1 : (kd == 1) = false) (h2 : (kd == 2) = false) : Calls Try.prog 7 #[.int .i64 kd, .int .i64 fr, .slice A n c, .int .i64 tk] w fun e w' => e = .returned (.tuple #[.int .i64 0, .bool false]) ∧ w = w' := by
  have h1' : ¬ kd = 1 := by simpa using h1
  have h2' : ¬ kd = 2 := by simpa using h2
  go_enter Try.func7, Try.ntmps7
  go_wp2
  go_ret2
  exact ⟨rfl, rfl⟩
theorem rbyte_ahead1 (fr tk : Int) (A : Option Addr) (n c : Nat) (w : World) (h : tk < fr) : Calls Try.prog 7 #[.int .i64 1, .int .i64 fr, .slice A n c, .int .i64 tk] w fun e w' => e = .returned (.tuple #[.int .i64 0, .bool false]) ∧ w = w' := by
  go_enter Try.func7, Try.ntmps7
  go_wp2
  go_ret2
  exact ⟨rfl, rfl⟩
theorem rbyte_empty1 (fr tk : Int) (A : Option Addr) (n c : Nat) (w : World) (h : fr ≤ tk) (hn : n = 0) : Calls Try.prog 7 #[.int .i64 1, .int .i64 fr, .slice A n c, .int .i64 tk] w fun e w' => e = .returned (.tuple #[.int .i64 0, .bool false]) ∧ w = w' := by
  subst hn
  go_enter Try.func7, Try.ntmps7
  go_wp2
  go_ret2
  exact ⟨rfl, rfl⟩
theorem rbyte_yes1 (fr tk v : Int) (blk off i n c : Nat) (w : World) (h0 : 0 ≤ fr) (h2 : fr ≤ tk) (ht : tk ≤ 9223372036854775807) (hn : 0 < n) (hn2 : n ≤ 400) (hi : (tk - fr) % n = i) (hcell : w.cell? ⟨blk, off + i, none⟩ = some (.int .u8 v)) (hv0 : 0 ≤ v) (hv1 : v ≤ 255) :
    Calls Try.prog 7 #[.int .i64 1, .int .i64 fr, .slice (some ⟨blk, off, none⟩) n c, .int .i64 tk] w fun e w' => e = .returned (.tuple #[.int .i64 v, .bool true]) ∧ w = w' := by
  have hin : i < n := by have := Int.emod_lt_of_pos (tk - fr) (show (0 : Int) < n by omega); omega
  have hz : ((n : Int) == 0) = false := by simp; omega
  have hz' : ¬ (n : Int) = 0 := by omega
  have hzz : ¬ n = 0 := by omega
  have hi' : (tk - fr).tmod n = i := by rw [Int.tmod_eq_emod_of_nonneg (by omega)]; exact hi
  go_enter Try.func7, Try.ntmps7
  go_wp2
  go_ret2
  exact ⟨rfl, rfl⟩
theorem rbyte_ahead2 (fr tk : Int) (A : Option Addr) (n c : Nat) (w : World) (h : tk < fr) : Calls Try.prog 7 #[.int .i64 2, .int .i64 fr, .slice A n c, .int .i64 tk] w fun e w' => e = .returned (.tuple #[.int .i64 0, .bool false]) ∧ w = w' := by
  go_enter Try.func7, Try.ntmps7
  go_wp2
  go_ret2
  exact ⟨rfl, rfl⟩
theorem rbyte_empty2 (fr tk : Int) (A : Option Addr) (n c : Nat) (w : World) (h : fr ≤ tk) (hn : n = 0) : Calls Try.prog 7 #[.int .i64 2, .int .i64 fr, .slice A n c, .int .i64 tk] w fun e w' => e = .returned (.tuple #[.int .i64 0, .bool false]) ∧ w = w' := by
  subst hn
  go_enter Try.func7, Try.ntmps7
  go_wp2
  go_ret2
  exact ⟨rfl, rfl⟩
theorem rbyte_yes2 (fr tk v : Int) (blk off i n c : Nat) (w : World) (h0 : 0 ≤ fr) (h2 : fr ≤ tk) (ht : tk ≤ 9223372036854775807) (hn : 0 < n) (hn2 : n ≤ 400) (hi : (tk - fr) % n = i) (hcell : w.cell? ⟨blk, off + i, none⟩ = some (.int .u8 v)) (hv0 : 0 ≤ v) (hv1 : v ≤ 255) :
    Calls Try.prog 7 #[.int .i64 2, .int .i64 fr, .slice (some ⟨blk, off, none⟩) n c, .int .i64 tk] w fun e w' => e = .returned (.tuple #[.int .i64 v, .bool true]) ∧ w = w' := by
  have hin : i < n := by have := Int.emod_lt_of_pos (tk - fr) (show (0 : Int) < n by omega); omega
  have hz : ((n : Int) == 0) = false := by simp; omega
  have hz' : ¬ (n : Int) = 0 := by omega
  have hzz : ¬ n = 0 := by omega
  have hi' : (tk - fr).tmod n = i := by rw [Int.tmod_eq_emod_of_nonneg (by omega)]; exact hi
  go_enter Try.func7, Try.ntmps7
  go_wp2
  go_ret2
  exact ⟨rfl, rfl⟩
theorem rbyte_any (kd fr tk v : Int) (A : Option Addr) (n c : Nat) (b : Bool) (w : World) (ht : tk ≤ 9223372036854775807) (hv0 : 0 ≤ v) (hv1 : v ≤ 255) (h : AtR w kd fr A n tk v b) :
    Calls Try.prog 7 #[.int .i64 kd, .int .i64 fr, .slice A n c, .int .i64 tk] w fun e w' => e = .returned (.tuple #[.int .i64 v, .bool b]) ∧ w = w' := by
  rcases h with ⟨rfl, h1, h2, h3, h4, h5, blk, off, i, rfl, h7, h8, h9⟩ | ⟨rfl, rfl, h⟩
  · rcases h1 with rfl | rfl
    · exact rbyte_yes1 fr tk v blk off i n c w h2 h3 ht h4 h5 h7 h9 hv0 hv1
    · exact rbyte_yes2 fr tk v blk off i n c w h2 h3 ht h4 h5 h7 h9 hv0 hv1
  · by_cases k1 : kd = 1
    · subst k1
      by_cases k3 : tk < fr
      · exact rbyte_ahead1 fr tk A n c w k3
      · exact rbyte_empty1 fr tk A n c w (by omega) (by omega)
    · by_cases k2 : kd = 2
      · subst k2
        by_cases k3 : tk < fr
        · exact rbyte_ahead2 fr tk A n c w k3
        · exact rbyte_empty2 fr tk A n c w (by omega) (by omega)
      · exact rbyte_kind kd fr tk A n c w (by simpa using k1) (by simpa using k2)

/-- How lines come to stand. -/
def linF (kd ln : Int) (l : Nat) (v : Int) (b : Bool) : Nat :=
  if kd = 1 ∧ b = true then (if v % 4 = 0 then Ly3.setF l ln false else if v % 4 = 1 then Ly3.setF l ln true else l) else l
theorem lines_no (kd md : Int) (fy : Bool) (ln fr : Int) (A : Option Addr) (n c : Nat) (l : Nat) (tk v : Int) (b : Bool) (w : World) (ht : tk ≤ 9223372036854775807) (h : AtR w kd fr A n tk v b) (hc : (kd == 1) = false ∨ ((kd == 1) = true ∧ b = false)) :
    Calls Try.prog 19 #[.agg #[.int .i64 kd, .int .i64 md, .bool fy, .int .i64 ln, .int .i64 fr, .slice A n c], .int .u8 l, .int .i64 tk] w fun e w' => e = .returned (.int .u8 l) ∧ Below w.heap.size w w' := by
  have H := Lib.hid (h.kept ((Below.refl w.heap.size w).alloc (Nat.le_refl _) (.cells #[.int .i64 kd, .int .i64 md, .bool fy, .int .i64 ln, .int .i64 fr, .slice A n c] 25)))
  clear h
  rcases hc with hc | ⟨hc, rfl⟩
  · have hc' : ¬ kd = 1 := by simpa using hc
    go_enter Try.func19, Try.ntmps19
    go_wp2_with fail
    refine (at_any kd md fy ln fr A n c tk v b _ ht H.out).mono ?_
    rintro e w1 ⟨rfl, hb1⟩
    obtain ⟨x, rfl⟩ := Kin.ex hb1
    obtain ⟨K0, K1, K2, K3, K4, K5⟩ := Kin.box6 (Below.refl _ (w.alloc (.cells #[.int .i64 kd, .int .i64 md, .bool fy, .int .i64 ln, .int .i64 fr, .slice A n c] 25)))
    go_wp2
    go_ret
    exact ⟨rfl, x.end1⟩
  · have hc' : kd = 1 := by simpa using hc
    subst hc'
    go_enter Try.func19, Try.ntmps19
    go_wp2_with fail
    refine (at_any 1 md fy ln fr A n c tk v false _ ht H.out).mono ?_
    rintro e w1 ⟨rfl, hb1⟩
    obtain ⟨x, rfl⟩ := Kin.ex hb1
    obtain ⟨K0, K1, K2, K3, K4, K5⟩ := Kin.box6 (Below.refl _ (w.alloc (.cells #[.int .i64 1, .int .i64 md, .bool fy, .int .i64 ln, .int .i64 fr, .slice A n c] 25)))
    go_wp2
    go_ret
    exact ⟨rfl, x.end1⟩
theorem lines_yes (md : Int) (fy : Bool) (ln fr : Int) (A : Option Addr) (n c : Nat) (l : Nat) (tk v : Int) (w : World) (hl : l < 256) (ht : tk ≤ 9223372036854775807) (hv0 : 0 ≤ v) (hv1 : v ≤ 255) (h : AtR w 1 fr A n tk v true) :
    Calls Try.prog 19 #[.agg #[.int .i64 1, .int .i64 md, .bool fy, .int .i64 ln, .int .i64 fr, .slice A n c], .int .u8 l, .int .i64 tk] w fun e w' => e = .returned (.int .u8 (linF 1 ln l v true)) ∧ Below w.heap.size w w' := by
  have H := Lib.hid (h.kept ((Below.refl w.heap.size w).alloc (Nat.le_refl _) (.cells #[.int .i64 1, .int .i64 md, .bool fy, .int .i64 ln, .int .i64 fr, .slice A n c] 25)))
  clear h
  have ht' : v.tmod 4 = v % 4 := Int.tmod_eq_emod_of_nonneg hv0
  obtain ⟨r, HR⟩ : ∃ r, Hid (linF 1 ln l v true = r) := ⟨_, Lib.hid rfl⟩
  rw [HR.out]
  have hr := HR.out
  unfold linF at hr
  rw [if_pos ⟨rfl, rfl⟩] at hr
  rcases (show v % 4 = 0 ∨ v % 4 = 1 ∨ v % 4 = 2 ∨ v % 4 = 3 by omega) with e0 | e0 | e0 | e0
  all_goals
    simp only [e0] at hr
    simp at hr
    have HRR := Lib.hid hr
    clear hr
    go_enter Try.func19, Try.ntmps19
    go_wp2_with fail
    refine (at_any 1 md fy ln fr A n c tk v true _ ht H.out).mono ?_
    rintro e w1 ⟨rfl, hb1⟩
    obtain ⟨x, rfl⟩ := Kin.ex hb1
    obtain ⟨K0, K1, K2, K3, K4, K5⟩ := Kin.box6 (Below.refl _ (w.alloc (.cells #[.int .i64 1, .int .i64 md, .bool fy, .int .i64 ln, .int .i64 fr, .slice A n c] 25)))
    go_wp2_with (first | (go_at_call 27; refine (Ly3.set_any l ln _ _ hl).mono ?_; rintro e w' ⟨rfl, rfl⟩))
    go_ret
    exact ⟨by rw [← HRR.out]; rfl, x.end1⟩
theorem lines_any (kd md : Int) (fy : Bool) (ln fr : Int) (A : Option Addr) (n c : Nat) (l : Nat) (tk v : Int) (b : Bool) (w : World) (hl : l < 256) (ht : tk ≤ 9223372036854775807) (hv0 : 0 ≤ v) (hv1 : v ≤ 255) (h : AtR w kd fr A n tk v b) :
    Calls Try.prog 19 #[.agg #[.int .i64 kd, .int .i64 md, .bool fy, .int .i64 ln, .int .i64 fr, .slice A n c], .int .u8 l, .int .i64 tk] w fun e w' => e = .returned (.int .u8 (linF kd ln l v b)) ∧ Below w.heap.size w w' := by
  by_cases hk : kd = 1
  · subst hk
    cases b
    · have := lines_no 1 md fy ln fr A n c l tk v false w ht h (.inr ⟨rfl, rfl⟩)
      simpa [linF] using this
    · exact lines_yes md fy ln fr A n c l tk v w hl ht hv0 hv1 h
  · have := lines_no kd md fy ln fr A n c l tk v b w ht h (.inl (by simpa using hk))
    simpa [linF, hk] using this
end Go.Proofs.Ytfolciibgdilcaa.Ly20
