/- The statements' own few of layer 21, and what a course that comes in is; no condition. -/
import Derived.Test.YtejhjpdcodloaaaBudG
namespace Go.Proofs.Ytejhjpdcodloaaa.Ly21
open Go.ChangeShapes Go.WideShapes Go.ChangeAt Go.RowKit Base Go.Maps Ly20
set_option linter.unusedVariables false
set_option linter.unusedSimpArgs false

abbrev shF : Sh := .fld (.int .i64) (.fld (.int .i64) (.fld .bool (.fld (.int .i64) (.fld (.int .i64) (.fld (.sl (.int .u8)) .nil)))))
abbrev shC : Sh := .fld shF (.fld (.sl shL) .nil)
theorem course_in {w : World} {cs : Array Value} (h : Reads w shC cs.toList) : ∃ (kd fm : Int) (fy : Bool) (ln fr : Int) (A : Option Addr) (n c : Nat) (B : Option Addr) (m d : Nat) (xs : List Int) (ls : List Slp), cs = #[.int .i64 kd, .int .i64 fm, .bool fy, .int .i64 ln, .int .i64 fr, .slice A n c, .slice B m d] ∧ Lst w A n (xs.map (Value.int .u8)) ∧ SlsAt w B m ls ∧ n ≤ 9223372036854775807 ∧ m ≤ 9223372036854775807 ∧ m ≤ d := by
  obtain ⟨_, _, e, ⟨_, _, rfl, ⟨kd, rfl, _⟩, _, _, rfl, ⟨fm, rfl, _⟩, _, _, rfl, ⟨fy, rfl⟩, _, _, rfl, ⟨ln, rfl, _⟩, _, _, rfl, ⟨fr, rfl, _⟩, _, _, rfl, ⟨A, n, c, ra, rfl, hnc, hcm, hga, hra⟩, rfl⟩, _, _, rfl, ⟨B, m, d, rb, rfl, hmd, hdm, hgb, hrb⟩, rfl⟩ := h
  obtain ⟨xs, hx, _⟩ := grid_lst hga hra
  obtain ⟨ls, hl, _⟩ := sls_in hgb hrb
  unfold maxLen at hcm hdm
  refine ⟨kd, fm, fy, ln, fr, A, n, c, B, m, d, xs, ls, ?_, hx, hl, by omega, by omega, hmd⟩
  apply Array.ext'
  simpa using e
set_option maxHeartbeats 1000000 in
theorem few_any (kd fm : Int) (fy : Bool) (ln fr : Int) (A : Option Addr) (n c : Nat) (B : Option Addr) (m d : Nat) (w : World) (hn : n ≤ 9223372036854775807) (hm : m ≤ 9223372036854775807) :
    Calls Try.prog 8 #[.agg #[.int .i64 kd, .int .i64 fm, .bool fy, .int .i64 ln, .int .i64 fr, .slice A n c, .slice B m d]] w fun e w' => (∃ q : Nat, e = .returned (.bool (decide (q = 1))) ∧ Hid (q = 1 → m ≤ 60 ∧ n ≤ 400)) ∧ Below w.heap.size w w' := by
  have HB1 := Lib.hid (bel1 w (.cells #[.int .i64 kd, .int .i64 fm, .bool fy, .int .i64 ln, .int .i64 fr, .slice A n c, .slice B m d] TC))
  by_cases h1 : m ≤ 60
  · have h1i : (m : Int) ≤ 60 := by omega
    by_cases h2 : n ≤ 400
    · have h2i : (n : Int) ≤ 400 := by omega
      go_enter Try.func8, Try.ntmps8
      go_wp2
      go_ret
      exact ⟨⟨1, rfl, Lib.hid (fun _ => ⟨h1, h2⟩)⟩, HB1.out⟩
    · have h2i : ¬ (n : Int) ≤ 400 := by omega
      go_enter Try.func8, Try.ntmps8
      go_wp2
      go_ret
      exact ⟨⟨0, rfl, Lib.hid (fun h => by cases h)⟩, HB1.out⟩
  · have h1i : ¬ (m : Int) ≤ 60 := by omega
    go_enter Try.func8, Try.ntmps8
    go_wp2
    go_ret
    exact ⟨⟨0, rfl, Lib.hid (fun h => by cases h)⟩, HB1.out⟩
end Go.Proofs.Ytejhjpdcodloaaa.Ly21
