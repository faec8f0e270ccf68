/- The contracts of the document's own answer for layer 6: a line's run, and the third greatest, of lines that were seen. -/
import Derived.Test.YtbhgnhbaimemmaaRunM
import Derived.Test.YtbhgnhbaimemmaaRunC
namespace Go.Proofs.Ytbhgnhbaimemmaa.Ly6
open Go.ChangeShapes Go.WideShapes Go.ChangeAt Go.RowKit Base Ly3
set_option linter.unusedVariables false
set_option linter.unusedSimpArgs false

theorem bit0 (v : Nat) : ((v : Int) % 2 == 1) = hb v 0 := by rw [Bool.eq_iff_iff]; simp [hb]; omega
theorem bit1 (v : Nat) : ((v : Int) / 2 % 2 == 1) = hb v 1 := by rw [Bool.eq_iff_iff]; simp [hb]; omega
theorem bit2 (v : Nat) : ((v : Int) / 4 % 2 == 1) = hb v 2 := by rw [Bool.eq_iff_iff]; simp [hb]; omega
theorem bit3 (v : Nat) : ((v : Int) / 8 % 2 == 1) = hb v 3 := by rw [Bool.eq_iff_iff]; simp [hb]; omega

/-- The last j have line k high. -/
def High (xs : List Nat) (k j : Nat) : Prop := ∀ i, xs.length - j ≤ i → (hi : i < xs.length) → hb xs[i] k = true
/-- What the loop of 'Run' knows. -/
def RRel (xs : List Nat) (k n : Nat) (nn i : Value) : Prop :=
  (∃ j m : Nat, m + 1 + j = n ∧ i = .int .i64 m ∧ nn = .int .i64 j ∧ Hid (High xs k j)) ∨ (i = .int .i64 (-1) ∧ nn = .int .i64 n ∧ Hid (High xs k n))
theorem run_end {xs : List Nat} {k n : Nat} (hn : xs.length = n) (h : High xs k n) : runF k xs = n := by
  have h1 := runF_back k xs n (by omega) h
  have h2 := (runF_bd k xs).2
  omega
theorem run_stop {xs : List Nat} {k n j m : Nat} (hn : xs.length = n) (hm : m + 1 + j = n) (h : High xs k j) (hx : hb (xs[m]'(by omega)) k = false) : runF k xs = j := by
  have h1 := runF_back k xs j (by omega) h
  have h2 := runF_stop k xs j (by omega) (by
    have e : xs.length - 1 - j = m := by omega
    simp only [e]
    exact hx)
  omega
theorem high_more {xs : List Nat} {k n j m : Nat} (hn : xs.length = n) (hm : m + 1 + j = n) (h : High xs k j) (hx : hb (xs[m]'(by omega)) k = true) : High xs k (j + 1) := by
  intro i h1 h2
  by_cases he : i = m
  · subst he; exact hx
  · exact h i (by omega) h2

set_option maxRecDepth 100000 in
set_option maxHeartbeats 2000000 in
theorem rrun_0 (A : Option Addr) (n c : Nat) (xs : List Nat) (w : World) (hl : Lst w A n (xs.map fun (x : Nat) => Value.int .i64 x)) (hx : ∀ x ∈ xs, x < 256) (hn : n ≤ 1000000) :
    Calls Try.prog 42 #[.slice A n c, .int .i64 0] w fun e w' => e = .returned (.int .i64 (runF 0 xs)) ∧ w = w' := by
  have hln : xs.length = n := by simpa using hl.1
  have HLN := Lib.hid hln
  have HX := Lib.hid hx
  have HL := Lib.hid hl
  clear hln hx hl
  go_enter Try.func42, Try.ntmps42
  go_wp2
  go_loop [5, 6] (fun nn i => RRel xs 0 n nn i) (fun _ i => (intOf i + 1).toNat)
  case atStart =>
    by_cases h0 : n = 0
    · subst h0
      exact .inr ⟨rfl, rfl, Lib.hid (fun i h1 h2 => absurd h2 (by have := HLN.out; omega))⟩
    · exact .inl ⟨0, n - 1, by omega, by rw [show (n : Int) - 1 = ((n - 1 : Nat) : Int) by omega], rfl, Lib.hid (fun i h1 h2 => absurd h2 (by omega))⟩
  case round =>
    rcases hrel with ⟨j, m, hm, rfl, rfl, hh⟩ | ⟨rfl, rfl, hh⟩
    · have hmn : m < n := by omega
      obtain ⟨b, off, rfl, _, hc⟩ := HL.out.get hmn
      rw [List.getElem_map] at hc
      have hml : m < xs.length := by rw [HLN.out]; exact hmn
      have hv := HX.out _ (List.getElem_mem hml)
      obtain ⟨v, HV⟩ : ∃ v, Hid (xs[m]'hml = v) := ⟨_, Lib.hid rfl⟩
      rw [HV.out] at hc hv
      have v0 : (0 : Int) ≤ (v : Int) := by omega
      have v1 : (v : Int) ≤ 255 := by omega
      have e := bit0 v
      cases hbb : hb v 0
      · have HE : Hid (runF 0 xs = j) := Lib.hid (run_stop HLN.out hm hh.out (by rw [HV.out]; exact hbb))
        rw [hbb] at e
        clear hbb
        go_wp2
        go_ret
        exact ⟨by rw [HE.out]; rfl, rfl⟩
      · have HE : Hid (High xs 0 (j + 1)) := Lib.hid (high_more HLN.out hm hh.out (by rw [HV.out]; exact hbb))
        rw [hbb] at e
        clear hbb hh
        go_wp2
        go_round
        case rel =>
          cases m with
          | zero => exact .inr ⟨by go_num, by rw [show n = j + 1 by omega]; go_num, by rw [show n = j + 1 by omega]; exact HE⟩
          | succ m => exact .inl ⟨j + 1, m, by omega, by go_num, by go_num, HE⟩
        case measure => simp [intOf] <;> omega
    · have HE : Hid (runF 0 xs = n) := Lib.hid (run_end HLN.out hh.out)
      go_wp2
      go_ret
      exact ⟨by rw [HE.out]; rfl, rfl⟩
set_option maxRecDepth 100000 in
set_option maxHeartbeats 2000000 in
theorem rrun_1 (A : Option Addr) (n c : Nat) (xs : List Nat) (w : World) (hl : Lst w A n (xs.map fun (x : Nat) => Value.int .i64 x)) (hx : ∀ x ∈ xs, x < 256) (hn : n ≤ 1000000) :
    Calls Try.prog 42 #[.slice A n c, .int .i64 1] w fun e w' => e = .returned (.int .i64 (runF 1 xs)) ∧ w = w' := by
  have hln : xs.length = n := by simpa using hl.1
  have HLN := Lib.hid hln
  have HX := Lib.hid hx
  have HL := Lib.hid hl
  clear hln hx hl
  go_enter Try.func42, Try.ntmps42
  go_wp2
  go_loop [5, 6] (fun nn i => RRel xs 1 n nn i) (fun _ i => (intOf i + 1).toNat)
  case atStart =>
    by_cases h0 : n = 0
    · subst h0
      exact .inr ⟨rfl, rfl, Lib.hid (fun i h1 h2 => absurd h2 (by have := HLN.out; omega))⟩
    · exact .inl ⟨0, n - 1, by omega, by rw [show (n : Int) - 1 = ((n - 1 : Nat) : Int) by omega], rfl, Lib.hid (fun i h1 h2 => absurd h2 (by omega))⟩
  case round =>
    rcases hrel with ⟨j, m, hm, rfl, rfl, hh⟩ | ⟨rfl, rfl, hh⟩
    · have hmn : m < n := by omega
      obtain ⟨b, off, rfl, _, hc⟩ := HL.out.get hmn
      rw [List.getElem_map] at hc
      have hml : m < xs.length := by rw [HLN.out]; exact hmn
      have hv := HX.out _ (List.getElem_mem hml)
      obtain ⟨v, HV⟩ : ∃ v, Hid (xs[m]'hml = v) := ⟨_, Lib.hid rfl⟩
      rw [HV.out] at hc hv
      have v0 : (0 : Int) ≤ (v : Int) := by omega
      have v1 : (v : Int) ≤ 255 := by omega
      have e := bit1 v
      cases hbb : hb v 1
      · have HE : Hid (runF 1 xs = j) := Lib.hid (run_stop HLN.out hm hh.out (by rw [HV.out]; exact hbb))
        rw [hbb] at e
        clear hbb
        go_wp2
        go_ret
        exact ⟨by rw [HE.out]; rfl, rfl⟩
      · have HE : Hid (High xs 1 (j + 1)) := Lib.hid (high_more HLN.out hm hh.out (by rw [HV.out]; exact hbb))
        rw [hbb] at e
        clear hbb hh
        go_wp2
        go_round
        case rel =>
          cases m with
          | zero => exact .inr ⟨by go_num, by rw [show n = j + 1 by omega]; go_num, by rw [show n = j + 1 by omega]; exact HE⟩
          | succ m => exact .inl ⟨j + 1, m, by omega, by go_num, by go_num, HE⟩
        case measure => simp [intOf] <;> omega
    · have HE : Hid (runF 1 xs = n) := Lib.hid (run_end HLN.out hh.out)
      go_wp2
      go_ret
      exact ⟨by rw [HE.out]; rfl, rfl⟩
set_option maxRecDepth 100000 in
set_option maxHeartbeats 2000000 in
theorem rrun_2 (A : Option Addr) (n c : Nat) (xs : List Nat) (w : World) (hl : Lst w A n (xs.map fun (x : Nat) => Value.int .i64 x)) (hx : ∀ x ∈ xs, x < 256) (hn : n ≤ 1000000) :
    Calls Try.prog 42 #[.slice A n c, .int .i64 2] w fun e w' => e = .returned (.int .i64 (runF 2 xs)) ∧ w = w' := by
  have hln : xs.length = n := by simpa using hl.1
  have HLN := Lib.hid hln
  have HX := Lib.hid hx
  have HL := Lib.hid hl
  clear hln hx hl
  go_enter Try.func42, Try.ntmps42
  go_wp2
  go_loop [5, 6] (fun nn i => RRel xs 2 n nn i) (fun _ i => (intOf i + 1).toNat)
  case atStart =>
    by_cases h0 : n = 0
    · subst h0
      exact .inr ⟨rfl, rfl, Lib.hid (fun i h1 h2 => absurd h2 (by have := HLN.out; omega))⟩
    · exact .inl ⟨0, n - 1, by omega, by rw [show (n : Int) - 1 = ((n - 1 : Nat) : Int) by omega], rfl, Lib.hid (fun i h1 h2 => absurd h2 (by omega))⟩
  case round =>
    rcases hrel with ⟨j, m, hm, rfl, rfl, hh⟩ | ⟨rfl, rfl, hh⟩
    · have hmn : m < n := by omega
      obtain ⟨b, off, rfl, _, hc⟩ := HL.out.get hmn
      rw [List.getElem_map] at hc
      have hml : m < xs.length := by rw [HLN.out]; exact hmn
      have hv := HX.out _ (List.getElem_mem hml)
      obtain ⟨v, HV⟩ : ∃ v, Hid (xs[m]'hml = v) := ⟨_, Lib.hid rfl⟩
      rw [HV.out] at hc hv
      have v0 : (0 : Int) ≤ (v : Int) := by omega
      have v1 : (v : Int) ≤ 255 := by omega
      have e := bit2 v
      cases hbb : hb v 2
      · have HE : Hid (runF 2 xs = j) := Lib.hid (run_stop HLN.out hm hh.out (by rw [HV.out]; exact hbb))
        rw [hbb] at e
        clear hbb
        go_wp2
        go_ret
        exact ⟨by rw [HE.out]; rfl, rfl⟩
      · have HE : Hid (High xs 2 (j + 1)) := Lib.hid (high_more HLN.out hm hh.out (by rw [HV.out]; exact hbb))
        rw [hbb] at e
        clear hbb hh
        go_wp2
        go_round
        case rel =>
          cases m with
          | zero => exact .inr ⟨by go_num, by rw [show n = j + 1 by omega]; go_num, by rw [show n = j + 1 by omega]; exact HE⟩
          | succ m => exact .inl ⟨j + 1, m, by omega, by go_num, by go_num, HE⟩
        case measure => simp [intOf] <;> omega
    · have HE : Hid (runF 2 xs = n) := Lib.hid (run_end HLN.out hh.out)
      go_wp2
      go_ret
      exact ⟨by rw [HE.out]; rfl, rfl⟩
set_option maxRecDepth 100000 in
set_option maxHeartbeats 2000000 in
theorem rrun_3 (A : Option Addr) (n c : Nat) (xs : List Nat) (w : World) (hl : Lst w A n (xs.map fun (x : Nat) => Value.int .i64 x)) (hx : ∀ x ∈ xs, x < 256) (hn : n ≤ 1000000) :
    Calls Try.prog 42 #[.slice A n c, .int .i64 3] w fun e w' => e = .returned (.int .i64 (runF 3 xs)) ∧ w = w' := by
  have hln : xs.length = n := by simpa using hl.1
  have HLN := Lib.hid hln
  have HX := Lib.hid hx
  have HL := Lib.hid hl
  clear hln hx hl
  go_enter Try.func42, Try.ntmps42
  go_wp2
  go_loop [5, 6] (fun nn i => RRel xs 3 n nn i) (fun _ i => (intOf i + 1).toNat)
  case atStart =>
    by_cases h0 : n = 0
    · subst h0
      exact .inr ⟨rfl, rfl, Lib.hid (fun i h1 h2 => absurd h2 (by have := HLN.out; omega))⟩
    · exact .inl ⟨0, n - 1, by omega, by rw [show (n : Int) - 1 = ((n - 1 : Nat) : Int) by omega], rfl, Lib.hid (fun i h1 h2 => absurd h2 (by omega))⟩
  case round =>
    rcases hrel with ⟨j, m, hm, rfl, rfl, hh⟩ | ⟨rfl, rfl, hh⟩
    · have hmn : m < n := by omega
      obtain ⟨b, off, rfl, _, hc⟩ := HL.out.get hmn
      rw [List.getElem_map] at hc
      have hml : m < xs.length := by rw [HLN.out]; exact hmn
      have hv := HX.out _ (List.getElem_mem hml)
      obtain ⟨v, HV⟩ : ∃ v, Hid (xs[m]'hml = v) := ⟨_, Lib.hid rfl⟩
      rw [HV.out] at hc hv
      have v0 : (0 : Int) ≤ (v : Int) := by omega
      have v1 : (v : Int) ≤ 255 := by omega
      have e := bit3 v
      cases hbb : hb v 3
      · have HE : Hid (runF 3 xs = j) := Lib.hid (run_stop HLN.out hm hh.out (by rw [HV.out]; exact hbb))
        rw [hbb] at e
        clear hbb
        go_wp2
        go_ret
        exact ⟨by rw [HE.out]; rfl, rfl⟩
      · have HE : Hid (High xs 3 (j + 1)) := Lib.hid (high_more HLN.out hm hh.out (by rw [HV.out]; exact hbb))
        rw [hbb] at e
        clear hbb hh
        go_wp2
        go_round
        case rel =>
          cases m with
          | zero => exact .inr ⟨by go_num, by rw [show n = j + 1 by omega]; go_num, by rw [show n = j + 1 by omega]; exact HE⟩
          | succ m => exact .inl ⟨j + 1, m, by omega, by go_num, by go_num, HE⟩
        case measure => simp [intOf] <;> omega
    · have HE : Hid (runF 3 xs = n) := Lib.hid (run_end HLN.out hh.out)
      go_wp2
      go_ret
      exact ⟨by rw [HE.out]; rfl, rfl⟩
theorem rrun_any (A : Option Addr) (n c : Nat) (xs : List Nat) (k : Nat) (w : World) (hl : Lst w A n (xs.map fun (x : Nat) => Value.int .i64 x)) (hx : ∀ x ∈ xs, x < 256) (hn : n ≤ 1000000) (hk : k < 4) :
    Calls Try.prog 42 #[.slice A n c, .int .i64 k] w fun e w' => e = .returned (.int .i64 (runF k xs)) ∧ w = w' := by
  rcases (show k = 0 ∨ k = 1 ∨ k = 2 ∨ k = 3 by omega) with rfl | rfl | rfl | rfl
  · exact rrun_0 A n c xs w hl hx hn
  · exact rrun_1 A n c xs w hl hx hn
  · exact rrun_2 A n c xs w hl hx hn
  · exact rrun_3 A n c xs w hl hx hn

set_option maxRecDepth 100000 in
set_option maxHeartbeats 2000000 in
theorem rthird_any (A : Option Addr) (n c : Nat) (xs : List Nat) (w : World) (hl : Lst w A n (xs.map fun (x : Nat) => Value.int .i64 x)) (hx : ∀ x ∈ xs, x < 256) (hn : n ≤ 1000000) :
    Calls Try.prog 38 #[.slice A n c] w fun e w' => e = .returned (.int .i64 (t3 (runF 0 xs) (runF 1 xs) (runF 2 xs) (runF 3 xs))) ∧ w = w' := by
  have HT := Lib.hid (bs_t3 (fun k => runF k xs) (fun k => (runF_bd k xs).1))
  have HR : Hid (∀ k : Nat, k < 4 → Calls Try.prog 42 #[.slice A n c, .int .i64 k] w fun e w' => e = .returned (.int .i64 (runF k xs)) ∧ w = w') := Lib.hid (fun k hk => rrun_any A n c xs k w hl hx hn hk)
  clear hl hx
  rw [← show bs (fun k => runF k xs) 4 = _ from HT.out]
  obtain ⟨f, HF⟩ : ∃ f : Nat → Int, Hid ((fun k => runF k xs) = f) := ⟨_, Lib.hid rfl⟩
  have HF0 : Hid (∀ k, 0 ≤ f k) := Lib.hid (by rw [← HF.out]; exact fun k => (runF_bd k xs).1)
  have HR2 : Hid (∀ k : Nat, k < 4 → Calls Try.prog 42 #[.slice A n c, .int .i64 k] w fun e w' => e = .returned (.int .i64 (f k)) ∧ w = w') := Lib.hid (by rw [← HF.out]; exact HR.out)
  rw [HF.out]
  clear HT HR HF
  go_enter Try.func38, Try.ntmps38
  go_wp2
  go_loop [3, 4] (fun best sk => ∃ s : Nat, s ≤ 4 ∧ sk = .int .i64 s ∧ best = .int .i64 (bs f s)) (fun _ sk => 4 - (intOf sk).toNat)
  case atStart => exact ⟨0, by omega, rfl, rfl⟩
  case round =>
    obtain ⟨s, hs, rfl, rfl⟩ := hrel
    by_cases hlt : s < 4
    · obtain ⟨B, HB⟩ : ∃ B, Hid (bs f s = B) := ⟨_, Lib.hid rfl⟩
      rw [HB.out]
      go_wp2_with fail
      go_loop [5, 6] (fun le li => ∃ k : Nat, k ≤ 4 ∧ li = .int .i64 k ∧ le = .int .i64 (mn f s k)) (fun _ li => 4 - (intOf li).toNat)
      case atStart => exact ⟨0, by omega, rfl, rfl⟩
      case round =>
        obtain ⟨k, hk, rfl, rfl⟩ := hrel
        obtain ⟨M, HM⟩ : ∃ M, Hid (mn f s k = M) := ⟨_, Lib.hid rfl⟩
        obtain ⟨R, HRR⟩ : ∃ R, Hid (f k = R) := ⟨_, Lib.hid rfl⟩
        have r0 : 0 ≤ R := by rw [← HRR.out]; exact HF0.out k
        rw [HM.out]
        by_cases hk4 : k < 4
        · have HC : Hid (Calls Try.prog 42 #[.slice A n c, .int .i64 k] w fun e w' => e = .returned (.int .i64 R) ∧ w = w') := Lib.hid (by rw [← HRR.out]; exact HR2.out k hk4)
          rcases (show k = s ∨ (k ≠ s ∧ M < 0) ∨ (k ≠ s ∧ 0 ≤ M ∧ R < M) ∨ (k ≠ s ∧ 0 ≤ M ∧ M ≤ R) by omega) with g | ⟨g, g1⟩ | ⟨g, g1, g2⟩ | ⟨g, g1, g2⟩
          · have HN : Hid (mn f s (k + 1) = M) := Lib.hid (by simp only [mn]; rw [if_neg (by omega), HM.out])
            have e1 : ((k : Int) != (s : Int)) = false := by simp; omega
            clear g
            go_wp2_with (go_at_call 42; refine HC.out.mono ?_; rintro e w' ⟨rfl, rfl⟩)
            go_round
            case rel => exact ⟨k + 1, by omega, by go_num, by rw [HN.out]⟩
            case measure => simp [intOf]; omega
          · have HN : Hid (mn f s (k + 1) = R) := Lib.hid (by simp only [mn]; rw [HM.out, HRR.out, if_pos ⟨g, .inl g1⟩])
            have e1 : ((k : Int) != (s : Int)) = true := by simp; omega
            clear g
            go_wp2_with (go_at_call 42; refine HC.out.mono ?_; rintro e w' ⟨rfl, rfl⟩)
            go_round
            case rel => exact ⟨k + 1, by omega, by go_num, by rw [HN.out]⟩
            case measure => simp [intOf]; omega
          · have HN : Hid (mn f s (k + 1) = R) := Lib.hid (by simp only [mn]; rw [HM.out, HRR.out, if_pos ⟨g, .inr g2⟩])
            have e1 : ((k : Int) != (s : Int)) = true := by simp; omega
            clear g
            go_wp2_with (go_at_call 42; refine HC.out.mono ?_; rintro e w' ⟨rfl, rfl⟩)
            go_round
            case rel => exact ⟨k + 1, by omega, by go_num, by rw [HN.out]⟩
            case measure => simp [intOf]; omega
          · have HN : Hid (mn f s (k + 1) = M) := Lib.hid (by simp only [mn]; rw [HM.out, HRR.out, if_neg (by omega)])
            have e1 : ((k : Int) != (s : Int)) = true := by simp; omega
            clear g
            go_wp2_with (go_at_call 42; refine HC.out.mono ?_; rintro e w' ⟨rfl, rfl⟩)
            go_round
            case rel => exact ⟨k + 1, by omega, by go_num, by rw [HN.out]⟩
            case measure => simp [intOf]; omega
        · obtain rfl : k = 4 := by omega
          have HN : Hid (bs f (s + 1) = max B M) := Lib.hid (by simp only [bs]; rw [HB.out, HM.out])
          go_wp2_with fail
          go_round
          case rel => exact ⟨s + 1, by omega, by go_num, by rw [HN.out]⟩
          case measure => simp [intOf]; omega
    · obtain rfl : s = 4 := by omega
      go_wp2
      go_ret
      exact ⟨rfl, rfl⟩
end Go.Proofs.Ytbhgnhbaimemmaa.Ly6
