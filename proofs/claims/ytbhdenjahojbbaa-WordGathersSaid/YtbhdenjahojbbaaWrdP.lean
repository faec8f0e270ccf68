/- The contracts of a message's Put, Missing, Whole. -/
import Derived.Test.YtbhdenjahojbbaaWrdM
namespace Go.Proofs.Ytbhdenjahojbbaa.Ly2
open Go.ChangeShapes Go.WideShapes Go.ChangeAt Go.RowKit Base
set_option linter.unusedVariables false
set_option linter.unusedSimpArgs false
variable {w w' : World} {g m : Nat} {md : Bool} {ws : List Nat} {kn : List Bool}

set_option maxHeartbeats 2000000 in
theorem put_in (k : Nat) (b z : Bool) (h : Msg w g true m ws kn) (hm : m ≤ 8) (hk : k < 8 * m) :
    Calls Try.prog 31 #[.pointer (some ⟨g, 0, none⟩), .int .i64 k, .bool b, .bool z] w fun e w' => e = .returned (.tuple #[]) ∧
      Hid (Msg w' g true m (ws.set (k / 8) (putb (ws.getD (k / 8) 0) (k % 8) b)) (kn.set k z)) ∧ Hid (Wrote g w w') := by
  have HC := Lib.hid (bits_made h hm)
  obtain ⟨q, hq⟩ : ∃ q : Nat, (k : Int) / 8 = (q : Int) := ⟨k / 8, by omega⟩
  obtain ⟨r, hr⟩ : ∃ r : Nat, (k : Int) % 8 = (r : Int) := ⟨k % 8, by omega⟩
  rw [show k / 8 = q by omega, show k % 8 = r by omega]
  have hq8 : q < 8 := by omega
  have hr8 : r < 8 := by omega
  obtain ⟨V, HV⟩ : ∃ V, Hid (ws[q]'(by rw [h.lw]; exact hq8) = V) := ⟨_, Lib.hid rfl⟩
  have hgd : ws.getD q 0 = V := by rw [List.getD_eq_getElem?_getD, List.getElem?_eq_getElem (by rw [h.lw]; exact hq8), ← HV.out]; rfl
  rw [hgd]
  have hV : V < 256 := by rw [← HV.out]; exact h.wd _ (List.getElem_mem _)
  have hcell := h.word q hq8
  rw [HV.out] at hcell
  have hfree := h.obj.free (2 + q)
  have hfree2 := h.obj.free (10 + k)
  obtain ⟨M, HM⟩ : ∃ M, Hid (((2 ^ (7 - r) : Nat) : Int) = M) := ⟨_, Lib.hid rfl⟩
  obtain ⟨C, HCV⟩ : ∃ C, Hid (clr V r = C) := ⟨_, Lib.hid rfl⟩
  have hC : C < 256 := by rw [← HCV.out]; exact (clr_all ⟨V, hV⟩ ⟨r, hr8⟩).2
  have ea : Go.bits BinOp.andNot IntKind.u8 (V : Int) M = (C : Int) := by rw [← HM.out, ← HCV.out]; exact (clr_all ⟨V, hV⟩ ⟨r, hr8⟩).1
  have hp : 2 ^ (7 - r) < 256 := by rcases (show r = 0 ∨ r = 1 ∨ r = 2 ∨ r = 3 ∨ r = 4 ∨ r = 5 ∨ r = 6 ∨ r = 7 by omega) with rfl | rfl | rfl | rfl | rfl | rfl | rfl | rfl <;> decide
  have eo := u8_or_nat C (2 ^ (7 - r)) hC hp
  rw [HM.out] at eo
  have HD : Hid (C ||| 2 ^ (7 - r) < 256) := Lib.hid (by rw [← HCV.out]; exact (clr_bit ⟨V, hV⟩ ⟨r, hr8⟩ ⟨0, by omega⟩).2.2)
  obtain ⟨D, HDV⟩ : ∃ D, Hid (C ||| 2 ^ (7 - r) = D) := ⟨_, Lib.hid rfl⟩
  rw [HDV.out] at eo HD
  have HPB : Hid (putb V r b = if b = true then D else C) := Lib.hid (by unfold putb; rw [HCV.out, HDV.out])
  have wq : IntKind.i64.wrap (q : Int) = (q : Int) := IntWalk.i64_in _ (by omega)
  have wr1 : IntKind.i64.wrap (r : Int) = (r : Int) := IntWalk.i64_in _ (by omega)
  have hqi : (0 : Int) ≤ (q : Int) ∧ (q : Int) < 8 := by omega
  have htm : ((k : Int)).tmod 8 = (r : Int) := by rw [Int.tmod_eq_emod_of_nonneg (by omega)]; exact hr
  have htd : ((k : Int)).tdiv 8 = (q : Int) := by rw [Int.tdiv_eq_ediv_of_nonneg (by omega)]; exact hq
  have hk64 : k < 64 := by omega
  have H := Lib.hid h
  have hm1 : Msg (w.setCell ⟨g, 2 + q, none⟩ (.int .u8 (C : Int))).drew g true m (ws.set q C) kn := (h.setWord q hq8 C hC).drew
  have H1 := Lib.hid hm1
  have HW1 := Lib.hid (show Wrote g w (w.setCell ⟨g, 2 + q, none⟩ (.int .u8 (C : Int))).drew from ((Wrote.refl g w).set (p := ⟨g, 2 + q, none⟩) (.inl rfl) (.int .u8 (C : Int))).drew)
  have k2 := hm1.known k hk64
  have f2 := hm1.obj.free (10 + k)
  have k3 : (w.setCell ⟨g, 2 + q, none⟩ (.int .u8 (C : Int))).drew.cell? ⟨g, 2 + q, none⟩ = some (.int .u8 (C : Int)) := by
    have := hm1.word q hq8
    rwa [List.getElem_set_self] at this
  have f3 := hm1.obj.free (2 + q)
  generalize kn[k]'(by rw [h.lk]; exact hk64) = z0 at k2
  clear hm1
  clear hp hV hgd
  go_enter Try.func31, Try.ntmps31
  go_wp2_with fail
  refine HC.out.mono ?_
  rintro e w' ⟨rfl, rfl⟩
  go_wp2_with fail
  refine wp_region_still_tail 14 (by kernel_rfl) (by kernel_rfl) ?_
  simp only [List.take_succ_cons, List.take_zero, List.drop_succ_cons, List.drop_zero]
  repeat still_step
  still_call (mask_i r M HM.out _ hr8)
  repeat still_step
  refine wpStill_nil ?_
  change wpList _ _ _ _ _ w.drew
  cases b
  · go_wp2
    refine bodyPost_end (results_none rfl _ _ _) rfl ⟨rfl, Lib.hid ?_, Lib.hid ?_⟩
    · rw [HPB.out]
      exact H1.out.setKnown k hk64 z
    · exact HW1.out.set (.inl rfl) _
  · go_wp2_with fail
    clear k2 f2
    have hm2 : Msg ((w.setCell ⟨g, 2 + q, none⟩ (.int .u8 (C : Int))).drew.setCell ⟨g, 2 + q, none⟩ (.int .u8 (D : Int))).drew g true m (ws.set q D) kn := by
      have := (H1.out.setWord q hq8 D HD.out).drew
      rwa [List.set_set] at this
    have H2 := Lib.hid hm2
    have HW2 := Lib.hid (show Wrote g w ((w.setCell ⟨g, 2 + q, none⟩ (.int .u8 (C : Int))).drew.setCell ⟨g, 2 + q, none⟩ (.int .u8 (D : Int))).drew from (HW1.out.set (p := ⟨g, 2 + q, none⟩) (.inl rfl) (.int .u8 (D : Int))).drew)
    have k2 := hm2.known k hk64
    have f2 := hm2.obj.free (10 + k)
    generalize kn[k]'(by rw [h.lk]; exact hk64) = z0 at k2
    clear hm2
    generalize (w.setCell ⟨g, 2 + q, none⟩ (.int .u8 (C : Int))).drew = W1 at k2 f2 k3 f3 HW2 H2 ⊢
    refine wp_region_still_tail 14 (by kernel_rfl) (by kernel_rfl) ?_
    simp only [List.take_succ_cons, List.take_zero, List.drop_succ_cons, List.drop_zero]
    repeat still_step
    still_call (mask_i r M HM.out _ hr8)
    repeat still_step
    refine wpStill_nil ?_
    change wpList _ _ _ _ _ W1.drew
    go_wp2
    refine bodyPost_end (results_none rfl _ _ _) rfl ⟨rfl, Lib.hid ?_, Lib.hid ?_⟩
    · rw [HPB.out]
      exact H2.out.setKnown k hk64 z
    · exact HW2.out.set (.inl rfl) _
theorem missing_nob {v : Value} (h : Nob w v) : Calls Try.prog 33 #[v] w fun e w' => e = .returned (.int .i64 0) ∧ w = w' := by
  go_enter Try.func33, Try.ntmps33
  go_wp2_with fail
  refine (bits_nob h).mono ?_
  rintro e w' ⟨rfl, rfl⟩
  go_wp2_with fail
  go_loop [3, 7] (fun o i => o = .int .i64 0 ∧ i = .int .i64 0) (fun _ _ => 0)
  case atStart => exact ⟨rfl, rfl⟩
  case round =>
    obtain ⟨rfl, rfl⟩ := hrel
    go_wp2
    go_ret
    exact ⟨rfl, rfl⟩
theorem missing_any (h : Msg w g true m ws kn) (hm : m ≤ 8) :
    Calls Try.prog 33 #[.pointer (some ⟨g, 0, none⟩)] w fun e w' => e = .returned (.int .i64 (((kn.take (8 * m)).count false : Nat) : Int)) ∧ w = w' := by
  go_enter Try.func33, Try.ntmps33
  go_wp2_with fail
  refine (bits_made h hm).mono ?_
  rintro e w' ⟨rfl, rfl⟩
  go_wp2_with fail
  go_loop [3, 7] (fun o i => ∃ j : Nat, j ≤ 8 * m ∧ i = .int .i64 j ∧ o = .int .i64 (((kn.take j).count false : Nat) : Int)) (fun _ i => 8 * m - (intOf i).toNat)
  case atStart => exact ⟨0, by omega, rfl, by simp⟩
  case round =>
    obtain ⟨i, hi, rfl, rfl⟩ := hrel
    by_cases hlt : i < 8 * m
    · have hkl : i < kn.length := by rw [h.lk]; omega
      have hi64 : i < 64 := by omega
      have hc := h.known i (by omega)
      have HC : Hid (∀ q : Bool, kn[i]'hkl = q → (kn.take (i + 1)).count false = (kn.take i).count false + (if q = true then 0 else 1)) := Lib.hid (fun q hq => by
        rw [List.take_add_one, List.getElem?_eq_getElem hkl, hq, Option.toList_some, List.count_append, List.count_singleton]
        cases q <;> rfl)
      obtain ⟨q, HQ⟩ : ∃ q, Hid (kn[i]'hkl = q) := ⟨_, Lib.hid rfl⟩
      have hbd : (kn.take i).count false ≤ i := Nat.le_trans (List.count_le_length) (by simp; omega)
      have HD := Lib.hid (HC.out q HQ.out)
      rw [HQ.out] at hc
      obtain ⟨y, HY⟩ : ∃ y : Nat, Hid ((kn.take i).count false = y) := ⟨_, Lib.hid rfl⟩
      rw [HY.out] at hbd HD ⊢
      cases q
      · go_wp2
        go_round
        case rel => exact ⟨i + 1, by omega, by go_num, by rw [HD.out]; simp⟩
        case measure => simp [intOf]; omega
      · go_wp2
        go_round
        case rel => exact ⟨i + 1, by omega, by go_num, by rw [HD.out]; simp⟩
        case measure => simp [intOf]; omega
    · obtain rfl : i = 8 * m := by omega
      go_wp2
      go_ret
      exact ⟨rfl, rfl⟩
theorem whole_nob {v : Value} (h : Nob w v) : Calls Try.prog 32 #[v] w fun e w' => e = .returned (.tuple #[.slice none 0 0, .bool false]) ∧ w = w' := by
  rcases h with rfl | ⟨g, m, ws, kn, rfl, h⟩
  case' inr =>
    have c0 := h.made
  all_goals
    go_enter Try.func32, Try.ntmps32
    go_wp2
    go_ret2
    exact ⟨rfl, rfl⟩
theorem whole_no (h : Msg w g true m ws kn) (hm : m ≤ 8) (hc : 0 < (kn.take (8 * m)).count false) : Calls Try.prog 32 #[.pointer (some ⟨g, 0, none⟩)] w fun e w' => e = .returned (.tuple #[.slice none 0 0, .bool false]) ∧ w = w' := by
  have c0 := h.made
  have HC := Lib.hid (missing_any h hm)
  obtain ⟨y, HY⟩ : ∃ y : Nat, Hid ((kn.take (8 * m)).count false = y) := ⟨_, Lib.hid rfl⟩
  rw [HY.out] at hc HC
  have hyi : (0 : Int) < (y : Int) := by omega
  go_enter Try.func32, Try.ntmps32
  go_wp2_with fail
  refine HC.out.mono ?_
  rintro e w' ⟨rfl, rfl⟩
  go_wp2
  go_ret2
  exact ⟨rfl, rfl⟩
end Go.Proofs.Ytbhdenjahojbbaa.Ly2
