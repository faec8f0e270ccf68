/- The contract of package serial's Look; no condition but ints' bounds, and no more than 1000 words. -/
import Derived.Test.YtnbcegijncdmaaaDoorSerB
namespace Go.Proofs.YtnbcegijncdmaaaDoor.Ly14
open Go.ChangeShapes Go.WideShapes Go.ChangeAt Go.RowKit Base Ly7 Ly1 Ly3 Ly2
set_option linter.unusedVariables false
set_option linter.unusedSimpArgs false

/-- Which half is looked at. -/
def LkR (n t m : Int) (y b : Bool) : Prop := (n < 0 ∧ m = 0 ∧ y = false ∧ b = false) ∨ (0 ≤ n ∧ (t ≠ 5 ∧ t ≠ 15) ∧ m = 0 ∧ y = false ∧ b = false) ∨ (0 ≤ n ∧ t = 5 ∧ m = n ∧ y = false ∧ b = true) ∨ (0 ≤ n ∧ t = 15 ∧ m = n ∧ y = true ∧ b = true)
theorem lkR_ex (n t : Int) : ∃ m y b, LkR n t m y b := by
  by_cases h : n < 0
  · exact ⟨_, _, _, .inl ⟨h, rfl, rfl, rfl⟩⟩
  by_cases h5 : t = 5
  · exact ⟨_, _, _, .inr (.inr (.inl ⟨by omega, h5, rfl, rfl, rfl⟩))⟩
  by_cases h15 : t = 15
  · exact ⟨_, _, _, .inr (.inr (.inr ⟨by omega, h15, rfl, rfl, rfl⟩))⟩
  exact ⟨_, _, _, .inr (.inl ⟨by omega, ⟨h5, h15⟩, rfl, rfl, rfl⟩)⟩
theorem at_inv {k wo mn c p n t : Int} (h : atN k wo mn c p = n) (g : atT k wo mn c p = t) (h0 : 0 ≤ n) : k = 0 ∧ 0 ≤ c ∧ c < mn ∧ p - (40 + 80 * c) = 20 * n + t ∧ 0 ≤ t ∧ t < 20 ∧ n < 8 * wo := by
  unfold atN at h
  unfold atT at g
  split at h
  · rename_i e
    rw [if_pos e] at g
    exact ⟨e.1, e.2.1, e.2.2.1, by omega, by omega, by omega, by omega⟩
  · omega
theorem clook_f (n : Int) (w : World) (h : 0 ≤ n) (g : n ≤ 1099511627776) :
    Calls Tryd.prog 71 #[.int .i64 n, .bool false] w fun e w' => e = .returned (.int .i64 (20 * n + 5)) ∧ w = w' := by
  rw [← lok_f h g]; exact look_any n false w
theorem clook_t (n : Int) (w : World) (h : 0 ≤ n) (g : n ≤ 1099511627776) :
    Calls Tryd.prog 71 #[.int .i64 n, .bool true] w fun e w' => e = .returned (.int .i64 (20 * n + 15)) ∧ w = w' := by
  rw [← lok_t h g]; exact look_any n true w
theorem idx2a (W : World) : (Instr.index 98 (.agg #[.bool false, .bool true]) (.int .i64 0)).run Tryd.prog W = .ok (.bool false) W := by kernel_rfl
theorem idx2b (W : World) : (Instr.index 98 (.agg #[.bool false, .bool true]) (.int .i64 1)).run Tryd.prog W = .ok (.bool true) W := by kernel_rfl
theorem ne_int {a b : Int} (h : a ≠ b) : (a == b) = false := by simpa using h
set_option maxRecDepth 100000 in
set_option maxHeartbeats 2000000 in
theorem slook_any (k s l wo ad mn cn : Int) (tk : Bool) (c p m : Int) (y b : Bool) (w : World) (c0 : -9223372036854775808 ≤ c) (c1 : c < 1099511627776) (m0 : -9223372036854775808 ≤ mn) (m1 : mn ≤ 9223372036854775807) (p0 : -9223372036854775808 ≤ p) (p1 : p ≤ 9223372036854775807) (hwo : wo ≤ 1000)
    (h : LkR (atN k wo mn c p) (atT k wo mn c p) m y b) :
    Calls Tryd.prog 20 #[.agg #[.int .i64 k, .int .i64 s, .int .i64 l, .int .i64 wo, .int .i64 ad, .int .i64 mn, .int .i64 cn, .bool tk], .int .i64 c, .int .i64 p] w fun e w' => e = .returned (.tuple #[.int .i64 m, .bool y, .bool b]) ∧ Below w.heap.size w w' := by
  have HA := Lib.hid (fun W => at_any k s l wo ad mn cn tk c p W c0 c1 m0 m1 p0 p1)
  have HI := Lib.hid (fun n t (e1 : atN k wo mn c p = n) (e2 : atT k wo mn c p = t) => at_inv e1 e2)
  obtain ⟨n, hn⟩ : ∃ n, atN k wo mn c p = n := ⟨_, rfl⟩
  obtain ⟨t, ht⟩ : ∃ t, atT k wo mn c p = t := ⟨_, rfl⟩
  have HII := Lib.hid (HI.out n t hn ht)
  rw [hn, ht] at HA h
  clear hn ht HI
  obtain ⟨K0, K1, K2, K3, K4, K5, K6, K7⟩ := box8 k s l wo ad mn cn tk w 25
  by_cases h0 : 0 ≤ n
  case neg =>
    have h0' : n < 0 := by omega
    obtain ⟨rfl, rfl, rfl⟩ : m = 0 ∧ y = false ∧ b = false := by rcases h with h | h | h | h <;> first | (exact h.2) | (exact absurd h.1 h0)
    clear h h0
    go_enter Tryd.func20, Tryd.ntmps20
    go_wp2_with fail
    refine (HA.out _).mono ?_
    rintro e w1 ⟨rfl, hb1⟩
    obtain ⟨x, rfl⟩ := Kin.ex hb1
    clear hb1
    go_wp2
    refine bodyPost_ret (v := .tuple #[.int .i64 0, .bool false, .bool false]) (by simp [results, Tryd.results20, go_sem]) rfl ⟨rfl, x.end1⟩
  obtain ⟨rfl, hc0, hcm, hpn, ht0, ht1, hnw⟩ := HII.out h0
  obtain ⟨g, HG⟩ : ∃ g, Hid (40 + 80 * c = g) := ⟨_, Lib.hid rfl⟩
  rw [HG.out] at hpn
  have HBG := Lib.hid (fun W => begin_any 0 s l wo ad mn cn c g tk W c0 c1 m0 m1 (.inr (.inr (.inr ⟨rfl, hc0, .inr hcm, HG.out.symm⟩))))
  have hwp : IntKind.i64.wrap (p - g) = 20 * n + t := (IntWalk.i64_in _ (by omega)).trans hpn
  have HLF := Lib.hid (fun W => clook_f n W h0 (by omega))
  have HLT := Lib.hid (fun W => clook_t n W h0 (by omega))
  clear hpn HII
  rcases h with ⟨h, _⟩ | ⟨_, ⟨h5, h15⟩, rfl, rfl, rfl⟩ | ⟨_, rfl, rfl, rfl, rfl⟩ | ⟨_, rfl, rfl, rfl, rfl⟩
  · omega
  · have e5 : (20 * n + 5 == 20 * n + t) = false := ne_int (by omega)
    have e15 : (20 * n + 15 == 20 * n + t) = false := ne_int (by omega)
    clear h5 h15
    go_enter Tryd.func20, Tryd.ntmps20
    go_wp2_with fail
    refine (HA.out _).mono ?_
    rintro e w1 ⟨rfl, hb1⟩
    obtain ⟨x, rfl⟩ := Kin.ex hb1
    clear hb1
    go_wp2_with fail
    have i0 := idx2a
    have i1 := idx2b
    refine wp_loop_rounds 3 ?_
    rw [rounds_succ]
    go_wp2_with fail
    refine wp_region_kin2 (by kernel_rfl) (by kernel_rfl) ?_
    repeat (go_big_quiet_step (first | (go_at_call 71; exact Calls.kin_same _ (HLF.out _)) | (go_at_call 67; exact Calls.kin _ (HBG.out _))))
    refine wpQuiet_nil ?_
    intro _ hw'
    obtain ⟨kx, hw''⟩ := hw'
    subst hw''
    go_wp2_with fail
    rw [rounds_succ]
    go_wp2_with fail
    refine wp_region_kin2 (by kernel_rfl) (by kernel_rfl) ?_
    repeat (go_big_quiet_step (first | (go_at_call 71; exact Calls.kin_same _ (HLT.out _)) | (go_at_call 67; exact Calls.kin _ (HBG.out _))))
    refine wpQuiet_nil ?_
    intro _ hw'
    obtain ⟨kx, hw''⟩ := hw'
    subst hw''
    go_wp2_with fail
    rw [rounds_succ]
    go_wp2
    refine bodyPost_ret (v := .tuple #[.int .i64 0, .bool false, .bool false]) (by simp [results, Tryd.results20, go_sem]) rfl ⟨rfl, Kin.end1 ‹_›⟩
  · go_enter Tryd.func20, Tryd.ntmps20
    go_wp2_with fail
    refine (HA.out _).mono ?_
    rintro e w1 ⟨rfl, hb1⟩
    obtain ⟨x, rfl⟩ := Kin.ex hb1
    clear hb1
    go_wp2_with fail
    have i0 := idx2a
    have i1 := idx2b
    refine wp_loop_rounds 3 ?_
    rw [rounds_succ]
    go_wp2_with fail
    refine wp_region_kin2 (by kernel_rfl) (by kernel_rfl) ?_
    repeat (go_big_quiet_step (first | (go_at_call 71; exact Calls.kin_same _ (HLF.out _)) | (go_at_call 67; exact Calls.kin _ (HBG.out _))))
    refine wpQuiet_nil ?_
    intro _ hw'
    obtain ⟨kx, hw''⟩ := hw'
    subst hw''
    go_wp2
    refine bodyPost_ret (v := .tuple #[.int .i64 m, .bool false, .bool true]) (by simp [results, Tryd.results20, go_sem]) rfl ⟨rfl, Kin.end1 ‹_›⟩
  · have e5 : (20 * m + 5 == 20 * m + 15) = false := ne_int (by omega)
    go_enter Tryd.func20, Tryd.ntmps20
    go_wp2_with fail
    refine (HA.out _).mono ?_
    rintro e w1 ⟨rfl, hb1⟩
    obtain ⟨x, rfl⟩ := Kin.ex hb1
    clear hb1
    go_wp2_with fail
    have i0 := idx2a
    have i1 := idx2b
    refine wp_loop_rounds 3 ?_
    rw [rounds_succ]
    go_wp2_with fail
    refine wp_region_kin2 (by kernel_rfl) (by kernel_rfl) ?_
    repeat (go_big_quiet_step (first | (go_at_call 71; exact Calls.kin_same _ (HLF.out _)) | (go_at_call 67; exact Calls.kin _ (HBG.out _))))
    refine wpQuiet_nil ?_
    intro _ hw'
    obtain ⟨kx, hw''⟩ := hw'
    subst hw''
    go_wp2_with fail
    rw [rounds_succ]
    go_wp2_with fail
    refine wp_region_kin2 (by kernel_rfl) (by kernel_rfl) ?_
    repeat (go_big_quiet_step (first | (go_at_call 71; exact Calls.kin_same _ (HLT.out _)) | (go_at_call 67; exact Calls.kin _ (HBG.out _))))
    refine wpQuiet_nil ?_
    intro _ hw'
    obtain ⟨kx, hw''⟩ := hw'
    subst hw''
    go_wp2
    refine bodyPost_ret (v := .tuple #[.int .i64 m, .bool true, .bool true]) (by simp [results, Tryd.results20, go_sem]) rfl ⟨rfl, Kin.end1 ‹_›⟩
end Go.Proofs.YtnbcegijncdmaaaDoor.Ly14
