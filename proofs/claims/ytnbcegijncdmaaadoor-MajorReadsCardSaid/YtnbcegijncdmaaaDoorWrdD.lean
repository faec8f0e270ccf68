/- The contracts of layer 2's own Bits and Words, of the document; of package word's Bit and Long. -/
import Derived.Test.YtnbcegijncdmaaaDoorWrdB
import Derived.Test.YtnbcegijncdmaaaDoorStr
import Derived.Deep.DeepCutAuto
import Derived.RegionTactic
namespace Go.Proofs.YtnbcegijncdmaaaDoor.Ly2
open Go.ChangeShapes Go.WideShapes Go.ChangeAt Go.RowKit Base
set_option linter.unusedVariables false
set_option linter.unusedSimpArgs false

theorem bitsOf_at (vs : List Nat) (q r : Nat) (hr : r < 8) (hq : q < vs.length) : (bitsOf vs)[8 * q + r]? = some (wbit (vs[q]'hq) r) := by
  induction vs generalizing q with
  | nil => simp at hq
  | cons b rest ih =>
    unfold bitsOf
    rw [List.flatMap_cons]
    cases q with
    | zero =>
      rw [List.getElem?_append_left (by rw [wbits_len]; omega), Nat.mul_zero, Nat.zero_add]
      unfold wbits
      rw [List.getElem?_map, List.getElem?_range hr]
      rfl
    | succ q =>
      rw [List.getElem?_append_right (by rw [wbits_len]; omega), wbits_len, show 8 * (q + 1) + r - 8 = 8 * q + r by omega]
      exact ih q (by simpa using hq)
theorem bitsOf_take (vs : List Nat) (i : Nat) (hi : i < 8 * vs.length) : (bitsOf vs).take (i + 1) = (bitsOf vs).take i ++ [wbit (vs[i / 8]'(by omega)) (i % 8)] := by
  have h := bitsOf_at vs (i / 8) (i % 8) (by omega) (by omega)
  rw [show 8 * (i / 8) + i % 8 = i by omega] at h
  rw [List.take_add_one, h]
  rfl
theorem wbit_z (v r : Nat) (p : Int) (hp : ((2 ^ (7 - r) : Nat) : Int) = p) : (((v : Int) / p) % 2 == 1) = wbit v r := by
  subst hp
  unfold wbit
  have e : ((v : Int) / ((2 ^ (7 - r) : Nat) : Int)) % 2 = ((v / 2 ^ (7 - r) % 2 : Nat) : Int) := by push_cast; rfl
  rw [e]
  rcases Nat.mod_two_eq_zero_or_one (v / 2 ^ (7 - r)) with h | h <;> rw [h] <;> rfl
def BRel (w : World) (vs : List Nat) (v i : Value) (wr : World) : Prop :=
  ∃ k : Nat, k ≤ 8 * vs.length ∧ i = .int .i64 k ∧ wr.ownsRow w.heap.size 4 1 v k (((bitsOf vs).take k).map Value.bool) ∧ Below w.heap.size w wr
theorem brel_step {w wr w1 : World} {vs : List Nat} {k q r : Nat} {v : Value} {u : Bool} (hk : k < 8 * vs.length) (hq : k / 8 = q) (hr : k % 8 = r) (hqv : q < vs.length) (hu : wbit (vs[q]'hqv) r = u)
    (h : w1.ownsRow w.heap.size 4 1 v (k + 1) (((bitsOf vs).take k).map Value.bool ++ [Value.bool u])) (hb : Below w.heap.size w wr) (hb1 : Below w.heap.size wr w1) :
    BRel w vs v (.int .i64 ((k : Int) + 1)) w1 := by
  subst hq hr hu
  exact ⟨k + 1, by omega, by push_cast; rfl, by rw [bitsOf_take vs k hk, List.map_append]; exact h, hb.trans hb1⟩
set_option maxRecDepth 100000 in
set_option maxHeartbeats 2000000 in
theorem refbits_any (A : Option Addr) (n c : Nat) (vs : List Nat) (w : World) (h : Lst w A n (vs.map fun (x : Nat) => Value.int .u8 x)) (hx : ∀ x ∈ vs, x < 256) (hn : n ≤ 100000) :
    Calls Tryd.prog 14 #[.slice A n c] w fun e w' =>
      ∃ v, e = .returned v ∧ w'.ownsRow w.heap.size 4 1 v (8 * n) ((bitsOf vs).map Value.bool) ∧ Below w.heap.size w w' := by
  obtain ⟨i0, hi, hz0, hz1, hz2⟩ := info_parts info_bool
  have hbl : vs.length = n := by have := h.1; simpa using this
  have HBL := Lib.hid hbl
  have HX := Lib.hid hx
  have O0 : Hid (w.ownsRow w.heap.size 4 1 (.slice none 0 0) 0 []) := Lib.hid ⟨rfl, .inl ⟨rfl, rfl⟩⟩
  clear hbl hx
  go_enter Tryd.func14, Tryd.ntmps14
  go_wp2
  go_loopw [3, 4] (fun v i wr => BRel w vs v i wr) (fun _ i _ => 8 * n - (intOf i).toNat)
  case atStart => exact ⟨0, by omega, rfl, by simpa using O0.out, Below.refl _ _⟩
  case round =>
    obtain ⟨k, hk, rfl, hown, hbel⟩ := hrel
    rw [HBL.out] at hk
    by_cases hlt : k < 8 * n
    · obtain ⟨q, hq⟩ : ∃ q : Nat, (k : Int) / 8 = (q : Int) := ⟨k / 8, by omega⟩
      obtain ⟨r, hr⟩ : ∃ r : Nat, (k : Int) % 8 = (r : Int) := ⟨k % 8, by omega⟩
      have hqn : q < n := by omega
      have HQ := Lib.hid (show k / 8 = q by omega)
      have HR := Lib.hid (show k % 8 = r by omega)
      have hr8 : r < 8 := by omega
      have hkb : q < vs.length := by rw [HBL.out]; exact hqn
      obtain ⟨b, off, rfl, hbs, hcell⟩ := (h.kept hbel).get hqn
      rw [List.getElem_map] at hcell
      have hbit8 := HX.out _ (List.getElem_mem hkb)
      obtain ⟨V, HV⟩ : ∃ V, Hid (vs[q]'hkb = V) := ⟨_, Lib.hid rfl⟩
      rw [HV.out] at hcell hbit8
      obtain ⟨u, HU⟩ : ∃ u, Hid (wbit V r = u) := ⟨_, Lib.hid rfl⟩
      have HKB := Lib.hid hkb
      have HBEL := Lib.hid hbel
      have HOWN := Lib.hid hown
      have HLT := Lib.hid hlt
      clear hbel hown
      have key : ∀ p : Int, ((2 ^ (7 - r) : Nat) : Int) = p → (((V : Int) / p) % 2 == 1) = u := fun p hp => by rw [← HU.out]; exact wbit_z V r p hp
      rcases (show r = 0 ∨ r = 1 ∨ r = 2 ∨ r = 3 ∨ r = 4 ∨ r = 5 ∨ r = 6 ∨ r = 7 by omega) with rfl | rfl | rfl | rfl | rfl | rfl | rfl | rfl
      case' inl => have hz := key 128 rfl
      case' inr.inl => have hz := key 64 rfl
      case' inr.inr.inl => have hz := key 32 rfl
      case' inr.inr.inr.inl => have hz := key 16 rfl
      case' inr.inr.inr.inr.inl => have hz := key 8 rfl
      case' inr.inr.inr.inr.inr.inl => have hz := key 4 rfl
      case' inr.inr.inr.inr.inr.inr.inl => have hz := key 2 rfl
      case' inr.inr.inr.inr.inr.inr.inr => have hz : (((V : Int) % 2) == 1) = u := by have := key 1 rfl; rwa [Int.ediv_one] at this
      all_goals
        clear key
        go_wp2_with (at_builtin; refine push1 _ rfl (.tmp 12) (.tmp 26) 27 rfl w.heap.size 4 i0 (.bool false) 1 Tryd.underlying27 hi hz0 hz1 hz2 rfl _ _ _ rfl HOWN.out (.bool u) _ rfl rfl (by unfold maxLen; omega) (by omega) HBEL.out.size ?_; intro v2 w2 hown2 hbel2)
        go_roundw
        case rel => exact brel_step (by rw [HBL.out]; exact HLT.out) HQ.out HR.out HKB.out (by rw [HV.out]; exact HU.out) hown2 HBEL.out hbel2
        case measure => simp [intOf]; omega
    · obtain rfl : k = 8 * n := by omega
      go_wp2
      go_ret
      refine ⟨_, rfl, ?_, hbel⟩
      rw [List.take_of_length_le (by rw [bitsOf_len, HBL.out]; exact Nat.le_refl _)] at hown
      exact hown
theorem long_any (n : Int) (w : World) (r : Int) (h : (n < 0 ∨ 1099511627776 < n) ∧ r = 0 ∨ (0 ≤ n ∧ n ≤ 1099511627776 ∧ r = n * 8)) : Calls Tryd.prog 69 #[.int .i64 n] w fun e w' => e = .returned (.int .i64 r) ∧ w = w' := by
  rcases h with ⟨h | h, rfl⟩ | ⟨h, h1, rfl⟩
  all_goals
    go_enter Tryd.func69, Tryd.ntmps69
    go_wp2
    go_ret
    exact ⟨rfl, rfl⟩
theorem bit_out (A : Option Addr) (n c : Nat) (k : Int) (w : World) (hn : n ≤ 9223372036854775807) (k0 : -9223372036854775808 ≤ k) (k1 : k ≤ 9223372036854775807) (h : k < 0 ∨ 8 * (n : Int) ≤ k) :
    Calls Tryd.prog 62 #[.slice A n c, .int .i64 k] w fun e w' => e = .returned (.tuple #[.bool false, .bool false]) ∧ Below w.heap.size w w' := by
  rcases h with h | h
  case' inr =>
    have hq : (n : Int) ≤ k / 8 := by omega
    have hk0 : 0 ≤ k := by omega
    have ht : k.tdiv 8 = k / 8 := Int.tdiv_eq_ediv_of_nonneg hk0
  all_goals
    go_enter Tryd.func62, Tryd.ntmps62
    go_wp2
    go_ret2
    exact ⟨rfl, Below.refl _ _⟩
theorem mask_b (j : Nat) (m : Int) (hm : ((2 ^ (7 - j) : Nat) : Int) = m) (w : World) (hj : j < 8) : Calls Tryd.prog 91 #[.int .i64 j] w fun e w' => e = .returned (.int .u8 m) ∧ Below w.heap.size w w' :=
  (mask_c j m hm w hj).mono fun _ _ ⟨a, b⟩ => ⟨a, b ▸ Below.refl _ _⟩
set_option maxRecDepth 100000 in
set_option maxHeartbeats 2000000 in
theorem bit_in (A : Option Addr) (n c : Nat) (vs : List Nat) (k : Nat) (u : Bool) (w : World) (h : Lst w A n (vs.map fun (x : Nat) => Value.int .u8 x)) (hx : ∀ x ∈ vs, x < 256) (hn : n ≤ 9223372036854775807) (hk : k < 8 * n) (hu : (bitsOf vs)[k]? = some u) (hk1 : k ≤ 9223372036854775807 := by omega) :
    Calls Tryd.prog 62 #[.slice A n c, .int .i64 k] w fun e w' => e = .returned (.tuple #[.bool u, .bool true]) ∧ Below w.heap.size w w' := by
  have hbl : vs.length = n := by have := h.1; simpa using this
  obtain ⟨q, hq⟩ : ∃ q : Nat, (k : Int) / 8 = (q : Int) := ⟨k / 8, by omega⟩
  obtain ⟨r, hr⟩ : ∃ r : Nat, (k : Int) % 8 = (r : Int) := ⟨k % 8, by omega⟩
  have hqn : q < n := by omega
  have hr8 : r < 8 := by omega
  have hkb : q < vs.length := by omega
  have hub : wbit (vs[q]'hkb) r = u := by
    have := bitsOf_at vs q r hr8 hkb
    rw [show 8 * q + r = k by omega, hu] at this
    exact (Option.some.inj this).symm
  obtain ⟨b, off, rfl, hbs, hcell⟩ := h.get hqn
  rw [List.getElem_map] at hcell
  have hbit8 := hx _ (List.getElem_mem hkb)
  obtain ⟨V, HV⟩ : ∃ V, Hid (vs[q]'hkb = V) := ⟨_, Lib.hid rfl⟩
  rw [HV.out] at hcell hbit8 hub
  obtain ⟨z, ez, fz⟩ := u8_bit V r hbit8 hr8
  obtain ⟨m, HM⟩ : ∃ m, Hid (((2 ^ (7 - r) : Nat) : Int) = m) := ⟨_, Lib.hid rfl⟩
  rw [HM.out] at ez
  rw [hub] at fz
  have K0 : ∀ x : Kin w, x.world.cell? ⟨b, off + q, none⟩ = some (.int .u8 (V : Int)) := fun x => (x.below.cell (p := ⟨b, off + q, none⟩) hbs).trans hcell
  have CM := Lib.hid (fun W => mask_b r m HM.out W hr8)
  have wq : IntKind.i64.wrap (q : Int) = (q : Int) := IntWalk.i64_in _ (by omega)
  have wr1 : IntKind.i64.wrap (r : Int) = (r : Int) := IntWalk.i64_in _ (by omega)
  have hqi : (0 : Int) ≤ (q : Int) ∧ (q : Int) < (n : Int) := by omega
  have htm : ((k : Int)).tmod 8 = (r : Int) := by rw [Int.tmod_eq_emod_of_nonneg (by omega)]; exact hr
  have htd : ((k : Int)).tdiv 8 = (q : Int) := by rw [Int.tdiv_eq_ediv_of_nonneg (by omega)]; exact hq
  clear hub hu hx h hbl
  go_enter Tryd.func62, Tryd.ntmps62
  go_wp2_with fail
  refine wp_region_kin (by kernel_rfl) (by kernel_rfl) ?_
  repeat (go_big_quiet_step (first | (go_at_call 91; exact Calls.kin _ (CM.out _))))
  refine wpQuiet_nil ?_
  intro _ hw'
  obtain ⟨kx, hw''⟩ := hw'
  subst hw''
  go_wp2
  go_ret2
  exact ⟨rfl, kx.below⟩
end Go.Proofs.YtnbcegijncdmaaaDoor.Ly2
