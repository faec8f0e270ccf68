/- The contracts of package word's mask, Bits, Parity, and of the statements' helper Bools. -/
import Derived.Test.YtbhdenjahojbbaaArgs
import Derived.Test.YtbhdenjahojbbaaObj
import Derived.Test.YtbhdenjahojbbaaRows
import Derived.WalkKit
import Derived.ProofKit
import Derived.OpenShut
import Derived.WalkLawsBesides
import Derived.WalkSpells
import Derived.Handy
import Derived.Lib.Hide
import Derived.Laws.BitsAllLaws
namespace Go.Proofs.Ytbhdenjahojbbaa.Ly2
open Go.ChangeShapes Go.WideShapes Go.ChangeAt Go.RowKit Base
set_option linter.unusedVariables false
set_option linter.unusedSimpArgs false

theorem info_bool : (Try.prog.info? 4).map (fun i => (i.zero, i.size, i.bytes)) = some (some (.bool false), 1, 1) := by kernel_rfl

/-- A bit of a word, the highest one first. -/
def wbit (v k : Nat) : Bool := v / 2 ^ (7 - k) % 2 == 1
def wbits (v : Nat) : List Bool := (List.range 8).map (wbit v)
def bitsOf (vs : List Nat) : List Bool := vs.flatMap wbits
theorem wbits_len (v : Nat) : (wbits v).length = 8 := by simp [wbits]
theorem bitsOf_len (vs : List Nat) : (bitsOf vs).length = 8 * vs.length := by
  induction vs with
  | nil => rfl
  | cons b r ih => simp only [bitsOf, List.flatMap_cons, List.length_append, wbits_len, List.length_cons] at ih ⊢; omega
theorem bitsOf_snoc (vs : List Nat) (k : Nat) (hk : k < vs.length) : bitsOf (vs.take (k + 1)) = bitsOf (vs.take k) ++ wbits vs[k] := by
  unfold bitsOf
  rw [List.take_succ_eq_append_getElem hk, List.flatMap_append, List.flatMap_cons, List.flatMap_nil, List.append_nil]
theorem bitsOf_app (a b : List Nat) : bitsOf (a ++ b) = bitsOf a ++ bitsOf b := by simp [bitsOf]
theorem wbits_snoc (v : Nat) (j : Nat) (hj : j < 8) : (wbits v).take (j + 1) = (wbits v).take j ++ [wbit v j] := by
  rw [List.take_succ_eq_append_getElem (by rw [wbits_len]; exact hj)]
  simp [wbits]

theorem mask_at (j : Nat) (w : World) (hj : j < 8) : Calls Try.prog 35 #[.int .i64 j] w fun e w' => e = .returned (.int .u8 ((2 ^ (7 - j) : Nat) : Int)) ∧ w = w' := by
  rcases (show j = 0 ∨ j = 1 ∨ j = 2 ∨ j = 3 ∨ j = 4 ∨ j = 5 ∨ j = 6 ∨ j = 7 by omega) with rfl | rfl | rfl | rfl | rfl | rfl | rfl | rfl
  all_goals
    go_enter Try.func35, Try.ntmps35
    go_wp2
    go_ret
    exact ⟨rfl, rfl⟩
theorem mask_c (j : Nat) (m : Int) (hm : ((2 ^ (7 - j) : Nat) : Int) = m) (w : World) (hj : j < 8) : Calls Try.prog 35 #[.int .i64 j] w fun e w' => e = .returned (.int .u8 m) ∧ w = w' := by
  subst hm; exact mask_at j w hj
theorem u8_bit (v j : Nat) (hv : v < 256) (hj : j < 8) : ∃ z : Int, Go.bits BinOp.and IntKind.u8 (v : Int) ((2 ^ (7 - j) : Nat) : Int) = z ∧ (z != 0) = wbit v j := by
  have hp : 2 ^ (7 - j) < 256 := by rcases (show j = 0 ∨ j = 1 ∨ j = 2 ∨ j = 3 ∨ j = 4 ∨ j = 5 ∨ j = 6 ∨ j = 7 by omega) with rfl | rfl | rfl | rfl | rfl | rfl | rfl | rfl <;> decide
  have hp0 : 0 < 2 ^ (7 - j) := Nat.pow_pos (by decide)
  refine ⟨_, u8_and_nat v (2 ^ (7 - j)) hv hp, ?_⟩
  rw [nat_bit]
  unfold wbit
  generalize 2 ^ (7 - j) = p at hp0
  rcases Nat.mod_two_eq_zero_or_one (v / p) with h | h <;> rw [h]
  · simp
  · simp; omega

/-- What the loop over the words knows, behind k of them. -/
def WRel (w : World) (vs : List Nat) (v i : Value) (wr : World) : Prop :=
  ∃ k : Nat, k ≤ vs.length ∧ i = .int .i64 k ∧ wr.ownsRow w.heap.size 4 1 v (8 * k) ((bitsOf (vs.take k)).map Value.bool) ∧ Below w.heap.size w wr
/-- What the loop over the bits of a word knows, behind j of them. -/
def TRel (w : World) (vs : List Nat) (k : Nat) (b : Nat) (v i : Value) (wr : World) : Prop :=
  ∃ j : Nat, j ≤ 8 ∧ i = .int .i64 j ∧ wr.ownsRow w.heap.size 4 1 v (8 * k + j) ((bitsOf (vs.take k) ++ (wbits b).take j).map Value.bool) ∧ Below w.heap.size w wr
theorem trel_start {w wr : World} {vs : List Nat} {k : Nat} {b : Nat} {v : Value} (h : wr.ownsRow w.heap.size 4 1 v (8 * k) ((bitsOf (vs.take k)).map Value.bool)) (hb : Below w.heap.size w wr) :
    TRel w vs k b v (.int .i64 0) wr := ⟨0, by omega, rfl, by simpa using h, hb⟩
theorem trel_step {w wr w1 : World} {vs : List Nat} {k j : Nat} {b : Nat} {v : Value} (hj : j < 8)
    (h : w1.ownsRow w.heap.size 4 1 v (8 * k + j + 1) ((bitsOf (vs.take k) ++ (wbits b).take j).map Value.bool ++ [Value.bool (wbit b j)])) (hb : Below w.heap.size w wr) (hb1 : Below w.heap.size wr w1) :
    TRel w vs k b v (.int .i64 ((j : Int) + 1)) w1 :=
  ⟨j + 1, by omega, by push_cast; rfl, by rw [wbits_snoc b j hj, ← List.append_assoc, List.map_append (l₁ := bitsOf _ ++ _)]; exact h, hb.trans hb1⟩
theorem trel_end {w wr : World} {vs : List Nat} {k : Nat} {v : Value} (hk : k < vs.length)
    (h : wr.ownsRow w.heap.size 4 1 v (8 * k + 8) ((bitsOf (vs.take k) ++ (wbits vs[k]).take 8).map Value.bool)) (hb : Below w.heap.size w wr) :
    WRel w vs v (.int .i64 ((k : Int) + 1)) wr :=
  ⟨k + 1, by omega, by push_cast; rfl, by rw [bitsOf_snoc vs k hk]; rw [List.take_of_length_le (l := wbits vs[k]) (by rw [wbits_len]; omega)] at h; exact h, hb⟩

set_option maxHeartbeats 1000000 in
theorem bits_any (A : Option Addr) (n c : Nat) (vs : List Nat) (w : World) (h : Lst w A n (vs.map fun (x : Nat) => Value.int .u8 x)) (hx : ∀ x ∈ vs, x < 256) (hn : n ≤ 1000000) :
    Calls Try.prog 24 #[.slice A n c] w fun e w' =>
      ∃ v, e = .returned v ∧ w'.ownsRow w.heap.size 4 1 v (8 * n) ((bitsOf vs).map Value.bool) ∧ Below w.heap.size w w' := by
  obtain ⟨i0, hi, hz0, hz1, hz2⟩ := info_parts info_bool
  have hbl : vs.length = n := by have := h.1; simpa using this
  have HBL := Lib.hid hbl
  have HX := Lib.hid hx
  clear hbl hx
  go_enter Try.func24, Try.ntmps24
  go_wp2_with (at_make; refine wpList_make_own _ rfl _ _ 31 rfl w.heap.size 4 i0 (.bool false) 1 Try.underlying31 hi hz0 hz1 _ _ _ (n * 8) rfl rfl (by omega) (by rw [hz2]; omega) (by unfold maxLen; omega) (Nat.le_refl _) ?_; intro w0 hown0 hgrow0)
  go_loopw [3, 13] (fun v i wr => WRel w vs v i wr) (fun _ i _ => n - (intOf i).toNat)
  case atStart => exact ⟨0, by omega, rfl, by simpa [bitsOf] using hown0, (Below.refl _ _).grown hgrow0 (Nat.le_refl _) (fun k h => by cases h)⟩
  case round =>
    obtain ⟨k, hk, rfl, hown, hbel⟩ := hrel
    rw [HBL.out] at hk
    by_cases hlt : k < n
    · have hkb : k < vs.length := by rw [HBL.out]; exact hlt
      obtain ⟨b, off, rfl, hbs, hcell⟩ := (h.kept hbel).get hlt
      rw [List.getElem_map] at hcell
      have hbit8 := HX.out _ (List.getElem_mem hkb)
      generalize hbit : vs[k] = bit at hcell hbit8
      have HBIT := Lib.hid hbit
      clear hbit
      have b0 : (0 : Int) ≤ (bit : Int) := by omega
      have b1 : (bit : Int) ≤ 255 := by omega
      obtain ⟨wo, rfl⟩ : ∃ wo : World, wo = wr := ⟨_, rfl⟩
      go_wp2
      go_loopw [3, 17] (fun v i wr => TRel w vs k bit v i wr) (fun _ i _ => 8 - (intOf i).toNat)
      case atStart => exact trel_start hown hbel
      case round =>
        obtain ⟨j, hj, rfl, hown1, hbel1⟩ := hrel
        by_cases hj2 : j < 8
        · obtain ⟨z, ez, fz⟩ := u8_bit bit j hbit8 hj2
          obtain ⟨m, HM⟩ : ∃ m, Hid (((2 ^ (7 - j) : Nat) : Int) = m) := ⟨_, Lib.hid rfl⟩
          obtain ⟨u, HU⟩ : ∃ u, Hid (wbit bit j = u) := ⟨_, Lib.hid rfl⟩
          rw [HM.out] at ez
          rw [HU.out] at fz
          have CM := Lib.hid (fun W => mask_c j m HM.out W hj2)
          go_wp2_with (first
            | (go_at_call 35; refine (CM.out _).mono ?_; rintro e w' ⟨rfl, rfl⟩)
            | (at_builtin; refine push1 _ rfl (.tmp 20) (.tmp 26) 31 rfl w.heap.size 4 i0 (.bool false) 1 Try.underlying31 hi hz0 hz1 hz2 rfl _ _ _ rfl hown1 (.bool u) _ rfl rfl (by unfold maxLen; omega) (by omega) hbel1.size ?_; intro v2 w2 hown2 hbel2))
          go_roundw
          case rel => exact trel_step hj2 (by rw [HU.out]; exact hown2) hbel1 hbel2
          case measure => simp [intOf]; omega
        · obtain rfl : j = 8 := by omega
          go_wp2
          go_roundw
          case rel => exact trel_end hkb (by rw [HBIT.out]; exact hown1) hbel1
          case measure => simp [intOf]; omega
    · obtain rfl : k = n := by omega
      go_wp2
      go_ret
      refine ⟨_, rfl, ?_, hbel⟩
      rw [List.take_of_length_le (by rw [HBL.out]; omega)] at hown
      exact hown

/-- Is the number of ones odd? -/
def par (l : List Bool) : Bool := l.foldl (fun a b => a != b) false
theorem par_snoc (l : List Bool) (k : Nat) (hk : k < l.length) : par (l.take (k + 1)) = (par (l.take k) != l[k]) := by
  unfold par
  rw [List.take_succ_eq_append_getElem hk, List.foldl_append]; rfl
theorem par_app (a b : List Bool) : par (a ++ b) = (par a != par b) := by
  unfold par
  have aux : ∀ (l : List Bool) (x : Bool), l.foldl (fun a b => a != b) x = (x != l.foldl (fun a b => a != b) false) := by
    intro l
    induction l with
    | nil => intro x; simp
    | cons y r ih => intro x; simp only [List.foldl]; rw [ih, ih (false != y)]; cases x <;> cases y <;> simp
  rw [List.foldl_append, aux]

set_option maxHeartbeats 1000000 in
theorem parity_any (A : Option Addr) (n c : Nat) (vs : List Nat) (w : World) (h : Lst w A n (vs.map fun (x : Nat) => Value.int .u8 x)) (hx : ∀ x ∈ vs, x < 256) (hn : n ≤ 1000000) :
    Calls Try.prog 28 #[.slice A n c] w fun e w' => e = .returned (.bool (par (bitsOf vs))) ∧ Below w.heap.size w w' := by
  have HB := Lib.hid (bits_any A n c vs w h hx hn)
  clear h hx
  obtain ⟨xs, HXS⟩ : ∃ xs, Hid (bitsOf vs = xs) := ⟨_, Lib.hid rfl⟩
  rw [HXS.out] at HB ⊢
  go_enter Try.func28, Try.ntmps28
  go_wp2_with fail
  refine HB.out.mono ?_
  rintro e w1 ⟨v, rfl, hown, hb1⟩
  obtain ⟨B, d, rfl, hd, hdm, hl⟩ := Lst.of_own hown
  have HBB := Lib.hid hb1
  clear hown hb1
  have HLN := Lib.hid (show xs.length = 8 * n by simpa using hl.1)
  go_wp2_with fail
  go_loop [3, 9] (fun o i => ∃ k : Nat, k ≤ 8 * n ∧ i = .int .i64 k ∧ o = .bool (par (xs.take k))) (fun _ i => 8 * n - (intOf i).toNat)
  case atStart => exact ⟨0, by omega, rfl, rfl⟩
  case round =>
    obtain ⟨k, hk, rfl, rfl⟩ := hrel
    by_cases hlt : k < 8 * n
    · obtain ⟨b, off, rfl, _, hc⟩ := hl.get hlt
      rw [List.getElem_map] at hc
      have hkl : k < xs.length := by rw [HLN.out]; exact hlt
      have HS := Lib.hid (par_snoc xs k hkl)
      obtain ⟨x, HX⟩ : ∃ x, Hid (xs[k]'hkl = x) := ⟨_, Lib.hid rfl⟩
      obtain ⟨p, HP⟩ : ∃ p, Hid (par (xs.take k) = p) := ⟨_, Lib.hid rfl⟩
      rw [HX.out] at hc
      rw [HP.out]
      go_wp2
      go_round
      case rel => exact ⟨k + 1, by omega, by go_num, by rw [HS.out, HX.out, HP.out]; cases p <;> cases x <;> rfl⟩
      case measure => simp [intOf]; omega
    · obtain rfl : k = 8 * n := by omega
      rw [List.take_of_length_le (by rw [HLN.out]; exact Nat.le_refl _)]
      go_wp2
      go_ret
      exact ⟨rfl, HBB.out⟩

theorem bools_same (A B : Option Addr) (n c d : Nat) (xs : List Bool) (w : World) (ha : Lst w A n (xs.map Value.bool)) (hb : Lst w B n (xs.map Value.bool)) (hn : n ≤ 100000000) :
    Calls Try.prog 23 #[.slice A n c, .slice B n d] w fun e w' => e = .returned (.int .i64 1) ∧ Below w.heap.size w w' := by
  go_enter Try.func23, Try.ntmps23
  go_wp2
  go_loopw [5] (fun i wr => ∃ (k : Nat) (x : Kin w), k ≤ n ∧ i = .int .i64 k ∧ wr = x.world) (fun i _ => n - (intOf i).toNat)
  case atStart => exact ⟨0, Kin.me _, by omega, rfl, rfl⟩
  case round =>
    obtain ⟨k, x, hk, rfl, rfl⟩ := hrel
    by_cases hlt : k < n
    · obtain ⟨b1, o1, rfl, _, hc1⟩ := (ha.kept x.below).get hlt
      obtain ⟨b2, o2, rfl, _, hc2⟩ := (hb.kept x.below).get hlt
      rw [List.getElem_map] at hc1 hc2
      generalize hv : xs[k]'(by have := ha.1; simp at this; omega) = v at hc1 hc2
      clear hv
      go_wp2
      go_quiet (fail)
      go_wp2
      go_roundw
      case rel => exact ⟨k + 1, ⟨_, below_drewN' x.below _⟩, by omega, by go_num, rfl⟩
      case measure => simp [intOf]; omega
    · obtain rfl : k = n := by omega
      go_wp2
      go_ret
      exact ⟨rfl, x.below⟩
end Go.Proofs.Ytbhdenjahojbbaa.Ly2
