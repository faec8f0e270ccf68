/- The contracts of the slots that are made, and of package gate's Alone; no condition but ints' bounds, no more than 1000 words, and the table of the lines. -/
import Derived.Test.YtnbcegijncdmaaaDoorGatB
namespace Go.Proofs.YtnbcegijncdmaaaDoor.Ly18
open Go.ChangeShapes Go.WideShapes Go.ChangeAt Go.RowKit Base Ly7 Ly1 Ly3 Ly2 Ly14
set_option linter.unusedVariables false
set_option linter.unusedSimpArgs false

def opF (sd pu : Bool) (a b a' b' p : Int) : Bool := (sd && nrB a b p) || (pu && nrB a' b' p)
set_option maxRecDepth 100000 in
set_option maxHeartbeats 4000000 in
theorem alone_any (k s l wo ad mn cn : Int) (tk : Bool) (sd pu : Bool) (A : Option Addr) (N cc : Nat) (c p q a b a' b' : Int) (vs : List Nat) (r : Nat) (w : World) (c0 : -9223372036854775808 ≤ c) (c1 : c < 1099511627776) (m0 : -9223372036854775808 ≤ mn) (m1 : mn ≤ 9223372036854775807) (hwo : wo ≤ 1000) (l0 : 0 ≤ l) (l1 : l ≤ 1048575)
    (p0 : -4611686018427387904 ≤ p) (p1 : p ≤ 4611686018427387904) (q0 : -4611686018427387904 ≤ q) (q1 : q ≤ 4611686018427387904)
    (hl : Lst w A N (vs.map fun (x : Nat) => Value.int .u8 x)) (hx : ∀ x ∈ vs, x < 256) (hN : N ≤ 9223372036854775807) (hU : Up w) (hs : Snd k wo mn c a b) (hp : Pls k l a' b')
    (hr : (if opF sd pu a b a' b' q then drF sd pu false (bitsOf vs) (atN k wo mn c p) (atT k wo mn c p) a' b' p else 0) ||| (if opF sd pu a b a' b' p then drF sd pu true (bitsOf vs) (atN k wo mn c q) (atT k wo mn c q) a' b' q else 0) = r) :
    Calls Tryd.prog 52 #[.agg #[.int .i64 k, .int .i64 s, .int .i64 l, .int .i64 wo, .int .i64 ad, .int .i64 mn, .int .i64 cn, .bool tk], .agg #[.bool sd, .int .i64 c, .slice A N cc, .bool pu], .int .i64 p, .int .i64 q] w fun e w' => e = .returned (.int .u8 (r : Int)) ∧ Below w.heap.size w w' := by
  obtain ⟨W1, HW1, HO8, HO4, HB⟩ := two k s l wo ad mn cn tk sd pu A N cc c w 25 72
  obtain ⟨u, HUD⟩ : ∃ u, Hid (opF sd pu a b a' b' q = u) := ⟨_, Lib.hid rfl⟩
  obtain ⟨v, HVD⟩ : ∃ v, Hid (opF sd pu a b a' b' p = v) := ⟨_, Lib.hid rfl⟩
  obtain ⟨X, HX⟩ : ∃ X, Hid (drF sd pu false (bitsOf vs) (atN k wo mn c p) (atT k wo mn c p) a' b' p = X) := ⟨_, Lib.hid rfl⟩
  obtain ⟨Y, HY⟩ : ∃ Y, Hid (drF sd pu true (bitsOf vs) (atN k wo mn c q) (atT k wo mn c q) a' b' q = Y) := ⟨_, Lib.hid rfl⟩
  have hX : X < 16 := by rw [← HX.out]; exact drF_lt
  have hY : Y < 16 := by rw [← HY.out]; exact drF_lt
  have HR : Hid ((if u then X else 0) ||| (if v then Y else 0) = r) := Lib.hid (by rw [← hr, ← HUD.out, ← HVD.out, ← HX.out, ← HY.out])
  have hr16 : r < 16 := by
    rw [← HR.out]
    refine Nat.or_lt_two_pow (n := 4) ?_ ?_
    · split <;> omega
    · split <;> omega
  have HOQ := Lib.hid (fun x : Kin W1 => opens_any k s l wo ad mn cn tk sd pu A N cc c q a b a' b' _ _ x.world c0 c1 m0 m1 hwo l0 l1 q0 q1 hs hp rfl rfl)
  have HOP := Lib.hid (fun x : Kin W1 => opens_any k s l wo ad mn cn tk sd pu A N cc c p a b a' b' _ _ x.world c0 c1 m0 m1 hwo l0 l1 p0 p1 hs hp rfl rfl)
  have e1 : (sd && nrB a b q || pu && nrB a' b' q) = u := HUD.out
  have e2 : (sd && nrB a b p || pu && nrB a' b' p) = v := HVD.out
  rw [e1] at HOQ
  rw [e2] at HOP
  have HDX := Lib.hid (fun x : Kin W1 => drives_any k s l wo ad mn cn tk sd pu A N cc c p a' b' false vs X x.world c0 c1 m0 m1 (by omega) (by omega) l0 l1 (hl.kept (Kin.up x HB)) hx hN (hU.kept (Kin.up x HB)) hp HX.out)
  have HDY := Lib.hid (fun x : Kin W1 => drives_any k s l wo ad mn cn tk sd pu A N cc c q a' b' true vs Y x.world c0 c1 m0 m1 (by omega) (by omega) l0 l1 (hl.kept (Kin.up x HB)) hx hN (hU.kept (Kin.up x HB)) hp HY.out)
  obtain ⟨K0, K1, K2, K3, K4, K5, K6, K7⟩ := o8 k s l wo ad mn cn tk HO8
  obtain ⟨R0, R1, R2, R3⟩ := o4 sd pu A N cc c HO4
  have HE := Lib.hid (fun x : Kin W1 => Kin.up x HB)
  clear hl hx hU hp hs hr HUD HVD HX HY HB HO8 HO4 e1 e2
  go_enter Tryd.func52, Tryd.ntmps52
  go_upto_region 1 with (fail)
  rw [← HW1]
  clear HW1
  obtain ⟨x0, hx0⟩ : ∃ x0 : Kin W1, x0.world = W1 := ⟨Kin.me _, rfl⟩
  rw [← hx0]
  clear hx0
  go_wp2_with fail
  refine (Calls.kin _ (HOQ.out _)).mono ?_
  rintro e w' ⟨rfl, x2, rfl⟩
  cases u
  · go_wp2_with fail
    refine (Calls.kin _ (HOP.out _)).mono ?_
    rintro e w' ⟨rfl, x3, rfl⟩
    cases v
    · go_wp2_with fail
      refine (or2 0 0 r (by omega) (by omega) (orr HR.out hr16) _ _).mono ?_
      rintro e w' ⟨rfl, rfl⟩
      go_wp2
      go_ret
      exact ⟨rfl, ((HE.out _).alloc (HE.out _).size _)⟩
    · go_wp2_with fail
      refine (Calls.kin _ (HDY.out _)).mono ?_
      rintro e w' ⟨rfl, x4, rfl⟩
      go_wp2_with fail
      refine (or2 0 Y r (by omega) (by omega) (orr HR.out hr16) _ _).mono ?_
      rintro e w' ⟨rfl, rfl⟩
      go_wp2
      go_ret
      exact ⟨rfl, ((HE.out _).alloc (HE.out _).size _)⟩
  · go_wp2_with fail
    refine (Calls.kin _ (HDX.out _)).mono ?_
    rintro e w' ⟨rfl, x3, rfl⟩
    go_wp2_with fail
    refine (Calls.kin _ (HOP.out _)).mono ?_
    rintro e w' ⟨rfl, x4, rfl⟩
    cases v
    · go_wp2_with fail
      refine (or2 X 0 r (by omega) (by omega) (orr HR.out hr16) _ _).mono ?_
      rintro e w' ⟨rfl, rfl⟩
      go_wp2
      go_ret
      exact ⟨rfl, ((HE.out _).alloc (HE.out _).size _)⟩
    · go_wp2_with fail
      refine (Calls.kin _ (HDY.out _)).mono ?_
      rintro e w' ⟨rfl, x5, rfl⟩
      go_wp2_with fail
      refine (or2 X Y r (by omega) (by omega) (orr HR.out hr16) _ _).mono ?_
      rintro e w' ⟨rfl, rfl⟩
      go_wp2
      go_ret
      exact ⟨rfl, ((HE.out _).alloc (HE.out _).size _)⟩
set_option maxRecDepth 100000 in
set_option maxHeartbeats 1000000 in
theorem made_any (a b y z : Int) (w : World) (hy : Go.bits BinOp.and IntKind.i64 a 7 = y) (hz : Go.bits BinOp.and IntKind.i64 b 3 = z) (y0 : 0 ≤ y) (y1 : y ≤ 7) (z0 : 0 ≤ z) (z1 : z ≤ 3) :
    Calls Tryd.prog 13 #[.int .i64 a, .int .i64 b] w fun e w' => e = .returned (.agg #[.int .i64 0, .int .i64 0, .int .i64 (20 * (10 + 8 * (1 + y) + 4 * z)), .int .i64 (1 + y), .int .i64 0, .int .i64 (1 + z), .int .i64 (-1), .bool false]) ∧ Below w.heap.size w w' := by
  have hz2 : IntKind.i64.wrap (1 + z - 1) = z := (IntWalk.i64_in _ (by omega)).trans (by omega)
  have e2 : IntKind.i64.wrap (8 * (1 + y)) = 8 * (1 + y) := IntWalk.i64_in _ (by omega)
  have e3 : IntKind.i64.wrap (10 + 8 * (1 + y)) = 10 + 8 * (1 + y) := IntWalk.i64_in _ (by omega)
  have e4 : IntKind.i64.wrap (4 * z) = 4 * z := IntWalk.i64_in _ (by omega)
  have e5 : IntKind.i64.wrap (10 + 8 * (1 + y) + 4 * z) = 10 + 8 * (1 + y) + 4 * z := IntWalk.i64_in _ (by omega)
  have e6 : IntKind.i64.wrap (20 * (10 + 8 * (1 + y) + 4 * z)) = 20 * (10 + 8 * (1 + y) + 4 * z) := IntWalk.i64_in _ (by omega)
  go_enter Tryd.func13, Tryd.ntmps13
  go_wp2
  refine bodyPost_ret (v := .agg #[.int .i64 0, .int .i64 0, .int .i64 (20 * (10 + 8 * (1 + y) + 4 * z)), .int .i64 (1 + y), .int .i64 0, .int .i64 (1 + z), .int .i64 (-1), .bool false]) (by simp [results, Tryd.results13, go_sem]) rfl ⟨rfl, ?_⟩
  repeat (first | exact Below.refl _ _ | refine Below.setCell ?_ (by first | omega | (simp; done) | (simp; omega)) _ | refine Below.alloc ?_ (by first | omega | (simp; done) | (simp; omega)) _ | refine below_drewN' ?_ _ | refine Below.drew ?_)
/-- Does any of the first so many hold? -/
def anyN (f : Int → Bool) (x : Int) : Nat → Bool
  | 0 => false
  | m + 1 => anyN f x m || f (x + m)
theorem anyN_or (f g : Int → Bool) (x : Int) : ∀ m, anyN (fun k => f k || g k) x m = (anyN f x m || anyN g x m)
  | 0 => rfl
  | m + 1 => by
    simp only [anyN]
    rw [anyN_or f g x m]
    cases anyN f x m <;> cases anyN g x m <;> cases f (x + m) <;> cases g (x + m) <;> rfl
theorem anyN_false (x : Int) : ∀ m, anyN (fun _ => false) x m = false
  | 0 => rfl
  | m + 1 => by simp only [anyN]; rw [anyN_false x m]; rfl
theorem anyN_at {f : Int → Bool} {x : Int} : ∀ m, anyN f x m = true ↔ ∃ i : Nat, i < m ∧ f (x + i) = true
  | 0 => by simp [anyN]
  | m + 1 => by
    simp only [anyN, Bool.or_eq_true]
    rw [anyN_at m]
    constructor
    · rintro (⟨i, h, g⟩ | h)
      · exact ⟨i, by omega, g⟩
      · exact ⟨m, by omega, h⟩
    · rintro ⟨i, h, g⟩
      by_cases e : i = m
      · subst e; exact .inr g
      · exact .inl ⟨i, by omega, g⟩
def inB (a b k : Int) : Bool := decide (a ≤ k ∧ k < b)
theorem any_near (a b x : Int) : anyN (fun k => inB a b k) (x - 4) 9 = nrB a b x := by
  rw [Bool.eq_iff_iff, anyN_at]
  unfold inB nrB
  simp only [decide_eq_true_eq, Bool.and_eq_true]
  constructor
  · rintro ⟨i, h, g⟩
    omega
  · rintro ⟨⟨h1, h2⟩, h3⟩
    by_cases h : a ≤ x - 4
    · exact ⟨0, by omega, by omega, by omega⟩
    · exact ⟨(a - (x - 4)).toNat, by omega, by omega, by omega⟩
theorem driveF_pos (y b : Bool) : driveF y b ≠ 0 := by cases y <;> cases b <;> decide
theorem pulseF_pos (y : Bool) : pulseF y ≠ 0 := by cases y <;> decide
/-- Where words are sent. -/
theorem wd_at {k wo mn c p a b : Int} {y : Bool} {bs : List Bool} (hs : Snd k wo mn c a b) (hm : 1 ≤ mn) (hb : 8 * wo ≤ bs.length) : decide (wdF y bs (atN k wo mn c p) (atT k wo mn c p) ≠ 0) = inB a b p := by
  rw [Bool.eq_iff_iff]
  unfold inB
  simp only [decide_eq_true_eq]
  by_cases h : k = 0 ∧ 0 ≤ c ∧ c < mn ∧ 40 + 80 * c ≤ p ∧ (p - (40 + 80 * c)) / 160 < wo
  · obtain ⟨e1, e2⟩ := at_yes h
    rw [e1, e2]
    obtain ⟨q, hq⟩ : ∃ q : Nat, (p - (40 + 80 * c)) / 20 = q := ⟨((p - (40 + 80 * c)) / 20).toNat, by omega⟩
    rw [hq]
    have hl : q < bs.length := by omega
    rw [wdF_in (List.getElem?_eq_getElem hl)]
    rcases hs with ⟨h', rfl, rfl⟩ | ⟨h1, h2, h3, h4, rfl, rfl⟩
    · omega
    · exact ⟨fun _ => by omega, fun _ => driveF_pos _ _⟩
  · obtain ⟨e1, e2⟩ := at_no h
    rw [e1, wdF_out (.inl (by omega))]
    rcases hs with ⟨h', rfl, rfl⟩ | ⟨h1, h2, h3, h4, rfl, rfl⟩
    · exact ⟨fun h => absurd rfl h, fun h => by omega⟩
    · exact ⟨fun h => absurd rfl h, fun g => by omega⟩
theorem wd_near {k wo mn c p a b : Int} {y : Bool} {bs : List Bool} (hs : Snd k wo mn c a b) (h : wdF y bs (atN k wo mn c p) (atT k wo mn c p) ≠ 0) : a ≤ p ∧ p < b := by
  by_cases g : k = 0 ∧ 0 ≤ c ∧ c < mn ∧ 40 + 80 * c ≤ p ∧ (p - (40 + 80 * c)) / 160 < wo
  · rcases hs with ⟨h', rfl, rfl⟩ | ⟨h1, h2, h3, h4, rfl, rfl⟩
    · omega
    · omega
  · obtain ⟨e1, e2⟩ := at_no g
    rw [e1, wdF_out (.inl (by omega))] at h
    exact absurd rfl h
theorem pl_at {y : Bool} {a b p : Int} : decide (plF y a b p ≠ 0) = inB a b p := by
  unfold plF inB
  by_cases h : a ≤ p ∧ p < b
  · rw [if_pos h]; simp [h, pulseF_pos]
  · rw [if_neg h]; simp [h]
theorem or_ne {a b : Nat} : a ||| b ≠ 0 ↔ (a ≠ 0 ∨ b ≠ 0) := by
  rw [Ne, Nat.or_eq_zero_iff]; omega
theorem dr_at {k wo mn c p a b a' b' : Int} {sd pu y : Bool} {bs : List Bool} (hs : Snd k wo mn c a b) (hm : 1 ≤ mn) (hb : 8 * wo ≤ bs.length) : decide (drF sd pu y bs (atN k wo mn c p) (atT k wo mn c p) a' b' p ≠ 0) = ((sd && inB a b p) || (pu && inB a' b' p)) := by
  rw [← wd_at (y := y) (p := p) hs hm hb, ← pl_at (y := y)]
  unfold drF
  rw [Bool.eq_iff_iff]
  simp only [decide_eq_true_eq, or_ne, Bool.or_eq_true, Bool.and_eq_true]
  cases sd <;> cases pu <;> simp
theorem dr_any {k wo mn c x a b a' b' : Int} {sd pu y : Bool} {bs : List Bool} (hs : Snd k wo mn c a b) (hm : 1 ≤ mn) (hb : 8 * wo ≤ bs.length) : anyN (fun p => decide (drF sd pu y bs (atN k wo mn c p) (atT k wo mn c p) a' b' p ≠ 0)) (x - 4) 9 = opF sd pu a b a' b' x := by
  have e : (fun p => decide (drF sd pu y bs (atN k wo mn c p) (atT k wo mn c p) a' b' p ≠ 0)) = fun p => ((sd && inB a b p) || (pu && inB a' b' p)) := funext fun p => dr_at hs hm hb
  rw [e, anyN_or]
  unfold opF
  cases sd <;> cases pu <;> simp only [Bool.false_and, Bool.true_and, anyN_false, any_near]
/-- Who drives is let. -/
theorem dr_let {k wo mn c p q a b a' b' : Int} {sd pu y : Bool} {bs : List Bool} (hs : Snd k wo mn c a b) (h : drF sd pu y bs (atN k wo mn c p) (atT k wo mn c p) a' b' p ≠ 0) (h0 : p - 4 ≤ q) (h1 : q ≤ p + 4) : opF sd pu a b a' b' q = true := by
  unfold drF at h
  rw [or_ne] at h
  unfold opF
  rw [Bool.or_eq_true, Bool.and_eq_true, Bool.and_eq_true]
  unfold nrB
  simp only [Bool.and_eq_true, decide_eq_true_eq]
  rcases h with h | h
  · cases sd
    · simp at h
    · rw [if_pos rfl] at h
      have := wd_near hs h
      exact .inl ⟨rfl, by omega⟩
  · cases pu
    · simp at h
    · rw [if_pos rfl] at h
      unfold plF at h
      split at h
      · exact .inr ⟨rfl, by omega⟩
      · exact absurd rfl h
end Go.Proofs.YtnbcegijncdmaaaDoor.Ly18
