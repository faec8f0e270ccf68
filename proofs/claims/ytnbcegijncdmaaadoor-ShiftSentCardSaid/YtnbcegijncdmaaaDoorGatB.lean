/- The contracts of package gate's Opens, Drives and Alone; no condition but ints' bounds, no more than 1000 words, and the table of the lines. -/
import Derived.Test.YtnbcegijncdmaaaDoorGatA
namespace Go.Proofs.YtnbcegijncdmaaaDoor.Ly18
open Go.ChangeShapes Go.WideShapes Go.ChangeAt Go.RowKit Base Ly7 Ly1 Ly3 Ly2 Ly14
set_option linter.unusedVariables false
set_option linter.unusedSimpArgs false

theorem alloc_size (w : World) (o : Obj) : (w.alloc o).heap.size = w.heap.size + 1 := by simp
theorem three (k s l wo ad mn cn : Int) (tk : Bool) (sd pu : Bool) (A : Option Addr) (N cc : Nat) (c : Int) (v : Value) (w : World) (T T' T'' : TypeId) : ∃ W, W = ((w.alloc (.cells #[.int .i64 k, .int .i64 s, .int .i64 l, .int .i64 wo, .int .i64 ad, .int .i64 mn, .int .i64 cn, .bool tk] T)).alloc (.cells #[.bool sd, .int .i64 c, .slice A N cc, .bool pu] T')).alloc (.cells #[v] T'') ∧ Obj1 W w.heap.size T #[.int .i64 k, .int .i64 s, .int .i64 l, .int .i64 wo, .int .i64 ad, .int .i64 mn, .int .i64 cn, .bool tk] ∧ Obj1 W (w.heap.size + 1) T' #[.bool sd, .int .i64 c, .slice A N cc, .bool pu] ∧ Obj1 W (w.heap.size + 1 + 1) T'' #[v] ∧ Below w.heap.size w W := by
  refine ⟨_, rfl, ((Obj1.new w T _).alloc _).alloc _, ?_, ?_, bel3 w _ _ _⟩
  · have := (Obj1.new (w.alloc (.cells #[.int .i64 k, .int .i64 s, .int .i64 l, .int .i64 wo, .int .i64 ad, .int .i64 mn, .int .i64 cn, .bool tk] T)) T' #[.bool sd, .int .i64 c, .slice A N cc, .bool pu]).alloc (.cells #[v] T'')
    rwa [alloc_size] at this
  · have := Obj1.new ((w.alloc (.cells #[.int .i64 k, .int .i64 s, .int .i64 l, .int .i64 wo, .int .i64 ad, .int .i64 mn, .int .i64 cn, .bool tk] T)).alloc (.cells #[.bool sd, .int .i64 c, .slice A N cc, .bool pu] T')) T'' #[v]
    rwa [alloc_size, alloc_size] at this
theorem two (k s l wo ad mn cn : Int) (tk : Bool) (sd pu : Bool) (A : Option Addr) (N cc : Nat) (c : Int) (w : World) (T T' : TypeId) : ∃ W, W = (w.alloc (.cells #[.int .i64 k, .int .i64 s, .int .i64 l, .int .i64 wo, .int .i64 ad, .int .i64 mn, .int .i64 cn, .bool tk] T)).alloc (.cells #[.bool sd, .int .i64 c, .slice A N cc, .bool pu] T') ∧ Obj1 W w.heap.size T #[.int .i64 k, .int .i64 s, .int .i64 l, .int .i64 wo, .int .i64 ad, .int .i64 mn, .int .i64 cn, .bool tk] ∧ Obj1 W (w.heap.size + 1) T' #[.bool sd, .int .i64 c, .slice A N cc, .bool pu] ∧ Below w.heap.size w W := by
  refine ⟨_, rfl, (Obj1.new w T _).alloc _, ?_, bel2 w _ _⟩
  have := Obj1.new (w.alloc (.cells #[.int .i64 k, .int .i64 s, .int .i64 l, .int .i64 wo, .int .i64 ad, .int .i64 mn, .int .i64 cn, .bool tk] T)) T' #[.bool sd, .int .i64 c, .slice A N cc, .bool pu]
  rwa [alloc_size] at this
set_option maxRecDepth 100000 in
set_option maxHeartbeats 4000000 in
theorem opens_any (k s l wo ad mn cn : Int) (tk : Bool) (sd pu : Bool) (A : Option Addr) (N cc : Nat) (c p a b a' b' : Int) (u u' : Bool) (w : World) (c0 : -9223372036854775808 ≤ c) (c1 : c < 1099511627776) (m0 : -9223372036854775808 ≤ mn) (m1 : mn ≤ 9223372036854775807) (hwo : wo ≤ 1000) (l0 : 0 ≤ l) (l1 : l ≤ 1048575) (p0 : -4611686018427387904 ≤ p) (p1 : p ≤ 4611686018427387904)
    (hs : Snd k wo mn c a b) (hp : Pls k l a' b') (hu : nrB a b p = u) (hu' : nrB a' b' p = u') :
    Calls Tryd.prog 50 #[.agg #[.int .i64 k, .int .i64 s, .int .i64 l, .int .i64 wo, .int .i64 ad, .int .i64 mn, .int .i64 cn, .bool tk], .agg #[.bool sd, .int .i64 c, .slice A N cc, .bool pu], .int .i64 p] w fun e w' => e = .returned (.bool ((sd && u) || (pu && u'))) ∧ Below w.heap.size w w' := by
  have HS := Lib.hid (fun W => sending_any k s l wo ad mn cn tk c a b W c0 c1 m0 m1 hwo hs)
  have HP := Lib.hid (fun W => pulse_any k s l wo ad mn cn a' b' tk W l0 l1 hp)
  have HN := Lib.hid (fun g W h => near_any a b p g W p0 p1 h)
  have HN' := Lib.hid (fun g W h => near_any a' b' p g W p0 p1 h)
  rw [hu] at HN
  rw [hu'] at HN'
  clear hu hu' hs hp
  have c8 : -9223372036854775804 ≤ p := by omega
  have c9 : p ≤ 9223372036854775803 := by omega
  obtain ⟨W1, HW1, HO8, HO4, HO1, HB⟩ := three k s l wo ad mn cn tk sd pu A N cc c (.int .i64 p) w 25 72 3
  have HBB := Lib.hid HB
  have KP := o1 HO1
  obtain ⟨K0, K1, K2, K3, K4, K5, K6, K7⟩ := o8 k s l wo ad mn cn tk HO8
  obtain ⟨R0, R1, R2, R3⟩ := o4 sd pu A N cc c HO4
  have HK := Lib.hid (show ∀ x : Kin W1, x.world.cell? ⟨w.heap.size + 1 + 1, 0, none⟩ = some (.int .i64 p) from KP)
  clear HB HO8 HO4 HO1
  go_enter Tryd.func50, Tryd.ntmps50
  go_upto_region 3 with (fail)
  rw [← HW1]
  clear HW1 c8 c9
  obtain ⟨x0, hx0⟩ : ∃ x0 : Kin W1, x0.world = W1 := ⟨Kin.me _, rfl⟩
  rw [← hx0]
  clear hx0
  have HE := Lib.hid (fun x : Kin W1 => Kin.up x HBB.out)
  cases sd
  · cases pu
    · go_wp2
      go_ret
      exact ⟨by simp, HE.out _⟩
    · go_wp2_with fail
      refine (Calls.kin _ (HP.out _)).mono ?_
      rintro e w' ⟨rfl, x2, rfl⟩
      go_wp2_with fail
      refine (HN'.out _ _ (HK.out x2)).mono ?_
      rintro e w' ⟨rfl, rfl⟩
      go_wp2
      go_ret
      exact ⟨by simp, HE.out _⟩
  · go_wp2_with fail
    refine (Calls.kin _ (HS.out _)).mono ?_
    rintro e w' ⟨rfl, x2, rfl⟩
    go_wp2_with fail
    refine (HN.out _ _ (HK.out x2)).mono ?_
    rintro e w' ⟨rfl, rfl⟩
    cases u
    · cases pu
      · go_wp2
        go_ret
        exact ⟨by simp, HE.out _⟩
      · go_wp2_with fail
        refine (Calls.kin _ (HP.out _)).mono ?_
        rintro e w' ⟨rfl, x3, rfl⟩
        go_wp2_with fail
        refine (HN'.out _ _ (HK.out x3)).mono ?_
        rintro e w' ⟨rfl, rfl⟩
        go_wp2
        go_ret
        exact ⟨by simp, HE.out _⟩
    · go_wp2
      go_ret
      exact ⟨by simp, HE.out _⟩
/-- What a side drives, in a role. -/
def drF (sd pu y : Bool) (bs : List Bool) (n t a b p : Int) : Nat := (if sd then wdF y bs n t else 0) ||| (if pu then plF y a b p else 0)
theorem drF_lt {sd pu y : Bool} {bs : List Bool} {n t a b p : Int} : drF sd pu y bs n t a b p < 16 := by
  unfold drF
  refine Nat.or_lt_two_pow (n := 4) ?_ ?_
  · split
    · exact wdF_lt _ _ _ _
    · omega
  · split
    · exact plF_lt _ _ _ _
    · omega
theorem and15 {n : Nat} (h : n < 16) : n &&& 15 = n := by
  have := Nat.and_two_pow_sub_one_eq_mod n 4
  simp at this
  rw [this]
  omega
theorem orr {a b r : Nat} (h : a ||| b = r) (hr : r < 16) : (a ||| b) &&& 15 = r := by rw [h]; exact and15 hr
set_option maxRecDepth 100000 in
set_option maxHeartbeats 4000000 in
theorem drives_any (k s l wo ad mn cn : Int) (tk : Bool) (sd pu : Bool) (A : Option Addr) (N cc : Nat) (c p a b : Int) (y : Bool) (vs : List Nat) (r : Nat) (w : World) (c0 : -9223372036854775808 ≤ c) (c1 : c < 1099511627776) (m0 : -9223372036854775808 ≤ mn) (m1 : mn ≤ 9223372036854775807) (p0 : -9223372036854775808 ≤ p) (p1 : p ≤ 9223372036854775807) (l0 : 0 ≤ l) (l1 : l ≤ 1048575)
    (hl : Lst w A N (vs.map fun (x : Nat) => Value.int .u8 x)) (hx : ∀ x ∈ vs, x < 256) (hN : N ≤ 9223372036854775807) (hU : Up w) (hp : Pls k l a b) (hr : drF sd pu y (bitsOf vs) (atN k wo mn c p) (atT k wo mn c p) a b p = r) :
    Calls Tryd.prog 49 #[.agg #[.int .i64 k, .int .i64 s, .int .i64 l, .int .i64 wo, .int .i64 ad, .int .i64 mn, .int .i64 cn, .bool tk], .agg #[.bool sd, .int .i64 c, .slice A N cc, .bool pu], .bool y, .int .i64 p] w fun e w' => e = .returned (.int .u8 (r : Int)) ∧ Below w.heap.size w w' := by
  obtain ⟨W1, HW1, HO8, HO4, HB⟩ := two k s l wo ad mn cn tk sd pu A N cc c w 25 72
  obtain ⟨u, HUD⟩ : ∃ u, Hid (wdF y (bitsOf vs) (atN k wo mn c p) (atT k wo mn c p) = u) := ⟨_, Lib.hid rfl⟩
  obtain ⟨v, HVD⟩ : ∃ v, Hid (plF y a b p = v) := ⟨_, Lib.hid rfl⟩
  have hu16 : u < 16 := by rw [← HUD.out]; exact wdF_lt _ _ _ _
  have hv16 : v < 16 := by rw [← HVD.out]; exact plF_lt _ _ _ _
  have hr16 : r < 16 := by rw [← hr]; exact drF_lt
  have HR : Hid ((if sd then u else 0) ||| (if pu then v else 0) = r) := Lib.hid (by rw [← hr, ← HUD.out, ← HVD.out]; rfl)
  have HWD := Lib.hid (fun x : Kin W1 => words_any k s l wo ad mn cn tk c p y A N cc vs u x.world c0 c1 m0 m1 p0 p1 (hl.kept (Kin.up x HB)) hx hN (hU.kept (Kin.up x HB)) HUD.out)
  have HPL := Lib.hid (fun W => spulse_any k s l wo ad mn cn tk a b p y v W l0 l1 hp HVD.out)
  obtain ⟨K0, K1, K2, K3, K4, K5, K6, K7⟩ := o8 k s l wo ad mn cn tk HO8
  obtain ⟨R0, R1, R2, R3⟩ := o4 sd pu A N cc c HO4
  have HE := Lib.hid (fun x : Kin W1 => Kin.up x HB)
  clear hl hx hU hp hr HUD HVD HB HO8 HO4
  go_enter Tryd.func49, Tryd.ntmps49
  go_upto_region 1 with (fail)
  rw [← HW1]
  clear HW1
  obtain ⟨x0, hx0⟩ : ∃ x0 : Kin W1, x0.world = W1 := ⟨Kin.me _, rfl⟩
  rw [← hx0]
  clear hx0
  cases sd
  · cases pu
    · go_wp2_with fail
      refine (or2 0 0 r (by omega) (by omega) (orr HR.out hr16) _ _).mono ?_
      rintro e w' ⟨rfl, rfl⟩
      go_wp2
      go_ret
      exact ⟨rfl, ((HE.out _).alloc (HE.out _).size _)⟩
    · go_wp2_with fail
      refine (Calls.kin _ (HPL.out _)).mono ?_
      rintro e w' ⟨rfl, x2, rfl⟩
      go_wp2_with fail
      refine (or2 0 v r (by omega) (by omega) (orr HR.out hr16) _ _).mono ?_
      rintro e w' ⟨rfl, rfl⟩
      go_wp2
      go_ret
      exact ⟨rfl, ((HE.out _).alloc (HE.out _).size _)⟩
  · go_wp2_with fail
    refine (Calls.kin _ (HWD.out _)).mono ?_
    rintro e w' ⟨rfl, x2, rfl⟩
    cases pu
    · go_wp2_with fail
      refine (or2 u 0 r (by omega) (by omega) (orr HR.out hr16) _ _).mono ?_
      rintro e w' ⟨rfl, rfl⟩
      go_wp2
      go_ret
      exact ⟨rfl, ((HE.out _).alloc (HE.out _).size _)⟩
    · go_wp2_with fail
      refine (Calls.kin _ (HPL.out _)).mono ?_
      rintro e w' ⟨rfl, x3, rfl⟩
      go_wp2_with fail
      refine (or2 u v r (by omega) (by omega) (orr HR.out hr16) _ _).mono ?_
      rintro e w' ⟨rfl, rfl⟩
      go_wp2
      go_ret
      exact ⟨rfl, ((HE.out _).alloc (HE.out _).size _)⟩
end Go.Proofs.YtnbcegijncdmaaaDoor.Ly18
