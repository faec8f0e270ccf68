/- The contracts of package serial's Words, Pulse and Look, and of package wires' Or at two lines; no condition but ints' bounds and the table of the lines. -/
import Derived.Test.YtnbcegijncdmaaaDoorSerA
import Derived.Test.YtnbcegijncdmaaaDoorWirV
import Derived.Test.YtnbcegijncdmaaaDoorWirO
import Derived.Test.YtnbcegijncdmaaaDoorWrdD
import Derived.Test.YtnbcegijncdmaaaDoorRegL
namespace Go.Proofs.YtnbcegijncdmaaaDoor.Ly14
open Go.ChangeShapes Go.WideShapes Go.ChangeAt Go.RowKit Base Ly7 Ly1 Ly3 Ly2
set_option linter.unusedVariables false
set_option linter.unusedSimpArgs false

theorem Kin.up {w w0 : World} (x : Kin w0) (h : Below w.heap.size w w0) : Below w.heap.size w x.world := h.trans (x.below.mono h.size)
theorem bel2 (w : World) (o o' : Obj) : Below w.heap.size w ((w.alloc o).alloc o') := ((Below.refl _ _).alloc (Nat.le_refl _) _).alloc (by simp) _
theorem bel3 (w : World) (o o' o'' : Obj) : Below w.heap.size w (((w.alloc o).alloc o').alloc o'') := (bel2 w o o').alloc (by simp; omega) _
theorem or2 (a b r : Nat) (ha : a < 256) (hb : b < 256) (hr : (a ||| b) &&& 15 = r) (w : World) (T : TypeId) :
    Calls Tryd.prog 15 #[.slice (some ⟨w.heap.size, 0, none⟩) 2 2] (w.alloc (.cells #[.int .u8 (a : Int), .int .u8 (b : Int)] T)) fun e w' => e = .returned (.int .u8 (r : Int)) ∧ (w.alloc (.cells #[.int .u8 (a : Int), .int .u8 (b : Int)] T)) = w' := by
  have h := or_any (some ⟨w.heap.size, 0, none⟩) 2 2 [a, b] (w.alloc (.cells #[.int .u8 (a : Int), .int .u8 (b : Int)] T)) (lst_row w T [.int .u8 (a : Int), .int .u8 (b : Int)]) (by intro x hx; simp at hx; omega) (by omega)
  have e : orL [a, b] = a ||| b := by simp [orL]
  rw [e, hr] at h
  exact h
/-- What a side drives of words' bits. -/
def wdF (y : Bool) (bs : List Bool) (n t : Int) : Nat := if n < 0 then 0 else match bs[n.toNat]? with | some b => driveF y (lvl b t) | none => 0
theorem driveF_lt (y b : Bool) : driveF y b < 16 := by cases y <;> cases b <;> decide
theorem wdF_lt (y : Bool) (bs : List Bool) (n t : Int) : wdF y bs n t < 16 := by
  unfold wdF
  split
  · omega
  · split
    · exact driveF_lt _ _
    · omega
theorem wdF_out {y : Bool} {bs : List Bool} {n t : Int} (h : n < 0 ∨ (bs.length : Int) ≤ n) : wdF y bs n t = 0 := by
  unfold wdF
  split
  · rfl
  · rw [List.getElem?_eq_none (by omega)]
theorem wdF_in {y : Bool} {bs : List Bool} {n : Nat} {t : Int} {b : Bool} (h : bs[n]? = some b) : wdF y bs n t = driveF y (lvl b t) := by
  unfold wdF
  rw [if_neg (by omega), Int.toNat_natCast, h]
set_option maxHeartbeats 1000000 in
theorem words_any (k s l wo ad mn cn : Int) (tk : Bool) (c p : Int) (y : Bool) (A : Option Addr) (N cc : Nat) (vs : List Nat) (r : Nat) (w : World) (c0 : -9223372036854775808 ≤ c) (c1 : c < 1099511627776) (m0 : -9223372036854775808 ≤ mn) (m1 : mn ≤ 9223372036854775807) (p0 : -9223372036854775808 ≤ p) (p1 : p ≤ 9223372036854775807)
    (hl : Lst w A N (vs.map fun (x : Nat) => Value.int .u8 x)) (hx : ∀ x ∈ vs, x < 256) (hN : N ≤ 9223372036854775807) (hU : Up w) (hr : wdF y (bitsOf vs) (atN k wo mn c p) (atT k wo mn c p) = r) :
    Calls Tryd.prog 16 #[.agg #[.int .i64 k, .int .i64 s, .int .i64 l, .int .i64 wo, .int .i64 ad, .int .i64 mn, .int .i64 cn, .bool tk], .int .i64 c, .slice A N cc, .bool y, .int .i64 p] w fun e w' => e = .returned (.int .u8 (r : Int)) ∧ Below w.heap.size w w' := by
  have HL := Lib.hid hl
  have HU := Lib.hid hU
  have hbl : vs.length = N := by have := hl.1; simpa using this
  have HBL : Hid ((bitsOf vs).length = 8 * N) := Lib.hid (by rw [bitsOf_len, hbl])
  have HX := Lib.hid hx
  have HA := Lib.hid (fun W => at_any k s l wo ad mn cn tk c p W c0 c1 m0 m1 p0 p1)
  have hbd := at_bd (k := k) (wo := wo) (mn := mn) (c := c) (p := p)
  obtain ⟨n, HN⟩ : ∃ n, Hid (atN k wo mn c p = n) := ⟨_, Lib.hid rfl⟩
  obtain ⟨t, HT⟩ : ∃ t, Hid (atT k wo mn c p = t) := ⟨_, Lib.hid rfl⟩
  rw [HN.out, HT.out] at HA hr hbd
  have hn1 : n ≤ 9223372036854775807 := by
    have := HN.out
    unfold atN at this
    split at this <;> omega
  obtain ⟨bd0, bd1, bd2, -⟩ := hbd
  have HR := Lib.hid hr
  clear hl hU hbl hx hr
  obtain ⟨K0, K1, K2, K3, K4, K5, K6, K7⟩ := box8 k s l wo ad mn cn tk w 25
  go_enter Tryd.func16, Tryd.ntmps16
  go_wp2_with fail
  refine (HA.out _).mono ?_
  rintro e w1 ⟨rfl, hb1⟩
  obtain ⟨x, rfl⟩ := Kin.ex hb1
  go_wp2_with fail
  by_cases ho : n < 0 ∨ 8 * (N : Int) ≤ n
  · have HR0 : Hid (r = 0) := Lib.hid (by rw [← HR.out]; exact wdF_out (by rw [HBL.out]; omega))
    refine (bit_out A N cc n _ hN (by omega) hn1 ho).mono ?_
    rintro e w2 ⟨rfl, hb2⟩
    clear ho
    go_wp2
    go_ret
    exact ⟨by rw [HR0.out]; rfl, x.end1.trans (hb2.mono x.end1.size)⟩
  · obtain ⟨m, rfl⟩ : ∃ m : Nat, n = m := ⟨n.toNat, by omega⟩
    have hm : m < 8 * N := by omega
    have hml : m < (bitsOf vs).length := by rw [HBL.out]; exact hm
    obtain ⟨u, hu⟩ : ∃ u, (bitsOf vs)[m]? = some u := ⟨_, List.getElem?_eq_getElem hml⟩
    have HRD : Hid (driveF y (lvl u t) = r) := Lib.hid (by rw [← HR.out]; exact (wdF_in hu).symm)
    refine (bit_in A N cc vs m u _ (HL.out.kept x.end1) HX.out hN hm hu (by omega)).mono ?_
    rintro e w2 ⟨rfl, hb2⟩
    have HB2 := Lib.hid (x.end1.trans (hb2.mono x.end1.size))
    clear ho hu hml hb2
    go_wp2_with fail
    refine (level_any u t _).mono ?_
    rintro e w' ⟨rfl, rfl⟩
    go_wp2_with fail
    refine (drive_any y _ _ (HU.out.kept HB2.out)).mono ?_
    rintro e w' ⟨rfl, rfl⟩
    go_wp2
    go_ret
    exact ⟨by rw [HRD.out]; rfl, HB2.out⟩
theorem box8p (k s l wo ad mn cn : Int) (tk : Bool) (w : World) (t : TypeId) (u : Value) (t' : TypeId) : ∀ x : Kin ((w.alloc (.cells #[.int .i64 k, .int .i64 s, .int .i64 l, .int .i64 wo, .int .i64 ad, .int .i64 mn, .int .i64 cn, .bool tk] t)).alloc (.cells #[u] t')), x.world.cell? ⟨w.heap.size + 1, 0, none⟩ = some u := fun x => by
  have := Kin.box (Below.refl _ _) x 0
  rwa [show (w.alloc (.cells #[.int .i64 k, .int .i64 s, .int .i64 l, .int .i64 wo, .int .i64 ad, .int .i64 mn, .int .i64 cn, .bool tk] t)).heap.size = w.heap.size + 1 by simp] at this
theorem pls_pulse (a b p : Int) : ∃ r : Bool, (decide (a ≤ p) && decide (p < b)) = r := ⟨_, rfl⟩
theorem within_any (a b p : Int) (g : Nat) (w : World) (h : w.cell? ⟨g, 0, none⟩ = some (.int .i64 p)) : Calls Tryd.prog 65 #[.int .i64 a, .int .i64 b, .pointer (some ⟨g, 0, none⟩)] w fun e w' => e = .returned (.bool (decide (a ≤ p) && decide (p < b))) ∧ w = w' := by
  by_cases h1 : a ≤ p
  · have h1' : decide (a ≤ p) = true := decide_eq_true h1
    rw [h1']
    clear h1'
    go_enter Tryd.func65, Tryd.ntmps65
    go_wp2
    go_ret
    exact ⟨by simp, rfl⟩
  · have h1' : decide (a ≤ p) = false := decide_eq_false h1
    rw [h1']
    go_enter Tryd.func65, Tryd.ntmps65
    go_wp2
    go_ret
    exact ⟨by simp, rfl⟩
/-- What a side drives of the pulse. -/
def plF (y : Bool) (a b p : Int) : Nat := if a ≤ p ∧ p < b then pulseF y else 0
theorem plF_lt (y : Bool) (a b p : Int) : plF y a b p < 16 := by unfold plF; split <;> cases y <;> decide
set_option maxHeartbeats 1000000 in
theorem spulse_any (k s l wo ad mn cn : Int) (tk : Bool) (a b p : Int) (y : Bool) (r : Nat) (w : World) (l0 : 0 ≤ l) (l1 : l ≤ 1048575) (h : Pls k l a b) (hr : plF y a b p = r) :
    Calls Tryd.prog 17 #[.agg #[.int .i64 k, .int .i64 s, .int .i64 l, .int .i64 wo, .int .i64 ad, .int .i64 mn, .int .i64 cn, .bool tk], .bool y, .int .i64 p] w fun e w' => e = .returned (.int .u8 (r : Int)) ∧ Below w.heap.size w w' := by
  have HP := Lib.hid (fun W => pulse_any k s l wo ad mn cn a b tk W l0 l1 h)
  have HY := Lib.hid (fun W => Ly3.pulse_any y W)
  have HR := Lib.hid hr
  clear h hr
  have hb8 := box8p k s l wo ad mn cn tk w 25 (.int .i64 p) 3
  go_enter Tryd.func17, Tryd.ntmps17
  go_wp2_with fail
  refine (HP.out _).mono ?_
  rintro e w1 ⟨rfl, hb1⟩
  obtain ⟨x, rfl⟩ := Kin.ex hb1
  have HE := Lib.hid (Kin.up x (bel2 w _ _))
  go_wp2_with fail
  refine (within_any a b p _ _ (hb8 x)).mono ?_
  rintro e w' ⟨rfl, rfl⟩
  clear hb8 hb1
  by_cases h : a ≤ p ∧ p < b
  · have HV : Hid (pulseF y = r) := Lib.hid (by rw [← HR.out]; exact (if_pos h).symm)
    have hd : (decide (a ≤ p) && decide (p < b)) = true := by simp [h]
    rw [hd]
    clear hd h
    go_wp2_with fail
    refine (HY.out _).mono ?_
    rintro e w' ⟨rfl, rfl⟩
    go_wp2
    go_ret
    exact ⟨by rw [HV.out]; rfl, HE.out⟩
  · have HV : Hid (r = 0) := Lib.hid (by rw [← HR.out]; exact if_neg h)
    have hd : (decide (a ≤ p) && decide (p < b)) = false := by simp; omega
    rw [hd]
    clear hd h
    go_wp2
    go_ret
    exact ⟨by rw [HV.out]; rfl, HE.out⟩
end Go.Proofs.YtnbcegijncdmaaaDoor.Ly14
