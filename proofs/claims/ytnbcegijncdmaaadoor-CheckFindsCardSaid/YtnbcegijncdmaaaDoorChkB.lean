/- The contracts of package check's functions, and of the documents' that the statements of layer 19 ask; no condition but ints' bounds, no more than 1000 words, and the table of the lines. -/
import Derived.RegionTactic
import Derived.Test.YtnbcegijncdmaaaDoorGatB
namespace Go.Proofs.YtnbcegijncdmaaaDoor.Ly19
open Go.ChangeShapes Go.WideShapes Go.ChangeAt Go.RowKit Base Ly7 Ly1 Ly3 Ly2 Ly14 Ly18
set_option linter.unusedVariables false
set_option linter.unusedSimpArgs false

abbrev TC : TypeId := 123
/-- A check that was made. -/
def Ck (w : World) (g : Nat) (lk wr : Int) : Prop := Obj1 w g TC #[.bool true, .int .i64 lk, .int .i64 wr]
theorem cnew_any (w : World) : Calls Tryd.prog 53 #[] w fun e w' => e = .returned (.pointer (some ⟨w.heap.size, 0, none⟩)) ∧ Hid (Ck w' w.heap.size 0 0) ∧ Hid (Below w.heap.size w w') := by
  go_enter Tryd.func53, Tryd.ntmps53
  go_wp2
  go_ret
  exact ⟨rfl, Obj1.new _ _ _, bel_new _ _⟩
theorem clooks_any {w : World} {g : Nat} {lk wr : Int} (h : Ck w g lk wr) : Calls Tryd.prog 56 #[.pointer (some ⟨g, 0, none⟩)] w fun e w' => e = .returned (.int .i64 lk) ∧ w = w' := by
  have c1 := h.cell 1
  simp at c1
  go_enter Tryd.func56, Tryd.ntmps56
  go_wp2
  go_ret
  exact ⟨rfl, rfl⟩
theorem cwrong_any {w : World} {g : Nat} {lk wr : Int} (h : Ck w g lk wr) : Calls Tryd.prog 57 #[.pointer (some ⟨g, 0, none⟩)] w fun e w' => e = .returned (.int .i64 wr) ∧ w = w' := by
  have c1 := h.cell 2
  simp at c1
  go_enter Tryd.func57, Tryd.ntmps57
  go_wp2
  go_ret
  exact ⟨rfl, rfl⟩
theorem cbad_any {w : World} {g : Nat} {lk wr : Int} (b : Bool) (hb : decide (0 < wr) = b) (h : Ck w g lk wr) : Calls Tryd.prog 58 #[.pointer (some ⟨g, 0, none⟩)] w fun e w' => e = .returned (.bool b) ∧ w = w' := by
  have HW := Lib.hid (cwrong_any h)
  go_enter Tryd.func58, Tryd.ntmps58
  go_wp2_with fail
  refine HW.out.mono ?_
  rintro e w' ⟨rfl, rfl⟩
  go_wp2
  go_ret
  exact ⟨by simp [hb], rfl⟩
set_option maxHeartbeats 1000000 in
theorem cclear_any {w : World} {g : Nat} {lk wr : Int} (h : Ck w g lk wr) : Calls Tryd.prog 59 #[.pointer (some ⟨g, 0, none⟩)] w fun e w' => e = .returned (.tuple #[]) ∧ Hid (Ck w' g 0 0) ∧ Hid (Wrote g w w') := by
  have c1 := h.cell 1
  have c2 := h.cell 2
  have f1 := h.free 1
  have f2 := h.free 2
  simp at c1 c2
  have hlt := h.lt
  have H := Lib.hid h
  clear h
  go_enter Tryd.func59, Tryd.ntmps59
  go_wp2
  go_end0
  exact ⟨rfl, (H.out.set 1 _).set 2 _, ((Wrote.refl g w).set (.inl rfl) _).set (.inl rfl) _⟩
set_option maxHeartbeats 1000000 in
theorem clook_any {w : World} {g : Nat} {lk wr : Int} (r : Bool) (h : Ck w g lk wr) (l0 : 0 ≤ lk) (l1 : lk ≤ 1000000) (r0 : 0 ≤ wr) (r1 : wr ≤ 1000000) : Calls Tryd.prog 87 #[.pointer (some ⟨g, 1, none⟩), .bool r] w fun e w' => e = .returned (.tuple #[]) ∧ Hid (Ck w' g (lk + 1) (if r then wr else wr + 1)) ∧ Hid (Wrote g w w') := by
  have c1 := h.cell 1
  have c2 := h.cell 2
  have f1 := h.free 1
  have f2 := h.free 2
  simp at c1 c2
  have hlt := h.lt
  have H := Lib.hid h
  have w1 : IntKind.i64.wrap (lk + 1) = lk + 1 := IntWalk.i64_in _ (by omega)
  have w2 : IntKind.i64.wrap (wr + 1) = wr + 1 := IntWalk.i64_in _ (by omega)
  clear h
  cases r
  · go_enter Tryd.func87, Tryd.ntmps87
    go_wp2
    go_end0
    exact ⟨rfl, (H.out.set 1 _).set 2 _, ((Wrote.refl g w).set (.inl rfl) _).set (.inl rfl) _⟩
  · go_enter Tryd.func87, Tryd.ntmps87
    go_wp2
    go_end0
    exact ⟨rfl, H.out.set 1 _, (Wrote.refl g w).set (.inl rfl) _⟩
/-- Does the partner drive what it should? -/
def okB (y : Bool) (L u : Nat) : Bool := ((L &&& pulseF y) == u) && ((L &&& pulseF (!y)) == 0)
theorem ok_at : ∀ L : Fin 256, ∀ y b : Bool, okB y L.1 (driveF y b) = (L.1 % 16 == driveF y b) := by decide +kernel
theorem ok_zero : ∀ L : Fin 256, ∀ y : Bool, okB y L.1 0 = (L.1 % 16 == 0) := by decide +kernel
theorem nat_eq (a b : Nat) : ((a : Int) == (b : Int)) = (a == b) := by
  rw [Bool.eq_iff_iff]; simp; omega
set_option maxRecDepth 100000 in
set_option maxHeartbeats 4000000 in
theorem csee_off (k s l wo ad mn cn : Int) (tk : Bool) (sd pu : Bool) (A : Option Addr) (N cc : Nat) (c p : Int) (y : Bool) (L : Nat) {w : World} {g : Nat} {lk wr : Int} (h : Ck w g lk wr) (hs : sd = false) :
    Calls Tryd.prog 54 #[.pointer (some ⟨g, 0, none⟩), .agg #[.int .i64 k, .int .i64 s, .int .i64 l, .int .i64 wo, .int .i64 ad, .int .i64 mn, .int .i64 cn, .bool tk], .agg #[.bool sd, .int .i64 c, .slice A N cc, .bool pu], .bool y, .int .i64 p, .int .u8 L] w fun e w' => e = .returned (.tuple #[]) ∧ Hid (Ck w' g lk wr) ∧ Hid (Wrote g w w') := by
  subst hs
  have HO := Lib.hid h
  have hlt := h.lt
  have c0 := h.cell 0
  simp at c0
  clear h
  go_enter Tryd.func54, Tryd.ntmps54
  go_wp2
  first | go_end0 | refine bodyPost_ret (results_none rfl _ _ _) rfl ?_
  exact ⟨rfl, (HO.out.alloc _).alloc _, Wrote.of_below (bel2 w _ _)⟩
set_option maxRecDepth 100000 in
set_option maxHeartbeats 4000000 in
theorem csee_no (k s l wo ad mn cn : Int) (tk : Bool) (sd pu : Bool) (A : Option Addr) (N cc : Nat) (c p m : Int) (y y' : Bool) (L : Nat) {w : World} {g : Nat} {lk wr : Int} (h : Ck w g lk wr) (hs : sd = true) (c0 : -9223372036854775808 ≤ c) (c1 : c < 1099511627776) (m0 : -9223372036854775808 ≤ mn) (m1 : mn ≤ 9223372036854775807) (p0 : -9223372036854775808 ≤ p) (p1 : p ≤ 9223372036854775807) (hwo : wo ≤ 1000)
    (hk : LkR (atN k wo mn c p) (atT k wo mn c p) m y' false) :
    Calls Tryd.prog 54 #[.pointer (some ⟨g, 0, none⟩), .agg #[.int .i64 k, .int .i64 s, .int .i64 l, .int .i64 wo, .int .i64 ad, .int .i64 mn, .int .i64 cn, .bool tk], .agg #[.bool sd, .int .i64 c, .slice A N cc, .bool pu], .bool y, .int .i64 p, .int .u8 L] w fun e w' => e = .returned (.tuple #[]) ∧ Hid (Ck w' g lk wr) ∧ Hid (Wrote g w w') := by
  subst hs
  have HO := Lib.hid h
  have HLK := Lib.hid (fun W => slook_any k s l wo ad mn cn tk c p m y' false W c0 c1 m0 m1 p0 p1 hwo hk)
  obtain ⟨W1, HW1, HO8, HO4, HB⟩ := two k s l wo ad mn cn tk true pu A N cc c w 25 72
  obtain ⟨K0, K1, K2, K3, K4, K5, K6, K7⟩ := o8 k s l wo ad mn cn tk HO8
  obtain ⟨R0, R1, R2, R3⟩ := o4 true pu A N cc c HO4
  have HE := Lib.hid (fun x : Kin W1 => Kin.up x HB)
  have C0 : ∀ x : Kin W1, x.world.cell? ⟨g, 0, none⟩ = some (.bool true) := fun x => (h.kept (Kin.up x HB)).cell 0
  clear h hk HB HO8 HO4
  go_enter Tryd.func54, Tryd.ntmps54
  go_upto_region 1 with (fail)
  rw [← HW1]
  clear HW1
  obtain ⟨x0, hx0⟩ : ∃ x0 : Kin W1, x0.world = W1 := ⟨Kin.me _, rfl⟩
  rw [← hx0]
  clear hx0
  go_wp2_with fail
  refine (Calls.kin _ (HLK.out _)).mono ?_
  rintro e w' ⟨rfl, x2, rfl⟩
  go_wp2
  first | go_end0 | refine bodyPost_ret (results_none rfl _ _ _) rfl ?_
  exact ⟨rfl, HO.out.kept (HE.out _), Wrote.of_below (HE.out _)⟩
set_option maxRecDepth 100000 in
set_option maxHeartbeats 8000000 in
theorem csee_yes (k s l wo ad mn cn : Int) (tk : Bool) (sd pu : Bool) (A : Option Addr) (N cc : Nat) (c p m : Int) (y y' : Bool) (L : Nat) (vs : List Nat) {w : World} {g : Nat} {lk wr : Int} (h : Ck w g lk wr) (hs : sd = true) (c0 : -9223372036854775808 ≤ c) (c1 : c < 1099511627776) (m0 : -9223372036854775808 ≤ mn) (m1 : mn ≤ 9223372036854775807) (p0 : -9223372036854775808 ≤ p) (p1 : p ≤ 9223372036854775807) (hwo : wo ≤ 1000)
    (hk : LkR (atN k wo mn c p) (atT k wo mn c p) m y' true) (hl : Lst w A N (vs.map fun (x : Nat) => Value.int .u8 x)) (hx : ∀ x ∈ vs, x < 256) (hN : N ≤ 9223372036854775807) (hU : Up w) (hL : L < 256) (l0 : 0 ≤ lk) (l1 : lk ≤ 1000000) (r0 : 0 ≤ wr) (r1 : wr ≤ 1000000) (r : Bool)
    (hr : okB y L (wdF y (bitsOf vs) (atN k wo mn c p) (atT k wo mn c p)) = r) :
    Calls Tryd.prog 54 #[.pointer (some ⟨g, 0, none⟩), .agg #[.int .i64 k, .int .i64 s, .int .i64 l, .int .i64 wo, .int .i64 ad, .int .i64 mn, .int .i64 cn, .bool tk], .agg #[.bool sd, .int .i64 c, .slice A N cc, .bool pu], .bool y, .int .i64 p, .int .u8 L] w fun e w' => e = .returned (.tuple #[]) ∧ Hid (Ck w' g (lk + 1) (if r then wr else wr + 1)) ∧ Hid (Wrote g w w') := by
  subst hs
  have HO := Lib.hid h
  have hlt := h.lt
  have HLK := Lib.hid (fun W => slook_any k s l wo ad mn cn tk c p m y' true W c0 c1 m0 m1 p0 p1 hwo hk)
  obtain ⟨W1, HW1, HO8, HO4, HB⟩ := two k s l wo ad mn cn tk true pu A N cc c w 25 72
  obtain ⟨K0, K1, K2, K3, K4, K5, K6, K7⟩ := o8 k s l wo ad mn cn tk HO8
  obtain ⟨R0, R1, R2, R3⟩ := o4 true pu A N cc c HO4
  have HE := Lib.hid (fun x : Kin W1 => Kin.up x HB)
  have C0 : ∀ x : Kin W1, x.world.cell? ⟨g, 0, none⟩ = some (.bool true) := fun x => (h.kept (Kin.up x HB)).cell 0
  obtain ⟨u, HUD⟩ : ∃ u, Hid (wdF y (bitsOf vs) (atN k wo mn c p) (atT k wo mn c p) = u) := ⟨_, Lib.hid rfl⟩
  rw [HUD.out] at hr
  have HWD := Lib.hid (fun x : Kin W1 => words_any k s l wo ad mn cn tk c p y A N cc vs u x.world c0 c1 m0 m1 p0 p1 (hl.kept (Kin.up x HB)) hx hN (hU.kept (Kin.up x HB)) HUD.out)
  have HSY := Lib.hid (fun W => side_any L y W hL)
  have HSN := Lib.hid (fun W => side_any L (!y) W hL)
  have HR := Lib.hid hr
  clear h hk HB HO8 HO4 hl hx hU hr HUD
  go_enter Tryd.func54, Tryd.ntmps54
  go_upto_region 1 with (fail)
  rw [← HW1]
  clear HW1
  obtain ⟨x0, hx0⟩ : ∃ x0 : Kin W1, x0.world = W1 := ⟨Kin.me _, rfl⟩
  rw [← hx0]
  clear hx0
  go_wp2_with fail
  refine (Calls.kin _ (HLK.out _)).mono ?_
  rintro e w' ⟨rfl, x2, rfl⟩
  go_wp2_with fail
  refine (Calls.kin _ (HWD.out _)).mono ?_
  rintro e w' ⟨rfl, x3, rfl⟩
  have HCK := Lib.hid (fun x : Kin x3.world.drew => clook_any r (show Ck x.world g lk wr from (HO.out.kept (HE.out x3)).kept ((bel_drew _).trans x.below)) l0 l1 r0 r1)
  clear K0 K1 K2 K3 K4 K5 K6 K7 R0 R1 R2 R3 C0
  obtain ⟨s1, HS1⟩ : ∃ s1, Hid ((L &&& pulseF y) = s1) := ⟨_, Lib.hid rfl⟩
  obtain ⟨s2, HS2⟩ : ∃ s2, Hid ((L &&& pulseF (!y)) = s2) := ⟨_, Lib.hid rfl⟩
  rw [HS1.out] at HSY
  rw [HS2.out] at HSN
  have hrr : ((s1 == u) && (s2 == 0)) = r := by rw [← HR.out, ← HS1.out, ← HS2.out]; rfl
  obtain ⟨b1, hb1⟩ : ∃ b1, (s1 == u) = b1 := ⟨_, rfl⟩
  obtain ⟨b2, hb2⟩ : ∃ b2, (s2 == 0) = b2 := ⟨_, rfl⟩
  have q1 : ((s1 : Int) == (u : Int)) = b1 := by rw [nat_eq]; exact hb1
  have q2 : ((s2 : Int) == 0) = b2 := by rw [← hb2]; exact nat_eq s2 0
  rw [hb1, hb2] at hrr
  clear hb1 hb2 HR HS1 HS2
  cases b1
  · obtain rfl : r = false := by rw [← hrr]; rfl
    clear hrr
    go_wp2_with fail
    refine wp_region_specL 15 [.d (.pointer (some ⟨g, 0, none⟩)), .d (.pointer (some ⟨g, 0, none⟩)), .d (.pointer (some ⟨g, 1, none⟩)), .d (.int .u8 L), .d (.bool y), .d (.int .u8 s1), .d (.int .u8 u), .d (.bool false), .d (.bool false), .d undef, .d undef, .d undef, .d undef, .d undef, .d (.bool false)] (by kernel_rfl) (by kernel_rfl) ?_
    refine spec_d rfl (fun x _ => gives_run (by go_simp)) ?_
    try simp only [Act.put, List.getElem_toArray, List.getElem_cons_succ, List.getElem_cons_zero, List.setIfInBounds_toArray, List.set_cons_zero, List.set_cons_succ]
    refine spec_d rfl (fun x _ => gives_run (by go_simp)) ?_
    try simp only [Act.put, List.getElem_toArray, List.getElem_cons_succ, List.getElem_cons_zero, List.setIfInBounds_toArray, List.set_cons_zero, List.set_cons_succ]
    refine spec_d rfl (fun x _ => gives_run (by go_simp)) ?_
    try simp only [Act.put, List.getElem_toArray, List.getElem_cons_succ, List.getElem_cons_zero, List.setIfInBounds_toArray, List.set_cons_zero, List.set_cons_succ]
    refine spec_d rfl (fun x _ => gives_run (by go_simp)) ?_
    try simp only [Act.put, List.getElem_toArray, List.getElem_cons_succ, List.getElem_cons_zero, List.setIfInBounds_toArray, List.set_cons_zero, List.set_cons_succ]
    refine spec_d rfl (fun x _ => gives_run (by go_simp)) ?_
    try simp only [Act.put, List.getElem_toArray, List.getElem_cons_succ, List.getElem_cons_zero, List.setIfInBounds_toArray, List.set_cons_zero, List.set_cons_succ]
    refine spec_d rfl (fun x _ => gives_det_same (by go_simp) (HSY.out x.world)) ?_
    try simp only [Act.put, List.getElem_toArray, List.getElem_cons_succ, List.getElem_cons_zero, List.setIfInBounds_toArray, List.set_cons_zero, List.set_cons_succ]
    refine spec_d rfl (fun x _ => gives_run (by go_simp)) ?_
    try simp only [Act.put, List.getElem_toArray, List.getElem_cons_succ, List.getElem_cons_zero, List.setIfInBounds_toArray, List.set_cons_zero, List.set_cons_succ]
    refine spec_d rfl (fun x _ => gives_run (by go_simp)) ?_
    try simp only [Act.put, List.getElem_toArray, List.getElem_cons_succ, List.getElem_cons_zero, List.setIfInBounds_toArray, List.set_cons_zero, List.set_cons_succ]
    refine spec_d rfl (fun x _ => gives_run (by go_simp)) ?_
    try simp only [Act.put, List.getElem_toArray, List.getElem_cons_succ, List.getElem_cons_zero, List.setIfInBounds_toArray, List.set_cons_zero, List.set_cons_succ]
    refine spec_skip rfl ?_
    try simp only [Act.put, List.getElem_toArray, List.getElem_cons_succ, List.getElem_cons_zero, List.setIfInBounds_toArray, List.set_cons_zero, List.set_cons_succ]
    refine spec_skip rfl ?_
    try simp only [Act.put, List.getElem_toArray, List.getElem_cons_succ, List.getElem_cons_zero, List.setIfInBounds_toArray, List.set_cons_zero, List.set_cons_succ]
    refine spec_skip rfl ?_
    try simp only [Act.put, List.getElem_toArray, List.getElem_cons_succ, List.getElem_cons_zero, List.setIfInBounds_toArray, List.set_cons_zero, List.set_cons_succ]
    refine spec_skip rfl ?_
    try simp only [Act.put, List.getElem_toArray, List.getElem_cons_succ, List.getElem_cons_zero, List.setIfInBounds_toArray, List.set_cons_zero, List.set_cons_succ]
    refine spec_skip rfl ?_
    try simp only [Act.put, List.getElem_toArray, List.getElem_cons_succ, List.getElem_cons_zero, List.setIfInBounds_toArray, List.set_cons_zero, List.set_cons_succ]
    refine spec_d rfl (fun x _ => gives_run (by go_simp)) ?_
    try simp only [Act.put, List.getElem_toArray, List.getElem_cons_succ, List.getElem_cons_zero, List.setIfInBounds_toArray, List.set_cons_zero, List.set_cons_succ]
    refine spec_end (fun x hx => ?_)
    clear hx
    change wpAny _ _ _ _ (0 + 1) _ _ _
    refine wpAny_ready (rs := [15]) (by kernel_rfl) (by simp) ?_
    refine AllReady.cons rfl (fun KK hK => ?_) AllReady.nil
    go_simp
    refine (HCK.out x).mono ?_
    rintro e wa ⟨rfl, HQ, HR⟩
    refine hK _ _ ?_
    clear hK KK
    try simp only [Act.put, List.getElem_toArray, List.getElem_cons_succ, List.getElem_cons_zero, List.setIfInBounds_toArray, List.set_cons_zero, List.set_cons_succ]
    refine wpAny_done (by kernel_rfl) ?_ _
    go_wp2
    go_end0
    exact ⟨rfl, HQ, Lib.hid ((Wrote.of_below ((HE.out x3).trans (((bel_drew _).trans x.below).mono (HE.out x3).size))).trans HR.out)⟩
  · obtain rfl : b2 = r := by rw [← hrr]; simp
    clear hrr
    go_wp2_with fail
    refine wp_region_specL 15 [.d (.pointer (some ⟨g, 0, none⟩)), .d (.pointer (some ⟨g, 0, none⟩)), .d (.pointer (some ⟨g, 1, none⟩)), .d (.int .u8 L), .d (.bool y), .d (.int .u8 s1), .d (.int .u8 u), .d (.bool true), .d (.bool true), .d (.int .u8 L), .d (.bool y), .d (.bool (!y)), .d (.int .u8 s2), .d (.bool b2), .d (.bool b2)] (by kernel_rfl) (by kernel_rfl) ?_
    refine spec_d rfl (fun x _ => gives_run (by go_simp)) ?_
    try simp only [Act.put, List.getElem_toArray, List.getElem_cons_succ, List.getElem_cons_zero, List.setIfInBounds_toArray, List.set_cons_zero, List.set_cons_succ]
    refine spec_d rfl (fun x _ => gives_run (by go_simp)) ?_
    try simp only [Act.put, List.getElem_toArray, List.getElem_cons_succ, List.getElem_cons_zero, List.setIfInBounds_toArray, List.set_cons_zero, List.set_cons_succ]
    refine spec_d rfl (fun x _ => gives_run (by go_simp)) ?_
    try simp only [Act.put, List.getElem_toArray, List.getElem_cons_succ, List.getElem_cons_zero, List.setIfInBounds_toArray, List.set_cons_zero, List.set_cons_succ]
    refine spec_d rfl (fun x _ => gives_run (by go_simp)) ?_
    try simp only [Act.put, List.getElem_toArray, List.getElem_cons_succ, List.getElem_cons_zero, List.setIfInBounds_toArray, List.set_cons_zero, List.set_cons_succ]
    refine spec_d rfl (fun x _ => gives_run (by go_simp)) ?_
    try simp only [Act.put, List.getElem_toArray, List.getElem_cons_succ, List.getElem_cons_zero, List.setIfInBounds_toArray, List.set_cons_zero, List.set_cons_succ]
    refine spec_d rfl (fun x _ => gives_det_same (by go_simp) (HSY.out x.world)) ?_
    try simp only [Act.put, List.getElem_toArray, List.getElem_cons_succ, List.getElem_cons_zero, List.setIfInBounds_toArray, List.set_cons_zero, List.set_cons_succ]
    refine spec_d rfl (fun x _ => gives_run (by go_simp)) ?_
    try simp only [Act.put, List.getElem_toArray, List.getElem_cons_succ, List.getElem_cons_zero, List.setIfInBounds_toArray, List.set_cons_zero, List.set_cons_succ]
    refine spec_d rfl (fun x _ => gives_run (by go_simp)) ?_
    try simp only [Act.put, List.getElem_toArray, List.getElem_cons_succ, List.getElem_cons_zero, List.setIfInBounds_toArray, List.set_cons_zero, List.set_cons_succ]
    refine spec_d rfl (fun x _ => gives_run (by go_simp)) ?_
    try simp only [Act.put, List.getElem_toArray, List.getElem_cons_succ, List.getElem_cons_zero, List.setIfInBounds_toArray, List.set_cons_zero, List.set_cons_succ]
    refine spec_d rfl (fun x _ => gives_run (by go_simp)) ?_
    try simp only [Act.put, List.getElem_toArray, List.getElem_cons_succ, List.getElem_cons_zero, List.setIfInBounds_toArray, List.set_cons_zero, List.set_cons_succ]
    refine spec_d rfl (fun x _ => gives_run (by go_simp)) ?_
    try simp only [Act.put, List.getElem_toArray, List.getElem_cons_succ, List.getElem_cons_zero, List.setIfInBounds_toArray, List.set_cons_zero, List.set_cons_succ]
    refine spec_d rfl (fun x _ => gives_run (by go_simp)) ?_
    try simp only [Act.put, List.getElem_toArray, List.getElem_cons_succ, List.getElem_cons_zero, List.setIfInBounds_toArray, List.set_cons_zero, List.set_cons_succ]
    refine spec_d rfl (fun x _ => gives_det_same (by go_simp) (HSN.out x.world)) ?_
    try simp only [Act.put, List.getElem_toArray, List.getElem_cons_succ, List.getElem_cons_zero, List.setIfInBounds_toArray, List.set_cons_zero, List.set_cons_succ]
    refine spec_d rfl (fun x _ => gives_run (by go_simp)) ?_
    try simp only [Act.put, List.getElem_toArray, List.getElem_cons_succ, List.getElem_cons_zero, List.setIfInBounds_toArray, List.set_cons_zero, List.set_cons_succ]
    refine spec_d rfl (fun x _ => gives_run (by go_simp)) ?_
    try simp only [Act.put, List.getElem_toArray, List.getElem_cons_succ, List.getElem_cons_zero, List.setIfInBounds_toArray, List.set_cons_zero, List.set_cons_succ]
    refine spec_end (fun x hx => ?_)
    clear hx
    change wpAny _ _ _ _ (0 + 1) _ _ _
    refine wpAny_ready (rs := [15]) (by kernel_rfl) (by simp) ?_
    refine AllReady.cons rfl (fun KK hK => ?_) AllReady.nil
    go_simp
    refine (HCK.out x).mono ?_
    rintro e wa ⟨rfl, HQ, HR⟩
    refine hK _ _ ?_
    clear hK KK
    try simp only [Act.put, List.getElem_toArray, List.getElem_cons_succ, List.getElem_cons_zero, List.setIfInBounds_toArray, List.set_cons_zero, List.set_cons_succ]
    refine wpAny_done (by kernel_rfl) ?_ _
    cases b2
    all_goals
      go_wp2
      go_end0
      exact ⟨rfl, HQ, Lib.hid ((Wrote.of_below ((HE.out x3).trans (((bel_drew _).trans x.below).mono (HE.out x3).size))).trans HR.out)⟩
end Go.Proofs.YtnbcegijncdmaaaDoor.Ly19
