/- The contracts of package layout's Meets, Apart, Used; no condition but sizes. -/
import Derived.Test.YtejhjpdcodloaaaLayD
namespace Go.Proofs.Ytejhjpdcodloaaa.Ly42
open Go.ChangeShapes Go.WideShapes Go.ChangeAt Go.RowKit Base
set_option linter.unusedVariables false
set_option linter.unusedSimpArgs false

def mB (p o : Pt) : Bool := rB p && rB o && decide (p.a < o.a + o.m) && decide (o.a < p.a + p.m)
set_option maxRecDepth 100000 in
set_option maxHeartbeats 1000000 in
theorem meets_any (pa pm oa om : Int) (w : World) :
    Calls Try.prog 26 #[.agg #[.int .i64 pa, .int .i64 pm], .agg #[.int .i64 oa, .int .i64 om]] w fun e w' => e = .returned (.bool (mB ⟨pa, pm⟩ ⟨oa, om⟩)) ∧ Below w.heap.size w w' := by
  obtain ⟨g1, HG1⟩ : ∃ g, Hid (w.heap.size = g) := ⟨_, Lib.hid rfl⟩
  obtain ⟨g2, HG2⟩ : ∃ g, Hid (g1 + 1 = g) := ⟨_, Lib.hid rfl⟩
  obtain ⟨W2, HW2⟩ : ∃ W, Hid (W = (w.alloc (.cells #[.int .i64 pa, .int .i64 pm] TPt)).alloc (.cells #[.int .i64 oa, .int .i64 om] TPt)) := ⟨_, Lib.hid rfl⟩
  have HB2 : Hid (Below w.heap.size w W2) := Lib.hid (by rw [HW2.out]; exact ((Below.refl _ _).alloc (Nat.le_refl _) _).alloc (by simp) _)
  have HO1 : Hid (Obj1 W2 g1 TPt #[.int .i64 pa, .int .i64 pm]) := Lib.hid (by rw [HW2.out, ← HG1.out]; exact (Obj1.new _ _ _).kept (bel1 _ _))
  have HO2 : Hid (Obj1 W2 g2 TPt #[.int .i64 oa, .int .i64 om]) := Lib.hid (by
    rw [HW2.out, ← HG2.out, ← HG1.out, show w.heap.size + 1 = (w.alloc (.cells #[.int .i64 pa, .int .i64 pm] TPt)).heap.size by simp]
    exact Obj1.new _ _ _)
  have HR1 := Lib.hid (fun W => right_any pa pm W)
  have HR2 := Lib.hid (fun W => right_any oa om W)
  obtain ⟨Q, HQ⟩ : ∃ Q, Hid (mB ⟨pa, pm⟩ ⟨oa, om⟩ = Q) := ⟨_, Lib.hid rfl⟩
  obtain ⟨r1, HRB1⟩ : ∃ r, Hid (rB ⟨pa, pm⟩ = r) := ⟨_, Lib.hid rfl⟩
  obtain ⟨r2, HRB2⟩ : ∃ r, Hid (rB ⟨oa, om⟩ = r) := ⟨_, Lib.hid rfl⟩
  rw [HRB1.out] at HR1
  rw [HRB2.out] at HR2
  rw [HQ.out]
  have q0 := HO1.out.cell 0
  have q1 := HO1.out.cell 1
  simp at q0 q1
  go_enter Try.func26, Try.ntmps26
  go_upto_region 1 with (fail)
  rw [← HW2.out, HG1.out, HG2.out]
  clear HW2
  go_wp2_with fail
  refine (HR1.out _).mono ?_
  rintro e w3 ⟨rfl, hb3⟩
  have HB3 := Lib.hid (HB2.out.trans (hb3.mono HB2.out.size))
  have HO13 := Lib.hid (HO1.out.kept hb3)
  have HO23 := Lib.hid (HO2.out.kept hb3)
  clear q0 q1 hb3 HO1 HO2 HR1
  cases r1 with
  | false =>
    have HE : Hid (false = Q) := Lib.hid (by rw [← HQ.out]; unfold mB; rw [HRB1.out]; rfl)
    go_wp2
    go_ret
    exact ⟨by rw [← HE.out]; rfl, HB3.out⟩
  | true =>
    have q0 := HO23.out.cell 0
    have q1 := HO23.out.cell 1
    simp at q0 q1
    go_wp2_with fail
    refine (HR2.out _).mono ?_
    rintro e w4 ⟨rfl, hb4⟩
    have HB4 := Lib.hid (HB3.out.trans (hb4.mono HB3.out.size))
    have HO14 := Lib.hid (HO13.out.kept hb4)
    have HO24 := Lib.hid (HO23.out.kept hb4)
    clear q0 q1 hb4 HO13 HO23 HR2
    cases r2 with
    | false =>
      have HE : Hid (false = Q) := Lib.hid (by rw [← HQ.out]; unfold mB; rw [HRB1.out, HRB2.out]; rfl)
      go_wp2
      go_ret
      exact ⟨by rw [← HE.out]; rfl, HB4.out⟩
    | true =>
      obtain ⟨p0, p1, p2, p3⟩ := rB_iff.1 HRB1.out
      obtain ⟨o0, o1, o2, o3⟩ := rB_iff.1 HRB2.out
      simp only at p0 p1 p2 p3 o0 o1 o2 o3
      have e1 : IntKind.i64.wrap (oa + om) = oa + om := IntWalk.i64_in _ (by omega)
      have e2 : IntKind.i64.wrap (pa + pm) = pa + pm := IntWalk.i64_in _ (by omega)
      have q0 := HO14.out.cell 0
      have q1 := HO14.out.cell 1
      have s0 := HO24.out.cell 0
      have s1 := HO24.out.cell 1
      simp at q0 q1 s0 s1
      have HM : Hid ((decide (pa < oa + om) && decide (oa < pa + pm)) = Q) := Lib.hid (by rw [← HQ.out]; unfold mB; rw [HRB1.out, HRB2.out]; rfl)
      clear p0 p1 p2 p3 o0 o1 o2 o3
      by_cases h1 : pa < oa + om
      · by_cases h2 : oa < pa + pm
        · have HE : Hid (true = Q) := Lib.hid (by rw [← HM.out, decide_eq_true h1, decide_eq_true h2]; rfl)
          go_wp2
          go_ret
          exact ⟨by rw [← HE.out]; rfl, HB4.out⟩
        · have HE : Hid (false = Q) := Lib.hid (by rw [← HM.out, decide_eq_true h1, decide_eq_false h2]; rfl)
          go_wp2
          go_ret
          refine ⟨?_, HB4.out⟩
          rw [← HE.out]
          first | rfl | (simp [h2]; done) | (simp; omega)
      · have HE : Hid (false = Q) := Lib.hid (by rw [← HM.out, decide_eq_false h1]; rfl)
        go_wp2
        go_ret
        exact ⟨by rw [← HE.out]; rfl, HB4.out⟩
/-- Do parts lie apart, one behind the other? -/
def apA : List Pt → List Pt → Bool
  | _, [] => true
  | a, x :: r => freeB (cnt a) x && apA (a ++ [x]) r
set_option maxRecDepth 100000 in
set_option maxHeartbeats 1000000 in
theorem apart_any (A : Option Addr) (n c : Nat) (l : List Pt) (w : World) (hl : PtsAt w A n l) (hn : n ≤ 1000) :
    Calls Try.prog 28 #[.slice A n c] w fun e w' => e = .returned (.bool (apA [] l)) ∧ Below w.heap.size w w' := by
  have HL := Lib.hid hl
  obtain ⟨ip, hip, hzp, hsp⟩ := info_get info_pl
  obtain ⟨gn, HGN⟩ : ∃ g, Hid (w.heap.size = g) := ⟨_, Lib.hid rfl⟩
  obtain ⟨W2, HW2⟩ : ∃ W, Hid (W = w.alloc (.cells (Array.replicate 64 (.int .i64 0)) TPl)) := ⟨_, Lib.hid rfl⟩
  have HB2 : Hid (Below w.heap.size w W2) := Lib.hid (by rw [HW2.out]; exact bel1 _ _)
  have HPN : Hid (PlAt W2 gn (cnt [])) := Lib.hid ⟨_, by rw [HW2.out, ← HGN.out]; exact Obj1.new _ _ _, Cs.zero⟩
  have HGW : Hid (w.heap.size ≤ gn) := Lib.hid (by rw [HGN.out]; exact Nat.le_refl _)
  obtain ⟨Q, HQ⟩ : ∃ Q, Hid (apA [] l = Q) := ⟨_, Lib.hid rfl⟩
  rw [HQ.out]
  clear hl
  go_enter Try.func28, Try.ntmps28
  go_upto_region 2 with (refine wpList_allocZ rfl TPl rfl hip hzp ?_)
  change Code.wp _ _ _ _ (w.alloc (.cells (Array.replicate 64 (.int .i64 0)) TPl))
  rw [← HW2.out, HGN.out]
  clear HW2
  go_wp2_with fail
  go_loopw [8] (fun i wx => ∃ k : Nat, k ≤ n ∧ i = .int .i64 k ∧ Hid (PlAt wx gn (cnt (l.take k))) ∧ Hid (apA (l.take k) (l.drop k) = Q) ∧ Below w.heap.size w wx) (fun i _ => n - (intOf i).toNat)
  case atStart => exact ⟨0, by omega, rfl, Lib.hid (by simpa using HPN.out), Lib.hid (by simpa using HQ.out), HB2.out⟩
  case round =>
    clear HPN HB2
    obtain ⟨k, hk, rfl, HPK, HAP, hbel⟩ := hrel
    have HBEL := Lib.hid hbel
    by_cases hlt : k < n
    · as_aux_lemma =>
      have hki : (k : Int) < (n : Int) := by omega
      have hkl : k < l.length := by rw [HL.out.len]; exact hlt
      obtain ⟨x, hx⟩ : ∃ x, l[k]? = some x := ⟨_, List.getElem?_eq_getElem hkl⟩
      have HX := Lib.hid hx
      have HAP' : Hid ((freeB (cnt (l.take k)) x && apA (l.take (k + 1)) (l.drop (k + 1))) = Q) := Lib.hid (by
        have h := HAP.out
        rw [drop_next hx] at h
        rw [take_next hx]
        exact h)
      obtain ⟨b, off, rfl, hb, k0, k1⟩ := (HL.out.kept hbel).two hlt hx
      obtain ⟨xa, xm⟩ := x
      simp only at k0 k1
      clear hx hkl hb hbel HAP
      go_upto_region 5 with (fail)
      obtain ⟨gx, HGX⟩ : ∃ gx, Hid (wr.heap.size = gx) := ⟨_, Lib.hid rfl⟩
      obtain ⟨W5, HW5⟩ : ∃ W5, Hid (W5 = wr.alloc (.cells #[.int .i64 xa, .int .i64 xm] TPt)) := ⟨_, Lib.hid rfl⟩
      have HOX : Hid (Obj1 W5 gx TPt #[.int .i64 xa, .int .i64 xm]) := Lib.hid (by rw [HW5.out, ← HGX.out]; exact Obj1.new _ _ _)
      have HB5 : Hid (Below wr.heap.size wr W5) := Lib.hid (by rw [HW5.out]; exact bel1 _ _)
      have HBW5 := Lib.hid (HBEL.out.trans (HB5.out.mono HBEL.out.size))
      have HP5 := Lib.hid (HPK.out.kept HB5.out)
      have HNE : Hid (gx ≠ gn) := Lib.hid (fun e => by have := HPK.out.lt; have := HGX.out; omega)
      rw [← HW5.out, HGX.out]
      clear HW5 k0 k1 HB5 HPK HBEL HGX
      have q0 := HOX.out.cell 0
      have q1 := HOX.out.cell 1
      simp at q0 q1
      have HFR := Lib.hid (free_any gn (cnt (l.take k)) xa xm W5 HP5.out)
      obtain ⟨fq, HFQ⟩ : ∃ q, Hid (freeB (cnt (l.take k)) ⟨xa, xm⟩ = q) := ⟨_, Lib.hid rfl⟩
      rw [HFQ.out] at HFR
      go_wp2_with fail
      refine HFR.out.mono ?_
      rintro e w6 ⟨rfl, hb6⟩
      have HB6 := Lib.hid (HBW5.out.trans (hb6.mono HBW5.out.size))
      have HP6 := Lib.hid (HP5.out.kept hb6)
      have HO6 := Lib.hid (HOX.out.kept hb6)
      clear q0 q1 hb6 HFR HP5 HOX HBW5
      cases fq with
      | false =>
        have HE : Hid (false = Q) := Lib.hid (by rw [← HAP'.out, HFQ.out]; rfl)
        go_wp2
        go_ret
        exact ⟨by rw [← HE.out]; rfl, HB6.out⟩
      | true =>
        have HA2 : Hid (apA (l.take (k + 1)) (l.drop (k + 1)) = Q) := Lib.hid (by rw [← HAP'.out, HFQ.out]; rfl)
        have q0 := HO6.out.cell 0
        have q1 := HO6.out.cell 1
        simp at q0 q1
        have HAD := Lib.hid (add_any gn (cnt (l.take k)) xa xm w6 HP6.out (fun i _ => by have h1 := cnt_le (l.take k) i; rw [List.length_take] at h1; omega))
        go_wp2_with fail
        refine HAD.out.mono ?_
        rintro e w7 ⟨rfl, HP7, HW7⟩
        have HP8 : Hid (PlAt w7 gn (cnt (l.take (k + 1)))) := Lib.hid (HP7.out.same (fun i _ => by rw [take_next HX.out, cnt_snoc]))
        have HB8 := Lib.hid (HB6.out.trans (HW7.out.below HGW.out HB6.out.size))
        clear q0 q1 HAD HP7 HW7 HP6 HO6 HB6
        go_wp2
        go_roundw
        case rel => exact ⟨k + 1, by omega, by go_num, HP8, HA2, HB8.out⟩
        case measure => simp [intOf]; omega
    · as_aux_lemma =>
      have hke : n = k := by omega
      subst hke
      have HE : Hid (true = Q) := Lib.hid (by rw [← HAP.out, List.drop_of_length_le (by rw [HL.out.len]; exact Nat.le_refl _)]; rfl)
      clear hbel
      go_wp2
      go_ret
      exact ⟨by rw [← HE.out]; rfl, HBEL.out⟩
/-- How many places of the first k some have. -/
def usN (f : Nat → Nat) : Nat → Nat
  | 0 => 0
  | k + 1 => usN f k + (if 0 < f k then 1 else 0)
theorem usN_le (f : Nat → Nat) : ∀ k, usN f k ≤ k
  | 0 => Nat.le_refl _
  | k + 1 => by have := usN_le f k; unfold usN; split <;> omega
theorem info_i1 : (Try.prog.info? 3).map (fun i => (i.zero, i.size)) = some (some (.int .i64 0), 1) := by kernel_rfl
theorem ix_pl {cs : Array Value} {f : Nat → Nat} (h : Cs cs f) (i : Nat) (hi : i < 64) (W : World) : (Instr.index TPl (.agg cs) (.int .i64 (i : Int))).run Try.prog W = .ok (.int .i64 (f i : Int)) W := by
  obtain ⟨i0, hi0, hz0, hs0⟩ := info_get info_i1
  have h1 := h.2 i hi
  have h2 := h.1
  obtain ⟨h4, h3⟩ := Array.getElem?_eq_some_iff.1 h1
  simp [Instr.index, go_sem, run_underlying Try.underlying78, run_part_plain, hi0, hs0, h1, h2, h3, hi, part, sizeOf, typeInfo]
set_option maxRecDepth 100000 in
set_option maxHeartbeats 1000000 in
theorem used_any (A : Option Addr) (n c : Nat) (l : List Pt) (w : World) (hl : PtsAt w A n l) (hn : n ≤ 1000) :
    Calls Try.prog 29 #[.slice A n c] w fun e w' => e = .returned (.int .i64 (usN (cnt l) 64 : Nat)) ∧ Below w.heap.size w w' := by
  have HOF := Lib.hid (of_any A n c l w hl hn)
  clear hl
  go_enter Try.func29, Try.ntmps29
  go_wp2_with fail
  refine HOF.out.mono ?_
  rintro e w2 ⟨cs, rfl, HCC, hb2⟩
  have HB2 := Lib.hid hb2.out
  clear hb2 HOF
  go_wp2_with fail
  go_loopw [3, 8] (fun s i wx => ∃ k : Nat, k ≤ 64 ∧ i = .int .i64 k ∧ s = .int .i64 (usN (cnt l) k : Nat) ∧ w2 = wx) (fun _ i _ => 64 - (intOf i).toNat)
  case atStart => exact ⟨0, by omega, rfl, rfl, rfl⟩
  case round =>
    obtain ⟨k, hk, rfl, rfl, rfl⟩ := hrel
    by_cases hlt : k < 64
    · have hki : (k : Int) < 64 := by omega
      have hix := fun W => ix_pl HCC.out k hlt W
      have hle := usN_le (cnt l) k
      have HNX : Hid (usN (cnt l) (k + 1) = usN (cnt l) k + (if 0 < cnt l k then 1 else 0)) := Lib.hid rfl
      obtain ⟨S, hS⟩ : ∃ S, usN (cnt l) k = S := ⟨_, rfl⟩
      obtain ⟨v, hv⟩ : ∃ v, cnt l k = v := ⟨_, rfl⟩
      rw [hS, hv] at HNX
      rw [hS] at hle ⊢
      simp only [hv] at hix
      have e1 : IntKind.i64.wrap ((S : Int) + 1) = (S : Int) + 1 := IntWalk.i64_in _ (by omega)
      clear hS hv
      by_cases hv0 : 0 < v
      · have hvi : (0 : Int) < (v : Int) := by omega
        have HN2 : Hid (usN (cnt l) (k + 1) = S + 1) := Lib.hid (by rw [HNX.out, if_pos hv0])
        clear hv0
        go_wp2
        go_roundw
        case rel => exact ⟨k + 1, by omega, by go_num, by rw [HN2.out]; simp, by trivial⟩
        case measure => simp [intOf]; omega
      · have hvz : v = 0 := by omega
        subst hvz
        have HN2 : Hid (usN (cnt l) (k + 1) = S) := Lib.hid (by rw [HNX.out, if_neg hv0]; rfl)
        clear hv0
        go_wp2
        go_roundw
        case rel => exact ⟨k + 1, by omega, by go_num, by rw [HN2.out], by trivial⟩
        case measure => simp [intOf]; omega
    · have hke : k = 64 := by omega
      subst hke
      go_wp2
      go_ret
      exact ⟨rfl, HB2.out⟩
end Go.Proofs.Ytejhjpdcodloaaa.Ly42
