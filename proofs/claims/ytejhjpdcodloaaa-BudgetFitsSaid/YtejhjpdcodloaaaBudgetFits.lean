/- What is fit may be, and is fit as it is; what may be is fit as it is, and as it is in new memory: for every course and number; no condition. -/
import Derived.RegionTactic
import Derived.IntWalk
import Derived.Deep.DeepCutAuto
import Derived.Deep.CutBlock
import Derived.Test.YtejhjpdcodloaaaBudH
import Derived.Test.YtejhjpdcodloaaaRows
import Derived.WalkKit
import Derived.ProofKit
import Derived.OpenShut
import Derived.ShutString
import Derived.ChangeOld
import Derived.Below
namespace Go.Proofs.Ytejhjpdcodloaaa.lawBudgetFits
open Go.ChangeShapes Go.WideShapes Go.ChangeAt Go.RowKit Base
open Go.ChangeMaps (open_string shut_string)
set_option linter.unusedVariables false
set_option linter.unusedSimpArgs false
theorem own : ownKnob Try.prog.godebug = none := by kernel_rfl
theorem laidOut : laidOutB Try.prog = true := by kernel_rfl
open Ly21 Ly20

theorem chk_fit (md : Int) : ∀ (r a : List Slp), chkA md a r = 0 → fitA md a r = a ++ r
  | [], a, _ => by simp [fitA]
  | x :: r, a, h => by
    unfold chkA at h
    split at h
    · cases h
    · rename_i hm
      split at h
      · cases h
      · rename_i hn
        unfold fitA
        rw [if_pos (by
          have h1 : mayB x md = true := by simpa using hm
          have h2 : nearL a x = false := by simpa using hn
          rw [h1, h2]; rfl), chk_fit md r (a ++ [x]) h]
        simp
/-- Slips that may be together are checked, and fit, as they are. -/
theorem good_chk (md : Int) : ∀ (r a : List Slp), Ly21.Good md (a ++ r) → chkA md a r = 0
  | [], a, _ => rfl
  | x :: r, a, h => by
    have hm : mayB x md = true := h.1 x (by simp)
    have hn : nearL a x = false := by
      cases e : nearL a x with
      | false => rfl
      | true =>
        obtain ⟨b, hb, hbx⟩ := List.any_eq_true.1 e
        have := (List.pairwise_append.1 h.2).2.2 b hb x (by simp)
        rw [this] at hbx
        cases hbx
    unfold chkA
    rw [if_neg (by rw [hm]; simp), if_neg (by rw [hn]; simp)]
    exact good_chk md r (a ++ [x]) (by simpa using h)
theorem good_fit (md : Int) : ∀ (r a : List Slp), Ly21.Good md a → Ly21.Good md (fitA md a r)
  | [], a, h => h
  | x :: r, a, h => by
    unfold fitA
    split
    · rename_i hq
      rw [Bool.and_eq_true] at hq
      exact good_fit md r _ (h.snoc hq.1 (by simpa using hq.2))
    · exact good_fit md r _ h
theorem fit_chk (md : Int) (ls : List Slp) : chkA md [] (fitA md [] ls) = 0 := good_chk md _ _ (by simpa using good_fit md ls [] (Ly21.Good.nil md))
theorem fit_fit (md : Int) (ls : List Slp) : fitA md [] (fitA md [] ls) = fitA md [] ls := by simpa using chk_fit md (fitA md [] ls) [] (fit_chk md ls)
/-- A fault that is fit is right. -/
theorem right_fit {r kd fm ln fr : Int} {n : Nat} {xs : List Int} {f : Ft} {md : Int} (hr : rightF kd fm ln fr n md = r) (h : FitP True r kd fm ln fr n xs f) : rightF f.kd f.fm f.ln f.fr f.n md = 0 := by
  rcases h with ⟨h0, h1, h2, h3, h4, h5, _⟩ | ⟨_, h1, _⟩
  · rw [h1, h2, h3, h4, h5, hr, h0]
  · unfold rightF
    rw [if_pos h1]
theorem pat_len {r kd fm ln fr : Int} {n : Nat} {xs : List Int} {f : Ft} (h : FitP True r kd fm ln fr n xs f) (hn : n ≤ 400) : f.n ≤ 400 := by
  rcases h with ⟨_, _, _, _, _, h, _⟩ | ⟨_, _, h, _⟩ <;> omega
theorem xor1 (x : Int) : ∃ m : Int, Go.bits BinOp.xor IntKind.i64 x 1 = m ∧ (x == m) = false := by
  refine ⟨_, rfl, ?_⟩
  rw [beq_eq_false_iff_ne]
  intro h
  have h1 : BitVec.ofInt 64 x = BitVec.ofInt 64 x ^^^ BitVec.ofInt 64 1 := by
    have e : BitVec.ofInt 64 (Go.bits BinOp.xor IntKind.i64 x 1) = BitVec.ofInt 64 x ^^^ BitVec.ofInt 64 1 := by
      show BitVec.ofInt 64 (IntKind.i64.wrap ((BitVec.ofInt 64 x ^^^ BitVec.ofInt 64 1).toNat : Int)) = _
      generalize BitVec.ofInt 64 x ^^^ BitVec.ofInt 64 1 = z
      apply BitVec.eq_of_toNat_eq
      have := z.isLt
      simp only [BitVec.toNat_ofInt, IntKind.wrap, IntKind.bits, IntKind.signed]
      simp
      omega
    rw [← e, ← h]
  have h2 := congrArg (fun z => BitVec.ofInt 64 x ^^^ z) h1
  simp [← BitVec.xor_assoc] at h2
theorem set_at {w : World} {b : Nat} {T : TypeId} {cs : Array Value} (h : Obj1 w b T cs) (v v0 : Value) (h0 : w.cell? ⟨b, 0, none⟩ = some v0) :
    (w.setCell ⟨b, 0, none⟩ v).cell? ⟨b, 0, none⟩ = some v ∧ ∀ i, i ≠ 0 → (w.setCell ⟨b, 0, none⟩ v).cell? ⟨b, i, none⟩ = w.cell? ⟨b, i, none⟩ := by
  have h1 : Obj1 (w.setCell ⟨b, 0, none⟩ v) b T (cs.setIfInBounds 0 v) := h.set 0 v
  rw [h.cell] at h0
  have hs : 0 < cs.size := (Array.getElem?_eq_some_iff.1 h0).1
  refine ⟨by rw [h1.cell, Array.getElem?_setIfInBounds_self_of_lt hs], fun i hi => ?_⟩
  rw [h1.cell, h.cell, Array.getElem?_setIfInBounds_ne (fun e => hi e.symm)]
set_option maxRecDepth 100000 in
set_option maxHeartbeats 3000000 in
theorem walk_yes (kd fm : Int) (fy : Bool) (ln fr : Int) (A : Option Addr) (n c : Nat) (B : Option Addr) (m d : Nat) (xs : List Int) (ls : List Slp) (md : Int) (w : World) (hA : Lst w A n (xs.map (Value.int .u8))) (hW : SlsAt w B m ls) (hn : n ≤ 9223372036854775807) (hm : m ≤ 9223372036854775807) (hmd : md ≤ 9223372036854775807) :
    Calls Try.prog 4 #[.agg #[.int .i64 kd, .int .i64 fm, .bool fy, .int .i64 ln, .int .i64 fr, .slice A n c, .slice B m d], .int .i64 md] w fun e w' => e = .returned (.bool true) ∧ Below w.heap.size w w' := by
  obtain ⟨gb, HGB⟩ : ∃ gb, Hid (w.heap.size = gb) := ⟨_, Lib.hid rfl⟩
  obtain ⟨W1, HW1⟩ : ∃ W1, Hid (W1 = w.alloc (.cells #[.int .i64 kd, .int .i64 fm, .bool fy, .int .i64 ln, .int .i64 fr, .slice A n c, .slice B m d] TC)) := ⟨_, Lib.hid rfl⟩
  have HB1 : Hid (Below w.heap.size w W1) := Lib.hid (by rw [HW1.out]; exact bel1 _ _)
  have HOB : Hid (∀ W, Below W1.heap.size W1 W → Obj1 W gb TC #[.int .i64 kd, .int .i64 fm, .bool fy, .int .i64 ln, .int .i64 fr, .slice A n c, .slice B m d]) := Lib.hid (fun W h => (show Obj1 W1 gb TC #[.int .i64 kd, .int .i64 fm, .bool fy, .int .i64 ln, .int .i64 fr, .slice A n c, .slice B m d] by rw [HW1.out, ← HGB.out]; exact Obj1.new _ _ _).kept h)
  have HSL : Hid (∀ W, Below W1.heap.size W1 W → SlsAt W B m ls) := Lib.hid (fun W h => (hW.kept HB1.out).kept h)
  have HPA : Hid (∀ W, Below W1.heap.size W1 W → Lst W A n (xs.map (Value.int .u8))) := Lib.hid (fun W h => (hA.kept HB1.out).kept h)
  have HX : Hid (Below W1.heap.size W1 W1) := Lib.hid (Below.refl _ _)
  have hSL1 : ∀ b off, B = some ⟨b, off, none⟩ → 0 < m → b < W1.heap.size := fun b off e h0 => by
    obtain ⟨b', off', e', hb, _⟩ := (HSL.out _ HX.out).at' h0
    rw [e] at e'
    injection e' with e'
    injection e' with e1 _ _
    omega
  have HSLT := Lib.hid hSL1
  clear hA hW hSL1
  have d0 := (HOB.out _ HX.out).cell 0
  have d1 := (HOB.out _ HX.out).cell 1
  have d2 := (HOB.out _ HX.out).cell 2
  have d3 := (HOB.out _ HX.out).cell 3
  have d4 := (HOB.out _ HX.out).cell 4
  have d5 := (HOB.out _ HX.out).cell 5
  have d6 := (HOB.out _ HX.out).cell 6
  simp at d0 d1 d2 d3 d4 d5 d6
  go_enter Try.func4, Try.ntmps4
  go_upto_region 1 with (fail)
  rw [← HW1.out, HGB.out]
  clear HW1
  go_wp2_with fail
  refine (few_any kd fm fy ln fr A n c B m d _ hn hm).mono ?_
  rintro e w2 ⟨⟨q0, rfl, hq⟩, hb2⟩
  obtain ⟨q, hqq⟩ : ∃ q, decide (q0 = 1) = q := ⟨_, rfl⟩
  have HQQ := Lib.hid hqq
  rw [hqq]
  have HB2 := Lib.hid (HX.out.trans (hb2.mono HX.out.size))
  clear hb2 hqq d0 d1 d2 d3 d4 d5 d6
  cases q with
  | false =>
    go_wp2
    go_ret
    exact ⟨rfl, HB1.out.trans (HB2.out.mono HB1.out.size)⟩
  | true =>
    obtain ⟨hm60, hn400⟩ := hq.out (of_decide_eq_true HQQ.out)
    clear hq hn hm HQQ
    obtain ⟨E, HE⟩ : ∃ E, Hid (fitA md [] ls = E) := ⟨_, Lib.hid rfl⟩
    have HEL : Hid (E.length ≤ m) := Lib.hid (by rw [← HE.out]; have h1 := fitA_len md ls []; have h2 := (HSL.out _ HX.out).len; simp at h1; omega)
    have HEC : Hid (chkA md [] E = 0) := Lib.hid (by rw [← HE.out]; exact fit_chk md ls)
    have HEF : Hid (fitA md [] E = E) := Lib.hid (by rw [← HE.out]; exact fit_fit md ls)
    obtain ⟨N, HN⟩ : ∃ N, Hid (E.length = N) := ⟨_, Lib.hid rfl⟩
    obtain ⟨r, HR⟩ : ∃ r, Hid (rightF kd fm ln fr n md = r) := ⟨_, Lib.hid rfl⟩
    obtain ⟨wn, HWN⟩ : ∃ wn, Hid ((if rightF kd fm ln fr n md ≠ 0 then rightF kd fm ln fr n md else chkA md [] ls) = wn) := ⟨_, Lib.hid rfl⟩
    have HSAME : Hid (wn = 0 → N = m) := Lib.hid (fun h => by
      rw [← HWN.out] at h
      have h2 : chkA md [] ls = 0 := by
        split at h
        · rename_i h'; exact absurd h h'
        · exact h
      rw [← HN.out, ← HE.out, chk_fit md ls [] h2, List.nil_append]
      exact (HSL.out _ HX.out).len)
    have hNm : N ≤ m := by rw [← HN.out]; exact HEL.out
    have HFT := Lib.hid (fit_any kd fm fy ln fr A n c B m d xs ls md w2 (HPA.out _ HB2.out) hn400 (HSL.out _ HB2.out) (by omega) hmd)
    rw [HE.out, HR.out, HN.out] at HFT
    have d0 := (HOB.out _ HB2.out).cell 0
    have d1 := (HOB.out _ HB2.out).cell 1
    have d2 := (HOB.out _ HB2.out).cell 2
    have d3 := (HOB.out _ HB2.out).cell 3
    have d4 := (HOB.out _ HB2.out).cell 4
    have d5 := (HOB.out _ HB2.out).cell 5
    have d6 := (HOB.out _ HB2.out).cell 6
    simp at d0 d1 d2 d3 d4 d5 d6
    go_wp2_with fail
    refine HFT.out.mono ?_
    rintro e w3 ⟨f, FB, fd, rfl, HFP, HFL, HFS, HFD, hb3⟩
    have HB3 := Lib.hid (HB2.out.trans (hb3.out.mono HB2.out.size))
    clear hb3 HFT d0 d1 d2 d3 d4 d5 d6 HB2
    go_upto_region 4 with (fail)
    obtain ⟨gx, HGX⟩ : ∃ gx, Hid (w3.heap.size = gx) := ⟨_, Lib.hid rfl⟩
    obtain ⟨W4, HW4⟩ : ∃ W4, Hid (W4 = w3.alloc (.cells (f.cells (.slice FB N fd)) TC)) := ⟨_, Lib.hid rfl⟩
    have HB34 : Hid (Below w3.heap.size w3 W4) := Lib.hid (by rw [HW4.out]; exact bel1 _ _)
    have HB4 := Lib.hid (HB3.out.trans (HB34.out.mono HB3.out.size))
    have HFX : Hid (∀ W, Below W4.heap.size W4 W → Obj1 W gx TC (f.cells (.slice FB N fd))) := Lib.hid (fun W h => (show Obj1 W4 gx TC _ by rw [HW4.out, ← HGX.out]; exact Obj1.new _ _ _).kept h)
    have HFSL : Hid (∀ W, Below W4.heap.size W4 W → SlsAt W FB N E) := Lib.hid (fun W h => (HFS.out.kept HB34.out).kept h)
    have HFPL : Hid (∀ W, Below W4.heap.size W4 W → Lst W f.A f.n (f.xs.map (Value.int .u8))) := Lib.hid (fun W h => (HFL.out.kept HB34.out).kept h)
    have hw4 := HW4.out
    change Code.wp _ _ _ _ (w3.alloc (.cells (f.cells (.slice FB N fd)) TC)) at *
    rw [← hw4, HGX.out]
    clear hw4 HW4 HGX HB34 HB3 HFS HFL
    have hfn := pat_len HFP.out hn400
    have HRF := Lib.hid (right_fit HR.out HFP.out)
    have HX4 : Hid (Below W4.heap.size W4 W4) := Lib.hid (Below.refl _ _)
    have HF2 := Lib.hid (fit_any f.kd f.fm f.fy f.ln f.fr f.A f.n f.c FB N fd f.xs E md W4 (HFPL.out _ HX4.out) hfn (HFSL.out _ HX4.out) (by omega) hmd)
    rw [HEF.out, HN.out] at HF2
    have q0 := (HFX.out _ HX4.out).cell 0
    have q1 := (HFX.out _ HX4.out).cell 1
    have q2 := (HFX.out _ HX4.out).cell 2
    have q3 := (HFX.out _ HX4.out).cell 3
    have q4 := (HFX.out _ HX4.out).cell 4
    have q5 := (HFX.out _ HX4.out).cell 5
    have q6 := (HFX.out _ HX4.out).cell 6
    simp at q0 q1 q2 q3 q4 q5 q6
    go_wp2_with fail
    refine HF2.out.mono ?_
    rintro e w5 ⟨f2, GB, gd, rfl, _, _, HGS, HGD, hb5⟩
    have HB45 := Lib.hid hb5.out
    have HB5 := Lib.hid (HB4.out.trans (hb5.out.mono HB4.out.size))
    clear hb5 HF2 q0 q1 q2 q3 q4 q5 q6
    go_upto_region 5 with (fail)
    obtain ⟨gy, HGY⟩ : ∃ gy, Hid (w5.heap.size = gy) := ⟨_, Lib.hid rfl⟩
    obtain ⟨W6, HW6⟩ : ∃ W6, Hid (W6 = w5.alloc (.cells (f2.cells (.slice GB N gd)) TC)) := ⟨_, Lib.hid rfl⟩
    have HB56 : Hid (Below w5.heap.size w5 W6) := Lib.hid (by rw [HW6.out]; exact bel1 _ _)
    have HB6 := Lib.hid (HB5.out.trans (HB56.out.mono HB5.out.size))
    have HB46 := Lib.hid (HB45.out.trans (HB56.out.mono HB45.out.size))
    have HGX6 : Hid (∀ W, Below W6.heap.size W6 W → Obj1 W gy TC (f2.cells (.slice GB N gd))) := Lib.hid (fun W h => (show Obj1 W6 gy TC _ by rw [HW6.out, ← HGY.out]; exact Obj1.new _ _ _).kept h)
    have HGSL : Hid (∀ W, Below W6.heap.size W6 W → SlsAt W GB N E) := Lib.hid (fun W h => (HGS.out.kept HB56.out).kept h)
    have HX6 : Hid (Below W6.heap.size W6 W6) := Lib.hid (Below.refl _ _)
    have hw6 := HW6.out
    change Code.wp _ _ _ _ (w5.alloc (.cells (f2.cells (.slice GB N gd)) TC)) at *
    rw [← hw6, HGY.out]
    clear hw6 HW6 HGY HB56 HB5 HB45 HGS
    have HCK := Lib.hid (check_any f.kd f.fm f.fy f.ln f.fr f.A f.n f.c FB N fd E md W6 (HFSL.out _ HB46.out) (by omega) (by omega) hmd)
    rw [HRF.out, if_neg (show ¬ (0 : Int) ≠ 0 by simp), HEC.out] at HCK
    have hNmi : ¬ ((m : Int) < (N : Int)) := by omega
    have q0 := (HFX.out _ HB46.out).cell 0
    have q1 := (HFX.out _ HB46.out).cell 1
    have q2 := (HFX.out _ HB46.out).cell 2
    have q3 := (HFX.out _ HB46.out).cell 3
    have q4 := (HFX.out _ HB46.out).cell 4
    have q5 := (HFX.out _ HB46.out).cell 5
    have q6 := (HFX.out _ HB46.out).cell 6
    simp at q0 q1 q2 q3 q4 q5 q6
    go_wp2_with fail
    refine HCK.out.mono ?_
    rintro e w7 ⟨rfl, hb7⟩
    have HB67 := Lib.hid hb7
    have HB7 := Lib.hid (HB6.out.trans (hb7.mono HB6.out.size))
    have HB47 := Lib.hid (HB46.out.trans (hb7.mono HB46.out.size))
    clear hb7 HCK q0 q1 q2 q3 q4 q5 q6
    have x6 := (HFX.out _ HB47.out).cell 6
    have y6 := (HGX6.out _ HB67.out).cell 6
    have d6 := (HOB.out _ HB7.out).cell 6
    simp at x6 y6 d6
    go_upto_block 2 with (fail)
    clear x6 y6 d6
    go_wp2_with fail
    go_loopw [7] (fun i wx => ∃ k : Nat, k ≤ N ∧ i = .int .i64 k ∧ Below w7.heap.size w7 wx) (fun i _ => N - (intOf i).toNat)
    case atStart => exact ⟨0, by omega, rfl, Below.refl _ _⟩
    case round =>
      obtain ⟨k, hk, rfl, hbk⟩ := hrel
      have HBK := Lib.hid hbk
      have HB4k := Lib.hid (HB47.out.trans (hbk.mono HB47.out.size))
      have HB6k := Lib.hid (HB67.out.trans (hbk.mono HB67.out.size))
      have HB1k := Lib.hid (HB7.out.trans (hbk.mono HB7.out.size))
      have x6 := (HFX.out _ HB4k.out).cell 6
      simp at x6
      by_cases hlt : k < N
      · as_aux_lemma =>
        have hki : (k : Int) < (N : Int) := by omega
        have hkl : k < E.length := by rw [HN.out]; exact hlt
        obtain ⟨x, hx⟩ : ∃ x, E[k]? = some x := ⟨_, List.getElem?_eq_getElem hkl⟩
        obtain ⟨b1, o1, rfl, hb1, j0, j1, j2, j3⟩ := (HFSL.out _ HB4k.out).four hlt hx
        obtain ⟨b2, o2, rfl, hb2, k0, k1, k2, k3⟩ := (HGSL.out _ HB6k.out).four hlt hx
        have y6 := (HGX6.out _ HB6k.out).cell 6
        simp at y6
        have X6 : ∀ z : Kin wr.drew, z.world.cell? ⟨gx, 6, none⟩ = some (.slice (some ⟨b1, o1, none⟩) N fd) := fun z => Kin.at (w := wr.drew) x6 z
        have Y6 : ∀ z : Kin wr.drew, z.world.cell? ⟨gy, 6, none⟩ = some (.slice (some ⟨b2, o2, none⟩) N gd) := fun z => Kin.at (w := wr.drew) y6 z
        have J0 : ∀ z : Kin wr.drew, z.world.cell? ⟨b1, o1 + k * 4, none⟩ = some (.int .i64 x.m) := fun z => Kin.at (w := wr.drew) j0 z
        have J1 : ∀ z : Kin wr.drew, z.world.cell? ⟨b1, o1 + k * 4 + 1, none⟩ = some (.bool x.y) := fun z => Kin.at (w := wr.drew) j1 z
        have J2 : ∀ z : Kin wr.drew, z.world.cell? ⟨b1, o1 + k * 4 + 2, none⟩ = some (.int .i64 x.t) := fun z => Kin.at (w := wr.drew) j2 z
        have J3 : ∀ z : Kin wr.drew, z.world.cell? ⟨b1, o1 + k * 4 + 3, none⟩ = some (.int .i64 x.b) := fun z => Kin.at (w := wr.drew) j3 z
        have L0 : ∀ z : Kin wr.drew, z.world.cell? ⟨b2, o2 + k * 4, none⟩ = some (.int .i64 x.m) := fun z => Kin.at (w := wr.drew) k0 z
        have L1 : ∀ z : Kin wr.drew, z.world.cell? ⟨b2, o2 + k * 4 + 1, none⟩ = some (.bool x.y) := fun z => Kin.at (w := wr.drew) k1 z
        have L2 : ∀ z : Kin wr.drew, z.world.cell? ⟨b2, o2 + k * 4 + 2, none⟩ = some (.int .i64 x.t) := fun z => Kin.at (w := wr.drew) k2 z
        have L3 : ∀ z : Kin wr.drew, z.world.cell? ⟨b2, o2 + k * 4 + 3, none⟩ = some (.int .i64 x.b) := fun z => Kin.at (w := wr.drew) k3 z
        clear hbk hx hkl y6 j0 j1 j2 j3 k0 k1 k2 k3 hb1 hb2
        go_upto_region 10 with (fail)
        clear x6
        refine wp_region_specL 11 [.d (.pointer (some ⟨gx, 6, none⟩)), .d (.slice (some ⟨b1, o1, none⟩) N fd), .d (.int .i64 k), .d (.pointer (some ⟨b1, o1 + k * 4, none⟩)), .d (.agg #[.int .i64 x.m, .bool x.y, .int .i64 x.t, .int .i64 x.b]), .d (.pointer (some ⟨gy, 6, none⟩)), .d (.slice (some ⟨b2, o2, none⟩) N gd), .d (.int .i64 k), .d (.pointer (some ⟨b2, o2 + k * 4, none⟩)), .d (.agg #[.int .i64 x.m, .bool x.y, .int .i64 x.t, .int .i64 x.b]), .d (.bool false)] (by kernel_rfl) (by kernel_rfl) ?_
        refine spec_d rfl (fun x _ => gives_run (by go_simp)) ?_
        try simp only [Act.put, List.getElem_toArray, List.getElem_cons_succ, List.getElem_cons_zero, List.setIfInBounds_toArray, List.set_cons_zero, List.set_cons_succ]
        refine spec_d rfl (fun x _ => gives_run (by go_simp)) ?_
        try simp only [Act.put, List.getElem_toArray, List.getElem_cons_succ, List.getElem_cons_zero, List.setIfInBounds_toArray, List.set_cons_zero, List.set_cons_succ]
        refine spec_d rfl (fun x _ => gives_run (by go_simp)) ?_
        try simp only [Act.put, List.getElem_toArray, List.getElem_cons_succ, List.getElem_cons_zero, List.setIfInBounds_toArray, List.set_cons_zero, List.set_cons_succ]
        refine spec_d rfl (fun x _ => gives_run (by go_simp)) ?_
        try simp only [Act.put, List.getElem_toArray, List.getElem_cons_succ, List.getElem_cons_zero, List.setIfInBounds_toArray, List.set_cons_zero, List.set_cons_succ]
        refine spec_d rfl (fun x _ => gives_run (by go_simp)) ?_
        try simp only [Act.put, List.getElem_toArray, List.getElem_cons_succ, List.getElem_cons_zero, List.setIfInBounds_toArray, List.set_cons_zero, List.set_cons_succ]
        refine spec_d rfl (fun x _ => gives_run (by go_simp)) ?_
        try simp only [Act.put, List.getElem_toArray, List.getElem_cons_succ, List.getElem_cons_zero, List.setIfInBounds_toArray, List.set_cons_zero, List.set_cons_succ]
        refine spec_d rfl (fun x _ => gives_run (by go_simp)) ?_
        try simp only [Act.put, List.getElem_toArray, List.getElem_cons_succ, List.getElem_cons_zero, List.setIfInBounds_toArray, List.set_cons_zero, List.set_cons_succ]
        refine spec_d rfl (fun x _ => gives_run (by go_simp)) ?_
        try simp only [Act.put, List.getElem_toArray, List.getElem_cons_succ, List.getElem_cons_zero, List.setIfInBounds_toArray, List.set_cons_zero, List.set_cons_succ]
        refine spec_d rfl (fun x _ => gives_run (by go_simp)) ?_
        try simp only [Act.put, List.getElem_toArray, List.getElem_cons_succ, List.getElem_cons_zero, List.setIfInBounds_toArray, List.set_cons_zero, List.set_cons_succ]
        refine spec_d rfl (fun x _ => gives_run (by go_simp)) ?_
        try simp only [Act.put, List.getElem_toArray, List.getElem_cons_succ, List.getElem_cons_zero, List.setIfInBounds_toArray, List.set_cons_zero, List.set_cons_succ]
        refine spec_d rfl (fun x _ => gives_run (by go_simp)) ?_
        try simp only [Act.put, List.getElem_toArray, List.getElem_cons_succ, List.getElem_cons_zero, List.setIfInBounds_toArray, List.set_cons_zero, List.set_cons_succ]
        refine spec_end (fun z hz => ?_)
        clear hz
        refine wpAny_done (by kernel_rfl) ?_ _
        have HBZ := Lib.hid (HBK.out.trans (((bel_drew wr).trans z.below).mono HBK.out.size))
        clear J0 J1 J2 J3 L0 L1 L2 L3 X6 Y6
        generalize z.world = wz at HBZ ⊢
        clear z
        go_wp2
        go_roundw
        case rel => exact ⟨k + 1, by omega, by go_num, HBZ.out⟩
        case measure => simp [intOf]; omega
      · as_aux_lemma =>
        have hke : N = k := by omega
        subst hke
        have HCL := Lib.hid (cclone_any kd fm fy ln fr A n c B m d xs ls wr (HPA.out _ HB1k.out) hn400 (HSL.out _ HB1k.out) (by omega))
        have d0 := (HOB.out _ HB1k.out).cell 0
        have d1 := (HOB.out _ HB1k.out).cell 1
        have d2 := (HOB.out _ HB1k.out).cell 2
        have d3 := (HOB.out _ HB1k.out).cell 3
        have d4 := (HOB.out _ HB1k.out).cell 4
        have d5 := (HOB.out _ HB1k.out).cell 5
        have d6 := (HOB.out _ HB1k.out).cell 6
        simp at d0 d1 d2 d3 d4 d5 d6
        clear hbk
        go_wp2_with fail
        refine HCL.out.mono ?_
        rintro e w8 ⟨zg, ZB, zd, rfl, HZL, HZR, hb8⟩
        have HB8 := Lib.hid (HB1k.out.trans (hb8.out.mono HB1k.out.size))
        have HB48 := Lib.hid (HB4k.out.trans (hb8.out.mono HB4k.out.size))
        have HWRS : Hid (W1.heap.size ≤ wr.heap.size ∧ W4.heap.size ≤ wr.heap.size) := Lib.hid ⟨HB1k.out.size, HB4k.out.size⟩
        clear hb8 HCL d0 d1 d2 d3 d4 d5 d6 x6
        go_upto_region 13 with (fail)
        obtain ⟨gz, HGZ⟩ : ∃ gz, Hid (w8.heap.size = gz) := ⟨_, Lib.hid rfl⟩
        obtain ⟨W9, HW9⟩ : ∃ W9, Hid (W9 = w8.alloc (.cells #[.int .i64 kd, .int .i64 fm, .bool fy, .int .i64 ln, .int .i64 fr, .slice (some ⟨zg, 0, none⟩) n n, .slice ZB m zd] TC)) := ⟨_, Lib.hid rfl⟩
        have HB89 : Hid (Below w8.heap.size w8 W9) := Lib.hid (by rw [HW9.out]; exact bel1 _ _)
        have HB9 := Lib.hid (HB8.out.trans (HB89.out.mono HB8.out.size))
        have HB49 := Lib.hid (HB48.out.trans (HB89.out.mono HB48.out.size))
        have HZO : Hid (∀ W, Below W9.heap.size W9 W → Obj1 W gz TC #[.int .i64 kd, .int .i64 fm, .bool fy, .int .i64 ln, .int .i64 fr, .slice (some ⟨zg, 0, none⟩) n n, .slice ZB m zd]) := Lib.hid (fun W h => (show Obj1 W9 gz TC _ by rw [HW9.out, ← HGZ.out]; exact Obj1.new _ _ _).kept h)
        have HZRR : Hid (∀ W, Below W9.heap.size W9 W → W.ownsRow wr.heap.size TBS 4 (.slice ZB m zd) m (slC ls)) := Lib.hid (fun W h => own_kept (own_kept HZR.out HB89.out) h)
        rw [← HW9.out, HGZ.out]
        clear HW9 HGZ HB89 HB8 HB48 HZR
        have HZS : Hid (∀ W, Below W9.heap.size W9 W → SlsAt W ZB m ls) := Lib.hid (fun W h => by
          obtain ⟨A', c', e, _, hs⟩ := sls_own (HZRR.out W h) (HSL.out _ HX.out).len
          injection e with e1 _ _
          rw [e1]
          exact hs)
        have HCZ : Hid (∀ z : Kin W9.drew, Calls Try.prog 14 #[.agg #[.int .i64 kd, .int .i64 fm, .bool fy, .int .i64 ln, .int .i64 fr, .slice (some ⟨zg, 0, none⟩) n n, .slice ZB m zd], .int .i64 md] z.world fun e w' => e = .returned (.int .i64 wn) ∧ Below z.world.heap.size z.world w') := Lib.hid (fun z => by
          have h := check_any kd fm fy ln fr (some ⟨zg, 0, none⟩) n n ZB m zd ls md z.world (HZS.out _ ((bel_drew W9).trans z.below)) (by omega) (by omega) hmd
          rwa [HWN.out] at h)
        have HCW : Hid (∀ W, Below W1.heap.size W1 W → Calls Try.prog 14 #[.agg #[.int .i64 kd, .int .i64 fm, .bool fy, .int .i64 ln, .int .i64 fr, .slice A n c, .slice B m d], .int .i64 md] W fun e w' => e = .returned (.int .i64 wn) ∧ Below W.heap.size W w') := Lib.hid (fun W h => by
          have h := check_any kd fm fy ln fr A n c B m d ls md W (HSL.out _ h) (by omega) (by omega) hmd
          rwa [HWN.out] at h)
        have HCW9 : Hid (∀ z : Kin W9.drew, Calls Try.prog 14 #[.agg #[.int .i64 kd, .int .i64 fm, .bool fy, .int .i64 ln, .int .i64 fr, .slice A n c, .slice B m d], .int .i64 md] z.world fun e w' => e = .returned (.int .i64 wn) ∧ Below z.world.heap.size z.world w') := Lib.hid (fun z => HCW.out z.world (HB9.out.trans (((bel_drew W9).trans z.below).mono HB9.out.size)))
        have X0 : ∀ z : Kin W9.drew, Obj1 z.world gz TC #[.int .i64 kd, .int .i64 fm, .bool fy, .int .i64 ln, .int .i64 fr, .slice (some ⟨zg, 0, none⟩) n n, .slice ZB m zd] := fun z => HZO.out _ ((bel_drew W9).trans z.below)
        have Y0 : ∀ z : Kin W9.drew, Obj1 z.world gb TC #[.int .i64 kd, .int .i64 fm, .bool fy, .int .i64 ln, .int .i64 fr, .slice A n c, .slice B m d] := fun z => HOB.out _ (HB9.out.trans (((bel_drew W9).trans z.below).mono HB9.out.size))
        have K0 : ∀ z : Kin W9.drew, z.world.cell? ⟨gz, 0, none⟩ = some (.int .i64 kd) := fun z => (X0 z).cell 0
        have K1 : ∀ z : Kin W9.drew, z.world.cell? ⟨gz, 1, none⟩ = some (.int .i64 fm) := fun z => (X0 z).cell 1
        have K2 : ∀ z : Kin W9.drew, z.world.cell? ⟨gz, 2, none⟩ = some (.bool fy) := fun z => (X0 z).cell 2
        have K3 : ∀ z : Kin W9.drew, z.world.cell? ⟨gz, 3, none⟩ = some (.int .i64 ln) := fun z => (X0 z).cell 3
        have K4 : ∀ z : Kin W9.drew, z.world.cell? ⟨gz, 4, none⟩ = some (.int .i64 fr) := fun z => (X0 z).cell 4
        have K5 : ∀ z : Kin W9.drew, z.world.cell? ⟨gz, 5, none⟩ = some (.slice (some ⟨zg, 0, none⟩) n n) := fun z => (X0 z).cell 5
        have K6 : ∀ z : Kin W9.drew, z.world.cell? ⟨gz, 6, none⟩ = some (.slice ZB m zd) := fun z => (X0 z).cell 6
        have M0 : ∀ z : Kin W9.drew, z.world.cell? ⟨gb, 0, none⟩ = some (.int .i64 kd) := fun z => (Y0 z).cell 0
        have M1 : ∀ z : Kin W9.drew, z.world.cell? ⟨gb, 1, none⟩ = some (.int .i64 fm) := fun z => (Y0 z).cell 1
        have M2 : ∀ z : Kin W9.drew, z.world.cell? ⟨gb, 2, none⟩ = some (.bool fy) := fun z => (Y0 z).cell 2
        have M3 : ∀ z : Kin W9.drew, z.world.cell? ⟨gb, 3, none⟩ = some (.int .i64 ln) := fun z => (Y0 z).cell 3
        have M4 : ∀ z : Kin W9.drew, z.world.cell? ⟨gb, 4, none⟩ = some (.int .i64 fr) := fun z => (Y0 z).cell 4
        have M5 : ∀ z : Kin W9.drew, z.world.cell? ⟨gb, 5, none⟩ = some (.slice A n c) := fun z => (Y0 z).cell 5
        have M6 : ∀ z : Kin W9.drew, z.world.cell? ⟨gb, 6, none⟩ = some (.slice B m d) := fun z => (Y0 z).cell 6
        refine wp_region_specL 16 [.d (.pointer (some ⟨gz, 6, none⟩)), .d (.slice ZB m zd), .d (.int .i64 m), .d (.pointer (some ⟨gb, 6, none⟩)), .d (.slice B m d), .d (.int .i64 m), .d (.bool false), .d (.bool false), .d (.agg #[.int .i64 kd, .int .i64 fm, .bool fy, .int .i64 ln, .int .i64 fr, .slice (some ⟨zg, 0, none⟩) n n, .slice ZB m zd]), .d (.int .i64 md), .d (.int .i64 wn), .d (.agg #[.int .i64 kd, .int .i64 fm, .bool fy, .int .i64 ln, .int .i64 fr, .slice A n c, .slice B m d]), .d (.int .i64 md), .d (.int .i64 wn), .d (.bool false), .d (.bool false)] (by kernel_rfl) (by kernel_rfl) ?_
        refine spec_d rfl (fun x _ => gives_run (by go_simp)) ?_
        try simp only [Act.put, List.getElem_toArray, List.getElem_cons_succ, List.getElem_cons_zero, List.setIfInBounds_toArray, List.set_cons_zero, List.set_cons_succ]
        refine spec_d rfl (fun x _ => gives_run (by go_simp)) ?_
        try simp only [Act.put, List.getElem_toArray, List.getElem_cons_succ, List.getElem_cons_zero, List.setIfInBounds_toArray, List.set_cons_zero, List.set_cons_succ]
        refine spec_d rfl (fun x _ => gives_run (by go_simp)) ?_
        try simp only [Act.put, List.getElem_toArray, List.getElem_cons_succ, List.getElem_cons_zero, List.setIfInBounds_toArray, List.set_cons_zero, List.set_cons_succ]
        refine spec_d rfl (fun x _ => gives_run (by go_simp)) ?_
        try simp only [Act.put, List.getElem_toArray, List.getElem_cons_succ, List.getElem_cons_zero, List.setIfInBounds_toArray, List.set_cons_zero, List.set_cons_succ]
        refine spec_d rfl (fun x _ => gives_run (by go_simp)) ?_
        try simp only [Act.put, List.getElem_toArray, List.getElem_cons_succ, List.getElem_cons_zero, List.setIfInBounds_toArray, List.set_cons_zero, List.set_cons_succ]
        refine spec_d rfl (fun x _ => gives_run (by go_simp)) ?_
        try simp only [Act.put, List.getElem_toArray, List.getElem_cons_succ, List.getElem_cons_zero, List.setIfInBounds_toArray, List.set_cons_zero, List.set_cons_succ]
        refine spec_d rfl (fun x _ => gives_run (by go_simp)) ?_
        try simp only [Act.put, List.getElem_toArray, List.getElem_cons_succ, List.getElem_cons_zero, List.setIfInBounds_toArray, List.set_cons_zero, List.set_cons_succ]
        refine spec_d rfl (fun x _ => gives_run (by go_simp)) ?_
        try simp only [Act.put, List.getElem_toArray, List.getElem_cons_succ, List.getElem_cons_zero, List.setIfInBounds_toArray, List.set_cons_zero, List.set_cons_succ]
        refine spec_d rfl (fun x _ => gives_run (by go_simp)) ?_
        try simp only [Act.put, List.getElem_toArray, List.getElem_cons_succ, List.getElem_cons_zero, List.setIfInBounds_toArray, List.set_cons_zero, List.set_cons_succ]
        refine spec_d rfl (fun x _ => gives_run (by go_simp)) ?_
        try simp only [Act.put, List.getElem_toArray, List.getElem_cons_succ, List.getElem_cons_zero, List.setIfInBounds_toArray, List.set_cons_zero, List.set_cons_succ]
        refine spec_d rfl (fun z _ => gives_det (by go_simp) (HCZ.out z)) ?_
        try simp only [Act.put, List.getElem_toArray, List.getElem_cons_succ, List.getElem_cons_zero, List.setIfInBounds_toArray, List.set_cons_zero, List.set_cons_succ]
        refine spec_d rfl (fun x _ => gives_run (by go_simp)) ?_
        try simp only [Act.put, List.getElem_toArray, List.getElem_cons_succ, List.getElem_cons_zero, List.setIfInBounds_toArray, List.set_cons_zero, List.set_cons_succ]
        refine spec_d rfl (fun x _ => gives_run (by go_simp)) ?_
        try simp only [Act.put, List.getElem_toArray, List.getElem_cons_succ, List.getElem_cons_zero, List.setIfInBounds_toArray, List.set_cons_zero, List.set_cons_succ]
        refine spec_d rfl (fun z _ => gives_det (by go_simp) (HCW9.out z)) ?_
        try simp only [Act.put, List.getElem_toArray, List.getElem_cons_succ, List.getElem_cons_zero, List.setIfInBounds_toArray, List.set_cons_zero, List.set_cons_succ]
        refine spec_d rfl (fun x _ => gives_run (by go_simp)) ?_
        try simp only [Act.put, List.getElem_toArray, List.getElem_cons_succ, List.getElem_cons_zero, List.setIfInBounds_toArray, List.set_cons_zero, List.set_cons_succ]
        refine spec_d rfl (fun x _ => gives_run (by go_simp)) ?_
        try simp only [Act.put, List.getElem_toArray, List.getElem_cons_succ, List.getElem_cons_zero, List.setIfInBounds_toArray, List.set_cons_zero, List.set_cons_succ]
        refine spec_end (fun z hz => ?_)
        clear hz
        refine wpAny_done (by kernel_rfl) ?_ _
        have hbz := (bel_drew W9).trans z.below
        have HB9a := Lib.hid hbz
        have HB1a := Lib.hid (HB9.out.trans (hbz.mono HB9.out.size))
        have HB4a := Lib.hid (HB49.out.trans (hbz.mono HB49.out.size))
        clear X0 Y0 K0 M0 K1 M1 K2 M2 K3 M3 K4 M4 K5 M5 K6 M6 HCZ HCW9 hbz
        generalize z.world = wa at HB9a HB1a HB4a ⊢
        clear z
        have z6 := (HZO.out _ HB9a.out).cell 6
        simp at z6
        by_cases hm0 : m = 0
        · as_aux_lemma =>
          have hm0i : ¬ (0 : Int) < (m : Int) := by omega
          clear hm0
          go_upto_region 19 with (fail)
          clear z6
          have HBQ := Lib.hid (HB1.out.trans (HB1a.out.mono HB1.out.size))
          obtain ⟨wb, HWB⟩ : ∃ wb, Hid (wb = wa) := ⟨_, Lib.hid rfl⟩
          have HB1b : Hid (Below W1.heap.size W1 wb) := Lib.hid (by rw [HWB.out]; exact HB1a.out)
          have HB4b : Hid (Below W4.heap.size W4 wb) := Lib.hid (by rw [HWB.out]; exact HB4a.out)
          rw [← HWB.out]
          clear HWB HB1a HB4a HB9a HBQ hm0i
          have x6 := (HFX.out _ HB4b.out).cell 6
          simp at x6
          have d0 := (HOB.out _ HB1b.out).cell 0
          have d1 := (HOB.out _ HB1b.out).cell 1
          have d2 := (HOB.out _ HB1b.out).cell 2
          have d3 := (HOB.out _ HB1b.out).cell 3
          have d4 := (HOB.out _ HB1b.out).cell 4
          have d5 := (HOB.out _ HB1b.out).cell 5
          have d6 := (HOB.out _ HB1b.out).cell 6
          simp at d0 d1 d2 d3 d4 d5 d6
          go_wp2_with fail
          refine (HCW.out _ HB1b.out).mono ?_
          rintro e wc ⟨rfl, hbc⟩
          have HB1c := Lib.hid (HB1b.out.trans (hbc.mono HB1b.out.size))
          have HB4c := Lib.hid (HB4b.out.trans (hbc.mono HB4b.out.size))
          clear hbc x6 d0 d1 d2 d3 d4 d5 d6
          by_cases hw0 : wn = 0
          · have hNe := HSAME.out hw0
            subst hw0
            have x6 := (HFX.out _ HB4c.out).cell 6
            have d6 := (HOB.out _ HB1c.out).cell 6
            rw [hNe] at x6
            simp at x6 d6
            clear hNe
            go_wp2_with fail
            refine (one_any _).mono ?_
            rintro e wd ⟨rfl, hbd⟩
            have HBD := Lib.hid (HB1c.out.trans (hbd.mono HB1c.out.size))
            clear hbd x6 d6
            go_wp2
            go_ret
            exact ⟨rfl, HB1.out.trans (HBD.out.mono HB1.out.size)⟩
          · have hwb : (wn != 0) = true := by simpa using hw0
            clear hw0
            go_wp2_with fail
            refine (one_any _).mono ?_
            rintro e wd ⟨rfl, hbd⟩
            have HBD := Lib.hid (HB1c.out.trans (hbd.mono HB1c.out.size))
            clear hbd
            go_wp2
            go_ret
            exact ⟨rfl, HB1.out.trans (HBD.out.mono HB1.out.size)⟩
        · as_aux_lemma =>
          have hm0i : (0 : Int) < (m : Int) := by omega
          have hm1 : 0 < m := by omega
          clear hm0
          obtain ⟨x, hx⟩ : ∃ x, ls[0]? = some x := ⟨_, List.getElem?_eq_getElem (by rw [(HSL.out _ HX.out).len]; exact hm1)⟩
          obtain ⟨X, hX, hXb⟩ := xor1 x.m
          obtain ⟨b1, o1, rfl, hb1, j0, j1, j2, j3⟩ := (HZS.out _ HB9a.out).four hm1 hx
          have HRB : Hid (∀ W, Below W9.heap.size W9 W → ∃ cur, Obj1 W b1 TBS cur ∧ wr.heap.size ≤ b1 ∧ o1 = 0) := Lib.hid (fun W h => by
            rcases (HZRR.out W h).2 with ⟨_, e⟩ | ⟨g2, cap, cur, e1, hb2, hg2, _⟩
            · omega
            · injection e1 with e1 _ _
              injection e1 with e1
              injection e1 with e3 e4 _
              subst e3
              exact ⟨cur, hg2, hb2, e4⟩)
          obtain ⟨cur0, hcur0, hbz, rfl⟩ := HRB.out _ HB9a.out
          have HBZ1 := Lib.hid hbz
          have HNE : Hid (gz ≠ b1) := Lib.hid (fun e => by
            have h1 := HZO.out _ HB9a.out
            rw [e] at h1
            have h2 := hcur0
            unfold Obj1 at h1 h2
            rw [h1] at h2
            injection h2 with h2
            injection h2 with _ h3 _
            exact absurd h3 (by decide))
          have HX0 := Lib.hid hx
          simp only [Nat.zero_mul, Nat.zero_add, Nat.add_zero] at j0 j1 j2 j3
          have J0 : ∀ z : Kin wa.drew, z.world.cell? ⟨b1, 0, none⟩ = some (.int .i64 x.m) := fun z => Kin.at (w := wa.drew) j0 z
          have Z6 : ∀ z : Kin wa.drew, z.world.cell? ⟨gz, 6, none⟩ = some (.slice (some ⟨b1, 0, none⟩) m zd) := fun z => Kin.at (w := wa.drew) z6 z
          clear hbz hcur0 hb1 hx
          go_upto_region 16 with (fail)
          clear z6 j0 j1 j2 j3
          refine wp_region_specL 10 [.d (.pointer (some ⟨gz, 6, none⟩)), .d (.slice (some ⟨b1, 0, none⟩) m zd), .d (.pointer (some ⟨gz, 6, none⟩)), .d (.slice (some ⟨b1, 0, none⟩) m zd), .d (.pointer (some ⟨b1, 0, none⟩)), .d (.pointer (some ⟨b1, 0, none⟩)), .d (.int .i64 x.m), .d (.int .i64 X), .d (.pointer (some ⟨b1, 0, none⟩)), .d (.pointer (some ⟨b1, 0, none⟩))] (by kernel_rfl) (by kernel_rfl) ?_
          refine spec_d rfl (fun x _ => gives_run (by go_simp)) ?_
          try simp only [Act.put, List.getElem_toArray, List.getElem_cons_succ, List.getElem_cons_zero, List.setIfInBounds_toArray, List.set_cons_zero, List.set_cons_succ]
          refine spec_d rfl (fun x _ => gives_run (by go_simp)) ?_
          try simp only [Act.put, List.getElem_toArray, List.getElem_cons_succ, List.getElem_cons_zero, List.setIfInBounds_toArray, List.set_cons_zero, List.set_cons_succ]
          refine spec_d rfl (fun x _ => gives_run (by go_simp)) ?_
          try simp only [Act.put, List.getElem_toArray, List.getElem_cons_succ, List.getElem_cons_zero, List.setIfInBounds_toArray, List.set_cons_zero, List.set_cons_succ]
          refine spec_d rfl (fun x _ => gives_run (by go_simp)) ?_
          try simp only [Act.put, List.getElem_toArray, List.getElem_cons_succ, List.getElem_cons_zero, List.setIfInBounds_toArray, List.set_cons_zero, List.set_cons_succ]
          refine spec_d rfl (fun x _ => gives_run (by go_simp)) ?_
          try simp only [Act.put, List.getElem_toArray, List.getElem_cons_succ, List.getElem_cons_zero, List.setIfInBounds_toArray, List.set_cons_zero, List.set_cons_succ]
          refine spec_d rfl (fun x _ => gives_run (by go_simp)) ?_
          try simp only [Act.put, List.getElem_toArray, List.getElem_cons_succ, List.getElem_cons_zero, List.setIfInBounds_toArray, List.set_cons_zero, List.set_cons_succ]
          refine spec_d rfl (fun x _ => gives_run (by go_simp)) ?_
          try simp only [Act.put, List.getElem_toArray, List.getElem_cons_succ, List.getElem_cons_zero, List.setIfInBounds_toArray, List.set_cons_zero, List.set_cons_succ]
          refine spec_d rfl (fun x _ => gives_run (by go_simp)) ?_
          try simp only [Act.put, List.getElem_toArray, List.getElem_cons_succ, List.getElem_cons_zero, List.setIfInBounds_toArray, List.set_cons_zero, List.set_cons_succ]
          refine spec_d rfl (fun x _ => gives_run (by go_simp)) ?_
          try simp only [Act.put, List.getElem_toArray, List.getElem_cons_succ, List.getElem_cons_zero, List.setIfInBounds_toArray, List.set_cons_zero, List.set_cons_succ]
          refine spec_d rfl (fun x _ => gives_run (by go_simp)) ?_
          try simp only [Act.put, List.getElem_toArray, List.getElem_cons_succ, List.getElem_cons_zero, List.setIfInBounds_toArray, List.set_cons_zero, List.set_cons_succ]
          refine spec_end (fun z hz => ?_)
          clear hz
          have hzb := (bel_drew wa).trans z.below
          have HB9z := Lib.hid (HB9a.out.trans (hzb.mono HB9a.out.size))
          have HB1z := Lib.hid (HB1a.out.trans (hzb.mono HB1a.out.size))
          have HB4z := Lib.hid (HB4a.out.trans (hzb.mono HB4a.out.size))
          clear J0 Z6 hzb
          generalize z.world = wy at HB9z HB1z HB4z ⊢
          clear z
          obtain ⟨cur1, hcur1, _, _⟩ := HRB.out _ HB9z.out
          obtain ⟨b1', o1', e9, _, y0, y1, y2, y3⟩ := (HZS.out _ HB9z.out).four hm1 HX0.out
          obtain ⟨rfl, rfl⟩ : b1 = b1' ∧ 0 = o1' := by
            injection e9 with e9
            injection e9 with e1 e2 _
            exact ⟨e1, e2⟩
          simp only [Nat.zero_mul, Nat.zero_add, Nat.add_zero] at y0 y1 y2 y3
          have fz : wy.frozen? ⟨b1, 0, none⟩ = false := Obj1.free hcur1 0
          change wpAny _ _ _ _ (0 + 1) _ _ _
          refine wpAny_ready (rs := [10]) (by kernel_rfl) (by simp) ?_
          refine AllReady.cons rfl (fun KK hK => ?_) AllReady.nil
          go_simp
          refine hK _ _ ?_
          clear hK KK e9
          try simp only [Act.put, List.getElem_toArray, List.getElem_cons_succ, List.getElem_cons_zero, List.setIfInBounds_toArray, List.set_cons_zero, List.set_cons_succ]
          refine wpAny_done (by kernel_rfl) ?_ _
          obtain ⟨s0, s1⟩ := set_at hcur1 (.int .i64 X) _ y0
          have t1 := (s1 1 (by omega)).trans y1
          have t2 := (s1 2 (by omega)).trans y2
          have t3 := (s1 3 (by omega)).trans y3
          have HWY : Hid (Wrote b1 wy (wy.setCell ⟨b1, 0, none⟩ (.int .i64 X))) := Lib.hid ((Wrote.refl b1 wy).set (p := ⟨b1, 0, none⟩) (.inl rfl) _)
          have HB1w := Lib.hid (HB1z.out.trans (HWY.out.below (Nat.le_trans HWRS.out.1 HBZ1.out) HB1z.out.size))
          have HB4w := Lib.hid (HB4z.out.trans (HWY.out.below (Nat.le_trans HWRS.out.2 HBZ1.out) HB4z.out.size))
          have HZw : Hid (Obj1 (wy.setCell ⟨b1, 0, none⟩ (.int .i64 X)) gz TC #[.int .i64 kd, .int .i64 fm, .bool fy, .int .i64 ln, .int .i64 fr, .slice (some ⟨zg, 0, none⟩) n n, .slice (some ⟨b1, 0, none⟩) m zd]) := Lib.hid ((HZO.out _ HB9z.out).touch HWY.out HNE.out)
          generalize wy.setCell ⟨b1, 0, none⟩ (.int .i64 X) = wv at s0 s1 t1 t2 t3 HWY HB1w HB4w HZw ⊢
          clear s1 hcur1 y0 y1 y2 y3 fz
          obtain ⟨b0, o0, rfl, _, i0, i1, i2, i3⟩ := (HSL.out _ HB1w.out).four hm1 HX0.out
          simp only [Nat.zero_mul, Nat.zero_add, Nat.add_zero] at i0 i1 i2 i3
          have d6 := (HOB.out _ HB1w.out).cell 6
          have z6 := HZw.out.cell 6
          simp at d6 z6
          have I0 : ∀ z : Kin wv.drew, z.world.cell? ⟨b0, o0, none⟩ = some (.int .i64 x.m) := fun z => Kin.at (w := wv.drew) i0 z
          have I1 : ∀ z : Kin wv.drew, z.world.cell? ⟨b0, o0 + 1, none⟩ = some (.bool x.y) := fun z => Kin.at (w := wv.drew) i1 z
          have I2 : ∀ z : Kin wv.drew, z.world.cell? ⟨b0, o0 + 2, none⟩ = some (.int .i64 x.t) := fun z => Kin.at (w := wv.drew) i2 z
          have I3 : ∀ z : Kin wv.drew, z.world.cell? ⟨b0, o0 + 3, none⟩ = some (.int .i64 x.b) := fun z => Kin.at (w := wv.drew) i3 z
          have T0 : ∀ z : Kin wv.drew, z.world.cell? ⟨b1, 0, none⟩ = some (.int .i64 X) := fun z => Kin.at (w := wv.drew) s0 z
          have T1 : ∀ z : Kin wv.drew, z.world.cell? ⟨b1, 1, none⟩ = some (.bool x.y) := fun z => Kin.at (w := wv.drew) t1 z
          have T2 : ∀ z : Kin wv.drew, z.world.cell? ⟨b1, 2, none⟩ = some (.int .i64 x.t) := fun z => Kin.at (w := wv.drew) t2 z
          have T3 : ∀ z : Kin wv.drew, z.world.cell? ⟨b1, 3, none⟩ = some (.int .i64 x.b) := fun z => Kin.at (w := wv.drew) t3 z
          have D6 : ∀ z : Kin wv.drew, z.world.cell? ⟨gb, 6, none⟩ = some (.slice (some ⟨b0, o0, none⟩) m d) := fun z => Kin.at (w := wv.drew) d6 z
          have Z6 : ∀ z : Kin wv.drew, z.world.cell? ⟨gz, 6, none⟩ = some (.slice (some ⟨b1, 0, none⟩) m zd) := fun z => Kin.at (w := wv.drew) z6 z
          clear s0 t1 t2 t3 i0 i1 i2 i3
          go_upto_region 17 with (fail)
          clear d6 z6
          refine wp_region_specL 9 [.d (.pointer (some ⟨gb, 6, none⟩)), .d (.slice (some ⟨b0, o0, none⟩) m d), .d (.pointer (some ⟨b0, o0, none⟩)), .d (.agg #[.int .i64 x.m, .bool x.y, .int .i64 x.t, .int .i64 x.b]), .d (.pointer (some ⟨gz, 6, none⟩)), .d (.slice (some ⟨b1, 0, none⟩) m zd), .d (.pointer (some ⟨b1, 0, none⟩)), .d (.agg #[.int .i64 X, .bool x.y, .int .i64 x.t, .int .i64 x.b]), .d (.bool false)] (by kernel_rfl) (by kernel_rfl) ?_
          refine spec_d rfl (fun x _ => gives_run (by go_simp)) ?_
          try simp only [Act.put, List.getElem_toArray, List.getElem_cons_succ, List.getElem_cons_zero, List.setIfInBounds_toArray, List.set_cons_zero, List.set_cons_succ]
          refine spec_d rfl (fun x _ => gives_run (by go_simp)) ?_
          try simp only [Act.put, List.getElem_toArray, List.getElem_cons_succ, List.getElem_cons_zero, List.setIfInBounds_toArray, List.set_cons_zero, List.set_cons_succ]
          refine spec_d rfl (fun x _ => gives_run (by go_simp)) ?_
          try simp only [Act.put, List.getElem_toArray, List.getElem_cons_succ, List.getElem_cons_zero, List.setIfInBounds_toArray, List.set_cons_zero, List.set_cons_succ]
          refine spec_d rfl (fun x _ => gives_run (by go_simp)) ?_
          try simp only [Act.put, List.getElem_toArray, List.getElem_cons_succ, List.getElem_cons_zero, List.setIfInBounds_toArray, List.set_cons_zero, List.set_cons_succ]
          refine spec_d rfl (fun x _ => gives_run (by go_simp)) ?_
          try simp only [Act.put, List.getElem_toArray, List.getElem_cons_succ, List.getElem_cons_zero, List.setIfInBounds_toArray, List.set_cons_zero, List.set_cons_succ]
          refine spec_d rfl (fun x _ => gives_run (by go_simp)) ?_
          try simp only [Act.put, List.getElem_toArray, List.getElem_cons_succ, List.getElem_cons_zero, List.setIfInBounds_toArray, List.set_cons_zero, List.set_cons_succ]
          refine spec_d rfl (fun x _ => gives_run (by go_simp)) ?_
          try simp only [Act.put, List.getElem_toArray, List.getElem_cons_succ, List.getElem_cons_zero, List.setIfInBounds_toArray, List.set_cons_zero, List.set_cons_succ]
          refine spec_d rfl (fun x _ => gives_run (by go_simp)) ?_
          try simp only [Act.put, List.getElem_toArray, List.getElem_cons_succ, List.getElem_cons_zero, List.setIfInBounds_toArray, List.set_cons_zero, List.set_cons_succ]
          refine spec_d rfl (fun x _ => gives_run (by go_simp)) ?_
          try simp only [Act.put, List.getElem_toArray, List.getElem_cons_succ, List.getElem_cons_zero, List.setIfInBounds_toArray, List.set_cons_zero, List.set_cons_succ]
          refine spec_end (fun z hz => ?_)
          clear hz
          refine wpAny_done (by kernel_rfl) ?_ _
          have hzb := (bel_drew wv).trans z.below
          have HB1b := Lib.hid (HB1w.out.trans (hzb.mono HB1w.out.size))
          have HB4b := Lib.hid (HB4w.out.trans (hzb.mono HB4w.out.size))
          clear D6 Z6 I0 T0 I1 T1 I2 T2 I3 T3 hzb
          generalize z.world = wb at HB1b HB4b ⊢
          clear z
          have x6 := (HFX.out _ HB4b.out).cell 6
          simp at x6
          have d0 := (HOB.out _ HB1b.out).cell 0
          have d1 := (HOB.out _ HB1b.out).cell 1
          have d2 := (HOB.out _ HB1b.out).cell 2
          have d3 := (HOB.out _ HB1b.out).cell 3
          have d4 := (HOB.out _ HB1b.out).cell 4
          have d5 := (HOB.out _ HB1b.out).cell 5
          have d6 := (HOB.out _ HB1b.out).cell 6
          simp at d0 d1 d2 d3 d4 d5 d6
          go_wp2_with fail
          refine (HCW.out _ HB1b.out).mono ?_
          rintro e wc ⟨rfl, hbc⟩
          have HB1c := Lib.hid (HB1b.out.trans (hbc.mono HB1b.out.size))
          have HB4c := Lib.hid (HB4b.out.trans (hbc.mono HB4b.out.size))
          clear hbc x6 d0 d1 d2 d3 d4 d5 d6
          by_cases hw0 : wn = 0
          · have hNe := HSAME.out hw0
            subst hw0
            have x6 := (HFX.out _ HB4c.out).cell 6
            have d6 := (HOB.out _ HB1c.out).cell 6
            rw [hNe] at x6
            simp at x6 d6
            clear hNe
            go_wp2_with fail
            refine (one_any _).mono ?_
            rintro e wd ⟨rfl, hbd⟩
            have HBD := Lib.hid (HB1c.out.trans (hbd.mono HB1c.out.size))
            clear hbd x6 d6
            go_wp2
            go_ret
            exact ⟨rfl, HB1.out.trans (HBD.out.mono HB1.out.size)⟩
          · have hwb : (wn != 0) = true := by simpa using hw0
            clear hw0
            go_wp2_with fail
            refine (one_any _).mono ?_
            rintro e wd ⟨rfl, hbd⟩
            have HBD := Lib.hid (HB1c.out.trans (hbd.mono HB1c.out.size))
            clear hbd
            go_wp2
            go_ret
            exact ⟨rfl, HB1.out.trans (HBD.out.mono HB1.out.size)⟩
theorem walk (cs : Array Value) (md : Int) (w : World) (hr : Reads w shC cs.toList) (b0 : -9223372036854775808 ≤ md) (b1 : md ≤ 9223372036854775807) :
    Calls Try.prog 4 #[.agg cs, .int .i64 md] w fun e w' => e = .returned (.bool true) ∧ Below w.heap.size w w' := by
  obtain ⟨kd, fm, fy, ln, fr, A, n, c, B, m, d, xs, ls, rfl, hA, hW, hn, hm, _⟩ := course_in hr
  exact walk_yes kd fm fy ln fr A n c B m d xs ls md w hA hW hn hm b1

set_option maxRecDepth 100000 in
theorem lifted (os : Os) (started : os.Started) (H : Type) (enc : TypeId × Value → H) :
    ReturnsInHanded {} Try.checked os 4 .any (Rows.budgetFitsSpec.pre6 enc Try.prog Try.f4 Rows.budgetFitsRow.domain false) (Rows.budgetFitsSpec.post enc Try.prog Try.f4 false true false false) := by
  refine returnsInHanded_of_change (C := Try.checked) own started (by kernel_rfl) Try.func4
    (ChangeSpec.witness6 (enc := enc) (C := Try.checked) false ⟨#[], #[.agg #[.int .i64 0, .int .i64 0, .bool false, .int .i64 0, .int .i64 0, .slice none 0 0, .slice none 0 0], .int .i64 0], []⟩ 8 (by kernel_rfl) (by kernel_rfl) (by kernel_rfl) (by kernel_rfl)) ?_
  intro W base args ds gs before hval0 hW hcnd _
  have hval : ∀ (j : Nat) t v, Try.f4.params[j]? = some t → args[j]? = some v → Value.okWide Try.prog W .any base t v := hval0
  have hW' := hW
  obtain ⟨p, q, hA0, hV, rfl, hfz, hnd⟩ := hW
  have hA : DataW.TrodAll enc Try.prog W 0 (fun _ => true) true Try.f4.params.toList args.toList ds p := hA0
  rw [Try.params4] at hA hval
  obtain ⟨v0, vs0, d0, ds0, p0, q0, hargs, rfl, rfl, h0, r0⟩ := trodAll_cons hA
  obtain ⟨v1, vs1, d1, ds1, p1, q1, rfl, rfl, rfl, h1, r1⟩ := trodAll_cons r0
  obtain ⟨rfl, rfl, rfl⟩ := trodAll_nil r1
  obtain rfl : args = #[v0, v1] := by cases args; simp_all
  obtain ⟨rfl, rfl⟩ := trodVars_none hV
  have k0 := h0
  have lt0 : ∀ x ∈ p0, x.block < W.heap.size := by obtain ⟨m, hm⟩ := k0; exact DataW.trod_lt m _ _ _ hm
  obtain ⟨c, rfl⟩ := okWide_agg (by first | exact .inl ⟨_, Try.underlying27⟩ | exact .inr ⟨_, _, Try.underlying27⟩) (hval 0 27 v0 rfl rfl)
  have rd0 := reads_cells (sh := shC) 30 (by kernel_rfl) k0
  obtain ⟨modules, rfl, rfl, rfl, wf1⟩ := open_int Try.underlying3 (hval 1 3 v1 rfl rfl) h1
  have bd1 := bounds_i64 wf1
  clear hA0 hval0
  refine (walk c modules W rd0 bd1.1 bd1.2).mono fun e W' ⟨he, bel⟩ => ?_
  subst he
  exact ⟨_, rfl, _, _, _, [], _, [], hW', trodAll_mk1 (shut_bool Try.underlying4 _), (trodAll_cons_mk (Below.trod laidOut (by kernel_rfl) (of_decide_eq_true (by kernel_rfl)) k0 bel lt0) (trodAll_cons_mk (shut_int Try.underlying3 wf1) trodAll_mk0)), rfl, bel.frame _, fun h => by cases h⟩

theorem over : Rows.budgetFitsRow.holds Try.pinned (OpenSpec.ofChange Rows.budgetFitsSpec) :=
  OpenClaim.holds_of_wide 4 Try.f4 rfl rfl rfl rfl rfl rfl rfl ⟨rfl, rfl, rfl, rfl, rfl⟩ rfl rfl rfl rfl rfl (by kernel_rfl) Try.func4 (by kernel_rfl)
    (of_decide_eq_true (by kernel_rfl)) (by unfold Func.isWrapper; first | (rw [if_pos (by decide +kernel)]; kernel_rfl) | (rw [if_neg (by decide +kernel)]; exact ⟨rfl, rfl⟩))
    (fun os started H enc _ => lifted os started H enc)

/-- The statement. -/
theorem proved : Rows.BudgetFitsSaid := over
end Go.Proofs.Ytejhjpdcodloaaa.lawBudgetFits
