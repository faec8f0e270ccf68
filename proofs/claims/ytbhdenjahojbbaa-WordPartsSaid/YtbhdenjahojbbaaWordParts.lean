/- The bits of words, one behind the other, are those of each, and they have an odd number of ones just if an odd number of them has: for every two slices of bytes; no condition. -/
import Derived.Test.YtbhdenjahojbbaaWrdC
import Derived.Test.YtbhdenjahojbbaaPush
import Derived.Test.YtbhdenjahojbbaaSh
import Derived.Test.YtbhdenjahojbbaaRows
import Derived.WalkKit
import Derived.ProofKit
import Derived.OpenShut
import Derived.ShutString
import Derived.ChangeOld
import Derived.Below
namespace Go.Proofs.Ytbhdenjahojbbaa.lawWordParts
open Go.ChangeShapes Go.WideShapes Go.ChangeAt Go.RowKit Base
open Go.ChangeMaps (open_string shut_string)
set_option linter.unusedVariables false
set_option linter.unusedSimpArgs false
theorem own : ownKnob Try.prog.godebug = none := by kernel_rfl
theorem laidOut : laidOutB Try.prog = true := by kernel_rfl
open Ly2

theorem bits_c (N : Nat) (A : Option Addr) (n c : Nat) (vs : List Nat) (bs : List Bool) (w : World) (hb : bitsOf vs = bs) (h : Lst w A n (vs.map fun (x : Nat) => Value.int .u8 x)) (hx : ∀ x ∈ vs, x < 256) (hn : n ≤ 1000000) (hN : 8 * n = N) :
    Calls Try.prog 24 #[.slice A n c] w fun e w' => ∃ B d, e = .returned (.slice B (N) d) ∧ Hid (w'.ownsRow w.heap.size 4 1 (.slice B (N) d) (N) (bs.map Value.bool)) ∧ Hid (Lst w' B (N) (bs.map Value.bool)) ∧ Hid (NilZ B (N) d) ∧ Below w.heap.size w w' := by
  subst hb hN
  refine (bits_any A n c vs w h hx hn).mono ?_
  rintro e w' ⟨v, rfl, hown, hb⟩
  rcases hown.2 with ⟨rfl, h0⟩ | ⟨g, cap, cur, rfl, r⟩
  · have hbn : bitsOf vs = [] := by
      have := hown.1
      simp at this
      exact List.eq_nil_of_length_eq_zero (by omega)
    rw [h0, hbn] at hown ⊢
    exact ⟨none, 0, rfl, Lib.hid hown, Lib.hid (Lst.nil _ _), Lib.hid (fun _ => ⟨rfl, rfl⟩), hb⟩
  · obtain ⟨A', c', he, _, _, hl⟩ := Lst.of_own hown
    cases he
    exact ⟨_, _, rfl, Lib.hid hown, Lib.hid hl, Lib.hid (fun h => by cases h), hb⟩
theorem parity_c (A : Option Addr) (n c : Nat) (vs : List Nat) (p : Bool) (w : World) (hp : par (bitsOf vs) = p) (h : Lst w A n (vs.map fun (x : Nat) => Value.int .u8 x)) (hx : ∀ x ∈ vs, x < 256) (hn : n ≤ 1000000) :
    Calls Try.prog 28 #[.slice A n c] w fun e w' => e = .returned (.bool p) ∧ Below w.heap.size w w' := by
  subst hp; exact parity_any A n c vs w h hx hn

set_option maxRecDepth 100000 in
theorem walk_long (A B : Option Addr) (n c m d : Nat) (w : World) (hn : n ≤ 9223372036854775807) (hm : m ≤ 9223372036854775807) (h : 200 < n ∨ 200 < m) :
    Calls Try.prog 10 #[.slice A n c, .slice B m d] w fun e w' => e = .returned (.bool true) ∧ Below w.heap.size w w' := by
  rcases (show 200 < n ∨ (n ≤ 200 ∧ 200 < m) by omega) with g | ⟨g, g1⟩
  all_goals
    clear h
    go_enter Try.func10, Try.ntmps10
    go_wp2
    go_ret
    exact ⟨rfl, Below.refl _ _⟩

set_option maxRecDepth 100000 in
set_option maxHeartbeats 2000000 in
theorem walk_in (A B : Option Addr) (n c m d : Nat) (xs ys : List Nat) (w : World) (hn : n ≤ 200) (hm : m ≤ 200) (ha : Lst w A n (xs.map fun (x : Nat) => Value.int .u8 x)) (hb : Lst w B m (ys.map fun (x : Nat) => Value.int .u8 x)) (hx : ∀ x ∈ xs, x < 256) (hy : ∀ x ∈ ys, x < 256) (za : NilZ A n c) (zb : NilZ B m d) :
    Calls Try.prog 10 #[.slice A n c, .slice B m d] w fun e w' => e = .returned (.bool true) ∧ Below w.heap.size w w' := by
  obtain ⟨i0, hi, hz0, hz1, hz2⟩ := info_parts info_u8
  obtain ⟨j0, hj, hk0, hk1, hk2⟩ := info_parts info_bool
  have HA := Lib.hid ha
  have HB := Lib.hid hb
  have HX := Lib.hid hx
  have HY := Lib.hid hy
  have ZA := Lib.hid za
  have ZB := Lib.hid zb
  have O0 := Lib.hid (own_empty w 5)
  have oneU : ∀ zs : List Nat, Hid (∀ u ∈ zs.map (fun (x : Nat) => Value.int .u8 x), u.oneCell' = true) := fun zs => Lib.hid (by intro v hv; simp at hv; obtain ⟨x, _, rfl⟩ := hv; rfl)
  have oneB : ∀ zs : List Bool, Hid (∀ u ∈ zs.map Value.bool, u.oneCell' = true) := fun zs => Lib.hid (by intro v hv; simp at hv; rcases hv with ⟨_, rfl⟩ | ⟨_, rfl⟩ <;> rfl)
  have hw0 : Below w.heap.size w (w.alloc (.cells #[] 5)) := (Below.refl _ _).alloc (Nat.le_refl _) _
  have HW0 := Lib.hid hw0
  have HA0 := Lib.hid (ha.kept hw0)
  clear ha hb hx hy za zb hw0
  go_enter Try.func10, Try.ntmps10
  go_wp2_with (first
    | (at_builtin; refine pushL _ rfl (.tmp 15) (.tmp 16) 37 rfl w.heap.size 5 i0 (.int .u8 0) 1 Try.underlying37 hi hz0 hz1 hz2 rfl _ _ _ rfl O0.out A n c _ rfl ZA.out HA0.out (oneU xs).out (by unfold maxLen; omega) (by omega) HW0.out.size ?_; intro v1 w1 hown1 hbel1; have O1 := Lib.hid hown1; have B1 := Lib.hid (HW0.out.trans hbel1); have HB1 := Lib.hid (HB.out.kept (HW0.out.trans hbel1)); clear hown1 hbel1)
    | (at_builtin; refine pushL _ rfl (.tmp 17) (.tmp 18) 37 rfl w.heap.size 5 i0 (.int .u8 0) 1 Try.underlying37 hi hz0 hz1 hz2 rfl _ _ _ rfl O1.out B m d _ rfl ZB.out HB1.out (oneU ys).out (by unfold maxLen; omega) (by omega) B1.out.size ?_; intro v2 w2 hown2 hbel2; have O2 := Lib.hid hown2; have B2 := Lib.hid (B1.out.trans hbel2); clear hown2 hbel2))
  have O2' := Lib.hid (show w2.ownsRow w.heap.size 5 1 v2 (n + m) ((xs ++ ys).map fun (x : Nat) => Value.int .u8 x) by simpa using O2.out)
  obtain ⟨E, f, rfl, _, _, hlE⟩ := Lst.of_own O2'.out
  have HLE := Lib.hid hlE
  clear hlE
  obtain ⟨bx, HBX⟩ : ∃ bx, Hid (bitsOf xs = bx) := ⟨_, Lib.hid rfl⟩
  obtain ⟨by', HBY⟩ : ∃ bx, Hid (bitsOf ys = bx) := ⟨_, Lib.hid rfl⟩
  have HBA : Hid (bitsOf (xs ++ ys) = bx ++ by') := Lib.hid (by rw [bitsOf_app, HBX.out, HBY.out])
  obtain ⟨pa, HPA⟩ : ∃ p, Hid (par (bitsOf xs) = p) := ⟨_, Lib.hid rfl⟩
  obtain ⟨pb, HPB⟩ : ∃ p, Hid (par (bitsOf ys) = p) := ⟨_, Lib.hid rfl⟩
  have HPC : Hid (par (bitsOf (xs ++ ys)) = (pa != pb)) := Lib.hid (by rw [bitsOf_app, par_app, HPA.out, HPB.out])
  have HXY : Hid (∀ x ∈ xs ++ ys, x < 256) := Lib.hid (by intro x hx; rcases List.mem_append.1 hx with h | h; exact HX.out x h; exact HY.out x h)
  refine (bits_c (8 * n) A n c xs bx w2 HBX.out (HA.out.kept B2.out) HX.out (by omega) rfl).mono ?_
  rintro e w3 ⟨P, p, rfl, OP, LP, ZP, hb3⟩
  have B3 := Lib.hid (B2.out.trans (hb3.mono B2.out.size))
  have S3 := hb3.size
  have HLE3 := Lib.hid (HLE.out.kept hb3)
  clear hb3
  go_wp2_with fail
  refine (bits_c (8 * m) B m d ys by' w3 HBY.out (HB.out.kept B3.out) HY.out (by omega) rfl).mono ?_
  rintro e w4 ⟨Q, q, rfl, OQ, LQ, ZQ, hb4⟩
  have B4 := Lib.hid (B3.out.trans (hb4.mono B3.out.size))
  have S4 := hb4.size
  have HLE4 := Lib.hid (HLE3.out.kept hb4)
  have OP4 := Lib.hid (own_below OP.out hb4)
  clear hb4
  go_wp2_with (first
    | (at_builtin; refine pushL _ rfl (.tmp 21) (.tmp 23) 31 rfl w2.heap.size 4 j0 (.bool false) 1 Try.underlying31 hj hk0 hk1 hk2 rfl _ _ _ rfl OP4.out Q (8 * m) q _ rfl ZQ.out LQ.out (oneB by').out (by unfold maxLen; omega) (by omega) (by omega) ?_; intro v5 w5 hown5 hbel5; have O5 := Lib.hid hown5; have B45 := Lib.hid hbel5; clear hown5 hbel5))
  obtain ⟨R, r, rfl, _, _, hlR⟩ := Lst.of_own O5.out
  have S2 := B2.out.size
  have S5 := B45.out.size
  have HLR := Lib.hid (show Lst w5 R (8 * n + 8 * m) ((bx ++ by').map Value.bool) by simpa using hlR)
  have B5 := Lib.hid (B4.out.trans (B45.out.mono S2))
  have HLE5 : Hid (Lst w5 E (n + m) ((xs ++ ys).map fun (x : Nat) => Value.int .u8 x)) := by
    refine Lib.hid ⟨HLE.out.1, fun hn0 => ?_⟩
    obtain ⟨eb, eo, ee, elt, ec⟩ := HLE.out.2 hn0
    have k3 := HLE4.out.2 hn0
    obtain ⟨eb', eo', ee', elt', ec'⟩ := k3
    rw [ee] at ee'
    cases ee'
    exact ⟨eb, eo, ee, Nat.lt_of_lt_of_le elt' S5, fun k hk => (B45.out.cell (p := ⟨eb, eo + k, none⟩) elt).trans (ec' k hk)⟩
  clear hlR
  go_wp2_with fail
  refine (bits_c (8 * n + 8 * m) E (n + m) f (xs ++ ys) (bx ++ by') w5 HBA.out HLE5.out HXY.out (by omega) (by omega)).mono ?_
  rintro e w6 ⟨S, s, rfl, OS, LS, ZS, hb6⟩
  have B6 := Lib.hid (B5.out.trans (hb6.mono B5.out.size))
  have HLR6 := Lib.hid (HLR.out.kept hb6)
  have HLE6 := Lib.hid (HLE5.out.kept hb6)
  clear hb6
  go_wp2_with fail
  refine (bools_same S R (8 * n + 8 * m) s r (bx ++ by') w6 LS.out HLR6.out (by omega)).mono ?_
  rintro e w7 ⟨rfl, hb7⟩
  have B7 := Lib.hid (B6.out.trans (hb7.mono B6.out.size))
  have HLE7 := Lib.hid (HLE6.out.kept hb7)
  clear hb7
  go_wp2_with fail
  refine (parity_c E (n + m) f (xs ++ ys) (pa != pb) w7 HPC.out HLE7.out HXY.out (by omega)).mono ?_
  rintro e w8 ⟨rfl, hb8⟩
  have B8 := Lib.hid (B7.out.trans (hb8.mono B7.out.size))
  clear hb8
  go_wp2_with fail
  refine (parity_c A n c xs pa w8 HPA.out (HA.out.kept B8.out) HX.out (by omega)).mono ?_
  rintro e w9 ⟨rfl, hb9⟩
  have B9 := Lib.hid (B8.out.trans (hb9.mono B8.out.size))
  clear hb9
  go_wp2_with fail
  refine (parity_c B m d ys pb w9 HPB.out (HB.out.kept B9.out) HY.out (by omega)).mono ?_
  rintro e w10 ⟨rfl, hb10⟩
  have B10 := Lib.hid (B9.out.trans (hb10.mono B9.out.size))
  clear hb10
  go_wp2_with fail
  refine (one_any _).mono ?_
  rintro e w11 ⟨rfl, hb11⟩
  go_wp2
  go_ret
  exact ⟨rfl, B10.out.trans (hb11.mono B10.out.size)⟩

theorem nats_of (l : List Int) (hbd : ∀ x ∈ l, 0 ≤ x ∧ x ≤ 255) : ∃ xs : List Nat, l.map (Value.int .u8) = xs.map (fun (x : Nat) => Value.int .u8 x) ∧ ∀ x ∈ xs, x < 256 := by
  refine ⟨l.map Int.toNat, ?_, ?_⟩
  · rw [List.map_map]
    apply List.map_congr_left
    intro x hx
    have := hbd x hx
    simp only [Function.comp]
    rw [Int.toNat_of_nonneg this.1]
  · intro x hx
    obtain ⟨z, hz, rfl⟩ := List.mem_map.1 hx
    have := hbd z hz
    omega
theorem walk (A : Option Addr) (n c : Nat) (xs : List Int) (B : Option Addr) (m d : Nat) (ys : List Int) (w : World) (ha : Lst w A n (xs.map (Value.int .u8))) (hx : ∀ x ∈ xs, 0 ≤ x ∧ x ≤ 255) (hnc : n ≤ c) (hcm : c ≤ maxLen) (za : NilZ A n c) (hb : Lst w B m (ys.map (Value.int .u8))) (hy : ∀ x ∈ ys, 0 ≤ x ∧ x ≤ 255) (hmd : m ≤ d) (hdm : d ≤ maxLen) (zb : NilZ B m d) :
    Calls Try.prog 10 #[.slice A n c, .slice B m d] w fun e w' => e = .returned (.bool true) ∧ Below w.heap.size w w' := by
  unfold maxLen at hcm hdm
  obtain ⟨us, eu, hu⟩ := nats_of xs hx
  obtain ⟨vs, ev, hv⟩ := nats_of ys hy
  rw [eu] at ha
  rw [ev] at hb
  by_cases h : n ≤ 200 ∧ m ≤ 200
  · exact walk_in A B n c m d us vs w h.1 h.2 ha hb hu hv za zb
  · exact walk_long A B n c m d w (by omega) (by omega) (by omega)

set_option maxRecDepth 100000 in
theorem lifted (os : Os) (started : os.Started) (H : Type) (enc : TypeId × Value → H) :
    ReturnsInHanded {} Try.checked os 10 .any (Rows.wordPartsSpec.pre6 enc Try.prog Try.f10 Rows.wordPartsRow.domain false) (Rows.wordPartsSpec.post enc Try.prog Try.f10 false true false false) := by
  refine returnsInHanded_of_change (C := Try.checked) own started (by kernel_rfl) Try.func10
    (ChangeSpec.witness6 (enc := enc) (C := Try.checked) false ⟨#[], #[.slice none 0 0, .slice none 0 0], []⟩ 8 (by kernel_rfl) (by kernel_rfl) (by kernel_rfl) (by kernel_rfl)) ?_
  intro W base args ds gs before hval0 hW hcnd _
  have hval : ∀ (j : Nat) t v, Try.f10.params[j]? = some t → args[j]? = some v → Value.okWide Try.prog W .any base t v := hval0
  have hW' := hW
  obtain ⟨p, q, hA0, hV, rfl, hfz, hnd⟩ := hW
  have hA : DataW.TrodAll enc Try.prog W 0 (fun _ => true) true Try.f10.params.toList args.toList ds p := hA0
  rw [Try.params10] at hA hval
  obtain ⟨v0, vs0, d0, ds0, p0, q0, hargs, rfl, rfl, h0, r0⟩ := trodAll_cons hA
  obtain ⟨v1, vs1, d1, ds1, p1, q1, rfl, rfl, rfl, h1, r1⟩ := trodAll_cons r0
  obtain ⟨rfl, rfl, rfl⟩ := trodAll_nil r1
  obtain rfl : args = #[v0, v1] := by cases args; simp_all
  obtain ⟨rfl, rfl⟩ := trodVars_none hV
  have k0 := h0
  have lt0 : ∀ x ∈ p0, x.block < W.heap.size := by obtain ⟨m, hm⟩ := k0; exact DataW.trod_lt m _ _ _ hm
  obtain ⟨xsA, xsn, xsc, rfl⟩ := okWide_slice Try.underlying37 (hval 0 37 v0 rfl rfl)
  obtain ⟨xs, l0, b0, cb0, cc0⟩ := lst_ints Try.underlying37 Try.underlying5 (by kernel_rfl) k0
  have z0 := nilz_ints Try.underlying37 Try.underlying5 (by kernel_rfl) k0
  have k1 := h1
  have lt1 : ∀ x ∈ p1, x.block < W.heap.size := by obtain ⟨m, hm⟩ := k1; exact DataW.trod_lt m _ _ _ hm
  obtain ⟨ysA, ysn, ysc, rfl⟩ := okWide_slice Try.underlying37 (hval 1 37 v1 rfl rfl)
  obtain ⟨ys, l1, b1, cb1, cc1⟩ := lst_ints Try.underlying37 Try.underlying5 (by kernel_rfl) k1
  have z1 := nilz_ints Try.underlying37 Try.underlying5 (by kernel_rfl) k1
  clear hA0 hval0
  refine (walk xsA xsn xsc xs ysA ysn ysc ys W l0 (ints_u8 b0) cb0 cc0 z0 l1 (ints_u8 b1) cb1 cc1 z1).mono fun e W' ⟨he, bel⟩ => ?_
  subst he
  exact ⟨_, rfl, _, _, _, [], _, [], hW', trodAll_mk1 (shut_bool Try.underlying4 _), (trodAll_cons_mk (Below.trod laidOut (by kernel_rfl) (of_decide_eq_true (by kernel_rfl)) k0 bel lt0) (trodAll_cons_mk (Below.trod laidOut (by kernel_rfl) (of_decide_eq_true (by kernel_rfl)) k1 bel lt1) trodAll_mk0)), rfl, bel.frame _, fun h => by cases h⟩

theorem over : Rows.wordPartsRow.holds Try.pinned (OpenSpec.ofChange Rows.wordPartsSpec) :=
  OpenClaim.holds_of_wide 10 Try.f10 rfl rfl rfl rfl rfl rfl rfl ⟨rfl, rfl, rfl, rfl, rfl⟩ rfl rfl rfl rfl rfl (by kernel_rfl) Try.func10 (by kernel_rfl)
    (of_decide_eq_true (by kernel_rfl)) (by unfold Func.isWrapper; first | (rw [if_pos (by decide +kernel)]; kernel_rfl) | (rw [if_neg (by decide +kernel)]; exact ⟨rfl, rfl⟩))
    (fun os started H enc _ => lifted os started H enc)

/-- The statement. -/
theorem proved : Rows.WordPartsSaid := over
end Go.Proofs.Ytbhdenjahojbbaa.lawWordParts
