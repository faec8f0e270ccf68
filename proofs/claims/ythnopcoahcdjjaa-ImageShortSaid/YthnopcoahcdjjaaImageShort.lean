/- No beginning of an image's bytes is one, and none with anything behind: for every image, cut and bytes; no condition. -/
import Derived.Test.YthnopcoahcdjjaaImgR
import Derived.Test.YthnopcoahcdjjaaPush
import Derived.Test.YthnopcoahcdjjaaCut
import Derived.Test.YthnopcoahcdjjaaBox
import Derived.Test.YthnopcoahcdjjaaRows
import Derived.WalkKit
import Derived.ProofKit
import Derived.OpenShut
import Derived.ShutString
import Derived.ChangeOld
import Derived.Below
namespace Go.Proofs.Ythnopcoahcdjjaa.lawImageShort
open Go.ChangeShapes Go.WideShapes Go.ChangeAt Go.RowKit Base
open Go.ChangeMaps (open_string shut_string)
set_option linter.unusedVariables false
set_option linter.unusedSimpArgs false
theorem own : ownKnob Try.prog.godebug = none := by kernel_rfl
theorem laidOut : laidOutB Try.prog = true := by kernel_rfl
open Ly10

theorem whole_take {bs : List Nat} {N q : Nat} (h : Whole bs N) (hN : 11 ≤ N) (hq : q < N) : ¬ Whole (bs.take q) q := by
  intro h'
  by_cases h11 : 11 ≤ q
  · have := whole_long h' h (by rw [List.take_take, Nat.min_eq_left (by omega)]) h11 hN
    omega
  · have := h'.long
    omega
theorem whole_more {bs more : List Nat} {N k : Nat} (h : Whole bs N) (hN : 11 ≤ N) (hk : 0 < k) : ¬ Whole (bs ++ more) (N + k) := by
  intro h'
  have := whole_long h' h (by rw [List.take_append_of_le_length (by have := h.len; omega)]) (by omega) hN
  omega
theorem read_more (m e0 e1 n k : Nat) (code more : List Nat) (A : Option Addr) (c : Nat) (w : World) (hm : m < 16) (hn1 : 1 ≤ n) (hn2 : n ≤ 1024) (h0 : e0 < n) (h1 : e1 < n) (hcl : code.length = n) (hb : ∀ x ∈ code, x < 256) (hk : k ≤ 100) (hml : more.length = k) (hmb : ∀ x ∈ more, x < 256)
    (hl : Lst w A (11 + n + k) (u8s (imgB m e0 e1 code ++ more))) (hnc : 11 + n + k ≤ c) (hc : c ≤ 9223372036854775807) :
    Calls Try.prog 29 #[.slice A (11 + n + k) c] w fun e w' => ∃ m' e0' e1' B n' c' x b, e = .returned (.tuple #[imv m' e0' e1' B n' c', .int .i64 x]) ∧ Hid (((k : Int) == 0) = b ∧ (x == 0) = b) ∧ Hid (Below w.heap.size w w') := by
  by_cases h : k = 0
  · subst h
    obtain rfl : more = [] := List.eq_nil_of_length_eq_zero hml
    rw [List.append_nil] at hl
    refine (read_back m e0 e1 n code A c w hm hn1 hn2 h0 h1 hcl hb hl hnc hc).mono ?_
    rintro e w' ⟨g, rfl, _, _, hbw⟩
    exact ⟨_, _, _, _, _, _, _, true, rfl, Lib.hid ⟨rfl, rfl⟩, hbw⟩
  · have hbl := imgB_lt (m := m) (e0 := e0) (e1 := e1) (code := code) (by omega) (by omega) (by omega) (by omega) hb
    have hW := imgB_whole m e0 e1 code
    rw [hcl] at hW
    refine (read_not A (11 + n + k) c _ w (whole_more hW (by omega) (by omega)) (by omega) hnc hc hl (fun x hx => by
      rcases List.mem_append.1 hx with hx | hx
      · exact hbl x hx
      · exact hmb x hx)).mono ?_
    rintro e w' ⟨x, rfl, hx, hbw⟩
    exact ⟨_, _, _, _, _, _, _, false, rfl, Lib.hid ⟨by simp; omega, hx.out.1⟩, hbw⟩
set_option maxRecDepth 100000 in
set_option maxHeartbeats 4000000 in
theorem walk_in (m e0 e1 n k : Nat) (A : Option Addr) (c : Nat) (code : List Nat) (cut : Int) (B : Option Addr) (cb : Nat) (more : List Nat) (w : World) (hm : m < 16) (hn1 : 1 ≤ n) (hn2 : n ≤ 1024) (h0 : e0 < n) (h1 : e1 < n) (hk : k ≤ 100)
    (ha : Lst w A n (u8s code)) (hx : ∀ x ∈ code, x < 256) (hb : Lst w B k (u8s more)) (zb : NilZ B k cb) (hy : ∀ x ∈ more, x < 256) :
    Calls Try.prog 10 #[imv m e0 e1 A n c, .int .i64 cut, .slice B k cb] w fun e w' => e = .returned (.bool true) ∧ Below w.heap.size w w' := by
  obtain ⟨i0, hi, hz0, hz1, hz2⟩ := info_parts info_u8
  have HCL := Lib.hid (show code.length = n by have := ha.1; rwa [u8s_len] at this)
  have HML := Lib.hid (show more.length = k by have := hb.1; rwa [u8s_len] at this)
  have HX := Lib.hid hx
  have HY := Lib.hid hy
  have ZB := Lib.hid zb
  have HRI := Lib.hid (show RI m e0 e1 n by unfold RI; omega)
  have HB0 := Lib.hid (show Below w.heap.size w (w.alloc (.cells (c4 m e0 e1 A n c) TI)) from (Below.refl _ _).alloc (Nat.le_refl _) _)
  have HO0 := Lib.hid (Obj1.new w TI (c4 m e0 e1 A n c))
  have HA0 := Lib.hid (ha.kept HB0.out)
  have HM0 := Lib.hid (hb.kept HB0.out)
  obtain ⟨gc, HGC⟩ : ∃ gc, Hid (w.heap.size = gc) := ⟨_, Lib.hid rfl⟩
  rw [HGC.out] at HO0
  clear ha hx hb hy zb
  go_enter Try.func10, Try.ntmps10
  go_wp2_with fail
  rw [HGC.out]
  generalize w.alloc (.cells #[.int .i64 m, .int .i64 e0, .int .i64 e1, .slice A n c] TI) = W at HB0 HO0 HA0 HM0 ⊢
  refine (right_yes m e0 e1 A n c W HRI.out).mono ?_
  rintro e w1 ⟨rfl, hb1⟩
  have HB1 := Lib.hid (HB0.out.trans (hb1.mono HB0.out.size))
  have hO1 := HO0.out.kept hb1
  have HA1 := Lib.hid (HA0.out.kept hb1)
  have HM1 := Lib.hid (HM0.out.kept hb1)
  have HO1 := Lib.hid hO1
  obtain ⟨d0, d1, d2, d3⟩ := cells4 hO1
  clear hb1 HB0 HO0 HA0 HM0 hO1
  obtain ⟨N, HN⟩ : ∃ N, Hid (11 + n = N) := ⟨_, Lib.hid rfl⟩
  have hN0 : 0 < N := by have := HN.out; omega
  have hN1 : N ≤ 1035 := by have := HN.out; omega
  have HP := Lib.hid (put_ok m e0 e1 n A c code w1 hm hn1 hn2 h0 h1 HA1.out HX.out)
  rw [HN.out] at HP
  go_wp2_with fail
  refine HP.out.mono ?_
  rintro e w2 ⟨v, rfl, HV2, HB2⟩
  obtain ⟨X, cx, rfl, hcx, hcm, hl2⟩ := Lst.of_own HV2.out
  unfold maxLen at hcm
  have HL2 := Lib.hid hl2
  have HBE2 := Lib.hid (HB1.out.trans (HB2.out.mono HB1.out.size))
  have HM2 := Lib.hid (HM1.out.kept HB2.out)
  clear hl2 HP d0 d1 d2 d3 HV2
  obtain ⟨y, y0, y1, hand⟩ := and_mask cut 65535 (by omega)
  obtain ⟨y, rfl⟩ : ∃ z : Nat, y = (z : Int) := ⟨y.toNat, by omega⟩
  have hand' : Go.bits BinOp.and IntKind.i64 cut 65535 = (y : Int) := hand
  obtain ⟨q, HQ⟩ : ∃ q, Hid (y % N = q) := ⟨_, Lib.hid rfl⟩
  have hqN : q < N := by rw [← HQ.out]; exact Nat.mod_lt _ hN0
  have hmod : (y : Int) % (N : Int) = (q : Int) := by rw [← HQ.out]; push_cast; rfl
  have hsl := cut_h (P := Try.prog) (t := TS) Try.underlying26 size_u8 X N cx q (by omega)
  have HWH : Hid (Whole (imgB m e0 e1 code) N) := Lib.hid (by have := imgB_whole m e0 e1 code; rw [HCL.out, HN.out] at this; exact this)
  have HBL := Lib.hid (imgB_lt (m := m) (e0 := e0) (e1 := e1) (code := code) (by omega) (by omega) (by omega) (by rw [HCL.out]; omega) HX.out)
  have HRN := Lib.hid (read_not X q cx _ w2 (whole_take HWH.out (by have := HN.out; omega) hqN) (by omega) (by omega) hcm (lst_front HL2.out q (by omega)) (fun x hx => HBL.out x (List.mem_of_mem_take hx)))
  clear hand
  go_wp2_with fail
  refine HRN.out.mono ?_
  rintro e w3 ⟨x, rfl, HXX, HB3⟩
  have HBE3 := Lib.hid (HBE2.out.trans (HB3.out.mono HBE2.out.size))
  have HL3 := Lib.hid (HL2.out.kept HB3.out)
  have HM3 := Lib.hid (HM2.out.kept HB3.out)
  have hb4 : Below w3.heap.size w3 (w3.alloc (.cells (c4 0 0 0 none 0 0) TI)) := (Below.refl _ _).alloc (Nat.le_refl _) _
  have HBE4 := Lib.hid (HBE3.out.alloc HBE3.out.size (.cells (c4 0 0 0 none 0 0) TI))
  have HL4 := Lib.hid (HL3.out.kept hb4)
  have HM4 := Lib.hid (HM3.out.kept hb4)
  have hxne := HXX.out.2
  clear hb4 hsl hmod hand' HXX HRN
  go_upto_region 7 with (fail)
  generalize w3.alloc (.cells #[.int .i64 0, .int .i64 0, .int .i64 0, .slice none 0 0] TI) = w4 at HBE4 HL4 HM4 ⊢
  have O0 := Lib.hid (own_empty w4 TU)
  have P0 : Hid (Below w4.heap.size w4 (w4.alloc (.cells #[] TU))) := (Below.refl _ _).alloc (Nat.le_refl _) _
  have oneU : ∀ zs : List Nat, Hid (∀ u ∈ u8s zs, u.oneCell' = true) := fun zs => Lib.hid (by intro v hv; obtain ⟨x, _, rfl⟩ := List.mem_map.1 hv; rfl)
  obtain ⟨xb, xo, rfl, _, _⟩ := HL4.out.2 hN0
  go_wp2_with (first
    | (at_builtin; refine pushL _ rfl (.tmp 46) (.tmp 47) TS rfl w4.heap.size TU i0 (.int .u8 0) 1 Try.underlying26 hi hz0 hz1 hz2 rfl _ _ _ rfl O0.out (some ⟨xb, xo, none⟩) N cx _ rfl (fun h => by cases h) (HL4.out.kept P0.out) (oneU _).out (by unfold maxLen; omega) (by omega) P0.out.size ?_; intro v1 w5 hown1 hbel1; have O1 := Lib.hid hown1; have P1 := Lib.hid (P0.out.trans hbel1); clear hown1 hbel1)
    | (at_builtin; refine pushL _ rfl (.tmp 48) (.tmp 49) TS rfl w4.heap.size TU i0 (.int .u8 0) 1 Try.underlying26 hi hz0 hz1 hz2 rfl _ _ _ rfl O1.out B k cb _ rfl ZB.out (HM4.out.kept P1.out) (oneU _).out (by unfold maxLen; omega) (by omega) P1.out.size ?_; intro v2 w6 hown2 hbel2; have O2 := Lib.hid hown2; have P2 := Lib.hid (P1.out.trans hbel2); clear hown2 hbel2; obtain ⟨D, d, rfl, hd1, hd2, hD⟩ := Lst.of_own O2.out; unfold maxLen at hd2; have HD := Lib.hid hD; clear hD))
  have HD2 : Hid (Lst w6 D (11 + n + k) (u8s (imgB m e0 e1 code ++ more))) := Lib.hid (by
    have h := HD.out
    rw [show 0 + N + k = 11 + n + k by have := HN.out; omega] at h
    simpa [u8s] using h)
  have HRM := Lib.hid (read_more m e0 e1 n k code more D d w6 hm hn1 hn2 h0 h1 HCL.out HX.out hk HML.out HY.out HD2.out (by have := HN.out; omega) hd2)
  rw [HN.out] at HRM
  refine HRM.out.mono ?_
  rintro e w7 ⟨m', e0', e1', B', n', c', x', b, rfl, hxb, HB7⟩
  obtain ⟨hkb, hxb⟩ := hxb.out
  have HBE7 := Lib.hid ((HBE4.out.trans (P2.out.mono HBE4.out.size)).trans (HB7.out.mono (HBE4.out.trans (P2.out.mono HBE4.out.size)).size))
  have HBE8 := Lib.hid (HBE7.out.alloc HBE7.out.size (.cells (c4 m' e0' e1' B' n' c') TI))
  go_upto_region 8 with (fail)
  generalize w7.alloc (.cells #[.int .i64 m', .int .i64 e0', .int .i64 e1', .slice B' n' c'] TI) = w8 at HBE8 ⊢
  go_wp2_with fail
  refine (one_any w8).mono ?_
  rintro e w9 ⟨rfl, hb9⟩
  go_wp2
  go_ret
  exact ⟨rfl, HBE8.out.trans (hb9.mono HBE8.out.size)⟩
set_option maxRecDepth 100000 in
set_option maxHeartbeats 2000000 in
theorem walk_out (m e0 e1 : Int) (n k : Nat) (A : Option Addr) (c : Nat) (cut : Int) (B : Option Addr) (cb : Nat) (w : World) (hn : n ≤ 9223372036854775807) (h : ¬ RI m e0 e1 n ∨ RI m e0 e1 n ∧ 100 < k) :
    Calls Try.prog 10 #[imv m e0 e1 A n c, .int .i64 cut, .slice B k cb] w fun e w' => e = .returned (.bool true) ∧ Below w.heap.size w w' := by
  have HB0 := Lib.hid (show Below w.heap.size w (w.alloc (.cells (c4 m e0 e1 A n c) TI)) from (Below.refl _ _).alloc (Nat.le_refl _) _)
  have HO0 := Lib.hid (Obj1.new w TI (c4 m e0 e1 A n c))
  obtain ⟨gc, HGC⟩ : ∃ gc, Hid (w.heap.size = gc) := ⟨_, Lib.hid rfl⟩
  rw [HGC.out] at HO0
  rcases h with h | ⟨h, hk⟩
  · have HRI := Lib.hid h
    clear h
    go_enter Try.func10, Try.ntmps10
    go_wp2_with fail
    rw [HGC.out]
    generalize w.alloc (.cells #[.int .i64 m, .int .i64 e0, .int .i64 e1, .slice A n c] TI) = W at HB0 HO0 ⊢
    refine (right_no m e0 e1 A n c W HRI.out hn).mono ?_
    rintro e w1 ⟨rfl, hb1⟩
    have HB1 := Lib.hid (HB0.out.trans (hb1.mono HB0.out.size))
    go_wp2_with fail
    refine (one_any w1).mono ?_
    rintro e w9 ⟨rfl, hb9⟩
    go_wp2
    go_ret
    exact ⟨rfl, HB1.out.trans (hb9.mono HB1.out.size)⟩
  · have HRI := Lib.hid h
    have hki : (100 : Int) < (k : Int) := by omega
    clear h
    go_enter Try.func10, Try.ntmps10
    go_wp2_with fail
    rw [HGC.out]
    generalize w.alloc (.cells #[.int .i64 m, .int .i64 e0, .int .i64 e1, .slice A n c] TI) = W at HB0 HO0 ⊢
    refine (right_yes m e0 e1 A n c W HRI.out).mono ?_
    rintro e w1 ⟨rfl, hb1⟩
    have HB1 := Lib.hid (HB0.out.trans (hb1.mono HB0.out.size))
    go_wp2_with fail
    refine (one_any w1).mono ?_
    rintro e w9 ⟨rfl, hb9⟩
    go_wp2
    go_ret
    exact ⟨rfl, HB1.out.trans (hb9.mono HB1.out.size)⟩
theorem walk (cs : Array Value) (cut : Int) (B : Option Addr) (k cb : Nat) (zs : List Int) (w : World) (hr : Reads w shI cs.toList) (c0 : -9223372036854775808 ≤ cut) (c1 : cut ≤ 9223372036854775807) (hb : Lst w B k (zs.map (Value.int .u8))) (hz : ∀ x ∈ zs, 0 ≤ x ∧ x ≤ 255) (hkc : k ≤ cb) (hcm : cb ≤ maxLen) (zb : NilZ B k cb) :
    Calls Try.prog 10 #[.agg cs, .int .i64 cut, .slice B k cb] w fun e w' => e = .returned (.bool true) ∧ Below w.heap.size w w' := by
  obtain ⟨m, e0, e1, A, n, c, bs, rfl, hl, hx, hnc, hc⟩ := reads_img hr
  obtain ⟨more, ev, hv⟩ := nats_of zs hz
  rw [ev] at hb
  by_cases h : RI m e0 e1 n
  · by_cases h2 : k ≤ 100
    · unfold RI at h
      obtain ⟨m, rfl⟩ : ∃ z : Nat, m = (z : Int) := ⟨m.toNat, by omega⟩
      obtain ⟨e0, rfl⟩ : ∃ z : Nat, e0 = (z : Int) := ⟨e0.toNat, by omega⟩
      obtain ⟨e1, rfl⟩ : ∃ z : Nat, e1 = (z : Int) := ⟨e1.toNat, by omega⟩
      exact walk_in m e0 e1 n k A c bs cut B cb more w (by omega) (by omega) (by omega) (by omega) (by omega) h2 hl hx hb zb hv
    · exact walk_out m e0 e1 n k A c cut B cb w (by omega) (.inr ⟨h, by omega⟩)
  · exact walk_out m e0 e1 n k A c cut B cb w (by omega) (.inl h)

set_option maxRecDepth 100000 in
theorem lifted (os : Os) (started : os.Started) (H : Type) (enc : TypeId × Value → H) :
    ReturnsInHanded {} Try.checked os 10 .any (Rows.imageShortSpec.pre6 enc Try.prog Try.f10 Rows.imageShortRow.domain false) (Rows.imageShortSpec.post enc Try.prog Try.f10 false true false false) := by
  refine returnsInHanded_of_change (C := Try.checked) own started (by kernel_rfl) Try.func10
    (ChangeSpec.witness6 (enc := enc) (C := Try.checked) false ⟨#[], #[.agg #[.int .i64 0, .int .i64 0, .int .i64 0, .slice none 0 0], .int .i64 0, .slice none 0 0], []⟩ 8 (by kernel_rfl) (by kernel_rfl) (by kernel_rfl) (by kernel_rfl)) ?_
  intro W base args ds gs before hval0 hW hcnd _
  have hval : ∀ (j : Nat) t v, Try.f10.params[j]? = some t → args[j]? = some v → Value.okWide Try.prog W .any base t v := hval0
  have hW' := hW
  obtain ⟨p, q, hA0, hV, rfl, hfz, hnd⟩ := hW
  have hA : DataW.TrodAll enc Try.prog W 0 (fun _ => true) true Try.f10.params.toList args.toList ds p := hA0
  rw [Try.params10] at hA hval
  obtain ⟨v0, vs0, d0, ds0, p0, q0, hargs, rfl, rfl, h0, r0⟩ := trodAll_cons hA
  obtain ⟨v1, vs1, d1, ds1, p1, q1, rfl, rfl, rfl, h1, r1⟩ := trodAll_cons r0
  obtain ⟨v2, vs2, d2, ds2, p2, q2, rfl, rfl, rfl, h2, r2⟩ := trodAll_cons r1
  obtain ⟨rfl, rfl, rfl⟩ := trodAll_nil r2
  obtain rfl : args = #[v0, v1, v2] := by cases args; simp_all
  obtain ⟨rfl, rfl⟩ := trodVars_none hV
  have k0 := h0
  have lt0 : ∀ x ∈ p0, x.block < W.heap.size := by obtain ⟨m, hm⟩ := k0; exact DataW.trod_lt m _ _ _ hm
  obtain ⟨m, rfl⟩ := okWide_agg (by first | exact .inl ⟨_, Try.underlying46⟩ | exact .inr ⟨_, _, Try.underlying46⟩) (hval 0 46 v0 rfl rfl)
  have rd0 := reads_cells (sh := shI) 30 (by kernel_rfl) k0
  obtain ⟨cut, rfl, rfl, rfl, wf1⟩ := open_int Try.underlying3 (hval 1 3 v1 rfl rfl) h1
  have bd1 := bounds_i64 wf1
  have k2 := h2
  have lt2 : ∀ x ∈ p2, x.block < W.heap.size := by obtain ⟨m, hm⟩ := k2; exact DataW.trod_lt m _ _ _ hm
  obtain ⟨moreA, moren, morec, rfl⟩ := okWide_slice Try.underlying26 (hval 2 26 v2 rfl rfl)
  obtain ⟨more, l2, b2, cb2, cc2⟩ := lst_ints Try.underlying26 Try.underlying5 (by kernel_rfl) k2
  have z2 := nilz_ints Try.underlying26 Try.underlying5 (by kernel_rfl) k2
  clear hA0 hval0
  refine (walk m cut moreA moren morec more W rd0 bd1.1 bd1.2 l2 (ints_u8 b2) cb2 cc2 z2).mono fun e W' ⟨he, bel⟩ => ?_
  subst he
  exact ⟨_, rfl, _, _, _, [], _, [], hW', trodAll_mk1 (shut_bool Try.underlying4 _), (trodAll_cons_mk (Below.trod laidOut (by kernel_rfl) (of_decide_eq_true (by kernel_rfl)) k0 bel lt0) (trodAll_cons_mk (shut_int Try.underlying3 wf1) (trodAll_cons_mk (Below.trod laidOut (by kernel_rfl) (of_decide_eq_true (by kernel_rfl)) k2 bel lt2) trodAll_mk0))), rfl, bel.frame _, fun h => by cases h⟩

theorem over : Rows.imageShortRow.holds Try.pinned (OpenSpec.ofChange Rows.imageShortSpec) :=
  OpenClaim.holds_of_wide 10 Try.f10 rfl rfl rfl rfl rfl rfl rfl ⟨rfl, rfl, rfl, rfl, rfl⟩ rfl rfl rfl rfl rfl (by kernel_rfl) Try.func10 (by kernel_rfl)
    (of_decide_eq_true (by kernel_rfl)) (by unfold Func.isWrapper; first | (rw [if_pos (by decide +kernel)]; kernel_rfl) | (rw [if_neg (by decide +kernel)]; exact ⟨rfl, rfl⟩))
    (fun os started H enc _ => lifted os started H enc)

/-- The statement. -/
theorem proved : Rows.ImageShortSaid := over
end Go.Proofs.Ythnopcoahcdjjaa.lawImageShort
