/- The sum of bytes does not hang on how they are parted: for every bytes and cuts; no condition. -/
import Derived.Test.YthnopcoahcdjjaaImgH
import Derived.Test.YthnopcoahcdjjaaPush
import Derived.Test.YthnopcoahcdjjaaCut
import Derived.Test.YthnopcoahcdjjaaBox
import Derived.Test.YthnopcoahcdjjaaRows
import Derived.WalkKit
import Derived.ProofKit
import Derived.OpenShut
import Derived.ShutString
import Derived.ChangeOld
import Derived.Below
namespace Go.Proofs.Ythnopcoahcdjjaa.lawImageParts
open Go.ChangeShapes Go.WideShapes Go.ChangeAt Go.RowKit Base
open Go.ChangeMaps (open_string shut_string)
set_option linter.unusedVariables false
set_option linter.unusedSimpArgs false
theorem own : ownKnob Try.prog.godebug = none := by kernel_rfl
theorem laidOut : laidOutB Try.prog = true := by kernel_rfl
open Ly10

theorem info_sl : (Try.prog.info? TS).map (fun i => (i.zero, i.size, i.bytes)) = some (some (.slice none 0 0), 1, 24) := by kernel_rfl
abbrev svs (rows : List BRow) : List Value := rows.map fun r => Value.slice r.A r.n r.c
def PR (w : World) (n k : Nat) (bs : List Nat) (v a i : Value) (wr : World) : Prop :=
  ∃ (j p : Nat) (rows : List BRow), j ≤ k ∧ i = .int .i64 j ∧ p ≤ n ∧ a = .int .i64 p ∧ rows.length = j ∧ wr.ownsRow w.heap.size TS 1 v j (svs rows) ∧ (∀ r ∈ rows, r.ok w) ∧ allB rows = bs.take p ∧ Below w.heap.size w wr
theorem ok_kept {w w' : World} {r : BRow} (h : r.ok w) (hb : Below w.heap.size w w') : r.ok w' := ⟨h.1.kept hb, h.2⟩
theorem allB_snoc (rows : List BRow) (r : BRow) : allB (rows ++ [r]) = allB rows ++ r.bs := by simp [allB]
theorem part_ok {w : World} {A : Option Addr} {n c p q : Nat} {bs : List Nat} (hl : Lst w A n (u8s bs)) (hb : ∀ x ∈ bs, x < 256) (h : p + q ≤ n) (hnc : n ≤ c) (hn : n ≤ 1000) : (⟨cutA A p c, q, c - p, (bs.drop p).take q⟩ : BRow).ok w := by
  have h1 := lst_cut (l := p) (h := p + q) hl (by omega) h hnc
  rw [show p + q - p = q by omega] at h1
  refine ⟨?_, fun x hx => hb x (List.mem_of_mem_drop (List.mem_of_mem_take hx)), by show q ≤ _; omega⟩
  show Lst w (cutA A p c) q (((bs.drop p).take q).map fun (x : Nat) => Value.int .u8 x)
  rw [List.map_take, List.map_drop]
  exact h1
theorem take_more (bs : List Nat) (p q : Nat) : bs.take (p + q) = bs.take p ++ (bs.drop p).take q := List.take_add
set_option maxRecDepth 100000 in
set_option maxHeartbeats 4000000 in
theorem walk_in (A : Option Addr) (n c : Nat) (bs : List Nat) (B : Option Addr) (k d : Nat) (xs : List Int) (w : World) (hn : n ≤ 1000) (hk : k ≤ 40) (hnc : n ≤ c) (hc : c ≤ 9223372036854775807) (ha : Lst w A n (u8s bs)) (hx : ∀ x ∈ bs, x < 256)
    (hb : Lst w B k (xs.map (Value.int .i64))) :
    Calls Try.prog 9 #[.slice A n c, .slice B k d] w fun e w' => e = .returned (.bool true) ∧ Below w.heap.size w w' := by
  obtain ⟨i0, hi, hz0, hz1, hz2⟩ := info_parts info_sl
  have HA := Lib.hid ha
  have HX := Lib.hid hx
  have HB := Lib.hid hb
  have HBL := Lib.hid (show bs.length = n by have := ha.1; rwa [u8s_len] at this)
  have HST : Hid (PR w n k bs (.slice none 0 0) (.int .i64 0) (.int .i64 0) w) := Lib.hid ⟨0, 0, [], by omega, rfl, by omega, rfl, rfl, ⟨rfl, .inl ⟨rfl, rfl⟩⟩, by simp, by simp [allB], Below.refl _ _⟩
  clear ha hx hb
  go_enter Try.func9, Try.ntmps9
  go_wp2_with fail
  go_loopw [5, 6, 7] (fun v a i wr => PR w n k bs v a i wr) (fun _ _ i _ => k - (intOf i).toNat)
  case atStart => exact HST.out
  case round =>
    obtain ⟨j, p, rows, hj, rfl, hp, rfl, hrl, hown, hrs, hall, hbel⟩ := hrel
    have HRL := Lib.hid hrl
    have HOW := Lib.hid hown
    have HRS := Lib.hid hrs
    have HALL := Lib.hid hall
    have HBE := Lib.hid hbel
    clear hrl hown hrs hall hbel
    by_cases hlt : j < k
    · have hBw := HB.out.kept HBE.out
      obtain ⟨b, off, rfl, _, hcb⟩ := hBw.get hlt
      rw [List.getElem_map] at hcb
      obtain ⟨x, HXX⟩ : ∃ x, Hid (xs[j]'(by have := HB.out.1; simp at this; omega) = x) := ⟨_, Lib.hid rfl⟩
      rw [HXX.out] at hcb
      obtain ⟨y, y0, y1, hand⟩ := and_mask x 255 (by omega)
      obtain ⟨y, rfl⟩ : ∃ z : Nat, y = (z : Int) := ⟨y.toNat, by omega⟩
      have hand' : Go.bits BinOp.and IntKind.i64 x 255 = (y : Int) := hand
      clear hBw hand
      have hsub : ∃ r : Nat, p + r = n := ⟨n - p, by omega⟩
      obtain ⟨r, hr⟩ := hsub
      have hri : (n : Int) - (p : Int) = (r : Int) := by omega
      rcases (show (y : Int) ≤ (r : Int) ∨ (r : Int) < (y : Int) by omega) with hm | hm
      · have hpq : p + y ≤ n := by omega
        have HPQ := Lib.hid (part_ok HA.out HX.out hpq hnc hn)
        have HTK := Lib.hid (take_more bs p y)
        have hsl := cut_lh (P := Try.prog) (t := TS) Try.underlying26 size_u8 A n c p (p + y) (by omega) (by omega)
        rw [show p + y - p = y by omega, show ((p + y : Nat) : Int) = (p : Int) + (y : Int) by omega] at hsl
        obtain ⟨X, HXA⟩ : ∃ X, Hid (cutA A p c = X) := ⟨_, Lib.hid rfl⟩
        obtain ⟨z, HZ⟩ : ∃ z, Hid (c - p = z) := ⟨_, Lib.hid rfl⟩
        rw [HXA.out, HZ.out] at hsl HPQ
        go_wp2_with (at_builtin; refine push1 _ rfl (.tmp 33) (.tmp 40) 61 rfl w.heap.size TS i0 (.slice none 0 0) 24 Try.underlying61 hi hz0 hz1 hz2 rfl _ _ _ rfl HOW.out (.slice X y z) _ rfl rfl (by unfold maxLen; omega) (by omega) HBE.out.size ?_; intro v2 w2 hown2 hbel2)
        go_roundw
        case rel => exact ⟨j + 1, p + y, rows ++ [⟨X, y, z, (bs.drop p).take y⟩], by omega, by go_num, hpq, by go_num, by rw [List.length_append, HRL.out]; rfl, by simpa [svs] using hown2, fun r hr => by
          rcases List.mem_append.1 hr with hr | hr
          · exact HRS.out r hr
          · obtain rfl := List.mem_singleton.1 hr
            exact HPQ.out, by rw [allB_snoc, HALL.out, HTK.out], HBE.out.trans hbel2⟩
        case measure => simp [intOf]; omega
      · have hpq : p + r ≤ n := by omega
        have HPQ := Lib.hid (part_ok HA.out HX.out hpq hnc hn)
        have HTK := Lib.hid (take_more bs p r)
        have hsl := cut_lh (P := Try.prog) (t := TS) Try.underlying26 size_u8 A n c p (p + r) (by omega) (by omega)
        rw [show p + r - p = r by omega, show ((p + r : Nat) : Int) = (p : Int) + (r : Int) by omega] at hsl
        obtain ⟨X, HXA⟩ : ∃ X, Hid (cutA A p c = X) := ⟨_, Lib.hid rfl⟩
        obtain ⟨z, HZ⟩ : ∃ z, Hid (c - p = z) := ⟨_, Lib.hid rfl⟩
        rw [HXA.out, HZ.out] at hsl HPQ
        go_wp2_with (at_builtin; refine push1 _ rfl (.tmp 33) (.tmp 40) 61 rfl w.heap.size TS i0 (.slice none 0 0) 24 Try.underlying61 hi hz0 hz1 hz2 rfl _ _ _ rfl HOW.out (.slice X r z) _ rfl rfl (by unfold maxLen; omega) (by omega) HBE.out.size ?_; intro v2 w2 hown2 hbel2)
        go_roundw
        case rel => exact ⟨j + 1, p + r, rows ++ [⟨X, r, z, (bs.drop p).take r⟩], by omega, by go_num, hpq, by go_num, by rw [List.length_append, HRL.out]; rfl, by simpa [svs] using hown2, fun r hr => by
          rcases List.mem_append.1 hr with hr | hr
          · exact HRS.out r hr
          · obtain rfl := List.mem_singleton.1 hr
            exact HPQ.out, by rw [allB_snoc, HALL.out, HTK.out], HBE.out.trans hbel2⟩
        case measure => simp [intOf]; omega
    · obtain rfl : k = j := by omega
      have hpn : p + (n - p) = n := by omega
      obtain ⟨r, HR⟩ : ∃ r, Hid (n - p = r) := ⟨_, Lib.hid rfl⟩
      have hpr : p + r = n := by have := HR.out; omega
      have HPQ := Lib.hid (part_ok (p := p) (q := r) HA.out HX.out (by omega) hnc hn)
      have hsl := cut_l (P := Try.prog) (t := TS) Try.underlying26 size_u8 A n c p hp
      rw [HR.out] at hsl
      obtain ⟨X, HXA⟩ : ∃ X, Hid (cutA A p c = X) := ⟨_, Lib.hid rfl⟩
      obtain ⟨z, HZ⟩ : ∃ z, Hid (c - p = z) := ⟨_, Lib.hid rfl⟩
      rw [HXA.out, HZ.out] at hsl HPQ
      have HTK : Hid (bs.take p ++ (bs.drop p).take r = bs) := Lib.hid (by
        have h1 : (bs.drop p).take r = bs.drop p := List.take_of_length_le (by rw [List.length_drop, HBL.out]; omega)
        rw [h1, List.take_append_drop])
      clear hpn
      go_wp2_with (at_builtin; refine push1 _ rfl (.tmp 45) (.tmp 49) 61 rfl w.heap.size TS i0 (.slice none 0 0) 24 Try.underlying61 hi hz0 hz1 hz2 rfl _ _ _ rfl HOW.out (.slice X r z) _ rfl rfl (by unfold maxLen; omega) (by omega) HBE.out.size ?_; intro v2 w2 hown2 hbel2; obtain ⟨LA, lc, rfl, _, _, hl2⟩ := Lst.of_own hown2; have HL2 := Lib.hid hl2; have HB2 := Lib.hid (HBE.out.trans hbel2); clear hown2 hbel2 hl2)
      obtain ⟨rs, HRSN⟩ : ∃ rs, Hid (rows ++ [⟨X, r, z, (bs.drop p).take r⟩] = rs) := ⟨_, Lib.hid rfl⟩
      have HRL2 : Hid (rs.length = k + 1) := Lib.hid (by rw [← HRSN.out, List.length_append, HRL.out]; rfl)
      have HOK2 : Hid (∀ r ∈ rs, r.ok w2) := Lib.hid (fun r hr => by
        rw [← HRSN.out] at hr
        rcases List.mem_append.1 hr with hr | hr
        · exact ok_kept (HRS.out r hr) HB2.out
        · obtain rfl := List.mem_singleton.1 hr
          exact ok_kept HPQ.out HB2.out)
      have HAL2 : Hid (allB rs = bs) := Lib.hid (by rw [← HRSN.out, allB_snoc, HALL.out, HTK.out])
      have hrows : BRows w2 LA rs := ⟨by rw [HRL2.out, ← HRSN.out]; simpa [svs] using HL2.out, HOK2.out⟩
      have hs := sum_any LA lc rs w2 hrows (by rw [HRL2.out]; omega)
      rw [HAL2.out, HRL2.out] at hs
      have HS := Lib.hid hs
      clear hs hrows hsl
      refine HS.out.mono ?_
      rintro e w' ⟨rfl, rfl⟩
      have hrow1 : BRows (w2.alloc (.cells #[.slice A n c] TS)) (some ⟨w2.heap.size, 0, none⟩) [⟨A, n, c, bs⟩] := by
        refine ⟨lst_new w2 TS [.slice A n c], fun r hr => ?_⟩
        obtain rfl := List.mem_singleton.1 hr
        exact ⟨HA.out.kept (HB2.out.alloc HB2.out.size _), HX.out, by show n ≤ _; omega⟩
      have hs1 := sum_any (some ⟨w2.heap.size, 0, none⟩) 1 _ _ hrow1 (by simp)
      rw [show allB [(⟨A, n, c, bs⟩ : BRow)] = bs by simp [allB]] at hs1
      have HS1 := Lib.hid hs1
      obtain ⟨S, HSS⟩ : ∃ S, Hid (sumL 65535 bs = S) := ⟨_, Lib.hid rfl⟩
      rw [HSS.out] at HS1 ⊢
      clear hs1 hrow1
      have HB3 := Lib.hid (HB2.out.alloc HB2.out.size (.cells #[.slice A n c] TS))
      go_wp2_with fail
      refine HS1.out.mono ?_
      rintro e w' ⟨rfl, rfl⟩
      generalize w2.alloc (.cells #[.slice A n c] TS) = w3 at HB3 ⊢
      go_wp2_with fail
      refine (one_any w3).mono ?_
      rintro e w4 ⟨rfl, hb4⟩
      go_wp2
      go_ret
      exact ⟨rfl, HB3.out.trans (hb4.mono HB3.out.size)⟩
theorem walk (A : Option Addr) (n c : Nat) (zs : List Int) (B : Option Addr) (k d : Nat) (xs : List Int) (w : World) (ha : Lst w A n (zs.map (Value.int .u8))) (hz : ∀ x ∈ zs, 0 ≤ x ∧ x ≤ 255) (hnc : n ≤ c) (hcm : c ≤ maxLen)
    (hb : Lst w B k (xs.map (Value.int .i64))) (hx : ∀ x ∈ xs, -9223372036854775808 ≤ x ∧ x ≤ 9223372036854775807) (hkd : k ≤ d) (hdm : d ≤ maxLen) :
    Calls Try.prog 9 #[.slice A n c, .slice B k d] w fun e w' => e = .returned (.bool true) ∧ Below w.heap.size w w' := by
  unfold maxLen at hcm hdm
  obtain ⟨bs, ev, hv⟩ := nats_of zs hz
  rw [ev] at ha
  by_cases h : n ≤ 1000
  · by_cases h2 : k ≤ 40
    · exact walk_in A n c bs B k d xs w h h2 hnc (by omega) ha hv hb
    · have hn' : ¬ (1000 : Int) < (n : Int) := by omega
      have hk' : (40 : Int) < (k : Int) := by omega
      clear ha hz hb hx ev hv h h2
      go_enter Try.func9, Try.ntmps9
      go_wp2
      go_ret
      exact ⟨rfl, Below.refl _ _⟩
  · have hn' : (1000 : Int) < (n : Int) := by omega
    clear ha hz hb hx ev hv h
    go_enter Try.func9, Try.ntmps9
    go_wp2
    go_ret
    exact ⟨rfl, Below.refl _ _⟩

set_option maxRecDepth 100000 in
theorem lifted (os : Os) (started : os.Started) (H : Type) (enc : TypeId × Value → H) :
    ReturnsInHanded {} Try.checked os 9 .any (Rows.imagePartsSpec.pre6 enc Try.prog Try.f9 Rows.imagePartsRow.domain false) (Rows.imagePartsSpec.post enc Try.prog Try.f9 false true false false) := by
  refine returnsInHanded_of_change (C := Try.checked) own started (by kernel_rfl) Try.func9
    (ChangeSpec.witness6 (enc := enc) (C := Try.checked) false ⟨#[], #[.slice none 0 0, .slice none 0 0], []⟩ 8 (by kernel_rfl) (by kernel_rfl) (by kernel_rfl) (by kernel_rfl)) ?_
  intro W base args ds gs before hval0 hW hcnd _
  have hval : ∀ (j : Nat) t v, Try.f9.params[j]? = some t → args[j]? = some v → Value.okWide Try.prog W .any base t v := hval0
  have hW' := hW
  obtain ⟨p, q, hA0, hV, rfl, hfz, hnd⟩ := hW
  have hA : DataW.TrodAll enc Try.prog W 0 (fun _ => true) true Try.f9.params.toList args.toList ds p := hA0
  rw [Try.params9] at hA hval
  obtain ⟨v0, vs0, d0, ds0, p0, q0, hargs, rfl, rfl, h0, r0⟩ := trodAll_cons hA
  obtain ⟨v1, vs1, d1, ds1, p1, q1, rfl, rfl, rfl, h1, r1⟩ := trodAll_cons r0
  obtain ⟨rfl, rfl, rfl⟩ := trodAll_nil r1
  obtain rfl : args = #[v0, v1] := by cases args; simp_all
  obtain ⟨rfl, rfl⟩ := trodVars_none hV
  have k0 := h0
  have lt0 : ∀ x ∈ p0, x.block < W.heap.size := by obtain ⟨m, hm⟩ := k0; exact DataW.trod_lt m _ _ _ hm
  obtain ⟨bA, bn, bc, rfl⟩ := okWide_slice Try.underlying26 (hval 0 26 v0 rfl rfl)
  obtain ⟨b, l0, b0, cb0, cc0⟩ := lst_ints Try.underlying26 Try.underlying5 (by kernel_rfl) k0
  have k1 := h1
  have lt1 : ∀ x ∈ p1, x.block < W.heap.size := by obtain ⟨m, hm⟩ := k1; exact DataW.trod_lt m _ _ _ hm
  obtain ⟨cutsA, cutsn, cutsc, rfl⟩ := okWide_slice Try.underlying60 (hval 1 60 v1 rfl rfl)
  obtain ⟨cuts, l1, b1, cb1, cc1⟩ := lst_ints Try.underlying60 Try.underlying3 (by kernel_rfl) k1
  clear hA0 hval0
  refine (walk bA bn bc b cutsA cutsn cutsc cuts W l0 (ints_u8 b0) cb0 cc0 l1 (ints_i64 b1) cb1 cc1).mono fun e W' ⟨he, bel⟩ => ?_
  subst he
  exact ⟨_, rfl, _, _, _, [], _, [], hW', trodAll_mk1 (shut_bool Try.underlying4 _), (trodAll_cons_mk (Below.trod laidOut (by kernel_rfl) (of_decide_eq_true (by kernel_rfl)) k0 bel lt0) (trodAll_cons_mk (Below.trod laidOut (by kernel_rfl) (of_decide_eq_true (by kernel_rfl)) k1 bel lt1) trodAll_mk0)), rfl, bel.frame _, fun h => by cases h⟩

theorem over : Rows.imagePartsRow.holds Try.pinned (OpenSpec.ofChange Rows.imagePartsSpec) :=
  OpenClaim.holds_of_wide 9 Try.f9 rfl rfl rfl rfl rfl rfl rfl ⟨rfl, rfl, rfl, rfl, rfl⟩ rfl rfl rfl rfl rfl (by kernel_rfl) Try.func9 (by kernel_rfl)
    (of_decide_eq_true (by kernel_rfl)) (by unfold Func.isWrapper; first | (rw [if_pos (by decide +kernel)]; kernel_rfl) | (rw [if_neg (by decide +kernel)]; exact ⟨rfl, rfl⟩))
    (fun os started H enc _ => lifted os started H enc)

/-- The statement. -/
theorem proved : Rows.ImagePartsSaid := over
end Go.Proofs.Ythnopcoahcdjjaa.lawImageParts
