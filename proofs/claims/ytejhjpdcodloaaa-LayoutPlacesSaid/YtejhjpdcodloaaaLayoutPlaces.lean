/- Any sizes are placed, beside any parts, where the document says, or have its error: for every list of sizes, number and list of parts; no condition. -/
import Derived.RegionTactic
import Derived.IntWalk
import Derived.Deep.DeepCutAuto
import Derived.Deep.CutBlock
import Derived.Test.YtejhjpdcodloaaaLayD
import Derived.Test.YtejhjpdcodloaaaOne42
import Derived.Test.YtejhjpdcodloaaaRows
import Derived.WalkKit
import Derived.ProofKit
import Derived.OpenShut
import Derived.ShutString
import Derived.ChangeOld
import Derived.Below
namespace Go.Proofs.Ytejhjpdcodloaaa.lawLayoutPlaces
open Go.ChangeShapes Go.WideShapes Go.ChangeAt Go.RowKit Base
open Go.ChangeMaps (open_string shut_string)
set_option linter.unusedVariables false
set_option linter.unusedSimpArgs false
theorem own : ownKnob Try.prog.godebug = none := by kernel_rfl
theorem laidOut : laidOutB Try.prog = true := by kernel_rfl
open Ly42

theorem plc_len (al : Nat) (tk : List Pt) : ∀ (zs : List Int) (out : List Pt) (i : Nat), (plc al tk out i zs).1.length ≤ out.length + zs.length
  | [], out, i => by simp [plc]
  | z :: r, out, i => by
    unfold plc
    split
    · simp
    · rename_i a _
      have := plc_len al tk r (out ++ [⟨(a : Int), z⟩]) (i + 1)
      refine Nat.le_trans this ?_
      simp
      omega
theorem res_len (al : Int) (tk : List Pt) (zs : List Int) : (resP al tk zs).1.length ≤ zs.length := by
  unfold resP
  split
  · simp
  · split
    · simp
    · have := plc_len al.toNat tk zs [] 0
      simpa using this
set_option maxRecDepth 100000 in
set_option maxHeartbeats 1000000 in
theorem walk_yes (Z : Option Addr) (nz cz : Nat) (zs : List Int) (al : Int) (A : Option Addr) (n c : Nat) (tk : List Pt) (w : World) (hz : Lst w Z nz (zs.map (Value.int .i64))) (hl : PtsAt w A n tk) (hnz : nz ≤ 9223372036854775807) (hn : n ≤ 9223372036854775807) :
    Calls Try.prog 5 #[.slice Z nz cz, .int .i64 al, .slice A n c] w fun e w' => e = .returned (.bool true) ∧ Below w.heap.size w w' := by
  by_cases h1 : 80 < nz
  · have h1i : (80 : Int) < (nz : Int) := by omega
    go_enter Try.func5, Try.ntmps5
    go_wp2
    go_ret
    exact ⟨rfl, Below.refl _ _⟩
  have h1i : ¬ (80 : Int) < (nz : Int) := by omega
  by_cases h2 : 80 < n
  · have h2i : (80 : Int) < (n : Int) := by omega
    go_enter Try.func5, Try.ntmps5
    go_wp2
    go_ret
    exact ⟨rfl, Below.refl _ _⟩
  have h2i : ¬ (80 : Int) < (n : Int) := by omega
  have HZ := Lib.hid hz
  have HL := Lib.hid hl
  have HP := Lib.hid (place_any Z nz cz zs al A n c tk w hz hl (by omega) (by omega))
  obtain ⟨R, HR⟩ : ∃ R, Hid (resP al tk zs = R) := ⟨_, Lib.hid rfl⟩
  rw [HR.out] at HP
  have HRL : Hid (R.1.length ≤ 1000) := Lib.hid (by rw [← HR.out]; have h3 := res_len al tk zs; have h4 := hz.1; simp at h4; omega)
  have hn1 : n ≤ 80 := by omega
  have hz1 : nz ≤ 80 := by omega
  clear hz hl h1 h2
  go_enter Try.func5, Try.ntmps5
  go_upto_region 3 with (fail)
  clear h1i h2i
  go_wp2_with fail
  refine HP.out.mono ?_
  rintro e w2 ⟨v2, rfl, HO2, hb2⟩
  obtain ⟨LA, lc, rfl, _, hp2⟩ := pts_own HO2.out rfl
  have HB2 := Lib.hid hb2.out
  have HP2 := Lib.hid hp2
  clear hb2 hp2 HP HO2
  go_upto_region 4 with (fail)
  have HOW := Lib.hid (own_any A n c tk w2 (HL.out.kept HB2.out) (by omega))
  go_wp2_with fail
  refine HOW.out.mono ?_
  rintro e w3 ⟨tv, rfl, HO3, hb3⟩
  have HB3 := Lib.hid (HB2.out.trans (hb3.out.mono HB2.out.size))
  have HP3 := Lib.hid (HP2.out.kept hb3.out)
  clear hb3 HOW HP2
  have HRP := Lib.hid (rplace_any Z nz cz zs al tv _ n tk w3 (HZ.out.kept HB3.out) HO3.out HL.out.len (by omega) (by omega))
  rw [HR.out] at HRP
  go_wp2_with fail
  refine HRP.out.mono ?_
  rintro e w4 ⟨v4, rfl, HO4, hb4⟩
  obtain ⟨RA, rc, rfl, _, hp4⟩ := pts_own HO4.out rfl
  have HB4 := Lib.hid (HB3.out.trans (hb4.out.mono HB3.out.size))
  have HP4 := Lib.hid (HP3.out.kept hb4.out)
  have HQ4 := Lib.hid hp4
  clear hb4 hp4 HRP HO4 HP3 HO3
  have HSM := Lib.hid (same_yes LA R.1.length lc RA rc R.1 w4 HP4.out HQ4.out HRL.out)
  obtain ⟨i, hi⟩ : ∃ i, R.2.1 = i := ⟨_, rfl⟩
  obtain ⟨j, hj⟩ : ∃ j, R.2.2 = j := ⟨_, rfl⟩
  obtain ⟨N, hN⟩ : ∃ N, R.1.length = N := ⟨_, rfl⟩
  rw [hN] at HSM
  rw [hi, hj, hN]
  clear hi hj hN
  go_upto_region 5 with (fail)
  go_wp2_with fail
  refine HSM.out.mono ?_
  rintro e w5 ⟨rfl, hb5⟩
  have HB5 := Lib.hid (HB4.out.trans (hb5.mono HB4.out.size))
  clear hb5 HSM
  go_wp2_with fail
  refine (One42.one_any _).mono ?_
  rintro e w6 ⟨rfl, hb6⟩
  have HB6 := Lib.hid (HB5.out.trans (hb6.mono HB5.out.size))
  clear hb6
  go_wp2
  go_ret
  exact ⟨rfl, HB6.out⟩
theorem walk (Z : Option Addr) (nz cz : Nat) (zs : List Int) (al : Int) (A : Option Addr) (n c : Nat) (rows : List (List Value)) (w : World) (hz : Lst w Z nz (zs.map (Value.int .i64))) (_ : ∀ x ∈ zs, -9223372036854775808 ≤ x ∧ x ≤ 9223372036854775807) (hzc : nz ≤ cz) (hzm : cz ≤ maxLen)
    (_ : -9223372036854775808 ≤ al) (_ : al ≤ 9223372036854775807) (hg : Grid w A n (Sh.size shP) rows) (hr : ∀ r ∈ rows, Reads w shP r) (hnc : n ≤ c) (hcm : c ≤ maxLen) :
    Calls Try.prog 5 #[.slice Z nz cz, .int .i64 al, .slice A n c] w fun e w' => e = .returned (.bool true) ∧ Below w.heap.size w w' := by
  unfold maxLen at hzm hcm
  obtain ⟨tk, hp, _⟩ := pts_in hg hr
  exact walk_yes Z nz cz zs al A n c tk w hz hp (by omega) (by omega)

set_option maxRecDepth 100000 in
theorem lifted (os : Os) (started : os.Started) (H : Type) (enc : TypeId × Value → H) :
    ReturnsInHanded {} Try.checked os 5 .any (Rows.layoutPlacesSpec.pre6 enc Try.prog Try.f5 Rows.layoutPlacesRow.domain false) (Rows.layoutPlacesSpec.post enc Try.prog Try.f5 false true false false) := by
  refine returnsInHanded_of_change (C := Try.checked) own started (by kernel_rfl) Try.func5
    (ChangeSpec.witness6 (enc := enc) (C := Try.checked) false ⟨#[], #[.slice none 0 0, .int .i64 0, .slice none 0 0], []⟩ 8 (by kernel_rfl) (by kernel_rfl) (by kernel_rfl) (by kernel_rfl)) ?_
  intro W base args ds gs before hval0 hW hcnd _
  have hval : ∀ (j : Nat) t v, Try.f5.params[j]? = some t → args[j]? = some v → Value.okWide Try.prog W .any base t v := hval0
  have hW' := hW
  obtain ⟨p, q, hA0, hV, rfl, hfz, hnd⟩ := hW
  have hA : DataW.TrodAll enc Try.prog W 0 (fun _ => true) true Try.f5.params.toList args.toList ds p := hA0
  rw [Try.params5] at hA hval
  obtain ⟨v0, vs0, d0, ds0, p0, q0, hargs, rfl, rfl, h0, r0⟩ := trodAll_cons hA
  obtain ⟨v1, vs1, d1, ds1, p1, q1, rfl, rfl, rfl, h1, r1⟩ := trodAll_cons r0
  obtain ⟨v2, vs2, d2, ds2, p2, q2, rfl, rfl, rfl, h2, r2⟩ := trodAll_cons r1
  obtain ⟨rfl, rfl, rfl⟩ := trodAll_nil r2
  obtain rfl : args = #[v0, v1, v2] := by cases args; simp_all
  obtain ⟨rfl, rfl⟩ := trodVars_none hV
  have k0 := h0
  have lt0 : ∀ x ∈ p0, x.block < W.heap.size := by obtain ⟨m, hm⟩ := k0; exact DataW.trod_lt m _ _ _ hm
  obtain ⟨sizesA, sizesn, sizesc, rfl⟩ := okWide_slice Try.underlying42 (hval 0 42 v0 rfl rfl)
  obtain ⟨sizes, l0, b0, cb0, cc0⟩ := lst_ints Try.underlying42 Try.underlying3 (by kernel_rfl) k0
  obtain ⟨align, rfl, rfl, rfl, wf1⟩ := open_int Try.underlying3 (hval 1 3 v1 rfl rfl) h1
  have bd1 := bounds_i64 wf1
  have k2 := h2
  have lt2 : ∀ x ∈ p2, x.block < W.heap.size := by obtain ⟨m, hm⟩ := k2; exact DataW.trod_lt m _ _ _ hm
  obtain ⟨takenA, takenn, takenc, rfl⟩ := okWide_slice Try.underlying43 (hval 2 43 v2 rfl rfl)
  obtain ⟨taken, g2, rd2, cb2, cc2⟩ := reads_slice (e := shP) 30 (by kernel_rfl) k2
  clear hA0 hval0
  refine (walk sizesA sizesn sizesc sizes align takenA takenn takenc taken W l0 (ints_i64 b0) cb0 cc0 bd1.1 bd1.2 g2 rd2 cb2 cc2).mono fun e W' ⟨he, bel⟩ => ?_
  subst he
  exact ⟨_, rfl, _, _, _, [], _, [], hW', trodAll_mk1 (shut_bool Try.underlying4 _), (trodAll_cons_mk (Below.trod laidOut (by kernel_rfl) (of_decide_eq_true (by kernel_rfl)) k0 bel lt0) (trodAll_cons_mk (shut_int Try.underlying3 wf1) (trodAll_cons_mk (Below.trod laidOut (by kernel_rfl) (of_decide_eq_true (by kernel_rfl)) k2 bel lt2) trodAll_mk0))), rfl, bel.frame _, fun h => by cases h⟩

theorem over : Rows.layoutPlacesRow.holds Try.pinned (OpenSpec.ofChange Rows.layoutPlacesSpec) :=
  OpenClaim.holds_of_wide 5 Try.f5 rfl rfl rfl rfl rfl rfl rfl ⟨rfl, rfl, rfl, rfl, rfl⟩ rfl rfl rfl rfl rfl (by kernel_rfl) Try.func5 (by kernel_rfl)
    (of_decide_eq_true (by kernel_rfl)) (by unfold Func.isWrapper; first | (rw [if_pos (by decide +kernel)]; kernel_rfl) | (rw [if_neg (by decide +kernel)]; exact ⟨rfl, rfl⟩))
    (fun os started H enc _ => lifted os started H enc)

/-- The statement. -/
theorem proved : Rows.LayoutPlacesSaid := over
end Go.Proofs.Ytejhjpdcodloaaa.lawLayoutPlaces
