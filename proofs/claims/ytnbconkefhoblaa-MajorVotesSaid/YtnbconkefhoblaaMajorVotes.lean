/- Any lines that say a bit, or none, come to the document's bit, or to none: for every input; no condition. -/
import Derived.Test.YtnbconkefhoblaaMajB
import Derived.Test.YtnbconkefhoblaaSh
import Derived.Test.YtnbconkefhoblaaRows
import Derived.WalkKit
import Derived.ProofKit
import Derived.OpenShut
import Derived.ShutString
import Derived.ChangeOld
import Derived.Below
namespace Go.Proofs.Ytnbconkefhoblaa.lawMajorVotes
open Go.ChangeShapes Go.WideShapes Go.ChangeAt Go.RowKit Base
open Go.ChangeMaps (open_string shut_string)
set_option linter.unusedVariables false
set_option linter.unusedSimpArgs false
theorem own : ownKnob Try.prog.godebug = none := by kernel_rfl
theorem laidOut : laidOutB Try.prog = true := by kernel_rfl
open Ly16

theorem arr4 {w : World} {cs : Array Value} (h : Reads w (.ar 4 .bool) cs.toList) : ∃ a b c d, cs = #[.bool a, .bool b, .bool c, .bool d] := by
  obtain ⟨rows, hl, e, hr⟩ := h
  match rows, hl with
  | [r0, r1, r2, r3], _ =>
    obtain ⟨a, rfl⟩ := hr r0 (by simp)
    obtain ⟨b, rfl⟩ := hr r1 (by simp)
    obtain ⟨c, rfl⟩ := hr r2 (by simp)
    obtain ⟨d, rfl⟩ := hr r3 (by simp)
    exact ⟨a, b, c, d, by cases cs; simpa using e⟩

set_option maxRecDepth 100000 in
set_option maxHeartbeats 1000000 in
theorem walk4 (b0 b1 b2 b3 i0 i1 i2 i3 : Bool) (w : World) :
    Calls Try.prog 3 #[.agg #[.bool b0, .bool b1, .bool b2, .bool b3], .agg #[.bool i0, .bool i1, .bool i2, .bool i3]] w fun e w' => e = .returned (.bool true) ∧ Below w.heap.size w w' := by
  obtain ⟨B, HB⟩ : ∃ B, Hid (bitB b0 b1 b2 b3 i0 i1 i2 i3 = B) := ⟨_, Lib.hid rfl⟩
  obtain ⟨K, HK⟩ : ∃ K, Hid (okB b0 b1 b2 b3 i0 i1 i2 i3 = K) := ⟨_, Lib.hid rfl⟩
  have C1 := Lib.hid (fun W => of_any b0 b1 b2 b3 i0 i1 i2 i3 W)
  have C2 := Lib.hid (fun W => rof_any b0 b1 b2 b3 i0 i1 i2 i3 W)
  rw [HB.out, HK.out] at C1 C2
  have A0 := Obj1.new w 22 #[.bool b0, .bool b1, .bool b2, .bool b3]
  have A1 := Obj1.new (w.alloc (.cells #[.bool b0, .bool b1, .bool b2, .bool b3] 22)) 22 #[.bool i0, .bool i1, .bool i2, .bool i3]
  have e1 : (w.alloc (.cells #[.bool b0, .bool b1, .bool b2, .bool b3] 22)).heap.size = w.heap.size + 1 := by simp
  rw [e1] at A1
  have HA0 := Lib.hid (A0.alloc (.cells #[.bool i0, .bool i1, .bool i2, .bool i3] 22))
  have HA1 := Lib.hid A1
  clear A0 A1 e1
  go_enter Try.func3, Try.ntmps3
  go_wp2_with fail
  refine (C1.out _).mono ?_
  rintro e w1 ⟨rfl, hb1⟩
  have K0 := Lib.hid (HA0.out.kept hb1)
  have K1 := Lib.hid (HA1.out.kept hb1)
  have p0 : w1.cell? ⟨w.heap.size, 0, none⟩ = some (.bool b0) := K0.out.cell 0
  have p1 : w1.cell? ⟨w.heap.size, 1, none⟩ = some (.bool b1) := K0.out.cell 1
  have p2 : w1.cell? ⟨w.heap.size, 2, none⟩ = some (.bool b2) := K0.out.cell 2
  have p3 : w1.cell? ⟨w.heap.size, 3, none⟩ = some (.bool b3) := K0.out.cell 3
  have q0 : w1.cell? ⟨w.heap.size + 1, 0, none⟩ = some (.bool i0) := K1.out.cell 0
  have q1 : w1.cell? ⟨w.heap.size + 1, 1, none⟩ = some (.bool i1) := K1.out.cell 1
  have q2 : w1.cell? ⟨w.heap.size + 1, 2, none⟩ = some (.bool i2) := K1.out.cell 2
  have q3 : w1.cell? ⟨w.heap.size + 1, 3, none⟩ = some (.bool i3) := K1.out.cell 3
  have HB1 : Hid (Below w.heap.size w w1) := Lib.hid ((((Below.refl _ _).alloc (Nat.le_refl _) _).alloc (by simp) _).trans (hb1.mono (by simp; omega)))
  clear hb1
  go_wp2_with fail
  refine (C2.out _).mono ?_
  rintro e w2 ⟨rfl, hb2⟩
  have HB2 := Lib.hid (HB1.out.trans (hb2.mono HB1.out.size))
  clear hb2 p0 p1 p2 p3 q0 q1 q2 q3
  go_wp2_with fail
  refine (one_any _).mono ?_
  rintro e w3 ⟨rfl, hb3⟩
  go_wp2
  go_ret
  exact ⟨rfl, HB2.out.trans (hb3.mono HB2.out.size)⟩
theorem walk (cs ds : Array Value) (w : World) (hr : Reads w (.ar 4 .bool) cs.toList) (hs : Reads w (.ar 4 .bool) ds.toList) :
    Calls Try.prog 3 #[.agg cs, .agg ds] w fun e w' => e = .returned (.bool true) ∧ Below w.heap.size w w' := by
  obtain ⟨a, b, c, d, rfl⟩ := arr4 hr
  obtain ⟨a', b', c', d', rfl⟩ := arr4 hs
  exact walk4 a b c d a' b' c' d' w

set_option maxRecDepth 100000 in
theorem lifted (os : Os) (started : os.Started) (H : Type) (enc : TypeId × Value → H) :
    ReturnsInHanded {} Try.checked os 3 .any (Rows.majorVotesSpec.pre6 enc Try.prog Try.f3 Rows.majorVotesRow.domain false) (Rows.majorVotesSpec.post enc Try.prog Try.f3 false true false false) := by
  refine returnsInHanded_of_change (C := Try.checked) own started (by kernel_rfl) Try.func3
    (ChangeSpec.witness6 (enc := enc) (C := Try.checked) false ⟨#[], #[.agg #[.bool false, .bool false, .bool false, .bool false], .agg #[.bool false, .bool false, .bool false, .bool false]], []⟩ 8 (by kernel_rfl) (by kernel_rfl) (by kernel_rfl) (by kernel_rfl)) ?_
  intro W base args ds gs before hval0 hW hcnd _
  have hval : ∀ (j : Nat) t v, Try.f3.params[j]? = some t → args[j]? = some v → Value.okWide Try.prog W .any base t v := hval0
  have hW' := hW
  obtain ⟨p, q, hA0, hV, rfl, hfz, hnd⟩ := hW
  have hA : DataW.TrodAll enc Try.prog W 0 (fun _ => true) true Try.f3.params.toList args.toList ds p := hA0
  rw [Try.params3] at hA hval
  obtain ⟨v0, vs0, d0, ds0, p0, q0, hargs, rfl, rfl, h0, r0⟩ := trodAll_cons hA
  obtain ⟨v1, vs1, d1, ds1, p1, q1, rfl, rfl, rfl, h1, r1⟩ := trodAll_cons r0
  obtain ⟨rfl, rfl, rfl⟩ := trodAll_nil r1
  obtain rfl : args = #[v0, v1] := by cases args; simp_all
  obtain ⟨rfl, rfl⟩ := trodVars_none hV
  have k0 := h0
  have lt0 : ∀ x ∈ p0, x.block < W.heap.size := by obtain ⟨m, hm⟩ := k0; exact DataW.trod_lt m _ _ _ hm
  obtain ⟨bit, rfl⟩ := okWide_agg (by first | exact .inl ⟨_, Try.underlying22⟩ | exact .inr ⟨_, _, Try.underlying22⟩) (hval 0 22 v0 rfl rfl)
  have rd0 := reads_cells (sh := .ar 4 .bool) 30 (by kernel_rfl) k0
  have k1 := h1
  have lt1 : ∀ x ∈ p1, x.block < W.heap.size := by obtain ⟨m, hm⟩ := k1; exact DataW.trod_lt m _ _ _ hm
  obtain ⟨isS, rfl⟩ := okWide_agg (by first | exact .inl ⟨_, Try.underlying22⟩ | exact .inr ⟨_, _, Try.underlying22⟩) (hval 1 22 v1 rfl rfl)
  have rd1 := reads_cells (sh := .ar 4 .bool) 30 (by kernel_rfl) k1
  clear hA0 hval0
  refine (walk bit isS W rd0 rd1).mono fun e W' ⟨he, bel⟩ => ?_
  subst he
  exact ⟨_, rfl, _, _, _, [], _, [], hW', trodAll_mk1 (shut_bool Try.underlying4 _), (trodAll_cons_mk (Below.trod laidOut (by kernel_rfl) (of_decide_eq_true (by kernel_rfl)) k0 bel lt0) (trodAll_cons_mk (Below.trod laidOut (by kernel_rfl) (of_decide_eq_true (by kernel_rfl)) k1 bel lt1) trodAll_mk0)), rfl, bel.frame _, fun h => by cases h⟩

theorem over : Rows.majorVotesRow.holds Try.pinned (OpenSpec.ofChange Rows.majorVotesSpec) :=
  OpenClaim.holds_of_wide 3 Try.f3 rfl rfl rfl rfl rfl rfl rfl ⟨rfl, rfl, rfl, rfl, rfl⟩ rfl rfl rfl rfl rfl (by kernel_rfl) Try.func3 (by kernel_rfl)
    (of_decide_eq_true (by kernel_rfl)) (by unfold Func.isWrapper; first | (rw [if_pos (by decide +kernel)]; kernel_rfl) | (rw [if_neg (by decide +kernel)]; exact ⟨rfl, rfl⟩))
    (fun os started H enc _ => lifted os started H enc)

/-- The statement. -/
theorem proved : Rows.MajorVotesSaid := over
end Go.Proofs.Ytnbconkefhoblaa.lawMajorVotes
