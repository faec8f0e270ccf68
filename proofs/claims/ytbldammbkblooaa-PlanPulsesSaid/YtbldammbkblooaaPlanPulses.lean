/- Any slot pulses where the document says, and any candidate's words begin where it says: for every slot and every candidate; no condition. -/
import Derived.Test.YtbldammbkblooaaPlnA
import Derived.Test.YtbldammbkblooaaSh
import Derived.Test.YtbldammbkblooaaRows
import Derived.WalkKit
import Derived.ProofKit
import Derived.OpenShut
import Derived.ShutString
import Derived.ChangeOld
import Derived.Below
namespace Go.Proofs.Ytbldammbkblooaa.lawPlanPulses
open Go.ChangeShapes Go.WideShapes Go.ChangeAt Go.RowKit Base
open Go.ChangeMaps (open_string shut_string)
set_option linter.unusedVariables false
set_option linter.unusedSimpArgs false
theorem own : ownKnob Try.prog.godebug = none := by kernel_rfl
theorem laidOut : laidOutB Try.prog = true := by kernel_rfl
open Ly7

/-- Where the candidate's words begin, in the statement's words. -/
def Wnt (k mn c b : Int) : Prop := (((k == 0) = false) ∧ b = 0) ∨ (k = 0 ∧ c < 0 ∧ b = 0) ∨ (k = 0 ∧ 0 ≤ c ∧ 1 ≤ c ∧ mn ≤ c ∧ b = 0) ∨ (k = 0 ∧ 0 ≤ c ∧ (c < 1 ∨ c < mn) ∧ b = 40 + 80 * c)
theorem wnt_ex (k mn c : Int) : ∃ b, Wnt k mn c b := by
  by_cases hk : k = 0
  · by_cases h0 : c < 0
    · exact ⟨0, .inr (.inl ⟨hk, h0, rfl⟩)⟩
    · by_cases h1 : c < 1 ∨ c < mn
      · exact ⟨_, .inr (.inr (.inr ⟨hk, by omega, h1, rfl⟩))⟩
      · exact ⟨0, .inr (.inr (.inl ⟨hk, by omega, by omega, by omega, rfl⟩))⟩
  · exact ⟨0, .inl ⟨by simpa using hk, rfl⟩⟩
theorem bgn_of {k mn c b : Int} (h : Wnt k mn c b) : Bgn k mn c b := by
  rcases h with ⟨h, e⟩ | h | h | h
  · exact .inl ⟨⟨h, by simpa [bne] using h⟩, e⟩
  · exact .inr (.inl h)
  · exact .inr (.inr (.inl h))
  · exact .inr (.inr (.inr h))
theorem nowrap40 {c : Int} (h0 : 0 ≤ c) (h1 : c < 1099511627776) : 40 + 80 * c ≤ 9223372036854775807 := by omega
set_option maxRecDepth 100000 in
set_option maxHeartbeats 1000000 in
theorem go (k s l wo ad mn cn c : Int) (tk : Bool) (w : World) (c0 : -9223372036854775808 ≤ c) (c1 : c ≤ 9223372036854775807) (m0 : -9223372036854775808 ≤ mn) (m1 : mn ≤ 9223372036854775807) :
    Calls Try.prog 3 #[.agg #[.int .i64 k, .int .i64 s, .int .i64 l, .int .i64 wo, .int .i64 ad, .int .i64 mn, .int .i64 cn, .bool tk], .int .i64 c] w fun e w' => e = .returned (.bool true) ∧ Below w.heap.size w w' := by
  obtain ⟨y, y0, y1', hy'⟩ := and_mask l 1048575 (by omega)
  have y1 : y ≤ 1048575 := y1'
  have hy : Go.bits BinOp.and IntKind.i64 l 1048575 = y := hy'
  clear y1' hy'
  obtain ⟨a, b, hab⟩ := pls_ex k y
  obtain ⟨g, hg⟩ := wnt_ex k mn c
  have HP : Hid (∀ W : World, Calls Try.prog 11 #[.agg #[.int .i64 k, .int .i64 s, .int .i64 y, .int .i64 wo, .int .i64 ad, .int .i64 mn, .int .i64 cn, .bool tk]] W fun e w' => e = .returned (.tuple #[.int .i64 a, .int .i64 b]) ∧ Below W.heap.size W w') := Lib.hid fun W => pulse_any k s y wo ad mn cn a b tk W y0 y1 hab
  have HR : Hid (∀ W : World, Calls Try.prog 12 #[.int .i64 k, .int .i64 y] W fun e w' => e = .returned (.tuple #[.int .i64 a, .int .i64 b]) ∧ W = w') := Lib.hid fun W => rpulse_any k y a b W y0 y1 hab
  have HB : Hid (c < 1099511627776 → ∀ W : World, Calls Try.prog 14 #[.agg #[.int .i64 k, .int .i64 s, .int .i64 y, .int .i64 wo, .int .i64 ad, .int .i64 mn, .int .i64 cn, .bool tk], .int .i64 c] W fun e w' => e = .returned (.int .i64 g) ∧ Below W.heap.size W w') := Lib.hid fun hc W => begin_any k s y wo ad mn cn c g tk W c0 hc m0 m1 (bgn_of hg)
  clear hab
  have HG := Lib.hid hg
  clear hg
  go_enter Try.func3, Try.ntmps3
  go_wp2_with fail
  refine (HP.out _).mono ?_
  rintro e w1 ⟨rfl, hb1⟩
  obtain ⟨hc1, hf1⟩ := bcell hb1
  have hz1 := hb1.size
  simp at hz1
  go_wp2_with fail
  refine (HR.out _).mono ?_
  rintro e w' ⟨rfl, rfl⟩
  by_cases hbig : c < 1099511627776
  · have HBB := Lib.hid (HB.out hbig)
    clear HB
    rcases HG.out with ⟨hk, rfl⟩ | ⟨rfl, h2, rfl⟩ | ⟨rfl, h2, h3, h4, rfl⟩ | ⟨rfl, h2, h3, rfl⟩
    all_goals
      go_wp2_with fail
      all_goals
        refine (HBB.out _).mono ?_
        rintro e w2 ⟨rfl, hb2⟩
        go_wp2_with fail
        refine (one_any _).mono ?_
        rintro e w3 ⟨rfl, hb3⟩
        go_wp2
        go_ret
        refine ⟨rfl, ?_⟩
        repeat (first | exact Below.refl _ _ | refine Below.setCell ?_ (by first | omega | (simp; done) | (simp; omega) | (have := hb3.size; simp at this ⊢; omega) | (have := hb2.size; simp at this ⊢; omega) | (have := hb1.size; simp at this ⊢; omega) | (have := hb3.size; have := hb2.size; have := hb1.size; simp at *; omega)) _ | refine Below.alloc ?_ (by first | omega | (simp; done) | (simp; omega) | (have := hb3.size; simp at this ⊢; omega) | (have := hb2.size; simp at this ⊢; omega) | (have := hb1.size; simp at this ⊢; omega) | (have := hb3.size; have := hb2.size; have := hb1.size; simp at *; omega)) _ | refine below_drewN' ?_ _ | refine Below.drew ?_ | refine Below.trans ?_ (hb3.mono (by first | omega | (simp; done) | (simp; omega) | (have := hb3.size; simp at this ⊢; omega) | (have := hb2.size; simp at this ⊢; omega) | (have := hb1.size; simp at this ⊢; omega) | (have := hb3.size; have := hb2.size; have := hb1.size; simp at *; omega))) | refine Below.trans ?_ (hb2.mono (by first | omega | (simp; done) | (simp; omega) | (have := hb3.size; simp at this ⊢; omega) | (have := hb2.size; simp at this ⊢; omega) | (have := hb1.size; simp at this ⊢; omega) | (have := hb3.size; have := hb2.size; have := hb1.size; simp at *; omega))) | refine Below.trans ?_ (hb1.mono (by first | omega | (simp; done) | (simp; omega) | (have := hb3.size; simp at this ⊢; omega) | (have := hb2.size; simp at this ⊢; omega) | (have := hb1.size; simp at this ⊢; omega) | (have := hb3.size; have := hb2.size; have := hb1.size; simp at *; omega))))
  · clear HB HG
    by_cases hk : k = 0
    · subst hk
      go_wp2_with fail
      all_goals
        refine (one_any _).mono ?_
        rintro e w3 ⟨rfl, hb3⟩
        go_wp2
        go_ret
        refine ⟨rfl, ?_⟩
        repeat (first | exact Below.refl _ _ | refine Below.setCell ?_ (by first | omega | (simp; done) | (simp; omega) | (have := hb3.size; simp at this ⊢; omega) | (have := hb1.size; simp at this ⊢; omega) | (have := hb3.size; have := hb1.size; simp at *; omega)) _ | refine Below.alloc ?_ (by first | omega | (simp; done) | (simp; omega) | (have := hb3.size; simp at this ⊢; omega) | (have := hb1.size; simp at this ⊢; omega) | (have := hb3.size; have := hb1.size; simp at *; omega)) _ | refine below_drewN' ?_ _ | refine Below.drew ?_ | refine Below.trans ?_ (hb3.mono (by first | omega | (simp; done) | (simp; omega) | (have := hb3.size; simp at this ⊢; omega) | (have := hb1.size; simp at this ⊢; omega) | (have := hb3.size; have := hb1.size; simp at *; omega))) | refine Below.trans ?_ (hb1.mono (by first | omega | (simp; done) | (simp; omega) | (have := hb3.size; simp at this ⊢; omega) | (have := hb1.size; simp at this ⊢; omega) | (have := hb3.size; have := hb1.size; simp at *; omega))))
    · have hk' : (k == 0) = false := by simpa using hk
      clear hk
      go_wp2_with fail
      all_goals
        refine (one_any _).mono ?_
        rintro e w3 ⟨rfl, hb3⟩
        go_wp2
        go_ret
        refine ⟨rfl, ?_⟩
        repeat (first | exact Below.refl _ _ | refine Below.setCell ?_ (by first | omega | (simp; done) | (simp; omega) | (have := hb3.size; simp at this ⊢; omega) | (have := hb1.size; simp at this ⊢; omega) | (have := hb3.size; have := hb1.size; simp at *; omega)) _ | refine Below.alloc ?_ (by first | omega | (simp; done) | (simp; omega) | (have := hb3.size; simp at this ⊢; omega) | (have := hb1.size; simp at this ⊢; omega) | (have := hb3.size; have := hb1.size; simp at *; omega)) _ | refine below_drewN' ?_ _ | refine Below.drew ?_ | refine Below.trans ?_ (hb3.mono (by first | omega | (simp; done) | (simp; omega) | (have := hb3.size; simp at this ⊢; omega) | (have := hb1.size; simp at this ⊢; omega) | (have := hb3.size; have := hb1.size; simp at *; omega))) | refine Below.trans ?_ (hb1.mono (by first | omega | (simp; done) | (simp; omega) | (have := hb3.size; simp at this ⊢; omega) | (have := hb1.size; simp at this ⊢; omega) | (have := hb3.size; have := hb1.size; simp at *; omega))))
abbrev shS : Sh := .fld (.int .i64) (.fld (.int .i64) (.fld (.int .i64) (.fld (.int .i64) (.fld (.int .i64) (.fld (.int .i64) (.fld (.int .i64) (.fld .bool .nil)))))))
theorem walk (x : Array Value) (c : Int) (w : World) (rd : Reads w shS x.toList) (c0 : -9223372036854775808 ≤ c) (c1 : c ≤ 9223372036854775807) :
    Calls Try.prog 3 #[.agg x, .int .i64 c] w fun e w' => e = .returned (.bool true) ∧ Below w.heap.size w w' := by
  obtain ⟨_, _, e, ⟨k, rfl, _⟩, _, _, rfl, ⟨s, rfl, _⟩, _, _, rfl, ⟨l, rfl, _⟩, _, _, rfl, ⟨wo, rfl, _⟩, _, _, rfl, ⟨ad, rfl, _⟩, _, _, rfl, ⟨mn, rfl, wm⟩, _, _, rfl, ⟨cn, rfl, _⟩, _, _, rfl, ⟨tk, rfl⟩, rfl⟩ := rd
  obtain ⟨xs⟩ := x
  simp at e
  subst e
  have bm := bounds_i64 wm
  exact go k s l wo ad mn cn c tk w c0 c1 bm.1 bm.2

set_option maxRecDepth 100000 in
theorem lifted (os : Os) (started : os.Started) (H : Type) (enc : TypeId × Value → H) :
    ReturnsInHanded {} Try.checked os 3 .any (Rows.planPulsesSpec.pre6 enc Try.prog Try.f3 Rows.planPulsesRow.domain false) (Rows.planPulsesSpec.post enc Try.prog Try.f3 false true false false) := by
  refine returnsInHanded_of_change (C := Try.checked) own started (by kernel_rfl) Try.func3
    (ChangeSpec.witness6 (enc := enc) (C := Try.checked) false ⟨#[], #[.agg #[.int .i64 0, .int .i64 0, .int .i64 0, .int .i64 0, .int .i64 0, .int .i64 0, .int .i64 0, .bool false], .int .i64 0], []⟩ 8 (by kernel_rfl) (by kernel_rfl) (by kernel_rfl) (by kernel_rfl)) ?_
  intro W base args ds gs before hval0 hW hcnd _
  have hval : ∀ (j : Nat) t v, Try.f3.params[j]? = some t → args[j]? = some v → Value.okWide Try.prog W .any base t v := hval0
  have hW' := hW
  obtain ⟨p, q, hA0, hV, rfl, hfz, hnd⟩ := hW
  have hA : DataW.TrodAll enc Try.prog W 0 (fun _ => true) true Try.f3.params.toList args.toList ds p := hA0
  rw [Try.params3] at hA hval
  obtain ⟨v0, vs0, d0, ds0, p0, q0, hargs, rfl, rfl, h0, r0⟩ := trodAll_cons hA
  obtain ⟨v1, vs1, d1, ds1, p1, q1, rfl, rfl, rfl, h1, r1⟩ := trodAll_cons r0
  obtain ⟨rfl, rfl, rfl⟩ := trodAll_nil r1
  obtain rfl : args = #[v0, v1] := by cases args; simp_all
  obtain ⟨rfl, rfl⟩ := trodVars_none hV
  have k0 := h0
  have lt0 : ∀ x ∈ p0, x.block < W.heap.size := by obtain ⟨m, hm⟩ := k0; exact DataW.trod_lt m _ _ _ hm
  obtain ⟨x, rfl⟩ := okWide_agg (by first | exact .inl ⟨_, Try.underlying23⟩ | exact .inr ⟨_, _, Try.underlying23⟩) (hval 0 23 v0 rfl rfl)
  have rd0 := reads_cells (sh := shS) 30 (by kernel_rfl) k0
  obtain ⟨c, rfl, rfl, rfl, wf1⟩ := open_int Try.underlying3 (hval 1 3 v1 rfl rfl) h1
  have bd1 := bounds_i64 wf1
  clear hA0 hval0
  refine (walk x c W rd0 bd1.1 bd1.2).mono fun e W' ⟨he, bel⟩ => ?_
  subst he
  exact ⟨_, rfl, _, _, _, [], _, [], hW', trodAll_mk1 (shut_bool Try.underlying4 _), (trodAll_cons_mk (Below.trod laidOut (by kernel_rfl) (of_decide_eq_true (by kernel_rfl)) k0 bel lt0) (trodAll_cons_mk (shut_int Try.underlying3 wf1) trodAll_mk0)), rfl, bel.frame _, fun h => by cases h⟩

theorem over : Rows.planPulsesRow.holds Try.pinned (OpenSpec.ofChange Rows.planPulsesSpec) :=
  OpenClaim.holds_of_wide 3 Try.f3 rfl rfl rfl rfl rfl rfl rfl ⟨rfl, rfl, rfl, rfl, rfl⟩ rfl rfl rfl rfl rfl (by kernel_rfl) Try.func3 (by kernel_rfl)
    (of_decide_eq_true (by kernel_rfl)) (by unfold Func.isWrapper; first | (rw [if_pos (by decide +kernel)]; kernel_rfl) | (rw [if_neg (by decide +kernel)]; exact ⟨rfl, rfl⟩))
    (fun os started H enc _ => lifted os started H enc)

/-- The statement. -/
theorem proved : Rows.PlanPulsesSaid := over
end Go.Proofs.Ytbldammbkblooaa.lawPlanPulses
