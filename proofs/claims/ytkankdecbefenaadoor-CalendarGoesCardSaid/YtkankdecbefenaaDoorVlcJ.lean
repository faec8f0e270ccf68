/- The contract of package valid's Window; what is wrong with a window is one thing; the codes as a function. -/
import Derived.Test.YtkankdecbefenaaDoorVlcF
import Derived.Test.YtkankdecbefenaaDoorVlcI
namespace Go.Proofs.YtkankdecbefenaaDoor.Ly7
open Go.ChangeShapes Go.WideShapes Go.ChangeAt Go.RowKit Base
set_option linter.unusedVariables false
set_option linter.unusedSimpArgs false

set_option maxRecDepth 100000 in
set_option maxHeartbeats 1000000 in
theorem window_any (md k b wd ad : Int) (A : Option Addr) (n c : Nat) (fs : List Int) (B : Option Addr) (m d : Nat) (ts : List Int) (w : World) (hf : Lst w A n (fs.map (Value.int .i64))) (ht : Lst w B m (ts.map (Value.int .i64))) (hm : m ≤ 1099511627000) (hnx : n ≤ 9223372036854775807) (hmd : md ≤ 9223372036854775807) :
    Calls Tryd.prog 23 #[.agg #[.int .i64 k, .int .i64 b, .int .i64 wd, .int .i64 ad, .slice A n c, .slice B m d], .int .i64 md] w fun e w' => ∃ r, e = .returned (.int .i64 r) ∧ Win md k b wd ad n fs ts r ∧ Below w.heap.size w w' := by
  have HB1 : Hid (Below w.heap.size w (w.alloc (.cells #[.int .i64 k, .int .i64 b, .int .i64 wd, .int .i64 ad, .slice A n c, .slice B m d] 56))) := Lib.hid (bel1 _ _)
  by_cases h0 : k = 0
  · subst h0
    obtain ⟨gb, HGB⟩ : ∃ gb, Hid (w.heap.size = gb) := ⟨_, Lib.hid rfl⟩
    obtain ⟨W1, HW1⟩ : ∃ W1, W1 = w.alloc (.cells #[.int .i64 0, .int .i64 b, .int .i64 wd, .int .i64 ad, .slice A n c, .slice B m d] 56) := ⟨_, rfl⟩
    rw [← HW1] at HB1
    have HOB : Hid (Obj1 W1 gb 56 #[.int .i64 0, .int .i64 b, .int .i64 wd, .int .i64 ad, .slice A n c, .slice B m d]) := Lib.hid (by rw [HW1, ← HGB.out]; exact Obj1.new _ _ _)
    have HD := Lib.hid (data_any md b wd ad A n c fs B m d ts W1 (hf.kept HB1.out) (ht.kept HB1.out) hm hnx hmd)
    clear hf ht
    go_enter Tryd.func23, Tryd.ntmps23
    go_upto_region 1 with (fail)
    rw [← HW1, HGB.out]
    clear HW1
    have q0 := HOB.out.cell 0
    have q1 := HOB.out.cell 1
    have q2 := HOB.out.cell 2
    have q3 := HOB.out.cell 3
    have q4 := HOB.out.cell 4
    have q5 := HOB.out.cell 5
    simp at q0 q1 q2 q3 q4 q5
    go_wp2_with fail
    refine HD.out.mono ?_
    rintro e w2 ⟨r, rfl, hw, hb⟩
    have HWI := Lib.hid hw
    have HB2 := Lib.hid (HB1.out.trans (hb.mono HB1.out.size))
    clear hw hb
    go_wp2
    go_ret
    exact ⟨r, rfl, HWI.out, HB2.out⟩
  by_cases h1 : k = 1
  · subst h1
    clear hf ht
    by_cases h2 : b < 1
    · go_enter Tryd.func23, Tryd.ntmps23
      go_wp2
      go_ret
      exact ⟨3, rfl, .inr (.inr (.inr (.inr (.inr (.inl ⟨rfl, by omega, rfl⟩))))), HB1.out⟩
    · by_cases h3 : 100 < b
      · go_enter Tryd.func23, Tryd.ntmps23
        go_wp2
        go_ret
        exact ⟨3, rfl, .inr (.inr (.inr (.inr (.inr (.inr (.inl ⟨rfl, by omega, by omega, rfl⟩)))))), HB1.out⟩
      · go_enter Tryd.func23, Tryd.ntmps23
        go_wp2
        go_ret
        exact ⟨0, rfl, .inr (.inr (.inr (.inr (.inr (.inr (.inr (.inl ⟨rfl, by omega, by omega, rfl⟩))))))), HB1.out⟩
  by_cases h2 : k = 2
  · subst h2
    clear hf ht
    go_enter Tryd.func23, Tryd.ntmps23
    go_wp2
    go_ret
    exact ⟨0, rfl, .inr (.inr (.inr (.inr (.inr (.inr (.inr (.inr (.inl ⟨rfl, rfl⟩)))))))), HB1.out⟩
  · have b0 : (k == 0) = false := by simpa using h0
    have b1 : (k == 1) = false := by simpa using h1
    have b2 : (k == 2) = false := by simpa using h2
    have HBB := Lib.hid (show (k == 0) = false ∧ (k == 1) = false ∧ (k == 2) = false from ⟨b0, b1, b2⟩)
    clear hf ht h0 h1 h2
    go_enter Tryd.func23, Tryd.ntmps23
    go_wp2
    go_ret
    exact ⟨2, rfl, .inr (.inr (.inr (.inr (.inr (.inr (.inr (.inr (.inr ⟨HBB.out, rfl⟩)))))))), HB1.out⟩
theorem win_uniq {md k b wd ad : Int} {n : Nat} {fs ts : List Int} {r r' : Int} (h : Win md k b wd ad n fs ts r) (h' : Win md k b wd ad n fs ts r') : r = r' := by
  unfold Win at h h'
  cases e1 : namF fs md <;> cases e2 : twF fs <;> cases e3 : namF ts md <;> cases e4 : anyIn fs ts <;> cases e5 : twF ts <;> simp [e1, e2, e3, e4, e5] at h h' <;> omega
/-- What is wrong with a window. -/
noncomputable def winI (md : Int) (x : Wd) : Int := Classical.choose (win_ex md x.k x.b x.wd x.ad x.n x.fs x.ts)
theorem winI_is (md : Int) (x : Wd) : Win md x.k x.b x.wd x.ad x.n x.fs x.ts (winI md x) := Classical.choose_spec (win_ex md x.k x.b x.wd x.ad x.n x.fs x.ts)
end Go.Proofs.YtkankdecbefenaaDoor.Ly7
