/- The contracts of package valid's data and Window: what is wrong with a window (Win). -/
import Derived.Test.YtkankdecbefenaaDoorVlcF
import Derived.Test.YtkankdecbefenaaDoorVlcH
namespace Go.Proofs.YtkankdecbefenaaDoor.Ly7
open Go.ChangeShapes Go.WideShapes Go.ChangeAt Go.RowKit Base
set_option linter.unusedVariables false
set_option linter.unusedSimpArgs false

theorem nm_from {fs : List Int} {md r : Int} (h : Nm [] fs md r) : (namF fs md = false ∧ r = 2) ∨ (namF fs md = true ∧ twF fs = true ∧ r = 17) ∨ (namF fs md = true ∧ twF fs = false ∧ r = 0) := by
  rcases h with h | ⟨h1, ⟨k, x, hx, hc⟩, h2⟩ | ⟨h1, h, h2⟩
  · exact .inl h
  · exact .inr (.inl ⟨h1, twF_yes hx (by simpa using hc), h2⟩)
  · exact .inr (.inr ⟨h1, twF_no (fun k x hx => by simpa using h k x hx), h2⟩)
theorem nm_to {fs ts : List Int} {md r : Int} (h : Nm fs ts md r) : (namF ts md = false ∧ r = 2) ∨ (namF ts md = true ∧ ((anyIn fs ts = true ∧ r = 17) ∨ (anyIn fs ts = false ∧ twF ts = true ∧ r = 17) ∨ (anyIn fs ts = false ∧ twF ts = false ∧ r = 0))) := by
  rcases h with h | ⟨h1, ⟨k, x, hx, hc⟩, h2⟩ | ⟨h1, h, h2⟩
  · exact .inl h
  · cases ha : anyIn fs ts with
    | true => exact .inr ⟨h1, .inl ⟨rfl, h2⟩⟩
    | false =>
      refine .inr ⟨h1, .inr (.inl ⟨rfl, twF_yes hx ?_, h2⟩)⟩
      rw [List.contains_iff_mem, List.mem_append] at hc
      rcases hc with hc | hc
      · obtain ⟨j, hj⟩ := List.getElem?_of_mem hc
        rw [anyIn_yes hj (has_yes hx)] at ha
        cases ha
      · rw [List.contains_iff_mem]; exact hc
  · refine .inr ⟨h1, .inr (.inr ⟨anyIn_no (fun j x hj => ?_), twF_no (fun k x hx => ?_), h2⟩)⟩
    · cases hc : ts.contains x with
      | false => rfl
      | true =>
        rw [List.contains_iff_mem] at hc
        obtain ⟨k, hk⟩ := List.getElem?_of_mem hc
        have h' := h k x hk
        have : (fs ++ ts.take k).contains x = true := by
          rw [List.contains_iff_mem, List.mem_append]
          exact .inl (List.mem_of_getElem? hj)
        rw [this] at h'
        cases h'
    · cases hc : (ts.take k).contains x with
      | false => rfl
      | true =>
        have h' := h k x hx
        have : (fs ++ ts.take k).contains x = true := by
          rw [List.contains_iff_mem, List.mem_append]
          rw [List.contains_iff_mem] at hc
          exact .inr hc
        rw [this] at h'
        cases h'
set_option maxRecDepth 100000 in
set_option maxHeartbeats 2000000 in
theorem data_any (md b wd ad : Int) (A : Option Addr) (n c : Nat) (fs : List Int) (B : Option Addr) (m d : Nat) (ts : List Int) (w : World) (hf : Lst w A n (fs.map (Value.int .i64))) (ht : Lst w B m (ts.map (Value.int .i64))) (hm : m ≤ 1099511627000) (hnx : n ≤ 9223372036854775807) (hmd : md ≤ 9223372036854775807) :
    Calls Tryd.prog 38 #[.agg #[.int .i64 0, .int .i64 b, .int .i64 wd, .int .i64 ad, .slice A n c, .slice B m d], .int .i64 md] w fun e w' => ∃ r, e = .returned (.int .i64 r) ∧ Win md 0 b wd ad n fs ts r ∧ Below w.heap.size w w' := by
  obtain ⟨gb, HGB⟩ : ∃ gb, Hid (w.heap.size = gb) := ⟨_, Lib.hid rfl⟩
  obtain ⟨W1, HW1⟩ : ∃ W1, W1 = w.alloc (.cells #[.int .i64 0, .int .i64 b, .int .i64 wd, .int .i64 ad, .slice A n c, .slice B m d] 56) := ⟨_, rfl⟩
  have HB1 : Hid (Below w.heap.size w W1) := Lib.hid (by rw [HW1]; exact bel1 _ _)
  have HOB : Hid (Obj1 W1 gb 56 #[.int .i64 0, .int .i64 b, .int .i64 wd, .int .i64 ad, .slice A n c, .slice B m d]) := Lib.hid (by rw [HW1, ← HGB.out]; exact Obj1.new _ _ _)
  have HF : Hid (Lst W1 A n (fs.map (Value.int .i64))) := Lib.hid (hf.kept HB1.out)
  have HT : Hid (Lst W1 B m (ts.map (Value.int .i64))) := Lib.hid (ht.kept HB1.out)
  clear hf ht
  have hmm := @run_makeMap Tryd.prog
  go_enter Tryd.func38, Tryd.ntmps38
  go_upto_region 1 with (fail)
  rw [← HW1, HGB.out]
  clear HW1
  have q2 := HOB.out.cell 2
  have q3 := HOB.out.cell 3
  have q4 := HOB.out.cell 4
  have q5 := HOB.out.cell 5
  simp at q2 q3 q4 q5
  by_cases h1 : wd < 1
  · go_wp2
    go_ret
    exact ⟨3, rfl, .inl ⟨rfl, by omega, rfl⟩, HB1.out⟩
  by_cases h2 : 8 < wd
  · go_wp2
    go_ret
    exact ⟨3, rfl, .inr (.inl ⟨rfl, by omega, by omega, rfl⟩), HB1.out⟩
  by_cases h3 : ad < 0
  · go_wp2
    go_ret
    exact ⟨3, rfl, .inr (.inr (.inl ⟨rfl, by omega, by omega, by omega, rfl⟩)), HB1.out⟩
  have e1 : IntKind.i64.wrap (64 - wd) = 64 - wd := IntWalk.i64_in _ (by omega)
  by_cases h4 : 64 - wd < ad
  · go_wp2
    go_ret
    exact ⟨3, rfl, .inr (.inr (.inr (.inl ⟨rfl, by omega, by omega, by omega, by omega, rfl⟩))), HB1.out⟩
  have HG : Hid (1 ≤ wd ∧ wd ≤ 8 ∧ 0 ≤ ad ∧ ad ≤ 64 - wd) := Lib.hid ⟨by omega, by omega, by omega, by omega⟩
  go_upto_region 3 with (fail)
  clear q2 q3 h1 h2 h3 h4 e1
  by_cases h5 : 4 < n
  · have h5i : (4 : Int) < (n : Int) := by omega
    go_wp2
    go_ret
    exact ⟨2, rfl, .inr (.inr (.inr (.inr (.inl ⟨rfl, HG.out, .inl ⟨h5, rfl⟩⟩)))), HB1.out⟩
  have h5i : ¬ (4 : Int) < (n : Int) := by omega
  have HN4 : Hid (n ≤ 4) := Lib.hid (by omega)
  go_upto_region 6 with (fail)
  obtain ⟨g, HGM⟩ : ∃ g, Hid (W1.heap.size = g) := ⟨_, Lib.hid rfl⟩
  obtain ⟨W2, HW2⟩ : ∃ W2, W2 = W1.alloc (.map #[] 0) := ⟨_, rfl⟩
  have HB12 : Hid (Below W1.heap.size W1 W2) := Lib.hid (by rw [HW2]; exact bel1 _ _)
  have HM2 : Hid (MapAt W2 g 0 []) := Lib.hid (by rw [HW2, ← HGM.out]; exact MapAt.made _)
  rw [← HW2, HGM.out]
  clear HW2 h5 h5i hmm
  have HB2 := Lib.hid (HB1.out.trans (HB12.out.mono HB1.out.size))
  have HOB2 := Lib.hid (HOB.out.kept HB12.out)
  have HGG := Lib.hid (show gb < g ∧ w.heap.size ≤ g by have := HOB.out.lt; have := HGM.out; have := HGB.out; omega)
  have HNA : Hid (∀ b off, A = some ⟨b, off, none⟩ → 0 < n → b ≠ g) := Lib.hid (fun b off e h => by
    obtain ⟨b', off', e', hlt, _⟩ := HF.out.2 h
    rw [e] at e'
    injection e' with e'
    injection e' with e1 _ _
    have := HGM.out
    omega)
  have HNB : Hid (∀ b off, B = some ⟨b, off, none⟩ → 0 < m → b ≠ g) := Lib.hid (fun b off e h => by
    obtain ⟨b', off', e', hlt, _⟩ := HT.out.2 h
    rw [e] at e'
    injection e' with e'
    injection e' with e1 _ _
    have := HGM.out
    omega)
  have HC1 := Lib.hid (name_any g 0 [] A n c fs md W2 HM2.out (HF.out.kept HB12.out) HNA.out hnx (by have := HN4.out; omega) hmd)
  clear q4 q5
  have q4 := HOB2.out.cell 4
  simp at q4
  go_wp2_with fail
  refine HC1.out.mono ?_
  rintro e w3 ⟨r1, rfl, hn1, hm1, hw1⟩
  have HW13 := Lib.hid hw1
  have HB3 := Lib.hid (HB2.out.trans (hw1.below HGG.out.2 HB2.out.size))
  have HM3 := Lib.hid hm1
  clear hw1 hm1 q4 HC1
  rcases nm_from hn1 with ⟨h6, rfl⟩ | ⟨h6, h7, rfl⟩ | ⟨h6, h7, rfl⟩
  · go_wp2
    go_ret
    exact ⟨2, rfl, .inr (.inr (.inr (.inr (.inl ⟨rfl, HG.out, .inr (.inl ⟨HN4.out, h6, rfl⟩)⟩)))), HB3.out⟩
  · go_wp2
    go_ret
    exact ⟨17, rfl, .inr (.inr (.inr (.inr (.inl ⟨rfl, HG.out, .inr (.inr (.inl ⟨HN4.out, h6, h7, rfl⟩))⟩)))), HB3.out⟩
  · have H6 := Lib.hid h6
    have H7 := Lib.hid h7
    have HOB3 := Lib.hid (HOB2.out.touch HW13.out (by have := HGG.out; omega))
    have HC2 := Lib.hid (name_any g (0 + n) ([] ++ fs) B m d ts md w3 (HM3.out rfl) ((HT.out.kept HB12.out).touch2 HW13.out HNB.out) HNB.out (by omega) (by have := HN4.out; omega) hmd)
    clear h6 h7 hn1
    have q5 := HOB3.out.cell 5
    simp at q5
    go_wp2_with fail
    refine HC2.out.mono ?_
    rintro e w4 ⟨r2, rfl, hn2, _, hw2⟩
    have HB4 := Lib.hid (HB3.out.trans (hw2.below HGG.out.2 HB3.out.size))
    have HN2 := Lib.hid (nm_to (by simpa using hn2))
    clear q5 hn2 hw2
    go_wp2
    go_ret
    refine ⟨r2, rfl, .inr (.inr (.inr (.inr (.inl ⟨rfl, HG.out, ?_⟩)))), HB4.out⟩
    rcases HN2.out with ⟨h8, h9⟩ | ⟨h8, h9⟩
    · exact .inr (.inr (.inr (.inl ⟨HN4.out, H6.out, H7.out, h8, h9⟩)))
    · exact .inr (.inr (.inr (.inr ⟨HN4.out, H6.out, H7.out, h8, h9⟩)))
end Go.Proofs.YtkankdecbefenaaDoor.Ly7
