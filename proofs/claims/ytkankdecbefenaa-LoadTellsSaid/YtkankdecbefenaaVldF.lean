/- Why a window may not be (P8.1), and the contract of the document's Window. -/
import Derived.Test.YtkankdecbefenaaVldE
import Derived.Test.YtkankdecbefenaaPlnF
namespace Go.Proofs.Ytkankdecbefenaa.Ly7
open Go.ChangeShapes Go.WideShapes Go.ChangeAt Go.RowKit Base
set_option linter.unusedVariables false
set_option linter.unusedSimpArgs false

def anyIn (a b : List Int) : Bool := a.any (fun f => b.contains f)
theorem anyIn_yes {a b : List Int} {k : Nat} {x : Int} (h : a[k]? = some x) (hc : b.contains x = true) : anyIn a b = true := by
  unfold anyIn
  rw [List.any_eq_true]
  exact ⟨x, List.mem_of_getElem? h, hc⟩
theorem anyIn_no {a b : List Int} (h : ∀ (k : Nat) (x : Int), a[k]? = some x → b.contains x = false) : anyIn a b = false := by
  cases e : anyIn a b with
  | false => rfl
  | true =>
    unfold anyIn at e
    rw [List.any_eq_true] at e
    obtain ⟨x, hx, hc⟩ := e
    obtain ⟨k, hk⟩ := List.getElem?_of_mem hx
    rw [h k x hk] at hc
    cases hc
/-- What is wrong with a window (0: nothing). -/
def Win (md k b wd ad : Int) (n : Nat) (fs ts : List Int) (r : Int) : Prop :=
  (k = 0 ∧ wd < 1 ∧ r = 3) ∨ (k = 0 ∧ ¬ wd < 1 ∧ 8 < wd ∧ r = 3) ∨ (k = 0 ∧ ¬ wd < 1 ∧ ¬ 8 < wd ∧ ad < 0 ∧ r = 3) ∨ (k = 0 ∧ ¬ wd < 1 ∧ ¬ 8 < wd ∧ ¬ ad < 0 ∧ 64 - wd < ad ∧ r = 3) ∨
  (k = 0 ∧ (1 ≤ wd ∧ wd ≤ 8 ∧ 0 ≤ ad ∧ ad ≤ 64 - wd) ∧ ((4 < n ∧ r = 2) ∨ (n ≤ 4 ∧ namF fs md = false ∧ r = 2) ∨ (n ≤ 4 ∧ namF fs md = true ∧ twF fs = true ∧ r = 17) ∨ (n ≤ 4 ∧ namF fs md = true ∧ twF fs = false ∧ namF ts md = false ∧ r = 2) ∨
    (n ≤ 4 ∧ namF fs md = true ∧ twF fs = false ∧ namF ts md = true ∧ ((anyIn fs ts = true ∧ r = 17) ∨ (anyIn fs ts = false ∧ twF ts = true ∧ r = 17) ∨ (anyIn fs ts = false ∧ twF ts = false ∧ r = 0))))) ∨
  (k = 1 ∧ b < 1 ∧ r = 3) ∨ (k = 1 ∧ ¬ b < 1 ∧ 100 < b ∧ r = 3) ∨ (k = 1 ∧ ¬ b < 1 ∧ ¬ 100 < b ∧ r = 0) ∨ (k = 2 ∧ r = 0) ∨ (((k == 0) = false ∧ (k == 1) = false ∧ (k == 2) = false) ∧ r = 2)
theorem win_ex (md k b wd ad : Int) (n : Nat) (fs ts : List Int) : ∃ r, Win md k b wd ad n fs ts r := by
  by_cases h0 : k = 0
  · by_cases h1 : wd < 1
    · exact ⟨3, .inl ⟨h0, h1, rfl⟩⟩
    by_cases h2 : 8 < wd
    · exact ⟨3, .inr (.inl ⟨h0, h1, h2, rfl⟩)⟩
    by_cases h3 : ad < 0
    · exact ⟨3, .inr (.inr (.inl ⟨h0, h1, h2, h3, rfl⟩))⟩
    by_cases h4 : 64 - wd < ad
    · exact ⟨3, .inr (.inr (.inr (.inl ⟨h0, h1, h2, h3, h4, rfl⟩)))⟩
    have hg : (1 ≤ wd ∧ wd ≤ 8 ∧ 0 ≤ ad ∧ ad ≤ 64 - wd) := ⟨by omega, by omega, by omega, by omega⟩
    by_cases h5 : 4 < n
    · exact ⟨2, .inr (.inr (.inr (.inr (.inl ⟨h0, hg, .inl ⟨h5, rfl⟩⟩))))⟩
    have h5' : n ≤ 4 := by omega
    cases h6 : namF fs md with
    | false => exact ⟨2, .inr (.inr (.inr (.inr (.inl ⟨h0, hg, .inr (.inl ⟨h5', h6, rfl⟩)⟩))))⟩
    | true =>
      cases h7 : twF fs with
      | true => exact ⟨17, .inr (.inr (.inr (.inr (.inl ⟨h0, hg, .inr (.inr (.inl ⟨h5', h6, h7, rfl⟩))⟩))))⟩
      | false =>
        cases h8 : namF ts md with
        | false => exact ⟨2, .inr (.inr (.inr (.inr (.inl ⟨h0, hg, .inr (.inr (.inr (.inl ⟨h5', h6, h7, h8, rfl⟩)))⟩))))⟩
        | true =>
          cases h9 : anyIn fs ts with
          | true => exact ⟨17, .inr (.inr (.inr (.inr (.inl ⟨h0, hg, .inr (.inr (.inr (.inr ⟨h5', h6, h7, h8, .inl ⟨h9, rfl⟩⟩)))⟩))))⟩
          | false =>
            cases h10 : twF ts with
            | true => exact ⟨17, .inr (.inr (.inr (.inr (.inl ⟨h0, hg, .inr (.inr (.inr (.inr ⟨h5', h6, h7, h8, .inr (.inl ⟨h9, h10, rfl⟩)⟩)))⟩))))⟩
            | false => exact ⟨0, .inr (.inr (.inr (.inr (.inl ⟨h0, hg, .inr (.inr (.inr (.inr ⟨h5', h6, h7, h8, .inr (.inr ⟨h9, h10, rfl⟩)⟩)))⟩))))⟩
  by_cases h1 : k = 1
  · by_cases h2 : b < 1
    · exact ⟨3, .inr (.inr (.inr (.inr (.inr (.inl ⟨h1, h2, rfl⟩)))))⟩
    by_cases h3 : 100 < b
    · exact ⟨3, .inr (.inr (.inr (.inr (.inr (.inr (.inl ⟨h1, h2, h3, rfl⟩))))))⟩
    · exact ⟨0, .inr (.inr (.inr (.inr (.inr (.inr (.inr (.inl ⟨h1, h2, h3, rfl⟩)))))))⟩
  by_cases h2 : k = 2
  · exact ⟨0, .inr (.inr (.inr (.inr (.inr (.inr (.inr (.inr (.inl ⟨h2, rfl⟩))))))))⟩
  · exact ⟨2, .inr (.inr (.inr (.inr (.inr (.inr (.inr (.inr (.inr ⟨⟨by simpa using h0, by simpa using h1, by simpa using h2⟩, rfl⟩))))))))⟩
abbrev TWn : TypeId := 43
set_option maxRecDepth 100000 in
set_option maxHeartbeats 2000000 in
theorem rwin_any (md k b wd ad : Int) (A : Option Addr) (n c : Nat) (fs : List Int) (B : Option Addr) (m d : Nat) (ts : List Int) (r : Int) (w : World) (hf : Lst w A n (fs.map (Value.int .i64))) (ht : Lst w B m (ts.map (Value.int .i64))) (hnc : n ≤ c) (hmd : m ≤ d) (hcm : c ≤ 9223372036854775807) (hdm : d ≤ 9223372036854775807) (h : Win md k b wd ad n fs ts r) :
    Calls Try.prog 19 #[.agg #[.int .i64 k, .int .i64 b, .int .i64 wd, .int .i64 ad, .slice A n c, .slice B m d], .int .i64 md] w fun e w' => e = .returned (.int .i64 r) ∧ Below w.heap.size w w' := by
  obtain ⟨gb, HGB⟩ : ∃ gb, Hid (w.heap.size = gb) := ⟨_, Lib.hid rfl⟩
  obtain ⟨W1, HW1⟩ : ∃ W1, W1 = w.alloc (.cells #[.int .i64 k, .int .i64 b, .int .i64 wd, .int .i64 ad, .slice A n c, .slice B m d] TWn) := ⟨_, rfl⟩
  have HB1 : Hid (Below w.heap.size w W1) := Lib.hid (by rw [HW1]; exact bel1 _ _)
  have HOB : Hid (Obj1 W1 gb TWn #[.int .i64 k, .int .i64 b, .int .i64 wd, .int .i64 ad, .slice A n c, .slice B m d]) := Lib.hid (by rw [HW1, ← HGB.out]; exact Obj1.new _ _ _)
  have HF : Hid (∀ W, Below W1.heap.size W1 W → Lst W A n (fs.map (Value.int .i64))) := Lib.hid (fun W hW => (hf.kept HB1.out).kept hW)
  have HT : Hid (∀ W, Below W1.heap.size W1 W → Lst W B m (ts.map (Value.int .i64))) := Lib.hid (fun W hW => (ht.kept HB1.out).kept hW)
  have HFL : Hid (fs.length = n) := Lib.hid (by have := hf.1; simpa using this)
  have hn9 : n ≤ 9223372036854775807 := by omega
  have hm9 : m ≤ 9223372036854775807 := by omega
  clear hf ht
  go_enter Try.func19, Try.ntmps19
  go_upto_region 1 with (fail)
  rw [← HW1, HGB.out]
  clear HW1
  have q0 := HOB.out.cell 0
  have q1 := HOB.out.cell 1
  have q2 := HOB.out.cell 2
  have q3 := HOB.out.cell 3
  have q4 := HOB.out.cell 4
  have q5 := HOB.out.cell 5
  simp at q0 q1 q2 q3 q4 q5
  rcases h with ⟨rfl, h1, rfl⟩ | ⟨rfl, h1, h2, rfl⟩ | ⟨rfl, h1, h2, h3, rfl⟩ | ⟨rfl, h1, h2, h3, h4, rfl⟩ | ⟨rfl, hg, h⟩ | ⟨rfl, h1, rfl⟩ | ⟨rfl, h1, h2, rfl⟩ | ⟨rfl, h1, h2, rfl⟩ | ⟨rfl, rfl⟩ | ⟨⟨h0, h1, h2⟩, rfl⟩
  · go_wp2
    go_ret
    exact ⟨rfl, HB1.out⟩
  · go_wp2
    go_ret
    exact ⟨rfl, HB1.out⟩
  · go_wp2
    go_ret
    exact ⟨rfl, HB1.out⟩
  · have e1 : IntKind.i64.wrap (64 - wd) = 64 - wd := IntWalk.i64_in _ (by omega)
    go_wp2
    go_ret
    exact ⟨rfl, HB1.out⟩
  · have h1 : ¬ wd < 1 := by omega
    have h2 : ¬ 8 < wd := by omega
    have h3 : ¬ ad < 0 := by omega
    have h4 : ¬ 64 - wd < ad := by omega
    have e1 : IntKind.i64.wrap (64 - wd) = 64 - wd := IntWalk.i64_in _ (by omega)
    go_upto_region 5 with (fail)
    clear q0 q1 q2 q3 h1 h2 h3 h4 e1 hg
    rcases h with ⟨h5, rfl⟩ | h
    · have h5i : (4 : Int) < (n : Int) := by omega
      go_wp2
      go_ret
      exact ⟨rfl, HB1.out⟩
    · have h5i : ¬ (4 : Int) < (n : Int) := by omega
      obtain ⟨nf, HNF⟩ : ∃ q, Hid (namF fs md = q) := ⟨_, Lib.hid rfl⟩
      have HN1 : Hid (∀ W, Below W1.heap.size W1 W → Calls Try.prog 35 #[.slice A n c, .int .i64 md] W fun e w' => e = .returned (.bool nf) ∧ W = w') := Lib.hid (fun W hW => by
        have := named_any A n c fs md W (HF.out W hW) hn9
        rwa [HNF.out] at this)
      have HH := Lib.hid h
      clear h
      rw [HNF.out] at HH
      go_wp2_with fail
      refine (HN1.out _ (Below.refl _ _)).mono ?_
      rintro e w' ⟨rfl, rfl⟩
      rcases HH.out with ⟨h5, rfl, rfl⟩ | h
      · go_wp2
        go_ret
        exact ⟨rfl, HB1.out⟩
      · obtain rfl : nf = true := by rcases h with ⟨_, h, _⟩ | ⟨_, h, _⟩ | ⟨_, h, _⟩ <;> exact h
        obtain ⟨tf, HTF⟩ : ∃ q, Hid (twF fs = q) := ⟨_, Lib.hid rfl⟩
        have HT1 : Hid (∀ W, Below W1.heap.size W1 W → Calls Try.prog 36 #[.slice A n c] W fun e w' => e = .returned (.bool tf) ∧ Below W.heap.size W w') := Lib.hid (fun W hW => by
          have := twice_any A n c fs W (HF.out W hW) hnc hcm
          rwa [HTF.out] at this)
        rw [HTF.out] at h
        have HH2 := Lib.hid h
        clear h HH
        go_upto_region 7 with (fail)
        go_wp2_with fail
        refine (HT1.out _ (Below.refl _ _)).mono ?_
        rintro e w2 ⟨rfl, hb2⟩
        have HB2 := Lib.hid hb2
        have HBW := Lib.hid (HB1.out.trans (hb2.mono HB1.out.size))
        clear q4 q5 hb2
        have q4 := (HOB.out.kept HB2.out).cell 4
        have q5 := (HOB.out.kept HB2.out).cell 5
        simp at q4 q5
        rcases HH2.out with ⟨h5, _, rfl, rfl⟩ | h
        · go_wp2
          go_ret
          exact ⟨rfl, HBW.out⟩
        · obtain rfl : tf = false := by rcases h with ⟨_, _, h, _⟩ | ⟨_, _, h, _⟩ <;> exact h
          obtain ⟨nt, HNT⟩ : ∃ q, Hid (namF ts md = q) := ⟨_, Lib.hid rfl⟩
          have HN2 : Hid (∀ W, Below W1.heap.size W1 W → Calls Try.prog 35 #[.slice B m d, .int .i64 md] W fun e w' => e = .returned (.bool nt) ∧ W = w') := Lib.hid (fun W hW => by
            have := named_any B m d ts md W (HT.out W hW) hm9
            rwa [HNT.out] at this)
          rw [HNT.out] at h
          have HH3 := Lib.hid h
          clear h HH2
          go_wp2_with fail
          refine (HN2.out _ HB2.out).mono ?_
          rintro e w' ⟨rfl, rfl⟩
          rcases HH3.out with ⟨h5, _, _, rfl, rfl⟩ | ⟨h5, _, _, rfl, h⟩
          · go_wp2
            go_ret
            exact ⟨rfl, HBW.out⟩
          · have HH4 := Lib.hid h
            clear h
            obtain ⟨tt, HTT⟩ : ∃ q, Hid (twF ts = q) := ⟨_, Lib.hid rfl⟩
            rw [HTT.out] at HH4
            have HT2 : Hid (∀ W, Below W1.heap.size W1 W → Calls Try.prog 36 #[.slice B m d] W fun e w' => e = .returned (.bool tt) ∧ Below W.heap.size W w') := Lib.hid (fun W hW => by
              have := twice_any B m d ts W (HT.out W hW) hmd hdm
              rwa [HTT.out] at this)
            go_wp2_with fail
            clear q4 q5
            go_loopw [5] (fun i wx => ∃ j : Nat, j ≤ n ∧ i = .int .i64 j ∧ Hid (∀ t, t < j → ∀ x, fs[t]? = some x → ts.contains x = false) ∧ Below W1.heap.size W1 wx) (fun i _ => n - (intOf i).toNat)
            case atStart => exact ⟨0, by omega, rfl, Lib.hid (fun j hj => by omega), HB2.out⟩
            case round =>
              obtain ⟨j, hj, rfl, HNO, hbj⟩ := hrel
              have HBJ := Lib.hid hbj
              have q4 := (HOB.out.kept hbj).cell 4
              have q5 := (HOB.out.kept hbj).cell 5
              simp at q4 q5
              by_cases hlt : j < n
              · have hji : (j : Int) < (n : Int) := by omega
                have hjl : j < fs.length := by rw [HFL.out]; exact hlt
                obtain ⟨b9, off, rfl, hb, hd⟩ := (HF.out wr hbj).get hlt
                rw [List.getElem_map] at hd
                obtain ⟨x, hx⟩ : ∃ x, fs[j]'hjl = x := ⟨_, rfl⟩
                rw [hx] at hd
                have HX : Hid (fs[j]? = some x) := Lib.hid (by rw [List.getElem?_eq_getElem hjl, hx])
                have HBZ : Hid (∀ z : Kin wr.drew, Below W1.heap.size W1 z.world) := Lib.hid (fun z => HBJ.out.trans (((bel_drew wr).trans z.below).mono HBJ.out.size))
                obtain ⟨q, HQ⟩ : ∃ q, Hid (ts.contains x = q) := ⟨_, Lib.hid rfl⟩
                have HHS : Hid (∀ z : Kin wr.drew, Calls Try.prog 37 #[.slice B m d, .int .i64 x] z.world fun e w' => e = .returned (.bool q) ∧ Below z.world.heap.size z.world w') := Lib.hid (fun z => (has_any B m d ts x z.world (HT.out _ (HBZ.out z)) hm9).mono (fun e w' ⟨he, hw⟩ => ⟨by rw [he, HQ.out], by rw [← hw]; exact Below.refl _ _⟩))
                have K0 : ∀ z : Kin wr.drew, z.world.cell? ⟨b9, off + j, none⟩ = some (.int .i64 x) := fun z => Kin.at (w := wr.drew) hd z
                have K4 : ∀ z : Kin wr.drew, z.world.cell? ⟨gb, 4, none⟩ = some (.slice (some ⟨b9, off, none⟩) n c) := fun z => Kin.at (w := wr.drew) q4 z
                have K5 : ∀ z : Kin wr.drew, z.world.cell? ⟨gb, 5, none⟩ = some (.slice B m d) := fun z => Kin.at (w := wr.drew) q5 z
                clear hx hjl hd hb hbj
                go_upto_region 14 with (fail)
                clear q4 q5
                refine wp_region_specL 8 [.d (.pointer (some ⟨gb, 5, none⟩)), .d (.slice B m d), .d (.pointer (some ⟨gb, 4, none⟩)), .d (.slice (some ⟨b9, off, none⟩) n c), .d (.int .i64 j), .d (.pointer (some ⟨b9, off + j, none⟩)), .d (.int .i64 x), .d (.bool q)] (by kernel_rfl) (by kernel_rfl) ?_
                refine spec_d rfl (fun x _ => gives_run (by go_simp)) ?_
                try simp only [Act.put, List.getElem_toArray, List.getElem_cons_succ, List.getElem_cons_zero, List.setIfInBounds_toArray, List.set_cons_zero, List.set_cons_succ]
                refine spec_d rfl (fun x _ => gives_run (by go_simp)) ?_
                try simp only [Act.put, List.getElem_toArray, List.getElem_cons_succ, List.getElem_cons_zero, List.setIfInBounds_toArray, List.set_cons_zero, List.set_cons_succ]
                refine spec_d rfl (fun x _ => gives_run (by go_simp)) ?_
                try simp only [Act.put, List.getElem_toArray, List.getElem_cons_succ, List.getElem_cons_zero, List.setIfInBounds_toArray, List.set_cons_zero, List.set_cons_succ]
                refine spec_d rfl (fun x _ => gives_run (by go_simp)) ?_
                try simp only [Act.put, List.getElem_toArray, List.getElem_cons_succ, List.getElem_cons_zero, List.setIfInBounds_toArray, List.set_cons_zero, List.set_cons_succ]
                refine spec_d rfl (fun x _ => gives_run (by go_simp)) ?_
                try simp only [Act.put, List.getElem_toArray, List.getElem_cons_succ, List.getElem_cons_zero, List.setIfInBounds_toArray, List.set_cons_zero, List.set_cons_succ]
                refine spec_d rfl (fun x _ => gives_run (by go_simp)) ?_
                try simp only [Act.put, List.getElem_toArray, List.getElem_cons_succ, List.getElem_cons_zero, List.setIfInBounds_toArray, List.set_cons_zero, List.set_cons_succ]
                refine spec_d rfl (fun x _ => gives_run (by go_simp)) ?_
                try simp only [Act.put, List.getElem_toArray, List.getElem_cons_succ, List.getElem_cons_zero, List.setIfInBounds_toArray, List.set_cons_zero, List.set_cons_succ]
                refine spec_d rfl (fun z _ => gives_det (by go_simp) (HHS.out z)) ?_
                try simp only [Act.put, List.getElem_toArray, List.getElem_cons_succ, List.getElem_cons_zero, List.setIfInBounds_toArray, List.set_cons_zero, List.set_cons_succ]
                refine spec_end (fun z hz => ?_)
                clear hz
                refine wpAny_done (by kernel_rfl) ?_ _
                have HB9 := Lib.hid (HBZ.out z)
                clear K0 K4 K5 HBZ HHS
                generalize z.world = wz at HB9 ⊢
                clear z
                cases q with
                | true =>
                  have HR := Lib.hid (anyIn_yes HX.out HQ.out)
                  obtain rfl : r = 17 := by
                    have h := HH4.out
                    rw [HR.out] at h
                    rcases h with ⟨_, h⟩ | ⟨h, _⟩ | ⟨h, _⟩
                    · exact h
                    · cases h
                    · cases h
                  go_wp2
                  go_ret
                  exact ⟨rfl, HB1.out.trans (HB9.out.mono HB1.out.size)⟩
                | false =>
                  go_wp2
                  go_roundw
                  case rel => exact ⟨j + 1, by omega, by go_num, Lib.hid (fun t ht x' hx' => by
                    rcases (show t < j ∨ t = j by omega) with h | rfl
                    · exact HNO.out t h x' hx'
                    · rw [HX.out] at hx'
                      cases hx'
                      exact HQ.out), HB9.out⟩
                  case measure => simp [intOf]; omega
              · have hje : n = j := by omega
                subst hje
                have HR : Hid (anyIn fs ts = false) := Lib.hid (anyIn_no (fun t x hx => HNO.out t (by rw [← HFL.out]; exact (List.getElem?_eq_some_iff.1 hx).1) x hx))
                have HRR : Hid ((tt = true ∧ r = 17) ∨ (tt = false ∧ r = 0)) := Lib.hid (by
                  have h := HH4.out
                  rw [HR.out] at h
                  rcases h with ⟨h, _⟩ | ⟨_, h⟩ | ⟨_, h⟩
                  · cases h
                  · exact .inl h
                  · exact .inr h)
                clear hbj
                go_wp2_with fail
                refine (HT2.out _ HBJ.out).mono ?_
                rintro e w5 ⟨rfl, hb5⟩
                have HB5 := Lib.hid (HB1.out.trans ((HBJ.out.trans (hb5.mono HBJ.out.size)).mono HB1.out.size))
                clear q4 q5 hb5
                rcases HRR.out with ⟨rfl, rfl⟩ | ⟨rfl, rfl⟩
                · go_wp2
                  go_ret
                  exact ⟨rfl, HB5.out⟩
                · go_wp2
                  go_ret
                  exact ⟨rfl, HB5.out⟩
  · go_wp2
    go_ret
    exact ⟨rfl, HB1.out⟩
  · go_wp2
    go_ret
    exact ⟨rfl, HB1.out⟩
  · go_wp2
    go_ret
    exact ⟨rfl, HB1.out⟩
  · go_wp2
    go_ret
    exact ⟨rfl, HB1.out⟩
  · go_wp2
    go_ret
    exact ⟨rfl, HB1.out⟩
end Go.Proofs.Ytkankdecbefenaa.Ly7
