/- The document's has, named and twice of layer 8: over lists. -/
import Derived.Test.YtkankdecbefenaaPlnE
namespace Go.Proofs.Ytkankdecbefenaa.Ly7
open Go.ChangeShapes Go.WideShapes Go.ChangeAt Go.RowKit Base
set_option linter.unusedVariables false
set_option linter.unusedSimpArgs false

theorem has_yes {xs : List Int} {y : Int} {k : Nat} (h : xs[k]? = some y) : xs.contains y = true := by
  rw [List.contains_iff_mem]
  exact List.mem_of_getElem? h
theorem has_none {xs : List Int} {y : Int} (h : ∀ (j : Nat) (x : Int), xs[j]? = some x → x ≠ y) : xs.contains y = false := by
  cases e : xs.contains y with
  | false => rfl
  | true =>
    rw [List.contains_iff_mem] at e
    obtain ⟨j, hj⟩ := List.getElem?_of_mem e
    exact absurd rfl (h j y hj)
/-- Each one is a module, and there is one. -/
def namF (xs : List Int) (md : Int) : Bool := !xs.isEmpty && xs.all (fun m => decide (0 ≤ m) && decide (m < md))
theorem namF_no {xs : List Int} {md x : Int} {k : Nat} (h : xs[k]? = some x) (hx : x < 0 ∨ md ≤ x) : namF xs md = false := by
  cases e : namF xs md with
  | false => rfl
  | true =>
    unfold namF at e
    rw [Bool.and_eq_true, List.all_eq_true] at e
    have := e.2 x (List.mem_of_getElem? h)
    simp at this
    omega
theorem namF_yes {xs : List Int} {md : Int} (h0 : 0 < xs.length) (h : ∀ (j : Nat) (x : Int), xs[j]? = some x → 0 ≤ x ∧ x < md) : namF xs md = true := by
  unfold namF
  rw [Bool.and_eq_true, List.all_eq_true]
  refine ⟨?_, fun x hx => ?_⟩
  · cases xs with
    | nil => simp at h0
    | cons a r => rfl
  · obtain ⟨j, hj⟩ := List.getElem?_of_mem hx
    have := h j x hj
    simp
    omega
/-- One is there twice. -/
def twF (xs : List Int) : Bool := (List.range xs.length).any (fun i => (xs.take i).contains (xs.getD i 0))
theorem twF_yes {xs : List Int} {k : Nat} {x : Int} (h : xs[k]? = some x) (hc : (xs.take k).contains x = true) : twF xs = true := by
  unfold twF
  rw [List.any_eq_true]
  refine ⟨k, by have := (List.getElem?_eq_some_iff.1 h).1; simpa using this, ?_⟩
  rw [List.getD_eq_getElem?_getD, h]
  exact hc
theorem twF_no {xs : List Int} (h : ∀ (k : Nat) (x : Int), xs[k]? = some x → (xs.take k).contains x = false) : twF xs = false := by
  cases e : twF xs with
  | false => rfl
  | true =>
    unfold twF at e
    rw [List.any_eq_true] at e
    obtain ⟨k, hk, hc⟩ := e
    have hk' : k < xs.length := by simpa using hk
    have := h k xs[k] (List.getElem?_eq_getElem hk')
    rw [List.getD_eq_getElem?_getD, List.getElem?_eq_getElem hk'] at hc
    simp only [Option.getD_some] at hc
    rw [this] at hc
    cases hc
theorem has_any (A : Option Addr) (n c : Nat) (xs : List Int) (y : Int) (w : World) (h : Lst w A n (xs.map (Value.int .i64))) (hn : n ≤ 9223372036854775807) :
    Calls Try.prog 37 #[.slice A n c, .int .i64 y] w fun e w' => e = .returned (.bool (xs.contains y)) ∧ w = w' := by
  have hl : xs.length = n := by have := h.1; simpa using this
  have HL := Lib.hid hl
  obtain ⟨qq, HQQ⟩ : ∃ qq, Hid (xs.contains y = qq) := ⟨_, Lib.hid rfl⟩
  rw [HQQ.out]
  clear hl
  go_enter Try.func37, Try.ntmps37
  go_wp2
  go_loop [5] (fun i => ∃ k : Nat, k ≤ n ∧ i = .int .i64 k ∧ Hid (∀ j, j < k → ∀ x, xs[j]? = some x → x ≠ y)) (fun i => n - (intOf i).toNat)
  case atStart => exact ⟨0, by omega, rfl, Lib.hid (fun j hj => by omega)⟩
  case round =>
    obtain ⟨k, hk, rfl, HN⟩ := hrel
    by_cases hlt : k < n
    · have hki : (k : Int) < (n : Int) := by omega
      have hkl : k < xs.length := by rw [HL.out]; exact hlt
      obtain ⟨b, off, rfl, _, hc⟩ := h.get hlt
      rw [List.getElem_map] at hc
      obtain ⟨x, hx⟩ : ∃ x, xs[k]'hkl = x := ⟨_, rfl⟩
      rw [hx] at hc
      have HX : Hid (xs[k]? = some x) := Lib.hid (by rw [List.getElem?_eq_getElem hkl, hx])
      clear hx
      by_cases hxy : x = y
      · subst hxy
        have HR := Lib.hid (has_yes HX.out)
        go_wp2
        go_ret
        exact ⟨by rw [HQQ.out.symm.trans HR.out]; first | rfl | (simp; done) | (simp; omega), rfl⟩
      · have he : (x == y) = false := by simpa using hxy
        have HNE := Lib.hid hxy
        clear hxy
        go_wp2
        go_round
        case rel => exact ⟨k + 1, by omega, by go_num, Lib.hid (fun j hj x' hx' => by
          rcases (show j < k ∨ j = k by omega) with h | rfl
          · exact HN.out j h x' hx'
          · rw [HX.out] at hx'
            cases hx'
            exact HNE.out)⟩
        case measure => simp [intOf]; omega
    · obtain rfl : k = n := by omega
      have HR : Hid (xs.contains y = false) := Lib.hid (has_none (fun j x hx => HN.out j (by rw [← HL.out]; exact (List.getElem?_eq_some_iff.1 hx).1) x hx))
      go_wp2
      go_ret
      exact ⟨by rw [HQQ.out.symm.trans HR.out]; first | rfl | (simp; done) | (simp; omega), rfl⟩
theorem named_any (A : Option Addr) (n c : Nat) (xs : List Int) (md : Int) (w : World) (h : Lst w A n (xs.map (Value.int .i64))) (hn : n ≤ 9223372036854775807) :
    Calls Try.prog 35 #[.slice A n c, .int .i64 md] w fun e w' => e = .returned (.bool (namF xs md)) ∧ w = w' := by
  have hl : xs.length = n := by have := h.1; simpa using this
  have HL := Lib.hid hl
  obtain ⟨qq, HQQ⟩ : ∃ qq, Hid (namF xs md = qq) := ⟨_, Lib.hid rfl⟩
  rw [HQQ.out]
  clear hl
  go_enter Try.func35, Try.ntmps35
  go_wp2
  go_loop [5] (fun i => ∃ k : Nat, k ≤ n ∧ i = .int .i64 k ∧ Hid (∀ j, j < k → ∀ x, xs[j]? = some x → 0 ≤ x ∧ x < md)) (fun i => n - (intOf i).toNat)
  case atStart => exact ⟨0, by omega, rfl, Lib.hid (fun j hj => by omega)⟩
  case round =>
    obtain ⟨k, hk, rfl, HN⟩ := hrel
    by_cases hlt : k < n
    · have hki : (k : Int) < (n : Int) := by omega
      have hkl : k < xs.length := by rw [HL.out]; exact hlt
      obtain ⟨b, off, rfl, _, hc⟩ := h.get hlt
      rw [List.getElem_map] at hc
      obtain ⟨x, hx⟩ : ∃ x, xs[k]'hkl = x := ⟨_, rfl⟩
      rw [hx] at hc
      have HX : Hid (xs[k]? = some x) := Lib.hid (by rw [List.getElem?_eq_getElem hkl, hx])
      clear hx
      by_cases h0 : x < 0
      · have HR := Lib.hid (namF_no (md := md) HX.out (.inl h0))
        go_wp2
        go_ret
        exact ⟨by rw [HQQ.out.symm.trans HR.out]; first | rfl | (simp; done) | (simp; omega), rfl⟩
      · by_cases hm : md ≤ x
        · have HR := Lib.hid (namF_no (md := md) HX.out (.inr hm))
          go_wp2
          go_ret
          exact ⟨by rw [HQQ.out.symm.trans HR.out]; first | rfl | (simp; done) | (simp; omega), rfl⟩
        · have HOK := Lib.hid (show 0 ≤ x ∧ x < md by omega)
          go_wp2
          go_round
          case rel => exact ⟨k + 1, by omega, by go_num, Lib.hid (fun j hj x' hx' => by
            rcases (show j < k ∨ j = k by omega) with h | rfl
            · exact HN.out j h x' hx'
            · rw [HX.out] at hx'
              cases hx'
              exact HOK.out)⟩
          case measure => simp [intOf]; omega
    · obtain rfl : k = n := by omega
      by_cases hz : k = 0
      · subst hz
        have HR : Hid (namF xs md = false) := Lib.hid (by
          have : xs = [] := List.eq_nil_of_length_eq_zero HL.out
          rw [this]; rfl)
        go_wp2
        go_ret
        exact ⟨by rw [HQQ.out.symm.trans HR.out]; first | rfl | (simp; done) | (simp; omega), rfl⟩
      · have hp : (0 : Int) < (k : Int) := by omega
        have HR : Hid (namF xs md = true) := Lib.hid (namF_yes (by rw [HL.out]; omega) (fun j x hx => HN.out j (by rw [← HL.out]; exact (List.getElem?_eq_some_iff.1 hx).1) x hx))
        clear hz
        go_wp2
        go_ret
        exact ⟨by rw [HQQ.out.symm.trans HR.out]; first | rfl | (simp; done) | (simp; omega), rfl⟩
set_option maxRecDepth 100000 in
set_option maxHeartbeats 1000000 in
theorem twice_any (A : Option Addr) (n c : Nat) (xs : List Int) (w : World) (h : Lst w A n (xs.map (Value.int .i64))) (hnc : n ≤ c) (hc : c ≤ 9223372036854775807) :
    Calls Try.prog 36 #[.slice A n c] w fun e w' => e = .returned (.bool (twF xs)) ∧ Below w.heap.size w w' := by
  have hl : xs.length = n := by have := h.1; simpa using this
  have HL := Lib.hid hl
  obtain ⟨qq, HQQ⟩ : ∃ qq, Hid (twF xs = qq) := ⟨_, Lib.hid rfl⟩
  rw [HQQ.out]
  have HH := Lib.hid h
  clear hl h
  go_enter Try.func36, Try.ntmps36
  go_wp2
  go_loopw [3] (fun i wx => ∃ k : Nat, k ≤ n ∧ i = .int .i64 k ∧ Hid (∀ j, j < k → ∀ x, xs[j]? = some x → (xs.take j).contains x = false) ∧ Below w.heap.size w wx) (fun i _ => n - (intOf i).toNat)
  case atStart => exact ⟨0, by omega, rfl, Lib.hid (fun j hj => by omega), Below.refl _ _⟩
  case round =>
    obtain ⟨k, hk, rfl, HN, hbk⟩ := hrel
    have HBK := Lib.hid hbk
    by_cases hlt : k < n
    · have hki : (k : Int) < (n : Int) := by omega
      have hkc : (k : Int) ≤ (c : Int) := by omega
      have hkl : k < xs.length := by rw [HL.out]; exact hlt
      obtain ⟨b, off, rfl, hb, hd⟩ := (HH.out.kept hbk).get hlt
      rw [List.getElem_map] at hd
      obtain ⟨x, hx⟩ : ∃ x, xs[k]'hkl = x := ⟨_, rfl⟩
      rw [hx] at hd
      have HX : Hid (xs[k]? = some x) := Lib.hid (by rw [List.getElem?_eq_getElem hkl, hx])
      have HLT : Hid (∀ W, Below w.heap.size w W → Lst W (some ⟨b, off, none⟩) k ((xs.take k).map (Value.int .i64))) := Lib.hid (fun W hW => by
        have := lst_front (HH.out.kept hW) (h := k) (by omega)
        rwa [← List.map_take] at this)
      have K0 : ∀ z : Kin wr.drew, z.world.cell? ⟨b, off + k, none⟩ = some (.int .i64 x) := fun z => Kin.at (w := wr.drew) hd z
      have HBZ : Hid (∀ z : Kin wr.drew, Below w.heap.size w z.world) := Lib.hid (fun z => HBK.out.trans (((bel_drew wr).trans z.below).mono HBK.out.size))
      obtain ⟨q, HQ⟩ : ∃ q, Hid ((xs.take k).contains x = q) := ⟨_, Lib.hid rfl⟩
      have HHS : Hid (∀ z : Kin wr.drew, Calls Try.prog 37 #[.slice (some ⟨b, off, none⟩) k c, .int .i64 x] z.world fun e w' => e = .returned (.bool q) ∧ Below z.world.heap.size z.world w') := Lib.hid (fun z => (has_any _ k c (xs.take k) x z.world (HLT.out _ (HBZ.out z)) (by omega)).mono (fun e w' ⟨he, hw⟩ => ⟨by rw [he, HQ.out], by rw [← hw]; exact Below.refl _ _⟩))
      clear hx hkl hbk hd hb
      go_upto_region 4 with (fail)
      refine wp_region_specL 8 [.d (.slice (some ⟨b, off, none⟩) n c), .d (.int .i64 k), .d (.slice (some ⟨b, off, none⟩) k c), .d (.slice (some ⟨b, off, none⟩) n c), .d (.int .i64 k), .d (.pointer (some ⟨b, off + k, none⟩)), .d (.int .i64 x), .d (.bool q)] (by kernel_rfl) (by kernel_rfl) ?_
      refine spec_d rfl (fun x _ => gives_run (by go_simp)) ?_
      try simp only [Act.put, List.getElem_toArray, List.getElem_cons_succ, List.getElem_cons_zero, List.setIfInBounds_toArray, List.set_cons_zero, List.set_cons_succ]
      refine spec_d rfl (fun x _ => gives_run (by go_simp)) ?_
      try simp only [Act.put, List.getElem_toArray, List.getElem_cons_succ, List.getElem_cons_zero, List.setIfInBounds_toArray, List.set_cons_zero, List.set_cons_succ]
      refine spec_d rfl (fun x _ => gives_run (by go_simp)) ?_
      try simp only [Act.put, List.getElem_toArray, List.getElem_cons_succ, List.getElem_cons_zero, List.setIfInBounds_toArray, List.set_cons_zero, List.set_cons_succ]
      refine spec_d rfl (fun x _ => gives_run (by go_simp)) ?_
      try simp only [Act.put, List.getElem_toArray, List.getElem_cons_succ, List.getElem_cons_zero, List.setIfInBounds_toArray, List.set_cons_zero, List.set_cons_succ]
      refine spec_d rfl (fun x _ => gives_run (by go_simp)) ?_
      try simp only [Act.put, List.getElem_toArray, List.getElem_cons_succ, List.getElem_cons_zero, List.setIfInBounds_toArray, List.set_cons_zero, List.set_cons_succ]
      refine spec_d rfl (fun x _ => gives_run (by go_simp)) ?_
      try simp only [Act.put, List.getElem_toArray, List.getElem_cons_succ, List.getElem_cons_zero, List.setIfInBounds_toArray, List.set_cons_zero, List.set_cons_succ]
      refine spec_d rfl (fun x _ => gives_run (by go_simp)) ?_
      try simp only [Act.put, List.getElem_toArray, List.getElem_cons_succ, List.getElem_cons_zero, List.setIfInBounds_toArray, List.set_cons_zero, List.set_cons_succ]
      refine spec_d rfl (fun z _ => gives_det (by go_simp) (HHS.out z)) ?_
      try simp only [Act.put, List.getElem_toArray, List.getElem_cons_succ, List.getElem_cons_zero, List.setIfInBounds_toArray, List.set_cons_zero, List.set_cons_succ]
      refine spec_end (fun z hz => ?_)
      clear hz
      refine wpAny_done (by kernel_rfl) ?_ _
      have HB9 := Lib.hid (HBZ.out z)
      clear K0 HBZ HHS HLT
      generalize z.world = wz at HB9 ⊢
      clear z
      cases q with
      | true =>
        have HR := Lib.hid (twF_yes HX.out HQ.out)
        go_wp2
        go_ret
        exact ⟨by rw [HQQ.out.symm.trans HR.out]; first | rfl | simp, HB9.out⟩
      | false =>
        go_wp2
        go_roundw
        case rel => exact ⟨k + 1, by omega, by go_num, Lib.hid (fun j hj x' hx' => by
          rcases (show j < k ∨ j = k by omega) with h | rfl
          · exact HN.out j h x' hx'
          · rw [HX.out] at hx'
            cases hx'
            exact HQ.out), HB9.out⟩
        case measure => simp [intOf]; omega
    · obtain rfl : k = n := by omega
      have HR : Hid (twF xs = false) := Lib.hid (twF_no (fun j x hx => HN.out j (by rw [← HL.out]; exact (List.getElem?_eq_some_iff.1 hx).1) x hx))
      go_wp2
      go_ret
      exact ⟨by rw [HQQ.out.symm.trans HR.out]; first | rfl | simp, HBK.out⟩
end Go.Proofs.Ytkankdecbefenaa.Ly7
