/- Places as parts that rise, and do not touch: the contracts of package layout's parts, Free, Join; no condition but sizes. -/
import Derived.Test.YtejhjpdcodloaaaLayE
namespace Go.Proofs.Ytejhjpdcodloaaa.Ly42
open Go.ChangeShapes Go.WideShapes Go.ChangeAt Go.RowKit Base
set_option linter.unusedVariables false
set_option linter.unusedSimpArgs false

/-- The last part is one place longer. -/
def bump : List Pt → List Pt
  | [] => []
  | [x] => [⟨x.a, x.m + 1⟩]
  | x :: y :: r => x :: bump (y :: r)
def prN (p : Nat → Bool) : Nat → List Pt
  | 0 => []
  | k + 1 => if p k = false then prN p k else if 0 < k ∧ p (k - 1) = true then bump (prN p k) else prN p k ++ [⟨(k : Int), 1⟩]
theorem bump_snoc : ∀ (l : List Pt) (x : Pt), bump (l ++ [x]) = l ++ [⟨x.a, x.m + 1⟩]
  | [], x => rfl
  | [y], x => rfl
  | y :: z :: r, x => by
    show y :: bump ((z :: r) ++ [x]) = _
    rw [bump_snoc (z :: r) x]
    rfl
/-- How the last one ends. -/
theorem prN_last (p : Nat → Bool) : ∀ k, (prN p k = [] ∧ (k = 0 ∨ p (k - 1) = false)) ∨ ∃ l x, prN p k = l ++ [x] ∧ l.length + 1 ≤ k ∧ 0 ≤ x.a ∧ 1 ≤ x.m ∧ ((x.a + x.m = (k : Int) ∧ 0 < k ∧ p (k - 1) = true) ∨ (x.a + x.m < (k : Int) ∧ p (k - 1) = false))
  | 0 => .inl ⟨rfl, .inl rfl⟩
  | k + 1 => by
    have ih := prN_last p k
    unfold prN
    by_cases hp : p k = false
    · rw [if_pos hp]
      rcases ih with ⟨h, _⟩ | ⟨l, x, h, hl, h0, h1, h2⟩
      · exact .inl ⟨h, .inr (by simpa using hp)⟩
      · refine .inr ⟨l, x, h, by omega, h0, h1, .inr ⟨?_, by simpa using hp⟩⟩
        rcases h2 with ⟨h2, _⟩ | ⟨h2, _⟩ <;> omega
    · rw [if_neg hp]
      have hp' : p k = true := by simpa using hp
      by_cases hq : 0 < k ∧ p (k - 1) = true
      · rw [if_pos hq]
        rcases ih with ⟨h, h'⟩ | ⟨l, x, h, hl, h0, h1, h2⟩
        · rcases h' with h' | h'
          · omega
          · rw [hq.2] at h'; cases h'
        · rw [h, bump_snoc]
          refine .inr ⟨l, ⟨x.a, x.m + 1⟩, rfl, by omega, h0, by simp only; omega, .inl ⟨?_, by omega, by simpa using hp'⟩⟩
          rcases h2 with ⟨h2, _⟩ | ⟨_, h2⟩
          · simp only; omega
          · rw [hq.2] at h2; cases h2
      · rw [if_neg hq]
        refine .inr ⟨prN p k, ⟨(k : Int), 1⟩, rfl, ?_, by simp only; omega, by simp only; omega, .inl ⟨by simp only; omega, by omega, by simpa using hp'⟩⟩
        rcases ih with ⟨h, _⟩ | ⟨l, x, h, hl, _⟩
        · rw [h]; simp
        · rw [h]; simp; omega
theorem prN_len (p : Nat → Bool) (k : Nat) : (prN p k).length ≤ k := by
  rcases prN_last p k with ⟨h, _⟩ | ⟨l, x, h, hl, _⟩
  · rw [h]; simp
  · rw [h]; simpa using hl
theorem row_set {w : World} {base : Nat} {T : TypeId} {g cap n : Nat} {xs : List Value} (h : w.ownsRow base T 2 (.slice (some ⟨g, 0, none⟩) n cap) n xs) (i : Nat) (v : Value) : (w.setCell ⟨g, i, none⟩ v).ownsRow base T 2 (.slice (some ⟨g, 0, none⟩) n cap) n (xs.set i v) := by
  refine ⟨by rw [List.length_set]; exact h.1, ?_⟩
  rcases h.2 with ⟨e, _⟩ | ⟨g', cap', cur, e, hb, hg, hnc, hcm, hcs, ht⟩
  · cases e
  · injection e with e1 e2 e3
    injection e1 with e1
    injection e1 with e1 _ _
    subst e1
    subst e3
    have hO : Obj1 w g T cur := hg
    exact .inr ⟨g, cap, cur.setIfInBounds i v, rfl, hb, hO.set i v, hnc, hcm, by simpa using hcs, by rw [Array.toList_setIfInBounds, List.take_set, ht]⟩
theorem row_cell {w : World} {base : Nat} {T : TypeId} {g cap n : Nat} {xs : List Value} (h : w.ownsRow base T 2 (.slice (some ⟨g, 0, none⟩) n cap) n xs) {i : Nat} {v : Value} (hv : xs[i]? = some v) : w.cell? ⟨g, i, none⟩ = some v ∧ w.frozen? ⟨g, i, none⟩ = false := by
  rcases h.2 with ⟨e, _⟩ | ⟨g', cap', cur, e, hb, hg, hnc, hcm, hcs, ht⟩
  · cases e
  · injection e with e1 e2 e3
    injection e1 with e1
    injection e1 with e1 _ _
    subst e1
    have hO : Obj1 w g T cur := hg
    refine ⟨?_, hO.free i⟩
    rw [hO.cell, ← hv, ← ht]
    have hi : i < n * 2 := by rw [← h.1]; exact (List.getElem?_eq_some_iff.1 hv).1
    rw [List.getElem?_take_of_lt hi, Array.getElem?_toList]
theorem row_some {w : World} {base : Nat} {T : TypeId} {s : Nat} {v : Value} {n : Nat} {xs : List Value} (h : w.ownsRow base T s v n xs) (hn : 0 < n) : ∃ g c, v = .slice (some ⟨g, 0, none⟩) n c := by
  rcases h.2 with ⟨rfl, rfl⟩ | ⟨g, cap, cur, rfl, _⟩
  · omega
  · exact ⟨_, _, rfl⟩
theorem ptC_bump (l : List Pt) (x : Pt) : ptC (l ++ [⟨x.a, x.m + 1⟩]) = (ptC (l ++ [x])).set (l.length * 2 + 1) (.int .i64 (x.m + 1)) := by
  rw [ptC_snoc, ptC_snoc, List.set_append_right _ _ (by rw [ptC_len]; omega), ptC_len, show l.length * 2 + 1 - l.length * 2 = 1 by omega]
  rfl
theorem ptC_last (l : List Pt) (x : Pt) : (ptC (l ++ [x]))[l.length * 2]? = some (.int .i64 x.a) ∧ (ptC (l ++ [x]))[l.length * 2 + 1]? = some (.int .i64 x.m) := by
  have hx : (l ++ [x])[l.length]? = some x := by simp
  exact ⟨ptC_at _ _ 0 x hx (by omega), ptC_at _ _ 1 x hx (by omega)⟩
set_option maxRecDepth 100000 in
set_option maxHeartbeats 2000000 in
theorem parts_any (g : Nat) (f : Nat → Nat) (so : Bool) (w : World) (hp : PlAt w g f) :
    Calls Try.prog 45 #[.pointer (some ⟨g, 0, none⟩), .bool so] w fun e w' => ∃ B d, e = .returned (.slice B (prN (fun i => decide (0 < f i) == so) 64).length d) ∧ Hid (PtsAt w' B (prN (fun i => decide (0 < f i) == so) 64).length (prN (fun i => decide (0 < f i) == so) 64)) ∧ Hid (Below w.heap.size w w') := by
  have HP := Lib.hid hp
  obtain ⟨p, HPP⟩ : ∃ p, Hid ((fun i => decide (0 < f i) == so) = p) := ⟨_, Lib.hid rfl⟩
  rw [HPP.out]
  obtain ⟨i0, hi, hz0, hz1, hz2⟩ := info_parts info_pt
  obtain ⟨Z, HZ⟩ : ∃ Z, Hid (madeCells #[.int .i64 0, .int .i64 0] (64 * 2) = Z) := ⟨_, Lib.hid rfl⟩
  have hmk : ∀ w : World, (Instr.makeSlice 43 (.int .i64 0) (.int .i64 64)).run Try.prog w = .ok (.slice (some ⟨w.heap.size, 0, none⟩) 0 64) (w.alloc (.cells Z TPt)) := by
    intro w
    have := run_make (P := Try.prog) w 43 TPt i0 (.agg #[.int .i64 0, .int .i64 0]) Try.underlying43 hi hz0 .i64 .i64 0 64 (by omega) (by omega) (by rw [hz2]; omega) (by omega)
    rw [hz1] at this
    rw [← HZ.out]
    exact this
  obtain ⟨gl, HGL⟩ : ∃ g, Hid (w.heap.size = g) := ⟨_, Lib.hid rfl⟩
  obtain ⟨W2, HW2⟩ : ∃ W, Hid (W = w.alloc (.cells Z TPt)) := ⟨_, Lib.hid rfl⟩
  have HB2 : Hid (Below w.heap.size w W2) := Lib.hid (by rw [HW2.out]; exact bel1 _ _)
  have HR2 : Hid (W2.ownsRow w.heap.size TPt 2 (.slice (some ⟨gl, 0, none⟩) 0 64) 0 (ptC [])) := Lib.hid (by
    refine ⟨rfl, .inr ⟨gl, 64, Z, rfl, by rw [HGL.out]; exact Nat.le_refl _, ?_, by omega, by unfold maxLen; omega, ?_, rfl⟩⟩
    · rw [HW2.out, ← HGL.out]
      exact Obj1.new _ _ _
    · rw [← HZ.out, size_madeCells])
  have HNE : Hid (∀ q, w.heap.size ≤ q → g ≠ q) := Lib.hid (fun q hq e => by have := hp.lt; omega)
  clear hp
  go_enter Try.func45, Try.ntmps45
  go_upto_region 2 with (fail)
  rw [← HW2.out, HGL.out]
  clear HW2 hmk
  go_wp2_with fail
  go_loopw [5, 11] (fun v i wx => ∃ (k g' cap : Nat), k ≤ 64 ∧ i = .int .i64 k ∧ v = .slice (some ⟨g', 0, none⟩) (prN p k).length cap ∧ Hid (wx.ownsRow w.heap.size TPt 2 v (prN p k).length (ptC (prN p k))) ∧ Below w.heap.size w wx) (fun _ i _ => 64 - (intOf i).toNat)
  case atStart => exact ⟨0, gl, 64, by omega, rfl, rfl, HR2, HB2.out⟩
  case round =>
    clear HR2 HB2
    obtain ⟨k, g', cap, hk, rfl, rfl, HROW, hbel⟩ := hrel
    have HBEL := Lib.hid hbel
    by_cases hlt : k < 64
    · have hki : (k : Int) < 64 := by omega
      have hk0 : (0 : Int) ≤ (k : Int) := by omega
      have HPk := Lib.hid (HP.out.kept hbel)
      obtain ⟨c0, _⟩ := HPk.out.cell hlt
      have HPK : Hid (p k = (decide (0 < f k) == so)) := Lib.hid (by rw [← HPP.out])
      obtain ⟨v, hv⟩ : ∃ v, f k = v := ⟨_, rfl⟩
      rw [hv] at c0 HPK
      have K0 : ∀ z : Kin wr.drew, z.world.cell? ⟨g, k, none⟩ = some (.int .i64 (v : Int)) := fun z => Kin.at (w := wr.drew) c0 z
      have hnl := prN_len p k
      clear hv hbel c0
      go_upto_region 4 with (fail)
      refine wp_region_specL 6 [.d (.int .i64 k), .d (.pointer (some ⟨g, 0, none⟩)), .d (.pointer (some ⟨g, k, none⟩)), .d (.int .i64 (v : Int)), .d (.int .i64 k), .d (.int .i64 (v : Int))] (by kernel_rfl) (by kernel_rfl) ?_
      refine spec_d rfl (fun x _ => gives_run (by go_simp)) ?_
      try simp only [Act.put, List.getElem_toArray, List.getElem_cons_succ, List.getElem_cons_zero, List.setIfInBounds_toArray, List.set_cons_zero, List.set_cons_succ]
      refine spec_d rfl (fun x _ => gives_run (by go_simp)) ?_
      try simp only [Act.put, List.getElem_toArray, List.getElem_cons_succ, List.getElem_cons_zero, List.setIfInBounds_toArray, List.set_cons_zero, List.set_cons_succ]
      refine spec_d rfl (fun x _ => gives_run (by go_simp)) ?_
      try simp only [Act.put, List.getElem_toArray, List.getElem_cons_succ, List.getElem_cons_zero, List.setIfInBounds_toArray, List.set_cons_zero, List.set_cons_succ]
      refine spec_d rfl (fun x _ => gives_run (by go_simp)) ?_
      try simp only [Act.put, List.getElem_toArray, List.getElem_cons_succ, List.getElem_cons_zero, List.setIfInBounds_toArray, List.set_cons_zero, List.set_cons_succ]
      refine spec_d rfl (fun x _ => gives_run (by go_simp)) ?_
      try simp only [Act.put, List.getElem_toArray, List.getElem_cons_succ, List.getElem_cons_zero, List.setIfInBounds_toArray, List.set_cons_zero, List.set_cons_succ]
      refine spec_d rfl (fun x _ => gives_run (by go_simp)) ?_
      try simp only [Act.put, List.getElem_toArray, List.getElem_cons_succ, List.getElem_cons_zero, List.setIfInBounds_toArray, List.set_cons_zero, List.set_cons_succ]
      refine spec_end (fun z hz => ?_)
      clear hz
      refine wpAny_done (by kernel_rfl) ?_ _
      have hzb := (bel_drew wr).trans z.below
      have HBZ := Lib.hid (HBEL.out.trans (hzb.mono HBEL.out.size))
      have HRZ := Lib.hid (own_kept HROW.out hzb)
      clear K0 hzb HBEL HROW HPk
      generalize z.world = wz at HBZ HRZ ⊢
      clear z
      obtain ⟨vb, hvb⟩ : ∃ b, decide (0 < v) = b := ⟨_, rfl⟩
      have hgt : decide ((0 : Int) < (v : Int)) = vb := by rw [← hvb, decide_eq_decide]; omega
      have HPV : Hid (p k = (vb == so)) := Lib.hid (by rw [HPK.out, hvb])
      clear HPK
      by_cases hpk : vb = so
      · subst hpk
        have HPT : Hid (p k = true) := Lib.hid (by rw [HPV.out]; simp)
        have hne : (vb != vb) = false := by simp
        rcases prN_last p k with ⟨hL, h'⟩ | ⟨l, x, hL, hl1, hx0, hx1, hx2⟩
        · as_aux_lemma =>
          have HNX : Hid (prN p (k + 1) = [(⟨(k : Int), 1⟩ : Pt)]) := Lib.hid (by
            show (if p k = false then _ else if 0 < k ∧ p (k - 1) = true then _ else _) = _
            rw [if_neg (by rw [HPT.out]; simp), if_neg (fun q => by exact h'.elim (fun h' => by omega) (fun h' => by rw [q.2] at h'; cases h')), hL]
            rfl)
          rw [hL] at HRZ ⊢
          have HRZ' : Hid (wz.ownsRow w.heap.size TPt 2 (.slice (some ⟨g', 0, none⟩) 0 cap) 0 (ptC [])) := HRZ
          go_upto_region 7 with (fail)
          refine wp_region_specL 17 [.d (.int .i64 (-1)), .d (.bool false), .d (.bool false), .d undef, .d undef, .d undef, .d undef, .d undef, .d undef, .d undef, .d undef, .d undef, .d undef, .d undef, .d undef, .d undef, .d (.bool false)] (by kernel_rfl) (by kernel_rfl) ?_
          refine spec_d rfl (fun x _ => gives_run (by go_simp)) ?_
          try simp only [Act.put, List.getElem_toArray, List.getElem_cons_succ, List.getElem_cons_zero, List.setIfInBounds_toArray, List.set_cons_zero, List.set_cons_succ]
          refine spec_d rfl (fun x _ => gives_run (by go_simp)) ?_
          try simp only [Act.put, List.getElem_toArray, List.getElem_cons_succ, List.getElem_cons_zero, List.setIfInBounds_toArray, List.set_cons_zero, List.set_cons_succ]
          refine spec_d rfl (fun x _ => gives_run (by go_simp)) ?_
          try simp only [Act.put, List.getElem_toArray, List.getElem_cons_succ, List.getElem_cons_zero, List.setIfInBounds_toArray, List.set_cons_zero, List.set_cons_succ]
          refine spec_skip rfl ?_
          try simp only [Act.put, List.getElem_toArray, List.getElem_cons_succ, List.getElem_cons_zero, List.setIfInBounds_toArray, List.set_cons_zero, List.set_cons_succ]
          refine spec_skip rfl ?_
          try simp only [Act.put, List.getElem_toArray, List.getElem_cons_succ, List.getElem_cons_zero, List.setIfInBounds_toArray, List.set_cons_zero, List.set_cons_succ]
          refine spec_skip rfl ?_
          try simp only [Act.put, List.getElem_toArray, List.getElem_cons_succ, List.getElem_cons_zero, List.setIfInBounds_toArray, List.set_cons_zero, List.set_cons_succ]
          refine spec_skip rfl ?_
          try simp only [Act.put, List.getElem_toArray, List.getElem_cons_succ, List.getElem_cons_zero, List.setIfInBounds_toArray, List.set_cons_zero, List.set_cons_succ]
          refine spec_skip rfl ?_
          try simp only [Act.put, List.getElem_toArray, List.getElem_cons_succ, List.getElem_cons_zero, List.setIfInBounds_toArray, List.set_cons_zero, List.set_cons_succ]
          refine spec_skip rfl ?_
          try simp only [Act.put, List.getElem_toArray, List.getElem_cons_succ, List.getElem_cons_zero, List.setIfInBounds_toArray, List.set_cons_zero, List.set_cons_succ]
          refine spec_skip rfl ?_
          try simp only [Act.put, List.getElem_toArray, List.getElem_cons_succ, List.getElem_cons_zero, List.setIfInBounds_toArray, List.set_cons_zero, List.set_cons_succ]
          refine spec_skip rfl ?_
          try simp only [Act.put, List.getElem_toArray, List.getElem_cons_succ, List.getElem_cons_zero, List.setIfInBounds_toArray, List.set_cons_zero, List.set_cons_succ]
          refine spec_skip rfl ?_
          try simp only [Act.put, List.getElem_toArray, List.getElem_cons_succ, List.getElem_cons_zero, List.setIfInBounds_toArray, List.set_cons_zero, List.set_cons_succ]
          refine spec_skip rfl ?_
          try simp only [Act.put, List.getElem_toArray, List.getElem_cons_succ, List.getElem_cons_zero, List.setIfInBounds_toArray, List.set_cons_zero, List.set_cons_succ]
          refine spec_skip rfl ?_
          try simp only [Act.put, List.getElem_toArray, List.getElem_cons_succ, List.getElem_cons_zero, List.setIfInBounds_toArray, List.set_cons_zero, List.set_cons_succ]
          refine spec_skip rfl ?_
          try simp only [Act.put, List.getElem_toArray, List.getElem_cons_succ, List.getElem_cons_zero, List.setIfInBounds_toArray, List.set_cons_zero, List.set_cons_succ]
          refine spec_skip rfl ?_
          try simp only [Act.put, List.getElem_toArray, List.getElem_cons_succ, List.getElem_cons_zero, List.setIfInBounds_toArray, List.set_cons_zero, List.set_cons_succ]
          refine spec_d rfl (fun x _ => gives_run (by go_simp)) ?_
          try simp only [Act.put, List.getElem_toArray, List.getElem_cons_succ, List.getElem_cons_zero, List.setIfInBounds_toArray, List.set_cons_zero, List.set_cons_succ]
          refine spec_end (fun z hz => ?_)
          clear hz
          refine wpAny_done (by kernel_rfl) ?_ _
          have hzb := (bel_drew wz).trans z.below
          have HBY := Lib.hid (HBZ.out.trans (hzb.mono HBZ.out.size))
          have HRY := Lib.hid (own_kept HRZ'.out hzb)
          clear hzb HBZ HRZ HRZ' hL h'
          generalize z.world = wy at HBY HRY ⊢
          clear z
          have HR1 := Lib.hid (HRY.out.alloc (.cells (ptL ⟨(k : Int), 1⟩).toArray TPt))
          go_wp2_with (at_builtin; refine pushS _ rfl (.tmp 49) (.tmp 52) 43 rfl w.heap.size TPt i0 (.agg #[.int .i64 0, .int .i64 0]) 2 16 Try.underlying43 hi hz0 hz1 hz2 rfl (by decide) _ _ _ rfl HR1.out ⟨wy.heap.size, 0, none⟩ 1 1 (ptL ⟨(k : Int), 1⟩) rfl rfl (cell_new wy (ptL ⟨(k : Int), 1⟩) TPt) (one_ptL _) (by unfold maxLen; omega) (by omega) (by have := HBY.out.size; simp; omega) ?_; intro v5 w5 O5 B5 G5 K5)
          have HB5 : Hid (Below w.heap.size w w5) := Lib.hid ((HBY.out.alloc HBY.out.size _).trans B5.out)
          obtain ⟨g5, c5, rfl⟩ := row_some O5.out (by omega)
          have HO5 : Hid (w5.ownsRow w.heap.size TPt 2 (.slice (some ⟨g5, 0, none⟩) (0 + 1) c5) [(⟨(k : Int), 1⟩ : Pt)].length (ptC [(⟨(k : Int), 1⟩ : Pt)])) := Lib.hid (by have h := O5.out; exact h)
          clear O5 B5 G5 K5 HR1
          go_wp2
          go_roundw
          case rel => exact ⟨k + 1, g5, c5, by omega, by go_num, by rw [HNX.out]; rfl, Lib.hid (by rw [HNX.out]; exact HO5.out), HB5.out⟩
          case measure => simp [intOf]; omega
        · as_aux_lemma =>
          obtain ⟨N, hN⟩ : ∃ N, l.length = N := ⟨_, rfl⟩
          have HN := Lib.hid hN
          have hlen : (prN p k).length = N + 1 := by rw [hL, List.length_append, hN]; rfl
          rw [hlen] at HRZ ⊢
          rw [hL] at HRZ
          have hN64 : N < 64 := by omega
          obtain ⟨y0, _⟩ := row_cell HRZ.out (ptC_last l x).1
          obtain ⟨y1, _⟩ := row_cell HRZ.out (ptC_last l x).2
          rw [hN] at y0 y1
          obtain ⟨xa, xm⟩ := x
          simp only at y0 y1 hx0 hx1 hx2
          have hle : xa + xm ≤ (k : Int) := by omega
          have e0 : IntKind.i64.wrap (((N + 1 : Nat) : Int) - 1) = (N : Int) := by rw [IntWalk.i64_in _ (by omega)]; omega
          have e0' : ((N + 1 : Nat) : Int) = (N : Int) + 1 := by omega
          have e1 : IntKind.i64.wrap (xa + xm) = xa + xm := IntWalk.i64_in _ (by omega)
          have e2 : IntKind.i64.wrap (xm + 1) = xm + 1 := IntWalk.i64_in _ (by omega)
          have hN0 : (0 : Int) ≤ (N : Int) := by omega
          have hNlt : (N : Int) < (N : Int) + 1 := by omega
          have Y0 : ∀ z : Kin wz.drew, z.world.cell? ⟨g', N * 2, none⟩ = some (.int .i64 xa) := fun z => Kin.at (w := wz.drew) y0 z
          have Y1 : ∀ z : Kin wz.drew, z.world.cell? ⟨g', N * 2 + 1, none⟩ = some (.int .i64 xm) := fun z => Kin.at (w := wz.drew) y1 z
          rw [e0'] at *
          by_cases hxe : xa + xm = (k : Int)
          · as_aux_lemma =>
            have hxb : (xa + xm == (k : Int)) = true := by simpa using hxe
            have HNX : Hid (prN p (k + 1) = l ++ [(⟨xa, xm + 1⟩ : Pt)]) := Lib.hid (by
              show (if p k = false then _ else if 0 < k ∧ p (k - 1) = true then _ else _) = _
              rcases hx2 with ⟨_, q⟩ | ⟨q, _⟩
              · rw [if_neg (by rw [HPT.out]; simp), if_pos q, hL, bump_snoc]
              · omega)
            clear hx2 hxe y0 y1 hL
            go_upto_region 7 with (fail)
            refine wp_region_specL 17 [.d (.int .i64 (N : Int)), .d (.bool true), .d (.bool true), .d (.slice (some ⟨g', 0, none⟩) (N + 1) cap), .d (.int .i64 (N : Int)), .d (.pointer (some ⟨g', N * 2, none⟩)), .d (.pointer (some ⟨g', N * 2, none⟩)), .d (.int .i64 xa), .d (.slice (some ⟨g', 0, none⟩) (N + 1) cap), .d (.int .i64 (N : Int)), .d (.pointer (some ⟨g', N * 2, none⟩)), .d (.pointer (some ⟨g', N * 2 + 1, none⟩)), .d (.int .i64 xm), .d (.int .i64 (xa + xm)), .d (.int .i64 k), .d (.bool true), .d (.bool true)] (by kernel_rfl) (by kernel_rfl) ?_
            refine spec_d rfl (fun x _ => gives_run (by go_simp)) ?_
            try simp only [Act.put, List.getElem_toArray, List.getElem_cons_succ, List.getElem_cons_zero, List.setIfInBounds_toArray, List.set_cons_zero, List.set_cons_succ]
            refine spec_d rfl (fun x _ => gives_run (by go_simp)) ?_
            try simp only [Act.put, List.getElem_toArray, List.getElem_cons_succ, List.getElem_cons_zero, List.setIfInBounds_toArray, List.set_cons_zero, List.set_cons_succ]
            refine spec_d rfl (fun x _ => gives_run (by go_simp)) ?_
            try simp only [Act.put, List.getElem_toArray, List.getElem_cons_succ, List.getElem_cons_zero, List.setIfInBounds_toArray, List.set_cons_zero, List.set_cons_succ]
            refine spec_d rfl (fun x _ => gives_run (by go_simp)) ?_
            try simp only [Act.put, List.getElem_toArray, List.getElem_cons_succ, List.getElem_cons_zero, List.setIfInBounds_toArray, List.set_cons_zero, List.set_cons_succ]
            refine spec_d rfl (fun x _ => gives_run (by go_simp)) ?_
            try simp only [Act.put, List.getElem_toArray, List.getElem_cons_succ, List.getElem_cons_zero, List.setIfInBounds_toArray, List.set_cons_zero, List.set_cons_succ]
            refine spec_d rfl (fun x _ => gives_run (by go_simp)) ?_
            try simp only [Act.put, List.getElem_toArray, List.getElem_cons_succ, List.getElem_cons_zero, List.setIfInBounds_toArray, List.set_cons_zero, List.set_cons_succ]
            refine spec_d rfl (fun x _ => gives_run (by go_simp)) ?_
            try simp only [Act.put, List.getElem_toArray, List.getElem_cons_succ, List.getElem_cons_zero, List.setIfInBounds_toArray, List.set_cons_zero, List.set_cons_succ]
            refine spec_d rfl (fun x _ => gives_run (by go_simp)) ?_
            try simp only [Act.put, List.getElem_toArray, List.getElem_cons_succ, List.getElem_cons_zero, List.setIfInBounds_toArray, List.set_cons_zero, List.set_cons_succ]
            refine spec_d rfl (fun x _ => gives_run (by go_simp)) ?_
            try simp only [Act.put, List.getElem_toArray, List.getElem_cons_succ, List.getElem_cons_zero, List.setIfInBounds_toArray, List.set_cons_zero, List.set_cons_succ]
            refine spec_d rfl (fun x _ => gives_run (by go_simp)) ?_
            try simp only [Act.put, List.getElem_toArray, List.getElem_cons_succ, List.getElem_cons_zero, List.setIfInBounds_toArray, List.set_cons_zero, List.set_cons_succ]
            refine spec_d rfl (fun x _ => gives_run (by go_simp)) ?_
            try simp only [Act.put, List.getElem_toArray, List.getElem_cons_succ, List.getElem_cons_zero, List.setIfInBounds_toArray, List.set_cons_zero, List.set_cons_succ]
            refine spec_d rfl (fun x _ => gives_run (by go_simp)) ?_
            try simp only [Act.put, List.getElem_toArray, List.getElem_cons_succ, List.getElem_cons_zero, List.setIfInBounds_toArray, List.set_cons_zero, List.set_cons_succ]
            refine spec_d rfl (fun x _ => gives_run (by go_simp)) ?_
            try simp only [Act.put, List.getElem_toArray, List.getElem_cons_succ, List.getElem_cons_zero, List.setIfInBounds_toArray, List.set_cons_zero, List.set_cons_succ]
            refine spec_d rfl (fun x _ => gives_run (by go_simp)) ?_
            try simp only [Act.put, List.getElem_toArray, List.getElem_cons_succ, List.getElem_cons_zero, List.setIfInBounds_toArray, List.set_cons_zero, List.set_cons_succ]
            refine spec_d rfl (fun x _ => gives_run (by go_simp)) ?_
            try simp only [Act.put, List.getElem_toArray, List.getElem_cons_succ, List.getElem_cons_zero, List.setIfInBounds_toArray, List.set_cons_zero, List.set_cons_succ]
            refine spec_d rfl (fun x _ => gives_run (by go_simp)) ?_
            try simp only [Act.put, List.getElem_toArray, List.getElem_cons_succ, List.getElem_cons_zero, List.setIfInBounds_toArray, List.set_cons_zero, List.set_cons_succ]
            refine spec_d rfl (fun x _ => gives_run (by go_simp)) ?_
            try simp only [Act.put, List.getElem_toArray, List.getElem_cons_succ, List.getElem_cons_zero, List.setIfInBounds_toArray, List.set_cons_zero, List.set_cons_succ]
            refine spec_end (fun z hz => ?_)
            clear hz
            refine wpAny_done (by kernel_rfl) ?_ _
            have hzb := (bel_drew wz).trans z.below
            have HBY := Lib.hid (HBZ.out.trans (hzb.mono HBZ.out.size))
            have HRY := Lib.hid (own_kept HRZ.out hzb)
            clear hzb HBZ HRZ Y0 Y1
            generalize z.world = wy at HBY HRY ⊢
            clear z
            obtain ⟨y1, y2⟩ := row_cell HRY.out (ptC_last l ⟨xa, xm⟩).2
            rw [HN.out] at y1 y2
            simp only at y1 y2
            have HRW : Hid ((wy.setCell ⟨g', N * 2 + 1, none⟩ (.int .i64 (xm + 1))).ownsRow w.heap.size TPt 2 (.slice (some ⟨g', 0, none⟩) (N + 1) cap) (N + 1) (ptC (l ++ [(⟨xa, xm + 1⟩ : Pt)]))) := Lib.hid (by
              rw [ptC_bump l ⟨xa, xm⟩, HN.out]
              exact row_set HRY.out _ _)
            have HGP : Hid (w.heap.size ≤ g') := Lib.hid ((HRY.out.lt g' rfl).1)
            have HBW : Hid (Below w.heap.size w (wy.setCell ⟨g', N * 2 + 1, none⟩ (.int .i64 (xm + 1)))) := Lib.hid (HBY.out.setCell HGP.out _)
            go_upto_region 10 with (fail)
            generalize wy.setCell ⟨g', N * 2 + 1, none⟩ (.int .i64 (xm + 1)) = wv at HRW HBW ⊢
            clear y1 y2
            go_wp2
            go_roundw
            case rel => exact ⟨k + 1, g', cap, by omega, by go_num, by rw [HNX.out, List.length_append, HN.out]; rfl, Lib.hid (by rw [HNX.out, List.length_append, HN.out]; exact HRW.out), HBW.out⟩
            case measure => simp [intOf]; omega
          · as_aux_lemma =>
            have hxb : (xa + xm == (k : Int)) = false := by simpa using hxe
            have HNX : Hid (prN p (k + 1) = (l ++ [(⟨xa, xm⟩ : Pt)]) ++ [(⟨(k : Int), 1⟩ : Pt)]) := Lib.hid (by
              show (if p k = false then _ else if 0 < k ∧ p (k - 1) = true then _ else _) = _
              rcases hx2 with ⟨q, _⟩ | ⟨_, q⟩
              · exact absurd q hxe
              · rw [if_neg (by rw [HPT.out]; simp), if_neg (fun q' => by rw [q] at q'; exact absurd q'.2 (by simp)), hL])
            clear hx2 hxe y0 y1 hL
            go_upto_region 7 with (fail)
            refine wp_region_specL 17 [.d (.int .i64 (N : Int)), .d (.bool true), .d (.bool true), .d (.slice (some ⟨g', 0, none⟩) (N + 1) cap), .d (.int .i64 (N : Int)), .d (.pointer (some ⟨g', N * 2, none⟩)), .d (.pointer (some ⟨g', N * 2, none⟩)), .d (.int .i64 xa), .d (.slice (some ⟨g', 0, none⟩) (N + 1) cap), .d (.int .i64 (N : Int)), .d (.pointer (some ⟨g', N * 2, none⟩)), .d (.pointer (some ⟨g', N * 2 + 1, none⟩)), .d (.int .i64 xm), .d (.int .i64 (xa + xm)), .d (.int .i64 k), .d (.bool false), .d (.bool false)] (by kernel_rfl) (by kernel_rfl) ?_
            refine spec_d rfl (fun x _ => gives_run (by go_simp)) ?_
            try simp only [Act.put, List.getElem_toArray, List.getElem_cons_succ, List.getElem_cons_zero, List.setIfInBounds_toArray, List.set_cons_zero, List.set_cons_succ]
            refine spec_d rfl (fun x _ => gives_run (by go_simp)) ?_
            try simp only [Act.put, List.getElem_toArray, List.getElem_cons_succ, List.getElem_cons_zero, List.setIfInBounds_toArray, List.set_cons_zero, List.set_cons_succ]
            refine spec_d rfl (fun x _ => gives_run (by go_simp)) ?_
            try simp only [Act.put, List.getElem_toArray, List.getElem_cons_succ, List.getElem_cons_zero, List.setIfInBounds_toArray, List.set_cons_zero, List.set_cons_succ]
            refine spec_d rfl (fun x _ => gives_run (by go_simp)) ?_
            try simp only [Act.put, List.getElem_toArray, List.getElem_cons_succ, List.getElem_cons_zero, List.setIfInBounds_toArray, List.set_cons_zero, List.set_cons_succ]
            refine spec_d rfl (fun x _ => gives_run (by go_simp)) ?_
            try simp only [Act.put, List.getElem_toArray, List.getElem_cons_succ, List.getElem_cons_zero, List.setIfInBounds_toArray, List.set_cons_zero, List.set_cons_succ]
            refine spec_d rfl (fun x _ => gives_run (by go_simp)) ?_
            try simp only [Act.put, List.getElem_toArray, List.getElem_cons_succ, List.getElem_cons_zero, List.setIfInBounds_toArray, List.set_cons_zero, List.set_cons_succ]
            refine spec_d rfl (fun x _ => gives_run (by go_simp)) ?_
            try simp only [Act.put, List.getElem_toArray, List.getElem_cons_succ, List.getElem_cons_zero, List.setIfInBounds_toArray, List.set_cons_zero, List.set_cons_succ]
            refine spec_d rfl (fun x _ => gives_run (by go_simp)) ?_
            try simp only [Act.put, List.getElem_toArray, List.getElem_cons_succ, List.getElem_cons_zero, List.setIfInBounds_toArray, List.set_cons_zero, List.set_cons_succ]
            refine spec_d rfl (fun x _ => gives_run (by go_simp)) ?_
            try simp only [Act.put, List.getElem_toArray, List.getElem_cons_succ, List.getElem_cons_zero, List.setIfInBounds_toArray, List.set_cons_zero, List.set_cons_succ]
            refine spec_d rfl (fun x _ => gives_run (by go_simp)) ?_
            try simp only [Act.put, List.getElem_toArray, List.getElem_cons_succ, List.getElem_cons_zero, List.setIfInBounds_toArray, List.set_cons_zero, List.set_cons_succ]
            refine spec_d rfl (fun x _ => gives_run (by go_simp)) ?_
            try simp only [Act.put, List.getElem_toArray, List.getElem_cons_succ, List.getElem_cons_zero, List.setIfInBounds_toArray, List.set_cons_zero, List.set_cons_succ]
            refine spec_d rfl (fun x _ => gives_run (by go_simp)) ?_
            try simp only [Act.put, List.getElem_toArray, List.getElem_cons_succ, List.getElem_cons_zero, List.setIfInBounds_toArray, List.set_cons_zero, List.set_cons_succ]
            refine spec_d rfl (fun x _ => gives_run (by go_simp)) ?_
            try simp only [Act.put, List.getElem_toArray, List.getElem_cons_succ, List.getElem_cons_zero, List.setIfInBounds_toArray, List.set_cons_zero, List.set_cons_succ]
            refine spec_d rfl (fun x _ => gives_run (by go_simp)) ?_
            try simp only [Act.put, List.getElem_toArray, List.getElem_cons_succ, List.getElem_cons_zero, List.setIfInBounds_toArray, List.set_cons_zero, List.set_cons_succ]
            refine spec_d rfl (fun x _ => gives_run (by go_simp)) ?_
            try simp only [Act.put, List.getElem_toArray, List.getElem_cons_succ, List.getElem_cons_zero, List.setIfInBounds_toArray, List.set_cons_zero, List.set_cons_succ]
            refine spec_d rfl (fun x _ => gives_run (by go_simp)) ?_
            try simp only [Act.put, List.getElem_toArray, List.getElem_cons_succ, List.getElem_cons_zero, List.setIfInBounds_toArray, List.set_cons_zero, List.set_cons_succ]
            refine spec_d rfl (fun x _ => gives_run (by go_simp)) ?_
            try simp only [Act.put, List.getElem_toArray, List.getElem_cons_succ, List.getElem_cons_zero, List.setIfInBounds_toArray, List.set_cons_zero, List.set_cons_succ]
            refine spec_end (fun z hz => ?_)
            clear hz
            refine wpAny_done (by kernel_rfl) ?_ _
            have hzb := (bel_drew wz).trans z.below
            have HBY := Lib.hid (HBZ.out.trans (hzb.mono HBZ.out.size))
            have HRY := Lib.hid (own_kept HRZ.out hzb)
            clear hzb HBZ HRZ Y0 Y1
            generalize z.world = wy at HBY HRY ⊢
            clear z
            have HR1 := Lib.hid (HRY.out.alloc (.cells (ptL ⟨(k : Int), 1⟩).toArray TPt))
            go_wp2_with (at_builtin; refine pushS _ rfl (.tmp 49) (.tmp 52) 43 rfl w.heap.size TPt i0 (.agg #[.int .i64 0, .int .i64 0]) 2 16 Try.underlying43 hi hz0 hz1 hz2 rfl (by decide) _ _ _ rfl HR1.out ⟨wy.heap.size, 0, none⟩ 1 1 (ptL ⟨(k : Int), 1⟩) rfl rfl (cell_new wy (ptL ⟨(k : Int), 1⟩) TPt) (one_ptL _) (by unfold maxLen; omega) (by omega) (by have := HBY.out.size; simp; omega) ?_; intro v5 w5 O5 B5 G5 K5)
            have HB5 : Hid (Below w.heap.size w w5) := Lib.hid ((HBY.out.alloc HBY.out.size _).trans B5.out)
            obtain ⟨g5, c5, rfl⟩ := row_some O5.out (by omega)
            have HLN : Hid ((l ++ [(⟨xa, xm⟩ : Pt)] ++ [(⟨(k : Int), 1⟩ : Pt)]).length = N + 1 + 1) := Lib.hid (by simp [HN.out])
            have HO5 : Hid (w5.ownsRow w.heap.size TPt 2 (.slice (some ⟨g5, 0, none⟩) (N + 1 + 1) c5) (N + 1 + 1) (ptC (l ++ [(⟨xa, xm⟩ : Pt)] ++ [(⟨(k : Int), 1⟩ : Pt)]))) := Lib.hid (by rw [ptC_snoc]; exact O5.out)
            clear O5 B5 G5 K5 HR1
            go_wp2
            go_roundw
            case rel => exact ⟨k + 1, g5, c5, by omega, by go_num, by rw [HNX.out, HLN.out], Lib.hid (by rw [HNX.out, HLN.out]; exact HO5.out), HB5.out⟩
            case measure => simp [intOf]; omega
      · have HPF : Hid (prN p (k + 1) = prN p k) := Lib.hid (by
          show (if p k = false then _ else _) = _
          rw [if_pos (by rw [HPV.out]; simpa using hpk)])
        cases vb with
        | false =>
          cases so with
          | false => exact absurd rfl hpk
          | true =>
            clear hpk
            go_wp2
            go_roundw
            case rel => exact ⟨k + 1, g', cap, by omega, by go_num, by rw [HPF.out], Lib.hid (by rw [HPF.out]; exact HRZ.out), HBZ.out⟩
            case measure => simp [intOf]; omega
        | true =>
          cases so with
          | true => exact absurd rfl hpk
          | false =>
            clear hpk
            go_wp2
            go_roundw
            case rel => exact ⟨k + 1, g', cap, by omega, by go_num, by rw [HPF.out], Lib.hid (by rw [HPF.out]; exact HRZ.out), HBZ.out⟩
            case measure => simp [intOf]; omega
    · have hke : k = 64 := by omega
      subst hke
      obtain ⟨A9, c9, e9, _, hs9⟩ := pts_own HROW.out rfl
      injection e9 with e1 e2 e3
      subst e1
      have HS9 := Lib.hid hs9
      have hle : (prN p 64).length ≤ cap := by
        rcases HROW.out.2 with ⟨e, _⟩ | ⟨_, _, _, e, _, _, h, _⟩
        · cases e
        · injection e with _ _ e3
          rw [e3]
          exact h
      obtain ⟨N, hN⟩ : ∃ N, (prN p 64).length = N := ⟨_, rfl⟩
      have HNN := Lib.hid hN
      rw [hN] at hle ⊢
      clear hN hs9 e2 e3 hbel HROW
      go_wp2
      go_ret
      exact ⟨_, _, by rw [HNN.out]; rfl, HS9, HBEL⟩

set_option maxRecDepth 100000 in
set_option maxHeartbeats 1000000 in
theorem free2_any (A : Option Addr) (n c : Nat) (l : List Pt) (w : World) (hl : PtsAt w A n l) (hn : n ≤ 1000) :
    Calls Try.prog 32 #[.slice A n c] w fun e w' => ∃ B d, e = .returned (.slice B (prN (fun i => had l i == false) 64).length d) ∧ Hid (PtsAt w' B (prN (fun i => had l i == false) 64).length (prN (fun i => had l i == false) 64)) ∧ Hid (Below w.heap.size w w') := by
  have HOF := Lib.hid (of_any A n c l w hl hn)
  obtain ⟨ip, hip, hzp, hsp⟩ := info_get info_pl
  have HFE : Hid ((fun i => decide (0 < cnt l i) == false) = (fun i => had l i == false)) := Lib.hid (funext fun i => by rw [cnt_had])
  clear hl
  go_enter Try.func32, Try.ntmps32
  go_wp2_with fail
  refine HOF.out.mono ?_
  rintro e w3 ⟨cs, rfl, HCC, hb3⟩
  have HB3 := Lib.hid hb3.out
  obtain ⟨g, HG⟩ : ∃ g, Hid (w3.heap.size = g) := ⟨_, Lib.hid rfl⟩
  have HSZ : Hid ((Try.prog.info? TPl).map (·.size) = some cs.size) := Lib.hid (by rw [hip, HCC.out.1]; simp [hsp])
  have HOL : Hid ((Array.replicate 64 (Value.int .i64 0)).size = cs.size) := Lib.hid (by rw [HCC.out.1]; simp)
  obtain ⟨W4, HW4⟩ : ∃ W, Hid (W = w3.alloc (.cells (Array.replicate 64 (.int .i64 0)) TPl)) := ⟨_, Lib.hid rfl⟩
  have HOZ : Hid (Obj1 W4 g TPl (Array.replicate 64 (.int .i64 0))) := Lib.hid (by rw [HW4.out, ← HG.out]; exact Obj1.new _ _ _)
  have HB4 : Hid (Below w.heap.size w W4) := Lib.hid (by rw [HW4.out]; exact HB3.out.alloc HB3.out.size _)
  have HOZ3 : Hid (Obj1 (w3.alloc (.cells (Array.replicate 64 (.int .i64 0)) TPl)) w3.heap.size TPl (Array.replicate 64 (.int .i64 0))) := Lib.hid (Obj1.new _ _ _)
  clear hb3 HOF
  go_upto_region 2 with (first | (refine wpList_allocZ rfl TPl rfl hip hzp ?_) | (refine wpList_store_row rfl TPl _ _ rfl w3.heap.size cs rfl rfl TPl _ HOZ3.out HSZ.out HOL.out HCC.out.one ?_))
  have HW5 := Lib.hid (wrote_setRow HOZ.out cs)
  change Code.wp _ _ _ _ ((w3.alloc (.cells (Array.replicate 64 (.int .i64 0)) TPl)).setRow w3.heap.size cs)
  rw [← HW4.out, HG.out]
  generalize W4.setRow g cs = W5 at HW5 ⊢
  have HB5 : Hid (Below w.heap.size w W5) := Lib.hid (HB4.out.trans (HW5.out.2.below (by rw [← HG.out]; exact HB3.out.size) HB4.out.size))
  have HPL : Hid (PlAt W5 g (cnt l)) := Lib.hid ⟨cs, HW5.out.1, HCC.out⟩
  clear HW5 HW4 HOZ HOZ3 HB4 HG HB3 HSZ HOL
  have HPA := Lib.hid (parts_any g (cnt l) false W5 HPL.out)
  rw [HFE.out] at HPA
  obtain ⟨P, HPP⟩ : ∃ P, Hid (prN (fun i => had l i == false) 64 = P) := ⟨_, Lib.hid rfl⟩
  rw [HPP.out] at HPA
  go_wp2_with fail
  refine HPA.out.mono ?_
  rintro e w6 ⟨B, d, rfl, HS6, hb6⟩
  have HB6 := Lib.hid (HB5.out.trans (hb6.out.mono HB5.out.size))
  clear hb6 HPA
  go_wp2
  go_ret
  exact ⟨_, _, by rw [HPP.out]; rfl, Lib.hid (by rw [HPP.out]; exact HS6.out), HB6⟩

set_option maxRecDepth 100000 in
set_option maxHeartbeats 1000000 in
theorem join_any (A : Option Addr) (n c : Nat) (l : List Pt) (w : World) (hl : PtsAt w A n l) (hn : n ≤ 1000) :
    Calls Try.prog 30 #[.slice A n c] w fun e w' => ∃ B d, e = .returned (.slice B (prN (fun i => had l i == true) 64).length d) ∧ Hid (PtsAt w' B (prN (fun i => had l i == true) 64).length (prN (fun i => had l i == true) 64)) ∧ Hid (Below w.heap.size w w') := by
  have HOF := Lib.hid (of_any A n c l w hl hn)
  obtain ⟨ip, hip, hzp, hsp⟩ := info_get info_pl
  have HFE : Hid ((fun i => decide (0 < cnt l i) == true) = (fun i => had l i == true)) := Lib.hid (funext fun i => by rw [cnt_had])
  clear hl
  go_enter Try.func30, Try.ntmps30
  go_wp2_with fail
  refine HOF.out.mono ?_
  rintro e w3 ⟨cs, rfl, HCC, hb3⟩
  have HB3 := Lib.hid hb3.out
  obtain ⟨g, HG⟩ : ∃ g, Hid (w3.heap.size = g) := ⟨_, Lib.hid rfl⟩
  have HSZ : Hid ((Try.prog.info? TPl).map (·.size) = some cs.size) := Lib.hid (by rw [hip, HCC.out.1]; simp [hsp])
  have HOL : Hid ((Array.replicate 64 (Value.int .i64 0)).size = cs.size) := Lib.hid (by rw [HCC.out.1]; simp)
  obtain ⟨W4, HW4⟩ : ∃ W, Hid (W = w3.alloc (.cells (Array.replicate 64 (.int .i64 0)) TPl)) := ⟨_, Lib.hid rfl⟩
  have HOZ : Hid (Obj1 W4 g TPl (Array.replicate 64 (.int .i64 0))) := Lib.hid (by rw [HW4.out, ← HG.out]; exact Obj1.new _ _ _)
  have HB4 : Hid (Below w.heap.size w W4) := Lib.hid (by rw [HW4.out]; exact HB3.out.alloc HB3.out.size _)
  have HOZ3 : Hid (Obj1 (w3.alloc (.cells (Array.replicate 64 (.int .i64 0)) TPl)) w3.heap.size TPl (Array.replicate 64 (.int .i64 0))) := Lib.hid (Obj1.new _ _ _)
  clear hb3 HOF
  go_upto_region 2 with (first | (refine wpList_allocZ rfl TPl rfl hip hzp ?_) | (refine wpList_store_row rfl TPl _ _ rfl w3.heap.size cs rfl rfl TPl _ HOZ3.out HSZ.out HOL.out HCC.out.one ?_))
  have HW5 := Lib.hid (wrote_setRow HOZ.out cs)
  change Code.wp _ _ _ _ ((w3.alloc (.cells (Array.replicate 64 (.int .i64 0)) TPl)).setRow w3.heap.size cs)
  rw [← HW4.out, HG.out]
  generalize W4.setRow g cs = W5 at HW5 ⊢
  have HB5 : Hid (Below w.heap.size w W5) := Lib.hid (HB4.out.trans (HW5.out.2.below (by rw [← HG.out]; exact HB3.out.size) HB4.out.size))
  have HPL : Hid (PlAt W5 g (cnt l)) := Lib.hid ⟨cs, HW5.out.1, HCC.out⟩
  clear HW5 HW4 HOZ HOZ3 HB4 HG HB3 HSZ HOL
  have HPA := Lib.hid (parts_any g (cnt l) true W5 HPL.out)
  rw [HFE.out] at HPA
  obtain ⟨P, HPP⟩ : ∃ P, Hid (prN (fun i => had l i == true) 64 = P) := ⟨_, Lib.hid rfl⟩
  rw [HPP.out] at HPA
  go_wp2_with fail
  refine HPA.out.mono ?_
  rintro e w6 ⟨B, d, rfl, HS6, hb6⟩
  have HB6 := Lib.hid (HB5.out.trans (hb6.out.mono HB5.out.size))
  clear hb6 HPA
  go_wp2
  go_ret
  exact ⟨_, _, by rw [HPP.out]; rfl, Lib.hid (by rw [HPP.out]; exact HS6.out), HB6⟩
end Go.Proofs.Ytejhjpdcodloaaa.Ly42
