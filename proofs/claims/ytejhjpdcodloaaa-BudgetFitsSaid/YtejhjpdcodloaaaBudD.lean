/- The contracts of package budget's Check, slices' Clone of slips, Clone; no condition but sizes. -/
import Derived.Test.YtejhjpdcodloaaaBudC
namespace Go.Proofs.Ytejhjpdcodloaaa.Ly21
open Go.ChangeShapes Go.WideShapes Go.ChangeAt Go.RowKit Base Go.Maps Ly20
set_option linter.unusedVariables false
set_option linter.unusedSimpArgs false

abbrev TC : TypeId := 27
set_option maxRecDepth 100000 in
set_option maxHeartbeats 2000000 in
theorem check_any (kd fm : Int) (fy : Bool) (ln fr : Int) (A : Option Addr) (n c : Nat) (B : Option Addr) (m d : Nat) (ls : List Slp) (md : Int) (w : World) (hW : SlsAt w B m ls) (hm : m ≤ 900) (hn : n ≤ 9223372036854775807) (hmd : md ≤ 9223372036854775807) :
    Calls Try.prog 14 #[.agg #[.int .i64 kd, .int .i64 fm, .bool fy, .int .i64 ln, .int .i64 fr, .slice A n c, .slice B m d], .int .i64 md] w fun e w' => e = .returned (.int .i64 (if rightF kd fm ln fr n md ≠ 0 then rightF kd fm ln fr n md else chkA md [] ls)) ∧ Below w.heap.size w w' := by
  have HW := Lib.hid hW
  obtain ⟨gb, HGB⟩ : ∃ gb, Hid (w.heap.size = gb) := ⟨_, Lib.hid rfl⟩
  obtain ⟨W1, HW1⟩ : ∃ W1, W1 = w.alloc (.cells #[.int .i64 kd, .int .i64 fm, .bool fy, .int .i64 ln, .int .i64 fr, .slice A n c, .slice B m d] TC) := ⟨_, rfl⟩
  have HB1 : Hid (Below w.heap.size w W1) := Lib.hid (by rw [HW1]; exact bel1 _ _)
  have HO1 : Hid (Obj1 W1 gb TC #[.int .i64 kd, .int .i64 fm, .bool fy, .int .i64 ln, .int .i64 fr, .slice A n c, .slice B m d]) := Lib.hid (by rw [HW1, ← HGB.out]; exact Obj1.new _ _ _)
  have HRT := Lib.hid (right_any kd fm fy ln fr A n c md W1 hn)
  obtain ⟨r, HR⟩ : ∃ r, Hid (rightF kd fm ln fr n md = r) := ⟨_, Lib.hid rfl⟩
  rw [HR.out] at HRT ⊢
  obtain ⟨E, HE⟩ : ∃ E, Hid ((if r ≠ 0 then r else chkA md [] ls) = E) := ⟨_, Lib.hid rfl⟩
  rw [HE.out]
  have d0 := HO1.out.cell 0
  have d1 := HO1.out.cell 1
  have d2 := HO1.out.cell 2
  have d3 := HO1.out.cell 3
  have d4 := HO1.out.cell 4
  have d5 := HO1.out.cell 5
  simp at d0 d1 d2 d3 d4 d5
  have hmm := @run_makeMap Try.prog
  clear hW
  go_enter Try.func14, Try.ntmps14
  go_upto_region 1 with (fail)
  rw [← HW1, HGB.out]
  clear HW1
  go_wp2_with fail
  refine HRT.out.mono ?_
  rintro e w2 ⟨rfl, hb2⟩
  have HB2 := Lib.hid (HB1.out.trans (hb2.mono HB1.out.size))
  have HO2 := Lib.hid (HO1.out.kept hb2)
  clear d0 d1 d2 d3 d4 d5 hb2 HRT
  by_cases hr : r = 0
  · subst hr
    have d6 := HO2.out.cell 6
    simp at d6
    have HE0 : Hid (chkA md [] ls = E) := Lib.hid (by rw [← HE.out, if_neg (by simp)])
    go_upto_region 5 with (fail)
    obtain ⟨g, HGM⟩ : ∃ g, Hid (w2.heap.size = g) := ⟨_, Lib.hid rfl⟩
    obtain ⟨W3, HW3⟩ : ∃ W3, W3 = w2.alloc (.map #[] 0) := ⟨_, rfl⟩
    have HB23 : Hid (Below w2.heap.size w2 W3) := Lib.hid (by rw [HW3]; exact bel1 _ _)
    have HM3 : Hid (MapN W3 g 0 []) := Lib.hid (by rw [HW3, ← HGM.out]; exact MapN.made _)
    have HB3 := Lib.hid (HB2.out.trans (HB23.out.mono HB2.out.size))
    have HGG : Hid (w.heap.size ≤ g) := Lib.hid (by rw [← HGM.out]; exact HB2.out.size)
    have HO3 := Lib.hid (HO2.out.kept HB23.out)
    rw [← HW3, HGM.out]
    clear HW3 hmm d6 HB23
    have d6 := HO3.out.cell 6
    simp at d6
    go_upto_block 2 with (fail)
    clear d6
    go_wp2_with fail
    go_loopw [20] (fun i wx => ∃ k : Nat, k ≤ m ∧ i = .int .i64 k ∧ Hid (chkA md (ls.take k) (ls.drop k) = E) ∧ Hid (Good md (ls.take k)) ∧ Hid (MapN wx g k (ls.take k)) ∧ Below w.heap.size w wx) (fun i _ => m - (intOf i).toNat)
    case atStart => exact ⟨0, by omega, rfl, Lib.hid (by simpa using HE0.out), Lib.hid (Good.nil md), Lib.hid HM3.out, HB3.out⟩
    case round =>
      clear HM3 HB3 HO3 HO2 HB2
      obtain ⟨k, hk, rfl, HC, HG, HM, hbel⟩ := hrel
      have HBEL := Lib.hid hbel
      by_cases hlt : k < m
      · have hki : (k : Int) < (m : Int) := by omega
        have hkl : k < ls.length := by rw [HW.out.len]; exact hlt
        obtain ⟨x, hx⟩ : ∃ x, ls[k]? = some x := ⟨_, List.getElem?_eq_getElem hkl⟩
        have HX := Lib.hid hx
        have HC' : Hid ((if mayB x md = false then 2 else if nearL (ls.take k) x = true then 19 else chkA md (ls.take (k + 1)) (ls.drop (k + 1))) = E) := Lib.hid (by
          have := HC.out
          rw [drop_next hx] at this
          rw [take_next hx]
          exact this)
        obtain ⟨b, off, rfl, hb, k0, k1, k2, k3⟩ := (HW.out.kept hbel).four hlt hx
        clear hx hkl hb hbel HC
        go_upto_region 8 with (fail)
        obtain ⟨gx, HGX⟩ : ∃ gx, Hid (wr.heap.size = gx) := ⟨_, Lib.hid rfl⟩
        obtain ⟨W5, HW5⟩ : ∃ W5, W5 = wr.alloc (.cells #[.int .i64 x.m, .bool x.y, .int .i64 x.t, .int .i64 x.b] TBS) := ⟨_, rfl⟩
        have HOX : Hid (Obj1 W5 gx TBS #[.int .i64 x.m, .bool x.y, .int .i64 x.t, .int .i64 x.b]) := Lib.hid (by rw [HW5, ← HGX.out]; exact Obj1.new _ _ _)
        have HB5 : Hid (Below wr.heap.size wr W5) := Lib.hid (by rw [HW5]; exact bel1 _ _)
        have HBW5 := Lib.hid (HBEL.out.trans (HB5.out.mono HBEL.out.size))
        have HM5 := Lib.hid (HM.out.kept HB5.out)
        have HGX2 : Hid (g < gx) := Lib.hid (by rw [← HGX.out]; exact HM.out.lt)
        rw [← HW5, HGX.out]
        clear HW5 k0 k1 k2 k3 HB5 HM HBEL HGX
        have q0 := HOX.out.cell 0
        have q1 := HOX.out.cell 1
        have q2 := HOX.out.cell 2
        have q3 := HOX.out.cell 3
        simp at q0 q1 q2 q3
        have HMY := Lib.hid (fun W => may_any x md W)
        obtain ⟨q, HQ⟩ : ∃ q, Hid (mayB x md = q) := ⟨_, Lib.hid rfl⟩
        rw [HQ.out] at HMY
        go_wp2_with fail
        refine (HMY.out _).mono ?_
        rintro e w6 ⟨rfl, hb6⟩
        have HB6 := Lib.hid (HBW5.out.trans (hb6.mono HBW5.out.size))
        have HO6 := Lib.hid (HOX.out.kept hb6)
        have HM6 := Lib.hid (HM5.out.kept hb6)
        clear q0 q1 q2 q3 hb6 HMY HOX HM5 HBW5
        cases q with
        | false =>
          have HE2 : Hid (2 = E) := Lib.hid (by rw [← HC'.out, if_pos HQ.out])
          go_wp2
          go_ret
          exact ⟨by rw [← HE2.out]; rfl, HB6.out⟩
        | true =>
          have q0 := HO6.out.cell 0
          have q1 := HO6.out.cell 1
          have q2 := HO6.out.cell 2
          have q3 := HO6.out.cell 3
          simp at q0 q1 q2 q3
          have HNR := Lib.hid (near_any md g k (ls.take k) x w6 HM6.out HG.out HQ.out hmd)
          obtain ⟨p, HP⟩ : ∃ p, Hid (nearL (ls.take k) x = p) := ⟨_, Lib.hid rfl⟩
          rw [HP.out] at HNR
          go_wp2_with fail
          refine HNR.out.mono ?_
          rintro e w7 ⟨rfl, hb7⟩
          have HB7 := Lib.hid (HB6.out.trans (hb7.mono HB6.out.size))
          have HO7 := Lib.hid (HO6.out.kept hb7)
          have HM7 := Lib.hid (HM6.out.kept hb7)
          clear q0 q1 q2 q3 hb7 HNR HO6 HM6 HB6
          cases p with
          | true =>
            have HE2 : Hid (19 = E) := Lib.hid (by rw [← HC'.out, if_neg (by rw [HQ.out]; simp), if_pos HP.out])
            go_wp2
            go_ret
            exact ⟨by rw [← HE2.out]; rfl, HB7.out⟩
          | false =>
            have HC2 : Hid (chkA md (ls.take (k + 1)) (ls.drop (k + 1)) = E) := Lib.hid (by rw [← HC'.out, if_neg (by rw [HQ.out]; simp), if_neg (by rw [HP.out]; simp)])
            have HG2 := Lib.hid (good_take HG.out HX.out HQ.out HP.out)
            have q0 := HO7.out.cell 0
            have q1 := HO7.out.cell 1
            have q2 := HO7.out.cell 2
            have q3 := HO7.out.cell 3
            simp at q0 q1 q2 q3
            have HNT := Lib.hid (note_any md g k (ls.take k) x w7 HM7.out HQ.out hmd (by omega))
            go_wp2_with fail
            refine HNT.out.mono ?_
            rintro e w8 ⟨rfl, HM8, HW8⟩
            have HB8 := Lib.hid (HB7.out.trans (HW8.out.below HGG.out HB7.out.size))
            have HM9 : Hid (MapN w8 g (k + 1) (ls.take (k + 1))) := Lib.hid (by rw [take_next HX.out]; exact HM8.out)
            clear q0 q1 q2 q3 HNT HM8 HW8 HB7 HO7 HM7
            go_wp2
            go_roundw
            case rel => exact ⟨k + 1, by omega, by go_num, HC2, HG2, HM9, HB8.out⟩
            case measure => simp [intOf]; omega
      · have hke : m = k := by omega
        subst hke
        have HE2 : Hid (0 = E) := Lib.hid (by rw [← HC.out, List.drop_of_length_le (by rw [HW.out.len]; exact Nat.le_refl _)]; rfl)
        clear hbel
        go_wp2
        go_ret
        exact ⟨by rw [← HE2.out]; rfl, HBEL.out⟩
  · have hrb : (r != 0) = true := by simpa using hr
    have hre : (r == 0) = false := by simpa using hr
    have HE2 : Hid (r = E) := Lib.hid (by rw [← HE.out, if_pos hr])
    clear hr
    go_wp2
    go_ret
    exact ⟨by rw [← HE2.out]; rfl, HB2.out⟩

/-! ### Clone -/

theorem nil_yes (d : Nat) (w : World) : (binOp .eql 25 (.slice none 0 d) (.slice none 0 0)).run Try.prog w = .ok (.bool true) w := by first | rfl | kernel_rfl | simp [binOp, go_sem, Try.underlying25]
theorem nil_no (ad : Addr) (m d : Nat) (w : World) : (binOp .eql 25 (.slice (some ad) m d) (.slice none 0 0)).run Try.prog w = .ok (.bool false) w := by first | rfl | kernel_rfl | simp [binOp, go_sem, Try.underlying25]

set_option maxRecDepth 100000 in
set_option maxHeartbeats 2000000 in
theorem sclone_any (B : Option Addr) (m d : Nat) (ls : List Slp) (w : World) (hW : SlsAt w B m ls) (hm : m ≤ 900) :
    Calls Try.prog 41 #[.slice B m d] w fun e w' => ∃ v, e = .returned v ∧ Hid (w'.ownsRow w.heap.size TBS 4 v m (slC ls)) ∧ Hid (Below w.heap.size w w') := by
  obtain ⟨i0, hi, hz0, hz1, hz2⟩ := info_parts info_bs
  have HW := Lib.hid hW
  clear hW
  cases B with
  | none =>
    have hm0 : m = 0 := by
      rcases Nat.eq_zero_or_pos m with h | h
      · exact h
      · obtain ⟨b, off, e, _⟩ := HW.out.at' h; cases e
    subst hm0
    have hl : ls = [] := List.eq_nil_of_length_eq_zero HW.out.len
    subst hl
    have hnil := fun W => nil_yes d W
    have HO : Hid (w.ownsRow w.heap.size TBS 4 (.slice none 0 0) 0 (slC [])) := Lib.hid ⟨rfl, .inl ⟨rfl, rfl⟩⟩
    go_enter Try.func41, Try.ntmps41
    go_wp2
    go_ret
    exact ⟨_, rfl, HO, Lib.hid (Below.refl _ _)⟩
  | some ad =>
    have HL : Hid ((slC ls).length = m * 4) := Lib.hid (by
      rw [← HW.out.len]
      clear HW hi hz0 hz1 hz2
      induction ls with
      | nil => rfl
      | cons x r ih => show (slL x ++ slC r).length = _; rw [List.length_append, ih]; simp [slL]; omega)
    have HN : Hid (∀ j u, (slC ls)[j]? = some u → w.cell? (ad.add j) = some u) := Lib.hid (fun j u hj => by
      have hjl : j < m * 4 := by rw [← HL.out]; exact (List.getElem?_eq_some_iff.1 hj).1
      obtain ⟨b, off, e, hb, hc⟩ := HW.out.at' (by omega)
      injection e with e
      subst e
      have hjd : j / 4 < ls.length := by rw [HW.out.len]; omega
      obtain ⟨x, hx⟩ : ∃ x, ls[j / 4]? = some x := ⟨_, List.getElem?_eq_getElem hjd⟩
      have h1 := hc (j / 4) x hx (j % 4) (by omega)
      have h2 := slC_at ls (j / 4) (j % 4) x hx (by omega)
      rw [show j / 4 * 4 + j % 4 = j by omega] at h2
      rw [add_eq, show off + j = off + j / 4 * 4 + j % 4 by omega, h1, ← h2]
      exact hj)
    have H1 : Hid (∀ u ∈ slC ls, u.oneCell' = true) := Lib.hid (fun u hu => by
      unfold slC at hu
      rw [List.mem_flatten] at hu
      obtain ⟨l, hl, hu⟩ := hu
      obtain ⟨x, _, rfl⟩ := List.mem_map.1 hl
      exact one_slL x u hu)
    have HE : Hid ((w.alloc (.cells #[] TBS)).ownsRow w.heap.size TBS 4 (.slice (some ⟨w.heap.size, 0, none⟩) 0 0) 0 []) := Lib.hid (by
      refine ⟨rfl, .inr ⟨w.heap.size, 0, #[], rfl, Nat.le_refl _, ?_, Nat.le_refl _, by unfold maxLen; decide, rfl, rfl⟩⟩
      show (w.heap.push _)[w.heap.size]? = _
      simp)
    have HBa := bel1 w (.cells #[] TBS)
    have HN2 : Hid (∀ j u, (slC ls)[j]? = some u → (w.alloc (.cells #[] TBS)).cell? (ad.add j) = some u) := Lib.hid (fun j u hj => by
      have h := HN.out j u hj
      rw [HBa.cell (World.block_lt_of_cell? w _ h)]
      exact h)
    have HBA := Lib.hid HBa
    have hnil := fun W => nil_no ad m d W
    clear HBa
    go_enter Try.func41, Try.ntmps41
    go_wp2_with (at_builtin; refine pushS _ rfl (.tmp 5) (.tmp 6) 25 rfl w.heap.size TBS i0 (.agg #[.int .i64 0, .bool false, .int .i64 0, .int .i64 0]) 4 32 Try.underlying25 hi hz0 hz1 hz2 rfl (by decide) _ _ _ rfl HE.out ad m d (slC ls) rfl HL.out HN2.out H1.out (by unfold maxLen; omega) (by omega) HBA.out.size ?_; intro v5 w5 O5 B5 G5 K5)
    have HO5 : Hid (w5.ownsRow w.heap.size TBS 4 v5 m (slC ls)) := Lib.hid (by have := O5.out; rw [List.nil_append, Nat.zero_add] at this; exact this)
    have HB5 : Hid (Below w.heap.size w w5) := Lib.hid (HBA.out.trans B5.out)
    clear O5 B5 G5 K5
    go_wp2
    go_ret
    exact ⟨_, rfl, HO5, HB5⟩
end Go.Proofs.Ytejhjpdcodloaaa.Ly21
