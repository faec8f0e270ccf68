/- The contract of package cmd's Read, where no command that may be stands, at any place; no condition. -/
import Derived.Test.YthnopcoahcdjjaaCmdG
namespace Go.Proofs.Ythnopcoahcdjjaa.Ly9
open Go.ChangeShapes Go.WideShapes Go.ChangeAt Go.RowKit Base
set_option linter.unusedVariables false
set_option linter.unusedSimpArgs false

set_option maxRecDepth 100000 in
set_option maxHeartbeats 4000000 in
theorem read_op_at (o : Int) (bs : List Int) (B : Option Addr) (n cp at' : Nat) (w : World) (h8 : 8 < o) (h255 : o ≤ 255) (hl : Lst w B n (bs.map (Value.int .u8))) (hn : n ≤ 1000000) (hn1 : at' < n) (h0 : bs[at']? = some o) :
    Calls Try.prog 23 #[.slice B n cp, .int .i64 at'] w fun e w' => e = .returned (.tuple #[cv 0 0 0 0 0 0 0, .int .i64 0, .int .i64 11]) ∧ Hid (Below w.heap.size w w') := by
  obtain ⟨sb, so, rfl, hsb, hsc⟩ := hl.2 (by omega)
  have HB := Lib.hid (show Below w.heap.size w (w.alloc (.cells (c7 0 0 0 0 0 0 0) TC)) from (Below.refl _ _).alloc (Nat.le_refl _) _)
  have b0 : (w.alloc (.cells (c7 0 0 0 0 0 0 0) TC)).cell? ⟨sb, so + at', none⟩ = some (.int .u8 o) := (HB.out.cell (p := ⟨sb, so + at', none⟩) hsb).trans ((hsc at' (by omega)).trans (by rw [List.getElem?_map, h0]; rfl))
  have HO := Lib.hid (Obj1.new w TC (c7 0 0 0 0 0 0 0))
  obtain ⟨g4, HG4⟩ : ∃ g4, Hid (w.heap.size = g4) := ⟨_, Lib.hid rfl⟩
  rw [HG4.out] at HO
  clear hsc hl
  go_enter Try.func23, Try.ntmps23
  go_wp2_with fail
  rw [HG4.out]
  generalize w.alloc (.cells #[.int .i64 0, .int .i64 0, .int .i64 0, .int .i64 0, .int .i64 0, .int .i64 0, .int .i64 0] TC) = W at HO HB b0 ⊢
  refine (is_no o W (by omega)).mono ?_
  rintro e w' ⟨rfl, rfl⟩
  obtain ⟨z0, z1, z2, z3, z4, z5, z6⟩ := cells7 HO.out
  obtain ⟨f0, f1, f2, f3, f4, f5, f6⟩ := frees7 HO.out
  go_wp2
  refine bodyPost_ret (v := .tuple #[cv 0 0 0 0 0 0 0, .int .i64 0, .int .i64 11]) (by simp [results, Try.results23, go_sem, z0, z1, z2, z3, z4, z5, z6]) rfl ⟨rfl, Lib.hid ?_⟩
  exact set7' HB.out (by have := HG4.out; omega) _ _ _ _ _ _ _
theorem cnt_len' (o : Int) : (nums o 0 0 0 0 0 0).length = cnt o := nums_len o 0 0 0 0 0 0
set_option maxRecDepth 100000 in
set_option maxHeartbeats 4000000 in
theorem read_short_at (o : Int) (bs : List Int) (B : Option Addr) (n cp at' : Nat) (w : World) (o0 : 0 ≤ o) (o1 : o ≤ 8) (hl : Lst w B n (bs.map (Value.int .u8))) (hn : n ≤ 1000000) (hn1 : at' < n) (h0 : bs[at']? = some o) (hs : n < at' + (cnt o + 1)) :
    Calls Try.prog 23 #[.slice B n cp, .int .i64 at'] w fun e w' => e = .returned (.tuple #[cv 0 0 0 0 0 0 0, .int .i64 0, .int .i64 10]) ∧ Hid (Below w.heap.size w w') := by
  obtain ⟨sb, so, rfl, hsb, hsc⟩ := hl.2 (by omega)
  have HB := Lib.hid (show Below w.heap.size w (w.alloc (.cells (c7 0 0 0 0 0 0 0) TC)) from (Below.refl _ _).alloc (Nat.le_refl _) _)
  have b0 : (w.alloc (.cells (c7 0 0 0 0 0 0 0) TC)).cell? ⟨sb, so + at', none⟩ = some (.int .u8 o) := (HB.out.cell (p := ⟨sb, so + at', none⟩) hsb).trans ((hsc at' (by omega)).trans (by rw [List.getElem?_map, h0]; rfl))
  have HO := Lib.hid (Obj1.new w TC (c7 0 0 0 0 0 0 0))
  obtain ⟨g4, HG4⟩ : ∃ g4, Hid (w.heap.size = g4) := ⟨_, Lib.hid rfl⟩
  rw [HG4.out] at HO
  obtain ⟨k, HK⟩ : ∃ k, Hid (cnt o = k) := ⟨_, Lib.hid rfl⟩
  rw [HK.out] at hs
  have hk4 : k ≤ 4 := by
    rw [← HK.out]
    unfold cnt
    repeat (first | (split; omega) | omega)
  clear hsc hl
  go_enter Try.func23, Try.ntmps23
  go_wp2_with fail
  rw [HG4.out]
  generalize w.alloc (.cells #[.int .i64 0, .int .i64 0, .int .i64 0, .int .i64 0, .int .i64 0, .int .i64 0, .int .i64 0] TC) = W at HO HB b0 ⊢
  refine (is_yes o W o0 (by omega)).mono ?_
  rintro e w' ⟨rfl, rfl⟩
  go_wp2_with fail
  refine (numbers_any o 0 0 0 0 0 0 W (fun _ => by omega)).mono ?_
  rw [cnt_len', HK.out]
  rintro e w3 ⟨A, rfl, HNR, HB3⟩
  obtain ⟨z0, z1, z2, z3, z4, z5, z6⟩ := cells7 (HO.out.kept HB3.out)
  obtain ⟨f0, f1, f2, f3, f4, f5, f6⟩ := frees7 (HO.out.kept HB3.out)
  have HB4 := Lib.hid (HB.out.trans (HB3.out.mono HB.out.size))
  have hlt : (n : Int) - (at' : Int) - 1 < (k : Int) := by omega
  have h9 : n - at' ≤ 1000000 := by omega
  clear b0
  go_wp2
  refine bodyPost_ret (v := .tuple #[cv 0 0 0 0 0 0 0, .int .i64 0, .int .i64 10]) (by simp [results, Try.results23, go_sem, z0, z1, z2, z3, z4, z5, z6]) rfl ⟨rfl, Lib.hid ?_⟩
  exact set7' HB4.out (by have := HG4.out; omega) _ _ _ _ _ _ _
set_option maxRecDepth 100000 in
set_option maxHeartbeats 8000000 in
theorem read_wrong_at (o x1 x2 x3 x4 x5 x6 : Int) (ns bs : List Int) (B : Option Addr) (n cp at' : Nat) (w : World) (o0 : 0 ≤ o) (o1 : o ≤ 8) (hlen : ns.length = cnt o) (hnb : ∀ x ∈ ns, 0 ≤ x ∧ x ≤ 255) (hw : wth o ns = cv o x1 x2 x3 x4 x5 x6) (hx : ¬ RP o x1 x2 x3 x4 x5 x6)
    (hsx : -9223372036854775808 ≤ x2 ∧ x2 ≤ 9223372036854775807) (hl : Lst w B n (bs.map (Value.int .u8))) (hn : n ≤ 1000000) (hfit : at' + (ns.length + 1) ≤ n) (HP0 : bs[at']? = some o) (HPK' : ∀ k (hk : k < ns.length), bs[at' + (k + 1)]? = some (ns[k]'hk)) :
    Calls Try.prog 23 #[.slice B n cp, .int .i64 at'] w fun e w' => e = .returned (.tuple #[cv 0 0 0 0 0 0 0, .int .i64 0, .int .i64 11]) ∧ Hid (Below w.heap.size w w') := by
  have HNZ : nums o 0 0 0 0 0 0 = List.replicate ns.length 0 := by
    have := nums_zero o 0 0 0 0 0 0
    rw [nums_len, ← hlen] at this
    exact this
  have HCN := Lib.hid hlen
  have HJ : (o = 6 ∨ o = 8) → ∀ x ∈ ns, 0 ≤ x ∧ x ≤ 255 := fun _ => hnb
  have hnl4 : ns.length ≤ 4 := by
    rw [HCN.out]
    unfold cnt
    repeat (first | (split; omega) | omega)
  have HNB := Lib.hid hnb
  clear hnb hlen
  obtain ⟨sb, so, rfl, hsb, hsc⟩ := hl.2 (by omega)
  have HSC : Hid (∀ k (v : Int), bs[k]? = some v → k < n → w.cell? ⟨sb, so + k, none⟩ = some (.int .u8 v)) := fun k v h hk => by rw [hsc k hk, List.getElem?_map, h]; rfl
  have HSB := Lib.hid hsb
  have h9 : n - at' ≤ 1000000 := by omega
  have HJJ := Lib.hid HJ
  have HPP := Lib.hid HPK'
  have HW := Lib.hid hw
  have HXX := Lib.hid hx
  have HZ := Lib.hid HNZ
  have HO := Lib.hid (Obj1.new w TC (c7 0 0 0 0 0 0 0))
  have HB := Lib.hid (show Below w.heap.size w (w.alloc (.cells (c7 0 0 0 0 0 0 0) TC)) from (Below.refl _ _).alloc (Nat.le_refl _) _)
  have b0 : (w.alloc (.cells (c7 0 0 0 0 0 0 0) TC)).cell? ⟨sb, so + at', none⟩ = some (.int .u8 o) := (HB.out.cell (p := ⟨sb, so + at', none⟩) hsb).trans (HSC.out at' o HP0 (by omega))
  obtain ⟨g4, HG4⟩ : ∃ g4, Hid (w.heap.size = g4) := ⟨_, Lib.hid rfl⟩
  rw [HG4.out] at HO
  clear hsc hl HPK' HP0 hw hx HNZ hsb HJ
  go_enter Try.func23, Try.ntmps23
  go_wp2_with fail
  rw [HG4.out]
  generalize w.alloc (.cells #[.int .i64 0, .int .i64 0, .int .i64 0, .int .i64 0, .int .i64 0, .int .i64 0, .int .i64 0] TC) = W at HO HB b0 ⊢
  refine (is_yes o W o0 (by omega)).mono ?_
  rintro e w' ⟨rfl, rfl⟩
  go_wp2_with fail
  refine (numbers_any o 0 0 0 0 0 0 W (fun _ => by omega)).mono ?_
  rw [HZ.out, List.length_replicate]
  rintro e w3 ⟨A, rfl, HNR, HB3⟩
  have HB4 := Lib.hid (HB.out.trans (HB3.out.mono HB.out.size))
  have HO3 := Lib.hid (HO.out.kept HB3.out)
  have HGA : Hid (∀ g, A = some ⟨g, 0, none⟩ → w.heap.size < g ∧ g4 < g) := by
    intro g hg
    have hne : List.replicate ns.length (0 : Int) ≠ [] := by
      intro h
      have := HNR.out.1 h
      rw [hg] at this
      cases this
    obtain ⟨g', e, hge, hob⟩ := HNR.out.2 hne
    rw [e] at hg
    cases hg
    have := HO.out.lt
    have := HG4.out
    exact ⟨by omega, by omega⟩
  have hst : Hid (ReadRel w w3 A ns (.int .i64 0) w3) := by
    refine Lib.hid ⟨0, by omega, rfl, Below.refl _ _, fun g hg => ⟨?_, Wrote.refl _ _⟩, fun _ => rfl⟩
    have hne : List.replicate ns.length (0 : Int) ≠ [] := by
      intro h
      have := HNR.out.1 h
      rw [hg] at this
      cases this
    obtain ⟨g', e, hge, hob⟩ := HNR.out.2 hne
    rw [e] at hg
    cases hg
    simpa [mix] using hob
  clear b0
  go_wp2_with fail
  go_loopw [48] (fun i wr => ReadRel w w3 A ns i wr) (fun i _ => ns.length - (intOf i).toNat)
  case atStart => exact hst.out
  case round =>
    obtain ⟨j, hj, rfl, _, hnum, hnil⟩ := hrel
    by_cases hlt : j < ns.length
    · have hne : List.replicate ns.length (0 : Int) ≠ [] := by
        intro h
        have : (List.replicate ns.length (0 : Int)).length = 0 := by rw [h]; rfl
        rw [List.length_replicate] at this
        omega
      obtain ⟨g, hge, _, _⟩ := HNR.out.2 hne
      obtain ⟨hob, hwr⟩ := hnum g hge
      obtain ⟨x, HX⟩ : ∃ x, Hid (ns[j]'hlt = x) := ⟨_, Lib.hid rfl⟩
      obtain ⟨x0, x1'⟩ := HNB.out x (by rw [← HX.out]; exact List.getElem_mem hlt)
      obtain ⟨q, HQ⟩ : ∃ q : Nat, Hid (at' + (j + 1) = q) := ⟨_, Lib.hid rfl⟩
      have hqi : (at' : Int) + 1 + (j : Int) = (q : Int) := by have := HQ.out; omega
      have hqn : q < n := by have := HQ.out; omega
      have hgw := (HGA.out g hge).1
      have hcb : wr.cell? ⟨sb, so + q, none⟩ = some (.int .u8 x) := by
        rw [hwr.cell (Nat.lt_of_lt_of_le HSB.out HB4.out.size) (by have := HSB.out; omega), HB4.out.cell (p := ⟨sb, so + q, none⟩) HSB.out]
        exact HSC.out q x (by rw [← HQ.out, HPP.out j hlt, HX.out]) hqn
      have hcg : ∃ v, wr.cell? ⟨g, j, none⟩ = some v := ⟨_, (hob.cell j).trans (by rw [Array.getElem?_eq_getElem (by simp [mix]; omega)])⟩
      obtain ⟨v0, hcg⟩ := hcg
      have hfg := hob.free j
      have HOB := Lib.hid hob
      have HWR := Lib.hid hwr
      subst hge
      clear hob hwr hnum hnil hst hne
      go_wp2
      go_roundw
      case rel =>
        refine ⟨j + 1, by omega, by go_num, Below.refl _ _, fun g' hg' => ?_, fun h => by cases h⟩
        cases hg'
        refine ⟨?_, HWR.out.set (p := ⟨g, j, none⟩) (.inl rfl) _⟩
        rw [← mix_set ns j hlt, HX.out]
        exact HOB.out.set j _
      case measure => simp [intOf]; omega
    · obtain rfl : j = ns.length := by omega
      have HLN : Hid (Lst wr A ns.length (ns.map (Value.int .i64))) := by
        refine Lib.hid ⟨by simp, fun hn0 => ?_⟩
        have hne : List.replicate ns.length (0 : Int) ≠ [] := by
          intro h
          have : (List.replicate ns.length (0 : Int)).length = 0 := by rw [h]; rfl
          rw [List.length_replicate] at this
          omega
        obtain ⟨g, hge, _, _⟩ := HNR.out.2 hne
        obtain ⟨hob, _⟩ := hnum g hge
        refine ⟨g, 0, hge, hob.lt, fun k hk => ?_⟩
        rw [Nat.zero_add, hob.cell, List.getElem?_toArray]
        simp [mix]
      have HWB : Hid (Below w.heap.size w wr ∧ Obj1 wr g4 TC (c7 0 0 0 0 0 0 0)) := by
        by_cases hA : A = none
        · rw [hnil hA]
          exact Lib.hid ⟨HB4.out, HO3.out⟩
        · have hne : List.replicate ns.length (0 : Int) ≠ [] := fun h => hA (HNR.out.1 h)
          obtain ⟨g, hge, _, _⟩ := HNR.out.2 hne
          obtain ⟨_, hwr⟩ := hnum g hge
          have := HGA.out g hge
          exact Lib.hid ⟨HB4.out.trans (hwr.below (by omega) HB4.out.size), HO3.out.touch hwr (by omega)⟩
      clear hnum hnil hst
      go_wp2_with fail
      refine (with_any o ns A ns.length wr HLN.out HCN.out HJJ.out).mono ?_
      rw [HW.out]
      rintro e w5 ⟨rfl, hb5⟩
      have HB5 := Lib.hid (HWB.out.1.trans (hb5.mono HWB.out.1.size))
      have HO5 := Lib.hid (HWB.out.2.kept hb5)
      have HB6 := Lib.hid (HB5.out.alloc HB5.out.size (.cells (c7 o x1 x2 x3 x4 x5 x6) TC))
      have HO6 := Lib.hid (HO5.out.alloc (.cells (c7 o x1 x2 x3 x4 x5 x6) TC))
      have HN6 := Lib.hid (Obj1.new w5 TC (c7 o x1 x2 x3 x4 x5 x6))
      obtain ⟨g6, HG6⟩ : ∃ g6, Hid (w5.heap.size = g6) := ⟨_, Lib.hid rfl⟩
      rw [HG6.out] at HN6
      clear hb5
      go_wp2_with fail
      rw [HG6.out]
      generalize w5.alloc (.cells #[.int .i64 o, .int .i64 x1, .int .i64 x2, .int .i64 x3, .int .i64 x4, .int .i64 x5, .int .i64 x6] TC) = w6 at HB6 HO6 HN6 ⊢
      refine (right_no o x1 x2 x3 x4 x5 x6 w6 HXX.out hsx).mono ?_
      rintro e w7 ⟨rfl, hb7⟩
      obtain ⟨d0, d1, d2, d3, d4, d5, d6⟩ := cells7 (HN6.out.kept hb7)
      obtain ⟨z0, z1, z2, z3, z4, z5, z6⟩ := cells7 (HO6.out.kept hb7)
      obtain ⟨f0, f1, f2, f3, f4, f5, f6⟩ := frees7 (HO6.out.kept hb7)
      have HB7 := Lib.hid (HB6.out.trans (hb7.mono HB6.out.size))
      clear hb7
      go_wp2
      refine bodyPost_ret (v := .tuple #[cv 0 0 0 0 0 0 0, .int .i64 0, .int .i64 11]) (by simp [results, Try.results23, go_sem, z0, z1, z2, z3, z4, z5, z6]) rfl ⟨rfl, Lib.hid ?_⟩
      exact set7' HB7.out (by have := HG4.out; omega) _ _ _ _ _ _ _
end Go.Proofs.Ythnopcoahcdjjaa.Ly9
