/- The contract of package cmd's Read, where a command that may be stands, and at the end; no condition. -/
import Derived.Test.YthnopcoahcdjjaaCmdF
import Derived.Test.YthnopcoahcdjjaaEvL
namespace Go.Proofs.Ythnopcoahcdjjaa.Ly9
open Go.ChangeShapes Go.WideShapes Go.ChangeAt Go.RowKit Base
set_option linter.unusedVariables false
set_option linter.unusedSimpArgs false

theorem clean_ex {o a s c m b t : Int} (h : RP o a s c m b t) : ∃ a' s' c' m' b' t', wth o (nums o a s c m b t) = cv o a' s' c' m' b' t' ∧ RP o a' s' c' m' b' t' := by
  have h0 := h
  unfold RP at h
  rcases h with ⟨rfl, h1, h2, h3, h4, h5, h6, h7, h8⟩ | ⟨rfl, h1, h2, h3, h4, h5, h6⟩ | ⟨rfl, h1, h2, h3, h4⟩ | ⟨rfl, h1, h2⟩ | ⟨rfl, h1, h2⟩ | ⟨rfl, h1, h2⟩ | rfl | rfl | rfl
  · exact ⟨a, s, c, m, 0, 0, rfl, .inl ⟨rfl, h1, h2, h3, h4, h5, h6, h7, h8⟩⟩
  · exact ⟨a, s, 0, m, 0, 0, rfl, .inr (.inl ⟨rfl, h1, h2, h3, h4, h5, h6⟩)⟩
  · exact ⟨0, s, 0, m, 0, 0, rfl, .inr (.inr (.inl ⟨rfl, h1, h2, h3, h4⟩))⟩
  · exact ⟨0, 0, 0, 0, b, 0, rfl, .inr (.inr (.inr (.inl ⟨rfl, h1, h2⟩)))⟩
  · exact ⟨0, 0, 0, 0, 0, t / 256 * 256 + t % 256, rfl, .inr (.inr (.inr (.inr (.inl ⟨rfl, by omega, by omega⟩))))⟩
  · exact ⟨0, 0, 0, 0, 0, t / 256 * 256 + t % 256, rfl, .inr (.inr (.inr (.inr (.inr (.inl ⟨rfl, by omega, by omega⟩)))))⟩
  · exact ⟨0, 0, 0, 0, 0, 0, rfl, .inr (.inr (.inr (.inr (.inr (.inr (.inl rfl))))))⟩
  · exact ⟨0, 0, 0, 0, 0, 0, rfl, .inr (.inr (.inr (.inr (.inr (.inr (.inr (.inl rfl)))))))⟩
  · exact ⟨0, 0, 0, 0, 0, 0, rfl, .inr (.inr (.inr (.inr (.inr (.inr (.inr (.inr rfl)))))))⟩
theorem op_bd {o a s c m b t : Int} (h : RP o a s c m b t) : 0 ≤ o ∧ o ≤ 8 := by
  unfold RP at h
  rcases h with ⟨h, _⟩ | ⟨h, _⟩ | ⟨h, _⟩ | ⟨h, _⟩ | ⟨h, _⟩ | ⟨h, _⟩ | h | h | h <;> omega
theorem small_bd {o a s c m b t : Int} (h : RP o a s c m b t) (hz : o = 1 ∨ o = 2 ∨ o = 3 ∨ s = 0) : -9223372036854775808 ≤ s ∧ s ≤ 9223372036854775807 := by
  unfold RP at h
  rcases h with ⟨h, _⟩ | ⟨h, _⟩ | ⟨h, _⟩ | ⟨h, _⟩ | ⟨h, _⟩ | ⟨h, _⟩ | h | h | h <;> omega
theorem clean_s {o a s c m b t a' s' c' m' b' t' : Int} (h : RP o a s c m b t) (hw : wth o (nums o a s c m b t) = cv o a' s' c' m' b' t') : -9223372036854775808 ≤ s' ∧ s' ≤ 9223372036854775807 := by
  unfold RP at h
  rcases h with ⟨rfl, h1, h2, h3, h4, h5, h6, h7, h8⟩ | ⟨rfl, h1, h2, h3, h4, h5, h6⟩ | ⟨rfl, h1, h2, h3, h4⟩ | ⟨rfl, h1, h2⟩ | ⟨rfl, h1, h2⟩ | ⟨rfl, h1, h2⟩ | rfl | rfl | rfl
  all_goals
    simp [wth, nums] at hw
    omega
def mix (ns : List Int) (j : Nat) : List Int := ns.take j ++ List.replicate (ns.length - j) 0
theorem mix_set (ns : List Int) (j : Nat) (hj : j < ns.length) : ((mix ns j).map (Value.int .i64)).toArray.setIfInBounds j (.int .i64 (ns[j]'hj)) = ((mix ns (j + 1)).map (Value.int .i64)).toArray := by
  apply Array.toList_inj.1
  simp only [Array.toList_setIfInBounds]
  apply List.ext_getElem?
  intro k
  rw [List.getElem?_set]
  unfold mix
  have l1 : (ns.take j).length = j := by simp; omega
  have l2 : (ns.take (j + 1)).length = j + 1 := by simp; omega
  by_cases e : j = k
  · subst e
    rw [if_pos rfl, if_pos (by simp; omega), List.getElem?_map, List.getElem?_append_left (by omega), List.getElem?_take_of_lt (by omega), List.getElem?_eq_getElem hj]
    rfl
  · rw [if_neg e, List.getElem?_map, List.getElem?_map]
    congr 1
    by_cases g : k < j
    · rw [List.getElem?_append_left (by omega), List.getElem?_append_left (by omega), List.getElem?_take_of_lt g, List.getElem?_take_of_lt (by omega)]
    · rw [List.getElem?_append_right (by omega), List.getElem?_append_right (by omega), l1, l2, List.getElem?_replicate, List.getElem?_replicate]
      by_cases q : k < ns.length
      · rw [if_pos (by omega), if_pos (by omega)]
      · rw [if_neg (by omega), if_neg (by omega)]
theorem nums_zero (o a s c m b t : Int) : nums o 0 0 0 0 0 0 = List.replicate (nums o a s c m b t).length 0 := by
  unfold nums
  split; rfl
  split; rfl
  split; rfl
  split; rfl
  split
  · rfl
  · rfl
def ReadRel (w w3 : World) (A : Option Addr) (ns : List Int) (i : Value) (wr : World) : Prop :=
  ∃ j : Nat, j ≤ ns.length ∧ i = .int .i64 j ∧ Below w3.heap.size w3 w3 ∧ (∀ g, A = some ⟨g, 0, none⟩ → Obj1 wr g 3 ((mix ns j).map (Value.int .i64)).toArray ∧ Wrote g w3 wr) ∧ (A = none → wr = w3)
set_option maxRecDepth 100000 in
set_option maxHeartbeats 8000000 in
theorem read_right (o a s c m b t x1 x2 x3 x4 x5 x6 : Int) (bs : List Int) (B : Option Addr) (n cp at' : Nat) (w : World) (hr : RP o a s c m b t) (hw : wth o (nums o a s c m b t) = cv o x1 x2 x3 x4 x5 x6) (hx : RP o x1 x2 x3 x4 x5 x6)
    (hl : Lst w B n (bs.map (Value.int .u8))) (hn : n ≤ 1000000) (hfit : at' + (putB o a s c m b t).length ≤ n) (hat : ∀ k (hk : k < (putB o a s c m b t).length), bs[at' + k]? = some ((putB o a s c m b t)[k]'hk)) :
    Calls Try.prog 23 #[.slice B n cp, .int .i64 at'] w fun e w' => e = .returned (.tuple #[cv o x1 x2 x3 x4 x5 x6, .int .i64 ((at' + (putB o a s c m b t).length : Nat) : Int), .int .i64 0]) ∧ Hid (Below w.heap.size w w') := by
  have HNZ := nums_zero o a s c m b t
  have HCN := Lib.hid (nums_len o a s c m b t)
  have HJ := nums_bd o a s c m b t hr.jump
  have hsx := clean_s hr hw
  obtain ⟨o0, o1⟩ := op_bd hr
  have hPL : (putB o a s c m b t).length = (nums o a s c m b t).length + 1 := rfl
  have HP0 : bs[at']? = some o := by simpa [putB] using hat 0 (by rw [hPL]; omega)
  have HPK : ∀ k (hk : k < (nums o a s c m b t).length), bs[at' + (k + 1)]? = some ((nums o a s c m b t)[k]'hk) := fun k hk => by simpa [putB] using hat (k + 1) (by rw [hPL]; omega)
  rw [hPL] at hfit ⊢
  have hnl4 : (nums o a s c m b t).length ≤ 4 := by
    rw [HCN.out]
    unfold cnt
    repeat (first | (split; omega) | omega)
  have HNB := Lib.hid (fun x hx => putB_bd hr x (List.mem_cons_of_mem _ hx))
  clear hat hPL
  obtain ⟨ns, HNS⟩ : ∃ ns, nums o a s c m b t = ns := ⟨_, rfl⟩
  rw [HNS] at hw HCN HJ hfit hnl4 HNB HNZ ⊢
  have HPK' : ∀ k (hk : k < ns.length), bs[at' + (k + 1)]? = some (ns[k]'hk) := by
    subst HNS
    exact HPK
  clear HPK HNS hr
  obtain ⟨sb, so, rfl, hsb, hsc⟩ := hl.2 (by omega)
  have HSC : Hid (∀ k (v : Int), bs[k]? = some v → k < n → w.cell? ⟨sb, so + k, none⟩ = some (.int .u8 v)) := fun k v h hk => by rw [hsc k hk, List.getElem?_map, h]; rfl
  have HSB := Lib.hid hsb
  have HJJ := Lib.hid HJ
  have HPP := Lib.hid HPK'
  have HW := Lib.hid hw
  have HXX := Lib.hid hx
  have HZ := Lib.hid HNZ
  have h9 : n - at' ≤ 1000000 := by omega
  have HO := Lib.hid (Obj1.new w TC (c7 0 0 0 0 0 0 0))
  have HB := Lib.hid (show Below w.heap.size w (w.alloc (.cells (c7 0 0 0 0 0 0 0) TC)) from (Below.refl _ _).alloc (Nat.le_refl _) _)
  have b0 : (w.alloc (.cells (c7 0 0 0 0 0 0 0) TC)).cell? ⟨sb, so + at', none⟩ = some (.int .u8 o) := (HB.out.cell (p := ⟨sb, so + at', none⟩) hsb).trans (HSC.out at' o HP0 (by omega))
  obtain ⟨g4, HG4⟩ : ∃ g4, Hid (w.heap.size = g4) := ⟨_, Lib.hid rfl⟩
  rw [HG4.out] at HO
  clear hsc hl HPK' HP0 hw hx HNZ hsb HJ
  go_enter Try.func23, Try.ntmps23
  go_wp2_with fail
  rw [HG4.out]
  generalize w.alloc (.cells #[.int .i64 0, .int .i64 0, .int .i64 0, .int .i64 0, .int .i64 0, .int .i64 0, .int .i64 0] TC) = W at HO HB b0 ⊢
  refine (is_yes o W o0 (by omega)).mono ?_
  rintro e w' ⟨rfl, rfl⟩
  go_wp2_with fail
  refine (numbers_any o 0 0 0 0 0 0 W (fun _ => by omega)).mono ?_
  rw [HZ.out, List.length_replicate]
  rintro e w3 ⟨A, rfl, HNR, HB3⟩
  have HB4 := Lib.hid (HB.out.trans (HB3.out.mono HB.out.size))
  have HO3 := Lib.hid (HO.out.kept HB3.out)
  have HGA : Hid (∀ g, A = some ⟨g, 0, none⟩ → w.heap.size < g ∧ g4 < g) := by
    intro g hg
    have hne : List.replicate ns.length (0 : Int) ≠ [] := by
      intro h
      have := HNR.out.1 h
      rw [hg] at this
      cases this
    obtain ⟨g', e, hge, hob⟩ := HNR.out.2 hne
    rw [e] at hg
    cases hg
    have := HO.out.lt
    have := HG4.out
    exact ⟨by omega, by omega⟩
  have hst : Hid (ReadRel w w3 A ns (.int .i64 0) w3) := by
    refine Lib.hid ⟨0, by omega, rfl, Below.refl _ _, fun g hg => ⟨?_, Wrote.refl _ _⟩, fun _ => rfl⟩
    have hne : List.replicate ns.length (0 : Int) ≠ [] := by
      intro h
      have := HNR.out.1 h
      rw [hg] at this
      cases this
    obtain ⟨g', e, hge, hob⟩ := HNR.out.2 hne
    rw [e] at hg
    cases hg
    simpa [mix] using hob
  clear b0
  go_wp2_with fail
  go_loopw [48] (fun i wr => ReadRel w w3 A ns i wr) (fun i _ => ns.length - (intOf i).toNat)
  case atStart => exact hst.out
  case round =>
    obtain ⟨j, hj, rfl, _, hnum, hnil⟩ := hrel
    by_cases hlt : j < ns.length
    · have hne : List.replicate ns.length (0 : Int) ≠ [] := by
        intro h
        have : (List.replicate ns.length (0 : Int)).length = 0 := by rw [h]; rfl
        rw [List.length_replicate] at this
        omega
      obtain ⟨g, hge, _, _⟩ := HNR.out.2 hne
      obtain ⟨hob, hwr⟩ := hnum g hge
      obtain ⟨x, HX⟩ : ∃ x, Hid (ns[j]'hlt = x) := ⟨_, Lib.hid rfl⟩
      obtain ⟨x0, x1'⟩ := HNB.out x (by rw [← HX.out]; exact List.getElem_mem hlt)
      obtain ⟨q, HQ⟩ : ∃ q : Nat, Hid (at' + (j + 1) = q) := ⟨_, Lib.hid rfl⟩
      have hqi : (at' : Int) + 1 + (j : Int) = (q : Int) := by have := HQ.out; omega
      have hqn : q < n := by have := HQ.out; omega
      have hgw := (HGA.out g hge).1
      have hcb : wr.cell? ⟨sb, so + q, none⟩ = some (.int .u8 x) := by
        rw [hwr.cell (Nat.lt_of_lt_of_le HSB.out HB4.out.size) (by have := HSB.out; omega), HB4.out.cell (p := ⟨sb, so + q, none⟩) HSB.out]
        exact HSC.out q x (by rw [← HQ.out, HPP.out j hlt, HX.out]) hqn
      have hcg : ∃ v, wr.cell? ⟨g, j, none⟩ = some v := ⟨_, (hob.cell j).trans (by rw [Array.getElem?_eq_getElem (by simp [mix]; omega)])⟩
      obtain ⟨v0, hcg⟩ := hcg
      have hfg := hob.free j
      have HOB := Lib.hid hob
      have HWR := Lib.hid hwr
      subst hge
      clear hob hwr hnum hnil hst hne
      go_wp2
      go_roundw
      case rel =>
        refine ⟨j + 1, by omega, by go_num, Below.refl _ _, fun g' hg' => ?_, fun h => by cases h⟩
        cases hg'
        refine ⟨?_, HWR.out.set (p := ⟨g, j, none⟩) (.inl rfl) _⟩
        rw [← mix_set ns j hlt, HX.out]
        exact HOB.out.set j _
      case measure => simp [intOf]; omega
    · obtain rfl : j = ns.length := by omega
      have HLN : Hid (Lst wr A ns.length (ns.map (Value.int .i64))) := by
        refine Lib.hid ⟨by simp, fun hn0 => ?_⟩
        have hne : List.replicate ns.length (0 : Int) ≠ [] := by
          intro h
          have : (List.replicate ns.length (0 : Int)).length = 0 := by rw [h]; rfl
          rw [List.length_replicate] at this
          omega
        obtain ⟨g, hge, _, _⟩ := HNR.out.2 hne
        obtain ⟨hob, _⟩ := hnum g hge
        refine ⟨g, 0, hge, hob.lt, fun k hk => ?_⟩
        rw [Nat.zero_add, hob.cell, List.getElem?_toArray]
        simp [mix]
      have HWB : Hid (Below w.heap.size w wr ∧ Obj1 wr g4 TC (c7 0 0 0 0 0 0 0)) := by
        by_cases hA : A = none
        · rw [hnil hA]
          exact Lib.hid ⟨HB4.out, HO3.out⟩
        · have hne : List.replicate ns.length (0 : Int) ≠ [] := fun h => hA (HNR.out.1 h)
          obtain ⟨g, hge, _, _⟩ := HNR.out.2 hne
          obtain ⟨_, hwr⟩ := hnum g hge
          have := HGA.out g hge
          exact Lib.hid ⟨HB4.out.trans (hwr.below (by omega) HB4.out.size), HO3.out.touch hwr (by omega)⟩
      clear hnum hnil hst
      go_wp2_with fail
      refine (with_any o ns A ns.length wr HLN.out HCN.out HJJ.out).mono ?_
      rw [HW.out]
      rintro e w5 ⟨rfl, hb5⟩
      have HB5 := Lib.hid (HWB.out.1.trans (hb5.mono HWB.out.1.size))
      have HO5 := Lib.hid (HWB.out.2.kept hb5)
      have HB6 := Lib.hid (HB5.out.alloc HB5.out.size (.cells (c7 o x1 x2 x3 x4 x5 x6) TC))
      have HO6 := Lib.hid (HO5.out.alloc (.cells (c7 o x1 x2 x3 x4 x5 x6) TC))
      have HN6 := Lib.hid (Obj1.new w5 TC (c7 o x1 x2 x3 x4 x5 x6))
      obtain ⟨g6, HG6⟩ : ∃ g6, Hid (w5.heap.size = g6) := ⟨_, Lib.hid rfl⟩
      rw [HG6.out] at HN6
      clear hb5
      go_wp2_with fail
      rw [HG6.out]
      generalize w5.alloc (.cells #[.int .i64 o, .int .i64 x1, .int .i64 x2, .int .i64 x3, .int .i64 x4, .int .i64 x5, .int .i64 x6] TC) = w6 at HB6 HO6 HN6 ⊢
      refine (right_yes o x1 x2 x3 x4 x5 x6 w6 HXX.out hsx).mono ?_
      rintro e w7 ⟨rfl, hb7⟩
      obtain ⟨d0, d1, d2, d3, d4, d5, d6⟩ := cells7 (HN6.out.kept hb7)
      obtain ⟨z0, z1, z2, z3, z4, z5, z6⟩ := cells7 (HO6.out.kept hb7)
      obtain ⟨f0, f1, f2, f3, f4, f5, f6⟩ := frees7 (HO6.out.kept hb7)
      have HB7 := Lib.hid (HB6.out.trans (hb7.mono HB6.out.size))
      clear hb7
      go_wp2
      rw [show ((at' + (ns.length + 1) : Nat) : Int) = (at' : Int) + 1 + (ns.length : Int) by push_cast; omega]
      refine bodyPost_ret (v := .tuple #[cv o x1 x2 x3 x4 x5 x6, .int .i64 ((at' : Int) + 1 + (ns.length : Int)), .int .i64 0]) (by simp [results, Try.results23, go_sem, z0, z1, z2, z3, z4, z5, z6]) rfl ⟨rfl, Lib.hid ?_⟩
      exact set7' HB7.out (by have := HG4.out; omega) _ _ _ _ _ _ _
theorem read_end (B : Option Addr) (n cp : Nat) (w : World) (hn : n ≤ 1000000) :
    Calls Try.prog 23 #[.slice B n cp, .int .i64 n] w fun e w' => e = .returned (.tuple #[cv 0 0 0 0 0 0 0, .int .i64 0, .int .i64 10]) ∧ Hid (Below w.heap.size w w') := by
  go_enter Try.func23, Try.ntmps23
  go_wp2
  refine bodyPost_ret (by simp [results, Try.results23, go_sem]) rfl ⟨rfl, Lib.hid ?_⟩
  repeat (first | exact Below.refl _ _ | refine Below.setCell ?_ (by first | omega | (simp; done) | (simp; omega)) _ | refine Below.alloc ?_ (by first | omega | (simp; done) | (simp; omega)) _ | refine below_drewN' ?_ _ | refine Below.drew ?_)
theorem named : Ev.Named Try.prog := by unfold Ev.Named; kernel_rfl
theorem mixed : Try.prog.follows .mixedOrders = true := by kernel_rfl
set_option maxRecDepth 1000000 in
theorem one_run : Ev.runL Try.prog 100000 22 [] = some (.bool true) := by kernel_rfl
theorem one_any (w : World) : Calls Try.prog 22 #[] w fun e w' => e = .returned (.bool true) ∧ Below w.heap.size w w' := Ev.run_ok named mixed one_run .nil w
end Go.Proofs.Ythnopcoahcdjjaa.Ly9
