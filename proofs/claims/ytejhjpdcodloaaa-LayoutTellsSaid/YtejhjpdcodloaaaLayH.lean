/- The document's places as parts that rise: the contract of its Of; no condition. -/
import Derived.Test.YtejhjpdcodloaaaLayG
namespace Go.Proofs.Ytejhjpdcodloaaa.Ly42
open Go.ChangeShapes Go.WideShapes Go.ChangeAt Go.RowKit Base
set_option linter.unusedVariables false
set_option linter.unusedSimpArgs false

theorem wpList_boxC {P : Program} {ops : Array Oper} {rest : List Oper} {o : Oper} {a : Act} {w : World} {Q : Exit → Act → World → Prop} (hg : o.guard = none) (t : TypeId) (x : Operand) (ho : o.op = .box t x) (cs : Array Value) (hx : (a.eval x).cells = cs)
    (h : wpList P ops Q rest (a.put o.dst (.pointer (some ⟨w.heap.size, 0, none⟩))) (w.alloc (.cells cs t))) : wpList P ops Q (o :: rest) a w :=
  wpList_plain hg fun K hK => by
    subst hx
    unfold Oper.wp execOp
    simp only [ho, Sem.run_bind, Instr.box, newVar, newRow, run_newObj_alloc, Sem.run_pure, Result.andThen_ok]
    exact hK _ _ h
theorem cell_one1 {v : Value} (h : v.oneCell' = true) : v.cells = #[v] := by
  cases v <;> simp_all [Value.oneCell', Value.cells]
theorem cells_ones {cs : Array Value} (h : cs.all (·.oneCell') = true) : (Value.agg cs).cells = cs := by
  have h1 : ∀ l : List Value, (∀ v ∈ l, v.oneCell' = true) → l.flatMap (fun v => v.cells.toList) = l := by
    intro l
    induction l with
    | nil => intro _; rfl
    | cons x r ih =>
      intro hx
      rw [List.flatMap_cons, ih (fun v hv => hx v (List.mem_cons_of_mem _ hv)), cell_one1 (hx x (List.mem_cons_self ..))]
      rfl
  have h2 := h1 cs.toList (fun v hv => by rw [Array.all_eq_true_iff_forall_mem] at h; exact h v (by simpa using hv))
  apply Array.ext'
  simp [Value.cells]
  first | done | exact h2 | simpa using h2
set_option maxRecDepth 100000 in
set_option maxHeartbeats 2000000 in
theorem rof_any (cs : Array Value) (q : Nat → Bool) (so : Bool) (w : World) (hc : Bs cs q) :
    Calls Try.prog 31 #[.agg cs, .bool so] w fun e w' => ∃ B d, e = .returned (.slice B (prN (fun i => q i == so) 64).length d) ∧ Hid (PtsAt w' B (prN (fun i => q i == so) 64).length (prN (fun i => q i == so) 64)) ∧ Hid (Below w.heap.size w w') := by
  obtain ⟨p, HPP⟩ : ∃ p, Hid ((fun i => q i == so) = p) := ⟨_, Lib.hid rfl⟩
  rw [HPP.out]
  obtain ⟨i0, hi, hz0, hz1, hz2⟩ := info_parts info_rp
  obtain ⟨gm, HGM⟩ : ∃ g, Hid (w.heap.size = g) := ⟨_, Lib.hid rfl⟩
  obtain ⟨W1, HW1⟩ : ∃ W, Hid (W = w.alloc (.cells cs TBl)) := ⟨_, Lib.hid rfl⟩
  have HB1 : Hid (Below w.heap.size w W1) := Lib.hid (by rw [HW1.out]; exact bel1 _ _)
  have HM1 : Hid (BlAt W1 gm q) := Lib.hid ⟨cs, by rw [HW1.out, ← HGM.out]; exact Obj1.new _ _ _, hc⟩
  have HCE : Hid ((Value.agg cs).cells = cs) := Lib.hid (cells_ones hc.one)
  obtain ⟨b1, HBS⟩ : ∃ b, Hid (W1.heap.size = b) := ⟨_, Lib.hid rfl⟩
  have HR1 : Hid (W1.ownsRow b1 TRp 2 (.slice none 0 0) 0 (ptC [])) := Lib.hid ⟨rfl, .inl ⟨rfl, rfl⟩⟩
  have HX1 : Hid (Below b1 W1 W1) := Lib.hid (by rw [← HBS.out]; exact Below.refl _ _)
  clear hc
  go_enter Try.func31, Try.ntmps31
  go_upto_region 1 with (refine wpList_boxC rfl _ _ rfl cs HCE.out ?_)
  rw [← HW1.out, HGM.out]
  clear HW1 HCE
  go_wp2_with fail
  go_loopw [5, 6] (fun v i wx => ∃ k : Nat, k ≤ 64 ∧ i = .int .i64 k ∧ Hid (wx.ownsRow b1 TRp 2 v (prN p k).length (ptC (prN p k))) ∧ Below b1 W1 wx) (fun _ i _ => 64 - (intOf i).toNat)
  case atStart => exact ⟨0, by omega, rfl, HR1, HX1.out⟩
  case round =>
    clear HR1 HX1
    obtain ⟨k, hk, rfl, HROW, hbel⟩ := hrel
    have HBEL := Lib.hid hbel
    obtain ⟨A, c, rfl⟩ := row_slice HROW.out
    by_cases hlt : k < 64
    · have hki : (k : Int) < 64 := by omega
      have HMK : Hid (BlAt wr gm q) := Lib.hid (HM1.out.kept (by rw [HBS.out]; exact hbel))
      obtain ⟨c0, _⟩ := HMK.out.cell hlt
      have HPK : Hid (p k = (q k == so)) := Lib.hid (by rw [← HPP.out])
      obtain ⟨v, hv⟩ : ∃ v, q k = v := ⟨_, rfl⟩
      rw [hv] at c0 HPK
      have hnl := prN_len p k
      clear hv hbel
      by_cases hpk : v = so
      · subst hpk
        have HPT : Hid (p k = true) := Lib.hid (by rw [HPK.out]; simp)
        have hne : (v != v) = false := by simp
        by_cases hp1 : 0 < k ∧ p (k - 1) = true
        · as_aux_lemma =>
          obtain ⟨h0, h1⟩ := hp1
          rcases prN_last p k with ⟨hL, h'⟩ | ⟨l, x, hL, hl1, hx0, hx1, hx2⟩
          · exact absurd h' (by rw [h1]; simp; omega)
          have HNX : Hid (prN p (k + 1) = l ++ [(⟨x.a, x.m + 1⟩ : Pt)]) := Lib.hid (by
            show (if p k = false then _ else if 0 < k ∧ p (k - 1) = true then _ else _) = _
            rw [if_neg (by rw [HPT.out]; simp), if_pos ⟨h0, h1⟩, hL, bump_snoc])
          obtain ⟨k', HK'⟩ : ∃ k', Hid (k = k' + 1) := ⟨k - 1, Lib.hid (by omega)⟩
          have hk0 : (0 : Int) < (k : Int) := by omega
          have e9 : IntKind.i64.wrap ((k : Int) - 1) = (k' : Int) := by rw [IntWalk.i64_in _ (by omega)]; have := HK'.out; omega
          have hk64 : k' < 64 := by have := HK'.out; omega
          have hk64i : (k' : Int) < 64 := by omega
          have hk'0 : (0 : Int) ≤ (k' : Int) := by omega
          obtain ⟨c1, _⟩ := HMK.out.cell hk64
          have hq1 : q k' = v := by
            have h2 : p k' = true := by rw [show k' = k - 1 by have := HK'.out; omega]; exact h1
            rw [← HPP.out] at h2
            simpa using h2
          rw [hq1] at c1
          have heq : (v == v) = true := by simp
          obtain ⟨N, hN⟩ : ∃ N, l.length = N := ⟨_, rfl⟩
          have HN := Lib.hid hN
          have hlen : (prN p k).length = N + 1 := by rw [hL, List.length_append, hN]; rfl
          rw [hlen] at HROW ⊢
          rw [hL] at HROW
          obtain ⟨g', cap', hA⟩ := row_some HROW.out (by omega)
          injection hA with hA1 hA2 hA3
          subst hA1
          have hN64 : N < 64 := by omega
          obtain ⟨xa, xm⟩ := x
          obtain ⟨y0, _⟩ := row_cell HROW.out (ptC_last l ⟨xa, xm⟩).1
          obtain ⟨y1, y2⟩ := row_cell HROW.out (ptC_last l ⟨xa, xm⟩).2
          rw [hN] at y0 y1 y2
          simp only at y0 y1 y2 hx0 hx1 hx2
          have e0 : IntKind.i64.wrap (((N + 1 : Nat) : Int) - 1) = (N : Int) := by rw [IntWalk.i64_in _ (by omega)]; omega
          have e0' : ((N + 1 : Nat) : Int) = (N : Int) + 1 := by omega
          have e0'' : IntKind.i64.wrap (N : Int) = (N : Int) := IntWalk.i64_in _ (by omega)
          have e2 : IntKind.i64.wrap (xm + 1) = xm + 1 := IntWalk.i64_in _ (by omega)
          have hN0 : (0 : Int) ≤ (N : Int) := by omega
          have hNlt : (N : Int) < (N : Int) + 1 := by omega
          have HRW : Hid ((wr.setCell ⟨g', N * 2 + 1, none⟩ (.int .i64 (xm + 1))).ownsRow b1 TRp 2 (.slice (some ⟨g', 0, none⟩) (N + 1) c) (N + 1) (ptC (l ++ [(⟨xa, xm + 1⟩ : Pt)]))) := Lib.hid (by
            rw [ptC_bump l ⟨xa, xm⟩, HN.out]
            exact row_set HROW.out _ _)
          have HGP : Hid (b1 ≤ g') := Lib.hid ((HROW.out.lt g' rfl).1)
          have HBW : Hid (Below b1 W1 (wr.setCell ⟨g', N * 2 + 1, none⟩ (.int .i64 (xm + 1)))) := Lib.hid (HBEL.out.setCell HGP.out _)
          clear h0 h1 hL hx2 hq1 hN hlen hA2 hA3 hnl
          rw [e0'] at *
          go_upto_region 4 with (fail)
          generalize wr.setCell ⟨g', N * 2 + 1, none⟩ (.int .i64 (xm + 1)) = wv at HRW HBW ⊢
          clear y0 y1 y2 c0 c1
          go_wp2
          go_roundw
          case rel => exact ⟨k + 1, by omega, by go_num, Lib.hid (by rw [HNX.out, List.length_append, HN.out]; exact HRW.out), HBW.out⟩
          case measure => simp [intOf]; omega
        · have HNX : Hid (prN p (k + 1) = prN p k ++ [(⟨(k : Int), 1⟩ : Pt)]) := Lib.hid (by
            show (if p k = false then _ else if 0 < k ∧ p (k - 1) = true then _ else _) = _
            rw [if_neg (by rw [HPT.out]; simp), if_neg hp1])
          obtain ⟨L, HL⟩ : ∃ L, Hid (prN p k = L) := ⟨_, Lib.hid rfl⟩
          rw [HL.out] at HNX HROW hnl ⊢
          obtain ⟨N, hN⟩ : ∃ N, L.length = N := ⟨_, rfl⟩
          have HN := Lib.hid hN
          rw [hN] at HROW hnl ⊢
          clear hN
          have HR2 := Lib.hid (HROW.out.alloc (.cells (ptL ⟨(k : Int), 1⟩).toArray TRp))
          have HBZ : Hid (b1 ≤ wr.heap.size) := Lib.hid (by have h := HBEL.out.size; have e := HBS.out; omega)
          by_cases hk0 : k = 0
          · as_aux_lemma =>
            subst hk0
            have hz : ((0 : Nat) : Int) = 0 := rfl
            clear hp1
            go_wp2_with (at_builtin; refine pushS _ rfl (.tmp 36) (.tmp 39) 46 rfl b1 TRp i0 (.agg #[.int .i64 0, .int .i64 0]) 2 16 Try.underlying46 hi hz0 hz1 hz2 rfl (by decide) _ _ _ rfl HR2.out ⟨wr.heap.size, 0, none⟩ 1 1 (ptL ⟨((0 : Nat) : Int), 1⟩) rfl rfl (cell_new wr (ptL ⟨((0 : Nat) : Int), 1⟩) TRp) (one_ptL _) (by unfold maxLen; omega) (by omega) (by have := HBZ.out; simp; omega) ?_; intro v5 w5 O5 B5 G5 K5)
            have HB5 : Hid (Below b1 W1 w5) := Lib.hid ((HBEL.out.alloc HBZ.out _).trans B5.out)
            have HLN : Hid ((L ++ [(⟨((0 : Nat) : Int), 1⟩ : Pt)]).length = N + 1) := Lib.hid (by simp [HN.out])
            have HO5 : Hid (w5.ownsRow b1 TRp 2 v5 (N + 1) (ptC (L ++ [(⟨((0 : Nat) : Int), 1⟩ : Pt)]))) := Lib.hid (by rw [ptC_snoc]; exact O5.out)
            clear O5 B5 G5 K5 HR2 c0
            go_wp2
            go_roundw
            case rel => exact ⟨0 + 1, by omega, by go_num, Lib.hid (by rw [HNX.out, HLN.out]; exact HO5.out), HB5.out⟩
            case measure => simp [intOf]; first | done | omega
          · as_aux_lemma =>
            obtain ⟨k', HK'⟩ : ∃ k', Hid (k = k' + 1) := ⟨k - 1, Lib.hid (by omega)⟩
            have hk0i : (0 : Int) < (k : Int) := by omega
            have e9 : IntKind.i64.wrap ((k : Int) - 1) = (k' : Int) := by rw [IntWalk.i64_in _ (by omega)]; have := HK'.out; omega
            have hk64 : k' < 64 := by have := HK'.out; omega
            have hk64i : (k' : Int) < 64 := by omega
            have hk'0 : (0 : Int) ≤ (k' : Int) := by omega
            obtain ⟨c1, _⟩ := HMK.out.cell hk64
            obtain ⟨u, hu⟩ : ∃ u, q k' = u := ⟨_, rfl⟩
            rw [hu] at c1
            have heq : (u == v) = false := by
              cases e : (u == v) with
              | false => rfl
              | true =>
                refine absurd ⟨by omega, ?_⟩ hp1
                rw [show k - 1 = k' by have := HK'.out; omega, ← HPP.out]
                simp only
                rw [hu]
                exact e
            clear hp1 hu hk0
            go_wp2_with (at_builtin; refine pushS _ rfl (.tmp 36) (.tmp 39) 46 rfl b1 TRp i0 (.agg #[.int .i64 0, .int .i64 0]) 2 16 Try.underlying46 hi hz0 hz1 hz2 rfl (by decide) _ _ _ rfl HR2.out ⟨wr.heap.size, 0, none⟩ 1 1 (ptL ⟨(k : Int), 1⟩) rfl rfl (cell_new wr (ptL ⟨(k : Int), 1⟩) TRp) (one_ptL _) (by unfold maxLen; omega) (by omega) (by have := HBZ.out; simp; omega) ?_; intro v5 w5 O5 B5 G5 K5)
            have HB5 : Hid (Below b1 W1 w5) := Lib.hid ((HBEL.out.alloc HBZ.out _).trans B5.out)
            have HLN : Hid ((L ++ [(⟨(k : Int), 1⟩ : Pt)]).length = N + 1) := Lib.hid (by simp [HN.out])
            have HO5 : Hid (w5.ownsRow b1 TRp 2 v5 (N + 1) (ptC (L ++ [(⟨(k : Int), 1⟩ : Pt)]))) := Lib.hid (by rw [ptC_snoc]; exact O5.out)
            clear O5 B5 G5 K5 HR2 c0
            go_wp2
            go_roundw
            case rel => exact ⟨k + 1, by omega, by go_num, Lib.hid (by rw [HNX.out, HLN.out]; exact HO5.out), HB5.out⟩
            case measure => simp [intOf]; first | done | omega
      · have HPF : Hid (prN p (k + 1) = prN p k) := Lib.hid (by
          show (if p k = false then _ else _) = _
          rw [if_pos (by rw [HPK.out]; simpa using hpk)])
        cases v with
        | false =>
          cases so with
          | false => exact absurd rfl hpk
          | true =>
            clear hpk
            go_wp2
            go_roundw
            case rel => exact ⟨k + 1, by omega, by go_num, Lib.hid (by rw [HPF.out]; exact HROW.out), HBEL.out⟩
            case measure => simp [intOf]; omega
        | true =>
          cases so with
          | true => exact absurd rfl hpk
          | false =>
            clear hpk
            go_wp2
            go_roundw
            case rel => exact ⟨k + 1, by omega, by go_num, Lib.hid (by rw [HPF.out]; exact HROW.out), HBEL.out⟩
            case measure => simp [intOf]; omega
    · have hke : k = 64 := by omega
      subst hke
      obtain ⟨A9, c9, e9, _, hs9⟩ := pts_own HROW.out rfl
      injection e9 with e1 e2 e3
      subst e1
      have HS9 := Lib.hid hs9
      obtain ⟨N, hN⟩ : ∃ N, (prN p 64).length = N := ⟨_, rfl⟩
      have HNN := Lib.hid hN
      have HBF := Lib.hid (HB1.out.trans ((show Below W1.heap.size W1 wr by rw [HBS.out]; exact HBEL.out).mono HB1.out.size))
      rw [hN] at ⊢
      clear hN hs9 e2 e3 hbel HROW
      go_wp2
      go_ret
      exact ⟨_, _, by rw [HNN.out]; rfl, HS9, HBF⟩
end Go.Proofs.Ytejhjpdcodloaaa.Ly42
