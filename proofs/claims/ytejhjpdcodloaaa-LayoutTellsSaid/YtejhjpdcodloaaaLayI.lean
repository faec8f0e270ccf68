/- The document's Meets: have two parts a place together; no condition. -/
import Derived.Test.YtejhjpdcodloaaaLayH
import Derived.Test.YtejhjpdcodloaaaRegA
namespace Go.Proofs.Ytejhjpdcodloaaa.Ly42
open Go.ChangeShapes Go.WideShapes Go.ChangeAt Go.RowKit Base
set_option linter.unusedVariables false
set_option linter.unusedSimpArgs false

theorem upon_row {P : Program} {o : Oper} {a : Act} {w : World} {next : Act → World → Prop} {Q : Exit → Act → World → Prop} {ty : TypeId} {x y : Operand} (ho : o.op = .store ty x y) (g : Nat) (cells : Array Value) (hx : a.eval x = .pointer (some ⟨g, 0, none⟩)) (hy : a.eval y = .agg cells)
    (t : TypeId) (old : Array Value) (hg : Obj1 w g t old) (hi : (P.info? ty).map (·.size) = some cells.size) (hold : old.size = cells.size) (h1 : cells.all (·.oneCell') = true) (h : next (a.put o.dst undef) (w.setRow g cells)) : Oper.upon P o a next Q ((execOp a.eval o).run P w) := by
  have := wp_store_row (P := P) (K := next) (Q := Q) ty x y ho g cells hx hy t old hg hi hold h1 h
  unfold Oper.wp at this
  exact this
theorem mB_of {x o : Pt} {i : Nat} (h1 : inP x i = true) (h2 : inP o i = true) : mB x o = true := by
  unfold inP at h1 h2
  simp only [Bool.and_eq_true, decide_eq_true_eq] at h1 h2
  unfold mB
  simp only [Bool.and_eq_true, decide_eq_true_eq]
  exact ⟨⟨⟨h1.1, h2.1⟩, by omega⟩, by omega⟩
theorem had_one (x : Pt) (i : Nat) : had [x] i = inP x i := by simp [had]
def NwP (x : Pt) : Sp := fun v w => ∃ g, v = .slice (some ⟨g, 0, none⟩) 1 1 ∧ PtsAt w (some ⟨g, 0, none⟩) 1 [x]
theorem NwP.stable (x : Pt) : Stable (NwP x) := fun v a b ⟨g, e, h⟩ hb => ⟨g, e, h.kept hb⟩
theorem NwP.new (a m : Int) (w : World) : NwP ⟨a, m⟩ (.slice (some ⟨w.heap.size, 0, none⟩) 1 1) (w.alloc (.cells #[.int .i64 a, .int .i64 m] TRp)) := by
  refine ⟨_, rfl, rfl, fun _ => ⟨w.heap.size, 0, rfl, by simp, fun i x hx j hj => ?_⟩⟩
  cases i with
  | zero =>
    have hx' : (⟨a, m⟩ : Pt) = x := Option.some.inj hx
    subst hx'
    rw [(Obj1.new w TRp #[.int .i64 a, .int .i64 m]).cell]
    rcases (show j = 0 ∨ j = 1 by omega) with rfl | rfl <;> rfl
  | succ i => cases hx
theorem NwP.ex (a m : Int) (w : World) : ∃ v, ∃ x : Kin w, NwP ⟨a, m⟩ v x.world := ⟨_, ⟨_, bel1 _ _⟩, NwP.new a m w⟩
def AgB (q : Nat → Bool) : Sp := fun v _ => ∃ cs, v = .agg cs ∧ Bs cs q
theorem AgB.stable (q : Nat → Bool) : Stable (AgB q) := fun v a b h _ => h
theorem AgB.ex (q : Nat → Bool) (w : World) : ∃ v, ∃ x : Kin w, AgB q v x.world := by
  refine ⟨.agg (((List.range 64).map fun i => Value.bool (q i)).toArray), Kin.me _, _, rfl, by simp, fun i hi => ?_⟩
  simp [hi]
def NwB (b : Nat) : Sp := fun v w => ∃ g, v = .pointer (some ⟨g, 0, none⟩) ∧ b ≤ g ∧ Obj1 w g TBl (Array.replicate 64 (.bool false))
theorem NwB.stable (b : Nat) : Stable (NwB b) := fun v a c ⟨g, e, h, o⟩ hb => ⟨g, e, h, o.kept hb⟩
theorem NwB.ex (b : Nat) (w : World) (h : b ≤ w.heap.size) : ∃ v, ∃ x : Kin w, NwB b v x.world := ⟨_, ⟨_, bel1 _ _⟩, _, rfl, h, Obj1.new _ _ _⟩
theorem gives_allocB {o : Oper} {a : Act} {w : World} {b : Nat} (ho : o.op = .alloc TBl) (h : b ≤ w.heap.size) : gives Try.prog o a w (NwB b) := by
  obtain ⟨ip, hip, hzp, hsp⟩ := info_get info_bl
  refine gives_ok (w' := w.alloc (.cells (Value.agg (Array.replicate 64 (.bool false))).cells TBl)) (v := .pointer (some ⟨w.heap.size, 0, none⟩)) (by simp [execOp, ho, Instr.alloc, zeroValue, typeInfo, hip, hzp, newVar, newRow]) (bel1 _ _) ⟨_, rfl, h, ?_⟩
  rw [cells_ones Bs.zero.one]
  exact Obj1.new _ _ _
set_option maxRecDepth 100000 in
set_option maxHeartbeats 1000000 in
theorem rmeets_any (pa pm oa om : Int) (w : World) :
    Calls Try.prog 27 #[.agg #[.int .i64 pa, .int .i64 pm], .agg #[.int .i64 oa, .int .i64 om]] w fun e w' => e = .returned (.bool (mB ⟨pa, pm⟩ ⟨oa, om⟩)) ∧ Below w.heap.size w w' := by
  obtain ⟨ip, hip, hzp, hsp⟩ := info_get info_bl
  obtain ⟨g1, HG1⟩ : ∃ g, Hid (w.heap.size = g) := ⟨_, Lib.hid rfl⟩
  obtain ⟨g2, HG2⟩ : ∃ g, Hid (g1 + 1 = g) := ⟨_, Lib.hid rfl⟩
  obtain ⟨W2, HW2⟩ : ∃ W, Hid (W = (w.alloc (.cells #[.int .i64 pa, .int .i64 pm] TRp)).alloc (.cells #[.int .i64 oa, .int .i64 om] TRp)) := ⟨_, Lib.hid rfl⟩
  have HB2 : Hid (Below w.heap.size w W2) := Lib.hid (by rw [HW2.out]; exact ((Below.refl _ _).alloc (Nat.le_refl _) _).alloc (by simp) _)
  have HO1 : Hid (Obj1 W2 g1 TRp #[.int .i64 pa, .int .i64 pm]) := Lib.hid (by rw [HW2.out, ← HG1.out]; exact (Obj1.new _ _ _).kept (bel1 _ _))
  have HO2 : Hid (Obj1 W2 g2 TRp #[.int .i64 oa, .int .i64 om]) := Lib.hid (by
    rw [HW2.out, ← HG2.out, ← HG1.out, show w.heap.size + 1 = (w.alloc (.cells #[.int .i64 pa, .int .i64 pm] TRp)).heap.size by simp]
    exact Obj1.new _ _ _)
  have q0 : W2.cell? ⟨g1, 0, none⟩ = some (.int .i64 pa) := HO1.out.cell 0
  have q1 : W2.cell? ⟨g1, 1, none⟩ = some (.int .i64 pm) := HO1.out.cell 1
  have s0 : W2.cell? ⟨g2, 0, none⟩ = some (.int .i64 oa) := HO2.out.cell 0
  have s1 : W2.cell? ⟨g2, 1, none⟩ = some (.int .i64 om) := HO2.out.cell 1
  have K0 : ∀ z : Kin W2.drew, z.world.cell? ⟨g1, 0, none⟩ = some (.int .i64 pa) := fun z => Kin.at (w := W2.drew) q0 z
  have K1 : ∀ z : Kin W2.drew, z.world.cell? ⟨g1, 1, none⟩ = some (.int .i64 pm) := fun z => Kin.at (w := W2.drew) q1 z
  have K2 : ∀ z : Kin W2.drew, z.world.cell? ⟨g2, 0, none⟩ = some (.int .i64 oa) := fun z => Kin.at (w := W2.drew) s0 z
  have K3 : ∀ z : Kin W2.drew, z.world.cell? ⟨g2, 1, none⟩ = some (.int .i64 om) := fun z => Kin.at (w := W2.drew) s1 z
  have HMP : Hid (∀ (g : Nat) (x : Pt) (W : World), PtsAt W (some ⟨g, 0, none⟩) 1 [x] → Calls Try.prog 22 #[.slice (some ⟨g, 0, none⟩) 1 1] W fun e w' => ∃ v, e = .returned v ∧ Below W.heap.size W w' ∧ AgB (had [x]) v w') := Lib.hid (fun g x W h => (map_any _ 1 1 [x] W h (by omega)).mono (by
    rintro e w' ⟨cs, rfl, hb, hw⟩
    exact ⟨_, rfl, hw.out, cs, rfl, hb.out⟩))
  obtain ⟨Q, HQ⟩ : ∃ Q, Hid (mB ⟨pa, pm⟩ ⟨oa, om⟩ = Q) := ⟨_, Lib.hid rfl⟩
  rw [HQ.out]
  have HLE : Hid (W2.heap.size ≤ W2.drew.heap.size) := Lib.hid (bel_drew W2).size
  clear q0 q1 s0 s1 HO1 HO2
  go_enter Try.func27, Try.ntmps27
  go_upto_region 1 with (fail)
  rw [← HW2.out, HG1.out, HG2.out]
  clear HW2
  refine wp_region_specLA 8 [.d (.agg #[.int .i64 pa, .int .i64 pm]), .g (NwP ⟨pa, pm⟩), .g (AgB (had [⟨pa, pm⟩])), .d (.agg #[.int .i64 oa, .int .i64 om]), .g (NwP ⟨oa, om⟩), .g (AgB (had [⟨oa, om⟩])), .g (NwB W2.heap.size), .g (NwB W2.heap.size)] (by kernel_rfl) (by kernel_rfl) (by kernel_rfl) ?_
  refine spec_d rfl (fun x _ => gives_run (by go_simp)) ?_
  try simp only [Act.put, List.getElem_toArray, List.getElem_cons_succ, List.getElem_cons_zero, List.setIfInBounds_toArray, List.set_cons_zero, List.set_cons_succ]
  refine spec_g (NwP.stable _) (NwP.ex _ _ _) rfl (fun z _ => gives_ok (by go_simp) (bel1 _ _) (NwP.new pa pm z.world)) ?_
  rintro v1 ⟨x1, b1, rfl, _⟩
  try simp only [Act.put, List.getElem_toArray, List.getElem_cons_succ, List.getElem_cons_zero, List.setIfInBounds_toArray, List.set_cons_zero, List.set_cons_succ]
  refine spec_g (AgB.stable _) (AgB.ex _ _) rfl (fun z hz => gives_call (by go_simp) (HMP.out b1 ⟨pa, pm⟩ z.world (by
    obtain ⟨g', e, h⟩ := hz _ (List.mem_cons_self ..) (by kernel_rfl)
    injection e with e
    injection e with e
    injection e with e
    subst e
    exact h))) ?_
  rintro a1 ⟨y1, c1, rfl, hc1⟩
  try simp only [Act.put, List.getElem_toArray, List.getElem_cons_succ, List.getElem_cons_zero, List.setIfInBounds_toArray, List.set_cons_zero, List.set_cons_succ]
  refine spec_d rfl (fun x _ => gives_run (by go_simp)) ?_
  try simp only [Act.put, List.getElem_toArray, List.getElem_cons_succ, List.getElem_cons_zero, List.setIfInBounds_toArray, List.set_cons_zero, List.set_cons_succ]
  refine spec_g (NwP.stable _) (NwP.ex _ _ _) rfl (fun z _ => gives_ok (by go_simp) (bel1 _ _) (NwP.new oa om z.world)) ?_
  rintro v2 ⟨x2, b2, rfl, _⟩
  try simp only [Act.put, List.getElem_toArray, List.getElem_cons_succ, List.getElem_cons_zero, List.setIfInBounds_toArray, List.set_cons_zero, List.set_cons_succ]
  refine spec_g (AgB.stable _) (AgB.ex _ _) rfl (fun z hz => gives_call (by go_simp) (HMP.out b2 ⟨oa, om⟩ z.world (by
    obtain ⟨g', e, h⟩ := hz _ (List.mem_cons_self ..) (by kernel_rfl)
    injection e with e
    injection e with e
    injection e with e
    subst e
    exact h))) ?_
  rintro a2 ⟨y2, c2, rfl, hc2⟩
  try simp only [Act.put, List.getElem_toArray, List.getElem_cons_succ, List.getElem_cons_zero, List.setIfInBounds_toArray, List.set_cons_zero, List.set_cons_succ]
  refine spec_g (NwB.stable _) (NwB.ex _ _ HLE.out) rfl (fun z _ => gives_allocB rfl (Nat.le_trans HLE.out z.below.size)) ?_
  rintro p5 ⟨z5, g5, rfl, _, _⟩
  try simp only [Act.put, List.getElem_toArray, List.getElem_cons_succ, List.getElem_cons_zero, List.setIfInBounds_toArray, List.set_cons_zero, List.set_cons_succ]
  refine spec_g (NwB.stable _) (NwB.ex _ _ HLE.out) rfl (fun z _ => gives_allocB rfl (Nat.le_trans HLE.out z.below.size)) ?_
  rintro p6 ⟨z6, g6, rfl, _, _⟩
  try simp only [Act.put, List.getElem_toArray, List.getElem_cons_succ, List.getElem_cons_zero, List.setIfInBounds_toArray, List.set_cons_zero, List.set_cons_succ]
  refine spec_end (fun z hz => ?_)
  intro hal
  have hne := hal 6 7 (by omega) (by omega) (by omega) rfl rfl 5 6 rfl rfl (.pointer (some ⟨g5, 0, none⟩)) (.pointer (some ⟨g6, 0, none⟩)) rfl rfl
  have HN6 := hz _ (List.mem_cons_self ..)
  have HN5 := hz _ (List.mem_cons_of_mem _ (List.mem_cons_self ..))
  clear hz hal
  have HNE : Hid (g5 ≠ g6) := Lib.hid (fun e => hne (by rw [e]))
  have HO5 : Hid (W2.heap.size ≤ g5 ∧ Obj1 z.world g5 TBl (Array.replicate 64 (.bool false))) := Lib.hid (by
    obtain ⟨g', e, h1, h2⟩ := HN5
    injection e with e
    injection e with e
    injection e with e
    subst e
    exact ⟨h1, h2⟩)
  have HO6 : Hid (W2.heap.size ≤ g6 ∧ Obj1 z.world g6 TBl (Array.replicate 64 (.bool false))) := Lib.hid (by
    obtain ⟨g', e, h1, h2⟩ := HN6
    injection e with e
    injection e with e
    injection e with e
    subst e
    exact ⟨h1, h2⟩)
  have HBZ := Lib.hid ((bel_drew W2).trans z.below)
  clear HN5 HN6 hne K0 K1 K2 K3 HMP
  generalize z.world = wz at HO5 HO6 HBZ ⊢
  clear z
  have HS1 : Hid ((Try.prog.info? TBl).map (·.size) = some c1.size) := Lib.hid (by rw [hip, hc1.1]; simp [hsp])
  have HS2 : Hid ((Try.prog.info? TBl).map (·.size) = some c2.size) := Lib.hid (by rw [hip, hc2.1]; simp [hsp])
  have HL1 : Hid ((Array.replicate 64 (Value.bool false)).size = c1.size) := Lib.hid (by rw [hc1.1]; simp)
  have HL2 : Hid ((Array.replicate 64 (Value.bool false)).size = c2.size) := Lib.hid (by rw [hc2.1]; simp)
  have HC1 := Lib.hid hc1
  have HC2 := Lib.hid hc2
  clear hc1 hc2
  change wpAny _ _ _ _ (1 + 1) _ _ _
  refine wpAny_ready (rs := [8]) (by kernel_rfl) (by simp) ?_
  refine AllReady.cons rfl (fun KK hK => ?_) AllReady.nil
  rw [if_pos (by rfl)]
  refine upon_row (ty := TBl) (x := .tmp 5) (y := .tmp 10) rfl g5 c1 rfl rfl TBl _ HO5.out.2 HS1.out HL1.out HC1.out.one ?_
  refine hK _ _ ?_
  clear hK KK
  try simp only [Act.put, List.getElem_toArray, List.getElem_cons_succ, List.getElem_cons_zero, List.setIfInBounds_toArray, List.set_cons_zero, List.set_cons_succ]
  have HW3 := Lib.hid (wrote_setRow HO5.out.2 c1)
  generalize wz.setRow g5 c1 = w3 at HW3 ⊢
  have HO63 : Hid (Obj1 w3 g6 TBl (Array.replicate 64 (.bool false))) := Lib.hid (HO6.out.2.touch HW3.out.2 HNE.out.symm)
  change wpAny _ _ _ _ (0 + 1) _ _ _
  refine wpAny_ready (rs := [9]) (by kernel_rfl) (by simp) ?_
  refine AllReady.cons rfl (fun KK hK => ?_) AllReady.nil
  rw [if_pos (by rfl)]
  refine upon_row (ty := TBl) (x := .tmp 6) (y := .tmp 13) rfl g6 c2 rfl rfl TBl _ HO63.out HS2.out HL2.out HC2.out.one ?_
  refine hK _ _ ?_
  clear hK KK
  try simp only [Act.put, List.getElem_toArray, List.getElem_cons_succ, List.getElem_cons_zero, List.setIfInBounds_toArray, List.set_cons_zero, List.set_cons_succ]
  have HW4 := Lib.hid (wrote_setRow HO63.out c2)
  generalize w3.setRow g6 c2 = w4 at HW4 ⊢
  refine wpAny_done (by kernel_rfl) ?_ _
  have HX : Hid (BlAt w4 g5 (inP ⟨pa, pm⟩)) := Lib.hid ((show BlAt w4 g5 (had [⟨pa, pm⟩]) from ⟨c1, HW3.out.1.touch HW4.out.2 HNE.out, HC1.out⟩).same (fun i _ => had_one _ i))
  have HY : Hid (BlAt w4 g6 (inP ⟨oa, om⟩)) := Lib.hid ((show BlAt w4 g6 (had [⟨oa, om⟩]) from ⟨c2, HW4.out.1, HC2.out⟩).same (fun i _ => had_one _ i))
  have HB4 : Hid (Below w.heap.size w w4) := Lib.hid (by
    have h3 := HW3.out.2.below HO5.out.1 HBZ.out.size
    have h4 := HW4.out.2.below HO6.out.1 (HBZ.out.trans h3).size
    exact HB2.out.trans (((HBZ.out.trans h3).trans h4).mono HB2.out.size))
  clear HW3 HW4 HO5 HO6 HO63 HBZ HS1 HS2 HL1 HL2 HC1 HC2 HLE HB2
  have HXX : Hid (Below w4.heap.size w4 w4) := Lib.hid (Below.refl _ _)
  go_wp2_with fail
  go_loopw [7] (fun i wx => ∃ k : Nat, k ≤ 64 ∧ i = .int .i64 k ∧ Hid (∀ j, j < k → inP ⟨pa, pm⟩ j = true → inP ⟨oa, om⟩ j = false) ∧ Below w4.heap.size w4 wx) (fun i _ => 64 - (intOf i).toNat)
  case atStart => exact ⟨0, by omega, rfl, Lib.hid (fun j hj => by omega), HXX.out⟩
  case round =>
    obtain ⟨k, hk, rfl, HNO, hbk⟩ := hrel
    have HBK := Lib.hid hbk
    by_cases hlt : k < 64
    · have hki : (k : Int) < 64 := by omega
      have hk0 : (0 : Int) ≤ (k : Int) := by omega
      obtain ⟨x0, _⟩ := (HX.out.kept hbk).cell hlt
      obtain ⟨y0, _⟩ := (HY.out.kept hbk).cell hlt
      obtain ⟨bx, hbx⟩ : ∃ b, inP ⟨pa, pm⟩ k = b := ⟨_, rfl⟩
      obtain ⟨bY, hby⟩ : ∃ b, inP ⟨oa, om⟩ k = b := ⟨_, rfl⟩
      rw [hbx] at x0
      rw [hby] at y0
      have HBX := Lib.hid hbx
      have HBY := Lib.hid hby
      clear hbx hby hbk
      cases bx with
      | false =>
        have HNO' : Hid (∀ j, j < k + 1 → inP ⟨pa, pm⟩ j = true → inP ⟨oa, om⟩ j = false) := Lib.hid (fun j hj h => by
          rcases Nat.lt_or_ge j k with h' | h'
          · exact HNO.out j h' h
          · rw [show j = k by omega, HBX.out] at h
            cases h)
        go_wp2
        go_roundw
        case rel => exact ⟨k + 1, by omega, by go_num, HNO', HBK.out⟩
        case measure => simp [intOf]; omega
      | true =>
        cases bY with
        | false =>
          have HNO' : Hid (∀ j, j < k + 1 → inP ⟨pa, pm⟩ j = true → inP ⟨oa, om⟩ j = false) := Lib.hid (fun j hj h => by
            rcases Nat.lt_or_ge j k with h' | h'
            · exact HNO.out j h' h
            · rw [show j = k by omega]
              exact HBY.out)
          go_wp2
          go_roundw
          case rel => exact ⟨k + 1, by omega, by go_num, HNO', HBK.out⟩
          case measure => simp [intOf]; omega
        | true =>
          have HE : Hid (true = Q) := Lib.hid (by rw [← HQ.out, mB_of HBX.out HBY.out])
          go_wp2
          go_ret
          exact ⟨by rw [← HE.out]; rfl, HB4.out.trans (HBK.out.mono HB4.out.size)⟩
    · have hke : k = 64 := by omega
      subst hke
      have HE : Hid (false = Q) := Lib.hid (by rw [← HQ.out, meet_no (fun i hi => HNO.out i (in_lt hi) hi)])
      clear hbk
      go_wp2
      go_ret
      exact ⟨by rw [← HE.out]; rfl, HB4.out.trans (HBK.out.mono HB4.out.size)⟩
end Go.Proofs.Ytejhjpdcodloaaa.Ly42
