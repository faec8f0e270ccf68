/- The contracts of package budget's Clone, At (of two slips), Healthy, and `one` of layer 21; no condition but sizes. -/
import Derived.Test.YtejhjpdcodloaaaBudE
namespace Go.Proofs.Ytejhjpdcodloaaa.Ly21
open Go.ChangeShapes Go.WideShapes Go.ChangeAt Go.RowKit Base Go.Maps Ly20
set_option linter.unusedVariables false
set_option linter.unusedSimpArgs false

theorem own_mono {w : World} {base b' : Nat} {e : TypeId} {size : Nat} {v : Value} {n : Nat} {xs : List Value} (h : w.ownsRow base e size v n xs) (hb : b' ≤ base) : w.ownsRow b' e size v n xs := by
  refine ⟨h.1, ?_⟩
  rcases h.2 with h | ⟨g, cap, cur, e1, e2, r⟩
  · exact .inl h
  · exact .inr ⟨g, cap, cur, e1, Nat.le_trans hb e2, r⟩
theorem upon_row {P : Program} {o : Oper} {a : Act} {w : World} {next : Act → World → Prop} {Q : Exit → Act → World → Prop} {ty : TypeId} {x y : Operand} (ho : o.op = .store ty x y) (g : Nat) (cells : Array Value) (hx : a.eval x = .pointer (some ⟨g, 0, none⟩)) (hy : a.eval y = .agg cells)
    (t : TypeId) (old : Array Value) (hg : Obj1 w g t old) (hi : (P.info? ty).map (·.size) = some cells.size) (hold : old.size = cells.size) (h1 : cells.all (·.oneCell') = true) (h : next (a.put o.dst undef) (w.setRow g cells)) : Oper.upon P o a next Q ((execOp a.eval o).run P w) := by
  have := wp_store_row (P := P) (K := next) (Q := Q) ty x y ho g cells hx hy t old hg hi hold h1 h
  unfold Oper.wp at this
  exact this
def NewF (base : Nat) (kd fm : Int) (fy : Bool) (ln fr : Int) (n : Nat) (xs : List Int) : Sp := fun v w => ∃ g, v = .agg #[.int .i64 kd, .int .i64 fm, .bool fy, .int .i64 ln, .int .i64 fr, .slice (some ⟨g, 0, none⟩) n n] ∧ base ≤ g ∧ Lst w (some ⟨g, 0, none⟩) n (xs.map (Value.int .u8))
theorem NewF.stable (base : Nat) (kd fm : Int) (fy : Bool) (ln fr : Int) (n : Nat) (xs : List Int) : Stable (NewF base kd fm fy ln fr n xs) := fun v a b ⟨g, e, h, l⟩ hb => ⟨g, e, h, l.kept hb⟩
def NewS (base n : Nat) (ls : List Slp) : Sp := fun v w => ∃ A c, v = .slice A n c ∧ w.ownsRow base TBS 4 v n (slC ls)
theorem NewS.stable (base n : Nat) (ls : List Slp) : Stable (NewS base n ls) := fun v a b ⟨A, c, e, h⟩ hb => ⟨A, c, e, own_kept h hb⟩
theorem slC_len : ∀ ls : List Slp, (slC ls).length = ls.length * 4
  | [] => rfl
  | x :: r => by show (slL x ++ slC r).length = _; rw [List.length_append, slC_len r]; simp [slL]; omega
theorem NewF.ex {base : Nat} {kd fm : Int} {fy : Bool} {ln fr : Int} {n : Nat} {xs : List Int} (w : World) (hb : base ≤ w.heap.size) (hl : xs.length = n) : ∃ v, ∃ x : Kin w, NewF base kd fm fy ln fr n xs v x.world := by
  refine ⟨_, ⟨w.alloc (.cells (xs.map (Value.int .u8)).toArray 0), bel1 _ _⟩, w.heap.size, rfl, hb, by simpa using hl, fun hn => ⟨w.heap.size, 0, rfl, by simp, fun k hk => ?_⟩⟩
  rw [Nat.zero_add, (Obj1.new w 0 _).cell, List.getElem?_toArray]
theorem NewS.ex {base n : Nat} {ls : List Slp} (w : World) (hb : base ≤ w.heap.size) (hl : ls.length = n) (hn : n ≤ 900) : ∃ v, ∃ x : Kin w, NewS base n ls v x.world := by
  refine ⟨.slice (some ⟨w.heap.size, 0, none⟩) n n, ⟨w.alloc (.cells (slC ls).toArray TBS), bel1 _ _⟩, _, _, rfl, by rw [slC_len, hl], .inr ⟨w.heap.size, n, (slC ls).toArray, rfl, hb, ?_, Nat.le_refl _, by unfold maxLen; omega, by simp [slC_len, hl], ?_⟩⟩
  · show (w.heap.push _)[w.heap.size]? = _
    simp
  · rw [List.toList_toArray, List.take_of_length_le (by rw [slC_len, hl]; exact Nat.le_refl _)]
set_option maxRecDepth 100000 in
set_option maxHeartbeats 2000000 in
theorem cclone_any (kd fm : Int) (fy : Bool) (ln fr : Int) (A : Option Addr) (n c : Nat) (B : Option Addr) (m d : Nat) (xs : List Int) (ls : List Slp) (w : World) (hA : Lst w A n (xs.map (Value.int .u8))) (hn : n ≤ 400) (hW : SlsAt w B m ls) (hm : m ≤ 900) :
    Calls Try.prog 16 #[.agg #[.int .i64 kd, .int .i64 fm, .bool fy, .int .i64 ln, .int .i64 fr, .slice A n c, .slice B m d]] w fun e w' => ∃ (g : Nat) (B' : Option Addr) (d' : Nat), e = .returned (.agg #[.int .i64 kd, .int .i64 fm, .bool fy, .int .i64 ln, .int .i64 fr, .slice (some ⟨g, 0, none⟩) n n, .slice B' m d']) ∧ Hid (Lst w' (some ⟨g, 0, none⟩) n (xs.map (Value.int .u8))) ∧ Hid (w'.ownsRow w.heap.size TBS 4 (.slice B' m d') m (slC ls)) ∧ Hid (Below w.heap.size w w') := by
  have HW := Lib.hid hW
  have HA := Lib.hid hA
  obtain ⟨gb, HGB⟩ : ∃ gb, Hid (w.heap.size = gb) := ⟨_, Lib.hid rfl⟩
  obtain ⟨gr, HGR⟩ : ∃ gr, Hid (gb + 1 = gr) := ⟨_, Lib.hid rfl⟩
  obtain ⟨W2, HW2⟩ : ∃ W2, W2 = (w.alloc (.cells #[.int .i64 kd, .int .i64 fm, .bool fy, .int .i64 ln, .int .i64 fr, .slice A n c, .slice B m d] TC)).alloc (.cells #[.int .i64 0, .int .i64 0, .bool false, .int .i64 0, .int .i64 0, .slice none 0 0, .slice none 0 0] TC) := ⟨_, rfl⟩
  have HSZ : Hid (W2.heap.size = gr + 1) := Lib.hid (by rw [HW2, ← HGR.out, ← HGB.out]; simp)
  have HB2 : Hid (Below w.heap.size w W2) := Lib.hid (by rw [HW2]; exact ((Below.refl _ _).alloc (Nat.le_refl _) _).alloc (by simp) _)
  have HO1 : Hid (Obj1 W2 gb TC #[.int .i64 kd, .int .i64 fm, .bool fy, .int .i64 ln, .int .i64 fr, .slice A n c, .slice B m d]) := Lib.hid (by rw [HW2, ← HGB.out]; exact (Obj1.new _ _ _).kept (bel1 _ _))
  have HOR : Hid (Obj1 W2 gr TC #[.int .i64 0, .int .i64 0, .bool false, .int .i64 0, .int .i64 0, .slice none 0 0, .slice none 0 0]) := Lib.hid (by
    rw [HW2, ← HGR.out, ← HGB.out, show w.heap.size + 1 = (w.alloc (.cells #[.int .i64 kd, .int .i64 fm, .bool fy, .int .i64 ln, .int .i64 fr, .slice A n c, .slice B m d] TC)).heap.size by simp]
    exact Obj1.new _ _ _)
  have hd2 : Below W2.heap.size W2 W2.drew := bel_drew W2
  have X0 : ∀ z : Kin W2.drew, Obj1 z.world gb TC #[.int .i64 kd, .int .i64 fm, .bool fy, .int .i64 ln, .int .i64 fr, .slice A n c, .slice B m d] := fun z => (HO1.out.drew).kept z.below
  have K0 : ∀ z : Kin W2.drew, z.world.cell? ⟨gb, 0, none⟩ = some (.int .i64 kd) := fun z => (X0 z).cell 0
  have K1 : ∀ z : Kin W2.drew, z.world.cell? ⟨gb, 1, none⟩ = some (.int .i64 fm) := fun z => (X0 z).cell 1
  have K2 : ∀ z : Kin W2.drew, z.world.cell? ⟨gb, 2, none⟩ = some (.bool fy) := fun z => (X0 z).cell 2
  have K3 : ∀ z : Kin W2.drew, z.world.cell? ⟨gb, 3, none⟩ = some (.int .i64 ln) := fun z => (X0 z).cell 3
  have K4 : ∀ z : Kin W2.drew, z.world.cell? ⟨gb, 4, none⟩ = some (.int .i64 fr) := fun z => (X0 z).cell 4
  have K5 : ∀ z : Kin W2.drew, z.world.cell? ⟨gb, 5, none⟩ = some (.slice A n c) := fun z => (X0 z).cell 5
  have K6 : ∀ z : Kin W2.drew, z.world.cell? ⟨gb, 6, none⟩ = some (.slice B m d) := fun z => (X0 z).cell 6
  have HLN : Hid (xs.length = n) := Lib.hid (by have := HA.out.1; simpa using this)
  have HZ : Hid (∀ z : Kin W2.drew, Below w.heap.size w z.world ∧ W2.heap.size ≤ z.world.heap.size) := Lib.hid (fun z => ⟨HB2.out.trans ((hd2.trans z.below).mono HB2.out.size), z.below.size⟩)
  have HC1 : Hid (∀ z : Kin W2.drew, Calls Try.prog 35 #[.agg #[.int .i64 kd, .int .i64 fm, .bool fy, .int .i64 ln, .int .i64 fr, .slice A n c]] z.world fun e w' => ∃ v, e = .returned v ∧ Below z.world.heap.size z.world w' ∧ NewF W2.heap.size kd fm fy ln fr n xs v w') := Lib.hid (fun z => by
    refine (clone_any kd fm fy ln fr A n c xs z.world hn (HA.out.kept (HZ.out z).1)).mono ?_
    rintro e w' ⟨g, rfl, hg, ho, hb⟩
    refine ⟨_, rfl, hb, g, rfl, Nat.le_trans (HZ.out z).2 hg, HA.out.1, fun hn => ⟨g, 0, rfl, ho.out.lt, fun k hk => by rw [Nat.zero_add, ho.out.cell, List.getElem?_toArray]⟩⟩)
  have HC2 : Hid (∀ z : Kin W2.drew, Calls Try.prog 41 #[.slice B m d] z.world fun e w' => ∃ v, e = .returned v ∧ Below z.world.heap.size z.world w' ∧ NewS W2.heap.size m ls v w') := Lib.hid (fun z => by
    refine (sclone_any B m d ls z.world (HW.out.kept (HZ.out z).1) hm).mono ?_
    rintro e w' ⟨v, rfl, ho, hb⟩
    obtain ⟨A', c', rfl⟩ := row_slice ho.out
    exact ⟨_, rfl, hb.out, _, _, rfl, own_mono ho.out (HZ.out z).2⟩)
  clear hW hA
  go_enter Try.func16, Try.ntmps16
  go_upto_region 1 with (fail)
  rw [← HW2, HGB.out, HGR.out]
  clear HW2
  refine wp_region_specL 6 [.d (.pointer (some ⟨gb, 0, none⟩)), .d (.agg #[.int .i64 kd, .int .i64 fm, .bool fy, .int .i64 ln, .int .i64 fr, .slice A n c]), .g (NewF W2.heap.size kd fm fy ln fr n xs), .d (.pointer (some ⟨gb, 6, none⟩)), .d (.slice B m d), .g (NewS W2.heap.size m ls)] (by kernel_rfl) (by kernel_rfl) ?_
  refine spec_d rfl (fun x _ => gives_run (by go_simp)) ?_
  try simp only [Act.put, List.getElem_toArray, List.getElem_cons_succ, List.getElem_cons_zero, List.setIfInBounds_toArray, List.set_cons_zero, List.set_cons_succ]
  refine spec_d rfl (fun x _ => gives_run (by go_simp)) ?_
  try simp only [Act.put, List.getElem_toArray, List.getElem_cons_succ, List.getElem_cons_zero, List.setIfInBounds_toArray, List.set_cons_zero, List.set_cons_succ]
  refine spec_g (NewF.stable _ _ _ _ _ _ _ _) (NewF.ex _ (Nat.le_refl _) HLN.out) rfl (fun z _ => gives_call (by go_simp) (HC1.out z)) ?_
  rintro v1 ⟨x1, g1, rfl, _, _⟩
  try simp only [Act.put, List.getElem_toArray, List.getElem_cons_succ, List.getElem_cons_zero, List.setIfInBounds_toArray, List.set_cons_zero, List.set_cons_succ]
  refine spec_d rfl (fun x _ => gives_run (by go_simp)) ?_
  try simp only [Act.put, List.getElem_toArray, List.getElem_cons_succ, List.getElem_cons_zero, List.setIfInBounds_toArray, List.set_cons_zero, List.set_cons_succ]
  refine spec_d rfl (fun x _ => gives_run (by go_simp)) ?_
  try simp only [Act.put, List.getElem_toArray, List.getElem_cons_succ, List.getElem_cons_zero, List.setIfInBounds_toArray, List.set_cons_zero, List.set_cons_succ]
  refine spec_g (NewS.stable _ _ _) (NewS.ex _ (Nat.le_refl _) HW.out.len hm) rfl (fun z _ => gives_call (by go_simp) (HC2.out z)) ?_
  rintro v2 ⟨x2, A2, c2, rfl, _⟩
  try simp only [Act.put, List.getElem_toArray, List.getElem_cons_succ, List.getElem_cons_zero, List.setIfInBounds_toArray, List.set_cons_zero, List.set_cons_succ]
  refine spec_end (fun z hz => ?_)
  have HNF : Hid (Lst z.world (some ⟨g1, 0, none⟩) n (xs.map (Value.int .u8)) ∧ W2.heap.size ≤ g1) := Lib.hid (by
    obtain ⟨g', e, h1, h2⟩ := hz _ (List.mem_cons_of_mem _ (List.mem_singleton.2 rfl))
    simp at e
    subst e
    exact ⟨h2, h1⟩)
  have HNS : Hid (z.world.ownsRow W2.heap.size TBS 4 (.slice A2 m c2) m (slC ls)) := Lib.hid (by
    obtain ⟨A', c', e, h1⟩ := hz _ (List.mem_cons_self ..)
    exact h1)
  clear hz
  have HORz : Hid (Obj1 z.world gr TC #[.int .i64 0, .int .i64 0, .bool false, .int .i64 0, .int .i64 0, .slice none 0 0, .slice none 0 0]) := Lib.hid ((HOR.out.drew).kept z.below)
  have HBZ := Lib.hid (HZ.out z).1
  clear K0 K1 K2 K3 K4 K5 K6 X0 HC1 HC2 HZ hd2
  generalize z.world = wz at HNF HNS HORz HBZ ⊢
  clear z
  change wpAny _ _ _ _ (1 + 1) _ _ _
  refine wpAny_ready (rs := [6]) (by kernel_rfl) (by simp) ?_
  refine AllReady.cons rfl (fun KK hK => ?_) AllReady.nil
  go_simp
  refine hK _ _ ?_
  clear hK KK
  try simp only [Act.put, List.getElem_toArray, List.getElem_cons_succ, List.getElem_cons_zero, List.setIfInBounds_toArray, List.set_cons_zero, List.set_cons_succ]
  change wpAny _ _ _ _ (0 + 1) _ _ _
  refine wpAny_ready (rs := [7]) (by kernel_rfl) (by simp) ?_
  refine AllReady.cons rfl (fun KK hK => ?_) AllReady.nil
  rw [if_pos (by rfl)]
  refine upon_row (ty := TC) (x := .tmp 2) (y := .tmp 9) rfl gr (#[.int .i64 kd, .int .i64 fm, .bool fy, .int .i64 ln, .int .i64 fr, .slice (some ⟨g1, 0, none⟩) n n, .slice A2 m c2]) rfl rfl TC #[.int .i64 0, .int .i64 0, .bool false, .int .i64 0, .int .i64 0, .slice none 0 0, .slice none 0 0] HORz.out (by kernel_rfl) rfl (by simp [Value.oneCell']) ?_
  refine hK _ _ ?_
  clear hK KK
  try simp only [Act.put, List.getElem_toArray, List.getElem_cons_succ, List.getElem_cons_zero, List.setIfInBounds_toArray, List.set_cons_zero, List.set_cons_succ]
  refine wpAny_done (by kernel_rfl) ?_ _
  have HW9 := Lib.hid (wrote_setRow HORz.out (#[.int .i64 kd, .int .i64 fm, .bool fy, .int .i64 ln, .int .i64 fr, .slice (some ⟨g1, 0, none⟩) n n, .slice A2 m c2]))
  generalize wz.setRow gr (#[.int .i64 kd, .int .i64 fm, .bool fy, .int .i64 ln, .int .i64 fr, .slice (some ⟨g1, 0, none⟩) n n, .slice A2 m c2]) = we at HW9 ⊢
  go_wp2
  have HE9 := Lib.hid HW9.out.1
  have HWR := Lib.hid HW9.out.2
  have r0 : we.cell? ⟨gr, 0, none⟩ = some (.int .i64 kd) := HE9.out.cell 0
  have r1 : we.cell? ⟨gr, 1, none⟩ = some (.int .i64 fm) := HE9.out.cell 1
  have r2 : we.cell? ⟨gr, 2, none⟩ = some (.bool fy) := HE9.out.cell 2
  have r3 : we.cell? ⟨gr, 3, none⟩ = some (.int .i64 ln) := HE9.out.cell 3
  have r4 : we.cell? ⟨gr, 4, none⟩ = some (.int .i64 fr) := HE9.out.cell 4
  have r5 : we.cell? ⟨gr, 5, none⟩ = some (.slice (some ⟨g1, 0, none⟩) n n) := HE9.out.cell 5
  have r6 : we.cell? ⟨gr, 6, none⟩ = some (.slice A2 m c2) := HE9.out.cell 6
  try rw [Exit.noGoto_ret]
  refine bodyPost_ret (v := .agg (#[.int .i64 kd, .int .i64 fm, .bool fy, .int .i64 ln, .int .i64 fr, .slice (some ⟨g1, 0, none⟩) n n, .slice A2 m c2])) (by simp [results, Try.results16, go_sem, r0, r1, r2, r3, r4, r5, r6]) rfl ?_
  have hgr : w.heap.size ≤ gr := by have := HGR.out; have := HGB.out; omega
  refine ⟨g1, A2, c2, rfl, Lib.hid (lst_by HNF.out.1 HWR.out (fun b off e hn e' => ?_)), Lib.hid (own_mono (HNS.out.kept HWR.out (.inr fun e => ?_)) HB2.out.size), Lib.hid (HBZ.out.trans (HWR.out.below hgr HBZ.out.size))⟩
  · injection e with e
    injection e with e1 _ _
    have h1 := Option.some.inj e'
    have h2 := HNF.out.2
    have h3 := HSZ.out
    omega
  · have h1 := (HNS.out.lt gr e).1
    have h3 := HSZ.out
    omega

/-! ### At, Healthy, one -/

def L1 : List Slp := [⟨0, false, 4399, 1⟩, ⟨0, false, 0, -1⟩]
def L2 : List Slp := [⟨0, false, 4400, 1⟩, ⟨0, false, 0, -1⟩]
theorem and1 : Go.bits BinOp.and IntKind.i64 1 4294967295 = 1 := by decide
theorem and0 : Go.bits BinOp.and IntKind.i64 0 4294967295 = 0 := by decide
set_option maxRecDepth 100000 in
set_option maxHeartbeats 1000000 in
theorem at_1 (b d : Nat) (w : World) (hW : SlsAt w (some ⟨b, 0, none⟩) 2 L1) :
    Calls Try.prog 39 #[.agg #[.int .i64 0, .int .i64 0, .bool false, .int .i64 0, .int .i64 0, .slice none 0 0, .slice (some ⟨b, 0, none⟩) 2 d], .int .i64 0, .bool false, .int .i64 4399] w fun e w' => e = .returned (.int .i64 1) ∧ Below w.heap.size w w' := by
  have HW := Lib.hid hW
  obtain ⟨gb, HGB⟩ : ∃ gb, Hid (w.heap.size = gb) := ⟨_, Lib.hid rfl⟩
  obtain ⟨W1, HW1⟩ : ∃ W1, W1 = w.alloc (.cells #[.int .i64 0, .int .i64 0, .bool false, .int .i64 0, .int .i64 0, .slice none 0 0, .slice (some ⟨b, 0, none⟩) 2 d] TC) := ⟨_, rfl⟩
  have HB1 : Hid (Below w.heap.size w W1) := Lib.hid (by rw [HW1]; exact bel1 _ _)
  have HO1 : Hid (Obj1 W1 gb TC #[.int .i64 0, .int .i64 0, .bool false, .int .i64 0, .int .i64 0, .slice none 0 0, .slice (some ⟨b, 0, none⟩) 2 d]) := Lib.hid (by rw [HW1, ← HGB.out]; exact Obj1.new _ _ _)
  have d6 := HO1.out.cell 6
  simp at d6
  have ha1 := and1
  have ha0 := and0
  clear hW
  go_enter Try.func39, Try.ntmps39
  go_upto_region 1 with (fail)
  rw [← HW1, HGB.out]
  clear HW1
  go_upto_block 2 with (fail)
  clear d6
  go_wp2_with fail
  go_loopw [9, 10, 16] (fun hi lo i wx => ∃ k : Nat, k ≤ 2 ∧ i = .int .i64 k ∧ hi = .int .i64 0 ∧ lo = .int .i64 (if k = 0 then 0 else 1) ∧ Below w.heap.size w wx) (fun _ _ i _ => 2 - (intOf i).toNat)
  case atStart => exact ⟨0, by omega, rfl, rfl, rfl, HB1.out⟩
  case round =>
    obtain ⟨k, hk, rfl, rfl, rfl, hbel⟩ := hrel
    have HBEL := Lib.hid hbel
    rcases (show k = 2 ∨ k = 0 ∨ k = 1 by omega) with rfl | rfl | rfl
    · clear hbel
      simp only [if_neg (show ¬ (2 : Nat) = 0 by omega)]
      go_wp2
      go_ret
      exact ⟨rfl, HBEL.out⟩
    · obtain ⟨b', off, e, hb, k0, k1, k2, k3⟩ := (HW.out.kept hbel).four (i := 0) (by omega) (x := ⟨0, false, 4399, 1⟩) rfl
      injection e with e
      injection e with e1 e2 _
      subst e1
      subst e2
      have HB5 : Hid (Below w.heap.size w (wr.alloc (.cells #[.int .i64 0, .bool false, .int .i64 4399, .int .i64 1] TBS))) := Lib.hid (HBEL.out.trans ((bel1 wr _).mono HBEL.out.size))
      clear hbel hb
      simp at k0 k1 k2 k3
      go_wp2
      go_roundw
      case rel => exact ⟨1, by omega, by first | rfl | go_num, rfl, by first | rfl | simp, HB5.out⟩
      case measure => simp [intOf]
    · obtain ⟨b', off, e, hb, k0, k1, k2, k3⟩ := (HW.out.kept hbel).four (i := 1) (by omega) (x := ⟨0, false, 0, -1⟩) rfl
      injection e with e
      injection e with e1 e2 _
      subst e1
      subst e2
      have HB5 : Hid (Below w.heap.size w (wr.alloc (.cells #[.int .i64 0, .bool false, .int .i64 0, .int .i64 (-1)] TBS))) := Lib.hid (HBEL.out.trans ((bel1 wr _).mono HBEL.out.size))
      clear hbel hb
      simp at k0 k1 k2 k3
      go_wp2
      go_roundw
      case rel => exact ⟨2, by omega, by first | rfl | go_num, rfl, by first | rfl | simp, HB5.out⟩
      case measure => simp [intOf]
set_option maxRecDepth 100000 in
set_option maxHeartbeats 1000000 in
theorem at_2 (b d : Nat) (w : World) (hW : SlsAt w (some ⟨b, 0, none⟩) 2 L1) :
    Calls Try.prog 39 #[.agg #[.int .i64 0, .int .i64 0, .bool false, .int .i64 0, .int .i64 0, .slice none 0 0, .slice (some ⟨b, 0, none⟩) 2 d], .int .i64 0, .bool true, .int .i64 0] w fun e w' => e = .returned (.int .i64 0) ∧ Below w.heap.size w w' := by
  have HW := Lib.hid hW
  obtain ⟨gb, HGB⟩ : ∃ gb, Hid (w.heap.size = gb) := ⟨_, Lib.hid rfl⟩
  obtain ⟨W1, HW1⟩ : ∃ W1, W1 = w.alloc (.cells #[.int .i64 0, .int .i64 0, .bool false, .int .i64 0, .int .i64 0, .slice none 0 0, .slice (some ⟨b, 0, none⟩) 2 d] TC) := ⟨_, rfl⟩
  have HB1 : Hid (Below w.heap.size w W1) := Lib.hid (by rw [HW1]; exact bel1 _ _)
  have HO1 : Hid (Obj1 W1 gb TC #[.int .i64 0, .int .i64 0, .bool false, .int .i64 0, .int .i64 0, .slice none 0 0, .slice (some ⟨b, 0, none⟩) 2 d]) := Lib.hid (by rw [HW1, ← HGB.out]; exact Obj1.new _ _ _)
  have d6 := HO1.out.cell 6
  simp at d6
  have ha1 := and1
  have ha0 := and0
  clear hW
  go_enter Try.func39, Try.ntmps39
  go_upto_region 1 with (fail)
  rw [← HW1, HGB.out]
  clear HW1
  go_upto_block 2 with (fail)
  clear d6
  go_wp2_with fail
  go_loopw [9, 10, 16] (fun hi lo i wx => ∃ k : Nat, k ≤ 2 ∧ i = .int .i64 k ∧ hi = .int .i64 0 ∧ lo = .int .i64 (if k = 0 then 0 else 0) ∧ Below w.heap.size w wx) (fun _ _ i _ => 2 - (intOf i).toNat)
  case atStart => exact ⟨0, by omega, rfl, rfl, rfl, HB1.out⟩
  case round =>
    obtain ⟨k, hk, rfl, rfl, rfl, hbel⟩ := hrel
    have HBEL := Lib.hid hbel
    rcases (show k = 2 ∨ k = 0 ∨ k = 1 by omega) with rfl | rfl | rfl
    · clear hbel
      simp only [if_neg (show ¬ (2 : Nat) = 0 by omega)]
      go_wp2
      go_ret
      exact ⟨rfl, HBEL.out⟩
    · obtain ⟨b', off, e, hb, k0, k1, k2, k3⟩ := (HW.out.kept hbel).four (i := 0) (by omega) (x := ⟨0, false, 4399, 1⟩) rfl
      injection e with e
      injection e with e1 e2 _
      subst e1
      subst e2
      have HB5 : Hid (Below w.heap.size w (wr.alloc (.cells #[.int .i64 0, .bool false, .int .i64 4399, .int .i64 1] TBS))) := Lib.hid (HBEL.out.trans ((bel1 wr _).mono HBEL.out.size))
      clear hbel hb
      simp at k0 k1 k2 k3
      go_wp2
      go_roundw
      case rel => exact ⟨1, by omega, by first | rfl | go_num, rfl, by first | rfl | simp, HB5.out⟩
      case measure => simp [intOf]
    · obtain ⟨b', off, e, hb, k0, k1, k2, k3⟩ := (HW.out.kept hbel).four (i := 1) (by omega) (x := ⟨0, false, 0, -1⟩) rfl
      injection e with e
      injection e with e1 e2 _
      subst e1
      subst e2
      have HB5 : Hid (Below w.heap.size w (wr.alloc (.cells #[.int .i64 0, .bool false, .int .i64 0, .int .i64 (-1)] TBS))) := Lib.hid (HBEL.out.trans ((bel1 wr _).mono HBEL.out.size))
      clear hbel hb
      simp at k0 k1 k2 k3
      go_wp2
      go_roundw
      case rel => exact ⟨2, by omega, by first | rfl | go_num, rfl, by first | rfl | simp, HB5.out⟩
      case measure => simp [intOf]
end Go.Proofs.Ytejhjpdcodloaaa.Ly21
