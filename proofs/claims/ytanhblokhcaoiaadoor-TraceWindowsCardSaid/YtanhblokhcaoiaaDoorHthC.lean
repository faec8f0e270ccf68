/- Package health's numbers: the document's Text, Numbers, Sum, Fit; no condition but sizes. -/
import Derived.Test.YtanhblokhcaoiaaDoorHthB
namespace Go.Proofs.YtanhblokhcaoiaaDoor.Hl
open Go.ChangeShapes Go.WideShapes Go.ChangeAt Go.RowKit Base
open Joi (stV)
open Dg (nuT nu_len gives_cat PtL join_snoc num_any)
set_option linter.unusedVariables false
set_option linter.unusedSimpArgs false

theorem nm_cell {w : World} {g : Nat} {T : TypeId} (h : Obj1 w g T #[.string ⟨#[115, 101, 110, 116]⟩, .string ⟨#[116, 111, 111, 107]⟩, .string ⟨#[109, 105, 115, 115, 101, 100]⟩, .string ⟨#[115, 121, 110, 99, 101, 100]⟩, .string ⟨#[108, 111, 115, 116]⟩, .string ⟨#[100, 105, 101, 100]⟩, .string ⟨#[116, 117, 114, 110, 101, 100]⟩]) {k : Nat} (hk : k < 7) : w.cell? ⟨g, k, none⟩ = some (.string ⟨(nmH k).toArray⟩) := by
  rw [h.cell]
  rcases seven hk with rfl | rfl | rfl | rfl | rfl | rfl | rfl <;> rfl
set_option maxRecDepth 100000 in
set_option maxHeartbeats 4000000 in
theorem rtext_any (f : Nat → Int) (w : World) (ho : ∀ i, f i ≤ 9223372036854775807) :
    Calls Tryd.prog 25 #[.agg #[.int .i64 (f 0), .int .i64 (f 1), .int .i64 (f 2), .int .i64 (f 3), .int .i64 (f 4), .int .i64 (f 5), .int .i64 (f 6)]] w fun e' w' => e' = .returned (.string ⟨(txH f 7).toArray⟩) ∧ Below w.heap.size w w' := by
  obtain ⟨gb, HGB⟩ : ∃ gb, Hid (w.heap.size = gb) := ⟨_, Lib.hid rfl⟩
  obtain ⟨gn, HGN⟩ : ∃ gn, Hid (gb + 1 = gn) := ⟨_, Lib.hid rfl⟩
  obtain ⟨W1, HW1⟩ : ∃ W1, Hid (W1 = w.alloc (.cells #[.int .i64 (f 0), .int .i64 (f 1), .int .i64 (f 2), .int .i64 (f 3), .int .i64 (f 4), .int .i64 (f 5), .int .i64 (f 6)] T7)) := ⟨_, Lib.hid rfl⟩
  have hb1 : Below w.heap.size w W1 := by rw [HW1.out]; exact bel_new _ _
  have s1 : W1.heap.size = gn := by rw [HW1.out, ← HGN.out, ← HGB.out]; simp
  obtain ⟨W2, HW2⟩ : ∃ W2, Hid (W2 = W1.alloc (.cells #[.string ⟨#[115, 101, 110, 116]⟩, .string ⟨#[116, 111, 111, 107]⟩, .string ⟨#[109, 105, 115, 115, 101, 100]⟩, .string ⟨#[115, 121, 110, 99, 101, 100]⟩, .string ⟨#[108, 111, 115, 116]⟩, .string ⟨#[100, 105, 101, 100]⟩, .string ⟨#[116, 117, 114, 110, 101, 100]⟩] 73)) := ⟨_, Lib.hid rfl⟩
  have hb2 : Below W1.heap.size W1 W2 := by rw [HW2.out]; exact bel_new _ _
  have HB2 : Hid (Below w.heap.size w W2) := Lib.hid (hb1.trans (hb2.mono hb1.size))
  have HOB : Hid (Obj1 W2 gb T7 (c7 f)) := Lib.hid ((show Obj1 W1 gb T7 (c7 f) by rw [HW1.out, ← HGB.out]; exact Obj1.new _ _ _).kept hb2)
  have HON : Hid (Obj1 W2 gn 73 #[.string ⟨#[115, 101, 110, 116]⟩, .string ⟨#[116, 111, 111, 107]⟩, .string ⟨#[109, 105, 115, 115, 101, 100]⟩, .string ⟨#[115, 121, 110, 99, 101, 100]⟩, .string ⟨#[108, 111, 115, 116]⟩, .string ⟨#[100, 105, 101, 100]⟩, .string ⟨#[116, 117, 114, 110, 101, 100]⟩]) := Lib.hid (by rw [HW2.out, ← s1]; exact Obj1.new _ _ _)
  have HCC : Hid (∀ W, Below W2.heap.size W2 W → ∀ i, i < 7 → W.cell? ⟨gb, i, none⟩ = some (.int .i64 (f i))) := Lib.hid (fun W h i hi => cell7 (HOB.out.kept h) hi)
  have HCN : Hid (∀ W, Below W2.heap.size W2 W → ∀ i, i < 7 → W.cell? ⟨gn, i, none⟩ = some (.string ⟨(nmH i).toArray⟩)) := Lib.hid (fun W h i hi => nm_cell (HON.out.kept h) hi)
  have HS1 := Lib.hid s1
  have HOO := Lib.hid ho
  have HTL := Lib.hid (fun k => txH_len f ho k)
  clear ho hb1 hb2 s1
  go_enter Tryd.func25, Tryd.ntmps25
  go_upto_region 1 with (fail)
  rw [← HW1.out, HGB.out]
  go_upto_region 2 with (fail)
  rw [← HW2.out, HS1.out]
  clear HW1 HW2 HS1 HGN
  go_wp2_with fail
  go_loopw [5, 4] (fun i s wx => ∃ k : Nat, k ≤ 7 ∧ i = .int .i64 k ∧ s = .string ⟨(txH f k).toArray⟩ ∧ Below W2.heap.size W2 wx) (fun i _ _ => 7 - (intOf i).toNat)
  case atStart => exact ⟨0, by omega, rfl, rfl, Below.refl _ _⟩
  case round =>
    obtain ⟨k, hk, rfl, rfl, hbk⟩ := hrel
    have HBK := Lib.hid hbk
    by_cases hlt : k < 7
    · have hki : (k : Int) < 7 := by omega
      have hk0 : (0 : Int) ≤ (k : Int) := by omega
      have hcl := HCC.out wr hbk k hlt
      have hcn := HCN.out wr hbk k hlt
      have hok := HOO.out k
      obtain ⟨v, hv⟩ : ∃ v, f k = v := ⟨_, rfl⟩
      rw [hv] at hcl hok
      obtain ⟨m, hm⟩ : ∃ m, max v 0 = m := ⟨_, rfl⟩
      have HNX : Hid (txH f (k + 1) = (if 0 < k then txH f k ++ [32] else txH f k) ++ nmH k ++ [32] ++ Lib.itoa m) := Lib.hid (by show _ ++ nuT (f k) = _; unfold nuT; rw [hv, hm])
      have hsl := HTL.out k
      obtain ⟨S, HS⟩ : ∃ S, Hid (txH f k = S) := ⟨_, Lib.hid rfl⟩
      rw [HS.out] at HNX hsl ⊢
      have hml := Txt.itoa_len m (by omega) (by omega)
      have hnl := nmH_len k
      have HD := Lib.hid (fun W => Txt.rDigits_any m (by omega) (by omega) W)
      have e2 : IntKind.i64.wrap ((k : Int) + 1) = (k : Int) + 1 := IntWalk.i64_in _ (by omega)
      have K0 : ∀ z : Kin wr.drew, z.world.cell? ⟨gn, k, none⟩ = some (.string ⟨(nmH k).toArray⟩) := fun z => Kin.at (w := wr.drew) hcn z
      have K1 : ∀ z : Kin wr.drew, z.world.cell? ⟨gb, k, none⟩ = some (.int .i64 v) := fun z => Kin.at (w := wr.drew) hcl z
      clear hv hbk
      by_cases hkz : 0 < k
      · rw [if_pos hkz] at HNX
        have hkzi : (0 : Int) < (k : Int) := by omega
        go_upto_region 8 with (fail)
        all_goals first | (exfalso; simp at *; omega) | skip
        clear hcl hcn
        rw [Txt.str_app S [32]]
        refine wp_region_specL 12 [.d (.string ⟨((S ++ [32])).toArray⟩), .d (.int .i64 k), .d (.pointer (some ⟨gn, k, none⟩)), .d (.string ⟨(nmH k).toArray⟩), .d (.string ⟨((S ++ [32]) ++ nmH k).toArray⟩), .d (.string ⟨((S ++ [32]) ++ nmH k ++ [32]).toArray⟩), .d (.int .i64 k), .d (.pointer (some ⟨gb, k, none⟩)), .d (.int .i64 v), .d (.int .i64 m), .d (.string ⟨(Lib.itoa m).toArray⟩), .d (.string ⟨((S ++ [32]) ++ nmH k ++ [32] ++ Lib.itoa m).toArray⟩)] (by kernel_rfl) (by kernel_rfl) ?_
        refine spec_d rfl (fun x _ => gives_run (by go_simp)) ?_
        try simp only [Act.put, List.getElem_toArray, List.getElem_cons_succ, List.getElem_cons_zero, List.setIfInBounds_toArray, List.set_cons_zero, List.set_cons_succ]
        refine spec_d rfl (fun x _ => gives_run (by go_simp)) ?_
        try simp only [Act.put, List.getElem_toArray, List.getElem_cons_succ, List.getElem_cons_zero, List.setIfInBounds_toArray, List.set_cons_zero, List.set_cons_succ]
        refine spec_d rfl (fun x _ => gives_run (by go_simp)) ?_
        try simp only [Act.put, List.getElem_toArray, List.getElem_cons_succ, List.getElem_cons_zero, List.setIfInBounds_toArray, List.set_cons_zero, List.set_cons_succ]
        refine spec_d rfl (fun x _ => gives_run (by go_simp)) ?_
        try simp only [Act.put, List.getElem_toArray, List.getElem_cons_succ, List.getElem_cons_zero, List.setIfInBounds_toArray, List.set_cons_zero, List.set_cons_succ]
        refine spec_d rfl (fun z _ => gives_cat rfl rfl rfl (by (try simp only [List.length_append, List.length_cons, List.length_nil]); omega)) ?_
        try simp only [Act.put, List.getElem_toArray, List.getElem_cons_succ, List.getElem_cons_zero, List.setIfInBounds_toArray, List.set_cons_zero, List.set_cons_succ]
        refine spec_d rfl (fun z _ => gives_cat rfl rfl rfl (by (try simp only [List.length_append, List.length_cons, List.length_nil]); omega)) ?_
        try simp only [Act.put, List.getElem_toArray, List.getElem_cons_succ, List.getElem_cons_zero, List.setIfInBounds_toArray, List.set_cons_zero, List.set_cons_succ]
        refine spec_d rfl (fun x _ => gives_run (by go_simp)) ?_
        try simp only [Act.put, List.getElem_toArray, List.getElem_cons_succ, List.getElem_cons_zero, List.setIfInBounds_toArray, List.set_cons_zero, List.set_cons_succ]
        refine spec_d rfl (fun x _ => gives_run (by go_simp)) ?_
        try simp only [Act.put, List.getElem_toArray, List.getElem_cons_succ, List.getElem_cons_zero, List.setIfInBounds_toArray, List.set_cons_zero, List.set_cons_succ]
        refine spec_d rfl (fun x _ => gives_run (by go_simp)) ?_
        try simp only [Act.put, List.getElem_toArray, List.getElem_cons_succ, List.getElem_cons_zero, List.setIfInBounds_toArray, List.set_cons_zero, List.set_cons_succ]
        refine spec_d rfl (fun x _ => gives_run (by go_simp)) ?_
        try simp only [Act.put, List.getElem_toArray, List.getElem_cons_succ, List.getElem_cons_zero, List.setIfInBounds_toArray, List.set_cons_zero, List.set_cons_succ]
        refine spec_d rfl (fun z _ => gives_det (by go_simp) (HD.out z.world)) ?_
        try simp only [Act.put, List.getElem_toArray, List.getElem_cons_succ, List.getElem_cons_zero, List.setIfInBounds_toArray, List.set_cons_zero, List.set_cons_succ]
        refine spec_d rfl (fun z _ => gives_cat rfl rfl rfl (by (try simp only [List.length_append, List.length_cons, List.length_nil]); omega)) ?_
        try simp only [Act.put, List.getElem_toArray, List.getElem_cons_succ, List.getElem_cons_zero, List.setIfInBounds_toArray, List.set_cons_zero, List.set_cons_succ]
        refine spec_end (fun z hz => ?_)
        clear hz
        change wpAny _ _ _ _ (0 + 1) _ _ _
        refine wpAny_ready (rs := [12]) (by kernel_rfl) (by simp) ?_
        refine AllReady.cons rfl (fun KK hK => ?_) AllReady.nil
        go_simp
        refine hK _ _ ?_
        clear hK KK
        try simp only [Act.put, List.getElem_toArray, List.getElem_cons_succ, List.getElem_cons_zero, List.setIfInBounds_toArray, List.set_cons_zero, List.set_cons_succ]
        refine wpAny_done (by kernel_rfl) ?_ _
        have HB5 := Lib.hid (HBK.out.trans (((bel_drew wr).trans z.below).mono HBK.out.size))
        clear K0 K1
        generalize z.world = w5 at HB5 ⊢
        clear z
        go_wp2
        go_roundw
        case rel => exact ⟨k + 1, by omega, by go_num, by rw [HNX.out]; simp, HB5.out⟩
        case measure => simp [intOf]; omega
      · rw [if_neg hkz] at HNX
        have hkzi : ¬ (0 : Int) < (k : Int) := by omega
        go_upto_region 8 with (fail)
        clear hcl hcn
        refine wp_region_specL 12 [.d (.string ⟨(S).toArray⟩), .d (.int .i64 k), .d (.pointer (some ⟨gn, k, none⟩)), .d (.string ⟨(nmH k).toArray⟩), .d (.string ⟨(S ++ nmH k).toArray⟩), .d (.string ⟨(S ++ nmH k ++ [32]).toArray⟩), .d (.int .i64 k), .d (.pointer (some ⟨gb, k, none⟩)), .d (.int .i64 v), .d (.int .i64 m), .d (.string ⟨(Lib.itoa m).toArray⟩), .d (.string ⟨(S ++ nmH k ++ [32] ++ Lib.itoa m).toArray⟩)] (by kernel_rfl) (by kernel_rfl) ?_
        refine spec_d rfl (fun x _ => gives_run (by go_simp)) ?_
        try simp only [Act.put, List.getElem_toArray, List.getElem_cons_succ, List.getElem_cons_zero, List.setIfInBounds_toArray, List.set_cons_zero, List.set_cons_succ]
        refine spec_d rfl (fun x _ => gives_run (by go_simp)) ?_
        try simp only [Act.put, List.getElem_toArray, List.getElem_cons_succ, List.getElem_cons_zero, List.setIfInBounds_toArray, List.set_cons_zero, List.set_cons_succ]
        refine spec_d rfl (fun x _ => gives_run (by go_simp)) ?_
        try simp only [Act.put, List.getElem_toArray, List.getElem_cons_succ, List.getElem_cons_zero, List.setIfInBounds_toArray, List.set_cons_zero, List.set_cons_succ]
        refine spec_d rfl (fun x _ => gives_run (by go_simp)) ?_
        try simp only [Act.put, List.getElem_toArray, List.getElem_cons_succ, List.getElem_cons_zero, List.setIfInBounds_toArray, List.set_cons_zero, List.set_cons_succ]
        refine spec_d rfl (fun z _ => gives_cat rfl rfl rfl (by (try simp only [List.length_append, List.length_cons, List.length_nil]); omega)) ?_
        try simp only [Act.put, List.getElem_toArray, List.getElem_cons_succ, List.getElem_cons_zero, List.setIfInBounds_toArray, List.set_cons_zero, List.set_cons_succ]
        refine spec_d rfl (fun z _ => gives_cat rfl rfl rfl (by (try simp only [List.length_append, List.length_cons, List.length_nil]); omega)) ?_
        try simp only [Act.put, List.getElem_toArray, List.getElem_cons_succ, List.getElem_cons_zero, List.setIfInBounds_toArray, List.set_cons_zero, List.set_cons_succ]
        refine spec_d rfl (fun x _ => gives_run (by go_simp)) ?_
        try simp only [Act.put, List.getElem_toArray, List.getElem_cons_succ, List.getElem_cons_zero, List.setIfInBounds_toArray, List.set_cons_zero, List.set_cons_succ]
        refine spec_d rfl (fun x _ => gives_run (by go_simp)) ?_
        try simp only [Act.put, List.getElem_toArray, List.getElem_cons_succ, List.getElem_cons_zero, List.setIfInBounds_toArray, List.set_cons_zero, List.set_cons_succ]
        refine spec_d rfl (fun x _ => gives_run (by go_simp)) ?_
        try simp only [Act.put, List.getElem_toArray, List.getElem_cons_succ, List.getElem_cons_zero, List.setIfInBounds_toArray, List.set_cons_zero, List.set_cons_succ]
        refine spec_d rfl (fun x _ => gives_run (by go_simp)) ?_
        try simp only [Act.put, List.getElem_toArray, List.getElem_cons_succ, List.getElem_cons_zero, List.setIfInBounds_toArray, List.set_cons_zero, List.set_cons_succ]
        refine spec_d rfl (fun z _ => gives_det (by go_simp) (HD.out z.world)) ?_
        try simp only [Act.put, List.getElem_toArray, List.getElem_cons_succ, List.getElem_cons_zero, List.setIfInBounds_toArray, List.set_cons_zero, List.set_cons_succ]
        refine spec_d rfl (fun z _ => gives_cat rfl rfl rfl (by (try simp only [List.length_append, List.length_cons, List.length_nil]); omega)) ?_
        try simp only [Act.put, List.getElem_toArray, List.getElem_cons_succ, List.getElem_cons_zero, List.setIfInBounds_toArray, List.set_cons_zero, List.set_cons_succ]
        refine spec_end (fun z hz => ?_)
        clear hz
        change wpAny _ _ _ _ (0 + 1) _ _ _
        refine wpAny_ready (rs := [12]) (by kernel_rfl) (by simp) ?_
        refine AllReady.cons rfl (fun KK hK => ?_) AllReady.nil
        go_simp
        refine hK _ _ ?_
        clear hK KK
        try simp only [Act.put, List.getElem_toArray, List.getElem_cons_succ, List.getElem_cons_zero, List.setIfInBounds_toArray, List.set_cons_zero, List.set_cons_succ]
        refine wpAny_done (by kernel_rfl) ?_ _
        have HB5 := Lib.hid (HBK.out.trans (((bel_drew wr).trans z.below).mono HBK.out.size))
        clear K0 K1
        generalize z.world = w5 at HB5 ⊢
        clear z
        go_wp2
        go_roundw
        case rel => exact ⟨k + 1, by omega, by go_num, by rw [HNX.out]; simp, HB5.out⟩
        case measure => simp [intOf]; omega
    · have hke : k = 7 := by omega
      subst hke
      clear hbk
      go_wp2
      go_ret
      exact ⟨rfl, HB2.out.trans (HBK.out.mono HB2.out.size)⟩

/-! ### Numbers, Sum, Fit -/

theorem info_7 : (Tryd.prog.info? T7).map (fun i => (i.zero, i.size)) = some (some (.agg #[.int .i64 0, .int .i64 0, .int .i64 0, .int .i64 0, .int .i64 0, .int .i64 0, .int .i64 0]), 7) := by kernel_rfl
set_option maxRecDepth 100000 in
set_option maxHeartbeats 2000000 in
theorem num_any' (f : Nat → Int) (w : World) : Calls Tryd.prog 21 #[.agg #[.int .i64 (f 0), .int .i64 (f 1), .int .i64 (f 2), .int .i64 (f 3), .int .i64 (f 4), .int .i64 (f 5), .int .i64 (f 6)]] w fun e' w' => e' = .returned (.agg (c7 f)) ∧ Below w.heap.size w w' := by
  obtain ⟨iz, hiz, hzz, hsz⟩ := info_two info_7
  have HSI : Hid ((Tryd.prog.info? T7).map (·.size) = some 7) := Lib.hid (by rw [hiz]; simp [hsz])
  obtain ⟨gb, HGB⟩ : ∃ gb, Hid (w.heap.size = gb) := ⟨_, Lib.hid rfl⟩
  obtain ⟨gn, HGN⟩ : ∃ gn, Hid (gb + 1 = gn) := ⟨_, Lib.hid rfl⟩
  obtain ⟨W1, HW1⟩ : ∃ W1, Hid (W1 = w.alloc (.cells #[.int .i64 (f 0), .int .i64 (f 1), .int .i64 (f 2), .int .i64 (f 3), .int .i64 (f 4), .int .i64 (f 5), .int .i64 (f 6)] TH)) := ⟨_, Lib.hid rfl⟩
  have hb1 : Below w.heap.size w W1 := by rw [HW1.out]; exact bel_new _ _
  have s1 : W1.heap.size = gn := by rw [HW1.out, ← HGN.out, ← HGB.out]; simp
  obtain ⟨W2, HW2⟩ : ∃ W2, Hid (W2 = W1.alloc (.cells #[.int .i64 0, .int .i64 0, .int .i64 0, .int .i64 0, .int .i64 0, .int .i64 0, .int .i64 0] T7)) := ⟨_, Lib.hid rfl⟩
  have hb2 : Below W1.heap.size W1 W2 := by rw [HW2.out]; exact bel_new _ _
  have HB2 : Hid (Below w.heap.size w W2) := Lib.hid (hb1.trans (hb2.mono hb1.size))
  have HOB : Hid (Obj1 W2 gb TH (c7 f)) := Lib.hid ((show Obj1 W1 gb TH (c7 f) by rw [HW1.out, ← HGB.out]; exact Obj1.new _ _ _).kept hb2)
  have HON : Hid (Obj1 W2 gn T7 (c7 (fun _ => 0))) := Lib.hid (by rw [HW2.out, ← s1]; exact Obj1.new _ _ _)
  have HS1 := Lib.hid s1
  have HGG : Hid (w.heap.size ≤ gn) := Lib.hid (by have := HGB.out; have := HGN.out; omega)
  clear hb1 hb2 s1
  go_enter Tryd.func21, Tryd.ntmps21
  go_upto_region 1 with (fail)
  rw [← HW1.out, ← HW2.out, HGB.out, HGN.out]
  clear HW1 HW2 HS1 HGN HGB
  have q0 : W2.cell? ⟨gb, 0, none⟩ = some (.int .i64 (f 0)) := HOB.out.cell 0
  have q1 : W2.cell? ⟨gb, 1, none⟩ = some (.int .i64 (f 1)) := HOB.out.cell 1
  have q2 : W2.cell? ⟨gb, 2, none⟩ = some (.int .i64 (f 2)) := HOB.out.cell 2
  have q3 : W2.cell? ⟨gb, 3, none⟩ = some (.int .i64 (f 3)) := HOB.out.cell 3
  have q4 : W2.cell? ⟨gb, 4, none⟩ = some (.int .i64 (f 4)) := HOB.out.cell 4
  have q5 : W2.cell? ⟨gb, 5, none⟩ = some (.int .i64 (f 5)) := HOB.out.cell 5
  have q6 : W2.cell? ⟨gb, 6, none⟩ = some (.int .i64 (f 6)) := HOB.out.cell 6
  go_wp2_with ((with_reducible show wpList _ _ _ (Oper.mk none _ _ _ _ _ :: _) _ _); go_must (refine wpList_store_row rfl T7 _ _ rfl gn (c7 f) rfl rfl T7 _ HON.out HSI.out rfl (one_c7 f) ?_))
  have HW9 := Lib.hid (wrote_row (w := W2) HON.out (c7 f))
  generalize W2.setRow gn (c7 f) = we at HW9 ⊢
  have HE9 := Lib.hid HW9.out.1
  try rw [Exit.noGoto_ret]
  refine bodyPost_ret (v := .agg (c7 f)) (results_cell_row rfl _ _ gn T7 _ (0, 0) _ rfl HE9.out Tryd.underlying43 rfl HSI.out) rfl ?_
  exact ⟨rfl, HB2.out.trans (HW9.out.2.below HGG.out HB2.out.size)⟩
set_option maxRecDepth 100000 in
set_option maxHeartbeats 2000000 in
theorem sum_any (f g s : Nat → Int) (w : World) (hs : ∀ i, i < 7 → f i + g i = s i ∧ -9223372036854775808 ≤ s i ∧ s i ≤ 9223372036854775807) :
    Calls Tryd.prog 22 #[.agg #[.int .i64 (f 0), .int .i64 (f 1), .int .i64 (f 2), .int .i64 (f 3), .int .i64 (f 4), .int .i64 (f 5), .int .i64 (f 6)], .agg #[.int .i64 (g 0), .int .i64 (g 1), .int .i64 (g 2), .int .i64 (g 3), .int .i64 (g 4), .int .i64 (g 5), .int .i64 (g 6)]] w fun e' w' => e' = .returned (.agg (c7 s)) ∧ Below w.heap.size w w' := by
  obtain ⟨iz, hiz, hzz, hsz⟩ := info_two info_h
  have HSI : Hid ((Tryd.prog.info? TH).map (·.size) = some 7) := Lib.hid (by rw [hiz]; simp [hsz])
  have hw := fun (i : Nat) (hi : i < 7) => (show IntKind.i64.wrap (f i + g i) = s i by rw [(hs i hi).1, IntWalk.i64_in _ (hs i hi).2])
  have w0 := hw 0 (by omega)
  have w1 := hw 1 (by omega)
  have w2 := hw 2 (by omega)
  have w3 := hw 3 (by omega)
  have w4 := hw 4 (by omega)
  have w5 := hw 5 (by omega)
  have w6 := hw 6 (by omega)
  obtain ⟨gb, HGB⟩ : ∃ gb, Hid (w.heap.size = gb) := ⟨_, Lib.hid rfl⟩
  obtain ⟨gc, HGC⟩ : ∃ gc, Hid (gb + 1 = gc) := ⟨_, Lib.hid rfl⟩
  obtain ⟨gn, HGN⟩ : ∃ gn, Hid (gc + 1 = gn) := ⟨_, Lib.hid rfl⟩
  obtain ⟨W1, HW1⟩ : ∃ W1, Hid (W1 = w.alloc (.cells #[.int .i64 (f 0), .int .i64 (f 1), .int .i64 (f 2), .int .i64 (f 3), .int .i64 (f 4), .int .i64 (f 5), .int .i64 (f 6)] TH)) := ⟨_, Lib.hid rfl⟩
  have hb1 : Below w.heap.size w W1 := by rw [HW1.out]; exact bel_new _ _
  have s1 : W1.heap.size = gc := by rw [HW1.out, ← HGC.out, ← HGB.out]; simp
  obtain ⟨W2, HW2⟩ : ∃ W2, Hid (W2 = W1.alloc (.cells #[.int .i64 (g 0), .int .i64 (g 1), .int .i64 (g 2), .int .i64 (g 3), .int .i64 (g 4), .int .i64 (g 5), .int .i64 (g 6)] TH)) := ⟨_, Lib.hid rfl⟩
  have hb2 : Below W1.heap.size W1 W2 := by rw [HW2.out]; exact bel_new _ _
  have s2 : W2.heap.size = gn := by rw [HW2.out, ← HGN.out, ← s1]; simp
  obtain ⟨W3, HW3⟩ : ∃ W3, Hid (W3 = W2.alloc (.cells #[.int .i64 0, .int .i64 0, .int .i64 0, .int .i64 0, .int .i64 0, .int .i64 0, .int .i64 0] TH)) := ⟨_, Lib.hid rfl⟩
  have hb3 : Below W2.heap.size W2 W3 := by rw [HW3.out]; exact bel_new _ _
  have HB3 : Hid (Below w.heap.size w W3) := Lib.hid (hb1.trans ((hb2.trans (hb3.mono hb2.size)).mono hb1.size))
  have HOB : Hid (Obj1 W3 gb TH (c7 f)) := Lib.hid (((show Obj1 W1 gb TH (c7 f) by rw [HW1.out, ← HGB.out]; exact Obj1.new _ _ _).kept hb2).kept hb3)
  have HOC : Hid (Obj1 W3 gc TH (c7 g)) := Lib.hid ((show Obj1 W2 gc TH (c7 g) by rw [HW2.out, ← s1]; exact Obj1.new _ _ _).kept hb3)
  have HON : Hid (Obj1 W3 gn TH (c7 (fun _ => 0))) := Lib.hid (by rw [HW3.out, ← s2]; exact Obj1.new _ _ _)
  have HS1 := Lib.hid s1
  have HS2 := Lib.hid s2
  have HGG : Hid (w.heap.size ≤ gn) := Lib.hid (by have := HGB.out; have := HGC.out; have := HGN.out; omega)
  clear hb1 hb2 hb3 s1 s2 hw hs
  go_enter Tryd.func22, Tryd.ntmps22
  go_upto_region 1 with (fail)
  rw [← HW1.out, ← HW2.out, ← HW3.out, HGB.out, HGC.out, HGN.out]
  clear HW1 HW2 HW3 HS1 HS2 HGN HGB HGC
  have q0 : W3.cell? ⟨gb, 0, none⟩ = some (.int .i64 (f 0)) := HOB.out.cell 0
  have q1 : W3.cell? ⟨gb, 1, none⟩ = some (.int .i64 (f 1)) := HOB.out.cell 1
  have q2 : W3.cell? ⟨gb, 2, none⟩ = some (.int .i64 (f 2)) := HOB.out.cell 2
  have q3 : W3.cell? ⟨gb, 3, none⟩ = some (.int .i64 (f 3)) := HOB.out.cell 3
  have q4 : W3.cell? ⟨gb, 4, none⟩ = some (.int .i64 (f 4)) := HOB.out.cell 4
  have q5 : W3.cell? ⟨gb, 5, none⟩ = some (.int .i64 (f 5)) := HOB.out.cell 5
  have q6 : W3.cell? ⟨gb, 6, none⟩ = some (.int .i64 (f 6)) := HOB.out.cell 6
  have r0 : W3.cell? ⟨gc, 0, none⟩ = some (.int .i64 (g 0)) := HOC.out.cell 0
  have r1 : W3.cell? ⟨gc, 1, none⟩ = some (.int .i64 (g 1)) := HOC.out.cell 1
  have r2 : W3.cell? ⟨gc, 2, none⟩ = some (.int .i64 (g 2)) := HOC.out.cell 2
  have r3 : W3.cell? ⟨gc, 3, none⟩ = some (.int .i64 (g 3)) := HOC.out.cell 3
  have r4 : W3.cell? ⟨gc, 4, none⟩ = some (.int .i64 (g 4)) := HOC.out.cell 4
  have r5 : W3.cell? ⟨gc, 5, none⟩ = some (.int .i64 (g 5)) := HOC.out.cell 5
  have r6 : W3.cell? ⟨gc, 6, none⟩ = some (.int .i64 (g 6)) := HOC.out.cell 6
  go_wp2_with ((with_reducible show wpList _ _ _ (Oper.mk none _ _ _ _ _ :: _) _ _); go_must (refine wpList_store_row rfl TH _ _ rfl gn (c7 s) rfl rfl TH _ HON.out HSI.out rfl (one_c7 s) ?_))
  have HW9 := Lib.hid (wrote_row (w := W3) HON.out (c7 s))
  generalize W3.setRow gn (c7 s) = we at HW9 ⊢
  have HE9 := Lib.hid HW9.out.1
  try rw [Exit.noGoto_ret]
  refine bodyPost_ret (v := .agg (c7 s)) (results_cell_row rfl _ _ gn TH _ (0, 0) _ rfl HE9.out Tryd.underlying42 rfl HSI.out) rfl ?_
  exact ⟨rfl, HB3.out.trans (HW9.out.2.below HGG.out HB3.out.size)⟩
/-- How many of a thousand it took. -/
def fitF (a b : Int) : Int := if 0 < a + b then (1000 * a).tdiv (a + b) else 1000
set_option maxRecDepth 100000 in
set_option maxHeartbeats 2000000 in
theorem fit_any (f : Nat → Int) (w : World) (h1 : 0 ≤ f 1 ∧ f 1 ≤ 1000000) (h2 : 0 ≤ f 2 ∧ f 2 ≤ 1000000) : Calls Tryd.prog 23 #[.agg #[.int .i64 (f 0), .int .i64 (f 1), .int .i64 (f 2), .int .i64 (f 3), .int .i64 (f 4), .int .i64 (f 5), .int .i64 (f 6)]] w fun e' w' => e' = .returned (.int .i64 (fitF (f 1) (f 2))) ∧ Below w.heap.size w w' := by
  obtain ⟨gb, HGB⟩ : ∃ gb, Hid (w.heap.size = gb) := ⟨_, Lib.hid rfl⟩
  obtain ⟨W1, HW1⟩ : ∃ W1, Hid (W1 = w.alloc (.cells #[.int .i64 (f 0), .int .i64 (f 1), .int .i64 (f 2), .int .i64 (f 3), .int .i64 (f 4), .int .i64 (f 5), .int .i64 (f 6)] TH)) := ⟨_, Lib.hid rfl⟩
  have HB1 : Hid (Below w.heap.size w W1) := Lib.hid (by rw [HW1.out]; exact bel_new _ _)
  have HOB : Hid (Obj1 W1 gb TH (c7 f)) := Lib.hid (by rw [HW1.out, ← HGB.out]; exact Obj1.new _ _ _)
  obtain ⟨a, ha⟩ : ∃ a, f 1 = a := ⟨_, rfl⟩
  obtain ⟨b, hb⟩ : ∃ b, f 2 = b := ⟨_, rfl⟩
  have q1 : W1.cell? ⟨gb, 1, none⟩ = some (.int .i64 a) := by rw [← ha]; exact HOB.out.cell 1
  have q2 : W1.cell? ⟨gb, 2, none⟩ = some (.int .i64 b) := by rw [← hb]; exact HOB.out.cell 2
  rw [ha, hb]
  rw [ha, hb] at HW1
  rw [ha] at h1
  rw [hb] at h2
  have e1 : IntKind.i64.wrap (a + b) = a + b := IntWalk.i64_in _ (by omega)
  have e2 : IntKind.i64.wrap (1000 * a) = 1000 * a := IntWalk.i64_in _ (by omega)
  clear ha hb
  by_cases hz : 0 < a + b
  · have hq0 : 0 ≤ (1000 * a).tdiv (a + b) := Int.tdiv_nonneg (by omega) (by omega)
    have hq1 : (1000 * a).tdiv (a + b) ≤ 1000 * a := by rw [Int.tdiv_eq_ediv_of_nonneg (by omega)]; exact Int.ediv_le_self _ (by omega)
    have hF : fitF a b = (1000 * a).tdiv (a + b) := by unfold fitF; rw [if_pos hz]
    rw [hF]
    obtain ⟨q, hq⟩ : ∃ q, (1000 * a).tdiv (a + b) = q := ⟨_, rfl⟩
    rw [hq] at hq0 hq1 ⊢
    obtain ⟨s, hs⟩ : ∃ s, a + b = s := ⟨_, rfl⟩
    rw [hs] at e1 hq hz
    have e3 : wrap64 q = q := IntWalk.wrap64_in q (by omega)
    have e4 : IntKind.i64.wrap q = q := IntWalk.i64_in q (by omega)
    have e5 : (s == 0) = false := by simp; omega
    have e6 : ¬ s = 0 := by omega
    have e7 : IntKind.i64.wrap (a + b) = s := by rw [hs]; exact e1
    clear hq0 hq1 hF
    go_enter Tryd.func23, Tryd.ntmps23
    go_upto_region 1 with (fail)
    rw [← HW1.out, HGB.out]
    clear HW1
    go_wp2
    go_ret
    exact ⟨rfl, HB1.out⟩
  · have hs : a + b = 0 := by omega
    rw [hs] at e1
    have e7 : IntKind.i64.wrap (a + b) = 0 := by rw [hs]; exact e1
    have hF : fitF a b = 1000 := by unfold fitF; rw [if_neg hz]
    rw [hF]
    clear hF hz e1
    go_enter Tryd.func23, Tryd.ntmps23
    go_upto_region 1 with (fail)
    rw [← HW1.out, HGB.out]
    clear HW1
    go_wp2
    go_ret
    exact ⟨rfl, HB1.out⟩
end Go.Proofs.YtanhblokhcaoiaaDoor.Hl
