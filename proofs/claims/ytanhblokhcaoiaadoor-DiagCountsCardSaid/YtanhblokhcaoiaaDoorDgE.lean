/- Package diag's Of, the statements' own helper 'one' of layer 40; no condition but sizes. -/
import Derived.Test.YtanhblokhcaoiaaDoorDgD
namespace Go.Proofs.YtanhblokhcaoiaaDoor.Dg
open Go.ChangeShapes Go.WideShapes Go.ChangeAt Go.RowKit Base
open Joi (stV)
set_option linter.unusedVariables false
set_option linter.unusedSimpArgs false

abbrev TM : TypeId := 35
set_option maxRecDepth 100000 in
set_option maxHeartbeats 2000000 in
theorem of_any (A : Option Addr) (n c : Nat) (ls : List Ms) (w : World) (hM : MsAt w A n ls) (hn : n ≤ 100) (hok : ∀ m ∈ ls, MOk m) :
    Calls Tryd.prog 18 #[.slice A n c] w fun e' w' => e' = .returned (.agg (c5 (sB ls) (sO ls))) ∧ Below w.heap.size w w' := by
  obtain ⟨iz, hiz, hzz, hsz⟩ := info_two info_ct
  obtain ⟨g2, HG2⟩ : ∃ g, Hid (w.heap.size = g) := ⟨_, Lib.hid rfl⟩
  obtain ⟨g3, HG3⟩ : ∃ g, Hid (g2 + 1 = g) := ⟨_, Lib.hid rfl⟩
  obtain ⟨W2, HW2⟩ : ∃ W, Hid (W = w.alloc (.cells #[.int .i64 0, .int .i64 0, .int .i64 0, .int .i64 0, .int .i64 0] TC)) := ⟨_, Lib.hid rfl⟩
  obtain ⟨W3, HW3⟩ : ∃ W, Hid (W = W2.alloc (.cells #[.int .i64 0, .int .i64 0, .int .i64 0, .int .i64 0, .int .i64 0] TC)) := ⟨_, Lib.hid rfl⟩
  have n2 : Below w.heap.size w W2 := by rw [HW2.out]; exact bel_new _ _
  have n3 : Below W2.heap.size W2 W3 := by rw [HW3.out]; exact bel_new _ _
  have s2 : W2.heap.size = g3 := by rw [HW2.out, ← HG3.out, ← HG2.out]; simp
  have HO2 : Hid (Obj1 W3 g2 TC (c5 0 (fun _ => 0))) := Lib.hid ((show Obj1 W2 g2 TC _ by rw [HW2.out, ← HG2.out]; exact Obj1.new _ _ _).kept n3)
  have HO3 : Hid (Obj1 W3 g3 TC (c5 0 (fun _ => 0))) := Lib.hid (by rw [HW3.out, ← s2]; exact Obj1.new _ _ _)
  have HB3 : Hid (Below w.heap.size w W3) := Lib.hid (n2.trans (n3.mono n2.size))
  have HGG : Hid (w.heap.size ≤ g2 ∧ w.heap.size ≤ g3 ∧ g2 ≠ g3) := Lib.hid (by have := HG2.out; have := HG3.out; omega)
  have HSI : Hid ((Tryd.prog.info? TC).map (·.size) = some 5) := Lib.hid (by rw [hiz]; simp [hsz])
  have HML := Lib.hid hM
  have HOK := Lib.hid hok
  have HLN : Hid (ls.length = n) := Lib.hid hM.len
  clear n2 n3 s2 hM hok
  go_enter Tryd.func18, Tryd.ntmps18
  go_upto_region 2 with (fail)
  rw [← HW2.out, ← HW3.out, HG2.out, HG3.out]
  clear HW2 HW3 HG2 HG3
  go_wp2_with fail
  go_loopw [8] (fun i wx => ∃ k : Nat, k ≤ n ∧ i = .int .i64 k ∧ Hid (Obj1 wx g3 TC (c5 (sB (ls.take k)) (sO (ls.take k)))) ∧ Hid (Obj1 wx g2 TC (c5 0 (fun _ => 0))) ∧ Below w.heap.size w wx) (fun i _ => n - (intOf i).toNat)
  case atStart => exact ⟨0, by omega, rfl, HO3, HO2, HB3.out⟩
  case round =>
    clear HO2 HO3 HB3
    obtain ⟨k, hk, rfl, HK3, HK2, hbk⟩ := hrel
    have HBK := Lib.hid hbk
    by_cases hlt : k < n
    · as_aux_lemma =>
      have hki : (k : Int) < (n : Int) := by omega
      have hkl : k < ls.length := by rw [HLN.out]; exact hlt
      obtain ⟨x, hx⟩ : ∃ x, ls[k]? = some x := ⟨_, List.getElem?_eq_getElem hkl⟩
      have hmem := List.mem_of_getElem? hx
      obtain ⟨b, off, rfl, hb, k0, k1, k2, k3, k4, k5, k6, k7, k8, k9⟩ := (HML.out.kept hbk).get hlt hx
      have HN1 := Lib.hid (sB_next hx)
      have HN2 := Lib.hid (fun i => sO_next hx i)
      have hlk : (ls.take k).length ≤ 100 := by rw [List.length_take]; omega
      have hb1 := sB_bd (ls.take k) (fun m hm => HOK.out m (List.mem_of_mem_take hm))
      have HB2 := Lib.hid (fun i (hi : i < 4) => sO_bd (ls.take k) (fun m hm => HOK.out m (List.mem_of_mem_take hm)) i hi)
      have HXO := Lib.hid (HOK.out x hmem)
      obtain ⟨S, HS⟩ : ∃ S, Hid (sB (ls.take k) = S) := ⟨_, Lib.hid rfl⟩
      obtain ⟨T, HT⟩ : ∃ T, Hid (sO (ls.take k) = T) := ⟨_, Lib.hid rfl⟩
      rw [HS.out] at HN1 hb1
      rw [HT.out] at HN2 HB2
      rw [HS.out, HT.out] at HK3
      have hxn := HXO.out.1
      have e0 : IntKind.i64.wrap ((k : Int) + 1) = (k : Int) + 1 := IntWalk.i64_in _ (by omega)
      have e1 : IntKind.i64.wrap (8 * (x.n : Int)) = 8 * (x.n : Int) := IntWalk.i64_in _ (by omega)
      have HSM := Lib.hid (fun W => sum_any S (8 * (x.n : Int)) T x.o W ⟨by omega, by omega⟩ (fun i hi => by have h1 := HB2.out i hi; have h2 := HXO.out.2 i hi; omega))
      obtain ⟨gx, HGX⟩ : ∃ gx, Hid (wr.heap.size = gx) := ⟨_, Lib.hid rfl⟩
      obtain ⟨W5, HW5⟩ : ∃ W5, Hid (W5 = wr.alloc (.cells #[.int .i64 x.s, .int .i64 x.st, .int .i64 x.cd, .slice x.A x.n x.c, .bool x.kn, .bool x.vt, .int .i64 x.a, .int .i64 x.b, .int .i64 x.e, .int .i64 x.f] TM)) := ⟨_, Lib.hid rfl⟩
      have hb5 : Below wr.heap.size wr W5 := by rw [HW5.out]; exact bel_new _ _
      have HOX : Hid (Obj1 W5 gx TM #[.int .i64 x.s, .int .i64 x.st, .int .i64 x.cd, .slice x.A x.n x.c, .bool x.kn, .bool x.vt, .int .i64 x.a, .int .i64 x.b, .int .i64 x.e, .int .i64 x.f]) := Lib.hid (by rw [HW5.out, ← HGX.out]; exact Obj1.new _ _ _)
      have HB5 := Lib.hid (HBK.out.trans (hb5.mono HBK.out.size))
      have HK35 := Lib.hid (HK3.out.kept hb5)
      have HK25 := Lib.hid (HK2.out.kept hb5)
      clear hx hkl hmem hb hb1 hlk hxn hb5 hbk
      go_upto_region 5 with (fail)
      rw [← HW5.out, HGX.out]
      clear k0 k1 k2 k3 k4 k5 k6 k7 k8 k9 HW5 HGX HK3 HK2 HBK
      have x3 : W5.cell? ⟨gx, 3, none⟩ = some (.slice x.A x.n x.c) := HOX.out.cell 3
      have x4 : W5.cell? ⟨gx, 4, none⟩ = some (.bool x.kn) := HOX.out.cell 4
      have x6 : W5.cell? ⟨gx, 6, none⟩ = some (.int .i64 x.a) := HOX.out.cell 6
      have x7 : W5.cell? ⟨gx, 7, none⟩ = some (.int .i64 x.b) := HOX.out.cell 7
      have x8 : W5.cell? ⟨gx, 8, none⟩ = some (.int .i64 x.e) := HOX.out.cell 8
      have x9 : W5.cell? ⟨gx, 9, none⟩ = some (.int .i64 x.f) := HOX.out.cell 9
      obtain ⟨kn, HKN⟩ : ∃ q, Hid (x.kn = q) := ⟨_, Lib.hid rfl⟩
      rw [HKN.out] at x4
      cases kn with
      | false =>
        have HE : Hid (c5 (sB (ls.take (k + 1))) (sO (ls.take (k + 1))) = c5 S T) := Lib.hid (by
          rw [HN1.out, show bI x = 0 by unfold bI; rw [HKN.out]; rfl, Int.add_zero]
          exact c5_congr (fun i _ => by rw [HN2.out, show oI x i = 0 by unfold oI; rw [HKN.out]; rfl, Int.add_zero]))
        go_wp2
        go_roundw
        case rel => exact ⟨k + 1, by omega, by go_num, by rw [HE.out]; exact HK35, HK25, HB5.out⟩
        case measure => simp [intOf]; omega
      | true =>
        have HE : Hid (c5 (sB (ls.take (k + 1))) (sO (ls.take (k + 1))) = c5 (S + 8 * (x.n : Int)) (fun i => T i + x.o i)) := Lib.hid (by
          rw [HN1.out, show bI x = 8 * (x.n : Int) by unfold bI; rw [HKN.out]; rfl]
          exact c5_congr (fun i _ => by rw [HN2.out, show oI x i = x.o i by unfold oI; rw [HKN.out]; rfl]))
        have f0 : W5.cell? ⟨g3, 0, none⟩ = some (.int .i64 S) := HK35.out.cell 0
        have f1 : W5.cell? ⟨g3, 1, none⟩ = some (.int .i64 (T 0)) := HK35.out.cell 1
        have f2 : W5.cell? ⟨g3, 2, none⟩ = some (.int .i64 (T 1)) := HK35.out.cell 2
        have f3 : W5.cell? ⟨g3, 3, none⟩ = some (.int .i64 (T 2)) := HK35.out.cell 3
        have f4 : W5.cell? ⟨g3, 4, none⟩ = some (.int .i64 (T 3)) := HK35.out.cell 4
        have HSM2 : Hid (∀ W, Calls Tryd.prog 19 #[.agg #[.int .i64 S, .int .i64 (T 0), .int .i64 (T 1), .int .i64 (T 2), .int .i64 (T 3)], .agg #[.int .i64 (8 * (x.n : Int)), .int .i64 x.a, .int .i64 x.b, .int .i64 x.e, .int .i64 x.f]] W fun e' w' => e' = .returned (.agg (c5 (S + 8 * (x.n : Int)) (fun i => T i + x.o i))) ∧ Below W.heap.size W w') := Lib.hid (fun W => HSM.out W)
        clear HSM
        go_wp2_with fail
        refine (HSM2.out _).mono ?_
        rintro e' w6 ⟨rfl, hb6⟩
        have HB6 := Lib.hid (HB5.out.trans (hb6.mono HB5.out.size))
        have HK36 := Lib.hid (HK35.out.kept hb6)
        have HK26 := Lib.hid (HK25.out.kept hb6)
        clear hb6 HSM2 x3 x4 x6 x7 x8 x9 f0 f1 f2 f3 f4 HOX HK35 HK25 HB5
        obtain ⟨CS, HCS⟩ : ∃ C, Hid (c5 (S + 8 * (x.n : Int)) (fun i => T i + x.o i) = C) := ⟨_, Lib.hid rfl⟩
        have HC1 : Hid (CS.all (·.oneCell') = true) := Lib.hid (by rw [← HCS.out]; exact one_c5 _ _)
        have HC2 : Hid (5 = CS.size) := Lib.hid (by rw [← HCS.out]; rfl)
        have HC3 : Hid ((Tryd.prog.info? TC).map (·.size) = some CS.size) := Lib.hid (by rw [← HC2.out]; exact HSI.out)
        rw [HCS.out] at HE ⊢
        go_wp2_with ((with_reducible show wpList _ _ _ (Oper.mk none _ _ _ _ _ :: _) _ _); go_must (refine wpList_store_row rfl TC _ _ rfl g3 CS rfl rfl TC _ HK36.out HC3.out HC2.out HC1.out ?_))
        have HW9 := Lib.hid (wrote_row (w := w6) HK36.out CS)
        generalize w6.setRow g3 CS = w9 at HW9 ⊢
        have HB9 := Lib.hid (HB6.out.trans (HW9.out.2.below HGG.out.2.1 HB6.out.size))
        have HK29 := Lib.hid (HK26.out.touch HW9.out.2 HGG.out.2.2)
        have HK39 := Lib.hid HW9.out.1
        clear HW9
        go_wp2
        go_roundw
        case rel => exact ⟨k + 1, by omega, by go_num, by rw [HE.out]; exact HK39, HK29, HB9.out⟩
        case measure => simp [intOf]; omega
    · as_aux_lemma =>
      have hke : k = n := by omega
      subst hke
      have HTE : Hid (ls.take k = ls) := Lib.hid (List.take_of_length_le (by rw [HLN.out]; exact Nat.le_refl _))
      rw [HTE.out] at HK3
      obtain ⟨S, HS⟩ : ∃ S, Hid (sB ls = S) := ⟨_, Lib.hid rfl⟩
      obtain ⟨T, HT⟩ : ∃ T, Hid (sO ls = T) := ⟨_, Lib.hid rfl⟩
      rw [HS.out, HT.out] at HK3
      have f0 : wr.cell? ⟨g3, 0, none⟩ = some (.int .i64 S) := HK3.out.cell 0
      have f1 : wr.cell? ⟨g3, 1, none⟩ = some (.int .i64 (T 0)) := HK3.out.cell 1
      have f2 : wr.cell? ⟨g3, 2, none⟩ = some (.int .i64 (T 1)) := HK3.out.cell 2
      have f3 : wr.cell? ⟨g3, 3, none⟩ = some (.int .i64 (T 2)) := HK3.out.cell 3
      have f4 : wr.cell? ⟨g3, 4, none⟩ = some (.int .i64 (T 3)) := HK3.out.cell 4
      clear hbk
      go_wp2_with ((with_reducible show wpList _ _ _ (Oper.mk none _ _ _ _ _ :: _) _ _); go_must (refine wpList_store_row rfl TC _ _ rfl g2 (c5 S T) rfl rfl TC _ HK2.out HSI.out rfl (one_c5 S T) ?_))
      have HW9 := Lib.hid (wrote_row (w := wr) HK2.out (c5 S T))
      generalize wr.setRow g2 (c5 S T) = we at HW9 ⊢
      have HE9 := Lib.hid HW9.out.1
      try rw [Exit.noGoto_ret]
      refine bodyPost_ret (v := .agg (c5 S T)) (results_cell_row rfl _ _ g2 TC _ (0, 0) _ rfl HE9.out Tryd.underlying24 rfl HSI.out) rfl ?_
      exact ⟨by rw [HS.out, HT.out], HBK.out.trans (HW9.out.2.below HGG.out.1 HBK.out.size)⟩
end Go.Proofs.YtanhblokhcaoiaaDoor.Dg
