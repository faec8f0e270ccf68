/- The document's own two, Right and Put of layer 10; no condition. -/
import Derived.Test.YthnopcoahcdjjaaImgS
import Derived.Test.YthnopcoahcdjjaaRegL
namespace Go.Proofs.Ythnopcoahcdjjaa.Ly10
open Go.ChangeShapes Go.WideShapes Go.ChangeAt Go.RowKit Base
set_option linter.unusedVariables false
set_option linter.unusedSimpArgs false

theorem strU_app (a b : List Nat) : strU a ++ strU b = strU (a ++ b) := by unfold strU; rw [← strB_app, List.map_append]
theorem conv_row {w : World} {n : Nat} {bs : List Nat} (hn : bs.length = n) : (convert 26 9 (.slice (some ⟨w.heap.size, 0, none⟩) n n)).run Try.prog (w.alloc (.cells (u8s bs).toArray TU)) = .ok (.string (strU bs)) (w.alloc (.cells (u8s bs).toArray TU)) := by
  subst hn
  have := lst_row w TU (u8s bs)
  rw [u8s_len] at this
  exact convU this rfl
theorem rtwo_any (x : Nat) (w : World) (hx : x < 65536) : Calls Try.prog 51 #[.int .i64 x] w fun e w' => e = .returned (.string (strU (two x))) ∧ Below w.heap.size w w' := by
  obtain ⟨q, HQ⟩ : ∃ q : Nat, Hid (x / 256 = q) := ⟨_, Lib.hid rfl⟩
  obtain ⟨r, HRR⟩ : ∃ r : Nat, Hid (x % 256 = r) := ⟨_, Lib.hid rfl⟩
  have hq : (x : Int) / 256 = (q : Int) := by have := HQ.out; omega
  have hr0 : (x : Int) % 256 = (r : Int) := by have := HRR.out; omega
  have hq4 : q ≤ 255 := by have := HQ.out; omega
  have hr4 : r ≤ 255 := by have := HRR.out; omega
  have hqw : IntKind.u8.wrap (q : Int) = (q : Int) := by rw [IntKind.wrap_u8']; omega
  have hrw : IntKind.u8.wrap (r : Int) = (r : Int) := by rw [IntKind.wrap_u8']; omega
  have HT : Hid (two x = [q, r]) := Lib.hid (by unfold two; rw [HQ.out, HRR.out])
  have hc := conv_row (w := w) (n := 2) (bs := [q, r]) rfl
  obtain ⟨S, HS⟩ : ∃ S, Hid (strU [q, r] = S) := ⟨_, Lib.hid rfl⟩
  rw [HS.out] at hc
  have hc' : (convert 26 9 (.slice (some ⟨w.heap.size, 0, none⟩) 2 2)).run Try.prog (w.alloc (.cells #[.int .u8 (q : Int), .int .u8 (r : Int)] TU)) = .ok (.string S) (w.alloc (.cells #[.int .u8 (q : Int), .int .u8 (r : Int)] TU)) := hc
  rw [HT.out, HS.out]
  clear hc
  go_enter Try.func51, Try.ntmps51
  go_wp2
  go_ret
  exact ⟨rfl, bel_new _ _⟩
theorem rright_yes (m e0 e1 : Int) (S : ByteArray) (n : Nat) (hS : S.size = n) (w : World) (h : RI m e0 e1 n) : Calls Try.prog 26 #[.int .i64 m, .agg #[.int .i64 e0, .int .i64 e1], .string S] w fun e w' => e = .returned (.bool true) ∧ Below w.heap.size w w' := by
  obtain ⟨m0, m1, n0, n1, p0, p1, q0, q1⟩ := h
  have HB := Lib.hid (bel_new w (.cells #[.int .i64 e0, .int .i64 e1] 44))
  have k0 := (Obj1.new w 44 #[.int .i64 e0, .int .i64 e1]).cell 0
  have k1 := (Obj1.new w 44 #[.int .i64 e0, .int .i64 e1]).cell 1
  go_enter Try.func26, Try.ntmps26
  go_wp2
  go_ret
  exact ⟨rfl, HB.out⟩
set_option maxHeartbeats 1000000 in
theorem rright_no (m e0 e1 : Int) (S : ByteArray) (n : Nat) (hS : S.size = n) (w : World) (h : ¬ RI m e0 e1 n) (hn : n ≤ 9223372036854775807) : Calls Try.prog 26 #[.int .i64 m, .agg #[.int .i64 e0, .int .i64 e1], .string S] w fun e w' => e = .returned (.bool false) ∧ Below w.heap.size w w' := by
  have HB := Lib.hid (bel_new w (.cells #[.int .i64 e0, .int .i64 e1] 44))
  have k0 := (Obj1.new w 44 #[.int .i64 e0, .int .i64 e1]).cell 0
  have k1 := (Obj1.new w 44 #[.int .i64 e0, .int .i64 e1]).cell 1
  unfold RI at h
  rcases (show m < 0 ∨ (0 ≤ m ∧ 16 ≤ m) ∨ (0 ≤ m ∧ m < 16 ∧ n < 1) ∨ (0 ≤ m ∧ m < 16 ∧ 1 ≤ n ∧ 1024 < n) ∨ (0 ≤ m ∧ m < 16 ∧ 1 ≤ n ∧ n ≤ 1024 ∧ e0 < 0) ∨ (0 ≤ m ∧ m < 16 ∧ 1 ≤ n ∧ n ≤ 1024 ∧ 0 ≤ e0 ∧ (n : Int) ≤ e0) ∨ (0 ≤ m ∧ m < 16 ∧ 1 ≤ n ∧ n ≤ 1024 ∧ 0 ≤ e0 ∧ e0 < n ∧ e1 < 0) ∨ (0 ≤ m ∧ m < 16 ∧ 1 ≤ n ∧ n ≤ 1024 ∧ 0 ≤ e0 ∧ e0 < n ∧ 0 ≤ e1 ∧ (n : Int) ≤ e1) by omega) with g | ⟨g, g1⟩ | ⟨g, g1, g2⟩ | ⟨g, g1, g2, g3⟩ | ⟨g, g1, g2, g3, g4⟩ | ⟨g, g1, g2, g3, g4, g5⟩ | ⟨g, g1, g2, g3, g4, g5, g6⟩ | ⟨g, g1, g2, g3, g4, g5, g6, g7⟩
  case' inr.inr.inr.inr.inr.inl => have gd : decide (e0 < (n : Int)) = false := decide_eq_false (by omega)
  case' inr.inr.inr.inr.inr.inr.inr => have gd : decide (e1 < (n : Int)) = false := decide_eq_false (by omega)
  all_goals
    clear h
    go_enter Try.func26, Try.ntmps26
    go_wp2
    go_ret
    exact ⟨rfl, HB.out⟩
set_option maxRecDepth 100000 in
set_option maxHeartbeats 4000000 in
theorem rput_any (m e0 e1 n : Nat) (code : List Nat) (w : World) (hm : m < 16) (hn2 : n ≤ 1024) (h0 : e0 < n) (h1 : e1 < n) (hcl : code.length = n) (hb : ∀ x ∈ code, x < 256) :
    Calls Try.prog 28 #[.int .i64 m, .agg #[.int .i64 e0, .int .i64 e1], .string (strU code)] w fun e w' => e = .returned (.string (strU (imgB m e0 e1 code))) ∧ Hid (Below w.heap.size w w') := by
  have HB0 := Lib.hid (bel_new w (.cells #[.int .i64 e0, .int .i64 e1] 44))
  have HO0 := Lib.hid (Obj1.new w 44 #[.int .i64 e0, .int .i64 e1])
  obtain ⟨g0, HG0⟩ : ∃ g0, Hid (w.heap.size = g0) := ⟨_, Lib.hid rfl⟩
  rw [HG0.out] at HO0
  have hsz : (strU code).size = n := by rw [strU_len]; exact hcl
  have HBY := Lib.hid (bodyB_lt (m := m) (e0 := e0) (e1 := e1) (code := code) (by omega) (by omega) (by omega) (by rw [hcl]; omega) hb)
  have HBLN := Lib.hid (bodyB_len m e0 e1 code)
  have HCL := Lib.hid hcl
  obtain ⟨A0, hA0⟩ : ∃ A0 : ByteArray, ByteArray.mk #[84, 49] = A0 := ⟨_, rfl⟩
  have HA0 : Hid (A0 = strU [84, 49]) := Lib.hid (by rw [← hA0]; unfold strU; rw [strB_eq]; rfl)
  obtain ⟨B0, HB0s⟩ : ∃ B0, Hid (strU [m] = B0) := ⟨_, Lib.hid rfl⟩
  obtain ⟨A1, hA1⟩ : ∃ A1, A0 ++ B0 = A1 := ⟨_, rfl⟩
  obtain ⟨C0, HC0⟩ : ∃ C0, Hid (strU (two e0) = C0) := ⟨_, Lib.hid rfl⟩
  obtain ⟨A2, hA2⟩ : ∃ A2, A1 ++ C0 = A2 := ⟨_, rfl⟩
  obtain ⟨C1, HC1⟩ : ∃ C1, Hid (strU (two e1) = C1) := ⟨_, Lib.hid rfl⟩
  obtain ⟨A3, hA3⟩ : ∃ A3, A2 ++ C1 = A3 := ⟨_, rfl⟩
  obtain ⟨C2, HC2⟩ : ∃ C2, Hid (strU (two n) = C2) := ⟨_, Lib.hid rfl⟩
  obtain ⟨A4, hA4⟩ : ∃ A4, A3 ++ C2 = A4 := ⟨_, rfl⟩
  obtain ⟨S, HS⟩ : ∃ S, Hid (strU code = S) := ⟨_, Lib.hid rfl⟩
  rw [HS.out] at hsz ⊢
  obtain ⟨A5, hA5⟩ : ∃ A5, A4 ++ S = A5 := ⟨_, rfl⟩
  have HA5 : Hid (A5 = strU (bodyB m e0 e1 code)) := Lib.hid (by
    rw [← hA5, ← hA4, ← hA3, ← hA2, ← hA1, HA0.out, ← HB0s.out, ← HC0.out, ← HC1.out, ← HC2.out, ← HS.out, strU_app, strU_app, strU_app, strU_app, strU_app]
    unfold bodyB preB
    rw [HCL.out]
    rfl)
  have z0 : A0.size = 2 := by rw [HA0.out, strU_len]; rfl
  have zb : B0.size = 1 := by rw [← HB0s.out, strU_len]; rfl
  have zc : C0.size = 2 ∧ C1.size = 2 ∧ C2.size = 2 := by rw [← HC0.out, ← HC1.out, ← HC2.out, strU_len, strU_len, strU_len]; exact ⟨rfl, rfl, rfl⟩
  have z1 : A1.size = 3 := by rw [← hA1, ByteArray.size_append]; omega
  have z2 : A2.size = 5 := by rw [← hA2, ByteArray.size_append]; omega
  have z3 : A3.size = 7 := by rw [← hA3, ByteArray.size_append]; omega
  have z4 : A4.size = 9 := by rw [← hA4, ByteArray.size_append]; omega
  have z5 : A5.size = 9 + n := by rw [← hA5, ByteArray.size_append]; omega
  have y0 : A0.size + B0.size ≤ 9223372036854775807 := by omega
  have y1 : A1.size + C0.size ≤ 9223372036854775807 := by omega
  have y2 : A2.size + C1.size ≤ 9223372036854775807 := by omega
  have y3 : A3.size + C2.size ≤ 9223372036854775807 := by omega
  have y4 : A4.size + S.size ≤ 9223372036854775807 := by omega
  have y4' : A4.size + n ≤ 9223372036854775807 := by omega
  have HZ5 := Lib.hid z5
  clear z0 zb zc z1 z2 z3 z4 z5
  have HSUM := Lib.hid (fun W => rsum_any (bodyB m e0 e1 code) W HBY.out (by rw [HBLN.out, HCL.out]; omega))
  rw [← HA5.out] at HSUM
  have hsl := sumL_lt (s := 65535) (by omega) HBY.out
  obtain ⟨Q, HQ⟩ : ∃ Q, Hid (sumL 65535 (bodyB m e0 e1 code) = Q) := ⟨_, Lib.hid rfl⟩
  rw [HQ.out] at HSUM hsl
  obtain ⟨T, HT⟩ : ∃ T, Hid (strU (two Q) = T) := ⟨_, Lib.hid rfl⟩
  obtain ⟨F, hF⟩ : ∃ F, A5 ++ T = F := ⟨_, rfl⟩
  have y5 : A5.size + T.size ≤ 9223372036854775807 := by rw [HZ5.out, ← HT.out, strU_len]; show 9 + n + 2 ≤ _; omega
  have HF : Hid (strU (imgB m e0 e1 code) = F) := Lib.hid (by rw [← hF, HA5.out, ← HT.out, strU_app]; unfold imgB; rw [HQ.out])
  rw [HF.out]
  have R0 := Lib.hid (fun W => rtwo_any e0 W (by omega))
  have R1 := Lib.hid (fun W => rtwo_any e1 W (by omega))
  have R2 := Lib.hid (fun W => rtwo_any n W (by omega))
  have R3 := Lib.hid (fun W => rtwo_any Q W hsl)
  rw [HC0.out] at R0
  rw [HC1.out] at R1
  rw [HC2.out] at R2
  rw [HT.out] at R3
  clear hcl hb
  go_enter Try.func28, Try.ntmps28
  go_wp2_with fail
  rw [HG0.out]
  generalize w.alloc (.cells #[.int .i64 e0, .int .i64 e1] 44) = W at HB0 HO0 ⊢
  have K0 : ∀ x : Kin W.drew, x.world.cell? ⟨g0, 0, none⟩ = some (.int .i64 (e0 : Int)) := fun x => (HO0.out.kept ((bel_drew W).trans x.below)).cell 0
  have K1 : ∀ x : Kin W.drew, x.world.cell? ⟨g0, 1, none⟩ = some (.int .i64 (e1 : Int)) := fun x => (HO0.out.kept ((bel_drew W).trans x.below)).cell 1
  have hmw : IntKind.u8.wrap (m : Int) = (m : Int) := by rw [IntKind.wrap_u8']; omega
  have HCV : Hid (∀ (x : World) (g : Nat), Lst x (some ⟨g, 0, none⟩) 1 (u8s [m]) → (convert 26 9 (.slice (some ⟨g, 0, none⟩) 1 1)).run Try.prog x = .ok (.string B0) x) := Lib.hid (fun x g h => convU h HB0s.out)
  refine wp_region_specL 20 [.d (.int .i64 m), .d (.int .u8 m), .g (NewL W.heap.size 1 (u8s [m])), .d (.string B0), .d (.string A1), .d (.pointer (some ⟨g0, 0, none⟩)), .d (.int .i64 e0), .d (.string C0), .d (.string A2), .d (.pointer (some ⟨g0, 1, none⟩)), .d (.int .i64 e1), .d (.string C1), .d (.string A3), .d (.string S), .d (.int .i64 n), .d (.string C2), .d (.string A4), .d (.string S), .d (.string A5), .d (.string A5)] (by kernel_rfl) (by kernel_rfl) ?_
  refine spec_d rfl (fun x _ => gives_run (by go_simp)) ?_
  try simp only [Act.put, List.getElem_toArray, List.getElem_cons_succ, List.getElem_cons_zero, List.setIfInBounds_toArray, List.set_cons_zero, List.set_cons_succ]
  refine spec_d rfl (fun x _ => gives_run (by go_simp)) ?_
  try simp only [Act.put, List.getElem_toArray, List.getElem_cons_succ, List.getElem_cons_zero, List.setIfInBounds_toArray, List.set_cons_zero, List.set_cons_succ]
  refine spec_g (NewL.stable _ _ _) (NewL.ex _ TU (Nat.le_refl _) rfl) rfl (fun x _ => gives_ok (by go_simp) (bel_new _ _) (NewL.new (T := TU) x.below.size rfl)) ?_
  rintro v ⟨y, g, rfl, _, _⟩
  try simp only [Act.put, List.getElem_toArray, List.getElem_cons_succ, List.getElem_cons_zero, List.setIfInBounds_toArray, List.set_cons_zero, List.set_cons_succ]
  refine spec_d rfl (fun x hx => by
    have hcv := HCV.out x.world g (NewL.at (hx _ (List.mem_singleton.2 rfl) (by kernel_rfl))).2
    exact gives_run (by go_simp)) ?_
  try simp only [Act.put, List.getElem_toArray, List.getElem_cons_succ, List.getElem_cons_zero, List.setIfInBounds_toArray, List.set_cons_zero, List.set_cons_succ]
  refine spec_d rfl (fun x _ => gives_run (by go_simp)) ?_
  try simp only [Act.put, List.getElem_toArray, List.getElem_cons_succ, List.getElem_cons_zero, List.setIfInBounds_toArray, List.set_cons_zero, List.set_cons_succ]
  refine spec_d rfl (fun x _ => gives_run (by go_simp)) ?_
  try simp only [Act.put, List.getElem_toArray, List.getElem_cons_succ, List.getElem_cons_zero, List.setIfInBounds_toArray, List.set_cons_zero, List.set_cons_succ]
  refine spec_d rfl (fun x _ => gives_run (by go_simp)) ?_
  try simp only [Act.put, List.getElem_toArray, List.getElem_cons_succ, List.getElem_cons_zero, List.setIfInBounds_toArray, List.set_cons_zero, List.set_cons_succ]
  refine spec_d rfl (fun x _ => gives_det (by go_simp) (R0.out x.world)) ?_
  try simp only [Act.put, List.getElem_toArray, List.getElem_cons_succ, List.getElem_cons_zero, List.setIfInBounds_toArray, List.set_cons_zero, List.set_cons_succ]
  refine spec_d rfl (fun x _ => gives_run (by go_simp)) ?_
  try simp only [Act.put, List.getElem_toArray, List.getElem_cons_succ, List.getElem_cons_zero, List.setIfInBounds_toArray, List.set_cons_zero, List.set_cons_succ]
  refine spec_d rfl (fun x _ => gives_run (by go_simp)) ?_
  try simp only [Act.put, List.getElem_toArray, List.getElem_cons_succ, List.getElem_cons_zero, List.setIfInBounds_toArray, List.set_cons_zero, List.set_cons_succ]
  refine spec_d rfl (fun x _ => gives_run (by go_simp)) ?_
  try simp only [Act.put, List.getElem_toArray, List.getElem_cons_succ, List.getElem_cons_zero, List.setIfInBounds_toArray, List.set_cons_zero, List.set_cons_succ]
  refine spec_d rfl (fun x _ => gives_det (by go_simp) (R1.out x.world)) ?_
  try simp only [Act.put, List.getElem_toArray, List.getElem_cons_succ, List.getElem_cons_zero, List.setIfInBounds_toArray, List.set_cons_zero, List.set_cons_succ]
  refine spec_d rfl (fun x _ => gives_run (by go_simp)) ?_
  try simp only [Act.put, List.getElem_toArray, List.getElem_cons_succ, List.getElem_cons_zero, List.setIfInBounds_toArray, List.set_cons_zero, List.set_cons_succ]
  refine spec_d rfl (fun x _ => gives_run (by go_simp)) ?_
  try simp only [Act.put, List.getElem_toArray, List.getElem_cons_succ, List.getElem_cons_zero, List.setIfInBounds_toArray, List.set_cons_zero, List.set_cons_succ]
  refine spec_d rfl (fun x _ => gives_run (by go_simp)) ?_
  try simp only [Act.put, List.getElem_toArray, List.getElem_cons_succ, List.getElem_cons_zero, List.setIfInBounds_toArray, List.set_cons_zero, List.set_cons_succ]
  refine spec_d rfl (fun x _ => gives_det (by go_simp) (R2.out x.world)) ?_
  try simp only [Act.put, List.getElem_toArray, List.getElem_cons_succ, List.getElem_cons_zero, List.setIfInBounds_toArray, List.set_cons_zero, List.set_cons_succ]
  refine spec_d rfl (fun x _ => gives_run (by go_simp)) ?_
  try simp only [Act.put, List.getElem_toArray, List.getElem_cons_succ, List.getElem_cons_zero, List.setIfInBounds_toArray, List.set_cons_zero, List.set_cons_succ]
  refine spec_d rfl (fun x _ => gives_run (by go_simp)) ?_
  try simp only [Act.put, List.getElem_toArray, List.getElem_cons_succ, List.getElem_cons_zero, List.setIfInBounds_toArray, List.set_cons_zero, List.set_cons_succ]
  refine spec_d rfl (fun x _ => gives_run (by go_simp)) ?_
  try simp only [Act.put, List.getElem_toArray, List.getElem_cons_succ, List.getElem_cons_zero, List.setIfInBounds_toArray, List.set_cons_zero, List.set_cons_succ]
  refine spec_d rfl (fun x _ => gives_run (by go_simp)) ?_
  try simp only [Act.put, List.getElem_toArray, List.getElem_cons_succ, List.getElem_cons_zero, List.setIfInBounds_toArray, List.set_cons_zero, List.set_cons_succ]
  refine spec_end (fun x hx => ?_)
  clear hx
  refine wpAny_done (by kernel_rfl) ?_ _
  have HBX := Lib.hid (HB0.out.trans (((bel_drew W).trans x.below).mono HB0.out.size))
  clear K0 K1
  generalize x.world = W1 at HBX ⊢
  go_wp2_with fail
  refine (HSUM.out W1).mono ?_
  rintro e w' ⟨rfl, rfl⟩
  go_wp2_with fail
  refine (R3.out W1).mono ?_
  rintro e w2 ⟨rfl, hb2⟩
  go_wp2
  go_ret
  exact ⟨rfl, Lib.hid (HBX.out.trans (hb2.mono HBX.out.size))⟩
end Go.Proofs.Ythnopcoahcdjjaa.Ly10
