/- The document's own Read of layer 10, op by op; no condition. -/
import Derived.Test.YthnopcoahcdjjaaImgU
import Derived.IntWalk
import Derived.RegionTactic
namespace Go.Proofs.Ythnopcoahcdjjaa.Ly10
open Go.ChangeShapes Go.WideShapes Go.ChangeAt Go.RowKit Base
set_option linter.unusedVariables false
set_option linter.unusedSimpArgs false

abbrev T2 : TypeId := 44
def RV (r : Res) : Value := .tuple #[.int .i64 (r.who : Int), .agg #[.int .i64 (r.e0 : Int), .int .i64 (r.e1 : Int)], .string (strU r.cd), .int .i64 (r.bad : Int)]
/-- A block that is new. -/
def NewO (s : Nat) (T : TypeId) (cs : Array Value) : Sp := fun v w => ∃ g, v = .pointer (some ⟨g, 0, none⟩) ∧ s ≤ g ∧ Obj1 w g T cs
theorem NewO.stable (s : Nat) (T : TypeId) (cs : Array Value) : Stable (NewO s T cs) := fun v a b ⟨g, e, h, hl⟩ hb => ⟨g, e, h, hl.kept hb⟩
theorem NewO.new {s : Nat} {T : TypeId} {cs : Array Value} {x : World} (h : s ≤ x.heap.size) : NewO s T cs (.pointer (some ⟨x.heap.size, 0, none⟩)) (x.alloc (.cells cs T)) := ⟨_, rfl, h, Obj1.new _ _ _⟩
theorem NewO.ex {s : Nat} {cs : Array Value} (w : World) (T : TypeId) (h : s ≤ w.heap.size) : ∃ v, ∃ x : Kin w, NewO s T cs v x.world := ⟨_, ⟨_, (Below.refl _ _).alloc (Nat.le_refl _) _⟩, NewO.new h⟩
theorem NewO.at {s g : Nat} {T : TypeId} {cs : Array Value} {w : World} (h : NewO s T cs (.pointer (some ⟨g, 0, none⟩)) w) : Obj1 w g T cs := by
  obtain ⟨g', e, h1, h2⟩ := h
  injection e with e
  injection e with e
  injection e with e
  subst e
  exact h2
theorem lit_0 : strU [] = ByteArray.mk #[] := by unfold strU; rw [strB_eq]; rfl
theorem two_drop {bs : List Nat} {K Q : Nat} (hb : ∀ x ∈ bs, x < 256) (hl : bs.length = K + 2) (hQ : Q < 65536) : b2 bs K = Q ↔ two Q = bs.drop K := by
  have h1 : bs.drop K = [bs.getD K 0, bs.getD (K + 1) 0] := by
    rw [List.drop_eq_getElem_cons (by omega), List.drop_eq_getElem_cons (by omega), List.drop_of_length_le (by omega), List.getD_eq_getElem?_getD, List.getD_eq_getElem?_getD, List.getElem?_eq_getElem (by omega), List.getElem?_eq_getElem (by omega)]
    rfl
  have g1 := getD_lt hb K
  have g2 := getD_lt hb (K + 1)
  rw [h1]
  unfold b2 two
  constructor
  · rintro rfl
    congr 1
    · omega
    · congr 1
      omega
  · intro h
    simp only [List.cons.injEq, and_true] at h
    omega
set_option maxRecDepth 100000 in
set_option maxHeartbeats 4000000 in
theorem rread_res (bs : List Nat) (n : Nat) (w : World) (hbl : bs.length = n) (hn : n ≤ 100000) (hb : ∀ x ∈ bs, x < 256) :
    Calls Try.prog 30 #[.string (strU bs)] w fun e w' => e = .returned (RV (res bs n)) ∧ Hid (Below w.heap.size w w') := by
  have HBD := Lib.hid hb
  have HBL := Lib.hid hbl
  have hsz : (strU bs).size = n := by rw [strU_len]; exact hbl
  have HB0 := Lib.hid (bel_new w (.cells #[.int .i64 0, .int .i64 0] T2))
  have HO0 := Lib.hid (Obj1.new w T2 #[.int .i64 0, .int .i64 0])
  obtain ⟨g3, HG3⟩ : ∃ g3, Hid (w.heap.size = g3) := ⟨_, Lib.hid rfl⟩
  rw [HG3.out] at HO0
  have HIX : Hid (∀ j, j < n → ∀ W, (Instr.index 9 (.string (strU bs)) (.int .i64 (j : Int))).run Try.prog W = .ok (.int .u8 ((bs.getD j 0 : Nat) : Int)) W) := Lib.hid (fun j hj W => idxU HBD.out (by rw [HBL.out]; exact hj) W)
  have HCH : Hid (∀ k, k ≤ n → ∀ W, (Instr.slice 9 (.string (strU bs)) none (some (.int .i64 (k : Int))) none).run Try.prog W = .ok (.string (strU (bs.take k))) W) := Lib.hid (fun k hk W => cutU_h k (by rw [HBL.out]; exact hk) W)
  have HCL : Hid (∀ k, k ≤ n → ∀ W, (Instr.slice 9 (.string (strU bs)) (some (.int .i64 (k : Int))) none none).run Try.prog W = .ok (.string (strU (bs.drop k))) W) := Lib.hid (fun k hk W => cutU_l k (by rw [HBL.out]; exact hk) W)
  have HLH : Hid (∀ l k, l + k ≤ n → ∀ W, (Instr.slice 9 (.string (strU bs)) (some (.int .i64 (l : Int))) (some (.int .i64 ((l : Int) + (k : Int)))) none).run Try.prog W = .ok (.string (strU ((bs.drop l).take k))) W) := Lib.hid (fun l k hk W => cutU_lh l k (by rw [HBL.out]; exact hk) W)
  obtain ⟨S, HS⟩ : ∃ S, Hid (strU bs = S) := ⟨_, Lib.hid rfl⟩
  rw [HS.out] at hsz HIX HCH HCL HLH ⊢
  clear hb hbl
  by_cases h11 : n < 11
  · have e : res bs n = ⟨0, 0, 0, [], 10⟩ := by unfold res; rw [if_pos h11]
    rw [e]
    have z0 := HO0.out.cell 0
    have z1 := HO0.out.cell 1
    have f0 := HO0.out.free 0
    have f1 := HO0.out.free 1
    have hi : (n : Int) < 11 := by omega
    clear e
    go_enter Try.func30, Try.ntmps30
    go_wp2
    refine bodyPost_ret (v := RV ⟨0, 0, 0, [], 10⟩) (by simp [results, Try.results30, go_sem, RV, lit_0, z0, z1]) rfl ⟨rfl, Lib.hid ?_⟩
    first
      | exact HB0.out
      | exact (HB0.out.setCell (by have := HG3.out; simp; omega) _).setCell (by have := HG3.out; simp; omega) _
  · have hi : ¬ (n : Int) < 11 := by omega
    go_enter Try.func30, Try.ntmps30
    go_wp2_with fail
    rw [HG3.out]
    generalize w.alloc (.cells #[.int .i64 0, .int .i64 0] T2) = W at HB0 HO0 ⊢
    have hc2 := HCH.out 2 (by omega)
    rw [show ((2 : Nat) : Int) = 2 from rfl] at hc2
    obtain ⟨P2, HP2⟩ : ∃ P2, Hid (strU (bs.take 2) = P2) := ⟨_, Lib.hid rfl⟩
    rw [HP2.out] at hc2
    by_cases hpre : pre2 bs = true
    · have hpe : bs.take 2 = [84, 49] := by unfold pre2 at hpre; exact of_decide_eq_true hpre
      have HPRE := Lib.hid hpre
      obtain rfl : P2 = ByteArray.mk #[84, 49] := by rw [← HP2.out, hpe, lit_t1]
      have i7 := HIX.out 7 (by omega)
      have i8 := HIX.out 8 (by omega)
      rw [show ((7 : Nat) : Int) = 7 from rfl] at i7
      rw [show ((8 : Nat) : Int) = 8 from rfl] at i8
      have b7 := getD_lt HBD.out 7
      have b8 := getD_lt HBD.out 8
      have HB2 : Hid (b2 bs 7 = bs.getD 7 0 * 256 + bs.getD 8 0) := Lib.hid rfl
      obtain ⟨a7, H7⟩ : ∃ a7, Hid (bs.getD 7 0 = a7) := ⟨_, Lib.hid rfl⟩
      obtain ⟨a8, H8⟩ : ∃ a8, Hid (bs.getD 8 0 = a8) := ⟨_, Lib.hid rfl⟩
      rw [H7.out] at i7 b7 HB2
      rw [H8.out] at i8 b8 HB2
      obtain ⟨L, HL⟩ : ∃ L, Hid (11 + b2 bs 7 = L) := ⟨_, Lib.hid rfl⟩
      have hL : 11 + 256 * (a7 : Int) + (a8 : Int) = (L : Int) := by have := HL.out; have := HB2.out; omega
      have hLb : L ≤ 70000 := by have := HL.out; have := HB2.out; omega
      have u1 : IntKind.i64.wrap (a7 : Int) = (a7 : Int) := IntWalk.i64_in _ (by omega)
      have u2 : IntKind.i64.wrap (256 * (a7 : Int)) = 256 * (a7 : Int) := IntWalk.i64_in _ (by omega)
      have u3 : IntKind.i64.wrap (11 + 256 * (a7 : Int)) = 11 + 256 * (a7 : Int) := IntWalk.i64_in _ (by omega)
      have u4 : IntKind.i64.wrap (a8 : Int) = (a8 : Int) := IntWalk.i64_in _ (by omega)
      have u5 : IntKind.i64.wrap (L : Int) = (L : Int) := IntWalk.i64_in _ (by omega)
      clear hpe hpre
      obtain ⟨q, HQ⟩ : ∃ q, Hid (((n : Int) != (L : Int)) = q) := ⟨_, Lib.hid rfl⟩
      have hq := HQ.out
      refine wp_region_specL 17 [.d (.string S), .d (.string (ByteArray.mk #[84, 49])), .d (.bool false), .d (.bool false), .d (.string S), .d (.int .i64 n), .d (.string S), .d (.int .u8 a7), .d (.int .i64 a7), .d (.int .i64 (256 * (a7 : Int))), .d (.int .i64 (11 + 256 * (a7 : Int))), .d (.string S), .d (.int .u8 a8), .d (.int .i64 a8), .d (.int .i64 L), .d (.bool q), .d (.bool q)] (by kernel_rfl) (by kernel_rfl) ?_
      refine spec_d rfl (fun x _ => gives_run (by go_simp)) ?_
      try simp only [Act.put, List.getElem_toArray, List.getElem_cons_succ, List.getElem_cons_zero, List.setIfInBounds_toArray, List.set_cons_zero, List.set_cons_succ]
      refine spec_d rfl (fun x _ => gives_run (by go_simp)) ?_
      try simp only [Act.put, List.getElem_toArray, List.getElem_cons_succ, List.getElem_cons_zero, List.setIfInBounds_toArray, List.set_cons_zero, List.set_cons_succ]
      refine spec_d rfl (fun x _ => gives_run (by go_simp)) ?_
      try simp only [Act.put, List.getElem_toArray, List.getElem_cons_succ, List.getElem_cons_zero, List.setIfInBounds_toArray, List.set_cons_zero, List.set_cons_succ]
      refine spec_d rfl (fun x _ => gives_run (by go_simp)) ?_
      try simp only [Act.put, List.getElem_toArray, List.getElem_cons_succ, List.getElem_cons_zero, List.setIfInBounds_toArray, List.set_cons_zero, List.set_cons_succ]
      refine spec_d rfl (fun x _ => gives_run (by go_simp)) ?_
      try simp only [Act.put, List.getElem_toArray, List.getElem_cons_succ, List.getElem_cons_zero, List.setIfInBounds_toArray, List.set_cons_zero, List.set_cons_succ]
      refine spec_d rfl (fun x _ => gives_run (by go_simp)) ?_
      try simp only [Act.put, List.getElem_toArray, List.getElem_cons_succ, List.getElem_cons_zero, List.setIfInBounds_toArray, List.set_cons_zero, List.set_cons_succ]
      refine spec_d rfl (fun x _ => gives_run (by go_simp)) ?_
      try simp only [Act.put, List.getElem_toArray, List.getElem_cons_succ, List.getElem_cons_zero, List.setIfInBounds_toArray, List.set_cons_zero, List.set_cons_succ]
      refine spec_d rfl (fun x _ => gives_run (by go_simp)) ?_
      try simp only [Act.put, List.getElem_toArray, List.getElem_cons_succ, List.getElem_cons_zero, List.setIfInBounds_toArray, List.set_cons_zero, List.set_cons_succ]
      refine spec_d rfl (fun x _ => gives_run (by go_simp)) ?_
      try simp only [Act.put, List.getElem_toArray, List.getElem_cons_succ, List.getElem_cons_zero, List.setIfInBounds_toArray, List.set_cons_zero, List.set_cons_succ]
      refine spec_d rfl (fun x _ => gives_run (by go_simp)) ?_
      try simp only [Act.put, List.getElem_toArray, List.getElem_cons_succ, List.getElem_cons_zero, List.setIfInBounds_toArray, List.set_cons_zero, List.set_cons_succ]
      refine spec_d rfl (fun x _ => gives_run (by go_simp)) ?_
      try simp only [Act.put, List.getElem_toArray, List.getElem_cons_succ, List.getElem_cons_zero, List.setIfInBounds_toArray, List.set_cons_zero, List.set_cons_succ]
      refine spec_d rfl (fun x _ => gives_run (by go_simp)) ?_
      try simp only [Act.put, List.getElem_toArray, List.getElem_cons_succ, List.getElem_cons_zero, List.setIfInBounds_toArray, List.set_cons_zero, List.set_cons_succ]
      refine spec_d rfl (fun x _ => gives_run (by go_simp)) ?_
      try simp only [Act.put, List.getElem_toArray, List.getElem_cons_succ, List.getElem_cons_zero, List.setIfInBounds_toArray, List.set_cons_zero, List.set_cons_succ]
      refine spec_d rfl (fun x _ => gives_run (by go_simp)) ?_
      try simp only [Act.put, List.getElem_toArray, List.getElem_cons_succ, List.getElem_cons_zero, List.setIfInBounds_toArray, List.set_cons_zero, List.set_cons_succ]
      refine spec_d rfl (fun x _ => gives_run (by go_simp)) ?_
      try simp only [Act.put, List.getElem_toArray, List.getElem_cons_succ, List.getElem_cons_zero, List.setIfInBounds_toArray, List.set_cons_zero, List.set_cons_succ]
      refine spec_d rfl (fun x _ => gives_run (by go_simp)) ?_
      try simp only [Act.put, List.getElem_toArray, List.getElem_cons_succ, List.getElem_cons_zero, List.setIfInBounds_toArray, List.set_cons_zero, List.set_cons_succ]
      refine spec_d rfl (fun x _ => gives_run (by go_simp)) ?_
      try simp only [Act.put, List.getElem_toArray, List.getElem_cons_succ, List.getElem_cons_zero, List.setIfInBounds_toArray, List.set_cons_zero, List.set_cons_succ]
      refine spec_end (fun x hx => ?_)
      clear hx
      refine wpAny_done (by kernel_rfl) ?_ _
      have HB1 := Lib.hid (HB0.out.trans (((bel_drew W).trans x.below).mono HB0.out.size))
      have HO1 := Lib.hid (HO0.out.kept ((bel_drew W).trans x.below))
      clear i7 i8 hc2 hL hq u1 u2 u3 u4 u5
      generalize x.world = W1 at HB1 HO1 ⊢
      cases q
      · have hnL : n = L := by have := HQ.out; simp at this; omega
        have HYF : Hid (pre2 bs = true ∧ n = 11 + b2 bs 7) := Lib.hid ⟨HPRE.out, by rw [HL.out]; exact hnL⟩
        obtain ⟨K, HK⟩ : ∃ K, Hid (n - 2 = K) := ⟨_, Lib.hid rfl⟩
        have hK : (n : Int) - 2 = (K : Int) := by have := HK.out; omega
        have hKn : K + 2 = n := by have := HK.out; omega
        have u6 : IntKind.i64.wrap (K : Int) = (K : Int) := IntWalk.i64_in _ (by omega)
        have cA := HCH.out K (by omega)
        have cB := HCL.out K (by omega)
        obtain ⟨BD, HBDS⟩ : ∃ BD, Hid (strU (bs.take K) = BD) := ⟨_, Lib.hid rfl⟩
        obtain ⟨TL, HTL⟩ : ∃ TL, Hid (strU (bs.drop K) = TL) := ⟨_, Lib.hid rfl⟩
        have HSUM := Lib.hid (fun W => rsum_any (bs.take K) W (fun x hx => HBD.out x (List.mem_of_mem_take hx)) (by rw [List.length_take, HBL.out]; omega))
        have hQ := sumL_lt (s := 65535) (by omega) (fun x hx => HBD.out x (List.mem_of_mem_take (i := K) hx))
        obtain ⟨Q, HQN⟩ : ∃ Q, Hid (sumL 65535 (bs.take K) = Q) := ⟨_, Lib.hid rfl⟩
        rw [HQN.out] at HSUM hQ
        rw [HBDS.out] at cA HSUM
        rw [HTL.out] at cB
        have HTW := Lib.hid (fun W => rtwo_any Q W hQ)
        obtain ⟨T, HT⟩ : ∃ T, Hid (strU (two Q) = T) := ⟨_, Lib.hid rfl⟩
        rw [HT.out] at HTW
        have HTD := Lib.hid (two_drop (K := K) HBD.out (by rw [HBL.out]; omega) hQ)
        clear hnL
        go_wp2_with fail
        obtain ⟨q2, HQ2⟩ : ∃ q2, Hid ((!(T.toList == TL.toList)) = q2) := ⟨_, Lib.hid rfl⟩
        have hq2 := HQ2.out
        refine wp_region_specL 13 [.d (.string S), .d (.string S), .d (.int .i64 n), .d (.int .i64 K), .d (.string BD), .d (.int .i64 Q), .d (.string T), .d (.string S), .d (.string S), .d (.int .i64 n), .d (.int .i64 K), .d (.string TL), .d (.bool q2)] (by kernel_rfl) (by kernel_rfl) ?_
        refine spec_d rfl (fun x _ => gives_run (by go_simp)) ?_
        try simp only [Act.put, List.getElem_toArray, List.getElem_cons_succ, List.getElem_cons_zero, List.setIfInBounds_toArray, List.set_cons_zero, List.set_cons_succ]
        refine spec_d rfl (fun x _ => gives_run (by go_simp)) ?_
        try simp only [Act.put, List.getElem_toArray, List.getElem_cons_succ, List.getElem_cons_zero, List.setIfInBounds_toArray, List.set_cons_zero, List.set_cons_succ]
        refine spec_d rfl (fun x _ => gives_run (by go_simp)) ?_
        try simp only [Act.put, List.getElem_toArray, List.getElem_cons_succ, List.getElem_cons_zero, List.setIfInBounds_toArray, List.set_cons_zero, List.set_cons_succ]
        refine spec_d rfl (fun x _ => gives_run (by go_simp)) ?_
        try simp only [Act.put, List.getElem_toArray, List.getElem_cons_succ, List.getElem_cons_zero, List.setIfInBounds_toArray, List.set_cons_zero, List.set_cons_succ]
        refine spec_d rfl (fun x _ => gives_run (by go_simp)) ?_
        try simp only [Act.put, List.getElem_toArray, List.getElem_cons_succ, List.getElem_cons_zero, List.setIfInBounds_toArray, List.set_cons_zero, List.set_cons_succ]
        refine spec_d rfl (fun x _ => gives_det_same (by go_simp) (HSUM.out x.world)) ?_
        try simp only [Act.put, List.getElem_toArray, List.getElem_cons_succ, List.getElem_cons_zero, List.setIfInBounds_toArray, List.set_cons_zero, List.set_cons_succ]
        refine spec_d rfl (fun x _ => gives_det (by go_simp) (HTW.out x.world)) ?_
        try simp only [Act.put, List.getElem_toArray, List.getElem_cons_succ, List.getElem_cons_zero, List.setIfInBounds_toArray, List.set_cons_zero, List.set_cons_succ]
        refine spec_d rfl (fun x _ => gives_run (by go_simp)) ?_
        try simp only [Act.put, List.getElem_toArray, List.getElem_cons_succ, List.getElem_cons_zero, List.setIfInBounds_toArray, List.set_cons_zero, List.set_cons_succ]
        refine spec_d rfl (fun x _ => gives_run (by go_simp)) ?_
        try simp only [Act.put, List.getElem_toArray, List.getElem_cons_succ, List.getElem_cons_zero, List.setIfInBounds_toArray, List.set_cons_zero, List.set_cons_succ]
        refine spec_d rfl (fun x _ => gives_run (by go_simp)) ?_
        try simp only [Act.put, List.getElem_toArray, List.getElem_cons_succ, List.getElem_cons_zero, List.setIfInBounds_toArray, List.set_cons_zero, List.set_cons_succ]
        refine spec_d rfl (fun x _ => gives_run (by go_simp)) ?_
        try simp only [Act.put, List.getElem_toArray, List.getElem_cons_succ, List.getElem_cons_zero, List.setIfInBounds_toArray, List.set_cons_zero, List.set_cons_succ]
        refine spec_d rfl (fun x _ => gives_run (by go_simp)) ?_
        try simp only [Act.put, List.getElem_toArray, List.getElem_cons_succ, List.getElem_cons_zero, List.setIfInBounds_toArray, List.set_cons_zero, List.set_cons_succ]
        refine spec_d rfl (fun x _ => gives_run (by go_simp)) ?_
        try simp only [Act.put, List.getElem_toArray, List.getElem_cons_succ, List.getElem_cons_zero, List.setIfInBounds_toArray, List.set_cons_zero, List.set_cons_succ]
        refine spec_end (fun x hx => ?_)
        clear hx
        refine wpAny_done (by kernel_rfl) ?_ _
        have HB2w := Lib.hid (HB1.out.trans (((bel_drew W1).trans x.below).mono HB1.out.size))
        have HO2 := Lib.hid (HO1.out.kept ((bel_drew W1).trans x.below))
        clear hq2 cA cB hK u6
        generalize x.world = W2 at HB2w HO2 ⊢
        cases q2
        · have hsum : b2 bs K = Q := by
            have h := HQ2.out
            have h1 : (T.toList == TL.toList) = true := by simpa using h
            have h2 : T = TL := by
              have h3 := eq_of_beq h1
              rw [ByteArray.toList_eq, ByteArray.toList_eq] at h3
              exact ByteArray.ext (Array.toList_inj.1 h3)
            rw [← HT.out, ← HTL.out] at h2
            exact HTD.out.2 (strB_inj (two_lt hQ) (fun x hx => HBD.out x (List.mem_of_mem_drop hx)) h2)
          have HYS : Hid (b2 bs (n - 2) = sumL 65535 (bs.take (n - 2))) := Lib.hid (by rw [HK.out, HQN.out]; exact hsum)
          clear hsum
          obtain ⟨C, HC⟩ : ∃ C, Hid (n - 11 = C) := ⟨_, Lib.hid rfl⟩
          have hCK : (9 : Int) + (C : Int) = (K : Int) := by have := HC.out; omega
          have i2 := HIX.out 2 (by omega)
          have i3 := HIX.out 3 (by omega)
          have i4 := HIX.out 4 (by omega)
          have i5 := HIX.out 5 (by omega)
          have i6 := HIX.out 6 (by omega)
          rw [show ((2 : Nat) : Int) = 2 from rfl] at i2
          rw [show ((3 : Nat) : Int) = 3 from rfl] at i3
          rw [show ((4 : Nat) : Int) = 4 from rfl] at i4
          rw [show ((5 : Nat) : Int) = 5 from rfl] at i5
          rw [show ((6 : Nat) : Int) = 6 from rfl] at i6
          have b2' := getD_lt HBD.out 2
          have b3 := getD_lt HBD.out 3
          have b4 := getD_lt HBD.out 4
          have b5 := getD_lt HBD.out 5
          have b6 := getD_lt HBD.out 6
          have HE3 : Hid (b2 bs 3 = bs.getD 3 0 * 256 + bs.getD 4 0) := Lib.hid rfl
          have HE5 : Hid (b2 bs 5 = bs.getD 5 0 * 256 + bs.getD 6 0) := Lib.hid rfl
          obtain ⟨a2, H2⟩ : ∃ a2, Hid (bs.getD 2 0 = a2) := ⟨_, Lib.hid rfl⟩
          obtain ⟨a3, H3⟩ : ∃ a3, Hid (bs.getD 3 0 = a3) := ⟨_, Lib.hid rfl⟩
          obtain ⟨a4, H4⟩ : ∃ a4, Hid (bs.getD 4 0 = a4) := ⟨_, Lib.hid rfl⟩
          obtain ⟨a5, H5⟩ : ∃ a5, Hid (bs.getD 5 0 = a5) := ⟨_, Lib.hid rfl⟩
          obtain ⟨a6, H6⟩ : ∃ a6, Hid (bs.getD 6 0 = a6) := ⟨_, Lib.hid rfl⟩
          obtain ⟨E0, HE0⟩ : ∃ E0, Hid (b2 bs 3 = E0) := ⟨_, Lib.hid rfl⟩
          obtain ⟨E1, HE1⟩ : ∃ E1, Hid (b2 bs 5 = E1) := ⟨_, Lib.hid rfl⟩
          rw [H2.out] at i2 b2'
          rw [H3.out] at i3 b3 HE3
          rw [H4.out] at i4 b4 HE3
          rw [H5.out] at i5 b5 HE5
          rw [H6.out] at i6 b6 HE5
          rw [HE0.out] at HE3
          rw [HE1.out] at HE5
          have e0 : 256 * (a3 : Int) + (a4 : Int) = (E0 : Int) := by have := HE3.out; omega
          have e1 : 256 * (a5 : Int) + (a6 : Int) = (E1 : Int) := by have := HE5.out; omega
          have l0 : E0 < 65536 := by have := HE3.out; omega
          have l1 : E1 < 65536 := by have := HE5.out; omega
          have v2 : IntKind.i64.wrap (a2 : Int) = (a2 : Int) := IntWalk.i64_in _ (by omega)
          have v3 : IntKind.i64.wrap (a3 : Int) = (a3 : Int) := IntWalk.i64_in _ (by omega)
          have v4 : IntKind.i64.wrap (a4 : Int) = (a4 : Int) := IntWalk.i64_in _ (by omega)
          have v5 : IntKind.i64.wrap (a5 : Int) = (a5 : Int) := IntWalk.i64_in _ (by omega)
          have v6 : IntKind.i64.wrap (a6 : Int) = (a6 : Int) := IntWalk.i64_in _ (by omega)
          have w3 : IntKind.i64.wrap (256 * (a3 : Int)) = 256 * (a3 : Int) := IntWalk.i64_in _ (by omega)
          have w5 : IntKind.i64.wrap (256 * (a5 : Int)) = 256 * (a5 : Int) := IntWalk.i64_in _ (by omega)
          have x0 : IntKind.i64.wrap (E0 : Int) = (E0 : Int) := IntWalk.i64_in _ (by omega)
          have x1 : IntKind.i64.wrap (E1 : Int) = (E1 : Int) := IntWalk.i64_in _ (by omega)
          go_wp2_with fail
          refine wp_region_specL 18 [.d (.string S), .d (.int .u8 a3), .d (.int .i64 a3), .d (.int .i64 (256 * (a3 : Int))), .d (.string S), .d (.int .u8 a4), .d (.int .i64 a4), .d (.int .i64 E0), .d (.string S), .d (.int .u8 a5), .d (.int .i64 a5), .d (.int .i64 (256 * (a5 : Int))), .d (.string S), .d (.int .u8 a6), .d (.int .i64 a6), .d (.int .i64 E1), .d (.agg #[.int .i64 E0, .int .i64 E1]), .g (NewO W2.heap.size T2 #[.int .i64 0, .int .i64 0])] (by kernel_rfl) (by kernel_rfl) ?_
          refine spec_d rfl (fun x _ => gives_run (by go_simp)) ?_
          try simp only [Act.put, List.getElem_toArray, List.getElem_cons_succ, List.getElem_cons_zero, List.setIfInBounds_toArray, List.set_cons_zero, List.set_cons_succ]
          refine spec_d rfl (fun x _ => gives_run (by go_simp)) ?_
          try simp only [Act.put, List.getElem_toArray, List.getElem_cons_succ, List.getElem_cons_zero, List.setIfInBounds_toArray, List.set_cons_zero, List.set_cons_succ]
          refine spec_d rfl (fun x _ => gives_run (by go_simp)) ?_
          try simp only [Act.put, List.getElem_toArray, List.getElem_cons_succ, List.getElem_cons_zero, List.setIfInBounds_toArray, List.set_cons_zero, List.set_cons_succ]
          refine spec_d rfl (fun x _ => gives_run (by go_simp)) ?_
          try simp only [Act.put, List.getElem_toArray, List.getElem_cons_succ, List.getElem_cons_zero, List.setIfInBounds_toArray, List.set_cons_zero, List.set_cons_succ]
          refine spec_d rfl (fun x _ => gives_run (by go_simp)) ?_
          try simp only [Act.put, List.getElem_toArray, List.getElem_cons_succ, List.getElem_cons_zero, List.setIfInBounds_toArray, List.set_cons_zero, List.set_cons_succ]
          refine spec_d rfl (fun x _ => gives_run (by go_simp)) ?_
          try simp only [Act.put, List.getElem_toArray, List.getElem_cons_succ, List.getElem_cons_zero, List.setIfInBounds_toArray, List.set_cons_zero, List.set_cons_succ]
          refine spec_d rfl (fun x _ => gives_run (by go_simp)) ?_
          try simp only [Act.put, List.getElem_toArray, List.getElem_cons_succ, List.getElem_cons_zero, List.setIfInBounds_toArray, List.set_cons_zero, List.set_cons_succ]
          refine spec_d rfl (fun x _ => gives_run (by go_simp)) ?_
          try simp only [Act.put, List.getElem_toArray, List.getElem_cons_succ, List.getElem_cons_zero, List.setIfInBounds_toArray, List.set_cons_zero, List.set_cons_succ]
          refine spec_d rfl (fun x _ => gives_run (by go_simp)) ?_
          try simp only [Act.put, List.getElem_toArray, List.getElem_cons_succ, List.getElem_cons_zero, List.setIfInBounds_toArray, List.set_cons_zero, List.set_cons_succ]
          refine spec_d rfl (fun x _ => gives_run (by go_simp)) ?_
          try simp only [Act.put, List.getElem_toArray, List.getElem_cons_succ, List.getElem_cons_zero, List.setIfInBounds_toArray, List.set_cons_zero, List.set_cons_succ]
          refine spec_d rfl (fun x _ => gives_run (by go_simp)) ?_
          try simp only [Act.put, List.getElem_toArray, List.getElem_cons_succ, List.getElem_cons_zero, List.setIfInBounds_toArray, List.set_cons_zero, List.set_cons_succ]
          refine spec_d rfl (fun x _ => gives_run (by go_simp)) ?_
          try simp only [Act.put, List.getElem_toArray, List.getElem_cons_succ, List.getElem_cons_zero, List.setIfInBounds_toArray, List.set_cons_zero, List.set_cons_succ]
          refine spec_d rfl (fun x _ => gives_run (by go_simp)) ?_
          try simp only [Act.put, List.getElem_toArray, List.getElem_cons_succ, List.getElem_cons_zero, List.setIfInBounds_toArray, List.set_cons_zero, List.set_cons_succ]
          refine spec_d rfl (fun x _ => gives_run (by go_simp)) ?_
          try simp only [Act.put, List.getElem_toArray, List.getElem_cons_succ, List.getElem_cons_zero, List.setIfInBounds_toArray, List.set_cons_zero, List.set_cons_succ]
          refine spec_d rfl (fun x _ => gives_run (by go_simp)) ?_
          try simp only [Act.put, List.getElem_toArray, List.getElem_cons_succ, List.getElem_cons_zero, List.setIfInBounds_toArray, List.set_cons_zero, List.set_cons_succ]
          refine spec_d rfl (fun x _ => gives_run (by go_simp)) ?_
          try simp only [Act.put, List.getElem_toArray, List.getElem_cons_succ, List.getElem_cons_zero, List.setIfInBounds_toArray, List.set_cons_zero, List.set_cons_succ]
          refine spec_d rfl (fun x _ => gives_run (by go_simp)) ?_
          try simp only [Act.put, List.getElem_toArray, List.getElem_cons_succ, List.getElem_cons_zero, List.setIfInBounds_toArray, List.set_cons_zero, List.set_cons_succ]
          refine spec_g (NewO.stable _ _ _) (NewO.ex _ _ (Nat.le_refl _)) rfl (fun x _ => gives_ok (by go_simp) (bel_new _ _) (NewO.new x.below.size)) ?_
          rintro v ⟨y, g6, rfl, hg6, _⟩
          try simp only [Act.put, List.getElem_toArray, List.getElem_cons_succ, List.getElem_cons_zero, List.setIfInBounds_toArray, List.set_cons_zero, List.set_cons_succ]
          refine spec_end (fun x hx => ?_)
          have hgo := NewO.at (hx _ (List.mem_singleton.2 rfl))
          have HGO := Lib.hid hgo
          have z0 := hgo.cell 0
          have z1 := hgo.cell 1
          have f0 := hgo.free 0
          have f1 := hgo.free 1
          clear hx hgo
          change wpAny _ _ _ _ (0 + 1) _ _ _
          refine wpAny_ready (rs := [18]) (by kernel_rfl) (by simp) ?_
          refine AllReady.cons rfl (fun KK hK => ?_) AllReady.nil
          go_simp
          refine hK _ _ ?_
          clear hK KK
          try simp only [Act.put, List.getElem_toArray, List.getElem_cons_succ, List.getElem_cons_zero, List.setIfInBounds_toArray, List.set_cons_zero, List.set_cons_succ]
          refine wpAny_done (by kernel_rfl) ?_ _
          have hw26 : w.heap.size ≤ g6 := Nat.le_trans HB2w.out.size hg6
          have h36 : g3 < g6 := Nat.lt_of_lt_of_le HO2.out.lt hg6
          have HBX := HB2w.out.trans (((bel_drew W2).trans x.below).mono HB2w.out.size)
          have HB3 : Hid (Below w.heap.size w ((x.world.setCell ⟨g6, 0, none⟩ (.int .i64 (E0 : Int))).setCell ⟨g6, 1, none⟩ (.int .i64 (E1 : Int)))) := Lib.hid ((HBX.setCell (by simpa using hw26) _).setCell (by simpa using hw26) _)
          have HO3 : Hid (Obj1 ((x.world.setCell ⟨g6, 0, none⟩ (.int .i64 (E0 : Int))).setCell ⟨g6, 1, none⟩ (.int .i64 (E1 : Int))) g3 T2 #[.int .i64 0, .int .i64 0]) := Lib.hid (((HO2.out.kept ((bel_drew W2).trans x.below)).far ⟨g6, 0, none⟩ (by simp; omega) _).far ⟨g6, 1, none⟩ (by simp; omega) _)
          have HG6 : Hid (Obj1 ((x.world.setCell ⟨g6, 0, none⟩ (.int .i64 (E0 : Int))).setCell ⟨g6, 1, none⟩ (.int .i64 (E1 : Int))) g6 T2 #[.int .i64 E0, .int .i64 E1]) := Lib.hid ((HGO.out.set 0 (.int .i64 E0)).set 1 (.int .i64 E1))
          generalize (x.world.setCell ⟨g6, 0, none⟩ (.int .i64 (E0 : Int))).setCell ⟨g6, 1, none⟩ (.int .i64 (E1 : Int)) = W3 at HB3 HO3 HG6 ⊢
          clear z0 z1 f0 f1 i3 i4 i5 i6 v3 v4 v5 v6 w3 w5 x0 x1 e0 e1 HBX
          have cC := HLH.out 9 C (by have := HC.out; omega)
          rw [show ((9 : Nat) : Int) = 9 from rfl, hCK] at cC
          obtain ⟨CD, HCD⟩ : ∃ CD, Hid (strU ((bs.drop 9).take C) = CD) := ⟨_, Lib.hid rfl⟩
          have hcz : CD.size = C := by rw [← HCD.out, strU_len, List.length_take, List.length_drop, HBL.out]; have := HC.out; omega
          rw [HCD.out] at cC
          have hK2 : (n : Int) - 2 = (K : Int) := by omega
          have u6 : IntKind.i64.wrap (K : Int) = (K : Int) := IntWalk.i64_in _ (by omega)
          have K0 : ∀ x : Kin W3.drew, x.world.cell? ⟨g6, 0, none⟩ = some (.int .i64 (E0 : Int)) := fun x => (HG6.out.kept ((bel_drew W3).trans x.below)).cell 0
          have K1 : ∀ x : Kin W3.drew, x.world.cell? ⟨g6, 1, none⟩ = some (.int .i64 (E1 : Int)) := fun x => (HG6.out.kept ((bel_drew W3).trans x.below)).cell 1
          have HCZ := Lib.hid hcz
          clear hcz hCK
          obtain ⟨r, HR⟩ : ∃ r, Hid (decide (RI a2 E0 E1 C) = r) := ⟨_, Lib.hid rfl⟩
          have HRT : Hid (∀ X : World, Calls Try.prog 26 #[.int .i64 a2, .agg #[.int .i64 E0, .int .i64 E1], .string CD] X fun e w' => e = .returned (.bool r) ∧ Below X.heap.size X w') := by
            by_cases hr : RI a2 E0 E1 C
            · rw [← HR.out, decide_eq_true hr]; exact Lib.hid (fun X => rright_yes a2 E0 E1 CD C HCZ.out X hr)
            · rw [← HR.out, decide_eq_false hr]; exact Lib.hid (fun X => rright_no a2 E0 E1 CD C HCZ.out X hr (by have := HC.out; omega))
          go_wp2_with fail
          clear cC hK2 u6
          refine wp_region_specL 7 [.d (.string S), .d (.int .u8 a2), .d (.int .i64 a2), .d (.agg #[.int .i64 E0, .int .i64 E1]), .d (.string CD), .d (.bool r), .d (.bool (!r))] (by kernel_rfl) (by kernel_rfl) ?_
          refine spec_d rfl (fun x _ => gives_run (by go_simp)) ?_
          try simp only [Act.put, List.getElem_toArray, List.getElem_cons_succ, List.getElem_cons_zero, List.setIfInBounds_toArray, List.set_cons_zero, List.set_cons_succ]
          refine spec_d rfl (fun x _ => gives_run (by go_simp)) ?_
          try simp only [Act.put, List.getElem_toArray, List.getElem_cons_succ, List.getElem_cons_zero, List.setIfInBounds_toArray, List.set_cons_zero, List.set_cons_succ]
          refine spec_d rfl (fun x _ => gives_run (by go_simp)) ?_
          try simp only [Act.put, List.getElem_toArray, List.getElem_cons_succ, List.getElem_cons_zero, List.setIfInBounds_toArray, List.set_cons_zero, List.set_cons_succ]
          refine spec_d rfl (fun x _ => gives_run (by go_simp)) ?_
          try simp only [Act.put, List.getElem_toArray, List.getElem_cons_succ, List.getElem_cons_zero, List.setIfInBounds_toArray, List.set_cons_zero, List.set_cons_succ]
          refine spec_d rfl (fun x _ => gives_run (by go_simp)) ?_
          try simp only [Act.put, List.getElem_toArray, List.getElem_cons_succ, List.getElem_cons_zero, List.setIfInBounds_toArray, List.set_cons_zero, List.set_cons_succ]
          refine spec_d rfl (fun x _ => gives_det (by go_simp) (HRT.out x.world)) ?_
          try simp only [Act.put, List.getElem_toArray, List.getElem_cons_succ, List.getElem_cons_zero, List.setIfInBounds_toArray, List.set_cons_zero, List.set_cons_succ]
          refine spec_d rfl (fun x _ => gives_run (by go_simp)) ?_
          try simp only [Act.put, List.getElem_toArray, List.getElem_cons_succ, List.getElem_cons_zero, List.setIfInBounds_toArray, List.set_cons_zero, List.set_cons_succ]
          refine spec_end (fun x hx => ?_)
          clear hx
          refine wpAny_done (by kernel_rfl) ?_ _
          have HB4 := Lib.hid (HB3.out.trans (((bel_drew W3).trans x.below).mono HB3.out.size))
          have HO4 := Lib.hid (HO3.out.kept ((bel_drew W3).trans x.below))
          have HG4 := Lib.hid (HG6.out.kept ((bel_drew W3).trans x.below))
          clear K0 K1
          generalize x.world = W4 at HB4 HO4 HG4 ⊢
          cases r
          · have hnr : ¬ RI (bs.getD 2 0 : Nat) (b2 bs 3 : Nat) (b2 bs 5 : Nat) (n - 11) := by rw [H2.out, HE0.out, HE1.out, HC.out]; exact of_decide_eq_false HR.out
            have e : res bs n = ⟨0, 0, 0, [], 11⟩ := by unfold res; rw [if_neg h11, if_neg (fun h => h HYF.out), if_neg (fun h => h HYS.out), if_pos hnr]
            have HE := Lib.hid e
            clear e hnr i2 v2
            have z0 := HO4.out.cell 0
            have z1 := HO4.out.cell 1
            have f0 := HO4.out.free 0
            have f1 := HO4.out.free 1
            go_wp2
            refine bodyPost_ret (v := RV ⟨0, 0, 0, [], 11⟩) (by simp [results, Try.results30, go_sem, RV, lit_0, z0, z1]) rfl ⟨congrArg (fun r => Ending.returned (RV r)) HE.out.symm, Lib.hid ?_⟩
            first
              | exact HB4.out
              | exact (HB4.out.setCell (by have := HG3.out; simp; omega) _).setCell (by have := HG3.out; simp; omega) _
          · have hir : RI (bs.getD 2 0 : Nat) (b2 bs 3 : Nat) (b2 bs 5 : Nat) (n - 11) := by rw [H2.out, HE0.out, HE1.out, HC.out]; exact of_decide_eq_true HR.out
            have e : res bs n = ⟨a2, E0, E1, (bs.drop 9).take C, 0⟩ := by unfold res; rw [if_neg h11, if_neg (fun h => h HYF.out), if_neg (fun h => h HYS.out), if_neg (fun h => h hir), H2.out, HE0.out, HE1.out, HC.out]
            have HE := Lib.hid e
            clear e hir
            have k0 := HG4.out.cell 0
            have k1 := HG4.out.cell 1
            have z0 := HO4.out.cell 0
            have z1 := HO4.out.cell 1
            have f0 := HO4.out.free 0
            have f1 := HO4.out.free 1
            have HBZ : Hid (Below w.heap.size w (((W4.setCell ⟨g3, 0, none⟩ (.int .i64 (E0 : Int))).setCell ⟨g3, 1, none⟩ (.int .i64 (E1 : Int))).drew)) := Lib.hid ((HB4.out.setCell (by have := HG3.out; simp; omega) _).setCell (by have := HG3.out; simp; omega) _).drew
            have HOZ : Hid (Obj1 (((W4.setCell ⟨g3, 0, none⟩ (.int .i64 (E0 : Int))).setCell ⟨g3, 1, none⟩ (.int .i64 (E1 : Int))).drew) g3 T2 #[.int .i64 E0, .int .i64 E1]) := Lib.hid ((HO4.out.set 0 (.int .i64 E0)).set 1 (.int .i64 E1)).drew
            have h36' : g3 ≠ g6 := by omega
            go_wp2_with fail
            go_region
            clear k0 k1 z0 z1 f0 f1
            generalize ((W4.setCell ⟨g3, 0, none⟩ (.int .i64 (E0 : Int))).setCell ⟨g3, 1, none⟩ (.int .i64 (E1 : Int))).drew = W5 at HBZ HOZ ⊢
            have z0 := HOZ.out.cell 0
            have z1 := HOZ.out.cell 1
            go_wp2
            refine bodyPost_ret (v := RV ⟨a2, E0, E1, (bs.drop 9).take C, 0⟩) (by simp [results, Try.results30, go_sem, RV, HCD.out, z0, z1]) rfl ⟨congrArg (fun r => Ending.returned (RV r)) HE.out.symm, HBZ⟩
        · have hne : b2 bs (n - 2) ≠ sumL 65535 (bs.take (n - 2)) := by
            rw [HK.out, HQN.out]
            intro h
            have h2 := HTD.out.1 h
            have : T = TL := by rw [← HT.out, ← HTL.out, h2]
            subst this
            have := HQ2.out
            simp at this
          have e : res bs n = ⟨0, 0, 0, [], 12⟩ := by unfold res; rw [if_neg h11, if_neg (fun h => h HYF.out), if_pos hne]
          have HE := Lib.hid e
          clear e hne
          have z0 := HO2.out.cell 0
          have z1 := HO2.out.cell 1
          have f0 := HO2.out.free 0
          have f1 := HO2.out.free 1
          go_wp2
          refine bodyPost_ret (v := RV ⟨0, 0, 0, [], 12⟩) (by simp [results, Try.results30, go_sem, RV, lit_0, z0, z1]) rfl ⟨congrArg (fun r => Ending.returned (RV r)) HE.out.symm, Lib.hid ?_⟩
          first
            | exact HB2w.out
            | exact (HB2w.out.setCell (by have := HG3.out; simp; omega) _).setCell (by have := HG3.out; simp; omega) _
      · have hnf : ¬ (pre2 bs = true ∧ n = 11 + b2 bs 7) := by
          rw [HL.out]
          intro h
          have := HQ.out
          rw [h.2] at this
          simp at this
        have e : res bs n = ⟨0, 0, 0, [], 11⟩ := by unfold res; rw [if_neg h11, if_pos hnf]
        have HE := Lib.hid e
        clear e hnf
        have z0 := HO1.out.cell 0
        have z1 := HO1.out.cell 1
        have f0 := HO1.out.free 0
        have f1 := HO1.out.free 1
        go_wp2
        refine bodyPost_ret (v := RV ⟨0, 0, 0, [], 11⟩) (by simp [results, Try.results30, go_sem, RV, lit_0, z0, z1]) rfl ⟨congrArg (fun r => Ending.returned (RV r)) HE.out.symm, Lib.hid ?_⟩
        first
          | exact HB1.out
          | exact (HB1.out.setCell (by have := HG3.out; simp; omega) _).setCell (by have := HG3.out; simp; omega) _
    · have hnf : ¬ (pre2 bs = true ∧ n = 11 + b2 bs 7) := fun h => hpre h.1
      have e : res bs n = ⟨0, 0, 0, [], 11⟩ := by unfold res; rw [if_neg h11, if_pos hnf]
      have HE := Lib.hid e
      have hpn : bs.take 2 ≠ [84, 49] := fun h => hpre (by unfold pre2; exact decide_eq_true h)
      have hs1 := strU_ne (a := bs.take 2) (b := [84, 49]) (fun x hx => HBD.out x (List.mem_of_mem_take hx)) (by intro x hx; simp at hx; omega) hpn
      rw [HP2.out, lit_t1] at hs1
      have hs2 : (P2.toList == [84, 49]) = false := by simpa using hs1
      clear hpre hnf hpn e
      refine wp_region_specL 17 [.d (.string S), .d (.string P2), .d (.bool true), .d (.bool true), .d undef, .d undef, .d undef, .d undef, .d undef, .d undef, .d undef, .d undef, .d undef, .d undef, .d undef, .d undef, .d (.bool true)] (by kernel_rfl) (by kernel_rfl) ?_
      refine spec_d rfl (fun x _ => gives_run (by go_simp)) ?_
      try simp only [Act.put, List.getElem_toArray, List.getElem_cons_succ, List.getElem_cons_zero, List.setIfInBounds_toArray, List.set_cons_zero, List.set_cons_succ]
      refine spec_d rfl (fun x _ => gives_run (by go_simp)) ?_
      try simp only [Act.put, List.getElem_toArray, List.getElem_cons_succ, List.getElem_cons_zero, List.setIfInBounds_toArray, List.set_cons_zero, List.set_cons_succ]
      refine spec_d rfl (fun x _ => gives_run (by go_simp)) ?_
      try simp only [Act.put, List.getElem_toArray, List.getElem_cons_succ, List.getElem_cons_zero, List.setIfInBounds_toArray, List.set_cons_zero, List.set_cons_succ]
      refine spec_d rfl (fun x _ => gives_run (by go_simp)) ?_
      try simp only [Act.put, List.getElem_toArray, List.getElem_cons_succ, List.getElem_cons_zero, List.setIfInBounds_toArray, List.set_cons_zero, List.set_cons_succ]
      refine spec_skip rfl ?_
      try simp only [Act.put, List.getElem_toArray, List.getElem_cons_succ, List.getElem_cons_zero, List.setIfInBounds_toArray, List.set_cons_zero, List.set_cons_succ]
      refine spec_skip rfl ?_
      try simp only [Act.put, List.getElem_toArray, List.getElem_cons_succ, List.getElem_cons_zero, List.setIfInBounds_toArray, List.set_cons_zero, List.set_cons_succ]
      refine spec_skip rfl ?_
      try simp only [Act.put, List.getElem_toArray, List.getElem_cons_succ, List.getElem_cons_zero, List.setIfInBounds_toArray, List.set_cons_zero, List.set_cons_succ]
      refine spec_skip rfl ?_
      try simp only [Act.put, List.getElem_toArray, List.getElem_cons_succ, List.getElem_cons_zero, List.setIfInBounds_toArray, List.set_cons_zero, List.set_cons_succ]
      refine spec_skip rfl ?_
      try simp only [Act.put, List.getElem_toArray, List.getElem_cons_succ, List.getElem_cons_zero, List.setIfInBounds_toArray, List.set_cons_zero, List.set_cons_succ]
      refine spec_skip rfl ?_
      try simp only [Act.put, List.getElem_toArray, List.getElem_cons_succ, List.getElem_cons_zero, List.setIfInBounds_toArray, List.set_cons_zero, List.set_cons_succ]
      refine spec_skip rfl ?_
      try simp only [Act.put, List.getElem_toArray, List.getElem_cons_succ, List.getElem_cons_zero, List.setIfInBounds_toArray, List.set_cons_zero, List.set_cons_succ]
      refine spec_skip rfl ?_
      try simp only [Act.put, List.getElem_toArray, List.getElem_cons_succ, List.getElem_cons_zero, List.setIfInBounds_toArray, List.set_cons_zero, List.set_cons_succ]
      refine spec_skip rfl ?_
      try simp only [Act.put, List.getElem_toArray, List.getElem_cons_succ, List.getElem_cons_zero, List.setIfInBounds_toArray, List.set_cons_zero, List.set_cons_succ]
      refine spec_skip rfl ?_
      try simp only [Act.put, List.getElem_toArray, List.getElem_cons_succ, List.getElem_cons_zero, List.setIfInBounds_toArray, List.set_cons_zero, List.set_cons_succ]
      refine spec_skip rfl ?_
      try simp only [Act.put, List.getElem_toArray, List.getElem_cons_succ, List.getElem_cons_zero, List.setIfInBounds_toArray, List.set_cons_zero, List.set_cons_succ]
      refine spec_skip rfl ?_
      try simp only [Act.put, List.getElem_toArray, List.getElem_cons_succ, List.getElem_cons_zero, List.setIfInBounds_toArray, List.set_cons_zero, List.set_cons_succ]
      refine spec_d rfl (fun x _ => gives_run (by go_simp)) ?_
      try simp only [Act.put, List.getElem_toArray, List.getElem_cons_succ, List.getElem_cons_zero, List.setIfInBounds_toArray, List.set_cons_zero, List.set_cons_succ]
      refine spec_end (fun x hx => ?_)
      clear hx
      refine wpAny_done (by kernel_rfl) ?_ _
      have HB1 := Lib.hid (HB0.out.trans (((bel_drew W).trans x.below).mono HB0.out.size))
      have HO1 := Lib.hid (HO0.out.kept ((bel_drew W).trans x.below))
      clear hs1 hs2 hc2
      generalize x.world = W1 at HB1 HO1 ⊢
      have z0 := HO1.out.cell 0
      have z1 := HO1.out.cell 1
      have f0 := HO1.out.free 0
      have f1 := HO1.out.free 1
      go_wp2
      refine bodyPost_ret (v := RV ⟨0, 0, 0, [], 11⟩) (by simp [results, Try.results30, go_sem, RV, lit_0, z0, z1]) rfl ⟨congrArg (fun r => Ending.returned (RV r)) HE.out.symm, Lib.hid ?_⟩
      first
        | exact HB1.out
        | exact (HB1.out.setCell (by have := HG3.out; simp; omega) _).setCell (by have := HG3.out; simp; omega) _
end Go.Proofs.Ythnopcoahcdjjaa.Ly10
