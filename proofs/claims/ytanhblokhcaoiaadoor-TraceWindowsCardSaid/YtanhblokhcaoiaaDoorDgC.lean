/- Package diag's Text, and the document's; no condition but sizes. -/
import Derived.Test.YtanhblokhcaoiaaDoorDgB
import Derived.Test.YtanhblokhcaoiaaDoorPushR
import Derived.Laws.OwnMore
namespace Go.Proofs.YtanhblokhcaoiaaDoor.Dg
open Go.ChangeShapes Go.WideShapes Go.ChangeAt Go.RowKit Base
open Joi (stV)
set_option linter.unusedVariables false
set_option linter.unusedSimpArgs false

/-- The words of a count's text. -/
def wdT (b : Int) (o : Nat → Int) : Nat → List (List UInt8)
  | 0 => [[98, 105, 116, 115], nuT b]
  | k + 1 => wdT b o k ++ [nmL k, nuT (o k)]
theorem wdT_len (b : Int) (o : Nat → Int) : ∀ k, (wdT b o k).length = 2 + 2 * k
  | 0 => rfl
  | k + 1 => by unfold wdT; rw [List.length_append, wdT_len b o k]; simp; omega
/-- A count's text, as the document puts it together. -/
def txT (b : Int) (o : Nat → Int) : Nat → List UInt8
  | 0 => [98, 105, 116, 115, 32] ++ nuT b
  | k + 1 => txT b o k ++ [32] ++ nmL k ++ [32] ++ nuT (o k)
theorem join_snoc (xs : List (List UInt8)) (x y sep : List UInt8) (h : xs ≠ []) : Lib.join (xs ++ [x, y]) sep = Lib.join xs sep ++ sep ++ x ++ sep ++ y := by
  cases xs with
  | nil => exact absurd rfl h
  | cons z r =>
    rw [List.cons_append, Lib.join_cons, Lib.join_cons]
    simp [Lib.joinTail]
theorem tx_join (b : Int) (o : Nat → Int) : ∀ k, Lib.join (wdT b o k) [32] = txT b o k
  | 0 => by simp [wdT, txT, Lib.join_cons, Lib.joinTail]
  | k + 1 => by
    unfold wdT txT
    rw [join_snoc _ _ _ _ (by intro h; have := wdT_len b o k; rw [h] at this; simp at this; omega), tx_join b o k]
theorem nmL_len (k : Nat) : (nmL k).length = 2 := by unfold nmL; split <;> (try split) <;> (try split) <;> rfl
theorem txT_len (b : Int) (o : Nat → Int) (hb : b ≤ 9223372036854775807) (ho : ∀ i, o i ≤ 9223372036854775807) : ∀ k, (txT b o k).length ≤ 26 + 25 * k
  | 0 => by have := nu_len b hb; simp [txT]; omega
  | k + 1 => by
    have h1 := txT_len b o hb ho k
    have h2 := nu_len (o k) (ho k)
    have h3 := nmL_len k
    unfold txT
    simp only [List.length_append, List.length_cons, List.length_nil, h3]
    omega
theorem info_st : (Tryd.prog.info? 9).map (fun i => (i.zero, i.size, i.bytes)) = some (some (.string ByteArray.empty), 1, 16) := by kernel_rfl
theorem gives_cat {o : Oper} {a : Act} {w : World} {T T' : TypeId} {x y : Operand} (ho : o.op = .binOp .add T x y T') {p q : List UInt8} (hx : a.eval x = .string ⟨p.toArray⟩) (hy : a.eval y = .string ⟨q.toArray⟩) (hl : p.length + q.length ≤ 9223372036854775807) :
    gives Tryd.prog o a w (SpE.d (.string ⟨(p ++ q).toArray⟩)).sp :=
  gives_run (by
    have h : ¬ 9223372036854775807 < p.length + q.length := by omega
    unfold execOp
    simp only [ho, hx, hy]
    simp [go_sem, h, Txt.str_app])
set_option maxRecDepth 100000 in
set_option maxHeartbeats 2000000 in
theorem text_any (e a b c d : Int) (w : World) (hb : e ≤ 9223372036854775807) (ho : ∀ i, oF a b c d i ≤ 9223372036854775807) (hL : Txt.Lf w) (hN : Nm w) :
    Calls Tryd.prog 15 #[.agg #[.int .i64 e, .int .i64 a, .int .i64 b, .int .i64 c, .int .i64 d]] w fun e' w' => e' = .returned (.string ⟨(txT e (oF a b c d) 4).toArray⟩) ∧ Below w.heap.size w w' := by
  obtain ⟨gb, HGB⟩ : ∃ gb, Hid (w.heap.size = gb) := ⟨_, Lib.hid rfl⟩
  obtain ⟨W1, HW1⟩ : ∃ W1, Hid (W1 = w.alloc (.cells #[.int .i64 e, .int .i64 a, .int .i64 b, .int .i64 c, .int .i64 d] TC)) := ⟨_, Lib.hid rfl⟩
  have HB1 : Hid (Below w.heap.size w W1) := Lib.hid (by rw [HW1.out]; exact bel_new _ _)
  have HOB : Hid (Obj1 W1 gb TC #[.int .i64 e, .int .i64 a, .int .i64 b, .int .i64 c, .int .i64 d]) := Lib.hid (by rw [HW1.out, ← HGB.out]; exact Obj1.new _ _ _)
  have HIX := Lib.hid (fun (i : Nat) (h : i < 4) (W : World) => ix4 a b c d h W)
  have HLF : Hid (∀ W, Below w.heap.size w W → Txt.Lf W) := Lib.hid (fun W h => hL.kept h)
  have HNM : Hid (∀ W, Below w.heap.size w W → Nm W) := Lib.hid (fun W h => hN.kept h)
  obtain ⟨is, hi, hz0, hz1, hz2⟩ := info_three info_st
  have q0 := HOB.out.cell 0
  have q1 := HOB.out.cell 1
  have q2 := HOB.out.cell 2
  have q3 := HOB.out.cell 3
  have q4 := HOB.out.cell 4
  simp at q0 q1 q2 q3 q4
  obtain ⟨o, HO⟩ : ∃ o, Hid (oF a b c d = o) := ⟨_, Lib.hid rfl⟩
  rw [HO.out] at HIX ho ⊢
  have HOO := Lib.hid ho
  have HTX := Lib.hid (tx_join e o 4)
  have HTL := Lib.hid (txT_len e o hb ho 4)
  have HN0 := Lib.hid (num_any e hb W1 (HLF.out _ HB1.out))
  clear hL hN ho
  go_enter Tryd.func15, Tryd.ntmps15
  go_upto_region 1 with (fail)
  rw [← HW1.out, HGB.out]
  clear HW1
  go_wp2_with fail
  refine HN0.out.mono ?_
  rintro e' w2 ⟨rfl, hb2⟩
  have HB2 := Lib.hid (HB1.out.trans (hb2.mono HB1.out.size))
  have HO2 := Lib.hid (HOB.out.kept hb2)
  have hr3 := World.ownsRow_lit (base := w.heap.size) (e := 9) (size := 1) w2 #[stV [98, 105, 116, 115], stV (nuT e)] 2 HB2.out.size (by unfold maxLen; omega) rfl
  have hb3 := bel_new w2 (.cells #[stV [98, 105, 116, 115], stV (nuT e)] 9)
  have HB3 := Lib.hid (HB2.out.trans (hb3.mono HB2.out.size))
  have HO3 := Lib.hid (HO2.out.kept hb3)
  have HR3 : Hid ((w2.alloc (.cells #[stV [98, 105, 116, 115], stV (nuT e)] 9)).ownsRow w.heap.size 9 1 (.slice (some ⟨w2.heap.size, 0, none⟩) 2 2) (wdT e o 0).length ((wdT e o 0).map stV)) := Lib.hid hr3
  clear hb2 HN0 q0 q1 q2 q3 q4 HOB hr3 hb3 HO2
  go_upto_region 3 with (fail)
  generalize w2.alloc (.cells #[.string ⟨#[98, 105, 116, 115]⟩, .string ⟨(nuT e).toArray⟩] 9) = w3 at HB3 HO3 HR3 ⊢
  have q0 := HO3.out.cell 0
  have q1 := HO3.out.cell 1
  have q2 := HO3.out.cell 2
  have q3 := HO3.out.cell 3
  have q4 := HO3.out.cell 4
  simp at q0 q1 q2 q3 q4
  go_wp2_with fail
  clear q0 q1 q2 q3 q4
  go_loopw [4, 14] (fun s i wx => ∃ k : Nat, k ≤ 4 ∧ i = .int .i64 k ∧ Hid (wx.ownsRow w.heap.size 9 1 s (wdT e o k).length ((wdT e o k).map stV)) ∧ Below w.heap.size w wx) (fun _ i _ => 4 - (intOf i).toNat)
  case atStart => exact ⟨0, by omega, rfl, HR3, HB3.out⟩
  case round =>
    clear HR3 HB3 HO3
    obtain ⟨k, hk, rfl, HROW, hbk⟩ := hrel
    have HBK := Lib.hid hbk
    obtain ⟨RA, rc, rfl⟩ := row_sl HROW.out
    by_cases hlt : k < 4
    · as_aux_lemma =>
      have hki : (k : Int) < 4 := by omega
      have hix := fun W => HIX.out k hlt W
      have HNX : Hid (wdT e o (k + 1) = wdT e o k ++ [nmL k, nuT (o k)]) := Lib.hid rfl
      have HLN := Lib.hid (wdT_len e o k)
      have hok := HOO.out k
      obtain ⟨v, hv⟩ : ∃ v, o k = v := ⟨_, rfl⟩
      rw [hv] at HNX hok
      simp only [hv] at hix
      have HNA := Lib.hid (name_at k wr hlt (HNM.out _ hbk))
      have HNU := Lib.hid (fun W (h : Below w.heap.size w W) => num_any v hok W (HLF.out _ h))
      obtain ⟨L, HLL⟩ : ∃ L, Hid (wdT e o k = L) := ⟨_, Lib.hid rfl⟩
      rw [HLL.out] at HNX HROW HLN
      obtain ⟨N, HNN⟩ : ∃ N, Hid (L.length = N) := ⟨_, Lib.hid rfl⟩
      rw [HLL.out, HNN.out]
      rw [HNN.out] at HROW HLN
      have hN10 : N ≤ 10 := by have := HLN.out; omega
      have e2 : IntKind.i64.wrap ((k : Int) + 1) = (k : Int) + 1 := IntWalk.i64_in _ (by omega)
      clear hv hok hbk
      go_wp2_with fail
      refine HNA.out.mono ?_
      rintro e' w4 ⟨rfl, hb4⟩
      have HB4 := Lib.hid (HBK.out.trans (hb4.mono HBK.out.size))
      have HR4 := Lib.hid (own_kept HROW.out hb4)
      clear hb4 HNA HROW
      go_wp2_with fail
      refine (HNU.out _ HB4.out).mono ?_
      rintro e' w5 ⟨rfl, hb5⟩
      have HB5 := Lib.hid (HB4.out.trans (hb5.mono HB4.out.size))
      have HR5 := Lib.hid (own_kept HR4.out hb5)
      have HR6 := Lib.hid (HR5.out.alloc (.cells [stV (nmL k), stV (nuT v)].toArray 9))
      have HSZ : Hid (w.heap.size ≤ w5.heap.size) := Lib.hid HB5.out.size
      clear hb5 HNU HR4 HR5
      go_wp2_with (at_builtin; refine pushS _ rfl (.tmp 18) (.tmp 24) 51 rfl w.heap.size 9 is (.string ByteArray.empty) 1 16 Tryd.underlying51 hi hz0 hz1 hz2 rfl (by decide) _ _ _ rfl HR6.out ⟨w5.heap.size, 0, none⟩ 2 2 [stV (nmL k), stV (nuT v)] rfl rfl (cell_new w5 [stV (nmL k), stV (nuT v)] 9) (by intro u hu; simp at hu; rcases hu with rfl | rfl <;> rfl) (by unfold maxLen; omega) (by omega) (by have := HSZ.out; simp; omega) ?_; intro v6 w6 O6 B6 G6 K6)
      have HB8 : Hid (Below w.heap.size w w6) := Lib.hid ((HB5.out.alloc HSZ.out _).trans B6.out)
      have HO8 : Hid (w6.ownsRow w.heap.size 9 1 v6 (N + 2) ((L ++ [nmL k, nuT v]).map stV)) := Lib.hid (by rw [List.map_append]; exact O6.out)
      have HLK : Hid ((L ++ [nmL k, nuT v]).length = N + 2) := Lib.hid (by simp [HNN.out])
      clear O6 B6 G6 K6 HR6
      go_wp2
      go_roundw
      case rel => exact ⟨k + 1, by omega, by go_num, by rw [HNX.out]; exact Lib.hid (by rw [HLK.out]; exact HO8.out), HB8.out⟩
      case measure => simp [intOf]; omega
    · as_aux_lemma =>
      have hke : k = 4 := by omega
      subst hke
      obtain ⟨RA', rc', e9, hcap, hls⟩ := row_lst HROW.out
      injection e9 with e1 e2 e3
      subst e1 e3
      have HJ := Lib.hid (Joi.join_any RA _ rc (wdT e o 4) [32] wr hls (by have := wdT_len e o 4; omega) hcap (by rw [HTX.out]; have := HTL.out; omega))
      rw [HTX.out] at HJ
      clear hls hbk hcap
      go_wp2_with fail
      refine HJ.out.mono ?_
      rintro e' w7 ⟨rfl, hb7⟩
      have HB7 := Lib.hid (HBK.out.trans (hb7.mono HBK.out.size))
      clear hb7
      go_wp2
      go_ret
      exact ⟨rfl, HB7.out⟩
/-- An address in a row. -/
def PtL (k n : Nat) (xs : List Value) : Sp := fun v w => ∃ g, v = .pointer (some ⟨g, k, none⟩) ∧ Lst w (some ⟨g, 0, none⟩) n xs
theorem PtL.stable (k n : Nat) (xs : List Value) : Stable (PtL k n xs) := fun v a b ⟨g, e, h⟩ hb => ⟨g, e, h.kept hb⟩
theorem PtL.ex {n : Nat} {xs : List Value} (k : Nat) (w : World) (T : TypeId) (hn : xs.length = n := by rfl) : ∃ v, ∃ x : Kin w.drew, PtL k n xs v x.world := by
  subst hn
  exact ⟨_, ⟨_, bel_new _ (.cells xs.toArray T)⟩, w.drew.heap.size, rfl, lst_row w.drew T xs⟩
theorem PtL.at {k n g : Nat} {xs : List Value} {w : World} (h : PtL k n xs (.pointer (some ⟨g, k, none⟩)) w) : Lst w (some ⟨g, 0, none⟩) n xs := by
  obtain ⟨g', e, h⟩ := h
  injection e with e
  injection e with e
  injection e with e
  subst e
  exact h
set_option maxRecDepth 100000 in
set_option maxHeartbeats 2000000 in
theorem rtext_any (e a b c d : Int) (w : World) (hb : e ≤ 9223372036854775807) (ho : ∀ i, oF a b c d i ≤ 9223372036854775807) :
    Calls Tryd.prog 16 #[.int .i64 e, .agg #[.int .i64 a, .int .i64 b, .int .i64 c, .int .i64 d]] w fun e' w' => e' = .returned (.string ⟨(txT e (oF a b c d) 4).toArray⟩) ∧ Below w.heap.size w w' := by
  obtain ⟨gb, HGB⟩ : ∃ gb, Hid (w.heap.size = gb) := ⟨_, Lib.hid rfl⟩
  obtain ⟨W1, HW1⟩ : ∃ W1, Hid (W1 = w.alloc (.cells #[.int .i64 a, .int .i64 b, .int .i64 c, .int .i64 d] T4)) := ⟨_, Lib.hid rfl⟩
  have HB1 : Hid (Below w.heap.size w W1) := Lib.hid (by rw [HW1.out]; exact bel_new _ _)
  have HOB : Hid (Obj1 W1 gb T4 #[.int .i64 a, .int .i64 b, .int .i64 c, .int .i64 d]) := Lib.hid (by rw [HW1.out, ← HGB.out]; exact Obj1.new _ _ _)
  have HCC : Hid (∀ W, Below W1.heap.size W1 W → ∀ i, i < 4 → W.cell? ⟨gb, i, none⟩ = some (.int .i64 (oF a b c d i))) := Lib.hid (fun W h i hi => cell4 (HOB.out.kept h) hi)
  obtain ⟨o, HO⟩ : ∃ o, Hid (oF a b c d = o) := ⟨_, Lib.hid rfl⟩
  rw [HO.out] at HCC ho ⊢
  have HOO := Lib.hid ho
  have HTL := Lib.hid (fun k => txT_len e o hb ho k)
  obtain ⟨m0, hm0⟩ : ∃ m, max e 0 = m := ⟨_, rfl⟩
  have HI0 := Lib.hid (Txt.rDigits_any m0 (by omega) (by omega) W1)
  have HE0 : Hid (nuT e = Lib.itoa m0) := Lib.hid (by unfold nuT; rw [hm0])
  have hl0 := Txt.itoa_len m0 (by omega) (by omega)
  have HT0 : Hid (txT e o 0 = [98, 105, 116, 115, 32] ++ Lib.itoa m0) := Lib.hid (by rw [← HE0.out]; rfl)
  clear ho
  go_enter Tryd.func16, Tryd.ntmps16
  go_upto_region 1 with (fail)
  rw [← HW1.out, HGB.out]
  clear HW1 HE0
  go_wp2_with fail
  refine HI0.out.mono ?_
  rintro e' w2 ⟨rfl, hb2⟩
  have HB2 := Lib.hid hb2
  clear hb2 HI0
  go_wp2_with fail
  all_goals first | (exfalso; omega) | skip
  go_loopw [5, 6] (fun s i wx => ∃ k : Nat, k ≤ 4 ∧ i = .int .i64 k ∧ s = .string ⟨(txT e o k).toArray⟩ ∧ Below W1.heap.size W1 wx) (fun _ i _ => 4 - (intOf i).toNat)
  case atStart => exact ⟨0, by omega, rfl, by rw [HT0.out, ← Txt.str_app], HB2.out⟩
  case round =>
    obtain ⟨k, hk, rfl, rfl, hbk⟩ := hrel
    have HBK := Lib.hid hbk
    by_cases hlt : k < 4
    · as_aux_lemma =>
      have hki : (k : Int) < 4 := by omega
      have hk0 : (0 : Int) ≤ (k : Int) := by omega
      have hcl := HCC.out wr hbk k hlt
      have hok := HOO.out k
      obtain ⟨v, hv⟩ : ∃ v, o k = v := ⟨_, rfl⟩
      rw [hv] at hcl hok
      obtain ⟨m, hm⟩ : ∃ m, max v 0 = m := ⟨_, rfl⟩
      have HNX : Hid (txT e o (k + 1) = txT e o k ++ [32] ++ nmL k ++ [32] ++ Lib.itoa m) := Lib.hid (by show _ ++ nuT (o k) = _; unfold nuT; rw [hv, hm])
      have hsl := HTL.out k
      obtain ⟨S, HS⟩ : ∃ S, Hid (txT e o k = S) := ⟨_, Lib.hid rfl⟩
      rw [HS.out] at HNX hsl ⊢
      have hml := Txt.itoa_len m (by omega) (by omega)
      have hnl := nmL_len k
      have HD := Lib.hid (fun W => Txt.rDigits_any m (by omega) (by omega) W)
      have e2 : IntKind.i64.wrap ((k : Int) + 1) = (k : Int) + 1 := IntWalk.i64_in _ (by omega)
      have K1 : ∀ z : Kin wr.drew, z.world.cell? ⟨gb, k, none⟩ = some (.int .i64 v) := fun z => Kin.at (w := wr.drew) hcl z
      have HNML : Hid (∀ (W : World) (g : Nat), Lst W (some ⟨g, 0, none⟩) 4 [stV (nmL 0), stV (nmL 1), stV (nmL 2), stV (nmL 3)] → W.cell? ⟨g, k, none⟩ = some (.string ⟨(nmL k).toArray⟩)) := Lib.hid (fun W g h => by
        obtain ⟨b', o', e', _, hc⟩ := h.2 (by omega)
        injection e' with e'
        injection e' with e1 e2
        subst e1 e2
        have := hc k hlt
        rw [Nat.zero_add] at this
        rw [this]
        rcases four hlt with rfl | rfl | rfl | rfl <;> rfl)
      clear hv hbk
      go_upto_region 5 with (fail)
      clear hcl
      refine wp_region_specL 14 [.d (.string ⟨S.toArray⟩), .d (.string ⟨(S ++ [32]).toArray⟩), .g (NewL wr.heap.size 4 [stV (nmL 0), stV (nmL 1), stV (nmL 2), stV (nmL 3)]), .d (.int .i64 k), .g (PtL k 4 [stV (nmL 0), stV (nmL 1), stV (nmL 2), stV (nmL 3)]), .d (.string ⟨(nmL k).toArray⟩), .d (.string ⟨(S ++ [32] ++ nmL k).toArray⟩), .d (.string ⟨(S ++ [32] ++ nmL k ++ [32]).toArray⟩), .d (.int .i64 k), .d (.pointer (some ⟨gb, k, none⟩)), .d (.int .i64 v), .d (.int .i64 m), .d (.string ⟨(Lib.itoa m).toArray⟩), .d (.string ⟨(S ++ [32] ++ nmL k ++ [32] ++ Lib.itoa m).toArray⟩)] (by kernel_rfl) (by kernel_rfl) ?_
      refine spec_d rfl (fun x _ => gives_run (by go_simp)) ?_
      try simp only [Act.put, List.getElem_toArray, List.getElem_cons_succ, List.getElem_cons_zero, List.setIfInBounds_toArray, List.set_cons_zero, List.set_cons_succ]
      refine spec_d rfl (fun z _ => gives_cat rfl rfl rfl (by simp only [List.length_append, List.length_cons, List.length_nil]; omega)) ?_
      try simp only [Act.put, List.getElem_toArray, List.getElem_cons_succ, List.getElem_cons_zero, List.setIfInBounds_toArray, List.set_cons_zero, List.set_cons_succ]
      refine spec_g (NewL.stable _ _ _) (NewL.ex _ 9 (Nat.le_refl _) rfl) rfl (fun z _ => gives_ok (by first | (go_simp; done) | (go_simp; rfl)) (bel_new _ _) (NewL.new (T := 9) (xs := [stV (nmL 0), stV (nmL 1), stV (nmL 2), stV (nmL 3)]) z.below.size rfl)) ?_
      rintro v17 ⟨x17, g17, rfl, _, _⟩
      try simp only [Act.put, List.getElem_toArray, List.getElem_cons_succ, List.getElem_cons_zero, List.setIfInBounds_toArray, List.set_cons_zero, List.set_cons_succ]
      refine spec_d rfl (fun x _ => gives_run (by go_simp)) ?_
      try simp only [Act.put, List.getElem_toArray, List.getElem_cons_succ, List.getElem_cons_zero, List.setIfInBounds_toArray, List.set_cons_zero, List.set_cons_succ]
      refine spec_g (PtL.stable _ _ _) (PtL.ex k wr 9) rfl (fun z hz => gives_ok (by go_simp) (Below.refl _ _) ⟨g17, rfl, (NewL.at (hz _ (List.mem_singleton.2 rfl) (by kernel_rfl))).2⟩) ?_
      rintro v19 ⟨x19, g19, rfl, _⟩
      try simp only [Act.put, List.getElem_toArray, List.getElem_cons_succ, List.getElem_cons_zero, List.setIfInBounds_toArray, List.set_cons_zero, List.set_cons_succ]
      refine spec_d rfl (fun z hz => gives_run (by
        have hcl := HNML.out z.world g19 (PtL.at (hz _ (List.mem_cons_self ..) (by kernel_rfl)))
        go_simp)) ?_
      try simp only [Act.put, List.getElem_toArray, List.getElem_cons_succ, List.getElem_cons_zero, List.setIfInBounds_toArray, List.set_cons_zero, List.set_cons_succ]
      refine spec_d rfl (fun z _ => gives_cat rfl rfl rfl (by simp only [List.length_append, List.length_cons, List.length_nil]; omega)) ?_
      try simp only [Act.put, List.getElem_toArray, List.getElem_cons_succ, List.getElem_cons_zero, List.setIfInBounds_toArray, List.set_cons_zero, List.set_cons_succ]
      refine spec_d rfl (fun z _ => gives_cat rfl rfl rfl (by simp only [List.length_append, List.length_cons, List.length_nil]; omega)) ?_
      try simp only [Act.put, List.getElem_toArray, List.getElem_cons_succ, List.getElem_cons_zero, List.setIfInBounds_toArray, List.set_cons_zero, List.set_cons_succ]
      refine spec_d rfl (fun x _ => gives_run (by go_simp)) ?_
      try simp only [Act.put, List.getElem_toArray, List.getElem_cons_succ, List.getElem_cons_zero, List.setIfInBounds_toArray, List.set_cons_zero, List.set_cons_succ]
      refine spec_d rfl (fun x _ => gives_run (by go_simp)) ?_
      try simp only [Act.put, List.getElem_toArray, List.getElem_cons_succ, List.getElem_cons_zero, List.setIfInBounds_toArray, List.set_cons_zero, List.set_cons_succ]
      refine spec_d rfl (fun x _ => gives_run (by go_simp)) ?_
      try simp only [Act.put, List.getElem_toArray, List.getElem_cons_succ, List.getElem_cons_zero, List.setIfInBounds_toArray, List.set_cons_zero, List.set_cons_succ]
      refine spec_d rfl (fun x _ => gives_run (by go_simp)) ?_
      try simp only [Act.put, List.getElem_toArray, List.getElem_cons_succ, List.getElem_cons_zero, List.setIfInBounds_toArray, List.set_cons_zero, List.set_cons_succ]
      refine spec_d rfl (fun z _ => gives_det (by go_simp) (HD.out z.world)) ?_
      try simp only [Act.put, List.getElem_toArray, List.getElem_cons_succ, List.getElem_cons_zero, List.setIfInBounds_toArray, List.set_cons_zero, List.set_cons_succ]
      refine spec_d rfl (fun z _ => gives_cat rfl rfl rfl (by simp only [List.length_append, List.length_cons, List.length_nil]; omega)) ?_
      try simp only [Act.put, List.getElem_toArray, List.getElem_cons_succ, List.getElem_cons_zero, List.setIfInBounds_toArray, List.set_cons_zero, List.set_cons_succ]
      refine spec_end (fun z hz => ?_)
      clear hz
      change wpAny _ _ _ _ (0 + 1) _ _ _
      refine wpAny_ready (rs := [14]) (by kernel_rfl) (by simp) ?_
      refine AllReady.cons rfl (fun KK hK => ?_) AllReady.nil
      go_simp
      refine hK _ _ ?_
      clear hK KK
      try simp only [Act.put, List.getElem_toArray, List.getElem_cons_succ, List.getElem_cons_zero, List.setIfInBounds_toArray, List.set_cons_zero, List.set_cons_succ]
      refine wpAny_done (by kernel_rfl) ?_ _
      have HB5 := Lib.hid (HBK.out.trans (((bel_drew wr).trans z.below).mono HBK.out.size))
      clear K1
      generalize z.world = w5 at HB5 ⊢
      clear z
      go_wp2
      go_roundw
      case rel => exact ⟨k + 1, by omega, by go_num, by rw [HNX.out]; simp, HB5.out⟩
      case measure => simp [intOf]; omega
    · have hke : k = 4 := by omega
      subst hke
      clear hbk
      go_wp2
      go_ret
      exact ⟨rfl, HB1.out.trans (HBK.out.mono HB1.out.size)⟩
end Go.Proofs.YtanhblokhcaoiaaDoor.Dg
