/- Package health's Text, and the document's; no condition but sizes. -/
import Derived.Test.YtanhblokhcaoiaaDoorHthA
namespace Go.Proofs.YtanhblokhcaoiaaDoor.Hl
open Go.ChangeShapes Go.WideShapes Go.ChangeAt Go.RowKit Base
open Joi (stV)
open Dg (nuT nu_len gives_cat PtL join_snoc num_any)
set_option linter.unusedVariables false
set_option linter.unusedSimpArgs false

def nmH (k : Nat) : List UInt8 := if k = 0 then [115, 101, 110, 116] else if k = 1 then [116, 111, 111, 107] else if k = 2 then [109, 105, 115, 115, 101, 100] else if k = 3 then [115, 121, 110, 99, 101, 100] else if k = 4 then [108, 111, 115, 116] else if k = 5 then [100, 105, 101, 100] else [116, 117, 114, 110, 101, 100]
abbrev T7 : TypeId := 43
theorem seven {i : Nat} (h : i < 7) : i = 0 ∨ i = 1 ∨ i = 2 ∨ i = 3 ∨ i = 4 ∨ i = 5 ∨ i = 6 := by omega
def wdH (f : Nat → Int) : Nat → List (List UInt8)
  | 0 => []
  | k + 1 => wdH f k ++ [nmH k, nuT (f k)]
theorem wdH_len (f : Nat → Int) : ∀ k, (wdH f k).length = 2 * k
  | 0 => rfl
  | k + 1 => by unfold wdH; rw [List.length_append, wdH_len f k]; simp; omega
/-- A health's text, as the document puts it together. -/
def txH (f : Nat → Int) : Nat → List UInt8
  | 0 => []
  | k + 1 => (if 0 < k then txH f k ++ [32] else txH f k) ++ nmH k ++ [32] ++ nuT (f k)
theorem tx_join (f : Nat → Int) : ∀ k, Lib.join (wdH f k) [32] = txH f k
  | 0 => rfl
  | 1 => by simp [wdH, txH, Lib.join_cons, Lib.joinTail]
  | k + 2 => by
    have h := tx_join f (k + 1)
    show Lib.join (wdH f (k + 1) ++ [nmH (k + 1), nuT (f (k + 1))]) [32] = (if 0 < k + 1 then txH f (k + 1) ++ [32] else txH f (k + 1)) ++ nmH (k + 1) ++ [32] ++ nuT (f (k + 1))
    rw [if_pos (by omega), join_snoc _ _ _ _ (by intro h; have := wdH_len f (k + 1); rw [h] at this; simp at this), h]
theorem nmH_len (k : Nat) : (nmH k).length ≤ 6 := by
  unfold nmH
  repeat' split
  all_goals decide
theorem txH_len (f : Nat → Int) (ho : ∀ i, f i ≤ 9223372036854775807) : ∀ k, (txH f k).length ≤ 29 * k
  | 0 => by simp [txH]
  | k + 1 => by
    have h1 := txH_len f ho k
    have h2 := nu_len (f k) (ho k)
    have h3 := nmH_len k
    have h4 : (if 0 < k then txH f k ++ [32] else txH f k).length ≤ 29 * k + 1 := by
      split
      · simp; omega
      · omega
    unfold txH
    simp only [List.length_append, List.length_cons, List.length_nil]
    omega
theorem cell7 {w : World} {g : Nat} {T : TypeId} {f : Nat → Int} (h : Obj1 w g T (c7 f)) {i : Nat} (hi : i < 7) : w.cell? ⟨g, i, none⟩ = some (.int .i64 (f i)) := by
  rw [h.cell]
  rcases seven hi with rfl | rfl | rfl | rfl | rfl | rfl | rfl <;> rfl
theorem app_runL {P : Program} {w : World} {base g n m : Nat} {v : Value} {xs : List Value} (news : List Value) {t e : TypeId} (ty : TypeId) {i : TypeInfo} {z : Value} {bytes : Nat} (ht : P.underlying t = some (.slice e)) (hi : P.info? e = some i) (hz : i.zero = some z)
    (hsize : i.size = 1) (hby : i.bytes = bytes) (hzs : z.cells.size = 1) (hown : w.ownsRow base e 1 v n xs) (hg : Lst w (some ⟨g, 0, none⟩) m news) (h1 : ∀ u ∈ news, u.oneCell' = true)
    (h63 : n + m ≤ maxLen) (hbytes : (n + m) * bytes ≤ 140737488355328) (hb : base ≤ w.heap.size) :
    ∃ v' w', (Builtin.append_ #[t, t] ty #[v, .slice (some ⟨g, 0, none⟩) m m]).run P w = .ok v' w' ∧ Hid (w'.ownsRow base e 1 v' (n + m) (xs ++ news)) ∧ Hid (w.grownBy w' v.ownBlock) := by
  have hl := hg.1
  obtain ⟨v', w', h, ho, hg', _, _⟩ := run_append_own_at w base t ty e i z 1 bytes ht hi hz hsize hby hzs (by omega) v n xs hown ⟨g, 0, none⟩ m m news (by omega)
    (fun j u hj => by
      have hjl := (List.getElem?_eq_some_iff.1 hj).1
      obtain ⟨b', o', e', _, hc⟩ := hg.2 (by omega)
      injection e' with e'
      injection e' with e1 e2
      subst e1 e2
      have := hc j (by omega)
      rw [add_eq]
      exact this.trans hj) h1 h63 hbytes hb
  exact ⟨v', w', h, Lib.hid ho, Lib.hid hg'⟩
abbrev TS7 : TypeId := 72
theorem ix7 (f : Nat → Int) {i : Nat} (h : i < 7) (W : World) : (Instr.index TS7 (.agg #[.string ⟨#[115, 101, 110, 116]⟩, .int .i64 (f 0), .string ⟨#[116, 111, 111, 107]⟩, .int .i64 (f 1), .string ⟨#[109, 105, 115, 115, 101, 100]⟩, .int .i64 (f 2), .string ⟨#[115, 121, 110, 99, 101, 100]⟩, .int .i64 (f 3), .string ⟨#[108, 111, 115, 116]⟩, .int .i64 (f 4), .string ⟨#[100, 105, 101, 100]⟩, .int .i64 (f 5), .string ⟨#[116, 117, 114, 110, 101, 100]⟩, .int .i64 (f 6)]) (.int .i64 (i : Int))).run Tryd.prog W = .ok (.agg #[.string ⟨(nmH i).toArray⟩, .int .i64 (f i)]) W := by
  rcases seven h with rfl | rfl | rfl | rfl | rfl | rfl | rfl <;> kernel_rfl
set_option maxRecDepth 100000 in
set_option maxHeartbeats 4000000 in
theorem text_any (f : Nat → Int) (w : World) (ho : ∀ i, f i ≤ 9223372036854775807) (hL : Txt.Lf w) :
    Calls Tryd.prog 24 #[.agg #[.int .i64 (f 0), .int .i64 (f 1), .int .i64 (f 2), .int .i64 (f 3), .int .i64 (f 4), .int .i64 (f 5), .int .i64 (f 6)]] w fun e' w' => e' = .returned (.string ⟨(txH f 7).toArray⟩) ∧ Below w.heap.size w w' := by
  obtain ⟨gb, HGB⟩ : ∃ gb, Hid (w.heap.size = gb) := ⟨_, Lib.hid rfl⟩
  obtain ⟨gs, HGS⟩ : ∃ gs, Hid (gb + 1 = gs) := ⟨_, Lib.hid rfl⟩
  obtain ⟨W1, HW1⟩ : ∃ W1, Hid (W1 = w.alloc (.cells #[.int .i64 (f 0), .int .i64 (f 1), .int .i64 (f 2), .int .i64 (f 3), .int .i64 (f 4), .int .i64 (f 5), .int .i64 (f 6)] TH)) := ⟨_, Lib.hid rfl⟩
  have hb1 : Below w.heap.size w W1 := by rw [HW1.out]; exact bel_new _ _
  have s1 : W1.heap.size = gs := by rw [HW1.out, ← HGS.out, ← HGB.out]; simp
  have HOB : Hid (Obj1 W1 gb TH (c7 f)) := Lib.hid (by rw [HW1.out, ← HGB.out]; exact Obj1.new _ _ _)
  obtain ⟨W2, HW2⟩ : ∃ W2, Hid (W2 = W1.alloc (.cells #[.string ⟨#[115, 101, 110, 116]⟩, .int .i64 (f 0), .string ⟨#[116, 111, 111, 107]⟩, .int .i64 (f 1), .string ⟨#[109, 105, 115, 115, 101, 100]⟩, .int .i64 (f 2), .string ⟨#[115, 121, 110, 99, 101, 100]⟩, .int .i64 (f 3), .string ⟨#[108, 111, 115, 116]⟩, .int .i64 (f 4), .string ⟨#[100, 105, 101, 100]⟩, .int .i64 (f 5), .string ⟨#[116, 117, 114, 110, 101, 100]⟩, .int .i64 (f 6)] TS7)) := ⟨_, Lib.hid rfl⟩
  have hb2 : Below W1.heap.size W1 W2 := by rw [HW2.out]; exact bel_new _ _
  have HB2 : Hid (Below w.heap.size w W2) := Lib.hid (hb1.trans (hb2.mono hb1.size))
  have HO2 : Hid (Obj1 W2 gs TS7 #[.string ⟨#[115, 101, 110, 116]⟩, .int .i64 (f 0), .string ⟨#[116, 111, 111, 107]⟩, .int .i64 (f 1), .string ⟨#[109, 105, 115, 115, 101, 100]⟩, .int .i64 (f 2), .string ⟨#[115, 121, 110, 99, 101, 100]⟩, .int .i64 (f 3), .string ⟨#[108, 111, 115, 116]⟩, .int .i64 (f 4), .string ⟨#[100, 105, 101, 100]⟩, .int .i64 (f 5), .string ⟨#[116, 117, 114, 110, 101, 100]⟩, .int .i64 (f 6)]) := Lib.hid (by rw [HW2.out, ← s1]; exact Obj1.new _ _ _)
  have HS1 := Lib.hid s1
  have HIX := Lib.hid (fun (i : Nat) (h : i < 7) (W : World) => ix7 f h W)
  have HLF : Hid (∀ W, Below w.heap.size w W → Txt.Lf W) := Lib.hid (fun W h => hL.kept h)
  obtain ⟨is, hi, hz0, hz1, hz2⟩ := info_three Dg.info_st
  have q0 := HOB.out.cell 0
  have q1 := HOB.out.cell 1
  have q2 := HOB.out.cell 2
  have q3 := HOB.out.cell 3
  have q4 := HOB.out.cell 4
  have q5 := HOB.out.cell 5
  have q6 := HOB.out.cell 6
  simp [c7] at q0 q1 q2 q3 q4 q5 q6
  have HOO := Lib.hid ho
  have HTX := Lib.hid (tx_join f 7)
  have HTL := Lib.hid (txH_len f ho 7)
  clear hL ho hb1 hb2 s1
  go_enter Tryd.func24, Tryd.ntmps24
  go_upto_region 1 with (fail)
  rw [← HW1.out, HGB.out]
  go_upto_region 2 with (fail)
  rw [← HW2.out, HS1.out]
  clear HW1 HW2 HS1 HGS q0 q1 q2 q3 q4 q5 q6
  have r0 := HO2.out.cell 0
  have r1 := HO2.out.cell 1
  have r2 := HO2.out.cell 2
  have r3 := HO2.out.cell 3
  have r4 := HO2.out.cell 4
  have r5 := HO2.out.cell 5
  have r6 := HO2.out.cell 6
  have r7 := HO2.out.cell 7
  have r8 := HO2.out.cell 8
  have r9 := HO2.out.cell 9
  have r10 := HO2.out.cell 10
  have r11 := HO2.out.cell 11
  have r12 := HO2.out.cell 12
  have r13 := HO2.out.cell 13
  simp at r0 r1 r2 r3 r4 r5 r6 r7 r8 r9 r10 r11 r12 r13
  have O0 : Hid (W2.ownsRow w.heap.size 9 1 (.slice none 0 0) 0 []) := Lib.hid ⟨rfl, .inl ⟨rfl, rfl⟩⟩
  go_wp2_with fail
  clear r0 r1 r2 r3 r4 r5 r6 r7 r8 r9 r10 r11 r12 r13
  go_loopw [4, 30] (fun s i wx => ∃ k : Nat, k ≤ 7 ∧ i = .int .i64 k ∧ Hid (wx.ownsRow w.heap.size 9 1 s (wdH f k).length ((wdH f k).map stV)) ∧ Below w.heap.size w wx) (fun _ i _ => 7 - (intOf i).toNat)
  case atStart => exact ⟨0, by omega, rfl, O0, HB2.out⟩
  case round =>
    clear O0 HB2 HO2
    obtain ⟨k, hk, rfl, HROW, hbk⟩ := hrel
    have HBK := Lib.hid hbk
    obtain ⟨RA, rc, rfl⟩ := row_sl HROW.out
    by_cases hlt : k < 7
    · as_aux_lemma =>
      have hki : (k : Int) < 7 := by omega
      have hix := fun W => HIX.out k hlt W
      have HNX : Hid (wdH f (k + 1) = wdH f k ++ [nmH k, nuT (f k)]) := Lib.hid rfl
      have HLN := Lib.hid (wdH_len f k)
      have hok := HOO.out k
      obtain ⟨v, hv⟩ : ∃ v, f k = v := ⟨_, rfl⟩
      rw [hv] at HNX hok
      simp only [hv] at hix
      obtain ⟨m, hm⟩ : ∃ m, max v 0 = m := ⟨_, rfl⟩
      have HNU : Hid (∀ W, Below w.heap.size w W → Calls Tryd.prog 40 #[.int .i64 m] W fun e w' => e = .returned (.string ⟨(nuT v).toArray⟩) ∧ Below W.heap.size W w') := Lib.hid (fun W h => by
        have h2 := Txt.itoa_any m (by omega) (by omega) W (HLF.out W h)
        unfold nuT
        rw [hm]
        exact h2)
      obtain ⟨L, HLL⟩ : ∃ L, Hid (wdH f k = L) := ⟨_, Lib.hid rfl⟩
      rw [HLL.out] at HNX HROW HLN
      obtain ⟨N, HNN⟩ : ∃ N, Hid (L.length = N) := ⟨_, Lib.hid rfl⟩
      rw [HLL.out, HNN.out]
      rw [HNN.out] at HROW HLN
      have hN10 : N ≤ 14 := by have := HLN.out; omega
      have e2 : IntKind.i64.wrap ((k : Int) + 1) = (k : Int) + 1 := IntWalk.i64_in _ (by omega)
      obtain ⟨gx, HGX⟩ : ∃ gx, Hid (wr.heap.size = gx) := ⟨_, Lib.hid rfl⟩
      obtain ⟨W5, HW5⟩ : ∃ W5, Hid (W5 = wr.alloc (.cells #[.string ⟨(nmH k).toArray⟩, .int .i64 v] 71)) := ⟨_, Lib.hid rfl⟩
      have hb5 : Below wr.heap.size wr W5 := by rw [HW5.out]; exact bel_new _ _
      have HOX : Hid (Obj1 W5 gx 71 #[.string ⟨(nmH k).toArray⟩, .int .i64 v]) := Lib.hid (by rw [HW5.out, ← HGX.out]; exact Obj1.new _ _ _)
      have HB5 := Lib.hid (HBK.out.trans (hb5.mono HBK.out.size))
      have HR5 := Lib.hid (own_kept HROW.out hb5)
      clear hv hok hbk hb5
      go_upto_region 6 with (fail)
      rw [← HW5.out, HGX.out]
      clear HW5 HGX hix HROW HBK
      have x0 : W5.cell? ⟨gx, 0, none⟩ = some (.string ⟨(nmH k).toArray⟩) := HOX.out.cell 0
      have x1 : W5.cell? ⟨gx, 1, none⟩ = some (.int .i64 v) := HOX.out.cell 1
      have K0 : ∀ z : Kin W5.drew, z.world.cell? ⟨gx, 0, none⟩ = some (.string ⟨(nmH k).toArray⟩) := fun z => Kin.at (w := W5.drew) x0 z
      have K1 : ∀ z : Kin W5.drew, z.world.cell? ⟨gx, 1, none⟩ = some (.int .i64 v) := fun z => Kin.at (w := W5.drew) x1 z
      have HKD : Hid (∀ z : Kin W5.drew, Below w.heap.size w z.world) := Lib.hid (fun z => HB5.out.trans (((bel_drew W5).trans z.below).mono HB5.out.size))
      clear x0 x1
      refine wp_region_specL 8 [.d (.slice RA N rc), .d (.pointer (some ⟨gx, 0, none⟩)), .d (.string ⟨(nmH k).toArray⟩), .d (.pointer (some ⟨gx, 1, none⟩)), .d (.int .i64 v), .d (.int .i64 m), .d (.string ⟨(nuT v).toArray⟩), .g (NewL W5.heap.size 2 [stV (nmH k), stV (nuT v)])] (by kernel_rfl) (by kernel_rfl) ?_
      refine spec_d rfl (fun x _ => gives_run (by go_simp)) ?_
      try simp only [Act.put, List.getElem_toArray, List.getElem_cons_succ, List.getElem_cons_zero, List.setIfInBounds_toArray, List.set_cons_zero, List.set_cons_succ]
      refine spec_d rfl (fun x _ => gives_run (by go_simp)) ?_
      try simp only [Act.put, List.getElem_toArray, List.getElem_cons_succ, List.getElem_cons_zero, List.setIfInBounds_toArray, List.set_cons_zero, List.set_cons_succ]
      refine spec_d rfl (fun x _ => gives_run (by go_simp)) ?_
      try simp only [Act.put, List.getElem_toArray, List.getElem_cons_succ, List.getElem_cons_zero, List.setIfInBounds_toArray, List.set_cons_zero, List.set_cons_succ]
      refine spec_d rfl (fun x _ => gives_run (by go_simp)) ?_
      try simp only [Act.put, List.getElem_toArray, List.getElem_cons_succ, List.getElem_cons_zero, List.setIfInBounds_toArray, List.set_cons_zero, List.set_cons_succ]
      refine spec_d rfl (fun x _ => gives_run (by go_simp)) ?_
      try simp only [Act.put, List.getElem_toArray, List.getElem_cons_succ, List.getElem_cons_zero, List.setIfInBounds_toArray, List.set_cons_zero, List.set_cons_succ]
      refine spec_d rfl (fun z _ => gives_run (by go_simp)) ?_
      try simp only [Act.put, List.getElem_toArray, List.getElem_cons_succ, List.getElem_cons_zero, List.setIfInBounds_toArray, List.set_cons_zero, List.set_cons_succ]
      refine spec_d rfl (fun z _ => gives_det (by go_simp) (HNU.out z.world (HKD.out z))) ?_
      try simp only [Act.put, List.getElem_toArray, List.getElem_cons_succ, List.getElem_cons_zero, List.setIfInBounds_toArray, List.set_cons_zero, List.set_cons_succ]
      refine spec_g (NewL.stable _ _ _) (NewL.ex _ 9 (Nat.le_refl _) rfl) rfl (fun z _ => gives_ok (by first | (go_simp; done) | (go_simp; rfl)) (bel_new _ _) (NewL.new (T := 9) (xs := [stV (nmH k), stV (nuT v)]) z.below.size rfl)) ?_
      rintro vg ⟨xg, gg, rfl, _, _⟩
      try simp only [Act.put, List.getElem_toArray, List.getElem_cons_succ, List.getElem_cons_zero, List.setIfInBounds_toArray, List.set_cons_zero, List.set_cons_succ]
      refine spec_end (fun z hz => ?_)
      have HNG := Lib.hid (NewL.at (hz _ (List.mem_singleton.2 rfl))).2
      clear hz
      have hbx := (bel_drew W5).trans z.below
      have HBX := Lib.hid (HB5.out.trans (hbx.mono HB5.out.size))
      have HOX2 := Lib.hid (own_kept HR5.out hbx)
      obtain ⟨v5, w5, hrun, HO5, HG5⟩ := app_runL (P := Tryd.prog) [stV (nmH k), stV (nuT v)] 51 Tryd.underlying51 hi hz0 hz1 hz2 rfl HOX2.out HNG.out (by intro u hu; simp at hu; rcases hu with rfl | rfl <;> rfl) (by unfold maxLen; omega) (by omega) HBX.out.size
      change wpAny _ _ _ _ (1 + 1) _ _ _
      refine wpAny_ready (rs := [8]) (by kernel_rfl) (by simp) ?_
      refine AllReady.cons rfl (fun KK hK => ?_) AllReady.nil
      rw [if_pos (by rfl)]
      refine upon_app (.tmp 33) (.tmp 40) 51 rfl rfl rfl hrun ?_
      refine hK _ _ ?_
      clear hK KK
      try simp only [Act.put, List.getElem_toArray, List.getElem_cons_succ, List.getElem_cons_zero, List.setIfInBounds_toArray, List.set_cons_zero, List.set_cons_succ]
      change wpAny _ _ _ _ (0 + 1) _ _ _
      refine wpAny_ready (rs := [9]) (by kernel_rfl) (by simp) ?_
      refine AllReady.cons rfl (fun KK hK => ?_) AllReady.nil
      go_simp
      refine hK _ _ ?_
      clear hK KK
      try simp only [Act.put, List.getElem_toArray, List.getElem_cons_succ, List.getElem_cons_zero, List.setIfInBounds_toArray, List.set_cons_zero, List.set_cons_succ]
      refine wpAny_done (by kernel_rfl) ?_ _
      have HB8 := Lib.hid (HBX.out.trans ((Below.refl _ _).grown HG5.out HBX.out.size (fun k hk => (HOX2.out.lt k hk).1)))
      have HO8 : Hid (w5.ownsRow w.heap.size 9 1 v5 (N + 2) ((L ++ [nmH k, nuT v]).map stV)) := Lib.hid (by rw [List.map_append]; exact HO5.out)
      have HLK : Hid ((L ++ [nmH k, nuT v]).length = N + 2) := Lib.hid (by simp [HNN.out])
      clear K0 K1 hrun hbx HNG HG5 HBX HOX2 HO5
      go_wp2
      go_roundw
      case rel => exact ⟨k + 1, by omega, by go_num, by rw [HNX.out]; exact Lib.hid (by rw [HLK.out]; exact HO8.out), HB8.out⟩
      case measure => simp [intOf]; omega
    · as_aux_lemma =>
      have hke : k = 7 := by omega
      subst hke
      obtain ⟨RA', rc', e9, hcap, hls⟩ := row_lst HROW.out
      injection e9 with e1 e2 e3
      subst e1 e3
      have HJ := Lib.hid (Joi.join_any RA _ rc (wdH f 7) [32] wr hls (by have := wdH_len f 7; omega) hcap (by rw [HTX.out]; have := HTL.out; omega))
      rw [HTX.out] at HJ
      clear hls hbk hcap
      go_wp2_with fail
      refine HJ.out.mono ?_
      rintro e' w7 ⟨rfl, hb7⟩
      have HB7 := Lib.hid (HBK.out.trans (hb7.mono HBK.out.size))
      clear hb7
      go_wp2
      go_ret
      exact ⟨rfl, HB7.out⟩
end Go.Proofs.YtanhblokhcaoiaaDoor.Hl
