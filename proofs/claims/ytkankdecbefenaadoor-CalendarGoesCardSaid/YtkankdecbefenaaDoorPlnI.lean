/- The statements' own helpers of layer 7, Own and Few; windows out of a row of one's own; no condition but sizes. -/
import Derived.Test.YtkankdecbefenaaDoorPlnF
import Derived.Test.YtkankdecbefenaaDoorApp
namespace Go.Proofs.YtkankdecbefenaaDoor.Ly7
open Go.ChangeShapes Go.WideShapes Go.ChangeAt Go.RowKit Base
set_option linter.unusedVariables false
set_option linter.unusedSimpArgs false

abbrev TWr : TypeId := 61
theorem info_wr : (Tryd.prog.info? TWr).map (fun i => (i.zero, i.size, i.bytes)) = some (some (.agg #[.int .i64 0, .int .i64 0, .int .i64 0, .int .i64 0, .slice none 0 0, .slice none 0 0]), 6, 80) := by kernel_rfl
def wdL (x : Wd) : List Value := [.int .i64 x.k, .int .i64 x.b, .int .i64 x.wd, .int .i64 x.ad, .slice x.A x.n x.c, .slice x.B x.m x.d]
def wdsC (ws : List Wd) : List Value := ws.flatMap wdL
theorem wdsC_snoc (ws : List Wd) (x : Wd) : wdsC (ws ++ [x]) = wdsC ws ++ wdL x := by unfold wdsC; rw [List.flatMap_append]; simp
theorem wdsC_at : ∀ (ws : List Wd) (i k : Nat) (hi : i < ws.length) (hk : k < 6), (wdsC ws)[i * 6 + k]? = (wdL (ws[i]'hi))[k]?
  | [], i, k, hi, _ => by simp at hi
  | p :: ls, 0, k, _, hk => by
    show (wdL p ++ wdsC ls)[0 * 6 + k]? = _
    rw [Nat.zero_mul, Nat.zero_add, List.getElem?_append_left (by simpa [wdL] using hk)]
    rfl
  | p :: ls, i + 1, k, hi, hk => by
    show (wdL p ++ wdsC ls)[(i + 1) * 6 + k]? = _
    rw [List.getElem?_append_right (by simp [wdL]; omega), show (i + 1) * 6 + k - (wdL p).length = i * 6 + k by simp [wdL]; omega]
    exact wdsC_at ls i k (by simpa using hi) hk
theorem one_wdL (x : Wd) : ∀ u ∈ wdL x, u.oneCell' = true := fun u hu => by
  simp [wdL] at hu
  rcases hu with rfl | rfl | rfl | rfl | rfl | rfl <;> rfl
theorem wins_own {w : World} {base : Nat} {T : TypeId} {v : Value} {n : Nat} {ws : List Wd} (h : w.ownsRow base T 6 v n (wdsC ws)) (hn : ws.length = n) (hok : ∀ x ∈ ws, x.Ok w) : ∃ A c, v = .slice A n c ∧ WinsAt w A n ws := by
  rcases h.2 with ⟨rfl, h0⟩ | ⟨g, cap, cur, rfl, hb, hg, hnc, hcm, hcs, htake⟩
  · exact ⟨none, 0, by rw [h0], hn, fun h => by omega, hok⟩
  · refine ⟨_, cap, rfl, hn, fun hn => ⟨g, 0, rfl, (Array.getElem?_eq_some_iff.1 hg).1, fun i hi j hj => ?_⟩, hok⟩
    have hc : w.cell? ⟨g, 0 + (i * 6 + j), none⟩ = (wdL ws[i])[j]? := by
      rw [← wdsC_at ws i j hi hj, ← htake, Nat.zero_add, List.getElem?_take_of_lt (by omega)]
      simp [World.cell?, hg]
    rw [Nat.add_assoc, hc, show (ws[i]).cells = (wdL ws[i]).toArray from rfl, List.getElem?_toArray]
set_option maxRecDepth 100000 in
set_option maxHeartbeats 2000000 in
theorem own_any (A : Option Addr) (n c : Nat) (ws : List Wd) (w : World) (hW : WinsAt w A n ws) (hn : n ≤ 900) :
    Calls Tryd.prog 13 #[.slice A n c] w fun e w' => ∃ B d, e = .returned (.slice B n d) ∧ Hid (WinsAt w' B n ws) ∧ Hid (Below w.heap.size w w') := by
  obtain ⟨i0, hi, hz0, hz1, hz2⟩ := info_parts info_wr
  have HW := Lib.hid hW
  have O0 : Hid (w.ownsRow w.heap.size TWr 6 (.slice none 0 0) 0 []) := Lib.hid ⟨rfl, .inl ⟨rfl, rfl⟩⟩
  clear hW
  go_enter Tryd.func13, Tryd.ntmps13
  go_wp2_with fail
  go_loopw [3, 4] (fun v i wx => ∃ j : Nat, j ≤ n ∧ i = .int .i64 j ∧ wx.ownsRow w.heap.size TWr 6 v j (wdsC (ws.take j)) ∧ Below w.heap.size w wx) (fun _ i _ => n - (intOf i).toNat)
  case atStart => exact ⟨0, by omega, rfl, by simpa [wdsC] using O0.out, Below.refl _ _⟩
  case round =>
    obtain ⟨j, hj, rfl, hown, hbel⟩ := hrel
    have HOWN := Lib.hid hown
    have HBEL := Lib.hid hbel
    by_cases hlt : j < n
    · have hji : (j : Int) < (n : Int) := by omega
      have hjl : j < ws.length := by rw [HW.out.len]; exact hlt
      obtain ⟨x, hx⟩ : ∃ x, ws[j]? = some x := ⟨_, List.getElem?_eq_getElem hjl⟩
      obtain ⟨b, off, rfl, hb, k0, k1, k2, k3, k4, k5, _⟩ := (HW.out.kept hbel).six hlt hx
      have HNX := Lib.hid (show wdsC (ws.take (j + 1)) = wdsC (ws.take j) ++ wdL x by rw [take_next hx, wdsC_snoc])
      have HK : Hid (∀ z : Kin wr.drew, z.world.cell? ⟨b, off + j * 6, none⟩ = some (.int .i64 x.k) ∧ z.world.cell? ⟨b, off + j * 6 + 1, none⟩ = some (.int .i64 x.b) ∧ z.world.cell? ⟨b, off + j * 6 + 2, none⟩ = some (.int .i64 x.wd) ∧ z.world.cell? ⟨b, off + j * 6 + 3, none⟩ = some (.int .i64 x.ad) ∧ z.world.cell? ⟨b, off + j * 6 + 4, none⟩ = some (.slice x.A x.n x.c) ∧ z.world.cell? ⟨b, off + j * 6 + 5, none⟩ = some (.slice x.B x.m x.d)) :=
        Lib.hid (fun z => ⟨Kin.at (w := wr.drew) k0 z, Kin.at (w := wr.drew) k1 z, Kin.at (w := wr.drew) k2 z, Kin.at (w := wr.drew) k3 z, Kin.at (w := wr.drew) k4 z, Kin.at (w := wr.drew) k5 z⟩)
      clear hx hown hbel k0 k1 k2 k3 k4 k5
      go_upto_region 5 with (fail)
      have K0 := fun z => (HK.out z).1
      have K1 := fun z => (HK.out z).2.1
      have K2 := fun z => (HK.out z).2.2.1
      have K3 := fun z => (HK.out z).2.2.2.1
      have K4 := fun z => (HK.out z).2.2.2.2.1
      have K5 := fun z => (HK.out z).2.2.2.2.2
      refine wp_region_specL 33 [.d u3, .d (.slice (some ⟨b, off, none⟩) n c), .d (.int .i64 j), .d (.pointer (some ⟨b, off + j * 6, none⟩)), .d (.pointer (some ⟨b, off + j * 6, none⟩)), .d (.int .i64 x.k), .d (.slice (some ⟨b, off, none⟩) n c), .d (.int .i64 j), .d (.pointer (some ⟨b, off + j * 6, none⟩)), .d (.pointer (some ⟨b, off + j * 6 + 1, none⟩)), .d (.int .i64 x.b), .d (.slice (some ⟨b, off, none⟩) n c), .d (.int .i64 j), .d (.pointer (some ⟨b, off + j * 6, none⟩)), .d (.pointer (some ⟨b, off + j * 6 + 2, none⟩)), .d (.int .i64 x.wd), .d (.slice (some ⟨b, off, none⟩) n c), .d (.int .i64 j), .d (.pointer (some ⟨b, off + j * 6, none⟩)), .d (.pointer (some ⟨b, off + j * 6 + 3, none⟩)), .d (.int .i64 x.ad), .d (.slice (some ⟨b, off, none⟩) n c), .d (.int .i64 j), .d (.pointer (some ⟨b, off + j * 6, none⟩)), .d (.pointer (some ⟨b, off + j * 6 + 4, none⟩)), .d (.slice x.A x.n x.c), .d (.slice (some ⟨b, off, none⟩) n c), .d (.int .i64 j), .d (.pointer (some ⟨b, off + j * 6, none⟩)), .d (.pointer (some ⟨b, off + j * 6 + 5, none⟩)), .d (.slice x.B x.m x.d), .d (.agg #[.int .i64 x.k, .int .i64 x.b, .int .i64 x.wd, .int .i64 x.ad, .slice x.A x.n x.c, .slice x.B x.m x.d]), .g (NewR wr.heap.size TWr #[.int .i64 x.k, .int .i64 x.b, .int .i64 x.wd, .int .i64 x.ad, .slice x.A x.n x.c, .slice x.B x.m x.d])] (by kernel_rfl) (by kernel_rfl) ?_
      refine spec_d rfl (fun x _ => gives_run (by go_simp)) ?_
      try simp only [Act.put, List.getElem_toArray, List.getElem_cons_succ, List.getElem_cons_zero, List.setIfInBounds_toArray, List.set_cons_zero, List.set_cons_succ]
      refine spec_d rfl (fun x _ => gives_run (by go_simp)) ?_
      try simp only [Act.put, List.getElem_toArray, List.getElem_cons_succ, List.getElem_cons_zero, List.setIfInBounds_toArray, List.set_cons_zero, List.set_cons_succ]
      refine spec_d rfl (fun x _ => gives_run (by go_simp)) ?_
      try simp only [Act.put, List.getElem_toArray, List.getElem_cons_succ, List.getElem_cons_zero, List.setIfInBounds_toArray, List.set_cons_zero, List.set_cons_succ]
      refine spec_d rfl (fun x _ => gives_run (by go_simp)) ?_
      try simp only [Act.put, List.getElem_toArray, List.getElem_cons_succ, List.getElem_cons_zero, List.setIfInBounds_toArray, List.set_cons_zero, List.set_cons_succ]
      refine spec_d rfl (fun x _ => gives_run (by go_simp)) ?_
      try simp only [Act.put, List.getElem_toArray, List.getElem_cons_succ, List.getElem_cons_zero, List.setIfInBounds_toArray, List.set_cons_zero, List.set_cons_succ]
      refine spec_d rfl (fun x _ => gives_run (by go_simp)) ?_
      try simp only [Act.put, List.getElem_toArray, List.getElem_cons_succ, List.getElem_cons_zero, List.setIfInBounds_toArray, List.set_cons_zero, List.set_cons_succ]
      refine spec_d rfl (fun x _ => gives_run (by go_simp)) ?_
      try simp only [Act.put, List.getElem_toArray, List.getElem_cons_succ, List.getElem_cons_zero, List.setIfInBounds_toArray, List.set_cons_zero, List.set_cons_succ]
      refine spec_d rfl (fun x _ => gives_run (by go_simp)) ?_
      try simp only [Act.put, List.getElem_toArray, List.getElem_cons_succ, List.getElem_cons_zero, List.setIfInBounds_toArray, List.set_cons_zero, List.set_cons_succ]
      refine spec_d rfl (fun x _ => gives_run (by go_simp)) ?_
      try simp only [Act.put, List.getElem_toArray, List.getElem_cons_succ, List.getElem_cons_zero, List.setIfInBounds_toArray, List.set_cons_zero, List.set_cons_succ]
      refine spec_d rfl (fun x _ => gives_run (by go_simp)) ?_
      try simp only [Act.put, List.getElem_toArray, List.getElem_cons_succ, List.getElem_cons_zero, List.setIfInBounds_toArray, List.set_cons_zero, List.set_cons_succ]
      refine spec_d rfl (fun x _ => gives_run (by go_simp)) ?_
      try simp only [Act.put, List.getElem_toArray, List.getElem_cons_succ, List.getElem_cons_zero, List.setIfInBounds_toArray, List.set_cons_zero, List.set_cons_succ]
      refine spec_d rfl (fun x _ => gives_run (by go_simp)) ?_
      try simp only [Act.put, List.getElem_toArray, List.getElem_cons_succ, List.getElem_cons_zero, List.setIfInBounds_toArray, List.set_cons_zero, List.set_cons_succ]
      refine spec_d rfl (fun x _ => gives_run (by go_simp)) ?_
      try simp only [Act.put, List.getElem_toArray, List.getElem_cons_succ, List.getElem_cons_zero, List.setIfInBounds_toArray, List.set_cons_zero, List.set_cons_succ]
      refine spec_d rfl (fun x _ => gives_run (by go_simp)) ?_
      try simp only [Act.put, List.getElem_toArray, List.getElem_cons_succ, List.getElem_cons_zero, List.setIfInBounds_toArray, List.set_cons_zero, List.set_cons_succ]
      refine spec_d rfl (fun x _ => gives_run (by go_simp)) ?_
      try simp only [Act.put, List.getElem_toArray, List.getElem_cons_succ, List.getElem_cons_zero, List.setIfInBounds_toArray, List.set_cons_zero, List.set_cons_succ]
      refine spec_d rfl (fun x _ => gives_run (by go_simp)) ?_
      try simp only [Act.put, List.getElem_toArray, List.getElem_cons_succ, List.getElem_cons_zero, List.setIfInBounds_toArray, List.set_cons_zero, List.set_cons_succ]
      refine spec_d rfl (fun x _ => gives_run (by go_simp)) ?_
      try simp only [Act.put, List.getElem_toArray, List.getElem_cons_succ, List.getElem_cons_zero, List.setIfInBounds_toArray, List.set_cons_zero, List.set_cons_succ]
      refine spec_d rfl (fun x _ => gives_run (by go_simp)) ?_
      try simp only [Act.put, List.getElem_toArray, List.getElem_cons_succ, List.getElem_cons_zero, List.setIfInBounds_toArray, List.set_cons_zero, List.set_cons_succ]
      refine spec_d rfl (fun x _ => gives_run (by go_simp)) ?_
      try simp only [Act.put, List.getElem_toArray, List.getElem_cons_succ, List.getElem_cons_zero, List.setIfInBounds_toArray, List.set_cons_zero, List.set_cons_succ]
      refine spec_d rfl (fun x _ => gives_run (by go_simp)) ?_
      try simp only [Act.put, List.getElem_toArray, List.getElem_cons_succ, List.getElem_cons_zero, List.setIfInBounds_toArray, List.set_cons_zero, List.set_cons_succ]
      refine spec_d rfl (fun x _ => gives_run (by go_simp)) ?_
      try simp only [Act.put, List.getElem_toArray, List.getElem_cons_succ, List.getElem_cons_zero, List.setIfInBounds_toArray, List.set_cons_zero, List.set_cons_succ]
      refine spec_d rfl (fun x _ => gives_run (by go_simp)) ?_
      try simp only [Act.put, List.getElem_toArray, List.getElem_cons_succ, List.getElem_cons_zero, List.setIfInBounds_toArray, List.set_cons_zero, List.set_cons_succ]
      refine spec_d rfl (fun x _ => gives_run (by go_simp)) ?_
      try simp only [Act.put, List.getElem_toArray, List.getElem_cons_succ, List.getElem_cons_zero, List.setIfInBounds_toArray, List.set_cons_zero, List.set_cons_succ]
      refine spec_d rfl (fun x _ => gives_run (by go_simp)) ?_
      try simp only [Act.put, List.getElem_toArray, List.getElem_cons_succ, List.getElem_cons_zero, List.setIfInBounds_toArray, List.set_cons_zero, List.set_cons_succ]
      refine spec_d rfl (fun x _ => gives_run (by go_simp)) ?_
      try simp only [Act.put, List.getElem_toArray, List.getElem_cons_succ, List.getElem_cons_zero, List.setIfInBounds_toArray, List.set_cons_zero, List.set_cons_succ]
      refine spec_d rfl (fun x _ => gives_run (by go_simp)) ?_
      try simp only [Act.put, List.getElem_toArray, List.getElem_cons_succ, List.getElem_cons_zero, List.setIfInBounds_toArray, List.set_cons_zero, List.set_cons_succ]
      refine spec_d rfl (fun x _ => gives_run (by go_simp)) ?_
      try simp only [Act.put, List.getElem_toArray, List.getElem_cons_succ, List.getElem_cons_zero, List.setIfInBounds_toArray, List.set_cons_zero, List.set_cons_succ]
      refine spec_d rfl (fun x _ => gives_run (by go_simp)) ?_
      try simp only [Act.put, List.getElem_toArray, List.getElem_cons_succ, List.getElem_cons_zero, List.setIfInBounds_toArray, List.set_cons_zero, List.set_cons_succ]
      refine spec_d rfl (fun x _ => gives_run (by go_simp)) ?_
      try simp only [Act.put, List.getElem_toArray, List.getElem_cons_succ, List.getElem_cons_zero, List.setIfInBounds_toArray, List.set_cons_zero, List.set_cons_succ]
      refine spec_d rfl (fun x _ => gives_run (by go_simp)) ?_
      try simp only [Act.put, List.getElem_toArray, List.getElem_cons_succ, List.getElem_cons_zero, List.setIfInBounds_toArray, List.set_cons_zero, List.set_cons_succ]
      refine spec_d rfl (fun x _ => gives_run (by go_simp)) ?_
      try simp only [Act.put, List.getElem_toArray, List.getElem_cons_succ, List.getElem_cons_zero, List.setIfInBounds_toArray, List.set_cons_zero, List.set_cons_succ]
      refine spec_d rfl (fun x _ => gives_run (by go_simp)) ?_
      try simp only [Act.put, List.getElem_toArray, List.getElem_cons_succ, List.getElem_cons_zero, List.setIfInBounds_toArray, List.set_cons_zero, List.set_cons_succ]
      refine spec_g (NewR.stable _ _ _) (NewR.ex _ _ (Nat.le_refl _)) rfl (fun z _ => gives_ok (by go_simp) (bel_new _ _) (NewR.new z.below.size)) ?_
      rintro vg ⟨xg, gg, rfl, _, _⟩
      try simp only [Act.put, List.getElem_toArray, List.getElem_cons_succ, List.getElem_cons_zero, List.setIfInBounds_toArray, List.set_cons_zero, List.set_cons_succ]
      refine spec_end (fun z hz => ?_)
      have HNG := Lib.hid (NewR.at (hz _ (List.mem_singleton.2 rfl)))
      clear hz
      have hbx := (bel_drew wr).trans z.below
      have HBX := Lib.hid (HBEL.out.trans (hbx.mono HBEL.out.size))
      have HOX := Lib.hid (own_kept HOWN.out hbx)
      obtain ⟨v5, w5, hrun, HO5, HG5⟩ := app_run (P := Tryd.prog) (wdL x) 38 Tryd.underlying38 hi hz0 hz1 hz2 rfl (by omega) HOX.out HNG.out rfl (one_wdL x) (by unfold maxLen; omega) (by omega) HBX.out.size
      change wpAny _ _ _ _ (1 + 1) _ _ _
      refine wpAny_ready (rs := [33]) (by kernel_rfl) (by simp) ?_
      refine AllReady.cons rfl (fun KK hK => ?_) AllReady.nil
      rw [if_pos (by rfl)]
      refine upon_app (.tmp 11) (.tmp 43) 38 rfl rfl rfl hrun ?_
      refine hK _ _ ?_
      clear hK KK
      try simp only [Act.put, List.getElem_toArray, List.getElem_cons_succ, List.getElem_cons_zero, List.setIfInBounds_toArray, List.set_cons_zero, List.set_cons_succ]
      change wpAny _ _ _ _ (0 + 1) _ _ _
      refine wpAny_ready (rs := [34]) (by kernel_rfl) (by simp) ?_
      refine AllReady.cons rfl (fun KK hK => ?_) AllReady.nil
      go_simp
      refine hK _ _ ?_
      clear hK KK
      try simp only [Act.put, List.getElem_toArray, List.getElem_cons_succ, List.getElem_cons_zero, List.setIfInBounds_toArray, List.set_cons_zero, List.set_cons_succ]
      refine wpAny_done (by kernel_rfl) ?_ _
      have HB5 := Lib.hid (HBX.out.trans ((Below.refl _ _).grown HG5.out HBX.out.size (fun k hk => (HOX.out.lt k hk).1)))
      clear K0 K1 K2 K3 K4 K5 HK hrun hbx HNG
      clear HG5 HBX HOX
      go_wp2
      go_roundw
      case rel => exact ⟨j + 1, by omega, by go_num, by rw [HNX.out]; exact HO5.out, HB5.out⟩
      case measure => simp [intOf]; omega
    · obtain rfl : j = n := by omega
      have HE : Hid (ws.take j = ws) := Lib.hid (List.take_of_length_le (by rw [HW.out.len]; exact Nat.le_refl _))
      rw [HE.out] at hown
      obtain ⟨B, d, rfl, hwin⟩ := wins_own hown HW.out.len (HW.out.kept hbel).ok
      have HWIN := Lib.hid hwin
      clear hwin hown HOWN hbel
      go_wp2
      go_ret
      exact ⟨B, d, rfl, HWIN, HBEL⟩
/-- Lists short enough to be looked through. -/
def FewW (n : Nat) (ws : List Wd) : Prop := n ≤ 60 ∧ ∀ x ∈ ws, x.n ≤ 40 ∧ x.m ≤ 40
set_option maxRecDepth 100000 in
set_option maxHeartbeats 2000000 in
theorem few_any (md : Int) (A0 : Option Addr) (n0 c0 : Nat) (A1 : Option Addr) (n1 c1 : Nat) (ws0 ws1 : List Wd) (w : World) (hW0 : WinsAt w A0 n0 ws0) (hW1 : WinsAt w A1 n1 ws1) (h0 : n0 ≤ 9223372036854775807) (h1 : n1 ≤ 9223372036854775807) :
    Calls Tryd.prog 6 #[.agg #[.int .i64 md, .slice A0 n0 c0, .slice A1 n1 c1]] w fun e w' => ∃ r : Int, e = .returned (.int .i64 r) ∧ (r = 0 ∨ (r = 1 ∧ FewW n0 ws0 ∧ FewW n1 ws1)) ∧ Below w.heap.size w w' := by
  obtain ⟨gb, HGB⟩ : ∃ gb, Hid (w.heap.size = gb) := ⟨_, Lib.hid rfl⟩
  obtain ⟨W1, HW1⟩ : ∃ W1, W1 = w.alloc (.cells #[.int .i64 md, .slice A0 n0 c0, .slice A1 n1 c1] 25) := ⟨_, rfl⟩
  have HB1 : Hid (Below w.heap.size w W1) := Lib.hid (by rw [HW1]; exact bel1 _ _)
  have HOB : Hid (Obj1 W1 gb 25 #[.int .i64 md, .slice A0 n0 c0, .slice A1 n1 c1]) := Lib.hid (by rw [HW1, ← HGB.out]; exact Obj1.new _ _ _)
  have HA := Lib.hid (hW0.kept HB1.out)
  have HC := Lib.hid (hW1.kept HB1.out)
  clear hW0 hW1
  have f0 : W1.cell? ⟨gb, 1, none⟩ = some (.slice A0 n0 c0) := HOB.out.cell 1
  have f1 : W1.cell? ⟨gb, 2, none⟩ = some (.slice A1 n1 c1) := HOB.out.cell 2
  go_enter Tryd.func6, Tryd.ntmps6
  go_upto_region 1 with (fail)
  rw [← HW1, HGB.out]
  clear HW1
  go_wp2_with fail
  go_loop [3] (fun i => ∃ v : Nat, v ≤ 2 ∧ i = .int .i64 v ∧ Hid (0 < v → FewW n0 ws0) ∧ Hid (1 < v → FewW n1 ws1)) (fun i => 2 - (intOf i).toNat)
  case atStart => exact ⟨0, by omega, rfl, Lib.hid (fun h => by omega), Lib.hid (fun h => by omega)⟩
  case round =>
    obtain ⟨v, hv, rfl, HF0, HF1⟩ := hrel
    rcases (show v = 0 ∨ v = 1 ∨ v = 2 by omega) with rfl | rfl | rfl
    · by_cases hb : n0 ≤ 60
      · have hbi : ¬ (60 : Int) < (n0 : Int) := by omega
        go_wp2_with fail
        go_loop [4] (fun i => ∃ j : Nat, j ≤ n0 ∧ i = .int .i64 j ∧ Hid (∀ i x, i < j → ws0[i]? = some x → x.n ≤ 40 ∧ x.m ≤ 40)) (fun i => n0 - (intOf i).toNat)
        case atStart => exact ⟨0, by omega, rfl, Lib.hid (fun i x h => by omega)⟩
        case round =>
          obtain ⟨j, hj, rfl, HJ⟩ := hrel
          by_cases hlt : j < n0
          · have hji : (j : Int) < (n0 : Int) := by omega
            have hjl : j < ws0.length := by rw [HA.out.len]; exact hlt
            obtain ⟨x, hx⟩ : ∃ x, ws0[j]? = some x := ⟨_, List.getElem?_eq_getElem hjl⟩
            obtain ⟨b, off, rfl, hb6, k0, k1, k2, k3, k4, k5, _⟩ := HA.out.six hlt hx
            have HXX := Lib.hid hx
            clear hx k0 k1 k2 k3
            by_cases hn40 : x.n ≤ 40
            · have hni : ¬ (40 : Int) < (x.n : Int) := by omega
              by_cases hm40 : x.m ≤ 40
              · have hmi : ¬ (40 : Int) < (x.m : Int) := by omega
                go_wp2
                go_round
                case rel => exact ⟨j + 1, by omega, by go_num, Lib.hid (fun i z hi hz => by
                  by_cases e : i = j
                  · subst e
                    rw [HXX.out] at hz
                    cases hz
                    exact ⟨hn40, hm40⟩
                  · exact HJ.out i z (by omega) hz)⟩
                case measure => simp [intOf]; omega
              · have hmi : (40 : Int) < (x.m : Int) := by omega
                go_wp2
                go_ret
                exact ⟨0, rfl, .inl rfl, HB1.out⟩
            · have hni : (40 : Int) < (x.n : Int) := by omega
              go_wp2
              go_ret
              exact ⟨0, rfl, .inl rfl, HB1.out⟩
          · obtain rfl : j = n0 := by omega
            have HFW : Hid (FewW j ws0) := Lib.hid ⟨hb, fun x hx => by
              obtain ⟨i, hi, rfl⟩ := List.getElem_of_mem hx
              exact HJ.out i _ (by rw [HA.out.len] at hi; exact hi) (List.getElem?_eq_getElem hi)⟩
            go_wp2
            go_round
            case rel => exact ⟨0 + 1, by omega, rfl, Lib.hid (fun _ => HFW.out), Lib.hid (fun h => by omega)⟩
            case measure => simp [intOf]
      · have hbi : (60 : Int) < (n0 : Int) := by omega
        go_wp2
        go_ret
        exact ⟨0, rfl, .inl rfl, HB1.out⟩
    · by_cases hb : n1 ≤ 60
      · have hbi : ¬ (60 : Int) < (n1 : Int) := by omega
        go_wp2_with fail
        go_loop [4] (fun i => ∃ j : Nat, j ≤ n1 ∧ i = .int .i64 j ∧ Hid (∀ i x, i < j → ws1[i]? = some x → x.n ≤ 40 ∧ x.m ≤ 40)) (fun i => n1 - (intOf i).toNat)
        case atStart => exact ⟨0, by omega, rfl, Lib.hid (fun i x h => by omega)⟩
        case round =>
          obtain ⟨j, hj, rfl, HJ⟩ := hrel
          by_cases hlt : j < n1
          · have hji : (j : Int) < (n1 : Int) := by omega
            have hjl : j < ws1.length := by rw [HC.out.len]; exact hlt
            obtain ⟨x, hx⟩ : ∃ x, ws1[j]? = some x := ⟨_, List.getElem?_eq_getElem hjl⟩
            obtain ⟨b, off, rfl, hb6, k0, k1, k2, k3, k4, k5, _⟩ := HC.out.six hlt hx
            have HXX := Lib.hid hx
            clear hx k0 k1 k2 k3
            by_cases hn40 : x.n ≤ 40
            · have hni : ¬ (40 : Int) < (x.n : Int) := by omega
              by_cases hm40 : x.m ≤ 40
              · have hmi : ¬ (40 : Int) < (x.m : Int) := by omega
                go_wp2
                go_round
                case rel => exact ⟨j + 1, by omega, by go_num, Lib.hid (fun i z hi hz => by
                  by_cases e : i = j
                  · subst e
                    rw [HXX.out] at hz
                    cases hz
                    exact ⟨hn40, hm40⟩
                  · exact HJ.out i z (by omega) hz)⟩
                case measure => simp [intOf]; omega
              · have hmi : (40 : Int) < (x.m : Int) := by omega
                go_wp2
                go_ret
                exact ⟨0, rfl, .inl rfl, HB1.out⟩
            · have hni : (40 : Int) < (x.n : Int) := by omega
              go_wp2
              go_ret
              exact ⟨0, rfl, .inl rfl, HB1.out⟩
          · obtain rfl : j = n1 := by omega
            have HFW : Hid (FewW j ws1) := Lib.hid ⟨hb, fun x hx => by
              obtain ⟨i, hi, rfl⟩ := List.getElem_of_mem hx
              exact HJ.out i _ (by rw [HC.out.len] at hi; exact hi) (List.getElem?_eq_getElem hi)⟩
            go_wp2
            go_round
            case rel => exact ⟨1 + 1, by omega, rfl, Lib.hid (fun _ => HF0.out (by omega)), Lib.hid (fun _ => HFW.out)⟩
            case measure => simp [intOf]
      · have hbi : (60 : Int) < (n1 : Int) := by omega
        go_wp2
        go_ret
        exact ⟨0, rfl, .inl rfl, HB1.out⟩
    · go_wp2
      go_ret
      exact ⟨1, rfl, .inr ⟨rfl, HF0.out (by omega), HF1.out (by omega)⟩, HB1.out⟩
end Go.Proofs.YtkankdecbefenaaDoor.Ly7
