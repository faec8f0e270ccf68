/- The statements' own Own of slips, and the document's Check and Fit; no condition but sizes. -/
import Derived.Test.YtejhjpdcodloaaaBudB
import Derived.Test.YtejhjpdcodloaaaPushR
namespace Go.Proofs.Ytejhjpdcodloaaa.Ly21
open Go.ChangeShapes Go.WideShapes Go.ChangeAt Go.RowKit Base Go.Maps
set_option linter.unusedVariables false
set_option linter.unusedSimpArgs false

abbrev TRS : TypeId := 37
abbrev TBS : TypeId := 40
theorem info_rs : (Try.prog.info? TRS).map (fun i => (i.zero, i.size, i.bytes)) = some (some (.agg #[.int .i64 0, .bool false, .int .i64 0, .int .i64 0]), 4, 32) := by kernel_rfl
theorem info_bs : (Try.prog.info? TBS).map (fun i => (i.zero, i.size, i.bytes)) = some (some (.agg #[.int .i64 0, .bool false, .int .i64 0, .int .i64 0]), 4, 32) := by kernel_rfl
theorem one_slL (x : Slp) : ∀ u ∈ slL x, u.oneCell' = true := fun u hu => by
  simp [slL] at hu
  rcases hu with rfl | rfl | rfl | rfl <;> rfl
theorem take_next {α : Type} {l : List α} {k : Nat} {x : α} (h : l[k]? = some x) : l.take (k + 1) = l.take k ++ [x] := by rw [List.take_add_one, h]; rfl
theorem drop_next {α : Type} {l : List α} {k : Nat} {x : α} (h : l[k]? = some x) : l.drop k = x :: l.drop (k + 1) := by
  obtain ⟨hk, rfl⟩ := List.getElem?_eq_some_iff.1 h
  exact List.drop_eq_getElem_cons hk
set_option maxRecDepth 100000 in
set_option maxHeartbeats 2000000 in
theorem own_any (A : Option Addr) (n c : Nat) (ls : List Slp) (w : World) (hW : SlsAt w A n ls) (hn : n ≤ 900) :
    Calls Try.prog 9 #[.slice A n c] w fun e w' => ∃ B d, e = .returned (.slice B n d) ∧ Hid (SlsAt w' B n ls) ∧ Hid (n ≤ d) ∧ Hid (Below w.heap.size w w') := by
  obtain ⟨i0, hi, hz0, hz1, hz2⟩ := info_parts info_rs
  have HW := Lib.hid hW
  have O0 : Hid (w.ownsRow w.heap.size TRS 4 (.slice none 0 0) 0 []) := Lib.hid ⟨rfl, .inl ⟨rfl, rfl⟩⟩
  clear hW
  go_enter Try.func9, Try.ntmps9
  go_wp2_with fail
  go_loopw [3, 4] (fun v i wx => ∃ j : Nat, j ≤ n ∧ i = .int .i64 j ∧ wx.ownsRow w.heap.size TRS 4 v j (slC (ls.take j)) ∧ Below w.heap.size w wx) (fun _ i _ => n - (intOf i).toNat)
  case atStart => exact ⟨0, by omega, rfl, by simpa [slC] using O0.out, Below.refl _ _⟩
  case round =>
    obtain ⟨j, hj, rfl, hown, hbel⟩ := hrel
    have HOWN := Lib.hid hown
    have HBEL := Lib.hid hbel
    by_cases hlt : j < n
    · have hji : (j : Int) < (n : Int) := by omega
      have hjl : j < ls.length := by rw [HW.out.len]; exact hlt
      obtain ⟨x, hx⟩ : ∃ x, ls[j]? = some x := ⟨_, List.getElem?_eq_getElem hjl⟩
      obtain ⟨b, off, rfl, hb, k0, k1, k2, k3⟩ := (HW.out.kept hbel).four hlt hx
      have HNX := Lib.hid (show slC (ls.take (j + 1)) = slC (ls.take j) ++ slL x by rw [take_next hx, slC_snoc])
      have K0 : ∀ z : Kin wr.drew, z.world.cell? ⟨b, off + j * 4, none⟩ = some (.int .i64 x.m) := fun z => Kin.at (w := wr.drew) k0 z
      have K1 : ∀ z : Kin wr.drew, z.world.cell? ⟨b, off + j * 4 + 1, none⟩ = some (.bool x.y) := fun z => Kin.at (w := wr.drew) k1 z
      have K2 : ∀ z : Kin wr.drew, z.world.cell? ⟨b, off + j * 4 + 2, none⟩ = some (.int .i64 x.t) := fun z => Kin.at (w := wr.drew) k2 z
      have K3 : ∀ z : Kin wr.drew, z.world.cell? ⟨b, off + j * 4 + 3, none⟩ = some (.int .i64 x.b) := fun z => Kin.at (w := wr.drew) k3 z
      clear hx hown hbel k0 k1 k2 k3
      go_upto_region 5 with (fail)
      refine wp_region_specL 23 [.d u3, .d (.slice (some ⟨b, off, none⟩) n c), .d (.int .i64 j), .d (.pointer (some ⟨b, off + j * 4, none⟩)), .d (.pointer (some ⟨b, off + j * 4, none⟩)), .d (.int .i64 x.m), .d (.slice (some ⟨b, off, none⟩) n c), .d (.int .i64 j), .d (.pointer (some ⟨b, off + j * 4, none⟩)), .d (.pointer (some ⟨b, off + j * 4 + 1, none⟩)), .d (.bool x.y), .d (.slice (some ⟨b, off, none⟩) n c), .d (.int .i64 j), .d (.pointer (some ⟨b, off + j * 4, none⟩)), .d (.pointer (some ⟨b, off + j * 4 + 2, none⟩)), .d (.int .i64 x.t), .d (.slice (some ⟨b, off, none⟩) n c), .d (.int .i64 j), .d (.pointer (some ⟨b, off + j * 4, none⟩)), .d (.pointer (some ⟨b, off + j * 4 + 3, none⟩)), .d (.int .i64 x.b), .d (.agg #[.int .i64 x.m, .bool x.y, .int .i64 x.t, .int .i64 x.b]), .g (NewR wr.heap.size TRS #[.int .i64 x.m, .bool x.y, .int .i64 x.t, .int .i64 x.b])] (by kernel_rfl) (by kernel_rfl) ?_
      refine spec_d rfl (fun x _ => gives_run (by go_simp)) ?_
      try simp only [Act.put, List.getElem_toArray, List.getElem_cons_succ, List.getElem_cons_zero, List.setIfInBounds_toArray, List.set_cons_zero, List.set_cons_succ]
      refine spec_d rfl (fun x _ => gives_run (by go_simp)) ?_
      try simp only [Act.put, List.getElem_toArray, List.getElem_cons_succ, List.getElem_cons_zero, List.setIfInBounds_toArray, List.set_cons_zero, List.set_cons_succ]
      refine spec_d rfl (fun x _ => gives_run (by go_simp)) ?_
      try simp only [Act.put, List.getElem_toArray, List.getElem_cons_succ, List.getElem_cons_zero, List.setIfInBounds_toArray, List.set_cons_zero, List.set_cons_succ]
      refine spec_d rfl (fun x _ => gives_run (by go_simp)) ?_
      try simp only [Act.put, List.getElem_toArray, List.getElem_cons_succ, List.getElem_cons_zero, List.setIfInBounds_toArray, List.set_cons_zero, List.set_cons_succ]
      refine spec_d rfl (fun x _ => gives_run (by go_simp)) ?_
      try simp only [Act.put, List.getElem_toArray, List.getElem_cons_succ, List.getElem_cons_zero, List.setIfInBounds_toArray, List.set_cons_zero, List.set_cons_succ]
      refine spec_d rfl (fun x _ => gives_run (by go_simp)) ?_
      try simp only [Act.put, List.getElem_toArray, List.getElem_cons_succ, List.getElem_cons_zero, List.setIfInBounds_toArray, List.set_cons_zero, List.set_cons_succ]
      refine spec_d rfl (fun x _ => gives_run (by go_simp)) ?_
      try simp only [Act.put, List.getElem_toArray, List.getElem_cons_succ, List.getElem_cons_zero, List.setIfInBounds_toArray, List.set_cons_zero, List.set_cons_succ]
      refine spec_d rfl (fun x _ => gives_run (by go_simp)) ?_
      try simp only [Act.put, List.getElem_toArray, List.getElem_cons_succ, List.getElem_cons_zero, List.setIfInBounds_toArray, List.set_cons_zero, List.set_cons_succ]
      refine spec_d rfl (fun x _ => gives_run (by go_simp)) ?_
      try simp only [Act.put, List.getElem_toArray, List.getElem_cons_succ, List.getElem_cons_zero, List.setIfInBounds_toArray, List.set_cons_zero, List.set_cons_succ]
      refine spec_d rfl (fun x _ => gives_run (by go_simp)) ?_
      try simp only [Act.put, List.getElem_toArray, List.getElem_cons_succ, List.getElem_cons_zero, List.setIfInBounds_toArray, List.set_cons_zero, List.set_cons_succ]
      refine spec_d rfl (fun x _ => gives_run (by go_simp)) ?_
      try simp only [Act.put, List.getElem_toArray, List.getElem_cons_succ, List.getElem_cons_zero, List.setIfInBounds_toArray, List.set_cons_zero, List.set_cons_succ]
      refine spec_d rfl (fun x _ => gives_run (by go_simp)) ?_
      try simp only [Act.put, List.getElem_toArray, List.getElem_cons_succ, List.getElem_cons_zero, List.setIfInBounds_toArray, List.set_cons_zero, List.set_cons_succ]
      refine spec_d rfl (fun x _ => gives_run (by go_simp)) ?_
      try simp only [Act.put, List.getElem_toArray, List.getElem_cons_succ, List.getElem_cons_zero, List.setIfInBounds_toArray, List.set_cons_zero, List.set_cons_succ]
      refine spec_d rfl (fun x _ => gives_run (by go_simp)) ?_
      try simp only [Act.put, List.getElem_toArray, List.getElem_cons_succ, List.getElem_cons_zero, List.setIfInBounds_toArray, List.set_cons_zero, List.set_cons_succ]
      refine spec_d rfl (fun x _ => gives_run (by go_simp)) ?_
      try simp only [Act.put, List.getElem_toArray, List.getElem_cons_succ, List.getElem_cons_zero, List.setIfInBounds_toArray, List.set_cons_zero, List.set_cons_succ]
      refine spec_d rfl (fun x _ => gives_run (by go_simp)) ?_
      try simp only [Act.put, List.getElem_toArray, List.getElem_cons_succ, List.getElem_cons_zero, List.setIfInBounds_toArray, List.set_cons_zero, List.set_cons_succ]
      refine spec_d rfl (fun x _ => gives_run (by go_simp)) ?_
      try simp only [Act.put, List.getElem_toArray, List.getElem_cons_succ, List.getElem_cons_zero, List.setIfInBounds_toArray, List.set_cons_zero, List.set_cons_succ]
      refine spec_d rfl (fun x _ => gives_run (by go_simp)) ?_
      try simp only [Act.put, List.getElem_toArray, List.getElem_cons_succ, List.getElem_cons_zero, List.setIfInBounds_toArray, List.set_cons_zero, List.set_cons_succ]
      refine spec_d rfl (fun x _ => gives_run (by go_simp)) ?_
      try simp only [Act.put, List.getElem_toArray, List.getElem_cons_succ, List.getElem_cons_zero, List.setIfInBounds_toArray, List.set_cons_zero, List.set_cons_succ]
      refine spec_d rfl (fun x _ => gives_run (by go_simp)) ?_
      try simp only [Act.put, List.getElem_toArray, List.getElem_cons_succ, List.getElem_cons_zero, List.setIfInBounds_toArray, List.set_cons_zero, List.set_cons_succ]
      refine spec_d rfl (fun x _ => gives_run (by go_simp)) ?_
      try simp only [Act.put, List.getElem_toArray, List.getElem_cons_succ, List.getElem_cons_zero, List.setIfInBounds_toArray, List.set_cons_zero, List.set_cons_succ]
      refine spec_d rfl (fun x _ => gives_run (by go_simp)) ?_
      try simp only [Act.put, List.getElem_toArray, List.getElem_cons_succ, List.getElem_cons_zero, List.setIfInBounds_toArray, List.set_cons_zero, List.set_cons_succ]
      refine spec_g (NewR.stable _ _ _) (NewR.ex _ _ (Nat.le_refl _)) rfl (fun z _ => gives_ok (by go_simp) (bel_new _ _) (NewR.new z.below.size)) ?_
      rintro vg ⟨xg, gg, rfl, _, _⟩
      try simp only [Act.put, List.getElem_toArray, List.getElem_cons_succ, List.getElem_cons_zero, List.setIfInBounds_toArray, List.set_cons_zero, List.set_cons_succ]
      refine spec_end (fun z hz => ?_)
      have HNG := Lib.hid (NewR.at (hz _ (List.mem_singleton.2 rfl)))
      clear hz
      have hbx := (bel_drew wr).trans z.below
      have HBX := Lib.hid (HBEL.out.trans (hbx.mono HBEL.out.size))
      have HOX := Lib.hid (own_kept HOWN.out hbx)
      obtain ⟨v5, w5, hrun, HO5, HG5⟩ := app_run (P := Try.prog) (slL x) 29 Try.underlying29 hi hz0 hz1 hz2 rfl (by omega) HOX.out HNG.out rfl (one_slL x) (by unfold maxLen; omega) (by omega) HBX.out.size
      change wpAny _ _ _ _ (1 + 1) _ _ _
      refine wpAny_ready (rs := [23]) (by kernel_rfl) (by simp) ?_
      refine AllReady.cons rfl (fun KK hK => ?_) AllReady.nil
      rw [if_pos (by rfl)]
      refine upon_app (.tmp 11) (.tmp 33) 29 rfl rfl rfl hrun ?_
      refine hK _ _ ?_
      clear hK KK
      try simp only [Act.put, List.getElem_toArray, List.getElem_cons_succ, List.getElem_cons_zero, List.setIfInBounds_toArray, List.set_cons_zero, List.set_cons_succ]
      change wpAny _ _ _ _ (0 + 1) _ _ _
      refine wpAny_ready (rs := [24]) (by kernel_rfl) (by simp) ?_
      refine AllReady.cons rfl (fun KK hK => ?_) AllReady.nil
      go_simp
      refine hK _ _ ?_
      clear hK KK
      try simp only [Act.put, List.getElem_toArray, List.getElem_cons_succ, List.getElem_cons_zero, List.setIfInBounds_toArray, List.set_cons_zero, List.set_cons_succ]
      refine wpAny_done (by kernel_rfl) ?_ _
      have HB5 := Lib.hid (HBX.out.trans ((Below.refl _ _).grown HG5.out HBX.out.size (fun k hk => (HOX.out.lt k hk).1)))
      clear K0 K1 K2 K3 hrun hbx HNG
      clear HG5 HBX HOX
      go_wp2
      go_roundw
      case rel => exact ⟨j + 1, by omega, by go_num, by rw [HNX.out]; exact HO5.out, HB5.out⟩
      case measure => simp [intOf]; omega
    · obtain rfl : j = n := by omega
      have HE : Hid (ls.take j = ls) := Lib.hid (List.take_of_length_le (by rw [HW.out.len]; exact Nat.le_refl _))
      rw [HE.out] at hown
      obtain ⟨B, d, rfl, hjd, hwin⟩ := sls_own hown HW.out.len
      have HWIN := Lib.hid hwin
      have HJD := Lib.hid hjd
      clear hwin hown HOWN hbel hjd
      go_wp2
      go_ret
      exact ⟨B, d, rfl, HWIN, HJD, HBEL⟩

/-! ### The document's Check -/

theorem good_take {md : Int} {ls : List Slp} {k : Nat} {x : Slp} (h : Good md (ls.take k)) (hx : ls[k]? = some x) (hm : mayB x md = true) (hn : nearL (ls.take k) x = false) : Good md (ls.take (k + 1)) := by
  rw [take_next hx]
  exact h.snoc hm hn
theorem may_t {x : Slp} {md : Int} (h : mayB x md = true) : 0 ≤ x.t ∧ x.t ≤ 1099511627776 := by
  simp only [mayB, decide_eq_true_eq] at h
  omega
theorem SlsAt.take {w : World} {A : Option Addr} {n : Nat} {ls : List Slp} (h : SlsAt w A n ls) {k : Nat} (hk : k ≤ n) : SlsAt w A k (ls.take k) where
  len := by rw [List.length_take, h.len]; omega
  at' := fun hk0 => by
    obtain ⟨b, off, e, hlt, hc⟩ := h.at' (by omega)
    exact ⟨b, off, e, hlt, fun i x hx j hj => hc i x (by rw [List.getElem?_take] at hx; split at hx; exact hx; cases hx) j hj⟩
set_option maxRecDepth 100000 in
set_option maxHeartbeats 1000000 in
theorem rcheck_any (md : Int) (A : Option Addr) (n c : Nat) (ls : List Slp) (w : World) (hW : SlsAt w A n ls) (hn : n ≤ 900) (hc : n ≤ c) :
    Calls Try.prog 11 #[.slice A n c, .int .i64 md] w fun e w' => e = .returned (.int .i64 (chkA md [] ls)) ∧ Below w.heap.size w w' := by
  have HW := Lib.hid hW
  obtain ⟨E, HE⟩ : ∃ E, Hid (chkA md [] ls = E) := ⟨_, Lib.hid rfl⟩
  rw [HE.out]
  clear hW
  go_enter Try.func11, Try.ntmps11
  go_wp2_with fail
  go_loopw [5] (fun i wx => ∃ k : Nat, k ≤ n ∧ i = .int .i64 k ∧ Hid (chkA md (ls.take k) (ls.drop k) = E) ∧ Hid (Good md (ls.take k)) ∧ Below w.heap.size w wx) (fun i _ => n - (intOf i).toNat)
  case atStart => exact ⟨0, by omega, rfl, Lib.hid (by simpa using HE.out), Lib.hid (Good.nil md), Below.refl _ _⟩
  case round =>
    obtain ⟨k, hk, rfl, HR, HG, hbel⟩ := hrel
    have HBEL := Lib.hid hbel
    by_cases hlt : k < n
    · have hki : (k : Int) < (n : Int) := by omega
      have hkl : k < ls.length := by rw [HW.out.len]; exact hlt
      obtain ⟨x, hx⟩ : ∃ x, ls[k]? = some x := ⟨_, List.getElem?_eq_getElem hkl⟩
      have HX := Lib.hid hx
      have HR' : Hid ((if mayB x md = false then 2 else if nearL (ls.take k) x = true then 19 else chkA md (ls.take (k + 1)) (ls.drop (k + 1))) = E) := Lib.hid (by
        have := HR.out
        rw [drop_next hx] at this
        rw [take_next hx]
        exact this)
      have HWk := Lib.hid (HW.out.kept hbel)
      obtain ⟨b, off, rfl, hb, k0, k1, k2, k3⟩ := HWk.out.four hlt hx
      have HMY := Lib.hid (fun W => rmay_any x md W)
      obtain ⟨q, HQ⟩ : ∃ q, Hid (mayB x md = q) := ⟨_, Lib.hid rfl⟩
      rw [HQ.out] at HMY
      clear hx hkl hb hbel
      go_wp2_with fail
      refine (HMY.out _).mono ?_
      rintro e w2 ⟨rfl, hb2⟩
      clear k0 k1 k2 k3
      have HB2 := Lib.hid (HBEL.out.trans (hb2.mono HBEL.out.size))
      cases q with
      | false =>
        have HE2 : Hid (2 = E) := Lib.hid (by rw [← HR'.out, if_pos HQ.out])
        clear hb2
        go_wp2
        go_ret
        exact ⟨by rw [← HE2.out]; rfl, HB2.out⟩
      | true =>
        have HTK : Hid (∀ a ∈ ls.take k, 0 ≤ a.t ∧ a.t ≤ 1099511627776) := Lib.hid (fun a ha => may_t (HG.out.1 a ha))
        have HW2 := Lib.hid (HWk.out.kept hb2)
        have hkc : (k : Int) ≤ (c : Int) := by omega
        have hw2' : w2.heap.size ≤ w2.drew.heap.size := Nat.le_refl _
        have hd2 : Below w2.heap.size w2 w2.drew := bel_drew w2
        have HNR : Hid (∀ z : Kin w2.drew, Calls Try.prog 34 #[.slice (some ⟨b, off, none⟩) k c, .agg x.cells] z.world fun e w' => e = .returned (.bool (nearL (ls.take k) x)) ∧ Below z.world.heap.size z.world w') := Lib.hid (fun z =>
          rnear_any (some ⟨b, off, none⟩) k c (ls.take k) x z.world ((HW2.out.kept (hd2.trans z.below)).take (by omega)) (by omega) HTK.out (may_t HQ.out))
        obtain ⟨b', off', e', hb', k0, k1, k2, k3⟩ := HW2.out.four hlt HX.out
        obtain ⟨rfl, rfl⟩ : b' = b ∧ off' = off := by
          injection e' with e'
          injection e' with e1 e2 _
          exact ⟨e1.symm, e2.symm⟩
        have K0 : ∀ z : Kin w2.drew, z.world.cell? ⟨b', off' + k * 4, none⟩ = some (.int .i64 x.m) := fun z => Kin.at (w := w2.drew) k0 z
        have K1 : ∀ z : Kin w2.drew, z.world.cell? ⟨b', off' + k * 4 + 1, none⟩ = some (.bool x.y) := fun z => Kin.at (w := w2.drew) k1 z
        have K2 : ∀ z : Kin w2.drew, z.world.cell? ⟨b', off' + k * 4 + 2, none⟩ = some (.int .i64 x.t) := fun z => Kin.at (w := w2.drew) k2 z
        have K3 : ∀ z : Kin w2.drew, z.world.cell? ⟨b', off' + k * 4 + 3, none⟩ = some (.int .i64 x.b) := fun z => Kin.at (w := w2.drew) k3 z
        obtain ⟨p, HP⟩ : ∃ p, Hid (nearL (ls.take k) x = p) := ⟨_, Lib.hid rfl⟩
        rw [HP.out] at HNR
        clear hb2 e' hb' k0 k1 k2 k3 hw2'
        go_upto_region 6 with (fail)
        refine wp_region_specL 8 [.d (.slice (some ⟨b', off', none⟩) n c), .d (.int .i64 k), .d (.slice (some ⟨b', off', none⟩) k c), .d (.slice (some ⟨b', off', none⟩) n c), .d (.int .i64 k), .d (.pointer (some ⟨b', off' + k * 4, none⟩)), .d (.agg x.cells), .d (.bool p)] (by kernel_rfl) (by kernel_rfl) ?_
        refine spec_d rfl (fun x _ => gives_run (by go_simp)) ?_
        try simp only [Act.put, List.getElem_toArray, List.getElem_cons_succ, List.getElem_cons_zero, List.setIfInBounds_toArray, List.set_cons_zero, List.set_cons_succ]
        refine spec_d rfl (fun x _ => gives_run (by go_simp)) ?_
        try simp only [Act.put, List.getElem_toArray, List.getElem_cons_succ, List.getElem_cons_zero, List.setIfInBounds_toArray, List.set_cons_zero, List.set_cons_succ]
        refine spec_d rfl (fun x _ => gives_run (by go_simp)) ?_
        try simp only [Act.put, List.getElem_toArray, List.getElem_cons_succ, List.getElem_cons_zero, List.setIfInBounds_toArray, List.set_cons_zero, List.set_cons_succ]
        refine spec_d rfl (fun x _ => gives_run (by go_simp)) ?_
        try simp only [Act.put, List.getElem_toArray, List.getElem_cons_succ, List.getElem_cons_zero, List.setIfInBounds_toArray, List.set_cons_zero, List.set_cons_succ]
        refine spec_d rfl (fun x _ => gives_run (by go_simp)) ?_
        try simp only [Act.put, List.getElem_toArray, List.getElem_cons_succ, List.getElem_cons_zero, List.setIfInBounds_toArray, List.set_cons_zero, List.set_cons_succ]
        refine spec_d rfl (fun x _ => gives_run (by go_simp)) ?_
        try simp only [Act.put, List.getElem_toArray, List.getElem_cons_succ, List.getElem_cons_zero, List.setIfInBounds_toArray, List.set_cons_zero, List.set_cons_succ]
        refine spec_d rfl (fun x _ => gives_run (by go_simp)) ?_
        try simp only [Act.put, List.getElem_toArray, List.getElem_cons_succ, List.getElem_cons_zero, List.setIfInBounds_toArray, List.set_cons_zero, List.set_cons_succ]
        refine spec_d rfl (fun z _ => gives_det (by go_simp) (HNR.out z)) ?_
        try simp only [Act.put, List.getElem_toArray, List.getElem_cons_succ, List.getElem_cons_zero, List.setIfInBounds_toArray, List.set_cons_zero, List.set_cons_succ]
        refine spec_end (fun z hz => ?_)
        clear hz
        refine wpAny_done (by kernel_rfl) ?_ _
        have HB3 := Lib.hid (HB2.out.trans ((hd2.trans z.below).mono HB2.out.size))
        clear K0 K1 K2 K3 HNR hd2
        generalize z.world = w3 at HB3 ⊢
        clear z
        cases p with
        | true =>
          have HE2 : Hid (19 = E) := Lib.hid (by rw [← HR'.out, if_neg (by rw [HQ.out]; simp), if_pos HP.out])
          go_wp2
          go_ret
          exact ⟨by rw [← HE2.out]; rfl, HB3.out⟩
        | false =>
          have HR2 : Hid (chkA md (ls.take (k + 1)) (ls.drop (k + 1)) = E) := Lib.hid (by rw [← HR'.out, if_neg (by rw [HQ.out]; simp), if_neg (by rw [HP.out]; simp)])
          have HG2 := Lib.hid (good_take HG.out HX.out HQ.out HP.out)
          go_wp2
          go_roundw
          case rel => exact ⟨k + 1, by omega, by go_num, HR2, HG2, HB3.out⟩
          case measure => simp [intOf]; omega
    · have hke : n = k := by omega
      subst hke
      have HE2 : Hid (0 = E) := Lib.hid (by rw [← HR.out, List.drop_of_length_le (by rw [HW.out.len]; exact Nat.le_refl _)]; rfl)
      clear hbel
      go_wp2
      go_ret
      exact ⟨by rw [← HE2.out]; rfl, HBEL.out⟩

theorem fitA_len (md : Int) : ∀ (r a : List Slp), (fitA md a r).length ≤ a.length + r.length
  | [], a => by simp [fitA]
  | x :: r, a => by
    unfold fitA
    split
    · have := fitA_len md r (a ++ [x]); simp at this ⊢; omega
    · have := fitA_len md r a; simp; omega
set_option maxRecDepth 100000 in
set_option maxHeartbeats 2000000 in
theorem rfit_any (md : Int) (A : Option Addr) (n c : Nat) (ls : List Slp) (w : World) (hW : SlsAt w A n ls) (hn : n ≤ 900) :
    Calls Try.prog 13 #[.slice A n c, .int .i64 md] w fun e w' => ∃ v, e = .returned v ∧ Hid (w'.ownsRow w.heap.size TRS 4 v (fitA md [] ls).length (slC (fitA md [] ls))) ∧ Hid (Below w.heap.size w w') := by
  obtain ⟨i0, hi, hz0, hz1, hz2⟩ := info_parts info_rs
  have HW := Lib.hid hW
  obtain ⟨E, HE⟩ : ∃ E, Hid (fitA md [] ls = E) := ⟨_, Lib.hid rfl⟩
  rw [HE.out]
  have O0 : Hid (w.ownsRow w.heap.size TRS 4 (.slice none 0 0) 0 []) := Lib.hid ⟨rfl, .inl ⟨rfl, rfl⟩⟩
  clear hW
  go_enter Try.func13, Try.ntmps13
  go_wp2_with fail
  go_loopw [5, 6] (fun v i wx => ∃ (k : Nat) (a : List Slp), k ≤ n ∧ i = .int .i64 k ∧ Hid (fitA md a (ls.drop k) = E) ∧ Hid (Good md a ∧ a.length ≤ k) ∧ Hid (wx.ownsRow w.heap.size TRS 4 v a.length (slC a)) ∧ Below w.heap.size w wx) (fun _ i _ => n - (intOf i).toNat)
  case atStart => exact ⟨0, [], by omega, rfl, Lib.hid (by simpa using HE.out), Lib.hid ⟨Good.nil md, by simp⟩, Lib.hid O0.out, Below.refl _ _⟩
  case round =>
    obtain ⟨k, a, hk, rfl, HR, HG, HOW, hbel⟩ := hrel
    have HBEL := Lib.hid hbel
    obtain ⟨va, na, cva, rfl, hnc, hsl⟩ : ∃ va na cva, u5 = .slice va na cva ∧ Hid (na = a.length) ∧ Hid (SlsAt wr va na a) := by
      obtain ⟨va, cva, e, h1, h2⟩ := sls_own HOW.out rfl
      exact ⟨va, a.length, cva, e, Lib.hid rfl, Lib.hid h2⟩
    by_cases hlt : k < n
    · have hki : (k : Int) < (n : Int) := by omega
      have hkl : k < ls.length := by rw [HW.out.len]; exact hlt
      obtain ⟨x, hx⟩ : ∃ x, ls[k]? = some x := ⟨_, List.getElem?_eq_getElem hkl⟩
      have HX := Lib.hid hx
      have HR' : Hid ((if (mayB x md && !nearL a x) = true then fitA md (a ++ [x]) (ls.drop (k + 1)) else fitA md a (ls.drop (k + 1))) = E) := Lib.hid (by
        have := HR.out
        rw [drop_next hx] at this
        exact this)
      have HWk := Lib.hid (HW.out.kept hbel)
      obtain ⟨b, off, rfl, hb, k0, k1, k2, k3⟩ := HWk.out.four hlt hx
      have HMY := Lib.hid (fun W => rmay_any x md W)
      obtain ⟨q, HQ⟩ : ∃ q, Hid (mayB x md = q) := ⟨_, Lib.hid rfl⟩
      rw [HQ.out] at HMY
      clear hx hkl hb hbel
      go_wp2_with fail
      refine (HMY.out _).mono ?_
      rintro e w2 ⟨rfl, hb2⟩
      clear k0 k1 k2 k3
      have HB2 := Lib.hid (HBEL.out.trans (hb2.mono HBEL.out.size))
      have HO2 := Lib.hid (own_kept HOW.out hb2)
      cases q with
      | false =>
        have HE2 : Hid (fitA md a (ls.drop (k + 1)) = E) := Lib.hid (by rw [← HR'.out, if_neg (by rw [HQ.out]; simp)])
        have HGA : Hid (Good md a ∧ a.length ≤ k + 1) := Lib.hid ⟨HG.out.1, by have := HG.out.2; omega⟩
        clear hb2
        go_wp2
        go_roundw
        case rel => exact ⟨k + 1, a, by omega, by go_num, HE2, HGA, HO2, HB2.out⟩
        case measure => simp [intOf]; omega
      | true =>
        have HW2 := Lib.hid (HWk.out.kept hb2)
        have HSA := Lib.hid (hsl.out.kept hb2)
        have HNR : Hid (Calls Try.prog 34 #[.slice va na cva, .agg x.cells] w2 fun e w' => e = .returned (.bool (nearL a x)) ∧ Below w2.heap.size w2 w') := Lib.hid (
          rnear_any va na cva a x w2 HSA.out (by have := HG.out.2; have := hnc.out; omega) (fun z hz => may_t (HG.out.1.1 z hz)) (may_t HQ.out))
        obtain ⟨b', off', e', hb', k0, k1, k2, k3⟩ := HW2.out.four hlt HX.out
        obtain ⟨rfl, rfl⟩ : b' = b ∧ off' = off := by
          injection e' with e'
          injection e' with e1 e2 _
          exact ⟨e1.symm, e2.symm⟩
        obtain ⟨p, HP⟩ : ∃ p, Hid (nearL a x = p) := ⟨_, Lib.hid rfl⟩
        rw [HP.out] at HNR
        clear hb2 e' hb' hsl
        go_wp2_with fail
        refine HNR.out.mono ?_
        rintro e w3 ⟨rfl, hb3⟩
        have HB3 := Lib.hid (HB2.out.trans (hb3.mono HB2.out.size))
        have HO3 := Lib.hid (own_kept HO2.out hb3)
        have HW3 := Lib.hid (HW2.out.kept hb3)
        clear k0 k1 k2 k3 HNR hb3
        cases p with
        | true =>
          have HE2 : Hid (fitA md a (ls.drop (k + 1)) = E) := Lib.hid (by rw [← HR'.out, if_neg (by rw [HQ.out, HP.out]; simp)])
          have HGA : Hid (Good md a ∧ a.length ≤ k + 1) := Lib.hid ⟨HG.out.1, by have := HG.out.2; omega⟩
          go_wp2
          go_roundw
          case rel => exact ⟨k + 1, a, by omega, by go_num, HE2, HGA, HO3, HB3.out⟩
          case measure => simp [intOf]; omega
        | false =>
          have HE2 : Hid (fitA md (a ++ [x]) (ls.drop (k + 1)) = E) := Lib.hid (by rw [← HR'.out, if_pos (by rw [HQ.out, HP.out]; rfl)])
          have HGA : Hid (Good md (a ++ [x]) ∧ (a ++ [x]).length ≤ k + 1) := Lib.hid ⟨HG.out.1.snoc HQ.out HP.out, by have := HG.out.2; simp; omega⟩
          obtain ⟨b2, off2, e2, _, k0, k1, k2, k3⟩ := HW3.out.four hlt HX.out
          obtain ⟨rfl, rfl⟩ : b2 = b' ∧ off2 = off' := by
            injection e2 with e2
            injection e2 with e3 e4 _
            exact ⟨e3.symm, e4.symm⟩
          have HNA : Hid (na ≤ 900) := Lib.hid (by have := HG.out.2; have := hnc.out; omega)
          have HO3' : Hid (w3.ownsRow w.heap.size TRS 4 (.slice va na cva) na (slC a)) := Lib.hid (by rw [hnc.out]; have := HO3.out; rwa [hnc.out] at this)
          clear e2
          go_wp2_with (at_builtin; refine pushS _ rfl (.tmp 28) (.tmp 33) 29 rfl w.heap.size TRS i0 (.agg #[.int .i64 0, .bool false, .int .i64 0, .int .i64 0]) 4 32 Try.underlying29 hi hz0 hz1 hz2 rfl (by decide) _ _ _ rfl (HO3'.out.alloc _) ⟨w3.heap.size, 0, none⟩ 1 1 (slL x) rfl rfl (cell_new w3 (slL x) TRS) (one_slL x) (by have := HNA.out; unfold maxLen; omega) (by have := HNA.out; omega) (by have := HB3.out.size; simp; omega) ?_; intro v5 w5 O5 B5 G5 K5)
          have HB5 : Hid (Below w.heap.size w w5) := Lib.hid ((HB3.out.alloc HB3.out.size _).trans B5.out)
          have HO5 : Hid (w5.ownsRow w.heap.size TRS 4 v5 (a ++ [x]).length (slC (a ++ [x]))) := Lib.hid (by rw [slC_snoc, List.length_append, List.length_singleton, ← hnc.out]; exact O5.out)
          clear k0 k1 k2 k3 O5 B5 G5 K5
          go_wp2
          go_roundw
          case rel => exact ⟨k + 1, a ++ [x], by omega, by go_num, HE2, HGA, HO5, HB5.out⟩
          case measure => simp [intOf]; omega
    · have hke : n = k := by omega
      subst hke
      have HE2 : Hid (a = E) := Lib.hid (by rw [← HR.out, List.drop_of_length_le (by rw [HW.out.len]; exact Nat.le_refl _)]; rfl)
      have HO9 : Hid (wr.ownsRow w.heap.size TRS 4 (.slice va na cva) E.length (slC E)) := Lib.hid (by rw [← HE2.out]; exact HOW.out)
      clear hbel
      go_wp2
      go_ret
      exact ⟨_, rfl, HO9, HBEL⟩
end Go.Proofs.Ytejhjpdcodloaaa.Ly21
