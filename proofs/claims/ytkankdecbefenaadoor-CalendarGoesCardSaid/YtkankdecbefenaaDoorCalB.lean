/- Package calendar's At, Next, Begins; no condition but sizes. -/
import Derived.RegionTactic
import Derived.IntWalk
import Derived.Test.YtkankdecbefenaaDoorCalA
namespace Go.Proofs.YtkankdecbefenaaDoor.Ly7
open Go.ChangeShapes Go.WideShapes Go.ChangeAt Go.RowKit Base
set_option linter.unusedVariables false
set_option linter.unusedSimpArgs false

/-- The slots that are told, and how many ticks: none and 0 of what may not be. -/
def Frm (e ver : Int) (A0 : Option Addr) (n0 c0 : Nat) (A1 : Option Addr) (n1 c1 : Nat) (ws0 ws1 : List Wd) (ss : List Sl) (T : Int) : Prop :=
  (e = 0 ∧ ∃ (k : Nat) (A : Option Addr) (n c : Nat) (ws : List Wd), ver = (k : Int) ∧ Ver k A0 n0 c0 A1 n1 c1 ws0 ws1 A n c ws ∧ ss = viewL k (-1) ws ∧ T = endS ws (leadI k) + 120) ∨ ((e ≠ 0 ∨ ver < 0 ∨ 2 ≤ ver) ∧ ss = [] ∧ T = 0)
/-- What they are like. -/
structure Sls (ss : List Sl) (T : Int) : Prop where
  ch : Chain ss 0
  sum : sumS ss = T
  bd : ∀ z ∈ ss, 0 ≤ z.l ∧ z.l ≤ 20000
  len : ss.length ≤ 902
  big : (ss = [] ∧ T = 0) ∨ (2 ≤ ss.length ∧ 320 ≤ T)
  top : T ≤ 20000000
  last : T ≠ 0 → ∃ init last, ss = init ++ [last] ∧ 0 < last.l
theorem frm_sls {f : Wd → Int} {md : Int} {A0 : Option Addr} {n0 c0 : Nat} {A1 : Option Addr} {n1 c1 : Nat} {ws0 ws1 : List Wd} {v j e ver T : Int} {ss : List Sl} {w : World} (h : Sd f md A0 n0 c0 A1 n1 c1 ws0 ws1 v j e w) (hF : Frm e ver A0 n0 c0 A1 n1 c1 ws0 ws1 ss T) : Sls ss T := by
  rcases hF with ⟨_, k, A, n, c, ws, _, hv, rfl, rfl⟩ | ⟨_, rfl, rfl⟩
  · obtain ⟨h1, h2, _⟩ := h.ver hv
    have hk : k < 2 := by rcases hv with ⟨h, _⟩ | ⟨h, _⟩ <;> omega
    have hl := h1.len
    have he := endS_bd ws (leadI k)
    have hv2 : 2 ≤ (viewL k (-1) ws).length := by unfold viewL; simp
    have hv3 := view_len k (-1) ws
    have hld : leadI k = 200 + 40 * (k : Int) := rfl
    exact ⟨chain_view k (-1) ws, view_sum k (-1) ws, fun z hz => view_bd k hk (-1) ws z hz, by omega, .inr ⟨hv2, by omega⟩, by omega, fun _ => ⟨_, slLast (endS ws (leadI k)), rfl, by unfold slLast; simp⟩⟩
  · exact ⟨trivial, rfl, fun z hz => (by cases hz), Nat.zero_le _, .inl ⟨rfl, rfl⟩, by omega, fun h => absurd rfl h⟩
theorem slots_any (f : Wd → Int) (md : Int) (A0 : Option Addr) (n0 c0 : Nat) (A1 : Option Addr) (n1 c1 : Nat) (ws0 ws1 : List Wd) (v j e : Int) (w : World) (h : Sd f md A0 n0 c0 A1 n1 c1 ws0 ws1 v j e w) (ver : Int) (ss : List Sl) (T : Int) (hF : Frm e ver A0 n0 c0 A1 n1 c1 ws0 ws1 ss T) :
    Calls Tryd.prog 22 #[.agg #[.int .i64 md, .slice A0 n0 c0, .slice A1 n1 c1], .int .i64 ver] w fun r w' => ∃ A c, r = .returned (.tuple #[.slice A ss.length c, .int .i64 T]) ∧ Hid (SlAt w' A ss.length ss) ∧ Below w.heap.size w w' := by
  rcases hF with ⟨he, k, A, n, c, ws, rfl, hv, rfl, rfl⟩ | ⟨hb, rfl, rfl⟩
  · refine (slots_yes f md A0 n0 c0 A1 n1 c1 ws0 ws1 v j e w h he k A n c ws hv).mono ?_
    rintro r w' ⟨V, rfl, ho, hb⟩
    obtain ⟨A', c', rfl, hs⟩ := slots_own ho.out rfl
    exact ⟨A', c', rfl, Lib.hid hs, hb.out⟩
  · refine (slots_no f md A0 n0 c0 A1 n1 c1 ws0 ws1 v j e w h ver hb).mono ?_
    rintro r w' ⟨rfl, hb⟩
    exact ⟨none, 0, rfl, Lib.hid ⟨rfl, fun h => absurd h (by simp)⟩, hb⟩
/-- Where each slot begins, and ends. -/
theorem sls_at {ss : List Sl} {T : Int} (h : Sls ss T) {k : Nat} {z : Sl} (hz : ss[k]? = some z) : 0 ≤ z.s ∧ z.s + z.l ≤ T ∧ (∀ y, ss[k + 1]? = some y → y.s = z.s + z.l) ∧ (k + 1 = ss.length → z.s + z.l = T) := by
  have h1 := chain_at ss 0 k z h.ch hz
  have hm : z ∈ ss := List.mem_of_getElem? hz
  have hzb := h.bd z hm
  have hk : k < ss.length := (List.getElem?_eq_some_iff.1 hz).1
  have e1 := sum_snoc hz
  have hs0 := sum_bd (ss.take k) (fun y hy => h.bd y (List.mem_of_mem_take hy))
  have hs2 := sum_bd (ss.drop (k + 1)) (fun y hy => h.bd y (List.mem_of_mem_drop hy))
  have e2 : sumS (ss.take (k + 1)) + sumS (ss.drop (k + 1)) = T := by rw [← sumS_app, List.take_append_drop]; exact h.sum
  refine ⟨by omega, by omega, fun y hy => ?_, fun he => ?_⟩
  · have h2 := chain_at ss 0 (k + 1) y h.ch hy
    omega
  · rw [List.drop_of_length_le (by omega)] at e2
    simp only [sumS] at e2
    omega
/-- In which slot a tick is, and where in it. -/
def AtR (ss : List Sl) (T tick k p : Int) : Prop :=
  ((ss = [] ∨ tick < 0 ∨ 1099511627776 < tick) ∧ k = -1 ∧ p = 0) ∨ (ss ≠ [] ∧ 0 ≤ tick ∧ tick ≤ 1099511627776 ∧ ∃ (i : Nat) (z : Sl), k = (i : Int) ∧ ss[i]? = some z ∧ z.s ≤ tick % T ∧ tick % T < z.s + z.l ∧ p = tick % T - z.s)
set_option maxRecDepth 100000 in
set_option maxHeartbeats 2000000 in
theorem at_any (f : Wd → Int) (md : Int) (A0 : Option Addr) (n0 c0 : Nat) (A1 : Option Addr) (n1 c1 : Nat) (ws0 ws1 : List Wd) (v j e : Int) (w : World) (h : Sd f md A0 n0 c0 A1 n1 c1 ws0 ws1 v j e w) (ver : Int) (ss : List Sl) (T : Int) (tick : Int) (hF : Frm e ver A0 n0 c0 A1 n1 c1 ws0 ws1 ss T) :
    Calls Tryd.prog 7 #[.agg #[.int .i64 md, .slice A0 n0 c0, .slice A1 n1 c1], .int .i64 ver, .int .i64 tick] w fun r w' => ∃ k p, r = .returned (.tuple #[.int .i64 k, .int .i64 p]) ∧ AtR ss T tick k p ∧ Below w.heap.size w w' := by
  have HSD := Lib.hid h
  have hfc := fld_code
  obtain ⟨gb, HGB⟩ : ∃ gb, Hid (w.heap.size = gb) := ⟨_, Lib.hid rfl⟩
  obtain ⟨W1, HW1⟩ : ∃ W1, Hid (W1 = w.alloc (.cells #[.int .i64 md, .slice A0 n0 c0, .slice A1 n1 c1] TSd)) := ⟨_, Lib.hid rfl⟩
  have HB1 : Hid (Below w.heap.size w W1) := Lib.hid (by rw [HW1.out]; exact bel1 _ _)
  have HO1 : Hid (Obj1 W1 gb TSd #[.int .i64 md, .slice A0 n0 c0, .slice A1 n1 c1]) := Lib.hid (by rw [HW1.out, ← HGB.out]; exact Obj1.new _ _ _)
  have d0 : W1.cell? ⟨gb, 0, none⟩ = some (.int .i64 md) := HO1.out.cell 0
  have d1 : W1.cell? ⟨gb, 1, none⟩ = some (.slice A0 n0 c0) := HO1.out.cell 1
  have d2 : W1.cell? ⟨gb, 2, none⟩ = some (.slice A1 n1 c1) := HO1.out.cell 2
  clear h
  have HFM := Lib.hid hF
  have HSL := Lib.hid (frm_sls HSD.out hF)
  clear hF
  have HCS := Lib.hid (slots_any f md A0 n0 c0 A1 n1 c1 ws0 ws1 v j e W1 (HSD.out.kept HB1.out) ver ss T HFM.out)
  obtain ⟨N, HN⟩ : ∃ N, Hid (ss.length = N) := ⟨_, Lib.hid rfl⟩
  rw [HN.out] at HCS
  go_enter Tryd.func7, Tryd.ntmps7
  go_upto_region 1 with (fail)
  rw [← HW1.out, HGB.out]
  clear HW1 HGB
  go_wp2_with fail
  refine HCS.out.mono ?_
  rintro r w2 ⟨A, c, rfl, HS2, hb2⟩
  have HB2 := Lib.hid (HB1.out.trans (hb2.mono HB1.out.size))
  clear hb2 d0 d1 d2 HCS
  by_cases hs0 : ss = []
  · have hT : T = 0 := by
      rcases HSL.out.big with h | h
      · exact h.2
      · rw [hs0] at h; simp at h
    subst hT
    go_wp2
    go_ret2
    exact ⟨_, _, rfl, .inl ⟨.inl hs0, rfl, rfl⟩, HB2.out⟩
  have hT : 320 ≤ T ∧ T ≤ 20000000 := by
    have h2 := HSL.out.top
    rcases HSL.out.big with h | h
    · exact absurd h.1 hs0
    · omega
  have hT0 : (T == 0) = false := by
    have : ¬ T = 0 := by omega
    simpa using this
  have HS0 := Lib.hid hs0
  have HT := Lib.hid hT
  clear hs0 hT
  by_cases h1 : tick < 0
  · go_wp2
    go_ret2
    exact ⟨_, _, rfl, .inl ⟨.inr (.inl h1), rfl, rfl⟩, HB2.out⟩
  by_cases h2 : 1099511627776 < tick
  · go_wp2
    go_ret2
    exact ⟨_, _, rfl, .inl ⟨.inr (.inr h2), rfl, rfl⟩, HB2.out⟩
  have HTK : Hid (0 ≤ tick ∧ tick ≤ 1099511627776) := Lib.hid (by omega)
  obtain ⟨M, HM⟩ : ∃ M, Hid (tick % T = M) := ⟨_, Lib.hid rfl⟩
  have hTn : ¬ T = 0 := by have := HT.out; omega
  have hmt : tick.tmod T = M := by rw [Int.tmod_eq_emod_of_nonneg HTK.out.1]; exact HM.out
  have HMB : Hid (0 ≤ M ∧ M < T) := Lib.hid (by rw [← HM.out]; have := HT.out; exact ⟨Int.emod_nonneg _ (by omega), Int.emod_lt_of_pos _ (by omega)⟩)
  have hN0 : 0 < N := by
    rw [← HN.out]
    exact List.length_pos_iff.2 HS0.out
  have hN9 : N ≤ 902 := by rw [← HN.out]; exact HSL.out.len
  go_wp2_with fail
  clear h1 h2 hT0 hmt hTn
  go_loopw [11] (fun i wx => ∃ k : Nat, k < N ∧ i = .int .i64 k ∧ Hid (∀ z, ss[k]? = some z → z.s ≤ M) ∧ w2 = wx) (fun i _ => N - (intOf i).toNat)
  case atStart =>
    refine ⟨0, hN0, rfl, Lib.hid (fun z hz => ?_), rfl⟩
    have h := chain_at ss 0 0 z HSL.out.ch hz
    have := HMB.out.1
    simp [sumS] at h
    omega
  case round =>
    obtain ⟨k, hk, rfl, HZ, rfl⟩ := hrel
    have hk0 : (0 : Int) ≤ (k : Int) := by omega
    have e1 : IntKind.i64.wrap ((k : Int) + 1) = (k : Int) + 1 := IntWalk.i64_in _ (by omega)
    obtain ⟨z, hz⟩ : ∃ z, ss[k]? = some z := ⟨_, List.getElem?_eq_getElem (by rw [HN.out]; exact hk)⟩
    have HZK := Lib.hid hz
    have hsz := sls_at HSL.out hz
    have hzm := HZ.out z hz
    have HZP : Hid (0 ≤ z.s ∧ z.s ≤ M) := Lib.hid ⟨hsz.1, hzm⟩
    have ew : IntKind.i64.wrap (M - z.s) = M - z.s := IntWalk.i64_in _ (by have h1 := HMB.out; have h2 := HZP.out; have h3 := HT.out; omega)
    obtain ⟨b, off, rfl, hb, k0, k1, k2, k3, k4, k5, k6, k7⟩ := HS2.out.eight hk hz
    have K1 : ∀ x : Kin w2.drew, x.world.cell? ⟨b, off + k * 8 + 1, none⟩ = some (.int .i64 z.s) := fun x => Kin.at (w := w2.drew) k1 x
    by_cases hn : k + 1 < N
    · have hni : (k : Int) + 1 < (N : Int) := by omega
      obtain ⟨y, hy⟩ : ∃ y, ss[k + 1]? = some y := ⟨_, List.getElem?_eq_getElem (by rw [HN.out]; exact hn)⟩
      obtain ⟨b', off', e', hb', j0, j1, j2, j3, j4, j5, j6, j7⟩ := HS2.out.eight hn hy
      injection e' with e'
      injection e' with ea eb _
      subst ea
      subst eb
      have HYS : Hid (y.s = z.s + z.l) := Lib.hid (hsz.2.2.1 y hy)
      have HYK := Lib.hid hy
      have ht : ((k : Int) + 1).toNat = k + 1 := by omega
      have hn0 : (0 : Int) ≤ (k : Int) + 1 := by omega
      clear hz hsz hzm hb hb' hy k0 k2 k3 k4 k5 k6 k7 j0 j2 j3 j4 j5 j6 j7
      by_cases hm : y.s ≤ M
      · go_wp2
        go_roundw
        case rel =>
          refine ⟨k + 1, hn, by go_num, Lib.hid (fun q hq => ?_), by first | rfl | trivial⟩
          rw [HYK.out] at hq
          injection hq with hq
          subst hq
          exact hm
        case measure => simp [intOf]; omega
      · go_upto_region 8 with (fail)
        refine wp_region_specL 10 [.d (.int .i64 (k : Int)), .d (.int .i64 M), .d (.slice (some ⟨b, off, none⟩) N c), .d (.int .i64 (k : Int)), .d (.pointer (some ⟨b, off + k * 8, none⟩)), .d (.pointer (some ⟨b, off + k * 8 + 1, none⟩)), .d (.int .i64 z.s), .d (.int .i64 (M - z.s)), .d (.int .i64 (k : Int)), .d (.int .i64 (M - z.s))] (by kernel_rfl) (by kernel_rfl) ?_
        refine spec_d rfl (fun x _ => gives_run (by go_simp)) ?_
        try simp only [Act.put, List.getElem_toArray, List.getElem_cons_succ, List.getElem_cons_zero, List.setIfInBounds_toArray, List.set_cons_zero, List.set_cons_succ]
        refine spec_d rfl (fun x _ => gives_run (by go_simp)) ?_
        try simp only [Act.put, List.getElem_toArray, List.getElem_cons_succ, List.getElem_cons_zero, List.setIfInBounds_toArray, List.set_cons_zero, List.set_cons_succ]
        refine spec_d rfl (fun x _ => gives_run (by go_simp)) ?_
        try simp only [Act.put, List.getElem_toArray, List.getElem_cons_succ, List.getElem_cons_zero, List.setIfInBounds_toArray, List.set_cons_zero, List.set_cons_succ]
        refine spec_d rfl (fun x _ => gives_run (by go_simp)) ?_
        try simp only [Act.put, List.getElem_toArray, List.getElem_cons_succ, List.getElem_cons_zero, List.setIfInBounds_toArray, List.set_cons_zero, List.set_cons_succ]
        refine spec_d rfl (fun x _ => gives_run (by go_simp)) ?_
        try simp only [Act.put, List.getElem_toArray, List.getElem_cons_succ, List.getElem_cons_zero, List.setIfInBounds_toArray, List.set_cons_zero, List.set_cons_succ]
        refine spec_d rfl (fun x _ => gives_run (by go_simp)) ?_
        try simp only [Act.put, List.getElem_toArray, List.getElem_cons_succ, List.getElem_cons_zero, List.setIfInBounds_toArray, List.set_cons_zero, List.set_cons_succ]
        refine spec_d rfl (fun x _ => gives_run (by go_simp)) ?_
        try simp only [Act.put, List.getElem_toArray, List.getElem_cons_succ, List.getElem_cons_zero, List.setIfInBounds_toArray, List.set_cons_zero, List.set_cons_succ]
        refine spec_d rfl (fun x _ => gives_run (by go_simp)) ?_
        try simp only [Act.put, List.getElem_toArray, List.getElem_cons_succ, List.getElem_cons_zero, List.setIfInBounds_toArray, List.set_cons_zero, List.set_cons_succ]
        refine spec_d rfl (fun x _ => gives_run (by go_simp)) ?_
        try simp only [Act.put, List.getElem_toArray, List.getElem_cons_succ, List.getElem_cons_zero, List.setIfInBounds_toArray, List.set_cons_zero, List.set_cons_succ]
        refine spec_d rfl (fun x _ => gives_run (by go_simp)) ?_
        try simp only [Act.put, List.getElem_toArray, List.getElem_cons_succ, List.getElem_cons_zero, List.setIfInBounds_toArray, List.set_cons_zero, List.set_cons_succ]
        refine spec_end (fun x hx => ?_)
        clear hx
        refine wpAny_done (by kernel_rfl) ?_ _
        have HB3 : Hid (Below w.heap.size w x.world) := Lib.hid (HB2.out.trans (((bel_drew w2).trans x.below).mono HB2.out.size))
        clear K1 k1 j1
        generalize x.world = w3 at HB3 ⊢
        clear x
        go_wp2
        go_ret2
        refine ⟨_, _, rfl, .inr ⟨HS0.out, HTK.out.1, HTK.out.2, k, z, rfl, HZK.out, ?_, ?_, ?_⟩, HB3.out⟩
        · rw [HM.out]; exact HZP.out.2
        · rw [HM.out]; have := HYS.out; omega
        · rw [HM.out]
    · have hni : ¬ (k : Int) + 1 < (N : Int) := by omega
      have HEN : Hid (z.s + z.l = T) := Lib.hid (hsz.2.2.2 (by rw [HN.out]; omega))
      clear hz hsz hzm hb k0 k2 k3 k4 k5 k6 k7
      go_upto_region 8 with (fail)
      refine wp_region_specL 10 [.d (.int .i64 (k : Int)), .d (.int .i64 M), .d (.slice (some ⟨b, off, none⟩) N c), .d (.int .i64 (k : Int)), .d (.pointer (some ⟨b, off + k * 8, none⟩)), .d (.pointer (some ⟨b, off + k * 8 + 1, none⟩)), .d (.int .i64 z.s), .d (.int .i64 (M - z.s)), .d (.int .i64 (k : Int)), .d (.int .i64 (M - z.s))] (by kernel_rfl) (by kernel_rfl) ?_
      refine spec_d rfl (fun x _ => gives_run (by go_simp)) ?_
      try simp only [Act.put, List.getElem_toArray, List.getElem_cons_succ, List.getElem_cons_zero, List.setIfInBounds_toArray, List.set_cons_zero, List.set_cons_succ]
      refine spec_d rfl (fun x _ => gives_run (by go_simp)) ?_
      try simp only [Act.put, List.getElem_toArray, List.getElem_cons_succ, List.getElem_cons_zero, List.setIfInBounds_toArray, List.set_cons_zero, List.set_cons_succ]
      refine spec_d rfl (fun x _ => gives_run (by go_simp)) ?_
      try simp only [Act.put, List.getElem_toArray, List.getElem_cons_succ, List.getElem_cons_zero, List.setIfInBounds_toArray, List.set_cons_zero, List.set_cons_succ]
      refine spec_d rfl (fun x _ => gives_run (by go_simp)) ?_
      try simp only [Act.put, List.getElem_toArray, List.getElem_cons_succ, List.getElem_cons_zero, List.setIfInBounds_toArray, List.set_cons_zero, List.set_cons_succ]
      refine spec_d rfl (fun x _ => gives_run (by go_simp)) ?_
      try simp only [Act.put, List.getElem_toArray, List.getElem_cons_succ, List.getElem_cons_zero, List.setIfInBounds_toArray, List.set_cons_zero, List.set_cons_succ]
      refine spec_d rfl (fun x _ => gives_run (by go_simp)) ?_
      try simp only [Act.put, List.getElem_toArray, List.getElem_cons_succ, List.getElem_cons_zero, List.setIfInBounds_toArray, List.set_cons_zero, List.set_cons_succ]
      refine spec_d rfl (fun x _ => gives_run (by go_simp)) ?_
      try simp only [Act.put, List.getElem_toArray, List.getElem_cons_succ, List.getElem_cons_zero, List.setIfInBounds_toArray, List.set_cons_zero, List.set_cons_succ]
      refine spec_d rfl (fun x _ => gives_run (by go_simp)) ?_
      try simp only [Act.put, List.getElem_toArray, List.getElem_cons_succ, List.getElem_cons_zero, List.setIfInBounds_toArray, List.set_cons_zero, List.set_cons_succ]
      refine spec_d rfl (fun x _ => gives_run (by go_simp)) ?_
      try simp only [Act.put, List.getElem_toArray, List.getElem_cons_succ, List.getElem_cons_zero, List.setIfInBounds_toArray, List.set_cons_zero, List.set_cons_succ]
      refine spec_d rfl (fun x _ => gives_run (by go_simp)) ?_
      try simp only [Act.put, List.getElem_toArray, List.getElem_cons_succ, List.getElem_cons_zero, List.setIfInBounds_toArray, List.set_cons_zero, List.set_cons_succ]
      refine spec_end (fun x hx => ?_)
      clear hx
      refine wpAny_done (by kernel_rfl) ?_ _
      have HB3 : Hid (Below w.heap.size w x.world) := Lib.hid (HB2.out.trans (((bel_drew w2).trans x.below).mono HB2.out.size))
      clear K1 k1
      generalize x.world = w3 at HB3 ⊢
      clear x
      go_wp2
      go_ret2
      refine ⟨_, _, rfl, .inr ⟨HS0.out, HTK.out.1, HTK.out.2, k, z, rfl, HZK.out, ?_, ?_, ?_⟩, HB3.out⟩
      · rw [HM.out]; exact HZP.out.2
      · rw [HM.out]; have h1 := HEN.out; have h2 := HMB.out; omega
      · rw [HM.out]
/-- When a slot begins next. -/
def nextF (ss : List Sl) (T slot tick : Int) : Int :=
  if slot < 0 ∨ (ss.length : Int) ≤ slot ∨ tick < 0 ∨ 1099511627776 < tick then -1
  else match ss[slot.toNat]? with
    | some z => if tick ≤ z.s then z.s else z.s + (tick - z.s + T - 1) / T * T
    | none => -1
/-- How often a slot begins. -/
def begF (ss : List Sl) (T slot ticks : Int) : Int :=
  if slot < 0 ∨ (ss.length : Int) ≤ slot ∨ ticks < 1 ∨ 1099511627776 < ticks then 0
  else match ss[slot.toNat]? with
    | some z => if ticks ≤ z.s then 0 else (ticks - 1 - z.s) / T + 1
    | none => 0
theorem next_num {a b T q m : Int} (hT : 320 ≤ T ∧ T ≤ 20000000) (ha : 0 ≤ a ∧ a ≤ 1099511627776) (hb : 0 ≤ b ∧ b < a) (hq : (a - b + T - 1) / T = q) (hm : q * T = m) : 0 ≤ q ∧ q ≤ 1099511627776 ∧ 0 ≤ m ∧ m ≤ 2199023255552 := by
  have h1 := Int.ediv_mul_le (a - b + T - 1) (show T ≠ 0 by omega)
  have h2 : 0 ≤ q := by rw [← hq]; exact Int.ediv_nonneg (by omega) (by omega)
  rw [hq, hm] at h1
  have h3 : q ≤ m := by rw [← hm]; have := Int.mul_le_mul_of_nonneg_left (show (1 : Int) ≤ T by omega) h2; omega
  have h4 : 0 ≤ m := by omega
  have h5 : q * 320 ≤ q * T := Int.mul_le_mul_of_nonneg_left hT.1 h2
  exact ⟨h2, by omega, h4, by omega⟩
set_option maxRecDepth 100000 in
set_option maxHeartbeats 2000000 in
theorem next_any (f : Wd → Int) (md : Int) (A0 : Option Addr) (n0 c0 : Nat) (A1 : Option Addr) (n1 c1 : Nat) (ws0 ws1 : List Wd) (v j e : Int) (w : World) (h : Sd f md A0 n0 c0 A1 n1 c1 ws0 ws1 v j e w) (ver : Int) (ss : List Sl) (T : Int) (slot tick : Int) (hF : Frm e ver A0 n0 c0 A1 n1 c1 ws0 ws1 ss T) :
    Calls Tryd.prog 8 #[.agg #[.int .i64 md, .slice A0 n0 c0, .slice A1 n1 c1], .int .i64 ver, .int .i64 slot, .int .i64 tick] w fun r w' => r = .returned (.int .i64 (nextF ss T slot tick)) ∧ Below w.heap.size w w' := by
  have HSD := Lib.hid h
  have hfc := fld_code
  obtain ⟨gb, HGB⟩ : ∃ gb, Hid (w.heap.size = gb) := ⟨_, Lib.hid rfl⟩
  obtain ⟨W1, HW1⟩ : ∃ W1, Hid (W1 = w.alloc (.cells #[.int .i64 md, .slice A0 n0 c0, .slice A1 n1 c1] TSd)) := ⟨_, Lib.hid rfl⟩
  have HB1 : Hid (Below w.heap.size w W1) := Lib.hid (by rw [HW1.out]; exact bel1 _ _)
  have HO1 : Hid (Obj1 W1 gb TSd #[.int .i64 md, .slice A0 n0 c0, .slice A1 n1 c1]) := Lib.hid (by rw [HW1.out, ← HGB.out]; exact Obj1.new _ _ _)
  have d0 : W1.cell? ⟨gb, 0, none⟩ = some (.int .i64 md) := HO1.out.cell 0
  have d1 : W1.cell? ⟨gb, 1, none⟩ = some (.slice A0 n0 c0) := HO1.out.cell 1
  have d2 : W1.cell? ⟨gb, 2, none⟩ = some (.slice A1 n1 c1) := HO1.out.cell 2
  clear h
  have HFM := Lib.hid hF
  have HSL := Lib.hid (frm_sls HSD.out hF)
  clear hF
  have HCS := Lib.hid (slots_any f md A0 n0 c0 A1 n1 c1 ws0 ws1 v j e W1 (HSD.out.kept HB1.out) ver ss T HFM.out)
  obtain ⟨N, HN⟩ : ∃ N, Hid (ss.length = N) := ⟨_, Lib.hid rfl⟩
  rw [HN.out] at HCS
  go_enter Tryd.func8, Tryd.ntmps8
  go_upto_region 1 with (fail)
  rw [← HW1.out, HGB.out]
  clear HW1 HGB
  go_wp2_with fail
  refine HCS.out.mono ?_
  rintro r w2 ⟨A, c, rfl, HS2, hb2⟩
  have HB2 := Lib.hid (HB1.out.trans (hb2.mono HB1.out.size))
  clear hb2 d0 d1 d2 HCS
  have HNI : Hid ((ss.length : Int) = (N : Int)) := Lib.hid (by rw [HN.out])
  by_cases a1 : slot < 0
  · go_wp2
    go_ret
    exact ⟨by unfold nextF; rw [if_pos (.inl a1)]; rfl, HB2.out⟩
  by_cases a2 : (N : Int) ≤ slot
  · go_wp2
    go_ret
    exact ⟨by unfold nextF; rw [if_pos (.inr (.inl (by rw [HNI.out]; exact a2)))]; rfl, HB2.out⟩
  obtain ⟨k, rfl⟩ : ∃ k : Nat, slot = (k : Int) := ⟨slot.toNat, by omega⟩
  have hk : k < N := by omega
  have hk0 : (0 : Int) ≤ (k : Int) := by omega
  have hki : (k : Int) < (N : Int) := by omega
  obtain ⟨z, hz⟩ : ∃ z, ss[k]? = some z := ⟨_, List.getElem?_eq_getElem (by rw [HN.out]; exact hk)⟩
  have hsz := sls_at HSL.out hz
  have hT : 320 ≤ T ∧ T ≤ 20000000 := by
    have h2 := HSL.out.top
    rcases HSL.out.big with h | h
    · rw [h.1] at hz; simp at hz
    · omega
  have HZB : Hid (0 ≤ z.s ∧ z.s ≤ 20000000) := Lib.hid (by have := HSL.out.bd z (List.mem_of_getElem? hz); omega)
  have HT := Lib.hid hT
  have HZK := Lib.hid hz
  obtain ⟨b, off, rfl, hb, k0, k1, k2, k3, k4, k5, k6, k7⟩ := HS2.out.eight hk hz
  clear hz hsz hT hb k0 k2 k3 k4 k5 k6 k7 a1 a2
  by_cases a3 : tick < 0
  · clear k1
    go_wp2
    go_ret
    exact ⟨by unfold nextF; rw [if_pos (.inr (.inr (.inl a3)))]; rfl, HB2.out⟩
  by_cases a4 : 1099511627776 < tick
  · clear k1
    go_wp2
    go_ret
    exact ⟨by unfold nextF; rw [if_pos (.inr (.inr (.inr a4)))]; rfl, HB2.out⟩
  have HnextF : Hid (nextF ss T (k : Int) tick = if tick ≤ z.s then z.s else z.s + (tick - z.s + T - 1) / T * T) := Lib.hid (by
    unfold nextF
    rw [if_neg (by have := HNI.out; omega), Int.toNat_natCast, HZK.out])
  by_cases a5 : tick ≤ z.s
  · go_wp2
    go_ret
    exact ⟨by rw [HnextF.out, if_pos a5]; rfl, HB2.out⟩
  have HA5 := Lib.hid a5
  obtain ⟨q, hq⟩ : ∃ q, (tick - z.s + T - 1) / T = q := ⟨_, rfl⟩
  obtain ⟨m, hm⟩ : ∃ m, q * T = m := ⟨_, rfl⟩
  have HQ := Lib.hid hq
  have HMM := Lib.hid hm
  have hnm := next_num HT.out (show 0 ≤ tick ∧ tick ≤ 1099511627776 by have := HZB.out; omega) (show 0 ≤ z.s ∧ z.s < tick by have := HZB.out; omega) hq hm
  have hTn : ¬ T = 0 := by have := HT.out; omega
  have hT0 : (T == 0) = false := by simpa using hTn
  have w1 : IntKind.i64.wrap (tick - z.s) = tick - z.s := IntWalk.i64_in _ (by have := HZB.out; omega)
  have w2' : IntKind.i64.wrap (tick - z.s + T) = tick - z.s + T := IntWalk.i64_in _ (by have := HZB.out; have := HT.out; omega)
  have w3 : IntKind.i64.wrap (tick - z.s + T - 1) = tick - z.s + T - 1 := IntWalk.i64_in _ (by have := HZB.out; have := HT.out; omega)
  have w4 : (tick - z.s + T - 1).tdiv T = q := by rw [Int.tdiv_eq_ediv_of_nonneg (by have := HZB.out; have := HT.out; omega)]; exact hq
  have w5 : wrap64 q = q := by unfold wrap64; omega
  have w6 : IntKind.i64.wrap (q * T) = m := by rw [hm]; exact IntWalk.i64_in _ (by omega)
  have w7 : IntKind.i64.wrap (z.s + m) = z.s + m := IntWalk.i64_in _ (by have := HZB.out; omega)
  clear hq hm hnm
  go_wp2
  go_ret
  exact ⟨by rw [HnextF.out, if_neg (show ¬ tick ≤ z.s by have := HA5.out; omega), HQ.out, HMM.out]; rfl, HB2.out⟩
set_option maxRecDepth 100000 in
set_option maxHeartbeats 2000000 in
theorem begins_any (f : Wd → Int) (md : Int) (A0 : Option Addr) (n0 c0 : Nat) (A1 : Option Addr) (n1 c1 : Nat) (ws0 ws1 : List Wd) (v j e : Int) (w : World) (h : Sd f md A0 n0 c0 A1 n1 c1 ws0 ws1 v j e w) (ver : Int) (ss : List Sl) (T : Int) (slot tick : Int) (hF : Frm e ver A0 n0 c0 A1 n1 c1 ws0 ws1 ss T) :
    Calls Tryd.prog 9 #[.agg #[.int .i64 md, .slice A0 n0 c0, .slice A1 n1 c1], .int .i64 ver, .int .i64 slot, .int .i64 tick] w fun r w' => r = .returned (.int .i64 (begF ss T slot tick)) ∧ Below w.heap.size w w' := by
  have HSD := Lib.hid h
  have hfc := fld_code
  obtain ⟨gb, HGB⟩ : ∃ gb, Hid (w.heap.size = gb) := ⟨_, Lib.hid rfl⟩
  obtain ⟨W1, HW1⟩ : ∃ W1, Hid (W1 = w.alloc (.cells #[.int .i64 md, .slice A0 n0 c0, .slice A1 n1 c1] TSd)) := ⟨_, Lib.hid rfl⟩
  have HB1 : Hid (Below w.heap.size w W1) := Lib.hid (by rw [HW1.out]; exact bel1 _ _)
  have HO1 : Hid (Obj1 W1 gb TSd #[.int .i64 md, .slice A0 n0 c0, .slice A1 n1 c1]) := Lib.hid (by rw [HW1.out, ← HGB.out]; exact Obj1.new _ _ _)
  have d0 : W1.cell? ⟨gb, 0, none⟩ = some (.int .i64 md) := HO1.out.cell 0
  have d1 : W1.cell? ⟨gb, 1, none⟩ = some (.slice A0 n0 c0) := HO1.out.cell 1
  have d2 : W1.cell? ⟨gb, 2, none⟩ = some (.slice A1 n1 c1) := HO1.out.cell 2
  clear h
  have HFM := Lib.hid hF
  have HSL := Lib.hid (frm_sls HSD.out hF)
  clear hF
  have HCS := Lib.hid (slots_any f md A0 n0 c0 A1 n1 c1 ws0 ws1 v j e W1 (HSD.out.kept HB1.out) ver ss T HFM.out)
  obtain ⟨N, HN⟩ : ∃ N, Hid (ss.length = N) := ⟨_, Lib.hid rfl⟩
  rw [HN.out] at HCS
  go_enter Tryd.func9, Tryd.ntmps9
  go_upto_region 1 with (fail)
  rw [← HW1.out, HGB.out]
  clear HW1 HGB
  go_wp2_with fail
  refine HCS.out.mono ?_
  rintro r w2 ⟨A, c, rfl, HS2, hb2⟩
  have HB2 := Lib.hid (HB1.out.trans (hb2.mono HB1.out.size))
  clear hb2 d0 d1 d2 HCS
  have HNI : Hid ((ss.length : Int) = (N : Int)) := Lib.hid (by rw [HN.out])
  by_cases a1 : slot < 0
  · go_wp2
    go_ret
    exact ⟨by unfold begF; rw [if_pos (.inl a1)]; rfl, HB2.out⟩
  by_cases a2 : (N : Int) ≤ slot
  · go_wp2
    go_ret
    exact ⟨by unfold begF; rw [if_pos (.inr (.inl (by rw [HNI.out]; exact a2)))]; rfl, HB2.out⟩
  obtain ⟨k, rfl⟩ : ∃ k : Nat, slot = (k : Int) := ⟨slot.toNat, by omega⟩
  have hk : k < N := by omega
  have hk0 : (0 : Int) ≤ (k : Int) := by omega
  have hki : (k : Int) < (N : Int) := by omega
  obtain ⟨z, hz⟩ : ∃ z, ss[k]? = some z := ⟨_, List.getElem?_eq_getElem (by rw [HN.out]; exact hk)⟩
  have hsz := sls_at HSL.out hz
  have hT : 320 ≤ T ∧ T ≤ 20000000 := by
    have h2 := HSL.out.top
    rcases HSL.out.big with h | h
    · rw [h.1] at hz; simp at hz
    · omega
  have HZB : Hid (0 ≤ z.s ∧ z.s ≤ 20000000) := Lib.hid (by have := HSL.out.bd z (List.mem_of_getElem? hz); omega)
  have HT := Lib.hid hT
  have HZK := Lib.hid hz
  obtain ⟨b, off, rfl, hb, k0, k1, k2, k3, k4, k5, k6, k7⟩ := HS2.out.eight hk hz
  clear hz hsz hT hb k0 k2 k3 k4 k5 k6 k7 a1 a2
  by_cases a3 : tick < 1
  · clear k1
    go_wp2
    go_ret
    exact ⟨by unfold begF; rw [if_pos (.inr (.inr (.inl a3)))]; rfl, HB2.out⟩
  by_cases a4 : 1099511627776 < tick
  · clear k1
    go_wp2
    go_ret
    exact ⟨by unfold begF; rw [if_pos (.inr (.inr (.inr a4)))]; rfl, HB2.out⟩
  have HbegF : Hid (begF ss T (k : Int) tick = if tick ≤ z.s then 0 else (tick - 1 - z.s) / T + 1) := Lib.hid (by
    unfold begF
    rw [if_neg (by have := HNI.out; omega), Int.toNat_natCast, HZK.out])
  by_cases a5 : tick ≤ z.s
  · go_wp2
    go_ret
    exact ⟨by rw [HbegF.out, if_pos a5]; rfl, HB2.out⟩
  have HA5 := Lib.hid a5
  obtain ⟨q, hq⟩ : ∃ q, (tick - 1 - z.s) / T = q := ⟨_, rfl⟩
  have HQ := Lib.hid hq
  have hqb : 0 ≤ q ∧ q ≤ 1099511627776 := by
    have h1 := Int.ediv_nonneg (show 0 ≤ tick - 1 - z.s by omega) (show 0 ≤ T by have := HT.out; omega)
    have h2 := Int.ediv_le_self T (show 0 ≤ tick - 1 - z.s by omega)
    have := HZB.out
    omega
  have hTn : ¬ T = 0 := by have := HT.out; omega
  have hT0 : (T == 0) = false := by simpa using hTn
  have w1 : IntKind.i64.wrap (tick - 1) = tick - 1 := IntWalk.i64_in _ (by have := HZB.out; omega)
  have w3 : IntKind.i64.wrap (tick - 1 - z.s) = tick - 1 - z.s := IntWalk.i64_in _ (by have := HZB.out; omega)
  have w4 : (tick - 1 - z.s).tdiv T = q := by rw [Int.tdiv_eq_ediv_of_nonneg (by omega)]; exact hq
  have w5 : wrap64 q = q := by unfold wrap64; omega
  have w7 : IntKind.i64.wrap (q + 1) = q + 1 := IntWalk.i64_in _ (by omega)
  clear hq hqb
  go_wp2
  go_ret
  exact ⟨by rw [HbegF.out, if_neg (show ¬ tick ≤ z.s by have := HA5.out; omega), HQ.out]; rfl, HB2.out⟩
end Go.Proofs.YtkankdecbefenaaDoor.Ly7
