/- The document's With: a list that rises, with one more, put together anew; no condition but sizes. -/
import Derived.Test.YtanhblokhcaoiaaDoorTrcS
import Derived.Test.YtanhblokhcaoiaaDoorCut
namespace Go.Proofs.YtanhblokhcaoiaaDoor.Tr
open Go.ChangeShapes Go.WideShapes Go.ChangeAt Go.RowKit Base Go.Maps
open Hl (Ev TE TI EvsAt evL evC)
set_option linter.unusedVariables false
set_option linter.unusedSimpArgs false

theorem pos_is {l : List Int} {x : Int} {k : Nat} (hs : l.Pairwise (· < ·)) (hk : k ≤ l.length) (h1 : ∀ a ∈ l.take k, a < x) (h2 : ∀ a, l[k]? = some a → ¬ a < x) : pos l x = k ∧ (l[k]? = some x ↔ l.contains x = true) := by
  have hd : ∀ a ∈ l.drop k, ¬ a < x ∧ (a = x → l[k]? = some x) := by
    intro a ha
    rcases Nat.lt_or_ge k l.length with hlt | hge
    · rw [List.drop_eq_getElem_cons hlt] at ha
      have h3 := h2 _ (List.getElem?_eq_getElem hlt)
      have hp : (l.drop k).Pairwise (· < ·) := hs.sublist (List.drop_sublist _ _)
      rw [List.drop_eq_getElem_cons hlt, List.pairwise_cons] at hp
      rcases List.mem_cons.1 ha with rfl | ha
      · exact ⟨h3, fun e => by rw [List.getElem?_eq_getElem hlt, e]⟩
      · have := hp.1 a ha
        exact ⟨by omega, fun e => by omega⟩
    · rw [List.drop_of_length_le hge] at ha
      cases ha
  constructor
  · have h3 : l.countP (fun a => decide (a < x)) = (l.take k).countP (fun a => decide (a < x)) + (l.drop k).countP (fun a => decide (a < x)) := by
      rw [← List.countP_append, List.take_append_drop]
    have h4 : (l.take k).countP (fun a => decide (a < x)) = (l.take k).length := List.countP_eq_length.2 (fun a ha => by simpa using h1 a ha)
    have h5 : (l.drop k).countP (fun a => decide (a < x)) = 0 := List.countP_eq_zero.2 (fun a ha => by simpa using (hd a ha).1)
    unfold pos
    rw [h3, h4, h5, List.length_take]
    omega
  · constructor
    · intro h
      simpa using List.mem_of_getElem? h
    · intro h
      have h : x ∈ l := by simpa using h
      rw [← List.take_append_drop k l] at h
      rcases List.mem_append.1 h with h | h
      · exact absurd (h1 x h) (by omega)
      · exact (hd x h).2 rfl
theorem lst_take {w : World} {A : Option Addr} {n k : Nat} {xs : List Value} (h : Lst w A n xs) (hk : k ≤ n) : Lst w A k (xs.take k) :=
  ⟨by rw [List.length_take, h.1]; omega, fun h0 => by
    obtain ⟨b, off, e, hlt, hc⟩ := h.2 (by omega)
    exact ⟨b, off, e, hlt, fun j hj => by rw [hc j (by omega), List.getElem?_take_of_lt hj]⟩⟩
theorem lst_drop {w : World} {A : Option Addr} {n k c : Nat} {xs : List Value} (h : Lst w A n xs) (hk : k ≤ n) (hc : n ≤ c) {dk : Nat} (hd : n - k = dk) : Lst w (cutA A k c) dk (xs.drop k) := by
  subst hd
  have := lst_cut (l := k) (h := n) h hk (Nat.le_refl _) hc
  rwa [List.take_of_length_le (by rw [List.length_drop, h.1]; exact Nat.le_refl _)] at this
theorem info_int : (Tryd.prog.info? TI).map (fun i => (i.zero, i.size, i.bytes)) = some (some (.int .i64 0), 1, 8) := by kernel_rfl
theorem append_lst {u : World} {base : Nat} {v : Value} {g m n c : Nat} {A : Option Addr} {xs news : List Value} (h0 : v.ownBlock = some g) (ho : u.ownsRow base TI 1 v m xs) (hl : Lst u A n news) (h1 : ∀ z ∈ news, z.oneCell' = true) (hm : m + n ≤ 1000000) (hb : base ≤ u.heap.size) (ty : TypeId) :
    ∃ v' u', (Builtin.append_ #[40, 40] ty #[v, .slice A n c]).run Tryd.prog u = .ok v' u' ∧ u'.ownsRow base TI 1 v' (m + n) (xs ++ news) ∧ Below base u u' ∧ (∃ g', v'.ownBlock = some g') ∧ u.grownBy u' v.ownBlock := by
  obtain ⟨i0, hi, hz0, hz1, hz2⟩ := info_three info_int
  have at' : ∀ ad : Addr, (∀ (j : Nat) (z : Value), news[j]? = some z → u.cell? (ad.add j) = some z) → ∃ v' u', (Builtin.append_ #[40, 40] ty #[v, .slice (some ad) n c]).run Tryd.prog u = .ok v' u' ∧ u'.ownsRow base TI 1 v' (m + n) (xs ++ news) ∧ Below base u u' ∧ (∃ g', v'.ownBlock = some g') ∧ u.grownBy u' v.ownBlock := by
    intro ad hn
    obtain ⟨v', u', hr, ho', hg', _, hb'⟩ := run_append_own_at u base 40 ty TI i0 _ 1 8 Tryd.underlying40 hi hz0 hz1 hz2 rfl (by omega) v m xs ho ad n c news (by rw [hl.1]; omega) hn h1 (by unfold maxLen; omega) (by omega) hb
    refine ⟨v', u', hr, ho', belowB hg' hb (fun k hk => (ho.lt k hk).1), ?_, hg'⟩
    rcases hb' with e | e
    · exact ⟨g, by rw [e, h0]⟩
    · exact ⟨_, e⟩
  rcases Nat.eq_zero_or_pos n with h | h
  · subst h
    obtain rfl : news = [] := List.eq_nil_of_length_eq_zero hl.1
    cases A with
    | some ad => exact at' ad (fun j z hj => by simp at hj)
    | none =>
      rcases ho.2 with ⟨rfl, _⟩ | ⟨g', cap, cur, rfl, hbg, hg, hnc, hcm, hcs, ht⟩
      · cases h0
      · refine ⟨_, _, run_append_room_src u 40 40 ty TI i0 Tryd.underlying40 hi g' 0 m cap (.slice none 0 c) 0 [] (Src.ofNil u Tryd.underlying40 c) (by omega) (fun j hj => by simp at hj) (fun j hj => by simp at hj), ?_, Below.refl _ _, ⟨g', rfl⟩, grown_of (Below.refl _ _)⟩
        rw [List.append_nil]
        exact ho
  · obtain ⟨b, off, rfl, _, hc⟩ := hl.2 h
    exact at' ⟨b, off, none⟩ (fun j z hj => by
      have hjn : j < n := by have := (List.getElem?_eq_some_iff.1 hj).1; rw [hl.1] at this; exact this
      rw [add_eq, hc j hjn]
      exact hj)
def WithP (base : Nat) (l : List Int) (x : Int) (w : World) (e : Ending) (w' : World) : Prop := ∃ A' c', e = .returned (.slice A' (ins l x).length c') ∧ w'.ownsRow base TI 1 (.slice A' (ins l x).length c') (ins l x).length ((ins l x).map iV) ∧ Below w.heap.size w w'
set_option maxRecDepth 100000 in
set_option maxHeartbeats 4000000 in
theorem with_any (base : Nat) (A : Option Addr) (c : Nat) (l : List Int) (x : Int) (w : World) (hO : w.ownsRow base TI 1 (.slice A l.length c) l.length (l.map iV)) (hs : l.Pairwise (· < ·)) (hb : base ≤ w.heap.size) (hn : l.length ≤ 100000) :
    Calls Tryd.prog 33 #[.slice A l.length c, .int .i64 x] w fun e' w' => WithP base l x w e' w' := by
  obtain ⟨hl, hnc, hcc⟩ : Lst w A l.length (l.map iV) ∧ l.length ≤ c ∧ c ≤ 9223372036854775807 := by
    obtain ⟨A', c', e, h1, h2⟩ := row_lst hO
    injection e with e1 _ e3
    subst e1
    subst e3
    refine ⟨h2, h1, ?_⟩
    rcases hO.2 with ⟨e, _⟩ | ⟨g, cap, cur, e, _, _, _, hcm, _⟩
    · injection e with _ _ e
      omega
    · injection e with _ _ e
      unfold maxLen at hcm
      omega
  have HOO := Lib.hid hO
  have HBB := Lib.hid hb
  obtain ⟨n, HN0⟩ : ∃ n, Hid (l.length = n) := ⟨_, Lib.hid rfl⟩
  rw [HN0.out] at hl hnc hn HOO ⊢
  have HL := Lib.hid hl
  have HLN : Hid (l.length = n) := Lib.hid HN0.out
  have HS := Lib.hid hs
  have HNC := Lib.hid hnc
  clear hl hs hO hb
  go_enter Tryd.func33, Tryd.ntmps33
  go_wp2_with fail
  go_loopw [5] (fun i wx => ∃ k : Nat, k ≤ n ∧ i = .int .i64 k ∧ Hid (∀ a ∈ l.take k, a < x) ∧ Below w.heap.size w wx) (fun i _ => n - (intOf i).toNat)
  case atStart => exact ⟨0, by omega, rfl, Lib.hid (fun a ha => by simp at ha), Below.refl _ _⟩
  case round =>
    obtain ⟨k, hkn, rfl, HA, hbk⟩ := hrel
    have HBK := Lib.hid hbk
    have hk0 : (0 : Int) ≤ (k : Int) := by omega
    have hcH := fun W => cut_h (P := Tryd.prog) (t := 40) Tryd.underlying40 Tryd.sizeOf3 A n c k (by omega) W
    have hcL := fun W => cut_l (P := Tryd.prog) (t := 40) Tryd.underlying40 Tryd.sizeOf3 A n c k hkn W
    obtain ⟨dk, HDK⟩ : ∃ d, Hid (n - k = d) := ⟨_, Lib.hid rfl⟩
    simp only [HDK.out] at hcL
    have hdk : k + dk = n := by have := HDK.out; omega
    have HDN := Lib.hid hdk
    by_cases hlt : k < n
    · have hki : (k : Int) < (n : Int) := by omega
      have hkl : k < l.length := by rw [HLN.out]; exact hlt
      obtain ⟨b, off, hAe, _, hc⟩ := (HL.out.kept hbk).get hlt
      rw [List.getElem_map] at hc
      obtain ⟨y, hy⟩ : ∃ y, l[k]'hkl = y := ⟨_, rfl⟩
      rw [hy] at hc
      have HY : Hid (l[k]? = some y) := Lib.hid (by rw [List.getElem?_eq_getElem hkl, hy])
      have e0 : IntKind.i64.wrap ((k : Int) + 1) = (k : Int) + 1 := IntWalk.i64_in _ (by omega)
      clear hy hkl hbk
      by_cases hyx : y < x
      · have HA2 : Hid (∀ a ∈ l.take (k + 1), a < x) := Lib.hid (fun a ha => by
          rw [List.take_add_one, HY.out] at ha
          rcases List.mem_append.1 ha with ha | ha
          · exact HA.out a ha
          · simp at ha; omega)
        clear hcH hcL hdk
        subst hAe
        go_wp2
        go_roundw
        case rel => exact ⟨k + 1, by omega, by go_num, HA2, HBK.out⟩
        case measure => simp [intOf]; omega
      · have HPI := Lib.hid (pos_is HS.out (by rw [HLN.out]; omega) HA.out (fun a ha => by rw [HY.out] at ha; injection ha with ha; rw [← ha]; exact hyx))
        by_cases hye : y = x
        · have HIN : Hid (ins l x = l) := Lib.hid (by unfold ins; rw [if_pos (HPI.out.2.1 (by rw [HY.out, hye]))])
          subst hye
          clear hcH hcL hdk
          subst hAe
          go_wp2
          go_ret
          exact ⟨_, _, by rw [HIN.out, HLN.out]; rfl, by rw [HIN.out, HLN.out]; exact own_kept HOO.out HBK.out, HBK.out⟩
        · have hyb : (y == x) = false := by simpa using hye
          have HIN : Hid (ins l x = l.take k ++ [x] ++ l.drop k) := Lib.hid (by
            unfold ins
            rw [if_neg (fun h => hye (by have := HPI.out.2.2 h; rw [HY.out] at this; injection this)), HPI.out.1]
            rfl)
          have HRV : Hid (∀ A9 c9, Ending.returned (.slice A9 (0 + k + 1 + dk) c9) = Ending.returned (.slice A9 (ins l x).length c9)) := Lib.hid (fun A9 c9 => by rw [HIN.out]; congr 2; have := HDN.out; simp [HLN.out]; omega)
          have HRL : Hid (∀ u A9 c9, World.ownsRow u base TI 1 (.slice A9 (0 + k + 1 + dk) c9) (0 + k + 1 + dk) ([] ++ (l.map iV).take k ++ [.int .i64 x] ++ (l.map iV).drop k) → World.ownsRow u base TI 1 (.slice A9 (ins l x).length c9) (ins l x).length ((ins l x).map iV)) := Lib.hid (fun u A9 c9 h => by
            have e1 : (ins l x).length = 0 + k + 1 + dk := by rw [HIN.out]; have := HDN.out; simp [HLN.out]; omega
            have e2 : (ins l x).map iV = [] ++ (l.map iV).take k ++ [.int .i64 x] ++ (l.map iV).drop k := by rw [HIN.out]; simp
            rw [e1, e2]
            exact h)
          clear hye hdk
          subst hAe
          go_upto_region 6 with (fail)
          --F1
          refine wp_region_any (by kernel_rfl) ?_
          change wpAny _ _ _ _ _ _ _ (World.drew _)
          have HBU : Hid (Below w.heap.size w wr.drew) := Lib.hid HBK.out.drew
          generalize World.drew wr = u0 at HBU ⊢
          refine wpAny_take (i := 1) (v := .slice (some ⟨b, off, none⟩) n c) rfl (by kernel_rfl) (by kernel_rfl) (by kernel_rfl) (fun _ _ _ h => h) (Or.inl ⟨by rfl, fun w => by go_simp⟩) ?_
          try simp only [Act.put, List.getElem_toArray, List.getElem_cons_succ, List.getElem_cons_zero, List.setIfInBounds_toArray, List.set_cons_zero, List.set_cons_succ]
          refine wpAny_take (i := 2) (v := .int .i64 (k : Int)) rfl (by kernel_rfl) (by kernel_rfl) (by kernel_rfl) (fun _ _ _ h => h) (Or.inl ⟨by rfl, fun w => by go_simp⟩) ?_
          try simp only [Act.put, List.getElem_toArray, List.getElem_cons_succ, List.getElem_cons_zero, List.setIfInBounds_toArray, List.set_cons_zero, List.set_cons_succ]
          refine wpAny_take (i := 3) (v := .slice (some ⟨b, off, none⟩) k c) rfl (by kernel_rfl) (by kernel_rfl) (by kernel_rfl) (fun _ _ _ h => h) (Or.inl ⟨by rfl, fun w => by go_simp⟩) ?_
          try simp only [Act.put, List.getElem_toArray, List.getElem_cons_succ, List.getElem_cons_zero, List.setIfInBounds_toArray, List.set_cons_zero, List.set_cons_succ]
          refine wpAny_take (i := 5) (v := .int .i64 x) rfl (by kernel_rfl) (by kernel_rfl) (by kernel_rfl) (fun _ _ _ h => h) (Or.inl ⟨by rfl, fun w => by go_simp⟩) ?_
          try simp only [Act.put, List.getElem_toArray, List.getElem_cons_succ, List.getElem_cons_zero, List.setIfInBounds_toArray, List.set_cons_zero, List.set_cons_succ]
          refine wpAny_take (i := 8) (v := .slice (some ⟨b, off, none⟩) n c) rfl (by kernel_rfl) (by kernel_rfl) (by kernel_rfl) (fun _ _ _ h => h) (Or.inl ⟨by rfl, fun w => by go_simp⟩) ?_
          try simp only [Act.put, List.getElem_toArray, List.getElem_cons_succ, List.getElem_cons_zero, List.setIfInBounds_toArray, List.set_cons_zero, List.set_cons_succ]
          refine wpAny_take (i := 9) (v := .int .i64 (k : Int)) rfl (by kernel_rfl) (by kernel_rfl) (by kernel_rfl) (fun _ _ _ h => h) (Or.inl ⟨by rfl, fun w => by go_simp⟩) ?_
          try simp only [Act.put, List.getElem_toArray, List.getElem_cons_succ, List.getElem_cons_zero, List.setIfInBounds_toArray, List.set_cons_zero, List.set_cons_succ]
          refine wpAny_take (i := 10) (v := .slice (cutA (some ⟨b, off, none⟩) k c) dk (c - k)) rfl (by kernel_rfl) (by kernel_rfl) (by kernel_rfl) (fun _ _ _ h => h) (Or.inl ⟨by rfl, fun w => by go_simp⟩) ?_
          try simp only [Act.put, List.getElem_toArray, List.getElem_cons_succ, List.getElem_cons_zero, List.setIfInBounds_toArray, List.set_cons_zero, List.set_cons_succ]
          refine wpAny_ready (rs := [0, 6]) (by kernel_rfl) (by simp) ?_
          refine AllReady.cons rfl (fun KK hK => ?_) (AllReady.cons rfl (fun KK hK => ?_) AllReady.nil)
          · obtain ⟨G0, HG0⟩ : ∃ g, Hid (u0.heap.size = g) := ⟨_, Lib.hid rfl⟩
            go_simp
            rw [HG0.out]
            refine hK _ _ ?_
            clear hK KK
            try simp only [Act.put, List.getElem_toArray, List.getElem_cons_succ, List.getElem_cons_zero, List.setIfInBounds_toArray, List.set_cons_zero, List.set_cons_succ]
            have HV : Hid ((u0.alloc (.cells #[] TI)).ownsRow w.heap.size TI 1 (.slice (some ⟨G0, 0, none⟩) 0 0) 0 []) := Lib.hid (by rw [← HG0.out]; exact row_mono (own_empty u0 TI) HBU.out.size)
            have HBV : Hid (Below w.heap.size w (u0.alloc (.cells #[] TI))) := Lib.hid (HBU.out.trans ((bel_new u0 _).mono HBU.out.size))
            clear HBU HG0
            generalize u0.alloc (.cells #[] TI) = u1 at HV HBV ⊢
            have HBU := HBV
            clear HBV
            refine wpAny_ready (rs := [4, 6]) (by kernel_rfl) (by simp) ?_
            refine AllReady.cons rfl (fun KK hK => ?_) (AllReady.cons rfl (fun KK hK => ?_) AllReady.nil)
            · obtain ⟨v4, u2, hr4, ho4, hb4, ⟨g4, hg4⟩, hw4⟩ := append_lst (c := c) rfl HV.out (lst_take (HL.out.kept HBU.out) hkn) (fun z hz => iV_one l z (List.mem_of_mem_take hz)) (by omega) HBU.out.size 40
              rw [if_pos (by rfl)]
              refine upon_app (.tmp 33) (.tmp 36) 40 rfl rfl rfl hr4 ?_
              refine hK _ _ ?_
              clear hK KK
              try simp only [Act.put, List.getElem_toArray, List.getElem_cons_succ, List.getElem_cons_zero, List.setIfInBounds_toArray, List.set_cons_zero, List.set_cons_succ]
              have HV2 := Lib.hid ho4
              have HG4 := Lib.hid hg4
              have HBV : Hid (Below w.heap.size w u2) := Lib.hid (HBU.out.trans hb4)
              clear HBU HV hr4 ho4 hb4 hg4 hw4
              have HV := HV2
              have HBU := HBV
              clear HV2 HBV
              refine wpAny_ready (rs := [6]) (by kernel_rfl) (by simp) ?_
              refine AllReady.cons rfl (fun KK hK => ?_) AllReady.nil
              obtain ⟨GX, HG0⟩ : ∃ g, Hid (u2.heap.size = g) := ⟨_, Lib.hid rfl⟩
              go_simp
              rw [HG0.out]
              refine hK _ _ ?_
              clear hK KK
              try simp only [Act.put, List.getElem_toArray, List.getElem_cons_succ, List.getElem_cons_zero, List.setIfInBounds_toArray, List.set_cons_zero, List.set_cons_succ]
              have HX : Hid (Lst (u2.alloc (.cells #[.int .i64 x] TI)) (some ⟨GX, 0, none⟩) 1 [.int .i64 x]) := Lib.hid (by rw [← HG0.out]; exact lst_row u2 TI [.int .i64 x])
              have HV2 := Lib.hid (own_kept HV.out (bel_new u2 (.cells #[.int .i64 x] TI)))
              have HBV : Hid (Below w.heap.size w (u2.alloc (.cells #[.int .i64 x] TI))) := Lib.hid (HBU.out.trans ((bel_new u2 _).mono HBU.out.size))
              clear HBU HV HG0
              generalize u2.alloc (.cells #[.int .i64 x] TI) = u3 at HX HBV HV2 ⊢
              have HBU := HBV
              clear HBV
              have HV := HV2
              clear HV2
              refine wpAny_ready (rs := [7]) (by kernel_rfl) (by simp) ?_
              refine AllReady.cons rfl (fun KK hK => ?_) AllReady.nil
              obtain ⟨v7, u7, hr7, ho7, hb7, ⟨g7, hg7⟩, _⟩ := append_lst (c := 1) HG4.out HV.out HX.out (by intro z hz; simp at hz; subst hz; rfl) (by omega) HBU.out.size 40
              rw [if_pos (by rfl)]
              refine upon_app (.tmp 37) (.tmp 39) 40 rfl rfl rfl hr7 ?_
              refine hK _ _ ?_
              clear hK KK
              try simp only [Act.put, List.getElem_toArray, List.getElem_cons_succ, List.getElem_cons_zero, List.setIfInBounds_toArray, List.set_cons_zero, List.set_cons_succ]
              have HV7 := Lib.hid ho7
              have HG7 := Lib.hid hg7
              have HB7 : Hid (Below w.heap.size w u7) := Lib.hid (HBU.out.trans hb7)
              clear HBU HV HX HG4 hr7 ho7 hb7 hg7
              refine wpAny_ready (rs := [11]) (by kernel_rfl) (by simp) ?_
              refine AllReady.cons rfl (fun KK hK => ?_) AllReady.nil
              obtain ⟨v9, u9, hr9, ho9, hb9, _, _⟩ := append_lst (c := c - k) HG7.out HV7.out (lst_drop (HL.out.kept HB7.out) hkn HNC.out HDK.out) (fun z hz => iV_one l z (List.mem_of_mem_drop hz)) (by have := HDN.out; omega) HB7.out.size 40
              rw [if_pos (by rfl)]
              refine upon_app (.tmp 40) (.tmp 43) 40 rfl rfl rfl hr9 ?_
              refine hK _ _ ?_
              clear hK KK
              try simp only [Act.put, List.getElem_toArray, List.getElem_cons_succ, List.getElem_cons_zero, List.setIfInBounds_toArray, List.set_cons_zero, List.set_cons_succ]
              obtain ⟨A9, c9, hv9, _, hl9⟩ := row_lst ho9
              subst hv9
              have HL9 := Lib.hid (row_mono ho9 HBB.out)
              have HB9 : Hid (Below w.heap.size w u9) := Lib.hid (HB7.out.trans hb9)
              clear HB7 HV7 HG7 hr9 ho9 hb9 hl9
              refine wpAny_ready (rs := [12]) (by kernel_rfl) (by simp) ?_
              refine AllReady.cons rfl (fun KK hK => ?_) AllReady.nil
              go_simp
              refine hK _ _ ?_
              clear hK KK
              try simp only [Act.put, List.getElem_toArray, List.getElem_cons_succ, List.getElem_cons_zero, List.setIfInBounds_toArray, List.set_cons_zero, List.set_cons_succ]
              refine wpAny_done (by kernel_rfl) ?_ _
              go_wp2
              go_ret
              exact ⟨A9, c9, (show Ending.returned (.slice A9 (k + 1 + dk) c9) = _ from by rw [show (k + 1 + dk) = 0 + k + 1 + dk by omega]; exact HRV.out A9 c9), HRL.out u9 A9 c9 HL9.out, HB9.out⟩

            · obtain ⟨GX, HG0⟩ : ∃ g, Hid (u1.heap.size = g) := ⟨_, Lib.hid rfl⟩
              go_simp
              rw [HG0.out]
              refine hK _ _ ?_
              clear hK KK
              try simp only [Act.put, List.getElem_toArray, List.getElem_cons_succ, List.getElem_cons_zero, List.setIfInBounds_toArray, List.set_cons_zero, List.set_cons_succ]
              have HX : Hid (Lst (u1.alloc (.cells #[.int .i64 x] TI)) (some ⟨GX, 0, none⟩) 1 [.int .i64 x]) := Lib.hid (by rw [← HG0.out]; exact lst_row u1 TI [.int .i64 x])
              have HNE : Hid (GX ≠ G0) := Lib.hid (by have := (HV.out.lt G0 rfl).2; have := HG0.out; omega)
              have HV2 := Lib.hid (own_kept HV.out (bel_new u1 (.cells #[.int .i64 x] TI)))
              have HBV : Hid (Below w.heap.size w (u1.alloc (.cells #[.int .i64 x] TI))) := Lib.hid (HBU.out.trans ((bel_new u1 _).mono HBU.out.size))
              clear HBU HV HG0
              generalize u1.alloc (.cells #[.int .i64 x] TI) = u4 at HX HBV HV2 ⊢
              have HBU := HBV
              clear HBV
              have HV := HV2
              clear HV2
              refine wpAny_ready (rs := [4]) (by kernel_rfl) (by simp) ?_
              refine AllReady.cons rfl (fun KK hK => ?_) AllReady.nil
              obtain ⟨v4, u5, hr4, ho4, hb4, ⟨g4, hg4⟩, hw4⟩ := append_lst (c := c) rfl HV.out (lst_take (HL.out.kept HBU.out) hkn) (fun z hz => iV_one l z (List.mem_of_mem_take hz)) (by omega) HBU.out.size 40
              rw [if_pos (by rfl)]
              refine upon_app (.tmp 33) (.tmp 36) 40 rfl rfl rfl hr4 ?_
              refine hK _ _ ?_
              clear hK KK
              try simp only [Act.put, List.getElem_toArray, List.getElem_cons_succ, List.getElem_cons_zero, List.setIfInBounds_toArray, List.set_cons_zero, List.set_cons_succ]
              have HV2 := Lib.hid ho4
              have HG4 := Lib.hid hg4
              have HBV : Hid (Below w.heap.size w u5) := Lib.hid (HBU.out.trans hb4)
              have HX2 : Hid (Lst u5 (some ⟨GX, 0, none⟩) 1 [.int .i64 x]) := Lib.hid (HX.out.touch (show Wrote G0 _ _ from hw4) (fun b1 o1 e => by injection e with e; injection e with e _; rw [← e]; exact HNE.out))
              clear HBU HV hr4 ho4 hb4 hg4 hw4 HX
              have HV := HV2
              have HBU := HBV
              clear HV2 HBV
              have HX := HX2
              clear HX2
              refine wpAny_ready (rs := [7]) (by kernel_rfl) (by simp) ?_
              refine AllReady.cons rfl (fun KK hK => ?_) AllReady.nil
              obtain ⟨v7, u7, hr7, ho7, hb7, ⟨g7, hg7⟩, _⟩ := append_lst (c := 1) HG4.out HV.out HX.out (by intro z hz; simp at hz; subst hz; rfl) (by omega) HBU.out.size 40
              rw [if_pos (by rfl)]
              refine upon_app (.tmp 37) (.tmp 39) 40 rfl rfl rfl hr7 ?_
              refine hK _ _ ?_
              clear hK KK
              try simp only [Act.put, List.getElem_toArray, List.getElem_cons_succ, List.getElem_cons_zero, List.setIfInBounds_toArray, List.set_cons_zero, List.set_cons_succ]
              have HV7 := Lib.hid ho7
              have HG7 := Lib.hid hg7
              have HB7 : Hid (Below w.heap.size w u7) := Lib.hid (HBU.out.trans hb7)
              clear HBU HV HX HG4 hr7 ho7 hb7 hg7
              refine wpAny_ready (rs := [11]) (by kernel_rfl) (by simp) ?_
              refine AllReady.cons rfl (fun KK hK => ?_) AllReady.nil
              obtain ⟨v9, u9, hr9, ho9, hb9, _, _⟩ := append_lst (c := c - k) HG7.out HV7.out (lst_drop (HL.out.kept HB7.out) hkn HNC.out HDK.out) (fun z hz => iV_one l z (List.mem_of_mem_drop hz)) (by have := HDN.out; omega) HB7.out.size 40
              rw [if_pos (by rfl)]
              refine upon_app (.tmp 40) (.tmp 43) 40 rfl rfl rfl hr9 ?_
              refine hK _ _ ?_
              clear hK KK
              try simp only [Act.put, List.getElem_toArray, List.getElem_cons_succ, List.getElem_cons_zero, List.setIfInBounds_toArray, List.set_cons_zero, List.set_cons_succ]
              obtain ⟨A9, c9, hv9, _, hl9⟩ := row_lst ho9
              subst hv9
              have HL9 := Lib.hid (row_mono ho9 HBB.out)
              have HB9 : Hid (Below w.heap.size w u9) := Lib.hid (HB7.out.trans hb9)
              clear HB7 HV7 HG7 hr9 ho9 hb9 hl9
              refine wpAny_ready (rs := [12]) (by kernel_rfl) (by simp) ?_
              refine AllReady.cons rfl (fun KK hK => ?_) AllReady.nil
              go_simp
              refine hK _ _ ?_
              clear hK KK
              try simp only [Act.put, List.getElem_toArray, List.getElem_cons_succ, List.getElem_cons_zero, List.setIfInBounds_toArray, List.set_cons_zero, List.set_cons_succ]
              refine wpAny_done (by kernel_rfl) ?_ _
              go_wp2
              go_ret
              exact ⟨A9, c9, (show Ending.returned (.slice A9 (k + 1 + dk) c9) = _ from by rw [show (k + 1 + dk) = 0 + k + 1 + dk by omega]; exact HRV.out A9 c9), HRL.out u9 A9 c9 HL9.out, HB9.out⟩


          · obtain ⟨GX, HG0⟩ : ∃ g, Hid (u0.heap.size = g) := ⟨_, Lib.hid rfl⟩
            go_simp
            rw [HG0.out]
            refine hK _ _ ?_
            clear hK KK
            try simp only [Act.put, List.getElem_toArray, List.getElem_cons_succ, List.getElem_cons_zero, List.setIfInBounds_toArray, List.set_cons_zero, List.set_cons_succ]
            have HX : Hid (Lst (u0.alloc (.cells #[.int .i64 x] TI)) (some ⟨GX, 0, none⟩) 1 [.int .i64 x]) := Lib.hid (by rw [← HG0.out]; exact lst_row u0 TI [.int .i64 x])
            have HBV : Hid (Below w.heap.size w (u0.alloc (.cells #[.int .i64 x] TI))) := Lib.hid (HBU.out.trans ((bel_new u0 _).mono HBU.out.size))
            clear HBU HG0
            generalize u0.alloc (.cells #[.int .i64 x] TI) = u6 at HX HBV ⊢
            have HBU := HBV
            clear HBV
            refine wpAny_ready (rs := [0]) (by kernel_rfl) (by simp) ?_
            refine AllReady.cons rfl (fun KK hK => ?_) AllReady.nil
            obtain ⟨G0, HG0⟩ : ∃ g, Hid (u6.heap.size = g) := ⟨_, Lib.hid rfl⟩
            go_simp
            rw [HG0.out]
            refine hK _ _ ?_
            clear hK KK
            try simp only [Act.put, List.getElem_toArray, List.getElem_cons_succ, List.getElem_cons_zero, List.setIfInBounds_toArray, List.set_cons_zero, List.set_cons_succ]
            have HV : Hid ((u6.alloc (.cells #[] TI)).ownsRow w.heap.size TI 1 (.slice (some ⟨G0, 0, none⟩) 0 0) 0 []) := Lib.hid (by rw [← HG0.out]; exact row_mono (own_empty u6 TI) HBU.out.size)
            have HNE : Hid (GX ≠ G0) := Lib.hid (by obtain ⟨b1, o1, e, h, _⟩ := HX.out.2 (by omega); injection e with e; injection e with e _; have := HG0.out; omega)
            have HX2 : Hid (Lst (u6.alloc (.cells #[] TI)) (some ⟨GX, 0, none⟩) 1 [.int .i64 x]) := Lib.hid (HX.out.kept (bel_new _ _))
            have HBV : Hid (Below w.heap.size w (u6.alloc (.cells #[] TI))) := Lib.hid (HBU.out.trans ((bel_new u6 _).mono HBU.out.size))
            clear HBU HX HG0
            generalize u6.alloc (.cells #[] TI) = u7 at HV HBV HX2 ⊢
            have HBU := HBV
            clear HBV
            have HX := HX2
            clear HX2
            refine wpAny_ready (rs := [4]) (by kernel_rfl) (by simp) ?_
            refine AllReady.cons rfl (fun KK hK => ?_) AllReady.nil
            obtain ⟨v4, u8, hr4, ho4, hb4, ⟨g4, hg4⟩, hw4⟩ := append_lst (c := c) rfl HV.out (lst_take (HL.out.kept HBU.out) hkn) (fun z hz => iV_one l z (List.mem_of_mem_take hz)) (by omega) HBU.out.size 40
            rw [if_pos (by rfl)]
            refine upon_app (.tmp 33) (.tmp 36) 40 rfl rfl rfl hr4 ?_
            refine hK _ _ ?_
            clear hK KK
            try simp only [Act.put, List.getElem_toArray, List.getElem_cons_succ, List.getElem_cons_zero, List.setIfInBounds_toArray, List.set_cons_zero, List.set_cons_succ]
            have HV2 := Lib.hid ho4
            have HG4 := Lib.hid hg4
            have HBV : Hid (Below w.heap.size w u8) := Lib.hid (HBU.out.trans hb4)
            have HX2 : Hid (Lst u8 (some ⟨GX, 0, none⟩) 1 [.int .i64 x]) := Lib.hid (HX.out.touch (show Wrote G0 _ _ from hw4) (fun b1 o1 e => by injection e with e; injection e with e _; rw [← e]; exact HNE.out))
            clear HBU HV hr4 ho4 hb4 hg4 hw4 HX
            have HV := HV2
            have HBU := HBV
            clear HV2 HBV
            have HX := HX2
            clear HX2
            refine wpAny_ready (rs := [7]) (by kernel_rfl) (by simp) ?_
            refine AllReady.cons rfl (fun KK hK => ?_) AllReady.nil
            obtain ⟨v7, u7, hr7, ho7, hb7, ⟨g7, hg7⟩, _⟩ := append_lst (c := 1) HG4.out HV.out HX.out (by intro z hz; simp at hz; subst hz; rfl) (by omega) HBU.out.size 40
            rw [if_pos (by rfl)]
            refine upon_app (.tmp 37) (.tmp 39) 40 rfl rfl rfl hr7 ?_
            refine hK _ _ ?_
            clear hK KK
            try simp only [Act.put, List.getElem_toArray, List.getElem_cons_succ, List.getElem_cons_zero, List.setIfInBounds_toArray, List.set_cons_zero, List.set_cons_succ]
            have HV7 := Lib.hid ho7
            have HG7 := Lib.hid hg7
            have HB7 : Hid (Below w.heap.size w u7) := Lib.hid (HBU.out.trans hb7)
            clear HBU HV HX HG4 hr7 ho7 hb7 hg7
            refine wpAny_ready (rs := [11]) (by kernel_rfl) (by simp) ?_
            refine AllReady.cons rfl (fun KK hK => ?_) AllReady.nil
            obtain ⟨v9, u9, hr9, ho9, hb9, _, _⟩ := append_lst (c := c - k) HG7.out HV7.out (lst_drop (HL.out.kept HB7.out) hkn HNC.out HDK.out) (fun z hz => iV_one l z (List.mem_of_mem_drop hz)) (by have := HDN.out; omega) HB7.out.size 40
            rw [if_pos (by rfl)]
            refine upon_app (.tmp 40) (.tmp 43) 40 rfl rfl rfl hr9 ?_
            refine hK _ _ ?_
            clear hK KK
            try simp only [Act.put, List.getElem_toArray, List.getElem_cons_succ, List.getElem_cons_zero, List.setIfInBounds_toArray, List.set_cons_zero, List.set_cons_succ]
            obtain ⟨A9, c9, hv9, _, hl9⟩ := row_lst ho9
            subst hv9
            have HL9 := Lib.hid (row_mono ho9 HBB.out)
            have HB9 : Hid (Below w.heap.size w u9) := Lib.hid (HB7.out.trans hb9)
            clear HB7 HV7 HG7 hr9 ho9 hb9 hl9
            refine wpAny_ready (rs := [12]) (by kernel_rfl) (by simp) ?_
            refine AllReady.cons rfl (fun KK hK => ?_) AllReady.nil
            go_simp
            refine hK _ _ ?_
            clear hK KK
            try simp only [Act.put, List.getElem_toArray, List.getElem_cons_succ, List.getElem_cons_zero, List.setIfInBounds_toArray, List.set_cons_zero, List.set_cons_succ]
            refine wpAny_done (by kernel_rfl) ?_ _
            go_wp2
            go_ret
            exact ⟨A9, c9, (show Ending.returned (.slice A9 (k + 1 + dk) c9) = _ from by rw [show (k + 1 + dk) = 0 + k + 1 + dk by omega]; exact HRV.out A9 c9), HRL.out u9 A9 c9 HL9.out, HB9.out⟩


    · have hke : k = n := by omega
      subst hke
      have HPI := Lib.hid (pos_is HS.out (by rw [HLN.out]; omega) HA.out (fun a ha => by rw [List.getElem?_eq_none (by rw [HLN.out]; exact Nat.le_refl _)] at ha; cases ha))
      have HIN : Hid (ins l x = l.take k ++ [x] ++ l.drop k) := Lib.hid (by
        unfold ins
        rw [if_neg (fun h => by have := HPI.out.2.2 h; rw [List.getElem?_eq_none (by rw [HLN.out]; exact Nat.le_refl _)] at this; cases this), HPI.out.1]
        rfl)
      have HRV : Hid (∀ A9 c9, Ending.returned (.slice A9 (0 + k + 1 + dk) c9) = Ending.returned (.slice A9 (ins l x).length c9)) := Lib.hid (fun A9 c9 => by rw [HIN.out]; congr 2; have := HDN.out; simp [HLN.out]; omega)
      have HRL : Hid (∀ u A9 c9, World.ownsRow u base TI 1 (.slice A9 (0 + k + 1 + dk) c9) (0 + k + 1 + dk) ([] ++ (l.map iV).take k ++ [.int .i64 x] ++ (l.map iV).drop k) → World.ownsRow u base TI 1 (.slice A9 (ins l x).length c9) (ins l x).length ((ins l x).map iV)) := Lib.hid (fun u A9 c9 h => by
        have e1 : (ins l x).length = 0 + k + 1 + dk := by rw [HIN.out]; have := HDN.out; simp [HLN.out]; omega
        have e2 : (ins l x).map iV = [] ++ (l.map iV).take k ++ [.int .i64 x] ++ (l.map iV).drop k := by rw [HIN.out]; simp
        rw [e1, e2]
        exact h)
      clear hbk hdk
      go_upto_region 6 with (fail)
      refine wp_region_any (by kernel_rfl) ?_
      change wpAny _ _ _ _ _ _ _ (World.drew _)
      have HBU : Hid (Below w.heap.size w wr.drew) := Lib.hid HBK.out.drew
      generalize World.drew wr = u0 at HBU ⊢
      refine wpAny_take (i := 1) (v := .slice A k c) rfl (by kernel_rfl) (by kernel_rfl) (by kernel_rfl) (fun _ _ _ h => h) (Or.inl ⟨by rfl, fun w => by go_simp⟩) ?_
      try simp only [Act.put, List.getElem_toArray, List.getElem_cons_succ, List.getElem_cons_zero, List.setIfInBounds_toArray, List.set_cons_zero, List.set_cons_succ]
      refine wpAny_take (i := 2) (v := .int .i64 (k : Int)) rfl (by kernel_rfl) (by kernel_rfl) (by kernel_rfl) (fun _ _ _ h => h) (Or.inl ⟨by rfl, fun w => by go_simp⟩) ?_
      try simp only [Act.put, List.getElem_toArray, List.getElem_cons_succ, List.getElem_cons_zero, List.setIfInBounds_toArray, List.set_cons_zero, List.set_cons_succ]
      refine wpAny_take (i := 3) (v := .slice A k c) rfl (by kernel_rfl) (by kernel_rfl) (by kernel_rfl) (fun _ _ _ h => h) (Or.inl ⟨by rfl, fun w => by go_simp⟩) ?_
      try simp only [Act.put, List.getElem_toArray, List.getElem_cons_succ, List.getElem_cons_zero, List.setIfInBounds_toArray, List.set_cons_zero, List.set_cons_succ]
      refine wpAny_take (i := 5) (v := .int .i64 x) rfl (by kernel_rfl) (by kernel_rfl) (by kernel_rfl) (fun _ _ _ h => h) (Or.inl ⟨by rfl, fun w => by go_simp⟩) ?_
      try simp only [Act.put, List.getElem_toArray, List.getElem_cons_succ, List.getElem_cons_zero, List.setIfInBounds_toArray, List.set_cons_zero, List.set_cons_succ]
      refine wpAny_take (i := 8) (v := .slice A k c) rfl (by kernel_rfl) (by kernel_rfl) (by kernel_rfl) (fun _ _ _ h => h) (Or.inl ⟨by rfl, fun w => by go_simp⟩) ?_
      try simp only [Act.put, List.getElem_toArray, List.getElem_cons_succ, List.getElem_cons_zero, List.setIfInBounds_toArray, List.set_cons_zero, List.set_cons_succ]
      refine wpAny_take (i := 9) (v := .int .i64 (k : Int)) rfl (by kernel_rfl) (by kernel_rfl) (by kernel_rfl) (fun _ _ _ h => h) (Or.inl ⟨by rfl, fun w => by go_simp⟩) ?_
      try simp only [Act.put, List.getElem_toArray, List.getElem_cons_succ, List.getElem_cons_zero, List.setIfInBounds_toArray, List.set_cons_zero, List.set_cons_succ]
      refine wpAny_take (i := 10) (v := .slice (cutA A k c) dk (c - k)) rfl (by kernel_rfl) (by kernel_rfl) (by kernel_rfl) (fun _ _ _ h => h) (Or.inl ⟨by rfl, fun w => by go_simp⟩) ?_
      try simp only [Act.put, List.getElem_toArray, List.getElem_cons_succ, List.getElem_cons_zero, List.setIfInBounds_toArray, List.set_cons_zero, List.set_cons_succ]
      refine wpAny_ready (rs := [0, 6]) (by kernel_rfl) (by simp) ?_
      refine AllReady.cons rfl (fun KK hK => ?_) (AllReady.cons rfl (fun KK hK => ?_) AllReady.nil)
      · obtain ⟨G0, HG0⟩ : ∃ g, Hid (u0.heap.size = g) := ⟨_, Lib.hid rfl⟩
        go_simp
        rw [HG0.out]
        refine hK _ _ ?_
        clear hK KK
        try simp only [Act.put, List.getElem_toArray, List.getElem_cons_succ, List.getElem_cons_zero, List.setIfInBounds_toArray, List.set_cons_zero, List.set_cons_succ]
        have HV : Hid ((u0.alloc (.cells #[] TI)).ownsRow w.heap.size TI 1 (.slice (some ⟨G0, 0, none⟩) 0 0) 0 []) := Lib.hid (by rw [← HG0.out]; exact row_mono (own_empty u0 TI) HBU.out.size)
        have HBV : Hid (Below w.heap.size w (u0.alloc (.cells #[] TI))) := Lib.hid (HBU.out.trans ((bel_new u0 _).mono HBU.out.size))
        clear HBU HG0
        generalize u0.alloc (.cells #[] TI) = u1 at HV HBV ⊢
        have HBU := HBV
        clear HBV
        refine wpAny_ready (rs := [4, 6]) (by kernel_rfl) (by simp) ?_
        refine AllReady.cons rfl (fun KK hK => ?_) (AllReady.cons rfl (fun KK hK => ?_) AllReady.nil)
        · obtain ⟨v4, u2, hr4, ho4, hb4, ⟨g4, hg4⟩, hw4⟩ := append_lst (c := c) rfl HV.out (lst_take (HL.out.kept HBU.out) hkn) (fun z hz => iV_one l z (List.mem_of_mem_take hz)) (by omega) HBU.out.size 40
          rw [if_pos (by rfl)]
          refine upon_app (.tmp 33) (.tmp 36) 40 rfl rfl rfl hr4 ?_
          refine hK _ _ ?_
          clear hK KK
          try simp only [Act.put, List.getElem_toArray, List.getElem_cons_succ, List.getElem_cons_zero, List.setIfInBounds_toArray, List.set_cons_zero, List.set_cons_succ]
          have HV2 := Lib.hid ho4
          have HG4 := Lib.hid hg4
          have HBV : Hid (Below w.heap.size w u2) := Lib.hid (HBU.out.trans hb4)
          clear HBU HV hr4 ho4 hb4 hg4 hw4
          have HV := HV2
          have HBU := HBV
          clear HV2 HBV
          refine wpAny_ready (rs := [6]) (by kernel_rfl) (by simp) ?_
          refine AllReady.cons rfl (fun KK hK => ?_) AllReady.nil
          obtain ⟨GX, HG0⟩ : ∃ g, Hid (u2.heap.size = g) := ⟨_, Lib.hid rfl⟩
          go_simp
          rw [HG0.out]
          refine hK _ _ ?_
          clear hK KK
          try simp only [Act.put, List.getElem_toArray, List.getElem_cons_succ, List.getElem_cons_zero, List.setIfInBounds_toArray, List.set_cons_zero, List.set_cons_succ]
          have HX : Hid (Lst (u2.alloc (.cells #[.int .i64 x] TI)) (some ⟨GX, 0, none⟩) 1 [.int .i64 x]) := Lib.hid (by rw [← HG0.out]; exact lst_row u2 TI [.int .i64 x])
          have HV2 := Lib.hid (own_kept HV.out (bel_new u2 (.cells #[.int .i64 x] TI)))
          have HBV : Hid (Below w.heap.size w (u2.alloc (.cells #[.int .i64 x] TI))) := Lib.hid (HBU.out.trans ((bel_new u2 _).mono HBU.out.size))
          clear HBU HV HG0
          generalize u2.alloc (.cells #[.int .i64 x] TI) = u3 at HX HBV HV2 ⊢
          have HBU := HBV
          clear HBV
          have HV := HV2
          clear HV2
          refine wpAny_ready (rs := [7]) (by kernel_rfl) (by simp) ?_
          refine AllReady.cons rfl (fun KK hK => ?_) AllReady.nil
          obtain ⟨v7, u7, hr7, ho7, hb7, ⟨g7, hg7⟩, _⟩ := append_lst (c := 1) HG4.out HV.out HX.out (by intro z hz; simp at hz; subst hz; rfl) (by omega) HBU.out.size 40
          rw [if_pos (by rfl)]
          refine upon_app (.tmp 37) (.tmp 39) 40 rfl rfl rfl hr7 ?_
          refine hK _ _ ?_
          clear hK KK
          try simp only [Act.put, List.getElem_toArray, List.getElem_cons_succ, List.getElem_cons_zero, List.setIfInBounds_toArray, List.set_cons_zero, List.set_cons_succ]
          have HV7 := Lib.hid ho7
          have HG7 := Lib.hid hg7
          have HB7 : Hid (Below w.heap.size w u7) := Lib.hid (HBU.out.trans hb7)
          clear HBU HV HX HG4 hr7 ho7 hb7 hg7
          refine wpAny_ready (rs := [11]) (by kernel_rfl) (by simp) ?_
          refine AllReady.cons rfl (fun KK hK => ?_) AllReady.nil
          obtain ⟨v9, u9, hr9, ho9, hb9, _, _⟩ := append_lst (c := c - k) HG7.out HV7.out (lst_drop (HL.out.kept HB7.out) hkn HNC.out HDK.out) (fun z hz => iV_one l z (List.mem_of_mem_drop hz)) (by have := HDN.out; omega) HB7.out.size 40
          rw [if_pos (by rfl)]
          refine upon_app (.tmp 40) (.tmp 43) 40 rfl rfl rfl hr9 ?_
          refine hK _ _ ?_
          clear hK KK
          try simp only [Act.put, List.getElem_toArray, List.getElem_cons_succ, List.getElem_cons_zero, List.setIfInBounds_toArray, List.set_cons_zero, List.set_cons_succ]
          obtain ⟨A9, c9, hv9, _, hl9⟩ := row_lst ho9
          subst hv9
          have HL9 := Lib.hid (row_mono ho9 HBB.out)
          have HB9 : Hid (Below w.heap.size w u9) := Lib.hid (HB7.out.trans hb9)
          clear HB7 HV7 HG7 hr9 ho9 hb9 hl9
          refine wpAny_ready (rs := [12]) (by kernel_rfl) (by simp) ?_
          refine AllReady.cons rfl (fun KK hK => ?_) AllReady.nil
          go_simp
          refine hK _ _ ?_
          clear hK KK
          try simp only [Act.put, List.getElem_toArray, List.getElem_cons_succ, List.getElem_cons_zero, List.setIfInBounds_toArray, List.set_cons_zero, List.set_cons_succ]
          refine wpAny_done (by kernel_rfl) ?_ _
          go_wp2
          go_ret
          exact ⟨A9, c9, (show Ending.returned (.slice A9 (k + 1 + dk) c9) = _ from by rw [show (k + 1 + dk) = 0 + k + 1 + dk by omega]; exact HRV.out A9 c9), HRL.out u9 A9 c9 HL9.out, HB9.out⟩

        · obtain ⟨GX, HG0⟩ : ∃ g, Hid (u1.heap.size = g) := ⟨_, Lib.hid rfl⟩
          go_simp
          rw [HG0.out]
          refine hK _ _ ?_
          clear hK KK
          try simp only [Act.put, List.getElem_toArray, List.getElem_cons_succ, List.getElem_cons_zero, List.setIfInBounds_toArray, List.set_cons_zero, List.set_cons_succ]
          have HX : Hid (Lst (u1.alloc (.cells #[.int .i64 x] TI)) (some ⟨GX, 0, none⟩) 1 [.int .i64 x]) := Lib.hid (by rw [← HG0.out]; exact lst_row u1 TI [.int .i64 x])
          have HNE : Hid (GX ≠ G0) := Lib.hid (by have := (HV.out.lt G0 rfl).2; have := HG0.out; omega)
          have HV2 := Lib.hid (own_kept HV.out (bel_new u1 (.cells #[.int .i64 x] TI)))
          have HBV : Hid (Below w.heap.size w (u1.alloc (.cells #[.int .i64 x] TI))) := Lib.hid (HBU.out.trans ((bel_new u1 _).mono HBU.out.size))
          clear HBU HV HG0
          generalize u1.alloc (.cells #[.int .i64 x] TI) = u4 at HX HBV HV2 ⊢
          have HBU := HBV
          clear HBV
          have HV := HV2
          clear HV2
          refine wpAny_ready (rs := [4]) (by kernel_rfl) (by simp) ?_
          refine AllReady.cons rfl (fun KK hK => ?_) AllReady.nil
          obtain ⟨v4, u5, hr4, ho4, hb4, ⟨g4, hg4⟩, hw4⟩ := append_lst (c := c) rfl HV.out (lst_take (HL.out.kept HBU.out) hkn) (fun z hz => iV_one l z (List.mem_of_mem_take hz)) (by omega) HBU.out.size 40
          rw [if_pos (by rfl)]
          refine upon_app (.tmp 33) (.tmp 36) 40 rfl rfl rfl hr4 ?_
          refine hK _ _ ?_
          clear hK KK
          try simp only [Act.put, List.getElem_toArray, List.getElem_cons_succ, List.getElem_cons_zero, List.setIfInBounds_toArray, List.set_cons_zero, List.set_cons_succ]
          have HV2 := Lib.hid ho4
          have HG4 := Lib.hid hg4
          have HBV : Hid (Below w.heap.size w u5) := Lib.hid (HBU.out.trans hb4)
          have HX2 : Hid (Lst u5 (some ⟨GX, 0, none⟩) 1 [.int .i64 x]) := Lib.hid (HX.out.touch (show Wrote G0 _ _ from hw4) (fun b1 o1 e => by injection e with e; injection e with e _; rw [← e]; exact HNE.out))
          clear HBU HV hr4 ho4 hb4 hg4 hw4 HX
          have HV := HV2
          have HBU := HBV
          clear HV2 HBV
          have HX := HX2
          clear HX2
          refine wpAny_ready (rs := [7]) (by kernel_rfl) (by simp) ?_
          refine AllReady.cons rfl (fun KK hK => ?_) AllReady.nil
          obtain ⟨v7, u7, hr7, ho7, hb7, ⟨g7, hg7⟩, _⟩ := append_lst (c := 1) HG4.out HV.out HX.out (by intro z hz; simp at hz; subst hz; rfl) (by omega) HBU.out.size 40
          rw [if_pos (by rfl)]
          refine upon_app (.tmp 37) (.tmp 39) 40 rfl rfl rfl hr7 ?_
          refine hK _ _ ?_
          clear hK KK
          try simp only [Act.put, List.getElem_toArray, List.getElem_cons_succ, List.getElem_cons_zero, List.setIfInBounds_toArray, List.set_cons_zero, List.set_cons_succ]
          have HV7 := Lib.hid ho7
          have HG7 := Lib.hid hg7
          have HB7 : Hid (Below w.heap.size w u7) := Lib.hid (HBU.out.trans hb7)
          clear HBU HV HX HG4 hr7 ho7 hb7 hg7
          refine wpAny_ready (rs := [11]) (by kernel_rfl) (by simp) ?_
          refine AllReady.cons rfl (fun KK hK => ?_) AllReady.nil
          obtain ⟨v9, u9, hr9, ho9, hb9, _, _⟩ := append_lst (c := c - k) HG7.out HV7.out (lst_drop (HL.out.kept HB7.out) hkn HNC.out HDK.out) (fun z hz => iV_one l z (List.mem_of_mem_drop hz)) (by have := HDN.out; omega) HB7.out.size 40
          rw [if_pos (by rfl)]
          refine upon_app (.tmp 40) (.tmp 43) 40 rfl rfl rfl hr9 ?_
          refine hK _ _ ?_
          clear hK KK
          try simp only [Act.put, List.getElem_toArray, List.getElem_cons_succ, List.getElem_cons_zero, List.setIfInBounds_toArray, List.set_cons_zero, List.set_cons_succ]
          obtain ⟨A9, c9, hv9, _, hl9⟩ := row_lst ho9
          subst hv9
          have HL9 := Lib.hid (row_mono ho9 HBB.out)
          have HB9 : Hid (Below w.heap.size w u9) := Lib.hid (HB7.out.trans hb9)
          clear HB7 HV7 HG7 hr9 ho9 hb9 hl9
          refine wpAny_ready (rs := [12]) (by kernel_rfl) (by simp) ?_
          refine AllReady.cons rfl (fun KK hK => ?_) AllReady.nil
          go_simp
          refine hK _ _ ?_
          clear hK KK
          try simp only [Act.put, List.getElem_toArray, List.getElem_cons_succ, List.getElem_cons_zero, List.setIfInBounds_toArray, List.set_cons_zero, List.set_cons_succ]
          refine wpAny_done (by kernel_rfl) ?_ _
          go_wp2
          go_ret
          exact ⟨A9, c9, (show Ending.returned (.slice A9 (k + 1 + dk) c9) = _ from by rw [show (k + 1 + dk) = 0 + k + 1 + dk by omega]; exact HRV.out A9 c9), HRL.out u9 A9 c9 HL9.out, HB9.out⟩


      · obtain ⟨GX, HG0⟩ : ∃ g, Hid (u0.heap.size = g) := ⟨_, Lib.hid rfl⟩
        go_simp
        rw [HG0.out]
        refine hK _ _ ?_
        clear hK KK
        try simp only [Act.put, List.getElem_toArray, List.getElem_cons_succ, List.getElem_cons_zero, List.setIfInBounds_toArray, List.set_cons_zero, List.set_cons_succ]
        have HX : Hid (Lst (u0.alloc (.cells #[.int .i64 x] TI)) (some ⟨GX, 0, none⟩) 1 [.int .i64 x]) := Lib.hid (by rw [← HG0.out]; exact lst_row u0 TI [.int .i64 x])
        have HBV : Hid (Below w.heap.size w (u0.alloc (.cells #[.int .i64 x] TI))) := Lib.hid (HBU.out.trans ((bel_new u0 _).mono HBU.out.size))
        clear HBU HG0
        generalize u0.alloc (.cells #[.int .i64 x] TI) = u6 at HX HBV ⊢
        have HBU := HBV
        clear HBV
        refine wpAny_ready (rs := [0]) (by kernel_rfl) (by simp) ?_
        refine AllReady.cons rfl (fun KK hK => ?_) AllReady.nil
        obtain ⟨G0, HG0⟩ : ∃ g, Hid (u6.heap.size = g) := ⟨_, Lib.hid rfl⟩
        go_simp
        rw [HG0.out]
        refine hK _ _ ?_
        clear hK KK
        try simp only [Act.put, List.getElem_toArray, List.getElem_cons_succ, List.getElem_cons_zero, List.setIfInBounds_toArray, List.set_cons_zero, List.set_cons_succ]
        have HV : Hid ((u6.alloc (.cells #[] TI)).ownsRow w.heap.size TI 1 (.slice (some ⟨G0, 0, none⟩) 0 0) 0 []) := Lib.hid (by rw [← HG0.out]; exact row_mono (own_empty u6 TI) HBU.out.size)
        have HNE : Hid (GX ≠ G0) := Lib.hid (by obtain ⟨b1, o1, e, h, _⟩ := HX.out.2 (by omega); injection e with e; injection e with e _; have := HG0.out; omega)
        have HX2 : Hid (Lst (u6.alloc (.cells #[] TI)) (some ⟨GX, 0, none⟩) 1 [.int .i64 x]) := Lib.hid (HX.out.kept (bel_new _ _))
        have HBV : Hid (Below w.heap.size w (u6.alloc (.cells #[] TI))) := Lib.hid (HBU.out.trans ((bel_new u6 _).mono HBU.out.size))
        clear HBU HX HG0
        generalize u6.alloc (.cells #[] TI) = u7 at HV HBV HX2 ⊢
        have HBU := HBV
        clear HBV
        have HX := HX2
        clear HX2
        refine wpAny_ready (rs := [4]) (by kernel_rfl) (by simp) ?_
        refine AllReady.cons rfl (fun KK hK => ?_) AllReady.nil
        obtain ⟨v4, u8, hr4, ho4, hb4, ⟨g4, hg4⟩, hw4⟩ := append_lst (c := c) rfl HV.out (lst_take (HL.out.kept HBU.out) hkn) (fun z hz => iV_one l z (List.mem_of_mem_take hz)) (by omega) HBU.out.size 40
        rw [if_pos (by rfl)]
        refine upon_app (.tmp 33) (.tmp 36) 40 rfl rfl rfl hr4 ?_
        refine hK _ _ ?_
        clear hK KK
        try simp only [Act.put, List.getElem_toArray, List.getElem_cons_succ, List.getElem_cons_zero, List.setIfInBounds_toArray, List.set_cons_zero, List.set_cons_succ]
        have HV2 := Lib.hid ho4
        have HG4 := Lib.hid hg4
        have HBV : Hid (Below w.heap.size w u8) := Lib.hid (HBU.out.trans hb4)
        have HX2 : Hid (Lst u8 (some ⟨GX, 0, none⟩) 1 [.int .i64 x]) := Lib.hid (HX.out.touch (show Wrote G0 _ _ from hw4) (fun b1 o1 e => by injection e with e; injection e with e _; rw [← e]; exact HNE.out))
        clear HBU HV hr4 ho4 hb4 hg4 hw4 HX
        have HV := HV2
        have HBU := HBV
        clear HV2 HBV
        have HX := HX2
        clear HX2
        refine wpAny_ready (rs := [7]) (by kernel_rfl) (by simp) ?_
        refine AllReady.cons rfl (fun KK hK => ?_) AllReady.nil
        obtain ⟨v7, u7, hr7, ho7, hb7, ⟨g7, hg7⟩, _⟩ := append_lst (c := 1) HG4.out HV.out HX.out (by intro z hz; simp at hz; subst hz; rfl) (by omega) HBU.out.size 40
        rw [if_pos (by rfl)]
        refine upon_app (.tmp 37) (.tmp 39) 40 rfl rfl rfl hr7 ?_
        refine hK _ _ ?_
        clear hK KK
        try simp only [Act.put, List.getElem_toArray, List.getElem_cons_succ, List.getElem_cons_zero, List.setIfInBounds_toArray, List.set_cons_zero, List.set_cons_succ]
        have HV7 := Lib.hid ho7
        have HG7 := Lib.hid hg7
        have HB7 : Hid (Below w.heap.size w u7) := Lib.hid (HBU.out.trans hb7)
        clear HBU HV HX HG4 hr7 ho7 hb7 hg7
        refine wpAny_ready (rs := [11]) (by kernel_rfl) (by simp) ?_
        refine AllReady.cons rfl (fun KK hK => ?_) AllReady.nil
        obtain ⟨v9, u9, hr9, ho9, hb9, _, _⟩ := append_lst (c := c - k) HG7.out HV7.out (lst_drop (HL.out.kept HB7.out) hkn HNC.out HDK.out) (fun z hz => iV_one l z (List.mem_of_mem_drop hz)) (by have := HDN.out; omega) HB7.out.size 40
        rw [if_pos (by rfl)]
        refine upon_app (.tmp 40) (.tmp 43) 40 rfl rfl rfl hr9 ?_
        refine hK _ _ ?_
        clear hK KK
        try simp only [Act.put, List.getElem_toArray, List.getElem_cons_succ, List.getElem_cons_zero, List.setIfInBounds_toArray, List.set_cons_zero, List.set_cons_succ]
        obtain ⟨A9, c9, hv9, _, hl9⟩ := row_lst ho9
        subst hv9
        have HL9 := Lib.hid (row_mono ho9 HBB.out)
        have HB9 : Hid (Below w.heap.size w u9) := Lib.hid (HB7.out.trans hb9)
        clear HB7 HV7 HG7 hr9 ho9 hb9 hl9
        refine wpAny_ready (rs := [12]) (by kernel_rfl) (by simp) ?_
        refine AllReady.cons rfl (fun KK hK => ?_) AllReady.nil
        go_simp
        refine hK _ _ ?_
        clear hK KK
        try simp only [Act.put, List.getElem_toArray, List.getElem_cons_succ, List.getElem_cons_zero, List.setIfInBounds_toArray, List.set_cons_zero, List.set_cons_succ]
        refine wpAny_done (by kernel_rfl) ?_ _
        go_wp2
        go_ret
        exact ⟨A9, c9, (show Ending.returned (.slice A9 (k + 1 + dk) c9) = _ from by rw [show (k + 1 + dk) = 0 + k + 1 + dk by omega]; exact HRV.out A9 c9), HRL.out u9 A9 c9 HL9.out, HB9.out⟩


end Go.Proofs.YtanhblokhcaoiaaDoor.Tr
