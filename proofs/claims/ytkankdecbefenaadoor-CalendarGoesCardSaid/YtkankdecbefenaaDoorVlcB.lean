/- The contract of package valid's Spans: the document's own spans. -/
import Derived.Test.YtkankdecbefenaaDoorVlcA
import Derived.Test.YtkankdecbefenaaDoorPlnP
import Derived.Test.YtkankdecbefenaaDoorPlnG
import Derived.Test.YtkankdecbefenaaDoorPlnR
namespace Go.Proofs.YtkankdecbefenaaDoor.Ly7
open Go.ChangeShapes Go.WideShapes Go.ChangeAt Go.RowKit Base
set_option linter.unusedVariables false
set_option linter.unusedSimpArgs false

theorem spL_next {L : List Sl} {k : Nat} {x : Sl} (hx : L[k]? = some x) : spL (L.take (k + 1)) = spStep (spL (L.take k)) x := by
  rw [List.take_add_one, hx]
  exact spL_snoc _ _
theorem spL_view (ver : Nat) (ws : List Wd) : spL (viewL ver (-1) ws) = PS ver ws ws.length := by
  unfold viewL PS
  rw [spL_snoc, List.take_length]
  unfold spStep slLast
  rw [if_neg (by simp), if_neg (by simp)]
/-- What package valid's Spans has so far. -/
def VS (w : World) (N : Nat) (L : List Sl) (o f l i : Value) (wx : World) : Prop :=
  ∃ (k : Nat) (xs : List Int) (fi la : Int), k ≤ N ∧ i = .int .i64 k ∧ spL (L.take k) = (xs, fi, la) ∧ f = .int .i64 fi ∧ l = .int .i64 la ∧ (xs.length ≤ k ∧ 0 ≤ fi ∧ fi ≤ 10000000 ∧ 0 ≤ la ∧ la ≤ 10000000) ∧ wx.ownsRow w.heap.size 3 1 o xs.length (inV xs) ∧ Below w.heap.size w wx
theorem VS_long {w : World} {N : Nat} {L : List Sl} {k : Nat} {x : Sl} (hk : k < N) (hx : L[k]? = some x) (h : x.k = 3) {xs : List Int} {fi la T : Int} (hp : spL (L.take k) = (xs, fi, la)) (hT : (x.s + 60) / 20 = T) (hb : xs.length ≤ k ∧ 0 ≤ T ∧ T ≤ 10000000) {o : Value} {wx : World} (ho : wx.ownsRow w.heap.size 3 1 o xs.length (inV xs)) (hB : Below w.heap.size w wx) :
    VS w N L o (.int .i64 T) (.int .i64 T) (.int .i64 ((k + 1 : Nat) : Int)) wx := by
  refine ⟨k + 1, xs, T, T, by omega, rfl, ?_, rfl, rfl, ⟨by omega, by omega, by omega, by omega, by omega⟩, ho, hB⟩
  rw [spL_next hx, hp]
  unfold spStep
  rw [if_pos h, hT]
theorem VS_short {w : World} {N : Nat} {L : List Sl} {k : Nat} {x : Sl} (hk : k < N) (hx : L[k]? = some x) (h : x.k = 2) {xs : List Int} {fi la T : Int} (hp : spL (L.take k) = (xs, fi, la)) (hT : (x.s + 40) / 20 = T) (hb : xs.length ≤ k ∧ 0 ≤ T ∧ T ≤ 10000000) (hf : 0 ≤ fi ∧ fi ≤ 10000000) {o : Value} {wx : World} {nq : Nat} (hn : xs.length = nq) (ho : wx.ownsRow w.heap.size 3 1 o (nq + 1) (inV xs ++ [.int .i64 (T - la)])) (hB : Below w.heap.size w wx) :
    VS w N L o (.int .i64 fi) (.int .i64 T) (.int .i64 ((k + 1 : Nat) : Int)) wx := by
  refine ⟨k + 1, xs ++ [T - la], fi, T, by omega, rfl, ?_, rfl, rfl, ⟨by simp; omega, by omega, by omega, by omega, by omega⟩, by simpa [inV, hn] using ho, hB⟩
  rw [spL_next hx, hp]
  unfold spStep
  rw [if_neg (by omega), if_pos h, hT]
theorem VS_not {w : World} {N : Nat} {L : List Sl} {k : Nat} {x : Sl} (hk : k < N) (hx : L[k]? = some x) (h : x.k ≠ 2) (h3 : x.k ≠ 3) {xs : List Int} {fi la : Int} (hp : spL (L.take k) = (xs, fi, la)) (hb : xs.length ≤ k ∧ 0 ≤ la ∧ la ≤ 10000000) (hf : 0 ≤ fi ∧ fi ≤ 10000000) {o : Value} {wx : World} {nq : Nat} (hn : xs.length = nq) (ho : wx.ownsRow w.heap.size 3 1 o nq (inV xs)) (hB : Below w.heap.size w wx) :
    VS w N L o (.int .i64 fi) (.int .i64 la) (.int .i64 ((k + 1 : Nat) : Int)) wx := by
  refine ⟨k + 1, xs, fi, la, by omega, rfl, ?_, rfl, rfl, ⟨by omega, by omega, by omega, by omega, by omega⟩, by rw [hn]; exact ho, hB⟩
  rw [spL_next hx, hp]
  unfold spStep
  rw [if_neg h3, if_neg h]
set_option maxRecDepth 100000 in
set_option maxHeartbeats 1000000 in
theorem spans_any (A : Option Addr) (n c : Nat) (ver : Nat) (ws : List Wd) (w : World) (hv : ver < 2) (hW : WinsAt w A n ws) (hn : n ≤ 900) :
    Calls Tryd.prog 24 #[.slice A n c, .int .i64 (ver : Int)] w fun e w' => ∃ v, e = .returned v ∧ Hid (w'.ownsRow w.heap.size 3 1 v (spanF ver ws).length (inV (spanF ver ws))) ∧ Hid (Below w.heap.size w w') := by
  obtain ⟨i0, hi, hz0, hz1, hz2⟩ := info_parts info_int
  have HW := Lib.hid hW
  have v1i : ¬ ((1 : Int) < (ver : Int)) := by omega
  have v2 : ver < 2 := hv
  obtain ⟨gb, HGB⟩ : ∃ gb, Hid (w.heap.size = gb) := ⟨_, Lib.hid rfl⟩
  clear hW
  go_enter Tryd.func24, Tryd.ntmps24
  go_upto_region 4 with (fail)
  obtain ⟨W1, HW1⟩ : ∃ W1, W1 = w.alloc (.cells #[.int .i64 0, .slice none 0 0, .slice none 0 0] 25) := ⟨_, rfl⟩
  have HB1 : Hid (Below w.heap.size w W1) := Lib.hid (by rw [HW1]; exact bel1 _ _)
  have HOB1 : Hid (Obj1 W1 gb 25 #[.int .i64 0, .slice none 0 0, .slice none 0 0]) := Lib.hid (by rw [HW1, ← HGB.out]; exact Obj1.new _ _ _)
  rw [← HW1, HGB.out]
  clear HW1
  have d1 := HOB1.out.cell 1
  have d2 := HOB1.out.cell 2
  have f1 := HOB1.out.free 1
  have f2 := HOB1.out.free 2
  simp at d1 d2
  obtain ⟨A0, n0, c0, A1, n1, c1, W3, HV, HOB, HB3, HW3⟩ : ∃ A0 n0 c0 A1 n1 c1 W3, Hid ((ver = 0 ∧ A = A0 ∧ n = n0 ∧ c = c0) ∨ (ver = 1 ∧ A = A1 ∧ n = n1 ∧ c = c1)) ∧ Hid (Obj1 W3 gb 25 #[.int .i64 0, .slice A0 n0 c0, .slice A1 n1 c1]) ∧ Hid (Below w.heap.size w W3) ∧ W1.setCell ⟨gb, 1 + ver, none⟩ (.slice A n c) = W3 := by
    have hs := HOB1.out
    have hbw : Below w.heap.size w (W1.setCell ⟨gb, 1 + ver, none⟩ (.slice A n c)) := ((Wrote.refl gb W1).set (p := ⟨gb, 1 + ver, none⟩) (.inl rfl) (.slice A n c)).below (by rw [← HGB.out]; exact Nat.le_refl _) HB1.out.size |> HB1.out.trans
    rcases (show ver = 0 ∨ ver = 1 by omega) with rfl | rfl
    · exact ⟨A, n, c, none, 0, 0, _, Lib.hid (.inl ⟨rfl, rfl, rfl, rfl⟩), Lib.hid (hs.set 1 (.slice A n c)), Lib.hid hbw, rfl⟩
    · exact ⟨none, 0, 0, A, n, c, _, Lib.hid (.inr ⟨rfl, rfl, rfl, rfl⟩), Lib.hid (hs.set 2 (.slice A n c)), Lib.hid hbw, rfl⟩
  have dv : W1.cell? ⟨gb, 1 + ver, none⟩ = some (.slice none 0 0) := by
    rcases (show ver = 0 ∨ ver = 1 by omega) with rfl | rfl
    · exact d1
    · exact d2
  have fv := HOB1.out.free (1 + ver)
  clear d1 d2
  go_upto_region 5 with (fail)
  try rw [HW3]
  clear HW3 dv f1 f2 fv
  have HVW := Lib.hid (view_any 0 A0 n0 c0 A1 n1 c1 A n c ver (-1) ws W3 HV.out (HW.out.kept HB3.out) (by omega))
  have d0 := HOB.out.cell 0
  have d1 := HOB.out.cell 1
  have d2 := HOB.out.cell 2
  simp at d0 d1 d2
  go_wp2_with fail
  refine HVW.out.mono ?_
  rintro e w3 ⟨v3, rfl, HR3, HB4⟩
  obtain ⟨L, HL⟩ : ∃ L, Hid (viewL ver (-1) ws = L) := ⟨_, Lib.hid rfl⟩
  rw [HL.out] at HR3
  have HLK : Hid (∀ z ∈ L, Kd z) := Lib.hid (by rw [← HL.out]; exact view_kd ver hv (-1) ws)
  have HLB : Hid (∀ z ∈ L, 0 ≤ z.l ∧ z.l ≤ 20000) := Lib.hid (fun z hz => ⟨(HLK.out z hz).1, (HLK.out z hz).2.1⟩)
  have HLC : Hid (Chain L 0) := Lib.hid (by rw [← HL.out]; exact chain_view ver (-1) ws)
  have hLN : L.length ≤ 902 := by
    have := view_len ver (-1) ws
    rw [HL.out, HW.out.len] at this
    omega
  obtain ⟨A3, c3, rfl, hs3⟩ := slots_own HR3.out rfl
  have HS3 := Lib.hid hs3
  obtain ⟨N, HN⟩ : ∃ N, Hid (L.length = N) := ⟨_, Lib.hid rfl⟩
  rw [HN.out] at HS3 hLN ⊢
  have HOB4 := Lib.hid (HOB.out.kept HB4.out)
  have HC4 := Lib.hid (HB3.out.trans (HB4.out.mono HB3.out.size))
  clear d0 d1 d2 HVW hs3 HR3 HOB HB4
  go_wp2_with fail
  go_loopw [6, 7, 8, 28] (fun o f l i wx => VS w3 N L o f l i wx) (fun _ _ _ i _ => N - (intOf i).toNat)
  case atStart => exact ⟨0, [], 0, 0, by omega, rfl, rfl, rfl, rfl, ⟨by simp, by omega, by omega, by omega, by omega⟩, ⟨rfl, .inl ⟨rfl, rfl⟩⟩, Below.refl _ _⟩
  case round =>
    obtain ⟨k, xs, fi, la, hk, rfl, hp, rfl, rfl, ⟨hnk, hf0, hf1, hl0, hl1⟩, hown, hbel⟩ := hrel
    have HBEL := Lib.hid hbel
    have HP := Lib.hid hp
    obtain ⟨nq, HNQ⟩ : ∃ nq, Hid (xs.length = nq) := ⟨_, Lib.hid rfl⟩
    rw [HNQ.out] at hown
    have hnq : nq ≤ 902 := by have := HNQ.out; omega
    have HXK := Lib.hid hnk
    have HOW := Lib.hid hown
    clear hown hp hnk
    by_cases hlt : k < N
    · have hki : (k : Int) < (N : Int) := by omega
      have hkl : k < L.length := by rw [HN.out]; exact hlt
      obtain ⟨x, hx⟩ : ∃ x, L[k]? = some x := ⟨_, List.getElem?_eq_getElem hkl⟩
      have hxm : x ∈ L := List.mem_of_getElem? hx
      have hkd := HLK.out x hxm
      have hsb := sum_bd (L.take k) (fun z hz => HLB.out z (List.mem_of_mem_take hz))
      have hlk : (L.take k).length ≤ 902 := by rw [List.length_take]; omega
      have hch := chain_at L 0 k x HLC.out hx
      obtain ⟨b3, o3, rfl, hb3, k0, k1, k2, k3, k4, k5, k6, k7⟩ := (HS3.out.kept HBEL.out).eight hlt hx
      have hxs : 0 ≤ x.s ∧ x.s ≤ 20000000 := by omega
      have l0 := hkd.1
      have l1 := hkd.2.1
      obtain ⟨a, b, hp⟩ := pls_ex x.k x.l
      have hab : -80 ≤ a ∧ a ≤ 20000 := by unfold Pls at hp; omega
      have hws : 0 ≤ x.s + a := by
        unfold Pls at hp
        rcases hkd.2.2 with ⟨h, h'⟩ | ⟨h, h'⟩ | ⟨h, h'⟩ | h | ⟨h, u, q, _, _, h2, h3, h4, h5⟩
        all_goals
          rw [h] at hp
          simp at hp
          omega
      have HPU := Lib.hid (fun W => pulse_any x.k x.s x.l x.wo x.ad x.mn x.cn a b x.tk W l0 (by omega) hp)
      have HA3 : Hid (x.k = 3 → a = 60) := Lib.hid (fun h => by unfold Pls at hp; rw [h] at hp; simp at hp; omega)
      have HA2 : Hid (x.k = 2 → a = 40) := Lib.hid (fun h => by unfold Pls at hp; rw [h] at hp; simp at hp; omega)
      have HX := Lib.hid hx
      clear hx hsb hlk hch hkd hp hxm
      go_upto_region 10 with (fail)
      obtain ⟨gx, HGX⟩ : ∃ gx, Hid (wr.heap.size = gx) := ⟨_, Lib.hid rfl⟩
      obtain ⟨W5, HW5⟩ : ∃ W5, W5 = wr.alloc (.cells #[.int .i64 x.k, .int .i64 x.s, .int .i64 x.l, .int .i64 x.wo, .int .i64 x.ad, .int .i64 x.mn, .int .i64 x.cn, .bool x.tk] 52) := ⟨_, rfl⟩
      have HOX : Hid (Obj1 W5 gx 52 #[.int .i64 x.k, .int .i64 x.s, .int .i64 x.l, .int .i64 x.wo, .int .i64 x.ad, .int .i64 x.mn, .int .i64 x.cn, .bool x.tk]) := Lib.hid (by rw [HW5, ← HGX.out]; exact Obj1.new _ _ _)
      have HB5 : Hid (Below wr.heap.size wr W5) := Lib.hid (by rw [HW5]; exact bel1 _ _)
      have HOW5 := Lib.hid (own_kept HOW.out HB5.out)
      rw [← HW5, HGX.out]
      clear HW5 k0 k1 k2 k3 k4 k5 k6 k7 hb3 HOW hbel
      have q0 := HOX.out.cell 0
      have q1 := HOX.out.cell 1
      have q2 := HOX.out.cell 2
      have q3 := HOX.out.cell 3
      have q4 := HOX.out.cell 4
      have q5 := HOX.out.cell 5
      have q6 := HOX.out.cell 6
      have q7 := HOX.out.cell 7
      simp at q0 q1 q2 q3 q4 q5 q6 q7
      go_wp2_with fail
      refine (HPU.out _).mono ?_
      rintro e w6 ⟨rfl, hb6⟩
      have HOX6 := Lib.hid (HOX.out.kept hb6)
      have HB6 := Lib.hid (HB5.out.trans (hb6.mono HB5.out.size))
      have HOW6 := Lib.hid (own_kept HOW5.out hb6)
      clear q0 q1 q2 q3 q4 q5 q6 q7 hb6 HPU HOX HB5 HOW5
      have HB9 := Lib.hid (HBEL.out.trans (HB6.out.mono HBEL.out.size))
      have q0 := HOX6.out.cell 0
      have q1 := HOX6.out.cell 1
      simp at q0 q1
      have e1 : IntKind.i64.wrap (x.s + a) = x.s + a := IntWalk.i64_in _ (by omega)
      obtain ⟨T, hT, hT0, HTD⟩ : ∃ T : Int, Int.tdiv (x.s + a) 20 = T ∧ (0 ≤ T ∧ T ≤ 10000000) ∧ Hid ((x.s + a) / 20 = T) := ⟨_, rfl, by rw [Int.tdiv_eq_ediv_of_nonneg hws]; omega, Lib.hid (Int.tdiv_eq_ediv_of_nonneg hws).symm⟩
      have e2 : IntKind.i64.wrap T = T := IntWalk.i64_in _ (by omega)
      have e3 : IntKind.i64.wrap (T - la) = T - la := IntWalk.i64_in _ (by omega)
      by_cases hk3 : x.k = 3
      · have HKK := Lib.hid hk3
        have HTT : Hid ((x.s + 60) / 20 = T) := Lib.hid (by have := HTD.out; rw [HA3.out hk3] at this; exact this)
        rw [hk3] at q0
        clear hk3
        go_wp2
        go_roundw
        case rel => exact VS_long hlt HX.out HKK.out HP.out HTT.out ⟨HXK.out, hT0.1, hT0.2⟩ (by rw [HNQ.out]; exact HOW6.out) HB9.out
        case measure => simp [intOf]; omega
      · by_cases hk2 : x.k = 2
        · have HKK := Lib.hid hk2
          have HTT : Hid ((x.s + 40) / 20 = T) := Lib.hid (by have := HTD.out; rw [HA2.out hk2] at this; exact this)
          rw [hk2] at q0
          clear hk2 hk3
          go_wp2_with (at_builtin; refine push1 _ rfl (.tmp 50) (.tmp 54) 54 rfl w3.heap.size 3 i0 (.int .i64 0) 8 Tryd.underlying54 hi hz0 hz1 hz2 rfl _ _ _ rfl HOW6.out (.int .i64 (T - la)) _ rfl rfl (by unfold maxLen; omega) (by omega) HB9.out.size ?_; intro v2 w7 hown2 hbel2)
          go_roundw
          case rel => exact VS_short hlt HX.out HKK.out HP.out HTT.out ⟨HXK.out, hT0.1, hT0.2⟩ ⟨hf0, hf1⟩ HNQ.out hown2 (HB9.out.trans hbel2)
          case measure => simp [intOf]; omega
        · have HK2 := Lib.hid hk2
          have HK3 := Lib.hid hk3
          have hk3b : (x.k == 3) = false := by simpa using hk3
          have hk2b : (x.k == 2) = false := by simpa using hk2
          clear hk2 hk3
          go_wp2
          go_roundw
          case rel => exact VS_not hlt HX.out HK2.out HK3.out HP.out ⟨HXK.out, hl0, hl1⟩ ⟨hf0, hf1⟩ HNQ.out HOW6.out HB9.out
          case measure => simp [intOf]; omega
    · obtain rfl : k = N := by omega
      have HE : Hid (spL L = (xs, fi, la)) := Lib.hid (by have := HP.out; rwa [← HN.out, List.take_length] at this)
      have HE2 : Hid (PS ver ws ws.length = (xs, fi, la)) := Lib.hid (by rw [← spL_view, HL.out]; exact HE.out)
      obtain rfl : fi = 3 := by have := (PS_all ver ws ws.length).2.1; rw [HE2.out] at this; exact this
      have hlead : 0 ≤ leadI ver ∧ leadI ver ≤ 240 := by unfold leadI; omega
      have hend := endS_bd ws (leadI ver)
      have hwl : ws.length ≤ 900 := by rw [HW.out.len]; exact hn
      obtain ⟨E, HEE⟩ : ∃ E, Hid (endS ws (leadI ver) = E) := ⟨_, Lib.hid rfl⟩
      rw [HEE.out] at hend
      have hE : 0 ≤ E ∧ E ≤ 100000000 := by omega
      have HSP : Hid (spanF ver ws = xs ++ [E / 20 + 6 + 3 - la]) := Lib.hid (by
        unfold spanF
        rw [HE2.out, HEE.out])
      have HFR : Hid (∀ W, WinsAt W A n ws → Calls Tryd.prog 14 #[.agg #[.int .i64 0, .slice A0 n0 c0, .slice A1 n1 c1], .int .i64 (ver : Int)] W fun e w' => e = .returned (.int .i64 (E + 120)) ∧ Below W.heap.size W w') := Lib.hid (fun W h => by
        have := frame_any 0 A0 n0 c0 A1 n1 c1 A n c ver ws W HV.out h (by omega)
        rwa [HEE.out] at this)
      have HWR := Lib.hid (HW.out.kept (HC4.out.trans (HBEL.out.mono HC4.out.size)))
      have HOB5 := Lib.hid (HOB4.out.kept HBEL.out)
      have d0 := HOB5.out.cell 0
      have d1 := HOB5.out.cell 1
      have d2 := HOB5.out.cell 2
      simp at d0 d1 d2
      have hT : Int.tdiv (E + 120) 20 = E / 20 + 6 := by rw [Int.tdiv_eq_ediv_of_nonneg (by omega)]; omega
      have e1 : IntKind.i64.wrap (E / 20 + 6) = E / 20 + 6 := IntWalk.i64_in _ (by omega)
      have e2 : IntKind.i64.wrap (E / 20 + 6 + 3) = E / 20 + 6 + 3 := IntWalk.i64_in _ (by omega)
      have e3 : IntKind.i64.wrap (E / 20 + 6 + 3 - la) = E / 20 + 6 + 3 - la := IntWalk.i64_in _ (by omega)
      clear hbel hend
      go_wp2_with fail
      refine (HFR.out _ HWR.out).mono ?_
      rintro e w6 ⟨rfl, hb6⟩
      have HOW6 := Lib.hid (own_kept HOW.out hb6)
      have HB9 := Lib.hid (HBEL.out.trans (hb6.mono HBEL.out.size))
      clear d0 d1 d2 hb6 HOW
      go_wp2_with (at_builtin; refine push1 _ rfl (.tmp 58) (.tmp 67) 54 rfl w3.heap.size 3 i0 (.int .i64 0) 8 Tryd.underlying54 hi hz0 hz1 hz2 rfl _ _ _ rfl HOW6.out (.int .i64 (E / 20 + 6 + 3 - la)) _ rfl rfl (by unfold maxLen; omega) (by omega) HB9.out.size ?_; intro v2 w7 hown2 hbel2)
      go_ret
      refine ⟨v2, rfl, Lib.hid ?_, Lib.hid (HC4.out.trans ((HB9.out.trans hbel2).mono HC4.out.size))⟩
      rw [HSP.out, List.length_append, HNQ.out]
      simpa [inV] using own_base hown2 HC4.out.size
end Go.Proofs.YtkankdecbefenaaDoor.Ly7
