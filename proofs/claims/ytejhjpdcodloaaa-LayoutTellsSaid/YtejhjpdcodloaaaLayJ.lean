/- Which parts meet, as pairs: the contract of package layout's Over; no condition but sizes. -/
import Derived.RegionTactic
import Derived.Test.YtejhjpdcodloaaaLayI
namespace Go.Proofs.Ytejhjpdcodloaaa.Ly42
open Go.ChangeShapes Go.WideShapes Go.ChangeAt Go.RowKit Base
set_option linter.unusedVariables false
set_option linter.unusedSimpArgs false

def atP (l : List Pt) (i : Nat) : Pt := l.getD i ⟨0, 0⟩
theorem atP_is {l : List Pt} {i : Nat} {x : Pt} (h : l[i]? = some x) : atP l i = x := by unfold atP; rw [List.getD_eq_getElem?_getD, h]; rfl
/-- The right ones below k. -/
def rix (l : List Pt) (k : Nat) : List Nat := (List.range k).filter (fun i => rB (atP l i))
theorem rix_next (l : List Pt) (k : Nat) : rix l (k + 1) = if rB (atP l k) = true then rix l k ++ [k] else rix l k := by
  unfold rix
  rw [List.range_succ, List.filter_append]
  by_cases h : rB (atP l k) = true <;> simp [List.filter_cons, h]
theorem rix_len (l : List Pt) (k : Nat) : (rix l k).length ≤ k := by
  have := List.length_filter_le (fun i => rB (atP l i)) (List.range k)
  rwa [List.length_range] at this
theorem rix_lt {l : List Pt} {k i : Nat} (h : i ∈ rix l k) : i < k := by
  unfold rix at h
  exact List.mem_range.1 (List.mem_filter.1 h).1
def ovJ (l : List Pt) (i : Nat) (js : List Nat) : List Pt := (js.filter (fun j => mB (atP l i) (atP l j))).map (fun (j : Nat) => (⟨(i : Int), (j : Int)⟩ : Pt))
def ovA (l : List Pt) : List Nat → List Pt
  | [] => []
  | a :: r => ovJ l a r ++ ovA l r
theorem ovJ_cons (l : List Pt) (i j : Nat) (js : List Nat) : ovJ l i (j :: js) = (if mB (atP l i) (atP l j) = true then [⟨(i : Int), (j : Int)⟩] else []) ++ ovJ l i js := by
  unfold ovJ
  by_cases h : mB (atP l i) (atP l j) = true <;> simp [List.filter_cons, h]
/-- What is not right meets nothing. -/
theorem mB_right {x o : Pt} (h : mB x o = true) : rB x = true ∧ rB o = true := by
  unfold mB at h
  simp only [Bool.and_eq_true] at h
  exact ⟨h.1.1.1, h.1.1.2⟩
theorem ovJ_filter (l : List Pt) (i : Nat) : ∀ js : List Nat, ovJ l i (js.filter (fun j => rB (atP l j))) = ovJ l i js
  | [] => rfl
  | j :: js => by
    rw [ovJ_cons, List.filter_cons]
    by_cases h : rB (atP l j) = true
    · rw [if_pos h, ovJ_cons, ovJ_filter l i js]
    · rw [if_neg h, if_neg (fun q => h (mB_right q).2), List.nil_append, ovJ_filter l i js]
theorem ovA_filter (l : List Pt) : ∀ js : List Nat, ovA l (js.filter (fun j => rB (atP l j))) = ovA l js
  | [] => rfl
  | a :: r => by
    rw [List.filter_cons]
    by_cases h : rB (atP l a) = true
    · rw [if_pos h]
      show ovJ l a _ ++ ovA l _ = ovJ l a r ++ ovA l r
      rw [ovJ_filter, ovA_filter l r]
    · rw [if_neg h]
      show _ = ovJ l a r ++ ovA l r
      have : ovJ l a r = [] := by
        unfold ovJ
        rw [List.filter_eq_nil_iff.2 (fun j _ q => h (mB_right q).1)]
        rfl
      rw [this, List.nil_append, ovA_filter l r]
theorem ovJ_len (l : List Pt) (i : Nat) (js : List Nat) : (ovJ l i js).length ≤ js.length := by
  unfold ovJ
  rw [List.length_map]
  exact List.length_filter_le _ _
theorem ovA_len (l : List Pt) : ∀ js : List Nat, (ovA l js).length ≤ js.length * js.length
  | [] => Nat.le_refl _
  | a :: r => by
    show (ovJ l a r ++ ovA l r).length ≤ _
    have h1 := ovJ_len l a r
    have h2 := ovA_len l r
    have h3 : (r.length + 1) * (r.length + 1) = r.length * r.length + 2 * r.length + 1 := by
      rw [Nat.add_mul, Nat.mul_add]
      omega
    rw [List.length_append, List.length_cons, h3]
    omega
def ixC (rs : List Nat) : List Value := rs.map (fun (i : Nat) => Value.int .i64 (i : Int))
theorem one_ixC (rs : List Nat) : ∀ u ∈ ixC rs, u.oneCell' = true := by
  intro u hu
  obtain ⟨i, _, rfl⟩ := List.mem_map.1 hu
  rfl
theorem lst_row1 {w : World} {base : Nat} {T : TypeId} {v : Value} {n : Nat} {rs : List Nat} (h : w.ownsRow base T 1 v n (ixC rs)) : ∃ A c, v = .slice A n c ∧ n ≤ c ∧ Lst w A n (ixC rs) := by
  have hl := h.1
  rcases h.2 with ⟨rfl, h0⟩ | ⟨g, cap, cur, rfl, hb, hg, hnc, hcm, hcs, htake⟩
  · subst h0
    exact ⟨none, 0, rfl, Nat.le_refl _, by simpa using hl, fun h => absurd h (Nat.lt_irrefl _)⟩
  · refine ⟨_, cap, rfl, hnc, by simpa using hl, fun hn => ⟨g, 0, rfl, ?_, fun k hk => ?_⟩⟩
    · exact (Array.getElem?_eq_some_iff.1 hg).1
    · have h1 : w.cell? ⟨g, 0 + k, none⟩ = cur[0 + k]? := by simp [World.cell?, hg]
      rw [h1, Nat.zero_add]
      have h2 : (cur.toList.take (n * 1))[k]? = (ixC rs)[k]? := by rw [htake]
      rw [List.getElem?_take_of_lt (by simp at hl; omega)] at h2
      rw [← Array.getElem?_toList, h2]
      first | exact List.getElem?_eq_getElem _ | done
abbrev TI2 : TypeId := 62
theorem info_in : (Try.prog.info? 3).map (fun i => (i.zero, i.size, i.bytes)) = some (some (.int .i64 0), 1, 8) := by kernel_rfl
theorem info_i2 : (Try.prog.info? TI2).map (fun i => (i.zero, i.size, i.bytes)) = some (some (.agg #[.int .i64 0, .int .i64 0]), 2, 16) := by kernel_rfl
theorem info_parts1 {P : Program} {t : TypeId} {z : Value} {n b : Nat} (h : (P.info? t).map (fun i => (i.zero, i.size, i.bytes)) = some (some z, n, b)) : ∃ i, P.info? t = some i ∧ i.zero = some z ∧ i.size = n ∧ i.bytes = b := by
  cases hi : P.info? t with
  | none => rw [hi] at h; cases h
  | some i =>
    rw [hi] at h
    simp only [Option.map_some, Option.some.injEq, Prod.mk.injEq] at h
    exact ⟨i, rfl, h.1, h.2.1, h.2.2⟩
/-- The right ones, collected. -/
def I1 (l : List Pt) (w : World) (v i : Value) (wx : World) : Prop := ∃ k : Nat, k ≤ l.length ∧ i = .int .i64 k ∧ Hid (wx.ownsRow w.heap.size 3 1 v (rix l k).length (ixC (rix l k))) ∧ Below w.heap.size w wx
def I2 (T : List Pt) (l : List Pt) (rs : List Nat) (base : Nat) (w2 : World) (v i : Value) (wx : World) : Prop := ∃ (t : Nat) (ov : List Pt), t ≤ rs.length ∧ i = .int .i64 t ∧ Hid (wx.ownsRow base TI2 2 v ov.length (ptC ov)) ∧ Hid (ov ++ ovA l (rs.drop t) = T) ∧ Below w2.heap.size w2 wx
set_option maxRecDepth 100000 in
set_option maxHeartbeats 2000000 in
theorem over_any (A : Option Addr) (n c : Nat) (l : List Pt) (w : World) (hl : PtsAt w A n l) (hn : n ≤ 1000) :
    Calls Try.prog 23 #[.slice A n c] w fun e w' => ∃ B d, e = .returned (.slice B (ovA l (List.range n)).length d) ∧ Hid (PtsAt w' B (ovA l (List.range n)).length (ovA l (List.range n))) ∧ Hid (Below w.heap.size w w') := by
  have HL := Lib.hid hl
  have HLN : Hid (l.length = n) := Lib.hid hl.len
  obtain ⟨i0, hi, hz0, hz1, hz2⟩ := info_parts1 info_in
  obtain ⟨i2, hi2, hz20, hz21, hz22⟩ := info_parts1 info_i2
  have HR0 : Hid (w.ownsRow w.heap.size 3 1 (.slice none 0 0) 0 (ixC (rix l 0))) := Lib.hid ⟨rfl, .inl ⟨rfl, rfl⟩⟩
  have HX0 : Hid (Below w.heap.size w w) := Lib.hid (Below.refl _ _)
  obtain ⟨T, HTT⟩ : ∃ T, Hid (ovA l (List.range n) = T) := ⟨_, Lib.hid rfl⟩
  rw [HTT.out]
  clear hl
  go_enter Try.func23, Try.ntmps23
  go_wp2_with fail
  go_loopw [3, 13] (fun v i wx => I1 l w v i wx) (fun _ i _ => n - (intOf i).toNat)
  case atStart => exact ⟨0, by omega, rfl, HR0, HX0.out⟩
  case round =>
    clear HR0 HX0
    obtain ⟨k, hk, rfl, HROW, hbel⟩ := hrel
    rw [HLN.out] at hk
    have HBEL := Lib.hid hbel
    obtain ⟨RA, rc, rfl⟩ := row_slice HROW.out
    by_cases hlt : k < n
    · as_aux_lemma =>
      have hki : (k : Int) < (n : Int) := by omega
      have hkl : k < l.length := by rw [HLN.out]; exact hlt
      obtain ⟨x, hx⟩ : ∃ x, l[k]? = some x := ⟨_, List.getElem?_eq_getElem hkl⟩
      have HAT : Hid (atP l k = x) := Lib.hid (atP_is hx)
      obtain ⟨b, off, rfl, hb, k0, k1⟩ := (HL.out.kept hbel).two hlt hx
      obtain ⟨xa, xm⟩ := x
      simp only at k0 k1
      have hrl := rix_len l k
      clear hx hkl hb hbel
      go_upto_region 5 with (fail)
      obtain ⟨gx, HGX⟩ : ∃ gx, Hid (wr.heap.size = gx) := ⟨_, Lib.hid rfl⟩
      obtain ⟨W5, HW5⟩ : ∃ W5, Hid (W5 = wr.alloc (.cells #[.int .i64 xa, .int .i64 xm] TPt)) := ⟨_, Lib.hid rfl⟩
      have HOX : Hid (Obj1 W5 gx TPt #[.int .i64 xa, .int .i64 xm]) := Lib.hid (by rw [HW5.out, ← HGX.out]; exact Obj1.new _ _ _)
      have HB5 : Hid (Below wr.heap.size wr W5) := Lib.hid (by rw [HW5.out]; exact bel1 _ _)
      have HBW5 := Lib.hid (HBEL.out.trans (HB5.out.mono HBEL.out.size))
      have HR5 := Lib.hid (own_kept HROW.out HB5.out)
      rw [← HW5.out, HGX.out]
      clear HW5 k0 k1 HB5 HBEL HGX HROW
      have q0 := HOX.out.cell 0
      have q1 := HOX.out.cell 1
      simp at q0 q1
      have HRT := Lib.hid (right_any xa xm W5)
      obtain ⟨r, HRB⟩ : ∃ r, Hid (rB ⟨xa, xm⟩ = r) := ⟨_, Lib.hid rfl⟩
      rw [HRB.out] at HRT
      have HNX : Hid (rix l (k + 1) = if r = true then rix l k ++ [k] else rix l k) := Lib.hid (by rw [rix_next, HAT.out, HRB.out])
      obtain ⟨L, HLL⟩ : ∃ L, Hid (rix l k = L) := ⟨_, Lib.hid rfl⟩
      rw [HLL.out] at HNX HR5 hrl ⊢
      obtain ⟨N, hN⟩ : ∃ N, L.length = N := ⟨_, rfl⟩
      have HN := Lib.hid hN
      rw [hN] at HR5 hrl ⊢
      clear hN
      go_wp2_with fail
      refine HRT.out.mono ?_
      rintro e w6 ⟨rfl, hb6⟩
      have HB6 := Lib.hid (HBW5.out.trans (hb6.mono HBW5.out.size))
      have HR6 := Lib.hid (own_kept HR5.out hb6)
      clear q0 q1 hb6 HRT HR5 HBW5 HOX
      cases r with
      | false =>
        go_wp2
        go_roundw
        case rel => exact ⟨k + 1, by rw [HLN.out]; omega, by go_num, by rw [HNX.out, if_neg (by decide)]; exact Lib.hid (by rw [HN.out]; exact HR6.out), HB6.out⟩
        case measure => simp [intOf]; omega
      | true =>
        have HR7 := Lib.hid (HR6.out.alloc (.cells [Value.int .i64 (k : Int)].toArray 3))
        have HSZ : Hid (w.heap.size ≤ w6.heap.size) := Lib.hid HB6.out.size
        go_wp2_with (at_builtin; refine pushS _ rfl (.tmp 20) (.tmp 22) 42 rfl w.heap.size 3 i0 (.int .i64 0) 1 8 Try.underlying42 hi hz0 hz1 hz2 rfl (by decide) _ _ _ rfl HR7.out ⟨w6.heap.size, 0, none⟩ 1 1 [Value.int .i64 (k : Int)] rfl rfl (cell_new w6 [Value.int .i64 (k : Int)] 3) (by intro u hu; rw [List.mem_singleton.1 hu]; rfl) (by unfold maxLen; omega) (by omega) (by have := HSZ.out; simp; omega) ?_; intro v5 w5 O5 B5 G5 K5)
        have HB8 : Hid (Below w.heap.size w w5) := Lib.hid ((HB6.out.alloc HSZ.out _).trans B5.out)
        have HO8 : Hid (w5.ownsRow w.heap.size 3 1 v5 (N + 1) (ixC (L ++ [k]))) := Lib.hid (by unfold ixC; rw [List.map_append]; exact O5.out)
        have HLK : Hid ((L ++ [k]).length = N + 1) := Lib.hid (by simp [HN.out])
        clear O5 B5 G5 K5 HR7
        go_wp2
        go_roundw
        case rel => exact ⟨k + 1, by rw [HLN.out]; omega, by go_num, by rw [HNX.out]; first | rw [if_pos rfl] | rw [if_pos trivial]; exact Lib.hid (by rw [HLK.out]; exact HO8.out), HB8.out⟩
        case measure => simp [intOf]; omega
    · have hke : k = n := by omega
      subst hke
      obtain ⟨RA', rc', e9, hmc, hrs⟩ := lst_row1 HROW.out
      injection e9 with e1 _ e3
      subst e1 e3
      obtain ⟨rs, HRS⟩ : ∃ rs, Hid (rix l k = rs) := ⟨_, Lib.hid rfl⟩
      rw [HRS.out] at hrs hmc ⊢
      have hm := rix_len l k
      rw [HRS.out] at hm
      have HLTS : Hid (∀ i ∈ rs, i < k) := Lib.hid (fun i hi => rix_lt (by rw [HRS.out]; exact hi))
      have HTE : Hid (ovA l rs = ovA l (List.range k)) := Lib.hid (by rw [← HRS.out]; exact ovA_filter l _)
      have HT : Hid (ovA l rs = T) := Lib.hid (HTE.out.trans HTT.out)
      obtain ⟨m, HM⟩ : ∃ m, Hid (rs.length = m) := ⟨_, Lib.hid rfl⟩
      rw [HM.out] at hrs hmc hm ⊢
      have HRL := Lib.hid hrs
      have HP2 : Hid (PtsAt wr A k l) := Lib.hid (HL.out.kept hbel)
      have HMC := Lib.hid hmc
      have HV0 : Hid (wr.ownsRow wr.heap.size TI2 2 (.slice none 0 0) 0 (ptC [])) := Lib.hid ⟨rfl, .inl ⟨rfl, rfl⟩⟩
      have HXR : Hid (Below wr.heap.size wr wr) := Lib.hid (Below.refl _ _)
      obtain ⟨w2, HW2⟩ : ∃ w2, Hid (wr = w2) := ⟨_, Lib.hid rfl⟩
      rw [HW2.out] at HRL HP2 HV0 HXR HBEL ⊢
      clear hrs hbel HROW HTE hlt hmc
      go_wp2_with fail
      go_loopw [6, 27] (fun v i wx => ∃ (t : Nat) (ov : List Pt), t ≤ m ∧ i = .int .i64 t ∧ Hid (wx.ownsRow w2.heap.size TI2 2 v ov.length (ptC ov)) ∧ Hid (ov ++ ovA l (rs.drop t) = T) ∧ Below w2.heap.size w2 wx) (fun _ i _ => m - (intOf i).toNat)
      case atStart => exact ⟨0, [], by omega, rfl, HV0, Lib.hid (by rw [← HT.out]; rfl), HXR.out⟩
      case round =>
        clear HV0 HXR
        obtain ⟨t, ov, ht, rfl, HROW, HOV, hbel⟩ := hrel
        have HBT := Lib.hid hbel
        obtain ⟨OA, oc, rfl⟩ := row_slice HROW.out
        by_cases htm : t < m
        · as_aux_lemma =>
          have hti : (t : Int) < (m : Int) := by omega
          obtain ⟨gb, ob, rfl, hlt9, hc⟩ := (HRL.out.kept hbel).get htm
          have htl : t < rs.length := by rw [HM.out]; exact htm
          obtain ⟨a, ha⟩ : ∃ a, rs[t]? = some a := ⟨_, List.getElem?_eq_getElem htl⟩
          have hae : (ixC rs)[t]'(by simp [ixC]; exact htl) = .int .i64 (a : Int) := by
            unfold ixC
            rw [List.getElem_map]
            have := List.getElem?_eq_getElem htl
            rw [this] at ha
            rw [Option.some.inj ha]
          rw [hae] at hc
          have HA := Lib.hid ha
          have HMCo := HMC.out
          have e1 : IntKind.i64.wrap ((t : Int) + 1) = (t : Int) + 1 := IntWalk.i64_in _ (by omega)
          clear hbel hae ha htl hlt9
          go_upto_region 13 with (fail)
          case inl =>
            have hG : t + 1 = rc := by omega
            have HG := Lib.hid hG
            rw [hG]
            clear hG
            try (rename_i hh _; clear hh)
            obtain ⟨M, hM⟩ : ∃ M, m - rc = M := ⟨_, rfl⟩
            have HMM := Lib.hid hM
            rw [hM]
            obtain ⟨rest, HRE⟩ : ∃ r, Hid (rs.drop rc = r) := ⟨_, Lib.hid rfl⟩
            have HREL : Hid (rest.length = M) := Lib.hid (by rw [← HRE.out, List.length_drop, HM.out]; have := HG.out; omega)
            have HOV' : Hid (ov ++ (ovJ l a (rest.drop 0) ++ ovA l rest) = T) := Lib.hid (by
              have h := HOV.out
              rw [drop_next HA.out, HG.out, HRE.out] at h
              exact h)
            have HAK : Hid (a < k) := Lib.hid (HLTS.out a (List.mem_of_getElem? HA.out))
            have HMT : Hid (t < m) := Lib.hid htm
            clear hc e1 hti hM HOV HMCo htm
            go_wp2_with fail
            go_loopw [6, 37] (fun v i wx => ∃ (u : Nat) (o2 : List Pt), u ≤ M ∧ i = .int .i64 u ∧ Hid (wx.ownsRow w2.heap.size TI2 2 v o2.length (ptC o2)) ∧ Hid (o2 ++ (ovJ l a (rest.drop u) ++ ovA l rest) = T) ∧ Below w2.heap.size w2 wx) (fun _ i _ => M - (intOf i).toNat)
            case atStart => exact ⟨0, ov, by omega, rfl, HROW, HOV', HBT.out⟩
            case round =>
              clear HROW HOV'
              obtain ⟨u, o2, hu, rfl, HRW, HO2, hbu⟩ := hrel
              have HBU := Lib.hid hbu
              obtain ⟨UA, uc, rfl⟩ := row_slice HRW.out
              by_cases hum : u < M
              · exact absurd hum (by have := HMC.out; have := HMM.out; omega)
              · have hue : u = M := by omega
                subst hue
                have HOF : Hid (o2 ++ ovA l (rs.drop rc) = T) := Lib.hid (by
                  have h := HO2.out
                  rw [List.drop_of_length_le (by rw [HREL.out]; exact Nat.le_refl _)] at h
                  rw [HRE.out]
                  exact h)
                go_wp2
                go_roundw
                case rel => exact ⟨rc, o2, by have := HMT.out; have := HG.out; omega, by rw [← HG.out]; go_num, HRW, HOF, HBU.out⟩
                case measure => have := HMT.out; have := HG.out; simp [intOf]; omega
          case inr =>
            obtain ⟨M, hM⟩ : ∃ M, m - (t + 1) = M := ⟨_, rfl⟩
            have HMM := Lib.hid hM
            rw [hM]
            obtain ⟨rest, HRE⟩ : ∃ r, Hid (rs.drop (t + 1) = r) := ⟨_, Lib.hid rfl⟩
            have HREL : Hid (rest.length = M) := Lib.hid (by rw [← HRE.out, List.length_drop, HM.out];  omega)
            have HOV' : Hid (ov ++ (ovJ l a (rest.drop 0) ++ ovA l rest) = T) := Lib.hid (by
              have h := HOV.out
              rw [drop_next HA.out,  HRE.out] at h
              exact h)
            have HAK : Hid (a < k) := Lib.hid (HLTS.out a (List.mem_of_getElem? HA.out))
            have HMT : Hid (t < m) := Lib.hid htm
            clear hc e1 hti hM HOV HMCo htm
            go_wp2_with fail
            go_loopw [6, 37] (fun v i wx => ∃ (u : Nat) (o2 : List Pt), u ≤ M ∧ i = .int .i64 u ∧ Hid (wx.ownsRow w2.heap.size TI2 2 v o2.length (ptC o2)) ∧ Hid (o2 ++ (ovJ l a (rest.drop u) ++ ovA l rest) = T) ∧ Below w2.heap.size w2 wx) (fun _ i _ => M - (intOf i).toNat)
            case atStart => exact ⟨0, ov, by omega, rfl, HROW, HOV', HBT.out⟩
            case round =>
              clear HROW HOV'
              obtain ⟨u, o2, hu, rfl, HRW, HO2, hbu⟩ := hrel
              have HBU := Lib.hid hbu
              obtain ⟨UA, uc, rfl⟩ := row_slice HRW.out
              by_cases hum : u < M
              · have hui : (u : Int) < (M : Int) := by omega
                have hu0 : (0 : Int) ≤ (u : Int) := by omega
                have htu : t + 1 + u < m := by have := HMM.out; omega
                obtain ⟨gb', ob', e9, _, hc⟩ := (HRL.out.kept hbu).get htu
                obtain ⟨rfl, rfl⟩ : gb' = gb ∧ ob' = ob := by
                  injection e9 with e9
                  injection e9 with e1 e2 _
                  exact ⟨e1.symm, e2.symm⟩
                have hul : u < rest.length := by rw [HREL.out]; exact hum
                obtain ⟨b, hb⟩ : ∃ b, rest[u]? = some b := ⟨_, List.getElem?_eq_getElem hul⟩
                have hbr : rs[t + 1 + u]? = some b := by rw [← HRE.out, List.getElem?_drop] at hb; exact hb
                have hbl : t + 1 + u < rs.length := by rw [HM.out]; exact htu
                have hbe : (ixC rs)[t + 1 + u]'(by simp [ixC]; exact hbl) = .int .i64 (b : Int) := by
                  unfold ixC
                  rw [List.getElem_map]
                  have := List.getElem?_eq_getElem hbl
                  rw [this] at hbr
                  rw [Option.some.inj hbr]
                rw [hbe, show ob' + (t + 1 + u) = ob' + (t + 1) + u by omega] at hc
                have hak := HAK.out
                have hbk := HLTS.out b (List.mem_of_getElem? hbr)
                have HBN := Lib.hid hb
                have HND : Hid (o2 ++ ((if mB (atP l a) (atP l b) = true then [⟨(a : Int), (b : Int)⟩] else []) ++ (ovJ l a (rest.drop (u + 1)) ++ ovA l rest)) = T) := Lib.hid (by
                  have h := HO2.out
                  rw [drop_next HBN.out, ovJ_cons, List.append_assoc] at h
                  exact h)
                clear hbe hbr hbl hul e9 hb hbu HO2
                go_upto_region 15 with (fail)
                have haki : (a : Int) < (k : Int) := by omega
                have hbki : (b : Int) < (k : Int) := by omega
                have ha0 : (0 : Int) ≤ (a : Int) := by omega
                have hb0 : (0 : Int) ≤ (b : Int) := by omega
                obtain ⟨x, hx⟩ : ∃ x, l[a]? = some x := ⟨_, List.getElem?_eq_getElem (by rw [HLN.out]; exact hak)⟩
                obtain ⟨y, hy⟩ : ∃ y, l[b]? = some y := ⟨_, List.getElem?_eq_getElem (by rw [HLN.out]; exact hbk)⟩
                obtain ⟨bA, oA, rfl, _, k0, k1⟩ := (HP2.out.kept HBU.out).two hak hx
                obtain ⟨bB, oB, e9, _, j0, j1⟩ := (HP2.out.kept HBU.out).two hbk hy
                obtain ⟨rfl, rfl⟩ : bB = bA ∧ oB = oA := by
                  injection e9 with e9
                  injection e9 with e1 e2 _
                  exact ⟨e1.symm, e2.symm⟩
                rw [atP_is hx, atP_is hy] at HND
                obtain ⟨xa, xm⟩ := x
                obtain ⟨ya, ym⟩ := y
                simp only at k0 k1 j0 j1
                have HME := Lib.hid (fun W => meets_any xa xm ya ym W)
                obtain ⟨q, HQ⟩ : ∃ q, Hid (mB ⟨xa, xm⟩ ⟨ya, ym⟩ = q) := ⟨_, Lib.hid rfl⟩
                rw [HQ.out] at HME HND
                have J0 : ∀ z' : Kin wr.drew, z'.world.cell? ⟨bB, oB + a * 2, none⟩ = some (.int .i64 xa) := fun z' => Kin.at (w := wr.drew) k0 z'
                have J1 : ∀ z' : Kin wr.drew, z'.world.cell? ⟨bB, oB + a * 2 + 1, none⟩ = some (.int .i64 xm) := fun z' => Kin.at (w := wr.drew) k1 z'
                have K0 : ∀ z' : Kin wr.drew, z'.world.cell? ⟨bB, oB + b * 2, none⟩ = some (.int .i64 ya) := fun z' => Kin.at (w := wr.drew) j0 z'
                have K1 : ∀ z' : Kin wr.drew, z'.world.cell? ⟨bB, oB + b * 2 + 1, none⟩ = some (.int .i64 ym) := fun z' => Kin.at (w := wr.drew) j1 z'
                clear k0 k1 j0 j1 hx hy e9 hc
                refine wp_region_specL 9 [.d (.slice (some ⟨bB, oB, none⟩) k c), .d (.int .i64 a), .d (.pointer (some ⟨bB, oB + a * 2, none⟩)), .d (.agg #[.int .i64 xa, .int .i64 xm]), .d (.slice (some ⟨bB, oB, none⟩) k c), .d (.int .i64 b), .d (.pointer (some ⟨bB, oB + b * 2, none⟩)), .d (.agg #[.int .i64 ya, .int .i64 ym]), .d (.bool q)] (by kernel_rfl) (by kernel_rfl) ?_
                refine spec_d rfl (fun x _ => gives_run (by go_simp)) ?_
                try simp only [Act.put, List.getElem_toArray, List.getElem_cons_succ, List.getElem_cons_zero, List.setIfInBounds_toArray, List.set_cons_zero, List.set_cons_succ]
                refine spec_d rfl (fun x _ => gives_run (by go_simp)) ?_
                try simp only [Act.put, List.getElem_toArray, List.getElem_cons_succ, List.getElem_cons_zero, List.setIfInBounds_toArray, List.set_cons_zero, List.set_cons_succ]
                refine spec_d rfl (fun x _ => gives_run (by go_simp)) ?_
                try simp only [Act.put, List.getElem_toArray, List.getElem_cons_succ, List.getElem_cons_zero, List.setIfInBounds_toArray, List.set_cons_zero, List.set_cons_succ]
                refine spec_d rfl (fun x _ => gives_run (by go_simp)) ?_
                try simp only [Act.put, List.getElem_toArray, List.getElem_cons_succ, List.getElem_cons_zero, List.setIfInBounds_toArray, List.set_cons_zero, List.set_cons_succ]
                refine spec_d rfl (fun x _ => gives_run (by go_simp)) ?_
                try simp only [Act.put, List.getElem_toArray, List.getElem_cons_succ, List.getElem_cons_zero, List.setIfInBounds_toArray, List.set_cons_zero, List.set_cons_succ]
                refine spec_d rfl (fun x _ => gives_run (by go_simp)) ?_
                try simp only [Act.put, List.getElem_toArray, List.getElem_cons_succ, List.getElem_cons_zero, List.setIfInBounds_toArray, List.set_cons_zero, List.set_cons_succ]
                refine spec_d rfl (fun x _ => gives_run (by go_simp)) ?_
                try simp only [Act.put, List.getElem_toArray, List.getElem_cons_succ, List.getElem_cons_zero, List.setIfInBounds_toArray, List.set_cons_zero, List.set_cons_succ]
                refine spec_d rfl (fun x _ => gives_run (by go_simp)) ?_
                try simp only [Act.put, List.getElem_toArray, List.getElem_cons_succ, List.getElem_cons_zero, List.setIfInBounds_toArray, List.set_cons_zero, List.set_cons_succ]
                refine spec_d rfl (fun z' _ => gives_det (by go_simp) (HME.out z'.world)) ?_
                try simp only [Act.put, List.getElem_toArray, List.getElem_cons_succ, List.getElem_cons_zero, List.setIfInBounds_toArray, List.set_cons_zero, List.set_cons_succ]
                refine spec_end (fun z' hz' => ?_)
                clear hz'
                refine wpAny_done (by kernel_rfl) ?_ _
                have hzb := (bel_drew wr).trans z'.below
                have HB5 := Lib.hid (HBU.out.trans (hzb.mono HBU.out.size))
                have HR5 := Lib.hid (own_kept HRW.out hzb)
                clear J0 J1 K0 K1 HME hzb HRW
                generalize z'.world = w5 at HB5 HR5 ⊢
                clear z'
                obtain ⟨N, HN⟩ : ∃ N, Hid (o2.length = N) := ⟨_, Lib.hid rfl⟩
                rw [HN.out] at HR5 ⊢
                have HUB : Hid (N ≤ 1000000) := Lib.hid (by
                  have h1 := congrArg List.length HND.out
                  rw [List.length_append, HN.out] at h1
                  have h2 := ovA_len l rs
                  rw [HT.out] at h2
                  have h3 : rs.length ≤ 1000 := by rw [HM.out]; omega
                  have h4 : rs.length * rs.length ≤ 1000 * 1000 := Nat.mul_le_mul h3 h3
                  omega)
                cases q with
                | false =>
                  have HO5 : Hid (o2 ++ (ovJ l a (rest.drop (u + 1)) ++ ovA l rest) = T) := Lib.hid (by
                    have h := HND.out
                    rw [if_neg (by decide), List.nil_append] at h
                    exact h)
                  go_wp2
                  go_roundw
                  case rel => exact ⟨u + 1, o2, by omega, by go_num, Lib.hid (by rw [HN.out]; exact HR5.out), HO5, HB5.out⟩
                  case measure => simp [intOf]; omega
                | true =>
                  have HO5 : Hid ((o2 ++ [(⟨(a : Int), (b : Int)⟩ : Pt)]) ++ (ovJ l a (rest.drop (u + 1)) ++ ovA l rest) = T) := Lib.hid (by
                    have h := HND.out
                    rw [if_pos rfl, ← List.append_assoc] at h
                    exact h)
                  have HR7 := Lib.hid (HR5.out.alloc (.cells (ptL ⟨(a : Int), (b : Int)⟩).toArray TI2))
                  have HSZ : Hid (w2.heap.size ≤ w5.heap.size) := Lib.hid HB5.out.size
                  go_wp2_with (at_builtin; refine pushS _ rfl (.tmp 50) (.tmp 54) 54 rfl w2.heap.size TI2 i2 (.agg #[.int .i64 0, .int .i64 0]) 2 16 Try.underlying54 hi2 hz20 hz21 hz22 rfl (by decide) _ _ _ rfl HR7.out ⟨w5.heap.size, 0, none⟩ 1 1 (ptL ⟨(a : Int), (b : Int)⟩) rfl rfl (cell_new w5 (ptL ⟨(a : Int), (b : Int)⟩) TI2) (one_ptL _) (by have := HUB.out; unfold maxLen; omega) (by have := HUB.out; omega) (by have := HSZ.out; simp; omega) ?_; intro v5 w6 O5 B5 G5 K5)
                  have HB8 : Hid (Below w2.heap.size w2 w6) := Lib.hid ((HB5.out.alloc HSZ.out _).trans B5.out)
                  have HO8 : Hid (w6.ownsRow w2.heap.size TI2 2 v5 (N + 1) (ptC (o2 ++ [(⟨(a : Int), (b : Int)⟩ : Pt)]))) := Lib.hid (by rw [ptC_snoc]; exact O5.out)
                  have HLK : Hid ((o2 ++ [(⟨(a : Int), (b : Int)⟩ : Pt)]).length = N + 1) := Lib.hid (by simp [HN.out])
                  clear O5 B5 G5 K5 HR7
                  go_wp2
                  go_roundw
                  case rel => exact ⟨u + 1, o2 ++ [(⟨(a : Int), (b : Int)⟩ : Pt)], by omega, by go_num, Lib.hid (by rw [HLK.out]; exact HO8.out), HO5, HB8.out⟩
                  case measure => simp [intOf]; omega
              · have hue : u = M := by omega
                subst hue
                have HOF : Hid (o2 ++ ovA l (rs.drop (t + 1)) = T) := Lib.hid (by
                  have h := HO2.out
                  rw [List.drop_of_length_le (by rw [HREL.out]; exact Nat.le_refl _)] at h
                  rw [HRE.out]
                  exact h)
                go_wp2
                go_roundw
                case rel => exact ⟨(t + 1), o2, by have := HMT.out;  omega, by  go_num, HRW, HOF, HBU.out⟩
                case measure => have := HMT.out;  simp [intOf]; omega
        · as_aux_lemma =>
          have hte : t = m := by omega
          subst hte
          have HOT : Hid (ov = T) := Lib.hid (by
            have h := HOV.out
            rw [List.drop_of_length_le (by rw [HM.out]; exact Nat.le_refl _)] at h
            simpa [ovA] using h)
          rw [HOT.out] at HROW ⊢
          obtain ⟨A9, c9, e9, _, hs9⟩ := pts_own HROW.out rfl
          injection e9 with e1 e2 e3
          subst e1
          have HS9 := Lib.hid hs9
          have HBF := Lib.hid (HBEL.out.trans (HBT.out.mono HBEL.out.size))
          obtain ⟨N, hN⟩ : ∃ N, T.length = N := ⟨_, rfl⟩
          have HNN := Lib.hid hN
          rw [hN] at ⊢
          clear hN hs9 e2 e3 hbel HROW
          go_wp2
          go_ret
          exact ⟨_, _, by rw [HNN.out]; rfl, HS9, HBF⟩
end Go.Proofs.Ytejhjpdcodloaaa.Ly42
