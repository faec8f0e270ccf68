/- Names in a map of numbers: the contract of package valid's name. -/
import Derived.Test.YtkankdecbefenaaDoorVlcE
import Derived.Test.YtkankdecbefenaaDoorObj
import Derived.Maps.Own
import Derived.Maps.OwnOps
import Derived.Maps.Views
namespace Go.Proofs.YtkankdecbefenaaDoor.Ly7
open Go.ChangeShapes Go.WideShapes Go.ChangeAt Go.RowKit Base Go.Maps
set_option linter.unusedVariables false
set_option linter.unusedSimpArgs false

abbrev TI : TypeId := 3
abbrev TM : TypeId := 93
theorem lawI : Keyed Tryd.prog TI := int_keyed Tryd.underlying3
theorem zeroI (w : World) : (zeroValue TI).run Tryd.prog w = .ok (.int .i64 0) w := by kernel_rfl
/-- A map that holds 1 at each name there is. -/
def MapAt (w : World) (g n : Nat) (hv : List Int) : Prop :=
  ∃ D : DataW Unit, w.ownsMap Tryd.prog TI (plainElem Tryd.prog TI) g n D ∧ ∀ m : Int, D.atKey (.int .i64 m) (.lit (.int .i64 0)) = .lit (.int .i64 (if hv.contains m then 1 else 0))
theorem MapAt.made (w : World) : MapAt (w.alloc (.map #[] 0)) w.heap.size 0 [] := ⟨_, World.ownsMap_made _ _ _ _, fun m => rfl⟩
theorem wf_key {x : Int} (h0 : 0 ≤ x) (h1 : x < 9223372036854775808) : (Lit.int .i64 x).wf = true := WalkArith.wf_i64 (by omega)
theorem MapAt.put {w : World} {g n : Nat} {hv : List Int} {x : Int} {D : DataW Unit} (hk : (Lit.int .i64 x).wf = true) (hD : IsMap D) (ha : ∀ m : Int, D.atKey (.int .i64 m) (.lit (.int .i64 0)) = .lit (.int .i64 (if hv.contains m then 1 else 0)))
    (ho : w.ownsMap Tryd.prog TI (plainElem Tryd.prog TI) g n (D.put (.int .i64 x) (.lit (.int .i64 1)))) : MapAt w g n (hv ++ [x]) := by
  refine ⟨_, ho, fun m => ?_⟩
  by_cases e : m = x
  · subst e
    rw [atKey_put_same hD (lawI.key (keyOf_int_mk Tryd.underlying3 hk))]
    rw [if_pos (by simp)]
  · rw [atKey_put_other (by intro h; cases h; exact e rfl), ha m]
    congr 3
    simp [e]
theorem _root_.Go.Proofs.YtkankdecbefenaaDoor.Base.Lst.touch2 {w w' : World} {g : Nat} {A : Option Addr} {n : Nat} {xs : List Value} (h : Lst w A n xs) (ht : Wrote g w w') (hb : ∀ b' off, A = some ⟨b', off, none⟩ → 0 < n → b' ≠ g) : Lst w' A n xs := by
  refine ⟨h.1, fun hn => ?_⟩
  obtain ⟨b, off, e, hlt, hc⟩ := h.2 hn
  exact ⟨b, off, e, Nat.lt_of_lt_of_le hlt ht.size, fun k hk => by rw [← hc k hk]; exact World.cell?_of_block (ht.block b hlt (fun e' => hb b off e hn (Option.some.inj e')))⟩
/-- What name says. -/
def Nm (hv xs : List Int) (md r : Int) : Prop :=
  (namF xs md = false ∧ r = 2) ∨ (namF xs md = true ∧ (∃ (k : Nat) (x : Int), xs[k]? = some x ∧ (hv ++ xs.take k).contains x = true) ∧ r = 17) ∨ (namF xs md = true ∧ (∀ (k : Nat) (x : Int), xs[k]? = some x → (hv ++ xs.take k).contains x = false) ∧ r = 0)
set_option maxRecDepth 100000 in
set_option maxHeartbeats 1000000 in
theorem name_any (g n0 : Nat) (hv : List Int) (A : Option Addr) (n c : Nat) (xs : List Int) (md : Int) (w : World) (hm : MapAt w g n0 hv) (hl : Lst w A n (xs.map (Value.int .i64))) (hne : ∀ b off, A = some ⟨b, off, none⟩ → 0 < n → b ≠ g) (hn : n ≤ 9223372036854775807) (hs : n0 + n ≤ 1099511627776) (hmd : md ≤ 9223372036854775807) :
    Calls Tryd.prog 51 #[.map (some g), .slice A n c, .int .i64 md] w fun e w' => ∃ r, e = .returned (.int .i64 r) ∧ Nm hv xs md r ∧ (r = 0 → MapAt w' g (n0 + n) (hv ++ xs)) ∧ Wrote g w w' := by
  have hll : xs.length = n := by have := hl.1; simpa using this
  have HL := Lib.hid hll
  have HM := Lib.hid hm
  have HLL : Hid (∀ W, Wrote g w W → Lst W A n (xs.map (Value.int .i64))) := Lib.hid (fun W hW => hl.touch2 hW hne)
  clear hm hll hne
  by_cases hz : n = 0
  · subst hz
    have HR : Hid (namF xs md = false) := Lib.hid (by
      have : xs = [] := List.eq_nil_of_length_eq_zero HL.out
      rw [this]; rfl)
    go_enter Tryd.func51, Tryd.ntmps51
    go_wp2
    go_ret
    exact ⟨2, rfl, .inl ⟨HR.out, rfl⟩, (fun h => by cases h), Wrote.refl _ _⟩
  · have hnb : ((n : Int) == 0) = false := by simp; omega
    have HNZ := Lib.hid hz
    clear hz
    go_enter Tryd.func51, Tryd.ntmps51
    go_wp2_with fail
    go_loopw [16] (fun i wx => ∃ k : Nat, k ≤ n ∧ i = .int .i64 k ∧ Hid (∀ j, j < k → ∀ x, xs[j]? = some x → 0 ≤ x ∧ x < md) ∧ w = wx) (fun i _ => n - (intOf i).toNat)
    case atStart => exact ⟨0, by omega, rfl, Lib.hid (fun j hj => by omega), rfl⟩
    case round =>
      obtain ⟨k, hk, rfl, HN, rfl⟩ := hrel
      by_cases hlt : k < n
      · have hki : (k : Int) < (n : Int) := by omega
        have hkl : k < xs.length := by rw [HL.out]; exact hlt
        obtain ⟨b, off, rfl, _, hc⟩ := hl.get hlt
        rw [List.getElem_map] at hc
        obtain ⟨x, hx⟩ : ∃ x, xs[k]'hkl = x := ⟨_, rfl⟩
        rw [hx] at hc
        have HX : Hid (xs[k]? = some x) := Lib.hid (by rw [List.getElem?_eq_getElem hkl, hx])
        clear hx
        by_cases h0 : x < 0
        · have HR := Lib.hid (namF_no (md := md) HX.out (.inl h0))
          go_wp2
          go_ret
          exact ⟨2, rfl, .inl ⟨HR.out, rfl⟩, (fun h => by cases h), Wrote.refl _ _⟩
        · by_cases hm : md ≤ x
          · have HR := Lib.hid (namF_no (md := md) HX.out (.inr hm))
            go_wp2
            go_ret
            exact ⟨2, rfl, .inl ⟨HR.out, rfl⟩, (fun h => by cases h), Wrote.refl _ _⟩
          · have HOK := Lib.hid (show 0 ≤ x ∧ x < md by omega)
            go_wp2
            go_roundw
            case rel => exact ⟨k + 1, by omega, by go_num, Lib.hid (fun j hj x' hx' => by
              rcases (show j < k ∨ j = k by omega) with h | rfl
              · exact HN.out j h x' hx'
              · rw [HX.out] at hx'
                cases hx'
                exact HOK.out), trivial⟩
            case measure => simp [intOf]; omega
      · have hke : n = k := by omega
        subst hke
        have HALL : Hid (∀ (j : Nat) (x : Int), xs[j]? = some x → 0 ≤ x ∧ x < md) := Lib.hid (fun j x hx => HN.out j (by rw [← HL.out]; exact (List.getElem?_eq_some_iff.1 hx).1) x hx)
        have HNF : Hid (namF xs md = true) := Lib.hid (namF_yes (by rw [HL.out]; have := HNZ.out; omega) HALL.out)
        clear hl
        go_wp2_with fail
        go_loopw [30] (fun i wx => ∃ k : Nat, k ≤ n ∧ i = .int .i64 k ∧ Hid (∀ j, j < k → ∀ x, xs[j]? = some x → (hv ++ xs.take j).contains x = false) ∧ Hid (MapAt wx g (n0 + k) (hv ++ xs.take k)) ∧ Wrote g w wx) (fun i _ => n - (intOf i).toNat)
        case atStart => exact ⟨0, by omega, rfl, Lib.hid (fun j hj => by omega), Lib.hid (by simpa using HM.out), Wrote.refl _ _⟩
        case round =>
          obtain ⟨k, hk, rfl, HNO, HMK, hw⟩ := hrel
          have HW := Lib.hid hw
          by_cases hlt : k < n
          · have hki : (k : Int) < (n : Int) := by omega
            have hkl : k < xs.length := by rw [HL.out]; exact hlt
            obtain ⟨b, off, rfl, _, hc⟩ := (HLL.out wr hw).get hlt
            rw [List.getElem_map] at hc
            obtain ⟨x, hx⟩ : ∃ x, xs[k]'hkl = x := ⟨_, rfl⟩
            rw [hx] at hc
            have HX : Hid (xs[k]? = some x) := Lib.hid (by rw [List.getElem?_eq_getElem hkl, hx])
            have hx01 := HALL.out k x HX.out
            have HWF := Lib.hid (wf_key hx01.1 (by omega))
            obtain ⟨D, hown, hat0⟩ := HMK.out
            have HAT := Lib.hid hat0
            have HD := Lib.hid (hown.tidy lawI).isMap
            clear hx hw hat0 hkl
            obtain ⟨q, HQ⟩ : ∃ q, Hid ((hv ++ xs.take k).contains x = q) := ⟨_, Lib.hid rfl⟩
            have HCX : Hid (∀ cc : Int, D.atKey (.int .i64 x) (.lit (.int .i64 0)) = .lit (.int .i64 cc) → cc = if q then 1 else 0) := Lib.hid (fun cc h => by
              rw [HAT.out x, HQ.out] at h
              injection h with h
              injection h with _ h
              exact h.symm)
            cases q with
            | true =>
              go_wp2_with (first | (at_lookup; refine wpList_lookup_own_int _ rfl _ _ TM rfl TI TI .i64 lawI Tryd.underlying93 Tryd.underlying3 (zeroI _) g (n0 + k) _ rfl hown _ _ rfl (keyOf_int_mk Tryd.underlying3 HWF.out) ?_; intro cc hat hwc; obtain rfl : cc = 1 := HCX.out cc hat))
              go_ret
              exact ⟨17, rfl, .inr (.inl ⟨HNF.out, ⟨k, x, HX.out, HQ.out⟩, rfl⟩), (fun h => by cases h), HW.out⟩
            | false =>
              go_upto_region 15 with (first | (at_lookup; refine wpList_lookup_own_int _ rfl _ _ TM rfl TI TI .i64 lawI Tryd.underlying93 Tryd.underlying3 (zeroI _) g (n0 + k) _ rfl hown _ _ rfl (keyOf_int_mk Tryd.underlying3 HWF.out) ?_; intro cc hat hwc; obtain rfl : cc = 0 := HCX.out cc hat) | (at_mapUpdate; refine wpList_mapUpdate_own _ rfl _ _ _ TM rfl TI TI lawI Tryd.underlying93 _ g (n0 + k) _ rfl hown (by unfold maxLen; omega) _ _ _ rfl rfl (keyOf_int_mk Tryd.underlying3 HWF.out) _ [] (plainElem_int Tryd.underlying3 (by kernel_rfl)) ?_; intro w1 hown1 hgrow1))
              have HMN : Hid (MapAt w1 g (n0 + (k + 1)) (hv ++ xs.take (k + 1))) := Lib.hid (by
                have := MapAt.put (hv := hv ++ xs.take k) HWF.out HD.out HAT.out hown1
                rw [List.append_assoc, show xs.take k ++ [x] = xs.take (k + 1) by rw [List.take_add_one, HX.out]; rfl] at this
                exact this)
              have HW1 : Hid (Wrote g w w1) := Lib.hid (HW.out.trans hgrow1)
              clear hown hown1 hgrow1 hat hwc
              go_wp2
              go_roundw
              case rel => exact ⟨k + 1, by omega, by go_num, Lib.hid (fun j hj x' hx' => by
                rcases (show j < k ∨ j = k by omega) with h | rfl
                · exact HNO.out j h x' hx'
                · rw [HX.out] at hx'
                  cases hx'
                  exact HQ.out), HMN, HW1.out⟩
              case measure => simp [intOf]; omega
          · have hke : n = k := by omega
            subst hke
            have HE : Hid (xs.take n = xs) := Lib.hid (List.take_of_length_le (by rw [HL.out]; exact Nat.le_refl _))
            have HMF : Hid (MapAt wr g (n0 + n) (hv ++ xs)) := Lib.hid (by have := HMK.out; rwa [HE.out] at this)
            go_wp2
            go_ret
            exact ⟨0, rfl, .inr (.inr ⟨HNF.out, fun j x hx => HNO.out j (by rw [← HL.out]; exact (List.getElem?_eq_some_iff.1 hx).1) x hx, rfl⟩), fun _ => HMF.out, HW.out⟩
end Go.Proofs.YtkankdecbefenaaDoor.Ly7
