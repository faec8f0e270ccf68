/- The contracts of package store's Write, Spoil, Read, Frame; no condition. -/
import Derived.Test.YthnopcoahcdjjaaStoA
import Derived.Laws.MakeOwn
namespace Go.Proofs.Ythnopcoahcdjjaa.Ly13
open Go.ChangeShapes Go.WideShapes Go.ChangeAt Go.RowKit Base
set_option linter.unusedVariables false
set_option linter.unusedSimpArgs false

def ovr {α : Type} (f : Nat → α) (a n : Nat) (v : α) : Nat → α := fun k => if a ≤ k ∧ k < a + n then v else f k
def ovrW (f : Nat → Int) (a : Nat) (ws : List Int) : Nat → Int := fun k => if a ≤ k ∧ k < a + ws.length then ws.getD (k - a) 0 else f k
theorem ovr_zero {α : Type} (f : Nat → α) (a : Nat) (v : α) : ovr f a 0 v = f := by funext k; unfold ovr; rw [if_neg (by omega)]
theorem ovr_succ {α : Type} (f : Nat → α) (a n : Nat) (v : α) : upd (ovr f a n v) (a + n) v = ovr f a (n + 1) v := by
  funext k
  unfold upd ovr
  by_cases e : k = a + n
  · rw [if_pos e, if_pos (by omega)]
  · rw [if_neg e]
    by_cases g : a ≤ k ∧ k < a + n
    · rw [if_pos g, if_pos (by omega)]
    · rw [if_neg g, if_neg (by omega)]

theorem SC.words {cs : Array Value} {wd : Nat → Int} {gd : Nat → Bool} {ag : Nat → Int} (h : SC cs wd gd ag) (a : Nat) (ws : List Int) (ha : a + ws.length ≤ 64) :
    SC (cs.toList.take (1 + a) ++ (ws.map (Value.int .u8) ++ cs.toList.drop (1 + a + (ws.map (Value.int .u8)).length))).toArray (ovrW wd a ws) gd ag := by
  obtain ⟨h1, h2, h3, h4, h5⟩ := h
  have hl : cs.toList.length = 193 := by simpa using h1
  have key : ∀ j, (cs.toList.take (1 + a) ++ (ws.map (Value.int .u8) ++ cs.toList.drop (1 + a + (ws.map (Value.int .u8)).length)))[j]? = if 1 + a ≤ j ∧ j < 1 + a + ws.length then some (.int .u8 (ws.getD (j - (1 + a)) 0)) else cs[j]? := by
    intro j
    by_cases g : j < 1 + a
    · rw [List.getElem?_append_left (by simp; omega), if_neg (by omega), List.getElem?_take_of_lt g, Array.getElem?_toList]
    · rw [List.getElem?_append_right (by simp; omega)]
      have e1 : (cs.toList.take (1 + a)).length = 1 + a := by simp; omega
      rw [e1]
      by_cases g2 : j < 1 + a + ws.length
      · rw [List.getElem?_append_left (by simp; omega), if_pos (by omega), List.getElem?_map]
        have : j - (1 + a) < ws.length := by omega
        simp [List.getD_eq_getElem?_getD, List.getElem?_eq_getElem this]
      · rw [List.getElem?_append_right (by simp; omega), if_neg (by omega), List.getElem?_drop, ← Array.getElem?_toList]
        congr 1
        simp; omega
  refine ⟨by simp; omega, ?_, fun i hi => ?_, fun i hi => ?_, fun i hi => ?_⟩
  · rw [List.getElem?_toArray, key, if_neg (by omega)]; exact h2
  · rw [List.getElem?_toArray, key]
    unfold ovrW
    by_cases g : a ≤ i ∧ i < a + ws.length
    · rw [if_pos (by omega), if_pos g, show 1 + i - (1 + a) = i - a by omega]
    · rw [if_neg (by omega), if_neg g]; exact h3 i hi
  · rw [List.getElem?_toArray, key, if_neg (by omega)]; exact h4 i hi
  · rw [List.getElem?_toArray, key, if_neg (by omega)]; exact h5 i hi

theorem wrote_row {b : Nat} {w : World} {T : TypeId} {cs : Array Value} (h : Obj1 w b T cs) (cs' : Array Value) : Obj1 (w.setRow b cs') b T cs' ∧ Wrote b w (w.setRow b cs') := by
  refine ⟨setRow_heap w b _ _ T _ h, rfl, rfl, rfl, by simp, fun i hi hne => ?_⟩
  have : i ≠ b := fun e => hne (by rw [e])
  simp only [World.setRow, Array.getElem?_modify]
  rw [if_neg (by omega)]

theorem slice_from {P : Program} {T E : TypeId} {n : Nat} (hu : P.underlying T = some (.array n E)) (hE : (P.info? E).map (·.size) = some 1) (b o a : Nat) (ha : a < n) (w : World) :
    (Instr.sliceAt T (.pointer (some ⟨b, o, none⟩)) (some (.int .i64 a)) none none).run P w = .ok (.slice (some ⟨b, o + a, none⟩) (n - a) (n - a)) w := by
  have hl : P.arrayLen T = n := by simp [Program.arrayLen, hu]
  have he : P.elem T = E := by simp [Program.elem, hu]
  have h1 := run_sliceAt_array_l (P := P) w T ⟨b, o, none⟩ (by rw [hl, he]; exact hu) .i64 a (by omega) (by rw [hl]; omega)
  rw [h1, hl, he]
  cases hq : P.info? E with
  | none => simp [hq] at hE
  | some i =>
    have hi : i.size = 1 := by simpa [hq] using hE
    have e : (⟨b, o, none⟩ : Addr).add a = ⟨b, o + a, none⟩ := by unfold Addr.add; split <;> simp_all
    simp [sizeOf, typeInfo, hq, hi, slicedAt, e, show ¬ n = a by omega]
theorem slice_part {P : Program} {T E : TypeId} {n : Nat} (hu : P.underlying T = some (.array n E)) (hE : (P.info? E).map (·.size) = some 1) (b o a : Nat) (m : Int) (ha : a < n) (h0 : (a : Int) ≤ m) (h1 : m ≤ n) (w : World) :
    (Instr.sliceAt T (.pointer (some ⟨b, o, none⟩)) (some (.int .i64 a)) (some (.int .i64 m)) none).run P w = .ok (.slice (some ⟨b, o + a, none⟩) (m.toNat - a) (n - a)) w := by
  have hl : P.arrayLen T = n := by simp [Program.arrayLen, hu]
  have he : P.elem T = E := by simp [Program.elem, hu]
  have h1 := run_sliceAt_array_lh (P := P) w T ⟨b, o, none⟩ (by rw [hl, he]; exact hu) .i64 .i64 a m (by omega) h0 (by rw [hl]; exact h1)
  rw [h1, hl, he]
  cases hq : P.info? E with
  | none => simp [hq] at hE
  | some i =>
    have hi : i.size = 1 := by simpa [hq] using hE
    have e : (⟨b, o, none⟩ : Addr).add a = ⟨b, o + a, none⟩ := by unfold Addr.add; split <;> simp_all
    simp [sizeOf, typeInfo, hq, hi, slicedAt, e, show ¬ n = a by omega]
theorem cells_u8 : (Try.prog.info? 5).map (·.size) = some 1 := by kernel_rfl

set_option maxHeartbeats 1000000 in
theorem write_ok (b a n c : Nat) (A : Option Addr) (ws : List Int) (wd : Nat → Int) (gd : Nat → Bool) (ag : Nat → Int) (w : World) (h : Sto w b wd gd ag) (hl : Lst w A n (ws.map (Value.int .u8))) (n1 : 1 ≤ n) (han : a + n ≤ 64) :
    Calls Try.prog 37 #[.pointer (some ⟨b, 0, none⟩), .int .i64 a, .slice A n c] w fun e w' => e = .returned (.int .i64 0) ∧ Sto w' b (ovrW wd a ws) (ovr gd a n true) (ovr ag a n 0) ∧ Wrote b w w' := by
  have hln : ws.length = n := by simpa using hl.1
  obtain ⟨sb, so, rfl, hsb, hsc⟩ := hl.2 (by omega)
  have c0 := h.made
  obtain ⟨cs, ho, hs⟩ := h
  have HS := Lib.hid (hs.words a ws (by omega))
  have HO := Lib.hid ho
  have HM : Hid ((ws.map (Value.int .u8)).length = n) := by show _ = _; simp [hln]
  have HC : Hid (∀ j v, (ws.map (Value.int .u8))[j]? = some v → w.cell? ((⟨sb, so, none⟩ : Addr).add j) = some v) := by
    intro j v hj
    have hjn : j < n := by have := (List.getElem?_eq_some_iff.1 hj).1; rw [HM.out] at this; exact this
    rw [show (⟨sb, so, none⟩ : Addr).add j = ⟨sb, so + j, none⟩ by unfold Addr.add; split <;> simp_all, hsc j hjn]
    exact hj
  have H1 : Hid (∀ v ∈ ws.map (Value.int .u8), v.oneCell' = true) := by
    intro v hv
    obtain ⟨x, _, rfl⟩ := List.mem_map.1 hv
    rfl
  have HSZ := Lib.hid hs.1
  generalize ws.map (Value.int .u8) = vs at HS HM HC H1
  have HW := Lib.hid (wrote_row ho (cs.toList.take (1 + a) ++ (vs ++ cs.toList.drop (1 + a + vs.length))).toArray)
  have HMN : Hid (vs.length = Nat.min n (64 - a)) := by show _ = _; rw [HM.out]; exact (Nat.min_eq_left (by omega)).symm
  have HFT : Hid (1 + a + vs.length ≤ cs.size) := by show _ ≤ _; rw [HM.out, HSZ.out]; omega
  have hsl := slice_from Try.underlying81 cells_u8 b 1 a (by omega) w
  clear hsc hs ho hl
  go_enter Try.func37, Try.ntmps37
  go_wp2_with (first
    | (go_at_call 56; refine (why_ok _ _ _ _ c0 (by omega) (by omega) (by omega)).mono ?_; rintro e w' ⟨rfl, rfl⟩)
    | (refine wpList_copy_own rfl (.tmp 21) (.tmp 22) 26 26 rfl 5 Try.underlying26 cells_u8 b (1 + a) _ _ ⟨sb, so, none⟩ n c rfl rfl cs _ HO.out vs HMN.out HC.out HFT.out H1.out ?_; generalize w.setRow b (cs.toList.take (1 + a) ++ (vs ++ cs.toList.drop (1 + a + vs.length))).toArray = W at HW ⊢))
  have HB := Lib.hid (show Sto W b (ovrW wd a ws) gd ag from ⟨_, HW.out.1, HS.out⟩)
  have HWR := Lib.hid HW.out.2
  clear HW HS HC H1 HMN HFT HM HSZ HO hsl c0
  go_loopw [8, 26] (fun _ i wr => ∃ j : Nat, j ≤ n ∧ i = .int .i64 j ∧ Sto wr b (ovrW wd a ws) (ovr gd a j true) (ovr ag a j 0) ∧ Wrote b w wr) (fun _ i _ => n - (intOf i).toNat)
  case atStart => exact ⟨0, by omega, rfl, by rw [ovr_zero, ovr_zero]; exact HB.out, HWR.out⟩
  case round =>
    obtain ⟨j, hj, rfl, hst, hwr⟩ := hrel
    by_cases hlt : j < n
    · obtain ⟨k, HK⟩ : ∃ k : Nat, Hid (a + j = k) := ⟨_, Lib.hid rfl⟩
      have hk64 : k < 64 := by have := HK.out; omega
      have hki : (a : Int) + (j : Int) = (k : Int) := by have := HK.out; omega
      have g1 := hst.good k hk64
      have g2 := hst.age k hk64
      have f1 := hst.free (65 + k)
      have f2 := hst.free (129 + k)
      have HST := Lib.hid hst
      clear hst HB HWR
      go_wp2
      go_region
      go_wp2
      go_roundw
      case rel =>
        refine ⟨j + 1, by omega, by go_num, ?_, ((hwr.set (p := ⟨b, 65 + k, none⟩) (.inl rfl) _).set (p := ⟨b, 129 + k, none⟩) (.inl rfl) _).drew⟩
        rw [← ovr_succ, ← ovr_succ, HK.out]
        exact ((HST.out.setGood k hk64 true).setAge k hk64 0).drew
      case measure => simp [intOf]; omega
    · obtain rfl : j = n := by omega
      have HST := Lib.hid hst
      clear hst
      go_wp2
      go_ret
      exact ⟨rfl, HST.out, hwr⟩

theorem write_bad (b : Nat) (a : Int) (n c : Nat) (A : Option Addr) (w : World) (h : w.cell? ⟨b, 0, none⟩ = some (.bool true)) (hr : ¬ Rt a n) (a0 : -9223372036854775808 ≤ a) (a1 : a ≤ 9223372036854775807) (hn : n ≤ 1000000) :
    Calls Try.prog 37 #[.pointer (some ⟨b, 0, none⟩), .int .i64 a, .slice A n c] w fun e w' => e = .returned (.int .i64 2) ∧ w = w' := by
  have HR := Lib.hid hr
  clear hr
  go_enter Try.func37, Try.ntmps37
  go_wp2_with (first | (go_at_call 56; refine (why_bad _ _ _ _ h HR.out a0 a1 (by omega) (by omega)).mono ?_; rintro e w' ⟨rfl, rfl⟩))
  go_ret
  exact ⟨rfl, rfl⟩

set_option maxHeartbeats 1000000 in
theorem spoil_ok (b a n : Nat) (wd : Nat → Int) (gd : Nat → Bool) (ag : Nat → Int) (w : World) (h : Sto w b wd gd ag) (n1 : 1 ≤ n) (han : a + n ≤ 64) :
    Calls Try.prog 38 #[.pointer (some ⟨b, 0, none⟩), .int .i64 a, .int .i64 n] w fun e w' => e = .returned (.int .i64 0) ∧ Sto w' b wd (ovr gd a n false) (ovr ag a n 0) ∧ Wrote b w w' := by
  have c0 := h.made
  have HB := Lib.hid h
  clear h
  go_enter Try.func38, Try.ntmps38
  go_wp2_with (first | (go_at_call 56; refine (why_ok _ _ _ _ c0 (by omega) (by omega) (by omega)).mono ?_; rintro e w' ⟨rfl, rfl⟩))
  clear c0
  go_loopw [8, 17] (fun _ i wr => ∃ j : Nat, j ≤ n ∧ i = .int .i64 j ∧ Sto wr b wd (ovr gd a j false) (ovr ag a j 0) ∧ Wrote b w wr) (fun _ i _ => n - (intOf i).toNat)
  case atStart => exact ⟨0, by omega, rfl, by rw [ovr_zero, ovr_zero]; exact HB.out, Wrote.refl _ _⟩
  case round =>
    obtain ⟨j, hj, rfl, hst, hwr⟩ := hrel
    by_cases hlt : j < n
    · obtain ⟨k, HK⟩ : ∃ k : Nat, Hid (a + j = k) := ⟨_, Lib.hid rfl⟩
      have hk64 : k < 64 := by have := HK.out; omega
      have hki : (a : Int) + (j : Int) = (k : Int) := by have := HK.out; omega
      have g1 := hst.good k hk64
      have g2 := hst.age k hk64
      have f1 := hst.free (65 + k)
      have f2 := hst.free (129 + k)
      have HST := Lib.hid hst
      clear hst HB
      go_wp2
      go_region
      go_wp2
      go_roundw
      case rel =>
        refine ⟨j + 1, by omega, by go_num, ?_, ((hwr.set (p := ⟨b, 65 + k, none⟩) (.inl rfl) _).set (p := ⟨b, 129 + k, none⟩) (.inl rfl) _).drew⟩
        rw [← ovr_succ, ← ovr_succ, HK.out]
        exact ((HST.out.setGood k hk64 false).setAge k hk64 0).drew
      case measure => simp [intOf]; omega
    · obtain rfl : j = n := by omega
      have HST := Lib.hid hst
      clear hst
      go_wp2
      go_ret
      exact ⟨rfl, HST.out, hwr⟩
theorem spoil_bad (b : Nat) (a n : Int) (w : World) (h : w.cell? ⟨b, 0, none⟩ = some (.bool true)) (hr : ¬ Rt a n) (a0 : -9223372036854775808 ≤ a) (a1 : a ≤ 9223372036854775807) (n0 : -9223372036854775808 ≤ n) (n1 : n ≤ 9223372036854775807) :
    Calls Try.prog 38 #[.pointer (some ⟨b, 0, none⟩), .int .i64 a, .int .i64 n] w fun e w' => e = .returned (.int .i64 2) ∧ w = w' := by
  have HR := Lib.hid hr
  clear hr
  go_enter Try.func38, Try.ntmps38
  go_wp2_with (first | (go_at_call 56; refine (why_bad _ _ _ _ h HR.out a0 a1 n0 n1).mono ?_; rintro e w' ⟨rfl, rfl⟩))
  go_ret
  exact ⟨rfl, rfl⟩

def agd (gd : Nat → Bool) (ag : Nat → Int) (j : Nat) : Nat → Int := fun k => if k < j ∧ gd k = true then min (ag k + 1) 1073741824 else ag k
theorem agd_zero (gd : Nat → Bool) (ag : Nat → Int) : agd gd ag 0 = ag := by funext k; unfold agd; rw [if_neg (by omega)]
theorem agd_on (gd : Nat → Bool) (ag : Nat → Int) (j : Nat) (h : gd j = true) : upd (agd gd ag j) j (min (ag j + 1) 1073741824) = agd gd ag (j + 1) := by
  funext k
  unfold upd agd
  by_cases e : k = j
  · subst e; rw [if_pos rfl, if_pos ⟨by omega, h⟩]
  · rw [if_neg e]
    by_cases g : k < j ∧ gd k = true
    · rw [if_pos g, if_pos ⟨by omega, g.2⟩]
    · rw [if_neg g, if_neg (fun hh => g ⟨by omega, hh.2⟩)]
theorem agd_off (gd : Nat → Bool) (ag : Nat → Int) (j : Nat) (h : gd j = false) : agd gd ag (j + 1) = agd gd ag j := by
  funext k
  unfold agd
  by_cases e : k = j
  · subst e; rw [if_neg (by rw [h]; simp), if_neg (by rw [h]; simp)]
  · by_cases g : k < j ∧ gd k = true
    · rw [if_pos g, if_pos ⟨by omega, g.2⟩]
    · rw [if_neg g, if_neg (fun hh => g ⟨by omega, hh.2⟩)]
set_option maxHeartbeats 1000000 in
theorem frame_any (b : Nat) (wd : Nat → Int) (gd : Nat → Bool) (ag : Nat → Int) (w : World) (h : Sto w b wd gd ag) (hag : ∀ k, k < 64 → 0 ≤ ag k ∧ ag k ≤ 1073741824) :
    Calls Try.prog 39 #[.pointer (some ⟨b, 0, none⟩)] w fun e w' => e = .returned (.tuple #[]) ∧ Sto w' b wd gd (agd gd ag 64) ∧ Wrote b w w' := by
  have c0 := h.made
  have HB := Lib.hid h
  have HAG := Lib.hid hag
  clear h hag
  go_enter Try.func39, Try.ntmps39
  go_wp2_with (first | (go_at_call 57; refine (is_yes _ _ c0).mono ?_; rintro e w' ⟨rfl, rfl⟩))
  clear c0
  go_loopw [2, 6] (fun _ i wr => ∃ j : Nat, j ≤ 64 ∧ i = .int .i64 j ∧ Sto wr b wd gd (agd gd ag j) ∧ Wrote b w wr) (fun _ i _ => 64 - (intOf i).toNat)
  case atStart => exact ⟨0, by omega, rfl, by rw [agd_zero]; exact HB.out, Wrote.refl _ _⟩
  case round =>
    obtain ⟨j, hj, rfl, hst, hwr⟩ := hrel
    by_cases hlt : j < 64
    · obtain ⟨x, HX⟩ : ∃ x, Hid (gd j = x) := ⟨_, Lib.hid rfl⟩
      obtain ⟨y, HY⟩ : ∃ y, Hid (ag j = y) := ⟨_, Lib.hid rfl⟩
      have y0 : 0 ≤ y := by have := HAG.out j hlt; have := HY.out; omega
      have y1 : y ≤ 1073741824 := by have := HAG.out j hlt; have := HY.out; omega
      have g1 := hst.good j hlt
      have g2 := hst.age j hlt
      rw [HX.out] at g1
      rw [show agd gd ag j j = ag j by unfold agd; rw [if_neg (by omega)], HY.out] at g2
      have f2 := hst.free (129 + j)
      have HST := Lib.hid hst
      clear hst HB HAG
      cases x
      · go_wp2
        go_roundw
        case rel => exact ⟨j + 1, by omega, by go_num, by rw [agd_off gd ag j HX.out]; exact HST.out, hwr⟩
        case measure => simp [intOf]; omega
      · have HZ := Lib.hid (show min (y + 1) 1073741824 = (if 1073741824 < y + 1 then 1073741824 else y + 1) by split <;> omega)
        go_wp2
        go_region
        go_wp2
        go_roundw
        case rel =>
          refine ⟨j + 1, by omega, by go_num, ?_, (hwr.set (p := ⟨b, 129 + j, none⟩) (.inl rfl) _).drew⟩
          rw [← agd_on gd ag j HX.out, HY.out, HZ.out]
          exact (HST.out.setAge j hlt _).drew
        case measure => simp [intOf]; omega
    · obtain rfl : j = 64 := by omega
      have HST := Lib.hid hst
      clear hst
      go_wp2
      go_end0
      exact ⟨rfl, HST.out, hwr⟩

theorem info_u8 : (Try.prog.info? 5).map (fun i => (i.zero, i.size, i.bytes)) = some (some (.int .u8 0), 1, 1) := by kernel_rfl
def allG (gd : Nat → Bool) (a : Nat) : Nat → Bool
  | 0 => true
  | j + 1 => allG gd a j && gd (a + j)
theorem allG_iff (gd : Nat → Bool) (a n : Nat) : allG gd a n = true ↔ ∀ i, i < n → gd (a + i) = true := by
  induction n with
  | zero => simp [allG]
  | succ n ih =>
    simp only [allG, Bool.and_eq_true, ih]
    constructor
    · rintro ⟨h1, h2⟩ i hi
      by_cases e : i = n
      · subst e; exact h2
      · exact h1 i (by omega)
    · intro h
      exact ⟨fun i hi => h i (by omega), h n (by omega)⟩
def wrd (wd : Nat → Int) (a n : Nat) : List Value := (List.range n).map fun i => Value.int .u8 (wd (a + i))
def RRel (w : World) (b n : Nat) (cs : List Value) (gd : Nat → Bool) (a : Nat) (g i : Value) (wr : World) : Prop :=
  ∃ j : Nat, j ≤ n ∧ g = .bool (allG gd a j) ∧ i = .int .i64 j ∧ Obj1 wr w.heap.size 5 cs.toArray ∧ Below w.heap.size w wr
set_option maxHeartbeats 2000000 in
theorem read_ok (b a n : Nat) (wd : Nat → Int) (gd : Nat → Bool) (ag : Nat → Int) (w : World) (h : Sto w b wd gd ag) (n1 : 1 ≤ n) (han : a + n ≤ 64) :
    Calls Try.prog 42 #[.pointer (some ⟨b, 0, none⟩), .int .i64 a, .int .i64 n] w fun e w' => e = .returned (.tuple #[.slice (some ⟨w.heap.size, 0, none⟩) n n, .bool (allG gd a n), .int .i64 0]) ∧
      Obj1 w' w.heap.size 5 (wrd wd a n).toArray ∧ Below w.heap.size w w' := by
  obtain ⟨i0, hi, hz0, hz1, hz2⟩ := info_parts info_u8
  have c0 := h.made
  have HH := Lib.hid h
  have hblt := h.lt
  have hmk : (Instr.makeSlice 26 (.int .i64 (n : Int)) (.int .i64 (n : Int))).run Try.prog w = .ok (.slice (some ⟨w.heap.size, 0, none⟩) n n) (w.alloc (.cells (madeCells #[.int .u8 0] n) 5)) := by
    have := run_make (P := Try.prog) w 26 5 i0 (.int .u8 0) Try.underlying26 hi hz0 .i64 .i64 n n (by omega) (Int.le_refl _) (by rw [hz2]; omega) (by omega)
    rw [hz1] at this
    simp only [Int.toNat_natCast, Nat.mul_one] at this
    exact this
  have HO : Hid (Obj1 (w.alloc (.cells (madeCells #[.int .u8 0] n) 5)) w.heap.size 5 (madeCells #[.int .u8 0] n)) := Obj1.new _ _ _
  have hbl : Below w.heap.size w (w.alloc (.cells (madeCells #[.int .u8 0] n) 5)) := (Below.refl _ _).alloc (Nat.le_refl _) _
  have HMS : Hid ((madeCells #[.int .u8 0] n).size = n) := size_madeCells _ _
  have hsl := slice_part Try.underlying81 cells_u8 b 1 a (a + n) (by omega) (by omega) (by omega) (w.alloc (.cells (madeCells #[.int .u8 0] n) 5))
  rw [show ((a : Int) + (n : Int)).toNat - a = n by omega] at hsl
  generalize w.alloc (.cells (madeCells #[.int .u8 0] n) 5) = w1 at hmk HO hbl hsl
  generalize madeCells #[.int .u8 0] n = mc at HO HMS
  have HBL := Lib.hid hbl
  have HN : Hid ((wrd wd a n).length = n) := by show _ = _; simp [wrd]
  have HMN : Hid ((wrd wd a n).length = Nat.min n n) := by show _ = _; rw [HN.out]; exact (Nat.min_self _).symm
  have HFT : Hid (0 + (wrd wd a n).length ≤ mc.size) := by show _ ≤ _; rw [HN.out, HMS.out]; omega
  have HC : Hid (∀ j v, (wrd wd a n)[j]? = some v → w1.cell? ((⟨b, 1 + a, none⟩ : Addr).add j) = some v) := by
    intro j v hj
    have hjn : j < n := by have := (List.getElem?_eq_some_iff.1 hj).1; rw [HN.out] at this; exact this
    rw [show (⟨b, 1 + a, none⟩ : Addr).add j = ⟨b, 1 + a + j, none⟩ by unfold Addr.add; split <;> simp_all, show 1 + a + j = 1 + (a + j) by omega, hbl.cell (p := ⟨b, 1 + (a + j), none⟩) hblt, h.word (a + j) (by omega), ← hj]
    simp [wrd, hjn]
  have H1 : Hid (∀ v ∈ wrd wd a n, v.oneCell' = true) := by
    intro v hv
    simp only [wrd, List.mem_map] at hv
    obtain ⟨x, _, rfl⟩ := hv
    rfl
  have HE : Hid (mc.toList.take 0 ++ (wrd wd a n ++ mc.toList.drop (0 + (wrd wd a n).length)) = wrd wd a n) := by
    show _ = _
    rw [List.drop_of_length_le (by rw [HN.out, Array.length_toList, HMS.out]; omega)]
    simp
  generalize wrd wd a n = cs at HN HMN HFT HC H1 HE ⊢
  have HW := Lib.hid (wrote_row HO.out cs.toArray)
  rw [← HE.out] at HW
  clear hz0 hz1 hz2 hi h hbl
  go_enter Try.func42, Try.ntmps42
  go_wp2_with (first
    | (go_at_call 56; refine (why_ok _ _ _ _ c0 (by omega) (by omega) (by omega)).mono ?_; rintro e w' ⟨rfl, rfl⟩)
    | (refine wpList_copy_own rfl (.tmp 22) (.tmp 30) 26 26 rfl 5 Try.underlying26 cells_u8 w.heap.size 0 _ _ ⟨b, 1 + a, none⟩ n _ rfl rfl mc _ HO.out cs HMN.out HC.out HFT.out H1.out ?_; generalize w1.setRow w.heap.size (mc.toList.take 0 ++ (cs ++ mc.toList.drop (0 + cs.length))).toArray = W at HW ⊢; rw [HE.out] at HW))
  have HOB := Lib.hid HW.out.1
  have HB := Lib.hid (show Below w.heap.size w W from HBL.out.trans (HW.out.2.below (Nat.le_refl _) HBL.out.size))
  clear HW HE H1 HC HFT HMN HN HMS HO hmk hsl c0
  go_loopw [11, 12, 33] (fun g _ i wr => RRel w b n cs gd a g i wr) (fun _ _ i _ => n - (intOf i).toNat)
  case atStart => exact ⟨0, by omega, rfl, rfl, HOB.out, HB.out⟩
  case round =>
    obtain ⟨j, hj, rfl, rfl, hob, hbel⟩ := hrel
    by_cases hlt : j < n
    · obtain ⟨k, HK⟩ : ∃ k : Nat, Hid (a + j = k) := ⟨_, Lib.hid rfl⟩
      have hk64 : k < 64 := by have := HK.out; omega
      have hki : (a : Int) + (j : Int) = (k : Int) := by have := HK.out; omega
      have g1 := (HH.out.below hbel hblt).good k hk64
      obtain ⟨x, HX⟩ : ∃ x, Hid (gd k = x) := ⟨_, Lib.hid rfl⟩
      obtain ⟨y, HY⟩ : ∃ y, Hid (allG gd a j = y) := ⟨_, Lib.hid rfl⟩
      have HOJ := Lib.hid hob
      rw [HX.out] at g1
      rw [HY.out]
      clear hob HOB HB
      cases y
      all_goals
        go_wp2
        go_roundw
        case rel =>
          refine ⟨j + 1, by omega, ?_, by go_num, HOJ.out, hbel⟩
          simp [allG, HY.out, HK.out, HX.out]
        case measure => simp [intOf]; omega
    · obtain rfl : j = n := by omega
      have HOJ := Lib.hid hob
      clear hob
      go_wp2
      refine bodyPost_ret (v := .tuple #[.slice (some ⟨w.heap.size, 0, none⟩) j j, .bool (allG gd a j), .int .i64 0]) (by simp [results, Try.results42, go_sem]) rfl ⟨rfl, HOJ.out, hbel⟩
theorem read_bad (b : Nat) (a n : Int) (w : World) (h : w.cell? ⟨b, 0, none⟩ = some (.bool true)) (hr : ¬ Rt a n) (a0 : -9223372036854775808 ≤ a) (a1 : a ≤ 9223372036854775807) (n0 : -9223372036854775808 ≤ n) (n1 : n ≤ 9223372036854775807) :
    Calls Try.prog 42 #[.pointer (some ⟨b, 0, none⟩), .int .i64 a, .int .i64 n] w fun e w' => e = .returned (.tuple #[.slice none 0 0, .bool false, .int .i64 2]) ∧ w = w' := by
  have HR := Lib.hid hr
  clear hr
  go_enter Try.func42, Try.ntmps42
  go_wp2_with (first | (go_at_call 56; refine (why_bad _ _ _ _ h HR.out a0 a1 n0 n1).mono ?_; rintro e w' ⟨rfl, rfl⟩))
  refine bodyPost_ret (v := .tuple #[.slice none 0 0, .bool false, .int .i64 2]) (by simp [results, Try.results42, go_sem]) rfl ⟨rfl, rfl⟩
end Go.Proofs.Ythnopcoahcdjjaa.Ly13
