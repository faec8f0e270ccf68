/- The contract of package bus' New and Settle; no condition. -/
import Derived.Test.YtfolciibgdilcaaBusA
import Derived.Test.YtfolciibgdilcaaFltS
import Derived.Deep.MidRow
import Derived.Deep.DeepCutAuto
import Derived.Deep.CutRange
namespace Go.Proofs.Ytfolciibgdilcaa.Ly24
open Go.ChangeShapes Go.WideShapes Go.ChangeAt Go.RowKit Base
set_option linter.unusedVariables false
set_option linter.unusedSimpArgs false

def z16 : List Nat := List.replicate 16 0
theorem bus_new (n : Nat) (w : World) (hn : n ≤ 16) : BusAt (w.alloc (.cells (busC n z16 z16 0 true) TB)) w.heap.size n z16 z16 0 true :=
  ⟨Obj1.new _ _ _, by simp [z16], by simp [z16], hn, by intro x hx; have := List.eq_of_mem_replicate hx; omega, by intro x hx; have := List.eq_of_mem_replicate hx; omega, by omega⟩
theorem new_any (n : Nat) (m : Int) (w : World) (hn : (n : Int) = min (max m 0) 16) : Calls Try.prog 5 #[.int .i64 m] w fun e w' => e = .returned (.pointer (some ⟨w.heap.size, 0, none⟩)) ∧ Hid (BusAt w' w.heap.size n z16 z16 0 true) ∧ Hid (Below w.heap.size w w') := by
  rcases (show m < 0 ∨ (0 ≤ m ∧ m ≤ 16) ∨ 16 < m by omega) with h | ⟨h, h2⟩ | h
  · obtain rfl : n = 0 := by omega
    have HN := Lib.hid (bus_new 0 w (by omega))
    clear hn
    go_enter Try.func5, Try.ntmps5
    go_wp2
    go_ret
    exact ⟨rfl, HN, Lib.hid (bel_new _ _)⟩
  · obtain ⟨k, rfl⟩ : ∃ k : Nat, m = (k : Int) := ⟨m.toNat, by omega⟩
    obtain rfl : n = k := by omega
    have HN := Lib.hid (bus_new n w (by omega))
    clear hn
    go_enter Try.func5, Try.ntmps5
    go_wp2
    go_ret
    exact ⟨rfl, HN, Lib.hid (bel_new _ _)⟩
  · obtain rfl : n = 16 := by omega
    have HN := Lib.hid (bus_new 16 w (by omega))
    clear hn
    go_enter Try.func5, Try.ntmps5
    go_wp2
    go_ret
    exact ⟨rfl, HN, Lib.hid (bel_new _ _)⟩
theorem bus_range {w : World} {b n : Nat} {dr dv : List Nat} {ln : Nat} {md : Bool} (h : BusAt w b n dr dv ln md) : w.rangeAt b 1 (u8s dr) ∧ w.rangeAt b 17 (u8s dv) := by
  constructor
  · intro j v hj
    have hl : j < dr.length := by have := (List.getElem?_eq_some_iff.1 hj).1; simpa using this
    rw [(h.obj.cell (1 + j)).trans (busC_dr hl), ← hj, List.getElem?_map, List.getElem?_eq_getElem hl]
    rfl
  · intro j v hj
    have hl : j < dv.length := by have := (List.getElem?_eq_some_iff.1 hj).1; simpa using this
    rw [(h.obj.cell (17 + j)).trans (busC_dv h.ldr hl), ← hj, List.getElem?_map, List.getElem?_eq_getElem hl]
    rfl
def putL : Array Value → Nat → List Value → Array Value
  | xs, _, [] => xs
  | xs, o, v :: r => putL (xs.setIfInBounds o v) (o + 1) r
theorem putL_obj {b : Nat} {T : TypeId} : ∀ (cs : List Value) (o : Nat) (xs : Array Value) (w : World), Obj1 w b T xs → Obj1 (w.setCells b o cs) b T (putL xs o cs)
  | [], _, _, _, h => h
  | v :: r, o, xs, w, h => putL_obj r (o + 1) _ _ (h.set o v)
theorem putL_list : ∀ (cs : List Value) (o : Nat) (xs : Array Value), o + cs.length ≤ xs.size → (putL xs o cs).toList = xs.toList.take o ++ (cs ++ xs.toList.drop (o + cs.length))
  | [], o, xs, h => by simp [putL]
  | v :: r, o, xs, h => by
    simp only [List.length_cons] at h
    unfold putL
    rw [putL_list r (o + 1) _ (by simp; omega), Array.toList_setIfInBounds]
    have ho : o < xs.toList.length := by simp; omega
    have h1 : (xs.toList.set o v).take (o + 1) = xs.toList.take o ++ [v] := by
      rw [List.take_set, List.take_succ_eq_append_getElem ho, List.set_append_right _ _ (by simp; omega)]
      rw [List.length_take, Nat.min_eq_left (Nat.le_of_lt ho), Nat.sub_self]
      rfl
    have h2 : (xs.toList.set o v).drop (o + 1 + r.length) = xs.toList.drop (o + (r.length + 1)) := by
      rw [List.drop_set_of_lt (by omega)]
      congr 1
      omega
    rw [h1, h2]
    simp
theorem putL_wrote {b : Nat} : ∀ (cs : List Value) (o : Nat) (a w : World), Wrote b a w → Wrote b a (w.setCells b o cs)
  | [], _, _, _, h => h
  | v :: r, o, a, w, h => putL_wrote r (o + 1) a _ (h.set (.inl rfl) v)
theorem busC_putdv {n : Nat} {dr dv es : List Nat} {ln : Nat} {md : Bool} (hl : dr.length = 16) (hl2 : dv.length = 16) (he : es.length = 16) : putL (busC n dr dv ln md) 17 (u8s es) = busC n dr es ln md := by
  apply Array.toList_inj.1
  rw [putL_list _ _ _ (by simp [busC, hl, hl2, he])]
  simp [busC, hl, hl2, he, List.take_append, List.drop_append]
theorem busC_putdr {n : Nat} {dr dv es : List Nat} {ln : Nat} {md : Bool} (hl : dr.length = 16) (hl2 : dv.length = 16) (he : es.length = 16) : putL (busC n dr dv ln md) 1 (u8s es) = busC n es dv ln md := by
  apply Array.toList_inj.1
  rw [putL_list _ _ _ (by simp [busC, hl, hl2, he])]
  simp [busC, hl, hl2, he, List.take_append, List.drop_append]
abbrev TF : TypeId := 25
abbrev TA : TypeId := 48
abbrev fc (kd md : Int) (fy : Bool) (ln fr : Int) (A : Option Addr) (n c : Nat) : Array Value := #[.int .i64 kd, .int .i64 md, .bool fy, .int .i64 ln, .int .i64 fr, .slice A n c]
theorem size_arr : (Try.prog.info? TA).map (·.size) = some 16 := by kernel_rfl
theorem one_u8s (l : List Nat) : (u8s l).toArray.all (·.oneCell') = true := all_oneCell_toArray (fun v hv => by simp [u8s] at hv; obtain ⟨x, _, rfl⟩ := hv; rfl)
theorem bus_there {w : World} {b n : Nat} {dr dv : List Nat} {ln : Nat} {md : Bool} (h : BusAt w b n dr dv ln md) (o k : Nat) (hk : o + k ≤ 35) : w.there b o k := fun j hj => by
  rw [h.obj.cell, h.obj.free]
  refine ⟨?_, rfl⟩
  have hs : (busC n dr dv ln md).size = 35 := by simp [busC, h.ldr, h.ldv]
  rw [Array.getElem?_eq_getElem (by omega)]
  rfl
theorem BusAt.putdv {w : World} {b n : Nat} {dr dv es : List Nat} {ln : Nat} {md : Bool} (h : BusAt w b n dr dv ln md) (he : es.length = 16) (hb : ∀ x ∈ es, x < 16) : BusAt (w.setCells b 17 (u8s es)) b n dr es ln md := by
  refine ⟨?_, h.ldr, he, h.hn, h.bdr, hb, h.bln⟩
  have := putL_obj (u8s es) 17 _ w h.obj
  rw [busC_putdv h.ldr h.ldv he] at this
  exact this
theorem BusAt.putdr {w : World} {b n : Nat} {dr dv es : List Nat} {ln : Nat} {md : Bool} (h : BusAt w b n dr dv ln md) (he : es.length = 16) (hb : ∀ x ∈ es, x < 16) : BusAt (w.setCells b 1 (u8s es)) b n es dv ln md := by
  refine ⟨?_, he, h.ldv, h.hn, hb, h.bdv, h.bln⟩
  have := putL_obj (u8s es) 1 _ w h.obj
  rw [busC_putdr h.ldr h.ldv he] at this
  exact this
theorem BusAt.lst {w : World} {b n : Nat} {dr dv : List Nat} {ln : Nat} {md : Bool} (h : BusAt w b n dr dv ln md) : Lst w (some ⟨b, 17, none⟩) 16 (u8s dv) :=
  ⟨by simp [u8s, h.ldv], fun _ => ⟨b, 17, rfl, h.obj.lt, fun k hk => by
    have hl : k < dv.length := by rw [h.ldv]; exact hk
    rw [(h.obj.cell (17 + k)).trans (busC_dv h.ldr hl), List.getElem?_map, List.getElem?_eq_getElem hl]
    rfl⟩⟩
/-- How the lines stand without a fault. -/
def allL (dr : List Nat) : Nat := Ly3.orL dr &&& 15
set_option maxRecDepth 100000 in
set_option maxHeartbeats 4000000 in
theorem settle_any {w : World} {b n : Nat} {dr dv : List Nat} {l0 : Nat} (kd md : Int) (fy : Bool) (ln fr : Int) (A : Option Addr) (fn c : Nat) (tk : Int) (r : Nat) (hr : r < 16) (h : BusAt w b n dr dv l0 true)
    (HL : ∀ W, Wrote b w W → Calls Try.prog 19 #[.agg (fc kd md fy ln fr A fn c), .int .u8 (allL dr : Nat), .int .i64 tk] W fun e w' => e = .returned (.int .u8 (r : Int)) ∧ Below W.heap.size W w') :
    Calls Try.prog 8 #[.pointer (some ⟨b, 0, none⟩), .agg (fc kd md fy ln fr A fn c), .int .i64 tk] w fun e w' => e = .returned (.int .u8 (r : Int)) ∧ Hid (BusAt w' b n z16 dr r true) ∧ Hid (Wrote b w w') := by
  have HLH := Lib.hid HL
  have HLB := Lib.hid h.obj.lt
  have HB0 := Lib.hid (show Wrote b w (w.alloc (.cells (fc kd md fy ln fr A fn c) TF)) from (Wrote.refl b w).alloc _)
  have HO0 := Lib.hid (h.kept (bel_new w (.cells (fc kd md fy ln fr A fn c) TF)))
  have HF0 := Lib.hid (Obj1.new w TF (fc kd md fy ln fr A fn c))
  obtain ⟨gf, HGF⟩ : ∃ gf, Hid (w.heap.size = gf) := ⟨_, Lib.hid rfl⟩
  rw [HGF.out] at HF0 HLB
  obtain ⟨s, HS⟩ : ∃ s, Hid (allL dr = s) := ⟨_, Lib.hid rfl⟩
  rw [HS.out] at HLH
  have hs15 : s < 256 := by rw [← HS.out]; unfold allL; have := @Nat.and_le_right (Ly3.orL dr) 15; omega
  have HDR := Lib.hid h.ldr
  have HBD := Lib.hid h.bdr
  have k34 := (HO0.out.obj.cell 34).trans (busC_ln (n := n) (ln := l0) (md := true) h.ldr h.ldv).2
  clear h HL
  go_enter Try.func8, Try.ntmps8
  go_upto_region 3 with (fail)
  rw [HGF.out]
  generalize w.alloc (.cells #[.int .i64 kd, .int .i64 md, .bool fy, .int .i64 ln, .int .i64 fr, .slice A fn c] TF) = W at HB0 HO0 HF0 k34 ⊢
  clear k34
  go_upto_region 4 with (first
    | (refine wpList_load_mid rfl TA (.tmp 19) rfl b 1 rfl (u8s dr) _ (bus_range HO0.out).1 Try.underlying48 rfl (by rw [size_arr]; simp [u8s, HDR.out]) ?_)
    | (refine wpList_store_mid rfl TA (.tmp 22) (.tmp 20) rfl b 17 (u8s dr).toArray rfl rfl (bus_there HO0.out 17 _ (by simp [u8s, HDR.out])) (by rw [size_arr]; simp [u8s, HDR.out]) (one_u8s dr) ?_))
  have HO1 := Lib.hid (HO0.out.putdv HDR.out HBD.out)
  have HB1 := Lib.hid (putL_wrote (u8s dr) 17 w W HB0.out)
  have HF1 : Hid (Obj1 (W.setCells b 17 (u8s dr)) gf TF (fc kd md fy ln fr A fn c)) := Lib.hid (HF0.out.touch (putL_wrote (u8s dr) 17 W W (Wrote.refl b W)) (by have := HLB.out; omega))
  have hz : ∀ x ∈ z16, x < 16 := by intro x hx; have := List.eq_of_mem_replicate hx; omega
  have HZ := Lib.hid hz
  try simp only [List.toList_toArray]
  generalize W.setCells b 17 (u8s dr) = W1 at HO1 HB1 HF1 ⊢
  clear HO0 HB0 HF0 hz
  go_upto_region 5 with (refine wpList_store_mid rfl TA (.tmp 26) (.tmp 24) rfl b 1 (u8s z16).toArray rfl rfl (bus_there HO1.out 1 _ (by simp [u8s, z16])) (by rw [size_arr]; simp [u8s, z16]) (one_u8s z16) ?_)
  have HO2 := Lib.hid (HO1.out.putdr (es := z16) (by simp [z16]) HZ.out)
  have HB2 := Lib.hid (putL_wrote (u8s z16) 1 w W1 HB1.out)
  have HF2 : Hid (Obj1 (W1.setCells b 1 (u8s z16)) gf TF (fc kd md fy ln fr A fn c)) := Lib.hid (HF1.out.touch (putL_wrote (u8s z16) 1 W1 W1 (Wrote.refl b W1)) (by have := HLB.out; omega))
  try simp only [List.toList_toArray]
  generalize W1.setCells b 1 (u8s z16) = W2 at HO2 HB2 HF2 ⊢
  clear HO1 HB1 HF1
  have hdr : Below W2.heap.size W2 W2.drew := (Below.refl _ _).drew
  have F0 : ∀ x : Kin W2.drew, x.world.cell? ⟨gf, 0, none⟩ = some (.int .i64 kd) := fun x => (HF2.out.kept (hdr.trans x.below)).cell 0
  have F1 : ∀ x : Kin W2.drew, x.world.cell? ⟨gf, 1, none⟩ = some (.int .i64 md) := fun x => (HF2.out.kept (hdr.trans x.below)).cell 1
  have F2 : ∀ x : Kin W2.drew, x.world.cell? ⟨gf, 2, none⟩ = some (.bool fy) := fun x => (HF2.out.kept (hdr.trans x.below)).cell 2
  have F3 : ∀ x : Kin W2.drew, x.world.cell? ⟨gf, 3, none⟩ = some (.int .i64 ln) := fun x => (HF2.out.kept (hdr.trans x.below)).cell 3
  have F4 : ∀ x : Kin W2.drew, x.world.cell? ⟨gf, 4, none⟩ = some (.int .i64 fr) := fun x => (HF2.out.kept (hdr.trans x.below)).cell 4
  have F5 : ∀ x : Kin W2.drew, x.world.cell? ⟨gf, 5, none⟩ = some (.slice A fn c) := fun x => (HF2.out.kept (hdr.trans x.below)).cell 5
  have HOR : Hid (∀ x : Kin W2.drew, Calls Try.prog 17 #[.slice (some ⟨b, 17, none⟩) 16 16] x.world fun e w' => e = .returned (.int .u8 (s : Int)) ∧ x.world = w') := Lib.hid (fun x => by
    have := Ly3.or_any (some ⟨b, 17, none⟩) 16 16 dr x.world (HO2.out.kept (hdr.trans x.below)).lst (fun y hy => by have := HBD.out y hy; omega) (by omega)
    rw [show Ly3.orL dr &&& 15 = allL dr from rfl, HS.out] at this
    exact this)
  have HLL : Hid (∀ x : Kin W2.drew, Calls Try.prog 19 #[.agg (fc kd md fy ln fr A fn c), .int .u8 (s : Int), .int .i64 tk] x.world fun e w' => e = .returned (.int .u8 (r : Int)) ∧ Below x.world.heap.size x.world w') :=
    Lib.hid (fun x => HLH.out x.world (HB2.out.then (hdr.trans x.below)))
  go_wp2_with fail
  refine wp_region_specL 11 [.d (.pointer (some ⟨b, 0, none⟩)), .d (.agg (fc kd md fy ln fr A fn c)), .d (.pointer (some ⟨b, 0, none⟩)), .d (.pointer (some ⟨b, 0, none⟩)), .d (.pointer (some ⟨b, 17, none⟩)), .d (.slice (some ⟨b, 17, none⟩) 16 16), .d (.int .u8 s), .d (.int .i64 tk), .d (.int .u8 r),
    .d (.pointer (some ⟨b, 0, none⟩)), .d (.pointer (some ⟨b, 33, none⟩))] (by kernel_rfl) (by kernel_rfl) ?_
  refine spec_d rfl (fun x _ => gives_run (by go_simp)) ?_
  try simp only [Act.put, List.getElem_toArray, List.getElem_cons_succ, List.getElem_cons_zero, List.setIfInBounds_toArray, List.set_cons_zero, List.set_cons_succ]
  refine spec_d rfl (fun x _ => gives_run (by go_simp)) ?_
  try simp only [Act.put, List.getElem_toArray, List.getElem_cons_succ, List.getElem_cons_zero, List.setIfInBounds_toArray, List.set_cons_zero, List.set_cons_succ]
  refine spec_d rfl (fun x _ => gives_run (by go_simp)) ?_
  try simp only [Act.put, List.getElem_toArray, List.getElem_cons_succ, List.getElem_cons_zero, List.setIfInBounds_toArray, List.set_cons_zero, List.set_cons_succ]
  refine spec_d rfl (fun x _ => gives_run (by go_simp)) ?_
  try simp only [Act.put, List.getElem_toArray, List.getElem_cons_succ, List.getElem_cons_zero, List.setIfInBounds_toArray, List.set_cons_zero, List.set_cons_succ]
  refine spec_d rfl (fun x _ => gives_run (by go_simp)) ?_
  try simp only [Act.put, List.getElem_toArray, List.getElem_cons_succ, List.getElem_cons_zero, List.setIfInBounds_toArray, List.set_cons_zero, List.set_cons_succ]
  refine spec_d rfl (fun x _ => gives_run (by go_simp)) ?_
  try simp only [Act.put, List.getElem_toArray, List.getElem_cons_succ, List.getElem_cons_zero, List.setIfInBounds_toArray, List.set_cons_zero, List.set_cons_succ]
  refine spec_d rfl (fun x _ => gives_det_same (by go_simp) (HOR.out x)) ?_
  try simp only [Act.put, List.getElem_toArray, List.getElem_cons_succ, List.getElem_cons_zero, List.setIfInBounds_toArray, List.set_cons_zero, List.set_cons_succ]
  refine spec_d rfl (fun x _ => gives_run (by go_simp)) ?_
  try simp only [Act.put, List.getElem_toArray, List.getElem_cons_succ, List.getElem_cons_zero, List.setIfInBounds_toArray, List.set_cons_zero, List.set_cons_succ]
  refine spec_d rfl (fun x _ => gives_det (by go_simp) (HLL.out x)) ?_
  try simp only [Act.put, List.getElem_toArray, List.getElem_cons_succ, List.getElem_cons_zero, List.setIfInBounds_toArray, List.set_cons_zero, List.set_cons_succ]
  refine spec_d rfl (fun x _ => gives_run (by go_simp)) ?_
  try simp only [Act.put, List.getElem_toArray, List.getElem_cons_succ, List.getElem_cons_zero, List.setIfInBounds_toArray, List.set_cons_zero, List.set_cons_succ]
  refine spec_d rfl (fun x _ => gives_run (by go_simp)) ?_
  try simp only [Act.put, List.getElem_toArray, List.getElem_cons_succ, List.getElem_cons_zero, List.setIfInBounds_toArray, List.set_cons_zero, List.set_cons_succ]
  refine spec_end (fun x hx => ?_)
  have hX := HO2.out.kept (hdr.trans x.below)
  have hc33 := (hX.obj.cell 33).trans (busC_ln (n := n) (ln := l0) (md := true) hX.ldr hX.ldv).1
  have hf33 := hX.obj.free 33
  have HX := Lib.hid hX
  clear hX hx
  change wpAny _ _ _ _ (0 + 1) _ _ _
  refine wpAny_ready (rs := [11]) (by kernel_rfl) (by simp) ?_
  refine AllReady.cons rfl (fun KK hK => ?_) AllReady.nil
  go_simp
  refine hK _ _ ?_
  clear hK KK
  try simp only [Act.put, List.getElem_toArray, List.getElem_cons_succ, List.getElem_cons_zero, List.setIfInBounds_toArray, List.set_cons_zero, List.set_cons_succ]
  refine wpAny_done (by kernel_rfl) ?_ _
  have HX2 : Hid (BusAt (x.world.setCell ⟨b, 33, none⟩ (.int .u8 (r : Int))) b n z16 dr r true) := Lib.hid ⟨by
      have := HX.out.obj.set 33 (.int .u8 (r : Int))
      rw [busC_setln HX.out.ldr HX.out.ldv] at this
      exact this, HX.out.ldr, HX.out.ldv, HX.out.hn, HX.out.bdr, HX.out.bdv, hr⟩
  have HBX : Hid (Wrote b w (x.world.setCell ⟨b, 33, none⟩ (.int .u8 (r : Int)))) := Lib.hid ((HB2.out.then (hdr.trans x.below)).set (.inl rfl) _)
  generalize x.world.setCell ⟨b, 33, none⟩ (.int .u8 (r : Int)) = W4 at HX2 HBX ⊢
  have hq := (HX2.out.obj.cell 33).trans (busC_ln (n := n) (ln := r) (md := true) HX2.out.ldr HX2.out.ldv).1
  clear hc33 hf33 F0 F1 F2 F3 F4 F5
  go_wp2
  go_ret
  exact ⟨rfl, HX2, HBX⟩
end Go.Proofs.Ytfolciibgdilcaa.Ly24
