/- What a bus holds; the contracts of package bus' has, Put, Drove, many, Lines; no condition. -/
import Derived.Test.YtfolciibgdilcaaWirO
import Derived.Test.YtfolciibgdilcaaRegL
import Derived.Test.YtfolciibgdilcaaPush
import Derived.RegionTactic
namespace Go.Proofs.Ytfolciibgdilcaa.Ly24
open Go.ChangeShapes Go.WideShapes Go.ChangeAt Go.RowKit Base
set_option linter.unusedVariables false
set_option linter.unusedSimpArgs false

abbrev TB : TypeId := 50
abbrev TLs : TypeId := 53
abbrev TLn : TypeId := 30
abbrev u8s (bs : List Nat) : List Value := bs.map fun (x : Nat) => Value.int .u8 x
def busC (n : Nat) (dr dv : List Nat) (ln : Nat) (md : Bool) : Array Value := (Value.int .i64 n :: (u8s dr ++ (u8s dv ++ [.int .u8 ln, .bool md]))).toArray
/-- A bus lies in block b. -/
structure BusAt (w : World) (b n : Nat) (dr dv : List Nat) (ln : Nat) (md : Bool) : Prop where
  obj : Obj1 w b TB (busC n dr dv ln md)
  ldr : dr.length = 16
  ldv : dv.length = 16
  hn : n ≤ 16
  bdr : ∀ x ∈ dr, x < 16
  bdv : ∀ x ∈ dv, x < 16
  bln : ln < 16
theorem busC_0 (n : Nat) (dr dv : List Nat) (ln : Nat) (md : Bool) : (busC n dr dv ln md)[0]? = some (.int .i64 n) := by simp [busC]
theorem busC_dr {n : Nat} {dr dv : List Nat} {ln : Nat} {md : Bool} {m : Nat} (hm : m < dr.length) : (busC n dr dv ln md)[1 + m]? = some (.int .u8 (dr[m] : Nat)) := by
  unfold busC
  rw [List.getElem?_toArray, Nat.add_comm, List.getElem?_cons_succ, List.getElem?_append_left (by simpa using hm), List.getElem?_map, List.getElem?_eq_getElem hm]
  rfl
theorem busC_dv {n : Nat} {dr dv : List Nat} {ln : Nat} {md : Bool} {m : Nat} (hl : dr.length = 16) (hm : m < dv.length) : (busC n dr dv ln md)[17 + m]? = some (.int .u8 (dv[m] : Nat)) := by
  unfold busC
  rw [List.getElem?_toArray, show 17 + m = 16 + m + 1 by omega, List.getElem?_cons_succ, List.getElem?_append_right (by simp; omega), List.length_map, hl, show 16 + m - 16 = m by omega, List.getElem?_append_left (by simpa using hm), List.getElem?_map, List.getElem?_eq_getElem hm]
  rfl
theorem busC_ln {n : Nat} {dr dv : List Nat} {ln : Nat} {md : Bool} (hl : dr.length = 16) (hl2 : dv.length = 16) : (busC n dr dv ln md)[33]? = some (.int .u8 ln) ∧ (busC n dr dv ln md)[34]? = some (.bool md) := by
  unfold busC
  constructor
  · rw [List.getElem?_toArray, List.getElem?_cons_succ, List.getElem?_append_right (by simp; omega), List.length_map, hl, List.getElem?_append_right (by simp; omega), List.length_map, hl2]
    rfl
  · rw [List.getElem?_toArray, List.getElem?_cons_succ, List.getElem?_append_right (by simp; omega), List.length_map, hl, List.getElem?_append_right (by simp; omega), List.length_map, hl2]
    rfl
theorem busC_set {n : Nat} {dr dv : List Nat} {ln : Nat} {md : Bool} {m u : Nat} (hm : m < dr.length) : (busC n dr dv ln md).setIfInBounds (1 + m) (.int .u8 u) = busC n (dr.set m u) dv ln md := by
  unfold busC
  apply Array.toList_inj.1
  rw [Array.toList_setIfInBounds, Nat.add_comm]
  simp only [List.set_cons_succ, List.cons.injEq, true_and]
  rw [List.set_append_left _ _ (by simpa using hm)]
  congr 1
  rw [u8s, u8s, List.map_set]
theorem busC_setln {n : Nat} {dr dv : List Nat} {ln : Nat} {md : Bool} {u : Nat} (hl : dr.length = 16) (hl2 : dv.length = 16) : (busC n dr dv ln md).setIfInBounds 33 (.int .u8 u) = busC n dr dv u md := by
  unfold busC
  apply Array.toList_inj.1
  rw [Array.toList_setIfInBounds]
  simp only [List.set_cons_succ, List.cons.injEq, true_and]
  rw [List.set_append_right _ _ (by simp; omega), List.length_map, hl, List.set_append_right _ _ (by simp; omega), List.length_map, hl2]
  rfl
theorem BusAt.kept {w w' : World} {b n : Nat} {dr dv : List Nat} {ln : Nat} {md : Bool} (h : BusAt w b n dr dv ln md) (hb : Below w.heap.size w w') : BusAt w' b n dr dv ln md := ⟨h.obj.kept hb, h.ldr, h.ldv, h.hn, h.bdr, h.bdv, h.bln⟩
theorem BusAt.touch {w w' : World} {b g n : Nat} {dr dv : List Nat} {ln : Nat} {md : Bool} (h : BusAt w b n dr dv ln md) (ht : Wrote g w w') (hne : b ≠ g) : BusAt w' b n dr dv ln md := ⟨h.obj.touch ht hne, h.ldr, h.ldv, h.hn, h.bdr, h.bdv, h.bln⟩
theorem has_in {w : World} {b n : Nat} {dr dv : List Nat} {ln : Nat} {md : Bool} (h : BusAt w b n dr dv ln md) (m : Nat) (hm : m < n) : Calls Try.prog 18 #[.pointer (some ⟨b, 0, none⟩), .int .i64 m] w fun e w' => e = .returned (.bool true) ∧ w = w' := by
  have k0 := (h.obj.cell 0).trans (busC_0 n dr dv ln md)
  have hi : (m : Int) < (n : Int) := by omega
  clear h
  go_enter Try.func18, Try.ntmps18
  go_wp2
  go_ret
  exact ⟨rfl, rfl⟩
theorem has_out {w : World} {b n : Nat} {dr dv : List Nat} {ln : Nat} {md : Bool} (h : BusAt w b n dr dv ln md) (m : Int) (hm : m < 0 ∨ (n : Int) ≤ m) : Calls Try.prog 18 #[.pointer (some ⟨b, 0, none⟩), .int .i64 m] w fun e w' => e = .returned (.bool false) ∧ w = w' := by
  have k0 := (h.obj.cell 0).trans (busC_0 n dr dv ln md)
  clear h
  rcases (show m < 0 ∨ (0 ≤ m ∧ (n : Int) ≤ m) by omega) with h | ⟨h, h2⟩
  · clear hm
    go_enter Try.func18, Try.ntmps18
    go_wp2
    go_ret
    exact ⟨rfl, rfl⟩
  · have hd : decide (m < (n : Int)) = false := decide_eq_false (by omega)
    clear hm
    go_enter Try.func18, Try.ntmps18
    go_wp2
    go_ret
    exact ⟨rfl, rfl⟩
theorem put_out {w : World} {b n : Nat} {dr dv : List Nat} {ln : Nat} {md : Bool} (h : BusAt w b n dr dv ln md) (m : Int) (l : Int) (hm : m < 0 ∨ (n : Int) ≤ m) : Calls Try.prog 6 #[.pointer (some ⟨b, 0, none⟩), .int .i64 m, .int .u8 l] w fun e w' => e = .returned (.tuple #[]) ∧ w = w' := by
  go_enter Try.func6, Try.ntmps6
  go_wp2_with fail
  refine (has_out h m hm).mono ?_
  rintro e w' ⟨rfl, rfl⟩
  go_wp2
  go_end0
  exact ⟨rfl, rfl⟩
set_option maxRecDepth 100000 in
set_option maxHeartbeats 2000000 in
theorem put_in {w : World} {b n : Nat} {dr dv : List Nat} {ln : Nat} {md : Bool} (h : BusAt w b n dr dv ln md) (m l : Nat) (hm : m < n) (hl : l < 256) : Calls Try.prog 6 #[.pointer (some ⟨b, 0, none⟩), .int .i64 m, .int .u8 l] w fun e w' => e = .returned (.tuple #[]) ∧ Hid (BusAt w' b n (dr.set m ((dr.getD m 0 ||| l) &&& 15)) dv ln md) ∧ Hid (Wrote b w w') := by
  have HH := Lib.hid h
  have HI := Lib.hid (has_in h m hm)
  have hm16 : m < 16 := by have := h.hn; omega
  have hmd : m < dr.length := by rw [h.ldr]; exact hm16
  have hc := busC_dr (n := n) (dv := dv) (ln := ln) (md := md) hmd
  obtain ⟨d, HD⟩ : ∃ d, Hid (dr[m] = d) := ⟨_, Lib.hid rfl⟩
  have hd : d < 256 := by have := h.bdr _ (List.getElem_mem hmd); rw [HD.out] at this; omega
  have HDG : Hid (dr.getD m 0 = d) := Lib.hid (by rw [List.getD_eq_getElem?_getD, List.getElem?_eq_getElem hmd]; exact HD.out)
  rw [HD.out] at hc
  rw [HDG.out]
  have K1 : ∀ x : Kin w.drew, x.world.cell? ⟨b, 1 + m, none⟩ = some (.int .u8 (d : Int)) := fun x => ((HH.out.kept ((Below.refl _ _).drew.trans x.below)).obj.cell (1 + m)).trans hc
  have hmi : (m : Int) < 16 := by omega
  have HMD := Lib.hid hmd
  obtain ⟨r, HR⟩ : ∃ r, Hid ((d ||| l) &&& 15 = r) := ⟨_, Lib.hid rfl⟩
  have HOR : Hid (∀ W g, Lst W (some ⟨g, 0, none⟩) 2 (u8s [d, l]) → Calls Try.prog 17 #[.slice (some ⟨g, 0, none⟩) 2 2] W fun e w' => e = .returned (.int .u8 (r : Int)) ∧ W = w') := Lib.hid (fun W g hg => by
    have := Ly3.or_any (some ⟨g, 0, none⟩) 2 2 [d, l] W hg (by intro x hx; simp at hx; omega) (by omega)
    rw [show Ly3.orL [d, l] = d ||| l by simp [Ly3.orL], HR.out] at this
    exact this)
  rw [HR.out]
  clear h hc
  go_enter Try.func6, Try.ntmps6
  go_wp2_with fail
  refine HI.out.mono ?_
  rintro e w' ⟨rfl, rfl⟩
  go_wp2_with fail
  refine wp_region_specL 14 [.d (.pointer (some ⟨b, 0, none⟩)), .d (.int .i64 m), .d (.pointer (some ⟨b, 0, none⟩)), .d (.int .i64 m), .d (.pointer (some ⟨b, 0, none⟩)), .d (.pointer (some ⟨b, 1, none⟩)), .d (.pointer (some ⟨b, 1 + m, none⟩)), .d (.int .u8 d), .d (.int .u8 l),
    .g (NewL w.heap.size 2 (u8s [d, l])), .d (.int .u8 r), .d (.pointer (some ⟨b, 0, none⟩)), .d (.pointer (some ⟨b, 1, none⟩)), .d (.pointer (some ⟨b, 1 + m, none⟩))] (by kernel_rfl) (by kernel_rfl) ?_
  refine spec_d rfl (fun x _ => gives_run (by go_simp)) ?_
  try simp only [Act.put, List.getElem_toArray, List.getElem_cons_succ, List.getElem_cons_zero, List.setIfInBounds_toArray, List.set_cons_zero, List.set_cons_succ]
  refine spec_d rfl (fun x _ => gives_run (by go_simp)) ?_
  try simp only [Act.put, List.getElem_toArray, List.getElem_cons_succ, List.getElem_cons_zero, List.setIfInBounds_toArray, List.set_cons_zero, List.set_cons_succ]
  refine spec_d rfl (fun x _ => gives_run (by go_simp)) ?_
  try simp only [Act.put, List.getElem_toArray, List.getElem_cons_succ, List.getElem_cons_zero, List.setIfInBounds_toArray, List.set_cons_zero, List.set_cons_succ]
  refine spec_d rfl (fun x _ => gives_run (by go_simp)) ?_
  try simp only [Act.put, List.getElem_toArray, List.getElem_cons_succ, List.getElem_cons_zero, List.setIfInBounds_toArray, List.set_cons_zero, List.set_cons_succ]
  refine spec_d rfl (fun x _ => gives_run (by go_simp)) ?_
  try simp only [Act.put, List.getElem_toArray, List.getElem_cons_succ, List.getElem_cons_zero, List.setIfInBounds_toArray, List.set_cons_zero, List.set_cons_succ]
  refine spec_d rfl (fun x _ => gives_run (by go_simp)) ?_
  try simp only [Act.put, List.getElem_toArray, List.getElem_cons_succ, List.getElem_cons_zero, List.setIfInBounds_toArray, List.set_cons_zero, List.set_cons_succ]
  refine spec_d rfl (fun x _ => gives_run (by go_simp)) ?_
  try simp only [Act.put, List.getElem_toArray, List.getElem_cons_succ, List.getElem_cons_zero, List.setIfInBounds_toArray, List.set_cons_zero, List.set_cons_succ]
  refine spec_d rfl (fun x _ => gives_run (by go_simp)) ?_
  try simp only [Act.put, List.getElem_toArray, List.getElem_cons_succ, List.getElem_cons_zero, List.setIfInBounds_toArray, List.set_cons_zero, List.set_cons_succ]
  refine spec_d rfl (fun x _ => gives_run (by go_simp)) ?_
  try simp only [Act.put, List.getElem_toArray, List.getElem_cons_succ, List.getElem_cons_zero, List.setIfInBounds_toArray, List.set_cons_zero, List.set_cons_succ]
  refine spec_g (NewL.stable _ _ _) (NewL.ex _ TLn (Nat.le_refl _) rfl) rfl (fun x _ => gives_ok (by go_simp) (bel_new _ _) (NewL.new (T := TLn) x.below.size rfl)) ?_
  rintro v ⟨y, g, rfl, _, _⟩
  try simp only [Act.put, List.getElem_toArray, List.getElem_cons_succ, List.getElem_cons_zero, List.setIfInBounds_toArray, List.set_cons_zero, List.set_cons_succ]
  refine spec_d rfl (fun x hx => gives_det_same (by go_simp) (HOR.out x.world g (NewL.at (hx _ (List.mem_singleton.2 rfl) (by kernel_rfl))).2)) ?_
  try simp only [Act.put, List.getElem_toArray, List.getElem_cons_succ, List.getElem_cons_zero, List.setIfInBounds_toArray, List.set_cons_zero, List.set_cons_succ]
  refine spec_d rfl (fun x _ => gives_run (by go_simp)) ?_
  try simp only [Act.put, List.getElem_toArray, List.getElem_cons_succ, List.getElem_cons_zero, List.setIfInBounds_toArray, List.set_cons_zero, List.set_cons_succ]
  refine spec_d rfl (fun x _ => gives_run (by go_simp)) ?_
  try simp only [Act.put, List.getElem_toArray, List.getElem_cons_succ, List.getElem_cons_zero, List.setIfInBounds_toArray, List.set_cons_zero, List.set_cons_succ]
  refine spec_d rfl (fun x _ => gives_run (by go_simp)) ?_
  try simp only [Act.put, List.getElem_toArray, List.getElem_cons_succ, List.getElem_cons_zero, List.setIfInBounds_toArray, List.set_cons_zero, List.set_cons_succ]
  refine spec_end (fun x hx => ?_)
  have hx0 : x.world.frozen? ⟨b, 1 + m, none⟩ = false := (HH.out.kept ((Below.refl _ _).drew.trans x.below)).obj.free (1 + m)
  have hx1 := K1 x
  change wpAny _ _ _ _ (0 + 1) _ _ _
  refine wpAny_ready (rs := [14]) (by kernel_rfl) (by simp) ?_
  refine AllReady.cons rfl (fun KK hK => ?_) AllReady.nil
  go_simp
  refine hK _ _ ?_
  clear hK KK
  try simp only [Act.put, List.getElem_toArray, List.getElem_cons_succ, List.getElem_cons_zero, List.setIfInBounds_toArray, List.set_cons_zero, List.set_cons_succ]
  refine wpAny_done (by kernel_rfl) ?_ _
  go_wp2_with fail
  go_end0
  have hbx : Below w.heap.size w x.world := (Below.refl _ _).drew.trans x.below
  have hX := HH.out.kept hbx
  refine ⟨rfl, Lib.hid ⟨?_, by rw [List.length_set]; exact hX.ldr, hX.ldv, hX.hn, ?_, hX.bdv, hX.bln⟩, Lib.hid ((Wrote.of_below hbx).set (.inl rfl) _)⟩
  · have := hX.obj.set (1 + m) (.int .u8 (r : Int))
    rw [busC_set HMD.out] at this
    exact this
  · intro z hz
    rcases List.mem_or_eq_of_mem_set hz with h | rfl
    · exact hX.bdr z h
    · rw [← HR.out]
      have := @Nat.and_le_right (d ||| l) 15
      omega
theorem drove_out {w : World} {b n : Nat} {dr dv : List Nat} {ln : Nat} {md : Bool} (h : BusAt w b n dr dv ln md) (m : Int) (hm : m < 0 ∨ (n : Int) ≤ m) : Calls Try.prog 9 #[.pointer (some ⟨b, 0, none⟩), .int .i64 m] w fun e w' => e = .returned (.int .u8 0) ∧ w = w' := by
  go_enter Try.func9, Try.ntmps9
  go_wp2_with fail
  refine (has_out h m hm).mono ?_
  rintro e w' ⟨rfl, rfl⟩
  go_wp2
  go_ret
  exact ⟨rfl, rfl⟩
theorem drove_in {w : World} {b n : Nat} {dr dv : List Nat} {ln : Nat} {md : Bool} (h : BusAt w b n dr dv ln md) (m : Nat) (hm : m < n) : Calls Try.prog 9 #[.pointer (some ⟨b, 0, none⟩), .int .i64 m] w fun e w' => e = .returned (.int .u8 ((dv.getD m 0 : Nat) : Int)) ∧ w = w' := by
  have HI := Lib.hid (has_in h m hm)
  have hm16 : m < 16 := by have := h.hn; omega
  have hmd : m < dv.length := by rw [h.ldv]; exact hm16
  have hc := (h.obj.cell (17 + m)).trans (busC_dv (n := n) (ln := ln) (md := md) h.ldr hmd)
  obtain ⟨d, HD⟩ : ∃ d, Hid (dv[m] = d) := ⟨_, Lib.hid rfl⟩
  have HDG : Hid (dv.getD m 0 = d) := Lib.hid (by rw [List.getD_eq_getElem?_getD, List.getElem?_eq_getElem hmd]; exact HD.out)
  rw [HD.out] at hc
  rw [HDG.out]
  have hmi : (m : Int) < 16 := by omega
  clear h
  go_enter Try.func9, Try.ntmps9
  go_wp2_with fail
  refine HI.out.mono ?_
  rintro e w' ⟨rfl, rfl⟩
  go_wp2
  go_ret
  exact ⟨rfl, rfl⟩
theorem many_at {w : World} {b n : Nat} {dr dv : List Nat} {ln : Nat} {md : Bool} (h : BusAt w b n dr dv ln md) : Calls Try.prog 20 #[.pointer (some ⟨b, 0, none⟩)] w fun e w' => e = .returned (.int .i64 n) ∧ w = w' := by
  have k0 := (h.obj.cell 0).trans (busC_0 n dr dv ln md)
  clear h
  go_enter Try.func20, Try.ntmps20
  go_wp2
  go_ret
  exact ⟨rfl, rfl⟩
theorem lines_at {w : World} {b n : Nat} {dr dv : List Nat} {ln : Nat} {md : Bool} (h : BusAt w b n dr dv ln md) : Calls Try.prog 14 #[.pointer (some ⟨b, 0, none⟩)] w fun e w' => e = .returned (.int .u8 ln) ∧ w = w' := by
  have k0 := (h.obj.cell 33).trans (busC_ln (n := n) (ln := ln) (md := md) h.ldr h.ldv).1
  clear h
  go_enter Try.func14, Try.ntmps14
  go_wp2
  go_ret
  exact ⟨rfl, rfl⟩
/-- How many of the first k drove. -/
def drv (dv : List Nat) (k : Nat) : Nat := ((dv.take k).filter (fun d => decide (d ≠ 0))).length
theorem drv_succ (dv : List Nat) (k : Nat) (hk : k < dv.length) : drv dv (k + 1) = drv dv k + (if dv[k] = 0 then 0 else 1) := by
  unfold drv
  rw [List.take_add_one, List.getElem?_eq_getElem hk, Option.toList_some, List.filter_append, List.length_append]
  by_cases h : dv[k] = 0 <;> simp [h]
theorem cnt_pos {d : Nat} (h : d < 16) : decide ((0 : Int) < (Ly3.cnt d 4 : Nat)) = !decide (d = 0) := by
  have h' : ∀ d : Fin 16, decide ((0 : Int) < (Ly3.cnt d.1 4 : Nat)) = !decide (d.1 = 0) := by decide
  exact h' ⟨d, h⟩
def DvRel (dv : List Nat) (n : Nat) (v i : Value) : Prop := ∃ k : Nat, k ≤ n ∧ i = .int .i64 k ∧ v = .int .i64 (drv dv k : Nat)
theorem dvRel {dv : List Nat} {n k : Nat} (hk : k < n) {s : Nat} (hs : drv dv (k + 1) = s) : DvRel dv n (.int .i64 s) (.int .i64 ((k : Int) + 1)) := ⟨k + 1, by omega, by go_num, by rw [hs]⟩
set_option maxHeartbeats 1000000 in
theorem drivers_at {w : World} {b n : Nat} {dr dv : List Nat} {ln : Nat} {md : Bool} (h : BusAt w b n dr dv ln md) : Calls Try.prog 15 #[.pointer (some ⟨b, 0, none⟩)] w fun e w' => e = .returned (.int .i64 (drv dv n : Nat)) ∧ w = w' := by
  have HH := Lib.hid h
  have hn16 := h.hn
  clear h
  go_enter Try.func15, Try.ntmps15
  go_wp2_with fail
  refine (many_at HH.out).mono ?_
  rintro e w' ⟨rfl, rfl⟩
  go_wp2_with fail
  go_loop [3, 7] (fun v i => DvRel dv n v i) (fun _ i => n - (intOf i).toNat)
  case atStart => exact ⟨0, by omega, rfl, rfl⟩
  case round =>
    obtain ⟨k, hk, rfl, rfl⟩ := hrel
    by_cases hlt : k < n
    · have hkd : k < dv.length := by rw [HH.out.ldv]; omega
      have HS := Lib.hid (drv_succ dv k hkd)
      have hd := HH.out.bdv _ (List.getElem_mem hkd)
      obtain ⟨d, HD⟩ : ∃ d, Hid (dv[k] = d) := ⟨_, Lib.hid rfl⟩
      have HDG : Hid (dv.getD k 0 = d) := Lib.hid (by rw [List.getD_eq_getElem?_getD, List.getElem?_eq_getElem hkd]; exact HD.out)
      have HDV := Lib.hid (drove_in HH.out k hlt)
      rw [HD.out] at HS hd
      rw [HDG.out] at HDV
      obtain ⟨s, HSS⟩ : ∃ s, Hid (drv dv k = s) := ⟨_, Lib.hid rfl⟩
      have hsb : s ≤ k := by rw [← HSS.out]; unfold drv; exact Nat.le_trans (List.length_filter_le _ _) (by rw [List.length_take]; omega)
      rw [HSS.out] at HS ⊢
      have hcp := cnt_pos hd
      obtain ⟨c, HC⟩ : ∃ c, Hid (Ly3.cnt d 4 = c) := ⟨_, Lib.hid rfl⟩
      have HCT := Lib.hid (Ly3.count_any d w (by omega))
      rw [HC.out] at HCT hcp
      by_cases hd0 : d = 0
      · have HS0 : Hid (drv dv (k + 1) = s) := Lib.hid (by rw [HS.out, if_pos hd0]; rfl)
        obtain rfl : c = 0 := by have h : decide ((0 : Int) < (c : Int)) = false := by rw [hcp]; simp [hd0]
                                 have := of_decide_eq_false h
                                 omega
        clear hcp hd0
        go_wp2_with fail
        refine HDV.out.mono ?_
        rintro e w' ⟨rfl, rfl⟩
        go_wp2_with fail
        refine HCT.out.mono ?_
        rintro e w' ⟨rfl, rfl⟩
        go_wp2
        go_round
        case rel => exact dvRel hlt HS0.out
        case measure => simp [intOf]; omega
      · have HS0 : Hid (drv dv (k + 1) = s + 1) := Lib.hid (by rw [HS.out, if_neg hd0])
        have HS1 : Hid (drv dv (k + 1) = s + 1) := HS0
        have hcp' : 0 < c := by have h : decide ((0 : Int) < (c : Int)) = true := by rw [hcp]; simp [hd0]
                                have := of_decide_eq_true h
                                omega
        have hcp2 : (0 : Int) < (c : Int) := by omega
        clear hcp hd0
        go_wp2_with fail
        refine HDV.out.mono ?_
        rintro e w' ⟨rfl, rfl⟩
        go_wp2_with fail
        refine HCT.out.mono ?_
        rintro e w' ⟨rfl, rfl⟩
        go_wp2
        go_round
        case rel => exact dvRel (s := s + 1) hlt HS0.out
        case measure => simp [intOf]; omega
    · obtain rfl : k = n := by omega
      go_wp2
      go_ret
      exact ⟨rfl, rfl⟩
end Go.Proofs.Ytfolciibgdilcaa.Ly24
