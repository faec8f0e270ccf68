/- The contract of package bus' Talkers; a bus that nobody made; no condition. -/
import Derived.Test.YtfolciibgdilcaaBusB
import Derived.Test.YtfolciibgdilcaaWirP
namespace Go.Proofs.Ytfolciibgdilcaa.Ly24
open Go.ChangeShapes Go.WideShapes Go.ChangeAt Go.RowKit Base
set_option linter.unusedVariables false
set_option linter.unusedSimpArgs false

abbrev TZ : TypeId := 3
abbrev i64s (bs : List Nat) : List Value := bs.map fun (x : Nat) => Value.int .i64 x
/-- It drives something, but no pulse. -/
def talk (d : Nat) : Bool := decide (d ≠ 0) && (decide (d &&& 3 ≠ 3) && decide (d &&& 12 ≠ 12))
def tlk (dv : List Nat) (k : Nat) : List Nat := (List.range k).filter fun m => talk (dv.getD m 0)
theorem tlk_succ (dv : List Nat) (k : Nat) : tlk dv (k + 1) = if talk (dv.getD k 0) = true then tlk dv k ++ [k] else tlk dv k := by
  unfold tlk
  rw [List.range_succ, List.filter_append, List.filter_cons, List.filter_nil]
  by_cases h : talk (dv.getD k 0) = true
  · rw [if_pos h, if_pos h]
  · rw [if_neg h, if_neg h, List.append_nil]
theorem tlk_len (dv : List Nat) (k : Nat) : (tlk dv k).length ≤ k := by
  unfold tlk
  exact Nat.le_trans (List.length_filter_le _ _) (by simp)
def TkRel (w : World) (dv : List Nat) (n : Nat) (v i : Value) (wr : World) : Prop := ∃ k : Nat, k ≤ n ∧ i = .int .i64 k ∧ wr.ownsRow w.heap.size TZ 1 v (tlk dv k).length (i64s (tlk dv k)) ∧ Below w.heap.size w wr
theorem tk_same {w wr : World} {dv : List Nat} {n k : Nat} {v : Value} (hk : k < n) (ht : talk (dv.getD k 0) = false) (ho : wr.ownsRow w.heap.size TZ 1 v (tlk dv k).length (i64s (tlk dv k))) (hb : Below w.heap.size w wr) : TkRel w dv n v (.int .i64 ((k : Int) + 1)) wr := by
  refine ⟨k + 1, by omega, by go_num, ?_, hb⟩
  rw [tlk_succ, if_neg (by rw [ht]; exact Bool.false_ne_true)]
  exact ho
theorem tk_more {w wr : World} {dv : List Nat} {n k q : Nat} {v : Value} (hk : k < n) (ht : talk (dv.getD k 0) = true) (hq : (tlk dv k).length = q) (ho : wr.ownsRow w.heap.size TZ 1 v (q + 1) (i64s (tlk dv k) ++ [.int .i64 (k : Int)])) (hb : Below w.heap.size w wr) : TkRel w dv n v (.int .i64 ((k : Int) + 1)) wr := by
  refine ⟨k + 1, by omega, by go_num, ?_, hb⟩
  rw [tlk_succ, if_pos ht, List.length_append, hq]
  simpa [i64s] using ho
theorem info_i64 : (Try.prog.info? TZ).map (fun i => (i.zero, i.size, i.bytes)) = some (some (.int .i64 0), 1, 8) := by kernel_rfl
set_option maxRecDepth 100000 in
set_option maxHeartbeats 2000000 in
theorem talkers_at {w : World} {b n : Nat} {dr dv : List Nat} {ln : Nat} {md : Bool} (h : BusAt w b n dr dv ln md) : Calls Try.prog 10 #[.pointer (some ⟨b, 0, none⟩)] w fun e w' => ∃ v, e = .returned v ∧ Hid (w'.ownsRow w.heap.size TZ 1 v (tlk dv n).length (i64s (tlk dv n))) ∧ Hid (Below w.heap.size w w') := by
  obtain ⟨i0, hi, hz0, hz1, hz2⟩ := info_parts info_i64
  have HH := Lib.hid h
  have hn16 := h.hn
  clear h
  have HST : Hid (TkRel w dv n (.slice none 0 0) (.int .i64 0) w) := Lib.hid ⟨0, by omega, rfl, ⟨rfl, .inl ⟨rfl, rfl⟩⟩, Below.refl _ _⟩
  go_enter Try.func10, Try.ntmps10
  go_wp2_with fail
  refine (many_at HH.out).mono ?_
  rintro e w' ⟨rfl, rfl⟩
  go_wp2_with fail
  go_loopw [3, 8] (fun v i wr => TkRel w dv n v i wr) (fun _ i _ => n - (intOf i).toNat)
  case atStart => exact HST.out
  case round =>
    obtain ⟨k, hk, rfl, hown, hbel⟩ := hrel
    have HOW := Lib.hid hown
    have HBE := Lib.hid hbel
    have HW := Lib.hid (HH.out.kept hbel)
    clear hown hbel
    by_cases hlt : k < n
    · have HDV := Lib.hid (drove_in HW.out k hlt)
      have hkd : k < dv.length := by rw [HH.out.ldv]; omega
      have hd : dv.getD k 0 < 16 := by rw [List.getD_eq_getElem?_getD, List.getElem?_eq_getElem hkd]; exact HH.out.bdv _ (List.getElem_mem hkd)
      obtain ⟨d, HD⟩ : ∃ d, Hid (dv.getD k 0 = d) := ⟨_, Lib.hid rfl⟩
      rw [HD.out] at HDV hd
      have HCT := Lib.hid (Ly3.count_any d wr (by omega))
      have hcp := cnt_pos hd
      obtain ⟨c, HC⟩ : ∃ c, Hid (Ly3.cnt d 4 = c) := ⟨_, Lib.hid rfl⟩
      rw [HC.out] at HCT hcp
      have HS1 : Hid (Calls Try.prog 22 #[.int .u8 d, .bool false] wr fun e w' => e = .returned (.int .u8 (d &&& 3 : Nat)) ∧ wr = w') := Lib.hid (Ly3.side_any d false wr (by omega))
      have HS2 : Hid (Calls Try.prog 22 #[.int .u8 d, .bool true] wr fun e w' => e = .returned (.int .u8 (d &&& 12 : Nat)) ∧ wr = w') := Lib.hid (Ly3.side_any d true wr (by omega))
      obtain ⟨p, HP⟩ : ∃ p, Hid (d &&& 3 = p) := ⟨_, Lib.hid rfl⟩
      obtain ⟨q, HQ⟩ : ∃ q, Hid (d &&& 12 = q) := ⟨_, Lib.hid rfl⟩
      rw [HP.out] at HS1
      rw [HQ.out] at HS2
      have HTK : Hid (talk (dv.getD k 0) = (decide (d ≠ 0) && (decide (p ≠ 3) && decide (q ≠ 12)))) := Lib.hid (by rw [HD.out]; unfold talk; rw [HP.out, HQ.out])
      by_cases hd0 : d = 0
      · have HT0 : Hid (talk (dv.getD k 0) = false) := Lib.hid (by rw [HTK.out]; simp [hd0])
        obtain rfl : c = 0 := by
          have h : decide ((0 : Int) < (c : Int)) = false := by rw [hcp]; simp [hd0]
          have := of_decide_eq_false h
          omega
        clear hcp hd0
        go_wp2_with fail
        refine HDV.out.mono ?_
        rintro e w' ⟨rfl, rfl⟩
        go_wp2_with fail
        refine HCT.out.mono ?_
        rintro e w' ⟨rfl, rfl⟩
        go_wp2
        go_roundw
        case rel => exact tk_same hlt HT0.out HOW.out HBE.out
        case measure => simp [intOf]; omega
      · have hc0 : 0 < c := by
          have h : decide ((0 : Int) < (c : Int)) = true := by rw [hcp]; simp [hd0]
          have := of_decide_eq_true h
          omega
        have hc1 : (0 : Int) < (c : Int) := by omega
        have HD0 := Lib.hid hd0
        clear hcp hd0
        by_cases hp : p = 3
        · have HT0 : Hid (talk (dv.getD k 0) = false) := Lib.hid (by rw [HTK.out]; simp [hp])
          subst hp
          go_wp2_with fail
          refine HDV.out.mono ?_
          rintro e w' ⟨rfl, rfl⟩
          go_wp2_with fail
          refine HCT.out.mono ?_
          rintro e w' ⟨rfl, rfl⟩
          go_wp2_with fail
          refine HS1.out.mono ?_
          rintro e w' ⟨rfl, rfl⟩
          go_wp2_with fail
          refine (Ly3.x_any _).mono ?_
          rintro e w' ⟨rfl, rfl⟩
          go_wp2
          go_roundw
          case rel => exact tk_same hlt HT0.out HOW.out HBE.out
          case measure => simp [intOf]; omega
        · have hp1 : ((p : Int) != 3) = true := by simp; omega
          have HP3 := Lib.hid hp
          clear hp
          by_cases hq : q = 12
          · have HT0 : Hid (talk (dv.getD k 0) = false) := Lib.hid (by rw [HTK.out]; simp [hq])
            subst hq
            go_wp2_with fail
            refine HDV.out.mono ?_
            rintro e w' ⟨rfl, rfl⟩
            go_wp2_with fail
            refine HCT.out.mono ?_
            rintro e w' ⟨rfl, rfl⟩
            go_wp2_with fail
            refine HS1.out.mono ?_
            rintro e w' ⟨rfl, rfl⟩
            go_wp2_with fail
            refine (Ly3.x_any _).mono ?_
            rintro e w' ⟨rfl, rfl⟩
            go_wp2_with fail
            refine HS2.out.mono ?_
            rintro e w' ⟨rfl, rfl⟩
            go_wp2_with fail
            refine (Ly3.y_any _).mono ?_
            rintro e w' ⟨rfl, rfl⟩
            go_wp2
            go_roundw
            case rel => exact tk_same hlt HT0.out HOW.out HBE.out
            case measure => simp [intOf]; omega
          · have HT0 : Hid (talk (dv.getD k 0) = true) := Lib.hid (by rw [HTK.out]; simp [HD0.out, HP3.out, hq])
            have hq1 : ((q : Int) != 12) = true := by simp; omega
            have hlen := tlk_len dv k
            obtain ⟨z, HZ⟩ : ∃ z, Hid ((tlk dv k).length = z) := ⟨_, Lib.hid rfl⟩
            rw [HZ.out] at hlen HOW
            clear hq
            go_wp2_with fail
            refine HDV.out.mono ?_
            rintro e w' ⟨rfl, rfl⟩
            go_wp2_with fail
            refine HCT.out.mono ?_
            rintro e w' ⟨rfl, rfl⟩
            go_wp2_with fail
            refine HS1.out.mono ?_
            rintro e w' ⟨rfl, rfl⟩
            go_wp2_with fail
            refine (Ly3.x_any _).mono ?_
            rintro e w' ⟨rfl, rfl⟩
            go_wp2_with fail
            refine HS2.out.mono ?_
            rintro e w' ⟨rfl, rfl⟩
            go_wp2_with fail
            refine (Ly3.y_any _).mono ?_
            rintro e w' ⟨rfl, rfl⟩
            go_wp2_with (at_builtin; refine push1 _ rfl (.tmp 29) (.tmp 31) 38 rfl w.heap.size TZ i0 (.int .i64 0) 8 Try.underlying38 hi hz0 hz1 hz2 rfl _ _ _ rfl HOW.out (.int .i64 (k : Int)) _ rfl rfl (by unfold maxLen; omega) (by omega) HBE.out.size ?_; intro v2 w2 hown2 hbel2)
            go_roundw
            case rel => exact tk_more hlt HT0.out HZ.out hown2 (HBE.out.trans hbel2)
            case measure => simp [intOf]; omega
    · obtain rfl : k = n := by omega
      go_wp2
      go_ret
      exact ⟨_, rfl, HOW, HBE⟩
/-- A bus that nobody made. -/
def NoBus (w : World) (v : Value) : Prop := v = .pointer none ∨ ∃ b, v = .pointer (some ⟨b, 0, none⟩) ∧ BusAt w b 0 z16 z16 0 false
theorem bus_no (w : World) : BusAt (w.alloc (.cells (busC 0 z16 z16 0 false) TB)) w.heap.size 0 z16 z16 0 false :=
  ⟨Obj1.new _ _ _, by simp [z16], by simp [z16], by omega, by intro x hx; have := List.eq_of_mem_replicate hx; omega, by intro x hx; have := List.eq_of_mem_replicate hx; omega, by omega⟩
theorem NoBus.kept {w w' : World} {v : Value} (h : NoBus w v) (hb : Below w.heap.size w w') : NoBus w' v := h.imp id fun ⟨b, e, h⟩ => ⟨b, e, h.kept hb⟩
theorem has_nil (m : Int) (w : World) : Calls Try.prog 18 #[.pointer none, .int .i64 m] w fun e w' => e = .returned (.bool false) ∧ w = w' := by
  go_enter Try.func18, Try.ntmps18
  go_wp2
  go_ret
  exact ⟨rfl, rfl⟩
theorem put_nob {w : World} {v : Value} (h : NoBus w v) (l : Int) : Calls Try.prog 6 #[v, .int .i64 0, .int .u8 l] w fun e w' => e = .returned (.tuple #[]) ∧ w = w' := by
  rcases h with rfl | ⟨b, rfl, h⟩
  · go_enter Try.func6, Try.ntmps6
    go_wp2_with fail
    refine (has_nil 0 w).mono ?_
    rintro e w' ⟨rfl, rfl⟩
    go_wp2
    go_end0
    exact ⟨rfl, rfl⟩
  · exact put_out h 0 l (.inr (by omega))
theorem drove_nob {w : World} {v : Value} (h : NoBus w v) : Calls Try.prog 9 #[v, .int .i64 0] w fun e w' => e = .returned (.int .u8 0) ∧ w = w' := by
  rcases h with rfl | ⟨b, rfl, h⟩
  · go_enter Try.func9, Try.ntmps9
    go_wp2_with fail
    refine (has_nil 0 w).mono ?_
    rintro e w' ⟨rfl, rfl⟩
    go_wp2
    go_ret
    exact ⟨rfl, rfl⟩
  · exact drove_out h 0 (.inr (by omega))
theorem lines_nob {w : World} {v : Value} (h : NoBus w v) : Calls Try.prog 14 #[v] w fun e w' => e = .returned (.int .u8 0) ∧ w = w' := by
  rcases h with rfl | ⟨b, rfl, h⟩
  · go_enter Try.func14, Try.ntmps14
    go_wp2
    go_ret
    exact ⟨rfl, rfl⟩
  · exact lines_at h
theorem many_nob {w : World} {v : Value} (h : NoBus w v) : Calls Try.prog 20 #[v] w fun e w' => e = .returned (.int .i64 0) ∧ w = w' := by
  rcases h with rfl | ⟨b, rfl, h⟩
  · go_enter Try.func20, Try.ntmps20
    go_wp2
    go_ret
    exact ⟨rfl, rfl⟩
  · exact many_at h
theorem drivers_nob {w : World} {v : Value} (h : NoBus w v) : Calls Try.prog 15 #[v] w fun e w' => e = .returned (.int .i64 0) ∧ w = w' := by
  have HM := Lib.hid (many_nob h)
  clear h
  go_enter Try.func15, Try.ntmps15
  go_wp2_with fail
  refine HM.out.mono ?_
  rintro e w' ⟨rfl, rfl⟩
  go_wp2_with fail
  go_loop [3, 7] (fun v i => v = .int .i64 0 ∧ i = .int .i64 0) (fun _ _ => 0)
  case atStart => exact ⟨rfl, rfl⟩
  case round =>
    obtain ⟨rfl, rfl⟩ := hrel
    go_wp2
    go_ret
    exact ⟨rfl, rfl⟩
theorem talkers_nob {w : World} {v : Value} (h : NoBus w v) : Calls Try.prog 10 #[v] w fun e w' => e = .returned (.slice none 0 0) ∧ w = w' := by
  have HM := Lib.hid (many_nob h)
  clear h
  go_enter Try.func10, Try.ntmps10
  go_wp2_with fail
  refine HM.out.mono ?_
  rintro e w' ⟨rfl, rfl⟩
  go_wp2_with fail
  go_loop [3, 8] (fun v i => v = .slice none 0 0 ∧ i = .int .i64 0) (fun _ _ => 0)
  case atStart => exact ⟨rfl, rfl⟩
  case round =>
    obtain ⟨rfl, rfl⟩ := hrel
    go_wp2
    go_ret
    exact ⟨rfl, rfl⟩
theorem settle_nob {w : World} {v : Value} (h : NoBus w v) (kd md : Int) (fy : Bool) (ln fr : Int) (A : Option Addr) (fn c : Nat) (tk : Int) : Calls Try.prog 8 #[v, .agg (fc kd md fy ln fr A fn c), .int .i64 tk] w fun e w' => e = .returned (.int .u8 0) ∧ Hid (Below w.heap.size w w') := by
  rcases h with rfl | ⟨b, rfl, h⟩
  · go_enter Try.func8, Try.ntmps8
    go_wp2
    go_ret
    exact ⟨rfl, Lib.hid (bel_new _ _)⟩
  · have HO0 := h.kept (bel_new w (.cells (fc kd md fy ln fr A fn c) TF))
    have k34 := (HO0.obj.cell 34).trans (busC_ln (n := 0) (ln := 0) (md := false) h.ldr h.ldv).2
    clear h HO0
    go_enter Try.func8, Try.ntmps8
    go_wp2
    go_ret
    exact ⟨rfl, Lib.hid (bel_new _ _)⟩
end Go.Proofs.Ytfolciibgdilcaa.Ly24
