/- The contract of package runs' See, on one that was made, and of layer 6's closed example. -/
import Derived.Test.YtbhgnhbaimemmaaRunA
import Derived.Deep.RegionHeld3
import Derived.Deep.RegionWith
namespace Go.Proofs.Ytbhgnhbaimemmaa.Ly6
open Go.ChangeShapes Go.WideShapes Go.ChangeAt Go.RowKit Base Ly3
set_option linter.unusedVariables false
set_option linter.unusedSimpArgs false

theorem nx_on {l k : Nat} {a x : Int} (h : hb l k = true) (hx : nx l k a = x) : x = a + 1 := by rw [← hx]; simp [nx, h]
theorem nx_off {l k : Nat} {a x : Int} (h : hb l k = false) (hx : nx l k a = x) : x = 0 := by rw [← hx]; simp [nx, h]

/-- 'third' beside what an object holds. -/
theorem third_keep {g : Nat} {a b c d run was since t : Int} (w : World) (h : Rn w g true a b c d run was since) (ht : Hid (t3 a b c d = t)) :
    Calls Try.prog 51 #[.agg #[.int .i64 a, .int .i64 b, .int .i64 c, .int .i64 d]] w fun e w' => e = .returned (.int .i64 t) ∧
      w'.cell? ⟨g, 5, none⟩ = some (.int .i64 run) ∧ w'.frozen? ⟨g, 5, none⟩ = false ∧ w'.frozen? ⟨g, 6, none⟩ = false ∧ w'.cell? ⟨g, 6, none⟩ = some (.int .i64 was) ∧ Hid (Rn w' g true a b c d run was since) ∧ Hid (Below w.heap.size w w') := by
  refine (third_any a b c d w).mono ?_
  rintro e w' ⟨rfl, hb⟩
  have h' : Rn w' g true a b c d run was since := h.below hb h.lt
  exact ⟨by rw [ht.out], h'.cell 5, h'.free 5, h'.free 6, h'.cell 6, h', hb⟩

set_option maxRecDepth 100000 in
set_option maxHeartbeats 2000000 in
theorem see_raw (g : Nat) (a b c d run was since : Int) (l : Nat) (w : World) (h : Rn w g true a b c d run was since) (hl : l < 256)
    (a0 : 0 ≤ a) (a1 : a ≤ 1000000) (b0 : 0 ≤ b) (b1 : b ≤ 1000000) (c0 : 0 ≤ c) (c1 : c ≤ 1000000) (d0 : 0 ≤ d) (d1 : d ≤ 1000000)
    (a' b' c' d' t s : Int) (ha : Hid (nx l 0 a = a')) (hb' : Hid (nx l 1 b = b')) (hc : Hid (nx l 2 c = c')) (hd : Hid (nx l 3 d = d')) (ht : Hid (t3 a' b' c' d' = t)) (hs : Hid (max since t = s)) :
    Calls Try.prog 37 #[.pointer (some ⟨g, 0, none⟩), .int .u8 l] w fun e w' => e = .returned (.tuple #[]) ∧ Rn w' g true a' b' c' d' t run s ∧ Wrote g w w' := by
  have H := Lib.hid h
  have c0' : w.cell? ⟨g, 0, none⟩ = some (.bool true) := h.cell 0
  clear h
  go_enter Try.func37, Try.ntmps37
  go_wp2
  go_loopw [14] (fun i wr => (i = .int .i64 0 ∧ Rn wr g true a b c d run was since ∧ Wrote g w wr) ∨ (i = .int .i64 1 ∧ Rn wr g true a' b c d run was since ∧ Wrote g w wr) ∨ (i = .int .i64 2 ∧ Rn wr g true a' b' c d run was since ∧ Wrote g w wr) ∨ (i = .int .i64 3 ∧ Rn wr g true a' b' c' d run was since ∧ Wrote g w wr) ∨ (i = .int .i64 4 ∧ Rn wr g true a' b' c' d' run was since ∧ Wrote g w wr)) (fun i _ => 4 - (intOf i).toNat)
  case atStart => exact .inl ⟨rfl, H.out, Wrote.refl _ _⟩
  case round =>
    rcases hrel with ⟨rfl, hob, hwr⟩ | ⟨rfl, hob, hwr⟩ | ⟨rfl, hob, hwr⟩ | ⟨rfl, hob, hwr⟩ | ⟨rfl, hob, hwr⟩
    · have g1 : wr.cell? ⟨g, 1, none⟩ = some (.int .i64 a) := hob.cell 1
      have f1 := hob.free 1
      have HOB := Lib.hid hob
      clear hob c0'
      cases hh : hb l 0
      · have HX := Lib.hid (nx_off hh ha.out)
        have HC := Lib.hid (fun W => high_at l 0 W hl (by omega))
        rw [hh] at HC
        clear hh
        go_wp2_with (go_at_call 50; refine (HC.out _).mono ?_; rintro e w' ⟨rfl, rfl⟩)
        go_roundw
        case rel => exact .inr (.inl ⟨rfl, by rw [HX.out]; exact HOB.out.set 1 (.int .i64 0), hwr.set (.inl rfl) _⟩)
        case measure => simp [intOf]
      · have HX := Lib.hid (nx_on hh ha.out)
        have HC := Lib.hid (fun W => high_at l 0 W hl (by omega))
        rw [hh] at HC
        clear hh
        go_wp2_with (go_at_call 50; refine (HC.out _).mono ?_; rintro e w' ⟨rfl, rfl⟩)
        go_region
        go_wp2
        go_roundw
        case rel => exact .inr (.inl ⟨rfl, by rw [HX.out, show min (a + 1) 1073741824 = a + 1 by omega]; exact (HOB.out.set 1 (.int .i64 (a + 1))).drew, (hwr.set (p := ⟨g, 1, none⟩) (.inl rfl) _).drew⟩)
        case measure => simp [intOf]
    · have g1 : wr.cell? ⟨g, 2, none⟩ = some (.int .i64 b) := hob.cell 2
      have f1 := hob.free 2
      have HOB := Lib.hid hob
      clear hob c0'
      cases hh : hb l 1
      · have HX := Lib.hid (nx_off hh hb'.out)
        have HC := Lib.hid (fun W => high_at l 1 W hl (by omega))
        rw [hh] at HC
        clear hh
        go_wp2_with (go_at_call 50; refine (HC.out _).mono ?_; rintro e w' ⟨rfl, rfl⟩)
        go_roundw
        case rel => exact .inr (.inr (.inl ⟨rfl, by rw [HX.out]; exact HOB.out.set 2 (.int .i64 0), hwr.set (.inl rfl) _⟩))
        case measure => simp [intOf]
      · have HX := Lib.hid (nx_on hh hb'.out)
        have HC := Lib.hid (fun W => high_at l 1 W hl (by omega))
        rw [hh] at HC
        clear hh
        go_wp2_with (go_at_call 50; refine (HC.out _).mono ?_; rintro e w' ⟨rfl, rfl⟩)
        go_region
        go_wp2
        go_roundw
        case rel => exact .inr (.inr (.inl ⟨rfl, by rw [HX.out, show min (b + 1) 1073741824 = b + 1 by omega]; exact (HOB.out.set 2 (.int .i64 (b + 1))).drew, (hwr.set (p := ⟨g, 2, none⟩) (.inl rfl) _).drew⟩))
        case measure => simp [intOf]
    · have g1 : wr.cell? ⟨g, 3, none⟩ = some (.int .i64 c) := hob.cell 3
      have f1 := hob.free 3
      have HOB := Lib.hid hob
      clear hob c0'
      cases hh : hb l 2
      · have HX := Lib.hid (nx_off hh hc.out)
        have HC := Lib.hid (fun W => high_at l 2 W hl (by omega))
        rw [hh] at HC
        clear hh
        go_wp2_with (go_at_call 50; refine (HC.out _).mono ?_; rintro e w' ⟨rfl, rfl⟩)
        go_roundw
        case rel => exact .inr (.inr (.inr (.inl ⟨rfl, by rw [HX.out]; exact HOB.out.set 3 (.int .i64 0), hwr.set (.inl rfl) _⟩)))
        case measure => simp [intOf]
      · have HX := Lib.hid (nx_on hh hc.out)
        have HC := Lib.hid (fun W => high_at l 2 W hl (by omega))
        rw [hh] at HC
        clear hh
        go_wp2_with (go_at_call 50; refine (HC.out _).mono ?_; rintro e w' ⟨rfl, rfl⟩)
        go_region
        go_wp2
        go_roundw
        case rel => exact .inr (.inr (.inr (.inl ⟨rfl, by rw [HX.out, show min (c + 1) 1073741824 = c + 1 by omega]; exact (HOB.out.set 3 (.int .i64 (c + 1))).drew, (hwr.set (p := ⟨g, 3, none⟩) (.inl rfl) _).drew⟩)))
        case measure => simp [intOf]
    · have g1 : wr.cell? ⟨g, 4, none⟩ = some (.int .i64 d) := hob.cell 4
      have f1 := hob.free 4
      have HOB := Lib.hid hob
      clear hob c0'
      cases hh : hb l 3
      · have HX := Lib.hid (nx_off hh hd.out)
        have HC := Lib.hid (fun W => high_at l 3 W hl (by omega))
        rw [hh] at HC
        clear hh
        go_wp2_with (go_at_call 50; refine (HC.out _).mono ?_; rintro e w' ⟨rfl, rfl⟩)
        go_roundw
        case rel => exact .inr (.inr (.inr (.inr ⟨rfl, by rw [HX.out]; exact HOB.out.set 4 (.int .i64 0), hwr.set (.inl rfl) _⟩)))
        case measure => simp [intOf]
      · have HX := Lib.hid (nx_on hh hd.out)
        have HC := Lib.hid (fun W => high_at l 3 W hl (by omega))
        rw [hh] at HC
        clear hh
        go_wp2_with (go_at_call 50; refine (HC.out _).mono ?_; rintro e w' ⟨rfl, rfl⟩)
        go_region
        go_wp2
        go_roundw
        case rel => exact .inr (.inr (.inr (.inr ⟨rfl, by rw [HX.out, show min (d + 1) 1073741824 = d + 1 by omega]; exact (HOB.out.set 4 (.int .i64 (d + 1))).drew, (hwr.set (p := ⟨g, 4, none⟩) (.inl rfl) _).drew⟩)))
        case measure => simp [intOf]
    · have g1 : wr.cell? ⟨g, 1, none⟩ = some (.int .i64 a') := hob.cell 1
      have g2 : wr.cell? ⟨g, 2, none⟩ = some (.int .i64 b') := hob.cell 2
      have g3 : wr.cell? ⟨g, 3, none⟩ = some (.int .i64 c') := hob.cell 3
      have g4 : wr.cell? ⟨g, 4, none⟩ = some (.int .i64 d') := hob.cell 4
      have g5 : wr.cell? ⟨g, 5, none⟩ = some (.int .i64 run) := hob.cell 5
      have f5 := hob.free 5
      have f6 := hob.free 6
      have HOB := Lib.hid hob
      clear hob c0'
      go_upto_region 8 with (fail)
      go_cut [14] from 39 to 53 (fun i wx => Rn wx g true a' b' c' d' t run since ∧ Wrote g w wx)
      case first =>
        go_region_with (first | (go_at_call 51; refine (third_keep _ HOB.out.drew ht).mono ?_; rintro e wa ⟨rfl, k1, k2, k3, k4, hra, hba⟩))
        all_goals
          go_wp2
          go_meet
          exact ⟨(hra.out.set 6 (.int .i64 run)).set 5 (.int .i64 t), (((hwr.drew).then hba.out).set (.inl rfl) _).set (.inl rfl) _⟩
      case rest =>
        obtain ⟨hr, hw⟩ := hcut
        obtain ⟨_, _, _, _, _, k5, _, k7⟩ := Rn.cells hr
        have kf7 := hr.free 7
        have HR := Lib.hid hr
        clear hr HOB g1 g2 g3 g4 g5 f5 f6
        go_wp2_with fail
        go_region
        go_wp2
        go_end0
        exact ⟨rfl, by rw [← hs.out]; exact (HR.out.set 7 (.int .i64 (max since t))).drew, (hw.set (p := ⟨g, 7, none⟩) (.inl rfl) _).drew⟩

/-- What is known of runs behind k ticks. -/
def Bd (k : Nat) (a b c d run since : Int) : Prop := (0 ≤ a ∧ a ≤ k) ∧ (0 ≤ b ∧ b ≤ k) ∧ (0 ≤ c ∧ c ≤ k) ∧ (0 ≤ d ∧ d ≤ k) ∧ (0 ≤ run ∧ run ≤ k) ∧ 0 ≤ since ∧ since ≤ k
theorem bd_zero : Bd 0 0 0 0 0 0 0 := by unfold Bd; omega
/-- What one tick does to whatever runs stand so. -/
def Step (l : Nat) (a b c d run since a' b' c' d' t s : Int) : Prop := ∀ (g : Nat) (was : Int) (w : World), Rn w g true a b c d run was since →
  Calls Try.prog 37 #[.pointer (some ⟨g, 0, none⟩), .int .u8 l] w fun e w' => e = .returned (.tuple #[]) ∧ Hid (Rn w' g true a' b' c' d' t run s) ∧ Hid (Wrote g w w')
theorem see_ex (k l : Nat) (a b c d run since : Int) (hbd : Bd k a b c d run since) (hk : k ≤ 1000000) (hl : l < 256) :
    ∃ a' b' c' d' t s : Int, Bd (k + 1) a' b' c' d' t s ∧ (nx l 0 a = a' ∧ nx l 1 b = b' ∧ nx l 2 c = c' ∧ nx l 3 d = d' ∧ t3 a' b' c' d' = t ∧ max since t = s) ∧ Hid (Step l a b c d run since a' b' c' d' t s) := by
  obtain ⟨⟨a0, a1⟩, ⟨b0, b1⟩, ⟨c0, c1⟩, ⟨d0, d1⟩, ⟨r0, r1⟩, s0, s1⟩ := hbd
  have na := nx_bd (l := l) (k := 0) a0 a1
  have nb := nx_bd (l := l) (k := 1) b0 b1
  have nc := nx_bd (l := l) (k := 2) c0 c1
  have nd := nx_bd (l := l) (k := 3) d0 d1
  have ht := t3_bd na.1 nb.1 nc.1 nd.1 na.2 nb.2 nc.2 nd.2
  refine ⟨_, _, _, _, _, _, ?_, ⟨rfl, rfl, rfl, rfl, rfl, rfl⟩, ?_⟩
  · unfold Bd
    omega
  · intro g was w h
    exact see_raw g a b c d run was since l w h hl (by omega) (by omega) (by omega) (by omega) (by omega) (by omega) (by omega) (by omega) _ _ _ _ _ _ (Lib.hid rfl) (Lib.hid rfl) (Lib.hid rfl) (Lib.hid rfl) (Lib.hid rfl) (Lib.hid rfl)
end Go.Proofs.Ytbhgnhbaimemmaa.Ly6
