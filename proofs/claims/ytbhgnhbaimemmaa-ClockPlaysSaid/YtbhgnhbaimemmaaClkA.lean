/- The contracts of package clock's functions: what each returns, and what the clock holds behind it. -/
import Derived.Test.YtbhgnhbaimemmaaObj
import Derived.Test.YtbhgnhbaimemmaaRows
import Derived.WalkKit
import Derived.ProofKit
import Derived.OpenShut
import Derived.WalkLawsBesides
import Derived.WalkSpells
import Derived.Lib.Hide
namespace Go.Proofs.Ytbhgnhbaimemmaa.Ly5
open Go.ChangeShapes Go.WideShapes Go.ChangeAt Go.RowKit Base
set_option linter.unusedVariables false
set_option linter.unusedSimpArgs false

/-- A clock in block b. -/
def Clk (w : World) (b : Nat) (a l aa al f : Int) : Prop := Obj1 w b 58 #[.int .i64 a, .int .i64 l, .int .i64 aa, .int .i64 al, .int .i64 f]
theorem Clk.cells {w : World} {b : Nat} {a l aa al f : Int} (h : Clk w b a l aa al f) :
    w.cell? ⟨b, 0, none⟩ = some (.int .i64 a) ∧ w.cell? ⟨b, 1, none⟩ = some (.int .i64 l) ∧ w.cell? ⟨b, 2, none⟩ = some (.int .i64 aa) ∧ w.cell? ⟨b, 3, none⟩ = some (.int .i64 al) ∧ w.cell? ⟨b, 4, none⟩ = some (.int .i64 f) :=
  ⟨h.cell 0, h.cell 1, h.cell 2, h.cell 3, h.cell 4⟩
theorem Clk.frees {w : World} {b : Nat} {a l aa al f : Int} (h : Clk w b a l aa al f) :
    w.frozen? ⟨b, 0, none⟩ = false ∧ w.frozen? ⟨b, 1, none⟩ = false ∧ w.frozen? ⟨b, 2, none⟩ = false ∧ w.frozen? ⟨b, 3, none⟩ = false ∧ w.frozen? ⟨b, 4, none⟩ = false :=
  ⟨h.free 0, h.free 1, h.free 2, h.free 3, h.free 4⟩

theorem fits_yes (l : Int) (w : World) (h0 : 8 ≤ l) (h1 : l ≤ 1048576) : Calls Try.prog 47 #[.int .i64 l] w fun e w' => e = .returned (.bool true) ∧ w = w' := by
  go_enter Try.func47, Try.ntmps47
  go_wp2
  go_ret
  exact ⟨rfl, rfl⟩
theorem fits_no (l : Int) (w : World) (h : l < 8 ∨ 1048576 < l) : Calls Try.prog 47 #[.int .i64 l] w fun e w' => e = .returned (.bool false) ∧ w = w' := by
  rcases (show l < 8 ∨ (8 ≤ l ∧ decide (l ≤ 1048576) = false) by simp; omega) with g | ⟨g, g'⟩
  all_goals
    go_enter Try.func47, Try.ntmps47
    go_wp2
    go_ret
    exact ⟨rfl, rfl⟩
theorem made_nil (w : World) : Calls Try.prog 48 #[.pointer none] w fun e w' => e = .returned (.bool false) ∧ w = w' := by
  go_enter Try.func48, Try.ntmps48
  go_wp2
  go_ret
  exact ⟨rfl, rfl⟩
theorem made_yes (b : Nat) (a l aa al f : Int) (w : World) (h : Clk w b a l aa al f) (hl : 0 < l) : Calls Try.prog 48 #[.pointer (some ⟨b, 0, none⟩)] w fun e w' => e = .returned (.bool true) ∧ w = w' := by
  obtain ⟨c0, c1, c2, c3, c4⟩ := h.cells
  clear h
  go_enter Try.func48, Try.ntmps48
  go_wp2
  go_ret
  exact ⟨rfl, rfl⟩
theorem made_zero (b : Nat) (a aa al f : Int) (w : World) (h : Clk w b a 0 aa al f) : Calls Try.prog 48 #[.pointer (some ⟨b, 0, none⟩)] w fun e w' => e = .returned (.bool false) ∧ w = w' := by
  obtain ⟨c0, c1, c2, c3, c4⟩ := h.cells
  clear h
  go_enter Try.func48, Try.ntmps48
  go_wp2
  go_ret
  exact ⟨rfl, rfl⟩

theorem new_no (l : Int) (w : World) (h : l < 8 ∨ 1048576 < l) : Calls Try.prog 21 #[.int .i64 l] w fun e w' => e = .returned (.tuple #[.pointer none, .int .i64 2]) ∧ w = w' := by
  go_enter Try.func21, Try.ntmps21
  go_wp2_with (go_at_call 47; refine (fits_no _ _ h).mono ?_; rintro e w' ⟨rfl, rfl⟩)
  go_ret2
  exact ⟨rfl, rfl⟩
theorem new_yes (l : Int) (w : World) (h0 : 8 ≤ l) (h1 : l ≤ 1048576) :
    Calls Try.prog 21 #[.int .i64 l] w fun e w' => e = .returned (.tuple #[.pointer (some ⟨w.heap.size, 0, none⟩), .int .i64 0]) ∧ Clk w' w.heap.size 0 l (l - 1) l 0 ∧ Below w.heap.size w w' := by
  go_enter Try.func21, Try.ntmps21
  go_wp2_with (go_at_call 47; refine (fits_yes _ _ h0 h1).mono ?_; rintro e w' ⟨rfl, rfl⟩)
  go_ret2
  exact ⟨rfl, Obj1.new _ _ _, (Below.refl _ _).alloc (Nat.le_refl _) _⟩

theorem pos_any (b : Nat) (a l aa al f : Int) (w : World) (h : Clk w b a l aa al f) (hl : 0 < l) : Calls Try.prog 27 #[.pointer (some ⟨b, 0, none⟩)] w fun e w' => e = .returned (.int .i64 a) ∧ w = w' := by
  obtain ⟨c0, c1, c2, c3, c4⟩ := h.cells
  go_enter Try.func27, Try.ntmps27
  go_wp2_with (go_at_call 48; refine (made_yes _ _ _ _ _ _ _ h hl).mono ?_; rintro e w' ⟨rfl, rfl⟩)
  go_ret
  exact ⟨rfl, rfl⟩
theorem long_any (b : Nat) (a l aa al f : Int) (w : World) (h : Clk w b a l aa al f) (hl : 0 < l) : Calls Try.prog 28 #[.pointer (some ⟨b, 0, none⟩)] w fun e w' => e = .returned (.int .i64 l) ∧ w = w' := by
  obtain ⟨c0, c1, c2, c3, c4⟩ := h.cells
  go_enter Try.func28, Try.ntmps28
  go_wp2_with (go_at_call 48; refine (made_yes _ _ _ _ _ _ _ h hl).mono ?_; rintro e w' ⟨rfl, rfl⟩)
  go_ret
  exact ⟨rfl, rfl⟩
theorem frame_any (b : Nat) (a l aa al f : Int) (w : World) (h : Clk w b a l aa al f) (hl : 0 < l) : Calls Try.prog 29 #[.pointer (some ⟨b, 0, none⟩)] w fun e w' => e = .returned (.int .i64 f) ∧ w = w' := by
  obtain ⟨c0, c1, c2, c3, c4⟩ := h.cells
  go_enter Try.func29, Try.ntmps29
  go_wp2_with (go_at_call 48; refine (made_yes _ _ _ _ _ _ _ h hl).mono ?_; rintro e w' ⟨rfl, rfl⟩)
  go_ret
  exact ⟨rfl, rfl⟩

theorem next_any (a l : Int) (w : World) (h0 : 0 ≤ a) (h1 : a < l) (h2 : l ≤ 1048576) :
    Calls Try.prog 49 #[.agg #[.int .i64 a, .int .i64 l]] w fun e w' => e = .returned (.agg #[.int .i64 (if a + 1 = l then 0 else a + 1), .int .i64 l]) ∧ Below w.heap.size w w' := by
  by_cases hw : a + 1 = l
  · subst hw
    go_enter Try.func49, Try.ntmps49
    go_wp2
    refine bodyPost_ret (v := .agg #[.int .i64 0, .int .i64 (a + 1)]) (by simp [results, Try.results49, go_sem]) rfl ⟨by simp, Go.Joins.below_alloc2 _ _ _⟩
  · go_enter Try.func49, Try.ntmps49
    go_wp2
    refine bodyPost_ret (v := .agg #[.int .i64 (a + 1), .int .i64 l]) (by simp [results, Try.results49, go_sem]) rfl ⟨by simp [hw], Go.Joins.below_alloc2 _ _ _⟩

/-- The place so many ticks behind one, and whether a frame ended on the way. -/
def nx (a l d : Int) : Int := if a + d < l then a + d else a + d - l
def nf (a l d f : Int) : Int := if a + d < l then f else f + 1
def cl (s : Int) : Int := if s < 0 then 0 else if 0 < s then 2 else 1

theorem nx_bd {a l d : Int} (h0 : 0 ≤ a) (h1 : a < l) (hd : 0 ≤ d) (hd2 : d ≤ l) : 0 ≤ nx a l d ∧ nx a l d < l := by unfold nx; split <;> omega
theorem nx_zero {a l : Int} (h1 : a < l) : nx a l 0 = a := by unfold nx; rw [if_pos (by omega)]; omega
theorem nf_zero {a l f : Int} (h1 : a < l) : nf a l 0 f = f := by unfold nf; rw [if_pos (by omega)]
theorem nx_wrap {a l k p f : Int} (h0 : 0 ≤ a) (h1 : a < l) (hk : 0 ≤ k) (hk2 : k + 1 < l) (hp : nx a l k = p) (h : p + 1 = l) : nx a l (k + 1) = 0 ∧ nf a l (k + 1) f = nf a l k f + 1 := by
  unfold nx nf at *
  split at hp
  · rw [if_neg (by omega), if_neg (by omega), if_pos (by omega)]; omega
  · omega
theorem nx_on {a l k p f : Int} (h0 : 0 ≤ a) (h1 : a < l) (hk : 0 ≤ k) (hk2 : k + 1 < l) (hp : nx a l k = p) (h : ¬ p + 1 = l) : nx a l (k + 1) = p + 1 ∧ nf a l (k + 1) f = nf a l k f := by
  unfold nx nf at *
  split at hp
  · rw [if_pos (by omega), if_pos (by omega), if_pos (by omega)]; omega
  · rw [if_neg (by omega), if_neg (by omega), if_neg (by omega)]; omega
theorem nf_bd {a l d f : Int} : f ≤ nf a l d f ∧ nf a l d f ≤ f + 1 := by unfold nf; split <;> omega

/-- What the loop of Tick knows, behind k steps. -/
def TRel (w : World) (b : Nat) (a l f : Int) (d : Nat) (i : Value) (wr : World) : Prop :=
  ∃ k : Nat, k ≤ d ∧ i = .int .i64 k ∧ Clk wr b (nx a l k) l a l (nf a l k f) ∧ Wrote b w wr

theorem trel_wrap {w wr w1 : World} {b : Nat} {a l f p q : Int} {d k : Nat} (h0 : 0 ≤ a) (h1 : a < l) (h8 : 8 ≤ l) (hd : d ≤ 2) (hk : k < d) (hp : nx a l k = p) (hq : nf a l k f = q) (hc : Clk wr b p l a l q) (hw : Wrote b w wr) (hb : Below wr.heap.size wr w1) (h : p + 1 = l) :
    TRel w b a l f d (.int .i64 ((k : Int) + 1)) (((w1.setCell ⟨b, 0, none⟩ (.int .i64 0)).setCell ⟨b, 1, none⟩ (.int .i64 l)).setCell ⟨b, 4, none⟩ (.int .i64 (q + 1))) := by
  obtain ⟨e1, e2⟩ := nx_wrap (f := f) (k := (k : Int)) h0 h1 (by omega) (by omega) hp h
  refine ⟨k + 1, by omega, by simp, ?_, (((hw.then hb).set (.inl rfl) _).set (.inl rfl) _).set (.inl rfl) _⟩
  rw [show ((k + 1 : Nat) : Int) = (k : Int) + 1 by omega, e1, e2, hq]
  exact Obj1.set (Obj1.set (Obj1.set (Obj1.kept hc hb) 0 _) 1 _) 4 _
theorem trel_on {w wr w1 : World} {b : Nat} {a l f p q : Int} {d k : Nat} (h0 : 0 ≤ a) (h1 : a < l) (h8 : 8 ≤ l) (hd : d ≤ 2) (hk : k < d) (hp : nx a l k = p) (hq : nf a l k f = q) (hc : Clk wr b p l a l q) (hw : Wrote b w wr) (hb : Below wr.heap.size wr w1) (h : ¬ p + 1 = l) :
    TRel w b a l f d (.int .i64 ((k : Int) + 1)) ((w1.setCell ⟨b, 0, none⟩ (.int .i64 (p + 1))).setCell ⟨b, 1, none⟩ (.int .i64 l)) := by
  obtain ⟨e1, e2⟩ := nx_on (f := f) (k := (k : Int)) h0 h1 (by omega) (by omega) hp h
  refine ⟨k + 1, by omega, by simp, ?_, ((hw.then hb).set (.inl rfl) _).set (.inl rfl) _⟩
  rw [show ((k + 1 : Nat) : Int) = (k : Int) + 1 by omega, e1, e2, hq]
  exact Obj1.set (Obj1.set (Obj1.kept hc hb) 0 _) 1 _

theorem next_wrap (a l : Int) (w : World) (h0 : 0 ≤ a) (h : a + 1 = l) (h2 : l ≤ 1048576) :
    Calls Try.prog 49 #[.agg #[.int .i64 a, .int .i64 l]] w fun e w' => e = .returned (.agg #[.int .i64 0, .int .i64 l]) ∧ Below w.heap.size w w' := by
  have := next_any a l w h0 (by omega) h2; rwa [if_pos h] at this
theorem next_on (a l : Int) (w : World) (h0 : 0 ≤ a) (h1 : a < l) (h : ¬ a + 1 = l) (h2 : l ≤ 1048576) :
    Calls Try.prog 49 #[.agg #[.int .i64 a, .int .i64 l]] w fun e w' => e = .returned (.agg #[.int .i64 (a + 1), .int .i64 l]) ∧ Below w.heap.size w w' := by
  have := next_any a l w h0 h1 h2; rwa [if_neg h] at this

theorem bcell {W w1 : World} (hb : Below W.heap.size W w1) : (∀ b o, b < W.heap.size → w1.cell? ⟨b, o, none⟩ = W.cell? ⟨b, o, none⟩) ∧ (∀ b o, b < W.heap.size → w1.frozen? ⟨b, o, none⟩ = W.frozen? ⟨b, o, none⟩) :=
  ⟨fun b o h => hb.cell (p := ⟨b, o, none⟩) h, fun b o h => hb.frozen (p := ⟨b, o, none⟩) h⟩

set_option maxRecDepth 100000 in
set_option maxHeartbeats 1000000 in
theorem tick_any (b : Nat) (a l aa al f s : Int) (w : World) (h : Clk w b a l aa al f) (h0 : 0 ≤ a) (h1 : a < l) (h2 : l ≤ 1048576) (h8 : 8 ≤ l) (hf0 : 0 ≤ f) (hf : f ≤ 1000000000000) (hs0 : -9223372036854775808 ≤ s) (hs1 : s ≤ 9223372036854775807) :
    Calls Try.prog 25 #[.pointer (some ⟨b, 0, none⟩), .int .i64 s] w fun e w' => e = .returned (.tuple #[]) ∧ Clk w' b (nx a l (cl s)) l a l (nf a l (cl s) f) ∧ Wrote b w w' := by
  obtain ⟨d, hd, hd2, hcl⟩ : ∃ d : Nat, d ≤ 2 ∧ (s < -1 ∧ d = 0 ∨ s = -1 ∧ d = 0 ∨ s = 0 ∧ d = 1 ∨ s = 1 ∧ d = 2 ∨ 1 < s ∧ d = 2) ∧ Hid (cl s = d) := by
    unfold cl
    rcases (show s < 0 ∨ s = 0 ∨ 0 < s by omega) with g | g | g
    · exact ⟨0, by omega, by omega, show (if s < 0 then (0 : Int) else _) = _ by rw [if_pos g]; rfl⟩
    · exact ⟨1, by omega, by omega, show (if s < 0 then (0 : Int) else _) = _ by rw [if_neg (by omega), if_neg (by omega)]; rfl⟩
    · exact ⟨2, by omega, by omega, show (if s < 0 then (0 : Int) else _) = _ by rw [if_neg (by omega), if_pos g]; rfl⟩
  obtain ⟨c0, c1, c2, c3, c4⟩ := h.cells
  obtain ⟨f0, f1, f2, f3, f4⟩ := h.frees
  have hst : TRel w b a l f d (.int .i64 0) ((w.setCell ⟨b, 2, none⟩ (.int .i64 a)).setCell ⟨b, 3, none⟩ (.int .i64 l)) :=
    ⟨0, by omega, rfl, by rw [show ((0 : Nat) : Int) = 0 from rfl, nx_zero h1, nf_zero h1]; exact (Obj1.set (Obj1.set h 2 _) 3 _), ((Wrote.refl b w).set (.inl rfl) _).set (.inl rfl) _⟩
  have HST := Lib.hid hst
  have H := Lib.hid h
  clear hst h
  rcases hd2 with ⟨g, rfl⟩ | ⟨rfl, rfl⟩ | ⟨rfl, rfl⟩ | ⟨rfl, rfl⟩ | ⟨g, rfl⟩
  all_goals
    go_enter Try.func25, Try.ntmps25
    go_wp2_with (go_at_call 48; refine (made_yes _ _ _ _ _ _ _ H.out (by omega)).mono ?_; rintro e w' ⟨rfl, rfl⟩)
    go_loopw [18] (fun i wr => TRel w b a l f _ i wr) (fun i _ => 2 - (intOf i).toNat)
    case atStart => exact HST.out
    case round =>
      clear HST c0 c1 c2 c3 c4 f0 f1 f2 f3 f4
      obtain ⟨k, hk, rfl, hclk, hwr⟩ := hrel
      obtain ⟨p, HP⟩ : ∃ p, Hid (nx a l k = p) := ⟨_, rfl⟩
      obtain ⟨q, HQ⟩ : ∃ q, Hid (nf a l k f = q) := ⟨_, rfl⟩
      have hpb := nx_bd (d := (k : Int)) h0 h1 (by omega) (by omega)
      have hqb := nf_bd (a := a) (l := l) (d := (k : Int)) (f := f)
      rw [HP.out] at hclk hpb
      rw [HQ.out] at hclk hqb
      obtain ⟨p0, p1⟩ := hpb
      obtain ⟨q0, q1⟩ := hqb
      obtain ⟨c0, c1, c2, c3, c4⟩ := hclk.cells
      obtain ⟨f0, f1, f2, f3, f4⟩ := hclk.frees
      have hblt := Obj1.lt hclk
      have HC := Lib.hid hclk
      clear hclk
      rcases Nat.lt_or_eq_of_le hk with hlt | heq
      · by_cases hw1 : p + 1 = l
        · have HW1 := Lib.hid hw1
          clear hw1
          go_wp2_with (first | (go_at_call 49; refine (next_wrap p l _ p0 HW1.out h2).mono ?_; rintro e w1 ⟨rfl, hb1⟩; obtain ⟨hc, hf'⟩ := bcell hb1))
          all_goals
            go_roundw
            case rel => exact trel_wrap h0 h1 h8 (by omega) hlt HP.out HQ.out HC.out hwr hb1 HW1.out
            case measure => simp [intOf]; omega
        · go_wp2_with (first | (go_at_call 49; refine (next_on p l _ p0 p1 hw1 h2).mono ?_; rintro e w1 ⟨rfl, hb1⟩; obtain ⟨hc, hf'⟩ := bcell hb1))
          all_goals
            go_roundw
            case rel => exact trel_on h0 h1 h8 (by omega) hlt HP.out HQ.out HC.out hwr hb1 hw1
            case measure => simp [intOf]; omega
      · subst heq
        go_wp2
        go_end0
        exact ⟨rfl, by rw [hcl.out, HP.out, HQ.out]; exact HC.out, hwr⟩
end Go.Proofs.Ytbhgnhbaimemmaa.Ly5
