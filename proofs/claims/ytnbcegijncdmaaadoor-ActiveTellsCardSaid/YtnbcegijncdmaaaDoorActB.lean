/- The contracts of package active's functions; no condition but ints' bounds, and one to four candidates. -/
import Derived.RegionTactic
import Derived.Test.YtnbcegijncdmaaaDoorGatC
namespace Go.Proofs.YtnbcegijncdmaaaDoor.Ly17
open Go.ChangeShapes Go.WideShapes Go.ChangeAt Go.RowKit Base Ly7 Ly1 Ly3 Ly2 Ly14 Ly18
set_option linter.unusedVariables false
set_option linter.unusedSimpArgs false

abbrev TW : TypeId := 117
def Wt (w : World) (g : Nat) (tt sn : Int) : Prop := Obj1 w g TW #[.int .i64 tt, .int .i64 sn]
theorem ato_any (k s l wo ad mn cn : Int) (tk : Bool) (w : World) (m0 : 1 ≤ mn) (m1 : mn ≤ 4) : Calls Tryd.prog 82 #[.agg #[.int .i64 k, .int .i64 s, .int .i64 l, .int .i64 wo, .int .i64 ad, .int .i64 mn, .int .i64 cn, .bool tk]] w fun e w' => e = .returned (.int .i64 (80 * mn)) ∧ Below w.heap.size w w' := by
  rcases (show mn = 1 ∨ mn = 2 ∨ mn = 3 ∨ mn = 4 by omega) with rfl | rfl | rfl | rfl
  all_goals
    go_enter Tryd.func82, Tryd.ntmps82
    go_wp2
    go_ret
    refine ⟨rfl, ?_⟩
    repeat (first | exact Below.refl _ _ | refine Below.setCell ?_ (by first | omega | (simp; done) | (simp; omega)) _ | refine Below.alloc ?_ (by first | omega | (simp; done) | (simp; omega)) _ | refine below_drewN' ?_ _ | refine Below.drew ?_)
theorem anew_any (k s l wo ad mn cn : Int) (tk : Bool) (w : World) (m0 : 1 ≤ mn) (m1 : mn ≤ 4) : Calls Tryd.prog 38 #[.agg #[.int .i64 k, .int .i64 s, .int .i64 l, .int .i64 wo, .int .i64 ad, .int .i64 mn, .int .i64 cn, .bool tk]] w fun e w' => ∃ g, e = .returned (.pointer (some ⟨g, 0, none⟩)) ∧ w.heap.size ≤ g ∧ Hid (Wt w' g (80 * mn) 0) ∧ Hid (Below w.heap.size w w') := by
  have HT := Lib.hid (fun W => ato_any k s l wo ad mn cn tk W m0 m1)
  obtain ⟨K0, K1, K2, K3, K4, K5, K6, K7⟩ := box8 k s l wo ad mn cn tk w 25
  go_enter Tryd.func38, Tryd.ntmps38
  go_wp2_with fail
  refine (HT.out _).mono ?_
  rintro e w1 ⟨rfl, hb1⟩
  obtain ⟨x, rfl⟩ := Kin.ex hb1
  have HE := Lib.hid x.end1
  clear K0 K1 K2 K3 K4 K5 K6 K7 hb1
  go_wp2
  go_ret
  exact ⟨_, rfl, HE.out.size, Lib.hid (Obj1.new _ _ _), Lib.hid (HE.out.alloc HE.out.size _)⟩
set_option maxHeartbeats 1000000 in
theorem asee_no {w : World} {g : Nat} {tt sn p : Int} {L : Nat} (h : Wt w g tt sn) (hL : L < 256) (hc : 0 < sn ∨ p < 20 ∨ tt ≤ p ∨ cnt L 4 < 2) :
    Calls Tryd.prog 39 #[.pointer (some ⟨g, 0, none⟩), .int .i64 p, .int .u8 L] w fun e w' => e = .returned (.tuple #[]) ∧ w = w' := by
  have c0 := h.cell 0
  have c1 := h.cell 1
  simp at c0 c1
  have HC := Lib.hid (count_any L w hL)
  clear h
  by_cases h1 : 0 < sn
  · go_enter Tryd.func39, Tryd.ntmps39
    go_wp2
    first | go_end0 | refine bodyPost_ret (results_none rfl _ _ _) rfl ?_
    exact ⟨rfl, rfl⟩
  · have h1' : sn ≤ 0 := by omega
    by_cases h2 : p < 20
    · go_enter Tryd.func39, Tryd.ntmps39
      go_wp2
      first | go_end0 | refine bodyPost_ret (results_none rfl _ _ _) rfl ?_
      exact ⟨rfl, rfl⟩
    · have h2' : 20 ≤ p := by omega
      by_cases h3 : tt ≤ p
      · clear h1 h2
        go_enter Tryd.func39, Tryd.ntmps39
        go_wp2
        first | go_end0 | refine bodyPost_ret (results_none rfl _ _ _) rfl ?_
        exact ⟨rfl, rfl⟩
      · have h3' : p < tt := by omega
        have h4 : cnt L 4 < 2 := by omega
        have h4' : ((cnt L 4 : Nat) : Int) < 2 := by omega
        clear h1 h2 h3 hc h4
        go_enter Tryd.func39, Tryd.ntmps39
        go_wp2_with fail
        refine HC.out.mono ?_
        rintro e w' ⟨rfl, rfl⟩
        go_wp2
        first | go_end0 | refine bodyPost_ret (results_none rfl _ _ _) rfl ?_
        exact ⟨rfl, rfl⟩
set_option maxHeartbeats 1000000 in
theorem asee_yes {w : World} {g : Nat} {tt p : Int} {L : Nat} (h : Wt w g tt 0) (hL : L < 256) (p0 : 20 ≤ p) (p1 : p < tt) (p2 : p ≤ 1000000) (hc : 2 ≤ cnt L 4) :
    Calls Tryd.prog 39 #[.pointer (some ⟨g, 0, none⟩), .int .i64 p, .int .u8 L] w fun e w' => e = .returned (.tuple #[]) ∧ Hid (Wt w' g tt (p + 1)) ∧ Hid (Wrote g w w') := by
  have c0 := h.cell 0
  have c1 := h.cell 1
  have f1 := h.free 1
  simp at c0 c1
  have hlt := h.lt
  have HO := Lib.hid h
  have HC := Lib.hid (count_any L w hL)
  have h4' : (2 : Int) ≤ ((cnt L 4 : Nat) : Int) := by omega
  have hw : IntKind.i64.wrap (p + 1) = p + 1 := IntWalk.i64_in _ (by omega)
  clear h hc
  go_enter Tryd.func39, Tryd.ntmps39
  go_wp2_with fail
  refine HC.out.mono ?_
  rintro e w' ⟨rfl, rfl⟩
  go_wp2
  first | go_end0 | refine bodyPost_ret (results_none rfl _ _ _) rfl ?_
  exact ⟨rfl, Lib.hid (HO.out.set 1 _), Lib.hid ((Wrote.refl g w).set (.inl rfl) _)⟩
theorem afirst_any {w : World} {g : Nat} {tt sn : Int} (h : Wt w g tt sn) (s0 : 0 ≤ sn) (s1 : sn ≤ 1000000) : Calls Tryd.prog 43 #[.pointer (some ⟨g, 0, none⟩)] w fun e w' => e = .returned (.int .i64 (sn - 1)) ∧ w = w' := by
  have c1 := h.cell 1
  simp at c1
  have hw : IntKind.i64.wrap (sn - 1) = sn - 1 := IntWalk.i64_in _ (by omega)
  go_enter Tryd.func43, Tryd.ntmps43
  go_wp2
  go_ret
  exact ⟨rfl, rfl⟩
theorem aclear_any {w : World} {g : Nat} {tt sn : Int} (b : Bool) (hb : decide (sn < 1) = b) (h : Wt w g tt sn) (t0 : 0 < tt) (s0 : 0 ≤ sn) (s1 : sn ≤ 1000000) : Calls Tryd.prog 40 #[.pointer (some ⟨g, 0, none⟩)] w fun e w' => e = .returned (.bool b) ∧ w = w' := by
  have c0 := h.cell 0
  simp at c0
  have HF := Lib.hid (afirst_any h s0 s1)
  have hd : decide (sn - 1 < 0) = b := by rw [← hb]; congr 1; simp; omega
  go_enter Tryd.func40, Tryd.ntmps40
  go_wp2_with fail
  refine HF.out.mono ?_
  rintro e w' ⟨rfl, rfl⟩
  go_wp2
  go_ret
  exact ⟨by rw [← hd]; simp, rfl⟩
theorem acand1_any (f q : Int) (w : World) (h0 : 0 ≤ f) (h1 : f ≤ 1000000) (hq : f / 80 = q) : Calls Tryd.prog 83 #[.int .i64 f] w fun e w' => e = .returned (.int .i64 q) ∧ w = w' := by
  have htd : f.tdiv 80 = q := by rw [Int.tdiv_eq_ediv_of_nonneg h0]; exact hq
  have hw : wrap64 q = q := wq64 (by omega) (by omega)
  have hw' : IntKind.i64.wrap q = q := IntWalk.i64_in _ (by omega)
  go_enter Tryd.func83, Tryd.ntmps83
  go_wp2
  go_ret
  exact ⟨rfl, rfl⟩
theorem acand_any {w : World} {g : Nat} {tt sn : Int} (q : Int) (h : Wt w g tt sn) (s0 : 1 ≤ sn) (s1 : sn ≤ 1000000) (hq : (sn - 1) / 80 = q) : Calls Tryd.prog 41 #[.pointer (some ⟨g, 0, none⟩)] w fun e w' => e = .returned (.int .i64 q) ∧ w = w' := by
  have HF := Lib.hid (afirst_any h (by omega) s1)
  have HC := Lib.hid (acand1_any (sn - 1) q w (by omega) (by omega) hq)
  go_enter Tryd.func41, Tryd.ntmps41
  go_wp2_with fail
  refine HF.out.mono ?_
  rintro e w' ⟨rfl, rfl⟩
  go_wp2_with fail
  refine HC.out.mono ?_
  rintro e w' ⟨rfl, rfl⟩
  go_wp2
  go_ret
  exact ⟨rfl, rfl⟩
theorem adecides_any (s l wo ad mn cn : Int) (tk : Bool) (c : Int) (w : World) (c0 : 0 ≤ c) (c1 : c < mn) (m1 : mn ≤ 4) : Calls Tryd.prog 42 #[.agg #[.int .i64 0, .int .i64 s, .int .i64 l, .int .i64 wo, .int .i64 ad, .int .i64 mn, .int .i64 cn, .bool tk], .int .i64 c] w fun e w' => e = .returned (.int .i64 (30 + 80 * c)) ∧ Below w.heap.size w w' := by
  obtain ⟨g, hg⟩ : ∃ g, g = 40 + 80 * c := ⟨_, rfl⟩
  have HBG := Lib.hid (fun W => begin_any 0 s l wo ad mn cn c g tk W (by omega) (by omega) (by omega) (by omega) (.inr (.inr (.inr ⟨rfl, c0, .inr c1, hg⟩))))
  have hg0 : (g == 0) = false := ne_int (by omega)
  have hw : IntKind.i64.wrap (g - 10) = g - 10 := IntWalk.i64_in _ (by omega)
  have he : g - 10 = 30 + 80 * c := by omega
  obtain ⟨K0, K1, K2, K3, K4, K5, K6, K7⟩ := box8 0 s l wo ad mn cn tk w 25
  clear hg
  go_enter Tryd.func42, Tryd.ntmps42
  go_wp2_with fail
  refine (HBG.out _).mono ?_
  rintro e w1 ⟨rfl, hb1⟩
  obtain ⟨x, rfl⟩ := Kin.ex hb1
  clear hb1
  go_wp2
  go_ret
  exact ⟨by first | rfl | (rw [← he]; rfl) | simp [he], x.end1⟩
/-- What both sides drive together. -/
def bothN (b : Bool) : Nat := driveF false b ||| driveF true b
def lnF (fl st : Bool) (line l : Nat) : Nat := if fl then setF l (line : Int) st else l
theorem ln_zero : ∀ fl st : Bool, ∀ line : Fin 4, cnt (lnF fl st line.1 0) 4 < 2 := by decide +kernel
theorem ln_two : ∀ fl st b : Bool, ∀ line : Fin 4, cnt (lnF fl st line.1 (bothN b)) 4 < 2 → 2 ≤ cnt (lnF fl st line.1 (bothN (!b))) 4 := by decide +kernel
theorem ln_lt : ∀ fl st b : Bool, ∀ line : Fin 4, lnF fl st line.1 (bothN b) < 256 := by decide +kernel
theorem ln_lt0 : ∀ fl st : Bool, ∀ line : Fin 4, lnF fl st line.1 0 < 256 := by decide +kernel
end Go.Proofs.YtnbcegijncdmaaaDoor.Ly17
