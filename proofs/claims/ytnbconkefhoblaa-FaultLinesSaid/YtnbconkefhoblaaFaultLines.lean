/- Any lines, and what any side drives and lets, come to what the document says, whatever fault there is: for every fault, lines, side and tick; no condition. -/
import Derived.IntWalk
import Derived.Test.YtnbconkefhoblaaFltE
import Derived.Test.YtnbconkefhoblaaRows
import Derived.WalkKit
import Derived.ProofKit
import Derived.OpenShut
import Derived.ShutString
import Derived.ChangeOld
import Derived.Below
namespace Go.Proofs.Ytnbconkefhoblaa.lawFaultLines
open Go.ChangeShapes Go.WideShapes Go.ChangeAt Go.RowKit Base
open Go.ChangeMaps (open_string shut_string)
set_option linter.unusedVariables false
set_option linter.unusedSimpArgs false
theorem own : ownKnob Try.prog.godebug = none := by kernel_rfl
theorem laidOut : laidOutB Try.prog = true := by kernel_rfl
open Ly20

/-- How a line should stand. -/
def wantF (kd ln : Int) (l v : Nat) (b : Bool) (k : Nat) : Bool := if b = true ∧ kd = 1 ∧ (k : Int) = ln ∧ v % 4 < 2 then v % 4 == 1 else Ly3.hb l k
theorem hb_bit (l k : Nat) : Ly3.hb l k = Nat.testBit l k := by
  unfold Ly3.hb
  rw [Nat.testBit_eq_decide_div_mod_eq, Bool.eq_iff_iff]
  simp
theorem hb_set (l : Nat) (i : Int) (h : Bool) (k : Nat) (hl : l < 256) (hk : k < 4) : Ly3.hb (Ly3.setF l i h) k = if (k : Int) = i then h else Ly3.hb l k := by
  unfold Ly3.setF
  by_cases hi : 0 ≤ i ∧ i ≤ 3
  · obtain ⟨j, rfl⟩ : ∃ j : Nat, i = j := ⟨i.toNat, by omega⟩
    rw [if_pos hi]
    simp only [Int.toNat_natCast]
    have hj : j < 4 := by omega
    have c255 : (255 : Nat) - 2 ^ j = 255 ^^^ 2 ^ j := by
      rcases (show j = 0 ∨ j = 1 ∨ j = 2 ∨ j = 3 by omega) with rfl | rfl | rfl | rfl <;> decide
    cases h
    · simp only [Bool.false_eq_true, if_false]
      rw [hb_bit, Nat.testBit_and, c255, Nat.testBit_xor, Nat.testBit_two_pow, ← hb_bit]
      have : Nat.testBit 255 k = true := by rcases (show k = 0 ∨ k = 1 ∨ k = 2 ∨ k = 3 by omega) with rfl | rfl | rfl | rfl <;> decide
      rw [this]
      by_cases e : k = j
      · subst e; simp
      · rw [if_neg (by omega)]; simp [show ¬ j = k from fun h => e h.symm]
    · simp only [if_true]
      rw [hb_bit, Nat.testBit_or, Nat.testBit_two_pow, ← hb_bit]
      by_cases e : k = j
      · subst e; simp
      · rw [if_neg (by omega)]; simp [show ¬ j = k from fun h => e h.symm]
  · rw [if_neg hi, if_neg (by omega)]
theorem hb_lin (kd ln : Int) (l v : Nat) (b : Bool) (k : Nat) (hl : l < 256) (hk : k < 4) : Ly3.hb (linF kd ln l v b) k = wantF kd ln l v b k := by
  unfold linF wantF
  by_cases h1 : kd = 1 ∧ b = true
  · rw [if_pos h1]
    by_cases h2 : (v : Int) % 4 = 0
    · rw [if_pos h2, hb_set l ln false k hl hk]
      by_cases h3 : (k : Int) = ln
      · rw [if_pos h3, if_pos ⟨h1.2, h1.1, h3, by omega⟩]; simp; omega
      · rw [if_neg h3, if_neg (fun h => h3 h.2.2.1)]
    · rw [if_neg h2]
      by_cases h4 : (v : Int) % 4 = 1
      · rw [if_pos h4, hb_set l ln true k hl hk]
        by_cases h3 : (k : Int) = ln
        · rw [if_pos h3, if_pos ⟨h1.2, h1.1, h3, by omega⟩]; simp; omega
        · rw [if_neg h3, if_neg (fun h => h3 h.2.2.1)]
      · rw [if_neg h4, if_neg (fun h => by have := h.2.2.2; omega)]
  · rw [if_neg h1, if_neg (fun h => h1 ⟨h.2.1, h.1⟩)]

theorem linF_lt {kd ln : Int} {l : Nat} {v : Int} {b : Bool} (hl : l < 256) : linF kd ln l v b < 256 := by
  unfold linF
  split
  · split
    · exact Ly3.setF_lt hl
    · split
      · exact Ly3.setF_lt hl
      · exact hl
  · exact hl
theorem high_c (l k : Nat) (u : Bool) (w : World) (hu : Ly3.hb l k = u) (hl : l < 256) (hk : k < 4) : Calls Try.prog 26 #[.int .u8 l, .int .i64 k] w fun e w' => e = .returned (.bool u) ∧ w = w' := by
  subst hu; exact Ly3.high_at l k w hl hk

theorem drives_r (r : Int) (u : Bool) (kd md : Int) (ln fr : Int) (A : Option Addr) (n c : Nat) (m : Int) (y : Bool) (l : Nat) (op : Bool) (tk : Int) (v : Nat) (w : World) (hr : ((drL y v : Nat) : Int) = r) (hu : Ly3.hb v 2 = u) (hv : v < 256) (ht : tk ≤ 9223372036854775807) (h : AtR w kd fr A n tk v true) (hof : ofB kd md m = true) (h3 : Ly3.hb v 3 = false) :
    Calls Try.prog 27 #[.agg #[.int .i64 kd, .int .i64 md, .bool y, .int .i64 ln, .int .i64 fr, .slice A n c], .int .i64 m, .bool y, .int .u8 l, .bool op, .int .i64 tk] w fun e w' => e = .returned (.tuple #[.int .u8 r, .bool u]) ∧ Below w.heap.size w w' := by
  subst hr hu; exact drives_yes kd md ln fr A n c m y l op tk v w hv ht h hof h3

set_option maxRecDepth 100000 in
theorem walk_long (kd md : Int) (fy : Bool) (ln fr : Int) (A : Option Addr) (n c : Nat) (l : Nat) (a0 a1 a2 : Int) (w : World) (hm : n ≤ 9223372036854775807) (hn : 400 < n) :
    Calls Try.prog 6 #[.agg #[.int .i64 kd, .int .i64 md, .bool fy, .int .i64 ln, .int .i64 fr, .slice A n c], .int .u8 l, .agg #[.int .i64 a0, .int .i64 a1, .int .i64 a2]] w fun e w' => e = .returned (.bool true) ∧ Below w.heap.size w w' := by
  go_enter Try.func6, Try.ntmps6
  go_wp2
  go_ret
  refine ⟨rfl, ?_⟩
  repeat (first | exact Below.refl _ _ | refine Below.setCell ?_ (by first | omega | (simp; done) | (simp; omega)) _ | refine Below.alloc ?_ (by first | omega | (simp; done) | (simp; omega)) _ | refine below_drewN' ?_ _ | refine Below.drew ?_)

def LRel (i : Value) : Prop := ∃ k : Nat, k ≤ 4 ∧ i = .int .i64 k

set_option maxRecDepth 100000 in
set_option maxHeartbeats 4000000 in
theorem walk_in (kd md : Int) (fy : Bool) (ln fr : Int) (A : Option Addr) (n c : Nat) (xs : List Int) (l : Nat) (a0 a1 a2 : Int) (w : World) (hl8 : l < 256) (h1 : n ≤ 400) (hl : Lst w A n (xs.map (Value.int .u8))) (hx : ∀ x ∈ xs, 0 ≤ x ∧ x ≤ 255) :
    Calls Try.prog 6 #[.agg #[.int .i64 kd, .int .i64 md, .bool fy, .int .i64 ln, .int .i64 fr, .slice A n c], .int .u8 l, .agg #[.int .i64 a0, .int .i64 a1, .int .i64 a2]] w fun e w' => e = .returned (.bool true) ∧ Below w.heap.size w w' := by
  obtain ⟨g, g0, g1, hg⟩ := and_mask fr 65535 (by decide)
  obtain ⟨tk, t0, t1, ht⟩ := and_mask a0 1048575 (by decide)
  obtain ⟨q, q0, q1, hq⟩ := and_mask a2 1 (by decide)
  obtain ⟨p, p0, p1, hp⟩ := and_mask a2 2 (by decide)
  simp at hg g1 ht t1 hq q1 hp p1
  obtain ⟨y, hy⟩ : ∃ y, (q == 1) = y := ⟨_, rfl⟩
  obtain ⟨op, hop⟩ : ∃ y, (p == 2) = y := ⟨_, rfl⟩
  obtain ⟨v', b, hAt, v0, v1⟩ := AtR.ex kd g tk g0 h1 hl hx
  obtain ⟨v, rfl⟩ : ∃ v : Nat, v' = v := ⟨v'.toNat, by omega⟩
  have hW : Below w.heap.size w (w.alloc (.cells #[.int .i64 kd, .int .i64 md, .bool fy, .int .i64 ln, .int .i64 g, .slice A n c] 33)) := (Below.refl _ _).alloc (Nat.le_refl _) _
  have A1 := Lib.hid (fun q : Kin (w.alloc (.cells #[.int .i64 kd, .int .i64 md, .bool fy, .int .i64 ln, .int .i64 g, .slice A n c] 33)) => hAt.kept (hW.trans (q.below.mono hW.size)))
  obtain ⟨L, HR⟩ : ∃ r, Hid (linF kd ln l v b = r) := ⟨_, Lib.hid rfl⟩
  have hL : L < 256 := by rw [← HR.out]; exact linF_lt hl8
  obtain ⟨K0, K1, K2, K3, K4, K5⟩ := Kin.box6 (Below.refl _ (w.alloc (.cells #[.int .i64 kd, .int .i64 md, .bool fy, .int .i64 ln, .int .i64 g, .slice A n c] 33)))
  clear hAt hl hx hW
  go_enter Try.func6, Try.ntmps6
  go_wp2_with fail
  refine wp_region_quiet_lit (by kernel_rfl) (by kernel_rfl) ?_
  repeat (go_big_quiet_step (fail))
  refine wpQuiet_nil ?_
  intro _ hw'
  obtain ⟨nq, hw''⟩ := hw'
  subst hw''
  go_wp2_with fail
  obtain ⟨x, hx⟩ : ∃ x : Kin (w.alloc (.cells #[.int .i64 kd, .int .i64 md, .bool fy, .int .i64 ln, .int .i64 g, .slice A n c] 33)), ((w.alloc (.cells #[.int .i64 kd, .int .i64 md, .bool fy, .int .i64 ln, .int .i64 g, .slice A n c] 33)).alloc (.cells #[.int .i64 a0, .int .i64 a1, .int .i64 a2] 43)).drewN nq = x.world := ⟨⟨_, below_drewN' ((Below.refl _ _).alloc (Nat.le_refl _) _) _⟩, rfl⟩
  rw [hx]
  clear hx
  refine (Calls.kin _ (rbyte_k kd g tk v A n c b _ (by omega) v0 v1 (A1.out _))).mono ?_
  rintro e w' ⟨rfl, y1, rfl⟩
  go_wp2_with fail
  refine (Calls.kin _ (lines_c L kd md fy ln g A n c l tk v b _ HR.out hl8 (by omega) v0 v1 (A1.out _))).mono ?_; rintro e w' ⟨rfl, y3, rfl⟩
  go_wp2_with fail
  go_loop [14, 15] (fun i _ => LRel i) (fun i _ => 4 - (intOf i).toNat)
  case atStart => exact ⟨0, by omega, rfl⟩
  case round =>
    obtain ⟨k, hk, rfl⟩ := hrel
    rcases Nat.lt_or_eq_of_le hk with hlt | heq
    · have HWk : Hid (Ly3.hb L k = wantF kd ln l v b k) := Lib.hid (by rw [← HR.out]; exact hb_lin kd ln l v b k hl8 hlt)
      obtain ⟨u, HU⟩ : ∃ u, Hid (Ly3.hb l k = u) := ⟨_, Lib.hid rfl⟩
      have C1 := Lib.hid (fun W => high_c l k u W HU.out hl8 hlt)
      have fin0 : ∀ z : Bool, wantF kd ln l v b k = z → Hid (∀ W, Calls Try.prog 26 #[.int .u8 L, .int .i64 k] W fun e w' => e = .returned (.bool z) ∧ W = w') := fun z hz => Lib.hid (fun W => high_c L k z W (HWk.out.trans hz) hL hlt)
      have FIN := Lib.hid fin0
      clear fin0
      by_cases cE : b = true ∧ kd = 1 ∧ (k : Int) = ln ∧ v % 4 < 2
      · obtain ⟨rfl, rfl, rfl, hv2⟩ := cE
        obtain ⟨z, hz⟩ : ∃ z, ((v : Int) % 4 == 1) = z := ⟨_, rfl⟩
        have hd : decide ((v : Int) % 4 < 2) = true := by simp; omega
        have C2 := FIN.out z (by unfold wantF; rw [if_pos ⟨rfl, rfl, rfl, hv2⟩, ← hz, Bool.eq_iff_iff]; simp; omega)
        go_wp2_with fail
        refine (C1.out _).mono ?_; rintro e w' ⟨rfl, rfl⟩
        go_wp2_with fail
        refine (C2.out _).mono ?_; rintro e w' ⟨rfl, rfl⟩
        go_wp2
        go_round
        case rel => exact ⟨k + 1, by omega, by go_num⟩
        case measure => simp [intOf]; omega
      · have C2 := FIN.out u (by unfold wantF; rw [if_neg cE]; exact HU.out)
        have CE := Lib.hid cE
        clear cE
        cases b
        · skip
          go_wp2_with fail
          refine (C1.out _).mono ?_; rintro e w' ⟨rfl, rfl⟩
          go_wp2_with fail
          refine (C2.out _).mono ?_; rintro e w' ⟨rfl, rfl⟩
          go_wp2
          go_round
          case rel => exact ⟨k + 1, by omega, by go_num⟩
          case measure => simp [intOf]; omega
        · cases hkd : kd == 1
          · skip
            go_wp2_with fail
            refine (C1.out _).mono ?_; rintro e w' ⟨rfl, rfl⟩
            go_wp2_with fail
            refine (C2.out _).mono ?_; rintro e w' ⟨rfl, rfl⟩
            go_wp2
            go_round
            case rel => exact ⟨k + 1, by omega, by go_num⟩
            case measure => simp [intOf]; omega
          · cases hkl : (k : Int) == ln
            · skip
              go_wp2_with fail
              refine (C1.out _).mono ?_; rintro e w' ⟨rfl, rfl⟩
              go_wp2_with fail
              refine (C2.out _).mono ?_; rintro e w' ⟨rfl, rfl⟩
              go_wp2
              go_round
              case rel => exact ⟨k + 1, by omega, by go_num⟩
              case measure => simp [intOf]; omega
            · have hd : decide ((v : Int) % 4 < 2) = false := by
                have := CE.out
                have e1 : kd = 1 := by simpa using hkd
                have e2 : (k : Int) = ln := by simpa using hkl
                have : ¬ v % 4 < 2 := fun h => this ⟨rfl, e1, e2, h⟩
                simp; omega
              go_wp2_with fail
              refine (C1.out _).mono ?_; rintro e w' ⟨rfl, rfl⟩
              go_wp2_with fail
              refine (C2.out _).mono ?_; rintro e w' ⟨rfl, rfl⟩
              go_wp2
              go_round
              case rel => exact ⟨k + 1, by omega, by go_num⟩
              case measure => simp [intOf]; omega
    · obtain rfl : k = 4 := heq
      have hown : ∀ q : Kin (w.alloc (.cells #[.int .i64 kd, .int .i64 md, .bool fy, .int .i64 ln, .int .i64 g, .slice A n c] 33)), ownB kd md a1 fy y v b = false → Calls Try.prog 27 #[.agg #[.int .i64 kd, .int .i64 md, .bool fy, .int .i64 ln, .int .i64 g, .slice A n c], .int .i64 a1, .bool y, .int .u8 l, .bool op, .int .i64 tk] q.world fun e w' => e = .returned (.tuple #[.int .u8 l, .bool op]) ∧ Below q.world.heap.size q.world w' :=
        fun q h => drives_no kd md fy ln g A n c a1 y l op tk v b _ (by omega) (by omega) (A1.out q) h
      have HOWN := Lib.hid hown
      clear hown
      cases b
      · have CD := Lib.hid (fun q => HOWN.out q (by simp [ownB]))
        go_wp2_with fail
        refine (Calls.kin _ (CD.out _)).mono ?_; rintro e w' ⟨rfl, y4, rfl⟩
        go_wp2_with fail
        refine (Calls.kin _ (one_any _)).mono ?_; rintro e w' ⟨rfl, y5, rfl⟩
        go_wp2
        go_ret
        exact ⟨rfl, Kin.end1 ‹_›⟩
      · cases hk2 : kd == 2
        · have hk2' : (kd != 2) = true := by simp [bne, hk2]
          have CD := Lib.hid (fun q => HOWN.out q (by simp [ownB, ofB, hk2]))
          go_wp2_with fail
          refine (Calls.kin _ (CD.out _)).mono ?_; rintro e w' ⟨rfl, y6, rfl⟩
          go_wp2_with fail
          refine (Calls.kin _ (one_any _)).mono ?_; rintro e w' ⟨rfl, y7, rfl⟩
          go_wp2
          go_ret
          exact ⟨rfl, Kin.end1 ‹_›⟩
        · obtain rfl : kd = 2 := by simpa using hk2
          clear hk2
          cases hm : md == a1
          · have hm' : (md != a1) = true := by simp [bne, hm]
            have CD := Lib.hid (fun q => HOWN.out q (by simp [ownB, ofB, hm]))
            go_wp2_with fail
            refine (Calls.kin _ (CD.out _)).mono ?_; rintro e w' ⟨rfl, y8, rfl⟩
            go_wp2_with fail
            refine (Calls.kin _ (one_any _)).mono ?_; rintro e w' ⟨rfl, y9, rfl⟩
            go_wp2
            go_ret
            exact ⟨rfl, Kin.end1 ‹_›⟩
          · obtain rfl : md = a1 := by simpa using hm
            clear hm
            cases hf : fy == y
            · have hf' : (fy != y) = true := by simpa [bne] using hf
              have CD := Lib.hid (fun q => HOWN.out q (by simp [ownB, hf]))
              go_wp2_with fail
              refine (Calls.kin _ (CD.out _)).mono ?_; rintro e w' ⟨rfl, y10, rfl⟩
              go_wp2_with fail
              refine (Calls.kin _ (one_any _)).mono ?_; rintro e w' ⟨rfl, y11, rfl⟩
              go_wp2
              go_ret
              exact ⟨rfl, Kin.end1 ‹_›⟩
            · obtain rfl : fy = y := by simpa using hf
              clear hf
              obtain ⟨u2, HU2⟩ : ∃ u2, Hid (Ly3.hb v 2 = u2) := ⟨_, Lib.hid rfl⟩
              have d2 : ((v : Int) / 4 % 2 == 1) = u2 := by rw [← HU2.out]; unfold Ly3.hb; rw [Bool.eq_iff_iff]; simp; omega
              cases h3 : Ly3.hb v 3
              · have d3 : ((v : Int) / 8 % 2 == 1) = false := by rw [← h3]; unfold Ly3.hb; rw [Bool.eq_iff_iff]; simp; omega
                cases hof : ofB 2 md md
                · exact absurd hof (by simp [ofB])
                · cases fy
                  · have CD := Lib.hid (fun (q : Kin (w.alloc (.cells #[.int .i64 2, .int .i64 md, .bool false, .int .i64 ln, .int .i64 g, .slice A n c] 33))) => drives_r ((v : Int) % 4) u2 2 md ln g A n c md false l op tk v _ (by simp [drL]) HU2.out (by omega) (by omega) (A1.out q) hof h3)
                    clear hof h3
                    go_wp2_with fail
                    refine (Calls.kin _ (CD.out _)).mono ?_; rintro e w' ⟨rfl, y12, rfl⟩
                    go_wp2_with fail
                    refine (Calls.kin _ (one_any _)).mono ?_; rintro e w' ⟨rfl, y13, rfl⟩
                    go_wp2
                    go_ret
                    exact ⟨rfl, Kin.end1 ‹_›⟩
                  · have CD := Lib.hid (fun (q : Kin (w.alloc (.cells #[.int .i64 2, .int .i64 md, .bool true, .int .i64 ln, .int .i64 g, .slice A n c] 33))) => drives_r (4 * ((v : Int) % 4)) u2 2 md ln g A n c md true l op tk v _ (by simp [drL]) HU2.out (by omega) (by omega) (A1.out q) hof h3)
                    clear hof h3
                    go_wp2_with fail
                    refine (Calls.kin _ (CD.out _)).mono ?_; rintro e w' ⟨rfl, y14, rfl⟩
                    go_wp2_with fail
                    refine (Calls.kin _ (one_any _)).mono ?_; rintro e w' ⟨rfl, y15, rfl⟩
                    go_wp2
                    go_ret
                    exact ⟨rfl, Kin.end1 ‹_›⟩
              · have CD := Lib.hid (fun q => HOWN.out q (by simp [ownB, h3]))
                have d3 : ((v : Int) / 8 % 2 == 1) = true := by rw [← h3]; unfold Ly3.hb; rw [Bool.eq_iff_iff]; simp; omega
                clear h3
                go_wp2_with fail
                refine (Calls.kin _ (CD.out _)).mono ?_; rintro e w' ⟨rfl, y16, rfl⟩
                go_wp2_with fail
                refine (Calls.kin _ (one_any _)).mono ?_; rintro e w' ⟨rfl, y17, rfl⟩
                go_wp2
                go_ret
                exact ⟨rfl, Kin.end1 ‹_›⟩

theorem walk (cs : Array Value) (l : Int) (as2 : Array Value) (w : World) (hr : Reads w shF cs.toList) (l0 : 0 ≤ l) (l1 : l ≤ 255) (ha : Reads w (.ar 3 (.int .i64)) as2.toList) :
    Calls Try.prog 6 #[.agg cs, .int .u8 l, .agg as2] w fun e w' => e = .returned (.bool true) ∧ Below w.heap.size w w' := by
  obtain ⟨kd, md, fy, ln, fr, A, n, c, xs, rfl, hl, hx, hnc, hcm, _⟩ := readsF hr
  obtain ⟨m, rfl⟩ : ∃ m : Nat, l = m := ⟨l.toNat, by omega⟩
  obtain ⟨rows, hrl, e, hrr⟩ := ha
  match rows, hrl with
  | [r0, r1, r2], _ =>
    obtain ⟨a0, rfl, _⟩ := hrr r0 (by simp)
    obtain ⟨a1, rfl, _⟩ := hrr r1 (by simp)
    obtain ⟨a2, rfl, _⟩ := hrr r2 (by simp)
    obtain rfl : as2 = #[.int .i64 a0, .int .i64 a1, .int .i64 a2] := by cases as2; simpa using e
    unfold maxLen at hcm
    by_cases h : n ≤ 400
    · exact walk_in kd md fy ln fr A n c xs m a0 a1 a2 w (by omega) h hl hx
    · exact walk_long kd md fy ln fr A n c m a0 a1 a2 w (by omega) (by omega)

set_option maxRecDepth 100000 in
theorem lifted (os : Os) (started : os.Started) (H : Type) (enc : TypeId × Value → H) :
    ReturnsInHanded {} Try.checked os 6 .any (Rows.faultLinesSpec.pre6 enc Try.prog Try.f6 Rows.faultLinesRow.domain false) (Rows.faultLinesSpec.post enc Try.prog Try.f6 false true false false) := by
  refine returnsInHanded_of_change (C := Try.checked) own started (by kernel_rfl) Try.func6
    (ChangeSpec.witness6 (enc := enc) (C := Try.checked) false ⟨#[], #[.agg #[.int .i64 0, .int .i64 0, .bool false, .int .i64 0, .int .i64 0, .slice none 0 0], .int .u8 0, .agg #[.int .i64 0, .int .i64 0, .int .i64 0]], []⟩ 8 (by kernel_rfl) (by kernel_rfl) (by kernel_rfl) (by kernel_rfl)) ?_
  intro W base args ds gs before hval0 hW hcnd _
  have hval : ∀ (j : Nat) t v, Try.f6.params[j]? = some t → args[j]? = some v → Value.okWide Try.prog W .any base t v := hval0
  have hW' := hW
  obtain ⟨p, q, hA0, hV, rfl, hfz, hnd⟩ := hW
  have hA : DataW.TrodAll enc Try.prog W 0 (fun _ => true) true Try.f6.params.toList args.toList ds p := hA0
  rw [Try.params6] at hA hval
  obtain ⟨v0, vs0, d0, ds0, p0, q0, hargs, rfl, rfl, h0, r0⟩ := trodAll_cons hA
  obtain ⟨v1, vs1, d1, ds1, p1, q1, rfl, rfl, rfl, h1, r1⟩ := trodAll_cons r0
  obtain ⟨v2, vs2, d2, ds2, p2, q2, rfl, rfl, rfl, h2, r2⟩ := trodAll_cons r1
  obtain ⟨rfl, rfl, rfl⟩ := trodAll_nil r2
  obtain rfl : args = #[v0, v1, v2] := by cases args; simp_all
  obtain ⟨rfl, rfl⟩ := trodVars_none hV
  have k0 := h0
  have lt0 : ∀ x ∈ p0, x.block < W.heap.size := by obtain ⟨m, hm⟩ := k0; exact DataW.trod_lt m _ _ _ hm
  obtain ⟨f, rfl⟩ := okWide_agg (by first | exact .inl ⟨_, Try.underlying33⟩ | exact .inr ⟨_, _, Try.underlying33⟩) (hval 0 33 v0 rfl rfl)
  have rd0 := reads_cells (sh := shF) 30 (by kernel_rfl) k0
  obtain ⟨l, rfl, rfl, rfl, wf1⟩ := open_int Try.underlying42 (hval 1 42 v1 rfl rfl) h1
  have bd1 := bounds_u8 wf1
  have k2 := h2
  have lt2 : ∀ x ∈ p2, x.block < W.heap.size := by obtain ⟨m, hm⟩ := k2; exact DataW.trod_lt m _ _ _ hm
  obtain ⟨a, rfl⟩ := okWide_agg (by first | exact .inl ⟨_, Try.underlying43⟩ | exact .inr ⟨_, _, Try.underlying43⟩) (hval 2 43 v2 rfl rfl)
  have rd2 := reads_cells (sh := .ar 3 (.int .i64)) 30 (by kernel_rfl) k2
  clear hA0 hval0
  refine (walk f l a W rd0 bd1.1 bd1.2 rd2).mono fun e W' ⟨he, bel⟩ => ?_
  subst he
  exact ⟨_, rfl, _, _, _, [], _, [], hW', trodAll_mk1 (shut_bool Try.underlying4 _), (trodAll_cons_mk (Below.trod laidOut (by kernel_rfl) (of_decide_eq_true (by kernel_rfl)) k0 bel lt0) (trodAll_cons_mk (shut_int Try.underlying42 wf1) (trodAll_cons_mk (Below.trod laidOut (by kernel_rfl) (of_decide_eq_true (by kernel_rfl)) k2 bel lt2) trodAll_mk0))), rfl, bel.frame _, fun h => by cases h⟩

theorem over : Rows.faultLinesRow.holds Try.pinned (OpenSpec.ofChange Rows.faultLinesSpec) :=
  OpenClaim.holds_of_wide 6 Try.f6 rfl rfl rfl rfl rfl rfl rfl ⟨rfl, rfl, rfl, rfl, rfl⟩ rfl rfl rfl rfl rfl (by kernel_rfl) Try.func6 (by kernel_rfl)
    (of_decide_eq_true (by kernel_rfl)) (by unfold Func.isWrapper; first | (rw [if_pos (by decide +kernel)]; kernel_rfl) | (rw [if_neg (by decide +kernel)]; exact ⟨rfl, rfl⟩))
    (fun os started H enc _ => lifted os started H enc)

/-- The statement. -/
theorem proved : Rows.FaultLinesSaid := over
end Go.Proofs.Ytnbconkefhoblaa.lawFaultLines
