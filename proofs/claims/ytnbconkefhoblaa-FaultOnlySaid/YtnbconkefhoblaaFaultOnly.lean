/- A fault of a line changes no other line, and lets every side drive as it would; one of a side lets lines stand as they do, and drives no other side's lines; one that is the same in new memory goes on by itself: for every fault, lines, side and tick; no condition. -/
import Derived.IntWalk
import Derived.Deep.DeepCutAuto
import Derived.StillTailTactics
import Derived.Test.YtnbconkefhoblaaFltF
import Derived.Test.YtnbconkefhoblaaFltL
import Derived.Test.YtnbconkefhoblaaSh
import Derived.Test.YtnbconkefhoblaaRows
import Derived.WalkKit
import Derived.ProofKit
import Derived.OpenShut
import Derived.ShutString
import Derived.ChangeOld
import Derived.Below
namespace Go.Proofs.Ytnbconkefhoblaa.lawFaultOnly
open Go.ChangeShapes Go.WideShapes Go.ChangeAt Go.RowKit Base
open Go.ChangeMaps (open_string shut_string)
set_option linter.unusedVariables false
set_option linter.unusedSimpArgs false
theorem own : ownKnob Try.prog.godebug = none := by kernel_rfl
theorem laidOut : laidOutB Try.prog = true := by kernel_rfl
open Ly20

theorem drives_own (kd md : Int) (fy : Bool) (ln fr : Int) (A : Option Addr) (n c : Nat) (l : Nat) (op : Bool) (tk : Int) (v : Nat) (b : Bool) (hl : l < 256) (hv : v < 256) (ht : tk ≤ 9223372036854775807) :
    ∃ (D : Nat) (O : Bool), D < 256 ∧ (kd = 2 ∨ (D = l ∧ O = op)) ∧ (D = l ∨ D &&& pulseF (!fy) = 0) ∧ ∀ W, AtR W kd fr A n tk v b →
      Calls Try.prog 27 #[.agg #[.int .i64 kd, .int .i64 md, .bool fy, .int .i64 ln, .int .i64 fr, .slice A n c], .int .i64 md, .bool fy, .int .u8 l, .bool op, .int .i64 tk] W fun e w' => e = .returned (.tuple #[.int .u8 D, .bool O]) ∧ Below W.heap.size W w' := by
  by_cases h : ownB kd md md fy fy v b = true
  · have h' := h
    unfold ownB at h'
    simp only [Bool.and_eq_true] at h'
    obtain ⟨⟨⟨ho, _⟩, hb⟩, h3⟩ := h'
    subst hb
    have h3' : Ly3.hb v 3 = false := by simpa using h3
    have hk : kd = 2 := by unfold ofB at ho; simp at ho; exact ho
    exact ⟨drL fy v, Ly3.hb v 2, drL_lt fy v, .inl hk, .inr (drL_side fy v), fun W hA => drives_yes kd md ln fr A n c md fy l op tk v W hv ht hA ho h3'⟩
  · have h' : ownB kd md md fy fy v b = false := by simpa using h
    exact ⟨l, op, hl, .inr ⟨rfl, rfl⟩, .inl rfl, fun W hA => drives_no kd md fy ln fr A n c md fy l op tk v b W hv ht hA h'⟩
theorem xor1 (x : Int) : ∃ m : Int, Go.bits BinOp.xor IntKind.i64 x 1 = m ∧ (x == m) = false := by
  refine ⟨_, rfl, ?_⟩
  rw [beq_eq_false_iff_ne]
  intro h
  have h1 : BitVec.ofInt 64 x = BitVec.ofInt 64 x ^^^ BitVec.ofInt 64 1 := by
    have e : BitVec.ofInt 64 (Go.bits BinOp.xor IntKind.i64 x 1) = BitVec.ofInt 64 x ^^^ BitVec.ofInt 64 1 := by
      show BitVec.ofInt 64 (IntKind.i64.wrap ((BitVec.ofInt 64 x ^^^ BitVec.ofInt 64 1).toNat : Int)) = _
      generalize BitVec.ofInt 64 x ^^^ BitVec.ofInt 64 1 = z
      apply BitVec.eq_of_toNat_eq
      have := z.isLt
      simp only [BitVec.toNat_ofInt, IntKind.wrap, IntKind.bits, IntKind.signed]
      simp
      omega
    rw [← e, ← h]
  have h2 := congrArg (fun z => BitVec.ofInt 64 x ^^^ z) h1
  simp [← BitVec.xor_assoc] at h2

def LRel (i : Value) : Prop := ∃ k : Nat, k ≤ 4 ∧ i = .int .i64 k

set_option maxRecDepth 100000 in
theorem walk_long (kd md : Int) (fy : Bool) (ln fr : Int) (A : Option Addr) (n c : Nat) (l : Nat) (a0 a1 : Int) (w : World) (hm : n ≤ 9223372036854775807) (hn : 400 < n) :
    Calls Try.prog 7 #[.agg #[.int .i64 kd, .int .i64 md, .bool fy, .int .i64 ln, .int .i64 fr, .slice A n c], .int .u8 l, .agg #[.int .i64 a0, .int .i64 a1]] w fun e w' => e = .returned (.bool true) ∧ Below w.heap.size w w' := by
  go_enter Try.func7, Try.ntmps7
  go_wp2
  go_ret
  refine ⟨rfl, ?_⟩
  repeat (first | exact Below.refl _ _ | refine Below.setCell ?_ (by first | omega | (simp; done) | (simp; omega)) _ | refine Below.alloc ?_ (by first | omega | (simp; done) | (simp; omega)) _ | refine below_drewN' ?_ _ | refine Below.drew ?_)

set_option maxRecDepth 100000 in
set_option maxHeartbeats 4000000 in
theorem walk_in (kd md : Int) (fy : Bool) (ln fr : Int) (A : Option Addr) (n c : Nat) (xs : List Int) (l : Nat) (a0 a1 : Int) (w : World) (hl8 : l < 256) (h1 : n ≤ 400) (hl : Lst w A n (xs.map (Value.int .u8))) (hx : ∀ x ∈ xs, 0 ≤ x ∧ x ≤ 255) :
    Calls Try.prog 7 #[.agg #[.int .i64 kd, .int .i64 md, .bool fy, .int .i64 ln, .int .i64 fr, .slice A n c], .int .u8 l, .agg #[.int .i64 a0, .int .i64 a1]] w fun e w' => e = .returned (.bool true) ∧ Below w.heap.size w w' := by
  obtain ⟨g, g0, g1, hg⟩ := and_mask fr 65535 (by decide)
  obtain ⟨tk, t0, t1, ht⟩ := and_mask a0 1048575 (by decide)
  obtain ⟨q, q0, q1, hq⟩ := and_mask a1 1 (by decide)
  simp at hg g1 ht t1 hq q1
  obtain ⟨y, hy⟩ : ∃ y, (q == 1) = y := ⟨_, rfl⟩
  obtain ⟨m2, hm2, hne⟩ := xor1 md
  obtain ⟨v', b, hAt, v0, v1⟩ := AtR.ex kd g tk g0 h1 hl hx
  obtain ⟨v, rfl⟩ : ∃ v : Nat, v' = v := ⟨v'.toNat, by omega⟩
  obtain ⟨D, O, hD, hkd, hsd, hdr⟩ := drives_own kd md fy ln g A n c l y tk v b hl8 (by omega) (by omega)
  obtain ⟨L, HR⟩ : ∃ r, Hid (linF kd ln l v b = r) := ⟨_, Lib.hid rfl⟩
  have hL : L < 256 := by rw [← HR.out]; exact linF_lt hl8
  have hLk : ∀ k : Nat, k < 4 → ¬ ((k : Int) = ln) → Ly3.hb L k = Ly3.hb l k := by
    intro k hk hkl
    rw [← HR.out, hb_lin kd ln l v b k hl8 hk]
    unfold wantF
    rw [if_neg (fun h => hkl h.2.2.1)]
  have hLl : kd = 1 ∨ L = l := by
    by_cases h : kd = 1
    · exact .inl h
    · right; rw [← HR.out]; unfold linF; rw [if_neg (fun hh => h hh.1)]
  have hW : Below w.heap.size w (w.alloc (.cells #[.int .i64 kd, .int .i64 md, .bool fy, .int .i64 ln, .int .i64 g, .slice A n c] 33)) := (Below.refl _ _).alloc (Nat.le_refl _) _
  obtain ⟨K0, K1, K2, K3, K4, K5⟩ := Kin.box6 (Below.refl _ (w.alloc (.cells #[.int .i64 kd, .int .i64 md, .bool fy, .int .i64 ln, .int .i64 g, .slice A n c] 33)))
  have HAT := Lib.hid hAt
  have HX := Lib.hid hx
  have HLS := Lib.hid hl
  have HDR := Lib.hid hdr
  have HLK := Lib.hid hLk
  have HKD := Lib.hid hkd
  have HSD := Lib.hid hsd
  have HLL := Lib.hid hLl
  have HW := Lib.hid hW
  have HNE := Lib.hid hne
  clear hAt hx hl hdr hLk hkd hsd hLl hW hne
  go_enter Try.func7, Try.ntmps7
  go_wp2_with fail
  refine wp_region_quiet_lit (by kernel_rfl) (by kernel_rfl) ?_
  repeat (go_big_quiet_step (fail))
  refine wpQuiet_nil ?_
  intro _ hw'
  obtain ⟨nq, hw''⟩ := hw'
  subst hw''
  go_wp2_with fail
  obtain ⟨x, hx⟩ : ∃ x : Kin (w.alloc (.cells #[.int .i64 kd, .int .i64 md, .bool fy, .int .i64 ln, .int .i64 g, .slice A n c] 33)), ((w.alloc (.cells #[.int .i64 kd, .int .i64 md, .bool fy, .int .i64 ln, .int .i64 g, .slice A n c] 33)).alloc (.cells #[.int .i64 a0, .int .i64 a1] 27)).drewN nq = x.world := ⟨⟨_, below_drewN' ((Below.refl _ _).alloc (Nat.le_refl _) _) _⟩, rfl⟩
  rw [hx]
  clear hx
  refine (clone_any kd md fy ln g A n c xs _ h1 (HLS.out.kept (HW.out.trans (x.below.mono HW.out.size)))).mono ?_
  rintro e w2 ⟨B, rfl, hB, HO, hb2⟩
  have hxs := x.below.size
  simp at hxs
  have f0 := K0 ⟨w2, x.below.trans (hb2.mono x.below.size)⟩
  have f1 := K1 ⟨w2, x.below.trans (hb2.mono x.below.size)⟩
  have f2 := K2 ⟨w2, x.below.trans (hb2.mono x.below.size)⟩
  have f3 := K3 ⟨w2, x.below.trans (hb2.mono x.below.size)⟩
  have f4 := K4 ⟨w2, x.below.trans (hb2.mono x.below.size)⟩
  have f5 := K5 ⟨w2, x.below.trans (hb2.mono x.below.size)⟩
  simp only at f0 f1 f2 f3 f4 f5
  have hlt2 : w.heap.size < w2.heap.size := by have := hb2.size; omega
  clear K0 K1 K2 K3 K4 K5
  have hbig : Below (w.alloc (.cells #[.int .i64 kd, .int .i64 md, .bool fy, .int .i64 ln, .int .i64 g, .slice A n c] 33)).heap.size (w.alloc (.cells #[.int .i64 kd, .int .i64 md, .bool fy, .int .i64 ln, .int .i64 g, .slice A n c] 33)) w2 := x.below.trans (hb2.mono x.below.size)
  have HBIG := Lib.hid hbig
  have HB2 := Lib.hid hb2
  clear hbig hb2
  have hb3 : Below w2.heap.size w2 (w2.alloc (.cells #[.int .i64 kd, .int .i64 md, .bool fy, .int .i64 ln, .int .i64 g, .slice (some ⟨B, 0, none⟩) n n] 33)) := (Below.refl _ _).alloc (Nat.le_refl _) _
  have hBlt := HO.out.lt
  have hwB : w.heap.size < B := by omega
  have F0 := fun q : Kin (w2.alloc (.cells #[.int .i64 kd, .int .i64 md, .bool fy, .int .i64 ln, .int .i64 g, .slice (some ⟨B, 0, none⟩) n n] 33)) => Kin.far f0 hb3 q
  have F1 := fun q : Kin (w2.alloc (.cells #[.int .i64 kd, .int .i64 md, .bool fy, .int .i64 ln, .int .i64 g, .slice (some ⟨B, 0, none⟩) n n] 33)) => Kin.far f1 hb3 q
  have F2 := fun q : Kin (w2.alloc (.cells #[.int .i64 kd, .int .i64 md, .bool fy, .int .i64 ln, .int .i64 g, .slice (some ⟨B, 0, none⟩) n n] 33)) => Kin.far f2 hb3 q
  have F3 := fun q : Kin (w2.alloc (.cells #[.int .i64 kd, .int .i64 md, .bool fy, .int .i64 ln, .int .i64 g, .slice (some ⟨B, 0, none⟩) n n] 33)) => Kin.far f3 hb3 q
  have F4 := fun q : Kin (w2.alloc (.cells #[.int .i64 kd, .int .i64 md, .bool fy, .int .i64 ln, .int .i64 g, .slice (some ⟨B, 0, none⟩) n n] 33)) => Kin.far f4 hb3 q
  have F5 := fun q : Kin (w2.alloc (.cells #[.int .i64 kd, .int .i64 md, .bool fy, .int .i64 ln, .int .i64 g, .slice (some ⟨B, 0, none⟩) n n] 33)) => Kin.far f5 hb3 q
  obtain ⟨C0, C1, C2, C3, C4, C5⟩ := Kin.box6 (Below.refl _ (w2.alloc (.cells #[.int .i64 kd, .int .i64 md, .bool fy, .int .i64 ln, .int .i64 g, .slice (some ⟨B, 0, none⟩) n n] 33)))
  have hall : ∀ q : Kin (w2.alloc (.cells #[.int .i64 kd, .int .i64 md, .bool fy, .int .i64 ln, .int .i64 g, .slice (some ⟨B, 0, none⟩) n n] 33)), Below w.heap.size w q.world := fun q => (HW.out.trans (HBIG.out.mono HW.out.size)).trans ((hb3.trans (q.below.mono hb3.size)).mono (HW.out.trans (HBIG.out.mono HW.out.size)).size)
  have HALL := Lib.hid hall
  have A1 := Lib.hid (fun q : Kin (w2.alloc (.cells #[.int .i64 kd, .int .i64 md, .bool fy, .int .i64 ln, .int .i64 g, .slice (some ⟨B, 0, none⟩) n n] 33)) => HAT.out.kept (HALL.out q))
  have A0 : Hid (AtR (w2.alloc (.cells #[.int .i64 kd, .int .i64 md, .bool fy, .int .i64 ln, .int .i64 g, .slice (some ⟨B, 0, none⟩) n n] 33)) kd g A n tk v b) := Lib.hid (A1.out (Kin.me _))
  have OB := Lib.hid (fun q : Kin (w2.alloc (.cells #[.int .i64 kd, .int .i64 md, .bool fy, .int .i64 ln, .int .i64 g, .slice (some ⟨B, 0, none⟩) n n] 33)) => (HO.out.alloc (.cells #[.int .i64 kd, .int .i64 md, .bool fy, .int .i64 ln, .int .i64 g, .slice (some ⟨B, 0, none⟩) n n] 33)).kept q.below)
  clear hall hb3
  have E1 := Lib.hid (fun q : Kin (w2.alloc (.cells #[.int .i64 kd, .int .i64 md, .bool fy, .int .i64 ln, .int .i64 g, .slice (some ⟨B, 0, none⟩) n n] 33)) => drives_no kd md fy ln g A n c md (!fy) l y tk v b q.world (by omega) (by omega) (A1.out q) (by cases fy <;> simp [ownB]))
  have E2 := Lib.hid (fun q : Kin (w2.alloc (.cells #[.int .i64 kd, .int .i64 md, .bool fy, .int .i64 ln, .int .i64 g, .slice (some ⟨B, 0, none⟩) n n] 33)) => drives_no kd md fy ln g A n c m2 fy l y tk v b q.world (by omega) (by omega) (A1.out q) (by have := HNE.out; simp [ownB, ofB, this]))
  have E0 := Lib.hid (fun q : Kin (w2.alloc (.cells #[.int .i64 kd, .int .i64 md, .bool fy, .int .i64 ln, .int .i64 g, .slice (some ⟨B, 0, none⟩) n n] 33)) => HDR.out q.world (A1.out q))
  have side0 := Lib.hid (fun W (h : D &&& pulseF (!fy) = 0) => side_any D (!fy) 0 W hD h)
  go_wp2_with fail
  refine (lines_c L kd md fy ln g A n c l tk v b _ HR.out hl8 (by omega) v0 v1 A0.out).mono ?_
  rintro e w4 ⟨rfl, hb4⟩
  obtain ⟨x3, rfl⟩ := Kin.ex hb4
  clear hb4
  go_wp2_with fail
  refine (Calls.kin _ (E0.out _)).mono ?_; rintro e w' ⟨rfl, y4, rfl⟩
  go_upto_region 8 with (fail)
  go_cut [74] (fun s wx => s = .bool false ∧ wx = y4.world)
  case first =>
    by_cases k1 : kd = 1
    · rcases HKD.out with h | ⟨h, h'⟩
      · omega
      · subst k1 h h'
        go_wp2_with fail
        go_meet
        exact ⟨rfl, rfl⟩
    · have hLl2 : L = l := by rcases HLL.out with h | h; exact absurd h k1; exact h
      subst hLl2
      by_cases k2 : kd = 2
      · subst k2
        go_wp2_with fail
        go_meet
        exact ⟨rfl, rfl⟩
      · have k1' : (kd != 1) = true := by simpa using k1
        have k2' : (kd != 2) = true := by simpa using k2
        rcases HKD.out with h | ⟨h, h'⟩
        · exact absurd h k2
        · subst h h'
          go_wp2_with fail
          go_meet
          exact ⟨rfl, rfl⟩
  case rest =>
    obtain ⟨rfl, rfl⟩ := hcut
    go_wp2_with fail
    go_loop [13] (fun i => LRel i) (fun i => 4 - (intOf i).toNat)
    case atStart => exact ⟨0, by omega, rfl⟩
    case round =>
      obtain ⟨k, hk, rfl⟩ := hrel
      rcases Nat.lt_or_eq_of_le hk with hlt | heq
      · cases hkl : (k : Int) == ln
        · have hkl' : ((k : Int) != ln) = true := by simp [bne, hkl]
          obtain ⟨u, HU⟩ : ∃ u, Hid (Ly3.hb l k = u) := ⟨_, Lib.hid rfl⟩
          have H1 := Lib.hid (fun W => high_c l k u W HU.out hl8 hlt)
          have H2 := Lib.hid (fun W => high_c L k u W ((HLK.out k hlt (by simpa using hkl)).trans HU.out) hL hlt)
          go_wp2_with fail
          refine (H2.out _).mono ?_; rintro e w' ⟨rfl, rfl⟩
          go_wp2_with fail
          refine (H1.out _).mono ?_; rintro e w' ⟨rfl, rfl⟩
          go_wp2
          go_round
          case rel => exact ⟨k + 1, by omega, by go_num⟩
          case measure => simp [intOf]; omega
        · have hkl' : ((k : Int) != ln) = false := by simp [bne, hkl]
          go_wp2
          go_round
          case rel => exact ⟨k + 1, by omega, by go_num⟩
          case measure => simp [intOf]; omega
      · obtain rfl : k = 4 := heq
        go_upto_region 15 with (fail)
        go_cut [102] (fun s wx => s = .bool false ∧ wx = y4.world)
        case first =>
          by_cases hDl : D = l
          · subst hDl
            go_wp2_with fail
            go_meet
            exact ⟨rfl, rfl⟩
          · have hDl' : ((D : Int) != (l : Int)) = true := by simp; omega
            have hDl2 : ¬ ((D : Int) = (l : Int)) := by omega
            have hz := HSD.out.resolve_left hDl
            go_wp2_with fail
            refine (side0.out _ hz).mono ?_; rintro e w' ⟨rfl, rfl⟩
            go_wp2
            go_meet
            exact ⟨rfl, rfl⟩
        case rest =>
          obtain ⟨rfl, rfl⟩ := hcut
          go_wp2_with fail
          refine (Calls.kin _ (E1.out _)).mono ?_; rintro e w' ⟨rfl, y5, rfl⟩
          go_wp2_with fail
          refine (Calls.kin _ (E2.out _)).mono ?_; rintro e w' ⟨rfl, y6, rfl⟩
          rcases Nat.eq_zero_or_pos n with rfl | hn
          · go_wp2_with fail
            refine (Calls.kin _ (one_any _)).mono ?_; rintro e w' ⟨rfl, y7, rfl⟩
            go_wp2
            go_ret
            exact ⟨rfl, HALL.out y7⟩
          · obtain ⟨pb, poff, rfl, hplt, hpc⟩ := HLS.out.2 hn
            have hxl : xs.length = n := by simpa using HLS.out.1
            obtain ⟨z0, hz0⟩ : ∃ z0, xs[0]? = some z0 := ⟨xs[0]'(by omega), List.getElem?_eq_getElem (by omega)⟩
            have hzb := HX.out z0 (List.mem_of_getElem? hz0)
            obtain ⟨zb0, zb1⟩ := hzb
            have p0 : w.cell? ⟨pb, poff + 0, none⟩ = some (.int .u8 z0) := by rw [hpc 0 hn, List.getElem?_map, hz0]; rfl
            simp only [Nat.add_zero] at p0
            have P0 := fun q : Kin (w2.alloc (.cells #[.int .i64 kd, .int .i64 md, .bool fy, .int .i64 ln, .int .i64 g, .slice (some ⟨B, 0, none⟩) n n] 33)) => (HALL.out q).cell (p := ⟨pb, poff, none⟩) hplt |>.trans p0
            have B0 := fun q : Kin (w2.alloc (.cells #[.int .i64 kd, .int .i64 md, .bool fy, .int .i64 ln, .int .i64 g, .slice (some ⟨B, 0, none⟩) n n] 33)) => (OB.out q).cell 0
            have B0f := fun q : Kin (w2.alloc (.cells #[.int .i64 kd, .int .i64 md, .bool fy, .int .i64 ln, .int .i64 g, .slice (some ⟨B, 0, none⟩) n n] 33)) => (OB.out q).free 0
            simp only [List.getElem?_toArray, List.getElem?_map, hz0, Option.map_some] at B0
            clear hpc p0 hz0 hxl
            have hpB : pb < B := by omega
            go_wp2_with fail
            go_still_tail 8, (by kernel_rfl)
            change wpList _ _ _ _ _ y6.world.drew
            obtain ⟨z, hz⟩ : ∃ z : Kin (w2.alloc (.cells #[.int .i64 kd, .int .i64 md, .bool fy, .int .i64 ln, .int .i64 g, .slice (some ⟨B, 0, none⟩) n n] 33)), y6.world.drew = z.world := ⟨⟨_, y6.below.drew⟩, rfl⟩
            rw [hz]
            clear hz
            go_wp2_with fail
            refine (one_any _).mono ?_
            rintro e w9 ⟨rfl, hb9⟩
            go_wp2
            go_ret
            have e1 := HALL.out z
            have e2 := e1.setCell (p := ⟨B, 0, none⟩) (by simp; omega) (.int .u8 (Go.bits BinOp.xor IntKind.u8 z0 1))
            exact ⟨rfl, e2.trans (hb9.mono e2.size)⟩

theorem walk (cs : Array Value) (l : Int) (as2 : Array Value) (w : World) (hr : Reads w shF cs.toList) (l0 : 0 ≤ l) (l1 : l ≤ 255) (ha : Reads w (.ar 2 (.int .i64)) as2.toList) :
    Calls Try.prog 7 #[.agg cs, .int .u8 l, .agg as2] w fun e w' => e = .returned (.bool true) ∧ Below w.heap.size w w' := by
  obtain ⟨kd, md, fy, ln, fr, A, n, c, xs, rfl, hl, hx, hnc, hcm, _⟩ := readsF hr
  obtain ⟨m, rfl⟩ : ∃ m : Nat, l = m := ⟨l.toNat, by omega⟩
  obtain ⟨rows, hrl, e, hrr⟩ := ha
  match rows, hrl with
  | [r0, r1], _ =>
    obtain ⟨a0, rfl, _⟩ := hrr r0 (by simp)
    obtain ⟨a1, rfl, _⟩ := hrr r1 (by simp)
    obtain rfl : as2 = #[.int .i64 a0, .int .i64 a1] := by cases as2; simpa using e
    unfold maxLen at hcm
    by_cases h : n ≤ 400
    · exact walk_in kd md fy ln fr A n c xs m a0 a1 w (by omega) h hl hx
    · exact walk_long kd md fy ln fr A n c m a0 a1 w (by omega) (by omega)

set_option maxRecDepth 100000 in
theorem lifted (os : Os) (started : os.Started) (H : Type) (enc : TypeId × Value → H) :
    ReturnsInHanded {} Try.checked os 7 .any (Rows.faultOnlySpec.pre6 enc Try.prog Try.f7 Rows.faultOnlyRow.domain false) (Rows.faultOnlySpec.post enc Try.prog Try.f7 false true false false) := by
  refine returnsInHanded_of_change (C := Try.checked) own started (by kernel_rfl) Try.func7
    (ChangeSpec.witness6 (enc := enc) (C := Try.checked) false ⟨#[], #[.agg #[.int .i64 0, .int .i64 0, .bool false, .int .i64 0, .int .i64 0, .slice none 0 0], .int .u8 0, .agg #[.int .i64 0, .int .i64 0]], []⟩ 8 (by kernel_rfl) (by kernel_rfl) (by kernel_rfl) (by kernel_rfl)) ?_
  intro W base args ds gs before hval0 hW hcnd _
  have hval : ∀ (j : Nat) t v, Try.f7.params[j]? = some t → args[j]? = some v → Value.okWide Try.prog W .any base t v := hval0
  have hW' := hW
  obtain ⟨p, q, hA0, hV, rfl, hfz, hnd⟩ := hW
  have hA : DataW.TrodAll enc Try.prog W 0 (fun _ => true) true Try.f7.params.toList args.toList ds p := hA0
  rw [Try.params7] at hA hval
  obtain ⟨v0, vs0, d0, ds0, p0, q0, hargs, rfl, rfl, h0, r0⟩ := trodAll_cons hA
  obtain ⟨v1, vs1, d1, ds1, p1, q1, rfl, rfl, rfl, h1, r1⟩ := trodAll_cons r0
  obtain ⟨v2, vs2, d2, ds2, p2, q2, rfl, rfl, rfl, h2, r2⟩ := trodAll_cons r1
  obtain ⟨rfl, rfl, rfl⟩ := trodAll_nil r2
  obtain rfl : args = #[v0, v1, v2] := by cases args; simp_all
  obtain ⟨rfl, rfl⟩ := trodVars_none hV
  have k0 := h0
  have lt0 : ∀ x ∈ p0, x.block < W.heap.size := by obtain ⟨m, hm⟩ := k0; exact DataW.trod_lt m _ _ _ hm
  obtain ⟨f, rfl⟩ := okWide_agg (by first | exact .inl ⟨_, Try.underlying33⟩ | exact .inr ⟨_, _, Try.underlying33⟩) (hval 0 33 v0 rfl rfl)
  have rd0 := reads_cells (sh := shF) 30 (by kernel_rfl) k0
  obtain ⟨l, rfl, rfl, rfl, wf1⟩ := open_int Try.underlying42 (hval 1 42 v1 rfl rfl) h1
  have bd1 := bounds_u8 wf1
  have k2 := h2
  have lt2 : ∀ x ∈ p2, x.block < W.heap.size := by obtain ⟨m, hm⟩ := k2; exact DataW.trod_lt m _ _ _ hm
  obtain ⟨a, rfl⟩ := okWide_agg (by first | exact .inl ⟨_, Try.underlying27⟩ | exact .inr ⟨_, _, Try.underlying27⟩) (hval 2 27 v2 rfl rfl)
  have rd2 := reads_cells (sh := .ar 2 (.int .i64)) 30 (by kernel_rfl) k2
  clear hA0 hval0
  refine (walk f l a W rd0 bd1.1 bd1.2 rd2).mono fun e W' ⟨he, bel⟩ => ?_
  subst he
  exact ⟨_, rfl, _, _, _, [], _, [], hW', trodAll_mk1 (shut_bool Try.underlying4 _), (trodAll_cons_mk (Below.trod laidOut (by kernel_rfl) (of_decide_eq_true (by kernel_rfl)) k0 bel lt0) (trodAll_cons_mk (shut_int Try.underlying42 wf1) (trodAll_cons_mk (Below.trod laidOut (by kernel_rfl) (of_decide_eq_true (by kernel_rfl)) k2 bel lt2) trodAll_mk0))), rfl, bel.frame _, fun h => by cases h⟩

theorem over : Rows.faultOnlyRow.holds Try.pinned (OpenSpec.ofChange Rows.faultOnlySpec) :=
  OpenClaim.holds_of_wide 7 Try.f7 rfl rfl rfl rfl rfl rfl rfl ⟨rfl, rfl, rfl, rfl, rfl⟩ rfl rfl rfl rfl rfl (by kernel_rfl) Try.func7 (by kernel_rfl)
    (of_decide_eq_true (by kernel_rfl)) (by unfold Func.isWrapper; first | (rw [if_pos (by decide +kernel)]; kernel_rfl) | (rw [if_neg (by decide +kernel)]; exact ⟨rfl, rfl⟩))
    (fun os started H enc _ => lifted os started H enc)

/-- The statement. -/
theorem proved : Rows.FaultOnlySaid := over
end Go.Proofs.Ytnbconkefhoblaa.lawFaultOnly
