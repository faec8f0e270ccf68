/- The document's own Sum, two, Right of layer 10; no condition. -/
import Derived.Test.YthnopcoahcdjjaaImgR
namespace Go.Proofs.Ythnopcoahcdjjaa.Ly10
open Go.ChangeShapes Go.WideShapes Go.ChangeAt Go.RowKit Base
set_option linter.unusedVariables false
set_option linter.unusedSimpArgs false

/-- The bytes of a string. -/
abbrev strU (bs : List Nat) : ByteArray := strB (bs.map fun (x : Nat) => (x : Int))
theorem strU_len (bs : List Nat) : (strU bs).size = bs.length := by rw [strB_len]; simp
/-- The sum, bit by bit: after the first k bits of byte b. -/
def bit1 (s t : Nat) : Nat := if s / 32768 ≠ t then (2 * s % 65536) ^^^ 4129 else 2 * s % 65536
def bitsU : Nat → Nat → Nat → Nat
  | 0, s, b => s
  | k + 1, s, b => bit1 (bitsU k s b) (b / 2 ^ (7 - k) % 2)
theorem bstep_eq {s : Nat} (h : s < 65536) : bstep s = if s / 32768 ≠ 0 then (2 * s % 65536) ^^^ 4129 else 2 * s % 65536 := by
  unfold bstep
  by_cases h1 : s < 32768
  · rw [if_pos h1, if_neg (by omega)]; omega
  · rw [if_neg h1, if_pos (by omega), show 2 * s - 65536 = 2 * s % 65536 by omega]
theorem bit1_lt {s t : Nat} : bit1 s t < 65536 := by
  unfold bit1
  split
  · have h2 : (2 * s % 65536) ^^^ 4129 < 2 ^ 16 := Nat.xor_lt_two_pow (by omega) (by omega)
    omega
  · omega
theorem bitsU_lt {k s b : Nat} (h : s < 65536) : bitsU k s b < 65536 := by
  cases k with
  | zero => exact h
  | succ k => exact bit1_lt
theorem top_xor {a b : Nat} (ha : a < 65536) (hb : b < 65536) : (a ^^^ b) / 32768 = (a / 32768 + b / 32768) % 2 := by
  have h : (a ^^^ b) / 2 ^ 15 = (a / 2 ^ 15) ^^^ (b / 2 ^ 15) := by rw [← Nat.shiftRight_eq_div_pow, Nat.shiftRight_xor_distrib, Nat.shiftRight_eq_div_pow, Nat.shiftRight_eq_div_pow]
  rw [show (2 : Nat) ^ 15 = 32768 from rfl] at h
  rw [h]
  have h1 : a / 32768 = 0 ∨ a / 32768 = 1 := by omega
  have h2 : b / 32768 = 0 ∨ b / 32768 = 1 := by omega
  rcases h1 with h1 | h1 <;> rcases h2 with h2 | h2 <;> rw [h1, h2] <;> rfl
theorem dbl_xor (a b : Nat) : 2 * (a ^^^ b) % 65536 = (2 * a % 65536) ^^^ (2 * b % 65536) := by
  have h : (2 * (a ^^^ b)) = (2 * a) ^^^ (2 * b) := by
    have := Nat.shiftLeft_xor_distrib (a := a) (b := b) (i := 1)
    rw [Nat.shiftLeft_eq, Nat.shiftLeft_eq, Nat.shiftLeft_eq, Nat.pow_one] at this
    rw [Nat.mul_comm 2, Nat.mul_comm 2 a, Nat.mul_comm 2 b]
    exact this
  rw [h, show (65536 : Nat) = 2 ^ 16 from rfl, Nat.xor_mod_two_pow]
/-- Byte by byte and bit by bit are the same. -/
theorem bits_inv (s b : Nat) (hs : s < 65536) (hb : b < 256) : ∀ k, k ≤ 8 → bsteps k (s ^^^ (b * 256)) = bitsU k s b ^^^ (b * 256 * 2 ^ k % 65536)
  | 0, _ => by
    show s ^^^ (b * 256) = s ^^^ (b * 256 * 1 % 65536)
    rw [Nat.mul_one, Nat.mod_eq_of_lt (by omega)]
  | k + 1, hk => by
    have ih := bits_inv s b hs hb k (by omega)
    have hu := bitsU_lt (k := k) (b := b) hs
    show bstep (bsteps k (s ^^^ (b * 256))) = bit1 (bitsU k s b) (b / 2 ^ (7 - k) % 2) ^^^ (b * 256 * 2 ^ (k + 1) % 65536)
    rw [ih]
    obtain ⟨u, hu'⟩ : ∃ u, bitsU k s b = u := ⟨_, rfl⟩
    rw [hu'] at hu ⊢
    obtain ⟨B, hB⟩ : ∃ B, b * 256 * 2 ^ k % 65536 = B := ⟨_, rfl⟩
    have hB1 : B < 65536 := by rw [← hB]; exact Nat.mod_lt _ (by omega)
    have hx : u ^^^ B < 65536 := by
      have h2 : u ^^^ B < 2 ^ 16 := Nat.xor_lt_two_pow (by omega) (by omega)
      omega
    have hB2 : b * 256 * 2 ^ (k + 1) % 65536 = 2 * B % 65536 := by
      rw [← hB, Nat.pow_succ, ← Nat.mul_assoc]
      generalize b * 256 * 2 ^ k = X
      omega
    have htop : B / 32768 = b / 2 ^ (7 - k) % 2 := by
      rw [← hB]
      rcases (show k = 0 ∨ k = 1 ∨ k = 2 ∨ k = 3 ∨ k = 4 ∨ k = 5 ∨ k = 6 ∨ k = 7 by omega) with rfl | rfl | rfl | rfl | rfl | rfl | rfl | rfl <;> simp <;> omega
    rw [hB, bstep_eq hx, top_xor hu hB1, hB2, ← htop, dbl_xor]
    unfold bit1
    have h1 : u / 32768 = 0 ∨ u / 32768 = 1 := by omega
    have h2 : B / 32768 = 0 ∨ B / 32768 = 1 := by omega
    rcases h1 with h1 | h1 <;> rcases h2 with h2 | h2
    · rw [h1, h2]; rfl
    · rw [h1, h2, if_pos (by decide), if_pos (by decide), Nat.xor_assoc, Nat.xor_comm (2 * B % 65536), ← Nat.xor_assoc]
    · rw [h1, h2, if_pos (by decide), if_pos (by decide), Nat.xor_assoc, Nat.xor_comm (2 * B % 65536), ← Nat.xor_assoc]
    · rw [h1, h2]; rfl
theorem SB_bits {s b : Nat} (hs : s < 65536) (hb : b < 256) : SB s b = bitsU 8 s b := by
  rw [SB_def, bits_inv s b hs hb 8 (Nat.le_refl _), show b * 256 * 2 ^ 8 % 65536 = 0 by omega, Nat.xor_zero]
theorem i64_xorN (a b : Nat) (ha : a < 65536) (hb : b < 65536) : Go.bits BinOp.xor IntKind.i64 (a : Int) (b : Int) = ((a ^^^ b : Nat) : Int) := by
  have h : (BitVec.ofInt 64 (a : Int) ^^^ BitVec.ofInt 64 (b : Int)).toNat = a ^^^ b := by
    rw [BitVec.toNat_xor]
    have e1 : (BitVec.ofInt 64 (a : Int)).toNat = a := by simp; omega
    have e2 : (BitVec.ofInt 64 (b : Int)).toNat = b := by simp; omega
    rw [e1, e2]
  have hlt : a ^^^ b < 65536 := by
    have h2 : a ^^^ b < 2 ^ 16 := Nat.xor_lt_two_pow (by omega) (by omega)
    omega
  show IntKind.i64.wrap ((BitVec.ofInt 64 (a : Int) ^^^ BitVec.ofInt 64 (b : Int)).toNat : Int) = _
  rw [h]
  simp only [IntKind.wrap, IntKind.bits, IntKind.signed]
  simp
  omega
def InRel (s0 b : Nat) (v i : Value) : Prop := ∃ j : Nat, j ≤ 8 ∧ i = .int .i64 (7 - (j : Int)) ∧ v = .int .i64 (bitsU j s0 b : Nat)
theorem inRel {s0 b j z : Nat} (hj : j < 8) (h : bitsU (j + 1) s0 b = z) {i : Int} (hi : i = 6 - (j : Int)) : InRel s0 b (.int .i64 (z : Int)) (.int .i64 i) := ⟨j + 1, by omega, by subst hi; congr 1; push_cast; omega, by rw [h]⟩
set_option maxRecDepth 100000 in
set_option maxHeartbeats 4000000 in
theorem rsum_any (bs : List Nat) (w : World) (hb : ∀ x ∈ bs, x < 256) (hn : bs.length ≤ 100000) : Calls Try.prog 32 #[.string (strU bs)] w fun e w' => e = .returned (.int .i64 ((sumL 65535 bs : Nat) : Int)) ∧ w = w' := by
  have HBD := Lib.hid hb
  obtain ⟨n, HN⟩ : ∃ n, Hid (bs.length = n) := ⟨_, Lib.hid rfl⟩
  have hn' : n ≤ 100000 := by rw [← HN.out]; exact hn
  have HIX : Hid (∀ (i : Nat) (hi : i < bs.length) (W : World), (Instr.index 9 (.string (strU bs)) (.int .i64 (i : Int))).run Try.prog W = .ok (.int .u8 ((bs[i]'hi : Nat) : Int)) W) := Lib.hid (fun i hi W => idxS Try.underlying9 (by rw [List.getElem?_map, List.getElem?_eq_getElem hi]; rfl) (by omega) (by have := HBD.out _ (List.getElem_mem hi); omega) W)
  have hsz := strU_len bs
  rw [HN.out] at hsz
  obtain ⟨S, HS⟩ : ∃ S, Hid (strU bs = S) := ⟨_, Lib.hid rfl⟩
  rw [HS.out] at HIX hsz ⊢
  obtain ⟨s0, HS0⟩ : ∃ s0 : Nat, Hid (65535 = s0) := ⟨_, Lib.hid rfl⟩
  have hs0 : s0 < 65536 := by have := HS0.out; omega
  have he0 : (65535 : Int) = (s0 : Int) := by have := HS0.out; omega
  have HE0 := Lib.hid he0
  rw [HS0.out]
  clear hb hn he0
  go_enter Try.func32, Try.ntmps32
  go_wp2_with fail
  rw [HE0.out]
  go_loop [3, 4] (fun v i => ∃ k : Nat, k ≤ n ∧ i = .int .i64 k ∧ v = .int .i64 ((sumL s0 (bs.take k) : Nat) : Int)) (fun _ i => n - (intOf i).toNat)
  case atStart => exact ⟨0, by omega, rfl, rfl⟩
  case round =>
    obtain ⟨k, hk, rfl, rfl⟩ := hrel
    by_cases hlt : k < n
    · have hkb : k < bs.length := by rw [HN.out]; exact hlt
      have hix := HIX.out k hkb
      have hx := HBD.out _ (List.getElem_mem hkb)
      have HST : Hid (sumL s0 (bs.take (k + 1)) = SB (sumL s0 (bs.take k)) (bs[k]'hkb)) := Lib.hid (by
        rw [List.take_add_one, List.getElem?_eq_getElem hkb, Option.toList_some, sumL_app, sumL_cons]
        rfl)
      have hsl : sumL s0 (bs.take k) < 65536 := sumL_lt hs0 (fun x hx => HBD.out x (List.mem_of_mem_take hx))
      obtain ⟨x, HX⟩ : ∃ x, Hid (bs[k]'hkb = x) := ⟨_, Lib.hid rfl⟩
      obtain ⟨s, HSS⟩ : ∃ s, Hid (sumL s0 (bs.take k) = s) := ⟨_, Lib.hid rfl⟩
      rw [HX.out] at hx hix HST
      rw [HSS.out] at hsl HST ⊢
      rw [SB_bits hsl hx] at HST
      go_wp2_with fail
      go_loop [3, 5] (fun v i => InRel s x v i) (fun _ i => (intOf i + 1).toNat)
      case atStart => exact ⟨0, by omega, rfl, rfl⟩
      case round =>
        obtain ⟨j, hj, rfl, rfl⟩ := hrel
        by_cases hjl : j < 8
        · have hz := bitsU_lt (k := j) (b := x) hsl
          have HU : Hid (bitsU (j + 1) s x = bit1 (bitsU j s x) (x / 2 ^ (7 - j) % 2)) := Lib.hid rfl
          obtain ⟨z, HZ⟩ : ∃ z, Hid (bitsU j s x = z) := ⟨_, Lib.hid rfl⟩
          rw [HZ.out] at hz HU ⊢
          obtain ⟨zq, hzq⟩ : ∃ zq, z / 32768 = zq := ⟨_, rfl⟩
          obtain ⟨tv, htv⟩ : ∃ tv, x / 2 ^ (7 - j) % 2 = tv := ⟨_, rfl⟩
          obtain ⟨u, hu⟩ : ∃ u, 2 * z % 65536 = u := ⟨_, rfl⟩
          have hu6 : u < 65536 := by omega
          have hzi : (z : Int) / 32768 = (zq : Int) := by omega
          have hui : 2 * (z : Int) % 65536 = (u : Int) := by omega
          have hxo := i64_xorN u 4129 hu6 (by omega)
          obtain ⟨q, HQ⟩ : ∃ q, Hid (u ^^^ 4129 = q) := ⟨_, Lib.hid rfl⟩
          rw [HQ.out] at hxo
          have hxo' : Go.bits BinOp.xor IntKind.i64 (u : Int) 4129 = (q : Int) := hxo
          have HU2 : Hid (bitsU (j + 1) s x = if zq ≠ tv then q else u) := Lib.hid (by rw [HU.out]; unfold bit1; rw [hzq, htv, hu, HQ.out])
          clear hxo
          rcases (show j = 0 ∨ j = 1 ∨ j = 2 ∨ j = 3 ∨ j = 4 ∨ j = 5 ∨ j = 6 ∨ j = 7 by omega) with rfl | rfl | rfl | rfl | rfl | rfl | rfl | rfl
          · have hti : (x : Int) / 128 % 2 = (tv : Int) := by rw [← htv]; simp; try omega
            rw [show (7 : Int) - ((0 : Nat) : Int) = 7 from rfl]
            clear hu htv hzq
            by_cases ht : zq = tv
            · have HU3 : Hid (bitsU (0 + 1) s x = u) := Lib.hid (by rw [HU2.out, if_neg (by simpa using ht)])
              have hne : ((zq : Int) != (tv : Int)) = false := by simp; omega
              clear ht
              go_wp2
              go_round
              case rel => first | exact inRel (j := 0) (by omega) HU3.out rfl | (rw [hui]; exact inRel (j := 0) (by omega) HU3.out rfl)
              case measure => simp [intOf]
            · have HU3 : Hid (bitsU (0 + 1) s x = q) := Lib.hid (by rw [HU2.out, if_pos (by simpa using ht)])
              have hne : ((zq : Int) != (tv : Int)) = true := by simp; omega
              clear ht
              go_wp2
              go_round
              case rel => first | exact inRel (j := 0) (by omega) HU3.out rfl | (rw [hui]; exact inRel (j := 0) (by omega) HU3.out rfl)
              case measure => simp [intOf]
          · have hti : (x : Int) / 64 % 2 = (tv : Int) := by rw [← htv]; simp; try omega
            rw [show (7 : Int) - ((1 : Nat) : Int) = 6 from rfl]
            clear hu htv hzq
            by_cases ht : zq = tv
            · have HU3 : Hid (bitsU (1 + 1) s x = u) := Lib.hid (by rw [HU2.out, if_neg (by simpa using ht)])
              have hne : ((zq : Int) != (tv : Int)) = false := by simp; omega
              clear ht
              go_wp2
              go_round
              case rel => first | exact inRel (j := 1) (by omega) HU3.out rfl | (rw [hui]; exact inRel (j := 1) (by omega) HU3.out rfl)
              case measure => simp [intOf]
            · have HU3 : Hid (bitsU (1 + 1) s x = q) := Lib.hid (by rw [HU2.out, if_pos (by simpa using ht)])
              have hne : ((zq : Int) != (tv : Int)) = true := by simp; omega
              clear ht
              go_wp2
              go_round
              case rel => first | exact inRel (j := 1) (by omega) HU3.out rfl | (rw [hui]; exact inRel (j := 1) (by omega) HU3.out rfl)
              case measure => simp [intOf]
          · have hti : (x : Int) / 32 % 2 = (tv : Int) := by rw [← htv]; simp; try omega
            rw [show (7 : Int) - ((2 : Nat) : Int) = 5 from rfl]
            clear hu htv hzq
            by_cases ht : zq = tv
            · have HU3 : Hid (bitsU (2 + 1) s x = u) := Lib.hid (by rw [HU2.out, if_neg (by simpa using ht)])
              have hne : ((zq : Int) != (tv : Int)) = false := by simp; omega
              clear ht
              go_wp2
              go_round
              case rel => first | exact inRel (j := 2) (by omega) HU3.out rfl | (rw [hui]; exact inRel (j := 2) (by omega) HU3.out rfl)
              case measure => simp [intOf]
            · have HU3 : Hid (bitsU (2 + 1) s x = q) := Lib.hid (by rw [HU2.out, if_pos (by simpa using ht)])
              have hne : ((zq : Int) != (tv : Int)) = true := by simp; omega
              clear ht
              go_wp2
              go_round
              case rel => first | exact inRel (j := 2) (by omega) HU3.out rfl | (rw [hui]; exact inRel (j := 2) (by omega) HU3.out rfl)
              case measure => simp [intOf]
          · have hti : (x : Int) / 16 % 2 = (tv : Int) := by rw [← htv]; simp; try omega
            rw [show (7 : Int) - ((3 : Nat) : Int) = 4 from rfl]
            clear hu htv hzq
            by_cases ht : zq = tv
            · have HU3 : Hid (bitsU (3 + 1) s x = u) := Lib.hid (by rw [HU2.out, if_neg (by simpa using ht)])
              have hne : ((zq : Int) != (tv : Int)) = false := by simp; omega
              clear ht
              go_wp2
              go_round
              case rel => first | exact inRel (j := 3) (by omega) HU3.out rfl | (rw [hui]; exact inRel (j := 3) (by omega) HU3.out rfl)
              case measure => simp [intOf]
            · have HU3 : Hid (bitsU (3 + 1) s x = q) := Lib.hid (by rw [HU2.out, if_pos (by simpa using ht)])
              have hne : ((zq : Int) != (tv : Int)) = true := by simp; omega
              clear ht
              go_wp2
              go_round
              case rel => first | exact inRel (j := 3) (by omega) HU3.out rfl | (rw [hui]; exact inRel (j := 3) (by omega) HU3.out rfl)
              case measure => simp [intOf]
          · have hti : (x : Int) / 8 % 2 = (tv : Int) := by rw [← htv]; simp; try omega
            rw [show (7 : Int) - ((4 : Nat) : Int) = 3 from rfl]
            clear hu htv hzq
            by_cases ht : zq = tv
            · have HU3 : Hid (bitsU (4 + 1) s x = u) := Lib.hid (by rw [HU2.out, if_neg (by simpa using ht)])
              have hne : ((zq : Int) != (tv : Int)) = false := by simp; omega
              clear ht
              go_wp2
              go_round
              case rel => first | exact inRel (j := 4) (by omega) HU3.out rfl | (rw [hui]; exact inRel (j := 4) (by omega) HU3.out rfl)
              case measure => simp [intOf]
            · have HU3 : Hid (bitsU (4 + 1) s x = q) := Lib.hid (by rw [HU2.out, if_pos (by simpa using ht)])
              have hne : ((zq : Int) != (tv : Int)) = true := by simp; omega
              clear ht
              go_wp2
              go_round
              case rel => first | exact inRel (j := 4) (by omega) HU3.out rfl | (rw [hui]; exact inRel (j := 4) (by omega) HU3.out rfl)
              case measure => simp [intOf]
          · have hti : (x : Int) / 4 % 2 = (tv : Int) := by rw [← htv]; simp; try omega
            rw [show (7 : Int) - ((5 : Nat) : Int) = 2 from rfl]
            clear hu htv hzq
            by_cases ht : zq = tv
            · have HU3 : Hid (bitsU (5 + 1) s x = u) := Lib.hid (by rw [HU2.out, if_neg (by simpa using ht)])
              have hne : ((zq : Int) != (tv : Int)) = false := by simp; omega
              clear ht
              go_wp2
              go_round
              case rel => first | exact inRel (j := 5) (by omega) HU3.out rfl | (rw [hui]; exact inRel (j := 5) (by omega) HU3.out rfl)
              case measure => simp [intOf]
            · have HU3 : Hid (bitsU (5 + 1) s x = q) := Lib.hid (by rw [HU2.out, if_pos (by simpa using ht)])
              have hne : ((zq : Int) != (tv : Int)) = true := by simp; omega
              clear ht
              go_wp2
              go_round
              case rel => first | exact inRel (j := 5) (by omega) HU3.out rfl | (rw [hui]; exact inRel (j := 5) (by omega) HU3.out rfl)
              case measure => simp [intOf]
          · have hti : (x : Int) / 2 % 2 = (tv : Int) := by rw [← htv]; simp; try omega
            rw [show (7 : Int) - ((6 : Nat) : Int) = 1 from rfl]
            clear hu htv hzq
            by_cases ht : zq = tv
            · have HU3 : Hid (bitsU (6 + 1) s x = u) := Lib.hid (by rw [HU2.out, if_neg (by simpa using ht)])
              have hne : ((zq : Int) != (tv : Int)) = false := by simp; omega
              clear ht
              go_wp2
              go_round
              case rel => first | exact inRel (j := 6) (by omega) HU3.out rfl | (rw [hui]; exact inRel (j := 6) (by omega) HU3.out rfl)
              case measure => simp [intOf]
            · have HU3 : Hid (bitsU (6 + 1) s x = q) := Lib.hid (by rw [HU2.out, if_pos (by simpa using ht)])
              have hne : ((zq : Int) != (tv : Int)) = true := by simp; omega
              clear ht
              go_wp2
              go_round
              case rel => first | exact inRel (j := 6) (by omega) HU3.out rfl | (rw [hui]; exact inRel (j := 6) (by omega) HU3.out rfl)
              case measure => simp [intOf]
          · have hti : (x : Int) % 2 = (tv : Int) := by rw [← htv]; simp; try omega
            rw [show (7 : Int) - ((7 : Nat) : Int) = 0 from rfl]
            clear hu htv hzq
            by_cases ht : zq = tv
            · have HU3 : Hid (bitsU (7 + 1) s x = u) := Lib.hid (by rw [HU2.out, if_neg (by simpa using ht)])
              have hne : ((zq : Int) != (tv : Int)) = false := by simp; omega
              clear ht
              go_wp2
              go_round
              case rel => first | exact inRel (j := 7) (by omega) HU3.out rfl | (rw [hui]; exact inRel (j := 7) (by omega) HU3.out rfl)
              case measure => simp [intOf]
            · have HU3 : Hid (bitsU (7 + 1) s x = q) := Lib.hid (by rw [HU2.out, if_pos (by simpa using ht)])
              have hne : ((zq : Int) != (tv : Int)) = true := by simp; omega
              clear ht
              go_wp2
              go_round
              case rel => first | exact inRel (j := 7) (by omega) HU3.out rfl | (rw [hui]; exact inRel (j := 7) (by omega) HU3.out rfl)
              case measure => simp [intOf]
        · obtain rfl : j = 8 := by omega
          go_wp2
          go_round
          case rel => exact ⟨k + 1, by omega, by go_num, by rw [HST.out]⟩
          case measure => simp [intOf]; omega
    · obtain rfl : n = k := by omega
      rw [List.take_of_length_le (by rw [HN.out]; exact Nat.le_refl _)]
      go_wp2
      go_ret
      exact ⟨rfl, rfl⟩
end Go.Proofs.Ythnopcoahcdjjaa.Ly10
