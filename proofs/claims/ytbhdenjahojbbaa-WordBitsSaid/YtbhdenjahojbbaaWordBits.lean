/- Any words are the document's bits, and any bits its words, or none; and each bit, and how many there are, is as it says: for every words, bits and number; no condition. -/
import Derived.Deep.RegionWith
import Derived.Test.YtbhdenjahojbbaaWrdE
import Derived.Test.YtbhdenjahojbbaaPush
import Derived.Test.YtbhdenjahojbbaaSh
import Derived.Test.YtbhdenjahojbbaaStr
import Derived.Test.YtbhdenjahojbbaaHeadR
import Derived.Test.YtbhdenjahojbbaaRows
import Derived.WalkKit
import Derived.ProofKit
import Derived.OpenShut
import Derived.ShutString
import Derived.ChangeOld
import Derived.Below
namespace Go.Proofs.Ytbhdenjahojbbaa.lawWordBits
open Go.ChangeShapes Go.WideShapes Go.ChangeAt Go.RowKit Base
open Go.ChangeMaps (open_string shut_string)
set_option linter.unusedVariables false
set_option linter.unusedSimpArgs false
theorem own : ownKnob Try.prog.godebug = none := by kernel_rfl
theorem laidOut : laidOutB Try.prog = true := by kernel_rfl
open Ly2

theorem odd_succ (k : Nat) : ((k + 1) % 2 == 1) = !(k % 2 == 1) := by
  rcases Nat.mod_two_eq_zero_or_one k with h | h
  · have h2 : (k + 1) % 2 = 1 := by omega
    rw [h, h2]; rfl
  · have h2 : (k + 1) % 2 = 0 := by omega
    rw [h, h2]; rfl
theorem par_count (l : List Bool) : par l = (l.count true % 2 == 1) := by
  have key : ∀ (l : List Bool) (a : Bool), l.foldl (fun a b => a != b) a = (a != (l.count true % 2 == 1)) := by
    intro l
    induction l with
    | nil => intro a; cases a <;> rfl
    | cons b r ih =>
      intro a
      rw [List.foldl_cons, ih]
      cases b
      · rw [List.count_cons_of_ne (by simp)]
        cases a <;> rfl
      · rw [List.count_cons_self, odd_succ]
        generalize (r.count true % 2 == 1) = z
        cases a <;> cases z <;> rfl
  have := key l false
  unfold par
  rw [this]
  cases (l.count true % 2 == 1) <;> rfl
theorem par_odd {l : List Bool} {p : Bool} (h : par l = p) : (((l.count true : Nat) : Int) % 2 == 1) = p := by
  rw [← h, par_count]
  rcases Nat.mod_two_eq_zero_or_one (l.count true) with e | e
  · rw [e]; have : ((l.count true : Nat) : Int) % 2 = 0 := by omega
    rw [this]; rfl
  · rw [e]; have : ((l.count true : Nat) : Int) % 2 = 1 := by omega
    rw [this]; rfl
theorem bits_d (A : Option Addr) (n c : Nat) (vs : List Nat) (w : World) (h : Lst w A n (vs.map fun (x : Nat) => Value.int .u8 x)) (hx : ∀ x ∈ vs, x < 256) (hn : n ≤ 1000000) :
    Calls Try.prog 24 #[.slice A n c] w fun e w' => ∃ B d, e = .returned (.slice B (8 * n) d) ∧ Hid (Lst w' B (8 * n) ((bitsOf vs).map Value.bool)) ∧ Hid (Below w.heap.size w w') := by
  refine (bits_any A n c vs w h hx hn).mono ?_
  rintro e w' ⟨v, rfl, hown, hb⟩
  obtain ⟨A', c', rfl, _, _, hl⟩ := Lst.of_own hown
  exact ⟨_, _, rfl, Lib.hid hl, Lib.hid hb⟩
theorem refbits_d (A : Option Addr) (n c : Nat) (vs : List Nat) (w : World) (h : Lst w A n (vs.map fun (x : Nat) => Value.int .u8 x)) (hx : ∀ x ∈ vs, x < 256) (hn : n ≤ 100000) :
    Calls Try.prog 21 #[.slice A n c] w fun e w' => ∃ B d, e = .returned (.slice B (8 * n) d) ∧ Hid (Lst w' B (8 * n) ((bitsOf vs).map Value.bool)) ∧ Hid (Below w.heap.size w w') := by
  refine (refbits_any A n c vs w h hx hn).mono ?_
  rintro e w' ⟨v, rfl, hown, hb⟩
  obtain ⟨A', c', rfl, _, _, hl⟩ := Lst.of_own hown
  exact ⟨_, _, rfl, Lib.hid hl, Lib.hid hb⟩
theorem refwords_d (A : Option Addr) (N m c : Nat) (bs : List Bool) (w : World) (hN : 8 * m = N) (h : Lst w A N (bs.map Value.bool)) (hn : m ≤ 100000) :
    Calls Try.prog 25 #[.slice A N c] w fun e w' => ∃ B d, e = .returned (.slice B m d) ∧ Hid (Lst w' B m ((wordsOf bs m).map fun (x : Nat) => Value.int .u8 x)) ∧ Hid (Below w.heap.size w w') := by
  subst hN
  refine (refwords_any A m c bs w h hn).mono ?_
  rintro e w' ⟨v, rfl, hown, hb⟩
  obtain ⟨A', c', rfl, _, _, hl⟩ := Lst.of_own hown
  exact ⟨_, _, rfl, Lib.hid hl, Lib.hid hb⟩
theorem words_d (A : Option Addr) (N m c : Nat) (bs : List Bool) (w : World) (hN : 8 * m = N) (h : Lst w A N (bs.map Value.bool)) (hn : m ≤ 100000) :
    Calls Try.prog 22 #[.slice A N c] w fun e w' => ∃ B, e = .returned (.tuple #[.slice B m m, .bool true]) ∧ Hid (Lst w' B m ((wordsOf bs m).map fun (x : Nat) => Value.int .u8 x)) ∧ Hid (Below w.heap.size w w') := by
  subst hN
  refine (words_any A m c bs w h hn).mono ?_
  rintro e w' ⟨rfl, hob, hb⟩
  refine ⟨_, rfl, Lib.hid ⟨by simp [wordsOf], fun _ => ⟨_, 0, rfl, hob.out.lt, fun k hk => ?_⟩⟩, Lib.hid hb⟩
  rw [Nat.zero_add, hob.out.cell, List.getElem?_toArray]
theorem convN {w : World} {A : Option Addr} {n c : Nat} {ns : List Nat} {S : ByteArray} (h : Lst w A n (ns.map fun (x : Nat) => Value.int .u8 x)) (hS : strB (ns.map fun (x : Nat) => (x : Int)) = S) : (convert 37 9 (.slice A n c)).run Try.prog w = .ok (.string S) w := by
  subst hS
  refine convB ?_
  rw [List.map_map]
  exact h
/-- What is known of the number: it is one of a bit, or none. -/
inductive Num (vs : List Nat) (n : Nat) (N : Int) : Bool → Int → Prop
  | low (h : N < 0) : Num vs n N false 0
  | zer (hN : N = 0) (hk : 0 < 8 * n) (u : Bool) (hu : (bitsOf vs)[0]? = some u) : Num vs n N u 0
  | bit (k : Nat) (hN : N = k) (hk0 : 0 < k) (hk : k < 8 * n) (u : Bool) (hu : (bitsOf vs)[k]? = some u) : Num vs n N u (8 * N)
  | mid (h : 8 * (n : Int) ≤ N) (h1 : N ≤ 1099511627776) : Num vs n N false (8 * N)
  | far (h : 1099511627776 < N) : Num vs n N false 0
theorem num_of (vs : List Nat) (n : Nat) (N : Int) (h : vs.length = n) (hn : n ≤ 200) : ∃ b r, Num vs n N b r := by
  by_cases h0 : N < 0
  · exact ⟨_, _, .low h0⟩
  by_cases h1 : N < 8 * (n : Int)
  · obtain ⟨k, rfl⟩ : ∃ k : Nat, N = (k : Int) := ⟨N.toNat, by omega⟩
    have hl : k < (bitsOf vs).length := by rw [bitsOf_len, h]; omega
    by_cases hk : k = 0
    · subst hk
      exact ⟨_, _, .zer rfl (by omega) _ (List.getElem?_eq_getElem hl)⟩
    · exact ⟨_, _, .bit k rfl (by omega) (by omega) _ (List.getElem?_eq_getElem hl)⟩
  by_cases h2 : N ≤ 1099511627776
  · exact ⟨_, _, .mid (by omega) h2⟩
  · exact ⟨_, _, .far (by omega)⟩
theorem words_o (B : Option Addr) (l d : Nat) (w : World) (h8 : l % 8 ≠ 0) (hn : l ≤ 9223372036854775807) : Calls Try.prog 22 #[.slice B l d] w fun e w' => e = .returned (.tuple #[.slice none 0 0, .bool false]) ∧ Hid (Below w.heap.size w w') :=
  (words_odd B l d w h8 hn).mono fun _ _ ⟨a, b⟩ => ⟨a, Lib.hid (b ▸ Below.refl _ _)⟩
set_option maxRecDepth 100000 in
set_option maxHeartbeats 1000000 in
theorem walk_odd (A B : Option Addr) (n c l d : Nat) (vs : List Nat) (bs : List Bool) (N r : Int) (b : Bool) (w : World) (hn : n ≤ 200) (hl : l ≤ 2000) (hm : l % 8 ≠ 0) (ha : Lst w A n (vs.map fun (x : Nat) => Value.int .u8 x)) (hb : Lst w B l (bs.map Value.bool)) (hx : ∀ x ∈ vs, x < 256)
    (n0 : -9223372036854775808 ≤ N) (n1 : N ≤ 9223372036854775807) (hN : Num vs n N b r) :
    Calls Try.prog 7 #[.slice A n c, .slice B l d, .int .i64 N] w fun e w' => e = .returned (.bool true) ∧ Below w.heap.size w w' := by
  have HA := Lib.hid ha
  have HB := Lib.hid hb
  have HX := Lib.hid hx
  have HN := Lib.hid hN
  have HBL := Lib.hid (show (bitsOf vs).length = 8 * n by rw [bitsOf_len]; have := ha.1; simp at this; omega)
  obtain ⟨z, hz⟩ : ∃ z : Int, (l : Int) % 8 = z := ⟨_, rfl⟩
  have hz0 : (z == 0) = false := by simp; omega
  have htm : (l : Int).tmod 8 = z := by rw [Int.tmod_eq_emod_of_nonneg (by omega)]; exact hz
  have HM := Lib.hid hm
  have hl63 : l ≤ 9223372036854775807 := by omega
  clear ha hb hx hN hm
  go_enter Try.func7, Try.ntmps7
  go_wp2_with fail
  refine (refbits_d A n c vs w HA.out HX.out (by omega)).mono ?_
  rintro e w1 ⟨P, p1, rfl, HL1, HB1⟩
  go_wp2_with fail
  refine (words_o B l d w1 HM.out hl63).mono ?_
  rintro e w2 ⟨rfl, HB2⟩
  have HE2 := Lib.hid (HB1.out.trans (HB2.out.mono HB1.out.size))
  have HP2 := Lib.hid (HL1.out.kept HB2.out)
  have HA2 := Lib.hid (HA.out.kept HE2.out)
  have HV2 := Lib.hid (HB.out.kept HE2.out)
  go_wp2_with fail
  refine wp_region_any (by kernel_rfl) ?_
  change wpAny _ _ _ _ _ _ _ (World.drew _)
  refine wpAny_take (i := 0) (v := .slice A n c) rfl (by kernel_rfl) (by kernel_rfl) (by kernel_rfl) (fun _ _ _ h => h) (Or.inl ⟨by rfl, fun w => by go_simp⟩) ?_
  refine wpAny_take (i := 2) (v := .slice P (8 * n) p1) rfl (by kernel_rfl) (by kernel_rfl) (by kernel_rfl) (fun _ _ _ h => h) (Or.inl ⟨by rfl, fun w => by go_simp⟩) ?_
  refine wpAny_ready (rs := [1]) (by kernel_rfl) (by simp) ?_
  refine AllReady.cons rfl (fun K hK => ?_) AllReady.nil
  go_simp
  refine (bits_d A n c vs _ HA2.out.drew HX.out (by omega)).mono ?_
  rintro e wa ⟨R, q, rfl, HLa, HBa⟩
  refine hK _ _ ?_
  clear hK K
  have HBO : Hid (∀ x : Kin wa, Calls Try.prog 23 #[.slice R (8 * n) q, .slice P (8 * n) p1] x.world fun e w' => e = .returned (.int .i64 1) ∧ Below x.world.heap.size x.world w') :=
    Lib.hid (fun x => bools_same R P (8 * n) q p1 (bitsOf vs) x.world (HLa.out.kept x.below) ((HP2.out.drew.kept HBa.out).kept x.below) (by omega))
  have HE3 := Lib.hid (HE2.out.drew.trans (HBa.out.mono HE2.out.drew.size))
  have HP3 := Lib.hid (HP2.out.drew.kept HBa.out)
  have HA3 := Lib.hid (HA2.out.drew.kept HBa.out)
  refine wpAny_lex_kin 3 (by kernel_rfl) rfl (by kernel_rfl) ?_
  try simp only [List.drop_succ_cons, List.drop_zero]
  try simp only [Act.put, List.getElem_toArray, List.getElem_cons_succ, List.getElem_cons_zero, List.setIfInBounds_toArray, List.set_cons_zero, List.set_cons_succ]
  repeat (go_big_quiet_step ((go_at_call 23; exact Calls.kin _ (HBO.out _))))
  refine wpQuiet_nil ?_
  intro _ hw'
  obtain ⟨kx, hw''⟩ := hw'
  subst hw''
  have HEk := Lib.hid (HE3.out.trans (kx.below.mono HE3.out.size))
  have LP := Lib.hid (HP3.out.kept kx.below)
  have LA := Lib.hid (HA3.out.kept kx.below)
  generalize kx.world = W0 at HEk LP LA ⊢
  have HPB : Hid (∀ k, (h : k < 8 * n) → (bitsOf vs)[k]? = some ((bitsOf vs)[k]'(by rw [HBL.out]; exact h))) := Lib.hid (fun k h => List.getElem?_eq_getElem _)
  obtain ⟨pv, HPV⟩ : ∃ p, Hid (par (bitsOf vs) = p) := ⟨_, Lib.hid rfl⟩
  rcases HN.out with h | ⟨hNk, hk, u, hu⟩ | ⟨k, hNk, hk0, hk, u, hu⟩ | ⟨h, h1⟩ | h
  case' low =>
    have hcall := bit_out A n c N W0 (by omega) n0 n1 (.inl h)
    have HLG := Lib.hid (fun W => long_any N W 0 (.inl ⟨.inl h, rfl⟩))
  case' zer =>
    subst hNk
    have hcall : Calls Try.prog 26 #[.slice A n c, .int .i64 0] W0 fun e w' => e = .returned (.tuple #[.bool b, .bool true]) ∧ Below W0.heap.size W0 w' := bit_in A n c vs 0 b W0 LA.out HX.out (by omega) hk hu
    have HLG := Lib.hid (fun W => long_any 0 W 0 (.inr ⟨by omega, by omega, by omega⟩))
    obtain ⟨b3, off3, hP3, hb3, hc3⟩ := LP.out.get hk
    rw [List.getElem_map, show (bitsOf vs)[0]'(by rw [HBL.out]; exact hk) = b from (List.getElem?_eq_some_iff.1 hu).2] at hc3
    have HP3 := Lib.hid hP3
    have HC3 := Lib.hid hc3
    clear hP3 hc3
  case' bit =>
    subst hNk
    have hcall := bit_in A n c vs k b W0 LA.out HX.out (by omega) hk hu
    have HLG := Lib.hid (fun W => long_any (k : Int) W (8 * (k : Int)) (.inr ⟨by omega, by omega, by omega⟩))
    have hk0' : (0 : Int) < (k : Int) := by omega
    obtain ⟨b3, off3, hP3, hb3, hc3⟩ := LP.out.get hk
    rw [List.getElem_map, show (bitsOf vs)[k]'(by rw [HBL.out]; exact hk) = b from (List.getElem?_eq_some_iff.1 hu).2] at hc3
    have HP3 := Lib.hid hP3
    have HC3 := Lib.hid hc3
    clear hP3 hc3
  case' mid =>
    have hcall := bit_out A n c N W0 (by omega) n0 n1 (.inr (by omega))
    have HLG := Lib.hid (fun W => long_any N W (8 * N) (.inr ⟨by omega, by omega, by omega⟩))
  case' far =>
    have hcall := bit_out A n c N W0 (by omega) n0 n1 (.inr (by omega))
    have HLG := Lib.hid (fun W => long_any N W 0 (.inl ⟨.inr h, rfl⟩))
  all_goals
    have HCALL := Lib.hid hcall
    clear hcall
    go_wp2_with fail
    refine HCALL.out.mono ?_
    rintro e w5 ⟨rfl, hb5⟩
    have HE5 := Lib.hid (HEk.out.trans (hb5.mono HEk.out.size))
    have LP5 := Lib.hid (LP.out.kept hb5)
    have LA5 := Lib.hid (LA.out.kept hb5)
    have HE5b := Lib.hid hb5
    clear hb5
    go_wp2_with fail
    go_loop [14, 15] (fun o i => ∃ k : Nat, k ≤ 8 * n ∧ i = .int .i64 k ∧ o = .int .i64 ((((bitsOf vs).take k).count true : Nat) : Int)) (fun _ i => 8 * n - (intOf i).toNat)
    case atStart => exact ⟨0, by omega, rfl, by simp⟩
    case round =>
      obtain ⟨i, hi, rfl, rfl⟩ := hrel
      by_cases hlt : i < 8 * n
      · obtain ⟨b2, off2, hP, _, hc⟩ := LP5.out.get hlt
        rw [List.getElem_map] at hc
        have hcnt : Hid (∀ q : Bool, (bitsOf vs)[i]'(by rw [HBL.out]; exact hlt) = q → ((bitsOf vs).take (i + 1)).count true = ((bitsOf vs).take i).count true + (if q = true then 1 else 0)) := Lib.hid (fun q hq => by
          rw [List.take_add_one, HPB.out i hlt, hq, Option.toList_some, List.count_append, List.count_singleton]
          cases q <;> rfl)
        obtain ⟨q, HQ⟩ : ∃ q, Hid ((bitsOf vs)[i]'(by rw [HBL.out]; exact hlt) = q) := ⟨_, Lib.hid rfl⟩
        have hbd : ((bitsOf vs).take i).count true ≤ i := Nat.le_trans (List.count_le_length) (by simp; omega)
        have HC := Lib.hid (hcnt.out q HQ.out)
        rw [HQ.out] at hc
        obtain ⟨y, HY⟩ : ∃ y : Nat, Hid (((bitsOf vs).take i).count true = y) := ⟨_, Lib.hid rfl⟩
        rw [HY.out] at hbd HC ⊢
        subst hP
        cases q
        · go_wp2
          go_round
          case rel => exact ⟨i + 1, by omega, by go_num, by rw [HC.out]; simp⟩
          case measure => simp [intOf]; omega
        · go_wp2
          go_round
          case rel => exact ⟨i + 1, by omega, by go_num, by rw [HC.out]; simp⟩
          case measure => simp [intOf]; omega
      · obtain rfl : i = 8 * n := by omega
        rw [List.take_of_length_le (by rw [HBL.out]; exact Nat.le_refl _)]
        have hodd := par_odd HPV.out
        have hyb : (bitsOf vs).count true ≤ 8 * n := Nat.le_trans (List.count_le_length) (by rw [HBL.out]; exact Nat.le_refl _)
        obtain ⟨y, HY⟩ : ∃ y : Nat, Hid ((bitsOf vs).count true = y) := ⟨_, Lib.hid rfl⟩
        rw [HY.out] at hodd hyb ⊢
        have HPA : Hid (∀ x : Kin w5, Calls Try.prog 28 #[.slice A n c] x.world fun e w' => e = .returned (.bool pv) ∧ Below x.world.heap.size x.world w') := Lib.hid (fun x => by
          rw [← HPV.out]; exact parity_any A n c vs x.world (LA5.out.kept x.below) HX.out (by omega))
        try (
          have hP3 := HP3.out
          subst hP3
          first
          | have k113 : w5.cell? ⟨b3, off3 + k, none⟩ = some (.bool b) := (HE5b.out.cell (p := ⟨b3, off3 + k, none⟩) hb3).trans HC3.out
          | have k113 : w5.cell? ⟨b3, off3, none⟩ = some (.bool b) := (HE5b.out.cell (p := ⟨b3, off3, none⟩) hb3).trans HC3.out)
        go_wp2_with fail
        refine (HLG.out _).mono ?_
        rintro e w6 ⟨rfl, rfl⟩
        go_wp2_with fail
        refine (HPA.out (Kin.me _)).mono ?_
        rintro e w6 ⟨rfl, hb6⟩
        go_wp2_with fail
        refine (one_any _).mono ?_
        rintro e w7 ⟨rfl, hb7⟩
        go_wp2
        go_ret
        have h6 := HE5.out.trans (hb6.mono HE5.out.size)
        exact ⟨rfl, h6.trans (hb7.mono h6.size)⟩
set_option maxRecDepth 100000 in
set_option maxHeartbeats 4000000 in
theorem walk_even (A B : Option Addr) (n c m l d : Nat) (vs : List Nat) (bs : List Bool) (N r : Int) (b : Bool) (w : World) (hn : n ≤ 200) (hl : l ≤ 2000) (hm : 8 * m = l) (ha : Lst w A n (vs.map fun (x : Nat) => Value.int .u8 x)) (hb : Lst w B l (bs.map Value.bool)) (hx : ∀ x ∈ vs, x < 256)
    (n0 : -9223372036854775808 ≤ N) (n1 : N ≤ 9223372036854775807) (hN : Num vs n N b r) :
    Calls Try.prog 7 #[.slice A n c, .slice B l d, .int .i64 N] w fun e w' => e = .returned (.bool true) ∧ Below w.heap.size w w' := by
  have HA := Lib.hid ha
  have HB := Lib.hid hb
  have HX := Lib.hid hx
  have HN := Lib.hid hN
  have HBL := Lib.hid (show (bitsOf vs).length = 8 * n by rw [bitsOf_len]; have := ha.1; simp at this; omega)
  obtain ⟨S, HS⟩ : ∃ S, Hid (strB ((wordsOf bs m).map fun (x : Nat) => (x : Int)) = S) := ⟨_, Lib.hid rfl⟩
  have hmm : m ≤ 250 := by omega
  have hrem : (l : Int) % 8 = 0 := by omega
  have htm : (l : Int).tmod 8 = 0 := by rw [Int.tmod_eq_emod_of_nonneg (by omega)]; exact hrem
  have HM := Lib.hid hm
  clear ha hb hx hN hm
  go_enter Try.func7, Try.ntmps7
  go_wp2_with fail
  refine (refbits_d A n c vs w HA.out HX.out (by omega)).mono ?_
  rintro e w1 ⟨P, p1, rfl, HL1, HB1⟩
  go_wp2_with fail
  refine (words_d B l m d bs w1 HM.out (HB.out.kept HB1.out) (by omega)).mono ?_
  rintro e w2 ⟨Q, rfl, HL2, HB2⟩
  have HE2 := Lib.hid (HB1.out.trans (HB2.out.mono HB1.out.size))
  have HP2 := Lib.hid (HL1.out.kept HB2.out)
  have HA2 := Lib.hid (HA.out.kept HE2.out)
  have HV2 := Lib.hid (HB.out.kept HE2.out)
  go_wp2_with fail
  refine wp_region_any (by kernel_rfl) ?_
  change wpAny _ _ _ _ _ _ _ (World.drew _)
  refine wpAny_take (i := 0) (v := .slice A n c) rfl (by kernel_rfl) (by kernel_rfl) (by kernel_rfl) (fun _ _ _ h => h) (Or.inl ⟨by rfl, fun w => by go_simp⟩) ?_
  refine wpAny_take (i := 2) (v := .slice P (8 * n) p1) rfl (by kernel_rfl) (by kernel_rfl) (by kernel_rfl) (fun _ _ _ h => h) (Or.inl ⟨by rfl, fun w => by go_simp⟩) ?_
  refine wpAny_ready (rs := [1]) (by kernel_rfl) (by simp) ?_
  refine AllReady.cons rfl (fun K hK => ?_) AllReady.nil
  go_simp
  refine (bits_d A n c vs _ HA2.out.drew HX.out (by omega)).mono ?_
  rintro e wa ⟨R, q, rfl, HLa, HBa⟩
  refine hK _ _ ?_
  clear hK K
  refine wpAny_ready (rs := [3]) (by kernel_rfl) (by simp) ?_
  refine AllReady.cons rfl (fun K hK => ?_) AllReady.nil
  go_simp
  refine (bools_same R P (8 * n) q p1 (bitsOf vs) wa HLa.out (HP2.out.drew.kept HBa.out) (by omega)).mono ?_
  rintro e wb ⟨rfl, hbb⟩
  refine hK _ _ ?_
  clear hK K
  try simp only [Act.put, List.getElem_toArray, List.getElem_cons_succ, List.getElem_cons_zero, List.setIfInBounds_toArray, List.set_cons_zero, List.set_cons_succ]
  refine wpAny_take (i := 4) (v := .bool false) rfl (by kernel_rfl) (by kernel_rfl) (by kernel_rfl) (fun _ _ _ h => h) (Or.inl ⟨by rfl, fun w => by go_simp⟩) ?_
  try simp only [Act.put, List.getElem_toArray, List.getElem_cons_succ, List.getElem_cons_zero, List.setIfInBounds_toArray, List.set_cons_zero, List.set_cons_succ]
  refine wpAny_take (i := 5) (v := .bool false) rfl (by kernel_rfl) (by kernel_rfl) (by kernel_rfl) (fun _ _ _ h => h) (Or.inl ⟨by rfl, fun w => by go_simp⟩) ?_
  try simp only [Act.put, List.getElem_toArray, List.getElem_cons_succ, List.getElem_cons_zero, List.setIfInBounds_toArray, List.set_cons_zero, List.set_cons_succ]
  refine wpAny_take (i := 6) (v := .bool true) rfl (by kernel_rfl) (by kernel_rfl) (by kernel_rfl) (fun _ _ _ h => h) (Or.inl ⟨by rfl, fun w => by go_simp⟩) ?_
  try simp only [Act.put, List.getElem_toArray, List.getElem_cons_succ, List.getElem_cons_zero, List.setIfInBounds_toArray, List.set_cons_zero, List.set_cons_succ]
  refine wpAny_take (i := 7) (v := .slice B l d) rfl (by kernel_rfl) (by kernel_rfl) (by kernel_rfl) (fun _ _ _ h => h) (Or.inl ⟨by rfl, fun w => by go_simp⟩) ?_
  try simp only [Act.put, List.getElem_toArray, List.getElem_cons_succ, List.getElem_cons_zero, List.setIfInBounds_toArray, List.set_cons_zero, List.set_cons_succ]
  refine wpAny_take (i := 8) (v := .int .i64 l) rfl (by kernel_rfl) (by kernel_rfl) (by kernel_rfl) (fun _ _ _ h => h) (Or.inl ⟨by rfl, fun w => by go_simp⟩) ?_
  try simp only [Act.put, List.getElem_toArray, List.getElem_cons_succ, List.getElem_cons_zero, List.setIfInBounds_toArray, List.set_cons_zero, List.set_cons_succ]
  refine wpAny_take (i := 9) (v := .int .i64 0) rfl (by kernel_rfl) (by kernel_rfl) (by kernel_rfl) (fun _ _ _ h => h) (Or.inl ⟨by rfl, fun w => by go_simp⟩) ?_
  try simp only [Act.put, List.getElem_toArray, List.getElem_cons_succ, List.getElem_cons_zero, List.setIfInBounds_toArray, List.set_cons_zero, List.set_cons_succ]
  refine wpAny_take (i := 10) (v := .bool true) rfl (by kernel_rfl) (by kernel_rfl) (by kernel_rfl) (fun _ _ _ h => h) (Or.inl ⟨by rfl, fun w => by go_simp⟩) ?_
  try simp only [Act.put, List.getElem_toArray, List.getElem_cons_succ, List.getElem_cons_zero, List.setIfInBounds_toArray, List.set_cons_zero, List.set_cons_succ]
  refine wpAny_take (i := 11) (v := .bool false) rfl (by kernel_rfl) (by kernel_rfl) (by kernel_rfl) (fun _ _ _ h => h) (Or.inl ⟨by rfl, fun w => by go_simp⟩) ?_
  try simp only [Act.put, List.getElem_toArray, List.getElem_cons_succ, List.getElem_cons_zero, List.setIfInBounds_toArray, List.set_cons_zero, List.set_cons_succ]
  refine wpAny_take (i := 12) (v := .bool false) rfl (by kernel_rfl) (by kernel_rfl) (by kernel_rfl) (fun _ _ _ h => h) (Or.inl ⟨by rfl, fun w => by go_simp⟩) ?_
  try simp only [Act.put, List.getElem_toArray, List.getElem_cons_succ, List.getElem_cons_zero, List.setIfInBounds_toArray, List.set_cons_zero, List.set_cons_succ]
  refine wpAny_take (i := 13) (v := .bool false) rfl (by kernel_rfl) (by kernel_rfl) (by kernel_rfl) (fun _ _ _ h => h) (Or.inl ⟨by rfl, fun w => by go_simp⟩) ?_
  try simp only [Act.put, List.getElem_toArray, List.getElem_cons_succ, List.getElem_cons_zero, List.setIfInBounds_toArray, List.set_cons_zero, List.set_cons_succ]
  refine wpAny_take (i := 14) (v := .bool true) rfl (by kernel_rfl) (by kernel_rfl) (by kernel_rfl) (fun _ _ _ h => h) (Or.inl ⟨by rfl, fun w => by go_simp⟩) ?_
  try simp only [Act.put, List.getElem_toArray, List.getElem_cons_succ, List.getElem_cons_zero, List.setIfInBounds_toArray, List.set_cons_zero, List.set_cons_succ]
  refine wpAny_take (i := 15) (v := .bool true) rfl (by kernel_rfl) (by kernel_rfl) (by kernel_rfl) (fun _ _ _ h => h) (Or.inl ⟨by rfl, fun w => by go_simp⟩) ?_
  try simp only [Act.put, List.getElem_toArray, List.getElem_cons_succ, List.getElem_cons_zero, List.setIfInBounds_toArray, List.set_cons_zero, List.set_cons_succ]
  refine wpAny_take (i := 16) (v := .slice Q m m) rfl (by kernel_rfl) (by kernel_rfl) (by kernel_rfl) (fun _ _ _ h => h) (Or.inl ⟨by rfl, fun w => by go_simp⟩) ?_
  try simp only [Act.put, List.getElem_toArray, List.getElem_cons_succ, List.getElem_cons_zero, List.setIfInBounds_toArray, List.set_cons_zero, List.set_cons_succ]
  refine wpAny_take (i := 18) (v := .slice B l d) rfl (by kernel_rfl) (by kernel_rfl) (by kernel_rfl) (fun _ _ _ h => h) (Or.inl ⟨by rfl, fun w => by go_simp⟩) ?_
  try simp only [Act.put, List.getElem_toArray, List.getElem_cons_succ, List.getElem_cons_zero, List.setIfInBounds_toArray, List.set_cons_zero, List.set_cons_succ]
  have HE3 := Lib.hid ((HE2.out.drew.trans (HBa.out.mono HE2.out.drew.size)).trans (hbb.mono (HE2.out.drew.trans (HBa.out.mono HE2.out.drew.size)).size))
  have HP3 := Lib.hid ((HP2.out.drew.kept HBa.out).kept hbb)
  have HA3 := Lib.hid ((HA2.out.drew.kept HBa.out).kept hbb)
  have HV3 := Lib.hid ((HV2.out.drew.kept HBa.out).kept hbb)
  have HQ3 := Lib.hid ((HL2.out.drew.kept HBa.out).kept hbb)
  refine wpAny_ready (rs := [17, 19]) (by kernel_rfl) (by simp) ?_
  refine AllReady.cons rfl (fun K hK => ?_) (AllReady.cons rfl (fun K hK => ?_) AllReady.nil)
  · have C48 := convN (c := m) HQ3.out HS.out
    go_simp
    refine hK _ _ ?_
    clear hK K C48
    try simp only [Act.put, List.getElem_toArray, List.getElem_cons_succ, List.getElem_cons_zero, List.setIfInBounds_toArray, List.set_cons_zero, List.set_cons_succ]
    refine wpAny_ready (rs := [19]) (by kernel_rfl) (by simp) ?_
    refine AllReady.cons rfl (fun K hK => ?_) AllReady.nil
    go_simp
    refine (refwords_d B l m d bs wb HM.out HV3.out (by omega)).mono ?_
    rintro e wc ⟨U, u1, rfl, HLc, HBc⟩
    have HE4 := Lib.hid (HE3.out.trans (HBc.out.mono HE3.out.size))
    have HP4 := Lib.hid (HP3.out.kept HBc.out)
    have HA4 := Lib.hid (HA3.out.kept HBc.out)
    refine hK _ _ ?_
    clear hK K
    have C51 : ∀ x : Kin wc, (convert 37 9 (.slice U m u1)).run Try.prog x.world = .ok (.string S) x.world := fun x => convN (HLc.out.kept x.below) HS.out
    refine wpAny_lex_kin 20 (by kernel_rfl) rfl (by kernel_rfl) ?_
    try simp only [List.drop_succ_cons, List.drop_zero]
    try simp only [Act.put, List.getElem_toArray, List.getElem_cons_succ, List.getElem_cons_zero, List.setIfInBounds_toArray, List.set_cons_zero, List.set_cons_succ]
    repeat (go_big_quiet_step (fail))
    refine wpQuiet_nil ?_
    intro _ hw'
    obtain ⟨kx, hw''⟩ := hw'
    subst hw''
    have HEk := Lib.hid (HE4.out.trans (kx.below.mono HE4.out.size))
    have LP := Lib.hid (HP4.out.kept kx.below)
    have LA := Lib.hid (HA4.out.kept kx.below)
    generalize kx.world = W0 at HEk LP LA ⊢
    have HPB : Hid (∀ k, (h : k < 8 * n) → (bitsOf vs)[k]? = some ((bitsOf vs)[k]'(by rw [HBL.out]; exact h))) := Lib.hid (fun k h => List.getElem?_eq_getElem _)
    obtain ⟨pv, HPV⟩ : ∃ p, Hid (par (bitsOf vs) = p) := ⟨_, Lib.hid rfl⟩
    rcases HN.out with h | ⟨hNk, hk, u, hu⟩ | ⟨k, hNk, hk0, hk, u, hu⟩ | ⟨h, h1⟩ | h
    case' low =>
      have hcall := bit_out A n c N W0 (by omega) n0 n1 (.inl h)
      have HLG := Lib.hid (fun W => long_any N W 0 (.inl ⟨.inl h, rfl⟩))
    case' zer =>
      subst hNk
      have hcall : Calls Try.prog 26 #[.slice A n c, .int .i64 0] W0 fun e w' => e = .returned (.tuple #[.bool b, .bool true]) ∧ Below W0.heap.size W0 w' := bit_in A n c vs 0 b W0 LA.out HX.out (by omega) hk hu
      have HLG := Lib.hid (fun W => long_any 0 W 0 (.inr ⟨by omega, by omega, by omega⟩))
      obtain ⟨b3, off3, hP3, hb3, hc3⟩ := LP.out.get hk
      rw [List.getElem_map, show (bitsOf vs)[0]'(by rw [HBL.out]; exact hk) = b from (List.getElem?_eq_some_iff.1 hu).2] at hc3
      have HP3 := Lib.hid hP3
      have HC3 := Lib.hid hc3
      clear hP3 hc3
    case' bit =>
      subst hNk
      have hcall := bit_in A n c vs k b W0 LA.out HX.out (by omega) hk hu
      have HLG := Lib.hid (fun W => long_any (k : Int) W (8 * (k : Int)) (.inr ⟨by omega, by omega, by omega⟩))
      have hk0' : (0 : Int) < (k : Int) := by omega
      obtain ⟨b3, off3, hP3, hb3, hc3⟩ := LP.out.get hk
      rw [List.getElem_map, show (bitsOf vs)[k]'(by rw [HBL.out]; exact hk) = b from (List.getElem?_eq_some_iff.1 hu).2] at hc3
      have HP3 := Lib.hid hP3
      have HC3 := Lib.hid hc3
      clear hP3 hc3
    case' mid =>
      have hcall := bit_out A n c N W0 (by omega) n0 n1 (.inr (by omega))
      have HLG := Lib.hid (fun W => long_any N W (8 * N) (.inr ⟨by omega, by omega, by omega⟩))
    case' far =>
      have hcall := bit_out A n c N W0 (by omega) n0 n1 (.inr (by omega))
      have HLG := Lib.hid (fun W => long_any N W 0 (.inl ⟨.inr h, rfl⟩))
    all_goals
      have HCALL := Lib.hid hcall
      clear hcall
      go_wp2_with fail
      refine HCALL.out.mono ?_
      rintro e w5 ⟨rfl, hb5⟩
      have HE5 := Lib.hid (HEk.out.trans (hb5.mono HEk.out.size))
      have LP5 := Lib.hid (LP.out.kept hb5)
      have LA5 := Lib.hid (LA.out.kept hb5)
      have HE5b := Lib.hid hb5
      clear hb5
      go_wp2_with fail
      go_loop [14, 15] (fun o i => ∃ k : Nat, k ≤ 8 * n ∧ i = .int .i64 k ∧ o = .int .i64 ((((bitsOf vs).take k).count true : Nat) : Int)) (fun _ i => 8 * n - (intOf i).toNat)
      case atStart => exact ⟨0, by omega, rfl, by simp⟩
      case round =>
        obtain ⟨i, hi, rfl, rfl⟩ := hrel
        by_cases hlt : i < 8 * n
        · obtain ⟨b2, off2, hP, _, hc⟩ := LP5.out.get hlt
          rw [List.getElem_map] at hc
          have hcnt : Hid (∀ q : Bool, (bitsOf vs)[i]'(by rw [HBL.out]; exact hlt) = q → ((bitsOf vs).take (i + 1)).count true = ((bitsOf vs).take i).count true + (if q = true then 1 else 0)) := Lib.hid (fun q hq => by
            rw [List.take_add_one, HPB.out i hlt, hq, Option.toList_some, List.count_append, List.count_singleton]
            cases q <;> rfl)
          obtain ⟨q, HQ⟩ : ∃ q, Hid ((bitsOf vs)[i]'(by rw [HBL.out]; exact hlt) = q) := ⟨_, Lib.hid rfl⟩
          have hbd : ((bitsOf vs).take i).count true ≤ i := Nat.le_trans (List.count_le_length) (by simp; omega)
          have HC := Lib.hid (hcnt.out q HQ.out)
          rw [HQ.out] at hc
          obtain ⟨y, HY⟩ : ∃ y : Nat, Hid (((bitsOf vs).take i).count true = y) := ⟨_, Lib.hid rfl⟩
          rw [HY.out] at hbd HC ⊢
          subst hP
          cases q
          · go_wp2
            go_round
            case rel => exact ⟨i + 1, by omega, by go_num, by rw [HC.out]; simp⟩
            case measure => simp [intOf]; omega
          · go_wp2
            go_round
            case rel => exact ⟨i + 1, by omega, by go_num, by rw [HC.out]; simp⟩
            case measure => simp [intOf]; omega
        · obtain rfl : i = 8 * n := by omega
          rw [List.take_of_length_le (by rw [HBL.out]; exact Nat.le_refl _)]
          have hodd := par_odd HPV.out
          have hyb : (bitsOf vs).count true ≤ 8 * n := Nat.le_trans (List.count_le_length) (by rw [HBL.out]; exact Nat.le_refl _)
          obtain ⟨y, HY⟩ : ∃ y : Nat, Hid ((bitsOf vs).count true = y) := ⟨_, Lib.hid rfl⟩
          rw [HY.out] at hodd hyb ⊢
          have HPA : Hid (∀ x : Kin w5, Calls Try.prog 28 #[.slice A n c] x.world fun e w' => e = .returned (.bool pv) ∧ Below x.world.heap.size x.world w') := Lib.hid (fun x => by
            rw [← HPV.out]; exact parity_any A n c vs x.world (LA5.out.kept x.below) HX.out (by omega))
          try (
            have hP3 := HP3.out
            subst hP3
            first
            | have k113 : w5.cell? ⟨b3, off3 + k, none⟩ = some (.bool b) := (HE5b.out.cell (p := ⟨b3, off3 + k, none⟩) hb3).trans HC3.out
            | have k113 : w5.cell? ⟨b3, off3, none⟩ = some (.bool b) := (HE5b.out.cell (p := ⟨b3, off3, none⟩) hb3).trans HC3.out)
          go_wp2_with fail
          refine (HLG.out _).mono ?_
          rintro e w6 ⟨rfl, rfl⟩
          go_wp2_with fail
          refine (HPA.out (Kin.me _)).mono ?_
          rintro e w6 ⟨rfl, hb6⟩
          go_wp2_with fail
          refine (one_any _).mono ?_
          rintro e w7 ⟨rfl, hb7⟩
          go_wp2
          go_ret
          have h6 := HE5.out.trans (hb6.mono HE5.out.size)
          exact ⟨rfl, h6.trans (hb7.mono h6.size)⟩
  · go_simp
    refine (refwords_d B l m d bs wb HM.out HV3.out (by omega)).mono ?_
    rintro e wc ⟨U, u1, rfl, HLc, HBc⟩
    have HE4 := Lib.hid (HE3.out.trans (HBc.out.mono HE3.out.size))
    have HP4 := Lib.hid (HP3.out.kept HBc.out)
    have HA4 := Lib.hid (HA3.out.kept HBc.out)
    refine hK _ _ ?_
    clear hK K
    try simp only [Act.put, List.getElem_toArray, List.getElem_cons_succ, List.getElem_cons_zero, List.setIfInBounds_toArray, List.set_cons_zero, List.set_cons_succ]
    refine wpAny_ready (rs := [17, 20]) (by kernel_rfl) (by simp) ?_
    refine AllReady.cons rfl (fun K hK => ?_) (AllReady.cons rfl (fun K hK => ?_) AllReady.nil)
    · have C48 := convN (c := m) (HQ3.out.kept HBc.out) HS.out
      go_simp
      refine hK _ _ ?_
      clear hK K C48
      have C51 : ∀ x : Kin wc, (convert 37 9 (.slice U m u1)).run Try.prog x.world = .ok (.string S) x.world := fun x => convN (HLc.out.kept x.below) HS.out
      refine wpAny_lex_kin 20 (by kernel_rfl) rfl (by kernel_rfl) ?_
      try simp only [List.drop_succ_cons, List.drop_zero]
      try simp only [Act.put, List.getElem_toArray, List.getElem_cons_succ, List.getElem_cons_zero, List.setIfInBounds_toArray, List.set_cons_zero, List.set_cons_succ]
      repeat (go_big_quiet_step (fail))
      refine wpQuiet_nil ?_
      intro _ hw'
      obtain ⟨kx, hw''⟩ := hw'
      subst hw''
      have HEk := Lib.hid (HE4.out.trans (kx.below.mono HE4.out.size))
      have LP := Lib.hid (HP4.out.kept kx.below)
      have LA := Lib.hid (HA4.out.kept kx.below)
      generalize kx.world = W0 at HEk LP LA ⊢
      have HPB : Hid (∀ k, (h : k < 8 * n) → (bitsOf vs)[k]? = some ((bitsOf vs)[k]'(by rw [HBL.out]; exact h))) := Lib.hid (fun k h => List.getElem?_eq_getElem _)
      obtain ⟨pv, HPV⟩ : ∃ p, Hid (par (bitsOf vs) = p) := ⟨_, Lib.hid rfl⟩
      rcases HN.out with h | ⟨hNk, hk, u, hu⟩ | ⟨k, hNk, hk0, hk, u, hu⟩ | ⟨h, h1⟩ | h
      case' low =>
        have hcall := bit_out A n c N W0 (by omega) n0 n1 (.inl h)
        have HLG := Lib.hid (fun W => long_any N W 0 (.inl ⟨.inl h, rfl⟩))
      case' zer =>
        subst hNk
        have hcall : Calls Try.prog 26 #[.slice A n c, .int .i64 0] W0 fun e w' => e = .returned (.tuple #[.bool b, .bool true]) ∧ Below W0.heap.size W0 w' := bit_in A n c vs 0 b W0 LA.out HX.out (by omega) hk hu
        have HLG := Lib.hid (fun W => long_any 0 W 0 (.inr ⟨by omega, by omega, by omega⟩))
        obtain ⟨b3, off3, hP3, hb3, hc3⟩ := LP.out.get hk
        rw [List.getElem_map, show (bitsOf vs)[0]'(by rw [HBL.out]; exact hk) = b from (List.getElem?_eq_some_iff.1 hu).2] at hc3
        have HP3 := Lib.hid hP3
        have HC3 := Lib.hid hc3
        clear hP3 hc3
      case' bit =>
        subst hNk
        have hcall := bit_in A n c vs k b W0 LA.out HX.out (by omega) hk hu
        have HLG := Lib.hid (fun W => long_any (k : Int) W (8 * (k : Int)) (.inr ⟨by omega, by omega, by omega⟩))
        have hk0' : (0 : Int) < (k : Int) := by omega
        obtain ⟨b3, off3, hP3, hb3, hc3⟩ := LP.out.get hk
        rw [List.getElem_map, show (bitsOf vs)[k]'(by rw [HBL.out]; exact hk) = b from (List.getElem?_eq_some_iff.1 hu).2] at hc3
        have HP3 := Lib.hid hP3
        have HC3 := Lib.hid hc3
        clear hP3 hc3
      case' mid =>
        have hcall := bit_out A n c N W0 (by omega) n0 n1 (.inr (by omega))
        have HLG := Lib.hid (fun W => long_any N W (8 * N) (.inr ⟨by omega, by omega, by omega⟩))
      case' far =>
        have hcall := bit_out A n c N W0 (by omega) n0 n1 (.inr (by omega))
        have HLG := Lib.hid (fun W => long_any N W 0 (.inl ⟨.inr h, rfl⟩))
      all_goals
        have HCALL := Lib.hid hcall
        clear hcall
        go_wp2_with fail
        refine HCALL.out.mono ?_
        rintro e w5 ⟨rfl, hb5⟩
        have HE5 := Lib.hid (HEk.out.trans (hb5.mono HEk.out.size))
        have LP5 := Lib.hid (LP.out.kept hb5)
        have LA5 := Lib.hid (LA.out.kept hb5)
        have HE5b := Lib.hid hb5
        clear hb5
        go_wp2_with fail
        go_loop [14, 15] (fun o i => ∃ k : Nat, k ≤ 8 * n ∧ i = .int .i64 k ∧ o = .int .i64 ((((bitsOf vs).take k).count true : Nat) : Int)) (fun _ i => 8 * n - (intOf i).toNat)
        case atStart => exact ⟨0, by omega, rfl, by simp⟩
        case round =>
          obtain ⟨i, hi, rfl, rfl⟩ := hrel
          by_cases hlt : i < 8 * n
          · obtain ⟨b2, off2, hP, _, hc⟩ := LP5.out.get hlt
            rw [List.getElem_map] at hc
            have hcnt : Hid (∀ q : Bool, (bitsOf vs)[i]'(by rw [HBL.out]; exact hlt) = q → ((bitsOf vs).take (i + 1)).count true = ((bitsOf vs).take i).count true + (if q = true then 1 else 0)) := Lib.hid (fun q hq => by
              rw [List.take_add_one, HPB.out i hlt, hq, Option.toList_some, List.count_append, List.count_singleton]
              cases q <;> rfl)
            obtain ⟨q, HQ⟩ : ∃ q, Hid ((bitsOf vs)[i]'(by rw [HBL.out]; exact hlt) = q) := ⟨_, Lib.hid rfl⟩
            have hbd : ((bitsOf vs).take i).count true ≤ i := Nat.le_trans (List.count_le_length) (by simp; omega)
            have HC := Lib.hid (hcnt.out q HQ.out)
            rw [HQ.out] at hc
            obtain ⟨y, HY⟩ : ∃ y : Nat, Hid (((bitsOf vs).take i).count true = y) := ⟨_, Lib.hid rfl⟩
            rw [HY.out] at hbd HC ⊢
            subst hP
            cases q
            · go_wp2
              go_round
              case rel => exact ⟨i + 1, by omega, by go_num, by rw [HC.out]; simp⟩
              case measure => simp [intOf]; omega
            · go_wp2
              go_round
              case rel => exact ⟨i + 1, by omega, by go_num, by rw [HC.out]; simp⟩
              case measure => simp [intOf]; omega
          · obtain rfl : i = 8 * n := by omega
            rw [List.take_of_length_le (by rw [HBL.out]; exact Nat.le_refl _)]
            have hodd := par_odd HPV.out
            have hyb : (bitsOf vs).count true ≤ 8 * n := Nat.le_trans (List.count_le_length) (by rw [HBL.out]; exact Nat.le_refl _)
            obtain ⟨y, HY⟩ : ∃ y : Nat, Hid ((bitsOf vs).count true = y) := ⟨_, Lib.hid rfl⟩
            rw [HY.out] at hodd hyb ⊢
            have HPA : Hid (∀ x : Kin w5, Calls Try.prog 28 #[.slice A n c] x.world fun e w' => e = .returned (.bool pv) ∧ Below x.world.heap.size x.world w') := Lib.hid (fun x => by
              rw [← HPV.out]; exact parity_any A n c vs x.world (LA5.out.kept x.below) HX.out (by omega))
            try (
              have hP3 := HP3.out
              subst hP3
              first
              | have k113 : w5.cell? ⟨b3, off3 + k, none⟩ = some (.bool b) := (HE5b.out.cell (p := ⟨b3, off3 + k, none⟩) hb3).trans HC3.out
              | have k113 : w5.cell? ⟨b3, off3, none⟩ = some (.bool b) := (HE5b.out.cell (p := ⟨b3, off3, none⟩) hb3).trans HC3.out)
            go_wp2_with fail
            refine (HLG.out _).mono ?_
            rintro e w6 ⟨rfl, rfl⟩
            go_wp2_with fail
            refine (HPA.out (Kin.me _)).mono ?_
            rintro e w6 ⟨rfl, hb6⟩
            go_wp2_with fail
            refine (one_any _).mono ?_
            rintro e w7 ⟨rfl, hb7⟩
            go_wp2
            go_ret
            have h6 := HE5.out.trans (hb6.mono HE5.out.size)
            exact ⟨rfl, h6.trans (hb7.mono h6.size)⟩
    · have C51 := convN (c := u1) HLc.out HS.out
      go_simp
      refine hK _ _ ?_
      clear hK K C51
      try simp only [Act.put, List.getElem_toArray, List.getElem_cons_succ, List.getElem_cons_zero, List.setIfInBounds_toArray, List.set_cons_zero, List.set_cons_succ]
      have C48 := convN (c := m) (HQ3.out.kept HBc.out) HS.out
      refine wpAny_ready (rs := [17]) (by kernel_rfl) (by simp) ?_
      refine AllReady.cons rfl (fun K hK => ?_) AllReady.nil
      go_simp
      refine hK _ _ ?_
      clear hK K C48
      refine wpAny_lex_kin 21 (by kernel_rfl) rfl (by kernel_rfl) ?_
      try simp only [List.drop_succ_cons, List.drop_zero]
      try simp only [Act.put, List.getElem_toArray, List.getElem_cons_succ, List.getElem_cons_zero, List.setIfInBounds_toArray, List.set_cons_zero, List.set_cons_succ]
      repeat (go_big_quiet_step (fail))
      refine wpQuiet_nil ?_
      intro _ hw'
      obtain ⟨kx, hw''⟩ := hw'
      subst hw''
      have HEk := Lib.hid (HE4.out.trans (kx.below.mono HE4.out.size))
      have LP := Lib.hid (HP4.out.kept kx.below)
      have LA := Lib.hid (HA4.out.kept kx.below)
      generalize kx.world = W0 at HEk LP LA ⊢
      have HPB : Hid (∀ k, (h : k < 8 * n) → (bitsOf vs)[k]? = some ((bitsOf vs)[k]'(by rw [HBL.out]; exact h))) := Lib.hid (fun k h => List.getElem?_eq_getElem _)
      obtain ⟨pv, HPV⟩ : ∃ p, Hid (par (bitsOf vs) = p) := ⟨_, Lib.hid rfl⟩
      rcases HN.out with h | ⟨hNk, hk, u, hu⟩ | ⟨k, hNk, hk0, hk, u, hu⟩ | ⟨h, h1⟩ | h
      case' low =>
        have hcall := bit_out A n c N W0 (by omega) n0 n1 (.inl h)
        have HLG := Lib.hid (fun W => long_any N W 0 (.inl ⟨.inl h, rfl⟩))
      case' zer =>
        subst hNk
        have hcall : Calls Try.prog 26 #[.slice A n c, .int .i64 0] W0 fun e w' => e = .returned (.tuple #[.bool b, .bool true]) ∧ Below W0.heap.size W0 w' := bit_in A n c vs 0 b W0 LA.out HX.out (by omega) hk hu
        have HLG := Lib.hid (fun W => long_any 0 W 0 (.inr ⟨by omega, by omega, by omega⟩))
        obtain ⟨b3, off3, hP3, hb3, hc3⟩ := LP.out.get hk
        rw [List.getElem_map, show (bitsOf vs)[0]'(by rw [HBL.out]; exact hk) = b from (List.getElem?_eq_some_iff.1 hu).2] at hc3
        have HP3 := Lib.hid hP3
        have HC3 := Lib.hid hc3
        clear hP3 hc3
      case' bit =>
        subst hNk
        have hcall := bit_in A n c vs k b W0 LA.out HX.out (by omega) hk hu
        have HLG := Lib.hid (fun W => long_any (k : Int) W (8 * (k : Int)) (.inr ⟨by omega, by omega, by omega⟩))
        have hk0' : (0 : Int) < (k : Int) := by omega
        obtain ⟨b3, off3, hP3, hb3, hc3⟩ := LP.out.get hk
        rw [List.getElem_map, show (bitsOf vs)[k]'(by rw [HBL.out]; exact hk) = b from (List.getElem?_eq_some_iff.1 hu).2] at hc3
        have HP3 := Lib.hid hP3
        have HC3 := Lib.hid hc3
        clear hP3 hc3
      case' mid =>
        have hcall := bit_out A n c N W0 (by omega) n0 n1 (.inr (by omega))
        have HLG := Lib.hid (fun W => long_any N W (8 * N) (.inr ⟨by omega, by omega, by omega⟩))
      case' far =>
        have hcall := bit_out A n c N W0 (by omega) n0 n1 (.inr (by omega))
        have HLG := Lib.hid (fun W => long_any N W 0 (.inl ⟨.inr h, rfl⟩))
      all_goals
        have HCALL := Lib.hid hcall
        clear hcall
        go_wp2_with fail
        refine HCALL.out.mono ?_
        rintro e w5 ⟨rfl, hb5⟩
        have HE5 := Lib.hid (HEk.out.trans (hb5.mono HEk.out.size))
        have LP5 := Lib.hid (LP.out.kept hb5)
        have LA5 := Lib.hid (LA.out.kept hb5)
        have HE5b := Lib.hid hb5
        clear hb5
        go_wp2_with fail
        go_loop [14, 15] (fun o i => ∃ k : Nat, k ≤ 8 * n ∧ i = .int .i64 k ∧ o = .int .i64 ((((bitsOf vs).take k).count true : Nat) : Int)) (fun _ i => 8 * n - (intOf i).toNat)
        case atStart => exact ⟨0, by omega, rfl, by simp⟩
        case round =>
          obtain ⟨i, hi, rfl, rfl⟩ := hrel
          by_cases hlt : i < 8 * n
          · obtain ⟨b2, off2, hP, _, hc⟩ := LP5.out.get hlt
            rw [List.getElem_map] at hc
            have hcnt : Hid (∀ q : Bool, (bitsOf vs)[i]'(by rw [HBL.out]; exact hlt) = q → ((bitsOf vs).take (i + 1)).count true = ((bitsOf vs).take i).count true + (if q = true then 1 else 0)) := Lib.hid (fun q hq => by
              rw [List.take_add_one, HPB.out i hlt, hq, Option.toList_some, List.count_append, List.count_singleton]
              cases q <;> rfl)
            obtain ⟨q, HQ⟩ : ∃ q, Hid ((bitsOf vs)[i]'(by rw [HBL.out]; exact hlt) = q) := ⟨_, Lib.hid rfl⟩
            have hbd : ((bitsOf vs).take i).count true ≤ i := Nat.le_trans (List.count_le_length) (by simp; omega)
            have HC := Lib.hid (hcnt.out q HQ.out)
            rw [HQ.out] at hc
            obtain ⟨y, HY⟩ : ∃ y : Nat, Hid (((bitsOf vs).take i).count true = y) := ⟨_, Lib.hid rfl⟩
            rw [HY.out] at hbd HC ⊢
            subst hP
            cases q
            · go_wp2
              go_round
              case rel => exact ⟨i + 1, by omega, by go_num, by rw [HC.out]; simp⟩
              case measure => simp [intOf]; omega
            · go_wp2
              go_round
              case rel => exact ⟨i + 1, by omega, by go_num, by rw [HC.out]; simp⟩
              case measure => simp [intOf]; omega
          · obtain rfl : i = 8 * n := by omega
            rw [List.take_of_length_le (by rw [HBL.out]; exact Nat.le_refl _)]
            have hodd := par_odd HPV.out
            have hyb : (bitsOf vs).count true ≤ 8 * n := Nat.le_trans (List.count_le_length) (by rw [HBL.out]; exact Nat.le_refl _)
            obtain ⟨y, HY⟩ : ∃ y : Nat, Hid ((bitsOf vs).count true = y) := ⟨_, Lib.hid rfl⟩
            rw [HY.out] at hodd hyb ⊢
            have HPA : Hid (∀ x : Kin w5, Calls Try.prog 28 #[.slice A n c] x.world fun e w' => e = .returned (.bool pv) ∧ Below x.world.heap.size x.world w') := Lib.hid (fun x => by
              rw [← HPV.out]; exact parity_any A n c vs x.world (LA5.out.kept x.below) HX.out (by omega))
            try (
              have hP3 := HP3.out
              subst hP3
              first
              | have k113 : w5.cell? ⟨b3, off3 + k, none⟩ = some (.bool b) := (HE5b.out.cell (p := ⟨b3, off3 + k, none⟩) hb3).trans HC3.out
              | have k113 : w5.cell? ⟨b3, off3, none⟩ = some (.bool b) := (HE5b.out.cell (p := ⟨b3, off3, none⟩) hb3).trans HC3.out)
            go_wp2_with fail
            refine (HLG.out _).mono ?_
            rintro e w6 ⟨rfl, rfl⟩
            go_wp2_with fail
            refine (HPA.out (Kin.me _)).mono ?_
            rintro e w6 ⟨rfl, hb6⟩
            go_wp2_with fail
            refine (one_any _).mono ?_
            rintro e w7 ⟨rfl, hb7⟩
            go_wp2
            go_ret
            have h6 := HE5.out.trans (hb6.mono HE5.out.size)
            exact ⟨rfl, h6.trans (hb7.mono h6.size)⟩
set_option maxRecDepth 100000 in
theorem walk_long (A B : Option Addr) (n c l d : Nat) (N : Int) (w : World) (hn : n ≤ 9223372036854775807) (hm : l ≤ 9223372036854775807) (h : 200 < n ∨ 2000 < l) :
    Calls Try.prog 7 #[.slice A n c, .slice B l d, .int .i64 N] w fun e w' => e = .returned (.bool true) ∧ Below w.heap.size w w' := by
  rcases (show 200 < n ∨ (n ≤ 200 ∧ 2000 < l) by omega) with g | ⟨g, g1⟩
  all_goals
    clear h
    go_enter Try.func7, Try.ntmps7
    go_wp2
    go_ret
    exact ⟨rfl, Below.refl _ _⟩
theorem nats_of (l : List Int) (hbd : ∀ x ∈ l, 0 ≤ x ∧ x ≤ 255) : ∃ xs : List Nat, l.map (Value.int .u8) = xs.map (fun (x : Nat) => Value.int .u8 x) ∧ ∀ x ∈ xs, x < 256 := by
  refine ⟨l.map Int.toNat, ?_, ?_⟩
  · rw [List.map_map]
    apply List.map_congr_left
    intro x hx
    have := hbd x hx
    simp only [Function.comp]
    rw [Int.toNat_of_nonneg this.1]
  · intro x hx
    obtain ⟨z, hz, rfl⟩ := List.mem_map.1 hx
    have := hbd z hz
    omega
theorem walk (A : Option Addr) (n c : Nat) (xs : List Int) (B : Option Addr) (l d : Nat) (bs : List Bool) (N : Int) (w : World) (ha : Lst w A n (xs.map (Value.int .u8))) (hx : ∀ x ∈ xs, 0 ≤ x ∧ x ≤ 255) (hnc : n ≤ c) (hcm : c ≤ maxLen) (hb : Lst w B l (bs.map Value.bool)) (hld : l ≤ d) (hdm : d ≤ maxLen) (n0 : -9223372036854775808 ≤ N) (n1 : N ≤ 9223372036854775807) :
    Calls Try.prog 7 #[.slice A n c, .slice B l d, .int .i64 N] w fun e w' => e = .returned (.bool true) ∧ Below w.heap.size w w' := by
  unfold maxLen at hcm hdm
  obtain ⟨vs, ev, hv⟩ := nats_of xs hx
  rw [ev] at ha
  by_cases h : n ≤ 200 ∧ l ≤ 2000
  · obtain ⟨b, r, hN⟩ := num_of vs n N (by have := ha.1; simpa using this) h.1
    by_cases h8 : l % 8 = 0
    · exact walk_even A B n c (l / 8) l d vs bs N r b w h.1 h.2 (by omega) ha hb hv n0 n1 hN
    · exact walk_odd A B n c l d vs bs N r b w h.1 h.2 h8 ha hb hv n0 n1 hN
  · exact walk_long A B n c l d N w (by omega) (by omega) (by omega)

set_option maxRecDepth 100000 in
theorem lifted (os : Os) (started : os.Started) (H : Type) (enc : TypeId × Value → H) :
    ReturnsInHanded {} Try.checked os 7 .any (Rows.wordBitsSpec.pre6 enc Try.prog Try.f7 Rows.wordBitsRow.domain false) (Rows.wordBitsSpec.post enc Try.prog Try.f7 false true false false) := by
  refine returnsInHanded_of_change (C := Try.checked) own started (by kernel_rfl) Try.func7
    (ChangeSpec.witness6 (enc := enc) (C := Try.checked) false ⟨#[], #[.slice none 0 0, .slice none 0 0, .int .i64 0], []⟩ 8 (by kernel_rfl) (by kernel_rfl) (by kernel_rfl) (by kernel_rfl)) ?_
  intro W base args ds gs before hval0 hW hcnd _
  have hval : ∀ (j : Nat) t v, Try.f7.params[j]? = some t → args[j]? = some v → Value.okWide Try.prog W .any base t v := hval0
  have hW' := hW
  obtain ⟨p, q, hA0, hV, rfl, hfz, hnd⟩ := hW
  have hA : DataW.TrodAll enc Try.prog W 0 (fun _ => true) true Try.f7.params.toList args.toList ds p := hA0
  rw [Try.params7] at hA hval
  obtain ⟨v0, vs0, d0, ds0, p0, q0, hargs, rfl, rfl, h0, r0⟩ := trodAll_cons hA
  obtain ⟨v1, vs1, d1, ds1, p1, q1, rfl, rfl, rfl, h1, r1⟩ := trodAll_cons r0
  obtain ⟨v2, vs2, d2, ds2, p2, q2, rfl, rfl, rfl, h2, r2⟩ := trodAll_cons r1
  obtain ⟨rfl, rfl, rfl⟩ := trodAll_nil r2
  obtain rfl : args = #[v0, v1, v2] := by cases args; simp_all
  obtain ⟨rfl, rfl⟩ := trodVars_none hV
  have k0 := h0
  have lt0 : ∀ x ∈ p0, x.block < W.heap.size := by obtain ⟨m, hm⟩ := k0; exact DataW.trod_lt m _ _ _ hm
  obtain ⟨wA, wn, wc, rfl⟩ := okWide_slice Try.underlying37 (hval 0 37 v0 rfl rfl)
  obtain ⟨w, l0, b0, cb0, cc0⟩ := lst_ints Try.underlying37 Try.underlying5 (by kernel_rfl) k0
  have k1 := h1
  have lt1 : ∀ x ∈ p1, x.block < W.heap.size := by obtain ⟨m, hm⟩ := k1; exact DataW.trod_lt m _ _ _ hm
  obtain ⟨lA, ln, lc, rfl⟩ := okWide_slice Try.underlying31 (hval 1 31 v1 rfl rfl)
  obtain ⟨l, l1, cb1, cc1⟩ := lst_bools Try.underlying31 Try.underlying4 (by kernel_rfl) k1
  obtain ⟨n, rfl, rfl, rfl, wf2⟩ := open_int Try.underlying3 (hval 2 3 v2 rfl rfl) h2
  have bd2 := bounds_i64 wf2
  clear hA0 hval0
  refine (walk wA wn wc w lA ln lc l n W l0 (ints_u8 b0) cb0 cc0 l1 cb1 cc1 bd2.1 bd2.2).mono fun e W' ⟨he, bel⟩ => ?_
  subst he
  exact ⟨_, rfl, _, _, _, [], _, [], hW', trodAll_mk1 (shut_bool Try.underlying4 _), (trodAll_cons_mk (Below.trod laidOut (by kernel_rfl) (of_decide_eq_true (by kernel_rfl)) k0 bel lt0) (trodAll_cons_mk (Below.trod laidOut (by kernel_rfl) (of_decide_eq_true (by kernel_rfl)) k1 bel lt1) (trodAll_cons_mk (shut_int Try.underlying3 wf2) trodAll_mk0))), rfl, bel.frame _, fun h => by cases h⟩

theorem over : Rows.wordBitsRow.holds Try.pinned (OpenSpec.ofChange Rows.wordBitsSpec) :=
  OpenClaim.holds_of_wide 7 Try.f7 rfl rfl rfl rfl rfl rfl rfl ⟨rfl, rfl, rfl, rfl, rfl⟩ rfl rfl rfl rfl rfl (by kernel_rfl) Try.func7 (by kernel_rfl)
    (of_decide_eq_true (by kernel_rfl)) (by unfold Func.isWrapper; first | (rw [if_pos (by decide +kernel)]; kernel_rfl) | (rw [if_neg (by decide +kernel)]; exact ⟨rfl, rfl⟩))
    (fun os started H enc _ => lifted os started H enc)

/-- The statement. -/
theorem proved : Rows.WordBitsSaid := over
end Go.Proofs.Ytbhdenjahojbbaa.lawWordBits
