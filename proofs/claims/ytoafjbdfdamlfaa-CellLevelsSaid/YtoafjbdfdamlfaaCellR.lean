/- The contract of package cell's Read: the bits of the levels that are handed in, looked at where they should be, moved by some ticks; or none. -/
import Derived.Test.YtoafjbdfdamlfaaCellW
namespace Go.Proofs.Ytoafjbdfdamlfaa.Ly1
open Go.ChangeShapes Go.WideShapes Go.ChangeAt Go.RowKit Base
set_option linter.unusedVariables false
set_option linter.unusedSimpArgs false

def stand (l : List Bool) (t m : Int) : Option Bool := if m < -t ∨ (l.length : Int) - t ≤ m then none else l[(t + m).toNat]?

theorem stands_no (A : Option Addr) (n c : Nat) (l : List Bool) (t m : Int) (w : World) (hl : Lst w A n (l.map Value.bool)) (hn : n ≤ 1000000) (h0 : 0 ≤ t) (h1 : t ≤ 100000000)
    (hm : -9223372036854775808 ≤ m) (hm2 : m ≤ 9223372036854775807) (h : stand l t m = none) :
    Calls Try.prog 34 #[.slice A n c, .int .i64 t, .int .i64 m] w fun e w' => e = .returned (.tuple #[.bool false, .bool false]) ∧ w = w' := by
  have hlen : l.length = n := by simpa using hl.1
  have hc : m < -t ∨ (n : Int) - t ≤ m := by
    rcases Classical.em (m < -t ∨ (n : Int) - t ≤ m) with h' | h'
    · exact h'
    · exfalso
      unfold stand at h
      rw [hlen, if_neg h', List.getElem?_eq_getElem (by omega)] at h
      cases h
  clear h hl hlen
  by_cases g : m < -t
  · go_enter Try.func34, Try.ntmps34
    go_wp2
    go_ret2
    exact ⟨rfl, rfl⟩
  · have g2 : (n : Int) - t ≤ m := by omega
    clear hc
    go_enter Try.func34, Try.ntmps34
    go_wp2
    go_ret2
    exact ⟨rfl, rfl⟩

theorem stands_yes (A : Option Addr) (n c : Nat) (l : List Bool) (t m : Int) (b : Bool) (w : World) (hl : Lst w A n (l.map Value.bool)) (hn : n ≤ 1000000) (h0 : 0 ≤ t) (h1 : t ≤ 100000000)
    (hm : -9223372036854775808 ≤ m) (hm2 : m ≤ 9223372036854775807) (h : stand l t m = some b) :
    Calls Try.prog 34 #[.slice A n c, .int .i64 t, .int .i64 m] w fun e w' => e = .returned (.tuple #[.bool b, .bool true]) ∧ w = w' := by
  have hlen : l.length = n := by simpa using hl.1
  unfold stand at h
  rw [hlen] at h
  have hc : ¬ (m < -t ∨ (n : Int) - t ≤ m) := fun h' => by rw [if_pos h'] at h; cases h
  rw [if_neg hc] at h
  obtain ⟨k, hk⟩ : ∃ k : Nat, t + m = k := ⟨(t + m).toNat, by omega⟩
  have hkn : k < n := by omega
  obtain ⟨bb, off, rfl, hbs, hcell⟩ := hl.get hkn
  rw [List.getElem_map] at hcell
  rw [hk, Int.toNat_natCast, List.getElem?_eq_getElem (by omega)] at h
  rw [Option.some.inj h] at hcell
  have g1 : ¬ m < -t := by omega
  have g2 : ¬ (n : Int) - t ≤ m := by omega
  obtain rfl : m = (k : Int) - t := by omega
  have HI : t + ((k : Int) - t) = (k : Int) := by omega
  clear hc h hl hlen hk
  go_enter Try.func34, Try.ntmps34
  go_wp2
  go_ret2
  exact ⟨rfl, rfl⟩

def bitAt (l : List Bool) (m : Int) (k : Nat) : Option Bool :=
  match stand l (20 * (k : Int) + 5) m, stand l (20 * (k : Int) + 15) m with
  | some a, some b => if a = b then none else some a
  | _, _ => none
def readTo (l : List Bool) (m : Int) : Nat → Option (List Bool)
  | 0 => some []
  | k + 1 => match readTo l m k, bitAt l m k with
    | some xs, some b => some (xs ++ [b])
    | _, _ => none
theorem readTo_none {l : List Bool} {m : Int} {k : Nat} (h : bitAt l m k = none) : ∀ K, k < K → readTo l m K = none := by
  intro K
  induction K with
  | zero => intro hk; omega
  | succ K ih =>
    intro hk
    unfold readTo
    by_cases e : k = K
    · subst e; rw [h]; cases readTo l m k <;> rfl
    · rw [ih (by omega)]
theorem readTo_len {l : List Bool} {m : Int} : ∀ (K : Nat) (xs : List Bool), readTo l m K = some xs → xs.length = K := by
  intro K
  induction K with
  | zero => intro xs h; simp [readTo] at h; simp [← h]
  | succ K ih =>
    intro xs h
    unfold readTo at h
    cases h1 : readTo l m K with
    | none => rw [h1] at h; cases h
    | some ys =>
      rw [h1] at h
      cases h2 : bitAt l m K with
      | none => rw [h2] at h; cases h
      | some b => rw [h2] at h; simp at h; rw [← h]; simp [ih ys h1]

theorem look_f (n : Int) (w : World) (h : 0 ≤ n) (g : n ≤ 1099511627776) :
    Calls Try.prog 15 #[.int .i64 n, .bool false] w fun e w' => e = .returned (.int .i64 (20 * n + 5)) ∧ w = w' := by
  rw [← lok_f h g]; exact look_any n false w
theorem look_t (n : Int) (w : World) (h : 0 ≤ n) (g : n ≤ 1099511627776) :
    Calls Try.prog 15 #[.int .i64 n, .bool true] w fun e w' => e = .returned (.int .i64 (20 * n + 15)) ∧ w = w' := by
  rw [← lok_t h g]; exact look_any n true w

/-- What Read comes to. -/
def ReadPost (w : World) (l : List Bool) (m : Int) (e : Ending) (w' : World) : Prop :=
  Below w.heap.size w w' ∧
  ((readTo l m (l.length / 20) = none ∧ e = .returned (.tuple #[.slice none 0 0, .bool false])) ∨
   ∃ xs v, readTo l m (l.length / 20) = some xs ∧ e = .returned (.tuple #[v, .bool true]) ∧ w'.ownsRow w.heap.size 4 1 v (l.length / 20) (xs.map Value.bool))

/-- What the loop over the cells knows, behind k of them. -/
def RRel (w : World) (l : List Bool) (m : Int) (K : Nat) (v i : Value) (wr : World) : Prop :=
  ∃ (k : Nat) (xs : List Bool), k ≤ K ∧ i = .int .i64 k ∧ readTo l m k = some xs ∧ wr.ownsRow w.heap.size 4 1 v k (xs.map Value.bool) ∧ Below w.heap.size w wr

theorem rrel_step {w wr w1 : World} {l : List Bool} {m : Int} {K k : Nat} {xs : List Bool} {b : Bool} {v : Value} (hk : k < K) (hx : readTo l m k = some xs) (hb : bitAt l m k = some b)
    (h : w1.ownsRow w.heap.size 4 1 v (k + 1) (xs.map Value.bool ++ [Value.bool b])) (hw : Below w.heap.size w wr) (hw1 : Below w.heap.size wr w1) : RRel w l m K v (.int .i64 ((k : Int) + 1)) w1 :=
  ⟨k + 1, xs ++ [b], by omega, by push_cast; rfl, by unfold readTo; rw [hx, hb], by simpa using h, hw.trans hw1⟩
theorem bit_no1 {l : List Bool} {m : Int} {k : Nat} (h : stand l (20 * (k : Int) + 5) m = none) : bitAt l m k = none := by unfold bitAt; rw [h]
theorem bit_no2 {l : List Bool} {m : Int} {k : Nat} (h : stand l (20 * (k : Int) + 15) m = none) : bitAt l m k = none := by
  unfold bitAt; rw [h]; cases stand l (20 * (k : Int) + 5) m <;> rfl
theorem bit_no3 {l : List Bool} {m : Int} {k : Nat} {a : Bool} (h : stand l (20 * (k : Int) + 5) m = some a) (g : stand l (20 * (k : Int) + 15) m = some a) : bitAt l m k = none := by unfold bitAt; rw [h, g]; simp
theorem bit_yes {l : List Bool} {m : Int} {k : Nat} {a : Bool} (h : stand l (20 * (k : Int) + 5) m = some a) (g : stand l (20 * (k : Int) + 15) m = some (!a)) : bitAt l m k = some a := by unfold bitAt; rw [h, g]; cases a <;> simp

set_option maxHeartbeats 1000000 in
theorem read_any (A : Option Addr) (n c : Nat) (l : List Bool) (m : Int) (w : World) (hl : Lst w A n (l.map Value.bool)) (hn : n ≤ 100000)
    (hm : -9223372036854775808 ≤ m) (hm2 : m ≤ 9223372036854775807) :
    Calls Try.prog 18 #[.slice A n c, .int .i64 m] w (ReadPost w l m) := by
  obtain ⟨i0, hi, hz0, hz1, hz2⟩ := info_parts info_bool
  have hlen : l.length = n := by simpa using hl.1
  obtain ⟨K, HK⟩ : ∃ K : Nat, Hid (n / 20 = K) := ⟨n / 20, rfl⟩
  have hK : ((n : Int) / 20) = (K : Int) := by have := HK.out; omega
  have hK2 : K ≤ 5000 := by have := HK.out; omega
  have HKI := Lib.hid hK
  clear hK
  have HLEN := Lib.hid hlen
  clear hlen
  go_enter Try.func18, Try.ntmps18
  go_wp2_with (at_make; rw [HKI.out]; refine wpList_make_own _ rfl _ _ 31 rfl w.heap.size 4 i0 (.bool false) 1 Try.underlying31 hi hz0 hz1 _ _ _ K rfl rfl (by omega) (by rw [hz2]; omega) (by unfold maxLen; omega) (Nat.le_refl _) ?_; intro w0 hown0 hgrow0)
  go_loopw [7, 21] (fun v i wr => RRel w l m K v i wr) (fun _ i _ => K - (intOf i).toNat)
  case atStart => exact ⟨0, [], by omega, rfl, rfl, hown0, (Below.refl _ _).grown hgrow0 (Nat.le_refl _) (fun k h => by cases h)⟩
  case round =>
    obtain ⟨k, xs, hk, rfl, hx, hown, hbel⟩ := hrel
    have HX := Lib.hid hx
    clear hx
    have hl1 := hl.kept hbel
    by_cases hlt : k < K
    · have hfin : bitAt l m k = none → readTo l m (l.length / 20) = none := fun h => readTo_none h _ (by rw [HLEN.out, HK.out]; exact hlt)
      have HF := Lib.hid hfin
      clear hfin
      cases h1 : stand l (20 * (k : Int) + 5) m with
      | none =>
        have H1 := Lib.hid h1
        clear h1
        cases h2 : stand l (20 * (k : Int) + 15) m with
        | none =>
          have H2 := Lib.hid h2
          clear h2
          go_wp2_with fail
          refine (look_f _ _ (by omega) (by omega)).mono ?_; rintro e w' ⟨rfl, rfl⟩
          go_wp2_with fail
          refine (stands_no A n c l _ m _ hl1 (by omega) (by omega) (by omega) hm hm2 H1.out).mono ?_; rintro e w' ⟨rfl, rfl⟩
          go_wp2_with fail
          refine (look_t _ _ (by omega) (by omega)).mono ?_; rintro e w' ⟨rfl, rfl⟩
          go_wp2_with fail
          refine (stands_no A n c l _ m _ hl1 (by omega) (by omega) (by omega) hm hm2 H2.out).mono ?_; rintro e w' ⟨rfl, rfl⟩
          go_wp2
          go_ret2
          exact ⟨hbel, .inl ⟨HF.out (bit_no1 H1.out), rfl⟩⟩
        | some b =>
          have H2 := Lib.hid h2
          clear h2
          go_wp2_with fail
          refine (look_f _ _ (by omega) (by omega)).mono ?_; rintro e w' ⟨rfl, rfl⟩
          go_wp2_with fail
          refine (stands_no A n c l _ m _ hl1 (by omega) (by omega) (by omega) hm hm2 H1.out).mono ?_; rintro e w' ⟨rfl, rfl⟩
          go_wp2_with fail
          refine (look_t _ _ (by omega) (by omega)).mono ?_; rintro e w' ⟨rfl, rfl⟩
          go_wp2_with fail
          refine (stands_yes A n c l _ m b _ hl1 (by omega) (by omega) (by omega) hm hm2 H2.out).mono ?_; rintro e w' ⟨rfl, rfl⟩
          cases b
          all_goals
            go_wp2
            go_ret2
            exact ⟨hbel, .inl ⟨HF.out (bit_no1 H1.out), rfl⟩⟩
      | some a =>
        have H1 := Lib.hid h1
        clear h1
        cases h2 : stand l (20 * (k : Int) + 15) m with
        | none =>
          have H2 := Lib.hid h2
          clear h2
          go_wp2_with fail
          refine (look_f _ _ (by omega) (by omega)).mono ?_; rintro e w' ⟨rfl, rfl⟩
          go_wp2_with fail
          refine (stands_yes A n c l _ m a _ hl1 (by omega) (by omega) (by omega) hm hm2 H1.out).mono ?_; rintro e w' ⟨rfl, rfl⟩
          go_wp2_with fail
          refine (look_t _ _ (by omega) (by omega)).mono ?_; rintro e w' ⟨rfl, rfl⟩
          go_wp2_with fail
          refine (stands_no A n c l _ m _ hl1 (by omega) (by omega) (by omega) hm hm2 H2.out).mono ?_; rintro e w' ⟨rfl, rfl⟩
          cases a
          all_goals
            go_wp2
            go_ret2
            exact ⟨hbel, .inl ⟨HF.out (bit_no2 H2.out), rfl⟩⟩
        | some b =>
          have H2 := Lib.hid h2
          clear h2
          go_wp2_with fail
          refine (look_f _ _ (by omega) (by omega)).mono ?_; rintro e w' ⟨rfl, rfl⟩
          go_wp2_with fail
          refine (stands_yes A n c l _ m a _ hl1 (by omega) (by omega) (by omega) hm hm2 H1.out).mono ?_; rintro e w' ⟨rfl, rfl⟩
          go_wp2_with fail
          refine (look_t _ _ (by omega) (by omega)).mono ?_; rintro e w' ⟨rfl, rfl⟩
          go_wp2_with fail
          refine (stands_yes A n c l _ m b _ hl1 (by omega) (by omega) (by omega) hm hm2 H2.out).mono ?_; rintro e w' ⟨rfl, rfl⟩
          cases a <;> cases b
          case false.false =>
            go_wp2
            go_ret2
            exact ⟨hbel, .inl ⟨HF.out (bit_no3 H1.out H2.out), rfl⟩⟩
          case true.true =>
            go_wp2
            go_ret2
            exact ⟨hbel, .inl ⟨HF.out (bit_no3 H1.out H2.out), rfl⟩⟩
          case false.true =>
            go_wp2_with (first | (go_at_call 12; refine (of_any _ _ _).mono ?_; rintro e w' ⟨rfl, rfl⟩) | (at_builtin; refine push1 _ rfl (.tmp 56) (.tmp 58) 31 rfl w.heap.size 4 i0 (.bool false) 1 Try.underlying31 hi hz0 hz1 hz2 rfl _ _ _ rfl hown (.bool false) _ rfl rfl (by unfold maxLen; omega) (by omega) hbel.size ?_; intro v2 w2 hown2 hbel2))
            go_roundw
            case rel => exact rrel_step hlt HX.out (bit_yes H1.out H2.out) hown2 hbel hbel2
            case measure => simp [intOf]; omega
          case true.false =>
            go_wp2_with (first | (go_at_call 12; refine (of_any _ _ _).mono ?_; rintro e w' ⟨rfl, rfl⟩) | (at_builtin; refine push1 _ rfl (.tmp 56) (.tmp 58) 31 rfl w.heap.size 4 i0 (.bool false) 1 Try.underlying31 hi hz0 hz1 hz2 rfl _ _ _ rfl hown (.bool true) _ rfl rfl (by unfold maxLen; omega) (by omega) hbel.size ?_; intro v2 w2 hown2 hbel2))
            go_roundw
            case rel => exact rrel_step hlt HX.out (bit_yes H1.out H2.out) hown2 hbel hbel2
            case measure => simp [intOf]; omega
    · obtain rfl : k = K := by omega
      go_wp2
      go_ret2
      refine ⟨hbel, .inr ⟨xs, _, ?_, rfl, ?_⟩⟩
      · rw [HLEN.out, HK.out]; exact HX.out
      · rw [HLEN.out, HK.out]; exact hown
end Go.Proofs.Ytoafjbdfdamlfaa.Ly1
