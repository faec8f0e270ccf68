/- Package image: what Read tells of what Put tells; Same; the small play of layer 10; no condition. -/
import Derived.Test.YthnopcoahcdjjaaImgF
import Derived.Test.YthnopcoahcdjjaaArr
namespace Go.Proofs.Ythnopcoahcdjjaa.Ly10
open Go.ChangeShapes Go.WideShapes Go.ChangeAt Go.RowKit Base
set_option linter.unusedVariables false
set_option linter.unusedSimpArgs false

theorem read_back (m e0 e1 n : Nat) (code : List Nat) (A : Option Addr) (c : Nat) (w : World) (hm : m < 16) (hn1 : 1 ≤ n) (hn2 : n ≤ 1024) (h0 : e0 < n) (h1 : e1 < n) (hcl : code.length = n) (hb : ∀ x ∈ code, x < 256)
    (hl : Lst w A (11 + n) (u8s (imgB m e0 e1 code))) (hnc : 11 + n ≤ c) (hc : c ≤ 9223372036854775807) :
    Calls Try.prog 29 #[.slice A (11 + n) c] w fun e w' => ∃ g, e = .returned (.tuple #[imv m e0 e1 (some ⟨g, 0, none⟩) n n, .int .i64 0]) ∧ Hid (w.heap.size ≤ g) ∧ Hid (Lst w' (some ⟨g, 0, none⟩) n (u8s code)) ∧ Hid (Below w.heap.size w w') := by
  have hbl := imgB_lt (m := m) (e0 := e0) (e1 := e1) (code := code) (by omega) (by omega) (by omega) (by omega) hb
  have hW := imgB_whole m e0 e1 code
  have hF := imgB_fields m e0 e1 code
  rw [hcl] at hW hF
  obtain ⟨f2, f3, f5, f7, fd⟩ := hF
  refine (read_any A (11 + n) c (imgB m e0 e1 code) w (by omega) (by omega) hnc hc hl hbl).mono ?_
  rintro e w' ⟨v, x, rfl, hr, hbw⟩
  have hn : 11 + n - 11 = n := by omega
  cases hr.out with
  | form h => exact absurd ⟨hW.pre, hW.long⟩ h
  | sum h h2 => exact absurd hW.sum h2
  | right h h2 h3 =>
    refine absurd ?_ h3
    rw [f2, f3, f5, hn]
    unfold RI
    omega
  | ok h h2 h3 g hg hl' =>
    rw [f2, f3, f5, hn]
    rw [hn, fd] at hl'
    exact ⟨g, rfl, Lib.hid hg, Lib.hid hl', hbw⟩
theorem read_nok (A : Option Addr) (n c : Nat) (bs : List Nat) (w : World) (h : ¬ (Whole bs n ∧ RI (bs.getD 2 0 : Nat) (b2 bs 3 : Nat) (b2 bs 5 : Nat) (n - 11))) (hn2 : n ≤ 100000) (hnc : n ≤ c) (hc : c ≤ 9223372036854775807) (hl : Lst w A n (u8s bs)) (hb : ∀ x ∈ bs, x < 256) :
    Calls Try.prog 29 #[.slice A n c] w fun e w' => ∃ x : Int, e = .returned (.tuple #[zi, .int .i64 x]) ∧ Hid ((x == 0) = false ∧ (x != 0) = true) ∧ Hid (Below w.heap.size w w') := by
  by_cases hn : n < 11
  · refine (read_short A n c w hn).mono ?_
    rintro e w' ⟨rfl, hbw⟩
    exact ⟨10, rfl, Lib.hid ⟨rfl, rfl⟩, hbw⟩
  · have hlen : bs.length = n := by have := hl.1; rwa [u8s_len] at this
    refine (read_any A n c bs w (by omega) hn2 hnc hc hl hb).mono ?_
    rintro e w' ⟨v, x, rfl, hr, hbw⟩
    cases hr.out with
    | form h' => exact ⟨11, rfl, Lib.hid ⟨rfl, rfl⟩, hbw⟩
    | sum h' h2 => exact ⟨12, rfl, Lib.hid ⟨rfl, rfl⟩, hbw⟩
    | right h' h2 h3 => exact ⟨11, rfl, Lib.hid ⟨rfl, rfl⟩, hbw⟩
    | ok h' h2 h3 g hg hl' => exact absurd ⟨⟨hlen, h'.1, h'.2, h2⟩, h3⟩ h
theorem read_not (A : Option Addr) (n c : Nat) (bs : List Nat) (w : World) (h : ¬ Whole bs n) (hn2 : n ≤ 100000) (hnc : n ≤ c) (hc : c ≤ 9223372036854775807) (hl : Lst w A n (u8s bs)) (hb : ∀ x ∈ bs, x < 256) :
    Calls Try.prog 29 #[.slice A n c] w fun e w' => ∃ x : Int, e = .returned (.tuple #[zi, .int .i64 x]) ∧ Hid ((x == 0) = false ∧ (x != 0) = true) ∧ Hid (Below w.heap.size w w') :=
  read_nok A n c bs w (fun h' => h h'.1) hn2 hnc hc hl hb
theorem read_ok (A : Option Addr) (n c : Nat) (bs : List Nat) (w : World) (h : Whole bs n) (hr : RI (bs.getD 2 0 : Nat) (b2 bs 3 : Nat) (b2 bs 5 : Nat) (n - 11)) (hn : 11 ≤ n) (hn2 : n ≤ 100000) (hnc : n ≤ c) (hc : c ≤ 9223372036854775807) (hl : Lst w A n (u8s bs)) (hb : ∀ x ∈ bs, x < 256) :
    Calls Try.prog 29 #[.slice A n c] w fun e w' => ∃ g, e = .returned (.tuple #[imv (bs.getD 2 0 : Nat) (b2 bs 3 : Nat) (b2 bs 5 : Nat) (some ⟨g, 0, none⟩) (n - 11) (n - 11), .int .i64 0]) ∧ Hid (w.heap.size ≤ g) ∧ Hid (Lst w' (some ⟨g, 0, none⟩) (n - 11) (u8s ((bs.drop 9).take (n - 11)))) ∧ Hid (Below w.heap.size w w') := by
  refine (read_any A n c bs w hn hn2 hnc hc hl hb).mono ?_
  rintro e w' ⟨v, x, rfl, hr', hbw⟩
  cases hr'.out with
  | form h' => exact absurd ⟨h.pre, h.long⟩ h'
  | sum h' h2 => exact absurd h.sum h2
  | right h' h2 h3 => exact absurd hr h3
  | ok h' h2 h3 g hg hl' => exact ⟨g, rfl, Lib.hid hg, Lib.hid hl', hbw⟩
set_option maxRecDepth 100000 in
set_option maxHeartbeats 2000000 in
theorem same_yes (m e0 e1 : Int) (A : Option Addr) (n c : Nat) (B : Option Addr) (d : Nat) (xs : List Nat) (w : World) (ha : Lst w A n (u8s xs)) (hb : Lst w B n (u8s xs)) (hx : ∀ x ∈ xs, x < 256) :
    Calls Try.prog 34 #[imv m e0 e1 A n c, imv m e0 e1 B n d] w fun e w' => e = .returned (.bool true) ∧ Hid (Below w.heap.size w w') := by
  have HB := Lib.hid (show Below w.heap.size w ((w.alloc (.cells (c4 m e0 e1 A n c) TI)).alloc (.cells (c4 m e0 e1 B n d) TI)) from ((Below.refl _ _).alloc (Nat.le_refl _) _).alloc (by simp) _)
  have e1s : (w.alloc (.cells (c4 m e0 e1 A n c) TI)).heap.size = w.heap.size + 1 := by simp
  have ho := (Obj1.new w TI (c4 m e0 e1 A n c)).alloc (.cells (c4 m e0 e1 B n d) TI)
  have hp := Obj1.new (w.alloc (.cells (c4 m e0 e1 A n c) TI)) TI (c4 m e0 e1 B n d)
  rw [e1s] at hp
  obtain ⟨k0, k1, k2, k3⟩ := cells4 ho
  obtain ⟨q0, q1, q2, q3⟩ := cells4 hp
  have HE := Lib.hid (equal_any A B n c n d xs xs _ (ha.kept HB.out) (hb.kept HB.out) hx hx)
  rw [show decide (xs = xs) = true by simp] at HE
  have h2 : ∀ W, (binOp .eql 44 (.agg #[.int .i64 e0, .int .i64 e1]) (.agg #[.int .i64 e0, .int .i64 e1])).run Try.prog W = .ok (.bool true) W := fun W => by
    obtain ⟨i, hi⟩ : ∃ i, Try.prog.info? 3 = some i := Option.isSome_iff_exists.1 (by kernel_rfl)
    rw [eql_two W Try.underlying44 hi (by kernel_rfl) (by kernel_rfl) Try.underlying3]
    simp
  clear ha hb hx ho hp e1s
  go_enter Try.func34, Try.ntmps34
  go_wp2_with fail
  refine HE.out.mono ?_
  rintro e w' ⟨rfl, rfl⟩
  go_wp2
  go_ret
  exact ⟨rfl, HB⟩
theorem nats_of (l : List Int) (hbd : ∀ x ∈ l, 0 ≤ x ∧ x ≤ 255) : ∃ xs : List Nat, l.map (Value.int .u8) = u8s xs ∧ ∀ x ∈ xs, x < 256 := by
  refine ⟨l.map Int.toNat, ?_, ?_⟩
  · rw [u8s, List.map_map]
    apply List.map_congr_left
    intro x hx
    have := hbd x hx
    simp only [Function.comp]
    rw [Int.toNat_of_nonneg this.1]
  · intro x hx
    obtain ⟨z, hz, rfl⟩ := List.mem_map.1 hx
    have := hbd z hz
    omega
theorem sum9 : sumL 65535 [49, 50, 51, 52, 53, 54, 55, 56, 57] = 10673 := by
  simp only [sumL, List.foldl_cons, List.foldl_nil, SB_def]
  kernel_rfl
theorem lst_const {w : World} {cs : Array Value} {T : TypeId} {m : Nat × Nat} : Lst (w.alloc (.cells cs T m)) (some ⟨w.heap.size, 0, none⟩) cs.size cs.toList := by
  refine ⟨by simp, fun _ => ⟨w.heap.size, 0, rfl, by simp, fun k hk => ?_⟩⟩
  have hg : (w.alloc (.cells cs T m)).heap[w.heap.size]? = some (.cells cs T m) := by show (w.heap.push _)[w.heap.size]? = _; simp
  rw [Nat.zero_add]
  unfold World.cell?
  simp only [hg]
  rw [Array.getElem?_toList]
  rfl
end Go.Proofs.Ythnopcoahcdjjaa.Ly10
