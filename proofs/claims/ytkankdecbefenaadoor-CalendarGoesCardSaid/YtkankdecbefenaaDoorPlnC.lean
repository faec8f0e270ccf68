/- Package plan's windows, as they come in: the contracts of words, from, many, is, and of the library's Index and Contains over numbers; the document's cut; no condition. -/
import Derived.Test.YtkankdecbefenaaDoorObj
import Derived.Test.YtkankdecbefenaaDoorBox
import Derived.Test.YtkankdecbefenaaDoorCut
import Derived.Test.YtkankdecbefenaaDoorChecked
import Derived.RegionTactic
namespace Go.Proofs.YtkankdecbefenaaDoor.Ly7
open Go.ChangeShapes Go.WideShapes Go.ChangeAt Go.RowKit Base
set_option linter.unusedVariables false
set_option linter.unusedSimpArgs false

/-- What a window is. -/
structure Wd where
  k : Int
  b : Int
  wd : Int
  ad : Int
  A : Option Addr
  n : Nat
  c : Nat
  fs : List Int
  B : Option Addr
  m : Nat
  d : Nat
  ts : List Int
def wdC (k b wd ad : Int) (A : Option Addr) (n c : Nat) (B : Option Addr) (m d : Nat) : Array Value := #[.int .i64 k, .int .i64 b, .int .i64 wd, .int .i64 ad, .slice A n c, .slice B m d]
def Wd.cells (x : Wd) : Array Value := wdC x.k x.b x.wd x.ad x.A x.n x.c x.B x.m x.d
def Wd.v (x : Wd) : Value := .agg x.cells
structure Wd.Ok (w : World) (x : Wd) : Prop where
  fl : Lst w x.A x.n (x.fs.map (Value.int .i64))
  tl : Lst w x.B x.m (x.ts.map (Value.int .i64))
  nc : x.n ≤ x.c
  md : x.m ≤ x.d
  cm : x.c ≤ 9223372036854775807
  dm : x.d ≤ 9223372036854775807
theorem Wd.Ok.kept {w w' : World} {x : Wd} (h : x.Ok w) (hb : Below w.heap.size w w') : x.Ok w' := ⟨h.fl.kept hb, h.tl.kept hb, h.nc, h.md, h.cm, h.dm⟩
/-- A number cut to what counts. -/
def cutN (x most : Int) : Nat := (min (max x 0) most).toNat
theorem cutN_le (x most : Int) : (cutN x most : Int) ≤ max most 0 := by unfold cutN; omega
theorem cutN_is (x most : Int) (u : Nat) (h0 : 0 ≤ most) (h : cutN x most = u) : (x ≤ 0 ∧ u = 0) ∨ (0 < x ∧ x ≤ most ∧ x = u) ∨ (most < x ∧ most = u) := by unfold cutN at h; omega
theorem ret_int {k : IntKind} {a b : Int} (h : a = b) : Ending.returned (Value.int k a) = Ending.returned (Value.int k b) := by rw [h]
theorem bel1 (w : World) (o : Obj) : Below w.heap.size w (w.alloc o) := (Below.refl _ _).alloc (Nat.le_refl _) _

set_option maxRecDepth 100000 in
set_option maxHeartbeats 1000000 in
theorem words_any (k b wd ad : Int) (A : Option Addr) (n c : Nat) (B : Option Addr) (m d : Nat) (u : Nat) (hu : cutN wd 8 = u) (w : World) :
    Calls Tryd.prog 40 #[.agg #[.int .i64 k, .int .i64 b, .int .i64 wd, .int .i64 ad, .slice A n c, .slice B m d]] w fun e w' => e = .returned (.int .i64 (u : Int)) ∧ Below w.heap.size w w' := by
  rcases cutN_is _ _ _ (by omega) hu with ⟨h, rfl⟩ | ⟨h, h', rfl⟩ | ⟨h, h'⟩
  · clear hu
    go_enter Tryd.func40, Tryd.ntmps40
    go_wp2
    all_goals
      go_ret
      exact ⟨by first | rfl | exact ret_int (by omega), bel1 _ _⟩
  · clear hu
    go_enter Tryd.func40, Tryd.ntmps40
    go_wp2
    all_goals
      go_ret
      exact ⟨by first | rfl | exact ret_int (by omega), bel1 _ _⟩
  · obtain rfl : u = 8 := by omega
    clear hu h'
    go_enter Tryd.func40, Tryd.ntmps40
    go_wp2
    all_goals
      go_ret
      exact ⟨by first | rfl | exact ret_int (by omega), bel1 _ _⟩
set_option maxRecDepth 100000 in
theorem size_int : ∀ W, (sizeOf (Tryd.prog.elem 54)).run Tryd.prog W = .ok 1 W := fun W => rfl
set_option maxRecDepth 100000 in
set_option maxHeartbeats 1000000 in
theorem from_any (k b wd ad : Int) (A : Option Addr) (n c : Nat) (B : Option Addr) (m d : Nat) (q : Nat) (hq : min n 4 = q) (hc : n ≤ c) (w : World) :
    Calls Tryd.prog 49 #[.agg #[.int .i64 k, .int .i64 b, .int .i64 wd, .int .i64 ad, .slice A n c, .slice B m d]] w fun e w' => e = .returned (.slice A q c) ∧ Below w.heap.size w w' := by
  have HC := Lib.hid (fun W => cut_h Tryd.underlying54 size_int A n c q (by omega) W)
  rcases (show (n ≤ 4 ∧ q = n) ∨ (4 < n ∧ q = 4) by omega) with ⟨h, rfl⟩ | ⟨h, rfl⟩
  · have hi : (q : Int) ≤ 4 := by omega
    clear hq h
    have hcc := HC.out
    go_enter Tryd.func49, Tryd.ntmps49
    go_wp2
    go_ret
    exact ⟨rfl, bel1 _ _⟩
  · have hi : (4 : Int) < (n : Int) := by omega
    clear hq h
    have hcc := HC.out
    go_enter Tryd.func49, Tryd.ntmps49
    go_wp2
    go_ret
    exact ⟨rfl, bel1 _ _⟩
set_option maxRecDepth 100000 in
set_option maxHeartbeats 1000000 in
theorem many_any (k b wd ad : Int) (A : Option Addr) (n c : Nat) (B : Option Addr) (m d : Nat) (q : Nat) (hq : max (min n 4) 1 = q) (hc : n ≤ c) (w : World) :
    Calls Tryd.prog 41 #[.agg #[.int .i64 k, .int .i64 b, .int .i64 wd, .int .i64 ad, .slice A n c, .slice B m d]] w fun e w' => e = .returned (.int .i64 (q : Int)) ∧ Below w.heap.size w w' := by
  obtain ⟨p, hp⟩ : ∃ p, min n 4 = p := ⟨_, rfl⟩
  have HF := Lib.hid (fun W => from_any k b wd ad A n c B m d p hp hc W)
  rw [hp] at hq
  rcases (show (p < 1 ∧ q = 1) ∨ (1 ≤ p ∧ q = p) by omega) with ⟨h, rfl⟩ | ⟨h, rfl⟩
  · have hi : (p : Int) < 1 := by omega
    clear hq h hp
    go_enter Tryd.func41, Tryd.ntmps41
    go_wp2_with (go_at_call 49; refine (HF.out _).mono ?_; rintro e w' ⟨rfl, hb⟩)
    go_ret
    exact ⟨rfl, (bel1 _ _).trans (hb.mono (by simp))⟩
  · have hi : (1 : Int) ≤ (q : Int) := by omega
    clear hq h hp
    go_enter Tryd.func41, Tryd.ntmps41
    go_wp2_with (go_at_call 49; refine (HF.out _).mono ?_; rintro e w' ⟨rfl, hb⟩)
    go_ret
    exact ⟨rfl, (bel1 _ _).trans (hb.mono (by simp))⟩
theorem is_yes (v : Nat) (hv : v < 2) (w : World) : Calls Tryd.prog 27 #[.int .i64 (v : Int)] w fun e w' => e = .returned (.bool true) ∧ w = w' := by
  have h0 : (v : Int) < 2 := by omega
  go_enter Tryd.func27, Tryd.ntmps27
  go_wp2
  go_ret
  exact ⟨rfl, rfl⟩
theorem is_no (v : Int) (hv : v < 0 ∨ 2 ≤ v) (w : World) : Calls Tryd.prog 27 #[.int .i64 v] w fun e w' => e = .returned (.bool false) ∧ w = w' := by
  rcases hv with h | h
  · go_enter Tryd.func27, Tryd.ntmps27
    go_wp2
    go_ret
    exact ⟨rfl, rfl⟩
  · have h0 : 0 ≤ v := by omega
    have h1 : ¬ v < 2 := by omega
    go_enter Tryd.func27, Tryd.ntmps27
    go_wp2
    go_ret
    exact ⟨by first | rfl | (simp; done) | (simp; omega), rfl⟩
/-- The first place of a number, from k on; -1: none. -/
def idxF (xs : List Int) (y : Int) : Int := match xs.findIdx? (fun x => x == y) with | some i => (i : Int) | none => -1
theorem idx_none {xs : List Int} {y : Int} (h : ∀ x ∈ xs, x ≠ y) : idxF xs y = -1 := by
  unfold idxF
  rw [List.findIdx?_eq_none_iff.2 (fun x hx => by simpa using h x hx)]
theorem idx_at {xs : List Int} {y : Int} {i : Nat} (hi : i < xs.length) (hx : xs[i] = y) (h : ∀ j (hj : j < i), xs[j]'(by omega) ≠ y) : idxF xs y = (i : Int) := by
  unfold idxF
  rw [List.findIdx?_eq_some_iff_getElem.2 ⟨hi, by simpa using hx, fun j hj => by simpa using h j hj⟩]
theorem idx_has (xs : List Int) (y : Int) : decide (0 ≤ idxF xs y) = xs.contains y := by
  unfold idxF
  cases h : xs.findIdx? (fun x => x == y) with
  | none =>
    have := List.findIdx?_eq_none_iff.1 h
    simp
    intro hy
    have := this y hy
    simp at this
  | some i =>
    obtain ⟨hi, hx, _⟩ := List.findIdx?_eq_some_iff_getElem.1 h
    simp at hx
    simp
    exact hx ▸ List.getElem_mem hi
theorem idx_lt (xs : List Int) (y : Int) : -1 ≤ idxF xs y ∧ idxF xs y < xs.length := by
  unfold idxF
  cases h : xs.findIdx? (fun x => x == y) with
  | none => simp; omega
  | some i =>
    obtain ⟨hi, _⟩ := List.findIdx?_eq_some_iff_getElem.1 h
    simp
    omega
set_option maxRecDepth 100000 in
set_option maxHeartbeats 1000000 in
theorem index_any (A : Option Addr) (n c : Nat) (xs : List Int) (y : Int) (w : World) (h : Lst w A n (xs.map (Value.int .i64))) (hn : n ≤ 9223372036854775807) :
    Calls Tryd.prog 48 #[.slice A n c, .int .i64 y] w fun e w' => e = .returned (.int .i64 (idxF xs y)) ∧ w = w' := by
  have hl : xs.length = n := by have := h.1; simpa using this
  have HL := Lib.hid hl
  clear hl
  go_enter Tryd.func48, Tryd.ntmps48
  go_wp2
  go_loop [8] (fun i => ∃ k : Nat, k ≤ n ∧ i = .int .i64 k ∧ Hid (∀ j (hj : j < k) (hl : j < xs.length), xs[j] ≠ y)) (fun i => n - (intOf i).toNat)
  case atStart => exact ⟨0, by omega, rfl, Lib.hid (fun j hj => by omega)⟩
  case round =>
    obtain ⟨k, hk, rfl, HN⟩ := hrel
    by_cases hlt : k < n
    · have hki : (k : Int) < (n : Int) := by omega
      have hkl : k < xs.length := by rw [HL.out]; exact hlt
      obtain ⟨b, off, rfl, _, hc⟩ := h.get hlt
      rw [List.getElem_map] at hc
      obtain ⟨x, HX⟩ : ∃ x, Hid (xs[k]'hkl = x) := ⟨_, Lib.hid rfl⟩
      rw [HX.out] at hc
      by_cases hxy : y = x
      · subst hxy
        have HR := Lib.hid (idx_at hkl HX.out (fun j hj => HN.out j hj (by omega)))
        go_wp2
        go_ret
        exact ⟨by rw [HR.out]; rfl, rfl⟩
      · have he : (y == x) = false := by simpa using hxy
        clear hxy
        go_wp2
        go_round
        case rel => exact ⟨k + 1, by omega, by go_num, Lib.hid (fun j hj hl => by
          by_cases e : j = k
          · subst e
            rw [HX.out]
            intro e
            rw [e] at he
            simp at he
          · exact HN.out j (by omega) hl)⟩
        case measure => simp [intOf]; omega
    · obtain rfl : k = n := by omega
      have HR := Lib.hid (idx_none (xs := xs) (y := y) (fun x hx => by
        obtain ⟨j, hj, rfl⟩ := List.getElem_of_mem hx
        exact HN.out j (by rw [HL.out] at hj; exact hj) hj))
      go_wp2
      go_ret
      exact ⟨by rw [HR.out]; rfl, rfl⟩
theorem contains_any (A : Option Addr) (n c : Nat) (xs : List Int) (y : Int) (w : World) (h : Lst w A n (xs.map (Value.int .i64))) (hn : n ≤ 9223372036854775807) :
    Calls Tryd.prog 50 #[.slice A n c, .int .i64 y] w fun e w' => e = .returned (.bool (xs.contains y)) ∧ w = w' := by
  have HI := Lib.hid (index_any A n c xs y w h hn)
  have HD := Lib.hid (idx_has xs y)
  generalize idxF xs y = z at HI HD
  go_enter Tryd.func50, Tryd.ntmps50
  go_wp2_with (go_at_call 48; refine HI.out.mono ?_; rintro e w' ⟨rfl, rfl⟩)
  go_ret
  exact ⟨by rw [← HD.out]; rfl, rfl⟩
set_option maxRecDepth 100000 in
set_option maxHeartbeats 1000000 in
theorem rcut_any (x most : Int) (u : Nat) (hu : cutN x most = u) (h0 : 0 ≤ most) (w : World) :
    Calls Tryd.prog 26 #[.int .i64 x, .int .i64 most] w fun e w' => e = .returned (.int .i64 (u : Int)) ∧ w = w' := by
  rcases cutN_is _ _ _ h0 hu with ⟨h, rfl⟩ | ⟨h, h', rfl⟩ | ⟨h, rfl⟩
  · have h2 : x ≤ most := by omega
    clear hu
    go_enter Tryd.func26, Tryd.ntmps26
    go_wp2
    all_goals
      go_ret
      exact ⟨by first | rfl | exact ret_int (by omega), rfl⟩
  · clear hu
    go_enter Tryd.func26, Tryd.ntmps26
    go_wp2
    all_goals
      go_ret
      exact ⟨by first | rfl | exact ret_int (by omega), rfl⟩
  · clear hu
    go_enter Tryd.func26, Tryd.ntmps26
    go_wp2
    all_goals
      go_ret
      exact ⟨by first | rfl | exact ret_int (by omega), rfl⟩
end Go.Proofs.YtkankdecbefenaaDoor.Ly7
