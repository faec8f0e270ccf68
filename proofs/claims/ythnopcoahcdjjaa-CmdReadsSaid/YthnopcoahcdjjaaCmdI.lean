/- The contracts of package cmd's numbers, with, Clean, of any command; Own; no condition. -/
import Derived.Test.YthnopcoahcdjjaaCmdE
namespace Go.Proofs.Ythnopcoahcdjjaa.Ly9
open Go.ChangeShapes Go.WideShapes Go.ChangeAt Go.RowKit Base
set_option linter.unusedVariables false
set_option linter.unusedSimpArgs false

theorem and255g (t : Int) (h0 : -9223372036854775808 ≤ t) (h1 : t ≤ 9223372036854775807) : Go.bits BinOp.and IntKind.i64 t 255 = t % 256 := by
  have h : (BitVec.ofInt 64 t &&& BitVec.ofInt 64 255).toNat = (t % 256).toNat := by
    rw [BitVec.toNat_and]
    have e2 : (BitVec.ofInt 64 255).toNat = 2 ^ 8 - 1 := by decide
    rw [e2, Nat.and_two_pow_sub_one_eq_mod]
    simp
    omega
  show IntKind.i64.wrap ((BitVec.ofInt 64 t &&& BitVec.ofInt 64 255).toNat : Int) = _
  rw [h]
  simp only [IntKind.wrap, IntKind.bits, IntKind.signed]
  simp
  omega
theorem or8g (x y : Int) (h0 : -36028797018963968 ≤ x) (h1 : x ≤ 36028797018963967) (k0 : 0 ≤ y) (k1 : y ≤ 255) : Go.bits BinOp.or IntKind.i64 (x * 256) y = x * 256 + y := by
  obtain ⟨b, rfl⟩ : ∃ k : Nat, y = (k : Int) := ⟨y.toNat, by omega⟩
  have hb : b < 2 ^ 8 := by omega
  obtain ⟨z, hz⟩ : ∃ z : Nat, (x % 72057594037927936).toNat = z := ⟨_, rfl⟩
  have h : (BitVec.ofInt 64 (x * 256) ||| BitVec.ofInt 64 (b : Int)).toNat = z * 256 + b := by
    rw [BitVec.toNat_or]
    have e1 : (BitVec.ofInt 64 (x * 256)).toNat = z * 256 := by simp; omega
    have e2 : (BitVec.ofInt 64 (b : Int)).toNat = b := by simp; omega
    rw [e1, e2]
    have := Nat.shiftLeft_add_eq_or_of_lt hb z
    rw [Nat.shiftLeft_eq] at this
    exact this.symm
  show IntKind.i64.wrap ((BitVec.ofInt 64 (x * 256) ||| BitVec.ofInt 64 (b : Int)).toNat : Int) = _
  rw [h]
  simp only [IntKind.wrap, IntKind.bits, IntKind.signed]
  simp
  omega
set_option maxHeartbeats 4000000 in
theorem numbers_gen (o a s c m b t : Int) (w : World) (t0 : -9223372036854775808 ≤ t) (t1 : t ≤ 9223372036854775807) :
    Calls Try.prog 46 #[cv o a s c m b t] w fun e w' => ∃ A, e = .returned (.slice A (nums o a s c m b t).length (nums o a s c m b t).length) ∧ Hid (NR w w' A (nums o a s c m b t)) ∧ Hid (Below w.heap.size w w') := by
  obtain ⟨W, hW⟩ : ∃ W, W = w.alloc (.cells #[.int .i64 o, .int .i64 a, .int .i64 s, .int .i64 c, .int .i64 m, .int .i64 b, .int .i64 t] TC) := ⟨_, rfl⟩
  have HW := Lib.hid hW
  have hb : Below w.heap.size w W := by rw [hW]; exact (Below.refl _ _).alloc (Nat.le_refl _) _
  have HB := Lib.hid hb
  have hl : w.heap.size ≤ W.heap.size := hb.size
  clear hb hW
  have hf : (¬ o = 1 ∧ ¬ o = 2 ∧ ¬ o = 3 ∧ ¬ o = 4 ∧ ¬ o = 6 ∧ ¬ o = 8) → ((o == 1) = false ∧ (o == 2) = false ∧ (o == 3) = false ∧ (o == 4) = false ∧ (o == 6) = false ∧ (o == 8) = false) := by
    rintro ⟨h1, h2, h3, h4, h5, h6⟩
    simp [h1, h2, h3, h4, h5, h6]
  rcases (show o = 1 ∨ o = 2 ∨ o = 3 ∨ o = 4 ∨ o = 6 ∨ o = 8 ∨ (¬ o = 1 ∧ ¬ o = 2 ∧ ¬ o = 3 ∧ ¬ o = 4 ∧ ¬ o = 6 ∧ ¬ o = 8) by omega) with rfl | rfl | rfl | rfl | rfl | rfl | q
  case inr.inr.inr.inr.inr.inr =>
    obtain ⟨e1, e2, e3, e4, e6, e8⟩ := hf q
    have hn : nums o a s c m b t = [] := by
      unfold nums
      obtain ⟨h1, h2, h3, h4, h5, h6⟩ := q
      rw [if_neg h1, if_neg h2, if_neg h3, if_neg h4, if_neg (by omega)]
    rw [hn]
    clear hf q hn
    go_enter Try.func46, Try.ntmps46
    go_wp2
    go_ret
    exact ⟨none, rfl, Lib.hid ⟨fun _ => rfl, fun h => absurd rfl h⟩, by rw [← HW.out]; exact HB.out⟩
  case' inr.inr.inr.inr.inl =>
    have ha := and255g t t0 t1
  case' inr.inr.inr.inr.inr.inl =>
    have ha := and255g t t0 t1
  all_goals
    clear hf
    simp only [nums, Int.reduceEq, if_true, if_false, reduceIte, true_or, or_true]
    go_enter Try.func46, Try.ntmps46
    go_wp2
    go_ret
    refine ⟨_, rfl, Lib.hid (nr_new (List.cons_ne_nil _ _)), Lib.hid ?_⟩
    exact ((Below.refl _ _).alloc (Nat.le_refl _) _).alloc (by simp) _
set_option maxRecDepth 100000 in
set_option maxHeartbeats 8000000 in
theorem with_gen (o : Int) (ns : List Int) (A : Option Addr) (n : Nat) (w : World) (hl : Lst w A n (ns.map (Value.int .i64))) (hn : ns.length = cnt o) (hb : (o = 6 ∨ o = 8) → (-36028797018963968 ≤ ns.getD 0 0 ∧ ns.getD 0 0 ≤ 36028797018963967) ∧ 0 ≤ ns.getD 1 0 ∧ ns.getD 1 0 ≤ 255) :
    Calls Try.prog 49 #[.int .i64 o, .slice A n n] w fun e w' => e = .returned (wth o ns) ∧ Below w.heap.size w w' := by
  have hnl : ns.length = n := by simpa using hl.1
  rcases (show o = 1 ∨ o = 2 ∨ o = 3 ∨ o = 4 ∨ o = 6 ∨ o = 8 ∨ (¬ o = 1 ∧ ¬ o = 2 ∧ ¬ o = 3 ∧ ¬ o = 4 ∧ ¬ o = 6 ∧ ¬ o = 8) by omega) with rfl | rfl | rfl | rfl | rfl | rfl | q
  · obtain ⟨n0, n1, n2, n3, rfl⟩ : ∃ a b c d, ns = [a, b, c, d] := by
      match ns, hn with
      | [a, b, c, d], _ => exact ⟨a, b, c, d, rfl⟩
    simp at hnl
    subst hnl
    obtain ⟨b, off, rfl, _, hc⟩ := hl.2 (by omega)
    have c0 := hc 0 (by omega)
    have c1 := hc 1 (by omega)
    have c2 := hc 2 (by omega)
    have c3 := hc 3 (by omega)
    simp only [List.map_cons, List.getElem?_cons_zero, List.getElem?_cons_succ, Nat.add_zero] at c0 c1 c2 c3
    clear hc hl hb hn
    have hv : wth 1 [n0, n1, n2, n3] = cv 1 n0 n1 n2 n3 0 0 := rfl
    rw [hv]
    go_enter Try.func49, Try.ntmps49
    go_wp2
    go_region
    go_wp2
    refine bodyPost_ret (by simp [results, Try.results49, go_sem]) rfl ⟨rfl, ?_⟩
    repeat (first | exact Below.refl _ _ | refine Below.setCell ?_ (by first | omega | (simp; done) | (simp; omega)) _ | refine Below.alloc ?_ (by first | omega | (simp; done) | (simp; omega)) _ | refine below_drewN' ?_ _ | refine Below.drew ?_)
  · obtain ⟨n0, n1, n2, rfl⟩ : ∃ a b c, ns = [a, b, c] := by
      match ns, hn with
      | [a, b, c], _ => exact ⟨a, b, c, rfl⟩
    simp at hnl
    subst hnl
    obtain ⟨b, off, rfl, _, hc⟩ := hl.2 (by omega)
    have c0 := hc 0 (by omega)
    have c1 := hc 1 (by omega)
    have c2 := hc 2 (by omega)
    simp only [List.map_cons, List.getElem?_cons_zero, List.getElem?_cons_succ, Nat.add_zero] at c0 c1 c2
    clear hc hl hb hn
    have hv : wth 2 [n0, n1, n2] = cv 2 n0 n1 0 n2 0 0 := rfl
    rw [hv]
    go_enter Try.func49, Try.ntmps49
    go_wp2
    go_region
    go_wp2
    refine bodyPost_ret (by simp [results, Try.results49, go_sem]) rfl ⟨rfl, ?_⟩
    repeat (first | exact Below.refl _ _ | refine Below.setCell ?_ (by first | omega | (simp; done) | (simp; omega)) _ | refine Below.alloc ?_ (by first | omega | (simp; done) | (simp; omega)) _ | refine below_drewN' ?_ _ | refine Below.drew ?_)
  · obtain ⟨n0, n1, rfl⟩ : ∃ a b, ns = [a, b] := by
      match ns, hn with
      | [a, b], _ => exact ⟨a, b, rfl⟩
    simp at hnl
    subst hnl
    obtain ⟨b, off, rfl, _, hc⟩ := hl.2 (by omega)
    have c0 := hc 0 (by omega)
    have c1 := hc 1 (by omega)
    simp only [List.map_cons, List.getElem?_cons_zero, List.getElem?_cons_succ, Nat.add_zero] at c0 c1
    clear hc hl hb hn
    have hv : wth 3 [n0, n1] = cv 3 0 n0 0 n1 0 0 := rfl
    rw [hv]
    go_enter Try.func49, Try.ntmps49
    go_wp2
    go_region
    go_wp2
    refine bodyPost_ret (by simp [results, Try.results49, go_sem]) rfl ⟨rfl, ?_⟩
    repeat (first | exact Below.refl _ _ | refine Below.setCell ?_ (by first | omega | (simp; done) | (simp; omega)) _ | refine Below.alloc ?_ (by first | omega | (simp; done) | (simp; omega)) _ | refine below_drewN' ?_ _ | refine Below.drew ?_)
  · obtain ⟨n0, rfl⟩ : ∃ a, ns = [a] := by
      match ns, hn with
      | [a], _ => exact ⟨a, rfl⟩
    simp at hnl
    subst hnl
    obtain ⟨b, off, rfl, _, hc⟩ := hl.2 (by omega)
    have c0 := hc 0 (by omega)
    simp only [List.map_cons, List.getElem?_cons_zero, List.getElem?_cons_succ, Nat.add_zero] at c0
    clear hc hl hb hn
    have hv : wth 4 [n0] = cv 4 0 0 0 0 n0 0 := rfl
    rw [hv]
    go_enter Try.func49, Try.ntmps49
    go_wp2
    refine bodyPost_ret (by simp [results, Try.results49, go_sem]) rfl ⟨rfl, ?_⟩
    repeat (first | exact Below.refl _ _ | refine Below.setCell ?_ (by first | omega | (simp; done) | (simp; omega)) _ | refine Below.alloc ?_ (by first | omega | (simp; done) | (simp; omega)) _ | refine below_drewN' ?_ _ | refine Below.drew ?_)
  · obtain ⟨n0, n1, rfl⟩ : ∃ a b, ns = [a, b] := by
      match ns, hn with
      | [a, b], _ => exact ⟨a, b, rfl⟩
    simp at hnl
    subst hnl
    obtain ⟨b, off, rfl, _, hc⟩ := hl.2 (by omega)
    have c0 := hc 0 (by omega)
    have c1 := hc 1 (by omega)
    simp only [List.map_cons, List.getElem?_cons_zero, List.getElem?_cons_succ, Nat.add_zero] at c0 c1
    obtain ⟨⟨p0, p1⟩, q0, q1⟩ := hb (by omega)
    simp only [List.getD_cons_zero, List.getD_cons_succ] at p0 p1 q0 q1
    have ho := or8g n0 n1 p0 p1 q0 q1
    clear hc hl hb hn
    have hv : wth 6 [n0, n1] = cv 6 0 0 0 0 0 (n0 * 256 + n1) := rfl
    rw [hv]
    go_enter Try.func49, Try.ntmps49
    go_wp2
    go_region
    go_wp2
    refine bodyPost_ret (by simp [results, Try.results49, go_sem]) rfl ⟨rfl, ?_⟩
    repeat (first | exact Below.refl _ _ | refine Below.setCell ?_ (by first | omega | (simp; done) | (simp; omega)) _ | refine Below.alloc ?_ (by first | omega | (simp; done) | (simp; omega)) _ | refine below_drewN' ?_ _ | refine Below.drew ?_)
  · obtain ⟨n0, n1, rfl⟩ : ∃ a b, ns = [a, b] := by
      match ns, hn with
      | [a, b], _ => exact ⟨a, b, rfl⟩
    simp at hnl
    subst hnl
    obtain ⟨b, off, rfl, _, hc⟩ := hl.2 (by omega)
    have c0 := hc 0 (by omega)
    have c1 := hc 1 (by omega)
    simp only [List.map_cons, List.getElem?_cons_zero, List.getElem?_cons_succ, Nat.add_zero] at c0 c1
    obtain ⟨⟨p0, p1⟩, q0, q1⟩ := hb (by omega)
    simp only [List.getD_cons_zero, List.getD_cons_succ] at p0 p1 q0 q1
    have ho := or8g n0 n1 p0 p1 q0 q1
    clear hc hl hb hn
    have hv : wth 8 [n0, n1] = cv 8 0 0 0 0 0 (n0 * 256 + n1) := rfl
    rw [hv]
    go_enter Try.func49, Try.ntmps49
    go_wp2
    go_region
    go_wp2
    refine bodyPost_ret (by simp [results, Try.results49, go_sem]) rfl ⟨rfl, ?_⟩
    repeat (first | exact Below.refl _ _ | refine Below.setCell ?_ (by first | omega | (simp; done) | (simp; omega)) _ | refine Below.alloc ?_ (by first | omega | (simp; done) | (simp; omega)) _ | refine below_drewN' ?_ _ | refine Below.drew ?_)
  · have hf : (o == 1) = false ∧ (o == 2) = false ∧ (o == 3) = false ∧ (o == 4) = false ∧ (o == 6) = false ∧ (o == 8) = false := by
      obtain ⟨h1, h2, h3, h4, h5, h6⟩ := q
      simp [h1, h2, h3, h4, h5, h6]
    obtain ⟨e1, e2, e3, e4, e6, e8⟩ := hf
    have hv : wth o ns = cv o 0 0 0 0 0 0 := by
      obtain ⟨h1, h2, h3, h4, h5, h6⟩ := q
      unfold wth
      rw [if_neg h1, if_neg h2, if_neg h3, if_neg h4, if_neg (by omega)]
    rw [hv]
    clear hl hb hn hnl q hv
    go_enter Try.func49, Try.ntmps49
    go_wp2
    refine bodyPost_ret (by simp [results, Try.results49, go_sem]) rfl ⟨rfl, ?_⟩
    repeat (first | exact Below.refl _ _ | refine Below.setCell ?_ (by first | omega | (simp; done) | (simp; omega)) _ | refine Below.alloc ?_ (by first | omega | (simp; done) | (simp; omega)) _ | refine below_drewN' ?_ _ | refine Below.drew ?_)
theorem nums_bdg (o a s c m b t : Int) (t0 : -9223372036854775808 ≤ t) (t1 : t ≤ 9223372036854775807) : (o = 6 ∨ o = 8) → (-36028797018963968 ≤ (nums o a s c m b t).getD 0 0 ∧ (nums o a s c m b t).getD 0 0 ≤ 36028797018963967) ∧ 0 ≤ (nums o a s c m b t).getD 1 0 ∧ (nums o a s c m b t).getD 1 0 ≤ 255 := by
  intro h
  unfold nums
  rw [if_neg (by omega), if_neg (by omega), if_neg (by omega), if_neg (by omega), if_pos h]
  simp only [List.getD_cons_zero, List.getD_cons_succ]
  omega
/-- numbers, beside two commands that lie in memory. -/
theorem numbers_keepg {o a s c m b t : Int} (w : World) (t0 : -9223372036854775808 ≤ t) (t1 : t ≤ 9223372036854775807) {g1 g2 : Nat} (h1 : Obj1 w g1 TC (c7 o a s c m b t)) (h2 : Obj1 w g2 TC (c7 0 0 0 0 0 0 0)) (k : Nat) (hk : k = (nums o a s c m b t).length) :
    Calls Try.prog 46 #[cv o a s c m b t] w fun e w' => ∃ A, e = .returned (.slice A k k) ∧ Hid (NR w w' A (nums o a s c m b t)) ∧ Hid (Below w.heap.size w w') ∧ Hid (Obj1 w' g1 TC (c7 o a s c m b t)) ∧ Hid (Obj1 w' g2 TC (c7 0 0 0 0 0 0 0)) ∧ w'.cell? ⟨g1, 0, none⟩ = some (.int .i64 o) := by
  subst hk
  exact (numbers_gen o a s c m b t w t0 t1).mono fun e w' ⟨A, h, hn, hb⟩ => ⟨A, h, hn, hb, h1.kept hb.out, h2.kept hb.out, (h1.kept hb.out).cell 0⟩
theorem with_keepg {o : Int} {ns : List Int} {A : Option Addr} {k : Nat} (w w0 : World) (hn : NR w0 w A ns) (hc : ns.length = cnt o) (hk : k = ns.length) (hb : (o = 6 ∨ o = 8) → (-36028797018963968 ≤ ns.getD 0 0 ∧ ns.getD 0 0 ≤ 36028797018963967) ∧ 0 ≤ ns.getD 1 0 ∧ ns.getD 1 0 ≤ 255) {x1 x2 x3 x4 x5 x6 : Int} (hw : wth o ns = cv o x1 x2 x3 x4 x5 x6) {g2 : Nat} (h2 : Obj1 w g2 TC (c7 0 0 0 0 0 0 0)) :
    Calls Try.prog 49 #[.int .i64 o, .slice A k k] w fun e w' => e = .returned (cv o x1 x2 x3 x4 x5 x6) ∧ Hid (Below w.heap.size w w') ∧ (w'.cell? ⟨g2, 0, none⟩ = some (.int .i64 0) ∧ w'.cell? ⟨g2, 1, none⟩ = some (.int .i64 0) ∧ w'.cell? ⟨g2, 2, none⟩ = some (.int .i64 0) ∧ w'.cell? ⟨g2, 3, none⟩ = some (.int .i64 0) ∧ w'.cell? ⟨g2, 4, none⟩ = some (.int .i64 0) ∧ w'.cell? ⟨g2, 5, none⟩ = some (.int .i64 0) ∧ w'.cell? ⟨g2, 6, none⟩ = some (.int .i64 0)) ∧
      (w'.frozen? ⟨g2, 0, none⟩ = false ∧ w'.frozen? ⟨g2, 1, none⟩ = false ∧ w'.frozen? ⟨g2, 2, none⟩ = false ∧ w'.frozen? ⟨g2, 3, none⟩ = false ∧ w'.frozen? ⟨g2, 4, none⟩ = false ∧ w'.frozen? ⟨g2, 5, none⟩ = false ∧ w'.frozen? ⟨g2, 6, none⟩ = false) := by
  subst hk
  exact (with_gen o ns A ns.length w hn.lst hc hb).mono fun e w' ⟨h, hb'⟩ => ⟨by rw [h, hw], hb', cells7 (h2.kept hb'), frees7 (h2.kept hb')⟩

set_option maxRecDepth 100000 in
set_option maxHeartbeats 8000000 in
theorem clean_cvg (o a s c m b t : Int) (x1 x2 x3 x4 x5 x6 : Int) (hw : wth o (nums o a s c m b t) = cv o x1 x2 x3 x4 x5 x6) (w : World) (t0 : -9223372036854775808 ≤ t) (t1 : t ≤ 9223372036854775807) :
    Calls Try.prog 19 #[cv o a s c m b t] w fun e w' => e = .returned (cv o x1 x2 x3 x4 x5 x6) ∧ Below w.heap.size w w' := by
  have HW := Lib.hid hw
  have HBN := Lib.hid (nums_bdg o a s c m b t t0 t1)
  have HNL := Lib.hid (nums_len o a s c m b t)
  have HB := Lib.hid (show Below w.heap.size w ((w.alloc (.cells (c7 o a s c m b t) TC)).alloc (.cells (c7 0 0 0 0 0 0 0) TC)) from ((Below.refl _ _).alloc (Nat.le_refl _) _).alloc (by simp) _)
  have HO1 := Lib.hid ((Obj1.new w TC (c7 o a s c m b t)).alloc (.cells (c7 0 0 0 0 0 0 0) TC))
  have HO2 := Lib.hid (Obj1.new (w.alloc (.cells (c7 o a s c m b t) TC)) TC (c7 0 0 0 0 0 0 0))
  rw [show (w.alloc (.cells (c7 o a s c m b t) TC)).heap.size = w.heap.size + 1 by simp] at HO2
  obtain ⟨k, HK⟩ : ∃ k, Hid (k = (nums o a s c m b t).length) := ⟨_, Lib.hid rfl⟩
  clear hw
  go_enter Try.func19, Try.ntmps19
  go_wp2
  generalize (w.alloc (.cells #[.int .i64 o, .int .i64 a, .int .i64 s, .int .i64 c, .int .i64 m, .int .i64 b, .int .i64 t] TC)).alloc (.cells #[.int .i64 0, .int .i64 0, .int .i64 0, .int .i64 0, .int .i64 0, .int .i64 0, .int .i64 0] TC) = W at HB HO1 HO2 ⊢
  obtain ⟨c0, c1, c2, c3, c4, c5, c6⟩ := cells7 HO1.out
  have HS := HB.out.size
  go_region_with (first
    | (go_at_call 46; refine (numbers_keepg _ t0 t1 HO1.out.drew HO2.out.drew k HK.out).mono ?_; rintro e wa ⟨A, rfl, HNR, HBa, HP1, HP2, p0⟩)
    | (go_at_call 49; refine (with_keepg _ _ HNR.out HNL.out HK.out HBN.out HW.out HP2.out).mono ?_; rintro e wb ⟨rfl, HBb, ⟨z0, z1, z2, z3, z4, z5, z6⟩, ⟨f0, f1, f2, f3, f4, f5, f6⟩⟩))
  all_goals
    go_wp2
    refine bodyPost_ret (by simp [results, Try.results19, go_sem, z0, z1, z2, z3, z4, z5, z6]) rfl ⟨rfl, ?_⟩
    have h1 : Below w.heap.size w wa := (HB.out.drew).trans (HBa.out.mono HS)
    have h2 : Below w.heap.size w wb := h1.trans (HBb.out.mono h1.size)
    exact set7' h2 (by omega) _ _ _ _ _ _ _
theorem clean_gen (o a s c m b t : Int) (w : World) (t0 : -9223372036854775808 ≤ t) (t1 : t ≤ 9223372036854775807) :
    Calls Try.prog 19 #[cv o a s c m b t] w fun e w' => e = .returned (wth o (nums o a s c m b t)) ∧ Below w.heap.size w w' := by
  obtain ⟨x1, x2, x3, x4, x5, x6, h⟩ := wth_cv o (nums o a s c m b t)
  rw [h]
  exact clean_cvg o a s c m b t x1 x2 x3 x4 x5 x6 h w t0 t1
theorem own_any (o a s c m b t : Int) (w : World) : Calls Try.prog 15 #[cv o a s c m b t] w fun e w' => e = .returned (cv o a s c m b t) ∧ Below w.heap.size w w' := by
  go_enter Try.func15, Try.ntmps15
  go_wp2
  refine bodyPost_ret (v := cv o a s c m b t) (by simp [results, Try.results15, go_sem]) rfl ⟨rfl, ?_⟩
  repeat (first | exact Below.refl _ _ | refine Below.setCell ?_ (by first | omega | (simp; done) | (simp; omega)) _ | refine Below.alloc ?_ (by first | omega | (simp; done) | (simp; omega)) _ | refine below_drewN' ?_ _ | refine Below.drew ?_)
end Go.Proofs.Ythnopcoahcdjjaa.Ly9
