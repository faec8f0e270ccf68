/- The contract of package cmd's Clean; no condition. -/
import Derived.Test.YthnopcoahcdjjaaCmdD
namespace Go.Proofs.Ythnopcoahcdjjaa.Ly9
open Go.ChangeShapes Go.WideShapes Go.ChangeAt Go.RowKit Base
set_option linter.unusedVariables false
set_option linter.unusedSimpArgs false

theorem NR.lst {w w' : World} {A : Option Addr} {ns : List Int} (h : NR w w' A ns) : Lst w' A ns.length (ns.map (Value.int .i64)) := by
  refine ⟨by simp, fun hn => ?_⟩
  obtain ⟨g, e, _, ho⟩ := h.2 (by intro h; rw [h] at hn; simp at hn)
  exact ⟨g, 0, e, ho.lt, fun k hk => by rw [Nat.zero_add, ho.cell, List.getElem?_toArray]⟩
theorem wth_cv (o : Int) (ns : List Int) : ∃ a s c m b t, wth o ns = cv o a s c m b t := by
  unfold wth
  split
  · exact ⟨_, _, _, _, _, _, rfl⟩
  split
  · exact ⟨_, _, _, _, _, _, rfl⟩
  split
  · exact ⟨_, _, _, _, _, _, rfl⟩
  split
  · exact ⟨_, _, _, _, _, _, rfl⟩
  split
  · exact ⟨_, _, _, _, _, _, rfl⟩
  · exact ⟨_, _, _, _, _, _, rfl⟩
theorem nums_bd (o a s c m b t : Int) (ht : (o = 6 ∨ o = 8) → 0 ≤ t ∧ t ≤ 1023) : (o = 6 ∨ o = 8) → ∀ x ∈ nums o a s c m b t, 0 ≤ x ∧ x ≤ 255 := by
  intro h x hx
  have := ht h
  unfold nums at hx
  rw [if_neg (by omega), if_neg (by omega), if_neg (by omega), if_neg (by omega), if_pos h] at hx
  simp at hx
  omega
abbrev c7 (o a s c m b t : Int) : Array Value := #[.int .i64 o, .int .i64 a, .int .i64 s, .int .i64 c, .int .i64 m, .int .i64 b, .int .i64 t]
theorem cells7 {w : World} {g : Nat} {o a s c m b t : Int} (h : Obj1 w g TC (c7 o a s c m b t)) :
    w.cell? ⟨g, 0, none⟩ = some (.int .i64 o) ∧ w.cell? ⟨g, 1, none⟩ = some (.int .i64 a) ∧ w.cell? ⟨g, 2, none⟩ = some (.int .i64 s) ∧ w.cell? ⟨g, 3, none⟩ = some (.int .i64 c) ∧ w.cell? ⟨g, 4, none⟩ = some (.int .i64 m) ∧ w.cell? ⟨g, 5, none⟩ = some (.int .i64 b) ∧ w.cell? ⟨g, 6, none⟩ = some (.int .i64 t) :=
  ⟨h.cell 0, h.cell 1, h.cell 2, h.cell 3, h.cell 4, h.cell 5, h.cell 6⟩
theorem frees7 {w : World} {g : Nat} {cs : Array Value} (h : Obj1 w g TC cs) :
    w.frozen? ⟨g, 0, none⟩ = false ∧ w.frozen? ⟨g, 1, none⟩ = false ∧ w.frozen? ⟨g, 2, none⟩ = false ∧ w.frozen? ⟨g, 3, none⟩ = false ∧ w.frozen? ⟨g, 4, none⟩ = false ∧ w.frozen? ⟨g, 5, none⟩ = false ∧ w.frozen? ⟨g, 6, none⟩ = false :=
  ⟨h.free 0, h.free 1, h.free 2, h.free 3, h.free 4, h.free 5, h.free 6⟩
theorem set7' {B : Nat} {w w1 : World} {q : Nat} (h : Below B w w1) (hq : B ≤ q) (a b c d e f g : Value) :
    Below B w (((((((w1.setCell ⟨q, 0, none⟩ a).setCell ⟨q, 1, none⟩ b).setCell ⟨q, 2, none⟩ c).setCell ⟨q, 3, none⟩ d).setCell ⟨q, 4, none⟩ e).setCell ⟨q, 5, none⟩ f).setCell ⟨q, 6, none⟩ g) :=
  ((((((h.setCell hq _).setCell hq _).setCell hq _).setCell hq _).setCell hq _).setCell hq _).setCell hq _
/-- numbers, beside two commands that lie in memory. -/
theorem numbers_keep {o a s c m b t : Int} (w : World) (ht : (o = 6 ∨ o = 8) → 0 ≤ t ∧ t ≤ 1023) {g1 g2 : Nat} (h1 : Obj1 w g1 TC (c7 o a s c m b t)) (h2 : Obj1 w g2 TC (c7 0 0 0 0 0 0 0)) (k : Nat) (hk : k = (nums o a s c m b t).length) :
    Calls Try.prog 46 #[cv o a s c m b t] w fun e w' => ∃ A, e = .returned (.slice A k k) ∧ Hid (NR w w' A (nums o a s c m b t)) ∧ Hid (Below w.heap.size w w') ∧ Hid (Obj1 w' g1 TC (c7 o a s c m b t)) ∧ Hid (Obj1 w' g2 TC (c7 0 0 0 0 0 0 0)) ∧ w'.cell? ⟨g1, 0, none⟩ = some (.int .i64 o) := by
  subst hk
  exact (numbers_any o a s c m b t w ht).mono fun e w' ⟨A, h, hn, hb⟩ => ⟨A, h, hn, hb, h1.kept hb.out, h2.kept hb.out, (h1.kept hb.out).cell 0⟩
theorem with_keep {o : Int} {ns : List Int} {A : Option Addr} {k : Nat} (w w0 : World) (hn : NR w0 w A ns) (hc : ns.length = cnt o) (hk : k = ns.length) (hb : (o = 6 ∨ o = 8) → ∀ x ∈ ns, 0 ≤ x ∧ x ≤ 255) {x1 x2 x3 x4 x5 x6 : Int} (hw : wth o ns = cv o x1 x2 x3 x4 x5 x6) {g2 : Nat} (h2 : Obj1 w g2 TC (c7 0 0 0 0 0 0 0)) :
    Calls Try.prog 49 #[.int .i64 o, .slice A k k] w fun e w' => e = .returned (cv o x1 x2 x3 x4 x5 x6) ∧ Hid (Below w.heap.size w w') ∧ (w'.cell? ⟨g2, 0, none⟩ = some (.int .i64 0) ∧ w'.cell? ⟨g2, 1, none⟩ = some (.int .i64 0) ∧ w'.cell? ⟨g2, 2, none⟩ = some (.int .i64 0) ∧ w'.cell? ⟨g2, 3, none⟩ = some (.int .i64 0) ∧ w'.cell? ⟨g2, 4, none⟩ = some (.int .i64 0) ∧ w'.cell? ⟨g2, 5, none⟩ = some (.int .i64 0) ∧ w'.cell? ⟨g2, 6, none⟩ = some (.int .i64 0)) ∧
      (w'.frozen? ⟨g2, 0, none⟩ = false ∧ w'.frozen? ⟨g2, 1, none⟩ = false ∧ w'.frozen? ⟨g2, 2, none⟩ = false ∧ w'.frozen? ⟨g2, 3, none⟩ = false ∧ w'.frozen? ⟨g2, 4, none⟩ = false ∧ w'.frozen? ⟨g2, 5, none⟩ = false ∧ w'.frozen? ⟨g2, 6, none⟩ = false) := by
  subst hk
  exact (with_any o ns A ns.length w hn.lst hc hb).mono fun e w' ⟨h, hb'⟩ => ⟨by rw [h, hw], hb', cells7 (h2.kept hb'), frees7 (h2.kept hb')⟩

set_option maxRecDepth 100000 in
set_option maxHeartbeats 8000000 in
theorem clean_cv (o a s c m b t : Int) (x1 x2 x3 x4 x5 x6 : Int) (hw : wth o (nums o a s c m b t) = cv o x1 x2 x3 x4 x5 x6) (w : World) (ht : (o = 6 ∨ o = 8) → 0 ≤ t ∧ t ≤ 1023) :
    Calls Try.prog 19 #[cv o a s c m b t] w fun e w' => e = .returned (cv o x1 x2 x3 x4 x5 x6) ∧ Below w.heap.size w w' := by
  have HT := Lib.hid ht
  have HW := Lib.hid hw
  have HBN := Lib.hid (nums_bd o a s c m b t ht)
  have HNL := Lib.hid (nums_len o a s c m b t)
  have HB := Lib.hid (show Below w.heap.size w ((w.alloc (.cells (c7 o a s c m b t) TC)).alloc (.cells (c7 0 0 0 0 0 0 0) TC)) from ((Below.refl _ _).alloc (Nat.le_refl _) _).alloc (by simp) _)
  have HO1 := Lib.hid ((Obj1.new w TC (c7 o a s c m b t)).alloc (.cells (c7 0 0 0 0 0 0 0) TC))
  have HO2 := Lib.hid (Obj1.new (w.alloc (.cells (c7 o a s c m b t) TC)) TC (c7 0 0 0 0 0 0 0))
  rw [show (w.alloc (.cells (c7 o a s c m b t) TC)).heap.size = w.heap.size + 1 by simp] at HO2
  obtain ⟨k, HK⟩ : ∃ k, Hid (k = (nums o a s c m b t).length) := ⟨_, Lib.hid rfl⟩
  clear ht hw
  go_enter Try.func19, Try.ntmps19
  go_wp2
  generalize (w.alloc (.cells #[.int .i64 o, .int .i64 a, .int .i64 s, .int .i64 c, .int .i64 m, .int .i64 b, .int .i64 t] TC)).alloc (.cells #[.int .i64 0, .int .i64 0, .int .i64 0, .int .i64 0, .int .i64 0, .int .i64 0, .int .i64 0] TC) = W at HB HO1 HO2 ⊢
  obtain ⟨c0, c1, c2, c3, c4, c5, c6⟩ := cells7 HO1.out
  have HS := HB.out.size
  go_region_with (first
    | (go_at_call 46; refine (numbers_keep _ HT.out HO1.out.drew HO2.out.drew k HK.out).mono ?_; rintro e wa ⟨A, rfl, HNR, HBa, HP1, HP2, p0⟩)
    | (go_at_call 49; refine (with_keep _ _ HNR.out HNL.out HK.out HBN.out HW.out HP2.out).mono ?_; rintro e wb ⟨rfl, HBb, ⟨z0, z1, z2, z3, z4, z5, z6⟩, ⟨f0, f1, f2, f3, f4, f5, f6⟩⟩))
  all_goals
    go_wp2
    refine bodyPost_ret (by simp [results, Try.results19, go_sem, z0, z1, z2, z3, z4, z5, z6]) rfl ⟨rfl, ?_⟩
    have h1 : Below w.heap.size w wa := (HB.out.drew).trans (HBa.out.mono HS)
    have h2 : Below w.heap.size w wb := h1.trans (HBb.out.mono h1.size)
    exact set7' h2 (by omega) _ _ _ _ _ _ _
theorem clean_any (o a s c m b t : Int) (w : World) (ht : (o = 6 ∨ o = 8) → 0 ≤ t ∧ t ≤ 1023) :
    Calls Try.prog 19 #[cv o a s c m b t] w fun e w' => e = .returned (wth o (nums o a s c m b t)) ∧ Below w.heap.size w w' := by
  obtain ⟨x1, x2, x3, x4, x5, x6, h⟩ := wth_cv o (nums o a s c m b t)
  rw [h]
  exact clean_cv o a s c m b t x1 x2 x3 x4 x5 x6 h w ht
end Go.Proofs.Ythnopcoahcdjjaa.Ly9
