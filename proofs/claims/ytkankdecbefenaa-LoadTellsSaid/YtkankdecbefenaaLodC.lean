/- Package load: Share, Sends, Takes; no condition but sizes. -/
import Derived.Test.YtkankdecbefenaaLodB
namespace Go.Proofs.Ytkankdecbefenaa.Ly31
open Go.ChangeShapes Go.WideShapes Go.ChangeAt Go.RowKit Base Ly7
set_option linter.unusedVariables false
set_option linter.unusedSimpArgs false

theorem share_any (W P G R A : Int) (hA : 0 < A) (hW : 0 ≤ W) (hW2 : W ≤ 1000000) (w : World) :
    Calls Try.prog 8 #[.agg #[.int .i64 W, .int .i64 P, .int .i64 G, .int .i64 R, .int .i64 A]] w fun e w' => e = .returned (.int .i64 (1000 * W / A)) ∧ Below w.heap.size w w' := by
  have hb := bel1 w (.cells #[.int .i64 W, .int .i64 P, .int .i64 G, .int .i64 R, .int .i64 A] 33)
  have h1 : ¬ A ≤ 0 := by omega
  have h2 : ¬ A = 0 := by omega
  have h3 : (A == 0) = false := by simpa using h2
  have e1 : IntKind.i64.wrap (1000 * W) = 1000 * W := IntWalk.i64_in _ (by omega)
  have e2 : (1000 * W).tdiv A = 1000 * W / A := Int.tdiv_eq_ediv_of_nonneg (by omega)
  have hq0 : 0 ≤ 1000 * W / A := Int.ediv_nonneg (by omega) (by omega)
  have hq1 : 1000 * W / A ≤ 1000 * W := Int.ediv_le_self _ (by omega)
  obtain ⟨q, hq⟩ : ∃ q, 1000 * W / A = q := ⟨_, rfl⟩
  rw [hq] at e2 hq0 hq1 ⊢
  have e3 : wrap64 q = q := IntWalk.wrap64_in q (by omega)
  have e4 : IntKind.i64.wrap q = q := IntWalk.i64_in q (by omega)
  clear hq
  go_enter Try.func8, Try.ntmps8
  go_wp2
  go_ret
  exact ⟨rfl, hb⟩
theorem share_none (w : World) :
    Calls Try.prog 8 #[.agg ldZ] w fun e w' => e = .returned (.int .i64 0) ∧ Below w.heap.size w w' := by
  have hb := bel1 w (.cells ldZ 33)
  unfold ldZ at hb ⊢
  go_enter Try.func8, Try.ntmps8
  go_wp2
  go_ret
  exact ⟨rfl, hb⟩

theorem snd1_any (x : Wd) (w : World) : Calls Try.prog 29 #[.agg #[.int .i64 x.k, .int .i64 x.b, .int .i64 x.wd, .int .i64 x.ad, .slice x.A x.n x.c, .slice x.B x.m x.d]] w fun e w' => e = .returned (.slice x.A x.n x.c) ∧ Below w.heap.size w w' := by
  have hb := bel1 w (.cells #[.int .i64 x.k, .int .i64 x.b, .int .i64 x.wd, .int .i64 x.ad, .slice x.A x.n x.c, .slice x.B x.m x.d] 48)
  go_enter Try.func29, Try.ntmps29
  go_wp2
  go_ret
  exact ⟨rfl, hb⟩
def sndW (y : Int) (x : Wd) : Int := if x.k = 0 ∧ x.fs.contains y = true then x.wd else 0
set_option maxRecDepth 100000 in
set_option maxHeartbeats 1000000 in
theorem snd2_any (x : Wd) (y : Int) (gm gf : Nat) (w : World) (hok : x.Ok w) (hm : w.cell? ⟨gm, 0, none⟩ = some (.int .i64 y)) (hf : w.cell? ⟨gf, 0, none⟩ = some (.func (.func 29) #[] #[])) (lm : gm < w.heap.size) (lf : gf < w.heap.size) :
    Calls Try.prog 41 #[.agg #[.int .i64 x.k, .int .i64 x.b, .int .i64 x.wd, .int .i64 x.ad, .slice x.A x.n x.c, .slice x.B x.m x.d], .pointer (some ⟨gf, 0, none⟩), .pointer (some ⟨gm, 0, none⟩)] w fun e w' => e = .returned (.int .i64 (sndW y x)) ∧ Below w.heap.size w w' := by
  obtain ⟨gb, HGB⟩ : ∃ gb, Hid (w.heap.size = gb) := ⟨_, Lib.hid rfl⟩
  obtain ⟨W1, HW1⟩ : ∃ W1, Hid (W1 = w.alloc (.cells #[.int .i64 x.k, .int .i64 x.b, .int .i64 x.wd, .int .i64 x.ad, .slice x.A x.n x.c, .slice x.B x.m x.d] 48)) := ⟨_, Lib.hid rfl⟩
  have hb1 : Below w.heap.size w W1 := by rw [HW1.out]; exact bel1 _ _
  have HB1 := Lib.hid hb1
  have HO1 : Hid (Obj1 W1 gb 48 #[.int .i64 x.k, .int .i64 x.b, .int .i64 x.wd, .int .i64 x.ad, .slice x.A x.n x.c, .slice x.B x.m x.d]) := Lib.hid (by rw [HW1.out, ← HGB.out]; exact Obj1.new _ _ _)
  have HOKZ : Hid (∀ z : Kin W1.drew, x.Ok z.world) := Lib.hid (fun z => (hok.kept hb1).kept ((bel_drew W1).trans z.below))
  have c3 : W1.cell? ⟨gm, 0, none⟩ = some (.int .i64 y) := (hb1.cell (p := ⟨gm, 0, none⟩) lm).trans hm
  have c4 : W1.cell? ⟨gf, 0, none⟩ = some (.func (.func 29) #[] #[]) := (hb1.cell (p := ⟨gf, 0, none⟩) lf).trans hf
  have K0 : ∀ z : Kin W1.drew, z.world.cell? ⟨gb, 0, none⟩ = some (.int .i64 x.k) := fun z => Kin.at (w := W1.drew) (show W1.cell? ⟨gb, 0, none⟩ = _ by rw [HO1.out.cell]; rfl) z
  have K1 : ∀ z : Kin W1.drew, z.world.cell? ⟨gb, 1, none⟩ = some (.int .i64 x.b) := fun z => Kin.at (w := W1.drew) (show W1.cell? ⟨gb, 1, none⟩ = _ by rw [HO1.out.cell]; rfl) z
  have K2 : ∀ z : Kin W1.drew, z.world.cell? ⟨gb, 2, none⟩ = some (.int .i64 x.wd) := fun z => Kin.at (w := W1.drew) (show W1.cell? ⟨gb, 2, none⟩ = _ by rw [HO1.out.cell]; rfl) z
  have K3 : ∀ z : Kin W1.drew, z.world.cell? ⟨gb, 3, none⟩ = some (.int .i64 x.ad) := fun z => Kin.at (w := W1.drew) (show W1.cell? ⟨gb, 3, none⟩ = _ by rw [HO1.out.cell]; rfl) z
  have K4 : ∀ z : Kin W1.drew, z.world.cell? ⟨gb, 4, none⟩ = some (.slice x.A x.n x.c) := fun z => Kin.at (w := W1.drew) (show W1.cell? ⟨gb, 4, none⟩ = _ by rw [HO1.out.cell]; rfl) z
  have K5 : ∀ z : Kin W1.drew, z.world.cell? ⟨gb, 5, none⟩ = some (.slice x.B x.m x.d) := fun z => Kin.at (w := W1.drew) (show W1.cell? ⟨gb, 5, none⟩ = _ by rw [HO1.out.cell]; rfl) z
  have K6 : ∀ z : Kin W1.drew, z.world.cell? ⟨gm, 0, none⟩ = some (.int .i64 y) := fun z => Kin.at (w := W1.drew) c3 z
  have K7 : ∀ z : Kin W1.drew, z.world.cell? ⟨gf, 0, none⟩ = some (.func (.func 29) #[] #[]) := fun z => Kin.at (w := W1.drew) c4 z
  have HLN : Hid (x.n ≤ 9223372036854775807) := Lib.hid (Nat.le_trans hok.nc hok.cm)
  clear hok hm hf lm lf c3 c4 hb1
  by_cases hk : x.k = 0
  · obtain ⟨b, HBB⟩ : ∃ b, Hid (x.fs.contains y = b) := ⟨_, Lib.hid rfl⟩
    have HR : Hid (sndW y x = if b = true then x.wd else 0) := Lib.hid (by unfold sndW; rw [HBB.out]; simp [hk])
    rw [HR.out]
    have hkb : (x.k != 0) = false := by simpa using hk
    have hkc : (x.k == 0) = true := by simpa using hk
    clear hk
    go_enter Try.func41, Try.ntmps41
    go_upto_region 1 with (fail)
    rw [← HW1.out, HGB.out]
    clear HW1
    refine wp_region_specL 11 [.d (.pointer (some ⟨gb, 0, none⟩)), .d (.int .i64 x.k), .d (.bool false), .d (.bool false), .d (.func (.func 29) #[] #[]), .d (.agg #[.int .i64 x.k, .int .i64 x.b, .int .i64 x.wd, .int .i64 x.ad, .slice x.A x.n x.c, .slice x.B x.m x.d]), .d (.slice x.A x.n x.c), .d (.int .i64 y), .d (.bool b), .d (.bool (!b)), .d (.bool (!b))] (by kernel_rfl) (by kernel_rfl) ?_
    refine spec_d rfl (fun x _ => gives_run (by go_simp)) ?_
    try simp only [Act.put, List.getElem_toArray, List.getElem_cons_succ, List.getElem_cons_zero, List.setIfInBounds_toArray, List.set_cons_zero, List.set_cons_succ]
    refine spec_d rfl (fun x _ => gives_run (by go_simp)) ?_
    try simp only [Act.put, List.getElem_toArray, List.getElem_cons_succ, List.getElem_cons_zero, List.setIfInBounds_toArray, List.set_cons_zero, List.set_cons_succ]
    refine spec_d rfl (fun z _ => gives_run (by go_simp)) ?_
    try simp only [Act.put, List.getElem_toArray, List.getElem_cons_succ, List.getElem_cons_zero, List.setIfInBounds_toArray, List.set_cons_zero, List.set_cons_succ]
    refine spec_d rfl (fun x _ => gives_run (by go_simp)) ?_
    try simp only [Act.put, List.getElem_toArray, List.getElem_cons_succ, List.getElem_cons_zero, List.setIfInBounds_toArray, List.set_cons_zero, List.set_cons_succ]
    refine spec_d rfl (fun x _ => gives_run (by go_simp)) ?_
    try simp only [Act.put, List.getElem_toArray, List.getElem_cons_succ, List.getElem_cons_zero, List.setIfInBounds_toArray, List.set_cons_zero, List.set_cons_succ]
    refine spec_d rfl (fun x _ => gives_run (by go_simp)) ?_
    try simp only [Act.put, List.getElem_toArray, List.getElem_cons_succ, List.getElem_cons_zero, List.setIfInBounds_toArray, List.set_cons_zero, List.set_cons_succ]
    refine spec_d rfl (fun z _ => gives_det (by go_simp) (snd1_any x z.world)) ?_
    try simp only [Act.put, List.getElem_toArray, List.getElem_cons_succ, List.getElem_cons_zero, List.setIfInBounds_toArray, List.set_cons_zero, List.set_cons_succ]
    refine spec_d rfl (fun x _ => gives_run (by go_simp)) ?_
    try simp only [Act.put, List.getElem_toArray, List.getElem_cons_succ, List.getElem_cons_zero, List.setIfInBounds_toArray, List.set_cons_zero, List.set_cons_succ]
    refine spec_d rfl (fun z _ => gives_det_same (by go_simp) ((contains_any x.A x.n x.c x.fs y z.world (HOKZ.out z).fl HLN.out).mono (fun e w h => ⟨by rw [h.1, HBB.out], h.2⟩))) ?_
    try simp only [Act.put, List.getElem_toArray, List.getElem_cons_succ, List.getElem_cons_zero, List.setIfInBounds_toArray, List.set_cons_zero, List.set_cons_succ]
    refine spec_d rfl (fun x _ => gives_run (by go_simp)) ?_
    try simp only [Act.put, List.getElem_toArray, List.getElem_cons_succ, List.getElem_cons_zero, List.setIfInBounds_toArray, List.set_cons_zero, List.set_cons_succ]
    refine spec_d rfl (fun x _ => gives_run (by go_simp)) ?_
    try simp only [Act.put, List.getElem_toArray, List.getElem_cons_succ, List.getElem_cons_zero, List.setIfInBounds_toArray, List.set_cons_zero, List.set_cons_succ]
    refine spec_end (fun z hz => ?_)
    clear hz
    refine wpAny_done (by kernel_rfl) ?_ _
    have HB5 := Lib.hid (HB1.out.trans (((bel_drew W1).trans z.below).mono HB1.out.size))
    have k2 := K2 z
    clear K0 K1 K2 K3 K4 K5 K6 K7
    generalize z.world = w5 at HB5 k2 ⊢
    clear z
    cases b with
    | true =>
      go_wp2
      go_ret
      exact ⟨rfl, HB5.out⟩
    | false =>
      go_wp2
      go_ret
      exact ⟨rfl, HB5.out⟩
  · have HR : Hid (sndW y x = 0) := Lib.hid (by unfold sndW; rw [if_neg (fun h => hk h.1)])
    rw [HR.out]
    have hkb : (x.k != 0) = true := by simpa using hk
    have hkc : (x.k == 0) = false := by simpa using hk
    clear hk
    go_enter Try.func41, Try.ntmps41
    go_upto_region 1 with (fail)
    rw [← HW1.out, HGB.out]
    clear HW1
    refine wp_region_specL 11 [.d (.pointer (some ⟨gb, 0, none⟩)), .d (.int .i64 x.k), .d (.bool true), .d (.bool true), .d undef, .d undef, .d undef, .d undef, .d undef, .d undef, .d (.bool true)] (by kernel_rfl) (by kernel_rfl) ?_
    refine spec_d rfl (fun x _ => gives_run (by go_simp)) ?_
    try simp only [Act.put, List.getElem_toArray, List.getElem_cons_succ, List.getElem_cons_zero, List.setIfInBounds_toArray, List.set_cons_zero, List.set_cons_succ]
    refine spec_d rfl (fun x _ => gives_run (by go_simp)) ?_
    try simp only [Act.put, List.getElem_toArray, List.getElem_cons_succ, List.getElem_cons_zero, List.setIfInBounds_toArray, List.set_cons_zero, List.set_cons_succ]
    refine spec_d rfl (fun x _ => gives_run (by go_simp)) ?_
    try simp only [Act.put, List.getElem_toArray, List.getElem_cons_succ, List.getElem_cons_zero, List.setIfInBounds_toArray, List.set_cons_zero, List.set_cons_succ]
    refine spec_d rfl (fun x _ => gives_run (by go_simp)) ?_
    try simp only [Act.put, List.getElem_toArray, List.getElem_cons_succ, List.getElem_cons_zero, List.setIfInBounds_toArray, List.set_cons_zero, List.set_cons_succ]
    refine spec_skip (by kernel_rfl) ?_
    try simp only [Act.put, List.getElem_toArray, List.getElem_cons_succ, List.getElem_cons_zero, List.setIfInBounds_toArray, List.set_cons_zero, List.set_cons_succ]
    refine spec_skip (by kernel_rfl) ?_
    try simp only [Act.put, List.getElem_toArray, List.getElem_cons_succ, List.getElem_cons_zero, List.setIfInBounds_toArray, List.set_cons_zero, List.set_cons_succ]
    refine spec_skip (by kernel_rfl) ?_
    try simp only [Act.put, List.getElem_toArray, List.getElem_cons_succ, List.getElem_cons_zero, List.setIfInBounds_toArray, List.set_cons_zero, List.set_cons_succ]
    refine spec_skip (by kernel_rfl) ?_
    try simp only [Act.put, List.getElem_toArray, List.getElem_cons_succ, List.getElem_cons_zero, List.setIfInBounds_toArray, List.set_cons_zero, List.set_cons_succ]
    refine spec_skip (by kernel_rfl) ?_
    try simp only [Act.put, List.getElem_toArray, List.getElem_cons_succ, List.getElem_cons_zero, List.setIfInBounds_toArray, List.set_cons_zero, List.set_cons_succ]
    refine spec_skip (by kernel_rfl) ?_
    try simp only [Act.put, List.getElem_toArray, List.getElem_cons_succ, List.getElem_cons_zero, List.setIfInBounds_toArray, List.set_cons_zero, List.set_cons_succ]
    refine spec_d rfl (fun x _ => gives_run (by go_simp)) ?_
    try simp only [Act.put, List.getElem_toArray, List.getElem_cons_succ, List.getElem_cons_zero, List.setIfInBounds_toArray, List.set_cons_zero, List.set_cons_succ]
    refine spec_end (fun z hz => ?_)
    clear hz
    refine wpAny_done (by kernel_rfl) ?_ _
    have HB5 := Lib.hid (HB1.out.trans (((bel_drew W1).trans z.below).mono HB1.out.size))
    clear K0 K1 K2 K3 K4 K5 K6 K7
    generalize z.world = w5 at HB5 ⊢
    clear z
    go_wp2
    go_ret
    exact ⟨rfl, HB5.out⟩
theorem snd3_any (A : Option Addr) (n c : Nat) (ws : List Wd) (y : Int) (w : World) (hW : WinsAt w A n ws) (hn : n ≤ 900) (hB : ∀ x ∈ ws, x.k = 0 → 0 ≤ x.wd ∧ x.wd ≤ 100) :
    Calls Try.prog 28 #[.slice A n c, .int .i64 y, .func (.func 29) #[] #[]] w fun e w' => e = .returned (.int .i64 (sumF (sndW y) ws)) ∧ Below w.heap.size w w' := by
  obtain ⟨g3, HG3⟩ : ∃ g, Hid (w.heap.size = g) := ⟨_, Lib.hid rfl⟩
  obtain ⟨g4, HG4⟩ : ∃ g, Hid (g3 + 1 = g) := ⟨_, Lib.hid rfl⟩
  obtain ⟨W2, HW2⟩ : ∃ W, Hid (W = (w.alloc (.cells #[.int .i64 y] 3)).alloc (.cells #[.func (.func 29) #[] #[]] 56)) := ⟨_, Lib.hid rfl⟩
  have hb2 : Below w.heap.size w W2 := by rw [HW2.out]; exact ((Below.refl _ _).alloc (Nat.le_refl _) _).alloc (by simp) _
  have HO3 : Hid (Obj1 W2 g3 3 #[.int .i64 y]) := Lib.hid (by rw [HW2.out, ← HG3.out]; exact (Obj1.new _ _ _).kept (bel1 _ _))
  have HO4 : Hid (Obj1 W2 g4 56 #[.func (.func 29) #[] #[]]) := Lib.hid (by
    rw [HW2.out, ← HG4.out, ← HG3.out, show w.heap.size + 1 = (w.alloc (.cells #[.int .i64 y] 3)).heap.size by simp]
    exact Obj1.new _ _ _)
  have HB2 := Lib.hid hb2
  have hW2 := hW.kept hb2
  have HS := Lib.hid (sum_any 41 #[.pointer (some ⟨g4, 0, none⟩), .pointer (some ⟨g3, 0, none⟩)] (ent_of Try.func41 (by rfl) (by rfl)) (sndW y) A n c ws W2 hW2 hn
    (fun x hx => by
      unfold sndW
      split
      · rename_i h; have := hB x hx h.1; omega
      · omega)
    (fun x hx W hb => snd2_any x y g3 g4 W ((hW2.ok x hx).kept hb) (by have h := (HO3.out.kept hb).cell 0; simpa using h) (by have h := (HO4.out.kept hb).cell 0; simpa using h) (HO3.out.kept hb).lt (HO4.out.kept hb).lt))
  clear hb2 hW hB hW2
  go_enter Try.func28, Try.ntmps28
  go_upto_region 1 with (fail)
  rw [← HW2.out, HG3.out, HG4.out]
  clear HW2
  go_wp2_with fail
  refine HS.out.mono ?_
  rintro e w5 ⟨rfl, hb5⟩
  have HB5 := Lib.hid (HB2.out.trans (hb5.mono HB2.out.size))
  clear hb5
  go_wp2
  go_ret
  exact ⟨rfl, HB5.out⟩
set_option maxRecDepth 100000 in
set_option maxHeartbeats 1000000 in
theorem snd_any (md : Int) (A0 : Option Addr) (n0 c0 : Nat) (A1 : Option Addr) (n1 c1 : Nat) (ver : Int) (y : Int) (w : World) (g : Bool) (A : Option Addr) (n c : Nat) (ws : List Wd)
    (hw : ∀ W, Below w.heap.size w W → Calls Try.prog 20 #[.agg #[.int .i64 md, .slice A0 n0 c0, .slice A1 n1 c1], .int .i64 ver] W fun e w' => e = .returned (wndV A n c g) ∧ Below W.heap.size W w')
    (hg : g = true → WinsAt w A n ws ∧ n ≤ 60 ∧ ∀ x ∈ ws, WOk x) :
    Calls Try.prog 9 #[.agg #[.int .i64 md, .slice A0 n0 c0, .slice A1 n1 c1], .int .i64 ver, .int .i64 y] w fun e w' => e = .returned (.int .i64 (if g = true then sumF (sndW y) ws else 0)) ∧ Below w.heap.size w w' := by
  obtain ⟨gb, HGB⟩ : ∃ gb, Hid (w.heap.size = gb) := ⟨_, Lib.hid rfl⟩
  obtain ⟨W1, HW1⟩ : ∃ W1, Hid (W1 = w.alloc (.cells #[.int .i64 md, .slice A0 n0 c0, .slice A1 n1 c1] 25)) := ⟨_, Lib.hid rfl⟩
  have HB1 : Hid (Below w.heap.size w W1) := Lib.hid (by rw [HW1.out]; exact bel1 _ _)
  have HO1 : Hid (Obj1 W1 gb 25 #[.int .i64 md, .slice A0 n0 c0, .slice A1 n1 c1]) := Lib.hid (by rw [HW1.out, ← HGB.out]; exact Obj1.new _ _ _)
  have HWN := Lib.hid (hw W1 HB1.out)
  have HG := Lib.hid hg
  have q0 := HO1.out.cell 0
  have q1 := HO1.out.cell 1
  have q2 := HO1.out.cell 2
  simp at q0 q1 q2
  clear hw hg
  go_enter Try.func9, Try.ntmps9
  go_upto_region 1 with (fail)
  rw [← HW1.out, HGB.out]
  clear HW1
  go_wp2_with fail
  refine HWN.out.mono ?_
  rintro e w3 ⟨rfl, hb3⟩
  have HB3 := Lib.hid (HB1.out.trans (hb3.mono HB1.out.size))
  clear q0 q1 q2 hb3 HWN HO1 HB1
  cases g with
  | false =>
    simp only [wndV, Bool.false_eq_true, if_false]
    have HL := Lib.hid (snd3_any none 0 0 [] y w3 (wins_nil w3) (by omega) (fun x hx => by cases hx))
    go_wp2_with fail
    refine HL.out.mono ?_
    rintro e w5 ⟨rfl, hb5⟩
    have HB5 := Lib.hid (HB3.out.trans (hb5.mono HB3.out.size))
    clear hb5
    go_wp2
    go_ret
    exact ⟨rfl, HB5.out⟩
  | true =>
    obtain ⟨hW, hn, hok⟩ := HG.out rfl
    simp only [wndV, if_true]
    have HL := Lib.hid (snd3_any A n c ws y w3 (hW.kept HB3.out) (by omega) (fun x hx hk => by have := (hok x hx).d hk; omega))
    clear hW hok
    go_wp2_with fail
    refine HL.out.mono ?_
    rintro e w5 ⟨rfl, hb5⟩
    have HB5 := Lib.hid (HB3.out.trans (hb5.mono HB3.out.size))
    clear hb5
    go_wp2
    go_ret
    exact ⟨rfl, HB5.out⟩

theorem tke1_any (x : Wd) (w : World) : Calls Try.prog 30 #[.agg #[.int .i64 x.k, .int .i64 x.b, .int .i64 x.wd, .int .i64 x.ad, .slice x.A x.n x.c, .slice x.B x.m x.d]] w fun e w' => e = .returned (.slice x.B x.m x.d) ∧ Below w.heap.size w w' := by
  have hb := bel1 w (.cells #[.int .i64 x.k, .int .i64 x.b, .int .i64 x.wd, .int .i64 x.ad, .slice x.A x.n x.c, .slice x.B x.m x.d] 48)
  go_enter Try.func30, Try.ntmps30
  go_wp2
  go_ret
  exact ⟨rfl, hb⟩
def tkeW (y : Int) (x : Wd) : Int := if x.k = 0 ∧ x.ts.contains y = true then x.wd else 0
set_option maxRecDepth 100000 in
set_option maxHeartbeats 1000000 in
theorem tke2_any (x : Wd) (y : Int) (gm gf : Nat) (w : World) (hok : x.Ok w) (hm : w.cell? ⟨gm, 0, none⟩ = some (.int .i64 y)) (hf : w.cell? ⟨gf, 0, none⟩ = some (.func (.func 30) #[] #[])) (lm : gm < w.heap.size) (lf : gf < w.heap.size) :
    Calls Try.prog 41 #[.agg #[.int .i64 x.k, .int .i64 x.b, .int .i64 x.wd, .int .i64 x.ad, .slice x.A x.n x.c, .slice x.B x.m x.d], .pointer (some ⟨gf, 0, none⟩), .pointer (some ⟨gm, 0, none⟩)] w fun e w' => e = .returned (.int .i64 (tkeW y x)) ∧ Below w.heap.size w w' := by
  obtain ⟨gb, HGB⟩ : ∃ gb, Hid (w.heap.size = gb) := ⟨_, Lib.hid rfl⟩
  obtain ⟨W1, HW1⟩ : ∃ W1, Hid (W1 = w.alloc (.cells #[.int .i64 x.k, .int .i64 x.b, .int .i64 x.wd, .int .i64 x.ad, .slice x.A x.n x.c, .slice x.B x.m x.d] 48)) := ⟨_, Lib.hid rfl⟩
  have hb1 : Below w.heap.size w W1 := by rw [HW1.out]; exact bel1 _ _
  have HB1 := Lib.hid hb1
  have HO1 : Hid (Obj1 W1 gb 48 #[.int .i64 x.k, .int .i64 x.b, .int .i64 x.wd, .int .i64 x.ad, .slice x.A x.n x.c, .slice x.B x.m x.d]) := Lib.hid (by rw [HW1.out, ← HGB.out]; exact Obj1.new _ _ _)
  have HOKZ : Hid (∀ z : Kin W1.drew, x.Ok z.world) := Lib.hid (fun z => (hok.kept hb1).kept ((bel_drew W1).trans z.below))
  have c3 : W1.cell? ⟨gm, 0, none⟩ = some (.int .i64 y) := (hb1.cell (p := ⟨gm, 0, none⟩) lm).trans hm
  have c4 : W1.cell? ⟨gf, 0, none⟩ = some (.func (.func 30) #[] #[]) := (hb1.cell (p := ⟨gf, 0, none⟩) lf).trans hf
  have K0 : ∀ z : Kin W1.drew, z.world.cell? ⟨gb, 0, none⟩ = some (.int .i64 x.k) := fun z => Kin.at (w := W1.drew) (show W1.cell? ⟨gb, 0, none⟩ = _ by rw [HO1.out.cell]; rfl) z
  have K1 : ∀ z : Kin W1.drew, z.world.cell? ⟨gb, 1, none⟩ = some (.int .i64 x.b) := fun z => Kin.at (w := W1.drew) (show W1.cell? ⟨gb, 1, none⟩ = _ by rw [HO1.out.cell]; rfl) z
  have K2 : ∀ z : Kin W1.drew, z.world.cell? ⟨gb, 2, none⟩ = some (.int .i64 x.wd) := fun z => Kin.at (w := W1.drew) (show W1.cell? ⟨gb, 2, none⟩ = _ by rw [HO1.out.cell]; rfl) z
  have K3 : ∀ z : Kin W1.drew, z.world.cell? ⟨gb, 3, none⟩ = some (.int .i64 x.ad) := fun z => Kin.at (w := W1.drew) (show W1.cell? ⟨gb, 3, none⟩ = _ by rw [HO1.out.cell]; rfl) z
  have K4 : ∀ z : Kin W1.drew, z.world.cell? ⟨gb, 4, none⟩ = some (.slice x.A x.n x.c) := fun z => Kin.at (w := W1.drew) (show W1.cell? ⟨gb, 4, none⟩ = _ by rw [HO1.out.cell]; rfl) z
  have K5 : ∀ z : Kin W1.drew, z.world.cell? ⟨gb, 5, none⟩ = some (.slice x.B x.m x.d) := fun z => Kin.at (w := W1.drew) (show W1.cell? ⟨gb, 5, none⟩ = _ by rw [HO1.out.cell]; rfl) z
  have K6 : ∀ z : Kin W1.drew, z.world.cell? ⟨gm, 0, none⟩ = some (.int .i64 y) := fun z => Kin.at (w := W1.drew) c3 z
  have K7 : ∀ z : Kin W1.drew, z.world.cell? ⟨gf, 0, none⟩ = some (.func (.func 30) #[] #[]) := fun z => Kin.at (w := W1.drew) c4 z
  have HLN : Hid (x.m ≤ 9223372036854775807) := Lib.hid (Nat.le_trans hok.md hok.dm)
  clear hok hm hf lm lf c3 c4 hb1
  by_cases hk : x.k = 0
  · obtain ⟨b, HBB⟩ : ∃ b, Hid (x.ts.contains y = b) := ⟨_, Lib.hid rfl⟩
    have HR : Hid (tkeW y x = if b = true then x.wd else 0) := Lib.hid (by unfold tkeW; rw [HBB.out]; simp [hk])
    rw [HR.out]
    have hkb : (x.k != 0) = false := by simpa using hk
    have hkc : (x.k == 0) = true := by simpa using hk
    clear hk
    go_enter Try.func41, Try.ntmps41
    go_upto_region 1 with (fail)
    rw [← HW1.out, HGB.out]
    clear HW1
    refine wp_region_specL 11 [.d (.pointer (some ⟨gb, 0, none⟩)), .d (.int .i64 x.k), .d (.bool false), .d (.bool false), .d (.func (.func 30) #[] #[]), .d (.agg #[.int .i64 x.k, .int .i64 x.b, .int .i64 x.wd, .int .i64 x.ad, .slice x.A x.n x.c, .slice x.B x.m x.d]), .d (.slice x.B x.m x.d), .d (.int .i64 y), .d (.bool b), .d (.bool (!b)), .d (.bool (!b))] (by kernel_rfl) (by kernel_rfl) ?_
    refine spec_d rfl (fun x _ => gives_run (by go_simp)) ?_
    try simp only [Act.put, List.getElem_toArray, List.getElem_cons_succ, List.getElem_cons_zero, List.setIfInBounds_toArray, List.set_cons_zero, List.set_cons_succ]
    refine spec_d rfl (fun x _ => gives_run (by go_simp)) ?_
    try simp only [Act.put, List.getElem_toArray, List.getElem_cons_succ, List.getElem_cons_zero, List.setIfInBounds_toArray, List.set_cons_zero, List.set_cons_succ]
    refine spec_d rfl (fun z _ => gives_run (by go_simp)) ?_
    try simp only [Act.put, List.getElem_toArray, List.getElem_cons_succ, List.getElem_cons_zero, List.setIfInBounds_toArray, List.set_cons_zero, List.set_cons_succ]
    refine spec_d rfl (fun x _ => gives_run (by go_simp)) ?_
    try simp only [Act.put, List.getElem_toArray, List.getElem_cons_succ, List.getElem_cons_zero, List.setIfInBounds_toArray, List.set_cons_zero, List.set_cons_succ]
    refine spec_d rfl (fun x _ => gives_run (by go_simp)) ?_
    try simp only [Act.put, List.getElem_toArray, List.getElem_cons_succ, List.getElem_cons_zero, List.setIfInBounds_toArray, List.set_cons_zero, List.set_cons_succ]
    refine spec_d rfl (fun x _ => gives_run (by go_simp)) ?_
    try simp only [Act.put, List.getElem_toArray, List.getElem_cons_succ, List.getElem_cons_zero, List.setIfInBounds_toArray, List.set_cons_zero, List.set_cons_succ]
    refine spec_d rfl (fun z _ => gives_det (by go_simp) (tke1_any x z.world)) ?_
    try simp only [Act.put, List.getElem_toArray, List.getElem_cons_succ, List.getElem_cons_zero, List.setIfInBounds_toArray, List.set_cons_zero, List.set_cons_succ]
    refine spec_d rfl (fun x _ => gives_run (by go_simp)) ?_
    try simp only [Act.put, List.getElem_toArray, List.getElem_cons_succ, List.getElem_cons_zero, List.setIfInBounds_toArray, List.set_cons_zero, List.set_cons_succ]
    refine spec_d rfl (fun z _ => gives_det_same (by go_simp) ((contains_any x.B x.m x.d x.ts y z.world (HOKZ.out z).tl HLN.out).mono (fun e w h => ⟨by rw [h.1, HBB.out], h.2⟩))) ?_
    try simp only [Act.put, List.getElem_toArray, List.getElem_cons_succ, List.getElem_cons_zero, List.setIfInBounds_toArray, List.set_cons_zero, List.set_cons_succ]
    refine spec_d rfl (fun x _ => gives_run (by go_simp)) ?_
    try simp only [Act.put, List.getElem_toArray, List.getElem_cons_succ, List.getElem_cons_zero, List.setIfInBounds_toArray, List.set_cons_zero, List.set_cons_succ]
    refine spec_d rfl (fun x _ => gives_run (by go_simp)) ?_
    try simp only [Act.put, List.getElem_toArray, List.getElem_cons_succ, List.getElem_cons_zero, List.setIfInBounds_toArray, List.set_cons_zero, List.set_cons_succ]
    refine spec_end (fun z hz => ?_)
    clear hz
    refine wpAny_done (by kernel_rfl) ?_ _
    have HB5 := Lib.hid (HB1.out.trans (((bel_drew W1).trans z.below).mono HB1.out.size))
    have k2 := K2 z
    clear K0 K1 K2 K3 K4 K5 K6 K7
    generalize z.world = w5 at HB5 k2 ⊢
    clear z
    cases b with
    | true =>
      go_wp2
      go_ret
      exact ⟨rfl, HB5.out⟩
    | false =>
      go_wp2
      go_ret
      exact ⟨rfl, HB5.out⟩
  · have HR : Hid (tkeW y x = 0) := Lib.hid (by unfold tkeW; rw [if_neg (fun h => hk h.1)])
    rw [HR.out]
    have hkb : (x.k != 0) = true := by simpa using hk
    have hkc : (x.k == 0) = false := by simpa using hk
    clear hk
    go_enter Try.func41, Try.ntmps41
    go_upto_region 1 with (fail)
    rw [← HW1.out, HGB.out]
    clear HW1
    refine wp_region_specL 11 [.d (.pointer (some ⟨gb, 0, none⟩)), .d (.int .i64 x.k), .d (.bool true), .d (.bool true), .d undef, .d undef, .d undef, .d undef, .d undef, .d undef, .d (.bool true)] (by kernel_rfl) (by kernel_rfl) ?_
    refine spec_d rfl (fun x _ => gives_run (by go_simp)) ?_
    try simp only [Act.put, List.getElem_toArray, List.getElem_cons_succ, List.getElem_cons_zero, List.setIfInBounds_toArray, List.set_cons_zero, List.set_cons_succ]
    refine spec_d rfl (fun x _ => gives_run (by go_simp)) ?_
    try simp only [Act.put, List.getElem_toArray, List.getElem_cons_succ, List.getElem_cons_zero, List.setIfInBounds_toArray, List.set_cons_zero, List.set_cons_succ]
    refine spec_d rfl (fun x _ => gives_run (by go_simp)) ?_
    try simp only [Act.put, List.getElem_toArray, List.getElem_cons_succ, List.getElem_cons_zero, List.setIfInBounds_toArray, List.set_cons_zero, List.set_cons_succ]
    refine spec_d rfl (fun x _ => gives_run (by go_simp)) ?_
    try simp only [Act.put, List.getElem_toArray, List.getElem_cons_succ, List.getElem_cons_zero, List.setIfInBounds_toArray, List.set_cons_zero, List.set_cons_succ]
    refine spec_skip (by kernel_rfl) ?_
    try simp only [Act.put, List.getElem_toArray, List.getElem_cons_succ, List.getElem_cons_zero, List.setIfInBounds_toArray, List.set_cons_zero, List.set_cons_succ]
    refine spec_skip (by kernel_rfl) ?_
    try simp only [Act.put, List.getElem_toArray, List.getElem_cons_succ, List.getElem_cons_zero, List.setIfInBounds_toArray, List.set_cons_zero, List.set_cons_succ]
    refine spec_skip (by kernel_rfl) ?_
    try simp only [Act.put, List.getElem_toArray, List.getElem_cons_succ, List.getElem_cons_zero, List.setIfInBounds_toArray, List.set_cons_zero, List.set_cons_succ]
    refine spec_skip (by kernel_rfl) ?_
    try simp only [Act.put, List.getElem_toArray, List.getElem_cons_succ, List.getElem_cons_zero, List.setIfInBounds_toArray, List.set_cons_zero, List.set_cons_succ]
    refine spec_skip (by kernel_rfl) ?_
    try simp only [Act.put, List.getElem_toArray, List.getElem_cons_succ, List.getElem_cons_zero, List.setIfInBounds_toArray, List.set_cons_zero, List.set_cons_succ]
    refine spec_skip (by kernel_rfl) ?_
    try simp only [Act.put, List.getElem_toArray, List.getElem_cons_succ, List.getElem_cons_zero, List.setIfInBounds_toArray, List.set_cons_zero, List.set_cons_succ]
    refine spec_d rfl (fun x _ => gives_run (by go_simp)) ?_
    try simp only [Act.put, List.getElem_toArray, List.getElem_cons_succ, List.getElem_cons_zero, List.setIfInBounds_toArray, List.set_cons_zero, List.set_cons_succ]
    refine spec_end (fun z hz => ?_)
    clear hz
    refine wpAny_done (by kernel_rfl) ?_ _
    have HB5 := Lib.hid (HB1.out.trans (((bel_drew W1).trans z.below).mono HB1.out.size))
    clear K0 K1 K2 K3 K4 K5 K6 K7
    generalize z.world = w5 at HB5 ⊢
    clear z
    go_wp2
    go_ret
    exact ⟨rfl, HB5.out⟩
theorem tke3_any (A : Option Addr) (n c : Nat) (ws : List Wd) (y : Int) (w : World) (hW : WinsAt w A n ws) (hn : n ≤ 900) (hB : ∀ x ∈ ws, x.k = 0 → 0 ≤ x.wd ∧ x.wd ≤ 100) :
    Calls Try.prog 28 #[.slice A n c, .int .i64 y, .func (.func 30) #[] #[]] w fun e w' => e = .returned (.int .i64 (sumF (tkeW y) ws)) ∧ Below w.heap.size w w' := by
  obtain ⟨g3, HG3⟩ : ∃ g, Hid (w.heap.size = g) := ⟨_, Lib.hid rfl⟩
  obtain ⟨g4, HG4⟩ : ∃ g, Hid (g3 + 1 = g) := ⟨_, Lib.hid rfl⟩
  obtain ⟨W2, HW2⟩ : ∃ W, Hid (W = (w.alloc (.cells #[.int .i64 y] 3)).alloc (.cells #[.func (.func 30) #[] #[]] 56)) := ⟨_, Lib.hid rfl⟩
  have hb2 : Below w.heap.size w W2 := by rw [HW2.out]; exact ((Below.refl _ _).alloc (Nat.le_refl _) _).alloc (by simp) _
  have HO3 : Hid (Obj1 W2 g3 3 #[.int .i64 y]) := Lib.hid (by rw [HW2.out, ← HG3.out]; exact (Obj1.new _ _ _).kept (bel1 _ _))
  have HO4 : Hid (Obj1 W2 g4 56 #[.func (.func 30) #[] #[]]) := Lib.hid (by
    rw [HW2.out, ← HG4.out, ← HG3.out, show w.heap.size + 1 = (w.alloc (.cells #[.int .i64 y] 3)).heap.size by simp]
    exact Obj1.new _ _ _)
  have HB2 := Lib.hid hb2
  have hW2 := hW.kept hb2
  have HS := Lib.hid (sum_any 41 #[.pointer (some ⟨g4, 0, none⟩), .pointer (some ⟨g3, 0, none⟩)] (ent_of Try.func41 (by rfl) (by rfl)) (tkeW y) A n c ws W2 hW2 hn
    (fun x hx => by
      unfold tkeW
      split
      · rename_i h; have := hB x hx h.1; omega
      · omega)
    (fun x hx W hb => tke2_any x y g3 g4 W ((hW2.ok x hx).kept hb) (by have h := (HO3.out.kept hb).cell 0; simpa using h) (by have h := (HO4.out.kept hb).cell 0; simpa using h) (HO3.out.kept hb).lt (HO4.out.kept hb).lt))
  clear hb2 hW hB hW2
  go_enter Try.func28, Try.ntmps28
  go_upto_region 1 with (fail)
  rw [← HW2.out, HG3.out, HG4.out]
  clear HW2
  go_wp2_with fail
  refine HS.out.mono ?_
  rintro e w5 ⟨rfl, hb5⟩
  have HB5 := Lib.hid (HB2.out.trans (hb5.mono HB2.out.size))
  clear hb5
  go_wp2
  go_ret
  exact ⟨rfl, HB5.out⟩
set_option maxRecDepth 100000 in
set_option maxHeartbeats 1000000 in
theorem tke_any (md : Int) (A0 : Option Addr) (n0 c0 : Nat) (A1 : Option Addr) (n1 c1 : Nat) (ver : Int) (y : Int) (w : World) (g : Bool) (A : Option Addr) (n c : Nat) (ws : List Wd)
    (hw : ∀ W, Below w.heap.size w W → Calls Try.prog 20 #[.agg #[.int .i64 md, .slice A0 n0 c0, .slice A1 n1 c1], .int .i64 ver] W fun e w' => e = .returned (wndV A n c g) ∧ Below W.heap.size W w')
    (hg : g = true → WinsAt w A n ws ∧ n ≤ 60 ∧ ∀ x ∈ ws, WOk x) :
    Calls Try.prog 10 #[.agg #[.int .i64 md, .slice A0 n0 c0, .slice A1 n1 c1], .int .i64 ver, .int .i64 y] w fun e w' => e = .returned (.int .i64 (if g = true then sumF (tkeW y) ws else 0)) ∧ Below w.heap.size w w' := by
  obtain ⟨gb, HGB⟩ : ∃ gb, Hid (w.heap.size = gb) := ⟨_, Lib.hid rfl⟩
  obtain ⟨W1, HW1⟩ : ∃ W1, Hid (W1 = w.alloc (.cells #[.int .i64 md, .slice A0 n0 c0, .slice A1 n1 c1] 25)) := ⟨_, Lib.hid rfl⟩
  have HB1 : Hid (Below w.heap.size w W1) := Lib.hid (by rw [HW1.out]; exact bel1 _ _)
  have HO1 : Hid (Obj1 W1 gb 25 #[.int .i64 md, .slice A0 n0 c0, .slice A1 n1 c1]) := Lib.hid (by rw [HW1.out, ← HGB.out]; exact Obj1.new _ _ _)
  have HWN := Lib.hid (hw W1 HB1.out)
  have HG := Lib.hid hg
  have q0 := HO1.out.cell 0
  have q1 := HO1.out.cell 1
  have q2 := HO1.out.cell 2
  simp at q0 q1 q2
  clear hw hg
  go_enter Try.func10, Try.ntmps10
  go_upto_region 1 with (fail)
  rw [← HW1.out, HGB.out]
  clear HW1
  go_wp2_with fail
  refine HWN.out.mono ?_
  rintro e w3 ⟨rfl, hb3⟩
  have HB3 := Lib.hid (HB1.out.trans (hb3.mono HB1.out.size))
  clear q0 q1 q2 hb3 HWN HO1 HB1
  cases g with
  | false =>
    simp only [wndV, Bool.false_eq_true, if_false]
    have HL := Lib.hid (tke3_any none 0 0 [] y w3 (wins_nil w3) (by omega) (fun x hx => by cases hx))
    go_wp2_with fail
    refine HL.out.mono ?_
    rintro e w5 ⟨rfl, hb5⟩
    have HB5 := Lib.hid (HB3.out.trans (hb5.mono HB3.out.size))
    clear hb5
    go_wp2
    go_ret
    exact ⟨rfl, HB5.out⟩
  | true =>
    obtain ⟨hW, hn, hok⟩ := HG.out rfl
    simp only [wndV, if_true]
    have HL := Lib.hid (tke3_any A n c ws y w3 (hW.kept HB3.out) (by omega) (fun x hx hk => by have := (hok x hx).d hk; omega))
    clear hW hok
    go_wp2_with fail
    refine HL.out.mono ?_
    rintro e w5 ⟨rfl, hb5⟩
    have HB5 := Lib.hid (HB3.out.trans (hb5.mono HB3.out.size))
    clear hb5
    go_wp2
    go_ret
    exact ⟨rfl, HB5.out⟩

end Go.Proofs.Ytkankdecbefenaa.Ly31
