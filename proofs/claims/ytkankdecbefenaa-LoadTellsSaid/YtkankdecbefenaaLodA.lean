/- Package load: sums over windows by a function value, which windows there are to ask for; no condition but sizes. -/
import Derived.RegionTactic
import Derived.Test.YtkankdecbefenaaVldL
import Derived.Test.YtkankdecbefenaaPlnI
import Derived.Test.YtkankdecbefenaaGenA
namespace Go.Proofs.Ytkankdecbefenaa.Ly31
open Go.ChangeShapes Go.WideShapes Go.ChangeAt Go.RowKit Base Ly7
set_option linter.unusedVariables false
set_option linter.unusedSimpArgs false

def sumF (F : Wd → Int) : List Wd → Int
  | [] => 0
  | x :: r => F x + sumF F r
theorem sumF_snoc (F : Wd → Int) (l : List Wd) (x : Wd) : sumF F (l ++ [x]) = sumF F l + F x := by
  induction l with
  | nil => simp [sumF]
  | cons y r ih => simp only [List.cons_append, sumF, ih]; omega
theorem sumF_bd {F : Wd → Int} {B : Int} : ∀ l : List Wd, (∀ x ∈ l, 0 ≤ F x ∧ F x ≤ B) → 0 ≤ sumF F l ∧ sumF F l ≤ B * l.length
  | [], _ => by simp [sumF]
  | x :: r, h => by
    have h1 := h x (by simp)
    have h2 := sumF_bd r (fun y hy => h y (by simp [hy]))
    have h3 : B * ((r.length + 1 : Nat) : Int) = B * (r.length : Int) + B := by rw [Int.natCast_add, Int.mul_add]; simp
    simp only [sumF, List.length_cons]
    omega
theorem sumF_next (F : Wd → Int) {l : List Wd} {k : Nat} {x : Wd} (hx : l[k]? = some x) : sumF F (l.take (k + 1)) = sumF F (l.take k) + F x := by rw [take_next hx, sumF_snoc]
theorem sumF_congr {F G : Wd → Int} : ∀ l : List Wd, (∀ x ∈ l, F x = G x) → sumF F l = sumF G l
  | [], _ => rfl
  | x :: r, h => by simp only [sumF]; rw [h x (by simp), sumF_congr r (fun y hy => h y (by simp [hy]))]

set_option maxRecDepth 100000 in
set_option maxHeartbeats 1000000 in
theorem sum_any (fid : FuncId) (caps : Array Value) (hE : Ent fid) (F : Wd → Int) (A : Option Addr) (n c : Nat) (ws : List Wd) (w : World) (hW : WinsAt w A n ws) (hn : n ≤ 900) (hB : ∀ x ∈ ws, 0 ≤ F x ∧ F x ≤ 100000)
    (hF : ∀ x ∈ ws, ∀ W, Below w.heap.size w W → Calls Try.prog fid (#[.agg #[.int .i64 x.k, .int .i64 x.b, .int .i64 x.wd, .int .i64 x.ad, .slice x.A x.n x.c, .slice x.B x.m x.d]] ++ caps) W fun e w' => e = .returned (.int .i64 (F x)) ∧ Below W.heap.size W w') :
    Calls Try.prog 22 #[.slice A n c, .func (.func fid) #[] caps] w fun e w' => e = .returned (.int .i64 (sumF F ws)) ∧ Below w.heap.size w w' := by
  have HW := Lib.hid hW
  have HF := Lib.hid hF
  have HBD := Lib.hid hB
  clear hW hF hB
  go_enter Try.func22, Try.ntmps22
  go_wp2_with fail
  go_loopw [5, 10] (fun s i wx => ∃ k : Nat, k ≤ n ∧ i = .int .i64 k ∧ s = .int .i64 (sumF F (ws.take k)) ∧ Below w.heap.size w wx) (fun _ i _ => n - (intOf i).toNat)
  case atStart => exact ⟨0, by omega, rfl, rfl, Below.refl _ _⟩
  case round =>
    obtain ⟨k, hk, rfl, rfl, hbel⟩ := hrel
    have HBEL := Lib.hid hbel
    by_cases hlt : k < n
    · have hki : (k : Int) < (n : Int) := by omega
      have hkl : k < ws.length := by rw [HW.out.len]; exact hlt
      obtain ⟨x, hx⟩ : ∃ x, ws[k]? = some x := ⟨_, List.getElem?_eq_getElem hkl⟩
      obtain ⟨b, off, rfl, hb, c0', c1', c2', c3', c4', c5', hok⟩ := (HW.out.kept hbel).six hlt hx
      have HNX := Lib.hid (sumF_next F hx)
      have hbd := sumF_bd (ws.take k) (fun y hy => HBD.out y (List.mem_of_mem_take hy))
      have hlk : (ws.take k).length ≤ 900 := by rw [List.length_take]; omega
      have hfb := HBD.out x (List.mem_of_getElem? hx)
      have HT := Lib.hid (HF.out x (List.mem_of_getElem? hx))
      obtain ⟨T, hT⟩ : ∃ T, F x = T := ⟨_, rfl⟩
      rw [hT] at HT HNX hfb
      obtain ⟨S, hS⟩ : ∃ S, sumF F (ws.take k) = S := ⟨_, rfl⟩
      rw [hS] at HNX hbd ⊢
      have hww : IntKind.i64.wrap (S + T) = S + T := IntWalk.i64_in _ (by omega)
      clear hbel hok hT hS hbd hlk hx hfb
      go_upto_region 5 with (fail)
      have HB7 := Lib.hid (HBEL.out.trans ((bel1 wr (.cells #[.int .i64 x.k, .int .i64 x.b, .int .i64 x.wd, .int .i64 x.ad, .slice x.A x.n x.c, .slice x.B x.m x.d] 48)).mono HBEL.out.size))
      go_wp2_with fail
      rw [hE]
      refine (HT.out _ HB7.out).mono ?_
      rintro e w7 ⟨rfl, hb7⟩
      have HB8 := Lib.hid (HB7.out.trans (hb7.mono HB7.out.size))
      clear hb7
      go_wp2
      go_roundw
      case rel => exact ⟨k + 1, by omega, by go_num, by rw [HNX.out], HB8.out⟩
      case measure => simp [intOf]; omega
    · obtain rfl : k = n := by omega
      have HE : Hid (ws.take k = ws) := Lib.hid (List.take_of_length_le (by rw [HW.out.len]; exact Nat.le_refl _))
      rw [HE.out]
      go_wp2
      go_ret
      exact ⟨rfl, HBEL.out⟩

/-! ### Which windows -/

/-- A schedule that came in, with lists that are short. -/
structure Sch (w : World) (md : Int) (A0 : Option Addr) (n0 : Nat) (A1 : Option Addr) (n1 : Nat) (ws0 ws1 : List Wd) : Prop where
  w0 : WinsAt w A0 n0 ws0
  w1 : WinsAt w A1 n1 ws1
  f0 : FewW n0 ws0
  f1 : FewW n1 ws1
  hi : md ≤ 9223372036854775807
theorem Sch.kept {w w' : World} {md : Int} {A0 : Option Addr} {n0 : Nat} {A1 : Option Addr} {n1 : Nat} {ws0 ws1 : List Wd} (h : Sch w md A0 n0 A1 n1 ws0 ws1) (hb : Below w.heap.size w w') : Sch w' md A0 n0 A1 n1 ws0 ws1 := ⟨h.w0.kept hb, h.w1.kept hb, h.f0, h.f1, h.hi⟩
/-- Which version's windows. -/
def Pick (ver : Nat) (A0 : Option Addr) (n0 c0 : Nat) (ws0 : List Wd) (A1 : Option Addr) (n1 c1 : Nat) (ws1 : List Wd) (A : Option Addr) (n c : Nat) (ws : List Wd) : Prop :=
  (ver = 0 ∧ A = A0 ∧ n = n0 ∧ c = c0 ∧ ws = ws0) ∨ (ver = 1 ∧ A = A1 ∧ n = n1 ∧ c = c1 ∧ ws = ws1)
theorem Pick.lt {ver : Nat} {A0 : Option Addr} {n0 c0 : Nat} {ws0 : List Wd} {A1 : Option Addr} {n1 c1 : Nat} {ws1 : List Wd} {A : Option Addr} {n c : Nat} {ws : List Wd} (h : Pick ver A0 n0 c0 ws0 A1 n1 c1 ws1 A n c ws) : ver < 2 := by
  rcases h with ⟨rfl, _⟩ | ⟨rfl, _⟩ <;> decide
theorem Pick.wins {w : World} {md : Int} {ver : Nat} {A0 : Option Addr} {n0 c0 : Nat} {ws0 : List Wd} {A1 : Option Addr} {n1 c1 : Nat} {ws1 : List Wd} {A : Option Addr} {n c : Nat} {ws : List Wd} (h : Pick ver A0 n0 c0 ws0 A1 n1 c1 ws1 A n c ws)
    (hs : Sch w md A0 n0 A1 n1 ws0 ws1) : WinsAt w A n ws ∧ n ≤ 60 ∧ FewW n ws := by
  rcases h with ⟨_, rfl, rfl, _, rfl⟩ | ⟨_, rfl, rfl, _, rfl⟩
  · exact ⟨hs.w0, hs.f0.1, hs.f0⟩
  · exact ⟨hs.w1, hs.f1.1, hs.f1⟩
theorem Pick.four {ver : Nat} {A0 : Option Addr} {n0 c0 : Nat} {ws0 : List Wd} {A1 : Option Addr} {n1 c1 : Nat} {ws1 : List Wd} {A : Option Addr} {n c : Nat} {ws : List Wd} (h : Pick ver A0 n0 c0 ws0 A1 n1 c1 ws1 A n c ws) :
    (ver = 0 ∧ A = A0 ∧ n = n0 ∧ c = c0) ∨ (ver = 1 ∧ A = A1 ∧ n = n1 ∧ c = c1) := by
  rcases h with ⟨h1, h2, h3, h4, _⟩ | ⟨h1, h2, h3, h4, _⟩
  · exact .inl ⟨h1, h2, h3, h4⟩
  · exact .inr ⟨h1, h2, h3, h4⟩
/-- A schedule that may be. -/
def Gd (md : Int) (ws0 ws1 : List Wd) : Prop := (2 ≤ md ∧ md ≤ 16) ∧ FrNo (winI md) 0 ws0 ∧ FrNo (winI md) 1 ws1
theorem Gd.pick {md : Int} {ver : Nat} {A0 : Option Addr} {n0 c0 : Nat} {ws0 : List Wd} {A1 : Option Addr} {n1 c1 : Nat} {ws1 : List Wd} {A : Option Addr} {n c : Nat} {ws : List Wd} (h : Gd md ws0 ws1) (hp : Pick ver A0 n0 c0 ws0 A1 n1 c1 ws1 A n c ws) : FrNo (winI md) ver ws := by
  rcases hp with ⟨rfl, _, _, _, rfl⟩ | ⟨rfl, _, _, _, rfl⟩
  · exact h.2.1
  · exact h.2.2
theorem fr_code {f : Wd → Int} {ver : Nat} {ws : List Wd} {j e : Int} (h : Fr f ver ws j e) : e ≠ 0 := by
  rcases h with ⟨_, _, rfl⟩ | ⟨_, k, x, _, _, h, _, rfl⟩ | ⟨_, _, _, _, rfl⟩
  · decide
  · exact h
  · decide
theorem gd_code {md : Int} {ws0 ws1 : List Wd} {v j c : Int} (h : Chk (winI md) md ws0 ws1 v j c) : c = 0 ↔ Gd md ws0 ws1 := by
  constructor
  · rintro rfl
    rcases h with ⟨_, _, _, h⟩ | ⟨hm, ⟨h, _⟩ | ⟨_, h, _⟩ | ⟨h1, h2, _⟩⟩
    · cases h
    · exact absurd rfl (fr_code h)
    · exact absurd rfl (fr_code h)
    · exact ⟨hm, h1, h2⟩
  · rintro ⟨hm, h1, h2⟩
    rcases h with ⟨h, _, _, _⟩ | ⟨_, ⟨h, _⟩ | ⟨_, h, _⟩ | ⟨_, _, _, _, rfl⟩⟩
    · omega
    · exact absurd h (fr_no h1)
    · exact absurd h (fr_no h2)
    · rfl
theorem chk_sch {w : World} {md : Int} {A0 : Option Addr} {n0 : Nat} (c0 : Nat) {A1 : Option Addr} {n1 : Nat} (c1 : Nat) {ws0 ws1 : List Wd} (h : Sch w md A0 n0 A1 n1 ws0 ws1) :
    Calls Try.prog 38 #[.agg #[.int .i64 md, .slice A0 n0 c0, .slice A1 n1 c1]] w fun e w' => ∃ v j c, e = .returned (.agg #[.int .i64 v, .int .i64 j, .int .i64 c]) ∧ Hid (c = 0 ↔ Gd md ws0 ws1) ∧ Below w.heap.size w w' :=
  (check_any (winI md) md A0 n0 c0 A1 n1 c1 ws0 ws1 w h.w0 h.w1 (by have := h.f0.1; omega) (by have := h.f1.1; omega) (says_win h.hi h.f0) (says_win h.hi h.f1)).mono (by
    rintro e w' ⟨v, j, c, he, hc, hb⟩
    exact ⟨v, j, c, he, Lib.hid (gd_code hc), hb⟩)
theorem windows_no (md : Int) (A0 : Option Addr) (n0 c0 : Nat) (A1 : Option Addr) (n1 c1 : Nat) (ver : Int) (hv : ver < 0 ∨ 2 ≤ ver) (w : World) :
    Calls Try.prog 20 #[.agg #[.int .i64 md, .slice A0 n0 c0, .slice A1 n1 c1], .int .i64 ver] w fun e w' => e = .returned (.tuple #[.slice none 0 0, .bool false]) ∧ Below w.heap.size w w' := by
  rcases (show ver < 0 ∨ (¬ ver < 0 ∧ 2 ≤ ver) by omega) with h | ⟨h, h2⟩
  · go_enter Try.func20, Try.ntmps20
    go_wp2
    try rw [Exit.noGoto_ret]
    refine bodyPost_ret (v := .tuple #[.slice none 0 0, .bool false]) (by simp [results, Try.results20, go_sem]) rfl ?_
    exact ⟨rfl, bel1 _ _⟩
  · go_enter Try.func20, Try.ntmps20
    go_wp2
    try rw [Exit.noGoto_ret]
    refine bodyPost_ret (v := .tuple #[.slice none 0 0, .bool false]) (by simp [results, Try.results20, go_sem]) rfl ?_
    exact ⟨rfl, bel1 _ _⟩
/-- What package load's windows tells. -/
def wndV (A : Option Addr) (n c : Nat) (g : Bool) : Value := if g = true then .tuple #[.slice A n c, .bool true] else .tuple #[.slice none 0 0, .bool false]
set_option maxRecDepth 100000 in
set_option maxHeartbeats 1000000 in
theorem windows_any (md : Int) (A0 : Option Addr) (n0 c0 : Nat) (A1 : Option Addr) (n1 c1 : Nat) (ws0 ws1 : List Wd) (A : Option Addr) (n c : Nat) (ver : Nat) (ws : List Wd) (w : World) (hs : Sch w md A0 n0 A1 n1 ws0 ws1) (hp : Pick ver A0 n0 c0 ws0 A1 n1 c1 ws1 A n c ws) (g : Bool) (hg : g = true ↔ Gd md ws0 ws1) :
    Calls Try.prog 20 #[.agg #[.int .i64 md, .slice A0 n0 c0, .slice A1 n1 c1], .int .i64 (ver : Int)] w fun e w' => e = .returned (wndV A n c g) ∧ Below w.heap.size w w' := by
  have v2 := hp.lt
  have v2i : (ver : Int) < 2 := by omega
  have v2n : ¬ 2 ≤ (ver : Int) := by omega
  have v0i : ¬ (ver : Int) < 0 := by omega
  obtain ⟨gb, HGB⟩ : ∃ gb, Hid (w.heap.size = gb) := ⟨_, Lib.hid rfl⟩
  obtain ⟨W1, HW1⟩ : ∃ W1, W1 = w.alloc (.cells #[.int .i64 md, .slice A0 n0 c0, .slice A1 n1 c1] 25) := ⟨_, rfl⟩
  have HB1 : Hid (Below w.heap.size w W1) := Lib.hid (by rw [HW1]; exact bel1 _ _)
  have HO1 : Hid (Obj1 W1 gb 25 #[.int .i64 md, .slice A0 n0 c0, .slice A1 n1 c1]) := Lib.hid (by rw [HW1, ← HGB.out]; exact Obj1.new _ _ _)
  have HCK := Lib.hid (chk_sch c0 c1 (hs.kept HB1.out))
  have HPK := Lib.hid hp
  have HGG := Lib.hid hg
  clear hs hp hg
  have q0 := HO1.out.cell 0
  have q1 := HO1.out.cell 1
  have q2 := HO1.out.cell 2
  simp at q0 q1 q2
  go_enter Try.func20, Try.ntmps20
  go_upto_region 1 with (fail)
  rw [← HW1, HGB.out]
  clear HW1
  go_wp2_with fail
  refine HCK.out.mono ?_
  rintro e w5 ⟨v, j, cc, rfl, HCC, hb5⟩
  have HB5 := Lib.hid (HB1.out.trans (hb5.mono HB1.out.size))
  have HO5 := Lib.hid (HO1.out.kept hb5)
  have hfl := fun W => fld_code (.int .i64 v) (.int .i64 j) (.int .i64 cc) W
  clear q0 q1 q2 hb5 HCK HO1 HB1
  cases g with
  | false =>
    have hcc : (cc == 0) = false := by
      have : ¬ cc = 0 := fun h => by have := HGG.out.2 (HCC.out.1 h); cases this
      simpa using this
    go_wp2
    try rw [Exit.noGoto_ret]
    refine bodyPost_ret (v := .tuple #[.slice none 0 0, .bool false]) (by simp [results, Try.results20, go_sem]) rfl ?_
    exact ⟨rfl, HB5.out⟩
  | true =>
    obtain rfl : cc = 0 := HCC.out.2 (HGG.out.1 rfl)
    have cF : w5.cell? ⟨gb, 1 + ver, none⟩ = some (.slice A n c) := by
      rw [HO5.out.cell]
      rcases HPK.out with ⟨rfl, rfl, rfl, rfl, _⟩ | ⟨rfl, rfl, rfl, rfl, _⟩ <;> rfl
    go_wp2
    try rw [Exit.noGoto_ret]
    refine bodyPost_ret (v := .tuple #[.slice A n c, .bool true]) (by simp [results, Try.results20, go_sem]) rfl ?_
    exact ⟨rfl, HB5.out⟩

/-! ### Of -/

def kF (K : Int) (G : Wd → Int) (x : Wd) : Int := if x.k = K then G x else 0
theorem of11_any (K : Int) (gid : FuncId) (hE : Ent gid) (G : Wd → Int) (x : Wd) (g3 g4 : Nat) (w : World) (h3 : w.cell? ⟨g3, 0, none⟩ = some (.int .i64 K)) (h4 : w.cell? ⟨g4, 0, none⟩ = some (.func (.func gid) #[] #[])) (l3 : g3 < w.heap.size) (l4 : g4 < w.heap.size)
    (hG : x.k = K → ∀ W, Calls Try.prog gid #[.agg #[.int .i64 x.k, .int .i64 x.b, .int .i64 x.wd, .int .i64 x.ad, .slice x.A x.n x.c, .slice x.B x.m x.d]] W fun e w' => e = .returned (.int .i64 (G x)) ∧ Below W.heap.size W w') :
    Calls Try.prog 23 #[.agg #[.int .i64 x.k, .int .i64 x.b, .int .i64 x.wd, .int .i64 x.ad, .slice x.A x.n x.c, .slice x.B x.m x.d], .pointer (some ⟨g3, 0, none⟩), .pointer (some ⟨g4, 0, none⟩)] w fun e w' => e = .returned (.int .i64 (kF K G x)) ∧ Below w.heap.size w w' := by
  obtain ⟨gb, HGB⟩ : ∃ gb, Hid (w.heap.size = gb) := ⟨_, Lib.hid rfl⟩
  obtain ⟨W1, HW1⟩ : ∃ W1, W1 = w.alloc (.cells #[.int .i64 x.k, .int .i64 x.b, .int .i64 x.wd, .int .i64 x.ad, .slice x.A x.n x.c, .slice x.B x.m x.d] 48) := ⟨_, rfl⟩
  have hb1 : Below w.heap.size w W1 := by rw [HW1]; exact bel1 _ _
  have HO1 : Hid (Obj1 W1 gb 48 #[.int .i64 x.k, .int .i64 x.b, .int .i64 x.wd, .int .i64 x.ad, .slice x.A x.n x.c, .slice x.B x.m x.d]) := Lib.hid (by rw [HW1, ← HGB.out]; exact Obj1.new _ _ _)
  have c3 : W1.cell? ⟨g3, 0, none⟩ = some (.int .i64 K) := (hb1.cell (p := ⟨g3, 0, none⟩) l3).trans h3
  have c4 : W1.cell? ⟨g4, 0, none⟩ = some (.func (.func gid) #[] #[]) := (hb1.cell (p := ⟨g4, 0, none⟩) l4).trans h4
  have HB1 := Lib.hid hb1
  have HGF := Lib.hid hG
  have q0 := HO1.out.cell 0
  have q1 := HO1.out.cell 1
  have q2 := HO1.out.cell 2
  have q3 := HO1.out.cell 3
  have q4 := HO1.out.cell 4
  have q5 := HO1.out.cell 5
  simp at q0 q1 q2 q3 q4 q5
  clear hb1 h3 h4 l3 l4 hG
  by_cases hk : x.k = K
  · have HR : Hid (kF K G x = G x) := Lib.hid (by unfold kF; rw [if_pos hk])
    rw [HR.out]
    have HGC := Lib.hid (HGF.out hk)
    have hkb : (x.k == K) = true := by simpa using hk
    clear hk
    go_enter Try.func23, Try.ntmps23
    go_upto_region 1 with (fail)
    rw [← HW1, HGB.out]
    clear HW1
    go_wp2_with fail
    rw [hE]
    refine (HGC.out _).mono ?_
    rintro e w5 ⟨rfl, hb5⟩
    have HB5 := Lib.hid (HB1.out.trans (hb5.mono HB1.out.size))
    clear hb5 q0 q1 q2 q3 q4 q5 c3 c4
    go_wp2
    go_ret
    exact ⟨rfl, HB5.out⟩
  · have HR : Hid (kF K G x = 0) := Lib.hid (by unfold kF; rw [if_neg hk])
    rw [HR.out]
    have hkb : (x.k == K) = false := by simpa using hk
    clear hk
    go_enter Try.func23, Try.ntmps23
    go_upto_region 1 with (fail)
    rw [← HW1, HGB.out]
    clear HW1
    go_wp2
    go_ret
    exact ⟨rfl, HB1.out⟩
theorem of1_any (K : Int) (gid : FuncId) (hE : Ent gid) (G : Wd → Int) (A : Option Addr) (n c : Nat) (ws : List Wd) (gl : Nat) (w : World) (hl : w.cell? ⟨gl, 0, none⟩ = some (.slice A n c)) (hlt : gl < w.heap.size) (hW : WinsAt w A n ws) (hn : n ≤ 900) (hB : ∀ x ∈ ws, x.k = K → 0 ≤ G x ∧ G x ≤ 100000)
    (hG : ∀ x ∈ ws, x.k = K → ∀ W, Calls Try.prog gid #[.agg #[.int .i64 x.k, .int .i64 x.b, .int .i64 x.wd, .int .i64 x.ad, .slice x.A x.n x.c, .slice x.B x.m x.d]] W fun e w' => e = .returned (.int .i64 (G x)) ∧ Below W.heap.size W w') :
    Calls Try.prog 21 #[.int .i64 K, .func (.func gid) #[] #[], .pointer (some ⟨gl, 0, none⟩)] w fun e w' => e = .returned (.int .i64 (sumF (kF K G) ws)) ∧ Below w.heap.size w w' := by
  obtain ⟨g3, HG3⟩ : ∃ g, Hid (w.heap.size = g) := ⟨_, Lib.hid rfl⟩
  obtain ⟨g4, HG4⟩ : ∃ g, Hid (g3 + 1 = g) := ⟨_, Lib.hid rfl⟩
  obtain ⟨W2, HW2⟩ : ∃ W, Hid (W = (w.alloc (.cells #[.int .i64 K] 3)).alloc (.cells #[.func (.func gid) #[] #[]] 52)) := ⟨_, Lib.hid rfl⟩
  have hb2 : Below w.heap.size w W2 := by rw [HW2.out]; exact ((Below.refl _ _).alloc (Nat.le_refl _) _).alloc (by simp) _
  have HO3 : Hid (Obj1 W2 g3 3 #[.int .i64 K]) := Lib.hid (by rw [HW2.out, ← HG3.out]; exact (Obj1.new _ _ _).kept (bel1 _ _))
  have HO4 : Hid (Obj1 W2 g4 52 #[.func (.func gid) #[] #[]]) := Lib.hid (by
    rw [HW2.out, ← HG4.out, ← HG3.out, show w.heap.size + 1 = (w.alloc (.cells #[.int .i64 K] 3)).heap.size by simp]
    exact Obj1.new _ _ _)
  have HB2 := Lib.hid hb2
  have cl : W2.cell? ⟨gl, 0, none⟩ = some (.slice A n c) := (hb2.cell (p := ⟨gl, 0, none⟩) hlt).trans hl
  have HS := Lib.hid (sum_any 23 #[.pointer (some ⟨g3, 0, none⟩), .pointer (some ⟨g4, 0, none⟩)] (ent_of Try.func23 (by rfl) (by rfl)) (kF K G) A n c ws W2 (hW.kept hb2) hn
    (fun x hx => by
      unfold kF
      by_cases h : x.k = K
      · rw [if_pos h]; exact hB x hx h
      · rw [if_neg h]; omega)
    (fun x hx W hb => of11_any K gid hE G x g3 g4 W (by have h := (HO3.out.kept hb).cell 0; simpa using h) (by have h := (HO4.out.kept hb).cell 0; simpa using h) (HO3.out.kept hb).lt (HO4.out.kept hb).lt (hG x hx)))
  clear hb2 hl hlt hW hB hG
  go_enter Try.func21, Try.ntmps21
  go_upto_region 1 with (fail)
  rw [← HW2.out, HG3.out, HG4.out]
  clear HW2
  go_wp2_with fail
  refine HS.out.mono ?_
  rintro e w5 ⟨rfl, hb5⟩
  have HB5 := Lib.hid (HB2.out.trans (hb5.mono HB2.out.size))
  clear hb5 cl
  go_wp2
  go_ret
  exact ⟨rfl, HB5.out⟩
end Go.Proofs.Ytkankdecbefenaa.Ly31
