/- What was written last is read, other places are as they were; a store that is the same goes on by itself; what is told is new memory: for every two writes, and every place; no condition. -/
import Derived.Test.YthnopcoahcdjjaaStoF
import Derived.Test.YthnopcoahcdjjaaSh
import Derived.Test.YthnopcoahcdjjaaRows
import Derived.WalkKit
import Derived.ProofKit
import Derived.OpenShut
import Derived.ShutString
import Derived.ChangeOld
import Derived.Below
namespace Go.Proofs.Ythnopcoahcdjjaa.lawStoreOwn
open Go.ChangeShapes Go.WideShapes Go.ChangeAt Go.RowKit Base
open Go.ChangeMaps (open_string shut_string)
set_option linter.unusedVariables false
set_option linter.unusedSimpArgs false
theorem own : ownKnob Try.prog.godebug = none := by kernel_rfl
theorem laidOut : laidOutB Try.prog = true := by kernel_rfl
open Ly13

theorem case_of (f : Nat → Int) (p : Nat → Bool) (a : Int) (n t : Nat) (ws : List Int) (hl : ws.length = n) (ev : Int) (he : wE a n = ev) :
    (ev = 2 ∧ wW f a n ws t = f t ∧ wG p a n true t = p t) ∨ (ev = 0 ∧ 0 ≤ a ∧ a ≤ 64 ∧ (t : Int) < a ∧ wW f a n ws t = f t ∧ wG p a n true t = p t) ∨
    (∃ d : Nat, ev = 0 ∧ 0 ≤ a ∧ a ≤ t ∧ (t : Int) - a = (d : Int) ∧ d < n ∧ wW f a n ws t = ws.getD d 0 ∧ wG p a n true t = true) ∨
    (∃ d : Nat, ev = 0 ∧ 0 ≤ a ∧ a ≤ t ∧ (t : Int) - a = (d : Int) ∧ ¬ d < n ∧ wW f a n ws t = f t ∧ wG p a n true t = p t) := by
  subst he
  unfold wE wW wG
  by_cases hr : Rt a n
  · rw [if_pos hr, if_pos hr, if_pos hr]
    unfold Rt at hr
    obtain ⟨k, rfl⟩ : ∃ k : Nat, a = (k : Int) := ⟨a.toNat, by omega⟩
    simp only [Int.toNat_natCast]
    unfold ovrW ovr
    by_cases h1 : t < k
    · exact .inr (.inl ⟨trivial, by omega, by omega, by omega, by rw [if_neg (by omega)], by rw [if_neg (by omega)]⟩)
    · by_cases h2 : t - k < n
      · exact .inr (.inr (.inl ⟨t - k, trivial, by omega, by omega, by omega, h2, by rw [if_pos (by omega)], by rw [if_pos (by omega)]⟩))
      · exact .inr (.inr (.inr ⟨t - k, trivial, by omega, by omega, by omega, by omega, by rw [if_neg (by omega)], by rw [if_neg (by omega)]⟩))
  · rw [if_neg hr, if_neg hr, if_neg hr]
    exact .inl ⟨rfl, rfl, rfl⟩
theorem xor_one (x : Int) (h0 : 0 ≤ x) (h1 : x ≤ 255) : ∃ z : Int, 0 ≤ z ∧ z ≤ 255 ∧ Go.bits BinOp.xor IntKind.u8 x 1 = z ∧ Go.bits BinOp.xor IntKind.u8 z 1 = x := by
  have key : ∀ n : Fin 256, 0 ≤ Go.bits BinOp.xor IntKind.u8 ((n.1 : Nat) : Int) 1 ∧ Go.bits BinOp.xor IntKind.u8 ((n.1 : Nat) : Int) 1 ≤ 255 ∧ Go.bits BinOp.xor IntKind.u8 (Go.bits BinOp.xor IntKind.u8 ((n.1 : Nat) : Int) 1) 1 = ((n.1 : Nat) : Int) := by decide +kernel
  obtain ⟨k, rfl⟩ : ∃ k : Nat, x = (k : Int) := ⟨x.toNat, by omega⟩
  have := key ⟨k, by omega⟩
  exact ⟨_, this.1, this.2.1, rfl, this.2.2⟩
theorem wW_bd (a : Int) (n t : Nat) (ws : List Int) (h : ∀ x ∈ ws, 0 ≤ x ∧ x ≤ 255) : 0 ≤ wW (fun _ => 0) a n ws t ∧ wW (fun _ => 0) a n ws t ≤ 255 := by
  unfold wW
  split
  · unfold ovrW
    split
    · rw [List.getD_eq_getElem?_getD]
      cases e : ws[t - a.toNat]? with
      | none => simp
      | some v => exact h v (List.mem_of_getElem? e)
    · simp
  · simp

theorem cell_of {w : World} {A : Option Addr} {n : Nat} {ws : List Int} (h : Lst w A n (ws.map (Value.int .u8))) (q : Nat) (hq : q < n) {u : Int} (hu : u = ws.getD q 0) : ∃ b o, A = some ⟨b, o, none⟩ ∧ w.cell? ⟨b, o + q, none⟩ = some (.int .u8 u) := by
  obtain ⟨b, o, e, _, hc⟩ := h.get hq
  have hql : q < ws.length := by have := h.1; simp at this; omega
  refine ⟨b, o, e, ?_⟩
  rw [hc, List.getElem_map, hu, List.getD_eq_getElem?_getD, List.getElem?_eq_getElem hql]
  rfl
set_option maxRecDepth 100000 in
theorem walk_long (A B : Option Addr) (n c m d : Nat) (ka aa ma kb bb mb t : Int) (w : World) (hn : n ≤ 9223372036854775807) (hm : m ≤ 9223372036854775807) (h : 200 < n ∨ (n ≤ 200 ∧ 200 < m)) :
    Calls Try.prog 12 #[.agg #[.int .i64 ka, .int .i64 aa, .int .i64 ma, .slice A n c], .agg #[.int .i64 kb, .int .i64 bb, .int .i64 mb, .slice B m d], .int .i64 t] w fun e w' => e = .returned (.bool true) ∧ Below w.heap.size w w' := by
  obtain ⟨T, hT⟩ : ∃ T, T = 70 := ⟨_, rfl⟩
  have C3 := Lib.hid (((Obj1.new w 70 #[.int .i64 ka, .int .i64 aa, .int .i64 ma, .slice A n c]).alloc (.cells #[.int .i64 kb, .int .i64 bb, .int .i64 mb, .slice B m d] 70)).cell 3)
  have D3 := Lib.hid ((Obj1.new (w.alloc (.cells #[.int .i64 ka, .int .i64 aa, .int .i64 ma, .slice A n c] 70)) 70 #[.int .i64 kb, .int .i64 bb, .int .i64 mb, .slice B m d]).cell 3)
  have HWB : Hid (Below w.heap.size w ((w.alloc (.cells #[.int .i64 ka, .int .i64 aa, .int .i64 ma, .slice A n c] 70)).alloc (.cells #[.int .i64 kb, .int .i64 bb, .int .i64 mb, .slice B m d] 70))) := ((Below.refl _ _).alloc (Nat.le_refl _) _).alloc (by simp) _
  rw [show (w.alloc (.cells #[.int .i64 ka, .int .i64 aa, .int .i64 ma, .slice A n c] 70)).heap.size = w.heap.size + 1 by simp] at D3
  rcases h with h | ⟨h, h'⟩
  all_goals
    go_enter Try.func12, Try.ntmps12
    go_wp2_with fail
    generalize (w.alloc (.cells #[.int .i64 ka, .int .i64 aa, .int .i64 ma, .slice A n c] 70)).alloc (.cells #[.int .i64 kb, .int .i64 bb, .int .i64 mb, .slice B m d] 70) = W at C3 D3 HWB ⊢
    refine (new_ex W).mono ?_
    rintro e w1 ⟨b1, rfl, n1, m1, HX1, HB1⟩
    have ca3 := keepc C3.out HB1.out
    have cb3 := keepc D3.out HB1.out
    go_wp2
    go_ret
    exact ⟨rfl, HWB.out.trans (HB1.out.mono HWB.out.size)⟩

set_option maxRecDepth 100000 in
set_option maxHeartbeats 8000000 in
theorem walk_in (A B : Option Addr) (n c m d : Nat) (ws vs : List Int) (ka aa ma kb bb mb t0 : Int) (t : Nat) (w : World) (hn : n ≤ 200) (hm : m ≤ 200) (ht : Go.bits BinOp.and IntKind.i64 t0 63 = (t : Int)) (ht64 : t < 64)
    (a0 : -9223372036854775808 ≤ aa) (a1 : aa ≤ 9223372036854775807) (b0 : -9223372036854775808 ≤ bb) (b1' : bb ≤ 9223372036854775807)
    (hla : Lst w A n (ws.map (Value.int .u8))) (hlb : Lst w B m (vs.map (Value.int .u8))) (hxa : ∀ x ∈ ws, 0 ≤ x ∧ x ≤ 255) (hxb : ∀ x ∈ vs, 0 ≤ x ∧ x ≤ 255) :
    Calls Try.prog 12 #[.agg #[.int .i64 ka, .int .i64 aa, .int .i64 ma, .slice A n c], .agg #[.int .i64 kb, .int .i64 bb, .int .i64 mb, .slice B m d], .int .i64 t0] w fun e w' => e = .returned (.bool true) ∧ Below w.heap.size w w' := by
  have HW1 : Hid (Below w.heap.size w ((w.alloc (.cells #[.int .i64 ka, .int .i64 aa, .int .i64 ma, .slice A n c] 70)).alloc (.cells #[.int .i64 kb, .int .i64 bb, .int .i64 mb, .slice B m d] 70))) := ((Below.refl _ _).alloc (Nat.le_refl _) _).alloc (by simp) _
  have C1 := Lib.hid (((Obj1.new w 70 #[.int .i64 ka, .int .i64 aa, .int .i64 ma, .slice A n c]).alloc (.cells #[.int .i64 kb, .int .i64 bb, .int .i64 mb, .slice B m d] 70)).cell 1)
  have C3 := Lib.hid (((Obj1.new w 70 #[.int .i64 ka, .int .i64 aa, .int .i64 ma, .slice A n c]).alloc (.cells #[.int .i64 kb, .int .i64 bb, .int .i64 mb, .slice B m d] 70)).cell 3)
  have D1 := Lib.hid ((Obj1.new (w.alloc (.cells #[.int .i64 ka, .int .i64 aa, .int .i64 ma, .slice A n c] 70)) 70 #[.int .i64 kb, .int .i64 bb, .int .i64 mb, .slice B m d]).cell 1)
  have D3 := Lib.hid ((Obj1.new (w.alloc (.cells #[.int .i64 ka, .int .i64 aa, .int .i64 ma, .slice A n c] 70)) 70 #[.int .i64 kb, .int .i64 bb, .int .i64 mb, .slice B m d]).cell 3)
  rw [show (w.alloc (.cells #[.int .i64 ka, .int .i64 aa, .int .i64 ma, .slice A n c] 70)).heap.size = w.heap.size + 1 by simp] at D3 D1
  have HLA := Lib.hid (hla.kept HW1.out)
  have HLB := Lib.hid (hlb.kept HW1.out)
  have HLN := Lib.hid (show ws.length = n by simpa using hla.1)
  have HLM := Lib.hid (show vs.length = m by simpa using hlb.1)
  have HXA := Lib.hid hxa
  obtain ⟨ev, HEV⟩ : ∃ ev, Hid (wE aa n = ev) := ⟨_, Lib.hid rfl⟩
  obtain ⟨fv, HFV⟩ : ∃ fv, Hid (wE bb m = fv) := ⟨_, Lib.hid rfl⟩
  obtain ⟨F, HF⟩ : ∃ F, Hid (wW (fun _ => 0) aa n ws = F) := ⟨_, Lib.hid rfl⟩
  obtain ⟨G, HG⟩ : ∃ G, Hid (wG (fun _ => false) aa n true = G) := ⟨_, Lib.hid rfl⟩
  obtain ⟨x0, HX0⟩ : ∃ x0, Hid (F t = x0) := ⟨_, Lib.hid rfl⟩
  obtain ⟨h0, HH0⟩ : ∃ h0, Hid (G t = h0) := ⟨_, Lib.hid rfl⟩
  obtain ⟨u0, HU0⟩ : ∃ u0, Hid (wW F bb m vs t = u0) := ⟨_, Lib.hid rfl⟩
  obtain ⟨g0, HG0⟩ : ∃ g0, Hid (wG G bb m true t = g0) := ⟨_, Lib.hid rfl⟩
  have hx01 : 0 ≤ x0 ∧ x0 ≤ 255 := by rw [← HX0.out, ← HF.out]; exact wW_bd aa n t ws hxa
  obtain ⟨x00, x01⟩ := hx01
  clear hla hlb hxa hxb
  go_enter Try.func12, Try.ntmps12
  go_wp2_with fail
  generalize (w.alloc (.cells #[.int .i64 ka, .int .i64 aa, .int .i64 ma, .slice A n c] 70)).alloc (.cells #[.int .i64 kb, .int .i64 bb, .int .i64 mb, .slice B m d] 70) = W at C1 C3 D1 D3 HW1 HLA HLB ⊢
  refine (new_ex W).mono ?_
  rintro e w1 ⟨b1, rfl, n1, m1, HX1, HB1⟩
  have HN1 := Lib.hid n1
  have ca1 := keepc C1.out HB1.out
  have ca3 := keepc C3.out HB1.out
  have cb3 := keepc D3.out HB1.out
  go_wp2_with fail
  refine (write_all b1 n c aa A ws _ _ _ w1 HX1.out (HLA.out.kept HB1.out) a0 a1 (by omega)).mono ?_
  rintro e w2 ⟨rfl, HX2, hw2⟩
  rw [HEV.out]
  rw [HF.out, HG.out] at HX2
  have HB2 := Lib.hid (HB1.out.trans (hw2.out.below HN1.out HB1.out.size))
  clear ca1 ca3 cb3 HX1 hw2 m1 HB1 n1
  go_wp2_with fail
  refine (clone_ex b1 _ _ _ w2 HX2.out).mono ?_
  rintro e w3 ⟨b2, rfl, n2, m2, HY3, hb3⟩
  have HX3 := Lib.hid (HX2.out.kept hb3.out)
  have HB3 := Lib.hid (HB2.out.trans (hb3.out.mono HB2.out.size))
  have HN12 : Hid (b1 ≠ b2) := by show _ ≠ _; have := HX2.out.lt; omega
  have HN2 : Hid (W.heap.size ≤ b2) := by show _ ≤ _; have := HB2.out.size; omega
  clear n2 m2 hb3 HX2 HB2
  go_wp2_with fail
  refine (same_id b2 b1 _ _ _ w3 HY3.out HX3.out).mono ?_
  rintro e w4 ⟨rfl, hb4⟩
  have HX4 := Lib.hid (HX3.out.kept hb4.out)
  have HY4 := Lib.hid (HY3.out.kept hb4.out)
  have HB4 := Lib.hid (HB3.out.trans (hb4.out.mono HB3.out.size))
  clear hb4 HX3 HY3 HB3
  go_wp2_with fail
  refine (same_id b1 b2 _ _ _ w4 HX4.out HY4.out).mono ?_
  rintro e w5 ⟨rfl, hb5⟩
  have HX5 := Lib.hid (HX4.out.kept hb5.out)
  have HY5 := Lib.hid (HY4.out.kept hb5.out)
  have HB5 := Lib.hid (HB4.out.trans (hb5.out.mono HB4.out.size))
  clear hb5 HX4 HY4 HB4
  have cb1 := keepc D1.out HB5.out
  have cb3 := keepc D3.out HB5.out
  go_wp2_with fail
  refine (write_all b2 m d bb B vs _ _ _ w5 HY5.out (HLB.out.kept HB5.out) b0 b1' (by omega)).mono ?_
  rintro e w6 ⟨rfl, HY6, hw6⟩
  rw [HFV.out]
  have HX6 := Lib.hid (HX5.out.touch hw6.out HN12.out)
  have HB6 := Lib.hid (HB5.out.trans (hw6.out.below HN2.out HB5.out.size))
  clear cb1 cb3 hw6 HX5 HY5 HB5
  go_wp2_with fail
  refine (read1 b2 t u0 g0 _ _ _ w6 HY6.out ht64 HU0.out HG0.out).mono ?_
  rintro e w7 ⟨g1, rfl, ng1, mg1, HO7, hb7⟩
  have HX7 := Lib.hid (HX6.out.kept hb7.out)
  have HB7 := Lib.hid (HB6.out.trans (hb7.out.mono HB6.out.size))
  clear hb7 HX6 HY6 HB6 ng1 mg1
  go_wp2_with fail
  refine (read1 b1 t x0 h0 _ _ _ w7 HX7.out ht64 HX0.out HH0.out).mono ?_
  rintro e w8 ⟨g2, rfl, ng2, mg2, HP8, hb8⟩
  have HX8 := Lib.hid (HX7.out.kept hb8.out)
  have HO8 := Lib.hid (HO7.out.kept hb8.out)
  have HB8 := Lib.hid (HB7.out.trans (hb8.out.mono HB7.out.size))
  have HG21 : Hid (b1 ≠ g2) := by show _ ≠ _; have := HX7.out.lt; omega
  have HGW : Hid (W.heap.size ≤ g2) := by show _ ≤ _; have := HB7.out.size; omega
  clear hb8 HX7 HO7 HB7 ng2 mg2
  have cb1 := keepc D1.out HB8.out
  have cb3 := keepc D3.out HB8.out
  have co := HO8.out.cell 0
  have cp := HP8.out.cell 0
  have HLB8 := Lib.hid (HLB.out.kept HB8.out)
  have HCA := case_of (fun _ => 0) (fun _ => false) aa n t ws HLN.out ev HEV.out
  rw [HF.out, HG.out, HX0.out, HH0.out] at HCA
  have HCA := Lib.hid HCA
  have HCB := case_of F G bb m t vs HLM.out fv HFV.out
  rw [HU0.out, HG0.out, HX0.out, HH0.out] at HCB
  have HCB := Lib.hid HCB
  obtain ⟨z, z0, z1, hz, hzz⟩ := xor_one x0 x00 x01
  have fp := HP8.out.free 0
  have ca1 := keepc C1.out HB8.out
  have ca3 := keepc C3.out HB8.out
  have HLA8 := Lib.hid (HLA.out.kept HB8.out)
  clear C1 C3 D1 D3 HLA HLB HXA HN1 HN2 HN12
  have FIN : Hid (∀ (k : Nat) (w9 : World) (g3 : Nat), Below ((w8.drewN k).setCell ⟨g2, 0, none⟩ (.int .u8 z)).heap.size ((w8.drewN k).setCell ⟨g2, 0, none⟩ (.int .u8 z)) w9 → Below W.heap.size W w9 ∧ w9.cell? ⟨g2, 0, none⟩ = some (.int .u8 z)) := by
    intro k w9 g3 hb
    have h1 : Below W.heap.size W ((w8.drewN k).setCell ⟨g2, 0, none⟩ (.int .u8 z)) := (below_drewN' HB8.out k).setCell HGW.out _
    exact ⟨h1.trans (hb.mono h1.size), (((HP8.out.drewN k).set 0 (.int .u8 z)).kept hb).cell 0⟩
  have STO : Hid (∀ k, Sto ((w8.drewN k).setCell ⟨g2, 0, none⟩ (.int .u8 z)) b1 F G (wA (fun _ => 0) aa n)) := fun k => (HX8.out.drewN k).touch ((Wrote.refl g2 _).set (p := ⟨g2, 0, none⟩) (.inl rfl) _) HG21.out
  go_upto_region 14 with (fail)
  have LA := fun q hq hu => cell_of (u := x0) HLA8.out q hq hu
  have LB := fun q hq hu => cell_of (u := u0) HLB8.out q hq hu
  have LA := Lib.hid LA
  have LB := Lib.hid LB
  rcases HCA.out with ⟨rfl, -, rfl⟩ | ⟨rfl, f0, f1, f2, -, rfl⟩ | ⟨q, rfl, f0, f1, f2, f3, eu, rfl⟩ | ⟨q, rfl, f0, f1, f2, f3, -, rfl⟩
  all_goals
    try (obtain ⟨sb, so, rfl, hc⟩ := LA.out q f3 eu; clear eu)
    rcases HCB.out with ⟨rfl, rfl, rfl⟩ | ⟨rfl, e0, e1, e2, rfl, rfl⟩ | ⟨r, rfl, e0, e1, e2, e3, ev, rfl⟩ | ⟨r, rfl, e0, e1, e2, e3, rfl, rfl⟩
    all_goals
      try (obtain ⟨tb, tq, rfl, hd⟩ := LB.out r e3 ev; clear ev)
      clear HCA HCB LA LB HLA8 HLB8
      go_wp2_with fail
      go_quiet (fail)
      go_wp2_with fail
      go_quiet (fail)
      go_wp2_with fail
      refine (read1 b1 t _ _ _ _ _ _ (STO.out _) ht64 HX0.out HH0.out).mono ?_
      rintro e w9 ⟨g3, rfl, ng3, mg3, HQ9, hb9⟩
      obtain ⟨HB9, HP9⟩ := FIN.out _ _ g3 hb9.out
      have K1 := fun x : Kin w9 => Kin.at (HQ9.out.cell 0) x
      have K2 := fun x : Kin w9 => Kin.at HP9 x
      have HB9 := Lib.hid HB9
      clear hb9 HP9 ca1 ca3 cb1 cb3 co cp fp hz ng3 mg3
      go_wp2_with fail
      refine wp_region_kin (by kernel_rfl) (by kernel_rfl) ?_
      repeat (go_big_quiet_step (first | (go_at_call 43; exact Calls.kin _ (one_any _))))
      refine wpQuiet_nil ?_
      intro _ hw'
      obtain ⟨kx, hw''⟩ := hw'
      subst hw''
      go_wp2
      go_ret
      exact ⟨rfl, HW1.out.trans ((HB9.out.trans (kx.below.mono HB9.out.size)).mono HW1.out.size)⟩

theorem walk (x y : Array Value) (t : Int) (w : World) (rx : Reads w shA x.toList) (ry : Reads w shA y.toList) (t0 : -9223372036854775808 ≤ t) (t1 : t ≤ 9223372036854775807) :
    Calls Try.prog 12 #[.agg x, .agg y, .int .i64 t] w fun e w' => e = .returned (.bool true) ∧ Below w.heap.size w w' := by
  obtain ⟨ka, aa, ma, A, n, c, ws, ex, _, ha, _, hnc, hcm, hla, hxa⟩ := act_of rx
  obtain ⟨kb, bb, mb, B, m, d, vs, ey, _, hb, _, hmd, hdm, hlb, hxb⟩ := act_of ry
  obtain ⟨xs⟩ := x
  obtain ⟨ys⟩ := y
  simp only at ex ey
  subst ex ey
  unfold maxLen at hcm hdm
  obtain ⟨k, k0, k1, hk⟩ := and_mask t 63 (by omega)
  obtain ⟨k, rfl⟩ : ∃ k' : Nat, k = (k' : Int) := ⟨k.toNat, by omega⟩
  by_cases h : 200 < n ∨ (n ≤ 200 ∧ 200 < m)
  · exact walk_long A B n c m d ka aa ma kb bb mb t w (by omega) (by omega) h
  · exact walk_in A B n c m d ws vs ka aa ma kb bb mb t k w (by omega) (by omega) hk (by omega) ha.1 ha.2 hb.1 hb.2 hla hlb hxa hxb

set_option maxRecDepth 100000 in
theorem lifted (os : Os) (started : os.Started) (H : Type) (enc : TypeId × Value → H) :
    ReturnsInHanded {} Try.checked os 12 .any (Rows.storeOwnSpec.pre6 enc Try.prog Try.f12 Rows.storeOwnRow.domain false) (Rows.storeOwnSpec.post enc Try.prog Try.f12 false true false false) := by
  refine returnsInHanded_of_change (C := Try.checked) own started (by kernel_rfl) Try.func12
    (ChangeSpec.witness6 (enc := enc) (C := Try.checked) false ⟨#[], #[.agg #[.int .i64 0, .int .i64 0, .int .i64 0, .slice none 0 0], .agg #[.int .i64 0, .int .i64 0, .int .i64 0, .slice none 0 0], .int .i64 0], []⟩ 8 (by kernel_rfl) (by kernel_rfl) (by kernel_rfl) (by kernel_rfl)) ?_
  intro W base args ds gs before hval0 hW hcnd _
  have hval : ∀ (j : Nat) t v, Try.f12.params[j]? = some t → args[j]? = some v → Value.okWide Try.prog W .any base t v := hval0
  have hW' := hW
  obtain ⟨p, q, hA0, hV, rfl, hfz, hnd⟩ := hW
  have hA : DataW.TrodAll enc Try.prog W 0 (fun _ => true) true Try.f12.params.toList args.toList ds p := hA0
  rw [Try.params12] at hA hval
  obtain ⟨v0, vs0, d0, ds0, p0, q0, hargs, rfl, rfl, h0, r0⟩ := trodAll_cons hA
  obtain ⟨v1, vs1, d1, ds1, p1, q1, rfl, rfl, rfl, h1, r1⟩ := trodAll_cons r0
  obtain ⟨v2, vs2, d2, ds2, p2, q2, rfl, rfl, rfl, h2, r2⟩ := trodAll_cons r1
  obtain ⟨rfl, rfl, rfl⟩ := trodAll_nil r2
  obtain rfl : args = #[v0, v1, v2] := by cases args; simp_all
  obtain ⟨rfl, rfl⟩ := trodVars_none hV
  have k0 := h0
  have lt0 : ∀ x ∈ p0, x.block < W.heap.size := by obtain ⟨m, hm⟩ := k0; exact DataW.trod_lt m _ _ _ hm
  obtain ⟨x, rfl⟩ := okWide_agg (by first | exact .inl ⟨_, Try.underlying70⟩ | exact .inr ⟨_, _, Try.underlying70⟩) (hval 0 70 v0 rfl rfl)
  have rd0 := reads_cells (sh := shA) 30 (by kernel_rfl) k0
  have k1 := h1
  have lt1 : ∀ x ∈ p1, x.block < W.heap.size := by obtain ⟨m, hm⟩ := k1; exact DataW.trod_lt m _ _ _ hm
  obtain ⟨y, rfl⟩ := okWide_agg (by first | exact .inl ⟨_, Try.underlying70⟩ | exact .inr ⟨_, _, Try.underlying70⟩) (hval 1 70 v1 rfl rfl)
  have rd1 := reads_cells (sh := shA) 30 (by kernel_rfl) k1
  obtain ⟨t, rfl, rfl, rfl, wf2⟩ := open_int Try.underlying3 (hval 2 3 v2 rfl rfl) h2
  have bd2 := bounds_i64 wf2
  clear hA0 hval0
  refine (walk x y t W rd0 rd1 bd2.1 bd2.2).mono fun e W' ⟨he, bel⟩ => ?_
  subst he
  exact ⟨_, rfl, _, _, _, [], _, [], hW', trodAll_mk1 (shut_bool Try.underlying4 _), (trodAll_cons_mk (Below.trod laidOut (by kernel_rfl) (of_decide_eq_true (by kernel_rfl)) k0 bel lt0) (trodAll_cons_mk (Below.trod laidOut (by kernel_rfl) (of_decide_eq_true (by kernel_rfl)) k1 bel lt1) (trodAll_cons_mk (shut_int Try.underlying3 wf2) trodAll_mk0))), rfl, bel.frame _, fun h => by cases h⟩

theorem over : Rows.storeOwnRow.holds Try.pinned (OpenSpec.ofChange Rows.storeOwnSpec) :=
  OpenClaim.holds_of_wide 12 Try.f12 rfl rfl rfl rfl rfl rfl rfl ⟨rfl, rfl, rfl, rfl, rfl⟩ rfl rfl rfl rfl rfl (by kernel_rfl) Try.func12 (by kernel_rfl)
    (of_decide_eq_true (by kernel_rfl)) (by unfold Func.isWrapper; first | (rw [if_pos (by decide +kernel)]; kernel_rfl) | (rw [if_neg (by decide +kernel)]; exact ⟨rfl, rfl⟩))
    (fun os started H enc _ => lifted os started H enc)

/-- The statement. -/
theorem proved : Rows.StoreOwnSaid := over
end Go.Proofs.Ythnopcoahcdjjaa.lawStoreOwn
