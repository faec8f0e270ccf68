/- The contract of package valid's Check, over what its Window says of each window: the first fault. -/
import Derived.Test.YtkankdecbefenaaDoorVlcB
namespace Go.Proofs.YtkankdecbefenaaDoor.Ly7
open Go.ChangeShapes Go.WideShapes Go.ChangeAt Go.RowKit Base
set_option linter.unusedVariables false
set_option linter.unusedSimpArgs false

abbrev TFl : TypeId := 33
/-- The first fault of a frame: at which window, and which. -/
def Fr (f : Wd → Int) (ver : Nat) (ws : List Wd) (j e : Int) : Prop :=
  (32 < ws.length ∧ j = -1 ∧ e = 3) ∨ (ws.length ≤ 32 ∧ ∃ (k : Nat) (x : Wd), ws[k]? = some x ∧ (∀ i, i < k → ∀ y, ws[i]? = some y → f y = 0) ∧ f x ≠ 0 ∧ j = (k : Int) ∧ e = f x) ∨
  (ws.length ≤ 32 ∧ (∀ (i : Nat) (y : Wd), ws[i]? = some y → f y = 0) ∧ (∃ s ∈ spanF ver ws, 200 < s) ∧ j = -1 ∧ e = 16)
def FrNo (f : Wd → Int) (ver : Nat) (ws : List Wd) : Prop := ws.length ≤ 32 ∧ (∀ (i : Nat) (y : Wd), ws[i]? = some y → f y = 0) ∧ ∀ s ∈ spanF ver ws, s ≤ 200
/-- The first fault of a schedule. -/
def Chk (f : Wd → Int) (md : Int) (ws0 ws1 : List Wd) (v j e : Int) : Prop :=
  ((md < 2 ∨ 16 < md) ∧ v = 0 ∧ j = -1 ∧ e = 2) ∨ ((2 ≤ md ∧ md ≤ 16) ∧ ((Fr f 0 ws0 j e ∧ v = 0) ∨ (FrNo f 0 ws0 ∧ Fr f 1 ws1 j e ∧ v = 1) ∨ (FrNo f 0 ws0 ∧ FrNo f 1 ws1 ∧ v = 0 ∧ j = 0 ∧ e = 0)))
def Says (f : Wd → Int) (md : Int) (ws : List Wd) : Prop := ∀ x ∈ ws, ∀ W, x.Ok W → Calls Tryd.prog 23 #[.agg #[.int .i64 x.k, .int .i64 x.b, .int .i64 x.wd, .int .i64 x.ad, .slice x.A x.n x.c, .slice x.B x.m x.d], .int .i64 md] W fun e w' => e = .returned (.int .i64 (f x)) ∧ Below W.heap.size W w'
/-- Which versions had no fault so far. -/
def CL (f : Wd → Int) (ws0 ws1 : List Wd) (w : World) (i : Value) (wx : World) : Prop :=
  ∃ v : Nat, v ≤ 2 ∧ i = .int .i64 v ∧ (0 < v → FrNo f 0 ws0) ∧ (1 < v → FrNo f 1 ws1) ∧ Below w.heap.size w wx
set_option maxRecDepth 100000 in
theorem ix_two (a b : Value) (w : World) : (Instr.index 23 (.agg #[a, b]) (.int .i64 0)).run Tryd.prog w = .ok a w ∧ (Instr.index 23 (.agg #[a, b]) (.int .i64 1)).run Tryd.prog w = .ok b w := ⟨by first | rfl | kernel_rfl | (simp [Instr.index, go_sem, Tryd.underlying23]), by first | rfl | kernel_rfl | (simp [Instr.index, go_sem, Tryd.underlying23])⟩
set_option maxRecDepth 100000 in
set_option maxHeartbeats 1000000 in
theorem check_any (f : Wd → Int) (md : Int) (A0 : Option Addr) (n0 c0 : Nat) (A1 : Option Addr) (n1 c1 : Nat) (ws0 ws1 : List Wd) (w : World) (hW0 : WinsAt w A0 n0 ws0) (hW1 : WinsAt w A1 n1 ws1) (h0 : n0 ≤ 9223372036854775807) (h1 : n1 ≤ 9223372036854775807) (hS0 : Says f md ws0) (hS1 : Says f md ws1) :
    Calls Tryd.prog 10 #[.agg #[.int .i64 md, .slice A0 n0 c0, .slice A1 n1 c1]] w fun e w' => ∃ v j c, e = .returned (.agg #[.int .i64 v, .int .i64 j, .int .i64 c]) ∧ Chk f md ws0 ws1 v j c ∧ Below w.heap.size w w' := by
  obtain ⟨gb, HGB⟩ : ∃ gb, Hid (w.heap.size = gb) := ⟨_, Lib.hid rfl⟩
  have HWW : Hid (∀ W, Below w.heap.size w W → WinsAt W A0 n0 ws0 ∧ WinsAt W A1 n1 ws1) := Lib.hid (fun W hB => ⟨hW0.kept hB, hW1.kept hB⟩)
  have HS0 := Lib.hid hS0
  have HS1 := Lib.hid hS1
  clear hW0 hW1 hS0 hS1
  go_enter Tryd.func10, Tryd.ntmps10
  go_wp2
  go_step3
  go_upto_region 1 with (fail)
  obtain ⟨W2, HW2⟩ : ∃ W2, W2 = (w.alloc (.cells #[.int .i64 md, .slice A0 n0 c0, .slice A1 n1 c1] 25)).alloc (.cells #[.int .i64 0, .int .i64 0, .int .i64 0] TFl) := ⟨_, rfl⟩
  obtain ⟨gr, HGR⟩ : ∃ gr, Hid (gb + 1 = gr) := ⟨_, Lib.hid rfl⟩
  have HB2 : Hid (Below w.heap.size w W2) := Lib.hid (by rw [HW2]; exact ((Below.refl _ _).alloc (Nat.le_refl _) _).alloc (by simp) _)
  have HOB : Hid (Obj1 W2 gb 25 #[.int .i64 md, .slice A0 n0 c0, .slice A1 n1 c1]) := Lib.hid (by rw [HW2, ← HGB.out]; exact (Obj1.new _ _ _).kept (bel1 _ _))
  have HOR : Hid (Obj1 W2 gr TFl #[.int .i64 0, .int .i64 0, .int .i64 0]) := Lib.hid (by
    rw [HW2, ← HGR.out, ← HGB.out, show w.heap.size + 1 = (w.alloc (.cells #[.int .i64 md, .slice A0 n0 c0, .slice A1 n1 c1] 25)).heap.size by simp]
    exact Obj1.new _ _ _)
  have hsz2 : W2.heap.size = gr + 1 := by rw [HW2, ← HGR.out, ← HGB.out]; simp
  have HSZ2 := Lib.hid hsz2
  have HGT := Lib.hid (show w.heap.size ≤ gr ∧ gb < gr by have := HGB.out; have := HGR.out; omega)
  rw [← HW2, HGB.out, HGR.out]
  clear HW2 hsz2
  have d0 := HOB.out.cell 0
  simp at d0
  by_cases hmd : 2 ≤ md ∧ md ≤ 16
  · have m1 : ¬ md < 2 := by omega
    have m2 : ¬ 16 < md := by omega
    have HMD := Lib.hid hmd
    clear hmd
    go_upto_region 3 with (fail)
    clear d0 m1 m2
    go_upto_region 4 with (fail)
    obtain ⟨gf, HGF⟩ : ∃ gf, Hid (W2.heap.size = gf) := ⟨_, Lib.hid rfl⟩
    obtain ⟨W3, HW3⟩ : ∃ W3, W3 = W2.alloc (.cells #[.int .i64 0, .int .i64 0, .int .i64 0] TFl) := ⟨_, rfl⟩
    have HB23 : Hid (Below W2.heap.size W2 W3) := Lib.hid (by rw [HW3]; exact bel1 _ _)
    have HB3 : Hid (Below w.heap.size w W3) := Lib.hid (HB2.out.trans (HB23.out.mono HB2.out.size))
    have HOF : Hid (Obj1 W3 gf TFl #[.int .i64 0, .int .i64 0, .int .i64 0]) := Lib.hid (by rw [HW3, ← HGF.out]; exact Obj1.new _ _ _)
    have HOB3 := Lib.hid (HOB.out.kept HB23.out)
    have HOR3 := Lib.hid (HOR.out.kept HB23.out)
    have HGG := Lib.hid (show gb < gr ∧ gr < gf ∧ w.heap.size ≤ gr by have := HGT.out; have := HGF.out; have := HSZ2.out; omega)
    rw [← HW3, HGF.out]
    clear HW3 HOB HOR HB23 HSZ2 HGT
    have d1 := HOB3.out.cell 1
    have d2 := HOB3.out.cell 2
    simp at d1 d2
    go_wp2
    try go_step3
    go_wp2_with fail
    clear d1 d2
    go_loopw [22] (fun i wx => CL f ws0 ws1 W3 i wx) (fun i _ => 2 - (intOf i).toNat)
    case atStart => exact ⟨0, by omega, rfl, fun h => by omega, fun h => by omega, Below.refl _ _⟩
    case round =>
      obtain ⟨v, hv, rfl, hno0, hno1, hbel⟩ := hrel
      have HN0 := Lib.hid hno0
      have HN1 := Lib.hid hno1
      have HBEL := Lib.hid hbel
      have HBW := Lib.hid (HB3.out.trans (hbel.mono HB3.out.size))
      have HOFr := Lib.hid (HOF.out.kept hbel)
      have HORr := Lib.hid (HOR3.out.kept hbel)
      have HOBr := Lib.hid (HOB3.out.kept hbel)
      clear hno0 hno1 hbel
      rcases (show v = 2 ∨ v = 0 ∨ v = 1 by omega) with rfl | rfl | rfl
      · have o0 := HOFr.out.cell 0
        have o1 := HOFr.out.cell 1
        have o2 := HOFr.out.cell 2
        have r0 := HORr.out.cell 0
        have r1 := HORr.out.cell 1
        have r2 := HORr.out.cell 2
        have q0 := HORr.out.free 0
        have q1 := HORr.out.free 1
        have q2 := HORr.out.free 2
        simp at o0 o1 o2 r0 r1 r2
        go_wp2
        have HE := Lib.hid (((HORr.out.set 0 (.int .i64 (0))).set 1 (.int .i64 (0))).set 2 (.int .i64 (0)))
        have HWE := Lib.hid ((((Wrote.refl gr wr).set (p := ⟨gr, 0, none⟩) (.inl rfl) (.int .i64 (0))).set (p := ⟨gr, 1, none⟩) (.inl rfl) (.int .i64 (0))).set (p := ⟨gr, 2, none⟩) (.inl rfl) (.int .i64 (0)))
        generalize ((wr.setCell ⟨gr, 0, none⟩ (.int .i64 (0))).setCell ⟨gr, 1, none⟩ (.int .i64 (0))).setCell ⟨gr, 2, none⟩ (.int .i64 (0)) = we at HE HWE ⊢
        clear r0 r1 r2 q0 q1 q2
        have r0 : we.cell? ⟨gr, 0, none⟩ = some (.int .i64 (0)) := HE.out.cell 0
        have r1 : we.cell? ⟨gr, 1, none⟩ = some (.int .i64 (0)) := HE.out.cell 1
        have r2 : we.cell? ⟨gr, 2, none⟩ = some (.int .i64 (0)) := HE.out.cell 2
        try rw [Exit.noGoto_ret]
        refine bodyPost_ret (v := .agg #[.int .i64 (0), .int .i64 (0), .int .i64 (0)]) (by simp [results, Tryd.results10, go_sem, r0, r1, r2]) rfl ?_
        exact ⟨_, _, _, rfl, .inr ⟨HMD.out, .inr (.inr ⟨HN0.out (by omega), HN1.out (by omega), rfl, rfl, rfl⟩)⟩, HBW.out.trans (HWE.out.below (by have := HGG.out; omega) HBW.out.size)⟩
      · have HWN : Hid (∀ W, Below w.heap.size w W → WinsAt W A0 n0 ws0) := Lib.hid (fun W h => (HWW.out W h).1)
        have hix := fun W => (ix_two (.slice A0 n0 c0) (.slice A1 n1 c1) W).1
        have hlen := (HWN.out wr HBW.out).len
        by_cases hbig : 32 < n0
        · have hbi : (32 : Int) < (n0 : Int) := by omega
          have HBG : Hid (32 < ws0.length) := Lib.hid (by omega)
          clear hlen hbig
          have o0 := HOFr.out.cell 0
          have o1 := HOFr.out.cell 1
          have o2 := HOFr.out.cell 2
          have p0 := HOFr.out.free 0
          have p1 := HOFr.out.free 1
          have p2 := HOFr.out.free 2
          simp at o0 o1 o2
          go_upto_region 23 with (fail)
          have HF9 := Lib.hid (((HOFr.out.set 0 (.int .i64 (0))).set 1 (.int .i64 (-1))).set 2 (.int .i64 (3)))
          have HW9 := Lib.hid ((((Wrote.refl gf wr).set (p := ⟨gf, 0, none⟩) (.inl rfl) (.int .i64 (0))).set (p := ⟨gf, 1, none⟩) (.inl rfl) (.int .i64 (-1))).set (p := ⟨gf, 2, none⟩) (.inl rfl) (.int .i64 (3)))
          generalize ((wr.setCell ⟨gf, 0, none⟩ (.int .i64 (0))).setCell ⟨gf, 1, none⟩ (.int .i64 (-1))).setCell ⟨gf, 2, none⟩ (.int .i64 (3)) = w9 at HF9 HW9 ⊢
          clear o0 o1 o2 p0 p1 p2
          have HOR9 := Lib.hid (HORr.out.touch HW9.out (by have := HGG.out; omega))
          have HB9 := Lib.hid (HBW.out.trans (HW9.out.below (by have := HGG.out; omega) HBW.out.size))
          have o0 : w9.cell? ⟨gf, 0, none⟩ = some (.int .i64 (0)) := HF9.out.cell 0
          have o1 : w9.cell? ⟨gf, 1, none⟩ = some (.int .i64 (-1)) := HF9.out.cell 1
          have o2 : w9.cell? ⟨gf, 2, none⟩ = some (.int .i64 (3)) := HF9.out.cell 2
          have r0 := HOR9.out.cell 0
          have r1 := HOR9.out.cell 1
          have r2 := HOR9.out.cell 2
          have q0 := HOR9.out.free 0
          have q1 := HOR9.out.free 1
          have q2 := HOR9.out.free 2
          simp at r0 r1 r2
          go_wp2
          have HE := Lib.hid (((HOR9.out.set 0 (.int .i64 (0))).set 1 (.int .i64 (-1))).set 2 (.int .i64 (3)))
          have HWE := Lib.hid ((((Wrote.refl gr w9).set (p := ⟨gr, 0, none⟩) (.inl rfl) (.int .i64 (0))).set (p := ⟨gr, 1, none⟩) (.inl rfl) (.int .i64 (-1))).set (p := ⟨gr, 2, none⟩) (.inl rfl) (.int .i64 (3)))
          generalize ((w9.setCell ⟨gr, 0, none⟩ (.int .i64 (0))).setCell ⟨gr, 1, none⟩ (.int .i64 (-1))).setCell ⟨gr, 2, none⟩ (.int .i64 (3)) = we at HE HWE ⊢
          clear r0 r1 r2 q0 q1 q2
          have r0 : we.cell? ⟨gr, 0, none⟩ = some (.int .i64 (0)) := HE.out.cell 0
          have r1 : we.cell? ⟨gr, 1, none⟩ = some (.int .i64 (-1)) := HE.out.cell 1
          have r2 : we.cell? ⟨gr, 2, none⟩ = some (.int .i64 (3)) := HE.out.cell 2
          try rw [Exit.noGoto_ret]
          refine bodyPost_ret (v := .agg #[.int .i64 (0), .int .i64 (-1), .int .i64 (3)]) (by simp [results, Tryd.results10, go_sem, r0, r1, r2]) rfl ?_
          exact ⟨_, _, _, rfl, .inr ⟨HMD.out, .inl ⟨.inl ⟨HBG.out, rfl, rfl⟩, rfl⟩⟩, HB9.out.trans (HWE.out.below (by have := HGG.out; omega) HB9.out.size)⟩
        · have hbi : ¬ (32 : Int) < (n0 : Int) := by omega
          have hn32 : n0 ≤ 32 := by omega
          have HLE : Hid (ws0.length = n0 ∧ ws0.length ≤ 32) := Lib.hid (by omega)
          clear hlen hbig
          go_wp2_with fail
          go_loopw [33] (fun i wx => ∃ k : Nat, k ≤ n0 ∧ i = .int .i64 k ∧ (∀ i, i < k → ∀ y, ws0[i]? = some y → f y = 0) ∧ Below W3.heap.size W3 wx) (fun i _ => n0 - (intOf i).toNat)
          case atStart => exact ⟨0, by omega, rfl, fun i hi => by omega, HBEL.out⟩
          case round =>
            clear HOFr HORr HOBr HBW HBEL
            obtain ⟨k, hk, rfl, hnf, hb1⟩ := hrel
            have HNF := Lib.hid hnf
            have HB1 := Lib.hid hb1
            have HBW1 := Lib.hid (HB3.out.trans (hb1.mono HB3.out.size))
            clear hnf hb1
            by_cases hlt : k < n0
            · have hki : (k : Int) < (n0 : Int) := by omega
              have hkl : k < ws0.length := by have := HLE.out.1; omega
              obtain ⟨x, hx⟩ : ∃ x, ws0[k]? = some x := ⟨_, List.getElem?_eq_getElem hkl⟩
              obtain ⟨b, off, rfl, hb, k0, k1, k2, k3, k4, k5, hok⟩ := (HWN.out wr HBW1.out).six hlt hx
              have HX := Lib.hid hx
              have HOK := Lib.hid hok
              have HWIN := Lib.hid (HS0.out x (List.mem_of_getElem? hx))
              clear hx hok hkl
              go_upto_region 12 with (fail)
              obtain ⟨gx, HGX⟩ : ∃ gx, Hid (wr.heap.size = gx) := ⟨_, Lib.hid rfl⟩
              obtain ⟨W5, HW5⟩ : ∃ W5, W5 = wr.alloc (.cells #[.int .i64 x.k, .int .i64 x.b, .int .i64 x.wd, .int .i64 x.ad, .slice x.A x.n x.c, .slice x.B x.m x.d] 56) := ⟨_, rfl⟩
              have HOX : Hid (Obj1 W5 gx 56 #[.int .i64 x.k, .int .i64 x.b, .int .i64 x.wd, .int .i64 x.ad, .slice x.A x.n x.c, .slice x.B x.m x.d]) := Lib.hid (by rw [HW5, ← HGX.out]; exact Obj1.new _ _ _)
              have HB5 : Hid (Below wr.heap.size wr W5) := Lib.hid (by rw [HW5]; exact bel1 _ _)
              have HB6 := Lib.hid (HB1.out.trans (HB5.out.mono HB1.out.size))
              rw [← HW5, HGX.out]
              clear HW5 k0 k1 k2 k3 k4 k5 hb
              have q0 := HOX.out.cell 0
              have q1 := HOX.out.cell 1
              have q2 := HOX.out.cell 2
              have q3 := HOX.out.cell 3
              have q4 := HOX.out.cell 4
              have q5 := HOX.out.cell 5
              have d0 := (HOB3.out.kept HB6.out).cell 0
              simp at q0 q1 q2 q3 q4 q5 d0
              go_wp2_with fail
              refine (HWIN.out _ (HOK.out.kept HB5.out)).mono ?_
              rintro e w6 ⟨rfl, hb6⟩
              have HB7 := Lib.hid (HB6.out.trans (hb6.mono HB6.out.size))
              have HBW7 := Lib.hid (HB3.out.trans (HB7.out.mono HB3.out.size))
              clear q0 q1 q2 q3 q4 q5 d0 hb6 HWIN HOX HB5 HB6
              obtain ⟨F, HF⟩ : ∃ F, Hid (f x = F) := ⟨_, Lib.hid rfl⟩
              rw [HF.out]
              by_cases hf : F = 0
              · subst hf
                have HNX : Hid (∀ i, i < k + 1 → ∀ y, ws0[i]? = some y → f y = 0) := Lib.hid (fun i hi y hy => by
                  rcases (show i < k ∨ i = k by omega) with h | rfl
                  · exact HNF.out i h y hy
                  · rw [HX.out] at hy
                    cases hy
                    exact HF.out)
                go_wp2
                go_roundw
                case rel => exact ⟨k + 1, by omega, by go_num, HNX.out, HB7.out⟩
                case measure => simp [intOf]; omega
              · have hfb : (F != 0) = true := by simpa using hf
                have hfe : (F == 0) = false := by simpa using hf
                have HNZ : Hid (f x ≠ 0) := Lib.hid (by rw [HF.out]; exact hf)
                have HOFx := Lib.hid (HOF.out.kept HB7.out)
                have HORx := Lib.hid (HOR3.out.kept HB7.out)
                clear hf
                have o0 := HOFx.out.cell 0
                have o1 := HOFx.out.cell 1
                have o2 := HOFx.out.cell 2
                have p0 := HOFx.out.free 0
                have p1 := HOFx.out.free 1
                have p2 := HOFx.out.free 2
                simp at o0 o1 o2
                go_upto_region 23 with (fail)
                have HF9 := Lib.hid (((HOFx.out.set 0 (.int .i64 (0))).set 1 (.int .i64 ((k : Int)))).set 2 (.int .i64 (F)))
                have HW9 := Lib.hid ((((Wrote.refl gf w6).set (p := ⟨gf, 0, none⟩) (.inl rfl) (.int .i64 (0))).set (p := ⟨gf, 1, none⟩) (.inl rfl) (.int .i64 ((k : Int)))).set (p := ⟨gf, 2, none⟩) (.inl rfl) (.int .i64 (F)))
                generalize ((w6.setCell ⟨gf, 0, none⟩ (.int .i64 (0))).setCell ⟨gf, 1, none⟩ (.int .i64 ((k : Int)))).setCell ⟨gf, 2, none⟩ (.int .i64 (F)) = w9 at HF9 HW9 ⊢
                clear o0 o1 o2 p0 p1 p2
                have HOR9 := Lib.hid (HORx.out.touch HW9.out (by have := HGG.out; omega))
                have HB9 := Lib.hid (HBW7.out.trans (HW9.out.below (by have := HGG.out; omega) HBW7.out.size))
                have o0 : w9.cell? ⟨gf, 0, none⟩ = some (.int .i64 (0)) := HF9.out.cell 0
                have o1 : w9.cell? ⟨gf, 1, none⟩ = some (.int .i64 ((k : Int))) := HF9.out.cell 1
                have o2 : w9.cell? ⟨gf, 2, none⟩ = some (.int .i64 (F)) := HF9.out.cell 2
                have r0 := HOR9.out.cell 0
                have r1 := HOR9.out.cell 1
                have r2 := HOR9.out.cell 2
                have q0 := HOR9.out.free 0
                have q1 := HOR9.out.free 1
                have q2 := HOR9.out.free 2
                simp at r0 r1 r2
                go_wp2
                have HE := Lib.hid (((HOR9.out.set 0 (.int .i64 (0))).set 1 (.int .i64 ((k : Int)))).set 2 (.int .i64 (F)))
                have HWE := Lib.hid ((((Wrote.refl gr w9).set (p := ⟨gr, 0, none⟩) (.inl rfl) (.int .i64 (0))).set (p := ⟨gr, 1, none⟩) (.inl rfl) (.int .i64 ((k : Int)))).set (p := ⟨gr, 2, none⟩) (.inl rfl) (.int .i64 (F)))
                generalize ((w9.setCell ⟨gr, 0, none⟩ (.int .i64 (0))).setCell ⟨gr, 1, none⟩ (.int .i64 ((k : Int)))).setCell ⟨gr, 2, none⟩ (.int .i64 (F)) = we at HE HWE ⊢
                clear r0 r1 r2 q0 q1 q2
                have r0 : we.cell? ⟨gr, 0, none⟩ = some (.int .i64 (0)) := HE.out.cell 0
                have r1 : we.cell? ⟨gr, 1, none⟩ = some (.int .i64 ((k : Int))) := HE.out.cell 1
                have r2 : we.cell? ⟨gr, 2, none⟩ = some (.int .i64 (F)) := HE.out.cell 2
                try rw [Exit.noGoto_ret]
                refine bodyPost_ret (v := .agg #[.int .i64 (0), .int .i64 ((k : Int)), .int .i64 (F)]) (by simp [results, Tryd.results10, go_sem, r0, r1, r2]) rfl ?_
                exact ⟨_, _, _, rfl, .inr ⟨HMD.out, .inl ⟨.inr (.inl ⟨HLE.out.2, k, x, HX.out, HNF.out, HNZ.out, rfl, HF.out.symm⟩), rfl⟩⟩, HB9.out.trans (HWE.out.below (by have := HGG.out; omega) HB9.out.size)⟩
            · have hke : n0 = k := by omega
              subst hke
              have HALL : Hid (∀ (i : Nat) (y : Wd), ws0[i]? = some y → f y = 0) := Lib.hid (fun i y hy => HNF.out i (by have := (List.getElem?_eq_some_iff.1 hy).1; have := HLE.out.1; omega) y hy)
              have HSP : Hid (Calls Tryd.prog 24 #[.slice A0 n0 c0, .int .i64 0] wr fun e w' => ∃ v, e = .returned v ∧ Hid (w'.ownsRow wr.heap.size 3 1 v (spanF 0 ws0).length (inV (spanF 0 ws0))) ∧ Hid (Below wr.heap.size wr w')) := Lib.hid (spans_any A0 n0 c0 0 ws0 wr (by omega) (HWN.out wr HBW1.out) (by omega))
              go_wp2_with fail
              refine HSP.out.mono ?_
              rintro e w7 ⟨v7, rfl, HR7, HB7⟩
              obtain ⟨xs, HXS⟩ : ∃ xs, Hid (spanF 0 ws0 = xs) := ⟨_, Lib.hid rfl⟩
              have hx33 : xs.length ≤ 33 := by
                rw [← HXS.out]
                unfold spanF
                have h1 := (PS_all 0 ws0 ws0.length).1
                have h2 := HLE.out.2
                rw [List.length_append, List.length_singleton]
                omega
              rw [HXS.out] at HR7
              obtain ⟨A7, c7, rfl, _, _, hl7⟩ := Lst.of_own HR7.out
              obtain ⟨N, HN⟩ : ∃ N, Hid (xs.length = N) := ⟨_, Lib.hid rfl⟩
              rw [HN.out] at hl7 hx33 ⊢
              have HL7 := Lib.hid hl7
              have HB8 := Lib.hid (HB1.out.trans (HB7.out.mono HB1.out.size))
              clear hl7 HR7 HB7 HSP
              go_wp2_with fail
              go_loopw [53] (fun i wx => ∃ k : Nat, k ≤ N ∧ i = .int .i64 k ∧ (∀ t, t < k → ∀ s, xs[t]? = some s → s ≤ 200) ∧ Below w7.heap.size w7 wx) (fun i _ => N - (intOf i).toNat)
              case atStart => exact ⟨0, by omega, rfl, fun i hi => by omega, Below.refl _ _⟩
              case round =>
                obtain ⟨k, hk, rfl, hle, hb2⟩ := hrel
                have HLS := Lib.hid hle
                have HB9 := Lib.hid (HB8.out.trans (hb2.mono HB8.out.size))
                have HBW9 := Lib.hid (HB3.out.trans (HB9.out.mono HB3.out.size))
                have HLk := Lib.hid (HL7.out.kept hb2)
                have HB2k := Lib.hid hb2
                clear hle hb2
                by_cases hlt : k < N
                · have hki : (k : Int) < (N : Int) := by omega
                  have hkx : k < xs.length := by rw [HN.out]; exact hlt
                  obtain ⟨tb, toff, rfl, _, hc⟩ := HLk.out.get hlt
                  rw [List.getElem_map] at hc
                  obtain ⟨s, hs⟩ : ∃ s, xs[k]'hkx = s := ⟨_, rfl⟩
                  rw [hs] at hc
                  have HSS : Hid (xs[k]? = some s) := Lib.hid (by rw [List.getElem?_eq_getElem hkx, hs])
                  clear hs hkx
                  by_cases h200 : 200 < s
                  · have HOFx := Lib.hid (HOF.out.kept HB9.out)
                    have HORx := Lib.hid (HOR3.out.kept HB9.out)
                    have HFA : Hid (∃ s ∈ spanF 0 ws0, 200 < s) := Lib.hid ⟨s, by rw [HXS.out]; exact List.mem_of_getElem? HSS.out, h200⟩
                    have o0 := HOFx.out.cell 0
                    have o1 := HOFx.out.cell 1
                    have o2 := HOFx.out.cell 2
                    have p0 := HOFx.out.free 0
                    have p1 := HOFx.out.free 1
                    have p2 := HOFx.out.free 2
                    simp at o0 o1 o2
                    go_upto_region 23 with (fail)
                    have HF9 := Lib.hid (((HOFx.out.set 0 (.int .i64 (0))).set 1 (.int .i64 (-1))).set 2 (.int .i64 (16)))
                    have HW9 := Lib.hid ((((Wrote.refl gf wr).set (p := ⟨gf, 0, none⟩) (.inl rfl) (.int .i64 (0))).set (p := ⟨gf, 1, none⟩) (.inl rfl) (.int .i64 (-1))).set (p := ⟨gf, 2, none⟩) (.inl rfl) (.int .i64 (16)))
                    generalize ((wr.setCell ⟨gf, 0, none⟩ (.int .i64 (0))).setCell ⟨gf, 1, none⟩ (.int .i64 (-1))).setCell ⟨gf, 2, none⟩ (.int .i64 (16)) = w9 at HF9 HW9 ⊢
                    clear o0 o1 o2 p0 p1 p2
                    have HOR9 := Lib.hid (HORx.out.touch HW9.out (by have := HGG.out; omega))
                    have HB9 := Lib.hid (HBW9.out.trans (HW9.out.below (by have := HGG.out; omega) HBW9.out.size))
                    have o0 : w9.cell? ⟨gf, 0, none⟩ = some (.int .i64 (0)) := HF9.out.cell 0
                    have o1 : w9.cell? ⟨gf, 1, none⟩ = some (.int .i64 (-1)) := HF9.out.cell 1
                    have o2 : w9.cell? ⟨gf, 2, none⟩ = some (.int .i64 (16)) := HF9.out.cell 2
                    have r0 := HOR9.out.cell 0
                    have r1 := HOR9.out.cell 1
                    have r2 := HOR9.out.cell 2
                    have q0 := HOR9.out.free 0
                    have q1 := HOR9.out.free 1
                    have q2 := HOR9.out.free 2
                    simp at r0 r1 r2
                    go_wp2
                    have HE := Lib.hid (((HOR9.out.set 0 (.int .i64 (0))).set 1 (.int .i64 (-1))).set 2 (.int .i64 (16)))
                    have HWE := Lib.hid ((((Wrote.refl gr w9).set (p := ⟨gr, 0, none⟩) (.inl rfl) (.int .i64 (0))).set (p := ⟨gr, 1, none⟩) (.inl rfl) (.int .i64 (-1))).set (p := ⟨gr, 2, none⟩) (.inl rfl) (.int .i64 (16)))
                    generalize ((w9.setCell ⟨gr, 0, none⟩ (.int .i64 (0))).setCell ⟨gr, 1, none⟩ (.int .i64 (-1))).setCell ⟨gr, 2, none⟩ (.int .i64 (16)) = we at HE HWE ⊢
                    clear r0 r1 r2 q0 q1 q2
                    have r0 : we.cell? ⟨gr, 0, none⟩ = some (.int .i64 (0)) := HE.out.cell 0
                    have r1 : we.cell? ⟨gr, 1, none⟩ = some (.int .i64 (-1)) := HE.out.cell 1
                    have r2 : we.cell? ⟨gr, 2, none⟩ = some (.int .i64 (16)) := HE.out.cell 2
                    try rw [Exit.noGoto_ret]
                    refine bodyPost_ret (v := .agg #[.int .i64 (0), .int .i64 (-1), .int .i64 (16)]) (by simp [results, Tryd.results10, go_sem, r0, r1, r2]) rfl ?_
                    exact ⟨_, _, _, rfl, .inr ⟨HMD.out, .inl ⟨.inr (.inr ⟨HLE.out.2, HALL.out, HFA.out, rfl, rfl⟩), rfl⟩⟩, HB9.out.trans (HWE.out.below (by have := HGG.out; omega) HB9.out.size)⟩
                  · have HNX : Hid (∀ t, t < k + 1 → ∀ s, xs[t]? = some s → s ≤ 200) := Lib.hid (fun t ht s' hs' => by
                      rcases (show t < k ∨ t = k by omega) with h | rfl
                      · exact HLS.out t h s' hs'
                      · rw [HSS.out] at hs'
                        cases hs'
                        omega)
                    go_wp2
                    go_roundw
                    case rel => exact ⟨k + 1, by omega, by go_num, HNX.out, HB2k.out⟩
                    case measure => simp [intOf]; omega
                · have hke : N = k := by omega
                  subst hke
                  have HFN : Hid (FrNo f 0 ws0) := Lib.hid ⟨HLE.out.2, HALL.out, fun s hs => by
                    rw [HXS.out] at hs
                    obtain ⟨t, ht⟩ := List.getElem?_of_mem hs
                    exact HLS.out t (by have := (List.getElem?_eq_some_iff.1 ht).1; have := HN.out; omega) s ht⟩
                  go_wp2
                  go_roundw
                  case rel => exact ⟨0 + 1, by omega, by go_num, fun _ => HFN.out, fun h => by omega, HB9.out⟩
                  case measure => simp [intOf]

      · have HWN : Hid (∀ W, Below w.heap.size w W → WinsAt W A1 n1 ws1) := Lib.hid (fun W h => (HWW.out W h).2)
        have hix := fun W => (ix_two (.slice A0 n0 c0) (.slice A1 n1 c1) W).2
        have hlen := (HWN.out wr HBW.out).len
        by_cases hbig : 32 < n1
        · have hbi : (32 : Int) < (n1 : Int) := by omega
          have HBG : Hid (32 < ws1.length) := Lib.hid (by omega)
          clear hlen hbig
          have o0 := HOFr.out.cell 0
          have o1 := HOFr.out.cell 1
          have o2 := HOFr.out.cell 2
          have p0 := HOFr.out.free 0
          have p1 := HOFr.out.free 1
          have p2 := HOFr.out.free 2
          simp at o0 o1 o2
          go_upto_region 23 with (fail)
          have HF9 := Lib.hid (((HOFr.out.set 0 (.int .i64 (1))).set 1 (.int .i64 (-1))).set 2 (.int .i64 (3)))
          have HW9 := Lib.hid ((((Wrote.refl gf wr).set (p := ⟨gf, 0, none⟩) (.inl rfl) (.int .i64 (1))).set (p := ⟨gf, 1, none⟩) (.inl rfl) (.int .i64 (-1))).set (p := ⟨gf, 2, none⟩) (.inl rfl) (.int .i64 (3)))
          generalize ((wr.setCell ⟨gf, 0, none⟩ (.int .i64 (1))).setCell ⟨gf, 1, none⟩ (.int .i64 (-1))).setCell ⟨gf, 2, none⟩ (.int .i64 (3)) = w9 at HF9 HW9 ⊢
          clear o0 o1 o2 p0 p1 p2
          have HOR9 := Lib.hid (HORr.out.touch HW9.out (by have := HGG.out; omega))
          have HB9 := Lib.hid (HBW.out.trans (HW9.out.below (by have := HGG.out; omega) HBW.out.size))
          have o0 : w9.cell? ⟨gf, 0, none⟩ = some (.int .i64 (1)) := HF9.out.cell 0
          have o1 : w9.cell? ⟨gf, 1, none⟩ = some (.int .i64 (-1)) := HF9.out.cell 1
          have o2 : w9.cell? ⟨gf, 2, none⟩ = some (.int .i64 (3)) := HF9.out.cell 2
          have r0 := HOR9.out.cell 0
          have r1 := HOR9.out.cell 1
          have r2 := HOR9.out.cell 2
          have q0 := HOR9.out.free 0
          have q1 := HOR9.out.free 1
          have q2 := HOR9.out.free 2
          simp at r0 r1 r2
          go_wp2
          have HE := Lib.hid (((HOR9.out.set 0 (.int .i64 (1))).set 1 (.int .i64 (-1))).set 2 (.int .i64 (3)))
          have HWE := Lib.hid ((((Wrote.refl gr w9).set (p := ⟨gr, 0, none⟩) (.inl rfl) (.int .i64 (1))).set (p := ⟨gr, 1, none⟩) (.inl rfl) (.int .i64 (-1))).set (p := ⟨gr, 2, none⟩) (.inl rfl) (.int .i64 (3)))
          generalize ((w9.setCell ⟨gr, 0, none⟩ (.int .i64 (1))).setCell ⟨gr, 1, none⟩ (.int .i64 (-1))).setCell ⟨gr, 2, none⟩ (.int .i64 (3)) = we at HE HWE ⊢
          clear r0 r1 r2 q0 q1 q2
          have r0 : we.cell? ⟨gr, 0, none⟩ = some (.int .i64 (1)) := HE.out.cell 0
          have r1 : we.cell? ⟨gr, 1, none⟩ = some (.int .i64 (-1)) := HE.out.cell 1
          have r2 : we.cell? ⟨gr, 2, none⟩ = some (.int .i64 (3)) := HE.out.cell 2
          try rw [Exit.noGoto_ret]
          refine bodyPost_ret (v := .agg #[.int .i64 (1), .int .i64 (-1), .int .i64 (3)]) (by simp [results, Tryd.results10, go_sem, r0, r1, r2]) rfl ?_
          exact ⟨_, _, _, rfl, .inr ⟨HMD.out, .inr (.inl ⟨HN0.out (by omega), .inl ⟨HBG.out, rfl, rfl⟩, rfl⟩)⟩, HB9.out.trans (HWE.out.below (by have := HGG.out; omega) HB9.out.size)⟩
        · have hbi : ¬ (32 : Int) < (n1 : Int) := by omega
          have hn32 : n1 ≤ 32 := by omega
          have HLE : Hid (ws1.length = n1 ∧ ws1.length ≤ 32) := Lib.hid (by omega)
          clear hlen hbig
          go_wp2_with fail
          go_loopw [33] (fun i wx => ∃ k : Nat, k ≤ n1 ∧ i = .int .i64 k ∧ (∀ i, i < k → ∀ y, ws1[i]? = some y → f y = 0) ∧ Below W3.heap.size W3 wx) (fun i _ => n1 - (intOf i).toNat)
          case atStart => exact ⟨0, by omega, rfl, fun i hi => by omega, HBEL.out⟩
          case round =>
            clear HOFr HORr HOBr HBW HBEL
            obtain ⟨k, hk, rfl, hnf, hb1⟩ := hrel
            have HNF := Lib.hid hnf
            have HB1 := Lib.hid hb1
            have HBW1 := Lib.hid (HB3.out.trans (hb1.mono HB3.out.size))
            clear hnf hb1
            by_cases hlt : k < n1
            · have hki : (k : Int) < (n1 : Int) := by omega
              have hkl : k < ws1.length := by have := HLE.out.1; omega
              obtain ⟨x, hx⟩ : ∃ x, ws1[k]? = some x := ⟨_, List.getElem?_eq_getElem hkl⟩
              obtain ⟨b, off, rfl, hb, k0, k1, k2, k3, k4, k5, hok⟩ := (HWN.out wr HBW1.out).six hlt hx
              have HX := Lib.hid hx
              have HOK := Lib.hid hok
              have HWIN := Lib.hid (HS1.out x (List.mem_of_getElem? hx))
              clear hx hok hkl
              go_upto_region 12 with (fail)
              obtain ⟨gx, HGX⟩ : ∃ gx, Hid (wr.heap.size = gx) := ⟨_, Lib.hid rfl⟩
              obtain ⟨W5, HW5⟩ : ∃ W5, W5 = wr.alloc (.cells #[.int .i64 x.k, .int .i64 x.b, .int .i64 x.wd, .int .i64 x.ad, .slice x.A x.n x.c, .slice x.B x.m x.d] 56) := ⟨_, rfl⟩
              have HOX : Hid (Obj1 W5 gx 56 #[.int .i64 x.k, .int .i64 x.b, .int .i64 x.wd, .int .i64 x.ad, .slice x.A x.n x.c, .slice x.B x.m x.d]) := Lib.hid (by rw [HW5, ← HGX.out]; exact Obj1.new _ _ _)
              have HB5 : Hid (Below wr.heap.size wr W5) := Lib.hid (by rw [HW5]; exact bel1 _ _)
              have HB6 := Lib.hid (HB1.out.trans (HB5.out.mono HB1.out.size))
              rw [← HW5, HGX.out]
              clear HW5 k0 k1 k2 k3 k4 k5 hb
              have q0 := HOX.out.cell 0
              have q1 := HOX.out.cell 1
              have q2 := HOX.out.cell 2
              have q3 := HOX.out.cell 3
              have q4 := HOX.out.cell 4
              have q5 := HOX.out.cell 5
              have d0 := (HOB3.out.kept HB6.out).cell 0
              simp at q0 q1 q2 q3 q4 q5 d0
              go_wp2_with fail
              refine (HWIN.out _ (HOK.out.kept HB5.out)).mono ?_
              rintro e w6 ⟨rfl, hb6⟩
              have HB7 := Lib.hid (HB6.out.trans (hb6.mono HB6.out.size))
              have HBW7 := Lib.hid (HB3.out.trans (HB7.out.mono HB3.out.size))
              clear q0 q1 q2 q3 q4 q5 d0 hb6 HWIN HOX HB5 HB6
              obtain ⟨F, HF⟩ : ∃ F, Hid (f x = F) := ⟨_, Lib.hid rfl⟩
              rw [HF.out]
              by_cases hf : F = 0
              · subst hf
                have HNX : Hid (∀ i, i < k + 1 → ∀ y, ws1[i]? = some y → f y = 0) := Lib.hid (fun i hi y hy => by
                  rcases (show i < k ∨ i = k by omega) with h | rfl
                  · exact HNF.out i h y hy
                  · rw [HX.out] at hy
                    cases hy
                    exact HF.out)
                go_wp2
                go_roundw
                case rel => exact ⟨k + 1, by omega, by go_num, HNX.out, HB7.out⟩
                case measure => simp [intOf]; omega
              · have hfb : (F != 0) = true := by simpa using hf
                have hfe : (F == 0) = false := by simpa using hf
                have HNZ : Hid (f x ≠ 0) := Lib.hid (by rw [HF.out]; exact hf)
                have HOFx := Lib.hid (HOF.out.kept HB7.out)
                have HORx := Lib.hid (HOR3.out.kept HB7.out)
                clear hf
                have o0 := HOFx.out.cell 0
                have o1 := HOFx.out.cell 1
                have o2 := HOFx.out.cell 2
                have p0 := HOFx.out.free 0
                have p1 := HOFx.out.free 1
                have p2 := HOFx.out.free 2
                simp at o0 o1 o2
                go_upto_region 23 with (fail)
                have HF9 := Lib.hid (((HOFx.out.set 0 (.int .i64 (1))).set 1 (.int .i64 ((k : Int)))).set 2 (.int .i64 (F)))
                have HW9 := Lib.hid ((((Wrote.refl gf w6).set (p := ⟨gf, 0, none⟩) (.inl rfl) (.int .i64 (1))).set (p := ⟨gf, 1, none⟩) (.inl rfl) (.int .i64 ((k : Int)))).set (p := ⟨gf, 2, none⟩) (.inl rfl) (.int .i64 (F)))
                generalize ((w6.setCell ⟨gf, 0, none⟩ (.int .i64 (1))).setCell ⟨gf, 1, none⟩ (.int .i64 ((k : Int)))).setCell ⟨gf, 2, none⟩ (.int .i64 (F)) = w9 at HF9 HW9 ⊢
                clear o0 o1 o2 p0 p1 p2
                have HOR9 := Lib.hid (HORx.out.touch HW9.out (by have := HGG.out; omega))
                have HB9 := Lib.hid (HBW7.out.trans (HW9.out.below (by have := HGG.out; omega) HBW7.out.size))
                have o0 : w9.cell? ⟨gf, 0, none⟩ = some (.int .i64 (1)) := HF9.out.cell 0
                have o1 : w9.cell? ⟨gf, 1, none⟩ = some (.int .i64 ((k : Int))) := HF9.out.cell 1
                have o2 : w9.cell? ⟨gf, 2, none⟩ = some (.int .i64 (F)) := HF9.out.cell 2
                have r0 := HOR9.out.cell 0
                have r1 := HOR9.out.cell 1
                have r2 := HOR9.out.cell 2
                have q0 := HOR9.out.free 0
                have q1 := HOR9.out.free 1
                have q2 := HOR9.out.free 2
                simp at r0 r1 r2
                go_wp2
                have HE := Lib.hid (((HOR9.out.set 0 (.int .i64 (1))).set 1 (.int .i64 ((k : Int)))).set 2 (.int .i64 (F)))
                have HWE := Lib.hid ((((Wrote.refl gr w9).set (p := ⟨gr, 0, none⟩) (.inl rfl) (.int .i64 (1))).set (p := ⟨gr, 1, none⟩) (.inl rfl) (.int .i64 ((k : Int)))).set (p := ⟨gr, 2, none⟩) (.inl rfl) (.int .i64 (F)))
                generalize ((w9.setCell ⟨gr, 0, none⟩ (.int .i64 (1))).setCell ⟨gr, 1, none⟩ (.int .i64 ((k : Int)))).setCell ⟨gr, 2, none⟩ (.int .i64 (F)) = we at HE HWE ⊢
                clear r0 r1 r2 q0 q1 q2
                have r0 : we.cell? ⟨gr, 0, none⟩ = some (.int .i64 (1)) := HE.out.cell 0
                have r1 : we.cell? ⟨gr, 1, none⟩ = some (.int .i64 ((k : Int))) := HE.out.cell 1
                have r2 : we.cell? ⟨gr, 2, none⟩ = some (.int .i64 (F)) := HE.out.cell 2
                try rw [Exit.noGoto_ret]
                refine bodyPost_ret (v := .agg #[.int .i64 (1), .int .i64 ((k : Int)), .int .i64 (F)]) (by simp [results, Tryd.results10, go_sem, r0, r1, r2]) rfl ?_
                exact ⟨_, _, _, rfl, .inr ⟨HMD.out, .inr (.inl ⟨HN0.out (by omega), .inr (.inl ⟨HLE.out.2, k, x, HX.out, HNF.out, HNZ.out, rfl, HF.out.symm⟩), rfl⟩)⟩, HB9.out.trans (HWE.out.below (by have := HGG.out; omega) HB9.out.size)⟩
            · have hke : n1 = k := by omega
              subst hke
              have HALL : Hid (∀ (i : Nat) (y : Wd), ws1[i]? = some y → f y = 0) := Lib.hid (fun i y hy => HNF.out i (by have := (List.getElem?_eq_some_iff.1 hy).1; have := HLE.out.1; omega) y hy)
              have HSP : Hid (Calls Tryd.prog 24 #[.slice A1 n1 c1, .int .i64 1] wr fun e w' => ∃ v, e = .returned v ∧ Hid (w'.ownsRow wr.heap.size 3 1 v (spanF 1 ws1).length (inV (spanF 1 ws1))) ∧ Hid (Below wr.heap.size wr w')) := Lib.hid (spans_any A1 n1 c1 1 ws1 wr (by omega) (HWN.out wr HBW1.out) (by omega))
              go_wp2_with fail
              refine HSP.out.mono ?_
              rintro e w7 ⟨v7, rfl, HR7, HB7⟩
              obtain ⟨xs, HXS⟩ : ∃ xs, Hid (spanF 1 ws1 = xs) := ⟨_, Lib.hid rfl⟩
              have hx33 : xs.length ≤ 33 := by
                rw [← HXS.out]
                unfold spanF
                have h1 := (PS_all 1 ws1 ws1.length).1
                have h2 := HLE.out.2
                rw [List.length_append, List.length_singleton]
                omega
              rw [HXS.out] at HR7
              obtain ⟨A7, c7, rfl, _, _, hl7⟩ := Lst.of_own HR7.out
              obtain ⟨N, HN⟩ : ∃ N, Hid (xs.length = N) := ⟨_, Lib.hid rfl⟩
              rw [HN.out] at hl7 hx33 ⊢
              have HL7 := Lib.hid hl7
              have HB8 := Lib.hid (HB1.out.trans (HB7.out.mono HB1.out.size))
              clear hl7 HR7 HB7 HSP
              go_wp2_with fail
              go_loopw [53] (fun i wx => ∃ k : Nat, k ≤ N ∧ i = .int .i64 k ∧ (∀ t, t < k → ∀ s, xs[t]? = some s → s ≤ 200) ∧ Below w7.heap.size w7 wx) (fun i _ => N - (intOf i).toNat)
              case atStart => exact ⟨0, by omega, rfl, fun i hi => by omega, Below.refl _ _⟩
              case round =>
                obtain ⟨k, hk, rfl, hle, hb2⟩ := hrel
                have HLS := Lib.hid hle
                have HB9 := Lib.hid (HB8.out.trans (hb2.mono HB8.out.size))
                have HBW9 := Lib.hid (HB3.out.trans (HB9.out.mono HB3.out.size))
                have HLk := Lib.hid (HL7.out.kept hb2)
                have HB2k := Lib.hid hb2
                clear hle hb2
                by_cases hlt : k < N
                · have hki : (k : Int) < (N : Int) := by omega
                  have hkx : k < xs.length := by rw [HN.out]; exact hlt
                  obtain ⟨tb, toff, rfl, _, hc⟩ := HLk.out.get hlt
                  rw [List.getElem_map] at hc
                  obtain ⟨s, hs⟩ : ∃ s, xs[k]'hkx = s := ⟨_, rfl⟩
                  rw [hs] at hc
                  have HSS : Hid (xs[k]? = some s) := Lib.hid (by rw [List.getElem?_eq_getElem hkx, hs])
                  clear hs hkx
                  by_cases h200 : 200 < s
                  · have HOFx := Lib.hid (HOF.out.kept HB9.out)
                    have HORx := Lib.hid (HOR3.out.kept HB9.out)
                    have HFA : Hid (∃ s ∈ spanF 1 ws1, 200 < s) := Lib.hid ⟨s, by rw [HXS.out]; exact List.mem_of_getElem? HSS.out, h200⟩
                    have o0 := HOFx.out.cell 0
                    have o1 := HOFx.out.cell 1
                    have o2 := HOFx.out.cell 2
                    have p0 := HOFx.out.free 0
                    have p1 := HOFx.out.free 1
                    have p2 := HOFx.out.free 2
                    simp at o0 o1 o2
                    go_upto_region 23 with (fail)
                    have HF9 := Lib.hid (((HOFx.out.set 0 (.int .i64 (1))).set 1 (.int .i64 (-1))).set 2 (.int .i64 (16)))
                    have HW9 := Lib.hid ((((Wrote.refl gf wr).set (p := ⟨gf, 0, none⟩) (.inl rfl) (.int .i64 (1))).set (p := ⟨gf, 1, none⟩) (.inl rfl) (.int .i64 (-1))).set (p := ⟨gf, 2, none⟩) (.inl rfl) (.int .i64 (16)))
                    generalize ((wr.setCell ⟨gf, 0, none⟩ (.int .i64 (1))).setCell ⟨gf, 1, none⟩ (.int .i64 (-1))).setCell ⟨gf, 2, none⟩ (.int .i64 (16)) = w9 at HF9 HW9 ⊢
                    clear o0 o1 o2 p0 p1 p2
                    have HOR9 := Lib.hid (HORx.out.touch HW9.out (by have := HGG.out; omega))
                    have HB9 := Lib.hid (HBW9.out.trans (HW9.out.below (by have := HGG.out; omega) HBW9.out.size))
                    have o0 : w9.cell? ⟨gf, 0, none⟩ = some (.int .i64 (1)) := HF9.out.cell 0
                    have o1 : w9.cell? ⟨gf, 1, none⟩ = some (.int .i64 (-1)) := HF9.out.cell 1
                    have o2 : w9.cell? ⟨gf, 2, none⟩ = some (.int .i64 (16)) := HF9.out.cell 2
                    have r0 := HOR9.out.cell 0
                    have r1 := HOR9.out.cell 1
                    have r2 := HOR9.out.cell 2
                    have q0 := HOR9.out.free 0
                    have q1 := HOR9.out.free 1
                    have q2 := HOR9.out.free 2
                    simp at r0 r1 r2
                    go_wp2
                    have HE := Lib.hid (((HOR9.out.set 0 (.int .i64 (1))).set 1 (.int .i64 (-1))).set 2 (.int .i64 (16)))
                    have HWE := Lib.hid ((((Wrote.refl gr w9).set (p := ⟨gr, 0, none⟩) (.inl rfl) (.int .i64 (1))).set (p := ⟨gr, 1, none⟩) (.inl rfl) (.int .i64 (-1))).set (p := ⟨gr, 2, none⟩) (.inl rfl) (.int .i64 (16)))
                    generalize ((w9.setCell ⟨gr, 0, none⟩ (.int .i64 (1))).setCell ⟨gr, 1, none⟩ (.int .i64 (-1))).setCell ⟨gr, 2, none⟩ (.int .i64 (16)) = we at HE HWE ⊢
                    clear r0 r1 r2 q0 q1 q2
                    have r0 : we.cell? ⟨gr, 0, none⟩ = some (.int .i64 (1)) := HE.out.cell 0
                    have r1 : we.cell? ⟨gr, 1, none⟩ = some (.int .i64 (-1)) := HE.out.cell 1
                    have r2 : we.cell? ⟨gr, 2, none⟩ = some (.int .i64 (16)) := HE.out.cell 2
                    try rw [Exit.noGoto_ret]
                    refine bodyPost_ret (v := .agg #[.int .i64 (1), .int .i64 (-1), .int .i64 (16)]) (by simp [results, Tryd.results10, go_sem, r0, r1, r2]) rfl ?_
                    exact ⟨_, _, _, rfl, .inr ⟨HMD.out, .inr (.inl ⟨HN0.out (by omega), .inr (.inr ⟨HLE.out.2, HALL.out, HFA.out, rfl, rfl⟩), rfl⟩)⟩, HB9.out.trans (HWE.out.below (by have := HGG.out; omega) HB9.out.size)⟩
                  · have HNX : Hid (∀ t, t < k + 1 → ∀ s, xs[t]? = some s → s ≤ 200) := Lib.hid (fun t ht s' hs' => by
                      rcases (show t < k ∨ t = k by omega) with h | rfl
                      · exact HLS.out t h s' hs'
                      · rw [HSS.out] at hs'
                        cases hs'
                        omega)
                    go_wp2
                    go_roundw
                    case rel => exact ⟨k + 1, by omega, by go_num, HNX.out, HB2k.out⟩
                    case measure => simp [intOf]; omega
                · have hke : N = k := by omega
                  subst hke
                  have HFN : Hid (FrNo f 1 ws1) := Lib.hid ⟨HLE.out.2, HALL.out, fun s hs => by
                    rw [HXS.out] at hs
                    obtain ⟨t, ht⟩ := List.getElem?_of_mem hs
                    exact HLS.out t (by have := (List.getElem?_eq_some_iff.1 ht).1; have := HN.out; omega) s ht⟩
                  go_wp2
                  go_roundw
                  case rel => exact ⟨1 + 1, by omega, by go_num, fun _ => HN0.out (by omega), fun _ => HFN.out, HB9.out⟩
                  case measure => simp [intOf]

  · have HNM : Hid (md < 2 ∨ 16 < md) := Lib.hid (by omega)
    have r0 := HOR.out.cell 0
    have r1 := HOR.out.cell 1
    have r2 := HOR.out.cell 2
    have q0 := HOR.out.free 0
    have q1 := HOR.out.free 1
    have q2 := HOR.out.free 2
    have HGG := HGT
    simp at r0 r1 r2
    by_cases hm : md < 2
    · clear hmd
      go_wp2
      have HE := Lib.hid (((HOR.out.set 0 (.int .i64 (0))).set 1 (.int .i64 (-1))).set 2 (.int .i64 (2)))
      have HWE := Lib.hid ((((Wrote.refl gr W2).set (p := ⟨gr, 0, none⟩) (.inl rfl) (.int .i64 (0))).set (p := ⟨gr, 1, none⟩) (.inl rfl) (.int .i64 (-1))).set (p := ⟨gr, 2, none⟩) (.inl rfl) (.int .i64 (2)))
      generalize ((W2.setCell ⟨gr, 0, none⟩ (.int .i64 (0))).setCell ⟨gr, 1, none⟩ (.int .i64 (-1))).setCell ⟨gr, 2, none⟩ (.int .i64 (2)) = we at HE HWE ⊢
      clear r0 r1 r2 q0 q1 q2
      have r0 : we.cell? ⟨gr, 0, none⟩ = some (.int .i64 (0)) := HE.out.cell 0
      have r1 : we.cell? ⟨gr, 1, none⟩ = some (.int .i64 (-1)) := HE.out.cell 1
      have r2 : we.cell? ⟨gr, 2, none⟩ = some (.int .i64 (2)) := HE.out.cell 2
      try rw [Exit.noGoto_ret]
      refine bodyPost_ret (v := .agg #[.int .i64 (0), .int .i64 (-1), .int .i64 (2)]) (by simp [results, Tryd.results10, go_sem, r0, r1, r2]) rfl ?_
      exact ⟨_, _, _, rfl, .inl ⟨HNM.out, rfl, rfl, rfl⟩, HB2.out.trans (HWE.out.below (by have := HGG.out; omega) HB2.out.size)⟩
    · have hm' : 16 < md := by omega
      clear hmd
      go_wp2
      have HE := Lib.hid (((HOR.out.set 0 (.int .i64 (0))).set 1 (.int .i64 (-1))).set 2 (.int .i64 (2)))
      have HWE := Lib.hid ((((Wrote.refl gr W2).set (p := ⟨gr, 0, none⟩) (.inl rfl) (.int .i64 (0))).set (p := ⟨gr, 1, none⟩) (.inl rfl) (.int .i64 (-1))).set (p := ⟨gr, 2, none⟩) (.inl rfl) (.int .i64 (2)))
      generalize ((W2.setCell ⟨gr, 0, none⟩ (.int .i64 (0))).setCell ⟨gr, 1, none⟩ (.int .i64 (-1))).setCell ⟨gr, 2, none⟩ (.int .i64 (2)) = we at HE HWE ⊢
      clear r0 r1 r2 q0 q1 q2
      have r0 : we.cell? ⟨gr, 0, none⟩ = some (.int .i64 (0)) := HE.out.cell 0
      have r1 : we.cell? ⟨gr, 1, none⟩ = some (.int .i64 (-1)) := HE.out.cell 1
      have r2 : we.cell? ⟨gr, 2, none⟩ = some (.int .i64 (2)) := HE.out.cell 2
      try rw [Exit.noGoto_ret]
      refine bodyPost_ret (v := .agg #[.int .i64 (0), .int .i64 (-1), .int .i64 (2)]) (by simp [results, Tryd.results10, go_sem, r0, r1, r2]) rfl ?_
      exact ⟨_, _, _, rfl, .inl ⟨HNM.out, rfl, rfl, rfl⟩, HB2.out.trans (HWE.out.below (by have := HGG.out; omega) HB2.out.size)⟩
end Go.Proofs.YtkankdecbefenaaDoor.Ly7
