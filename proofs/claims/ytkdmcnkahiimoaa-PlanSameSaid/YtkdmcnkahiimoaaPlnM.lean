/- The contracts of package plan's Same and copied; no condition but sizes. -/
import Derived.Test.YtkdmcnkahiimoaaPlnK
import Derived.Test.YtkdmcnkahiimoaaPlnJ
import Derived.Laws.CopyOwn
namespace Go.Proofs.Ytkdmcnkahiimoaa.Ly7
open Go.ChangeShapes Go.WideShapes Go.ChangeAt Go.RowKit Base
set_option linter.unusedVariables false
set_option linter.unusedSimpArgs false

/-- A schedule, as its cells tell it. -/
structure Sc where
  md : Int
  A0 : Option Addr
  n0 : Nat
  c0 : Nat
  A1 : Option Addr
  n1 : Nat
  c1 : Nat
  w0 : List Wd
  w1 : List Wd
def scC (md : Int) (A0 : Option Addr) (n0 c0 : Nat) (A1 : Option Addr) (n1 c1 : Nat) : Array Value := #[.int .i64 md, .slice A0 n0 c0, .slice A1 n1 c1]
def Sc.cells (s : Sc) : Array Value := scC s.md s.A0 s.n0 s.c0 s.A1 s.n1 s.c1
structure Sc.Ok (w : World) (s : Sc) : Prop where
  a : WinsAt w s.A0 s.n0 s.w0
  b : WinsAt w s.A1 s.n1 s.w1
  fa : FewW s.n0 s.w0
  fb : FewW s.n1 s.w1
theorem Sc.Ok.kept {w w' : World} {s : Sc} (h : s.Ok w) (hb : Below w.heap.size w w') : s.Ok w' := ⟨h.a.kept hb, h.b.kept hb, h.fa, h.fb⟩
def scEq (s o : Sc) : Bool := s.md == o.md && wsEq s.w0 o.w0 && wsEq s.w1 o.w1
set_option maxRecDepth 100000 in
set_option maxHeartbeats 4000000 in
theorem same_any (s o : Sc) (w : World) (hs : s.Ok w) (ho : o.Ok w) :
    Calls Try.prog 20 #[.agg #[.int .i64 s.md, .slice s.A0 s.n0 s.c0, .slice s.A1 s.n1 s.c1], .agg #[.int .i64 o.md, .slice o.A0 o.n0 o.c0, .slice o.A1 o.n1 o.c1]] w fun e w' => e = .returned (.bool (scEq s o)) ∧ Below w.heap.size w w' := by
  have HE0 := Lib.hid (fun W (hW : Below w.heap.size w W) => eqfunc_any s.A0 s.n0 s.c0 s.w0 o.A0 o.n0 o.c0 o.w0 W (hs.a.kept hW) (ho.a.kept hW) (fun x hx => ⟨(hs.fa.2 x hx).1, (hs.fa.2 x hx).2⟩) (fun x hx => ⟨(ho.fa.2 x hx).1, (ho.fa.2 x hx).2⟩) (by have := hs.fa.1; omega) (by have := ho.fa.1; omega))
  have HE1 := Lib.hid (fun W (hW : Below w.heap.size w W) => eqfunc_any s.A1 s.n1 s.c1 s.w1 o.A1 o.n1 o.c1 o.w1 W (hs.b.kept hW) (ho.b.kept hW) (fun x hx => ⟨(hs.fb.2 x hx).1, (hs.fb.2 x hx).2⟩) (fun x hx => ⟨(ho.fb.2 x hx).1, (ho.fb.2 x hx).2⟩) (by have := hs.fb.1; omega) (by have := ho.fb.1; omega))
  clear hs ho
  obtain ⟨e0, H0⟩ : ∃ e, Hid (wsEq s.w0 o.w0 = e) := ⟨_, Lib.hid rfl⟩
  obtain ⟨e1, H1⟩ : ∃ e, Hid (wsEq s.w1 o.w1 = e) := ⟨_, Lib.hid rfl⟩
  obtain ⟨em, HM⟩ : ∃ e, Hid ((s.md == o.md) = e) := ⟨_, Lib.hid rfl⟩
  have HR : Hid (scEq s o = (em && e0 && e1)) := Lib.hid (by unfold scEq; rw [HM.out, H0.out, H1.out])
  rw [H0.out] at HE0
  rw [H1.out] at HE1
  have hmm : (s.md != o.md) = !em := by rw [← HM.out]; rfl
  obtain ⟨W1, HW1⟩ : ∃ W1, W1 = (w.alloc (.cells #[.int .i64 s.md, .slice s.A0 s.n0 s.c0, .slice s.A1 s.n1 s.c1] 25)).alloc (.cells #[.int .i64 o.md, .slice o.A0 o.n0 o.c0, .slice o.A1 o.n1 o.c1] 25) := ⟨_, rfl⟩
  have HOX : Hid (Obj1 W1 w.heap.size 25 #[.int .i64 s.md, .slice s.A0 s.n0 s.c0, .slice s.A1 s.n1 s.c1]) := Lib.hid (by rw [HW1]; exact (Obj1.new w 25 _).alloc _)
  have HOZ : Hid (Obj1 W1 (w.heap.size + 1) 25 #[.int .i64 o.md, .slice o.A0 o.n0 o.c0, .slice o.A1 o.n1 o.c1]) := Lib.hid (by
    have := Obj1.new (w.alloc (.cells #[.int .i64 s.md, .slice s.A0 s.n0 s.c0, .slice s.A1 s.n1 s.c1] 25)) 25 #[.int .i64 o.md, .slice o.A0 o.n0 o.c0, .slice o.A1 o.n1 o.c1]
    rw [show (w.alloc (.cells #[.int .i64 s.md, .slice s.A0 s.n0 s.c0, .slice s.A1 s.n1 s.c1] 25)).heap.size = w.heap.size + 1 by simp] at this
    rw [HW1]
    exact this)
  have HBW : Hid (Below w.heap.size w W1) := Lib.hid (by rw [HW1]; exact ((Below.refl _ _).alloc (Nat.le_refl _) _).alloc (by simp) _)
  go_enter Try.func20, Try.ntmps20
  go_upto_region 1 with (fail)
  rw [← HW1]
  clear HW1
  have p0 := HOX.out.cell 0
  have q0 := HOZ.out.cell 0
  simp at p0 q0
  cases em
  · go_wp2
    go_ret
    exact ⟨by rw [HR.out]; rfl, HBW.out⟩
  · go_wp2_with fail
    go_loopw [11] (fun i wx => ∃ v : Nat, v ≤ 2 ∧ i = .int .i64 v ∧ Hid (0 < v → e0 = true) ∧ Hid (1 < v → e1 = true) ∧ Below W1.heap.size W1 wx) (fun i _ => 2 - (intOf i).toNat)
    case atStart => exact ⟨0, by omega, rfl, Lib.hid (fun h => by omega), Lib.hid (fun h => by omega), Below.refl _ _⟩
    case round =>
      clear p0 q0 hmm
      obtain ⟨v, hv, rfl, HF0, HF1, hbel⟩ := hrel
      have HBL := Lib.hid hbel
      have HBC := Lib.hid (HBW.out.trans (hbel.mono HBW.out.size))
      clear hbel
      rcases (show v = 0 ∨ v = 1 ∨ v = 2 by omega) with rfl | rfl | rfl
      · go_upto_region 6 with (fail)
        have hdr : Below wr.heap.size wr wr.drew := bel_drew wr
        have HX : Hid (∀ z : Kin wr.drew, Obj1 z.world w.heap.size 25 #[.int .i64 s.md, .slice s.A0 s.n0 s.c0, .slice s.A1 s.n1 s.c1] ∧ Obj1 z.world (w.heap.size + 1) 25 #[.int .i64 o.md, .slice o.A0 o.n0 o.c0, .slice o.A1 o.n1 o.c1] ∧ Below w.heap.size w z.world) := Lib.hid (fun z => ⟨(HOX.out.kept HBL.out).kept (hdr.trans z.below), (HOZ.out.kept HBL.out).kept (hdr.trans z.below), HBC.out.trans ((hdr.trans z.below).mono HBC.out.size)⟩)
        have K1 : ∀ z : Kin wr.drew, z.world.cell? ⟨w.heap.size, 1, none⟩ = some (.slice s.A0 s.n0 s.c0) := fun z => (HX.out z).1.cell 1
        have K2 : ∀ z : Kin wr.drew, z.world.cell? ⟨w.heap.size + 1, 1, none⟩ = some (.slice o.A0 o.n0 o.c0) := fun z => (HX.out z).2.1.cell 1
        have HCX : Hid (∀ z : Kin wr.drew, Calls Try.prog 35 #[.slice s.A0 s.n0 s.c0, .slice o.A0 o.n0 o.c0, .func (Fn.func 36) #[] #[]] z.world fun e w' => e = .returned (.bool e0) ∧ Below z.world.heap.size z.world w') := Lib.hid (fun z => HE0.out z.world (HX.out z).2.2)
        refine wp_region_specL 10 [.d (.int .i64 0), .d (.pointer (some ⟨w.heap.size, 1, none⟩)), .d (.pointer (some ⟨w.heap.size, 1, none⟩)), .d (.slice s.A0 s.n0 s.c0), .d (.int .i64 0), .d (.pointer (some ⟨w.heap.size + 1, 1, none⟩)), .d (.pointer (some ⟨w.heap.size + 1, 1, none⟩)), .d (.slice o.A0 o.n0 o.c0), .d (.bool e0), .d (.bool !e0)] (by kernel_rfl) (by kernel_rfl) ?_
        refine spec_d rfl (fun x _ => gives_run (by go_simp)) ?_
        try simp only [Act.put, List.getElem_toArray, List.getElem_cons_succ, List.getElem_cons_zero, List.setIfInBounds_toArray, List.set_cons_zero, List.set_cons_succ]
        refine spec_d rfl (fun x _ => gives_run (by go_simp)) ?_
        try simp only [Act.put, List.getElem_toArray, List.getElem_cons_succ, List.getElem_cons_zero, List.setIfInBounds_toArray, List.set_cons_zero, List.set_cons_succ]
        refine spec_d rfl (fun x _ => gives_run (by go_simp)) ?_
        try simp only [Act.put, List.getElem_toArray, List.getElem_cons_succ, List.getElem_cons_zero, List.setIfInBounds_toArray, List.set_cons_zero, List.set_cons_succ]
        refine spec_d rfl (fun x _ => gives_run (by go_simp)) ?_
        try simp only [Act.put, List.getElem_toArray, List.getElem_cons_succ, List.getElem_cons_zero, List.setIfInBounds_toArray, List.set_cons_zero, List.set_cons_succ]
        refine spec_d rfl (fun x _ => gives_run (by go_simp)) ?_
        try simp only [Act.put, List.getElem_toArray, List.getElem_cons_succ, List.getElem_cons_zero, List.setIfInBounds_toArray, List.set_cons_zero, List.set_cons_succ]
        refine spec_d rfl (fun x _ => gives_run (by go_simp)) ?_
        try simp only [Act.put, List.getElem_toArray, List.getElem_cons_succ, List.getElem_cons_zero, List.setIfInBounds_toArray, List.set_cons_zero, List.set_cons_succ]
        refine spec_d rfl (fun x _ => gives_run (by go_simp)) ?_
        try simp only [Act.put, List.getElem_toArray, List.getElem_cons_succ, List.getElem_cons_zero, List.setIfInBounds_toArray, List.set_cons_zero, List.set_cons_succ]
        refine spec_d rfl (fun x _ => gives_run (by go_simp)) ?_
        try simp only [Act.put, List.getElem_toArray, List.getElem_cons_succ, List.getElem_cons_zero, List.setIfInBounds_toArray, List.set_cons_zero, List.set_cons_succ]
        refine spec_d rfl (fun z _ => gives_det (by go_simp) (HCX.out z)) ?_
        try simp only [Act.put, List.getElem_toArray, List.getElem_cons_succ, List.getElem_cons_zero, List.setIfInBounds_toArray, List.set_cons_zero, List.set_cons_succ]
        refine spec_d rfl (fun x _ => gives_run (by go_simp)) ?_
        try simp only [Act.put, List.getElem_toArray, List.getElem_cons_succ, List.getElem_cons_zero, List.setIfInBounds_toArray, List.set_cons_zero, List.set_cons_succ]
        refine spec_end (fun z hz => ?_)
        clear hz
        refine wpAny_done (by kernel_rfl) ?_ _
        have HB8 := Lib.hid (HBL.out.trans ((hdr.trans z.below).mono HBL.out.size))
        clear K1 K2 hdr HX HCX
        generalize z.world = w8 at HB8 ⊢
        clear z
        cases e0
        · go_wp2
          go_ret
          exact ⟨by rw [HR.out]; rfl, HBW.out.trans (HB8.out.mono HBW.out.size)⟩
        · go_wp2
          go_roundw
          case rel => exact ⟨0 + 1, by omega, rfl, Lib.hid (fun _ => by simp), Lib.hid (fun h => by omega), HB8.out⟩
          case measure => simp [intOf]
      · go_upto_region 6 with (fail)
        have hdr : Below wr.heap.size wr wr.drew := bel_drew wr
        have HX : Hid (∀ z : Kin wr.drew, Obj1 z.world w.heap.size 25 #[.int .i64 s.md, .slice s.A0 s.n0 s.c0, .slice s.A1 s.n1 s.c1] ∧ Obj1 z.world (w.heap.size + 1) 25 #[.int .i64 o.md, .slice o.A0 o.n0 o.c0, .slice o.A1 o.n1 o.c1] ∧ Below w.heap.size w z.world) := Lib.hid (fun z => ⟨(HOX.out.kept HBL.out).kept (hdr.trans z.below), (HOZ.out.kept HBL.out).kept (hdr.trans z.below), HBC.out.trans ((hdr.trans z.below).mono HBC.out.size)⟩)
        have K1 : ∀ z : Kin wr.drew, z.world.cell? ⟨w.heap.size, 2, none⟩ = some (.slice s.A1 s.n1 s.c1) := fun z => (HX.out z).1.cell 2
        have K2 : ∀ z : Kin wr.drew, z.world.cell? ⟨w.heap.size + 1, 2, none⟩ = some (.slice o.A1 o.n1 o.c1) := fun z => (HX.out z).2.1.cell 2
        have HCX : Hid (∀ z : Kin wr.drew, Calls Try.prog 35 #[.slice s.A1 s.n1 s.c1, .slice o.A1 o.n1 o.c1, .func (Fn.func 36) #[] #[]] z.world fun e w' => e = .returned (.bool e1) ∧ Below z.world.heap.size z.world w') := Lib.hid (fun z => HE1.out z.world (HX.out z).2.2)
        refine wp_region_specL 10 [.d (.int .i64 1), .d (.pointer (some ⟨w.heap.size, 1, none⟩)), .d (.pointer (some ⟨w.heap.size, 2, none⟩)), .d (.slice s.A1 s.n1 s.c1), .d (.int .i64 1), .d (.pointer (some ⟨w.heap.size + 1, 1, none⟩)), .d (.pointer (some ⟨w.heap.size + 1, 2, none⟩)), .d (.slice o.A1 o.n1 o.c1), .d (.bool e1), .d (.bool !e1)] (by kernel_rfl) (by kernel_rfl) ?_
        refine spec_d rfl (fun x _ => gives_run (by go_simp)) ?_
        try simp only [Act.put, List.getElem_toArray, List.getElem_cons_succ, List.getElem_cons_zero, List.setIfInBounds_toArray, List.set_cons_zero, List.set_cons_succ]
        refine spec_d rfl (fun x _ => gives_run (by go_simp)) ?_
        try simp only [Act.put, List.getElem_toArray, List.getElem_cons_succ, List.getElem_cons_zero, List.setIfInBounds_toArray, List.set_cons_zero, List.set_cons_succ]
        refine spec_d rfl (fun x _ => gives_run (by go_simp)) ?_
        try simp only [Act.put, List.getElem_toArray, List.getElem_cons_succ, List.getElem_cons_zero, List.setIfInBounds_toArray, List.set_cons_zero, List.set_cons_succ]
        refine spec_d rfl (fun x _ => gives_run (by go_simp)) ?_
        try simp only [Act.put, List.getElem_toArray, List.getElem_cons_succ, List.getElem_cons_zero, List.setIfInBounds_toArray, List.set_cons_zero, List.set_cons_succ]
        refine spec_d rfl (fun x _ => gives_run (by go_simp)) ?_
        try simp only [Act.put, List.getElem_toArray, List.getElem_cons_succ, List.getElem_cons_zero, List.setIfInBounds_toArray, List.set_cons_zero, List.set_cons_succ]
        refine spec_d rfl (fun x _ => gives_run (by go_simp)) ?_
        try simp only [Act.put, List.getElem_toArray, List.getElem_cons_succ, List.getElem_cons_zero, List.setIfInBounds_toArray, List.set_cons_zero, List.set_cons_succ]
        refine spec_d rfl (fun x _ => gives_run (by go_simp)) ?_
        try simp only [Act.put, List.getElem_toArray, List.getElem_cons_succ, List.getElem_cons_zero, List.setIfInBounds_toArray, List.set_cons_zero, List.set_cons_succ]
        refine spec_d rfl (fun x _ => gives_run (by go_simp)) ?_
        try simp only [Act.put, List.getElem_toArray, List.getElem_cons_succ, List.getElem_cons_zero, List.setIfInBounds_toArray, List.set_cons_zero, List.set_cons_succ]
        refine spec_d rfl (fun z _ => gives_det (by go_simp) (HCX.out z)) ?_
        try simp only [Act.put, List.getElem_toArray, List.getElem_cons_succ, List.getElem_cons_zero, List.setIfInBounds_toArray, List.set_cons_zero, List.set_cons_succ]
        refine spec_d rfl (fun x _ => gives_run (by go_simp)) ?_
        try simp only [Act.put, List.getElem_toArray, List.getElem_cons_succ, List.getElem_cons_zero, List.setIfInBounds_toArray, List.set_cons_zero, List.set_cons_succ]
        refine spec_end (fun z hz => ?_)
        clear hz
        refine wpAny_done (by kernel_rfl) ?_ _
        have HB8 := Lib.hid (HBL.out.trans ((hdr.trans z.below).mono HBL.out.size))
        clear K1 K2 hdr HX HCX
        generalize z.world = w8 at HB8 ⊢
        clear z
        cases e1
        · go_wp2
          go_ret
          exact ⟨by rw [HR.out]; rw [HF0.out (by omega)]; rfl, HBW.out.trans (HB8.out.mono HBW.out.size)⟩
        · go_wp2
          go_roundw
          case rel => exact ⟨1 + 1, by omega, rfl, Lib.hid (fun _ => HF0.out (by omega)), Lib.hid (fun _ => by simp), HB8.out⟩
          case measure => simp [intOf]
      · go_wp2
        go_ret
        exact ⟨by rw [HR.out, HF0.out (by omega), HF1.out (by omega)]; rfl, HBC.out⟩
theorem int_one (xs : List Int) : ∀ u ∈ xs.map (Value.int .i64), u.oneCell' = true := fun u hu => by
  simp only [List.mem_map] at hu
  obtain ⟨x, _, rfl⟩ := hu
  rfl
theorem info_int : (Try.prog.info? 3).map (fun i => (i.zero, i.size, i.bytes)) = some (some (.int .i64 0), 1, 8) := by kernel_rfl
/-- A list in new memory. -/
def NewC (s n : Nat) (xs : List Int) : Sp := fun v w => ∃ g, v = .slice (some ⟨g, 0, none⟩) n n ∧ s ≤ g ∧ Obj1 w g 3 (xs.map (Value.int .i64)).toArray
theorem NewC.stable (s n : Nat) (xs : List Int) : Stable (NewC s n xs) := fun v a b ⟨g, e, h, hl⟩ hb => ⟨g, e, h, hl.kept hb⟩
set_option maxRecDepth 100000 in
set_option maxHeartbeats 2000000 in
theorem copied_any (A : Option Addr) (n c : Nat) (xs : List Int) (w : World) (h : Lst w A n (xs.map (Value.int .i64))) (hn : n ≤ 1000000) :
    Calls Try.prog 34 #[.slice A n c] w fun e w' => ∃ v, e = .returned v ∧ Below w.heap.size w w' ∧ NewC w.heap.size n xs v w' := by
  obtain ⟨i0, hi, hz0, hz1, hz2⟩ := info_parts info_int
  have hl : xs.length = n := by have := h.1; simpa using this
  have HL := Lib.hid h
  have HN := Lib.hid hl
  have hmk : (Instr.makeSlice 39 (.int .i64 (n : Int)) (.int .i64 (n : Int))).run Try.prog w = .ok (.slice (some ⟨w.heap.size, 0, none⟩) n n) (w.alloc (.cells (madeCells #[.int .i64 0] n) 3)) := by
    have := run_make (P := Try.prog) w 39 3 i0 (.int .i64 0) Try.underlying39 hi hz0 .i64 .i64 n n (by omega) (Int.le_refl _) (by rw [hz2]; omega) (by omega)
    rw [hz1] at this
    simp only [Int.toNat_natCast, Nat.mul_one] at this
    exact this
  have HO := Lib.hid (Obj1.new w 3 (madeCells #[.int .i64 0] n))
  have HMS : Hid ((madeCells #[.int .i64 0] n).toList.length = n) := Lib.hid (by rw [Go.toList_madeCells_one]; simp)
  have HB : Hid (Below w.heap.size w (w.alloc (.cells (madeCells #[.int .i64 0] n) 3))) := Lib.hid (bel1 _ _)
  have HLK := Lib.hid (h.kept HB.out)
  obtain ⟨cur, hcur⟩ : ∃ cur : List Value, cur = (madeCells #[.int .i64 0] n).toList := ⟨_, rfl⟩
  have hca : madeCells #[.int .i64 0] n = cur.toArray := by rw [hcur]
  rw [hca] at hmk HO HB HLK
  rw [← hcur] at HMS
  obtain ⟨W1, HW1⟩ : ∃ W1, W1 = w.alloc (.cells cur.toArray 3) := ⟨_, rfl⟩
  rw [← HW1] at hmk HO HB HLK
  obtain ⟨cs, HCS⟩ : ∃ cs, Hid (xs.map (Value.int .i64) = cs) := ⟨_, Lib.hid rfl⟩
  have HCL : Hid (cs.length = n) := Lib.hid (by rw [← HCS.out]; simpa using hl)
  have H1 : Hid (∀ v ∈ cs, v.oneCell' = true) := Lib.hid (by rw [← HCS.out]; exact int_one xs)
  rw [HCS.out] at HLK
  obtain ⟨g0, HG0⟩ : ∃ g0, Hid (w.heap.size = g0) := ⟨_, Lib.hid rfl⟩
  rw [HG0.out] at hmk HO HB ⊢
  clear hz0 hz1 hz2 hi HW1 hca hcur h hl HL
  go_enter Try.func34, Try.ntmps34
  go_upto_region 2 with (fail)
  clear hmk
  go_wp2_with (refine wpList_copy_splice rfl (.tmp 7) (.tmp 8) 39 39 rfl 3 Try.underlying39 (by kernel_rfl) (some ⟨g0, 0, none⟩) A n n n c rfl rfl g0 0 cur 3 HO.out cs (HCL.out.trans (Nat.min_self n).symm) (fun hp => ⟨rfl, (HLK.out.2 (by have := HCL.out; omega)).elim fun b ⟨off, e, _, hc⟩ => ⟨_, e, fun j v hj => by rw [add_eq, hc j (by have := (List.getElem?_eq_some_iff.1 hj).1; have := HCL.out; omega)]; exact hj⟩⟩) (by have := HCL.out; have := HMS.out; omega) H1.out g0 w HB.out (Nat.le_refl _) ?_; intro w5 h5 hb5)
  go_ret
  refine ⟨_, rfl, hb5, g0, rfl, Nat.le_refl _, ?_⟩
  have hsp : splice cur 0 cs = cs := by
    unfold splice
    rw [List.take_zero, Nat.zero_add, List.drop_of_length_le (by rw [HMS.out, HCL.out]; exact Nat.le_refl _)]
    simp
  have := h5.out
  rw [hsp, ← HCS.out] at this
  exact this
end Go.Proofs.Ytkdmcnkahiimoaa.Ly7
