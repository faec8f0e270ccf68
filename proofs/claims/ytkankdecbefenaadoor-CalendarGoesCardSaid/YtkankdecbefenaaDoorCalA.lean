/- Package calendar's slots: those of a frame, or none; no condition but sizes. -/
import Derived.RegionTactic
import Derived.IntWalk
import Derived.Test.YtkankdecbefenaaDoorVlcL
import Derived.Test.YtkankdecbefenaaDoorVlcD
import Derived.Test.YtkankdecbefenaaDoorPlnR
import Derived.Test.YtkankdecbefenaaDoorReg
import Derived.Test.YtkankdecbefenaaDoorGenA
namespace Go.Proofs.YtkankdecbefenaaDoor.Ly7
open Go.ChangeShapes Go.WideShapes Go.ChangeAt Go.RowKit Base
set_option linter.unusedVariables false
set_option linter.unusedSimpArgs false

abbrev TSd : TypeId := 25
def RowS (base n : Nat) (xs : List Value) : Sp := fun v w => w.ownsRow base TSl 8 v n xs
theorem RowS.stable (base n : Nat) (xs : List Value) : Stable (RowS base n xs) := fun v a b h hb => own_kept h hb
theorem RowS.ex {base n : Nat} {xs : List Value} (w : World) (hb : base ≤ w.heap.size) (hn : n ≤ 1000) (hx : xs.length = n * 8) : ∃ v, ∃ x : Kin w, RowS base n xs v x.world :=
  ⟨.slice (some ⟨w.heap.size, 0, none⟩) n n, ⟨w.alloc (.cells xs.toArray TSl), bel_new _ _⟩, by
    have h := World.ownsRow_lit (base := base) (e := TSl) (size := 8) w xs.toArray n hb (by unfold maxLen; omega) (by simpa using hx)
    simpa [RowS] using h⟩
theorem slC_len : ∀ ss : List Sl, (slC ss).length = ss.length * 8
  | [] => rfl
  | x :: r => by
    have := slC_len r
    show (x.cells ++ slC r).length = _
    rw [List.length_append, this, List.length_cons]
    show 8 + _ = _
    omega
/-- The frame that is asked for. -/
def Ver (ver : Nat) (A0 : Option Addr) (n0 c0 : Nat) (A1 : Option Addr) (n1 c1 : Nat) (ws0 ws1 : List Wd) (A : Option Addr) (n c : Nat) (ws : List Wd) : Prop :=
  (ver = 0 ∧ A = A0 ∧ n = n0 ∧ c = c0 ∧ ws = ws0) ∨ (ver = 1 ∧ A = A1 ∧ n = n1 ∧ c = c1 ∧ ws = ws1)
/-- A schedule that stands in memory, and what is wrong with it. -/
structure Sd (f : Wd → Int) (md : Int) (A0 : Option Addr) (n0 c0 : Nat) (A1 : Option Addr) (n1 c1 : Nat) (ws0 ws1 : List Wd) (v j e : Int) (w : World) : Prop where
  w0 : WinsAt w A0 n0 ws0
  w1 : WinsAt w A1 n1 ws1
  l0 : n0 ≤ 900
  l1 : n1 ≤ 900
  s0 : Says f md ws0
  s1 : Says f md ws1
  c : Chk f md ws0 ws1 v j e
theorem Sd.kept {f : Wd → Int} {md : Int} {A0 : Option Addr} {n0 c0 : Nat} {A1 : Option Addr} {n1 c1 : Nat} {ws0 ws1 : List Wd} {v j e : Int} {w w' : World} (h : Sd f md A0 n0 c0 A1 n1 c1 ws0 ws1 v j e w) (hb : Below w.heap.size w w') : Sd f md A0 n0 c0 A1 n1 c1 ws0 ws1 v j e w' :=
  ⟨h.w0.kept hb, h.w1.kept hb, h.l0, h.l1, h.s0, h.s1, h.c⟩
theorem Sd.code {f : Wd → Int} {md : Int} {A0 : Option Addr} {n0 c0 : Nat} {A1 : Option Addr} {n1 c1 : Nat} {ws0 ws1 : List Wd} {v j e : Int} {w : World} (h : Sd f md A0 n0 c0 A1 n1 c1 ws0 ws1 v j e w) (W : World) (hb : Below w.heap.size w W) :
    Calls Tryd.prog 10 #[.agg #[.int .i64 md, .slice A0 n0 c0, .slice A1 n1 c1]] W fun r w' => r = .returned (.agg #[.int .i64 v, .int .i64 j, .int .i64 e]) ∧ Below W.heap.size W w' :=
  (check_any f md A0 n0 c0 A1 n1 c1 ws0 ws1 W (h.w0.kept hb) (h.w1.kept hb) (by have := h.l0; omega) (by have := h.l1; omega) h.s0 h.s1).mono (by
    rintro r w' ⟨v', j', c', rfl, hc, hb'⟩
    obtain ⟨rfl, rfl, rfl⟩ := chk_uniq hc h.c
    exact ⟨rfl, hb'⟩)
theorem Sd.ver {f : Wd → Int} {md : Int} {A0 : Option Addr} {n0 c0 : Nat} {A1 : Option Addr} {n1 c1 : Nat} {ws0 ws1 : List Wd} {v j e : Int} {w : World} (h : Sd f md A0 n0 c0 A1 n1 c1 ws0 ws1 v j e w) {ver : Nat} {A : Option Addr} {n c : Nat} {ws : List Wd} (hv : Ver ver A0 n0 c0 A1 n1 c1 ws0 ws1 A n c ws) :
    WinsAt w A n ws ∧ n ≤ 900 ∧ ((ver = 0 ∧ A = A0 ∧ n = n0 ∧ c = c0) ∨ (ver = 1 ∧ A = A1 ∧ n = n1 ∧ c = c1)) := by
  rcases hv with ⟨h1, rfl, rfl, rfl, rfl⟩ | ⟨h1, rfl, rfl, rfl, rfl⟩
  · exact ⟨h.w0, h.l0, .inl ⟨h1, rfl, rfl, rfl⟩⟩
  · exact ⟨h.w1, h.l1, .inr ⟨h1, rfl, rfl, rfl⟩⟩
set_option maxRecDepth 100000 in
set_option maxHeartbeats 2000000 in
theorem slots_no (f : Wd → Int) (md : Int) (A0 : Option Addr) (n0 c0 : Nat) (A1 : Option Addr) (n1 c1 : Nat) (ws0 ws1 : List Wd) (v j e : Int) (w : World) (h : Sd f md A0 n0 c0 A1 n1 c1 ws0 ws1 v j e w) (ver : Int) (hv : e ≠ 0 ∨ ver < 0 ∨ 2 ≤ ver) :
    Calls Tryd.prog 22 #[.agg #[.int .i64 md, .slice A0 n0 c0, .slice A1 n1 c1], .int .i64 ver] w fun r w' => r = .returned (.tuple #[.slice none 0 0, .int .i64 0]) ∧ Below w.heap.size w w' := by
  have HSD := Lib.hid h
  have hfc := fld_code
  obtain ⟨gb, HGB⟩ : ∃ gb, Hid (w.heap.size = gb) := ⟨_, Lib.hid rfl⟩
  obtain ⟨W1, HW1⟩ : ∃ W1, Hid (W1 = w.alloc (.cells #[.int .i64 md, .slice A0 n0 c0, .slice A1 n1 c1] TSd)) := ⟨_, Lib.hid rfl⟩
  have HB1 : Hid (Below w.heap.size w W1) := Lib.hid (by rw [HW1.out]; exact bel1 _ _)
  have HO1 : Hid (Obj1 W1 gb TSd #[.int .i64 md, .slice A0 n0 c0, .slice A1 n1 c1]) := Lib.hid (by rw [HW1.out, ← HGB.out]; exact Obj1.new _ _ _)
  have d0 : W1.cell? ⟨gb, 0, none⟩ = some (.int .i64 md) := HO1.out.cell 0
  have d1 : W1.cell? ⟨gb, 1, none⟩ = some (.slice A0 n0 c0) := HO1.out.cell 1
  have d2 : W1.cell? ⟨gb, 2, none⟩ = some (.slice A1 n1 c1) := HO1.out.cell 2
  clear h
  go_enter Tryd.func22, Tryd.ntmps22
  go_upto_region 1 with (fail)
  rw [← HW1.out, HGB.out]
  clear HW1 HGB
  have HCK := Lib.hid (HSD.out.code W1 HB1.out)
  go_wp2_with fail
  refine HCK.out.mono ?_
  rintro r w2 ⟨rfl, hb2⟩
  have HB2 := Lib.hid (HB1.out.trans (hb2.mono HB1.out.size))
  have HO2 := Lib.hid (HO1.out.kept hb2)
  clear hb2 d0 d1 d2 HCK
  by_cases he : e = 0
  · subst he
    have HV : Hid (ver < 0 ∨ 2 ≤ ver) := Lib.hid (hv.resolve_left (fun h => h rfl))
    have d0 : ∀ z : Kin w2.drew, z.world.cell? ⟨gb, 0, none⟩ = some (.int .i64 md) := fun z => Kin.at (w := w2.drew) (HO2.out.cell 0) z
    have d1 : ∀ z : Kin w2.drew, z.world.cell? ⟨gb, 1, none⟩ = some (.slice A0 n0 c0) := fun z => Kin.at (w := w2.drew) (HO2.out.cell 1) z
    have d2 : ∀ z : Kin w2.drew, z.world.cell? ⟨gb, 2, none⟩ = some (.slice A1 n1 c1) := fun z => Kin.at (w := w2.drew) (HO2.out.cell 2) z
    clear hv
    go_upto_region 3 with (fail)
    refine wp_region_specL 8 [.d (.agg #[.int .i64 md, .slice A0 n0 c0, .slice A1 n1 c1]), .d (.int .i64 ver), .d (.slice none 0 0), .d (.agg #[.int .i64 md, .slice A0 n0 c0, .slice A1 n1 c1]), .d (.int .i64 ver), .d (.int .i64 0), .d (.slice none 0 0), .d (.int .i64 0)] (by kernel_rfl) (by kernel_rfl) ?_
    refine spec_d rfl (fun x _ => gives_run (by go_simp)) ?_
    try simp only [Act.put, List.getElem_toArray, List.getElem_cons_succ, List.getElem_cons_zero, List.setIfInBounds_toArray, List.set_cons_zero, List.set_cons_succ]
    refine spec_d rfl (fun x _ => gives_run (by go_simp)) ?_
    try simp only [Act.put, List.getElem_toArray, List.getElem_cons_succ, List.getElem_cons_zero, List.setIfInBounds_toArray, List.set_cons_zero, List.set_cons_succ]
    refine spec_d rfl (fun z _ => gives_det (by go_simp) (view_no md A0 n0 c0 A1 n1 c1 ver (-1) HV.out z.world)) ?_
    try simp only [Act.put, List.getElem_toArray, List.getElem_cons_succ, List.getElem_cons_zero, List.setIfInBounds_toArray, List.set_cons_zero, List.set_cons_succ]
    refine spec_d rfl (fun x _ => gives_run (by go_simp)) ?_
    try simp only [Act.put, List.getElem_toArray, List.getElem_cons_succ, List.getElem_cons_zero, List.setIfInBounds_toArray, List.set_cons_zero, List.set_cons_succ]
    refine spec_d rfl (fun x _ => gives_run (by go_simp)) ?_
    try simp only [Act.put, List.getElem_toArray, List.getElem_cons_succ, List.getElem_cons_zero, List.setIfInBounds_toArray, List.set_cons_zero, List.set_cons_succ]
    refine spec_d rfl (fun z _ => gives_det (by go_simp) (frame_no md A0 n0 c0 A1 n1 c1 ver HV.out z.world)) ?_
    try simp only [Act.put, List.getElem_toArray, List.getElem_cons_succ, List.getElem_cons_zero, List.setIfInBounds_toArray, List.set_cons_zero, List.set_cons_succ]
    refine spec_d rfl (fun x _ => gives_run (by go_simp)) ?_
    try simp only [Act.put, List.getElem_toArray, List.getElem_cons_succ, List.getElem_cons_zero, List.setIfInBounds_toArray, List.set_cons_zero, List.set_cons_succ]
    refine spec_d rfl (fun x _ => gives_run (by go_simp)) ?_
    try simp only [Act.put, List.getElem_toArray, List.getElem_cons_succ, List.getElem_cons_zero, List.setIfInBounds_toArray, List.set_cons_zero, List.set_cons_succ]
    refine spec_end (fun z hz => ?_)
    clear hz
    refine wpAny_done (by kernel_rfl) ?_ _
    have HB3 := Lib.hid (HB2.out.trans (((bel_drew w2).trans z.below).mono HB2.out.size))
    clear d0 d1 d2
    generalize z.world = w3 at HB3 ⊢
    clear z
    go_wp2
    go_ret2
    exact ⟨rfl, HB3.out⟩
  · have hen : (e != 0) = true := by simpa using he
    clear he hv
    go_wp2
    go_ret2
    exact ⟨rfl, HB2.out⟩
set_option maxRecDepth 100000 in
set_option maxHeartbeats 2000000 in
theorem slots_yes (f : Wd → Int) (md : Int) (A0 : Option Addr) (n0 c0 : Nat) (A1 : Option Addr) (n1 c1 : Nat) (ws0 ws1 : List Wd) (v j e : Int) (w : World) (h : Sd f md A0 n0 c0 A1 n1 c1 ws0 ws1 v j e w) (he : e = 0) (ver : Nat) (A : Option Addr) (n c : Nat) (ws : List Wd) (hv : Ver ver A0 n0 c0 A1 n1 c1 ws0 ws1 A n c ws) :
    Calls Tryd.prog 22 #[.agg #[.int .i64 md, .slice A0 n0 c0, .slice A1 n1 c1], .int .i64 (ver : Int)] w fun r w' => ∃ V, r = .returned (.tuple #[V, .int .i64 (endS ws (leadI ver) + 120)]) ∧ Hid (w'.ownsRow w.heap.size TSl 8 V (viewL ver (-1) ws).length (slC (viewL ver (-1) ws))) ∧ Hid (Below w.heap.size w w') := by
  have HSD := Lib.hid h
  have hfc := fld_code
  obtain ⟨gb, HGB⟩ : ∃ gb, Hid (w.heap.size = gb) := ⟨_, Lib.hid rfl⟩
  obtain ⟨W1, HW1⟩ : ∃ W1, Hid (W1 = w.alloc (.cells #[.int .i64 md, .slice A0 n0 c0, .slice A1 n1 c1] TSd)) := ⟨_, Lib.hid rfl⟩
  have HB1 : Hid (Below w.heap.size w W1) := Lib.hid (by rw [HW1.out]; exact bel1 _ _)
  have HO1 : Hid (Obj1 W1 gb TSd #[.int .i64 md, .slice A0 n0 c0, .slice A1 n1 c1]) := Lib.hid (by rw [HW1.out, ← HGB.out]; exact Obj1.new _ _ _)
  have d0 : W1.cell? ⟨gb, 0, none⟩ = some (.int .i64 md) := HO1.out.cell 0
  have d1 : W1.cell? ⟨gb, 1, none⟩ = some (.slice A0 n0 c0) := HO1.out.cell 1
  have d2 : W1.cell? ⟨gb, 2, none⟩ = some (.slice A1 n1 c1) := HO1.out.cell 2
  clear h
  have HVR := Lib.hid hv
  obtain ⟨T, HT⟩ : ∃ T, Hid (endS ws (leadI ver) + 120 = T) := ⟨_, Lib.hid rfl⟩
  have HLN : Hid ((viewL ver (-1) ws).length ≤ 902) := Lib.hid (by
    have h1 := view_len ver (-1) ws
    have h2 := (HSD.out.ver hv).1.len
    have h3 := (HSD.out.ver hv).2.1
    omega)
  rw [HT.out]
  subst he
  clear hv
  go_enter Tryd.func22, Tryd.ntmps22
  go_upto_region 1 with (fail)
  rw [← HW1.out, HGB.out]
  clear HW1 HGB
  have HCK := Lib.hid (HSD.out.code W1 HB1.out)
  go_wp2_with fail
  refine HCK.out.mono ?_
  rintro r w2 ⟨rfl, hb2⟩
  have HB2 := Lib.hid (HB1.out.trans (hb2.mono HB1.out.size))
  have HO2 := Lib.hid (HO1.out.kept hb2)
  clear hb2 d0 d1 d2 HCK
  have d0 : ∀ z : Kin w2.drew, z.world.cell? ⟨gb, 0, none⟩ = some (.int .i64 md) := fun z => Kin.at (w := w2.drew) (HO2.out.cell 0) z
  have d1 : ∀ z : Kin w2.drew, z.world.cell? ⟨gb, 1, none⟩ = some (.slice A0 n0 c0) := fun z => Kin.at (w := w2.drew) (HO2.out.cell 1) z
  have d2 : ∀ z : Kin w2.drew, z.world.cell? ⟨gb, 2, none⟩ = some (.slice A1 n1 c1) := fun z => Kin.at (w := w2.drew) (HO2.out.cell 2) z
  have HZB : Hid (∀ z : Kin w2.drew, Below w.heap.size w z.world) := Lib.hid (fun z => HB2.out.trans (((bel_drew w2).trans z.below).mono HB2.out.size))
  have HSZ : Hid (w.heap.size ≤ w2.drew.heap.size) := Lib.hid HB2.out.size
  have HVC : Hid (∀ z : Kin w2.drew, Calls Tryd.prog 21 #[.agg #[.int .i64 md, .slice A0 n0 c0, .slice A1 n1 c1], .int .i64 (ver : Int), .int .i64 (-1)] z.world fun r w' => ∃ v, r = .returned v ∧ Below z.world.heap.size z.world w' ∧ RowS w.heap.size (viewL ver (-1) ws).length (slC (viewL ver (-1) ws)) v w') := Lib.hid (fun z =>
    (view_any md A0 n0 c0 A1 n1 c1 A n c ver (-1) ws z.world (HSD.out.ver HVR.out).2.2 ((HSD.out.ver HVR.out).1.kept (HZB.out z)) (HSD.out.ver HVR.out).2.1).mono (by
      rintro r w' ⟨v, rfl, ho, hb⟩
      exact ⟨v, rfl, hb.out, row_mono ho.out (HZB.out z).size⟩))
  have HFC : Hid (∀ z : Kin w2.drew, Calls Tryd.prog 14 #[.agg #[.int .i64 md, .slice A0 n0 c0, .slice A1 n1 c1], .int .i64 (ver : Int)] z.world fun r w' => r = .returned (.int .i64 T) ∧ Below z.world.heap.size z.world w') := Lib.hid (fun z => by
    have h := frame_any md A0 n0 c0 A1 n1 c1 A n c ver ws z.world (HSD.out.ver HVR.out).2.2 ((HSD.out.ver HVR.out).1.kept (HZB.out z)) (Nat.le_trans (HSD.out.ver HVR.out).2.1 (by omega))
    rw [HT.out] at h
    exact h)
  have HEX : Hid (∃ v, ∃ x : Kin w2.drew, RowS w.heap.size (viewL ver (-1) ws).length (slC (viewL ver (-1) ws)) v x.world) := Lib.hid (RowS.ex _ HSZ.out (by have := HLN.out; omega) (slC_len _))
  obtain ⟨XS, HXS⟩ : ∃ XS, Hid (RowS w.heap.size (viewL ver (-1) ws).length (slC (viewL ver (-1) ws)) = XS) := ⟨_, Lib.hid rfl⟩
  have HST : Hid (Stable XS) := Lib.hid (by rw [← HXS.out]; exact RowS.stable _ _ _)
  rw [HXS.out] at HVC HEX
  go_upto_region 3 with (fail)
  refine wp_region_specL 8 [.d (.agg #[.int .i64 md, .slice A0 n0 c0, .slice A1 n1 c1]), .d (.int .i64 (ver : Int)), .g XS, .d (.agg #[.int .i64 md, .slice A0 n0 c0, .slice A1 n1 c1]), .d (.int .i64 (ver : Int)), .d (.int .i64 T), .g XS, .d (.int .i64 T)] (by kernel_rfl) (by kernel_rfl) ?_
  refine spec_d rfl (fun x _ => gives_run (by go_simp)) ?_
  try simp only [Act.put, List.getElem_toArray, List.getElem_cons_succ, List.getElem_cons_zero, List.setIfInBounds_toArray, List.set_cons_zero, List.set_cons_succ]
  refine spec_d rfl (fun x _ => gives_run (by go_simp)) ?_
  try simp only [Act.put, List.getElem_toArray, List.getElem_cons_succ, List.getElem_cons_zero, List.setIfInBounds_toArray, List.set_cons_zero, List.set_cons_succ]
  refine spec_g HST.out HEX.out rfl (fun z _ => gives_call (by go_simp) (HVC.out z)) ?_
  try simp only [Act.put, List.getElem_toArray, List.getElem_cons_succ, List.getElem_cons_zero, List.setIfInBounds_toArray, List.set_cons_zero, List.set_cons_succ]
  rintro v1 ⟨x1, _⟩
  try simp only [Act.put, List.getElem_toArray, List.getElem_cons_succ, List.getElem_cons_zero, List.setIfInBounds_toArray, List.set_cons_zero, List.set_cons_succ]
  refine spec_d rfl (fun x _ => gives_run (by go_simp)) ?_
  try simp only [Act.put, List.getElem_toArray, List.getElem_cons_succ, List.getElem_cons_zero, List.setIfInBounds_toArray, List.set_cons_zero, List.set_cons_succ]
  refine spec_d rfl (fun x _ => gives_run (by go_simp)) ?_
  try simp only [Act.put, List.getElem_toArray, List.getElem_cons_succ, List.getElem_cons_zero, List.setIfInBounds_toArray, List.set_cons_zero, List.set_cons_succ]
  refine spec_d rfl (fun z _ => gives_det (by go_simp) (HFC.out z)) ?_
  try simp only [Act.put, List.getElem_toArray, List.getElem_cons_succ, List.getElem_cons_zero, List.setIfInBounds_toArray, List.set_cons_zero, List.set_cons_succ]
  refine spec_g HST.out HEX.out rfl (fun z hz => gives_ok (by go_simp) (Below.refl _ _) (hz _ (List.mem_singleton.2 rfl) (by kernel_rfl))) ?_
  try simp only [Act.put, List.getElem_toArray, List.getElem_cons_succ, List.getElem_cons_zero, List.setIfInBounds_toArray, List.set_cons_zero, List.set_cons_succ]
  rintro v2 ⟨x2, _⟩
  try simp only [Act.put, List.getElem_toArray, List.getElem_cons_succ, List.getElem_cons_zero, List.setIfInBounds_toArray, List.set_cons_zero, List.set_cons_succ]
  refine spec_d rfl (fun x _ => gives_run (by go_simp)) ?_
  try simp only [Act.put, List.getElem_toArray, List.getElem_cons_succ, List.getElem_cons_zero, List.setIfInBounds_toArray, List.set_cons_zero, List.set_cons_succ]
  refine spec_end (fun z hz => ?_)
  have hv2 := hz _ (List.mem_cons_self ..)
  have HR : Hid (z.world.ownsRow w.heap.size TSl 8 v2 (viewL ver (-1) ws).length (slC (viewL ver (-1) ws))) := Lib.hid (by have h : XS v2 z.world := hv2; rw [← HXS.out] at h; exact h)
  clear hz hv2
  refine wpAny_done (by kernel_rfl) ?_ _
  have HB3 := Lib.hid (HZB.out z)
  clear d0 d1 d2 HVC HFC HEX HZB
  generalize z.world = w3 at HB3 HR ⊢
  clear z
  go_wp2
  go_ret2
  exact ⟨v2, rfl, HR, HB3⟩
end Go.Proofs.YtkankdecbefenaaDoor.Ly7
