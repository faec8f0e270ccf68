/- Package trace's Text; no condition but sizes. -/
import Derived.Test.YtanhblokhcaoiaaDoorTrcB
namespace Go.Proofs.YtanhblokhcaoiaaDoor.Tr
open Go.ChangeShapes Go.WideShapes Go.ChangeAt Go.RowKit Base
open Joi (stV)
open Hl (Ev TE)
set_option linter.unusedVariables false
set_option linter.unusedSimpArgs false

/-- A row of the call's own. -/
def RowN (base : Nat) (T : TypeId) (n : Nat) (xs : List Value) : Sp := fun v w => w.ownsRow base T 1 v n xs
theorem RowN.stable (base : Nat) (T : TypeId) (n : Nat) (xs : List Value) : Stable (RowN base T n xs) := fun v a b h hb => own_kept h hb
theorem RowN.new {base : Nat} {T : TypeId} {n : Nat} {xs : List Value} {x : World} (h : base ≤ x.heap.size) (hn : xs.length = n) (hm : n ≤ 1000 := by decide) : RowN base T n xs (.slice (some ⟨x.heap.size, 0, none⟩) n n) (x.alloc (.cells xs.toArray T)) :=
  World.ownsRow_lit (base := base) (e := T) (size := 1) x xs.toArray n h (by unfold maxLen; omega) (by simpa using hn)
theorem RowN.ex {base : Nat} {T : TypeId} {n : Nat} {xs : List Value} {w : World} (hd : True = True) (h : base ≤ w.heap.size) (hn : xs.length = n) (hm : n ≤ 1000 := by decide) : ∃ v, ∃ x : Kin w.drew, RowN base T n xs v x.world :=
  ⟨_, ⟨_, bel_new _ _⟩, RowN.new (x := w.drew) h hn hm⟩
def wdE (x : Ev) (vs : List Nat) : List (List UInt8) := [Lib.itoa x.t, Lib.itoa x.m, nmT x.k, Lib.itoa x.s, Lib.itoa x.v, Lib.itoa x.c] ++ (if 0 < vs.length then [hxT vs] else [])
/-- An event's line. -/
def teT (x : Ev) (vs : List Nat) : List UInt8 := Lib.join (wdE x vs) [32]
def I64 (n : Int) : Prop := -9223372036854775808 ≤ n ∧ n ≤ 9223372036854775807
theorem nmT_len (k : Int) : (nmT k).length ≤ 6 := by
  unfold nmT
  split
  · exact Hl.nmH_len _
  · simp
theorem wdE_len (x : Ev) (vs : List Nat) : (wdE x vs).length ≤ 7 := by
  unfold wdE
  split <;> simp
theorem te_len (x : Ev) (vs : List Nat) (hx : I64 x.t ∧ I64 x.m ∧ I64 x.s ∧ I64 x.v ∧ I64 x.c) (hv : vs.length ≤ 1000) : (teT x vs).length ≤ 10000 := by
  have h1 := Txt.itoa_len x.t hx.1.1 hx.1.2
  have h2 := Txt.itoa_len x.m hx.2.1.1 hx.2.1.2
  have h3 := Txt.itoa_len x.s hx.2.2.1.1 hx.2.2.1.2
  have h4 := Txt.itoa_len x.v hx.2.2.2.1.1 hx.2.2.2.1.2
  have h5 := Txt.itoa_len x.c hx.2.2.2.2.1 hx.2.2.2.2.2
  have h6 := nmT_len x.k
  have h7 := hxT_len vs
  unfold teT wdE
  split <;> simp [Lib.join_cons, Lib.joinTail] <;> omega
set_option maxRecDepth 100000 in
set_option maxHeartbeats 4000000 in
theorem text_any (x : Ev) (vs : List Nat) (w : World) (hU : Txt.Lf w) (hl : Lst w x.A x.n (vs.map fun (x : Nat) => Value.int .u8 x)) (hv : ∀ y ∈ vs, y < 256) (hn : x.n ≤ 100) (hx : I64 x.t ∧ I64 x.m ∧ I64 x.s ∧ I64 x.v ∧ I64 x.c) :
    Calls Tryd.prog 30 #[.agg #[.int .i64 x.t, .int .i64 x.m, .int .i64 x.k, .int .i64 x.s, .int .i64 x.v, .int .i64 x.si, .int .i64 x.c, .slice x.A x.n x.d]] w fun e' w' => e' = .returned (.string ⟨(teT x vs).toArray⟩) ∧ Below w.heap.size w w' := by
  obtain ⟨is, hi, hz0, hz1, hz2⟩ := info_three Dg.info_st
  obtain ⟨gb, HGB⟩ : ∃ gb, Hid (w.heap.size = gb) := ⟨_, Lib.hid rfl⟩
  obtain ⟨W1, HW1⟩ : ∃ W1, Hid (W1 = w.alloc (.cells #[.int .i64 x.t, .int .i64 x.m, .int .i64 x.k, .int .i64 x.s, .int .i64 x.v, .int .i64 x.si, .int .i64 x.c, .slice x.A x.n x.d] TE)) := ⟨_, Lib.hid rfl⟩
  have HB1 : Hid (Below w.heap.size w W1) := Lib.hid (by rw [HW1.out]; exact bel_new _ _)
  have HOB : Hid (Obj1 W1 gb TE #[.int .i64 x.t, .int .i64 x.m, .int .i64 x.k, .int .i64 x.s, .int .i64 x.v, .int .i64 x.si, .int .i64 x.c, .slice x.A x.n x.d]) := Lib.hid (by rw [HW1.out, ← HGB.out]; exact Obj1.new _ _ _)
  have HLF : Hid (∀ W, Below w.heap.size w W → Txt.Lf W) := Lib.hid (fun W h => hU.kept h)
  have HL := Lib.hid hl
  have HLN : Hid (vs.length = x.n) := Lib.hid (by have := hl.1; simpa using this)
  have HV := Lib.hid hv
  have HIT := Lib.hid (fun W (h : Below w.heap.size w W) => Txt.itoa_any x.t hx.1.1 hx.1.2 W (HLF.out W h))
  have HIM := Lib.hid (fun W (h : Below w.heap.size w W) => Txt.itoa_any x.m hx.2.1.1 hx.2.1.2 W (HLF.out W h))
  have HIS := Lib.hid (fun W (h : Below w.heap.size w W) => Txt.itoa_any x.s hx.2.2.1.1 hx.2.2.1.2 W (HLF.out W h))
  have HIV := Lib.hid (fun W (h : Below w.heap.size w W) => Txt.itoa_any x.v hx.2.2.2.1.1 hx.2.2.2.1.2 W (HLF.out W h))
  have HIC := Lib.hid (fun W (h : Below w.heap.size w W) => Txt.itoa_any x.c hx.2.2.2.2.1 hx.2.2.2.2.2 W (HLF.out W h))
  have HNA := Lib.hid (fun W => name_any x.k W)
  have HTL : Hid ((teT x vs).length ≤ 10000) := Lib.hid (te_len x vs hx (by have := HLN.out; omega))
  have HWL := Lib.hid (wdE_len x vs)
  have K0 : ∀ z : Kin W1.drew, z.world.cell? ⟨gb, 0, none⟩ = some (.int .i64 x.t) := fun z => Kin.at (w := W1.drew) (HOB.out.cell 0) z
  have K1 : ∀ z : Kin W1.drew, z.world.cell? ⟨gb, 1, none⟩ = some (.int .i64 x.m) := fun z => Kin.at (w := W1.drew) (HOB.out.cell 1) z
  have K2 : ∀ z : Kin W1.drew, z.world.cell? ⟨gb, 2, none⟩ = some (.int .i64 x.k) := fun z => Kin.at (w := W1.drew) (HOB.out.cell 2) z
  have K3 : ∀ z : Kin W1.drew, z.world.cell? ⟨gb, 3, none⟩ = some (.int .i64 x.s) := fun z => Kin.at (w := W1.drew) (HOB.out.cell 3) z
  have K4 : ∀ z : Kin W1.drew, z.world.cell? ⟨gb, 4, none⟩ = some (.int .i64 x.v) := fun z => Kin.at (w := W1.drew) (HOB.out.cell 4) z
  have K6 : ∀ z : Kin W1.drew, z.world.cell? ⟨gb, 6, none⟩ = some (.int .i64 x.c) := fun z => Kin.at (w := W1.drew) (HOB.out.cell 6) z
  have HKD : Hid (∀ z : Kin W1.drew, Below w.heap.size w z.world) := Lib.hid (fun z => HB1.out.trans (((bel_drew W1).trans z.below).mono HB1.out.size))
  clear hU hl hv hx
  go_enter Tryd.func30, Tryd.ntmps30
  go_upto_region 1 with (fail)
  rw [← HW1.out, HGB.out]
  clear HW1
  refine wp_region_specL 19 [.d (.pointer (some ⟨gb, 0, none⟩)), .d (.int .i64 x.t), .d (.string ⟨(Lib.itoa x.t).toArray⟩), .d (.pointer (some ⟨gb, 1, none⟩)), .d (.int .i64 x.m), .d (.string ⟨(Lib.itoa x.m).toArray⟩), .d (.pointer (some ⟨gb, 2, none⟩)), .d (.int .i64 x.k), .d (.string ⟨(nmT x.k).toArray⟩), .d (.pointer (some ⟨gb, 3, none⟩)), .d (.int .i64 x.s), .d (.string ⟨(Lib.itoa x.s).toArray⟩), .d (.pointer (some ⟨gb, 4, none⟩)), .d (.int .i64 x.v), .d (.string ⟨(Lib.itoa x.v).toArray⟩), .d (.pointer (some ⟨gb, 6, none⟩)), .d (.int .i64 x.c), .d (.string ⟨(Lib.itoa x.c).toArray⟩), .g (RowN w.heap.size 9 6 [stV (Lib.itoa x.t), stV (Lib.itoa x.m), stV (nmT x.k), stV (Lib.itoa x.s), stV (Lib.itoa x.v), stV (Lib.itoa x.c)])] (by kernel_rfl) (by kernel_rfl) ?_
  refine spec_d rfl (fun x _ => gives_run (by go_simp)) ?_
  try simp only [Act.put, List.getElem_toArray, List.getElem_cons_succ, List.getElem_cons_zero, List.setIfInBounds_toArray, List.set_cons_zero, List.set_cons_succ]
  refine spec_d rfl (fun x _ => gives_run (by go_simp)) ?_
  try simp only [Act.put, List.getElem_toArray, List.getElem_cons_succ, List.getElem_cons_zero, List.setIfInBounds_toArray, List.set_cons_zero, List.set_cons_succ]
  refine spec_d rfl (fun z _ => gives_det (by go_simp) (HIT.out z.world (HKD.out z))) ?_
  try simp only [Act.put, List.getElem_toArray, List.getElem_cons_succ, List.getElem_cons_zero, List.setIfInBounds_toArray, List.set_cons_zero, List.set_cons_succ]
  refine spec_d rfl (fun x _ => gives_run (by go_simp)) ?_
  try simp only [Act.put, List.getElem_toArray, List.getElem_cons_succ, List.getElem_cons_zero, List.setIfInBounds_toArray, List.set_cons_zero, List.set_cons_succ]
  refine spec_d rfl (fun x _ => gives_run (by go_simp)) ?_
  try simp only [Act.put, List.getElem_toArray, List.getElem_cons_succ, List.getElem_cons_zero, List.setIfInBounds_toArray, List.set_cons_zero, List.set_cons_succ]
  refine spec_d rfl (fun z _ => gives_det (by go_simp) (HIM.out z.world (HKD.out z))) ?_
  try simp only [Act.put, List.getElem_toArray, List.getElem_cons_succ, List.getElem_cons_zero, List.setIfInBounds_toArray, List.set_cons_zero, List.set_cons_succ]
  refine spec_d rfl (fun x _ => gives_run (by go_simp)) ?_
  try simp only [Act.put, List.getElem_toArray, List.getElem_cons_succ, List.getElem_cons_zero, List.setIfInBounds_toArray, List.set_cons_zero, List.set_cons_succ]
  refine spec_d rfl (fun x _ => gives_run (by go_simp)) ?_
  try simp only [Act.put, List.getElem_toArray, List.getElem_cons_succ, List.getElem_cons_zero, List.setIfInBounds_toArray, List.set_cons_zero, List.set_cons_succ]
  refine spec_d rfl (fun z _ => gives_det (by go_simp) (HNA.out z.world)) ?_
  try simp only [Act.put, List.getElem_toArray, List.getElem_cons_succ, List.getElem_cons_zero, List.setIfInBounds_toArray, List.set_cons_zero, List.set_cons_succ]
  refine spec_d rfl (fun x _ => gives_run (by go_simp)) ?_
  try simp only [Act.put, List.getElem_toArray, List.getElem_cons_succ, List.getElem_cons_zero, List.setIfInBounds_toArray, List.set_cons_zero, List.set_cons_succ]
  refine spec_d rfl (fun x _ => gives_run (by go_simp)) ?_
  try simp only [Act.put, List.getElem_toArray, List.getElem_cons_succ, List.getElem_cons_zero, List.setIfInBounds_toArray, List.set_cons_zero, List.set_cons_succ]
  refine spec_d rfl (fun z _ => gives_det (by go_simp) (HIS.out z.world (HKD.out z))) ?_
  try simp only [Act.put, List.getElem_toArray, List.getElem_cons_succ, List.getElem_cons_zero, List.setIfInBounds_toArray, List.set_cons_zero, List.set_cons_succ]
  refine spec_d rfl (fun x _ => gives_run (by go_simp)) ?_
  try simp only [Act.put, List.getElem_toArray, List.getElem_cons_succ, List.getElem_cons_zero, List.setIfInBounds_toArray, List.set_cons_zero, List.set_cons_succ]
  refine spec_d rfl (fun x _ => gives_run (by go_simp)) ?_
  try simp only [Act.put, List.getElem_toArray, List.getElem_cons_succ, List.getElem_cons_zero, List.setIfInBounds_toArray, List.set_cons_zero, List.set_cons_succ]
  refine spec_d rfl (fun z _ => gives_det (by go_simp) (HIV.out z.world (HKD.out z))) ?_
  try simp only [Act.put, List.getElem_toArray, List.getElem_cons_succ, List.getElem_cons_zero, List.setIfInBounds_toArray, List.set_cons_zero, List.set_cons_succ]
  refine spec_d rfl (fun x _ => gives_run (by go_simp)) ?_
  try simp only [Act.put, List.getElem_toArray, List.getElem_cons_succ, List.getElem_cons_zero, List.setIfInBounds_toArray, List.set_cons_zero, List.set_cons_succ]
  refine spec_d rfl (fun x _ => gives_run (by go_simp)) ?_
  try simp only [Act.put, List.getElem_toArray, List.getElem_cons_succ, List.getElem_cons_zero, List.setIfInBounds_toArray, List.set_cons_zero, List.set_cons_succ]
  refine spec_d rfl (fun z _ => gives_det (by go_simp) (HIC.out z.world (HKD.out z))) ?_
  try simp only [Act.put, List.getElem_toArray, List.getElem_cons_succ, List.getElem_cons_zero, List.setIfInBounds_toArray, List.set_cons_zero, List.set_cons_succ]
  refine spec_g (RowN.stable _ _ _ _) (RowN.ex (xs := [stV (Lib.itoa x.t), stV (Lib.itoa x.m), stV (nmT x.k), stV (Lib.itoa x.s), stV (Lib.itoa x.v), stV (Lib.itoa x.c)]) rfl HB1.out.size rfl) rfl (fun z _ => gives_ok (by first | (go_simp; done) | (go_simp; rfl)) (bel_new _ _) (RowN.new (xs := [stV (Lib.itoa x.t), stV (Lib.itoa x.m), stV (nmT x.k), stV (Lib.itoa x.s), stV (Lib.itoa x.v), stV (Lib.itoa x.c)]) (HKD.out z).size rfl)) ?_
  rintro v22 ⟨x22, h22⟩
  try simp only [Act.put, List.getElem_toArray, List.getElem_cons_succ, List.getElem_cons_zero, List.setIfInBounds_toArray, List.set_cons_zero, List.set_cons_succ]
  refine spec_end (fun z hz => ?_)
  have HR : Hid (z.world.ownsRow w.heap.size 9 1 v22 6 [stV (Lib.itoa x.t), stV (Lib.itoa x.m), stV (nmT x.k), stV (Lib.itoa x.s), stV (Lib.itoa x.v), stV (Lib.itoa x.c)]) := Lib.hid (hz _ (List.mem_singleton.2 rfl))
  clear hz
  change wpAny _ _ _ _ (0 + 1) _ _ _
  refine wpAny_ready (rs := [19]) (by kernel_rfl) (by simp) ?_
  refine AllReady.cons rfl (fun KK hK => ?_) AllReady.nil
  go_simp
  refine hK _ _ ?_
  clear hK KK
  try simp only [Act.put, List.getElem_toArray, List.getElem_cons_succ, List.getElem_cons_zero, List.setIfInBounds_toArray, List.set_cons_zero, List.set_cons_succ]
  refine wpAny_done (by kernel_rfl) ?_ _
  have HBZ := Lib.hid (HKD.out z)
  have HOZ := Lib.hid (HOB.out.kept ((bel_drew W1).trans z.below))
  clear K0 K1 K2 K3 K4 K6 HKD HIT HIM HIS HIV HIC HNA h22 x22
  generalize z.world = w2 at HBZ HOZ HR ⊢
  clear z
  have c7 : w2.cell? ⟨gb, 7, none⟩ = some (.slice x.A x.n x.d) := HOZ.out.cell 7
  by_cases h0 : 0 < x.n
  · have h0i : (0 : Int) < (x.n : Int) := by omega
    have HWD : Hid ((wdE x vs).map stV = [stV (Lib.itoa x.t), stV (Lib.itoa x.m), stV (nmT x.k), stV (Lib.itoa x.s), stV (Lib.itoa x.v), stV (Lib.itoa x.c)] ++ [stV (hxT vs)]) := Lib.hid (by unfold wdE; rw [if_pos (by have := HLN.out; omega)]; simp)
    have HHX := Lib.hid (hex_any x.A x.n x.d vs w2 (HL.out.kept HBZ.out) HV.out (by omega))
    go_wp2_with fail
    refine HHX.out.mono ?_
    rintro e' w3 ⟨rfl, hb3⟩
    have HB3 := Lib.hid (HBZ.out.trans (hb3.mono HBZ.out.size))
    have HR3 := Lib.hid ((own_kept HR.out hb3).alloc (.cells [stV (hxT vs)].toArray 9))
    have HSZ : Hid (w.heap.size ≤ w3.heap.size) := Lib.hid HB3.out.size
    clear hb3 c7 HR HHX
    go_wp2_with (at_builtin; refine pushS _ rfl (.tmp 27) (.tmp 31) 51 rfl w.heap.size 9 is (.string ByteArray.empty) 1 16 Tryd.underlying51 hi hz0 hz1 hz2 rfl (by decide) _ _ _ rfl HR3.out ⟨w3.heap.size, 0, none⟩ 1 1 [stV (hxT vs)] rfl rfl (cell_new w3 [stV (hxT vs)] 9) (by intro u hu; simp at hu; subst hu; rfl) (by unfold maxLen; omega) (by omega) (by have := HSZ.out; simp; omega) ?_; intro v6 w6 O6 B6 G6 K6)
    have HB6 : Hid (Below w.heap.size w w6) := Lib.hid ((HB3.out.alloc HSZ.out _).trans B6.out)
    have HO6 : Hid (w6.ownsRow w.heap.size 9 1 v6 7 ((wdE x vs).map stV)) := Lib.hid (by rw [HWD.out]; exact O6.out)
    clear O6 B6 G6 K6 HR3
    obtain ⟨RA, rc, rfl, hcap, hls⟩ := row_lst HO6.out
    have HJ := Lib.hid (Joi.join_any RA _ rc (wdE x vs) [32] w6 hls (by have := HWL.out; omega) hcap (by have := HTL.out; unfold teT at this; omega))
    clear hls hcap
    go_wp2_with fail
    refine HJ.out.mono ?_
    rintro e' w7 ⟨rfl, hb7⟩
    have HB7 := Lib.hid (HB6.out.trans (hb7.mono HB6.out.size))
    clear hb7
    go_wp2
    go_ret
    exact ⟨rfl, HB7.out⟩
  · have h0i : ¬ (0 : Int) < (x.n : Int) := by omega
    have HWD : Hid ((wdE x vs).map stV = [stV (Lib.itoa x.t), stV (Lib.itoa x.m), stV (nmT x.k), stV (Lib.itoa x.s), stV (Lib.itoa x.v), stV (Lib.itoa x.c)]) := Lib.hid (by unfold wdE; rw [if_neg (by have := HLN.out; omega)]; simp)
    rw [← HWD.out] at HR
    obtain ⟨RA, rc, rfl, hcap, hls⟩ := row_lst HR.out
    have HJ := Lib.hid (Joi.join_any RA _ rc (wdE x vs) [32] w2 hls (by have := HWL.out; omega) hcap (by have := HTL.out; unfold teT at this; omega))
    clear hls hcap
    go_wp2_with fail
    refine HJ.out.mono ?_
    rintro e' w7 ⟨rfl, hb7⟩
    have HB7 := Lib.hid (HBZ.out.trans (hb7.mono HBZ.out.size))
    clear hb7
    go_wp2
    go_ret
    exact ⟨rfl, HB7.out⟩
end Go.Proofs.YtanhblokhcaoiaaDoor.Tr
