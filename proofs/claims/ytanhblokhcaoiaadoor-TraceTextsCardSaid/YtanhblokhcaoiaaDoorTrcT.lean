/- TraceTexts' walk, given what 'one' answers; no condition but sizes. -/
import Derived.Test.YtanhblokhcaoiaaDoorTrcC
namespace Go.Proofs.YtanhblokhcaoiaaDoor.Tr
open Go.ChangeShapes Go.WideShapes Go.ChangeAt Go.RowKit Base
open Joi (stV)
open Hl (Ev TE nmH seven)
set_option linter.unusedVariables false
set_option linter.unusedSimpArgs false

theorem nm7 {w : World} {g : Nat} {T : TypeId} (h : Obj1 w g T #[.string ⟨#[115, 101, 110, 116]⟩, .string ⟨#[116, 111, 111, 107]⟩, .string ⟨#[109, 105, 115, 115, 101, 100]⟩, .string ⟨#[115, 121, 110, 99, 101, 100]⟩, .string ⟨#[108, 111, 115, 116]⟩, .string ⟨#[100, 105, 101, 100]⟩, .string ⟨#[116, 117, 114, 110, 101, 100]⟩]) {k : Nat} (hk : k < 7) : w.cell? ⟨g, k, none⟩ = some (.string ⟨(nmH k).toArray⟩) := by
  rw [h.cell]
  rcases seven hk with rfl | rfl | rfl | rfl | rfl | rfl | rfl <;> rfl
def lnE (x : Ev) (N : List UInt8) : List UInt8 := Lib.itoa x.t ++ [32] ++ Lib.itoa x.m ++ [32] ++ N ++ [32] ++ Lib.itoa x.s ++ [32] ++ Lib.itoa x.v ++ [32] ++ Lib.itoa x.c
theorem te_ln (x : Ev) (vs : List Nat) : teT x vs = if 0 < vs.length then lnE x (nmT x.k) ++ [32] ++ hxT vs else lnE x (nmT x.k) := by
  unfold teT wdE lnE
  split <;> simp [Lib.join_cons, Lib.joinTail]
set_option maxRecDepth 100000 in
set_option maxHeartbeats 4000000 in
theorem texts_any (x : Ev) (vs : List Nat) (w : World) (hU : Txt.Lf w) (hl : Lst w x.A x.n (vs.map fun (x : Nat) => Value.int .u8 x)) (hv : ∀ y ∈ vs, y < 256) (hx : I64 x.t ∧ I64 x.m ∧ I64 x.s ∧ I64 x.v ∧ I64 x.c) (hn64 : x.n ≤ 9223372036854775807)
    (hone : ∀ W, Below w.heap.size w W → Calls Tryd.prog 31 #[] W fun e' w' => e' = .returned (.bool true) ∧ Below W.heap.size W w') :
    Calls Tryd.prog 6 #[.agg #[.int .i64 x.t, .int .i64 x.m, .int .i64 x.k, .int .i64 x.s, .int .i64 x.v, .int .i64 x.si, .int .i64 x.c, .slice x.A x.n x.d]] w fun e' w' => e' = .returned (.bool true) ∧ Below w.heap.size w w' := by
  obtain ⟨gb, HGB⟩ : ∃ gb, Hid (w.heap.size = gb) := ⟨_, Lib.hid rfl⟩
  obtain ⟨W1, HW1⟩ : ∃ W1, Hid (W1 = w.alloc (.cells #[.int .i64 x.t, .int .i64 x.m, .int .i64 x.k, .int .i64 x.s, .int .i64 x.v, .int .i64 x.si, .int .i64 x.c, .slice x.A x.n x.d] TE)) := ⟨_, Lib.hid rfl⟩
  have HB1 : Hid (Below w.heap.size w W1) := Lib.hid (by rw [HW1.out]; exact bel_new _ _)
  have HOB : Hid (Obj1 W1 gb TE #[.int .i64 x.t, .int .i64 x.m, .int .i64 x.k, .int .i64 x.s, .int .i64 x.v, .int .i64 x.si, .int .i64 x.c, .slice x.A x.n x.d]) := Lib.hid (by rw [HW1.out, ← HGB.out]; exact Obj1.new _ _ _)
  have c7 : W1.cell? ⟨gb, 7, none⟩ = some (.slice x.A x.n x.d) := HOB.out.cell 7
  by_cases h100 : 100 < x.n
  · have h100i : (100 : Int) < (x.n : Int) := by omega
    go_enter Tryd.func6, Tryd.ntmps6
    go_upto_region 1 with (fail)
    rw [← HW1.out, HGB.out]
    clear HW1
    go_wp2
    go_ret
    exact ⟨rfl, HB1.out⟩
  have h100i : ¬ (100 : Int) < (x.n : Int) := by omega
  have HLN : Hid (vs.length = x.n) := Lib.hid (by have := hl.1; simpa using this)
  have HTX := Lib.hid (fun W (h : Below w.heap.size w W) => text_any x vs W (hU.kept h) (hl.kept h) hv (by omega) hx)
  have HRH := Lib.hid (fun W (h : Below w.heap.size w W) => rhex_any x.A x.n x.d vs W (hl.kept h) hv (by omega))
  have HNA := Lib.hid (fun W => name_any x.k W)
  have HON := Lib.hid hone
  have HTE := Lib.hid (te_ln x vs)
  have HT := Lib.hid (fun W => Txt.rDigits_any x.t hx.1.1 hx.1.2 W)
  have HM := Lib.hid (fun W => Txt.rDigits_any x.m hx.2.1.1 hx.2.1.2 W)
  have HS := Lib.hid (fun W => Txt.rDigits_any x.s hx.2.2.1.1 hx.2.2.1.2 W)
  have HV2 := Lib.hid (fun W => Txt.rDigits_any x.v hx.2.2.2.1.1 hx.2.2.2.1.2 W)
  have HC := Lib.hid (fun W => Txt.rDigits_any x.c hx.2.2.2.2.1 hx.2.2.2.2.2 W)
  have hl1 := Txt.itoa_len x.t hx.1.1 hx.1.2
  have hl2 := Txt.itoa_len x.m hx.2.1.1 hx.2.1.2
  have hl3 := Txt.itoa_len x.s hx.2.2.1.1 hx.2.2.1.2
  have hl4 := Txt.itoa_len x.v hx.2.2.2.1.1 hx.2.2.2.1.2
  have hl5 := Txt.itoa_len x.c hx.2.2.2.2.1 hx.2.2.2.2.2
  have hn1 := nmT_len x.k
  have HTLL : Hid ((lnE x (nmT x.k)).length ≤ 200) := Lib.hid (by unfold lnE; simp; omega)
  have q2 : W1.cell? ⟨gb, 2, none⟩ = some (.int .i64 x.k) := HOB.out.cell 2
  clear hU hl hv hx hone hn64 h100
  by_cases hk : 1 ≤ x.k ∧ x.k ≤ 7
  · obtain ⟨h1, h7⟩ := hk
    obtain ⟨i, hi⟩ : ∃ i : Nat, x.k = (i : Int) + 1 := ⟨(x.k - 1).toNat, by omega⟩
    have hi7 : i < 7 := by omega
    have hi7i : (i : Int) < 7 := by omega
    have hi0 : (0 : Int) ≤ (i : Int) := by omega
    have ew : IntKind.i64.wrap (x.k - 1) = (i : Int) := by rw [IntWalk.i64_in _ (by omega)]; omega
    have hnm : nmT x.k = nmH i := by unfold nmT; rw [if_pos ⟨h1, h7⟩, hi]; congr 1; omega
    rw [hnm] at HTE HTLL hn1
    unfold lnE at HTE HTLL
    obtain ⟨g2, HG2⟩ : ∃ g, Hid (W1.heap.size = g) := ⟨_, Lib.hid rfl⟩
    obtain ⟨W2, HW2⟩ : ∃ W2, Hid (W2 = W1.alloc (.cells #[.string ⟨#[115, 101, 110, 116]⟩, .string ⟨#[116, 111, 111, 107]⟩, .string ⟨#[109, 105, 115, 115, 101, 100]⟩, .string ⟨#[115, 121, 110, 99, 101, 100]⟩, .string ⟨#[108, 111, 115, 116]⟩, .string ⟨#[100, 105, 101, 100]⟩, .string ⟨#[116, 117, 114, 110, 101, 100]⟩] 9)) := ⟨_, Lib.hid rfl⟩
    have hb2 : Below W1.heap.size W1 W2 := by rw [HW2.out]; exact bel_new _ _
    have HB2 := Lib.hid (HB1.out.trans (hb2.mono HB1.out.size))
    have HO2 := Lib.hid (HOB.out.kept hb2)
    have r2 : W2.cell? ⟨gb, 2, none⟩ = some (.int .i64 x.k) := HO2.out.cell 2
    have r7 := nm7 (show Obj1 W2 g2 9 #[.string ⟨#[115, 101, 110, 116]⟩, .string ⟨#[116, 111, 111, 107]⟩, .string ⟨#[109, 105, 115, 115, 101, 100]⟩, .string ⟨#[115, 121, 110, 99, 101, 100]⟩, .string ⟨#[108, 111, 115, 116]⟩, .string ⟨#[100, 105, 101, 100]⟩, .string ⟨#[116, 117, 114, 110, 101, 100]⟩] by rw [HW2.out, ← HG2.out]; exact Obj1.new _ _ _) hi7
    clear hb2 hi
    go_enter Tryd.func6, Tryd.ntmps6
    go_upto_region 1 with (fail)
    rw [← HW1.out, HGB.out]
    clear HW1
    have r7' : (W1.alloc (.cells #[.string ⟨#[115, 101, 110, 116]⟩, .string ⟨#[116, 111, 111, 107]⟩, .string ⟨#[109, 105, 115, 115, 101, 100]⟩, .string ⟨#[115, 121, 110, 99, 101, 100]⟩, .string ⟨#[108, 111, 115, 116]⟩, .string ⟨#[100, 105, 101, 100]⟩, .string ⟨#[116, 117, 114, 110, 101, 100]⟩] 9)).cell? ⟨W1.heap.size, i, none⟩ = some (.string ⟨(nmH i).toArray⟩) := by rw [← HW2.out, HG2.out]; exact r7
    have r2' : (W1.alloc (.cells #[.string ⟨#[115, 101, 110, 116]⟩, .string ⟨#[116, 111, 111, 107]⟩, .string ⟨#[109, 105, 115, 115, 101, 100]⟩, .string ⟨#[115, 121, 110, 99, 101, 100]⟩, .string ⟨#[108, 111, 115, 116]⟩, .string ⟨#[100, 105, 101, 100]⟩, .string ⟨#[116, 117, 114, 110, 101, 100]⟩] 9)).cell? ⟨gb, 2, none⟩ = some (.int .i64 x.k) := by rw [← HW2.out]; exact r2
    go_upto_region 6 with (fail)
    rw [← HW2.out]
    clear r7' r2' r7 r2 HW2 HG2 q2 c7 ew
    have K0 : ∀ z : Kin W2.drew, z.world.cell? ⟨gb, 0, none⟩ = some (.int .i64 x.t) := fun z => Kin.at (w := W2.drew) (HO2.out.cell 0) z
    have K1 : ∀ z : Kin W2.drew, z.world.cell? ⟨gb, 1, none⟩ = some (.int .i64 x.m) := fun z => Kin.at (w := W2.drew) (HO2.out.cell 1) z
    have K3 : ∀ z : Kin W2.drew, z.world.cell? ⟨gb, 3, none⟩ = some (.int .i64 x.s) := fun z => Kin.at (w := W2.drew) (HO2.out.cell 3) z
    have K4 : ∀ z : Kin W2.drew, z.world.cell? ⟨gb, 4, none⟩ = some (.int .i64 x.v) := fun z => Kin.at (w := W2.drew) (HO2.out.cell 4) z
    have K6 : ∀ z : Kin W2.drew, z.world.cell? ⟨gb, 6, none⟩ = some (.int .i64 x.c) := fun z => Kin.at (w := W2.drew) (HO2.out.cell 6) z
    refine wp_region_specL 27 [.d (.pointer (some ⟨gb, 0, none⟩)), .d (.int .i64 x.t), .d (.string ⟨(Lib.itoa x.t).toArray⟩), .d (.string ⟨(Lib.itoa x.t ++ [32]).toArray⟩), .d (.pointer (some ⟨gb, 1, none⟩)), .d (.int .i64 x.m), .d (.string ⟨(Lib.itoa x.m).toArray⟩), .d (.string ⟨(Lib.itoa x.t ++ [32] ++ Lib.itoa x.m).toArray⟩), .d (.string ⟨(Lib.itoa x.t ++ [32] ++ Lib.itoa x.m ++ [32]).toArray⟩), .d (.string ⟨(nmH i).toArray⟩), .d (.string ⟨(Lib.itoa x.t ++ [32] ++ Lib.itoa x.m ++ [32] ++ nmH i).toArray⟩), .d (.string ⟨(Lib.itoa x.t ++ [32] ++ Lib.itoa x.m ++ [32] ++ nmH i ++ [32]).toArray⟩), .d (.pointer (some ⟨gb, 3, none⟩)), .d (.int .i64 x.s), .d (.string ⟨(Lib.itoa x.s).toArray⟩), .d (.string ⟨(Lib.itoa x.t ++ [32] ++ Lib.itoa x.m ++ [32] ++ nmH i ++ [32] ++ Lib.itoa x.s).toArray⟩), .d (.string ⟨(Lib.itoa x.t ++ [32] ++ Lib.itoa x.m ++ [32] ++ nmH i ++ [32] ++ Lib.itoa x.s ++ [32]).toArray⟩), .d (.pointer (some ⟨gb, 4, none⟩)), .d (.int .i64 x.v), .d (.string ⟨(Lib.itoa x.v).toArray⟩), .d (.string ⟨(Lib.itoa x.t ++ [32] ++ Lib.itoa x.m ++ [32] ++ nmH i ++ [32] ++ Lib.itoa x.s ++ [32] ++ Lib.itoa x.v).toArray⟩), .d (.string ⟨(Lib.itoa x.t ++ [32] ++ Lib.itoa x.m ++ [32] ++ nmH i ++ [32] ++ Lib.itoa x.s ++ [32] ++ Lib.itoa x.v ++ [32]).toArray⟩), .d (.pointer (some ⟨gb, 6, none⟩)), .d (.int .i64 x.c), .d (.string ⟨(Lib.itoa x.c).toArray⟩), .d (.string ⟨(Lib.itoa x.t ++ [32] ++ Lib.itoa x.m ++ [32] ++ nmH i ++ [32] ++ Lib.itoa x.s ++ [32] ++ Lib.itoa x.v ++ [32] ++ Lib.itoa x.c).toArray⟩), .d (.string ⟨(Lib.itoa x.t ++ [32] ++ Lib.itoa x.m ++ [32] ++ nmH i ++ [32] ++ Lib.itoa x.s ++ [32] ++ Lib.itoa x.v ++ [32] ++ Lib.itoa x.c).toArray⟩)] (by kernel_rfl) (by kernel_rfl) ?_
    refine spec_d rfl (fun x _ => gives_run (by go_simp)) ?_
    try simp only [Act.put, List.getElem_toArray, List.getElem_cons_succ, List.getElem_cons_zero, List.setIfInBounds_toArray, List.set_cons_zero, List.set_cons_succ]
    refine spec_d rfl (fun x _ => gives_run (by go_simp)) ?_
    try simp only [Act.put, List.getElem_toArray, List.getElem_cons_succ, List.getElem_cons_zero, List.setIfInBounds_toArray, List.set_cons_zero, List.set_cons_succ]
    refine spec_d rfl (fun z _ => gives_det (by go_simp) (HT.out z.world)) ?_
    try simp only [Act.put, List.getElem_toArray, List.getElem_cons_succ, List.getElem_cons_zero, List.setIfInBounds_toArray, List.set_cons_zero, List.set_cons_succ]
    refine spec_d rfl (fun z _ => Dg.gives_cat rfl rfl rfl (by (try simp only [List.length_append, List.length_cons, List.length_nil]); omega)) ?_
    try simp only [Act.put, List.getElem_toArray, List.getElem_cons_succ, List.getElem_cons_zero, List.setIfInBounds_toArray, List.set_cons_zero, List.set_cons_succ]
    refine spec_d rfl (fun x _ => gives_run (by go_simp)) ?_
    try simp only [Act.put, List.getElem_toArray, List.getElem_cons_succ, List.getElem_cons_zero, List.setIfInBounds_toArray, List.set_cons_zero, List.set_cons_succ]
    refine spec_d rfl (fun x _ => gives_run (by go_simp)) ?_
    try simp only [Act.put, List.getElem_toArray, List.getElem_cons_succ, List.getElem_cons_zero, List.setIfInBounds_toArray, List.set_cons_zero, List.set_cons_succ]
    refine spec_d rfl (fun z _ => gives_det (by go_simp) (HM.out z.world)) ?_
    try simp only [Act.put, List.getElem_toArray, List.getElem_cons_succ, List.getElem_cons_zero, List.setIfInBounds_toArray, List.set_cons_zero, List.set_cons_succ]
    refine spec_d rfl (fun z _ => Dg.gives_cat rfl rfl rfl (by (try simp only [List.length_append, List.length_cons, List.length_nil]); omega)) ?_
    try simp only [Act.put, List.getElem_toArray, List.getElem_cons_succ, List.getElem_cons_zero, List.setIfInBounds_toArray, List.set_cons_zero, List.set_cons_succ]
    refine spec_d rfl (fun z _ => Dg.gives_cat rfl rfl rfl (by (try simp only [List.length_append, List.length_cons, List.length_nil]); omega)) ?_
    try simp only [Act.put, List.getElem_toArray, List.getElem_cons_succ, List.getElem_cons_zero, List.setIfInBounds_toArray, List.set_cons_zero, List.set_cons_succ]
    refine spec_d rfl (fun x _ => gives_run (by go_simp)) ?_
    try simp only [Act.put, List.getElem_toArray, List.getElem_cons_succ, List.getElem_cons_zero, List.setIfInBounds_toArray, List.set_cons_zero, List.set_cons_succ]
    refine spec_d rfl (fun z _ => Dg.gives_cat rfl rfl rfl (by (try simp only [List.length_append, List.length_cons, List.length_nil]); omega)) ?_
    try simp only [Act.put, List.getElem_toArray, List.getElem_cons_succ, List.getElem_cons_zero, List.setIfInBounds_toArray, List.set_cons_zero, List.set_cons_succ]
    refine spec_d rfl (fun z _ => Dg.gives_cat rfl rfl rfl (by (try simp only [List.length_append, List.length_cons, List.length_nil]); omega)) ?_
    try simp only [Act.put, List.getElem_toArray, List.getElem_cons_succ, List.getElem_cons_zero, List.setIfInBounds_toArray, List.set_cons_zero, List.set_cons_succ]
    refine spec_d rfl (fun x _ => gives_run (by go_simp)) ?_
    try simp only [Act.put, List.getElem_toArray, List.getElem_cons_succ, List.getElem_cons_zero, List.setIfInBounds_toArray, List.set_cons_zero, List.set_cons_succ]
    refine spec_d rfl (fun x _ => gives_run (by go_simp)) ?_
    try simp only [Act.put, List.getElem_toArray, List.getElem_cons_succ, List.getElem_cons_zero, List.setIfInBounds_toArray, List.set_cons_zero, List.set_cons_succ]
    refine spec_d rfl (fun z _ => gives_det (by go_simp) (HS.out z.world)) ?_
    try simp only [Act.put, List.getElem_toArray, List.getElem_cons_succ, List.getElem_cons_zero, List.setIfInBounds_toArray, List.set_cons_zero, List.set_cons_succ]
    refine spec_d rfl (fun z _ => Dg.gives_cat rfl rfl rfl (by (try simp only [List.length_append, List.length_cons, List.length_nil]); omega)) ?_
    try simp only [Act.put, List.getElem_toArray, List.getElem_cons_succ, List.getElem_cons_zero, List.setIfInBounds_toArray, List.set_cons_zero, List.set_cons_succ]
    refine spec_d rfl (fun z _ => Dg.gives_cat rfl rfl rfl (by (try simp only [List.length_append, List.length_cons, List.length_nil]); omega)) ?_
    try simp only [Act.put, List.getElem_toArray, List.getElem_cons_succ, List.getElem_cons_zero, List.setIfInBounds_toArray, List.set_cons_zero, List.set_cons_succ]
    refine spec_d rfl (fun x _ => gives_run (by go_simp)) ?_
    try simp only [Act.put, List.getElem_toArray, List.getElem_cons_succ, List.getElem_cons_zero, List.setIfInBounds_toArray, List.set_cons_zero, List.set_cons_succ]
    refine spec_d rfl (fun x _ => gives_run (by go_simp)) ?_
    try simp only [Act.put, List.getElem_toArray, List.getElem_cons_succ, List.getElem_cons_zero, List.setIfInBounds_toArray, List.set_cons_zero, List.set_cons_succ]
    refine spec_d rfl (fun z _ => gives_det (by go_simp) (HV2.out z.world)) ?_
    try simp only [Act.put, List.getElem_toArray, List.getElem_cons_succ, List.getElem_cons_zero, List.setIfInBounds_toArray, List.set_cons_zero, List.set_cons_succ]
    refine spec_d rfl (fun z _ => Dg.gives_cat rfl rfl rfl (by (try simp only [List.length_append, List.length_cons, List.length_nil]); omega)) ?_
    try simp only [Act.put, List.getElem_toArray, List.getElem_cons_succ, List.getElem_cons_zero, List.setIfInBounds_toArray, List.set_cons_zero, List.set_cons_succ]
    refine spec_d rfl (fun z _ => Dg.gives_cat rfl rfl rfl (by (try simp only [List.length_append, List.length_cons, List.length_nil]); omega)) ?_
    try simp only [Act.put, List.getElem_toArray, List.getElem_cons_succ, List.getElem_cons_zero, List.setIfInBounds_toArray, List.set_cons_zero, List.set_cons_succ]
    refine spec_d rfl (fun x _ => gives_run (by go_simp)) ?_
    try simp only [Act.put, List.getElem_toArray, List.getElem_cons_succ, List.getElem_cons_zero, List.setIfInBounds_toArray, List.set_cons_zero, List.set_cons_succ]
    refine spec_d rfl (fun x _ => gives_run (by go_simp)) ?_
    try simp only [Act.put, List.getElem_toArray, List.getElem_cons_succ, List.getElem_cons_zero, List.setIfInBounds_toArray, List.set_cons_zero, List.set_cons_succ]
    refine spec_d rfl (fun z _ => gives_det (by go_simp) (HC.out z.world)) ?_
    try simp only [Act.put, List.getElem_toArray, List.getElem_cons_succ, List.getElem_cons_zero, List.setIfInBounds_toArray, List.set_cons_zero, List.set_cons_succ]
    refine spec_d rfl (fun z _ => Dg.gives_cat rfl rfl rfl (by (try simp only [List.length_append, List.length_cons, List.length_nil]); omega)) ?_
    try simp only [Act.put, List.getElem_toArray, List.getElem_cons_succ, List.getElem_cons_zero, List.setIfInBounds_toArray, List.set_cons_zero, List.set_cons_succ]
    refine spec_d rfl (fun x _ => gives_run (by go_simp)) ?_
    try simp only [Act.put, List.getElem_toArray, List.getElem_cons_succ, List.getElem_cons_zero, List.setIfInBounds_toArray, List.set_cons_zero, List.set_cons_succ]
    refine spec_end (fun z hz => ?_)
    clear hz
    refine wpAny_done (by kernel_rfl) ?_ _
    have HBZ := Lib.hid (HB2.out.trans (((bel_drew W2).trans z.below).mono HB2.out.size))
    have HOZ := Lib.hid (HO2.out.kept ((bel_drew W2).trans z.below))
    clear K0 K1 K3 K4 K6 HT HM HS HV2 HC hn1 hl1 hl2 hl3 hl4 hl5
    generalize z.world = w5 at HBZ HOZ ⊢
    clear z
    obtain ⟨T, HTQ⟩ : ∃ T, Hid (Lib.itoa x.t ++ [32] ++ Lib.itoa x.m ++ [32] ++ nmH i ++ [32] ++ Lib.itoa x.s ++ [32] ++ Lib.itoa x.v ++ [32] ++ Lib.itoa x.c = T) := ⟨_, Lib.hid rfl⟩
    rw [HTQ.out] at HTE HTLL ⊢
    have HOW := Lib.hid (HOZ.out.cell 2)
    have y2 : w5.cell? ⟨gb, 2, none⟩ = some (.int .i64 x.k) := HOZ.out.cell 2
    have y7 : w5.cell? ⟨gb, 7, none⟩ = some (.slice x.A x.n x.d) := HOZ.out.cell 7
    have htl := HTLL.out
    have hxl : (hxT vs).length ≤ 200 := by rw [hxT_len, HLN.out]; omega
    rw [hnm] at HNA
    have HOC := HON
    by_cases h0 : 0 < x.n
    · have h0i : (0 : Int) < (x.n : Int) := by omega
      have HSQ : Hid (teT x vs = T ++ [32] ++ hxT vs) := Lib.hid (by rw [HTE.out, if_pos (by have := HLN.out; omega)])
      go_wp2_with fail
      all_goals first | (exfalso; simp at *; omega) | skip
      refine (HRH.out _ HBZ.out).mono ?_
      rintro e' w6 ⟨rfl, hb6⟩
      have HB6 := Lib.hid (HBZ.out.trans (hb6.mono HBZ.out.size))
      have HO6 := Lib.hid (HOZ.out.kept hb6)
      clear hb6 y2 y7 HRH
      go_upto_region 9 with (fail)
      all_goals first | (exfalso; simp at *; omega) | skip
      rw [Txt.str_app T [32], Txt.str_app, ← HSQ.out]
      have y2 : w6.cell? ⟨gb, 2, none⟩ = some (.int .i64 x.k) := HO6.out.cell 2
      go_wp2_with fail
      refine (HNA.out _).mono ?_
      rintro e' w7 ⟨rfl, hb7⟩
      have HB7 := Lib.hid (HB6.out.trans (hb7.mono HB6.out.size))
      have HO7 := Lib.hid (HO6.out.kept hb7)
      clear hb7 y2
      have y0 : w7.cell? ⟨gb, 0, none⟩ = some (.int .i64 x.t) := HO7.out.cell 0
      have y1 : w7.cell? ⟨gb, 1, none⟩ = some (.int .i64 x.m) := HO7.out.cell 1
      have y2 : w7.cell? ⟨gb, 2, none⟩ = some (.int .i64 x.k) := HO7.out.cell 2
      have y3 : w7.cell? ⟨gb, 3, none⟩ = some (.int .i64 x.s) := HO7.out.cell 3
      have y4 : w7.cell? ⟨gb, 4, none⟩ = some (.int .i64 x.v) := HO7.out.cell 4
      have y5 : w7.cell? ⟨gb, 5, none⟩ = some (.int .i64 x.si) := HO7.out.cell 5
      have y6 : w7.cell? ⟨gb, 6, none⟩ = some (.int .i64 x.c) := HO7.out.cell 6
      have y7 : w7.cell? ⟨gb, 7, none⟩ = some (.slice x.A x.n x.d) := HO7.out.cell 7
      go_wp2_with fail
      refine (HTX.out _ HB7.out).mono ?_
      rintro e' w8 ⟨rfl, hb8⟩
      have HB8 := Lib.hid (HB7.out.trans (hb8.mono HB7.out.size))
      clear hb8 y0 y1 y2 y3 y4 y5 y6 y7
      go_wp2_with fail
      refine (HON.out _ HB8.out).mono ?_
      rintro e' w9 ⟨rfl, hb9⟩
      have HB9 := Lib.hid (HB8.out.trans (hb9.mono HB8.out.size))
      clear hb9
      go_wp2
      go_ret
      exact ⟨rfl, HB9.out⟩
    · have h0i : ¬ (0 : Int) < (x.n : Int) := by omega
      have HSQ : Hid (teT x vs = T) := Lib.hid (by rw [HTE.out, if_neg (by have := HLN.out; omega)])
      go_upto_region 9 with (fail)
      rw [← HSQ.out]
      clear y2 y7
      have y2 : w5.cell? ⟨gb, 2, none⟩ = some (.int .i64 x.k) := HOZ.out.cell 2
      go_wp2_with fail
      refine (HNA.out _).mono ?_
      rintro e' w7 ⟨rfl, hb7⟩
      have HB7 := Lib.hid (HBZ.out.trans (hb7.mono HBZ.out.size))
      have HO7 := Lib.hid (HOZ.out.kept hb7)
      clear hb7 y2
      have y0 : w7.cell? ⟨gb, 0, none⟩ = some (.int .i64 x.t) := HO7.out.cell 0
      have y1 : w7.cell? ⟨gb, 1, none⟩ = some (.int .i64 x.m) := HO7.out.cell 1
      have y2 : w7.cell? ⟨gb, 2, none⟩ = some (.int .i64 x.k) := HO7.out.cell 2
      have y3 : w7.cell? ⟨gb, 3, none⟩ = some (.int .i64 x.s) := HO7.out.cell 3
      have y4 : w7.cell? ⟨gb, 4, none⟩ = some (.int .i64 x.v) := HO7.out.cell 4
      have y5 : w7.cell? ⟨gb, 5, none⟩ = some (.int .i64 x.si) := HO7.out.cell 5
      have y6 : w7.cell? ⟨gb, 6, none⟩ = some (.int .i64 x.c) := HO7.out.cell 6
      have y7 : w7.cell? ⟨gb, 7, none⟩ = some (.slice x.A x.n x.d) := HO7.out.cell 7
      go_wp2_with fail
      refine (HTX.out _ HB7.out).mono ?_
      rintro e' w8 ⟨rfl, hb8⟩
      have HB8 := Lib.hid (HB7.out.trans (hb8.mono HB7.out.size))
      clear hb8 y0 y1 y2 y3 y4 y5 y6 y7
      go_wp2_with fail
      refine (HON.out _ HB8.out).mono ?_
      rintro e' w9 ⟨rfl, hb9⟩
      have HB9 := Lib.hid (HB8.out.trans (hb9.mono HB8.out.size))
      clear hb9
      go_wp2
      go_ret
      exact ⟨rfl, HB9.out⟩
  · have hnm : nmT x.k = [] := by unfold nmT; rw [if_neg hk]
    rw [hnm] at HTE HTLL hn1
    unfold lnE at HTE HTLL
    rcases (show ¬ 1 ≤ x.k ∨ (1 ≤ x.k ∧ ¬ x.k ≤ 7) by omega) with h1 | ⟨h1, h7⟩
    · go_enter Tryd.func6, Tryd.ntmps6
      go_upto_region 1 with (fail)
      rw [← HW1.out, HGB.out]
      clear HW1
      have K0 : ∀ z : Kin W1.drew, z.world.cell? ⟨gb, 0, none⟩ = some (.int .i64 x.t) := fun z => Kin.at (w := W1.drew) (HOB.out.cell 0) z
      have K1 : ∀ z : Kin W1.drew, z.world.cell? ⟨gb, 1, none⟩ = some (.int .i64 x.m) := fun z => Kin.at (w := W1.drew) (HOB.out.cell 1) z
      have K3 : ∀ z : Kin W1.drew, z.world.cell? ⟨gb, 3, none⟩ = some (.int .i64 x.s) := fun z => Kin.at (w := W1.drew) (HOB.out.cell 3) z
      have K4 : ∀ z : Kin W1.drew, z.world.cell? ⟨gb, 4, none⟩ = some (.int .i64 x.v) := fun z => Kin.at (w := W1.drew) (HOB.out.cell 4) z
      have K6 : ∀ z : Kin W1.drew, z.world.cell? ⟨gb, 6, none⟩ = some (.int .i64 x.c) := fun z => Kin.at (w := W1.drew) (HOB.out.cell 6) z
      go_upto_region 6 with (fail)
      refine wp_region_specL 27 [.d (.pointer (some ⟨gb, 0, none⟩)), .d (.int .i64 x.t), .d (.string ⟨(Lib.itoa x.t).toArray⟩), .d (.string ⟨(Lib.itoa x.t ++ [32]).toArray⟩), .d (.pointer (some ⟨gb, 1, none⟩)), .d (.int .i64 x.m), .d (.string ⟨(Lib.itoa x.m).toArray⟩), .d (.string ⟨(Lib.itoa x.t ++ [32] ++ Lib.itoa x.m).toArray⟩), .d (.string ⟨(Lib.itoa x.t ++ [32] ++ Lib.itoa x.m ++ [32]).toArray⟩), .d (.string ⟨(([] : List UInt8)).toArray⟩), .d (.string ⟨(Lib.itoa x.t ++ [32] ++ Lib.itoa x.m ++ [32] ++ ([] : List UInt8)).toArray⟩), .d (.string ⟨(Lib.itoa x.t ++ [32] ++ Lib.itoa x.m ++ [32] ++ ([] : List UInt8) ++ [32]).toArray⟩), .d (.pointer (some ⟨gb, 3, none⟩)), .d (.int .i64 x.s), .d (.string ⟨(Lib.itoa x.s).toArray⟩), .d (.string ⟨(Lib.itoa x.t ++ [32] ++ Lib.itoa x.m ++ [32] ++ ([] : List UInt8) ++ [32] ++ Lib.itoa x.s).toArray⟩), .d (.string ⟨(Lib.itoa x.t ++ [32] ++ Lib.itoa x.m ++ [32] ++ ([] : List UInt8) ++ [32] ++ Lib.itoa x.s ++ [32]).toArray⟩), .d (.pointer (some ⟨gb, 4, none⟩)), .d (.int .i64 x.v), .d (.string ⟨(Lib.itoa x.v).toArray⟩), .d (.string ⟨(Lib.itoa x.t ++ [32] ++ Lib.itoa x.m ++ [32] ++ ([] : List UInt8) ++ [32] ++ Lib.itoa x.s ++ [32] ++ Lib.itoa x.v).toArray⟩), .d (.string ⟨(Lib.itoa x.t ++ [32] ++ Lib.itoa x.m ++ [32] ++ ([] : List UInt8) ++ [32] ++ Lib.itoa x.s ++ [32] ++ Lib.itoa x.v ++ [32]).toArray⟩), .d (.pointer (some ⟨gb, 6, none⟩)), .d (.int .i64 x.c), .d (.string ⟨(Lib.itoa x.c).toArray⟩), .d (.string ⟨(Lib.itoa x.t ++ [32] ++ Lib.itoa x.m ++ [32] ++ ([] : List UInt8) ++ [32] ++ Lib.itoa x.s ++ [32] ++ Lib.itoa x.v ++ [32] ++ Lib.itoa x.c).toArray⟩), .d (.string ⟨(Lib.itoa x.t ++ [32] ++ Lib.itoa x.m ++ [32] ++ ([] : List UInt8) ++ [32] ++ Lib.itoa x.s ++ [32] ++ Lib.itoa x.v ++ [32] ++ Lib.itoa x.c).toArray⟩)] (by kernel_rfl) (by kernel_rfl) ?_
      refine spec_d rfl (fun x _ => gives_run (by go_simp)) ?_
      try simp only [Act.put, List.getElem_toArray, List.getElem_cons_succ, List.getElem_cons_zero, List.setIfInBounds_toArray, List.set_cons_zero, List.set_cons_succ]
      refine spec_d rfl (fun x _ => gives_run (by go_simp)) ?_
      try simp only [Act.put, List.getElem_toArray, List.getElem_cons_succ, List.getElem_cons_zero, List.setIfInBounds_toArray, List.set_cons_zero, List.set_cons_succ]
      refine spec_d rfl (fun z _ => gives_det (by go_simp) (HT.out z.world)) ?_
      try simp only [Act.put, List.getElem_toArray, List.getElem_cons_succ, List.getElem_cons_zero, List.setIfInBounds_toArray, List.set_cons_zero, List.set_cons_succ]
      refine spec_d rfl (fun z _ => Dg.gives_cat rfl rfl rfl (by (try simp only [List.length_append, List.length_cons, List.length_nil]); omega)) ?_
      try simp only [Act.put, List.getElem_toArray, List.getElem_cons_succ, List.getElem_cons_zero, List.setIfInBounds_toArray, List.set_cons_zero, List.set_cons_succ]
      refine spec_d rfl (fun x _ => gives_run (by go_simp)) ?_
      try simp only [Act.put, List.getElem_toArray, List.getElem_cons_succ, List.getElem_cons_zero, List.setIfInBounds_toArray, List.set_cons_zero, List.set_cons_succ]
      refine spec_d rfl (fun x _ => gives_run (by go_simp)) ?_
      try simp only [Act.put, List.getElem_toArray, List.getElem_cons_succ, List.getElem_cons_zero, List.setIfInBounds_toArray, List.set_cons_zero, List.set_cons_succ]
      refine spec_d rfl (fun z _ => gives_det (by go_simp) (HM.out z.world)) ?_
      try simp only [Act.put, List.getElem_toArray, List.getElem_cons_succ, List.getElem_cons_zero, List.setIfInBounds_toArray, List.set_cons_zero, List.set_cons_succ]
      refine spec_d rfl (fun z _ => Dg.gives_cat rfl rfl rfl (by (try simp only [List.length_append, List.length_cons, List.length_nil]); omega)) ?_
      try simp only [Act.put, List.getElem_toArray, List.getElem_cons_succ, List.getElem_cons_zero, List.setIfInBounds_toArray, List.set_cons_zero, List.set_cons_succ]
      refine spec_d rfl (fun z _ => Dg.gives_cat rfl rfl rfl (by (try simp only [List.length_append, List.length_cons, List.length_nil]); omega)) ?_
      try simp only [Act.put, List.getElem_toArray, List.getElem_cons_succ, List.getElem_cons_zero, List.setIfInBounds_toArray, List.set_cons_zero, List.set_cons_succ]
      refine spec_d rfl (fun x _ => gives_run (by go_simp)) ?_
      try simp only [Act.put, List.getElem_toArray, List.getElem_cons_succ, List.getElem_cons_zero, List.setIfInBounds_toArray, List.set_cons_zero, List.set_cons_succ]
      refine spec_d rfl (fun z _ => Dg.gives_cat rfl rfl rfl (by (try simp only [List.length_append, List.length_cons, List.length_nil]); omega)) ?_
      try simp only [Act.put, List.getElem_toArray, List.getElem_cons_succ, List.getElem_cons_zero, List.setIfInBounds_toArray, List.set_cons_zero, List.set_cons_succ]
      refine spec_d rfl (fun z _ => Dg.gives_cat rfl rfl rfl (by (try simp only [List.length_append, List.length_cons, List.length_nil]); omega)) ?_
      try simp only [Act.put, List.getElem_toArray, List.getElem_cons_succ, List.getElem_cons_zero, List.setIfInBounds_toArray, List.set_cons_zero, List.set_cons_succ]
      refine spec_d rfl (fun x _ => gives_run (by go_simp)) ?_
      try simp only [Act.put, List.getElem_toArray, List.getElem_cons_succ, List.getElem_cons_zero, List.setIfInBounds_toArray, List.set_cons_zero, List.set_cons_succ]
      refine spec_d rfl (fun x _ => gives_run (by go_simp)) ?_
      try simp only [Act.put, List.getElem_toArray, List.getElem_cons_succ, List.getElem_cons_zero, List.setIfInBounds_toArray, List.set_cons_zero, List.set_cons_succ]
      refine spec_d rfl (fun z _ => gives_det (by go_simp) (HS.out z.world)) ?_
      try simp only [Act.put, List.getElem_toArray, List.getElem_cons_succ, List.getElem_cons_zero, List.setIfInBounds_toArray, List.set_cons_zero, List.set_cons_succ]
      refine spec_d rfl (fun z _ => Dg.gives_cat rfl rfl rfl (by (try simp only [List.length_append, List.length_cons, List.length_nil]); omega)) ?_
      try simp only [Act.put, List.getElem_toArray, List.getElem_cons_succ, List.getElem_cons_zero, List.setIfInBounds_toArray, List.set_cons_zero, List.set_cons_succ]
      refine spec_d rfl (fun z _ => Dg.gives_cat rfl rfl rfl (by (try simp only [List.length_append, List.length_cons, List.length_nil]); omega)) ?_
      try simp only [Act.put, List.getElem_toArray, List.getElem_cons_succ, List.getElem_cons_zero, List.setIfInBounds_toArray, List.set_cons_zero, List.set_cons_succ]
      refine spec_d rfl (fun x _ => gives_run (by go_simp)) ?_
      try simp only [Act.put, List.getElem_toArray, List.getElem_cons_succ, List.getElem_cons_zero, List.setIfInBounds_toArray, List.set_cons_zero, List.set_cons_succ]
      refine spec_d rfl (fun x _ => gives_run (by go_simp)) ?_
      try simp only [Act.put, List.getElem_toArray, List.getElem_cons_succ, List.getElem_cons_zero, List.setIfInBounds_toArray, List.set_cons_zero, List.set_cons_succ]
      refine spec_d rfl (fun z _ => gives_det (by go_simp) (HV2.out z.world)) ?_
      try simp only [Act.put, List.getElem_toArray, List.getElem_cons_succ, List.getElem_cons_zero, List.setIfInBounds_toArray, List.set_cons_zero, List.set_cons_succ]
      refine spec_d rfl (fun z _ => Dg.gives_cat rfl rfl rfl (by (try simp only [List.length_append, List.length_cons, List.length_nil]); omega)) ?_
      try simp only [Act.put, List.getElem_toArray, List.getElem_cons_succ, List.getElem_cons_zero, List.setIfInBounds_toArray, List.set_cons_zero, List.set_cons_succ]
      refine spec_d rfl (fun z _ => Dg.gives_cat rfl rfl rfl (by (try simp only [List.length_append, List.length_cons, List.length_nil]); omega)) ?_
      try simp only [Act.put, List.getElem_toArray, List.getElem_cons_succ, List.getElem_cons_zero, List.setIfInBounds_toArray, List.set_cons_zero, List.set_cons_succ]
      refine spec_d rfl (fun x _ => gives_run (by go_simp)) ?_
      try simp only [Act.put, List.getElem_toArray, List.getElem_cons_succ, List.getElem_cons_zero, List.setIfInBounds_toArray, List.set_cons_zero, List.set_cons_succ]
      refine spec_d rfl (fun x _ => gives_run (by go_simp)) ?_
      try simp only [Act.put, List.getElem_toArray, List.getElem_cons_succ, List.getElem_cons_zero, List.setIfInBounds_toArray, List.set_cons_zero, List.set_cons_succ]
      refine spec_d rfl (fun z _ => gives_det (by go_simp) (HC.out z.world)) ?_
      try simp only [Act.put, List.getElem_toArray, List.getElem_cons_succ, List.getElem_cons_zero, List.setIfInBounds_toArray, List.set_cons_zero, List.set_cons_succ]
      refine spec_d rfl (fun z _ => Dg.gives_cat rfl rfl rfl (by (try simp only [List.length_append, List.length_cons, List.length_nil]); omega)) ?_
      try simp only [Act.put, List.getElem_toArray, List.getElem_cons_succ, List.getElem_cons_zero, List.setIfInBounds_toArray, List.set_cons_zero, List.set_cons_succ]
      refine spec_d rfl (fun x _ => gives_run (by go_simp)) ?_
      try simp only [Act.put, List.getElem_toArray, List.getElem_cons_succ, List.getElem_cons_zero, List.setIfInBounds_toArray, List.set_cons_zero, List.set_cons_succ]
      refine spec_end (fun z hz => ?_)
      clear hz
      refine wpAny_done (by kernel_rfl) ?_ _
      have HBZ := Lib.hid (HB1.out.trans (((bel_drew W1).trans z.below).mono HB1.out.size))
      have HOZ := Lib.hid (HOB.out.kept ((bel_drew W1).trans z.below))
      clear K0 K1 K3 K4 K6 HT HM HS HV2 HC hn1 hl1 hl2 hl3 hl4 hl5
      generalize z.world = w5 at HBZ HOZ ⊢
      clear z
      obtain ⟨T, HTQ⟩ : ∃ T, Hid (Lib.itoa x.t ++ [32] ++ Lib.itoa x.m ++ [32] ++ ([] : List UInt8) ++ [32] ++ Lib.itoa x.s ++ [32] ++ Lib.itoa x.v ++ [32] ++ Lib.itoa x.c = T) := ⟨_, Lib.hid rfl⟩
      rw [HTQ.out] at HTE HTLL ⊢
      have HOW := Lib.hid (HOZ.out.cell 2)
      have y2 : w5.cell? ⟨gb, 2, none⟩ = some (.int .i64 x.k) := HOZ.out.cell 2
      have y7 : w5.cell? ⟨gb, 7, none⟩ = some (.slice x.A x.n x.d) := HOZ.out.cell 7
      have htl := HTLL.out
      have hxl : (hxT vs).length ≤ 200 := by rw [hxT_len, HLN.out]; omega
      rw [hnm] at HNA
      have HOC := HON
      by_cases h0 : 0 < x.n
      · have h0i : (0 : Int) < (x.n : Int) := by omega
        have HSQ : Hid (teT x vs = T ++ [32] ++ hxT vs) := Lib.hid (by rw [HTE.out, if_pos (by have := HLN.out; omega)])
        go_wp2_with fail
        all_goals first | (exfalso; simp at *; omega) | skip
        refine (HRH.out _ HBZ.out).mono ?_
        rintro e' w6 ⟨rfl, hb6⟩
        have HB6 := Lib.hid (HBZ.out.trans (hb6.mono HBZ.out.size))
        have HO6 := Lib.hid (HOZ.out.kept hb6)
        clear hb6 y2 y7 HRH
        go_upto_region 9 with (fail)
        all_goals first | (exfalso; simp at *; omega) | skip
        rw [Txt.str_app T [32], Txt.str_app, ← HSQ.out]
        have y2 : w6.cell? ⟨gb, 2, none⟩ = some (.int .i64 x.k) := HO6.out.cell 2
        go_wp2_with fail
        refine (HNA.out _).mono ?_
        rintro e' w7 ⟨rfl, hb7⟩
        have HB7 := Lib.hid (HB6.out.trans (hb7.mono HB6.out.size))
        have HO7 := Lib.hid (HO6.out.kept hb7)
        clear hb7 y2
        have y0 : w7.cell? ⟨gb, 0, none⟩ = some (.int .i64 x.t) := HO7.out.cell 0
        have y1 : w7.cell? ⟨gb, 1, none⟩ = some (.int .i64 x.m) := HO7.out.cell 1
        have y2 : w7.cell? ⟨gb, 2, none⟩ = some (.int .i64 x.k) := HO7.out.cell 2
        have y3 : w7.cell? ⟨gb, 3, none⟩ = some (.int .i64 x.s) := HO7.out.cell 3
        have y4 : w7.cell? ⟨gb, 4, none⟩ = some (.int .i64 x.v) := HO7.out.cell 4
        have y5 : w7.cell? ⟨gb, 5, none⟩ = some (.int .i64 x.si) := HO7.out.cell 5
        have y6 : w7.cell? ⟨gb, 6, none⟩ = some (.int .i64 x.c) := HO7.out.cell 6
        have y7 : w7.cell? ⟨gb, 7, none⟩ = some (.slice x.A x.n x.d) := HO7.out.cell 7
        go_wp2_with fail
        refine (HTX.out _ HB7.out).mono ?_
        rintro e' w8 ⟨rfl, hb8⟩
        have HB8 := Lib.hid (HB7.out.trans (hb8.mono HB7.out.size))
        clear hb8 y0 y1 y2 y3 y4 y5 y6 y7
        go_wp2_with fail
        refine (HON.out _ HB8.out).mono ?_
        rintro e' w9 ⟨rfl, hb9⟩
        have HB9 := Lib.hid (HB8.out.trans (hb9.mono HB8.out.size))
        clear hb9
        go_wp2
        go_ret
        exact ⟨rfl, HB9.out⟩
      · have h0i : ¬ (0 : Int) < (x.n : Int) := by omega
        have HSQ : Hid (teT x vs = T) := Lib.hid (by rw [HTE.out, if_neg (by have := HLN.out; omega)])
        go_upto_region 9 with (fail)
        rw [← HSQ.out]
        clear y2 y7
        have y2 : w5.cell? ⟨gb, 2, none⟩ = some (.int .i64 x.k) := HOZ.out.cell 2
        go_wp2_with fail
        refine (HNA.out _).mono ?_
        rintro e' w7 ⟨rfl, hb7⟩
        have HB7 := Lib.hid (HBZ.out.trans (hb7.mono HBZ.out.size))
        have HO7 := Lib.hid (HOZ.out.kept hb7)
        clear hb7 y2
        have y0 : w7.cell? ⟨gb, 0, none⟩ = some (.int .i64 x.t) := HO7.out.cell 0
        have y1 : w7.cell? ⟨gb, 1, none⟩ = some (.int .i64 x.m) := HO7.out.cell 1
        have y2 : w7.cell? ⟨gb, 2, none⟩ = some (.int .i64 x.k) := HO7.out.cell 2
        have y3 : w7.cell? ⟨gb, 3, none⟩ = some (.int .i64 x.s) := HO7.out.cell 3
        have y4 : w7.cell? ⟨gb, 4, none⟩ = some (.int .i64 x.v) := HO7.out.cell 4
        have y5 : w7.cell? ⟨gb, 5, none⟩ = some (.int .i64 x.si) := HO7.out.cell 5
        have y6 : w7.cell? ⟨gb, 6, none⟩ = some (.int .i64 x.c) := HO7.out.cell 6
        have y7 : w7.cell? ⟨gb, 7, none⟩ = some (.slice x.A x.n x.d) := HO7.out.cell 7
        go_wp2_with fail
        refine (HTX.out _ HB7.out).mono ?_
        rintro e' w8 ⟨rfl, hb8⟩
        have HB8 := Lib.hid (HB7.out.trans (hb8.mono HB7.out.size))
        clear hb8 y0 y1 y2 y3 y4 y5 y6 y7
        go_wp2_with fail
        refine (HON.out _ HB8.out).mono ?_
        rintro e' w9 ⟨rfl, hb9⟩
        have HB9 := Lib.hid (HB8.out.trans (hb9.mono HB8.out.size))
        clear hb9
        go_wp2
        go_ret
        exact ⟨rfl, HB9.out⟩
    · go_enter Tryd.func6, Tryd.ntmps6
      go_upto_region 1 with (fail)
      rw [← HW1.out, HGB.out]
      clear HW1
      have K0 : ∀ z : Kin W1.drew, z.world.cell? ⟨gb, 0, none⟩ = some (.int .i64 x.t) := fun z => Kin.at (w := W1.drew) (HOB.out.cell 0) z
      have K1 : ∀ z : Kin W1.drew, z.world.cell? ⟨gb, 1, none⟩ = some (.int .i64 x.m) := fun z => Kin.at (w := W1.drew) (HOB.out.cell 1) z
      have K3 : ∀ z : Kin W1.drew, z.world.cell? ⟨gb, 3, none⟩ = some (.int .i64 x.s) := fun z => Kin.at (w := W1.drew) (HOB.out.cell 3) z
      have K4 : ∀ z : Kin W1.drew, z.world.cell? ⟨gb, 4, none⟩ = some (.int .i64 x.v) := fun z => Kin.at (w := W1.drew) (HOB.out.cell 4) z
      have K6 : ∀ z : Kin W1.drew, z.world.cell? ⟨gb, 6, none⟩ = some (.int .i64 x.c) := fun z => Kin.at (w := W1.drew) (HOB.out.cell 6) z
      go_upto_region 6 with (fail)
      refine wp_region_specL 27 [.d (.pointer (some ⟨gb, 0, none⟩)), .d (.int .i64 x.t), .d (.string ⟨(Lib.itoa x.t).toArray⟩), .d (.string ⟨(Lib.itoa x.t ++ [32]).toArray⟩), .d (.pointer (some ⟨gb, 1, none⟩)), .d (.int .i64 x.m), .d (.string ⟨(Lib.itoa x.m).toArray⟩), .d (.string ⟨(Lib.itoa x.t ++ [32] ++ Lib.itoa x.m).toArray⟩), .d (.string ⟨(Lib.itoa x.t ++ [32] ++ Lib.itoa x.m ++ [32]).toArray⟩), .d (.string ⟨(([] : List UInt8)).toArray⟩), .d (.string ⟨(Lib.itoa x.t ++ [32] ++ Lib.itoa x.m ++ [32] ++ ([] : List UInt8)).toArray⟩), .d (.string ⟨(Lib.itoa x.t ++ [32] ++ Lib.itoa x.m ++ [32] ++ ([] : List UInt8) ++ [32]).toArray⟩), .d (.pointer (some ⟨gb, 3, none⟩)), .d (.int .i64 x.s), .d (.string ⟨(Lib.itoa x.s).toArray⟩), .d (.string ⟨(Lib.itoa x.t ++ [32] ++ Lib.itoa x.m ++ [32] ++ ([] : List UInt8) ++ [32] ++ Lib.itoa x.s).toArray⟩), .d (.string ⟨(Lib.itoa x.t ++ [32] ++ Lib.itoa x.m ++ [32] ++ ([] : List UInt8) ++ [32] ++ Lib.itoa x.s ++ [32]).toArray⟩), .d (.pointer (some ⟨gb, 4, none⟩)), .d (.int .i64 x.v), .d (.string ⟨(Lib.itoa x.v).toArray⟩), .d (.string ⟨(Lib.itoa x.t ++ [32] ++ Lib.itoa x.m ++ [32] ++ ([] : List UInt8) ++ [32] ++ Lib.itoa x.s ++ [32] ++ Lib.itoa x.v).toArray⟩), .d (.string ⟨(Lib.itoa x.t ++ [32] ++ Lib.itoa x.m ++ [32] ++ ([] : List UInt8) ++ [32] ++ Lib.itoa x.s ++ [32] ++ Lib.itoa x.v ++ [32]).toArray⟩), .d (.pointer (some ⟨gb, 6, none⟩)), .d (.int .i64 x.c), .d (.string ⟨(Lib.itoa x.c).toArray⟩), .d (.string ⟨(Lib.itoa x.t ++ [32] ++ Lib.itoa x.m ++ [32] ++ ([] : List UInt8) ++ [32] ++ Lib.itoa x.s ++ [32] ++ Lib.itoa x.v ++ [32] ++ Lib.itoa x.c).toArray⟩), .d (.string ⟨(Lib.itoa x.t ++ [32] ++ Lib.itoa x.m ++ [32] ++ ([] : List UInt8) ++ [32] ++ Lib.itoa x.s ++ [32] ++ Lib.itoa x.v ++ [32] ++ Lib.itoa x.c).toArray⟩)] (by kernel_rfl) (by kernel_rfl) ?_
      refine spec_d rfl (fun x _ => gives_run (by go_simp)) ?_
      try simp only [Act.put, List.getElem_toArray, List.getElem_cons_succ, List.getElem_cons_zero, List.setIfInBounds_toArray, List.set_cons_zero, List.set_cons_succ]
      refine spec_d rfl (fun x _ => gives_run (by go_simp)) ?_
      try simp only [Act.put, List.getElem_toArray, List.getElem_cons_succ, List.getElem_cons_zero, List.setIfInBounds_toArray, List.set_cons_zero, List.set_cons_succ]
      refine spec_d rfl (fun z _ => gives_det (by go_simp) (HT.out z.world)) ?_
      try simp only [Act.put, List.getElem_toArray, List.getElem_cons_succ, List.getElem_cons_zero, List.setIfInBounds_toArray, List.set_cons_zero, List.set_cons_succ]
      refine spec_d rfl (fun z _ => Dg.gives_cat rfl rfl rfl (by (try simp only [List.length_append, List.length_cons, List.length_nil]); omega)) ?_
      try simp only [Act.put, List.getElem_toArray, List.getElem_cons_succ, List.getElem_cons_zero, List.setIfInBounds_toArray, List.set_cons_zero, List.set_cons_succ]
      refine spec_d rfl (fun x _ => gives_run (by go_simp)) ?_
      try simp only [Act.put, List.getElem_toArray, List.getElem_cons_succ, List.getElem_cons_zero, List.setIfInBounds_toArray, List.set_cons_zero, List.set_cons_succ]
      refine spec_d rfl (fun x _ => gives_run (by go_simp)) ?_
      try simp only [Act.put, List.getElem_toArray, List.getElem_cons_succ, List.getElem_cons_zero, List.setIfInBounds_toArray, List.set_cons_zero, List.set_cons_succ]
      refine spec_d rfl (fun z _ => gives_det (by go_simp) (HM.out z.world)) ?_
      try simp only [Act.put, List.getElem_toArray, List.getElem_cons_succ, List.getElem_cons_zero, List.setIfInBounds_toArray, List.set_cons_zero, List.set_cons_succ]
      refine spec_d rfl (fun z _ => Dg.gives_cat rfl rfl rfl (by (try simp only [List.length_append, List.length_cons, List.length_nil]); omega)) ?_
      try simp only [Act.put, List.getElem_toArray, List.getElem_cons_succ, List.getElem_cons_zero, List.setIfInBounds_toArray, List.set_cons_zero, List.set_cons_succ]
      refine spec_d rfl (fun z _ => Dg.gives_cat rfl rfl rfl (by (try simp only [List.length_append, List.length_cons, List.length_nil]); omega)) ?_
      try simp only [Act.put, List.getElem_toArray, List.getElem_cons_succ, List.getElem_cons_zero, List.setIfInBounds_toArray, List.set_cons_zero, List.set_cons_succ]
      refine spec_d rfl (fun x _ => gives_run (by go_simp)) ?_
      try simp only [Act.put, List.getElem_toArray, List.getElem_cons_succ, List.getElem_cons_zero, List.setIfInBounds_toArray, List.set_cons_zero, List.set_cons_succ]
      refine spec_d rfl (fun z _ => Dg.gives_cat rfl rfl rfl (by (try simp only [List.length_append, List.length_cons, List.length_nil]); omega)) ?_
      try simp only [Act.put, List.getElem_toArray, List.getElem_cons_succ, List.getElem_cons_zero, List.setIfInBounds_toArray, List.set_cons_zero, List.set_cons_succ]
      refine spec_d rfl (fun z _ => Dg.gives_cat rfl rfl rfl (by (try simp only [List.length_append, List.length_cons, List.length_nil]); omega)) ?_
      try simp only [Act.put, List.getElem_toArray, List.getElem_cons_succ, List.getElem_cons_zero, List.setIfInBounds_toArray, List.set_cons_zero, List.set_cons_succ]
      refine spec_d rfl (fun x _ => gives_run (by go_simp)) ?_
      try simp only [Act.put, List.getElem_toArray, List.getElem_cons_succ, List.getElem_cons_zero, List.setIfInBounds_toArray, List.set_cons_zero, List.set_cons_succ]
      refine spec_d rfl (fun x _ => gives_run (by go_simp)) ?_
      try simp only [Act.put, List.getElem_toArray, List.getElem_cons_succ, List.getElem_cons_zero, List.setIfInBounds_toArray, List.set_cons_zero, List.set_cons_succ]
      refine spec_d rfl (fun z _ => gives_det (by go_simp) (HS.out z.world)) ?_
      try simp only [Act.put, List.getElem_toArray, List.getElem_cons_succ, List.getElem_cons_zero, List.setIfInBounds_toArray, List.set_cons_zero, List.set_cons_succ]
      refine spec_d rfl (fun z _ => Dg.gives_cat rfl rfl rfl (by (try simp only [List.length_append, List.length_cons, List.length_nil]); omega)) ?_
      try simp only [Act.put, List.getElem_toArray, List.getElem_cons_succ, List.getElem_cons_zero, List.setIfInBounds_toArray, List.set_cons_zero, List.set_cons_succ]
      refine spec_d rfl (fun z _ => Dg.gives_cat rfl rfl rfl (by (try simp only [List.length_append, List.length_cons, List.length_nil]); omega)) ?_
      try simp only [Act.put, List.getElem_toArray, List.getElem_cons_succ, List.getElem_cons_zero, List.setIfInBounds_toArray, List.set_cons_zero, List.set_cons_succ]
      refine spec_d rfl (fun x _ => gives_run (by go_simp)) ?_
      try simp only [Act.put, List.getElem_toArray, List.getElem_cons_succ, List.getElem_cons_zero, List.setIfInBounds_toArray, List.set_cons_zero, List.set_cons_succ]
      refine spec_d rfl (fun x _ => gives_run (by go_simp)) ?_
      try simp only [Act.put, List.getElem_toArray, List.getElem_cons_succ, List.getElem_cons_zero, List.setIfInBounds_toArray, List.set_cons_zero, List.set_cons_succ]
      refine spec_d rfl (fun z _ => gives_det (by go_simp) (HV2.out z.world)) ?_
      try simp only [Act.put, List.getElem_toArray, List.getElem_cons_succ, List.getElem_cons_zero, List.setIfInBounds_toArray, List.set_cons_zero, List.set_cons_succ]
      refine spec_d rfl (fun z _ => Dg.gives_cat rfl rfl rfl (by (try simp only [List.length_append, List.length_cons, List.length_nil]); omega)) ?_
      try simp only [Act.put, List.getElem_toArray, List.getElem_cons_succ, List.getElem_cons_zero, List.setIfInBounds_toArray, List.set_cons_zero, List.set_cons_succ]
      refine spec_d rfl (fun z _ => Dg.gives_cat rfl rfl rfl (by (try simp only [List.length_append, List.length_cons, List.length_nil]); omega)) ?_
      try simp only [Act.put, List.getElem_toArray, List.getElem_cons_succ, List.getElem_cons_zero, List.setIfInBounds_toArray, List.set_cons_zero, List.set_cons_succ]
      refine spec_d rfl (fun x _ => gives_run (by go_simp)) ?_
      try simp only [Act.put, List.getElem_toArray, List.getElem_cons_succ, List.getElem_cons_zero, List.setIfInBounds_toArray, List.set_cons_zero, List.set_cons_succ]
      refine spec_d rfl (fun x _ => gives_run (by go_simp)) ?_
      try simp only [Act.put, List.getElem_toArray, List.getElem_cons_succ, List.getElem_cons_zero, List.setIfInBounds_toArray, List.set_cons_zero, List.set_cons_succ]
      refine spec_d rfl (fun z _ => gives_det (by go_simp) (HC.out z.world)) ?_
      try simp only [Act.put, List.getElem_toArray, List.getElem_cons_succ, List.getElem_cons_zero, List.setIfInBounds_toArray, List.set_cons_zero, List.set_cons_succ]
      refine spec_d rfl (fun z _ => Dg.gives_cat rfl rfl rfl (by (try simp only [List.length_append, List.length_cons, List.length_nil]); omega)) ?_
      try simp only [Act.put, List.getElem_toArray, List.getElem_cons_succ, List.getElem_cons_zero, List.setIfInBounds_toArray, List.set_cons_zero, List.set_cons_succ]
      refine spec_d rfl (fun x _ => gives_run (by go_simp)) ?_
      try simp only [Act.put, List.getElem_toArray, List.getElem_cons_succ, List.getElem_cons_zero, List.setIfInBounds_toArray, List.set_cons_zero, List.set_cons_succ]
      refine spec_end (fun z hz => ?_)
      clear hz
      refine wpAny_done (by kernel_rfl) ?_ _
      have HBZ := Lib.hid (HB1.out.trans (((bel_drew W1).trans z.below).mono HB1.out.size))
      have HOZ := Lib.hid (HOB.out.kept ((bel_drew W1).trans z.below))
      clear K0 K1 K3 K4 K6 HT HM HS HV2 HC hn1 hl1 hl2 hl3 hl4 hl5
      generalize z.world = w5 at HBZ HOZ ⊢
      clear z
      obtain ⟨T, HTQ⟩ : ∃ T, Hid (Lib.itoa x.t ++ [32] ++ Lib.itoa x.m ++ [32] ++ ([] : List UInt8) ++ [32] ++ Lib.itoa x.s ++ [32] ++ Lib.itoa x.v ++ [32] ++ Lib.itoa x.c = T) := ⟨_, Lib.hid rfl⟩
      rw [HTQ.out] at HTE HTLL ⊢
      have HOW := Lib.hid (HOZ.out.cell 2)
      have y2 : w5.cell? ⟨gb, 2, none⟩ = some (.int .i64 x.k) := HOZ.out.cell 2
      have y7 : w5.cell? ⟨gb, 7, none⟩ = some (.slice x.A x.n x.d) := HOZ.out.cell 7
      have htl := HTLL.out
      have hxl : (hxT vs).length ≤ 200 := by rw [hxT_len, HLN.out]; omega
      rw [hnm] at HNA
      have HOC := HON
      by_cases h0 : 0 < x.n
      · have h0i : (0 : Int) < (x.n : Int) := by omega
        have HSQ : Hid (teT x vs = T ++ [32] ++ hxT vs) := Lib.hid (by rw [HTE.out, if_pos (by have := HLN.out; omega)])
        go_wp2_with fail
        all_goals first | (exfalso; simp at *; omega) | skip
        refine (HRH.out _ HBZ.out).mono ?_
        rintro e' w6 ⟨rfl, hb6⟩
        have HB6 := Lib.hid (HBZ.out.trans (hb6.mono HBZ.out.size))
        have HO6 := Lib.hid (HOZ.out.kept hb6)
        clear hb6 y2 y7 HRH
        go_upto_region 9 with (fail)
        all_goals first | (exfalso; simp at *; omega) | skip
        rw [Txt.str_app T [32], Txt.str_app, ← HSQ.out]
        have y2 : w6.cell? ⟨gb, 2, none⟩ = some (.int .i64 x.k) := HO6.out.cell 2
        go_wp2_with fail
        refine (HNA.out _).mono ?_
        rintro e' w7 ⟨rfl, hb7⟩
        have HB7 := Lib.hid (HB6.out.trans (hb7.mono HB6.out.size))
        have HO7 := Lib.hid (HO6.out.kept hb7)
        clear hb7 y2
        have y0 : w7.cell? ⟨gb, 0, none⟩ = some (.int .i64 x.t) := HO7.out.cell 0
        have y1 : w7.cell? ⟨gb, 1, none⟩ = some (.int .i64 x.m) := HO7.out.cell 1
        have y2 : w7.cell? ⟨gb, 2, none⟩ = some (.int .i64 x.k) := HO7.out.cell 2
        have y3 : w7.cell? ⟨gb, 3, none⟩ = some (.int .i64 x.s) := HO7.out.cell 3
        have y4 : w7.cell? ⟨gb, 4, none⟩ = some (.int .i64 x.v) := HO7.out.cell 4
        have y5 : w7.cell? ⟨gb, 5, none⟩ = some (.int .i64 x.si) := HO7.out.cell 5
        have y6 : w7.cell? ⟨gb, 6, none⟩ = some (.int .i64 x.c) := HO7.out.cell 6
        have y7 : w7.cell? ⟨gb, 7, none⟩ = some (.slice x.A x.n x.d) := HO7.out.cell 7
        go_wp2_with fail
        refine (HTX.out _ HB7.out).mono ?_
        rintro e' w8 ⟨rfl, hb8⟩
        have HB8 := Lib.hid (HB7.out.trans (hb8.mono HB7.out.size))
        clear hb8 y0 y1 y2 y3 y4 y5 y6 y7
        go_wp2_with fail
        refine (HON.out _ HB8.out).mono ?_
        rintro e' w9 ⟨rfl, hb9⟩
        have HB9 := Lib.hid (HB8.out.trans (hb9.mono HB8.out.size))
        clear hb9
        go_wp2
        go_ret
        exact ⟨rfl, HB9.out⟩
      · have h0i : ¬ (0 : Int) < (x.n : Int) := by omega
        have HSQ : Hid (teT x vs = T) := Lib.hid (by rw [HTE.out, if_neg (by have := HLN.out; omega)])
        go_upto_region 9 with (fail)
        rw [← HSQ.out]
        clear y2 y7
        have y2 : w5.cell? ⟨gb, 2, none⟩ = some (.int .i64 x.k) := HOZ.out.cell 2
        go_wp2_with fail
        refine (HNA.out _).mono ?_
        rintro e' w7 ⟨rfl, hb7⟩
        have HB7 := Lib.hid (HBZ.out.trans (hb7.mono HBZ.out.size))
        have HO7 := Lib.hid (HOZ.out.kept hb7)
        clear hb7 y2
        have y0 : w7.cell? ⟨gb, 0, none⟩ = some (.int .i64 x.t) := HO7.out.cell 0
        have y1 : w7.cell? ⟨gb, 1, none⟩ = some (.int .i64 x.m) := HO7.out.cell 1
        have y2 : w7.cell? ⟨gb, 2, none⟩ = some (.int .i64 x.k) := HO7.out.cell 2
        have y3 : w7.cell? ⟨gb, 3, none⟩ = some (.int .i64 x.s) := HO7.out.cell 3
        have y4 : w7.cell? ⟨gb, 4, none⟩ = some (.int .i64 x.v) := HO7.out.cell 4
        have y5 : w7.cell? ⟨gb, 5, none⟩ = some (.int .i64 x.si) := HO7.out.cell 5
        have y6 : w7.cell? ⟨gb, 6, none⟩ = some (.int .i64 x.c) := HO7.out.cell 6
        have y7 : w7.cell? ⟨gb, 7, none⟩ = some (.slice x.A x.n x.d) := HO7.out.cell 7
        go_wp2_with fail
        refine (HTX.out _ HB7.out).mono ?_
        rintro e' w8 ⟨rfl, hb8⟩
        have HB8 := Lib.hid (HB7.out.trans (hb8.mono HB7.out.size))
        clear hb8 y0 y1 y2 y3 y4 y5 y6 y7
        go_wp2_with fail
        refine (HON.out _ HB8.out).mono ?_
        rintro e' w9 ⟨rfl, hb9⟩
        have HB9 := Lib.hid (HB8.out.trans (hb9.mono HB8.out.size))
        clear hb9
        go_wp2
        go_ret
        exact ⟨rfl, HB9.out⟩
end Go.Proofs.YtanhblokhcaoiaaDoor.Tr
