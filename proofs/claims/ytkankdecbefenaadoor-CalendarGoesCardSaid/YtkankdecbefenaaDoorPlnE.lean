/- The contract of package plan's slot, and of the closure by which View lays slots one behind the other; no condition but sizes. -/
import Derived.Test.YtkankdecbefenaaDoorPlnD
import Derived.Test.YtkankdecbefenaaDoorPushG
namespace Go.Proofs.YtkankdecbefenaaDoor.Ly7
open Go.ChangeShapes Go.WideShapes Go.ChangeAt Go.RowKit Base
set_option linter.unusedVariables false
set_option linter.unusedSimpArgs false

/-- What a slot is. -/
structure Sl where
  k : Int
  s : Int
  l : Int
  wo : Int
  ad : Int
  mn : Int
  cn : Int
  tk : Bool
def Sl.cells (x : Sl) : List Value := [.int .i64 x.k, .int .i64 x.s, .int .i64 x.l, .int .i64 x.wo, .int .i64 x.ad, .int .i64 x.mn, .int .i64 x.cn, .bool x.tk]
def slC (ss : List Sl) : List Value := ss.flatMap Sl.cells
theorem slC_snoc (ss : List Sl) (x : Sl) : slC (ss ++ [x]) = slC ss ++ x.cells := by unfold slC; rw [List.flatMap_append]; simp
theorem slC_at : ∀ (ss : List Sl) (i k : Nat) (hi : i < ss.length) (hk : k < 8), (slC ss)[i * 8 + k]? = ((ss[i]'hi).cells)[k]?
  | [], i, k, hi, _ => by simp at hi
  | p :: ls, 0, k, _, hk => by
    show (p.cells ++ slC ls)[0 * 8 + k]? = _
    rw [Nat.zero_mul, Nat.zero_add, List.getElem?_append_left (by simpa [Sl.cells] using hk)]
    rfl
  | p :: ls, i + 1, k, hi, hk => by
    show (p.cells ++ slC ls)[(i + 1) * 8 + k]? = _
    rw [List.getElem?_append_right (by simp [Sl.cells]; omega), show (i + 1) * 8 + k - p.cells.length = i * 8 + k by simp [Sl.cells]; omega]
    exact slC_at ls i k (by simpa using hi) hk
abbrev TSl : TypeId := 52
theorem info_sl : (Tryd.prog.info? TSl).map (fun i => (i.zero, i.size, i.bytes)) = some (some (.agg #[.int .i64 0, .int .i64 0, .int .i64 0, .int .i64 0, .int .i64 0, .int .i64 0, .int .i64 0, .bool false]), 8, 64) := by kernel_rfl
theorem lst_front {w : World} {A : Option Addr} {n h : Nat} {xs : List Value} (hl : Lst w A n xs) (h2 : h ≤ n) : Lst w A h (xs.take h) := by
  refine ⟨by rw [List.length_take, hl.1]; omega, fun h0 => ?_⟩
  obtain ⟨b, off, e, hlt, hc⟩ := hl.2 (by omega)
  exact ⟨b, off, e, hlt, fun k hk => by rw [hc k (by omega), List.getElem?_take_of_lt hk]⟩
/-- The number of a module among candidates that count; whether it takes. -/
def cdI (fs : List Int) (y : Int) : Int := idxF (fs.take 4) y
theorem front4 {w : World} {A : Option Addr} {n q : Nat} {fs : List Int} (h : Lst w A n (fs.map (Value.int .i64))) (hq : min n 4 = q) : Lst w A q ((fs.take 4).map (Value.int .i64)) := by
  have hl : fs.length = n := by have := h.1; simpa using this
  have := lst_front h (h := q) (by omega)
  rw [← List.map_take] at this
  rw [show fs.take 4 = fs.take q by
    rcases (show (n ≤ 4 ∧ q = n) ∨ (4 < n ∧ q = 4) by omega) with ⟨h1, rfl⟩ | ⟨h1, rfl⟩
    · rw [List.take_of_length_le (by omega), List.take_of_length_le (by omega)]
    · rfl]
  exact this
set_option maxRecDepth 100000 in
set_option maxHeartbeats 4000000 in
theorem slot_any (k b wd ad : Int) (A : Option Addr) (n c : Nat) (B : Option Addr) (m d : Nat) (fs ts : List Int) (y : Int) (g u q : Nat) (hg : cutN b 1000 = g) (hu : cutN wd 8 = u) (hq : max (min n 4) 1 = q) (hc : n ≤ c) (T cd : Int) (tk : Bool) (hT : tkI k g u q = T) (w : World)
    (hf : Lst w A n (fs.map (Value.int .i64))) (ht : Lst w B m (ts.map (Value.int .i64))) (hcm : c ≤ 9223372036854775807) (hm : m ≤ 9223372036854775807) (hcd : cdI fs y = cd) (htk : ts.contains y = tk) :
    Calls Tryd.prog 37 #[(.agg #[.int .i64 k, .int .i64 b, .int .i64 wd, .int .i64 ad, .slice A n c, .slice B m d]), .int .i64 y] w fun e w' => e = .returned (.agg #[.int .i64 0, .int .i64 0, .int .i64 T, .int .i64 (u : Int), .int .i64 ad, .int .i64 (q : Int), .int .i64 cd, .bool tk]) ∧ Below w.heap.size w w' := by
  obtain ⟨p, hp⟩ : ∃ p, min n 4 = p := ⟨_, rfl⟩
  have HTK := Lib.hid (fun W => ticks_any k b wd ad A n c B m d g u q hg hu hq hc T hT W)
  have HW := Lib.hid (fun W => words_any k b wd ad A n c B m d u hu W)
  have HM := Lib.hid (fun W => many_any k b wd ad A n c B m d q hq hc W)
  have HF := Lib.hid (fun W => from_any k b wd ad A n c B m d p hp hc W)
  have HI := Lib.hid (fun W (h : Below w.heap.size w W) => index_any A p c (fs.take 4) y W ((front4 hf hp).kept h) (by omega))
  have HC := Lib.hid (fun W (h : Below w.heap.size w W) => contains_any B m d ts y W (ht.kept h) hm)
  have e : idxF (fs.take 4) y = cd := hcd
  rw [e] at HI
  rw [htk] at HC
  clear hT hu hq hg hp hf ht hcd htk e
  obtain ⟨W1, HW1⟩ : ∃ W1, W1 = (w.alloc (.cells #[.int .i64 k, .int .i64 b, .int .i64 wd, .int .i64 ad, .slice A n c, .slice B m d] 56)).alloc (.cells #[.int .i64 0, .int .i64 0, .int .i64 0, .int .i64 0, .int .i64 0, .int .i64 0, .int .i64 0, .bool false] TSl) := ⟨_, rfl⟩
  have HO : Hid (Obj1 W1 w.heap.size 56 #[.int .i64 k, .int .i64 b, .int .i64 wd, .int .i64 ad, .slice A n c, .slice B m d]) := Lib.hid (by rw [HW1]; exact (Obj1.new w 56 #[.int .i64 k, .int .i64 b, .int .i64 wd, .int .i64 ad, .slice A n c, .slice B m d]).alloc _)
  have HO2 : Hid (Obj1 W1 (w.heap.size + 1) TSl #[.int .i64 0, .int .i64 0, .int .i64 0, .int .i64 0, .int .i64 0, .int .i64 0, .int .i64 0, .bool false]) := Lib.hid (by
    have := Obj1.new (w.alloc (.cells #[.int .i64 k, .int .i64 b, .int .i64 wd, .int .i64 ad, .slice A n c, .slice B m d] 56)) TSl #[.int .i64 0, .int .i64 0, .int .i64 0, .int .i64 0, .int .i64 0, .int .i64 0, .int .i64 0, .bool false]
    rw [show (w.alloc (.cells #[.int .i64 k, .int .i64 b, .int .i64 wd, .int .i64 ad, .slice A n c, .slice B m d] 56)).heap.size = w.heap.size + 1 by simp] at this
    rw [HW1]
    exact this)
  have HB : Hid (Below w.heap.size w W1) := Lib.hid (by rw [HW1]; exact ((Below.refl _ _).alloc (Nat.le_refl _) _).alloc (by simp) _)
  go_enter Tryd.func37, Tryd.ntmps37
  go_upto_region 1 with (fail)
  rw [← HW1]
  clear HW1
  have HBX : Hid (∀ x : Kin W1.drew, Below w.heap.size w x.world) := Lib.hid (fun x => HB.out.trans (((bel_drew W1).trans x.below).mono HB.out.size))
  have K0 : ∀ x : Kin W1.drew, x.world.cell? ⟨w.heap.size, 0, none⟩ = some (.int .i64 k) := fun x => (HO.out.drew.kept x.below).cell 0
  have K1 : ∀ x : Kin W1.drew, x.world.cell? ⟨w.heap.size, 1, none⟩ = some (.int .i64 b) := fun x => (HO.out.drew.kept x.below).cell 1
  have K2 : ∀ x : Kin W1.drew, x.world.cell? ⟨w.heap.size, 2, none⟩ = some (.int .i64 wd) := fun x => (HO.out.drew.kept x.below).cell 2
  have K3 : ∀ x : Kin W1.drew, x.world.cell? ⟨w.heap.size, 3, none⟩ = some (.int .i64 ad) := fun x => (HO.out.drew.kept x.below).cell 3
  have K4 : ∀ x : Kin W1.drew, x.world.cell? ⟨w.heap.size, 4, none⟩ = some (.slice A n c) := fun x => (HO.out.drew.kept x.below).cell 4
  have K5 : ∀ x : Kin W1.drew, x.world.cell? ⟨w.heap.size, 5, none⟩ = some (.slice B m d) := fun x => (HO.out.drew.kept x.below).cell 5
  refine wp_region_specL 17 [.d (.agg #[.int .i64 k, .int .i64 b, .int .i64 wd, .int .i64 ad, .slice A n c, .slice B m d]), .d (.int .i64 T), .d (.agg #[.int .i64 k, .int .i64 b, .int .i64 wd, .int .i64 ad, .slice A n c, .slice B m d]), .d (.int .i64 (u : Int)), .d (.pointer (some ⟨w.heap.size, 3, none⟩)), .d (.int .i64 ad), .d (.agg #[.int .i64 k, .int .i64 b, .int .i64 wd, .int .i64 ad, .slice A n c, .slice B m d]), .d (.int .i64 (q : Int)), .d (.agg #[.int .i64 k, .int .i64 b, .int .i64 wd, .int .i64 ad, .slice A n c, .slice B m d]), .d (.slice A p c), .d (.int .i64 y), .d (.int .i64 cd), .d (.pointer (some ⟨w.heap.size, 5, none⟩)), .d (.slice B m d), .d (.int .i64 y), .d (.bool tk), .d (.agg #[.int .i64 0, .int .i64 0, .int .i64 T, .int .i64 (u : Int), .int .i64 ad, .int .i64 (q : Int), .int .i64 cd, .bool tk])] (by kernel_rfl) (by kernel_rfl) ?_
  refine spec_d rfl (fun x _ => gives_run (by go_simp)) ?_
  try simp only [Act.put, List.getElem_toArray, List.getElem_cons_succ, List.getElem_cons_zero, List.setIfInBounds_toArray, List.set_cons_zero, List.set_cons_succ]
  refine spec_d rfl (fun x _ => gives_det (by go_simp) (HTK.out x.world)) ?_
  try simp only [Act.put, List.getElem_toArray, List.getElem_cons_succ, List.getElem_cons_zero, List.setIfInBounds_toArray, List.set_cons_zero, List.set_cons_succ]
  refine spec_d rfl (fun x _ => gives_run (by go_simp)) ?_
  try simp only [Act.put, List.getElem_toArray, List.getElem_cons_succ, List.getElem_cons_zero, List.setIfInBounds_toArray, List.set_cons_zero, List.set_cons_succ]
  refine spec_d rfl (fun x _ => gives_det (by go_simp) (HW.out x.world)) ?_
  try simp only [Act.put, List.getElem_toArray, List.getElem_cons_succ, List.getElem_cons_zero, List.setIfInBounds_toArray, List.set_cons_zero, List.set_cons_succ]
  refine spec_d rfl (fun x _ => gives_run (by go_simp)) ?_
  try simp only [Act.put, List.getElem_toArray, List.getElem_cons_succ, List.getElem_cons_zero, List.setIfInBounds_toArray, List.set_cons_zero, List.set_cons_succ]
  refine spec_d rfl (fun x _ => gives_run (by go_simp)) ?_
  try simp only [Act.put, List.getElem_toArray, List.getElem_cons_succ, List.getElem_cons_zero, List.setIfInBounds_toArray, List.set_cons_zero, List.set_cons_succ]
  refine spec_d rfl (fun x _ => gives_run (by go_simp)) ?_
  try simp only [Act.put, List.getElem_toArray, List.getElem_cons_succ, List.getElem_cons_zero, List.setIfInBounds_toArray, List.set_cons_zero, List.set_cons_succ]
  refine spec_d rfl (fun x _ => gives_det (by go_simp) (HM.out x.world)) ?_
  try simp only [Act.put, List.getElem_toArray, List.getElem_cons_succ, List.getElem_cons_zero, List.setIfInBounds_toArray, List.set_cons_zero, List.set_cons_succ]
  refine spec_d rfl (fun x _ => gives_run (by go_simp)) ?_
  try simp only [Act.put, List.getElem_toArray, List.getElem_cons_succ, List.getElem_cons_zero, List.setIfInBounds_toArray, List.set_cons_zero, List.set_cons_succ]
  refine spec_d rfl (fun x _ => gives_det (by go_simp) (HF.out x.world)) ?_
  try simp only [Act.put, List.getElem_toArray, List.getElem_cons_succ, List.getElem_cons_zero, List.setIfInBounds_toArray, List.set_cons_zero, List.set_cons_succ]
  refine spec_d rfl (fun x _ => gives_run (by go_simp)) ?_
  try simp only [Act.put, List.getElem_toArray, List.getElem_cons_succ, List.getElem_cons_zero, List.setIfInBounds_toArray, List.set_cons_zero, List.set_cons_succ]
  refine spec_d rfl (fun x _ => gives_det_same (by go_simp) (HI.out x.world (HBX.out x))) ?_
  try simp only [Act.put, List.getElem_toArray, List.getElem_cons_succ, List.getElem_cons_zero, List.setIfInBounds_toArray, List.set_cons_zero, List.set_cons_succ]
  refine spec_d rfl (fun x _ => gives_run (by go_simp)) ?_
  try simp only [Act.put, List.getElem_toArray, List.getElem_cons_succ, List.getElem_cons_zero, List.setIfInBounds_toArray, List.set_cons_zero, List.set_cons_succ]
  refine spec_d rfl (fun x _ => gives_run (by go_simp)) ?_
  try simp only [Act.put, List.getElem_toArray, List.getElem_cons_succ, List.getElem_cons_zero, List.setIfInBounds_toArray, List.set_cons_zero, List.set_cons_succ]
  refine spec_d rfl (fun x _ => gives_run (by go_simp)) ?_
  try simp only [Act.put, List.getElem_toArray, List.getElem_cons_succ, List.getElem_cons_zero, List.setIfInBounds_toArray, List.set_cons_zero, List.set_cons_succ]
  refine spec_d rfl (fun x _ => gives_det_same (by go_simp) (HC.out x.world (HBX.out x))) ?_
  try simp only [Act.put, List.getElem_toArray, List.getElem_cons_succ, List.getElem_cons_zero, List.setIfInBounds_toArray, List.set_cons_zero, List.set_cons_succ]
  refine spec_d rfl (fun x _ => gives_run (by go_simp)) ?_
  try simp only [Act.put, List.getElem_toArray, List.getElem_cons_succ, List.getElem_cons_zero, List.setIfInBounds_toArray, List.set_cons_zero, List.set_cons_succ]
  refine spec_end (fun x hx => ?_)
  clear hx
  have HO3 := Lib.hid (HO2.out.drew.kept x.below)
  have HB3 := Lib.hid (HBX.out x)
  clear K0 K1 K2 K3 K4 K5 HBX
  generalize x.world = w8 at HO3 HB3 ⊢
  clear x
  have d0 := HO3.out.cell 0
  have d1 := HO3.out.cell 1
  have d2 := HO3.out.cell 2
  have d3 := HO3.out.cell 3
  have d4 := HO3.out.cell 4
  have d5 := HO3.out.cell 5
  have d6 := HO3.out.cell 6
  have d7 := HO3.out.cell 7
  have f0 := HO3.out.free 0
  have f1 := HO3.out.free 1
  have f2 := HO3.out.free 2
  have f3 := HO3.out.free 3
  have f4 := HO3.out.free 4
  have f5 := HO3.out.free 5
  have f6 := HO3.out.free 6
  have f7 := HO3.out.free 7
  simp at d0 d1 d2 d3 d4 d5 d6 d7
  change wpAny _ _ _ _ (0 + 1) _ _ _
  refine wpAny_ready (rs := [17]) (by kernel_rfl) (by simp) ?_
  refine AllReady.cons rfl (fun KK hK => ?_) AllReady.nil
  go_simp
  refine hK _ _ ?_
  clear hK KK
  refine wpAny_done (by kernel_rfl) ?_ _
  have HO9 := Lib.hid (((((((((HO3.out.set 0 (.int .i64 0)).set 1 (.int .i64 0)).set 2 (.int .i64 T)).set 3 (.int .i64 (u : Int))).set 4 (.int .i64 ad)).set 5 (.int .i64 (q : Int))).set 6 (.int .i64 cd)).set 7 (.bool tk)))
  have HB9 := Lib.hid ((((((((HB3.out.setCell (p := ⟨w.heap.size + 1, 0, none⟩) (by simp) (.int .i64 0)).setCell (p := ⟨w.heap.size + 1, 1, none⟩) (by simp) (.int .i64 0)).setCell (p := ⟨w.heap.size + 1, 2, none⟩) (by simp) (.int .i64 T)).setCell (p := ⟨w.heap.size + 1, 3, none⟩) (by simp) (.int .i64 (u : Int))).setCell (p := ⟨w.heap.size + 1, 4, none⟩) (by simp) (.int .i64 ad)).setCell (p := ⟨w.heap.size + 1, 5, none⟩) (by simp) (.int .i64 (q : Int))).setCell (p := ⟨w.heap.size + 1, 6, none⟩) (by simp) (.int .i64 cd)).setCell (p := ⟨w.heap.size + 1, 7, none⟩) (by simp) (.bool tk))
  generalize (((((((w8.setCell ⟨w.heap.size + 1, 0, none⟩ (.int .i64 0)).setCell ⟨w.heap.size + 1, 1, none⟩ (.int .i64 0)).setCell ⟨w.heap.size + 1, 2, none⟩ (.int .i64 T)).setCell ⟨w.heap.size + 1, 3, none⟩ (.int .i64 (u : Int))).setCell ⟨w.heap.size + 1, 4, none⟩ (.int .i64 ad)).setCell ⟨w.heap.size + 1, 5, none⟩ (.int .i64 (q : Int))).setCell ⟨w.heap.size + 1, 6, none⟩ (.int .i64 cd)).setCell ⟨w.heap.size + 1, 7, none⟩ (.bool tk) = w9 at HO9 HB9 ⊢
  clear d0 d1 d2 d3 d4 d5 d6 d7 f0 f1 f2 f3 f4 f5 f6 f7
  have d0 : w9.cell? ⟨w.heap.size + 1, 0, none⟩ = some (.int .i64 0) := HO9.out.cell 0
  have d1 : w9.cell? ⟨w.heap.size + 1, 1, none⟩ = some (.int .i64 0) := HO9.out.cell 1
  have d2 : w9.cell? ⟨w.heap.size + 1, 2, none⟩ = some (.int .i64 T) := HO9.out.cell 2
  have d3 : w9.cell? ⟨w.heap.size + 1, 3, none⟩ = some (.int .i64 (u : Int)) := HO9.out.cell 3
  have d4 : w9.cell? ⟨w.heap.size + 1, 4, none⟩ = some (.int .i64 ad) := HO9.out.cell 4
  have d5 : w9.cell? ⟨w.heap.size + 1, 5, none⟩ = some (.int .i64 (q : Int)) := HO9.out.cell 5
  have d6 : w9.cell? ⟨w.heap.size + 1, 6, none⟩ = some (.int .i64 cd) := HO9.out.cell 6
  have d7 : w9.cell? ⟨w.heap.size + 1, 7, none⟩ = some (.bool tk) := HO9.out.cell 7
  go_wp2
  refine bodyPost_ret (v := .agg #[.int .i64 0, .int .i64 0, .int .i64 T, .int .i64 (u : Int), .int .i64 ad, .int .i64 (q : Int), .int .i64 cd, .bool tk]) (by simp [results, Tryd.results37, go_sem, d0, d1, d2, d3, d4, d5, d6, d7]) rfl ⟨rfl, HB9.out⟩

/-- What View has laid so far: the place behind, and the slots. -/
def VSt (w0 : World) (gs gl base : Nat) (s : Int) (v : Value) (ss : List Sl) (w : World) : Prop :=
  Obj1 w gs 3 #[.int .i64 s] ∧ Obj1 w gl 50 #[v] ∧ w.ownsRow base TSl 8 v ss.length (slC ss) ∧ Below w0.heap.size w0 w ∧ base ≤ w.heap.size ∧ some gs ≠ v.ownBlock ∧ some gl ≠ v.ownBlock
theorem VSt.kept {w0 w w' : World} {gs gl base : Nat} {s : Int} {v : Value} {ss : List Sl} (h : VSt w0 gs gl base s v ss w) (hb : Below w.heap.size w w') : VSt w0 gs gl base s v ss w' :=
  ⟨h.1.kept hb, h.2.1.kept hb, h.2.2.1.kept (w' := w') (row := none) ⟨hb.os, hb.tape, hb.output, hb.size, fun i hi _ => hb.block i hi⟩ (Classical.em _), h.2.2.2.1.trans (hb.mono h.2.2.2.1.size), Nat.le_trans h.2.2.2.2.1 hb.size, h.2.2.2.2.2⟩
structure Gap (w0 : World) (gs gl base : Nat) : Prop where
  a : w0.heap.size ≤ gs
  b : w0.heap.size ≤ gl
  c : w0.heap.size ≤ base
  e : gs ≠ gl
set_option maxRecDepth 100000 in
set_option maxHeartbeats 4000000 in
theorem lay_any (k st l wo ad mn cn : Int) (tk : Bool) (gs gl base : Nat) (s : Int) (v : Value) (ss : List Sl) (w0 w : World) (h : VSt w0 gs gl base s v ss w) (hg : Gap w0 gs gl base) (hn : ss.length ≤ 1000) (hs : 0 ≤ s ∧ s ≤ 100000000) (hl : 0 ≤ l ∧ l ≤ 100000000) :
    Calls Tryd.prog 36 #[.agg #[.int .i64 k, .int .i64 st, .int .i64 l, .int .i64 wo, .int .i64 ad, .int .i64 mn, .int .i64 cn, .bool tk], .pointer (some ⟨gs, 0, none⟩), .pointer (some ⟨gl, 0, none⟩)] w fun e w' =>
      e = .returned (.tuple #[]) ∧ ∃ v', VSt w0 gs gl base (s + l) v' (ss ++ [⟨k, s, l, wo, ad, mn, cn, tk⟩]) w' := by
  obtain ⟨i0, hi, hz0, hz1, hz2⟩ := info_parts info_sl
  obtain ⟨h1, h2, h3, h4, h5, h6, h7⟩ := h
  have HN6 := Lib.hid h6
  have HN7 := Lib.hid h7
  have hw : IntKind.i64.wrap (s + l) = s + l := IntWalk.i64_in _ (by omega)
  have HOS := Lib.hid h1
  have HOL := Lib.hid h2
  have HOW := Lib.hid h3
  have HB := Lib.hid h4
  have HSZ := Lib.hid h5
  clear h1 h2 h3 h4 h5 h6 h7
  obtain ⟨W1, HW1⟩ : ∃ W1, W1 = w.alloc (.cells #[.int .i64 k, .int .i64 st, .int .i64 l, .int .i64 wo, .int .i64 ad, .int .i64 mn, .int .i64 cn, .bool tk] TSl) := ⟨_, rfl⟩
  obtain ⟨gb, HGB⟩ : ∃ gb, Hid (w.heap.size = gb) := ⟨_, Lib.hid rfl⟩
  have HO1 : Hid (Obj1 W1 gb TSl #[.int .i64 k, .int .i64 st, .int .i64 l, .int .i64 wo, .int .i64 ad, .int .i64 mn, .int .i64 cn, .bool tk]) := Lib.hid (by rw [HW1, ← HGB.out]; exact Obj1.new _ _ _)
  have HB1 : Hid (Below w.heap.size w W1) := Lib.hid (by rw [HW1]; exact bel1 _ _)
  have HNS := Lib.hid (show gs ≠ gb by have := HOS.out.lt; have := HGB.out; omega)
  have HNL := Lib.hid (show gl ≠ gb by have := HOL.out.lt; have := HGB.out; omega)
  have HS1 := Lib.hid (HOS.out.kept HB1.out)
  have HL1 := Lib.hid (HOL.out.kept HB1.out)
  have HR1 := Lib.hid (HOW.out.kept (w' := W1) (row := none) ⟨HB1.out.os, HB1.out.tape, HB1.out.output, HB1.out.size, fun i hi _ => HB1.out.block i hi⟩ (Classical.em _))
  have HBW1 := Lib.hid (HB.out.trans (HB1.out.mono HB.out.size))
  have HSZ1 := Lib.hid (Nat.le_trans HSZ.out HB1.out.size)
  go_enter Tryd.func36, Tryd.ntmps36
  go_upto_region 1 with (fail)
  rw [← HW1, HGB.out]
  clear HW1
  have c0 := HS1.out.cell 0
  have f0 := HS1.out.free 0
  have l0 := HS1.out.lt
  have f1 := HO1.out.free 1
  have l1 := HO1.out.lt
  have c1 := HO1.out.cell 1
  simp at c0 c1
  go_upto_region 2 with (fail)
  have HO2 := Lib.hid (HO1.out.set 1 (.int .i64 s))
  have HS2 := Lib.hid (HS1.out.far ⟨gb, 1, none⟩ HNS.out (.int .i64 s))
  have HL2 := Lib.hid (HL1.out.far ⟨gb, 1, none⟩ HNL.out (.int .i64 s))
  have HW2 := Lib.hid ((Wrote.refl gb W1).set (p := ⟨gb, 1, none⟩) (.inl rfl) (.int .i64 s))
  have HR2 := Lib.hid (row_wrote' HR1.out HW2.out (fun e => by have := (HOW.out.lt _ e).2; have := HGB.out; omega))
  have HBW2 := Lib.hid (HBW1.out.setCell (p := ⟨gb, 1, none⟩) (by have := HB.out.size; have := HGB.out; simp; omega) (.int .i64 s))
  have HSZ2 := Lib.hid (Nat.le_trans HSZ1.out HW2.out.size)
  generalize W1.setCell ⟨gb, 1, none⟩ (.int .i64 s) = W2 at HO2 HS2 HL2 HR2 HBW2 HSZ2 ⊢
  clear c0 f0 l0 f1 l1 c1 HW2 HR1 HBW1 HSZ1 HO1 HS1 HL1
  have c0 := HS2.out.cell 0
  have f0 := HS2.out.free 0
  have l0 := HS2.out.lt
  have c2 := HO2.out.cell 2
  simp at c0 c2
  go_upto_region 3 with (fail)
  have HS3 := Lib.hid (HS2.out.set 0 (.int .i64 (s + l)))
  have HO3 := Lib.hid (HO2.out.far ⟨gs, 0, none⟩ (Ne.symm HNS.out) (.int .i64 (s + l)))
  have HL3 := Lib.hid (HL2.out.far ⟨gs, 0, none⟩ (Ne.symm hg.e) (.int .i64 (s + l)))
  have HW3 := Lib.hid ((Wrote.refl gs W2).set (p := ⟨gs, 0, none⟩) (.inl rfl) (.int .i64 (s + l)))
  have HR3 := Lib.hid (row_wrote' HR2.out HW3.out (Ne.symm HN6.out))
  have HBW3 := Lib.hid (HBW2.out.setCell (p := ⟨gs, 0, none⟩) (by have := hg.a; simp; omega) (.int .i64 (s + l)))
  have HSZ3 := Lib.hid (Nat.le_trans HSZ2.out HW3.out.size)
  generalize W2.setCell ⟨gs, 0, none⟩ (.int .i64 (s + l)) = W3 at HO3 HS3 HL3 HR3 HBW3 HSZ3 ⊢
  clear c0 f0 l0 c2 HW3 HR2 HBW2 HSZ2 HO2 HS2 HL2
  have c0 := HL3.out.cell 0
  have d0 := HO3.out.cell 0
  have d1 := HO3.out.cell 1
  have d2 := HO3.out.cell 2
  have d3 := HO3.out.cell 3
  have d4 := HO3.out.cell 4
  have d5 := HO3.out.cell 5
  have d6 := HO3.out.cell 6
  have d7 := HO3.out.cell 7
  simp at c0 d0 d1 d2 d3 d4 d5 d6 d7
  go_wp2_with (at_builtin; refine pushR _ rfl (.tmp 10) (.tmp 12) 50 rfl base TSl i0 (.agg #[.int .i64 0, .int .i64 0, .int .i64 0, .int .i64 0, .int .i64 0, .int .i64 0, .int .i64 0, .bool false]) 8 64 Tryd.underlying50 hi hz0 hz1 hz2 rfl (by omega) _ _ _ rfl HR3.out (Sl.cells ⟨k, s, l, wo, ad, mn, cn, tk⟩) _ rfl rfl (fun u hu => by simp [Sl.cells] at hu; rcases hu with rfl | rfl | rfl | rfl | rfl | rfl | rfl | rfl <;> rfl) (by unfold maxLen; omega) (by omega) HSZ3.out ?_; intro v' w4 HR4 HB4 HG4 HK4; obtain ⟨A4, c4, rfl⟩ := own_slice HR4.out; have HL4 := Lib.hid (HL3.out.grown HG4.out HN7.out); have HS4 := Lib.hid (HS3.out.grown HG4.out HN6.out); have e0 : w4.cell? ⟨gl, 0, none⟩ = some v := HL4.out.cell 0; have g0 : w4.frozen? ⟨gl, 0, none⟩ = false := HL4.out.free 0; have z0 : gl < w4.heap.size := HL4.out.lt)
  go_end0
  have HW5 := Lib.hid ((Wrote.refl gl w4).set (p := ⟨gl, 0, none⟩) (.inl rfl) (.slice A4 (ss.length + 1) c4))
  refine ⟨rfl, .slice A4 (ss.length + 1) c4, HS4.out.far ⟨gl, 0, none⟩ hg.e _, HL4.out.set 0 _, ?_, ?_, ?_, ?_, ?_⟩
  · have := row_wrote' HR4.out HW5.out (Ne.symm (ne_own (Nat.lt_succ_of_lt HL3.out.lt) HN7.out HK4.out))
    rw [slC_snoc, List.length_append]
    exact this
  · exact (HBW3.out.trans (HB4.out.mono hg.c)).setCell (p := ⟨gl, 0, none⟩) (by have := hg.b; simp; omega) _
  · exact Nat.le_trans HSZ3.out (Nat.le_trans HB4.out.size HW5.out.size)
  · exact ne_own (Nat.lt_succ_of_lt HS3.out.lt) HN6.out HK4.out
  · exact ne_own (Nat.lt_succ_of_lt HL3.out.lt) HN7.out HK4.out
end Go.Proofs.YtkankdecbefenaaDoor.Ly7
