/- A list that rises, with one more: package trace's rising, and the library's slices.Insert at one int; no condition but sizes. -/
import Derived.Shelf.Spec.SlicesInsert
import Derived.Shelf.Spec.SlicesInsertGrow
import Derived.Test.YtanhblokhcaoiaaDoorShl
import Derived.Test.YtanhblokhcaoiaaDoorTrcG
namespace Go.Proofs.YtanhblokhcaoiaaDoor.Ins
open Go Go.RowKit Go.Lib
set_option linter.unusedVariables false

def ren : Go.Shelf.Ren := ⟨fun | 21 => 69 | 27 => 78 | 28 => 79 | 35 => 86 | 39 => 89 | n => n, fun | 0 => 0 | 3 => 3 | 4 => 4 | 22 => 40 | n => n, fun | n => n⟩
set_option maxRecDepth 100000 in
theorem lays21 : Go.Proofs.Lays2.n21 Tryd.prog ren := {
  mixed := by kernel_rfl
  f21 := Tryd.func69.trans (congrArg some (by kernel_rfl))
  f27 := Tryd.func78.trans (congrArg some (by kernel_rfl))
  f28 := Tryd.func79.trans (congrArg some (by kernel_rfl))
  f35 := Tryd.func86.trans (congrArg some (by kernel_rfl))
  f39 := Tryd.func89.trans (congrArg some (by kernel_rfl))
  t0 := Tryd.underlying0
  a0 := Tryd.isAgg0
  z0 := Tryd.sizeOf0
  v0 := Tryd.zeroValue0
  t3 := Tryd.underlying3
  a3 := Tryd.isAgg3
  z3 := Tryd.sizeOf3
  v3 := Tryd.zeroValue3
  t4 := Tryd.underlying4
  a4 := Tryd.isAgg4
  z4 := Tryd.sizeOf4
  v4 := Tryd.zeroValue4
  t22 := Tryd.underlying40
  a22 := Tryd.isAgg40
  z22 := Tryd.sizeOf40
  v22 := Tryd.zeroValue40
  i3 := by kernel_rfl }
end Go.Proofs.YtanhblokhcaoiaaDoor.Ins
namespace Go.Proofs.YtanhblokhcaoiaaDoor.Tr
open Go.ChangeShapes Go.WideShapes Go.ChangeAt Go.RowKit Base Go.Maps
open Hl (Ev TE TI)
set_option linter.unusedVariables false
set_option linter.unusedSimpArgs false

abbrev iV (x : Int) : Value := .int .i64 x
theorem iV_one (l : List Int) : ∀ v ∈ l.map iV, v.oneCell' = true := by
  intro v hv
  obtain ⟨x, _, rfl⟩ := List.mem_map.1 hv
  rfl
def putL (cs : Array Value) : Nat → List Value → Array Value
  | _, [] => cs
  | o, v :: r => putL (cs.setIfInBounds o v) (o + 1) r
theorem putL_size : ∀ (vs : List Value) (cs : Array Value) (o : Nat), (putL cs o vs).size = cs.size
  | [], cs, o => rfl
  | v :: r, cs, o => by
    show (putL (cs.setIfInBounds o v) (o + 1) r).size = _
    rw [putL_size r, Array.size_setIfInBounds]
theorem putL_get : ∀ (vs : List Value) (cs : Array Value) (o j : Nat), o + vs.length ≤ cs.size → (putL cs o vs)[j]? = if o ≤ j ∧ j < o + vs.length then vs[j - o]? else cs[j]?
  | [], cs, o, j, h => by
    show cs[j]? = _
    rw [if_neg (by simp only [List.length_nil]; omega)]
  | v :: r, cs, o, j, h => by
    simp only [List.length_cons] at h
    show (putL (cs.setIfInBounds o v) (o + 1) r)[j]? = _
    rw [putL_get r _ (o + 1) j (by simp; omega)]
    simp only [List.length_cons]
    rcases Nat.lt_trichotomy j o with hj | rfl | hj
    · rw [if_neg (by omega), if_neg (by omega), Array.getElem?_setIfInBounds_ne (by omega)]
    · rw [if_neg (by omega), if_pos (by omega), Array.getElem?_setIfInBounds_self_of_lt (by omega)]
      simp
    · by_cases hl : j < o + 1 + r.length
      · rw [if_pos (by omega), if_pos (by omega), show j - o = (j - (o + 1)) + 1 by omega]
        rfl
      · rw [if_neg (by omega), if_neg (by omega), Array.getElem?_setIfInBounds_ne (by omega)]
theorem obj_sets {T : TypeId} {b : Nat} : ∀ (vs : List Value) (o : Nat) (w : World) (cs : Array Value), Obj1 w b T cs → Obj1 (w.setCells b o vs) b T (putL cs o vs)
  | [], _, _, _, h => h
  | v :: r, o, w, cs, h => obj_sets r (o + 1) _ _ (h.set o v)
theorem wrote_sets {b : Nat} : ∀ (vs : List Value) (o : Nat) (w w' : World), Wrote b w w' → Wrote b w (w'.setCells b o vs)
  | [], _, _, _, h => h
  | v :: r, o, w, w', h => wrote_sets r (o + 1) w _ (h.set (.inl rfl) v)
theorem below_sets {b B : Nat} {a : World} (hb : B ≤ b) : ∀ (vs : List Value) (o : Nat) (w : World), Below B a w → Below B a (w.setCells b o vs)
  | [], _, _, h => h
  | v :: r, o, w, h => below_sets hb r (o + 1) _ (h.setCell hb v)
theorem own_of {w : World} {base g c : Nat} {T : TypeId} {cur : Array Value} {xs : List Value} (hg : Obj1 w g T cur) (hb : base ≤ g) (hn : xs.length ≤ c) (hm : c ≤ maxLen) (hs : cur.size = c) (hx : ∀ j, j < xs.length → cur[j]? = xs[j]?) : w.ownsRow base T 1 (.slice (some ⟨g, 0, none⟩) xs.length c) xs.length xs :=
  ⟨by omega, .inr ⟨g, c, cur, rfl, hb, hg, hn, hm, by omega, by
    refine List.ext_getElem? (fun j => ?_)
    rw [List.getElem?_take]
    by_cases hj : j < xs.length
    · rw [if_pos (by omega), ← hx j hj, Array.getElem?_toList]
    · rw [if_neg (by omega), List.getElem?_eq_none (by omega)]⟩⟩
theorem grown_of {w w' : World} {row : Option Nat} (h : Below w.heap.size w w') : w.grownBy w' row := ⟨h.os, h.tape, h.output, h.size, fun k hk _ => h.block k hk⟩
def insL (l : List Int) (i : Nat) (x : Int) : List Int := l.take i ++ [x] ++ l.drop i
theorem insL_len (l : List Int) (i : Nat) (x : Int) (h : i ≤ l.length) : (insL l i x).length = l.length + 1 := by simp [insL]; omega
theorem insL_get (l : List Int) (i : Nat) (x : Int) (h : i ≤ l.length) (j : Nat) : ((insL l i x).map iV)[j]? = if j < i then (l.map iV)[j]? else if j = i then some (iV x) else (l.map iV)[j - 1]? := by
  rw [List.getElem?_map, List.getElem?_map, List.getElem?_map]
  unfold insL
  rcases Nat.lt_trichotomy j i with hj | rfl | hj
  · rw [if_pos hj, List.getElem?_append_left (by simp; omega), List.getElem?_append_left (by simp; omega), List.getElem?_take, if_pos hj]
  · rw [if_neg (by omega), if_pos rfl, List.getElem?_append_left (by simp; omega), List.getElem?_append_right (by simp; omega)]
    simp [show j - min j l.length = 0 by omega]
  · rw [if_neg (by omega), if_neg (by omega), List.getElem?_append_right (by simp; omega)]
    rw [List.getElem?_drop]
    simp only [List.length_append, List.length_take, List.length_cons, List.length_nil]
    rw [show i + (j - (min i l.length + (0 + 1))) = j - 1 by omega]
/-- Whose block it is behind a call: the same, or a new one. -/
def Grew (w : World) (v v' : Value) : Prop := v'.ownBlock = v.ownBlock ∨ v'.ownBlock = some w.heap.size
set_option maxHeartbeats 1000000 in
theorem insert_any (base : Nat) (v : Value) (l : List Int) (i : Nat) (x : Int) (vb : Nat) (W : World) (hO : W.ownsRow base TI 1 v l.length (l.map iV)) (hi : i ≤ l.length) (hv : Obj1 W vb TI #[.int .i64 x]) (hne : v.ownBlock ≠ some vb) (hb : base ≤ W.heap.size) (hn : l.length ≤ 100000) :
    Calls Tryd.prog 69 #[v, .int .i64 i, .slice (some ⟨vb, 0, none⟩) 1 1] W fun e' w' => ∃ v', e' = .returned v' ∧ w'.ownsRow base TI 1 v' (insL l i x).length ((insL l i x).map iV) ∧ W.grownBy w' v.ownBlock ∧ Grew W v v' := by
  have hil := insL_len l i x hi
  have hvs : ∀ (j : Nat) (u : Value), [Value.int .i64 x][j]? = some u → W.cell? ⟨vb, 0 + j, none⟩ = some u := by
    intro j u hj
    have : j = 0 := by have := (List.getElem?_eq_some_iff.1 hj).1; simpa using this
    subst this
    rw [hv.cell]
    exact hj
  have h1v : ∀ v ∈ [Value.int .i64 x], v.oneCell' = true := by intro v hv; simp at hv; subst hv; rfl
  have hmx : (100001 : Nat) ≤ maxLen := by unfold maxLen; omega
  have hxl : ((insL l i x).map iV).length = (insL l i x).length := by simp
  rcases hO.2 with ⟨rfl, h0⟩ | ⟨g, cap, cur, rfl, hbg, hg, hnc, hcm, hcs, htake⟩
  · obtain rfl : l = [] := List.length_eq_zero_iff.1 h0
    obtain rfl : i = 0 := by simpa using hi
    refine (Any2.slices_Insert_int_end_grow Ins.lays21 none 0 0 vb 0 1 1 [] [.int .i64 x] W (by omega) (by omega) (by omega) (by omega) rfl rfl (fun _ => rfl) (fun a ha => by cases ha) hvs h1v).mono ?_
    rintro e' w' ⟨rfl, rfl⟩
    rw [show Ins.ren.t 3 = TI from rfl]
    have hcg := grownCap_ge W (0 + 1) 0 TI
    have hcl := grownCap_le_maxLen W (0 + 1) 0 TI (by unfold maxLen; omega)
    generalize grownCap W (0 + 1) 0 TI = C at hcg hcl ⊢
    refine ⟨_, rfl, ?_, grown_of ((bel_drew W).trans (show Below W.heap.size W.drew _ from bel_new W.drew _)), .inr rfl⟩
    exact own_of (xs := [iV x]) (g := W.heap.size) (Obj1.new _ _ _) hb (by simpa using hcg) hcl (by rw [Array.size_append, size_zeroCells]; simp [Value.cells]; omega) (fun j hj => by
        have : j = 0 := by simpa using hj
        subst this
        rw [Array.getElem?_append_left (by simp)]
        rfl)
  · have hlc : ∀ (j : Nat) (u : Value), (l.map iV)[j]? = some u → cur[j]? = some u := by
      intro j u hj
      have hjl : j < l.length := by have := (List.getElem?_eq_some_iff.1 hj).1; simpa using this
      rw [← htake, List.getElem?_take, if_pos (by omega), Array.getElem?_toList] at hj
      exact hj
    have hO1 : Obj1 W g TI cur := hg
    have hcell : ∀ (j : Nat) (u : Value), (l.map iV)[j]? = some u → W.cell? ⟨g, 0 + j, none⟩ = some u := by
      intro j u hj
      rw [hO1.cell, Nat.zero_add]
      exact hlc j u hj
    have hgv : g ≠ vb := fun e => hne (by rw [e]; rfl)
    have hcz : cur.size = cap := by omega
    have hme : l.length ≤ 100000 := hn
    by_cases hin : i < l.length
    · by_cases hrm : l.length + 1 ≤ cap
      · refine (Any2.slices_Insert_int_shift Ins.lays21 g 0 l.length cap i vb 0 1 1 (l.map iV) [.int .i64 x] W hin (by omega) hrm (by unfold maxLen at hcm; omega) (Ne.symm hgv) (by simp) rfl hcell
          (fun j hj => by rw [hO1.cell, Array.getElem?_eq_getElem (by omega)]; rfl) (fun j hj => hO1.free _) hvs (iV_one l) h1v TI TI 1 cap (by unfold World.shape?; rw [hv]; rfl) (by unfold World.shape?; rw [hg]; simp [hcz]) (by omega) (hv.free _) (hv.free _)).mono ?_
        rintro e' w' ⟨rfl, rfl⟩
        have o1 := obj_sets ((l.map iV).drop i) (0 + (i + 1)) W.drew cur hO1
        have o2 := obj_sets [Value.int .i64 x] (0 + i) _ _ o1
        have hsz : (putL cur (0 + (i + 1)) ((l.map iV).drop i)).size = cap := by rw [putL_size, hcz]
        refine ⟨_, rfl, ?_, wrote_sets _ _ _ _ (wrote_sets _ _ _ _ (Wrote.refl g W).drew), .inl rfl⟩
        rw [← hxl, show l.length + 1 = ((insL l i x).map iV).length by rw [hxl, hil]]
        refine own_of o2 hbg (by rw [hxl, hil]; omega) hcm (by rw [putL_size, hsz]) (fun j hj => ?_)
        rw [hxl, hil] at hj
        rw [putL_get _ _ _ _ (by rw [hsz]; simp; omega), insL_get l i x hi]
        rcases Nat.lt_trichotomy j i with h | rfl | h
        · rw [if_neg (by simp; omega), if_pos h, putL_get _ _ _ _ (by rw [hcz]; simp; omega), if_neg (by simp; omega)]
          rw [List.getElem?_eq_getElem (by simp; omega)]
          exact hlc j _ (List.getElem?_eq_getElem (by simp; omega))
        · rw [if_pos (by simp), if_neg (by omega), if_pos rfl]
          simp
        · rw [if_neg (by simp; omega), if_neg (by omega), if_neg (by omega), putL_get _ _ _ _ (by rw [hcz]; simp; omega), if_pos (by simp; omega), List.getElem?_drop]
          rw [show i + (j - (0 + (i + 1))) = j - 1 by omega]
      · have hcap : cap = l.length := by omega
        refine (Any2.slices_Insert_int_grow Ins.lays21 g 0 l.length cap i vb 0 1 1 (l.map iV) [.int .i64 x] W hin (by omega) hnc (by omega) (by omega) (by simp) rfl hcell hvs (iV_one l) h1v).mono ?_
        rintro e' w' ⟨rfl, rfl⟩
        have hcg := grownCap_ge W (l.length + 1) cap TI
        have hcl := grownCap_le_maxLen W (l.length + 1) cap TI (by omega)
        obtain ⟨C, hC⟩ : ∃ C, grownCap W (l.length + 1) cap TI = C := ⟨_, rfl⟩
        obtain ⟨c0, hc0⟩ : ∃ c0, (((l.map iV).take i).toArray ++ Builtin.zeroCells (Value.int .i64 0).cells (l.length + 1 - i) ++ Builtin.zeroCells (Value.int .i64 0).cells (C - (l.length + 1))) = c0 := ⟨_, rfl⟩
        have hz0 : c0.size = C := by rw [← hc0, Array.size_append, Array.size_append, size_zeroCells, size_zeroCells]; rw [hC] at hcg; simp [Value.cells]; omega
        rw [show Ins.ren.t 3 = TI from rfl]
        rw [hC, hc0]
        rw [hC] at hcg hcl
        have o0 : Obj1 (W.alloc (.cells c0 TI)).drew W.heap.size TI c0 := Obj1.new _ _ _
        have o1 := obj_sets [Value.int .i64 x] i _ _ o0
        have o2 := obj_sets ((l.map iV).drop i) (i + 1) _ _ o1.drew
        have hb0 : Below W.heap.size W ((((W.alloc (.cells c0 TI)).drew.setCells W.heap.size i [.int .i64 x]).drew).setCells W.heap.size (i + 1) ((l.map iV).drop i)) :=
          below_sets (Nat.le_refl _) _ _ _ (below_sets (Nat.le_refl _) _ _ _ (bel_new W _).drew).drew
        refine ⟨_, rfl, ?_, Wrote.of_below hb0, .inr rfl⟩
        rw [← hxl, show l.length + 1 = ((insL l i x).map iV).length by rw [hxl, hil]]
        refine own_of o2 hb (by rw [hxl, hil]; omega) hcl (by rw [putL_size, putL_size, hz0]) (fun j hj => ?_)
        rw [hxl, hil] at hj
        rw [putL_get _ _ _ _ (by rw [putL_size, hz0]; simp; omega), insL_get l i x hi]
        rcases Nat.lt_trichotomy j i with h | rfl | h
        · rw [if_neg (by simp; omega), if_pos h, putL_get _ _ _ _ (by rw [hz0]; simp; omega), if_neg (by simp; omega), ← hc0, Array.getElem?_append_left (by simp [size_zeroCells, Value.cells]; omega), Array.getElem?_append_left (by simp; omega)]
          rw [List.getElem?_toArray, List.getElem?_take, if_pos h]
        · rw [if_neg (by omega), if_neg (by omega), if_pos rfl, putL_get _ _ _ _ (by rw [hz0]; simp; omega), if_pos (by simp)]
          simp
        · rw [if_pos (by simp; omega), if_neg (by omega), if_neg (by omega), List.getElem?_drop, show i + (j - (i + 1)) = j - 1 by omega]
    · obtain rfl : i = l.length := by omega
      have hdr : insL l l.length x = l ++ [x] := by simp [insL]
      by_cases hrm : l.length + 1 ≤ cap
      · refine (Any2.slices_Insert_int_end_room Ins.lays21 g 0 l.length cap vb 0 1 1 [.int .i64 x] W (by omega) hrm (by unfold maxLen at hcm; omega) rfl (fun j hj => by rw [hO1.cell, Array.getElem?_eq_getElem (by omega)]; rfl) (fun j hj => hO1.free _) hvs h1v).mono ?_
        rintro e' w' ⟨rfl, rfl⟩
        have o1 := obj_sets [Value.int .i64 x] (0 + l.length) W cur hO1
        refine ⟨_, rfl, ?_, wrote_sets _ _ _ _ (Wrote.refl g W), .inl rfl⟩
        rw [← hxl, show l.length + 1 = ((insL l l.length x).map iV).length by rw [hxl, hil]]
        refine own_of o1 hbg (by rw [hxl, hil]; omega) hcm (by rw [putL_size, hcz]) (fun j hj => ?_)
        rw [hxl, hil] at hj
        rw [putL_get _ _ _ _ (by rw [hcz]; simp; omega), insL_get l _ x hi]
        by_cases h : j < l.length
        · rw [if_neg (by simp; omega), if_pos h]
          rw [List.getElem?_eq_getElem (by simp; omega)]
          exact hlc j _ (List.getElem?_eq_getElem (by simp; omega))
        · obtain rfl : j = l.length := by omega
          rw [if_pos (by simp), if_neg (by omega), if_pos rfl]
          simp
      · have hcap : cap = l.length := by omega
        refine (Any2.slices_Insert_int_end_grow Ins.lays21 (some ⟨g, 0, none⟩) l.length cap vb 0 1 1 (l.map iV) [.int .i64 x] W (by omega) hnc (by omega) (by omega) (by simp) rfl (fun h => by cases h) (fun a ha j u hj => by cases ha; rw [add_eq]; exact hcell j u hj) hvs h1v).mono ?_
        rintro e' w' ⟨rfl, rfl⟩
        rw [show Ins.ren.t 3 = TI from rfl]
        have hcg := grownCap_ge W (l.length + 1) cap TI
        have hcl := grownCap_le_maxLen W (l.length + 1) cap TI (by omega)
        have hbd : Below W.heap.size W (W.drew.alloc (.cells ((l.map iV ++ [iV x]).toArray ++ Builtin.zeroCells (Value.int .i64 0).cells (grownCap W (l.length + 1) cap TI - (l.length + 1))) TI)) := (bel_drew W).trans (show Below W.heap.size W.drew _ from bel_new W.drew _)
        refine ⟨_, rfl, ?_, Wrote.of_below hbd, .inr rfl⟩
        have hmm : (insL l l.length x).map iV = l.map iV ++ [iV x] := by rw [hdr]; simp
        rw [← hxl, hmm, show l.length + 1 = (l.map iV ++ [iV x]).length by simp]
        rw [show (l.map iV ++ [iV x]).length = l.length + 1 by simp] at *
        have := own_of (w := W.drew.alloc (.cells ((l.map iV ++ [iV x]).toArray ++ Builtin.zeroCells (Value.int .i64 0).cells (grownCap W (l.length + 1) cap TI - (l.length + 1))) TI)) (base := base) (c := grownCap W (l.length + 1) cap TI) (xs := l.map iV ++ [iV x]) (g := W.heap.size) (Obj1.new _ _ _) hb (by simpa using hcg) hcl (by rw [Array.size_append, size_zeroCells]; simp [Value.cells]; omega) (fun j hj => by
          rw [Array.getElem?_append_left (by simpa using hj), List.getElem?_toArray])
        simpa using this
end Go.Proofs.YtanhblokhcaoiaaDoor.Tr
