/- Any modules have of any events as many of each kind as the document says, and the document's text: for every list of events and modules; no condition. -/
import Derived.RegionTactic
import Derived.IntWalk
import Derived.Deep.DeepCutAuto
import Derived.Deep.CutBlock
import Derived.Stop.LaidErr
import Derived.Test.YtanhblokhcaoiaaDoorHthD
import Derived.Test.YtanhblokhcaoiaaDoorSh
import Derived.Test.YtanhblokhcaoiaaDoorShAr
import Derived.Test.YtanhblokhcaoiaaDoorArr
import Derived.Test.YtanhblokhcaoiaaDoorBox
import Derived.Test.YtanhblokhcaoiaaDoorTie
import Derived.Test.YtanhblokhcaoiaaDoorCards
import Derived.Test.YtanhblokhcaoiaaDoorLaid
import Derived.LaidMore
import Derived.SevenTiedAt
import Derived.Stop.Joined
import Derived.Test.YtanhblokhcaoiaaDoorRows
import Derived.WalkKit
import Derived.ProofKit
import Derived.OpenShut
import Derived.ShutString
import Derived.ChangeOld
import Derived.Below
namespace Go.Proofs.YtanhblokhcaoiaaDoor.lawHealthCounts
open Go.ChangeShapes Go.WideShapes Go.ChangeAt Go.RowKit Base
open Go.ChangeMaps (open_string shut_string)
set_option linter.unusedVariables false
set_option linter.unusedSimpArgs false
theorem own : ownKnob Tryd.prog.godebug = none := by kernel_rfl
theorem laidOut : laidOutB Tryd.prog = true := by kernel_rfl
open Hl

abbrev shE : Sh := .fld (.int .i64) (.fld (.int .i64) (.fld (.int .i64) (.fld (.int .i64) (.fld (.int .i64) (.fld (.int .i64) (.fld (.int .i64) (.fld (.sl (.int .u8)) .nil)))))))
abbrev shH : Sh := .fld (.int .i64) (.fld (.int .i64) (.fld (.int .i64) (.fld (.int .i64) (.fld (.int .i64) (.fld (.int .i64) (.fld (.int .i64) .nil))))))
def Ld (w : World) : Prop := Txt.Lf w
theorem of_laid {W : World} (h : laidMetH Tryd.prog Rows.healthCountsRow.laid W) : Ld W := by
  rw [MakeChecks.laidMetH_plain _ _ _ (by kernel_rfl)] at h
  have h1 := laidMet.tail (laidMet.tail h)
  exact Lib.tabIs_of_head (g := 1) (t := 125) (e := 75) (n := 20) (by kernel_rfl) (by kernel_rfl) Tryd.underlying125 Tryd.underlying75 (by kernel_rfl) (by kernel_rfl) h1
theorem evs_in {w : World} {A : Option Addr} {n : Nat} {rows : List (List Value)} (hg : Grid w A n 8 rows) (hr : ∀ r ∈ rows, Reads w shE r) : ∃ ls : List Ev, EvsAt w A n ls ∧ ∀ x ∈ ls, W64 x.m := by
  have hx : ∃ ls : List Ev, rows = ls.map evL ∧ ∀ x ∈ ls, W64 x.m := by
    clear hg
    induction rows with
    | nil => exact ⟨[], rfl, fun x hx => by cases hx⟩
    | cons r rs ih =>
      obtain ⟨xs, rfl, hx⟩ := ih (fun r hr' => hr r (by simp [hr']))
      obtain ⟨_, _, rfl, ⟨a0, rfl, ha0⟩, _, _, rfl, ⟨a1, rfl, ha1⟩, _, _, rfl, ⟨a2, rfl, ha2⟩, _, _, rfl, ⟨a3, rfl, ha3⟩, _, _, rfl, ⟨a4, rfl, ha4⟩, _, _, rfl, ⟨a5, rfl, ha5⟩, _, _, rfl, ⟨a6, rfl, ha6⟩, _, _, rfl, ⟨A', n', c', _, rfl, _, _, _, _⟩, hz⟩ := hr r (by simp)
      have hz' : (_ : List Value) = [] := hz
      subst hz'
      refine ⟨⟨a0, a1, a2, a3, a4, a5, a6, A', n', c'⟩ :: xs, rfl, fun q hq => ?_⟩
      rcases List.mem_cons.1 hq with rfl | hq
      · exact bounds_i64 ha1
      · exact hx q hq
  obtain ⟨ls, rfl, hx⟩ := hx
  refine ⟨ls, ⟨by simpa using hg.1, fun hn => ?_⟩, hx⟩
  obtain ⟨b, off, e, hb, hc⟩ := hg.2 hn
  refine ⟨b, off, e, hb, fun i x hx j hj => ?_⟩
  have hi : i < n := by have := (List.getElem?_eq_some_iff.1 hx).1; have := hg.1; simp at this; omega
  have h := hc i j hi (by omega)
  rw [show off + i * 8 + j = off + (i * 8 + j) by omega, h, List.getElem?_map, hx]
  rfl
theorem health_in {w : World} {cs : Array Value} (h : Reads w shH cs.toList) : ∃ f : Nat → Int, cs = c7 f ∧ ∀ i, -9223372036854775808 ≤ f i ∧ f i ≤ 9223372036854775807 := by
  obtain ⟨_, _, e0, ⟨a0, rfl, ha0⟩, _, _, rfl, ⟨a1, rfl, ha1⟩, _, _, rfl, ⟨a2, rfl, ha2⟩, _, _, rfl, ⟨a3, rfl, ha3⟩, _, _, rfl, ⟨a4, rfl, ha4⟩, _, _, rfl, ⟨a5, rfl, ha5⟩, _, _, rfl, ⟨a6, rfl, ha6⟩, hz⟩ := h
  obtain ⟨l⟩ := cs
  obtain rfl := (show _ = [] from hz)
  simp at e0
  subst e0
  refine ⟨fun i => if i = 0 then a0 else if i = 1 then a1 else if i = 2 then a2 else if i = 3 then a3 else if i = 4 then a4 else if i = 5 then a5 else a6, rfl, fun i => ?_⟩
  have b0 := bounds_i64 ha0
  have b1 := bounds_i64 ha1
  have b2 := bounds_i64 ha2
  have b3 := bounds_i64 ha3
  have b4 := bounds_i64 ha4
  have b5 := bounds_i64 ha5
  have b6 := bounds_i64 ha6
  dsimp only
  repeat' split
  all_goals omega
theorem cI_snoc (L : List Ev) (x : Ev) (i : Nat) : cI (L ++ [x]) i = cI L i + (if x.k = (i : Int) + 1 then 1 else 0) := by
  unfold cI cnt
  rw [List.filter_append, List.length_append]
  by_cases e : x.k = (i : Int) + 1 <;> simp [e]
theorem cI_bd (L : List Ev) (i : Nat) (h : L.length ≤ 100) : 0 ≤ cI L i ∧ cI L i ≤ 100 := by
  have := cnt_le ((i : Int) + 1) L
  unfold cI
  omega
theorem c7_congr {f g : Nat → Int} (h : ∀ i, i < 7 → f i = g i) : c7 f = c7 g := by
  unfold c7
  rw [h 0 (by omega), h 1 (by omega), h 2 (by omega), h 3 (by omega), h 4 (by omega), h 5 (by omega), h 6 (by omega)]
theorem c7_set (f g : Nat → Int) {i : Nat} (hi : i < 7) (v : Int) (h : ∀ j, j < 7 → g j = if j = i then v else f j) : (c7 f).setIfInBounds i (.int .i64 v) = c7 g := by
  rw [c7_congr h]
  rcases seven hi with rfl | rfl | rfl | rfl | rfl | rfl | rfl <;> rfl
theorem eq7 (f : Nat → Int) (w : World) : (Op.equalIn 10000 T7 (.agg #[.int .i64 (f 0), .int .i64 (f 1), .int .i64 (f 2), .int .i64 (f 3), .int .i64 (f 4), .int .i64 (f 5), .int .i64 (f 6)]) (.agg #[.int .i64 (f 0), .int .i64 (f 1), .int .i64 (f 2), .int .i64 (f 3), .int .i64 (f 4), .int .i64 (f 5), .int .i64 (f 6)])).run Tryd.prog w = .ok true w := by
  obtain ⟨i, hi, _⟩ := info_three (show (Tryd.prog.info? 3).map (fun i => (i.zero, i.size, i.bytes)) = some (some (.int .i64 0), 1, 8) by kernel_rfl)
  rw [show (10000 : Nat) = 9999 + 1 from rfl, run_equalIn_array w 9999 _ _ Tryd.underlying43 hi, show Tryd.prog.cellsOf 3 = 1 by kernel_rfl,
    eqItems_arr w 9999 (by kernel_rfl) _ _ (fun i => .int .i64 (f i)) (fun i => .int .i64 (f i)) (fun i => f i == f i) (fun i => run_equalIn_int w 9998 _ .i64 .i64 _ _ Tryd.underlying3) (List.range 7) (fun i hi => by
      rcases seven (List.mem_range.1 hi) with rfl | rfl | rfl | rfl | rfl | rfl | rfl <;> exact ⟨rfl, rfl⟩)]
  simp [List.range_succ]
theorem dec_next {ms : List Int} {j : Nat} {x : Int} (h : ms[j]? = some x) (y : Int) : decide (0 < (ms.take (j + 1)).count y) = (decide (0 < (ms.take j).count y) || x == y) := by
  rw [count_next h, List.count_append]
  by_cases e : x = y
  · simp [e]
  · simp [List.count_cons, e]
set_option maxRecDepth 100000 in
set_option maxHeartbeats 8000000 in
theorem go (A : Option Addr) (n c : Nat) (ls : List Ev) (B : Option Addr) (m d : Nat) (ms : List Int) (o : Nat → Int) (w : World) (hU : Ld w) (hE : EvsAt w A n ls) (hM : Lst w B m (ms.map (Value.int .i64))) (hw : ∀ x ∈ ms, W64 x) (hv : ∀ x ∈ ls, W64 x.m) (ho : ∀ i, -9223372036854775808 ≤ o i ∧ o i ≤ 9223372036854775807) (hn64 : n ≤ 9223372036854775807) (hm64 : m ≤ 9223372036854775807) :
    Calls Tryd.prog 5 #[.slice A n c, .slice B m d, .agg #[.int .i64 (o 0), .int .i64 (o 1), .int .i64 (o 2), .int .i64 (o 3), .int .i64 (o 4), .int .i64 (o 5), .int .i64 (o 6)]] w fun e w' => e = .returned (.bool true) ∧ Below w.heap.size w w' := by
  obtain ⟨g5, HG5⟩ : ∃ g, Hid (w.heap.size = g) := ⟨_, Lib.hid rfl⟩
  obtain ⟨g7, HG7⟩ : ∃ g, Hid (g5 + 1 = g) := ⟨_, Lib.hid rfl⟩
  obtain ⟨W1, HW1⟩ : ∃ W, Hid (W = w.alloc (.cells #[.int .i64 (o 0), .int .i64 (o 1), .int .i64 (o 2), .int .i64 (o 3), .int .i64 (o 4), .int .i64 (o 5), .int .i64 (o 6)] TH)) := ⟨_, Lib.hid rfl⟩
  have hb1 : Below w.heap.size w W1 := by rw [HW1.out]; exact bel_new _ _
  by_cases h100 : 100 < n
  · have h100i : (100 : Int) < (n : Int) := by omega
    have HB1 := Lib.hid hb1
    clear hb1
    go_enter Tryd.func5, Tryd.ntmps5
    go_upto_region 1 with (fail)
    rw [← HW1.out, HG5.out]
    clear HW1
    go_wp2
    go_ret
    exact ⟨rfl, HB1.out⟩
  have h100i : ¬ (100 : Int) < (n : Int) := by omega
  by_cases h40 : 40 < m
  · have h40i : (40 : Int) < (m : Int) := by omega
    have HB1 := Lib.hid hb1
    clear hb1
    go_enter Tryd.func5, Tryd.ntmps5
    go_upto_region 1 with (fail)
    rw [← HW1.out, HG5.out]
    clear HW1
    go_wp2
    go_ret
    exact ⟨rfl, HB1.out⟩
  have h40i : ¬ (40 : Int) < (m : Int) := by omega
  have hn : n ≤ 100 := by omega
  have hm : m ≤ 40 := by omega
  have s1 : W1.heap.size = g7 := by rw [HW1.out, ← HG7.out, ← HG5.out]; simp
  obtain ⟨W2, HW2⟩ : ∃ W, Hid (W = W1.alloc (.cells #[.int .i64 0, .int .i64 0, .int .i64 0, .int .i64 0, .int .i64 0, .int .i64 0, .int .i64 0] T7)) := ⟨_, Lib.hid rfl⟩
  have hb2 : Below W1.heap.size W1 W2 := by rw [HW2.out]; exact bel_new _ _
  have HB2 : Hid (Below w.heap.size w W2) := Lib.hid (hb1.trans (hb2.mono hb1.size))
  have HO2 : Hid (Obj1 W2 g5 TH (c7 o)) := Lib.hid ((show Obj1 W1 g5 TH (c7 o) by rw [HW1.out, ← HG5.out]; exact Obj1.new _ _ _).kept hb2)
  have HN2 : Hid (Obj1 W2 g7 T7 (c7 (cI (Hl.own ms (ls.take 0))))) := Lib.hid (by
    rw [show c7 (cI (Hl.own ms (ls.take 0))) = #[.int .i64 0, .int .i64 0, .int .i64 0, .int .i64 0, .int .i64 0, .int .i64 0, .int .i64 0] from rfl, HW2.out, ← s1]
    exact Obj1.new _ _ _)
  have HS1 := Lib.hid s1
  have HGG : Hid (w.heap.size ≤ g5 ∧ w.heap.size ≤ g7 ∧ g5 ≠ g7) := Lib.hid (by have := HG5.out; have := HG7.out; omega)
  have HE := Lib.hid hE
  have HM := Lib.hid hM
  have HLN : Hid (ls.length = n) := Lib.hid hE.len
  have HLM : Hid (ms.length = m) := Lib.hid (by have := hM.1; simpa using this)
  have HWW := Lib.hid hw
  have HVV := Lib.hid hv
  have HOO := Lib.hid ho
  have HLD : Hid (∀ W, Below w.heap.size w W → Txt.Lf W) := Lib.hid (fun W h => Txt.Lf.kept hU h)
  clear hU hE hM hw hv ho hb1 hb2 s1 h100 h40 hn64 hm64
  go_enter Tryd.func5, Tryd.ntmps5
  go_upto_region 1 with (fail)
  rw [← HW1.out, HG5.out]
  go_upto_region 4 with (fail)
  rw [← HW2.out, HS1.out]
  clear HW1 HW2 HS1 HG5 HG7 h100i h40i
  go_wp2_with fail
  go_loopw [8] (fun i wx => ∃ j : Nat, j ≤ n ∧ i = .int .i64 j ∧ Hid (Obj1 wx g7 T7 (c7 (cI (Hl.own ms (ls.take j))))) ∧ Hid (Obj1 wx g5 TH (c7 o)) ∧ Below w.heap.size w wx) (fun i _ => n - (intOf i).toNat)
  case atStart => exact ⟨0, by omega, rfl, HN2, HO2, HB2.out⟩
  case round =>
    clear HN2 HO2 HB2
    obtain ⟨j, hj, rfl, HNJ, HOJ, hbj⟩ := hrel
    have HBJ := Lib.hid hbj
    by_cases hlt : j < n
    · have hji : (j : Int) < (n : Int) := by omega
      have hjl : j < ls.length := by rw [HLN.out]; exact hlt
      obtain ⟨x, hx⟩ : ∃ x, ls[j]? = some x := ⟨_, List.getElem?_eq_getElem hjl⟩
      have HX := Lib.hid hx
      have HNX := Lib.hid (own_next (ms := ms) hx)
      have HEW : Hid (∀ W, Below w.heap.size w W → _) := Lib.hid (fun W h => (HE.out.kept h).get hlt HX.out)
      have e0 : IntKind.i64.wrap ((j : Int) + 1) = (j : Int) + 1 := IntWalk.i64_in _ (by omega)
      obtain ⟨wb, hwb⟩ : ∃ wb, wb = wr := ⟨_, rfl⟩
      subst hwb
      obtain ⟨bs, HBS⟩ : ∃ b, Hid (wb.heap.size = b) := ⟨_, Lib.hid rfl⟩
      have HBB : Hid (∀ W, Below bs wb W → Below wb.heap.size wb W) := Lib.hid (fun W h => by rw [HBS.out]; exact h)
      have HBW : Hid (∀ W, Below bs wb W → Below w.heap.size w W) := Lib.hid (fun W h => HBJ.out.trans ((HBB.out W h).mono HBJ.out.size))
      clear hx hjl hbj
      go_wp2_with fail
      go_loopw [9, 10] (fun p i wx => ∃ q : Nat, q ≤ m ∧ i = .int .i64 q ∧ p = .bool (decide (0 < (ms.take q).count x.m)) ∧ Below bs wb wx) (fun _ i _ => m - (intOf i).toNat)
      case atStart => exact ⟨0, by omega, rfl, rfl, Below.refl _ _⟩
      case round =>
        obtain ⟨q, hq, rfl, rfl, hbq⟩ := hrel
        have HBQ := Lib.hid hbq
        obtain ⟨b, off, rfl, _, k0, k1, k2, k3, k4, k5, k6, k7⟩ := HEW.out wr (HBW.out _ hbq)
        by_cases hqm : q < m
        · as_aux_lemma =>
          have hqi : (q : Int) < (m : Int) := by omega
          have hql : q < ms.length := by rw [HLM.out]; exact hqm
          obtain ⟨b2, off2, rfl, _, hc⟩ := (HM.out.kept (HBW.out _ hbq)).get hqm
          rw [List.getElem_map] at hc
          obtain ⟨y, hy⟩ : ∃ y, ms[q]'hql = y := ⟨_, rfl⟩
          rw [hy] at hc
          have HY : Hid (ms[q]? = some y) := Lib.hid (by rw [List.getElem?_eq_getElem hql, hy])
          have HDN := Lib.hid (dec_next HY.out x.m)
          have e1 : IntKind.i64.wrap ((q : Int) + 1) = (q : Int) + 1 := IntWalk.i64_in _ (by omega)
          obtain ⟨z, HZ⟩ : ∃ z, Hid (x.m = z) := ⟨_, Lib.hid rfl⟩
          rw [HZ.out] at k1 HDN
          have hdn : decide (0 < (ms.take q).count x.m) = decide (0 < (ms.take q).count z) := by rw [HZ.out]
          rw [hdn]
          obtain ⟨p, hp⟩ : ∃ p, decide (0 < (ms.take q).count z) = p := ⟨_, rfl⟩
          rw [hp] at HDN ⊢
          obtain ⟨yz, hyz⟩ : ∃ p, (y == z) = p := ⟨_, rfl⟩
          rw [hyz] at HDN
          have K0 : ∀ u : Kin wr.drew, u.world.cell? ⟨b2, off2 + q, none⟩ = some (.int .i64 y) := fun u => Kin.at (w := wr.drew) hc u
          have K1 : ∀ u : Kin wr.drew, u.world.cell? ⟨b, off + j * 8 + 1, none⟩ = some (.int .i64 z) := fun u => Kin.at (w := wr.drew) k1 u
          clear hp hdn hy hql hbq k0 k2 k3 k4 k5 k6 k7
          cases p with
          | true =>
            rw [Bool.true_or] at HDN
            go_upto_region 11 with (fail)
            clear hc k1
            refine wp_region_specL 13 [.d (.bool true), .d (.bool true), .d undef, .d undef, .d undef, .d undef, .d undef, .d undef, .d undef, .d undef, .d undef, .d undef, .d (.bool true)] (by kernel_rfl) (by kernel_rfl) ?_
            refine spec_d rfl (fun x _ => gives_run (by go_simp)) ?_
            try simp only [Act.put, List.getElem_toArray, List.getElem_cons_succ, List.getElem_cons_zero, List.setIfInBounds_toArray, List.set_cons_zero, List.set_cons_succ]
            refine spec_d rfl (fun x _ => gives_run (by go_simp)) ?_
            try simp only [Act.put, List.getElem_toArray, List.getElem_cons_succ, List.getElem_cons_zero, List.setIfInBounds_toArray, List.set_cons_zero, List.set_cons_succ]
            refine spec_skip (by kernel_rfl) ?_
            try simp only [Act.put, List.getElem_toArray, List.getElem_cons_succ, List.getElem_cons_zero, List.setIfInBounds_toArray, List.set_cons_zero, List.set_cons_succ]
            refine spec_skip (by kernel_rfl) ?_
            try simp only [Act.put, List.getElem_toArray, List.getElem_cons_succ, List.getElem_cons_zero, List.setIfInBounds_toArray, List.set_cons_zero, List.set_cons_succ]
            refine spec_skip (by kernel_rfl) ?_
            try simp only [Act.put, List.getElem_toArray, List.getElem_cons_succ, List.getElem_cons_zero, List.setIfInBounds_toArray, List.set_cons_zero, List.set_cons_succ]
            refine spec_skip (by kernel_rfl) ?_
            try simp only [Act.put, List.getElem_toArray, List.getElem_cons_succ, List.getElem_cons_zero, List.setIfInBounds_toArray, List.set_cons_zero, List.set_cons_succ]
            refine spec_skip (by kernel_rfl) ?_
            try simp only [Act.put, List.getElem_toArray, List.getElem_cons_succ, List.getElem_cons_zero, List.setIfInBounds_toArray, List.set_cons_zero, List.set_cons_succ]
            refine spec_skip (by kernel_rfl) ?_
            try simp only [Act.put, List.getElem_toArray, List.getElem_cons_succ, List.getElem_cons_zero, List.setIfInBounds_toArray, List.set_cons_zero, List.set_cons_succ]
            refine spec_skip (by kernel_rfl) ?_
            try simp only [Act.put, List.getElem_toArray, List.getElem_cons_succ, List.getElem_cons_zero, List.setIfInBounds_toArray, List.set_cons_zero, List.set_cons_succ]
            refine spec_skip (by kernel_rfl) ?_
            try simp only [Act.put, List.getElem_toArray, List.getElem_cons_succ, List.getElem_cons_zero, List.setIfInBounds_toArray, List.set_cons_zero, List.set_cons_succ]
            refine spec_skip (by kernel_rfl) ?_
            try simp only [Act.put, List.getElem_toArray, List.getElem_cons_succ, List.getElem_cons_zero, List.setIfInBounds_toArray, List.set_cons_zero, List.set_cons_succ]
            refine spec_skip (by kernel_rfl) ?_
            try simp only [Act.put, List.getElem_toArray, List.getElem_cons_succ, List.getElem_cons_zero, List.setIfInBounds_toArray, List.set_cons_zero, List.set_cons_succ]
            refine spec_d rfl (fun x _ => gives_run (by go_simp)) ?_
            try simp only [Act.put, List.getElem_toArray, List.getElem_cons_succ, List.getElem_cons_zero, List.setIfInBounds_toArray, List.set_cons_zero, List.set_cons_succ]
            refine spec_end (fun u hu => ?_)
            clear hu
            change wpAny _ _ _ _ (0 + 1) _ _ _
            refine wpAny_ready (rs := [13]) (by kernel_rfl) (by simp) ?_
            refine AllReady.cons rfl (fun KK hK => ?_) AllReady.nil
            go_simp
            refine hK _ _ ?_
            clear hK KK
            try simp only [Act.put, List.getElem_toArray, List.getElem_cons_succ, List.getElem_cons_zero, List.setIfInBounds_toArray, List.set_cons_zero, List.set_cons_succ]
            refine wpAny_done (by kernel_rfl) ?_ _
            have HB5 := Lib.hid (HBQ.out.trans (((bel_drew wr).trans u.below).mono (by have h1 := HBQ.out.size; have h2 := HBS.out; omega)))
            clear K0 K1
            generalize u.world = w5 at HB5 ⊢
            clear u
            go_wp2
            go_roundw
            case rel => exact ⟨q + 1, by omega, by go_num, by rw [HZ.out, HDN.out], HB5.out⟩
            case measure => simp [intOf]; omega
          | false =>
            rw [Bool.false_or] at HDN
            go_upto_region 11 with (fail)
            clear hc k1
            refine wp_region_specL 13 [.d (.bool false), .d (.bool false), .d (.slice (some ⟨b2, off2, none⟩) m d), .d (.int .i64 q), .d (.pointer (some ⟨b2, off2 + q, none⟩)), .d (.int .i64 y), .d (.slice (some ⟨b, off, none⟩) n c), .d (.int .i64 j), .d (.pointer (some ⟨b, off + j * 8, none⟩)), .d (.pointer (some ⟨b, off + j * 8 + 1, none⟩)), .d (.int .i64 z), .d (.bool yz), .d (.bool yz)] (by kernel_rfl) (by kernel_rfl) ?_
            refine spec_d rfl (fun x _ => gives_run (by go_simp)) ?_
            try simp only [Act.put, List.getElem_toArray, List.getElem_cons_succ, List.getElem_cons_zero, List.setIfInBounds_toArray, List.set_cons_zero, List.set_cons_succ]
            refine spec_d rfl (fun x _ => gives_run (by go_simp)) ?_
            try simp only [Act.put, List.getElem_toArray, List.getElem_cons_succ, List.getElem_cons_zero, List.setIfInBounds_toArray, List.set_cons_zero, List.set_cons_succ]
            refine spec_d rfl (fun x _ => gives_run (by go_simp)) ?_
            try simp only [Act.put, List.getElem_toArray, List.getElem_cons_succ, List.getElem_cons_zero, List.setIfInBounds_toArray, List.set_cons_zero, List.set_cons_succ]
            refine spec_d rfl (fun x _ => gives_run (by go_simp)) ?_
            try simp only [Act.put, List.getElem_toArray, List.getElem_cons_succ, List.getElem_cons_zero, List.setIfInBounds_toArray, List.set_cons_zero, List.set_cons_succ]
            refine spec_d rfl (fun x _ => gives_run (by go_simp)) ?_
            try simp only [Act.put, List.getElem_toArray, List.getElem_cons_succ, List.getElem_cons_zero, List.setIfInBounds_toArray, List.set_cons_zero, List.set_cons_succ]
            refine spec_d rfl (fun x _ => gives_run (by go_simp)) ?_
            try simp only [Act.put, List.getElem_toArray, List.getElem_cons_succ, List.getElem_cons_zero, List.setIfInBounds_toArray, List.set_cons_zero, List.set_cons_succ]
            refine spec_d rfl (fun x _ => gives_run (by go_simp)) ?_
            try simp only [Act.put, List.getElem_toArray, List.getElem_cons_succ, List.getElem_cons_zero, List.setIfInBounds_toArray, List.set_cons_zero, List.set_cons_succ]
            refine spec_d rfl (fun x _ => gives_run (by go_simp)) ?_
            try simp only [Act.put, List.getElem_toArray, List.getElem_cons_succ, List.getElem_cons_zero, List.setIfInBounds_toArray, List.set_cons_zero, List.set_cons_succ]
            refine spec_d rfl (fun x _ => gives_run (by go_simp)) ?_
            try simp only [Act.put, List.getElem_toArray, List.getElem_cons_succ, List.getElem_cons_zero, List.setIfInBounds_toArray, List.set_cons_zero, List.set_cons_succ]
            refine spec_d rfl (fun x _ => gives_run (by go_simp)) ?_
            try simp only [Act.put, List.getElem_toArray, List.getElem_cons_succ, List.getElem_cons_zero, List.setIfInBounds_toArray, List.set_cons_zero, List.set_cons_succ]
            refine spec_d rfl (fun x _ => gives_run (by go_simp)) ?_
            try simp only [Act.put, List.getElem_toArray, List.getElem_cons_succ, List.getElem_cons_zero, List.setIfInBounds_toArray, List.set_cons_zero, List.set_cons_succ]
            refine spec_d rfl (fun x _ => gives_run (by go_simp)) ?_
            try simp only [Act.put, List.getElem_toArray, List.getElem_cons_succ, List.getElem_cons_zero, List.setIfInBounds_toArray, List.set_cons_zero, List.set_cons_succ]
            refine spec_d rfl (fun x _ => gives_run (by go_simp)) ?_
            try simp only [Act.put, List.getElem_toArray, List.getElem_cons_succ, List.getElem_cons_zero, List.setIfInBounds_toArray, List.set_cons_zero, List.set_cons_succ]
            refine spec_end (fun u hu => ?_)
            clear hu
            change wpAny _ _ _ _ (0 + 1) _ _ _
            refine wpAny_ready (rs := [13]) (by kernel_rfl) (by simp) ?_
            refine AllReady.cons rfl (fun KK hK => ?_) AllReady.nil
            go_simp
            refine hK _ _ ?_
            clear hK KK
            try simp only [Act.put, List.getElem_toArray, List.getElem_cons_succ, List.getElem_cons_zero, List.setIfInBounds_toArray, List.set_cons_zero, List.set_cons_succ]
            refine wpAny_done (by kernel_rfl) ?_ _
            have HB5 := Lib.hid (HBQ.out.trans (((bel_drew wr).trans u.below).mono (by have h1 := HBQ.out.size; have h2 := HBS.out; omega)))
            clear K0 K1
            generalize u.world = w5 at HB5 ⊢
            clear u
            go_wp2
            go_roundw
            case rel => exact ⟨q + 1, by omega, by go_num, by rw [HZ.out, HDN.out], HB5.out⟩
            case measure => simp [intOf]; omega
        · have hqe : q = m := by omega
          subst hqe
          have HT : Hid (ms.take q = ms) := Lib.hid (List.take_of_length_le (by rw [HLM.out]; exact Nat.le_refl _))
          rw [HT.out]
          have HBN := Lib.hid (HBW.out _ hbq)
          have HNQ := Lib.hid (HNJ.out.kept (HBB.out _ hbq))
          have HOQ := Lib.hid (HOJ.out.kept (HBB.out _ hbq))
          clear hbq HBQ HNJ HOJ
          obtain ⟨L, HLL⟩ : ∃ L, Hid (Hl.own ms (ls.take j) = L) := ⟨_, Lib.hid rfl⟩
          rw [HLL.out] at HNX HNQ
          have HLE : Hid (L.length ≤ 100) := Lib.hid (by rw [← HLL.out]; exact Nat.le_trans (List.length_filter_le _ _) (by rw [List.length_take]; omega))
          obtain ⟨y, HY⟩ : ∃ y, Hid (x.k = y) := ⟨_, Lib.hid rfl⟩
          rw [HY.out] at k2
          by_cases hin : 0 < ms.count x.m
          · have hd : decide (0 < ms.count x.m) = true := decide_eq_true hin
            rw [hd]
            rw [if_pos hin] at HNX
            clear hd hin k0 k1 k3 k4 k5 k6 k7
            by_cases hy1 : 1 ≤ y
            · by_cases hy7 : y ≤ 7
              · obtain ⟨i, rfl⟩ : ∃ i : Nat, y = (i : Int) + 1 := ⟨(y - 1).toNat, by omega⟩
                have hi7 : i < 7 := by omega
                have hi7i : (i : Int) < 7 := by omega
                have hi0 : (0 : Int) ≤ (i : Int) := by omega
                have hcb := cI_bd L i HLE.out
                have hcl := cell7 HNQ.out hi7
                have hfr := HNQ.out.free i
                obtain ⟨v, hvv⟩ : ∃ v, cI L i = v := ⟨_, rfl⟩
                rw [hvv] at hcb hcl
                have ev1 : IntKind.i64.wrap (v + 1) = v + 1 := IntWalk.i64_in _ (by omega)
                have ev2 : IntKind.i64.wrap ((i : Int) + 1 - 1) = (i : Int) := by rw [IntWalk.i64_in _ (by omega)]; omega
                have ev3 : (i : Int) + 1 - 1 = (i : Int) := by omega
                have HCE : Hid ((c7 (cI L)).setIfInBounds i (.int .i64 (v + 1)) = c7 (cI (L ++ [x]))) := Lib.hid (c7_set _ _ hi7 _ (fun t ht => by
                  rw [cI_snoc, HY.out]
                  by_cases e : t = i
                  · rw [if_pos e, if_pos (by omega), e, hvv]
                  · rw [if_neg e, if_neg (by omega), Int.add_zero]))
                clear hvv
                go_upto_region 6 with (fail)
                have HS9 : Hid (Wrote g7 wr (wr.setCell ⟨g7, i, none⟩ (.int .i64 (v + 1)))) := Lib.hid ((Wrote.refl g7 wr).set (p := ⟨g7, i, none⟩) (.inl rfl) _)
                have HN9 : Hid (Obj1 (wr.setCell ⟨g7, i, none⟩ (.int .i64 (v + 1))) g7 T7 (c7 (cI (L ++ [x])))) := Lib.hid (by rw [← HCE.out]; exact HNQ.out.set i _)
                have HO9 := Lib.hid (HOQ.out.touch HS9.out HGG.out.2.2)
                have HB9 := Lib.hid (HBN.out.trans (HS9.out.below HGG.out.2.1 HBN.out.size))
                generalize wr.setCell ⟨g7, i, none⟩ (.int .i64 (v + 1)) = w9 at HS9 HN9 HO9 HB9 ⊢
                clear k2 hcl hfr HS9
                go_wp2
                go_roundw
                case rel => exact ⟨j + 1, by omega, by go_num, by rw [HNX.out]; exact HN9, HO9, HB9.out⟩
                case measure => simp [intOf]; omega
              · have HCE : Hid (c7 (cI L) = c7 (cI (L ++ [x]))) := Lib.hid (c7_congr (fun t ht => by rw [cI_snoc, HY.out, if_neg (by omega), Int.add_zero]))
                go_wp2
                go_roundw
                case rel => exact ⟨j + 1, by omega, by go_num, by rw [HNX.out, ← HCE.out]; exact HNQ, HOQ, HBN.out⟩
                case measure => simp [intOf]; omega
            · have HCE : Hid (c7 (cI L) = c7 (cI (L ++ [x]))) := Lib.hid (c7_congr (fun t ht => by rw [cI_snoc, HY.out, if_neg (by omega), Int.add_zero]))
              go_wp2
              go_roundw
              case rel => exact ⟨j + 1, by omega, by go_num, by rw [HNX.out, ← HCE.out]; exact HNQ, HOQ, HBN.out⟩
              case measure => simp [intOf]; omega
          · have hd : decide (0 < ms.count x.m) = false := decide_eq_false hin
            rw [hd]
            rw [if_neg hin, List.append_nil] at HNX
            clear hd hin k0 k1 k3 k4 k5 k6 k7
            go_wp2
            go_roundw
            case rel => exact ⟨j + 1, by omega, by go_num, by rw [HNX.out]; exact HNQ, HOQ, HBN.out⟩
            case measure => simp [intOf]; omega
    · have hje : j = n := by omega
      subst hje
      have HT : Hid (ls.take j = ls) := Lib.hid (List.take_of_length_le (by rw [HLN.out]; exact Nat.le_refl _))
      rw [HT.out] at HNJ
      have hlen : (Hl.own ms ls).length ≤ 100 := Nat.le_trans (List.length_filter_le _ _) (by rw [HLN.out]; exact hn)
      have HOF := Lib.hid (of_any A j c ls B m d ms wr (HE.out.kept hbj) (HM.out.kept hbj) hn hm HWW.out HVV.out)
      have HFB := Lib.hid (fun i => cI_bd (Hl.own ms ls) i hlen)
      obtain ⟨f, HF⟩ : ∃ f, Hid (cI (Hl.own ms ls) = f) := ⟨_, Lib.hid rfl⟩
      rw [HF.out] at HOF HFB HNJ
      clear hlen hbj HE HM HF HT HWW HVV HLN HLM
      rw [show c7 f = #[.int .i64 (f 0), .int .i64 (f 1), .int .i64 (f 2), .int .i64 (f 3), .int .i64 (f 4), .int .i64 (f 5), .int .i64 (f 6)] from rfl] at HOF
      go_wp2_with fail
      refine HOF.out.mono ?_
      rintro e w3 ⟨rfl, hb3⟩
      have HB3 := Lib.hid (HBJ.out.trans (hb3.mono HBJ.out.size))
      have HN3 := Lib.hid (HNJ.out.kept hb3)
      have HO3 := Lib.hid (HOJ.out.kept hb3)
      obtain ⟨g11, HG11⟩ : ∃ g, Hid (w3.heap.size = g) := ⟨_, Lib.hid rfl⟩
      obtain ⟨W4, HW4⟩ : ∃ W, Hid (W = w3.alloc (.cells #[.int .i64 (f 0), .int .i64 (f 1), .int .i64 (f 2), .int .i64 (f 3), .int .i64 (f 4), .int .i64 (f 5), .int .i64 (f 6)] TH)) := ⟨_, Lib.hid rfl⟩
      have b4 : Below w3.heap.size w3 W4 := by rw [HW4.out]; exact bel_new _ _
      have HB4 := Lib.hid (HB3.out.trans (b4.mono HB3.out.size))
      have HN4 := Lib.hid (HN3.out.kept b4)
      have HO4 := Lib.hid (HO3.out.kept b4)
      have HH4 : Hid (Obj1 W4 g11 TH (c7 f)) := Lib.hid (by rw [HW4.out, ← HG11.out]; exact Obj1.new _ _ _)
      have HG1 : Hid (w.heap.size ≤ g11 ∧ g11 ≠ g5) := Lib.hid (by have h1 := HG11.out; have h2 := HB3.out.size; have h3 := HO3.out.lt; omega)
      clear hb3 b4 HOF HBJ HNJ HOJ
      go_upto_region 15 with (fail)
      rw [← HW4.out, HG11.out]
      clear HW4 HG11 HB3 HN3 HO3
      have q1 : W4.cell? ⟨g7, 1, none⟩ = some (.int .i64 (f 1)) := HN4.out.cell 1
      have q2 : W4.cell? ⟨g7, 2, none⟩ = some (.int .i64 (f 2)) := HN4.out.cell 2
      obtain ⟨y, y0, y1', hy'⟩ := and_mask (o 0) 65535 (by omega)
      have hy : Go.bits BinOp.and IntKind.i64 (o 0) 65535 = y := hy'
      have y1 : y ≤ 65535 := y1'
      obtain ⟨z, z0, z1', hz'⟩ := and_mask (o 4) 65535 (by omega)
      have hz : Go.bits BinOp.and IntKind.i64 (o 4) 65535 = z := hz'
      have z1 : z ≤ 65535 := z1'
      clear hy' hz' y1' z1'
      have o0 : W4.cell? ⟨g5, 0, none⟩ = some (.int .i64 (o 0)) := HO4.out.cell 0
      have o4 : W4.cell? ⟨g5, 4, none⟩ = some (.int .i64 (o 4)) := HO4.out.cell 4
      have fr0 := HO4.out.free 0
      have fr4 : (W4.setCell ⟨g5, 0, none⟩ (.int .i64 y)).frozen? ⟨g5, 4, none⟩ = false := (HO4.out.set 0 _).free 4
      obtain ⟨p, HP⟩ : ∃ p : Nat → Int, Hid ((fun i => if i = 0 then y else if i = 4 then z else o i) = p) := ⟨_, Lib.hid rfl⟩
      have HPP : Hid (∀ i, p i = if i = 0 then y else if i = 4 then z else o i) := Lib.hid (fun i => by rw [← HP.out])
      have HP0 : Hid (0 ≤ p 0 ∧ p 0 ≤ 65535) := Lib.hid (by rw [HPP.out, if_pos rfl]; exact ⟨y0, y1⟩)
      have HP4 : Hid (0 ≤ p 4 ∧ p 4 ≤ 65535) := Lib.hid (by rw [HPP.out, if_neg (by omega), if_pos rfl]; exact ⟨z0, z1⟩)
      have HPB : Hid (∀ i, p i ≤ 9223372036854775807) := Lib.hid (fun i => by
        rw [HPP.out]
        have := HOO.out i
        split
        · omega
        · split <;> omega)
      have hF1 := HFB.out 1
      have hF2 := HFB.out 2
      have HFF : Hid (∀ i, f i ≤ 9223372036854775807) := Lib.hid (fun i => by have := HFB.out i; omega)
      obtain ⟨s, HS⟩ : ∃ s : Nat → Int, Hid ((fun i => f i + (if i = 0 then p 0 else if i = 4 then p 4 else 0)) = s) := ⟨_, Lib.hid rfl⟩
      have HSE : Hid (∀ i, s i = f i + (if i = 0 then p 0 else if i = 4 then p 4 else 0)) := Lib.hid (fun i => by rw [← HS.out])
      have HSM : Hid (∀ W, Calls Tryd.prog 22 #[.agg #[.int .i64 (f 0), .int .i64 (f 1), .int .i64 (f 2), .int .i64 (f 3), .int .i64 (f 4), .int .i64 (f 5), .int .i64 (f 6)], .agg #[.int .i64 (p 0), .int .i64 0, .int .i64 0, .int .i64 0, .int .i64 (p 4), .int .i64 0, .int .i64 0]] W fun e' w' => e' = .returned (.agg #[.int .i64 (s 0), .int .i64 (s 1), .int .i64 (s 2), .int .i64 (s 3), .int .i64 (s 4), .int .i64 (s 5), .int .i64 (s 6)]) ∧ Below W.heap.size W w') := Lib.hid (fun W => sum_any f (fun i => if i = 0 then p 0 else if i = 4 then p 4 else 0) s W (fun i _ => ⟨(HSE.out i).symm, by
        have h1 := HFB.out i
        have h2 := HP0.out
        have h3 := HP4.out
        rw [HSE.out]
        split
        · omega
        · split <;> omega⟩))
      have HNS : Hid (∀ W, Calls Tryd.prog 21 #[.agg #[.int .i64 (s 0), .int .i64 (s 1), .int .i64 (s 2), .int .i64 (s 3), .int .i64 (s 4), .int .i64 (s 5), .int .i64 (s 6)]] W fun e' w' => e' = .returned (.agg #[.int .i64 (s 0), .int .i64 (s 1), .int .i64 (s 2), .int .i64 (s 3), .int .i64 (s 4), .int .i64 (s 5), .int .i64 (s 6)]) ∧ Below W.heap.size W w') := Lib.hid (fun W => num_any' s W)
      have HNF : Hid (∀ W, Calls Tryd.prog 21 #[.agg #[.int .i64 (f 0), .int .i64 (f 1), .int .i64 (f 2), .int .i64 (f 3), .int .i64 (f 4), .int .i64 (f 5), .int .i64 (f 6)]] W fun e' w' => e' = .returned (.agg #[.int .i64 (f 0), .int .i64 (f 1), .int .i64 (f 2), .int .i64 (f 3), .int .i64 (f 4), .int .i64 (f 5), .int .i64 (f 6)]) ∧ Below W.heap.size W w') := Lib.hid (fun W => num_any' f W)
      have HNP : Hid (∀ W, Calls Tryd.prog 21 #[.agg #[.int .i64 (p 0), .int .i64 (p 1), .int .i64 (p 2), .int .i64 (p 3), .int .i64 (p 4), .int .i64 (p 5), .int .i64 (p 6)]] W fun e' w' => e' = .returned (.agg #[.int .i64 (p 0), .int .i64 (p 1), .int .i64 (p 2), .int .i64 (p 3), .int .i64 (p 4), .int .i64 (p 5), .int .i64 (p 6)]) ∧ Below W.heap.size W w') := Lib.hid (fun W => num_any' p W)
      have HTF := Lib.hid (fun W (h : Below w.heap.size w W) => text_any f W HFF.out (HLD.out W h))
      have HRF := Lib.hid (fun W => rtext_any f W HFF.out)
      have HTO := Lib.hid (fun W (h : Below w.heap.size w W) => text_any p W HPB.out (HLD.out W h))
      have HRO := Lib.hid (fun W => rtext_any p W HPB.out)
      have HON := Lib.hid (fun W (h : Below w.heap.size w W) => one33_any W (HLD.out W h))
      have HFI := Lib.hid (fun W => fit_any f W (by omega) (by omega))
      obtain ⟨TX, HTX⟩ : ∃ T, Hid (txH f 7 = T) := ⟨_, Lib.hid rfl⟩
      obtain ⟨TO, HTT⟩ : ∃ T, Hid (txH p 7 = T) := ⟨_, Lib.hid rfl⟩
      rw [HTX.out] at HTF HRF
      rw [HTT.out] at HTO HRO
      clear y0 y1 z0 z1
      by_cases hpos : 0 < f 1 + f 2
      · have hFt : fitF (f 1) (f 2) = (1000 * f 1).tdiv (f 1 + f 2) := by unfold fitF; rw [if_pos hpos]
        have hq0 : 0 ≤ (1000 * f 1).tdiv (f 1 + f 2) := Int.tdiv_nonneg (by omega) (by omega)
        have hq1 : (1000 * f 1).tdiv (f 1 + f 2) ≤ 1000 * f 1 := by rw [Int.tdiv_eq_ediv_of_nonneg (by omega)]; exact Int.ediv_le_self _ (by omega)
        rw [hFt] at HFI
        obtain ⟨t1, ht1⟩ : ∃ t, f 1 = t := ⟨_, rfl⟩
        obtain ⟨t2, ht2⟩ : ∃ t, f 2 = t := ⟨_, rfl⟩
        have ep : IntKind.i64.wrap (f 1 + f 2) = f 1 + f 2 := IntWalk.i64_in _ (by omega)
        have em : IntKind.i64.wrap (1000 * f 1) = 1000 * f 1 := IntWalk.i64_in _ (by omega)
        obtain ⟨FT, hFF⟩ : ∃ t, (1000 * f 1).tdiv (f 1 + f 2) = t := ⟨_, rfl⟩
        rw [hFF] at HFI hq0 hq1
        have ew : wrap64 FT = FT := IntWalk.wrap64_in FT (by omega)
        have ei : IntKind.i64.wrap FT = FT := IntWalk.i64_in FT (by omega)
        have ez : (f 1 + f 2 == 0) = false := by simp; omega
        have ezz : ¬ f 1 + f 2 = 0 := by omega
        clear hq0 hq1 hFt ht1 ht2
        go_upto_region 19 with (fail)
        clear ep em ew ei ez ezz hFF hpos
        have HS5 : Hid (Wrote g5 W4 ((W4.setCell ⟨g5, 0, none⟩ (.int .i64 y)).setCell ⟨g5, 4, none⟩ (.int .i64 z))) := Lib.hid (((Wrote.refl g5 W4).set (p := ⟨g5, 0, none⟩) (.inl rfl) _).set (p := ⟨g5, 4, none⟩) (.inl rfl) _)
        have HO5 : Hid (Obj1 ((W4.setCell ⟨g5, 0, none⟩ (.int .i64 y)).setCell ⟨g5, 4, none⟩ (.int .i64 z)) g5 TH (c7 (fun i => if i = 0 then y else if i = 4 then z else o i))) := Lib.hid ((HO4.out.set 0 _).set 4 _)
        have HN5 := Lib.hid (HN4.out.touch HS5.out HGG.out.2.2.symm)
        have HH5 := Lib.hid (HH4.out.touch HS5.out HG1.out.2)
        have HB5 := Lib.hid (HB4.out.trans (HS5.out.below HGG.out.1 HB4.out.size))
        generalize (W4.setCell ⟨g5, 0, none⟩ (.int .i64 y)).setCell ⟨g5, 4, none⟩ (.int .i64 z) = w5 at HS5 HO5 HN5 HH5 HB5 ⊢
        clear HS5 HN4 HH4 HB4 HO4 q1 q2 o0 o4 fr0 fr4 hy hz
        rw [HP.out] at HO5
        have n0 := HN5.out.cell 0
        have a0 : w5.cell? ⟨g11, 0, none⟩ = some (.int .i64 (f 0)) := HH5.out.cell 0
        have a1 : w5.cell? ⟨g11, 1, none⟩ = some (.int .i64 (f 1)) := HH5.out.cell 1
        have a2 : w5.cell? ⟨g11, 2, none⟩ = some (.int .i64 (f 2)) := HH5.out.cell 2
        have a3 : w5.cell? ⟨g11, 3, none⟩ = some (.int .i64 (f 3)) := HH5.out.cell 3
        have a4 : w5.cell? ⟨g11, 4, none⟩ = some (.int .i64 (f 4)) := HH5.out.cell 4
        have a5 : w5.cell? ⟨g11, 5, none⟩ = some (.int .i64 (f 5)) := HH5.out.cell 5
        have a6 : w5.cell? ⟨g11, 6, none⟩ = some (.int .i64 (f 6)) := HH5.out.cell 6
        have b0 : w5.cell? ⟨g5, 0, none⟩ = some (.int .i64 (p 0)) := HO5.out.cell 0
        have b4 : w5.cell? ⟨g5, 4, none⟩ = some (.int .i64 (p 4)) := HO5.out.cell 4
        clear n0
        go_wp2_with fail
        refine (HSM.out _).mono ?_
        rintro e w6 ⟨rfl, hb6⟩
        have HB6 := Lib.hid (HB5.out.trans (hb6.mono HB5.out.size))
        have HN6 := Lib.hid (HN5.out.kept hb6)
        have HH6 := Lib.hid (HH5.out.kept hb6)
        have HO6 := Lib.hid (HO5.out.kept hb6)
        clear hb6 a0 a1 a2 a3 a4 a5 a6 b0 b4 HB5 HN5 HH5 HO5 HSM
        go_wp2_with fail
        refine (HNS.out _).mono ?_
        rintro e w7 ⟨rfl, hb7⟩
        have HB7 := Lib.hid (HB6.out.trans (hb7.mono HB6.out.size))
        have HN7 := Lib.hid (HN6.out.kept hb7)
        have HH7 := Lib.hid (HH6.out.kept hb7)
        have HO7 := Lib.hid (HO6.out.kept hb7)
        obtain ⟨gx, HGX⟩ : ∃ g, Hid (w7.heap.size = g) := ⟨_, Lib.hid rfl⟩
        obtain ⟨W8, HW8⟩ : ∃ W, Hid (W = w7.alloc (.cells #[.int .i64 (s 0), .int .i64 (s 1), .int .i64 (s 2), .int .i64 (s 3), .int .i64 (s 4), .int .i64 (s 5), .int .i64 (s 6)] T7)) := ⟨_, Lib.hid rfl⟩
        have hb8 : Below w7.heap.size w7 W8 := by rw [HW8.out]; exact bel_new _ _
        have HB8 := Lib.hid (HB7.out.trans (hb8.mono HB7.out.size))
        have HX8 : Hid (Obj1 W8 gx T7 (c7 s)) := Lib.hid (by rw [HW8.out, ← HGX.out]; exact Obj1.new _ _ _)
        have HCN : Hid (∀ W, Below W8.heap.size W8 W → ∀ i, i < 7 → W.cell? ⟨g7, i, none⟩ = some (.int .i64 (f i))) := Lib.hid (fun W h i hi => cell7 ((HN7.out.kept hb8).kept h) hi)
        have HCH : Hid (∀ W, Below W8.heap.size W8 W → ∀ i, i < 7 → W.cell? ⟨g11, i, none⟩ = some (.int .i64 (f i))) := Lib.hid (fun W h i hi => cell7 ((HH7.out.kept hb8).kept h) hi)
        have HCP : Hid (∀ W, Below W8.heap.size W8 W → ∀ i, i < 7 → W.cell? ⟨g5, i, none⟩ = some (.int .i64 (p i))) := Lib.hid (fun W h i hi => cell7 ((HO7.out.kept hb8).kept h) hi)
        have HCX : Hid (∀ W, Below W8.heap.size W8 W → ∀ i, i < 7 → W.cell? ⟨gx, i, none⟩ = some (.int .i64 (s i))) := Lib.hid (fun W h i hi => cell7 (HX8.out.kept h) hi)
        clear hb7 hb8 HB6 HN6 HH6 HO6 HB7 HNS HX8
        go_upto_region 20 with (fail)
        rw [← HW8.out, HGX.out]
        clear HW8 HGX HN7 HH7 HO7
        go_wp2_with fail
        go_loopw [14] (fun i wx => ∃ q : Nat, q ≤ 7 ∧ i = .int .i64 q ∧ Below W8.heap.size W8 wx) (fun i _ => 7 - (intOf i).toNat)
        case atStart => exact ⟨0, by omega, rfl, Below.refl _ _⟩
        case round =>
          obtain ⟨q, hq, rfl, hbq⟩ := hrel
          have HBQ := Lib.hid hbq
          by_cases hlt : q < 7
          · have hqi : (q : Int) < 7 := by omega
            have hq0 : (0 : Int) ≤ (q : Int) := by omega
            have c1 := HCN.out _ hbq q hlt
            have c2 := HCX.out _ hbq q hlt
            have c3 := HCP.out _ hbq 0 (by omega)
            have c4 := HCP.out _ hbq 4 (by omega)
            have hfb := HFB.out q
            have hse := HSE.out q
            have hp0 := HP0.out
            have hp4 := HP4.out
            obtain ⟨v, hv⟩ : ∃ v, f q = v := ⟨_, rfl⟩
            obtain ⟨sv, hsv⟩ : ∃ v, s q = v := ⟨_, rfl⟩
            obtain ⟨u0, hu0⟩ : ∃ v, p 0 = v := ⟨_, rfl⟩
            obtain ⟨u4, hu4⟩ : ∃ v, p 4 = v := ⟨_, rfl⟩
            rw [hv] at c1 hfb
            rw [hsv] at c2
            rw [hu0] at c3 hp0
            rw [hu4] at c4 hp4
            rw [hv, hsv, hu0, hu4] at hse
            have eq1 : IntKind.i64.wrap ((q : Int) + 1) = (q : Int) + 1 := IntWalk.i64_in _ (by omega)
            have ew0 : IntKind.i64.wrap (v + u0) = v + u0 := IntWalk.i64_in _ (by omega)
            have ew4 : IntKind.i64.wrap (v + u4) = v + u4 := IntWalk.i64_in _ (by omega)
            clear hv hsv hu0 hu4 hbq
            rcases (show q = 0 ∨ q = 4 ∨ (q ≠ 0 ∧ q ≠ 4) by omega) with h | h | ⟨h, h'⟩
            · rw [if_pos h] at hse
              subst hse
              subst h
              clear eq1 hqi hq0 hlt
              have eq1 : IntKind.i64.wrap (0 + 1) = 1 := IntWalk.i64_in _ (by omega)
              have eq2 : IntKind.i64.wrap 1 = 1 := IntWalk.i64_in _ (by omega)
              rw [show ((0 : Nat) : Int) = 0 from rfl]
              go_wp2
              go_roundw
              case rel => exact ⟨1, by omega, by go_num, HBQ.out⟩
              case measure => simp [intOf]
            · rw [if_neg (by omega), if_pos h] at hse
              subst hse
              subst h
              clear eq1 hqi hq0 hlt
              have eq1 : IntKind.i64.wrap (4 + 1) = 5 := IntWalk.i64_in _ (by omega)
              have eq2 : IntKind.i64.wrap 5 = 5 := IntWalk.i64_in _ (by omega)
              rw [show ((4 : Nat) : Int) = 4 from rfl]
              go_wp2
              go_roundw
              case rel => exact ⟨5, by omega, by go_num, HBQ.out⟩
              case measure => simp [intOf]
            · have t0 : ((q : Int) == 0) = false := by simp [h]
              have t4 : ((q : Int) == 4) = false := by simp; omega
              have hz1 : ¬ (q : Int) = 0 := by omega
              have hz2 : ¬ (q : Int) = 4 := by omega
              rw [if_neg h, if_neg h', Int.add_zero] at hse
              subst hse
              go_wp2
              go_roundw
              case rel => exact ⟨q + 1, by omega, by go_num, HBQ.out⟩
              case measure => simp [intOf]; omega
          · have hqe : q = 7 := by omega
            subst hqe
            have kn0 : ∀ z : Kin wr.drew, z.world.cell? ⟨g7, 0, none⟩ = some (.int .i64 (f 0)) := fun z => Kin.at (w := wr.drew) (HCN.out _ hbq 0 (by omega)) z
            have kn1 : ∀ z : Kin wr.drew, z.world.cell? ⟨g7, 1, none⟩ = some (.int .i64 (f 1)) := fun z => Kin.at (w := wr.drew) (HCN.out _ hbq 1 (by omega)) z
            have kn2 : ∀ z : Kin wr.drew, z.world.cell? ⟨g7, 2, none⟩ = some (.int .i64 (f 2)) := fun z => Kin.at (w := wr.drew) (HCN.out _ hbq 2 (by omega)) z
            have kn3 : ∀ z : Kin wr.drew, z.world.cell? ⟨g7, 3, none⟩ = some (.int .i64 (f 3)) := fun z => Kin.at (w := wr.drew) (HCN.out _ hbq 3 (by omega)) z
            have kn4 : ∀ z : Kin wr.drew, z.world.cell? ⟨g7, 4, none⟩ = some (.int .i64 (f 4)) := fun z => Kin.at (w := wr.drew) (HCN.out _ hbq 4 (by omega)) z
            have kn5 : ∀ z : Kin wr.drew, z.world.cell? ⟨g7, 5, none⟩ = some (.int .i64 (f 5)) := fun z => Kin.at (w := wr.drew) (HCN.out _ hbq 5 (by omega)) z
            have kn6 : ∀ z : Kin wr.drew, z.world.cell? ⟨g7, 6, none⟩ = some (.int .i64 (f 6)) := fun z => Kin.at (w := wr.drew) (HCN.out _ hbq 6 (by omega)) z
            have kh0 : ∀ z : Kin wr.drew, z.world.cell? ⟨g11, 0, none⟩ = some (.int .i64 (f 0)) := fun z => Kin.at (w := wr.drew) (HCH.out _ hbq 0 (by omega)) z
            have kh1 : ∀ z : Kin wr.drew, z.world.cell? ⟨g11, 1, none⟩ = some (.int .i64 (f 1)) := fun z => Kin.at (w := wr.drew) (HCH.out _ hbq 1 (by omega)) z
            have kh2 : ∀ z : Kin wr.drew, z.world.cell? ⟨g11, 2, none⟩ = some (.int .i64 (f 2)) := fun z => Kin.at (w := wr.drew) (HCH.out _ hbq 2 (by omega)) z
            have kh3 : ∀ z : Kin wr.drew, z.world.cell? ⟨g11, 3, none⟩ = some (.int .i64 (f 3)) := fun z => Kin.at (w := wr.drew) (HCH.out _ hbq 3 (by omega)) z
            have kh4 : ∀ z : Kin wr.drew, z.world.cell? ⟨g11, 4, none⟩ = some (.int .i64 (f 4)) := fun z => Kin.at (w := wr.drew) (HCH.out _ hbq 4 (by omega)) z
            have kh5 : ∀ z : Kin wr.drew, z.world.cell? ⟨g11, 5, none⟩ = some (.int .i64 (f 5)) := fun z => Kin.at (w := wr.drew) (HCH.out _ hbq 5 (by omega)) z
            have kh6 : ∀ z : Kin wr.drew, z.world.cell? ⟨g11, 6, none⟩ = some (.int .i64 (f 6)) := fun z => Kin.at (w := wr.drew) (HCH.out _ hbq 6 (by omega)) z
            have kp0 : ∀ z : Kin wr.drew, z.world.cell? ⟨g5, 0, none⟩ = some (.int .i64 (p 0)) := fun z => Kin.at (w := wr.drew) (HCP.out _ hbq 0 (by omega)) z
            have kp1 : ∀ z : Kin wr.drew, z.world.cell? ⟨g5, 1, none⟩ = some (.int .i64 (p 1)) := fun z => Kin.at (w := wr.drew) (HCP.out _ hbq 1 (by omega)) z
            have kp2 : ∀ z : Kin wr.drew, z.world.cell? ⟨g5, 2, none⟩ = some (.int .i64 (p 2)) := fun z => Kin.at (w := wr.drew) (HCP.out _ hbq 2 (by omega)) z
            have kp3 : ∀ z : Kin wr.drew, z.world.cell? ⟨g5, 3, none⟩ = some (.int .i64 (p 3)) := fun z => Kin.at (w := wr.drew) (HCP.out _ hbq 3 (by omega)) z
            have kp4 : ∀ z : Kin wr.drew, z.world.cell? ⟨g5, 4, none⟩ = some (.int .i64 (p 4)) := fun z => Kin.at (w := wr.drew) (HCP.out _ hbq 4 (by omega)) z
            have kp5 : ∀ z : Kin wr.drew, z.world.cell? ⟨g5, 5, none⟩ = some (.int .i64 (p 5)) := fun z => Kin.at (w := wr.drew) (HCP.out _ hbq 5 (by omega)) z
            have kp6 : ∀ z : Kin wr.drew, z.world.cell? ⟨g5, 6, none⟩ = some (.int .i64 (p 6)) := fun z => Kin.at (w := wr.drew) (HCP.out _ hbq 6 (by omega)) z
            have HKD : Hid (∀ z : Kin wr.drew, Below w.heap.size w z.world) := Lib.hid (fun z => HB8.out.trans ((HBQ.out.trans (((bel_drew wr).trans z.below).mono HBQ.out.size)).mono HB8.out.size))
            clear HCN HCH HCP HCX hbq
            go_upto_region 30 with (fail)
            refine wp_region_specL 29 [.d (.agg #[.int .i64 (f 0), .int .i64 (f 1), .int .i64 (f 2), .int .i64 (f 3), .int .i64 (f 4), .int .i64 (f 5), .int .i64 (f 6)]), .d (.agg #[.int .i64 (f 0), .int .i64 (f 1), .int .i64 (f 2), .int .i64 (f 3), .int .i64 (f 4), .int .i64 (f 5), .int .i64 (f 6)]), .d (.agg #[.int .i64 (f 0), .int .i64 (f 1), .int .i64 (f 2), .int .i64 (f 3), .int .i64 (f 4), .int .i64 (f 5), .int .i64 (f 6)]), .d (.bool true), .d (.bool true), .d (.agg #[.int .i64 (f 0), .int .i64 (f 1), .int .i64 (f 2), .int .i64 (f 3), .int .i64 (f 4), .int .i64 (f 5), .int .i64 (f 6)]), .d (.int .i64 FT), .d (.int .i64 FT), .d (.bool true), .d (.bool true), .d (.bool true), .d (.agg #[.int .i64 (f 0), .int .i64 (f 1), .int .i64 (f 2), .int .i64 (f 3), .int .i64 (f 4), .int .i64 (f 5), .int .i64 (f 6)]), .d (.string ⟨TX.toArray⟩), .d (.agg #[.int .i64 (f 0), .int .i64 (f 1), .int .i64 (f 2), .int .i64 (f 3), .int .i64 (f 4), .int .i64 (f 5), .int .i64 (f 6)]), .d (.string ⟨TX.toArray⟩), .d (.bool true), .d (.bool true), .d (.bool true), .d (.agg #[.int .i64 (p 0), .int .i64 (p 1), .int .i64 (p 2), .int .i64 (p 3), .int .i64 (p 4), .int .i64 (p 5), .int .i64 (p 6)]), .d (.string ⟨TO.toArray⟩), .d (.agg #[.int .i64 (p 0), .int .i64 (p 1), .int .i64 (p 2), .int .i64 (p 3), .int .i64 (p 4), .int .i64 (p 5), .int .i64 (p 6)]), .d (.agg #[.int .i64 (p 0), .int .i64 (p 1), .int .i64 (p 2), .int .i64 (p 3), .int .i64 (p 4), .int .i64 (p 5), .int .i64 (p 6)]), .d (.string ⟨TO.toArray⟩), .d (.bool true), .d (.bool true), .d (.bool true), .d (.bool true), .d (.bool true), .d (.bool true)] (by kernel_rfl) (by kernel_rfl) ?_
            refine spec_d rfl (fun x _ => gives_run (by go_simp)) ?_
            try simp only [Act.put, List.getElem_toArray, List.getElem_cons_succ, List.getElem_cons_zero, List.setIfInBounds_toArray, List.set_cons_zero, List.set_cons_succ]
            refine spec_d rfl (fun z _ => gives_det (by go_simp) (HNF.out z.world)) ?_
            try simp only [Act.put, List.getElem_toArray, List.getElem_cons_succ, List.getElem_cons_zero, List.setIfInBounds_toArray, List.set_cons_zero, List.set_cons_succ]
            refine spec_d rfl (fun x _ => gives_run (by go_simp)) ?_
            try simp only [Act.put, List.getElem_toArray, List.getElem_cons_succ, List.getElem_cons_zero, List.setIfInBounds_toArray, List.set_cons_zero, List.set_cons_succ]
            refine spec_d rfl (fun z _ => gives_run (by have h := eq7 f z.world; go_simp)) ?_
            try simp only [Act.put, List.getElem_toArray, List.getElem_cons_succ, List.getElem_cons_zero, List.setIfInBounds_toArray, List.set_cons_zero, List.set_cons_succ]
            refine spec_d rfl (fun x _ => gives_run (by go_simp)) ?_
            try simp only [Act.put, List.getElem_toArray, List.getElem_cons_succ, List.getElem_cons_zero, List.setIfInBounds_toArray, List.set_cons_zero, List.set_cons_succ]
            refine spec_d rfl (fun x _ => gives_run (by go_simp)) ?_
            try simp only [Act.put, List.getElem_toArray, List.getElem_cons_succ, List.getElem_cons_zero, List.setIfInBounds_toArray, List.set_cons_zero, List.set_cons_succ]
            refine spec_d rfl (fun z _ => gives_det (by go_simp) (HFI.out z.world)) ?_
            try simp only [Act.put, List.getElem_toArray, List.getElem_cons_succ, List.getElem_cons_zero, List.setIfInBounds_toArray, List.set_cons_zero, List.set_cons_succ]
            refine spec_d rfl (fun x _ => gives_run (by go_simp)) ?_
            try simp only [Act.put, List.getElem_toArray, List.getElem_cons_succ, List.getElem_cons_zero, List.setIfInBounds_toArray, List.set_cons_zero, List.set_cons_succ]
            refine spec_d rfl (fun x _ => gives_run (by go_simp)) ?_
            try simp only [Act.put, List.getElem_toArray, List.getElem_cons_succ, List.getElem_cons_zero, List.setIfInBounds_toArray, List.set_cons_zero, List.set_cons_succ]
            refine spec_d rfl (fun x _ => gives_run (by go_simp)) ?_
            try simp only [Act.put, List.getElem_toArray, List.getElem_cons_succ, List.getElem_cons_zero, List.setIfInBounds_toArray, List.set_cons_zero, List.set_cons_succ]
            refine spec_d rfl (fun x _ => gives_run (by go_simp)) ?_
            try simp only [Act.put, List.getElem_toArray, List.getElem_cons_succ, List.getElem_cons_zero, List.setIfInBounds_toArray, List.set_cons_zero, List.set_cons_succ]
            refine spec_d rfl (fun x _ => gives_run (by go_simp)) ?_
            try simp only [Act.put, List.getElem_toArray, List.getElem_cons_succ, List.getElem_cons_zero, List.setIfInBounds_toArray, List.set_cons_zero, List.set_cons_succ]
            refine spec_d rfl (fun z _ => gives_det (by go_simp) (HTF.out z.world (HKD.out z))) ?_
            try simp only [Act.put, List.getElem_toArray, List.getElem_cons_succ, List.getElem_cons_zero, List.setIfInBounds_toArray, List.set_cons_zero, List.set_cons_succ]
            refine spec_d rfl (fun x _ => gives_run (by go_simp)) ?_
            try simp only [Act.put, List.getElem_toArray, List.getElem_cons_succ, List.getElem_cons_zero, List.setIfInBounds_toArray, List.set_cons_zero, List.set_cons_succ]
            refine spec_d rfl (fun z _ => gives_det (by go_simp) (HRF.out z.world)) ?_
            try simp only [Act.put, List.getElem_toArray, List.getElem_cons_succ, List.getElem_cons_zero, List.setIfInBounds_toArray, List.set_cons_zero, List.set_cons_succ]
            refine spec_d rfl (fun x _ => gives_run (by go_simp)) ?_
            try simp only [Act.put, List.getElem_toArray, List.getElem_cons_succ, List.getElem_cons_zero, List.setIfInBounds_toArray, List.set_cons_zero, List.set_cons_succ]
            refine spec_d rfl (fun x _ => gives_run (by go_simp)) ?_
            try simp only [Act.put, List.getElem_toArray, List.getElem_cons_succ, List.getElem_cons_zero, List.setIfInBounds_toArray, List.set_cons_zero, List.set_cons_succ]
            refine spec_d rfl (fun x _ => gives_run (by go_simp)) ?_
            try simp only [Act.put, List.getElem_toArray, List.getElem_cons_succ, List.getElem_cons_zero, List.setIfInBounds_toArray, List.set_cons_zero, List.set_cons_succ]
            refine spec_d rfl (fun x _ => gives_run (by go_simp)) ?_
            try simp only [Act.put, List.getElem_toArray, List.getElem_cons_succ, List.getElem_cons_zero, List.setIfInBounds_toArray, List.set_cons_zero, List.set_cons_succ]
            refine spec_d rfl (fun z _ => gives_det (by go_simp) (HTO.out z.world (HKD.out z))) ?_
            try simp only [Act.put, List.getElem_toArray, List.getElem_cons_succ, List.getElem_cons_zero, List.setIfInBounds_toArray, List.set_cons_zero, List.set_cons_succ]
            refine spec_d rfl (fun x _ => gives_run (by go_simp)) ?_
            try simp only [Act.put, List.getElem_toArray, List.getElem_cons_succ, List.getElem_cons_zero, List.setIfInBounds_toArray, List.set_cons_zero, List.set_cons_succ]
            refine spec_d rfl (fun z _ => gives_det (by go_simp) (HNP.out z.world)) ?_
            try simp only [Act.put, List.getElem_toArray, List.getElem_cons_succ, List.getElem_cons_zero, List.setIfInBounds_toArray, List.set_cons_zero, List.set_cons_succ]
            refine spec_d rfl (fun z _ => gives_det (by go_simp) (HRO.out z.world)) ?_
            try simp only [Act.put, List.getElem_toArray, List.getElem_cons_succ, List.getElem_cons_zero, List.setIfInBounds_toArray, List.set_cons_zero, List.set_cons_succ]
            refine spec_d rfl (fun x _ => gives_run (by go_simp)) ?_
            try simp only [Act.put, List.getElem_toArray, List.getElem_cons_succ, List.getElem_cons_zero, List.setIfInBounds_toArray, List.set_cons_zero, List.set_cons_succ]
            refine spec_d rfl (fun x _ => gives_run (by go_simp)) ?_
            try simp only [Act.put, List.getElem_toArray, List.getElem_cons_succ, List.getElem_cons_zero, List.setIfInBounds_toArray, List.set_cons_zero, List.set_cons_succ]
            refine spec_d rfl (fun x _ => gives_run (by go_simp)) ?_
            try simp only [Act.put, List.getElem_toArray, List.getElem_cons_succ, List.getElem_cons_zero, List.setIfInBounds_toArray, List.set_cons_zero, List.set_cons_succ]
            refine spec_d rfl (fun z _ => gives_det (by go_simp) (HON.out z.world (HKD.out z))) ?_
            try simp only [Act.put, List.getElem_toArray, List.getElem_cons_succ, List.getElem_cons_zero, List.setIfInBounds_toArray, List.set_cons_zero, List.set_cons_succ]
            refine spec_d rfl (fun x _ => gives_run (by go_simp)) ?_
            try simp only [Act.put, List.getElem_toArray, List.getElem_cons_succ, List.getElem_cons_zero, List.setIfInBounds_toArray, List.set_cons_zero, List.set_cons_succ]
            refine spec_d rfl (fun x _ => gives_run (by go_simp)) ?_
            try simp only [Act.put, List.getElem_toArray, List.getElem_cons_succ, List.getElem_cons_zero, List.setIfInBounds_toArray, List.set_cons_zero, List.set_cons_succ]
            refine spec_end (fun z hz => ?_)
            clear hz
            refine wpAny_done (by kernel_rfl) ?_ _
            have HBZ := Lib.hid (HKD.out z)
            clear HKD kn0 kn1 kn2 kn3 kn4 kn5 kn6 kh0 kh1 kh2 kh3 kh4 kh5 kh6 kp0 kp1 kp2 kp3 kp4 kp5 kp6
            generalize z.world = w9 at HBZ ⊢
            clear z
            go_wp2
            go_ret
            exact ⟨rfl, HBZ.out⟩
      · have hFt : fitF (f 1) (f 2) = 1000 := by unfold fitF; rw [if_neg hpos]
        rw [hFt] at HFI
        have ep : IntKind.i64.wrap (f 1 + f 2) = f 1 + f 2 := IntWalk.i64_in _ (by omega)
        clear hFt
        go_upto_region 19 with (fail)
        clear ep hpos
        have HS5 : Hid (Wrote g5 W4 ((W4.setCell ⟨g5, 0, none⟩ (.int .i64 y)).setCell ⟨g5, 4, none⟩ (.int .i64 z))) := Lib.hid (((Wrote.refl g5 W4).set (p := ⟨g5, 0, none⟩) (.inl rfl) _).set (p := ⟨g5, 4, none⟩) (.inl rfl) _)
        have HO5 : Hid (Obj1 ((W4.setCell ⟨g5, 0, none⟩ (.int .i64 y)).setCell ⟨g5, 4, none⟩ (.int .i64 z)) g5 TH (c7 (fun i => if i = 0 then y else if i = 4 then z else o i))) := Lib.hid ((HO4.out.set 0 _).set 4 _)
        have HN5 := Lib.hid (HN4.out.touch HS5.out HGG.out.2.2.symm)
        have HH5 := Lib.hid (HH4.out.touch HS5.out HG1.out.2)
        have HB5 := Lib.hid (HB4.out.trans (HS5.out.below HGG.out.1 HB4.out.size))
        generalize (W4.setCell ⟨g5, 0, none⟩ (.int .i64 y)).setCell ⟨g5, 4, none⟩ (.int .i64 z) = w5 at HS5 HO5 HN5 HH5 HB5 ⊢
        clear HS5 HN4 HH4 HB4 HO4 q1 q2 o0 o4 fr0 fr4 hy hz
        rw [HP.out] at HO5
        have n0 := HN5.out.cell 0
        have a0 : w5.cell? ⟨g11, 0, none⟩ = some (.int .i64 (f 0)) := HH5.out.cell 0
        have a1 : w5.cell? ⟨g11, 1, none⟩ = some (.int .i64 (f 1)) := HH5.out.cell 1
        have a2 : w5.cell? ⟨g11, 2, none⟩ = some (.int .i64 (f 2)) := HH5.out.cell 2
        have a3 : w5.cell? ⟨g11, 3, none⟩ = some (.int .i64 (f 3)) := HH5.out.cell 3
        have a4 : w5.cell? ⟨g11, 4, none⟩ = some (.int .i64 (f 4)) := HH5.out.cell 4
        have a5 : w5.cell? ⟨g11, 5, none⟩ = some (.int .i64 (f 5)) := HH5.out.cell 5
        have a6 : w5.cell? ⟨g11, 6, none⟩ = some (.int .i64 (f 6)) := HH5.out.cell 6
        have b0 : w5.cell? ⟨g5, 0, none⟩ = some (.int .i64 (p 0)) := HO5.out.cell 0
        have b4 : w5.cell? ⟨g5, 4, none⟩ = some (.int .i64 (p 4)) := HO5.out.cell 4
        clear n0
        go_wp2_with fail
        refine (HSM.out _).mono ?_
        rintro e w6 ⟨rfl, hb6⟩
        have HB6 := Lib.hid (HB5.out.trans (hb6.mono HB5.out.size))
        have HN6 := Lib.hid (HN5.out.kept hb6)
        have HH6 := Lib.hid (HH5.out.kept hb6)
        have HO6 := Lib.hid (HO5.out.kept hb6)
        clear hb6 a0 a1 a2 a3 a4 a5 a6 b0 b4 HB5 HN5 HH5 HO5 HSM
        go_wp2_with fail
        refine (HNS.out _).mono ?_
        rintro e w7 ⟨rfl, hb7⟩
        have HB7 := Lib.hid (HB6.out.trans (hb7.mono HB6.out.size))
        have HN7 := Lib.hid (HN6.out.kept hb7)
        have HH7 := Lib.hid (HH6.out.kept hb7)
        have HO7 := Lib.hid (HO6.out.kept hb7)
        obtain ⟨gx, HGX⟩ : ∃ g, Hid (w7.heap.size = g) := ⟨_, Lib.hid rfl⟩
        obtain ⟨W8, HW8⟩ : ∃ W, Hid (W = w7.alloc (.cells #[.int .i64 (s 0), .int .i64 (s 1), .int .i64 (s 2), .int .i64 (s 3), .int .i64 (s 4), .int .i64 (s 5), .int .i64 (s 6)] T7)) := ⟨_, Lib.hid rfl⟩
        have hb8 : Below w7.heap.size w7 W8 := by rw [HW8.out]; exact bel_new _ _
        have HB8 := Lib.hid (HB7.out.trans (hb8.mono HB7.out.size))
        have HX8 : Hid (Obj1 W8 gx T7 (c7 s)) := Lib.hid (by rw [HW8.out, ← HGX.out]; exact Obj1.new _ _ _)
        have HCN : Hid (∀ W, Below W8.heap.size W8 W → ∀ i, i < 7 → W.cell? ⟨g7, i, none⟩ = some (.int .i64 (f i))) := Lib.hid (fun W h i hi => cell7 ((HN7.out.kept hb8).kept h) hi)
        have HCH : Hid (∀ W, Below W8.heap.size W8 W → ∀ i, i < 7 → W.cell? ⟨g11, i, none⟩ = some (.int .i64 (f i))) := Lib.hid (fun W h i hi => cell7 ((HH7.out.kept hb8).kept h) hi)
        have HCP : Hid (∀ W, Below W8.heap.size W8 W → ∀ i, i < 7 → W.cell? ⟨g5, i, none⟩ = some (.int .i64 (p i))) := Lib.hid (fun W h i hi => cell7 ((HO7.out.kept hb8).kept h) hi)
        have HCX : Hid (∀ W, Below W8.heap.size W8 W → ∀ i, i < 7 → W.cell? ⟨gx, i, none⟩ = some (.int .i64 (s i))) := Lib.hid (fun W h i hi => cell7 (HX8.out.kept h) hi)
        clear hb7 hb8 HB6 HN6 HH6 HO6 HB7 HNS HX8
        go_upto_region 20 with (fail)
        rw [← HW8.out, HGX.out]
        clear HW8 HGX HN7 HH7 HO7
        go_wp2_with fail
        go_loopw [14] (fun i wx => ∃ q : Nat, q ≤ 7 ∧ i = .int .i64 q ∧ Below W8.heap.size W8 wx) (fun i _ => 7 - (intOf i).toNat)
        case atStart => exact ⟨0, by omega, rfl, Below.refl _ _⟩
        case round =>
          obtain ⟨q, hq, rfl, hbq⟩ := hrel
          have HBQ := Lib.hid hbq
          by_cases hlt : q < 7
          · have hqi : (q : Int) < 7 := by omega
            have hq0 : (0 : Int) ≤ (q : Int) := by omega
            have c1 := HCN.out _ hbq q hlt
            have c2 := HCX.out _ hbq q hlt
            have c3 := HCP.out _ hbq 0 (by omega)
            have c4 := HCP.out _ hbq 4 (by omega)
            have hfb := HFB.out q
            have hse := HSE.out q
            have hp0 := HP0.out
            have hp4 := HP4.out
            obtain ⟨v, hv⟩ : ∃ v, f q = v := ⟨_, rfl⟩
            obtain ⟨sv, hsv⟩ : ∃ v, s q = v := ⟨_, rfl⟩
            obtain ⟨u0, hu0⟩ : ∃ v, p 0 = v := ⟨_, rfl⟩
            obtain ⟨u4, hu4⟩ : ∃ v, p 4 = v := ⟨_, rfl⟩
            rw [hv] at c1 hfb
            rw [hsv] at c2
            rw [hu0] at c3 hp0
            rw [hu4] at c4 hp4
            rw [hv, hsv, hu0, hu4] at hse
            have eq1 : IntKind.i64.wrap ((q : Int) + 1) = (q : Int) + 1 := IntWalk.i64_in _ (by omega)
            have ew0 : IntKind.i64.wrap (v + u0) = v + u0 := IntWalk.i64_in _ (by omega)
            have ew4 : IntKind.i64.wrap (v + u4) = v + u4 := IntWalk.i64_in _ (by omega)
            clear hv hsv hu0 hu4 hbq
            rcases (show q = 0 ∨ q = 4 ∨ (q ≠ 0 ∧ q ≠ 4) by omega) with h | h | ⟨h, h'⟩
            · rw [if_pos h] at hse
              subst hse
              subst h
              clear eq1 hqi hq0 hlt
              have eq1 : IntKind.i64.wrap (0 + 1) = 1 := IntWalk.i64_in _ (by omega)
              have eq2 : IntKind.i64.wrap 1 = 1 := IntWalk.i64_in _ (by omega)
              rw [show ((0 : Nat) : Int) = 0 from rfl]
              go_wp2
              go_roundw
              case rel => exact ⟨1, by omega, by go_num, HBQ.out⟩
              case measure => simp [intOf]
            · rw [if_neg (by omega), if_pos h] at hse
              subst hse
              subst h
              clear eq1 hqi hq0 hlt
              have eq1 : IntKind.i64.wrap (4 + 1) = 5 := IntWalk.i64_in _ (by omega)
              have eq2 : IntKind.i64.wrap 5 = 5 := IntWalk.i64_in _ (by omega)
              rw [show ((4 : Nat) : Int) = 4 from rfl]
              go_wp2
              go_roundw
              case rel => exact ⟨5, by omega, by go_num, HBQ.out⟩
              case measure => simp [intOf]
            · have t0 : ((q : Int) == 0) = false := by simp [h]
              have t4 : ((q : Int) == 4) = false := by simp; omega
              have hz1 : ¬ (q : Int) = 0 := by omega
              have hz2 : ¬ (q : Int) = 4 := by omega
              rw [if_neg h, if_neg h', Int.add_zero] at hse
              subst hse
              go_wp2
              go_roundw
              case rel => exact ⟨q + 1, by omega, by go_num, HBQ.out⟩
              case measure => simp [intOf]; omega
          · have hqe : q = 7 := by omega
            subst hqe
            have kn0 : ∀ z : Kin wr.drew, z.world.cell? ⟨g7, 0, none⟩ = some (.int .i64 (f 0)) := fun z => Kin.at (w := wr.drew) (HCN.out _ hbq 0 (by omega)) z
            have kn1 : ∀ z : Kin wr.drew, z.world.cell? ⟨g7, 1, none⟩ = some (.int .i64 (f 1)) := fun z => Kin.at (w := wr.drew) (HCN.out _ hbq 1 (by omega)) z
            have kn2 : ∀ z : Kin wr.drew, z.world.cell? ⟨g7, 2, none⟩ = some (.int .i64 (f 2)) := fun z => Kin.at (w := wr.drew) (HCN.out _ hbq 2 (by omega)) z
            have kn3 : ∀ z : Kin wr.drew, z.world.cell? ⟨g7, 3, none⟩ = some (.int .i64 (f 3)) := fun z => Kin.at (w := wr.drew) (HCN.out _ hbq 3 (by omega)) z
            have kn4 : ∀ z : Kin wr.drew, z.world.cell? ⟨g7, 4, none⟩ = some (.int .i64 (f 4)) := fun z => Kin.at (w := wr.drew) (HCN.out _ hbq 4 (by omega)) z
            have kn5 : ∀ z : Kin wr.drew, z.world.cell? ⟨g7, 5, none⟩ = some (.int .i64 (f 5)) := fun z => Kin.at (w := wr.drew) (HCN.out _ hbq 5 (by omega)) z
            have kn6 : ∀ z : Kin wr.drew, z.world.cell? ⟨g7, 6, none⟩ = some (.int .i64 (f 6)) := fun z => Kin.at (w := wr.drew) (HCN.out _ hbq 6 (by omega)) z
            have kh0 : ∀ z : Kin wr.drew, z.world.cell? ⟨g11, 0, none⟩ = some (.int .i64 (f 0)) := fun z => Kin.at (w := wr.drew) (HCH.out _ hbq 0 (by omega)) z
            have kh1 : ∀ z : Kin wr.drew, z.world.cell? ⟨g11, 1, none⟩ = some (.int .i64 (f 1)) := fun z => Kin.at (w := wr.drew) (HCH.out _ hbq 1 (by omega)) z
            have kh2 : ∀ z : Kin wr.drew, z.world.cell? ⟨g11, 2, none⟩ = some (.int .i64 (f 2)) := fun z => Kin.at (w := wr.drew) (HCH.out _ hbq 2 (by omega)) z
            have kh3 : ∀ z : Kin wr.drew, z.world.cell? ⟨g11, 3, none⟩ = some (.int .i64 (f 3)) := fun z => Kin.at (w := wr.drew) (HCH.out _ hbq 3 (by omega)) z
            have kh4 : ∀ z : Kin wr.drew, z.world.cell? ⟨g11, 4, none⟩ = some (.int .i64 (f 4)) := fun z => Kin.at (w := wr.drew) (HCH.out _ hbq 4 (by omega)) z
            have kh5 : ∀ z : Kin wr.drew, z.world.cell? ⟨g11, 5, none⟩ = some (.int .i64 (f 5)) := fun z => Kin.at (w := wr.drew) (HCH.out _ hbq 5 (by omega)) z
            have kh6 : ∀ z : Kin wr.drew, z.world.cell? ⟨g11, 6, none⟩ = some (.int .i64 (f 6)) := fun z => Kin.at (w := wr.drew) (HCH.out _ hbq 6 (by omega)) z
            have kp0 : ∀ z : Kin wr.drew, z.world.cell? ⟨g5, 0, none⟩ = some (.int .i64 (p 0)) := fun z => Kin.at (w := wr.drew) (HCP.out _ hbq 0 (by omega)) z
            have kp1 : ∀ z : Kin wr.drew, z.world.cell? ⟨g5, 1, none⟩ = some (.int .i64 (p 1)) := fun z => Kin.at (w := wr.drew) (HCP.out _ hbq 1 (by omega)) z
            have kp2 : ∀ z : Kin wr.drew, z.world.cell? ⟨g5, 2, none⟩ = some (.int .i64 (p 2)) := fun z => Kin.at (w := wr.drew) (HCP.out _ hbq 2 (by omega)) z
            have kp3 : ∀ z : Kin wr.drew, z.world.cell? ⟨g5, 3, none⟩ = some (.int .i64 (p 3)) := fun z => Kin.at (w := wr.drew) (HCP.out _ hbq 3 (by omega)) z
            have kp4 : ∀ z : Kin wr.drew, z.world.cell? ⟨g5, 4, none⟩ = some (.int .i64 (p 4)) := fun z => Kin.at (w := wr.drew) (HCP.out _ hbq 4 (by omega)) z
            have kp5 : ∀ z : Kin wr.drew, z.world.cell? ⟨g5, 5, none⟩ = some (.int .i64 (p 5)) := fun z => Kin.at (w := wr.drew) (HCP.out _ hbq 5 (by omega)) z
            have kp6 : ∀ z : Kin wr.drew, z.world.cell? ⟨g5, 6, none⟩ = some (.int .i64 (p 6)) := fun z => Kin.at (w := wr.drew) (HCP.out _ hbq 6 (by omega)) z
            have HKD : Hid (∀ z : Kin wr.drew, Below w.heap.size w z.world) := Lib.hid (fun z => HB8.out.trans ((HBQ.out.trans (((bel_drew wr).trans z.below).mono HBQ.out.size)).mono HB8.out.size))
            clear HCN HCH HCP HCX hbq
            go_upto_region 30 with (fail)
            refine wp_region_specL 29 [.d (.agg #[.int .i64 (f 0), .int .i64 (f 1), .int .i64 (f 2), .int .i64 (f 3), .int .i64 (f 4), .int .i64 (f 5), .int .i64 (f 6)]), .d (.agg #[.int .i64 (f 0), .int .i64 (f 1), .int .i64 (f 2), .int .i64 (f 3), .int .i64 (f 4), .int .i64 (f 5), .int .i64 (f 6)]), .d (.agg #[.int .i64 (f 0), .int .i64 (f 1), .int .i64 (f 2), .int .i64 (f 3), .int .i64 (f 4), .int .i64 (f 5), .int .i64 (f 6)]), .d (.bool true), .d (.bool true), .d (.agg #[.int .i64 (f 0), .int .i64 (f 1), .int .i64 (f 2), .int .i64 (f 3), .int .i64 (f 4), .int .i64 (f 5), .int .i64 (f 6)]), .d (.int .i64 1000), .d (.int .i64 1000), .d (.bool true), .d (.bool true), .d (.bool true), .d (.agg #[.int .i64 (f 0), .int .i64 (f 1), .int .i64 (f 2), .int .i64 (f 3), .int .i64 (f 4), .int .i64 (f 5), .int .i64 (f 6)]), .d (.string ⟨TX.toArray⟩), .d (.agg #[.int .i64 (f 0), .int .i64 (f 1), .int .i64 (f 2), .int .i64 (f 3), .int .i64 (f 4), .int .i64 (f 5), .int .i64 (f 6)]), .d (.string ⟨TX.toArray⟩), .d (.bool true), .d (.bool true), .d (.bool true), .d (.agg #[.int .i64 (p 0), .int .i64 (p 1), .int .i64 (p 2), .int .i64 (p 3), .int .i64 (p 4), .int .i64 (p 5), .int .i64 (p 6)]), .d (.string ⟨TO.toArray⟩), .d (.agg #[.int .i64 (p 0), .int .i64 (p 1), .int .i64 (p 2), .int .i64 (p 3), .int .i64 (p 4), .int .i64 (p 5), .int .i64 (p 6)]), .d (.agg #[.int .i64 (p 0), .int .i64 (p 1), .int .i64 (p 2), .int .i64 (p 3), .int .i64 (p 4), .int .i64 (p 5), .int .i64 (p 6)]), .d (.string ⟨TO.toArray⟩), .d (.bool true), .d (.bool true), .d (.bool true), .d (.bool true), .d (.bool true), .d (.bool true)] (by kernel_rfl) (by kernel_rfl) ?_
            refine spec_d rfl (fun x _ => gives_run (by go_simp)) ?_
            try simp only [Act.put, List.getElem_toArray, List.getElem_cons_succ, List.getElem_cons_zero, List.setIfInBounds_toArray, List.set_cons_zero, List.set_cons_succ]
            refine spec_d rfl (fun z _ => gives_det (by go_simp) (HNF.out z.world)) ?_
            try simp only [Act.put, List.getElem_toArray, List.getElem_cons_succ, List.getElem_cons_zero, List.setIfInBounds_toArray, List.set_cons_zero, List.set_cons_succ]
            refine spec_d rfl (fun x _ => gives_run (by go_simp)) ?_
            try simp only [Act.put, List.getElem_toArray, List.getElem_cons_succ, List.getElem_cons_zero, List.setIfInBounds_toArray, List.set_cons_zero, List.set_cons_succ]
            refine spec_d rfl (fun z _ => gives_run (by have h := eq7 f z.world; go_simp)) ?_
            try simp only [Act.put, List.getElem_toArray, List.getElem_cons_succ, List.getElem_cons_zero, List.setIfInBounds_toArray, List.set_cons_zero, List.set_cons_succ]
            refine spec_d rfl (fun x _ => gives_run (by go_simp)) ?_
            try simp only [Act.put, List.getElem_toArray, List.getElem_cons_succ, List.getElem_cons_zero, List.setIfInBounds_toArray, List.set_cons_zero, List.set_cons_succ]
            refine spec_d rfl (fun x _ => gives_run (by go_simp)) ?_
            try simp only [Act.put, List.getElem_toArray, List.getElem_cons_succ, List.getElem_cons_zero, List.setIfInBounds_toArray, List.set_cons_zero, List.set_cons_succ]
            refine spec_d rfl (fun z _ => gives_det (by go_simp) (HFI.out z.world)) ?_
            try simp only [Act.put, List.getElem_toArray, List.getElem_cons_succ, List.getElem_cons_zero, List.setIfInBounds_toArray, List.set_cons_zero, List.set_cons_succ]
            refine spec_d rfl (fun x _ => gives_run (by go_simp)) ?_
            try simp only [Act.put, List.getElem_toArray, List.getElem_cons_succ, List.getElem_cons_zero, List.setIfInBounds_toArray, List.set_cons_zero, List.set_cons_succ]
            refine spec_d rfl (fun x _ => gives_run (by go_simp)) ?_
            try simp only [Act.put, List.getElem_toArray, List.getElem_cons_succ, List.getElem_cons_zero, List.setIfInBounds_toArray, List.set_cons_zero, List.set_cons_succ]
            refine spec_d rfl (fun x _ => gives_run (by go_simp)) ?_
            try simp only [Act.put, List.getElem_toArray, List.getElem_cons_succ, List.getElem_cons_zero, List.setIfInBounds_toArray, List.set_cons_zero, List.set_cons_succ]
            refine spec_d rfl (fun x _ => gives_run (by go_simp)) ?_
            try simp only [Act.put, List.getElem_toArray, List.getElem_cons_succ, List.getElem_cons_zero, List.setIfInBounds_toArray, List.set_cons_zero, List.set_cons_succ]
            refine spec_d rfl (fun x _ => gives_run (by go_simp)) ?_
            try simp only [Act.put, List.getElem_toArray, List.getElem_cons_succ, List.getElem_cons_zero, List.setIfInBounds_toArray, List.set_cons_zero, List.set_cons_succ]
            refine spec_d rfl (fun z _ => gives_det (by go_simp) (HTF.out z.world (HKD.out z))) ?_
            try simp only [Act.put, List.getElem_toArray, List.getElem_cons_succ, List.getElem_cons_zero, List.setIfInBounds_toArray, List.set_cons_zero, List.set_cons_succ]
            refine spec_d rfl (fun x _ => gives_run (by go_simp)) ?_
            try simp only [Act.put, List.getElem_toArray, List.getElem_cons_succ, List.getElem_cons_zero, List.setIfInBounds_toArray, List.set_cons_zero, List.set_cons_succ]
            refine spec_d rfl (fun z _ => gives_det (by go_simp) (HRF.out z.world)) ?_
            try simp only [Act.put, List.getElem_toArray, List.getElem_cons_succ, List.getElem_cons_zero, List.setIfInBounds_toArray, List.set_cons_zero, List.set_cons_succ]
            refine spec_d rfl (fun x _ => gives_run (by go_simp)) ?_
            try simp only [Act.put, List.getElem_toArray, List.getElem_cons_succ, List.getElem_cons_zero, List.setIfInBounds_toArray, List.set_cons_zero, List.set_cons_succ]
            refine spec_d rfl (fun x _ => gives_run (by go_simp)) ?_
            try simp only [Act.put, List.getElem_toArray, List.getElem_cons_succ, List.getElem_cons_zero, List.setIfInBounds_toArray, List.set_cons_zero, List.set_cons_succ]
            refine spec_d rfl (fun x _ => gives_run (by go_simp)) ?_
            try simp only [Act.put, List.getElem_toArray, List.getElem_cons_succ, List.getElem_cons_zero, List.setIfInBounds_toArray, List.set_cons_zero, List.set_cons_succ]
            refine spec_d rfl (fun x _ => gives_run (by go_simp)) ?_
            try simp only [Act.put, List.getElem_toArray, List.getElem_cons_succ, List.getElem_cons_zero, List.setIfInBounds_toArray, List.set_cons_zero, List.set_cons_succ]
            refine spec_d rfl (fun z _ => gives_det (by go_simp) (HTO.out z.world (HKD.out z))) ?_
            try simp only [Act.put, List.getElem_toArray, List.getElem_cons_succ, List.getElem_cons_zero, List.setIfInBounds_toArray, List.set_cons_zero, List.set_cons_succ]
            refine spec_d rfl (fun x _ => gives_run (by go_simp)) ?_
            try simp only [Act.put, List.getElem_toArray, List.getElem_cons_succ, List.getElem_cons_zero, List.setIfInBounds_toArray, List.set_cons_zero, List.set_cons_succ]
            refine spec_d rfl (fun z _ => gives_det (by go_simp) (HNP.out z.world)) ?_
            try simp only [Act.put, List.getElem_toArray, List.getElem_cons_succ, List.getElem_cons_zero, List.setIfInBounds_toArray, List.set_cons_zero, List.set_cons_succ]
            refine spec_d rfl (fun z _ => gives_det (by go_simp) (HRO.out z.world)) ?_
            try simp only [Act.put, List.getElem_toArray, List.getElem_cons_succ, List.getElem_cons_zero, List.setIfInBounds_toArray, List.set_cons_zero, List.set_cons_succ]
            refine spec_d rfl (fun x _ => gives_run (by go_simp)) ?_
            try simp only [Act.put, List.getElem_toArray, List.getElem_cons_succ, List.getElem_cons_zero, List.setIfInBounds_toArray, List.set_cons_zero, List.set_cons_succ]
            refine spec_d rfl (fun x _ => gives_run (by go_simp)) ?_
            try simp only [Act.put, List.getElem_toArray, List.getElem_cons_succ, List.getElem_cons_zero, List.setIfInBounds_toArray, List.set_cons_zero, List.set_cons_succ]
            refine spec_d rfl (fun x _ => gives_run (by go_simp)) ?_
            try simp only [Act.put, List.getElem_toArray, List.getElem_cons_succ, List.getElem_cons_zero, List.setIfInBounds_toArray, List.set_cons_zero, List.set_cons_succ]
            refine spec_d rfl (fun z _ => gives_det (by go_simp) (HON.out z.world (HKD.out z))) ?_
            try simp only [Act.put, List.getElem_toArray, List.getElem_cons_succ, List.getElem_cons_zero, List.setIfInBounds_toArray, List.set_cons_zero, List.set_cons_succ]
            refine spec_d rfl (fun x _ => gives_run (by go_simp)) ?_
            try simp only [Act.put, List.getElem_toArray, List.getElem_cons_succ, List.getElem_cons_zero, List.setIfInBounds_toArray, List.set_cons_zero, List.set_cons_succ]
            refine spec_d rfl (fun x _ => gives_run (by go_simp)) ?_
            try simp only [Act.put, List.getElem_toArray, List.getElem_cons_succ, List.getElem_cons_zero, List.setIfInBounds_toArray, List.set_cons_zero, List.set_cons_succ]
            refine spec_end (fun z hz => ?_)
            clear hz
            refine wpAny_done (by kernel_rfl) ?_ _
            have HBZ := Lib.hid (HKD.out z)
            clear HKD kn0 kn1 kn2 kn3 kn4 kn5 kn6 kh0 kh1 kh2 kh3 kh4 kh5 kh6 kp0 kp1 kp2 kp3 kp4 kp5 kp6
            generalize z.world = w9 at HBZ ⊢
            clear z
            go_wp2
            go_ret
            exact ⟨rfl, HBZ.out⟩
theorem walk (A : Option Addr) (n c : Nat) (rows : List (List Value)) (B : Option Addr) (m d : Nat) (ms : List Int) (oc : Array Value) (w : World) (hU : Ld w) (hg : Grid w A n (Sh.size shE) rows) (hr : ∀ r ∈ rows, Reads w shE r) (hnc : n ≤ c) (hcm : c ≤ maxLen)
    (hz : Lst w B m (ms.map (Value.int .i64))) (hx : ∀ x ∈ ms, -9223372036854775808 ≤ x ∧ x ≤ 9223372036854775807) (hzc : m ≤ d) (hzm : d ≤ maxLen) (rs : Reads w shH oc.toList) :
    Calls Tryd.prog 5 #[.slice A n c, .slice B m d, .agg oc] w fun e w' => e = .returned (.bool true) ∧ Below w.heap.size w w' := by
  unfold maxLen at hcm hzm
  obtain ⟨ls, he, hv⟩ := evs_in hg hr
  obtain ⟨o, rfl, ho⟩ := health_in rs
  exact go A n c ls B m d ms o w hU he hz hx hv ho (by omega) (by omega)

theorem door_met (os : Os) (args : Array Value) : laidMetH Tryd.prog Rows.healthCountsRow.laid ((World.doorLaid Tryd.prog 400 os).forCall (fun _ _ => 0) ⟨#[], args, []⟩).memory :=
  laidMetH_of_parts3 (fuel := 8) (laidMet_of_run' 8 (by kernel_rfl) (by kernel_rfl)) (by kernel_rfl) (by kernel_rfl)
set_option maxRecDepth 100000 in
theorem lifted (os : Os) (started : os.Started) (H : Type) (enc : TypeId × Value → H) :
    ReturnsInHanded {} Tryd.checked os 5 .any (fun w args => (Rows.healthCountsSpec.pre enc Tryd.prog Tryd.f5 [] false w args ∧ laidMetH Tryd.prog Rows.healthCountsRow.laid w) ∧ sizedMet enc Tryd.prog Tryd.f5 (OpenSpec.ofChange Rows.healthCountsSpec) false w args)
      (Rows.healthCountsSpec.post enc Tryd.prog Tryd.f5 false true false false) := by
  refine returnsInHanded_of_change_and (C := Tryd.checked) (X := fun w _ => laidMetH Tryd.prog Rows.healthCountsRow.laid w) (fun _ _ _ hh h => h.of_heap hh) own started (by kernel_rfl) Tryd.func5
    (ChangeSpec.witness_shaped (enc := enc) (C := Tryd.checked) (os := os) (X := fun w _ => laidMetH Tryd.prog Rows.healthCountsRow.laid w) false (World.doorLaid Tryd.prog 400 os) #[.slice none 0 0, .slice none 0 0, .agg #[.int .i64 0, .int .i64 0, .int .i64 0, .int .i64 0, .int .i64 0, .int .i64 0, .int .i64 0]] 8 rfl (World.shaped_of_RefB (by kernel_rfl) (by kernel_rfl)) (by kernel_rfl) (by kernel_rfl) (by kernel_rfl) (door_met os _)) ?_
  intro W base args ds gs before hval0 hW _ _ hL _
  have hval : ∀ (j : Nat) t v, Tryd.f5.params[j]? = some t → args[j]? = some v → Value.okWide Tryd.prog W .any base t v := hval0
  have hW' := hW
  obtain ⟨p, q, hA0, hV, rfl, hfz, hnd⟩ := hW
  have hA : DataW.TrodAll enc Tryd.prog W 0 (fun _ => true) true Tryd.f5.params.toList args.toList ds p := hA0
  rw [Tryd.params5] at hA hval
  obtain ⟨v0, vs0, d0, ds0, p0, q0, hargs, rfl, rfl, h0, r0⟩ := trodAll_cons hA
  obtain ⟨v1, vs1, d1, ds1, p1, q1, rfl, rfl, rfl, h1, r1⟩ := trodAll_cons r0
  obtain ⟨v2, vs2, d2, ds2, p2, q2, rfl, rfl, rfl, h2, r2⟩ := trodAll_cons r1
  obtain ⟨rfl, rfl, rfl⟩ := trodAll_nil r2
  obtain rfl : args = #[v0, v1, v2] := by cases args; simp_all
  obtain ⟨rfl, rfl⟩ := trodVars_none hV
  have k0 := h0
  have lt0 : ∀ x ∈ p0, x.block < W.heap.size := by obtain ⟨m, hm⟩ := k0; exact DataW.trod_lt m _ _ _ hm
  obtain ⟨lA, ln, lc, rfl⟩ := okWide_slice Tryd.underlying39 (hval 0 39 v0 rfl rfl)
  obtain ⟨l, g0, rd0, cb0, cc0⟩ := reads_slice (e := shE) 30 (by kernel_rfl) k0
  have k1 := h1
  have lt1 : ∀ x ∈ p1, x.block < W.heap.size := by obtain ⟨m, hm⟩ := k1; exact DataW.trod_lt m _ _ _ hm
  obtain ⟨msA, msn, msc, rfl⟩ := okWide_slice Tryd.underlying40 (hval 1 40 v1 rfl rfl)
  obtain ⟨ms, l1, b1, cb1, cc1⟩ := lst_ints Tryd.underlying40 Tryd.underlying3 (by kernel_rfl) k1
  have k2 := h2
  have lt2 : ∀ x ∈ p2, x.block < W.heap.size := by obtain ⟨m, hm⟩ := k2; exact DataW.trod_lt m _ _ _ hm
  obtain ⟨o, rfl⟩ := okWide_agg (by first | exact .inl ⟨_, Tryd.underlying42⟩ | exact .inr ⟨_, _, Tryd.underlying42⟩) (hval 2 42 v2 rfl rfl)
  have rd2 := reads_cells (sh := shH) 30 (by kernel_rfl) k2
  clear hA0 hval0
  refine (walk lA ln lc l msA msn msc ms o W (of_laid hL) g0 rd0 cb0 cc0 l1 (ints_i64 b1) cb1 cc1 rd2).mono fun e W' ⟨he, bel⟩ => ?_
  subst he
  exact ⟨_, rfl, _, _, _, [], _, [], hW', trodAll_mk1 (shut_bool Tryd.underlying4 _), (trodAll_cons_mk (Below.trod laidOut (by kernel_rfl) (of_decide_eq_true (by kernel_rfl)) k0 bel lt0) (trodAll_cons_mk (Below.trod laidOut (by kernel_rfl) (of_decide_eq_true (by kernel_rfl)) k1 bel lt1) (trodAll_cons_mk (Below.trod laidOut (by kernel_rfl) (of_decide_eq_true (by kernel_rfl)) k2 bel lt2) trodAll_mk0))), rfl, bel.frame _, fun h => by cases h⟩

theorem over : Rows.healthCountsRow.holds Tryd.pinned (OpenSpec.ofChange Rows.healthCountsSpec) :=
  OpenClaim.holds_of_wide 5 Tryd.f5 rfl rfl rfl rfl rfl rfl rfl ⟨rfl, rfl, rfl, rfl, rfl⟩ rfl rfl rfl rfl rfl (by kernel_rfl) Tryd.func5 (by kernel_rfl)
    (of_decide_eq_true (by kernel_rfl)) (by unfold Func.isWrapper; first | (rw [if_pos (by decide +kernel)]; kernel_rfl) | (rw [if_neg (by decide +kernel)]; exact ⟨rfl, rfl⟩))
    (fun os started H enc _ => lifted os started H enc)

/-- The card: what the row lists is tied to the program's text. -/
theorem proved : Rows.HealthCountsCardSaid :=
  Claim7.holds_tied_plain_at .later [] [.data,.data,.data] true Rows.healthCountsCard.stood.harness false
    over (fun _ h => by cases h) (by kernel_rfl) (fun _ h => by cases h) healthCounts_row_tie rfl ⟨rfl, rfl⟩ (by kernel_rfl) rfl
    (fun f fn hf hfn => by
      obtain rfl : f = 5 := Option.some.inj ((show Tryd.prog.funcNamed "busbar/busbarlaw33.HealthCounts" = some 5 by kernel_rfl).symm.trans hf) |>.symm
      obtain rfl : fn = Tryd.f5 := (Option.some.inj (Tryd.func5.symm.trans hfn)).symm
      exact ⟨by kernel_rfl, fun j t ht => by
        rw [Tryd.params5] at ht
        have hm : t ∈ [39, 40, 42] := by simpa using Array.mem_of_getElem? ht
        have hall : ([39, 40, 42].all fun u => !Tryd.prog.wantsStandIn u) = true := by kernel_rfl
        exact (show Tryd.prog.wantsStandIn t = false by simpa using List.all_eq_true.1 hall t hm)⟩)
    (by kernel_rfl)
end Go.Proofs.YtanhblokhcaoiaaDoor.lawHealthCounts
