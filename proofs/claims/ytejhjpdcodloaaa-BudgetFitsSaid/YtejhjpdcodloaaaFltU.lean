/- The contract of package fault's Clone. -/
import Derived.Test.YtejhjpdcodloaaaFltR
import Derived.Test.YtejhjpdcodloaaaObj
import Derived.Test.YtejhjpdcodloaaaSh
import Derived.Laws.CopyOwn
import Derived.Deep.DeepMust
namespace Go.Proofs.Ytejhjpdcodloaaa.Ly20
open Go.ChangeShapes Go.WideShapes Go.ChangeAt Go.RowKit Base
set_option linter.unusedVariables false
set_option linter.unusedSimpArgs false

theorem obj_second (w : World) (xs cs : Array Value) (t s : TypeId) : Obj1 ((w.alloc (.cells xs s)).alloc (.cells cs t)) (w.heap.size + 1) t cs := by
  have := Obj1.new (w.alloc (.cells xs s)) t cs
  simpa using this
theorem info_u8 : (Try.prog.info? 5).map (fun i => (i.zero, i.size, i.bytes)) = some (some (.int .u8 0), 1, 1) := by kernel_rfl
set_option maxRecDepth 100000 in
set_option maxHeartbeats 1000000 in
theorem clone_any (kd md : Int) (fy : Bool) (ln fr : Int) (A : Option Addr) (n c : Nat) (xs : List Int) (w : World) (h1 : n ≤ 400) (hl : Lst w A n (xs.map (Value.int .u8))) :
    Calls Try.prog 35 #[.agg #[.int .i64 kd, .int .i64 md, .bool fy, .int .i64 ln, .int .i64 fr, .slice A n c]] w fun e w' => ∃ g, e = .returned (.agg #[.int .i64 kd, .int .i64 md, .bool fy, .int .i64 ln, .int .i64 fr, .slice (some ⟨g, 0, none⟩) n n]) ∧ w.heap.size ≤ g ∧ Hid (Obj1 w' g 5 (xs.map (Value.int .u8)).toArray) ∧ Below w.heap.size w w' := by
  have hln := Lib.hid (show xs.length = n by simpa using hl.1)
  have HL := Lib.hid hl
  clear hl
  obtain ⟨i0, hi, hz0, hz1, hz2⟩ := info_parts info_u8
  obtain ⟨Z, HZ⟩ : ∃ Z, Hid (madeCells #[.int .u8 0] n = Z) := ⟨_, Lib.hid rfl⟩
  have hmk : ∀ w : World, (Instr.makeSlice 22 (.int .i64 (n : Int)) (.int .i64 (n : Int))).run Try.prog w = .ok (.slice (some ⟨w.heap.size, 0, none⟩) n n) (w.alloc (.cells Z 5)) := by
    intro w
    have := run_make (P := Try.prog) w 22 5 i0 (.int .u8 0) Try.underlying22 hi hz0 .i64 .i64 n n (by omega) (Int.le_refl _) (by rw [hz2]; omega) (by omega)
    rw [hz1] at this
    simp only [Int.toNat_natCast, Nat.mul_one] at this
    rw [← HZ.out]
    exact this
  obtain ⟨ys, HY⟩ : ∃ ys, Hid (xs.map (Value.int .u8) = ys) := ⟨_, Lib.hid rfl⟩
  rw [HY.out] at HL
  have hW2 : Below ((w.alloc (.cells #[.int .i64 kd, .int .i64 md, .bool fy, .int .i64 ln, .int .i64 fr, .slice A n c] 24)).alloc (.cells #[.int .i64 0, .int .i64 0, .bool false, .int .i64 0, .int .i64 0, .slice none 0 0] 24)).heap.size ((w.alloc (.cells #[.int .i64 kd, .int .i64 md, .bool fy, .int .i64 ln, .int .i64 fr, .slice A n c] 24)).alloc (.cells #[.int .i64 0, .int .i64 0, .bool false, .int .i64 0, .int .i64 0, .slice none 0 0] 24)) (((w.alloc (.cells #[.int .i64 kd, .int .i64 md, .bool fy, .int .i64 ln, .int .i64 fr, .slice A n c] 24)).alloc (.cells #[.int .i64 0, .int .i64 0, .bool false, .int .i64 0, .int .i64 0, .slice none 0 0] 24)).alloc (.cells Z 5)) := (Below.refl _ _).alloc (Nat.le_refl _) _
  have HW2 := Lib.hid hW2
  have HOZ : Hid ((((w.alloc (.cells #[.int .i64 kd, .int .i64 md, .bool fy, .int .i64 ln, .int .i64 fr, .slice A n c] 24)).alloc (.cells #[.int .i64 0, .int .i64 0, .bool false, .int .i64 0, .int .i64 0, .slice none 0 0] 24)).alloc (.cells Z 5)).heap[w.heap.size + 1 + 1]? = some (.cells Z.toList.toArray 5 (0, 0))) := by
    have := Obj1.new ((w.alloc (.cells #[.int .i64 kd, .int .i64 md, .bool fy, .int .i64 ln, .int .i64 fr, .slice A n c] 24)).alloc (.cells #[.int .i64 0, .int .i64 0, .bool false, .int .i64 0, .int .i64 0, .slice none 0 0] 24)) 5 Z
    rw [show ((w.alloc (.cells #[.int .i64 kd, .int .i64 md, .bool fy, .int .i64 ln, .int .i64 fr, .slice A n c] 24)).alloc (.cells #[.int .i64 0, .int .i64 0, .bool false, .int .i64 0, .int .i64 0, .slice none 0 0] 24)).heap.size = w.heap.size + 1 + 1 by simp] at this
    rw [Array.toArray_toList]
    exact Lib.hid this
  have hlw : Below w.heap.size w (((w.alloc (.cells #[.int .i64 kd, .int .i64 md, .bool fy, .int .i64 ln, .int .i64 fr, .slice A n c] 24)).alloc (.cells #[.int .i64 0, .int .i64 0, .bool false, .int .i64 0, .int .i64 0, .slice none 0 0] 24)).alloc (.cells Z 5)) := (((Below.refl _ _).alloc (Nat.le_refl _) _).alloc (by simp) _).alloc (by simp; omega) _
  have HLW := Lib.hid (HL.out.kept hlw)
  have HYL : Hid (ys.length = n) := by rw [← HY.out]; exact Lib.hid (by simpa using hln.out)
  have HY1 : Hid (∀ v ∈ ys, v.oneCell' = true) := by
    rw [← HY.out]
    exact Lib.hid (by intro v hv; simp at hv; obtain ⟨x, _, rfl⟩ := hv; rfl)
  have HZL : Hid (Z.size = n) := Lib.hid (by rw [← HZ.out]; exact size_madeCells _ _)
  have HPOS : Hid (0 < ys.length → some (⟨w.heap.size + 1 + 1, 0, none⟩ : Addr) = some ⟨w.heap.size + 1 + 1, 0, none⟩ ∧ ∃ ad, A = some ad ∧ ∀ j v, ys[j]? = some v → (((w.alloc (.cells #[.int .i64 kd, .int .i64 md, .bool fy, .int .i64 ln, .int .i64 fr, .slice A n c] 24)).alloc (.cells #[.int .i64 0, .int .i64 0, .bool false, .int .i64 0, .int .i64 0, .slice none 0 0] 24)).alloc (.cells Z 5)).cell? (ad.add j) = some v) := by
    refine Lib.hid (fun hp => ?_)
    rw [HYL.out] at hp
    obtain ⟨b, off, e, hlt, hc⟩ := HLW.out.2 hp
    refine ⟨rfl, ⟨b, off, none⟩, e, fun j v hv => ?_⟩
    have hj : j < ys.length := by
      rcases Nat.lt_or_ge j ys.length with h | h
      · exact h
      · rw [List.getElem?_eq_none h] at hv; cases hv
    rw [add_eq, hc j (by rw [← HYL.out]; exact hj), hv]
  clear hW2 hlw hz0 hz1 hz2 hi
  go_enter Try.func35, Try.ntmps35
  go_wp2_with ((with_reducible show wpList _ _ _ (Oper.mk (some 11) _ _ _ _ _ :: _) _ _); go_must (refine wpList_copy_splice rfl (.tmp 8) (.tmp 10) 22 22 rfl 5 Try.underlying22 (by kernel_rfl) (some ⟨w.heap.size + 1 + 1, 0, none⟩) A n n n c rfl rfl (w.heap.size + 1 + 1) 0 Z.toList 5 HOZ.out ys (by rw [HYL.out]; exact (Nat.min_self n).symm) HPOS.out (by have := HYL.out; have := HZL.out; simp; omega) HY1.out _ _ HW2.out (by simp) ?_); intro w3 HG hB3; have OF := ((Obj1.new w 24 #[.int .i64 kd, .int .i64 md, .bool fy, .int .i64 ln, .int .i64 fr, .slice A n c]).alloc (.cells #[.int .i64 0, .int .i64 0, .bool false, .int .i64 0, .int .i64 0, .slice none 0 0] 24)).below hB3 (by simp; omega); have OR := (obj_second w #[.int .i64 kd, .int .i64 md, .bool fy, .int .i64 ln, .int .i64 fr, .slice A n c] #[.int .i64 0, .int .i64 0, .bool false, .int .i64 0, .int .i64 0, .slice none 0 0] 24 24).below hB3 (by simp); have f0 := OF.cell 0; have ff0 := OF.free 0; have f1 := OF.cell 1; have ff1 := OF.free 1; have f2 := OF.cell 2; have ff2 := OF.free 2; have f3 := OF.cell 3; have ff3 := OF.free 3; have f4 := OF.cell 4; have ff4 := OF.free 4; have f5 := OF.cell 5; have ff5 := OF.free 5; have r0 := OR.cell 0; have rf0 := OR.free 0; have r1 := OR.cell 1; have rf1 := OR.free 1; have r2 := OR.cell 2; have rf2 := OR.free 2; have r3 := OR.cell 3; have rf3 := OR.free 3; have r4 := OR.cell 4; have rf4 := OR.free 4; have r5 := OR.cell 5; have rf5 := OR.free 5; simp at f0 f1 f2 f3 f4 f5 r0 r1 r2 r3 r4 r5; have HB3 := Lib.hid hB3; have HOF := Lib.hid OF; have HOR := Lib.hid OR; clear hB3 OF OR)
  have OE := ((((((HOR.out.far ⟨w.heap.size, 5, none⟩ (by simp) (.slice (some ⟨w.heap.size + 1 + 1, 0, none⟩) n n)).set 0 (.int .i64 kd)).set 1 (.int .i64 md)).set 2 (.bool fy)).set 3 (.int .i64 ln)).set 4 (.int .i64 fr)).set 5 (.slice (some ⟨w.heap.size + 1 + 1, 0, none⟩) n n)
  have c0 := OE.cell 0
  have c1 := OE.cell 1
  have c2 := OE.cell 2
  have c3 := OE.cell 3
  have c4 := OE.cell 4
  have c5 := OE.cell 5
  simp only [Array.setIfInBounds, Array.size_set, Array.getElem?_set] at c0 c1 c2 c3 c4 c5
  simp at c0 c1 c2 c3 c4 c5
  have hsp : splice Z.toList 0 ys = ys := by
    have := HYL.out
    have := HZL.out
    unfold splice
    rw [List.drop_of_length_le (by simp; omega)]
    simp
  have OG : Obj1 w3 (w.heap.size + 1 + 1) 5 ys.toArray := by
    have := HG.out
    rw [hsp] at this
    exact this
  have OG' := ((((((OG.far ⟨w.heap.size, 5, none⟩ (by simp; omega) (.slice (some ⟨w.heap.size + 1 + 1, 0, none⟩) n n)).far ⟨w.heap.size + 1, 0, none⟩ (by simp) (.int .i64 kd)).far ⟨w.heap.size + 1, 1, none⟩ (by simp) (.int .i64 md)).far ⟨w.heap.size + 1, 2, none⟩ (by simp) (.bool fy)).far ⟨w.heap.size + 1, 3, none⟩ (by simp) (.int .i64 ln)).far ⟨w.heap.size + 1, 4, none⟩ (by simp) (.int .i64 fr)).far ⟨w.heap.size + 1, 5, none⟩ (by simp) (.slice (some ⟨w.heap.size + 1 + 1, 0, none⟩) n n)
  have hB0 := (((Below.refl w.heap.size w).alloc (Nat.le_refl _) _).alloc (by simp) _).trans (HB3.out.mono (by simp; omega))
  refine bodyPost_ret (v := .agg #[.int .i64 kd, .int .i64 md, .bool fy, .int .i64 ln, .int .i64 fr, .slice (some ⟨w.heap.size + 1 + 1, 0, none⟩) n n]) (by simp [results, Try.results35, go_sem, c0, c1, c2, c3, c4, c5]) rfl ⟨w.heap.size + 1 + 1, rfl, by omega, by rw [HY.out]; exact Lib.hid OG', ?_⟩
  exact ((((((hB0.setCell (by simp) _).setCell (by simp) _).setCell (by simp) _).setCell (by simp) _).setCell (by simp) _).setCell (by simp) _).setCell (by simp) _
end Go.Proofs.Ytejhjpdcodloaaa.Ly20
