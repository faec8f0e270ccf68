/- The contract of a message's Whole, where all bits are known. -/
import Derived.Test.YtbhdenjahojbbaaWrdP
import Derived.Laws.MakeOwn
namespace Go.Proofs.Ytbhdenjahojbbaa.Ly2
open Go.ChangeShapes Go.WideShapes Go.ChangeAt Go.RowKit Base
set_option linter.unusedVariables false
set_option linter.unusedSimpArgs false
variable {w w' : World} {g m : Nat} {md : Bool} {ws : List Nat} {kn : List Bool}

theorem cells_u8 : (Try.prog.info? 5).map (·.size) = some 1 := by kernel_rfl
theorem slice_front {P : Program} {T E : TypeId} {n : Nat} (hu : P.underlying T = some (.array n E)) (hE : (P.info? E).map (·.size) = some 1) (b o : Nat) (m : Nat) (hn : 0 < n) (h1 : m ≤ n) (w : World) :
    (Instr.sliceAt T (.pointer (some ⟨b, o, none⟩)) none (some (.int .i64 m)) none).run P w = .ok (.slice (some ⟨b, o, none⟩) m n) w := by
  have hl : P.arrayLen T = n := by simp [Program.arrayLen, hu]
  have he : P.elem T = E := by simp [Program.elem, hu]
  have h1 := run_sliceAt_array_h (P := P) w T ⟨b, o, none⟩ (by rw [hl, he]; exact hu) .i64 m (by omega) (by rw [hl]; omega)
  rw [h1, hl, he]
  cases hq : P.info? E with
  | none => simp [hq] at hE
  | some i =>
    have hi : i.size = 1 := by simpa [hq] using hE
    have e : (⟨b, o, none⟩ : Addr).add 0 = ⟨b, o, none⟩ := by unfold Addr.add; split <;> simp_all
    simp [sizeOf, typeInfo, hq, hi, slicedAt, e]
set_option maxHeartbeats 2000000 in
theorem whole_yes (h : Msg w g true m ws kn) (hm : m ≤ 8) (hc : (kn.take (8 * m)).count false = 0) :
    Calls Try.prog 32 #[.pointer (some ⟨g, 0, none⟩)] w fun e w' => e = .returned (.tuple #[.slice (some ⟨w.heap.size, 0, none⟩) m m, .bool true]) ∧
      Hid (Obj1 w' w.heap.size 5 ((ws.take m).map fun (x : Nat) => Value.int .u8 x).toArray) ∧ Hid (Below w.heap.size w w') := by
  obtain ⟨i0, hi, hz0, hz1, hz2⟩ := info_parts info_u8
  have c0 := h.made
  have c1 := h.many
  have HC := Lib.hid (missing_any h hm)
  rw [hc] at HC
  have hmk : (Instr.makeSlice 37 (.int .i64 (m : Int)) (.int .i64 (m : Int))).run Try.prog w = .ok (.slice (some ⟨w.heap.size, 0, none⟩) m m) (w.alloc (.cells (madeCells #[.int .u8 0] m) 5)) := by
    have := run_make (P := Try.prog) w 37 5 i0 (.int .u8 0) Try.underlying37 hi hz0 .i64 .i64 m m (by omega) (Int.le_refl _) (by rw [hz2]; omega) (by omega)
    rw [hz1] at this
    simp only [Int.toNat_natCast, Nat.mul_one] at this
    exact this
  have HO := Lib.hid (Obj1.new w 5 (madeCells #[.int .u8 0] m))
  have hb1 : Below w.heap.size w (w.alloc (.cells (madeCells #[.int .u8 0] m) 5)) := (Below.refl _ _).alloc (Nat.le_refl _) _
  have HB := Lib.hid hb1
  have hM1 := h.kept hb1
  have HM1 := Lib.hid hM1
  have c3 := hM1.drew.many
  have HMS : Hid ((madeCells #[.int .u8 0] m).size = m) := size_madeCells _ _
  have hsl := fun w => slice_front Try.underlying57 cells_u8 g 2 m (by omega) hm w
  obtain ⟨W1, HW1⟩ : ∃ W1, W1 = w.alloc (.cells (madeCells #[.int .u8 0] m) 5) := ⟨_, rfl⟩
  rw [← HW1] at hmk HO HB HM1 c3
  obtain ⟨g0, HG0⟩ : ∃ g0, g0 = w.heap.size := ⟨_, rfl⟩
  rw [← HG0] at hmk HO ⊢
  obtain ⟨mc, hmc⟩ : ∃ mc : Array Value, mc = madeCells #[.int .u8 0] m := ⟨_, rfl⟩
  rw [← hmc] at HO HMS
  have HGG := Lib.hid HG0
  have HGL : Hid (g < g0) := Lib.hid (by rw [HG0]; exact h.obj.lt)
  clear hz0 hz1 hz2 hi hb1 hM1 HW1 hmc HG0
  obtain ⟨cs, HCS⟩ : ∃ cs, Hid ((ws.take m).map (fun (x : Nat) => Value.int .u8 x) = cs) := ⟨_, Lib.hid rfl⟩
  rw [HCS.out]
  have HL : Hid (cs.length = m) := Lib.hid (by rw [← HCS.out]; simp [h.lw]; omega)
  have HN : Hid (cs.length = Nat.min m m) := Lib.hid (by rw [HL.out]; exact (Nat.min_self _).symm)
  have H1 : Hid (∀ v ∈ cs, v.oneCell' = true) := Lib.hid (by
    intro v hv
    rw [← HCS.out] at hv
    simp only [List.mem_map] at hv
    obtain ⟨x, _, rfl⟩ := hv
    rfl)
  have HSRC : Hid (∀ j v, cs[j]? = some v → W1.drew.cell? ((⟨g, 2, none⟩ : Addr).add j) = some v) := Lib.hid (by
    intro j v hj
    have hjm : j < m := by have := (List.getElem?_eq_some_iff.1 hj).1; rw [HL.out] at this; exact this
    rw [show (⟨g, 2, none⟩ : Addr).add j = ⟨g, 2 + j, none⟩ by unfold Addr.add; split <;> simp_all, HM1.out.drew.word j (by omega), ← hj, ← HCS.out, List.getElem?_map, List.getElem?_take_of_lt hjm, List.getElem?_eq_getElem (by rw [h.lw]; omega)]
    rfl)
  go_enter Try.func32, Try.ntmps32
  go_wp2_with fail
  refine HC.out.mono ?_
  rintro e w' ⟨rfl, rfl⟩
  go_wp2_with fail
  refine wp_region_any (by kernel_rfl) ?_
  change wpAny _ _ _ _ _ _ _ (World.drew _)
  refine wpAny_take (i := 0) (v := .slice (some ⟨g0, 0, none⟩) m m) rfl (by kernel_rfl) (by kernel_rfl) (by kernel_rfl) (fun _ _ _ h => h) (Or.inl ⟨by rfl, fun w => by go_simp⟩) ?_
  try simp only [Act.put, List.getElem_toArray, List.getElem_cons_succ, List.getElem_cons_zero, List.setIfInBounds_toArray, List.set_cons_zero, List.set_cons_succ]
  refine wpAny_take (i := 1) (v := .pointer (some ⟨g, 0, none⟩)) rfl (by kernel_rfl) (by kernel_rfl) (by kernel_rfl) (fun _ _ _ h => h) (Or.inl ⟨by rfl, fun w => by go_simp⟩) ?_
  try simp only [Act.put, List.getElem_toArray, List.getElem_cons_succ, List.getElem_cons_zero, List.setIfInBounds_toArray, List.set_cons_zero, List.set_cons_succ]
  refine wpAny_take (i := 2) (v := .pointer (some ⟨g, 0, none⟩)) rfl (by kernel_rfl) (by kernel_rfl) (by kernel_rfl) (fun _ _ _ h => h) (Or.inl ⟨by rfl, fun w => by go_simp⟩) ?_
  try simp only [Act.put, List.getElem_toArray, List.getElem_cons_succ, List.getElem_cons_zero, List.setIfInBounds_toArray, List.set_cons_zero, List.set_cons_succ]
  refine wpAny_take (i := 3) (v := .pointer (some ⟨g, 2, none⟩)) rfl (by kernel_rfl) (by kernel_rfl) (by kernel_rfl) (fun _ _ _ h => h) (Or.inl ⟨by rfl, fun w => by go_simp⟩) ?_
  try simp only [Act.put, List.getElem_toArray, List.getElem_cons_succ, List.getElem_cons_zero, List.setIfInBounds_toArray, List.set_cons_zero, List.set_cons_succ]
  refine wpAny_take (i := 4) (v := .pointer (some ⟨g, 0, none⟩)) rfl (by kernel_rfl) (by kernel_rfl) (by kernel_rfl) (fun _ _ _ h => h) (Or.inl ⟨by rfl, fun w => by go_simp⟩) ?_
  try simp only [Act.put, List.getElem_toArray, List.getElem_cons_succ, List.getElem_cons_zero, List.setIfInBounds_toArray, List.set_cons_zero, List.set_cons_succ]
  refine wpAny_take (i := 5) (v := .pointer (some ⟨g, 0, none⟩)) rfl (by kernel_rfl) (by kernel_rfl) (by kernel_rfl) (fun _ _ _ h => h) (Or.inl ⟨by rfl, fun w => by go_simp⟩) ?_
  try simp only [Act.put, List.getElem_toArray, List.getElem_cons_succ, List.getElem_cons_zero, List.setIfInBounds_toArray, List.set_cons_zero, List.set_cons_succ]
  refine wpAny_take (i := 6) (v := .pointer (some ⟨g, 1, none⟩)) rfl (by kernel_rfl) (by kernel_rfl) (by kernel_rfl) (fun _ _ _ h => h) (Or.inl ⟨by rfl, fun w => by go_simp⟩) ?_
  try simp only [Act.put, List.getElem_toArray, List.getElem_cons_succ, List.getElem_cons_zero, List.setIfInBounds_toArray, List.set_cons_zero, List.set_cons_succ]
  refine wpAny_ready (rs := [7]) (by kernel_rfl) (by simp) ?_
  refine AllReady.cons rfl (fun K hK => ?_) AllReady.nil
  go_simp
  refine hK _ _ ?_
  clear hK K
  try simp only [Act.put, List.getElem_toArray, List.getElem_cons_succ, List.getElem_cons_zero, List.setIfInBounds_toArray, List.set_cons_zero, List.set_cons_succ]
  refine wpAny_ready (rs := [8]) (by kernel_rfl) (by simp) ?_
  refine AllReady.cons rfl (fun K hK => ?_) AllReady.nil
  go_simp
  refine hK _ _ ?_
  clear hK K
  try simp only [Act.put, List.getElem_toArray, List.getElem_cons_succ, List.getElem_cons_zero, List.setIfInBounds_toArray, List.set_cons_zero, List.set_cons_succ]
  refine wpAny_ready (rs := [9]) (by kernel_rfl) (by simp) ?_
  refine AllReady.cons rfl (fun K hK => ?_) AllReady.nil
  have hgo : W1.drew.heap[g0]? = some (.cells mc.toList.toArray 5 (0, 0)) := by rw [Array.toArray_toList]; exact HO.out
  have hft : 0 + cs.length ≤ mc.toList.length := by rw [HL.out, Array.length_toList, HMS.out]; omega
  have hsp : splice mc.toList 0 cs = cs := by
    unfold splice
    rw [List.drop_of_length_le (by rw [HL.out, Array.length_toList, HMS.out]; omega)]
    simp
  refine step_copy_splice rfl (.tmp 24) (.tmp 32) 37 37 rfl 5 Try.underlying37 cells_u8 (some ⟨g0, 0, none⟩) (some ⟨g, 2, none⟩) m m m 8 rfl rfl g0 0 mc.toList 5 hgo cs HN.out (fun _ => ⟨rfl, _, rfl, HSRC.out⟩) hft H1.out w.heap.size w HB.out.drew (by rw [HGG.out]; exact Nat.le_refl _) ?_
  intro w4 hg4 hb4
  rw [hsp] at hg4
  refine hK _ _ ?_
  clear hK K hgo hft hsp
  try simp only [Act.put, List.getElem_toArray, List.getElem_cons_succ, List.getElem_cons_zero, List.setIfInBounds_toArray, List.set_cons_zero, List.set_cons_succ]
  refine wpAny_done (by kernel_rfl) ?_ _
  go_wp2
  go_ret2
  exact ⟨rfl, hg4, Lib.hid (by rw [HGG.out]; exact hb4)⟩
end Go.Proofs.Ytbhdenjahojbbaa.Ly2
