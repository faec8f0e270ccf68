/- The contract of package store's Clone, and of layer 13's closed example; no condition. -/
import Derived.Test.YthnopcoahcdjjaaStoD
namespace Go.Proofs.Ythnopcoahcdjjaa.Ly13
open Go.ChangeShapes Go.WideShapes Go.ChangeAt Go.RowKit Base
set_option linter.unusedVariables false
set_option linter.unusedSimpArgs false

theorem wpList_allocZ {P : Program} {ops : Array Oper} {rest : List Oper} {o : Oper} {a : Act} {w : World} {Q : Exit → Act → World → Prop} (hg : o.guard = none) (e : TypeId) (ho : o.op = .alloc e) {i : TypeInfo} {z : Value} (hi : P.info? e = some i) (hz : i.zero = some z)
    (h : wpList P ops Q rest (a.put o.dst (.pointer (some ⟨w.heap.size, 0, none⟩))) (w.alloc (.cells z.cells e))) : wpList P ops Q (o :: rest) a w :=
  wpList_plain hg fun _ hK => by
    unfold Oper.wp
    have hr : (execOp a.eval o).run P w = .ok (.value (.pointer (some ⟨w.heap.size, 0, none⟩))) (w.alloc (.cells z.cells e)) := by simp [execOp, ho, Instr.alloc, zeroValue, typeInfo, hi, hz, newVar, newRow]
    rw [hr]
    exact hK _ _ h
theorem info_store : (Try.prog.info? 85).bind (fun i => i.zero.map fun z => (i.size, z.cells.size)) = some (193, 193) := by kernel_rfl
set_option maxHeartbeats 1000000 in
theorem clone_any (b : Nat) (f : Nat → Int) (p : Nat → Bool) (x : Nat → Int) (w : World) (h : Sto w b f p x) :
    Calls Try.prog 44 #[.pointer (some ⟨b, 0, none⟩)] w fun e w' => e = .returned (.pointer (some ⟨w.heap.size, 0, none⟩)) ∧ Sto w' w.heap.size f p x ∧ Below w.heap.size w w' := by
  have hif := info_store
  obtain ⟨i, hi, hif⟩ := Option.bind_eq_some_iff.1 hif
  obtain ⟨z, hz, hif⟩ := Option.map_eq_some_iff.1 hif
  have hs1 : i.size = 193 := congrArg Prod.fst hif
  have hs2 : z.cells.size = 193 := congrArg Prod.snd hif
  have c0 := h.made
  obtain ⟨cs, ho, hs⟩ := h
  have HO := Lib.hid ho
  have HS := Lib.hid hs
  have HI := Lib.hid hi
  have HZ := Lib.hid hz
  have HSZ : Hid ((Try.prog.info? 85).map (·.size) = some cs.size) := by show _ = _; rw [hi, hs.1, ← hs1]; rfl
  have HO2 : Hid (Obj1 (w.alloc (.cells z.cells 85)) w.heap.size 85 z.cells) := Obj1.new _ _ _
  have HB2 : Hid (Below w.heap.size w (w.alloc (.cells z.cells 85))) := (Below.refl _ _).alloc (Nat.le_refl _) _
  have HS2 : Hid (z.cells.size = cs.size) := by show _ = _; rw [hs2, hs.1]
  have H1 : Hid (cs.all (·.oneCell') = true) := by
    show _ = _
    rw [Array.all_eq_true]
    intro k hk
    have hk' : k < 193 := by rw [← hs.1]; exact hk
    obtain ⟨s0, s1, s2, s3, s4⟩ := hs
    have hv : ∀ v, cs[k]? = some v → v.oneCell' = true → cs[k].oneCell' = true := fun v h1 h2 => by rw [Array.getElem?_eq_getElem hk] at h1; rw [Option.some.inj h1]; exact h2
    rcases (show k = 0 ∨ (∃ j, j < 64 ∧ k = 1 + j) ∨ (∃ j, j < 64 ∧ k = 65 + j) ∨ (∃ j, j < 64 ∧ k = 129 + j) by
      rcases (show k = 0 ∨ (1 ≤ k ∧ k < 65) ∨ (65 ≤ k ∧ k < 129) ∨ 129 ≤ k by omega) with g | g | g | g
      · exact .inl g
      · exact .inr (.inl ⟨k - 1, by omega, by omega⟩)
      · exact .inr (.inr (.inl ⟨k - 65, by omega, by omega⟩))
      · exact .inr (.inr (.inr ⟨k - 129, by omega, by omega⟩))) with rfl | ⟨j, hj, rfl⟩ | ⟨j, hj, rfl⟩ | ⟨j, hj, rfl⟩
    · exact hv _ s1 rfl
    · exact hv _ (s2 j hj) rfl
    · exact hv _ (s3 j hj) rfl
    · exact hv _ (s4 j hj) rfl
  clear ho hs hi hz hif hs1 hs2
  go_enter Try.func44, Try.ntmps44
  go_wp2_with fail
  refine (is_yes b w c0).mono ?_; rintro e w' ⟨rfl, rfl⟩
  go_upto_region 3 with (fail)
  refine wp_region_lit ?_
  refine wpList_plain rfl fun K hK => ?_
  go_simp
  refine hK _ _ ?_
  clear hK K
  refine wpList_plain rfl fun K hK => ?_
  go_simp
  refine hK _ _ ?_
  clear hK K
  refine wpList_load_row rfl 85 _ rfl b rfl _ cs _ _ HO.out Try.underlying85 rfl HSZ.out ?_
  refine wpList_allocZ rfl 85 rfl HI.out HZ.out ?_
  refine wpList_store_row rfl 85 _ _ rfl w.heap.size cs rfl rfl _ _ HO2.out HSZ.out HS2.out H1.out ?_
  have HW := Lib.hid (wrote_row HO2.out cs)
  generalize (w.alloc (.cells z.cells 85)).setRow w.heap.size cs = W at HW ⊢
  go_simp
  go_wp2
  go_ret
  exact ⟨rfl, ⟨cs, HW.out.1, HS.out⟩, HB2.out.trans (HW.out.2.below (Nat.le_refl _) HB2.out.size)⟩

theorem named : Ev.Named Try.prog := by unfold Ev.Named; kernel_rfl
theorem mixed : Try.prog.follows .mixedOrders = true := by kernel_rfl
set_option maxRecDepth 1000000 in
theorem one_run : Ev.runL Try.prog 100000 43 [] = some (.bool true) := by kernel_rfl
theorem one_any (w : World) : Calls Try.prog 43 #[] w fun e w' => e = .returned (.bool true) ∧ Below w.heap.size w w' := Ev.run_ok named mixed one_run .nil w
end Go.Proofs.Ythnopcoahcdjjaa.Ly13
