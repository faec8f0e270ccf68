/- The contract of the document's own Put, of layer 9, of a command that may be; no condition. -/
import Derived.Test.YthnopcoahcdjjaaCmdK
namespace Go.Proofs.Ythnopcoahcdjjaa.Ly9
open Go.ChangeShapes Go.WideShapes Go.ChangeAt Go.RowKit Base
set_option linter.unusedVariables false
set_option linter.unusedSimpArgs false

set_option maxRecDepth 100000 in
set_option maxHeartbeats 2000000 in
theorem rput_0 (a s c m b t : Int) (w : World) (hbd : ∀ x ∈ ([0] : List Int), 0 ≤ x ∧ x ≤ 255) :
    Calls Try.prog 21 #[cv 0 a s c m b t] w fun e w' => e = .returned (.string (bytesS ([0] : List Int))) ∧ Below w.heap.size w w' := by
  obtain ⟨S, HS⟩ : ∃ S, Hid (bytesS ([0] : List Int) = S) := ⟨_, Lib.hid rfl⟩
  rw [HS.out]
  obtain ⟨ls, HL⟩ : ∃ ls : List Int, Hid (ls = [0]) := ⟨_, Lib.hid rfl⟩
  have HN : Hid (ls.length = 1) := by show _ = _; rw [HL.out]; rfl
  rw [← HL.out] at hbd HS
  have HBD := Lib.hid hbd
  have HB : Hid (Below w.heap.size w ((w.alloc (.cells #[.int .i64 0, .int .i64 a, .int .i64 s, .int .i64 c, .int .i64 m, .int .i64 b, .int .i64 t] 24)).alloc (.cells #[.int .i64 0] 3))) := Lib.hid (by
    have h1 : Below w.heap.size w (w.alloc (.cells #[.int .i64 0, .int .i64 a, .int .i64 s, .int .i64 c, .int .i64 m, .int .i64 b, .int .i64 t] 24)) := (Below.refl _ _).alloc (Nat.le_refl _) _
    exact h1.alloc (by simp) _)
  have HO : Hid (Obj1 ((w.alloc (.cells #[.int .i64 0, .int .i64 a, .int .i64 s, .int .i64 c, .int .i64 m, .int .i64 b, .int .i64 t] 24)).alloc (.cells #[.int .i64 0] 3)) (w.heap.size + 1) 3 (ls.map (Value.int .i64)).toArray) := Lib.hid (by
    rw [HL.out]
    have e : (w.alloc (.cells #[.int .i64 0, .int .i64 a, .int .i64 s, .int .i64 c, .int .i64 m, .int .i64 b, .int .i64 t] 24)).heap.size = w.heap.size + 1 := by simp
    rw [← e]
    exact Obj1.new _ _ _)
  clear hbd
  go_enter Try.func21, Try.ntmps21
  go_upto_region 16 with (fail)
  generalize ((w.alloc (.cells #[.int .i64 0, .int .i64 a, .int .i64 s, .int .i64 c, .int .i64 m, .int .i64 b, .int .i64 t] 24)).alloc (.cells #[.int .i64 0] 3)) = W2 at HB HO ⊢
  go_loopw [4, 5] (fun v i wr => ∃ j : Nat, j ≤ 1 ∧ i = .int .i64 j ∧ v = .string (bytesS (ls.take j)) ∧ Below W2.heap.size W2 wr) (fun _ i _ => 1 - (intOf i).toNat)
  case atStart => exact ⟨0, by omega, rfl, rfl, Below.refl _ _⟩
  case round =>
    obtain ⟨j, hj, rfl, rfl, hbel⟩ := hrel
    by_cases hlt : j < 1
    · have hlt' : j < ls.length := by rw [HN.out]; exact hlt
      obtain ⟨x, HX⟩ : ∃ x, Hid (ls[j]'hlt' = x) := ⟨_, Lib.hid rfl⟩
      obtain ⟨x0, x1⟩ := HBD.out x (by rw [← HX.out]; exact List.getElem_mem hlt')
      have hc : wr.cell? ⟨w.heap.size + 1, j, none⟩ = some (.int .i64 x) := by
        rw [(HO.out.kept hbel).cell, List.getElem?_toArray, List.getElem?_map, List.getElem?_eq_getElem hlt', HX.out]
        rfl
      obtain ⟨P1, HP1⟩ : ∃ P1, Hid (bytesS (ls.take j) = P1) := ⟨_, Lib.hid rfl⟩
      obtain ⟨P2, HP2⟩ : ∃ P2, Hid (bytesS [x] = P2) := ⟨_, Lib.hid rfl⟩
      have C : (convert 26 9 (.slice (some ⟨wr.heap.size, 0, none⟩) 1 1)).run Try.prog (wr.alloc (.cells #[.int .u8 x] 5)) = .ok (.string P2) (wr.alloc (.cells #[.int .u8 x] 5)) := by
        rw [← HP2.out]
        refine convS (ns := [x]) ⟨rfl, fun _ => ⟨_, 0, rfl, by simp, fun k hk => ?_⟩⟩ (by omega)
        obtain rfl : k = 0 := by simpa using hk
        rw [Nat.zero_add, (Obj1.new wr 5 #[.int .u8 x]).cell]
        rfl
      have z1 : P1.size = j := by rw [← HP1.out, bytesS_len, List.length_take]; omega
      have z2 : P2.size = 1 := by rw [← HP2.out, bytesS_len]; rfl
      have z3 : ¬ maxLen < j + 1 := by unfold maxLen; omega
      have z4 : j + 1 ≤ maxLen := by unfold maxLen; omega
      rw [HP1.out]
      have HBE := Lib.hid hbel
      clear hbel
      go_wp2
      go_roundw
      case rel =>
        refine ⟨j + 1, by omega, by go_num, ?_, HBE.out.alloc HBE.out.size _⟩
        rw [List.take_add_one, List.getElem?_eq_getElem hlt', HX.out]
        show _ = Value.string (bytesS (ls.take j ++ [x]))
        rw [bytesS_snoc, HP1.out, HP2.out]
      case measure => simp [intOf]; omega
    · obtain rfl : j = 1 := by omega
      rw [List.take_of_length_le (by rw [HN.out]; omega), HS.out]
      go_wp2
      go_ret
      exact ⟨rfl, HB.out.trans (hbel.mono HB.out.size)⟩
set_option maxRecDepth 100000 in
set_option maxHeartbeats 2000000 in
theorem rput_5 (a s c m b t : Int) (w : World) (hbd : ∀ x ∈ ([5] : List Int), 0 ≤ x ∧ x ≤ 255) :
    Calls Try.prog 21 #[cv 5 a s c m b t] w fun e w' => e = .returned (.string (bytesS ([5] : List Int))) ∧ Below w.heap.size w w' := by
  obtain ⟨S, HS⟩ : ∃ S, Hid (bytesS ([5] : List Int) = S) := ⟨_, Lib.hid rfl⟩
  rw [HS.out]
  obtain ⟨ls, HL⟩ : ∃ ls : List Int, Hid (ls = [5]) := ⟨_, Lib.hid rfl⟩
  have HN : Hid (ls.length = 1) := by show _ = _; rw [HL.out]; rfl
  rw [← HL.out] at hbd HS
  have HBD := Lib.hid hbd
  have HB : Hid (Below w.heap.size w ((w.alloc (.cells #[.int .i64 5, .int .i64 a, .int .i64 s, .int .i64 c, .int .i64 m, .int .i64 b, .int .i64 t] 24)).alloc (.cells #[.int .i64 5] 3))) := Lib.hid (by
    have h1 : Below w.heap.size w (w.alloc (.cells #[.int .i64 5, .int .i64 a, .int .i64 s, .int .i64 c, .int .i64 m, .int .i64 b, .int .i64 t] 24)) := (Below.refl _ _).alloc (Nat.le_refl _) _
    exact h1.alloc (by simp) _)
  have HO : Hid (Obj1 ((w.alloc (.cells #[.int .i64 5, .int .i64 a, .int .i64 s, .int .i64 c, .int .i64 m, .int .i64 b, .int .i64 t] 24)).alloc (.cells #[.int .i64 5] 3)) (w.heap.size + 1) 3 (ls.map (Value.int .i64)).toArray) := Lib.hid (by
    rw [HL.out]
    have e : (w.alloc (.cells #[.int .i64 5, .int .i64 a, .int .i64 s, .int .i64 c, .int .i64 m, .int .i64 b, .int .i64 t] 24)).heap.size = w.heap.size + 1 := by simp
    rw [← e]
    exact Obj1.new _ _ _)
  clear hbd
  go_enter Try.func21, Try.ntmps21
  go_upto_region 16 with (fail)
  generalize ((w.alloc (.cells #[.int .i64 5, .int .i64 a, .int .i64 s, .int .i64 c, .int .i64 m, .int .i64 b, .int .i64 t] 24)).alloc (.cells #[.int .i64 5] 3)) = W2 at HB HO ⊢
  go_loopw [4, 5] (fun v i wr => ∃ j : Nat, j ≤ 1 ∧ i = .int .i64 j ∧ v = .string (bytesS (ls.take j)) ∧ Below W2.heap.size W2 wr) (fun _ i _ => 1 - (intOf i).toNat)
  case atStart => exact ⟨0, by omega, rfl, rfl, Below.refl _ _⟩
  case round =>
    obtain ⟨j, hj, rfl, rfl, hbel⟩ := hrel
    by_cases hlt : j < 1
    · have hlt' : j < ls.length := by rw [HN.out]; exact hlt
      obtain ⟨x, HX⟩ : ∃ x, Hid (ls[j]'hlt' = x) := ⟨_, Lib.hid rfl⟩
      obtain ⟨x0, x1⟩ := HBD.out x (by rw [← HX.out]; exact List.getElem_mem hlt')
      have hc : wr.cell? ⟨w.heap.size + 1, j, none⟩ = some (.int .i64 x) := by
        rw [(HO.out.kept hbel).cell, List.getElem?_toArray, List.getElem?_map, List.getElem?_eq_getElem hlt', HX.out]
        rfl
      obtain ⟨P1, HP1⟩ : ∃ P1, Hid (bytesS (ls.take j) = P1) := ⟨_, Lib.hid rfl⟩
      obtain ⟨P2, HP2⟩ : ∃ P2, Hid (bytesS [x] = P2) := ⟨_, Lib.hid rfl⟩
      have C : (convert 26 9 (.slice (some ⟨wr.heap.size, 0, none⟩) 1 1)).run Try.prog (wr.alloc (.cells #[.int .u8 x] 5)) = .ok (.string P2) (wr.alloc (.cells #[.int .u8 x] 5)) := by
        rw [← HP2.out]
        refine convS (ns := [x]) ⟨rfl, fun _ => ⟨_, 0, rfl, by simp, fun k hk => ?_⟩⟩ (by omega)
        obtain rfl : k = 0 := by simpa using hk
        rw [Nat.zero_add, (Obj1.new wr 5 #[.int .u8 x]).cell]
        rfl
      have z1 : P1.size = j := by rw [← HP1.out, bytesS_len, List.length_take]; omega
      have z2 : P2.size = 1 := by rw [← HP2.out, bytesS_len]; rfl
      have z3 : ¬ maxLen < j + 1 := by unfold maxLen; omega
      have z4 : j + 1 ≤ maxLen := by unfold maxLen; omega
      rw [HP1.out]
      have HBE := Lib.hid hbel
      clear hbel
      go_wp2
      go_roundw
      case rel =>
        refine ⟨j + 1, by omega, by go_num, ?_, HBE.out.alloc HBE.out.size _⟩
        rw [List.take_add_one, List.getElem?_eq_getElem hlt', HX.out]
        show _ = Value.string (bytesS (ls.take j ++ [x]))
        rw [bytesS_snoc, HP1.out, HP2.out]
      case measure => simp [intOf]; omega
    · obtain rfl : j = 1 := by omega
      rw [List.take_of_length_le (by rw [HN.out]; omega), HS.out]
      go_wp2
      go_ret
      exact ⟨rfl, HB.out.trans (hbel.mono HB.out.size)⟩
set_option maxRecDepth 100000 in
set_option maxHeartbeats 2000000 in
theorem rput_7 (a s c m b t : Int) (w : World) (hbd : ∀ x ∈ ([7] : List Int), 0 ≤ x ∧ x ≤ 255) :
    Calls Try.prog 21 #[cv 7 a s c m b t] w fun e w' => e = .returned (.string (bytesS ([7] : List Int))) ∧ Below w.heap.size w w' := by
  obtain ⟨S, HS⟩ : ∃ S, Hid (bytesS ([7] : List Int) = S) := ⟨_, Lib.hid rfl⟩
  rw [HS.out]
  obtain ⟨ls, HL⟩ : ∃ ls : List Int, Hid (ls = [7]) := ⟨_, Lib.hid rfl⟩
  have HN : Hid (ls.length = 1) := by show _ = _; rw [HL.out]; rfl
  rw [← HL.out] at hbd HS
  have HBD := Lib.hid hbd
  have HB : Hid (Below w.heap.size w ((w.alloc (.cells #[.int .i64 7, .int .i64 a, .int .i64 s, .int .i64 c, .int .i64 m, .int .i64 b, .int .i64 t] 24)).alloc (.cells #[.int .i64 7] 3))) := Lib.hid (by
    have h1 : Below w.heap.size w (w.alloc (.cells #[.int .i64 7, .int .i64 a, .int .i64 s, .int .i64 c, .int .i64 m, .int .i64 b, .int .i64 t] 24)) := (Below.refl _ _).alloc (Nat.le_refl _) _
    exact h1.alloc (by simp) _)
  have HO : Hid (Obj1 ((w.alloc (.cells #[.int .i64 7, .int .i64 a, .int .i64 s, .int .i64 c, .int .i64 m, .int .i64 b, .int .i64 t] 24)).alloc (.cells #[.int .i64 7] 3)) (w.heap.size + 1) 3 (ls.map (Value.int .i64)).toArray) := Lib.hid (by
    rw [HL.out]
    have e : (w.alloc (.cells #[.int .i64 7, .int .i64 a, .int .i64 s, .int .i64 c, .int .i64 m, .int .i64 b, .int .i64 t] 24)).heap.size = w.heap.size + 1 := by simp
    rw [← e]
    exact Obj1.new _ _ _)
  clear hbd
  go_enter Try.func21, Try.ntmps21
  go_upto_region 16 with (fail)
  generalize ((w.alloc (.cells #[.int .i64 7, .int .i64 a, .int .i64 s, .int .i64 c, .int .i64 m, .int .i64 b, .int .i64 t] 24)).alloc (.cells #[.int .i64 7] 3)) = W2 at HB HO ⊢
  go_loopw [4, 5] (fun v i wr => ∃ j : Nat, j ≤ 1 ∧ i = .int .i64 j ∧ v = .string (bytesS (ls.take j)) ∧ Below W2.heap.size W2 wr) (fun _ i _ => 1 - (intOf i).toNat)
  case atStart => exact ⟨0, by omega, rfl, rfl, Below.refl _ _⟩
  case round =>
    obtain ⟨j, hj, rfl, rfl, hbel⟩ := hrel
    by_cases hlt : j < 1
    · have hlt' : j < ls.length := by rw [HN.out]; exact hlt
      obtain ⟨x, HX⟩ : ∃ x, Hid (ls[j]'hlt' = x) := ⟨_, Lib.hid rfl⟩
      obtain ⟨x0, x1⟩ := HBD.out x (by rw [← HX.out]; exact List.getElem_mem hlt')
      have hc : wr.cell? ⟨w.heap.size + 1, j, none⟩ = some (.int .i64 x) := by
        rw [(HO.out.kept hbel).cell, List.getElem?_toArray, List.getElem?_map, List.getElem?_eq_getElem hlt', HX.out]
        rfl
      obtain ⟨P1, HP1⟩ : ∃ P1, Hid (bytesS (ls.take j) = P1) := ⟨_, Lib.hid rfl⟩
      obtain ⟨P2, HP2⟩ : ∃ P2, Hid (bytesS [x] = P2) := ⟨_, Lib.hid rfl⟩
      have C : (convert 26 9 (.slice (some ⟨wr.heap.size, 0, none⟩) 1 1)).run Try.prog (wr.alloc (.cells #[.int .u8 x] 5)) = .ok (.string P2) (wr.alloc (.cells #[.int .u8 x] 5)) := by
        rw [← HP2.out]
        refine convS (ns := [x]) ⟨rfl, fun _ => ⟨_, 0, rfl, by simp, fun k hk => ?_⟩⟩ (by omega)
        obtain rfl : k = 0 := by simpa using hk
        rw [Nat.zero_add, (Obj1.new wr 5 #[.int .u8 x]).cell]
        rfl
      have z1 : P1.size = j := by rw [← HP1.out, bytesS_len, List.length_take]; omega
      have z2 : P2.size = 1 := by rw [← HP2.out, bytesS_len]; rfl
      have z3 : ¬ maxLen < j + 1 := by unfold maxLen; omega
      have z4 : j + 1 ≤ maxLen := by unfold maxLen; omega
      rw [HP1.out]
      have HBE := Lib.hid hbel
      clear hbel
      go_wp2
      go_roundw
      case rel =>
        refine ⟨j + 1, by omega, by go_num, ?_, HBE.out.alloc HBE.out.size _⟩
        rw [List.take_add_one, List.getElem?_eq_getElem hlt', HX.out]
        show _ = Value.string (bytesS (ls.take j ++ [x]))
        rw [bytesS_snoc, HP1.out, HP2.out]
      case measure => simp [intOf]; omega
    · obtain rfl : j = 1 := by omega
      rw [List.take_of_length_le (by rw [HN.out]; omega), HS.out]
      go_wp2
      go_ret
      exact ⟨rfl, HB.out.trans (hbel.mono HB.out.size)⟩
set_option maxRecDepth 100000 in
set_option maxHeartbeats 2000000 in
theorem rput_1 (a s c m b t : Int) (w : World) (hbd : ∀ x ∈ ([1, a, s, c, m] : List Int), 0 ≤ x ∧ x ≤ 255) :
    Calls Try.prog 21 #[cv 1 a s c m b t] w fun e w' => e = .returned (.string (bytesS ([1, a, s, c, m] : List Int))) ∧ Below w.heap.size w w' := by
  obtain ⟨S, HS⟩ : ∃ S, Hid (bytesS ([1, a, s, c, m] : List Int) = S) := ⟨_, Lib.hid rfl⟩
  rw [HS.out]
  obtain ⟨ls, HL⟩ : ∃ ls : List Int, Hid (ls = [1, a, s, c, m]) := ⟨_, Lib.hid rfl⟩
  have HN : Hid (ls.length = 5) := by show _ = _; rw [HL.out]; rfl
  rw [← HL.out] at hbd HS
  have HBD := Lib.hid hbd
  have HB : Hid (Below w.heap.size w (((w.alloc (.cells #[.int .i64 1, .int .i64 a, .int .i64 s, .int .i64 c, .int .i64 m, .int .i64 b, .int .i64 t] 24)).alloc (.cells #[.int .i64 1] 3)).alloc (.cells #[.int .i64 1, .int .i64 a, .int .i64 s, .int .i64 c, .int .i64 m] 3))) := Lib.hid (by
    have h1 : Below w.heap.size w (w.alloc (.cells #[.int .i64 1, .int .i64 a, .int .i64 s, .int .i64 c, .int .i64 m, .int .i64 b, .int .i64 t] 24)) := (Below.refl _ _).alloc (Nat.le_refl _) _
    exact (h1.alloc (by simp) _).alloc (by simp; omega) _)
  have HO : Hid (Obj1 (((w.alloc (.cells #[.int .i64 1, .int .i64 a, .int .i64 s, .int .i64 c, .int .i64 m, .int .i64 b, .int .i64 t] 24)).alloc (.cells #[.int .i64 1] 3)).alloc (.cells #[.int .i64 1, .int .i64 a, .int .i64 s, .int .i64 c, .int .i64 m] 3)) (w.heap.size + 1 + 1) 3 (ls.map (Value.int .i64)).toArray) := Lib.hid (by
    rw [HL.out]
    have e : ((w.alloc (.cells #[.int .i64 1, .int .i64 a, .int .i64 s, .int .i64 c, .int .i64 m, .int .i64 b, .int .i64 t] 24)).alloc (.cells #[.int .i64 1] 3)).heap.size = w.heap.size + 1 + 1 := by simp
    rw [← e]
    exact Obj1.new _ _ _)
  clear hbd
  go_enter Try.func21, Try.ntmps21
  go_upto_region 16 with (fail)
  generalize (((w.alloc (.cells #[.int .i64 1, .int .i64 a, .int .i64 s, .int .i64 c, .int .i64 m, .int .i64 b, .int .i64 t] 24)).alloc (.cells #[.int .i64 1] 3)).alloc (.cells #[.int .i64 1, .int .i64 a, .int .i64 s, .int .i64 c, .int .i64 m] 3)) = W2 at HB HO ⊢
  go_loopw [4, 5] (fun v i wr => ∃ j : Nat, j ≤ 5 ∧ i = .int .i64 j ∧ v = .string (bytesS (ls.take j)) ∧ Below W2.heap.size W2 wr) (fun _ i _ => 5 - (intOf i).toNat)
  case atStart => exact ⟨0, by omega, rfl, rfl, Below.refl _ _⟩
  case round =>
    obtain ⟨j, hj, rfl, rfl, hbel⟩ := hrel
    by_cases hlt : j < 5
    · have hlt' : j < ls.length := by rw [HN.out]; exact hlt
      obtain ⟨x, HX⟩ : ∃ x, Hid (ls[j]'hlt' = x) := ⟨_, Lib.hid rfl⟩
      obtain ⟨x0, x1⟩ := HBD.out x (by rw [← HX.out]; exact List.getElem_mem hlt')
      have hc : wr.cell? ⟨w.heap.size + 1 + 1, j, none⟩ = some (.int .i64 x) := by
        rw [(HO.out.kept hbel).cell, List.getElem?_toArray, List.getElem?_map, List.getElem?_eq_getElem hlt', HX.out]
        rfl
      obtain ⟨P1, HP1⟩ : ∃ P1, Hid (bytesS (ls.take j) = P1) := ⟨_, Lib.hid rfl⟩
      obtain ⟨P2, HP2⟩ : ∃ P2, Hid (bytesS [x] = P2) := ⟨_, Lib.hid rfl⟩
      have C : (convert 26 9 (.slice (some ⟨wr.heap.size, 0, none⟩) 1 1)).run Try.prog (wr.alloc (.cells #[.int .u8 x] 5)) = .ok (.string P2) (wr.alloc (.cells #[.int .u8 x] 5)) := by
        rw [← HP2.out]
        refine convS (ns := [x]) ⟨rfl, fun _ => ⟨_, 0, rfl, by simp, fun k hk => ?_⟩⟩ (by omega)
        obtain rfl : k = 0 := by simpa using hk
        rw [Nat.zero_add, (Obj1.new wr 5 #[.int .u8 x]).cell]
        rfl
      have z1 : P1.size = j := by rw [← HP1.out, bytesS_len, List.length_take]; omega
      have z2 : P2.size = 1 := by rw [← HP2.out, bytesS_len]; rfl
      have z3 : ¬ maxLen < j + 1 := by unfold maxLen; omega
      have z4 : j + 1 ≤ maxLen := by unfold maxLen; omega
      rw [HP1.out]
      have HBE := Lib.hid hbel
      clear hbel
      go_wp2
      go_roundw
      case rel =>
        refine ⟨j + 1, by omega, by go_num, ?_, HBE.out.alloc HBE.out.size _⟩
        rw [List.take_add_one, List.getElem?_eq_getElem hlt', HX.out]
        show _ = Value.string (bytesS (ls.take j ++ [x]))
        rw [bytesS_snoc, HP1.out, HP2.out]
      case measure => simp [intOf]; omega
    · obtain rfl : j = 5 := by omega
      rw [List.take_of_length_le (by rw [HN.out]; omega), HS.out]
      go_wp2
      go_ret
      exact ⟨rfl, HB.out.trans (hbel.mono HB.out.size)⟩
set_option maxRecDepth 100000 in
set_option maxHeartbeats 2000000 in
theorem rput_2 (a s c m b t : Int) (w : World) (hbd : ∀ x ∈ ([2, a, s, m] : List Int), 0 ≤ x ∧ x ≤ 255) :
    Calls Try.prog 21 #[cv 2 a s c m b t] w fun e w' => e = .returned (.string (bytesS ([2, a, s, m] : List Int))) ∧ Below w.heap.size w w' := by
  obtain ⟨S, HS⟩ : ∃ S, Hid (bytesS ([2, a, s, m] : List Int) = S) := ⟨_, Lib.hid rfl⟩
  rw [HS.out]
  obtain ⟨ls, HL⟩ : ∃ ls : List Int, Hid (ls = [2, a, s, m]) := ⟨_, Lib.hid rfl⟩
  have HN : Hid (ls.length = 4) := by show _ = _; rw [HL.out]; rfl
  rw [← HL.out] at hbd HS
  have HBD := Lib.hid hbd
  have HB : Hid (Below w.heap.size w (((w.alloc (.cells #[.int .i64 2, .int .i64 a, .int .i64 s, .int .i64 c, .int .i64 m, .int .i64 b, .int .i64 t] 24)).alloc (.cells #[.int .i64 2] 3)).alloc (.cells #[.int .i64 2, .int .i64 a, .int .i64 s, .int .i64 m] 3))) := Lib.hid (by
    have h1 : Below w.heap.size w (w.alloc (.cells #[.int .i64 2, .int .i64 a, .int .i64 s, .int .i64 c, .int .i64 m, .int .i64 b, .int .i64 t] 24)) := (Below.refl _ _).alloc (Nat.le_refl _) _
    exact (h1.alloc (by simp) _).alloc (by simp; omega) _)
  have HO : Hid (Obj1 (((w.alloc (.cells #[.int .i64 2, .int .i64 a, .int .i64 s, .int .i64 c, .int .i64 m, .int .i64 b, .int .i64 t] 24)).alloc (.cells #[.int .i64 2] 3)).alloc (.cells #[.int .i64 2, .int .i64 a, .int .i64 s, .int .i64 m] 3)) (w.heap.size + 1 + 1) 3 (ls.map (Value.int .i64)).toArray) := Lib.hid (by
    rw [HL.out]
    have e : ((w.alloc (.cells #[.int .i64 2, .int .i64 a, .int .i64 s, .int .i64 c, .int .i64 m, .int .i64 b, .int .i64 t] 24)).alloc (.cells #[.int .i64 2] 3)).heap.size = w.heap.size + 1 + 1 := by simp
    rw [← e]
    exact Obj1.new _ _ _)
  clear hbd
  go_enter Try.func21, Try.ntmps21
  go_upto_region 16 with (fail)
  generalize (((w.alloc (.cells #[.int .i64 2, .int .i64 a, .int .i64 s, .int .i64 c, .int .i64 m, .int .i64 b, .int .i64 t] 24)).alloc (.cells #[.int .i64 2] 3)).alloc (.cells #[.int .i64 2, .int .i64 a, .int .i64 s, .int .i64 m] 3)) = W2 at HB HO ⊢
  go_loopw [4, 5] (fun v i wr => ∃ j : Nat, j ≤ 4 ∧ i = .int .i64 j ∧ v = .string (bytesS (ls.take j)) ∧ Below W2.heap.size W2 wr) (fun _ i _ => 4 - (intOf i).toNat)
  case atStart => exact ⟨0, by omega, rfl, rfl, Below.refl _ _⟩
  case round =>
    obtain ⟨j, hj, rfl, rfl, hbel⟩ := hrel
    by_cases hlt : j < 4
    · have hlt' : j < ls.length := by rw [HN.out]; exact hlt
      obtain ⟨x, HX⟩ : ∃ x, Hid (ls[j]'hlt' = x) := ⟨_, Lib.hid rfl⟩
      obtain ⟨x0, x1⟩ := HBD.out x (by rw [← HX.out]; exact List.getElem_mem hlt')
      have hc : wr.cell? ⟨w.heap.size + 1 + 1, j, none⟩ = some (.int .i64 x) := by
        rw [(HO.out.kept hbel).cell, List.getElem?_toArray, List.getElem?_map, List.getElem?_eq_getElem hlt', HX.out]
        rfl
      obtain ⟨P1, HP1⟩ : ∃ P1, Hid (bytesS (ls.take j) = P1) := ⟨_, Lib.hid rfl⟩
      obtain ⟨P2, HP2⟩ : ∃ P2, Hid (bytesS [x] = P2) := ⟨_, Lib.hid rfl⟩
      have C : (convert 26 9 (.slice (some ⟨wr.heap.size, 0, none⟩) 1 1)).run Try.prog (wr.alloc (.cells #[.int .u8 x] 5)) = .ok (.string P2) (wr.alloc (.cells #[.int .u8 x] 5)) := by
        rw [← HP2.out]
        refine convS (ns := [x]) ⟨rfl, fun _ => ⟨_, 0, rfl, by simp, fun k hk => ?_⟩⟩ (by omega)
        obtain rfl : k = 0 := by simpa using hk
        rw [Nat.zero_add, (Obj1.new wr 5 #[.int .u8 x]).cell]
        rfl
      have z1 : P1.size = j := by rw [← HP1.out, bytesS_len, List.length_take]; omega
      have z2 : P2.size = 1 := by rw [← HP2.out, bytesS_len]; rfl
      have z3 : ¬ maxLen < j + 1 := by unfold maxLen; omega
      have z4 : j + 1 ≤ maxLen := by unfold maxLen; omega
      rw [HP1.out]
      have HBE := Lib.hid hbel
      clear hbel
      go_wp2
      go_roundw
      case rel =>
        refine ⟨j + 1, by omega, by go_num, ?_, HBE.out.alloc HBE.out.size _⟩
        rw [List.take_add_one, List.getElem?_eq_getElem hlt', HX.out]
        show _ = Value.string (bytesS (ls.take j ++ [x]))
        rw [bytesS_snoc, HP1.out, HP2.out]
      case measure => simp [intOf]; omega
    · obtain rfl : j = 4 := by omega
      rw [List.take_of_length_le (by rw [HN.out]; omega), HS.out]
      go_wp2
      go_ret
      exact ⟨rfl, HB.out.trans (hbel.mono HB.out.size)⟩
set_option maxRecDepth 100000 in
set_option maxHeartbeats 2000000 in
theorem rput_3 (a s c m b t : Int) (w : World) (hbd : ∀ x ∈ ([3, s, m] : List Int), 0 ≤ x ∧ x ≤ 255) :
    Calls Try.prog 21 #[cv 3 a s c m b t] w fun e w' => e = .returned (.string (bytesS ([3, s, m] : List Int))) ∧ Below w.heap.size w w' := by
  obtain ⟨S, HS⟩ : ∃ S, Hid (bytesS ([3, s, m] : List Int) = S) := ⟨_, Lib.hid rfl⟩
  rw [HS.out]
  obtain ⟨ls, HL⟩ : ∃ ls : List Int, Hid (ls = [3, s, m]) := ⟨_, Lib.hid rfl⟩
  have HN : Hid (ls.length = 3) := by show _ = _; rw [HL.out]; rfl
  rw [← HL.out] at hbd HS
  have HBD := Lib.hid hbd
  have HB : Hid (Below w.heap.size w (((w.alloc (.cells #[.int .i64 3, .int .i64 a, .int .i64 s, .int .i64 c, .int .i64 m, .int .i64 b, .int .i64 t] 24)).alloc (.cells #[.int .i64 3] 3)).alloc (.cells #[.int .i64 3, .int .i64 s, .int .i64 m] 3))) := Lib.hid (by
    have h1 : Below w.heap.size w (w.alloc (.cells #[.int .i64 3, .int .i64 a, .int .i64 s, .int .i64 c, .int .i64 m, .int .i64 b, .int .i64 t] 24)) := (Below.refl _ _).alloc (Nat.le_refl _) _
    exact (h1.alloc (by simp) _).alloc (by simp; omega) _)
  have HO : Hid (Obj1 (((w.alloc (.cells #[.int .i64 3, .int .i64 a, .int .i64 s, .int .i64 c, .int .i64 m, .int .i64 b, .int .i64 t] 24)).alloc (.cells #[.int .i64 3] 3)).alloc (.cells #[.int .i64 3, .int .i64 s, .int .i64 m] 3)) (w.heap.size + 1 + 1) 3 (ls.map (Value.int .i64)).toArray) := Lib.hid (by
    rw [HL.out]
    have e : ((w.alloc (.cells #[.int .i64 3, .int .i64 a, .int .i64 s, .int .i64 c, .int .i64 m, .int .i64 b, .int .i64 t] 24)).alloc (.cells #[.int .i64 3] 3)).heap.size = w.heap.size + 1 + 1 := by simp
    rw [← e]
    exact Obj1.new _ _ _)
  clear hbd
  go_enter Try.func21, Try.ntmps21
  go_upto_region 16 with (fail)
  generalize (((w.alloc (.cells #[.int .i64 3, .int .i64 a, .int .i64 s, .int .i64 c, .int .i64 m, .int .i64 b, .int .i64 t] 24)).alloc (.cells #[.int .i64 3] 3)).alloc (.cells #[.int .i64 3, .int .i64 s, .int .i64 m] 3)) = W2 at HB HO ⊢
  go_loopw [4, 5] (fun v i wr => ∃ j : Nat, j ≤ 3 ∧ i = .int .i64 j ∧ v = .string (bytesS (ls.take j)) ∧ Below W2.heap.size W2 wr) (fun _ i _ => 3 - (intOf i).toNat)
  case atStart => exact ⟨0, by omega, rfl, rfl, Below.refl _ _⟩
  case round =>
    obtain ⟨j, hj, rfl, rfl, hbel⟩ := hrel
    by_cases hlt : j < 3
    · have hlt' : j < ls.length := by rw [HN.out]; exact hlt
      obtain ⟨x, HX⟩ : ∃ x, Hid (ls[j]'hlt' = x) := ⟨_, Lib.hid rfl⟩
      obtain ⟨x0, x1⟩ := HBD.out x (by rw [← HX.out]; exact List.getElem_mem hlt')
      have hc : wr.cell? ⟨w.heap.size + 1 + 1, j, none⟩ = some (.int .i64 x) := by
        rw [(HO.out.kept hbel).cell, List.getElem?_toArray, List.getElem?_map, List.getElem?_eq_getElem hlt', HX.out]
        rfl
      obtain ⟨P1, HP1⟩ : ∃ P1, Hid (bytesS (ls.take j) = P1) := ⟨_, Lib.hid rfl⟩
      obtain ⟨P2, HP2⟩ : ∃ P2, Hid (bytesS [x] = P2) := ⟨_, Lib.hid rfl⟩
      have C : (convert 26 9 (.slice (some ⟨wr.heap.size, 0, none⟩) 1 1)).run Try.prog (wr.alloc (.cells #[.int .u8 x] 5)) = .ok (.string P2) (wr.alloc (.cells #[.int .u8 x] 5)) := by
        rw [← HP2.out]
        refine convS (ns := [x]) ⟨rfl, fun _ => ⟨_, 0, rfl, by simp, fun k hk => ?_⟩⟩ (by omega)
        obtain rfl : k = 0 := by simpa using hk
        rw [Nat.zero_add, (Obj1.new wr 5 #[.int .u8 x]).cell]
        rfl
      have z1 : P1.size = j := by rw [← HP1.out, bytesS_len, List.length_take]; omega
      have z2 : P2.size = 1 := by rw [← HP2.out, bytesS_len]; rfl
      have z3 : ¬ maxLen < j + 1 := by unfold maxLen; omega
      have z4 : j + 1 ≤ maxLen := by unfold maxLen; omega
      rw [HP1.out]
      have HBE := Lib.hid hbel
      clear hbel
      go_wp2
      go_roundw
      case rel =>
        refine ⟨j + 1, by omega, by go_num, ?_, HBE.out.alloc HBE.out.size _⟩
        rw [List.take_add_one, List.getElem?_eq_getElem hlt', HX.out]
        show _ = Value.string (bytesS (ls.take j ++ [x]))
        rw [bytesS_snoc, HP1.out, HP2.out]
      case measure => simp [intOf]; omega
    · obtain rfl : j = 3 := by omega
      rw [List.take_of_length_le (by rw [HN.out]; omega), HS.out]
      go_wp2
      go_ret
      exact ⟨rfl, HB.out.trans (hbel.mono HB.out.size)⟩
set_option maxRecDepth 100000 in
set_option maxHeartbeats 2000000 in
theorem rput_4 (a s c m b t : Int) (w : World) (hbd : ∀ x ∈ ([4, b] : List Int), 0 ≤ x ∧ x ≤ 255) :
    Calls Try.prog 21 #[cv 4 a s c m b t] w fun e w' => e = .returned (.string (bytesS ([4, b] : List Int))) ∧ Below w.heap.size w w' := by
  obtain ⟨S, HS⟩ : ∃ S, Hid (bytesS ([4, b] : List Int) = S) := ⟨_, Lib.hid rfl⟩
  rw [HS.out]
  obtain ⟨ls, HL⟩ : ∃ ls : List Int, Hid (ls = [4, b]) := ⟨_, Lib.hid rfl⟩
  have HN : Hid (ls.length = 2) := by show _ = _; rw [HL.out]; rfl
  rw [← HL.out] at hbd HS
  have HBD := Lib.hid hbd
  have HB : Hid (Below w.heap.size w (((w.alloc (.cells #[.int .i64 4, .int .i64 a, .int .i64 s, .int .i64 c, .int .i64 m, .int .i64 b, .int .i64 t] 24)).alloc (.cells #[.int .i64 4] 3)).alloc (.cells #[.int .i64 4, .int .i64 b] 3))) := Lib.hid (by
    have h1 : Below w.heap.size w (w.alloc (.cells #[.int .i64 4, .int .i64 a, .int .i64 s, .int .i64 c, .int .i64 m, .int .i64 b, .int .i64 t] 24)) := (Below.refl _ _).alloc (Nat.le_refl _) _
    exact (h1.alloc (by simp) _).alloc (by simp; omega) _)
  have HO : Hid (Obj1 (((w.alloc (.cells #[.int .i64 4, .int .i64 a, .int .i64 s, .int .i64 c, .int .i64 m, .int .i64 b, .int .i64 t] 24)).alloc (.cells #[.int .i64 4] 3)).alloc (.cells #[.int .i64 4, .int .i64 b] 3)) (w.heap.size + 1 + 1) 3 (ls.map (Value.int .i64)).toArray) := Lib.hid (by
    rw [HL.out]
    have e : ((w.alloc (.cells #[.int .i64 4, .int .i64 a, .int .i64 s, .int .i64 c, .int .i64 m, .int .i64 b, .int .i64 t] 24)).alloc (.cells #[.int .i64 4] 3)).heap.size = w.heap.size + 1 + 1 := by simp
    rw [← e]
    exact Obj1.new _ _ _)
  clear hbd
  go_enter Try.func21, Try.ntmps21
  go_upto_region 16 with (fail)
  generalize (((w.alloc (.cells #[.int .i64 4, .int .i64 a, .int .i64 s, .int .i64 c, .int .i64 m, .int .i64 b, .int .i64 t] 24)).alloc (.cells #[.int .i64 4] 3)).alloc (.cells #[.int .i64 4, .int .i64 b] 3)) = W2 at HB HO ⊢
  go_loopw [4, 5] (fun v i wr => ∃ j : Nat, j ≤ 2 ∧ i = .int .i64 j ∧ v = .string (bytesS (ls.take j)) ∧ Below W2.heap.size W2 wr) (fun _ i _ => 2 - (intOf i).toNat)
  case atStart => exact ⟨0, by omega, rfl, rfl, Below.refl _ _⟩
  case round =>
    obtain ⟨j, hj, rfl, rfl, hbel⟩ := hrel
    by_cases hlt : j < 2
    · have hlt' : j < ls.length := by rw [HN.out]; exact hlt
      obtain ⟨x, HX⟩ : ∃ x, Hid (ls[j]'hlt' = x) := ⟨_, Lib.hid rfl⟩
      obtain ⟨x0, x1⟩ := HBD.out x (by rw [← HX.out]; exact List.getElem_mem hlt')
      have hc : wr.cell? ⟨w.heap.size + 1 + 1, j, none⟩ = some (.int .i64 x) := by
        rw [(HO.out.kept hbel).cell, List.getElem?_toArray, List.getElem?_map, List.getElem?_eq_getElem hlt', HX.out]
        rfl
      obtain ⟨P1, HP1⟩ : ∃ P1, Hid (bytesS (ls.take j) = P1) := ⟨_, Lib.hid rfl⟩
      obtain ⟨P2, HP2⟩ : ∃ P2, Hid (bytesS [x] = P2) := ⟨_, Lib.hid rfl⟩
      have C : (convert 26 9 (.slice (some ⟨wr.heap.size, 0, none⟩) 1 1)).run Try.prog (wr.alloc (.cells #[.int .u8 x] 5)) = .ok (.string P2) (wr.alloc (.cells #[.int .u8 x] 5)) := by
        rw [← HP2.out]
        refine convS (ns := [x]) ⟨rfl, fun _ => ⟨_, 0, rfl, by simp, fun k hk => ?_⟩⟩ (by omega)
        obtain rfl : k = 0 := by simpa using hk
        rw [Nat.zero_add, (Obj1.new wr 5 #[.int .u8 x]).cell]
        rfl
      have z1 : P1.size = j := by rw [← HP1.out, bytesS_len, List.length_take]; omega
      have z2 : P2.size = 1 := by rw [← HP2.out, bytesS_len]; rfl
      have z3 : ¬ maxLen < j + 1 := by unfold maxLen; omega
      have z4 : j + 1 ≤ maxLen := by unfold maxLen; omega
      rw [HP1.out]
      have HBE := Lib.hid hbel
      clear hbel
      go_wp2
      go_roundw
      case rel =>
        refine ⟨j + 1, by omega, by go_num, ?_, HBE.out.alloc HBE.out.size _⟩
        rw [List.take_add_one, List.getElem?_eq_getElem hlt', HX.out]
        show _ = Value.string (bytesS (ls.take j ++ [x]))
        rw [bytesS_snoc, HP1.out, HP2.out]
      case measure => simp [intOf]; omega
    · obtain rfl : j = 2 := by omega
      rw [List.take_of_length_le (by rw [HN.out]; omega), HS.out]
      go_wp2
      go_ret
      exact ⟨rfl, HB.out.trans (hbel.mono HB.out.size)⟩
set_option maxRecDepth 100000 in
set_option maxHeartbeats 2000000 in
theorem rput_6 (a s c m b t : Int) (w : World) (t0 : 0 ≤ t) (t1 : t ≤ 1023) (hbd : ∀ x ∈ ([6, t / 256, t % 256] : List Int), 0 ≤ x ∧ x ≤ 255) :
    Calls Try.prog 21 #[cv 6 a s c m b t] w fun e w' => e = .returned (.string (bytesS ([6, t / 256, t % 256] : List Int))) ∧ Below w.heap.size w w' := by
  obtain ⟨S, HS⟩ : ∃ S, Hid (bytesS ([6, t / 256, t % 256] : List Int) = S) := ⟨_, Lib.hid rfl⟩
  rw [HS.out]
  obtain ⟨ls, HL⟩ : ∃ ls : List Int, Hid (ls = [6, t / 256, t % 256]) := ⟨_, Lib.hid rfl⟩
  have HN : Hid (ls.length = 3) := by show _ = _; rw [HL.out]; rfl
  rw [← HL.out] at hbd HS
  have HBD := Lib.hid hbd
  have HB : Hid (Below w.heap.size w (((w.alloc (.cells #[.int .i64 6, .int .i64 a, .int .i64 s, .int .i64 c, .int .i64 m, .int .i64 b, .int .i64 t] 24)).alloc (.cells #[.int .i64 6] 3)).alloc (.cells #[.int .i64 6, .int .i64 (t / 256), .int .i64 (t % 256)] 3))) := Lib.hid (by
    have h1 : Below w.heap.size w (w.alloc (.cells #[.int .i64 6, .int .i64 a, .int .i64 s, .int .i64 c, .int .i64 m, .int .i64 b, .int .i64 t] 24)) := (Below.refl _ _).alloc (Nat.le_refl _) _
    exact (h1.alloc (by simp) _).alloc (by simp; omega) _)
  have HO : Hid (Obj1 (((w.alloc (.cells #[.int .i64 6, .int .i64 a, .int .i64 s, .int .i64 c, .int .i64 m, .int .i64 b, .int .i64 t] 24)).alloc (.cells #[.int .i64 6] 3)).alloc (.cells #[.int .i64 6, .int .i64 (t / 256), .int .i64 (t % 256)] 3)) (w.heap.size + 1 + 1) 3 (ls.map (Value.int .i64)).toArray) := Lib.hid (by
    rw [HL.out]
    have e : ((w.alloc (.cells #[.int .i64 6, .int .i64 a, .int .i64 s, .int .i64 c, .int .i64 m, .int .i64 b, .int .i64 t] 24)).alloc (.cells #[.int .i64 6] 3)).heap.size = w.heap.size + 1 + 1 := by simp
    rw [← e]
    exact Obj1.new _ _ _)
  clear hbd
  go_enter Try.func21, Try.ntmps21
  go_upto_region 16 with (fail)
  generalize (((w.alloc (.cells #[.int .i64 6, .int .i64 a, .int .i64 s, .int .i64 c, .int .i64 m, .int .i64 b, .int .i64 t] 24)).alloc (.cells #[.int .i64 6] 3)).alloc (.cells #[.int .i64 6, .int .i64 (t / 256), .int .i64 (t % 256)] 3)) = W2 at HB HO ⊢
  go_loopw [4, 5] (fun v i wr => ∃ j : Nat, j ≤ 3 ∧ i = .int .i64 j ∧ v = .string (bytesS (ls.take j)) ∧ Below W2.heap.size W2 wr) (fun _ i _ => 3 - (intOf i).toNat)
  case atStart => exact ⟨0, by omega, rfl, rfl, Below.refl _ _⟩
  case round =>
    obtain ⟨j, hj, rfl, rfl, hbel⟩ := hrel
    by_cases hlt : j < 3
    · have hlt' : j < ls.length := by rw [HN.out]; exact hlt
      obtain ⟨x, HX⟩ : ∃ x, Hid (ls[j]'hlt' = x) := ⟨_, Lib.hid rfl⟩
      obtain ⟨x0, x1⟩ := HBD.out x (by rw [← HX.out]; exact List.getElem_mem hlt')
      have hc : wr.cell? ⟨w.heap.size + 1 + 1, j, none⟩ = some (.int .i64 x) := by
        rw [(HO.out.kept hbel).cell, List.getElem?_toArray, List.getElem?_map, List.getElem?_eq_getElem hlt', HX.out]
        rfl
      obtain ⟨P1, HP1⟩ : ∃ P1, Hid (bytesS (ls.take j) = P1) := ⟨_, Lib.hid rfl⟩
      obtain ⟨P2, HP2⟩ : ∃ P2, Hid (bytesS [x] = P2) := ⟨_, Lib.hid rfl⟩
      have C : (convert 26 9 (.slice (some ⟨wr.heap.size, 0, none⟩) 1 1)).run Try.prog (wr.alloc (.cells #[.int .u8 x] 5)) = .ok (.string P2) (wr.alloc (.cells #[.int .u8 x] 5)) := by
        rw [← HP2.out]
        refine convS (ns := [x]) ⟨rfl, fun _ => ⟨_, 0, rfl, by simp, fun k hk => ?_⟩⟩ (by omega)
        obtain rfl : k = 0 := by simpa using hk
        rw [Nat.zero_add, (Obj1.new wr 5 #[.int .u8 x]).cell]
        rfl
      have z1 : P1.size = j := by rw [← HP1.out, bytesS_len, List.length_take]; omega
      have z2 : P2.size = 1 := by rw [← HP2.out, bytesS_len]; rfl
      have z3 : ¬ maxLen < j + 1 := by unfold maxLen; omega
      have z4 : j + 1 ≤ maxLen := by unfold maxLen; omega
      rw [HP1.out]
      have HBE := Lib.hid hbel
      clear hbel
      go_wp2
      go_roundw
      case rel =>
        refine ⟨j + 1, by omega, by go_num, ?_, HBE.out.alloc HBE.out.size _⟩
        rw [List.take_add_one, List.getElem?_eq_getElem hlt', HX.out]
        show _ = Value.string (bytesS (ls.take j ++ [x]))
        rw [bytesS_snoc, HP1.out, HP2.out]
      case measure => simp [intOf]; omega
    · obtain rfl : j = 3 := by omega
      rw [List.take_of_length_le (by rw [HN.out]; omega), HS.out]
      go_wp2
      go_ret
      exact ⟨rfl, HB.out.trans (hbel.mono HB.out.size)⟩
set_option maxRecDepth 100000 in
set_option maxHeartbeats 2000000 in
theorem rput_8 (a s c m b t : Int) (w : World) (t0 : 0 ≤ t) (t1 : t ≤ 1023) (hbd : ∀ x ∈ ([8, t / 256, t % 256] : List Int), 0 ≤ x ∧ x ≤ 255) :
    Calls Try.prog 21 #[cv 8 a s c m b t] w fun e w' => e = .returned (.string (bytesS ([8, t / 256, t % 256] : List Int))) ∧ Below w.heap.size w w' := by
  obtain ⟨S, HS⟩ : ∃ S, Hid (bytesS ([8, t / 256, t % 256] : List Int) = S) := ⟨_, Lib.hid rfl⟩
  rw [HS.out]
  obtain ⟨ls, HL⟩ : ∃ ls : List Int, Hid (ls = [8, t / 256, t % 256]) := ⟨_, Lib.hid rfl⟩
  have HN : Hid (ls.length = 3) := by show _ = _; rw [HL.out]; rfl
  rw [← HL.out] at hbd HS
  have HBD := Lib.hid hbd
  have HB : Hid (Below w.heap.size w (((w.alloc (.cells #[.int .i64 8, .int .i64 a, .int .i64 s, .int .i64 c, .int .i64 m, .int .i64 b, .int .i64 t] 24)).alloc (.cells #[.int .i64 8] 3)).alloc (.cells #[.int .i64 8, .int .i64 (t / 256), .int .i64 (t % 256)] 3))) := Lib.hid (by
    have h1 : Below w.heap.size w (w.alloc (.cells #[.int .i64 8, .int .i64 a, .int .i64 s, .int .i64 c, .int .i64 m, .int .i64 b, .int .i64 t] 24)) := (Below.refl _ _).alloc (Nat.le_refl _) _
    exact (h1.alloc (by simp) _).alloc (by simp; omega) _)
  have HO : Hid (Obj1 (((w.alloc (.cells #[.int .i64 8, .int .i64 a, .int .i64 s, .int .i64 c, .int .i64 m, .int .i64 b, .int .i64 t] 24)).alloc (.cells #[.int .i64 8] 3)).alloc (.cells #[.int .i64 8, .int .i64 (t / 256), .int .i64 (t % 256)] 3)) (w.heap.size + 1 + 1) 3 (ls.map (Value.int .i64)).toArray) := Lib.hid (by
    rw [HL.out]
    have e : ((w.alloc (.cells #[.int .i64 8, .int .i64 a, .int .i64 s, .int .i64 c, .int .i64 m, .int .i64 b, .int .i64 t] 24)).alloc (.cells #[.int .i64 8] 3)).heap.size = w.heap.size + 1 + 1 := by simp
    rw [← e]
    exact Obj1.new _ _ _)
  clear hbd
  go_enter Try.func21, Try.ntmps21
  go_upto_region 16 with (fail)
  generalize (((w.alloc (.cells #[.int .i64 8, .int .i64 a, .int .i64 s, .int .i64 c, .int .i64 m, .int .i64 b, .int .i64 t] 24)).alloc (.cells #[.int .i64 8] 3)).alloc (.cells #[.int .i64 8, .int .i64 (t / 256), .int .i64 (t % 256)] 3)) = W2 at HB HO ⊢
  go_loopw [4, 5] (fun v i wr => ∃ j : Nat, j ≤ 3 ∧ i = .int .i64 j ∧ v = .string (bytesS (ls.take j)) ∧ Below W2.heap.size W2 wr) (fun _ i _ => 3 - (intOf i).toNat)
  case atStart => exact ⟨0, by omega, rfl, rfl, Below.refl _ _⟩
  case round =>
    obtain ⟨j, hj, rfl, rfl, hbel⟩ := hrel
    by_cases hlt : j < 3
    · have hlt' : j < ls.length := by rw [HN.out]; exact hlt
      obtain ⟨x, HX⟩ : ∃ x, Hid (ls[j]'hlt' = x) := ⟨_, Lib.hid rfl⟩
      obtain ⟨x0, x1⟩ := HBD.out x (by rw [← HX.out]; exact List.getElem_mem hlt')
      have hc : wr.cell? ⟨w.heap.size + 1 + 1, j, none⟩ = some (.int .i64 x) := by
        rw [(HO.out.kept hbel).cell, List.getElem?_toArray, List.getElem?_map, List.getElem?_eq_getElem hlt', HX.out]
        rfl
      obtain ⟨P1, HP1⟩ : ∃ P1, Hid (bytesS (ls.take j) = P1) := ⟨_, Lib.hid rfl⟩
      obtain ⟨P2, HP2⟩ : ∃ P2, Hid (bytesS [x] = P2) := ⟨_, Lib.hid rfl⟩
      have C : (convert 26 9 (.slice (some ⟨wr.heap.size, 0, none⟩) 1 1)).run Try.prog (wr.alloc (.cells #[.int .u8 x] 5)) = .ok (.string P2) (wr.alloc (.cells #[.int .u8 x] 5)) := by
        rw [← HP2.out]
        refine convS (ns := [x]) ⟨rfl, fun _ => ⟨_, 0, rfl, by simp, fun k hk => ?_⟩⟩ (by omega)
        obtain rfl : k = 0 := by simpa using hk
        rw [Nat.zero_add, (Obj1.new wr 5 #[.int .u8 x]).cell]
        rfl
      have z1 : P1.size = j := by rw [← HP1.out, bytesS_len, List.length_take]; omega
      have z2 : P2.size = 1 := by rw [← HP2.out, bytesS_len]; rfl
      have z3 : ¬ maxLen < j + 1 := by unfold maxLen; omega
      have z4 : j + 1 ≤ maxLen := by unfold maxLen; omega
      rw [HP1.out]
      have HBE := Lib.hid hbel
      clear hbel
      go_wp2
      go_roundw
      case rel =>
        refine ⟨j + 1, by omega, by go_num, ?_, HBE.out.alloc HBE.out.size _⟩
        rw [List.take_add_one, List.getElem?_eq_getElem hlt', HX.out]
        show _ = Value.string (bytesS (ls.take j ++ [x]))
        rw [bytesS_snoc, HP1.out, HP2.out]
      case measure => simp [intOf]; omega
    · obtain rfl : j = 3 := by omega
      rw [List.take_of_length_le (by rw [HN.out]; omega), HS.out]
      go_wp2
      go_ret
      exact ⟨rfl, HB.out.trans (hbel.mono HB.out.size)⟩
end Go.Proofs.Ythnopcoahcdjjaa.Ly9
