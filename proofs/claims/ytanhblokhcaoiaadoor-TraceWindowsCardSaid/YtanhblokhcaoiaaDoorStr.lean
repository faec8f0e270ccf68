/- Strings by the numbers of their bytes: what stands at a place, a part, one behind the other, from a row of bytes; no condition. -/
import Derived.Test.YtanhblokhcaoiaaDoorArgs
import Derived.Laws.BytesString
import Derived.Laws.Strings2
import Derived.Laws.DeepStrings4
namespace Go.Proofs.YtanhblokhcaoiaaDoor.Base
open Go.ChangeShapes Go.WideShapes Go.ChangeAt Go.RowKit
set_option linter.unusedVariables false
set_option linter.unusedSimpArgs false

def strB (ns : List Int) : ByteArray := ns.foldl (fun r n => r.push (UInt8.ofNat n.toNat)) ByteArray.empty
theorem strB_eq (ns : List Int) : strB ns = ByteArray.mk (ns.map fun n => UInt8.ofNat n.toNat).toArray := by
  have key : ∀ (ns : List Int) (r : ByteArray), ns.foldl (fun r n => r.push (UInt8.ofNat n.toNat)) r = ByteArray.mk (r.data ++ (ns.map fun n => UInt8.ofNat n.toNat).toArray) := by
    intro ns
    induction ns with
    | nil => intro r; apply ByteArray.ext; simp
    | cons n ns ih => intro r; rw [List.foldl_cons, ih]; apply ByteArray.ext; simp [ByteArray.push]
  unfold strB
  rw [key]
  apply ByteArray.ext
  show #[] ++ _ = _
  simp
theorem strB_len (ns : List Int) : (strB ns).size = ns.length := by
  rw [strB_eq]
  show (ns.map fun n => UInt8.ofNat n.toNat).toArray.size = _
  simp
theorem strB_app (ns ms : List Int) : strB (ns ++ ms) = strB ns ++ strB ms := by
  rw [strB_eq, strB_eq, strB_eq]
  apply ByteArray.ext
  simp [ByteArray.data_append]
theorem strB_at {ns : List Int} {j : Nat} {x : Int} (hx : ns[j]? = some x) (h0 : 0 ≤ x) (h1 : x ≤ 255) (h : j < (strB ns).size) : (((strB ns)[j]'h).toNat : Int) = x := by
  have e : ∀ (s : ByteArray) (hs : s = ByteArray.mk (ns.map fun n => UInt8.ofNat n.toNat).toArray) (h : j < s.size), ((s[j]'h).toNat : Int) = x := by
    rintro s rfl h
    show ((((ns.map fun n => UInt8.ofNat n.toNat).toArray)[j]'h).toNat : Int) = x
    obtain ⟨hj, hx'⟩ := List.getElem?_eq_some_iff.1 hx
    simp [hx']
    omega
  exact e _ (strB_eq ns) h
theorem strB_cut (ns : List Int) (l n : Nat) : (strB ns).extract l (l + n) = strB ((ns.drop l).take n) := by
  rw [strB_eq, strB_eq, ByteArray.extract_mk]
  rw [List.map_take, List.map_drop, show l + n - l = n by omega]
theorem idxS {P : Program} {t : TypeId} (ht : P.underlying t = some .string) {ns : List Int} {j : Nat} {x : Int} (hx : ns[j]? = some x) (h0 : 0 ≤ x) (h1 : x ≤ 255) (w : World) :
    (Instr.index t (.string (strB ns)) (.int .i64 (j : Int))).run P w = .ok (.int .u8 x) w := by
  have hj : j < (strB ns).size := by rw [strB_len]; exact (List.getElem?_eq_some_iff.1 hx).1
  rw [run_index_string w t _ _ _ ht, dif_pos ⟨by omega, by omega⟩]
  have := strB_at hx h0 h1 (by simpa using hj)
  rw [← this]
  rfl
theorem cutS {P : Program} {t : TypeId} (ht : P.underlying t = some .string) (ns : List Int) (l n : Nat) (h : l + n ≤ ns.length) (w : World) :
    (Instr.slice t (.string (strB ns)) (some (.int .i64 (l : Int))) (some (.int .i64 ((l : Int) + (n : Int)))) none).run P w = .ok (.string (strB ((ns.drop l).take n))) w := by
  rw [run_slice_string w t _ _ _ _ _ ht (by omega) (by omega) (by rw [strB_len]; omega)]
  rw [show ((l : Int)).toNat = l by omega, show ((l : Int) + (n : Int)).toNat = l + n by omega, strB_cut]
theorem convB {w : World} {A : Option Addr} {n c : Nat} {ns : List Int} (h : Lst w A n (ns.map (Value.int .u8))) : (convert 33 9 (.slice A n c)).run Tryd.prog w = .ok (.string (strB ns)) w := by
  rw [run_convert_bytes_string w _ _ 5 _ _ _ Tryd.underlying33 Tryd.underlying5 Tryd.underlying9]
  have hl : (ns.map (Value.int .u8)).length = n := h.1
  cases A with
  | none =>
    have h0 : n = 0 := by
      rcases Nat.eq_zero_or_pos n with h0 | h0
      · exact h0
      · obtain ⟨b, o, e, _⟩ := h.2 h0
        cases e
    subst h0
    obtain rfl : ns = [] := by simpa using hl
    rfl
  | some a =>
    refine run_bytesToString w _ n c ns ?_
    by_cases h0 : n = 0
    · subst h0
      obtain rfl : ns = [] := by simpa using hl
      rfl
    · obtain ⟨b, o, e, _, hc⟩ := h.2 (by omega)
      cases e
      rw [← hl]
      exact run_loadCells_list (P := Tryd.prog) w ⟨b, o, none⟩ _ (fun j v hv => by
        have hj : j < n := by have := (List.getElem?_eq_some_iff.1 hv).1; omega
        rw [add_eq, hc j hj]
        exact hv)
end Go.Proofs.YtanhblokhcaoiaaDoor.Base
