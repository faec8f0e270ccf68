/- Words for the document's own Put, of layer 9: its bytes as a string; no condition. -/
import Derived.Test.YthnopcoahcdjjaaCmdJ
import Derived.Test.YthnopcoahcdjjaaCmdF
import Derived.Laws.BytesString
namespace Go.Proofs.Ythnopcoahcdjjaa.Ly9
open Go.ChangeShapes Go.WideShapes Go.ChangeAt Go.RowKit Base
set_option linter.unusedVariables false
set_option linter.unusedSimpArgs false

def bytesS (ns : List Int) : ByteArray := ns.foldl (fun r n => r.push (UInt8.ofNat n.toNat)) ByteArray.empty
theorem convS {w : World} {A : Option Addr} {n c : Nat} {ns : List Int} (h : Lst w A n (ns.map (Value.int .u8))) (h0 : 0 < n) : (convert 26 9 (.slice A n c)).run Try.prog w = .ok (.string (bytesS ns)) w := by
  obtain ⟨b, o, rfl, _, hc⟩ := h.2 h0
  rw [run_convert_bytes_string w _ _ 5 _ _ _ Try.underlying26 Try.underlying5 Try.underlying9]
  refine run_bytesToString w _ n c ns ?_
  have hl : (ns.map (Value.int .u8)).length = n := h.1
  rw [← hl]
  exact run_loadCells_list (P := Try.prog) w ⟨b, o, none⟩ _ (fun j v hv => by
    have hj : j < n := by have := (List.getElem?_eq_some_iff.1 hv).1; omega
    rw [add_eq, hc j hj]
    exact hv)
theorem bytesS_snoc (ns : List Int) (x : Int) : bytesS (ns ++ [x]) = bytesS ns ++ bytesS [x] := by
  unfold bytesS
  rw [List.foldl_append]
  apply ByteArray.ext
  simp [ByteArray.data_append]
theorem bytesS_len (ns : List Int) : (bytesS ns).size = ns.length := by
  unfold bytesS
  have key : ∀ (ns : List Int) (r : ByteArray), (ns.foldl (fun r n => r.push (UInt8.ofNat n.toNat)) r).size = r.size + ns.length := by
    intro ns
    induction ns with
    | nil => intro r; rfl
    | cons n ns ih =>
      intro r
      rw [List.foldl_cons, ih, ByteArray.size_push, List.length_cons]
      omega
  rw [key]
  simp
theorem putB_cases {o a s c m b t : Int} (h : RP o a s c m b t) : (o = 1 ∧ putB o a s c m b t = [1, a, s, c, m]) ∨ (o = 2 ∧ putB o a s c m b t = [2, a, s, m]) ∨ (o = 3 ∧ putB o a s c m b t = [3, s, m]) ∨ (o = 4 ∧ putB o a s c m b t = [4, b]) ∨ (o = 6 ∧ (0 ≤ t ∧ t ≤ 1023) ∧ putB o a s c m b t = [6, t / 256, t % 256]) ∨ (o = 8 ∧ (0 ≤ t ∧ t ≤ 1023) ∧ putB o a s c m b t = [8, t / 256, t % 256]) ∨ (o = 0 ∧ putB o a s c m b t = [0]) ∨ (o = 5 ∧ putB o a s c m b t = [5]) ∨ (o = 7 ∧ putB o a s c m b t = [7]) := by
  unfold RP at h
  rcases h with ⟨rfl, h1, h2, h3, h4, h5, h6, h7, h8⟩ | ⟨rfl, h1, h2, h3, h4, h5, h6⟩ | ⟨rfl, h1, h2, h3, h4⟩ | ⟨rfl, h1, h2⟩ | ⟨rfl, h1, h2⟩ | ⟨rfl, h1, h2⟩ | rfl | rfl | rfl
  · exact .inl ⟨rfl, rfl⟩
  · exact .inr (.inl ⟨rfl, rfl⟩)
  · exact .inr (.inr (.inl ⟨rfl, rfl⟩))
  · exact .inr (.inr (.inr (.inl ⟨rfl, rfl⟩)))
  · exact .inr (.inr (.inr (.inr (.inl ⟨rfl, ⟨h1, h2⟩, rfl⟩))))
  · exact .inr (.inr (.inr (.inr (.inr (.inl ⟨rfl, ⟨h1, h2⟩, rfl⟩)))))
  · exact .inr (.inr (.inr (.inr (.inr (.inr (.inl ⟨rfl, rfl⟩))))))
  · exact .inr (.inr (.inr (.inr (.inr (.inr (.inr (.inl ⟨rfl, rfl⟩)))))))
  · exact .inr (.inr (.inr (.inr (.inr (.inr (.inr (.inr ⟨rfl, rfl⟩)))))))
end Go.Proofs.Ythnopcoahcdjjaa.Ly9
