/- Words for the document's own Put, of layer 9, whatever command is right; no condition. -/
import Derived.Test.YthnopcoahcdjjaaCmdL
namespace Go.Proofs.Ythnopcoahcdjjaa.Ly9
open Go.ChangeShapes Go.WideShapes Go.ChangeAt Go.RowKit Base
set_option linter.unusedVariables false
set_option linter.unusedSimpArgs false

theorem rput_any (o a s c m b t : Int) (w : World) (hr : RP o a s c m b t) :
    Calls Try.prog 21 #[cv o a s c m b t] w fun e w' => e = .returned (.string (bytesS (putB o a s c m b t))) ∧ Below w.heap.size w w' := by
  have hr' := hr
  unfold RP at hr'
  rcases putB_cases hr with ⟨rfl, he⟩ | ⟨rfl, he⟩ | ⟨rfl, he⟩ | ⟨rfl, he⟩ | ⟨rfl, ⟨t0, t1⟩, he⟩ | ⟨rfl, ⟨t0, t1⟩, he⟩ | ⟨rfl, he⟩ | ⟨rfl, he⟩ | ⟨rfl, he⟩
  · rw [he]; exact rput_1 a s c m b t w (by intro x hx; simp only [List.mem_cons, List.not_mem_nil, or_false] at hx; omega)
  · rw [he]; exact rput_2 a s c m b t w (by intro x hx; simp only [List.mem_cons, List.not_mem_nil, or_false] at hx; omega)
  · rw [he]; exact rput_3 a s c m b t w (by intro x hx; simp only [List.mem_cons, List.not_mem_nil, or_false] at hx; omega)
  · rw [he]; exact rput_4 a s c m b t w (by intro x hx; simp only [List.mem_cons, List.not_mem_nil, or_false] at hx; omega)
  · rw [he]; exact rput_6 a s c m b t w t0 t1 (by intro x hx; simp only [List.mem_cons, List.not_mem_nil, or_false] at hx; omega)
  · rw [he]; exact rput_8 a s c m b t w t0 t1 (by intro x hx; simp only [List.mem_cons, List.not_mem_nil, or_false] at hx; omega)
  · rw [he]; exact rput_0 a s c m b t w (by intro x hx; simp only [List.mem_cons, List.not_mem_nil, or_false] at hx; omega)
  · rw [he]; exact rput_5 a s c m b t w (by intro x hx; simp only [List.mem_cons, List.not_mem_nil, or_false] at hx; omega)
  · rw [he]; exact rput_7 a s c m b t w (by intro x hx; simp only [List.mem_cons, List.not_mem_nil, or_false] at hx; omega)
end Go.Proofs.Ythnopcoahcdjjaa.Ly9
