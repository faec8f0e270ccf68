/- Words for regions that draw: new blocks and rows as what is known of a value; an append to a row of the call's own as the tail of such a region; no condition. -/
import Derived.Test.YtkankdecbefenaaDoorRegL
import Derived.Test.YtkankdecbefenaaDoorPushG
import Derived.RegionTactic
namespace Go.Proofs.YtkankdecbefenaaDoor.Base
open Go.ChangeShapes Go.WideShapes Go.ChangeAt Go.RowKit
set_option linter.unusedVariables false
set_option linter.unusedSimpArgs false

def NewP (s : Nat) (T : TypeId) (cs : Array Value) : Sp := fun v w => ∃ g, v = .pointer (some ⟨g, 0, none⟩) ∧ s ≤ g ∧ Obj1 w g T cs
theorem NewP.stable (s : Nat) (T : TypeId) (cs : Array Value) : Stable (NewP s T cs) := fun v a b ⟨g, e, h, hl⟩ hb => ⟨g, e, h, hl.kept hb⟩
theorem NewP.new {s : Nat} {T : TypeId} {cs : Array Value} {x : World} (h : s ≤ x.heap.size) : NewP s T cs (.pointer (some ⟨x.heap.size, 0, none⟩)) (x.alloc (.cells cs T)) := ⟨_, rfl, h, Obj1.new _ _ _⟩
theorem NewP.ex {s : Nat} {cs : Array Value} (w : World) (T : TypeId) (h : s ≤ w.heap.size) : ∃ v, ∃ x : Kin w, NewP s T cs v x.world := ⟨_, ⟨_, (Below.refl _ _).alloc (Nat.le_refl _) _⟩, NewP.new h⟩
theorem NewP.at {s g : Nat} {T : TypeId} {cs : Array Value} {w : World} (h : NewP s T cs (.pointer (some ⟨g, 0, none⟩)) w) : Obj1 w g T cs := by
  obtain ⟨g', e, h1, h2⟩ := h
  simp at e
  subst e
  exact h2
def NewR (s : Nat) (T : TypeId) (cs : Array Value) : Sp := fun v w => ∃ g, v = .slice (some ⟨g, 0, none⟩) 1 1 ∧ s ≤ g ∧ Obj1 w g T cs
theorem NewR.stable (s : Nat) (T : TypeId) (cs : Array Value) : Stable (NewR s T cs) := fun v a b ⟨g, e, h, hl⟩ hb => ⟨g, e, h, hl.kept hb⟩
theorem NewR.new {s : Nat} {T : TypeId} {cs : Array Value} {x : World} (h : s ≤ x.heap.size) : NewR s T cs (.slice (some ⟨x.heap.size, 0, none⟩) 1 1) (x.alloc (.cells cs T)) := ⟨_, rfl, h, Obj1.new _ _ _⟩
theorem NewR.ex {s : Nat} {cs : Array Value} (w : World) (T : TypeId) (h : s ≤ w.heap.size) : ∃ v, ∃ x : Kin w, NewR s T cs v x.world := ⟨_, ⟨_, (Below.refl _ _).alloc (Nat.le_refl _) _⟩, NewR.new h⟩
theorem NewR.at {s g : Nat} {T : TypeId} {cs : Array Value} {w : World} (h : NewR s T cs (.slice (some ⟨g, 0, none⟩) 1 1) w) : Obj1 w g T cs := by
  obtain ⟨g', e, h1, h2⟩ := h
  simp at e
  subst e
  exact h2
theorem upon_app {P : Program} {o : Oper} {a : Act} {w w' : World} {v xv v' : Value} {next : Act → World → Prop} {Q : Exit → Act → World → Prop} (s x : Operand) (t : TypeId) (ho : o.op = .call { callee := .builtin .append, args := #[s, x], argTypes := #[t, t] }) (hs : a.eval s = v) (hx : a.eval x = xv)
    (hrun : (Builtin.append_ #[t, t] o.type #[v, xv]).run P w = .ok v' w') (h : next (a.put o.dst v') w') : Oper.upon P o a next Q ((execOp a.eval o).run P w) := by
  have e : (execOp a.eval o).run P w = .ok (.value v') w' := by
    unfold execOp
    simp only [ho, resolve, invoke, builtin, Sem.run_bind, Sem.run_pure, Result.andThen_ok, List.map_toArray, List.map_cons, List.map_nil, hs, hx, hrun]
  rw [e]
  exact h
theorem app_run {P : Program} {w : World} {base g n : Nat} {v : Value} {xs : List Value} (news : List Value) {t e T : TypeId} (ty : TypeId) {i : TypeInfo} {z : Value} {size bytes : Nat} (ht : P.underlying t = some (.slice e)) (hi : P.info? e = some i) (hz : i.zero = some z)
    (hsize : i.size = size) (hby : i.bytes = bytes) (hzs : z.cells.size = size) (hsz : 0 < size) (hown : w.ownsRow base e size v n xs) (hg : Obj1 w g T news.toArray) (hl : news.length = size) (h1 : ∀ u ∈ news, u.oneCell' = true)
    (h63 : n + 1 ≤ maxLen) (hbytes : (n + 1) * bytes ≤ 140737488355328) (hb : base ≤ w.heap.size) :
    ∃ v' w', (Builtin.append_ #[t, t] ty #[v, .slice (some ⟨g, 0, none⟩) 1 1]).run P w = .ok v' w' ∧ Hid (w'.ownsRow base e size v' (n + 1) (xs ++ news)) ∧ Hid (w.grownBy w' v.ownBlock) := by
  obtain ⟨v', w', h, ho, hg', _, _⟩ := run_append_own_at w base t ty e i z size bytes ht hi hz hsize hby hzs hsz v n xs hown ⟨g, 0, none⟩ 1 1 news (by omega)
    (fun j u hj => by rw [add_eq, Nat.zero_add, hg.cell, List.getElem?_toArray]; exact hj) h1 h63 hbytes hb
  exact ⟨v', w', h, Lib.hid ho, Lib.hid hg'⟩
theorem own_oneR (w : World) (B : Nat) (hB : B ≤ w.heap.size) (news : List Value) (e : TypeId) (size : Nat) (hs : news.length = size) : (w.alloc (.cells news.toArray e)).ownsRow B e size (.slice (some ⟨w.heap.size, 0, none⟩) 1 1) 1 news := by
  refine ⟨by simpa using hs, .inr ⟨w.heap.size, 1, news.toArray, rfl, hB, ?_, Nat.le_refl _, by unfold maxLen; decide, by simpa using hs, ?_⟩⟩
  · show (w.heap.push _)[w.heap.size]? = _
    simp
  · simp [← hs]
theorem own_kept {w w' : World} {base : Nat} {e : TypeId} {size : Nat} {v : Value} {n : Nat} {xs : List Value} (h : w.ownsRow base e size v n xs) (hb : Below w.heap.size w w') : w'.ownsRow base e size v n xs :=
  h.kept (w' := w') (row := none) ⟨hb.os, hb.tape, hb.output, hb.size, fun i hi _ => hb.block i hi⟩ (Classical.em _)
end Go.Proofs.YtkankdecbefenaaDoor.Base
