/- Small laws of this proof's own that many texts share: new blocks, whole rows that are loaded and stored, functions that are entered; no condition. -/
import Derived.Test.YtkankdecbefenaaDoorRegL
import Derived.IntWalk
import Derived.RegionTactic
namespace Go.Proofs.YtkankdecbefenaaDoor.Base
open Go.ChangeShapes Go.WideShapes Go.ChangeAt Go.RowKit
set_option linter.unusedVariables false
set_option linter.unusedSimpArgs false

/-- A block that is new. -/
def NewO (s : Nat) (T : TypeId) (cs : Array Value) : Sp := fun v w => ∃ g, v = .pointer (some ⟨g, 0, none⟩) ∧ s ≤ g ∧ Obj1 w g T cs
theorem NewO.stable (s : Nat) (T : TypeId) (cs : Array Value) : Stable (NewO s T cs) := fun v a b ⟨g, e, h, hl⟩ hb => ⟨g, e, h, hl.kept hb⟩
theorem NewO.new {s : Nat} {T : TypeId} {cs : Array Value} {x : World} (h : s ≤ x.heap.size) : NewO s T cs (.pointer (some ⟨x.heap.size, 0, none⟩)) (x.alloc (.cells cs T)) := ⟨_, rfl, h, Obj1.new _ _ _⟩
theorem NewO.ex {s : Nat} {cs : Array Value} (w : World) (T : TypeId) (h : s ≤ w.heap.size) : ∃ v, ∃ x : Kin w, NewO s T cs v x.world := ⟨_, ⟨_, (Below.refl _ _).alloc (Nat.le_refl _) _⟩, NewO.new h⟩
theorem NewO.at {s g : Nat} {T : TypeId} {cs : Array Value} {w : World} (h : NewO s T cs (.pointer (some ⟨g, 0, none⟩)) w) : s ≤ g ∧ Obj1 w g T cs := by
  obtain ⟨g', e, h1, h2⟩ := h
  injection e with e
  injection e with e
  injection e with e
  subst e
  exact ⟨h1, h2⟩
theorem info_two {P : Program} {t : TypeId} {z : Value} {n : Nat} (h : (P.info? t).map (fun i => (i.zero, i.size)) = some (some z, n)) : ∃ i, P.info? t = some i ∧ i.zero = some z ∧ i.size = n := by
  obtain ⟨i, hi, e⟩ := Option.map_eq_some_iff.1 h
  injection e with e1 e2
  exact ⟨i, hi, e1, e2⟩
theorem info_three {P : Program} {t : TypeId} {z : Value} {n b : Nat} (h : (P.info? t).map (fun i => (i.zero, i.size, i.bytes)) = some (some z, n, b)) : ∃ i, P.info? t = some i ∧ i.zero = some z ∧ i.size = n ∧ i.bytes = b := by
  obtain ⟨i, hi, e⟩ := Option.map_eq_some_iff.1 h
  injection e with e1 e2
  injection e2 with e2 e3
  exact ⟨i, hi, e1, e2, e3⟩
theorem gives_alloc {P : Program} {o : Oper} {a : Act} {w : World} {T : TypeId} {s : Nat} {i : TypeInfo} {z : Value} (ho : o.op = .alloc T) (hi : P.info? T = some i) (hz : i.zero = some z) (h : s ≤ w.heap.size) : gives P o a w (NewO s T z.cells) :=
  gives_ok (w' := w.alloc (.cells z.cells T)) (v := .pointer (some ⟨w.heap.size, 0, none⟩)) (by simp [execOp, ho, Instr.alloc, zeroValue, typeInfo, hi, hz, newVar, newRow]) (bel_new _ _) (NewO.new h)
theorem gives_rowL {P : Program} {o : Oper} {a : Act} {w : World} {ty : TypeId} {x : Operand} (ho : o.op = .load ty x) {g : Nat} {T : TypeId} {cs : Array Value} (hx : a.eval x = .pointer (some ⟨g, 0, none⟩)) (hg : Obj1 w g T cs) {d : TypeDesc}
    (hu : P.underlying ty = some d) (hd : (match d with | .struct _ | .array _ _ => true | _ => false) = true) (hi : (P.info? ty).map (·.size) = some cs.size) : gives P o a w (SpE.d (.agg cs)).sp :=
  gives_run (by
    unfold execOp
    simp only [ho, hx, Instr.loadAt, Instr.sureAddr, Sem.run_bind, Sem.run_pure, Result.andThen_ok, run_loadVar_row w g T ty cs _ d hg hu hd hi])
theorem upon_rowS {P : Program} {o : Oper} {a : Act} {w : World} {next : Act → World → Prop} {Q : Exit → Act → World → Prop} {ty : TypeId} {x y : Operand} (ho : o.op = .store ty x y) (g : Nat) (cells : Array Value) (hx : a.eval x = .pointer (some ⟨g, 0, none⟩)) (hy : a.eval y = .agg cells)
    (t : TypeId) (old : Array Value) (hg : Obj1 w g t old) (hi : (P.info? ty).map (·.size) = some cells.size) (hold : old.size = cells.size) (h1 : cells.all (·.oneCell') = true) (h : next (a.put o.dst undef) (w.setRow g cells)) : Oper.upon P o a next Q ((execOp a.eval o).run P w) := by
  have := wp_store_row (P := P) (K := next) (Q := Q) ty x y ho g cells hx hy t old hg hi hold h1 h
  unfold Oper.wp at this
  exact this
theorem wrote_row {b : Nat} {w : World} {T : TypeId} {cs : Array Value} (h : Obj1 w b T cs) (cs' : Array Value) : Obj1 (w.setRow b cs') b T cs' ∧ Wrote b w (w.setRow b cs') :=
  ⟨setRow_heap w b cs cs' T _ h, ⟨rfl, rfl, rfl, by simp, fun k _ hk => setRow_other w b k cs' (fun e => hk (by rw [e]))⟩⟩
theorem list_allocZ {P : Program} {ops : Array Oper} {rest : List Oper} {o : Oper} {a : Act} {w : World} {Q : Exit → Act → World → Prop} (hg : o.guard = none) (e : TypeId) (ho : o.op = .alloc e) {i : TypeInfo} {z : Value} (hi : P.info? e = some i) (hz : i.zero = some z)
    (h : wpList P ops Q rest (a.put o.dst (.pointer (some ⟨w.heap.size, 0, none⟩))) (w.alloc (.cells z.cells e))) : wpList P ops Q (o :: rest) a w :=
  wpList_plain hg fun _ hK => by
    unfold Oper.wp
    have hr : (execOp a.eval o).run P w = .ok (.value (.pointer (some ⟨w.heap.size, 0, none⟩))) (w.alloc (.cells z.cells e)) := by simp [execOp, ho, Instr.alloc, zeroValue, typeInfo, hi, hz, newVar, newRow]
    rw [hr]
    exact hK _ _ h
theorem list_boxC {P : Program} {ops : Array Oper} {rest : List Oper} {o : Oper} {a : Act} {w : World} {Q : Exit → Act → World → Prop} (hg : o.guard = none) (t : TypeId) (x : Operand) (ho : o.op = .box t x) (cs : Array Value) (hx : (a.eval x).cells = cs)
    (h : wpList P ops Q rest (a.put o.dst (.pointer (some ⟨w.heap.size, 0, none⟩))) (w.alloc (.cells cs t))) : wpList P ops Q (o :: rest) a w :=
  wpList_plain hg fun K hK => by
    subst hx
    unfold Oper.wp execOp
    simp only [ho, Sem.run_bind, Instr.box, newVar, newRow, run_newObj_alloc, Sem.run_pure, Result.andThen_ok]
    exact hK _ _ h
/-- A function with a body is entered. -/
def Ent (fid : FuncId) : Prop := ∀ (args : Array Value) (W : World), (callFunc fid args).run Tryd.prog W = .ok (.enter fid args) W
theorem ent_of {f : FuncId} {fn : Func} {c : Code} (hf : Tryd.prog.funcs[f]? = some fn) (hname : (fn.name == "runtime.NumGoroutine") = false) (hb : fn.body = some c) : Ent f := fun args w => by
  have h2 : ¬ fn.name = "runtime.NumGoroutine" := by simpa using hname
  unfold callFunc
  simp [go_sem, hf, h2, hb]
theorem row_sl {w : World} {base : Nat} {T : TypeId} {s : Nat} {v : Value} {n : Nat} {xs : List Value} (h : w.ownsRow base T s v n xs) : ∃ A c, v = .slice A n c := by
  rcases h.2 with ⟨rfl, h0⟩ | ⟨g, cap, cur, rfl, _⟩
  · subst h0
    exact ⟨none, 0, rfl⟩
  · exact ⟨_, _, rfl⟩
theorem row_mono {w : World} {base b' : Nat} {e : TypeId} {size : Nat} {v : Value} {n : Nat} {xs : List Value} (h : w.ownsRow base e size v n xs) (hb : b' ≤ base) : w.ownsRow b' e size v n xs := by
  refine ⟨h.1, ?_⟩
  rcases h.2 with h | ⟨g, cap, cur, h1, h2, h3⟩
  · exact .inl h
  · exact .inr ⟨g, cap, cur, h1, Nat.le_trans hb h2, h3⟩
theorem row_lst {w : World} {base : Nat} {T : TypeId} {v : Value} {n : Nat} {xs : List Value} (h : w.ownsRow base T 1 v n xs) : ∃ A c, v = .slice A n c ∧ n ≤ c ∧ Lst w A n xs := by
  have hl : xs.length = n := by simpa using h.1
  rcases h.2 with ⟨rfl, h0⟩ | ⟨g, cap, cur, rfl, hb, hg, hnc, hcm, hcs, htake⟩
  · subst h0
    exact ⟨none, 0, rfl, Nat.le_refl _, hl, fun h => absurd h (Nat.lt_irrefl _)⟩
  · refine ⟨_, cap, rfl, hnc, hl, fun hn => ⟨g, 0, rfl, ?_, fun k hk => ?_⟩⟩
    · exact (Array.getElem?_eq_some_iff.1 hg).1
    · have h1 : w.cell? ⟨g, 0 + k, none⟩ = cur[0 + k]? := by simp [World.cell?, hg]
      rw [h1, Nat.zero_add]
      have h2 : (cur.toList.take (n * 1))[k]? = xs[k]? := by rw [htake]
      rw [List.getElem?_take_of_lt (by omega)] at h2
      rw [← Array.getElem?_toList, h2]
end Go.Proofs.YtkankdecbefenaaDoor.Base
