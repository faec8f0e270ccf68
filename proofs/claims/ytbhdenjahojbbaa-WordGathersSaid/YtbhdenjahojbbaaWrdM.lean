/- A message of package word: what it holds; the contracts of Gather, bits, Put, Missing, Whole. -/
import Derived.Test.YtbhdenjahojbbaaWrdE
import Derived.Test.YtbhdenjahojbbaaHeadR
import Derived.Laws.CopyOwn
import Derived.StillTailTactics
import Derived.IntWalk
namespace Go.Proofs.Ytbhdenjahojbbaa.Ly2
open Go.ChangeShapes Go.WideShapes Go.ChangeAt Go.RowKit Base
set_option linter.unusedVariables false
set_option linter.unusedSimpArgs false

abbrev TM : TypeId := 60
def clr (v r : Nat) : Nat := (Go.bits BinOp.andNot IntKind.u8 (v : Int) ((2 ^ (7 - r) : Nat) : Int)).toNat
theorem clr_all : ∀ v : Fin 256, ∀ r : Fin 8, Go.bits BinOp.andNot IntKind.u8 ((v.1 : Nat) : Int) ((2 ^ (7 - r.1) : Nat) : Int) = ((clr v.1 r.1 : Nat) : Int) ∧ clr v.1 r.1 < 256 := by decide +kernel
theorem clr_bit : ∀ v : Fin 256, ∀ r k : Fin 8, wbit (clr v.1 r.1) k.1 = (if k.1 = r.1 then false else wbit v.1 k.1) ∧ wbit (clr v.1 r.1 ||| 2 ^ (7 - r.1)) k.1 = (if k.1 = r.1 then true else wbit v.1 k.1) ∧ (clr v.1 r.1 ||| 2 ^ (7 - r.1)) < 256 := by decide +kernel
def putb (v r : Nat) (b : Bool) : Nat := if b = true then clr v r ||| 2 ^ (7 - r) else clr v r
theorem putb_lt {v r : Nat} (b : Bool) (hv : v < 256) (hr : r < 8) : putb v r b < 256 := by
  unfold putb
  split
  · exact (clr_bit ⟨v, hv⟩ ⟨r, hr⟩ ⟨0, by omega⟩).2.2
  · exact (clr_all ⟨v, hv⟩ ⟨r, hr⟩).2
theorem putb_bit {v r k : Nat} (b : Bool) (hv : v < 256) (hr : r < 8) (hk : k < 8) : wbit (putb v r b) k = if k = r then b else wbit v k := by
  unfold putb
  cases b
  · exact (clr_bit ⟨v, hv⟩ ⟨r, hr⟩ ⟨k, hk⟩).1
  · exact (clr_bit ⟨v, hv⟩ ⟨r, hr⟩ ⟨k, hk⟩).2.1
/-- A message's cells. -/
def mcells (md : Bool) (m : Nat) (ws : List Nat) (kn : List Bool) : Array Value := (([Value.bool md, Value.int .i64 m] ++ ws.map (fun (x : Nat) => Value.int .u8 x)) ++ kn.map Value.bool).toArray
structure Msg (w : World) (g : Nat) (md : Bool) (m : Nat) (ws : List Nat) (kn : List Bool) : Prop where
  obj : Obj1 w g TM (mcells md m ws kn)
  lw : ws.length = 8
  lk : kn.length = 64
  wd : ∀ x ∈ ws, x < 256
variable {w w' : World} {g m : Nat} {md : Bool} {ws : List Nat} {kn : List Bool}
theorem Msg.made (h : Msg w g md m ws kn) : w.cell? ⟨g, 0, none⟩ = some (.bool md) := h.obj.cell 0
theorem Msg.many (h : Msg w g md m ws kn) : w.cell? ⟨g, 1, none⟩ = some (.int .i64 m) := h.obj.cell 1
theorem Msg.word (h : Msg w g md m ws kn) (q : Nat) (hq : q < 8) : w.cell? ⟨g, 2 + q, none⟩ = some (.int .u8 (ws[q]'(by rw [h.lw]; exact hq) : Nat)) := by
  rw [h.obj.cell]
  unfold mcells
  rw [List.getElem?_toArray, List.getElem?_append_left (by simp [h.lw]; omega), List.getElem?_append_right (by simp), show 2 + q - [Value.bool md, Value.int .i64 m].length = q by simp, List.getElem?_map, List.getElem?_eq_getElem (by rw [h.lw]; exact hq)]
  rfl
theorem Msg.known (h : Msg w g md m ws kn) (k : Nat) (hk : k < 64) : w.cell? ⟨g, 10 + k, none⟩ = some (.bool (kn[k]'(by rw [h.lk]; exact hk))) := by
  rw [h.obj.cell]
  unfold mcells
  rw [List.getElem?_toArray, List.getElem?_append_right (by simp [h.lw]), show 10 + k - ([Value.bool md, Value.int .i64 m] ++ ws.map fun (x : Nat) => Value.int .u8 x).length = k by simp [h.lw], List.getElem?_map, List.getElem?_eq_getElem (by rw [h.lk]; exact hk)]
  rfl
theorem Msg.drew (h : Msg w g md m ws kn) : Msg w.drew g md m ws kn := ⟨h.obj, h.lw, h.lk, h.wd⟩
theorem Msg.kept (h : Msg w g md m ws kn) (hb : Below w.heap.size w w') : Msg w' g md m ws kn := ⟨h.obj.kept hb, h.lw, h.lk, h.wd⟩
theorem Msg.touch {b : Nat} (h : Msg w g md m ws kn) (ht : Wrote b w w') (hne : g ≠ b) : Msg w' g md m ws kn := ⟨h.obj.touch ht hne, h.lw, h.lk, h.wd⟩
theorem Msg.setWord (h : Msg w g md m ws kn) (q : Nat) (hq : q < 8) (v : Nat) (hv : v < 256) : Msg (w.setCell ⟨g, 2 + q, none⟩ (.int .u8 (v : Int))) g md m (ws.set q v) kn := by
  refine ⟨?_, by rw [List.length_set]; exact h.lw, h.lk, fun x hx => ?_⟩
  · have := h.obj.set (2 + q) (.int .u8 (v : Int))
    have e : (mcells md m ws kn).setIfInBounds (2 + q) (.int .u8 (v : Int)) = mcells md m (ws.set q v) kn := by
      unfold mcells
      rw [List.setIfInBounds_toArray, List.set_append_left _ _ (by simp [h.lw]; omega), List.set_append_right _ _ (by simp), show 2 + q - [Value.bool md, Value.int .i64 m].length = q by simp, List.map_set]
    rwa [e] at this
  · rcases List.mem_or_eq_of_mem_set hx with h' | rfl
    · exact h.wd x h'
    · exact hv
theorem Msg.setKnown (h : Msg w g md m ws kn) (k : Nat) (hk : k < 64) (b : Bool) : Msg (w.setCell ⟨g, 10 + k, none⟩ (.bool b)) g md m ws (kn.set k b) := by
  refine ⟨?_, h.lw, by rw [List.length_set]; exact h.lk, h.wd⟩
  have := h.obj.set (10 + k) (.bool b)
  have e : (mcells md m ws kn).setIfInBounds (10 + k) (.bool b) = mcells md m ws (kn.set k b) := by
    unfold mcells
    rw [List.setIfInBounds_toArray, List.set_append_right _ _ (by simp [h.lw]), show 10 + k - ([Value.bool md, Value.int .i64 m] ++ ws.map fun (x : Nat) => Value.int .u8 x).length = k by simp [h.lw], List.map_set]
  rwa [e] at this
theorem info_tm : (Try.prog.info? TM).bind (·.zero) = some (.agg #[Value.bool false, Value.int .i64 0, Value.int .u8 0, Value.int .u8 0, Value.int .u8 0, Value.int .u8 0, Value.int .u8 0, Value.int .u8 0, Value.int .u8 0, Value.int .u8 0, Value.bool false, Value.bool false, Value.bool false, Value.bool false, Value.bool false, Value.bool false, Value.bool false, Value.bool false, Value.bool false, Value.bool false, Value.bool false, Value.bool false, Value.bool false, Value.bool false, Value.bool false, Value.bool false, Value.bool false, Value.bool false, Value.bool false, Value.bool false, Value.bool false, Value.bool false, Value.bool false, Value.bool false, Value.bool false, Value.bool false, Value.bool false, Value.bool false, Value.bool false, Value.bool false, Value.bool false, Value.bool false, Value.bool false, Value.bool false, Value.bool false, Value.bool false, Value.bool false, Value.bool false, Value.bool false, Value.bool false, Value.bool false, Value.bool false, Value.bool false, Value.bool false, Value.bool false, Value.bool false, Value.bool false, Value.bool false, Value.bool false, Value.bool false, Value.bool false, Value.bool false, Value.bool false, Value.bool false, Value.bool false, Value.bool false, Value.bool false, Value.bool false, Value.bool false, Value.bool false, Value.bool false, Value.bool false, Value.bool false, Value.bool false]) := by kernel_rfl
theorem zero_tm (w : World) : (zeroValue TM).run Try.prog w = .ok (.agg #[Value.bool false, Value.int .i64 0, Value.int .u8 0, Value.int .u8 0, Value.int .u8 0, Value.int .u8 0, Value.int .u8 0, Value.int .u8 0, Value.int .u8 0, Value.int .u8 0, Value.bool false, Value.bool false, Value.bool false, Value.bool false, Value.bool false, Value.bool false, Value.bool false, Value.bool false, Value.bool false, Value.bool false, Value.bool false, Value.bool false, Value.bool false, Value.bool false, Value.bool false, Value.bool false, Value.bool false, Value.bool false, Value.bool false, Value.bool false, Value.bool false, Value.bool false, Value.bool false, Value.bool false, Value.bool false, Value.bool false, Value.bool false, Value.bool false, Value.bool false, Value.bool false, Value.bool false, Value.bool false, Value.bool false, Value.bool false, Value.bool false, Value.bool false, Value.bool false, Value.bool false, Value.bool false, Value.bool false, Value.bool false, Value.bool false, Value.bool false, Value.bool false, Value.bool false, Value.bool false, Value.bool false, Value.bool false, Value.bool false, Value.bool false, Value.bool false, Value.bool false, Value.bool false, Value.bool false, Value.bool false, Value.bool false, Value.bool false, Value.bool false, Value.bool false, Value.bool false, Value.bool false, Value.bool false, Value.bool false, Value.bool false]) w := by
  obtain ⟨i, hi, hz⟩ := Option.bind_eq_some_iff.1 info_tm
  simp [zeroValue, typeInfo, hi, hz]
set_option maxRecDepth 100000 in
set_option maxHeartbeats 1000000 in
theorem gather_any (n : Int) (m : Nat) (w : World) (h : (n ≤ 0 ∧ m = 0) ∨ (8 ≤ n ∧ m = 8) ∨ (0 < n ∧ n < 8 ∧ n = m)) :
    Calls Try.prog 30 #[.int .i64 n] w fun e w' => e = .returned (.pointer (some ⟨w.heap.size, 0, none⟩)) ∧ Hid (Msg w' w.heap.size true m (List.replicate 8 0) (List.replicate 64 false)) ∧ Hid (Below w.heap.size w w') := by
  have fin : ∀ m : Nat, Msg (w.alloc (.cells (mcells true m (List.replicate 8 0) (List.replicate 64 false)) TM)) w.heap.size true m (List.replicate 8 0) (List.replicate 64 false) := fun m => ⟨Obj1.new _ _ _, rfl, rfl, fun x hx => by have := List.eq_of_mem_replicate hx; omega⟩
  have FIN := Lib.hid fin
  have hzv := zero_tm
  clear fin
  rcases (show (n < 0 ∧ m = 0) ∨ (n = 0 ∧ m = 0) ∨ (8 < n ∧ m = 8) ∨ (n = 8 ∧ m = 8) ∨ (0 < n ∧ n < 8 ∧ n = m) by omega) with ⟨h, rfl⟩ | ⟨rfl, rfl⟩ | ⟨h, rfl⟩ | ⟨rfl, rfl⟩ | ⟨h, h1, rfl⟩
  all_goals
    go_enter Try.func30, Try.ntmps30
    go_wp2
    go_ret
    exact ⟨rfl, Lib.hid (FIN.out _), Lib.hid ((Below.refl _ _).alloc (Nat.le_refl _) _)⟩
theorem bits_made (h : Msg w g true m ws kn) (hm : m ≤ 8) : Calls Try.prog 36 #[.pointer (some ⟨g, 0, none⟩)] w fun e w' => e = .returned (.int .i64 ((8 * m : Nat) : Int)) ∧ w = w' := by
  have c0 := h.made
  have c1 := h.many
  go_enter Try.func36, Try.ntmps36
  go_wp2_with fail
  refine (long_any (m : Int) w ((8 * m : Nat) : Int) (.inr ⟨by omega, by omega, by push_cast; omega⟩)).mono ?_
  rintro e w' ⟨rfl, rfl⟩
  go_wp2
  go_ret
  exact ⟨rfl, rfl⟩
/-- A pointer to a message that nobody made. -/
def Nob (w : World) (v : Value) : Prop := v = .pointer none ∨ ∃ g m ws kn, v = .pointer (some ⟨g, 0, none⟩) ∧ Msg w g false m ws kn
theorem Nob.kept {v : Value} (h : Nob w v) (hb : Below w.heap.size w w') : Nob w' v := by
  rcases h with h | ⟨g, m, ws, kn, e, h⟩
  · exact .inl h
  · exact .inr ⟨g, m, ws, kn, e, h.kept hb⟩
theorem bits_nob {v : Value} (h : Nob w v) : Calls Try.prog 36 #[v] w fun e w' => e = .returned (.int .i64 0) ∧ w = w' := by
  rcases h with rfl | ⟨g, m, ws, kn, rfl, h⟩
  case' inr =>
    have c0 := h.made
  all_goals
    go_enter Try.func36, Try.ntmps36
    go_wp2
    go_ret
    exact ⟨rfl, rfl⟩
theorem put_nob {v : Value} (k : Int) (b z : Bool) (h : Nob w v) : Calls Try.prog 31 #[v, .int .i64 k, .bool b, .bool z] w fun e w' => e = .returned (.tuple #[]) ∧ w = w' := by
  have HC := Lib.hid (bits_nob h)
  by_cases h0 : k < 0
  · go_enter Try.func31, Try.ntmps31
    go_wp2
    exact bodyPost_ret (results_none rfl _ _ _) rfl ⟨rfl, rfl⟩
  · go_enter Try.func31, Try.ntmps31
    go_wp2_with fail
    refine HC.out.mono ?_
    rintro e w' ⟨rfl, rfl⟩
    go_wp2
    exact bodyPost_ret (results_none rfl _ _ _) rfl ⟨rfl, rfl⟩
theorem put_out (k : Int) (b z : Bool) (h : Msg w g true m ws kn) (hm : m ≤ 8) (hk : k < 0 ∨ 8 * (m : Int) ≤ k) : Calls Try.prog 31 #[.pointer (some ⟨g, 0, none⟩), .int .i64 k, .bool b, .bool z] w fun e w' => e = .returned (.tuple #[]) ∧ w = w' := by
  have HC := Lib.hid (bits_made h hm)
  by_cases h0 : k < 0
  · go_enter Try.func31, Try.ntmps31
    go_wp2
    exact bodyPost_ret (results_none rfl _ _ _) rfl ⟨rfl, rfl⟩
  · have hk1 : ((8 * m : Nat) : Int) ≤ k := by omega
    go_enter Try.func31, Try.ntmps31
    go_wp2_with fail
    refine HC.out.mono ?_
    rintro e w' ⟨rfl, rfl⟩
    go_wp2
    exact bodyPost_ret (results_none rfl _ _ _) rfl ⟨rfl, rfl⟩
end Go.Proofs.Ytbhdenjahojbbaa.Ly2
