/- The contracts of package store's Same and Clone, and of layer 13's closed example; no condition. -/
import Derived.Test.YthnopcoahcdjjaaStoC
namespace Go.Proofs.Ythnopcoahcdjjaa.Ly13
open Go.ChangeShapes Go.WideShapes Go.ChangeAt Go.RowKit Base
set_option linter.unusedVariables false
set_option linter.unusedSimpArgs false

theorem quiet_load {P : Program} {o : Oper} {a : Act} {w : World} {K : Act → Prop} {ty : TypeId} {x : Operand} {p v : Value} (h : ∀ n, (Instr.loadAt ty p).run P (w.drewN n) = .ok v (w.drewN n)) (ho : o.op = .load ty x) (hx : a.eval x = p)
    (k : K (a.put o.dst v)) : o.quiet P a (fun w' => ∃ n, w' = w.drewN n) K := by
  refine ⟨v, ?_, k⟩
  rintro w' ⟨n, rfl⟩
  unfold Oper.quietAt
  unfold execOp
  simp only [ho, hx, Sem.run_bind, h n, Result.andThen_ok]
  simp [Oper.quietUpon]
theorem quiet_eql {P : Program} {o : Oper} {a : Act} {w : World} {K : Act → Prop} {ty ty' : TypeId} {x y : Operand} {p q : Array Value} {v : Value} (hm : P.eqGuardType P.depth ty = false) (h : ∀ n, (binOp .eql ty (.agg p) (.agg q)).run P (w.drewN n) = .ok v (w.drewN n)) (ho : o.op = .binOp .eql ty x y ty') (hx : a.eval x = .agg p) (hy : a.eval y = .agg q)
    (k : K (a.put o.dst v)) : o.quiet P a (fun w' => ∃ n, w' = w.drewN n) K := by
  refine ⟨v, ?_, k⟩
  rintro w' ⟨n, rfl⟩
  unfold Oper.quietAt
  unfold execOp
  simp only [ho, hx, hy, Sem.run_bind, run_eqGuard_agg _ _ _ _ _ _ _ hm, h n, Result.andThen_ok]
  simp [Oper.quietUpon]
def sameB (f g : Nat → Int) (p q : Nat → Bool) (x y : Nat → Int) : Bool := likeI f g && likeB p q && likeI x y
theorem sameB_iff (f g : Nat → Int) (p q : Nat → Bool) (x y : Nat → Int) : sameB f g p q x y = true ↔ (∀ i, i < 64 → f i = g i) ∧ (∀ i, i < 64 → p i = q i) ∧ ∀ i, i < 64 → x i = y i := by
  simp only [sameB, Bool.and_eq_true, likeI_iff, likeB_iff, and_assoc]
set_option maxRecDepth 100000 in
set_option maxHeartbeats 1000000 in
theorem same_raw (b c : Nat) (a1 b1 a2 b2 a3 b3 : Array Value) (r1 r2 r3 : Bool) (w : World) (c0 : w.cell? ⟨b, 0, none⟩ = some (.bool true)) (c1 : w.cell? ⟨c, 0, none⟩ = some (.bool true))
    (L1 : Hid (∀ n, (Instr.loadAt 81 (.pointer (some ⟨b, 1, none⟩))).run Try.prog (w.drewN n) = .ok (.agg a1) (w.drewN n)))
    (L2 : Hid (∀ n, (Instr.loadAt 82 (.pointer (some ⟨b, 65, none⟩))).run Try.prog (w.drewN n) = .ok (.agg a2) (w.drewN n)))
    (L3 : Hid (∀ n, (Instr.loadAt 83 (.pointer (some ⟨b, 129, none⟩))).run Try.prog (w.drewN n) = .ok (.agg a3) (w.drewN n)))
    (K1 : Hid (∀ n, (Instr.loadAt 81 (.pointer (some ⟨c, 1, none⟩))).run Try.prog (w.drewN n) = .ok (.agg b1) (w.drewN n)))
    (K2 : Hid (∀ n, (Instr.loadAt 82 (.pointer (some ⟨c, 65, none⟩))).run Try.prog (w.drewN n) = .ok (.agg b2) (w.drewN n)))
    (K3 : Hid (∀ n, (Instr.loadAt 83 (.pointer (some ⟨c, 129, none⟩))).run Try.prog (w.drewN n) = .ok (.agg b3) (w.drewN n)))
    (E1 : Hid (∀ n, (binOp .eql 81 (.agg a1) (.agg b1)).run Try.prog (w.drewN n) = .ok (.bool r1) (w.drewN n)))
    (E2 : Hid (∀ n, (binOp .eql 82 (.agg a2) (.agg b2)).run Try.prog (w.drewN n) = .ok (.bool r2) (w.drewN n)))
    (E3 : Hid (∀ n, (binOp .eql 83 (.agg a3) (.agg b3)).run Try.prog (w.drewN n) = .ok (.bool r3) (w.drewN n))) :
    Calls Try.prog 45 #[.pointer (some ⟨b, 0, none⟩), .pointer (some ⟨c, 0, none⟩)] w fun e w' => e = .returned (.bool (r1 && r2 && r3)) ∧ Below w.heap.size w w' := by
  cases r1 <;> cases r2
  all_goals
    go_enter Try.func45, Try.ntmps45
    go_wp2_with fail
    refine (is_yes b w c0).mono ?_; rintro e w' ⟨rfl, rfl⟩
    go_wp2_with fail
    refine (is_yes c w c1).mono ?_; rintro e w' ⟨rfl, rfl⟩
    go_upto_region 3 with (fail)
    refine wp_region_quiet_lit (by kernel_rfl) (by kernel_rfl) ?_
    repeat (first | go_big_quiet_skip | (go_big_quiet_want; refine quiet_load L1.out rfl rfl ?_; go_simp; go_big_quiet_on) | (go_big_quiet_want; refine quiet_load K1.out rfl rfl ?_; go_simp; go_big_quiet_on) | (go_big_quiet_want; refine quiet_load L2.out rfl rfl ?_; go_simp; go_big_quiet_on) | (go_big_quiet_want; refine quiet_load K2.out rfl rfl ?_; go_simp; go_big_quiet_on) | (go_big_quiet_want; refine quiet_load L3.out rfl rfl ?_; go_simp; go_big_quiet_on) | (go_big_quiet_want; refine quiet_load K3.out rfl rfl ?_; go_simp; go_big_quiet_on) | (go_big_quiet_want; refine quiet_eql (by kernel_rfl) E1.out rfl rfl rfl ?_; go_simp; go_big_quiet_on) | (go_big_quiet_want; refine quiet_eql (by kernel_rfl) E2.out rfl rfl rfl ?_; go_simp; go_big_quiet_on) | (go_big_quiet_want; refine quiet_eql (by kernel_rfl) E3.out rfl rfl rfl ?_; go_simp; go_big_quiet_on) | go_big_quiet_step (fail))
    refine wpQuiet_nil ?_
    intro _ hw'
    obtain ⟨nq, hw''⟩ := hw'
    subst hw''
    go_wp2
    go_ret
    exact ⟨rfl, below_drewN' (Below.refl _ _) _⟩
theorem same_any (b c : Nat) (f g : Nat → Int) (p q : Nat → Bool) (x y : Nat → Int) (w : World) (h : Sto w b f p x) (k : Sto w c g q y) :
    Calls Try.prog 45 #[.pointer (some ⟨b, 0, none⟩), .pointer (some ⟨c, 0, none⟩)] w fun e w' => e = .returned (.bool (sameB f g p q x y)) ∧ Below w.heap.size w w' :=
  same_raw b c _ _ _ _ _ _ _ _ _ w h.made k.made (Lib.hid fun n => (h.drewN n).rowW) (Lib.hid fun n => (h.drewN n).rowG) (Lib.hid fun n => (h.drewN n).rowA) (Lib.hid fun n => (k.drewN n).rowW) (Lib.hid fun n => (k.drewN n).rowG) (Lib.hid fun n => (k.drewN n).rowA)
    (Lib.hid fun n => eql_words _ f g) (Lib.hid fun n => eql_goods _ p q) (Lib.hid fun n => eql_ages _ x y)
end Go.Proofs.Ythnopcoahcdjjaa.Ly13
