/- The contracts of package image's Right and Put; no condition. -/
import Derived.Test.YthnopcoahcdjjaaImgB
import Derived.Test.YthnopcoahcdjjaaPush
import Derived.ArgAppend
import Derived.Lib.SlBytesConst
namespace Go.Proofs.Ythnopcoahcdjjaa.Ly10
open Go.ChangeShapes Go.WideShapes Go.ChangeAt Go.RowKit Base
set_option linter.unusedVariables false
set_option linter.unusedSimpArgs false

abbrev TI : TypeId := 46
abbrev TU : TypeId := 5
abbrev u8s (bs : List Nat) : List Value := bs.map fun (x : Nat) => Value.int .u8 x
abbrev c4 (m e0 e1 : Int) (A : Option Addr) (n c : Nat) : Array Value := #[.int .i64 m, .int .i64 e0, .int .i64 e1, .slice A n c]
abbrev imv (m e0 e1 : Int) (A : Option Addr) (n c : Nat) : Value := .agg (c4 m e0 e1 A n c)
/-- An image that may be. -/
def RI (m e0 e1 : Int) (n : Nat) : Prop := 0 ≤ m ∧ m < 16 ∧ 1 ≤ n ∧ n ≤ 1024 ∧ 0 ≤ e0 ∧ e0 < n ∧ 0 ≤ e1 ∧ e1 < n
instance (m e0 e1 : Int) (n : Nat) : Decidable (RI m e0 e1 n) := by unfold RI; infer_instance
theorem cells4 {w : World} {g : Nat} {T : TypeId} {m e0 e1 : Int} {A : Option Addr} {n c : Nat} (h : Obj1 w g T (c4 m e0 e1 A n c)) :
    w.cell? ⟨g, 0, none⟩ = some (.int .i64 m) ∧ w.cell? ⟨g, 1, none⟩ = some (.int .i64 e0) ∧ w.cell? ⟨g, 2, none⟩ = some (.int .i64 e1) ∧ w.cell? ⟨g, 3, none⟩ = some (.slice A n c) :=
  ⟨h.cell 0, h.cell 1, h.cell 2, h.cell 3⟩
theorem idx2 (e0 e1 : Int) (W : World) : (Instr.index 44 (.agg #[.int .i64 e0, .int .i64 e1]) (.int .i64 0)).run Try.prog W = .ok (.int .i64 e0) W ∧ (Instr.index 44 (.agg #[.int .i64 e0, .int .i64 e1]) (.int .i64 1)).run Try.prog W = .ok (.int .i64 e1) W := by
  constructor
  · kernel_rfl
  · kernel_rfl
set_option maxRecDepth 100000 in
set_option maxHeartbeats 2000000 in
theorem right_yes (m e0 e1 : Int) (A : Option Addr) (n c : Nat) (w : World) (h : RI m e0 e1 n) :
    Calls Try.prog 27 #[imv m e0 e1 A n c] w fun e w' => e = .returned (.bool true) ∧ Below w.heap.size w w' := by
  obtain ⟨m0, m1, n0, n1, p0, p1, q0, q1⟩ := h
  have HB := Lib.hid (show Below w.heap.size w (w.alloc (.cells (c4 m e0 e1 A n c) TI)) from (Below.refl _ _).alloc (Nat.le_refl _) _)
  obtain ⟨k0, k1, k2, k3⟩ := cells4 (Obj1.new w TI (c4 m e0 e1 A n c))
  have hi0 := fun W => (idx2 e0 e1 W).1
  have hi1 := fun W => (idx2 e0 e1 W).2
  go_enter Try.func27, Try.ntmps27
  go_wp2_with fail
  go_loop [27] (fun i => ∃ j : Nat, j ≤ 2 ∧ i = .int .i64 j) (fun i => 2 - (intOf i).toNat)
  case atStart => exact ⟨0, by omega, rfl⟩
  case round =>
    obtain ⟨j, hj, rfl⟩ := hrel
    rcases (show j = 0 ∨ j = 1 ∨ j = 2 by omega) with rfl | rfl | rfl
    · go_wp2
      go_round
      case rel => exact ⟨1, by omega, rfl⟩
      case measure => simp [intOf]
    · go_wp2
      go_round
      case rel => exact ⟨2, by omega, rfl⟩
      case measure => simp [intOf]
    · go_wp2
      go_ret
      exact ⟨rfl, HB.out⟩
set_option maxRecDepth 100000 in
set_option maxHeartbeats 2000000 in
theorem right_no (m e0 e1 : Int) (A : Option Addr) (n c : Nat) (w : World) (h : ¬ RI m e0 e1 n) (hn : n ≤ 9223372036854775807) :
    Calls Try.prog 27 #[imv m e0 e1 A n c] w fun e w' => e = .returned (.bool false) ∧ Below w.heap.size w w' := by
  have HB := Lib.hid (show Below w.heap.size w (w.alloc (.cells (c4 m e0 e1 A n c) TI)) from (Below.refl _ _).alloc (Nat.le_refl _) _)
  obtain ⟨k0, k1, k2, k3⟩ := cells4 (Obj1.new w TI (c4 m e0 e1 A n c))
  have hi0 := fun W => (idx2 e0 e1 W).1
  have hi1 := fun W => (idx2 e0 e1 W).2
  unfold RI at h
  rcases (show m < 0 ∨ (0 ≤ m ∧ 16 ≤ m) ∨ (0 ≤ m ∧ m < 16 ∧ n < 1) ∨ (0 ≤ m ∧ m < 16 ∧ 1 ≤ n ∧ 1024 < n) ∨ (0 ≤ m ∧ m < 16 ∧ 1 ≤ n ∧ n ≤ 1024 ∧ (e0 < 0 ∨ (n : Int) ≤ e0 ∨ e1 < 0 ∨ (n : Int) ≤ e1)) by omega) with g | ⟨g, g1⟩ | ⟨g, g1, g2⟩ | ⟨g, g1, g2, g3⟩ | ⟨g, g1, g2, g3, g4⟩
  case inr.inr.inr.inr =>
    clear h
    go_enter Try.func27, Try.ntmps27
    go_wp2_with fail
    go_loop [27] (fun i => ∃ j : Nat, j ≤ 2 ∧ i = .int .i64 j ∧ (0 < j → 0 ≤ e0 ∧ e0 < n) ∧ (1 < j → 0 ≤ e1 ∧ e1 < n)) (fun i => 2 - (intOf i).toNat)
    case atStart => exact ⟨0, by omega, rfl, fun h => by omega, fun h => by omega⟩
    case round =>
      obtain ⟨j, hj, rfl, h1, h2⟩ := hrel
      rcases (show j = 0 ∨ j = 1 ∨ j = 2 by omega) with rfl | rfl | rfl
      · rcases (show e0 < 0 ∨ (0 ≤ e0 ∧ (n : Int) ≤ e0) ∨ (0 ≤ e0 ∧ e0 < n) by omega) with a | ⟨a, b⟩ | ⟨a, b⟩
        · go_wp2
          go_ret
          exact ⟨rfl, HB.out⟩
        · go_wp2
          go_ret
          exact ⟨rfl, HB.out⟩
        · go_wp2
          go_round
          case rel => exact ⟨1, by omega, rfl, fun _ => ⟨a, b⟩, fun h => by omega⟩
          case measure => simp [intOf]
      · rcases (show e1 < 0 ∨ (0 ≤ e1 ∧ (n : Int) ≤ e1) ∨ (0 ≤ e1 ∧ e1 < n) by omega) with a | ⟨a, b⟩ | ⟨a, b⟩
        · go_wp2
          go_ret
          exact ⟨rfl, HB.out⟩
        · go_wp2
          go_ret
          exact ⟨rfl, HB.out⟩
        · have := h1 (by omega)
          omega
      · have := h1 (by omega)
        have := h2 (by omega)
        omega
  all_goals
    clear h
    go_enter Try.func27, Try.ntmps27
    go_wp2
    go_ret
    exact ⟨rfl, HB.out⟩
theorem put_no (m e0 e1 : Int) (A : Option Addr) (n c : Nat) (w : World) (h : ¬ RI m e0 e1 n) (hn : n ≤ 9223372036854775807) :
    Calls Try.prog 25 #[imv m e0 e1 A n c] w fun e w' => e = .returned (.tuple #[.slice none 0 0, .int .i64 2]) ∧ Hid (Below w.heap.size w w') := by
  have HB := Lib.hid (show Below w.heap.size w (w.alloc (.cells (c4 m e0 e1 A n c) TI)) from (Below.refl _ _).alloc (Nat.le_refl _) _)
  obtain ⟨k0, k1, k2, k3⟩ := cells4 (Obj1.new w TI (c4 m e0 e1 A n c))
  have HR := Lib.hid h
  clear h
  go_enter Try.func25, Try.ntmps25
  go_wp2_with fail
  generalize w.alloc (.cells #[.int .i64 m, .int .i64 e0, .int .i64 e1, .slice A n c] TI) = W at HB ⊢
  refine (right_no m e0 e1 A n c W HR.out hn).mono ?_
  rintro e w1 ⟨rfl, hb1⟩
  go_wp2
  go_ret2
  exact ⟨rfl, HB.out.trans (hb1.mono HB.out.size)⟩
theorem info_u8 : (Try.prog.info? TU).map (fun i => (i.zero, i.size, i.bytes)) = some (some (.int .u8 0), 1, 1) := by kernel_rfl
/-- A row put behind a row that a call made itself; all others stay as they are. -/
theorem pushLg {P : Program} (w : World) {ops : Array Oper} {rest : List Oper} {o : Oper} {a : Act} {Q : Exit → Act → World → Prop} (hgd : o.guard = none) (s x : Operand) (t : TypeId)
    (ho : o.op = .call { callee := .builtin .append, args := #[s, x], argTypes := #[t, t] })
    (base : Nat) (e : TypeId) (i : TypeInfo) (z : Value) (bytes : Nat) (ht : P.underlying t = some (.slice e)) (hi : P.info? e = some i) (hz : i.zero = some z)
    (hsize : i.size = 1) (hby : i.bytes = bytes) (hzs : z.cells.size = 1)
    (v : Value) (n : Nat) (xs : List Value) (hs : a.eval s = v) (hown : w.ownsRow base e 1 v n xs)
    (ad : Addr) (m c : Nat) (news : List Value) (hx : a.eval x = .slice (some ad) m c) (hl : Lst w (some ad) m news) (h1 : ∀ u ∈ news, u.oneCell' = true)
    (h63 : n + m ≤ maxLen) (hbytes : (n + m) * bytes ≤ 140737488355328) (hbase : base ≤ w.heap.size)
    (h : ∀ v' w', w'.ownsRow base e 1 v' (n + m) (xs ++ news) → Below base w w' → w.grownBy w' v.ownBlock → (v'.ownBlock = v.ownBlock ∨ v'.ownBlock = some w.heap.size) → wpList P ops Q rest (a.put o.dst v') w') :
    wpList P ops Q (o :: rest) a w := by
  refine wpList_append_own_at w hgd s x t ho base e i z 1 bytes ht hi hz hsize hby hzs (by omega) v n xs hs hown ad m c news hx (by rw [hl.1]; omega) ?_ h1 h63 hbytes hbase ?_
  · intro j u hj
    have hjl : j < news.length := by
      rcases Nat.lt_or_ge j news.length with hh | hh
      · exact hh
      · rw [List.getElem?_eq_none hh] at hj; cases hj
    obtain ⟨b, off, e', _, hc⟩ := hl.2 (by rw [← hl.1]; omega)
    cases e'
    rw [add_eq, hc j (by rw [← hl.1]; exact hjl)]
    exact hj
  · intro v' w' hown' hg _ hb
    exact h v' w' hown' ((Below.refl base w).grown hg (by omega) (fun k hk => (hown.lt k hk).1)) hg hb
theorem lst_new (w : World) (e : TypeId) (xs : List Value) : Lst (w.alloc (.cells xs.toArray e)) (some ⟨w.heap.size, 0, none⟩) xs.length xs :=
  ⟨rfl, fun _ => ⟨w.heap.size, 0, rfl, by simp, fun k hk => by rw [Nat.zero_add, (Obj1.new w e xs.toArray).cell, List.getElem?_toArray]⟩⟩
end Go.Proofs.Ythnopcoahcdjjaa.Ly10
