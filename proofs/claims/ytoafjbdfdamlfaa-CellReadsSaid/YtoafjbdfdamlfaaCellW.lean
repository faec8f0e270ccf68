/- The contract of package cell's Wave: the levels of the bits that are handed in, tick by tick, in new memory. -/
import Derived.Test.YtoafjbdfdamlfaaCellA
import Derived.Test.YtoafjbdfdamlfaaBase
import Derived.Outline
import Derived.Handy
namespace Go.Proofs.Ytoafjbdfdamlfaa.Ly1
open Go.ChangeShapes Go.WideShapes Go.ChangeAt Go.RowKit Base
set_option linter.unusedVariables false
set_option linter.unusedSimpArgs false

theorem info_bool : (Try.prog.info? 4).map (fun i => (i.zero, i.size, i.bytes)) = some (some (.bool false), 1, 1) := by kernel_rfl

def cellOf (b : Bool) : List Bool := (List.range 20).map fun (k : Nat) => lvl b (k : Int)
def waveOf (bs : List Bool) : List Bool := bs.flatMap cellOf
theorem cellOf_len (b : Bool) : (cellOf b).length = 20 := by simp [cellOf]
theorem waveOf_len (bs : List Bool) : (waveOf bs).length = 20 * bs.length := by
  induction bs with
  | nil => rfl
  | cons b r ih => simp only [waveOf, List.flatMap_cons, List.length_append, cellOf_len, List.length_cons] at ih ⊢; omega
theorem waveOf_snoc (bs : List Bool) (k : Nat) (hk : k < bs.length) : waveOf (bs.take (k + 1)) = waveOf (bs.take k) ++ cellOf bs[k] := by
  unfold waveOf
  rw [List.take_succ_eq_append_getElem hk, List.flatMap_append, List.flatMap_cons, List.flatMap_nil, List.append_nil]
theorem cellOf_snoc (b : Bool) (j : Nat) (hj : j < 20) : (cellOf b).take (j + 1) = (cellOf b).take j ++ [lvl b (j : Int)] := by
  rw [List.take_succ_eq_append_getElem (by rw [cellOf_len]; exact hj)]
  simp [cellOf]

/-- What the loop over the bits knows, behind k of them. -/
def WRel (w : World) (bs : List Bool) (v i : Value) (wr : World) : Prop :=
  ∃ k : Nat, k ≤ bs.length ∧ i = .int .i64 k ∧ wr.ownsRow w.heap.size 4 1 v (20 * k) ((waveOf (bs.take k)).map Value.bool) ∧ Below w.heap.size w wr
/-- What the loop over the ticks of a bit knows, behind j of them. -/
def TRel (w : World) (bs : List Bool) (k : Nat) (b : Bool) (v i : Value) (wr : World) : Prop :=
  ∃ j : Nat, j ≤ 20 ∧ i = .int .i64 j ∧ wr.ownsRow w.heap.size 4 1 v (20 * k + j) ((waveOf (bs.take k) ++ (cellOf b).take j).map Value.bool) ∧ Below w.heap.size w wr

theorem trel_start {w wr : World} {bs : List Bool} {k : Nat} {b : Bool} {v : Value} (h : wr.ownsRow w.heap.size 4 1 v (20 * k) ((waveOf (bs.take k)).map Value.bool)) (hb : Below w.heap.size w wr) :
    TRel w bs k b v (.int .i64 0) wr := ⟨0, by omega, rfl, by simpa using h, hb⟩
theorem trel_step {w wr w1 : World} {bs : List Bool} {k j : Nat} {b : Bool} {v : Value} (hj : j < 20)
    (h : w1.ownsRow w.heap.size 4 1 v (20 * k + j + 1) ((waveOf (bs.take k) ++ (cellOf b).take j).map Value.bool ++ [Value.bool (lvl b (j : Int))])) (hb : Below w.heap.size w wr) (hb1 : Below w.heap.size wr w1) :
    TRel w bs k b v (.int .i64 ((j : Int) + 1)) w1 :=
  ⟨j + 1, by omega, by push_cast; rfl, by rw [cellOf_snoc b j hj, ← List.append_assoc, List.map_append (l₁ := waveOf _ ++ _)]; exact h, hb.trans hb1⟩
theorem trel_end {w wr : World} {bs : List Bool} {k : Nat} {v : Value} (hk : k < bs.length)
    (h : wr.ownsRow w.heap.size 4 1 v (20 * k + 20) ((waveOf (bs.take k) ++ (cellOf bs[k]).take 20).map Value.bool)) (hb : Below w.heap.size w wr) :
    WRel w bs v (.int .i64 ((k : Int) + 1)) wr :=
  ⟨k + 1, by omega, by push_cast; rfl, by rw [waveOf_snoc bs k hk]; rw [List.take_of_length_le (l := cellOf bs[k]) (by rw [cellOf_len]; omega)] at h; exact h, hb⟩

set_option maxHeartbeats 400000 in
theorem wave_any (A : Option Addr) (n c : Nat) (bs : List Bool) (w : World) (h : Lst w A n (bs.map Value.bool)) (hn : n ≤ 4000) :
    Calls Try.prog 20 #[.slice A n c] w fun e w' =>
      ∃ v, e = .returned v ∧ w'.ownsRow w.heap.size 4 1 v (20 * n) ((waveOf bs).map Value.bool) ∧ Below w.heap.size w w' := by
  obtain ⟨i0, hi, hz0, hz1, hz2⟩ := info_parts info_bool
  have hbl : bs.length = n := by have := h.1; simpa using this
  have HBL := Lib.hid hbl
  clear hbl
  go_enter Try.func20, Try.ntmps20
  go_wp2_with (at_make; refine wpList_make_own _ rfl _ _ 31 rfl w.heap.size 4 i0 (.bool false) 1 Try.underlying31 hi hz0 hz1 _ _ _ (n * 20) rfl rfl (by omega) (by rw [hz2]; omega) (by unfold maxLen; omega) (Nat.le_refl _) ?_; intro w0 hown0 hgrow0)
  go_loopw [3, 13] (fun v i wr => WRel w bs v i wr) (fun _ i _ => n - (intOf i).toNat)
  case atStart => exact ⟨0, by omega, rfl, by simpa [waveOf] using hown0, (Below.refl _ _).grown hgrow0 (Nat.le_refl _) (fun k h => by cases h)⟩
  case round =>
    obtain ⟨k, hk, rfl, hown, hbel⟩ := hrel
    rw [HBL.out] at hk
    by_cases hlt : k < n
    · have hkb : k < bs.length := by rw [HBL.out]; exact hlt
      obtain ⟨b, off, rfl, hbs, hcell⟩ := (h.kept hbel).get hlt
      rw [List.getElem_map] at hcell
      generalize hbit : bs[k] = bit at hcell
      have HBIT := Lib.hid hbit
      clear hbit
      obtain ⟨wo, rfl⟩ : ∃ wo : World, wo = wr := ⟨_, rfl⟩
      go_wp2
      go_loopw [3, 17] (fun v i wr => TRel w bs k bit v i wr) (fun _ i _ => 20 - (intOf i).toNat)
      case atStart => exact trel_start hown hbel
      case round =>
        obtain ⟨j, hj, rfl, hown1, hbel1⟩ := hrel
        by_cases hj2 : j < 20
        · go_wp2_with (first
            | (go_at_call 13; refine (level_any _ _ _).mono ?_; rintro e w' ⟨rfl, rfl⟩)
            | (at_builtin; refine push1 _ rfl (.tmp 20) (.tmp 24) 31 rfl w.heap.size 4 i0 (.bool false) 1 Try.underlying31 hi hz0 hz1 hz2 rfl _ _ _ rfl hown1 (.bool (lvl bit (j : Int))) _ rfl rfl (by unfold maxLen; omega) (by omega) hbel1.size ?_; intro v2 w2 hown2 hbel2))
          go_roundw
          case rel => exact trel_step hj2 hown2 hbel1 hbel2
          case measure => simp [intOf]; omega
        · obtain rfl : j = 20 := by omega
          go_wp2
          go_roundw
          case rel => exact trel_end hkb (by rw [HBIT.out]; exact hown1) hbel1
          case measure => simp [intOf]; omega
    · obtain rfl : k = n := by omega
      go_wp2
      go_ret
      refine ⟨_, rfl, ?_, hbel⟩
      rw [List.take_of_length_le (by rw [HBL.out]; omega)] at hown
      exact hown
end Go.Proofs.Ytoafjbdfdamlfaa.Ly1
