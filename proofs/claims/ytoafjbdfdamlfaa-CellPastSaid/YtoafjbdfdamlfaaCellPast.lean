/- Moved by six ticks back, or five ahead, nothing that is waved is read: for every list of bits and both ways; no condition. -/
import Derived.Test.YtoafjbdfdamlfaaCellO
import Derived.Test.YtoafjbdfdamlfaaArgs
import Derived.Test.YtoafjbdfdamlfaaRows
import Derived.WalkKit
import Derived.ProofKit
import Derived.OpenShut
import Derived.ShutString
import Derived.ChangeOld
import Derived.Below
namespace Go.Proofs.Ytoafjbdfdamlfaa.lawCellPast
open Go.ChangeShapes Go.WideShapes Go.ChangeAt Go.RowKit Base
open Go.ChangeMaps (open_string shut_string)
set_option linter.unusedVariables false
set_option linter.unusedSimpArgs false
theorem own : ownKnob Try.prog.godebug = none := by kernel_rfl
theorem laidOut : laidOutB Try.prog = true := by kernel_rfl
open Ly1

theorem lvl0 (b : Bool) : lvl b 0 = b := lvl_lo (by omega) (by omega)
/-- The level that a wave has at its cell k, tick j. -/
theorem wave_get (bs : List Bool) : ∀ (k j : Nat) (hk : k < bs.length), j < 20 → (waveOf bs)[20 * k + j]? = some (lvl bs[k] (j : Int)) := by
  induction bs with
  | nil => intro k j hk; simp at hk
  | cons b r ih =>
    intro k j hk hj
    have e : waveOf (b :: r) = cellOf b ++ waveOf r := rfl
    rw [e]
    cases k with
    | zero =>
      rw [List.getElem?_append_left (by rw [cellOf_len]; omega)]
      simp [cellOf, hj]
    | succ k =>
      rw [List.getElem?_append_right (by rw [cellOf_len]; omega), cellOf_len, show 20 * (k + 1) + j - 20 = 20 * k + j by omega]
      simpa using ih k j (by simpa using hk) hj

/-- Moved by six ticks back the first cell is looked at ahead of the wave. -/
theorem back_none (bs : List Bool) (h : 0 < bs.length) : readTo (waveOf bs) (-6) ((waveOf bs).length / 20) = none := by
  refine readTo_none (k := 0) ?_ _ ?_
  · unfold bitAt stand
    rw [if_pos (by omega)]
  · rw [waveOf_len]; omega
/-- Moved by five ticks ahead the last cell's second look is behind the wave. -/
theorem ahead_none (bs : List Bool) (h : 0 < bs.length) : readTo (waveOf bs) 5 ((waveOf bs).length / 20) = none := by
  refine readTo_none (k := bs.length - 1) ?_ _ ?_
  · have e : stand (waveOf bs) (20 * ((bs.length - 1 : Nat) : Int) + 15) 5 = none := by
      unfold stand
      rw [if_pos (by rw [waveOf_len]; right; omega)]
    unfold bitAt
    rw [e]
    cases stand (waveOf bs) (20 * ((bs.length - 1 : Nat) : Int) + 5) 5 <;> rfl
  · rw [waveOf_len]; omega

theorem walk (A : Option Addr) (n c : Nat) (bs : List Bool) (ahead : Bool) (w : World) (h : Lst w A n (bs.map Value.bool)) (hnc : n ≤ c) (hcm : c ≤ maxLen) :
    Calls Try.prog 6 #[.slice A n c, .bool ahead] w fun e w' => e = .returned (.bool true) ∧ Below w.heap.size w w' := by
  have hm := hcm
  unfold maxLen at hm
  have hlen : bs.length = n := by simpa using h.1
  by_cases h200 : 200 < n
  · go_enter Try.func6, Try.ntmps6
    go_wp2_with (go_at_call 17; refine (one_any _).mono ?_; rintro e w1 ⟨rfl, hb1⟩)
    go_ret
    exact ⟨rfl, hb1⟩
  · by_cases h0 : n = 0
    · subst h0
      go_enter Try.func6, Try.ntmps6
      go_wp2_with (go_at_call 17; refine (one_any _).mono ?_; rintro e w1 ⟨rfl, hb1⟩)
      go_ret
      exact ⟨rfl, hb1⟩
    · have hbk := Lib.hid (back_none bs (by omega))
      have hah := Lib.hid (ahead_none bs (by omega))
      have HL := Lib.hid hlen
      clear hlen
      have hd1 : decide ((200 : Int) < (n : Int)) = false := by simp; omega
      have hd2 : ((n : Int) == 0) = false := by simp; omega
      cases ahead
      · go_enter Try.func6, Try.ntmps6
        go_wp2_with fail
        refine (wave_any A n c bs _ h (by omega)).mono ?_
        rintro e w1 ⟨v, rfl, hown, hb1⟩
        obtain ⟨A1, c1, rfl, hc1, hc2, hl1⟩ := Lst.of_own hown
        clear hown
        go_wp2_with fail
        refine (read_any A1 (20 * n) c1 (waveOf bs) (-6) w1 hl1 (by omega) (by omega) (by omega)).mono ?_
        rintro e w2 ⟨hb2, ⟨_, rfl⟩ | ⟨xs, v, hx, rfl, _⟩⟩
        · go_wp2_with (go_at_call 17; refine (one_any _).mono ?_; rintro e w3 ⟨rfl, hb3⟩)
          go_ret
          exact ⟨rfl, (hb1.trans (hb2.mono hb1.size)).trans (hb3.mono (hb1.trans (hb2.mono hb1.size)).size)⟩
        · rw [hbk.out] at hx; cases hx
      · go_enter Try.func6, Try.ntmps6
        go_wp2_with fail
        refine (wave_any A n c bs _ h (by omega)).mono ?_
        rintro e w1 ⟨v, rfl, hown, hb1⟩
        obtain ⟨A1, c1, rfl, hc1, hc2, hl1⟩ := Lst.of_own hown
        clear hown
        go_wp2_with fail
        refine (read_any A1 (20 * n) c1 (waveOf bs) 5 w1 hl1 (by omega) (by omega) (by omega)).mono ?_
        rintro e w2 ⟨hb2, ⟨_, rfl⟩ | ⟨xs, v, hx, rfl, _⟩⟩
        · go_wp2_with (go_at_call 17; refine (one_any _).mono ?_; rintro e w3 ⟨rfl, hb3⟩)
          go_ret
          exact ⟨rfl, (hb1.trans (hb2.mono hb1.size)).trans (hb3.mono (hb1.trans (hb2.mono hb1.size)).size)⟩
        · rw [hah.out] at hx; cases hx

set_option maxRecDepth 100000 in
theorem lifted (os : Os) (started : os.Started) (H : Type) (enc : TypeId × Value → H) :
    ReturnsInHanded {} Try.checked os 6 .any (Rows.cellPastSpec.pre6 enc Try.prog Try.f6 Rows.cellPastRow.domain false) (Rows.cellPastSpec.post enc Try.prog Try.f6 false true false false) := by
  refine returnsInHanded_of_change (C := Try.checked) own started (by kernel_rfl) Try.func6
    (ChangeSpec.witness6 (enc := enc) (C := Try.checked) false ⟨#[], #[.slice none 0 0, .bool false], []⟩ 8 (by kernel_rfl) (by kernel_rfl) (by kernel_rfl) (by kernel_rfl)) ?_
  intro W base args ds gs before hval0 hW hcnd _
  have hval : ∀ (j : Nat) t v, Try.f6.params[j]? = some t → args[j]? = some v → Value.okWide Try.prog W .any base t v := hval0
  have hW' := hW
  obtain ⟨p, q, hA0, hV, rfl, hfz, hnd⟩ := hW
  have hA : DataW.TrodAll enc Try.prog W 0 (fun _ => true) true Try.f6.params.toList args.toList ds p := hA0
  rw [Try.params6] at hA hval
  obtain ⟨v0, vs0, d0, ds0, p0, q0, hargs, rfl, rfl, h0, r0⟩ := trodAll_cons hA
  obtain ⟨v1, vs1, d1, ds1, p1, q1, rfl, rfl, rfl, h1, r1⟩ := trodAll_cons r0
  obtain ⟨rfl, rfl, rfl⟩ := trodAll_nil r1
  obtain rfl : args = #[v0, v1] := by cases args; simp_all
  obtain ⟨rfl, rfl⟩ := trodVars_none hV
  have k0 := h0
  have lt0 : ∀ x ∈ p0, x.block < W.heap.size := by obtain ⟨m, hm⟩ := k0; exact DataW.trod_lt m _ _ _ hm
  obtain ⟨bitsA, bitsn, bitsc, rfl⟩ := okWide_slice Try.underlying31 (hval 0 31 v0 rfl rfl)
  obtain ⟨bits, l0, cb0, cc0⟩ := lst_bools Try.underlying31 Try.underlying4 (by kernel_rfl) k0
  obtain ⟨ahead, rfl, rfl, rfl⟩ := open_bool Try.underlying4 (hval 1 4 v1 rfl rfl) h1
  clear hA0 hval0
  refine (walk bitsA bitsn bitsc bits ahead W l0 cb0 cc0).mono fun e W' ⟨he, bel⟩ => ?_
  subst he
  exact ⟨_, rfl, _, _, _, [], _, [], hW', trodAll_mk1 (shut_bool Try.underlying4 _), (trodAll_cons_mk (Below.trod laidOut (by kernel_rfl) (of_decide_eq_true (by kernel_rfl)) k0 bel lt0) (trodAll_cons_mk (shut_bool Try.underlying4 ahead) trodAll_mk0)), rfl, bel.frame _, fun h => by cases h⟩

theorem over : Rows.cellPastRow.holds Try.pinned (OpenSpec.ofChange Rows.cellPastSpec) :=
  OpenClaim.holds_of_wide 6 Try.f6 rfl rfl rfl rfl rfl rfl rfl ⟨rfl, rfl, rfl, rfl, rfl⟩ rfl rfl rfl rfl rfl (by kernel_rfl) Try.func6 (by kernel_rfl)
    (of_decide_eq_true (by kernel_rfl)) (by unfold Func.isWrapper; first | (rw [if_pos (by decide +kernel)]; kernel_rfl) | (rw [if_neg (by decide +kernel)]; exact ⟨rfl, rfl⟩))
    (fun os started H enc _ => lifted os started H enc)

/-- The statement. -/
theorem proved : Rows.CellPastSaid := over
end Go.Proofs.Ytoafjbdfdamlfaa.lawCellPast
