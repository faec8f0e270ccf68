/- The contract of package major's Message, of any shift of up to eight words; no condition. -/
import Derived.RegionTactic
import Derived.Test.YtnbcegijncdmaaaDoorMajB
import Derived.Test.YtnbcegijncdmaaaDoorShgD
import Derived.Test.YtnbcegijncdmaaaDoorWrdD
import Derived.Test.YtnbcegijncdmaaaDoorPush
namespace Go.Proofs.YtnbcegijncdmaaaDoor.Ly16
open Go.ChangeShapes Go.WideShapes Go.ChangeAt Go.RowKit Base Ly3 Ly2 Ly15
set_option linter.unusedVariables false
set_option linter.unusedSimpArgs false

/-- The bit that most lines say, and whether they do. -/
def bN (f : Nat → Bool) (m : Nat) : Bool := bitB (lineF f 0 m).1 (lineF f 1 m).1 (lineF f 2 m).1 (lineF f 3 m).1 (lineF f 0 m).2 (lineF f 1 m).2 (lineF f 2 m).2 (lineF f 3 m).2
def oN (f : Nat → Bool) (m : Nat) : Bool := okB (lineF f 0 m).1 (lineF f 1 m).1 (lineF f 2 m).1 (lineF f 3 m).1 (lineF f 0 m).2 (lineF f 1 m).2 (lineF f 2 m).2 (lineF f 3 m).2
def bsM (f : Nat → Bool) (k : Nat) : List Bool := (List.range k).map (bN f)
theorem bsM_len (f : Nat → Bool) (k : Nat) : (bsM f k).length = k := by simp [bsM]
theorem bsM_snoc (f : Nat → Bool) (k : Nat) : bsM f (k + 1) = bsM f k ++ [bN f k] := by simp [bsM, List.range_succ]
/-- What Message comes to. -/
def MsgPost (w : World) (f : Nat → Bool) (n : Nat) (e : Ending) (w' : World) : Prop :=
  Below w.heap.size w w' ∧
  (((n = 0 ∨ ∃ m, m < 8 * n ∧ oN f m = false) ∧ e = .returned (.tuple #[.slice none 0 0, .bool false])) ∨
   ((0 < n ∧ ∀ m, m < 8 * n → oN f m = true) ∧ ∃ g, e = .returned (.tuple #[.slice (some ⟨g, 0, none⟩) n n, .bool true]) ∧ w.heap.size ≤ g ∧ Obj1 w' g 5 ((wordsOf (bsM f (8 * n)) n).map fun (x : Nat) => Value.int .u8 x).toArray))
def MR (w : World) (f : Nat → Bool) (z : Nat) (v i : Value) (wx : World) : Prop :=
  ∃ k : Nat, k ≤ z ∧ i = .int .i64 k ∧ Hid (∀ m, m < k → oN f m = true) ∧ wx.ownsRow w.heap.size 4 1 v k ((bsM f k).map Value.bool) ∧ Below w.heap.size w wx
set_option maxRecDepth 100000 in
set_option maxHeartbeats 3000000 in
theorem msg_any {b n : Nat} {f : Nat → Bool} {w : World} (h : ShF w b true n f) (hn : n ≤ 8) : Calls Tryd.prog 32 #[.pointer (some ⟨b, 0, none⟩)] w fun e w' => MsgPost w f n e w' := by
  obtain ⟨i0, hi, hz0, hz1, hz2⟩ := info_parts info_bool
  have H := Lib.hid h
  have HBI := Lib.hid (sbits_gen h hn)
  have hz64 : 8 * n ≤ 64 := by omega
  obtain ⟨z, HZ⟩ : ∃ z, Hid (8 * n = z) := ⟨_, Lib.hid rfl⟩
  rw [HZ.out] at HBI hz64
  have O0 : Hid (w.ownsRow w.heap.size 4 1 (.slice none 0 0) 0 []) := Lib.hid ⟨rfl, .inl ⟨rfl, rfl⟩⟩
  clear h
  go_enter Tryd.func32, Tryd.ntmps32
  go_wp2_with fail
  refine HBI.out.mono ?_
  rintro e w' ⟨rfl, rfl⟩
  go_wp2_with fail
  go_loopw [4, 10] (fun v i wx => MR w f z v i wx) (fun _ i _ => z - (intOf i).toNat)
  case atStart => exact ⟨0, by omega, rfl, Lib.hid (fun m hm => by omega), by simpa [bsM] using O0.out, Below.refl _ _⟩
  case round =>
    obtain ⟨k, hk, rfl, HOK, hown, hbel⟩ := hrel
    have HOWN := Lib.hid hown
    have HBEL := Lib.hid hbel
    by_cases hlt : k < z
    · have hki : (k : Int) < (z : Int) := by omega
      obtain ⟨⟨p0, q0⟩, e0⟩ : ∃ pq, lineF f 0 k = pq := ⟨_, rfl⟩
      obtain ⟨⟨p1, q1⟩, e1⟩ : ∃ pq, lineF f 1 k = pq := ⟨_, rfl⟩
      obtain ⟨⟨p2, q2⟩, e2⟩ : ∃ pq, lineF f 2 k = pq := ⟨_, rfl⟩
      obtain ⟨⟨p3, q3⟩, e3⟩ : ∃ pq, lineF f 3 k = pq := ⟨_, rfl⟩
      have HSAY := Lib.hid (says_gen p0 p1 p2 p3 q0 q1 q2 q3 e0 e1 e2 e3 (H.out.kept hbel) hn (show k < 8 * n by rw [HZ.out]; exact hlt))
      have HBE : Hid (bitB p0 p1 p2 p3 q0 q1 q2 q3 = bN f k ∧ okB p0 p1 p2 p3 q0 q1 q2 q3 = oN f k) := Lib.hid (by unfold bN oN; rw [e0, e1, e2, e3]; exact ⟨rfl, rfl⟩)
      have HOF := Lib.hid (fun W => of_any p0 p1 p2 p3 q0 q1 q2 q3 W)
      rw [HBE.out.1, HBE.out.2] at HOF
      have HSN := Lib.hid (bsM_snoc f k)
      obtain ⟨bv, hbv⟩ : ∃ bv, bN f k = bv := ⟨_, rfl⟩
      obtain ⟨ov, hov⟩ : ∃ ov, oN f k = ov := ⟨_, rfl⟩
      rw [hbv] at HOF HSN
      rw [hov] at HOF
      have HOV := Lib.hid hov
      clear e0 e1 e2 e3 HBE hown hbel hbv hov
      go_wp2_with fail
      refine HSAY.out.mono ?_
      rintro e wa ⟨rfl, HBA⟩
      go_wp2_with fail
      refine (HOF.out _).mono ?_
      rintro e wb ⟨rfl, hbb⟩
      have HAB := Lib.hid (HBA.out.trans (hbb.mono HBA.out.size))
      have HOB := Lib.hid (own_below HOWN.out (HAB.out.mono (Nat.le_refl _)))
      have HBW := Lib.hid (HBEL.out.trans (HAB.out.mono HBEL.out.size))
      clear hbb HBA HAB HSAY HOF
      cases ov
      · go_wp2
        go_ret2
        exact ⟨HBW.out, .inl ⟨.inr ⟨k, by rw [HZ.out]; exact hlt, HOV.out⟩, rfl⟩⟩
      · go_wp2_with (at_builtin; refine push1 _ rfl (.tmp 24) (.tmp 26) 27 rfl w.heap.size 4 i0 (.bool false) 1 Tryd.underlying27 hi hz0 hz1 hz2 rfl _ _ _ rfl HOB.out (.bool bv) _ rfl rfl (by unfold maxLen; omega) (by omega) HBW.out.size ?_; intro v2 w2 hown2 hbel2)
        go_roundw
        case rel => exact ⟨k + 1, by omega, by go_num, Lib.hid (fun m hm => by
          by_cases e : m = k
          · rw [e]; exact HOV.out
          · exact HOK.out m (by omega)), by rw [HSN.out, List.map_append]; exact hown2, HBW.out.trans hbel2⟩
        case measure => simp [intOf]; omega
    · obtain rfl : k = z := by omega
      obtain ⟨D, dc, rfl, hdc, hdm, hlD⟩ := Lst.of_own hown
      have HLD := Lib.hid hlD
      clear hown hbel hlD
      by_cases h0 : n = 0
      · have hz0' : k = 0 := by rw [← HZ.out, h0]
        subst hz0'
        go_wp2
        go_ret2
        exact ⟨HBEL.out, .inl ⟨.inl h0, rfl⟩⟩
      · have hkn : ((k : Nat) : Int) ≠ 0 := by rw [← HZ.out]; omega
        have hkb : ((k : Int) == 0) = false := by simpa using hkn
        have HWD := Lib.hid (words_any D n dc (bsM f k) wr (by rw [HZ.out]; exact HLD.out) (by omega))
        rw [HZ.out] at HWD
        clear hkn
        go_wp2_with fail
        refine HWD.out.mono ?_
        rintro e wd ⟨rfl, HOBJ, hbd⟩
        have HG := Lib.hid HBEL.out.size
        have HBD := Lib.hid (HBEL.out.trans (hbd.mono HBEL.out.size))
        clear hbd
        go_wp2
        go_ret2
        exact ⟨HBD.out, .inr ⟨⟨by omega, fun m hm => HOK.out m (by rw [HZ.out] at hm; exact hm)⟩, _, rfl, HG.out, by rw [HZ.out]; exact HOBJ.out⟩⟩
end Go.Proofs.YtnbcegijncdmaaaDoor.Ly16
