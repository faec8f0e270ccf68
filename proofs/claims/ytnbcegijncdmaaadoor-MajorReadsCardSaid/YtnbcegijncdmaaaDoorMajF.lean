/- The contracts of package major's Better, of a shift that holds no look and one that does, and of one and none; no condition. -/
import Derived.Test.YtnbcegijncdmaaaDoorMajE
namespace Go.Proofs.YtnbcegijncdmaaaDoor.Ly16
open Go.ChangeShapes Go.WideShapes Go.ChangeAt Go.RowKit Base Ly3 Ly2 Ly15
set_option linter.unusedVariables false
set_option linter.unusedSimpArgs false

theorem oN_none (m : Nat) : oN (fun _ => false) m = false := by
  have h : ∀ k, lineF (fun _ => false) k m = (false, false) := fun k => by simp [lineF]
  unfold oN
  rw [h, h, h, h]
  decide
theorem msg_fresh {b n : Nat} {w : World} (h : ShF w b true n (fun _ => false)) (hn : n ≤ 8) : Calls Tryd.prog 32 #[.pointer (some ⟨b, 0, none⟩)] w fun e w' => e = .returned (.tuple #[.slice none 0 0, .bool false]) ∧ Below w.heap.size w w' :=
  (msg_any h hn).mono fun e w' ⟨hb, h⟩ => by
    rcases h with ⟨_, rfl⟩ | ⟨⟨h0, h1⟩, _⟩
    · exact ⟨rfl, hb⟩
    · have := h1 0 (by omega)
      rw [oN_none] at this
      cases this
set_option maxHeartbeats 1000000 in
theorem msg_nil (w : World) : Calls Tryd.prog 32 #[.pointer none] w fun e w' => e = .returned (.tuple #[.slice none 0 0, .bool false]) ∧ w = w' := by
  have HB := Lib.hid (fun W => Ly15.bits_nob (.pointer none) W (.inl rfl))
  go_enter Tryd.func32, Tryd.ntmps32
  go_wp2_with fail
  refine (HB.out _).mono ?_
  rintro e w' ⟨rfl, rfl⟩
  go_wp2_with fail
  refine wp_loop_rounds 1 ?_
  rw [rounds_succ]
  go_wp2
  go_ret2
  exact ⟨rfl, rfl⟩
theorem MsgPost.of {w w1 w2 : World} {f : Nat → Bool} {n : Nat} {e : Ending} (hb : Below w.heap.size w w1) (h : MsgPost w1 f n e w2) : MsgPost w f n e w2 := by
  obtain ⟨h1, h2⟩ := h
  refine ⟨hb.trans (h1.mono hb.size), ?_⟩
  rcases h2 with h2 | ⟨h3, g, he, hg, ho⟩
  · exact .inl h2
  · exact .inr ⟨h3, g, he, Nat.le_trans hb.size hg, ho⟩
set_option maxHeartbeats 1000000 in
theorem better_second {a b n : Nat} {f : Nat → Bool} {w : World} (h0 : ShF w a true n (fun _ => false)) (h : ShF w b true n f) (hn : n ≤ 8) : Calls Tryd.prog 33 #[.pointer (some ⟨a, 0, none⟩), .pointer (some ⟨b, 0, none⟩)] w fun e w' => MsgPost w f n e w' := by
  have H := Lib.hid h
  have HF := Lib.hid (msg_fresh h0 hn)
  clear h h0
  go_enter Tryd.func33, Tryd.ntmps33
  go_wp2_with fail
  refine HF.out.mono ?_
  rintro e w1 ⟨rfl, hb1⟩
  have HB1 := Lib.hid hb1
  have HM := Lib.hid (msg_any (H.out.kept hb1) hn)
  clear hb1
  go_wp2_with fail
  refine HM.out.mono ?_
  intro e w2 hm
  have HP := Lib.hid (MsgPost.of HB1.out hm)
  rcases hm with ⟨_, ⟨_, rfl⟩ | ⟨_, g, rfl, _⟩⟩
  · go_wp2
    go_ret2
    exact HP.out
  · go_wp2
    go_ret2
    exact HP.out
set_option maxHeartbeats 1000000 in
theorem better_first {b n : Nat} {f : Nat → Bool} {w : World} (h : ShF w b true n f) (hn : n ≤ 8) : Calls Tryd.prog 33 #[.pointer (some ⟨b, 0, none⟩), .pointer none] w fun e w' => MsgPost w f n e w' := by
  have HM := Lib.hid (msg_any h hn)
  have HN := Lib.hid (fun W => msg_nil W)
  clear h
  go_enter Tryd.func33, Tryd.ntmps33
  go_wp2_with fail
  refine HM.out.mono ?_
  intro e w2 hm
  have HP := Lib.hid hm
  rcases hm with ⟨_, ⟨hk, rfl⟩ | ⟨_, g, rfl, _⟩⟩
  · go_wp2_with fail
    refine (HN.out _).mono ?_
    rintro e w' ⟨rfl, rfl⟩
    go_wp2
    go_ret2
    exact HP.out
  · go_wp2
    go_ret2
    exact HP.out
end Go.Proofs.YtnbcegijncdmaaaDoor.Ly16
