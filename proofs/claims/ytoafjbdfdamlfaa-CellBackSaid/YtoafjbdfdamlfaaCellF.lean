/- The contract of the document's own Read: the bits of the levels that are handed in, looked at where they should be, moved by some ticks; or none. -/
import Derived.Test.YtoafjbdfdamlfaaCellR
import Derived.Test.YtoafjbdfdamlfaaKin
namespace Go.Proofs.Ytoafjbdfdamlfaa.Ly1
open Go.ChangeShapes Go.WideShapes Go.ChangeAt Go.RowKit Base
set_option linter.unusedVariables false
set_option linter.unusedSimpArgs false

theorem stand_out {l : List Bool} {t m : Int} (h : m < -t ∨ (l.length : Int) - t ≤ m) : stand l t m = none := by unfold stand; rw [if_pos h]
theorem stand_in {l : List Bool} {t m : Int} {p : Nat} (h : t + m = p) (hp : p < l.length) : stand l t m = some l[p] := by
  unfold stand; rw [if_neg (by omega), h, Int.toNat_natCast, List.getElem?_eq_getElem hp]

theorem ReadPost.no {w : World} {l : List Bool} {m : Int} {e : Ending} {w' : World} (h : ReadPost w l m e w') (hx : readTo l m (l.length / 20) = none) :
    Below w.heap.size w w' ∧ e = .returned (.tuple #[.slice none 0 0, .bool false]) := by
  obtain ⟨hb, ⟨_, he⟩ | ⟨xs, v, hx', _⟩⟩ := h
  · exact ⟨hb, he⟩
  · rw [hx] at hx'; cases hx'
theorem ReadPost.yes {w : World} {l : List Bool} {m : Int} {e : Ending} {w' : World} (h : ReadPost w l m e w') {xs : List Bool} (hx : readTo l m (l.length / 20) = some xs) :
    Below w.heap.size w w' ∧ ∃ A c, e = .returned (.tuple #[.slice A (l.length / 20) c, .bool true]) ∧ Lst w' A (l.length / 20) (xs.map Value.bool) := by
  obtain ⟨hb, ⟨hx', _⟩ | ⟨ys, v, hx', he, ho⟩⟩ := h
  · rw [hx] at hx'; cases hx'
  · rw [hx] at hx'
    injection hx' with hx'
    subst hx'
    obtain ⟨A, c, rfl, _, _, hl⟩ := Lst.of_own ho
    exact ⟨hb, A, c, he, hl⟩
theorem below_drewN {B : Nat} {a w : World} (h : Below B a w) (n : Nat) : Below B a (w.drewN n) := ⟨h.os, h.tape, h.output, h.size, h.block⟩
theorem ownsRow_drewN {w : World} {base : Nat} {e : TypeId} {size : Nat} {v : Value} {n : Nat} {xs : List Value} (h : w.ownsRow base e size v n xs) (k : Nat) : (w.drewN k).ownsRow base e size v n xs := h

set_option maxHeartbeats 1000000 in
theorem rread_any (A : Option Addr) (n c : Nat) (l : List Bool) (m : Int) (w : World) (hl : Lst w A n (l.map Value.bool)) (hn : n ≤ 100000)
    (hm : -9223372036854775808 ≤ m) (hm2 : m ≤ 9223372036854775807) :
    Calls Try.prog 19 #[.slice A n c, .int .i64 m] w (ReadPost w l m) := by
  obtain ⟨i0, hi, hz0, hz1, hz2⟩ := info_parts info_bool
  have hlen : l.length = n := by simpa using hl.1
  obtain ⟨K, HK⟩ : ∃ K : Nat, Hid (n / 20 = K) := ⟨n / 20, rfl⟩
  have hK : ((n : Int) / 20) = (K : Int) := by have := HK.out; omega
  have hK2 : K ≤ 5000 := by have := HK.out; omega
  have hKn : 20 * K ≤ n := by have := HK.out; omega
  have HKI := Lib.hid hK
  clear hK
  have HLEN := Lib.hid hlen
  clear hlen
  go_enter Try.func19, Try.ntmps19
  go_wp2
  go_loopw [6, 7] (fun v i wr => RRel w l m K v i wr) (fun _ i _ => K - (intOf i).toNat)
  case atStart => exact ⟨0, [], by omega, rfl, rfl, World.ownsRow_nil _ _ _ _, Below.refl _ _⟩
  case round =>
    obtain ⟨k, xs, hk, rfl, hx, hown, hbel⟩ := hrel
    have HX := Lib.hid hx
    clear hx
    have hl1 := hl.kept hbel
    by_cases hlt : k < K
    · have hfin : bitAt l m k = none → readTo l m (l.length / 20) = none := fun h => readTo_none h _ (by rw [HLEN.out, HK.out]; exact hlt)
      have HF := Lib.hid hfin
      clear hfin
      have t1 : (k : Int) < (n : Int) / 20 := by have := HKI.out; omega
      by_cases c1 : m < -5 - 20 * (k : Int)
      · have HN : Hid (bitAt l m k = none) := bit_no1 (stand_out (.inl (by omega)))
        go_wp2
        go_ret2
        exact ⟨hbel, .inl ⟨HF.out HN.out, rfl⟩⟩
      · by_cases c2 : (n : Int) - 20 * (k : Int) < m
        · have HN : Hid (bitAt l m k = none) := bit_no1 (stand_out (.inr (by rw [HLEN.out]; omega)))
          go_wp2
          go_ret2
          exact ⟨hbel, .inl ⟨HF.out HN.out, rfl⟩⟩
        · obtain ⟨p, HP⟩ : ∃ p : Nat, 20 * (k : Int) + 5 + m = (p : Int) := ⟨(20 * (k : Int) + 5 + m).toNat, by omega⟩
          have g1 : decide ((p : Int) < 0) = false := by simp
          by_cases c3 : (n : Int) ≤ (p : Int) + 10
          · have HN : Hid (bitAt l m k = none) := bit_no2 (stand_out (.inr (by rw [HLEN.out]; omega)))
            go_wp2
            refine wp_region_quiet_lit (by kernel_rfl) (by kernel_rfl) ?_
            repeat (go_big_quiet_step (fail))
            refine wpQuiet_nil ?_
            intro _ hw'
            obtain ⟨nq, hw''⟩ := hw'
            subst hw''
            go_wp2
            go_ret2
            exact ⟨⟨hbel.os, hbel.tape, hbel.output, hbel.size, hbel.block⟩, .inl ⟨HF.out HN.out, rfl⟩⟩
          · obtain ⟨b, off, rfl, hbs, h1⟩ := hl1.get (k := p) (by omega)
            obtain ⟨b', off', e', _, h2⟩ := hl1.get (k := p + 10) (by omega)
            cases e'
            rw [List.getElem_map] at h1 h2
            generalize hx1 : l[p]'(by rw [HLEN.out]; omega) = x1 at h1
            generalize hx2 : l[p + 10]'(by rw [HLEN.out]; omega) = x2 at h2
            have S1 : Hid (stand l (20 * (k : Int) + 5) m = some x1) := by rw [← hx1]; exact stand_in HP (by rw [HLEN.out]; omega)
            have S2 : Hid (stand l (20 * (k : Int) + 15) m = some x2) := by rw [← hx2]; exact stand_in (p := p + 10) (by omega) (by rw [HLEN.out]; omega)
            clear hx1 hx2
            have q1 : (0 : Int) ≤ (p : Int) := by omega
            have q2 : (p : Int) < (n : Int) := by omega
            have q3 : (p : Int) + 10 < (n : Int) := by omega
            have q4 : ((p : Int) + 10).toNat = p + 10 := by omega
            have g2 : decide ((n : Int) ≤ (p : Int) + 10) = false := by simpa using c3
            clear hl1
            cases x1 <;> cases x2
            case false.false =>
              go_wp2
              refine wp_region_quiet_lit (by kernel_rfl) (by kernel_rfl) ?_
              repeat (go_big_quiet_step (fail))
              refine wpQuiet_nil ?_
              intro _ hw'
              obtain ⟨nq, hw''⟩ := hw'
              subst hw''
              go_wp2
              go_ret2
              exact ⟨⟨hbel.os, hbel.tape, hbel.output, hbel.size, hbel.block⟩, .inl ⟨HF.out (bit_no3 S1.out S2.out), rfl⟩⟩
            case true.true =>
              go_wp2
              refine wp_region_quiet_lit (by kernel_rfl) (by kernel_rfl) ?_
              repeat (go_big_quiet_step (fail))
              refine wpQuiet_nil ?_
              intro _ hw'
              obtain ⟨nq, hw''⟩ := hw'
              subst hw''
              go_wp2
              go_ret2
              exact ⟨⟨hbel.os, hbel.tape, hbel.output, hbel.size, hbel.block⟩, .inl ⟨HF.out (bit_no3 S1.out S2.out), rfl⟩⟩
            case false.true =>
              go_wp2
              refine wp_region_quiet_lit (by kernel_rfl) (by kernel_rfl) ?_
              repeat (go_big_quiet_step (fail))
              refine wpQuiet_nil ?_
              intro _ hw'
              obtain ⟨nq, hw''⟩ := hw'
              subst hw''
              go_wp2_with (at_builtin; refine push1 _ rfl (.tmp 56) (.tmp 61) 31 rfl w.heap.size 4 i0 (.bool false) 1 Try.underlying31 hi hz0 hz1 hz2 rfl _ _ _ rfl (ownsRow_drewN hown nq) (.bool false) _ rfl rfl (by unfold maxLen; omega) (by omega) (by simpa using hbel.size) ?_; intro v2 w2 hown2 hbel2)
              go_roundw
              case rel => exact rrel_step hlt HX.out (bit_yes S1.out S2.out) hown2 hbel ((below_drewN (Below.refl _ _) nq).trans hbel2)
              case measure => simp [intOf]; omega
            case true.false =>
              go_wp2
              refine wp_region_quiet_lit (by kernel_rfl) (by kernel_rfl) ?_
              repeat (go_big_quiet_step (fail))
              refine wpQuiet_nil ?_
              intro _ hw'
              obtain ⟨nq, hw''⟩ := hw'
              subst hw''
              go_wp2_with (at_builtin; refine push1 _ rfl (.tmp 56) (.tmp 61) 31 rfl w.heap.size 4 i0 (.bool false) 1 Try.underlying31 hi hz0 hz1 hz2 rfl _ _ _ rfl (ownsRow_drewN hown nq) (.bool true) _ rfl rfl (by unfold maxLen; omega) (by omega) (by simpa using hbel.size) ?_; intro v2 w2 hown2 hbel2)
              go_roundw
              case rel => exact rrel_step hlt HX.out (bit_yes S1.out S2.out) hown2 hbel ((below_drewN (Below.refl _ _) nq).trans hbel2)
              case measure => simp [intOf]; omega
    · obtain rfl : k = K := by omega
      have t1 : ¬ (k : Int) < (n : Int) / 20 := by have := HKI.out; omega
      go_wp2
      go_ret2
      refine ⟨hbel, .inr ⟨xs, _, ?_, rfl, ?_⟩⟩
      · rw [HLEN.out, HK.out]; exact HX.out
      · rw [HLEN.out, HK.out]; exact hown
end Go.Proofs.Ytoafjbdfdamlfaa.Ly1
