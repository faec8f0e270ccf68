/- Whatever lines are seen, each line's run, that of all, what rose, what fell, and the longest one, are the document's: for every list of lines; no condition. -/
import Derived.Deep.CutRange
import Derived.Test.YtbhgnhbaimemmaaRunD
import Derived.Test.YtbhgnhbaimemmaaSh
import Derived.Test.YtbhgnhbaimemmaaRows
import Derived.WalkKit
import Derived.ProofKit
import Derived.OpenShut
import Derived.ShutString
import Derived.ChangeOld
import Derived.Below
namespace Go.Proofs.Ytbhgnhbaimemmaa.lawRunsTell
open Go.ChangeShapes Go.WideShapes Go.ChangeAt Go.RowKit Base
open Go.ChangeMaps (open_string shut_string)
set_option linter.unusedVariables false
set_option linter.unusedSimpArgs false
theorem own : ownKnob Try.prog.godebug = none := by kernel_rfl
theorem laidOut : laidOutB Try.prog = true := by kernel_rfl
open Ly6 Ly3

theorem info_int : (Try.prog.info? 3).map (fun i => (i.zero, i.size, i.bytes)) = some (some (.int .i64 0), 1, 8) := by kernel_rfl
theorem ownsRow_wrote {w w' : World} {base b : Nat} {e : TypeId} {size : Nat} {v : Value} {n : Nat} {xs : List Value} (h : w.ownsRow base e size v n xs) (hw : Wrote b w w') (hb : b < base) : w'.ownsRow base e size v n xs := by
  refine h.kept hw ?_
  rcases h.2 with ⟨rfl, _⟩ | ⟨g, cap, cur, rfl, hg, _⟩
  · exact .inl rfl
  · refine .inr ?_
    simp [Value.ownBlock]
    omega
theorem and7 (x : Int) : ∃ p : Nat, p < 8 ∧ Go.bits BinOp.and IntKind.i64 x 7 = (p : Int) := by
  obtain ⟨y, h0, h1, h2⟩ := and_mask x 7 (by decide)
  refine ⟨y.toNat, by omega, ?_⟩
  rw [Int.toNat_of_nonneg h0]
  simpa using h2
theorem own_below' {w w' : World} {base : Nat} {e : TypeId} {size : Nat} {v : Value} {n : Nat} {xs : List Value} (h : w.ownsRow base e size v n xs) (hb : Below w.heap.size w w') : w'.ownsRow base e size v n xs :=
  h.kept (w' := w') (row := none) ⟨hb.os, hb.tape, hb.output, hb.size, fun i hi _ => hb.block i hi⟩ (Classical.em _)

/-- The runs of all lines that were seen. -/
def T (l : List Nat) : Int := t3 (runF 0 l) (runF 1 l) (runF 2 l) (runF 3 l)
theorem T_bd (l : List Nat) : 0 ≤ T l ∧ T l ≤ l.length :=
  t3_bd (runF_bd 0 l).1 (runF_bd 1 l).1 (runF_bd 2 l).1 (runF_bd 3 l).1 (runF_bd 0 l).2 (runF_bd 1 l).2 (runF_bd 2 l).2 (runF_bd 3 l).2
/-- Runs that have seen these lines. -/
def Sn (w : World) (g : Nat) (l : List Nat) (was s : Int) : Prop := Rn w g true (runF 0 l) (runF 1 l) (runF 2 l) (runF 3 l) (T l) was s
theorem see_seen (g : Nat) (l : List Nat) (v : Nat) (l' : List Nat) (was s t t' s' : Int) (hl' : Hid (l ++ [v] = l')) (ht : Hid (T l = t)) (ht' : Hid (T l' = t')) (hs : max s t' = s') (hv : v < 256) (hn : l.length ≤ 1000) (w : World) (h : Sn w g l was s) :
    Calls Try.prog 37 #[.pointer (some ⟨g, 0, none⟩), .int .u8 v] w fun e w' => e = .returned (.tuple #[]) ∧ Hid (Sn w' g l' t s') ∧ Hid (Wrote g w w') := by
  have r0 := runF_bd 0 l
  have r1 := runF_bd 1 l
  have r2 := runF_bd 2 l
  have r3 := runF_bd 3 l
  have e : ∀ k, nx v k (runF k l) = runF k l' := fun k => by rw [← hl'.out, runF_snoc]
  have := see_raw g _ _ _ _ (T l) was s v w h hv r0.1 (by omega) r1.1 (by omega) r2.1 (by omega) r3.1 (by omega) _ _ _ _ t' s' (e 0) (e 1) (e 2) (e 3) ht' hs
  rw [ht.out] at this
  refine this.mono ?_
  rintro e w' ⟨rfl, h1, h2⟩
  refine ⟨rfl, ?_, h2⟩
  show Rn _ _ _ _ _ _ _ _ _ _
  rw [ht'.out]
  exact h1

theorem run_s {g : Nat} {l : List Nat} {was s t : Int} (ht : Hid (T l = t)) (w : World) (h : Sn w g l was s) : Calls Try.prog 39 #[.pointer (some ⟨g, 0, none⟩)] w fun e w' => e = .returned (.int .i64 t) ∧ w = w' := by
  have := run_any g true _ _ _ _ (T l) was s w h
  rwa [ht.out] at this
theorem fell_s {g : Nat} {l : List Nat} {was s t : Int} (ht : Hid (T l = t)) (f : Int) (hf : Hid ((if 0 < t then 0 else was) = f)) (w : World) (h : Sn w g l was s) : Calls Try.prog 41 #[.pointer (some ⟨g, 0, none⟩)] w fun e w' => e = .returned (.int .i64 f) ∧ w = w' :=
  fell_c g true _ _ _ _ (T l) was s f (by rw [ht.out]; exact hf) w h
theorem rose_s {g : Nat} {l : List Nat} {was s t : Int} (ht : Hid (T l = t)) (r : Bool) (hr : Hid (roseB t was = r)) (w : World) (h : Sn w g l was s) : Calls Try.prog 40 #[.pointer (some ⟨g, 0, none⟩)] w fun e w' => e = .returned (.bool r) ∧ Hid (Sn w' g l was s) ∧ Hid (Below w.heap.size w w') := by
  refine (rose_c g true _ _ _ _ (T l) was s r (by rw [ht.out]; exact hr) w h).mono ?_
  rintro e w' ⟨rfl, hb⟩
  exact ⟨rfl, Obj1.kept h hb, hb⟩
theorem of_s {g : Nat} {l : List Nat} {was s : Int} (k R : Int) (hR : Hid (ofF (runF 0 l) (runF 1 l) (runF 2 l) (runF 3 l) k = R)) (w : World) (h : Sn w g l was s) : Calls Try.prog 43 #[.pointer (some ⟨g, 0, none⟩), .int .i64 k] w fun e w' => e = .returned (.int .i64 R) ∧ w = w' := by
  have := of_any g true _ _ _ _ (T l) was s k w h
  rwa [hR.out] at this
theorem since_s {g : Nat} {l : List Nat} {was s : Int} (w : World) (h : Sn w g l was s) : Calls Try.prog 44 #[.pointer (some ⟨g, 0, none⟩)] w fun e w' => e = .returned (.int .i64 s) ∧ Hid (Sn w' g l was 0) ∧ Hid (Wrote g w w') := by
  refine (since_any g true _ _ _ _ (T l) was s w h).mono ?_
  rintro e w' ⟨rfl, h1, h2⟩
  exact ⟨rfl, h1, h2⟩

/-- What the loop knows, behind k lines. -/
def TRel (w : World) (g n : Nat) (xs : List Nat) (was since had i : Value) (wr : World) : Prop :=
  ∃ (k : Nat) (l : List Nat) (w0 s t : Int), k ≤ n ∧ i = .int .i64 k ∧ xs.take k = l ∧ T l = t ∧ was = .int .i64 t ∧ since = .int .i64 s ∧ (0 ≤ s ∧ s ≤ 1000) ∧ Sn wr g l w0 s ∧ wr.ownsRow (g + 1) 3 1 had k (l.map fun (x : Nat) => Value.int .i64 x) ∧ Below w.heap.size w wr

set_option maxRecDepth 100000 in
set_option maxHeartbeats 8000000 in
theorem walk_in (A : Option Addr) (n c : Nat) (xs : List Nat) (ev : Int) (w : World) (hn : n ≤ 120) (ha : Lst w A n (xs.map fun (x : Nat) => Value.int .u8 x)) (hx : ∀ x ∈ xs, x < 256) :
    Calls Try.prog 10 #[.slice A n c, .int .i64 ev] w fun e w' => e = .returned (.bool true) ∧ Below w.heap.size w w' := by
  have hlx : xs.length = n := by simpa using ha.1
  have HLX := Lib.hid hlx
  have HX := Lib.hid hx
  have HA := Lib.hid ha
  obtain ⟨i0, hi, hz0, hz1, hz2⟩ := info_parts info_int
  have HI := Lib.hid hi
  have HZ0 := Lib.hid hz0
  have HZ1 := Lib.hid hz1
  have HZ2 := Lib.hid hz2
  obtain ⟨p, hp, hpe⟩ := and7 ev
  clear ha hx hlx hi hz0 hz1 hz2
  go_enter Try.func10, Try.ntmps10
  go_wp2_with fail
  refine (new_any w).mono ?_
  rintro e w1 ⟨rfl, h1, hb1⟩
  have H1 := Lib.hid h1
  have hlt1 := h1.lt
  clear h1
  obtain ⟨g, HG⟩ : ∃ bx, Hid (w.heap.size = bx) := ⟨_, Lib.hid rfl⟩
  have hgx : Hid (w.heap.size ≤ g) := Lib.hid (by rw [HG.out]; exact Nat.le_refl _)
  rw [HG.out] at H1 hlt1
  rw [HG.out]
  have HG1 : Hid (g + 1 ≤ w1.heap.size) := Lib.hid hlt1
  have HB1 := Lib.hid hb1
  clear hb1 hlt1
  go_wp2_with fail
  go_loopw [6, 7, 8, 9] (fun was since had i wr => TRel w g n xs was since had i wr) (fun _ _ _ i _ => n - (intOf i).toNat)
  case atStart => exact ⟨0, [], 0, 0, 0, by omega, rfl, rfl, rfl, rfl, rfl, by omega, H1.out, World.ownsRow_nil _ _ _ _, HB1.out⟩
  case round =>
    obtain ⟨k, l, w0, s, t, hk, rfl, hl, ht, rfl, rfl, ⟨s0, s1⟩, hr, hown, hbel⟩ := hrel
    have HR := Lib.hid hr
    have HBEL := Lib.hid hbel
    have HOWN := Lib.hid hown
    have htb := T_bd l
    rw [ht] at htb
    have hll : l.length = k := by rw [← hl, List.length_take, HLX.out]; omega
    rw [hll] at htb
    obtain ⟨t0, t1⟩ := htb
    have HL := Lib.hid hl
    have HT := Lib.hid ht
    have HLL := Lib.hid hll
    clear hr hbel hown hl ht hll H1 HB1
    have HSZ : Hid (g + 1 ≤ _) := Lib.hid (Obj1.lt HR.out)
    by_cases hlt : k < n
    · obtain ⟨q, off, rfl, hbs, hg0⟩ := HA.out.get hlt
      rw [List.getElem_map] at hg0
      have hkx : k < xs.length := by rw [HLX.out]; exact hlt
      have hv := HX.out _ (List.getElem_mem hkx)
      obtain ⟨v, HV⟩ : ∃ v, Hid (xs[k]'hkx = v) := ⟨_, Lib.hid rfl⟩
      rw [HV.out] at hg0 hv
      have hl' : l ++ [v] = xs.take (k + 1) := by rw [← HL.out, ← HV.out]; exact (List.take_succ_eq_append_getElem hkx).symm
      obtain ⟨l', HL'⟩ : ∃ l', Hid (l ++ [v] = l') := ⟨_, Lib.hid rfl⟩
      have HTK : Hid (xs.take (k + 1) = l') := Lib.hid (by rw [← hl', HL'.out])
      have HLL' : Hid (l'.length = k + 1) := Lib.hid (by rw [← HL'.out]; simp [HLL.out])
      have HX' : Hid (∀ x ∈ l', x < 256) := Lib.hid (by rw [← HTK.out]; exact fun x hx => HX.out x (List.mem_of_mem_take hx))
      clear hl'
      obtain ⟨t', HT'⟩ : ∃ t', Hid (T l' = t') := ⟨_, Lib.hid rfl⟩
      have htb' := T_bd l'
      rw [HT'.out, HLL'.out] at htb'
      obtain ⟨t0', t1'⟩ := htb'
      obtain ⟨s', hs'⟩ : ∃ s', max s t' = s' := ⟨_, rfl⟩
      have s0' : 0 ≤ s' := by omega
      have s1' : s' ≤ 1000 := by omega
      have HS' := Lib.hid hs'
      clear hs'
      have hc := (HBEL.out.cell (p := ⟨q, off + k, none⟩) hbs).trans hg0
      have HG0 := Lib.hid hg0
      clear hg0
      have v0 : (0 : Int) ≤ (v : Int) := by omega
      have v1 : (v : Int) ≤ 255 := by omega
      go_wp2_with fail
      refine (see_seen g l v l' w0 s t t' s' HL' HT HT' HS'.out hv (by rw [HLL.out]; omega) _ HR.out).mono ?_
      rintro e w2 ⟨rfl, H2, hw2⟩
      have HB2 := Lib.hid (HBEL.out.trans (hw2.out.below hgx.out HBEL.out.size))
      have HOWN2 := Lib.hid (ownsRow_wrote HOWN.out hw2.out (Nat.lt_succ_self g))
      have HSZ2 : Hid (g + 1 ≤ w2.heap.size) := Lib.hid (Obj1.lt H2.out)
      clear hw2 HBEL HR HOWN HSZ hc
      have hc := (HB2.out.cell (p := ⟨q, off + k, none⟩) hbs).trans HG0.out
      go_wp2_with (at_builtin; refine push1 _ rfl (.tmp 35) (.tmp 41) 28 rfl (g + 1) 3 i0 (.int .i64 0) 8 Try.underlying28 HI.out HZ0.out HZ1.out HZ2.out rfl _ _ _ rfl HOWN2.out (.int .i64 v) _ rfl rfl (by unfold maxLen; omega) (by omega) HSZ2.out ?_; intro v2 w3 hown3 hbel3; obtain ⟨A2, c2, rfl, hc2a, hc2b, hl2⟩ := Lst.of_own hown3; clear hc)
      have HOWN3 : Hid (w3.ownsRow (g + 1) 3 1 (.slice A2 (k + 1) c2) (k + 1) (l'.map fun (x : Nat) => Value.int .i64 x)) := Lib.hid (by rw [← HL'.out]; simpa using hown3)
      have HL3 : Hid (Lst w3 A2 (k + 1) (l'.map fun (x : Nat) => Value.int .i64 x)) := Lib.hid (by rw [← HL'.out]; simpa using hl2)
      have HB3 := Lib.hid (HB2.out.trans (hbel3.mono (Nat.le_trans (Nat.le_of_lt_succ (Nat.lt_succ_of_le hgx.out)) (Nat.le_succ g))))
      have H3 : Hid (Sn w3 g l' t s') := Lib.hid (Obj1.below H2.out hbel3 (Nat.lt_succ_self g))
      clear hown3 hbel3 hl2 H2 HB2 HOWN2 HSZ2 hc2a hc2b
      have HRD := Lib.hid (rthird_any A2 (k + 1) c2 l' w3 HL3.out HX'.out (by omega))
      have HRD' : Hid (Calls Try.prog 38 #[.slice A2 (k + 1) c2] w3 fun e w' => e = .returned (.int .i64 t') ∧ w3 = w') := Lib.hid (by have := HRD.out; rwa [show t3 (runF 0 l') (runF 1 l') (runF 2 l') (runF 3 l') = t' from HT'.out] at this)
      clear HRD
      refine HRD'.out.mono ?_
      rintro e w' ⟨rfl, rfl⟩
      have key : ∃ (f : Int) (r : Bool), (t' = 0 ∧ f = t ∧ r = false) ∨ (0 < t' ∧ f = 0 ∧ ((t = 0 ∧ r = true) ∨ (t ≠ 0 ∧ r = false))) := by
        by_cases h0 : t' = 0
        · exact ⟨t, false, .inl ⟨h0, rfl, rfl⟩⟩
        · by_cases h1 : t = 0
          · exact ⟨0, true, .inr ⟨by omega, rfl, .inl ⟨h1, rfl⟩⟩⟩
          · exact ⟨0, false, .inr ⟨by omega, rfl, .inr ⟨h1, rfl⟩⟩⟩
      obtain ⟨f, r, key⟩ := key
      have HF : Hid ((if 0 < t' then 0 else t) = f) := by
        rcases key with ⟨h0, rfl, _⟩ | ⟨h0, rfl, _⟩
        · exact Lib.hid (if_neg (by omega))
        · exact Lib.hid (if_pos h0)
      have HRR : Hid (roseB t' t = r) := by
        rcases key with ⟨h0, _, rfl⟩ | ⟨h0, _, ⟨h1, rfl⟩ | ⟨h1, rfl⟩⟩
        · exact Lib.hid (by simp [roseB, h0])
        · exact Lib.hid (by simp [roseB, h0, h1])
        · exact Lib.hid (by simp [roseB, h1])
      have hse := HS'.out
      rcases key with ⟨rfl, rfl, rfl⟩ | ⟨h0, rfl, ⟨rfl, rfl⟩ | ⟨h1, rfl⟩⟩
      rotate_left 1
      · have e0 : (t' == 0) = false := by simp; omega
        have e1 : decide (0 < t') = true := decide_eq_true h0
        go_wp2_with fail
        refine (run_s HT' _ H3.out).mono ?_
        rintro e w' ⟨rfl, rfl⟩
        go_wp2_with fail
        refine (rose_s HT' _ HRR _ H3.out).mono ?_
        rintro e w4 ⟨rfl, H4, hb4⟩
        have HB4 := Lib.hid (HB3.out.trans (hb4.out.mono HB3.out.size))
        have HOWN4 := Lib.hid (own_below' HOWN3.out hb4.out)
        have HL4 := Lib.hid (HL3.out.kept hb4.out)
        clear H3 HB3 HOWN3 HL3 hb4 HRR HRD'
        go_wp2_with fail
        refine (fell_s HT' _ HF _ H4.out).mono ?_
        rintro e w' ⟨rfl, rfl⟩
        clear HF
        go_wp2_with fail
        go_loop [12] (fun i => i = .int .i64 (-1) ∨ i = .int .i64 0 ∨ i = .int .i64 1 ∨ i = .int .i64 2 ∨ i = .int .i64 3 ∨ i = .int .i64 4 ∨ i = .int .i64 5) (fun i => (5 - intOf i).toNat)
        case atStart => exact .inl rfl
        case round =>
          rcases hrel with rfl | rfl | rfl | rfl | rfl | rfl | rfl
          · have HO : Hid (ofF (runF 0 l') (runF 1 l') (runF 2 l') (runF 3 l') (-1) = 0) := Lib.hid (by simp [ofF])
            go_wp2_with (go_at_call 43; refine (of_s _ 0 HO _ H4.out).mono ?_; rintro e w' ⟨rfl, rfl⟩)
            go_round
            case rel => exact .inr (.inl rfl)
            case measure => simp [intOf]
          · obtain ⟨R, HRz⟩ : ∃ R, Hid (runF 0 l' = R) := ⟨_, Lib.hid rfl⟩
            have HO : Hid (ofF (runF 0 l') (runF 1 l') (runF 2 l') (runF 3 l') 0 = R) := Lib.hid (by rw [← HRz.out]; rfl)
            have HC : Hid (Calls Try.prog 42 #[.slice A2 (k + 1) c2, .int .i64 0] w4 fun e w' => e = .returned (.int .i64 R) ∧ w4 = w') := Lib.hid (by rw [← HRz.out]; exact rrun_0 A2 (k + 1) c2 l' w4 HL4.out HX'.out (by omega))
            go_wp2_with (first | (go_at_call 42; refine HC.out.mono ?_; rintro e w' ⟨rfl, rfl⟩) | (go_at_call 43; refine (of_s _ R HO _ H4.out).mono ?_; rintro e w' ⟨rfl, rfl⟩))
            go_round
            case rel => exact .inr (.inr (.inl rfl))
            case measure => simp [intOf]
          · obtain ⟨R, HRz⟩ : ∃ R, Hid (runF 1 l' = R) := ⟨_, Lib.hid rfl⟩
            have HO : Hid (ofF (runF 0 l') (runF 1 l') (runF 2 l') (runF 3 l') 1 = R) := Lib.hid (by rw [← HRz.out]; rfl)
            have HC : Hid (Calls Try.prog 42 #[.slice A2 (k + 1) c2, .int .i64 1] w4 fun e w' => e = .returned (.int .i64 R) ∧ w4 = w') := Lib.hid (by rw [← HRz.out]; exact rrun_1 A2 (k + 1) c2 l' w4 HL4.out HX'.out (by omega))
            go_wp2_with (first | (go_at_call 42; refine HC.out.mono ?_; rintro e w' ⟨rfl, rfl⟩) | (go_at_call 43; refine (of_s _ R HO _ H4.out).mono ?_; rintro e w' ⟨rfl, rfl⟩))
            go_round
            case rel => exact .inr (.inr (.inr (.inl rfl)))
            case measure => simp [intOf]
          · obtain ⟨R, HRz⟩ : ∃ R, Hid (runF 2 l' = R) := ⟨_, Lib.hid rfl⟩
            have HO : Hid (ofF (runF 0 l') (runF 1 l') (runF 2 l') (runF 3 l') 2 = R) := Lib.hid (by rw [← HRz.out]; rfl)
            have HC : Hid (Calls Try.prog 42 #[.slice A2 (k + 1) c2, .int .i64 2] w4 fun e w' => e = .returned (.int .i64 R) ∧ w4 = w') := Lib.hid (by rw [← HRz.out]; exact rrun_2 A2 (k + 1) c2 l' w4 HL4.out HX'.out (by omega))
            go_wp2_with (first | (go_at_call 42; refine HC.out.mono ?_; rintro e w' ⟨rfl, rfl⟩) | (go_at_call 43; refine (of_s _ R HO _ H4.out).mono ?_; rintro e w' ⟨rfl, rfl⟩))
            go_round
            case rel => exact .inr (.inr (.inr (.inr (.inl rfl))))
            case measure => simp [intOf]
          · obtain ⟨R, HRz⟩ : ∃ R, Hid (runF 3 l' = R) := ⟨_, Lib.hid rfl⟩
            have HO : Hid (ofF (runF 0 l') (runF 1 l') (runF 2 l') (runF 3 l') 3 = R) := Lib.hid (by rw [← HRz.out]; rfl)
            have HC : Hid (Calls Try.prog 42 #[.slice A2 (k + 1) c2, .int .i64 3] w4 fun e w' => e = .returned (.int .i64 R) ∧ w4 = w') := Lib.hid (by rw [← HRz.out]; exact rrun_3 A2 (k + 1) c2 l' w4 HL4.out HX'.out (by omega))
            go_wp2_with (first | (go_at_call 42; refine HC.out.mono ?_; rintro e w' ⟨rfl, rfl⟩) | (go_at_call 43; refine (of_s _ R HO _ H4.out).mono ?_; rintro e w' ⟨rfl, rfl⟩))
            go_round
            case rel => exact .inr (.inr (.inr (.inr (.inr (.inl rfl)))))
            case measure => simp [intOf]
          · have HO : Hid (ofF (runF 0 l') (runF 1 l') (runF 2 l') (runF 3 l') 4 = 0) := Lib.hid (by simp [ofF])
            go_wp2_with (go_at_call 43; refine (of_s _ 0 HO _ H4.out).mono ?_; rintro e w' ⟨rfl, rfl⟩)
            go_round
            case rel => exact .inr (.inr (.inr (.inr (.inr (.inr rfl)))))
            case measure => simp [intOf]
          · rcases Bool.eq_false_or_eq_true ((k : Int) % (1 + (p : Int)) == 0) with hz | hz
            · go_wp2_with fail
              refine (since_s _ H4.out).mono ?_
              rintro e w5 ⟨rfl, H5, hw5⟩
              have HB5 := Lib.hid (HB4.out.trans (hw5.out.below hgx.out HB4.out.size))
              have HOWN5 := Lib.hid (ownsRow_wrote HOWN4.out hw5.out (Nat.lt_succ_self g))
              go_wp2_with fail
              go_roundw
              case rel => exact ⟨k + 1, l', _, 0, _, by omega, by go_num, HTK.out, HT'.out, rfl, rfl, by omega, H5.out, HOWN5.out, HB5.out⟩
              case measure => simp [intOf]; omega
            · go_wp2_with fail
              go_roundw
              case rel => exact ⟨k + 1, l', _, s', _, by omega, by go_num, HTK.out, HT'.out, rfl, rfl, by omega, H4.out, HOWN4.out, HB4.out⟩
              case measure => simp [intOf]; omega
      · have e0 : (t' == 0) = false := by simp; omega
        have e1 : decide (0 < t') = true := decide_eq_true h0
        have e2 : (t == 0) = false := by simpa using h1
        clear h1
        go_wp2_with fail
        refine (run_s HT' _ H3.out).mono ?_
        rintro e w' ⟨rfl, rfl⟩
        go_wp2_with fail
        refine (rose_s HT' _ HRR _ H3.out).mono ?_
        rintro e w4 ⟨rfl, H4, hb4⟩
        have HB4 := Lib.hid (HB3.out.trans (hb4.out.mono HB3.out.size))
        have HOWN4 := Lib.hid (own_below' HOWN3.out hb4.out)
        have HL4 := Lib.hid (HL3.out.kept hb4.out)
        clear H3 HB3 HOWN3 HL3 hb4 HRR HRD'
        go_wp2_with fail
        refine (fell_s HT' _ HF _ H4.out).mono ?_
        rintro e w' ⟨rfl, rfl⟩
        clear HF
        go_wp2_with fail
        go_loop [12] (fun i => i = .int .i64 (-1) ∨ i = .int .i64 0 ∨ i = .int .i64 1 ∨ i = .int .i64 2 ∨ i = .int .i64 3 ∨ i = .int .i64 4 ∨ i = .int .i64 5) (fun i => (5 - intOf i).toNat)
        case atStart => exact .inl rfl
        case round =>
          rcases hrel with rfl | rfl | rfl | rfl | rfl | rfl | rfl
          · have HO : Hid (ofF (runF 0 l') (runF 1 l') (runF 2 l') (runF 3 l') (-1) = 0) := Lib.hid (by simp [ofF])
            go_wp2_with (go_at_call 43; refine (of_s _ 0 HO _ H4.out).mono ?_; rintro e w' ⟨rfl, rfl⟩)
            go_round
            case rel => exact .inr (.inl rfl)
            case measure => simp [intOf]
          · obtain ⟨R, HRz⟩ : ∃ R, Hid (runF 0 l' = R) := ⟨_, Lib.hid rfl⟩
            have HO : Hid (ofF (runF 0 l') (runF 1 l') (runF 2 l') (runF 3 l') 0 = R) := Lib.hid (by rw [← HRz.out]; rfl)
            have HC : Hid (Calls Try.prog 42 #[.slice A2 (k + 1) c2, .int .i64 0] w4 fun e w' => e = .returned (.int .i64 R) ∧ w4 = w') := Lib.hid (by rw [← HRz.out]; exact rrun_0 A2 (k + 1) c2 l' w4 HL4.out HX'.out (by omega))
            go_wp2_with (first | (go_at_call 42; refine HC.out.mono ?_; rintro e w' ⟨rfl, rfl⟩) | (go_at_call 43; refine (of_s _ R HO _ H4.out).mono ?_; rintro e w' ⟨rfl, rfl⟩))
            go_round
            case rel => exact .inr (.inr (.inl rfl))
            case measure => simp [intOf]
          · obtain ⟨R, HRz⟩ : ∃ R, Hid (runF 1 l' = R) := ⟨_, Lib.hid rfl⟩
            have HO : Hid (ofF (runF 0 l') (runF 1 l') (runF 2 l') (runF 3 l') 1 = R) := Lib.hid (by rw [← HRz.out]; rfl)
            have HC : Hid (Calls Try.prog 42 #[.slice A2 (k + 1) c2, .int .i64 1] w4 fun e w' => e = .returned (.int .i64 R) ∧ w4 = w') := Lib.hid (by rw [← HRz.out]; exact rrun_1 A2 (k + 1) c2 l' w4 HL4.out HX'.out (by omega))
            go_wp2_with (first | (go_at_call 42; refine HC.out.mono ?_; rintro e w' ⟨rfl, rfl⟩) | (go_at_call 43; refine (of_s _ R HO _ H4.out).mono ?_; rintro e w' ⟨rfl, rfl⟩))
            go_round
            case rel => exact .inr (.inr (.inr (.inl rfl)))
            case measure => simp [intOf]
          · obtain ⟨R, HRz⟩ : ∃ R, Hid (runF 2 l' = R) := ⟨_, Lib.hid rfl⟩
            have HO : Hid (ofF (runF 0 l') (runF 1 l') (runF 2 l') (runF 3 l') 2 = R) := Lib.hid (by rw [← HRz.out]; rfl)
            have HC : Hid (Calls Try.prog 42 #[.slice A2 (k + 1) c2, .int .i64 2] w4 fun e w' => e = .returned (.int .i64 R) ∧ w4 = w') := Lib.hid (by rw [← HRz.out]; exact rrun_2 A2 (k + 1) c2 l' w4 HL4.out HX'.out (by omega))
            go_wp2_with (first | (go_at_call 42; refine HC.out.mono ?_; rintro e w' ⟨rfl, rfl⟩) | (go_at_call 43; refine (of_s _ R HO _ H4.out).mono ?_; rintro e w' ⟨rfl, rfl⟩))
            go_round
            case rel => exact .inr (.inr (.inr (.inr (.inl rfl))))
            case measure => simp [intOf]
          · obtain ⟨R, HRz⟩ : ∃ R, Hid (runF 3 l' = R) := ⟨_, Lib.hid rfl⟩
            have HO : Hid (ofF (runF 0 l') (runF 1 l') (runF 2 l') (runF 3 l') 3 = R) := Lib.hid (by rw [← HRz.out]; rfl)
            have HC : Hid (Calls Try.prog 42 #[.slice A2 (k + 1) c2, .int .i64 3] w4 fun e w' => e = .returned (.int .i64 R) ∧ w4 = w') := Lib.hid (by rw [← HRz.out]; exact rrun_3 A2 (k + 1) c2 l' w4 HL4.out HX'.out (by omega))
            go_wp2_with (first | (go_at_call 42; refine HC.out.mono ?_; rintro e w' ⟨rfl, rfl⟩) | (go_at_call 43; refine (of_s _ R HO _ H4.out).mono ?_; rintro e w' ⟨rfl, rfl⟩))
            go_round
            case rel => exact .inr (.inr (.inr (.inr (.inr (.inl rfl)))))
            case measure => simp [intOf]
          · have HO : Hid (ofF (runF 0 l') (runF 1 l') (runF 2 l') (runF 3 l') 4 = 0) := Lib.hid (by simp [ofF])
            go_wp2_with (go_at_call 43; refine (of_s _ 0 HO _ H4.out).mono ?_; rintro e w' ⟨rfl, rfl⟩)
            go_round
            case rel => exact .inr (.inr (.inr (.inr (.inr (.inr rfl)))))
            case measure => simp [intOf]
          · rcases Bool.eq_false_or_eq_true ((k : Int) % (1 + (p : Int)) == 0) with hz | hz
            · go_wp2_with fail
              refine (since_s _ H4.out).mono ?_
              rintro e w5 ⟨rfl, H5, hw5⟩
              have HB5 := Lib.hid (HB4.out.trans (hw5.out.below hgx.out HB4.out.size))
              have HOWN5 := Lib.hid (ownsRow_wrote HOWN4.out hw5.out (Nat.lt_succ_self g))
              go_wp2_with fail
              go_roundw
              case rel => exact ⟨k + 1, l', _, 0, _, by omega, by go_num, HTK.out, HT'.out, rfl, rfl, by omega, H5.out, HOWN5.out, HB5.out⟩
              case measure => simp [intOf]; omega
            · go_wp2_with fail
              go_roundw
              case rel => exact ⟨k + 1, l', _, s', _, by omega, by go_num, HTK.out, HT'.out, rfl, rfl, by omega, H4.out, HOWN4.out, HB4.out⟩
              case measure => simp [intOf]; omega
      · go_wp2_with fail
        refine (run_s HT' _ H3.out).mono ?_
        rintro e w' ⟨rfl, rfl⟩
        go_wp2_with fail
        refine (rose_s HT' _ HRR _ H3.out).mono ?_
        rintro e w4 ⟨rfl, H4, hb4⟩
        have HB4 := Lib.hid (HB3.out.trans (hb4.out.mono HB3.out.size))
        have HOWN4 := Lib.hid (own_below' HOWN3.out hb4.out)
        have HL4 := Lib.hid (HL3.out.kept hb4.out)
        clear H3 HB3 HOWN3 HL3 hb4 HRR HRD'
        go_wp2_with fail
        refine (fell_s HT' _ HF _ H4.out).mono ?_
        rintro e w' ⟨rfl, rfl⟩
        clear HF
        go_wp2_with fail
        go_loop [12] (fun i => i = .int .i64 (-1) ∨ i = .int .i64 0 ∨ i = .int .i64 1 ∨ i = .int .i64 2 ∨ i = .int .i64 3 ∨ i = .int .i64 4 ∨ i = .int .i64 5) (fun i => (5 - intOf i).toNat)
        case atStart => exact .inl rfl
        case round =>
          rcases hrel with rfl | rfl | rfl | rfl | rfl | rfl | rfl
          · have HO : Hid (ofF (runF 0 l') (runF 1 l') (runF 2 l') (runF 3 l') (-1) = 0) := Lib.hid (by simp [ofF])
            go_wp2_with (go_at_call 43; refine (of_s _ 0 HO _ H4.out).mono ?_; rintro e w' ⟨rfl, rfl⟩)
            go_round
            case rel => exact .inr (.inl rfl)
            case measure => simp [intOf]
          · obtain ⟨R, HRz⟩ : ∃ R, Hid (runF 0 l' = R) := ⟨_, Lib.hid rfl⟩
            have HO : Hid (ofF (runF 0 l') (runF 1 l') (runF 2 l') (runF 3 l') 0 = R) := Lib.hid (by rw [← HRz.out]; rfl)
            have HC : Hid (Calls Try.prog 42 #[.slice A2 (k + 1) c2, .int .i64 0] w4 fun e w' => e = .returned (.int .i64 R) ∧ w4 = w') := Lib.hid (by rw [← HRz.out]; exact rrun_0 A2 (k + 1) c2 l' w4 HL4.out HX'.out (by omega))
            go_wp2_with (first | (go_at_call 42; refine HC.out.mono ?_; rintro e w' ⟨rfl, rfl⟩) | (go_at_call 43; refine (of_s _ R HO _ H4.out).mono ?_; rintro e w' ⟨rfl, rfl⟩))
            go_round
            case rel => exact .inr (.inr (.inl rfl))
            case measure => simp [intOf]
          · obtain ⟨R, HRz⟩ : ∃ R, Hid (runF 1 l' = R) := ⟨_, Lib.hid rfl⟩
            have HO : Hid (ofF (runF 0 l') (runF 1 l') (runF 2 l') (runF 3 l') 1 = R) := Lib.hid (by rw [← HRz.out]; rfl)
            have HC : Hid (Calls Try.prog 42 #[.slice A2 (k + 1) c2, .int .i64 1] w4 fun e w' => e = .returned (.int .i64 R) ∧ w4 = w') := Lib.hid (by rw [← HRz.out]; exact rrun_1 A2 (k + 1) c2 l' w4 HL4.out HX'.out (by omega))
            go_wp2_with (first | (go_at_call 42; refine HC.out.mono ?_; rintro e w' ⟨rfl, rfl⟩) | (go_at_call 43; refine (of_s _ R HO _ H4.out).mono ?_; rintro e w' ⟨rfl, rfl⟩))
            go_round
            case rel => exact .inr (.inr (.inr (.inl rfl)))
            case measure => simp [intOf]
          · obtain ⟨R, HRz⟩ : ∃ R, Hid (runF 2 l' = R) := ⟨_, Lib.hid rfl⟩
            have HO : Hid (ofF (runF 0 l') (runF 1 l') (runF 2 l') (runF 3 l') 2 = R) := Lib.hid (by rw [← HRz.out]; rfl)
            have HC : Hid (Calls Try.prog 42 #[.slice A2 (k + 1) c2, .int .i64 2] w4 fun e w' => e = .returned (.int .i64 R) ∧ w4 = w') := Lib.hid (by rw [← HRz.out]; exact rrun_2 A2 (k + 1) c2 l' w4 HL4.out HX'.out (by omega))
            go_wp2_with (first | (go_at_call 42; refine HC.out.mono ?_; rintro e w' ⟨rfl, rfl⟩) | (go_at_call 43; refine (of_s _ R HO _ H4.out).mono ?_; rintro e w' ⟨rfl, rfl⟩))
            go_round
            case rel => exact .inr (.inr (.inr (.inr (.inl rfl))))
            case measure => simp [intOf]
          · obtain ⟨R, HRz⟩ : ∃ R, Hid (runF 3 l' = R) := ⟨_, Lib.hid rfl⟩
            have HO : Hid (ofF (runF 0 l') (runF 1 l') (runF 2 l') (runF 3 l') 3 = R) := Lib.hid (by rw [← HRz.out]; rfl)
            have HC : Hid (Calls Try.prog 42 #[.slice A2 (k + 1) c2, .int .i64 3] w4 fun e w' => e = .returned (.int .i64 R) ∧ w4 = w') := Lib.hid (by rw [← HRz.out]; exact rrun_3 A2 (k + 1) c2 l' w4 HL4.out HX'.out (by omega))
            go_wp2_with (first | (go_at_call 42; refine HC.out.mono ?_; rintro e w' ⟨rfl, rfl⟩) | (go_at_call 43; refine (of_s _ R HO _ H4.out).mono ?_; rintro e w' ⟨rfl, rfl⟩))
            go_round
            case rel => exact .inr (.inr (.inr (.inr (.inr (.inl rfl)))))
            case measure => simp [intOf]
          · have HO : Hid (ofF (runF 0 l') (runF 1 l') (runF 2 l') (runF 3 l') 4 = 0) := Lib.hid (by simp [ofF])
            go_wp2_with (go_at_call 43; refine (of_s _ 0 HO _ H4.out).mono ?_; rintro e w' ⟨rfl, rfl⟩)
            go_round
            case rel => exact .inr (.inr (.inr (.inr (.inr (.inr rfl)))))
            case measure => simp [intOf]
          · rcases Bool.eq_false_or_eq_true ((k : Int) % (1 + (p : Int)) == 0) with hz | hz
            · go_wp2_with fail
              refine (since_s _ H4.out).mono ?_
              rintro e w5 ⟨rfl, H5, hw5⟩
              have HB5 := Lib.hid (HB4.out.trans (hw5.out.below hgx.out HB4.out.size))
              have HOWN5 := Lib.hid (ownsRow_wrote HOWN4.out hw5.out (Nat.lt_succ_self g))
              go_wp2_with fail
              go_roundw
              case rel => exact ⟨k + 1, l', _, 0, _, by omega, by go_num, HTK.out, HT'.out, rfl, rfl, by omega, H5.out, HOWN5.out, HB5.out⟩
              case measure => simp [intOf]; omega
            · go_wp2_with fail
              go_roundw
              case rel => exact ⟨k + 1, l', _, s', _, by omega, by go_num, HTK.out, HT'.out, rfl, rfl, by omega, H4.out, HOWN4.out, HB4.out⟩
              case measure => simp [intOf]; omega
    · obtain rfl : k = n := by omega
      go_wp2_with (go_at_call 45; refine (one_any _).mono ?_; rintro e w7 ⟨rfl, hb7⟩)
      go_ret
      exact ⟨rfl, HBEL.out.trans (hb7.mono HBEL.out.size)⟩

theorem walk_long (A : Option Addr) (n c : Nat) (ev : Int) (w : World) (hn : n ≤ 9223372036854775807) (h : 120 < n) :
    Calls Try.prog 10 #[.slice A n c, .int .i64 ev] w fun e w' => e = .returned (.bool true) ∧ Below w.heap.size w w' := by
  go_enter Try.func10, Try.ntmps10
  go_wp2
  go_ret
  exact ⟨rfl, Below.refl _ _⟩
theorem walk (A : Option Addr) (n c : Nat) (xs : List Int) (ev : Int) (w : World) (ha : Lst w A n (xs.map (Value.int .u8))) (hx : ∀ x ∈ xs, 0 ≤ x ∧ x ≤ 255) (hnc : n ≤ c) (hcm : c ≤ maxLen) (e0 : -9223372036854775808 ≤ ev) (e1 : ev ≤ 9223372036854775807) :
    Calls Try.prog 10 #[.slice A n c, .int .i64 ev] w fun e w' => e = .returned (.bool true) ∧ Below w.heap.size w w' := by
  unfold maxLen at hcm
  obtain ⟨us, eu, hu⟩ := nats_of xs hx
  rw [eu] at ha
  by_cases h : n ≤ 120
  · exact walk_in A n c us ev w h ha hu
  · exact walk_long A n c ev w (by omega) (by omega)

set_option maxRecDepth 100000 in
theorem lifted (os : Os) (started : os.Started) (H : Type) (enc : TypeId × Value → H) :
    ReturnsInHanded {} Try.checked os 10 .any (Rows.runsTellSpec.pre6 enc Try.prog Try.f10 Rows.runsTellRow.domain false) (Rows.runsTellSpec.post enc Try.prog Try.f10 false true false false) := by
  refine returnsInHanded_of_change (C := Try.checked) own started (by kernel_rfl) Try.func10
    (ChangeSpec.witness6 (enc := enc) (C := Try.checked) false ⟨#[], #[.slice none 0 0, .int .i64 0], []⟩ 8 (by kernel_rfl) (by kernel_rfl) (by kernel_rfl) (by kernel_rfl)) ?_
  intro W base args ds gs before hval0 hW hcnd _
  have hval : ∀ (j : Nat) t v, Try.f10.params[j]? = some t → args[j]? = some v → Value.okWide Try.prog W .any base t v := hval0
  have hW' := hW
  obtain ⟨p, q, hA0, hV, rfl, hfz, hnd⟩ := hW
  have hA : DataW.TrodAll enc Try.prog W 0 (fun _ => true) true Try.f10.params.toList args.toList ds p := hA0
  rw [Try.params10] at hA hval
  obtain ⟨v0, vs0, d0, ds0, p0, q0, hargs, rfl, rfl, h0, r0⟩ := trodAll_cons hA
  obtain ⟨v1, vs1, d1, ds1, p1, q1, rfl, rfl, rfl, h1, r1⟩ := trodAll_cons r0
  obtain ⟨rfl, rfl, rfl⟩ := trodAll_nil r1
  obtain rfl : args = #[v0, v1] := by cases args; simp_all
  obtain ⟨rfl, rfl⟩ := trodVars_none hV
  have k0 := h0
  have lt0 : ∀ x ∈ p0, x.block < W.heap.size := by obtain ⟨m, hm⟩ := k0; exact DataW.trod_lt m _ _ _ hm
  obtain ⟨xsA, xsn, xsc, rfl⟩ := okWide_slice Try.underlying22 (hval 0 22 v0 rfl rfl)
  obtain ⟨xs, l0, b0, cb0, cc0⟩ := lst_ints Try.underlying22 Try.underlying29 (by kernel_rfl) k0
  obtain ⟨ev, rfl, rfl, rfl, wf1⟩ := open_int Try.underlying3 (hval 1 3 v1 rfl rfl) h1
  have bd1 := bounds_i64 wf1
  clear hA0 hval0
  refine (walk xsA xsn xsc xs ev W l0 (ints_u8 b0) cb0 cc0 bd1.1 bd1.2).mono fun e W' ⟨he, bel⟩ => ?_
  subst he
  exact ⟨_, rfl, _, _, _, [], _, [], hW', trodAll_mk1 (shut_bool Try.underlying4 _), (trodAll_cons_mk (Below.trod laidOut (by kernel_rfl) (of_decide_eq_true (by kernel_rfl)) k0 bel lt0) (trodAll_cons_mk (shut_int Try.underlying3 wf1) trodAll_mk0)), rfl, bel.frame _, fun h => by cases h⟩

theorem over : Rows.runsTellRow.holds Try.pinned (OpenSpec.ofChange Rows.runsTellSpec) :=
  OpenClaim.holds_of_wide 10 Try.f10 rfl rfl rfl rfl rfl rfl rfl ⟨rfl, rfl, rfl, rfl, rfl⟩ rfl rfl rfl rfl rfl (by kernel_rfl) Try.func10 (by kernel_rfl)
    (of_decide_eq_true (by kernel_rfl)) (by unfold Func.isWrapper; first | (rw [if_pos (by decide +kernel)]; kernel_rfl) | (rw [if_neg (by decide +kernel)]; exact ⟨rfl, rfl⟩))
    (fun os started H enc _ => lifted os started H enc)

/-- The statement. -/
theorem proved : Rows.RunsTellSaid := over
end Go.Proofs.Ytbhgnhbaimemmaa.lawRunsTell
