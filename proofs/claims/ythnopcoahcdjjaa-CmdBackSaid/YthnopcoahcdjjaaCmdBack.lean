/- A command that is right is read from its bytes, whatever stands around them; what is read is put as it stood: for every command, and every bytes around; no condition. -/
import Derived.Deep.DeepCutAuto
import Derived.Deep.CutBlock
import Derived.RegionTactic
import Derived.Laws.BytesString
import Derived.Test.YthnopcoahcdjjaaCmdH
import Derived.Test.YthnopcoahcdjjaaPush
import Derived.Test.YthnopcoahcdjjaaSh
import Derived.Test.YthnopcoahcdjjaaRows
import Derived.WalkKit
import Derived.ProofKit
import Derived.OpenShut
import Derived.ShutString
import Derived.ChangeOld
import Derived.Below
namespace Go.Proofs.Ythnopcoahcdjjaa.lawCmdBack
open Go.ChangeShapes Go.WideShapes Go.ChangeAt Go.RowKit Base
open Go.ChangeMaps (open_string shut_string)
set_option linter.unusedVariables false
set_option linter.unusedSimpArgs false
theorem own : ownKnob Try.prog.godebug = none := by kernel_rfl
theorem laidOut : laidOutB Try.prog = true := by kernel_rfl
open Ly9

def strOf (ns : List Int) : Value := .string (ns.foldl (fun r n => r.push (UInt8.ofNat n.toNat)) ByteArray.empty)
theorem conv_str {w : World} {A : Option Addr} {n c : Nat} {ns : List Int} (h : Lst w A n (ns.map (Value.int .u8))) (h0 : 0 < n) : (convert 26 9 (.slice A n c)).run Try.prog w = .ok (strOf ns) w := by
  obtain ⟨b, o, rfl, _, hc⟩ := h.2 h0
  rw [run_convert_bytes_string w _ _ 5 _ _ _ Try.underlying26 Try.underlying5 Try.underlying9]
  refine run_bytesToString w _ n c ns ?_
  have hl : (ns.map (Value.int .u8)).length = n := h.1
  rw [← hl]
  exact run_loadCells_list (P := Try.prog) w ⟨b, o, none⟩ _ (fun j v hv => by
    have hj : j < n := by have := (List.getElem?_eq_some_iff.1 hv).1; omega
    rw [add_eq, hc j hj]
    exact hv)
theorem nums_wth {o x1 x2 x3 x4 x5 x6 : Int} {ns : List Int} (hc : ns.length = cnt o) (hb : ∀ x ∈ ns, 0 ≤ x ∧ x ≤ 255) (hw : wth o ns = cv o x1 x2 x3 x4 x5 x6) : nums o x1 x2 x3 x4 x5 x6 = ns := by
  unfold cnt at hc
  unfold wth at hw
  unfold nums
  by_cases h1 : o = 1
  · rw [if_pos h1] at hc hw ⊢
    match ns, hc with
    | [a, b, c, d], _ => simp at hw; simp [hw]
  rw [if_neg h1] at hc hw ⊢
  by_cases h2 : o = 2
  · rw [if_pos h2] at hc hw ⊢
    match ns, hc with
    | [a, b, c], _ => simp at hw; simp [hw]
  rw [if_neg h2] at hc hw ⊢
  by_cases h3 : o = 3
  · rw [if_pos h3] at hc hw ⊢
    match ns, hc with
    | [a, b], _ => simp at hw; simp [hw]
  rw [if_neg h3] at hc hw ⊢
  by_cases h4 : o = 4
  · rw [if_pos h4] at hc hw ⊢
    match ns, hc with
    | [a], _ => simp at hw; simp [hw]
  rw [if_neg h4] at hc hw ⊢
  by_cases h6 : o = 6 ∨ o = 8
  · rw [if_pos h6] at hc hw ⊢
    match ns, hc with
    | [a, b], _ =>
      have ha := hb a (by simp)
      have hbb := hb b (by simp)
      simp at hw
      simp
      omega
  · rw [if_neg h6] at hc ⊢
    exact (List.eq_nil_of_length_eq_zero hc).symm
/-- What Read says of the head of bytes. -/
inductive Head (bs : List Int) : Prop
  | no (hh : ∀ (B : Option Addr) (n cp : Nat) (w : World), Lst w B n (bs.map (Value.int .u8)) → n ≤ 1000000 → ∃ e' : Int, (e' == 0) = false ∧ Calls Try.prog 23 #[.slice B n cp, .int .i64 0] w fun e w' => e = .returned (.tuple #[cv 0 0 0 0 0 0 0, .int .i64 0, .int .i64 e']) ∧ Hid (Below w.heap.size w w'))
  | yes (o x1 x2 x3 x4 x5 x6 : Int) (hr : RP o x1 x2 x3 x4 x5 x6) (hw : wth o (nums o x1 x2 x3 x4 x5 x6) = cv o x1 x2 x3 x4 x5 x6) (hn : (putB o x1 x2 x3 x4 x5 x6).length ≤ bs.length) (hb : bs.take (putB o x1 x2 x3 x4 x5 x6).length = putB o x1 x2 x3 x4 x5 x6)
    (hs : -9223372036854775808 ≤ x2 ∧ x2 ≤ 9223372036854775807)
theorem head_of (bs : List Int) (hbd : ∀ x ∈ bs, 0 ≤ x ∧ x ≤ 255) : Head bs := by
  match bs, hbd with
  | [], _ =>
    exact .no fun B n cp w hl hn => ⟨10, rfl, by
      obtain rfl : n = 0 := by have := hl.1; simpa using this.symm
      exact read_end B 0 cp w (by omega)⟩
  | o :: rest, hbd =>
    have ho := hbd o (by simp)
    by_cases h8 : 8 < o
    · exact .no fun B n cp w hl hn => ⟨11, rfl, read_op o _ B n cp w h8 ho.2 hl hn (by have := hl.1; simp at this; omega) rfl⟩
    · by_cases hs : rest.length < cnt o
      · exact .no fun B n cp w hl hn => ⟨10, rfl, read_short o _ B n cp w ho.1 (by omega) hl hn (by have := hl.1; simp at this; omega) rfl (by have := hl.1; simp at this; omega)⟩
      · obtain ⟨ns, hns⟩ : ∃ ns, ns = rest.take (cnt o) := ⟨_, rfl⟩
        have hlen : ns.length = cnt o := by rw [hns]; simp; omega
        have hnb : ∀ x ∈ ns, 0 ≤ x ∧ x ≤ 255 := fun x hx => hbd x (by rw [hns] at hx; exact List.mem_cons_of_mem _ (List.mem_of_mem_take hx))
        obtain ⟨x1, x2, x3, x4, x5, x6, hw⟩ := wth_cv o ns
        have hnum := nums_wth hlen hnb hw
        have hsx : -9223372036854775808 ≤ x2 ∧ x2 ≤ 9223372036854775807 := by
          have hg : ∀ k, 0 ≤ ns.getD k 0 ∧ ns.getD k 0 ≤ 255 := by
            intro k
            rw [List.getD_eq_getElem?_getD]
            cases e : ns[k]? with
            | none => simp
            | some v => exact hnb v (List.mem_of_getElem? e)
          unfold wth at hw
          have g0 := hg 0
          have g1 := hg 1
          rw [List.getD_eq_getElem?_getD] at g0 g1
          split at hw
          · simp at hw; omega
          split at hw
          · simp at hw; omega
          split at hw
          · simp at hw; omega
          split at hw
          · simp at hw; omega
          split at hw
          · simp at hw; omega
          · simp at hw; omega
        by_cases hr : RP o x1 x2 x3 x4 x5 x6
        · refine .yes o x1 x2 x3 x4 x5 x6 hr (by rw [hnum]; exact hw) ?_ ?_ hsx
          · unfold putB; rw [hnum]; simp; omega
          · unfold putB; rw [hnum, List.length_cons, List.take_succ_cons, hlen, hns]
        · exact .no fun B n cp w hl hn => ⟨11, rfl, read_wrong o x1 x2 x3 x4 x5 x6 ns _ B n cp w ho.1 (by omega) hlen hnb hw hr hsx hl hn (by have := hl.1; simp at this; omega) rfl (fun k hk => by
            simp only [List.getElem?_cons_succ]
            subst hns
            rw [List.getElem_take, ← List.getElem?_eq_getElem])⟩

theorem lst_take {w : World} {b o n : Nat} {vs : List Value} (h : Lst w (some ⟨b, o, none⟩) n vs) (k : Nat) (hk : k ≤ n) : Lst w (some ⟨b, o, none⟩) k (vs.take k) := by
  refine ⟨by simp [h.1]; omega, fun hn => ?_⟩
  obtain ⟨b', o', e, hlt, hc⟩ := h.2 (by omega)
  cases e
  refine ⟨b, o, rfl, hlt, fun j hj => ?_⟩
  rw [hc j (by omega), List.getElem?_take_of_lt hj]
theorem trunc {o a s c m b t : Int} (hr : RP o a s c m b t) (xb xo r cx : Nat) (w : World) (hl : Lst w (some ⟨xb, xo, none⟩) (r + 1) ((putB o a s c m b t).map (Value.int .u8))) (hn : r + 1 = (putB o a s c m b t).length) :
    Calls Try.prog 23 #[.slice (some ⟨xb, xo, none⟩) r cx, .int .i64 0] w fun e w' => e = .returned (.tuple #[cv 0 0 0 0 0 0 0, .int .i64 0, .int .i64 10]) ∧ Hid (Below w.heap.size w w') := by
  have h5 : r + 1 = cnt o + 1 := by rw [hn]; unfold putB; rw [List.length_cons, nums_len]
  have hc4 : cnt o ≤ 4 := by
    unfold cnt
    repeat (first | (split; omega) | omega)
  by_cases h0 : r = 0
  · subst h0
    exact read_end _ 0 cx w (by omega)
  · have h1 := lst_take hl r (by omega)
    rw [← List.map_take] at h1
    obtain ⟨o0, o1⟩ := op_bd hr
    exact read_short o ((putB o a s c m b t).take r) _ r cx w o0 o1 h1 (by omega) (by omega) (by rw [List.getElem?_take_of_lt (by omega)]; rfl) (by omega)
set_option maxRecDepth 100000 in
set_option maxHeartbeats 8000000 in
theorem walk_in (o a s c m b t : Int) (A : Option Addr) (n ca : Nat) (xs : List Int) (B : Option Addr) (k cb : Nat) (ys : List Int) (w : World) (hn : n ≤ 200) (hk : k ≤ 200) (hkc : k ≤ cb) (hs : -9223372036854775808 ≤ s ∧ s ≤ 9223372036854775807)
    (hla : Lst w A n (xs.map (Value.int .u8))) (za : NilZ A n ca) (hlb : Lst w B k (ys.map (Value.int .u8))) (zb : NilZ B k cb) (hy : ∀ x ∈ ys, 0 ≤ x ∧ x ≤ 255) :
    Calls Try.prog 5 #[cv o a s c m b t, .slice A n ca, .slice B k cb] w fun e w' => e = .returned (.bool true) ∧ Below w.heap.size w w' := by
  obtain ⟨i0, hi, hz0, hz1, hz2⟩ := info_parts info_u8
  have HB := Lib.hid (show Below w.heap.size w (w.alloc (.cells (c7 o a s c m b t) TC)) from (Below.refl _ _).alloc (Nat.le_refl _) _)
  have HO := Lib.hid (Obj1.new w TC (c7 o a s c m b t))
  obtain ⟨gc, HGC⟩ : ∃ gc, Hid (w.heap.size = gc) := ⟨_, Lib.hid rfl⟩
  rw [HGC.out] at HO
  have HLA := Lib.hid hla
  have HLB := Lib.hid hlb
  have HHD := Lib.hid (head_of ys hy)
  have HYN : Hid (ys.length = k) := by have := hlb.1; simp at this; exact this
  have HXN : Hid (xs.length = n) := by have := hla.1; simp at this; exact this
  have ZA := Lib.hid za
  have ZB := Lib.hid zb
  clear hla hlb hy za zb
  go_enter Try.func5, Try.ntmps5
  go_wp2_with fail
  rw [HGC.out]
  generalize w.alloc (.cells #[.int .i64 o, .int .i64 a, .int .i64 s, .int .i64 c, .int .i64 m, .int .i64 b, .int .i64 t] TC) = W at HB HO ⊢
  obtain ⟨v, HV⟩ : ∃ v, Hid (decide (RP o a s c m b t) = v) := ⟨_, Lib.hid rfl⟩
  have HRT : Hid (Calls Try.prog 18 #[cv o a s c m b t] W fun e w' => e = .returned (.bool v) ∧ Below W.heap.size W w') := by
    by_cases hr : RP o a s c m b t
    · rw [← HV.out, decide_eq_true hr]; exact Lib.hid (right_yes o a s c m b t W hr hs)
    · rw [← HV.out, decide_eq_false hr]; exact Lib.hid (right_no o a s c m b t W hr hs)
  refine HRT.out.mono ?_
  rintro e w1 ⟨rfl, hb1⟩
  have HB1 := Lib.hid (HB.out.trans (hb1.mono HB.out.size))
  have HO1 := Lib.hid (HO.out.kept hb1)
  clear hb1 HRT HO HB
  go_upto_if 30 with (fail)
  go_cut [7, 8, 9, 10, 11, 12, 13, 14, 15] from 31 to 88 (fun _ _ _ _ _ _ _ _ _ wx => Below w.heap.size w wx)
  case first =>
    cases v
    · go_wp2_with fail
      go_meet
      exact HB1.out
    · have hrp : RP o a s c m b t := of_decide_eq_true HV.out
      have HRP := Lib.hid hrp
      clear hrp
      obtain ⟨d0, d1, d2, d3, d4, d5, d6⟩ := cells7 HO1.out
      go_wp2_with fail
      refine (put_ok o a s c m b t w1 HRP.out hs).mono ?_
      rintro e w2 ⟨X, nx, cx, rfl, hnx, hcx, hcm, HLX, HB2⟩
      obtain ⟨a', s', c', m', b', t', hw, hx⟩ := clean_ex HRP.out
      have HW := Lib.hid hw
      have HX := Lib.hid hx
      have hnx0 : 0 < nx := by rw [hnx]; simp [putB]
      have hnx5 : nx ≤ 5 := by
        rw [hnx]
        unfold putB
        rw [List.length_cons, nums_len]
        unfold cnt
        repeat (first | (split; omega) | omega)
      obtain ⟨xb, xo, rfl, _, _⟩ := HLX.out.2 hnx0
      obtain ⟨r, rfl⟩ : ∃ r, nx = r + 1 := ⟨nx - 1, by omega⟩
      have HNX := Lib.hid hnx
      have oneU : ∀ zs : List Int, Hid (∀ u ∈ zs.map (Value.int .u8), u.oneCell' = true) := fun zs => Lib.hid (by intro v hv; obtain ⟨x, _, rfl⟩ := List.mem_map.1 hv; rfl)
      have HBE2 := Lib.hid (HB1.out.trans (HB2.out.mono HB1.out.size))
      have HO2 := Lib.hid (HO1.out.kept HB2.out)
      have O0 := Lib.hid (own_empty w2 5)
      have P0 : Hid (Below w2.heap.size w2 (w2.alloc (.cells #[] 5))) := (Below.refl _ _).alloc (Nat.le_refl _) _
      have LA2 := Lib.hid (HLA.out.kept HBE2.out)
      have LB2 := Lib.hid (HLB.out.kept HBE2.out)
      clear hnx hw hx d0 d1 d2 d3 d4 d5 d6
      go_wp2_with (first
        | (at_builtin; refine pushL _ rfl (.tmp 36) (.tmp 37) 26 rfl w2.heap.size 5 i0 (.int .u8 0) 1 Try.underlying26 hi hz0 hz1 hz2 rfl _ _ _ rfl O0.out A n ca _ rfl ZA.out (LA2.out.kept P0.out) (oneU xs).out (by unfold maxLen; omega) (by omega) P0.out.size ?_; intro v1 w3 hown1 hbel1; have O1 := Lib.hid hown1; have P1 := Lib.hid (P0.out.trans hbel1); clear hown1 hbel1)
        | (at_builtin; refine pushL _ rfl (.tmp 38) (.tmp 39) 26 rfl w2.heap.size 5 i0 (.int .u8 0) 1 Try.underlying26 hi hz0 hz1 hz2 rfl _ _ _ rfl O1.out (some ⟨xb, xo, none⟩) (r + 1) cx _ rfl (fun h => by cases h) (HLX.out.kept P1.out) (oneU _).out (by unfold maxLen; omega) (by omega) P1.out.size ?_; intro v2 w4 hown2 hbel2; have O2 := Lib.hid hown2; have P2 := Lib.hid (P1.out.trans hbel2); clear hown2 hbel2)
        | (at_builtin; refine pushL _ rfl (.tmp 40) (.tmp 41) 26 rfl w2.heap.size 5 i0 (.int .u8 0) 1 Try.underlying26 hi hz0 hz1 hz2 rfl _ _ _ rfl O2.out B k cb _ rfl ZB.out (LB2.out.kept P2.out) (oneU ys).out (by unfold maxLen; omega) (by omega) P2.out.size ?_; intro v3 w5 hown3 hbel3; have O3 := Lib.hid hown3; have P3 := Lib.hid (P2.out.trans hbel3); clear hown3 hbel3))
      have O4 := Lib.hid (show w5.ownsRow w2.heap.size 5 1 v3 (0 + n + (r + 1) + k) ((xs ++ putB o a s c m b t ++ ys).map (Value.int .u8)) by simpa using O3.out)
      obtain ⟨D, d, rfl, _, _, hD⟩ := Lst.of_own O4.out
      have HD := Lib.hid hD
      have hfit : n + (putB o a s c m b t).length ≤ 0 + n + (r + 1) + k := by rw [← HNX.out]; omega
      have hat : ∀ j (hj : j < (putB o a s c m b t).length), (xs ++ putB o a s c m b t ++ ys)[n + j]? = some ((putB o a s c m b t)[j]'hj) := fun j hj => by
        have := HXN.out
        rw [List.append_assoc, List.getElem?_append_right (by omega), List.getElem?_append_left (by omega), show n + j - xs.length = j by omega, List.getElem?_eq_getElem hj]
      have HF := Lib.hid hfit
      have HAT := Lib.hid hat
      clear hD hfit hat
      refine (read_right o a s c m b t a' s' c' m' b' t' _ D _ d n w5 HRP.out HW.out HX.out HD.out (by omega) HF.out HAT.out).mono ?_
      rw [← HNX.out]
      rintro e w6 ⟨rfl, HB6⟩
      have HBE6 := Lib.hid (HBE2.out.trans ((P3.out.trans (HB6.out.mono P3.out.size)).mono HBE2.out.size))
      have HBE7 := Lib.hid (HBE6.out.alloc HBE6.out.size (.cells (c7 o a' s' c' m' b' t') TC))
      have HP6 := Lib.hid (P3.out.trans (HB6.out.mono P3.out.size))
      have HP7 := Lib.hid (HP6.out.alloc HP6.out.size (.cells (c7 o a' s' c' m' b' t') TC))
      have HN7 := Lib.hid (Obj1.new w6 TC (c7 o a' s' c' m' b' t'))
      obtain ⟨g7, HG7⟩ : ∃ g7, Hid (w6.heap.size = g7) := ⟨_, Lib.hid rfl⟩
      rw [HG7.out] at HN7
      go_wp2_with fail
      rw [HG7.out]
      generalize w6.alloc (.cells #[.int .i64 o, .int .i64 a', .int .i64 s', .int .i64 c', .int .i64 m', .int .i64 b', .int .i64 t'] TC) = w7 at HBE7 HP7 HN7 ⊢
      have K1 := fun x : Kin w7 => cells7 (HN7.out.kept x.below)
      have K2 := fun x : Kin w7 => cells7 ((HO2.out.kept HP7.out).kept x.below)
      have u0 := fun x => (K1 x).1
      have u1 := fun x => (K1 x).2.1
      have u2 := fun x => (K1 x).2.2.1
      have u3 := fun x => (K1 x).2.2.2.1
      have u4 := fun x => (K1 x).2.2.2.2.1
      have u5 := fun x => (K1 x).2.2.2.2.2.1
      have u6 := fun x => (K1 x).2.2.2.2.2.2
      have q0 := fun x => (K2 x).1
      have q1 := fun x => (K2 x).2.1
      have q2 := fun x => (K2 x).2.2.1
      have q3 := fun x => (K2 x).2.2.2.1
      have q4 := fun x => (K2 x).2.2.2.2.1
      have q5 := fun x => (K2 x).2.2.2.2.2.1
      have q6 := fun x => (K2 x).2.2.2.2.2.2
      clear K1 K2
      refine wp_region_kin (by kernel_rfl) (by kernel_rfl) ?_
      repeat (go_big_quiet_step (first | (go_at_call 19; exact Calls.kin _ (clean_cv o a s c m b t a' s' c' m' b' t' HW.out _ HRP.out.jump))))
      refine wpQuiet_nil ?_
      intro _ hw'
      obtain ⟨kx, hw''⟩ := hw'
      subst hw''
      clear u0 u1 u2 u3 u4 u5 u6 q0 q1 q2 q3 q4 q5 q6
      go_wp2_with fail
      refine (trunc HRP.out xb xo r cx kx.world ((HLX.out.kept HP7.out).kept kx.below) HNX.out).mono ?_
      rintro e w8 ⟨rfl, HB8⟩
      have HBE8 : Hid (Below w.heap.size w (w8.alloc (.cells (c7 0 0 0 0 0 0 0) TC))) := by
        have h1 := HBE7.out.trans (kx.below.mono HBE7.out.size)
        have h2 := h1.trans (HB8.out.mono h1.size)
        exact h2.alloc h2.size _
      go_wp2_with fail
      go_meet
      exact HBE8.out
  case rest =>
    have HBC := Lib.hid hcut
    have HLC := Lib.hid (HLB.out.kept hcut)
    rcases HHD.out with ⟨hh⟩ | ⟨p, x1, x2, x3, x4, x5, x6, hr, hw, hlen, htk, hsx⟩
    · obtain ⟨e', he', hc'⟩ := hh B k cb wc HLC.out (by omega)
      have HC' := Lib.hid hc'
      clear hcut hc' hh
      go_wp2_with fail
      refine HC'.out.mono ?_
      rintro e w3 ⟨rfl, HB3⟩
      have HB4 : Hid (Below w.heap.size w (w3.alloc (.cells (c7 0 0 0 0 0 0 0) TC))) := by
        have h1 := HBC.out.trans (HB3.out.mono HBC.out.size)
        exact h1.alloc h1.size _
      go_wp2_with fail
      generalize w3.alloc (.cells #[.int .i64 0, .int .i64 0, .int .i64 0, .int .i64 0, .int .i64 0, .int .i64 0, .int .i64 0] TC) = w4 at HB4 ⊢
      refine (one_any w4).mono ?_
      rintro e w5 ⟨rfl, hb5⟩
      go_wp2
      go_ret
      exact ⟨rfl, HB4.out.trans (hb5.mono HB4.out.size)⟩
    · have h0 : 0 < k := by have := HYN.out; simp [putB] at hlen; omega
      obtain ⟨q, HQ⟩ : ∃ q, Hid ((putB p x1 x2 x3 x4 x5 x6).length = q) := ⟨_, Lib.hid rfl⟩
      have hq1 : 1 ≤ q := by rw [← HQ.out]; simp [putB]
      have hqk : q ≤ k := by rw [← HQ.out, ← HYN.out]; exact hlen
      have hat : ∀ j (hj : j < (putB p x1 x2 x3 x4 x5 x6).length), ys[0 + j]? = some ((putB p x1 x2 x3 x4 x5 x6)[j]'hj) := fun j hj => by
        rw [Nat.zero_add, ← List.getElem?_eq_getElem hj, ← htk, List.getElem?_take_of_lt hj]
      have HAT := Lib.hid hat
      have HR := Lib.hid hr
      have HW := Lib.hid hw
      have HTK := Lib.hid htk
      have HL := Lib.hid (show 0 + (putB p x1 x2 x3 x4 x5 x6).length ≤ k by rw [HQ.out]; omega)
      obtain ⟨tb, tq, rfl, _, _⟩ := HLC.out.2 h0
      clear hat hr hw htk hlen hcut
      go_wp2_with fail
      refine (read_right p x1 x2 x3 x4 x5 x6 x1 x2 x3 x4 x5 x6 ys _ k cb 0 wc HR.out HW.out HR.out HLC.out (by omega) HL.out HAT.out).mono ?_
      rw [HQ.out, Nat.zero_add]
      rintro e w3 ⟨rfl, HB3⟩
      have HBE3 := Lib.hid (HBC.out.trans (HB3.out.mono HBC.out.size))
      have HBE4 := Lib.hid (HBE3.out.alloc HBE3.out.size (.cells (c7 p x1 x2 x3 x4 x5 x6) TC))
      have HN4 := Lib.hid (Obj1.new w3 TC (c7 p x1 x2 x3 x4 x5 x6))
      obtain ⟨g4, HG4⟩ : ∃ g4, Hid (w3.heap.size = g4) := ⟨_, Lib.hid rfl⟩
      rw [HG4.out] at HN4
      go_wp2_with fail
      rw [HG4.out]
      generalize w3.alloc (.cells #[.int .i64 p, .int .i64 x1, .int .i64 x2, .int .i64 x3, .int .i64 x4, .int .i64 x5, .int .i64 x6] TC) = w4 at HBE4 HN4 ⊢
      refine (put_ok p x1 x2 x3 x4 x5 x6 w4 HR.out hsx).mono ?_
      rw [HQ.out]
      rintro e w5 ⟨Y, ny, cy, rfl, rfl, hcy, hcym, HLY, HB5⟩
      obtain ⟨S, HS⟩ : ∃ S, Hid (strOf (putB p x1 x2 x3 x4 x5 x6) = .string S) := ⟨_, Lib.hid rfl⟩
      have HBE5 := Lib.hid (HBE4.out.trans (HB5.out.mono HBE4.out.size))
      have HLB5 := Lib.hid (HLB.out.kept HBE5.out)
      have C1 : ∀ x : Kin w5, (convert 26 9 (.slice Y ny cy)).run Try.prog x.world = .ok (.string S) x.world := fun x => by rw [conv_str (HLY.out.kept x.below) (by omega), HS.out]
      have C2 : ∀ x : Kin w5, (convert 26 9 (.slice (some ⟨tb, tq, none⟩) ny cb)).run Try.prog x.world = .ok (.string S) x.world := fun x => by
        have h1 := lst_take (HLB5.out.kept x.below) ny hqk
        rw [← List.map_take, show ys.take ny = putB p x1 x2 x3 x4 x5 x6 by rw [← HQ.out]; exact HTK.out] at h1
        rw [conv_str h1 (by omega), HS.out]
      have K1 := fun x : Kin w5 => cells7 ((HN4.out.kept HB5.out).kept x.below)
      have u0 := fun x => (K1 x).1
      have u1 := fun x => (K1 x).2.1
      have u2 := fun x => (K1 x).2.2.1
      have u3 := fun x => (K1 x).2.2.2.1
      have u4 := fun x => (K1 x).2.2.2.2.1
      have u5 := fun x => (K1 x).2.2.2.2.2.1
      have u6 := fun x => (K1 x).2.2.2.2.2.2
      clear K1
      have e1 : decide ((ny : Int) < 1) = false := decide_eq_false (by omega)
      have e2 : decide ((k : Int) < (ny : Int)) = false := decide_eq_false (by omega)
      have e3 : decide (k < ny) = false := decide_eq_false (by omega)
      have e4 : ¬ ny = 0 := by omega
      have e6 : ny ≤ cb := by omega
      have e7 : (ny : Int) ≤ (cb : Int) := by omega
      have e8 : (0 : Int) ≤ (ny : Int) := by omega
      have e5 : ¬ k < ny := by omega
      go_wp2_with fail
      refine wp_region_kin (by kernel_rfl) (by kernel_rfl) ?_
      repeat (go_big_quiet_step (first | (go_at_call 18; exact Calls.kin _ (right_yes p x1 x2 x3 x4 x5 x6 _ HR.out hsx))))
      refine wpQuiet_nil ?_
      intro _ hw'
      obtain ⟨kx, hw''⟩ := hw'
      subst hw''
      clear u0 u1 u2 u3 u4 u5 u6 C1 C2
      go_wp2_with fail
      refine (one_any kx.world).mono ?_
      rintro e w6 ⟨rfl, hb6⟩
      go_wp2
      go_ret
      have h1 := HBE5.out.trans (kx.below.mono HBE5.out.size)
      exact ⟨rfl, h1.trans (hb6.mono h1.size)⟩
theorem walk_long (o a s c m b t : Int) (A : Option Addr) (n ca : Nat) (B : Option Addr) (k cb : Nat) (w : World) (hn : n ≤ 9223372036854775807) (hk : k ≤ 9223372036854775807) (h : 200 < n ∨ (n ≤ 200 ∧ 200 < k)) :
    Calls Try.prog 5 #[cv o a s c m b t, .slice A n ca, .slice B k cb] w fun e w' => e = .returned (.bool true) ∧ Below w.heap.size w w' := by
  have HB := Lib.hid (show Below w.heap.size w (w.alloc (.cells (c7 o a s c m b t) TC)) from (Below.refl _ _).alloc (Nat.le_refl _) _)
  rcases h with h | ⟨h, h'⟩
  all_goals
    go_enter Try.func5, Try.ntmps5
    go_wp2
    go_ret
    exact ⟨rfl, HB.out⟩
abbrev shC : Sh := .fld (.int .i64) (.fld (.int .i64) (.fld (.int .i64) (.fld (.int .i64) (.fld (.int .i64) (.fld (.int .i64) (.fld (.int .i64) .nil))))))
theorem walk (x : Array Value) (A : Option Addr) (n ca : Nat) (xs : List Int) (B : Option Addr) (k cb : Nat) (ys : List Int) (w : World) (rx : Reads w shC x.toList) (hla : Lst w A n (xs.map (Value.int .u8))) (hx : ∀ x ∈ xs, 0 ≤ x ∧ x ≤ 255) (hnc : n ≤ ca) (hcm : ca ≤ maxLen) (za : NilZ A n ca)
    (hlb : Lst w B k (ys.map (Value.int .u8))) (hy : ∀ x ∈ ys, 0 ≤ x ∧ x ≤ 255) (hkc : k ≤ cb) (hkm : cb ≤ maxLen) (zb : NilZ B k cb) :
    Calls Try.prog 5 #[.agg x, .slice A n ca, .slice B k cb] w fun e w' => e = .returned (.bool true) ∧ Below w.heap.size w w' := by
  obtain ⟨_, _, ex, ⟨o, rfl, _⟩, _, _, rfl, ⟨a, rfl, _⟩, _, _, rfl, ⟨s, rfl, hs⟩, _, _, rfl, ⟨c, rfl, _⟩, _, _, rfl, ⟨m, rfl, _⟩, _, _, rfl, ⟨b, rfl, _⟩, _, _, rfl, ⟨t, rfl, _⟩, rfl⟩ := rx
  obtain ⟨l⟩ := x
  simp at ex
  subst ex
  unfold maxLen at hcm hkm
  by_cases h : 200 < n ∨ (n ≤ 200 ∧ 200 < k)
  · exact walk_long o a s c m b t A n ca B k cb w (by omega) (by omega) h
  · exact walk_in o a s c m b t A n ca xs B k cb ys w (by omega) (by omega) hkc (bounds_i64 hs) hla za hlb zb hy

set_option maxRecDepth 100000 in
theorem lifted (os : Os) (started : os.Started) (H : Type) (enc : TypeId × Value → H) :
    ReturnsInHanded {} Try.checked os 5 .any (Rows.cmdBackSpec.pre6 enc Try.prog Try.f5 Rows.cmdBackRow.domain false) (Rows.cmdBackSpec.post enc Try.prog Try.f5 false true false false) := by
  refine returnsInHanded_of_change (C := Try.checked) own started (by kernel_rfl) Try.func5
    (ChangeSpec.witness6 (enc := enc) (C := Try.checked) false ⟨#[], #[.agg #[.int .i64 0, .int .i64 0, .int .i64 0, .int .i64 0, .int .i64 0, .int .i64 0, .int .i64 0], .slice none 0 0, .slice none 0 0], []⟩ 8 (by kernel_rfl) (by kernel_rfl) (by kernel_rfl) (by kernel_rfl)) ?_
  intro W base args ds gs before hval0 hW hcnd _
  have hval : ∀ (j : Nat) t v, Try.f5.params[j]? = some t → args[j]? = some v → Value.okWide Try.prog W .any base t v := hval0
  have hW' := hW
  obtain ⟨p, q, hA0, hV, rfl, hfz, hnd⟩ := hW
  have hA : DataW.TrodAll enc Try.prog W 0 (fun _ => true) true Try.f5.params.toList args.toList ds p := hA0
  rw [Try.params5] at hA hval
  obtain ⟨v0, vs0, d0, ds0, p0, q0, hargs, rfl, rfl, h0, r0⟩ := trodAll_cons hA
  obtain ⟨v1, vs1, d1, ds1, p1, q1, rfl, rfl, rfl, h1, r1⟩ := trodAll_cons r0
  obtain ⟨v2, vs2, d2, ds2, p2, q2, rfl, rfl, rfl, h2, r2⟩ := trodAll_cons r1
  obtain ⟨rfl, rfl, rfl⟩ := trodAll_nil r2
  obtain rfl : args = #[v0, v1, v2] := by cases args; simp_all
  obtain ⟨rfl, rfl⟩ := trodVars_none hV
  have k0 := h0
  have lt0 : ∀ x ∈ p0, x.block < W.heap.size := by obtain ⟨m, hm⟩ := k0; exact DataW.trod_lt m _ _ _ hm
  obtain ⟨x, rfl⟩ := okWide_agg (by first | exact .inl ⟨_, Try.underlying23⟩ | exact .inr ⟨_, _, Try.underlying23⟩) (hval 0 23 v0 rfl rfl)
  have rd0 := reads_cells (sh := shC) 30 (by kernel_rfl) k0
  have k1 := h1
  have lt1 : ∀ x ∈ p1, x.block < W.heap.size := by obtain ⟨m, hm⟩ := k1; exact DataW.trod_lt m _ _ _ hm
  obtain ⟨xsA, xsn, xsc, rfl⟩ := okWide_slice Try.underlying26 (hval 1 26 v1 rfl rfl)
  obtain ⟨xs, l1, b1, cb1, cc1⟩ := lst_ints Try.underlying26 Try.underlying5 (by kernel_rfl) k1
  have z1 := nilz_ints Try.underlying26 Try.underlying5 (by kernel_rfl) k1
  have k2 := h2
  have lt2 : ∀ x ∈ p2, x.block < W.heap.size := by obtain ⟨m, hm⟩ := k2; exact DataW.trod_lt m _ _ _ hm
  obtain ⟨ysA, ysn, ysc, rfl⟩ := okWide_slice Try.underlying26 (hval 2 26 v2 rfl rfl)
  obtain ⟨ys, l2, b2, cb2, cc2⟩ := lst_ints Try.underlying26 Try.underlying5 (by kernel_rfl) k2
  have z2 := nilz_ints Try.underlying26 Try.underlying5 (by kernel_rfl) k2
  clear hA0 hval0
  refine (walk x xsA xsn xsc xs ysA ysn ysc ys W rd0 l1 (ints_u8 b1) cb1 cc1 z1 l2 (ints_u8 b2) cb2 cc2 z2).mono fun e W' ⟨he, bel⟩ => ?_
  subst he
  exact ⟨_, rfl, _, _, _, [], _, [], hW', trodAll_mk1 (shut_bool Try.underlying4 _), (trodAll_cons_mk (Below.trod laidOut (by kernel_rfl) (of_decide_eq_true (by kernel_rfl)) k0 bel lt0) (trodAll_cons_mk (Below.trod laidOut (by kernel_rfl) (of_decide_eq_true (by kernel_rfl)) k1 bel lt1) (trodAll_cons_mk (Below.trod laidOut (by kernel_rfl) (of_decide_eq_true (by kernel_rfl)) k2 bel lt2) trodAll_mk0))), rfl, bel.frame _, fun h => by cases h⟩

theorem over : Rows.cmdBackRow.holds Try.pinned (OpenSpec.ofChange Rows.cmdBackSpec) :=
  OpenClaim.holds_of_wide 5 Try.f5 rfl rfl rfl rfl rfl rfl rfl ⟨rfl, rfl, rfl, rfl, rfl⟩ rfl rfl rfl rfl rfl (by kernel_rfl) Try.func5 (by kernel_rfl)
    (of_decide_eq_true (by kernel_rfl)) (by unfold Func.isWrapper; first | (rw [if_pos (by decide +kernel)]; kernel_rfl) | (rw [if_neg (by decide +kernel)]; exact ⟨rfl, rfl⟩))
    (fun os started H enc _ => lifted os started H enc)

/-- The statement. -/
theorem proved : Rows.CmdBackSaid := over
end Go.Proofs.Ythnopcoahcdjjaa.lawCmdBack
