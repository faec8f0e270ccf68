/- What stands at a place of bytes, by package cmd's Read and by the document's own: the same; no condition. -/
import Derived.Test.YthnopcoahcdjjaaCmdN
import Derived.Test.YthnopcoahcdjjaaCmdQ
namespace Go.Proofs.Ythnopcoahcdjjaa.Ly9
open Go.ChangeShapes Go.WideShapes Go.ChangeAt Go.RowKit Base
set_option linter.unusedVariables false
set_option linter.unusedSimpArgs false

theorem nums_back {o x1 x2 x3 x4 x5 x6 : Int} {ns : List Int} (hc : ns.length = cnt o) (hb : ∀ x ∈ ns, 0 ≤ x ∧ x ≤ 255) (hw : wth o ns = cv o x1 x2 x3 x4 x5 x6) : nums o x1 x2 x3 x4 x5 x6 = ns := by
  unfold cnt at hc
  unfold wth at hw
  unfold nums
  by_cases h1 : o = 1
  · rw [if_pos h1] at hc hw ⊢
    match ns, hc with
    | [a, b, c, d], _ => simp at hw; simp [hw]
  rw [if_neg h1] at hc hw ⊢
  by_cases h2 : o = 2
  · rw [if_pos h2] at hc hw ⊢
    match ns, hc with
    | [a, b, c], _ => simp at hw; simp [hw]
  rw [if_neg h2] at hc hw ⊢
  by_cases h3 : o = 3
  · rw [if_pos h3] at hc hw ⊢
    match ns, hc with
    | [a, b], _ => simp at hw; simp [hw]
  rw [if_neg h3] at hc hw ⊢
  by_cases h4 : o = 4
  · rw [if_pos h4] at hc hw ⊢
    match ns, hc with
    | [a], _ => simp at hw; simp [hw]
  rw [if_neg h4] at hc hw ⊢
  by_cases h6 : o = 6 ∨ o = 8
  · rw [if_pos h6] at hc hw ⊢
    match ns, hc with
    | [a, b], _ =>
      have ha := hb a (by simp)
      have hbb := hb b (by simp)
      simp at hw
      simp
      omega
  · rw [if_neg h6] at hc ⊢
    exact (List.eq_nil_of_length_eq_zero hc).symm
theorem wth_s {o x1 x2 x3 x4 x5 x6 : Int} {ns : List Int} (hnb : ∀ x ∈ ns, 0 ≤ x ∧ x ≤ 255) (hw : wth o ns = cv o x1 x2 x3 x4 x5 x6) : -9223372036854775808 ≤ x2 ∧ x2 ≤ 9223372036854775807 := by
  have hg : ∀ k, 0 ≤ ns.getD k 0 ∧ ns.getD k 0 ≤ 255 := by
    intro k
    rw [List.getD_eq_getElem?_getD]
    cases e : ns[k]? with
    | none => simp
    | some v => exact hnb v (List.mem_of_getElem? e)
  unfold wth at hw
  have g0 := hg 0
  have g1 := hg 1
  rw [List.getD_eq_getElem?_getD] at g0 g1
  split at hw
  · simp at hw; omega
  split at hw
  · simp at hw; omega
  split at hw
  · simp at hw; omega
  split at hw
  · simp at hw; omega
  split at hw
  · simp at hw; omega
  · simp at hw; omega
set_option maxRecDepth 100000 in
set_option maxHeartbeats 4000000 in
theorem read_arg (B : Option Addr) (n cp : Nat) (a : Int) (w : World) (hn : n ≤ 1000000) (h : a < 0 ∨ (n : Int) < a) :
    Calls Try.prog 23 #[.slice B n cp, .int .i64 a] w fun e w' => e = .returned (.tuple #[cv 0 0 0 0 0 0 0, .int .i64 0, .int .i64 2]) ∧ Hid (Below w.heap.size w w') := by
  rcases h with h | h
  all_goals
    go_enter Try.func23, Try.ntmps23
    go_wp2
    refine bodyPost_ret (by simp [results, Try.results23, go_sem]) rfl ⟨rfl, Lib.hid ?_⟩
    repeat (first | exact Below.refl _ _ | refine Below.setCell ?_ (by first | omega | (simp; done) | (simp; omega)) _ | refine Below.alloc ?_ (by first | omega | (simp; done) | (simp; omega)) _ | refine below_drewN' ?_ _ | refine Below.drew ?_)
/-- What is told, where a command's bytes stand. -/
def told (o x1 x2 x3 x4 x5 x6 : Int) (a k : Nat) : Array Value := if RP o x1 x2 x3 x4 x5 x6 then #[cv o x1 x2 x3 x4 x5 x6, .int .i64 ((a : Int) + (k : Int)), .int .i64 0] else #[cv 0 0 0 0 0 0 0, .int .i64 0, .int .i64 11]
theorem read_fit (o x1 x2 x3 x4 x5 x6 : Int) (ns bs : List Int) (B : Option Addr) (n cp a : Nat) (w : World) (o0 : 0 ≤ o) (o1 : o ≤ 8) (hlen : ns.length = cnt o) (hnb : ∀ x ∈ ns, 0 ≤ x ∧ x ≤ 255) (hw : wth o ns = cv o x1 x2 x3 x4 x5 x6)
    (hl : Lst w B n (bs.map (Value.int .u8))) (hn : n ≤ 1000000) (hfit : a + (ns.length + 1) ≤ n) (h0 : bs[a]? = some o) (hk : ∀ k (hk : k < ns.length), bs[a + (k + 1)]? = some (ns[k]'hk)) :
    Calls Try.prog 23 #[.slice B n cp, .int .i64 a] w fun e w' => e = .returned (.tuple (told o x1 x2 x3 x4 x5 x6 a (cnt o + 1))) ∧ Hid (Below w.heap.size w w') := by
  have hnum := nums_back hlen hnb hw
  unfold told
  by_cases hr : RP o x1 x2 x3 x4 x5 x6
  · rw [if_pos hr]
    have hp : putB o x1 x2 x3 x4 x5 x6 = o :: ns := by unfold putB; rw [hnum]
    have hpl : (putB o x1 x2 x3 x4 x5 x6).length = cnt o + 1 := by rw [hp, List.length_cons, hlen]
    have := read_right o x1 x2 x3 x4 x5 x6 x1 x2 x3 x4 x5 x6 bs B n cp a w hr (by rw [hnum]; exact hw) hr hl hn (by rw [hpl, ← hlen]; exact hfit) (fun k hk' => by
      have e : (putB o x1 x2 x3 x4 x5 x6)[k]? = (o :: ns)[k]? := by rw [hp]
      rw [← List.getElem?_eq_getElem hk', e]
      cases k with
      | zero => exact h0
      | succ k =>
        have hk2 : k < ns.length := by rw [hpl, ← hlen] at hk'; omega
        rw [List.getElem?_cons_succ, List.getElem?_eq_getElem hk2]
        exact hk k hk2)
    rw [hpl, show ((a + (cnt o + 1) : Nat) : Int) = (a : Int) + ((cnt o + 1 : Nat) : Int) by push_cast; rfl] at this
    exact this
  · rw [if_neg hr]
    exact read_wrong_at o x1 x2 x3 x4 x5 x6 ns bs B n cp a w o0 o1 hlen hnb hw hr (wth_s hnb hw) hl hn hfit h0 hk
theorem rr_of (o x1 x2 x3 x4 x5 x6 : Int) : RR (decide (RP o x1 x2 x3 x4 x5 x6)) o x1 x2 x3 x4 x5 x6 := by
  unfold RR
  by_cases h : RP o x1 x2 x3 x4 x5 x6
  · exact .inl ⟨by simp [h], h⟩
  · exact .inr ⟨by simp [h], h⟩
theorem told_of {o x1 x2 x3 x4 x5 x6 : Int} {a L : Nat} : (if decide (RP o x1 x2 x3 x4 x5 x6) = true then #[cv o x1 x2 x3 x4 x5 x6, .int .i64 ((a : Int) + (L : Int)), .int .i64 0] else #[cv 0 0 0 0 0 0 0, .int .i64 0, .int .i64 11]) = told o x1 x2 x3 x4 x5 x6 a L := by
  unfold told
  by_cases h : RP o x1 x2 x3 x4 x5 x6 <;> simp [h]
theorem rread_fit (o x1 x2 x3 x4 x5 x6 : Int) (ns bs : List Int) (n a : Nat) (w : World) (o0 : 0 ≤ o) (o1 : o ≤ 8) (hlen : ns.length = cnt o) (hnb : ∀ x ∈ ns, 0 ≤ x ∧ x ≤ 255) (hw : wth o ns = cv o x1 x2 x3 x4 x5 x6)
    (hl : bs.length = n) (hn : n ≤ 2000) (hfit : a + (ns.length + 1) ≤ n) (h0 : bs[a]? = some o) (hk : ∀ k (hk : k < ns.length), bs[a + (k + 1)]? = some (ns[k]'hk)) :
    Calls Try.prog 24 #[.string (strB bs), .int .i64 a] w fun e w' => e = .returned (.tuple (told o x1 x2 x3 x4 x5 x6 a (cnt o + 1))) ∧ Hid (Below w.heap.size w w') := by
  have hS : (strB bs).size = n := by rw [strB_len, hl]
  have HI := fun w => idxS (P := Try.prog) (t := 9) Try.underlying9 h0 o0 (by omega) w
  have HC := fun w => cutS (P := Try.prog) (t := 9) Try.underlying9 bs a (ns.length + 1) (by omega) w
  have HX : ∀ k (h : k < ns.length) (w : World), (Instr.index 9 (.string (strB ((bs.drop a).take (ns.length + 1)))) (.int .i64 ((k + 1 : Nat) : Int))).run Try.prog w = .ok (.int .u8 (ns[k]'h)) w := fun k h w => by
    have hb := hnb _ (List.getElem_mem h)
    refine idxS (P := Try.prog) (t := 9) Try.underlying9 ?_ hb.1 hb.2 w
    rw [List.getElem?_take_of_lt (by omega), List.getElem?_drop]
    exact hk k h
  obtain ⟨V, HV⟩ : ∃ V, strB ((bs.drop a).take (ns.length + 1)) = V := ⟨_, rfl⟩
  rw [HV] at HC HX
  clear HV h0 hk
  rcases (show o = 1 ∨ o = 2 ∨ o = 3 ∨ o = 4 ∨ o = 6 ∨ o = 8 ∨ o = 0 ∨ o = 5 ∨ o = 7 by omega) with rfl | rfl | rfl | rfl | rfl | rfl | rfl | rfl | rfl
  · obtain ⟨n0, n1, n2, n3, rfl⟩ : ∃ a b c d, ns = [a, b, c, d] := by
      match ns, hlen with
      | [a, b, c, d], _ => exact ⟨a, b, c, d, rfl⟩
    obtain ⟨rfl, rfl, rfl, rfl, rfl, rfl⟩ : x1 = n0 ∧ x2 = n1 ∧ x3 = n2 ∧ x4 = n3 ∧ x5 = 0 ∧ x6 = 0 := by simp [wth] at hw; omega
    have := rread_1 (strB bs) V a n _ x1 x2 x3 x4 w hS hn hfit (hnb _ (by simp)) (hnb _ (by simp)) (hnb _ (by simp)) (hnb _ (by simp)) HI HC (HX 0 (by simp)) (HX 1 (by simp)) (HX 2 (by simp)) (HX 3 (by simp)) (rr_of ..)
    rw [← told_of]; exact this
  · obtain ⟨n0, n1, n2, rfl⟩ : ∃ a b c, ns = [a, b, c] := by
      match ns, hlen with
      | [a, b, c], _ => exact ⟨a, b, c, rfl⟩
    obtain ⟨rfl, rfl, rfl, rfl, rfl, rfl⟩ : x1 = n0 ∧ x2 = n1 ∧ x3 = 0 ∧ x4 = n2 ∧ x5 = 0 ∧ x6 = 0 := by simp [wth] at hw; omega
    have := rread_2 (strB bs) V a n _ x1 x2 x4 w hS hn hfit (hnb _ (by simp)) (hnb _ (by simp)) (hnb _ (by simp)) HI HC (HX 0 (by simp)) (HX 1 (by simp)) (HX 2 (by simp)) (rr_of ..)
    rw [← told_of]; exact this
  · obtain ⟨n0, n1, rfl⟩ : ∃ a b, ns = [a, b] := by
      match ns, hlen with
      | [a, b], _ => exact ⟨a, b, rfl⟩
    obtain ⟨rfl, rfl, rfl, rfl, rfl, rfl⟩ : x1 = 0 ∧ x2 = n0 ∧ x3 = 0 ∧ x4 = n1 ∧ x5 = 0 ∧ x6 = 0 := by simp [wth] at hw; omega
    have := rread_3 (strB bs) V a n _ x2 x4 w hS hn hfit (hnb _ (by simp)) (hnb _ (by simp)) HI HC (HX 0 (by simp)) (HX 1 (by simp)) (rr_of ..)
    rw [← told_of]; exact this
  · obtain ⟨n0, rfl⟩ : ∃ a, ns = [a] := by
      match ns, hlen with
      | [a], _ => exact ⟨a, rfl⟩
    obtain ⟨rfl, rfl, rfl, rfl, rfl, rfl⟩ : x1 = 0 ∧ x2 = 0 ∧ x3 = 0 ∧ x4 = 0 ∧ x5 = n0 ∧ x6 = 0 := by simp [wth] at hw; omega
    have := rread_4 (strB bs) V a n _ x5 w hS hn hfit (hnb _ (by simp)) HI HC (HX 0 (by simp)) (rr_of ..)
    rw [← told_of]; exact this
  · obtain ⟨n0, n1, rfl⟩ : ∃ a b, ns = [a, b] := by
      match ns, hlen with
      | [a, b], _ => exact ⟨a, b, rfl⟩
    obtain ⟨rfl, rfl, rfl, rfl, rfl, rfl⟩ : x1 = 0 ∧ x2 = 0 ∧ x3 = 0 ∧ x4 = 0 ∧ x5 = 0 ∧ x6 = 256 * n0 + n1 := by simp [wth] at hw; omega
    have := rread_6 (strB bs) V a n _ n0 n1 w hS hn hfit (hnb _ (by simp)) (hnb _ (by simp)) HI HC (HX 0 (by simp)) (HX 1 (by simp)) (rr_of ..)
    rw [← told_of]; exact this
  · obtain ⟨n0, n1, rfl⟩ : ∃ a b, ns = [a, b] := by
      match ns, hlen with
      | [a, b], _ => exact ⟨a, b, rfl⟩
    obtain ⟨rfl, rfl, rfl, rfl, rfl, rfl⟩ : x1 = 0 ∧ x2 = 0 ∧ x3 = 0 ∧ x4 = 0 ∧ x5 = 0 ∧ x6 = 256 * n0 + n1 := by simp [wth] at hw; omega
    have := rread_8 (strB bs) V a n _ n0 n1 w hS hn hfit (hnb _ (by simp)) (hnb _ (by simp)) HI HC (HX 0 (by simp)) (HX 1 (by simp)) (rr_of ..)
    rw [← told_of]; exact this
  · obtain rfl : ns = [] := List.eq_nil_of_length_eq_zero hlen
    obtain ⟨rfl, rfl, rfl, rfl, rfl, rfl⟩ : x1 = 0 ∧ x2 = 0 ∧ x3 = 0 ∧ x4 = 0 ∧ x5 = 0 ∧ x6 = 0 := by simp [wth] at hw; omega
    have := rread_0 (strB bs) V a n _ w hS hn hfit HI HC (rr_of ..)
    rw [← told_of]; exact this
  · obtain rfl : ns = [] := List.eq_nil_of_length_eq_zero hlen
    obtain ⟨rfl, rfl, rfl, rfl, rfl, rfl⟩ : x1 = 0 ∧ x2 = 0 ∧ x3 = 0 ∧ x4 = 0 ∧ x5 = 0 ∧ x6 = 0 := by simp [wth] at hw; omega
    have := rread_5 (strB bs) V a n _ w hS hn hfit HI HC (rr_of ..)
    rw [← told_of]; exact this
  · obtain rfl : ns = [] := List.eq_nil_of_length_eq_zero hlen
    obtain ⟨rfl, rfl, rfl, rfl, rfl, rfl⟩ : x1 = 0 ∧ x2 = 0 ∧ x3 = 0 ∧ x4 = 0 ∧ x5 = 0 ∧ x6 = 0 := by simp [wth] at hw; omega
    have := rread_7 (strB bs) V a n _ w hS hn hfit HI HC (rr_of ..)
    rw [← told_of]; exact this
/-- Both tell the same of what stands at a place. -/
def Both (bs : List Int) (a : Int) : Prop := ∃ o x1 x2 x3 x4 x5 x6 k x : Int,
  (∀ (B : Option Addr) (n cp : Nat) (w : World), Lst w B n (bs.map (Value.int .u8)) → Calls Try.prog 23 #[.slice B n cp, .int .i64 a] w fun e w' => e = .returned (.tuple #[cv o x1 x2 x3 x4 x5 x6, .int .i64 k, .int .i64 x]) ∧ Hid (Below w.heap.size w w')) ∧
  (∀ (w : World), Calls Try.prog 24 #[.string (strB bs), .int .i64 a] w fun e w' => e = .returned (.tuple #[cv o x1 x2 x3 x4 x5 x6, .int .i64 k, .int .i64 x]) ∧ Hid (Below w.heap.size w w'))
theorem both_of (bs : List Int) (a : Int) (hbd : ∀ x ∈ bs, 0 ≤ x ∧ x ≤ 255) (hn : bs.length ≤ 2000) : Both bs a := by
  have hlen : ∀ {w : World} {B : Option Addr} {n : Nat}, Lst w B n (bs.map (Value.int .u8)) → n = bs.length := fun h => by have := h.1; simpa using this.symm
  have hS : (strB bs).size = bs.length := strB_len bs
  by_cases h : a < 0 ∨ (bs.length : Int) < a
  · refine ⟨0, 0, 0, 0, 0, 0, 0, 0, 2, fun B n cp w hl => ?_, fun w => rread_arg _ a w (by omega) (by rw [hS]; exact h)⟩
    have := hlen hl
    subst this
    exact read_arg B _ cp a w (by omega) h
  obtain ⟨k, rfl⟩ : ∃ k : Nat, a = (k : Int) := ⟨a.toNat, by omega⟩
  by_cases hk : k = bs.length
  · subst hk
    refine ⟨0, 0, 0, 0, 0, 0, 0, 0, 10, fun B n cp w hl => ?_, fun w => rread_end _ _ w hS hn⟩
    have := hlen hl
    subst this
    exact read_end B _ cp w (by omega)
  have hlt : k < bs.length := by omega
  obtain ⟨o, ho⟩ : ∃ o, bs[k]? = some o := ⟨_, List.getElem?_eq_getElem hlt⟩
  obtain ⟨o0, o9⟩ := hbd o (List.mem_of_getElem? ho)
  have HI := fun w => idxS (P := Try.prog) (t := 9) Try.underlying9 ho o0 o9 w
  by_cases h8 : 8 < o
  · refine ⟨0, 0, 0, 0, 0, 0, 0, 0, 11, fun B n cp w hl => ?_, fun w => rread_op o _ k _ w hS hn hlt h8 o9 HI⟩
    have := hlen hl
    subst this
    exact read_op_at o bs B _ cp k w h8 o9 hl (by omega) hlt ho
  by_cases hs : bs.length < k + (cnt o + 1)
  · refine ⟨0, 0, 0, 0, 0, 0, 0, 0, 10, fun B n cp w hl => ?_, fun w => rread_short o _ k _ w hS hn hlt o0 (by omega) hs HI⟩
    have := hlen hl
    subst this
    exact read_short_at o bs B _ cp k w o0 (by omega) hl (by omega) hlt ho hs
  obtain ⟨ns, hns⟩ : ∃ ns, ns = (bs.drop (k + 1)).take (cnt o) := ⟨_, rfl⟩
  have hnl : ns.length = cnt o := by rw [hns]; simp; omega
  have hnb : ∀ x ∈ ns, 0 ≤ x ∧ x ≤ 255 := fun x hx => hbd x (by rw [hns] at hx; exact List.mem_of_mem_drop (List.mem_of_mem_take hx))
  have hk' : ∀ j (hj : j < ns.length), bs[k + (j + 1)]? = some (ns[j]'hj) := fun j hj => by
    rw [← List.getElem?_eq_getElem hj]
    subst hns
    rw [List.getElem?_take_of_lt (by omega), List.getElem?_drop]
    congr 1
    omega
  obtain ⟨x1, x2, x3, x4, x5, x6, hw⟩ := wth_cv o ns
  have A1 := fun B n cp w hl hn hf => read_fit o x1 x2 x3 x4 x5 x6 ns bs B n cp k w o0 (by omega) hnl hnb hw hl hn hf ho hk'
  have A2 := fun w => rread_fit o x1 x2 x3 x4 x5 x6 ns bs _ k w o0 (by omega) hnl hnb hw rfl hn (by omega) ho hk'
  unfold told at A1 A2
  by_cases hr : RP o x1 x2 x3 x4 x5 x6
  · simp only [if_pos hr] at A1 A2
    refine ⟨o, x1, x2, x3, x4, x5, x6, _, 0, fun B n cp w hl => ?_, A2⟩
    have := hlen hl
    subst this
    exact A1 B _ cp w hl (by omega) (by omega)
  · simp only [if_neg hr] at A1 A2
    refine ⟨0, 0, 0, 0, 0, 0, 0, 0, 11, fun B n cp w hl => ?_, A2⟩
    have := hlen hl
    subst this
    exact A1 B _ cp w hl (by omega) (by omega)
end Go.Proofs.Ythnopcoahcdjjaa.Ly9
