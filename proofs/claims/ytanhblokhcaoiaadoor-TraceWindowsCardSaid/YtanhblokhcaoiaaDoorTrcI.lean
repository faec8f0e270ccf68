/- A list that rises, with one more (package trace's rising), and a copy of bytes (the library's Clone); no condition but sizes. -/
import Derived.Test.YtanhblokhcaoiaaDoorTrcH
namespace Go.Proofs.YtanhblokhcaoiaaDoor.Tr
open Go.ChangeShapes Go.WideShapes Go.ChangeAt Go.RowKit Base Go.Maps
open Hl (Ev TE TI)
set_option linter.unusedVariables false
set_option linter.unusedSimpArgs false

def pos (l : List Int) (x : Int) : Nat := l.countP (fun a => decide (a < x))
/-- A list that rises, with one more. -/
def ins (l : List Int) (x : Int) : List Int := if l.contains x = true then l else insL l (pos l x) x
theorem pos_le (l : List Int) (x : Int) : pos l x ≤ l.length := List.countP_le_length
theorem pos_cut : ∀ (l : List Int) (x : Int), l.Pairwise (· < ·) → (∀ a ∈ l.take (pos l x), a < x) ∧ (∀ a ∈ l.drop (pos l x), ¬ a < x)
  | [], x, _ => ⟨fun a h => (by simp at h), fun a h => (by simp at h)⟩
  | y :: r, x, h => by
    rw [List.pairwise_cons] at h
    by_cases hy : y < x
    · have e : pos (y :: r) x = pos r x + 1 := by unfold pos; rw [List.countP_cons]; simp [hy]
      obtain ⟨h1, h2⟩ := pos_cut r x h.2
      rw [e, List.take_succ_cons, List.drop_succ_cons]
      refine ⟨fun a ha => ?_, h2⟩
      rcases List.mem_cons.1 ha with rfl | ha
      · exact hy
      · exact h1 a ha
    · have e : pos (y :: r) x = 0 := by
        unfold pos
        rw [List.countP_eq_zero]
        intro a ha
        have : x ≤ a := by
          rcases List.mem_cons.1 ha with rfl | ha
          · omega
          · have := h.1 a ha; omega
        simp only [decide_eq_true_eq]
        omega
      rw [e]
      refine ⟨fun a ha => by simp at ha, fun a ha => ?_⟩
      rw [List.drop_zero] at ha
      rcases List.mem_cons.1 ha with rfl | ha
      · exact hy
      · have := h.1 a ha; omega
theorem ins_len (l : List Int) (x : Int) : (ins l x).length = l.length ∨ (ins l x).length = l.length + 1 := by
  unfold ins
  split
  · exact .inl rfl
  · exact .inr (insL_len l _ x (pos_le l x))
theorem ins_sorted {l : List Int} {x : Int} (h : l.Pairwise (· < ·)) : (ins l x).Pairwise (· < ·) := by
  unfold ins
  split
  · exact h
  · rename_i hc
    have hc : x ∉ l := by simpa using hc
    obtain ⟨h1, h2⟩ := pos_cut l x h
    have hs : (l.take (pos l x) ++ l.drop (pos l x)).Pairwise (· < ·) := by rw [List.take_append_drop]; exact h
    rw [List.pairwise_append] at hs
    obtain ⟨s1, s2, s3⟩ := hs
    unfold insL
    rw [List.append_assoc, List.pairwise_append]
    refine ⟨s1, ?_, fun a ha b hb => ?_⟩
    · rw [List.singleton_append, List.pairwise_cons]
      refine ⟨fun b hb => ?_, s2⟩
      have := h2 b hb
      have hne : b ≠ x := fun e => hc (by rw [← e]; exact List.mem_of_mem_drop hb)
      omega
    · rw [List.singleton_append, List.mem_cons] at hb
      rcases hb with rfl | hb
      · exact h1 a ha
      · exact s3 a ha b hb
/-- Whose block it is behind a call: the same, or a newer one. -/
def Grow (w : World) (v v' : Value) : Prop := v'.ownBlock = v.ownBlock ∨ ∃ g, v'.ownBlock = some g ∧ w.heap.size ≤ g
theorem getD_map (l : List Int) (j : Nat) (h : j < l.length) : (l.map iV)[j]? = some (.int .i64 (l.getD j 0)) := by
  rw [List.getElem?_map, List.getElem?_eq_getElem h]
  simp [iV, List.getD_eq_getElem?_getD, List.getElem?_eq_getElem h]
theorem bs_any (base : Nat) (v : Value) (l : List Int) (x : Int) (W : World) (hO : W.ownsRow base TI 1 v l.length (l.map iV)) (hs : l.Pairwise (· < ·)) (hn : l.length ≤ 100000) :
    Calls Tryd.prog 68 #[v, .int .i64 x] W fun e' w' => e' = .returned (.tuple #[.int .i64 (pos l x : Nat), .bool (l.contains x)]) ∧ Below W.heap.size W w' := by
  rcases hO.2 with ⟨rfl, h0⟩ | ⟨g, cap, cur, rfl, hbg, hg, hnc, hcm, hcs, htake⟩
  · obtain rfl : l = [] := List.length_eq_zero_iff.1 h0
    refine (Tryd.slices_BinarySearch_int_empty none 0 x W).mono ?_
    rintro e' w' ⟨rfl, rfl⟩
    exact ⟨rfl, Below.refl _ _⟩
  · have hO1 : Obj1 W g TI cur := hg
    refine (Tryd.slices_BinarySearch_int g 0 l.length cap l x W (Nat.le_refl _) (by omega) (fun j hj => ?_) (by rw [List.take_of_length_le (Nat.le_refl _)]; exact hs.imp (fun h => Int.le_of_lt h))).mono ?_
    · rw [hO1.cell, Nat.zero_add, ← getD_map l j hj, ← htake, List.getElem?_take, if_pos (by omega), Array.getElem?_toList]
    · rintro e' w' ⟨rfl, q, rfl⟩
      rw [List.take_of_length_le (Nat.le_refl _)]
      exact ⟨rfl, below_drewN' (Below.refl _ _) q⟩
set_option maxRecDepth 100000 in
set_option maxHeartbeats 1000000 in
theorem rising_any (base : Nat) (v : Value) (l : List Int) (x : Int) (W : World) (hO : W.ownsRow base TI 1 v l.length (l.map iV)) (hs : l.Pairwise (· < ·)) (hb : base ≤ W.heap.size) (hn : l.length ≤ 100000) :
    Calls Tryd.prog 61 #[v, .int .i64 x] W fun e' w' => ∃ v', e' = .returned v' ∧ w'.ownsRow base TI 1 v' (ins l x).length ((ins l x).map iV) ∧ W.grownBy w' v.ownBlock ∧ Grow W v v' := by
  have HBS := Lib.hid (bs_any base v l x W hO hs hn)
  have HO := Lib.hid hO
  have HLE := Lib.hid (pos_le l x)
  have HBB := Lib.hid hb
  have HN := Lib.hid hn
  obtain ⟨c, HC⟩ : ∃ c, Hid (l.contains x = c) := ⟨_, Lib.hid rfl⟩
  rw [HC.out] at HBS
  obtain ⟨p, HP⟩ : ∃ p, Hid (pos l x = p) := ⟨_, Lib.hid rfl⟩
  rw [HP.out] at HBS HLE
  have hp0 : (0 : Int) ≤ (p : Int) := by omega
  clear hO hs hb hn
  go_enter Tryd.func61, Tryd.ntmps61
  go_wp2_with fail
  refine HBS.out.mono ?_
  rintro e' w1 ⟨rfl, hb1⟩
  have HB1 := Lib.hid hb1
  have HO1 := Lib.hid (own_kept HO.out hb1)
  clear hb1 HBS
  cases c with
  | true =>
    have HI : Hid (ins l x = l) := Lib.hid (by unfold ins; rw [HC.out]; rfl)
    go_wp2
    go_ret
    exact ⟨v, rfl, by rw [HI.out]; exact HO1.out, grown_of HB1.out, .inl rfl⟩
  | false =>
    have HI : Hid (ins l x = insL l p x) := Lib.hid (by unfold ins; rw [HC.out, HP.out]; rfl)
    obtain ⟨gv, HGV⟩ : ∃ g, Hid (w1.heap.size = g) := ⟨_, Lib.hid rfl⟩
    obtain ⟨W2, HW2⟩ : ∃ W2, Hid (W2 = w1.alloc (.cells #[.int .i64 x] TI)) := ⟨_, Lib.hid rfl⟩
    have hb2 : Below w1.heap.size w1 W2 := by rw [HW2.out]; exact bel_new _ _
    have HO2 := Lib.hid (own_kept HO1.out hb2)
    have HB2 : Hid (Below W.heap.size W W2) := Lib.hid (HB1.out.trans (hb2.mono HB1.out.size))
    have HOV : Hid (Obj1 W2 gv TI #[.int .i64 x]) := Lib.hid (by rw [HW2.out, ← HGV.out]; exact Obj1.new _ _ _)
    have HNE : Hid (v.ownBlock ≠ some gv) := Lib.hid (fun e => by have := (HO1.out.lt gv e).2; have := HGV.out; omega)
    have HIN := Lib.hid (insert_any base v l p x gv W2 HO2.out HLE.out HOV.out HNE.out (Nat.le_trans HBB.out HB2.out.size) HN.out)
    clear hb2
    go_wp2_with fail
    rw [← HW2.out, HGV.out]
    refine HIN.out.mono ?_
    rintro e' w3 ⟨v', rfl, h1, h2, h3⟩
    have H1 := Lib.hid h1
    have H2 := Lib.hid h2
    have H3 := Lib.hid h3
    clear h1 h2 h3 HIN
    go_wp2
    go_ret
    refine ⟨v', rfl, by rw [HI.out]; exact H1.out, ?_, ?_⟩
    · exact ⟨H2.out.os.trans HB2.out.os, H2.out.tape.trans HB2.out.tape, H2.out.output.trans HB2.out.output, Nat.le_trans HB2.out.size H2.out.size, fun k hk hne => (H2.out.block k (Nat.lt_of_lt_of_le hk HB2.out.size) hne).trans (HB2.out.block k hk)⟩
    · rcases H3.out with h | h
      · exact .inl h
      · exact .inr ⟨_, h, HB2.out.size⟩

/-! ### A copy of bytes -/

abbrev TU8 : TypeId := 5
abbrev bV (x : Nat) : Value := .int .u8 x
theorem info_u8 : (Tryd.prog.info? TU8).map (fun i => (i.zero, i.size, i.bytes)) = some (some (.int .u8 0), 1, 1) := by kernel_rfl
set_option maxRecDepth 1000000 in
theorem nil_yes (d : Nat) (w : World) : (binOp .eql 33 (.slice none 0 d) (.slice none 0 0)).run Tryd.prog w = .ok (.bool true) w := by first | rfl | kernel_rfl | simp [binOp, go_sem, Tryd.underlying33]
set_option maxRecDepth 1000000 in
theorem nil_no (ad : Addr) (m d : Nat) (w : World) : (binOp .eql 33 (.slice (some ad) m d) (.slice none 0 0)).run Tryd.prog w = .ok (.bool false) w := by first | rfl | kernel_rfl | simp [binOp, go_sem, Tryd.underlying33]
set_option maxRecDepth 100000 in
set_option maxHeartbeats 2000000 in
theorem clone_any (B : Option Addr) (m d : Nat) (vs : List Nat) (w : World) (hW : Lst w B m (vs.map bV)) (hm : m ≤ 140737488351232) :
    Calls Tryd.prog 62 #[.slice B m d] w fun e w' => ∃ v, e = .returned v ∧ w'.ownsRow w.heap.size TU8 1 v vs.length (vs.map bV) ∧ Below w.heap.size w w' := by
  obtain ⟨i0, hi, hz0, hz1, hz2⟩ := info_three info_u8
  have HLM : Hid (vs.length = m) := Lib.hid (by have := hW.1; simpa using this)
  have HW := Lib.hid hW
  clear hW
  cases B with
  | none =>
    have hm0 : m = 0 := by
      rcases Nat.eq_zero_or_pos m with h | h
      · exact h
      · obtain ⟨b, off, e, _⟩ := HW.out.2 h; cases e
    subst hm0
    have hl : vs = [] := List.eq_nil_of_length_eq_zero HLM.out
    subst hl
    have hnil := fun W => nil_yes d W
    have HO : Hid (w.ownsRow w.heap.size TU8 1 (.slice none 0 0) 0 []) := Lib.hid ⟨rfl, .inl ⟨rfl, rfl⟩⟩
    go_enter Tryd.func62, Tryd.ntmps62
    go_wp2
    go_ret
    exact ⟨_, rfl, HO.out, Below.refl _ _⟩
  | some ad =>
    have HL : Hid ((vs.map bV).length = m * 1) := Lib.hid (by have := HLM.out; simp; omega)
    have HN : Hid (∀ (j : Nat) (u : Value), (vs.map bV)[j]? = some u → w.cell? (ad.add j) = some u) := Lib.hid (fun j u hj => by
      have hjl : j < m := by have := HL.out; have := (List.getElem?_eq_some_iff.1 hj).1; omega
      obtain ⟨b, off, e, hb, hc⟩ := HW.out.2 (by omega)
      injection e with e
      subst e
      rw [add_eq, hc j (by simpa [HLM.out] using hjl)]
      rw [← hj, List.getElem?_eq_getElem (by have := HLM.out; simp; omega)])
    have H1 : Hid (∀ u ∈ vs.map bV, u.oneCell' = true) := Lib.hid (fun u hu => by obtain ⟨x, _, rfl⟩ := List.mem_map.1 hu; rfl)
    have HE : Hid ((w.alloc (.cells #[] TU8)).ownsRow w.heap.size TU8 1 (.slice (some ⟨w.heap.size, 0, none⟩) 0 0) 0 []) := Lib.hid (own_empty w TU8)
    have HBa := bel_new w (.cells #[] TU8)
    have HN2 : Hid (∀ (j : Nat) (u : Value), (vs.map bV)[j]? = some u → (w.alloc (.cells #[] TU8)).cell? (ad.add j) = some u) := Lib.hid (fun j u hj => by
      have h := HN.out j u hj
      rw [HBa.cell (World.block_lt_of_cell? w _ h)]
      exact h)
    have HBA := Lib.hid HBa
    have hnil := fun W => nil_no ad m d W
    clear HBa
    go_enter Tryd.func62, Tryd.ntmps62
    go_wp2_with (at_builtin; refine pushS _ rfl (.tmp 5) (.tmp 6) 33 rfl w.heap.size TU8 i0 (.int .u8 0) 1 1 Tryd.underlying33 hi hz0 hz1 hz2 rfl (by decide) _ _ _ rfl HE.out ad m d (vs.map bV) rfl HL.out HN2.out H1.out (by unfold maxLen; omega) (by omega) HBA.out.size ?_; intro v5 w5 O5 B5 G5 K5)
    have HO5 : Hid (w5.ownsRow w.heap.size TU8 1 v5 vs.length (vs.map bV)) := Lib.hid (by have := O5.out; rw [List.nil_append, Nat.zero_add] at this; rw [HLM.out]; exact this)
    have HB5 : Hid (Below w.heap.size w w5) := Lib.hid (HBA.out.trans B5.out)
    clear O5 B5 G5 K5
    go_wp2
    go_ret
    exact ⟨_, rfl, HO5.out, HB5.out⟩
end Go.Proofs.YtanhblokhcaoiaaDoor.Tr
