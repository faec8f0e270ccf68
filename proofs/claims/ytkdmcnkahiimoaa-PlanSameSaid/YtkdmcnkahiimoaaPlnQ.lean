/- Words for schedules that are held against one another: alike both ways, a copy like its original; what an int that is written into memory leaves of windows; no condition. -/
import Derived.Test.YtkdmcnkahiimoaaPlnN
namespace Go.Proofs.Ytkdmcnkahiimoaa.Ly7
open Go.ChangeShapes Go.WideShapes Go.ChangeAt Go.RowKit Base
set_option linter.unusedVariables false
set_option linter.unusedSimpArgs false

theorem beq_sym {α : Type} [BEq α] [LawfulBEq α] (a b : α) : (a == b) = (b == a) := by
  rw [Bool.eq_iff_iff, beq_iff_eq, beq_iff_eq]
  exact ⟨Eq.symm, Eq.symm⟩
theorem wEq_sym (x z : Wd) : wEq x z = wEq z x := by
  unfold wEq
  rw [beq_sym x.k z.k, beq_sym x.b z.b, beq_sym x.wd z.wd, beq_sym x.ad z.ad, beq_sym x.fs z.fs, beq_sym x.ts z.ts]
theorem wsEq_sym : ∀ (a b : List Wd), wsEq a b = wsEq b a
  | [], [] => rfl
  | [], _ :: _ => rfl
  | _ :: _, [] => rfl
  | x :: r, z :: s => by simp only [wsEq]; rw [wEq_sym, wsEq_sym r s]
theorem scEq_sym (s o : Sc) : scEq s o = scEq o s := by
  unfold scEq
  rw [beq_sym s.md o.md, wsEq_sym s.w0 o.w0, wsEq_sym s.w1 o.w1]
theorem wEq_cp (z : Wd) (a b : Nat) : wEq z (z.cp a b) = true := by simp [wEq, Wd.cp]
theorem cps_eq {ws us : List Wd} {lo hi : Nat} {w : World} (h : Cps ws us lo hi w) (hl : ws.length = us.length) : wsEq ws us = true :=
  wsEq_true hl (fun j x z hx hz => by
    obtain ⟨z', a, b, h1, rfl, _⟩ := h.2 j z hz
    rw [hx] at h1
    cases h1
    exact wEq_cp x a b)
/-- A number with its lowest bit turned is another one. -/
theorem xor_ne (a : Int) : Go.bits BinOp.xor IntKind.i64 a 1 ≠ a := by
  intro h
  have h1 : ((BitVec.ofInt 64 a ^^^ BitVec.ofInt 64 1).toNat) % 2 = ((BitVec.ofInt 64 a).toNat + 1) % 2 := by
    rw [BitVec.toNat_xor]
    have h0 : (BitVec.ofInt 64 1).toNat = 1 := by decide
    rw [h0]
    generalize (BitVec.ofInt 64 a).toNat = y
    have := Nat.testBit_xor y 1 0
    simp only [Nat.testBit_zero] at this
    rcases Nat.mod_two_eq_zero_or_one y with hy | hy <;> rcases Nat.mod_two_eq_zero_or_one (y ^^^ 1) with hz | hz <;> simp [hy, hz] at this <;> omega
  have h2 : ((BitVec.ofInt 64 a).toNat : Int) = a % 18446744073709551616 := by
    rw [BitVec.toNat_ofInt]
    omega
  have h3 : IntKind.i64.wrap ((BitVec.ofInt 64 a ^^^ BitVec.ofInt 64 1).toNat : Int) = a := h
  generalize (BitVec.ofInt 64 a ^^^ BitVec.ofInt 64 1).toNat = x at h1 h3
  generalize (BitVec.ofInt 64 a).toNat = y at h1 h2
  simp only [IntKind.wrap, IntKind.bits, IntKind.signed] at h3
  simp at h3
  omega
/-- Numbers read behind one that was written. -/
theorem lst_int {w : World} {A : Option Addr} {n : Nat} {xs : List Int} (h : Lst w A n (xs.map (Value.int .i64))) (p o : Nat) (v : Int) :
    ∃ ys : List Int, Lst (w.setCell ⟨p, o, none⟩ (.int .i64 v)) A n (ys.map (Value.int .i64)) ∧ (∀ b off, A = some ⟨b, off, none⟩ → b ≠ p → ys = xs) ∧ (A = some ⟨p, o, none⟩ → 0 < n → ys[0]? = some v) := by
  have hl : xs.length = n := by have := h.1; simpa using this
  rcases Nat.eq_zero_or_pos n with h0 | h0
  · subst h0
    have : xs = [] := List.eq_nil_of_length_eq_zero hl
    subst this
    exact ⟨[], ⟨rfl, fun h => by omega⟩, fun _ _ _ _ => rfl, fun _ h => by omega⟩
  · obtain ⟨b, off, rfl, hlt, hc⟩ := h.2 h0
    have hsz : (w.setCell ⟨p, o, none⟩ (.int .i64 v)).heap.size = w.heap.size := by simp [World.setCell]
    by_cases hb : b = p
    · subst hb
      refine ⟨(List.range n).map (fun k => if off + k = o then v else xs.getD k 0), ⟨by simp, fun _ => ⟨b, off, rfl, by rw [hsz]; exact hlt, fun k hk => ?_⟩⟩, fun b' off' e hne => ?_, fun e _ => ?_⟩
      · have h1 := hc k hk
        rw [List.getElem?_map, List.getElem?_eq_getElem (by rw [hl]; exact hk)] at h1
        rw [List.getElem?_map, List.getElem?_map, List.getElem?_range hk]
        by_cases e : off + k = o
        · subst e
          rw [World.cell?_setCell_same _ _ _ h1]
          simp
        · rw [World.cell?_setCell_other _ _ _ _ (by intro h; injection h with _ h2; omega), h1]
          simp only [Option.map_some, if_neg e, List.getD_eq_getElem?_getD, List.getElem?_eq_getElem (show k < xs.length by rw [hl]; exact hk), Option.getD_some]
      · injection e with e
        injection e with e1
        exact absurd e1.symm (by omega)
      · injection e with e
        injection e with _ e2
        rw [List.getElem?_map, List.getElem?_range h0]
        simp [e2]
    · refine ⟨xs, ⟨h.1, fun _ => ⟨b, off, rfl, by rw [hsz]; exact hlt, fun k hk => ?_⟩⟩, fun _ _ _ _ => rfl, fun e _ => ?_⟩
      · rw [World.cell?_of_block (Below.heap_setCell w ⟨p, o, none⟩ _ b (by simpa using hb))]
        exact hc k hk
      · injection e with e
        injection e with e1
        exact absurd e1 hb
/-- What windows are behind an int that was written at a place of their row, or elsewhere. -/
def Wr (p o R : Nat) (v : Int) (i : Nat) (x x' : Wd) : Prop :=
  x'.n = x.n ∧ x'.m = x.m ∧ x'.c = x.c ∧ x'.d = x.d ∧ x'.A = x.A ∧ x'.B = x.B ∧ (p = R ∧ o = i * 6 + 3 → x'.ad = v) ∧ (x.B = some ⟨p, o, none⟩ → 0 < x.m → x'.ts[0]? = some v) ∧ (∀ b off, x.B = some ⟨b, off, none⟩ → b ≠ p → x'.ts = x.ts)
theorem wins_int {w : World} {R n : Nat} {us : List Wd} (h : WinsAt w (some ⟨R, 0, none⟩) n us) (p o : Nat) (v : Int) (hp : p ≠ R ∨ ∃ k, k < n ∧ o = k * 6 + 3) :
    ∃ us', WinsAt (w.setCell ⟨p, o, none⟩ (.int .i64 v)) (some ⟨R, 0, none⟩) n us' ∧ us'.length = us.length ∧ ∀ i x x', us[i]? = some x → us'[i]? = some x' → Wr p o R v i x x' := by
  have hsz : (w.setCell ⟨p, o, none⟩ (.int .i64 v)).heap.size = w.heap.size := by simp [World.setCell]
  have hx : ∀ i, ∃ x' : Wd, ∀ x, us[i]? = some x → (x'.Ok (w.setCell ⟨p, o, none⟩ (.int .i64 v)) ∧ Wr p o R v i x x' ∧ x'.k = x.k ∧ x'.b = x.b ∧ x'.wd = x.wd ∧ x'.ad = if p = R ∧ o = i * 6 + 3 then v else x.ad) := by
    intro i
    cases hi : us[i]? with
    | none => exact ⟨⟨0, 0, 0, 0, none, 0, 0, [], none, 0, 0, []⟩, fun x hx => by cases hx⟩
    | some x =>
      have hok := h.ok x (List.mem_of_getElem? hi)
      obtain ⟨fs', hf, _, _⟩ := lst_int hok.fl p o v
      obtain ⟨ts', ht, ht1, ht2⟩ := lst_int hok.tl p o v
      refine ⟨⟨x.k, x.b, x.wd, if p = R ∧ o = i * 6 + 3 then v else x.ad, x.A, x.n, x.c, fs', x.B, x.m, x.d, ts'⟩, fun y hy => ?_⟩
      cases hy
      exact ⟨⟨hf, ht, hok.nc, hok.md, hok.cm, hok.dm⟩, ⟨rfl, rfl, rfl, rfl, rfl, rfl, fun h => if_pos h, ht2, ht1⟩, rfl, rfl, rfl, rfl⟩
  have hch : ∃ F : Nat → Wd, ∀ i x, us[i]? = some x → ((F i).Ok (w.setCell ⟨p, o, none⟩ (.int .i64 v)) ∧ Wr p o R v i x (F i) ∧ (F i).k = x.k ∧ (F i).b = x.b ∧ (F i).wd = x.wd ∧ (F i).ad = if p = R ∧ o = i * 6 + 3 then v else x.ad) :=
    ⟨fun i => Classical.choose (hx i), fun i => Classical.choose_spec (hx i)⟩
  obtain ⟨F, hF⟩ := hch
  have hln := h.len
  have hat : ∀ i x', ((List.range n).map F)[i]? = some x' → i < n ∧ x' = F i := fun i x' hx' => by
    have hi : i < n := by
      have := (List.getElem?_eq_some_iff.1 hx').1
      simpa using this
    rw [List.getElem?_map, List.getElem?_range hi] at hx'
    simp at hx'
    exact ⟨hi, hx'.symm⟩
  refine ⟨(List.range n).map F, ⟨by simp, fun hn => ?_, fun x hx => ?_⟩, by simp [hln], fun i x x' hx hx' => ?_⟩
  · obtain ⟨b, off, e, hlt, hc⟩ := h.at' hn
    injection e with e
    injection e with e1 e2
    subst e1 e2
    refine ⟨R, 0, rfl, by rw [hsz]; exact hlt, fun i hi j hj => ?_⟩
    have hin : i < n := by simpa using hi
    have hil : i < us.length := by rw [hln]; exact hin
    have h1 := hc i hil j hj
    obtain ⟨_, hw, hk, hb, hwd, had⟩ := hF i _ (List.getElem?_eq_getElem hil)
    simp only [List.getElem_map, List.getElem_range]
    have hsome : ∃ u, w.cell? ⟨R, 0 + i * 6 + j, none⟩ = some u := by
      rw [h1]
      rcases (show j = 0 ∨ j = 1 ∨ j = 2 ∨ j = 3 ∨ j = 4 ∨ j = 5 by omega) with rfl | rfl | rfl | rfl | rfl | rfl <;> exact ⟨_, rfl⟩
    obtain ⟨u, hu⟩ := hsome
    by_cases e : p = R ∧ o = 0 + i * 6 + j
    · obtain ⟨rfl, rfl⟩ := e
      rw [World.cell?_setCell_same _ _ _ hu]
      rcases hp with hp | ⟨k, hk, hp⟩
      · exact absurd rfl hp
      · have hj3 : j = 3 ∧ k = i := by omega
        obtain ⟨rfl, rfl⟩ := hj3
        rw [if_pos ⟨rfl, by omega⟩] at had
        show some _ = some (Value.int IntKind.i64 (F k).ad)
        rw [had]
    · rw [World.cell?_setCell_other _ _ _ _ (by intro h; injection h with h2 h3; exact e ⟨h2, h3⟩), h1]
      rcases (show j = 0 ∨ j = 1 ∨ j = 2 ∨ j = 3 ∨ j = 4 ∨ j = 5 by omega) with rfl | rfl | rfl | rfl | rfl | rfl
      · show some (Value.int IntKind.i64 _) = some (Value.int IntKind.i64 _); rw [hk]
      · show some (Value.int IntKind.i64 _) = some (Value.int IntKind.i64 _); rw [hb]
      · show some (Value.int IntKind.i64 _) = some (Value.int IntKind.i64 _); rw [hwd]
      · show some (Value.int IntKind.i64 _) = some (Value.int IntKind.i64 _)
        rw [had, if_neg (fun h => e ⟨h.1, by omega⟩)]
      · show some (Value.slice _ _ _) = some (Value.slice _ _ _); rw [hw.1, hw.2.2.1, hw.2.2.2.2.1]
      · show some (Value.slice _ _ _) = some (Value.slice _ _ _); rw [hw.2.1, hw.2.2.2.1, hw.2.2.2.2.2.1]
  · obtain ⟨i, hi, rfl⟩ := List.getElem_of_mem hx
    have hin : i < n := by simpa using hi
    simp only [List.getElem_map, List.getElem_range]
    exact (hF i _ (List.getElem?_eq_getElem (by rw [hln]; exact hin))).1
  · obtain ⟨_, rfl⟩ := hat i x' hx'
    exact (hF i x hx).2.1
end Go.Proofs.Ytkdmcnkahiimoaa.Ly7
