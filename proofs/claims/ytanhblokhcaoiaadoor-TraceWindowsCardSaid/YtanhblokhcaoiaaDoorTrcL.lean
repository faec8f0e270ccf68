/- Package trace's Windows: what became of all messages; no condition but sizes. -/
import Derived.Test.YtanhblokhcaoiaaDoorTrcK
namespace Go.Proofs.YtanhblokhcaoiaaDoor.Tr
open Go.ChangeShapes Go.WideShapes Go.ChangeAt Go.RowKit Base Go.Maps
open Hl (Ev TE TI EvsAt)
set_option linter.unusedVariables false
set_option linter.unusedSimpArgs false

def P0 (e : Ev) : Pw := ⟨e.s, e.v, e.si, -1, [], [], [], []⟩
def addP (fs : List Ev) (ps : List Pw) (e : Ev) : List Pw := if bg fs e = true then ps ++ [P0 e] else ps
/-- One event more. -/
def stp (z : List Ev × List Pw) (a : Ev × List Nat) : List Ev × List Pw :=
  if isM a.1.k = true then
    (nw z.1 a.1, match (addP z.1 z.2 a.1)[(wn z.1 a.1).toNat]? with
      | some p => (addP z.1 z.2 a.1).set (wn z.1 a.1).toNat (takeP p a.1 a.2)
      | none => addP z.1 z.2 a.1)
  else z
def runP (ls : List (Ev × List Nat)) : List Ev × List Pw := ls.foldl stp ([], [])
theorem runP_next {ls : List (Ev × List Nat)} {k : Nat} {a : Ev × List Nat} (h : ls[k]? = some a) : runP (ls.take (k + 1)) = stp (runP (ls.take k)) a := by
  unfold runP
  rw [List.take_add_one, h, List.foldl_append]
  rfl
theorem stp_not {z : List Ev × List Pw} {a : Ev × List Nat} (h : isM a.1.k = false) : stp z a = z := by
  unfold stp
  rw [h]
  rfl
theorem stp_msg {fs : List Ev} {ps : List Pw} {e : Ev} {vs : List Nat} (h : isM e.k = true) {p : Pw} (hp : (addP fs ps e)[(wn fs e).toNat]? = some p) : stp (fs, ps) (e, vs) = (nw fs e, (addP fs ps e).set (wn fs e).toNat (takeP p e vs)) := by
  unfold stp
  simp only [h, if_true, hp]
def Inv (k : Nat) (z : List Ev × List Pw) : Prop := z.2.length = z.1.length ∧ Uniq z.1 ∧ (∀ f ∈ z.1, EvOk f) ∧ z.1.length ≤ k ∧ ∀ p ∈ z.2, p.ss.length ≤ k ∧ p.ts.length ≤ k ∧ p.ms.length ≤ k
theorem takeP_len {p : Pw} {e : Ev} {vs : List Nat} {k : Nat} (h : p.ss.length ≤ k ∧ p.ts.length ≤ k ∧ p.ms.length ≤ k) : (takeP p e vs).ss.length ≤ k + 1 ∧ (takeP p e vs).ts.length ≤ k + 1 ∧ (takeP p e vs).ms.length ≤ k + 1 := by
  have h1 := ins_len p.ss e.m
  have h2 := ins_len p.ts e.m
  have h3 := ins_len p.ms e.m
  unfold takeP
  split
  · exact ⟨by show (ins p.ss e.m).length ≤ _; omega, by show p.ts.length ≤ _; omega, by show p.ms.length ≤ _; omega⟩
  · split
    · exact ⟨by show p.ss.length ≤ _; omega, by show p.ts.length ≤ _; omega, by show (ins p.ms e.m).length ≤ _; omega⟩
    · split
      · split
        · exact ⟨by show p.ss.length ≤ _; omega, by show (ins p.ts e.m).length ≤ _; omega, by show p.ms.length ≤ _; omega⟩
        · exact ⟨by show p.ss.length ≤ _; omega, by show (ins p.ts e.m).length ≤ _; omega, by show p.ms.length ≤ _; omega⟩
      · omega
/-- Where an event's window is, and what it was. -/
theorem add_at {k : Nat} {fs : List Ev} {ps : List Pw} (h : Inv k (fs, ps)) (e : Ev) : ∃ p, (addP fs ps e)[(wn fs e).toNat]? = some p ∧ (p.ss.length ≤ k ∧ p.ts.length ≤ k ∧ p.ms.length ≤ k) ∧ 0 ≤ wn fs e := by
  obtain ⟨h1, h2, h3, h4, h5⟩ := h
  simp only at h1 h4 h5
  rcases @num_lt fs e with ⟨m1, m2⟩ | ⟨j, m1, m2, m3⟩
  · have hb : bg fs e = true := by unfold bg; rw [m1]; rfl
    have hw : wn fs e = (fs.length : Int) := by unfold wn; rw [if_pos m1]
    refine ⟨P0 e, ?_, ⟨Nat.zero_le _, Nat.zero_le _, Nat.zero_le _⟩, by omega⟩
    unfold addP
    rw [if_pos hb, hw, Int.toNat_natCast, ← h1]
    simp
  · have hj : ¬ ((j : Int) = -1) := by omega
    have hb : ¬ bg fs e = true := by unfold bg; rw [m1]; simp [hj]
    have hw : wn fs e = (j : Int) := by unfold wn; rw [m1, if_neg hj]
    have hl : j < ps.length := by omega
    refine ⟨ps[j], ?_, h5 _ (List.getElem_mem hl), by omega⟩
    unfold addP
    rw [if_neg hb, hw, Int.toNat_natCast, List.getElem?_eq_getElem hl]
theorem Inv.step {k : Nat} {z : List Ev × List Pw} (h : Inv k z) (a : Ev × List Nat) (ha : isM a.1.k = true → EvOk a.1) : Inv (k + 1) (stp z a) := by
  obtain ⟨fs, ps⟩ := z
  obtain ⟨e, vs⟩ := a
  cases hm : isM e.k with
  | false =>
    rw [stp_not hm]
    obtain ⟨h1, h2, h3, h4, h5⟩ := h
    exact ⟨h1, h2, h3, Nat.le_succ_of_le h4, fun p hp => by have := h5 p hp; omega⟩
  | true =>
    obtain ⟨p, hp, hpl, _⟩ := add_at h e
    rw [stp_msg hm hp]
    obtain ⟨h1, h2, h3, h4, h5⟩ := h
    simp only at h1 h2 h3 h4 h5
    have hpa : ∀ q ∈ addP fs ps e, q.ss.length ≤ k ∧ q.ts.length ≤ k ∧ q.ms.length ≤ k := by
      intro q hq
      unfold addP at hq
      split at hq
      · rcases List.mem_append.1 hq with hq | hq
        · exact h5 q hq
        · simp at hq; subst hq; exact ⟨Nat.zero_le _, Nat.zero_le _, Nat.zero_le _⟩
      · exact h5 q hq
    have hlast : ∀ q ∈ (addP fs ps e).set (wn fs e).toNat (takeP p e vs), q.ss.length ≤ k + 1 ∧ q.ts.length ≤ k + 1 ∧ q.ms.length ≤ k + 1 := by
      intro q hq
      rcases List.mem_or_eq_of_mem_set hq with hq | rfl
      · have := hpa q hq; omega
      · exact takeP_len hpl
    rcases @num_lt fs e with ⟨m1, m2⟩ | ⟨j, m1, m2, m3⟩
    · have hb : bg fs e = true := by unfold bg; rw [m1]; rfl
      have hn : nw fs e = fs ++ [e] := by unfold nw; rw [if_pos m1]
      refine ⟨?_, ?_, ?_, ?_, hlast⟩
      · show ((addP fs ps e).set _ _).length = (nw fs e).length
        rw [List.length_set, hn]
        unfold addP
        rw [if_pos hb]
        simp [h1]
      · show Uniq (nw fs e)
        rw [hn]
        exact h2.snoc m2
      · show ∀ f ∈ nw fs e, EvOk f
        rw [hn]
        intro f hf
        rcases List.mem_append.1 hf with hf | hf
        · exact h3 f hf
        · simp at hf; subst hf; exact ha hm
      · show (nw fs e).length ≤ _
        rw [hn]
        simp
        omega
    · have hj : ¬ ((j : Int) = -1) := by omega
      have hb : ¬ bg fs e = true := by unfold bg; rw [m1]; simp [hj]
      have hn : nw fs e = fs := by unfold nw; rw [m1, if_neg hj]
      refine ⟨?_, ?_, ?_, ?_, hlast⟩
      · show ((addP fs ps e).set _ _).length = (nw fs e).length
        rw [List.length_set, hn]
        unfold addP
        rw [if_neg hb]
        exact h1
      · show Uniq (nw fs e)
        rw [hn]; exact h2
      · show ∀ f ∈ nw fs e, EvOk f
        rw [hn]; exact h3
      · show (nw fs e).length ≤ _
        rw [hn]; omega
theorem inv_run {ls : List (Ev × List Nat)} (h : ∀ a ∈ ls, isM a.1.k = true → EvOk a.1) : ∀ k, k ≤ ls.length → Inv k (runP (ls.take k))
  | 0, _ => ⟨rfl, Uniq.nil, fun f hf => by (simp [runP] at hf), Nat.zero_le _, fun p hp => by (simp [runP] at hp)⟩
  | k + 1, hk => by
    have hx : ls[k]? = some ls[k] := List.getElem?_eq_getElem (by omega)
    rw [runP_next hx]
    exact (inv_run h k (by omega)).step _ (h _ (List.getElem_mem (by omega)))

/-! ### In memory -/

abbrev nilS : Value := .slice none 0 0
theorem info_w : (Tryd.prog.info? TW).map (fun i => (i.zero, i.size, i.bytes)) = some (some (.agg #[.int .i64 0, .int .i64 0, .int .i64 0, .slice none 0 0, .slice none 0 0, .slice none 0 0, .int .i64 0, .slice none 0 0]), 8, 128) := by kernel_rfl
theorem WsAt.mono {w : World} {base b' : Nat} {RV : Value} {l : List Wm} (h : WsAt w base RV l) (hb : b' ≤ base) : WsAt w b' RV l := ⟨row_mono h.own hb, fun i x hx f hf => row_mono (h.row i x hx f hf) hb, h.apart, h.ok⟩
theorem sub_nil (e : Ev) (f : Nat) : (sub ⟨P0 e, nilS, nilS, nilS, nilS⟩ f).ownBlock = none := by
  unfold sub
  split
  · rfl
  · split
    · rfl
    · split
      · rfl
      · split <;> rfl
theorem WsAt.nil (w : World) (base : Nat) : WsAt w base nilS [] where
  own := ⟨rfl, .inl ⟨rfl, rfl⟩⟩
  row := fun i x h => by simp at h
  apart := fun a b hab k ha hb => by
    cases a with
    | none => cases ha
    | some a => simp [bk] at ha
  ok := fun x hx => by cases hx
theorem WsAt.push {w w' : World} {base : Nat} {RV v' : Value} {l : List Wm} (h : WsAt w base RV l) (e : Ev) (hg : w.grownBy w' RV.ownBlock) (ho : w'.ownsRow base TW 8 v' (l.length + 1) (wmC l ++ wmL ⟨P0 e, nilS, nilS, nilS, nilS⟩)) (hK : v'.ownBlock = RV.ownBlock ∨ ∃ g, v'.ownBlock = some g ∧ w.heap.size ≤ g) :
    WsAt w' base v' (l ++ [⟨P0 e, nilS, nilS, nilS, nilS⟩]) := by
  have hbk : ∀ a, a ≠ none → bk v' (l ++ [⟨P0 e, nilS, nilS, nilS, nilS⟩]) a = bk RV l a := by
    intro a ha
    match a with
    | none => exact absurd rfl ha
    | some (i, f) =>
      show (match (l ++ [(⟨P0 e, nilS, nilS, nilS, nilS⟩ : Wm)])[i]? with | some x => (sub x f).ownBlock | none => none) = (match l[i]? with | some x => (sub x f).ownBlock | none => none)
      rcases Nat.lt_trichotomy i l.length with hi | rfl | hi
      · rw [List.getElem?_append_left hi]
      · rw [List.getElem?_append_right (Nat.le_refl _), List.getElem?_eq_none (Nat.le_refl _)]
        simp only [Nat.sub_self, List.getElem?_cons_zero]
        exact sub_nil e f
      · rw [List.getElem?_eq_none (by simp; omega), List.getElem?_eq_none (by omega)]
  refine ⟨by rw [wmC_snoc, List.length_append]; exact ho, fun i x hx f hf => ?_, ?_, fun x hx => ?_⟩
  · rcases get_snoc hx with ⟨hi, hx⟩ | ⟨rfl, rfl⟩
    · have hr := h.row i x hx f hf
      exact hr.kept hg (by
        cases e1 : (sub x f).ownBlock with
        | none => exact .inl rfl
        | some k => exact .inr (fun e2 => h.apart (some (i, f)) none (by simp) k (by simp only [bk, hx]; exact e1) e2.symm))
    · rcases (show f = 0 ∨ f = 1 ∨ f = 2 ∨ f = 3 by omega) with rfl | rfl | rfl | rfl <;> exact ⟨rfl, .inl ⟨rfl, rfl⟩⟩
  · refine h.apart.upd none hbk ?_
    rcases hK with e1 | ⟨g, e1, hge⟩
    · exact .inl e1
    · refine .inr (fun k hk a ha => ?_)
      have hk' : v'.ownBlock = some k := hk
      rw [e1] at hk'
      injection hk' with hk'
      have := (h.lt a k ha).2
      omega
  · rcases List.mem_append.1 hx with hx | hx
    · exact h.ok x hx
    · simp at hx
      subst hx
      exact ⟨List.Pairwise.nil, List.Pairwise.nil, List.Pairwise.nil⟩
theorem row_someN {w : World} {base : Nat} {T : TypeId} {s : Nat} {A : Option Addr} {N c n : Nat} {xs : List Value} (h : w.ownsRow base T s (.slice A N c) n xs) (hn : 0 < n) : ∃ g, A = some ⟨g, 0, none⟩ := by
  rcases h.2 with ⟨_, h0⟩ | ⟨g, cap, _, e, _⟩
  · omega
  · injection e with e
    exact ⟨g, e⟩
theorem bel_drew' {w w' : World} (h : w.heap.size ≤ w'.heap.size) : Below w.heap.size w' w'.drew := (Below.refl _ _).drew
theorem one_new (x : Ev) : ∀ u ∈ ([.int .i64 x.s, .int .i64 x.v, .int .i64 x.si, .slice none 0 0, .slice none 0 0, .slice none 0 0, .int .i64 (-1), .slice none 0 0] : List Value), u.oneCell' = true := by
  intro u hu
  simp at hu
  rcases hu with rfl | rfl | rfl | rfl | rfl | rfl <;> rfl
theorem ent59 : Ent 59 := ent_of Tryd.func59 (by kernel_rfl) rfl
set_option maxRecDepth 100000 in
set_option maxHeartbeats 8000000 in
theorem windows_any (A : Option Addr) (n c : Nat) (ls : List (Ev × List Nat)) (w : World) (hE : EvsAt w A n (ls.map (·.1))) (hL : ∀ a ∈ ls, Lst w a.1.A a.1.n (a.2.map bV) ∧ a.1.n ≤ 140737488351232) (hO : ∀ a ∈ ls, isM a.1.k = true → EvOk a.1) (hn : n ≤ 1000) :
    Calls Tryd.prog 34 #[.slice A n c] w fun e' w' => ∃ RV l, e' = .returned RV ∧ WsAt w' w.heap.size RV l ∧ l.map Wm.p = (runP ls).2 ∧ Below w.heap.size w w' := by
  obtain ⟨i0, hi, hz0, hz1, hz2⟩ := info_three info_w
  have HLN : Hid (ls.length = n) := Lib.hid (by have := hE.len; simpa using this)
  have HE := Lib.hid hE
  have HL := Lib.hid hL
  have HOK := Lib.hid hO
  have HINV := Lib.hid (inv_run hO)
  have HN := Lib.hid hn
  clear hE hL hO
  go_enter Tryd.func34, Tryd.ntmps34
  go_wp2_with fail
  refine (finder_any w).mono ?_
  rintro e' w1 ⟨gp, gm, rfl, h1, h2, h3, h4, h5⟩
  have HGE : Hid (w.heap.size ≤ gp ∧ w.heap.size ≤ gm ∧ gp ≠ gm) := Lib.hid ⟨h1, h2, h3⟩
  have HF1 := Lib.hid h4
  have HB1 := Lib.hid h5
  obtain ⟨base, HBS⟩ : ∃ base, Hid (w1.heap.size = base) := ⟨_, Lib.hid rfl⟩
  have HGP : Hid (gp < base ∧ gm < base) := Lib.hid (by rw [← HBS.out]; exact ⟨h4.o.lt, h4.m.lt⟩)
  have HBA0 : Hid (w.heap.size ≤ base) := Lib.hid (by rw [← HBS.out]; exact h5.size)
  clear h1 h2 h3 h4 h5
  go_wp2_with fail
  go_loopw [12, 3] (fun i rv wx => ∃ k : Nat, k ≤ n ∧ ∃ l RA rc, i = .int .i64 k ∧ rv = .slice RA l.length rc ∧ WsAt wx base (.slice RA l.length rc) l ∧ l.map Wm.p = (runP (ls.take k)).2 ∧ FndAt wx gp gm (runP (ls.take k)).1 ∧ Hid (Below w.heap.size w wx ∧ base ≤ wx.heap.size)) (fun i _ _ => n - (intOf i).toNat)
  case atStart => exact ⟨0, by omega, [], none, 0, rfl, rfl, WsAt.nil _ _, rfl, HF1.out, Lib.hid ⟨HB1.out, by rw [HBS.out]; exact Nat.le_refl _⟩⟩
  case round =>
    obtain ⟨k, hk, l, RA, rc, rfl, rfl, hws, hlp, hfd, hbk⟩ := hrel
    have HBK := Lib.hid hbk.out.1
    have HWK := Lib.hid hws
    have HLP := Lib.hid hlp
    have HFD := Lib.hid hfd
    have HBA : Hid (base ≤ wr.heap.size) := Lib.hid hbk.out.2
    clear hws hlp hfd hbk
    by_cases hlt : k < n
    · have hki : (k : Int) < (n : Int) := by omega
      have hkl : k < ls.length := by rw [HLN.out]; exact hlt
      obtain ⟨a, ha⟩ : ∃ a, ls[k]? = some a := ⟨_, List.getElem?_eq_getElem hkl⟩
      have ham := List.mem_of_getElem? ha
      have HRN := Lib.hid (runP_next ha)
      have HIV := Lib.hid (HINV.out k (by omega))
      obtain ⟨⟨fs, ps⟩, HZ⟩ : ∃ z, Hid (runP (ls.take k) = z) := ⟨_, Lib.hid rfl⟩
      rw [HZ.out] at HRN HIV HLP HFD
      obtain ⟨x, vs⟩ := a
      have HVL := Lib.hid (HL.out _ ham).1
      have HXN := Lib.hid (HL.out _ ham).2
      have HXO := Lib.hid (HOK.out _ ham)
      simp only at HVL HXN HXO
      obtain ⟨b, off, rfl, hb, k0, k1, k2, k3, k4, k5, k6, k7⟩ := (HE.out.kept HBK.out).get hlt (x := x) (by rw [List.getElem?_map, ha]; rfl)
      obtain ⟨gx, HGX⟩ : ∃ gx, Hid (wr.heap.size = gx) := ⟨_, Lib.hid rfl⟩
      obtain ⟨W5, HW5⟩ : ∃ W5, Hid (W5 = wr.alloc (.cells #[.int .i64 x.t, .int .i64 x.m, .int .i64 x.k, .int .i64 x.s, .int .i64 x.v, .int .i64 x.si, .int .i64 x.c, .slice x.A x.n x.d] TE)) := ⟨_, Lib.hid rfl⟩
      have HGXB : Hid (base ≤ gx) := Lib.hid (by rw [← HGX.out]; exact HBA.out)
      have HNR : Hid (∀ g, Value.ownBlock (.slice RA l.length rc) = some g → g < gx) := Lib.hid (fun g e => by rw [← HGX.out]; exact (HWK.out.own.lt g e).2)
      have hb5 : Below wr.heap.size wr W5 := by rw [HW5.out]; exact bel_new _ _
      have HO5 : Hid (Obj1 W5 gx TE #[.int .i64 x.t, .int .i64 x.m, .int .i64 x.k, .int .i64 x.s, .int .i64 x.v, .int .i64 x.si, .int .i64 x.c, .slice x.A x.n x.d]) := Lib.hid (by rw [HW5.out, ← HGX.out]; exact Obj1.new _ _ _)
      have HB5 := Lib.hid (HBK.out.trans (hb5.mono HBK.out.size))
      have HWS5 := Lib.hid (HWK.out.below hb5)
      have HFD5 := Lib.hid (HFD.out.kept hb5)
      have HBA5 : Hid (base ≤ W5.heap.size) := Lib.hid (Nat.le_trans HBA.out hb5.size)
      have e0 : IntKind.i64.wrap ((k : Int) + 1) = (k : Int) + 1 := IntWalk.i64_in _ (by omega)
      clear ha ham hkl hb hb5
      go_upto_region 6 with (fail)
      rw [← HW5.out, HGX.out]
      clear k0 k1 k2 k3 k4 k5 k6 k7 HW5 HGX
      have f0 : W5.cell? ⟨gx, 0, none⟩ = some (.int .i64 x.t) := HO5.out.cell 0
      have f1 : W5.cell? ⟨gx, 1, none⟩ = some (.int .i64 x.m) := HO5.out.cell 1
      have f2 : W5.cell? ⟨gx, 2, none⟩ = some (.int .i64 x.k) := HO5.out.cell 2
      have f3 : W5.cell? ⟨gx, 3, none⟩ = some (.int .i64 x.s) := HO5.out.cell 3
      have f4 : W5.cell? ⟨gx, 4, none⟩ = some (.int .i64 x.v) := HO5.out.cell 4
      have f5 : W5.cell? ⟨gx, 5, none⟩ = some (.int .i64 x.si) := HO5.out.cell 5
      have f6 : W5.cell? ⟨gx, 6, none⟩ = some (.int .i64 x.c) := HO5.out.cell 6
      have f7 : W5.cell? ⟨gx, 7, none⟩ = some (.slice x.A x.n x.d) := HO5.out.cell 7
      go_wp2_with fail
      refine (msg_any x W5).mono ?_
      rintro e' w6 ⟨rfl, hb6⟩
      have HO6 := Lib.hid (HO5.out.kept hb6)
      have HB6 := Lib.hid (HB5.out.trans (hb6.mono HB5.out.size))
      have HWS6 := Lib.hid (HWS5.out.below hb6)
      have HFD6 := Lib.hid (HFD5.out.kept hb6)
      have HBA6 : Hid (base ≤ w6.heap.size) := Lib.hid (Nat.le_trans HBA5.out hb6.size)
      clear f0 f1 f2 f3 f4 f5 f6 f7 hb6 HO5 HB5 HWS5 HFD5 HBA5 HWK HFD HBK HBA
      obtain ⟨im, HIM⟩ : ∃ m, Hid (isM x.k = m) := ⟨_, Lib.hid rfl⟩
      rw [HIM.out]
      cases im with
      | false =>
        have HR2 : Hid (runP (ls.take (k + 1)) = (fs, ps)) := Lib.hid (by rw [HRN.out]; exact stp_not HIM.out)
        go_wp2
        go_roundw
        case rel => exact ⟨k + 1, by omega, l, RA, rc, by go_num, rfl, HWS6.out, by rw [HR2.out]; exact HLP.out, by rw [HR2.out]; exact HFD6.out, Lib.hid ⟨HB6.out, HBA6.out⟩⟩
        case measure => simp [intOf]; omega
      | true =>
        have HMK : Hid (x.k = 1 ∨ x.k = 2 ∨ x.k = 3) := Lib.hid (by have := HIM.out; simp [isM] at this; omega)
        have HEV := Lib.hid (HXO.out HIM.out)
        obtain ⟨p, hp1, hp2, hp3⟩ := add_at HIV.out x
        have HWN : Hid (0 ≤ wn fs x) := Lib.hid hp3
        have HAT : Hid ((addP fs ps x)[(wn fs x).toNat]? = some p) := Lib.hid hp1
        have HPS : Hid (p.ss.length ≤ 100000 ∧ p.ts.length ≤ 100000 ∧ p.ms.length ≤ 100000) := Lib.hid (by omega)
        clear hp1 hp2 hp3
        have HFN := Lib.hid (find_any gp gm fs x w6 HFD6.out HIV.out.2.1 HGE.out.2.2 HEV.out HIV.out.2.2.1 (Nat.le_trans HIV.out.2.2.2.1 (by omega)))
        have HLL : Hid (l.length ≤ 1000) := Lib.hid (by
          have h1 := congrArg List.length HLP.out
          have h2 := HIV.out.1
          have h3 := HIV.out.2.2.2.1
          simp only [List.length_map] at h1
          simp only at h2 h3
          omega)
        have f0 : w6.cell? ⟨gx, 0, none⟩ = some (.int .i64 x.t) := HO6.out.cell 0
        have f1 : w6.cell? ⟨gx, 1, none⟩ = some (.int .i64 x.m) := HO6.out.cell 1
        have f2 : w6.cell? ⟨gx, 2, none⟩ = some (.int .i64 x.k) := HO6.out.cell 2
        have f3 : w6.cell? ⟨gx, 3, none⟩ = some (.int .i64 x.s) := HO6.out.cell 3
        have f4 : w6.cell? ⟨gx, 4, none⟩ = some (.int .i64 x.v) := HO6.out.cell 4
        have f5 : w6.cell? ⟨gx, 5, none⟩ = some (.int .i64 x.si) := HO6.out.cell 5
        have f6 : w6.cell? ⟨gx, 6, none⟩ = some (.int .i64 x.c) := HO6.out.cell 6
        have f7 : w6.cell? ⟨gx, 7, none⟩ = some (.slice x.A x.n x.d) := HO6.out.cell 7
        go_wp2_with fail
        refine HFN.out.mono ?_
        rintro e' w7 ⟨rfl, hf7, hw7⟩
        have HFQ : Hid (FndAt w7 gp gm (nw fs x)) := Lib.hid hf7.out
        have HWS7 := Lib.hid (HWS6.out.kept hw7.out (fun g e => by injection e with e; have := HGP.out; omega))
        have HNX : Hid (gx ≠ gm) := Lib.hid (by have h1 := HGP.out; have h2 := HGXB.out; omega)
        have HO7 := Lib.hid (HO6.out.touch hw7.out HNX.out)
        have HB7 := Lib.hid (HB6.out.trans (hw7.out.below HGE.out.2.1 HB6.out.size))
        have HBA7 : Hid (base ≤ w7.heap.size) := Lib.hid (Nat.le_trans HBA6.out hw7.out.size)
        clear f0 f1 f2 f3 f4 f5 f6 f7 hf7 hw7 HFN HFD6 HWS6 HO6 HB6 HBA6
        obtain ⟨B, HBG0⟩ : ∃ B, Hid (bg fs x = B) := ⟨_, Lib.hid rfl⟩
        rw [HBG0.out]
        cases B with
        | true =>
          have HAP : Hid (addP fs ps x = ps ++ [P0 x]) := Lib.hid (by unfold addP; rw [if_pos HBG0.out])
          have HR7 : Hid ((w7.alloc (.cells #[.int .i64 x.s, .int .i64 x.v, .int .i64 x.si, .slice none 0 0, .slice none 0 0, .slice none 0 0, .int .i64 (-1), .slice none 0 0] TW)).ownsRow base TW 8 (.slice RA l.length rc) l.length (wmC l)) := Lib.hid (HWS7.out.own.alloc _)
          have HN7 : Hid (∀ (j : Nat) (u : Value), ([.int .i64 x.s, .int .i64 x.v, .int .i64 x.si, .slice none 0 0, .slice none 0 0, .slice none 0 0, .int .i64 (-1), .slice none 0 0] : List Value)[j]? = some u → (w7.alloc (.cells #[.int .i64 x.s, .int .i64 x.v, .int .i64 x.si, .slice none 0 0, .slice none 0 0, .slice none 0 0, .int .i64 (-1), .slice none 0 0] TW)).cell? ((⟨w7.heap.size, 0, none⟩ : Addr).add j) = some u) := Lib.hid (cell_new w7 [.int .i64 x.s, .int .i64 x.v, .int .i64 x.si, .slice none 0 0, .slice none 0 0, .slice none 0 0, .int .i64 (-1), .slice none 0 0] TW)
          have H17 : Hid (∀ u ∈ ([.int .i64 x.s, .int .i64 x.v, .int .i64 x.si, .slice none 0 0, .slice none 0 0, .slice none 0 0, .int .i64 (-1), .slice none 0 0] : List Value), u.oneCell' = true) := Lib.hid (one_new x)
          have HM1 : Hid (l.length + 1 ≤ maxLen) := Lib.hid (by have := HLL.out; unfold maxLen; omega)
          have HM2 : Hid ((l.length + 1) * 128 ≤ 140737488355328) := Lib.hid (by have := HLL.out; omega)
          have HM3 : Hid (base ≤ (w7.alloc (.cells #[.int .i64 x.s, .int .i64 x.v, .int .i64 x.si, .slice none 0 0, .slice none 0 0, .slice none 0 0, .int .i64 (-1), .slice none 0 0] TW)).heap.size) := Lib.hid (Nat.le_trans HBA7.out (bel_new w7 _).size)
          have f3 : w7.cell? ⟨gx, 3, none⟩ = some (.int .i64 x.s) := HO7.out.cell 3
          have f4 : w7.cell? ⟨gx, 4, none⟩ = some (.int .i64 x.v) := HO7.out.cell 4
          have f5 : w7.cell? ⟨gx, 5, none⟩ = some (.int .i64 x.si) := HO7.out.cell 5
          go_upto_region 10 with (at_builtin; refine pushS _ rfl (.tmp 26) (.tmp 34) 59 rfl base TW i0 _ 8 128 Tryd.underlying59 hi hz0 hz1 hz2 rfl (by decide) _ _ _ rfl HR7.out ⟨w7.heap.size, 0, none⟩ 1 1 [.int .i64 x.s, .int .i64 x.v, .int .i64 x.si, .slice none 0 0, .slice none 0 0, .slice none 0 0, .int .i64 (-1), .slice none 0 0] rfl rfl HN7.out H17.out HM1.out HM2.out HM3.out ?_; intro vq wq O6 B6 G6 K6)
          --F1
          have hba7 : Below w7.heap.size w7 (w7.alloc (.cells #[.int .i64 x.s, .int .i64 x.v, .int .i64 x.si, .slice none 0 0, .slice none 0 0, .slice none 0 0, .int .i64 (-1), .slice none 0 0] TW)) := bel_new _ _
          have HGR : Hid (w7.grownBy wq (Value.ownBlock (.slice RA l.length rc))) := Lib.hid ⟨G6.out.os.trans hba7.os, G6.out.tape.trans hba7.tape, G6.out.output.trans hba7.output, Nat.le_trans hba7.size G6.out.size, fun k hk hne => (G6.out.block k (Nat.lt_of_lt_of_le hk hba7.size) hne).trans (hba7.block k hk)⟩
          obtain ⟨QA, Qc, hvq⟩ := row_sl O6.out
          subst hvq
          have HKQ : Hid (Value.ownBlock (.slice QA (l.length + 1) Qc) = Value.ownBlock (.slice RA l.length rc) ∨ ∃ g, Value.ownBlock (.slice QA (l.length + 1) Qc) = some g ∧ w7.heap.size ≤ g) := Lib.hid (by
            rcases K6.out with h | h
            · exact .inl h
            · exact .inr ⟨_, h, hba7.size⟩)
          have HWQ0 := Lib.hid (HWS7.out.push x HGR.out O6.out HKQ.out)
          obtain ⟨Nq, HNQ⟩ : ∃ N, Hid (l.length + 1 = N) := ⟨_, Lib.hid rfl⟩
          rw [HNQ.out] at HWQ0
          rw [HNQ.out]
          have HXQ0 : Hid ((l ++ [(⟨P0 x, nilS, nilS, nilS, nilS⟩ : Wm)])[l.length]? = some ⟨P0 x, nilS, nilS, nilS, nilS⟩) := Lib.hid (by simp)
          have HPQ0 : Hid ((l ++ [(⟨P0 x, nilS, nilS, nilS, nilS⟩ : Wm)]).map Wm.p = addP fs ps x) := Lib.hid (by rw [HAP.out, List.map_append, HLP.out]; rfl)
          have HNL0 : Hid ((l ++ [(⟨P0 x, nilS, nilS, nilS, nilS⟩ : Wm)]).length = Nq) := Lib.hid (by rw [List.length_append]; exact HNQ.out)
          generalize l ++ [(⟨P0 x, nilS, nilS, nilS, nilS⟩ : Wm)] = lq at HWQ0 HXQ0 HPQ0 HNL0
          have HWQ : Hid (WsAt wq base (.slice QA Nq Qc) lq) := Lib.hid HWQ0.out
          have HPQ : Hid (lq.map Wm.p = addP fs ps x) := Lib.hid HPQ0.out
          have HNL : Hid (lq.length = Nq) := Lib.hid HNL0.out
          have HBR : Hid (Below base w7 wq) := Lib.hid (belowB HGR.out HBA7.out (fun k hk => (HWS7.out.own.lt k hk).1))
          have HOQ : Hid (Obj1 wq gx TE #[.int .i64 x.t, .int .i64 x.m, .int .i64 x.k, .int .i64 x.s, .int .i64 x.v, .int .i64 x.si, .int .i64 x.c, .slice x.A x.n x.d]) := Lib.hid (by
            exact (HGR.out.block gx HO7.out.lt (fun e => by have := HNR.out gx e.symm; omega)).trans HO7.out)
          have HBQ : Hid (Below w.heap.size w wq) := Lib.hid (HB7.out.trans (HBR.out.mono HBA0.out))
          have HBAQ : Hid (base ≤ wq.heap.size) := Lib.hid (Nat.le_trans HBA7.out HBR.out.size)
          have HFQ2 : Hid (FndAt wq gp gm (nw fs x)) := Lib.hid ⟨HFQ.out.o.below HBR.out HGP.out.1, HFQ.out.m.of_block (HBR.out.block gm HGP.out.2)⟩
          clear O6 B6 G6 K6 hba7 HR7 HN7 H17 HM1 HM2 HM3 f3 f4 f5 HWQ0 HPQ0 HNL0 HXQ0 HKQ HO7 HB7 HBA7 HWS7 HFQ
          obtain ⟨xq, hxq1, hxq2⟩ : ∃ xq : Wm, lq[(wn fs x).toNat]? = some xq ∧ xq.p = p := by
            have h1 := HAT.out
            rw [← HPQ.out, List.getElem?_map] at h1
            obtain ⟨xq, h2, h3⟩ := Option.map_eq_some_iff.1 h1
            exact ⟨xq, h2, h3⟩
          have HXQ := Lib.hid hxq1
          have HSZQ : Hid (xq.p.ss.length ≤ 100000 ∧ xq.p.ts.length ≤ 100000 ∧ xq.p.ms.length ≤ 100000) := Lib.hid (by rw [hxq2]; exact HPS.out)
          clear hxq1 hxq2
          have HLT : Hid ((wn fs x).toNat < lq.length) := Lib.hid (List.getElem?_eq_some_iff.1 HXQ.out).1
          obtain ⟨bq, rfl⟩ := row_someN HWQ.out.own (Nat.lt_of_le_of_lt (Nat.zero_le _) HLT.out)
          obtain ⟨J, HJ⟩ : ∃ J : Nat, Hid ((wn fs x).toNat = J) := ⟨_, Lib.hid rfl⟩
          have HJI : Hid (wn fs x = (J : Int)) := Lib.hid (by have := HWN.out; have := HJ.out; omega)
          have hjn : J < Nq := by have h1 := HLT.out; have := HJ.out; have := HNL.out; omega
          have hji : (J : Int) < (Nq : Int) := by omega
          have hj0 : (0 : Int) ≤ (J : Int) := by omega
          rw [HJ.out] at HXQ
          rw [HJI.out]
          have HTK := Lib.hid (take_any base bq Nq Qc J lq xq x vs wq.drew (HWQ.out.below (bel_drew wq)) HXQ.out (HVL.out.kept (HBQ.out.drew)) HBAQ.out HXN.out HSZQ.out HMK.out)
          have f0 : wq.cell? ⟨gx, 0, none⟩ = some (.int .i64 x.t) := HOQ.out.cell 0
          have f1 : wq.cell? ⟨gx, 1, none⟩ = some (.int .i64 x.m) := HOQ.out.cell 1
          have f2 : wq.cell? ⟨gx, 2, none⟩ = some (.int .i64 x.k) := HOQ.out.cell 2
          have f3 : wq.cell? ⟨gx, 3, none⟩ = some (.int .i64 x.s) := HOQ.out.cell 3
          have f4 : wq.cell? ⟨gx, 4, none⟩ = some (.int .i64 x.v) := HOQ.out.cell 4
          have f5 : wq.cell? ⟨gx, 5, none⟩ = some (.int .i64 x.si) := HOQ.out.cell 5
          have f6 : wq.cell? ⟨gx, 6, none⟩ = some (.int .i64 x.c) := HOQ.out.cell 6
          have f7 : wq.cell? ⟨gx, 7, none⟩ = some (.slice x.A x.n x.d) := HOQ.out.cell 7
          refine wp_region_any (by kernel_rfl) ?_
          change wpAny _ _ _ _ _ _ _ (World.drew _)
          refine wpAny_take (i := 0) (v := .slice (some ⟨bq, 0, none⟩) Nq Qc) rfl (by kernel_rfl) (by kernel_rfl) (by kernel_rfl) (fun _ _ _ h => h) (Or.inl ⟨by rfl, fun w => by go_simp⟩) ?_
          try simp only [Act.put, List.getElem_toArray, List.getElem_cons_succ, List.getElem_cons_zero, List.setIfInBounds_toArray, List.set_cons_zero, List.set_cons_succ]
          refine wpAny_take (i := 1) (v := .int .i64 (J : Int)) rfl (by kernel_rfl) (by kernel_rfl) (by kernel_rfl) (fun _ _ _ h => h) (Or.inl ⟨by rfl, fun w => by go_simp⟩) ?_
          try simp only [Act.put, List.getElem_toArray, List.getElem_cons_succ, List.getElem_cons_zero, List.setIfInBounds_toArray, List.set_cons_zero, List.set_cons_succ]
          refine wpAny_take (i := 2) (v := .pointer (some ⟨bq, J * 8, none⟩)) rfl (by kernel_rfl) (by kernel_rfl) (by kernel_rfl) (fun _ _ _ h => h) (Or.inl ⟨by rfl, fun w => by go_simp⟩) ?_
          try simp only [Act.put, List.getElem_toArray, List.getElem_cons_succ, List.getElem_cons_zero, List.setIfInBounds_toArray, List.set_cons_zero, List.set_cons_succ]
          refine wpAny_ready (rs := [3]) (by kernel_rfl) (by simp) ?_
          refine AllReady.cons rfl (fun KK hK => ?_) AllReady.nil
          go_simp
          refine hK _ _ ?_
          clear hK KK
          try simp only [Act.put, List.getElem_toArray, List.getElem_cons_succ, List.getElem_cons_zero, List.setIfInBounds_toArray, List.set_cons_zero, List.set_cons_succ]
          refine wpAny_ready (rs := [4]) (by kernel_rfl) (by simp) ?_
          refine AllReady.cons rfl (fun KK hK => ?_) AllReady.nil
          go_simp
          refine HTK.out.mono ?_
          rintro e' w8 ⟨rfl, l8, h1, h2, h3⟩
          have HW8 := Lib.hid h1
          have HP8 := Lib.hid h2
          have HB8 : Hid (Below base wq w8) := Lib.hid ((show Below base wq wq.drew from (Below.refl _ _).drew).trans h3)
          clear h1 h2 h3
          refine hK _ _ ?_
          clear hK KK
          try simp only [Act.put, List.getElem_toArray, List.getElem_cons_succ, List.getElem_cons_zero, List.setIfInBounds_toArray, List.set_cons_zero, List.set_cons_succ]
          refine wpAny_done (by kernel_rfl) ?_ _
          clear f0 f1 f2 f3 f4 f5 f6 f7 HTK
          have HL8 : Hid (l8.length = Nq) := Lib.hid (by
            have := congrArg List.length HP8.out
            simp only [List.length_map, List.length_set] at this
            rw [this, HNL.out])
          have HZ8 : Hid (l8.map Wm.p = (runP (ls.take (k + 1))).2 ∧ (runP (ls.take (k + 1))).1 = nw fs x) := Lib.hid (by
            have := stp_msg (fs := fs) (ps := ps) (e := x) (vs := vs) HIM.out (p := xq.p) (by rw [← HPQ.out, List.getElem?_map, HJ.out, HXQ.out]; rfl)
            rw [HRN.out, this]
            exact ⟨by rw [HP8.out, HPQ.out, HJ.out], rfl⟩)
          go_wp2
          go_roundw
          case rel => exact ⟨k + 1, by omega, l8, _, Qc, by go_num, by rw [HL8.out], by rw [HL8.out]; exact HW8.out, HZ8.out.1, by rw [HZ8.out.2]; exact ⟨HFQ2.out.o.below HB8.out HGP.out.1, HFQ2.out.m.of_block (HB8.out.block gm HGP.out.2)⟩, Lib.hid ⟨HBQ.out.trans (HB8.out.mono HBA0.out), Nat.le_trans HBAQ.out HB8.out.size⟩⟩
          case measure => simp [intOf]; omega

        | false =>
          have HAP : Hid (addP fs ps x = ps) := Lib.hid (by unfold addP; rw [if_neg (by rw [HBG0.out]; simp)])
          have HPQ : Hid (l.map Wm.p = addP fs ps x) := Lib.hid (by rw [HAP.out]; exact HLP.out)
          obtain ⟨Nq, HNL⟩ : ∃ N, Hid (l.length = N) := ⟨_, Lib.hid rfl⟩
          rw [HNL.out] at HWS7
          rw [HNL.out]
          go_upto_region 10 with (fail)
          obtain ⟨xq, hxq1, hxq2⟩ : ∃ xq : Wm, l[(wn fs x).toNat]? = some xq ∧ xq.p = p := by
            have h1 := HAT.out
            rw [← HPQ.out, List.getElem?_map] at h1
            obtain ⟨xq, h2, h3⟩ := Option.map_eq_some_iff.1 h1
            exact ⟨xq, h2, h3⟩
          have HXQ := Lib.hid hxq1
          have HSZQ : Hid (xq.p.ss.length ≤ 100000 ∧ xq.p.ts.length ≤ 100000 ∧ xq.p.ms.length ≤ 100000) := Lib.hid (by rw [hxq2]; exact HPS.out)
          clear hxq1 hxq2
          have HLT : Hid ((wn fs x).toNat < l.length) := Lib.hid (List.getElem?_eq_some_iff.1 HXQ.out).1
          obtain ⟨bq, rfl⟩ := row_someN HWS7.out.own (Nat.lt_of_le_of_lt (Nat.zero_le _) HLT.out)
          obtain ⟨J, HJ⟩ : ∃ J : Nat, Hid ((wn fs x).toNat = J) := ⟨_, Lib.hid rfl⟩
          have HJI : Hid (wn fs x = (J : Int)) := Lib.hid (by have := HWN.out; have := HJ.out; omega)
          have hjn : J < Nq := by have h1 := HLT.out; have := HJ.out; have := HNL.out; omega
          have hji : (J : Int) < (Nq : Int) := by omega
          have hj0 : (0 : Int) ≤ (J : Int) := by omega
          rw [HJ.out] at HXQ
          rw [HJI.out]
          have HTK := Lib.hid (take_any base bq Nq rc J l xq x vs w7.drew (HWS7.out.below (bel_drew w7)) HXQ.out (HVL.out.kept (HB7.out.drew)) HBA7.out HXN.out HSZQ.out HMK.out)
          have f0 : w7.cell? ⟨gx, 0, none⟩ = some (.int .i64 x.t) := HO7.out.cell 0
          have f1 : w7.cell? ⟨gx, 1, none⟩ = some (.int .i64 x.m) := HO7.out.cell 1
          have f2 : w7.cell? ⟨gx, 2, none⟩ = some (.int .i64 x.k) := HO7.out.cell 2
          have f3 : w7.cell? ⟨gx, 3, none⟩ = some (.int .i64 x.s) := HO7.out.cell 3
          have f4 : w7.cell? ⟨gx, 4, none⟩ = some (.int .i64 x.v) := HO7.out.cell 4
          have f5 : w7.cell? ⟨gx, 5, none⟩ = some (.int .i64 x.si) := HO7.out.cell 5
          have f6 : w7.cell? ⟨gx, 6, none⟩ = some (.int .i64 x.c) := HO7.out.cell 6
          have f7 : w7.cell? ⟨gx, 7, none⟩ = some (.slice x.A x.n x.d) := HO7.out.cell 7
          refine wp_region_any (by kernel_rfl) ?_
          change wpAny _ _ _ _ _ _ _ (World.drew _)
          refine wpAny_take (i := 0) (v := .slice (some ⟨bq, 0, none⟩) Nq rc) rfl (by kernel_rfl) (by kernel_rfl) (by kernel_rfl) (fun _ _ _ h => h) (Or.inl ⟨by rfl, fun w => by go_simp⟩) ?_
          try simp only [Act.put, List.getElem_toArray, List.getElem_cons_succ, List.getElem_cons_zero, List.setIfInBounds_toArray, List.set_cons_zero, List.set_cons_succ]
          refine wpAny_take (i := 1) (v := .int .i64 (J : Int)) rfl (by kernel_rfl) (by kernel_rfl) (by kernel_rfl) (fun _ _ _ h => h) (Or.inl ⟨by rfl, fun w => by go_simp⟩) ?_
          try simp only [Act.put, List.getElem_toArray, List.getElem_cons_succ, List.getElem_cons_zero, List.setIfInBounds_toArray, List.set_cons_zero, List.set_cons_succ]
          refine wpAny_take (i := 2) (v := .pointer (some ⟨bq, J * 8, none⟩)) rfl (by kernel_rfl) (by kernel_rfl) (by kernel_rfl) (fun _ _ _ h => h) (Or.inl ⟨by rfl, fun w => by go_simp⟩) ?_
          try simp only [Act.put, List.getElem_toArray, List.getElem_cons_succ, List.getElem_cons_zero, List.setIfInBounds_toArray, List.set_cons_zero, List.set_cons_succ]
          refine wpAny_ready (rs := [3]) (by kernel_rfl) (by simp) ?_
          refine AllReady.cons rfl (fun KK hK => ?_) AllReady.nil
          go_simp
          refine hK _ _ ?_
          clear hK KK
          try simp only [Act.put, List.getElem_toArray, List.getElem_cons_succ, List.getElem_cons_zero, List.setIfInBounds_toArray, List.set_cons_zero, List.set_cons_succ]
          refine wpAny_ready (rs := [4]) (by kernel_rfl) (by simp) ?_
          refine AllReady.cons rfl (fun KK hK => ?_) AllReady.nil
          go_simp
          refine HTK.out.mono ?_
          rintro e' w8 ⟨rfl, l8, h1, h2, h3⟩
          have HW8 := Lib.hid h1
          have HP8 := Lib.hid h2
          have HB8 : Hid (Below base w7 w8) := Lib.hid ((show Below base w7 w7.drew from (Below.refl _ _).drew).trans h3)
          clear h1 h2 h3
          refine hK _ _ ?_
          clear hK KK
          try simp only [Act.put, List.getElem_toArray, List.getElem_cons_succ, List.getElem_cons_zero, List.setIfInBounds_toArray, List.set_cons_zero, List.set_cons_succ]
          refine wpAny_done (by kernel_rfl) ?_ _
          clear f0 f1 f2 f3 f4 f5 f6 f7 HTK
          have HL8 : Hid (l8.length = Nq) := Lib.hid (by
            have := congrArg List.length HP8.out
            simp only [List.length_map, List.length_set] at this
            rw [this, HNL.out])
          have HZ8 : Hid (l8.map Wm.p = (runP (ls.take (k + 1))).2 ∧ (runP (ls.take (k + 1))).1 = nw fs x) := Lib.hid (by
            have := stp_msg (fs := fs) (ps := ps) (e := x) (vs := vs) HIM.out (p := xq.p) (by rw [← HPQ.out, List.getElem?_map, HJ.out, HXQ.out]; rfl)
            rw [HRN.out, this]
            exact ⟨by rw [HP8.out, HPQ.out, HJ.out], rfl⟩)
          go_wp2
          go_roundw
          case rel => exact ⟨k + 1, by omega, l8, _, rc, by go_num, by rw [HL8.out], by rw [HL8.out]; exact HW8.out, HZ8.out.1, by rw [HZ8.out.2]; exact ⟨HFQ.out.o.below HB8.out HGP.out.1, HFQ.out.m.of_block (HB8.out.block gm HGP.out.2)⟩, Lib.hid ⟨HB7.out.trans (HB8.out.mono HBA0.out), Nat.le_trans HBA7.out HB8.out.size⟩⟩
          case measure => simp [intOf]; omega

    · have hje : k = n := by omega
      subst hje
      have HT : Hid (ls.take k = ls) := Lib.hid (List.take_of_length_le (by rw [HLN.out]; exact Nat.le_refl _))
      rw [HT.out] at HLP
      go_wp2
      go_ret
      exact ⟨_, l, rfl, HWK.out.mono HBA0.out, HLP.out, HBK.out⟩
end Go.Proofs.YtanhblokhcaoiaaDoor.Tr
