/- A row in which a struct is put in another's place; what the document's walk holds then; words as strings; no condition. -/
import Derived.Deep.MidRow
import Derived.Test.YtanhblokhcaoiaaDoorTrcX
import Derived.Test.YtanhblokhcaoiaaDoorStr
namespace Go.Proofs.YtanhblokhcaoiaaDoor.Tr
open Go.ChangeShapes Go.WideShapes Go.ChangeAt Go.RowKit Base Go.Maps
open Hl (Ev TE TI EvsAt evL evC)
set_option linter.unusedVariables false
set_option linter.unusedSimpArgs false

def setsL : List Value → Nat → List Value → List Value
  | xs, _, [] => xs
  | xs, o, v :: vs => setsL (xs.set o v) (o + 1) vs
theorem row_sets {base s : Nat} {T : TypeId} {g cap n : Nat} : ∀ (vs : List Value) (o : Nat) (w : World) (xs : List Value), w.ownsRow base T s (.slice (some ⟨g, 0, none⟩) n cap) n xs →
    (w.setCells g o vs).ownsRow base T s (.slice (some ⟨g, 0, none⟩) n cap) n (setsL xs o vs) ∧ Wrote g w (w.setCells g o vs)
  | [], _, w, _, h => ⟨h, Wrote.refl g w⟩
  | v :: vs, o, w, xs, h => by
    obtain ⟨h1, h2⟩ := h.stored o v
    obtain ⟨h3, h4⟩ := row_sets vs (o + 1) (w.setCell ⟨g, o, none⟩ v) (xs.set o v) h1
    exact ⟨h3, Wrote.trans h2 h4⟩
theorem set_cons8 (b : Ev) (l : List Value) (i : Nat) (v : Value) : (evL b ++ l).set (i + 8) v = evL b ++ l.set i v := rfl
theorem ev_sets : ∀ (bs : List Ev) (J : Nat) (x : Ev), J < bs.length → setsL (evC bs) (J * 8) (evL x) = evC (bs.set J x)
  | [], _, _, h => absurd h (Nat.not_lt_zero _)
  | b :: bs, 0, x, _ => rfl
  | b :: bs, J + 1, x, h => by
    have ih := ev_sets bs J x (Nat.lt_of_succ_lt_succ h)
    show setsL (evL b ++ evC bs) ((J + 1) * 8) (evL x) = evL b ++ evC (bs.set J x)
    rw [← ih, show (J + 1) * 8 = J * 8 + 8 by omega]
    rfl
theorem row_there {w : World} {base cap N g : Nat} {bs : List Ev} (h : w.ownsRow base TE 8 (.slice (some ⟨g, 0, none⟩) N cap) N (evC bs)) {J : Nat} (hJ : J < bs.length) : w.there g (J * 8) 8 := fun i hi => by
  have h1 := Hl.evC_at bs J i bs[J] (List.getElem?_eq_getElem hJ) hi
  have h2 : i < (evL bs[J]).length := hi
  rw [List.getElem?_eq_getElem h2] at h1
  have h3 := row_cellN h h1
  exact ⟨by rw [h3.1]; rfl, h3.2⟩
theorem LW.setB {w0 w : World} {base N b9 c9 J : Nat} {v5 v6 v7 v8 : Value} {fs : List Ev} {sv tv mv : List Value} {bs : List Ev} {ps : List Pw} {p : Pw} {x : Ev} {vs : List Nat} (h : LW w0 w base N v5 v6 v7 v8 (.slice (some ⟨b9, 0, none⟩) N c9) fs sv tv mv bs ps) (hp : ps[J]? = some p)
    (hl : Lst w0 x.A x.n (vs.map bV)) (hx : x.n ≤ 40) :
    LW w0 (w.setCells b9 (J * 8) (evL x)) base N v5 v6 v7 v8 (.slice (some ⟨b9, 0, none⟩) N c9) fs sv tv mv (bs.set J x) (ps.set J { p with c := x.c, ws := vs }) := by
  have hJ : J < bs.length := by
    have h1 := (List.getElem?_eq_some_iff.1 hp).1
    have h2 := h.best.1
    have h3 := h.len.2
    omega
  have hown := h.rows.own 4 _ rfl
  obtain ⟨h1, h2⟩ := row_sets (evL x) (J * 8) w (evC bs) hown
  rw [ev_sets bs J x hJ] at h1
  have hS := (St.of h).grow (k := 4) rfl (show TE ≠ TI from by decide) h2 (it' := ⟨TE, 8, .slice (some ⟨b9, 0, none⟩) N c9, N, evC (bs.set J x)⟩) h1 (.inl rfl)
  refine ⟨hS.be, ?_, ?_, ?_, ⟨by rw [List.length_set]; exact h.best.1, fun j b z hbj hz => ?_⟩, h.len.1, by rw [List.length_set]; exact h.len.2⟩
  · rw [map_set_same (y := { p with c := x.c, ws := vs }) (·.ss) hp rfl]; exact hS.ss
  · rw [map_set_same (y := { p with c := x.c, ws := vs }) (·.ts) hp rfl]; exact hS.ts
  · rw [map_set_same (y := { p with c := x.c, ws := vs }) (·.ms) hp rfl]; exact hS.ms
  · rw [List.getElem?_set] at hbj hz
    by_cases hj : J = j
    · subst hj
      rw [if_pos rfl, if_pos hJ] at hbj
      rw [if_pos rfl, if_pos (List.getElem?_eq_some_iff.1 hp).1] at hz
      injection hbj with hbj
      injection hz with hz
      subst hbj
      subst hz
      exact ⟨rfl, hl, hx⟩
    · rw [if_neg hj] at hbj hz
      exact h.best.2 j b z hbj hz
/-- What was taken first, behind an event that took. -/
def pB (p : Pw) (e : Ev) (vs : List Nat) : Pw := if p.ts = [] then { p with c := e.c, ws := vs } else p
theorem pB_ts (p : Pw) (e : Ev) (vs : List Nat) : (pB p e vs).ts = p.ts ∧ (pB p e vs).ss = p.ss ∧ (pB p e vs).ms = p.ms := by
  unfold pB
  split <;> exact ⟨rfl, rfl, rfl⟩
theorem take_two {p : Pw} {e : Ev} {vs : List Nat} (h : e.k = 2) : takeP p e vs = { pB p e vs with ts := ins p.ts e.m } := by
  unfold takeP pB
  rw [if_neg (by omega), if_neg (by omega), if_pos h]
  split <;> rfl
theorem alk_two {fs : List Ev} {ps : List Pw} {e : Ev} {vs : List Nat} {p : Pw} (hm : isM e.k = true) (h : e.k = 2) (hp : (addP fs ps e)[(wn fs e).toNat]? = some p) : alk (fs, ps) (e, vs) = (decide (e.c = (pB p e vs).c) && decide (vs = (pB p e vs).ws)) := by
  unfold alk pB
  rw [if_pos ⟨hm, h⟩]
  simp only [hp]
  by_cases ht : p.ts = []
  · rw [if_pos ht]
    simp [ht]
  · rw [if_neg ht, decide_eq_false ht, Bool.false_or]
    rw [← Bool.decide_and]
    exact decide_eq_decide.2 ⟨fun h => ⟨h.1.symm, h.2.symm⟩, fun h => ⟨h.1.symm, h.2.symm⟩⟩
theorem str_eq {vs us : List Nat} (hv : ∀ y ∈ vs, y < 256) (hu : ∀ y ∈ us, y < 256) : (strB (vs.map fun (x : Nat) => (x : Int)) == strB (us.map fun (x : Nat) => (x : Int))) = decide (vs = us) := by
  have e1 : ∀ X Y : List Int, (strB X == strB Y) = (Lib.bytesOf X == Lib.bytesOf Y) := by
    intro X Y
    rw [show (strB X == strB Y) = ((strB X).data == (strB Y).data) from by cases strB X; cases strB Y; rfl, Bool.eq_iff_iff, beq_iff_eq, beq_iff_eq, strB_eq, strB_eq]
    constructor
    · intro h
      have h := congrArg Array.toList h
      simpa [Lib.bytesOf] using h
    · intro h
      have h2 : X.map (fun n => UInt8.ofNat n.toNat) = Y.map (fun n => UInt8.ofNat n.toNat) := h
      rw [h2]
  rw [e1]
  exact bytes_eq hv hu
theorem str_conv {w : World} {A : Option Addr} {n c : Nat} {vs : List Nat} (h : Lst w A n (vs.map bV)) : (convert 33 9 (.slice A n c)).run Tryd.prog w = .ok (.string (strB (vs.map fun (x : Nat) => (x : Int)))) w := by
  refine convB ?_
  rw [List.map_map]
  exact h
theorem addP_ws {fs : List Ev} {ps : List Pw} {e : Ev} (h : ∀ p ∈ ps, ∀ y ∈ p.ws, y < 256) : ∀ p ∈ addP fs ps e, ∀ y ∈ p.ws, y < 256 := by
  unfold addP
  split
  · intro p hp
    rcases List.mem_append.1 hp with hp | hp
    · exact h p hp
    · simp at hp
      subst hp
      intro y hy
      cases hy
  · exact h
theorem takeP_ws {p : Pw} {e : Ev} {vs : List Nat} (h : ∀ y ∈ p.ws, y < 256) (hv : ∀ y ∈ vs, y < 256) : ∀ y ∈ (takeP p e vs).ws, y < 256 := by
  unfold takeP
  split
  · exact h
  · split
    · exact h
    · split
      · split
        · exact hv
        · exact h
      · exact h
theorem stp_ws {z : List Ev × List Pw} {a : EW} (h : ∀ p ∈ z.2, ∀ y ∈ p.ws, y < 256) (ha : ∀ y ∈ a.2, y < 256) : ∀ p ∈ (stp z a).2, ∀ y ∈ p.ws, y < 256 := by
  unfold stp
  split
  · have h2 := addP_ws (fs := z.1) (e := a.1) h
    show ∀ p ∈ (match (addP z.1 z.2 a.1)[(wn z.1 a.1).toNat]? with | some p => (addP z.1 z.2 a.1).set (wn z.1 a.1).toNat (takeP p a.1 a.2) | none => addP z.1 z.2 a.1), ∀ y ∈ p.ws, y < 256
    cases hp : (addP z.1 z.2 a.1)[(wn z.1 a.1).toNat]? with
    | none => exact h2
    | some p =>
      intro q hq
      rcases List.mem_or_eq_of_mem_set hq with hq | rfl
      · exact h2 q hq
      · exact takeP_ws (h2 p (List.mem_of_getElem? hp)) ha
  · exact h
theorem run_ws : ∀ (ls : List EW), (∀ a ∈ ls, ∀ y ∈ a.2, y < 256) → ∀ p ∈ (runP ls).2, ∀ y ∈ p.ws, y < 256 := by
  have key : ∀ (ls : List EW) (z : List Ev × List Pw), (∀ p ∈ z.2, ∀ y ∈ p.ws, y < 256) → (∀ a ∈ ls, ∀ y ∈ a.2, y < 256) → ∀ p ∈ (ls.foldl stp z).2, ∀ y ∈ p.ws, y < 256 := by
    intro ls
    induction ls with
    | nil => intro z h _; exact h
    | cons a r ih => intro z h ha; exact ih _ (stp_ws h (ha a (List.mem_cons_self ..))) (fun b hb => ha b (List.mem_cons_of_mem _ hb))
  intro ls ha
  exact key ls ([], []) (fun p hp => by cases hp) ha
/-- Each window says of which event it began. -/
def Hd (z : List Ev × List Pw) : Prop := z.2.length = z.1.length ∧ ∀ (j : Nat) (p : Pw) (f : Ev), z.2[j]? = some p → z.1[j]? = some f → p.s = f.s ∧ p.v = f.v ∧ p.t = f.si
theorem takeP_hd (p : Pw) (e : Ev) (vs : List Nat) : (takeP p e vs).s = p.s ∧ (takeP p e vs).v = p.v ∧ (takeP p e vs).t = p.t := by
  unfold takeP
  split
  · exact ⟨rfl, rfl, rfl⟩
  · split
    · exact ⟨rfl, rfl, rfl⟩
    · split
      · split <;> exact ⟨rfl, rfl, rfl⟩
      · exact ⟨rfl, rfl, rfl⟩
theorem add_hd {fs : List Ev} {ps : List Pw} (h : Hd (fs, ps)) (e : Ev) : Hd (nw fs e, addP fs ps e) := by
  unfold nw addP bg
  by_cases hm : num fs e = -1
  · rw [if_pos hm, if_pos (by simpa using hm)]
    have h1 : ps.length = fs.length := h.1
    refine ⟨by simp [h1], fun j p f hp hf => ?_⟩
    rcases get_snoc hp with ⟨hj, hp⟩ | ⟨rfl, rfl⟩
    · refine h.2 j p f hp ?_
      simp only at hf
      rw [List.getElem?_append_left (by omega)] at hf
      exact hf
    · simp only at hf
      rw [h1, List.getElem?_append_right (Nat.le_refl _)] at hf
      simp at hf
      subst hf
      exact ⟨rfl, rfl, rfl⟩
  · rw [if_neg hm, if_neg (by simpa using hm)]
    exact h
theorem stp_hd {z : List Ev × List Pw} (h : Hd z) (a : EW) : Hd (stp z a) := by
  obtain ⟨fs, ps⟩ := z
  unfold stp
  split
  · have h2 := add_hd h a.1
    show Hd (nw fs a.1, match (addP fs ps a.1)[(wn fs a.1).toNat]? with | some p => (addP fs ps a.1).set (wn fs a.1).toNat (takeP p a.1 a.2) | none => addP fs ps a.1)
    cases hp : (addP fs ps a.1)[(wn fs a.1).toNat]? with
    | none => exact h2
    | some p =>
      refine ⟨by simpa using h2.1, fun j q f hq hf => ?_⟩
      simp only at hq hf
      rw [List.getElem?_set] at hq
      by_cases hj : (wn fs a.1).toNat = j
      · subst hj
        rw [if_pos rfl, if_pos (List.getElem?_eq_some_iff.1 hp).1] at hq
        injection hq with hq
        subst hq
        obtain ⟨e1, e2, e3⟩ := takeP_hd p a.1 a.2
        rw [e1, e2, e3]
        exact h2.2 _ p f hp hf
      · rw [if_neg hj] at hq
        exact h2.2 j q f hq hf
  · exact h
theorem run_hd (ls : List EW) : Hd (runP ls) := by
  unfold runP
  have key : ∀ (ls : List EW) (z : List Ev × List Pw), Hd z → Hd (ls.foldl stp z) := by
    intro ls
    induction ls with
    | nil => intro z h; exact h
    | cons a r ih => intro z h; exact ih _ (stp_hd h a)
  exact key ls ([], []) ⟨rfl, fun j p f hp => by simp at hp⟩
theorem ins_same (l : List Int) (x : Int) : (((ins l x).length : Int) == (l.length : Int)) = l.contains x := by
  unfold ins
  cases hc : l.contains x with
  | true => simp
  | false =>
    have := insL_len l (pos l x) x (pos_le l x)
    simp only [Bool.false_eq_true, if_false, this]
    simp
    omega
theorem any_next {l : List Int} {k : Nat} {x : Int} (h : l[k]? = some x) (F : Int → Bool) : (l.take (k + 1)).any F = ((l.take k).any F || F x) := by
  rw [List.take_add_one, h, List.any_append]
  simp
theorem ba_self (S : ByteArray) : (S == S) = true := by
  rw [show (S == S) = (S.data == S.data) from by cases S; rfl]
  exact beq_self_eq_true _
theorem ba_nself (S : ByteArray) : (S != S) = false := by unfold bne; rw [ba_self]; rfl
theorem lst_own {w : World} {base : Nat} {T : TypeId} {A : Option Addr} {n c : Nat} {xs : List Value} (h : w.ownsRow base T 1 (.slice A n c) n xs) : Lst w A n xs := by
  obtain ⟨A', c', e, _, hl⟩ := row_lst h
  injection e with e1 _ _
  subst e1
  exact hl
theorem wm_cell {w : World} {base N c bR : Nat} {l : List Wm} (h : w.ownsRow base TW 8 (.slice (some ⟨bR, 0, none⟩) N c) N (wmC l)) {j : Nat} {x : Wm} (hx : l[j]? = some x) {i : Nat} (hi : i < 8) : w.cell? ⟨bR, j * 8 + i, none⟩ = (wmL x)[i]? := by
  have h1 := wmC_at l j i x hx hi
  have h2 : i < (wmL x).length := hi
  rw [List.getElem?_eq_getElem h2] at h1 ⊢
  exact (row_cellN h h1).1
/-- Does one of the first modules stand in a list? -/
def anyc (ts mods : List Int) (t : Nat) : Bool := (mods.take t).any (fun x => ts.contains x)
theorem anyc_next {ts mods : List Int} {t : Nat} {x : Int} (h : mods[t]? = some x) : anyc ts mods (t + 1) = (anyc ts mods t || ts.contains x) := any_next h _
theorem anyc_all {ts ms mods : List Int} {m : Nat} (h : mods.length = m) : agr ts ms mods = (!(anyc ts mods m) || !(anyc ms mods m)) := by
  unfold agr anyc
  rw [List.take_of_length_le (by omega)]
/-- What With gives, as one of a drawn region's values. -/
def WithV (n : Nat) : Sp := fun v _ => ∃ A' c', v = .slice A' n c'
theorem WithV.stable (n : Nat) : Stable (WithV n) := fun v w w' h _ => h
theorem WithV.ex (n : Nat) (w : World) : ∃ v, ∃ x : Kin w, WithV n v x.world := ⟨.slice none n 0, Kin.me w, none, 0, rfl⟩
theorem with_v {base : Nat} {A : Option Addr} {c : Nat} {l : List Int} {x : Int} {w : World} (hO : w.ownsRow base TI 1 (.slice A l.length c) l.length (l.map iV)) (hs : l.Pairwise (· < ·)) (hb : base ≤ w.heap.size) (hn : l.length ≤ 100000) :
    Calls Tryd.prog 33 #[.slice A l.length c, .int .i64 x] w fun e w' => ∃ v, e = .returned v ∧ Below w.heap.size w w' ∧ WithV (ins l x).length v w' :=
  (with_any base A c l x w hO hs hb hn).mono (by
    rintro e w' ⟨A', c', rfl, _, hb⟩
    exact ⟨_, rfl, hb, A', c', rfl⟩)
theorem str_eqL {vs us : List Nat} (hv : ∀ y ∈ vs, y < 256) (hu : ∀ y ∈ us, y < 256) : ((strB (vs.map fun (x : Nat) => (x : Int))).toList == (strB (us.map fun (x : Nat) => (x : Int))).toList) = decide (vs = us) := by
  rw [← bytes_eq hv hu, Lib.toList_data, Lib.toList_data, strB_eq, strB_eq]
  rfl
end Go.Proofs.YtanhblokhcaoiaaDoor.Tr
