/- A frame's windows as they come in; the slots that a module has of them; the contracts of package plan's View and Frame; no condition but sizes. -/
import Derived.Test.YtkankdecbefenaaDoorPlnE
namespace Go.Proofs.YtkankdecbefenaaDoor.Ly7
open Go.ChangeShapes Go.WideShapes Go.ChangeAt Go.RowKit Base
set_option linter.unusedVariables false
set_option linter.unusedSimpArgs false

/-- Windows that lie one behind the other. -/
structure WinsAt (w : World) (A : Option Addr) (n : Nat) (ws : List Wd) : Prop where
  len : ws.length = n
  at' : 0 < n → ∃ b off, A = some ⟨b, off, none⟩ ∧ b < w.heap.size ∧ ∀ i (hi : i < ws.length), ∀ j, j < 6 → w.cell? ⟨b, off + i * 6 + j, none⟩ = ((ws[i]'hi).cells)[j]?
  ok : ∀ x ∈ ws, x.Ok w
theorem WinsAt.kept {w w' : World} {A : Option Addr} {n : Nat} {ws : List Wd} (h : WinsAt w A n ws) (hb : Below w.heap.size w w') : WinsAt w' A n ws where
  len := h.len
  at' := fun hn => by
    obtain ⟨b, off, e, hlt, hc⟩ := h.at' hn
    exact ⟨b, off, e, Nat.lt_of_lt_of_le hlt hb.size, fun i hi j hj => (hb.cell (p := ⟨b, off + i * 6 + j, none⟩) hlt).trans (hc i hi j hj)⟩
  ok := fun x hx => (h.ok x hx).kept hb
theorem WinsAt.six {w : World} {A : Option Addr} {n : Nat} {ws : List Wd} (h : WinsAt w A n ws) {i : Nat} (hi : i < n) {x : Wd} (hx : ws[i]? = some x) : ∃ b off, A = some ⟨b, off, none⟩ ∧ b < w.heap.size ∧
    w.cell? ⟨b, off + i * 6, none⟩ = some (.int .i64 x.k) ∧ w.cell? ⟨b, off + i * 6 + 1, none⟩ = some (.int .i64 x.b) ∧ w.cell? ⟨b, off + i * 6 + 2, none⟩ = some (.int .i64 x.wd) ∧ w.cell? ⟨b, off + i * 6 + 3, none⟩ = some (.int .i64 x.ad) ∧
    w.cell? ⟨b, off + i * 6 + 4, none⟩ = some (.slice x.A x.n x.c) ∧ w.cell? ⟨b, off + i * 6 + 5, none⟩ = some (.slice x.B x.m x.d) ∧ x.Ok w := by
  obtain ⟨b, off, e, hlt, hc⟩ := h.at' (by omega)
  obtain ⟨hil, rfl⟩ := List.getElem?_eq_some_iff.1 hx
  exact ⟨b, off, e, hlt, hc i hil 0 (by omega), hc i hil 1 (by omega), hc i hil 2 (by omega), hc i hil 3 (by omega), hc i hil 4 (by omega), hc i hil 5 (by omega), h.ok _ (List.getElem_mem hil)⟩
def Wd.g (x : Wd) : Nat := cutN x.b 1000
def Wd.u (x : Wd) : Nat := cutN x.wd 8
def Wd.q (x : Wd) : Nat := max (min x.n 4) 1
def Wd.tk (x : Wd) : Int := tkI x.k x.g x.u x.q
theorem Wd.tk_bd (x : Wd) : 0 ≤ x.tk ∧ x.tk ≤ 20000 := by
  have := cutN_le x.b 1000
  have := cutN_le x.wd 8
  exact tkI_bd _ (by unfold Wd.g; omega) (by unfold Wd.u; omega) (by unfold Wd.q; omega) (by unfold Wd.q; omega)
/-- The slot that a module has of a window. -/
def Wd.sl (x : Wd) (y s : Int) : List Sl :=
  if x.k = 0 then [⟨0, s, x.tk, x.u, x.ad, x.q, cdI x.fs y, x.ts.contains y⟩] else if x.k = 1 ∨ x.k = 2 then [⟨x.k, s, x.tk, 0, 0, 0, -1, false⟩] else []
def endS : List Wd → Int → Int
  | [], s => s
  | x :: r, s => endS r (s + x.tk)
def midL (y : Int) : List Wd → Int → List Sl
  | [], _ => []
  | x :: r, s => x.sl y s ++ midL y r (s + x.tk)
theorem endS_snoc (l : List Wd) (x : Wd) : ∀ s, endS (l ++ [x]) s = endS l s + x.tk := by
  induction l with
  | nil => intro s; rfl
  | cons z r ih => intro s; exact ih _
theorem midL_snoc (y : Int) (l : List Wd) (x : Wd) : ∀ s, midL y (l ++ [x]) s = midL y l s ++ x.sl y (endS l s) := by
  induction l with
  | nil => intro s; simp [midL, endS]
  | cons z r ih => intro s; simp only [List.cons_append, midL, ih, endS, List.append_assoc]
theorem endS_bd (l : List Wd) : ∀ s, s ≤ endS l s ∧ endS l s ≤ s + 20000 * l.length := by
  induction l with
  | nil => intro s; simp [endS]
  | cons x r ih =>
    intro s
    have := ih (s + x.tk)
    have := x.tk_bd
    simp only [endS, List.length_cons]
    omega
theorem sl_len (x : Wd) (y s : Int) : (x.sl y s).length ≤ 1 := by unfold Wd.sl; split <;> (try split) <;> simp
theorem midL_len (y : Int) (l : List Wd) : ∀ s, (midL y l s).length ≤ l.length := by
  induction l with
  | nil => intro s; simp [midL]
  | cons x r ih =>
    intro s
    have := ih (s + x.tk)
    have := sl_len x y s
    simp only [midL, List.length_append, List.length_cons]
    omega
theorem take_next {l : List Wd} {i : Nat} {x : Wd} (hx : l[i]? = some x) : l.take (i + 1) = l.take i ++ [x] := by rw [List.take_add_one, hx]; rfl
def leadI (ver : Nat) : Int := 200 + 40 * (ver : Int)
def slHead (ver : Nat) : Sl := ⟨3, 0, leadI ver, 0, 0, 0, -1, false⟩
def slLast (s : Int) : Sl := ⟨4, s, 120, 0, 0, 0, -1, false⟩
def viewL (ver : Nat) (y : Int) (ws : List Wd) : List Sl := (slHead ver :: midL y ws (leadI ver)) ++ [slLast (endS ws (leadI ver))]
theorem midL_next {y : Int} {ws : List Wd} {i ver : Nat} {x : Wd} (hx : ws[i]? = some x) : slHead ver :: midL y (ws.take (i + 1)) (leadI ver) = (slHead ver :: midL y (ws.take i) (leadI ver)) ++ x.sl y (endS (ws.take i) (leadI ver)) := by
  rw [take_next hx, midL_snoc]
  rfl
theorem endS_next {ws : List Wd} {i ver : Nat} {x : Wd} (hx : ws[i]? = some x) : endS (ws.take (i + 1)) (leadI ver) = endS (ws.take i) (leadI ver) + x.tk := by rw [take_next hx, endS_snoc]
set_option maxRecDepth 100000 in
set_option maxHeartbeats 4000000 in
theorem frame_any (md : Int) (A0 : Option Addr) (n0 c0 : Nat) (A1 : Option Addr) (n1 c1 : Nat) (A : Option Addr) (n c : Nat) (ver : Nat) (ws : List Wd) (w : World) (hv : (ver = 0 ∧ A = A0 ∧ n = n0 ∧ c = c0) ∨ (ver = 1 ∧ A = A1 ∧ n = n1 ∧ c = c1)) (hW : WinsAt w A n ws) (hn : n ≤ 1000) :
    Calls Tryd.prog 14 #[.agg #[.int .i64 md, .slice A0 n0 c0, .slice A1 n1 c1], .int .i64 (ver : Int)] w fun e w' => e = .returned (.int .i64 (endS ws (leadI ver) + 120)) ∧ Below w.heap.size w w' := by
  have HW := Lib.hid hW
  have HIS := Lib.hid (fun W => is_yes ver (by omega) W)
  have v2 : ver < 2 := by omega
  have v2i : (ver : Int) < 2 := by omega
  obtain ⟨gb, HGB⟩ : ∃ gb, Hid (w.heap.size = gb) := ⟨_, Lib.hid rfl⟩
  obtain ⟨W1, HW1⟩ : ∃ W1, W1 = w.alloc (.cells #[.int .i64 md, .slice A0 n0 c0, .slice A1 n1 c1] 25) := ⟨_, rfl⟩
  have HB1 : Hid (Below w.heap.size w W1) := Lib.hid (by rw [HW1]; exact bel1 _ _)
  have cF : W1.cell? ⟨gb, 1 + ver, none⟩ = some (.slice A n c) := by
    rw [HW1, ← HGB.out, (Obj1.new w _ _).cell]
    rcases hv with ⟨rfl, rfl, rfl, rfl⟩ | ⟨rfl, rfl, rfl, rfl⟩ <;> rfl
  have e1 : IntKind.i64.wrap (2 * (ver : Int)) = 2 * (ver : Int) := IntWalk.i64_in _ (by omega)
  have e2 : IntKind.i64.wrap (10 + 2 * (ver : Int)) = 10 + 2 * (ver : Int) := IntWalk.i64_in _ (by omega)
  have e3 : IntKind.i64.wrap (10 + 2 * (ver : Int) + 6) = 10 + 2 * (ver : Int) + 6 := IntWalk.i64_in _ (by omega)
  have e4 : IntKind.i64.wrap ((10 + 2 * (ver : Int) + 6) * 20) = (10 + 2 * (ver : Int) + 6) * 20 := IntWalk.i64_in _ (by omega)
  have e5 : (10 + 2 * (ver : Int) + 6) * 20 = leadI ver + 120 := by unfold leadI; omega
  have HL := Lib.hid (show 0 ≤ leadI ver ∧ leadI ver ≤ 240 by unfold leadI; omega)
  rw [e5] at e4
  clear hv hW
  go_enter Tryd.func14, Tryd.ntmps14
  go_upto_region 1 with (fail)
  rw [← HW1, HGB.out]
  clear HW1
  go_wp2_with fail
  refine (HIS.out _).mono ?_
  rintro e w' ⟨rfl, rfl⟩
  go_wp2_with fail
  go_loopw [5, 21] (fun s i wx => ∃ k : Nat, k ≤ n ∧ i = .int .i64 k ∧ s = .int .i64 (endS (ws.take k) (leadI ver) + 120) ∧ Below w.heap.size w wx) (fun _ i _ => n - (intOf i).toNat)
  case atStart => exact ⟨0, by omega, rfl, rfl, HB1.out⟩
  case round =>
    obtain ⟨k, hk, rfl, rfl, hbel⟩ := hrel
    have HBEL := Lib.hid hbel
    by_cases hlt : k < n
    · have hki : (k : Int) < (n : Int) := by omega
      have hkl : k < ws.length := by rw [HW.out.len]; exact hlt
      obtain ⟨x, hx⟩ : ∃ x, ws[k]? = some x := ⟨_, List.getElem?_eq_getElem hkl⟩
      obtain ⟨b, off, rfl, hb, c0', c1', c2', c3', c4', c5', hok⟩ := (HW.out.kept hbel).six hlt hx
      have HNX := Lib.hid (endS_next (ver := ver) hx)
      have hbd := endS_bd (ws.take k) (leadI ver)
      have hlk : (ws.take k).length ≤ 1000 := by rw [List.length_take]; omega
      have htb := x.tk_bd
      have HT := Lib.hid (fun W => ticks_any x.k x.b x.wd x.ad x.A x.n x.c x.B x.m x.d x.g x.u x.q rfl rfl rfl hok.nc x.tk rfl W)
      obtain ⟨T, hT⟩ : ∃ T, x.tk = T := ⟨_, rfl⟩
      rw [hT] at HT HNX htb
      obtain ⟨S, hS⟩ : ∃ S, endS (ws.take k) (leadI ver) = S := ⟨_, rfl⟩
      rw [hS] at HNX hbd ⊢
      have hww : IntKind.i64.wrap (S + 120 + T) = S + 120 + T := IntWalk.i64_in _ (by have := HL.out; omega)
      clear hbel hok hT hS htb hbd hlk hx
      go_upto_region 7 with (fail)
      have HB7 := Lib.hid (HBEL.out.trans ((bel1 wr (.cells #[.int .i64 x.k, .int .i64 x.b, .int .i64 x.wd, .int .i64 x.ad, .slice x.A x.n x.c, .slice x.B x.m x.d] 56)).mono HBEL.out.size))
      go_wp2_with fail
      refine (HT.out _).mono ?_
      rintro e w7 ⟨rfl, hb7⟩
      have HB8 := Lib.hid (HB7.out.trans (hb7.mono HB7.out.size))
      clear hb7
      go_wp2
      go_roundw
      case rel => exact ⟨k + 1, by omega, by go_num, by rw [HNX.out, show S + T + 120 = S + 120 + T by omega], HB8.out⟩
      case measure => simp [intOf]; omega
    · obtain rfl : k = n := by omega
      have HE : Hid (ws.take k = ws) := Lib.hid (List.take_of_length_le (by rw [HW.out.len]; exact Nat.le_refl _))
      rw [HE.out]
      go_wp2
      go_ret
      exact ⟨rfl, HBEL.out⟩
theorem frame_no (md : Int) (A0 : Option Addr) (n0 c0 : Nat) (A1 : Option Addr) (n1 c1 : Nat) (ver : Int) (hv : ver < 0 ∨ 2 ≤ ver) (w : World) :
    Calls Tryd.prog 14 #[.agg #[.int .i64 md, .slice A0 n0 c0, .slice A1 n1 c1], .int .i64 ver] w fun e w' => e = .returned (.int .i64 0) ∧ Below w.heap.size w w' := by
  have HIS := Lib.hid (fun W => is_no ver hv W)
  go_enter Tryd.func14, Tryd.ntmps14
  go_wp2_with fail
  refine (HIS.out _).mono ?_
  rintro e w' ⟨rfl, rfl⟩
  go_wp2
  go_ret
  exact ⟨rfl, bel1 _ _⟩
theorem view_no (md : Int) (A0 : Option Addr) (n0 c0 : Nat) (A1 : Option Addr) (n1 c1 : Nat) (ver y : Int) (hv : ver < 0 ∨ 2 ≤ ver) (w : World) :
    Calls Tryd.prog 21 #[.agg #[.int .i64 md, .slice A0 n0 c0, .slice A1 n1 c1], .int .i64 ver, .int .i64 y] w fun e w' => e = .returned (.slice none 0 0) ∧ Below w.heap.size w w' := by
  have HIS := Lib.hid (fun W => is_no ver hv W)
  go_enter Tryd.func21, Tryd.ntmps21
  go_wp2_with fail
  refine (HIS.out _).mono ?_
  rintro e w' ⟨rfl, rfl⟩
  go_wp2
  go_ret
  exact ⟨rfl, bel1 _ _⟩
end Go.Proofs.YtkankdecbefenaaDoor.Ly7
