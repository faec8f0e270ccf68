/- Commands that are right, one behind the other, are read one by one, each where the one ahead of it ends: for every list of commands; no condition. -/
import Derived.Deep.DeepCutAuto
import Derived.Deep.CutBlock
import Derived.RegionTactic
import Derived.Test.YthnopcoahcdjjaaCmdG
import Derived.Test.YthnopcoahcdjjaaSh
import Derived.Test.YthnopcoahcdjjaaRows
import Derived.WalkKit
import Derived.ProofKit
import Derived.OpenShut
import Derived.ShutString
import Derived.ChangeOld
import Derived.Below
namespace Go.Proofs.Ythnopcoahcdjjaa.lawCmdRow
open Go.ChangeShapes Go.WideShapes Go.ChangeAt Go.RowKit Base
open Go.ChangeMaps (open_string shut_string)
set_option linter.unusedVariables false
set_option linter.unusedSimpArgs false
theorem own : ownKnob Try.prog.godebug = none := by kernel_rfl
theorem laidOut : laidOutB Try.prog = true := by kernel_rfl
open Ly9

/-- A command. -/
structure Cm where (o a s c m b t : Int)
def Cm.RP (x : Cm) : Prop := Ly9.RP x.o x.a x.s x.c x.m x.b x.t
def Cm.put (x : Cm) : List Int := putB x.o x.a x.s x.c x.m x.b x.t
def Cm.cells (x : Cm) : List Value := [.int .i64 x.o, .int .i64 x.a, .int .i64 x.s, .int .i64 x.c, .int .i64 x.m, .int .i64 x.b, .int .i64 x.t]
/-- The second is the first without what does not count, and both may be. -/
def Good (p : Cm × Cm) : Prop := p.1.RP ∧ wth p.1.o (nums p.1.o p.1.a p.1.s p.1.c p.1.m p.1.b p.1.t) = cv p.1.o p.2.a p.2.s p.2.c p.2.m p.2.b p.2.t ∧ p.2.o = p.1.o ∧ p.2.RP
def bytesOf (l : List (Cm × Cm)) : List Int := l.flatMap fun p => p.1.put
def cellsOf (l : List (Cm × Cm)) : List Value := l.flatMap fun p => p.2.cells
theorem bytes_app (a b : List (Cm × Cm)) : bytesOf (a ++ b) = bytesOf a ++ bytesOf b := by unfold bytesOf; rw [List.flatMap_append]
theorem bytes_cons (x : Cm × Cm) (b : List (Cm × Cm)) : bytesOf (x :: b) = x.1.put ++ bytesOf b := rfl
theorem cells_app (a b : List (Cm × Cm)) : cellsOf (a ++ b) = cellsOf a ++ cellsOf b := by unfold cellsOf; rw [List.flatMap_append]
theorem cells_cons (x : Cm × Cm) (b : List (Cm × Cm)) : cellsOf (x :: b) = x.2.cells ++ cellsOf b := rfl
theorem cm_len (x : Cm) : x.cells.length = 7 := rfl
theorem cells_len (l : List (Cm × Cm)) : (cellsOf l).length = l.length * 7 := by
  induction l with
  | nil => rfl
  | cons x l ih => rw [cells_cons, List.length_append, ih, cm_len, List.length_cons]; omega
theorem cells_at (l : List (Cm × Cm)) (j k : Nat) (hj : j < l.length) (hk : k < 7) : (cellsOf l)[j * 7 + k]? = ((l[j]'hj).2.cells)[k]? := by
  induction l generalizing j with
  | nil => simp at hj
  | cons x l ih =>
    rw [cells_cons]
    have hc := cm_len x.2
    cases j with
    | zero => rw [List.getElem?_append_left (by omega)]; simp
    | succ j =>
      rw [List.getElem?_append_right (by omega), hc, show (j + 1) * 7 + k - 7 = j * 7 + k by omega]
      exact ih j (by simpa using hj)
theorem bytes_at (l : List (Cm × Cm)) (j : Nat) (hj : j < l.length) : (bytesOf (l.take j)).length + (l[j]'hj).1.put.length = (bytesOf (l.take (j + 1))).length ∧ (bytesOf (l.take (j + 1))).length ≤ (bytesOf l).length ∧
    ∀ k (hk : k < (l[j]'hj).1.put.length), (bytesOf l)[(bytesOf (l.take j)).length + k]? = some ((l[j]'hj).1.put[k]'hk) := by
  have e1 : l.take (j + 1) = l.take j ++ [l[j]'hj] := by rw [List.take_add_one, List.getElem?_eq_getElem hj]; rfl
  have e3 : bytesOf l = bytesOf (l.take j) ++ ((l[j]'hj).1.put ++ bytesOf (l.drop (j + 1))) := by
    rw [← bytes_cons, ← bytes_app, ← List.drop_eq_getElem_cons hj, List.take_append_drop]
  have e4 : bytesOf (l.take (j + 1)) = bytesOf (l.take j) ++ (l[j]'hj).1.put := by
    rw [e1, bytes_app, bytes_cons]
    simp [bytesOf]
  refine ⟨by rw [e4, List.length_append], ?_, fun k hk => ?_⟩
  · rw [e3, e4, List.length_append, List.length_append, List.length_append]; omega
  · rw [e3, List.getElem?_append_right (by omega), List.getElem?_append_left (by omega), show (bytesOf (l.take j)).length + k - (bytesOf (l.take j)).length = k by omega, List.getElem?_eq_getElem hk]
theorem put_le {x : Cm} : x.put.length ≤ 5 := by
  unfold Cm.put putB
  rw [List.length_cons, nums_len]
  unfold cnt
  repeat (first | (split; omega) | omega)
theorem bytes_len (l : List (Cm × Cm)) : (bytesOf l).length ≤ 5 * l.length := by
  induction l with
  | nil => exact Nat.le_refl _
  | cons x l ih =>
    have := @put_le x.1
    rw [bytes_cons, List.length_append, List.length_cons]
    omega
abbrev shC : Sh := .fld (.int .i64) (.fld (.int .i64) (.fld (.int .i64) (.fld (.int .i64) (.fld (.int .i64) (.fld (.int .i64) (.fld (.int .i64) .nil))))))
theorem row7 {w : World} {A : Option Addr} {n : Nat} {rows : List (List Value)} (hg : Grid w A n (Sh.size shC) rows) (hr : ∀ r ∈ rows, Reads w shC r) (k : Nat) (hk : k < n) :
    ∃ (x : Cm) (b off : Nat), A = some ⟨b, off, none⟩ ∧ b < w.heap.size ∧ (∀ j, j < 7 → w.cell? ⟨b, off + (k * 7 + j), none⟩ = x.cells[j]?) ∧ -9223372036854775808 ≤ x.s ∧ x.s ≤ 9223372036854775807 := by
  obtain ⟨b, off, e, hb, hc⟩ := hg.2 (by omega)
  have hkl : k < rows.length := by rw [hg.1]; exact hk
  obtain ⟨_, _, er, ⟨o, rfl, _⟩, _, _, rfl, ⟨a, rfl, _⟩, _, _, rfl, ⟨s, rfl, hs⟩, _, _, rfl, ⟨c, rfl, _⟩, _, _, rfl, ⟨m, rfl, _⟩, _, _, rfl, ⟨bb, rfl, _⟩, _, _, rfl, ⟨t, rfl, _⟩, rfl⟩ := hr _ (List.getElem_mem hkl)
  refine ⟨⟨o, a, s, c, m, bb, t⟩, b, off, e, hb, fun j hj => ?_, (bounds_i64 hs).1, (bounds_i64 hs).2⟩
  have := hc k j hk (by simpa [Sh.size] using hj)
  rw [List.getElem?_eq_getElem hkl, er] at this
  simpa [Sh.size, Cm.cells] using this
theorem pushS {P : Program} (w : World) {ops : Array Oper} {rest : List Oper} {o : Oper} {a : Act} {Q : Exit → Act → World → Prop} (hgd : o.guard = none) (s x : Operand) (t : TypeId)
    (ho : o.op = .call { callee := .builtin .append, args := #[s, x], argTypes := #[t, t] })
    (base : Nat) (e : TypeId) (i : TypeInfo) (z : Value) (size bytes : Nat) (ht : P.underlying t = some (.slice e)) (hi : P.info? e = some i) (hz : i.zero = some z)
    (hsize : i.size = size) (hby : i.bytes = bytes) (hzs : z.cells.size = size) (hsz : 0 < size)
    (v : Value) (n : Nat) (xs : List Value) (hs : a.eval s = v) (hown : w.ownsRow base e size v n xs)
    (ad : Addr) (m c : Nat) (news : List Value) (hx : a.eval x = .slice (some ad) m c) (hl : news.length = m * size) (hnews : ∀ j u, news[j]? = some u → w.cell? (ad.add j) = some u) (h1 : ∀ u ∈ news, u.oneCell' = true)
    (h63 : n + m ≤ maxLen) (hbytes : (n + m) * bytes ≤ 140737488355328) (hbase : base ≤ w.heap.size)
    (h : ∀ v' w', Hid (w'.ownsRow base e size v' (n + m) (xs ++ news)) → Hid (Below base w w') → Hid (w.grownBy w' v.ownBlock) → Hid (v'.ownBlock = v.ownBlock ∨ v'.ownBlock = some w.heap.size) → wpList P ops Q rest (a.put o.dst v') w') :
    wpList P ops Q (o :: rest) a w :=
  wpList_append_own_at w hgd s x t ho base e i z size bytes ht hi hz hsize hby hzs hsz v n xs hs hown ad m c news hx hl hnews h1 h63 hbytes hbase
    (fun v' w' hown' hg _ hb' => h v' w' hown' ((Below.refl _ _).grown hg hbase (fun k hk => (hown.lt k hk).1)) hg hb')
theorem info_c : (Try.prog.info? TC).map (fun i => (i.zero, i.size, i.bytes)) = some (some (cv 0 0 0 0 0 0 0), 7, 56) := by kernel_rfl

def L1 (w : World) (n : Nat) (vb va i : Value) (wr : World) : Prop :=
  ∃ (k : Nat) (done : List (Cm × Cm)), k ≤ n ∧ i = .int .i64 k ∧ done.length ≤ k ∧ (∀ p ∈ done, Good p) ∧ wr.ownsRow w.heap.size 5 1 vb (bytesOf done).length ((bytesOf done).map (Value.int .u8)) ∧
    wr.ownsRow w.heap.size TC 7 va done.length (cellsOf done) ∧ (∀ g, vb.ownBlock = some g → va.ownBlock ≠ some g) ∧ Below w.heap.size w wr
def L2 (w1 : World) (done : List (Cm × Cm)) (p i : Value) (wr : World) : Prop :=
  ∃ j : Nat, j ≤ done.length ∧ i = .int .i64 j ∧ p = .int .i64 ((bytesOf (done.take j)).length : Nat) ∧ ∃ x : Kin w1, wr = x.world

theorem rowcells {w w' : World} {ab ao k : Nat} {o a s c m b t : Int} (hb : Below w.heap.size w w') (hl : ab < w.heap.size) (h : ∀ j, j < 7 → w.cell? ⟨ab, ao + (k * 7 + j), none⟩ = (Cm.cells ⟨o, a, s, c, m, b, t⟩)[j]?) :
    w'.cell? ⟨ab, ao + k * 7, none⟩ = some (.int .i64 o) ∧ w'.cell? ⟨ab, ao + k * 7 + 1, none⟩ = some (.int .i64 a) ∧ w'.cell? ⟨ab, ao + k * 7 + 2, none⟩ = some (.int .i64 s) ∧ w'.cell? ⟨ab, ao + k * 7 + 3, none⟩ = some (.int .i64 c) ∧ w'.cell? ⟨ab, ao + k * 7 + 4, none⟩ = some (.int .i64 m) ∧
      w'.cell? ⟨ab, ao + k * 7 + 5, none⟩ = some (.int .i64 b) ∧ w'.cell? ⟨ab, ao + k * 7 + 6, none⟩ = some (.int .i64 t) :=
  ⟨(hb.cell (p := ⟨ab, ao + k * 7, none⟩) hl).trans (h 0 (by omega)), (hb.cell (p := ⟨ab, ao + k * 7 + 1, none⟩) hl).trans (h 1 (by omega)), (hb.cell (p := ⟨ab, ao + k * 7 + 2, none⟩) hl).trans (h 2 (by omega)), (hb.cell (p := ⟨ab, ao + k * 7 + 3, none⟩) hl).trans (h 3 (by omega)),
    (hb.cell (p := ⟨ab, ao + k * 7 + 4, none⟩) hl).trans (h 4 (by omega)), (hb.cell (p := ⟨ab, ao + k * 7 + 5, none⟩) hl).trans (h 5 (by omega)), (hb.cell (p := ⟨ab, ao + k * 7 + 6, none⟩) hl).trans (h 6 (by omega))⟩
theorem rowA {w : World} {base : Nat} {v : Value} {done : List (Cm × Cm)} (h : w.ownsRow base TC 7 v done.length (cellsOf done)) : ∃ A c, v = .slice A done.length c ∧ done.length ≤ c ∧ c ≤ maxLen ∧
    ∀ j (hj : j < done.length), ∃ g, A = some ⟨g, 0, none⟩ ∧ g < w.heap.size ∧ ∀ k, k < 7 → w.cell? ⟨g, 0 + (j * 7 + k), none⟩ = ((done[j]'hj).2.cells)[k]? := by
  rcases h.2 with ⟨rfl, h0⟩ | ⟨g, cap, cur, rfl, hb, hg, hnc, hcm, hcs, htake⟩
  · exact ⟨none, 0, by rw [h0], by omega, Nat.zero_le _, fun j hj => by omega⟩
  · refine ⟨_, cap, rfl, hnc, hcm, fun j hj => ⟨g, rfl, (Array.getElem?_eq_some_iff.1 hg).1, fun k hk => ?_⟩⟩
    rw [← cells_at done j k hj hk, ← htake, Nat.zero_add, List.getElem?_take_of_lt (by omega)]
    simp [World.cell?, hg]
theorem grown_ne {base1 base2 s1 s2 : Nat} {e1 e2 : TypeId} {vb va v2 v5 : Value} {n1 n2 : Nat} {xs ys : List Value} {wr w1 w2 w4 : World} (h : ∀ g, vb.ownBlock = some g → va.ownBlock ≠ some g) (ha : wr.ownsRow base1 e1 s1 va n1 xs) (h2 : w2.ownsRow base2 e2 s2 v2 n2 ys)
    (k2 : v2.ownBlock = vb.ownBlock ∨ v2.ownBlock = some w1.heap.size) (k5 : v5.ownBlock = va.ownBlock ∨ v5.ownBlock = some w4.heap.size) (l1 : wr.heap.size ≤ w1.heap.size) (l2 : w2.heap.size ≤ w4.heap.size) : ∀ g, v2.ownBlock = some g → v5.ownBlock ≠ some g := by
  intro g e2 e5
  have lt2 := (h2.lt g e2).2
  rcases k5 with k5 | k5
  · rw [k5] at e5
    have lta := (ha.lt g e5).2
    rcases k2 with k2 | k2
    · exact h g (k2 ▸ e2) e5
    · rw [k2] at e2
      have := Option.some.inj e2
      omega
  · rw [k5] at e5
    have := Option.some.inj e5
    omega
theorem ne_or {va vb : Value} (h : ∀ g, vb.ownBlock = some g → va.ownBlock ≠ some g) : va.ownBlock = none ∨ va.ownBlock ≠ vb.ownBlock := by
  cases e : va.ownBlock with
  | none => exact .inl rfl
  | some g => exact .inr (fun k => h g k.symm e)
theorem ne_or' {va vb : Value} (h : ∀ g, vb.ownBlock = some g → va.ownBlock ≠ some g) : vb.ownBlock = none ∨ vb.ownBlock ≠ va.ownBlock := by
  cases e : vb.ownBlock with
  | none => exact .inl rfl
  | some g => exact .inr (fun k => h g e k.symm)
set_option maxRecDepth 100000 in
set_option maxHeartbeats 8000000 in
theorem walk_in (A : Option Addr) (n c : Nat) (rows : List (List Value)) (w : World) (hg : Grid w A n (Sh.size shC) rows) (hr : ∀ r ∈ rows, Reads w shC r) (hn : n ≤ 60) :
    Calls Try.prog 6 #[.slice A n c] w fun e w' => e = .returned (.bool true) ∧ Below w.heap.size w w' := by
  obtain ⟨i0, hi, hz0, hz1, hz2⟩ := info_parts info_u8
  obtain ⟨i1, hi1, hk0, hk1, hk2⟩ := info_parts info_c
  have HG := Lib.hid hg
  have HRR := Lib.hid hr
  clear hg hr
  have hst : Hid (L1 w n (.slice none 0 0) (.slice none 0 0) (.int .i64 0) w) := Lib.hid ⟨0, [], by omega, rfl, Nat.le_refl _, (fun p hp => by cases hp), ⟨rfl, .inl ⟨rfl, rfl⟩⟩, ⟨rfl, .inl ⟨rfl, rfl⟩⟩, fun g h => by simp [Value.ownBlock] at h, Below.refl _ _⟩
  go_enter Try.func6, Try.ntmps6
  go_wp2_with fail
  go_loopw [3, 4, 5] (fun vb va i wr => L1 w n vb va i wr) (fun _ _ i _ => n - (intOf i).toNat)
  case atStart => exact hst.out
  case round =>
    obtain ⟨k, done, hkn, rfl, hdk, hgood, hvb, hva, hne, hbel⟩ := hrel
    have HVB := Lib.hid hvb
    have HVA := Lib.hid hva
    have HNE := Lib.hid hne
    have HBE := Lib.hid hbel
    have HGD := Lib.hid hgood
    clear hvb hva hne hbel hgood hst
    by_cases hlt : k < n
    · obtain ⟨⟨o, a, s, cc, m, bb, t⟩, ab, ao, rfl, habl, hcell, hs0, hs1⟩ := row7 HG.out HRR.out k hlt
      have HC := Lib.hid hcell
      have HAB := Lib.hid habl
      have q0 : wr.cell? ⟨ab, ao + k * 7, none⟩ = some (.int .i64 o) := (HBE.out.cell (p := ⟨ab, ao + k * 7, none⟩) habl).trans (hcell 0 (by omega))
      have q1 : wr.cell? ⟨ab, ao + k * 7 + 1, none⟩ = some (.int .i64 a) := (HBE.out.cell (p := ⟨ab, ao + k * 7 + 1, none⟩) habl).trans (hcell 1 (by omega))
      have q2 : wr.cell? ⟨ab, ao + k * 7 + 2, none⟩ = some (.int .i64 s) := (HBE.out.cell (p := ⟨ab, ao + k * 7 + 2, none⟩) habl).trans (hcell 2 (by omega))
      have q3 : wr.cell? ⟨ab, ao + k * 7 + 3, none⟩ = some (.int .i64 cc) := (HBE.out.cell (p := ⟨ab, ao + k * 7 + 3, none⟩) habl).trans (hcell 3 (by omega))
      have q4 : wr.cell? ⟨ab, ao + k * 7 + 4, none⟩ = some (.int .i64 m) := (HBE.out.cell (p := ⟨ab, ao + k * 7 + 4, none⟩) habl).trans (hcell 4 (by omega))
      have q5 : wr.cell? ⟨ab, ao + k * 7 + 5, none⟩ = some (.int .i64 bb) := (HBE.out.cell (p := ⟨ab, ao + k * 7 + 5, none⟩) habl).trans (hcell 5 (by omega))
      have q6 : wr.cell? ⟨ab, ao + k * 7 + 6, none⟩ = some (.int .i64 t) := (HBE.out.cell (p := ⟨ab, ao + k * 7 + 6, none⟩) habl).trans (hcell 6 (by omega))
      clear hcell habl
      by_cases hrp : RP o a s cc m bb t
      · have HRP := Lib.hid hrp
        clear hrp
        go_wp2_with fail
        refine (put_ok o a s cc m bb t wr HRP.out ⟨hs0, hs1⟩).mono ?_
        rintro e w1 ⟨X, nx, cx, rfl, hnx, hcx, hcm, HLX, HB1⟩
        obtain ⟨a', s', c', m', b', t', hw, hx⟩ := clean_ex HRP.out
        have HW := Lib.hid hw
        have HX := Lib.hid hx
        have hnx0 : 0 < nx := by rw [hnx]; simp [putB]
        have hnx5 : nx ≤ 5 := by rw [hnx]; exact @put_le ⟨o, a, s, cc, m, bb, t⟩
        obtain ⟨xb, xo, rfl, _, hxc⟩ := HLX.out.2 hnx0
        have HPL : Hid (((putB o a s cc m bb t).map (Value.int .u8)).length = nx * 1) := by show _ = _; rw [hnx]; simp
        have HXC : Hid (∀ j u, ((putB o a s cc m bb t).map (Value.int .u8))[j]? = some u → w1.cell? ((⟨xb, xo, none⟩ : Addr).add j) = some u) := by
          intro j u hju
          have hjn : j < nx := by have := (List.getElem?_eq_some_iff.1 hju).1; have := HPL.out; omega
          rw [add_eq, hxc j hjn]
          exact hju
        have HP1 : Hid (∀ u ∈ (putB o a s cc m bb t).map (Value.int .u8), u.oneCell' = true) := by
          intro v hv
          obtain ⟨x, _, rfl⟩ := List.mem_map.1 hv
          rfl
        have HVB1 := Lib.hid (own_below HVB.out HB1.out)
        have HVA1 := Lib.hid (own_below HVA.out HB1.out)
        have HBE1 := Lib.hid (HBE.out.trans (HB1.out.mono HBE.out.size))
        have hbl := bytes_len done
        have hdk60 : done.length ≤ 60 := by omega
        have HNX := Lib.hid hnx
        clear hw hx hxc q0 q1 q2 q3 q4 q5 q6 hnx
        go_wp2_with (at_builtin; refine pushS _ rfl (.tmp 35) (.tmp 36) 26 rfl w.heap.size 5 i0 (.int .u8 0) 1 1 Try.underlying26 hi hz0 hz1 hz2 rfl (by decide) _ _ _ rfl HVB1.out ⟨xb, xo, none⟩ nx cx _ rfl HPL.out HXC.out HP1.out (by unfold maxLen; omega) (by omega) HBE1.out.size ?_; intro v2 w2 O2 B2 G2 K2; have HBE2 := Lib.hid (HBE1.out.trans B2.out); obtain ⟨r0, r1, r2, r3, r4, r5, r6⟩ := rowcells HBE2.out HAB.out HC.out)
        refine (clean_any o a s cc m bb t w2 HRP.out.jump).mono ?_
        rw [HW.out]
        rintro e w3 ⟨rfl, hb3⟩
        have HB3 := Lib.hid hb3
        have HVA2 := Lib.hid (HVA1.out.kept G2.out (ne_or HNE.out))
        have HVA4 := Lib.hid ((own_below HVA2.out HB3.out).alloc (.cells (c7 o a' s' c' m' b' t') TC))
        have HVB4 := Lib.hid ((own_below O2.out HB3.out).alloc (.cells (c7 o a' s' c' m' b' t') TC))
        have HN4 := Lib.hid (Obj1.new w3 TC (c7 o a' s' c' m' b' t'))
        have HBE3 := Lib.hid (HBE2.out.trans (HB3.out.mono HBE2.out.size))
        have HBE4 := Lib.hid (HBE3.out.alloc HBE3.out.size (.cells (c7 o a' s' c' m' b' t') TC))
        have HC4 : Hid (∀ j u, (Cm.cells ⟨o, a', s', c', m', b', t'⟩)[j]? = some u → (w3.alloc (.cells (c7 o a' s' c' m' b' t') TC)).cell? ((⟨w3.heap.size, 0, none⟩ : Addr).add j) = some u) := by
          intro j u hju
          rw [add_eq, HN4.out.cell, Nat.zero_add, List.getElem?_toArray]
          exact hju
        have H41 : Hid (∀ u ∈ Cm.cells ⟨o, a', s', c', m', b', t'⟩, u.oneCell' = true) := by
          intro v hv
          simp only [Cm.cells, List.mem_cons, List.not_mem_nil, or_false] at hv
          rcases hv with rfl | rfl | rfl | rfl | rfl | rfl | rfl <;> rfl
        have HS34 : Hid (w2.heap.size ≤ (w3.alloc (.cells (c7 o a' s' c' m' b' t') TC)).heap.size) := by show _ ≤ _; have := HB3.out.size; simp; omega
        clear hb3 r0 r1 r2 r3 r4 r5 r6
        go_wp2_with (at_builtin; refine pushS _ rfl (.tmp 38) (.tmp 44) 42 rfl w.heap.size TC i1 (cv 0 0 0 0 0 0 0) 7 56 Try.underlying42 hi1 hk0 hk1 hk2 rfl (by decide) _ _ _ rfl HVA4.out ⟨w3.heap.size, 0, none⟩ 1 1 (Cm.cells ⟨o, a', s', c', m', b', t'⟩) rfl rfl HC4.out H41.out (by unfold maxLen; omega) (by omega) HBE4.out.size ?_; intro v5 w5 O5 B5 G5 K5)
        go_roundw
        case rel =>
          refine ⟨k + 1, done ++ [(⟨o, a, s, cc, m, bb, t⟩, ⟨o, a', s', c', m', b', t'⟩)], by omega, by go_num, by simp; omega, fun p hp => ?_, ?_, ?_, ?_, HBE4.out.trans B5.out⟩
          · rcases List.mem_append.1 hp with h | h
            · exact HGD.out p h
            · rw [List.mem_singleton.1 h]
              exact ⟨HRP.out, HW.out, rfl, HX.out⟩
          · rw [bytes_app, List.map_append, List.length_append]
            have := HVB4.out.kept G5.out (ne_or' (fun g e2 e5 => grown_ne HNE.out HVA.out O2.out K2.out (.inl rfl) HB1.out.size (Nat.le_refl w2.heap.size) g e2 e5))
            rw [HNX.out] at this
            simpa [bytesOf, Cm.put] using this
          · rw [cells_app, List.length_append]
            simpa [cellsOf] using O5.out
          · exact grown_ne HNE.out HVA.out O2.out K2.out K5.out HB1.out.size HS34.out
        case measure => simp [intOf]; omega
      · have HRP := Lib.hid hrp
        clear hrp
        go_wp2_with fail
        refine (put_no o a s cc m bb t wr HRP.out ⟨hs0, hs1⟩).mono ?_
        rintro e w1 ⟨rfl, HB1⟩
        go_wp2
        go_roundw
        case rel => exact ⟨k + 1, done, by omega, by go_num, by omega, HGD.out, own_below HVB.out HB1.out, own_below HVA.out HB1.out, HNE.out, HBE.out.trans (HB1.out.mono HBE.out.size)⟩
        case measure => simp [intOf]; omega
    · obtain rfl : k = n := by omega
      obtain ⟨B, cb, rfl, hcb, hcbm, hlb⟩ := Lst.of_own HVB.out
      obtain ⟨AA, ca, rfl, hca, hcam, hrow⟩ := rowA HVA.out
      have HLB := Lib.hid hlb
      have HRW := Lib.hid hrow
      have hbl := bytes_len done
      obtain ⟨nb, HNB⟩ : ∃ nb, Hid ((bytesOf done).length = nb) := ⟨_, Lib.hid rfl⟩
      rw [HNB.out] at HLB hbl ⊢
      have hnb : nb ≤ 1000000 := by omega
      clear hlb hrow hcb hcbm hca hcam
      obtain ⟨wo, rfl⟩ : ∃ wo : World, wo = wr := ⟨_, rfl⟩
      have hst : Hid (L2 wo done (.int .i64 0) (.int .i64 0) wo) := Lib.hid ⟨0, by omega, rfl, rfl, Kin.me wo, rfl⟩
      go_wp2_with fail
      go_loopw [8, 9] (fun p i wx => L2 wo done p i wx) (fun _ i _ => done.length - (intOf i).toNat)
      case atStart => exact hst.out
      case round =>
        obtain ⟨j, hjd, rfl, rfl, x, rfl⟩ := hrel
        by_cases hlt2 : j < done.length
        · obtain ⟨hRP, hwth, ho, hRP2⟩ := HGD.out _ (List.getElem_mem hlt2)
          obtain ⟨hb1, hb2, hb3⟩ := bytes_at done j hlt2
          obtain ⟨ga, hga, hgal, hgac⟩ := HRW.out j hlt2
          obtain ⟨⟨⟨o, a, s, cc, m, bb, t⟩, ⟨o', a', s', c', m', b', t'⟩⟩, HP⟩ : ∃ p, done[j]'hlt2 = p := ⟨_, rfl⟩
          rw [HP] at hRP hwth ho hRP2 hb1 hb3 hgac
          simp only [Cm.RP, Cm.put] at hRP hwth ho hRP2 hb1 hb3
          subst ho
          have hp1 : 1 ≤ (putB o' a s cc m bb t).length := by simp [putB]
          have hfit : (bytesOf (done.take j)).length + (putB o' a s cc m bb t).length ≤ nb := by have := HNB.out; omega
          have HNX := Lib.hid hb1
          have HRR2 := Lib.hid hRP
          have HWT := Lib.hid hwth
          have HR2 := Lib.hid hRP2
          have HB3 := Lib.hid hb3
          have HFT := Lib.hid hfit
          obtain ⟨ps, HPS⟩ : ∃ ps, Hid ((bytesOf (done.take j)).length = ps) := ⟨_, Lib.hid rfl⟩
          rw [HPS.out] at HNX HFT HB3 ⊢
          obtain ⟨q, HQ⟩ : ∃ q, Hid (ps + (putB o' a s cc m bb t).length = q) := ⟨_, Lib.hid rfl⟩
          have hpq : ps < q := by have := HQ.out; omega
          have HGC : Hid (∀ k, k < 7 → x.world.cell? ⟨ga, 0 + (j * 7 + k), none⟩ = (Cm.cells ⟨o', a', s', c', m', b', t'⟩)[k]?) := fun k hk => (x.below.cell (p := ⟨ga, 0 + (j * 7 + k), none⟩) hgal).trans (hgac k hk)
          have HGL : Hid (ga < x.world.heap.size) := Nat.lt_of_lt_of_le hgal x.below.size
          clear hb1 hb2 hb3 hRP hwth hRP2 hp1 hfit HP hgac hgal hst
          subst hga
          go_wp2_with fail
          refine (read_right o' a s cc m bb t a' s' c' m' b' t' (bytesOf done) B nb cb ps x.world HRR2.out HWT.out HR2.out (HLB.out.kept x.below) hnb HFT.out HB3.out).mono ?_
          rw [HQ.out]
          rintro e w4 ⟨rfl, HB4⟩
          have HA4 : Hid (Below x.world.heap.size x.world (w4.alloc (.cells (c7 o' a' s' c' m' b' t') TC))) := HB4.out.alloc HB4.out.size _
          have HN4 := Lib.hid (Obj1.new w4 TC (c7 o' a' s' c' m' b' t'))
          obtain ⟨g4, HG4⟩ : ∃ g4, Hid (w4.heap.size = g4) := ⟨_, Lib.hid rfl⟩
          rw [HG4.out] at HN4
          go_wp2_with fail
          rw [HG4.out]
          generalize w4.alloc (.cells #[.int .i64 o', .int .i64 a', .int .i64 s', .int .i64 c', .int .i64 m', .int .i64 b', .int .i64 t'] TC) = w5 at HA4 HN4 ⊢
          obtain ⟨d0, d1, d2, d3, d4, d5, d6⟩ := cells7 HN4.out
          obtain ⟨r0, r1, r2, r3, r4, r5, r6⟩ := rowcells HA4.out HGL.out HGC.out
          rw [Nat.zero_add] at r0 r1 r2 r3 r4 r5 r6
          go_quiet (fail)
          go_wp2
          go_roundw
          case rel =>
            refine ⟨j + 1, by omega, by go_num, by rw [← HNX.out, HQ.out], x.on (below_drewN' HA4.out _), rfl⟩
          case measure => simp [intOf]; omega
        · obtain rfl : j = done.length := by omega
          rw [List.take_length, HNB.out]
          clear hst
          go_wp2_with fail
          refine (read_end B nb cb x.world hnb).mono ?_
          rintro e w4 ⟨rfl, HB4⟩
          have HA4 : Hid (Below w.heap.size w (w4.alloc (.cells (c7 0 0 0 0 0 0 0) TC))) := by
            have h1 := HBE.out.trans (x.below.mono HBE.out.size)
            have h2 := h1.trans (HB4.out.mono h1.size)
            exact h2.alloc h2.size _
          go_wp2_with fail
          generalize w4.alloc (.cells #[.int .i64 0, .int .i64 0, .int .i64 0, .int .i64 0, .int .i64 0, .int .i64 0, .int .i64 0] TC) = w5 at HA4 ⊢
          refine (one_any w5).mono ?_
          rintro e w6 ⟨rfl, hb6⟩
          go_wp2
          go_ret
          exact ⟨rfl, HA4.out.trans (hb6.mono HA4.out.size)⟩
theorem walk_long (A : Option Addr) (n c : Nat) (w : World) (hn : 60 < n) : Calls Try.prog 6 #[.slice A n c] w fun e w' => e = .returned (.bool true) ∧ Below w.heap.size w w' := by
  go_enter Try.func6, Try.ntmps6
  go_wp2
  go_ret
  exact ⟨rfl, Below.refl _ _⟩
theorem walk (A : Option Addr) (n c : Nat) (rows : List (List Value)) (w : World) (hg : Grid w A n (Sh.size shC) rows) (hr : ∀ r ∈ rows, Reads w shC r) (hnc : n ≤ c) (hcm : c ≤ maxLen) :
    Calls Try.prog 6 #[.slice A n c] w fun e w' => e = .returned (.bool true) ∧ Below w.heap.size w w' := by
  by_cases h : n ≤ 60
  · exact walk_in A n c rows w hg hr h
  · exact walk_long A n c w (by omega)

set_option maxRecDepth 100000 in
theorem lifted (os : Os) (started : os.Started) (H : Type) (enc : TypeId × Value → H) :
    ReturnsInHanded {} Try.checked os 6 .any (Rows.cmdRowSpec.pre6 enc Try.prog Try.f6 Rows.cmdRowRow.domain false) (Rows.cmdRowSpec.post enc Try.prog Try.f6 false true false false) := by
  refine returnsInHanded_of_change (C := Try.checked) own started (by kernel_rfl) Try.func6
    (ChangeSpec.witness6 (enc := enc) (C := Try.checked) false ⟨#[], #[.slice none 0 0], []⟩ 8 (by kernel_rfl) (by kernel_rfl) (by kernel_rfl) (by kernel_rfl)) ?_
  intro W base args ds gs before hval0 hW hcnd _
  have hval : ∀ (j : Nat) t v, Try.f6.params[j]? = some t → args[j]? = some v → Value.okWide Try.prog W .any base t v := hval0
  have hW' := hW
  obtain ⟨p, q, hA0, hV, rfl, hfz, hnd⟩ := hW
  have hA : DataW.TrodAll enc Try.prog W 0 (fun _ => true) true Try.f6.params.toList args.toList ds p := hA0
  rw [Try.params6] at hA hval
  obtain ⟨v0, vs0, d0, ds0, p0, q0, hargs, rfl, rfl, h0, r0⟩ := trodAll_cons hA
  obtain ⟨rfl, rfl, rfl⟩ := trodAll_nil r0
  obtain rfl : args = #[v0] := by cases args; simp_all
  obtain ⟨rfl, rfl⟩ := trodVars_none hV
  have k0 := h0
  have lt0 : ∀ x ∈ p0, x.block < W.heap.size := by obtain ⟨m, hm⟩ := k0; exact DataW.trod_lt m _ _ _ hm
  obtain ⟨lA, ln, lc, rfl⟩ := okWide_slice Try.underlying42 (hval 0 42 v0 rfl rfl)
  obtain ⟨l, g0, rd0, cb0, cc0⟩ := reads_slice (e := shC) 30 (by kernel_rfl) k0
  clear hA0 hval0
  refine (walk lA ln lc l W g0 rd0 cb0 cc0).mono fun e W' ⟨he, bel⟩ => ?_
  subst he
  exact ⟨_, rfl, _, _, _, [], _, [], hW', trodAll_mk1 (shut_bool Try.underlying4 _), (trodAll_cons_mk (Below.trod laidOut (by kernel_rfl) (of_decide_eq_true (by kernel_rfl)) k0 bel lt0) trodAll_mk0), rfl, bel.frame _, fun h => by cases h⟩

theorem over : Rows.cmdRowRow.holds Try.pinned (OpenSpec.ofChange Rows.cmdRowSpec) :=
  OpenClaim.holds_of_wide 6 Try.f6 rfl rfl rfl rfl rfl rfl rfl ⟨rfl, rfl, rfl, rfl, rfl⟩ rfl rfl rfl rfl rfl (by kernel_rfl) Try.func6 (by kernel_rfl)
    (of_decide_eq_true (by kernel_rfl)) (by unfold Func.isWrapper; first | (rw [if_pos (by decide +kernel)]; kernel_rfl) | (rw [if_neg (by decide +kernel)]; exact ⟨rfl, rfl⟩))
    (fun os started H enc _ => lifted os started H enc)

/-- The statement. -/
theorem proved : Rows.CmdRowSaid := over
end Go.Proofs.Ythnopcoahcdjjaa.lawCmdRow
