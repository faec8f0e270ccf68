/- The contract of package cmd's Put; no condition. -/
import Derived.Test.YthnopcoahcdjjaaCmdE
import Derived.Test.YthnopcoahcdjjaaCmdB

import Derived.Test.YthnopcoahcdjjaaPush
namespace Go.Proofs.Ythnopcoahcdjjaa.Ly9
open Go.ChangeShapes Go.WideShapes Go.ChangeAt Go.RowKit Base
set_option linter.unusedVariables false
set_option linter.unusedSimpArgs false

theorem push1g {P : Program} (w : World) {ops : Array Oper} {rest : List Oper} {o : Oper} {a : Act} {Q : Exit → Act → World → Prop} (hgd : o.guard = none) (s x : Operand) (t : TypeId)
    (ho : o.op = .call { callee := .builtin .append, args := #[s, x], argTypes := #[t, t] })
    (base : Nat) (e : TypeId) (i : TypeInfo) (z : Value) (bytes : Nat) (ht : P.underlying t = some (.slice e)) (hi : P.info? e = some i) (hz : i.zero = some z)
    (hsize : i.size = 1) (hby : i.bytes = bytes) (hzs : z.cells.size = 1)
    (v : Value) (n : Nat) (xs : List Value) (hs : a.eval s = v) (hown : w.ownsRow base e 1 v n xs) (u : Value) (e' : TypeId)
    (hx : a.eval x = .slice (some ⟨w.heap.size, 0, none⟩) 1 1) (h1 : u.oneCell' = true)
    (h63 : n + 1 ≤ maxLen) (hbytes : (n + 1) * bytes ≤ 140737488355328) (hbase : base ≤ w.heap.size)
    (h : ∀ v' w', w'.ownsRow base e 1 v' (n + 1) (xs ++ [u]) → Below base w w' → w.grownBy w' v.ownBlock → (v'.ownBlock = v.ownBlock ∨ v'.ownBlock = some (w.heap.size + 1)) → wpList P ops Q rest (a.put o.dst v') w') :
    wpList P ops Q (o :: rest) a (w.alloc (.cells #[u] e')) := by
  refine wpList_append_own_at (w.alloc (.cells #[u] e')) hgd s x t ho base e i z 1 bytes ht hi hz hsize hby hzs (by omega) v n xs hs (hown.alloc _) ⟨w.heap.size, 0, none⟩ 1 1 [u] hx rfl ?_ ?_ h63 hbytes (by simp; omega) ?_
  · intro j u' hj
    match j, hj with
    | 0, hj =>
      simp at hj
      subst hj
      show (w.alloc (.cells #[u] e')).cell? (Addr.add ⟨w.heap.size, 0, none⟩ 0) = some u
      rw [show Addr.add ⟨w.heap.size, 0, none⟩ 0 = ⟨w.heap.size, 0, none⟩ from rfl, World.cell?_alloc_at _ _ _ _ rfl]
      rfl
  · intro u' hu'
    simp at hu'
    subst hu'
    exact h1
  · intro v' w' hown' hg _ hb'
    have hb : Below base w (w.alloc (.cells #[u] e')) := (Below.refl _ _).alloc hbase _
    refine h v' w' hown' (hb.grown hg (by simp; omega) (fun k hk => (hown.lt k hk).1)) ⟨hg.os, hg.tape, hg.output, Nat.le_trans (by simp) hg.size, fun k hk hne => ?_⟩ (by simpa using hb')
    exact (hg.block k (by simp; omega) hne).trans (Below.heap_alloc w _ k hk)
theorem own_one (w : World) (B : Nat) (hB : B ≤ w.heap.size) (u : Value) (e : TypeId) : (w.alloc (.cells #[u] e)).ownsRow B e 1 (.slice (some ⟨w.heap.size, 0, none⟩) 1 1) 1 [u] := by
  refine ⟨rfl, .inr ⟨w.heap.size, 1, #[u], rfl, hB, ?_, Nat.le_refl _, by unfold maxLen; decide, by simp, by simp⟩⟩
  show (w.heap.push _)[w.heap.size]? = _
  simp
theorem info_u8 : (Try.prog.info? 5).map (fun i => (i.zero, i.size, i.bytes)) = some (some (.int .u8 0), 1, 1) := by kernel_rfl
/-- A command's bytes, as numbers. -/
def putB (o a s c m b t : Int) : List Int := o :: nums o a s c m b t
theorem putB_bd {o a s c m b t : Int} (h : RP o a s c m b t) : ∀ x ∈ putB o a s c m b t, 0 ≤ x ∧ x ≤ 255 := by
  intro x hx
  unfold putB nums at hx
  rcases h with ⟨rfl, h1, h2, h3, h4, h5, h6, h7, h8⟩ | ⟨rfl, h1, h2, h3, h4, h5, h6⟩ | ⟨rfl, h1, h2, h3, h4⟩ | ⟨rfl, h1, h2⟩ | ⟨rfl, h1, h2⟩ | ⟨rfl, h1, h2⟩ | rfl | rfl | rfl
  all_goals
    simp at hx
    omega
theorem RP.jump {o a s c m b t : Int} (h : RP o a s c m b t) : (o = 6 ∨ o = 8) → 0 ≤ t ∧ t ≤ 1023 := by
  unfold RP at h
  rintro (rfl | rfl)
  · rcases h with ⟨h, _⟩ | ⟨h, _⟩ | ⟨h, _⟩ | ⟨h, _⟩ | ⟨h, h1, h2⟩ | ⟨h, _⟩ | h | h | h <;> first | exact ⟨h1, h2⟩ | (exfalso; omega)
  · rcases h with ⟨h, _⟩ | ⟨h, _⟩ | ⟨h, _⟩ | ⟨h, _⟩ | ⟨h, _⟩ | ⟨h, h1, h2⟩ | h | h | h <;> first | exact ⟨h1, h2⟩ | (exfalso; omega)
def PutRel (w : World) (A : Option Addr) (o : Int) (ns : List Int) (v i : Value) (wr : World) : Prop :=
  ∃ j : Nat, j ≤ ns.length ∧ i = .int .i64 j ∧ wr.ownsRow w.heap.size 5 1 v (j + 1) ((o :: ns.take j).map (Value.int .u8)) ∧ (∀ g, A = some ⟨g, 0, none⟩ → Obj1 wr g 3 (ns.map (Value.int .i64)).toArray ∧ v.ownBlock ≠ some g) ∧ Below w.heap.size w wr
set_option maxRecDepth 100000 in
set_option maxHeartbeats 8000000 in
theorem put_ok (o a s c m b t : Int) (w : World) (hr : RP o a s c m b t) (bs : -9223372036854775808 ≤ s ∧ s ≤ 9223372036854775807) :
    Calls Try.prog 16 #[cv o a s c m b t] w fun e w' => ∃ A n cp, e = .returned (.tuple #[.slice A n cp, .int .i64 0]) ∧ n = (putB o a s c m b t).length ∧ n ≤ cp ∧ cp ≤ maxLen ∧ Hid (Lst w' A n ((putB o a s c m b t).map (Value.int .u8))) ∧ Hid (Below w.heap.size w w') := by
  obtain ⟨i0, hi, hz0, hz1, hz2⟩ := info_parts info_u8
  have HR := Lib.hid hr
  have HBD := Lib.hid (putB_bd hr)
  have ho : 0 ≤ o ∧ o ≤ 255 := putB_bd hr o (by simp [putB])
  obtain ⟨o0, o1⟩ := ho
  obtain ⟨ns, HNS⟩ : ∃ ns, Hid (nums o a s c m b t = ns) := ⟨_, Lib.hid rfl⟩
  have HJ := Lib.hid hr.jump
  have hnl : ns.length ≤ 4 := by
    have := nums_len o a s c m b t
    rw [HNS.out] at this
    rw [this]
    unfold cnt
    repeat (first | (split; omega) | omega)
  have HO := Lib.hid (Obj1.new w TC (c7 o a s c m b t))
  have HB := Lib.hid (show Below w.heap.size w (w.alloc (.cells (c7 o a s c m b t) TC)) from (Below.refl _ _).alloc (Nat.le_refl _) _)
  obtain ⟨gc, HGC⟩ : ∃ gc, Hid (w.heap.size = gc) := ⟨_, Lib.hid rfl⟩
  rw [HGC.out] at HO
  clear hr
  go_enter Try.func16, Try.ntmps16
  go_wp2_with fail
  rw [HGC.out]
  generalize w.alloc (.cells #[.int .i64 o, .int .i64 a, .int .i64 s, .int .i64 c, .int .i64 m, .int .i64 b, .int .i64 t] TC) = W at HB HO ⊢
  refine (right_yes o a s c m b t W HR.out bs).mono ?_
  rintro e w1 ⟨rfl, hb1⟩
  have HO1 := Lib.hid (HO.out.kept hb1)
  have HB1 := Lib.hid (HB.out.trans (hb1.mono HB.out.size))
  have HOW := Lib.hid (own_one w1 w.heap.size HB1.out.size (.int .u8 o) 5)
  have HO2 := Lib.hid (HO1.out.alloc (.cells #[.int .u8 o] 5))
  have HB2 := Lib.hid (HB1.out.alloc HB1.out.size (.cells #[.int .u8 o] 5))
  obtain ⟨c0, _, _, _, _, _, _⟩ := cells7 HO1.out
  obtain ⟨d0, d1, d2, d3, d4, d5, d6⟩ := cells7 HO2.out
  obtain ⟨g0, HG0⟩ : ∃ g0, Hid (w1.heap.size = g0) := ⟨_, Lib.hid rfl⟩
  rw [HG0.out] at HOW
  clear hb1
  go_wp2_with fail
  rw [HG0.out]
  have HS2 : Hid (g0 < (w1.alloc (.cells #[.int .u8 o] 5)).heap.size) := by show _ < _; rw [← HG0.out]; simp
  generalize w1.alloc (.cells #[.int .u8 o] 5) = w2 at HOW HO2 HB2 HS2 ⊢
  refine (numbers_any o a s c m b t w2 HJ.out).mono ?_
  rw [HNS.out]
  rintro e w3 ⟨A, rfl, HNR, HB3⟩
  have hst : Hid (PutRel w A o ns (.slice (some ⟨g0, 0, none⟩) 1 1) (.int .i64 0) w3) := by
    refine Lib.hid ⟨0, by omega, rfl, own_below HOW.out HB3.out, fun g hg => ?_, HB2.out.trans (HB3.out.mono HB2.out.size)⟩
    have hne : ns ≠ [] := by
      intro h
      have := HNR.out.1 h
      rw [hg] at this
      cases this
    obtain ⟨g', e, hge, hob⟩ := HNR.out.2 hne
    rw [e] at hg
    cases hg
    have := HS2.out
    exact ⟨hob, by simp [Value.ownBlock]; omega⟩
  clear d0 d1 d2 d3 d4 d5 d6 c0 HO1 HO2 HO HOW
  go_wp2_with fail
  go_loopw [4, 17] (fun v i wr => PutRel w A o ns v i wr) (fun _ i _ => ns.length - (intOf i).toNat)
  case atStart => exact hst.out
  case round =>
    obtain ⟨j, hj, rfl, hown, hnum, hbel⟩ := hrel
    by_cases hlt : j < ns.length
    · have hne : ns ≠ [] := by
        intro h
        rw [h] at hlt
        simp at hlt
      obtain ⟨g, hge, _, _⟩ := HNR.out.2 hne
      obtain ⟨hob, hneq⟩ := hnum g hge
      obtain ⟨x, HX⟩ : ∃ x, Hid (ns[j]'hlt = x) := ⟨_, Lib.hid rfl⟩
      have hx : 0 ≤ x ∧ x ≤ 255 := HBD.out x (by
        unfold putB
        rw [HNS.out, ← HX.out]
        exact List.mem_cons_of_mem _ (List.getElem_mem hlt))
      obtain ⟨x0, x1⟩ := hx
      have hc : wr.cell? ⟨g, j, none⟩ = some (.int .i64 x) := by
        rw [hob.cell, List.getElem?_toArray, List.getElem?_map, List.getElem?_eq_getElem hlt, HX.out]
        rfl
      have hlt' : (j : Int) < (ns.length : Int) := by omega
      have HOB := Lib.hid hob
      have HNQ := Lib.hid hneq
      have HBE := Lib.hid hbel
      have HOWN := Lib.hid hown
      subst hge
      clear hst hob hneq hnum hne hbel hown
      go_wp2_with (at_builtin; refine push1g _ rfl (.tmp 21) (.tmp 24) 26 rfl w.heap.size 5 i0 (.int .u8 0) 1 Try.underlying26 hi hz0 hz1 hz2 rfl _ _ _ rfl HOWN.out (.int .u8 x) _ rfl rfl (by unfold maxLen; omega) (by omega) HBE.out.size ?_; intro v2 w5 hown2 hbel2 hg2 hb2)
      go_roundw
      case rel =>
        refine ⟨j + 1, by omega, by go_num, ?_, fun g' hg' => ?_, HBE.out.trans hbel2⟩
        · have e : (o :: ns.take (j + 1)).map (Value.int .u8) = (o :: ns.take j).map (Value.int .u8) ++ [.int .u8 x] := by
            rw [List.take_add_one, List.getElem?_eq_getElem hlt, HX.out]
            simp
          rw [e]
          exact hown2
        · cases hg'
          refine ⟨(hg2.block g HOB.out.lt (fun e => HNQ.out e.symm)).trans HOB.out, ?_⟩
          rcases hb2 with h | h
          · rw [h]; exact HNQ.out
          · rw [h]
            intro e
            have := Option.some.inj e
            have := HOB.out.lt
            omega
      case measure => simp [intOf]; omega
    · obtain rfl : j = ns.length := by omega
      rw [List.take_length] at hown
      obtain ⟨A', c', rfl, h1, h2, hl⟩ := Lst.of_own hown
      have HL := Lib.hid hl
      have HBE := Lib.hid hbel
      clear hl hown hnum hbel hst
      go_wp2
      go_ret2
      exact ⟨A', _, c', rfl, by simp [putB, HNS.out], h1, h2, by unfold putB; rw [HNS.out]; exact HL, HBE⟩
theorem put_no (o a s c m b t : Int) (w : World) (hr : ¬ RP o a s c m b t) (bs : -9223372036854775808 ≤ s ∧ s ≤ 9223372036854775807) :
    Calls Try.prog 16 #[cv o a s c m b t] w fun e w' => e = .returned (.tuple #[.slice none 0 0, .int .i64 2]) ∧ Hid (Below w.heap.size w w') := by
  have HR := Lib.hid hr
  have HB := Lib.hid (show Below w.heap.size w (w.alloc (.cells (c7 o a s c m b t) TC)) from (Below.refl _ _).alloc (Nat.le_refl _) _)
  clear hr
  go_enter Try.func16, Try.ntmps16
  go_wp2_with fail
  generalize w.alloc (.cells #[.int .i64 o, .int .i64 a, .int .i64 s, .int .i64 c, .int .i64 m, .int .i64 b, .int .i64 t] TC) = W at HB ⊢
  refine (right_no o a s c m b t W HR.out bs).mono ?_
  rintro e w1 ⟨rfl, hb1⟩
  go_wp2
  go_ret2
  exact ⟨rfl, HB.out.trans (hb1.mono HB.out.size)⟩
end Go.Proofs.Ythnopcoahcdjjaa.Ly9
