/- The contracts of package layout's of, of the document's Map, and of the statements' own Own and same of layer 42; no condition but sizes. -/
import Derived.Test.YtejhjpdcodloaaaLayA
namespace Go.Proofs.Ytejhjpdcodloaaa.Ly42
open Go.ChangeShapes Go.WideShapes Go.ChangeAt Go.RowKit Base
set_option linter.unusedVariables false
set_option linter.unusedSimpArgs false

abbrev TBl : TypeId := 52
abbrev TRp : TypeId := 58
theorem wpList_allocZ {P : Program} {ops : Array Oper} {rest : List Oper} {o : Oper} {a : Act} {w : World} {Q : Exit → Act → World → Prop} (hg : o.guard = none) (e : TypeId) (ho : o.op = .alloc e) {i : TypeInfo} {z : Value} (hi : P.info? e = some i) (hz : i.zero = some z)
    (h : wpList P ops Q rest (a.put o.dst (.pointer (some ⟨w.heap.size, 0, none⟩))) (w.alloc (.cells z.cells e))) : wpList P ops Q (o :: rest) a w :=
  wpList_plain hg fun _ hK => by
    unfold Oper.wp
    have hr : (execOp a.eval o).run P w = .ok (.value (.pointer (some ⟨w.heap.size, 0, none⟩))) (w.alloc (.cells z.cells e)) := by simp [execOp, ho, Instr.alloc, zeroValue, typeInfo, hi, hz, newVar, newRow]
    rw [hr]
    exact hK _ _ h
theorem wrote_setRow {b : Nat} {w : World} {T : TypeId} {cs : Array Value} (h : Obj1 w b T cs) (cs' : Array Value) : Obj1 (w.setRow b cs') b T cs' ∧ Wrote b w (w.setRow b cs') :=
  ⟨setRow_heap w b cs cs' T _ h, ⟨rfl, rfl, rfl, by simp, fun k _ hk => setRow_other w b k cs' (fun e => hk (by rw [e]))⟩⟩
theorem info_pl : (Try.prog.info? TPl).map (fun i => (i.zero, i.size)) = some (some (.agg (Array.replicate 64 (.int .i64 0))), 64) := by kernel_rfl
theorem info_bl : (Try.prog.info? TBl).map (fun i => (i.zero, i.size)) = some (some (.agg (Array.replicate 64 (.bool false))), 64) := by kernel_rfl
theorem info_get {P : Program} {t : TypeId} {z : Value} {n : Nat} (h : (P.info? t).map (fun i => (i.zero, i.size)) = some (some z, n)) : ∃ i, P.info? t = some i ∧ i.zero = some z ∧ i.size = n := by
  rw [Option.map_eq_some_iff] at h
  obtain ⟨i, hi, e⟩ := h
  injection e with e1 e2
  exact ⟨i, hi, e1, e2⟩
theorem info_rp : (Try.prog.info? TRp).map (fun i => (i.zero, i.size, i.bytes)) = some (some (.agg #[.int .i64 0, .int .i64 0]), 2, 16) := by kernel_rfl
theorem info_pt : (Try.prog.info? TPt).map (fun i => (i.zero, i.size, i.bytes)) = some (some (.agg #[.int .i64 0, .int .i64 0]), 2, 16) := by kernel_rfl
theorem take_next {α : Type} {l : List α} {k : Nat} {x : α} (h : l[k]? = some x) : l.take (k + 1) = l.take k ++ [x] := by rw [List.take_add_one, h]; rfl
theorem drop_next {α : Type} {l : List α} {k : Nat} {x : α} (h : l[k]? = some x) : l.drop k = x :: l.drop (k + 1) := by
  obtain ⟨hk, rfl⟩ := List.getElem?_eq_some_iff.1 h
  exact List.drop_eq_getElem_cons hk
theorem Cs.one {cs : Array Value} {f : Nat → Nat} (h : Cs cs f) : cs.all (·.oneCell') = true := by
  rw [Array.all_eq_true]
  intro i hi
  have h1 := h.2 i (by rw [← h.1]; exact hi)
  rw [Array.getElem?_eq_getElem hi] at h1
  injection h1 with h1
  rw [h1]
  rfl
theorem Cs.zero : Cs (Array.replicate 64 (.int .i64 0)) (fun _ => 0) := ⟨by simp, fun i hi => by simp [hi]⟩
def Bs (cs : Array Value) (f : Nat → Bool) : Prop := cs.size = 64 ∧ ∀ i, i < 64 → cs[i]? = some (.bool (f i))
theorem Bs.zero : Bs (Array.replicate 64 (.bool false)) (fun _ => false) := ⟨by simp, fun i hi => by simp [hi]⟩
theorem Bs.one {cs : Array Value} {f : Nat → Bool} (h : Bs cs f) : cs.all (·.oneCell') = true := by
  rw [Array.all_eq_true]
  intro i hi
  have h1 := h.2 i (by rw [← h.1]; exact hi)
  rw [Array.getElem?_eq_getElem hi] at h1
  injection h1 with h1
  rw [h1]
  rfl
def BlAt (w : World) (g : Nat) (f : Nat → Bool) : Prop := ∃ cs, Obj1 w g TBl cs ∧ Bs cs f
theorem BlAt.lt {w : World} {g : Nat} {f : Nat → Bool} (h : BlAt w g f) : g < w.heap.size := by obtain ⟨cs, h, _⟩ := h; exact h.lt
theorem BlAt.kept {w w' : World} {g : Nat} {f : Nat → Bool} (h : BlAt w g f) (hb : Below w.heap.size w w') : BlAt w' g f := by obtain ⟨cs, h, k⟩ := h; exact ⟨cs, h.kept hb, k⟩
theorem BlAt.cell {w : World} {g : Nat} {f : Nat → Bool} (h : BlAt w g f) {i : Nat} (hi : i < 64) : w.cell? ⟨g, i, none⟩ = some (.bool (f i)) ∧ w.frozen? ⟨g, i, none⟩ = false := by
  obtain ⟨cs, h, k⟩ := h
  exact ⟨by rw [h.cell]; exact k.2 i hi, h.free i⟩
theorem BlAt.put {w : World} {g : Nat} {f : Nat → Bool} (h : BlAt w g f) {i : Nat} (hi : i < 64) (v : Bool) : BlAt (w.setCell ⟨g, i, none⟩ (.bool v)) g (fun j => if j = i then v else f j) := by
  obtain ⟨cs, h, k1, k2⟩ := h
  refine ⟨_, h.set i (.bool v), by simpa using k1, fun j hj => ?_⟩
  show _ = some (Value.bool (if j = i then v else f j : Bool))
  by_cases e : j = i
  · subst e
    rw [Array.getElem?_setIfInBounds_self_of_lt (by rw [k1]; exact hj), if_pos rfl]
  · rw [Array.getElem?_setIfInBounds_ne (fun e' => e e'.symm), if_neg e]
    exact k2 j hj
theorem BlAt.same {w : World} {g : Nat} {f f' : Nat → Bool} (h : BlAt w g f) (he : ∀ i, i < 64 → f i = f' i) : BlAt w g f' := by
  obtain ⟨cs, h, k1, k2⟩ := h
  exact ⟨cs, h, k1, fun i hi => by rw [k2 i hi, he i hi]⟩
set_option maxRecDepth 100000 in
set_option maxHeartbeats 2000000 in
theorem of_any (A : Option Addr) (n c : Nat) (l : List Pt) (w : World) (hl : PtsAt w A n l) (hn : n ≤ 1000) :
    Calls Try.prog 42 #[.slice A n c] w fun e w' => ∃ cs, e = .returned (.agg cs) ∧ Hid (Cs cs (cnt l)) ∧ Hid (Below w.heap.size w w') := by
  have HL := Lib.hid hl
  obtain ⟨ip, hip, hzp, hsp⟩ := info_get info_pl
  obtain ⟨gr, HGR⟩ : ∃ g, Hid (w.heap.size = g) := ⟨_, Lib.hid rfl⟩
  obtain ⟨gn, HGN⟩ : ∃ g, Hid (gr + 1 = g) := ⟨_, Lib.hid rfl⟩
  obtain ⟨W1, HW1⟩ : ∃ W, Hid (W = w.alloc (.cells (Array.replicate 64 (.int .i64 0)) TPl)) := ⟨_, Lib.hid rfl⟩
  obtain ⟨W2, HW2⟩ : ∃ W, Hid (W = W1.alloc (.cells (Array.replicate 64 (.int .i64 0)) TPl)) := ⟨_, Lib.hid rfl⟩
  have n1 : Below w.heap.size w W1 := by rw [HW1.out]; exact bel1 _ _
  have n2 : Below W1.heap.size W1 W2 := by rw [HW2.out]; exact bel1 _ _
  have hs1 : W1.heap.size = gn := by rw [HW1.out, ← HGN.out, ← HGR.out]; simp
  have HS1 := Lib.hid hs1
  have HB2 : Hid (Below w.heap.size w W2) := Lib.hid (n1.trans (n2.mono n1.size))
  have HOR : Hid (Obj1 W2 gr TPl (Array.replicate 64 (.int .i64 0))) := Lib.hid ((show Obj1 W1 gr TPl _ by rw [HW1.out, ← HGR.out]; exact Obj1.new _ _ _).kept n2)
  have HPN : Hid (PlAt W2 gn (cnt [])) := Lib.hid ⟨_, by rw [HW2.out, ← hs1]; exact Obj1.new _ _ _, Cs.zero⟩
  have HSI : Hid ((Try.prog.info? TPl).map (·.size) = some 64) := Lib.hid (by rw [hip]; simp [hsp])
  have HGG : Hid (gr ≠ gn ∧ w.heap.size ≤ gn ∧ w.heap.size ≤ gr) := Lib.hid (by have := HGN.out; have := HGR.out; omega)
  clear n1 n2 hs1 hl
  go_enter Try.func42, Try.ntmps42
  go_upto_region 1 with (refine wpList_allocZ rfl TPl rfl hip hzp ?_)
  change Code.wp _ _ _ _ (w.alloc (.cells (Array.replicate 64 (.int .i64 0)) TPl))
  rw [← HW1.out, HGR.out]
  go_upto_region 2 with (refine wpList_allocZ rfl TPl rfl hip hzp ?_)
  change Code.wp _ _ _ _ (W1.alloc (.cells (Array.replicate 64 (.int .i64 0)) TPl))
  rw [← HW2.out, HS1.out]
  clear HW1 HW2 HS1
  go_upto_block 2 with (fail)
  go_wp2_with fail
  go_loopw [8] (fun i wx => ∃ k : Nat, k ≤ n ∧ i = .int .i64 k ∧ Hid (PlAt wx gn (cnt (l.take k))) ∧ Hid (Obj1 wx gr TPl (Array.replicate 64 (.int .i64 0))) ∧ Below w.heap.size w wx) (fun i _ => n - (intOf i).toNat)
  case atStart => exact ⟨0, by omega, rfl, Lib.hid (by simpa using HPN.out), HOR, HB2.out⟩
  case round =>
    clear HPN HOR HB2
    obtain ⟨k, hk, rfl, HPK, HOK, hbel⟩ := hrel
    have HBEL := Lib.hid hbel
    by_cases hlt : k < n
    · as_aux_lemma =>
      have hki : (k : Int) < (n : Int) := by omega
      have hkl : k < l.length := by rw [HL.out.len]; exact hlt
      obtain ⟨x, hx⟩ : ∃ x, l[k]? = some x := ⟨_, List.getElem?_eq_getElem hkl⟩
      have HX := Lib.hid hx
      obtain ⟨b, off, rfl, hb, k0, k1⟩ := (HL.out.kept hbel).two hlt hx
      obtain ⟨xa, xm⟩ := x
      simp only at k0 k1
      clear hx hkl hb hbel
      go_upto_region 5 with (fail)
      obtain ⟨gx, HGX⟩ : ∃ gx, Hid (wr.heap.size = gx) := ⟨_, Lib.hid rfl⟩
      obtain ⟨W5, HW5⟩ : ∃ W5, W5 = wr.alloc (.cells #[.int .i64 xa, .int .i64 xm] TPt) := ⟨_, rfl⟩
      have HOX : Hid (Obj1 W5 gx TPt #[.int .i64 xa, .int .i64 xm]) := Lib.hid (by rw [HW5, ← HGX.out]; exact Obj1.new _ _ _)
      have HB5 : Hid (Below wr.heap.size wr W5) := Lib.hid (by rw [HW5]; exact bel1 _ _)
      have HBW5 := Lib.hid (HBEL.out.trans (HB5.out.mono HBEL.out.size))
      have HP5 := Lib.hid (HPK.out.kept HB5.out)
      have HO5 := Lib.hid (HOK.out.kept HB5.out)
      rw [← HW5, HGX.out]
      clear HW5 k0 k1 HB5 HPK HOK HBEL HGX
      have q0 := HOX.out.cell 0
      have q1 := HOX.out.cell 1
      simp at q0 q1
      have HAD := Lib.hid (add_any gn (cnt (l.take k)) xa xm W5 HP5.out (fun i _ => by have h1 := cnt_le (l.take k) i; rw [List.length_take] at h1; omega))
      go_wp2_with fail
      refine HAD.out.mono ?_
      rintro e w6 ⟨rfl, HP6, HW6⟩
      have HP7 : Hid (PlAt w6 gn (cnt (l.take (k + 1)))) := Lib.hid (HP6.out.same (fun i _ => by rw [take_next HX.out, cnt_snoc]))
      have HO7 := Lib.hid (HO5.out.touch HW6.out HGG.out.1)
      have HB7 := Lib.hid (HBW5.out.trans (HW6.out.below HGG.out.2.1 HBW5.out.size))
      clear q0 q1 HAD HP6 HW6 HOX HP5 HO5 HBW5
      go_wp2
      go_roundw
      case rel => exact ⟨k + 1, by omega, by go_num, HP7, HO7, HB7.out⟩
      case measure => simp [intOf]; omega
    · as_aux_lemma =>
      have hke : n = k := by omega
      subst hke
      obtain ⟨cs, hcs, hcc⟩ := HPK.out
      have HCS := Lib.hid hcs
      have HCC : Hid (Cs cs (cnt l)) := Lib.hid (by have h := hcc; rwa [List.take_of_length_le (by rw [HL.out.len]; exact Nat.le_refl _)] at h)
      have HSZ : Hid ((Try.prog.info? TPl).map (·.size) = some cs.size) := Lib.hid (by rw [HSI.out, HCC.out.1])
      have HOL : Hid ((Array.replicate 64 (Value.int .i64 0)).size = cs.size) := Lib.hid (by rw [HCC.out.1]; simp)
      clear hcs hcc hbel
      go_wp2_with (first | (refine wpList_load_row rfl TPl _ rfl gn rfl _ cs _ _ HCS.out Try.underlying78 rfl HSZ.out ?_) | (refine wpList_store_row rfl TPl _ _ rfl gr cs rfl rfl TPl _ HOK.out HSZ.out HOL.out HCC.out.one ?_))
      have HW9 := Lib.hid (wrote_setRow HOK.out cs)
      generalize wr.setRow gr cs = we at HW9 ⊢
      have HE9 := Lib.hid HW9.out.1
      try rw [Exit.noGoto_ret]
      refine bodyPost_ret (v := .agg cs) (results_cell_row rfl _ _ gr TPl cs (0, 0) _ rfl HE9.out Try.underlying78 rfl HSZ.out) rfl ?_
      exact ⟨cs, rfl, HCC, Lib.hid (HBEL.out.trans (HW9.out.2.below HGG.out.2.2 HBEL.out.size))⟩

/-! ### The document's Map -/

set_option maxRecDepth 100000 in
set_option maxHeartbeats 2000000 in
theorem map_any (A : Option Addr) (n c : Nat) (l : List Pt) (w : World) (hl : PtsAt w A n l) (hn : n ≤ 1000) :
    Calls Try.prog 22 #[.slice A n c] w fun e w' => ∃ cs, e = .returned (.agg cs) ∧ Hid (Bs cs (had l)) ∧ Hid (Below w.heap.size w w') := by
  have HL := Lib.hid hl
  obtain ⟨ip, hip, hzp, hsp⟩ := info_get info_bl
  obtain ⟨gr, HGR⟩ : ∃ g, Hid (w.heap.size = g) := ⟨_, Lib.hid rfl⟩
  obtain ⟨gn, HGN⟩ : ∃ g, Hid (gr + 1 = g) := ⟨_, Lib.hid rfl⟩
  obtain ⟨W1, HW1⟩ : ∃ W, Hid (W = w.alloc (.cells (Array.replicate 64 (.bool false)) TBl)) := ⟨_, Lib.hid rfl⟩
  obtain ⟨W2, HW2⟩ : ∃ W, Hid (W = W1.alloc (.cells (Array.replicate 64 (.bool false)) TBl)) := ⟨_, Lib.hid rfl⟩
  have n1 : Below w.heap.size w W1 := by rw [HW1.out]; exact bel1 _ _
  have n2 : Below W1.heap.size W1 W2 := by rw [HW2.out]; exact bel1 _ _
  have hs1 : W1.heap.size = gn := by rw [HW1.out, ← HGN.out, ← HGR.out]; simp
  have HS1 := Lib.hid hs1
  have HB2 : Hid (Below w.heap.size w W2) := Lib.hid (n1.trans (n2.mono n1.size))
  have HOR : Hid (Obj1 W2 gr TBl (Array.replicate 64 (.bool false))) := Lib.hid ((show Obj1 W1 gr TBl _ by rw [HW1.out, ← HGR.out]; exact Obj1.new _ _ _).kept n2)
  have HPN : Hid (BlAt W2 gn (had [])) := Lib.hid ⟨_, by rw [HW2.out, ← hs1]; exact Obj1.new _ _ _, Bs.zero⟩
  have HSI : Hid ((Try.prog.info? TBl).map (·.size) = some 64) := Lib.hid (by rw [hip]; simp [hsp])
  have HGG : Hid (gr ≠ gn ∧ w.heap.size ≤ gn ∧ w.heap.size ≤ gr) := Lib.hid (by have := HGN.out; have := HGR.out; omega)
  clear n1 n2 hs1 hl
  go_enter Try.func22, Try.ntmps22
  go_upto_region 1 with (refine wpList_allocZ rfl TBl rfl hip hzp ?_)
  change Code.wp _ _ _ _ (w.alloc (.cells (Array.replicate 64 (.bool false)) TBl))
  rw [← HW1.out, HGR.out]
  go_upto_region 2 with (refine wpList_allocZ rfl TBl rfl hip hzp ?_)
  change Code.wp _ _ _ _ (W1.alloc (.cells (Array.replicate 64 (.bool false)) TBl))
  rw [← HW2.out, HS1.out]
  clear HW1 HW2 HS1
  go_wp2_with fail
  go_loopw [4] (fun i wx => ∃ q : Nat, q ≤ n ∧ i = .int .i64 q ∧ Hid (BlAt wx gn (had (l.take q))) ∧ Hid (Obj1 wx gr TBl (Array.replicate 64 (.bool false))) ∧ Below w.heap.size w wx) (fun i _ => n - (intOf i).toNat)
  case atStart => exact ⟨0, by omega, rfl, Lib.hid (by simpa using HPN.out), HOR, HB2.out⟩
  case round =>
    clear HPN HOR HB2
    obtain ⟨q, hq, rfl, HPK, HOK, hbel⟩ := hrel
    have HBEL := Lib.hid hbel
    by_cases hlt : q < n
    · as_aux_lemma =>
      have hqi : (q : Int) < (n : Int) := by omega
      have hql : q < l.length := by rw [HL.out.len]; exact hlt
      obtain ⟨x, hx⟩ : ∃ x, l[q]? = some x := ⟨_, List.getElem?_eq_getElem hql⟩
      have HX := Lib.hid hx
      obtain ⟨xa, xm⟩ := x
      have HRT := Lib.hid (fun W => rright_any xa xm W)
      obtain ⟨r, HR⟩ : ∃ r, Hid (rB ⟨xa, xm⟩ = r) := ⟨_, Lib.hid rfl⟩
      rw [HR.out] at HRT
      clear hx hql hbel
      go_wp2_with fail
      cases r with
      | false =>
        have HP9 : Hid (BlAt wr gn (had (l.take (q + 1)))) := Lib.hid (HPK.out.same (fun i _ => by rw [take_next HX.out, had_snoc]; simp [inP, HR.out]))
        go_loopw [5] (fun i wx => i = .int .i64 0 ∧ wr = wx) (fun i _ => 0)
        case atStart => exact ⟨rfl, rfl⟩
        case round =>
          obtain ⟨rfl, rfl⟩ := hrel
          obtain ⟨b, off, rfl, hb, k0, k1⟩ := (HL.out.kept HBEL.out).two hlt HX.out
          simp only at k0 k1
          clear hb
          go_wp2_with fail
          refine (HRT.out _).mono ?_
          rintro e w6 ⟨rfl, hb6⟩
          have HP10 := Lib.hid (HP9.out.kept hb6)
          have HO10 := Lib.hid (HOK.out.kept hb6)
          have HB10 := Lib.hid (HBEL.out.trans (hb6.mono HBEL.out.size))
          clear k0 k1 hb6
          go_wp2
          go_roundw
          case rel => exact ⟨q + 1, by omega, by go_num, HP10, HO10, HB10.out⟩
          case measure => simp [intOf]; omega
      | true =>
        obtain ⟨r0, r1, r2, r3⟩ := rB_iff.1 HR.out
        simp only at r0 r1 r2 r3
        obtain ⟨a', rfl⟩ : ∃ a' : Nat, xa = (a' : Int) := ⟨xa.toNat, by omega⟩
        obtain ⟨m', rfl⟩ : ∃ m' : Nat, xm = (m' : Int) := ⟨xm.toNat, by omega⟩
        have HM : Hid (a' + m' ≤ 64) := Lib.hid (by omega)
        clear r0 r1 r2 r3
        go_loopw [5] (fun i wx => ∃ k : Nat, k ≤ m' ∧ i = .int .i64 k ∧ Hid (BlAt wx gn (fun i => had (l.take q) i || decide (a' ≤ i ∧ i < a' + k))) ∧ Hid (Obj1 wx gr TBl (Array.replicate 64 (.bool false))) ∧ Below w.heap.size w wx) (fun i _ => m' - (intOf i).toNat)
        case atStart => exact ⟨0, by omega, rfl, Lib.hid (HPK.out.same (fun i _ => by rw [show decide (a' ≤ i ∧ i < a' + 0) = false from decide_eq_false (by omega)]; simp)), HOK, HBEL.out⟩
        case round =>
          clear HPK HOK HBEL
          obtain ⟨k, hk, rfl, HPK, HOK, hbel⟩ := hrel
          have HBEL := Lib.hid hbel
          obtain ⟨b, off, rfl, hb, k0, k1⟩ := (HL.out.kept hbel).two hlt HX.out
          simp only at k0 k1
          clear hb hbel
          by_cases hkm : k < m'
          · have hkmi : (k : Int) < (m' : Int) := by omega
            have hik : a' + k < 64 := by have := HM.out; omega
            obtain ⟨i, hi⟩ : ∃ i, a' + k = i := ⟨_, rfl⟩
            have e1 : IntKind.i64.wrap ((a' : Int) + (k : Int)) = (i : Int) := by rw [IntWalk.i64_in _ (by omega)]; omega
            have e2 : IntKind.i64.wrap ((k : Int) + 1) = (k : Int) + 1 := IntWalk.i64_in _ (by omega)
            have HIE := Lib.hid hi
            rw [hi] at hik
            have hi64 : (i : Int) < 64 := by omega
            have hi0 : (0 : Int) ≤ (i : Int) := by omega
            clear hi
            go_wp2_with fail
            refine (HRT.out _).mono ?_
            rintro e w6 ⟨rfl, hb6⟩
            have HP6 := Lib.hid (HPK.out.kept hb6)
            have HO6 := Lib.hid (HOK.out.kept hb6)
            have HB6 := Lib.hid (HBEL.out.trans (hb6.mono HBEL.out.size))
            clear k0 k1 hb6
            obtain ⟨b', off', e', hb, k0, k1⟩ := (HL.out.kept HB6.out).two hlt HX.out
            obtain ⟨rfl, rfl⟩ : b' = b ∧ off' = off := by
              injection e' with e'
              injection e' with e1 e2 _
              exact ⟨e1.symm, e2.symm⟩
            simp only at k0 k1
            obtain ⟨c0, c1⟩ := HP6.out.cell hik
            clear hb e'
            go_upto_region 7 with (fail)
            have HS9 : Hid (Wrote gn w6 (w6.setCell ⟨gn, i, none⟩ (.bool true))) := Lib.hid ((Wrote.refl gn w6).set (p := ⟨gn, i, none⟩) (.inl rfl) _)
            have HP9 : Hid (BlAt (w6.setCell ⟨gn, i, none⟩ (.bool true)) gn (fun i => had (l.take q) i || decide (a' ≤ i ∧ i < a' + (k + 1)))) := Lib.hid ((HP6.out.put hik true).same (fun j hj => by
              have h2 := HIE.out
              by_cases e : j = i
              · rw [if_pos e, show decide (a' ≤ j ∧ j < a' + (k + 1)) = true from decide_eq_true (by omega), Bool.or_true]
              · rw [if_neg e]
                congr 1
                rw [decide_eq_decide]
                omega))
            have HO9 := Lib.hid (HO6.out.touch HS9.out HGG.out.1)
            have HB9 := Lib.hid (HB6.out.trans (HS9.out.below HGG.out.2.1 HB6.out.size))
            generalize w6.setCell ⟨gn, i, none⟩ (.bool true) = w9 at HS9 HP9 HO9 HB9 ⊢
            clear k0 k1 c0 c1 HS9
            go_wp2
            go_roundw
            case rel => exact ⟨k + 1, by omega, by go_num, HP9, HO9, HB9.out⟩
            case measure => simp [intOf]; omega
          · have hke : k = m' := by omega
            subst hke
            go_wp2_with fail
            refine (HRT.out _).mono ?_
            rintro e w6 ⟨rfl, hb6⟩
            have HP9 : Hid (BlAt w6 gn (had (l.take (q + 1)))) := Lib.hid ((HPK.out.kept hb6).same (fun i _ => by
              rw [take_next HX.out, had_snoc]
              congr 1
              unfold inP
              rw [HR.out, Bool.true_and, decide_eq_decide]
              simp only
              omega))
            have HO9 := Lib.hid (HOK.out.kept hb6)
            have HB9 := Lib.hid (HBEL.out.trans (hb6.mono HBEL.out.size))
            clear k0 k1 hb6
            obtain ⟨b', off', e', hb, k0, k1⟩ := (HL.out.kept HB9.out).two hlt HX.out
            obtain ⟨rfl, rfl⟩ : b' = b ∧ off' = off := by
              injection e' with e'
              injection e' with e1 e2 _
              exact ⟨e1.symm, e2.symm⟩
            simp only at k0 k1
            clear hb e'
            go_wp2
            go_roundw
            case rel => exact ⟨q + 1, by omega, by go_num, HP9, HO9, HB9.out⟩
            case measure => simp [intOf]; omega
    · as_aux_lemma =>
      have hke : n = q := by omega
      subst hke
      obtain ⟨cs, hcs, hcc⟩ := HPK.out
      have HCS := Lib.hid hcs
      have HCC : Hid (Bs cs (had l)) := Lib.hid (by have h := hcc; rwa [List.take_of_length_le (by rw [HL.out.len]; exact Nat.le_refl _)] at h)
      have HSZ : Hid ((Try.prog.info? TBl).map (·.size) = some cs.size) := Lib.hid (by rw [HSI.out, HCC.out.1])
      have HOL : Hid ((Array.replicate 64 (Value.bool false)).size = cs.size) := Lib.hid (by rw [HCC.out.1]; simp)
      clear hcs hcc hbel
      go_wp2_with (first | (refine wpList_load_row rfl TBl _ rfl gn rfl _ cs _ _ HCS.out Try.underlying52 rfl HSZ.out ?_) | (refine wpList_store_row rfl TBl _ _ rfl gr cs rfl rfl TBl _ HOK.out HSZ.out HOL.out HCC.out.one ?_))
      have HW9 := Lib.hid (wrote_setRow HOK.out cs)
      generalize wr.setRow gr cs = we at HW9 ⊢
      have HE9 := Lib.hid HW9.out.1
      try rw [Exit.noGoto_ret]
      refine bodyPost_ret (v := .agg cs) (results_cell_row rfl _ _ gr TBl cs (0, 0) _ rfl HE9.out Try.underlying52 rfl HSZ.out) rfl ?_
      exact ⟨cs, rfl, HCC, Lib.hid (HBEL.out.trans (HW9.out.2.below HGG.out.2.2 HBEL.out.size))⟩

/-! ### Own and same -/

set_option maxRecDepth 100000 in
set_option maxHeartbeats 2000000 in
theorem own_any (A : Option Addr) (n c : Nat) (l : List Pt) (w : World) (hl : PtsAt w A n l) (hn : n ≤ 1000) :
    Calls Try.prog 19 #[.slice A n c] w fun e w' => ∃ v, e = .returned v ∧ Hid (w'.ownsRow w.heap.size TRp 2 v n (ptC l)) ∧ Hid (Below w.heap.size w w') := by
  obtain ⟨i0, hi, hz0, hz1, hz2⟩ := info_parts info_rp
  have HL := Lib.hid hl
  have O0 : Hid (w.ownsRow w.heap.size TRp 2 (.slice none 0 0) 0 []) := Lib.hid ⟨rfl, .inl ⟨rfl, rfl⟩⟩
  clear hl
  go_enter Try.func19, Try.ntmps19
  go_wp2_with fail
  go_loopw [3, 4] (fun v i wx => ∃ j : Nat, j ≤ n ∧ i = .int .i64 j ∧ Hid (wx.ownsRow w.heap.size TRp 2 v j (ptC (l.take j))) ∧ Below w.heap.size w wx) (fun _ i _ => n - (intOf i).toNat)
  case atStart => exact ⟨0, by omega, rfl, Lib.hid (by simpa [ptC] using O0.out), Below.refl _ _⟩
  case round =>
    obtain ⟨j, hj, rfl, HOW, hbel⟩ := hrel
    have HBEL := Lib.hid hbel
    by_cases hlt : j < n
    · have hji : (j : Int) < (n : Int) := by omega
      have hjl : j < l.length := by rw [HL.out.len]; exact hlt
      obtain ⟨x, hx⟩ : ∃ x, l[j]? = some x := ⟨_, List.getElem?_eq_getElem hjl⟩
      obtain ⟨b, off, rfl, hb, k0, k1⟩ := (HL.out.kept hbel).two hlt hx
      have HNX := Lib.hid (show ptC (l.take (j + 1)) = ptC (l.take j) ++ ptL x by rw [take_next hx, ptC_snoc])
      clear hx hbel hjl hb
      go_wp2_with (at_builtin; refine pushS _ rfl (.tmp 11) (.tmp 16) 46 rfl w.heap.size TRp i0 (.agg #[.int .i64 0, .int .i64 0]) 2 16 Try.underlying46 hi hz0 hz1 hz2 rfl (by decide) _ _ _ rfl (HOW.out.alloc _) ⟨wr.heap.size, 0, none⟩ 1 1 (ptL x) rfl rfl (cell_new wr (ptL x) TRp) (one_ptL x) (by unfold maxLen; omega) (by omega) (by have := HBEL.out.size; simp; omega) ?_; intro v5 w5 O5 B5 G5 K5)
      have HB5 : Hid (Below w.heap.size w w5) := Lib.hid ((HBEL.out.alloc HBEL.out.size _).trans B5.out)
      have HO5 : Hid (w5.ownsRow w.heap.size TRp 2 v5 (j + 1) (ptC (l.take (j + 1)))) := Lib.hid (by rw [HNX.out]; exact O5.out)
      clear k0 k1 O5 B5 G5 K5
      go_wp2
      go_roundw
      case rel => exact ⟨j + 1, by omega, by go_num, HO5, HB5.out⟩
      case measure => simp [intOf]; omega
    · obtain rfl : j = n := by omega
      have HO9 : Hid (wr.ownsRow w.heap.size TRp 2 u3 j (ptC l)) := Lib.hid (by have h := HOW.out; rwa [List.take_of_length_le (by rw [HL.out.len]; exact Nat.le_refl _)] at h)
      clear hbel
      go_wp2
      go_ret
      exact ⟨_, rfl, HO9, HBEL⟩
set_option maxRecDepth 100000 in
set_option maxHeartbeats 1000000 in
theorem same_yes (A : Option Addr) (n c : Nat) (B : Option Addr) (d : Nat) (l : List Pt) (w : World) (hA : PtsAt w A n l) (hB : PtsAt w B n l) (hn : n ≤ 1000) :
    Calls Try.prog 20 #[.slice A n c, .slice B n d] w fun e w' => e = .returned (.bool true) ∧ Below w.heap.size w w' := by
  have HA := Lib.hid hA
  have HB := Lib.hid hB
  clear hA hB
  go_enter Try.func20, Try.ntmps20
  go_wp2_with fail
  go_loopw [5] (fun i wx => ∃ k : Nat, k ≤ n ∧ i = .int .i64 k ∧ Below w.heap.size w wx) (fun i _ => n - (intOf i).toNat)
  case atStart => exact ⟨0, by omega, rfl, Below.refl _ _⟩
  case round =>
    obtain ⟨k, hk, rfl, hbk⟩ := hrel
    have HBK := Lib.hid hbk
    by_cases hlt : k < n
    · have hki : (k : Int) < (n : Int) := by omega
      have hkl : k < l.length := by rw [HA.out.len]; exact hlt
      obtain ⟨x, hx⟩ : ∃ x, l[k]? = some x := ⟨_, List.getElem?_eq_getElem hkl⟩
      obtain ⟨b1, o1, rfl, hb1, j0, j1⟩ := (HA.out.kept hbk).two hlt hx
      obtain ⟨b2, o2, rfl, hb2, k0, k1⟩ := (HB.out.kept hbk).two hlt hx
      have J0 : ∀ z : Kin wr.drew, z.world.cell? ⟨b1, o1 + k * 2, none⟩ = some (.int .i64 x.a) := fun z => Kin.at (w := wr.drew) j0 z
      have J1 : ∀ z : Kin wr.drew, z.world.cell? ⟨b1, o1 + k * 2 + 1, none⟩ = some (.int .i64 x.m) := fun z => Kin.at (w := wr.drew) j1 z
      have K0 : ∀ z : Kin wr.drew, z.world.cell? ⟨b2, o2 + k * 2, none⟩ = some (.int .i64 x.a) := fun z => Kin.at (w := wr.drew) k0 z
      have K1 : ∀ z : Kin wr.drew, z.world.cell? ⟨b2, o2 + k * 2 + 1, none⟩ = some (.int .i64 x.m) := fun z => Kin.at (w := wr.drew) k1 z
      clear hbk hx hkl j0 j1 k0 k1 hb1 hb2
      go_upto_region 6 with (fail)
      refine wp_region_specL 9 [.d (.slice (some ⟨b1, o1, none⟩) n c), .d (.int .i64 k), .d (.pointer (some ⟨b1, o1 + k * 2, none⟩)), .d (.agg #[.int .i64 x.a, .int .i64 x.m]), .d (.slice (some ⟨b2, o2, none⟩) n d), .d (.int .i64 k), .d (.pointer (some ⟨b2, o2 + k * 2, none⟩)), .d (.agg #[.int .i64 x.a, .int .i64 x.m]), .d (.bool false)] (by kernel_rfl) (by kernel_rfl) ?_
      refine spec_d rfl (fun x _ => gives_run (by go_simp)) ?_
      try simp only [Act.put, List.getElem_toArray, List.getElem_cons_succ, List.getElem_cons_zero, List.setIfInBounds_toArray, List.set_cons_zero, List.set_cons_succ]
      refine spec_d rfl (fun x _ => gives_run (by go_simp)) ?_
      try simp only [Act.put, List.getElem_toArray, List.getElem_cons_succ, List.getElem_cons_zero, List.setIfInBounds_toArray, List.set_cons_zero, List.set_cons_succ]
      refine spec_d rfl (fun x _ => gives_run (by go_simp)) ?_
      try simp only [Act.put, List.getElem_toArray, List.getElem_cons_succ, List.getElem_cons_zero, List.setIfInBounds_toArray, List.set_cons_zero, List.set_cons_succ]
      refine spec_d rfl (fun x _ => gives_run (by go_simp)) ?_
      try simp only [Act.put, List.getElem_toArray, List.getElem_cons_succ, List.getElem_cons_zero, List.setIfInBounds_toArray, List.set_cons_zero, List.set_cons_succ]
      refine spec_d rfl (fun x _ => gives_run (by go_simp)) ?_
      try simp only [Act.put, List.getElem_toArray, List.getElem_cons_succ, List.getElem_cons_zero, List.setIfInBounds_toArray, List.set_cons_zero, List.set_cons_succ]
      refine spec_d rfl (fun x _ => gives_run (by go_simp)) ?_
      try simp only [Act.put, List.getElem_toArray, List.getElem_cons_succ, List.getElem_cons_zero, List.setIfInBounds_toArray, List.set_cons_zero, List.set_cons_succ]
      refine spec_d rfl (fun x _ => gives_run (by go_simp)) ?_
      try simp only [Act.put, List.getElem_toArray, List.getElem_cons_succ, List.getElem_cons_zero, List.setIfInBounds_toArray, List.set_cons_zero, List.set_cons_succ]
      refine spec_d rfl (fun x _ => gives_run (by go_simp)) ?_
      try simp only [Act.put, List.getElem_toArray, List.getElem_cons_succ, List.getElem_cons_zero, List.setIfInBounds_toArray, List.set_cons_zero, List.set_cons_succ]
      refine spec_d rfl (fun x _ => gives_run (by go_simp)) ?_
      try simp only [Act.put, List.getElem_toArray, List.getElem_cons_succ, List.getElem_cons_zero, List.setIfInBounds_toArray, List.set_cons_zero, List.set_cons_succ]
      refine spec_end (fun z hz => ?_)
      clear hz
      refine wpAny_done (by kernel_rfl) ?_ _
      have HBZ := Lib.hid (HBK.out.trans (((bel_drew wr).trans z.below).mono HBK.out.size))
      clear J0 J1 K0 K1
      generalize z.world = wz at HBZ ⊢
      clear z
      go_wp2
      go_roundw
      case rel => exact ⟨k + 1, by omega, by go_num, HBZ.out⟩
      case measure => simp [intOf]; omega
    · have hke : n = k := by omega
      subst hke
      clear hbk
      go_wp2
      go_ret
      exact ⟨rfl, HBK.out⟩
end Go.Proofs.Ytejhjpdcodloaaa.Ly42
