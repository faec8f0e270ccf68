/- What is placed is apart, and apart from what was taken; what is used, and what is free, is the memory; of no parts all is free: for every list of sizes, number and list of parts; no condition. -/
import Derived.RegionTactic
import Derived.IntWalk
import Derived.Deep.DeepCutAuto
import Derived.Deep.CutBlock
import Derived.Test.YtejhjpdcodloaaaLayG
import Derived.Test.YtejhjpdcodloaaaOne42
import Derived.Test.YtejhjpdcodloaaaNilz
import Derived.Test.YtejhjpdcodloaaaRows
import Derived.WalkKit
import Derived.ProofKit
import Derived.OpenShut
import Derived.ShutString
import Derived.ChangeOld
import Derived.Below
namespace Go.Proofs.Ytejhjpdcodloaaa.lawLayoutApart
open Go.ChangeShapes Go.WideShapes Go.ChangeAt Go.RowKit Base
open Go.ChangeMaps (open_string shut_string)
set_option linter.unusedVariables false
set_option linter.unusedSimpArgs false
theorem own : ownKnob Try.prog.godebug = none := by kernel_rfl
theorem laidOut : laidOutB Try.prog = true := by kernel_rfl
open Ly42

theorem pushIn {P : Program} (w : World) {ops : Array Oper} {rest : List Oper} {o : Oper} {a : Act} {Q : Exit → Act → World → Prop} (hgd : o.guard = none) (s x : Operand) (t : TypeId)
    (ho : o.op = .call { callee := .builtin .append, args := #[s, x], argTypes := #[t, t] })
    (base : Nat) (e : TypeId) (i : TypeInfo) (z : Value) (bytes : Nat) (ht : P.underlying t = some (.slice e)) (hi : P.info? e = some i) (hz : i.zero = some z)
    (hsize : i.size = 2) (hby : i.bytes = bytes) (hzs : z.cells.size = 2)
    (v : Value) (n : Nat) (xs : List Value) (hs : a.eval s = v) (hown : w.ownsRow base e 2 v n xs)
    (A : Option Addr) (m c : Nat) (tk : List Pt) (hx : a.eval x = .slice A m c) (hin : PtsAt w A m tk) (hnz : NilZ A m c)
    (h63 : n + m ≤ maxLen) (hbytes : (n + m) * bytes ≤ 140737488355328) (hbase : base ≤ w.heap.size)
    (h : ∀ v' w', Hid (w'.ownsRow base e 2 v' (n + m) (xs ++ ptC tk)) → Hid (Below base w w') → wpList P ops Q rest (a.put o.dst v') w') :
    wpList P ops Q (o :: rest) a w := by
  cases A with
  | none =>
    obtain ⟨rfl, rfl⟩ := hnz rfl
    have hn : tk = [] := List.eq_nil_of_length_eq_zero hin.len
    subst hn
    refine wpList_append_own_none hgd s x t ho base e i 2 ht hi v n xs hs hown hx ?_
    exact h v w (Lib.hid (by simpa [ptC] using hown)) (Lib.hid ⟨rfl, rfl, rfl, Nat.le_refl _, fun _ _ => rfl⟩)
  | some ad =>
    refine pushS w hgd s x t ho base e i z 2 bytes ht hi hz hsize hby hzs (by decide) v n xs hs hown ad m c (ptC tk) hx (by rw [ptC_len, hin.len]) (fun j y hj => ?_) (one_ptC tk) h63 hbytes hbase (fun v' w' H1 H2 _ _ => h v' w' H1 H2)
    have hjl : j < m * 2 := by rw [← hin.len, ← ptC_len]; exact (List.getElem?_eq_some_iff.1 hj).1
    obtain ⟨b, off, e', _, hc⟩ := hin.at' (by omega)
    injection e' with e'
    subst e'
    have hjd : j / 2 < tk.length := by rw [hin.len]; omega
    obtain ⟨q, hq⟩ : ∃ q, tk[j / 2]? = some q := ⟨_, List.getElem?_eq_getElem hjd⟩
    have h1 := hc (j / 2) q hq (j % 2) (by omega)
    have h2 := ptC_at tk (j / 2) (j % 2) q hq (by omega)
    rw [show j / 2 * 2 + j % 2 = j by omega] at h2
    rw [add_eq, show off + j = off + j / 2 * 2 + j % 2 by omega, h1, ← h2]
    exact hj
theorem res_cases (al : Int) (tk : List Pt) (zs : List Int) :
    ((resP al tk zs).1 = [] ∧ (resP al tk zs).2.2 ≠ 0 ∧ ((resP al tk zs).2.2 == 2) = decide ((resP al tk zs).2.1 < 0)) ∨
    ((resP al tk zs).2.1 = -1 ∧ (resP al tk zs).2.2 = 0 ∧ 1 ≤ al ∧ al ≤ 64 ∧ Goods al.toNat tk [] (resP al tk zs).1 zs ∧ ∀ z ∈ zs, 1 ≤ z ∧ z ≤ 8) := by
  unfold resP
  by_cases h : al < 1 ∨ 64 < al
  · rw [if_pos h]
    exact .inl ⟨rfl, by decide, by decide⟩
  · rw [if_neg h]
    cases hb : badA 0 zs with
    | some i => exact .inl ⟨rfl, by simp, by first | (simp; done) | (simp; omega)⟩
    | none =>
      have hz := bad_all zs 0 hb
      rcases plc_good al.toNat tk zs [] 0 hz with ⟨l, hl, hg⟩ | ⟨j, hj⟩
      · simp only
        rw [hl]
        exact .inr ⟨rfl, rfl, by omega, by omega, hg, hz⟩
      · simp only
        rw [hj]
        exact .inl ⟨rfl, by simp, by first | (simp; done) | (simp; omega)⟩
set_option maxRecDepth 100000 in
set_option maxHeartbeats 1500000 in
theorem walk_yes (Z : Option Addr) (nz cz : Nat) (zs : List Int) (al : Int) (A : Option Addr) (n c : Nat) (tk : List Pt) (w : World) (hz : Lst w Z nz (zs.map (Value.int .i64))) (hl : PtsAt w A n tk) (hnz : nz ≤ 9223372036854775807) (hn : n ≤ 9223372036854775807) (hnil : NilZ A n c) :
    Calls Try.prog 7 #[.slice Z nz cz, .int .i64 al, .slice A n c] w fun e w' => e = .returned (.bool true) ∧ Below w.heap.size w w' := by
  by_cases h1 : 80 < nz
  · have h1i : (80 : Int) < (nz : Int) := by omega
    go_enter Try.func7, Try.ntmps7
    go_wp2
    go_ret
    exact ⟨rfl, Below.refl _ _⟩
  have h1i : ¬ (80 : Int) < (nz : Int) := by omega
  by_cases h2 : 40 < n
  · have h2i : (40 : Int) < (n : Int) := by omega
    go_enter Try.func7, Try.ntmps7
    go_wp2
    go_ret
    exact ⟨rfl, Below.refl _ _⟩
  have h2i : ¬ (40 : Int) < (n : Int) := by omega
  have HZ := Lib.hid hz
  have HL := Lib.hid hl
  have HNIL := Lib.hid hnil
  have HP := Lib.hid (place_any Z nz cz zs al A n c tk w hz hl (by omega) (by omega))
  have hrc := res_cases al tk zs
  obtain ⟨R, HR⟩ : ∃ R, Hid (resP al tk zs = R) := ⟨_, Lib.hid rfl⟩
  rw [HR.out] at HP hrc
  have HZL : Hid (zs.length = nz) := Lib.hid (by simpa using hz.1)
  have hn1 : n ≤ 40 := by omega
  have hz1 : nz ≤ 80 := by omega
  obtain ⟨out, i, j⟩ := R
  simp only at HP hrc
  obtain ⟨i0, hi, hz0, hz1', hz2⟩ := info_parts info_pt
  clear hz hl h1 h2 hnil
  go_enter Try.func7, Try.ntmps7
  go_upto_region 3 with (fail)
  clear h1i h2i
  go_wp2_with fail
  refine HP.out.mono ?_
  rintro e w2 ⟨v2, rfl, HO2, hb2⟩
  obtain ⟨LA, lc, rfl, _, hp2⟩ := pts_own HO2.out rfl
  have HB2 := Lib.hid hb2.out
  have HPT : Hid (∀ W, Below w2.heap.size w2 W → PtsAt W LA out.length out) := Lib.hid (fun W h => hp2.kept h)
  have HOW : Hid (∀ W, Below w2.heap.size w2 W → W.ownsRow w.heap.size TPt 2 (.slice LA out.length lc) out.length (ptC out)) := Lib.hid (fun W h => own_kept HO2.out h)
  clear hb2 hp2 HP HO2
  rcases hrc with ⟨hnil, hj, hij⟩ | ⟨rfl, rfl, ha1, ha2, hgd, hzb⟩
  · as_aux_lemma =>
    subst hnil
    have hjb : (j == 0) = false := by simpa using hj
    have hjn : (j != 0) = true := by simpa using hj
    obtain ⟨b, hb⟩ : ∃ b, (j == 2) = b := ⟨_, rfl⟩
    have hib : decide (i < 0) = b := by rw [← hij, hb]
    clear hj hij
    go_wp2_with fail
    refine (One42.one_any _).mono ?_
    rintro e w6 ⟨rfl, hb6⟩
    have HB6 := Lib.hid (HB2.out.trans (hb6.mono HB2.out.size))
    clear hb6
    go_wp2
    go_ret
    exact ⟨rfl, HB6.out⟩
  · have HGD := Lib.hid hgd
    have HLN : Hid (out.length = nz) := Lib.hid (by rw [hgd.len, HZL.out])
    have HAPT : Hid (apA [] out = true) := Lib.hid (hgd.apart [] (fun i h => h))
    have HX2 : Hid (Below w2.heap.size w2 w2) := Lib.hid (Below.refl _ _)
    have HAP := Lib.hid (apart_any LA out.length lc out w2 (HPT.out _ HX2.out) (by rw [HLN.out]; omega))
    rw [HAPT.out, HLN.out] at HAP
    rw [HLN.out] at HPT HOW ⊢
    obtain ⟨al', rfl⟩ : ∃ a : Nat, al = (a : Int) := ⟨al.toNat, by omega⟩
    rw [Int.toNat_natCast] at HGD
    have haln : ¬ (al' : Int) = 0 := by omega
    have halm : ¬ al' = 0 := by omega
    have halz : ((al' : Int) == 0) = false := by simpa using halm
    clear hgd hzb ha1 ha2
    go_wp2_with fail
    refine HAP.out.mono ?_
    rintro e w3 ⟨rfl, hb3⟩
    have HB3 := Lib.hid (HX2.out.trans (hb3.mono HX2.out.size))
    clear hb3 HAP
    go_wp2_with fail
    go_loopw [10] (fun i wx => ∃ k : Nat, k ≤ nz ∧ i = .int .i64 k ∧ Below w2.heap.size w2 wx) (fun i _ => nz - (intOf i).toNat)
    case atStart => exact ⟨0, by omega, rfl, HB3.out⟩
    case round =>
      obtain ⟨k, hk, rfl, hbk⟩ := hrel
      have HBK := Lib.hid hbk
      have HBW := Lib.hid (HB2.out.trans (hbk.mono HB2.out.size))
      clear hbk
      by_cases hlt : k < nz
      · as_aux_lemma =>
        have hki : (k : Int) < (nz : Int) := by omega
        have hkl : k < out.length := by rw [HLN.out]; exact hlt
        have hkz : k < zs.length := by rw [HZL.out]; exact hlt
        obtain ⟨x, hx⟩ : ∃ x, out[k]? = some x := ⟨_, List.getElem?_eq_getElem hkl⟩
        obtain ⟨z, hzk⟩ : ∃ z, zs[k]? = some z := ⟨_, List.getElem?_eq_getElem hkz⟩
        obtain ⟨hxm, q, hxa⟩ := HGD.out.at k x z hx hzk
        have HXF := Lib.hid (HGD.out.free x (List.mem_of_getElem? hx))
        have htm : x.a.tmod (al' : Int) = 0 := by rw [hxa, Int.natCast_mul]; exact Int.mul_tmod_left _ _
        obtain ⟨b1, o1, rfl, hb1, j0, j1⟩ := (HPT.out _ HBK.out).two hlt hx
        obtain ⟨b2, o2, rfl, _, hc⟩ := (HZ.out.kept HBW.out).get hlt
        rw [List.getElem_map] at hc
        have hze : zs[k]'hkz = z := by
          have := List.getElem?_eq_getElem hkz
          rw [this] at hzk
          exact Option.some.inj hzk
        rw [hze] at hc
        rw [hxm] at j1
        obtain ⟨xa, xm⟩ := x
        simp only at j0 hxm htm
        subst hxm
        have J0 : ∀ z' : Kin wr.drew, z'.world.cell? ⟨b1, o1 + k * 2, none⟩ = some (.int .i64 xa) := fun z' => Kin.at (w := wr.drew) j0 z'
        have J1 : ∀ z' : Kin wr.drew, z'.world.cell? ⟨b1, o1 + k * 2 + 1, none⟩ = some (.int .i64 xm) := fun z' => Kin.at (w := wr.drew) j1 z'
        have C0 : ∀ z' : Kin wr.drew, z'.world.cell? ⟨b2, o2 + k, none⟩ = some (.int .i64 xm) := fun z' => Kin.at (w := wr.drew) hc z'
        have HXE := Lib.hid hx
        clear hze hzk hxa hkl hkz j0 j1 hc hb1 hx
        go_upto_region 11 with (fail)
        refine wp_region_specL 20 [.d (.slice (some ⟨b1, o1, none⟩) nz lc), .d (.int .i64 k), .d (.pointer (some ⟨b1, o1 + k * 2, none⟩)), .d (.pointer (some ⟨b1, o1 + k * 2 + 1, none⟩)), .d (.int .i64 xm), .d (.slice (some ⟨b2, o2, none⟩) nz cz), .d (.int .i64 k), .d (.pointer (some ⟨b2, o2 + k, none⟩)), .d (.int .i64 xm), .d (.bool false), .d (.bool false), .d (.slice (some ⟨b1, o1, none⟩) nz lc), .d (.int .i64 k), .d (.pointer (some ⟨b1, o1 + k * 2, none⟩)), .d (.pointer (some ⟨b1, o1 + k * 2, none⟩)), .d (.int .i64 xa), .d (.int .i64 al'), .d (.int .i64 0), .d (.bool false), .d (.bool false)] (by kernel_rfl) (by kernel_rfl) ?_
        refine spec_d rfl (fun x _ => gives_run (by go_simp)) ?_
        try simp only [Act.put, List.getElem_toArray, List.getElem_cons_succ, List.getElem_cons_zero, List.setIfInBounds_toArray, List.set_cons_zero, List.set_cons_succ]
        refine spec_d rfl (fun x _ => gives_run (by go_simp)) ?_
        try simp only [Act.put, List.getElem_toArray, List.getElem_cons_succ, List.getElem_cons_zero, List.setIfInBounds_toArray, List.set_cons_zero, List.set_cons_succ]
        refine spec_d rfl (fun x _ => gives_run (by go_simp)) ?_
        try simp only [Act.put, List.getElem_toArray, List.getElem_cons_succ, List.getElem_cons_zero, List.setIfInBounds_toArray, List.set_cons_zero, List.set_cons_succ]
        refine spec_d rfl (fun x _ => gives_run (by go_simp)) ?_
        try simp only [Act.put, List.getElem_toArray, List.getElem_cons_succ, List.getElem_cons_zero, List.setIfInBounds_toArray, List.set_cons_zero, List.set_cons_succ]
        refine spec_d rfl (fun x _ => gives_run (by go_simp)) ?_
        try simp only [Act.put, List.getElem_toArray, List.getElem_cons_succ, List.getElem_cons_zero, List.setIfInBounds_toArray, List.set_cons_zero, List.set_cons_succ]
        refine spec_d rfl (fun x _ => gives_run (by go_simp)) ?_
        try simp only [Act.put, List.getElem_toArray, List.getElem_cons_succ, List.getElem_cons_zero, List.setIfInBounds_toArray, List.set_cons_zero, List.set_cons_succ]
        refine spec_d rfl (fun x _ => gives_run (by go_simp)) ?_
        try simp only [Act.put, List.getElem_toArray, List.getElem_cons_succ, List.getElem_cons_zero, List.setIfInBounds_toArray, List.set_cons_zero, List.set_cons_succ]
        refine spec_d rfl (fun x _ => gives_run (by go_simp)) ?_
        try simp only [Act.put, List.getElem_toArray, List.getElem_cons_succ, List.getElem_cons_zero, List.setIfInBounds_toArray, List.set_cons_zero, List.set_cons_succ]
        refine spec_d rfl (fun x _ => gives_run (by go_simp)) ?_
        try simp only [Act.put, List.getElem_toArray, List.getElem_cons_succ, List.getElem_cons_zero, List.setIfInBounds_toArray, List.set_cons_zero, List.set_cons_succ]
        refine spec_d rfl (fun x _ => gives_run (by go_simp)) ?_
        try simp only [Act.put, List.getElem_toArray, List.getElem_cons_succ, List.getElem_cons_zero, List.setIfInBounds_toArray, List.set_cons_zero, List.set_cons_succ]
        refine spec_d rfl (fun x _ => gives_run (by go_simp)) ?_
        try simp only [Act.put, List.getElem_toArray, List.getElem_cons_succ, List.getElem_cons_zero, List.setIfInBounds_toArray, List.set_cons_zero, List.set_cons_succ]
        refine spec_d rfl (fun x _ => gives_run (by go_simp)) ?_
        try simp only [Act.put, List.getElem_toArray, List.getElem_cons_succ, List.getElem_cons_zero, List.setIfInBounds_toArray, List.set_cons_zero, List.set_cons_succ]
        refine spec_d rfl (fun x _ => gives_run (by go_simp)) ?_
        try simp only [Act.put, List.getElem_toArray, List.getElem_cons_succ, List.getElem_cons_zero, List.setIfInBounds_toArray, List.set_cons_zero, List.set_cons_succ]
        refine spec_d rfl (fun x _ => gives_run (by go_simp)) ?_
        try simp only [Act.put, List.getElem_toArray, List.getElem_cons_succ, List.getElem_cons_zero, List.setIfInBounds_toArray, List.set_cons_zero, List.set_cons_succ]
        refine spec_d rfl (fun x _ => gives_run (by go_simp)) ?_
        try simp only [Act.put, List.getElem_toArray, List.getElem_cons_succ, List.getElem_cons_zero, List.setIfInBounds_toArray, List.set_cons_zero, List.set_cons_succ]
        refine spec_d rfl (fun x _ => gives_run (by go_simp)) ?_
        try simp only [Act.put, List.getElem_toArray, List.getElem_cons_succ, List.getElem_cons_zero, List.setIfInBounds_toArray, List.set_cons_zero, List.set_cons_succ]
        refine spec_d rfl (fun x _ => gives_run (by go_simp)) ?_
        try simp only [Act.put, List.getElem_toArray, List.getElem_cons_succ, List.getElem_cons_zero, List.setIfInBounds_toArray, List.set_cons_zero, List.set_cons_succ]
        refine spec_d rfl (fun x _ => gives_run (by go_simp)) ?_
        try simp only [Act.put, List.getElem_toArray, List.getElem_cons_succ, List.getElem_cons_zero, List.setIfInBounds_toArray, List.set_cons_zero, List.set_cons_succ]
        refine spec_d rfl (fun x _ => gives_run (by go_simp)) ?_
        try simp only [Act.put, List.getElem_toArray, List.getElem_cons_succ, List.getElem_cons_zero, List.setIfInBounds_toArray, List.set_cons_zero, List.set_cons_succ]
        refine spec_d rfl (fun x _ => gives_run (by go_simp)) ?_
        try simp only [Act.put, List.getElem_toArray, List.getElem_cons_succ, List.getElem_cons_zero, List.setIfInBounds_toArray, List.set_cons_zero, List.set_cons_succ]
        refine spec_end (fun z' hz' => ?_)
        clear hz'
        refine wpAny_done (by kernel_rfl) ?_ _
        have HB4 := Lib.hid (HBK.out.trans (((bel_drew wr).trans z'.below).mono HBK.out.size))
        clear J0 J1 C0 htm
        generalize z'.world = w4 at HB4 ⊢
        clear z'
        go_wp2_with fail
        go_loopw [11] (fun i wx => ∃ q : Nat, q ≤ n ∧ i = .int .i64 q ∧ Below w2.heap.size w2 wx) (fun i _ => n - (intOf i).toNat)
        case atStart => exact ⟨0, by omega, rfl, HB4.out⟩
        case round =>
          obtain ⟨q, hq, rfl, hbq⟩ := hrel
          have HBQ := Lib.hid hbq
          have HBV := Lib.hid (HB2.out.trans (hbq.mono HB2.out.size))
          clear hbq
          by_cases hqn : q < n
          · have hqi : (q : Int) < (n : Int) := by omega
            have hql : q < tk.length := by rw [HL.out.len]; exact hqn
            obtain ⟨y, hy⟩ : ∃ y, tk[q]? = some y := ⟨_, List.getElem?_eq_getElem hql⟩
            have HMN : Hid (mB ⟨xa, xm⟩ y = false) := Lib.hid (meet_no (fun i hi => by
              have h1 := (HXF.out.2 i hi).1
              cases e : inP y i with
              | false => rfl
              | true =>
                have : had tk i = true := List.any_eq_true.2 ⟨y, List.mem_of_getElem? hy, e⟩
                rw [h1] at this
                cases this))
            obtain ⟨ya, ym⟩ := y
            have HME := Lib.hid (fun W => meets_any xa xm ya ym W)
            rw [HMN.out] at HME
            obtain ⟨b3, o3, rfl, _, k0, k1⟩ := (HL.out.kept HBV.out).two hqn hy
            obtain ⟨b1', o1', e', _, j0, j1⟩ := (HPT.out _ HBQ.out).two hlt HXE.out
            obtain ⟨rfl, rfl⟩ : b1' = b1 ∧ o1' = o1 := by
              injection e' with e'
              injection e' with e1 e2 _
              exact ⟨e1.symm, e2.symm⟩
            simp only at k0 k1 j0 j1
            have J0 : ∀ z' : Kin wr.drew, z'.world.cell? ⟨b1', o1' + k * 2, none⟩ = some (.int .i64 xa) := fun z' => Kin.at (w := wr.drew) j0 z'
            have J1 : ∀ z' : Kin wr.drew, z'.world.cell? ⟨b1', o1' + k * 2 + 1, none⟩ = some (.int .i64 xm) := fun z' => Kin.at (w := wr.drew) j1 z'
            have K0 : ∀ z' : Kin wr.drew, z'.world.cell? ⟨b3, o3 + q * 2, none⟩ = some (.int .i64 ya) := fun z' => Kin.at (w := wr.drew) k0 z'
            have K1 : ∀ z' : Kin wr.drew, z'.world.cell? ⟨b3, o3 + q * 2 + 1, none⟩ = some (.int .i64 ym) := fun z' => Kin.at (w := wr.drew) k1 z'
            clear hy hql e' k0 k1 j0 j1
            go_upto_region 16 with (fail)
            refine wp_region_specL 9 [.d (.slice (some ⟨b1', o1', none⟩) nz lc), .d (.int .i64 k), .d (.pointer (some ⟨b1', o1' + k * 2, none⟩)), .d (.agg #[.int .i64 xa, .int .i64 xm]), .d (.slice (some ⟨b3, o3, none⟩) n c), .d (.int .i64 q), .d (.pointer (some ⟨b3, o3 + q * 2, none⟩)), .d (.agg #[.int .i64 ya, .int .i64 ym]), .d (.bool false)] (by kernel_rfl) (by kernel_rfl) ?_
            refine spec_d rfl (fun x _ => gives_run (by go_simp)) ?_
            try simp only [Act.put, List.getElem_toArray, List.getElem_cons_succ, List.getElem_cons_zero, List.setIfInBounds_toArray, List.set_cons_zero, List.set_cons_succ]
            refine spec_d rfl (fun x _ => gives_run (by go_simp)) ?_
            try simp only [Act.put, List.getElem_toArray, List.getElem_cons_succ, List.getElem_cons_zero, List.setIfInBounds_toArray, List.set_cons_zero, List.set_cons_succ]
            refine spec_d rfl (fun x _ => gives_run (by go_simp)) ?_
            try simp only [Act.put, List.getElem_toArray, List.getElem_cons_succ, List.getElem_cons_zero, List.setIfInBounds_toArray, List.set_cons_zero, List.set_cons_succ]
            refine spec_d rfl (fun x _ => gives_run (by go_simp)) ?_
            try simp only [Act.put, List.getElem_toArray, List.getElem_cons_succ, List.getElem_cons_zero, List.setIfInBounds_toArray, List.set_cons_zero, List.set_cons_succ]
            refine spec_d rfl (fun x _ => gives_run (by go_simp)) ?_
            try simp only [Act.put, List.getElem_toArray, List.getElem_cons_succ, List.getElem_cons_zero, List.setIfInBounds_toArray, List.set_cons_zero, List.set_cons_succ]
            refine spec_d rfl (fun x _ => gives_run (by go_simp)) ?_
            try simp only [Act.put, List.getElem_toArray, List.getElem_cons_succ, List.getElem_cons_zero, List.setIfInBounds_toArray, List.set_cons_zero, List.set_cons_succ]
            refine spec_d rfl (fun x _ => gives_run (by go_simp)) ?_
            try simp only [Act.put, List.getElem_toArray, List.getElem_cons_succ, List.getElem_cons_zero, List.setIfInBounds_toArray, List.set_cons_zero, List.set_cons_succ]
            refine spec_d rfl (fun x _ => gives_run (by go_simp)) ?_
            try simp only [Act.put, List.getElem_toArray, List.getElem_cons_succ, List.getElem_cons_zero, List.setIfInBounds_toArray, List.set_cons_zero, List.set_cons_succ]
            refine spec_d rfl (fun z' _ => gives_det (by go_simp) (HME.out z'.world)) ?_
            try simp only [Act.put, List.getElem_toArray, List.getElem_cons_succ, List.getElem_cons_zero, List.setIfInBounds_toArray, List.set_cons_zero, List.set_cons_succ]
            refine spec_end (fun z' hz' => ?_)
            clear hz'
            refine wpAny_done (by kernel_rfl) ?_ _
            have HB5 := Lib.hid (HBQ.out.trans (((bel_drew wr).trans z'.below).mono HBQ.out.size))
            clear J0 J1 K0 K1 HME
            generalize z'.world = w5 at HB5 ⊢
            clear z'
            go_wp2
            go_roundw
            case rel => exact ⟨q + 1, by omega, by go_num, HB5.out⟩
            case measure => simp [intOf]; omega
          · have hqe : n = q := by omega
            subst hqe
            go_wp2
            go_roundw
            case rel => exact ⟨k + 1, by omega, by go_num, HBQ.out⟩
            case measure => simp [intOf]; omega
      · as_aux_lemma =>
        have hke : nz = k := by omega
        subst hke
        have HE1 := Lib.hid (own_empty2 wr TPt)
        have hba := bel1 wr (.cells #[] TPt)
        have HBA := Lib.hid hba
        have HT1 := Lib.hid ((HL.out.kept HBW.out).kept hba)
        have HO1 := Lib.hid (own_kept (HOW.out _ HBK.out) hba)
        have HOb : Hid (∀ q, (Value.slice LA nz lc).ownBlock = some q → q < wr.heap.size) := Lib.hid (fun q hq => ((HOW.out _ HBK.out).lt q hq).2)
        clear hba
        go_upto_region 19 with (first
          | (at_builtin; refine pushIn _ rfl (.tmp 100) (.tmp 101) 43 rfl wr.heap.size TPt i0 (.agg #[.int .i64 0, .int .i64 0]) 16 Try.underlying43 hi hz0 hz1' hz2 rfl _ _ _ rfl HE1.out A n c tk rfl HT1.out HNIL.out (by unfold maxLen; omega) (by omega) HBA.out.size ?_; intro v5 w5 O5 B5; have HO5 := Lib.hid (own_far HO1.out B5.out HOb.out); have HZ5 : Hid (wr.heap.size ≤ w5.heap.size) := Lib.hid (Nat.le_trans HBA.out.size B5.out.size))
          | (at_builtin; refine pushRR _ rfl (.tmp 102) (.tmp 103) 43 rfl wr.heap.size TPt i0 (.agg #[.int .i64 0, .int .i64 0]) 2 16 Try.underlying43 hi hz0 hz1' hz2 rfl (by decide) _ _ _ rfl O5.out w.heap.size TPt _ nz (ptC out) rfl HO5.out (one_ptC out) (by unfold maxLen; omega) (by omega) HZ5.out ?_; intro v6 w6 O6 B6))
        have HB6r : Hid (Below wr.heap.size wr w6) := Lib.hid ((HBA.out.trans B5.out).trans B6.out)
        have HB6 := Lib.hid (HBK.out.trans (HB6r.out.mono HBK.out.size))
        obtain ⟨mA, mc, rfl, _, hpm⟩ := pts_own (ls := tk ++ out) (w := w6) (base := wr.heap.size) (T := TPt) (v := v6) (n := n + nz) (by have h := O6.out; rw [List.nil_append, Nat.zero_add] at h; rw [ptC_app]; exact h) (by rw [List.length_append, HL.out.len, HLN.out])
        have HALL : Hid (∀ W, Below w6.heap.size w6 W → PtsAt W mA (n + nz) (tk ++ out)) := Lib.hid (fun W h => hpm.kept h)
        have HX6 : Hid (Below w6.heap.size w6 w6) := Lib.hid (Below.refl _ _)
        clear hpm O5 B5 O6 B6 HO5 HZ5 HE1 HBA HT1 HO1 HOb HB6r
        obtain ⟨M, hM⟩ : ∃ M, 0 + n + nz = M := ⟨_, rfl⟩
        have hM2 : n + nz = M := by omega
        rw [hM2] at HALL ⊢
        have hM120 : M ≤ 120 := by omega
        obtain ⟨PF, HPF⟩ : ∃ P, Hid (prN (fun i => had (tk ++ out) i == false) 64 = P) := ⟨_, Lib.hid rfl⟩
        have HPL : Hid (PF.length ≤ 64) := Lib.hid (by rw [← HPF.out]; exact prN_len _ 64)
        have HFR := Lib.hid (free2_any mA M mc (tk ++ out) w6 (HALL.out _ HX6.out) (by omega))
        rw [HPF.out] at HFR
        have hUF := used_free (tk ++ out)
        rw [HPF.out] at hUF
        have hUA := used_app (tk := tk) (l := out) (fun i h => HGD.out.had i h)
        have HAPF : Hid (apA [] PF = true) := Lib.hid (by rw [← HPF.out]; exact (prN_good _ 64 (Nat.le_refl _)).2.1)
        clear hM hM2
        go_wp2_with fail
        refine HFR.out.mono ?_
        rintro e w7 ⟨FB, fd, rfl, HFS, hb7⟩
        have HB67 := Lib.hid (HX6.out.trans (hb7.out.mono HX6.out.size))
        have HB7 := Lib.hid (HB6.out.trans (hb7.out.mono HB6.out.size))
        have HFP : Hid (∀ W, Below w7.heap.size w7 W → PtsAt W FB PF.length PF) := Lib.hid (fun W h => HFS.out.kept h)
        have HX7 : Hid (Below w7.heap.size w7 w7) := Lib.hid (Below.refl _ _)
        clear hb7 HFR HFS
        have HU1 : Hid (∀ W, Below w6.heap.size w6 W → _) := Lib.hid (fun W h => used_any mA M mc (tk ++ out) W (HALL.out W h) (by omega))
        have HU2 : Hid (∀ W, Below w7.heap.size w7 W → _) := Lib.hid (fun W h => used_any FB PF.length fd PF W (HFP.out W h) (by have := HPL.out; omega))
        have HU3 : Hid (∀ W, Below w.heap.size w W → _) := Lib.hid (fun W h => used_any A n c tk W (HL.out.kept h) (by omega))
        have HU4 : Hid (∀ W, Below w2.heap.size w2 W → _) := Lib.hid (fun W h => used_any LA nz lc out W (HPT.out W h) (by omega))
        have HA5 : Hid (∀ W, Below w7.heap.size w7 W → _) := Lib.hid (fun W h => apart_any FB PF.length fd PF W (HFP.out W h) (by have := HPL.out; omega))
        rw [HAPF.out] at HA5
        obtain ⟨U1, hU1⟩ : ∃ U, usN (cnt (tk ++ out)) 64 = U := ⟨_, rfl⟩
        obtain ⟨U2, hU2⟩ : ∃ U, usN (cnt PF) 64 = U := ⟨_, rfl⟩
        obtain ⟨U3, hU3⟩ : ∃ U, usN (cnt tk) 64 = U := ⟨_, rfl⟩
        obtain ⟨U4, hU4⟩ : ∃ U, usN (cnt out) 64 = U := ⟨_, rfl⟩
        rw [hU1] at HU1 hUF hUA
        rw [hU2] at HU2 hUF
        rw [hU3] at HU3 hUA
        rw [hU4] at HU4 hUA
        have e1 : IntKind.i64.wrap ((U1 : Int) + (U2 : Int)) = 64 := by rw [IntWalk.i64_in _ (by omega)]; omega
        have e2 : IntKind.i64.wrap ((U3 : Int) + (U4 : Int)) = (U1 : Int) := by rw [IntWalk.i64_in _ (by omega)]; omega
        clear hU1 hU2 hU3 hU4 hUF hUA
        go_wp2_with fail
        refine (HU1.out _ HB67.out).mono ?_
        rintro e w8 ⟨rfl, hb8⟩
        have HB78 := Lib.hid (HX7.out.trans (hb8.mono HX7.out.size))
        have HB68 := Lib.hid (HB67.out.trans (hb8.mono HB67.out.size))
        have HB8 := Lib.hid (HB7.out.trans (hb8.mono HB7.out.size))
        clear hb8
        go_wp2_with fail
        refine (HU2.out _ HB78.out).mono ?_
        rintro e w9 ⟨rfl, hb9⟩
        have HB79 := Lib.hid (HB78.out.trans (hb9.mono HB78.out.size))
        have HB69 := Lib.hid (HB68.out.trans (hb9.mono HB68.out.size))
        have HB9 := Lib.hid (HB8.out.trans (hb9.mono HB8.out.size))
        clear hb9
        go_wp2_with fail
        refine (HU1.out _ HB69.out).mono ?_
        rintro e wa ⟨rfl, hba⟩
        have HB7a := Lib.hid (HB79.out.trans (hba.mono HB79.out.size))
        have HBa := Lib.hid (HB9.out.trans (hba.mono HB9.out.size))
        clear hba
        go_wp2_with fail
        refine (HU3.out _ (HB2.out.trans (HBa.out.mono HB2.out.size))).mono ?_
        rintro e wb ⟨rfl, hbb⟩
        have HB7b := Lib.hid (HB7a.out.trans (hbb.mono HB7a.out.size))
        have HBb := Lib.hid (HBa.out.trans (hbb.mono HBa.out.size))
        clear hbb
        go_wp2_with fail
        refine (HU4.out _ HBb.out).mono ?_
        rintro e wc ⟨rfl, hbc⟩
        have HB7c := Lib.hid (HB7b.out.trans (hbc.mono HB7b.out.size))
        have HBc := Lib.hid (HBb.out.trans (hbc.mono HBb.out.size))
        clear hbc
        go_wp2_with fail
        refine (HA5.out _ HB7c.out).mono ?_
        rintro e wd ⟨rfl, hbd⟩
        have HBd := Lib.hid (HBc.out.trans (hbd.mono HBc.out.size))
        clear hbd
        have HFN := Lib.hid (fun W => free2_any none 0 0 [] W ⟨rfl, fun h => absurd h (Nat.lt_irrefl _)⟩ (by omega))
        rw [free_nil] at HFN
        go_wp2_with fail
        refine (HFN.out _).mono ?_
        rintro e we ⟨NB, nd, rfl, _, hbe⟩
        have HBe := Lib.hid (HBd.out.trans (hbe.out.mono HBd.out.size))
        clear hbe HFN
        go_wp2_with fail
        refine (One42.one_any _).mono ?_
        rintro e wf ⟨rfl, hbf⟩
        have HBf := Lib.hid (HBe.out.trans (hbf.mono HBe.out.size))
        clear hbf
        go_wp2
        go_ret
        exact ⟨rfl, HB2.out.trans (HBf.out.mono HB2.out.size)⟩
theorem walk (Z : Option Addr) (nz cz : Nat) (zs : List Int) (al : Int) (A : Option Addr) (n c : Nat) (rows : List (List Value)) (w : World) (hz : Lst w Z nz (zs.map (Value.int .i64))) (_ : ∀ x ∈ zs, -9223372036854775808 ≤ x ∧ x ≤ 9223372036854775807) (hzc : nz ≤ cz) (hzm : cz ≤ maxLen)
    (_ : -9223372036854775808 ≤ al) (_ : al ≤ 9223372036854775807) (hg : Grid w A n (Sh.size shP) rows) (hr : ∀ r ∈ rows, Reads w shP r) (hnc : n ≤ c) (hcm : c ≤ maxLen) (hnil : NilZ A n c) :
    Calls Try.prog 7 #[.slice Z nz cz, .int .i64 al, .slice A n c] w fun e w' => e = .returned (.bool true) ∧ Below w.heap.size w w' := by
  unfold maxLen at hzm hcm
  obtain ⟨tk, hp, _⟩ := pts_in hg hr
  exact walk_yes Z nz cz zs al A n c tk w hz hp (by omega) (by omega) hnil

set_option maxRecDepth 100000 in
theorem lifted (os : Os) (started : os.Started) (H : Type) (enc : TypeId × Value → H) :
    ReturnsInHanded {} Try.checked os 7 .any (Rows.layoutApartSpec.pre6 enc Try.prog Try.f7 Rows.layoutApartRow.domain false) (Rows.layoutApartSpec.post enc Try.prog Try.f7 false true false false) := by
  refine returnsInHanded_of_change (C := Try.checked) own started (by kernel_rfl) Try.func7
    (ChangeSpec.witness6 (enc := enc) (C := Try.checked) false ⟨#[], #[.slice none 0 0, .int .i64 0, .slice none 0 0], []⟩ 8 (by kernel_rfl) (by kernel_rfl) (by kernel_rfl) (by kernel_rfl)) ?_
  intro W base args ds gs before hval0 hW hcnd _
  have hval : ∀ (j : Nat) t v, Try.f7.params[j]? = some t → args[j]? = some v → Value.okWide Try.prog W .any base t v := hval0
  have hW' := hW
  obtain ⟨p, q, hA0, hV, rfl, hfz, hnd⟩ := hW
  have hA : DataW.TrodAll enc Try.prog W 0 (fun _ => true) true Try.f7.params.toList args.toList ds p := hA0
  rw [Try.params7] at hA hval
  obtain ⟨v0, vs0, d0, ds0, p0, q0, hargs, rfl, rfl, h0, r0⟩ := trodAll_cons hA
  obtain ⟨v1, vs1, d1, ds1, p1, q1, rfl, rfl, rfl, h1, r1⟩ := trodAll_cons r0
  obtain ⟨v2, vs2, d2, ds2, p2, q2, rfl, rfl, rfl, h2, r2⟩ := trodAll_cons r1
  obtain ⟨rfl, rfl, rfl⟩ := trodAll_nil r2
  obtain rfl : args = #[v0, v1, v2] := by cases args; simp_all
  obtain ⟨rfl, rfl⟩ := trodVars_none hV
  have k0 := h0
  have lt0 : ∀ x ∈ p0, x.block < W.heap.size := by obtain ⟨m, hm⟩ := k0; exact DataW.trod_lt m _ _ _ hm
  obtain ⟨sizesA, sizesn, sizesc, rfl⟩ := okWide_slice Try.underlying42 (hval 0 42 v0 rfl rfl)
  obtain ⟨sizes, l0, b0, cb0, cc0⟩ := lst_ints Try.underlying42 Try.underlying3 (by kernel_rfl) k0
  obtain ⟨align, rfl, rfl, rfl, wf1⟩ := open_int Try.underlying3 (hval 1 3 v1 rfl rfl) h1
  have bd1 := bounds_i64 wf1
  have k2 := h2
  have lt2 : ∀ x ∈ p2, x.block < W.heap.size := by obtain ⟨m, hm⟩ := k2; exact DataW.trod_lt m _ _ _ hm
  obtain ⟨takenA, takenn, takenc, rfl⟩ := okWide_slice Try.underlying43 (hval 2 43 v2 rfl rfl)
  obtain ⟨taken, g2, rd2, cb2, cc2⟩ := reads_slice (e := shP) 30 (by kernel_rfl) k2
  have z2 := nilz_any Try.underlying43 k2
  clear hA0 hval0
  refine (walk sizesA sizesn sizesc sizes align takenA takenn takenc taken W l0 (ints_i64 b0) cb0 cc0 bd1.1 bd1.2 g2 rd2 cb2 cc2 z2).mono fun e W' ⟨he, bel⟩ => ?_
  subst he
  exact ⟨_, rfl, _, _, _, [], _, [], hW', trodAll_mk1 (shut_bool Try.underlying4 _), (trodAll_cons_mk (Below.trod laidOut (by kernel_rfl) (of_decide_eq_true (by kernel_rfl)) k0 bel lt0) (trodAll_cons_mk (shut_int Try.underlying3 wf1) (trodAll_cons_mk (Below.trod laidOut (by kernel_rfl) (of_decide_eq_true (by kernel_rfl)) k2 bel lt2) trodAll_mk0))), rfl, bel.frame _, fun h => by cases h⟩

theorem over : Rows.layoutApartRow.holds Try.pinned (OpenSpec.ofChange Rows.layoutApartSpec) :=
  OpenClaim.holds_of_wide 7 Try.f7 rfl rfl rfl rfl rfl rfl rfl ⟨rfl, rfl, rfl, rfl, rfl⟩ rfl rfl rfl rfl rfl (by kernel_rfl) Try.func7 (by kernel_rfl)
    (of_decide_eq_true (by kernel_rfl)) (by unfold Func.isWrapper; first | (rw [if_pos (by decide +kernel)]; kernel_rfl) | (rw [if_neg (by decide +kernel)]; exact ⟨rfl, rfl⟩))
    (fun os started H enc _ => lifted os started H enc)

/-- The statement. -/
theorem proved : Rows.LayoutApartSaid := over
end Go.Proofs.Ytejhjpdcodloaaa.lawLayoutApart
