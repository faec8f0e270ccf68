/- Package calendar's Line: a frame as a text; no condition but sizes. -/
import Derived.RegionTactic
import Derived.IntWalk
import Derived.Test.YtkankdecbefenaaDoorCalB
import Derived.Test.YtkankdecbefenaaDoorJoi
import Derived.Test.YtkankdecbefenaaDoorTxt
import Derived.Test.YtkankdecbefenaaDoorApp
import Derived.Test.YtkankdecbefenaaDoorRegL
namespace Go.Proofs.YtkankdecbefenaaDoor.Ly7
open Go.ChangeShapes Go.WideShapes Go.ChangeAt Go.RowKit Base
open Joi (stV)
set_option linter.unusedVariables false
set_option linter.unusedSimpArgs false

/-- The sign of a kind. -/
def sgN (k : Nat) : List UInt8 := if k = 0 then [68] else if k = 1 then [46] else if k = 2 then [83] else if k = 3 then [76] else [86]
/-- A slot as a word; a frame as a line. -/
def lineW (z : Sl) : List UInt8 := sgN z.k.toNat ++ Lib.itoa z.l
def lineT (ss : List Sl) : List UInt8 := Lib.join (ss.map lineW) [32]
theorem lineW_len {z : Sl} (h : 0 ≤ z.l ∧ z.l ≤ 20000) : (lineW z).length ≤ 22 := by
  unfold lineW
  have h1 := Txt.itoa_len z.l (by omega) (by omega)
  have h2 : (sgN z.k.toNat).length = 1 := by unfold sgN; split <;> (try split) <;> (try split) <;> (try split) <;> rfl
  rw [List.length_append, h2]
  omega
theorem lens_le : ∀ (xs : List (List UInt8)) (k : Nat), (∀ x ∈ xs, x.length ≤ k) → Lib.lens xs ≤ k * xs.length
  | [], _, _ => Nat.zero_le _
  | x :: r, k, h => by
    have h1 := lens_le r k (fun y hy => h y (List.mem_cons_of_mem _ hy))
    have h2 := h x (List.mem_cons_self ..)
    have h3 : Lib.lens (x :: r) = x.length + Lib.lens r := by simp [Lib.lens]
    rw [h3, List.length_cons, Nat.mul_add, Nat.mul_one]
    omega
theorem lineT_len {ss : List Sl} (h : ∀ z ∈ ss, 0 ≤ z.l ∧ z.l ≤ 20000) (hn : ss.length ≤ 902) : (lineT ss).length ≤ 100000 := by
  unfold lineT
  cases ss with
  | nil => show (Lib.join [] [32]).length ≤ _; decide
  | cons z r =>
    rw [List.map_cons, Lib.join_length]
    have h1 := lens_le ((z :: r).map lineW) 22 (fun x hx => by
      obtain ⟨y, hy, rfl⟩ := List.mem_map.1 hx
      exact lineW_len (h y hy))
    rw [List.map_cons] at h1
    have h2 : (lineW z :: r.map lineW).length ≤ 902 := by simpa using hn
    have h3 : (r.map lineW).length ≤ 902 := by simp only [List.length_cons] at h2; omega
    show 1 * _ + _ ≤ _
    omega
theorem info_str : (Tryd.prog.info? 9).map (fun i => (i.zero, i.size, i.bytes)) = some (some (.string ByteArray.empty), 1, 16) := by kernel_rfl
theorem gives_cat {o : Oper} {a : Act} {w : World} {T T' : TypeId} {x y : Operand} (ho : o.op = .binOp .add T x y T') {p q : List UInt8} (hx : a.eval x = .string ⟨p.toArray⟩) (hy : a.eval y = .string ⟨q.toArray⟩) (hl : p.length + q.length ≤ 9223372036854775807) :
    gives Tryd.prog o a w (SpE.d (.string ⟨(p ++ q).toArray⟩)).sp :=
  gives_run (by
    have h : ¬ 9223372036854775807 < p.length + q.length := by omega
    unfold execOp
    simp only [ho, hx, hy]
    simp [go_sem, h, Txt.str_app])
theorem app_runL {P : Program} {w : World} {base g n m : Nat} {v : Value} {xs : List Value} (news : List Value) {t e : TypeId} (ty : TypeId) {i : TypeInfo} {z : Value} {bytes : Nat} (ht : P.underlying t = some (.slice e)) (hi : P.info? e = some i) (hz : i.zero = some z)
    (hsize : i.size = 1) (hby : i.bytes = bytes) (hzs : z.cells.size = 1) (hown : w.ownsRow base e 1 v n xs) (hg : Lst w (some ⟨g, 0, none⟩) m news) (h1 : ∀ u ∈ news, u.oneCell' = true)
    (h63 : n + m ≤ maxLen) (hbytes : (n + m) * bytes ≤ 140737488355328) (hb : base ≤ w.heap.size) :
    ∃ v' w', (Builtin.append_ #[t, t] ty #[v, .slice (some ⟨g, 0, none⟩) m m]).run P w = .ok v' w' ∧ Hid (w'.ownsRow base e 1 v' (n + m) (xs ++ news)) ∧ Hid (w.grownBy w' v.ownBlock) := by
  have hl := hg.1
  obtain ⟨v', w', h, ho, hg', _, _⟩ := run_append_own_at w base t ty e i z 1 bytes ht hi hz hsize hby hzs (by omega) v n xs hown ⟨g, 0, none⟩ m m news (by omega)
    (fun j u hj => by
      have hjl := (List.getElem?_eq_some_iff.1 hj).1
      obtain ⟨b', o', e', _, hc⟩ := hg.2 (by omega)
      injection e' with e'
      injection e' with e1 e2
      subst e1 e2
      have := hc j (by omega)
      rw [add_eq]
      exact this.trans hj) h1 h63 hbytes hb
  exact ⟨v', w', h, Lib.hid ho, Lib.hid hg'⟩
abbrev T5s : TypeId := 68
abbrev TSt : TypeId := 9
theorem sgn_at {W : World} {g : Nat} (h : Obj1 W g T5s #[.string ⟨#[68]⟩, .string ⟨#[46]⟩, .string ⟨#[83]⟩, .string ⟨#[76]⟩, .string ⟨#[86]⟩]) {k : Nat} (hk : k < 5) : W.cell? ⟨g, k, none⟩ = some (.string ⟨(sgN k).toArray⟩) := by
  rw [h.cell]
  rcases (show k = 0 ∨ k = 1 ∨ k = 2 ∨ k = 3 ∨ k = 4 by omega) with rfl | rfl | rfl | rfl | rfl <;> rfl
/-- The kinds that slots of a frame have. -/
theorem frm_kind {f : Wd → Int} {md : Int} {A0 : Option Addr} {n0 c0 : Nat} {A1 : Option Addr} {n1 c1 : Nat} {ws0 ws1 : List Wd} {v j e ver T : Int} {ss : List Sl} {w : World} (h : Sd f md A0 n0 c0 A1 n1 c1 ws0 ws1 v j e w) (hF : Frm e ver A0 n0 c0 A1 n1 c1 ws0 ws1 ss T) : ∀ z ∈ ss, ∃ k : Nat, z.k = (k : Int) ∧ k < 5 := by
  rcases hF with ⟨_, k, A, n, c, ws, _, hv, rfl, rfl⟩ | ⟨_, rfl, rfl⟩
  · have hk : k < 2 := by rcases hv with ⟨h, _⟩ | ⟨h, _⟩ <;> omega
    intro z hz
    have h3 := (view_kd k hk (-1) ws z hz).2.2
    rcases h3 with h | h | h | h | h
    · exact ⟨3, by omega, by omega⟩
    · exact ⟨4, by omega, by omega⟩
    · exact ⟨2, by omega, by omega⟩
    · exact ⟨1, by omega, by omega⟩
    · exact ⟨0, by omega, by omega⟩
  · intro z hz
    cases hz
theorem map_next {ss : List Sl} {k : Nat} {z : Sl} (h : ss[k]? = some z) : ((ss.take (k + 1)).map lineW).map stV = ((ss.take k).map lineW).map stV ++ [stV (lineW z)] := by
  rw [List.take_add_one, h]
  simp
set_option maxRecDepth 100000 in
set_option maxHeartbeats 2000000 in
theorem line_any (f : Wd → Int) (md : Int) (A0 : Option Addr) (n0 c0 : Nat) (A1 : Option Addr) (n1 c1 : Nat) (ws0 ws1 : List Wd) (v j e : Int) (w : World) (h : Sd f md A0 n0 c0 A1 n1 c1 ws0 ws1 v j e w) (ver : Int) (ss : List Sl) (T : Int) (hF : Frm e ver A0 n0 c0 A1 n1 c1 ws0 ws1 ss T) (hL : Txt.Lf w) :
    Calls Tryd.prog 17 #[.agg #[.int .i64 md, .slice A0 n0 c0, .slice A1 n1 c1], .int .i64 ver] w fun r w' => r = .returned (.string ⟨(lineT ss).toArray⟩) ∧ Below w.heap.size w w' := by
  have HSD := Lib.hid h
  have hfc := fld_code
  obtain ⟨gb, HGB⟩ : ∃ gb, Hid (w.heap.size = gb) := ⟨_, Lib.hid rfl⟩
  obtain ⟨W1, HW1⟩ : ∃ W1, Hid (W1 = w.alloc (.cells #[.int .i64 md, .slice A0 n0 c0, .slice A1 n1 c1] TSd)) := ⟨_, Lib.hid rfl⟩
  have HB1 : Hid (Below w.heap.size w W1) := Lib.hid (by rw [HW1.out]; exact bel1 _ _)
  have HO1 : Hid (Obj1 W1 gb TSd #[.int .i64 md, .slice A0 n0 c0, .slice A1 n1 c1]) := Lib.hid (by rw [HW1.out, ← HGB.out]; exact Obj1.new _ _ _)
  have d0 : W1.cell? ⟨gb, 0, none⟩ = some (.int .i64 md) := HO1.out.cell 0
  have d1 : W1.cell? ⟨gb, 1, none⟩ = some (.slice A0 n0 c0) := HO1.out.cell 1
  have d2 : W1.cell? ⟨gb, 2, none⟩ = some (.slice A1 n1 c1) := HO1.out.cell 2
  clear h
  obtain ⟨is, hi, hz0, hz1, hz2⟩ := info_parts info_str
  have HFM := Lib.hid hF
  have HLF : Hid (∀ W, Below w.heap.size w W → Txt.Lf W) := Lib.hid (fun W h => hL.kept h)
  have HSL := Lib.hid (frm_sls HSD.out hF)
  have HKD := Lib.hid (frm_kind HSD.out hF)
  have HTL := Lib.hid (lineT_len HSL.out.bd HSL.out.len)
  obtain ⟨gs, HGS⟩ : ∃ gs, Hid (W1.heap.size = gs) := ⟨_, Lib.hid rfl⟩
  obtain ⟨W2, HW2⟩ : ∃ W2, Hid (W2 = W1.alloc (.cells #[.string ⟨#[68]⟩, .string ⟨#[46]⟩, .string ⟨#[83]⟩, .string ⟨#[76]⟩, .string ⟨#[86]⟩] T5s)) := ⟨_, Lib.hid rfl⟩
  have HBW2 : Hid (Below W1.heap.size W1 W2) := Lib.hid (by rw [HW2.out]; exact bel1 _ _)
  have HB2 : Hid (Below w.heap.size w W2) := Lib.hid (HB1.out.trans (HBW2.out.mono HB1.out.size))
  have HOS : Hid (Obj1 W2 gs T5s #[.string ⟨#[68]⟩, .string ⟨#[46]⟩, .string ⟨#[83]⟩, .string ⟨#[76]⟩, .string ⟨#[86]⟩]) := Lib.hid (by rw [HW2.out, ← HGS.out]; exact Obj1.new _ _ _)
  have HO2 := Lib.hid (HO1.out.kept HBW2.out)
  obtain ⟨N, HN⟩ : ∃ N, Hid (ss.length = N) := ⟨_, Lib.hid rfl⟩
  have HCS := Lib.hid (slots_any f md A0 n0 c0 A1 n1 c1 ws0 ws1 v j e W2 (HSD.out.kept HB2.out) ver ss T HFM.out)
  rw [HN.out] at HCS
  clear hF hL
  go_enter Tryd.func17, Tryd.ntmps17
  go_upto_region 1 with (fail)
  rw [← HW1.out, HGB.out]
  clear HW1 HGB
  clear d0 d1 d2
  go_upto_region 2 with (fail)
  rw [← HW2.out, HGS.out]
  clear HW2 HGS
  have d0 : W2.cell? ⟨gb, 0, none⟩ = some (.int .i64 md) := HO2.out.cell 0
  have d1 : W2.cell? ⟨gb, 1, none⟩ = some (.slice A0 n0 c0) := HO2.out.cell 1
  have d2 : W2.cell? ⟨gb, 2, none⟩ = some (.slice A1 n1 c1) := HO2.out.cell 2
  go_wp2_with fail
  refine HCS.out.mono ?_
  rintro r w3 ⟨A, c, rfl, HS3, hb3⟩
  have HB3 := Lib.hid (HB2.out.trans (hb3.mono HB2.out.size))
  have HOS3 := Lib.hid (HOS.out.kept hb3)
  have hN9 : N ≤ 902 := by rw [← HN.out]; exact HSL.out.len
  clear hb3 d0 d1 d2 HCS HO2 HOS HB2 HBW2
  go_wp2_with fail
  go_loopw [8, 20] (fun s i wx => ∃ k : Nat, k ≤ N ∧ i = .int .i64 k ∧ Hid (wx.ownsRow w3.heap.size TSt 1 s k (((ss.take k).map lineW).map stV)) ∧ Below w3.heap.size w3 wx) (fun _ i _ => N - (intOf i).toNat)
  case atStart => exact ⟨0, by omega, rfl, Lib.hid ⟨rfl, .inl ⟨rfl, rfl⟩⟩, Below.refl _ _⟩
  case round =>
    obtain ⟨k, hk, rfl, HROW, hbk⟩ := hrel
    have HBK := Lib.hid (HB3.out.trans (hbk.mono HB3.out.size))
    obtain ⟨RA, rc, rfl⟩ := row_sl HROW.out
    by_cases hlt : k < N
    · as_aux_lemma =>
      have hki : (k : Int) < (N : Int) := by omega
      have hk0 : (0 : Int) ≤ (k : Int) := by omega
      have e2 : IntKind.i64.wrap ((k : Int) + 1) = (k : Int) + 1 := IntWalk.i64_in _ (by omega)
      obtain ⟨z, hz⟩ : ∃ z, ss[k]? = some z := ⟨_, List.getElem?_eq_getElem (by rw [HN.out]; exact hlt)⟩
      have HNX := Lib.hid (map_next hz)
      have hzb := HSL.out.bd z (List.mem_of_getElem? hz)
      obtain ⟨kk, hkk, hk5⟩ := HKD.out z (List.mem_of_getElem? hz)
      have HLW : Hid (lineW z = sgN kk ++ Lib.itoa z.l) := Lib.hid (by unfold lineW; rw [hkk, Int.toNat_natCast])
      have hil := Txt.itoa_len z.l (by omega) (by omega)
      have HIT := Lib.hid (fun W (h : Below w.heap.size w W) => Txt.itoa_any z.l (by omega) (by omega) W (HLF.out W h))
      have HLL : Hid ((sgN kk).length + (Lib.itoa z.l).length ≤ 9223372036854775807) := Lib.hid (by
        have h2 : (sgN kk).length = 1 := by unfold sgN; split <;> (try split) <;> (try split) <;> (try split) <;> rfl
        omega)
      have hk4 : (kk : Int) < 5 := by omega
      have hkk0 : (0 : Int) ≤ (kk : Int) := by omega
      obtain ⟨b, off, rfl, hb, k0, k1, k2, k3, k4, k5, k6, k7⟩ := (HS3.out.kept hbk).eight hlt hz
      rw [hkk] at k0
      clear hkk
      obtain ⟨gx, HGX⟩ : ∃ gx, Hid (wr.heap.size = gx) := ⟨_, Lib.hid rfl⟩
      obtain ⟨W5, HW5⟩ : ∃ W5, Hid (W5 = wr.alloc (.cells #[.int .i64 (kk : Int), .int .i64 z.s, .int .i64 z.l, .int .i64 z.wo, .int .i64 z.ad, .int .i64 z.mn, .int .i64 z.cn, .bool z.tk] TSl)) := ⟨_, Lib.hid rfl⟩
      have hb5 : Below wr.heap.size wr W5 := by rw [HW5.out]; exact bel_new _ _
      have HOX : Hid (Obj1 W5 gx TSl #[.int .i64 (kk : Int), .int .i64 z.s, .int .i64 z.l, .int .i64 z.wo, .int .i64 z.ad, .int .i64 z.mn, .int .i64 z.cn, .bool z.tk]) := Lib.hid (by rw [HW5.out, ← HGX.out]; exact Obj1.new _ _ _)
      have HB5 := Lib.hid (HBK.out.trans (hb5.mono HBK.out.size))
      have HOS5 := Lib.hid ((HOS3.out.kept hbk).kept hb5)
      have HR5 := Lib.hid (own_kept HROW.out hb5)
      have HBL := Lib.hid (hbk.trans (hb5.mono hbk.size))
      clear hz hzb hb hb5 hbk
      go_upto_region 7 with (fail)
      rw [← HW5.out, HGX.out]
      clear HW5 HGX HROW HBK k0 k1 k2 k3 k4 k5 k6 k7 hil
      have K0 : ∀ x : Kin W5.drew, x.world.cell? ⟨gx, 0, none⟩ = some (.int .i64 (kk : Int)) := fun x => Kin.at (w := W5.drew) (HOX.out.cell 0) x
      have K2 : ∀ x : Kin W5.drew, x.world.cell? ⟨gx, 2, none⟩ = some (.int .i64 z.l) := fun x => Kin.at (w := W5.drew) (HOX.out.cell 2) x
      have KS : ∀ x : Kin W5.drew, x.world.cell? ⟨gs, kk, none⟩ = some (.string ⟨(sgN kk).toArray⟩) := fun x => Kin.at (w := W5.drew) (sgn_at HOS5.out hk5) x
      have HKZ : Hid (∀ x : Kin W5.drew, Below w.heap.size w x.world) := Lib.hid (fun x => HB5.out.trans (((bel_drew W5).trans x.below).mono HB5.out.size))
      refine wp_region_specL 10 [.d (.slice RA k rc), .d (.pointer (some ⟨gx, 0, none⟩)), .d (.int .i64 (kk : Int)), .d (.pointer (some ⟨gs, kk, none⟩)), .d (.string ⟨(sgN kk).toArray⟩), .d (.pointer (some ⟨gx, 2, none⟩)), .d (.int .i64 z.l), .d (.string ⟨(Lib.itoa z.l).toArray⟩), .d (.string ⟨(sgN kk ++ Lib.itoa z.l).toArray⟩), .g (NewL W5.heap.size 1 [stV (sgN kk ++ Lib.itoa z.l)])] (by kernel_rfl) (by kernel_rfl) ?_
      refine spec_d rfl (fun x _ => gives_run (by go_simp)) ?_
      try simp only [Act.put, List.getElem_toArray, List.getElem_cons_succ, List.getElem_cons_zero, List.setIfInBounds_toArray, List.set_cons_zero, List.set_cons_succ]
      refine spec_d rfl (fun x _ => gives_run (by go_simp)) ?_
      try simp only [Act.put, List.getElem_toArray, List.getElem_cons_succ, List.getElem_cons_zero, List.setIfInBounds_toArray, List.set_cons_zero, List.set_cons_succ]
      refine spec_d rfl (fun x _ => gives_run (by go_simp)) ?_
      try simp only [Act.put, List.getElem_toArray, List.getElem_cons_succ, List.getElem_cons_zero, List.setIfInBounds_toArray, List.set_cons_zero, List.set_cons_succ]
      refine spec_d rfl (fun x _ => gives_run (by go_simp)) ?_
      try simp only [Act.put, List.getElem_toArray, List.getElem_cons_succ, List.getElem_cons_zero, List.setIfInBounds_toArray, List.set_cons_zero, List.set_cons_succ]
      refine spec_d rfl (fun x _ => gives_run (by go_simp)) ?_
      try simp only [Act.put, List.getElem_toArray, List.getElem_cons_succ, List.getElem_cons_zero, List.setIfInBounds_toArray, List.set_cons_zero, List.set_cons_succ]
      refine spec_d rfl (fun x _ => gives_run (by go_simp)) ?_
      try simp only [Act.put, List.getElem_toArray, List.getElem_cons_succ, List.getElem_cons_zero, List.setIfInBounds_toArray, List.set_cons_zero, List.set_cons_succ]
      refine spec_d rfl (fun x _ => gives_run (by go_simp)) ?_
      try simp only [Act.put, List.getElem_toArray, List.getElem_cons_succ, List.getElem_cons_zero, List.setIfInBounds_toArray, List.set_cons_zero, List.set_cons_succ]
      refine spec_d rfl (fun x _ => gives_det (by go_simp) (HIT.out x.world (HKZ.out x))) ?_
      try simp only [Act.put, List.getElem_toArray, List.getElem_cons_succ, List.getElem_cons_zero, List.setIfInBounds_toArray, List.set_cons_zero, List.set_cons_succ]
      refine spec_d rfl (fun x _ => gives_cat rfl rfl rfl HLL.out) ?_
      try simp only [Act.put, List.getElem_toArray, List.getElem_cons_succ, List.getElem_cons_zero, List.setIfInBounds_toArray, List.set_cons_zero, List.set_cons_succ]
      refine spec_g (NewL.stable _ _ _) (NewL.ex _ 9 (Nat.le_refl _) rfl) rfl (fun x _ => gives_ok (by first | (go_simp; done) | (go_simp; rfl)) (bel_new _ _) (NewL.new (T := 9) (xs := [stV (sgN kk ++ Lib.itoa z.l)]) x.below.size rfl)) ?_
      try simp only [Act.put, List.getElem_toArray, List.getElem_cons_succ, List.getElem_cons_zero, List.setIfInBounds_toArray, List.set_cons_zero, List.set_cons_succ]
      rintro vg ⟨xg, gg, rfl, _, _⟩
      try simp only [Act.put, List.getElem_toArray, List.getElem_cons_succ, List.getElem_cons_zero, List.setIfInBounds_toArray, List.set_cons_zero, List.set_cons_succ]
      refine spec_end (fun x hx => ?_)
      have HNG := Lib.hid (NewL.at (hx _ (List.mem_singleton.2 rfl))).2
      clear hx
      have hbx := (bel_drew W5).trans x.below
      have HBX := Lib.hid (HB5.out.trans (hbx.mono HB5.out.size))
      have HBLX := Lib.hid (HBL.out.trans (hbx.mono HBL.out.size))
      have HOX2 := Lib.hid (own_kept HR5.out hbx)
      obtain ⟨v5, w5, hrun, HO5, HG5⟩ := app_runL (P := Tryd.prog) [stV (sgN kk ++ Lib.itoa z.l)] 69 Tryd.underlying69 hi hz0 hz1 hz2 rfl HOX2.out HNG.out (by intro u hu; simp at hu; subst hu; rfl) (by unfold maxLen; omega) (by omega) HBLX.out.size
      change wpAny _ _ _ _ (1 + 1) _ _ _
      refine wpAny_ready (rs := [10]) (by kernel_rfl) (by simp) ?_
      refine AllReady.cons rfl (fun KK hK => ?_) AllReady.nil
      rw [if_pos (by rfl)]
      refine upon_app (.tmp 24) (.tmp 33) 69 rfl rfl rfl hrun ?_
      refine hK _ _ ?_
      clear hK KK
      try simp only [Act.put, List.getElem_toArray, List.getElem_cons_succ, List.getElem_cons_zero, List.setIfInBounds_toArray, List.set_cons_zero, List.set_cons_succ]
      change wpAny _ _ _ _ (0 + 1) _ _ _
      refine wpAny_ready (rs := [11]) (by kernel_rfl) (by simp) ?_
      refine AllReady.cons rfl (fun KK hK => ?_) AllReady.nil
      go_simp
      refine hK _ _ ?_
      clear hK KK
      try simp only [Act.put, List.getElem_toArray, List.getElem_cons_succ, List.getElem_cons_zero, List.setIfInBounds_toArray, List.set_cons_zero, List.set_cons_succ]
      refine wpAny_done (by kernel_rfl) ?_ _
      have HW8 : Hid (Below w3.heap.size w3 w5) := Lib.hid (HBLX.out.trans ((Below.refl _ _).grown HG5.out HBLX.out.size (fun q hq => (HOX2.out.lt q hq).1)))
      have HO8 : Hid (w5.ownsRow w3.heap.size TSt 1 v5 (k + 1) (((ss.take (k + 1)).map lineW).map stV)) := Lib.hid (by rw [HNX.out, HLW.out]; exact HO5.out)
      clear K0 K2 KS hrun hbx HNG HG5 HBX HOX2 HO5
      go_wp2
      go_roundw
      case rel => exact ⟨k + 1, by omega, by go_num, HO8, HW8.out⟩
      case measure => simp [intOf]; omega
    · as_aux_lemma =>
      have hke : k = N := by omega
      subst hke
      obtain ⟨RA', rc', e9, hcap, hls⟩ := row_lst HROW.out
      injection e9 with e1 e2 e3
      subst e1 e3
      have HTK : Hid (ss.take k = ss) := Lib.hid (List.take_of_length_le (by rw [HN.out]; exact Nat.le_refl _))
      rw [HTK.out] at hls
      have HJ := Lib.hid (Joi.join_any RA _ rc (ss.map lineW) [32] wr hls (by omega) hcap (by have h := HTL.out; unfold lineT at h; omega))
      clear hls hbk hcap
      go_wp2_with fail
      refine HJ.out.mono ?_
      rintro e' w7 ⟨rfl, hb7⟩
      have HB7 := Lib.hid (HBK.out.trans (hb7.mono HBK.out.size))
      clear hb7
      go_wp2
      go_ret
      exact ⟨rfl, HB7.out⟩
end Go.Proofs.YtkankdecbefenaaDoor.Ly7
