/- The contract of the document's Place; no condition but sizes. -/
import Derived.Test.YtejhjpdcodloaaaLayC
import Derived.Laws.AppendOwnNone
namespace Go.Proofs.Ytejhjpdcodloaaa.Ly42
open Go.ChangeShapes Go.WideShapes Go.ChangeAt Go.RowKit Base
set_option linter.unusedVariables false
set_option linter.unusedSimpArgs false

theorem pushRR {P : Program} (w : World) {ops : Array Oper} {rest : List Oper} {o : Oper} {a : Act} {Q : Exit → Act → World → Prop} (hgd : o.guard = none) (s x : Operand) (t : TypeId)
    (ho : o.op = .call { callee := .builtin .append, args := #[s, x], argTypes := #[t, t] })
    (base : Nat) (e : TypeId) (i : TypeInfo) (z : Value) (size bytes : Nat) (ht : P.underlying t = some (.slice e)) (hi : P.info? e = some i) (hz : i.zero = some z)
    (hsize : i.size = size) (hby : i.bytes = bytes) (hzs : z.cells.size = size) (hsz : 0 < size)
    (v : Value) (n : Nat) (xs : List Value) (hs : a.eval s = v) (hown : w.ownsRow base e size v n xs)
    (b2 : Nat) (T2 : TypeId) (u : Value) (m : Nat) (news : List Value) (hx : a.eval x = u) (hu : w.ownsRow b2 T2 size u m news) (h1 : ∀ y ∈ news, y.oneCell' = true)
    (h63 : n + m ≤ maxLen) (hbytes : (n + m) * bytes ≤ 140737488355328) (hbase : base ≤ w.heap.size)
    (h : ∀ v' w', Hid (w'.ownsRow base e size v' (n + m) (xs ++ news)) → Hid (Below base w w') → wpList P ops Q rest (a.put o.dst v') w') :
    wpList P ops Q (o :: rest) a w := by
  rcases hu.2 with ⟨rfl, rfl⟩ | ⟨g, cap, cur, rfl, hb, hg, hnc, hcm, hcs, htake⟩
  · have hn : news = [] := List.eq_nil_of_length_eq_zero (by rw [hu.1]; simp)
    subst hn
    refine wpList_append_own_none hgd s x t ho base e i size ht hi v n xs hs hown hx ?_
    exact h v w (Lib.hid (by simpa using hown)) (Lib.hid ⟨rfl, rfl, rfl, Nat.le_refl _, fun _ _ => rfl⟩)
  · refine pushS w hgd s x t ho base e i z size bytes ht hi hz hsize hby hzs hsz v n xs hs hown ⟨g, 0, none⟩ m cap news hx hu.1 (fun j y hj => ?_) h1 h63 hbytes hbase (fun v' w' H1 H2 _ _ => h v' w' H1 H2)
    have hjl : j < m * size := by rw [← hu.1]; exact (List.getElem?_eq_some_iff.1 hj).1
    rw [add_eq, Nat.zero_add, ← hj, ← htake, List.getElem?_take_of_lt hjl]
    simp [World.cell?, hg]
theorem own_far {w w' : World} {B base : Nat} {e : TypeId} {size : Nat} {v : Value} {n : Nat} {xs : List Value} (h : w.ownsRow base e size v n xs) (hb : Below B w w') (hlt : ∀ k, v.ownBlock = some k → k < B) : w'.ownsRow base e size v n xs := by
  refine ⟨h.1, ?_⟩
  rcases h.2 with h | ⟨g, cap, cur, rfl, h1, h2, r⟩
  · exact .inl h
  · exact .inr ⟨g, cap, cur, rfl, h1, (hb.block g (hlt g rfl)).trans h2, r⟩
/-- What the search for a place holds. -/
def L3 (w : World) (gm s al : Nat) (tk out : List Pt) (fr : Option Nat) (v0 v f i : Value) (wx : World) : Prop :=
  ∃ a : Nat, i = .int .i64 a ∧ a ≤ 200 ∧ Below w.heap.size w wx ∧ ((f = .bool false ∧ v = v0 ∧ (∃ fu, fnd (had (tk ++ out)) s al fu a = fr ∧ 65 ≤ a + fu ∧ a ≤ 128) ∧ wx.ownsRow w.heap.size TRp 2 v out.length (ptC out) ∧ BlAt wx gm (had (tk ++ out))) ∨
    (f = .bool true ∧ ∃ a0 : Nat, fr = some a0 ∧ wx.ownsRow w.heap.size TRp 2 v (out.length + 1) (ptC (out ++ [⟨(a0 : Int), (s : Int)⟩]))))
theorem frB_next (h : Nat → Bool) (a k : Nat) : frB h a (k + 1) = (frB h a k && !h (a + k)) := by simp [frB, List.range_succ]
def msr (f i : Value) : Nat := match f with
  | .bool true => 0
  | _ => (300 - intOf i).toNat
theorem own_empty2 (w : World) (T : TypeId) : (w.alloc (.cells #[] T)).ownsRow w.heap.size T 2 (.slice (some ⟨w.heap.size, 0, none⟩) 0 0) 0 [] := by
  refine ⟨rfl, .inr ⟨w.heap.size, 0, #[], rfl, Nat.le_refl _, ?_, Nat.le_refl _, by unfold maxLen; decide, rfl, rfl⟩⟩
  show (w.heap.push _)[w.heap.size]? = _
  simp
set_option maxRecDepth 100000 in
set_option maxHeartbeats 4000000 in
theorem rplace_any (Z : Option Addr) (nz cz : Nat) (zs : List Int) (al : Int) (tv : Value) (b0 n : Nat) (tk : List Pt) (w : World) (hz : Lst w Z nz (zs.map (Value.int .i64))) (hl : w.ownsRow b0 TRp 2 tv n (ptC tk)) (hln : tk.length = n) (hnz : nz ≤ 100) (hn : n ≤ 100) :
    Calls Try.prog 18 #[.slice Z nz cz, .int .i64 al, tv] w fun e w' => ∃ v, e = .returned (.tuple #[v, .int .i64 (resP al tk zs).2.1, .int .i64 (resP al tk zs).2.2]) ∧ Hid (w'.ownsRow w.heap.size TRp 2 v (resP al tk zs).1.length (ptC (resP al tk zs).1)) ∧ Hid (Below w.heap.size w w') := by
  have HL := Lib.hid hl
  have HLN := Lib.hid hln
  have HZ := Lib.hid hz
  have HZN : Hid (zs.length = nz) := Lib.hid (by have := hz.1; simpa using this)
  obtain ⟨RR, HRR⟩ : ∃ RR, Hid (resP al tk zs = RR) := ⟨_, Lib.hid rfl⟩
  rw [HRR.out]
  have HNIL : ∀ W : World, RR.1 = [] → Hid (W.ownsRow w.heap.size TRp 2 (.slice none 0 0) RR.1.length (ptC RR.1)) := fun W h => Lib.hid (by rw [h]; exact ⟨rfl, .inl ⟨rfl, rfl⟩⟩)
  have HNL := Lib.hid HNIL
  obtain ⟨tA, tc, rfl⟩ := row_slice hl
  clear hz hl hln HNIL
  by_cases ha1 : al < 1
  · have HE : Hid (([], -1, 2) = RR) := Lib.hid (by rw [← HRR.out]; unfold resP; rw [if_pos (.inl ha1)])
    obtain rfl := HE.out
    have HO := HNL.out w rfl
    go_enter Try.func18, Try.ntmps18
    go_wp2
    refine bodyPost_ret (v := .tuple #[.slice none 0 0, .int .i64 (-1), .int .i64 2]) (by simp [results, Try.results18, go_sem]) rfl ?_
    exact ⟨_, rfl, HO, Lib.hid (Below.refl _ _)⟩
  by_cases ha2 : 64 < al
  · have HE : Hid (([], -1, 2) = RR) := Lib.hid (by rw [← HRR.out]; unfold resP; rw [if_pos (.inr ha2)])
    obtain rfl := HE.out
    have HO := HNL.out w rfl
    go_enter Try.func18, Try.ntmps18
    go_wp2
    refine bodyPost_ret (v := .tuple #[.slice none 0 0, .int .i64 (-1), .int .i64 2]) (by simp [results, Try.results18, go_sem]) rfl ?_
    exact ⟨_, rfl, HO, Lib.hid (Below.refl _ _)⟩
  obtain ⟨al', rfl⟩ : ∃ a : Nat, al = (a : Int) := ⟨al.toNat, by omega⟩
  have hal : 1 ≤ al' ∧ al' ≤ 64 := by omega
  have HR1 : Hid ((match badA 0 zs with | some i => ([], (i : Int), 3) | none => plc al' tk [] 0 zs) = RR) := Lib.hid (by rw [← HRR.out]; unfold resP; rw [if_neg (by omega)]; rfl)
  go_enter Try.func18, Try.ntmps18
  go_upto_block 2 with (fail)
  clear ha1 ha2
  go_wp2_with fail
  go_loopw [9] (fun i wx => ∃ k : Nat, k ≤ nz ∧ i = .int .i64 k ∧ Hid (badA 0 zs = badA k (zs.drop k)) ∧ w = wx) (fun i _ => nz - (intOf i).toNat)
  case atStart => exact ⟨0, by omega, rfl, Lib.hid rfl, rfl⟩
  case round =>
    obtain ⟨k, hk, rfl, HB, rfl⟩ := hrel
    by_cases hlt : k < nz
    · as_aux_lemma =>
      have hki : (k : Int) < (nz : Int) := by omega
      have hkl : k < zs.length := by rw [HZN.out]; exact hlt
      obtain ⟨z, hz⟩ : ∃ z, zs[k]? = some z := ⟨_, List.getElem?_eq_getElem hkl⟩
      have HB' : Hid (badA 0 zs = if z < 1 ∨ 8 < z then some k else badA (k + 1) (zs.drop (k + 1))) := Lib.hid (by rw [HB.out, drop_next hz]; rfl)
      obtain ⟨b, off, rfl, _, hc⟩ := HZ.out.get hlt
      rw [List.getElem_map] at hc
      have hze : zs[k]'hkl = z := by
        have := List.getElem?_eq_getElem hkl
        rw [this] at hz
        exact Option.some.inj hz
      rw [hze] at hc
      clear hze hz hkl HB
      by_cases hb1 : z < 1
      · have HE : Hid (([], (k : Int), 3) = RR) := Lib.hid (by rw [← HR1.out, HB'.out, if_pos (.inl hb1)])
        obtain rfl := HE.out
        have HO := HNL.out w (by first | rfl | trivial)
        go_wp2
        refine bodyPost_ret (v := .tuple #[.slice none 0 0, .int .i64 (k : Int), .int .i64 3]) (by simp [results, Try.results18, go_sem]) rfl ?_
        exact ⟨_, rfl, HO, Lib.hid (Below.refl _ _)⟩
      · by_cases hb2 : 8 < z
        · have HE : Hid (([], (k : Int), 3) = RR) := Lib.hid (by rw [← HR1.out, HB'.out, if_pos (.inr hb2)])
          obtain rfl := HE.out
          have HO := HNL.out w (by first | rfl | trivial)
          go_wp2
          refine bodyPost_ret (v := .tuple #[.slice none 0 0, .int .i64 (k : Int), .int .i64 3]) (by simp [results, Try.results18, go_sem]) rfl ?_
          exact ⟨_, rfl, HO, Lib.hid (Below.refl _ _)⟩
        · have HB2 : Hid (badA 0 zs = badA (k + 1) (zs.drop (k + 1))) := Lib.hid (by rw [HB'.out, if_neg (by omega)])
          go_wp2
          go_roundw
          case rel => exact ⟨k + 1, by omega, by go_num, HB2, by trivial⟩
          case measure => simp [intOf]; omega
    · as_aux_lemma =>
      have hke : nz = k := by omega
      subst hke
      have HBN : Hid (badA 0 zs = none) := Lib.hid (by rw [HB.out, List.drop_of_length_le (by rw [HZN.out]; exact Nat.le_refl _)]; rfl)
      have HR2 : Hid (plc al' tk [] 0 zs = RR) := Lib.hid (by rw [← HR1.out, HBN.out])
      have HZB : Hid (∀ z ∈ zs, 1 ≤ z ∧ z ≤ 8) := Lib.hid (bad_all zs 0 HBN.out)
      obtain ⟨ip, hip, hzp, hsp⟩ := info_get info_bl
      obtain ⟨i0, hi, hz0, hz1, hz2⟩ := info_parts info_rp
      have HO0 : Hid (w.ownsRow w.heap.size TRp 2 (.slice none 0 0) 0 (ptC [])) := Lib.hid ⟨rfl, .inl ⟨rfl, rfl⟩⟩
      clear HB HR1 HBN
      go_wp2_with fail
      go_loopw [10, 11] (fun v i wx => ∃ (k : Nat) (out : List Pt), k ≤ nz ∧ i = .int .i64 k ∧ Hid (plc al' tk out k (zs.drop k) = RR) ∧ Hid (out.length = k) ∧ Hid (wx.ownsRow w.heap.size TRp 2 v out.length (ptC out)) ∧ Below w.heap.size w wx) (fun _ i _ => nz - (intOf i).toNat)
      case atStart => exact ⟨0, [], by omega, rfl, Lib.hid (by simpa using HR2.out), Lib.hid rfl, HO0, Below.refl _ _⟩
      case round =>
        obtain ⟨k, out, hk, rfl, HPC, HOL, HOW, hbel⟩ := hrel
        have HBEL := Lib.hid hbel
        obtain ⟨vA, vc, rfl⟩ := row_slice HOW.out
        by_cases hlt : k < nz
        · as_aux_lemma =>
          have hki : (k : Int) < (nz : Int) := by omega
          have hkl : k < zs.length := by rw [HZN.out]; exact hlt
          obtain ⟨z, hz⟩ : ∃ z, zs[k]? = some z := ⟨_, List.getElem?_eq_getElem hkl⟩
          have hzb := HZB.out z (List.mem_of_getElem? hz)
          obtain ⟨s, rfl⟩ : ∃ s : Nat, z = (s : Int) := ⟨z.toNat, by omega⟩
          have hs1 : 1 ≤ s := by omega
          have hs8 : s ≤ 8 := by omega
          obtain ⟨fr, HFR⟩ : ∃ fr, Hid (fnd (had (tk ++ out)) s al' 65 0 = fr) := ⟨_, Lib.hid rfl⟩
          have hpc := HPC.out
          rw [drop_next hz] at hpc
          unfold plc at hpc
          rw [show ((s : Int)).toNat = s by simp, HFR.out] at hpc
          have HPN : Hid (fr = none → ([], (k : Int), 15) = RR) := Lib.hid (fun e => by rw [← hpc, e])
          have HPS : Hid (∀ a, fr = some a → plc al' tk (out ++ [⟨(a : Int), (s : Int)⟩]) (k + 1) (zs.drop (k + 1)) = RR) := Lib.hid (fun a e => by rw [← hpc, e])
          clear hpc
          have hze : zs[k]'hkl = (s : Int) := by
            have := List.getElem?_eq_getElem hkl
            rw [this] at hz
            exact Option.some.inj hz
          obtain ⟨b, off, rfl, _, _⟩ := HZ.out.get hlt
          have HZC : Hid (∀ W, Below w.heap.size w W → W.cell? ⟨b, off + k, none⟩ = some (.int .i64 (s : Int))) := Lib.hid (fun W hW => by
            obtain ⟨b', off', e', _, hc⟩ := (HZ.out.kept hW).get hlt
            injection e' with e'
            injection e' with e1 e2 _
            rw [List.getElem_map, hze] at hc
            rw [e1, e2]
            exact hc)
          have HLk := Lib.hid (own_kept HL.out ((Below.refl _ _).trans (hbel.mono (Nat.le_refl _))))
          have HOLn : Hid (out.length ≤ 100) := Lib.hid (by rw [HOL.out]; omega)
          have HE1 := Lib.hid (own_empty2 wr TRp)
          have hba := bel1 wr (.cells #[] TRp)
          have HT1 := Lib.hid (own_kept HLk.out hba)
          have HO1 := Lib.hid (own_kept HOW.out hba)
          have HBA := Lib.hid hba
          have HLC : Hid (tk.length = n) := HLN
          clear hze hz hkl hzb hbel HPC hba
          go_wp2_with (first
            | (at_builtin; refine pushRR _ rfl (.tmp 48) (.tmp 49) 46 rfl wr.heap.size TRp i0 (.agg #[.int .i64 0, .int .i64 0]) 2 16 Try.underlying46 hi hz0 hz1 hz2 rfl (by decide) _ _ _ rfl HE1.out b0 TRp _ n (ptC tk) rfl HT1.out (one_ptC tk) (by unfold maxLen; omega) (by omega) HBA.out.size ?_; intro v5 w5 O5 B5; have HO5 := Lib.hid (own_far HO1.out B5.out (fun q hq => (HOW.out.lt q hq).2)); have HZ5 : Hid (wr.heap.size ≤ w5.heap.size) := Lib.hid (Nat.le_trans HBA.out.size B5.out.size))
            | (at_builtin; refine pushRR _ rfl (.tmp 50) (.tmp 51) 46 rfl wr.heap.size TRp i0 (.agg #[.int .i64 0, .int .i64 0]) 2 16 Try.underlying46 hi hz0 hz1 hz2 rfl (by decide) _ _ _ rfl O5.out w.heap.size TRp _ out.length (ptC out) rfl HO5.out (one_ptC out) (by have := HOLn.out; unfold maxLen; omega) (by have := HOLn.out; omega) HZ5.out ?_; intro v6 w6 O6 B6))
          have HB6 : Hid (Below wr.heap.size wr w6) := Lib.hid ((HBA.out.trans B5.out).trans B6.out)
          have HBW6 := Lib.hid (HBEL.out.trans (HB6.out.mono HBEL.out.size))
          have HO6 := Lib.hid (own_kept HOW.out HB6.out)
          obtain ⟨mA, mc, rfl, _, hpm⟩ := pts_own (ls := tk ++ out) (w := w6) (base := wr.heap.size) (T := TRp) (v := v6) (n := n + out.length) (by have h := O6.out; rw [List.nil_append, Nat.zero_add] at h; rw [ptC_app]; exact h) (by rw [List.length_append, HLN.out])
          rw [show 0 + n + out.length = n + out.length by omega] at *
          have HMP := Lib.hid (map_any mA (n + out.length) mc (tk ++ out) w6 hpm (by have := HOLn.out; omega))
          clear hpm O5 B5 O6 B6 HO5 HZ5 HE1 HBA HT1 HO1 HOW HB6 HBEL
          refine HMP.out.mono ?_
          rintro e w7 ⟨cs, rfl, HCC, hb7⟩
          have HB7 := Lib.hid (HBW6.out.trans (hb7.out.mono HBW6.out.size))
          have HO7 := Lib.hid (own_kept HO6.out hb7.out)
          obtain ⟨gm, HGM⟩ : ∃ g, Hid (w7.heap.size = g) := ⟨_, Lib.hid rfl⟩
          have HSZ : Hid ((Try.prog.info? TBl).map (·.size) = some cs.size) := Lib.hid (by rw [hip, HCC.out.1]; simp [hsp])
          have HOL2 : Hid ((Array.replicate 64 (Value.bool false)).size = cs.size) := Lib.hid (by rw [HCC.out.1]; simp)
          obtain ⟨W8, HW8⟩ : ∃ W, Hid (W = w7.alloc (.cells (Array.replicate 64 (.bool false)) TBl)) := ⟨_, Lib.hid rfl⟩
          have HOZ : Hid (Obj1 W8 gm TBl (Array.replicate 64 (.bool false))) := Lib.hid (by rw [HW8.out, ← HGM.out]; exact Obj1.new _ _ _)
          have HB8 : Hid (Below w7.heap.size w7 W8) := Lib.hid (by rw [HW8.out]; exact bel1 _ _)
          have HOZ3 : Hid (Obj1 (w7.alloc (.cells (Array.replicate 64 (.bool false)) TBl)) w7.heap.size TBl (Array.replicate 64 (.bool false))) := Lib.hid (Obj1.new _ _ _)
          clear hb7 HMP HBW6 HO6
          go_upto_region 13 with (first | (refine wpList_allocZ rfl TBl rfl hip hzp ?_) | (refine wpList_store_row rfl TBl _ _ rfl w7.heap.size cs rfl rfl TBl _ HOZ3.out HSZ.out HOL2.out HCC.out.one ?_))
          have HW9 := Lib.hid (wrote_setRow HOZ.out cs)
          change Code.wp _ _ _ _ ((w7.alloc (.cells (Array.replicate 64 (.bool false)) TBl)).setRow w7.heap.size cs)
          rw [← HW8.out, HGM.out]
          generalize W8.setRow gm cs = W9 at HW9 ⊢
          have HB9 : Hid (Below w.heap.size w W9) := Lib.hid ((HB7.out.trans (HB8.out.mono HB7.out.size)).trans (HW9.out.2.below (by rw [← HGM.out]; exact HB7.out.size) (Nat.le_trans HB7.out.size HB8.out.size)))
          have HBM : Hid (BlAt W9 gm (had (tk ++ out))) := Lib.hid ⟨cs, HW9.out.1, HCC.out⟩
          have HO9 : Hid (W9.ownsRow w.heap.size TRp 2 (.slice vA out.length vc) out.length (ptC out)) := Lib.hid ((own_kept HO7.out HB8.out).kept HW9.out.2 (.inr fun e => by have h1 := (HO7.out.lt gm e).2; have h2 := HGM.out; omega))
          have HGN : Hid (∀ q, (Value.slice vA out.length vc).ownBlock = some q → q ≠ gm) := Lib.hid (fun q hq => by have h1 := (HO7.out.lt q hq).2; have h2 := HGM.out; omega)
          have HGW : Hid (w.heap.size ≤ gm) := Lib.hid (by rw [← HGM.out]; exact HB7.out.size)
          clear HW9 HW8 HOZ HOZ3 HB8 HGM HSZ HOL2 HB7 HO7 HCC
          have e64 : IntKind.i64.wrap (64 - (s : Int)) = 64 - (s : Int) := IntWalk.i64_in _ (by omega)
          go_wp2_with fail
          go_loopw [10, 13, 14] (fun v f i wx => L3 w gm s al' tk out fr (.slice vA out.length vc) v f i wx) (fun _ f i _ => msr f i)
          case atStart => exact ⟨0, rfl, by omega, HB9.out, .inl ⟨rfl, rfl, ⟨65, HFR.out, by omega, by omega⟩, HO9.out, HBM.out⟩⟩
          case round =>
            clear HB9 HO9 HBM
            obtain ⟨a, rfl, ha2, hbel, hcase⟩ := hrel
            have HBEL := Lib.hid hbel
            have hc := HZC.out _ hbel
            clear hbel
            rcases hcase with ⟨rfl, rfl, ⟨fu, hf, h65, h128⟩, hrow, hbl⟩ | ⟨rfl, a0, hfr, hrow⟩
            · have HF := Lib.hid hf
              have HROW := Lib.hid hrow
              have HBL := Lib.hid hbl
              clear hf hrow hbl
              by_cases has : a + s ≤ 64
              · have hle : (a : Int) ≤ 64 - (s : Int) := by omega
                obtain ⟨fu', rfl⟩ : ∃ f, fu = f + 1 := ⟨fu - 1, by omega⟩
                have HF' : Hid ((if frB (had (tk ++ out)) a s = true then some a else fnd (had (tk ++ out)) s al' fu' (a + al')) = fr) := Lib.hid (by
                  have h := HF.out
                  unfold fnd at h
                  rw [if_pos has] at h
                  exact h)
                have ea : IntKind.i64.wrap ((a : Int) + (al' : Int)) = (a : Int) + (al' : Int) := IntWalk.i64_in _ (by omega)
                go_wp2_with fail
                go_loopw [15, 16] (fun b i wx => ∃ j : Nat, j ≤ s ∧ i = .int .i64 j ∧ b = .bool (frB (had (tk ++ out)) a j) ∧ wr = wx) (fun _ i _ => s - (intOf i).toNat)
                case atStart => exact ⟨0, by omega, rfl, rfl, rfl⟩
                case round =>
                  obtain ⟨j, hj, rfl, rfl, rfl⟩ := hrel
                  by_cases hjs : j < s
                  · have hji : (j : Int) < (s : Int) := by omega
                    have haj : a + j < 64 := by omega
                    have e1 : IntKind.i64.wrap ((a : Int) + (j : Int)) = ((a + j : Nat) : Int) := by rw [IntWalk.i64_in _ (by omega)]; omega
                    have HNX := Lib.hid (frB_next (had (tk ++ out)) a j)
                    obtain ⟨i, hi⟩ : ∃ i, a + j = i := ⟨_, rfl⟩
                    rw [hi] at haj e1 HNX
                    obtain ⟨c0, _⟩ := HBL.out.cell haj
                    have hi64 : (i : Int) < 64 := by omega
                    have hi0 : (0 : Int) ≤ (i : Int) := by omega
                    generalize had (tk ++ out) i = hv at c0 HNX
                    generalize frB (had (tk ++ out)) a j = bv at HNX ⊢
                    clear hi
                    cases bv with
                    | false =>
                      have HNY : Hid (false = frB (had (tk ++ out)) a (j + 1)) := Lib.hid (by rw [HNX.out]; rfl)
                      go_wp2
                      go_roundw
                      case rel => exact ⟨j + 1, by omega, by go_num, by rw [← HNY.out], by trivial⟩
                      case measure => simp [intOf]; omega
                    | true =>
                      cases hv with
                      | false =>
                        have HNY : Hid (true = frB (had (tk ++ out)) a (j + 1)) := Lib.hid (by rw [HNX.out]; rfl)
                        go_wp2
                        go_roundw
                        case rel => exact ⟨j + 1, by omega, by go_num, by rw [← HNY.out], by trivial⟩
                        case measure => simp [intOf]; omega
                      | true =>
                        have HNY : Hid (false = frB (had (tk ++ out)) a (j + 1)) := Lib.hid (by rw [HNX.out]; rfl)
                        go_wp2
                        go_roundw
                        case rel => exact ⟨j + 1, by omega, by go_num, by rw [← HNY.out], by trivial⟩
                        case measure => simp [intOf]; omega
                  · have hje : j = s := by omega
                    subst hje
                    obtain ⟨fq, HFQ⟩ : ∃ q, Hid (frB (had (tk ++ out)) a j = q) := ⟨_, Lib.hid rfl⟩
                    rw [HFQ.out]
                    cases fq with
                    | true =>
                      have HFS : Hid (fr = some a) := Lib.hid (by rw [← HF'.out, HFQ.out]; rfl)
                      have HR1 := Lib.hid (HROW.out.alloc (.cells (ptL ⟨(a : Int), (j : Int)⟩).toArray TRp))
                      go_wp2_with (at_builtin; refine pushS _ rfl (.tmp 86) (.tmp 93) 46 rfl w.heap.size TRp i0 (.agg #[.int .i64 0, .int .i64 0]) 2 16 Try.underlying46 hi hz0 hz1 hz2 rfl (by decide) _ _ _ rfl HR1.out ⟨wr.heap.size, 0, none⟩ 1 1 (ptL ⟨(a : Int), (j : Int)⟩) rfl rfl (cell_new wr (ptL ⟨(a : Int), (j : Int)⟩) TRp) (one_ptL _) (by have := HOLn.out; unfold maxLen; omega) (by have := HOLn.out; omega) (by have := HBEL.out.size; simp; omega) ?_; intro v5 w5 O5 B5 G5 K5)
                      have HB5 : Hid (Below w.heap.size w w5) := Lib.hid ((HBEL.out.alloc HBEL.out.size _).trans B5.out)
                      have HO5 : Hid (w5.ownsRow w.heap.size TRp 2 v5 (out.length + 1) (ptC (out ++ [(⟨(a : Int), (j : Int)⟩ : Pt)]))) := Lib.hid (by rw [ptC_snoc]; exact O5.out)
                      clear hc O5 B5 G5 K5 HR1
                      go_wp2
                      go_roundw
                      case rel => exact ⟨a + al', by go_num, by omega, HB5.out, .inr ⟨rfl, a, HFS.out, HO5.out⟩⟩
                      case measure => simp [intOf, msr]; omega
                    | false =>
                      have HF2 : Hid (fnd (had (tk ++ out)) j al' fu' (a + al') = fr) := Lib.hid (by rw [← HF'.out, HFQ.out]; rfl)
                      go_wp2
                      go_roundw
                      case rel => exact ⟨a + al', by go_num, by omega, HBEL.out, .inl ⟨rfl, rfl, ⟨fu', HF2.out, by omega, by omega⟩, HROW.out, HBL.out⟩⟩
                      case measure => simp [intOf, msr]; omega
              · have hle : ¬ (a : Int) ≤ 64 - (s : Int) := by omega
                have HFN : Hid (none = fr) := Lib.hid (by
                  have h := HF.out
                  cases fu with
                  | zero => exact h
                  | succ f => unfold fnd at h; rw [if_neg has] at h; exact h)
                have HE := Lib.hid (HPN.out HFN.out.symm)
                obtain rfl := HE.out
                have HO := HNL.out wr (by first | rfl | trivial)
                go_wp2
                refine bodyPost_ret (v := .tuple #[.slice none 0 0, .int .i64 (k : Int), .int .i64 15]) (by simp [results, Try.results18, go_sem]) rfl ?_
                exact ⟨_, rfl, HO, HBEL⟩
            · have HPC2 := Lib.hid (HPS.out a0 hfr)
              have HOL5 : Hid ((out ++ [(⟨(a0 : Int), (s : Int)⟩ : Pt)]).length = k + 1) := Lib.hid (by rw [List.length_append, HOL.out]; rfl)
              have HRO5 : Hid (wr.ownsRow w.heap.size TRp 2 u10 (out ++ [(⟨(a0 : Int), (s : Int)⟩ : Pt)]).length (ptC (out ++ [(⟨(a0 : Int), (s : Int)⟩ : Pt)]))) := Lib.hid (by rw [List.length_append, List.length_singleton]; exact hrow)
              clear hc hrow hfr
              go_wp2
              go_roundw
              case rel => exact ⟨k + 1, out ++ [⟨(a0 : Int), (s : Int)⟩], by omega, by go_num, HPC2, HOL5, HRO5, HBEL.out⟩
              case measure => simp [intOf]; omega
        · as_aux_lemma =>
          have hke : nz = k := by omega
          subst hke
          have HE : Hid ((out, -1, 0) = RR) := Lib.hid (by rw [← HPC.out, List.drop_of_length_le (by rw [HZN.out]; exact Nat.le_refl _)]; rfl)
          obtain rfl := HE.out
          clear hbel
          go_wp2
          refine bodyPost_ret (v := .tuple #[.slice vA out.length vc, .int .i64 (-1), .int .i64 0]) (by simp [results, Try.results18, go_sem]) rfl ?_
          exact ⟨_, rfl, HOW, HBEL⟩
end Go.Proofs.Ytejhjpdcodloaaa.Ly42
