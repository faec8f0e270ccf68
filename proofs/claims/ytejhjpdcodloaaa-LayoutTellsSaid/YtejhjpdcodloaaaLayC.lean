/- The contract of package layout's Place; no condition but sizes. -/
import Derived.Test.YtejhjpdcodloaaaLayB
namespace Go.Proofs.Ytejhjpdcodloaaa.Ly42
open Go.ChangeShapes Go.WideShapes Go.ChangeAt Go.RowKit Base
set_option linter.unusedVariables false
set_option linter.unusedSimpArgs false

def frB (h : Nat → Bool) (a s : Nat) : Bool := (List.range s).all (fun j => !h (a + j))
/-- The first place that is free, at a multiple of al, from a on. -/
def fnd (h : Nat → Bool) (s al : Nat) : Nat → Nat → Option Nat
  | 0, _ => none
  | fu + 1, a => if a + s ≤ 64 then (if frB h a s = true then some a else fnd h s al fu (a + al)) else none
def plc (al : Nat) (tk : List Pt) : List Pt → Nat → List Int → List Pt × Int × Int
  | out, _, [] => (out, -1, 0)
  | out, i, z :: r => match fnd (had (tk ++ out)) z.toNat al 65 0 with
    | none => ([], (i : Int), 15)
    | some a => plc al tk (out ++ [⟨(a : Int), z⟩]) (i + 1) r
def badA : Nat → List Int → Option Nat
  | _, [] => none
  | i, z :: r => if z < 1 ∨ 8 < z then some i else badA (i + 1) r
def resP (al : Int) (tk : List Pt) (zs : List Int) : List Pt × Int × Int :=
  if al < 1 ∨ 64 < al then ([], -1, 2) else match badA 0 zs with
    | some i => ([], (i : Int), 3)
    | none => plc al.toNat tk [] 0 zs
theorem bad_all : ∀ (zs : List Int) (i : Nat), badA i zs = none → ∀ z ∈ zs, 1 ≤ z ∧ z ≤ 8
  | [], _, _ => fun z hz => by cases hz
  | x :: r, i, h => fun z hz => by
    unfold badA at h
    split at h
    · cases h
    · rename_i hx
      rcases List.mem_cons.1 hz with rfl | hz
      · omega
      · exact bad_all r _ h z hz
theorem rB_dec {a s : Nat} (h1 : 1 ≤ s) (h2 : s ≤ 8) : rB ⟨(a : Int), (s : Int)⟩ = decide (a + s ≤ 64) := by
  unfold rB
  rw [decide_eq_decide]
  simp only
  omega
theorem free_dec {l : List Pt} {a s : Nat} (h1 : 1 ≤ s) (h2 : s ≤ 8) (h : a + s ≤ 64) : freeB (cnt l) ⟨(a : Int), (s : Int)⟩ = frB (had l) a s := by
  unfold freeB
  rw [rB_dec h1 h2, decide_eq_true h, Bool.true_and, Bool.eq_iff_iff]
  unfold frB
  rw [List.all_eq_true, List.all_eq_true]
  have hin : ∀ i, inP ⟨(a : Int), (s : Int)⟩ i = decide (a ≤ i ∧ i < a + s) := fun i => by
    unfold inP
    rw [rB_dec h1 h2, decide_eq_true h, Bool.true_and, decide_eq_decide]
    simp only
    omega
  have hc : ∀ i, (cnt l i == 0) = !had l i := fun i => by
    rw [← cnt_had]
    rcases Nat.eq_zero_or_pos (cnt l i) with h | h
    · rw [h]; rfl
    · rw [decide_eq_true h]
      simp
      omega
  constructor
  · intro h' j hj
    have h3 := h' (a + j) (List.mem_range.2 (by have := List.mem_range.1 hj; omega))
    rw [hin, decide_eq_true (by have := List.mem_range.1 hj; omega), hc] at h3
    simpa using h3
  · intro h' i hi
    rw [hin, hc]
    by_cases e : a ≤ i ∧ i < a + s
    · have h3 := h' (i - a) (List.mem_range.2 (by omega))
      rw [show a + (i - a) = i by omega] at h3
      rw [h3]
      simp
    · rw [decide_eq_false e]
      rfl
def atOf (g : Nat) (w : World) : Int := match w.cell? ⟨g, 0, none⟩ with
  | some (.int _ a) => a
  | _ => 0
theorem atOf_is {g : Nat} {w : World} {k : IntKind} {a : Int} (h : w.cell? ⟨g, 0, none⟩ = some (.int k a)) : atOf g w = a := by unfold atOf; rw [h]
/-- What stands in memory while parts are placed. -/
structure Ls (base g : Nat) (l out : List Pt) (v : Value) (w : World) : Prop where
  pl : PlAt w g (cnt l)
  row : w.ownsRow base TPt 2 v out.length (ptC out)
theorem grown_of {w w' : World} (h : Below w.heap.size w w') : w.grownBy w' none := ⟨h.os, h.tape, h.output, h.size, fun i hi _ => h.block i hi⟩
theorem PlAt.by' {w w' : World} {g : Nat} {f : Nat → Nat} {row : Option Nat} (h : PlAt w g f) (hg : w.grownBy w' row) (hr : row ≠ some g) : PlAt w' g f := by
  obtain ⟨cs, h, k⟩ := h
  exact ⟨cs, (hg.block g h.lt (fun e => hr e.symm)).trans h, k⟩
theorem Ls.kept {base g : Nat} {l out : List Pt} {v : Value} {w w' : World} (h : Ls base g l out v w) (hb : Below w.heap.size w w') : Ls base g l out v w' := ⟨h.pl.kept hb, own_kept h.row hb⟩
theorem Ls.touch {base g b : Nat} {l out : List Pt} {v : Value} {w w' : World} (h : Ls base g l out v w) (ht : Wrote b w w') (hg : g ≠ b) (hb : v.ownBlock ≠ some b) : Ls base g l out v w' := ⟨h.pl.touch ht hg, h.row.kept ht (.inr hb)⟩
theorem row_slice {w : World} {base : Nat} {T : TypeId} {s : Nat} {v : Value} {n : Nat} {xs : List Value} (h : w.ownsRow base T s v n xs) : ∃ A c, v = .slice A n c := by
  rcases h.2 with ⟨rfl, rfl⟩ | ⟨g, cap, cur, rfl, _⟩
  · exact ⟨none, 0, rfl⟩
  · exact ⟨_, _, rfl⟩
theorem own_mono {w : World} {base b' : Nat} {e : TypeId} {size : Nat} {v : Value} {n : Nat} {xs : List Value} (h : w.ownsRow base e size v n xs) (hb : b' ≤ base) : w.ownsRow b' e size v n xs := by
  refine ⟨h.1, ?_⟩
  rcases h.2 with h | ⟨g, cap, cur, e1, e2, r⟩
  · exact .inl h
  · exact .inr ⟨g, cap, cur, e1, Nat.le_trans hb e2, r⟩
set_option maxRecDepth 100000 in
set_option maxHeartbeats 4000000 in
theorem place_any (Z : Option Addr) (nz cz : Nat) (zs : List Int) (al : Int) (A : Option Addr) (n c : Nat) (tk : List Pt) (w : World) (hz : Lst w Z nz (zs.map (Value.int .i64))) (hl : PtsAt w A n tk) (hnz : nz ≤ 100) (hn : n ≤ 100) :
    Calls Try.prog 17 #[.slice Z nz cz, .int .i64 al, .slice A n c] w fun e w' => ∃ v, e = .returned (.tuple #[v, .int .i64 (resP al tk zs).2.1, .int .i64 (resP al tk zs).2.2]) ∧ Hid (w'.ownsRow w.heap.size TPt 2 v (resP al tk zs).1.length (ptC (resP al tk zs).1)) ∧ Hid (Below w.heap.size w w') := by
  have HL := Lib.hid hl
  have HZ := Lib.hid hz
  have HZN : Hid (zs.length = nz) := Lib.hid (by have := hz.1; simpa using this)
  obtain ⟨RR, HRR⟩ : ∃ RR, Hid (resP al tk zs = RR) := ⟨_, Lib.hid rfl⟩
  rw [HRR.out]
  have HNIL : ∀ W, Hid (W = w ∨ Below w.heap.size w W) → RR.1 = [] → Hid (W.ownsRow w.heap.size TPt 2 (.slice none 0 0) RR.1.length (ptC RR.1)) := fun W _ h => Lib.hid (by rw [h]; exact ⟨rfl, .inl ⟨rfl, rfl⟩⟩)
  have HNL := Lib.hid HNIL
  clear hz hl HNIL
  by_cases ha1 : al < 1
  · have HE : Hid (([], -1, 2) = RR) := Lib.hid (by rw [← HRR.out]; unfold resP; rw [if_pos (.inl ha1)])
    obtain rfl := HE.out
    have HO := HNL.out w (Lib.hid (.inl rfl)) rfl
    go_enter Try.func17, Try.ntmps17
    go_wp2
    refine bodyPost_ret (v := .tuple #[.slice none 0 0, .int .i64 (-1), .int .i64 2]) (by simp [results, Try.results17, go_sem]) rfl ?_
    exact ⟨_, rfl, HO, Lib.hid (Below.refl _ _)⟩
  by_cases ha2 : 64 < al
  · have HE : Hid (([], -1, 2) = RR) := Lib.hid (by rw [← HRR.out]; unfold resP; rw [if_pos (.inr ha2)])
    obtain rfl := HE.out
    have HO := HNL.out w (Lib.hid (.inl rfl)) rfl
    go_enter Try.func17, Try.ntmps17
    go_wp2
    refine bodyPost_ret (v := .tuple #[.slice none 0 0, .int .i64 (-1), .int .i64 2]) (by simp [results, Try.results17, go_sem]) rfl ?_
    exact ⟨_, rfl, HO, Lib.hid (Below.refl _ _)⟩
  obtain ⟨al', rfl⟩ : ∃ a : Nat, al = (a : Int) := ⟨al.toNat, by omega⟩
  have hal : 1 ≤ al' ∧ al' ≤ 64 := by omega
  have HR1 : Hid ((match badA 0 zs with | some i => ([], (i : Int), 3) | none => plc al' tk [] 0 zs) = RR) := Lib.hid (by rw [← HRR.out]; unfold resP; rw [if_neg (by omega)]; rfl)
  go_enter Try.func17, Try.ntmps17
  go_upto_block 2 with (fail)
  clear ha1 ha2
  go_wp2_with fail
  go_loopw [24] (fun i wx => ∃ k : Nat, k ≤ nz ∧ i = .int .i64 k ∧ Hid (badA 0 zs = badA k (zs.drop k)) ∧ w = wx) (fun i _ => nz - (intOf i).toNat)
  case atStart => exact ⟨0, by omega, rfl, Lib.hid rfl, rfl⟩
  case round =>
    obtain ⟨k, hk, rfl, HB, rfl⟩ := hrel
    by_cases hlt : k < nz
    · as_aux_lemma =>
      have hki : (k : Int) < (nz : Int) := by omega
      have hkl : k < zs.length := by rw [HZN.out]; exact hlt
      obtain ⟨z, hz⟩ : ∃ z, zs[k]? = some z := ⟨_, List.getElem?_eq_getElem hkl⟩
      have HB' : Hid (badA 0 zs = if z < 1 ∨ 8 < z then some k else badA (k + 1) (zs.drop (k + 1))) := Lib.hid (by rw [HB.out, drop_next hz]; rfl)
      obtain ⟨b, off, rfl, _, hc⟩ := HZ.out.get hlt
      rw [List.getElem_map] at hc
      have hze : zs[k]'hkl = z := by
        have := List.getElem?_eq_getElem hkl
        rw [this] at hz
        exact Option.some.inj hz
      rw [hze] at hc
      clear hze hz hkl HB
      by_cases hb1 : z < 1
      · have HE : Hid (([], (k : Int), 3) = RR) := Lib.hid (by rw [← HR1.out, HB'.out, if_pos (.inl hb1)])
        obtain rfl := HE.out
        have HO := HNL.out w (Lib.hid (.inl rfl)) rfl
        go_wp2
        refine bodyPost_ret (v := .tuple #[.slice none 0 0, .int .i64 (k : Int), .int .i64 3]) (by simp [results, Try.results17, go_sem]) rfl ?_
        exact ⟨_, rfl, HO, Lib.hid (Below.refl _ _)⟩
      · by_cases hb2 : 8 < z
        · have HE : Hid (([], (k : Int), 3) = RR) := Lib.hid (by rw [← HR1.out, HB'.out, if_pos (.inr hb2)])
          obtain rfl := HE.out
          have HO := HNL.out w (Lib.hid (.inl rfl)) rfl
          go_wp2
          refine bodyPost_ret (v := .tuple #[.slice none 0 0, .int .i64 (k : Int), .int .i64 3]) (by simp [results, Try.results17, go_sem]) rfl ?_
          exact ⟨_, rfl, HO, Lib.hid (Below.refl _ _)⟩
        · have HB2 : Hid (badA 0 zs = badA (k + 1) (zs.drop (k + 1))) := Lib.hid (by rw [HB'.out, if_neg (by omega)])
          go_wp2
          go_roundw
          case rel => exact ⟨k + 1, by omega, by go_num, HB2, by trivial⟩
          case measure => simp [intOf]; omega
    · as_aux_lemma =>
      have hke : nz = k := by omega
      subst hke
      have HBN : Hid (badA 0 zs = none) := Lib.hid (by rw [HB.out, List.drop_of_length_le (by rw [HZN.out]; exact Nat.le_refl _)]; rfl)
      have HR2 : Hid (plc al' tk [] 0 zs = RR) := Lib.hid (by rw [← HR1.out, HBN.out])
      have HZB : Hid (∀ z ∈ zs, 1 ≤ z ∧ z ≤ 8) := Lib.hid (bad_all zs 0 HBN.out)
      obtain ⟨ip, hip, hzp, hsp⟩ := info_get info_pl
      obtain ⟨i0, hi, hz0, hz1, hz2⟩ := info_parts info_pt
      clear HB HR1 HBN
      have HOF := Lib.hid (of_any A n c tk w HL.out (by omega))
      go_wp2_with fail
      refine HOF.out.mono ?_
      rintro e w3 ⟨cs, rfl, HCC, hb3⟩
      have HB3 := Lib.hid hb3.out
      obtain ⟨g, HG⟩ : ∃ g, Hid (w3.heap.size = g) := ⟨_, Lib.hid rfl⟩
      have HSZ : Hid ((Try.prog.info? TPl).map (·.size) = some cs.size) := Lib.hid (by rw [hip, HCC.out.1]; simp [hsp])
      have HOL : Hid ((Array.replicate 64 (Value.int .i64 0)).size = cs.size) := Lib.hid (by rw [HCC.out.1]; simp)
      obtain ⟨W4, HW4⟩ : ∃ W, Hid (W = w3.alloc (.cells (Array.replicate 64 (.int .i64 0)) TPl)) := ⟨_, Lib.hid rfl⟩
      have HOZ : Hid (Obj1 W4 g TPl (Array.replicate 64 (.int .i64 0))) := Lib.hid (by rw [HW4.out, ← HG.out]; exact Obj1.new _ _ _)
      have HB4 : Hid (Below w.heap.size w W4) := Lib.hid (by rw [HW4.out]; exact HB3.out.alloc HB3.out.size _)
      have HOZ3 : Hid (Obj1 (w3.alloc (.cells (Array.replicate 64 (.int .i64 0)) TPl)) w3.heap.size TPl (Array.replicate 64 (.int .i64 0))) := Lib.hid (Obj1.new _ _ _)
      clear hb3 HOF
      go_upto_region 10 with (first | (refine wpList_allocZ rfl TPl rfl hip hzp ?_) | (refine wpList_store_row rfl TPl _ _ rfl w3.heap.size cs rfl rfl TPl _ HOZ3.out HSZ.out HOL.out HCC.out.one ?_))
      have HW5 := Lib.hid (wrote_setRow HOZ.out cs)
      change Code.wp _ _ _ _ ((w3.alloc (.cells (Array.replicate 64 (.int .i64 0)) TPl)).setRow w3.heap.size cs)
      rw [← HW4.out, HG.out]
      generalize W4.setRow g cs = W5 at HW5 ⊢
      have HB5 : Hid (Below w.heap.size w W5) := Lib.hid (HB4.out.trans (HW5.out.2.below (by rw [← HG.out]; exact HB3.out.size) HB4.out.size))
      have HPL : Hid (PlAt W5 g (cnt tk)) := Lib.hid ⟨cs, HW5.out.1, HCC.out⟩
      obtain ⟨base, HBA⟩ : ∃ base, Hid (W5.heap.size = base) := ⟨_, Lib.hid rfl⟩
      have HGB : Hid (g < base ∧ w.heap.size ≤ g ∧ w.heap.size ≤ base) := Lib.hid (by have h1 := HPL.out.lt; have h2 := HBA.out; have h3 := HG.out; have h4 := HB3.out.size; omega)
      have HLS : Hid (Ls base g (tk ++ []) [] (.slice none 0 0) W5) := Lib.hid ⟨by rw [List.append_nil]; exact HPL.out, ⟨rfl, .inl ⟨rfl, rfl⟩⟩⟩
      have HBB : Hid (base ≤ W5.heap.size) := Lib.hid (by rw [HBA.out]; exact Nat.le_refl _)
      clear HW5 HW4 HOZ HOZ3 HB4 HPL HBA HG HB3 HSZ HOL
      go_upto_block 2 with (fail)
      go_wp2_with fail
      go_loopw [12, 41] (fun v i wx => ∃ (k : Nat) (out : List Pt), k ≤ nz ∧ i = .int .i64 k ∧ Hid (plc al' tk out k (zs.drop k) = RR) ∧ Hid (out.length = k) ∧ Hid (Ls base g (tk ++ out) out v wx) ∧ Hid (base ≤ wx.heap.size) ∧ Below w.heap.size w wx) (fun _ i _ => nz - (intOf i).toNat)
      case atStart => exact ⟨0, [], by omega, rfl, Lib.hid (by simpa using HR2.out), Lib.hid rfl, HLS, HBB, HB5.out⟩
      case round =>
        clear HLS HBB HB5
        obtain ⟨k, out, hk, rfl, HPC, HOL, HLS, HBB, hbel⟩ := hrel
        have HBEL := Lib.hid hbel
        by_cases hlt : k < nz
        · as_aux_lemma =>
          have hki : (k : Int) < (nz : Int) := by omega
          have hkl : k < zs.length := by rw [HZN.out]; exact hlt
          obtain ⟨z, hz⟩ : ∃ z, zs[k]? = some z := ⟨_, List.getElem?_eq_getElem hkl⟩
          have hzb := HZB.out z (List.mem_of_getElem? hz)
          obtain ⟨s, rfl⟩ : ∃ s : Nat, z = (s : Int) := ⟨z.toNat, by omega⟩
          have hs1 : 1 ≤ s := by omega
          have hs8 : s ≤ 8 := by omega
          obtain ⟨fr, HFR⟩ : ∃ fr, Hid (fnd (had (tk ++ out)) s al' 65 0 = fr) := ⟨_, Lib.hid rfl⟩
          have hpc := HPC.out
          rw [drop_next hz] at hpc
          unfold plc at hpc
          rw [show ((s : Int)).toNat = s by simp, HFR.out] at hpc
          have HPN : Hid (fr = none → ([], (k : Int), 15) = RR) := Lib.hid (fun e => by rw [← hpc, e])
          have HPS : Hid (∀ a, fr = some a → plc al' tk (out ++ [⟨(a : Int), (s : Int)⟩]) (k + 1) (zs.drop (k + 1)) = RR) := Lib.hid (fun a e => by rw [← hpc, e])
          clear hpc
          obtain ⟨b, off, rfl, _, hc⟩ := (HZ.out.kept hbel).get hlt
          rw [List.getElem_map] at hc
          have hze : zs[k]'hkl = (s : Int) := by
            have := List.getElem?_eq_getElem hkl
            rw [this] at hz
            exact Option.some.inj hz
          rw [hze] at hc
          clear hze hz hkl hzb hbel HPC
          go_upto_region 15 with (fail)
          obtain ⟨gp, HGP⟩ : ∃ gp, Hid (wr.heap.size = gp) := ⟨_, Lib.hid rfl⟩
          obtain ⟨W6, HW6⟩ : ∃ W, Hid (W = wr.alloc (.cells #[.int .i64 0, .int .i64 (s : Int)] TPt)) := ⟨_, Lib.hid rfl⟩
          have HB6 : Hid (Below wr.heap.size wr W6) := Lib.hid (by rw [HW6.out]; exact bel1 _ _)
          have HOP : Hid (Obj1 W6 gp TPt #[.int .i64 0, .int .i64 (s : Int)]) := Lib.hid (by rw [HW6.out, ← HGP.out]; exact Obj1.new _ _ _)
          have HBW6 := Lib.hid (HBEL.out.trans (HB6.out.mono HBEL.out.size))
          have HLS6 := Lib.hid (HLS.out.kept HB6.out)
          have HBB6 : Hid (base ≤ W6.heap.size) := Lib.hid (Nat.le_trans HBB.out HB6.out.size)
          have HGN : Hid (g ≠ gp ∧ (∀ q, u12.ownBlock = some q → q ≠ gp) ∧ w.heap.size ≤ gp) := Lib.hid (by
            have h1 := HLS.out.pl.lt
            have h2 := HGP.out
            refine ⟨by omega, fun q hq => ?_, by have := HBEL.out.size; omega⟩
            have := (HLS.out.row.lt q hq).2
            omega)
          rw [← HW6.out, HGP.out]
          clear hc HW6 HB6 HLS HBB HBEL HGP
          go_loopw [] (fun wx => ∃ fu a : Nat, Hid (fnd (had (tk ++ out)) s al' fu a = fr) ∧ Hid (65 ≤ a + fu ∧ a ≤ 128) ∧ Hid (Obj1 wx gp TPt #[.int .i64 (a : Int), .int .i64 (s : Int)]) ∧ Hid (Ls base g (tk ++ out) out u12 wx) ∧ Hid (base ≤ wx.heap.size) ∧ Below w.heap.size w wx) (fun wx => (129 - atOf gp wx).toNat)
          case atStart => exact ⟨65, 0, HFR, Lib.hid (by omega), HOP, HLS6, HBB6, HBW6.out⟩
          case round =>
            clear HOP HLS6 HBB6 HBW6
            obtain ⟨fu, a, HF, HFA, HOP, HLS, HBB, hbel⟩ := hrel
            have HBEL := Lib.hid hbel
            obtain ⟨ha65, ha128⟩ := HFA.out
            have q0 := HOP.out.cell 0
            have q1 := HOP.out.cell 1
            simp at q0 q1
            have HAT := Lib.hid (atOf_is q0)
            have HRT := Lib.hid (fun W => right_any (a : Int) (s : Int) W)
            rw [rB_dec hs1 hs8] at HRT
            clear hbel
            by_cases has : a + s ≤ 64
            · rw [decide_eq_true has] at HRT
              obtain ⟨fu', rfl⟩ : ∃ f, fu = f + 1 := ⟨fu - 1, by omega⟩
              have HF' : Hid ((if frB (had (tk ++ out)) a s = true then some a else fnd (had (tk ++ out)) s al' fu' (a + al')) = fr) := Lib.hid (by
                have h := HF.out
                unfold fnd at h
                rw [if_pos has] at h
                exact h)
              go_wp2_with fail
              refine (HRT.out _).mono ?_
              rintro e w7 ⟨rfl, hb7⟩
              have HLS7 := Lib.hid (HLS.out.kept hb7)
              have HOP7 := Lib.hid (HOP.out.kept hb7)
              have HB7 := Lib.hid (HBEL.out.trans (hb7.mono HBEL.out.size))
              have HBB7 : Hid (base ≤ w7.heap.size) := Lib.hid (Nat.le_trans HBB.out hb7.size)
              clear q0 q1 hb7 HLS HOP HBEL HBB
              have q0 := HOP7.out.cell 0
              have q1 := HOP7.out.cell 1
              simp at q0 q1
              have HFE := Lib.hid (free_any g (cnt (tk ++ out)) (a : Int) (s : Int) w7 HLS7.out.pl)
              rw [free_dec hs1 hs8 has] at HFE
              obtain ⟨fq, HFQ⟩ : ∃ q, Hid (frB (had (tk ++ out)) a s = q) := ⟨_, Lib.hid rfl⟩
              rw [HFQ.out] at HFE
              go_wp2_with fail
              refine HFE.out.mono ?_
              rintro e w8 ⟨rfl, hb8⟩
              have HLS8 := Lib.hid (HLS7.out.kept hb8)
              have HOP8 := Lib.hid (HOP7.out.kept hb8)
              have HB8 := Lib.hid (HB7.out.trans (hb8.mono HB7.out.size))
              have HBB8 : Hid (base ≤ w8.heap.size) := Lib.hid (Nat.le_trans HBB7.out hb8.size)
              clear q0 q1 hb8 HLS7 HOP7 HB7 HBB7 HFE
              have q0 := HOP8.out.cell 0
              have q1 := HOP8.out.cell 1
              have p0 := HOP8.out.free 0
              simp at q0 q1
              cases fq with
              | false =>
                have HF2 : Hid (fnd (had (tk ++ out)) s al' fu' (a + al') = fr) := Lib.hid (by rw [← HF'.out, HFQ.out]; rfl)
                have e1 : IntKind.i64.wrap ((a : Int) + (al' : Int)) = (a : Int) + (al' : Int) := IntWalk.i64_in _ (by omega)
                clear q1
                go_wp2
                have HS9 : Hid (Wrote gp w8 (w8.setCell ⟨gp, 0, none⟩ (.int .i64 ((a : Int) + (al' : Int))))) := Lib.hid ((Wrote.refl gp w8).set (p := ⟨gp, 0, none⟩) (.inl rfl) _)
                have HO9 : Hid (Obj1 (w8.setCell ⟨gp, 0, none⟩ (.int .i64 ((a : Int) + (al' : Int)))) gp TPt #[.int .i64 ((a + al' : Nat) : Int), .int .i64 (s : Int)]) := Lib.hid (by
                  rw [show ((a + al' : Nat) : Int) = (a : Int) + (al' : Int) by omega]
                  exact HOP8.out.set 0 _)
                have HL9 := Lib.hid (HLS8.out.touch HS9.out HGN.out.1 (fun e => HGN.out.2.1 _ e rfl))
                have HB9 := Lib.hid (HB8.out.trans (HS9.out.below HGN.out.2.2 HB8.out.size))
                have HBB9 : Hid (base ≤ (w8.setCell ⟨gp, 0, none⟩ (.int .i64 ((a : Int) + (al' : Int)))).heap.size) := Lib.hid (Nat.le_trans HBB8.out HS9.out.size)
                generalize w8.setCell ⟨gp, 0, none⟩ (.int .i64 ((a : Int) + (al' : Int))) = w9 at HS9 HO9 HL9 HB9 HBB9 ⊢
                refine ⟨⟨fu', a + al', HF2, Lib.hid (by omega), HO9, HL9, HBB9, HB9.out⟩, ?_⟩
                rw [HAT.out, atOf_is (HO9.out.cell 0)]
                omega
              | true =>
                have HFS : Hid (fr = some a) := Lib.hid (by rw [← HF'.out, HFQ.out]; rfl)
                have HPC2 := Lib.hid (HPS.out a HFS.out)
                have hi2 : 1 ≤ 1 := Nat.le_refl _
                clear p0
                go_wp2_with fail
                refine (HRT.out _).mono ?_
                rintro e w9 ⟨rfl, hb9⟩
                have HLS9 := Lib.hid (HLS8.out.kept hb9)
                have HOP9 := Lib.hid (HOP8.out.kept hb9)
                have HB9 := Lib.hid (HB8.out.trans (hb9.mono HB8.out.size))
                have HBB9 : Hid (base ≤ w9.heap.size) := Lib.hid (Nat.le_trans HBB8.out hb9.size)
                clear q0 q1 hb9 HLS8 HOP8 HB8 HBB8
                have q0 := HOP9.out.cell 0
                have q1 := HOP9.out.cell 1
                simp at q0 q1
                have HAD := Lib.hid (add_any g (cnt (tk ++ out)) (a : Int) (s : Int) w9 HLS9.out.pl (fun i _ => by have h1 := cnt_le (tk ++ out) i; have h2 := HL.out.len; have h3 := HOL.out; rw [List.length_append] at h1; omega))
                go_wp2_with fail
                refine HAD.out.mono ?_
                rintro e w10 ⟨rfl, HP10, HW10⟩
                have HR10 : Hid (w10.ownsRow base TPt 2 u12 out.length (ptC out)) := Lib.hid (HLS9.out.row.kept HW10.out (.inr fun e => by have h1 := (HLS9.out.row.lt g e).1; have h2 := HGB.out.1; omega))
                have HO10 := Lib.hid (HOP9.out.touch HW10.out (fun e => HGN.out.1 e.symm))
                have HB10 := Lib.hid (HB9.out.trans (HW10.out.below HGB.out.2.1 HB9.out.size))
                have HBB10 : Hid (base ≤ w10.heap.size) := Lib.hid (Nat.le_trans HBB9.out HW10.out.size)
                have HPL10 : Hid (PlAt w10 g (cnt (tk ++ (out ++ [(⟨(a : Int), (s : Int)⟩ : Pt)])))) := Lib.hid (HP10.out.same (fun i _ => by rw [← List.append_assoc, cnt_snoc]))
                clear q0 q1 HAD HP10 HW10 HLS9 HOP9 HB9 HBB9
                have q0 := HO10.out.cell 0
                have q1 := HO10.out.cell 1
                simp at q0 q1
                have HOLn : Hid (out.length ≤ 100) := Lib.hid (by rw [HOL.out]; omega)
                have HROW := Lib.hid (HR10.out.alloc (.cells (ptL ⟨(a : Int), (s : Int)⟩).toArray TPt))
                go_wp2_with (at_builtin; refine pushS _ rfl (.tmp 66) (.tmp 68) 43 rfl base TPt i0 (.agg #[.int .i64 0, .int .i64 0]) 2 16 Try.underlying43 hi hz0 hz1 hz2 rfl (by decide) _ _ _ rfl HROW.out ⟨w10.heap.size, 0, none⟩ 1 1 (ptL ⟨(a : Int), (s : Int)⟩) rfl rfl (cell_new w10 (ptL ⟨(a : Int), (s : Int)⟩) TPt) (one_ptL _) (by have := HOLn.out; unfold maxLen; omega) (by have := HOLn.out; omega) (by have := HBB10.out; simp; omega) ?_; intro v5 w5 O5 B5 G5 K5)
                have HRO5 : Hid (w5.ownsRow base TPt 2 v5 (out ++ [(⟨(a : Int), (s : Int)⟩ : Pt)]).length (ptC (out ++ [(⟨(a : Int), (s : Int)⟩ : Pt)]))) := Lib.hid (by rw [ptC_snoc, List.length_append, List.length_singleton]; exact O5.out)
                have HPL5 : Hid (PlAt w5 g (cnt (tk ++ (out ++ [(⟨(a : Int), (s : Int)⟩ : Pt)])))) := Lib.hid ((HPL10.out.kept (bel1 w10 (.cells (ptL ⟨(a : Int), (s : Int)⟩).toArray TPt))).by' G5.out (fun e => by have h1 := (HR10.out.lt g e).1; have h2 := HGB.out.1; omega))
                have HB5 : Hid (Below w.heap.size w w5) := Lib.hid ((HB10.out.alloc HB10.out.size _).trans (B5.out.mono HGB.out.2.2))
                have HBB5 : Hid (base ≤ w5.heap.size) := Lib.hid (by have h1 := B5.out.size; have h2 := HBB10.out; simp at h1; omega)
                have HOL5 : Hid ((out ++ [(⟨(a : Int), (s : Int)⟩ : Pt)]).length = k + 1) := Lib.hid (by rw [List.length_append, HOL.out]; rfl)
                clear q0 q1 O5 B5 G5 K5 HROW hi2
                go_wp2
                go_roundw
                case rel => exact ⟨k + 1, out ++ [⟨(a : Int), (s : Int)⟩], by omega, by go_num, HPC2, HOL5, Lib.hid ⟨HPL5.out, HRO5.out⟩, HBB5, HB5.out⟩
                case measure => simp [intOf]; omega
            · rw [decide_eq_false has] at HRT
              have HFN : Hid (none = fr) := Lib.hid (by
                have h := HF.out
                cases fu with
                | zero => exact h
                | succ f => unfold fnd at h; rw [if_neg has] at h; exact h)
              have HE := Lib.hid (HPN.out HFN.out.symm)
              obtain rfl := HE.out
              go_wp2_with fail
              refine (HRT.out _).mono ?_
              rintro e w7 ⟨rfl, hb7⟩
              have HOP7 := Lib.hid (HOP.out.kept hb7)
              have HB7 := Lib.hid (HBEL.out.trans (hb7.mono HBEL.out.size))
              clear q0 q1 hb7 HLS HOP HBEL HBB
              have q0 := HOP7.out.cell 0
              have q1 := HOP7.out.cell 1
              simp at q0 q1
              go_wp2_with fail
              refine (HRT.out _).mono ?_
              rintro e w8 ⟨rfl, hb8⟩
              have HB8 := Lib.hid (HB7.out.trans (hb8.mono HB7.out.size))
              have HO := HNL.out w8 (Lib.hid (.inr HB8.out)) (by first | rfl | trivial)
              clear q0 q1 hb8
              go_wp2
              refine bodyPost_ret (v := .tuple #[.slice none 0 0, .int .i64 (k : Int), .int .i64 15]) (by simp [results, Try.results17, go_sem]) rfl ?_
              exact ⟨_, rfl, HO, Lib.hid HB8.out⟩
        · as_aux_lemma =>
          have hke : nz = k := by omega
          subst hke
          have HE : Hid ((out, -1, 0) = RR) := Lib.hid (by rw [← HPC.out, List.drop_of_length_le (by rw [HZN.out]; exact Nat.le_refl _)]; rfl)
          obtain rfl := HE.out
          have HRO : Hid (wr.ownsRow w.heap.size TPt 2 u12 out.length (ptC out)) := Lib.hid (own_mono HLS.out.row HGB.out.2.2)
          clear hbel
          go_wp2
          refine bodyPost_ret (v := .tuple #[u12, .int .i64 (-1), .int .i64 0]) (by simp [results, Try.results17, go_sem]) rfl ?_
          exact ⟨_, rfl, HRO, HBEL⟩
end Go.Proofs.Ytejhjpdcodloaaa.Ly42
