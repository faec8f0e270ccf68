/- Any schedule's frame has the document's load, and its modules send and take what it says; its places are written as it tells: for every schedule, version and module; no condition. -/
import Derived.RegionTactic
import Derived.IntWalk
import Derived.Deep.DeepCutAuto
import Derived.Deep.CutBlock
import Derived.Test.YtkankdecbefenaaLodF
import Derived.Test.YtkankdecbefenaaPlnJ
import Derived.Test.YtkankdecbefenaaRows
import Derived.WalkKit
import Derived.ProofKit
import Derived.OpenShut
import Derived.ShutString
import Derived.ChangeOld
import Derived.Below
namespace Go.Proofs.Ytkankdecbefenaa.lawLoadTells
open Go.ChangeShapes Go.WideShapes Go.ChangeAt Go.RowKit Base
open Go.ChangeMaps (open_string shut_string)
set_option linter.unusedVariables false
set_option linter.unusedSimpArgs false
theorem own : ownKnob Try.prog.godebug = none := by kernel_rfl
theorem laidOut : laidOutB Try.prog = true := by kernel_rfl
open Ly31 Ly7

def NwI (xs : List Int) : Sp := fun v w => ∃ A c, v = .slice A xs.length c ∧ Lst w A xs.length (inV xs)
theorem NwI.stable (xs : List Int) : Stable (NwI xs) := fun v a b ⟨A, c, e, h⟩ hb => ⟨A, c, e, h.kept hb⟩
theorem NwI.ex0 (w : World) : ∃ v, ∃ x : Kin w, NwI [] v x.world := ⟨.slice none 0 0, Kin.me _, none, 0, rfl, Lst.nil _ _⟩
def incF (y wd : Int) (fs : List Int) (j : Nat) : Int := if (fs.take j).contains y = true then wd else 0
theorem inc_hit {y wd : Int} {fs : List Int} {j : Nat} (ht : twF fs = false) (hz : fs[j]? = some y) : incF y wd fs j = 0 ∧ incF y wd fs (j + 1) = wd := by
  have h1 := tw_new ht hz
  have h2 : fs.take (j + 1) = fs.take j ++ [y] := by rw [List.take_add_one, hz]; rfl
  unfold incF
  rw [h1, h2]
  simp
theorem inc_miss {y wd z : Int} {fs : List Int} {j : Nat} (hz : fs[j]? = some z) (hn : z ≠ y) : incF y wd fs (j + 1) = incF y wd fs j := by
  have h2 : fs.take (j + 1) = fs.take j ++ [z] := by rw [List.take_add_one, hz]; rfl
  unfold incF
  rw [h2]
  have h3 : (fs.take j ++ [z]).contains y = (fs.take j).contains y := by simp [Ne.symm hn]
  rw [h3]
theorem inc_all {y wd : Int} {fs : List Int} {j : Nat} (h : fs.length ≤ j) : incF y wd fs j = if fs.contains y = true then wd else 0 := by unfold incF; rw [List.take_of_length_le h]
theorem nB_zero (p : Nat → Bool) (h : ∀ i, p i = false) : ∀ k, nB p k = 0
  | 0 => rfl
  | k + 1 => by unfold nB; rw [nB_zero p h k, h k]; rfl
theorem wr_nil0 : nB (wr0 (wrN [])) 64 = 0 := nB_zero _ (fun i => rfl) 64
theorem wr_nil1 : clL (wr1 (wrN [])) 64 = [] := by
  unfold clL
  rw [List.filter_eq_nil_iff.2 (fun i _ h => by have : wr1 (wrN []) i = false := rfl; rw [this] at h; cases h)]
  rfl
theorem fold_next {l : List Int} {k : Nat} {y : Int} (h : l[k]? = some y) : (l.take (k + 1)).foldl max 0 = max ((l.take k).foldl max 0) y := by
  rw [show l.take (k + 1) = l.take k ++ [y] by rw [List.take_add_one, h]; rfl, List.foldl_append]
  rfl
theorem wF_bd {y : Int} (G : Int → Wd → Int) (hG : G = sndW ∨ G = tkeW) {l : List Wd} (h : ∀ x ∈ l, WOk x) (hl : l.length ≤ 60) : 0 ≤ sumF (G y) l ∧ sumF (G y) l ≤ 480 := by
  have := sumF_bd (F := G y) (B := 8) l (fun x hx => by
    rcases hG with rfl | rfl
    · unfold sndW
      split
      · rename_i hk; have := (h x hx).d hk.1; omega
      · omega
    · unfold tkeW
      split
      · rename_i hk; have := (h x hx).d hk.1; omega
      · omega)
  omega
theorem tk_bits {x : Wd} {G : Int} (h : 20 * G = x.tk) : 0 ≤ G ∧ G ≤ 1000 := by have := x.tk_bd; omega
theorem lst_off {w w' : World} {A : Option Addr} {n : Nat} {xs : List Int} {g : Nat} {T : TypeId} {cs : Array Value} (hl : Lst w A n (xs.map (Value.int .i64))) (ho : Obj1 w g T cs) (hc : ∀ (i : Nat) (k : IntKind) (a : Int), cs[i]? ≠ some (.int k a)) (ht : Wrote g w w') : Lst w' A n (xs.map (Value.int .i64)) := by
  refine ⟨hl.1, fun hn => ?_⟩
  obtain ⟨b, off, e, hlt, hcell⟩ := hl.2 hn
  have hne : b ≠ g := by
    rintro rfl
    have h0 := hcell 0 hn
    rw [ho.cell] at h0
    have hx : 0 < xs.length := by have := hl.1; simp at this; omega
    rw [List.getElem?_map, List.getElem?_eq_getElem hx] at h0
    exact hc _ _ _ h0
  exact ⟨b, off, e, Nat.lt_of_lt_of_le hlt ht.size, fun k hk => (ht.cell hlt hne).trans (hcell k hk)⟩
theorem wins_off {w w' : World} {A : Option Addr} {n : Nat} {ws : List Wd} {g : Nat} {T : TypeId} {cs : Array Value} (h : WinsAt w A n ws) (ho : Obj1 w g T cs) (hc : ∀ (i : Nat) (k : IntKind) (a : Int), cs[i]? ≠ some (.int k a)) (ht : Wrote g w w') : WinsAt w' A n ws where
  len := h.len
  at' := fun hn => by
    obtain ⟨b, off, e, hlt, hcell⟩ := h.at' hn
    have hne : b ≠ g := by
      rintro rfl
      have hx : 0 < ws.length := by rw [h.len]; exact hn
      have h0 := hcell 0 hx 0 (by omega)
      rw [ho.cell] at h0
      exact hc _ _ _ h0
    exact ⟨b, off, e, Nat.lt_of_lt_of_le hlt ht.size, fun i hi j hj => (ht.cell hlt hne).trans (hcell i hi j hj)⟩
  ok := fun x hx => ⟨lst_off (h.ok x hx).fl ho hc ht, lst_off (h.ok x hx).tl ho hc ht, (h.ok x hx).nc, (h.ok x hx).md, (h.ok x hx).cm, (h.ok x hx).dm⟩
theorem two_sl (A B : Option Addr) (n c m d : Nat) : ∀ (i : Nat) (k : IntKind) (a : Int), (#[.slice A n c, .slice B m d] : Array Value)[i]? ≠ some (.int k a) := by
  intro i k a h
  rcases (show i = 0 ∨ i = 1 ∨ 2 ≤ i by omega) with rfl | rfl | hi
  · simp at h
  · simp at h
  · rw [Array.getElem?_eq_none (by simpa using hi)] at h
    cases h
set_option maxRecDepth 100000 in
set_option maxHeartbeats 8000000 in
theorem walk_any (md : Int) (A0 : Option Addr) (n0 c0 : Nat) (A1 : Option Addr) (n1 c1 : Nat) (ws0 ws1 : List Wd) (ver y : Int) (w : World) (hmd : md ≤ 9223372036854775807) (hW0 : WinsAt w A0 n0 ws0) (hW1 : WinsAt w A1 n1 ws1) (h0 : n0 ≤ 9223372036854775807) (h1 : n1 ≤ 9223372036854775807) :
    Calls Try.prog 3 #[.agg #[.int .i64 md, .slice A0 n0 c0, .slice A1 n1 c1], .int .i64 ver, .int .i64 y] w fun e w' => e = .returned (.bool true) ∧ Below w.heap.size w w' := by
  obtain ⟨gb, HGB⟩ : ∃ gb, Hid (w.heap.size = gb) := ⟨_, Lib.hid rfl⟩
  obtain ⟨W1, HW1⟩ : ∃ W1, Hid (W1 = w.alloc (.cells #[.int .i64 md, .slice A0 n0 c0, .slice A1 n1 c1] 25)) := ⟨_, Lib.hid rfl⟩
  have HB1 : Hid (Below w.heap.size w W1) := Lib.hid (by rw [HW1.out]; exact bel1 _ _)
  have HOB : Hid (Obj1 W1 gb 25 #[.int .i64 md, .slice A0 n0 c0, .slice A1 n1 c1]) := Lib.hid (by rw [HW1.out, ← HGB.out]; exact Obj1.new _ _ _)
  have HF := Lib.hid (few_any md A0 n0 c0 A1 n1 c1 ws0 ws1 W1 (hW0.kept HB1.out) (hW1.kept HB1.out) h0 h1)
  have d0 : W1.cell? ⟨gb, 0, none⟩ = some (.int .i64 md) := HOB.out.cell 0
  have d1 : W1.cell? ⟨gb, 1, none⟩ = some (.slice A0 n0 c0) := HOB.out.cell 1
  have d2 : W1.cell? ⟨gb, 2, none⟩ = some (.slice A1 n1 c1) := HOB.out.cell 2
  obtain ⟨iz, hiz, hzz, hsz⟩ := info_two info_2w
  go_enter Try.func3, Try.ntmps3
  go_upto_region 1 with (fail)
  rw [← HW1.out, HGB.out]
  clear HW1
  go_wp2_with fail
  refine HF.out.mono ?_
  rintro e w2 ⟨r, rfl, hr, hb2⟩
  have HB2 := Lib.hid (HB1.out.trans (hb2.mono HB1.out.size))
  have HO2 := Lib.hid (HOB.out.kept hb2)
  clear hb2 d0 d1 d2 HF
  rcases hr with rfl | ⟨rfl, hf0, hf1⟩
  · go_wp2
    go_ret
    exact ⟨rfl, HB2.out⟩
  have HSC : Hid (∀ V, Below w.heap.size w V → Sch V md A0 n0 A1 n1 ws0 ws1) := Lib.hid (fun V hV => ⟨hW0.kept hV, hW1.kept hV, hf0, hf1, hmd⟩)
  have HN60 : Hid (n0 ≤ 60 ∧ n1 ≤ 60) := Lib.hid ⟨hf0.1, hf1.1⟩
  obtain ⟨g, A, n, c, ws, vn, hw, hgt, hgf⟩ : ∃ (g : Bool) (A : Option Addr) (n c : Nat) (ws : List Wd) (vn : Nat),
      (∀ V, Below w.heap.size w V → Calls Try.prog 20 #[.agg #[.int .i64 md, .slice A0 n0 c0, .slice A1 n1 c1], .int .i64 ver] V fun e w' => e = .returned (wndV A n c g) ∧ Below V.heap.size V w') ∧
      (g = true → ver = (vn : Int) ∧ Pick vn A0 n0 c0 ws0 A1 n1 c1 ws1 A n c ws ∧ Gd md ws0 ws1) ∧ (g = false → ¬ Gd md ws0 ws1 ∨ ver < 0 ∨ 2 ≤ ver) := by
    by_cases hv : ver < 0 ∨ 2 ≤ ver
    · exact ⟨false, none, 0, 0, [], 0, fun V _ => windows_no md A0 n0 c0 A1 n1 c1 ver hv V, fun h => (by cases h), fun _ => .inr hv⟩
    · obtain ⟨g, hg⟩ : ∃ g : Bool, g = true ↔ Gd md ws0 ws1 := by
        by_cases h : Gd md ws0 ws1
        · exact ⟨true, fun _ => h, fun _ => rfl⟩
        · exact ⟨false, fun h' => (by cases h'), fun h' => absurd h' h⟩
      rcases (show ver = 0 ∨ ver = 1 by omega) with rfl | rfl
      · exact ⟨g, A0, n0, c0, ws0, 0, fun V hV => windows_any md A0 n0 c0 A1 n1 c1 ws0 ws1 A0 n0 c0 0 ws0 V (HSC.out V hV) (.inl ⟨rfl, rfl, rfl, rfl, rfl⟩) g hg,
          fun h => ⟨rfl, .inl ⟨rfl, rfl, rfl, rfl, rfl⟩, hg.1 h⟩, fun h => .inl (fun h' => by rw [hg.2 h'] at h; cases h)⟩
      · exact ⟨g, A1, n1, c1, ws1, 1, fun V hV => windows_any md A0 n0 c0 A1 n1 c1 ws0 ws1 A1 n1 c1 1 ws1 V (HSC.out V hV) (.inr ⟨rfl, rfl, rfl, rfl, rfl⟩) g hg,
          fun h => ⟨rfl, .inr ⟨rfl, rfl, rfl, rfl, rfl⟩, hg.1 h⟩, fun h => .inl (fun h' => by rw [hg.2 h'] at h; cases h)⟩
  have HGW : Hid (∀ V, Below w.heap.size w V → g = true → WinsAt V A n ws ∧ n ≤ 60 ∧ ∀ x ∈ ws, WOk x) := Lib.hid (fun V hV h => by
    obtain ⟨_, hp, hgd⟩ := hgt h
    exact ⟨(hp.wins (HSC.out V hV)).1, (hp.wins (HSC.out V hV)).2.1, gd_wins (hgd.pick hp)⟩)
  have HOF : Hid (∀ V, Below w.heap.size w V → Calls Try.prog 7 #[.agg #[.int .i64 md, .slice A0 n0 c0, .slice A1 n1 c1], .int .i64 ver] V fun e w' => e = .returned (.agg (if g = true then ldV vn ws else ldZ)) ∧ Below V.heap.size V w') := Lib.hid (fun V hV => of_any md A0 n0 c0 A1 n1 c1 ver V g A n c ws vn (fun W hW => hw W (hV.trans (hW.mono hV.size))) (fun h => by
    obtain ⟨h1, hp, hgd⟩ := hgt h
    obtain ⟨h2, h3, h4⟩ := HGW.out V hV h
    exact ⟨h1, hp.lt, hp.four, h2, h3, h4⟩))
  have HSN : Hid (∀ V, Below w.heap.size w V → Calls Try.prog 9 #[.agg #[.int .i64 md, .slice A0 n0 c0, .slice A1 n1 c1], .int .i64 ver, .int .i64 y] V fun e w' => e = .returned (.int .i64 (if g = true then sumF (sndW y) ws else 0)) ∧ Below V.heap.size V w') := Lib.hid (fun V hV => snd_any md A0 n0 c0 A1 n1 c1 ver y V g A n c ws (fun W hW => hw W (hV.trans (hW.mono hV.size))) (HGW.out V hV))
  have HTK : Hid (∀ V, Below w.heap.size w V → Calls Try.prog 10 #[.agg #[.int .i64 md, .slice A0 n0 c0, .slice A1 n1 c1], .int .i64 ver, .int .i64 y] V fun e w' => e = .returned (.int .i64 (if g = true then sumF (tkeW y) ws else 0)) ∧ Below V.heap.size V w') := Lib.hid (fun V hV => tke_any md A0 n0 c0 A1 n1 c1 ver y V g A n c ws (fun W hW => hw W (hV.trans (hW.mono hV.size))) (HGW.out V hV))
  have HAD : Hid (∀ V, Below w.heap.size w V → Calls Try.prog 11 #[.agg #[.int .i64 md, .slice A0 n0 c0, .slice A1 n1 c1], .int .i64 ver] V fun e w' => e = .returned (.int .i64 (nB (wr0 (wrN (if g = true then ws else []))) 64 : Nat)) ∧ Below V.heap.size V w') := Lib.hid (fun V hV => addrs_any md A0 n0 c0 A1 n1 c1 ver V g A n c ws (fun W hW => hw W (hV.trans (hW.mono hV.size))) (HGW.out V hV))
  have HCL : Hid (∀ V, Below w.heap.size w V → Calls Try.prog 12 #[.agg #[.int .i64 md, .slice A0 n0 c0, .slice A1 n1 c1], .int .i64 ver] V fun e w' => ∃ v, e = .returned v ∧ Below V.heap.size V w' ∧ NwI (clL (wr1 (wrN (if g = true then ws else []))) 64) v w') := Lib.hid (fun V hV => (clashes_any md A0 n0 c0 A1 n1 c1 ver V g A n c ws (fun W hW => hw W (hV.trans (hW.mono hV.size))) (HGW.out V hV)).mono (by
    rintro e w' ⟨v, rfl, ho, hb⟩
    obtain ⟨A', c', rfl, _, hl⟩ := row_lst ho.out
    exact ⟨_, rfl, hb.out, A', c', rfl, hl⟩))
  have HID : Hid (∀ V, Below w.heap.size w V → Calls Try.prog 13 #[.agg #[.int .i64 md, .slice A0 n0 c0, .slice A1 n1 c1], .int .i64 ver] V fun e w' => e = .returned (.int .i64 (if g = true then 200 - mx0 (spanF vn ws) else 0)) ∧ Below V.heap.size V w') := Lib.hid (fun V hV => idle_any md A0 n0 c0 A1 n1 c1 ver V g A n c ws vn (fun h => by
    obtain ⟨h1, hp, hgd⟩ := hgt h
    exact ⟨h1, hp.lt, (hgd.pick hp).2.2⟩) (fun W hW => hw W (hV.trans (hW.mono hV.size))) (HGW.out V hV))
  have HRC : Hid (∀ (W : World) B d C e, WinsAt W B n0 ws0 → WinsAt W C n1 ws1 → Calls Try.prog 6 #[.int .i64 md, .agg #[.slice B n0 d, .slice C n1 e]] W fun e w' => ∃ v j cc, e = .returned (.tuple #[.int .i64 v, .int .i64 j, .int .i64 cc]) ∧ Hid (cc = 0 ↔ Gd md ws0 ws1) ∧ Below W.heap.size W w') := Lib.hid (fun W B d C e hB hC => by
    refine (rcheck_any (winI md) md B n0 d C n1 e ws0 ws1 W hB hC (by have := HN60.out; omega) (by have := HN60.out; omega) saysr_win saysr_win).mono ?_
    rintro e w' ⟨v, j, cc, rfl, h, hb⟩
    exact ⟨v, j, cc, rfl, Lib.hid (gd_code h), hb⟩)
  have HOW : Hid (∀ V, Below w.heap.size w V → Calls Try.prog 5 #[.slice A0 n0 c0] V fun e w' => ∃ v, e = .returned v ∧ Below V.heap.size V w' ∧ WSp n0 ws0 v w') := Lib.hid (fun V hV => (own_any A0 n0 c0 ws0 V (HSC.out V hV).w0 (by have := HN60.out; omega)).mono (fun e w' ⟨B, d, he, hw, hb⟩ => ⟨_, he, hb.out, B, d, rfl, hw.out⟩))
  have HOX : Hid (∀ V, Below w.heap.size w V → Calls Try.prog 5 #[.slice A1 n1 c1] V fun e w' => ∃ v, e = .returned v ∧ Below V.heap.size V w' ∧ WSp n1 ws1 v w') := Lib.hid (fun V hV => (own_any A1 n1 c1 ws1 V (HSC.out V hV).w1 (by have := HN60.out; omega)).mono (fun e w' ⟨B, d, he, hw, hb⟩ => ⟨_, he, hb.out, B, d, rfl, hw.out⟩))
  have HGT := Lib.hid hgt
  have HGF := Lib.hid hgf
  have HD2 := Lib.hid (HSC.out w2.drew (HB2.out.trans ((bel_drew w2).mono HB2.out.size)))
  have X0 : ∀ z : Kin w2.drew, Obj1 z.world gb 25 #[.int .i64 md, .slice A0 n0 c0, .slice A1 n1 c1] := fun z => (HO2.out.drew).kept z.below
  have K0 : ∀ z : Kin w2.drew, z.world.cell? ⟨gb, 0, none⟩ = some (.int .i64 md) := fun z => (X0 z).cell 0
  have K1 : ∀ z : Kin w2.drew, z.world.cell? ⟨gb, 1, none⟩ = some (.slice A0 n0 c0) := fun z => (X0 z).cell 1
  have K2 : ∀ z : Kin w2.drew, z.world.cell? ⟨gb, 2, none⟩ = some (.slice A1 n1 c1) := fun z => (X0 z).cell 2
  have HKZ : Hid (∀ z : Kin w2.drew, Below w.heap.size w z.world) := Lib.hid (fun z => HB2.out.trans (((bel_drew w2).trans z.below).mono HB2.out.size))
  have HXZ := Lib.hid X0
  clear hf0 hf1 hw hgt hgf hW0 hW1 h0 h1 hmd X0
  go_upto_region 3 with (fail)
  refine wp_region_specL 10 [.d (.pointer (some ⟨gb, 1, none⟩)), .d (.pointer (some ⟨gb, 1, none⟩)), .d (.slice A0 n0 c0), .g (WSp n0 ws0), .d (.pointer (some ⟨gb, 1, none⟩)), .d (.pointer (some ⟨gb, 2, none⟩)), .d (.slice A1 n1 c1), .g (WSp n1 ws1), .g (W2Sp n0 n1 ws0 ws1), .g (NewO w2.heap.size 29 #[.slice none 0 0, .slice none 0 0])] (by kernel_rfl) (by kernel_rfl) ?_
  refine spec_d rfl (fun x _ => gives_run (by go_simp)) ?_
  try simp only [Act.put, List.getElem_toArray, List.getElem_cons_succ, List.getElem_cons_zero, List.setIfInBounds_toArray, List.set_cons_zero, List.set_cons_succ]
  refine spec_d rfl (fun x _ => gives_run (by go_simp)) ?_
  try simp only [Act.put, List.getElem_toArray, List.getElem_cons_succ, List.getElem_cons_zero, List.setIfInBounds_toArray, List.set_cons_zero, List.set_cons_succ]
  refine spec_d rfl (fun x _ => gives_run (by go_simp)) ?_
  try simp only [Act.put, List.getElem_toArray, List.getElem_cons_succ, List.getElem_cons_zero, List.setIfInBounds_toArray, List.set_cons_zero, List.set_cons_succ]
  refine spec_g (WSp.stable _ _) (WSp.ex c0 HD2.out.w0) rfl (fun z _ => gives_call (by go_simp) (HOW.out z.world (HKZ.out z))) ?_
  rintro v5 ⟨xv5, B0, e0, rfl, _⟩
  try simp only [Act.put, List.getElem_toArray, List.getElem_cons_succ, List.getElem_cons_zero, List.setIfInBounds_toArray, List.set_cons_zero, List.set_cons_succ]
  refine spec_d rfl (fun x _ => gives_run (by go_simp)) ?_
  try simp only [Act.put, List.getElem_toArray, List.getElem_cons_succ, List.getElem_cons_zero, List.setIfInBounds_toArray, List.set_cons_zero, List.set_cons_succ]
  refine spec_d rfl (fun x _ => gives_run (by go_simp)) ?_
  try simp only [Act.put, List.getElem_toArray, List.getElem_cons_succ, List.getElem_cons_zero, List.setIfInBounds_toArray, List.set_cons_zero, List.set_cons_succ]
  refine spec_d rfl (fun x _ => gives_run (by go_simp)) ?_
  try simp only [Act.put, List.getElem_toArray, List.getElem_cons_succ, List.getElem_cons_zero, List.setIfInBounds_toArray, List.set_cons_zero, List.set_cons_succ]
  refine spec_g (WSp.stable _ _) (WSp.ex c1 HD2.out.w1) rfl (fun z _ => gives_call (by go_simp) (HOX.out z.world (HKZ.out z))) ?_
  rintro v6 ⟨xv6, B1, e1, rfl, _⟩
  try simp only [Act.put, List.getElem_toArray, List.getElem_cons_succ, List.getElem_cons_zero, List.setIfInBounds_toArray, List.set_cons_zero, List.set_cons_succ]
  refine spec_g (W2Sp.stable _ _ _ _) (W2Sp.ex c0 c1 HD2.out.w0 HD2.out.w1) rfl (fun z hz => gives_ok (by go_simp) (Below.refl _ _) ⟨B0, e0, B1, e1, rfl, WSp.at (hz _ (List.mem_cons_of_mem _ (List.mem_singleton.2 rfl)) (by kernel_rfl)), WSp.at (hz _ (List.mem_cons_self ..) (by kernel_rfl))⟩) ?_
  rintro v7 ⟨x7, B3, e3, B4, e4, rfl, _, _⟩
  try simp only [Act.put, List.getElem_toArray, List.getElem_cons_succ, List.getElem_cons_zero, List.setIfInBounds_toArray, List.set_cons_zero, List.set_cons_succ]
  refine spec_g (NewO.stable _ _ _) (NewO.ex _ _ (Nat.le_refl _)) rfl (fun z _ => gives_alloc rfl hiz hzz (Nat.le_trans (bel_drew w2).size z.below.size)) ?_
  rintro v8 ⟨x8, g7, rfl, _⟩
  try simp only [Act.put, List.getElem_toArray, List.getElem_cons_succ, List.getElem_cons_zero, List.setIfInBounds_toArray, List.set_cons_zero, List.set_cons_succ]
  refine spec_end (fun z hz => ?_)
  have hgo := NewO.at (hz _ (List.mem_cons_self ..))
  have hw2 := W2Sp.at (hz _ (List.mem_cons_of_mem _ (List.mem_cons_self ..)))
  have HGO := Lib.hid hgo
  have HWB := Lib.hid hw2
  have HZ := Lib.hid (HKZ.out z)
  have HOZ := Lib.hid (HXZ.out z)
  clear hz hgo hw2 K0 K1 K2 HKZ HXZ HOW HOX HD2
  generalize z.world = wz at HGO HWB HZ HOZ ⊢
  clear z
  change wpAny _ _ _ _ (0 + 1) _ _ _
  refine wpAny_ready (rs := [10]) (by kernel_rfl) (by simp) ?_
  refine AllReady.cons rfl (fun KK hK => ?_) AllReady.nil
  rw [if_pos (by rfl)]
  refine upon_rowS (ty := 29) rfl g7 #[.slice B3 n0 e3, .slice B4 n1 e4] rfl rfl 29 _ HGO.out.2 (by kernel_rfl) rfl (by simp [Value.oneCell']) ?_
  refine hK _ _ ?_
  clear hK KK
  try simp only [Act.put, List.getElem_toArray, List.getElem_cons_succ, List.getElem_cons_zero, List.setIfInBounds_toArray, List.set_cons_zero, List.set_cons_succ]
  have HW5 := Lib.hid (wrote_row HGO.out.2 #[.slice B3 n0 e3, .slice B4 n1 e4])
  have HNE : Hid (gb ≠ g7) := Lib.hid (by have h1 := HGO.out.1; have h2 := HO2.out.lt; omega)
  have HL7 : Hid (w.heap.size ≤ g7) := Lib.hid (Nat.le_trans HB2.out.size HGO.out.1)
  generalize wz.setRow g7 #[.slice B3 n0 e3, .slice B4 n1 e4] = w5 at HW5 ⊢
  refine wpAny_done (by kernel_rfl) ?_ _
  have HB5 := Lib.hid (HZ.out.trans (HW5.out.2.below HL7.out HZ.out.size))
  have HO5 := Lib.hid (HOZ.out.touch HW5.out.2 HNE.out)
  have HO7 := Lib.hid HW5.out.1
  have HP0 := Lib.hid (wins_off HWB.out.1 HGO.out.2 (two_sl _ _ _ _ _ _) HW5.out.2)
  have HP1 := Lib.hid (wins_off HWB.out.2 HGO.out.2 (two_sl _ _ _ _ _ _) HW5.out.2)
  have HRC5 := Lib.hid (HRC.out w5 B3 e3 B4 e4 HP0.out HP1.out)
  clear HZ HOZ HGO HWB HW5 HRC HB2 HO2 HOB HB1
  have d0 := HO5.out.cell 0
  have f0 := HO7.out.cell 0
  have f1 := HO7.out.cell 1
  simp at d0 f0 f1
  go_wp2_with fail
  refine HRC5.out.mono ?_
  rintro e w6 ⟨v, j, cc, rfl, HCC, hb6⟩
  have HB6 := Lib.hid (HB5.out.trans (hb6.mono HB5.out.size))
  have HO6 := Lib.hid (HO5.out.kept hb6)
  have HO76 := Lib.hid (HO7.out.kept hb6)
  have HP06 := Lib.hid (HP0.out.kept hb6)
  have HP16 := Lib.hid (HP1.out.kept hb6)
  have HOF6 := Lib.hid (HOF.out w6 HB6.out)
  clear d0 f0 f1 hb6 HRC5 HO5 HO7 HP0 HP1 HB5 HOF
  have d0 := HO6.out.cell 0
  have d1 := HO6.out.cell 1
  have d2 := HO6.out.cell 2
  simp at d0 d1 d2
  go_wp2_with fail
  refine HOF6.out.mono ?_
  rintro e w7 ⟨rfl, hb7⟩
  have HB7 := Lib.hid (HB6.out.trans (hb7.mono HB6.out.size))
  have HO8 := Lib.hid (HO6.out.kept hb7)
  have HO78 := Lib.hid (HO76.out.kept hb7)
  have HP08 := Lib.hid (HP06.out.kept hb7)
  have HP18 := Lib.hid (HP16.out.kept hb7)
  clear d0 d1 d2 hb7 HOF6 HO6 HO76 HP06 HP16 HB6
  obtain ⟨LV, HLV⟩ : ∃ V, Hid ((if g = true then ldV vn ws else ldZ) = V) := ⟨_, Lib.hid rfl⟩
  rw [HLV.out]
  cases g with
  | false =>
    as_aux_lemma =>
    obtain rfl : LV = ldZ := HLV.out.symm
    have hgf := HGF.out rfl
    clear HGT HGF HGW HLV HP08 HP18
    obtain ⟨g11, HG11⟩ : ∃ q, Hid (w7.heap.size = q) := ⟨_, Lib.hid rfl⟩
    obtain ⟨W8, HW8⟩ : ∃ W, Hid (W = w7.alloc (.cells ldZ 33)) := ⟨_, Lib.hid rfl⟩
    have hb8 : Below w7.heap.size w7 W8 := by rw [HW8.out]; exact bel1 _ _
    have HB8 := Lib.hid (HB7.out.trans (hb8.mono HB7.out.size))
    have HO9 := Lib.hid (HO8.out.kept hb8)
    have HOL : Hid (Obj1 W8 g11 33 ldZ) := Lib.hid (by rw [HW8.out, ← HG11.out]; exact Obj1.new _ _ _)
    have HKD : Hid (∀ z : Kin W8.drew, Below w.heap.size w z.world) := Lib.hid (fun z => HB8.out.trans (((bel_drew W8).trans z.below).mono HB8.out.size))
    have X0 : ∀ z : Kin W8.drew, Obj1 z.world gb 25 #[.int .i64 md, .slice A0 n0 c0, .slice A1 n1 c1] := fun z => (HO9.out.drew).kept z.below
    have K0 : ∀ z : Kin W8.drew, z.world.cell? ⟨gb, 0, none⟩ = some (.int .i64 md) := fun z => (X0 z).cell 0
    have K1 : ∀ z : Kin W8.drew, z.world.cell? ⟨gb, 1, none⟩ = some (.slice A0 n0 c0) := fun z => (X0 z).cell 1
    have K2 : ∀ z : Kin W8.drew, z.world.cell? ⟨gb, 2, none⟩ = some (.slice A1 n1 c1) := fun z => (X0 z).cell 2
    have Y0 : ∀ z : Kin W8.drew, Obj1 z.world g11 33 ldZ := fun z => (HOL.out.drew).kept z.below
    have L0 : ∀ z : Kin W8.drew, z.world.cell? ⟨g11, 0, none⟩ = some (.int .i64 0) := fun z => (Y0 z).cell 0
    have L1 : ∀ z : Kin W8.drew, z.world.cell? ⟨g11, 1, none⟩ = some (.int .i64 0) := fun z => (Y0 z).cell 1
    have L2 : ∀ z : Kin W8.drew, z.world.cell? ⟨g11, 2, none⟩ = some (.int .i64 0) := fun z => (Y0 z).cell 2
    have L3 : ∀ z : Kin W8.drew, z.world.cell? ⟨g11, 3, none⟩ = some (.int .i64 0) := fun z => (Y0 z).cell 3
    have L4 : ∀ z : Kin W8.drew, z.world.cell? ⟨g11, 4, none⟩ = some (.int .i64 0) := fun z => (Y0 z).cell 4
    have e0 : (nB (wr0 (wrN (if false = true then ws else []))) 64 : Nat) = 0 := wr_nil0
    have e1 : clL (wr1 (wrN (if false = true then ws else []))) 64 = [] := wr_nil1
    rw [e0] at HAD
    rw [e1] at HCL
    simp only [Bool.false_eq_true, if_false] at HSN HTK HID
    clear X0 Y0 hb8 e0 e1
    have hor : (¬ cc = 0) ∨ (cc = 0 ∧ ver < 0) ∨ (cc = 0 ∧ ¬ ver < 0 ∧ 1 < ver) := by
      rcases hgf with h | h | h
      · exact .inl (fun h' => h (HCC.out.1 h'))
      · by_cases h' : cc = 0
        · exact .inr (.inl ⟨h', h⟩)
        · exact .inl h'
      · by_cases h' : cc = 0
        · by_cases h2 : ver < 0
          · exact .inr (.inl ⟨h', h2⟩)
          · exact .inr (.inr ⟨h', h2, by omega⟩)
        · exact .inl h'
    clear hgf HCC
    have HSZ : Hid (∀ W, Calls Try.prog 8 #[.agg #[.int .i64 0, .int .i64 0, .int .i64 0, .int .i64 0, .int .i64 0]] W fun e w' => e = .returned (.int .i64 0) ∧ Below W.heap.size W w') := Lib.hid (fun W => share_none W)
    have hwz : IntKind.i64.wrap 0 = 0 := IntWalk.i64_in 0 (by omega)
    unfold ldZ at *
    go_upto_region 6 with (fail)
    rw [← HW8.out, HG11.out]
    clear HW8 HG11
    rcases hor with h | ⟨rfl, h⟩ | ⟨rfl, h, h2⟩
    all_goals first | have hb : (cc == 0) = false := by simpa using h | skip
    all_goals
      go_upto_region 7 with (fail)
      refine wp_region_specL 35 [.d (.agg #[.int .i64 0, .int .i64 0, .int .i64 0, .int .i64 0, .int .i64 0]), .d (.agg #[.int .i64 0, .int .i64 0, .int .i64 0, .int .i64 0, .int .i64 0]), .d (.bool true), .d (.bool true), .d (.agg #[.int .i64 0, .int .i64 0, .int .i64 0, .int .i64 0, .int .i64 0]), .d (.int .i64 0), .d (.agg #[.int .i64 md, .slice A0 n0 c0, .slice A1 n1 c1]), .d (.int .i64 ver), .d (.int .i64 y), .d (.int .i64 0), .d (.int .i64 0), .d (.agg #[.int .i64 md, .slice A0 n0 c0, .slice A1 n1 c1]), .d (.int .i64 ver), .d (.int .i64 y), .d (.int .i64 0), .d (.int .i64 0), .d (.agg #[.int .i64 md, .slice A0 n0 c0, .slice A1 n1 c1]), .d (.int .i64 ver), .d (.int .i64 0), .d (.int .i64 0), .d (.agg #[.int .i64 md, .slice A0 n0 c0, .slice A1 n1 c1]), .d (.int .i64 ver), .g (NwI []), .d (.int .i64 0), .d (.int .i64 0), .d (.agg #[.int .i64 md, .slice A0 n0 c0, .slice A1 n1 c1]), .d (.int .i64 ver), .d (.int .i64 0), .d (.int .i64 0), .d (.bool true), .d (.bool true), .d (.bool true), .d (.bool true), .d (.bool true), .d (.bool true)] (by kernel_rfl) (by kernel_rfl) ?_
      refine spec_d rfl (fun x _ => gives_run (by go_simp)) ?_
      try simp only [Act.put, List.getElem_toArray, List.getElem_cons_succ, List.getElem_cons_zero, List.setIfInBounds_toArray, List.set_cons_zero, List.set_cons_succ]
      refine spec_d rfl (fun x _ => gives_run (by go_simp)) ?_
      try simp only [Act.put, List.getElem_toArray, List.getElem_cons_succ, List.getElem_cons_zero, List.setIfInBounds_toArray, List.set_cons_zero, List.set_cons_succ]
      refine spec_d rfl (fun x _ => gives_run (by go_simp)) ?_
      try simp only [Act.put, List.getElem_toArray, List.getElem_cons_succ, List.getElem_cons_zero, List.setIfInBounds_toArray, List.set_cons_zero, List.set_cons_succ]
      refine spec_d rfl (fun x _ => gives_run (by go_simp)) ?_
      try simp only [Act.put, List.getElem_toArray, List.getElem_cons_succ, List.getElem_cons_zero, List.setIfInBounds_toArray, List.set_cons_zero, List.set_cons_succ]
      refine spec_d rfl (fun x _ => gives_run (by go_simp)) ?_
      try simp only [Act.put, List.getElem_toArray, List.getElem_cons_succ, List.getElem_cons_zero, List.setIfInBounds_toArray, List.set_cons_zero, List.set_cons_succ]
      refine spec_d rfl (fun z _ => gives_det (by go_simp) (HSZ.out z.world)) ?_
      try simp only [Act.put, List.getElem_toArray, List.getElem_cons_succ, List.getElem_cons_zero, List.setIfInBounds_toArray, List.set_cons_zero, List.set_cons_succ]
      refine spec_d rfl (fun x _ => gives_run (by go_simp)) ?_
      try simp only [Act.put, List.getElem_toArray, List.getElem_cons_succ, List.getElem_cons_zero, List.setIfInBounds_toArray, List.set_cons_zero, List.set_cons_succ]
      refine spec_d rfl (fun x _ => gives_run (by go_simp)) ?_
      try simp only [Act.put, List.getElem_toArray, List.getElem_cons_succ, List.getElem_cons_zero, List.setIfInBounds_toArray, List.set_cons_zero, List.set_cons_succ]
      refine spec_d rfl (fun x _ => gives_run (by go_simp)) ?_
      try simp only [Act.put, List.getElem_toArray, List.getElem_cons_succ, List.getElem_cons_zero, List.setIfInBounds_toArray, List.set_cons_zero, List.set_cons_succ]
      refine spec_d rfl (fun z _ => gives_det (by go_simp) (HSN.out z.world (HKD.out z))) ?_
      try simp only [Act.put, List.getElem_toArray, List.getElem_cons_succ, List.getElem_cons_zero, List.setIfInBounds_toArray, List.set_cons_zero, List.set_cons_succ]
      refine spec_d rfl (fun x _ => gives_run (by go_simp)) ?_
      try simp only [Act.put, List.getElem_toArray, List.getElem_cons_succ, List.getElem_cons_zero, List.setIfInBounds_toArray, List.set_cons_zero, List.set_cons_succ]
      refine spec_d rfl (fun x _ => gives_run (by go_simp)) ?_
      try simp only [Act.put, List.getElem_toArray, List.getElem_cons_succ, List.getElem_cons_zero, List.setIfInBounds_toArray, List.set_cons_zero, List.set_cons_succ]
      refine spec_d rfl (fun x _ => gives_run (by go_simp)) ?_
      try simp only [Act.put, List.getElem_toArray, List.getElem_cons_succ, List.getElem_cons_zero, List.setIfInBounds_toArray, List.set_cons_zero, List.set_cons_succ]
      refine spec_d rfl (fun x _ => gives_run (by go_simp)) ?_
      try simp only [Act.put, List.getElem_toArray, List.getElem_cons_succ, List.getElem_cons_zero, List.setIfInBounds_toArray, List.set_cons_zero, List.set_cons_succ]
      refine spec_d rfl (fun z _ => gives_det (by go_simp) (HTK.out z.world (HKD.out z))) ?_
      try simp only [Act.put, List.getElem_toArray, List.getElem_cons_succ, List.getElem_cons_zero, List.setIfInBounds_toArray, List.set_cons_zero, List.set_cons_succ]
      refine spec_d rfl (fun x _ => gives_run (by go_simp)) ?_
      try simp only [Act.put, List.getElem_toArray, List.getElem_cons_succ, List.getElem_cons_zero, List.setIfInBounds_toArray, List.set_cons_zero, List.set_cons_succ]
      refine spec_d rfl (fun x _ => gives_run (by go_simp)) ?_
      try simp only [Act.put, List.getElem_toArray, List.getElem_cons_succ, List.getElem_cons_zero, List.setIfInBounds_toArray, List.set_cons_zero, List.set_cons_succ]
      refine spec_d rfl (fun x _ => gives_run (by go_simp)) ?_
      try simp only [Act.put, List.getElem_toArray, List.getElem_cons_succ, List.getElem_cons_zero, List.setIfInBounds_toArray, List.set_cons_zero, List.set_cons_succ]
      refine spec_d rfl (fun z _ => gives_det (by go_simp) (HAD.out z.world (HKD.out z))) ?_
      try simp only [Act.put, List.getElem_toArray, List.getElem_cons_succ, List.getElem_cons_zero, List.setIfInBounds_toArray, List.set_cons_zero, List.set_cons_succ]
      refine spec_d rfl (fun x _ => gives_run (by go_simp)) ?_
      try simp only [Act.put, List.getElem_toArray, List.getElem_cons_succ, List.getElem_cons_zero, List.setIfInBounds_toArray, List.set_cons_zero, List.set_cons_succ]
      refine spec_d rfl (fun x _ => gives_run (by go_simp)) ?_
      try simp only [Act.put, List.getElem_toArray, List.getElem_cons_succ, List.getElem_cons_zero, List.setIfInBounds_toArray, List.set_cons_zero, List.set_cons_succ]
      refine spec_d rfl (fun x _ => gives_run (by go_simp)) ?_
      try simp only [Act.put, List.getElem_toArray, List.getElem_cons_succ, List.getElem_cons_zero, List.setIfInBounds_toArray, List.set_cons_zero, List.set_cons_succ]
      refine spec_g (NwI.stable _) (NwI.ex0 _) rfl (fun z _ => gives_call (by go_simp) (HCL.out z.world (HKD.out z))) ?_
      rintro vc ⟨xc, CA, cd, rfl, _⟩
      try simp only [Act.put, List.getElem_toArray, List.getElem_cons_succ, List.getElem_cons_zero, List.setIfInBounds_toArray, List.set_cons_zero, List.set_cons_succ]
      refine spec_d rfl (fun x _ => gives_run (by go_simp)) ?_
      try simp only [Act.put, List.getElem_toArray, List.getElem_cons_succ, List.getElem_cons_zero, List.setIfInBounds_toArray, List.set_cons_zero, List.set_cons_succ]
      refine spec_d rfl (fun x _ => gives_run (by go_simp)) ?_
      try simp only [Act.put, List.getElem_toArray, List.getElem_cons_succ, List.getElem_cons_zero, List.setIfInBounds_toArray, List.set_cons_zero, List.set_cons_succ]
      refine spec_d rfl (fun x _ => gives_run (by go_simp)) ?_
      try simp only [Act.put, List.getElem_toArray, List.getElem_cons_succ, List.getElem_cons_zero, List.setIfInBounds_toArray, List.set_cons_zero, List.set_cons_succ]
      refine spec_d rfl (fun x _ => gives_run (by go_simp)) ?_
      try simp only [Act.put, List.getElem_toArray, List.getElem_cons_succ, List.getElem_cons_zero, List.setIfInBounds_toArray, List.set_cons_zero, List.set_cons_succ]
      refine spec_d rfl (fun z _ => gives_det (by go_simp) (HID.out z.world (HKD.out z))) ?_
      try simp only [Act.put, List.getElem_toArray, List.getElem_cons_succ, List.getElem_cons_zero, List.setIfInBounds_toArray, List.set_cons_zero, List.set_cons_succ]
      refine spec_d rfl (fun x _ => gives_run (by go_simp)) ?_
      try simp only [Act.put, List.getElem_toArray, List.getElem_cons_succ, List.getElem_cons_zero, List.setIfInBounds_toArray, List.set_cons_zero, List.set_cons_succ]
      refine spec_d rfl (fun x _ => gives_run (by go_simp)) ?_
      try simp only [Act.put, List.getElem_toArray, List.getElem_cons_succ, List.getElem_cons_zero, List.setIfInBounds_toArray, List.set_cons_zero, List.set_cons_succ]
      refine spec_d rfl (fun x _ => gives_run (by go_simp)) ?_
      try simp only [Act.put, List.getElem_toArray, List.getElem_cons_succ, List.getElem_cons_zero, List.setIfInBounds_toArray, List.set_cons_zero, List.set_cons_succ]
      refine spec_d rfl (fun x _ => gives_run (by go_simp)) ?_
      try simp only [Act.put, List.getElem_toArray, List.getElem_cons_succ, List.getElem_cons_zero, List.setIfInBounds_toArray, List.set_cons_zero, List.set_cons_succ]
      refine spec_d rfl (fun z _ => gives_det (by go_simp) (one31_any z.world)) ?_
      try simp only [Act.put, List.getElem_toArray, List.getElem_cons_succ, List.getElem_cons_zero, List.setIfInBounds_toArray, List.set_cons_zero, List.set_cons_succ]
      refine spec_d rfl (fun x _ => gives_run (by go_simp)) ?_
      try simp only [Act.put, List.getElem_toArray, List.getElem_cons_succ, List.getElem_cons_zero, List.setIfInBounds_toArray, List.set_cons_zero, List.set_cons_succ]
      refine spec_d rfl (fun x _ => gives_run (by go_simp)) ?_
      try simp only [Act.put, List.getElem_toArray, List.getElem_cons_succ, List.getElem_cons_zero, List.setIfInBounds_toArray, List.set_cons_zero, List.set_cons_succ]
      refine spec_end (fun z hz => ?_)
      clear hz
      refine wpAny_done (by kernel_rfl) ?_ _
      have HBZ := Lib.hid (HKD.out z)
      clear HKD K0 K1 K2 L0 L1 L2 L3 L4 HSN HTK HAD HCL HID
      generalize z.world = w9 at HBZ ⊢
      clear z
      go_wp2
      go_ret
      exact ⟨rfl, HBZ.out⟩
  | true =>
    as_aux_lemma =>
    obtain ⟨rfl, hpk, hgd⟩ := HGT.out rfl
    have HPK := Lib.hid hpk
    have hfr := hgd.pick hpk
    have hcc0 := HCC.out.2 hgd
    subst hcc0
    have HFW : Hid (FewW n ws) := Lib.hid (hpk.wins (HSC.out w7 HB7.out)).2.2
    have HTW : Hid (∀ x ∈ ws, x.k = 0 → twF x.fs = false ∧ twF x.ts = false) := Lib.hid (fun x hx => by
      obtain ⟨i, hi⟩ := List.mem_iff_getElem?.1 hx
      exact win_tw (hfr.2.1 i x hi))
    obtain ⟨hWw, hn60, hok⟩ := HGW.out w7 HB7.out rfl
    have HOK := Lib.hid hok
    have hv2 := hpk.lt
    obtain ⟨B, d, HBC, HBW⟩ : ∃ (B : Option Addr) (d : Nat), Hid ((#[.slice B3 n0 e3, .slice B4 n1 e4] : Array Value)[vn]? = some (.slice B n d)) ∧ Hid (WinsAt w7 B n ws) := by
      rcases hpk with ⟨rfl, _, rfl, _, rfl⟩ | ⟨rfl, _, rfl, _, rfl⟩
      · exact ⟨B3, e3, Lib.hid rfl, HP08⟩
      · exact ⟨B4, e4, Lib.hid rfl, HP18⟩
    have HLN : Hid (ws.length = n) := Lib.hid hWw.len
    obtain rfl : LV = ldV vn ws := by have := HLV.out; simpa using this.symm
    simp only [if_true] at HSN HTK HAD HCL HID
    obtain ⟨f, HFF⟩ : ∃ f, Hid (wrN ws = f) := ⟨_, Lib.hid rfl⟩
    rw [HFF.out] at HAD HCL
    obtain ⟨vW, HVW⟩ : ∃ v, Hid (ldW ws = v) := ⟨_, Lib.hid rfl⟩
    obtain ⟨vG, HVG⟩ : ∃ v, Hid (ldG ws = v) := ⟨_, Lib.hid rfl⟩
    obtain ⟨vP, HVP⟩ : ∃ v, Hid (ldP vn ws = v) := ⟨_, Lib.hid rfl⟩
    obtain ⟨vA, HVA⟩ : ∃ v, Hid (ldA vn ws = v) := ⟨_, Lib.hid rfl⟩
    obtain ⟨vR, HVR⟩ : ∃ v, Hid (ldR vn ws = v) := ⟨_, Lib.hid rfl⟩
    have HVE : Hid (vA - vW - vG - vP = vR) := Lib.hid (by rw [← HVR.out, ← HVA.out, ← HVW.out, ← HVG.out, ← HVP.out]; rfl)
    have hLVE : ldV vn ws = #[.int .i64 vW, .int .i64 vP, .int .i64 vG, .int .i64 vR, .int .i64 vA] := by unfold ldV; rw [HVW.out, HVP.out, HVG.out, HVR.out, HVA.out]
    rw [hLVE]
    have HSB1 : Hid (∀ l : List Wd, (∀ x ∈ l, x ∈ ws) → (0 ≤ sumF (kF 1 FB) l ∧ sumF (kF 1 FB) l ≤ 100 * l.length) ∧ (0 ≤ sumF (kF 2 F2) l ∧ sumF (kF 2 F2) l ≤ 2 * l.length)) := Lib.hid (fun l hl => ⟨sumF_bd (F := kF 1 FB) (B := 100) l (fun x hx => by
      unfold kF FB
      split
      · rename_i hk; have := (hok x (hl x hx)).g hk; omega
      · omega), sumF_bd (F := kF 2 F2) (B := 2) l (fun x hx => by unfold kF F2; split <;> omega)⟩)
    have HSB2 : Hid (∀ l : List Wd, (∀ x ∈ l, x ∈ ws) → l.length ≤ 60 → (0 ≤ sumF (sndW y) l ∧ sumF (sndW y) l ≤ 480) ∧ (0 ≤ sumF (tkeW y) l ∧ sumF (tkeW y) l ≤ 480)) := Lib.hid (fun l hl h60 => ⟨wF_bd sndW (.inl rfl) (fun x hx => hok x (hl x hx)) h60, wF_bd tkeW (.inr rfl) (fun x hx => hok x (hl x hx)) h60⟩)
    have HSPB : Hid (∀ s ∈ spanF vn ws, s ≤ 200) := Lib.hid hfr.2.2
    obtain ⟨g11, HG11⟩ : ∃ q, Hid (w7.heap.size = q) := ⟨_, Lib.hid rfl⟩
    obtain ⟨W8, HW8⟩ : ∃ W, Hid (W = w7.alloc (.cells #[.int .i64 vW, .int .i64 vP, .int .i64 vG, .int .i64 vR, .int .i64 vA] 33)) := ⟨_, Lib.hid rfl⟩
    have hb8 : Below w7.heap.size w7 W8 := by rw [HW8.out]; exact bel1 _ _
    have HB8 := Lib.hid (HB7.out.trans (hb8.mono HB7.out.size))
    have HKO : Hid (∀ V, Below W8.heap.size W8 V → Obj1 V gb 25 #[.int .i64 md, .slice A0 n0 c0, .slice A1 n1 c1]) := Lib.hid (fun V hV => (HO8.out.kept hb8).kept hV)
    have HKL : Hid (∀ V, Below W8.heap.size W8 V → Obj1 V g11 33 #[.int .i64 vW, .int .i64 vP, .int .i64 vG, .int .i64 vR, .int .i64 vA]) := Lib.hid (fun V hV => (show Obj1 W8 g11 _ _ by rw [HW8.out, ← HG11.out]; exact Obj1.new _ _ _).kept hV)
    have HKW : Hid (∀ V, Below W8.heap.size W8 V → WinsAt V B n ws) := Lib.hid (fun V hV => (HBW.out.kept hb8).kept hV)
    have HKB : Hid (∀ V, Below W8.heap.size W8 V → Below w.heap.size w V) := Lib.hid (fun V hV => HB8.out.trans (hV.mono HB8.out.size))
    have c7 : W8.cell? ⟨g7, vn, none⟩ = some (.slice B n d) := by rw [(HO78.out.kept hb8).cell]; exact HBC.out
    have HX8 : Hid (Below W8.heap.size W8 W8) := Lib.hid (Below.refl _ _)
    have hv0i : ¬ (vn : Int) < 0 := by omega
    have hv1i : ¬ (1 : Int) < (vn : Int) := by omega
    have hv2i : (vn : Int) < 2 := by omega
    have hv0j : (0 : Int) ≤ (vn : Int) := by omega
    have e1 : IntKind.i64.wrap (2 * (vn : Int)) = 2 * (vn : Int) := IntWalk.i64_in _ (by omega)
    have e2 : IntKind.i64.wrap (16 + 2 * (vn : Int)) = 16 + 2 * (vn : Int) := IntWalk.i64_in _ (by omega)
    have e3 : IntKind.i64.wrap (6 + 2 * (vn : Int)) = 6 + 2 * (vn : Int) := IntWalk.i64_in _ (by omega)
    clear HGT HGF HGW HLV hpk hgd hfr hWw hok HBC HBW HO78 HO8 HP08 HP18 HCC hb8 hLVE HSC HVR
    go_upto_region 6 with (fail)
    rw [← HW8.out, HG11.out]
    clear HW8 HG11
    go_wp2_with fail
    clear c7 e1 e2 e3 hv0i hv1i
    go_loopw [13, 14, 15, 16, 17, 18] (fun a q p s tt i wx => ∃ (k : Nat) (a' : Int), k ≤ n ∧ i = .int .i64 k ∧ a = .int .i64 a' ∧ Hid (20 * a' = endS (ws.take k) (leadI vn) + 120) ∧ q = .int .i64 (sumF (kF 1 FB) (ws.take k)) ∧ p = .int .i64 (sumF (kF 2 F2) (ws.take k) + (6 + 2 * (vn : Int))) ∧ s = .int .i64 (sumF (sndW y) (ws.take k)) ∧ tt = .int .i64 (sumF (tkeW y) (ws.take k)) ∧ Below W8.heap.size W8 wx) (fun _ _ _ _ _ i _ => n - (intOf i).toNat)
    case atStart => exact ⟨0, 16 + 2 * (vn : Int), by omega, rfl, rfl, Lib.hid (by show _ = leadI vn + 120; unfold leadI; omega), rfl, by simp [sumF], rfl, rfl, HX8.out⟩
    case round =>
      obtain ⟨k, a', hk, rfl, rfl, HA, rfl, rfl, rfl, rfl, hbel⟩ := hrel
      have HBEL := Lib.hid hbel
      obtain ⟨qG, HQG⟩ : ∃ v, Hid (sumF (kF 1 FB) (ws.take k) = v) := ⟨_, Lib.hid rfl⟩
      obtain ⟨qP, HQP⟩ : ∃ v, Hid (sumF (kF 2 F2) (ws.take k) + (6 + 2 * (vn : Int)) = v) := ⟨_, Lib.hid rfl⟩
      obtain ⟨S, HSS⟩ : ∃ v, Hid (sumF (sndW y) (ws.take k) = v) := ⟨_, Lib.hid rfl⟩
      obtain ⟨T, HTT⟩ : ∃ v, Hid (sumF (tkeW y) (ws.take k) = v) := ⟨_, Lib.hid rfl⟩
      by_cases hlt : k < n
      · as_aux_lemma =>
        have hki : (k : Int) < (n : Int) := by omega
        have hkl : k < ws.length := by rw [HLN.out]; exact hlt
        obtain ⟨x, hx⟩ : ∃ x, ws[k]? = some x := ⟨_, List.getElem?_eq_getElem hkl⟩
        have hmem := List.mem_of_getElem? hx
        have HXE := Lib.hid hx
        obtain ⟨bb, off, rfl, hbb, c0', c1', c2', c3', c4', c5', hxo⟩ := (HKW.out wr hbel).six hlt hx
        have hxk := HOK.out x hmem
        have hxn := HFW.out.2 x hmem
        have HTX := Lib.hid (HTW.out x hmem)
        have HNE := Lib.hid (endS_next (ver := vn) hx)
        have HNG := Lib.hid (sumF_next (kF 1 FB) hx)
        have HNP := Lib.hid (sumF_next (kF 2 F2) hx)
        have HNS := Lib.hid (sumF_next (sndW y) hx)
        have HNT := Lib.hid (sumF_next (tkeW y) hx)
        have htake : ∀ z ∈ ws.take k, z ∈ ws := fun z hz => List.mem_of_mem_take hz
        have hlk : (ws.take k).length ≤ 60 := by rw [List.length_take]; omega
        have hb1 := HSB1.out (ws.take k) htake
        have hb2 := HSB2.out (ws.take k) htake hlk
        have hb3 := endS_bd (ws.take k) (leadI vn)
        have hld : 0 ≤ leadI vn ∧ leadI vn ≤ 240 := by unfold leadI; omega
        obtain ⟨G, hG20, HBT⟩ : ∃ G : Int, 20 * G = x.tk ∧ Hid (∀ W, Calls Try.prog 15 #[.agg #[.int .i64 x.k, .int .i64 x.b, .int .i64 x.wd, .int .i64 x.ad, .slice x.A x.n x.c, .slice x.B x.m x.d]] W fun e w' => e = .returned (.int .i64 G) ∧ Below W.heap.size W w') := by
          have htk : 20 * (x.tk / 20) = x.tk := by
            unfold Wd.tk tkI
            split <;> (try split) <;> (try split) <;> omega
          refine ⟨x.tk / 20, htk, Lib.hid (fun W => (rbits_any x.k x.b x.wd x.ad x.A x.n x.c x.B x.m x.d x.g x.u x.q rfl rfl rfl (by omega) x.tk rfl W).mono (fun e w' ⟨G, he, hg, hb⟩ => ⟨by rw [he, show x.tk / 20 = G by omega], hb⟩))⟩
        have hgb := tk_bits hG20
        have HG20 := Lib.hid hG20
        have haa := HA.out
        rw [HQG.out] at hb1
        rw [HSS.out, HTT.out] at hb2
        have hqp := HQP.out
        have HSB : Hid (0 ≤ S ∧ S ≤ 480 ∧ 0 ≤ T ∧ T ≤ 480) := Lib.hid (by omega)
        have HPB : Hid (0 ≤ qG ∧ qG ≤ 6000 ∧ 0 ≤ qP ∧ qP ≤ 1000) := Lib.hid (by omega)
        have ea : IntKind.i64.wrap (a' + G) = a' + G := IntWalk.i64_in _ (by omega)
        have e0 : IntKind.i64.wrap ((k : Int) + 1) = (k : Int) + 1 := IntWalk.i64_in _ (by omega)
        have HA2 : Hid (20 * (a' + G) = endS (ws.take (k + 1)) (leadI vn) + 120) := Lib.hid (by rw [HNE.out]; omega)
        rw [HQG.out] at HNG
        rw [HSS.out] at HNS
        rw [HTT.out] at HNT
        have HNP2 : Hid (sumF (kF 2 F2) (ws.take (k + 1)) + (6 + 2 * (vn : Int)) = qP + kF 2 F2 x) := Lib.hid (by rw [HNP.out]; omega)
        have HXO := Lib.hid hxo
        rw [HQG.out, HQP.out, HSS.out, HTT.out]
        clear hb1 hb2 hb3 hld hgb hG20 haa hqp htake hlk hbb hmem hkl hbel HNP HNE HQG HQP HSS HTT HA hx
        go_upto_region 13 with (fail)
        go_wp2_with fail
        refine (HBT.out _).mono ?_
        rintro e wb ⟨rfl, hb9⟩
        have HBL := Lib.hid (HBEL.out.trans (hb9.mono HBEL.out.size))
        obtain ⟨bb', off', e', _, p0, p1, p2, p3, p4, p5, hxo2⟩ := (HKW.out wb HBL.out).six hlt HXE.out
        obtain ⟨rfl, rfl⟩ : bb' = bb ∧ off' = off := by
          injection e' with e'
          injection e' with e1 e2 _
          exact ⟨e1.symm, e2.symm⟩
        have HFL := Lib.hid hxo2.fl
        have HTL := Lib.hid hxo2.tl
        obtain ⟨xk, xb, xwd, xad, xA, xn, xc, fs, xB, xm, xd, ts⟩ := x
        simp only at p0 p1 p2 p3 p4 p5 hxn HFL HTL HTX
        have HD : Hid (xk = 0 → 1 ≤ xwd ∧ xwd ≤ 8) := Lib.hid (fun h => by have := hxk.d h; simp only at this; omega)
        have HGG : Hid (xk = 1 → 1 ≤ xb ∧ xb ≤ 100) := Lib.hid (fun h => by have := hxk.g h; simp only at this; omega)
        have hkk := hxk.k
        simp only at hkk
        have hxn1 : xn ≤ 40 := hxn.1
        have hxm1 : xm ≤ 40 := hxn.2
        clear e' hb9 HBT c0' c1' c2' c3' c4' c5' hxo2 hxk hxn p3 HXO hxo
        rcases (show xk = 0 ∨ xk = 1 ∨ xk = 2 by omega) with rfl | rfl | rfl
        · have hwd := HD.out rfl
          have HTF : Hid (twF fs = false) := Lib.hid (HTX.out rfl).1
          have HTS : Hid (twF ts = false) := Lib.hid (HTX.out rfl).2
          clear hkk hwd p1
          go_wp2_with fail
          go_loopw [16, 19] (fun s i wx => ∃ j : Nat, j ≤ xn ∧ i = .int .i64 j ∧ s = .int .i64 (S + incF y xwd fs j) ∧ wb = wx) (fun _ i _ => xn - (intOf i).toNat)
          case atStart => exact ⟨0, by omega, rfl, by simp [incF], rfl⟩
          case round =>
            obtain ⟨j, hj, rfl, rfl, rfl⟩ := hrel
            by_cases hjn : j < xn
            · have hji : (j : Int) < (xn : Int) := by omega
              obtain ⟨bf, ofs, rfl, _, hc⟩ := HFL.out.get hjn
              have hjl : j < fs.length := by have := HFL.out.1; simp at this; omega
              obtain ⟨zz, hzz⟩ : ∃ z, fs[j]? = some z := ⟨_, List.getElem?_eq_getElem hjl⟩
              have hze : (fs.map (Value.int .i64))[j]'(by simpa using hjl) = .int .i64 zz := by
                rw [List.getElem_map]
                have := List.getElem?_eq_getElem hjl
                rw [this] at hzz
                rw [Option.some.inj hzz]
              rw [hze] at hc
              have e2 : IntKind.i64.wrap ((j : Int) + 1) = (j : Int) + 1 := IntWalk.i64_in _ (by omega)
              by_cases hzy : zz = y
              · subst hzy
                have HIN := Lib.hid (inc_hit (wd := xwd) HTF.out hzz)
                have e3 : IntKind.i64.wrap (S + xwd) = S + xwd := IntWalk.i64_in _ (by have := HSB.out; have := HD.out (by first | trivial | rfl); omega)
                have HI0 := HIN.out.1
                rw [HI0, Int.add_zero]
                clear hze hzz hjl HI0
                go_wp2
                go_roundw
                case rel => exact ⟨j + 1, by omega, by go_num, by rw [HIN.out.2], by trivial⟩
                case measure => simp [intOf]; omega
              · have HIN := Lib.hid (inc_miss (wd := xwd) hzz hzy)
                have hzb : (zz == y) = false := by simpa using hzy
                obtain ⟨V, HV⟩ : ∃ V, Hid (S + incF y xwd fs j = V) := ⟨_, Lib.hid rfl⟩
                rw [HV.out]
                clear hze hzz hjl hzy
                go_wp2
                go_roundw
                case rel => exact ⟨j + 1, by omega, by go_num, by rw [HIN.out, HV.out], by trivial⟩
                case measure => simp [intOf]; omega
            · obtain rfl : xn = j := by omega
              obtain ⟨V1, HV1⟩ : ∃ V, Hid (S + incF y xwd fs xn = V) := ⟨_, Lib.hid rfl⟩
              rw [HV1.out]
              have HV1 : Hid (V1 = S + sndW y ⟨0, xb, xwd, xad, xA, xn, xc, fs, xB, xm, xd, ts⟩) := Lib.hid (by
                rw [← HV1.out, inc_all (by have := HFL.out.1; simp at this; omega)]
                unfold sndW
                simp)
              go_wp2_with fail
              go_loopw [17, 20] (fun s i wx => ∃ j : Nat, j ≤ xm ∧ i = .int .i64 j ∧ s = .int .i64 (T + incF y xwd ts j) ∧ wb = wx) (fun _ i _ => xm - (intOf i).toNat)
              case atStart => exact ⟨0, by omega, rfl, by simp [incF], rfl⟩
              case round =>
                obtain ⟨j, hj, rfl, rfl, rfl⟩ := hrel
                by_cases hjn : j < xm
                · have hji : (j : Int) < (xm : Int) := by omega
                  obtain ⟨bf, ofs, rfl, _, hc⟩ := HTL.out.get hjn
                  have hjl : j < ts.length := by have := HTL.out.1; simp at this; omega
                  obtain ⟨zz, hzz⟩ : ∃ z, ts[j]? = some z := ⟨_, List.getElem?_eq_getElem hjl⟩
                  have hze : (ts.map (Value.int .i64))[j]'(by simpa using hjl) = .int .i64 zz := by
                    rw [List.getElem_map]
                    have := List.getElem?_eq_getElem hjl
                    rw [this] at hzz
                    rw [Option.some.inj hzz]
                  rw [hze] at hc
                  have e2 : IntKind.i64.wrap ((j : Int) + 1) = (j : Int) + 1 := IntWalk.i64_in _ (by omega)
                  by_cases hzy : zz = y
                  · subst hzy
                    have HIN := Lib.hid (inc_hit (wd := xwd) HTS.out hzz)
                    have e3 : IntKind.i64.wrap (T + xwd) = T + xwd := IntWalk.i64_in _ (by have := HSB.out; have := HD.out (by first | trivial | rfl); omega)
                    have HI0 := HIN.out.1
                    rw [HI0, Int.add_zero]
                    clear hze hzz hjl HI0
                    go_wp2
                    go_roundw
                    case rel => exact ⟨j + 1, by omega, by go_num, by rw [HIN.out.2], by trivial⟩
                    case measure => simp [intOf]; omega
                  · have HIN := Lib.hid (inc_miss (wd := xwd) hzz hzy)
                    have hzb : (zz == y) = false := by simpa using hzy
                    obtain ⟨V, HV⟩ : ∃ V, Hid (T + incF y xwd ts j = V) := ⟨_, Lib.hid rfl⟩
                    rw [HV.out]
                    clear hze hzz hjl hzy
                    go_wp2
                    go_roundw
                    case rel => exact ⟨j + 1, by omega, by go_num, by rw [HIN.out, HV.out], by trivial⟩
                    case measure => simp [intOf]; omega
                · obtain rfl : xm = j := by omega
                  obtain ⟨V2, HV2⟩ : ∃ V, Hid (T + incF y xwd ts xm = V) := ⟨_, Lib.hid rfl⟩
                  rw [HV2.out]
                  have HV2 : Hid (V2 = T + tkeW y ⟨0, xb, xwd, xad, xA, xn, xc, fs, xB, xm, xd, ts⟩) := Lib.hid (by
                    rw [← HV2.out, inc_all (by have := HTL.out.1; simp at this; omega)]
                    unfold tkeW
                    simp)
                  go_wp2
                  go_roundw
                  case rel => exact ⟨k + 1, a' + G, by omega, by go_num, rfl, HA2, by rw [HNG.out]; simp [kF], by rw [HNP2.out]; simp [kF], by rw [HNS.out, HV1.out], by rw [HNT.out, HV2.out], HBL.out⟩
                  case measure => simp [intOf]; omega
        · have hgg := HGG.out rfl
          have e4 : IntKind.i64.wrap (qG + xb) = qG + xb := IntWalk.i64_in _ (by have := HPB.out; omega)
          clear hkk hgg
          go_wp2_with fail
          go_loopw [16, 19] (fun s i wx => i = .int .i64 0 ∧ s = .int .i64 S ∧ wb = wx) (fun _ i _ => 0)
          case atStart => exact ⟨rfl, rfl, rfl⟩
          case round =>
            obtain ⟨rfl, rfl, rfl⟩ := hrel
            go_wp2_with fail
            go_loopw [17, 20] (fun s i wx => i = .int .i64 0 ∧ s = .int .i64 T ∧ wb = wx) (fun _ i _ => 0)
            case atStart => exact ⟨rfl, rfl, rfl⟩
            case round =>
              obtain ⟨rfl, rfl, rfl⟩ := hrel
              go_wp2
              go_roundw
              case rel => exact ⟨k + 1, a' + G, by omega, by go_num, rfl, HA2, by rw [HNG.out]; simp [kF, FB], by rw [HNP2.out]; simp [kF], by rw [HNS.out]; simp [sndW], by rw [HNT.out]; simp [tkeW], HBL.out⟩
              case measure => simp [intOf]; omega
        · have e4 : IntKind.i64.wrap (qP + 2) = qP + 2 := IntWalk.i64_in _ (by have := HPB.out; omega)
          clear hkk p1
          go_wp2_with fail
          go_loopw [16, 19] (fun s i wx => i = .int .i64 0 ∧ s = .int .i64 S ∧ wb = wx) (fun _ i _ => 0)
          case atStart => exact ⟨rfl, rfl, rfl⟩
          case round =>
            obtain ⟨rfl, rfl, rfl⟩ := hrel
            go_wp2_with fail
            go_loopw [17, 20] (fun s i wx => i = .int .i64 0 ∧ s = .int .i64 T ∧ wb = wx) (fun _ i _ => 0)
            case atStart => exact ⟨rfl, rfl, rfl⟩
            case round =>
              obtain ⟨rfl, rfl, rfl⟩ := hrel
              go_wp2
              go_roundw
              case rel => exact ⟨k + 1, a' + G, by omega, by go_num, rfl, HA2, by rw [HNG.out]; simp [kF], by rw [HNP2.out]; simp [kF, F2], by rw [HNS.out]; simp [sndW], by rw [HNT.out]; simp [tkeW], HBL.out⟩
              case measure => simp [intOf]; omega
      · as_aux_lemma =>
        have hke : k = n := by omega
        subst hke
        have HTE : Hid (ws.take k = ws) := Lib.hid (List.take_of_length_le (by rw [HLN.out]; exact Nat.le_refl _))
        rw [HTE.out] at HA HQG HQP HSS HTT
        obtain rfl : a' = vA := by
          have h1 := HA.out
          have h2 := HVA.out
          unfold ldA at h2
          omega
        obtain rfl : qG = vG := HQG.out.symm.trans HVG.out
        obtain rfl : qP = vP := by
          have h1 := HQP.out
          have h2 := HVP.out
          unfold ldP at h2
          omega
        rw [HTE.out, HQG.out, HQP.out, HSS.out, HTT.out]
        have hb1 := (HSB1.out ws (fun x h => h)).1
        have hb1' := (HSB1.out ws (fun x h => h)).2
        have hb2 := HSB2.out ws (fun x h => h) (by rw [HLN.out]; omega)
        have hb3 := endS_bd ws (leadI vn)
        have hbW := sumF_bd (F := kF 0 F8) (B := 64) ws (fun x hx => by
          unfold kF F8
          split
          · rename_i hk'; have := (HOK.out x hx).d hk'; omega
          · omega)
        have hld : 200 ≤ leadI vn ∧ leadI vn ≤ 240 := by unfold leadI; omega
        have hla := HA.out
        rw [HQG.out] at hb1
        rw [HSS.out, HTT.out] at hb2
        rw [show sumF (kF 0 F8) ws = ldW ws from rfl, HVW.out] at hbW
        have hqp := HQP.out
        have hll := HLN.out
        have HBB : Hid ((0 ≤ qG ∧ qG ≤ 6000) ∧ (0 ≤ qP ∧ qP ≤ 1000) ∧ (0 ≤ S ∧ S ≤ 480) ∧ (0 ≤ T ∧ T ≤ 480) ∧ (0 ≤ vW ∧ vW ≤ 4000) ∧ (0 < a' ∧ a' ≤ 100000)) := Lib.hid (by omega)
        rw [HSS.out] at HSN
        rw [HTT.out] at HTK
        have HOG := HKO.out wr hbel
        have q0 := HOG.cell 0
        have q1 := HOG.cell 1
        have q2 := HOG.cell 2
        simp at q0 q1 q2
        have HCLr := Lib.hid (HCL.out wr (HKB.out wr hbel))
        obtain ⟨CL, HCLE⟩ : ∃ l, Hid (clL (wr1 f) 64 = l) := ⟨_, Lib.hid rfl⟩
        have HCAT : Hid (∀ m, m < 64 → wr1 f m = true → CL[(clL (wr1 f) m).length]? = some (m : Int)) := Lib.hid (fun m hm h => by rw [← HCLE.out]; exact cl_at _ h 64 hm)
        rw [HCLE.out] at HCLr
        clear hb1 hb1' hb2 hb3 hbW hld hla hqp hll HOG hbel HA HQG HQP HSS HTT HSB1 HSB2 HTW HFW HVG HVP HVA hlt hk HCL
        go_wp2_with fail
        refine HCLr.out.mono ?_
        rintro e wc ⟨vc, rfl, hbc, CA, cc, rfl, hcl⟩
        have HBC := Lib.hid (HBEL.out.trans (hbc.mono HBEL.out.size))
        have HCV : Hid (∀ V, Below wc.heap.size wc V → Lst V CA CL.length (inV CL)) := Lib.hid (fun V hV => hcl.kept hV)
        obtain ⟨M, HM⟩ : ∃ m, Hid (CL.length = m) := ⟨_, Lib.hid rfl⟩
        rw [HM.out] at HCV ⊢
        have HM64 : Hid (M ≤ 64) := Lib.hid (by rw [← HM.out, ← HCLE.out]; exact clL_len _ 64)
        have HXC : Hid (Below wc.heap.size wc wc) := Lib.hid (Below.refl _ _)
        have HKC : Hid (∀ V, Below wc.heap.size wc V → Below W8.heap.size W8 V) := Lib.hid (fun V hV => HBC.out.trans (hV.mono HBC.out.size))
        clear hbc hcl HCLr q0 q1 q2 HBEL
        go_wp2_with fail
        go_loopw [21, 22, 24] (fun a q i wx => ∃ k : Nat, k ≤ 64 ∧ i = .int .i64 k ∧ a = .int .i64 (nB (wr0 f) k : Nat) ∧ q = .int .i64 ((clL (wr1 f) k).length : Nat) ∧ Below wc.heap.size wc wx) (fun _ _ i _ => 64 - (intOf i).toNat)
        case atStart => exact ⟨0, by omega, rfl, rfl, rfl, HXC.out⟩
        case round =>
          obtain ⟨k', hk', rfl, rfl, rfl, hb4⟩ := hrel
          have HB4 := Lib.hid hb4
          by_cases h64 : k' < 64
          · as_aux_lemma =>
            have h64i : (k' : Int) < 64 := by omega
            have HRW := Lib.hid (rwrites_any B k d ws k' wr (HKW.out _ (HKC.out _ hb4)) (by omega) h64 HOK.out)
            rw [HFF.out] at HRW
            obtain ⟨v, HV⟩ : ∃ v, Hid (f k' = v) := ⟨_, Lib.hid rfl⟩
            rw [HV.out] at HRW
            have HN0 : Hid (nB (wr0 f) (k' + 1) = nB (wr0 f) k' + (if decide (0 < v) = true then 1 else 0)) := Lib.hid (by rw [← HV.out]; rfl)
            have HN1 : Hid ((clL (wr1 f) (k' + 1)).length = (clL (wr1 f) k').length + (if decide (1 < v) = true then 1 else 0)) := Lib.hid (by
              rw [clL_next, List.length_append, ← HV.out]
              unfold wr1
              split <;> simp)
            have HAT := Lib.hid (HCAT.out k' h64)
            have hl0 := nB_le (wr0 f) k'
            have hl1 := clL_len (wr1 f) k'
            obtain ⟨N0, hN0⟩ : ∃ v, nB (wr0 f) k' = v := ⟨_, rfl⟩
            obtain ⟨N1, hN1⟩ : ∃ v, (clL (wr1 f) k').length = v := ⟨_, rfl⟩
            rw [hN0] at HN0 hl0 ⊢
            rw [hN1] at HN1 hl1 HAT ⊢
            have e1 : IntKind.i64.wrap ((k' : Int) + 1) = (k' : Int) + 1 := IntWalk.i64_in _ (by omega)
            have e2 : IntKind.i64.wrap ((N0 : Int) + 1) = (N0 : Int) + 1 := IntWalk.i64_in _ (by omega)
            have e3 : IntKind.i64.wrap ((N1 : Int) + 1) = (N1 : Int) + 1 := IntWalk.i64_in _ (by omega)
            clear hN0 hN1 hb4 hl0 hl1
            go_wp2_with fail
            refine HRW.out.mono ?_
            rintro e w5 ⟨rfl, hb5⟩
            have HB5 := Lib.hid (HB4.out.trans (hb5.mono HB4.out.size))
            clear hb5 HRW
            rcases (show v = 0 ∨ v = 1 ∨ 1 < v by omega) with rfl | rfl | hv1
            · go_wp2
              go_roundw
              case rel => exact ⟨k' + 1, by omega, by go_num, by rw [HN0.out]; simp, by rw [HN1.out]; simp, HB5.out⟩
              case measure => simp [intOf]; omega
            · go_wp2
              go_roundw
              case rel => exact ⟨k' + 1, by omega, by go_num, by rw [HN0.out]; simp, by rw [HN1.out]; simp, HB5.out⟩
              case measure => simp [intOf]; omega
            · have hv0 : 0 < v := by omega
              have hv0i : (0 : Int) < (v : Int) := by omega
              have hv1i : (1 : Int) < (v : Int) := by omega
              have hat := HAT.out (by unfold wr1; rw [HV.out]; exact decide_eq_true hv1)
              have hNM : N1 < M := by rw [← HM.out]; exact (List.getElem?_eq_some_iff.1 hat).1
              have hNMi : (N1 : Int) < (M : Int) := by omega
              obtain ⟨bc, oc, rfl, _, hcc⟩ := (HCV.out w5 HB5.out).get hNM
              have hxe : (inV CL)[N1]'(by simp [inV, HM.out]; exact hNM) = .int .i64 (k' : Int) := by
                unfold inV
                rw [List.getElem_map]
                have := List.getElem?_eq_getElem (l := CL) (i := N1) (by rw [HM.out]; exact hNM)
                rw [this] at hat
                rw [Option.some.inj hat]
              rw [hxe] at hcc
              have HN0' : Hid (nB (wr0 f) (k' + 1) = N0 + 1) := Lib.hid (by rw [HN0.out, if_pos (decide_eq_true hv0)])
              have HN1' : Hid ((clL (wr1 f) (k' + 1)).length = N1 + 1) := Lib.hid (by rw [HN1.out, if_pos (decide_eq_true hv1)])
              clear hat hxe hv0 hv1
              go_wp2
              go_roundw
              case rel => exact ⟨k' + 1, by omega, by go_num, by rw [HN0'.out]; simp, by rw [HN1'.out]; simp, HB5.out⟩
              case measure => simp [intOf]; omega
          · as_aux_lemma =>
            have hke : k' = 64 := by omega
            subst hke
            obtain ⟨N0, HN0⟩ : ∃ v, Hid (nB (wr0 f) 64 = v) := ⟨_, Lib.hid rfl⟩
            rw [HCLE.out, HM.out, HN0.out]
            rw [HN0.out] at HAD
            have HSPC := Lib.hid (rspans_any B k d vn ws wr hv2 (HKW.out _ (HKC.out _ hb4)) (by omega))
            have HWL : Hid (ws.length ≤ 60) := Lib.hid (by rw [HLN.out]; exact hn60)
            clear hb4 h64 hk'
            go_wp2_with fail
            refine HSPC.out.mono ?_
            rintro e ws' ⟨vs, rfl, hos, hbs⟩
            have HBS := Lib.hid (HB4.out.trans (hbs.out.mono HB4.out.size))
            obtain ⟨SA, sc, rfl, _, hls⟩ := row_lst hos.out
            obtain ⟨SP, HSP⟩ : ∃ l, Hid (spanF vn ws = l) := ⟨_, Lib.hid rfl⟩
            rw [HSP.out] at hls HID HSPB ⊢
            have HSV : Hid (∀ V, Below ws'.heap.size ws' V → Lst V SA SP.length (inV SP)) := Lib.hid (fun V hV => hls.kept hV)
            obtain ⟨NS, HNS⟩ : ∃ m, Hid (SP.length = m) := ⟨_, Lib.hid rfl⟩
            rw [HNS.out] at HSV ⊢
            have hns : NS ≤ 100 := by
              have h := (PS_all vn ws ws.length).1
              have h2 := HWL.out
              rw [← HNS.out, ← HSP.out]; unfold spanF; simp; omega
            have HXS : Hid (Below ws'.heap.size ws' ws') := Lib.hid (Below.refl _ _)
            have HKS : Hid (∀ V, Below ws'.heap.size ws' V → Below W8.heap.size W8 V) := Lib.hid (fun V hV => HKC.out V (HBS.out.trans (hV.mono HBS.out.size)))
            clear hbs hos hls HSPC HSP HB4 HBS
            go_wp2_with fail
            go_loopw [26, 28] (fun a i wx => ∃ j : Nat, j ≤ NS ∧ i = .int .i64 j ∧ a = .int .i64 ((SP.take j).foldl max 0) ∧ Below ws'.heap.size ws' wx) (fun _ i _ => NS - (intOf i).toNat)
            case atStart => exact ⟨0, by omega, rfl, rfl, HXS.out⟩
            case round =>
              obtain ⟨j, hj, rfl, rfl, hb5⟩ := hrel
              have HB5 := Lib.hid hb5
              by_cases hjn : j < NS
              · have hji : (j : Int) < (NS : Int) := by omega
                have hjl : j < SP.length := by rw [HNS.out]; exact hjn
                obtain ⟨z, hz⟩ : ∃ z, SP[j]? = some z := ⟨_, List.getElem?_eq_getElem hjl⟩
                obtain ⟨bs, os, rfl, _, hcs⟩ := (HSV.out wr hb5).get hjn
                have hze : (inV SP)[j]'(by simpa [inV] using hjl) = .int .i64 z := by
                  unfold inV
                  rw [List.getElem_map]
                  have := List.getElem?_eq_getElem hjl
                  rw [this] at hz
                  rw [Option.some.inj hz]
                rw [hze] at hcs
                have HFN := Lib.hid (fold_next hz)
                obtain ⟨P, HP⟩ : ∃ v, Hid ((SP.take j).foldl max 0 = v) := ⟨_, Lib.hid rfl⟩
                rw [HP.out] at HFN ⊢
                have e1 : IntKind.i64.wrap ((j : Int) + 1) = (j : Int) + 1 := IntWalk.i64_in _ (by omega)
                clear hze hz hjl hb5
                go_wp2
                all_goals
                  go_roundw
                  case rel => exact ⟨j + 1, by omega, by go_num, by rw [HFN.out]; congr 1; omega, HB5.out⟩
                  case measure => simp [intOf]; omega
              · have hje : j = NS := by omega
                subst hje
                have HTA : Hid (SP.take j = SP) := Lib.hid (List.take_of_length_le (by rw [HNS.out]; exact Nat.le_refl _))
                rw [HTA.out, show SP.foldl max 0 = mx0 SP from rfl]
                have hmx : mx0 SP ≤ 200 ∧ 0 ≤ mx0 SP := by
                  rcases mx0_mem SP 0 with h | h
                  · have : mx0 SP = 0 := h
                    omega
                  · exact ⟨HSPB.out _ h, (mx0_ge SP 0).1⟩
                obtain ⟨X, HX⟩ : ∃ v, Hid (mx0 SP = v) := ⟨_, Lib.hid rfl⟩
                rw [HX.out] at hmx HID ⊢
                have HRWD := Lib.hid (rwords_any B k d ws wr (HKW.out _ (HKS.out _ hb5)) (by omega) HOK.out)
                rw [HVW.out] at HRWD
                clear hb5 hj hjn
                go_wp2_with fail
                refine HRWD.out.mono ?_
                rintro e w9 ⟨rfl, hb9⟩
                have HB9 := Lib.hid (HB5.out.trans (hb9.mono HB5.out.size))
                have HKD : Hid (∀ z : Kin w9.drew, Below w.heap.size w z.world) := Lib.hid (fun z => HKB.out _ (HKS.out _ (HB9.out.trans (((bel_drew w9).trans z.below).mono HB9.out.size))))
                have X0 : ∀ z : Kin w9.drew, Obj1 z.world gb 25 #[.int .i64 md, .slice A0 n0 c0, .slice A1 n1 c1] := fun z => HKO.out _ (HKS.out _ (HB9.out.trans (((bel_drew w9).trans z.below).mono HB9.out.size)))
                have K0 : ∀ z : Kin w9.drew, z.world.cell? ⟨gb, 0, none⟩ = some (.int .i64 md) := fun z => (X0 z).cell 0
                have K1 : ∀ z : Kin w9.drew, z.world.cell? ⟨gb, 1, none⟩ = some (.slice A0 n0 c0) := fun z => (X0 z).cell 1
                have K2 : ∀ z : Kin w9.drew, z.world.cell? ⟨gb, 2, none⟩ = some (.slice A1 n1 c1) := fun z => (X0 z).cell 2
                have Y0 : ∀ z : Kin w9.drew, Obj1 z.world g11 33 #[.int .i64 vW, .int .i64 qP, .int .i64 qG, .int .i64 vR, .int .i64 a'] := fun z => HKL.out _ (HKS.out _ (HB9.out.trans (((bel_drew w9).trans z.below).mono HB9.out.size)))
                have L0 : ∀ z : Kin w9.drew, z.world.cell? ⟨g11, 0, none⟩ = some (.int .i64 vW) := fun z => (Y0 z).cell 0
                have L1 : ∀ z : Kin w9.drew, z.world.cell? ⟨g11, 1, none⟩ = some (.int .i64 qP) := fun z => (Y0 z).cell 1
                have L2 : ∀ z : Kin w9.drew, z.world.cell? ⟨g11, 2, none⟩ = some (.int .i64 qG) := fun z => (Y0 z).cell 2
                have L3 : ∀ z : Kin w9.drew, z.world.cell? ⟨g11, 3, none⟩ = some (.int .i64 vR) := fun z => (Y0 z).cell 3
                have L4 : ∀ z : Kin w9.drew, z.world.cell? ⟨g11, 4, none⟩ = some (.int .i64 a') := fun z => (Y0 z).cell 4
                obtain ⟨⟨bG0, bG1⟩, ⟨bP0, bP1⟩, ⟨bS0, bS1⟩, ⟨bT0, bT1⟩, ⟨bW0, bW1⟩, ⟨bA0, bA1⟩⟩ := HBB.out
                have hve := HVE.out
                have HSH := Lib.hid (fun W => share_any vW qP qG vR a' bA0 bW0 (by omega) W)
                have e1 : IntKind.i64.wrap (a' - vW) = a' - vW := IntWalk.i64_in _ (by omega)
                have e2 : IntKind.i64.wrap (a' - vW - qP) = a' - vW - qP := IntWalk.i64_in _ (by omega)
                have e3 : IntKind.i64.wrap (a' - vW - qP - qG) = vR := by rw [IntWalk.i64_in _ (by omega)]; omega
                have e4 : IntKind.i64.wrap (1000 * vW) = 1000 * vW := IntWalk.i64_in _ (by omega)
                have hq0 : 0 ≤ 1000 * vW / a' := Int.ediv_nonneg (by omega) (by omega)
                have hq1 : 1000 * vW / a' ≤ 1000 * vW := Int.ediv_le_self _ (by omega)
                have e5 : (1000 * vW).tdiv a' = 1000 * vW / a' := Int.tdiv_eq_ediv_of_nonneg (by omega)
                obtain ⟨Q, hQ⟩ : ∃ q, 1000 * vW / a' = q := ⟨_, rfl⟩
                rw [hQ] at e5 hq0 hq1 HSH
                have e6 : wrap64 Q = Q := IntWalk.wrap64_in Q (by omega)
                have e7 : IntKind.i64.wrap Q = Q := IntWalk.i64_in Q (by omega)
                have e8 : IntKind.i64.wrap (200 - X) = 200 - X := IntWalk.i64_in _ (by omega)
                have e9 : (a' == 0) = false := by simp; omega
                have e10 : ¬ a' = 0 := by omega
                clear bG0 bG1 bP0 bP1 bS0 bS1 bT0 bT1 bW0 bW1 bA0 bA1 hve hq0 hq1 hQ hmx X0 Y0 hb9 HRWD
                go_upto_region 47 with (fail)
                refine wp_region_specL 64 [.d (.agg #[.int .i64 vW, .int .i64 qP, .int .i64 qG, .int .i64 vR, .int .i64 a']), .d (.int .i64 vW), .d (.int .i64 qP), .d (.int .i64 qG), .d (.int .i64 a'), .d (.int .i64 vW), .d (.int .i64 (a' - vW)), .d (.int .i64 qP), .d (.int .i64 (a' - vW - qP)), .d (.int .i64 qG), .d (.int .i64 vR), .d (.int .i64 a'), .d (.agg #[.int .i64 vW, .int .i64 qP, .int .i64 qG, .int .i64 vR, .int .i64 a']), .d (.bool true), .d (.bool true), .d (.agg #[.int .i64 vW, .int .i64 qP, .int .i64 qG, .int .i64 vR, .int .i64 a']), .d (.int .i64 Q), .d (.int .i64 vW), .d (.int .i64 (1000 * vW)), .d (.int .i64 a'), .d (.int .i64 Q), .d (.bool true), .d (.bool true), .d (.bool true), .d (.agg #[.int .i64 md, .slice A0 n0 c0, .slice A1 n1 c1]), .d (.int .i64 vn), .d (.int .i64 y), .d (.int .i64 S), .d (.int .i64 S), .d (.bool true), .d (.bool true), .d (.bool true), .d (.agg #[.int .i64 md, .slice A0 n0 c0, .slice A1 n1 c1]), .d (.int .i64 vn), .d (.int .i64 y), .d (.int .i64 T), .d (.int .i64 T), .d (.bool true), .d (.bool true), .d (.bool true), .d (.agg #[.int .i64 md, .slice A0 n0 c0, .slice A1 n1 c1]), .d (.int .i64 vn), .d (.int .i64 N0), .d (.int .i64 N0), .d (.bool true), .d (.bool true), .d (.bool true), .d (.int .i64 M), .d (.slice CA M cc), .d (.int .i64 M), .d (.bool true), .d (.bool true), .d (.bool true), .d (.agg #[.int .i64 md, .slice A0 n0 c0, .slice A1 n1 c1]), .d (.int .i64 vn), .d (.int .i64 (200 - X)), .d (.int .i64 X), .d (.int .i64 (200 - X)), .d (.bool true), .d (.bool true), .d (.bool true), .d (.bool true), .d (.bool true), .d (.bool true)] (by kernel_rfl) (by kernel_rfl) ?_
                refine spec_d rfl (fun x _ => gives_run (by go_simp)) ?_
                try simp only [Act.put, List.getElem_toArray, List.getElem_cons_succ, List.getElem_cons_zero, List.setIfInBounds_toArray, List.set_cons_zero, List.set_cons_succ]
                refine spec_d rfl (fun x _ => gives_run (by go_simp)) ?_
                try simp only [Act.put, List.getElem_toArray, List.getElem_cons_succ, List.getElem_cons_zero, List.setIfInBounds_toArray, List.set_cons_zero, List.set_cons_succ]
                refine spec_d rfl (fun x _ => gives_run (by go_simp)) ?_
                try simp only [Act.put, List.getElem_toArray, List.getElem_cons_succ, List.getElem_cons_zero, List.setIfInBounds_toArray, List.set_cons_zero, List.set_cons_succ]
                refine spec_d rfl (fun x _ => gives_run (by go_simp)) ?_
                try simp only [Act.put, List.getElem_toArray, List.getElem_cons_succ, List.getElem_cons_zero, List.setIfInBounds_toArray, List.set_cons_zero, List.set_cons_succ]
                refine spec_d rfl (fun x _ => gives_run (by go_simp)) ?_
                try simp only [Act.put, List.getElem_toArray, List.getElem_cons_succ, List.getElem_cons_zero, List.setIfInBounds_toArray, List.set_cons_zero, List.set_cons_succ]
                refine spec_d rfl (fun x _ => gives_run (by go_simp)) ?_
                try simp only [Act.put, List.getElem_toArray, List.getElem_cons_succ, List.getElem_cons_zero, List.setIfInBounds_toArray, List.set_cons_zero, List.set_cons_succ]
                refine spec_d rfl (fun x _ => gives_run (by go_simp)) ?_
                try simp only [Act.put, List.getElem_toArray, List.getElem_cons_succ, List.getElem_cons_zero, List.setIfInBounds_toArray, List.set_cons_zero, List.set_cons_succ]
                refine spec_d rfl (fun x _ => gives_run (by go_simp)) ?_
                try simp only [Act.put, List.getElem_toArray, List.getElem_cons_succ, List.getElem_cons_zero, List.setIfInBounds_toArray, List.set_cons_zero, List.set_cons_succ]
                refine spec_d rfl (fun x _ => gives_run (by go_simp)) ?_
                try simp only [Act.put, List.getElem_toArray, List.getElem_cons_succ, List.getElem_cons_zero, List.setIfInBounds_toArray, List.set_cons_zero, List.set_cons_succ]
                refine spec_d rfl (fun x _ => gives_run (by go_simp)) ?_
                try simp only [Act.put, List.getElem_toArray, List.getElem_cons_succ, List.getElem_cons_zero, List.setIfInBounds_toArray, List.set_cons_zero, List.set_cons_succ]
                refine spec_d rfl (fun x _ => gives_run (by go_simp)) ?_
                try simp only [Act.put, List.getElem_toArray, List.getElem_cons_succ, List.getElem_cons_zero, List.setIfInBounds_toArray, List.set_cons_zero, List.set_cons_succ]
                refine spec_d rfl (fun x _ => gives_run (by go_simp)) ?_
                try simp only [Act.put, List.getElem_toArray, List.getElem_cons_succ, List.getElem_cons_zero, List.setIfInBounds_toArray, List.set_cons_zero, List.set_cons_succ]
                refine spec_d rfl (fun x _ => gives_run (by go_simp)) ?_
                try simp only [Act.put, List.getElem_toArray, List.getElem_cons_succ, List.getElem_cons_zero, List.setIfInBounds_toArray, List.set_cons_zero, List.set_cons_succ]
                refine spec_d rfl (fun x _ => gives_run (by go_simp)) ?_
                try simp only [Act.put, List.getElem_toArray, List.getElem_cons_succ, List.getElem_cons_zero, List.setIfInBounds_toArray, List.set_cons_zero, List.set_cons_succ]
                refine spec_d rfl (fun x _ => gives_run (by go_simp)) ?_
                try simp only [Act.put, List.getElem_toArray, List.getElem_cons_succ, List.getElem_cons_zero, List.setIfInBounds_toArray, List.set_cons_zero, List.set_cons_succ]
                refine spec_d rfl (fun x _ => gives_run (by go_simp)) ?_
                try simp only [Act.put, List.getElem_toArray, List.getElem_cons_succ, List.getElem_cons_zero, List.setIfInBounds_toArray, List.set_cons_zero, List.set_cons_succ]
                refine spec_d rfl (fun z _ => gives_det (by go_simp) (HSH.out z.world)) ?_
                try simp only [Act.put, List.getElem_toArray, List.getElem_cons_succ, List.getElem_cons_zero, List.setIfInBounds_toArray, List.set_cons_zero, List.set_cons_succ]
                refine spec_d rfl (fun x _ => gives_run (by go_simp)) ?_
                try simp only [Act.put, List.getElem_toArray, List.getElem_cons_succ, List.getElem_cons_zero, List.setIfInBounds_toArray, List.set_cons_zero, List.set_cons_succ]
                refine spec_d rfl (fun x _ => gives_run (by go_simp)) ?_
                try simp only [Act.put, List.getElem_toArray, List.getElem_cons_succ, List.getElem_cons_zero, List.setIfInBounds_toArray, List.set_cons_zero, List.set_cons_succ]
                refine spec_d rfl (fun x _ => gives_run (by go_simp)) ?_
                try simp only [Act.put, List.getElem_toArray, List.getElem_cons_succ, List.getElem_cons_zero, List.setIfInBounds_toArray, List.set_cons_zero, List.set_cons_succ]
                refine spec_d rfl (fun x _ => gives_run (by go_simp)) ?_
                try simp only [Act.put, List.getElem_toArray, List.getElem_cons_succ, List.getElem_cons_zero, List.setIfInBounds_toArray, List.set_cons_zero, List.set_cons_succ]
                refine spec_d rfl (fun x _ => gives_run (by go_simp)) ?_
                try simp only [Act.put, List.getElem_toArray, List.getElem_cons_succ, List.getElem_cons_zero, List.setIfInBounds_toArray, List.set_cons_zero, List.set_cons_succ]
                refine spec_d rfl (fun x _ => gives_run (by go_simp)) ?_
                try simp only [Act.put, List.getElem_toArray, List.getElem_cons_succ, List.getElem_cons_zero, List.setIfInBounds_toArray, List.set_cons_zero, List.set_cons_succ]
                refine spec_d rfl (fun x _ => gives_run (by go_simp)) ?_
                try simp only [Act.put, List.getElem_toArray, List.getElem_cons_succ, List.getElem_cons_zero, List.setIfInBounds_toArray, List.set_cons_zero, List.set_cons_succ]
                refine spec_d rfl (fun x _ => gives_run (by go_simp)) ?_
                try simp only [Act.put, List.getElem_toArray, List.getElem_cons_succ, List.getElem_cons_zero, List.setIfInBounds_toArray, List.set_cons_zero, List.set_cons_succ]
                refine spec_d rfl (fun x _ => gives_run (by go_simp)) ?_
                try simp only [Act.put, List.getElem_toArray, List.getElem_cons_succ, List.getElem_cons_zero, List.setIfInBounds_toArray, List.set_cons_zero, List.set_cons_succ]
                refine spec_d rfl (fun x _ => gives_run (by go_simp)) ?_
                try simp only [Act.put, List.getElem_toArray, List.getElem_cons_succ, List.getElem_cons_zero, List.setIfInBounds_toArray, List.set_cons_zero, List.set_cons_succ]
                refine spec_d rfl (fun z _ => gives_det (by go_simp) (HSN.out z.world (HKD.out z))) ?_
                try simp only [Act.put, List.getElem_toArray, List.getElem_cons_succ, List.getElem_cons_zero, List.setIfInBounds_toArray, List.set_cons_zero, List.set_cons_succ]
                refine spec_d rfl (fun x _ => gives_run (by go_simp)) ?_
                try simp only [Act.put, List.getElem_toArray, List.getElem_cons_succ, List.getElem_cons_zero, List.setIfInBounds_toArray, List.set_cons_zero, List.set_cons_succ]
                refine spec_d rfl (fun x _ => gives_run (by go_simp)) ?_
                try simp only [Act.put, List.getElem_toArray, List.getElem_cons_succ, List.getElem_cons_zero, List.setIfInBounds_toArray, List.set_cons_zero, List.set_cons_succ]
                refine spec_d rfl (fun x _ => gives_run (by go_simp)) ?_
                try simp only [Act.put, List.getElem_toArray, List.getElem_cons_succ, List.getElem_cons_zero, List.setIfInBounds_toArray, List.set_cons_zero, List.set_cons_succ]
                refine spec_d rfl (fun x _ => gives_run (by go_simp)) ?_
                try simp only [Act.put, List.getElem_toArray, List.getElem_cons_succ, List.getElem_cons_zero, List.setIfInBounds_toArray, List.set_cons_zero, List.set_cons_succ]
                refine spec_d rfl (fun x _ => gives_run (by go_simp)) ?_
                try simp only [Act.put, List.getElem_toArray, List.getElem_cons_succ, List.getElem_cons_zero, List.setIfInBounds_toArray, List.set_cons_zero, List.set_cons_succ]
                refine spec_d rfl (fun x _ => gives_run (by go_simp)) ?_
                try simp only [Act.put, List.getElem_toArray, List.getElem_cons_succ, List.getElem_cons_zero, List.setIfInBounds_toArray, List.set_cons_zero, List.set_cons_succ]
                refine spec_d rfl (fun x _ => gives_run (by go_simp)) ?_
                try simp only [Act.put, List.getElem_toArray, List.getElem_cons_succ, List.getElem_cons_zero, List.setIfInBounds_toArray, List.set_cons_zero, List.set_cons_succ]
                refine spec_d rfl (fun z _ => gives_det (by go_simp) (HTK.out z.world (HKD.out z))) ?_
                try simp only [Act.put, List.getElem_toArray, List.getElem_cons_succ, List.getElem_cons_zero, List.setIfInBounds_toArray, List.set_cons_zero, List.set_cons_succ]
                refine spec_d rfl (fun x _ => gives_run (by go_simp)) ?_
                try simp only [Act.put, List.getElem_toArray, List.getElem_cons_succ, List.getElem_cons_zero, List.setIfInBounds_toArray, List.set_cons_zero, List.set_cons_succ]
                refine spec_d rfl (fun x _ => gives_run (by go_simp)) ?_
                try simp only [Act.put, List.getElem_toArray, List.getElem_cons_succ, List.getElem_cons_zero, List.setIfInBounds_toArray, List.set_cons_zero, List.set_cons_succ]
                refine spec_d rfl (fun x _ => gives_run (by go_simp)) ?_
                try simp only [Act.put, List.getElem_toArray, List.getElem_cons_succ, List.getElem_cons_zero, List.setIfInBounds_toArray, List.set_cons_zero, List.set_cons_succ]
                refine spec_d rfl (fun x _ => gives_run (by go_simp)) ?_
                try simp only [Act.put, List.getElem_toArray, List.getElem_cons_succ, List.getElem_cons_zero, List.setIfInBounds_toArray, List.set_cons_zero, List.set_cons_succ]
                refine spec_d rfl (fun x _ => gives_run (by go_simp)) ?_
                try simp only [Act.put, List.getElem_toArray, List.getElem_cons_succ, List.getElem_cons_zero, List.setIfInBounds_toArray, List.set_cons_zero, List.set_cons_succ]
                refine spec_d rfl (fun x _ => gives_run (by go_simp)) ?_
                try simp only [Act.put, List.getElem_toArray, List.getElem_cons_succ, List.getElem_cons_zero, List.setIfInBounds_toArray, List.set_cons_zero, List.set_cons_succ]
                refine spec_d rfl (fun z _ => gives_det (by go_simp) (HAD.out z.world (HKD.out z))) ?_
                try simp only [Act.put, List.getElem_toArray, List.getElem_cons_succ, List.getElem_cons_zero, List.setIfInBounds_toArray, List.set_cons_zero, List.set_cons_succ]
                refine spec_d rfl (fun x _ => gives_run (by go_simp)) ?_
                try simp only [Act.put, List.getElem_toArray, List.getElem_cons_succ, List.getElem_cons_zero, List.setIfInBounds_toArray, List.set_cons_zero, List.set_cons_succ]
                refine spec_d rfl (fun x _ => gives_run (by go_simp)) ?_
                try simp only [Act.put, List.getElem_toArray, List.getElem_cons_succ, List.getElem_cons_zero, List.setIfInBounds_toArray, List.set_cons_zero, List.set_cons_succ]
                refine spec_d rfl (fun x _ => gives_run (by go_simp)) ?_
                try simp only [Act.put, List.getElem_toArray, List.getElem_cons_succ, List.getElem_cons_zero, List.setIfInBounds_toArray, List.set_cons_zero, List.set_cons_succ]
                refine spec_d rfl (fun x _ => gives_run (by go_simp)) ?_
                try simp only [Act.put, List.getElem_toArray, List.getElem_cons_succ, List.getElem_cons_zero, List.setIfInBounds_toArray, List.set_cons_zero, List.set_cons_succ]
                refine spec_d rfl (fun x _ => gives_run (by go_simp)) ?_
                try simp only [Act.put, List.getElem_toArray, List.getElem_cons_succ, List.getElem_cons_zero, List.setIfInBounds_toArray, List.set_cons_zero, List.set_cons_succ]
                refine spec_d rfl (fun x _ => gives_run (by go_simp)) ?_
                try simp only [Act.put, List.getElem_toArray, List.getElem_cons_succ, List.getElem_cons_zero, List.setIfInBounds_toArray, List.set_cons_zero, List.set_cons_succ]
                refine spec_d rfl (fun x _ => gives_run (by go_simp)) ?_
                try simp only [Act.put, List.getElem_toArray, List.getElem_cons_succ, List.getElem_cons_zero, List.setIfInBounds_toArray, List.set_cons_zero, List.set_cons_succ]
                refine spec_d rfl (fun x _ => gives_run (by go_simp)) ?_
                try simp only [Act.put, List.getElem_toArray, List.getElem_cons_succ, List.getElem_cons_zero, List.setIfInBounds_toArray, List.set_cons_zero, List.set_cons_succ]
                refine spec_d rfl (fun x _ => gives_run (by go_simp)) ?_
                try simp only [Act.put, List.getElem_toArray, List.getElem_cons_succ, List.getElem_cons_zero, List.setIfInBounds_toArray, List.set_cons_zero, List.set_cons_succ]
                refine spec_d rfl (fun x _ => gives_run (by go_simp)) ?_
                try simp only [Act.put, List.getElem_toArray, List.getElem_cons_succ, List.getElem_cons_zero, List.setIfInBounds_toArray, List.set_cons_zero, List.set_cons_succ]
                refine spec_d rfl (fun x _ => gives_run (by go_simp)) ?_
                try simp only [Act.put, List.getElem_toArray, List.getElem_cons_succ, List.getElem_cons_zero, List.setIfInBounds_toArray, List.set_cons_zero, List.set_cons_succ]
                refine spec_d rfl (fun x _ => gives_run (by go_simp)) ?_
                try simp only [Act.put, List.getElem_toArray, List.getElem_cons_succ, List.getElem_cons_zero, List.setIfInBounds_toArray, List.set_cons_zero, List.set_cons_succ]
                refine spec_d rfl (fun z _ => gives_det (by go_simp) (HID.out z.world (HKD.out z))) ?_
                try simp only [Act.put, List.getElem_toArray, List.getElem_cons_succ, List.getElem_cons_zero, List.setIfInBounds_toArray, List.set_cons_zero, List.set_cons_succ]
                refine spec_d rfl (fun x _ => gives_run (by go_simp)) ?_
                try simp only [Act.put, List.getElem_toArray, List.getElem_cons_succ, List.getElem_cons_zero, List.setIfInBounds_toArray, List.set_cons_zero, List.set_cons_succ]
                refine spec_d rfl (fun x _ => gives_run (by go_simp)) ?_
                try simp only [Act.put, List.getElem_toArray, List.getElem_cons_succ, List.getElem_cons_zero, List.setIfInBounds_toArray, List.set_cons_zero, List.set_cons_succ]
                refine spec_d rfl (fun x _ => gives_run (by go_simp)) ?_
                try simp only [Act.put, List.getElem_toArray, List.getElem_cons_succ, List.getElem_cons_zero, List.setIfInBounds_toArray, List.set_cons_zero, List.set_cons_succ]
                refine spec_d rfl (fun x _ => gives_run (by go_simp)) ?_
                try simp only [Act.put, List.getElem_toArray, List.getElem_cons_succ, List.getElem_cons_zero, List.setIfInBounds_toArray, List.set_cons_zero, List.set_cons_succ]
                refine spec_d rfl (fun x _ => gives_run (by go_simp)) ?_
                try simp only [Act.put, List.getElem_toArray, List.getElem_cons_succ, List.getElem_cons_zero, List.setIfInBounds_toArray, List.set_cons_zero, List.set_cons_succ]
                refine spec_d rfl (fun z _ => gives_det (by go_simp) (one31_any z.world)) ?_
                try simp only [Act.put, List.getElem_toArray, List.getElem_cons_succ, List.getElem_cons_zero, List.setIfInBounds_toArray, List.set_cons_zero, List.set_cons_succ]
                refine spec_d rfl (fun x _ => gives_run (by go_simp)) ?_
                try simp only [Act.put, List.getElem_toArray, List.getElem_cons_succ, List.getElem_cons_zero, List.setIfInBounds_toArray, List.set_cons_zero, List.set_cons_succ]
                refine spec_d rfl (fun x _ => gives_run (by go_simp)) ?_
                try simp only [Act.put, List.getElem_toArray, List.getElem_cons_succ, List.getElem_cons_zero, List.setIfInBounds_toArray, List.set_cons_zero, List.set_cons_succ]
                refine spec_end (fun z hz => ?_)
                clear hz
                refine wpAny_done (by kernel_rfl) ?_ _
                have HBZ := Lib.hid (HKD.out z)
                clear HKD K0 K1 K2 L0 L1 L2 L3 L4 HSN HTK HAD HID
                generalize z.world = w10 at HBZ ⊢
                clear z
                go_wp2
                go_ret
                exact ⟨rfl, HBZ.out⟩
theorem walk (cs : Array Value) (ver y : Int) (w : World) (hr : Reads w shS cs.toList) (a0 : -9223372036854775808 ≤ ver) (a1 : ver ≤ 9223372036854775807) (b0 : -9223372036854775808 ≤ y) (b1 : y ≤ 9223372036854775807) :
    Calls Try.prog 3 #[.agg cs, .int .i64 ver, .int .i64 y] w fun e w' => e = .returned (.bool true) ∧ Below w.heap.size w w' := by
  obtain ⟨md, A0, n0, c0, A1, n1, c1, ws0, ws1, rfl, hW0, hW1, h0, h1⟩ := sched_in hr
  exact walk_any md A0 n0 c0 A1 n1 c1 ws0 ws1 ver y w (sched_md hr).2 hW0 hW1 h0 h1

set_option maxRecDepth 100000 in
theorem lifted (os : Os) (started : os.Started) (H : Type) (enc : TypeId × Value → H) :
    ReturnsInHanded {} Try.checked os 3 .any (Rows.loadTellsSpec.pre6 enc Try.prog Try.f3 Rows.loadTellsRow.domain false) (Rows.loadTellsSpec.post enc Try.prog Try.f3 false true false false) := by
  refine returnsInHanded_of_change (C := Try.checked) own started (by kernel_rfl) Try.func3
    (ChangeSpec.witness6 (enc := enc) (C := Try.checked) false ⟨#[], #[.agg #[.int .i64 0, .slice none 0 0, .slice none 0 0], .int .i64 0, .int .i64 0], []⟩ 8 (by kernel_rfl) (by kernel_rfl) (by kernel_rfl) (by kernel_rfl)) ?_
  intro W base args ds gs before hval0 hW hcnd _
  have hval : ∀ (j : Nat) t v, Try.f3.params[j]? = some t → args[j]? = some v → Value.okWide Try.prog W .any base t v := hval0
  have hW' := hW
  obtain ⟨p, q, hA0, hV, rfl, hfz, hnd⟩ := hW
  have hA : DataW.TrodAll enc Try.prog W 0 (fun _ => true) true Try.f3.params.toList args.toList ds p := hA0
  rw [Try.params3] at hA hval
  obtain ⟨v0, vs0, d0, ds0, p0, q0, hargs, rfl, rfl, h0, r0⟩ := trodAll_cons hA
  obtain ⟨v1, vs1, d1, ds1, p1, q1, rfl, rfl, rfl, h1, r1⟩ := trodAll_cons r0
  obtain ⟨v2, vs2, d2, ds2, p2, q2, rfl, rfl, rfl, h2, r2⟩ := trodAll_cons r1
  obtain ⟨rfl, rfl, rfl⟩ := trodAll_nil r2
  obtain rfl : args = #[v0, v1, v2] := by cases args; simp_all
  obtain ⟨rfl, rfl⟩ := trodVars_none hV
  have k0 := h0
  have lt0 : ∀ x ∈ p0, x.block < W.heap.size := by obtain ⟨m, hm⟩ := k0; exact DataW.trod_lt m _ _ _ hm
  obtain ⟨s, rfl⟩ := okWide_agg (by first | exact .inl ⟨_, Try.underlying25⟩ | exact .inr ⟨_, _, Try.underlying25⟩) (hval 0 25 v0 rfl rfl)
  have rd0 := reads_cells (sh := shS) 30 (by kernel_rfl) k0
  obtain ⟨version, rfl, rfl, rfl, wf1⟩ := open_int Try.underlying3 (hval 1 3 v1 rfl rfl) h1
  have bd1 := bounds_i64 wf1
  obtain ⟨module, rfl, rfl, rfl, wf2⟩ := open_int Try.underlying3 (hval 2 3 v2 rfl rfl) h2
  have bd2 := bounds_i64 wf2
  clear hA0 hval0
  refine (walk s version module W rd0 bd1.1 bd1.2 bd2.1 bd2.2).mono fun e W' ⟨he, bel⟩ => ?_
  subst he
  exact ⟨_, rfl, _, _, _, [], _, [], hW', trodAll_mk1 (shut_bool Try.underlying4 _), (trodAll_cons_mk (Below.trod laidOut (by kernel_rfl) (of_decide_eq_true (by kernel_rfl)) k0 bel lt0) (trodAll_cons_mk (shut_int Try.underlying3 wf1) (trodAll_cons_mk (shut_int Try.underlying3 wf2) trodAll_mk0))), rfl, bel.frame _, fun h => by cases h⟩

theorem over : Rows.loadTellsRow.holds Try.pinned (OpenSpec.ofChange Rows.loadTellsSpec) :=
  OpenClaim.holds_of_wide 3 Try.f3 rfl rfl rfl rfl rfl rfl rfl ⟨rfl, rfl, rfl, rfl, rfl⟩ rfl rfl rfl rfl rfl (by kernel_rfl) Try.func3 (by kernel_rfl)
    (of_decide_eq_true (by kernel_rfl)) (by unfold Func.isWrapper; first | (rw [if_pos (by decide +kernel)]; kernel_rfl) | (rw [if_neg (by decide +kernel)]; exact ⟨rfl, rfl⟩))
    (fun os started H enc _ => lifted os started H enc)

/-- The statement. -/
theorem proved : Rows.LoadTellsSaid := over
end Go.Proofs.Ytkankdecbefenaa.lawLoadTells
