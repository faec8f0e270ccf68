/- Package load: Of, Share; no condition but sizes. -/
import Derived.Test.YtkankdecbefenaaLodA
namespace Go.Proofs.Ytkankdecbefenaa.Ly31
open Go.ChangeShapes Go.WideShapes Go.ChangeAt Go.RowKit Base Ly7
set_option linter.unusedVariables false
set_option linter.unusedSimpArgs false

theorem of2_any (x : Wd) (e1 : IntKind.i64.wrap (8 * x.wd) = 8 * x.wd) (w : World) : Calls Try.prog 24 #[.agg #[.int .i64 x.k, .int .i64 x.b, .int .i64 x.wd, .int .i64 x.ad, .slice x.A x.n x.c, .slice x.B x.m x.d]] w fun e w' => e = .returned (.int .i64 (8 * x.wd)) ∧ Below w.heap.size w w' := by
  have hb := bel1 w (.cells #[.int .i64 x.k, .int .i64 x.b, .int .i64 x.wd, .int .i64 x.ad, .slice x.A x.n x.c, .slice x.B x.m x.d] 48)
  go_enter Try.func24, Try.ntmps24
  go_wp2
  go_ret
  exact ⟨rfl, hb⟩
theorem of3_any (x : Wd) (w : World) : Calls Try.prog 25 #[.agg #[.int .i64 x.k, .int .i64 x.b, .int .i64 x.wd, .int .i64 x.ad, .slice x.A x.n x.c, .slice x.B x.m x.d]] w fun e w' => e = .returned (.int .i64 (x.b)) ∧ Below w.heap.size w w' := by
  have hb := bel1 w (.cells #[.int .i64 x.k, .int .i64 x.b, .int .i64 x.wd, .int .i64 x.ad, .slice x.A x.n x.c, .slice x.B x.m x.d] 48)
  go_enter Try.func25, Try.ntmps25
  go_wp2
  go_ret
  exact ⟨rfl, hb⟩
theorem of4_any (x : Wd) (w : World) : Calls Try.prog 26 #[.agg #[.int .i64 x.k, .int .i64 x.b, .int .i64 x.wd, .int .i64 x.ad, .slice x.A x.n x.c, .slice x.B x.m x.d]] w fun e w' => e = .returned (.int .i64 (2)) ∧ Below w.heap.size w w' := by
  have hb := bel1 w (.cells #[.int .i64 x.k, .int .i64 x.b, .int .i64 x.wd, .int .i64 x.ad, .slice x.A x.n x.c, .slice x.B x.m x.d] 48)
  go_enter Try.func26, Try.ntmps26
  go_wp2
  go_ret
  exact ⟨rfl, hb⟩

/-- A window that may be. -/
structure WOk (x : Wd) : Prop where
  d : x.k = 0 → 1 ≤ x.wd ∧ x.wd ≤ 8 ∧ 0 ≤ x.ad ∧ x.ad ≤ 64 - x.wd ∧ x.n ≤ 4
  g : x.k = 1 → 1 ≤ x.b ∧ x.b ≤ 100
  k : 0 ≤ x.k ∧ x.k ≤ 2
theorem win_ok {md : Int} {x : Wd} (h : winI md x = 0) : WOk x := by
  have hw := winI_is md x
  rw [h] at hw
  unfold Win at hw
  refine ⟨fun hk => ?_, fun hk => ?_, ?_⟩ <;> (first | omega | skip)
  all_goals (rcases hw with h | h | h | h | h | h | h | h | h | h | h <;> (try omega))
theorem gd_wins {md : Int} {ver : Nat} {ws : List Wd} (h : FrNo (winI md) ver ws) : ∀ x ∈ ws, WOk x := fun x hx => by
  obtain ⟨i, hi⟩ := List.mem_iff_getElem?.1 hx
  exact win_ok (h.2.1 i x hi)
def F8 (x : Wd) : Int := 8 * x.wd
def FB (x : Wd) : Int := x.b
def F2 (x : Wd) : Int := 2
/-- What Of tells of windows that may be. -/
def ldW (ws : List Wd) : Int := sumF (kF 0 F8) ws
def ldP (ver : Nat) (ws : List Wd) : Int := sumF (kF 2 F2) ws + 4 + 2 * (ver : Int) + 2
def ldG (ws : List Wd) : Int := sumF (kF 1 FB) ws
def ldA (ver : Nat) (ws : List Wd) : Int := (endS ws (leadI ver) + 120) / 20
def ldR (ver : Nat) (ws : List Wd) : Int := ldA ver ws - ldW ws - ldG ws - ldP ver ws
def ldV (ver : Nat) (ws : List Wd) : Array Value := #[.int .i64 (ldW ws), .int .i64 (ldP ver ws), .int .i64 (ldG ws), .int .i64 (ldR ver ws), .int .i64 (ldA ver ws)]
def ldZ : Array Value := #[.int .i64 0, .int .i64 0, .int .i64 0, .int .i64 0, .int .i64 0]
theorem info_ld : (Try.prog.info? 33).map (fun i => (i.zero, i.size)) = some (some (.agg ldZ), 5) := by kernel_rfl
theorem wrote_set {b : Nat} {w : World} {T : TypeId} {cs : Array Value} (h : Obj1 w b T cs) (i : Nat) (v : Value) : Obj1 (w.setCell ⟨b, i, none⟩ v) b T (cs.setIfInBounds i v) ∧ Wrote b w (w.setCell ⟨b, i, none⟩ v) :=
  ⟨h.set i v, (Wrote.refl b w).set (.inl rfl) v⟩
set_option maxRecDepth 100000 in
set_option maxHeartbeats 2000000 in
/-- Of, in terms of what windows tells. -/
theorem of_any (md : Int) (A0 : Option Addr) (n0 c0 : Nat) (A1 : Option Addr) (n1 c1 : Nat) (ver : Int) (w : World) (g : Bool) (A : Option Addr) (n c : Nat) (ws : List Wd) (vn : Nat)
    (hw : ∀ W, Below w.heap.size w W → Calls Try.prog 20 #[.agg #[.int .i64 md, .slice A0 n0 c0, .slice A1 n1 c1], .int .i64 ver] W fun e w' => e = .returned (wndV A n c g) ∧ Below W.heap.size W w')
    (hg : g = true → ver = (vn : Int) ∧ vn < 2 ∧ ((vn = 0 ∧ A = A0 ∧ n = n0 ∧ c = c0) ∨ (vn = 1 ∧ A = A1 ∧ n = n1 ∧ c = c1)) ∧ WinsAt w A n ws ∧ n ≤ 60 ∧ ∀ x ∈ ws, WOk x) :
    Calls Try.prog 7 #[.agg #[.int .i64 md, .slice A0 n0 c0, .slice A1 n1 c1], .int .i64 ver] w fun e w' => e = .returned (.agg (if g = true then ldV vn ws else ldZ)) ∧ Below w.heap.size w w' := by
  obtain ⟨iz, hiz, hzz, hsz⟩ := info_two info_ld
  obtain ⟨gb, HGB⟩ : ∃ gb, Hid (w.heap.size = gb) := ⟨_, Lib.hid rfl⟩
  obtain ⟨gr, HGR⟩ : ∃ g, Hid (gb + 1 = g) := ⟨_, Lib.hid rfl⟩
  obtain ⟨W1, HW1⟩ : ∃ W1, Hid (W1 = w.alloc (.cells #[.int .i64 md, .slice A0 n0 c0, .slice A1 n1 c1] 25)) := ⟨_, Lib.hid rfl⟩
  obtain ⟨W2, HW2⟩ : ∃ W, Hid (W = W1.alloc (.cells ldZ 33)) := ⟨_, Lib.hid rfl⟩
  have n1b : Below w.heap.size w W1 := by rw [HW1.out]; exact bel1 _ _
  have n2b : Below W1.heap.size W1 W2 := by rw [HW2.out]; exact bel1 _ _
  have hs1 : W1.heap.size = gr := by rw [HW1.out, ← HGR.out, ← HGB.out]; simp
  have HS1 := Lib.hid hs1
  have HB2 : Hid (Below w.heap.size w W2) := Lib.hid (n1b.trans (n2b.mono n1b.size))
  have HO1 : Hid (Obj1 W2 gb 25 #[.int .i64 md, .slice A0 n0 c0, .slice A1 n1 c1]) := Lib.hid ((show Obj1 W1 gb _ _ by rw [HW1.out, ← HGB.out]; exact Obj1.new _ _ _).kept n2b)
  have HOR : Hid (Obj1 W2 gr 33 ldZ) := Lib.hid (by rw [HW2.out, ← hs1]; exact Obj1.new _ _ _)
  have HLO : Hid (w.heap.size ≤ gr ∧ w.heap.size ≤ gb) := Lib.hid (by have := HGR.out; have := HGB.out; omega)
  have HWN := Lib.hid (hw W2 HB2.out)
  have HG := Lib.hid hg
  have HSI : Hid ((Try.prog.info? 33).map (·.size) = some 5) := Lib.hid (by rw [hiz]; simp [hsz])
  have q0 := HO1.out.cell 0
  have q1 := HO1.out.cell 1
  have q2 := HO1.out.cell 2
  simp at q0 q1 q2
  clear n1b n2b hs1 hw hg
  go_enter Try.func7, Try.ntmps7
  go_upto_region 1 with (fail)
  rw [← HW1.out]
  change Code.wp _ _ _ _ (W1.alloc (.cells ldZ 33))
  rw [← HW2.out, HGB.out, HGR.out]
  clear HW1 HW2 HS1 HGR HGB
  go_wp2_with fail
  refine HWN.out.mono ?_
  rintro e w3 ⟨rfl, hb3⟩
  have HB3 := Lib.hid (HB2.out.trans (hb3.mono HB2.out.size))
  have HO3 := Lib.hid (HO1.out.kept hb3)
  have HR3 := Lib.hid (HOR.out.kept hb3)
  clear q0 q1 q2 hb3 HWN HO1 HOR HB2
  cases g with
  | false =>
    clear HG
    simp only [wndV, Bool.false_eq_true, if_false]
    have HB4 : Hid (Below w.heap.size w (w3.alloc (.cells #[.slice none 0 0] 22))) := Lib.hid (HB3.out.trans ((bel1 _ _).mono HB3.out.size))
    have HR4 := Lib.hid (HR3.out.alloc (.cells #[.slice none 0 0] 22))
    go_upto_region 3 with (fail)
    generalize w3.alloc (.cells #[.slice none 0 0] 22) = w4 at HB4 HR4 ⊢
    go_wp2_with ((with_reducible show wpList _ _ _ (Oper.mk none _ _ _ _ _ :: _) _ _); go_must (refine wpList_store_row rfl 33 _ _ rfl gr ldZ rfl rfl 33 ldZ HR4.out HSI.out rfl (by simp [ldZ, Value.oneCell']) ?_))
    have HW9 := Lib.hid (wrote_row (w := w4) HR4.out ldZ)
    generalize (w4).setRow gr ldZ = we at HW9 ⊢
    have HE9 := Lib.hid HW9.out.1
    try rw [Exit.noGoto_ret]
    refine bodyPost_ret (v := .agg ldZ) (results_cell_row rfl _ _ gr 33 ldZ (0, 0) _ rfl HE9.out Try.underlying33 rfl HSI.out) rfl ?_
    exact ⟨by simp, HB4.out.trans (HW9.out.2.below HLO.out.1 HB4.out.size)⟩
  | true =>
    obtain ⟨rfl, hv2, hpk, hW, hn, hok⟩ := HG.out rfl
    have HW := Lib.hid hW
    have HOK := Lib.hid hok
    have HPK := Lib.hid hpk
    simp only [wndV, if_true]
    obtain ⟨gl, HGL⟩ : ∃ g, Hid (w3.heap.size = g) := ⟨_, Lib.hid rfl⟩
    obtain ⟨W4, HW4⟩ : ∃ W, Hid (W = w3.alloc (.cells #[.slice A n c] 22)) := ⟨_, Lib.hid rfl⟩
    have hb4 : Below w3.heap.size w3 W4 := by rw [HW4.out]; exact bel1 _ _
    have HB4 := Lib.hid (HB3.out.trans (hb4.mono HB3.out.size))
    have HOL : Hid (Obj1 W4 gl 22 #[.slice A n c]) := Lib.hid (by rw [HW4.out, ← HGL.out]; exact Obj1.new _ _ _)
    have HO4 := Lib.hid (HO3.out.kept hb4)
    have HR4 := Lib.hid (HR3.out.kept hb4)
    have HFE := endS_bd ws (leadI vn)
    have hld : 0 ≤ leadI vn ∧ leadI vn ≤ 240 := by unfold leadI; omega
    have hwl : ws.length ≤ 60 := by rw [hW.len]; exact hn
    have HBF : Hid (∀ W, Below w.heap.size w W → W.cell? ⟨gl, 0, none⟩ = some (.slice A n c) → gl < W.heap.size → Calls Try.prog 21 #[.int .i64 0, .func (.func 24) #[] #[], .pointer (some ⟨gl, 0, none⟩)] W fun e w' => e = .returned (.int .i64 (ldW ws)) ∧ Below W.heap.size W w') := Lib.hid (fun W hb hc hl => of1_any 0 _ (ent_of Try.func24 (by rfl) (by rfl)) F8 A n c ws gl W hc hl (HW.out.kept hb) (by omega)
      (fun x hx hk => by have := (HOK.out x hx).d hk; unfold F8; omega) (fun x hx hk W => of2_any x (IntWalk.i64_in _ (by have := (HOK.out x hx).d hk; omega)) W))
    have HBG : Hid (∀ W, Below w.heap.size w W → W.cell? ⟨gl, 0, none⟩ = some (.slice A n c) → gl < W.heap.size → Calls Try.prog 21 #[.int .i64 1, .func (.func 25) #[] #[], .pointer (some ⟨gl, 0, none⟩)] W fun e w' => e = .returned (.int .i64 (ldG ws)) ∧ Below W.heap.size W w') := Lib.hid (fun W hb hc hl => of1_any 1 _ (ent_of Try.func25 (by rfl) (by rfl)) FB A n c ws gl W hc hl (HW.out.kept hb) (by omega)
      (fun x hx hk => by have := (HOK.out x hx).g hk; unfold FB; omega) (fun x hx hk W => of3_any x W))
    have HBP : Hid (∀ W, Below w.heap.size w W → W.cell? ⟨gl, 0, none⟩ = some (.slice A n c) → gl < W.heap.size → Calls Try.prog 21 #[.int .i64 2, .func (.func 26) #[] #[], .pointer (some ⟨gl, 0, none⟩)] W fun e w' => e = .returned (.int .i64 (sumF (kF 2 F2) ws)) ∧ Below W.heap.size W w') := Lib.hid (fun W hb hc hl => of1_any 2 _ (ent_of Try.func26 (by rfl) (by rfl)) F2 A n c ws gl W hc hl (HW.out.kept hb) (by omega)
      (fun x hx hk => by unfold F2; omega) (fun x hx hk W => of4_any x W))
    have HFR : Hid (∀ W, Below w.heap.size w W → Calls Try.prog 27 #[.agg #[.int .i64 md, .slice A0 n0 c0, .slice A1 n1 c1], .int .i64 (vn : Int)] W fun e w' => e = .returned (.int .i64 (endS ws (leadI vn) + 120)) ∧ Below W.heap.size W w') := Lib.hid (fun W hb => frame_any md A0 n0 c0 A1 n1 c1 A n c vn ws W HPK.out (HW.out.kept hb) (by omega))
    have w0b := sumF_bd (F := kF 0 F8) (B := 64) ws (fun x hx => by
      unfold kF F8
      split
      · rename_i hk; have := (HOK.out x hx).d hk; omega
      · omega)
    have w1b := sumF_bd (F := kF 1 FB) (B := 100) ws (fun x hx => by
      unfold kF FB
      split
      · rename_i hk; have := (HOK.out x hx).g hk; omega
      · omega)
    have w2b := sumF_bd (F := kF 2 F2) (B := 2) ws (fun x hx => by unfold kF F2; split <;> omega)
    have HAV : Hid ((endS ws (leadI vn) + 120) / 20 = ldA vn ws) := Lib.hid rfl
    have HPV : Hid (sumF (kF 2 F2) ws + 4 + 2 * (vn : Int) + 2 = ldP vn ws) := Lib.hid rfl
    have HRV : Hid (ldA vn ws - ldW ws - ldG ws - ldP vn ws = ldR vn ws) := Lib.hid rfl
    have HLV : Hid (ldV vn ws = #[.int .i64 (ldW ws), .int .i64 (ldP vn ws), .int .i64 (ldG ws), .int .i64 (ldR vn ws), .int .i64 (ldA vn ws)]) := Lib.hid rfl
    rw [show sumF (kF 0 F8) ws = ldW ws from rfl] at w0b
    rw [show sumF (kF 1 FB) ws = ldG ws from rfl] at w1b
    obtain ⟨vW, hvW⟩ : ∃ v, ldW ws = v := ⟨_, rfl⟩
    obtain ⟨vG, hvG⟩ : ∃ v, ldG ws = v := ⟨_, rfl⟩
    obtain ⟨vS, hvS⟩ : ∃ v, sumF (kF 2 F2) ws = v := ⟨_, rfl⟩
    obtain ⟨vE, hvE⟩ : ∃ v, endS ws (leadI vn) = v := ⟨_, rfl⟩
    obtain ⟨vA, hvA⟩ : ∃ v, ldA vn ws = v := ⟨_, rfl⟩
    obtain ⟨vP, hvP⟩ : ∃ v, ldP vn ws = v := ⟨_, rfl⟩
    obtain ⟨vR, hvR⟩ : ∃ v, ldR vn ws = v := ⟨_, rfl⟩
    obtain ⟨LV, hLV⟩ : ∃ v, ldV vn ws = v := ⟨_, rfl⟩
    rw [hvW] at HBF HRV HLV w0b
    rw [hvG] at HBG HRV HLV w1b
    rw [hvS] at HBP HPV w2b
    rw [hvE] at HFR HAV HFE
    rw [hvA] at HAV HRV HLV
    rw [hvP] at HPV HRV HLV
    rw [hvR] at HRV HLV
    rw [hLV] at HLV
    have HLQ := Lib.hid hLV
    have hvn : (vn : Int) ≤ 1 := by omega
    have hvn0 : (0 : Int) ≤ (vn : Int) := by omega
    have hav := HAV.out
    have hpv := HPV.out
    have hrv := HRV.out
    have e1 : IntKind.i64.wrap (vS + 4) = vS + 4 := IntWalk.i64_in _ (by omega)
    have e2 : IntKind.i64.wrap (2 * (vn : Int)) = 2 * (vn : Int) := IntWalk.i64_in _ (by omega)
    have e3 : IntKind.i64.wrap (vS + 4 + 2 * (vn : Int)) = vS + 4 + 2 * (vn : Int) := IntWalk.i64_in _ (by omega)
    have e4 : IntKind.i64.wrap (vS + 4 + 2 * (vn : Int) + 2) = vP := by rw [IntWalk.i64_in _ (by omega)]; exact hpv
    have e5 : (vE + 120).tdiv 20 = vA := by rw [Int.tdiv_eq_ediv_of_nonneg (by omega)]; exact hav
    have e6 : wrap64 vA = vA := IntWalk.wrap64_in vA (by omega)
    have e6' : IntKind.i64.wrap vA = vA := IntWalk.i64_in vA (by omega)
    have e7 : IntKind.i64.wrap (vA - vW) = vA - vW := IntWalk.i64_in _ (by omega)
    have e8 : IntKind.i64.wrap (vA - vW - vG) = vA - vW - vG := IntWalk.i64_in _ (by omega)
    have e9 : IntKind.i64.wrap (vA - vW - vG - vP) = vR := by rw [IntWalk.i64_in _ (by omega)]; exact hrv
    clear hvW hvG hvS hvE hvA hvP hvR hLV hav hpv hrv w0b w1b w2b HFE hld hwl hW hok hpk hb4 HG HPV HAV HRV HO3 HR3
    go_upto_region 4 with (fail)
    go_upto_region 5 with (fail)
    rw [← HW4.out, HGL.out]
    have s0 := HO4.out.cell 0
    have s1 := HO4.out.cell 1
    have s2 := HO4.out.cell 2
    have l0 := HOL.out.cell 0
    simp at s0 s1 s2 l0
    have K0 : ∀ z : Kin W4.drew, z.world.cell? ⟨gb, 0, none⟩ = some (.int .i64 md) := fun z => Kin.at (w := W4.drew) s0 z
    have K1 : ∀ z : Kin W4.drew, z.world.cell? ⟨gb, 1, none⟩ = some (.slice A0 n0 c0) := fun z => Kin.at (w := W4.drew) s1 z
    have K2 : ∀ z : Kin W4.drew, z.world.cell? ⟨gb, 2, none⟩ = some (.slice A1 n1 c1) := fun z => Kin.at (w := W4.drew) s2 z
    have K3 : Hid (∀ z : Kin W4.drew, z.world.cell? ⟨gl, 0, none⟩ = some (.slice A n c)) := Lib.hid (fun z => Kin.at (w := W4.drew) l0 z)
    have HKL : Hid (∀ z : Kin W4.drew, gl < z.world.heap.size) := Lib.hid (fun z => Nat.lt_of_lt_of_le HOL.out.lt z.below.size)
    have HKD : Hid (∀ z : Kin W4.drew, Below w.heap.size w z.world) := Lib.hid (fun z => HB4.out.trans (((bel_drew W4).trans z.below).mono HB4.out.size))
    have HKR : Hid (∀ z : Kin W4.drew, Obj1 z.world gr 33 ldZ) := Lib.hid (fun z => HR4.out.kept ((bel_drew W4).trans z.below))
    clear s0 s1 s2 l0 HW4 HGL
    refine wp_region_specL 17 [.d (.func (.func 21) #[] #[.pointer (some ⟨gl, 0, none⟩)]), .d (.int .i64 vW), .d (.func (.func 21) #[] #[.pointer (some ⟨gl, 0, none⟩)]), .d (.int .i64 vG), .d (.func (.func 21) #[] #[.pointer (some ⟨gl, 0, none⟩)]), .d (.int .i64 vS), .d (.int .i64 (vS + 4)), .d (.int .i64 vn), .d (.int .i64 (2 * (vn : Int))), .d (.int .i64 (vS + 4 + 2 * (vn : Int))), .d (.int .i64 vP), .d (.agg #[.int .i64 md, .slice A0 n0 c0, .slice A1 n1 c1]), .d (.int .i64 vn), .d (.int .i64 (vE + 120)), .d (.int .i64 vA), .d (.agg #[.int .i64 vW, .int .i64 vP, .int .i64 vG, .int .i64 0, .int .i64 vA]), .g (NewO W4.heap.size 33 ldZ)] (by kernel_rfl) (by kernel_rfl) ?_
    refine spec_d rfl (fun x _ => gives_run (by go_simp)) ?_
    try simp only [Act.put, List.getElem_toArray, List.getElem_cons_succ, List.getElem_cons_zero, List.setIfInBounds_toArray, List.set_cons_zero, List.set_cons_succ]
    refine spec_d rfl (fun z _ => gives_det (by go_simp) (HBF.out z.world (HKD.out z) (K3.out z) (HKL.out z))) ?_
    try simp only [Act.put, List.getElem_toArray, List.getElem_cons_succ, List.getElem_cons_zero, List.setIfInBounds_toArray, List.set_cons_zero, List.set_cons_succ]
    refine spec_d rfl (fun x _ => gives_run (by go_simp)) ?_
    try simp only [Act.put, List.getElem_toArray, List.getElem_cons_succ, List.getElem_cons_zero, List.setIfInBounds_toArray, List.set_cons_zero, List.set_cons_succ]
    refine spec_d rfl (fun z _ => gives_det (by go_simp) (HBG.out z.world (HKD.out z) (K3.out z) (HKL.out z))) ?_
    try simp only [Act.put, List.getElem_toArray, List.getElem_cons_succ, List.getElem_cons_zero, List.setIfInBounds_toArray, List.set_cons_zero, List.set_cons_succ]
    refine spec_d rfl (fun x _ => gives_run (by go_simp)) ?_
    try simp only [Act.put, List.getElem_toArray, List.getElem_cons_succ, List.getElem_cons_zero, List.setIfInBounds_toArray, List.set_cons_zero, List.set_cons_succ]
    refine spec_d rfl (fun z _ => gives_det (by go_simp) (HBP.out z.world (HKD.out z) (K3.out z) (HKL.out z))) ?_
    try simp only [Act.put, List.getElem_toArray, List.getElem_cons_succ, List.getElem_cons_zero, List.setIfInBounds_toArray, List.set_cons_zero, List.set_cons_succ]
    refine spec_d rfl (fun x _ => gives_run (by go_simp)) ?_
    try simp only [Act.put, List.getElem_toArray, List.getElem_cons_succ, List.getElem_cons_zero, List.setIfInBounds_toArray, List.set_cons_zero, List.set_cons_succ]
    refine spec_d rfl (fun x _ => gives_run (by go_simp)) ?_
    try simp only [Act.put, List.getElem_toArray, List.getElem_cons_succ, List.getElem_cons_zero, List.setIfInBounds_toArray, List.set_cons_zero, List.set_cons_succ]
    refine spec_d rfl (fun x _ => gives_run (by go_simp)) ?_
    try simp only [Act.put, List.getElem_toArray, List.getElem_cons_succ, List.getElem_cons_zero, List.setIfInBounds_toArray, List.set_cons_zero, List.set_cons_succ]
    refine spec_d rfl (fun x _ => gives_run (by go_simp)) ?_
    try simp only [Act.put, List.getElem_toArray, List.getElem_cons_succ, List.getElem_cons_zero, List.setIfInBounds_toArray, List.set_cons_zero, List.set_cons_succ]
    refine spec_d rfl (fun x _ => gives_run (by go_simp)) ?_
    try simp only [Act.put, List.getElem_toArray, List.getElem_cons_succ, List.getElem_cons_zero, List.setIfInBounds_toArray, List.set_cons_zero, List.set_cons_succ]
    refine spec_d rfl (fun x _ => gives_run (by go_simp)) ?_
    try simp only [Act.put, List.getElem_toArray, List.getElem_cons_succ, List.getElem_cons_zero, List.setIfInBounds_toArray, List.set_cons_zero, List.set_cons_succ]
    refine spec_d rfl (fun x _ => gives_run (by go_simp)) ?_
    try simp only [Act.put, List.getElem_toArray, List.getElem_cons_succ, List.getElem_cons_zero, List.setIfInBounds_toArray, List.set_cons_zero, List.set_cons_succ]
    refine spec_d rfl (fun z _ => gives_det (by go_simp) (HFR.out z.world (HKD.out z))) ?_
    try simp only [Act.put, List.getElem_toArray, List.getElem_cons_succ, List.getElem_cons_zero, List.setIfInBounds_toArray, List.set_cons_zero, List.set_cons_succ]
    refine spec_d rfl (fun x _ => gives_run (by go_simp)) ?_
    try simp only [Act.put, List.getElem_toArray, List.getElem_cons_succ, List.getElem_cons_zero, List.setIfInBounds_toArray, List.set_cons_zero, List.set_cons_succ]
    refine spec_d rfl (fun x _ => gives_run (by go_simp)) ?_
    try simp only [Act.put, List.getElem_toArray, List.getElem_cons_succ, List.getElem_cons_zero, List.setIfInBounds_toArray, List.set_cons_zero, List.set_cons_succ]
    refine spec_g (NewO.stable _ _ _) (NewO.ex _ _ (Nat.le_refl _)) rfl (fun z _ => gives_alloc rfl hiz hzz (Nat.le_trans (bel_drew W4).size z.below.size)) ?_
    rintro v8 ⟨x8, g8, rfl, _⟩
    try simp only [Act.put, List.getElem_toArray, List.getElem_cons_succ, List.getElem_cons_zero, List.setIfInBounds_toArray, List.set_cons_zero, List.set_cons_succ]
    refine spec_end (fun z hz => ?_)
    have hgo := NewO.at (hz _ (List.mem_singleton.2 rfl))
    have HGO := Lib.hid hgo
    have HZ := Lib.hid (HKD.out z)
    have HZR := Lib.hid (HKR.out z)
    clear hz hgo K0 K1 K2 K3 HKL HKD HKR HBF HBG HBP HFR
    generalize z.world = wz at HGO HZ HZR ⊢
    clear z
    change wpAny _ _ _ _ (0 + 1) _ _ _
    refine wpAny_ready (rs := [17]) (by kernel_rfl) (by simp) ?_
    refine AllReady.cons rfl (fun KK hK => ?_) AllReady.nil
    rw [if_pos (by rfl)]
    refine upon_rowS (ty := 33) rfl g8 #[.int .i64 vW, .int .i64 vP, .int .i64 vG, .int .i64 0, .int .i64 vA] rfl rfl 33 _ HGO.out.2 HSI.out rfl (by simp [Value.oneCell']) ?_
    refine hK _ _ ?_
    clear hK KK
    try simp only [Act.put, List.getElem_toArray, List.getElem_cons_succ, List.getElem_cons_zero, List.setIfInBounds_toArray, List.set_cons_zero, List.set_cons_succ]
    have HW5 := Lib.hid (wrote_row HGO.out.2 #[.int .i64 vW, .int .i64 vP, .int .i64 vG, .int .i64 0, .int .i64 vA])
    generalize wz.setRow g8 #[.int .i64 vW, .int .i64 vP, .int .i64 vG, .int .i64 0, .int .i64 vA] = w5 at HW5 ⊢
    refine wpAny_done (by kernel_rfl) ?_ _
    have HNE : Hid (gr ≠ g8) := Lib.hid (by have h1 := HGO.out.1; have h2 := HR4.out.lt; omega)
    have HB5 := Lib.hid (HZ.out.trans ((HW5.out.2.below (Nat.le_trans HB4.out.size HGO.out.1) HZ.out.size)))
    have HR5 := Lib.hid (HZR.out.touch HW5.out.2 HNE.out)
    have HO5 := Lib.hid HW5.out.1
    have HL8 : Hid (w.heap.size ≤ g8) := Lib.hid (Nat.le_trans HB4.out.size HGO.out.1)
    clear HW5 HZ HZR HGO HR4 HO4 HOL
    have f0 := HO5.out.cell 0
    have f1 := HO5.out.cell 1
    have f2 := HO5.out.cell 2
    have f3 := HO5.out.cell 3
    have f4 := HO5.out.cell 4
    have fz := HO5.out.free 3
    simp at f0 f1 f2 f3 f4
    go_upto_region 7 with (fail)
    have HW6 := Lib.hid (wrote_set HO5.out 3 (.int .i64 vR))
    generalize w5.setCell ⟨g8, 3, none⟩ (.int .i64 vR) = w6 at HW6 ⊢
    have HB6 := Lib.hid (HB5.out.trans (HW6.out.2.below HL8.out HB5.out.size))
    have HR6 := Lib.hid (HR5.out.touch HW6.out.2 HNE.out)
    have HO6 : Hid (Obj1 w6 g8 33 #[.int .i64 vW, .int .i64 vP, .int .i64 vG, .int .i64 vR, .int .i64 vA]) := Lib.hid (by have h := HW6.out.1; simpa using h)
    clear f0 f1 f2 f3 f4 fz
    have f0 := HO6.out.cell 0
    have f1 := HO6.out.cell 1
    have f2 := HO6.out.cell 2
    have f3 := HO6.out.cell 3
    have f4 := HO6.out.cell 4
    simp at f0 f1 f2 f3 f4
    have HSJ : Hid ((Try.prog.info? 33).map (·.size) = some (#[Value.int .i64 vW, .int .i64 vP, .int .i64 vG, .int .i64 vR, .int .i64 vA] : Array Value).size) := HSI
    go_wp2_with ((with_reducible show wpList _ _ _ (Oper.mk none _ _ _ _ _ :: _) _ _); go_must (refine wpList_store_row rfl 33 _ _ rfl gr #[.int .i64 vW, .int .i64 vP, .int .i64 vG, .int .i64 vR, .int .i64 vA] rfl rfl 33 ldZ HR6.out HSI.out rfl (by simp [Value.oneCell']) ?_))
    have HW9 := Lib.hid (wrote_row (w := w6) HR6.out #[.int .i64 vW, .int .i64 vP, .int .i64 vG, .int .i64 vR, .int .i64 vA])
    generalize w6.setRow gr #[.int .i64 vW, .int .i64 vP, .int .i64 vG, .int .i64 vR, .int .i64 vA] = we at HW9 ⊢
    have HE9 := Lib.hid HW9.out.1
    try rw [Exit.noGoto_ret]
    refine bodyPost_ret (v := .agg #[.int .i64 vW, .int .i64 vP, .int .i64 vG, .int .i64 vR, .int .i64 vA]) (results_cell_row rfl _ _ gr 33 _ (0, 0) _ rfl HE9.out Try.underlying33 rfl HSJ.out) rfl ?_
    exact ⟨by rw [HLQ.out, HLV.out], HB6.out.trans (HW9.out.2.below HLO.out.1 HB6.out.size)⟩
end Go.Proofs.Ytkankdecbefenaa.Ly31
