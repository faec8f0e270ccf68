/- The contract of package image's Read; no condition. -/
import Derived.Test.YthnopcoahcdjjaaImgE
import Derived.Test.YthnopcoahcdjjaaImgM
import Derived.Test.YthnopcoahcdjjaaCut
import Derived.Test.YthnopcoahcdjjaaReg
import Derived.StillTailTactics
import Derived.Deep.DeepCutAuto
import Derived.Deep.CutRange
import Derived.Deep.RegionWith
import Derived.Laws.CopyOwn
import Derived.Laws.MakeOwn
namespace Go.Proofs.Ythnopcoahcdjjaa.Ly10
open Go.ChangeShapes Go.WideShapes Go.ChangeAt Go.RowKit Base
set_option linter.unusedVariables false
set_option linter.unusedSimpArgs false

abbrev TS : TypeId := 26
abbrev zi : Value := imv 0 0 0 none 0 0
theorem lst_at {w : World} {A : Option Addr} {n : Nat} {bs : List Nat} (h : Lst w A n (u8s bs)) {i : Nat} (hi : i < n) : ∃ b off, A = some ⟨b, off, none⟩ ∧ b < w.heap.size ∧ w.cell? ⟨b, off + i, none⟩ = some (.int .u8 ((bs.getD i 0 : Nat) : Int)) := by
  have hl : bs.length = n := by have := h.1; rwa [u8s_len] at this
  obtain ⟨b, off, e, hlt, hc⟩ := h.2 (by omega)
  refine ⟨b, off, e, hlt, ?_⟩
  have hi' : i < bs.length := by rw [hl]; exact hi
  rw [hc i hi, List.getD_eq_getElem?_getD, List.getElem?_eq_getElem hi']
  show (bs.map _)[i]? = _
  rw [List.getElem?_map, List.getElem?_eq_getElem hi']
  rfl
set_option maxRecDepth 100000 in
set_option maxHeartbeats 2000000 in
theorem two_any (gB k : Nat) (A : Option Addr) (n c : Nat) (bs : List Nat) (w : World) (hk : w.cell? ⟨gB, 0, none⟩ = some (.slice A n c)) (hl : Lst w A n (u8s bs)) (hb : ∀ x ∈ bs, x < 256) (hat : k + 1 < n) (hn : n ≤ 100000) :
    Calls Try.prog 52 #[.int .i64 k, .pointer (some ⟨gB, 0, none⟩)] w fun e w' => e = .returned (.int .i64 ((b2 bs k : Nat) : Int)) ∧ Below w.heap.size w w' := by
  obtain ⟨b, off, hA, hlt, h1⟩ := lst_at hl (show k < n by omega)
  obtain ⟨b', off', hA', _, h2⟩ := lst_at hl hat
  rw [hA] at hA'
  cases hA'
  have g1 := getD_lt hb k
  have g2 := getD_lt hb (k + 1)
  have HV : Hid (b2 bs k = bs.getD k 0 * 256 + bs.getD (k + 1) 0) := Lib.hid rfl
  obtain ⟨x, HX⟩ : ∃ x, Hid (bs.getD k 0 = x) := ⟨_, Lib.hid rfl⟩
  obtain ⟨y, HY⟩ : ∃ y, Hid (bs.getD (k + 1) 0 = y) := ⟨_, Lib.hid rfl⟩
  rw [HX.out] at h1 g1 HV
  rw [HY.out] at h2 g2 HV
  rw [HV.out]
  have K0 : ∀ z : Kin w, z.world.cell? ⟨gB, 0, none⟩ = some (.slice A n c) := Kin.at hk
  have K1 : ∀ z : Kin w, z.world.cell? ⟨b, off + k, none⟩ = some (.int .u8 (x : Int)) := Kin.at h1
  have K2 : ∀ z : Kin w, z.world.cell? ⟨b, off + (k + 1), none⟩ = some (.int .u8 (y : Int)) := Kin.at h2
  subst hA
  have ho := or8g (x : Int) (y : Int) (by omega) (by omega) (by omega) (by omega)
  have hw : IntKind.i64.wrap ((k : Int) + 1) = (k : Int) + 1 := IntWalk.i64_in _ (by omega)
  have hw2 : IntKind.i64.wrap ((x : Int) * 256) = (x : Int) * 256 := IntWalk.i64_in _ (by omega)
  have hi0 : (0 : Int) ≤ (k : Int) ∧ (k : Int) < (n : Int) := by omega
  have hi1 : (0 : Int) ≤ (k : Int) + 1 ∧ (k : Int) + 1 < (n : Int) := by omega
  have hi2 : ((k : Int) + 1).toNat = k + 1 := by omega
  clear hl hb hk h1 h2
  go_enter Try.func52, Try.ntmps52
  go_wp2_with fail
  refine wp_region_kin (by kernel_rfl) (by kernel_rfl) ?_
  repeat (go_big_quiet_step (fail))
  refine wpQuiet_nil ?_
  intro _ hw'
  obtain ⟨kx, hw''⟩ := hw'
  subst hw''
  go_wp2
  go_ret
  exact ⟨by push_cast; rfl, kx.below⟩
set_option maxRecDepth 100000 in
set_option maxHeartbeats 2000000 in
theorem read_short (A : Option Addr) (n c : Nat) (w : World) (hn : n < 11) :
    Calls Try.prog 29 #[.slice A n c] w fun e w' => e = .returned (.tuple #[zi, .int .i64 10]) ∧ Hid (Below w.heap.size w w') := by
  have HB := Lib.hid (show Below w.heap.size w ((w.alloc (.cells #[.slice A n c] TS)).alloc (.cells (c4 0 0 0 none 0 0) TI)) from ((Below.refl _ _).alloc (Nat.le_refl _) _).alloc (by simp) _)
  have e1 : (w.alloc (.cells #[.slice A n c] TS)).heap.size = w.heap.size + 1 := by simp
  have HO := Lib.hid ((Obj1.new w TS #[.slice A n c]).alloc (.cells (c4 0 0 0 none 0 0) TI))
  have HR := Lib.hid (Obj1.new (w.alloc (.cells #[.slice A n c] TS)) TI (c4 0 0 0 none 0 0))
  rw [e1] at HR
  have k0 := HO.out.cell 0
  obtain ⟨z0, z1, z2, z3⟩ := cells4 HR.out
  have f0 := HR.out.free 0
  have f1 := HR.out.free 1
  have f2 := HR.out.free 2
  have f3 := HR.out.free 3
  go_enter Try.func29, Try.ntmps29
  go_wp2
  refine bodyPost_ret (v := .tuple #[zi, .int .i64 10]) (by simp [results, Try.results29, go_sem, z0, z1, z2, z3]) rfl ⟨rfl, Lib.hid ?_⟩
  exact HB.out
theorem lst_of_obj {w : World} {g n : Nat} {T : TypeId} {xs : List Value} (h : Obj1 w g T xs.toArray) (hn : xs.length = n) : Lst w (some ⟨g, 0, none⟩) n xs :=
  ⟨hn, fun _ => ⟨g, 0, rfl, h.lt, fun k hk => by rw [Nat.zero_add, h.cell, List.getElem?_toArray]⟩⟩
/-- What Read tells of 11 bytes or more. -/
inductive ROut (w w' : World) (bs : List Nat) (n : Nat) : Value → Int → Prop
  | form (h : ¬ (pre2 bs = true ∧ n = 11 + b2 bs 7)) : ROut w w' bs n zi 11
  | sum (h : pre2 bs = true ∧ n = 11 + b2 bs 7) (h2 : b2 bs (n - 2) ≠ sumL 65535 (bs.take (n - 2))) : ROut w w' bs n zi 12
  | right (h : pre2 bs = true ∧ n = 11 + b2 bs 7) (h2 : b2 bs (n - 2) = sumL 65535 (bs.take (n - 2))) (h3 : ¬ RI (bs.getD 2 0 : Nat) (b2 bs 3 : Nat) (b2 bs 5 : Nat) (n - 11)) : ROut w w' bs n zi 11
  | ok (h : pre2 bs = true ∧ n = 11 + b2 bs 7) (h2 : b2 bs (n - 2) = sumL 65535 (bs.take (n - 2))) (h3 : RI (bs.getD 2 0 : Nat) (b2 bs 3 : Nat) (b2 bs 5 : Nat) (n - 11)) (g : Nat) (hg : w.heap.size ≤ g) (hl : Lst w' (some ⟨g, 0, none⟩) (n - 11) (u8s ((bs.drop 9).take (n - 11)))) :
      ROut w w' bs n (imv (bs.getD 2 0 : Nat) (b2 bs 3 : Nat) (b2 bs 5 : Nat) (some ⟨g, 0, none⟩) (n - 11) (n - 11)) 0
def zsU (C : Nat) : Array Value := (List.replicate C (Value.int .u8 0)).toArray
theorem mk_u8 (C : Nat) (hC : C ≤ 100000) (W : World) : (Instr.makeSlice TS (.int .i64 (C : Int)) (.int .i64 (C : Int))).run Try.prog W = .ok (.slice (some ⟨W.heap.size, 0, none⟩) C C) (W.alloc (.cells (zsU C) TU)) := by
  obtain ⟨i0, hi, hz0, hz1, hz2⟩ := info_parts info_u8
  rw [run_make W TS TU i0 (.int .u8 0) Try.underlying26 hi hz0 .i64 .i64 C C (by omega) (by omega) (by rw [hz2]; omega) (by omega), hz1]
  simp only [Int.toNat_natCast, Nat.mul_one]
  have e : madeCells (Value.cells (.int .u8 0)) C = zsU C := by
    apply Array.ext
    · simp [madeCells, zsU]
    · intro i h1 h2
      simp [madeCells, zsU, Value.cells, Nat.mod_one]
  rw [e]
theorem size_u8 (W : World) : (sizeOf (Try.prog.elem TS)).run Try.prog W = .ok 1 W := by kernel_rfl
/-- A new image, all zero. -/
def New9 (w : World) : Sp := fun v x => ∃ g, v = .pointer (some ⟨g, 0, none⟩) ∧ w.heap.size ≤ g ∧ Obj1 x g TI (c4 0 0 0 none 0 0)
theorem new9_stable (w : World) : Stable (New9 w) := fun v a b ⟨g, e, h, ho⟩ hb => ⟨g, e, h, ho.kept hb⟩
theorem new9_new {w x : World} (h : w.heap.size ≤ x.heap.size) : New9 w (.pointer (some ⟨x.heap.size, 0, none⟩)) (x.alloc (.cells (c4 0 0 0 none 0 0) TI)) := ⟨_, rfl, h, Obj1.new _ _ _⟩
def R9 (w wc : World) (gB M E0 E1 : Nat) (v : Value) (wx : World) : Prop :=
  ∃ g6, v = .pointer (some ⟨g6, 0, none⟩) ∧ w.heap.size ≤ g6 ∧ gB + 1 < g6 ∧ Obj1 wx g6 TI (c4 M E0 E1 none 0 0) ∧ Below wc.heap.size wc wx
theorem r9_end {w wc W : World} {gB M E0 E1 g : Nat} (ho : Obj1 W g TI (c4 0 0 0 none 0 0)) (h : Below wc.heap.size wc W) (hg : wc.heap.size ≤ g) (hs : w.heap.size ≤ wc.heap.size ∧ gB + 1 < wc.heap.size) :
    R9 w wc gB M E0 E1 (.pointer (some ⟨g, 0, none⟩)) ((((W.setCell ⟨g, 0, none⟩ (.int .i64 M)).setCell ⟨g, 1, none⟩ (.int .i64 E0)).setCell ⟨g, 2, none⟩ (.int .i64 E1)).setCell ⟨g, 3, none⟩ (.slice none 0 0)) :=
  ⟨g, rfl, by omega, by omega, (((ho.set 0 (.int .i64 M)).set 1 (.int .i64 E0)).set 2 (.int .i64 E1)).set 3 (.slice none 0 0), (((h.setCell (by simpa using hg) _).setCell (by simpa using hg) _).setCell (by simpa using hg) _).setCell (by simpa using hg) _⟩
set_option maxRecDepth 100000 in
set_option maxHeartbeats 2000000 in
theorem read_any (A : Option Addr) (n c : Nat) (bs : List Nat) (w : World) (hn : 11 ≤ n) (hn2 : n ≤ 100000) (hnc : n ≤ c) (hc : c ≤ 9223372036854775807) (hl : Lst w A n (u8s bs)) (hb : ∀ x ∈ bs, x < 256) :
    Calls Try.prog 29 #[.slice A n c] w fun e w' => ∃ v x, e = .returned (.tuple #[v, .int .i64 x]) ∧ Hid (ROut w w' bs n v x) ∧ Hid (Below w.heap.size w w') := by
  obtain ⟨i0, hi, hz0, hz1, hz2⟩ := info_parts info_u8
  have HBL := Lib.hid (show bs.length = n by have := hl.1; rwa [u8s_len] at this)
  have HBB := Lib.hid hb
  have HL := Lib.hid hl
  have HB := Lib.hid (show Below w.heap.size w ((w.alloc (.cells #[.slice A n c] TS)).alloc (.cells (c4 0 0 0 none 0 0) TI)) from ((Below.refl _ _).alloc (Nat.le_refl _) _).alloc (by simp) _)
  have e1 : (w.alloc (.cells #[.slice A n c] TS)).heap.size = w.heap.size + 1 := by simp
  have HO := Lib.hid ((Obj1.new w TS #[.slice A n c]).alloc (.cells (c4 0 0 0 none 0 0) TI))
  have HR := Lib.hid (Obj1.new (w.alloc (.cells #[.slice A n c] TS)) TI (c4 0 0 0 none 0 0))
  rw [e1] at HR
  obtain ⟨gB, HGB⟩ : ∃ gB, Hid (w.heap.size = gB) := ⟨_, Lib.hid rfl⟩
  rw [HGB.out] at HO HR
  have kc := fun (X : World) => Go.Lib.run_convert_bytes_const (P := Try.prog) X 26 TU #[.int .u8 84, .int .u8 49] 2 2 Try.underlying26 Try.underlying5
  clear hl hb e1
  go_enter Try.func29, Try.ntmps29
  go_wp2_with fail
  rw [HGB.out]
  generalize (w.alloc (.cells #[.slice A n c] TS)).alloc (.cells #[.int .i64 0, .int .i64 0, .int .i64 0, .slice none 0 0] TI) = w2 at HB HO HR ⊢
  refine (two_any gB 7 A n c bs w2 (HO.out.cell 0) (HL.out.kept HB.out) HBB.out (by omega) hn2).mono ?_
  rintro e w3 ⟨rfl, hb3⟩
  have HB3 := Lib.hid (HB.out.trans (hb3.mono HB.out.size))
  have HO3 := Lib.hid (HO.out.kept hb3)
  have HR3 := Lib.hid (HR.out.kept hb3)
  have hT := b2_lt HBB.out 7
  obtain ⟨T, HT⟩ : ∃ T, Hid (b2 bs 7 = T) := ⟨_, Lib.hid rfl⟩
  rw [HT.out] at hT ⊢
  have k0 := HO3.out.cell 0
  have HBM := Lib.hid (HB3.out.alloc HB3.out.size (.cells #[.int .u8 84, .int .u8 49] TU (2, 3)))
  have HOM := Lib.hid (HO3.out.alloc (.cells #[.int .u8 84, .int .u8 49] TU (2, 3)))
  have HRM := Lib.hid (HR3.out.alloc (.cells #[.int .u8 84, .int .u8 49] TU (2, 3)))
  have HPL : Hid (Lst (w3.alloc (.cells #[.int .u8 84, .int .u8 49] TU (2, 3))) (some ⟨w3.heap.size, 0, none⟩) 2 (u8s [84, 49])) := Lib.hid ⟨rfl, fun _ => ⟨w3.heap.size, 0, rfl, by simp, fun k hk => by
    have hg : (w3.alloc (.cells #[.int .u8 84, .int .u8 49] TU (2, 3))).heap[w3.heap.size]? = some (.cells #[.int .u8 84, .int .u8 49] TU (2, 3)) := by show (w3.heap.push _)[w3.heap.size]? = _; simp
    rw [Nat.zero_add]
    unfold World.cell?
    simp only [hg]
    rcases (show k = 0 ∨ k = 1 by omega) with rfl | rfl <;> simp [u8s]⟩⟩
  have kc1 := kc w3
  clear kc hb3 HB HO HR
  go_wp2_with fail
  clear k0 kc1
  have HPX := Lib.hid (prefix_any A (some ⟨w3.heap.size, 0, none⟩) n c 2 bs _ (HL.out.kept HBM.out) HPL.out HBB.out (by omega) hnc hc)
  rw [show decide (bs.take 2 = [84, 49]) = pre2 bs from rfl] at HPX
  obtain ⟨q, HQ⟩ : ∃ q, Hid (pre2 bs = q) := ⟨_, Lib.hid rfl⟩
  rw [HQ.out] at HPX
  refine HPX.out.mono ?_
  clear HPX HPL HB3 HO3 HR3
  generalize w3.alloc (.cells #[.int .u8 84, .int .u8 49] TU (2, 3)) = w4 at HBM HOM HRM
  rintro e w' ⟨rfl, rfl⟩
  have k0 := HOM.out.cell 0
  by_cases hform : q = true ∧ n = 11 + T
  · obtain ⟨rfl, hnT⟩ := hform
    obtain ⟨K, hKn⟩ : ∃ K, 9 + T = K := ⟨_, rfl⟩
    have hKI : (9 : Int) + (T : Int) = (K : Int) := by omega
    rw [hKI]
    have HYF : Hid (pre2 bs = true ∧ n = 11 + b2 bs 7) := Lib.hid (by rw [HQ.out, HT.out]; exact ⟨rfl, hnT⟩)
    have hnK : (n : Int) = (K : Int) + 2 := by omega
    have hnK2 : n - 2 = K := by omega
    have hK9 : 9 ≤ K := by omega
    clear hKI hKn hnT
    have HF4 := Lib.hid (fun W (h : Below w4.heap.size w4 W) => two_any gB K A n c bs W ((HOM.out.kept h).cell 0) ((HL.out.kept HBM.out).kept h) HBB.out (by omega) hn2)
    have HL4 := Lib.hid (lst_front (HL.out.kept HBM.out) K (by omega))
    have HS4 : Hid (∀ W g, Below w4.heap.size w4 W → Lst W (some ⟨g, 0, none⟩) 1 [.slice A K c] → Calls Try.prog 31 #[.slice (some ⟨g, 0, none⟩) 1 1] W fun e w' => e = .returned (.int .u16 ((sumL 65535 (bs.take K) : Nat) : Int)) ∧ W = w') := Lib.hid (fun W g h hw => by
      have hr : BRows W (some ⟨g, 0, none⟩) [⟨A, K, c, bs.take K⟩] := by
        refine ⟨hw, fun r hr => ?_⟩
        simp at hr
        subst hr
        exact ⟨HL4.out.kept h, fun x hx => HBB.out x (List.mem_of_mem_take hx), by show K ≤ _; omega⟩
      have := sum_any _ 1 _ _ hr (by simp)
      rw [show allB [(⟨A, K, c, bs.take K⟩ : BRow)] = bs.take K by simp [allB]] at this
      exact this)
    have HSL := Lib.hid (sumL_lt (s := 65535) (by omega) (fun x hx => HBB.out x (List.mem_of_mem_take (i := K) hx)))
    obtain ⟨S, HSS⟩ : ∃ S, Hid (sumL 65535 (bs.take K) = S) := ⟨_, Lib.hid rfl⟩
    obtain ⟨Z, HZZ⟩ : ∃ Z, Hid (b2 bs K = Z) := ⟨_, Lib.hid rfl⟩
    rw [HSS.out] at HS4 HSL
    rw [HZZ.out] at HF4
    have hS := HSL.out
    have hwS : IntKind.i64.wrap (S : Int) = (S : Int) := IntWalk.i64_in _ (by omega)
    have hkc : (K : Int) ≤ (c : Int) := by omega
    go_upto_region 7 with (fail)
    go_cut [37] from 28 to 37 (fun s wx => s = .bool ((Z : Int) != (S : Int)) ∧ Below w4.heap.size w4 wx)
    case first =>
      have hbd : Below w4.heap.size w4 w4.drew := (Below.refl _ _).drew
      have k0' : w4.drew.cell? ⟨gB, 0, none⟩ = some (.slice A n c) := HOM.out.cell 0
      refine wp_region_any (by kernel_rfl) ?_
      change wpAny _ _ _ _ _ _ _ (World.drew _)
      refine wpAny_take (i := 0) (v := .func (Fn.func 52) #[] #[.pointer (some ⟨gB, 0, none⟩)]) rfl (by kernel_rfl) (by kernel_rfl) (by kernel_rfl) (fun _ _ _ h => h) (Or.inl ⟨by rfl, fun w => by go_simp⟩) ?_
      try simp only [Act.put, List.getElem_toArray, List.getElem_cons_succ, List.getElem_cons_zero, List.setIfInBounds_toArray, List.set_cons_zero, List.set_cons_succ]
      refine wpAny_take (i := 1) (v := .int .i64 (K : Int)) rfl (by kernel_rfl) (by kernel_rfl) (by kernel_rfl) (fun _ _ _ h => h) (Or.inl ⟨by rfl, fun w => by go_simp⟩) ?_
      try simp only [Act.put, List.getElem_toArray, List.getElem_cons_succ, List.getElem_cons_zero, List.setIfInBounds_toArray, List.set_cons_zero, List.set_cons_succ]
      refine wpAny_take (i := 4) (v := .int .i64 (K : Int)) rfl (by kernel_rfl) (by kernel_rfl) (by kernel_rfl) (fun _ _ _ h => h) (Or.inl ⟨by rfl, fun w => by go_simp⟩) ?_
      try simp only [Act.put, List.getElem_toArray, List.getElem_cons_succ, List.getElem_cons_zero, List.setIfInBounds_toArray, List.set_cons_zero, List.set_cons_succ]
      refine wpAny_ready (rs := [2, 3]) (by kernel_rfl) (by simp) ?_
      refine AllReady.cons rfl (fun KK hK => ?_) (AllReady.cons rfl (fun KK hK => ?_) AllReady.nil)
      · go_simp
        refine (HF4.out w4.drew hbd).mono ?_
        rintro e wa ⟨rfl, hba⟩
        have hbA : Below w4.heap.size w4 wa := hbd.trans (hba.mono (Nat.le_refl _))
        have k1 : wa.cell? ⟨gB, 0, none⟩ = some (.slice A n c) := (HOM.out.kept hbA).cell 0
        refine hK _ _ ?_
        clear hK KK
        try simp only [Act.put, List.getElem_toArray, List.getElem_cons_succ, List.getElem_cons_zero, List.setIfInBounds_toArray, List.set_cons_zero, List.set_cons_succ]
        refine wpAny_ready (rs := [3]) (by kernel_rfl) (by simp) ?_
        refine AllReady.cons rfl (fun KK hK => ?_) AllReady.nil
        go_simp
        refine hK _ _ ?_
        clear hK KK
        try simp only [Act.put, List.getElem_toArray, List.getElem_cons_succ, List.getElem_cons_zero, List.setIfInBounds_toArray, List.set_cons_zero, List.set_cons_succ]
        refine wpAny_take (i := 5) (v := .slice A K c) rfl (by kernel_rfl) (by kernel_rfl) (by kernel_rfl) (fun _ _ _ h => h) (Or.inl ⟨by rfl, fun w => by go_simp⟩) ?_
        try simp only [Act.put, List.getElem_toArray, List.getElem_cons_succ, List.getElem_cons_zero, List.setIfInBounds_toArray, List.set_cons_zero, List.set_cons_succ]
        refine wpAny_ready (rs := [6]) (by kernel_rfl) (by simp) ?_
        refine AllReady.cons rfl (fun KK hK => ?_) AllReady.nil
        go_simp
        refine hK _ _ ?_
        clear hK KK
        try simp only [Act.put, List.getElem_toArray, List.getElem_cons_succ, List.getElem_cons_zero, List.setIfInBounds_toArray, List.set_cons_zero, List.set_cons_succ]
        refine wpAny_ready (rs := [7]) (by kernel_rfl) (by simp) ?_
        refine AllReady.cons rfl (fun KK hK => ?_) AllReady.nil
        go_simp
        refine (HS4.out (wa.alloc (.cells #[.slice A K c] TS)) wa.heap.size (hbA.alloc hbA.size _) (lst_new wa TS [.slice A K c])).mono ?_
        rintro e wz ⟨rfl, rfl⟩
        refine hK _ _ ?_
        clear hK KK
        try simp only [Act.put, List.getElem_toArray, List.getElem_cons_succ, List.getElem_cons_zero, List.setIfInBounds_toArray, List.set_cons_zero, List.set_cons_succ]
        refine wpAny_take (i := 8) (v := .int .i64 (S : Int)) rfl (by kernel_rfl) (by kernel_rfl) (by kernel_rfl) (fun _ _ _ h => h) (Or.inl ⟨by rfl, fun w => by go_simp⟩) ?_
        try simp only [Act.put, List.getElem_toArray, List.getElem_cons_succ, List.getElem_cons_zero, List.setIfInBounds_toArray, List.set_cons_zero, List.set_cons_succ]
        refine wpAny_take (i := 9) (v := .bool ((Z : Int) != (S : Int))) rfl (by kernel_rfl) (by kernel_rfl) (by kernel_rfl) (fun _ _ _ h => h) (Or.inl ⟨by rfl, fun w => by go_simp⟩) ?_
        try simp only [Act.put, List.getElem_toArray, List.getElem_cons_succ, List.getElem_cons_zero, List.setIfInBounds_toArray, List.set_cons_zero, List.set_cons_succ]
        refine wpAny_done (by kernel_rfl) ?_ _
        go_wp2_with fail
        go_meet
        exact ⟨rfl, hbA.alloc hbA.size _⟩
      · go_simp
        refine hK _ _ ?_
        clear hK KK
        try simp only [Act.put, List.getElem_toArray, List.getElem_cons_succ, List.getElem_cons_zero, List.setIfInBounds_toArray, List.set_cons_zero, List.set_cons_succ]
        refine wpAny_take (i := 5) (v := .slice A K c) rfl (by kernel_rfl) (by kernel_rfl) (by kernel_rfl) (fun _ _ _ h => h) (Or.inl ⟨by rfl, fun w => by go_simp⟩) ?_
        try simp only [Act.put, List.getElem_toArray, List.getElem_cons_succ, List.getElem_cons_zero, List.setIfInBounds_toArray, List.set_cons_zero, List.set_cons_succ]
        refine wpAny_ready (rs := [2, 6]) (by kernel_rfl) (by simp) ?_
        refine AllReady.cons rfl (fun KK hK => ?_) (AllReady.cons rfl (fun KK hK => ?_) AllReady.nil)
        · go_simp
          refine (HF4.out w4.drew hbd).mono ?_
          rintro e wa ⟨rfl, hba⟩
          have hbA : Below w4.heap.size w4 wa := hbd.trans (hba.mono (Nat.le_refl _))
          refine hK _ _ ?_
          clear hK KK
          try simp only [Act.put, List.getElem_toArray, List.getElem_cons_succ, List.getElem_cons_zero, List.setIfInBounds_toArray, List.set_cons_zero, List.set_cons_succ]
          refine wpAny_ready (rs := [6]) (by kernel_rfl) (by simp) ?_
          refine AllReady.cons rfl (fun KK hK => ?_) AllReady.nil
          go_simp
          refine hK _ _ ?_
          clear hK KK
          try simp only [Act.put, List.getElem_toArray, List.getElem_cons_succ, List.getElem_cons_zero, List.setIfInBounds_toArray, List.set_cons_zero, List.set_cons_succ]
          refine wpAny_ready (rs := [7]) (by kernel_rfl) (by simp) ?_
          refine AllReady.cons rfl (fun KK hK => ?_) AllReady.nil
          go_simp
          refine (HS4.out (wa.alloc (.cells #[.slice A K c] TS)) wa.heap.size (hbA.alloc hbA.size _) (lst_new wa TS [.slice A K c])).mono ?_
          rintro e wz ⟨rfl, rfl⟩
          refine hK _ _ ?_
          clear hK KK
          try simp only [Act.put, List.getElem_toArray, List.getElem_cons_succ, List.getElem_cons_zero, List.setIfInBounds_toArray, List.set_cons_zero, List.set_cons_succ]
          refine wpAny_take (i := 8) (v := .int .i64 (S : Int)) rfl (by kernel_rfl) (by kernel_rfl) (by kernel_rfl) (fun _ _ _ h => h) (Or.inl ⟨by rfl, fun w => by go_simp⟩) ?_
          try simp only [Act.put, List.getElem_toArray, List.getElem_cons_succ, List.getElem_cons_zero, List.setIfInBounds_toArray, List.set_cons_zero, List.set_cons_succ]
          refine wpAny_take (i := 9) (v := .bool ((Z : Int) != (S : Int))) rfl (by kernel_rfl) (by kernel_rfl) (by kernel_rfl) (fun _ _ _ h => h) (Or.inl ⟨by rfl, fun w => by go_simp⟩) ?_
          try simp only [Act.put, List.getElem_toArray, List.getElem_cons_succ, List.getElem_cons_zero, List.setIfInBounds_toArray, List.set_cons_zero, List.set_cons_succ]
          refine wpAny_done (by kernel_rfl) ?_ _
          go_wp2_with fail
          go_meet
          exact ⟨rfl, hbA.alloc hbA.size _⟩
        · go_simp
          refine hK _ _ ?_
          clear hK KK
          try simp only [Act.put, List.getElem_toArray, List.getElem_cons_succ, List.getElem_cons_zero, List.setIfInBounds_toArray, List.set_cons_zero, List.set_cons_succ]
          refine wpAny_ready (rs := [2]) (by kernel_rfl) (by simp) ?_
          refine AllReady.cons rfl (fun KK hK => ?_) AllReady.nil
          go_simp
          have hbe : Below w4.heap.size w4 (w4.alloc (.cells #[.slice A K c] TS)).drew := ((Below.refl _ _).alloc (Nat.le_refl _) _).drew
          refine (HF4.out (w4.alloc (.cells #[.slice A K c] TS)).drew hbe).mono ?_
          rintro e wa ⟨rfl, hba⟩
          have hbA : Below w4.heap.size w4 wa := hbe.trans (hba.mono (by simp))
          have hln : Lst wa (some ⟨w4.heap.size, 0, none⟩) 1 [.slice A K c] := ((lst_new w4 TS [.slice A K c]).drew).kept hba
          refine hK _ _ ?_
          clear hK KK
          try simp only [Act.put, List.getElem_toArray, List.getElem_cons_succ, List.getElem_cons_zero, List.setIfInBounds_toArray, List.set_cons_zero, List.set_cons_succ]
          refine wpAny_ready (rs := [7]) (by kernel_rfl) (by simp) ?_
          refine AllReady.cons rfl (fun KK hK => ?_) AllReady.nil
          go_simp
          refine (HS4.out wa w4.heap.size hbA hln).mono ?_
          rintro e wz ⟨rfl, rfl⟩
          refine hK _ _ ?_
          clear hK KK
          try simp only [Act.put, List.getElem_toArray, List.getElem_cons_succ, List.getElem_cons_zero, List.setIfInBounds_toArray, List.set_cons_zero, List.set_cons_succ]
          refine wpAny_take (i := 8) (v := .int .i64 (S : Int)) rfl (by kernel_rfl) (by kernel_rfl) (by kernel_rfl) (fun _ _ _ h => h) (Or.inl ⟨by rfl, fun w => by go_simp⟩) ?_
          try simp only [Act.put, List.getElem_toArray, List.getElem_cons_succ, List.getElem_cons_zero, List.setIfInBounds_toArray, List.set_cons_zero, List.set_cons_succ]
          refine wpAny_take (i := 9) (v := .bool ((Z : Int) != (S : Int))) rfl (by kernel_rfl) (by kernel_rfl) (by kernel_rfl) (fun _ _ _ h => h) (Or.inl ⟨by rfl, fun w => by go_simp⟩) ?_
          try simp only [Act.put, List.getElem_toArray, List.getElem_cons_succ, List.getElem_cons_zero, List.setIfInBounds_toArray, List.set_cons_zero, List.set_cons_succ]
          refine wpAny_done (by kernel_rfl) ?_ _
          go_wp2_with fail
          go_meet
          exact ⟨rfl, hbA⟩
    case rest =>
      obtain ⟨rfl, hb5⟩ := hcut
      obtain ⟨w5, h5⟩ : ∃ w5, w5 = wc := ⟨_, rfl⟩
      subst h5
      have HB5 := Lib.hid (HBM.out.trans (hb5.mono HBM.out.size))
      have HO5 := Lib.hid (HOM.out.kept hb5)
      have HR5 := Lib.hid (HRM.out.kept hb5)
      have HL5 := Lib.hid (HL.out.kept HB5.out)
      have HSZ : Hid (w.heap.size ≤ w5.heap.size ∧ gB + 1 < w5.heap.size) := Lib.hid ⟨HB5.out.size, HR5.out.lt⟩
      clear hb5 HOM HRM HBM HF4 HS4 HL4 k0
      by_cases hsum : Z = S
      · have hz : ((Z : Int) != (S : Int)) = false := by subst hsum; simp
        rw [hz]
        have HYS : Hid (b2 bs (n - 2) = sumL 65535 (bs.take (n - 2))) := Lib.hid (by rw [hnK2, HZZ.out, HSS.out, hsum])
        obtain ⟨M, HM⟩ : ∃ M, Hid (bs.getD 2 0 = M) := ⟨_, Lib.hid rfl⟩
        obtain ⟨E0, HE0⟩ : ∃ E0, Hid (b2 bs 3 = E0) := ⟨_, Lib.hid rfl⟩
        obtain ⟨E1, HE1⟩ : ∃ E1, Hid (b2 bs 5 = E1) := ⟨_, Lib.hid rfl⟩
        have hM8 : M < 256 := by rw [← HM.out]; exact getD_lt HBB.out 2
        obtain ⟨b9, o9, hA9, hlt9, hc9⟩ := lst_at HL5.out (show 2 < n by omega)
        rw [HM.out] at hc9
        have HF3 := Lib.hid (fun W (h : Below w5.heap.size w5 W) => two_any gB 3 A n c bs W ((HO5.out.kept h).cell 0) (HL5.out.kept h) HBB.out (by omega) hn2)
        have HF5 := Lib.hid (fun W (h : Below w5.heap.size w5 W) => two_any gB 5 A n c bs W ((HO5.out.kept h).cell 0) (HL5.out.kept h) HBB.out (by omega) hn2)
        rw [HE0.out] at HF3
        rw [HE1.out] at HF5
        have HK9 : Hid (∀ W, Below w5.heap.size w5 W → W.cell? ⟨gB, 0, none⟩ = some (.slice A n c)) := Lib.hid (fun W h => (HO5.out.kept h).cell 0)
        have HC9 : Hid (∀ W, Below w5.heap.size w5 W → W.cell? ⟨b9, o9 + 2, none⟩ = some (.int .u8 (M : Int))) := Lib.hid (fun W h => (h.cell (p := ⟨b9, o9 + 2, none⟩) hlt9).trans hc9)
        subst hA9
        have hwM : IntKind.i64.wrap (M : Int) = (M : Int) := IntWalk.i64_in _ (by omega)
        have hi9 : ¬ ((K : Int) + 2 ≤ 2) := by omega
        have hi9' : (2 : Int) < (K : Int) + 2 := by omega
        go_upto_region 9 with (fail)
        go_cut [6] from 38 to 48 (fun v wx => R9 w w5 gB M E0 E1 v wx)
        case first =>
          have hdr : Below w5.heap.size w5 w5.drew := (Below.refl _ _).drew
          have hK0 : ∀ x : Kin w5.drew, x.world.cell? ⟨gB, 0, none⟩ = some (.slice (some ⟨b9, o9, none⟩) n c) := fun x => HK9.out x.world (hdr.trans x.below)
          have hK1 : ∀ x : Kin w5.drew, x.world.cell? ⟨b9, o9 + 2, none⟩ = some (.int .u8 (M : Int)) := fun x => HC9.out x.world (hdr.trans x.below)
          have HS9 := Lib.hid (show w5.drew.heap.size = w5.heap.size from rfl)
          refine wp_region_specL 11 [.d (.slice (some ⟨b9, o9, none⟩) n c), .d (.pointer (some ⟨b9, o9 + 2, none⟩)), .d (.int .u8 (M : Int)), .d (.int .i64 (M : Int)),
            .d (.func (Fn.func 52) #[] #[.pointer (some ⟨gB, 0, none⟩)]), .d (.int .i64 (E0 : Int)), .d (.func (Fn.func 52) #[] #[.pointer (some ⟨gB, 0, none⟩)]), .d (.int .i64 (E1 : Int)),
            .d (.agg #[.int .i64 (E0 : Int), .int .i64 (E1 : Int)]), .d (imv (M : Int) (E0 : Int) (E1 : Int) none 0 0), .g (New9 w5)] (by kernel_rfl) (by kernel_rfl) ?_
          refine spec_d rfl (fun x _ => gives_run (by go_simp)) ?_
          try simp only [Act.put, List.getElem_toArray, List.getElem_cons_succ, List.getElem_cons_zero, List.setIfInBounds_toArray, List.set_cons_zero, List.set_cons_succ]
          refine spec_d rfl (fun x _ => gives_run (by go_simp)) ?_
          try simp only [Act.put, List.getElem_toArray, List.getElem_cons_succ, List.getElem_cons_zero, List.setIfInBounds_toArray, List.set_cons_zero, List.set_cons_succ]
          refine spec_d rfl (fun x _ => gives_run (by go_simp)) ?_
          try simp only [Act.put, List.getElem_toArray, List.getElem_cons_succ, List.getElem_cons_zero, List.setIfInBounds_toArray, List.set_cons_zero, List.set_cons_succ]
          refine spec_d rfl (fun x _ => gives_run (by go_simp)) ?_
          try simp only [Act.put, List.getElem_toArray, List.getElem_cons_succ, List.getElem_cons_zero, List.setIfInBounds_toArray, List.set_cons_zero, List.set_cons_succ]
          refine spec_d rfl (fun x _ => gives_run (by go_simp)) ?_
          try simp only [Act.put, List.getElem_toArray, List.getElem_cons_succ, List.getElem_cons_zero, List.setIfInBounds_toArray, List.set_cons_zero, List.set_cons_succ]
          refine spec_d rfl (fun x _ => gives_det (by go_simp) (HF3.out x.world (hdr.trans x.below))) ?_
          try simp only [Act.put, List.getElem_toArray, List.getElem_cons_succ, List.getElem_cons_zero, List.setIfInBounds_toArray, List.set_cons_zero, List.set_cons_succ]
          refine spec_d rfl (fun x _ => gives_run (by go_simp)) ?_
          try simp only [Act.put, List.getElem_toArray, List.getElem_cons_succ, List.getElem_cons_zero, List.setIfInBounds_toArray, List.set_cons_zero, List.set_cons_succ]
          refine spec_d rfl (fun x _ => gives_det (by go_simp) (HF5.out x.world (hdr.trans x.below))) ?_
          try simp only [Act.put, List.getElem_toArray, List.getElem_cons_succ, List.getElem_cons_zero, List.setIfInBounds_toArray, List.set_cons_zero, List.set_cons_succ]
          refine spec_d rfl (fun x _ => gives_run (by go_simp)) ?_
          try simp only [Act.put, List.getElem_toArray, List.getElem_cons_succ, List.getElem_cons_zero, List.setIfInBounds_toArray, List.set_cons_zero, List.set_cons_succ]
          refine spec_d rfl (fun x _ => gives_run (by go_simp)) ?_
          try simp only [Act.put, List.getElem_toArray, List.getElem_cons_succ, List.getElem_cons_zero, List.setIfInBounds_toArray, List.set_cons_zero, List.set_cons_succ]
          refine spec_g (new9_stable w5) ⟨_, ⟨⟨_, (Below.refl _ _).alloc (Nat.le_refl _) _⟩, new9_new (by rw [HS9.out]; exact Nat.le_refl _)⟩⟩ rfl (fun x _ => gives_ok (by go_simp) ((Below.refl _ _).alloc (Nat.le_refl _) _) (new9_new (by have := x.below.size; rw [HS9.out] at this; exact this))) ?_
          rintro v ⟨y, g6, rfl, hg6, _⟩
          try simp only [Act.put, List.getElem_toArray, List.getElem_cons_succ, List.getElem_cons_zero, List.setIfInBounds_toArray, List.set_cons_zero, List.set_cons_succ]
          refine spec_end (fun x hx => ?_)
          obtain ⟨g, hge, hgs, hgo⟩ := hx _ (List.mem_singleton.2 rfl)
          obtain rfl : g6 = g := by injection hge with e; injection e with e; injection e
          have HGO := Lib.hid hgo
          obtain ⟨z0, z1, z2, z3⟩ := cells4 hgo
          have f0 := hgo.free 0
          have f1 := hgo.free 1
          have f2 := hgo.free 2
          have f3 := hgo.free 3
          clear hx hge hgo
          change wpAny _ _ _ _ (0 + 1) _ _ _
          refine wpAny_ready (rs := [11]) (by kernel_rfl) (by simp) ?_
          refine AllReady.cons rfl (fun KK hK => ?_) AllReady.nil
          go_simp
          refine hK _ _ ?_
          clear hK KK
          try simp only [Act.put, List.getElem_toArray, List.getElem_cons_succ, List.getElem_cons_zero, List.setIfInBounds_toArray, List.set_cons_zero, List.set_cons_succ]
          refine wpAny_done (by kernel_rfl) ?_ _
          go_wp2_with fail
          go_meet
          exact r9_end HGO.out (hdr.trans x.below) hgs HSZ.out
        case rest =>
          obtain ⟨g6, rfl, hg6, hgB6, ho6, hb6⟩ := hcut
          have HB6 := Lib.hid (HB5.out.trans (hb6.mono HB5.out.size))
          have HO6 := Lib.hid (HO5.out.kept hb6)
          have HR6 := Lib.hid (HR5.out.kept hb6)
          have HL6 := Lib.hid (HL5.out.kept hb6)
          have H6 := Lib.hid ho6
          have HG6 := Lib.hid hg6
          have HGB6 := Lib.hid hgB6
          obtain ⟨C, HC⟩ : ∃ C : Nat, Hid (n - 11 = C) := ⟨_, Lib.hid rfl⟩
          have hKC : (K : Int) - 9 = (C : Int) := by have := HC.out; omega
          have hc5 : C ≤ 100000 := by have := HC.out; omega
          have H1 := Lib.hid (ho6.alloc (.cells (zsU C) TU))
          have H2 := Lib.hid ((HO6.out.alloc (.cells (zsU C) TU)))
          clear hb6 ho6 hg6 hgB6 HB5 HO5 HR5 HL5 HF3 HF5 HK9 HC9 hi9 hi9'
          have u3 := H1.out.cell 3
          have f3 := H1.out.free 3
          have hmk := fun W => mk_u8 C hc5 W
          have es : (wc.setCell ⟨g6, 3, none⟩ (.slice (some ⟨wc.heap.size, 0, none⟩) C C)).heap.size = wc.heap.size := by simp
          have HW7 : Hid (Below w.heap.size w ((wc.setCell ⟨g6, 3, none⟩ (.slice (some ⟨wc.heap.size, 0, none⟩) C C)).alloc (.cells (zsU C) TU))) := Lib.hid ((HB6.out.setCell (by simpa using HG6.out) _).alloc (by rw [es]; exact HB6.out.size) _)
          have HI7 := Lib.hid ((H6.out.set 3 (.slice (some ⟨wc.heap.size, 0, none⟩) C C)).alloc (.cells (zsU C) TU))
          have hcg : g6 < wc.heap.size := H6.out.lt
          have HM7 := Lib.hid (Obj1.new (wc.setCell ⟨g6, 3, none⟩ (.slice (some ⟨wc.heap.size, 0, none⟩) C C)) TU (zsU C))
          rw [es] at HM7
          have HR7 := Lib.hid ((HR6.out.far ⟨g6, 3, none⟩ (by have := HGB6.out; simp; omega) (.slice (some ⟨wc.heap.size, 0, none⟩) C C)).alloc (.cells (zsU C) TU))
          have HO7 := Lib.hid ((HO6.out.far ⟨g6, 3, none⟩ (by have := HGB6.out; simp; omega) (.slice (some ⟨wc.heap.size, 0, none⟩) C C)).alloc (.cells (zsU C) TU))
          have HGM : Hid (w.heap.size ≤ wc.heap.size ∧ gB + 1 < wc.heap.size ∧ g6 < wc.heap.size) := Lib.hid ⟨by have := HG6.out; omega, by have := HGB6.out; omega, hcg⟩
          obtain ⟨gM, HGMN⟩ : ∃ gM, Hid (wc.heap.size = gM) := ⟨_, Lib.hid rfl⟩
          rw [HGMN.out] at HW7 HI7 HM7 HR7 HO7 HGM
          go_wp2_with fail
          rw [HGMN.out]
          generalize (wc.setCell ⟨g6, 3, none⟩ (.slice (some ⟨gM, 0, none⟩) C C)).alloc (.cells (zsU C) TU) = w7 at HW7 HI7 HM7 HR7 HO7 ⊢
          clear u3 f3 hmk H1 H2 HB6 HO6 HR6 HL6 H6 HG6 hcg es
          have m3 := HI7.out.cell 3
          have m0 := HO7.out.cell 0
          have hsl := cut_lh (P := Try.prog) (t := TS) Try.underlying26 size_u8 (some ⟨b9, o9, none⟩) n c 9 K hK9 (by omega)
          rw [show ((9 : Nat) : Int) = 9 from rfl, show K - 9 = C by have := HC.out; omega] at hsl
          have HLX := Lib.hid ((lst_cut (l := 9) (h := K) (HL.out.kept HW7.out) hK9 (by omega) hnc).drew)
          rw [show K - 9 = C by have := HC.out; omega] at HLX
          obtain ⟨X, HX⟩ : ∃ X, Hid (cutA (some ⟨b9, o9, none⟩) 9 c = X) := ⟨_, Lib.hid rfl⟩
          rw [HX.out] at hsl HLX
          obtain ⟨ys, HY⟩ : ∃ ys, Hid (((u8s bs).drop 9).take C = ys) := ⟨_, Lib.hid rfl⟩
          rw [HY.out] at HLX
          have HYL := Lib.hid (show ys.length = C from HLX.out.1)
          have HY1 : Hid (∀ v ∈ ys, v.oneCell' = true) := Lib.hid (by
            rw [← HY.out]
            intro v hv
            have hv := List.mem_of_mem_drop (List.mem_of_mem_take hv)
            simp [u8s] at hv
            obtain ⟨x, _, rfl⟩ := hv
            rfl)
          obtain ⟨cz, HCZ⟩ : ∃ cz : Nat, Hid (c - 9 = cz) := ⟨_, Lib.hid rfl⟩
          rw [HCZ.out] at hsl
          obtain ⟨Z9, HZ9⟩ : ∃ Z9, Hid (List.replicate C (Value.int .u8 0) = Z9) := ⟨_, Lib.hid rfl⟩
          have HGM7 : Hid (w7.drew.heap[gM]? = some (.cells Z9.toArray TU (0, 0))) := Lib.hid (by rw [← HZ9.out]; exact HM7.out)
          have HZL : Hid (Z9.length = C) := Lib.hid (by rw [← HZ9.out]; simp)
          have HPOS : Hid (0 < ys.length → some (⟨gM, 0, none⟩ : Addr) = some ⟨gM, 0, none⟩ ∧ ∃ ad, X = some ad ∧ ∀ j v, ys[j]? = some v → w7.drew.cell? (ad.add j) = some v) := by
            refine Lib.hid (fun hp => ?_)
            rw [HYL.out] at hp
            obtain ⟨b, off, e, hlt, hc⟩ := HLX.out.2 hp
            refine ⟨rfl, ⟨b, off, none⟩, e, fun j v hv => ?_⟩
            have hj : j < ys.length := by
              rcases Nat.lt_or_ge j ys.length with h | h
              · exact h
              · rw [List.getElem?_eq_none h] at hv; cases hv
            rw [add_eq, hc j (by rw [← HYL.out]; exact hj), hv]
          go_still_tail 5, (by kernel_rfl)
          change wpList _ _ _ _ _ w7.drew
          refine wpList_copy_splice rfl (.tmp 54) (.tmp 57) TS TS rfl TU Try.underlying26 (by kernel_rfl) (some ⟨gM, 0, none⟩) X C C C cz rfl rfl gM 0 Z9 TU HGM7.out ys (by rw [HYL.out]; exact (Nat.min_self C).symm) HPOS.out (by rw [HYL.out, HZL.out]; omega) HY1.out gM w7 ((Below.refl _ _).drew) (Nat.le_refl _) ?_
          intro w8 hg8 hb8
          have hsp : splice Z9 0 ys = ys := by
            unfold splice
            rw [List.drop_of_length_le (by rw [HYL.out, HZL.out]; omega)]
            simp
          rw [hsp] at hg8
          have HW8 := Lib.hid (HW7.out.trans (hb8.mono HGM.out.1))
          have HI8 := Lib.hid (HI7.out.below hb8 HGM.out.2.2)
          have HR8 := Lib.hid (HR7.out.below hb8 HGM.out.2.1)
          have HYB : Hid (ys = u8s ((bs.drop 9).take (n - 11))) := Lib.hid (by
            rw [← HY.out, HC.out]
            simp [u8s])
          have HM8 : Hid (Obj1 w8 gM TU ys.toArray) := Lib.hid hg8.out
          have HGW := Lib.hid HGM.out.1
          have HGB8 := Lib.hid HGM.out.2.1
          clear hsp hg8 hb8 hsl m3 m0 HW7 HI7 HM7 HR7 HO7 HGM HLX HPOS HZL HGM7
          obtain ⟨q0, q1, q2, q3⟩ := cells4 (show Obj1 w8 g6 TI (c4 M E0 E1 (some ⟨gM, 0, none⟩) C C) from HI8.out)
          by_cases hri : RI M E0 E1 C
          · have HRI := Lib.hid hri
            clear hri
            go_wp2_with fail
            refine (right_yes M E0 E1 (some ⟨gM, 0, none⟩) C C w8 HRI.out).mono ?_
            rintro e w9 ⟨rfl, hb9⟩
            have HW9 := Lib.hid (HW8.out.trans (hb9.mono HW8.out.size))
            have HI9 := HI8.out.kept hb9
            have HR9 := HR8.out.kept hb9
            have HM9 := Lib.hid (HM8.out.kept hb9)
            clear q0 q1 q2 q3 hb9
            obtain ⟨q0, q1, q2, q3⟩ := cells4 (show Obj1 w9 g6 TI (c4 M E0 E1 (some ⟨gM, 0, none⟩) C C) from HI9)
            obtain ⟨z0, z1, z2, z3⟩ := cells4 HR9
            have f0 := HR9.free 0
            have f1 := HR9.free 1
            have f2 := HR9.free 2
            have f3 := HR9.free 3
            have HRX := Lib.hid ((((HR9.set 0 (.int .i64 M)).set 1 (.int .i64 E0)).set 2 (.int .i64 E1)).set 3 (.slice (some ⟨gM, 0, none⟩) C C))
            have HMX := Lib.hid ((((HM9.out.far ⟨gB + 1, 0, none⟩ (by have := HGB8.out; simp; omega) (.int .i64 M)).far ⟨gB + 1, 1, none⟩ (by have := HGB8.out; simp; omega) (.int .i64 E0)).far ⟨gB + 1, 2, none⟩ (by have := HGB8.out; simp; omega) (.int .i64 E1)).far ⟨gB + 1, 3, none⟩ (by have := HGB8.out; simp; omega) (.slice (some ⟨gM, 0, none⟩) C C))
            have HWX : Hid (Below w.heap.size w ((((w9.setCell ⟨gB + 1, 0, none⟩ (.int .i64 M)).setCell ⟨gB + 1, 1, none⟩ (.int .i64 E0)).setCell ⟨gB + 1, 2, none⟩ (.int .i64 E1)).setCell ⟨gB + 1, 3, none⟩ (.slice (some ⟨gM, 0, none⟩) C C))) :=
              Lib.hid ((((HW9.out.setCell (by have := HGB.out; simp; omega) _).setCell (by have := HGB.out; simp; omega) _).setCell (by have := HGB.out; simp; omega) _).setCell (by have := HGB.out; simp; omega) _)
            clear HI9 HR9
            go_wp2
            generalize (((w9.setCell ⟨gB + 1, 0, none⟩ (.int .i64 M)).setCell ⟨gB + 1, 1, none⟩ (.int .i64 E0)).setCell ⟨gB + 1, 2, none⟩ (.int .i64 E1)).setCell ⟨gB + 1, 3, none⟩ (.slice (some ⟨gM, 0, none⟩) C C) = wx at HRX HMX HWX ⊢
            obtain ⟨s0, s1, s2, s3⟩ := cells4 (show Obj1 wx (gB + 1) TI (c4 M E0 E1 (some ⟨gM, 0, none⟩) C C) from HRX.out)
            refine bodyPost_ret (v := .tuple #[imv M E0 E1 (some ⟨gM, 0, none⟩) C C, .int .i64 0]) (by simp [results, Try.results29, go_sem, s0, s1, s2, s3]) rfl ⟨_, _, rfl, Lib.hid ?_, HWX⟩
            have hok := ROut.ok (w := w) (w' := wx) HYF.out HYS.out (by rw [HM.out, HE0.out, HE1.out, HC.out]; exact HRI.out) gM HGW.out (lst_of_obj (by rw [← HYB.out]; exact HMX.out) (by rw [← HYB.out, HYL.out, HC.out]))
            rw [HM.out, HE0.out, HE1.out, HC.out] at hok
            exact hok
          · have HRI := Lib.hid hri
            clear hri
            go_wp2_with fail
            refine (right_no M E0 E1 (some ⟨gM, 0, none⟩) C C w8 HRI.out (by omega)).mono ?_
            rintro e w9 ⟨rfl, hb9⟩
            have HW9 := Lib.hid (HW8.out.trans (hb9.mono HW8.out.size))
            have HR9 := HR8.out.kept hb9
            clear q0 q1 q2 q3 hb9
            obtain ⟨z0, z1, z2, z3⟩ := cells4 HR9
            have f0 := HR9.free 0
            have f1 := HR9.free 1
            have f2 := HR9.free 2
            have f3 := HR9.free 3
            clear HR9
            go_wp2
            refine bodyPost_ret (v := .tuple #[zi, .int .i64 11]) (by simp [results, Try.results29, go_sem, z0, z1, z2, z3]) rfl ⟨_, _, rfl, Lib.hid (.right HYF.out HYS.out (by rw [HM.out, HE0.out, HE1.out, HC.out]; exact HRI.out)), Lib.hid ?_⟩
            first
              | exact HW9.out
              | exact (((HW9.out.setCell (by have := HGB.out; simp; omega) _).setCell (by have := HGB.out; simp; omega) _).setCell (by have := HGB.out; simp; omega) _).setCell (by have := HGB.out; simp; omega) _
      · have hz : ((Z : Int) != (S : Int)) = true := by simp; omega
        rw [hz]
        have HYS : Hid (b2 bs (n - 2) ≠ sumL 65535 (bs.take (n - 2))) := Lib.hid (by rw [hnK2, HZZ.out, HSS.out]; exact hsum)
        obtain ⟨z0, z1, z2, z3⟩ := cells4 HR5.out
        have f0 := HR5.out.free 0
        have f1 := HR5.out.free 1
        have f2 := HR5.out.free 2
        have f3 := HR5.out.free 3
        go_wp2
        refine bodyPost_ret (v := .tuple #[zi, .int .i64 12]) (by simp [results, Try.results29, go_sem, z0, z1, z2, z3]) rfl ⟨_, _, rfl, Lib.hid (.sum HYF.out HYS.out), Lib.hid ?_⟩
        first
          | exact HB5.out
          | exact (((HB5.out.setCell (by have := HGB.out; simp; omega) _).setCell (by have := HGB.out; simp; omega) _).setCell (by have := HGB.out; simp; omega) _).setCell (by have := HGB.out; simp; omega) _
  · have HNF : Hid (¬ (pre2 bs = true ∧ n = 11 + b2 bs 7)) := Lib.hid (by rw [HQ.out, HT.out]; exact hform)
    obtain ⟨z0, z1, z2, z3⟩ := cells4 HRM.out
    have f0 := HRM.out.free 0
    have f1 := HRM.out.free 1
    have f2 := HRM.out.free 2
    have f3 := HRM.out.free 3
    have hne : q = true → ((n : Int) != 9 + (T : Int) + 2) = true := fun h => by simp; intro h2; exact hform ⟨h, by omega⟩
    cases q
    case' true => have hne2 := hne rfl
    all_goals
      clear hne hform
      go_wp2
      refine bodyPost_ret (v := .tuple #[zi, .int .i64 11]) (by simp [results, Try.results29, go_sem, z0, z1, z2, z3]) rfl ⟨_, _, rfl, Lib.hid (.form HNF.out), Lib.hid ?_⟩
      first
        | exact HBM.out
        | exact (((HBM.out.setCell (by have := HGB.out; simp; omega) _).setCell (by have := HGB.out; simp; omega) _).setCell (by have := HGB.out; simp; omega) _).setCell (by have := HGB.out; simp; omega) _
end Go.Proofs.Ythnopcoahcdjjaa.Ly10
