/- The contracts of the library's Equal over numbers and EqualFunc over windows, of package plan's alike and Same; no condition but sizes. -/
import Derived.Test.YtkdmcnkahiimoaaPlnI
import Derived.IntWalk
import Derived.Deep.DeepCutAuto
import Derived.Deep.CutBlock
namespace Go.Proofs.Ytkdmcnkahiimoaa.Ly7
open Go.ChangeShapes Go.WideShapes Go.ChangeAt Go.RowKit Base
set_option linter.unusedVariables false
set_option linter.unusedSimpArgs false

set_option maxHeartbeats 2000000 in
theorem equal_any (A : Option Addr) (n c : Nat) (xs : List Int) (B : Option Addr) (m d : Nat) (ys : List Int) (w : World) (hx : Lst w A n (xs.map (Value.int .i64))) (hy : Lst w B m (ys.map (Value.int .i64))) (hn : n ≤ 1000000) (hm : m ≤ 1000000) :
    Calls Try.prog 44 #[.slice A n c, .slice B m d] w fun e w' => e = .returned (.bool (xs == ys)) ∧ Below w.heap.size w w' := by
  have hxl : xs.length = n := by have := hx.1; simpa using this
  have hyl : ys.length = m := by have := hy.1; simpa using this
  have HXL := Lib.hid hxl
  have HYL := Lib.hid hyl
  have HX := Lib.hid hx
  have HY := Lib.hid hy
  clear hx hy hxl hyl
  go_enter Try.func44, Try.ntmps44
  by_cases hnm : n = m
  · subst hnm
    go_wp2_with fail
    go_loopw [13] (fun i wx => ∃ k : Nat, k ≤ n ∧ i = .int .i64 k ∧ Hid (∀ j, j < k → xs[j]? = ys[j]?) ∧ Below w.heap.size w wx) (fun i _ => n - (intOf i).toNat)
    case atStart => exact ⟨0, by omega, rfl, Lib.hid (fun j hj => by omega), Below.refl _ _⟩
    case round =>
      obtain ⟨k, hk, rfl, HE, hbel⟩ := hrel
      have HB := Lib.hid hbel
      by_cases hlt : k < n
      · have hki : (k : Int) < (n : Int) := by omega
        have hkx : k < xs.length := by rw [HXL.out]; exact hlt
        have hky : k < ys.length := by rw [HYL.out]; exact hlt
        obtain ⟨b1, o1, rfl, hb1, hc1⟩ := (HX.out.kept hbel).get hlt
        obtain ⟨b2, o2, rfl, hb2, hc2⟩ := (HY.out.kept hbel).get hlt
        rw [List.getElem_map] at hc1 hc2
        obtain ⟨p, HP⟩ : ∃ p, Hid (xs[k]'hkx = p) := ⟨_, Lib.hid rfl⟩
        obtain ⟨q, HQ⟩ : ∃ q, Hid (ys[k]'hky = q) := ⟨_, Lib.hid rfl⟩
        rw [HP.out] at hc1
        rw [HQ.out] at hc2
        have K1 : ∀ z : Kin wr.drew, z.world.cell? ⟨b1, o1 + k, none⟩ = some (.int .i64 p) := fun z => Kin.at (w := wr.drew) hc1 z
        have K2 : ∀ z : Kin wr.drew, z.world.cell? ⟨b2, o2 + k, none⟩ = some (.int .i64 q) := fun z => Kin.at (w := wr.drew) hc2 z
        clear hc1 hc2 hbel
        obtain ⟨ne, HNE⟩ : ∃ ne, Hid ((p != q) = ne) := ⟨_, Lib.hid rfl⟩
        have hne := HNE.out
        go_upto_region 6 with (fail)
        refine wp_region_specL 9 [.d (.slice (some ⟨b1, o1, none⟩) n c), .d (.int .i64 k), .d (.pointer (some ⟨b1, o1 + k, none⟩)), .d (.int .i64 p), .d (.slice (some ⟨b2, o2, none⟩) n d), .d (.int .i64 k), .d (.pointer (some ⟨b2, o2 + k, none⟩)), .d (.int .i64 q), .d (.bool ne)] (by kernel_rfl) (by kernel_rfl) ?_
        refine spec_d rfl (fun x _ => gives_run (by go_simp)) ?_
        try simp only [Act.put, List.getElem_toArray, List.getElem_cons_succ, List.getElem_cons_zero, List.setIfInBounds_toArray, List.set_cons_zero, List.set_cons_succ]
        refine spec_d rfl (fun x _ => gives_run (by go_simp)) ?_
        try simp only [Act.put, List.getElem_toArray, List.getElem_cons_succ, List.getElem_cons_zero, List.setIfInBounds_toArray, List.set_cons_zero, List.set_cons_succ]
        refine spec_d rfl (fun x _ => gives_run (by go_simp)) ?_
        try simp only [Act.put, List.getElem_toArray, List.getElem_cons_succ, List.getElem_cons_zero, List.setIfInBounds_toArray, List.set_cons_zero, List.set_cons_succ]
        refine spec_d rfl (fun x _ => gives_run (by go_simp)) ?_
        try simp only [Act.put, List.getElem_toArray, List.getElem_cons_succ, List.getElem_cons_zero, List.setIfInBounds_toArray, List.set_cons_zero, List.set_cons_succ]
        refine spec_d rfl (fun x _ => gives_run (by go_simp)) ?_
        try simp only [Act.put, List.getElem_toArray, List.getElem_cons_succ, List.getElem_cons_zero, List.setIfInBounds_toArray, List.set_cons_zero, List.set_cons_succ]
        refine spec_d rfl (fun x _ => gives_run (by go_simp)) ?_
        try simp only [Act.put, List.getElem_toArray, List.getElem_cons_succ, List.getElem_cons_zero, List.setIfInBounds_toArray, List.set_cons_zero, List.set_cons_succ]
        refine spec_d rfl (fun x _ => gives_run (by go_simp)) ?_
        try simp only [Act.put, List.getElem_toArray, List.getElem_cons_succ, List.getElem_cons_zero, List.setIfInBounds_toArray, List.set_cons_zero, List.set_cons_succ]
        refine spec_d rfl (fun x _ => gives_run (by go_simp)) ?_
        try simp only [Act.put, List.getElem_toArray, List.getElem_cons_succ, List.getElem_cons_zero, List.setIfInBounds_toArray, List.set_cons_zero, List.set_cons_succ]
        refine spec_d rfl (fun z _ => gives_run (by first | (go_simp; done) | (go_simp; exact hne) | (go_simp; rw [← hne]; rfl))) ?_
        try simp only [Act.put, List.getElem_toArray, List.getElem_cons_succ, List.getElem_cons_zero, List.setIfInBounds_toArray, List.set_cons_zero, List.set_cons_succ]
        refine spec_end (fun z hz => ?_)
        clear hz
        refine wpAny_done (by kernel_rfl) ?_ _
        have HB8 := Lib.hid (HB.out.trans (((bel_drew wr).trans z.below).mono HB.out.size))
        clear K1 K2 hne
        generalize z.world = w8 at HB8 ⊢
        clear z
        cases ne
        · have hpq : p = q := by have := HNE.out; simpa using this
          subst hpq
          go_wp2
          go_roundw
          case rel => exact ⟨k + 1, by omega, by go_num, Lib.hid (fun j hj => by
            by_cases e : j = k
            · subst e
              rw [List.getElem?_eq_getElem hkx, List.getElem?_eq_getElem hky, HP.out, HQ.out]
            · exact HE.out j (by omega)), HB8.out⟩
          case measure => simp [intOf]; omega
        · have HR : Hid ((xs == ys) = false) := Lib.hid (by
            have h1 := HNE.out
            rw [beq_eq_false_iff_ne]
            intro e
            subst e
            rw [HP.out] at HQ
            have := HQ.out
            subst this
            simp at h1)
          go_wp2
          go_ret
          exact ⟨by rw [HR.out]; rfl, HB8.out⟩
      · obtain rfl : k = n := by omega
        have HR : Hid ((xs == ys) = true) := Lib.hid (by
          rw [beq_iff_eq]
          apply List.ext_getElem?
          intro j
          by_cases hj : j < k
          · exact HE.out j hj
          · rw [List.getElem?_eq_none (by rw [HXL.out]; omega), List.getElem?_eq_none (by rw [HYL.out]; omega)])
        go_wp2
        go_ret
        exact ⟨by rw [HR.out]; rfl, HB.out⟩
  · have hb : ((n : Int) == (m : Int)) = false := by simp; omega
    have hb2 : ((n : Int) != (m : Int)) = true := by simp; omega
    have HR : Hid ((xs == ys) = false) := Lib.hid (by
      rw [beq_eq_false_iff_ne]
      intro e
      rw [e, HYL.out] at HXL
      exact hnm HXL.out.symm)
    go_wp2
    go_ret
    exact ⟨by rw [HR.out]; rfl, Below.refl _ _⟩
/-- Are two windows alike? -/
def wEq (x z : Wd) : Bool := x.k == z.k && x.b == z.b && x.wd == z.wd && x.ad == z.ad && (x.fs == z.fs) && (x.ts == z.ts)
structure Wd.Few (x : Wd) : Prop where
  a : x.n ≤ 40
  b : x.m ≤ 40
set_option maxHeartbeats 4000000 in
theorem alike_any (x z : Wd) (w : World) (hx : x.Ok w) (hz : z.Ok w) (fx : x.Few) (fz : z.Few) :
    Calls Try.prog 36 #[.agg #[.int .i64 x.k, .int .i64 x.b, .int .i64 x.wd, .int .i64 x.ad, .slice x.A x.n x.c, .slice x.B x.m x.d], .agg #[.int .i64 z.k, .int .i64 z.b, .int .i64 z.wd, .int .i64 z.ad, .slice z.A z.n z.c, .slice z.B z.m z.d]] w fun e w' => e = .returned (.bool (wEq x z)) ∧ Below w.heap.size w w' := by
  have HE1 := Lib.hid (fun W (hW : Below w.heap.size w W) => equal_any x.A x.n x.c x.fs z.A z.n z.c z.fs W (hx.fl.kept hW) (hz.fl.kept hW) (by have := fx.a; omega) (by have := fz.a; omega))
  have HE2 := Lib.hid (fun W (hW : Below w.heap.size w W) => equal_any x.B x.m x.d x.ts z.B z.m z.d z.ts W (hx.tl.kept hW) (hz.tl.kept hW) (by have := fx.b; omega) (by have := fz.b; omega))
  obtain ⟨b1, HB1⟩ : ∃ b, Hid ((x.k == z.k) = b) := ⟨_, Lib.hid rfl⟩
  obtain ⟨b2, HB2⟩ : ∃ b, Hid ((x.b == z.b) = b) := ⟨_, Lib.hid rfl⟩
  obtain ⟨b3, HB3⟩ : ∃ b, Hid ((x.wd == z.wd) = b) := ⟨_, Lib.hid rfl⟩
  obtain ⟨b4, HB4⟩ : ∃ b, Hid ((x.ad == z.ad) = b) := ⟨_, Lib.hid rfl⟩
  obtain ⟨b5, HB5⟩ : ∃ b, Hid ((x.fs == z.fs) = b) := ⟨_, Lib.hid rfl⟩
  obtain ⟨b6, HB6⟩ : ∃ b, Hid ((x.ts == z.ts) = b) := ⟨_, Lib.hid rfl⟩
  have HR : Hid (wEq x z = (b1 && b2 && b3 && b4 && b5 && b6)) := Lib.hid (by unfold wEq; rw [HB1.out, HB2.out, HB3.out, HB4.out, HB5.out, HB6.out])
  rw [HB5.out] at HE1
  rw [HB6.out] at HE2
  have h1 := HB1.out
  have h2 := HB2.out
  have h3 := HB3.out
  have h4 := HB4.out
  obtain ⟨W1, HW1⟩ : ∃ W1, W1 = (w.alloc (.cells #[.int .i64 x.k, .int .i64 x.b, .int .i64 x.wd, .int .i64 x.ad, .slice x.A x.n x.c, .slice x.B x.m x.d] 41)).alloc (.cells #[.int .i64 z.k, .int .i64 z.b, .int .i64 z.wd, .int .i64 z.ad, .slice z.A z.n z.c, .slice z.B z.m z.d] 41) := ⟨_, rfl⟩
  have HOX : Hid (Obj1 W1 w.heap.size 41 #[.int .i64 x.k, .int .i64 x.b, .int .i64 x.wd, .int .i64 x.ad, .slice x.A x.n x.c, .slice x.B x.m x.d]) := Lib.hid (by rw [HW1]; exact (Obj1.new w 41 _).alloc _)
  have HOZ : Hid (Obj1 W1 (w.heap.size + 1) 41 #[.int .i64 z.k, .int .i64 z.b, .int .i64 z.wd, .int .i64 z.ad, .slice z.A z.n z.c, .slice z.B z.m z.d]) := Lib.hid (by
    have := Obj1.new (w.alloc (.cells #[.int .i64 x.k, .int .i64 x.b, .int .i64 x.wd, .int .i64 x.ad, .slice x.A x.n x.c, .slice x.B x.m x.d] 41)) 41 #[.int .i64 z.k, .int .i64 z.b, .int .i64 z.wd, .int .i64 z.ad, .slice z.A z.n z.c, .slice z.B z.m z.d]
    rw [show (w.alloc (.cells #[.int .i64 x.k, .int .i64 x.b, .int .i64 x.wd, .int .i64 x.ad, .slice x.A x.n x.c, .slice x.B x.m x.d] 41)).heap.size = w.heap.size + 1 by simp] at this
    rw [HW1]
    exact this)
  have HBW : Hid (Below w.heap.size w W1) := Lib.hid (by rw [HW1]; exact ((Below.refl _ _).alloc (Nat.le_refl _) _).alloc (by simp) _)
  clear hx hz fx fz
  go_enter Try.func36, Try.ntmps36
  go_upto_region 1 with (fail)
  rw [← HW1]
  clear HW1
  have p0 := HOX.out.cell 0
  have p1 := HOX.out.cell 1
  have p2 := HOX.out.cell 2
  have p3 := HOX.out.cell 3
  have p4 := HOX.out.cell 4
  have p5 := HOX.out.cell 5
  have q0 := HOZ.out.cell 0
  have q1 := HOZ.out.cell 1
  have q2 := HOZ.out.cell 2
  have q3 := HOZ.out.cell 3
  have q4 := HOZ.out.cell 4
  have q5 := HOZ.out.cell 5
  simp at p0 p1 p2 p3 p4 p5 q0 q1 q2 q3 q4 q5
  cases b1
  · go_wp2
    go_ret
    exact ⟨by rw [HR.out]; rfl, HBW.out⟩
  · skip
    cases b2
    · go_wp2
      go_ret
      exact ⟨by rw [HR.out]; rfl, HBW.out⟩
    · skip
      cases b3
      · go_wp2
        go_ret
        exact ⟨by rw [HR.out]; rfl, HBW.out⟩
      · skip
        cases b4
        · go_wp2
          go_ret
          exact ⟨by rw [HR.out]; rfl, HBW.out⟩
        · skip
          go_wp2_with fail
          refine (HE1.out _ HBW.out).mono ?_
          rintro e w2 ⟨rfl, hb2⟩
          have HB2 := Lib.hid (HBW.out.trans (hb2.mono HBW.out.size))
          have r5 := (HOX.out.kept hb2).cell 5
          have s5 := (HOZ.out.kept hb2).cell 5
          simp at r5 s5
          clear hb2 p0 p1 p2 p3 p4 p5 q0 q1 q2 q3 q4 q5
          cases b5
          · go_wp2
            go_ret
            exact ⟨by rw [HR.out]; rfl, HB2.out⟩
          · go_wp2_with fail
            refine (HE2.out _ HB2.out).mono ?_
            rintro e w3 ⟨rfl, hb3⟩
            have HB3 := Lib.hid (HB2.out.trans (hb3.mono HB2.out.size))
            clear hb3
            cases b6
            · go_wp2
              go_ret
              exact ⟨by rw [HR.out]; rfl, HB3.out⟩
            · go_wp2
              go_ret
              exact ⟨by rw [HR.out]; rfl, HB3.out⟩
/-- Are two rows of windows alike? -/
def wsEq : List Wd → List Wd → Bool
  | [], [] => true
  | x :: r, z :: s => wEq x z && wsEq r s
  | _, _ => false
theorem wsEq_len : ∀ {a b : List Wd}, wsEq a b = true → a.length = b.length
  | [], [], _ => rfl
  | [], _ :: _, h => by simp [wsEq] at h
  | _ :: _, [], h => by simp [wsEq] at h
  | x :: r, z :: s, h => by
    simp only [wsEq, Bool.and_eq_true] at h
    simp [wsEq_len h.2]
theorem wsEq_true : ∀ {a b : List Wd}, a.length = b.length → (∀ (j : Nat) (x z : Wd), a[j]? = some x → b[j]? = some z → wEq x z = true) → wsEq a b = true
  | [], [], _, _ => rfl
  | [], _ :: _, h, _ => by simp at h
  | _ :: _, [], h, _ => by simp at h
  | x :: r, z :: s, h, H => by
    simp only [wsEq, Bool.and_eq_true]
    exact ⟨H 0 x z rfl rfl, wsEq_true (by simpa using h) (fun j p q hp hq => H (j + 1) p q (by simpa using hp) (by simpa using hq))⟩
theorem wsEq_at : ∀ {a b : List Wd} {j : Nat} {x z : Wd}, wsEq a b = true → a[j]? = some x → b[j]? = some z → wEq x z = true
  | [], _, j, x, z, _, hx, _ => by simp at hx
  | _ :: _, [], j, x, z, h, _, _ => by simp [wsEq] at h
  | x' :: r, z' :: s, 0, x, z, h, hx, hz => by
    simp at hx hz
    subst hx hz
    simp only [wsEq, Bool.and_eq_true] at h
    exact h.1
  | x' :: r, z' :: s, j + 1, x, z, h, hx, hz => by
    simp only [wsEq, Bool.and_eq_true] at h
    exact wsEq_at h.2 (by simpa using hx) (by simpa using hz)
set_option maxRecDepth 100000 in
set_option maxHeartbeats 4000000 in
theorem eqfunc_any (A : Option Addr) (n c : Nat) (us : List Wd) (B : Option Addr) (m d : Nat) (bs : List Wd) (w : World) (hA : WinsAt w A n us) (hB : WinsAt w B m bs) (fa : ∀ x ∈ us, x.Few) (fb : ∀ x ∈ bs, x.Few) (hn : n ≤ 1000) (hm : m ≤ 1000) :
    Calls Try.prog 35 #[.slice A n c, .slice B m d, .func (Fn.func 36) #[] #[]] w fun e w' => e = .returned (.bool (wsEq us bs)) ∧ Below w.heap.size w w' := by
  have HA := Lib.hid hA
  have HB := Lib.hid hB
  have HFA := Lib.hid fa
  have HFB := Lib.hid fb
  clear hA hB fa fb
  by_cases hnm : n = m
  · subst hnm
    go_enter Try.func35, Try.ntmps35
    go_wp2_with fail
    go_loopw [17] (fun i wx => ∃ k : Nat, k ≤ n ∧ i = .int .i64 k ∧ Hid (∀ (j : Nat) (x z : Wd), j < k → us[j]? = some x → bs[j]? = some z → wEq x z = true) ∧ Below w.heap.size w wx) (fun i _ => n - (intOf i).toNat)
    case atStart => exact ⟨0, by omega, rfl, Lib.hid (fun j x z hj => by omega), Below.refl _ _⟩
    case round =>
      obtain ⟨k, hk, rfl, HE, hbel⟩ := hrel
      have HBL := Lib.hid hbel
      by_cases hlt : k < n
      · have hki : (k : Int) < (n : Int) := by omega
        have hka : k < us.length := by rw [HA.out.len]; exact hlt
        have hkb : k < bs.length := by rw [HB.out.len]; exact hlt
        obtain ⟨x, hx⟩ : ∃ x, us[k]? = some x := ⟨_, List.getElem?_eq_getElem hka⟩
        obtain ⟨z, hz⟩ : ∃ z, bs[k]? = some z := ⟨_, List.getElem?_eq_getElem hkb⟩
        obtain ⟨b1, o1, rfl, hb1, k0, k1, k2, k3, k4, k5, hokx⟩ := (HA.out.kept hbel).six hlt hx
        obtain ⟨b2, o2, rfl, hb2, j0, j1, j2, j3, j4, j5, hokz⟩ := (HB.out.kept hbel).six hlt hz
        have HXX := Lib.hid hx
        have HZZ := Lib.hid hz
        have HAL := Lib.hid (fun W (hW : Below wr.heap.size wr W) => alike_any x z W (hokx.kept hW) (hokz.kept hW) (HFA.out x (List.mem_of_getElem? hx)) (HFB.out z (List.mem_of_getElem? hz)))
        obtain ⟨eb, HEB⟩ : ∃ eb, Hid (wEq x z = eb) := ⟨_, Lib.hid rfl⟩
        rw [HEB.out] at HAL
        clear hx hz hokx hokz hbel
        go_upto_region 7 with (fail)
        obtain ⟨W5, HW5⟩ : ∃ W5, W5 = (wr.alloc (.cells #[.int .i64 x.k, .int .i64 x.b, .int .i64 x.wd, .int .i64 x.ad, .slice x.A x.n x.c, .slice x.B x.m x.d] 41)).alloc (.cells #[.int .i64 z.k, .int .i64 z.b, .int .i64 z.wd, .int .i64 z.ad, .slice z.A z.n z.c, .slice z.B z.m z.d] 41) := ⟨_, rfl⟩
        have HOX : Hid (Obj1 W5 wr.heap.size 41 #[.int .i64 x.k, .int .i64 x.b, .int .i64 x.wd, .int .i64 x.ad, .slice x.A x.n x.c, .slice x.B x.m x.d]) := Lib.hid (by rw [HW5]; exact (Obj1.new wr 41 _).alloc _)
        have HOZ : Hid (Obj1 W5 (wr.heap.size + 1) 41 #[.int .i64 z.k, .int .i64 z.b, .int .i64 z.wd, .int .i64 z.ad, .slice z.A z.n z.c, .slice z.B z.m z.d]) := Lib.hid (by
          have := Obj1.new (wr.alloc (.cells #[.int .i64 x.k, .int .i64 x.b, .int .i64 x.wd, .int .i64 x.ad, .slice x.A x.n x.c, .slice x.B x.m x.d] 41)) 41 #[.int .i64 z.k, .int .i64 z.b, .int .i64 z.wd, .int .i64 z.ad, .slice z.A z.n z.c, .slice z.B z.m z.d]
          rw [show (wr.alloc (.cells #[.int .i64 x.k, .int .i64 x.b, .int .i64 x.wd, .int .i64 x.ad, .slice x.A x.n x.c, .slice x.B x.m x.d] 41)).heap.size = wr.heap.size + 1 by simp] at this
          rw [HW5]
          exact this)
        have HBW : Hid (Below wr.heap.size wr W5) := Lib.hid (by rw [HW5]; exact ((Below.refl _ _).alloc (Nat.le_refl _) _).alloc (by simp) _)
        rw [← HW5]
        clear HW5 k0 k1 k2 k3 k4 k5 j0 j1 j2 j3 j4 j5
        have p0 := HOX.out.cell 0
        have p1 := HOX.out.cell 1
        have p2 := HOX.out.cell 2
        have p3 := HOX.out.cell 3
        have p4 := HOX.out.cell 4
        have p5 := HOX.out.cell 5
        have q0 := HOZ.out.cell 0
        have q1 := HOZ.out.cell 1
        have q2 := HOZ.out.cell 2
        have q3 := HOZ.out.cell 3
        have q4 := HOZ.out.cell 4
        have q5 := HOZ.out.cell 5
        simp at p0 p1 p2 p3 p4 p5 q0 q1 q2 q3 q4 q5
        go_wp2_with fail
        refine (HAL.out _ HBW.out).mono ?_
        rintro e w6 ⟨rfl, hb6⟩
        have HB8 := Lib.hid (HBL.out.trans ((HBW.out.trans (hb6.mono HBW.out.size)).mono HBL.out.size))
        clear hb6 p0 p1 p2 p3 p4 p5 q0 q1 q2 q3 q4 q5
        cases eb
        · have HR : Hid (wsEq us bs = false) := Lib.hid (by
            cases he : wsEq us bs with
            | false => rfl
            | true =>
              have := wsEq_at he HXX.out HZZ.out
              rw [HEB.out] at this
              cases this)
          go_wp2
          go_ret
          exact ⟨by rw [HR.out]; rfl, HB8.out⟩
        · go_wp2
          go_roundw
          case rel => exact ⟨k + 1, by omega, by go_num, Lib.hid (fun j x' z' hj hx hz => by
            by_cases e : j = k
            · subst e
              rw [HXX.out] at hx
              rw [HZZ.out] at hz
              cases hx
              cases hz
              exact HEB.out
            · exact HE.out j x' z' (by omega) hx hz), HB8.out⟩
          case measure => simp [intOf]; omega
      · obtain rfl : k = n := by omega
        have HR : Hid (wsEq us bs = true) := Lib.hid (wsEq_true (by rw [HA.out.len, HB.out.len]) (fun j x z hx hz => HE.out j x z (by
          have := (List.getElem?_eq_some_iff.1 hx).1
          rw [HA.out.len] at this
          exact this) hx hz))
        go_wp2
        go_ret
        exact ⟨by rw [HR.out]; rfl, HBL.out⟩
  · have hb : ((n : Int) == (m : Int)) = false := by simp; omega
    have hb2 : ((n : Int) != (m : Int)) = true := by simp; omega
    have HR : Hid (wsEq us bs = false) := Lib.hid (by
      cases he : wsEq us bs with
      | false => rfl
      | true =>
        have := wsEq_len he
        rw [HA.out.len, HB.out.len] at this
        exact absurd this hnm)
    go_enter Try.func35, Try.ntmps35
    go_wp2
    go_ret
    exact ⟨by rw [HR.out]; rfl, Below.refl _ _⟩
end Go.Proofs.Ytkdmcnkahiimoaa.Ly7
