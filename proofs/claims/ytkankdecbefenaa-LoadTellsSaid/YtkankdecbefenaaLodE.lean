/- Package load: Addrs, Clashes, Idle; the document's Writes and Words; no condition but sizes. -/
import Derived.Test.YtkankdecbefenaaLodD
namespace Go.Proofs.Ytkankdecbefenaa.Ly31
open Go.ChangeShapes Go.WideShapes Go.ChangeAt Go.RowKit Base Ly7
set_option linter.unusedVariables false
set_option linter.unusedSimpArgs false

/-- How many of the first k are so. -/
def nB (p : Nat → Bool) : Nat → Nat
  | 0 => 0
  | k + 1 => nB p k + (if p k = true then 1 else 0)
theorem nB_le (p : Nat → Bool) : ∀ k, nB p k ≤ k
  | 0 => Nat.le_refl _
  | k + 1 => by have := nB_le p k; unfold nB; split <;> omega
theorem ix_64 {cs : Array Value} {f : Nat → Nat} (h : Cs cs f) (i : Nat) (hi : i < 64) (W : World) : (Instr.index T64 (.agg cs) (.int .i64 (i : Int))).run Try.prog W = .ok (.int .i64 (f i : Int)) W := by
  obtain ⟨i0, hi0, hz0, hs0, hb0⟩ := info_three info_int
  have h1 := h.2 i hi
  have h2 := h.1
  obtain ⟨h4, h3⟩ := Array.getElem?_eq_some_iff.1 h1
  simp [Instr.index, go_sem, run_underlying Try.underlying57, run_part_plain, hi0, hs0, h1, h2, h3, hi, part, sizeOf, typeInfo]
def wr0 (f : Nat → Nat) (i : Nat) : Bool := decide (0 < f i)
def wr1 (f : Nat → Nat) (i : Nat) : Bool := decide (1 < f i)
set_option maxRecDepth 100000 in
set_option maxHeartbeats 1000000 in
theorem addrs_any (md : Int) (A0 : Option Addr) (n0 c0 : Nat) (A1 : Option Addr) (n1 c1 : Nat) (ver : Int) (w : World) (g : Bool) (A : Option Addr) (n c : Nat) (ws : List Wd)
    (hw : ∀ W, Below w.heap.size w W → Calls Try.prog 20 #[.agg #[.int .i64 md, .slice A0 n0 c0, .slice A1 n1 c1], .int .i64 ver] W fun e w' => e = .returned (wndV A n c g) ∧ Below W.heap.size W w')
    (hg : g = true → WinsAt w A n ws ∧ n ≤ 60 ∧ ∀ x ∈ ws, WOk x) :
    Calls Try.prog 11 #[.agg #[.int .i64 md, .slice A0 n0 c0, .slice A1 n1 c1], .int .i64 ver] w fun e w' => e = .returned (.int .i64 (nB (wr0 (wrN (if g = true then ws else []))) 64 : Nat)) ∧ Below w.heap.size w w' := by
  obtain ⟨gb, HGB⟩ : ∃ gb, Hid (w.heap.size = gb) := ⟨_, Lib.hid rfl⟩
  obtain ⟨W1, HW1⟩ : ∃ W1, Hid (W1 = w.alloc (.cells #[.int .i64 md, .slice A0 n0 c0, .slice A1 n1 c1] 25)) := ⟨_, Lib.hid rfl⟩
  have HB1 : Hid (Below w.heap.size w W1) := Lib.hid (by rw [HW1.out]; exact bel1 _ _)
  have HO1 : Hid (Obj1 W1 gb 25 #[.int .i64 md, .slice A0 n0 c0, .slice A1 n1 c1]) := Lib.hid (by rw [HW1.out, ← HGB.out]; exact Obj1.new _ _ _)
  have q0 := HO1.out.cell 0
  have q1 := HO1.out.cell 1
  have q2 := HO1.out.cell 2
  simp at q0 q1 q2
  have HWR := Lib.hid (writes_any md A0 n0 c0 A1 n1 c1 ver W1 g A n c ws (fun W hW => hw W (HB1.out.trans (hW.mono HB1.out.size))) (fun h => ⟨(hg h).1.kept HB1.out, (hg h).2⟩))
  obtain ⟨f, HF⟩ : ∃ f, Hid (wrN (if g = true then ws else []) = f) := ⟨_, Lib.hid rfl⟩
  rw [HF.out] at HWR
  rw [HF.out]
  clear hw hg
  go_enter Try.func11, Try.ntmps11
  go_upto_region 1 with (fail)
  rw [← HW1.out, HGB.out]
  clear HW1
  go_wp2_with fail
  refine HWR.out.mono ?_
  rintro e w2 ⟨cs, rfl, HCC, hb2⟩
  have HB2 := Lib.hid (HB1.out.trans (hb2.out.mono HB1.out.size))
  clear hb2 HWR q0 q1 q2
  go_wp2_with fail
  go_loopw [5, 11] (fun s i wx => ∃ k : Nat, k ≤ 64 ∧ i = .int .i64 k ∧ s = .int .i64 (nB (wr0 f) k : Nat) ∧ w2 = wx) (fun _ i _ => 64 - (intOf i).toNat)
  case atStart => exact ⟨0, by omega, rfl, rfl, rfl⟩
  case round =>
    obtain ⟨k, hk, rfl, rfl, rfl⟩ := hrel
    by_cases hlt : k < 64
    · have hki : (k : Int) < 64 := by omega
      have hix := fun W => ix_64 HCC.out k hlt W
      have hle := nB_le (wr0 f) k
      have HNX : Hid (nB (wr0 f) (k + 1) = nB (wr0 f) k + (if decide (0 < f k) = true then 1 else 0)) := Lib.hid rfl
      obtain ⟨S, hS⟩ : ∃ S, nB (wr0 f) k = S := ⟨_, rfl⟩
      obtain ⟨v, hv⟩ : ∃ v, f k = v := ⟨_, rfl⟩
      rw [hS, hv] at HNX
      rw [hS] at hle ⊢
      simp only [hv] at hix
      have e1 : IntKind.i64.wrap ((S : Int) + 1) = (S : Int) + 1 := IntWalk.i64_in _ (by omega)
      have e2 : IntKind.i64.wrap ((k : Int) + 1) = (k : Int) + 1 := IntWalk.i64_in _ (by omega)
      clear hS hv
      by_cases hv0 : 0 < v
      · have hvi : (0 : Int) < (v : Int) := by omega
        have HN2 : Hid (nB (wr0 f) (k + 1) = S + 1) := Lib.hid (by rw [HNX.out, if_pos (decide_eq_true hv0)])
        clear hv0
        go_wp2
        go_roundw
        case rel => exact ⟨k + 1, by omega, by go_num, by rw [HN2.out]; simp, by trivial⟩
        case measure => simp [intOf]; omega
      · have hvz : v = 0 := by omega
        subst hvz
        have HN2 : Hid (nB (wr0 f) (k + 1) = S) := Lib.hid (by rw [HNX.out, if_neg (by simp)]; rfl)
        clear hv0
        go_wp2
        go_roundw
        case rel => exact ⟨k + 1, by omega, by go_num, by rw [HN2.out], by trivial⟩
        case measure => simp [intOf]; omega
    · have hke : k = 64 := by omega
      subst hke
      go_wp2
      go_ret
      exact ⟨rfl, HB2.out⟩
/-- Those of the first k that are so. -/
def clL (p : Nat → Bool) (k : Nat) : List Int := ((List.range k).filter p).map (fun (i : Nat) => (i : Int))
theorem clL_next (p : Nat → Bool) (k : Nat) : clL p (k + 1) = clL p k ++ (if p k = true then [(k : Int)] else []) := by
  unfold clL
  rw [List.range_succ, List.filter_append, List.map_append]
  by_cases h : p k = true <;> simp [h]
theorem clL_len (p : Nat → Bool) (k : Nat) : (clL p k).length ≤ k := by
  unfold clL
  rw [List.length_map]
  have := List.length_filter_le p (List.range k)
  rwa [List.length_range] at this
set_option maxRecDepth 100000 in
set_option maxHeartbeats 1000000 in
theorem clashes_any (md : Int) (A0 : Option Addr) (n0 c0 : Nat) (A1 : Option Addr) (n1 c1 : Nat) (ver : Int) (w : World) (g : Bool) (A : Option Addr) (n c : Nat) (ws : List Wd)
    (hw : ∀ W, Below w.heap.size w W → Calls Try.prog 20 #[.agg #[.int .i64 md, .slice A0 n0 c0, .slice A1 n1 c1], .int .i64 ver] W fun e w' => e = .returned (wndV A n c g) ∧ Below W.heap.size W w')
    (hg : g = true → WinsAt w A n ws ∧ n ≤ 60 ∧ ∀ x ∈ ws, WOk x) :
    Calls Try.prog 12 #[.agg #[.int .i64 md, .slice A0 n0 c0, .slice A1 n1 c1], .int .i64 ver] w fun e w' => ∃ v, e = .returned v ∧ Hid (w'.ownsRow w.heap.size 3 1 v (clL (wr1 (wrN (if g = true then ws else []))) 64).length (inV (clL (wr1 (wrN (if g = true then ws else []))) 64))) ∧ Hid (Below w.heap.size w w') := by
  obtain ⟨gb, HGB⟩ : ∃ gb, Hid (w.heap.size = gb) := ⟨_, Lib.hid rfl⟩
  obtain ⟨W1, HW1⟩ : ∃ W1, Hid (W1 = w.alloc (.cells #[.int .i64 md, .slice A0 n0 c0, .slice A1 n1 c1] 25)) := ⟨_, Lib.hid rfl⟩
  have HB1 : Hid (Below w.heap.size w W1) := Lib.hid (by rw [HW1.out]; exact bel1 _ _)
  have HO1 : Hid (Obj1 W1 gb 25 #[.int .i64 md, .slice A0 n0 c0, .slice A1 n1 c1]) := Lib.hid (by rw [HW1.out, ← HGB.out]; exact Obj1.new _ _ _)
  have q0 := HO1.out.cell 0
  have q1 := HO1.out.cell 1
  have q2 := HO1.out.cell 2
  simp at q0 q1 q2
  have HWR := Lib.hid (writes_any md A0 n0 c0 A1 n1 c1 ver W1 g A n c ws (fun W hW => hw W (HB1.out.trans (hW.mono HB1.out.size))) (fun h => ⟨(hg h).1.kept HB1.out, (hg h).2⟩))
  obtain ⟨f, HF⟩ : ∃ f, Hid (wrN (if g = true then ws else []) = f) := ⟨_, Lib.hid rfl⟩
  rw [HF.out] at HWR
  rw [HF.out]
  obtain ⟨i0, hi, hz0, hz1, hz2⟩ := info_three info_int
  clear hw hg
  go_enter Try.func12, Try.ntmps12
  go_upto_region 1 with (fail)
  rw [← HW1.out, HGB.out]
  clear HW1
  go_wp2_with fail
  refine HWR.out.mono ?_
  rintro e w2 ⟨cs, rfl, HCC, hb2⟩
  have HB2 := Lib.hid (HB1.out.trans (hb2.out.mono HB1.out.size))
  have HOW0 : Hid (w2.ownsRow w2.heap.size 3 1 (.slice none 0 0) (clL (wr1 f) 0).length (inV (clL (wr1 f) 0))) := Lib.hid ⟨rfl, .inl ⟨rfl, rfl⟩⟩
  clear hb2 HWR q0 q1 q2
  go_wp2_with fail
  go_loopw [5, 11] (fun s i wx => ∃ k : Nat, k ≤ 64 ∧ i = .int .i64 k ∧ Hid (wx.ownsRow w2.heap.size 3 1 s (clL (wr1 f) k).length (inV (clL (wr1 f) k))) ∧ Below w2.heap.size w2 wx) (fun _ i _ => 64 - (intOf i).toNat)
  case atStart => exact ⟨0, by omega, rfl, HOW0, Below.refl _ _⟩
  case round =>
    clear HOW0
    obtain ⟨k, hk, rfl, HROW, hbk⟩ := hrel
    have HBK := Lib.hid hbk
    obtain ⟨RA, rc, rfl⟩ := row_sl HROW.out
    by_cases hlt : k < 64
    · have hki : (k : Int) < 64 := by omega
      have hix := fun W => ix_64 HCC.out k hlt W
      have hle := clL_len (wr1 f) k
      have HNX : Hid (clL (wr1 f) (k + 1) = clL (wr1 f) k ++ (if decide (1 < f k) = true then [(k : Int)] else [])) := Lib.hid (clL_next (wr1 f) k)
      obtain ⟨L, HL⟩ : ∃ L, Hid (clL (wr1 f) k = L) := ⟨_, Lib.hid rfl⟩
      rw [HL.out] at HNX HROW hle ⊢
      obtain ⟨N, HN⟩ : ∃ N, Hid (L.length = N) := ⟨_, Lib.hid rfl⟩
      rw [HN.out] at HROW hle ⊢
      obtain ⟨v, hv⟩ : ∃ v, f k = v := ⟨_, rfl⟩
      rw [hv] at HNX
      simp only [hv] at hix
      have e2 : IntKind.i64.wrap ((k : Int) + 1) = (k : Int) + 1 := IntWalk.i64_in _ (by omega)
      have HSZ : Hid (w2.heap.size ≤ wr.heap.size) := Lib.hid hbk.size
      clear hv hbk
      by_cases hv0 : 1 < v
      · have hvi : (1 : Int) < (v : Int) := by omega
        have HN2 : Hid (clL (wr1 f) (k + 1) = L ++ [(k : Int)]) := Lib.hid (by rw [HNX.out, if_pos (decide_eq_true hv0)])
        clear hv0
        go_wp2_with (at_builtin; refine push1 _ rfl (.tmp 17) (.tmp 19) 38 rfl w2.heap.size 3 i0 (.int .i64 0) 8 Try.underlying38 hi hz0 hz1 hz2 rfl _ _ _ rfl HROW.out (.int .i64 (k : Int)) _ rfl rfl (by unfold maxLen; omega) (by omega) HSZ.out ?_; intro v2 w7 hown2 hbel2)
        have HO8 : Hid (w7.ownsRow w2.heap.size 3 1 v2 (N + 1) (inV (L ++ [(k : Int)]))) := Lib.hid (by unfold inV; rw [List.map_append]; exact hown2)
        have HB8 := Lib.hid (HBK.out.trans (hbel2.mono (Nat.le_refl _)))
        have HLK : Hid ((L ++ [(k : Int)]).length = N + 1) := Lib.hid (by simp [HN.out])
        clear hown2 hbel2
        go_wp2
        go_roundw
        case rel => exact ⟨k + 1, by omega, by go_num, by rw [HN2.out]; exact Lib.hid (by rw [HLK.out]; exact HO8.out), HB8.out⟩
        case measure => simp [intOf]; omega
      · have hvi : ¬ (1 : Int) < (v : Int) := by omega
        have HN2 : Hid (clL (wr1 f) (k + 1) = L) := Lib.hid (by rw [HNX.out, if_neg (by simpa using hv0), List.append_nil])
        clear hv0
        go_wp2
        go_roundw
        case rel => exact ⟨k + 1, by omega, by go_num, by rw [HN2.out]; exact Lib.hid (by rw [HN.out]; exact HROW.out), HBK.out⟩
        case measure => simp [intOf]; omega
    · have hke : k = 64 := by omega
      subst hke
      go_wp2
      go_ret
      exact ⟨_, rfl, Lib.hid (row_mono HROW.out HB2.out.size), Lib.hid (HB2.out.trans (hbk.mono HB2.out.size))⟩
/-- The greatest. -/
def Mx (l : List Int) (M : Int) : Prop := M ∈ l ∧ ∀ x ∈ l, x ≤ M
theorem mx_next {xs : List Int} {k : Nat} {y M M' : Int} (h : Mx (xs.take k) M) (hy : xs[k]? = some y) (hM : M' = max M y) : Mx (xs.take (k + 1)) M' := by
  have ht : xs.take (k + 1) = xs.take k ++ [y] := by rw [List.take_add_one, hy]; rfl
  rw [ht]
  obtain ⟨h1, h2⟩ := h
  constructor
  · rcases (show M' = M ∨ M' = y by omega) with e | e
    · rw [e]; exact List.mem_append_left _ h1
    · rw [e]; simp
  · intro x hx
    rcases List.mem_append.1 hx with h | h
    · have := h2 x h; omega
    · have := List.mem_singleton.1 h; omega
set_option maxRecDepth 100000 in
set_option maxHeartbeats 1000000 in
theorem max_any (A : Option Addr) (n c : Nat) (xs : List Int) (w : World) (h : Lst w A n (inV xs)) (hn0 : 0 < n) (hn : n ≤ 100000) :
    Calls Try.prog 32 #[.slice A n c] w fun e w' => ∃ M, e = .returned (.int .i64 M) ∧ Mx xs M ∧ Below w.heap.size w w' := by
  have HL := Lib.hid h
  have HN : Hid (xs.length = n) := Lib.hid (by have := h.1; simpa using this)
  obtain ⟨x0, hx0⟩ : ∃ x, xs[0]? = some x := ⟨_, List.getElem?_eq_getElem (by rw [HN.out]; exact hn0)⟩
  obtain ⟨b, off, rfl, _, hc⟩ := h.get hn0
  have hxe : (inV xs)[0]'(by simp [inV, HN.out]; exact hn0) = .int .i64 x0 := by
    unfold inV
    rw [List.getElem_map]
    have := List.getElem?_eq_getElem (l := xs) (i := 0) (by rw [HN.out]; exact hn0)
    rw [this] at hx0
    rw [Option.some.inj hx0]
  rw [hxe, Nat.add_zero] at hc
  have HM0 : Hid (Mx (xs.take 1) x0) := Lib.hid (by
    rw [show xs.take 1 = [x0] by rw [show (1 : Nat) = 0 + 1 from rfl, List.take_add_one, hx0]; rfl]
    exact ⟨by simp, fun x hx => by rw [List.mem_singleton.1 hx]; exact Int.le_refl _⟩)
  have hni : ¬ (n : Int) < 1 := by omega
  have hn0i : (0 : Int) < (n : Int) := by omega
  clear hxe h hx0
  go_enter Try.func32, Try.ntmps32
  go_wp2_with fail
  clear hc
  go_loopw [3, 4] (fun s i wx => ∃ (k : Nat) (M : Int), 1 ≤ k ∧ k ≤ n ∧ i = .int .i64 k ∧ s = .int .i64 M ∧ Hid (Mx (xs.take k) M) ∧ Below w.heap.size w wx) (fun _ i _ => n - (intOf i).toNat)
  case atStart => exact ⟨1, x0, by omega, by omega, rfl, rfl, HM0, Below.refl _ _⟩
  case round =>
    clear HM0
    obtain ⟨k, M, hk1, hk, rfl, rfl, HMX, hbk⟩ := hrel
    have HBK := Lib.hid hbk
    by_cases hlt : k < n
    · have hki : (k : Int) < (n : Int) := by omega
      have hkl : k < xs.length := by rw [HN.out]; exact hlt
      obtain ⟨y, hy⟩ : ∃ y, xs[k]? = some y := ⟨_, List.getElem?_eq_getElem hkl⟩
      obtain ⟨b', off', e', _, hc⟩ := (HL.out.kept hbk).get hlt
      obtain ⟨rfl, rfl⟩ : b' = b ∧ off' = off := by
        injection e' with e'
        injection e' with e1 e2 _
        exact ⟨e1.symm, e2.symm⟩
      have hye : (inV xs)[k]'(by simp [inV, HN.out]; exact hlt) = .int .i64 y := by
        unfold inV
        rw [List.getElem_map]
        have := List.getElem?_eq_getElem hkl
        rw [this] at hy
        rw [Option.some.inj hy]
      rw [hye] at hc
      have HNX : Hid (∀ M', M' = max M y → Mx (xs.take (k + 1)) M') := Lib.hid (fun M' hM => mx_next HMX.out hy hM)
      have e2 : IntKind.i64.wrap ((k : Int) + 1) = (k : Int) + 1 := IntWalk.i64_in _ (by omega)
      clear hye e' hkl hy hbk HMX
      go_wp2
      all_goals
        go_roundw
        case rel => exact ⟨k + 1, _, by omega, by omega, by go_num, rfl, Lib.hid (HNX.out _ (by omega)), HBK.out⟩
        case measure => simp [intOf]; omega
    · have hke : k = n := by omega
      subst hke
      have HE : Hid (Mx xs M) := Lib.hid (by have h := HMX.out; rwa [List.take_of_length_le (by rw [HN.out]; exact Nat.le_refl _)] at h)
      clear HMX
      go_wp2
      go_ret
      exact ⟨M, rfl, HE.out, HBK.out⟩
theorem la_le (ver : Nat) (ws : List Wd) : ∀ j, (PS ver ws j).2.2 ≤ endS (ws.take j) (leadI ver) / 20
  | 0 => by
    rw [PS_zero]
    show (3 : Int) ≤ leadI ver / 20
    unfold leadI
    omega
  | j + 1 => by
    have ih := la_le ver ws j
    cases hx : ws[j]? with
    | none =>
      rw [PS_past hx, show ws.take (j + 1) = ws.take j by rw [List.take_add_one, hx]; simp]
      exact ih
    | some x =>
      have h1 := endS_next (ver := ver) hx
      have h2 := x.tk_bd
      by_cases h : x.k = 2
      · rw [PS_two hx h, h1]
        show (endS (ws.take j) (leadI ver) + 40) / 20 ≤ _
        have h3 : x.tk = 120 := by unfold Wd.tk tkI; simp [h]
        rw [h3]
        omega
      · rw [PS_not hx h, h1]
        omega
/-- The longest way from pulse to pulse. -/
def mx0 (l : List Int) : Int := l.foldl max 0
theorem mx0_ge (l : List Int) : ∀ a, a ≤ l.foldl max a ∧ ∀ x ∈ l, x ≤ l.foldl max a := by
  induction l with
  | nil => intro a; exact ⟨Int.le_refl _, fun x hx => by cases hx⟩
  | cons y r ih =>
    intro a
    obtain ⟨h1, h2⟩ := ih (max a y)
    refine ⟨by simp only [List.foldl_cons]; omega, fun x hx => ?_⟩
    simp only [List.foldl_cons]
    rcases List.mem_cons.1 hx with rfl | h
    · omega
    · exact h2 x h
theorem mx0_mem (l : List Int) : ∀ a, l.foldl max a = a ∨ l.foldl max a ∈ l := by
  induction l with
  | nil => intro a; exact .inl rfl
  | cons y r ih =>
    intro a
    simp only [List.foldl_cons]
    rcases ih (max a y) with h | h
    · rw [h]
      rcases (show max a y = a ∨ max a y = y by omega) with e | e
      · exact .inl e
      · rw [e]; simp
    · exact .inr (List.mem_cons_of_mem _ h)
theorem mx_is {l : List Int} {M : Int} (h : Mx l M) (h0 : 0 ≤ M) : M = mx0 l := by
  have h1 := (mx0_ge l 0).2 M h.1
  rcases mx0_mem l 0 with e | e
  · unfold mx0; rw [e] at h1 ⊢; omega
  · have := h.2 _ e; unfold mx0; omega
theorem span_max {ver : Nat} {ws : List Wd} {M : Int} (h : Mx (spanF ver ws) M) : M = mx0 (spanF ver ws) ∧ 9 ≤ M := by
  have h1 := la_le ver ws ws.length
  rw [List.take_of_length_le (Nat.le_refl _)] at h1
  have h2 := h.2 (endS ws (leadI ver) / 20 + 6 + 3 - (PS ver ws ws.length).2.2) (by unfold spanF; simp)
  exact ⟨mx_is h (by omega), by omega⟩
set_option maxRecDepth 100000 in
set_option maxHeartbeats 1000000 in
theorem idle_any (md : Int) (A0 : Option Addr) (n0 c0 : Nat) (A1 : Option Addr) (n1 c1 : Nat) (ver : Int) (w : World) (g : Bool) (A : Option Addr) (n c : Nat) (ws : List Wd) (vn : Nat) (hvn : g = true → ver = (vn : Int) ∧ vn < 2 ∧ ∀ s ∈ spanF vn ws, s ≤ 200)
    (hw : ∀ W, Below w.heap.size w W → Calls Try.prog 20 #[.agg #[.int .i64 md, .slice A0 n0 c0, .slice A1 n1 c1], .int .i64 ver] W fun e w' => e = .returned (wndV A n c g) ∧ Below W.heap.size W w')
    (hg : g = true → WinsAt w A n ws ∧ n ≤ 60 ∧ ∀ x ∈ ws, WOk x) :
    Calls Try.prog 13 #[.agg #[.int .i64 md, .slice A0 n0 c0, .slice A1 n1 c1], .int .i64 ver] w fun e w' => e = .returned (.int .i64 (if g = true then 200 - mx0 (spanF vn ws) else 0)) ∧ Below w.heap.size w w' := by
  obtain ⟨gb, HGB⟩ : ∃ gb, Hid (w.heap.size = gb) := ⟨_, Lib.hid rfl⟩
  obtain ⟨W1, HW1⟩ : ∃ W1, Hid (W1 = w.alloc (.cells #[.int .i64 md, .slice A0 n0 c0, .slice A1 n1 c1] 25)) := ⟨_, Lib.hid rfl⟩
  have HB1 : Hid (Below w.heap.size w W1) := Lib.hid (by rw [HW1.out]; exact bel1 _ _)
  have HO1 : Hid (Obj1 W1 gb 25 #[.int .i64 md, .slice A0 n0 c0, .slice A1 n1 c1]) := Lib.hid (by rw [HW1.out, ← HGB.out]; exact Obj1.new _ _ _)
  have q0 := HO1.out.cell 0
  have q1 := HO1.out.cell 1
  have q2 := HO1.out.cell 2
  simp at q0 q1 q2
  have HWN := Lib.hid (hw W1 HB1.out)
  have HG := Lib.hid hg
  have HVN := Lib.hid hvn
  clear hw hg hvn
  go_enter Try.func13, Try.ntmps13
  go_upto_region 1 with (fail)
  rw [← HW1.out, HGB.out]
  clear HW1
  go_wp2_with fail
  refine HWN.out.mono ?_
  rintro e w3 ⟨rfl, hb3⟩
  have HB3 := Lib.hid (HB1.out.trans (hb3.mono HB1.out.size))
  clear q0 q1 q2 hb3 HWN HO1 HB1
  cases g with
  | false =>
    simp only [wndV, Bool.false_eq_true, if_false]
    go_wp2
    go_ret
    exact ⟨rfl, HB3.out⟩
  | true =>
    obtain ⟨hW, hn, hok⟩ := HG.out rfl
    obtain ⟨rfl, hv2, hsp⟩ := HVN.out rfl
    have HSPM := Lib.hid hsp
    simp only [wndV, if_true]
    have HSP := Lib.hid (spans_any A n c vn ws w3 hv2 (hW.kept HB3.out) (by omega))
    have HWL : Hid (ws.length ≤ 60) := Lib.hid (by rw [hW.len]; exact hn)
    clear hW hok hsp HG HVN
    go_wp2_with fail
    refine HSP.out.mono ?_
    rintro e w4 ⟨v, rfl, HOW, hb4⟩
    have HB4 := Lib.hid (HB3.out.trans (hb4.out.mono HB3.out.size))
    obtain ⟨SA, sc, rfl, _, hls⟩ := row_lst HOW.out
    have HLS := Lib.hid hls
    obtain ⟨N, HN⟩ : ∃ N, Hid ((spanF vn ws).length = N) := ⟨_, Lib.hid rfl⟩
    have hN0 : 0 < N := by rw [← HN.out]; unfold spanF; simp
    have hN1 : N ≤ 100 := by
      have h := (PS_all vn ws ws.length).1
      have h2 := HWL.out
      rw [← HN.out]; unfold spanF; simp; omega
    rw [HN.out] at HLS ⊢
    have HMX := Lib.hid (max_any SA N sc (spanF vn ws) w4 HLS.out hN0 (by omega))
    clear hb4 HSP HOW hls
    go_wp2_with fail
    refine HMX.out.mono ?_
    rintro e w5 ⟨M, rfl, hmx, hb5⟩
    have HB5 := Lib.hid (HB4.out.trans (hb5.mono HB4.out.size))
    obtain ⟨hM, hM9⟩ := span_max hmx
    have hM2 := HSPM.out M hmx.1
    have HME := Lib.hid hM
    have e1 : IntKind.i64.wrap (200 - M) = 200 - M := IntWalk.i64_in _ (by omega)
    clear hb5 hmx hM HMX
    go_wp2
    go_ret
    exact ⟨by rw [← HME.out]; rfl, HB5.out⟩
end Go.Proofs.Ytkankdecbefenaa.Ly31
