/- Events in memory, and how often a module is named, in a map: packages trace's Count and health's Of; no condition but sizes. -/
import Derived.Test.YtanhblokhcaoiaaDoorDgC
import Derived.Test.YtanhblokhcaoiaaDoorPushR
import Derived.Maps.Own
import Derived.Maps.OwnOps
import Derived.Maps.Views
namespace Go.Proofs.YtanhblokhcaoiaaDoor.Hl
open Go.ChangeShapes Go.WideShapes Go.ChangeAt Go.RowKit Base Go.Maps
set_option linter.unusedVariables false
set_option linter.unusedSimpArgs false

abbrev TE : TypeId := 45
abbrev TH : TypeId := 42
abbrev TI : TypeId := 3
abbrev TM : TypeId := 70
structure Ev where
  t : Int
  m : Int
  k : Int
  s : Int
  v : Int
  si : Int
  c : Int
  A : Option Addr
  n : Nat
  d : Nat
def evL (x : Ev) : List Value := [.int .i64 x.t, .int .i64 x.m, .int .i64 x.k, .int .i64 x.s, .int .i64 x.v, .int .i64 x.si, .int .i64 x.c, .slice x.A x.n x.d]
def evC (l : List Ev) : List Value := (l.map evL).flatten
theorem evC_snoc (l : List Ev) (x : Ev) : evC (l ++ [x]) = evC l ++ evL x := by simp [evC]
theorem evC_at : ∀ (l : List Ev) (i j : Nat) (x : Ev), l[i]? = some x → j < 8 → (evC l)[i * 8 + j]? = (evL x)[j]?
  | [], i, j, x, h, _ => by simp at h
  | z :: r, 0, j, x, h, hj => by
    simp at h
    subst h
    show (evL z ++ evC r)[0 * 8 + j]? = _
    rw [Nat.zero_mul, Nat.zero_add, List.getElem?_append_left (by simpa [evL] using hj)]
  | z :: r, i + 1, j, x, h, hj => by
    have := evC_at r i j x (by simpa using h) hj
    show (evL z ++ evC r)[(i + 1) * 8 + j]? = _
    rw [List.getElem?_append_right (by simp [evL]; omega), show (i + 1) * 8 + j - (evL z).length = i * 8 + j by simp [evL]; omega]
    exact this
theorem one_evL (x : Ev) : ∀ u ∈ evL x, u.oneCell' = true := by
  intro u hu
  simp [evL] at hu
  rcases hu with rfl | rfl | rfl | rfl | rfl | rfl | rfl | rfl <;> rfl
/-- Events in memory. -/
structure EvsAt (w : World) (A : Option Addr) (n : Nat) (ls : List Ev) : Prop where
  len : ls.length = n
  at' : 0 < n → ∃ b off, A = some ⟨b, off, none⟩ ∧ b < w.heap.size ∧ ∀ i x, ls[i]? = some x → ∀ j, j < 8 → w.cell? ⟨b, off + i * 8 + j, none⟩ = (evL x)[j]?
theorem EvsAt.kept {w w' : World} {A : Option Addr} {n : Nat} {ls : List Ev} (h : EvsAt w A n ls) (hb : Below w.heap.size w w') : EvsAt w' A n ls where
  len := h.len
  at' := fun hn => by
    obtain ⟨b, off, e, hlt, hc⟩ := h.at' hn
    exact ⟨b, off, e, Nat.lt_of_lt_of_le hlt hb.size, fun i x hx j hj => (hb.cell (p := ⟨b, _, none⟩) hlt).trans (hc i x hx j hj)⟩
theorem EvsAt.get {w : World} {A : Option Addr} {n : Nat} {ls : List Ev} (h : EvsAt w A n ls) {i : Nat} (hi : i < n) {x : Ev} (hx : ls[i]? = some x) : ∃ b off, A = some ⟨b, off, none⟩ ∧ b < w.heap.size ∧
    w.cell? ⟨b, off + i * 8, none⟩ = some (.int .i64 x.t) ∧ w.cell? ⟨b, off + i * 8 + 1, none⟩ = some (.int .i64 x.m) ∧ w.cell? ⟨b, off + i * 8 + 2, none⟩ = some (.int .i64 x.k) ∧ w.cell? ⟨b, off + i * 8 + 3, none⟩ = some (.int .i64 x.s) ∧ w.cell? ⟨b, off + i * 8 + 4, none⟩ = some (.int .i64 x.v) ∧ w.cell? ⟨b, off + i * 8 + 5, none⟩ = some (.int .i64 x.si) ∧ w.cell? ⟨b, off + i * 8 + 6, none⟩ = some (.int .i64 x.c) ∧ w.cell? ⟨b, off + i * 8 + 7, none⟩ = some (.slice x.A x.n x.d) := by
  obtain ⟨b, off, e, hlt, hc⟩ := h.at' (by omega)
  exact ⟨b, off, e, hlt, hc i x hx 0 (by omega), hc i x hx 1 (by omega), hc i x hx 2 (by omega), hc i x hx 3 (by omega), hc i x hx 4 (by omega), hc i x hx 5 (by omega), hc i x hx 6 (by omega), hc i x hx 7 (by omega)⟩
theorem evs_own {w : World} {base : Nat} {T : TypeId} {v : Value} {n : Nat} {ls : List Ev} (h : w.ownsRow base T 8 v n (evC ls)) (hn : ls.length = n) : ∃ A c, v = .slice A n c ∧ n ≤ c ∧ EvsAt w A n ls := by
  rcases h.2 with ⟨rfl, h0⟩ | ⟨g, cap, cur, rfl, hb, hg, hnc, hcm, hcs, htake⟩
  · exact ⟨none, 0, by rw [h0], by omega, hn, fun h => by omega⟩
  · refine ⟨_, cap, rfl, hnc, hn, fun hn0 => ⟨g, 0, rfl, (Array.getElem?_eq_some_iff.1 hg).1, fun i x hx j hj => ?_⟩⟩
    have hin : i < n := by have := (List.getElem?_eq_some_iff.1 hx).1; omega
    have hij : i * 8 + j < n * 8 := by omega
    rw [← evC_at ls i j x hx hj, ← htake, show (⟨g, 0 + i * 8 + j, none⟩ : Addr) = ⟨g, i * 8 + j, none⟩ by simp]
    simp [World.cell?, hg, List.getElem?_take, hij]

/-! ### Count -/

def cnt (k : Int) (ls : List Ev) : Nat := (ls.filter (fun e => e.k == k)).length
theorem cnt_next {k : Int} {ls : List Ev} {j : Nat} {x : Ev} (h : ls[j]? = some x) : cnt k (ls.take (j + 1)) = cnt k (ls.take j) + (if x.k = k then 1 else 0) := by
  unfold cnt
  rw [List.take_add_one, h, List.filter_append, List.length_append]
  by_cases e : x.k = k <;> simp [e]
theorem cnt_le (k : Int) (ls : List Ev) : cnt k ls ≤ ls.length := List.length_filter_le _ _
set_option maxRecDepth 100000 in
set_option maxHeartbeats 2000000 in
theorem count_any (A : Option Addr) (n c : Nat) (ls : List Ev) (k : Int) (w : World) (hE : EvsAt w A n ls) (hn : n ≤ 1099511627776) :
    Calls Tryd.prog 38 #[.slice A n c, .int .i64 k] w fun e' w' => e' = .returned (.int .i64 (cnt k ls : Nat)) ∧ Below w.heap.size w w' := by
  have HE := Lib.hid hE
  have HLN : Hid (ls.length = n) := Lib.hid hE.len
  clear hE
  go_enter Tryd.func38, Tryd.ntmps38
  go_wp2_with fail
  go_loopw [5, 10] (fun q i wx => ∃ j : Nat, j ≤ n ∧ i = .int .i64 j ∧ q = .int .i64 (cnt k (ls.take j) : Nat) ∧ Below w.heap.size w wx) (fun _ i _ => n - (intOf i).toNat)
  case atStart => exact ⟨0, by omega, rfl, rfl, Below.refl _ _⟩
  case round =>
    obtain ⟨j, hj, rfl, rfl, hbk⟩ := hrel
    have HBK := Lib.hid hbk
    by_cases hlt : j < n
    · have hji : (j : Int) < (n : Int) := by omega
      have hjl : j < ls.length := by rw [HLN.out]; exact hlt
      obtain ⟨x, hx⟩ : ∃ x, ls[j]? = some x := ⟨_, List.getElem?_eq_getElem hjl⟩
      obtain ⟨b, off, rfl, hb, k0, k1, k2, k3, k4, k5, k6, k7⟩ := (HE.out.kept hbk).get hlt hx
      have HNX := Lib.hid (cnt_next (k := k) hx)
      have hle := cnt_le k (ls.take j)
      rw [List.length_take] at hle
      obtain ⟨q, HQ⟩ : ∃ q, Hid (cnt k (ls.take j) = q) := ⟨_, Lib.hid rfl⟩
      rw [HQ.out] at HNX hle ⊢
      have hq : q ≤ 1099511627776 := by omega
      have e0 : IntKind.i64.wrap ((j : Int) + 1) = (j : Int) + 1 := IntWalk.i64_in _ (by omega)
      have e1 : IntKind.i64.wrap ((q : Int) + 1) = (q : Int) + 1 := IntWalk.i64_in _ (by omega)
      obtain ⟨gx, HGX⟩ : ∃ gx, Hid (wr.heap.size = gx) := ⟨_, Lib.hid rfl⟩
      obtain ⟨W5, HW5⟩ : ∃ W5, Hid (W5 = wr.alloc (.cells #[.int .i64 x.t, .int .i64 x.m, .int .i64 x.k, .int .i64 x.s, .int .i64 x.v, .int .i64 x.si, .int .i64 x.c, .slice x.A x.n x.d] TE)) := ⟨_, Lib.hid rfl⟩
      have hb5 : Below wr.heap.size wr W5 := by rw [HW5.out]; exact bel_new _ _
      have HOX : Hid (Obj1 W5 gx TE #[.int .i64 x.t, .int .i64 x.m, .int .i64 x.k, .int .i64 x.s, .int .i64 x.v, .int .i64 x.si, .int .i64 x.c, .slice x.A x.n x.d]) := Lib.hid (by rw [HW5.out, ← HGX.out]; exact Obj1.new _ _ _)
      have HB5 := Lib.hid (HBK.out.trans (hb5.mono HBK.out.size))
      clear hx hjl hb hle hb5 hbk
      go_upto_region 5 with (fail)
      rw [← HW5.out, HGX.out]
      clear k0 k1 k2 k3 k4 k5 k6 k7 HW5 HGX HBK
      have x2 : W5.cell? ⟨gx, 2, none⟩ = some (.int .i64 x.k) := HOX.out.cell 2
      obtain ⟨y, HY⟩ : ∃ y, Hid (x.k = y) := ⟨_, Lib.hid rfl⟩
      rw [HY.out] at x2 HNX
      by_cases hk : y = k
      · subst hk
        rw [if_pos rfl] at HNX
        go_wp2
        go_roundw
        case rel => exact ⟨j + 1, by omega, by go_num, by rw [HNX.out]; go_num, HB5.out⟩
        case measure => simp [intOf]; omega
      · have hkb : (y == k) = false := by simpa using hk
        rw [if_neg hk] at HNX
        go_wp2
        go_roundw
        case rel => exact ⟨j + 1, by omega, by go_num, by rw [HNX.out]; rfl, HB5.out⟩
        case measure => simp [intOf]; omega
    · have hje : j = n := by omega
      subst hje
      have HT : Hid (ls.take j = ls) := Lib.hid (List.take_of_length_le (by rw [HLN.out]; exact Nat.le_refl _))
      rw [HT.out]
      clear hbk
      go_wp2
      go_ret
      exact ⟨rfl, HBK.out⟩

/-! ### Of -/

theorem lawI : Keyed Tryd.prog TI := int_keyed Tryd.underlying3
theorem zeroI (w : World) : (zeroValue TI).run Tryd.prog w = .ok (.int .i64 0) w := by kernel_rfl
def W64 (x : Int) : Prop := -9223372036854775808 ≤ x ∧ x ≤ 9223372036854775807
theorem wf_key {x : Int} (h : W64 x) : (Lit.int .i64 x).wf = true := WalkArith.wf_i64 h
/-- A map of how often each name is there. -/
def MapC (w : World) (g n : Nat) (ms : List Int) : Prop :=
  ∃ D : DataW Unit, w.ownsMap Tryd.prog TI (plainElem Tryd.prog TI) g n D ∧ ∀ m : Int, D.atKey (.int .i64 m) (.lit (.int .i64 0)) = .lit (.int .i64 (ms.count m : Nat))
theorem MapC.made (w : World) : MapC (w.alloc (.map #[] 0)) w.heap.size 0 [] := ⟨_, World.ownsMap_made _ _ _ _, fun m => rfl⟩
theorem MapC.lt {w : World} {g n : Nat} {ms : List Int} (h : MapC w g n ms) : g < w.heap.size := by
  obtain ⟨D, h, _⟩ := h
  exact h.lt
theorem MapC.of_block {w w' : World} {g n : Nat} {ms : List Int} (h : MapC w g n ms) (hb : w'.heap[g]? = w.heap[g]?) : MapC w' g n ms := by
  obtain ⟨D, ⟨es, cl, h1, h2, h3, h4⟩, h5⟩ := h
  exact ⟨D, ⟨es, cl, hb.trans h1, h2, h3, h4⟩, h5⟩
theorem MapC.kept {w w' : World} {g n : Nat} {ms : List Int} (h : MapC w g n ms) (hb : Below w.heap.size w w') : MapC w' g n ms := h.of_block (hb.block g h.lt)
theorem MapC.put {w : World} {g n : Nat} {ms : List Int} {x : Int} {D : DataW Unit} (hk : (Lit.int .i64 x).wf = true) (hD : IsMap D) (ha : ∀ m : Int, D.atKey (.int .i64 m) (.lit (.int .i64 0)) = .lit (.int .i64 (ms.count m : Nat)))
    (ho : w.ownsMap Tryd.prog TI (plainElem Tryd.prog TI) g n (D.put (.int .i64 x) (.lit (.int .i64 ((ms.count x : Nat) + 1 : Int))))) : MapC w g n (ms ++ [x]) := by
  refine ⟨_, ho, fun m => ?_⟩
  by_cases e : m = x
  · subst e
    rw [atKey_put_same hD (lawI.key (keyOf_int_mk Tryd.underlying3 hk))]
    simp [List.count_append]
  · rw [atKey_put_other (by intro h; cases h; exact e rfl), ha m]
    have : [x].count m = 0 := by simp [List.count_cons, Ne.symm e]
    simp [List.count_append, this]
theorem count_next {ms : List Int} {j : Nat} {x : Int} (h : ms[j]? = some x) : ms.take (j + 1) = ms.take j ++ [x] := by rw [List.take_add_one, h]; rfl
def inB (ms : List Int) (e : Ev) : Bool := decide (0 < ms.count e.m)
def own (ms : List Int) (ls : List Ev) : List Ev := ls.filter (inB ms)
theorem own_next {ms : List Int} {ls : List Ev} {j : Nat} {x : Ev} (h : ls[j]? = some x) : own ms (ls.take (j + 1)) = own ms (ls.take j) ++ (if 0 < ms.count x.m then [x] else []) := by
  unfold own
  rw [List.take_add_one, h, List.filter_append]
  by_cases e : 0 < ms.count x.m <;> simp [inB, e]
def c7 (f : Nat → Int) : Array Value := #[.int .i64 (f 0), .int .i64 (f 1), .int .i64 (f 2), .int .i64 (f 3), .int .i64 (f 4), .int .i64 (f 5), .int .i64 (f 6)]
theorem one_c7 (f : Nat → Int) : (c7 f).all (·.oneCell') = true := by simp [c7, Value.oneCell']
/-- How often each kind is there. -/
def cI (ls : List Ev) (i : Nat) : Int := (cnt ((i : Int) + 1) ls : Nat)
theorem info_h : (Tryd.prog.info? TH).map (fun i => (i.zero, i.size)) = some (some (.agg #[.int .i64 0, .int .i64 0, .int .i64 0, .int .i64 0, .int .i64 0, .int .i64 0, .int .i64 0]), 7) := by kernel_rfl
theorem info_e : (Tryd.prog.info? TE).map (fun i => (i.zero, i.size, i.bytes)) = some (some (.agg #[.int .i64 0, .int .i64 0, .int .i64 0, .int .i64 0, .int .i64 0, .int .i64 0, .int .i64 0, .slice none 0 0]), 8, 80) := by kernel_rfl
set_option maxRecDepth 100000 in
set_option maxHeartbeats 12000000 in
theorem of_any (A : Option Addr) (n c : Nat) (ls : List Ev) (B : Option Addr) (m d : Nat) (ms : List Int) (w : World) (hE : EvsAt w A n ls) (hM : Lst w B m (ms.map (Value.int .i64))) (hn : n ≤ 100) (hm : m ≤ 40) (hw : ∀ x ∈ ms, W64 x) (hv : ∀ x ∈ ls, W64 x.m) :
    Calls Tryd.prog 20 #[.slice A n c, .slice B m d] w fun e' w' => e' = .returned (.agg (c7 (cI (own ms ls)))) ∧ Below w.heap.size w w' := by
  obtain ⟨iz, hiz, hzz, hsz⟩ := info_two info_h
  obtain ⟨i0, hi, hz0, hz1, hz2⟩ := info_three info_e
  have HSI : Hid ((Tryd.prog.info? TH).map (·.size) = some 7) := Lib.hid (by rw [hiz]; simp [hsz])
  have hml : ms.length = m := by have := hM.1; simpa using this
  have HL := Lib.hid hml
  have HLN : Hid (ls.length = n) := Lib.hid hE.len
  have HE := Lib.hid hE
  have HML := Lib.hid hM
  have HW := Lib.hid hw
  have HV := Lib.hid hv
  obtain ⟨g4, HG4⟩ : ∃ g, Hid (w.heap.size = g) := ⟨_, Lib.hid rfl⟩
  obtain ⟨gm, HGM⟩ : ∃ g, Hid (g4 + 1 = g) := ⟨_, Lib.hid rfl⟩
  obtain ⟨W1, HW1⟩ : ∃ W, Hid (W = w.alloc (.cells #[.int .i64 0, .int .i64 0, .int .i64 0, .int .i64 0, .int .i64 0, .int .i64 0, .int .i64 0] TH)) := ⟨_, Lib.hid rfl⟩
  obtain ⟨W2, HW2⟩ : ∃ W, Hid (W = W1.alloc (.map #[] 0)) := ⟨_, Lib.hid rfl⟩
  have n1 : Below w.heap.size w W1 := by rw [HW1.out]; exact bel_new _ _
  have n2 : Below W1.heap.size W1 W2 := by rw [HW2.out]; exact bel_new _ _
  have s1 : W1.heap.size = gm := by rw [HW1.out, ← HGM.out, ← HG4.out]; simp
  have HS1 := Lib.hid s1
  have HO2 : Hid (Obj1 W2 g4 TH (c7 (fun _ => 0))) := Lib.hid ((show Obj1 W1 g4 TH _ by rw [HW1.out, ← HG4.out]; exact Obj1.new _ _ _).kept n2)
  have HM2 : Hid (MapC W2 gm 0 []) := Lib.hid (by rw [HW2.out, ← s1]; exact MapC.made _)
  have HB2 : Hid (Below w.heap.size w W2) := Lib.hid (n1.trans (n2.mono n1.size))
  have HGG : Hid (w.heap.size ≤ g4 ∧ w.heap.size ≤ gm ∧ g4 ≠ gm) := Lib.hid (by have := HG4.out; have := HGM.out; omega)
  have hmm := @run_makeMap Tryd.prog
  clear hE hM n1 n2 s1 hw hv hml
  go_enter Tryd.func20, Tryd.ntmps20
  go_upto_region 1 with (fail)
  rw [← HW1.out, HG4.out]
  go_upto_region 2 with (fail)
  rw [← HW2.out, HS1.out]
  clear HW1 HW2 HG4 HS1 hmm
  go_wp2_with fail
  go_loopw [14] (fun i wx => ∃ j : Nat, j ≤ m ∧ i = .int .i64 j ∧ Hid (MapC wx gm j (ms.take j)) ∧ Hid (Obj1 wx g4 TH (c7 (fun _ => 0))) ∧ Below w.heap.size w wx) (fun i _ => m - (intOf i).toNat)
  case atStart => exact ⟨0, by omega, rfl, HM2, HO2, HB2.out⟩
  case round =>
    clear HM2 HO2 HB2
    obtain ⟨j, hj, rfl, HMK, HOK, hbk⟩ := hrel
    have HBK := Lib.hid hbk
    by_cases hlt : j < m
    · as_aux_lemma =>
      have hji : (j : Int) < (m : Int) := by omega
      have hjl : j < ms.length := by rw [HL.out]; exact hlt
      obtain ⟨b, off, rfl, _, hc⟩ := (HML.out.kept hbk).get hlt
      rw [List.getElem_map] at hc
      obtain ⟨x, hx⟩ : ∃ x, ms[j]'hjl = x := ⟨_, rfl⟩
      rw [hx] at hc
      have HX : Hid (ms[j]? = some x) := Lib.hid (by rw [List.getElem?_eq_getElem hjl, hx])
      have HWF := Lib.hid (wf_key (HW.out x (List.mem_of_getElem? HX.out)))
      obtain ⟨D, hown, hat0⟩ := HMK.out
      have HAT := Lib.hid hat0
      have HD := Lib.hid (hown.tidy lawI).isMap
      have hcl : (ms.take j).count x ≤ 40 := Nat.le_trans List.count_le_length (by rw [List.length_take]; omega)
      obtain ⟨q, HQ⟩ : ∃ q, Hid ((ms.take j).count x = q) := ⟨_, Lib.hid rfl⟩
      rw [HQ.out] at hcl
      have HCX : Hid (∀ cc : Int, D.atKey (.int .i64 x) (.lit (.int .i64 0)) = .lit (.int .i64 cc) → cc = (q : Int)) := Lib.hid (fun cc h => by
        rw [HAT.out x, HQ.out] at h
        injection h with h
        injection h with _ h
        exact h.symm)
      have HWQ : Hid ((Lit.int .i64 ((q : Int) + 1)).wf = true) := Lib.hid (WalkArith.wf_i64 (by omega))
      have e0 : IntKind.i64.wrap ((j : Int) + 1) = (j : Int) + 1 := IntWalk.i64_in _ (by omega)
      have e1 : IntKind.i64.wrap ((q : Int) + 1) = (q : Int) + 1 := IntWalk.i64_in _ (by omega)
      clear hx hat0 hjl hbk HMK hcl
      go_upto_region 6 with (first | (at_lookup; refine wpList_lookup_own_int _ rfl _ _ TM rfl TI TI .i64 lawI Tryd.underlying70 Tryd.underlying3 (zeroI _) gm j _ rfl hown _ _ rfl (keyOf_int_mk Tryd.underlying3 HWF.out) ?_; intro cc hat hwc; obtain rfl : cc = (q : Int) := HCX.out cc hat) | (at_mapUpdate; refine wpList_mapUpdate_own _ rfl _ _ _ TM rfl TI TI lawI Tryd.underlying70 _ gm j _ rfl hown (by unfold maxLen; omega) _ _ _ rfl rfl (keyOf_int_mk Tryd.underlying3 HWF.out) _ [] (plainElem_int Tryd.underlying3 HWQ.out) ?_; intro w1 hown1 hgrow1))
      have HMN : Hid (MapC w1 gm (j + 1) (ms.take (j + 1))) := Lib.hid (by
        rw [count_next HX.out]
        exact MapC.put HWF.out HD.out HAT.out (by rw [HQ.out]; exact hown1))
      have HW1' : Hid (Wrote gm wr w1) := Lib.hid hgrow1
      have HON := Lib.hid (HOK.out.touch HW1'.out HGG.out.2.2)
      have HBN := Lib.hid (HBK.out.trans (HW1'.out.below HGG.out.2.1 HBK.out.size))
      clear hown hown1 hgrow1 hat hwc hc HW1'
      go_wp2
      go_roundw
      case rel => exact ⟨j + 1, by omega, by go_num, HMN, HON, HBN.out⟩
      case measure => simp [intOf]; omega
    · have hje : j = m := by omega
      subst hje
      have HT : Hid (ms.take j = ms) := Lib.hid (List.take_of_length_le (by rw [HL.out]; exact Nat.le_refl _))
      rw [HT.out] at HMK
      clear hbk
      obtain ⟨wb, hwb⟩ : ∃ wb, wb = wr := ⟨_, rfl⟩
      subst hwb
      obtain ⟨base, HBA⟩ : ∃ b, Hid (wb.heap.size = b) := ⟨_, Lib.hid rfl⟩
      have O0 : Hid (wb.ownsRow base TE 8 (.slice none 0 0) 0 []) := Lib.hid ⟨rfl, .inl ⟨rfl, rfl⟩⟩
      have HEB : Hid (EvsAt wb A n ls) := Lib.hid (HE.out.kept HBK.out)
      have HBB : Hid (∀ W, Below base wb W → Below wb.heap.size wb W) := Lib.hid (fun W h => by rw [HBA.out]; exact h)
      clear HE
      go_wp2_with fail
      go_loopw [8, 25] (fun v i wx => ∃ k : Nat, k ≤ n ∧ i = .int .i64 k ∧ Hid (wx.ownsRow base TE 8 v (own ms (ls.take k)).length (evC (own ms (ls.take k)))) ∧ Below base wb wx) (fun _ i _ => n - (intOf i).toNat)
      case atStart => exact ⟨0, by omega, rfl, O0, Below.refl _ _⟩
      case round =>
        clear O0
        obtain ⟨k, hk, rfl, HR, hbx⟩ := hrel
        have HBX := Lib.hid hbx
        obtain ⟨RA, rc, rfl⟩ := row_sl HR.out
        by_cases hlt : k < n
        · have hki : (k : Int) < (n : Int) := by omega
          have hkl : k < ls.length := by rw [HLN.out]; exact hlt
          obtain ⟨x, hx⟩ : ∃ x, ls[k]? = some x := ⟨_, List.getElem?_eq_getElem hkl⟩
          obtain ⟨b, off, rfl, hb, k0, k1, k2, k3, k4, k5, k6, k7⟩ := (HEB.out.kept (HBB.out _ hbx)).get hlt hx
          have HNX := Lib.hid (own_next (ms := ms) hx)
          have HWF := Lib.hid (wf_key (HV.out x (List.mem_of_getElem? hx)))
          have hol : (own ms (ls.take k)).length ≤ 100 := Nat.le_trans (List.length_filter_le _ _) (by rw [List.length_take]; omega)
          obtain ⟨L, HLL⟩ : ∃ L, Hid (own ms (ls.take k) = L) := ⟨_, Lib.hid rfl⟩
          rw [HLL.out] at HNX HR hol ⊢
          obtain ⟨N, HNN⟩ : ∃ N, Hid (L.length = N) := ⟨_, Lib.hid rfl⟩
          rw [HNN.out] at HR hol ⊢
          have e0 : IntKind.i64.wrap ((k : Int) + 1) = (k : Int) + 1 := IntWalk.i64_in _ (by omega)
          obtain ⟨gx, HGX⟩ : ∃ gx, Hid (wr.heap.size = gx) := ⟨_, Lib.hid rfl⟩
          obtain ⟨W5, HW5⟩ : ∃ W5, Hid (W5 = wr.alloc (.cells #[.int .i64 x.t, .int .i64 x.m, .int .i64 x.k, .int .i64 x.s, .int .i64 x.v, .int .i64 x.si, .int .i64 x.c, .slice x.A x.n x.d] TE)) := ⟨_, Lib.hid rfl⟩
          have hb5 : Below wr.heap.size wr W5 := by rw [HW5.out]; exact bel_new _ _
          have HOX : Hid (Obj1 W5 gx TE #[.int .i64 x.t, .int .i64 x.m, .int .i64 x.k, .int .i64 x.s, .int .i64 x.v, .int .i64 x.si, .int .i64 x.c, .slice x.A x.n x.d]) := Lib.hid (by rw [HW5.out, ← HGX.out]; exact Obj1.new _ _ _)
          have HB5 := Lib.hid (HBX.out.trans (hb5.mono (show base ≤ wr.heap.size by have h1 := HBX.out.size; have h2 := HBA.out; omega)))
          have HR5 := Lib.hid (own_kept HR.out hb5)
          have HSB : Hid (base ≤ W5.heap.size) := Lib.hid (by have h1 := HB5.out.size; have h2 := HBA.out; omega)
          clear hx hkl hb hb5 hbx
          go_upto_region 11 with (fail)
          rw [← HW5.out, HGX.out]
          clear k0 k1 k2 k3 k4 k5 k6 k7 HW5 HGX HBX HR
          obtain ⟨D, hown, hat0⟩ := HMK.out.kept (HBB.out _ HB5.out)
          obtain ⟨q, HQ⟩ : ∃ q, Hid (ms.count x.m = q) := ⟨_, Lib.hid rfl⟩
          rw [HQ.out] at HNX
          have HCX : Hid (∀ cc : Int, D.atKey (.int .i64 x.m) (.lit (.int .i64 0)) = .lit (.int .i64 cc) → cc = (q : Int)) := Lib.hid (fun cc h => by
            rw [hat0 x.m, HQ.out] at h
            injection h with h
            injection h with _ h
            exact h.symm)
          have x0 : W5.cell? ⟨gx, 0, none⟩ = some (.int .i64 x.t) := HOX.out.cell 0
          have x1 : W5.cell? ⟨gx, 1, none⟩ = some (.int .i64 x.m) := HOX.out.cell 1
          have x2 : W5.cell? ⟨gx, 2, none⟩ = some (.int .i64 x.k) := HOX.out.cell 2
          have x3 : W5.cell? ⟨gx, 3, none⟩ = some (.int .i64 x.s) := HOX.out.cell 3
          have x4 : W5.cell? ⟨gx, 4, none⟩ = some (.int .i64 x.v) := HOX.out.cell 4
          have x5 : W5.cell? ⟨gx, 5, none⟩ = some (.int .i64 x.si) := HOX.out.cell 5
          have x6 : W5.cell? ⟨gx, 6, none⟩ = some (.int .i64 x.c) := HOX.out.cell 6
          have x7 : W5.cell? ⟨gx, 7, none⟩ = some (.slice x.A x.n x.d) := HOX.out.cell 7
          clear hat0
          by_cases hq : 0 < q
          · have hqi : (0 : Int) < (q : Int) := by omega
            rw [if_pos hq] at HNX
            go_upto_region 12 with (at_lookup; refine wpList_lookup_own_int _ rfl _ _ TM rfl TI TI .i64 lawI Tryd.underlying70 Tryd.underlying3 (zeroI _) gm j _ rfl hown _ _ rfl (keyOf_int_mk Tryd.underlying3 HWF.out) ?_; intro cc hat hwc; obtain rfl : cc = (q : Int) := HCX.out cc hat)
            clear hat hwc hown
            go_wp2_with (at_builtin; refine pushS _ rfl (.tmp 34) (.tmp 36) 39 rfl base TE i0 (.agg #[.int .i64 0, .int .i64 0, .int .i64 0, .int .i64 0, .int .i64 0, .int .i64 0, .int .i64 0, .slice none 0 0]) 8 80 Tryd.underlying39 hi hz0 hz1 hz2 rfl (by decide) _ _ _ rfl (HR5.out.alloc _) ⟨W5.heap.size, 0, none⟩ 1 1 (evL x) rfl rfl (cell_new W5 (evL x) TE) (one_evL x) (by unfold maxLen; omega) (by omega) (by have := HSB.out; simp; omega) ?_; intro v6 w6 O6 B6 G6 K6)
            have HB6 : Hid (Below base wb w6) := Lib.hid ((HB5.out.alloc HSB.out _).trans B6.out)
            have HO6 : Hid (w6.ownsRow base TE 8 v6 (own ms (ls.take (k + 1))).length (evC (own ms (ls.take (k + 1))))) := Lib.hid (by
              rw [HNX.out, evC_snoc, List.length_append, HNN.out]
              exact O6.out)
            clear x0 x1 x2 x3 x4 x5 x6 x7 O6 B6 G6 K6 HR5
            go_wp2
            go_roundw
            case rel => exact ⟨k + 1, by omega, by go_num, HO6, HB6.out⟩
            case measure => simp [intOf]; omega
          · have hqi : ¬ (0 : Int) < (q : Int) := by omega
            rw [if_neg hq, List.append_nil] at HNX
            go_wp2_with (at_lookup; refine wpList_lookup_own_int _ rfl _ _ TM rfl TI TI .i64 lawI Tryd.underlying70 Tryd.underlying3 (zeroI _) gm j _ rfl hown _ _ rfl (keyOf_int_mk Tryd.underlying3 HWF.out) ?_; intro cc hat hwc; obtain rfl : cc = (q : Int) := HCX.out cc hat)
            go_roundw
            case rel => exact ⟨k + 1, by omega, by go_num, by rw [HNX.out]; exact Lib.hid (by rw [HNN.out]; exact HR5.out), HB5.out⟩
            case measure => simp [intOf]; omega
        · have hke : k = n := by omega
          subst hke
          have HTE : Hid (ls.take k = ls) := Lib.hid (List.take_of_length_le (by rw [HLN.out]; exact Nat.le_refl _))
          rw [HTE.out] at HR
          have hol : (own ms ls).length ≤ 100 := Nat.le_trans (List.length_filter_le _ _) (by rw [HLN.out]; exact hn)
          obtain ⟨L, HLL⟩ : ∃ L, Hid (own ms ls = L) := ⟨_, Lib.hid rfl⟩
          rw [HLL.out] at HR hol
          obtain ⟨RA', rc', e9, _, hev⟩ := evs_own HR.out rfl
          injection e9 with e1 e2 e3
          subst e1 e3
          obtain ⟨N, HNN⟩ : ∃ N, Hid (L.length = N) := ⟨_, Lib.hid rfl⟩
          rw [HTE.out, HLL.out, HNN.out]
          rw [HNN.out] at hev hol
          have HEV := Lib.hid hev
          have HBO := Lib.hid (HBB.out _ hbx)
          have HO0 := Lib.hid (HOK.out.kept HBO.out)
          have HB0 := Lib.hid (HBK.out.trans (HBO.out.mono HBK.out.size))
          have HCT : Hid (∀ (i : Nat) (W : World), Below wr.heap.size wr W → Calls Tryd.prog 38 #[.slice RA N rc, .int .i64 ((i : Int) + 1)] W fun e' w' => e' = .returned (.int .i64 (cI L i)) ∧ Below W.heap.size W w') := Lib.hid (fun i W h => count_any RA N rc L _ W (HEV.out.kept h) (by omega))
          obtain ⟨f, HF⟩ : ∃ f, Hid (cI L = f) := ⟨_, Lib.hid rfl⟩
          rw [HF.out] at HCT
          clear hev hbx HR HMK HOK HBK HEB HBX e2
          go_wp2_with fail
          refine (show Calls _ _ #[.slice RA N rc, .int .i64 1] _ _ from HCT.out 0 _ (Below.refl _ _)).mono ?_
          rintro e' y1 ⟨rfl, hy1⟩
          have HY1 : Hid (Below wr.heap.size wr y1) := Lib.hid hy1
          clear hy1
          go_wp2_with fail
          refine (show Calls _ _ #[.slice RA N rc, .int .i64 2] _ _ from HCT.out 1 _ HY1.out).mono ?_
          rintro e' y2 ⟨rfl, hy2⟩
          have HY2 : Hid (Below wr.heap.size wr y2) := Lib.hid (HY1.out.trans (hy2.mono HY1.out.size))
          clear hy2
          go_wp2_with fail
          refine (show Calls _ _ #[.slice RA N rc, .int .i64 3] _ _ from HCT.out 2 _ HY2.out).mono ?_
          rintro e' y3 ⟨rfl, hy3⟩
          have HY3 : Hid (Below wr.heap.size wr y3) := Lib.hid (HY2.out.trans (hy3.mono HY2.out.size))
          clear hy3
          go_wp2_with fail
          refine (show Calls _ _ #[.slice RA N rc, .int .i64 4] _ _ from HCT.out 3 _ HY3.out).mono ?_
          rintro e' y4 ⟨rfl, hy4⟩
          have HY4 : Hid (Below wr.heap.size wr y4) := Lib.hid (HY3.out.trans (hy4.mono HY3.out.size))
          clear hy4
          go_wp2_with fail
          refine (show Calls _ _ #[.slice RA N rc, .int .i64 5] _ _ from HCT.out 4 _ HY4.out).mono ?_
          rintro e' y5 ⟨rfl, hy5⟩
          have HY5 : Hid (Below wr.heap.size wr y5) := Lib.hid (HY4.out.trans (hy5.mono HY4.out.size))
          clear hy5
          go_wp2_with fail
          refine (show Calls _ _ #[.slice RA N rc, .int .i64 6] _ _ from HCT.out 5 _ HY5.out).mono ?_
          rintro e' y6 ⟨rfl, hy6⟩
          have HY6 : Hid (Below wr.heap.size wr y6) := Lib.hid (HY5.out.trans (hy6.mono HY5.out.size))
          clear hy6
          go_wp2_with fail
          refine (show Calls _ _ #[.slice RA N rc, .int .i64 7] _ _ from HCT.out 6 _ HY6.out).mono ?_
          rintro e' y7 ⟨rfl, hy7⟩
          have HY7 : Hid (Below wr.heap.size wr y7) := Lib.hid (HY6.out.trans (hy7.mono HY6.out.size))
          clear hy7
          clear HCT
          go_wp2_with ((with_reducible show wpList _ _ _ (Oper.mk none _ _ _ _ _ :: _) _ _); go_must (refine wpList_store_row rfl TH _ _ rfl g4 (c7 f) rfl rfl TH _ (HO0.out.kept HY7.out) HSI.out rfl (one_c7 f) ?_))
          have HW9 := Lib.hid (wrote_row (w := y7) (HO0.out.kept HY7.out) (c7 f))
          have HB9 := Lib.hid (HB0.out.trans (HY7.out.mono HB0.out.size))
          generalize y7.setRow g4 (c7 f) = we at HW9 ⊢
          have HE9 := Lib.hid HW9.out.1
          try rw [Exit.noGoto_ret]
          refine bodyPost_ret (v := .agg (c7 f)) (results_cell_row rfl _ _ g4 TH _ (0, 0) _ rfl HE9.out Tryd.underlying42 rfl HSI.out) rfl ?_
          exact ⟨by rw [HLL.out, HF.out], HB9.out.trans (HW9.out.2.below HGG.out.1 HB9.out.size)⟩
end Go.Proofs.YtanhblokhcaoiaaDoor.Hl
