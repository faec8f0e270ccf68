/- Whether modules agree on a window (package trace's Agreed); no condition but sizes. -/
import Derived.Test.YtanhblokhcaoiaaDoorTrcL
namespace Go.Proofs.YtanhblokhcaoiaaDoor.Tr
open Go.ChangeShapes Go.WideShapes Go.ChangeAt Go.RowKit Base Go.Maps
open Hl (Ev TE TI EvsAt)
set_option linter.unusedVariables false
set_option linter.unusedSimpArgs false

theorem has_any (A : Option Addr) (n c : Nat) (l : List Int) (x : Int) (W : World) (hl : Lst W A n (l.map iV)) (hn : n ≤ 100000) : Calls Tryd.prog 52 #[.slice A n c, .int .i64 x] W fun e' w' => e' = .returned (.bool (l.contains x)) ∧ w' = W := by
  have hln : l.length = n := by have := hl.1; simpa using this
  rcases Nat.eq_zero_or_pos n with h0 | h0
  · subst h0
    obtain rfl : l = [] := List.length_eq_zero_iff.1 hln
    exact Tryd.slices_Contains_int_empty A c x W
  · obtain ⟨b, off, rfl, _, hc⟩ := hl.2 h0
    refine (Tryd.slices_Contains_int b off n c l x W (by omega) (by omega) (fun j hj => ?_)).mono ?_
    · rw [hc j (by omega)]
      first | exact getD_map l j hj | (rw [← getD_map l j hj, List.getElem?_eq_getElem])
    · rintro e' w' ⟨rfl, rfl⟩
      rw [List.take_of_length_le (by omega)]
      exact ⟨rfl, rfl⟩
set_option maxRecDepth 100000 in
set_option maxHeartbeats 1000000 in
theorem agr11_any (A : Option Addr) (n c : Nat) (l : List Int) (x : Int) (gl : Nat) (W : World) (hg : W.cell? ⟨gl, 0, none⟩ = some (.slice A n c)) (hl : Lst W A n (l.map iV)) (hn : n ≤ 100000) :
    Calls Tryd.prog 51 #[.int .i64 x, .pointer (some ⟨gl, 0, none⟩)] W fun e' w' => e' = .returned (.bool (l.contains x)) ∧ Below W.heap.size W w' := by
  have HC := Lib.hid (has_any A n c l x W hl hn)
  obtain ⟨q, HQ⟩ : ∃ q, Hid (l.contains x = q) := ⟨_, Lib.hid rfl⟩
  rw [HQ.out] at HC ⊢
  clear hl
  go_enter Tryd.func51, Tryd.ntmps51
  go_wp2_with fail
  refine HC.out.mono ?_
  rintro e' w1 ⟨rfl, rfl⟩
  go_wp2
  go_ret
  exact ⟨rfl, Below.refl _ _⟩
set_option maxRecDepth 100000 in
set_option maxHeartbeats 1000000 in
theorem index_any (fid : FuncId) (caps : Array Value) (hE : Ent fid) (F : Int → Bool) (A : Option Addr) (n c : Nat) (l : List Int) (w : World) (hl : Lst w A n (l.map iV)) (hn : n ≤ 100000)
    (hF : ∀ x W, Below w.heap.size w W → Calls Tryd.prog fid (#[.int .i64 x] ++ caps) W fun e w' => e = .returned (.bool (F x)) ∧ Below W.heap.size W w') :
    Calls Tryd.prog 63 #[.slice A n c, .func (.func fid) #[] caps] w fun e w' => ∃ r : Int, e = .returned (.int .i64 r) ∧ Hid (decide (r ≥ 0) = l.any F) ∧ Below w.heap.size w w' := by
  have HL := Lib.hid hl
  have HLN : Hid (l.length = n) := Lib.hid (by have := hl.1; simpa using this)
  have HF := Lib.hid hF
  clear hl hF
  go_enter Tryd.func63, Tryd.ntmps63
  go_wp2_with fail
  go_loopw [8] (fun i wx => ∃ k : Nat, k ≤ n ∧ i = .int .i64 k ∧ Hid ((l.take k).any F = false) ∧ Below w.heap.size w wx) (fun i _ => n - (intOf i).toNat)
  case atStart => exact ⟨0, by omega, rfl, Lib.hid rfl, Below.refl _ _⟩
  case round =>
    obtain ⟨k, hk, rfl, HN, hbk⟩ := hrel
    have HBK := Lib.hid hbk
    by_cases hlt : k < n
    · have hki : (k : Int) < (n : Int) := by omega
      have hk0 : (0 : Int) ≤ (k : Int) := by omega
      have hkl : k < l.length := by rw [HLN.out]; exact hlt
      obtain ⟨b, off, rfl, _, hc⟩ := (HL.out.kept hbk).get hlt
      rw [List.getElem_map] at hc
      obtain ⟨x, hx⟩ : ∃ x, l[k]'hkl = x := ⟨_, rfl⟩
      rw [hx] at hc
      have HNX : Hid ((l.take (k + 1)).any F = F x) := Lib.hid (by rw [List.take_add_one, List.getElem?_eq_getElem hkl, hx, List.any_append, HN.out]; simp)
      have HMX : Hid (F x = true → l.any F = true) := Lib.hid (fun h => List.any_eq_true.2 ⟨x, by rw [← hx]; exact List.getElem_mem hkl, h⟩)
      have HT := Lib.hid (HF.out x _ hbk)
      obtain ⟨q, HQ⟩ : ∃ q, Hid (F x = q) := ⟨_, Lib.hid rfl⟩
      rw [HQ.out] at HNX HMX HT
      have e0 : IntKind.i64.wrap ((k : Int) + 1) = (k : Int) + 1 := IntWalk.i64_in _ (by omega)
      clear hx hkl hbk
      go_wp2_with fail
      rw [hE]
      refine HT.out.mono ?_
      rintro e w7 ⟨rfl, hb7⟩
      have HB8 := Lib.hid (HBK.out.trans (hb7.mono HBK.out.size))
      clear hb7 hc
      cases q with
      | true =>
        go_wp2
        go_ret
        exact ⟨_, rfl, Lib.hid (by rw [HMX.out (by simp)]; exact decide_eq_true (show (0 : Int) ≤ (k : Int) by omega)), HB8.out⟩
      | false =>
        go_wp2
        go_roundw
        case rel => exact ⟨k + 1, by omega, by go_num, HNX, HB8.out⟩
        case measure => simp [intOf]; omega
    · obtain rfl : k = n := by omega
      have HNF : Hid (l.any F = false) := Lib.hid (by rw [← HN.out, List.take_of_length_le (by rw [HLN.out]; exact Nat.le_refl _)])
      clear hbk
      go_wp2
      go_ret
      exact ⟨_, rfl, Lib.hid (by rw [HNF.out]; rfl), HBK.out⟩
set_option maxRecDepth 100000 in
set_option maxHeartbeats 1000000 in
theorem some_any (fid : FuncId) (caps : Array Value) (hE : Ent fid) (F : Int → Bool) (A : Option Addr) (n c : Nat) (l : List Int) (w : World) (hl : Lst w A n (l.map iV)) (hn : n ≤ 100000)
    (hF : ∀ x W, Below w.heap.size w W → Calls Tryd.prog fid (#[.int .i64 x] ++ caps) W fun e w' => e = .returned (.bool (F x)) ∧ Below W.heap.size W w') :
    Calls Tryd.prog 50 #[.slice A n c, .func (.func fid) #[] caps] w fun e w' => e = .returned (.bool (l.any F)) ∧ Below w.heap.size w w' := by
  have HI := Lib.hid (index_any fid caps hE F A n c l w hl hn hF)
  clear hl hF
  go_enter Tryd.func50, Tryd.ntmps50
  go_wp2_with fail
  refine HI.out.mono ?_
  rintro e w1 ⟨r, rfl, h1, h2⟩
  have HB := Lib.hid h2
  clear h2
  go_wp2
  go_ret
  exact ⟨by rw [← h1.out]; rfl, HB.out⟩
theorem ent51 : Ent 51 := ent_of Tryd.func51 (by kernel_rfl) rfl
set_option maxRecDepth 100000 in
set_option maxHeartbeats 1000000 in
theorem agr1_any (A : Option Addr) (n c : Nat) (l : List Int) (B : Option Addr) (m d : Nat) (ms : List Int) (gl : Nat) (w : World) (hg : w.cell? ⟨gl, 0, none⟩ = some (.slice B m d)) (hgl : gl < w.heap.size) (hl : Lst w A n (l.map iV)) (hm : Lst w B m (ms.map iV)) (hn : n ≤ 100000) (hmn : m ≤ 100000) :
    Calls Tryd.prog 49 #[.slice A n c, .pointer (some ⟨gl, 0, none⟩)] w fun e' w' => e' = .returned (.bool (ms.any (fun x => l.contains x))) ∧ Below w.heap.size w w' := by
  obtain ⟨gb, HGB⟩ : ∃ gb, Hid (w.heap.size = gb) := ⟨_, Lib.hid rfl⟩
  obtain ⟨W1, HW1⟩ : ∃ W1, Hid (W1 = w.alloc (.cells #[.slice A n c] 40)) := ⟨_, Lib.hid rfl⟩
  have hb1 : Below w.heap.size w W1 := by rw [HW1.out]; exact bel_new _ _
  have HB1 := Lib.hid hb1
  have HO1 : Hid (Obj1 W1 gb 40 #[.slice A n c]) := Lib.hid (by rw [HW1.out, ← HGB.out]; exact Obj1.new _ _ _)
  have HL := Lib.hid (hl.kept hb1)
  have q0 : W1.cell? ⟨gl, 0, none⟩ = some (.slice B m d) := (hb1.cell (p := ⟨gl, 0, none⟩) hgl).trans hg
  have HS := Lib.hid (some_any 51 #[.pointer (some ⟨gb, 0, none⟩)] ent51 (fun x => l.contains x) B m d ms W1 (hm.kept hb1) hmn (fun x W hW => agr11_any A n c l x gb W ((HO1.out.kept hW).cell 0) (HL.out.kept hW) hn))
  obtain ⟨q, HQ⟩ : ∃ q, Hid (ms.any (fun x => l.contains x) = q) := ⟨_, Lib.hid rfl⟩
  rw [HQ.out] at HS ⊢
  clear hg hgl hl hm hb1
  go_enter Tryd.func49, Tryd.ntmps49
  go_upto_region 1 with (fail)
  rw [← HW1.out, HGB.out]
  clear HW1
  go_wp2_with fail
  refine HS.out.mono ?_
  rintro e w2 ⟨rfl, hb2⟩
  have HB2 := Lib.hid (HB1.out.trans (hb2.mono HB1.out.size))
  clear hb2
  go_wp2
  go_ret
  exact ⟨rfl, HB2.out⟩
theorem ent49 : Ent 49 := ent_of Tryd.func49 (by kernel_rfl) rfl
def agr (ts ms mods : List Int) : Bool := !(mods.any (fun x => ts.contains x)) || !(mods.any (fun x => ms.contains x))
set_option maxRecDepth 100000 in
set_option maxHeartbeats 2000000 in
theorem agreed_any (s v t cc : Int) (sv wv : Value) (tA : Option Addr) (tn tc : Nat) (ts : List Int) (mA : Option Addr) (mn mc : Nat) (ms : List Int) (B : Option Addr) (m d : Nat) (mods : List Int) (w : World)
    (ht : Lst w tA tn (ts.map iV)) (hm : Lst w mA mn (ms.map iV)) (hB : Lst w B m (mods.map iV)) (htn : tn ≤ 100000) (hmn : mn ≤ 100000) (hbn : m ≤ 100000) :
    Calls Tryd.prog 37 #[.agg #[.int .i64 s, .int .i64 v, .int .i64 t, sv, .slice tA tn tc, .slice mA mn mc, .int .i64 cc, wv], .slice B m d] w fun e' w' => e' = .returned (.bool (agr ts ms mods)) ∧ Below w.heap.size w w' := by
  obtain ⟨g2, HG2⟩ : ∃ g, Hid (w.heap.size = g) := ⟨_, Lib.hid rfl⟩
  obtain ⟨g3, HG3⟩ : ∃ g, Hid (g2 + 1 = g) := ⟨_, Lib.hid rfl⟩
  obtain ⟨W1, HW1⟩ : ∃ W, Hid (W = w.alloc (.cells #[.int .i64 s, .int .i64 v, .int .i64 t, sv, .slice tA tn tc, .slice mA mn mc, .int .i64 cc, wv] TW)) := ⟨_, Lib.hid rfl⟩
  obtain ⟨W2, HW2⟩ : ∃ W, Hid (W = W1.alloc (.cells #[.slice B m d] 40)) := ⟨_, Lib.hid rfl⟩
  have n1 : Below w.heap.size w W1 := by rw [HW1.out]; exact bel_new _ _
  have n2 : Below W1.heap.size W1 W2 := by rw [HW2.out]; exact bel_new _ _
  have s1 : W1.heap.size = g3 := by rw [HW1.out, ← HG3.out, ← HG2.out]; simp
  have hb2 := n1.trans (n2.mono n1.size)
  have HB2 := Lib.hid hb2
  have HO2 : Hid (Obj1 W2 g2 TW #[.int .i64 s, .int .i64 v, .int .i64 t, sv, .slice tA tn tc, .slice mA mn mc, .int .i64 cc, wv]) := Lib.hid ((show Obj1 W1 g2 TW _ by rw [HW1.out, ← HG2.out]; exact Obj1.new _ _ _).kept n2)
  have HO3 : Hid (Obj1 W2 g3 40 #[.slice B m d]) := Lib.hid (by rw [HW2.out, ← s1]; exact Obj1.new _ _ _)
  have HT := Lib.hid (ht.kept hb2)
  have HM := Lib.hid (hm.kept hb2)
  have HBL := Lib.hid (hB.kept hb2)
  have HS1 := Lib.hid s1
  have HA := Lib.hid (agr1_any tA tn tc ts B m d mods g3 W2 (HO3.out.cell 0) HO3.out.lt HT.out HBL.out htn hbn)
  obtain ⟨p, HP⟩ : ∃ p, Hid (mods.any (fun x => ts.contains x) = p) := ⟨_, Lib.hid rfl⟩
  obtain ⟨q, HQ⟩ : ∃ q, Hid (mods.any (fun x => ms.contains x) = q) := ⟨_, Lib.hid rfl⟩
  have HAG : Hid (agr ts ms mods = (!p || !q)) := Lib.hid (by unfold agr; rw [HP.out, HQ.out])
  rw [HP.out] at HA
  rw [HAG.out]
  have c4 : W2.cell? ⟨g2, 4, none⟩ = some (.slice tA tn tc) := HO2.out.cell 4
  clear ht hm hB n1 n2 s1 hb2
  go_enter Tryd.func37, Tryd.ntmps37
  go_upto_region 1 with (fail)
  rw [← HW1.out, HG2.out, HG3.out, ← HW2.out]
  clear HW1 HW2
  go_wp2_with fail
  refine HA.out.mono ?_
  rintro e w3 ⟨rfl, hb3⟩
  have HB3 := Lib.hid (HB2.out.trans (hb3.mono HB2.out.size))
  have HA2 := Lib.hid (agr1_any mA mn mc ms B m d mods g3 w3 ((HO3.out.kept hb3).cell 0) (HO3.out.kept hb3).lt (HM.out.kept hb3) (HBL.out.kept hb3) hmn hbn)
  rw [HQ.out] at HA2
  have c5 : w3.cell? ⟨g2, 5, none⟩ = some (.slice mA mn mc) := (HO2.out.kept hb3).cell 5
  clear hb3 c4 HA
  cases p with
  | false =>
    go_wp2
    go_ret
    exact ⟨rfl, HB3.out⟩
  | true =>
    go_wp2_with fail
    refine HA2.out.mono ?_
    rintro e w4 ⟨rfl, hb4⟩
    have HB4 := Lib.hid (HB3.out.trans (hb4.mono HB3.out.size))
    clear hb4
    go_wp2
    go_ret
    exact ⟨by cases q <;> rfl, HB4.out⟩
end Go.Proofs.YtanhblokhcaoiaaDoor.Tr
