/- The document's Writes and Words of layer 31, the statements' own helper 'one'; windows that may be name nobody twice. -/
import Derived.Test.YtkankdecbefenaaLodE
namespace Go.Proofs.Ytkankdecbefenaa.Ly31
open Go.ChangeShapes Go.WideShapes Go.ChangeAt Go.RowKit Base Ly7
set_option linter.unusedVariables false
set_option linter.unusedSimpArgs false

def WSp (n : Nat) (ws : List Wd) : Sp := fun v w => ∃ B d, v = .slice B n d ∧ WinsAt w B n ws
theorem WSp.stable (n : Nat) (ws : List Wd) : Stable (WSp n ws) := fun v a b ⟨B, d, e, h⟩ hb => ⟨B, d, e, h.kept hb⟩
theorem WSp.ex {n : Nat} {ws : List Wd} {w : World} {A : Option Addr} (c : Nat) (h : WinsAt w A n ws) : ∃ v, ∃ x : Kin w, WSp n ws v x.world := ⟨.slice A n c, Kin.me _, A, c, rfl, h⟩
theorem WSp.at {n d : Nat} {ws : List Wd} {B : Option Addr} {w : World} (h : WSp n ws (.slice B n d) w) : WinsAt w B n ws := by
  obtain ⟨B', d', e, h⟩ := h
  injection e with e1 e2 e3
  subst e1
  exact h
def W2Sp (n m : Nat) (ws us : List Wd) : Sp := fun v w => ∃ B d C e, v = .agg #[.slice B n d, .slice C m e] ∧ WinsAt w B n ws ∧ WinsAt w C m us
theorem W2Sp.stable (n m : Nat) (ws us : List Wd) : Stable (W2Sp n m ws us) := fun v a b ⟨B, d, C, e, q, h, k⟩ hb => ⟨B, d, C, e, q, h.kept hb, k.kept hb⟩
theorem W2Sp.ex {n m : Nat} {ws us : List Wd} {w : World} {A C : Option Addr} (c e : Nat) (h : WinsAt w A n ws) (k : WinsAt w C m us) : ∃ v, ∃ x : Kin w, W2Sp n m ws us v x.world := ⟨_, Kin.me _, A, c, C, e, rfl, h, k⟩
theorem W2Sp.at {n m d e : Nat} {ws us : List Wd} {B C : Option Addr} {w : World} (h : W2Sp n m ws us (.agg #[.slice B n d, .slice C m e]) w) : WinsAt w B n ws ∧ WinsAt w C m us := by
  obtain ⟨B', d', C', e', q, h, k⟩ := h
  simp at q
  obtain ⟨⟨rfl, rfl⟩, rfl, rfl⟩ := q
  exact ⟨h, k⟩

theorem info_2w : (Try.prog.info? 29).map (fun i => (i.zero, i.size)) = some (some (.agg #[.slice none 0 0, .slice none 0 0]), 2) := by kernel_rfl
theorem win_tw {md : Int} {x : Wd} (h : winI md x = 0) : x.k = 0 → twF x.fs = false ∧ twF x.ts = false := fun hk => by
  have hw := winI_is md x
  rw [h] at hw
  unfold Win at hw
  rcases hw with h | h | h | h | ⟨_, _, h | h | h | h | ⟨_, _, h, _, h' | h' | h'⟩⟩ | h | h | h | h | h
  · omega
  · omega
  · omega
  · omega
  · omega
  · exact absurd h.2.2 (by decide)
  · exact absurd h.2.2.2 (by decide)
  · exact absurd h.2.2.2.2 (by decide)
  · exact absurd h'.2 (by decide)
  · exact absurd h'.2.2 (by decide)
  · exact ⟨h, h'.2.1⟩
  · omega
  · omega
  · omega
  · omega
  · exact absurd h.1.1 (by simp [hk])
/-- Who is named at a place was not named ahead of it. -/
theorem tw_new {xs : List Int} (h : twF xs = false) {k : Nat} {x : Int} (hx : xs[k]? = some x) : (xs.take k).contains x = false := by
  cases e : (xs.take k).contains x with
  | false => rfl
  | true =>
    rw [twF_yes hx e] at h
    cases h
theorem cl_at (p : Nat → Bool) {k : Nat} (hp : p k = true) : ∀ m, k < m → (clL p m)[(clL p k).length]? = some (k : Int)
  | 0, h => by omega
  | m + 1, h => by
    rw [clL_next]
    rcases (show k < m ∨ k = m by omega) with h | rfl
    · have ih := cl_at p hp m h
      rw [List.getElem?_append_left (List.getElem?_eq_some_iff.1 ih).1]
      exact ih
    · rw [if_pos hp, List.getElem?_append_right (Nat.le_refl _), Nat.sub_self]
      rfl
set_option maxRecDepth 100000 in
set_option maxHeartbeats 1000000 in
theorem rwords_any (A : Option Addr) (n c : Nat) (ws : List Wd) (w : World) (hW : WinsAt w A n ws) (hn : n ≤ 60) (hok : ∀ x ∈ ws, WOk x) :
    Calls Try.prog 18 #[.slice A n c] w fun e w' => e = .returned (.int .i64 (ldW ws)) ∧ Below w.heap.size w w' := by
  have HW := Lib.hid hW
  have HUK := Lib.hid hok
  have HBD : Hid (∀ l : List Wd, (∀ x ∈ l, x ∈ ws) → 0 ≤ sumF (kF 0 F8) l ∧ sumF (kF 0 F8) l ≤ 64 * l.length) := Lib.hid (fun l hl => sumF_bd (F := kF 0 F8) (B := 64) l (fun x hx => by
    unfold kF F8
    split
    · rename_i hk; have := (hok x (hl x hx)).d hk; omega
    · omega))
  clear hW hok
  unfold ldW
  go_enter Try.func18, Try.ntmps18
  go_wp2_with fail
  go_loopw [3, 4] (fun s i wx => ∃ k : Nat, k ≤ n ∧ i = .int .i64 k ∧ s = .int .i64 (sumF (kF 0 F8) (ws.take k)) ∧ Below w.heap.size w wx) (fun _ i _ => n - (intOf i).toNat)
  case atStart => exact ⟨0, by omega, rfl, rfl, Below.refl _ _⟩
  case round =>
    obtain ⟨k, hk, rfl, rfl, hbel⟩ := hrel
    have HBEL := Lib.hid hbel
    by_cases hlt : k < n
    · have hki : (k : Int) < (n : Int) := by omega
      have hkl : k < ws.length := by rw [HW.out.len]; exact hlt
      obtain ⟨x, hx⟩ : ∃ x, ws[k]? = some x := ⟨_, List.getElem?_eq_getElem hkl⟩
      obtain ⟨b, off, rfl, hb, c0', c1', c2', c3', c4', c5', hok⟩ := (HW.out.kept hbel).six hlt hx
      have HNX := Lib.hid (sumF_next (kF 0 F8) hx)
      have hbd := HBD.out (ws.take k) (fun y hy => List.mem_of_mem_take hy)
      have hlk : (ws.take k).length ≤ 60 := by rw [List.length_take]; omega
      have hxk := HUK.out x (List.mem_of_getElem? hx)
      obtain ⟨S, hS⟩ : ∃ S, sumF (kF 0 F8) (ws.take k) = S := ⟨_, rfl⟩
      rw [hS] at HNX hbd ⊢
      have e0 : IntKind.i64.wrap ((k : Int) + 1) = (k : Int) + 1 := IntWalk.i64_in _ (by omega)
      by_cases hk0 : x.k = 0
      · have hd := hxk.d hk0
        have e1 : IntKind.i64.wrap (8 * x.wd) = 8 * x.wd := IntWalk.i64_in _ (by omega)
        have e2 : IntKind.i64.wrap (S + 8 * x.wd) = S + 8 * x.wd := IntWalk.i64_in _ (by omega)
        have HN2 : Hid (sumF (kF 0 F8) (ws.take (k + 1)) = S + 8 * x.wd) := Lib.hid (by rw [HNX.out]; unfold kF F8; rw [if_pos hk0])
        have hkb : (x.k == 0) = true := by simpa using hk0
        clear hbel hok hS hbd hlk hx hxk hd hk0 hkl hb
        go_wp2
        go_roundw
        case rel => exact ⟨k + 1, by omega, by go_num, by rw [HN2.out], HBEL.out⟩
        case measure => simp [intOf]; omega
      · have HN2 : Hid (sumF (kF 0 F8) (ws.take (k + 1)) = S) := Lib.hid (by rw [HNX.out]; unfold kF; rw [if_neg hk0]; omega)
        have hkb : (x.k == 0) = false := by simpa using hk0
        clear hbel hok hS hbd hlk hx hxk hk0 hkl hb
        go_wp2
        go_roundw
        case rel => exact ⟨k + 1, by omega, by go_num, by rw [HN2.out], HBEL.out⟩
        case measure => simp [intOf]; omega
    · obtain rfl : k = n := by omega
      have HE : Hid (ws.take k = ws) := Lib.hid (List.take_of_length_le (by rw [HW.out.len]; exact Nat.le_refl _))
      rw [HE.out]
      go_wp2
      go_ret
      exact ⟨rfl, HBEL.out⟩
set_option maxRecDepth 100000 in
set_option maxHeartbeats 2000000 in
theorem rwrites_any (A : Option Addr) (n c : Nat) (ws : List Wd) (p : Nat) (w : World) (hW : WinsAt w A n ws) (hn : n ≤ 60) (hp : p < 64) (hok : ∀ x ∈ ws, WOk x) :
    Calls Try.prog 16 #[.slice A n c, .int .i64 (p : Int)] w fun e w' => e = .returned (.int .i64 (wrN ws p : Nat)) ∧ Below w.heap.size w w' := by
  have HW := Lib.hid hW
  have HUK := Lib.hid hok
  clear hW hok
  go_enter Try.func16, Try.ntmps16
  go_wp2_with fail
  go_loopw [5, 6] (fun s i wx => ∃ k : Nat, k ≤ n ∧ i = .int .i64 k ∧ s = .int .i64 (wrN (ws.take k) p : Nat) ∧ Below w.heap.size w wx) (fun _ i _ => n - (intOf i).toNat)
  case atStart => exact ⟨0, by omega, rfl, rfl, Below.refl _ _⟩
  case round =>
    obtain ⟨k, hk, rfl, rfl, hbel⟩ := hrel
    have HBEL := Lib.hid hbel
    by_cases hlt : k < n
    · have hki : (k : Int) < (n : Int) := by omega
      have hkl : k < ws.length := by rw [HW.out.len]; exact hlt
      obtain ⟨x, hx⟩ : ∃ x, ws[k]? = some x := ⟨_, List.getElem?_eq_getElem hkl⟩
      obtain ⟨b, off, rfl, hb, c0', c1', c2', c3', c4', c5', _⟩ := (HW.out.kept hbel).six hlt hx
      have HNX : Hid (wrN (ws.take (k + 1)) p = wrN (ws.take k) p + (if cov x p = true then 1 else 0)) := Lib.hid (by rw [take_next hx, wrN_snoc])
      have hle := wrN_le (ws.take k) p
      have hlk : (ws.take k).length ≤ 60 := by rw [List.length_take]; omega
      have hxk := HUK.out x (List.mem_of_getElem? hx)
      obtain ⟨S, hS⟩ : ∃ S, wrN (ws.take k) p = S := ⟨_, rfl⟩
      rw [hS] at HNX hle ⊢
      have e0 : IntKind.i64.wrap ((k : Int) + 1) = (k : Int) + 1 := IntWalk.i64_in _ (by omega)
      have e1 : IntKind.i64.wrap ((S : Int) + 1) = (S : Int) + 1 := IntWalk.i64_in _ (by omega)
      have K0 : ∀ z : Kin wr.drew, z.world.cell? ⟨b, off + k * 6, none⟩ = some (.int .i64 x.k) := fun z => Kin.at (w := wr.drew) c0' z
      have K2 : ∀ z : Kin wr.drew, z.world.cell? ⟨b, off + k * 6 + 2, none⟩ = some (.int .i64 x.wd) := fun z => Kin.at (w := wr.drew) c2' z
      have K3 : ∀ z : Kin wr.drew, z.world.cell? ⟨b, off + k * 6 + 3, none⟩ = some (.int .i64 x.ad) := fun z => Kin.at (w := wr.drew) c3' z
      rcases (show (x.k = 0 ∧ x.ad ≤ (p : Int) ∧ (p : Int) < x.ad + x.wd) ∨ (x.k = 0 ∧ x.ad ≤ (p : Int) ∧ ¬ (p : Int) < x.ad + x.wd) ∨ (x.k = 0 ∧ ¬ x.ad ≤ (p : Int)) ∨ ¬ x.k = 0 by omega) with ⟨hk0, ha, hc⟩ | ⟨hk0, ha, hc⟩ | ⟨hk0, ha⟩ | hk0
      · have hkb : (x.k == 0) = true := by simpa using hk0
        have hd := hxk.d hk0
        have e2 : IntKind.i64.wrap (x.ad + x.wd) = x.ad + x.wd := IntWalk.i64_in _ (by omega)
        clear hd
        have HN2 : Hid (wrN (ws.take (k + 1)) p = S + 1) := Lib.hid (by rw [HNX.out, show cov x p = true from decide_eq_true ⟨hk0, ha, hc⟩]; first | rfl | simp)
        clear hbel hS hle hlk hx hxk hkl hb c0' c1' c2' c3' c4' c5' hk0 hk
        go_upto_region 5 with (fail)
        refine wp_region_specL 30 [.d (.slice (some ⟨b, off, none⟩) n c), .d (.int .i64 k), .d (.pointer (some ⟨b, off + k * 6, none⟩)), .d (.pointer (some ⟨b, off + k * 6, none⟩)), .d (.int .i64 x.k), .d (.bool true), .d (.bool true), .d (.int .i64 (p : Int)), .d (.slice (some ⟨b, off, none⟩) n c), .d (.int .i64 k), .d (.pointer (some ⟨b, off + k * 6, none⟩)), .d (.pointer (some ⟨b, off + k * 6 + 3, none⟩)), .d (.int .i64 x.ad), .d (.bool true), .d (.bool true), .d (.bool true), .d (.int .i64 (p : Int)), .d (.slice (some ⟨b, off, none⟩) n c), .d (.int .i64 k), .d (.pointer (some ⟨b, off + k * 6, none⟩)), .d (.pointer (some ⟨b, off + k * 6 + 3, none⟩)), .d (.int .i64 x.ad), .d (.slice (some ⟨b, off, none⟩) n c), .d (.int .i64 k), .d (.pointer (some ⟨b, off + k * 6, none⟩)), .d (.pointer (some ⟨b, off + k * 6 + 2, none⟩)), .d (.int .i64 x.wd), .d (.int .i64 (x.ad + x.wd)), .d (.bool true), .d (.bool true)] (by kernel_rfl) (by kernel_rfl) ?_
        refine spec_d rfl (fun x _ => gives_run (by go_simp)) ?_
        try simp only [Act.put, List.getElem_toArray, List.getElem_cons_succ, List.getElem_cons_zero, List.setIfInBounds_toArray, List.set_cons_zero, List.set_cons_succ]
        refine spec_d rfl (fun x _ => gives_run (by go_simp)) ?_
        try simp only [Act.put, List.getElem_toArray, List.getElem_cons_succ, List.getElem_cons_zero, List.setIfInBounds_toArray, List.set_cons_zero, List.set_cons_succ]
        refine spec_d rfl (fun x _ => gives_run (by go_simp)) ?_
        try simp only [Act.put, List.getElem_toArray, List.getElem_cons_succ, List.getElem_cons_zero, List.setIfInBounds_toArray, List.set_cons_zero, List.set_cons_succ]
        refine spec_d rfl (fun x _ => gives_run (by go_simp)) ?_
        try simp only [Act.put, List.getElem_toArray, List.getElem_cons_succ, List.getElem_cons_zero, List.setIfInBounds_toArray, List.set_cons_zero, List.set_cons_succ]
        refine spec_d rfl (fun x _ => gives_run (by go_simp)) ?_
        try simp only [Act.put, List.getElem_toArray, List.getElem_cons_succ, List.getElem_cons_zero, List.setIfInBounds_toArray, List.set_cons_zero, List.set_cons_succ]
        refine spec_d rfl (fun x _ => gives_run (by go_simp)) ?_
        try simp only [Act.put, List.getElem_toArray, List.getElem_cons_succ, List.getElem_cons_zero, List.setIfInBounds_toArray, List.set_cons_zero, List.set_cons_succ]
        refine spec_d rfl (fun x _ => gives_run (by go_simp)) ?_
        try simp only [Act.put, List.getElem_toArray, List.getElem_cons_succ, List.getElem_cons_zero, List.setIfInBounds_toArray, List.set_cons_zero, List.set_cons_succ]
        refine spec_d rfl (fun x _ => gives_run (by go_simp)) ?_
        try simp only [Act.put, List.getElem_toArray, List.getElem_cons_succ, List.getElem_cons_zero, List.setIfInBounds_toArray, List.set_cons_zero, List.set_cons_succ]
        refine spec_d rfl (fun x _ => gives_run (by go_simp)) ?_
        try simp only [Act.put, List.getElem_toArray, List.getElem_cons_succ, List.getElem_cons_zero, List.setIfInBounds_toArray, List.set_cons_zero, List.set_cons_succ]
        refine spec_d rfl (fun x _ => gives_run (by go_simp)) ?_
        try simp only [Act.put, List.getElem_toArray, List.getElem_cons_succ, List.getElem_cons_zero, List.setIfInBounds_toArray, List.set_cons_zero, List.set_cons_succ]
        refine spec_d rfl (fun x _ => gives_run (by go_simp)) ?_
        try simp only [Act.put, List.getElem_toArray, List.getElem_cons_succ, List.getElem_cons_zero, List.setIfInBounds_toArray, List.set_cons_zero, List.set_cons_succ]
        refine spec_d rfl (fun x _ => gives_run (by go_simp)) ?_
        try simp only [Act.put, List.getElem_toArray, List.getElem_cons_succ, List.getElem_cons_zero, List.setIfInBounds_toArray, List.set_cons_zero, List.set_cons_succ]
        refine spec_d rfl (fun x _ => gives_run (by go_simp)) ?_
        try simp only [Act.put, List.getElem_toArray, List.getElem_cons_succ, List.getElem_cons_zero, List.setIfInBounds_toArray, List.set_cons_zero, List.set_cons_succ]
        refine spec_d rfl (fun x _ => gives_run (by go_simp)) ?_
        try simp only [Act.put, List.getElem_toArray, List.getElem_cons_succ, List.getElem_cons_zero, List.setIfInBounds_toArray, List.set_cons_zero, List.set_cons_succ]
        refine spec_d rfl (fun x _ => gives_run (by go_simp)) ?_
        try simp only [Act.put, List.getElem_toArray, List.getElem_cons_succ, List.getElem_cons_zero, List.setIfInBounds_toArray, List.set_cons_zero, List.set_cons_succ]
        refine spec_d rfl (fun x _ => gives_run (by go_simp)) ?_
        try simp only [Act.put, List.getElem_toArray, List.getElem_cons_succ, List.getElem_cons_zero, List.setIfInBounds_toArray, List.set_cons_zero, List.set_cons_succ]
        refine spec_d rfl (fun x _ => gives_run (by go_simp)) ?_
        try simp only [Act.put, List.getElem_toArray, List.getElem_cons_succ, List.getElem_cons_zero, List.setIfInBounds_toArray, List.set_cons_zero, List.set_cons_succ]
        refine spec_d rfl (fun x _ => gives_run (by go_simp)) ?_
        try simp only [Act.put, List.getElem_toArray, List.getElem_cons_succ, List.getElem_cons_zero, List.setIfInBounds_toArray, List.set_cons_zero, List.set_cons_succ]
        refine spec_d rfl (fun x _ => gives_run (by go_simp)) ?_
        try simp only [Act.put, List.getElem_toArray, List.getElem_cons_succ, List.getElem_cons_zero, List.setIfInBounds_toArray, List.set_cons_zero, List.set_cons_succ]
        refine spec_d rfl (fun x _ => gives_run (by go_simp)) ?_
        try simp only [Act.put, List.getElem_toArray, List.getElem_cons_succ, List.getElem_cons_zero, List.setIfInBounds_toArray, List.set_cons_zero, List.set_cons_succ]
        refine spec_d rfl (fun x _ => gives_run (by go_simp)) ?_
        try simp only [Act.put, List.getElem_toArray, List.getElem_cons_succ, List.getElem_cons_zero, List.setIfInBounds_toArray, List.set_cons_zero, List.set_cons_succ]
        refine spec_d rfl (fun x _ => gives_run (by go_simp)) ?_
        try simp only [Act.put, List.getElem_toArray, List.getElem_cons_succ, List.getElem_cons_zero, List.setIfInBounds_toArray, List.set_cons_zero, List.set_cons_succ]
        refine spec_d rfl (fun x _ => gives_run (by go_simp)) ?_
        try simp only [Act.put, List.getElem_toArray, List.getElem_cons_succ, List.getElem_cons_zero, List.setIfInBounds_toArray, List.set_cons_zero, List.set_cons_succ]
        refine spec_d rfl (fun x _ => gives_run (by go_simp)) ?_
        try simp only [Act.put, List.getElem_toArray, List.getElem_cons_succ, List.getElem_cons_zero, List.setIfInBounds_toArray, List.set_cons_zero, List.set_cons_succ]
        refine spec_d rfl (fun x _ => gives_run (by go_simp)) ?_
        try simp only [Act.put, List.getElem_toArray, List.getElem_cons_succ, List.getElem_cons_zero, List.setIfInBounds_toArray, List.set_cons_zero, List.set_cons_succ]
        refine spec_d rfl (fun x _ => gives_run (by go_simp)) ?_
        try simp only [Act.put, List.getElem_toArray, List.getElem_cons_succ, List.getElem_cons_zero, List.setIfInBounds_toArray, List.set_cons_zero, List.set_cons_succ]
        refine spec_d rfl (fun x _ => gives_run (by go_simp)) ?_
        try simp only [Act.put, List.getElem_toArray, List.getElem_cons_succ, List.getElem_cons_zero, List.setIfInBounds_toArray, List.set_cons_zero, List.set_cons_succ]
        refine spec_d rfl (fun x _ => gives_run (by go_simp)) ?_
        try simp only [Act.put, List.getElem_toArray, List.getElem_cons_succ, List.getElem_cons_zero, List.setIfInBounds_toArray, List.set_cons_zero, List.set_cons_succ]
        refine spec_d rfl (fun x _ => gives_run (by go_simp)) ?_
        try simp only [Act.put, List.getElem_toArray, List.getElem_cons_succ, List.getElem_cons_zero, List.setIfInBounds_toArray, List.set_cons_zero, List.set_cons_succ]
        refine spec_d rfl (fun x _ => gives_run (by go_simp)) ?_
        try simp only [Act.put, List.getElem_toArray, List.getElem_cons_succ, List.getElem_cons_zero, List.setIfInBounds_toArray, List.set_cons_zero, List.set_cons_succ]
        refine spec_end (fun z hz => ?_)
        clear hz
        refine wpAny_done (by kernel_rfl) ?_ _
        have HB5 := Lib.hid (HBEL.out.trans (((bel_drew wr).trans z.below).mono HBEL.out.size))
        clear K0 K2 K3
        generalize z.world = w5 at HB5 ⊢
        clear z
        go_wp2
        go_roundw
        case rel => exact ⟨k + 1, by omega, by go_num, by first | (rw [HN2.out]; done) | (rw [HN2.out]; simp), HB5.out⟩
        case measure => simp [intOf]; omega
      · have hkb : (x.k == 0) = true := by simpa using hk0
        have hd := hxk.d hk0
        have e2 : IntKind.i64.wrap (x.ad + x.wd) = x.ad + x.wd := IntWalk.i64_in _ (by omega)
        clear hd
        have HN2 : Hid (wrN (ws.take (k + 1)) p = S) := Lib.hid (by rw [HNX.out, show cov x p = false from decide_eq_false (fun h => hc h.2.2)]; first | rfl | simp)
        clear hbel hS hle hlk hx hxk hkl hb c0' c1' c2' c3' c4' c5' hk0 hk
        go_upto_region 5 with (fail)
        refine wp_region_specL 30 [.d (.slice (some ⟨b, off, none⟩) n c), .d (.int .i64 k), .d (.pointer (some ⟨b, off + k * 6, none⟩)), .d (.pointer (some ⟨b, off + k * 6, none⟩)), .d (.int .i64 x.k), .d (.bool true), .d (.bool true), .d (.int .i64 (p : Int)), .d (.slice (some ⟨b, off, none⟩) n c), .d (.int .i64 k), .d (.pointer (some ⟨b, off + k * 6, none⟩)), .d (.pointer (some ⟨b, off + k * 6 + 3, none⟩)), .d (.int .i64 x.ad), .d (.bool true), .d (.bool true), .d (.bool true), .d (.int .i64 (p : Int)), .d (.slice (some ⟨b, off, none⟩) n c), .d (.int .i64 k), .d (.pointer (some ⟨b, off + k * 6, none⟩)), .d (.pointer (some ⟨b, off + k * 6 + 3, none⟩)), .d (.int .i64 x.ad), .d (.slice (some ⟨b, off, none⟩) n c), .d (.int .i64 k), .d (.pointer (some ⟨b, off + k * 6, none⟩)), .d (.pointer (some ⟨b, off + k * 6 + 2, none⟩)), .d (.int .i64 x.wd), .d (.int .i64 (x.ad + x.wd)), .d (.bool false), .d (.bool false)] (by kernel_rfl) (by kernel_rfl) ?_
        refine spec_d rfl (fun x _ => gives_run (by go_simp)) ?_
        try simp only [Act.put, List.getElem_toArray, List.getElem_cons_succ, List.getElem_cons_zero, List.setIfInBounds_toArray, List.set_cons_zero, List.set_cons_succ]
        refine spec_d rfl (fun x _ => gives_run (by go_simp)) ?_
        try simp only [Act.put, List.getElem_toArray, List.getElem_cons_succ, List.getElem_cons_zero, List.setIfInBounds_toArray, List.set_cons_zero, List.set_cons_succ]
        refine spec_d rfl (fun x _ => gives_run (by go_simp)) ?_
        try simp only [Act.put, List.getElem_toArray, List.getElem_cons_succ, List.getElem_cons_zero, List.setIfInBounds_toArray, List.set_cons_zero, List.set_cons_succ]
        refine spec_d rfl (fun x _ => gives_run (by go_simp)) ?_
        try simp only [Act.put, List.getElem_toArray, List.getElem_cons_succ, List.getElem_cons_zero, List.setIfInBounds_toArray, List.set_cons_zero, List.set_cons_succ]
        refine spec_d rfl (fun x _ => gives_run (by go_simp)) ?_
        try simp only [Act.put, List.getElem_toArray, List.getElem_cons_succ, List.getElem_cons_zero, List.setIfInBounds_toArray, List.set_cons_zero, List.set_cons_succ]
        refine spec_d rfl (fun x _ => gives_run (by go_simp)) ?_
        try simp only [Act.put, List.getElem_toArray, List.getElem_cons_succ, List.getElem_cons_zero, List.setIfInBounds_toArray, List.set_cons_zero, List.set_cons_succ]
        refine spec_d rfl (fun x _ => gives_run (by go_simp)) ?_
        try simp only [Act.put, List.getElem_toArray, List.getElem_cons_succ, List.getElem_cons_zero, List.setIfInBounds_toArray, List.set_cons_zero, List.set_cons_succ]
        refine spec_d rfl (fun x _ => gives_run (by go_simp)) ?_
        try simp only [Act.put, List.getElem_toArray, List.getElem_cons_succ, List.getElem_cons_zero, List.setIfInBounds_toArray, List.set_cons_zero, List.set_cons_succ]
        refine spec_d rfl (fun x _ => gives_run (by go_simp)) ?_
        try simp only [Act.put, List.getElem_toArray, List.getElem_cons_succ, List.getElem_cons_zero, List.setIfInBounds_toArray, List.set_cons_zero, List.set_cons_succ]
        refine spec_d rfl (fun x _ => gives_run (by go_simp)) ?_
        try simp only [Act.put, List.getElem_toArray, List.getElem_cons_succ, List.getElem_cons_zero, List.setIfInBounds_toArray, List.set_cons_zero, List.set_cons_succ]
        refine spec_d rfl (fun x _ => gives_run (by go_simp)) ?_
        try simp only [Act.put, List.getElem_toArray, List.getElem_cons_succ, List.getElem_cons_zero, List.setIfInBounds_toArray, List.set_cons_zero, List.set_cons_succ]
        refine spec_d rfl (fun x _ => gives_run (by go_simp)) ?_
        try simp only [Act.put, List.getElem_toArray, List.getElem_cons_succ, List.getElem_cons_zero, List.setIfInBounds_toArray, List.set_cons_zero, List.set_cons_succ]
        refine spec_d rfl (fun x _ => gives_run (by go_simp)) ?_
        try simp only [Act.put, List.getElem_toArray, List.getElem_cons_succ, List.getElem_cons_zero, List.setIfInBounds_toArray, List.set_cons_zero, List.set_cons_succ]
        refine spec_d rfl (fun x _ => gives_run (by go_simp)) ?_
        try simp only [Act.put, List.getElem_toArray, List.getElem_cons_succ, List.getElem_cons_zero, List.setIfInBounds_toArray, List.set_cons_zero, List.set_cons_succ]
        refine spec_d rfl (fun x _ => gives_run (by go_simp)) ?_
        try simp only [Act.put, List.getElem_toArray, List.getElem_cons_succ, List.getElem_cons_zero, List.setIfInBounds_toArray, List.set_cons_zero, List.set_cons_succ]
        refine spec_d rfl (fun x _ => gives_run (by go_simp)) ?_
        try simp only [Act.put, List.getElem_toArray, List.getElem_cons_succ, List.getElem_cons_zero, List.setIfInBounds_toArray, List.set_cons_zero, List.set_cons_succ]
        refine spec_d rfl (fun x _ => gives_run (by go_simp)) ?_
        try simp only [Act.put, List.getElem_toArray, List.getElem_cons_succ, List.getElem_cons_zero, List.setIfInBounds_toArray, List.set_cons_zero, List.set_cons_succ]
        refine spec_d rfl (fun x _ => gives_run (by go_simp)) ?_
        try simp only [Act.put, List.getElem_toArray, List.getElem_cons_succ, List.getElem_cons_zero, List.setIfInBounds_toArray, List.set_cons_zero, List.set_cons_succ]
        refine spec_d rfl (fun x _ => gives_run (by go_simp)) ?_
        try simp only [Act.put, List.getElem_toArray, List.getElem_cons_succ, List.getElem_cons_zero, List.setIfInBounds_toArray, List.set_cons_zero, List.set_cons_succ]
        refine spec_d rfl (fun x _ => gives_run (by go_simp)) ?_
        try simp only [Act.put, List.getElem_toArray, List.getElem_cons_succ, List.getElem_cons_zero, List.setIfInBounds_toArray, List.set_cons_zero, List.set_cons_succ]
        refine spec_d rfl (fun x _ => gives_run (by go_simp)) ?_
        try simp only [Act.put, List.getElem_toArray, List.getElem_cons_succ, List.getElem_cons_zero, List.setIfInBounds_toArray, List.set_cons_zero, List.set_cons_succ]
        refine spec_d rfl (fun x _ => gives_run (by go_simp)) ?_
        try simp only [Act.put, List.getElem_toArray, List.getElem_cons_succ, List.getElem_cons_zero, List.setIfInBounds_toArray, List.set_cons_zero, List.set_cons_succ]
        refine spec_d rfl (fun x _ => gives_run (by go_simp)) ?_
        try simp only [Act.put, List.getElem_toArray, List.getElem_cons_succ, List.getElem_cons_zero, List.setIfInBounds_toArray, List.set_cons_zero, List.set_cons_succ]
        refine spec_d rfl (fun x _ => gives_run (by go_simp)) ?_
        try simp only [Act.put, List.getElem_toArray, List.getElem_cons_succ, List.getElem_cons_zero, List.setIfInBounds_toArray, List.set_cons_zero, List.set_cons_succ]
        refine spec_d rfl (fun x _ => gives_run (by go_simp)) ?_
        try simp only [Act.put, List.getElem_toArray, List.getElem_cons_succ, List.getElem_cons_zero, List.setIfInBounds_toArray, List.set_cons_zero, List.set_cons_succ]
        refine spec_d rfl (fun x _ => gives_run (by go_simp)) ?_
        try simp only [Act.put, List.getElem_toArray, List.getElem_cons_succ, List.getElem_cons_zero, List.setIfInBounds_toArray, List.set_cons_zero, List.set_cons_succ]
        refine spec_d rfl (fun x _ => gives_run (by go_simp)) ?_
        try simp only [Act.put, List.getElem_toArray, List.getElem_cons_succ, List.getElem_cons_zero, List.setIfInBounds_toArray, List.set_cons_zero, List.set_cons_succ]
        refine spec_d rfl (fun x _ => gives_run (by go_simp)) ?_
        try simp only [Act.put, List.getElem_toArray, List.getElem_cons_succ, List.getElem_cons_zero, List.setIfInBounds_toArray, List.set_cons_zero, List.set_cons_succ]
        refine spec_d rfl (fun x _ => gives_run (by go_simp)) ?_
        try simp only [Act.put, List.getElem_toArray, List.getElem_cons_succ, List.getElem_cons_zero, List.setIfInBounds_toArray, List.set_cons_zero, List.set_cons_succ]
        refine spec_d rfl (fun x _ => gives_run (by go_simp)) ?_
        try simp only [Act.put, List.getElem_toArray, List.getElem_cons_succ, List.getElem_cons_zero, List.setIfInBounds_toArray, List.set_cons_zero, List.set_cons_succ]
        refine spec_end (fun z hz => ?_)
        clear hz
        refine wpAny_done (by kernel_rfl) ?_ _
        have HB5 := Lib.hid (HBEL.out.trans (((bel_drew wr).trans z.below).mono HBEL.out.size))
        clear K0 K2 K3
        generalize z.world = w5 at HB5 ⊢
        clear z
        go_wp2
        go_roundw
        case rel => exact ⟨k + 1, by omega, by go_num, by first | (rw [HN2.out]; done) | (rw [HN2.out]; simp), HB5.out⟩
        case measure => simp [intOf]; omega
      · have hkb : (x.k == 0) = true := by simpa using hk0
        have HN2 : Hid (wrN (ws.take (k + 1)) p = S) := Lib.hid (by rw [HNX.out, show cov x p = false from decide_eq_false (fun h => ha h.2.1)]; first | rfl | simp)
        clear hbel hS hle hlk hx hxk hkl hb c0' c1' c2' c3' c4' c5' hk0 hk
        go_upto_region 5 with (fail)
        refine wp_region_specL 30 [.d (.slice (some ⟨b, off, none⟩) n c), .d (.int .i64 k), .d (.pointer (some ⟨b, off + k * 6, none⟩)), .d (.pointer (some ⟨b, off + k * 6, none⟩)), .d (.int .i64 x.k), .d (.bool true), .d (.bool true), .d (.int .i64 (p : Int)), .d (.slice (some ⟨b, off, none⟩) n c), .d (.int .i64 k), .d (.pointer (some ⟨b, off + k * 6, none⟩)), .d (.pointer (some ⟨b, off + k * 6 + 3, none⟩)), .d (.int .i64 x.ad), .d (.bool false), .d (.bool false), .d (.bool false), .d undef, .d undef, .d undef, .d undef, .d undef, .d undef, .d undef, .d undef, .d undef, .d undef, .d undef, .d undef, .d undef, .d (.bool false)] (by kernel_rfl) (by kernel_rfl) ?_
        refine spec_d rfl (fun x _ => gives_run (by go_simp)) ?_
        try simp only [Act.put, List.getElem_toArray, List.getElem_cons_succ, List.getElem_cons_zero, List.setIfInBounds_toArray, List.set_cons_zero, List.set_cons_succ]
        refine spec_d rfl (fun x _ => gives_run (by go_simp)) ?_
        try simp only [Act.put, List.getElem_toArray, List.getElem_cons_succ, List.getElem_cons_zero, List.setIfInBounds_toArray, List.set_cons_zero, List.set_cons_succ]
        refine spec_d rfl (fun x _ => gives_run (by go_simp)) ?_
        try simp only [Act.put, List.getElem_toArray, List.getElem_cons_succ, List.getElem_cons_zero, List.setIfInBounds_toArray, List.set_cons_zero, List.set_cons_succ]
        refine spec_d rfl (fun x _ => gives_run (by go_simp)) ?_
        try simp only [Act.put, List.getElem_toArray, List.getElem_cons_succ, List.getElem_cons_zero, List.setIfInBounds_toArray, List.set_cons_zero, List.set_cons_succ]
        refine spec_d rfl (fun x _ => gives_run (by go_simp)) ?_
        try simp only [Act.put, List.getElem_toArray, List.getElem_cons_succ, List.getElem_cons_zero, List.setIfInBounds_toArray, List.set_cons_zero, List.set_cons_succ]
        refine spec_d rfl (fun x _ => gives_run (by go_simp)) ?_
        try simp only [Act.put, List.getElem_toArray, List.getElem_cons_succ, List.getElem_cons_zero, List.setIfInBounds_toArray, List.set_cons_zero, List.set_cons_succ]
        refine spec_d rfl (fun x _ => gives_run (by go_simp)) ?_
        try simp only [Act.put, List.getElem_toArray, List.getElem_cons_succ, List.getElem_cons_zero, List.setIfInBounds_toArray, List.set_cons_zero, List.set_cons_succ]
        refine spec_d rfl (fun x _ => gives_run (by go_simp)) ?_
        try simp only [Act.put, List.getElem_toArray, List.getElem_cons_succ, List.getElem_cons_zero, List.setIfInBounds_toArray, List.set_cons_zero, List.set_cons_succ]
        refine spec_d rfl (fun x _ => gives_run (by go_simp)) ?_
        try simp only [Act.put, List.getElem_toArray, List.getElem_cons_succ, List.getElem_cons_zero, List.setIfInBounds_toArray, List.set_cons_zero, List.set_cons_succ]
        refine spec_d rfl (fun x _ => gives_run (by go_simp)) ?_
        try simp only [Act.put, List.getElem_toArray, List.getElem_cons_succ, List.getElem_cons_zero, List.setIfInBounds_toArray, List.set_cons_zero, List.set_cons_succ]
        refine spec_d rfl (fun x _ => gives_run (by go_simp)) ?_
        try simp only [Act.put, List.getElem_toArray, List.getElem_cons_succ, List.getElem_cons_zero, List.setIfInBounds_toArray, List.set_cons_zero, List.set_cons_succ]
        refine spec_d rfl (fun x _ => gives_run (by go_simp)) ?_
        try simp only [Act.put, List.getElem_toArray, List.getElem_cons_succ, List.getElem_cons_zero, List.setIfInBounds_toArray, List.set_cons_zero, List.set_cons_succ]
        refine spec_d rfl (fun x _ => gives_run (by go_simp)) ?_
        try simp only [Act.put, List.getElem_toArray, List.getElem_cons_succ, List.getElem_cons_zero, List.setIfInBounds_toArray, List.set_cons_zero, List.set_cons_succ]
        refine spec_d rfl (fun x _ => gives_run (by go_simp)) ?_
        try simp only [Act.put, List.getElem_toArray, List.getElem_cons_succ, List.getElem_cons_zero, List.setIfInBounds_toArray, List.set_cons_zero, List.set_cons_succ]
        refine spec_d rfl (fun x _ => gives_run (by go_simp)) ?_
        try simp only [Act.put, List.getElem_toArray, List.getElem_cons_succ, List.getElem_cons_zero, List.setIfInBounds_toArray, List.set_cons_zero, List.set_cons_succ]
        refine spec_d rfl (fun x _ => gives_run (by go_simp)) ?_
        try simp only [Act.put, List.getElem_toArray, List.getElem_cons_succ, List.getElem_cons_zero, List.setIfInBounds_toArray, List.set_cons_zero, List.set_cons_succ]
        refine spec_skip (by kernel_rfl) ?_
        try simp only [Act.put, List.getElem_toArray, List.getElem_cons_succ, List.getElem_cons_zero, List.setIfInBounds_toArray, List.set_cons_zero, List.set_cons_succ]
        refine spec_skip (by kernel_rfl) ?_
        try simp only [Act.put, List.getElem_toArray, List.getElem_cons_succ, List.getElem_cons_zero, List.setIfInBounds_toArray, List.set_cons_zero, List.set_cons_succ]
        refine spec_skip (by kernel_rfl) ?_
        try simp only [Act.put, List.getElem_toArray, List.getElem_cons_succ, List.getElem_cons_zero, List.setIfInBounds_toArray, List.set_cons_zero, List.set_cons_succ]
        refine spec_skip (by kernel_rfl) ?_
        try simp only [Act.put, List.getElem_toArray, List.getElem_cons_succ, List.getElem_cons_zero, List.setIfInBounds_toArray, List.set_cons_zero, List.set_cons_succ]
        refine spec_skip (by kernel_rfl) ?_
        try simp only [Act.put, List.getElem_toArray, List.getElem_cons_succ, List.getElem_cons_zero, List.setIfInBounds_toArray, List.set_cons_zero, List.set_cons_succ]
        refine spec_skip (by kernel_rfl) ?_
        try simp only [Act.put, List.getElem_toArray, List.getElem_cons_succ, List.getElem_cons_zero, List.setIfInBounds_toArray, List.set_cons_zero, List.set_cons_succ]
        refine spec_skip (by kernel_rfl) ?_
        try simp only [Act.put, List.getElem_toArray, List.getElem_cons_succ, List.getElem_cons_zero, List.setIfInBounds_toArray, List.set_cons_zero, List.set_cons_succ]
        refine spec_skip (by kernel_rfl) ?_
        try simp only [Act.put, List.getElem_toArray, List.getElem_cons_succ, List.getElem_cons_zero, List.setIfInBounds_toArray, List.set_cons_zero, List.set_cons_succ]
        refine spec_skip (by kernel_rfl) ?_
        try simp only [Act.put, List.getElem_toArray, List.getElem_cons_succ, List.getElem_cons_zero, List.setIfInBounds_toArray, List.set_cons_zero, List.set_cons_succ]
        refine spec_skip (by kernel_rfl) ?_
        try simp only [Act.put, List.getElem_toArray, List.getElem_cons_succ, List.getElem_cons_zero, List.setIfInBounds_toArray, List.set_cons_zero, List.set_cons_succ]
        refine spec_skip (by kernel_rfl) ?_
        try simp only [Act.put, List.getElem_toArray, List.getElem_cons_succ, List.getElem_cons_zero, List.setIfInBounds_toArray, List.set_cons_zero, List.set_cons_succ]
        refine spec_skip (by kernel_rfl) ?_
        try simp only [Act.put, List.getElem_toArray, List.getElem_cons_succ, List.getElem_cons_zero, List.setIfInBounds_toArray, List.set_cons_zero, List.set_cons_succ]
        refine spec_skip (by kernel_rfl) ?_
        try simp only [Act.put, List.getElem_toArray, List.getElem_cons_succ, List.getElem_cons_zero, List.setIfInBounds_toArray, List.set_cons_zero, List.set_cons_succ]
        refine spec_d rfl (fun x _ => gives_run (by go_simp)) ?_
        try simp only [Act.put, List.getElem_toArray, List.getElem_cons_succ, List.getElem_cons_zero, List.setIfInBounds_toArray, List.set_cons_zero, List.set_cons_succ]
        refine spec_end (fun z hz => ?_)
        clear hz
        refine wpAny_done (by kernel_rfl) ?_ _
        have HB5 := Lib.hid (HBEL.out.trans (((bel_drew wr).trans z.below).mono HBEL.out.size))
        clear K0 K2 K3
        generalize z.world = w5 at HB5 ⊢
        clear z
        go_wp2
        go_roundw
        case rel => exact ⟨k + 1, by omega, by go_num, by first | (rw [HN2.out]; done) | (rw [HN2.out]; simp), HB5.out⟩
        case measure => simp [intOf]; omega
      · have hkb : (x.k == 0) = false := by simpa using hk0
        have HN2 : Hid (wrN (ws.take (k + 1)) p = S) := Lib.hid (by rw [HNX.out, show cov x p = false from decide_eq_false (fun h => hk0 h.1)]; first | rfl | simp)
        clear hbel hS hle hlk hx hxk hkl hb c0' c1' c2' c3' c4' c5' hk0 hk
        go_upto_region 5 with (fail)
        refine wp_region_specL 30 [.d (.slice (some ⟨b, off, none⟩) n c), .d (.int .i64 k), .d (.pointer (some ⟨b, off + k * 6, none⟩)), .d (.pointer (some ⟨b, off + k * 6, none⟩)), .d (.int .i64 x.k), .d (.bool false), .d (.bool false), .d undef, .d undef, .d undef, .d undef, .d undef, .d undef, .d undef, .d (.bool false), .d (.bool false), .d undef, .d undef, .d undef, .d undef, .d undef, .d undef, .d undef, .d undef, .d undef, .d undef, .d undef, .d undef, .d undef, .d (.bool false)] (by kernel_rfl) (by kernel_rfl) ?_
        refine spec_d rfl (fun x _ => gives_run (by go_simp)) ?_
        try simp only [Act.put, List.getElem_toArray, List.getElem_cons_succ, List.getElem_cons_zero, List.setIfInBounds_toArray, List.set_cons_zero, List.set_cons_succ]
        refine spec_d rfl (fun x _ => gives_run (by go_simp)) ?_
        try simp only [Act.put, List.getElem_toArray, List.getElem_cons_succ, List.getElem_cons_zero, List.setIfInBounds_toArray, List.set_cons_zero, List.set_cons_succ]
        refine spec_d rfl (fun x _ => gives_run (by go_simp)) ?_
        try simp only [Act.put, List.getElem_toArray, List.getElem_cons_succ, List.getElem_cons_zero, List.setIfInBounds_toArray, List.set_cons_zero, List.set_cons_succ]
        refine spec_d rfl (fun x _ => gives_run (by go_simp)) ?_
        try simp only [Act.put, List.getElem_toArray, List.getElem_cons_succ, List.getElem_cons_zero, List.setIfInBounds_toArray, List.set_cons_zero, List.set_cons_succ]
        refine spec_d rfl (fun x _ => gives_run (by go_simp)) ?_
        try simp only [Act.put, List.getElem_toArray, List.getElem_cons_succ, List.getElem_cons_zero, List.setIfInBounds_toArray, List.set_cons_zero, List.set_cons_succ]
        refine spec_d rfl (fun x _ => gives_run (by go_simp)) ?_
        try simp only [Act.put, List.getElem_toArray, List.getElem_cons_succ, List.getElem_cons_zero, List.setIfInBounds_toArray, List.set_cons_zero, List.set_cons_succ]
        refine spec_d rfl (fun x _ => gives_run (by go_simp)) ?_
        try simp only [Act.put, List.getElem_toArray, List.getElem_cons_succ, List.getElem_cons_zero, List.setIfInBounds_toArray, List.set_cons_zero, List.set_cons_succ]
        refine spec_skip (by kernel_rfl) ?_
        try simp only [Act.put, List.getElem_toArray, List.getElem_cons_succ, List.getElem_cons_zero, List.setIfInBounds_toArray, List.set_cons_zero, List.set_cons_succ]
        refine spec_skip (by kernel_rfl) ?_
        try simp only [Act.put, List.getElem_toArray, List.getElem_cons_succ, List.getElem_cons_zero, List.setIfInBounds_toArray, List.set_cons_zero, List.set_cons_succ]
        refine spec_skip (by kernel_rfl) ?_
        try simp only [Act.put, List.getElem_toArray, List.getElem_cons_succ, List.getElem_cons_zero, List.setIfInBounds_toArray, List.set_cons_zero, List.set_cons_succ]
        refine spec_skip (by kernel_rfl) ?_
        try simp only [Act.put, List.getElem_toArray, List.getElem_cons_succ, List.getElem_cons_zero, List.setIfInBounds_toArray, List.set_cons_zero, List.set_cons_succ]
        refine spec_skip (by kernel_rfl) ?_
        try simp only [Act.put, List.getElem_toArray, List.getElem_cons_succ, List.getElem_cons_zero, List.setIfInBounds_toArray, List.set_cons_zero, List.set_cons_succ]
        refine spec_skip (by kernel_rfl) ?_
        try simp only [Act.put, List.getElem_toArray, List.getElem_cons_succ, List.getElem_cons_zero, List.setIfInBounds_toArray, List.set_cons_zero, List.set_cons_succ]
        refine spec_skip (by kernel_rfl) ?_
        try simp only [Act.put, List.getElem_toArray, List.getElem_cons_succ, List.getElem_cons_zero, List.setIfInBounds_toArray, List.set_cons_zero, List.set_cons_succ]
        refine spec_d rfl (fun x _ => gives_run (by go_simp)) ?_
        try simp only [Act.put, List.getElem_toArray, List.getElem_cons_succ, List.getElem_cons_zero, List.setIfInBounds_toArray, List.set_cons_zero, List.set_cons_succ]
        refine spec_d rfl (fun x _ => gives_run (by go_simp)) ?_
        try simp only [Act.put, List.getElem_toArray, List.getElem_cons_succ, List.getElem_cons_zero, List.setIfInBounds_toArray, List.set_cons_zero, List.set_cons_succ]
        refine spec_skip (by kernel_rfl) ?_
        try simp only [Act.put, List.getElem_toArray, List.getElem_cons_succ, List.getElem_cons_zero, List.setIfInBounds_toArray, List.set_cons_zero, List.set_cons_succ]
        refine spec_skip (by kernel_rfl) ?_
        try simp only [Act.put, List.getElem_toArray, List.getElem_cons_succ, List.getElem_cons_zero, List.setIfInBounds_toArray, List.set_cons_zero, List.set_cons_succ]
        refine spec_skip (by kernel_rfl) ?_
        try simp only [Act.put, List.getElem_toArray, List.getElem_cons_succ, List.getElem_cons_zero, List.setIfInBounds_toArray, List.set_cons_zero, List.set_cons_succ]
        refine spec_skip (by kernel_rfl) ?_
        try simp only [Act.put, List.getElem_toArray, List.getElem_cons_succ, List.getElem_cons_zero, List.setIfInBounds_toArray, List.set_cons_zero, List.set_cons_succ]
        refine spec_skip (by kernel_rfl) ?_
        try simp only [Act.put, List.getElem_toArray, List.getElem_cons_succ, List.getElem_cons_zero, List.setIfInBounds_toArray, List.set_cons_zero, List.set_cons_succ]
        refine spec_skip (by kernel_rfl) ?_
        try simp only [Act.put, List.getElem_toArray, List.getElem_cons_succ, List.getElem_cons_zero, List.setIfInBounds_toArray, List.set_cons_zero, List.set_cons_succ]
        refine spec_skip (by kernel_rfl) ?_
        try simp only [Act.put, List.getElem_toArray, List.getElem_cons_succ, List.getElem_cons_zero, List.setIfInBounds_toArray, List.set_cons_zero, List.set_cons_succ]
        refine spec_skip (by kernel_rfl) ?_
        try simp only [Act.put, List.getElem_toArray, List.getElem_cons_succ, List.getElem_cons_zero, List.setIfInBounds_toArray, List.set_cons_zero, List.set_cons_succ]
        refine spec_skip (by kernel_rfl) ?_
        try simp only [Act.put, List.getElem_toArray, List.getElem_cons_succ, List.getElem_cons_zero, List.setIfInBounds_toArray, List.set_cons_zero, List.set_cons_succ]
        refine spec_skip (by kernel_rfl) ?_
        try simp only [Act.put, List.getElem_toArray, List.getElem_cons_succ, List.getElem_cons_zero, List.setIfInBounds_toArray, List.set_cons_zero, List.set_cons_succ]
        refine spec_skip (by kernel_rfl) ?_
        try simp only [Act.put, List.getElem_toArray, List.getElem_cons_succ, List.getElem_cons_zero, List.setIfInBounds_toArray, List.set_cons_zero, List.set_cons_succ]
        refine spec_skip (by kernel_rfl) ?_
        try simp only [Act.put, List.getElem_toArray, List.getElem_cons_succ, List.getElem_cons_zero, List.setIfInBounds_toArray, List.set_cons_zero, List.set_cons_succ]
        refine spec_skip (by kernel_rfl) ?_
        try simp only [Act.put, List.getElem_toArray, List.getElem_cons_succ, List.getElem_cons_zero, List.setIfInBounds_toArray, List.set_cons_zero, List.set_cons_succ]
        refine spec_d rfl (fun x _ => gives_run (by go_simp)) ?_
        try simp only [Act.put, List.getElem_toArray, List.getElem_cons_succ, List.getElem_cons_zero, List.setIfInBounds_toArray, List.set_cons_zero, List.set_cons_succ]
        refine spec_end (fun z hz => ?_)
        clear hz
        refine wpAny_done (by kernel_rfl) ?_ _
        have HB5 := Lib.hid (HBEL.out.trans (((bel_drew wr).trans z.below).mono HBEL.out.size))
        clear K0 K2 K3
        generalize z.world = w5 at HB5 ⊢
        clear z
        go_wp2
        go_roundw
        case rel => exact ⟨k + 1, by omega, by go_num, by first | (rw [HN2.out]; done) | (rw [HN2.out]; simp), HB5.out⟩
        case measure => simp [intOf]; omega
    · obtain rfl : k = n := by omega
      have HE : Hid (ws.take k = ws) := Lib.hid (List.take_of_length_le (by rw [HW.out.len]; exact Nat.le_refl _))
      rw [HE.out]
      go_wp2
      go_ret
      exact ⟨rfl, HBEL.out⟩

/-! ### one -/

theorem gd_nil : Gd 2 [] [] := by
  refine ⟨⟨by decide, by decide⟩, ⟨by decide, fun i y h => by simp at h, fun s hs => ?_⟩, ⟨by decide, fun i y h => by simp at h, fun s hs => ?_⟩⟩
  · have : s = 16 := by
      have h : s ∈ [(16 : Int)] := hs
      simpa using h
    omega
  · have : s = 18 := by
      have h : s ∈ [(18 : Int)] := hs
      simpa using h
    omega
theorem sch_nil (w : World) : Sch w 2 none 0 none 0 [] [] := ⟨wins_nil w, wins_nil w, ⟨by decide, fun x hx => by cases hx⟩, ⟨by decide, fun x hx => by cases hx⟩, by decide⟩
theorem one31_any (w : World) : Calls Try.prog 14 #[] w fun e w' => e = .returned (.bool true) ∧ Below w.heap.size w w' := by
  have HOF := Lib.hid (fun W => of_any 2 none 0 0 none 0 0 (0 : Int) W true none 0 0 [] 0 (fun V hV => windows_any 2 none 0 0 none 0 0 [] [] none 0 0 0 [] V (sch_nil V) (.inl ⟨rfl, rfl, rfl, rfl, rfl⟩) true ⟨fun _ => gd_nil, fun _ => rfl⟩)
    (fun _ => ⟨rfl, by decide, .inl ⟨rfl, rfl, rfl, rfl⟩, wins_nil W, by decide, fun x hx => by cases hx⟩))
  have hof : ldV 0 [] = #[.int .i64 0, .int .i64 6, .int .i64 0, .int .i64 10, .int .i64 16] := rfl
  rw [if_pos rfl, hof] at HOF
  have HID := Lib.hid (fun W => idle_any 2 none 0 0 none 0 0 (1 : Int) W true none 0 0 [] 1 (fun _ => ⟨rfl, by decide, gd_nil.2.2.2.2⟩) (fun V hV => windows_any 2 none 0 0 none 0 0 [] [] none 0 0 1 [] V (sch_nil V) (.inr ⟨rfl, rfl, rfl, rfl, rfl⟩) true ⟨fun _ => gd_nil, fun _ => rfl⟩)
    (fun _ => ⟨wins_nil W, by decide, fun x hx => by cases hx⟩))
  have hid : (200 : Int) - mx0 (spanF 1 []) = 182 := by decide
  rw [if_pos rfl, hid] at HID
  have HSH := Lib.hid (fun W => share_any 1 0 0 0 3 (by decide) (by decide) (by decide) W)
  rw [show (1000 * 1 / 3 : Int) = 333 by decide] at HSH
  clear hof hid
  go_enter Try.func14, Try.ntmps14
  go_wp2_with fail
  refine (HOF.out _).mono ?_
  rintro e w2 ⟨rfl, hb2⟩
  have HB2 := Lib.hid hb2
  clear hb2
  go_wp2_with fail
  refine (HID.out _).mono ?_
  rintro e w3 ⟨rfl, hb3⟩
  have HB3 := Lib.hid (HB2.out.trans (hb3.mono HB2.out.size))
  clear hb3
  go_wp2_with fail
  refine (HSH.out _).mono ?_
  rintro e w4 ⟨rfl, hb4⟩
  have HB4 := Lib.hid (HB3.out.trans (hb4.mono HB3.out.size))
  clear hb4
  go_wp2
  go_ret
  exact ⟨rfl, HB4.out⟩
end Go.Proofs.Ytkankdecbefenaa.Ly31
