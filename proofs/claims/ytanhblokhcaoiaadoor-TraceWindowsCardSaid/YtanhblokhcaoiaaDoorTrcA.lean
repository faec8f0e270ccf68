/- Package trace's Name, the document's Hex; no condition but sizes. -/
import Derived.Test.YtanhblokhcaoiaaDoorHthD
namespace Go.Proofs.YtanhblokhcaoiaaDoor.Tr
open Go.ChangeShapes Go.WideShapes Go.ChangeAt Go.RowKit Base
open Joi (stV)
open Hl (nmH seven)
set_option linter.unusedVariables false
set_option linter.unusedSimpArgs false

/-- A kind's name. -/
def nmT (k : Int) : List UInt8 := if 1 ≤ k ∧ k ≤ 7 then nmH (k - 1).toNat else []
theorem nm8 {w : World} {g : Nat} {T : TypeId} (h : Obj1 w g T #[.string ⟨#[]⟩, .string ⟨#[115, 101, 110, 116]⟩, .string ⟨#[116, 111, 111, 107]⟩, .string ⟨#[109, 105, 115, 115, 101, 100]⟩, .string ⟨#[115, 121, 110, 99, 101, 100]⟩, .string ⟨#[108, 111, 115, 116]⟩, .string ⟨#[100, 105, 101, 100]⟩, .string ⟨#[116, 117, 114, 110, 101, 100]⟩]) {k : Nat} (hk : k < 8) : w.cell? ⟨g, k, none⟩ = some (.string ⟨(nmT k).toArray⟩) := by
  rw [h.cell]
  rcases (show k = 0 ∨ k = 1 ∨ k = 2 ∨ k = 3 ∨ k = 4 ∨ k = 5 ∨ k = 6 ∨ k = 7 by omega) with rfl | rfl | rfl | rfl | rfl | rfl | rfl | rfl <;> rfl
set_option maxRecDepth 100000 in
set_option maxHeartbeats 2000000 in
theorem name_any (k : Int) (w : World) : Calls Tryd.prog 29 #[.int .i64 k] w fun e' w' => e' = .returned (.string ⟨(nmT k).toArray⟩) ∧ Below w.heap.size w w' := by
  obtain ⟨gb, HGB⟩ : ∃ gb, Hid (w.heap.size = gb) := ⟨_, Lib.hid rfl⟩
  obtain ⟨W1, HW1⟩ : ∃ W1, Hid (W1 = w.alloc (.cells #[.string ⟨#[]⟩, .string ⟨#[115, 101, 110, 116]⟩, .string ⟨#[116, 111, 111, 107]⟩, .string ⟨#[109, 105, 115, 115, 101, 100]⟩, .string ⟨#[115, 121, 110, 99, 101, 100]⟩, .string ⟨#[108, 111, 115, 116]⟩, .string ⟨#[100, 105, 101, 100]⟩, .string ⟨#[116, 117, 114, 110, 101, 100]⟩] 76)) := ⟨_, Lib.hid rfl⟩
  have HB1 : Hid (Below w.heap.size w W1) := Lib.hid (by rw [HW1.out]; exact bel_new _ _)
  have HOB : Hid (Obj1 W1 gb 76 #[.string ⟨#[]⟩, .string ⟨#[115, 101, 110, 116]⟩, .string ⟨#[116, 111, 111, 107]⟩, .string ⟨#[109, 105, 115, 115, 101, 100]⟩, .string ⟨#[115, 121, 110, 99, 101, 100]⟩, .string ⟨#[108, 111, 115, 116]⟩, .string ⟨#[100, 105, 101, 100]⟩, .string ⟨#[116, 117, 114, 110, 101, 100]⟩]) := Lib.hid (by rw [HW1.out, ← HGB.out]; exact Obj1.new _ _ _)
  rcases (show k < 0 ∨ (¬ k < 0 ∧ 8 ≤ k) ∨ (¬ k < 0 ∧ ¬ 8 ≤ k) by omega) with h | ⟨h, h2⟩ | ⟨h, h2⟩
  · have hn : nmT k = [] := by unfold nmT; rw [if_neg (by omega)]
    rw [hn]
    go_enter Tryd.func29, Tryd.ntmps29
    go_upto_region 2 with (fail)
    rw [← HW1.out, HGB.out]
    clear HW1
    go_wp2
    go_ret
    exact ⟨rfl, HB1.out⟩
  · have hn : nmT k = [] := by unfold nmT; rw [if_neg (by omega)]
    rw [hn]
    go_enter Tryd.func29, Tryd.ntmps29
    go_upto_region 2 with (fail)
    rw [← HW1.out, HGB.out]
    clear HW1
    go_wp2
    go_ret
    exact ⟨rfl, HB1.out⟩
  · obtain ⟨i, rfl⟩ : ∃ i : Nat, k = (i : Int) := ⟨k.toNat, by omega⟩
    have hi8 : i < 8 := by omega
    have hi8i : (i : Int) < 8 := by omega
    have hi0 : (0 : Int) ≤ (i : Int) := by omega
    have hc := nm8 HOB.out hi8
    obtain ⟨S, hS⟩ : ∃ S, nmT (i : Int) = S := ⟨_, rfl⟩
    rw [hS] at hc ⊢
    clear hS
    go_enter Tryd.func29, Tryd.ntmps29
    go_upto_region 2 with (fail)
    rw [← HW1.out, HGB.out]
    clear HW1
    go_wp2
    go_ret
    exact ⟨rfl, HB1.out⟩
def hx (q : Nat) : UInt8 := UInt8.ofNat (if q < 10 then 48 + q else 87 + q)
def hxT (l : List Nat) : List UInt8 := l.flatMap (fun b => [hx (b / 16), hx (b % 16)])
theorem hxT_next {l : List Nat} {k b : Nat} (h : l[k]? = some b) : hxT (l.take (k + 1)) = hxT (l.take k) ++ [hx (b / 16)] ++ [hx (b % 16)] := by
  unfold hxT
  rw [List.take_add_one, h, List.flatMap_append]
  simp
theorem hxT_len (l : List Nat) : (hxT l).length = 2 * l.length := by
  induction l with
  | nil => rfl
  | cons b r ih => simp only [hxT, List.flatMap_cons, List.length_append, List.length_cons, List.length_nil] at ih ⊢; omega
theorem hex_str (d : Nat) (h : d < 16) : ({ data := #[48, 49, 50, 51, 52, 53, 54, 55, 56, 57, 97, 98, 99, 100, 101, 102] } : ByteArray).extract d (d + 1) = ⟨[hx d].toArray⟩ := by
  rcases (show d = 0 ∨ d = 1 ∨ d = 2 ∨ d = 3 ∨ d = 4 ∨ d = 5 ∨ d = 6 ∨ d = 7 ∨ d = 8 ∨ d = 9 ∨ d = 10 ∨ d = 11 ∨ d = 12 ∨ d = 13 ∨ d = 14 ∨ d = 15 by omega) with rfl | rfl | rfl | rfl | rfl | rfl | rfl | rfl | rfl | rfl | rfl | rfl | rfl | rfl | rfl | rfl <;> decide +kernel
set_option maxRecDepth 100000 in
set_option maxHeartbeats 2000000 in
theorem rhex_any (A : Option Addr) (n c : Nat) (vs : List Nat) (w : World) (hl : Lst w A n (vs.map fun (x : Nat) => Value.int .u8 x)) (hx : ∀ x ∈ vs, x < 256) (hn : n ≤ 1000000) :
    Calls Tryd.prog 28 #[.slice A n c] w fun e' w' => e' = .returned (.string ⟨(hxT vs).toArray⟩) ∧ Below w.heap.size w w' := by
  have HL := Lib.hid hl
  have HLN : Hid (vs.length = n) := Lib.hid (by have := hl.1; simpa using this)
  have HX := Lib.hid hx
  clear hl hx
  go_enter Tryd.func28, Tryd.ntmps28
  go_wp2_with fail
  go_loopw [4, 3] (fun i s wx => ∃ k : Nat, k ≤ n ∧ i = .int .i64 k ∧ s = .string ⟨(hxT (vs.take k)).toArray⟩ ∧ Below w.heap.size w wx) (fun i _ _ => n - (intOf i).toNat)
  case atStart => exact ⟨0, by omega, rfl, rfl, Below.refl _ _⟩
  case round =>
    obtain ⟨k, hk, rfl, rfl, hbk⟩ := hrel
    have HBK := Lib.hid hbk
    by_cases hlt : k < n
    · have hki : (k : Int) < (n : Int) := by omega
      have hkl : k < vs.length := by rw [HLN.out]; exact hlt
      obtain ⟨b, off, rfl, _, hc⟩ := (HL.out.kept hbk).get hlt
      rw [List.getElem_map] at hc
      obtain ⟨x, hx⟩ : ∃ x, vs[k]'hkl = x := ⟨_, rfl⟩
      rw [hx] at hc
      have HXE : Hid (vs[k]? = some x) := Lib.hid (by rw [List.getElem?_eq_getElem hkl, hx])
      have hx256 := HX.out x (List.mem_of_getElem? HXE.out)
      have HNX := Lib.hid (hxT_next HXE.out)
      have hsl : (hxT (vs.take k)).length ≤ 2 * k := by rw [hxT_len, List.length_take]; omega
      obtain ⟨S, HS⟩ : ∃ S, Hid (hxT (vs.take k) = S) := ⟨_, Lib.hid rfl⟩
      rw [HS.out] at HNX hsl ⊢
      obtain ⟨q, hq⟩ : ∃ q, x / 16 = q := ⟨_, rfl⟩
      obtain ⟨r, hr⟩ : ∃ r, x % 16 = r := ⟨_, rfl⟩
      rw [hq, hr] at HNX
      have hq16 : q < 16 := by omega
      have hr16 : r < 16 := by omega
      have e1 : (x : Int).tdiv 16 = (q : Int) := by rw [Int.tdiv_eq_ediv_of_nonneg (by omega)]; omega
      have e2 : (x : Int).tmod 16 = (r : Int) := by rw [Int.tmod_eq_emod_of_nonneg (by omega)]; omega
      have e3 : IntKind.u8.wrap (q : Int) = (q : Int) := IntWalk.u8_in _ (by omega)
      have e4 : IntKind.u8.wrap ((q : Int) + 1) = (q : Int) + 1 := IntWalk.u8_in _ (by omega)
      have e5 : IntKind.u8.wrap ((r : Int) + 1) = (r : Int) + 1 := IntWalk.u8_in _ (by omega)
      have e6 : IntKind.i64.wrap ((k : Int) + 1) = (k : Int) + 1 := IntWalk.i64_in _ (by omega)
      have e7 : IntKind.u8.wrap (r : Int) = (r : Int) := IntWalk.u8_in _ (by omega)
      have HDQ := Lib.hid (hex_str q hq16)
      have HDR := Lib.hid (hex_str r hr16)
      have hq0 : (0 : Int) ≤ (q : Int) := by omega
      have hr0 : (0 : Int) ≤ (r : Int) := by omega
      have hqi : (q : Int) < 16 := by omega
      have hri : (r : Int) < 16 := by omega
      have hq1 : 0 ≤ (q : Int) + 1 ∧ (q : Int) + 1 ≤ 16 := by omega
      have hr1 : 0 ≤ (r : Int) + 1 ∧ (r : Int) + 1 ≤ 16 := by omega
      have hq2 : (q : Int) ≤ (q : Int) + 1 := by omega
      have hr2 : (r : Int) ≤ (r : Int) + 1 := by omega
      have K0 : ∀ z : Kin wr.drew, z.world.cell? ⟨b, off + k, none⟩ = some (.int .u8 (x : Int)) := fun z => Kin.at (w := wr.drew) hc z
      clear hx hkl hbk hx256 hq hr
      go_upto_region 5 with (fail)
      clear hc
      refine wp_region_specL 27 [.d (.string ⟨(S).toArray⟩), .d (.slice (some ⟨b, off, none⟩) n c), .d (.int .i64 k), .d (.pointer (some ⟨b, off + k, none⟩)), .d (.int .u8 (x : Int)), .d (.int .u8 (q : Int)), .d (.slice (some ⟨b, off, none⟩) n c), .d (.int .i64 k), .d (.pointer (some ⟨b, off + k, none⟩)), .d (.int .u8 (x : Int)), .d (.int .u8 (q : Int)), .d (.int .u8 ((q : Int) + 1)), .d (.string ⟨([hx q]).toArray⟩), .d (.string ⟨(S ++ [hx q]).toArray⟩), .d (.slice (some ⟨b, off, none⟩) n c), .d (.int .i64 k), .d (.pointer (some ⟨b, off + k, none⟩)), .d (.int .u8 (x : Int)), .d (.int .u8 (r : Int)), .d (.slice (some ⟨b, off, none⟩) n c), .d (.int .i64 k), .d (.pointer (some ⟨b, off + k, none⟩)), .d (.int .u8 (x : Int)), .d (.int .u8 (r : Int)), .d (.int .u8 ((r : Int) + 1)), .d (.string ⟨([hx r]).toArray⟩), .d (.string ⟨(S ++ [hx q] ++ [hx r]).toArray⟩)] (by kernel_rfl) (by kernel_rfl) ?_
      refine spec_d rfl (fun x _ => gives_run (by go_simp)) ?_
      try simp only [Act.put, List.getElem_toArray, List.getElem_cons_succ, List.getElem_cons_zero, List.setIfInBounds_toArray, List.set_cons_zero, List.set_cons_succ]
      refine spec_d rfl (fun x _ => gives_run (by go_simp)) ?_
      try simp only [Act.put, List.getElem_toArray, List.getElem_cons_succ, List.getElem_cons_zero, List.setIfInBounds_toArray, List.set_cons_zero, List.set_cons_succ]
      refine spec_d rfl (fun x _ => gives_run (by go_simp)) ?_
      try simp only [Act.put, List.getElem_toArray, List.getElem_cons_succ, List.getElem_cons_zero, List.setIfInBounds_toArray, List.set_cons_zero, List.set_cons_succ]
      refine spec_d rfl (fun x _ => gives_run (by go_simp)) ?_
      try simp only [Act.put, List.getElem_toArray, List.getElem_cons_succ, List.getElem_cons_zero, List.setIfInBounds_toArray, List.set_cons_zero, List.set_cons_succ]
      refine spec_d rfl (fun x _ => gives_run (by go_simp)) ?_
      try simp only [Act.put, List.getElem_toArray, List.getElem_cons_succ, List.getElem_cons_zero, List.setIfInBounds_toArray, List.set_cons_zero, List.set_cons_succ]
      refine spec_d rfl (fun x _ => gives_run (by go_simp)) ?_
      try simp only [Act.put, List.getElem_toArray, List.getElem_cons_succ, List.getElem_cons_zero, List.setIfInBounds_toArray, List.set_cons_zero, List.set_cons_succ]
      refine spec_d rfl (fun x _ => gives_run (by go_simp)) ?_
      try simp only [Act.put, List.getElem_toArray, List.getElem_cons_succ, List.getElem_cons_zero, List.setIfInBounds_toArray, List.set_cons_zero, List.set_cons_succ]
      refine spec_d rfl (fun x _ => gives_run (by go_simp)) ?_
      try simp only [Act.put, List.getElem_toArray, List.getElem_cons_succ, List.getElem_cons_zero, List.setIfInBounds_toArray, List.set_cons_zero, List.set_cons_succ]
      refine spec_d rfl (fun x _ => gives_run (by go_simp)) ?_
      try simp only [Act.put, List.getElem_toArray, List.getElem_cons_succ, List.getElem_cons_zero, List.setIfInBounds_toArray, List.set_cons_zero, List.set_cons_succ]
      refine spec_d rfl (fun x _ => gives_run (by go_simp)) ?_
      try simp only [Act.put, List.getElem_toArray, List.getElem_cons_succ, List.getElem_cons_zero, List.setIfInBounds_toArray, List.set_cons_zero, List.set_cons_succ]
      refine spec_d rfl (fun x _ => gives_run (by go_simp)) ?_
      try simp only [Act.put, List.getElem_toArray, List.getElem_cons_succ, List.getElem_cons_zero, List.setIfInBounds_toArray, List.set_cons_zero, List.set_cons_succ]
      refine spec_d rfl (fun x _ => gives_run (by go_simp)) ?_
      try simp only [Act.put, List.getElem_toArray, List.getElem_cons_succ, List.getElem_cons_zero, List.setIfInBounds_toArray, List.set_cons_zero, List.set_cons_succ]
      refine spec_d rfl (fun z _ => gives_run (by rw [← HDQ.out]; go_simp)) ?_
      try simp only [Act.put, List.getElem_toArray, List.getElem_cons_succ, List.getElem_cons_zero, List.setIfInBounds_toArray, List.set_cons_zero, List.set_cons_succ]
      refine spec_d rfl (fun z _ => Dg.gives_cat rfl rfl rfl (by (try simp only [List.length_append, List.length_cons, List.length_nil]); omega)) ?_
      try simp only [Act.put, List.getElem_toArray, List.getElem_cons_succ, List.getElem_cons_zero, List.setIfInBounds_toArray, List.set_cons_zero, List.set_cons_succ]
      refine spec_d rfl (fun x _ => gives_run (by go_simp)) ?_
      try simp only [Act.put, List.getElem_toArray, List.getElem_cons_succ, List.getElem_cons_zero, List.setIfInBounds_toArray, List.set_cons_zero, List.set_cons_succ]
      refine spec_d rfl (fun x _ => gives_run (by go_simp)) ?_
      try simp only [Act.put, List.getElem_toArray, List.getElem_cons_succ, List.getElem_cons_zero, List.setIfInBounds_toArray, List.set_cons_zero, List.set_cons_succ]
      refine spec_d rfl (fun x _ => gives_run (by go_simp)) ?_
      try simp only [Act.put, List.getElem_toArray, List.getElem_cons_succ, List.getElem_cons_zero, List.setIfInBounds_toArray, List.set_cons_zero, List.set_cons_succ]
      refine spec_d rfl (fun x _ => gives_run (by go_simp)) ?_
      try simp only [Act.put, List.getElem_toArray, List.getElem_cons_succ, List.getElem_cons_zero, List.setIfInBounds_toArray, List.set_cons_zero, List.set_cons_succ]
      refine spec_d rfl (fun x _ => gives_run (by go_simp)) ?_
      try simp only [Act.put, List.getElem_toArray, List.getElem_cons_succ, List.getElem_cons_zero, List.setIfInBounds_toArray, List.set_cons_zero, List.set_cons_succ]
      refine spec_d rfl (fun x _ => gives_run (by go_simp)) ?_
      try simp only [Act.put, List.getElem_toArray, List.getElem_cons_succ, List.getElem_cons_zero, List.setIfInBounds_toArray, List.set_cons_zero, List.set_cons_succ]
      refine spec_d rfl (fun x _ => gives_run (by go_simp)) ?_
      try simp only [Act.put, List.getElem_toArray, List.getElem_cons_succ, List.getElem_cons_zero, List.setIfInBounds_toArray, List.set_cons_zero, List.set_cons_succ]
      refine spec_d rfl (fun x _ => gives_run (by go_simp)) ?_
      try simp only [Act.put, List.getElem_toArray, List.getElem_cons_succ, List.getElem_cons_zero, List.setIfInBounds_toArray, List.set_cons_zero, List.set_cons_succ]
      refine spec_d rfl (fun x _ => gives_run (by go_simp)) ?_
      try simp only [Act.put, List.getElem_toArray, List.getElem_cons_succ, List.getElem_cons_zero, List.setIfInBounds_toArray, List.set_cons_zero, List.set_cons_succ]
      refine spec_d rfl (fun x _ => gives_run (by go_simp)) ?_
      try simp only [Act.put, List.getElem_toArray, List.getElem_cons_succ, List.getElem_cons_zero, List.setIfInBounds_toArray, List.set_cons_zero, List.set_cons_succ]
      refine spec_d rfl (fun x _ => gives_run (by go_simp)) ?_
      try simp only [Act.put, List.getElem_toArray, List.getElem_cons_succ, List.getElem_cons_zero, List.setIfInBounds_toArray, List.set_cons_zero, List.set_cons_succ]
      refine spec_d rfl (fun z _ => gives_run (by rw [← HDR.out]; go_simp)) ?_
      try simp only [Act.put, List.getElem_toArray, List.getElem_cons_succ, List.getElem_cons_zero, List.setIfInBounds_toArray, List.set_cons_zero, List.set_cons_succ]
      refine spec_d rfl (fun z _ => Dg.gives_cat rfl rfl rfl (by (try simp only [List.length_append, List.length_cons, List.length_nil]); omega)) ?_
      try simp only [Act.put, List.getElem_toArray, List.getElem_cons_succ, List.getElem_cons_zero, List.setIfInBounds_toArray, List.set_cons_zero, List.set_cons_succ]
      refine spec_end (fun z hz => ?_)
      clear hz
      change wpAny _ _ _ _ (0 + 1) _ _ _
      refine wpAny_ready (rs := [27]) (by kernel_rfl) (by simp) ?_
      refine AllReady.cons rfl (fun KK hK => ?_) AllReady.nil
      go_simp
      refine hK _ _ ?_
      clear hK KK
      try simp only [Act.put, List.getElem_toArray, List.getElem_cons_succ, List.getElem_cons_zero, List.setIfInBounds_toArray, List.set_cons_zero, List.set_cons_succ]
      refine wpAny_done (by kernel_rfl) ?_ _
      have HB5 := Lib.hid (HBK.out.trans (((bel_drew wr).trans z.below).mono HBK.out.size))
      clear K0
      generalize z.world = w5 at HB5 ⊢
      clear z
      go_wp2
      go_roundw
      case rel => exact ⟨k + 1, by omega, by go_num, by rw [HNX.out]; simp, HB5.out⟩
      case measure => simp [intOf]; omega
    · have hke : k = n := by omega
      subst hke
      have HT : Hid (vs.take k = vs) := Lib.hid (List.take_of_length_le (by rw [HLN.out]; exact Nat.le_refl _))
      rw [HT.out]
      clear hbk
      go_wp2
      go_ret
      exact ⟨rfl, HBK.out⟩
end Go.Proofs.YtanhblokhcaoiaaDoor.Tr
