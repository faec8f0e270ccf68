/- Package diag's Sum and Of, the statements' own helper 'one' of layer 40; no condition but sizes. -/
import Derived.Test.YtanhblokhcaoiaaDoorDgC
namespace Go.Proofs.YtanhblokhcaoiaaDoor.Dg
open Go.ChangeShapes Go.WideShapes Go.ChangeAt Go.RowKit Base
open Joi (stV)
set_option linter.unusedVariables false
set_option linter.unusedSimpArgs false

def c5 (e : Int) (o : Nat → Int) : Array Value := #[.int .i64 e, .int .i64 (o 0), .int .i64 (o 1), .int .i64 (o 2), .int .i64 (o 3)]
theorem cellO {w : World} {g : Nat} {T : TypeId} {e : Int} {o : Nat → Int} (h : Obj1 w g T (c5 e o)) {i : Nat} (hi : i < 4) : w.cell? ⟨g, 1 + i, none⟩ = some (.int .i64 (o i)) := by
  rw [h.cell]
  rcases four hi with rfl | rfl | rfl | rfl <;> rfl
theorem oF_eta (o : Nat → Int) (i : Nat) (hi : i < 4) : oF (o 0) (o 1) (o 2) (o 3) i = o i := by rcases four hi with rfl | rfl | rfl | rfl <;> rfl
/-- The sums of the first k. -/
def pT (s : Nat → Int) (k : Nat) (i : Nat) : Int := if i < k then s i else 0
theorem pT_set (e : Int) (s : Nat → Int) {k : Nat} (hk : k < 4) : (c5 e (pT s k)).setIfInBounds (1 + k) (.int .i64 (s k)) = c5 e (pT s (k + 1)) := by
  rcases four hk with rfl | rfl | rfl | rfl <;> rfl
theorem info_ct : (Tryd.prog.info? TC).map (fun i => (i.zero, i.size)) = some (some (.agg #[.int .i64 0, .int .i64 0, .int .i64 0, .int .i64 0, .int .i64 0]), 5) := by kernel_rfl
theorem one_c5 (e : Int) (o : Nat → Int) : (c5 e o).all (·.oneCell') = true := by simp [c5, Value.oneCell']
set_option maxRecDepth 100000 in
set_option maxHeartbeats 2000000 in
theorem sum_any (e1 e2 : Int) (o p : Nat → Int) (w : World) (he : -9223372036854775808 ≤ e1 + e2 ∧ e1 + e2 ≤ 9223372036854775807) (ho : ∀ i, i < 4 → -9223372036854775808 ≤ o i + p i ∧ o i + p i ≤ 9223372036854775807) :
    Calls Tryd.prog 19 #[.agg (c5 e1 o), .agg (c5 e2 p)] w fun e' w' => e' = .returned (.agg (c5 (e1 + e2) (fun i => o i + p i))) ∧ Below w.heap.size w w' := by
  obtain ⟨iz, hiz, hzz, hsz⟩ := info_two info_ct
  obtain ⟨g2, HG2⟩ : ∃ g, Hid (w.heap.size = g) := ⟨_, Lib.hid rfl⟩
  obtain ⟨g3, HG3⟩ : ∃ g, Hid (g2 + 1 = g) := ⟨_, Lib.hid rfl⟩
  obtain ⟨g4, HG4⟩ : ∃ g, Hid (g3 + 1 = g) := ⟨_, Lib.hid rfl⟩
  obtain ⟨g5, HG5⟩ : ∃ g, Hid (g4 + 1 = g) := ⟨_, Lib.hid rfl⟩
  obtain ⟨W2, HW2⟩ : ∃ W, Hid (W = w.alloc (.cells #[.int .i64 e1, .int .i64 (o 0), .int .i64 (o 1), .int .i64 (o 2), .int .i64 (o 3)] TC)) := ⟨_, Lib.hid rfl⟩
  obtain ⟨W3, HW3⟩ : ∃ W, Hid (W = W2.alloc (.cells #[.int .i64 e2, .int .i64 (p 0), .int .i64 (p 1), .int .i64 (p 2), .int .i64 (p 3)] TC)) := ⟨_, Lib.hid rfl⟩
  obtain ⟨W4, HW4⟩ : ∃ W, Hid (W = W3.alloc (.cells #[.int .i64 0, .int .i64 0, .int .i64 0, .int .i64 0, .int .i64 0] TC)) := ⟨_, Lib.hid rfl⟩
  obtain ⟨W5, HW5⟩ : ∃ W, Hid (W = W4.alloc (.cells #[.int .i64 (e1 + e2), .int .i64 0, .int .i64 0, .int .i64 0, .int .i64 0] TC)) := ⟨_, Lib.hid rfl⟩
  have n2 : Below w.heap.size w W2 := by rw [HW2.out]; exact bel_new _ _
  have n3 : Below W2.heap.size W2 W3 := by rw [HW3.out]; exact bel_new _ _
  have n4 : Below W3.heap.size W3 W4 := by rw [HW4.out]; exact bel_new _ _
  have n5 : Below W4.heap.size W4 W5 := by rw [HW5.out]; exact bel_new _ _
  have s2 : W2.heap.size = g3 := by rw [HW2.out, ← HG3.out, ← HG2.out]; simp
  have s3 : W3.heap.size = g4 := by rw [HW3.out, ← HG4.out, ← s2]; simp
  have s4 : W4.heap.size = g5 := by rw [HW4.out, ← HG5.out, ← s3]; simp
  have HO2 : Hid (∀ W, Below W4.heap.size W4 W → Obj1 W g2 TC (c5 e1 o)) := Lib.hid (fun W h => ((((show Obj1 W2 g2 TC _ by rw [HW2.out, ← HG2.out]; exact Obj1.new _ _ _).kept n3).kept n4).kept h))
  have HO3 : Hid (∀ W, Below W4.heap.size W4 W → Obj1 W g3 TC (c5 e2 p)) := Lib.hid (fun W h => (((show Obj1 W3 g3 TC _ by rw [HW3.out, ← s2]; exact Obj1.new _ _ _).kept n4).kept h))
  have HO4 : Hid (∀ W, Below W4.heap.size W4 W → Obj1 W g4 TC (c5 0 (fun _ => 0))) := Lib.hid (fun W h => ((show Obj1 W4 g4 TC _ by rw [HW4.out, ← s3]; exact Obj1.new _ _ _).kept h))
  have HO5 : Hid (Obj1 W5 g5 TC (c5 (e1 + e2) (fun _ => 0))) := Lib.hid (by rw [HW5.out, ← s4]; exact Obj1.new _ _ _)
  have HB4 : Hid (Below w.heap.size w W4) := Lib.hid (n2.trans ((n3.trans (n4.mono n3.size)).mono n2.size))
  have HB5 := Lib.hid n5
  have HGG : Hid (w.heap.size ≤ g4 ∧ W4.heap.size ≤ g5 ∧ W4.heap.size = g5) := Lib.hid (by have := HG2.out; have := HG3.out; have := HG4.out; omega)
  have HSI : Hid ((Tryd.prog.info? TC).map (·.size) = some 5) := Lib.hid (by rw [hiz]; simp [hsz])
  have HZ : Hid (Value.agg #[.int .i64 0, .int .i64 0, .int .i64 0, .int .i64 0, .int .i64 0] = .agg (c5 0 (fun _ => 0))) := Lib.hid rfl
  obtain ⟨E, hE⟩ : ∃ E, e1 + e2 = E := ⟨_, rfl⟩
  have we : IntKind.i64.wrap (e1 + e2) = E := by rw [IntWalk.i64_in _ he]; exact hE
  have HOO := Lib.hid ho
  rw [hE] at HW5 HO5 ⊢
  have HS2 := Lib.hid s2
  have HS3 := Lib.hid s3
  have HS4 := Lib.hid s4
  clear n2 n3 n4 n5 s2 s3 s4 he ho hE
  show Calls _ _ #[.agg #[.int .i64 e1, .int .i64 (o 0), .int .i64 (o 1), .int .i64 (o 2), .int .i64 (o 3)], .agg #[.int .i64 e2, .int .i64 (p 0), .int .i64 (p 1), .int .i64 (p 2), .int .i64 (p 3)]] _ _
  go_enter Tryd.func19, Tryd.ntmps19
  go_upto_region 1 with (fail)
  rw [← HW2.out, ← HW3.out, ← HW4.out]
  rw [HG2.out, HG3.out, HG4.out]
  have q0 : W4.cell? ⟨g2, 0, none⟩ = some (.int .i64 e1) := (HO2.out W4 (Below.refl _ _)).cell 0
  have r0 : W4.cell? ⟨g3, 0, none⟩ = some (.int .i64 e2) := (HO3.out W4 (Below.refl _ _)).cell 0
  go_upto_region 2 with (fail)
  rw [← HW5.out, HS4.out]
  clear HW2 HW3 HW4 HW5 HS2 HS3 HS4 q0 r0
  obtain ⟨s, HS⟩ : ∃ s : Nat → Int, Hid (∀ i, o i + p i = s i) := ⟨fun i => o i + p i, Lib.hid (fun _ => rfl)⟩
  have HF : Hid ((fun i => o i + p i) = s) := Lib.hid (funext HS.out)
  go_wp2_with fail
  go_loopw [13] (fun i wx => ∃ k : Nat, k ≤ 4 ∧ i = .int .i64 k ∧ Hid (Obj1 wx g5 TC (c5 E (pT s k))) ∧ Below W4.heap.size W4 wx) (fun i _ => 4 - (intOf i).toNat)
  case atStart => exact ⟨0, by omega, rfl, HO5, HB5.out⟩
  case round =>
    obtain ⟨k, hk, rfl, HK, hbk⟩ := hrel
    have HBK := Lib.hid hbk
    by_cases hlt : k < 4
    · have hki : (k : Int) < 4 := by omega
      have hk0 : (0 : Int) ≤ (k : Int) := by omega
      have c1 := cellO (HO2.out wr hbk) hlt
      have c2 := cellO (HO3.out wr hbk) hlt
      have c3 := cellO HK.out hlt
      have hsk := HS.out k
      have hrg := HOO.out k hlt
      obtain ⟨a, ha⟩ : ∃ a, o k = a := ⟨_, rfl⟩
      obtain ⟨b, hb⟩ : ∃ b, p k = b := ⟨_, rfl⟩
      obtain ⟨x, hx⟩ : ∃ x, s k = x := ⟨_, rfl⟩
      obtain ⟨z0, hz0⟩ : ∃ z, pT s k k = z := ⟨_, rfl⟩
      rw [ha] at c1
      rw [hb] at c2
      rw [hz0] at c3
      rw [ha, hb] at hsk hrg
      have e1' : IntKind.i64.wrap (a + b) = x := by rw [IntWalk.i64_in _ hrg, hsk, hx]
      have e2' : IntKind.i64.wrap ((k : Int) + 1) = (k : Int) + 1 := IntWalk.i64_in _ (by omega)
      have HX := Lib.hid hx
      have K1 : ∀ z : Kin wr.drew, z.world.cell? ⟨g2, 1 + k, none⟩ = some (.int .i64 a) := fun z => Kin.at (w := wr.drew) c1 z
      have K2 : ∀ z : Kin wr.drew, z.world.cell? ⟨g3, 1 + k, none⟩ = some (.int .i64 b) := fun z => Kin.at (w := wr.drew) c2 z
      have K3 : ∀ z : Kin wr.drew, z.world.cell? ⟨g5, 1 + k, none⟩ = some (.int .i64 z0) := fun z => Kin.at (w := wr.drew) c3 z
      clear ha hb hx hz0 hsk hrg
      go_upto_region 5 with (fail)
      clear c1 c2 c3 hbk
      refine wp_region_specL 12 [.d (.int .i64 k), .d (.int .i64 k), .d (.pointer (some ⟨g2, 1, none⟩)), .d (.pointer (some ⟨g2, 1 + k, none⟩)), .d (.int .i64 a), .d (.int .i64 k), .d (.pointer (some ⟨g3, 1, none⟩)), .d (.pointer (some ⟨g3, 1 + k, none⟩)), .d (.int .i64 b), .d (.int .i64 x), .d (.pointer (some ⟨g5, 1, none⟩)), .d (.pointer (some ⟨g5, 1 + k, none⟩))] (by kernel_rfl) (by kernel_rfl) ?_
      refine spec_d rfl (fun x _ => gives_run (by go_simp)) ?_
      try simp only [Act.put, List.getElem_toArray, List.getElem_cons_succ, List.getElem_cons_zero, List.setIfInBounds_toArray, List.set_cons_zero, List.set_cons_succ]
      refine spec_d rfl (fun x _ => gives_run (by go_simp)) ?_
      try simp only [Act.put, List.getElem_toArray, List.getElem_cons_succ, List.getElem_cons_zero, List.setIfInBounds_toArray, List.set_cons_zero, List.set_cons_succ]
      refine spec_d rfl (fun x _ => gives_run (by go_simp)) ?_
      try simp only [Act.put, List.getElem_toArray, List.getElem_cons_succ, List.getElem_cons_zero, List.setIfInBounds_toArray, List.set_cons_zero, List.set_cons_succ]
      refine spec_d rfl (fun x _ => gives_run (by go_simp)) ?_
      try simp only [Act.put, List.getElem_toArray, List.getElem_cons_succ, List.getElem_cons_zero, List.setIfInBounds_toArray, List.set_cons_zero, List.set_cons_succ]
      refine spec_d rfl (fun x _ => gives_run (by go_simp)) ?_
      try simp only [Act.put, List.getElem_toArray, List.getElem_cons_succ, List.getElem_cons_zero, List.setIfInBounds_toArray, List.set_cons_zero, List.set_cons_succ]
      refine spec_d rfl (fun x _ => gives_run (by go_simp)) ?_
      try simp only [Act.put, List.getElem_toArray, List.getElem_cons_succ, List.getElem_cons_zero, List.setIfInBounds_toArray, List.set_cons_zero, List.set_cons_succ]
      refine spec_d rfl (fun x _ => gives_run (by go_simp)) ?_
      try simp only [Act.put, List.getElem_toArray, List.getElem_cons_succ, List.getElem_cons_zero, List.setIfInBounds_toArray, List.set_cons_zero, List.set_cons_succ]
      refine spec_d rfl (fun x _ => gives_run (by go_simp)) ?_
      try simp only [Act.put, List.getElem_toArray, List.getElem_cons_succ, List.getElem_cons_zero, List.setIfInBounds_toArray, List.set_cons_zero, List.set_cons_succ]
      refine spec_d rfl (fun x _ => gives_run (by go_simp)) ?_
      try simp only [Act.put, List.getElem_toArray, List.getElem_cons_succ, List.getElem_cons_zero, List.setIfInBounds_toArray, List.set_cons_zero, List.set_cons_succ]
      refine spec_d rfl (fun x _ => gives_run (by go_simp)) ?_
      try simp only [Act.put, List.getElem_toArray, List.getElem_cons_succ, List.getElem_cons_zero, List.setIfInBounds_toArray, List.set_cons_zero, List.set_cons_succ]
      refine spec_d rfl (fun x _ => gives_run (by go_simp)) ?_
      try simp only [Act.put, List.getElem_toArray, List.getElem_cons_succ, List.getElem_cons_zero, List.setIfInBounds_toArray, List.set_cons_zero, List.set_cons_succ]
      refine spec_d rfl (fun x _ => gives_run (by go_simp)) ?_
      try simp only [Act.put, List.getElem_toArray, List.getElem_cons_succ, List.getElem_cons_zero, List.setIfInBounds_toArray, List.set_cons_zero, List.set_cons_succ]
      refine spec_end (fun z hz => ?_)
      clear hz
      have hzb := (bel_drew wr).trans z.below
      have HKZ := Lib.hid (HK.out.kept hzb)
      have HBZ := Lib.hid (HBK.out.trans (hzb.mono HBK.out.size))
      have y0 := K3 z
      have y1 := HKZ.out.free (1 + k)
      clear K1 K2 K3 hzb
      generalize z.world = wz at HKZ HBZ y0 y1 ⊢
      clear z
      change wpAny _ _ _ _ (0 + 1) _ _ _
      refine wpAny_ready (rs := [12]) (by kernel_rfl) (by simp) ?_
      refine AllReady.cons rfl (fun KK hK => ?_) AllReady.nil
      go_simp
      refine hK _ _ ?_
      clear hK KK
      try simp only [Act.put, List.getElem_toArray, List.getElem_cons_succ, List.getElem_cons_zero, List.setIfInBounds_toArray, List.set_cons_zero, List.set_cons_succ]
      refine wpAny_done (by kernel_rfl) ?_ _
      have HN : Hid (Obj1 (wz.setCell ⟨g5, 1 + k, none⟩ (.int .i64 x)) g5 TC (c5 E (pT s (k + 1)))) := Lib.hid (by rw [← HX.out, ← pT_set E s hlt]; exact HKZ.out.set (1 + k) (.int .i64 (s k)))
      have HW9 : Hid (Wrote g5 wz (wz.setCell ⟨g5, 1 + k, none⟩ (.int .i64 x))) := Lib.hid ((Wrote.refl g5 wz).set (p := ⟨g5, 1 + k, none⟩) (.inl rfl) _)
      have HB9 := Lib.hid (HBZ.out.trans (HW9.out.below HGG.out.2.1 HBZ.out.size))
      generalize wz.setCell ⟨g5, 1 + k, none⟩ (.int .i64 x) = w9 at HN HB9 HW9 ⊢
      clear HW9 y0 y1
      go_wp2
      go_roundw
      case rel => exact ⟨k + 1, by omega, by go_num, HN, HB9.out⟩
      case measure => simp [intOf]; omega
    · have hke : k = 4 := by omega
      subst hke
      have f0 : wr.cell? ⟨g5, 0, none⟩ = some (.int .i64 E) := HK.out.cell 0
      have f1 : wr.cell? ⟨g5, 1, none⟩ = some (.int .i64 (s 0)) := HK.out.cell 1
      have f2 : wr.cell? ⟨g5, 2, none⟩ = some (.int .i64 (s 1)) := HK.out.cell 2
      have f3 : wr.cell? ⟨g5, 3, none⟩ = some (.int .i64 (s 2)) := HK.out.cell 3
      have f4 : wr.cell? ⟨g5, 4, none⟩ = some (.int .i64 (s 3)) := HK.out.cell 4
      have HO4r := Lib.hid (HO4.out wr hbk)
      clear hbk
      go_wp2_with ((with_reducible show wpList _ _ _ (Oper.mk none _ _ _ _ _ :: _) _ _); go_must (refine wpList_store_row rfl TC _ _ rfl g4 (c5 E s) rfl rfl TC _ HO4r.out HSI.out rfl (one_c5 E s) ?_))
      have HW9 := Lib.hid (wrote_row (w := wr) HO4r.out (c5 E s))
      generalize wr.setRow g4 (c5 E s) = we at HW9 ⊢
      have HE9 := Lib.hid HW9.out.1
      try rw [Exit.noGoto_ret]
      refine bodyPost_ret (v := .agg (c5 E s)) (results_cell_row rfl _ _ g4 TC _ (0, 0) _ rfl HE9.out Tryd.underlying24 rfl HSI.out) rfl ?_
      exact ⟨by rw [HF.out], (HB4.out.trans (HBK.out.mono HB4.out.size)).trans (HW9.out.2.below HGG.out.1 (HB4.out.trans (HBK.out.mono HB4.out.size)).size)⟩

/-! ### Of -/

/-- A message: whether it is known, how many words, what its lines said otherwise. -/
structure Ms where
  s : Int
  st : Int
  cd : Int
  A : Option Addr
  n : Nat
  c : Nat
  kn : Bool
  vt : Bool
  a : Int
  b : Int
  e : Int
  f : Int
def Ms.o (m : Ms) : Nat → Int := oF m.a m.b m.e m.f
def msL (m : Ms) : List Value := [.int .i64 m.s, .int .i64 m.st, .int .i64 m.cd, .slice m.A m.n m.c, .bool m.kn, .bool m.vt, .int .i64 m.a, .int .i64 m.b, .int .i64 m.e, .int .i64 m.f]
structure MsAt (w : World) (A : Option Addr) (n : Nat) (ls : List Ms) : Prop where
  len : ls.length = n
  at' : 0 < n → ∃ b off, A = some ⟨b, off, none⟩ ∧ b < w.heap.size ∧ ∀ i x, ls[i]? = some x → ∀ j, j < 10 → w.cell? ⟨b, off + i * 10 + j, none⟩ = (msL x)[j]?
theorem MsAt.kept {w w' : World} {A : Option Addr} {n : Nat} {ls : List Ms} (h : MsAt w A n ls) (hb : Below w.heap.size w w') : MsAt w' A n ls where
  len := h.len
  at' := fun hn => by
    obtain ⟨b, off, e, hlt, hc⟩ := h.at' hn
    exact ⟨b, off, e, Nat.lt_of_lt_of_le hlt hb.size, fun i x hx j hj => (hb.cell (p := ⟨b, off + i * 10 + j, none⟩) hlt).trans (hc i x hx j hj)⟩
theorem MsAt.get {w : World} {A : Option Addr} {n : Nat} {ls : List Ms} (h : MsAt w A n ls) {i : Nat} (hi : i < n) {x : Ms} (hx : ls[i]? = some x) : ∃ b off, A = some ⟨b, off, none⟩ ∧ b < w.heap.size ∧
    w.cell? ⟨b, off + i * 10, none⟩ = some (.int .i64 x.s) ∧ w.cell? ⟨b, off + i * 10 + 1, none⟩ = some (.int .i64 x.st) ∧ w.cell? ⟨b, off + i * 10 + 2, none⟩ = some (.int .i64 x.cd) ∧ w.cell? ⟨b, off + i * 10 + 3, none⟩ = some (.slice x.A x.n x.c) ∧
    w.cell? ⟨b, off + i * 10 + 4, none⟩ = some (.bool x.kn) ∧ w.cell? ⟨b, off + i * 10 + 5, none⟩ = some (.bool x.vt) ∧ w.cell? ⟨b, off + i * 10 + 6, none⟩ = some (.int .i64 x.a) ∧ w.cell? ⟨b, off + i * 10 + 7, none⟩ = some (.int .i64 x.b) ∧
    w.cell? ⟨b, off + i * 10 + 8, none⟩ = some (.int .i64 x.e) ∧ w.cell? ⟨b, off + i * 10 + 9, none⟩ = some (.int .i64 x.f) := by
  obtain ⟨b, off, e, hlt, hc⟩ := h.at' (by omega)
  exact ⟨b, off, e, hlt, hc i x hx 0 (by omega), hc i x hx 1 (by omega), hc i x hx 2 (by omega), hc i x hx 3 (by omega), hc i x hx 4 (by omega), hc i x hx 5 (by omega), hc i x hx 6 (by omega), hc i x hx 7 (by omega), hc i x hx 8 (by omega), hc i x hx 9 (by omega)⟩
def bI (m : Ms) : Int := if m.kn = true then 8 * (m.n : Int) else 0
def oI (m : Ms) (i : Nat) : Int := if m.kn = true then m.o i else 0
def sB : List Ms → Int
  | [] => 0
  | m :: r => bI m + sB r
def sO : List Ms → Nat → Int
  | [], _ => 0
  | m :: r, i => oI m i + sO r i
theorem sB_app (a b : List Ms) : sB (a ++ b) = sB a + sB b := by
  induction a with
  | nil => simp [sB]
  | cons m r ih => simp only [List.cons_append, sB, ih]; omega
theorem sO_app (a b : List Ms) (i : Nat) : sO (a ++ b) i = sO a i + sO b i := by
  induction a with
  | nil => simp [sO]
  | cons m r ih => simp only [List.cons_append, sO, ih]; omega
theorem sB_next {l : List Ms} {k : Nat} {x : Ms} (h : l[k]? = some x) : sB (l.take (k + 1)) = sB (l.take k) + bI x := by
  rw [List.take_add_one, h, sB_app]
  simp [sB]
theorem sO_next {l : List Ms} {k : Nat} {x : Ms} (h : l[k]? = some x) (i : Nat) : sO (l.take (k + 1)) i = sO (l.take k) i + oI x i := by
  rw [List.take_add_one, h, sO_app]
  simp [sO]
/-- Messages whose numbers are small. -/
def MOk (m : Ms) : Prop := m.n ≤ 100 ∧ ∀ i, i < 4 → -1099511627776 ≤ m.o i ∧ m.o i ≤ 1099511627776
theorem sB_bd : ∀ l : List Ms, (∀ m ∈ l, MOk m) → 0 ≤ sB l ∧ sB l ≤ 800 * l.length
  | [], _ => by simp [sB]
  | m :: r, h => by
    have h1 := (h m (by simp)).1
    have h2 := sB_bd r (fun x hx => h x (by simp [hx]))
    simp only [sB, bI, List.length_cons]
    split <;> omega
theorem sO_bd : ∀ (l : List Ms), (∀ m ∈ l, MOk m) → ∀ i, i < 4 → -1099511627776 * (l.length : Int) ≤ sO l i ∧ sO l i ≤ 1099511627776 * (l.length : Int)
  | [], _, i, _ => by simp [sO]
  | m :: r, h, i, hi => by
    have h1 := (h m (by simp)).2 i hi
    have h2 := sO_bd r (fun x hx => h x (by simp [hx])) i hi
    simp only [sO, oI, List.length_cons]
    split <;> omega
theorem c5_congr {e : Int} {o p : Nat → Int} (h : ∀ i, i < 4 → o i = p i) : c5 e o = c5 e p := by
  unfold c5
  rw [h 0 (by omega), h 1 (by omega), h 2 (by omega), h 3 (by omega)]
end Go.Proofs.YtanhblokhcaoiaaDoor.Dg
