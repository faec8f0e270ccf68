/- The contract of package image's Put, of an image that may be; no condition. -/
import Derived.Test.YthnopcoahcdjjaaImgC
namespace Go.Proofs.Ythnopcoahcdjjaa.Ly10
open Go.ChangeShapes Go.WideShapes Go.ChangeAt Go.RowKit Base
set_option linter.unusedVariables false
set_option linter.unusedSimpArgs false

def two (x : Nat) : List Nat := [x / 256, x % 256]
def preB (m e0 e1 n : Nat) : Nat → List Nat
  | 0 => [84, 49, m]
  | 1 => [84, 49, m] ++ two e0
  | 2 => [84, 49, m] ++ two e0 ++ two e1
  | _ => [84, 49, m] ++ two e0 ++ two e1 ++ two n
/-- All bytes ahead of the sum. -/
def bodyB (m e0 e1 : Nat) (code : List Nat) : List Nat := preB m e0 e1 code.length 3 ++ code
def imgB (m e0 e1 : Nat) (code : List Nat) : List Nat := bodyB m e0 e1 code ++ two (sumL 65535 (bodyB m e0 e1 code))
theorem bodyB_len (m e0 e1 : Nat) (code : List Nat) : (bodyB m e0 e1 code).length = 9 + code.length := by
  unfold bodyB preB two
  simp
  omega
theorem imgB_len (m e0 e1 : Nat) (code : List Nat) : (imgB m e0 e1 code).length = 11 + code.length := by
  unfold imgB
  rw [List.length_append, bodyB_len]
  simp [two]
  omega
theorem two_lt {x : Nat} (h : x < 65536) : ∀ y ∈ two x, y < 256 := by
  intro y hy
  simp [two] at hy
  omega
theorem bodyB_lt {m e0 e1 : Nat} {code : List Nat} (hm : m < 256) (h0 : e0 < 65536) (h1 : e1 < 65536) (hn : code.length < 65536) (hc : ∀ x ∈ code, x < 256) : ∀ y ∈ bodyB m e0 e1 code, y < 256 := by
  intro y hy
  simp only [bodyB, preB, List.mem_append] at hy
  rcases hy with (((hy | hy) | hy) | hy) | hy
  · simp at hy; omega
  · exact two_lt h0 y hy
  · exact two_lt h1 y hy
  · exact two_lt hn y hy
  · exact hc y hy
theorem imgB_lt {m e0 e1 : Nat} {code : List Nat} (hm : m < 256) (h0 : e0 < 65536) (h1 : e1 < 65536) (hn : code.length < 65536) (hc : ∀ x ∈ code, x < 256) : ∀ y ∈ imgB m e0 e1 code, y < 256 := by
  intro y hy
  have hb := bodyB_lt hm h0 h1 hn hc
  rcases List.mem_append.1 hy with hy | hy
  · exact hb y hy
  · exact two_lt (sumL_lt (by omega) hb) y hy
theorem own_mono {w : World} {B B' : Nat} {e : TypeId} {v : Value} {n : Nat} {xs : List Value} (h : w.ownsRow B e 1 v n xs) (hle : B' ≤ B) : w.ownsRow B' e 1 v n xs := by
  refine ⟨h.1, ?_⟩
  rcases h.2 with h' | ⟨g, cap, cur, rfl, hb, r⟩
  · exact .inl h'
  · exact .inr ⟨g, cap, cur, rfl, Nat.le_trans hle hb, r⟩
abbrev TZ : TypeId := 3
def PRel (w : World) (gc gI m e0 e1 n : Nat) (A : Option Addr) (c : Nat) (v i : Value) (wr : World) : Prop :=
  ∃ j : Nat, j ≤ 3 ∧ i = .int .i64 j ∧ wr.ownsRow w.heap.size TU 1 v (3 + 2 * j) (u8s (preB m e0 e1 n j)) ∧ v.ownBlock ≠ some gI ∧ v.ownBlock ≠ some gc ∧ Obj1 wr gI TZ #[.int .i64 e0, .int .i64 e1, .int .i64 n] ∧ Obj1 wr gc TI (c4 m e0 e1 A n c) ∧ Below w.heap.size w wr
theorem prel_step {w wr w2 : World} {gc gI m e0 e1 n j q r : Nat} {A : Option Addr} {c : Nat} {v v2 : Value} (hj : j < 3) (hp : preB m e0 e1 n (j + 1) = preB m e0 e1 n j ++ [q, r])
    (h1 : v.ownBlock ≠ some gI) (h2 : v.ownBlock ≠ some gc) (h3 : Obj1 wr gI TZ #[.int .i64 e0, .int .i64 e1, .int .i64 n]) (h4 : Obj1 wr gc TI (c4 m e0 e1 A n c)) (hb : Below w.heap.size w wr)
    {o : Obj} (hown : w2.ownsRow w.heap.size TU 1 v2 (3 + 2 * j + 2) (u8s (preB m e0 e1 n j) ++ [Value.int .u8 (q : Int), Value.int .u8 (r : Int)])) (hbel : Below w.heap.size (wr.alloc o) w2) (hg : (wr.alloc o).grownBy w2 v.ownBlock) (hv : v2.ownBlock = v.ownBlock ∨ v2.ownBlock = some (wr.alloc o).heap.size) :
    PRel w gc gI m e0 e1 n A c v2 (.int .i64 ((j : Int) + 1)) w2 := by
  have e : (wr.alloc o).heap.size = wr.heap.size + 1 := by simp
  have hlI := h3.lt
  have hlc := h4.lt
  refine ⟨j + 1, by omega, by push_cast; rfl, ?_, ?_, ?_, ?_, ?_, (hb.alloc hb.size o).trans hbel⟩
  · rw [hp, show 3 + 2 * (j + 1) = 3 + 2 * j + 2 by omega]
    simpa [u8s] using hown
  · rcases hv with hv | hv
    · rw [hv]; exact h1
    · rw [hv, e]; intro h; have := Option.some.inj h; omega
  · rcases hv with hv | hv
    · rw [hv]; exact h2
    · rw [hv, e]; intro h; have := Option.some.inj h; omega
  · exact (hg.block gI (by omega) (fun e => h1 e.symm)).trans (h3.alloc o)
  · exact (hg.block gc (by omega) (fun e => h2 e.symm)).trans (h4.alloc o)
theorem put_start {w w3 w4 : World} {gc n : Nat} {cs : Array Value} {v : Value} {xs : List Value} (ho : Obj1 w3 gc TI cs) (hb : Below w.heap.size w w3) (hown : w4.ownsRow w3.heap.size TU 1 v n xs) (hg : w3.grownBy w4 none) :
    Hid (Obj1 w4 gc TI cs) ∧ Hid (Below w.heap.size w w4) ∧ Hid (v.ownBlock ≠ some gc) ∧ Hid (w4.ownsRow w.heap.size TU 1 v n xs) := by
  have hbel : Below w3.heap.size w3 w4 := (Below.refl w3.heap.size w3).grown hg (Nat.le_refl _) (fun k h => by cases h)
  exact ⟨ho.kept hbel, hb.trans (hbel.mono hb.size), fun h => by have := (hown.lt gc h).1; have := ho.lt; omega, own_mono hown hb.size⟩
set_option maxRecDepth 100000 in
set_option maxHeartbeats 4000000 in
theorem put_ok (m e0 e1 n : Nat) (A : Option Addr) (c : Nat) (code : List Nat) (w : World) (hm : m < 16) (hn1 : 1 ≤ n) (hn2 : n ≤ 1024) (h0 : e0 < n) (h1 : e1 < n) (hl : Lst w A n (u8s code)) (hb : ∀ x ∈ code, x < 256) :
    Calls Try.prog 25 #[imv m e0 e1 A n c] w fun e w' => ∃ v, e = .returned (.tuple #[v, .int .i64 0]) ∧ Hid (w'.ownsRow w.heap.size TU 1 v (11 + n) (u8s (imgB m e0 e1 code))) ∧ Hid (Below w.heap.size w w') := by
  obtain ⟨i0, hi, hz0, hz1, hz2⟩ := info_parts info_u8
  have HCL := Lib.hid (show code.length = n by have := hl.1; simpa [u8s] using this)
  have HBD := Lib.hid hb
  have HL := Lib.hid hl
  have HRI := Lib.hid (show RI m e0 e1 n by unfold RI; omega)
  have HB := Lib.hid (show Below w.heap.size w (w.alloc (.cells (c4 m e0 e1 A n c) TI)) from (Below.refl _ _).alloc (Nat.le_refl _) _)
  have HO := Lib.hid (Obj1.new w TI (c4 m e0 e1 A n c))
  obtain ⟨gc, HGC⟩ : ∃ gc, Hid (w.heap.size = gc) := ⟨_, Lib.hid rfl⟩
  rw [HGC.out] at HO
  have kc := fun (X : World) => Go.Lib.run_convert_bytes_const (P := Try.prog) X 26 TU #[.int .u8 84, .int .u8 49] 2 2 Try.underlying26 Try.underlying5
  clear hl hb
  go_enter Try.func25, Try.ntmps25
  go_wp2_with fail
  rw [HGC.out]
  generalize w.alloc (.cells #[.int .i64 m, .int .i64 e0, .int .i64 e1, .slice A n c] TI) = W at HB HO ⊢
  refine (right_yes m e0 e1 A n c W HRI.out).mono ?_
  rintro e w1 ⟨rfl, hb1⟩
  have HO1 := Lib.hid (HO.out.kept hb1)
  have HB1 := Lib.hid (HB.out.trans (hb1.mono HB.out.size))
  have kc1 := kc w1
  have hbm : Below w.heap.size w (w1.alloc (.cells #[.int .u8 84, .int .u8 49] TU (2, 3))) := HB1.out.alloc HB1.out.size _
  have hom : Obj1 (w1.alloc (.cells #[.int .u8 84, .int .u8 49] TU (2, 3))) gc TI (c4 m e0 e1 A n c) := HO1.out.alloc _
  have HBM := Lib.hid hbm
  have HOM := Lib.hid hom
  obtain ⟨k0, k1, k2, k3⟩ := cells4 hom
  have HG1 : Hid ((w1.alloc (.cells #[.int .u8 84, .int .u8 49] TU (2, 3))).heap[w1.heap.size]? = some (.cells #[.int .u8 84, .int .u8 49] TU (2, 3))) := Lib.hid (by show (w1.heap.push _)[w1.heap.size]? = _; simp)
  clear kc hb1 hbm hom
  have HU := Lib.hid (lst_new (w1.alloc (.cells #[.int .u8 84, .int .u8 49] TU (2, 3))) TU [.int .u8 (m : Int)])
  have e1s : (w1.alloc (.cells #[.int .u8 84, .int .u8 49] TU (2, 3))).heap.size = w1.heap.size + 1 := by simp
  have HOLD : Hid (∀ b, some (⟨w1.heap.size, 0, none⟩ : Addr) = some b → ∀ j u, [Value.int .u8 84, Value.int .u8 49][j]? = some u → ((w1.alloc (.cells #[.int .u8 84, .int .u8 49] TU (2, 3))).alloc (.cells #[.int .u8 (m : Int)] TU)).cell? (b.add j) = some u) := Lib.hid (by
    rintro b hb j u hj
    cases hb
    have hg : ((w1.alloc (.cells #[.int .u8 84, .int .u8 49] TU (2, 3))).alloc (.cells #[.int .u8 (m : Int)] TU)).heap[w1.heap.size]? = some (.cells #[.int .u8 84, .int .u8 49] TU (2, 3)) := (Below.heap_alloc _ _ _ (by simp)).trans HG1.out
    rw [add_eq, Nat.zero_add]
    unfold World.cell?
    simp only [hg]
    rw [show (#[Value.int .u8 84, Value.int .u8 49] : Array Value) = [Value.int .u8 84, Value.int .u8 49].toArray from rfl, List.getElem?_toArray]
    exact hj)
  have HNEW : Hid (∀ j u, [Value.int .u8 (m : Int)][j]? = some u → ((w1.alloc (.cells #[.int .u8 84, .int .u8 49] TU (2, 3))).alloc (.cells #[.int .u8 (m : Int)] TU)).cell? ((⟨w1.heap.size + 1, 0, none⟩ : Addr).add j) = some u) := Lib.hid (by
    intro j u hj
    obtain ⟨b, off, e', _, hc⟩ := HU.out.2 (by simp)
    rw [e1s] at e'
    cases e'
    rw [add_eq]
    have hj1 : j < 1 := by have := (List.getElem?_eq_some_iff.1 hj).1; simpa using this
    exact (hc j hj1).trans hj)
  have HB3 := Lib.hid (HBM.out.alloc HBM.out.size (.cells #[.int .u8 (m : Int)] TU))
  have HO3 := Lib.hid (HOM.out.alloc (.cells #[.int .u8 (m : Int)] TU))
  go_wp2_with (at_builtin; refine wpList_append_grows _ rfl (.tmp 12) (.tmp 16) 26 rfl TU i0 (.int .u8 0) 1 1 Try.underlying26 hi hz0 hz1 hz2 rfl (by omega) (some ⟨w1.heap.size, 0, none⟩) 2 2 [.int .u8 84, .int .u8 49] rfl (fun h => by cases h) rfl HOLD.out ⟨w1.heap.size + 1, 0, none⟩ 1 1 [.int .u8 (m : Int)] rfl rfl HNEW.out (by intro u hu; simp at hu; subst hu; rfl) (by omega) (by unfold maxLen; omega) (by omega) ?_; intro v4 w4 hown4 hg4; obtain ⟨HO4, HB4, HNB4, HW4⟩ := put_start HO3.out HB3.out hown4 hg4; obtain ⟨q0, q1, q2, q3⟩ := cells4 HO4.out; clear hown4 hg4 k0 k1 k2 k3 kc1)
  have HO5 := Lib.hid (Obj1.new w4 TZ #[.int .i64 e0, .int .i64 e1, .int .i64 n])
  obtain ⟨gI, HGI⟩ : ∃ gI, Hid (w4.heap.size = gI) := ⟨_, Lib.hid rfl⟩
  rw [HGI.out] at HO5
  have HST : Hid (PRel w gc gI m e0 e1 n A c v4 (.int .i64 0) (w4.alloc (.cells #[.int .i64 e0, .int .i64 e1, .int .i64 n] TZ))) := Lib.hid ⟨0, by omega, rfl, by simpa [u8s, preB] using HW4.out.alloc _, fun h => by have := (HW4.out.lt gI h).2; have := HGI.out; omega, HNB4.out, HO5.out, HO4.out.alloc _, HB4.out.alloc HB4.out.size _⟩
  clear q0 q1 q2 q3 HU HOLD HNEW HB3 HO3 HG1 HOM HBM HO1 HB1 HO HB
  rw [HGI.out]
  generalize w4.alloc (.cells #[.int .i64 e0, .int .i64 e1, .int .i64 n] TZ) = w5 at HST ⊢
  go_loopw [4, 29] (fun v i wr => PRel w gc gI m e0 e1 n A c v i wr) (fun _ i _ => 3 - (intOf i).toNat)
  case atStart => exact HST.out
  case round =>
    obtain ⟨j, hj, rfl, hown, hnI, hnc, hoI, hoc, hbel⟩ := hrel
    have HOW := Lib.hid hown
    have HNI := Lib.hid hnI
    have HNC := Lib.hid hnc
    have HOI := Lib.hid hoI
    have HOC := Lib.hid hoc
    have HBE := Lib.hid hbel
    by_cases hlt : j < 3
    · have hx : ∃ x : Nat, x ≤ 1024 ∧ wr.cell? ⟨gI, j, none⟩ = some (.int .i64 (x : Int)) ∧ Hid (preB m e0 e1 n (j + 1) = preB m e0 e1 n j ++ [x / 256, x % 256]) := by
        rcases (show j = 0 ∨ j = 1 ∨ j = 2 by omega) with rfl | rfl | rfl
        · exact ⟨e0, by omega, hoI.cell 0, Lib.hid rfl⟩
        · exact ⟨e1, by omega, hoI.cell 1, Lib.hid rfl⟩
        · exact ⟨n, by omega, hoI.cell 2, Lib.hid rfl⟩
      obtain ⟨x, hx1, hxc, HPX⟩ := hx
      obtain ⟨q, HQ⟩ : ∃ q : Nat, Hid (x / 256 = q) := ⟨_, Lib.hid rfl⟩
      obtain ⟨r, HRR⟩ : ∃ r : Nat, Hid (x % 256 = r) := ⟨_, Lib.hid rfl⟩
      rw [HQ.out, HRR.out] at HPX
      have hq : (x : Int) / 256 = (q : Int) := by have := HQ.out; omega
      have hq4 : q ≤ 4 := by have := HQ.out; omega
      have hr : IntKind.u8.wrap (x : Int) = (r : Int) := by rw [IntKind.wrap_u8']; have := HRR.out; omega
      have HLN := Lib.hid (lst_new wr TU [Value.int .u8 (q : Int), Value.int .u8 (r : Int)])
      clear hown hnI hnc hoI hoc hbel
      go_wp2_with (at_builtin; refine pushLg _ rfl (.tmp 33) (.tmp 39) 26 rfl w.heap.size TU i0 (.int .u8 0) 1 Try.underlying26 hi hz0 hz1 hz2 rfl _ _ _ rfl (HOW.out.alloc _) ⟨wr.heap.size, 0, none⟩ 2 2 [Value.int .u8 (q : Int), Value.int .u8 (r : Int)] rfl HLN.out (by intro u hu; simp at hu; rcases hu with rfl | rfl <;> rfl) (by unfold maxLen; omega) (by omega) (HBE.out.alloc HBE.out.size _).size ?_; intro v6 w6 hown6 hbel6 hg6 hb6)
      go_roundw
      case rel => exact prel_step hlt HPX.out HNI.out HNC.out HOI.out HOC.out HBE.out hown6 hbel6 hg6 hb6
      case measure => simp [intOf]; omega
    · obtain rfl : j = 3 := by omega
      have hAS : ∃ ad, A = some ad := by
        obtain ⟨b, off, e', _⟩ := HL.out.2 (by omega)
        exact ⟨_, e'⟩
      obtain ⟨ad, rfl⟩ := hAS
      obtain ⟨q0, q1, q2, q3⟩ := cells4 hoc
      have HLC := Lib.hid (HL.out.kept hbel)
      clear hown hnI hnc hoI hoc hbel
      go_wp2_with (at_builtin; refine pushLg _ rfl (.tmp 42) (.tmp 44) 26 rfl w.heap.size TU i0 (.int .u8 0) 1 Try.underlying26 hi hz0 hz1 hz2 rfl _ _ _ rfl HOW.out ad n c (u8s code) rfl HLC.out (by intro u hu; simp [u8s] at hu; obtain ⟨x, _, rfl⟩ := hu; rfl) (by unfold maxLen; omega) (by omega) HBE.out.size ?_; intro v7 w7 hown7 hbel7 hg7 hb7; obtain ⟨A7, c7, rfl, _, _, hl7⟩ := Lst.of_own hown7; have HL7 := Lib.hid hl7; have HW7 := Lib.hid hown7; have HB7 := Lib.hid (HBE.out.trans hbel7); clear hl7 hown7 hbel7 hg7 hb7 q0 q1 q2 q3)
      obtain ⟨bd, HBDY⟩ : ∃ bd, Hid (bodyB m e0 e1 code = bd) := ⟨_, Lib.hid rfl⟩
      have hbx : u8s (preB m e0 e1 n 3) ++ u8s code = u8s bd := by
        rw [← HBDY.out]
        unfold bodyB
        rw [HCL.out]
        simp [u8s]
      rw [hbx] at HL7 HW7
      have hbl : ∀ x ∈ bd, x < 256 := by rw [← HBDY.out]; exact bodyB_lt (by omega) (by omega) (by omega) (by rw [HCL.out]; omega) HBD.out
      have HSL := Lib.hid (sumL_lt (s := 65535) (by omega) hbl)
      have hrows : BRows (w7.alloc (.cells #[.slice A7 (3 + 2 * 3 + n) c7] 26)) (some ⟨w7.heap.size, 0, none⟩) [⟨A7, 3 + 2 * 3 + n, c7, bd⟩] := by
        refine ⟨lst_new w7 26 [.slice A7 (3 + 2 * 3 + n) c7], fun r hr => ?_⟩
        simp at hr
        subst hr
        exact ⟨HL7.out.kept ((Below.refl _ _).alloc (Nat.le_refl _) _), hbl, by show 3 + 2 * 3 + n ≤ _; omega⟩
      have HSUM := Lib.hid (sum_any (some ⟨w7.heap.size, 0, none⟩) 1 [⟨A7, 3 + 2 * 3 + n, c7, bd⟩] _ hrows (by simp))
      have HALL : Hid (allB [(⟨A7, 3 + 2 * 3 + n, c7, bd⟩ : BRow)] = bd) := Lib.hid (by simp [allB])
      rw [HALL.out] at HSUM
      obtain ⟨S, HSS⟩ : ∃ S, Hid (sumL 65535 bd = S) := ⟨_, Lib.hid rfl⟩
      rw [HSS.out] at HSUM HSL
      have hS := HSL.out
      obtain ⟨q, HQ⟩ : ∃ q : Nat, Hid (S / 256 = q) := ⟨_, Lib.hid rfl⟩
      obtain ⟨r, HRR⟩ : ∃ r : Nat, Hid (S % 256 = r) := ⟨_, Lib.hid rfl⟩
      have hq : (S : Int) / 256 = (q : Int) := by have := HQ.out; omega
      have hq4 : q ≤ 255 := by have := HQ.out; omega
      have hr : IntKind.u8.wrap (S : Int) = (r : Int) := by rw [IntKind.wrap_u8']; have := HRR.out; omega
      have HW8 := Lib.hid (HW7.out.alloc (.cells #[.slice A7 (3 + 2 * 3 + n) c7] 26))
      have HB8 := Lib.hid (HB7.out.alloc HB7.out.size (.cells #[.slice A7 (3 + 2 * 3 + n) c7] 26))
      clear hrows hbl hbx
      refine HSUM.out.mono ?_
      generalize w7.alloc (.cells #[.slice A7 (3 + 2 * 3 + n) c7] 26) = w8 at HW8 HB8
      rintro e w9 ⟨rfl, rfl⟩
      have HLN := Lib.hid (lst_new w8 TU [Value.int .u8 (q : Int), Value.int .u8 (r : Int)])
      go_wp2_with (at_builtin; refine pushLg _ rfl (.tmp 49) (.tmp 55) 26 rfl w.heap.size TU i0 (.int .u8 0) 1 Try.underlying26 hi hz0 hz1 hz2 rfl _ _ _ rfl (HW8.out.alloc _) ⟨w8.heap.size, 0, none⟩ 2 2 [Value.int .u8 (q : Int), Value.int .u8 (r : Int)] rfl HLN.out (by intro u hu; simp at hu; rcases hu with rfl | rfl <;> rfl) (by unfold maxLen; omega) (by omega) (HB8.out.alloc HB8.out.size _).size ?_; intro v9 w9 hown9 hbel9 hg9 hb9)
      go_ret2
      refine ⟨_, rfl, Lib.hid ?_, Lib.hid ((HB8.out.alloc HB8.out.size _).trans hbel9)⟩
      have e : u8s (imgB m e0 e1 code) = u8s bd ++ [Value.int .u8 (q : Int), Value.int .u8 (r : Int)] := by
        unfold imgB
        rw [HBDY.out, HSS.out]
        simp [u8s, two, HQ.out, HRR.out]
      rw [e, show 11 + n = 3 + 2 * 3 + n + 2 by omega]
      exact hown9
end Go.Proofs.Ythnopcoahcdjjaa.Ly10
