/- Package digits' Hex; no condition but sizes. -/
import Derived.Test.YtanhblokhcaoiaaDoorTrcA
import Derived.Test.YtanhblokhcaoiaaDoorBld
namespace Go.Proofs.YtanhblokhcaoiaaDoor.Tr
open Go.ChangeShapes Go.WideShapes Go.ChangeAt Go.RowKit Base
open Joi (stV)
set_option linter.unusedVariables false
set_option linter.unusedSimpArgs false

theorem ixS (d : Nat) (h : d < 16) (W : World) : (Instr.index 9 (.string ⟨#[48, 49, 50, 51, 52, 53, 54, 55, 56, 57, 97, 98, 99, 100, 101, 102]⟩) (.int .u8 (d : Int))).run Tryd.prog W = .ok (.int .u8 ((hx d).toNat : Int)) W := by
  rcases (show d = 0 ∨ d = 1 ∨ d = 2 ∨ d = 3 ∨ d = 4 ∨ d = 5 ∨ d = 6 ∨ d = 7 ∨ d = 8 ∨ d = 9 ∨ d = 10 ∨ d = 11 ∨ d = 12 ∨ d = 13 ∨ d = 14 ∨ d = 15 by omega) with rfl | rfl | rfl | rfl | rfl | rfl | rfl | rfl | rfl | rfl | rfl | rfl | rfl | rfl | rfl | rfl <;> kernel_rfl
theorem and15 : ∀ x : Fin 256, Go.bits BinOp.and IntKind.u8 ((x.val : Nat) : Int) 15 = ((x.val % 16 : Nat) : Int) := by decide +kernel
theorem bc_app (a : List UInt8) (c : UInt8) : Lib.byteCells a ++ [.int .u8 (c.toNat : Int)] = Lib.byteCells (a ++ [c]) := by simp [Lib.byteCells]
theorem bc_len (a : List UInt8) : (Lib.byteCells a).length = a.length := by simp [Lib.byteCells]
set_option maxRecDepth 100000 in
set_option maxHeartbeats 2000000 in
theorem hex_any (A : Option Addr) (n c : Nat) (vs : List Nat) (w : World) (hl : Lst w A n (vs.map fun (x : Nat) => Value.int .u8 x)) (hx' : ∀ x ∈ vs, x < 256) (hn : n ≤ 1000000) :
    Calls Tryd.prog 44 #[.slice A n c] w fun e' w' => e' = .returned (.string ⟨(hxT vs).toArray⟩) ∧ Below w.heap.size w w' := by
  obtain ⟨gb, HGB⟩ : ∃ gb, Hid (w.heap.size = gb) := ⟨_, Lib.hid rfl⟩
  obtain ⟨W1, HW1⟩ : ∃ W1, Hid (W1 = w.alloc (.cells #[.pointer none, .slice none 0 0] Bld.TB)) := ⟨_, Lib.hid rfl⟩
  have HB1 : Hid (Below gb w W1) := Lib.hid (by rw [HW1.out, ← HGB.out]; exact bel_new _ _)
  have HI1 : Hid (Lib.IsBuilder Bld.TB Bld.TU gb gb (Lib.byteCells (hxT (vs.take 0))) W1) := Lib.hid (by rw [HW1.out, ← HGB.out]; exact Lib.fresh_isBuilder _ _ _)
  have HBC : Hid (∀ W, Below gb w W → Below w.heap.size w W) := Lib.hid (fun W h => by rw [HGB.out]; exact h)
  have HSZ : Hid (∀ W, Below gb w W → gb ≤ W.heap.size) := Lib.hid (fun W h => by have := h.size; have := HGB.out; omega)
  have HL := Lib.hid hl
  have HLN : Hid (vs.length = n) := Lib.hid (by have := hl.1; simpa using this)
  have HX := Lib.hid hx'
  clear hl hx'
  go_enter Tryd.func44, Tryd.ntmps44
  go_upto_region 2 with (fail)
  rw [← HW1.out, HGB.out]
  clear HW1
  go_wp2_with fail
  go_loopw [8] (fun i wx => ∃ k : Nat, k ≤ n ∧ i = .int .i64 k ∧ Hid (Lib.IsBuilder Bld.TB Bld.TU gb gb (Lib.byteCells (hxT (vs.take k))) wx) ∧ Below gb w wx) (fun i _ => n - (intOf i).toNat)
  case atStart => exact ⟨0, by omega, rfl, HI1, HB1.out⟩
  case round =>
    clear HI1 HB1
    obtain ⟨k, hk, rfl, HI, hbk⟩ := hrel
    have HBK := Lib.hid hbk
    by_cases hlt : k < n
    · have hki : (k : Int) < (n : Int) := by omega
      have hkl : k < vs.length := by rw [HLN.out]; exact hlt
      obtain ⟨b, off, rfl, _, hc⟩ := (HL.out.kept (HBC.out _ hbk)).get hlt
      rw [List.getElem_map] at hc
      obtain ⟨x, hx⟩ : ∃ x, vs[k]'hkl = x := ⟨_, rfl⟩
      rw [hx] at hc
      have HXE : Hid (vs[k]? = some x) := Lib.hid (by rw [List.getElem?_eq_getElem hkl, hx])
      have hx256 := HX.out x (List.mem_of_getElem? HXE.out)
      have HNX := Lib.hid (hxT_next HXE.out)
      have hsl : (hxT (vs.take k)).length ≤ 2 * k := by rw [hxT_len, List.length_take]; omega
      obtain ⟨S, HS⟩ : ∃ S, Hid (hxT (vs.take k) = S) := ⟨_, Lib.hid rfl⟩
      rw [HS.out] at HNX hsl HI
      have ha15 : Go.bits BinOp.and IntKind.u8 (x : Int) 15 = ((x % 16 : Nat) : Int) := and15 ⟨x, hx256⟩
      obtain ⟨q, hq⟩ : ∃ q, x / 16 = q := ⟨_, rfl⟩
      obtain ⟨r, hr⟩ : ∃ r, x % 16 = r := ⟨_, rfl⟩
      rw [hr] at ha15
      rw [hq, hr] at HNX
      have hq16 : q < 16 := by omega
      have hr16 : r < 16 := by omega
      have es : (x : Int) / 16 = (q : Int) := by omega
      have es2 : (x : Int) / 2 ^ 4 = (q : Int) := by omega
      have e3 : IntKind.u8.wrap (q : Int) = (q : Int) := IntWalk.u8_in _ (by omega)
      have e7 : IntKind.u8.wrap (r : Int) = (r : Int) := IntWalk.u8_in _ (by omega)
      have e6 : IntKind.i64.wrap ((k : Int) + 1) = (k : Int) + 1 := IntWalk.i64_in _ (by omega)
      have ixq := fun W => ixS q hq16 W
      have ixr := fun W => ixS r hr16 W
      have HLE : Hid (S.length ≤ 2000000) := Lib.hid (by omega)
      clear hx hkl hbk hx256 hq hr hsl
      go_wp2_with fail
      refine (Bld.write_byte gb gb (Lib.byteCells S) ((Tr.hx q).toNat : Int) wr HI.out (by rw [bc_len]; have := HLE.out; omega) (HSZ.out _ HBK.out)).mono ?_
      rintro e' w2 ⟨rfl, ha, hb2⟩
      have HB2 := Lib.hid (HBK.out.trans hb2)
      have HI2 : Hid (Lib.IsBuilder Bld.TB Bld.TU gb gb (Lib.byteCells (S ++ [Tr.hx q])) w2) := Lib.hid (by rw [← bc_app]; exact .inr ha)
      clear ha hb2 HI HBK hc
      go_wp2_with fail
      refine (Bld.write_byte gb gb (Lib.byteCells (S ++ [Tr.hx q])) ((Tr.hx r).toNat : Int) w2 HI2.out (by rw [bc_len, List.length_append]; have := HLE.out; simp; omega) (HSZ.out _ HB2.out)).mono ?_
      rintro e' w3 ⟨rfl, ha, hb3⟩
      have HB3 := Lib.hid (HB2.out.trans hb3)
      have HI3 : Hid (Lib.IsBuilder Bld.TB Bld.TU gb gb (Lib.byteCells (S ++ [Tr.hx q] ++ [Tr.hx r])) w3) := Lib.hid (by rw [← bc_app]; exact .inr ha)
      clear ha hb3 HI2 HB2
      go_wp2
      go_roundw
      case rel => exact ⟨k + 1, by omega, by go_num, by rw [HNX.out]; exact HI3, HB3.out⟩
      case measure => simp [intOf]; omega
    · have hke : k = n := by omega
      subst hke
      have HT : Hid (vs.take k = vs) := Lib.hid (List.take_of_length_le (by rw [HLN.out]; exact Nat.le_refl _))
      rw [HT.out] at HI
      clear hbk
      go_wp2_with fail
      refine (Bld.string_any gb gb (hxT vs) wr HI.out (HSZ.out _ HBK.out)).mono ?_
      rintro e' w4 ⟨rfl, hb4⟩
      have HB4 := Lib.hid (HBC.out _ (HBK.out.trans hb4))
      clear hb4 HI
      go_wp2
      go_ret
      exact ⟨rfl, HB4.out⟩
end Go.Proofs.YtanhblokhcaoiaaDoor.Tr
