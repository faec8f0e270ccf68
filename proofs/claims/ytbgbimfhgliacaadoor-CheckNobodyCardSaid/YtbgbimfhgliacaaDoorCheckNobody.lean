/- A check that nobody made looks at nothing: for every slot, role and lines; no condition but that the table of the lines is as the program's text lays it, which the card ties. -/
import Derived.Test.YtbgbimfhgliacaaDoorChkO
import Derived.Test.YtbgbimfhgliacaaDoorSh
import Derived.Test.YtbgbimfhgliacaaDoorTie
import Derived.Test.YtbgbimfhgliacaaDoorCards
import Derived.Test.YtbgbimfhgliacaaDoorLaid
import Derived.LaidMore
import Derived.SevenTiedAt
import Derived.Stop.Joined
import Derived.Test.YtbgbimfhgliacaaDoorRows
import Derived.WalkKit
import Derived.ProofKit
import Derived.OpenShut
import Derived.ShutString
import Derived.ChangeOld
import Derived.Below
namespace Go.Proofs.YtbgbimfhgliacaaDoor.lawCheckNobody
open Go.ChangeShapes Go.WideShapes Go.ChangeAt Go.RowKit Base
open Go.ChangeMaps (open_string shut_string)
set_option linter.unusedVariables false
set_option linter.unusedSimpArgs false
theorem own : ownKnob Tryd.prog.godebug = none := by kernel_rfl
theorem laidOut : laidOutB Tryd.prog = true := by kernel_rfl
open Ev Ly19

theorem gUp : Tryd.prog.globalNamed "busbar/wires.upright" = some 0 := by kernel_rfl
theorem tUp : (Tryd.prog.globals[0]?).map (·.type) = some 35 := by kernel_rfl
theorem of_laid {W : World} (h : laidMetH Tryd.prog Rows.checkNobodyRow.laid W) : GlHas W (0, up) := by
  rw [MakeChecks.laidMetH_plain _ _ _ (by kernel_rfl)] at h
  obtain ⟨ps, ⟨g0, t0, cs0, f0, p0, q0, hg0, ht0, hv0, hd0, _, _⟩, _, _⟩ := h
  obtain rfl := Option.some.inj (gUp.symm.trans hg0)
  obtain rfl := Option.some.inj (tUp.symm.trans ht0)
  have e := exact_cells (sh := .ar 4 .bool) 10 rfl (by kernel_rfl) hd0 rfl
  obtain ⟨l0⟩ := cs0
  simp at e
  subst e
  simp only [World.var?, gUp, Option.bind_some] at hv0
  split at hv0 <;> try (cases hv0; done)
  rename_i cs el fz hc
  cases hv0
  exact ⟨_, el, fz, hc, fun j v hj => by simpa using hj⟩
theorem glhas_rel {L : LS} {D : Nat → Prop} {m : Nat → MB} {W0 W : World} {g : Nat} {k : Blk} (hW : WRel L D m W0 W) (hg : g < L.gl) (hk : L.hp.get g = some k) (ha : k.cells.all gnd = true) : GlHas W (g, k.cells) := by
  obtain ⟨_, _, _, cs, el, fz, hc, _, _, hv⟩ := hW.blk g k hk
  rw [(hW.gl g hg).2] at hc
  exact ⟨cs, el, fz, hc, fun j v hj => by
    obtain ⟨v', h1, h2⟩ := hv j v hj
    rwa [gnd_eq h2 (List.all_eq_true.1 ha v (List.mem_of_getElem? hj))] at h1⟩

/-! ### More than 20 words -/
abbrev nargs : List Value := [.agg #[nmd 1, nmd 2, nmd 3, nmd 4, nmd 5, nmd 6, nmd 7, nmd 8], .agg #[nmd 9, nmd 10, nmd 11, nmd 12], nmd 13]
abbrev ents (b : Bool) : List Ent := [.len 11 (nmd 14), .bin .gtr (nmd 14) (.int .i64 20) (.bool b)]
set_option maxRecDepth 1000000 in
theorem run_many : runG Tryd.prog 1000 4 1 [(0, up)] 14 (ents true) nargs = some (.bool true) := by kernel_rfl
theorem ins (a0 a1 a2 a3 a4 a5 a6 : Int) (b0 c0 : Bool) (c1 : Int) (A : Option Addr) (n c : Nat) (c3 : Bool) (l : Int) (w : World) : VRels (dG 1 [.int .i64 a0, .int .i64 a1, .int .i64 a2, .int .i64 a3, .int .i64 a4, .int .i64 a5, .int .i64 a6, .bool b0, .bool c0, .int .i64 c1, .slice A n c, .bool c3, .int .u8 l, .int .i64 n]) (mG 1 w [.int .i64 a0, .int .i64 a1, .int .i64 a2, .int .i64 a3, .int .i64 a4, .int .i64 a5, .int .i64 a6, .bool b0, .bool c0, .int .i64 c1, .slice A n c, .bool c3, .int .u8 l, .int .i64 n]) nargs [.agg #[.int .i64 a0, .int .i64 a1, .int .i64 a2, .int .i64 a3, .int .i64 a4, .int .i64 a5, .int .i64 a6, .bool b0], .agg #[.bool c0, .int .i64 c1, .slice A n c, .bool c3], .int .u8 l] :=
  .cons _ _ _ _ (.ag _ _ (.cons _ _ _ _ (nmd_relG (G := 1) (k := 0) rfl rfl) (.cons _ _ _ _ (nmd_relG (G := 1) (k := 1) rfl rfl) (.cons _ _ _ _ (nmd_relG (G := 1) (k := 2) rfl rfl) (.cons _ _ _ _ (nmd_relG (G := 1) (k := 3) rfl rfl) (.cons _ _ _ _ (nmd_relG (G := 1) (k := 4) rfl rfl) (.cons _ _ _ _ (nmd_relG (G := 1) (k := 5) rfl rfl) (.cons _ _ _ _ (nmd_relG (G := 1) (k := 6) rfl rfl) (.cons _ _ _ _ (nmd_relG (G := 1) (k := 7) rfl rfl) .nil))))))))) (.cons _ _ _ _ (.ag _ _ (.cons _ _ _ _ (nmd_relG (G := 1) (k := 8) rfl rfl) (.cons _ _ _ _ (nmd_relG (G := 1) (k := 9) rfl rfl) (.cons _ _ _ _ (nmd_relG (G := 1) (k := 10) rfl rfl) (.cons _ _ _ _ (nmd_relG (G := 1) (k := 11) rfl rfl) .nil))))) (.cons _ _ _ _ (nmd_relG (G := 1) (k := 12) rfl rfl) .nil))
theorem entries (a0 a1 a2 a3 a4 a5 a6 : Int) (b0 c0 : Bool) (c1 : Int) (A : Option Addr) (n c : Nat) (c3 : Bool) (l : Int) (w : World) {b : Bool} (h : decide ((20 : Int) < n) = b) : ∀ e ∈ ents b, EntOK (dG 1 [.int .i64 a0, .int .i64 a1, .int .i64 a2, .int .i64 a3, .int .i64 a4, .int .i64 a5, .int .i64 a6, .bool b0, .bool c0, .int .i64 c1, .slice A n c, .bool c3, .int .u8 l, .int .i64 n]) (mG 1 w [.int .i64 a0, .int .i64 a1, .int .i64 a2, .int .i64 a3, .int .i64 a4, .int .i64 a5, .int .i64 a6, .bool b0, .bool c0, .int .i64 c1, .slice A n c, .bool c3, .int .u8 l, .int .i64 n]) e := fun e he => by
  rcases List.mem_cons.1 he with rfl | he
  · exact ent_lenG (G := 1) (a := 10) (r := 13) rfl rfl
  · rcases List.mem_cons.1 he with rfl | he
    · exact ent_cmpG (G := 1) (k := 13) rfl (run_gtr h)
    · cases he
theorem hgs {w : World} (hU : GlHas w (0, up)) : ∀ p ∈ [((0 : Nat), up)], GlHas w p := fun p hp => by rw [List.mem_singleton.1 hp]; exact hU

/-! ### At most 20 -/
noncomputable def N0 : Code := ((Tryd.prog.funcs[4]?).bind (·.body)).getD .skip
noncomputable def T : Code := cr (cr (cr N0))
noncomputable def rops : Array Oper := match cl T with | .region _ ops _ => ops | _ => #[]
noncomputable def O1 : Oper := rops.getD 0 default
noncomputable def nL : LS := ⟨glH [(0, up)] .lf, 15, ents false, 1⟩
theorem n0 : N0 = .seq (cl N0) (.seq (cl (cr N0)) (.seq (cl (cr (cr N0))) T)) := by kernel_rfl
theorem nT : T = .seq (.region 14 rops false) .ret := by kernel_rfl
def tn : Tr Value := ((((((Tr.lf.nd (some (Value.tuple (Array.mk []))) Tr.lf).nd (some (Value.int IntKind.i64 (Int.ofNat 1))) Tr.lf).nd (some (Value.int IntKind.i64 (Int.ofNat 2))) ((Tr.lf.nd (some (Value.pointer none)) Tr.lf).nd (some (Value.agg (Array.mk [Value.chan (some 10), Value.chan (some 11), Value.chan (some 12), Value.chan (some 13)]))) Tr.lf)).nd (some (Value.pointer (some (Addr.mk 15 0 none)))) (((Tr.lf.nd (some (Value.bool false)) Tr.lf).nd (some (Value.int IntKind.i64 (Int.ofNat 1))) Tr.lf).nd (some (Value.chan (some 15))) ((Tr.lf.nd (some (Value.bool false)) Tr.lf).nd (some (Value.agg (Array.mk [Value.int IntKind.i64 (Int.ofNat 0), Value.int IntKind.i64 (Int.ofNat 0), Value.int IntKind.i64 (Int.ofNat 360), Value.int IntKind.i64 (Int.ofNat 1), Value.int IntKind.i64 (Int.ofNat 0), Value.int IntKind.i64 (Int.ofNat 1), Value.int IntKind.i64 (Int.negSucc 0), Value.bool false]))) Tr.lf))).nd (some (Value.agg (Array.mk [Value.chan (some 10), Value.chan (some 11), Value.chan (some 12), Value.chan (some 13)]))) ((((Tr.lf.nd (some (Value.tuple (Array.mk []))) Tr.lf).nd (some (Value.agg (Array.mk [Value.bool false, Value.int IntKind.i64 (Int.ofNat 0), Value.int IntKind.i64 (Int.ofNat 0)]))) Tr.lf).nd (some (Value.pointer (some (Addr.mk 16 2 none)))) ((Tr.lf.nd (some (Value.int IntKind.i64 (Int.ofNat 0))) Tr.lf).nd (some (Value.tuple (Array.mk []))) Tr.lf)).nd none (((Tr.lf.nd (some (Value.pointer none)) Tr.lf).nd (some (Value.pointer none)) Tr.lf).nd (some (Value.int IntKind.i64 (Int.ofNat 2))) (Tr.lf.nd (some (Value.agg (Array.mk [Value.bool true, Value.int IntKind.i64 (Int.ofNat 0), Value.slice (some (Addr.mk 28 0 none)) 1 1, Value.bool false]))) Tr.lf)))).nd (some (Value.agg (Array.mk [Value.chan (some 2), Value.chan (some 3), Value.chan (some 4), Value.chan (some 5), Value.chan (some 6), Value.chan (some 7), Value.chan (some 8), Value.chan (some 9)]))) (((((Tr.lf.nd (some (Value.pointer none)) Tr.lf).nd (some (Value.int IntKind.i64 (Int.ofNat 2))) Tr.lf).nd (some (Value.pointer none)) ((Tr.lf.nd (some (Value.int IntKind.i64 (Int.ofNat 0))) Tr.lf).nd (some (Value.chan (some 14))) Tr.lf)).nd (some (Value.pointer (some (Addr.mk 16 0 none)))) (((Tr.lf.nd (some (Value.bool false)) Tr.lf).nd (some (Value.bool true)) Tr.lf).nd (some (Value.bool false)) (Tr.lf.nd (some (Value.slice (some (Addr.mk 28 0 none)) 1 1)) Tr.lf))).nd (some (Value.chan (some 14))) ((((Tr.lf.nd (some (Value.pointer none)) Tr.lf).nd (some (Value.pointer (some (Addr.mk 24 0 none)))) Tr.lf).nd (some (Value.chan (some 12))) ((Tr.lf.nd (some (Value.bool false)) Tr.lf).nd (some (Value.pointer none)) Tr.lf)).nd (some (Value.bool false)) (((Tr.lf.nd (some (Value.int IntKind.i64 (Int.ofNat 0))) Tr.lf).nd (some (Value.agg (Array.mk [Value.chan (some 2), Value.chan (some 3), Value.chan (some 4), Value.chan (some 5), Value.chan (some 6), Value.chan (some 7), Value.chan (some 8), Value.chan (some 9)]))) Tr.lf).nd (some (Value.bool false)) (Tr.lf.nd (some (Value.chan (some 14))) Tr.lf)))))
def Ln : LS := (LS.mk (Tr.lf.nd (some (Blk.mk [Value.bool true, Value.bool false, Value.bool false, Value.bool true] none)) Tr.lf) 31 [Ent.len 11 (Value.chan (some 15)), Ent.bin BinOp.gtr (Value.chan (some 15)) (Value.int IntKind.i64 (Int.ofNat 20)) (Value.bool false)] 1)

set_option maxRecDepth 1000000 in
theorem pn : (evR Tryd.prog 1000 1 (.seq (cl N0) (.seq (cl (cr N0)) (cl (cr (cr N0))))) (argsT nargs 0 .lf) 45 nL).keep [0] = .nm tn Ln := by kernel_rfl
noncomputable def tm : Tr Value := (putL 45 tn (some 44) (.bool true)).getD .lf
noncomputable def te : Tr Value := ((opsL Tryd.prog (ev Tryd.prog 5) 1 rops 45 (rops.toList.drop 1) tm Ln).map (·.1)).getD .lf
theorem sT : Snd Tryd.prog 1 T 45 tn Ln .ret te Ln := by
  rw [nT]
  refine snd_seq (snd_region_call named mixed (f := 5) (o := O1) (t' := te) (L' := Ln) (l := rops.toList.drop 1) (t1 := tm) (v := .bool true) (by kernel_rfl) (by kernel_rfl) (by kernel_rfl) Tryd.func17 body rfl (fun D m W0 W hW => one_any W (glhas_rel (k := ⟨up, none⟩) hW (by decide) (by kernel_rfl) (by kernel_rfl))) (by kernel_rfl) (by kernel_rfl)) (snd_run named mixed (f := 2) (by rfl))
theorem rT : resL Tryd.prog Tryd.f4 te Ln = some (.bool true) := by kernel_rfl
theorem bodyN : Tryd.f4.body = some N0 := by kernel_rfl
theorem ntmN : max Tryd.f4.ntmps nargs.length = 45 := by kernel_rfl
theorem sN : Snd Tryd.prog 1 N0 45 (argsT nargs 0 .lf) nL .ret te Ln := by
  rw [n0]
  exact snd_three named mixed (f := 998) (fun b hb => by
    obtain rfl : b = 0 := by omega
    simp) pn sT

theorem go (a0 a1 a2 a3 a4 a5 a6 : Int) (b0 c0 : Bool) (c1 : Int) (A : Option Addr) (n c : Nat) (c3 : Bool) (l : Int) (w : World) (hU : GlHas w (0, up)) : Calls Tryd.prog 4 ⟨[.agg #[.int .i64 a0, .int .i64 a1, .int .i64 a2, .int .i64 a3, .int .i64 a4, .int .i64 a5, .int .i64 a6, .bool b0], .agg #[.bool c0, .int .i64 c1, .slice A n c, .bool c3], .int .u8 l]⟩ w fun e w' => e = .returned (.bool true) ∧ Below w.heap.size w w' := by
  by_cases h : n ≤ 20
  · exact snd_calls (args := nargs) (D := dG 1 [.int .i64 a0, .int .i64 a1, .int .i64 a2, .int .i64 a3, .int .i64 a4, .int .i64 a5, .int .i64 a6, .bool b0, .bool c0, .int .i64 c1, .slice A n c, .bool c3, .int .u8 l, .int .i64 n]) (m := mG 1 w [.int .i64 a0, .int .i64 a1, .int .i64 a2, .int .i64 a3, .int .i64 a4, .int .i64 a5, .int .i64 a6, .bool b0, .bool c0, .int .i64 c1, .slice A n c, .bool c3, .int .u8 l, .int .i64 n]) Tryd.func4 bodyN ntmN sN rT rfl (ins a0 a1 a2 a3 a4 a5 a6 b0 c0 c1 A n c c3 l w) (startG (vs := [.int .i64 a0, .int .i64 a1, .int .i64 a2, .int .i64 a3, .int .i64 a4, .int .i64 a5, .int .i64 a6, .bool b0, .bool c0, .int .i64 c1, .slice A n c, .bool c3, .int .u8 l, .int .i64 n]) glq (hgs hU) (entries a0 a1 a2 a3 a4 a5 a6 b0 c0 c1 A n c c3 l w (b := false) (by simp; omega)))
  · exact runG_ok (vs := [.int .i64 a0, .int .i64 a1, .int .i64 a2, .int .i64 a3, .int .i64 a4, .int .i64 a5, .int .i64 a6, .bool b0, .bool c0, .int .i64 c1, .slice A n c, .bool c3, .int .u8 l, .int .i64 n]) named mixed run_many (hgs hU) (entries a0 a1 a2 a3 a4 a5 a6 b0 c0 c1 A n c c3 l w (b := true) (by simp; omega)) (ins a0 a1 a2 a3 a4 a5 a6 b0 c0 c1 A n c c3 l w)
abbrev shS : Sh := .fld (.int .i64) (.fld (.int .i64) (.fld (.int .i64) (.fld (.int .i64) (.fld (.int .i64) (.fld (.int .i64) (.fld (.int .i64) (.fld .bool .nil)))))))
abbrev shR : Sh := .fld .bool (.fld (.int .i64) (.fld (.sl (.int .u8)) (.fld .bool .nil)))
theorem walk (x y : Array Value) (l : Int) (w : World) (hU : GlHas w (0, up)) (rx : Reads w shS x.toList) (ry : Reads w shR y.toList) (l0 : 0 ≤ l) (l1 : l ≤ 255) :
    Calls Tryd.prog 4 #[.agg x, .agg y, .int .u8 l] w fun e w' => e = .returned (.bool true) ∧ Below w.heap.size w w' := by
  obtain ⟨_, _, e, ⟨a0, rfl, _⟩, _, _, rfl, ⟨a1, rfl, _⟩, _, _, rfl, ⟨a2, rfl, _⟩, _, _, rfl, ⟨a3, rfl, _⟩, _, _, rfl, ⟨a4, rfl, _⟩, _, _, rfl, ⟨a5, rfl, _⟩, _, _, rfl, ⟨a6, rfl, _⟩, _, _, rfl, ⟨b0, rfl⟩, rfl⟩ := rx
  obtain ⟨_, _, e', ⟨c0, rfl⟩, _, _, rfl, ⟨c1, rfl, _⟩, _, _, rfl, ⟨A, n, c, _, rfl, _⟩, _, _, rfl, ⟨c3, rfl⟩, rfl⟩ := ry
  obtain ⟨xs⟩ := x
  obtain ⟨ys⟩ := y
  simp at e e'
  subst e e'
  exact go a0 a1 a2 a3 a4 a5 a6 b0 c0 c1 A n c c3 l w hU

theorem door_met (os : Os) (args : Array Value) : laidMetH Tryd.prog Rows.checkNobodyRow.laid ((World.doorLaid Tryd.prog 400 os).forCall (fun _ _ => 0) ⟨#[], args, []⟩).memory :=
  laidMetH_of_parts3 (fuel := 8) (laidMet_of_run' 8 (by kernel_rfl) (by kernel_rfl)) (by kernel_rfl) (by kernel_rfl)
set_option maxRecDepth 100000 in
theorem lifted (os : Os) (started : os.Started) (H : Type) (enc : TypeId × Value → H) :
    ReturnsInHanded {} Tryd.checked os 4 .any (fun w args => (Rows.checkNobodySpec.pre enc Tryd.prog Tryd.f4 [] false w args ∧ laidMetH Tryd.prog Rows.checkNobodyRow.laid w) ∧ sizedMet enc Tryd.prog Tryd.f4 (OpenSpec.ofChange Rows.checkNobodySpec) false w args)
      (Rows.checkNobodySpec.post enc Tryd.prog Tryd.f4 false true false false) := by
  refine returnsInHanded_of_change_and (C := Tryd.checked) (X := fun w _ => laidMetH Tryd.prog Rows.checkNobodyRow.laid w) (fun _ _ _ hh h => h.of_heap hh) own started (by kernel_rfl) Tryd.func4
    (ChangeSpec.witness_shaped (enc := enc) (C := Tryd.checked) (os := os) (X := fun w _ => laidMetH Tryd.prog Rows.checkNobodyRow.laid w) false (World.doorLaid Tryd.prog 400 os) #[.agg #[.int .i64 0, .int .i64 0, .int .i64 0, .int .i64 0, .int .i64 0, .int .i64 0, .int .i64 0, .bool false], .agg #[.bool false, .int .i64 0, .slice none 0 0, .bool false], .int .u8 0] 8 rfl (World.shaped_of_RefB (by kernel_rfl) (by kernel_rfl)) (by kernel_rfl) (by kernel_rfl) (by kernel_rfl) (door_met os _)) ?_
  intro W base args ds gs before hval0 hW _ _ hL _
  have hval : ∀ (j : Nat) t v, Tryd.f4.params[j]? = some t → args[j]? = some v → Value.okWide Tryd.prog W .any base t v := hval0
  have hW' := hW
  obtain ⟨p, q, hA0, hV, rfl, hfz, hnd⟩ := hW
  have hA : DataW.TrodAll enc Tryd.prog W 0 (fun _ => true) true Tryd.f4.params.toList args.toList ds p := hA0
  rw [Tryd.params4] at hA hval
  obtain ⟨v0, vs0, d0, ds0, p0, q0, hargs, rfl, rfl, h0, r0⟩ := trodAll_cons hA
  obtain ⟨v1, vs1, d1, ds1, p1, q1, rfl, rfl, rfl, h1, r1⟩ := trodAll_cons r0
  obtain ⟨v2, vs2, d2, ds2, p2, q2, rfl, rfl, rfl, h2, r2⟩ := trodAll_cons r1
  obtain ⟨rfl, rfl, rfl⟩ := trodAll_nil r2
  obtain rfl : args = #[v0, v1, v2] := by cases args; simp_all
  obtain ⟨rfl, rfl⟩ := trodVars_none hV
  have k0 := h0
  have lt0 : ∀ x ∈ p0, x.block < W.heap.size := by obtain ⟨m, hm⟩ := k0; exact DataW.trod_lt m _ _ _ hm
  obtain ⟨x, rfl⟩ := okWide_agg (by first | exact .inl ⟨_, Tryd.underlying42⟩ | exact .inr ⟨_, _, Tryd.underlying42⟩) (hval 0 42 v0 rfl rfl)
  have rd0 := reads_cells (sh := shS) 30 (by kernel_rfl) k0
  have k1 := h1
  have lt1 : ∀ x ∈ p1, x.block < W.heap.size := by obtain ⟨m, hm⟩ := k1; exact DataW.trod_lt m _ _ _ hm
  obtain ⟨y, rfl⟩ := okWide_agg (by first | exact .inl ⟨_, Tryd.underlying45⟩ | exact .inr ⟨_, _, Tryd.underlying45⟩) (hval 1 45 v1 rfl rfl)
  have rd1 := reads_cells (sh := shR) 30 (by kernel_rfl) k1
  obtain ⟨l, rfl, rfl, rfl, wf2⟩ := open_int Tryd.underlying22 (hval 2 22 v2 rfl rfl) h2
  have bd2 := bounds_u8 wf2
  clear hA0 hval0
  refine (walk x y l W (of_laid hL) rd0 rd1 bd2.1 bd2.2).mono fun e W' ⟨he, bel⟩ => ?_
  subst he
  exact ⟨_, rfl, _, _, _, [], _, [], hW', trodAll_mk1 (shut_bool Tryd.underlying4 _), (trodAll_cons_mk (Below.trod laidOut (by kernel_rfl) (of_decide_eq_true (by kernel_rfl)) k0 bel lt0) (trodAll_cons_mk (Below.trod laidOut (by kernel_rfl) (of_decide_eq_true (by kernel_rfl)) k1 bel lt1) (trodAll_cons_mk (shut_int Tryd.underlying22 wf2) trodAll_mk0))), rfl, bel.frame _, fun h => by cases h⟩

theorem over : Rows.checkNobodyRow.holds Tryd.pinned (OpenSpec.ofChange Rows.checkNobodySpec) :=
  OpenClaim.holds_of_wide 4 Tryd.f4 rfl rfl rfl rfl rfl rfl rfl ⟨rfl, rfl, rfl, rfl, rfl⟩ rfl rfl rfl rfl rfl (by kernel_rfl) Tryd.func4 (by kernel_rfl)
    (of_decide_eq_true (by kernel_rfl)) (by unfold Func.isWrapper; first | (rw [if_pos (by decide +kernel)]; kernel_rfl) | (rw [if_neg (by decide +kernel)]; exact ⟨rfl, rfl⟩))
    (fun os started H enc _ => lifted os started H enc)

/-- The card: what the row lists is tied to the program's text. -/
theorem proved : Rows.CheckNobodyCardSaid :=
  Claim7.holds_tied_plain_at .later [] [.data] true Rows.checkNobodyCard.stood.harness false
    over (fun _ h => by cases h) (by kernel_rfl) (fun _ h => by cases h) checkNobody_row_tie rfl ⟨rfl, rfl⟩ (by kernel_rfl) rfl
    (fun f fn hf hfn => by
      obtain rfl : f = 4 := Option.some.inj ((show Tryd.prog.funcNamed "busbar/busbarlaw19.CheckNobody" = some 4 by kernel_rfl).symm.trans hf) |>.symm
      obtain rfl : fn = Tryd.f4 := (Option.some.inj (Tryd.func4.symm.trans hfn)).symm
      exact ⟨by kernel_rfl, fun j t ht => by
        rw [Tryd.params4] at ht
        have hm : t ∈ [42, 45, 22] := by simpa using Array.mem_of_getElem? ht
        have hall : ([42, 45, 22].all fun u => !Tryd.prog.wantsStandIn u) = true := by kernel_rfl
        exact (show Tryd.prog.wantsStandIn t = false by simpa using List.all_eq_true.1 hall t hm)⟩)
    (by kernel_rfl)
end Go.Proofs.YtbgbimfhgliacaaDoor.lawCheckNobody
