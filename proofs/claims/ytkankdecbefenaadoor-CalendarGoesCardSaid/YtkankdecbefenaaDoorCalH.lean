/- Package calendar's Age and Late; no condition but sizes. -/
import Derived.RegionTactic
import Derived.IntWalk
import Derived.Test.YtkankdecbefenaaDoorCalG
namespace Go.Proofs.YtkankdecbefenaaDoor.Ly7
open Go.ChangeShapes Go.WideShapes Go.ChangeAt Go.RowKit Base
set_option linter.unusedVariables false
set_option linter.unusedSimpArgs false

def ageG (m b e x : Int) : Int := max m (x - e)
def lateG (m b e x : Int) : Int := max m (x - b - 1)
/-- How old a place gets; how late it is written. -/
def ageF (ss : List Sl) (T addr : Int) : Int := foldW ageG (ss.filter (wrt addr)) T (ss.filter (wrt addr)).length 0
def lateF (ss : List Sl) (T addr : Int) : Int := foldW lateG (ss.filter (wrt addr)) T (ss.filter (wrt addr)).length 0
theorem ent_age : Ent 30 := ent_of Tryd.func30 (by kernel_rfl) rfl
theorem ent_late : Ent 31 := ent_of Tryd.func31 (by kernel_rfl) rfl
theorem do_age (gm : Nat) : DoW 30 gm ageG := fun W m b e x h hb => age1_any gm b e x m W h hb
theorem do_late (gm : Nat) : DoW 31 gm lateG := fun W m b e x h hb => late1_any gm b e x m W h hb
set_option maxRecDepth 100000 in
set_option maxHeartbeats 2000000 in
theorem age_any (f : Wd → Int) (md : Int) (A0 : Option Addr) (n0 c0 : Nat) (A1 : Option Addr) (n1 c1 : Nat) (ws0 ws1 : List Wd) (v j e : Int) (w : World) (h : Sd f md A0 n0 c0 A1 n1 c1 ws0 ws1 v j e w) (ver : Int) (ss : List Sl) (T : Int) (addr : Int) (hF : Frm e ver A0 n0 c0 A1 n1 c1 ws0 ws1 ss T) :
    Calls Tryd.prog 15 #[.agg #[.int .i64 md, .slice A0 n0 c0, .slice A1 n1 c1], .int .i64 ver, .int .i64 addr] w fun r w' => r = .returned (.int .i64 (ageF ss T addr)) ∧ Below w.heap.size w w' := by
  have HSD := Lib.hid h
  have hfc := fld_code
  obtain ⟨gb, HGB⟩ : ∃ gb, Hid (w.heap.size = gb) := ⟨_, Lib.hid rfl⟩
  obtain ⟨W1, HW1⟩ : ∃ W1, Hid (W1 = w.alloc (.cells #[.int .i64 md, .slice A0 n0 c0, .slice A1 n1 c1] TSd)) := ⟨_, Lib.hid rfl⟩
  have HB1 : Hid (Below w.heap.size w W1) := Lib.hid (by rw [HW1.out]; exact bel1 _ _)
  have HO1 : Hid (Obj1 W1 gb TSd #[.int .i64 md, .slice A0 n0 c0, .slice A1 n1 c1]) := Lib.hid (by rw [HW1.out, ← HGB.out]; exact Obj1.new _ _ _)
  have d0 : W1.cell? ⟨gb, 0, none⟩ = some (.int .i64 md) := HO1.out.cell 0
  have d1 : W1.cell? ⟨gb, 1, none⟩ = some (.slice A0 n0 c0) := HO1.out.cell 1
  have d2 : W1.cell? ⟨gb, 2, none⟩ = some (.slice A1 n1 c1) := HO1.out.cell 2
  clear h
  have HFM := Lib.hid hF
  obtain ⟨gm, HGM⟩ : ∃ g, Hid (W1.heap.size = g) := ⟨_, Lib.hid rfl⟩
  obtain ⟨W2, HW2⟩ : ∃ W, Hid (W = W1.alloc (.cells #[.int .i64 0] TInt)) := ⟨_, Lib.hid rfl⟩
  have n2 : Below W1.heap.size W1 W2 := by rw [HW2.out]; exact bel_new _ _
  have HB2 : Hid (Below w.heap.size w W2) := Lib.hid (HB1.out.trans (n2.mono HB1.out.size))
  have HO2 := Lib.hid (HO1.out.kept n2)
  have HM2 : Hid (Obj1 W2 gm TInt #[.int .i64 0]) := Lib.hid (by rw [HW2.out, ← HGM.out]; exact Obj1.new _ _ _)
  have HGB2 : Hid (w.heap.size ≤ gm) := Lib.hid (by rw [← HGM.out]; exact HB1.out.size)
  have HWR := Lib.hid (writers_any f md A0 n0 c0 A1 n1 c1 ws0 ws1 v j e W2 (HSD.out.kept HB2.out) ver ss T addr HFM.out 30 ent_age gm ageG (do_age gm) 0 HM2.out)
  obtain ⟨R, HR⟩ : ∃ R, Hid (ageF ss T addr = R) := ⟨_, Lib.hid rfl⟩
  have HRF : Hid (foldW ageG (ss.filter (wrt addr)) T (ss.filter (wrt addr)).length 0 = R) := Lib.hid HR.out
  rw [HRF.out] at HWR
  rw [HR.out]
  clear hF n2
  go_enter Tryd.func15, Tryd.ntmps15
  go_upto_region 1 with (fail)
  rw [← HW1.out, HGB.out]
  clear HW1 HGB
  clear d0 d1 d2
  go_upto_region 2 with (fail)
  rw [← HW2.out, HGM.out]
  clear HW2 HGM
  have d0 : W2.cell? ⟨gb, 0, none⟩ = some (.int .i64 md) := HO2.out.cell 0
  have d1 : W2.cell? ⟨gb, 1, none⟩ = some (.slice A0 n0 c0) := HO2.out.cell 1
  have d2 : W2.cell? ⟨gb, 2, none⟩ = some (.slice A1 n1 c1) := HO2.out.cell 2
  go_wp2_with fail
  refine HWR.out.mono ?_
  rintro r w3 ⟨rfl, ho3, hw3⟩
  have HB3 : Hid (Below w.heap.size w w3) := Lib.hid (HB2.out.trans (hw3.below HGB2.out HB2.out.size) |>.mono (Nat.le_refl _))
  have c0' : w3.cell? ⟨gm, 0, none⟩ = some (.int .i64 R) := ho3.cell 0
  clear hw3 d0 d1 d2 HWR
  go_wp2
  go_ret
  exact ⟨rfl, HB3.out⟩
set_option maxRecDepth 100000 in
set_option maxHeartbeats 2000000 in
theorem late_any (f : Wd → Int) (md : Int) (A0 : Option Addr) (n0 c0 : Nat) (A1 : Option Addr) (n1 c1 : Nat) (ws0 ws1 : List Wd) (v j e : Int) (w : World) (h : Sd f md A0 n0 c0 A1 n1 c1 ws0 ws1 v j e w) (ver : Int) (ss : List Sl) (T : Int) (addr : Int) (hF : Frm e ver A0 n0 c0 A1 n1 c1 ws0 ws1 ss T) :
    Calls Tryd.prog 16 #[.agg #[.int .i64 md, .slice A0 n0 c0, .slice A1 n1 c1], .int .i64 ver, .int .i64 addr] w fun r w' => r = .returned (.int .i64 (lateF ss T addr)) ∧ Below w.heap.size w w' := by
  have HSD := Lib.hid h
  have hfc := fld_code
  obtain ⟨gb, HGB⟩ : ∃ gb, Hid (w.heap.size = gb) := ⟨_, Lib.hid rfl⟩
  obtain ⟨W1, HW1⟩ : ∃ W1, Hid (W1 = w.alloc (.cells #[.int .i64 md, .slice A0 n0 c0, .slice A1 n1 c1] TSd)) := ⟨_, Lib.hid rfl⟩
  have HB1 : Hid (Below w.heap.size w W1) := Lib.hid (by rw [HW1.out]; exact bel1 _ _)
  have HO1 : Hid (Obj1 W1 gb TSd #[.int .i64 md, .slice A0 n0 c0, .slice A1 n1 c1]) := Lib.hid (by rw [HW1.out, ← HGB.out]; exact Obj1.new _ _ _)
  have d0 : W1.cell? ⟨gb, 0, none⟩ = some (.int .i64 md) := HO1.out.cell 0
  have d1 : W1.cell? ⟨gb, 1, none⟩ = some (.slice A0 n0 c0) := HO1.out.cell 1
  have d2 : W1.cell? ⟨gb, 2, none⟩ = some (.slice A1 n1 c1) := HO1.out.cell 2
  clear h
  have HFM := Lib.hid hF
  obtain ⟨gm, HGM⟩ : ∃ g, Hid (W1.heap.size = g) := ⟨_, Lib.hid rfl⟩
  obtain ⟨W2, HW2⟩ : ∃ W, Hid (W = W1.alloc (.cells #[.int .i64 0] TInt)) := ⟨_, Lib.hid rfl⟩
  have n2 : Below W1.heap.size W1 W2 := by rw [HW2.out]; exact bel_new _ _
  have HB2 : Hid (Below w.heap.size w W2) := Lib.hid (HB1.out.trans (n2.mono HB1.out.size))
  have HO2 := Lib.hid (HO1.out.kept n2)
  have HM2 : Hid (Obj1 W2 gm TInt #[.int .i64 0]) := Lib.hid (by rw [HW2.out, ← HGM.out]; exact Obj1.new _ _ _)
  have HGB2 : Hid (w.heap.size ≤ gm) := Lib.hid (by rw [← HGM.out]; exact HB1.out.size)
  have HWR := Lib.hid (writers_any f md A0 n0 c0 A1 n1 c1 ws0 ws1 v j e W2 (HSD.out.kept HB2.out) ver ss T addr HFM.out 31 ent_late gm lateG (do_late gm) 0 HM2.out)
  obtain ⟨R, HR⟩ : ∃ R, Hid (lateF ss T addr = R) := ⟨_, Lib.hid rfl⟩
  have HRF : Hid (foldW lateG (ss.filter (wrt addr)) T (ss.filter (wrt addr)).length 0 = R) := Lib.hid HR.out
  rw [HRF.out] at HWR
  rw [HR.out]
  clear hF n2
  go_enter Tryd.func16, Tryd.ntmps16
  go_upto_region 1 with (fail)
  rw [← HW1.out, HGB.out]
  clear HW1 HGB
  clear d0 d1 d2
  go_upto_region 2 with (fail)
  rw [← HW2.out, HGM.out]
  clear HW2 HGM
  have d0 : W2.cell? ⟨gb, 0, none⟩ = some (.int .i64 md) := HO2.out.cell 0
  have d1 : W2.cell? ⟨gb, 1, none⟩ = some (.slice A0 n0 c0) := HO2.out.cell 1
  have d2 : W2.cell? ⟨gb, 2, none⟩ = some (.slice A1 n1 c1) := HO2.out.cell 2
  go_wp2_with fail
  refine HWR.out.mono ?_
  rintro r w3 ⟨rfl, ho3, hw3⟩
  have HB3 : Hid (Below w.heap.size w w3) := Lib.hid (HB2.out.trans (hw3.below HGB2.out HB2.out.size) |>.mono (Nat.le_refl _))
  have c0' : w3.cell? ⟨gm, 0, none⟩ = some (.int .i64 R) := ho3.cell 0
  clear hw3 d0 d1 d2 HWR
  go_wp2
  go_ret
  exact ⟨rfl, HB3.out⟩
end Go.Proofs.YtkankdecbefenaaDoor.Ly7
