/- What one of layer 19 comes to, in parts: a partner that drives nothing. -/
import Derived.Test.YtnbcegijncdmaaaDoorEvM
import Derived.Test.YtnbcegijncdmaaaDoorChecked
namespace Go.Proofs.YtnbcegijncdmaaaDoor.Ly19
open Go Go.RowKit Ev
set_option linter.unusedVariables false
set_option linter.unusedSimpArgs false

theorem named : Named Tryd.prog := by unfold Named; kernel_rfl
theorem mixed : Tryd.prog.follows .mixedOrders = true := by kernel_rfl
def cl : Code → Code | .seq a _ => a | .block _ b => b | .loop b => b | c => c
def cr : Code → Code | .seq _ b => b | c => c
abbrev up : List Value := [.bool true, .bool false, .bool false, .bool true]
noncomputable section
def X0 : Code := ((Tryd.prog.funcs[60]?).bind (·.body)).getD .skip
def X1 : Code := cr X0
def X2 : Code := cr X1
def X3 : Code := cr X2
def X4 : Code := cr X3
def Y : Code := cl X4
def BK : Code := cr Y
def LP : Code := cl BK
def bd : Code := cl LP
def Z : Code := cr X4
end
theorem e0 : X0 = .seq (cl X0) X1 := by kernel_rfl
theorem e1 : X1 = .seq (cl X1) X2 := by kernel_rfl
theorem e2 : X2 = .seq (cl X2) X3 := by kernel_rfl
theorem e3 : X3 = .seq (cl X3) X4 := by kernel_rfl
theorem e4 : X4 = .seq Y Z := by kernel_rfl
theorem e5 : Y = .seq (cl Y) BK := by kernel_rfl
theorem e6 : BK = .block 0 LP := by kernel_rfl
theorem e7 : LP = .loop bd := by kernel_rfl
def BS : List Nat := [0, 1, 2, 3, 4, 5]
theorem low : ∀ b, b < 1 → b ∈ BS := fun b hb => by
  obtain rfl : b = 0 := by omega
  decide
noncomputable def L0 : LS := ⟨glH [(0, up)] .lf, 1 + ([] : List Value).length, [], 1⟩

def ts1 : Tr Value := (Tr.lf.nd (some (Value.bool false)) Tr.lf)
def Ls1 : LS := (LS.mk (Tr.lf.nd (some (Blk.mk [Value.bool true, Value.bool false, Value.bool false, Value.bool true] none)) Tr.lf) 1 [] 1)

def ts2 : Tr Value := ((Tr.lf.nd (some (Value.pointer (some (Addr.mk 1 0 none)))) (Tr.lf.nd (some (Value.pointer (some (Addr.mk 1 0 none)))) Tr.lf)).nd (some (Value.bool false)) Tr.lf)
def Ls2 : LS := (LS.mk ((Tr.lf.nd (some (Blk.mk [Value.bool true, Value.int IntKind.i64 (Int.ofNat 0), Value.int IntKind.i64 (Int.ofNat 0)] none)) Tr.lf).nd (some (Blk.mk [Value.bool true, Value.bool false, Value.bool false, Value.bool true] none)) Tr.lf) 2 [] 1)

def ts3 : Tr Value := ((Tr.lf.nd (some (Value.pointer (some (Addr.mk 1 0 none)))) (Tr.lf.nd (some (Value.pointer (some (Addr.mk 1 0 none)))) Tr.lf)).nd (some (Value.bool false)) (Tr.lf.nd (some (Value.pointer (some (Addr.mk 3 0 none)))) (Tr.lf.nd (some (Value.agg (Array.mk [Value.int IntKind.i64 (Int.ofNat 0), Value.int IntKind.i64 (Int.ofNat 0), Value.int IntKind.i64 (Int.ofNat 360), Value.int IntKind.i64 (Int.ofNat 1), Value.int IntKind.i64 (Int.ofNat 0), Value.int IntKind.i64 (Int.ofNat 1), Value.int IntKind.i64 (Int.negSucc 0), Value.bool false]))) Tr.lf)))
def Ls3 : LS := (LS.mk (((Tr.lf.nd (some (Blk.mk [Value.int IntKind.i64 (Int.ofNat 0), Value.int IntKind.i64 (Int.ofNat 0), Value.int IntKind.i64 (Int.ofNat 360), Value.int IntKind.i64 (Int.ofNat 1), Value.int IntKind.i64 (Int.ofNat 0), Value.int IntKind.i64 (Int.ofNat 1), Value.int IntKind.i64 (Int.negSucc 0), Value.bool false] none)) Tr.lf).nd (some (Blk.mk [Value.bool true, Value.int IntKind.i64 (Int.ofNat 0), Value.int IntKind.i64 (Int.ofNat 0)] none)) Tr.lf).nd (some (Blk.mk [Value.bool true, Value.bool false, Value.bool false, Value.bool true] none)) (Tr.lf.nd (some (Blk.mk [Value.int IntKind.i64 (Int.ofNat 0), Value.int IntKind.i64 (Int.ofNat 0), Value.int IntKind.i64 (Int.ofNat 360), Value.int IntKind.i64 (Int.ofNat 1), Value.int IntKind.i64 (Int.ofNat 0), Value.int IntKind.i64 (Int.ofNat 1), Value.int IntKind.i64 (Int.negSucc 0), Value.bool false] none)) Tr.lf)) 4 [] 1)

def ts4 : Tr Value := ((((Tr.lf.nd (some (Value.slice (some (Addr.mk 4 0 none)) 1 1)) Tr.lf).nd (some (Value.pointer (some (Addr.mk 5 0 none)))) Tr.lf).nd (some (Value.pointer (some (Addr.mk 1 0 none)))) (Tr.lf.nd (some (Value.pointer (some (Addr.mk 1 0 none)))) Tr.lf)).nd (some (Value.bool false)) (((Tr.lf.nd (some (Value.agg (Array.mk [Value.bool true, Value.int IntKind.i64 (Int.ofNat 0), Value.slice (some (Addr.mk 4 0 none)) 1 1, Value.bool false]))) Tr.lf).nd none Tr.lf).nd (some (Value.pointer (some (Addr.mk 3 0 none)))) (Tr.lf.nd (some (Value.agg (Array.mk [Value.int IntKind.i64 (Int.ofNat 0), Value.int IntKind.i64 (Int.ofNat 0), Value.int IntKind.i64 (Int.ofNat 360), Value.int IntKind.i64 (Int.ofNat 1), Value.int IntKind.i64 (Int.ofNat 0), Value.int IntKind.i64 (Int.ofNat 1), Value.int IntKind.i64 (Int.negSucc 0), Value.bool false]))) Tr.lf)))
def Ls4 : LS := (LS.mk (((Tr.lf.nd (some (Blk.mk [Value.int IntKind.i64 (Int.ofNat 0), Value.int IntKind.i64 (Int.ofNat 0), Value.int IntKind.i64 (Int.ofNat 360), Value.int IntKind.i64 (Int.ofNat 1), Value.int IntKind.i64 (Int.ofNat 0), Value.int IntKind.i64 (Int.ofNat 1), Value.int IntKind.i64 (Int.negSucc 0), Value.bool false] none)) Tr.lf).nd (some (Blk.mk [Value.bool true, Value.int IntKind.i64 (Int.ofNat 0), Value.int IntKind.i64 (Int.ofNat 0)] none)) (Tr.lf.nd (some (Blk.mk [Value.bool true, Value.int IntKind.i64 (Int.ofNat 0), Value.slice (some (Addr.mk 4 0 none)) 1 1, Value.bool false] none)) Tr.lf)).nd (some (Blk.mk [Value.bool true, Value.bool false, Value.bool false, Value.bool true] none)) ((Tr.lf.nd (some (Blk.mk [Value.int IntKind.u8 (Int.ofNat 5)] none)) Tr.lf).nd (some (Blk.mk [Value.int IntKind.i64 (Int.ofNat 0), Value.int IntKind.i64 (Int.ofNat 0), Value.int IntKind.i64 (Int.ofNat 360), Value.int IntKind.i64 (Int.ofNat 1), Value.int IntKind.i64 (Int.ofNat 0), Value.int IntKind.i64 (Int.ofNat 1), Value.int IntKind.i64 (Int.negSucc 0), Value.bool false] none)) Tr.lf)) 6 [] 1)

def ts5 : Tr Value := ((((Tr.lf.nd (some (Value.slice (some (Addr.mk 4 0 none)) 1 1)) Tr.lf).nd (some (Value.pointer (some (Addr.mk 5 0 none)))) Tr.lf).nd (some (Value.pointer (some (Addr.mk 1 0 none)))) (Tr.lf.nd (some (Value.pointer (some (Addr.mk 1 0 none)))) Tr.lf)).nd (some (Value.bool false)) (((Tr.lf.nd (some (Value.agg (Array.mk [Value.bool true, Value.int IntKind.i64 (Int.ofNat 0), Value.slice (some (Addr.mk 4 0 none)) 1 1, Value.bool false]))) Tr.lf).nd (some (Value.int IntKind.i64 (Int.ofNat 0))) Tr.lf).nd (some (Value.pointer (some (Addr.mk 3 0 none)))) (Tr.lf.nd (some (Value.agg (Array.mk [Value.int IntKind.i64 (Int.ofNat 0), Value.int IntKind.i64 (Int.ofNat 0), Value.int IntKind.i64 (Int.ofNat 360), Value.int IntKind.i64 (Int.ofNat 1), Value.int IntKind.i64 (Int.ofNat 0), Value.int IntKind.i64 (Int.ofNat 1), Value.int IntKind.i64 (Int.negSucc 0), Value.bool false]))) Tr.lf)))
def Ls5 : LS := (LS.mk (((Tr.lf.nd (some (Blk.mk [Value.int IntKind.i64 (Int.ofNat 0), Value.int IntKind.i64 (Int.ofNat 0), Value.int IntKind.i64 (Int.ofNat 360), Value.int IntKind.i64 (Int.ofNat 1), Value.int IntKind.i64 (Int.ofNat 0), Value.int IntKind.i64 (Int.ofNat 1), Value.int IntKind.i64 (Int.negSucc 0), Value.bool false] none)) Tr.lf).nd (some (Blk.mk [Value.bool true, Value.int IntKind.i64 (Int.ofNat 0), Value.int IntKind.i64 (Int.ofNat 0)] none)) (Tr.lf.nd (some (Blk.mk [Value.bool true, Value.int IntKind.i64 (Int.ofNat 0), Value.slice (some (Addr.mk 4 0 none)) 1 1, Value.bool false] none)) Tr.lf)).nd (some (Blk.mk [Value.bool true, Value.bool false, Value.bool false, Value.bool true] none)) ((Tr.lf.nd (some (Blk.mk [Value.int IntKind.u8 (Int.ofNat 5)] none)) Tr.lf).nd (some (Blk.mk [Value.int IntKind.i64 (Int.ofNat 0), Value.int IntKind.i64 (Int.ofNat 0), Value.int IntKind.i64 (Int.ofNat 360), Value.int IntKind.i64 (Int.ofNat 1), Value.int IntKind.i64 (Int.ofNat 0), Value.int IntKind.i64 (Int.ofNat 1), Value.int IntKind.i64 (Int.negSucc 0), Value.bool false] none)) Tr.lf)) 6 [] 1)

def tl1 : Tr Value := (((((Tr.lf.nd (some (Value.pointer (some (Addr.mk 1 0 none)))) Tr.lf).nd (some (Value.slice (some (Addr.mk 4 0 none)) 1 1)) Tr.lf).nd (some (Value.pointer (some (Addr.mk 5 0 none)))) ((Tr.lf.nd (some (Value.tuple (Array.mk []))) Tr.lf).nd (some (Value.int IntKind.i64 (Int.ofNat 360))) Tr.lf)).nd (some (Value.pointer (some (Addr.mk 1 0 none)))) (((Tr.lf.nd (some (Value.agg (Array.mk [Value.bool true, Value.int IntKind.i64 (Int.ofNat 0), Value.slice (some (Addr.mk 4 0 none)) 1 1, Value.bool false]))) Tr.lf).nd (some (Value.int IntKind.i64 (Int.ofNat 104))) Tr.lf).nd (some (Value.pointer (some (Addr.mk 1 0 none)))) (Tr.lf.nd (some (Value.int IntKind.i64 (Int.ofNat 104))) Tr.lf))).nd (some (Value.bool false)) ((((Tr.lf.nd (some (Value.agg (Array.mk [Value.int IntKind.i64 (Int.ofNat 0), Value.int IntKind.i64 (Int.ofNat 0), Value.int IntKind.i64 (Int.ofNat 360), Value.int IntKind.i64 (Int.ofNat 1), Value.int IntKind.i64 (Int.ofNat 0), Value.int IntKind.i64 (Int.ofNat 1), Value.int IntKind.i64 (Int.negSucc 0), Value.bool false]))) Tr.lf).nd (some (Value.agg (Array.mk [Value.bool true, Value.int IntKind.i64 (Int.ofNat 0), Value.slice (some (Addr.mk 4 0 none)) 1 1, Value.bool false]))) Tr.lf).nd (some (Value.int IntKind.i64 (Int.ofNat 105))) (Tr.lf.nd (some (Value.bool true)) Tr.lf)).nd (some (Value.pointer (some (Addr.mk 3 0 none)))) (((Tr.lf.nd (some (Value.int IntKind.i64 (Int.ofNat 104))) Tr.lf).nd (some (Value.pointer (some (Addr.mk 3 2 none)))) Tr.lf).nd (some (Value.agg (Array.mk [Value.int IntKind.i64 (Int.ofNat 0), Value.int IntKind.i64 (Int.ofNat 0), Value.int IntKind.i64 (Int.ofNat 360), Value.int IntKind.i64 (Int.ofNat 1), Value.int IntKind.i64 (Int.ofNat 0), Value.int IntKind.i64 (Int.ofNat 1), Value.int IntKind.i64 (Int.negSucc 0), Value.bool false]))) (Tr.lf.nd (some (Value.int IntKind.i64 (Int.ofNat 105))) Tr.lf))))
def Ll1 : LS := (LS.mk (((Tr.lf.nd (some (Blk.mk [Value.int IntKind.i64 (Int.ofNat 0), Value.int IntKind.i64 (Int.ofNat 0), Value.int IntKind.i64 (Int.ofNat 360), Value.int IntKind.i64 (Int.ofNat 1), Value.int IntKind.i64 (Int.ofNat 0), Value.int IntKind.i64 (Int.ofNat 1), Value.int IntKind.i64 (Int.negSucc 0), Value.bool false] none)) Tr.lf).nd (some (Blk.mk [Value.bool true, Value.int IntKind.i64 (Int.ofNat 6), Value.int IntKind.i64 (Int.ofNat 6)] none)) (Tr.lf.nd (some (Blk.mk [Value.bool true, Value.int IntKind.i64 (Int.ofNat 0), Value.slice (some (Addr.mk 4 0 none)) 1 1, Value.bool false] none)) Tr.lf)).nd (some (Blk.mk [Value.bool true, Value.bool false, Value.bool false, Value.bool true] none)) ((Tr.lf.nd (some (Blk.mk [Value.int IntKind.u8 (Int.ofNat 5)] none)) Tr.lf).nd (some (Blk.mk [Value.int IntKind.i64 (Int.ofNat 0), Value.int IntKind.i64 (Int.ofNat 0), Value.int IntKind.i64 (Int.ofNat 360), Value.int IntKind.i64 (Int.ofNat 1), Value.int IntKind.i64 (Int.ofNat 0), Value.int IntKind.i64 (Int.ofNat 1), Value.int IntKind.i64 (Int.negSucc 0), Value.bool false] none)) Tr.lf)) 2413 [] 1)

def tl2 : Tr Value := (((((Tr.lf.nd (some (Value.pointer (some (Addr.mk 1 0 none)))) Tr.lf).nd (some (Value.slice (some (Addr.mk 4 0 none)) 1 1)) Tr.lf).nd (some (Value.pointer (some (Addr.mk 5 0 none)))) ((Tr.lf.nd (some (Value.tuple (Array.mk []))) Tr.lf).nd (some (Value.int IntKind.i64 (Int.ofNat 360))) Tr.lf)).nd (some (Value.pointer (some (Addr.mk 1 0 none)))) (((Tr.lf.nd (some (Value.agg (Array.mk [Value.bool true, Value.int IntKind.i64 (Int.ofNat 0), Value.slice (some (Addr.mk 4 0 none)) 1 1, Value.bool false]))) Tr.lf).nd (some (Value.int IntKind.i64 (Int.ofNat 209))) Tr.lf).nd (some (Value.pointer (some (Addr.mk 1 0 none)))) (Tr.lf.nd (some (Value.int IntKind.i64 (Int.ofNat 209))) Tr.lf))).nd (some (Value.bool false)) ((((Tr.lf.nd (some (Value.agg (Array.mk [Value.int IntKind.i64 (Int.ofNat 0), Value.int IntKind.i64 (Int.ofNat 0), Value.int IntKind.i64 (Int.ofNat 360), Value.int IntKind.i64 (Int.ofNat 1), Value.int IntKind.i64 (Int.ofNat 0), Value.int IntKind.i64 (Int.ofNat 1), Value.int IntKind.i64 (Int.negSucc 0), Value.bool false]))) Tr.lf).nd (some (Value.agg (Array.mk [Value.bool true, Value.int IntKind.i64 (Int.ofNat 0), Value.slice (some (Addr.mk 4 0 none)) 1 1, Value.bool false]))) Tr.lf).nd (some (Value.int IntKind.i64 (Int.ofNat 210))) (Tr.lf.nd (some (Value.bool true)) Tr.lf)).nd (some (Value.pointer (some (Addr.mk 3 0 none)))) (((Tr.lf.nd (some (Value.int IntKind.i64 (Int.ofNat 209))) Tr.lf).nd (some (Value.pointer (some (Addr.mk 3 2 none)))) Tr.lf).nd (some (Value.agg (Array.mk [Value.int IntKind.i64 (Int.ofNat 0), Value.int IntKind.i64 (Int.ofNat 0), Value.int IntKind.i64 (Int.ofNat 360), Value.int IntKind.i64 (Int.ofNat 1), Value.int IntKind.i64 (Int.ofNat 0), Value.int IntKind.i64 (Int.ofNat 1), Value.int IntKind.i64 (Int.negSucc 0), Value.bool false]))) (Tr.lf.nd (some (Value.int IntKind.i64 (Int.ofNat 210))) Tr.lf))))
def Ll2 : LS := (LS.mk (((Tr.lf.nd (some (Blk.mk [Value.int IntKind.i64 (Int.ofNat 0), Value.int IntKind.i64 (Int.ofNat 0), Value.int IntKind.i64 (Int.ofNat 360), Value.int IntKind.i64 (Int.ofNat 1), Value.int IntKind.i64 (Int.ofNat 0), Value.int IntKind.i64 (Int.ofNat 1), Value.int IntKind.i64 (Int.negSucc 0), Value.bool false] none)) Tr.lf).nd (some (Blk.mk [Value.bool true, Value.int IntKind.i64 (Int.ofNat 16), Value.int IntKind.i64 (Int.ofNat 16)] none)) (Tr.lf.nd (some (Blk.mk [Value.bool true, Value.int IntKind.i64 (Int.ofNat 0), Value.slice (some (Addr.mk 4 0 none)) 1 1, Value.bool false] none)) Tr.lf)).nd (some (Blk.mk [Value.bool true, Value.bool false, Value.bool false, Value.bool true] none)) ((Tr.lf.nd (some (Blk.mk [Value.int IntKind.u8 (Int.ofNat 5)] none)) Tr.lf).nd (some (Blk.mk [Value.int IntKind.i64 (Int.ofNat 0), Value.int IntKind.i64 (Int.ofNat 0), Value.int IntKind.i64 (Int.ofNat 360), Value.int IntKind.i64 (Int.ofNat 1), Value.int IntKind.i64 (Int.ofNat 0), Value.int IntKind.i64 (Int.ofNat 1), Value.int IntKind.i64 (Int.negSucc 0), Value.bool false] none)) Tr.lf)) 5788 [] 1)

def tl3 : Tr Value := (((((Tr.lf.nd (some (Value.pointer (some (Addr.mk 1 0 none)))) Tr.lf).nd (some (Value.slice (some (Addr.mk 4 0 none)) 1 1)) Tr.lf).nd (some (Value.pointer (some (Addr.mk 5 0 none)))) ((Tr.lf.nd (some (Value.tuple (Array.mk []))) Tr.lf).nd (some (Value.int IntKind.i64 (Int.ofNat 360))) Tr.lf)).nd (some (Value.pointer (some (Addr.mk 1 0 none)))) (((Tr.lf.nd (some (Value.agg (Array.mk [Value.bool true, Value.int IntKind.i64 (Int.ofNat 0), Value.slice (some (Addr.mk 4 0 none)) 1 1, Value.bool false]))) Tr.lf).nd (some (Value.int IntKind.i64 (Int.ofNat 314))) Tr.lf).nd (some (Value.pointer (some (Addr.mk 1 0 none)))) (Tr.lf.nd (some (Value.int IntKind.i64 (Int.ofNat 314))) Tr.lf))).nd (some (Value.bool false)) ((((Tr.lf.nd (some (Value.agg (Array.mk [Value.int IntKind.i64 (Int.ofNat 0), Value.int IntKind.i64 (Int.ofNat 0), Value.int IntKind.i64 (Int.ofNat 360), Value.int IntKind.i64 (Int.ofNat 1), Value.int IntKind.i64 (Int.ofNat 0), Value.int IntKind.i64 (Int.ofNat 1), Value.int IntKind.i64 (Int.negSucc 0), Value.bool false]))) Tr.lf).nd (some (Value.agg (Array.mk [Value.bool true, Value.int IntKind.i64 (Int.ofNat 0), Value.slice (some (Addr.mk 4 0 none)) 1 1, Value.bool false]))) Tr.lf).nd (some (Value.int IntKind.i64 (Int.ofNat 315))) (Tr.lf.nd (some (Value.bool true)) Tr.lf)).nd (some (Value.pointer (some (Addr.mk 3 0 none)))) (((Tr.lf.nd (some (Value.int IntKind.i64 (Int.ofNat 314))) Tr.lf).nd (some (Value.pointer (some (Addr.mk 3 2 none)))) Tr.lf).nd (some (Value.agg (Array.mk [Value.int IntKind.i64 (Int.ofNat 0), Value.int IntKind.i64 (Int.ofNat 0), Value.int IntKind.i64 (Int.ofNat 360), Value.int IntKind.i64 (Int.ofNat 1), Value.int IntKind.i64 (Int.ofNat 0), Value.int IntKind.i64 (Int.ofNat 1), Value.int IntKind.i64 (Int.negSucc 0), Value.bool false]))) (Tr.lf.nd (some (Value.int IntKind.i64 (Int.ofNat 315))) Tr.lf))))
def Ll3 : LS := (LS.mk (((Tr.lf.nd (some (Blk.mk [Value.int IntKind.i64 (Int.ofNat 0), Value.int IntKind.i64 (Int.ofNat 0), Value.int IntKind.i64 (Int.ofNat 360), Value.int IntKind.i64 (Int.ofNat 1), Value.int IntKind.i64 (Int.ofNat 0), Value.int IntKind.i64 (Int.ofNat 1), Value.int IntKind.i64 (Int.negSucc 0), Value.bool false] none)) Tr.lf).nd (some (Blk.mk [Value.bool true, Value.int IntKind.i64 (Int.ofNat 16), Value.int IntKind.i64 (Int.ofNat 16)] none)) (Tr.lf.nd (some (Blk.mk [Value.bool true, Value.int IntKind.i64 (Int.ofNat 0), Value.slice (some (Addr.mk 4 0 none)) 1 1, Value.bool false] none)) Tr.lf)).nd (some (Blk.mk [Value.bool true, Value.bool false, Value.bool false, Value.bool true] none)) ((Tr.lf.nd (some (Blk.mk [Value.int IntKind.u8 (Int.ofNat 5)] none)) Tr.lf).nd (some (Blk.mk [Value.int IntKind.i64 (Int.ofNat 0), Value.int IntKind.i64 (Int.ofNat 0), Value.int IntKind.i64 (Int.ofNat 360), Value.int IntKind.i64 (Int.ofNat 1), Value.int IntKind.i64 (Int.ofNat 0), Value.int IntKind.i64 (Int.ofNat 1), Value.int IntKind.i64 (Int.negSucc 0), Value.bool false] none)) Tr.lf)) 6943 [] 1)

def td : Tr Value := (((((Tr.lf.nd (some (Value.pointer (some (Addr.mk 1 0 none)))) Tr.lf).nd (some (Value.slice (some (Addr.mk 4 0 none)) 1 1)) Tr.lf).nd (some (Value.pointer (some (Addr.mk 5 0 none)))) ((Tr.lf.nd (some (Value.tuple (Array.mk []))) Tr.lf).nd (some (Value.int IntKind.i64 (Int.ofNat 360))) Tr.lf)).nd (some (Value.pointer (some (Addr.mk 1 0 none)))) (((Tr.lf.nd (some (Value.agg (Array.mk [Value.bool true, Value.int IntKind.i64 (Int.ofNat 0), Value.slice (some (Addr.mk 4 0 none)) 1 1, Value.bool false]))) Tr.lf).nd (some (Value.int IntKind.i64 (Int.ofNat 360))) Tr.lf).nd (some (Value.pointer (some (Addr.mk 1 0 none)))) (Tr.lf.nd (some (Value.int IntKind.i64 (Int.ofNat 359))) Tr.lf))).nd (some (Value.bool false)) ((((Tr.lf.nd (some (Value.agg (Array.mk [Value.int IntKind.i64 (Int.ofNat 0), Value.int IntKind.i64 (Int.ofNat 0), Value.int IntKind.i64 (Int.ofNat 360), Value.int IntKind.i64 (Int.ofNat 1), Value.int IntKind.i64 (Int.ofNat 0), Value.int IntKind.i64 (Int.ofNat 1), Value.int IntKind.i64 (Int.negSucc 0), Value.bool false]))) Tr.lf).nd (some (Value.agg (Array.mk [Value.bool true, Value.int IntKind.i64 (Int.ofNat 0), Value.slice (some (Addr.mk 4 0 none)) 1 1, Value.bool false]))) Tr.lf).nd (some (Value.int IntKind.i64 (Int.ofNat 360))) (Tr.lf.nd (some (Value.bool false)) Tr.lf)).nd (some (Value.pointer (some (Addr.mk 3 0 none)))) (((Tr.lf.nd (some (Value.int IntKind.i64 (Int.ofNat 359))) Tr.lf).nd (some (Value.pointer (some (Addr.mk 3 2 none)))) Tr.lf).nd (some (Value.agg (Array.mk [Value.int IntKind.i64 (Int.ofNat 0), Value.int IntKind.i64 (Int.ofNat 0), Value.int IntKind.i64 (Int.ofNat 360), Value.int IntKind.i64 (Int.ofNat 1), Value.int IntKind.i64 (Int.ofNat 0), Value.int IntKind.i64 (Int.ofNat 1), Value.int IntKind.i64 (Int.negSucc 0), Value.bool false]))) (Tr.lf.nd (some (Value.int IntKind.i64 (Int.ofNat 360))) Tr.lf))))
def Ld : LS := (LS.mk (((Tr.lf.nd (some (Blk.mk [Value.int IntKind.i64 (Int.ofNat 0), Value.int IntKind.i64 (Int.ofNat 0), Value.int IntKind.i64 (Int.ofNat 360), Value.int IntKind.i64 (Int.ofNat 1), Value.int IntKind.i64 (Int.ofNat 0), Value.int IntKind.i64 (Int.ofNat 1), Value.int IntKind.i64 (Int.negSucc 0), Value.bool false] none)) Tr.lf).nd (some (Blk.mk [Value.bool true, Value.int IntKind.i64 (Int.ofNat 16), Value.int IntKind.i64 (Int.ofNat 16)] none)) (Tr.lf.nd (some (Blk.mk [Value.bool true, Value.int IntKind.i64 (Int.ofNat 0), Value.slice (some (Addr.mk 4 0 none)) 1 1, Value.bool false] none)) Tr.lf)).nd (some (Blk.mk [Value.bool true, Value.bool false, Value.bool false, Value.bool true] none)) ((Tr.lf.nd (some (Blk.mk [Value.int IntKind.u8 (Int.ofNat 5)] none)) Tr.lf).nd (some (Blk.mk [Value.int IntKind.i64 (Int.ofNat 0), Value.int IntKind.i64 (Int.ofNat 0), Value.int IntKind.i64 (Int.ofNat 360), Value.int IntKind.i64 (Int.ofNat 1), Value.int IntKind.i64 (Int.ofNat 0), Value.int IntKind.i64 (Int.ofNat 1), Value.int IntKind.i64 (Int.negSucc 0), Value.bool false] none)) Tr.lf)) 7438 [] 1)

set_option maxRecDepth 1000000 in
theorem ps1 : (evR Tryd.prog 1000 1 (cl X0) .lf 32 L0).opt = some (.normal, ts1, Ls1) := by kernel_rfl

set_option maxRecDepth 1000000 in
theorem ps2 : (evR Tryd.prog 1000 1 (cl X1) ts1 32 Ls1).opt = some (.normal, ts2, Ls2) := by kernel_rfl

set_option maxRecDepth 1000000 in
theorem ps3 : (evR Tryd.prog 1000 1 (cl X2) ts2 32 Ls2).opt = some (.normal, ts3, Ls3) := by kernel_rfl

set_option maxRecDepth 1000000 in
theorem ps4 : (evR Tryd.prog 1000 1 (cl X3) ts3 32 Ls3).opt = some (.normal, ts4, Ls4) := by kernel_rfl

set_option maxRecDepth 1000000 in
theorem ps5 : (evR Tryd.prog 1000 1 (cl Y) ts4 32 Ls4).opt = some (.normal, ts5, Ls5) := by kernel_rfl

set_option maxRecDepth 1000000 in
theorem pl1 : (iterB Tryd.prog 1 bd 32 1000 105 ts5 Ls5).keep BS = .nm tl1 Ll1 := by kernel_rfl

set_option maxRecDepth 1000000 in
theorem pl2 : (iterB Tryd.prog 1 bd 32 1000 105 tl1 Ll1).keep BS = .nm tl2 Ll2 := by kernel_rfl

set_option maxRecDepth 1000000 in
theorem pl3 : (iterB Tryd.prog 1 bd 32 1000 105 tl2 Ll2).keep BS = .nm tl3 Ll3 := by kernel_rfl

set_option maxRecDepth 1000000 in
theorem pd : (evR Tryd.prog 1000 1 (.loop bd) tl3 32 Ll3).keep BS = .ex 0 td Ld := by kernel_rfl
set_option maxRecDepth 1000000 in
theorem pz : endB Tryd.prog Tryd.f60 (evR Tryd.prog 1000 1 Z td 32 Ld).opt = true := by kernel_rfl
theorem sLP : Snd Tryd.prog 1 LP 32 ts5 Ls5 (.exit 0) td Ld := by
  rw [e7]
  exact snd_loop (rnd_part named mixed low 105 _ _ pl1 (rnd_part named mixed low 105 _ _ pl2 (rnd_part named mixed low 105 _ _ pl3 (rnd_end named mixed low pd))))
theorem sBK : Snd Tryd.prog 1 BK 32 ts5 Ls5 .normal td Ld := by
  rw [e6]
  exact snd_block sLP
theorem sY : Snd Tryd.prog 1 Y 32 ts4 Ls4 .normal td Ld := by
  rw [e5]
  exact snd_seq (snd_run named mixed ps5) sBK
theorem sX : ∃ t' L', Snd Tryd.prog 1 X0 32 .lf L0 .ret t' L' ∧ resL Tryd.prog Tryd.f60 t' L' = some (.bool true) := by
  obtain ⟨t', L', h1, h2⟩ := endB_ok pz
  refine ⟨t', L', ?_, h2⟩
  have s4 : Snd Tryd.prog 1 X4 32 ts4 Ls4 .ret t' L' := by rw [e4]; exact snd_seq sY (snd_run named mixed h1)
  have s3 : Snd Tryd.prog 1 X3 32 ts3 Ls3 .ret t' L' := by rw [e3]; exact snd_seq (snd_run named mixed ps4) s4
  have s2 : Snd Tryd.prog 1 X2 32 ts2 Ls2 .ret t' L' := by rw [e2]; exact snd_seq (snd_run named mixed ps3) s3
  have s1 : Snd Tryd.prog 1 X1 32 ts1 Ls1 .ret t' L' := by rw [e1]; exact snd_seq (snd_run named mixed ps2) s2
  rw [e0]
  exact snd_seq (snd_run named mixed ps1) s1
theorem body : Tryd.f60.body = some X0 := by kernel_rfl
theorem ntm : max Tryd.f60.ntmps ([] : List Value).length = 32 := by kernel_rfl
theorem glq : ([(0, up)] : List (Nat × List Value)).all (fun p => Nat.blt p.1 1 && p.2.all g1) = true := by kernel_rfl
theorem one_any (W : World) (hU : GlHas W (0, up)) : Calls Tryd.prog 60 #[] W fun e W' => e = .returned (.bool true) ∧ Below W.heap.size W W' := by
  obtain ⟨t', L', h1, h2⟩ := sX
  exact snd_calls (args := []) (args' := []) Tryd.func60 body ntm h1 h2 rfl .nil (startG (vs := []) glq (fun p hp => by rw [List.mem_singleton.1 hp]; exact hU) (fun e he => by cases he))
end Go.Proofs.YtnbcegijncdmaaaDoor.Ly19
