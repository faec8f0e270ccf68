/- The evaluator, and that what it comes to is what the program's own call comes to, in every world. -/
import Derived.Test.YtejhjpdcodloaaaEvE
import Derived.Laws.BytesString
namespace Go.Proofs.Ytejhjpdcodloaaa.Ev
noncomputable section
open Go Go.RowKit
set_option linter.unusedVariables false
set_option linter.unusedSimpArgs false

variable {L L' L'' : LS} {D D' D'' : Nat → Prop} {m m' m'' : Nat → MB} {P : Program}

/-! ### One operation -/

def fxAt (L : LS) (b : Nat) : Option (Option Nat) := match L.hp.get b with
  | some k => some k.flex
  | none => none
def fxOf (L : LS) : En := ⟨fxAt L, L.orc⟩
theorem fxOf_ok {W0 W : World} (h : WRel L D m W0 W) : FlexOK (fxOf L) D m := ⟨(fun b f hf => by
  unfold fxOf fxAt at hf
  simp only at hf
  split at hf
  · rename_i k hk; cases hf; exact (h.blk b k hk).2.2.1
  · cases hf), h.orc⟩

/-- What hangs on no memory. -/
def rdop (P : Program) (F : En) (ρ : Operand → Value) (o : Oper) : Option Value :=
  match o.op with
  | .move x => some (ρ x)
  | .assign x => some (ρ x)
  | .pick c a b => match ρ c with
    | .bool t => some (bif t then ρ a else ρ b)
    | _ => none
  | .nilCheck x => match ρ x with
    | .pointer (some ⟨b, o, none⟩) => some (.pointer (some ⟨b, o, none⟩))
    | .func (.func f) ⟨xs⟩ ⟨zs⟩ => some (.func (.func f) ⟨xs⟩ ⟨zs⟩)
    | _ => none
  | .fieldAddr s x f => fldop P s f (ρ x)
  | .indexAddr t x i => ixop P t (ρ x) (ρ i)
  | .field t x f => fdop P t f (ρ x)
  | .index t x i => match gop P ρ o with
    | some v => some v
    | none => idop P t (ρ x) (ρ i)
  | .slice t x lo hi none => match gop P ρ o with
    | some v => some v
    | none => slop P F t (ρ x) (lo.map ρ) (hi.map ρ)
  | .slice t x lo hi (some mx) => slop3 P F t (ρ x) (lo.map ρ) (hi.map ρ) (some (ρ mx))
  | .extract x i => exop (ρ x) i
  | .build t parts => blop P t (parts.toList.map fun p => (p.1, ρ p.2))
  | .makeFunc fn f c => some (.func fn ⟨f.toList.map ρ⟩ ⟨c.toList.map ρ⟩)
  | .binOp op t x y _ => match gop P ρ o with
    | some v => some v
    | none => match nlop P op t (ρ x) (ρ y) with
      | some v => some v
      | none => findBin F.orc op (ρ x) (ρ y)
  | .unOp .. => gop P ρ o
  | .convert .. => gop P ρ o
  | .call c => match c.callee, c.args, c.argTypes with
    | .builtin .len, ⟨[x]⟩, ⟨[t]⟩ => match gop P ρ o with
      | some v => some v
      | none => match lenop P t (ρ x) with
        | some v => some v
        | none => lenE P F t (ρ x)
    | .builtin .min, _, _ => gop P ρ o
    | .builtin .max, _, _ => gop P ρ o
    | _, _, _ => none
  | _ => none

theorem rdop_ok {ρ ρ' : Operand → Value} {o : Oper} (hρ : Rl D m ρ ρ' o) {F : En} (hF : FlexOK F D m) {v : Value} (h : rdop P F ρ o = some v) : RdAll P D m ρ' o v := by
  unfold rdop at h
  split at h
  · rename_i x ho
    cases h
    exact ⟨ρ' x, hρ x (by simp [ho, Op.operands]), fun w => by simp [execOp, ho]⟩
  · rename_i x ho
    cases h
    exact ⟨ρ' x, hρ x (by simp [ho, Op.operands]), fun w => by simp [execOp, ho]⟩
  · rename_i c a b ho
    split at h
    · rename_i t ht
      cases h
      have hc := bool_eq (ht ▸ hρ c (by simp [ho, Op.operands]))
      refine ⟨bif t then ρ' a else ρ' b, by cases t <;> exact hρ _ (by simp [ho, Op.operands]), fun w => ?_⟩
      cases t <;> simp [execOp, ho, hc, asBool]
    · cases h
  · rename_i x ho
    have hx' := hρ x (by simp [ho, Op.operands])
    split at h
    · rename_i b of hx
      cases h
      obtain ⟨hp, hd⟩ := ptr_eq (hx ▸ hx')
      exact ⟨_, .pt b of hd, fun w => by simp [execOp, ho, hp]⟩
    · rename_i f xs zs hx
      cases h
      obtain ⟨ys, ws, hf, h1, h2⟩ := fun_eq (hx ▸ hx')
      exact ⟨_, .fn _ _ _ _ _ h1 h2, fun w => by simp [execOp, ho, hf]⟩
    · cases h
  · rename_i s x f ho; exact fldop_ok hρ ho h
  · rename_i t x i ho; exact ixop_ok hρ ho h
  · rename_i t x f ho; exact fdop_ok hρ ho h
  · rename_i t x i ho
    split at h
    · rename_i u hu; cases h; exact gop_ok hρ (fun cs b e => by rw [ho] at e; cases e) hu
    · exact idop_ok hρ ho h
  · rename_i t x lo hi ho
    split at h
    · rename_i u hu; cases h; exact gop_ok hρ (fun cs b e => by rw [ho] at e; cases e) hu
    · exact slop_ok hρ hF ho h
  · rename_i t x lo hi mx ho; exact slop3_ok hρ hF (mx := some mx) ho h
  · rename_i x i ho; exact exop_ok hρ ho h
  · rename_i t parts ho; exact blop_ok hρ ho h
  · rename_i fn f c ho; cases h; exact mfop_ok hρ ho
  · rename_i op t x y yt ho
    split at h
    · rename_i u hu; cases h; exact gop_ok hρ (fun cs b e => by rw [ho] at e; cases e) hu
    · split at h
      · rename_i u hu; cases h; exact nlop_ok hρ ho hu
      · exact binE_ok hρ hF ho h
  · rename_i ho; exact gop_ok hρ (fun cs b e => by rw [ho] at e; cases e) h
  · rename_i ho; exact gop_ok hρ (fun cs b e => by rw [ho] at e; cases e) h
  · rename_i c ho
    have hs : ∀ cs b, o.op ≠ .select cs b := fun cs b e => by rw [ho] at e; cases e
    split at h
    · rename_i x t h1 h2 h3
      split at h
      · rename_i u hu
        cases h
        exact gop_ok hρ hs hu
      · have hc : o.op = .call { callee := .builtin .len, args := #[x], argTypes := #[t] } := by
          rw [ho]
          cases c
          simp only at h1 h2 h3
          subst h1 h2 h3
          rfl
        split at h
        · rename_i u hu; cases h; exact lenop_ok hρ hc hu
        · exact lenE_ok hρ hF hc h
    · exact gop_ok hρ hs h
    · exact gop_ok hρ hs h
    · cases h
  · cases h

/-- A row of bytes, as a string. -/
def byteOf : Value → Option Int
  | .int .u8 n => some n
  | _ => none
def bytesOf : List Value → Option (List Int)
  | [] => some []
  | v :: vs => match byteOf v with
    | some n => match bytesOf vs with
      | some ns => some (n :: ns)
      | none => none
    | none => none
theorem bytesOf_eq : ∀ {vs : List Value} {ns : List Int}, bytesOf vs = some ns → vs = ns.map (Value.int .u8)
  | [], ns, h => by simp only [bytesOf, Option.some.injEq] at h; subst h; rfl
  | v :: vs, ns, h => by
    simp only [bytesOf] at h
    split at h <;> try (cases h; done)
    rename_i n hn
    split at h <;> try (cases h; done)
    rename_i ms hm
    cases h
    rw [bytesOf_eq hm, List.map_cons]
    congr 1
    unfold byteOf at hn
    split at hn <;> try (cases hn; done)
    cases hn
    rfl
theorem bytes_same {ns : List Int} {ys : List Value} (h : VRels D m (ns.map (Value.int .u8)) ys) : ys = ns.map (Value.int .u8) := g1s_eq h (by simp [g1])
def strOf (ns : List Int) : ByteArray := ns.foldl (fun r n => r.push (UInt8.ofNat n.toNat)) ByteArray.empty
def cvop (P : Program) (L : LS) (src dst : TypeId) (x : Value) : Option Value :=
  match x, P.underlying src, P.underlying dst with
  | .slice (some ⟨b, o, none⟩) n _, some (.slice e), some .string => match L.hp.get b, P.underlying e with
    | some k, some (.int .u8) => match rowOf k o n with
      | some cs => match bytesOf cs with
        | some ns => some (.string (strOf ns))
        | none => none
      | none => none
    | _, _ => none
  | _, _, _ => none
theorem cvop_ok {ρ ρ' : Operand → Value} {o : Oper} (hρ : Rl D m ρ ρ' o) {W0 W : World} (hW : WRel L D m W0 W) {src dst : TypeId} {x : Operand} {v : Value} (ho : o.op = .convert src dst x) (h : cvop P L src dst (ρ x) = some v) : ∃ v', VRel D m v v' ∧ (execOp ρ' o).run P W = .ok (.value v') W := by
  unfold cvop at h
  split at h <;> try (cases h; done)
  rename_i b of n c e hx hs hd
  split at h <;> try (cases h; done)
  rename_i k hk he
  split at h <;> try (cases h; done)
  rename_i cs hcs
  split at h <;> try (cases h; done)
  rename_i ns hns
  cases h
  obtain ⟨c', hp, _⟩ := slc_eq (hx ▸ hρ x (by simp [ho, Op.operands]))
  obtain ⟨hl, ys, hyl, hyr, hyc⟩ := rowOf_ok hW hk hcs
  rw [bytesOf_eq hns] at hyr
  have hy := bytes_same hyr
  have hld := run_loadCells_list (P := P) W ⟨(m b).blk, of, none⟩ ys hyc
  rw [hyl, hy] at hld
  refine ⟨.string (strOf ns), .gr _ rfl, ?_⟩
  simp only [execOp, ho, hp, Sem.run_bind, run_convert_bytes_string W src dst e _ n c' hs he hd, run_bytesToString W _ n c' ns hld, Result.andThen_ok]
  rfl

/-- What reads memory. -/
def ldo (P : Program) (L : LS) (ρ : Operand → Value) (o : Oper) : Option Value :=
  match o.op with
  | .load ty x => ldop P L ty (ρ x)
  | .convert s d x => cvop P L s d (ρ x)
  | _ => none
theorem ldo_ok {ρ ρ' : Operand → Value} {o : Oper} (hρ : Rl D m ρ ρ' o) {W0 W : World} (hW : WRel L D m W0 W) {v : Value} (h : ldo P L ρ o = some v) : ∃ v', VRel D m v v' ∧ (execOp ρ' o).run P W = .ok (.value v') W := by
  unfold ldo at h
  split at h
  · rename_i ty x ho; exact ldop_ok hρ hW ho h
  · rename_i s d x ho; exact cvop_ok hρ hW ho h
  · cases h
theorem ldo_more {ρ : Operand → Value} {o : Oper} {v : Value} (hL : ∀ b k, L.hp.get b = some k → L'.hp.get b = some k) (h : ldo P L ρ o = some v) : ldo P L' ρ o = some v := by
  unfold ldo at h ⊢
  split at h
  · unfold ldop at h ⊢
    split at h <;> try (cases h; done)
    split at h <;> try (cases h; done)
    rename_i hk
    rw [hL _ _ hk]
    exact h
  · unfold cvop at h ⊢
    split at h <;> try (cases h; done)
    split at h <;> try (cases h; done)
    rename_i hk he
    rw [hL _ _ hk, he]
    exact h
  · cases h

/-- What writes memory that is there. -/
def wrop (P : Program) (ro : Nat) (ρ : Operand → Value) (L : LS) (o : Oper) : Option (Value × LS) :=
  match o.op with
  | .store t a x => match stop P ro L t (ρ a) (ρ x) with
    | some L1 => some (.tuple #[], L1)
    | none => none
  | .call c => match c.callee, c.args, c.argTypes with
    | .builtin .append, ⟨[s, x]⟩, ⟨[t, t']⟩ => bif Nat.beq t t' then apop P ro L t (ρ s) (ρ x) else none
    | .builtin .copy, ⟨[d, s]⟩, ⟨[dt, _]⟩ => cpop P ro L dt (ρ d) (ρ s)
    | _, _, _ => none
  | _ => none
theorem wrop_ok {ρ ρ' : Operand → Value} {o : Oper} (hρ : Rl D m ρ ρ' o) {W0 W : World} (hW : WRel L D m W0 W) {ro : Nat} {v : Value} {L1 : LS} (h : wrop P ro ρ L o = some (v, L1)) : EfOK P L D m W0 W ro ρ' o v L1 := by
  unfold wrop at h
  split at h
  · rename_i t a x ho
    split at h
    · rename_i L2 hL; cases h; exact stop_ok hρ hW ho hL
    · cases h
  · rename_i c ho
    split at h
    · rename_i s x t t' h1 h2 h3
      cases hb : Nat.beq t t' with
      | false => rw [hb, cond_false] at h; cases h
      | true =>
        rw [hb, cond_true] at h
        obtain rfl := Nat.eq_of_beq_eq_true hb
        refine apop_ok hρ hW ?_ h
        rw [ho]
        cases c
        simp only at h1 h2 h3
        subst h1 h2 h3
        rfl
    · rename_i d s dt st h1 h2 h3
      refine cpop_ok (st := st) hρ hW ?_ h
      rw [ho]
      cases c
      simp only at h1 h2 h3
      subst h1 h2 h3
      rfl
    · cases h
  · cases h

def clop (ρ : Operand → Value) (o : Oper) : Option (FuncId × List Value) :=
  match o.op with
  | .call c => match c.callee with
    | .value f => match ρ f with
      | .func (.func g) ⟨xs⟩ ⟨zs⟩ => some (g, xs ++ c.args.toList.map ρ ++ zs)
      | _ => none
    | _ => none
  | _ => none
/-- No function bears the one name that the model takes for its own. -/
def Named (P : Program) : Prop := (P.funcs.toList.all fun f => !(f.name == "runtime.NumGoroutine")) = true
theorem clop_ok (hN : Named P) {ρ ρ' : Operand → Value} {o : Oper} (hρ : Rl D m ρ ρ' o) {g : FuncId} {args : List Value} {fn : Func} {c : Code} (hf : P.funcs[g]? = some fn) (hb : fn.body = some c) (h : clop ρ o = some (g, args)) :
    ∃ args', VRels D m args args' ∧ ∀ w : World, (execOp ρ' o).run P w = .ok (.enter g ⟨args'⟩) w := by
  unfold clop at h
  split at h <;> try (cases h; done)
  rename_i c' ho
  split at h <;> try (cases h; done)
  rename_i f hc
  split at h <;> try (cases h; done)
  rename_i g' xs zs hx
  cases h
  obtain ⟨ys, ws, he, h1, h2⟩ := fun_eq (hx ▸ hρ f (by simp [ho, Op.operands, Call.operands, hc]))
  refine ⟨ys ++ c'.args.toList.map ρ' ++ ws, (h1.append (VRels.map _ fun x hx' => hρ x (by simp only [ho, Op.operands, Call.operands, hc]; simp at hx' ⊢; exact .inr hx'))).append h2, fun w => ?_⟩
  have hm : fn ∈ P.funcs.toList := by
    have := Array.mem_of_getElem? hf
    simpa using this
  have hnm : ¬ (fn.name = "runtime.NumGoroutine") := by
    have := List.all_eq_true.1 hN fn hm
    simpa using this
  have e : (⟨ys⟩ : Array Value) ++ c'.args.map ρ' ++ ⟨ws⟩ = ⟨ys ++ c'.args.toList.map ρ' ++ ws⟩ := by
    apply Array.ext'
    simp
  simp only [execOp, ho, resolve, hc, he, Deferred.ofValue, Sem.run_bind, Sem.run_pure, Result.andThen_ok, invoke, callFunc]
  simp [hf, hnm, hb, e]

/-! ### Frames -/

def argsT : List Value → Nat → Tr Value → Tr Value
  | [], _, t => t
  | v :: vs, i, t => argsT vs (i + 1) (t.set i (some v))
theorem argsT_get : ∀ (vs : List Value) (i : Nat) (t : Tr Value) (j : Nat) (u : Value), (argsT vs i t).get j = some u → (∃ k, j = i + k ∧ vs[k]? = some u) ∨ t.get j = some u
  | [], i, t, j, u, h => .inr h
  | v :: vs, i, t, j, u, h => by
    rcases argsT_get vs (i + 1) _ j u h with ⟨k, e, hk⟩ | h1
    · exact .inl ⟨k + 1, by omega, by simpa using hk⟩
    · rw [Tr.get_set] at h1
      split at h1
      · rename_i e; exact .inl ⟨0, by omega, by simpa using h1⟩
      · exact .inr h1
theorem frame0 {args args' : List Value} (h : VRels D m args args') (n : Nat) :
    FRel D m (max n args.length) (argsT args 0 .lf) { tmps := ⟨args'⟩ ++ Array.replicate (n - (⟨args'⟩ : Array Value).size) undef, defers := [] } := by
  have hl := h.length
  refine ⟨by simp; omega, rfl, fun i v hv => ?_⟩
  rcases argsT_get args 0 .lf i v hv with ⟨k, e, hk⟩ | h1
  · obtain rfl : i = k := by omega
    obtain ⟨v', e1, e2⟩ := h.at i v hk
    have hi : i < args'.length := (List.getElem?_eq_some_iff.1 e1).1
    have : (⟨args'⟩ ++ Array.replicate (n - (⟨args'⟩ : Array Value).size) undef : Array Value)[i]? = some v' := by
      rw [Array.getElem?_append_left (by simpa using hi)]; simpa using e1
    rw [Array.getD_eq_getD_getElem?, this]
    exact e2
  · simp [Tr.get_lf] at h1

/-- The same value, worked out. -/
def forceV {α : Type} (v : Value) (k : Value → α) : α := match v with
  | .int kd (.ofNat n) => forceN n fun n => k (.int kd (.ofNat n))
  | .int kd (.negSucc n) => forceN n fun n => k (.int kd (.negSucc n))
  | .bool true => k (.bool true)
  | .bool false => k (.bool false)
  | v => k v
theorem forceV_eq {α : Type} (v : Value) (k : Value → α) : forceV v k = k v := by
  unfold forceV
  split <;> first | rfl | exact forceN_eq _ _
def putL (nt : Nat) (t : Tr Value) (dst : Option Tmp) (v : Value) : Option (Tr Value) :=
  match dst with
  | none => some t
  | some d => bif Nat.blt d nt then forceV v (fun v => some (t.set d (some v))) else none
theorem putL_ok {nt : Nat} {t t' : Tr Value} {a : Act} {dst : Option Tmp} {v v' : Value} (h : FRel D m nt t a) (hv : VRel D m v v') (hp : putL nt t dst v = some t') : FRel D m nt t' (a.put dst v') := by
  unfold putL at hp
  split at hp
  · cases hp; exact h
  · rename_i d
    cases hb : Nat.blt d nt with
    | false => rw [hb, cond_false] at hp; cases hp
    | true => rw [hb, cond_true, forceV_eq] at hp; cases hp; exact h.put (by simpa [Nat.blt_eq] using hb) hv

/-! ### The commonest operations, on a short road -/

inductive FK where
  | mv (x : Operand)
  | pk (c a b : Operand)
  | fa (s : TypeId) (f : Nat) (x : Operand)
  | ex (x : Operand) (i : Nat)
  | cm (op : BinOp) (x y : Operand)
  | ot
def fkind (o : Oper) : FK := match o.op with
  | .move x => .mv x
  | .assign x => .mv x
  | .pick c a b => .pk c a b
  | .fieldAddr s x f => .fa s f x
  | .extract x i => .ex x i
  | .binOp op _ x y _ => .cm op x y
  | _ => .ot
def ieq : Int → Int → Bool
  | .ofNat a, .ofNat b => Nat.beq a b
  | .negSucc a, .negSucc b => Nat.beq a b
  | _, _ => false
def ilt : Int → Int → Bool
  | .ofNat a, .ofNat b => Nat.blt a b
  | .negSucc a, .negSucc b => Nat.blt b a
  | .negSucc _, .ofNat _ => true
  | .ofNat _, .negSucc _ => false
theorem ieq_eq (a b : Int) : ieq a b = (a == b) := by
  cases a <;> cases b <;> simp only [ieq] <;> rw [Bool.eq_iff_iff] <;> simp <;> omega
theorem ilt_eq (a b : Int) : ilt a b = decide (a < b) := by
  cases a <;> cases b <;> simp only [ilt] <;> rw [Bool.eq_iff_iff] <;> simp [Nat.blt_eq] <;> omega
def cmZ (op : BinOp) (k : IntKind) (a b : Int) : Option Value := match op with
  | .eql => some (.bool (ieq a b))
  | .neq => some (.bool (!ieq a b))
  | .lss => some (.bool (ilt a b))
  | .leq => some (.bool (!ilt b a))
  | .gtr => some (.bool (ilt b a))
  | .geq => some (.bool (!ilt a b))
  | .add => some (.int k (k.wrap (a + b)))
  | .sub => some (.int k (k.wrap (a - b)))
  | _ => none
def fast (P : Program) (ρ : Operand → Value) : FK → Option Value
  | .mv x => some (ρ x)
  | .pk c a b => match ρ c with
    | .bool t => some (bif t then ρ a else ρ b)
    | _ => none
  | .fa s f x => fldop P s f (ρ x)
  | .ex x i => exop (ρ x) i
  | .cm op x y => match ρ x, ρ y with
    | .int k a, .int k' b => bif decide (k = k') then cmZ op k a b else none
    | _, _ => none
  | .ot => none
theorem fast_ok {ρ ρ' : Operand → Value} {o : Oper} (hρ : Rl D m ρ ρ' o) {v : Value} (h : fast P ρ (fkind o) = some v) : RdAll P D m ρ' o v := by
  unfold fkind at h
  split at h <;> simp only [fast] at h
  · rename_i x ho
    cases h
    exact ⟨ρ' x, hρ x (by simp [ho, Op.operands]), fun w => by simp [execOp, ho]⟩
  · rename_i x ho
    cases h
    exact ⟨ρ' x, hρ x (by simp [ho, Op.operands]), fun w => by simp [execOp, ho]⟩
  · rename_i c a b ho
    split at h
    · rename_i t ht
      cases h
      have hc := bool_eq (ht ▸ hρ c (by simp [ho, Op.operands]))
      refine ⟨bif t then ρ' a else ρ' b, by cases t <;> exact hρ _ (by simp [ho, Op.operands]), fun w => ?_⟩
      cases t <;> simp [execOp, ho, hc, asBool]
    · cases h
  · rename_i s x f ho; exact fldop_ok hρ ho h
  · rename_i x i ho; exact exop_ok hρ ho h
  · rename_i op t x y yt ho
    split at h <;> try (cases h; done)
    rename_i k a k' b hx hy
    cases hk : decide (k = k') with
    | false => rw [hk, cond_false] at h; cases h
    | true =>
      rw [hk, cond_true] at h
      obtain rfl := of_decide_eq_true hk
      have ex := int_eq (hx ▸ hρ x (by simp [ho, Op.operands]))
      have ey := int_eq (hy ▸ hρ y (by simp [ho, Op.operands]))
      have hg : ∀ w, (eqGuard op t x y (Value.int k a) (.int k b)).run P w = .ok () w := fun w => by unfold eqGuard; cases op <;> simp
      cases op <;> simp only [cmZ] at h <;> cases h <;> refine ⟨_, .gr _ rfl, fun w => ?_⟩ <;> simp only [execOp, ho, ex, ey, Sem.run_bind, hg, Result.andThen_ok] <;> simp [binOp, Op.intCmp, Op.intArith, ieq_eq, ilt_eq]
      · rfl
      · rw [← decide_not, decide_eq_decide]; omega
      · rw [← decide_not, decide_eq_decide]; omega
  · cases h

def wantL (ops : Array Oper) (t : Tr Value) (o : Oper) : Option Bool :=
  match o.guard with
  | none => some true
  | some (j, b) => match ops[j]? with
    | some o' => match o'.dst with
      | some d => match t.get d with
        | some (.bool x) => some (x == b)
        | some (.chan (some 0)) => some false
        | _ => none
      | none => none
    | none => none
theorem ud_eq {v' : Value} (h : VRel D m (.chan (some 0)) v') : v' = undef := by
  cases h with
  | ud => rfl
  | gr v hg => simp [gnd, g2, g1] at hg
theorem wantL_ok {ops : Array Oper} {nt : Nat} {t : Tr Value} {a : Act} {o : Oper} {r : Bool} (h : FRel D m nt t a) (hw : wantL ops t o = some r) : Region.wanted o (yielded ops a.tmps) = r := by
  unfold wantL at hw
  unfold Region.wanted
  split at hw
  · rename_i hg; cases hw; simp [hg]
  · rename_i j b hg
    split at hw <;> try (cases hw; done)
    rename_i o' ho'
    split at hw <;> try (cases hw; done)
    rename_i d hd
    split at hw <;> try (cases hw; done)
    · rename_i x hx
      cases hw
      have e := bool_eq (h.slot d _ hx)
      have hq : a.tmps[d]? = some (.bool x) := by
        rw [Array.getD_eq_getD_getElem?] at e
        cases hq : a.tmps[d]? with
        | none => rw [hq] at e; cases e
        | some u => rw [hq] at e; simp at e; rw [e]
      simp [hg, yielded, ho', hd, hq]
    · rename_i hx
      cases hw
      have e : a.tmps.getD d undef = undef := ud_eq (h.slot d _ hx)
      have hq : yielded ops a.tmps j = none := by
        simp only [yielded, ho', Option.bind_some, hd]
        rw [Array.getD_eq_getD_getElem?] at e
        cases hq : a.tmps[d]? with
        | none => rfl
        | some u => rw [hq] at e; simp at e; rw [e]; rfl
      simp [hg, hq]

/-! ### Code -/

inductive LX where
  | normal | ret
  | exit (id : Nat)
def LX.up : LX → Exit
  | .normal => .normal
  | .ret => .ret
  | .exit id => .exit id
abbrev Evf := Nat → Code → Tr Value → Nat → LS → Option (LX × Tr Value × LS)

def resOne (P : Program) (t : Tr Value) (L : LS) : ResultVar → Option Value
  | .tmp i => some (lev 0 t (.tmp i))
  | .cell a ty => ldop P L ty (lev 0 t (.tmp a))
def resAll (P : Program) (t : Tr Value) (L : LS) : List ResultVar → Option (List Value)
  | [] => some []
  | r :: rs => match resOne P t L r with
    | some v => match resAll P t L rs with
      | some vs => some (v :: vs)
      | none => none
    | none => none
def resL (P : Program) (fn : Func) (t : Tr Value) (L : LS) : Option Value :=
  match resAll P t L fn.results.toList with
  | some [v] => some v
  | some vs => some (.tuple ⟨vs⟩)
  | none => none
theorem ldop_val {W0 W : World} (hW : WRel L D m W0 W) {t : TypeId} {x x' v : Value} (hx : VRel D m x x') (h : ldop P L t x = some v) : ∃ v', VRel D m v v' ∧ ∃ a, x' = .pointer (some a) ∧ (loadVar t a).run P W = .ok v' W := by
  unfold ldop at h
  split at h <;> try (cases h; done)
  rename_i b of
  split at h <;> try (cases h; done)
  rename_i k hk
  obtain ⟨v', hv, hr⟩ := loadVar_ok hW hk h
  exact ⟨v', hv, _, (ptr_eq hx).1, hr⟩
theorem resAll_ok {W0 W : World} (hW : WRel L D m W0 W) {nt : Nat} {t : Tr Value} {a : Act} (h : FRel D m nt t a) : ∀ {rs : List ResultVar} {vs : List Value}, resAll P t L rs = some vs →
    ∃ vs', VRels D m vs vs' ∧ ∀ F : ResultVar → Sem Value, (∀ i, F (.tmp i) = pure (a.tmps.getD i undef)) → (∀ c t, F (.cell c t) = (do loadVar t (← asAddr (a.tmps.getD c undef)))) → (rs.mapM F).run P W = .ok vs' W
  | [], vs, hr => by simp only [resAll, Option.some.injEq] at hr; subst hr; exact ⟨[], .nil, fun F _ _ => by simp⟩
  | r :: rs, vs, hr => by
    simp only [resAll] at hr
    split at hr <;> try (cases hr; done)
    rename_i v hv
    split at hr <;> try (cases hr; done)
    rename_i us hus
    cases hr
    obtain ⟨vs', h1, h2⟩ := resAll_ok hW h hus
    cases r with
    | tmp i =>
      simp only [resOne, Option.some.injEq] at hv
      subst hv
      exact ⟨_ :: vs', .cons _ _ _ _ (lev_rel (gl := 0) (fun _ h => absurd h (Nat.not_lt_zero _)) h (.tmp i)) h1, fun F f1 f2 => by
        simp only [List.mapM_cons, f1, Sem.run_bind, Sem.run_pure, Result.andThen_ok, h2 F f1 f2, Act.eval]⟩
    | cell c ty =>
      simp only [resOne] at hv
      obtain ⟨v', e1, ad, e2, e3⟩ := ldop_val hW (lev_rel (gl := 0) (fun _ h => absurd h (Nat.not_lt_zero _)) h (.tmp c)) hv
      simp only [Act.eval] at e2
      exact ⟨v' :: vs', .cons _ _ _ _ e1 h1, fun F f1 f2 => by
        simp only [List.mapM_cons, f2, Sem.run_bind, Sem.run_pure, Result.andThen_ok, h2 F f1 f2, e2, asAddr, e3]⟩
theorem resL_ok {W0 W : World} (hW : WRel L D m W0 W) {nt : Nat} {t : Tr Value} {a : Act} (h : FRel D m nt t a) {fn : Func} {v : Value} (hr : resL P fn t L = some v) : ∃ v', VRel D m v v' ∧ (results fn a.tmps).run P W = .ok v' W := by
  unfold resL at hr
  have run : ∀ vs', (∀ F : ResultVar → Sem Value, (∀ i, F (.tmp i) = pure (a.tmps.getD i undef)) → (∀ c t, F (.cell c t) = (do loadVar t (← asAddr (a.tmps.getD c undef)))) → (fn.results.toList.mapM F).run P W = .ok vs' W) →
      (results fn a.tmps).run P W = .ok (if h : vs'.length = 1 then vs'[0] else .tuple ⟨vs'⟩) W := by
    intro vs' hv
    unfold results
    simp only [Sem.run_bind, Array.mapM_eq_mapM_toList, Sem.run_map]
    rw [hv]
    · rfl
    · intro i; rfl
    · intro c t; rfl
  split at hr <;> try (cases hr; done)
  · rename_i u hu
    cases hr
    obtain ⟨vs', h1, h2⟩ := resAll_ok hW h hu
    cases h1 with
    | cons x y xs ys hx ht =>
      cases ht
      exact ⟨y, hx, by rw [run _ h2]; rfl⟩
  · rename_i us hne hu
    cases hr
    obtain ⟨vs', h1, h2⟩ := resAll_ok hW h hu
    refine ⟨.tuple ⟨vs'⟩, .tu _ _ h1, ?_⟩
    rw [run _ h2]
    have : ¬ vs'.length = 1 := by
      rw [← h1.length]
      intro e
      obtain ⟨x, hx⟩ := List.length_eq_one_iff.1 e
      exact hne x hx
    rw [dif_neg this]
end
end Go.Proofs.Ytejhjpdcodloaaa.Ev
