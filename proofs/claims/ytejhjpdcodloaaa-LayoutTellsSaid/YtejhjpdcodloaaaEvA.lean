/- A small evaluator of this proof's own, for calls that need nothing of what comes in: memory of the call's own, numbered from nought on; the relation of its values to the program's. -/
import Derived.Deep.Quiet
import Derived.LoopN
import Derived.Below
import Derived.Laws.CopyRow
import Derived.Laws.MakeOwn
import Derived.KernelRfl
namespace Go.Proofs.Ytejhjpdcodloaaa.Ev
noncomputable section
open Go Go.RowKit
set_option linter.unusedVariables false
set_option linter.unusedSimpArgs false

/-- A list by numbers, in a tree. -/
inductive Tr (α : Type) where
  | lf
  | nd (l : Tr α) (v : Option α) (r : Tr α)

/-- Where the place of a number is in a tree. -/
def pathF : Nat → Nat → List Bool
  | 0, _ => []
  | _ + 1, 0 => []
  | f + 1, k + 1 => Nat.beq (k % 2) 0 :: pathF f (k / 2)
def path (n : Nat) : List Bool := pathF (n + 1) n
noncomputable def Tr.putP {α : Type} (x : Option α) (p : List Bool) (t : Tr α) : Tr α :=
  List.rec (motive := fun _ => Tr α → Tr α)
    (fun t => Tr.rec (motive := fun _ => Tr α) (.nd .lf x .lf) (fun l _ r _ _ => .nd l x r) t)
    (fun b _ ih t => Tr.rec (motive := fun _ => Tr α) (Bool.rec (.nd .lf none (ih .lf)) (.nd (ih .lf) none .lf) b) (fun l v r _ _ => Bool.rec (.nd l v (ih r)) (.nd (ih l) v r) b) t) p t
noncomputable def Tr.getP {α : Type} (p : List Bool) (t : Tr α) : Option α :=
  List.rec (motive := fun _ => Tr α → Option α)
    (fun t => Tr.rec (motive := fun _ => Option α) none (fun _ v _ _ _ => v) t)
    (fun b _ ih t => Tr.rec (motive := fun _ => Option α) none (fun l _ r _ _ => Bool.rec (ih r) (ih l) b) t) p t
noncomputable def Tr.get {α : Type} (t : Tr α) (n : Nat) : Option α := Tr.getP (path n) t
noncomputable def Tr.set {α : Type} (t : Tr α) (n : Nat) (x : Option α) : Tr α := Tr.putP x (path n) t

theorem half_ne {k n : Nat} (h : Nat.beq (k % 2) 0 = Nat.beq (n % 2) 0) : k % 2 = n % 2 := by
  rcases Nat.mod_two_eq_zero_or_one k with e | e <;> rcases Nat.mod_two_eq_zero_or_one n with e' | e' <;> rw [e, e'] at h ⊢ <;> simp at h
theorem pathF_inj : ∀ (f g a b : Nat), a < f → b < g → pathF f a = pathF g b → a = b
  | 0, _, _, _, h, _, _ => absurd h (Nat.not_lt_zero _)
  | _ + 1, 0, _, _, _, h, _ => absurd h (Nat.not_lt_zero _)
  | f + 1, g + 1, 0, 0, _, _, _ => rfl
  | f + 1, g + 1, 0, b + 1, _, _, h => by simp [pathF] at h
  | f + 1, g + 1, a + 1, 0, _, _, h => by simp [pathF] at h
  | f + 1, g + 1, a + 1, b + 1, h1, h2, h => by
    simp only [pathF, List.cons.injEq] at h
    have e := pathF_inj f g (a / 2) (b / 2) (by omega) (by omega) h.2
    have e' := half_ne h.1
    omega
theorem Tr.getP_put {α : Type} (x : Option α) : ∀ (p q : List Bool) (t : Tr α), Tr.getP q (Tr.putP x p t) = if q = p then x else Tr.getP q t
  | [], [], .lf => rfl
  | [], [], .nd _ _ _ => rfl
  | [], b :: q, .lf => by cases b <;> cases q <;> rfl
  | [], b :: q, .nd _ _ _ => by cases b <;> rfl
  | b :: p, [], .lf => by cases b <;> rfl
  | b :: p, [], .nd _ _ _ => by cases b <;> rfl
  | true :: p, true :: q, .lf => by
    have := Tr.getP_put x p q .lf
    show Tr.getP q (Tr.putP x p .lf) = _
    rw [this]
    have e : Tr.getP (α := α) q .lf = none := by cases q <;> rfl
    simp only [e, List.cons.injEq, true_and]
    rfl
  | false :: p, false :: q, .lf => by
    have := Tr.getP_put x p q .lf
    show Tr.getP q (Tr.putP x p .lf) = _
    rw [this]
    have e : Tr.getP (α := α) q .lf = none := by cases q <;> rfl
    simp only [e, List.cons.injEq, true_and]
    rfl
  | true :: p, false :: q, .lf => by
    show Tr.getP q .lf = _
    have e : Tr.getP (α := α) q .lf = none := by cases q <;> rfl
    rw [e]
    simp
    rfl
  | false :: p, true :: q, .lf => by
    show Tr.getP q .lf = _
    have e : Tr.getP (α := α) q .lf = none := by cases q <;> rfl
    rw [e]
    simp
    rfl
  | true :: p, true :: q, .nd l v r => by
    have := Tr.getP_put x p q l
    show Tr.getP q (Tr.putP x p l) = _
    rw [this]
    simp only [List.cons.injEq, true_and]
    rfl
  | false :: p, false :: q, .nd l v r => by
    have := Tr.getP_put x p q r
    show Tr.getP q (Tr.putP x p r) = _
    rw [this]
    simp only [List.cons.injEq, true_and]
    rfl
  | true :: p, false :: q, .nd l v r => by simp; rfl
  | false :: p, true :: q, .nd l v r => by simp; rfl
theorem Tr.get_set {α : Type} (t : Tr α) (n : Nat) (x : Option α) (k : Nat) : (t.set n x).get k = if k = n then x else t.get k := by
  unfold Tr.get Tr.set
  rw [Tr.getP_put]
  by_cases e : k = n
  · rw [e, if_pos rfl, if_pos rfl]
  · have hne : ¬ path k = path n := fun h => e (pathF_inj _ _ _ _ (Nat.lt_succ_self _) (Nat.lt_succ_self _) h)
    rw [if_neg e, if_neg hne]
theorem Tr.get_lf {α : Type} (k : Nat) : (Tr.lf : Tr α).get k = none := by
  unfold Tr.get
  cases path k <;> rfl

/-! ### Values -/

def g1 : Value → Bool
  | .bool _ | .int _ _ | .string _ | .pointer none | .nilFunc | .nilIface | .map none => true
  | .slice none 0 0 => true
  | _ => false
def g2 : Value → Bool
  | .agg cs => cs.toList.all g1
  | v => g1 v
def gnd : Value → Bool
  | .tuple ⟨[]⟩ => false
  | .tuple vs => vs.toList.all g2
  | v => g2 v

structure Blk where
  cells : List Value
  flex : Option Nat
/-- What is known of words that come in: 'named k' is '.chan (some (k + 1))'. -/
inductive Ent where
  | len (a : Nat) (r : Value)
  | bin (op : BinOp) (x y r : Value)
structure LS where
  hp : Tr Blk
  n : Nat
  orc : List Ent
  gl : Nat
/-- Where a block of the evaluator's lies in the program's memory, how many cells it has there, and, of a row that may have more room than is known, how many cells an element has. -/
structure MB where
  blk : Nat
  size : Nat
  flex : Option Nat
  val : Value

mutual
inductive VRel (D : Nat → Prop) (m : Nat → MB) : Value → Value → Prop
  | un (v : Value) : VRel D m (.tuple #[]) v
  | op (v : Value) (h : v.oneCell' = true) : VRel D m (.chan none) v
  | ud : VRel D m (.chan (some 0)) undef
  | nm (k : Nat) (hk : D k) (h : (m k).val.oneCell' = true) : VRel D m (.chan (some (k + 1))) (m k).val
  | gr (v : Value) (h : gnd v = true) : VRel D m v v
  | pt (b o : Nat) (hb : D b) : VRel D m (.pointer (some ⟨b, o, none⟩)) (.pointer (some ⟨(m b).blk, o, none⟩))
  | sl (b o n c c' : Nat) (hb : D b) (h1 : c ≤ c') (h2 : (m b).flex = none → c' = c) (h3 : ∀ e, (m b).flex = some e → o + c' * e ≤ (m b).size) :
      VRel D m (.slice (some ⟨b, o, none⟩) n c) (.slice (some ⟨(m b).blk, o, none⟩) n c')
  | ag (xs ys : List Value) (h : VRels D m xs ys) : VRel D m (.agg ⟨xs⟩) (.agg ⟨ys⟩)
  | tu (xs ys : List Value) (h : VRels D m xs ys) : VRel D m (.tuple ⟨xs⟩) (.tuple ⟨ys⟩)
  | fn (f : Fn) (xs ys zs ws : List Value) (h : VRels D m xs ys) (h' : VRels D m zs ws) : VRel D m (.func f ⟨xs⟩ ⟨zs⟩) (.func f ⟨ys⟩ ⟨ws⟩)
inductive VRels (D : Nat → Prop) (m : Nat → MB) : List Value → List Value → Prop
  | nil : VRels D m [] []
  | cons (x y : Value) (xs ys : List Value) (h : VRel D m x y) (t : VRels D m xs ys) : VRels D m (x :: xs) (y :: ys)
end

variable {L L' L'' : LS} {D D' D'' : Nat → Prop} {m m' m'' : Nat → MB} {P : Program}

theorem g1_eq {v v' : Value} (h : VRel D m v v') (g : g1 v = true) : v' = v := by
  cases h <;> first | rfl | (simp [g1] at g)
theorem g1s_eq : ∀ {xs ys : List Value}, VRels D m xs ys → xs.all g1 = true → ys = xs
  | _, _, .nil, _ => rfl
  | _, _, .cons x y xs ys h t, g => by
    simp only [List.all_cons, Bool.and_eq_true] at g
    rw [g1_eq h g.1, g1s_eq t g.2]
theorem g2_eq {v v' : Value} (h : VRel D m v v') (g : g2 v = true) : v' = v := by
  cases h <;> first | rfl | (simp [g2, g1] at g; done) | skip
  case ag xs ys h => simp only [g2] at g; rw [g1s_eq h g]
theorem g2s_eq : ∀ {xs ys : List Value}, VRels D m xs ys → xs.all g2 = true → ys = xs
  | _, _, .nil, _ => rfl
  | _, _, .cons x y xs ys h t, g => by
    simp only [List.all_cons, Bool.and_eq_true] at g
    rw [g2_eq h g.1, g2s_eq t g.2]
theorem gnd_eq {v v' : Value} (h : VRel D m v v') (g : gnd v = true) : v' = v := by
  cases h <;> first | rfl | (simp [gnd, g2, g1] at g; done) | skip
  case ag xs ys h => simp only [gnd, g2] at g; rw [g1s_eq h g]
  case tu xs ys h =>
    cases xs with
    | nil => simp [gnd] at g
    | cons x xs => simp only [gnd] at g; rw [g2s_eq h g]

/-- More blocks are known; those that were known are as they were. -/
structure Ext (D : Nat → Prop) (m : Nat → MB) (D' : Nat → Prop) (m' : Nat → MB) : Prop where
  d : ∀ b, D b → D' b
  m : ∀ b, D b → m' b = m b
theorem Ext.refl (D : Nat → Prop) (m : Nat → MB) : Ext D m D m := ⟨fun _ h => h, fun _ _ => rfl⟩
theorem Ext.trans (h : Ext D m D' m') (k : Ext D' m' D'' m'') : Ext D m D'' m'' := ⟨fun b hb => k.d b (h.d b hb), fun b hb => (k.m b (h.d b hb)).trans (h.m b hb)⟩

mutual
theorem VRel.mono (E : Ext D m D' m') : ∀ {v v' : Value}, VRel D m v v' → VRel D' m' v v'
  | _, _, .un v => .un v
  | _, _, .op v h => .op v h
  | _, _, .ud => .ud
  | _, _, .nm k hk h => by rw [← E.m k hk] at h ⊢; exact .nm k (E.d k hk) h
  | _, _, .gr v h => .gr v h
  | _, _, .pt b o hb => by rw [← E.m b hb]; exact .pt b o (E.d b hb)
  | _, _, .sl b o n c c' hb h1 h2 h3 => by rw [← E.m b hb] at h2 h3 ⊢; exact .sl b o n c c' (E.d b hb) h1 h2 h3
  | _, _, .ag xs ys h => .ag xs ys (h.mono E)
  | _, _, .tu xs ys h => .tu xs ys (h.mono E)
  | _, _, .fn f xs ys zs ws h h' => .fn f xs ys zs ws (h.mono E) (h'.mono E)
theorem VRels.mono (E : Ext D m D' m') : ∀ {v v' : List Value}, VRels D m v v' → VRels D' m' v v'
  | _, _, .nil => .nil
  | _, _, .cons x y xs ys h t => .cons x y xs ys (h.mono E) (t.mono E)
end

theorem VRels.length : ∀ {xs ys : List Value}, VRels D m xs ys → xs.length = ys.length
  | _, _, .nil => rfl
  | _, _, .cons _ _ _ _ _ t => by simp [t.length]
theorem VRels.at : ∀ {xs ys : List Value}, VRels D m xs ys → ∀ (j : Nat) (v : Value), xs[j]? = some v → ∃ v', ys[j]? = some v' ∧ VRel D m v v'
  | _, _, .nil, _, _, h => by simp at h
  | _, _, .cons x y _ _ h _, 0, v, hj => by simp at hj; subst hj; exact ⟨y, rfl, h⟩
  | _, _, .cons _ _ _ _ _ t, j + 1, v, hj => by simpa using t.at j v (by simpa using hj)
theorem VRels.of_at : ∀ {xs ys : List Value}, xs.length = ys.length → (∀ (j : Nat) (v v' : Value), xs[j]? = some v → ys[j]? = some v' → VRel D m v v') → VRels D m xs ys
  | [], [], _, _ => .nil
  | [], _ :: _, h, _ => by simp at h
  | _ :: _, [], h, _ => by simp at h
  | x :: xs, y :: ys, h, hj => .cons x y xs ys (hj 0 x y rfl rfl) (VRels.of_at (by simpa using h) fun j v v' h1 h2 => hj (j + 1) v v' (by simpa using h1) (by simpa using h2))
theorem VRels.ground : ∀ (xs : List Value), xs.all g1 = true → VRels D m xs xs
  | [], _ => .nil
  | x :: xs, h => by
    simp only [List.all_cons, Bool.and_eq_true] at h
    refine .cons x x xs xs (.gr x ?_) (VRels.ground xs h.2)
    cases x <;> simp_all [g1, gnd, g2]

/-- What a named word, or plain data, is. -/
def subv (m : Nat → MB) : Value → Option Value
  | .chan (some (k + 1)) => some (m k).val
  | v => bif gnd v then some v else none
theorem subv_eq {v v' u : Value} (h : VRel D m v v') (hs : subv m v = some u) : v' = u := by
  cases h <;> first | (simp [subv, gnd, g2, g1] at hs; done) | skip
  case nm k hk h1 => simp only [subv, Option.some.injEq] at hs; exact hs
  case gr h1 =>
    unfold subv at hs
    split at hs
    · simp [gnd, g2, g1] at h1
    · rw [h1, cond_true] at hs; cases hs; rfl
  case ag xs ys h1 =>
    simp only [subv] at hs
    cases hg : gnd (.agg ⟨xs⟩) with
    | false => rw [hg, cond_false] at hs; cases hs
    | true => rw [hg, cond_true] at hs; cases hs; exact gnd_eq (.ag xs ys h1) hg
  case tu xs ys h1 =>
    simp only [subv] at hs
    cases hg : gnd (.tuple ⟨xs⟩) with
    | false => rw [hg, cond_false] at hs; cases hs
    | true => rw [hg, cond_true] at hs; cases hs; exact gnd_eq (.tu xs ys h1) hg
def EntOK (D : Nat → Prop) (m : Nat → MB) : Ent → Prop
  | .len a r => D a ∧ ∃ A n c, (m a).val = .slice A n c ∧ VRel D m r (.int .i64 n)
  | .bin op x y r => (∀ k, x = .chan (some (k + 1)) → D k) ∧ (∀ k, y = .chan (some (k + 1)) → D k) ∧
      ∃ kx ix ky iy r', subv m x = some (.int kx ix) ∧ subv m y = some (.int ky iy) ∧ VRel D m r r' ∧ ∀ (P : Program) (t : TypeId) (w : World), (binOp op t (.int kx ix) (.int ky iy)).run P w = .ok r' w
theorem subv_mono (E : Ext D m D' m') {v u : Value} (hd : ∀ k, v = .chan (some (k + 1)) → D k) (h : subv m v = some u) : subv m' v = some u := by
  unfold subv at h ⊢
  split at h
  · rename_i k; rw [E.m k (hd k rfl)]; exact h
  · exact h
theorem EntOK.mono (E : Ext D m D' m') : ∀ {e : Ent}, EntOK D m e → EntOK D' m' e
  | .len a r, ⟨hd, A, n, c, h1, h2⟩ => ⟨E.d a hd, A, n, c, by rw [E.m a hd]; exact h1, h2.mono E⟩
  | .bin op x y r, ⟨hx, hy, kx, ix, ky, iy, r', h1, h2, h3, h4⟩ => ⟨fun k e => E.d k (hx k e), fun k e => E.d k (hy k e), kx, ix, ky, iy, r', subv_mono E hx h1, subv_mono E hy h2, h3.mono E, h4⟩

/-! ### Worlds -/

/-- What is known of the world: D: the blocks that values may speak of; L.hp: those whose cells are known. -/
structure WRel (L : LS) (D : Nat → Prop) (m : Nat → MB) (W0 W : World) : Prop where
  bel : Below W0.heap.size W0 W
  lt : ∀ b, D b → b < L.n
  blk : ∀ b k, L.hp.get b = some k → D b ∧ (L.gl ≤ b → W0.heap.size ≤ (m b).blk) ∧ (m b).flex = k.flex ∧ ∃ (cs : Array Value) (el : TypeId) (fz : Nat × Nat), W.heap[(m b).blk]? = some (.cells cs el fz) ∧ (L.gl ≤ b → fz = (0, 0)) ∧ cs.size = (m b).size ∧
    ∀ (j : Nat) (v : Value), k.cells[j]? = some v → ∃ v' : Value, cs[j]? = some v' ∧ VRel D m v v'
  inj : ∀ b c k k', L.hp.get b = some k → L.hp.get c = some k' → (m b).blk = (m c).blk → b = c
  orc : ∀ e ∈ L.orc, EntOK D m e
  gl : ∀ g, g < L.gl → D g ∧ (m g).blk = g

/-- From one state to a later one: below 'ro' nothing is written; what lies in memory beside the known blocks is as it was. -/
structure Stp (ro : Nat) (L : LS) (D : Nat → Prop) (m : Nat → MB) (W : World) (L' : LS) (D' : Nat → Prop) (m' : Nat → MB) (W' : World) : Prop where
  ext : Ext D m D' m'
  n : L.n ≤ L'.n
  old : ∀ b, b < L.n → D' b → D b
  kind : ∀ b, b < L.n → ∀ k', L'.hp.get b = some k' → ∃ k, L.hp.get b = some k
  keep : ∀ b, b < L.n → b < ro → L'.hp.get b = L.hp.get b
  size : W.heap.size ≤ W'.heap.size
  far : ∀ K, K < W.heap.size → (∀ b k, L.hp.get b = some k → ro ≤ b → (m b).blk ≠ K) → W'.heap[K]? = W.heap[K]?
  own : ∀ b k, L'.hp.get b = some k → (m' b).blk < W.heap.size → ∃ c k', L.hp.get c = some k' ∧ (m c).blk = (m' b).blk ∧ (ro ≤ b → ro ≤ c)
theorem Stp.refl (ro : Nat) (L : LS) (D : Nat → Prop) (m : Nat → MB) (W : World) : Stp ro L D m W L D m W :=
  ⟨Ext.refl _ _, Nat.le_refl _, fun _ _ h => h, fun _ _ k h => ⟨k, h⟩, fun _ _ _ => rfl, Nat.le_refl _, fun _ _ _ => rfl, fun b k h _ => ⟨b, k, h, rfl, fun h => h⟩⟩
theorem Stp.trans {ro : Nat} {W W' W'' : World} (h : Stp ro L D m W L' D' m' W') (k : Stp ro L' D' m' W' L'' D'' m'' W'') : Stp ro L D m W L'' D'' m'' W'' := by
  refine ⟨h.ext.trans k.ext, Nat.le_trans h.n k.n, fun b hb hd => h.old b hb (k.old b (Nat.lt_of_lt_of_le hb h.n) hd), fun b hb x hx => ?_, fun b hb hr => (k.keep b (Nat.lt_of_lt_of_le hb h.n) hr).trans (h.keep b hb hr), Nat.le_trans h.size k.size, fun K hK hne => ?_, fun b x hx hlt => ?_⟩
  · obtain ⟨y, hy⟩ := k.kind b (Nat.lt_of_lt_of_le hb h.n) x hx
    exact h.kind b hb y hy
  · refine (k.far K (Nat.lt_of_lt_of_le hK h.size) fun b x hx hr e => ?_).trans (h.far K hK hne)
    obtain ⟨c, y, hy, e', hr'⟩ := h.own b x hx (by rw [e]; exact hK)
    exact hne c y hy (hr' hr) (e'.trans e)
  · obtain ⟨c, y, hy, e, hr⟩ := k.own b x hx (Nat.lt_of_lt_of_le hlt h.size)
    obtain ⟨d, z, hz, e', hr'⟩ := h.own c y hy (by rw [e]; exact hlt)
    exact ⟨d, z, hz, e'.trans e, fun h => hr' (hr h)⟩
/-- What is known below 'ro' holds what it held. -/
theorem Stp.at {ro : Nat} {W0 W W' : World} (h : Stp ro L D m W L' D' m' W') (hW : WRel L D m W0 W) {b : Nat} {k : Blk} (hk : L.hp.get b = some k) (hr : b < ro) : W'.heap[(m b).blk]? = W.heap[(m b).blk]? := by
  obtain ⟨_, _, _, cs, el, fz, hc, _⟩ := hW.blk b k hk
  exact h.far _ (Array.getElem?_eq_some_iff.1 hc).1 fun c x hx hrc e => by
    have := hW.inj c b x k hx hk e
    omega

/-- A frame. -/
structure FRel (D : Nat → Prop) (m : Nat → MB) (nt : Nat) (t : Tr Value) (a : Act) : Prop where
  size : a.tmps.size = nt
  dfr : a.defers = []
  slot : ∀ i v, t.get i = some v → VRel D m v (a.tmps.getD i undef)
theorem FRel.mono {nt : Nat} {t : Tr Value} {a : Act} (E : Ext D m D' m') (h : FRel D m nt t a) : FRel D' m' nt t a := ⟨h.size, h.dfr, fun i v hv => (h.slot i v hv).mono E⟩

def lev (gl : Nat) (t : Tr Value) : Operand → Value
  | .tmp i => (t.get i).getD (.tuple #[])
  | .const v => bif gnd v then v else .tuple #[]
  | .global g => bif Nat.blt g gl then .pointer (some ⟨g, 0, none⟩) else .tuple #[]
  | .func f => .func (.func f) #[] #[]
abbrev GlOK (D : Nat → Prop) (m : Nat → MB) (gl : Nat) : Prop := ∀ g, g < gl → D g ∧ (m g).blk = g
theorem lev_glob {gl g : Nat} (hg : GlOK D m gl) : VRel D m (bif Nat.blt g gl then .pointer (some ⟨g, 0, none⟩) else .tuple #[]) (.pointer (some ⟨g, 0, none⟩)) := by
  cases hb : Nat.blt g gl with
  | false => exact .un _
  | true =>
    obtain ⟨h1, h2⟩ := hg g (by simpa [Nat.blt_eq] using hb)
    have := VRel.pt (m := m) g 0 h1
    rw [h2] at this
    exact this
theorem lev_rel {gl nt : Nat} {t : Tr Value} {a : Act} (hg : GlOK D m gl) (h : FRel D m nt t a) (x : Operand) : VRel D m (lev gl t x) (a.eval x) := by
  cases x with
  | tmp i =>
    simp only [lev, Act.eval]
    cases hg : t.get i with
    | none => exact .un _
    | some v => exact h.slot i v hg
  | const v =>
    simp only [lev, Act.eval]
    cases hg : gnd v with
    | false => exact .un _
    | true => exact .gr v hg
  | global g => exact lev_glob hg
  | func f => exact .fn (.func f) [] [] [] [] .nil .nil

theorem FRel.put {nt d : Nat} {t : Tr Value} {a : Act} {v v' : Value} (h : FRel D m nt t a) (hd : d < nt) (hv : VRel D m v v') : FRel D m nt (t.set d (some v)) (a.put (some d) v') := by
  refine ⟨by simp [Act.put, h.size], h.dfr, fun i u hu => ?_⟩
  rw [Tr.get_set] at hu
  simp only [Act.put]
  by_cases e : i = d
  · subst e
    rw [if_pos rfl] at hu
    cases hu
    have hs : i < a.tmps.size := by rw [h.size]; exact hd
    simpa [Array.getD, hs] using hv
  · rw [if_neg e] at hu
    have := h.slot i u hu
    by_cases hi : i < a.tmps.size
    · simpa [Array.getD, hi, Array.getElem_setIfInBounds, Ne.symm e] using this
    · simpa [Array.getD, hi] using this

/-! ### What hangs on no world -/

def pureOf {α : Type} (P : Program) : Sem α → Option α
  | .pure a => some a
  | .program k => pureOf P (k P)
  | .mark _ k => pureOf P k
  | _ => none
theorem pureOf_run {α : Type} : ∀ (s : Sem α) (a : α), pureOf P s = some a → ∀ w : World, s.run P w = .ok a w
  | .pure _, _, h, _ => by simp only [pureOf, Option.some.injEq] at h; subst h; rfl
  | .program k, a, h, w => by simp only [Sem.run]; exact pureOf_run (k P) a h w
  | .mark _ k, a, h, w => by simp only [Sem.run]; exact pureOf_run k a h w
end
end Go.Proofs.Ytejhjpdcodloaaa.Ev
