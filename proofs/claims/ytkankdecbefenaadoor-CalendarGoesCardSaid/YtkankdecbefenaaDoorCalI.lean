/- What slots of a schedule without fault are like; in which slot a tick is, just one; bounds of Age and Late; no condition. -/
import Derived.Test.YtkankdecbefenaaDoorCalE
import Derived.Test.YtkankdecbefenaaDoorCalH
namespace Go.Proofs.YtkankdecbefenaaDoor.Ly7
open Go.ChangeShapes Go.WideShapes Go.ChangeAt Go.RowKit Base
set_option linter.unusedVariables false
set_option linter.unusedSimpArgs false

/-- A slot of a schedule that may be. -/
def VSl (z : Sl) : Prop := 0 < z.l ∧ (z.k = 0 → 360 ≤ z.l ∧ z.l ≤ 1720)
theorem win_zero {md : Int} {x : Wd} (h : winI md x = 0) : (x.k = 0 ∧ 1 ≤ x.wd ∧ x.wd ≤ 8) ∨ (x.k = 1 ∧ 1 ≤ x.b ∧ x.b ≤ 100) ∨ x.k = 2 := by
  have hw := winI_is md x
  rw [h] at hw
  unfold Win at hw
  omega
theorem win_sl {md : Int} {x : Wd} (h : winI md x = 0) (y s : Int) : ∀ z ∈ x.sl y s, VSl z := by
  have hq : 1 ≤ x.q ∧ x.q ≤ 4 := by unfold Wd.q; omega
  intro z hz
  unfold Wd.sl at hz
  rcases win_zero h with ⟨h0, h1, h2⟩ | ⟨h0, h1, h2⟩ | h0
  · rw [if_pos h0] at hz
    simp at hz
    subst hz
    have hu : (x.u : Int) = x.wd := by unfold Wd.u cutN; omega
    have ht : x.tk = (10 + 8 * (x.u : Int) + 4 * ((x.q : Int) - 1)) * 20 := by unfold Wd.tk tkI; rw [if_pos h0]
    refine ⟨?_, fun _ => ?_⟩
    · show 0 < x.tk
      omega
    · show 360 ≤ x.tk ∧ x.tk ≤ 1720
      omega
  · rw [if_neg (by omega), if_pos (.inl h0)] at hz
    simp at hz
    subst hz
    have hg : (x.g : Int) = x.b := by unfold Wd.g cutN; omega
    have ht : x.tk = (x.g : Int) * 20 := by unfold Wd.tk tkI; rw [if_neg (by omega), if_pos h0]
    refine ⟨by show 0 < x.tk; omega, fun hk => ?_⟩
    have hk : x.k = 0 := hk
    omega
  · rw [if_neg (by omega), if_pos (.inr h0)] at hz
    simp at hz
    subst hz
    have ht : x.tk = 120 := by unfold Wd.tk tkI; rw [if_neg (by omega), if_neg (by omega), if_pos h0]
    refine ⟨by show 0 < x.tk; omega, fun hk => ?_⟩
    have hk : x.k = 0 := hk
    omega
theorem mid_valid {md : Int} (y : Int) : ∀ (ws : List Wd) (s : Int), (∀ x ∈ ws, winI md x = 0) → ∀ z ∈ midL y ws s, VSl z
  | [], _, _ => fun z hz => by cases hz
  | x :: r, s, h => fun z hz => by
    rcases List.mem_append.1 hz with hz | hz
    · exact win_sl (h x (List.mem_cons_self ..)) y s z hz
    · exact mid_valid y r _ (fun x hx => h x (List.mem_cons_of_mem _ hx)) z hz
theorem view_valid {md : Int} (ver : Nat) (y : Int) (ws : List Wd) (h : ∀ x ∈ ws, winI md x = 0) : ∀ z ∈ viewL ver y ws, VSl z := by
  intro z hz
  unfold viewL at hz
  rcases List.mem_append.1 hz with hz | hz
  · rcases List.mem_cons.1 hz with rfl | hz
    · exact ⟨by show 0 < leadI ver; unfold leadI; omega, fun hk => by have hk : (3 : Int) = 0 := hk; omega⟩
    · exact mid_valid y ws _ h z hz
  · simp at hz
    subst hz
    exact ⟨by show (0 : Int) < 120; omega, fun hk => by have hk : (4 : Int) = 0 := hk; omega⟩
/-- No window of a schedule that may be has a fault. -/
theorem chk_zero {f : Wd → Int} {md v j : Int} {ws0 ws1 : List Wd} (h : Chk f md ws0 ws1 v j 0) : FrNo f 0 ws0 ∧ FrNo f 1 ws1 := by
  have hfr : ∀ {ver : Nat} {ws : List Wd} {j : Int}, ¬ Fr f ver ws j 0 := by
    rintro ver ws j (⟨_, _, h⟩ | ⟨_, k, x, _, _, hf, _, h⟩ | ⟨_, _, _, _, h⟩)
    · omega
    · exact hf h.symm
    · omega
  rcases h with ⟨_, _, _, h⟩ | ⟨_, ⟨h, _⟩ | ⟨_, h, _⟩ | ⟨h1, h2, _⟩⟩
  · omega
  · exact absurd h hfr
  · exact absurd h hfr
  · exact ⟨h1, h2⟩
theorem frm_valid {md : Int} {A0 : Option Addr} {n0 c0 : Nat} {A1 : Option Addr} {n1 c1 : Nat} {ws0 ws1 : List Wd} {v j ver T : Int} {ss : List Sl} (h : Chk (winI md) md ws0 ws1 v j 0) (hF : Frm 0 ver A0 n0 c0 A1 n1 c1 ws0 ws1 ss T) : ∀ z ∈ ss, VSl z := by
  obtain ⟨g0, g1⟩ := chk_zero h
  have hm : ∀ {ver : Nat} {ws : List Wd}, FrNo (winI md) ver ws → ∀ x ∈ ws, winI md x = 0 := fun g x hx => by
    obtain ⟨i, hi, e⟩ := List.mem_iff_getElem.1 hx
    exact g.2.1 i x (by rw [List.getElem?_eq_getElem hi, e])
  rcases hF with ⟨_, k, A, n, c, ws, _, hv, rfl, _⟩ | ⟨_, rfl, _⟩
  · rcases hv with ⟨_, _, _, _, rfl⟩ | ⟨_, _, _, _, rfl⟩
    · exact view_valid k (-1) _ (hm g0)
    · exact view_valid k (-1) _ (hm g1)
  · intro z hz
    cases hz
/-- A slot ends ahead of all behind it. -/
theorem sls_lt {ss : List Sl} {T : Int} (h : Sls ss T) {i j : Nat} {a b : Sl} (hij : i < j) (ha : ss[i]? = some a) (hb : ss[j]? = some b) : a.s + a.l ≤ b.s := by
  have c1 := chain_at ss 0 i a h.ch ha
  have c2 := chain_at ss 0 j b h.ch hb
  have e1 := sum_snoc ha
  have e0 : (ss.take j).take (i + 1) = ss.take (i + 1) := by rw [List.take_take, Nat.min_eq_left (by omega)]
  have e2 : sumS (ss.take (i + 1)) + sumS ((ss.take j).drop (i + 1)) = sumS (ss.take j) := by rw [← e0, ← sumS_app, List.take_append_drop]
  have h2 := sum_bd ((ss.take j).drop (i + 1)) (fun y hy => h.bd y (List.mem_of_mem_take (List.mem_of_mem_drop hy)))
  omega
/-- A tick is in one slot. -/
theorem at_uniq {ss : List Sl} {T M : Int} (h : Sls ss T) {i j : Nat} {a b : Sl} (ha : ss[i]? = some a) (hb : ss[j]? = some b) (h1 : a.s ≤ M) (h2 : M < a.s + a.l) (h3 : b.s ≤ M) (h4 : M < b.s + b.l) : i = j := by
  rcases Nat.lt_trichotomy i j with hlt | rfl | hlt
  · have := sls_lt h hlt ha hb
    omega
  · rfl
  · have := sls_lt h hlt hb ha
    omega
/-- What the slots that write a place are like. -/
structure Own (own : List Sl) (T : Int) : Prop where
  lt : ∀ (i j : Nat) (a b : Sl), i < j → own[i]? = some a → own[j]? = some b → a.s + a.l ≤ b.s
  bd : ∀ z ∈ own, 0 ≤ z.s ∧ 360 ≤ z.l ∧ z.l ≤ 1720 ∧ z.s + z.l ≤ T
theorem own_is {ss : List Sl} {T addr : Int} (h : Sls ss T) (hv : ∀ z ∈ ss, VSl z) : Own (ss.filter (wrt addr)) T where
  lt := by
    have hp : ss.Pairwise (fun a b => a.s + a.l ≤ b.s) := by
      rw [List.pairwise_iff_getElem]
      intro i j hi hj hij
      exact sls_lt h hij (List.getElem?_eq_getElem hi) (List.getElem?_eq_getElem hj)
    have hf := hp.filter (wrt addr)
    rw [List.pairwise_iff_getElem] at hf
    intro i j a b hij ha hb
    obtain ⟨hi, rfl⟩ := List.getElem?_eq_some_iff.1 ha
    obtain ⟨hj, rfl⟩ := List.getElem?_eq_some_iff.1 hb
    exact hf i j hi hj hij
  bd := by
    intro z hz
    obtain ⟨hm, hw⟩ := List.mem_filter.1 hz
    obtain ⟨i, hi, e⟩ := List.mem_iff_getElem.1 hm
    have h1 := sls_at h (k := i) (z := z) (by rw [List.getElem?_eq_getElem hi, e])
    have hk : z.k = 0 := by unfold wrt at hw; exact (of_decide_eq_true hw).1
    have h2 := (hv z hm).2 hk
    omega
theorem endF_in {own : List Sl} {T : Int} {k : Nat} {z : Sl} (hz : own[k]? = some z) : endF own T k = z.s + z.l := by
  have hk : k < own.length := (List.getElem?_eq_some_iff.1 hz).1
  unfold endF
  rw [Nat.mod_eq_of_lt hk, Nat.div_eq_of_lt hk, hz]
  simp
theorem endF_last {own : List Sl} {T : Int} {z : Sl} (hz : own[0]? = some z) : endF own T own.length = z.s + z.l + T := by
  have hk : 0 < own.length := (List.getElem?_eq_some_iff.1 hz).1
  unfold endF
  rw [Nat.mod_self, Nat.div_self hk, hz]
  simp
/-- What is told of one of them. -/
theorem gap_bd {own : List Sl} {T : Int} (h : Own own T) (hT : 320 ≤ T) {k : Nat} {z : Sl} (hz : own[k]? = some z) :
    (0 < endF own T (k + 1) - endF own T k ∧ endF own T (k + 1) - endF own T k ≤ T) ∧ 360 ≤ endF own T (k + 1) - z.s - 1 ∧ endF own T (k + 1) - z.s - 1 < T + 1720 := by
  have hk : k < own.length := (List.getElem?_eq_some_iff.1 hz).1
  have b1 := h.bd z (List.mem_of_getElem? hz)
  rw [endF_in hz]
  by_cases hn : k + 1 < own.length
  · obtain ⟨y, hy⟩ : ∃ y, own[k + 1]? = some y := ⟨_, List.getElem?_eq_getElem hn⟩
    have b2 := h.bd y (List.mem_of_getElem? hy)
    have b3 := h.lt k (k + 1) z y (by omega) hz hy
    rw [endF_in hy]
    omega
  · have hke : k + 1 = own.length := by omega
    obtain ⟨o, ho⟩ : ∃ o, own[0]? = some o := ⟨_, List.getElem?_eq_getElem (by omega)⟩
    have b2 := h.bd o (List.mem_of_getElem? ho)
    rw [hke, endF_last ho]
    rcases Nat.eq_zero_or_pos k with rfl | h0
    · rw [ho] at hz
      injection hz with hz
      subst hz
      omega
    · have b3 := h.lt 0 k o z h0 ho hz
      omega
/-- Bounds of Age and Late, behind so many. -/
theorem fold_bd {own : List Sl} {T : Int} (h : Own own T) (hT : 320 ≤ T) : ∀ k, k ≤ own.length → (k = 0 → foldW ageG own T k 0 = 0 ∧ foldW lateG own T k 0 = 0) ∧ (0 < k → (0 < foldW ageG own T k 0 ∧ foldW ageG own T k 0 ≤ T) ∧ 360 ≤ foldW lateG own T k 0 ∧ foldW lateG own T k 0 < T + 1720)
  | 0, _ => ⟨fun _ => ⟨rfl, rfl⟩, fun h => by omega⟩
  | k + 1, hk => by
    obtain ⟨i1, i2⟩ := fold_bd h hT k (by omega)
    obtain ⟨z, hz⟩ : ∃ z, own[k]? = some z := ⟨_, List.getElem?_eq_getElem (by omega)⟩
    obtain ⟨g1, g2, g3⟩ := gap_bd h hT hz
    refine ⟨fun h => by omega, fun _ => ?_⟩
    rw [foldW_next hz, foldW_next hz]
    unfold ageG lateG at *
    rcases Nat.eq_zero_or_pos k with h0 | h0
    · obtain ⟨e1, e2⟩ := i1 h0
      rw [e1, e2]
      omega
    · have := i2 h0
      omega
theorem age_late {ss : List Sl} {T addr : Int} (h : Sls ss T) (hv : ∀ z ∈ ss, VSl z) (hT : 320 ≤ T) : (0 ≤ ageF ss T addr ∧ ageF ss T addr ≤ T) ∧ (ageF ss T addr = 0 ↔ lateF ss T addr = 0) ∧ 0 ≤ lateF ss T addr ∧ lateF ss T addr < T + 1720 ∧ (0 < lateF ss T addr → 360 ≤ lateF ss T addr) := by
  have ho := own_is (addr := addr) h hv
  obtain ⟨i1, i2⟩ := fold_bd ho hT _ (Nat.le_refl _)
  unfold ageF lateF
  rcases Nat.eq_zero_or_pos (ss.filter (wrt addr)).length with h0 | h0
  · obtain ⟨e1, e2⟩ := i1 h0
    rw [e1, e2]
    omega
  · have := i2 h0
    omega
end Go.Proofs.YtkankdecbefenaaDoor.Ly7
