/- The bytes of an image, put and read: plain lists; no condition. -/
import Derived.Test.YthnopcoahcdjjaaImgD
namespace Go.Proofs.Ythnopcoahcdjjaa.Ly10
open Go.ChangeShapes Go.WideShapes Go.ChangeAt Go.RowKit Base
set_option linter.unusedVariables false
set_option linter.unusedSimpArgs false

def b2 (bs : List Nat) (i : Nat) : Nat := bs.getD i 0 * 256 + bs.getD (i + 1) 0
theorem getD_lt {bs : List Nat} (hb : ∀ x ∈ bs, x < 256) (i : Nat) : bs.getD i 0 < 256 := by
  rw [List.getD_eq_getElem?_getD]
  cases h : bs[i]? with
  | none => simp
  | some v => exact hb v (List.mem_of_getElem? h)
theorem b2_lt {bs : List Nat} (hb : ∀ x ∈ bs, x < 256) (i : Nat) : b2 bs i < 65536 := by
  have h1 := getD_lt hb i
  have h2 := getD_lt hb (i + 1)
  unfold b2
  omega
def pre2 (bs : List Nat) : Bool := decide (bs.take 2 = [84, 49])
/-- What Read says 'right' of: the form, and the sum. -/
structure Whole (bs : List Nat) (n : Nat) : Prop where
  len : bs.length = n
  pre : pre2 bs = true
  long : n = 11 + b2 bs 7
  sum : b2 bs (n - 2) = sumL 65535 (bs.take (n - 2))
theorem imgB_eq (m e0 e1 : Nat) (code : List Nat) : imgB m e0 e1 code = 84 :: 49 :: m :: e0 / 256 :: e0 % 256 :: e1 / 256 :: e1 % 256 :: code.length / 256 :: code.length % 256 :: (code ++ two (sumL 65535 (bodyB m e0 e1 code))) := by
  simp [imgB, bodyB, preB, two]
theorem getD_app {a b : List Nat} {n : Nat} (h : a.length = n) (k : Nat) : (a ++ b).getD (n + k) 0 = b.getD k 0 := by
  rw [List.getD_eq_getElem?_getD, List.getD_eq_getElem?_getD, List.getElem?_append_right (by omega), show n + k - a.length = k by omega]
theorem imgB_fields (m e0 e1 : Nat) (code : List Nat) : (imgB m e0 e1 code).getD 2 0 = m ∧ b2 (imgB m e0 e1 code) 3 = e0 ∧ b2 (imgB m e0 e1 code) 5 = e1 ∧ b2 (imgB m e0 e1 code) 7 = code.length ∧ ((imgB m e0 e1 code).drop 9).take code.length = code := by
  rw [imgB_eq]
  unfold b2
  simp
  omega
theorem imgB_whole (m e0 e1 : Nat) (code : List Nat) : Whole (imgB m e0 e1 code) (11 + code.length) := by
  refine ⟨imgB_len _ _ _ _, ?_, ?_, ?_⟩
  · rw [imgB_eq]; simp [pre2]
  · rw [(imgB_fields m e0 e1 code).2.2.2.1]
  · have hl := bodyB_len m e0 e1 code
    have e : 11 + code.length - 2 = 9 + code.length := by omega
    rw [e]
    unfold imgB
    rw [List.take_left' hl]
    unfold b2
    have g0 := getD_app (b := two (sumL 65535 (bodyB m e0 e1 code))) hl 0
    have g1 := getD_app (b := two (sumL 65535 (bodyB m e0 e1 code))) hl 1
    rw [Nat.add_zero] at g0
    rw [g0, g1]
    simp [two]
    omega
theorem dm {a b : Nat} (hb : b < 256) : (a * 256 + b) / 256 = a ∧ (a * 256 + b) % 256 = b := by omega
theorem dm11 {n a b : Nat} (h : n = 11 + (a * 256 + b)) (hb : b < 256) : (n - 11) / 256 = a ∧ (n - 11) % 256 = b := by omega
theorem unc {bs : List Nat} {n : Nat} (k : Nat) (h : bs.length + k = n) (hk : k < n) : ∃ a r, bs = a :: r ∧ r.length + (k + 1) = n := by
  cases bs with
  | nil => simp at h; omega
  | cons a r => exact ⟨a, r, rfl, by simp at h; omega⟩
set_option maxRecDepth 100000 in
theorem whole_put {bs : List Nat} {n : Nat} (h : Whole bs n) (hn : 11 ≤ n) (hb : ∀ x ∈ bs, x < 256) (hc : n - 11 < 65536) : imgB (bs.getD 2 0) (b2 bs 3) (b2 bs 5) ((bs.drop 9).take (n - 11)) = bs := by
  obtain ⟨hl, hp, hg, hs⟩ := h
  obtain ⟨a0, r0, rfl, h0⟩ := unc 0 hl (by omega)
  obtain ⟨a1, r1, rfl, h1⟩ := unc 1 h0 (by omega)
  obtain ⟨a2, r2, rfl, h2⟩ := unc 2 h1 (by omega)
  obtain ⟨a3, r3, rfl, h3⟩ := unc 3 h2 (by omega)
  obtain ⟨a4, r4, rfl, h4⟩ := unc 4 h3 (by omega)
  obtain ⟨a5, r5, rfl, h5⟩ := unc 5 h4 (by omega)
  obtain ⟨a6, r6, rfl, h6⟩ := unc 6 h5 (by omega)
  obtain ⟨a7, r7, rfl, h7⟩ := unc 7 h6 (by omega)
  obtain ⟨a8, r, rfl, h8⟩ := unc 8 h7 (by omega)
  have hrr : r.length = n - 9 := by omega
  clear h0 h1 h2 h3 h4 h5 h6 h7 h8
  · have hr : r.length = n - 9 := hrr
    have h3 := hb a3 (by simp)
    have h4 := hb a4 (by simp)
    have h5 := hb a5 (by simp)
    have h6 := hb a6 (by simp)
    have h7 := hb a7 (by simp)
    have h8 := hb a8 (by simp)
    simp [pre2] at hp
    obtain ⟨rfl, rfl⟩ := hp
    simp [b2] at hg
    have hcl : (r.take (n - 11)).length = n - 11 := by simp; omega
    have hd : (84 :: 49 :: a2 :: a3 :: a4 :: a5 :: a6 :: a7 :: a8 :: r).drop 9 = r := rfl
    have hbody : bodyB a2 (a3 * 256 + a4) (a5 * 256 + a6) (r.take (n - 11)) = (84 :: 49 :: a2 :: a3 :: a4 :: a5 :: a6 :: a7 :: a8 :: r).take (n - 2) := by
      rw [show n - 2 = (n - 11) + 9 by omega]
      unfold bodyB preB two
      rw [hcl]
      simp
      omega
    have hx : ∃ x y, r = r.take (n - 11) ++ [x, y] ∧ x < 256 ∧ y < 256 := by
      have hdl : (r.drop (n - 11)).length = 2 := by simp; omega
      match hdr : r.drop (n - 11), hdl with
      | [x, y], _ =>
        refine ⟨x, y, by rw [← hdr, List.take_append_drop], ?_, ?_⟩
        · exact hb x (by have : x ∈ r.drop (n - 11) := by rw [hdr]; simp
                         have := List.mem_of_mem_drop this
                         simp [this])
        · exact hb y (by have : y ∈ r.drop (n - 11) := by rw [hdr]; simp
                         have := List.mem_of_mem_drop this
                         simp [this])
    obtain ⟨x, y, hxy, hx0, hy0⟩ := hx
    have hsum : sumL 65535 (bodyB a2 (a3 * 256 + a4) (a5 * 256 + a6) (r.take (n - 11))) = x * 256 + y := by
      rw [hbody, ← hs]
      have hl9 : (84 :: 49 :: a2 :: a3 :: a4 :: a5 :: a6 :: a7 :: a8 :: r.take (n - 11)).length = n - 2 := by simp; omega
      have e : 84 :: 49 :: a2 :: a3 :: a4 :: a5 :: a6 :: a7 :: a8 :: r = (84 :: 49 :: a2 :: a3 :: a4 :: a5 :: a6 :: a7 :: a8 :: r.take (n - 11)) ++ [x, y] := by
        simp only [List.cons_append]
        rw [← hxy]
      unfold b2
      have g0 := getD_app (b := [x, y]) hl9 0
      have g1 := getD_app (b := [x, y]) hl9 1
      rw [Nat.add_zero] at g0
      rw [e, g0, g1]
      rfl
    rw [hd]
    show imgB a2 (a3 * 256 + a4) (a5 * 256 + a6) (r.take (n - 11)) = _
    rw [imgB_eq, hsum, hcl]
    obtain ⟨e3, e4⟩ := dm (a := a3) h4
    obtain ⟨e5, e6⟩ := dm (a := a5) h6
    obtain ⟨e7, e8⟩ := dm11 hg h8
    obtain ⟨ex, ey⟩ := dm (a := x) hy0
    unfold two
    rw [e3, e4, e5, e6, e7, e8, ex, ey, ← hxy]
set_option maxRecDepth 100000 in
/-- One byte that is another one: no image. -/
theorem whole_flip {bs : List Nat} {n k x : Nat} (h : Whole bs n) (hn : 11 ≤ n) (hk : k < n) (hb : ∀ x ∈ bs, x < 256) (hx : x < 256) (hne : bs.getD k 0 ≠ x) : ¬ Whole (bs.set k x) n := by
  intro h'
  have hl := h.len
  have hkl : k < bs.length := by omega
  have hs := h.sum
  have hs' := h'.sum
  have hgk : bs.getD k 0 = bs[k] := by rw [List.getD_eq_getElem?_getD, List.getElem?_eq_getElem hkl]; rfl
  rw [hgk] at hne
  have hget : ∀ j, j ≠ k → (bs.set k x).getD j 0 = bs.getD j 0 := fun j hj => by
    rw [List.getD_eq_getElem?_getD, List.getD_eq_getElem?_getD, List.getElem?_set_ne (fun e => hj e.symm)]
  have hgetk : (bs.set k x).getD k 0 = x := by
    rw [List.getD_eq_getElem?_getD, List.getElem?_set_self hkl]; rfl
  have hb0 := getD_lt hb
  by_cases hlo : k < n - 2
  · unfold b2 at hs hs'
    rw [hget _ (by omega), hget _ (by omega), hs] at hs'
    have hsplit : bs.take (n - 2) = bs.take k ++ bs[k] :: (bs.drop (k + 1)).take (n - 2 - (k + 1)) := by
      have h1 : bs.take (n - 2) = (bs.take k ++ bs[k] :: bs.drop (k + 1)).take (n - 2) := by rw [← List.drop_eq_getElem_cons hkl, List.take_append_drop]
      rw [h1, List.take_append, List.take_take, Nat.min_eq_right (by omega), show n - 2 - (bs.take k).length = (n - 2 - (k + 1)) + 1 by simp; omega, List.take_succ_cons]
    have hsplit' : (bs.set k x).take (n - 2) = bs.take k ++ x :: (bs.drop (k + 1)).take (n - 2 - (k + 1)) := by
      rw [List.set_eq_take_append_cons_drop, if_pos hkl, List.take_append, List.take_take, Nat.min_eq_right (by omega), show n - 2 - (bs.take k).length = (n - 2 - (k + 1)) + 1 by simp; omega, List.take_succ_cons]
    rw [hsplit, hsplit'] at hs'
    exact sumL_flip (by omega) (fun y hy => hb y (List.mem_of_mem_take hy)) (fun y hy => hb y (List.mem_of_mem_drop (List.mem_of_mem_take hy))) (hb _ (List.getElem_mem hkl)) hx hne hs'
  · have ht : (bs.set k x).take (n - 2) = bs.take (n - 2) := List.take_set_of_le (by omega)
    rw [ht, ← hs] at hs'
    unfold b2 at hs'
    have ha := hb0 (n - 2)
    have hbb := hb0 (n - 2 + 1)
    rcases (show k = n - 2 ∨ k = n - 2 + 1 by omega) with rfl | rfl
    · rw [hgetk, hget _ (by omega)] at hs'
      rw [hgk] at ha hs'
      omega
    · rw [hgetk, hget _ (by omega)] at hs'
      rw [hgk] at hbb hs'
      omega
theorem whole_long {bs cs : List Nat} {n m : Nat} (h : Whole bs n) (h' : Whole cs m) (hp : bs.take 9 = cs.take 9) (hn : 11 ≤ n) (hm : 11 ≤ m) : n = m := by
  have e : ∀ i, i < 9 → bs.getD i 0 = cs.getD i 0 := fun i hi => by
    rw [List.getD_eq_getElem?_getD, List.getD_eq_getElem?_getD, ← List.getElem?_take_of_lt hi, hp, List.getElem?_take_of_lt hi]
  have h1 := h.long
  have h2 := h'.long
  unfold b2 at h1 h2
  rw [e 7 (by omega), e (7 + 1) (by omega)] at h1
  omega
end Go.Proofs.Ythnopcoahcdjjaa.Ly10
