/- What a right schedule's numbers are: spans add up to the frame; names counted in a map. -/
import Derived.Test.YtkdmcnkahiimoaaVldL
namespace Go.Proofs.Ytkdmcnkahiimoaa.Ly7
open Go.ChangeShapes Go.WideShapes Go.ChangeAt Go.RowKit Base Go.Maps
set_option linter.unusedVariables false
set_option linter.unusedSimpArgs false

def sumI : List Int → Int
  | [] => 0
  | x :: r => x + sumI r
theorem sumI_app (a b : List Int) : sumI (a ++ b) = sumI a + sumI b := by
  induction a with
  | nil => simp [sumI]
  | cons x r ih => simp only [List.cons_append, sumI, ih]; omega
theorem sumI_next {xs : List Int} {k : Nat} {s : Int} (h : xs[k]? = some s) : sumI (xs.take (k + 1)) = sumI (xs.take k) + s := by
  rw [List.take_add_one, h, sumI_app]
  simp [sumI]
theorem sumI_bd {xs : List Int} (h : ∀ s ∈ xs, 1 ≤ s ∧ s ≤ 200) : 0 ≤ sumI xs ∧ sumI xs ≤ 200 * (xs.length : Int) := by
  induction xs with
  | nil => simp [sumI]
  | cons x r ih =>
    have h1 := h x (by simp)
    have h2 := ih (fun s hs => h s (by simp [hs]))
    simp only [sumI, List.length_cons]
    omega
theorem PS_good (ver : Nat) (ws : List Wd) : ∀ j, (∀ s ∈ (PS ver ws j).1, 1 ≤ s) ∧ sumI (PS ver ws j).1 = (PS ver ws j).2.2 - 3 ∧ ∃ q : Int, endS (ws.take j) (leadI ver) = 20 * q ∧ (PS ver ws j).2.2 + 2 ≤ q := by
  intro j
  induction j with
  | zero =>
    rw [PS_zero]
    refine ⟨by simp, by simp [sumI], 10 + 2 * (ver : Int), ?_, ?_⟩
    · simp only [List.take_zero, endS, leadI]; omega
    · show (3 : Int) + 2 ≤ _; omega
  | succ j ih =>
    obtain ⟨h1, h2, q, h3, h4⟩ := ih
    cases hx : ws[j]? with
    | none =>
      have h := List.getElem?_eq_none_iff.1 hx
      rw [PS_past hx, List.take_of_length_le (by omega)]
      rw [List.take_of_length_le h] at h3
      exact ⟨h1, h2, q, h3, h4⟩
    | some x =>
      have htb := x.tk_bd
      obtain ⟨G, hG⟩ : ∃ G : Int, 20 * G = x.tk := ⟨x.tk / 20, by unfold Wd.tk tkI; split <;> (try split) <;> (try split) <;> omega⟩
      by_cases h : x.k = 2
      · have h120 : x.tk = 120 := by unfold Wd.tk tkI; rw [if_neg (by omega), if_neg (by omega), if_pos h]
        rw [PS_two hx h, endS_next hx, h3]
        refine ⟨fun s hs => ?_, ?_, q + 6, by omega, ?_⟩
        · rcases List.mem_append.1 hs with hs | hs
          · exact h1 s hs
          · simp at hs
            omega
        · rw [sumI_app, h2]
          simp only [sumI]
          omega
        · show (20 * q + 40) / 20 + 2 ≤ q + 6
          omega
      · rw [PS_not hx h, endS_next hx, h3]
        exact ⟨h1, h2, q + G, by omega, by omega⟩
theorem span_good (ver : Nat) (ws : List Wd) : (∀ s ∈ spanF ver ws, 1 ≤ s) ∧ 20 * sumI (spanF ver ws) = endS ws (leadI ver) + 120 := by
  obtain ⟨h1, h2, q, h3, h4⟩ := PS_good ver ws ws.length
  rw [List.take_length] at h3
  unfold spanF
  refine ⟨fun s hs => ?_, ?_⟩
  · rcases List.mem_append.1 hs with hs | hs
    · exact h1 s hs
    · simp at hs
      omega
  · rw [sumI_app, h2]
    simp only [sumI]
    omega
theorem win_zero {md k b wd ad : Int} {n : Nat} {fs ts : List Int} (hk : k = 0) (h : Win md k b wd ad n fs ts 0) : (1 ≤ wd ∧ wd ≤ 8 ∧ 0 ≤ ad ∧ ad ≤ 64 - wd) ∧ namF fs md = true ∧ twF fs = false ∧ namF ts md = true ∧ anyIn fs ts = false ∧ twF ts = false := by
  subst hk
  unfold Win at h
  simp at h
  obtain ⟨h0, _, h1⟩ := h
  exact ⟨h0, h1⟩
theorem namF_at {xs : List Int} {md : Int} (h : namF xs md = true) : 0 < xs.length ∧ ∀ x ∈ xs, 0 ≤ x ∧ x < md := by
  unfold namF at h
  rw [Bool.and_eq_true, List.all_eq_true] at h
  refine ⟨?_, fun x hx => ?_⟩
  · cases xs with
    | nil => simp at h
    | cons a r => simp
  · have := h.2 x hx
    simpa using this
theorem new_fs {fs : List Int} (h : twF fs = false) {k : Nat} {x : Int} (hx : fs[k]? = some x) : (fs.take k).contains x = false := by
  cases e : (fs.take k).contains x with
  | false => rfl
  | true => rw [twF_yes hx e] at h; cases h
theorem new_ts {fs ts : List Int} (h : twF ts = false) (ha : anyIn fs ts = false) {k : Nat} {x : Int} (hx : ts[k]? = some x) : (fs ++ ts.take k).contains x = false := by
  cases e : (fs ++ ts.take k).contains x with
  | false => rfl
  | true =>
    rw [List.contains_iff_mem] at e
    rcases List.mem_append.1 e with e | e
    · obtain ⟨i, hi⟩ := List.getElem?_of_mem e
      rw [anyIn_yes hi (List.contains_iff_mem.2 (List.mem_of_getElem? hx))] at ha
      cases ha
    · rw [twF_yes hx (List.contains_iff_mem.2 e)] at h
      cases h
theorem chk_zero {f : Wd → Int} {md : Int} {ws0 ws1 : List Wd} {v j : Int} (h : Chk f md ws0 ws1 v j 0) : FrNo f 0 ws0 ∧ FrNo f 1 ws1 ∧ 2 ≤ md ∧ md ≤ 16 := by
  have hn : ∀ ver ws j, ¬ Fr f ver ws j 0 := fun ver ws j h => by
    rcases h with ⟨_, _, h⟩ | ⟨_, k, x, _, _, hf, _, h⟩ | ⟨_, _, _, _, h⟩
    · cases h
    · exact hf h.symm
    · cases h
  rcases h with ⟨_, _, _, h⟩ | ⟨hm, ⟨h, _⟩ | ⟨_, h, _⟩ | ⟨h0, h1, _⟩⟩
  · cases h
  · exact absurd h (hn _ _ _)
  · exact absurd h (hn _ _ _)
  · exact ⟨h0, h1, hm⟩
/-- A map that holds 1 at each name there is, and how many. -/
def MapS (w : World) (g n : Nat) (hv : List Int) : Prop :=
  ∃ D : DataW Unit, w.ownsMap Try.prog TI (plainElem Try.prog TI) g n D ∧ (∀ m : Int, D.atKey (.int .i64 m) (.lit (.int .i64 0)) = .lit (.int .i64 (if hv.contains m then 1 else 0))) ∧ (∀ m : Int, Go.Maps.has D (.int .i64 m) = hv.contains m) ∧ Go.Maps.size D = hv.length
theorem MapS.made (w : World) : MapS (w.alloc (.map #[] 0)) w.heap.size 0 [] := ⟨_, World.ownsMap_made _ _ _ _, fun m => rfl, fun m => rfl, rfl⟩
theorem MapS.put {w w0 : World} {g n n0 : Nat} {hv : List Int} {x : Int} {D : DataW Unit} (hk : (Lit.int .i64 x).wf = true) (ho0 : w0.ownsMap Try.prog TI (plainElem Try.prog TI) g n0 D) (ha : ∀ m : Int, D.atKey (.int .i64 m) (.lit (.int .i64 0)) = .lit (.int .i64 (if hv.contains m then 1 else 0)))
    (hh : ∀ m : Int, Go.Maps.has D (.int .i64 m) = hv.contains m) (hs : Go.Maps.size D = hv.length) (hx : hv.contains x = false) (ho : w.ownsMap Try.prog TI (plainElem Try.prog TI) g n (D.put (.int .i64 x) (.lit (.int .i64 1)))) : MapS w g n (hv ++ [x]) := by
  have hT := ho0.tidy lawI
  have hkey := lawI.key (keyOf_int_mk Try.underlying3 hk)
  refine ⟨_, ho, fun m => ?_, fun m => ?_, ?_⟩
  · by_cases e : m = x
    · subst e
      rw [atKey_put_same hT.isMap hkey]
      rw [if_pos (by simp)]
    · rw [atKey_put_other (by intro h; cases h; exact e rfl), ha m]
      congr 3
      simp [e]
  · by_cases e : m = x
    · subst e
      rw [has_put_same hT.isMap hkey]
      simp
    · rw [has_put_other (by intro h; cases h; exact e rfl), hh m]
      simp [e]
  · rw [size_put hT, hh x, hx, hs]
    simp
end Go.Proofs.Ytkdmcnkahiimoaa.Ly7
