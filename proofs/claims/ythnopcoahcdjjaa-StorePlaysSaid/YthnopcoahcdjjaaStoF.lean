/- Package store's contracts, whatever is asked for; what comes in as an Act; no condition. -/
import Derived.Test.YthnopcoahcdjjaaStoE
import Derived.Test.YthnopcoahcdjjaaPush
namespace Go.Proofs.Ythnopcoahcdjjaa.Ly13
open Go.ChangeShapes Go.WideShapes Go.ChangeAt Go.RowKit Base
set_option linter.unusedVariables false
set_option linter.unusedSimpArgs false

theorem keepc {W w' : World} {b o : Nat} {v : Value} (h : W.cell? ⟨b, o, none⟩ = some v) (hb : Below W.heap.size W w') : w'.cell? ⟨b, o, none⟩ = some v :=
  (hb.cell (p := ⟨b, o, none⟩) (World.block_lt_of_cell? W _ h)).trans h
theorem lst_of_grid {w : World} {A : Option Addr} {n : Nat} {rows : List (List Value)} (g : Grid w A n (Sh.size (.int .u8)) rows) (hr : ∀ r ∈ rows, Reads w (.int .u8) r) : ∃ ws : List Int, Lst w A n (ws.map (Value.int .u8)) ∧ ∀ x ∈ ws, 0 ≤ x ∧ x ≤ 255 := by
  have key : ∀ r ∈ rows, ∃ v : Int, r = [.int .u8 v] ∧ 0 ≤ v ∧ v ≤ 255 := by
    intro r h
    obtain ⟨v, e, hw⟩ := hr r h
    exact ⟨v, e, (bounds_u8 hw).1, (bounds_u8 hw).2⟩
  have ex : ∃ ws : List Int, rows = ws.map (fun v => [Value.int .u8 v]) ∧ ∀ x ∈ ws, 0 ≤ x ∧ x ≤ 255 := by
    clear g hr
    induction rows with
    | nil => exact ⟨[], rfl, fun x hx => by cases hx⟩
    | cons r rs ih =>
      obtain ⟨v, rfl, h1, h2⟩ := key r (by simp)
      obtain ⟨ws, rfl, h3⟩ := ih (fun r hr => key r (by simp [hr]))
      refine ⟨v :: ws, rfl, fun x hx => ?_⟩
      rcases List.mem_cons.1 hx with rfl | hx
      · exact ⟨h1, h2⟩
      · exact h3 x hx
  obtain ⟨ws, rfl, hb⟩ := ex
  refine ⟨ws, ⟨by simpa using g.1, fun hn => ?_⟩, hb⟩
  obtain ⟨b, off, e, hlt, hc⟩ := g.2 hn
  refine ⟨b, off, e, hlt, fun k hk => ?_⟩
  have := hc k 0 hk (by simp [Sh.size])
  simp only [Sh.size, Nat.mul_one, Nat.add_zero] at this
  rw [this]
  simp only [List.getElem?_map]
  cases ws[k]? <;> rfl
abbrev shA : Sh := .fld (.int .i64) (.fld (.int .i64) (.fld (.int .i64) (.fld (.sl (.int .u8)) .nil)))
theorem act_of {w : World} {cs : List Value} (h : Reads w shA cs) : ∃ (k a m : Int) (A : Option Addr) (n c : Nat) (ws : List Int), cs = [.int .i64 k, .int .i64 a, .int .i64 m, .slice A n c] ∧ (-9223372036854775808 ≤ k ∧ k ≤ 9223372036854775807) ∧ (-9223372036854775808 ≤ a ∧ a ≤ 9223372036854775807) ∧
    (-9223372036854775808 ≤ m ∧ m ≤ 9223372036854775807) ∧ n ≤ c ∧ c ≤ maxLen ∧ Lst w A n (ws.map (Value.int .u8)) ∧ ∀ x ∈ ws, 0 ≤ x ∧ x ≤ 255 := by
  obtain ⟨_, _, rfl, ⟨k, rfl, hk⟩, _, _, rfl, ⟨a, rfl, ha⟩, _, _, rfl, ⟨m, rfl, hm⟩, _, _, rfl, ⟨A, n, c, rows, rfl, hnc, hcm, g, hr⟩, rfl⟩ := h
  obtain ⟨ws, hl, hb⟩ := lst_of_grid g hr
  exact ⟨k, a, m, A, n, c, ws, rfl, bounds_i64 hk, bounds_i64 ha, bounds_i64 hm, hnc, hcm, hl, hb⟩

def wW (f : Nat → Int) (a : Int) (n : Nat) (ws : List Int) : Nat → Int := if Rt a n then ovrW f a.toNat ws else f
def wG (p : Nat → Bool) (a n : Int) (v : Bool) : Nat → Bool := if Rt a n then ovr p a.toNat n.toNat v else p
def wA (x : Nat → Int) (a n : Int) : Nat → Int := if Rt a n then ovr x a.toNat n.toNat 0 else x
def wE (a n : Int) : Int := if Rt a n then 0 else 2
theorem write_all (b n c : Nat) (a : Int) (A : Option Addr) (ws : List Int) (f : Nat → Int) (p : Nat → Bool) (x : Nat → Int) (w : World) (h : Sto w b f p x) (hl : Lst w A n (ws.map (Value.int .u8))) (a0 : -9223372036854775808 ≤ a) (a1 : a ≤ 9223372036854775807) (hn : n ≤ 1000000) :
    Calls Try.prog 37 #[.pointer (some ⟨b, 0, none⟩), .int .i64 a, .slice A n c] w fun e w' => e = .returned (.int .i64 (wE a n)) ∧ Hid (Sto w' b (wW f a n ws) (wG p a n true) (wA x a n)) ∧ Hid (Wrote b w w') := by
  unfold wE wW wG wA
  by_cases hr : Rt a n
  · rw [if_pos hr, if_pos hr, if_pos hr, if_pos hr]
    have hr' := hr
    unfold Rt at hr
    obtain ⟨k, rfl⟩ : ∃ k : Nat, a = (k : Int) := ⟨a.toNat, by omega⟩
    simp only [Int.toNat_natCast]
    exact (write_ok b k n c A ws f p x w h hl (by omega) (by omega)).mono fun e w' ⟨h1, h2, h3⟩ => ⟨h1, h2, h3⟩
  · rw [if_neg hr, if_neg hr, if_neg hr, if_neg hr]
    exact (write_bad b a n c A w h.made hr a0 a1 hn).mono fun e w' ⟨h1, h2⟩ => ⟨h1, by subst h2; exact ⟨h, Wrote.refl _ _⟩⟩
theorem spoil_all (b : Nat) (a n : Int) (f : Nat → Int) (p : Nat → Bool) (x : Nat → Int) (w : World) (h : Sto w b f p x) (a0 : -9223372036854775808 ≤ a) (a1 : a ≤ 9223372036854775807) (n0 : -9223372036854775808 ≤ n) (n1 : n ≤ 9223372036854775807) :
    Calls Try.prog 38 #[.pointer (some ⟨b, 0, none⟩), .int .i64 a, .int .i64 n] w fun e w' => e = .returned (.int .i64 (wE a n)) ∧ Hid (Sto w' b f (wG p a n false) (wA x a n)) ∧ Hid (Wrote b w w') := by
  unfold wE wG wA
  by_cases hr : Rt a n
  · rw [if_pos hr, if_pos hr, if_pos hr]
    have hr' := hr
    unfold Rt at hr
    obtain ⟨k, rfl⟩ : ∃ k : Nat, a = (k : Int) := ⟨a.toNat, by omega⟩
    obtain ⟨j, rfl⟩ : ∃ k : Nat, n = (k : Int) := ⟨n.toNat, by omega⟩
    simp only [Int.toNat_natCast]
    exact (spoil_ok b k j f p x w h (by omega) (by omega)).mono fun e w' ⟨h1, h2, h3⟩ => ⟨h1, h2, h3⟩
  · rw [if_neg hr, if_neg hr, if_neg hr]
    exact (spoil_bad b a n w h.made hr a0 a1 n0 n1).mono fun e w' ⟨h1, h2⟩ => ⟨h1, by subst h2; exact ⟨h, Wrote.refl _ _⟩⟩
theorem new_ex (w : World) : Calls Try.prog 35 #[] w fun e w' => ∃ b, e = .returned (.pointer (some ⟨b, 0, none⟩)) ∧ w.heap.size ≤ b ∧ b < w'.heap.size ∧ Hid (Sto w' b (fun _ => 0) (fun _ => false) (fun _ => 0)) ∧ Hid (Below w.heap.size w w') :=
  (new_any w).mono fun e w' ⟨he, hs, hb⟩ => ⟨_, he, Nat.le_refl _, hs.lt, hs, hb⟩
theorem clone_ex (b : Nat) (f : Nat → Int) (p : Nat → Bool) (x : Nat → Int) (w : World) (h : Sto w b f p x) :
    Calls Try.prog 44 #[.pointer (some ⟨b, 0, none⟩)] w fun e w' => ∃ b', e = .returned (.pointer (some ⟨b', 0, none⟩)) ∧ w.heap.size ≤ b' ∧ b' < w'.heap.size ∧ Hid (Sto w' b' f p x) ∧ Hid (Below w.heap.size w w') :=
  (clone_any b f p x w h).mono fun e w' ⟨he, hs, hb⟩ => ⟨_, he, Nat.le_refl _, hs.lt, hs, hb⟩
theorem read1 (b t : Nat) (u : Int) (g : Bool) (f : Nat → Int) (p : Nat → Bool) (x : Nat → Int) (w : World) (h : Sto w b f p x) (ht : t < 64) (hu : f t = u) (hg : p t = g) :
    Calls Try.prog 42 #[.pointer (some ⟨b, 0, none⟩), .int .i64 t, .int .i64 1] w fun e w' => ∃ k, e = .returned (.tuple #[.slice (some ⟨k, 0, none⟩) 1 1, .bool g, .int .i64 0]) ∧ w.heap.size ≤ k ∧ k < w'.heap.size ∧ Hid (Obj1 w' k 5 #[.int .u8 u]) ∧ Hid (Below w.heap.size w w') :=
  (read_ok b t 1 f p x w h (Nat.le_refl _) (by omega)).mono fun e w' ⟨he, hs, hb⟩ => ⟨_, by rw [he]; simp [allG, hg], Nat.le_refl _, hs.lt, Lib.hid (by simpa [wrd, hu] using hs), hb⟩
theorem same_refl (f : Nat → Int) (p : Nat → Bool) (x : Nat → Int) : sameB f f p p x x = true := by rw [sameB_iff]; exact ⟨fun _ _ => rfl, fun _ _ => rfl, fun _ _ => rfl⟩
theorem same_id (b c : Nat) (f : Nat → Int) (p : Nat → Bool) (x : Nat → Int) (w : World) (h : Sto w b f p x) (k : Sto w c f p x) :
    Calls Try.prog 45 #[.pointer (some ⟨b, 0, none⟩), .pointer (some ⟨c, 0, none⟩)] w fun e w' => e = .returned (.bool true) ∧ Hid (Below w.heap.size w w') := by
  have := same_any b c f f p p x x w h k
  rw [same_refl] at this
  exact this
end Go.Proofs.Ythnopcoahcdjjaa.Ly13
