/- The contract of package cmd's Right, of a command that may not be; no condition. -/
import Derived.Test.YthnopcoahcdjjaaCmdA
namespace Go.Proofs.Ythnopcoahcdjjaa.Ly9
open Go.ChangeShapes Go.WideShapes Go.ChangeAt Go.RowKit Base
set_option linter.unusedVariables false
set_option linter.unusedSimpArgs false

theorem no_of {o a s c m b t : Int} (hn : ¬ RP o a s c m b t) : (o = 1 ∧ (s < 1 ∨ 8 < s)) ∨ (o = 1 ∧ (1 ≤ s ∧ s ≤ 8) ∧ (a < 0 ∨ 64 - s < a)) ∨ (o = 1 ∧ (1 ≤ s ∧ s ≤ 8) ∧ (0 ≤ a ∧ a ≤ 64 - s) ∧ (m < 1 ∨ 4 < m)) ∨ (o = 1 ∧ (1 ≤ s ∧ s ≤ 8) ∧ (0 ≤ a ∧ a ≤ 64 - s) ∧ (1 ≤ m ∧ m ≤ 4) ∧ (c < 0 ∨ m - 1 < c)) ∨
    (o = 2 ∧ (s < 1 ∨ 8 < s)) ∨ (o = 2 ∧ (1 ≤ s ∧ s ≤ 8) ∧ (a < 0 ∨ 64 - s < a)) ∨ (o = 2 ∧ (1 ≤ s ∧ s ≤ 8) ∧ (0 ≤ a ∧ a ≤ 64 - s) ∧ (m < 1 ∨ 4 < m)) ∨ (o = 3 ∧ (s < 1 ∨ 8 < s)) ∨ (o = 3 ∧ (1 ≤ s ∧ s ≤ 8) ∧ (m < 1 ∨ 4 < m)) ∨ (o = 4 ∧ (b < 1 ∨ 100 < b)) ∨ (o = 6 ∧ (t < 0 ∨ 1023 < t)) ∨ (o = 8 ∧ (t < 0 ∨ 1023 < t)) ∨ (o < 0 ∨ 8 < o) := by
  by_cases o1 : o = 1
  · by_cases k1 : 1 ≤ s ∧ s ≤ 8
    · by_cases k2 : 0 ≤ a ∧ a ≤ 64 - s
      · by_cases k3 : 1 ≤ m ∧ m ≤ 4
        · by_cases k4 : 0 ≤ c ∧ c ≤ m - 1
          · exact absurd (.inl ⟨o1, k1.1, k1.2, k2.1, k2.2, k3.1, k3.2, k4.1, k4.2⟩) hn
          · exact .inr (.inr (.inr (.inl ⟨o1, k1, k2, k3, by omega⟩)))
        · exact .inr (.inr (.inl ⟨o1, k1, k2, by omega⟩))
      · exact .inr (.inl ⟨o1, k1, by omega⟩)
    · exact .inl ⟨o1, by omega⟩
  · by_cases o2 : o = 2
    · by_cases k1 : 1 ≤ s ∧ s ≤ 8
      · by_cases k2 : 0 ≤ a ∧ a ≤ 64 - s
        · by_cases k3 : 1 ≤ m ∧ m ≤ 4
          · exact absurd (.inr (.inl ⟨o2, k1.1, k1.2, k2.1, k2.2, k3.1, k3.2⟩)) hn
          · exact .inr (.inr (.inr (.inr (.inr (.inr (.inl ⟨o2, k1, k2, by omega⟩))))))
        · exact .inr (.inr (.inr (.inr (.inr (.inl ⟨o2, k1, by omega⟩)))))
      · exact .inr (.inr (.inr (.inr (.inl ⟨o2, by omega⟩))))
    · by_cases o3 : o = 3
      · by_cases k1 : 1 ≤ s ∧ s ≤ 8
        · by_cases k3 : 1 ≤ m ∧ m ≤ 4
          · exact absurd (.inr (.inr (.inl ⟨o3, k1.1, k1.2, k3.1, k3.2⟩))) hn
          · exact .inr (.inr (.inr (.inr (.inr (.inr (.inr (.inr (.inl ⟨o3, k1, by omega⟩))))))))
        · exact .inr (.inr (.inr (.inr (.inr (.inr (.inr (.inl ⟨o3, by omega⟩)))))))
      · by_cases o4 : o = 4
        · by_cases k1 : 1 ≤ b ∧ b ≤ 100
          · exact absurd (.inr (.inr (.inr (.inl ⟨o4, k1.1, k1.2⟩)))) hn
          · exact .inr (.inr (.inr (.inr (.inr (.inr (.inr (.inr (.inr (.inl ⟨o4, by omega⟩)))))))))
        · by_cases o6 : o = 6
          · by_cases k1 : 0 ≤ t ∧ t ≤ 1023
            · exact absurd (.inr (.inr (.inr (.inr (.inl ⟨o6, k1.1, k1.2⟩))))) hn
            · exact .inr (.inr (.inr (.inr (.inr (.inr (.inr (.inr (.inr (.inr (.inl ⟨o6, by omega⟩))))))))))
          · by_cases o8 : o = 8
            · by_cases k1 : 0 ≤ t ∧ t ≤ 1023
              · exact absurd (.inr (.inr (.inr (.inr (.inr (.inl ⟨o8, k1.1, k1.2⟩)))))) hn
              · exact .inr (.inr (.inr (.inr (.inr (.inr (.inr (.inr (.inr (.inr (.inr (.inl ⟨o8, by omega⟩)))))))))))
            · by_cases o0 : o = 0
              · exact absurd (.inr (.inr (.inr (.inr (.inr (.inr (.inl o0))))))) hn
              · by_cases o5 : o = 5
                · exact absurd (.inr (.inr (.inr (.inr (.inr (.inr (.inr (.inl o5)))))))) hn
                · by_cases o7 : o = 7
                  · exact absurd (.inr (.inr (.inr (.inr (.inr (.inr (.inr (.inr o7)))))))) hn
                  · exact .inr (.inr (.inr (.inr (.inr (.inr (.inr (.inr (.inr (.inr (.inr (.inr ((by omega)))))))))))))
set_option maxHeartbeats 16000000 in
theorem right_no (o a s c m b t : Int) (w : World) (hn : ¬ RP o a s c m b t) (bs : -9223372036854775808 ≤ s ∧ s ≤ 9223372036854775807) :
    Calls Try.prog 18 #[cv o a s c m b t] w fun e w' => e = .returned (.bool false) ∧ Below w.heap.size w w' := by
  obtain ⟨bs0, bs1⟩ := bs
  have hb : Below w.heap.size w (w.alloc (.cells #[.int .i64 o, .int .i64 a, .int .i64 s, .int .i64 c, .int .i64 m, .int .i64 b, .int .i64 t] TC)) := (Below.refl _ _).alloc (Nat.le_refl _) _
  have HB := Lib.hid hb
  clear hb
  have hs : (1 ≤ s ∧ s ≤ 8) ∨ (s < 1) ∨ (8 < s) := by omega
  have hf : (o < 0 ∨ 8 < o) → ((o == 1) = false ∧ (o == 2) = false ∧ (o == 3) = false ∧ (o == 4) = false ∧ (o == 6) = false ∧ (o == 8) = false) := by
    intro h
    simp
    omega
  rcases no_of hn with ⟨rfl, q⟩ | ⟨rfl, ⟨h0, h1⟩, q⟩ | ⟨rfl, ⟨h0, h1⟩, ⟨h2, h3⟩, q⟩ | ⟨rfl, ⟨h0, h1⟩, ⟨h2, h3⟩, ⟨h4, h5⟩, q⟩ | ⟨rfl, q⟩ | ⟨rfl, ⟨h0, h1⟩, q⟩ | ⟨rfl, ⟨h0, h1⟩, ⟨h2, h3⟩, q⟩ | ⟨rfl, q⟩ | ⟨rfl, ⟨h0, h1⟩, q⟩ | ⟨rfl, q⟩ | ⟨rfl, q⟩ | ⟨rfl, q⟩ | q
  case' inr.inr.inr.inr.inr.inr.inr.inr.inr.inr.inr.inr => obtain ⟨e1, e2, e3, e4, e6, e8⟩ := hf q
  all_goals
    clear hn hf
    rcases hs with ⟨s0, s1⟩ | s0 | s0
    all_goals
      first
        | (exfalso; omega)
        | (as_aux_lemma =>
            go_enter Try.func18, Try.ntmps18
            go_wp2_with (first
              | (go_at_call 47; refine (within_yes _ _ _ _ (by omega) (by omega)).mono ?_; rintro e w' ⟨rfl, rfl⟩)
              | (go_at_call 47; refine (within_no _ _ _ _ (by omega)).mono ?_; rintro e w' ⟨rfl, rfl⟩)
              | (go_at_call 47; refine (within_any _ _ _ _).mono ?_; rintro e w' ⟨rfl, rfl⟩)
              | (go_at_call 48; refine (is_no _ _ (by omega)).mono ?_; rintro e w' ⟨rfl, rfl⟩))
            go_ret
            exact ⟨rfl, HB.out⟩)
end Go.Proofs.Ythnopcoahcdjjaa.Ly9
