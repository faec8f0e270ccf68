/- What an event does to its window (package trace's take); no condition but sizes. -/
import Derived.Test.YtanhblokhcaoiaaDoorTrcJ
namespace Go.Proofs.YtanhblokhcaoiaaDoor.Tr
open Go.ChangeShapes Go.WideShapes Go.ChangeAt Go.RowKit Base Go.Maps
open Hl (Ev TE TI)
set_option linter.unusedVariables false
set_option linter.unusedSimpArgs false

theorem belowB {w w' : World} {base : Nat} {row : Option Nat} (h : w.grownBy w' row) (hb : base ≤ w.heap.size) (hr : ∀ k, row = some k → base ≤ k) : Below base w w' :=
  ⟨h.os, h.tape, h.output, h.size, fun k hk => h.block k (by omega) (fun e => by have := hr k e.symm; omega)⟩
theorem drewG {w w' : World} {r : Option Nat} (h : w.drew.grownBy w' r) : w.grownBy w' r := ⟨h.os, h.tape, h.output, h.size, h.block⟩
theorem cellW {w1 : World} {base b N cap i : Nat} {l : List Wm} {x : Wm} (ho : w1.ownsRow base TW 8 (.slice (some ⟨b, 0, none⟩) N cap) l.length (wmC l)) (hx : l[i]? = some x) {j : Nat} (hj : j < 8) {v : Value} (hv : (wmL x)[j]? = some v) : w1.cell? ⟨b, i * 8 + j, none⟩ = some v ∧ w1.frozen? ⟨b, i * 8 + j, none⟩ = false := by
  have hN : N = l.length := by
    rcases ho.2 with ⟨e, _⟩ | ⟨_, _, _, e, _⟩
    · cases e
    · injection e
  subst hN
  exact row_cellN ho ((wmC_at l i j x hx hj).trans hv)
/-- What a window says behind an event. -/
def takeP (p : Pw) (e : Ev) (vs : List Nat) : Pw :=
  if e.k = 1 then { p with ss := ins p.ss e.m }
  else if e.k = 3 then { p with ms := ins p.ms e.m }
  else if e.k = 2 then (if p.ts = [] then { p with c := e.c, ws := vs, ts := ins p.ts e.m } else { p with ts := ins p.ts e.m })
  else p
set_option maxRecDepth 100000 in
set_option maxHeartbeats 4000000 in
theorem take_any (base b N cap i : Nat) (l : List Wm) (x : Wm) (e : Ev) (vs : List Nat) (w : World) (h : WsAt w base (.slice (some ⟨b, 0, none⟩) N cap) l) (hx : l[i]? = some x) (hl : Lst w e.A e.n (vs.map bV)) (hb : base ≤ w.heap.size) (hn : e.n ≤ 140737488351232)
    (hz : x.p.ss.length ≤ 100000 ∧ x.p.ts.length ≤ 100000 ∧ x.p.ms.length ≤ 100000) (hk : e.k = 1 ∨ e.k = 2 ∨ e.k = 3) :
    Calls Tryd.prog 47 #[.pointer (some ⟨b, i * 8, none⟩), .agg #[.int .i64 e.t, .int .i64 e.m, .int .i64 e.k, .int .i64 e.s, .int .i64 e.v, .int .i64 e.si, .int .i64 e.c, .slice e.A e.n e.d]] w fun e' w' => e' = .returned (.tuple #[]) ∧ ∃ l', WsAt w' base (.slice (some ⟨b, 0, none⟩) N cap) l' ∧ l'.map Wm.p = (l.map Wm.p).set i (takeP x.p e vs) ∧ Below base w w' := by
  obtain ⟨o, HOO⟩ : ∃ o, Hid (i * 8 = o) := ⟨_, Lib.hid rfl⟩
  have HX := Lib.hid hx
  have HBB := Lib.hid hb
  have HN := Lib.hid hn
  have HSX := Lib.hid hz
  have HGB : Hid (base ≤ b) := Lib.hid (h.own.lt b rfl).1
  obtain ⟨gb, HGG⟩ : ∃ gb, Hid (w.heap.size = gb) := ⟨_, Lib.hid rfl⟩
  obtain ⟨W1, HW1⟩ : ∃ W1, Hid (W1 = w.alloc (.cells #[.int .i64 e.t, .int .i64 e.m, .int .i64 e.k, .int .i64 e.s, .int .i64 e.v, .int .i64 e.si, .int .i64 e.c, .slice e.A e.n e.d] TE)) := ⟨_, Lib.hid rfl⟩
  have hb1 : Below w.heap.size w W1 := by rw [HW1.out]; exact bel_new _ _
  have HB1 : Hid (Below base w W1.drew) := Lib.hid (hb1.mono hb).drew
  have HO1 : Hid (Obj1 W1 gb TE #[.int .i64 e.t, .int .i64 e.m, .int .i64 e.k, .int .i64 e.s, .int .i64 e.v, .int .i64 e.si, .int .i64 e.c, .slice e.A e.n e.d]) := Lib.hid (by rw [HW1.out, ← HGG.out]; exact Obj1.new _ _ _)
  have HW1S := Lib.hid (h.below hb1)
  have hbw : b < w.heap.size := (h.own.lt b rfl).2
  have HL1 := Lib.hid (hl.kept hb1)
  have q2 : W1.cell? ⟨gb, 2, none⟩ = some (.int .i64 e.k) := HO1.out.cell 2
  rw [HOO.out]
  clear hx hb hn hz h hl hb1
  rcases hk with hk | hk | hk
  · have HTP : Hid (takeP x.p e vs = { x.p with ss := ins x.p.ss e.m }) := Lib.hid (by unfold takeP; rw [if_pos hk])
    rw [hk] at q2
    have HK := Lib.hid hk
    clear hk
    go_enter Tryd.func47, Tryd.ntmps47
    go_upto_region 1 with (fail)
    rw [← HW1.out, HGG.out]
    go_upto_region 3 with (fail)
    --F1
    clear q2
    obtain ⟨wS, HSS⟩ : ∃ wS, Hid (wS = W1) := ⟨_, Lib.hid rfl⟩
    rw [← HSS.out]
    obtain ⟨lS, HLS⟩ : ∃ lS, Hid (lS = l) := ⟨_, Lib.hid rfl⟩
    obtain ⟨xS, HXX⟩ : ∃ xS, Hid (xS = x) := ⟨_, Lib.hid rfl⟩
    have HWS : Hid (WsAt wS base (.slice (some ⟨b, 0, none⟩) N cap) lS) := Lib.hid (by rw [HSS.out, HLS.out]; exact HW1S.out)
    have HXS : Hid (lS[i]? = some xS) := Lib.hid (by rw [HLS.out, HXX.out]; exact HX.out)
    have HOS : Hid (Obj1 wS gb TE #[.int .i64 e.t, .int .i64 e.m, .int .i64 e.k, .int .i64 e.s, .int .i64 e.v, .int .i64 e.si, .int .i64 e.c, .slice e.A e.n e.d]) := Lib.hid (by rw [HSS.out]; exact HO1.out)
    have HBS : Hid (Below base w wS.drew) := Lib.hid (by rw [HSS.out]; exact HB1.out)
    have HBB1 : Hid (base ≤ wS.drew.heap.size) := Lib.hid (Nat.le_trans HBB.out HBS.out.size)
    have HSET : Hid (∀ q : Pw, (lS.map Wm.p).set i q = (l.map Wm.p).set i q) := Lib.hid (fun q => by rw [HLS.out])
    have HTX : Hid (takeP x.p e vs = { xS.p with ss := ins xS.p.ss e.m }) := Lib.hid (by rw [HXX.out]; exact HTP.out)
    have HSZ : Hid (xS.p.ss.length ≤ 100000 ∧ xS.p.ts.length ≤ 100000 ∧ xS.p.ms.length ≤ 100000) := Lib.hid (by rw [HXX.out]; exact HSX.out)
    have HR := Lib.hid (rising_any base xS.sv xS.p.ss e.m wS.drew (by have := HWS.out.row i xS HXS.out 0 (by omega); unfold rowOk at this; rw [show subL xS 0 = xS.p.ss.map iV from rfl, List.length_map] at this; exact this) ((HWS.out.ok xS (List.mem_of_getElem? HXS.out)).1) HBB1.out (HSZ.out.1))
    have k3 : wS.cell? ⟨b, o + 3, none⟩ = some xS.sv := by
      have := cellW HWS.out.own HXS.out (j := 3) (by omega) (v := xS.sv) rfl
      rw [HOO.out] at this
      exact this.1
    have k1 : wS.cell? ⟨gb, 1, none⟩ = some (.int .i64 e.m) := HOS.out.cell 1
    refine wp_region_any (by kernel_rfl) ?_
    change wpAny _ _ _ _ _ _ _ (World.drew _)
    refine wpAny_take (i := 0) (v := .pointer (some ⟨b, o, none⟩)) rfl (by kernel_rfl) (by kernel_rfl) (by kernel_rfl) (fun _ _ _ h => h) (Or.inl ⟨by rfl, fun w => by go_simp⟩) ?_
    try simp only [Act.put, List.getElem_toArray, List.getElem_cons_succ, List.getElem_cons_zero, List.setIfInBounds_toArray, List.set_cons_zero, List.set_cons_succ]
    refine wpAny_take (i := 1) (v := .pointer (some ⟨b, o, none⟩)) rfl (by kernel_rfl) (by kernel_rfl) (by kernel_rfl) (fun _ _ _ h => h) (Or.inl ⟨by rfl, fun w => by go_simp⟩) ?_
    try simp only [Act.put, List.getElem_toArray, List.getElem_cons_succ, List.getElem_cons_zero, List.setIfInBounds_toArray, List.set_cons_zero, List.set_cons_succ]
    refine wpAny_take (i := 2) (v := .pointer (some ⟨b, o, none⟩)) rfl (by kernel_rfl) (by kernel_rfl) (by kernel_rfl) (fun _ _ _ h => h) (Or.inl ⟨by rfl, fun w => by go_simp⟩) ?_
    try simp only [Act.put, List.getElem_toArray, List.getElem_cons_succ, List.getElem_cons_zero, List.setIfInBounds_toArray, List.set_cons_zero, List.set_cons_succ]
    refine wpAny_take (i := 3) (v := .pointer (some ⟨b, o + 3, none⟩)) rfl (by kernel_rfl) (by kernel_rfl) (by kernel_rfl) (fun _ _ _ h => h) (Or.inl ⟨by rfl, fun w => by go_simp⟩) ?_
    try simp only [Act.put, List.getElem_toArray, List.getElem_cons_succ, List.getElem_cons_zero, List.setIfInBounds_toArray, List.set_cons_zero, List.set_cons_succ]
    refine wpAny_take (i := 5) (v := .pointer (some ⟨gb, 1, none⟩)) rfl (by kernel_rfl) (by kernel_rfl) (by kernel_rfl) (fun _ _ _ h => h) (Or.inl ⟨by rfl, fun w => by go_simp⟩) ?_
    try simp only [Act.put, List.getElem_toArray, List.getElem_cons_succ, List.getElem_cons_zero, List.setIfInBounds_toArray, List.set_cons_zero, List.set_cons_succ]
    refine wpAny_ready (rs := [4, 6]) (by kernel_rfl) (by simp) ?_
    refine AllReady.cons rfl (fun KK hK => ?_) (AllReady.cons rfl (fun KK hK => ?_) AllReady.nil)
    · go_simp
      refine hK _ _ ?_
      clear hK KK
      try simp only [Act.put, List.getElem_toArray, List.getElem_cons_succ, List.getElem_cons_zero, List.setIfInBounds_toArray, List.set_cons_zero, List.set_cons_succ]
      refine wpAny_ready (rs := [6]) (by kernel_rfl) (by simp) ?_
      refine AllReady.cons rfl (fun KK hK => ?_) AllReady.nil
      go_simp
      refine hK _ _ ?_
      clear hK KK
      try simp only [Act.put, List.getElem_toArray, List.getElem_cons_succ, List.getElem_cons_zero, List.setIfInBounds_toArray, List.set_cons_zero, List.set_cons_succ]
      refine wpAny_ready (rs := [7]) (by kernel_rfl) (by simp) ?_
      refine AllReady.cons rfl (fun KK hK => ?_) AllReady.nil
      go_simp
      refine HR.out.mono ?_
      rintro e' w2 ⟨vR0, rfl, h1, h2, h3⟩
      obtain ⟨vA, vc, rfl⟩ := row_sl h1
      have HP1 := Lib.hid h1
      have HP2 : Hid (wS.grownBy w2 (sub xS 0).ownBlock) := Lib.hid (drewG h2)
      have HP2d := Lib.hid h2
      have HP3 : Hid (Grow wS (sub xS 0) (.slice vA (ins xS.p.ss e.m).length vc)) := Lib.hid h3
      clear h1 h2 h3
      have hcw := cellW (HWS.out.ownKept HXS.out (f := 0) HP2.out) HXS.out (j := 3) (by omega) (v := xS.sv) rfl
      rw [HOO.out] at hcw
      have y1 : w2.cell? ⟨b, o + 3, none⟩ = some xS.sv := hcw.1
      have y2 : w2.frozen? ⟨b, o + 3, none⟩ = false := hcw.2
      clear hcw
      refine hK _ _ ?_
      clear hK KK
      try simp only [Act.put, List.getElem_toArray, List.getElem_cons_succ, List.getElem_cons_zero, List.setIfInBounds_toArray, List.set_cons_zero, List.set_cons_succ]
      refine wpAny_take (i := 8) (v := .pointer (some ⟨b, o, none⟩)) rfl (by kernel_rfl) (by kernel_rfl) (by kernel_rfl) (fun _ _ _ h => h) (Or.inl ⟨by rfl, fun w => by go_simp⟩) ?_
      try simp only [Act.put, List.getElem_toArray, List.getElem_cons_succ, List.getElem_cons_zero, List.setIfInBounds_toArray, List.set_cons_zero, List.set_cons_succ]
      refine wpAny_take (i := 9) (v := .pointer (some ⟨b, o + 3, none⟩)) rfl (by kernel_rfl) (by kernel_rfl) (by kernel_rfl) (fun _ _ _ h => h) (Or.inl ⟨by rfl, fun w => by go_simp⟩) ?_
      try simp only [Act.put, List.getElem_toArray, List.getElem_cons_succ, List.getElem_cons_zero, List.setIfInBounds_toArray, List.set_cons_zero, List.set_cons_succ]
      refine wpAny_ready (rs := [10]) (by kernel_rfl) (by simp) ?_
      refine AllReady.cons rfl (fun KK hK => ?_) AllReady.nil
      go_simp
      refine hK _ _ ?_
      clear hK KK
      try simp only [Act.put, List.getElem_toArray, List.getElem_cons_succ, List.getElem_cons_zero, List.setIfInBounds_toArray, List.set_cons_zero, List.set_cons_succ]
      refine wpAny_done (by kernel_rfl) ?_ _
      have HWE : Hid (WsAt (w2.setCell ⟨b, o + 3, none⟩ (.slice vA (ins xS.p.ss e.m).length vc)) base (.slice (some ⟨b, 0, none⟩) N cap) (lS.set i { xS with sv := (.slice vA (ins xS.p.ss e.m).length vc) , p := { xS.p with ss := ins xS.p.ss e.m } })) := Lib.hid (by
        rw [← HOO.out]
        exact HWS.out.upd (w1 := w2) (f := 0) (j := 3) (x' := { xS with sv := (.slice vA (ins xS.p.ss e.m).length vc) , p := { xS.p with ss := ins xS.p.ss e.m } }) HXS.out (by omega) rfl
          (fun f' h4 hne => by
            rcases (show f' = 0 ∨ f' = 1 ∨ f' = 2 ∨ f' = 3 by omega) with rfl | rfl | rfl | rfl
            all_goals first | exact absurd rfl hne | exact ⟨rfl, rfl⟩)
          HP2.out (HWS.out.newB HP3.out) (fun _ => by
            unfold rowOk
            rw [show (subL { xS with sv := (.slice vA (ins xS.p.ss e.m).length vc) , p := { xS.p with ss := ins xS.p.ss e.m } } 0) = (ins xS.p.ss e.m).map iV from rfl, List.length_map]
            exact HP1.out)
          (by
            obtain ⟨k1, k2, k3⟩ := HWS.out.ok xS (List.mem_of_getElem? HXS.out)
            exact ⟨ins_sorted k1, k2, k3⟩))
      have HPE : Hid ((lS.set i { xS with sv := (.slice vA (ins xS.p.ss e.m).length vc) , p := { xS.p with ss := ins xS.p.ss e.m } }).map Wm.p = (l.map Wm.p).set i (takeP x.p e vs)) := Lib.hid (by
        rw [List.map_set, HSET.out, HTX.out])
      have HBE : Hid (Below base w (w2.setCell ⟨b, o + 3, none⟩ (.slice vA (ins xS.p.ss e.m).length vc))) := Lib.hid ((HBS.out.trans (belowB HP2d.out HBB1.out (fun k hk => ((HWS.out.row i xS HXS.out 0 (by omega)).lt k hk).1))).setCell HGB.out (.slice vA (ins xS.p.ss e.m).length vc))
      clear k1 k3 HR HP1 HP2 HP2d HP3 y1 y2
      generalize w2.setCell ⟨b, o + 3, none⟩ (.slice vA (ins xS.p.ss e.m).length vc) = w4 at HWE HBE ⊢
      go_wp2
      first | go_end0 | refine bodyPost_ret (results_none rfl _ _ _) rfl ?_
      exact ⟨rfl, _, HWE.out, HPE.out, HBE.out⟩

    · go_simp
      refine hK _ _ ?_
      clear hK KK
      try simp only [Act.put, List.getElem_toArray, List.getElem_cons_succ, List.getElem_cons_zero, List.setIfInBounds_toArray, List.set_cons_zero, List.set_cons_succ]
      refine wpAny_ready (rs := [4]) (by kernel_rfl) (by simp) ?_
      refine AllReady.cons rfl (fun KK hK => ?_) AllReady.nil
      go_simp
      refine hK _ _ ?_
      clear hK KK
      try simp only [Act.put, List.getElem_toArray, List.getElem_cons_succ, List.getElem_cons_zero, List.setIfInBounds_toArray, List.set_cons_zero, List.set_cons_succ]
      refine wpAny_ready (rs := [7]) (by kernel_rfl) (by simp) ?_
      refine AllReady.cons rfl (fun KK hK => ?_) AllReady.nil
      go_simp
      refine HR.out.mono ?_
      rintro e' w2 ⟨vR0, rfl, h1, h2, h3⟩
      obtain ⟨vA, vc, rfl⟩ := row_sl h1
      have HP1 := Lib.hid h1
      have HP2 : Hid (wS.grownBy w2 (sub xS 0).ownBlock) := Lib.hid (drewG h2)
      have HP2d := Lib.hid h2
      have HP3 : Hid (Grow wS (sub xS 0) (.slice vA (ins xS.p.ss e.m).length vc)) := Lib.hid h3
      clear h1 h2 h3
      have hcw := cellW (HWS.out.ownKept HXS.out (f := 0) HP2.out) HXS.out (j := 3) (by omega) (v := xS.sv) rfl
      rw [HOO.out] at hcw
      have y1 : w2.cell? ⟨b, o + 3, none⟩ = some xS.sv := hcw.1
      have y2 : w2.frozen? ⟨b, o + 3, none⟩ = false := hcw.2
      clear hcw
      refine hK _ _ ?_
      clear hK KK
      try simp only [Act.put, List.getElem_toArray, List.getElem_cons_succ, List.getElem_cons_zero, List.setIfInBounds_toArray, List.set_cons_zero, List.set_cons_succ]
      refine wpAny_take (i := 8) (v := .pointer (some ⟨b, o, none⟩)) rfl (by kernel_rfl) (by kernel_rfl) (by kernel_rfl) (fun _ _ _ h => h) (Or.inl ⟨by rfl, fun w => by go_simp⟩) ?_
      try simp only [Act.put, List.getElem_toArray, List.getElem_cons_succ, List.getElem_cons_zero, List.setIfInBounds_toArray, List.set_cons_zero, List.set_cons_succ]
      refine wpAny_take (i := 9) (v := .pointer (some ⟨b, o + 3, none⟩)) rfl (by kernel_rfl) (by kernel_rfl) (by kernel_rfl) (fun _ _ _ h => h) (Or.inl ⟨by rfl, fun w => by go_simp⟩) ?_
      try simp only [Act.put, List.getElem_toArray, List.getElem_cons_succ, List.getElem_cons_zero, List.setIfInBounds_toArray, List.set_cons_zero, List.set_cons_succ]
      refine wpAny_ready (rs := [10]) (by kernel_rfl) (by simp) ?_
      refine AllReady.cons rfl (fun KK hK => ?_) AllReady.nil
      go_simp
      refine hK _ _ ?_
      clear hK KK
      try simp only [Act.put, List.getElem_toArray, List.getElem_cons_succ, List.getElem_cons_zero, List.setIfInBounds_toArray, List.set_cons_zero, List.set_cons_succ]
      refine wpAny_done (by kernel_rfl) ?_ _
      have HWE : Hid (WsAt (w2.setCell ⟨b, o + 3, none⟩ (.slice vA (ins xS.p.ss e.m).length vc)) base (.slice (some ⟨b, 0, none⟩) N cap) (lS.set i { xS with sv := (.slice vA (ins xS.p.ss e.m).length vc) , p := { xS.p with ss := ins xS.p.ss e.m } })) := Lib.hid (by
        rw [← HOO.out]
        exact HWS.out.upd (w1 := w2) (f := 0) (j := 3) (x' := { xS with sv := (.slice vA (ins xS.p.ss e.m).length vc) , p := { xS.p with ss := ins xS.p.ss e.m } }) HXS.out (by omega) rfl
          (fun f' h4 hne => by
            rcases (show f' = 0 ∨ f' = 1 ∨ f' = 2 ∨ f' = 3 by omega) with rfl | rfl | rfl | rfl
            all_goals first | exact absurd rfl hne | exact ⟨rfl, rfl⟩)
          HP2.out (HWS.out.newB HP3.out) (fun _ => by
            unfold rowOk
            rw [show (subL { xS with sv := (.slice vA (ins xS.p.ss e.m).length vc) , p := { xS.p with ss := ins xS.p.ss e.m } } 0) = (ins xS.p.ss e.m).map iV from rfl, List.length_map]
            exact HP1.out)
          (by
            obtain ⟨k1, k2, k3⟩ := HWS.out.ok xS (List.mem_of_getElem? HXS.out)
            exact ⟨ins_sorted k1, k2, k3⟩))
      have HPE : Hid ((lS.set i { xS with sv := (.slice vA (ins xS.p.ss e.m).length vc) , p := { xS.p with ss := ins xS.p.ss e.m } }).map Wm.p = (l.map Wm.p).set i (takeP x.p e vs)) := Lib.hid (by
        rw [List.map_set, HSET.out, HTX.out])
      have HBE : Hid (Below base w (w2.setCell ⟨b, o + 3, none⟩ (.slice vA (ins xS.p.ss e.m).length vc))) := Lib.hid ((HBS.out.trans (belowB HP2d.out HBB1.out (fun k hk => ((HWS.out.row i xS HXS.out 0 (by omega)).lt k hk).1))).setCell HGB.out (.slice vA (ins xS.p.ss e.m).length vc))
      clear k1 k3 HR HP1 HP2 HP2d HP3 y1 y2
      generalize w2.setCell ⟨b, o + 3, none⟩ (.slice vA (ins xS.p.ss e.m).length vc) = w4 at HWE HBE ⊢
      go_wp2
      first | go_end0 | refine bodyPost_ret (results_none rfl _ _ _) rfl ?_
      exact ⟨rfl, _, HWE.out, HPE.out, HBE.out⟩

  · rw [hk] at q2
    have HK := Lib.hid hk
    clear hk
    obtain ⟨tA, tc, htv⟩ := row_sl (HW1S.out.row i x HX.out 1 (by omega))
    have htv : x.tv = .slice tA x.p.ts.length tc := by
      have : (subL x 1).length = x.p.ts.length := by show (x.p.ts.map iV).length = _; simp
      rw [← this]; exact htv
    have hcw := cellW HW1S.out.own HX.out (j := 4) (by omega) (v := x.tv) rfl
    rw [HOO.out, htv] at hcw
    have q4 : W1.cell? ⟨b, o + 4, none⟩ = some (.slice tA x.p.ts.length tc) := hcw.1
    obtain ⟨nt, HNT⟩ : ∃ n, Hid (x.p.ts.length = n) := ⟨_, Lib.hid rfl⟩
    rw [HNT.out] at q4
    have HBG : Hid (b < gb) := Lib.hid (by rw [← HGG.out]; have := (HW1S.out.own.lt b rfl).2; have := hbw; omega)
    clear hcw htv
    by_cases hz : nt = 0
    · subst hz
      have HTP : Hid (takeP x.p e vs = { x.p with c := e.c, ws := vs, ts := ins x.p.ts e.m }) := Lib.hid (by unfold takeP; rw [if_neg (by have := HK.out; omega), if_neg (by have := HK.out; omega), if_pos HK.out, if_pos (List.length_eq_zero_iff.1 HNT.out)])
      go_enter Tryd.func47, Tryd.ntmps47
      go_upto_region 1 with (fail)
      rw [← HW1.out, HGG.out]
      go_upto_region 8 with (fail)
      clear q2 q4
      obtain ⟨wS, HSS⟩ : ∃ wS, Hid (wS = W1) := ⟨_, Lib.hid rfl⟩
      rw [← HSS.out]
      obtain ⟨lS, HLS⟩ : ∃ lS, Hid (lS = l) := ⟨_, Lib.hid rfl⟩
      obtain ⟨xS, HXX⟩ : ∃ xS, Hid (xS = x) := ⟨_, Lib.hid rfl⟩
      have HWS : Hid (WsAt wS base (.slice (some ⟨b, 0, none⟩) N cap) lS) := Lib.hid (by rw [HSS.out, HLS.out]; exact HW1S.out)
      have HXS : Hid (lS[i]? = some xS) := Lib.hid (by rw [HLS.out, HXX.out]; exact HX.out)
      have HOS : Hid (Obj1 wS gb TE #[.int .i64 e.t, .int .i64 e.m, .int .i64 e.k, .int .i64 e.s, .int .i64 e.v, .int .i64 e.si, .int .i64 e.c, .slice e.A e.n e.d]) := Lib.hid (by rw [HSS.out]; exact HO1.out)
      have HBS : Hid (Below base w wS.drew) := Lib.hid (by rw [HSS.out]; exact HB1.out)
      have HBB1 : Hid (base ≤ wS.drew.heap.size) := Lib.hid (Nat.le_trans HBB.out HBS.out.size)
      have HSET : Hid (∀ q : Pw, (lS.map Wm.p).set i q = (l.map Wm.p).set i q) := Lib.hid (fun q => by rw [HLS.out])
      have HTX : Hid (takeP x.p e vs = { xS.p with c := e.c, ws := vs, ts := ins xS.p.ts e.m }) := Lib.hid (by rw [HXX.out]; exact HTP.out)
      have HSZ : Hid (xS.p.ss.length ≤ 100000 ∧ xS.p.ts.length ≤ 100000 ∧ xS.p.ms.length ≤ 100000) := Lib.hid (by rw [HXX.out]; exact HSX.out)
      have HCL := Lib.hid (clone_any e.A e.n e.d vs wS.drew (by rw [HSS.out]; exact HL1.out) HN.out)
      have k6 : wS.cell? ⟨gb, 6, none⟩ = some (.int .i64 e.c) := HOS.out.cell 6
      have k7 : wS.cell? ⟨gb, 7, none⟩ = some (.slice e.A e.n e.d) := HOS.out.cell 7
      refine wp_region_any (by kernel_rfl) ?_
      change wpAny _ _ _ _ _ _ _ (World.drew _)
      refine wpAny_take (i := 0) (v := .pointer (some ⟨b, o, none⟩)) rfl (by kernel_rfl) (by kernel_rfl) (by kernel_rfl) (fun _ _ _ h => h) (Or.inl ⟨by rfl, fun w => by go_simp⟩) ?_
      try simp only [Act.put, List.getElem_toArray, List.getElem_cons_succ, List.getElem_cons_zero, List.setIfInBounds_toArray, List.set_cons_zero, List.set_cons_succ]
      refine wpAny_take (i := 1) (v := .pointer (some ⟨b, o, none⟩)) rfl (by kernel_rfl) (by kernel_rfl) (by kernel_rfl) (fun _ _ _ h => h) (Or.inl ⟨by rfl, fun w => by go_simp⟩) ?_
      try simp only [Act.put, List.getElem_toArray, List.getElem_cons_succ, List.getElem_cons_zero, List.setIfInBounds_toArray, List.set_cons_zero, List.set_cons_succ]
      refine wpAny_take (i := 2) (v := .pointer (some ⟨gb, 6, none⟩)) rfl (by kernel_rfl) (by kernel_rfl) (by kernel_rfl) (fun _ _ _ h => h) (Or.inl ⟨by rfl, fun w => by go_simp⟩) ?_
      try simp only [Act.put, List.getElem_toArray, List.getElem_cons_succ, List.getElem_cons_zero, List.setIfInBounds_toArray, List.set_cons_zero, List.set_cons_succ]
      refine wpAny_take (i := 4) (v := .pointer (some ⟨gb, 7, none⟩)) rfl (by kernel_rfl) (by kernel_rfl) (by kernel_rfl) (fun _ _ _ h => h) (Or.inl ⟨by rfl, fun w => by go_simp⟩) ?_
      try simp only [Act.put, List.getElem_toArray, List.getElem_cons_succ, List.getElem_cons_zero, List.setIfInBounds_toArray, List.set_cons_zero, List.set_cons_succ]
      refine wpAny_ready (rs := [3, 5]) (by kernel_rfl) (by simp) ?_
      refine AllReady.cons rfl (fun KK hK => ?_) (AllReady.cons rfl (fun KK hK => ?_) AllReady.nil)
      · go_simp
        refine hK _ _ ?_
        clear hK KK
        try simp only [Act.put, List.getElem_toArray, List.getElem_cons_succ, List.getElem_cons_zero, List.setIfInBounds_toArray, List.set_cons_zero, List.set_cons_succ]
        refine wpAny_ready (rs := [5]) (by kernel_rfl) (by simp) ?_
        refine AllReady.cons rfl (fun KK hK => ?_) AllReady.nil
        go_simp
        refine hK _ _ ?_
        clear hK KK
        try simp only [Act.put, List.getElem_toArray, List.getElem_cons_succ, List.getElem_cons_zero, List.setIfInBounds_toArray, List.set_cons_zero, List.set_cons_succ]
        refine wpAny_ready (rs := [6]) (by kernel_rfl) (by simp) ?_
        refine AllReady.cons rfl (fun KK hK => ?_) AllReady.nil
        go_simp
        refine HCL.out.mono ?_
        rintro e' w2 ⟨vR0, rfl, h1, h2⟩
        obtain ⟨vA, vc, rfl⟩ := row_sl h1
        have HR2 := Lib.hid h1
        have HC2 : Hid (Below wS.heap.size wS w2) := Lib.hid ((bel_drew wS).trans h2)
        clear h1 h2
        have HW2 := Lib.hid (HWS.out.below HC2.out)
        have hcw := cellW HW2.out.own HXS.out (j := 6) (by omega) (v := .int .i64 xS.p.c) rfl
        rw [HOO.out] at hcw
        have y6 : w2.cell? ⟨b, o + 6, none⟩ = some (.int .i64 xS.p.c) := hcw.1
        have z6 : w2.frozen? ⟨b, o + 6, none⟩ = false := hcw.2
        have k6' : w2.cell? ⟨gb, 6, none⟩ = some (.int .i64 e.c) := (HOS.out.kept HC2.out).cell 6
        clear hcw
        refine hK _ _ ?_
        clear hK KK
        try simp only [Act.put, List.getElem_toArray, List.getElem_cons_succ, List.getElem_cons_zero, List.setIfInBounds_toArray, List.set_cons_zero, List.set_cons_succ]
        refine wpAny_take (i := 7) (v := .pointer (some ⟨b, o, none⟩)) rfl (by kernel_rfl) (by kernel_rfl) (by kernel_rfl) (fun _ _ _ h => h) (Or.inl ⟨by rfl, fun w => by go_simp⟩) ?_
        try simp only [Act.put, List.getElem_toArray, List.getElem_cons_succ, List.getElem_cons_zero, List.setIfInBounds_toArray, List.set_cons_zero, List.set_cons_succ]
        refine wpAny_take (i := 8) (v := .pointer (some ⟨b, o + 6, none⟩)) rfl (by kernel_rfl) (by kernel_rfl) (by kernel_rfl) (fun _ _ _ h => h) (Or.inl ⟨by rfl, fun w => by go_simp⟩) ?_
        try simp only [Act.put, List.getElem_toArray, List.getElem_cons_succ, List.getElem_cons_zero, List.setIfInBounds_toArray, List.set_cons_zero, List.set_cons_succ]
        refine wpAny_ready (rs := [9]) (by kernel_rfl) (by simp) ?_
        refine AllReady.cons rfl (fun KK hK => ?_) AllReady.nil
        go_simp
        refine hK _ _ ?_
        clear hK KK y6 z6 k6'
        try simp only [Act.put, List.getElem_toArray, List.getElem_cons_succ, List.getElem_cons_zero, List.setIfInBounds_toArray, List.set_cons_zero, List.set_cons_succ]
        have HNB : Hid (b < wS.heap.size ∧ b ≠ gb) := Lib.hid (by have h1 := (HWS.out.own.lt b rfl).2; have h2 := HBG.out; omega)
        have HX6 : Hid ((lS.set i { xS with p := { xS.p with c := e.c } })[i]? = some { xS with p := { xS.p with c := e.c } }) := Lib.hid (by rw [List.getElem?_set, if_pos rfl, if_pos (List.getElem?_eq_some_iff.1 HXS.out).1])
        have HW3 : Hid (WsAt (w2.setCell ⟨b, o + 6, none⟩ (.int .i64 e.c)) base (.slice (some ⟨b, 0, none⟩) N cap) (lS.set i { xS with p := { xS.p with c := e.c } })) := Lib.hid (by
          rw [← HOO.out]
          exact HW2.out.upd (w1 := w2) (f := 9) (j := 6) (x' := { xS with p := { xS.p with c := e.c } }) HXS.out (by omega) rfl (fun f' h4 hne => by
              rcases (show f' = 0 ∨ f' = 1 ∨ f' = 2 ∨ f' = 3 by omega) with rfl | rfl | rfl | rfl
              all_goals exact ⟨rfl, rfl⟩) (grown_of (Below.refl _ _)) (.inl rfl) (fun h => absurd h (by omega)) (HWS.out.ok xS (List.mem_of_getElem? HXS.out)))
        have HV3 : Hid ((w2.setCell ⟨b, o + 6, none⟩ (.int .i64 e.c)).ownsRow wS.heap.size TU8 1 (.slice vA vs.length vc) vs.length (vs.map bV)) := Lib.hid (HR2.out.kept ((Wrote.refl b w2).set (.inl rfl) _) (by
          cases e' : (Value.ownBlock (.slice vA vs.length vc)) with
          | none => exact .inl rfl
          | some k =>
            refine .inr (fun e2 => ?_)
            have h1 := (HR2.out.lt k e').1
            have h2 := HNB.out
            injection e2 with e2
            have h3 : wS.heap.size ≤ k := h1
            omega))
        have HO3 : Hid (Obj1 (w2.setCell ⟨b, o + 6, none⟩ (.int .i64 e.c)) gb TE #[.int .i64 e.t, .int .i64 e.m, .int .i64 e.k, .int .i64 e.s, .int .i64 e.v, .int .i64 e.si, .int .i64 e.c, .slice e.A e.n e.d]) := Lib.hid ((HOS.out.kept HC2.out).far ⟨b, o + 6, none⟩ (Ne.symm HNB.out.2) _)
        have HB3 : Hid (Below base w (w2.setCell ⟨b, o + 6, none⟩ (.int .i64 e.c))) := Lib.hid ((HBS.out.trans (show Below base wS.drew w2 from ⟨HC2.out.os, HC2.out.tape, HC2.out.output, HC2.out.size, fun k hk => HC2.out.block k (Nat.lt_of_lt_of_le hk HBB1.out)⟩)).setCell HGB.out _)
        generalize w2.setCell ⟨b, o + 6, none⟩ (.int .i64 e.c) = w3 at HW3 HV3 HO3 HB3 ⊢
        have hcw := cellW HW3.out.own HX6.out (j := 7) (by omega) (v := xS.wv) rfl
        rw [HOO.out] at hcw
        have y7 : w3.cell? ⟨b, o + 7, none⟩ = some xS.wv := hcw.1
        have z7 : w3.frozen? ⟨b, o + 7, none⟩ = false := hcw.2
        clear hcw
        refine wpAny_take (i := 10) (v := .pointer (some ⟨b, o, none⟩)) rfl (by kernel_rfl) (by kernel_rfl) (by kernel_rfl) (fun _ _ _ h => h) (Or.inl ⟨by rfl, fun w => by go_simp⟩) ?_
        try simp only [Act.put, List.getElem_toArray, List.getElem_cons_succ, List.getElem_cons_zero, List.setIfInBounds_toArray, List.set_cons_zero, List.set_cons_succ]
        refine wpAny_take (i := 11) (v := .pointer (some ⟨b, o + 7, none⟩)) rfl (by kernel_rfl) (by kernel_rfl) (by kernel_rfl) (fun _ _ _ h => h) (Or.inl ⟨by rfl, fun w => by go_simp⟩) ?_
        try simp only [Act.put, List.getElem_toArray, List.getElem_cons_succ, List.getElem_cons_zero, List.setIfInBounds_toArray, List.set_cons_zero, List.set_cons_succ]
        refine wpAny_ready (rs := [12]) (by kernel_rfl) (by simp) ?_
        refine AllReady.cons rfl (fun KK hK => ?_) AllReady.nil
        go_simp
        refine hK _ _ ?_
        clear hK KK y7 z7
        try simp only [Act.put, List.getElem_toArray, List.getElem_cons_succ, List.getElem_cons_zero, List.setIfInBounds_toArray, List.set_cons_zero, List.set_cons_succ]
        refine wpAny_done (by kernel_rfl) ?_ _
        have HW4 : Hid (WsAt (w3.setCell ⟨b, o + 7, none⟩ (.slice vA vs.length vc)) base (.slice (some ⟨b, 0, none⟩) N cap) (lS.set i { xS with wv := (.slice vA vs.length vc), p := { xS.p with c := e.c, ws := vs } })) := Lib.hid (by
          rw [← HOO.out]
          have := HW3.out.upd (w1 := w3) (f := 3) (j := 7) (x' := { xS with wv := (.slice vA vs.length vc), p := { xS.p with c := e.c, ws := vs } }) (u := (.slice vA vs.length vc)) HX6.out (by omega) rfl (fun f' h4 hne => by
              rcases (show f' = 0 ∨ f' = 1 ∨ f' = 2 ∨ f' = 3 by omega) with rfl | rfl | rfl | rfl
              all_goals first | exact absurd rfl hne | exact ⟨rfl, rfl⟩) (grown_of (Below.refl _ _)) (.inr (fun k hk a ha => by
                have ha := (bk_same (RV := .slice (some ⟨b, 0, none⟩) N cap) (x' := { xS with p := { xS.p with c := e.c } }) HXS.out (fun f => rfl) a).symm.trans ha
                have h1 := (HWS.out.lt a k ha).2
                have h2 := (HV3.out.lt k hk).1
                omega)) (fun _ => by
                unfold rowOk
                rw [show (subL { xS with wv := (.slice vA vs.length vc), p := { xS.p with c := e.c, ws := vs } } 3) = vs.map bV from rfl, List.length_map]
                exact row_mono HV3.out HBB1.out) (HWS.out.ok xS (List.mem_of_getElem? HXS.out))
          rw [List.set_set] at this
          exact this)
        have HO4 : Hid (Obj1 (w3.setCell ⟨b, o + 7, none⟩ (.slice vA vs.length vc)) gb TE #[.int .i64 e.t, .int .i64 e.m, .int .i64 e.k, .int .i64 e.s, .int .i64 e.v, .int .i64 e.si, .int .i64 e.c, .slice e.A e.n e.d]) := Lib.hid (HO3.out.far ⟨b, o + 7, none⟩ (Ne.symm HNB.out.2) _)
        have HB4 : Hid (Below base w (w3.setCell ⟨b, o + 7, none⟩ (.slice vA vs.length vc))) := Lib.hid (HB3.out.setCell HGB.out _)
        generalize w3.setCell ⟨b, o + 7, none⟩ (.slice vA vs.length vc) = wT at HW4 HO4 HB4 ⊢
        obtain ⟨xT, HXT0⟩ : ∃ xT, Hid (xT = ({ xS with wv := (.slice vA vs.length vc), p := { xS.p with c := e.c, ws := vs } } : Wm)) := ⟨_, Lib.hid rfl⟩
        obtain ⟨lT, HLT⟩ : ∃ lT, Hid (lT = lS.set i xT) := ⟨_, Lib.hid rfl⟩
        have HWT : Hid (WsAt wT base (.slice (some ⟨b, 0, none⟩) N cap) lT) := Lib.hid (by rw [HLT.out, HXT0.out]; exact HW4.out)
        have HXT : Hid (lT[i]? = some xT) := Lib.hid (by rw [HLT.out, List.getElem?_set, if_pos rfl, if_pos (List.getElem?_eq_some_iff.1 HXS.out).1])
        have HBT : Hid (Below base w wT.drew) := Lib.hid HB4.out.drew
        have HBB2 : Hid (base ≤ wT.drew.heap.size) := Lib.hid (Nat.le_trans HBB.out HBT.out.size)
        have HSEU : Hid (∀ q : Pw, (lT.map Wm.p).set i q = (l.map Wm.p).set i q) := Lib.hid (fun q => by rw [HLT.out, List.map_set, List.set_set]; exact HSET.out q)
        have HTY : Hid (takeP x.p e vs = { xT.p with ts := ins xT.p.ts e.m }) := Lib.hid (by rw [HTX.out, HXT0.out])
        have HSZ2 : Hid (xT.p.ss.length ≤ 100000 ∧ xT.p.ts.length ≤ 100000 ∧ xT.p.ms.length ≤ 100000) := Lib.hid (by rw [HXT0.out]; exact HSZ.out)
        clear HW4 HB4 HB3 HO3 HV3 HW3 HX6 HW2 HC2 HR2 HCL HXT0 HLT HSET HTX HSZ HBS HBB1 HOS HXS HWS
        go_upto_region 9 with (fail)
        have HR := Lib.hid (rising_any base xT.tv xT.p.ts e.m wT.drew (by have := HWT.out.row i xT HXT.out 1 (by omega); unfold rowOk at this; rw [show subL xT 1 = xT.p.ts.map iV from rfl, List.length_map] at this; exact this) ((HWT.out.ok xT (List.mem_of_getElem? HXT.out)).2.1) HBB2.out (HSZ2.out.2.1))
        have k3 : wT.cell? ⟨b, o + 4, none⟩ = some xT.tv := by
          have := cellW HWT.out.own HXT.out (j := 4) (by omega) (v := xT.tv) rfl
          rw [HOO.out] at this
          exact this.1
        have k1 : wT.cell? ⟨gb, 1, none⟩ = some (.int .i64 e.m) := HO4.out.cell 1
        refine wp_region_any (by kernel_rfl) ?_
        change wpAny _ _ _ _ _ _ _ (World.drew _)
        refine wpAny_take (i := 0) (v := .pointer (some ⟨b, o, none⟩)) rfl (by kernel_rfl) (by kernel_rfl) (by kernel_rfl) (fun _ _ _ h => h) (Or.inl ⟨by rfl, fun w => by go_simp⟩) ?_
        try simp only [Act.put, List.getElem_toArray, List.getElem_cons_succ, List.getElem_cons_zero, List.setIfInBounds_toArray, List.set_cons_zero, List.set_cons_succ]
        refine wpAny_take (i := 1) (v := .pointer (some ⟨b, o, none⟩)) rfl (by kernel_rfl) (by kernel_rfl) (by kernel_rfl) (fun _ _ _ h => h) (Or.inl ⟨by rfl, fun w => by go_simp⟩) ?_
        try simp only [Act.put, List.getElem_toArray, List.getElem_cons_succ, List.getElem_cons_zero, List.setIfInBounds_toArray, List.set_cons_zero, List.set_cons_succ]
        refine wpAny_take (i := 2) (v := .pointer (some ⟨b, o, none⟩)) rfl (by kernel_rfl) (by kernel_rfl) (by kernel_rfl) (fun _ _ _ h => h) (Or.inl ⟨by rfl, fun w => by go_simp⟩) ?_
        try simp only [Act.put, List.getElem_toArray, List.getElem_cons_succ, List.getElem_cons_zero, List.setIfInBounds_toArray, List.set_cons_zero, List.set_cons_succ]
        refine wpAny_take (i := 3) (v := .pointer (some ⟨b, o + 4, none⟩)) rfl (by kernel_rfl) (by kernel_rfl) (by kernel_rfl) (fun _ _ _ h => h) (Or.inl ⟨by rfl, fun w => by go_simp⟩) ?_
        try simp only [Act.put, List.getElem_toArray, List.getElem_cons_succ, List.getElem_cons_zero, List.setIfInBounds_toArray, List.set_cons_zero, List.set_cons_succ]
        refine wpAny_take (i := 5) (v := .pointer (some ⟨gb, 1, none⟩)) rfl (by kernel_rfl) (by kernel_rfl) (by kernel_rfl) (fun _ _ _ h => h) (Or.inl ⟨by rfl, fun w => by go_simp⟩) ?_
        try simp only [Act.put, List.getElem_toArray, List.getElem_cons_succ, List.getElem_cons_zero, List.setIfInBounds_toArray, List.set_cons_zero, List.set_cons_succ]
        refine wpAny_ready (rs := [4, 6]) (by kernel_rfl) (by simp) ?_
        refine AllReady.cons rfl (fun KK hK => ?_) (AllReady.cons rfl (fun KK hK => ?_) AllReady.nil)
        · go_simp
          refine hK _ _ ?_
          clear hK KK
          try simp only [Act.put, List.getElem_toArray, List.getElem_cons_succ, List.getElem_cons_zero, List.setIfInBounds_toArray, List.set_cons_zero, List.set_cons_succ]
          refine wpAny_ready (rs := [6]) (by kernel_rfl) (by simp) ?_
          refine AllReady.cons rfl (fun KK hK => ?_) AllReady.nil
          go_simp
          refine hK _ _ ?_
          clear hK KK
          try simp only [Act.put, List.getElem_toArray, List.getElem_cons_succ, List.getElem_cons_zero, List.setIfInBounds_toArray, List.set_cons_zero, List.set_cons_succ]
          refine wpAny_ready (rs := [7]) (by kernel_rfl) (by simp) ?_
          refine AllReady.cons rfl (fun KK hK => ?_) AllReady.nil
          go_simp
          refine HR.out.mono ?_
          rintro e' w2 ⟨vR0, rfl, h1, h2, h3⟩
          obtain ⟨vA, vc, rfl⟩ := row_sl h1
          have HP1 := Lib.hid h1
          have HP2 : Hid (wT.grownBy w2 (sub xT 1).ownBlock) := Lib.hid (drewG h2)
          have HP2d := Lib.hid h2
          have HP3 : Hid (Grow wT (sub xT 1) (.slice vA (ins xT.p.ts e.m).length vc)) := Lib.hid h3
          clear h1 h2 h3
          have hcw := cellW (HWT.out.ownKept HXT.out (f := 1) HP2.out) HXT.out (j := 4) (by omega) (v := xT.tv) rfl
          rw [HOO.out] at hcw
          have y1 : w2.cell? ⟨b, o + 4, none⟩ = some xT.tv := hcw.1
          have y2 : w2.frozen? ⟨b, o + 4, none⟩ = false := hcw.2
          clear hcw
          refine hK _ _ ?_
          clear hK KK
          try simp only [Act.put, List.getElem_toArray, List.getElem_cons_succ, List.getElem_cons_zero, List.setIfInBounds_toArray, List.set_cons_zero, List.set_cons_succ]
          refine wpAny_take (i := 8) (v := .pointer (some ⟨b, o, none⟩)) rfl (by kernel_rfl) (by kernel_rfl) (by kernel_rfl) (fun _ _ _ h => h) (Or.inl ⟨by rfl, fun w => by go_simp⟩) ?_
          try simp only [Act.put, List.getElem_toArray, List.getElem_cons_succ, List.getElem_cons_zero, List.setIfInBounds_toArray, List.set_cons_zero, List.set_cons_succ]
          refine wpAny_take (i := 9) (v := .pointer (some ⟨b, o + 4, none⟩)) rfl (by kernel_rfl) (by kernel_rfl) (by kernel_rfl) (fun _ _ _ h => h) (Or.inl ⟨by rfl, fun w => by go_simp⟩) ?_
          try simp only [Act.put, List.getElem_toArray, List.getElem_cons_succ, List.getElem_cons_zero, List.setIfInBounds_toArray, List.set_cons_zero, List.set_cons_succ]
          refine wpAny_ready (rs := [10]) (by kernel_rfl) (by simp) ?_
          refine AllReady.cons rfl (fun KK hK => ?_) AllReady.nil
          go_simp
          refine hK _ _ ?_
          clear hK KK
          try simp only [Act.put, List.getElem_toArray, List.getElem_cons_succ, List.getElem_cons_zero, List.setIfInBounds_toArray, List.set_cons_zero, List.set_cons_succ]
          refine wpAny_done (by kernel_rfl) ?_ _
          have HWE : Hid (WsAt (w2.setCell ⟨b, o + 4, none⟩ (.slice vA (ins xT.p.ts e.m).length vc)) base (.slice (some ⟨b, 0, none⟩) N cap) (lT.set i { xT with tv := (.slice vA (ins xT.p.ts e.m).length vc) , p := { xT.p with ts := ins xT.p.ts e.m } })) := Lib.hid (by
            rw [← HOO.out]
            exact HWT.out.upd (w1 := w2) (f := 1) (j := 4) (x' := { xT with tv := (.slice vA (ins xT.p.ts e.m).length vc) , p := { xT.p with ts := ins xT.p.ts e.m } }) HXT.out (by omega) rfl
              (fun f' h4 hne => by
                rcases (show f' = 0 ∨ f' = 1 ∨ f' = 2 ∨ f' = 3 by omega) with rfl | rfl | rfl | rfl
                all_goals first | exact absurd rfl hne | exact ⟨rfl, rfl⟩)
              HP2.out (HWT.out.newB HP3.out) (fun _ => by
                unfold rowOk
                rw [show (subL { xT with tv := (.slice vA (ins xT.p.ts e.m).length vc) , p := { xT.p with ts := ins xT.p.ts e.m } } 1) = (ins xT.p.ts e.m).map iV from rfl, List.length_map]
                exact HP1.out)
              (by
                obtain ⟨k1, k2, k3⟩ := HWT.out.ok xT (List.mem_of_getElem? HXT.out)
                exact ⟨k1, ins_sorted k2, k3⟩))
          have HPE : Hid ((lT.set i { xT with tv := (.slice vA (ins xT.p.ts e.m).length vc) , p := { xT.p with ts := ins xT.p.ts e.m } }).map Wm.p = (l.map Wm.p).set i (takeP x.p e vs)) := Lib.hid (by
            rw [List.map_set, HSEU.out, HTY.out])
          have HBE : Hid (Below base w (w2.setCell ⟨b, o + 4, none⟩ (.slice vA (ins xT.p.ts e.m).length vc))) := Lib.hid ((HBT.out.trans (belowB HP2d.out HBB2.out (fun k hk => ((HWT.out.row i xT HXT.out 1 (by omega)).lt k hk).1))).setCell HGB.out (.slice vA (ins xT.p.ts e.m).length vc))
          clear HR HP1 HP2 HP2d HP3 y1 y2
          generalize w2.setCell ⟨b, o + 4, none⟩ (.slice vA (ins xT.p.ts e.m).length vc) = w4 at HWE HBE ⊢
          go_wp2
          first | go_end0 | refine bodyPost_ret (results_none rfl _ _ _) rfl ?_
          exact ⟨rfl, _, HWE.out, HPE.out, HBE.out⟩

        · go_simp
          refine hK _ _ ?_
          clear hK KK
          try simp only [Act.put, List.getElem_toArray, List.getElem_cons_succ, List.getElem_cons_zero, List.setIfInBounds_toArray, List.set_cons_zero, List.set_cons_succ]
          refine wpAny_ready (rs := [4]) (by kernel_rfl) (by simp) ?_
          refine AllReady.cons rfl (fun KK hK => ?_) AllReady.nil
          go_simp
          refine hK _ _ ?_
          clear hK KK
          try simp only [Act.put, List.getElem_toArray, List.getElem_cons_succ, List.getElem_cons_zero, List.setIfInBounds_toArray, List.set_cons_zero, List.set_cons_succ]
          refine wpAny_ready (rs := [7]) (by kernel_rfl) (by simp) ?_
          refine AllReady.cons rfl (fun KK hK => ?_) AllReady.nil
          go_simp
          refine HR.out.mono ?_
          rintro e' w2 ⟨vR0, rfl, h1, h2, h3⟩
          obtain ⟨vA, vc, rfl⟩ := row_sl h1
          have HP1 := Lib.hid h1
          have HP2 : Hid (wT.grownBy w2 (sub xT 1).ownBlock) := Lib.hid (drewG h2)
          have HP2d := Lib.hid h2
          have HP3 : Hid (Grow wT (sub xT 1) (.slice vA (ins xT.p.ts e.m).length vc)) := Lib.hid h3
          clear h1 h2 h3
          have hcw := cellW (HWT.out.ownKept HXT.out (f := 1) HP2.out) HXT.out (j := 4) (by omega) (v := xT.tv) rfl
          rw [HOO.out] at hcw
          have y1 : w2.cell? ⟨b, o + 4, none⟩ = some xT.tv := hcw.1
          have y2 : w2.frozen? ⟨b, o + 4, none⟩ = false := hcw.2
          clear hcw
          refine hK _ _ ?_
          clear hK KK
          try simp only [Act.put, List.getElem_toArray, List.getElem_cons_succ, List.getElem_cons_zero, List.setIfInBounds_toArray, List.set_cons_zero, List.set_cons_succ]
          refine wpAny_take (i := 8) (v := .pointer (some ⟨b, o, none⟩)) rfl (by kernel_rfl) (by kernel_rfl) (by kernel_rfl) (fun _ _ _ h => h) (Or.inl ⟨by rfl, fun w => by go_simp⟩) ?_
          try simp only [Act.put, List.getElem_toArray, List.getElem_cons_succ, List.getElem_cons_zero, List.setIfInBounds_toArray, List.set_cons_zero, List.set_cons_succ]
          refine wpAny_take (i := 9) (v := .pointer (some ⟨b, o + 4, none⟩)) rfl (by kernel_rfl) (by kernel_rfl) (by kernel_rfl) (fun _ _ _ h => h) (Or.inl ⟨by rfl, fun w => by go_simp⟩) ?_
          try simp only [Act.put, List.getElem_toArray, List.getElem_cons_succ, List.getElem_cons_zero, List.setIfInBounds_toArray, List.set_cons_zero, List.set_cons_succ]
          refine wpAny_ready (rs := [10]) (by kernel_rfl) (by simp) ?_
          refine AllReady.cons rfl (fun KK hK => ?_) AllReady.nil
          go_simp
          refine hK _ _ ?_
          clear hK KK
          try simp only [Act.put, List.getElem_toArray, List.getElem_cons_succ, List.getElem_cons_zero, List.setIfInBounds_toArray, List.set_cons_zero, List.set_cons_succ]
          refine wpAny_done (by kernel_rfl) ?_ _
          have HWE : Hid (WsAt (w2.setCell ⟨b, o + 4, none⟩ (.slice vA (ins xT.p.ts e.m).length vc)) base (.slice (some ⟨b, 0, none⟩) N cap) (lT.set i { xT with tv := (.slice vA (ins xT.p.ts e.m).length vc) , p := { xT.p with ts := ins xT.p.ts e.m } })) := Lib.hid (by
            rw [← HOO.out]
            exact HWT.out.upd (w1 := w2) (f := 1) (j := 4) (x' := { xT with tv := (.slice vA (ins xT.p.ts e.m).length vc) , p := { xT.p with ts := ins xT.p.ts e.m } }) HXT.out (by omega) rfl
              (fun f' h4 hne => by
                rcases (show f' = 0 ∨ f' = 1 ∨ f' = 2 ∨ f' = 3 by omega) with rfl | rfl | rfl | rfl
                all_goals first | exact absurd rfl hne | exact ⟨rfl, rfl⟩)
              HP2.out (HWT.out.newB HP3.out) (fun _ => by
                unfold rowOk
                rw [show (subL { xT with tv := (.slice vA (ins xT.p.ts e.m).length vc) , p := { xT.p with ts := ins xT.p.ts e.m } } 1) = (ins xT.p.ts e.m).map iV from rfl, List.length_map]
                exact HP1.out)
              (by
                obtain ⟨k1, k2, k3⟩ := HWT.out.ok xT (List.mem_of_getElem? HXT.out)
                exact ⟨k1, ins_sorted k2, k3⟩))
          have HPE : Hid ((lT.set i { xT with tv := (.slice vA (ins xT.p.ts e.m).length vc) , p := { xT.p with ts := ins xT.p.ts e.m } }).map Wm.p = (l.map Wm.p).set i (takeP x.p e vs)) := Lib.hid (by
            rw [List.map_set, HSEU.out, HTY.out])
          have HBE : Hid (Below base w (w2.setCell ⟨b, o + 4, none⟩ (.slice vA (ins xT.p.ts e.m).length vc))) := Lib.hid ((HBT.out.trans (belowB HP2d.out HBB2.out (fun k hk => ((HWT.out.row i xT HXT.out 1 (by omega)).lt k hk).1))).setCell HGB.out (.slice vA (ins xT.p.ts e.m).length vc))
          clear HR HP1 HP2 HP2d HP3 y1 y2
          generalize w2.setCell ⟨b, o + 4, none⟩ (.slice vA (ins xT.p.ts e.m).length vc) = w4 at HWE HBE ⊢
          go_wp2
          first | go_end0 | refine bodyPost_ret (results_none rfl _ _ _) rfl ?_
          exact ⟨rfl, _, HWE.out, HPE.out, HBE.out⟩

      · go_simp
        refine hK _ _ ?_
        clear hK KK
        try simp only [Act.put, List.getElem_toArray, List.getElem_cons_succ, List.getElem_cons_zero, List.setIfInBounds_toArray, List.set_cons_zero, List.set_cons_succ]
        refine wpAny_ready (rs := [3, 6]) (by kernel_rfl) (by simp) ?_
        refine AllReady.cons rfl (fun KK hK => ?_) (AllReady.cons rfl (fun KK hK => ?_) AllReady.nil)
        · go_simp
          refine hK _ _ ?_
          clear hK KK
          try simp only [Act.put, List.getElem_toArray, List.getElem_cons_succ, List.getElem_cons_zero, List.setIfInBounds_toArray, List.set_cons_zero, List.set_cons_succ]
          refine wpAny_ready (rs := [6]) (by kernel_rfl) (by simp) ?_
          refine AllReady.cons rfl (fun KK hK => ?_) AllReady.nil
          go_simp
          refine HCL.out.mono ?_
          rintro e' w2 ⟨vR0, rfl, h1, h2⟩
          obtain ⟨vA, vc, rfl⟩ := row_sl h1
          have HR2 := Lib.hid h1
          have HC2 : Hid (Below wS.heap.size wS w2) := Lib.hid ((bel_drew wS).trans h2)
          clear h1 h2
          have HW2 := Lib.hid (HWS.out.below HC2.out)
          have hcw := cellW HW2.out.own HXS.out (j := 6) (by omega) (v := .int .i64 xS.p.c) rfl
          rw [HOO.out] at hcw
          have y6 : w2.cell? ⟨b, o + 6, none⟩ = some (.int .i64 xS.p.c) := hcw.1
          have z6 : w2.frozen? ⟨b, o + 6, none⟩ = false := hcw.2
          have k6' : w2.cell? ⟨gb, 6, none⟩ = some (.int .i64 e.c) := (HOS.out.kept HC2.out).cell 6
          clear hcw
          refine hK _ _ ?_
          clear hK KK
          try simp only [Act.put, List.getElem_toArray, List.getElem_cons_succ, List.getElem_cons_zero, List.setIfInBounds_toArray, List.set_cons_zero, List.set_cons_succ]
          refine wpAny_take (i := 7) (v := .pointer (some ⟨b, o, none⟩)) rfl (by kernel_rfl) (by kernel_rfl) (by kernel_rfl) (fun _ _ _ h => h) (Or.inl ⟨by rfl, fun w => by go_simp⟩) ?_
          try simp only [Act.put, List.getElem_toArray, List.getElem_cons_succ, List.getElem_cons_zero, List.setIfInBounds_toArray, List.set_cons_zero, List.set_cons_succ]
          refine wpAny_take (i := 8) (v := .pointer (some ⟨b, o + 6, none⟩)) rfl (by kernel_rfl) (by kernel_rfl) (by kernel_rfl) (fun _ _ _ h => h) (Or.inl ⟨by rfl, fun w => by go_simp⟩) ?_
          try simp only [Act.put, List.getElem_toArray, List.getElem_cons_succ, List.getElem_cons_zero, List.setIfInBounds_toArray, List.set_cons_zero, List.set_cons_succ]
          refine wpAny_ready (rs := [9]) (by kernel_rfl) (by simp) ?_
          refine AllReady.cons rfl (fun KK hK => ?_) AllReady.nil
          go_simp
          refine hK _ _ ?_
          clear hK KK y6 z6 k6'
          try simp only [Act.put, List.getElem_toArray, List.getElem_cons_succ, List.getElem_cons_zero, List.setIfInBounds_toArray, List.set_cons_zero, List.set_cons_succ]
          have HNB : Hid (b < wS.heap.size ∧ b ≠ gb) := Lib.hid (by have h1 := (HWS.out.own.lt b rfl).2; have h2 := HBG.out; omega)
          have HX6 : Hid ((lS.set i { xS with p := { xS.p with c := e.c } })[i]? = some { xS with p := { xS.p with c := e.c } }) := Lib.hid (by rw [List.getElem?_set, if_pos rfl, if_pos (List.getElem?_eq_some_iff.1 HXS.out).1])
          have HW3 : Hid (WsAt (w2.setCell ⟨b, o + 6, none⟩ (.int .i64 e.c)) base (.slice (some ⟨b, 0, none⟩) N cap) (lS.set i { xS with p := { xS.p with c := e.c } })) := Lib.hid (by
            rw [← HOO.out]
            exact HW2.out.upd (w1 := w2) (f := 9) (j := 6) (x' := { xS with p := { xS.p with c := e.c } }) HXS.out (by omega) rfl (fun f' h4 hne => by
                rcases (show f' = 0 ∨ f' = 1 ∨ f' = 2 ∨ f' = 3 by omega) with rfl | rfl | rfl | rfl
                all_goals exact ⟨rfl, rfl⟩) (grown_of (Below.refl _ _)) (.inl rfl) (fun h => absurd h (by omega)) (HWS.out.ok xS (List.mem_of_getElem? HXS.out)))
          have HV3 : Hid ((w2.setCell ⟨b, o + 6, none⟩ (.int .i64 e.c)).ownsRow wS.heap.size TU8 1 (.slice vA vs.length vc) vs.length (vs.map bV)) := Lib.hid (HR2.out.kept ((Wrote.refl b w2).set (.inl rfl) _) (by
            cases e' : (Value.ownBlock (.slice vA vs.length vc)) with
            | none => exact .inl rfl
            | some k =>
              refine .inr (fun e2 => ?_)
              have h1 := (HR2.out.lt k e').1
              have h2 := HNB.out
              injection e2 with e2
              have h3 : wS.heap.size ≤ k := h1
              omega))
          have HO3 : Hid (Obj1 (w2.setCell ⟨b, o + 6, none⟩ (.int .i64 e.c)) gb TE #[.int .i64 e.t, .int .i64 e.m, .int .i64 e.k, .int .i64 e.s, .int .i64 e.v, .int .i64 e.si, .int .i64 e.c, .slice e.A e.n e.d]) := Lib.hid ((HOS.out.kept HC2.out).far ⟨b, o + 6, none⟩ (Ne.symm HNB.out.2) _)
          have HB3 : Hid (Below base w (w2.setCell ⟨b, o + 6, none⟩ (.int .i64 e.c))) := Lib.hid ((HBS.out.trans (show Below base wS.drew w2 from ⟨HC2.out.os, HC2.out.tape, HC2.out.output, HC2.out.size, fun k hk => HC2.out.block k (Nat.lt_of_lt_of_le hk HBB1.out)⟩)).setCell HGB.out _)
          generalize w2.setCell ⟨b, o + 6, none⟩ (.int .i64 e.c) = w3 at HW3 HV3 HO3 HB3 ⊢
          have hcw := cellW HW3.out.own HX6.out (j := 7) (by omega) (v := xS.wv) rfl
          rw [HOO.out] at hcw
          have y7 : w3.cell? ⟨b, o + 7, none⟩ = some xS.wv := hcw.1
          have z7 : w3.frozen? ⟨b, o + 7, none⟩ = false := hcw.2
          clear hcw
          refine wpAny_take (i := 10) (v := .pointer (some ⟨b, o, none⟩)) rfl (by kernel_rfl) (by kernel_rfl) (by kernel_rfl) (fun _ _ _ h => h) (Or.inl ⟨by rfl, fun w => by go_simp⟩) ?_
          try simp only [Act.put, List.getElem_toArray, List.getElem_cons_succ, List.getElem_cons_zero, List.setIfInBounds_toArray, List.set_cons_zero, List.set_cons_succ]
          refine wpAny_take (i := 11) (v := .pointer (some ⟨b, o + 7, none⟩)) rfl (by kernel_rfl) (by kernel_rfl) (by kernel_rfl) (fun _ _ _ h => h) (Or.inl ⟨by rfl, fun w => by go_simp⟩) ?_
          try simp only [Act.put, List.getElem_toArray, List.getElem_cons_succ, List.getElem_cons_zero, List.setIfInBounds_toArray, List.set_cons_zero, List.set_cons_succ]
          refine wpAny_ready (rs := [12]) (by kernel_rfl) (by simp) ?_
          refine AllReady.cons rfl (fun KK hK => ?_) AllReady.nil
          go_simp
          refine hK _ _ ?_
          clear hK KK y7 z7
          try simp only [Act.put, List.getElem_toArray, List.getElem_cons_succ, List.getElem_cons_zero, List.setIfInBounds_toArray, List.set_cons_zero, List.set_cons_succ]
          refine wpAny_done (by kernel_rfl) ?_ _
          have HW4 : Hid (WsAt (w3.setCell ⟨b, o + 7, none⟩ (.slice vA vs.length vc)) base (.slice (some ⟨b, 0, none⟩) N cap) (lS.set i { xS with wv := (.slice vA vs.length vc), p := { xS.p with c := e.c, ws := vs } })) := Lib.hid (by
            rw [← HOO.out]
            have := HW3.out.upd (w1 := w3) (f := 3) (j := 7) (x' := { xS with wv := (.slice vA vs.length vc), p := { xS.p with c := e.c, ws := vs } }) (u := (.slice vA vs.length vc)) HX6.out (by omega) rfl (fun f' h4 hne => by
                rcases (show f' = 0 ∨ f' = 1 ∨ f' = 2 ∨ f' = 3 by omega) with rfl | rfl | rfl | rfl
                all_goals first | exact absurd rfl hne | exact ⟨rfl, rfl⟩) (grown_of (Below.refl _ _)) (.inr (fun k hk a ha => by
                  have ha := (bk_same (RV := .slice (some ⟨b, 0, none⟩) N cap) (x' := { xS with p := { xS.p with c := e.c } }) HXS.out (fun f => rfl) a).symm.trans ha
                  have h1 := (HWS.out.lt a k ha).2
                  have h2 := (HV3.out.lt k hk).1
                  omega)) (fun _ => by
                  unfold rowOk
                  rw [show (subL { xS with wv := (.slice vA vs.length vc), p := { xS.p with c := e.c, ws := vs } } 3) = vs.map bV from rfl, List.length_map]
                  exact row_mono HV3.out HBB1.out) (HWS.out.ok xS (List.mem_of_getElem? HXS.out))
            rw [List.set_set] at this
            exact this)
          have HO4 : Hid (Obj1 (w3.setCell ⟨b, o + 7, none⟩ (.slice vA vs.length vc)) gb TE #[.int .i64 e.t, .int .i64 e.m, .int .i64 e.k, .int .i64 e.s, .int .i64 e.v, .int .i64 e.si, .int .i64 e.c, .slice e.A e.n e.d]) := Lib.hid (HO3.out.far ⟨b, o + 7, none⟩ (Ne.symm HNB.out.2) _)
          have HB4 : Hid (Below base w (w3.setCell ⟨b, o + 7, none⟩ (.slice vA vs.length vc))) := Lib.hid (HB3.out.setCell HGB.out _)
          generalize w3.setCell ⟨b, o + 7, none⟩ (.slice vA vs.length vc) = wT at HW4 HO4 HB4 ⊢
          obtain ⟨xT, HXT0⟩ : ∃ xT, Hid (xT = ({ xS with wv := (.slice vA vs.length vc), p := { xS.p with c := e.c, ws := vs } } : Wm)) := ⟨_, Lib.hid rfl⟩
          obtain ⟨lT, HLT⟩ : ∃ lT, Hid (lT = lS.set i xT) := ⟨_, Lib.hid rfl⟩
          have HWT : Hid (WsAt wT base (.slice (some ⟨b, 0, none⟩) N cap) lT) := Lib.hid (by rw [HLT.out, HXT0.out]; exact HW4.out)
          have HXT : Hid (lT[i]? = some xT) := Lib.hid (by rw [HLT.out, List.getElem?_set, if_pos rfl, if_pos (List.getElem?_eq_some_iff.1 HXS.out).1])
          have HBT : Hid (Below base w wT.drew) := Lib.hid HB4.out.drew
          have HBB2 : Hid (base ≤ wT.drew.heap.size) := Lib.hid (Nat.le_trans HBB.out HBT.out.size)
          have HSEU : Hid (∀ q : Pw, (lT.map Wm.p).set i q = (l.map Wm.p).set i q) := Lib.hid (fun q => by rw [HLT.out, List.map_set, List.set_set]; exact HSET.out q)
          have HTY : Hid (takeP x.p e vs = { xT.p with ts := ins xT.p.ts e.m }) := Lib.hid (by rw [HTX.out, HXT0.out])
          have HSZ2 : Hid (xT.p.ss.length ≤ 100000 ∧ xT.p.ts.length ≤ 100000 ∧ xT.p.ms.length ≤ 100000) := Lib.hid (by rw [HXT0.out]; exact HSZ.out)
          clear HW4 HB4 HB3 HO3 HV3 HW3 HX6 HW2 HC2 HR2 HCL HXT0 HLT HSET HTX HSZ HBS HBB1 HOS HXS HWS
          go_upto_region 9 with (fail)
          have HR := Lib.hid (rising_any base xT.tv xT.p.ts e.m wT.drew (by have := HWT.out.row i xT HXT.out 1 (by omega); unfold rowOk at this; rw [show subL xT 1 = xT.p.ts.map iV from rfl, List.length_map] at this; exact this) ((HWT.out.ok xT (List.mem_of_getElem? HXT.out)).2.1) HBB2.out (HSZ2.out.2.1))
          have k3 : wT.cell? ⟨b, o + 4, none⟩ = some xT.tv := by
            have := cellW HWT.out.own HXT.out (j := 4) (by omega) (v := xT.tv) rfl
            rw [HOO.out] at this
            exact this.1
          have k1 : wT.cell? ⟨gb, 1, none⟩ = some (.int .i64 e.m) := HO4.out.cell 1
          refine wp_region_any (by kernel_rfl) ?_
          change wpAny _ _ _ _ _ _ _ (World.drew _)
          refine wpAny_take (i := 0) (v := .pointer (some ⟨b, o, none⟩)) rfl (by kernel_rfl) (by kernel_rfl) (by kernel_rfl) (fun _ _ _ h => h) (Or.inl ⟨by rfl, fun w => by go_simp⟩) ?_
          try simp only [Act.put, List.getElem_toArray, List.getElem_cons_succ, List.getElem_cons_zero, List.setIfInBounds_toArray, List.set_cons_zero, List.set_cons_succ]
          refine wpAny_take (i := 1) (v := .pointer (some ⟨b, o, none⟩)) rfl (by kernel_rfl) (by kernel_rfl) (by kernel_rfl) (fun _ _ _ h => h) (Or.inl ⟨by rfl, fun w => by go_simp⟩) ?_
          try simp only [Act.put, List.getElem_toArray, List.getElem_cons_succ, List.getElem_cons_zero, List.setIfInBounds_toArray, List.set_cons_zero, List.set_cons_succ]
          refine wpAny_take (i := 2) (v := .pointer (some ⟨b, o, none⟩)) rfl (by kernel_rfl) (by kernel_rfl) (by kernel_rfl) (fun _ _ _ h => h) (Or.inl ⟨by rfl, fun w => by go_simp⟩) ?_
          try simp only [Act.put, List.getElem_toArray, List.getElem_cons_succ, List.getElem_cons_zero, List.setIfInBounds_toArray, List.set_cons_zero, List.set_cons_succ]
          refine wpAny_take (i := 3) (v := .pointer (some ⟨b, o + 4, none⟩)) rfl (by kernel_rfl) (by kernel_rfl) (by kernel_rfl) (fun _ _ _ h => h) (Or.inl ⟨by rfl, fun w => by go_simp⟩) ?_
          try simp only [Act.put, List.getElem_toArray, List.getElem_cons_succ, List.getElem_cons_zero, List.setIfInBounds_toArray, List.set_cons_zero, List.set_cons_succ]
          refine wpAny_take (i := 5) (v := .pointer (some ⟨gb, 1, none⟩)) rfl (by kernel_rfl) (by kernel_rfl) (by kernel_rfl) (fun _ _ _ h => h) (Or.inl ⟨by rfl, fun w => by go_simp⟩) ?_
          try simp only [Act.put, List.getElem_toArray, List.getElem_cons_succ, List.getElem_cons_zero, List.setIfInBounds_toArray, List.set_cons_zero, List.set_cons_succ]
          refine wpAny_ready (rs := [4, 6]) (by kernel_rfl) (by simp) ?_
          refine AllReady.cons rfl (fun KK hK => ?_) (AllReady.cons rfl (fun KK hK => ?_) AllReady.nil)
          · go_simp
            refine hK _ _ ?_
            clear hK KK
            try simp only [Act.put, List.getElem_toArray, List.getElem_cons_succ, List.getElem_cons_zero, List.setIfInBounds_toArray, List.set_cons_zero, List.set_cons_succ]
            refine wpAny_ready (rs := [6]) (by kernel_rfl) (by simp) ?_
            refine AllReady.cons rfl (fun KK hK => ?_) AllReady.nil
            go_simp
            refine hK _ _ ?_
            clear hK KK
            try simp only [Act.put, List.getElem_toArray, List.getElem_cons_succ, List.getElem_cons_zero, List.setIfInBounds_toArray, List.set_cons_zero, List.set_cons_succ]
            refine wpAny_ready (rs := [7]) (by kernel_rfl) (by simp) ?_
            refine AllReady.cons rfl (fun KK hK => ?_) AllReady.nil
            go_simp
            refine HR.out.mono ?_
            rintro e' w2 ⟨vR0, rfl, h1, h2, h3⟩
            obtain ⟨vA, vc, rfl⟩ := row_sl h1
            have HP1 := Lib.hid h1
            have HP2 : Hid (wT.grownBy w2 (sub xT 1).ownBlock) := Lib.hid (drewG h2)
            have HP2d := Lib.hid h2
            have HP3 : Hid (Grow wT (sub xT 1) (.slice vA (ins xT.p.ts e.m).length vc)) := Lib.hid h3
            clear h1 h2 h3
            have hcw := cellW (HWT.out.ownKept HXT.out (f := 1) HP2.out) HXT.out (j := 4) (by omega) (v := xT.tv) rfl
            rw [HOO.out] at hcw
            have y1 : w2.cell? ⟨b, o + 4, none⟩ = some xT.tv := hcw.1
            have y2 : w2.frozen? ⟨b, o + 4, none⟩ = false := hcw.2
            clear hcw
            refine hK _ _ ?_
            clear hK KK
            try simp only [Act.put, List.getElem_toArray, List.getElem_cons_succ, List.getElem_cons_zero, List.setIfInBounds_toArray, List.set_cons_zero, List.set_cons_succ]
            refine wpAny_take (i := 8) (v := .pointer (some ⟨b, o, none⟩)) rfl (by kernel_rfl) (by kernel_rfl) (by kernel_rfl) (fun _ _ _ h => h) (Or.inl ⟨by rfl, fun w => by go_simp⟩) ?_
            try simp only [Act.put, List.getElem_toArray, List.getElem_cons_succ, List.getElem_cons_zero, List.setIfInBounds_toArray, List.set_cons_zero, List.set_cons_succ]
            refine wpAny_take (i := 9) (v := .pointer (some ⟨b, o + 4, none⟩)) rfl (by kernel_rfl) (by kernel_rfl) (by kernel_rfl) (fun _ _ _ h => h) (Or.inl ⟨by rfl, fun w => by go_simp⟩) ?_
            try simp only [Act.put, List.getElem_toArray, List.getElem_cons_succ, List.getElem_cons_zero, List.setIfInBounds_toArray, List.set_cons_zero, List.set_cons_succ]
            refine wpAny_ready (rs := [10]) (by kernel_rfl) (by simp) ?_
            refine AllReady.cons rfl (fun KK hK => ?_) AllReady.nil
            go_simp
            refine hK _ _ ?_
            clear hK KK
            try simp only [Act.put, List.getElem_toArray, List.getElem_cons_succ, List.getElem_cons_zero, List.setIfInBounds_toArray, List.set_cons_zero, List.set_cons_succ]
            refine wpAny_done (by kernel_rfl) ?_ _
            have HWE : Hid (WsAt (w2.setCell ⟨b, o + 4, none⟩ (.slice vA (ins xT.p.ts e.m).length vc)) base (.slice (some ⟨b, 0, none⟩) N cap) (lT.set i { xT with tv := (.slice vA (ins xT.p.ts e.m).length vc) , p := { xT.p with ts := ins xT.p.ts e.m } })) := Lib.hid (by
              rw [← HOO.out]
              exact HWT.out.upd (w1 := w2) (f := 1) (j := 4) (x' := { xT with tv := (.slice vA (ins xT.p.ts e.m).length vc) , p := { xT.p with ts := ins xT.p.ts e.m } }) HXT.out (by omega) rfl
                (fun f' h4 hne => by
                  rcases (show f' = 0 ∨ f' = 1 ∨ f' = 2 ∨ f' = 3 by omega) with rfl | rfl | rfl | rfl
                  all_goals first | exact absurd rfl hne | exact ⟨rfl, rfl⟩)
                HP2.out (HWT.out.newB HP3.out) (fun _ => by
                  unfold rowOk
                  rw [show (subL { xT with tv := (.slice vA (ins xT.p.ts e.m).length vc) , p := { xT.p with ts := ins xT.p.ts e.m } } 1) = (ins xT.p.ts e.m).map iV from rfl, List.length_map]
                  exact HP1.out)
                (by
                  obtain ⟨k1, k2, k3⟩ := HWT.out.ok xT (List.mem_of_getElem? HXT.out)
                  exact ⟨k1, ins_sorted k2, k3⟩))
            have HPE : Hid ((lT.set i { xT with tv := (.slice vA (ins xT.p.ts e.m).length vc) , p := { xT.p with ts := ins xT.p.ts e.m } }).map Wm.p = (l.map Wm.p).set i (takeP x.p e vs)) := Lib.hid (by
              rw [List.map_set, HSEU.out, HTY.out])
            have HBE : Hid (Below base w (w2.setCell ⟨b, o + 4, none⟩ (.slice vA (ins xT.p.ts e.m).length vc))) := Lib.hid ((HBT.out.trans (belowB HP2d.out HBB2.out (fun k hk => ((HWT.out.row i xT HXT.out 1 (by omega)).lt k hk).1))).setCell HGB.out (.slice vA (ins xT.p.ts e.m).length vc))
            clear HR HP1 HP2 HP2d HP3 y1 y2
            generalize w2.setCell ⟨b, o + 4, none⟩ (.slice vA (ins xT.p.ts e.m).length vc) = w4 at HWE HBE ⊢
            go_wp2
            first | go_end0 | refine bodyPost_ret (results_none rfl _ _ _) rfl ?_
            exact ⟨rfl, _, HWE.out, HPE.out, HBE.out⟩

          · go_simp
            refine hK _ _ ?_
            clear hK KK
            try simp only [Act.put, List.getElem_toArray, List.getElem_cons_succ, List.getElem_cons_zero, List.setIfInBounds_toArray, List.set_cons_zero, List.set_cons_succ]
            refine wpAny_ready (rs := [4]) (by kernel_rfl) (by simp) ?_
            refine AllReady.cons rfl (fun KK hK => ?_) AllReady.nil
            go_simp
            refine hK _ _ ?_
            clear hK KK
            try simp only [Act.put, List.getElem_toArray, List.getElem_cons_succ, List.getElem_cons_zero, List.setIfInBounds_toArray, List.set_cons_zero, List.set_cons_succ]
            refine wpAny_ready (rs := [7]) (by kernel_rfl) (by simp) ?_
            refine AllReady.cons rfl (fun KK hK => ?_) AllReady.nil
            go_simp
            refine HR.out.mono ?_
            rintro e' w2 ⟨vR0, rfl, h1, h2, h3⟩
            obtain ⟨vA, vc, rfl⟩ := row_sl h1
            have HP1 := Lib.hid h1
            have HP2 : Hid (wT.grownBy w2 (sub xT 1).ownBlock) := Lib.hid (drewG h2)
            have HP2d := Lib.hid h2
            have HP3 : Hid (Grow wT (sub xT 1) (.slice vA (ins xT.p.ts e.m).length vc)) := Lib.hid h3
            clear h1 h2 h3
            have hcw := cellW (HWT.out.ownKept HXT.out (f := 1) HP2.out) HXT.out (j := 4) (by omega) (v := xT.tv) rfl
            rw [HOO.out] at hcw
            have y1 : w2.cell? ⟨b, o + 4, none⟩ = some xT.tv := hcw.1
            have y2 : w2.frozen? ⟨b, o + 4, none⟩ = false := hcw.2
            clear hcw
            refine hK _ _ ?_
            clear hK KK
            try simp only [Act.put, List.getElem_toArray, List.getElem_cons_succ, List.getElem_cons_zero, List.setIfInBounds_toArray, List.set_cons_zero, List.set_cons_succ]
            refine wpAny_take (i := 8) (v := .pointer (some ⟨b, o, none⟩)) rfl (by kernel_rfl) (by kernel_rfl) (by kernel_rfl) (fun _ _ _ h => h) (Or.inl ⟨by rfl, fun w => by go_simp⟩) ?_
            try simp only [Act.put, List.getElem_toArray, List.getElem_cons_succ, List.getElem_cons_zero, List.setIfInBounds_toArray, List.set_cons_zero, List.set_cons_succ]
            refine wpAny_take (i := 9) (v := .pointer (some ⟨b, o + 4, none⟩)) rfl (by kernel_rfl) (by kernel_rfl) (by kernel_rfl) (fun _ _ _ h => h) (Or.inl ⟨by rfl, fun w => by go_simp⟩) ?_
            try simp only [Act.put, List.getElem_toArray, List.getElem_cons_succ, List.getElem_cons_zero, List.setIfInBounds_toArray, List.set_cons_zero, List.set_cons_succ]
            refine wpAny_ready (rs := [10]) (by kernel_rfl) (by simp) ?_
            refine AllReady.cons rfl (fun KK hK => ?_) AllReady.nil
            go_simp
            refine hK _ _ ?_
            clear hK KK
            try simp only [Act.put, List.getElem_toArray, List.getElem_cons_succ, List.getElem_cons_zero, List.setIfInBounds_toArray, List.set_cons_zero, List.set_cons_succ]
            refine wpAny_done (by kernel_rfl) ?_ _
            have HWE : Hid (WsAt (w2.setCell ⟨b, o + 4, none⟩ (.slice vA (ins xT.p.ts e.m).length vc)) base (.slice (some ⟨b, 0, none⟩) N cap) (lT.set i { xT with tv := (.slice vA (ins xT.p.ts e.m).length vc) , p := { xT.p with ts := ins xT.p.ts e.m } })) := Lib.hid (by
              rw [← HOO.out]
              exact HWT.out.upd (w1 := w2) (f := 1) (j := 4) (x' := { xT with tv := (.slice vA (ins xT.p.ts e.m).length vc) , p := { xT.p with ts := ins xT.p.ts e.m } }) HXT.out (by omega) rfl
                (fun f' h4 hne => by
                  rcases (show f' = 0 ∨ f' = 1 ∨ f' = 2 ∨ f' = 3 by omega) with rfl | rfl | rfl | rfl
                  all_goals first | exact absurd rfl hne | exact ⟨rfl, rfl⟩)
                HP2.out (HWT.out.newB HP3.out) (fun _ => by
                  unfold rowOk
                  rw [show (subL { xT with tv := (.slice vA (ins xT.p.ts e.m).length vc) , p := { xT.p with ts := ins xT.p.ts e.m } } 1) = (ins xT.p.ts e.m).map iV from rfl, List.length_map]
                  exact HP1.out)
                (by
                  obtain ⟨k1, k2, k3⟩ := HWT.out.ok xT (List.mem_of_getElem? HXT.out)
                  exact ⟨k1, ins_sorted k2, k3⟩))
            have HPE : Hid ((lT.set i { xT with tv := (.slice vA (ins xT.p.ts e.m).length vc) , p := { xT.p with ts := ins xT.p.ts e.m } }).map Wm.p = (l.map Wm.p).set i (takeP x.p e vs)) := Lib.hid (by
              rw [List.map_set, HSEU.out, HTY.out])
            have HBE : Hid (Below base w (w2.setCell ⟨b, o + 4, none⟩ (.slice vA (ins xT.p.ts e.m).length vc))) := Lib.hid ((HBT.out.trans (belowB HP2d.out HBB2.out (fun k hk => ((HWT.out.row i xT HXT.out 1 (by omega)).lt k hk).1))).setCell HGB.out (.slice vA (ins xT.p.ts e.m).length vc))
            clear HR HP1 HP2 HP2d HP3 y1 y2
            generalize w2.setCell ⟨b, o + 4, none⟩ (.slice vA (ins xT.p.ts e.m).length vc) = w4 at HWE HBE ⊢
            go_wp2
            first | go_end0 | refine bodyPost_ret (results_none rfl _ _ _) rfl ?_
            exact ⟨rfl, _, HWE.out, HPE.out, HBE.out⟩

        · go_simp
          refine HCL.out.mono ?_
          rintro e' w2 ⟨vR0, rfl, h1, h2⟩
          obtain ⟨vA, vc, rfl⟩ := row_sl h1
          have HR2 := Lib.hid h1
          have HC2 : Hid (Below wS.heap.size wS w2) := Lib.hid ((bel_drew wS).trans h2)
          clear h1 h2
          have HW2 := Lib.hid (HWS.out.below HC2.out)
          have hcw := cellW HW2.out.own HXS.out (j := 6) (by omega) (v := .int .i64 xS.p.c) rfl
          rw [HOO.out] at hcw
          have y6 : w2.cell? ⟨b, o + 6, none⟩ = some (.int .i64 xS.p.c) := hcw.1
          have z6 : w2.frozen? ⟨b, o + 6, none⟩ = false := hcw.2
          have k6' : w2.cell? ⟨gb, 6, none⟩ = some (.int .i64 e.c) := (HOS.out.kept HC2.out).cell 6
          clear hcw
          refine hK _ _ ?_
          clear hK KK
          try simp only [Act.put, List.getElem_toArray, List.getElem_cons_succ, List.getElem_cons_zero, List.setIfInBounds_toArray, List.set_cons_zero, List.set_cons_succ]
          refine wpAny_ready (rs := [3]) (by kernel_rfl) (by simp) ?_
          refine AllReady.cons rfl (fun KK hK => ?_) AllReady.nil
          go_simp
          refine hK _ _ ?_
          clear hK KK
          try simp only [Act.put, List.getElem_toArray, List.getElem_cons_succ, List.getElem_cons_zero, List.setIfInBounds_toArray, List.set_cons_zero, List.set_cons_succ]
          refine wpAny_take (i := 7) (v := .pointer (some ⟨b, o, none⟩)) rfl (by kernel_rfl) (by kernel_rfl) (by kernel_rfl) (fun _ _ _ h => h) (Or.inl ⟨by rfl, fun w => by go_simp⟩) ?_
          try simp only [Act.put, List.getElem_toArray, List.getElem_cons_succ, List.getElem_cons_zero, List.setIfInBounds_toArray, List.set_cons_zero, List.set_cons_succ]
          refine wpAny_take (i := 8) (v := .pointer (some ⟨b, o + 6, none⟩)) rfl (by kernel_rfl) (by kernel_rfl) (by kernel_rfl) (fun _ _ _ h => h) (Or.inl ⟨by rfl, fun w => by go_simp⟩) ?_
          try simp only [Act.put, List.getElem_toArray, List.getElem_cons_succ, List.getElem_cons_zero, List.setIfInBounds_toArray, List.set_cons_zero, List.set_cons_succ]
          refine wpAny_ready (rs := [9]) (by kernel_rfl) (by simp) ?_
          refine AllReady.cons rfl (fun KK hK => ?_) AllReady.nil
          go_simp
          refine hK _ _ ?_
          clear hK KK y6 z6 k6'
          try simp only [Act.put, List.getElem_toArray, List.getElem_cons_succ, List.getElem_cons_zero, List.setIfInBounds_toArray, List.set_cons_zero, List.set_cons_succ]
          have HNB : Hid (b < wS.heap.size ∧ b ≠ gb) := Lib.hid (by have h1 := (HWS.out.own.lt b rfl).2; have h2 := HBG.out; omega)
          have HX6 : Hid ((lS.set i { xS with p := { xS.p with c := e.c } })[i]? = some { xS with p := { xS.p with c := e.c } }) := Lib.hid (by rw [List.getElem?_set, if_pos rfl, if_pos (List.getElem?_eq_some_iff.1 HXS.out).1])
          have HW3 : Hid (WsAt (w2.setCell ⟨b, o + 6, none⟩ (.int .i64 e.c)) base (.slice (some ⟨b, 0, none⟩) N cap) (lS.set i { xS with p := { xS.p with c := e.c } })) := Lib.hid (by
            rw [← HOO.out]
            exact HW2.out.upd (w1 := w2) (f := 9) (j := 6) (x' := { xS with p := { xS.p with c := e.c } }) HXS.out (by omega) rfl (fun f' h4 hne => by
                rcases (show f' = 0 ∨ f' = 1 ∨ f' = 2 ∨ f' = 3 by omega) with rfl | rfl | rfl | rfl
                all_goals exact ⟨rfl, rfl⟩) (grown_of (Below.refl _ _)) (.inl rfl) (fun h => absurd h (by omega)) (HWS.out.ok xS (List.mem_of_getElem? HXS.out)))
          have HV3 : Hid ((w2.setCell ⟨b, o + 6, none⟩ (.int .i64 e.c)).ownsRow wS.heap.size TU8 1 (.slice vA vs.length vc) vs.length (vs.map bV)) := Lib.hid (HR2.out.kept ((Wrote.refl b w2).set (.inl rfl) _) (by
            cases e' : (Value.ownBlock (.slice vA vs.length vc)) with
            | none => exact .inl rfl
            | some k =>
              refine .inr (fun e2 => ?_)
              have h1 := (HR2.out.lt k e').1
              have h2 := HNB.out
              injection e2 with e2
              have h3 : wS.heap.size ≤ k := h1
              omega))
          have HO3 : Hid (Obj1 (w2.setCell ⟨b, o + 6, none⟩ (.int .i64 e.c)) gb TE #[.int .i64 e.t, .int .i64 e.m, .int .i64 e.k, .int .i64 e.s, .int .i64 e.v, .int .i64 e.si, .int .i64 e.c, .slice e.A e.n e.d]) := Lib.hid ((HOS.out.kept HC2.out).far ⟨b, o + 6, none⟩ (Ne.symm HNB.out.2) _)
          have HB3 : Hid (Below base w (w2.setCell ⟨b, o + 6, none⟩ (.int .i64 e.c))) := Lib.hid ((HBS.out.trans (show Below base wS.drew w2 from ⟨HC2.out.os, HC2.out.tape, HC2.out.output, HC2.out.size, fun k hk => HC2.out.block k (Nat.lt_of_lt_of_le hk HBB1.out)⟩)).setCell HGB.out _)
          generalize w2.setCell ⟨b, o + 6, none⟩ (.int .i64 e.c) = w3 at HW3 HV3 HO3 HB3 ⊢
          have hcw := cellW HW3.out.own HX6.out (j := 7) (by omega) (v := xS.wv) rfl
          rw [HOO.out] at hcw
          have y7 : w3.cell? ⟨b, o + 7, none⟩ = some xS.wv := hcw.1
          have z7 : w3.frozen? ⟨b, o + 7, none⟩ = false := hcw.2
          clear hcw
          refine wpAny_take (i := 10) (v := .pointer (some ⟨b, o, none⟩)) rfl (by kernel_rfl) (by kernel_rfl) (by kernel_rfl) (fun _ _ _ h => h) (Or.inl ⟨by rfl, fun w => by go_simp⟩) ?_
          try simp only [Act.put, List.getElem_toArray, List.getElem_cons_succ, List.getElem_cons_zero, List.setIfInBounds_toArray, List.set_cons_zero, List.set_cons_succ]
          refine wpAny_take (i := 11) (v := .pointer (some ⟨b, o + 7, none⟩)) rfl (by kernel_rfl) (by kernel_rfl) (by kernel_rfl) (fun _ _ _ h => h) (Or.inl ⟨by rfl, fun w => by go_simp⟩) ?_
          try simp only [Act.put, List.getElem_toArray, List.getElem_cons_succ, List.getElem_cons_zero, List.setIfInBounds_toArray, List.set_cons_zero, List.set_cons_succ]
          refine wpAny_ready (rs := [12]) (by kernel_rfl) (by simp) ?_
          refine AllReady.cons rfl (fun KK hK => ?_) AllReady.nil
          go_simp
          refine hK _ _ ?_
          clear hK KK y7 z7
          try simp only [Act.put, List.getElem_toArray, List.getElem_cons_succ, List.getElem_cons_zero, List.setIfInBounds_toArray, List.set_cons_zero, List.set_cons_succ]
          refine wpAny_done (by kernel_rfl) ?_ _
          have HW4 : Hid (WsAt (w3.setCell ⟨b, o + 7, none⟩ (.slice vA vs.length vc)) base (.slice (some ⟨b, 0, none⟩) N cap) (lS.set i { xS with wv := (.slice vA vs.length vc), p := { xS.p with c := e.c, ws := vs } })) := Lib.hid (by
            rw [← HOO.out]
            have := HW3.out.upd (w1 := w3) (f := 3) (j := 7) (x' := { xS with wv := (.slice vA vs.length vc), p := { xS.p with c := e.c, ws := vs } }) (u := (.slice vA vs.length vc)) HX6.out (by omega) rfl (fun f' h4 hne => by
                rcases (show f' = 0 ∨ f' = 1 ∨ f' = 2 ∨ f' = 3 by omega) with rfl | rfl | rfl | rfl
                all_goals first | exact absurd rfl hne | exact ⟨rfl, rfl⟩) (grown_of (Below.refl _ _)) (.inr (fun k hk a ha => by
                  have ha := (bk_same (RV := .slice (some ⟨b, 0, none⟩) N cap) (x' := { xS with p := { xS.p with c := e.c } }) HXS.out (fun f => rfl) a).symm.trans ha
                  have h1 := (HWS.out.lt a k ha).2
                  have h2 := (HV3.out.lt k hk).1
                  omega)) (fun _ => by
                  unfold rowOk
                  rw [show (subL { xS with wv := (.slice vA vs.length vc), p := { xS.p with c := e.c, ws := vs } } 3) = vs.map bV from rfl, List.length_map]
                  exact row_mono HV3.out HBB1.out) (HWS.out.ok xS (List.mem_of_getElem? HXS.out))
            rw [List.set_set] at this
            exact this)
          have HO4 : Hid (Obj1 (w3.setCell ⟨b, o + 7, none⟩ (.slice vA vs.length vc)) gb TE #[.int .i64 e.t, .int .i64 e.m, .int .i64 e.k, .int .i64 e.s, .int .i64 e.v, .int .i64 e.si, .int .i64 e.c, .slice e.A e.n e.d]) := Lib.hid (HO3.out.far ⟨b, o + 7, none⟩ (Ne.symm HNB.out.2) _)
          have HB4 : Hid (Below base w (w3.setCell ⟨b, o + 7, none⟩ (.slice vA vs.length vc))) := Lib.hid (HB3.out.setCell HGB.out _)
          generalize w3.setCell ⟨b, o + 7, none⟩ (.slice vA vs.length vc) = wT at HW4 HO4 HB4 ⊢
          obtain ⟨xT, HXT0⟩ : ∃ xT, Hid (xT = ({ xS with wv := (.slice vA vs.length vc), p := { xS.p with c := e.c, ws := vs } } : Wm)) := ⟨_, Lib.hid rfl⟩
          obtain ⟨lT, HLT⟩ : ∃ lT, Hid (lT = lS.set i xT) := ⟨_, Lib.hid rfl⟩
          have HWT : Hid (WsAt wT base (.slice (some ⟨b, 0, none⟩) N cap) lT) := Lib.hid (by rw [HLT.out, HXT0.out]; exact HW4.out)
          have HXT : Hid (lT[i]? = some xT) := Lib.hid (by rw [HLT.out, List.getElem?_set, if_pos rfl, if_pos (List.getElem?_eq_some_iff.1 HXS.out).1])
          have HBT : Hid (Below base w wT.drew) := Lib.hid HB4.out.drew
          have HBB2 : Hid (base ≤ wT.drew.heap.size) := Lib.hid (Nat.le_trans HBB.out HBT.out.size)
          have HSEU : Hid (∀ q : Pw, (lT.map Wm.p).set i q = (l.map Wm.p).set i q) := Lib.hid (fun q => by rw [HLT.out, List.map_set, List.set_set]; exact HSET.out q)
          have HTY : Hid (takeP x.p e vs = { xT.p with ts := ins xT.p.ts e.m }) := Lib.hid (by rw [HTX.out, HXT0.out])
          have HSZ2 : Hid (xT.p.ss.length ≤ 100000 ∧ xT.p.ts.length ≤ 100000 ∧ xT.p.ms.length ≤ 100000) := Lib.hid (by rw [HXT0.out]; exact HSZ.out)
          clear HW4 HB4 HB3 HO3 HV3 HW3 HX6 HW2 HC2 HR2 HCL HXT0 HLT HSET HTX HSZ HBS HBB1 HOS HXS HWS
          go_upto_region 9 with (fail)
          have HR := Lib.hid (rising_any base xT.tv xT.p.ts e.m wT.drew (by have := HWT.out.row i xT HXT.out 1 (by omega); unfold rowOk at this; rw [show subL xT 1 = xT.p.ts.map iV from rfl, List.length_map] at this; exact this) ((HWT.out.ok xT (List.mem_of_getElem? HXT.out)).2.1) HBB2.out (HSZ2.out.2.1))
          have k3 : wT.cell? ⟨b, o + 4, none⟩ = some xT.tv := by
            have := cellW HWT.out.own HXT.out (j := 4) (by omega) (v := xT.tv) rfl
            rw [HOO.out] at this
            exact this.1
          have k1 : wT.cell? ⟨gb, 1, none⟩ = some (.int .i64 e.m) := HO4.out.cell 1
          refine wp_region_any (by kernel_rfl) ?_
          change wpAny _ _ _ _ _ _ _ (World.drew _)
          refine wpAny_take (i := 0) (v := .pointer (some ⟨b, o, none⟩)) rfl (by kernel_rfl) (by kernel_rfl) (by kernel_rfl) (fun _ _ _ h => h) (Or.inl ⟨by rfl, fun w => by go_simp⟩) ?_
          try simp only [Act.put, List.getElem_toArray, List.getElem_cons_succ, List.getElem_cons_zero, List.setIfInBounds_toArray, List.set_cons_zero, List.set_cons_succ]
          refine wpAny_take (i := 1) (v := .pointer (some ⟨b, o, none⟩)) rfl (by kernel_rfl) (by kernel_rfl) (by kernel_rfl) (fun _ _ _ h => h) (Or.inl ⟨by rfl, fun w => by go_simp⟩) ?_
          try simp only [Act.put, List.getElem_toArray, List.getElem_cons_succ, List.getElem_cons_zero, List.setIfInBounds_toArray, List.set_cons_zero, List.set_cons_succ]
          refine wpAny_take (i := 2) (v := .pointer (some ⟨b, o, none⟩)) rfl (by kernel_rfl) (by kernel_rfl) (by kernel_rfl) (fun _ _ _ h => h) (Or.inl ⟨by rfl, fun w => by go_simp⟩) ?_
          try simp only [Act.put, List.getElem_toArray, List.getElem_cons_succ, List.getElem_cons_zero, List.setIfInBounds_toArray, List.set_cons_zero, List.set_cons_succ]
          refine wpAny_take (i := 3) (v := .pointer (some ⟨b, o + 4, none⟩)) rfl (by kernel_rfl) (by kernel_rfl) (by kernel_rfl) (fun _ _ _ h => h) (Or.inl ⟨by rfl, fun w => by go_simp⟩) ?_
          try simp only [Act.put, List.getElem_toArray, List.getElem_cons_succ, List.getElem_cons_zero, List.setIfInBounds_toArray, List.set_cons_zero, List.set_cons_succ]
          refine wpAny_take (i := 5) (v := .pointer (some ⟨gb, 1, none⟩)) rfl (by kernel_rfl) (by kernel_rfl) (by kernel_rfl) (fun _ _ _ h => h) (Or.inl ⟨by rfl, fun w => by go_simp⟩) ?_
          try simp only [Act.put, List.getElem_toArray, List.getElem_cons_succ, List.getElem_cons_zero, List.setIfInBounds_toArray, List.set_cons_zero, List.set_cons_succ]
          refine wpAny_ready (rs := [4, 6]) (by kernel_rfl) (by simp) ?_
          refine AllReady.cons rfl (fun KK hK => ?_) (AllReady.cons rfl (fun KK hK => ?_) AllReady.nil)
          · go_simp
            refine hK _ _ ?_
            clear hK KK
            try simp only [Act.put, List.getElem_toArray, List.getElem_cons_succ, List.getElem_cons_zero, List.setIfInBounds_toArray, List.set_cons_zero, List.set_cons_succ]
            refine wpAny_ready (rs := [6]) (by kernel_rfl) (by simp) ?_
            refine AllReady.cons rfl (fun KK hK => ?_) AllReady.nil
            go_simp
            refine hK _ _ ?_
            clear hK KK
            try simp only [Act.put, List.getElem_toArray, List.getElem_cons_succ, List.getElem_cons_zero, List.setIfInBounds_toArray, List.set_cons_zero, List.set_cons_succ]
            refine wpAny_ready (rs := [7]) (by kernel_rfl) (by simp) ?_
            refine AllReady.cons rfl (fun KK hK => ?_) AllReady.nil
            go_simp
            refine HR.out.mono ?_
            rintro e' w2 ⟨vR0, rfl, h1, h2, h3⟩
            obtain ⟨vA, vc, rfl⟩ := row_sl h1
            have HP1 := Lib.hid h1
            have HP2 : Hid (wT.grownBy w2 (sub xT 1).ownBlock) := Lib.hid (drewG h2)
            have HP2d := Lib.hid h2
            have HP3 : Hid (Grow wT (sub xT 1) (.slice vA (ins xT.p.ts e.m).length vc)) := Lib.hid h3
            clear h1 h2 h3
            have hcw := cellW (HWT.out.ownKept HXT.out (f := 1) HP2.out) HXT.out (j := 4) (by omega) (v := xT.tv) rfl
            rw [HOO.out] at hcw
            have y1 : w2.cell? ⟨b, o + 4, none⟩ = some xT.tv := hcw.1
            have y2 : w2.frozen? ⟨b, o + 4, none⟩ = false := hcw.2
            clear hcw
            refine hK _ _ ?_
            clear hK KK
            try simp only [Act.put, List.getElem_toArray, List.getElem_cons_succ, List.getElem_cons_zero, List.setIfInBounds_toArray, List.set_cons_zero, List.set_cons_succ]
            refine wpAny_take (i := 8) (v := .pointer (some ⟨b, o, none⟩)) rfl (by kernel_rfl) (by kernel_rfl) (by kernel_rfl) (fun _ _ _ h => h) (Or.inl ⟨by rfl, fun w => by go_simp⟩) ?_
            try simp only [Act.put, List.getElem_toArray, List.getElem_cons_succ, List.getElem_cons_zero, List.setIfInBounds_toArray, List.set_cons_zero, List.set_cons_succ]
            refine wpAny_take (i := 9) (v := .pointer (some ⟨b, o + 4, none⟩)) rfl (by kernel_rfl) (by kernel_rfl) (by kernel_rfl) (fun _ _ _ h => h) (Or.inl ⟨by rfl, fun w => by go_simp⟩) ?_
            try simp only [Act.put, List.getElem_toArray, List.getElem_cons_succ, List.getElem_cons_zero, List.setIfInBounds_toArray, List.set_cons_zero, List.set_cons_succ]
            refine wpAny_ready (rs := [10]) (by kernel_rfl) (by simp) ?_
            refine AllReady.cons rfl (fun KK hK => ?_) AllReady.nil
            go_simp
            refine hK _ _ ?_
            clear hK KK
            try simp only [Act.put, List.getElem_toArray, List.getElem_cons_succ, List.getElem_cons_zero, List.setIfInBounds_toArray, List.set_cons_zero, List.set_cons_succ]
            refine wpAny_done (by kernel_rfl) ?_ _
            have HWE : Hid (WsAt (w2.setCell ⟨b, o + 4, none⟩ (.slice vA (ins xT.p.ts e.m).length vc)) base (.slice (some ⟨b, 0, none⟩) N cap) (lT.set i { xT with tv := (.slice vA (ins xT.p.ts e.m).length vc) , p := { xT.p with ts := ins xT.p.ts e.m } })) := Lib.hid (by
              rw [← HOO.out]
              exact HWT.out.upd (w1 := w2) (f := 1) (j := 4) (x' := { xT with tv := (.slice vA (ins xT.p.ts e.m).length vc) , p := { xT.p with ts := ins xT.p.ts e.m } }) HXT.out (by omega) rfl
                (fun f' h4 hne => by
                  rcases (show f' = 0 ∨ f' = 1 ∨ f' = 2 ∨ f' = 3 by omega) with rfl | rfl | rfl | rfl
                  all_goals first | exact absurd rfl hne | exact ⟨rfl, rfl⟩)
                HP2.out (HWT.out.newB HP3.out) (fun _ => by
                  unfold rowOk
                  rw [show (subL { xT with tv := (.slice vA (ins xT.p.ts e.m).length vc) , p := { xT.p with ts := ins xT.p.ts e.m } } 1) = (ins xT.p.ts e.m).map iV from rfl, List.length_map]
                  exact HP1.out)
                (by
                  obtain ⟨k1, k2, k3⟩ := HWT.out.ok xT (List.mem_of_getElem? HXT.out)
                  exact ⟨k1, ins_sorted k2, k3⟩))
            have HPE : Hid ((lT.set i { xT with tv := (.slice vA (ins xT.p.ts e.m).length vc) , p := { xT.p with ts := ins xT.p.ts e.m } }).map Wm.p = (l.map Wm.p).set i (takeP x.p e vs)) := Lib.hid (by
              rw [List.map_set, HSEU.out, HTY.out])
            have HBE : Hid (Below base w (w2.setCell ⟨b, o + 4, none⟩ (.slice vA (ins xT.p.ts e.m).length vc))) := Lib.hid ((HBT.out.trans (belowB HP2d.out HBB2.out (fun k hk => ((HWT.out.row i xT HXT.out 1 (by omega)).lt k hk).1))).setCell HGB.out (.slice vA (ins xT.p.ts e.m).length vc))
            clear HR HP1 HP2 HP2d HP3 y1 y2
            generalize w2.setCell ⟨b, o + 4, none⟩ (.slice vA (ins xT.p.ts e.m).length vc) = w4 at HWE HBE ⊢
            go_wp2
            first | go_end0 | refine bodyPost_ret (results_none rfl _ _ _) rfl ?_
            exact ⟨rfl, _, HWE.out, HPE.out, HBE.out⟩

          · go_simp
            refine hK _ _ ?_
            clear hK KK
            try simp only [Act.put, List.getElem_toArray, List.getElem_cons_succ, List.getElem_cons_zero, List.setIfInBounds_toArray, List.set_cons_zero, List.set_cons_succ]
            refine wpAny_ready (rs := [4]) (by kernel_rfl) (by simp) ?_
            refine AllReady.cons rfl (fun KK hK => ?_) AllReady.nil
            go_simp
            refine hK _ _ ?_
            clear hK KK
            try simp only [Act.put, List.getElem_toArray, List.getElem_cons_succ, List.getElem_cons_zero, List.setIfInBounds_toArray, List.set_cons_zero, List.set_cons_succ]
            refine wpAny_ready (rs := [7]) (by kernel_rfl) (by simp) ?_
            refine AllReady.cons rfl (fun KK hK => ?_) AllReady.nil
            go_simp
            refine HR.out.mono ?_
            rintro e' w2 ⟨vR0, rfl, h1, h2, h3⟩
            obtain ⟨vA, vc, rfl⟩ := row_sl h1
            have HP1 := Lib.hid h1
            have HP2 : Hid (wT.grownBy w2 (sub xT 1).ownBlock) := Lib.hid (drewG h2)
            have HP2d := Lib.hid h2
            have HP3 : Hid (Grow wT (sub xT 1) (.slice vA (ins xT.p.ts e.m).length vc)) := Lib.hid h3
            clear h1 h2 h3
            have hcw := cellW (HWT.out.ownKept HXT.out (f := 1) HP2.out) HXT.out (j := 4) (by omega) (v := xT.tv) rfl
            rw [HOO.out] at hcw
            have y1 : w2.cell? ⟨b, o + 4, none⟩ = some xT.tv := hcw.1
            have y2 : w2.frozen? ⟨b, o + 4, none⟩ = false := hcw.2
            clear hcw
            refine hK _ _ ?_
            clear hK KK
            try simp only [Act.put, List.getElem_toArray, List.getElem_cons_succ, List.getElem_cons_zero, List.setIfInBounds_toArray, List.set_cons_zero, List.set_cons_succ]
            refine wpAny_take (i := 8) (v := .pointer (some ⟨b, o, none⟩)) rfl (by kernel_rfl) (by kernel_rfl) (by kernel_rfl) (fun _ _ _ h => h) (Or.inl ⟨by rfl, fun w => by go_simp⟩) ?_
            try simp only [Act.put, List.getElem_toArray, List.getElem_cons_succ, List.getElem_cons_zero, List.setIfInBounds_toArray, List.set_cons_zero, List.set_cons_succ]
            refine wpAny_take (i := 9) (v := .pointer (some ⟨b, o + 4, none⟩)) rfl (by kernel_rfl) (by kernel_rfl) (by kernel_rfl) (fun _ _ _ h => h) (Or.inl ⟨by rfl, fun w => by go_simp⟩) ?_
            try simp only [Act.put, List.getElem_toArray, List.getElem_cons_succ, List.getElem_cons_zero, List.setIfInBounds_toArray, List.set_cons_zero, List.set_cons_succ]
            refine wpAny_ready (rs := [10]) (by kernel_rfl) (by simp) ?_
            refine AllReady.cons rfl (fun KK hK => ?_) AllReady.nil
            go_simp
            refine hK _ _ ?_
            clear hK KK
            try simp only [Act.put, List.getElem_toArray, List.getElem_cons_succ, List.getElem_cons_zero, List.setIfInBounds_toArray, List.set_cons_zero, List.set_cons_succ]
            refine wpAny_done (by kernel_rfl) ?_ _
            have HWE : Hid (WsAt (w2.setCell ⟨b, o + 4, none⟩ (.slice vA (ins xT.p.ts e.m).length vc)) base (.slice (some ⟨b, 0, none⟩) N cap) (lT.set i { xT with tv := (.slice vA (ins xT.p.ts e.m).length vc) , p := { xT.p with ts := ins xT.p.ts e.m } })) := Lib.hid (by
              rw [← HOO.out]
              exact HWT.out.upd (w1 := w2) (f := 1) (j := 4) (x' := { xT with tv := (.slice vA (ins xT.p.ts e.m).length vc) , p := { xT.p with ts := ins xT.p.ts e.m } }) HXT.out (by omega) rfl
                (fun f' h4 hne => by
                  rcases (show f' = 0 ∨ f' = 1 ∨ f' = 2 ∨ f' = 3 by omega) with rfl | rfl | rfl | rfl
                  all_goals first | exact absurd rfl hne | exact ⟨rfl, rfl⟩)
                HP2.out (HWT.out.newB HP3.out) (fun _ => by
                  unfold rowOk
                  rw [show (subL { xT with tv := (.slice vA (ins xT.p.ts e.m).length vc) , p := { xT.p with ts := ins xT.p.ts e.m } } 1) = (ins xT.p.ts e.m).map iV from rfl, List.length_map]
                  exact HP1.out)
                (by
                  obtain ⟨k1, k2, k3⟩ := HWT.out.ok xT (List.mem_of_getElem? HXT.out)
                  exact ⟨k1, ins_sorted k2, k3⟩))
            have HPE : Hid ((lT.set i { xT with tv := (.slice vA (ins xT.p.ts e.m).length vc) , p := { xT.p with ts := ins xT.p.ts e.m } }).map Wm.p = (l.map Wm.p).set i (takeP x.p e vs)) := Lib.hid (by
              rw [List.map_set, HSEU.out, HTY.out])
            have HBE : Hid (Below base w (w2.setCell ⟨b, o + 4, none⟩ (.slice vA (ins xT.p.ts e.m).length vc))) := Lib.hid ((HBT.out.trans (belowB HP2d.out HBB2.out (fun k hk => ((HWT.out.row i xT HXT.out 1 (by omega)).lt k hk).1))).setCell HGB.out (.slice vA (ins xT.p.ts e.m).length vc))
            clear HR HP1 HP2 HP2d HP3 y1 y2
            generalize w2.setCell ⟨b, o + 4, none⟩ (.slice vA (ins xT.p.ts e.m).length vc) = w4 at HWE HBE ⊢
            go_wp2
            first | go_end0 | refine bodyPost_ret (results_none rfl _ _ _) rfl ?_
            exact ⟨rfl, _, HWE.out, HPE.out, HBE.out⟩

    · have HTP : Hid (takeP x.p e vs = { x.p with ts := ins x.p.ts e.m }) := Lib.hid (by unfold takeP; rw [if_neg (by have := HK.out; omega), if_neg (by have := HK.out; omega), if_pos HK.out, if_neg (fun h => hz (by rw [← HNT.out, h]; rfl))])
      have hzb : ((nt : Int) == 0) = false := by simpa using hz
      clear hz
      go_enter Tryd.func47, Tryd.ntmps47
      go_upto_region 1 with (fail)
      rw [← HW1.out, HGG.out]
      go_upto_region 9 with (fail)
      clear q2 q4 hzb
      obtain ⟨wS, HSS⟩ : ∃ wS, Hid (wS = W1) := ⟨_, Lib.hid rfl⟩
      rw [← HSS.out]
      obtain ⟨lS, HLS⟩ : ∃ lS, Hid (lS = l) := ⟨_, Lib.hid rfl⟩
      obtain ⟨xS, HXX⟩ : ∃ xS, Hid (xS = x) := ⟨_, Lib.hid rfl⟩
      have HWS : Hid (WsAt wS base (.slice (some ⟨b, 0, none⟩) N cap) lS) := Lib.hid (by rw [HSS.out, HLS.out]; exact HW1S.out)
      have HXS : Hid (lS[i]? = some xS) := Lib.hid (by rw [HLS.out, HXX.out]; exact HX.out)
      have HOS : Hid (Obj1 wS gb TE #[.int .i64 e.t, .int .i64 e.m, .int .i64 e.k, .int .i64 e.s, .int .i64 e.v, .int .i64 e.si, .int .i64 e.c, .slice e.A e.n e.d]) := Lib.hid (by rw [HSS.out]; exact HO1.out)
      have HBS : Hid (Below base w wS.drew) := Lib.hid (by rw [HSS.out]; exact HB1.out)
      have HBB1 : Hid (base ≤ wS.drew.heap.size) := Lib.hid (Nat.le_trans HBB.out HBS.out.size)
      have HSET : Hid (∀ q : Pw, (lS.map Wm.p).set i q = (l.map Wm.p).set i q) := Lib.hid (fun q => by rw [HLS.out])
      have HTX : Hid (takeP x.p e vs = { xS.p with ts := ins xS.p.ts e.m }) := Lib.hid (by rw [HXX.out]; exact HTP.out)
      have HSZ : Hid (xS.p.ss.length ≤ 100000 ∧ xS.p.ts.length ≤ 100000 ∧ xS.p.ms.length ≤ 100000) := Lib.hid (by rw [HXX.out]; exact HSX.out)
      have HR := Lib.hid (rising_any base xS.tv xS.p.ts e.m wS.drew (by have := HWS.out.row i xS HXS.out 1 (by omega); unfold rowOk at this; rw [show subL xS 1 = xS.p.ts.map iV from rfl, List.length_map] at this; exact this) ((HWS.out.ok xS (List.mem_of_getElem? HXS.out)).2.1) HBB1.out (HSZ.out.2.1))
      have k3 : wS.cell? ⟨b, o + 4, none⟩ = some xS.tv := by
        have := cellW HWS.out.own HXS.out (j := 4) (by omega) (v := xS.tv) rfl
        rw [HOO.out] at this
        exact this.1
      have k1 : wS.cell? ⟨gb, 1, none⟩ = some (.int .i64 e.m) := HOS.out.cell 1
      refine wp_region_any (by kernel_rfl) ?_
      change wpAny _ _ _ _ _ _ _ (World.drew _)
      refine wpAny_take (i := 0) (v := .pointer (some ⟨b, o, none⟩)) rfl (by kernel_rfl) (by kernel_rfl) (by kernel_rfl) (fun _ _ _ h => h) (Or.inl ⟨by rfl, fun w => by go_simp⟩) ?_
      try simp only [Act.put, List.getElem_toArray, List.getElem_cons_succ, List.getElem_cons_zero, List.setIfInBounds_toArray, List.set_cons_zero, List.set_cons_succ]
      refine wpAny_take (i := 1) (v := .pointer (some ⟨b, o, none⟩)) rfl (by kernel_rfl) (by kernel_rfl) (by kernel_rfl) (fun _ _ _ h => h) (Or.inl ⟨by rfl, fun w => by go_simp⟩) ?_
      try simp only [Act.put, List.getElem_toArray, List.getElem_cons_succ, List.getElem_cons_zero, List.setIfInBounds_toArray, List.set_cons_zero, List.set_cons_succ]
      refine wpAny_take (i := 2) (v := .pointer (some ⟨b, o, none⟩)) rfl (by kernel_rfl) (by kernel_rfl) (by kernel_rfl) (fun _ _ _ h => h) (Or.inl ⟨by rfl, fun w => by go_simp⟩) ?_
      try simp only [Act.put, List.getElem_toArray, List.getElem_cons_succ, List.getElem_cons_zero, List.setIfInBounds_toArray, List.set_cons_zero, List.set_cons_succ]
      refine wpAny_take (i := 3) (v := .pointer (some ⟨b, o + 4, none⟩)) rfl (by kernel_rfl) (by kernel_rfl) (by kernel_rfl) (fun _ _ _ h => h) (Or.inl ⟨by rfl, fun w => by go_simp⟩) ?_
      try simp only [Act.put, List.getElem_toArray, List.getElem_cons_succ, List.getElem_cons_zero, List.setIfInBounds_toArray, List.set_cons_zero, List.set_cons_succ]
      refine wpAny_take (i := 5) (v := .pointer (some ⟨gb, 1, none⟩)) rfl (by kernel_rfl) (by kernel_rfl) (by kernel_rfl) (fun _ _ _ h => h) (Or.inl ⟨by rfl, fun w => by go_simp⟩) ?_
      try simp only [Act.put, List.getElem_toArray, List.getElem_cons_succ, List.getElem_cons_zero, List.setIfInBounds_toArray, List.set_cons_zero, List.set_cons_succ]
      refine wpAny_ready (rs := [4, 6]) (by kernel_rfl) (by simp) ?_
      refine AllReady.cons rfl (fun KK hK => ?_) (AllReady.cons rfl (fun KK hK => ?_) AllReady.nil)
      · go_simp
        refine hK _ _ ?_
        clear hK KK
        try simp only [Act.put, List.getElem_toArray, List.getElem_cons_succ, List.getElem_cons_zero, List.setIfInBounds_toArray, List.set_cons_zero, List.set_cons_succ]
        refine wpAny_ready (rs := [6]) (by kernel_rfl) (by simp) ?_
        refine AllReady.cons rfl (fun KK hK => ?_) AllReady.nil
        go_simp
        refine hK _ _ ?_
        clear hK KK
        try simp only [Act.put, List.getElem_toArray, List.getElem_cons_succ, List.getElem_cons_zero, List.setIfInBounds_toArray, List.set_cons_zero, List.set_cons_succ]
        refine wpAny_ready (rs := [7]) (by kernel_rfl) (by simp) ?_
        refine AllReady.cons rfl (fun KK hK => ?_) AllReady.nil
        go_simp
        refine HR.out.mono ?_
        rintro e' w2 ⟨vR0, rfl, h1, h2, h3⟩
        obtain ⟨vA, vc, rfl⟩ := row_sl h1
        have HP1 := Lib.hid h1
        have HP2 : Hid (wS.grownBy w2 (sub xS 1).ownBlock) := Lib.hid (drewG h2)
        have HP2d := Lib.hid h2
        have HP3 : Hid (Grow wS (sub xS 1) (.slice vA (ins xS.p.ts e.m).length vc)) := Lib.hid h3
        clear h1 h2 h3
        have hcw := cellW (HWS.out.ownKept HXS.out (f := 1) HP2.out) HXS.out (j := 4) (by omega) (v := xS.tv) rfl
        rw [HOO.out] at hcw
        have y1 : w2.cell? ⟨b, o + 4, none⟩ = some xS.tv := hcw.1
        have y2 : w2.frozen? ⟨b, o + 4, none⟩ = false := hcw.2
        clear hcw
        refine hK _ _ ?_
        clear hK KK
        try simp only [Act.put, List.getElem_toArray, List.getElem_cons_succ, List.getElem_cons_zero, List.setIfInBounds_toArray, List.set_cons_zero, List.set_cons_succ]
        refine wpAny_take (i := 8) (v := .pointer (some ⟨b, o, none⟩)) rfl (by kernel_rfl) (by kernel_rfl) (by kernel_rfl) (fun _ _ _ h => h) (Or.inl ⟨by rfl, fun w => by go_simp⟩) ?_
        try simp only [Act.put, List.getElem_toArray, List.getElem_cons_succ, List.getElem_cons_zero, List.setIfInBounds_toArray, List.set_cons_zero, List.set_cons_succ]
        refine wpAny_take (i := 9) (v := .pointer (some ⟨b, o + 4, none⟩)) rfl (by kernel_rfl) (by kernel_rfl) (by kernel_rfl) (fun _ _ _ h => h) (Or.inl ⟨by rfl, fun w => by go_simp⟩) ?_
        try simp only [Act.put, List.getElem_toArray, List.getElem_cons_succ, List.getElem_cons_zero, List.setIfInBounds_toArray, List.set_cons_zero, List.set_cons_succ]
        refine wpAny_ready (rs := [10]) (by kernel_rfl) (by simp) ?_
        refine AllReady.cons rfl (fun KK hK => ?_) AllReady.nil
        go_simp
        refine hK _ _ ?_
        clear hK KK
        try simp only [Act.put, List.getElem_toArray, List.getElem_cons_succ, List.getElem_cons_zero, List.setIfInBounds_toArray, List.set_cons_zero, List.set_cons_succ]
        refine wpAny_done (by kernel_rfl) ?_ _
        have HWE : Hid (WsAt (w2.setCell ⟨b, o + 4, none⟩ (.slice vA (ins xS.p.ts e.m).length vc)) base (.slice (some ⟨b, 0, none⟩) N cap) (lS.set i { xS with tv := (.slice vA (ins xS.p.ts e.m).length vc) , p := { xS.p with ts := ins xS.p.ts e.m } })) := Lib.hid (by
          rw [← HOO.out]
          exact HWS.out.upd (w1 := w2) (f := 1) (j := 4) (x' := { xS with tv := (.slice vA (ins xS.p.ts e.m).length vc) , p := { xS.p with ts := ins xS.p.ts e.m } }) HXS.out (by omega) rfl
            (fun f' h4 hne => by
              rcases (show f' = 0 ∨ f' = 1 ∨ f' = 2 ∨ f' = 3 by omega) with rfl | rfl | rfl | rfl
              all_goals first | exact absurd rfl hne | exact ⟨rfl, rfl⟩)
            HP2.out (HWS.out.newB HP3.out) (fun _ => by
              unfold rowOk
              rw [show (subL { xS with tv := (.slice vA (ins xS.p.ts e.m).length vc) , p := { xS.p with ts := ins xS.p.ts e.m } } 1) = (ins xS.p.ts e.m).map iV from rfl, List.length_map]
              exact HP1.out)
            (by
              obtain ⟨k1, k2, k3⟩ := HWS.out.ok xS (List.mem_of_getElem? HXS.out)
              exact ⟨k1, ins_sorted k2, k3⟩))
        have HPE : Hid ((lS.set i { xS with tv := (.slice vA (ins xS.p.ts e.m).length vc) , p := { xS.p with ts := ins xS.p.ts e.m } }).map Wm.p = (l.map Wm.p).set i (takeP x.p e vs)) := Lib.hid (by
          rw [List.map_set, HSET.out, HTX.out])
        have HBE : Hid (Below base w (w2.setCell ⟨b, o + 4, none⟩ (.slice vA (ins xS.p.ts e.m).length vc))) := Lib.hid ((HBS.out.trans (belowB HP2d.out HBB1.out (fun k hk => ((HWS.out.row i xS HXS.out 1 (by omega)).lt k hk).1))).setCell HGB.out (.slice vA (ins xS.p.ts e.m).length vc))
        clear k1 k3 HR HP1 HP2 HP2d HP3 y1 y2
        generalize w2.setCell ⟨b, o + 4, none⟩ (.slice vA (ins xS.p.ts e.m).length vc) = w4 at HWE HBE ⊢
        go_wp2
        first | go_end0 | refine bodyPost_ret (results_none rfl _ _ _) rfl ?_
        exact ⟨rfl, _, HWE.out, HPE.out, HBE.out⟩

      · go_simp
        refine hK _ _ ?_
        clear hK KK
        try simp only [Act.put, List.getElem_toArray, List.getElem_cons_succ, List.getElem_cons_zero, List.setIfInBounds_toArray, List.set_cons_zero, List.set_cons_succ]
        refine wpAny_ready (rs := [4]) (by kernel_rfl) (by simp) ?_
        refine AllReady.cons rfl (fun KK hK => ?_) AllReady.nil
        go_simp
        refine hK _ _ ?_
        clear hK KK
        try simp only [Act.put, List.getElem_toArray, List.getElem_cons_succ, List.getElem_cons_zero, List.setIfInBounds_toArray, List.set_cons_zero, List.set_cons_succ]
        refine wpAny_ready (rs := [7]) (by kernel_rfl) (by simp) ?_
        refine AllReady.cons rfl (fun KK hK => ?_) AllReady.nil
        go_simp
        refine HR.out.mono ?_
        rintro e' w2 ⟨vR0, rfl, h1, h2, h3⟩
        obtain ⟨vA, vc, rfl⟩ := row_sl h1
        have HP1 := Lib.hid h1
        have HP2 : Hid (wS.grownBy w2 (sub xS 1).ownBlock) := Lib.hid (drewG h2)
        have HP2d := Lib.hid h2
        have HP3 : Hid (Grow wS (sub xS 1) (.slice vA (ins xS.p.ts e.m).length vc)) := Lib.hid h3
        clear h1 h2 h3
        have hcw := cellW (HWS.out.ownKept HXS.out (f := 1) HP2.out) HXS.out (j := 4) (by omega) (v := xS.tv) rfl
        rw [HOO.out] at hcw
        have y1 : w2.cell? ⟨b, o + 4, none⟩ = some xS.tv := hcw.1
        have y2 : w2.frozen? ⟨b, o + 4, none⟩ = false := hcw.2
        clear hcw
        refine hK _ _ ?_
        clear hK KK
        try simp only [Act.put, List.getElem_toArray, List.getElem_cons_succ, List.getElem_cons_zero, List.setIfInBounds_toArray, List.set_cons_zero, List.set_cons_succ]
        refine wpAny_take (i := 8) (v := .pointer (some ⟨b, o, none⟩)) rfl (by kernel_rfl) (by kernel_rfl) (by kernel_rfl) (fun _ _ _ h => h) (Or.inl ⟨by rfl, fun w => by go_simp⟩) ?_
        try simp only [Act.put, List.getElem_toArray, List.getElem_cons_succ, List.getElem_cons_zero, List.setIfInBounds_toArray, List.set_cons_zero, List.set_cons_succ]
        refine wpAny_take (i := 9) (v := .pointer (some ⟨b, o + 4, none⟩)) rfl (by kernel_rfl) (by kernel_rfl) (by kernel_rfl) (fun _ _ _ h => h) (Or.inl ⟨by rfl, fun w => by go_simp⟩) ?_
        try simp only [Act.put, List.getElem_toArray, List.getElem_cons_succ, List.getElem_cons_zero, List.setIfInBounds_toArray, List.set_cons_zero, List.set_cons_succ]
        refine wpAny_ready (rs := [10]) (by kernel_rfl) (by simp) ?_
        refine AllReady.cons rfl (fun KK hK => ?_) AllReady.nil
        go_simp
        refine hK _ _ ?_
        clear hK KK
        try simp only [Act.put, List.getElem_toArray, List.getElem_cons_succ, List.getElem_cons_zero, List.setIfInBounds_toArray, List.set_cons_zero, List.set_cons_succ]
        refine wpAny_done (by kernel_rfl) ?_ _
        have HWE : Hid (WsAt (w2.setCell ⟨b, o + 4, none⟩ (.slice vA (ins xS.p.ts e.m).length vc)) base (.slice (some ⟨b, 0, none⟩) N cap) (lS.set i { xS with tv := (.slice vA (ins xS.p.ts e.m).length vc) , p := { xS.p with ts := ins xS.p.ts e.m } })) := Lib.hid (by
          rw [← HOO.out]
          exact HWS.out.upd (w1 := w2) (f := 1) (j := 4) (x' := { xS with tv := (.slice vA (ins xS.p.ts e.m).length vc) , p := { xS.p with ts := ins xS.p.ts e.m } }) HXS.out (by omega) rfl
            (fun f' h4 hne => by
              rcases (show f' = 0 ∨ f' = 1 ∨ f' = 2 ∨ f' = 3 by omega) with rfl | rfl | rfl | rfl
              all_goals first | exact absurd rfl hne | exact ⟨rfl, rfl⟩)
            HP2.out (HWS.out.newB HP3.out) (fun _ => by
              unfold rowOk
              rw [show (subL { xS with tv := (.slice vA (ins xS.p.ts e.m).length vc) , p := { xS.p with ts := ins xS.p.ts e.m } } 1) = (ins xS.p.ts e.m).map iV from rfl, List.length_map]
              exact HP1.out)
            (by
              obtain ⟨k1, k2, k3⟩ := HWS.out.ok xS (List.mem_of_getElem? HXS.out)
              exact ⟨k1, ins_sorted k2, k3⟩))
        have HPE : Hid ((lS.set i { xS with tv := (.slice vA (ins xS.p.ts e.m).length vc) , p := { xS.p with ts := ins xS.p.ts e.m } }).map Wm.p = (l.map Wm.p).set i (takeP x.p e vs)) := Lib.hid (by
          rw [List.map_set, HSET.out, HTX.out])
        have HBE : Hid (Below base w (w2.setCell ⟨b, o + 4, none⟩ (.slice vA (ins xS.p.ts e.m).length vc))) := Lib.hid ((HBS.out.trans (belowB HP2d.out HBB1.out (fun k hk => ((HWS.out.row i xS HXS.out 1 (by omega)).lt k hk).1))).setCell HGB.out (.slice vA (ins xS.p.ts e.m).length vc))
        clear k1 k3 HR HP1 HP2 HP2d HP3 y1 y2
        generalize w2.setCell ⟨b, o + 4, none⟩ (.slice vA (ins xS.p.ts e.m).length vc) = w4 at HWE HBE ⊢
        go_wp2
        first | go_end0 | refine bodyPost_ret (results_none rfl _ _ _) rfl ?_
        exact ⟨rfl, _, HWE.out, HPE.out, HBE.out⟩

  · have HTP : Hid (takeP x.p e vs = { x.p with ms := ins x.p.ms e.m }) := Lib.hid (by unfold takeP; rw [if_neg (by omega), if_pos hk])
    rw [hk] at q2
    have HK := Lib.hid hk
    clear hk
    go_enter Tryd.func47, Tryd.ntmps47
    go_upto_region 1 with (fail)
    rw [← HW1.out, HGG.out]
    go_upto_region 5 with (fail)
    clear q2
    obtain ⟨wS, HSS⟩ : ∃ wS, Hid (wS = W1) := ⟨_, Lib.hid rfl⟩
    rw [← HSS.out]
    obtain ⟨lS, HLS⟩ : ∃ lS, Hid (lS = l) := ⟨_, Lib.hid rfl⟩
    obtain ⟨xS, HXX⟩ : ∃ xS, Hid (xS = x) := ⟨_, Lib.hid rfl⟩
    have HWS : Hid (WsAt wS base (.slice (some ⟨b, 0, none⟩) N cap) lS) := Lib.hid (by rw [HSS.out, HLS.out]; exact HW1S.out)
    have HXS : Hid (lS[i]? = some xS) := Lib.hid (by rw [HLS.out, HXX.out]; exact HX.out)
    have HOS : Hid (Obj1 wS gb TE #[.int .i64 e.t, .int .i64 e.m, .int .i64 e.k, .int .i64 e.s, .int .i64 e.v, .int .i64 e.si, .int .i64 e.c, .slice e.A e.n e.d]) := Lib.hid (by rw [HSS.out]; exact HO1.out)
    have HBS : Hid (Below base w wS.drew) := Lib.hid (by rw [HSS.out]; exact HB1.out)
    have HBB1 : Hid (base ≤ wS.drew.heap.size) := Lib.hid (Nat.le_trans HBB.out HBS.out.size)
    have HSET : Hid (∀ q : Pw, (lS.map Wm.p).set i q = (l.map Wm.p).set i q) := Lib.hid (fun q => by rw [HLS.out])
    have HTX : Hid (takeP x.p e vs = { xS.p with ms := ins xS.p.ms e.m }) := Lib.hid (by rw [HXX.out]; exact HTP.out)
    have HSZ : Hid (xS.p.ss.length ≤ 100000 ∧ xS.p.ts.length ≤ 100000 ∧ xS.p.ms.length ≤ 100000) := Lib.hid (by rw [HXX.out]; exact HSX.out)
    have HR := Lib.hid (rising_any base xS.mv xS.p.ms e.m wS.drew (by have := HWS.out.row i xS HXS.out 2 (by omega); unfold rowOk at this; rw [show subL xS 2 = xS.p.ms.map iV from rfl, List.length_map] at this; exact this) ((HWS.out.ok xS (List.mem_of_getElem? HXS.out)).2.2) HBB1.out (HSZ.out.2.2))
    have k3 : wS.cell? ⟨b, o + 5, none⟩ = some xS.mv := by
      have := cellW HWS.out.own HXS.out (j := 5) (by omega) (v := xS.mv) rfl
      rw [HOO.out] at this
      exact this.1
    have k1 : wS.cell? ⟨gb, 1, none⟩ = some (.int .i64 e.m) := HOS.out.cell 1
    refine wp_region_any (by kernel_rfl) ?_
    change wpAny _ _ _ _ _ _ _ (World.drew _)
    refine wpAny_take (i := 0) (v := .pointer (some ⟨b, o, none⟩)) rfl (by kernel_rfl) (by kernel_rfl) (by kernel_rfl) (fun _ _ _ h => h) (Or.inl ⟨by rfl, fun w => by go_simp⟩) ?_
    try simp only [Act.put, List.getElem_toArray, List.getElem_cons_succ, List.getElem_cons_zero, List.setIfInBounds_toArray, List.set_cons_zero, List.set_cons_succ]
    refine wpAny_take (i := 1) (v := .pointer (some ⟨b, o, none⟩)) rfl (by kernel_rfl) (by kernel_rfl) (by kernel_rfl) (fun _ _ _ h => h) (Or.inl ⟨by rfl, fun w => by go_simp⟩) ?_
    try simp only [Act.put, List.getElem_toArray, List.getElem_cons_succ, List.getElem_cons_zero, List.setIfInBounds_toArray, List.set_cons_zero, List.set_cons_succ]
    refine wpAny_take (i := 2) (v := .pointer (some ⟨b, o, none⟩)) rfl (by kernel_rfl) (by kernel_rfl) (by kernel_rfl) (fun _ _ _ h => h) (Or.inl ⟨by rfl, fun w => by go_simp⟩) ?_
    try simp only [Act.put, List.getElem_toArray, List.getElem_cons_succ, List.getElem_cons_zero, List.setIfInBounds_toArray, List.set_cons_zero, List.set_cons_succ]
    refine wpAny_take (i := 3) (v := .pointer (some ⟨b, o + 5, none⟩)) rfl (by kernel_rfl) (by kernel_rfl) (by kernel_rfl) (fun _ _ _ h => h) (Or.inl ⟨by rfl, fun w => by go_simp⟩) ?_
    try simp only [Act.put, List.getElem_toArray, List.getElem_cons_succ, List.getElem_cons_zero, List.setIfInBounds_toArray, List.set_cons_zero, List.set_cons_succ]
    refine wpAny_take (i := 5) (v := .pointer (some ⟨gb, 1, none⟩)) rfl (by kernel_rfl) (by kernel_rfl) (by kernel_rfl) (fun _ _ _ h => h) (Or.inl ⟨by rfl, fun w => by go_simp⟩) ?_
    try simp only [Act.put, List.getElem_toArray, List.getElem_cons_succ, List.getElem_cons_zero, List.setIfInBounds_toArray, List.set_cons_zero, List.set_cons_succ]
    refine wpAny_ready (rs := [4, 6]) (by kernel_rfl) (by simp) ?_
    refine AllReady.cons rfl (fun KK hK => ?_) (AllReady.cons rfl (fun KK hK => ?_) AllReady.nil)
    · go_simp
      refine hK _ _ ?_
      clear hK KK
      try simp only [Act.put, List.getElem_toArray, List.getElem_cons_succ, List.getElem_cons_zero, List.setIfInBounds_toArray, List.set_cons_zero, List.set_cons_succ]
      refine wpAny_ready (rs := [6]) (by kernel_rfl) (by simp) ?_
      refine AllReady.cons rfl (fun KK hK => ?_) AllReady.nil
      go_simp
      refine hK _ _ ?_
      clear hK KK
      try simp only [Act.put, List.getElem_toArray, List.getElem_cons_succ, List.getElem_cons_zero, List.setIfInBounds_toArray, List.set_cons_zero, List.set_cons_succ]
      refine wpAny_ready (rs := [7]) (by kernel_rfl) (by simp) ?_
      refine AllReady.cons rfl (fun KK hK => ?_) AllReady.nil
      go_simp
      refine HR.out.mono ?_
      rintro e' w2 ⟨vR0, rfl, h1, h2, h3⟩
      obtain ⟨vA, vc, rfl⟩ := row_sl h1
      have HP1 := Lib.hid h1
      have HP2 : Hid (wS.grownBy w2 (sub xS 2).ownBlock) := Lib.hid (drewG h2)
      have HP2d := Lib.hid h2
      have HP3 : Hid (Grow wS (sub xS 2) (.slice vA (ins xS.p.ms e.m).length vc)) := Lib.hid h3
      clear h1 h2 h3
      have hcw := cellW (HWS.out.ownKept HXS.out (f := 2) HP2.out) HXS.out (j := 5) (by omega) (v := xS.mv) rfl
      rw [HOO.out] at hcw
      have y1 : w2.cell? ⟨b, o + 5, none⟩ = some xS.mv := hcw.1
      have y2 : w2.frozen? ⟨b, o + 5, none⟩ = false := hcw.2
      clear hcw
      refine hK _ _ ?_
      clear hK KK
      try simp only [Act.put, List.getElem_toArray, List.getElem_cons_succ, List.getElem_cons_zero, List.setIfInBounds_toArray, List.set_cons_zero, List.set_cons_succ]
      refine wpAny_take (i := 8) (v := .pointer (some ⟨b, o, none⟩)) rfl (by kernel_rfl) (by kernel_rfl) (by kernel_rfl) (fun _ _ _ h => h) (Or.inl ⟨by rfl, fun w => by go_simp⟩) ?_
      try simp only [Act.put, List.getElem_toArray, List.getElem_cons_succ, List.getElem_cons_zero, List.setIfInBounds_toArray, List.set_cons_zero, List.set_cons_succ]
      refine wpAny_take (i := 9) (v := .pointer (some ⟨b, o + 5, none⟩)) rfl (by kernel_rfl) (by kernel_rfl) (by kernel_rfl) (fun _ _ _ h => h) (Or.inl ⟨by rfl, fun w => by go_simp⟩) ?_
      try simp only [Act.put, List.getElem_toArray, List.getElem_cons_succ, List.getElem_cons_zero, List.setIfInBounds_toArray, List.set_cons_zero, List.set_cons_succ]
      refine wpAny_ready (rs := [10]) (by kernel_rfl) (by simp) ?_
      refine AllReady.cons rfl (fun KK hK => ?_) AllReady.nil
      go_simp
      refine hK _ _ ?_
      clear hK KK
      try simp only [Act.put, List.getElem_toArray, List.getElem_cons_succ, List.getElem_cons_zero, List.setIfInBounds_toArray, List.set_cons_zero, List.set_cons_succ]
      refine wpAny_done (by kernel_rfl) ?_ _
      have HWE : Hid (WsAt (w2.setCell ⟨b, o + 5, none⟩ (.slice vA (ins xS.p.ms e.m).length vc)) base (.slice (some ⟨b, 0, none⟩) N cap) (lS.set i { xS with mv := (.slice vA (ins xS.p.ms e.m).length vc) , p := { xS.p with ms := ins xS.p.ms e.m } })) := Lib.hid (by
        rw [← HOO.out]
        exact HWS.out.upd (w1 := w2) (f := 2) (j := 5) (x' := { xS with mv := (.slice vA (ins xS.p.ms e.m).length vc) , p := { xS.p with ms := ins xS.p.ms e.m } }) HXS.out (by omega) rfl
          (fun f' h4 hne => by
            rcases (show f' = 0 ∨ f' = 1 ∨ f' = 2 ∨ f' = 3 by omega) with rfl | rfl | rfl | rfl
            all_goals first | exact absurd rfl hne | exact ⟨rfl, rfl⟩)
          HP2.out (HWS.out.newB HP3.out) (fun _ => by
            unfold rowOk
            rw [show (subL { xS with mv := (.slice vA (ins xS.p.ms e.m).length vc) , p := { xS.p with ms := ins xS.p.ms e.m } } 2) = (ins xS.p.ms e.m).map iV from rfl, List.length_map]
            exact HP1.out)
          (by
            obtain ⟨k1, k2, k3⟩ := HWS.out.ok xS (List.mem_of_getElem? HXS.out)
            exact ⟨k1, k2, ins_sorted k3⟩))
      have HPE : Hid ((lS.set i { xS with mv := (.slice vA (ins xS.p.ms e.m).length vc) , p := { xS.p with ms := ins xS.p.ms e.m } }).map Wm.p = (l.map Wm.p).set i (takeP x.p e vs)) := Lib.hid (by
        rw [List.map_set, HSET.out, HTX.out])
      have HBE : Hid (Below base w (w2.setCell ⟨b, o + 5, none⟩ (.slice vA (ins xS.p.ms e.m).length vc))) := Lib.hid ((HBS.out.trans (belowB HP2d.out HBB1.out (fun k hk => ((HWS.out.row i xS HXS.out 2 (by omega)).lt k hk).1))).setCell HGB.out (.slice vA (ins xS.p.ms e.m).length vc))
      clear k1 k3 HR HP1 HP2 HP2d HP3 y1 y2
      generalize w2.setCell ⟨b, o + 5, none⟩ (.slice vA (ins xS.p.ms e.m).length vc) = w4 at HWE HBE ⊢
      go_wp2
      first | go_end0 | refine bodyPost_ret (results_none rfl _ _ _) rfl ?_
      exact ⟨rfl, _, HWE.out, HPE.out, HBE.out⟩

    · go_simp
      refine hK _ _ ?_
      clear hK KK
      try simp only [Act.put, List.getElem_toArray, List.getElem_cons_succ, List.getElem_cons_zero, List.setIfInBounds_toArray, List.set_cons_zero, List.set_cons_succ]
      refine wpAny_ready (rs := [4]) (by kernel_rfl) (by simp) ?_
      refine AllReady.cons rfl (fun KK hK => ?_) AllReady.nil
      go_simp
      refine hK _ _ ?_
      clear hK KK
      try simp only [Act.put, List.getElem_toArray, List.getElem_cons_succ, List.getElem_cons_zero, List.setIfInBounds_toArray, List.set_cons_zero, List.set_cons_succ]
      refine wpAny_ready (rs := [7]) (by kernel_rfl) (by simp) ?_
      refine AllReady.cons rfl (fun KK hK => ?_) AllReady.nil
      go_simp
      refine HR.out.mono ?_
      rintro e' w2 ⟨vR0, rfl, h1, h2, h3⟩
      obtain ⟨vA, vc, rfl⟩ := row_sl h1
      have HP1 := Lib.hid h1
      have HP2 : Hid (wS.grownBy w2 (sub xS 2).ownBlock) := Lib.hid (drewG h2)
      have HP2d := Lib.hid h2
      have HP3 : Hid (Grow wS (sub xS 2) (.slice vA (ins xS.p.ms e.m).length vc)) := Lib.hid h3
      clear h1 h2 h3
      have hcw := cellW (HWS.out.ownKept HXS.out (f := 2) HP2.out) HXS.out (j := 5) (by omega) (v := xS.mv) rfl
      rw [HOO.out] at hcw
      have y1 : w2.cell? ⟨b, o + 5, none⟩ = some xS.mv := hcw.1
      have y2 : w2.frozen? ⟨b, o + 5, none⟩ = false := hcw.2
      clear hcw
      refine hK _ _ ?_
      clear hK KK
      try simp only [Act.put, List.getElem_toArray, List.getElem_cons_succ, List.getElem_cons_zero, List.setIfInBounds_toArray, List.set_cons_zero, List.set_cons_succ]
      refine wpAny_take (i := 8) (v := .pointer (some ⟨b, o, none⟩)) rfl (by kernel_rfl) (by kernel_rfl) (by kernel_rfl) (fun _ _ _ h => h) (Or.inl ⟨by rfl, fun w => by go_simp⟩) ?_
      try simp only [Act.put, List.getElem_toArray, List.getElem_cons_succ, List.getElem_cons_zero, List.setIfInBounds_toArray, List.set_cons_zero, List.set_cons_succ]
      refine wpAny_take (i := 9) (v := .pointer (some ⟨b, o + 5, none⟩)) rfl (by kernel_rfl) (by kernel_rfl) (by kernel_rfl) (fun _ _ _ h => h) (Or.inl ⟨by rfl, fun w => by go_simp⟩) ?_
      try simp only [Act.put, List.getElem_toArray, List.getElem_cons_succ, List.getElem_cons_zero, List.setIfInBounds_toArray, List.set_cons_zero, List.set_cons_succ]
      refine wpAny_ready (rs := [10]) (by kernel_rfl) (by simp) ?_
      refine AllReady.cons rfl (fun KK hK => ?_) AllReady.nil
      go_simp
      refine hK _ _ ?_
      clear hK KK
      try simp only [Act.put, List.getElem_toArray, List.getElem_cons_succ, List.getElem_cons_zero, List.setIfInBounds_toArray, List.set_cons_zero, List.set_cons_succ]
      refine wpAny_done (by kernel_rfl) ?_ _
      have HWE : Hid (WsAt (w2.setCell ⟨b, o + 5, none⟩ (.slice vA (ins xS.p.ms e.m).length vc)) base (.slice (some ⟨b, 0, none⟩) N cap) (lS.set i { xS with mv := (.slice vA (ins xS.p.ms e.m).length vc) , p := { xS.p with ms := ins xS.p.ms e.m } })) := Lib.hid (by
        rw [← HOO.out]
        exact HWS.out.upd (w1 := w2) (f := 2) (j := 5) (x' := { xS with mv := (.slice vA (ins xS.p.ms e.m).length vc) , p := { xS.p with ms := ins xS.p.ms e.m } }) HXS.out (by omega) rfl
          (fun f' h4 hne => by
            rcases (show f' = 0 ∨ f' = 1 ∨ f' = 2 ∨ f' = 3 by omega) with rfl | rfl | rfl | rfl
            all_goals first | exact absurd rfl hne | exact ⟨rfl, rfl⟩)
          HP2.out (HWS.out.newB HP3.out) (fun _ => by
            unfold rowOk
            rw [show (subL { xS with mv := (.slice vA (ins xS.p.ms e.m).length vc) , p := { xS.p with ms := ins xS.p.ms e.m } } 2) = (ins xS.p.ms e.m).map iV from rfl, List.length_map]
            exact HP1.out)
          (by
            obtain ⟨k1, k2, k3⟩ := HWS.out.ok xS (List.mem_of_getElem? HXS.out)
            exact ⟨k1, k2, ins_sorted k3⟩))
      have HPE : Hid ((lS.set i { xS with mv := (.slice vA (ins xS.p.ms e.m).length vc) , p := { xS.p with ms := ins xS.p.ms e.m } }).map Wm.p = (l.map Wm.p).set i (takeP x.p e vs)) := Lib.hid (by
        rw [List.map_set, HSET.out, HTX.out])
      have HBE : Hid (Below base w (w2.setCell ⟨b, o + 5, none⟩ (.slice vA (ins xS.p.ms e.m).length vc))) := Lib.hid ((HBS.out.trans (belowB HP2d.out HBB1.out (fun k hk => ((HWS.out.row i xS HXS.out 2 (by omega)).lt k hk).1))).setCell HGB.out (.slice vA (ins xS.p.ms e.m).length vc))
      clear k1 k3 HR HP1 HP2 HP2d HP3 y1 y2
      generalize w2.setCell ⟨b, o + 5, none⟩ (.slice vA (ins xS.p.ms e.m).length vc) = w4 at HWE HBE ⊢
      go_wp2
      first | go_end0 | refine bodyPost_ret (results_none rfl _ _ _) rfl ?_
      exact ⟨rfl, _, HWE.out, HPE.out, HBE.out⟩

end Go.Proofs.YtanhblokhcaoiaaDoor.Tr
