/- Moves to be merged, drawn. -/
import Derived.Test.YtmkocinknhaniaaDbu
import Derived.Deep.AppendLies
namespace Go.Proofs.Ytmkocinknhaniaa
set_option linter.unusedVariables false
open Go.RowKit
set_option linter.unusedSimpArgs false

set_option maxRecDepth 100000 in
set_option maxHeartbeats 3200000 in
theorem drawMergedMoves_any (cd : Value) (L : List UInt8) (w : World) (h : SlR w cd (L.map fun c => .int .u8 (c.toNat : Int))) :
    Calls Try.prog 12 #[cd] w fun e w' => (∃ (sq : Value) (ms : List Mv), e = .returned sq ∧ w'.ownsRow w.heap.size 40 3 sq ms.length (flatC mvC ms) ∧ ms.length ≤ 71) ∧ Below w.heap.size w w' := by
  obtain ⟨i0, hi, hz0, hz1, hz2⟩ := info_parts Try.infoBeadMove
  obtain ⟨ad, cp, rfl⟩ : ∃ a c, cd = .slice a L.length c := by obtain ⟨a, c, e, _⟩ := h; exact ⟨a, c, by rw [e, List.length_map]⟩
  obtain ⟨W1, hW1, hc1, hr1, hb1⟩ := cur_newM h
  have hs1 : W1.heap.size = w.heap.size + 1 := by rw [← hW1]; simp
  have HF1 := Lib.hid (frame_any w.heap.size _ L 0 W1 (by omega) hc1 hr1)
  have HR1 := Lib.hid hr1
  have HB1 := Lib.hid hb1
  have HS1 := Lib.hid hs1
  clear hc1 hr1 hb1 h hs1
  go_enter Try.func12, Try.ntmps12
  go_wp2_with fail
  try rw [hW1]
  refine (HF1.out).mono ?_
  rintro e w2 ⟨⟨up, lo, sv, rs, rfl, ho, hl⟩, hc2, hg2⟩
  obtain ⟨a, c, rfl⟩ : ∃ a c, sv = .slice a rs.length c := by obtain ⟨a, c, e, _⟩ := RodsR.of_own ho; exact ⟨a, c, e⟩
  have HD := Lib.hid (beads_any w.heap.size _ L (0 + 200) up lo a c rs w2 (by omega) (RodsR.of_own ho) hl (own_nocur ho (by have := HS1.out; omega)) hc2 (HR1.out.grown hg2))
  have HG2 := Lib.hid hg2
  have HS2 : Hid (w.heap.size + 1 ≤ w2.heap.size) := Lib.hid (by have := HS1.out; have := hg2.size; omega)
  clear ho hc2 hg2 hl
  go_wp2_with fail
  refine (HD.out).mono ?_
  rintro e w3 ⟨⟨sq, ms, rfl, ho, hl⟩, hc3, hg3⟩
  have HG3 := Lib.hid (grown_trans HG2.out hg3)
  have HC3 := Lib.hid hc3
  have HO3 := Lib.hid (own_mono ho HS2.out)
  obtain ⟨oa, oc, rfl⟩ := (RowsR.of_own mvC_len ho).form
  clear ho hc3 hg3 HG2 HD HF1
  by_cases h0 : 0 < ms.length
  · have hk0 : (0 : Int) < (ms.length : Int) := by omega
    go_wp2_with fail
    refine (one_any w.heap.size _ L (0 + 200 + 400) 2 w3 (by omega) ⟨by omega, by omega⟩ HC3.out (HR1.out.grown HG3.out)).mono ?_
    rintro e w4 ⟨⟨b, rfl⟩, hc4, hg4⟩
    have HG4 := Lib.hid (grown_trans HG3.out hg4)
    have HC4 := Lib.hid hc4
    have HO4 := Lib.hid (own_grown HO3.out hg4 (by omega))
    clear hc4 hg4 HG3 HC3 HO3
    cases b with
    | false =>
      have HB := Lib.hid (below_curM HB1.out HG4.out (Nat.le_refl _))
      go_wp2_with fail
      go_ret
      exact ⟨⟨_, ms, rfl, own_mono HO4.out (by omega), by omega⟩, HB.out⟩
    | true =>
      obtain ⟨b1, o1, rfl, l1, k1⟩ := (RowsR.of_own mvC_len HO4.out).at w4 (Below.refl _ _) (ms.length - 1) (by omega)
      generalize ms[ms.length - 1] = x0 at k1
      obtain ⟨x, y, z⟩ := x0
      have p0 : w4.cell? ⟨b1, o1 + (ms.length - 1) * 3, none⟩ = some (.int .i64 x) := k1 0 (by omega)
      have p1 : w4.cell? ⟨b1, o1 + (ms.length - 1) * 3 + 1, none⟩ = some (.int .i64 y) := k1 1 (by omega)
      have p2 : w4.cell? ⟨b1, o1 + (ms.length - 1) * 3 + 2, none⟩ = some (.int .i64 z) := k1 2 (by omega)
      have q1 : IntKind.i64.wrap ((ms.length : Int) - 1) = ((ms.length - 1 : Nat) : Int) := by rw [IntKind.wrap_i64]; omega
      have z1 : (0 : Int) ≤ ((ms.length - 1 : Nat) : Int) := by omega
      have z2 : ((ms.length - 1 : Nat) : Int) < (ms.length : Int) := by omega
      obtain ⟨V, hV⟩ : ∃ V, IntKind.i64.wrap (-z) = V := ⟨_, rfl⟩
      have hnb : (w4.alloc (.cells #[.int .i64 x, .int .i64 y, .int .i64 z] 40)).heap[w4.heap.size]? = some (.cells #[.int .i64 x, .int .i64 y, .int .i64 z] 40 (0, 0)) := alloc_at rfl
      have HNB := Lib.hid hnb
      clear k1 hnb
      go_wp2_with fail
      have hga := grown_alloc w4 (.cells #[.int .i64 x, .int .i64 y, .int .i64 z] 40) none
      have HG5 := Lib.hid (grown_trans HG4.out (grown_any (r := some w.heap.size) hga))
      have HC5 := Lib.hid (HC4.out.old hga)
      have HO5 := Lib.hid (HO4.out.alloc (.cells #[.int .i64 x, .int .i64 y, .int .i64 z] 40))
      have hBw : w.heap.size + 1 ≤ w4.heap.size := by have := HG4.out.size; have := HS1.out; omega
      have hNE := fun (g : Nat) hg => (HO4.out.lt g hg).2
      generalize w4.alloc (.cells #[.int .i64 x, .int .i64 y, .int .i64 z] 40) = w5 at HNB HG5 HC5 HO5 ⊢
      generalize w4.heap.size = B at HNB hBw hNE ⊢
      clear hga p0 p1 p2 q1 z1 z2 HG4 HC4 HO4 l1
      obtain ⟨c0, c1, c2, -, -, -⟩ := cell3 HNB.out
      refine wp_region_held_drew (S := (fun u => u.cell? ⟨B, 0, none⟩ = some (.int .i64 x) ∧ u.cell? ⟨B, 1, none⟩ = some (.int .i64 y) ∧ u.cell? ⟨B, 2, none⟩ = some (.int .i64 z))) (by kernel_rfl) (⟨c0, c1, c2⟩) (fun hHeld => ?_)
      have HGd : Hid (W1.grownBy w5.drew (some w.heap.size)) := Lib.hid (grown_trans HG5.out (grown_drewN w5 1 (some w.heap.size)))
      have HCd : Hid (CurAt w5.drew w.heap.size (.slice ad L.length cp) (0 + 200 + 400 + 2)) := Lib.hid (HC5.out.old (grown_drewN w5 1 none))
      have HOd := Lib.hid (own_grown HO5.out (grown_drewN w5 1 (some w.heap.size)) (by omega))
      change Hid (w5.drew.ownsRow _ _ _ _ _ _) at HOd
      have HNd : Hid (w5.drew.heap[B]? = some (.cells #[.int .i64 x, .int .i64 y, .int .i64 z] 40 (0, 0))) := HNB
      generalize w5.drew = wd at HGd HCd HOd HNd hHeld ⊢
      clear c0 c1 c2
      have HCL : Hid (∀ wi, wd.grownBy wi (some w.heap.size) → wi.cell? ⟨B, 0, none⟩ = some (.int .i64 x) ∧ wi.cell? ⟨B, 1, none⟩ = some (.int .i64 y) ∧ wi.cell? ⟨B, 2, none⟩ = some (.int .i64 z)) := Lib.hid (fun wi hg => by
        obtain ⟨c0, c1, c2, -, -, -⟩ := cell3 ((hg.block B (lt_of_block HNd.out) (by intro e; injection e with e; omega)).trans HNd.out)
        exact ⟨c0, c1, c2⟩)
      have hwB : w.heap.size < wd.heap.size := by have := HGd.out.size; have := HS1.out; omega
      refine take1 (i := 0) (v := ?v1) (some 26) rfl rfl (by kernel_rfl) (by kernel_rfl) (by kernel_rfl) (fun _ _ _ h => h) (Or.inl ⟨by rfl, ?y1⟩) (by assumption) ?r1
      case y1 => (intro w hSw; (try dsimp only at hSw); go_simp; (first | done | with_reducible rfl))
      try simp only [Act.put, List.setIfInBounds_toArray, List.set_cons_zero, List.set_cons_succ]
      refine take1 (i := 1) (v := ?v2) (some 27) rfl rfl (by kernel_rfl) (by kernel_rfl) (by kernel_rfl) (fun _ _ _ h => h) (Or.inl ⟨by rfl, ?y2⟩) (by assumption) ?r2
      case y2 => (intro w hSw; (try dsimp only at hSw); go_simp; (first | done | with_reducible rfl))
      try simp only [Act.put, List.setIfInBounds_toArray, List.set_cons_zero, List.set_cons_succ]
      refine take1 (i := 2) (v := ?v3) (some 28) rfl rfl (by kernel_rfl) (by kernel_rfl) (by kernel_rfl) (fun _ _ _ h => h) (Or.inl ⟨by rfl, ?y3⟩) (by assumption) ?r3
      case y3 => (intro w hSw; (try dsimp only at hSw); go_simp; (first | done | with_reducible rfl))
      try simp only [Act.put, List.setIfInBounds_toArray, List.set_cons_zero, List.set_cons_succ]
      refine take1 (i := 3) (v := ?v4) (some 29) rfl rfl (by kernel_rfl) (by kernel_rfl) (by kernel_rfl) (fun _ _ _ h => h) (Or.inl ⟨by rfl, ?y4⟩) (by assumption) ?r4
      case y4 => (intro w hSw; (try dsimp only at hSw); go_simp; (first | done | with_reducible rfl))
      try simp only [Act.put, List.setIfInBounds_toArray, List.set_cons_zero, List.set_cons_succ]
      refine take1 (i := 4) (v := ?v5) (some 30) rfl rfl (by kernel_rfl) (by kernel_rfl) (by kernel_rfl) (fun _ _ _ h => h) (Or.inl ⟨by rfl, ?y5⟩) (by assumption) ?r5
      case y5 => (intro w hSw; (try dsimp only at hSw); go_simp; (first | done | with_reducible rfl))
      try simp only [Act.put, List.setIfInBounds_toArray, List.set_cons_zero, List.set_cons_succ]
      refine take1 (i := 5) (v := ?v6) (some 31) rfl rfl (by kernel_rfl) (by kernel_rfl) (by kernel_rfl) (fun _ _ _ h => h) (Or.inl ⟨by rfl, ?y6⟩) (by assumption) ?r6
      case y6 => (intro w hSw; (try dsimp only at hSw); go_simp; (first | done | with_reducible rfl))
      try simp only [Act.put, List.setIfInBounds_toArray, List.set_cons_zero, List.set_cons_succ]
      refine take1 (i := 6) (v := ?v7) (some 32) rfl rfl (by kernel_rfl) (by kernel_rfl) (by kernel_rfl) (fun _ _ _ h => h) (Or.inl ⟨by rfl, ?y7⟩) (by assumption) ?r7
      case y7 => (intro w hSw; (try dsimp only at hSw); go_simp; (first | done | with_reducible rfl))
      try simp only [Act.put, List.setIfInBounds_toArray, List.set_cons_zero, List.set_cons_succ]
      refine take1 (i := 7) (v := ?v8) (some 33) rfl rfl (by kernel_rfl) (by kernel_rfl) (by kernel_rfl) (fun _ _ _ h => h) (Or.inl ⟨by rfl, ?y8⟩) (by assumption) ?r8
      case y8 => (intro w hSw; (try dsimp only at hSw); go_simp; (first | done | with_reducible rfl))
      try simp only [Act.put, List.setIfInBounds_toArray, List.set_cons_zero, List.set_cons_succ]
      refine take1 (i := 8) (v := ?v9) (some 34) rfl rfl (by kernel_rfl) (by kernel_rfl) (by kernel_rfl) (fun _ _ _ h => h) (Or.inl ⟨by rfl, ?y9⟩) (by assumption) ?r9
      case y9 => (intro w hSw; (try dsimp only at hSw); go_simp; (first | done | with_reducible rfl))
      try simp only [Act.put, List.setIfInBounds_toArray, List.set_cons_zero, List.set_cons_succ]
      refine wpAnyH_ready (rs := [9]) (by kernel_rfl) (by simp) ?_
      refine AllReadyH.cons rfl (fun K hK => ?_) AllReadyH.nil
      go_simp
      have hal := grown_alloc wd (.cells #[.int .i64 V, .int .i64 1, .int .i64 (-1), .int .i64 4] 3) none
      have hnl : wd.heap.size ≠ w.heap.size := by omega
      have HLI : Hid (SlR (wd.alloc (.cells #[.int .i64 V, .int .i64 1, .int .i64 (-1), .int .i64 4] 3)) (.slice (some ⟨wd.heap.size, 0, none⟩) 4 4) ([V, 1, -1, 4].map (Value.int .i64))) := Lib.hid (slr_lit wd ([V, 1, -1, 4].map (Value.int .i64)) 3 (by simp [maxLen]))
      have HGl := Lib.hid (grown_any (r := some w.heap.size) hal)
      have HCl := Lib.hid (HCd.out.old hal)
      try simp only [hV]
      generalize wd.alloc (.cells #[.int .i64 V, .int .i64 1, .int .i64 (-1), .int .i64 4] 3) = wl at HLI HGl HCl ⊢
      generalize wd.heap.size = LB at HLI hnl hwB ⊢
      clear hal
      refine hK.out _ _ ((HCL.out _ HGl.out)) (fun hHeld => ?_)
      clear hK K
      try simp only [Act.put, List.setIfInBounds_toArray, List.set_cons_zero, List.set_cons_succ]
      refine wpAnyH_ready (rs := [10]) (by kernel_rfl) (by simp) ?_
      refine AllReadyH.cons rfl (fun K hK => ?_) AllReadyH.nil
      go_simp
      go_at_call 35
      refine (among_any w.heap.size (.slice ad L.length cp) L (0 + 200 + 400 + 2) (.slice (some ⟨LB, 0, none⟩) 4 4) [V, 1, -1, 4] wl (by omega) (by simp) HLI.out (fun a m c e => by cases e; exact hnl) HCl.out (HR1.out.grown (grown_trans HGd.out HGl.out))).mono ?_
      rintro e wa ⟨⟨v, rfl, -⟩, hc, hg⟩
      have HGa := Lib.hid (grown_trans HGl.out hg)
      clear hc hg
      refine hK.out _ _ ((HCL.out _ HGa.out)) (fun hHeld => ?_)
      clear hK K
      try simp only [Act.put, List.setIfInBounds_toArray, List.set_cons_zero, List.set_cons_succ]
      refine take1 (i := 11) (v := ?v10) (some 37) rfl rfl (by kernel_rfl) (by kernel_rfl) (by kernel_rfl) (fun _ _ _ h => h) (Or.inl ⟨by rfl, ?y10⟩) (by assumption) ?r10
      case y10 => (intro w hSw; (try dsimp only at hSw); go_simp; (first | done | with_reducible rfl))
      try simp only [Act.put, List.setIfInBounds_toArray, List.set_cons_zero, List.set_cons_succ]
      refine wpAnyH_ready (rs := [12]) (by kernel_rfl) (by simp) ?_
      refine AllReadyH.cons rfl (fun K hK => ?_) AllReadyH.nil
      go_simp
      have hgm := grown_alloc wa (.cells #[.int .i64 x, .int .i64 y, .int .i64 v] 40) none
      have hnm : (wa.alloc (.cells #[.int .i64 x, .int .i64 y, .int .i64 v] 40)).heap[wa.heap.size]? = some (.cells #[.int .i64 x, .int .i64 y, .int .i64 v] 40 (0, 0)) := alloc_at rfl
      have HGm := Lib.hid (grown_trans HGa.out (grown_any (r := some w.heap.size) hgm))
      have HNM := Lib.hid hnm
      generalize wa.alloc (.cells #[.int .i64 x, .int .i64 y, .int .i64 v] 40) = wm at HGm HNM ⊢
      generalize wa.heap.size = MB at HNM ⊢
      clear hgm hnm
      have HOm := Lib.hid (own_grown HOd.out HGm.out (by omega))
      refine hK.out _ _ ((HCL.out _ HGm.out)) (fun hHeld => ?_)
      clear hK K
      try simp only [Act.put, List.setIfInBounds_toArray, List.set_cons_zero, List.set_cons_succ]
      refine wpAnyH_ready (rs := [13]) (by kernel_rfl) (by simp) ?_
      refine AllReadyH.cons rfl (fun K hK => ?_) AllReadyH.nil
      refine step_append_lies _ (by rfl) _ _ _ (by rfl) (w.heap.size + 1) 40 i0 (.agg #[.int .i64 0, .int .i64 0, .int .i64 0]) 3 24 Try.underlying24 hi hz0 hz1 hz2 rfl (by decide) _ ms.length (flatC mvC ms) (by rfl) HOm.out ⟨MB, 0, none⟩ 1 1 [.int .i64 x, .int .i64 y, .int .i64 v] (by rfl) (by rfl) (World.news_of_block HNM.out) ?h1 (by decide) ?h63 ?hby ?hbs _ rfl ?_
      case h1 => exact mvC_one ⟨x, y, v⟩
      case h63 => unfold maxLen; omega
      case hby => omega
      case hbs => (have := HGm.out.size; have := HGd.out.size; have := HS1.out; omega)
      intro g2 c2' wn hown hgr _ _
      have hbn : wn.heap[B]? = some (.cells #[.int .i64 x, .int .i64 y, .int .i64 z] 40 (0, 0)) := (hgr.block B (lt_of_block ((HGm.out.block B (lt_of_block HNd.out) (by intro e; injection e with e; omega)).trans HNd.out)) ?hne).trans ((HGm.out.block B (lt_of_block HNd.out) (by intro e; injection e with e; omega)).trans HNd.out)
      case hne => intro e; have := hNE B e.symm; omega
      obtain ⟨n0, n1, n2, -, -, -⟩ := cell3 hbn
      have HB := Lib.hid ((below_curM HB1.out (grown_trans HGd.out HGm.out) (Nat.le_refl _)).grown hgr (by have := HGm.out.size; have := HGd.out.size; have := HS1.out; omega) (fun q hq => by have := (HOm.out.lt q hq).1; omega))
      have HOn := Lib.hid (own_mono hown (Nat.le_succ w.heap.size))
      clear hown hgr hbn
      refine hK.out _ _ (⟨n0, n1, n2⟩) (fun hHeld => ?_)
      clear hK K
      try simp only [Act.put, List.setIfInBounds_toArray]
      refine take1 (i := 14) (v := ?v11) (some 4) rfl rfl (by kernel_rfl) (by kernel_rfl) (by kernel_rfl) (fun _ _ _ h => h) (Or.inl ⟨by rfl, ?y11⟩) (by assumption) ?r11
      case y11 => (intro w hSw; (try dsimp only at hSw); go_simp; (first | done | with_reducible rfl))
      try simp only [Act.put]
      refine wpAnyH_done (by kernel_rfl) ?_ _
      go_wp2_with fail
      go_ret
      exact ⟨⟨_, ms ++ [⟨x, y, v⟩], rfl, by rw [List.length_append, flatC_app]; simpa [flatC, mvC] using HOn.out, by simp; omega⟩, HB.out⟩
  · have hk0 : ¬ (0 : Int) < (ms.length : Int) := by omega
    have HB := Lib.hid (below_curM HB1.out HG3.out (Nat.le_refl _))
    go_wp2_with fail
    go_ret
    exact ⟨⟨_, ms, rfl, own_mono HO3.out (by omega), by omega⟩, HB.out⟩
end Go.Proofs.Ytmkocinknhaniaa
