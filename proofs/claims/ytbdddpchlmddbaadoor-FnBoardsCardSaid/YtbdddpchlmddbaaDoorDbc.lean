/- A board, line or space and a place, drawn. -/
import Derived.Test.YtbdddpchlmddbaaDoorDbb
namespace Go.Proofs.YtbdddpchlmddbaaDoor
set_option linter.unusedVariables false
open Go.RowKit
set_option linter.unusedSimpArgs false

set_option maxRecDepth 100000 in
set_option maxHeartbeats 6400000 in
theorem drawCarryAt_any (cd : Value) (L : List UInt8) (w : World) (h : SlR w cd (L.map fun c => .int .u8 (c.toNat : Int))) :
    Calls Tryd.prog 5 #[cd] w fun e w' => (∃ (v1 v2 : Value) (ls ss : List Int) (line : Bool) (k : Int), e = .returned (.tuple #[.agg #[v1, v2], .bool line, .int .i64 k]) ∧ BrdX w.heap.size w' v1 v2 ls ss ∧ ls.length ≤ 7 ∧ ss.length ≤ 7) ∧ Below w.heap.size w w' := by
  obtain ⟨ad, cp, rfl⟩ : ∃ a c, cd = .slice a L.length c := by obtain ⟨a, c, e, _⟩ := h; exact ⟨a, c, by rw [e, List.length_map]⟩
  obtain ⟨W0, hW0⟩ : ∃ u, w.alloc (.cells #[.slice none 0 0, .slice none 0 0] 26) = u := ⟨_, rfl⟩
  have hbW0 : Below w.heap.size w W0 := by rw [← hW0]; exact (Below.refl _ w).alloc (Nat.le_refl _) _
  have hzW0 : W0.heap[w.heap.size]? = some (.cells #[.slice none 0 0, .slice none 0 0] 26 (0, 0)) := by rw [← hW0]; exact alloc_at rfl
  have hsW0 : W0.heap.size = w.heap.size + 1 := by rw [← hW0]; simp
  have hT : (Lit.int .u64 0).wf = true := by decide
  have HN := Lib.hid (code_new (h.below hbW0 (Nat.le_refl _)))
  obtain ⟨W1, hW1⟩ : ∃ W1, W0.alloc (.cells #[.slice ad L.length cp, .int .i64 0, .int .u64 0] 44) = W1 := ⟨_, rfl⟩
  have hc1 : CurAt W1 W0.heap.size (.slice ad L.length cp) 0 := ⟨0, 0, _, Nat.le_refl _, Lib.hid hT, by rw [← hW1]; exact alloc_at rfl⟩
  have hr1 : CodeR W1 W0.heap.size (.slice ad L.length cp) L := by rw [← hW1]; exact HN.out _
  have hb1 : Below W0.heap.size W0 W1 := by rw [← hW1]; exact (Below.refl _ W0).alloc (Nat.le_refl _) _
  have HZ1 := Lib.hid ((hb1.block _ (by omega)).trans hzW0)
  have hs1 : W1.heap.size = w.heap.size + 2 := by rw [← hW1]; simp; omega
  rw [hsW0] at hc1 hr1
  have HA := Lib.hid (lines5_any (w.heap.size + 1) _ L 0 W1 (by omega) hc1 hr1)
  have HB1 : Hid (Below w.heap.size w W1) := Lib.hid (hbW0.trans (hb1.mono (by omega)))
  have HR1 := Lib.hid hr1
  have HS1 := Lib.hid hs1
  have hW1' : W0.alloc (.cells #[.slice ad L.length cp, .int .i64 0, .int .u64 0] 44) = W1 := hW1
  clear hc1 hr1 hb1 hbW0 hzW0 h HN hW1 hs1
  go_enter Tryd.func5, Tryd.ntmps5
  go_wp2_with fail
  try rw [hW0]
  try rw [hW1']
  refine (HA.out).mono ?_
  rintro e w3 ⟨⟨N, hN, rfl⟩, hc3, hg3⟩
  have HB := Lib.hid (board5_any (w.heap.size + 1) _ L (0 + 2) N w3 hN (by omega) hc3 (HR1.out.grown hg3))
  have HG3 := Lib.hid hg3
  have HC3 : Hid (w.heap.size + 1 < w3.heap.size) := Lib.hid (by have := hg3.size; have := HS1.out; omega)
  clear hc3 hg3
  go_wp2_with fail
  refine (HB.out).mono ?_
  rintro e w4 ⟨⟨v1, v2, ls, ss, rfl, hx, hl1, hl2⟩, hc4, hg4⟩
  obtain ⟨a1, c1, a2, c2, rfl, rfl⟩ := hx.1.form
  have hga := grown_alloc w4 (.cells #[.slice a1 ls.length c1, .slice a2 ss.length c2] 26) none
  have hg5 := grown_trans (grown_trans HG3.out hg4) (grown_any (r := some (w.heap.size + 1)) hga)
  have HX4 : Hid (w.heap.size + 1 < w4.heap.size) := Lib.hid (by have := hg4.size; have := HC3.out; omega)
  have HL := Lib.hid (⟨hl1, hl2⟩ : ls.length ≤ 7 ∧ ss.length ≤ 7)
  have HX5 := Lib.hid ((hx.alloc (.cells #[.slice a1 ls.length c1, .slice a2 ss.length c2] 26)).mono (B' := w3.heap.size) (Nat.le_refl _))
  have HK5 : Hid ((w4.alloc (.cells #[.slice a1 ls.length c1, .slice a2 ss.length c2] 26)).heap[w4.heap.size]? = some (.cells #[.slice a1 ls.length c1, .slice a2 ss.length c2] 26 (0, 0))) := Lib.hid (alloc_at rfl)
  have HO := Lib.hid (one_any (w.heap.size + 1) _ L (0 + 2 + 100) 2 _ (by omega) ⟨by omega, by omega⟩ (hc4.old hga) (HR1.out.grown hg5))
  have HG5 := Lib.hid hg5
  clear hx hl1 hl2 hc4 hg4 hga hg5
  go_wp2_with fail
  refine (HO.out).mono ?_
  rintro e w5 ⟨⟨b, rfl⟩, hc5, hg5⟩
  have HG := Lib.hid (grown_trans HG5.out hg5)
  have HC := Lib.hid hc5
  have HX := Lib.hid (HX5.out.grown hg5 HC3.out)
  have HK := Lib.hid ((hg5.block _ (lt_of_block HK5.out) (by intro e; have := HX4.out; injection e with e; omega)).trans HK5.out)
  clear hc5 hg5 HG5 HX5 HK5
  have hq1 : IntKind.i64.wrap ((N : Int) + 1) = (N : Int) + 1 := by rw [IntKind.wrap_i64]; omega
  obtain ⟨c0, c1', f0, f1⟩ := cell2 HK.out
  go_wp2_with fail
  refine wp_region_held_drew (S := (fun u => u.cell? ⟨w4.heap.size, 0, none⟩ = some (.slice a1 ls.length c1) ∧ u.cell? ⟨w4.heap.size, 1, none⟩ = some (.slice a2 ss.length c2))) (by kernel_rfl) (⟨c0, c1'⟩) (fun hHeld => ?_)
  have HGd := Lib.hid (grown_trans HG.out (grown_drewN w5 1 (some (w.heap.size + 1))))
  have HCd : Hid (CurAt w5.drew (w.heap.size + 1) (.slice ad L.length cp) (0 + 2 + 100 + 2)) := Lib.hid (HC.out.old (grown_drewN w5 1 none))
  have HXd := Lib.hid (HX.out.grown (grown_drewN w5 1 (some (w.heap.size + 1))) HC3.out)
  have HKd : Hid (w5.drew.heap[w4.heap.size]? = some (.cells #[.slice a1 ls.length c1, .slice a2 ss.length c2] 26 (0, 0))) := HK
  change Hid (W1.grownBy w5.drew _) at HGd
  change Hid (BrdX _ w5.drew _ _ _ _) at HXd
  generalize w5.drew = wd at HGd HCd HXd HKd hHeld ⊢
  clear c0 c1' f0 f1
  obtain ⟨c0, c1', f0, f1⟩ := cell2 HKd.out
  refine take1 (i := 0) (v := ?v1) (some 19) rfl rfl (by kernel_rfl) (by kernel_rfl) (by kernel_rfl) (fun _ _ _ h => h) (Or.inl ⟨by rfl, ?y1⟩) (by assumption) ?r1
  case y1 => (intro w hSw; (try dsimp only at hSw); go_simp; (first | done | with_reducible rfl))
  try simp only [Act.put, List.setIfInBounds_toArray, List.set_cons_zero, List.set_cons_succ]
  refine take1 (i := 1) (v := ?v2) (some 20) rfl rfl (by kernel_rfl) (by kernel_rfl) (by kernel_rfl) (fun _ _ _ h => h) (Or.inl ⟨by rfl, ?y2⟩) (by assumption) ?r2
  case y2 => (intro w hSw; (try dsimp only at hSw); go_simp; (first | done | with_reducible rfl))
  try simp only [Act.put, List.setIfInBounds_toArray, List.set_cons_zero, List.set_cons_succ]
  refine take1 (i := 2) (v := ?v3) (some 21) rfl rfl (by kernel_rfl) (by kernel_rfl) (by kernel_rfl) (fun _ _ _ h => h) (Or.inl ⟨by rfl, ?y3⟩) (by assumption) ?r3
  case y3 => (intro w hSw; (try dsimp only at hSw); go_simp; (first | done | with_reducible rfl))
  try simp only [Act.put, List.setIfInBounds_toArray, List.set_cons_zero, List.set_cons_succ]
  refine take1 (i := 3) (v := ?v4) (some 22) rfl rfl (by kernel_rfl) (by kernel_rfl) (by kernel_rfl) (fun _ _ _ h => h) (Or.inl ⟨by rfl, ?y4⟩) (by assumption) ?r4
  case y4 => (intro w hSw; (try dsimp only at hSw); go_simp; (first | done | with_reducible rfl))
  try simp only [Act.put, List.setIfInBounds_toArray, List.set_cons_zero, List.set_cons_succ]
  refine take1 (i := 4) (v := ?v5) (some 23) rfl rfl (by kernel_rfl) (by kernel_rfl) (by kernel_rfl) (fun _ _ _ h => h) (Or.inl ⟨by rfl, ?y5⟩) (by assumption) ?r5
  case y5 => (intro w hSw; (try dsimp only at hSw); go_simp; (first | done | with_reducible rfl))
  try simp only [Act.put, List.setIfInBounds_toArray, List.set_cons_zero, List.set_cons_succ]
  refine take1 (i := 6) (v := ?v6) (some 25) rfl rfl (by kernel_rfl) (by kernel_rfl) (by kernel_rfl) (fun _ _ _ h => h) (Or.inl ⟨by rfl, ?y6⟩) (by assumption) ?r6
  case y6 => (intro w hSw; (try dsimp only at hSw); go_simp; (first | done | with_reducible rfl))
  try simp only [Act.put, List.setIfInBounds_toArray, List.set_cons_zero, List.set_cons_succ]
  refine wpAnyH_ready (rs := [5]) (by kernel_rfl) (by simp) ?_
  refine AllReadyH.cons rfl (fun K hK => ?_) AllReadyH.nil
  go_simp
  go_at_call 25
  refine (pick_any (w.heap.size + 1) _ L (0 + 2 + 100 + 2) ((N : Int) + 1) wd (by omega) (by omega) (by omega) HCd.out (HR1.out.grown HGd.out)).mono ?_
  rintro e w7 ⟨⟨r1, rfl, p0, p1⟩, hc, hg⟩
  have HC7 := Lib.hid hc
  have HG7 := Lib.hid (grown_trans HGd.out hg)
  have HX7 := Lib.hid (HXd.out.grown hg HC3.out)
  have HK7 := Lib.hid ((hg.block _ (lt_of_block HKd.out) (by intro e; have := HX4.out; injection e with e; omega)).trans HKd.out)
  clear hc hg c0 c1' f0 f1
  obtain ⟨c0, c1', f0, f1⟩ := cell2 HK7.out
  refine hK.out _ _ (⟨c0, c1'⟩) (fun hHeld => ?_)
  clear hK K
  try simp only [Act.put, List.setIfInBounds_toArray, List.set_cons_zero, List.set_cons_succ]
  refine wpAnyH_ready (rs := [7]) (by kernel_rfl) (by simp) ?_
  refine AllReadyH.cons rfl (fun K hK => ?_) AllReadyH.nil
  go_simp
  go_at_call 25
  refine (pick_any (w.heap.size + 1) _ L (0 + 2 + 100 + 2 + 2) 20 w7 (by omega) (by omega) (by omega) HC7.out (HR1.out.grown HG7.out)).mono ?_
  rintro e w8 ⟨⟨r2, rfl, q0, q1⟩, hc, hg⟩
  have HC8 := Lib.hid hc
  have HG8 := Lib.hid (grown_trans HG7.out hg)
  have HX8 := Lib.hid (HX7.out.grown hg HC3.out)
  have HK8 := Lib.hid ((hg.block _ (lt_of_block HK7.out) (by intro e; have := HX4.out; injection e with e; omega)).trans HK7.out)
  clear hc hg c0 c1' f0 f1
  have hd19 : IntKind.i64.wrap (r2.tdiv 19) = r2.tdiv 19 := by rw [Int.tdiv_eq_ediv_of_nonneg q0, IntKind.wrap_i64]; omega
  obtain ⟨kk, hkk⟩ : ∃ kk, IntKind.i64.wrap (r1 - r2.tdiv 19) = kk := ⟨_, rfl⟩
  obtain ⟨c0, c1', f0, f1⟩ := cell2 HK8.out
  refine hK.out _ _ (⟨c0, c1'⟩) (fun hHeld => ?_)
  clear hK K
  try simp only [Act.put, List.setIfInBounds_toArray, List.set_cons_zero, List.set_cons_succ]
  refine take1 (i := 8) (v := ?v7) (some 27) rfl rfl (by kernel_rfl) (by kernel_rfl) (by kernel_rfl) (fun _ _ _ h => h) (Or.inl ⟨by rfl, ?y7⟩) (by assumption) ?r7
  case y7 => (intro w hSw; (try dsimp only at hSw); go_simp; (first | done | with_reducible rfl))
  try simp only [Act.put, List.setIfInBounds_toArray, List.set_cons_zero, List.set_cons_succ]
  refine take1 (i := 9) (v := ?v8) (some 28) rfl rfl (by kernel_rfl) (by kernel_rfl) (by kernel_rfl) (fun _ _ _ h => h) (Or.inl ⟨by rfl, ?y8⟩) (by assumption) ?r8
  case y8 => (intro w hSw; (try dsimp only at hSw); go_simp; (first | done | with_reducible rfl))
  try simp only [Act.put, List.setIfInBounds_toArray, List.set_cons_zero, List.set_cons_succ]
  refine wpAnyH_ready (rs := [10]) (by kernel_rfl) (by simp) ?_
  refine AllReadyH.cons rfl (fun K hK => ?_) AllReadyH.nil
  have hz8 := (HG8.out.block w.heap.size (by have := HS1.out; omega) (by intro e; injection e with e; omega)).trans HZ1.out
  have hx9 := (HX8.out.set ⟨w.heap.size, 0, none⟩ (by show w.heap.size < w3.heap.size; have := HC3.out; omega) (.slice a1 ls.length c1)).set ⟨w.heap.size, 1, none⟩ (by show w.heap.size < w3.heap.size; have := HC3.out; omega) (.slice a2 ss.length c2)
  have hk9 : ((w8.setCell ⟨w.heap.size, 0, none⟩ (.slice a1 ls.length c1)).setCell ⟨w.heap.size, 1, none⟩ (.slice a2 ss.length c2)).heap[w4.heap.size]? = some (.cells #[.slice a1 ls.length c1, .slice a2 ss.length c2] 26 (0, 0)) := (heap_setCell_other (w8.setCell ⟨w.heap.size, 0, none⟩ (.slice a1 ls.length c1)) ⟨w.heap.size, 1, none⟩ _ (.slice a2 ss.length c2) (by show w4.heap.size ≠ w.heap.size; have := HX4.out; omega)).trans ((heap_setCell_other w8 ⟨w.heap.size, 0, none⟩ _ (.slice a1 ls.length c1) (by show w4.heap.size ≠ w.heap.size; have := HX4.out; omega)).trans HK8.out)
  have hz9 := box2_set hz8 (.slice a1 ls.length c1) (.slice a2 ss.length c2)
  have hb9 := ((HB1.out.grown HG8.out HB1.out.size (fun k e => by cases e; exact Nat.le_succ _)).setCell (p := ⟨w.heap.size, 0, none⟩) (Nat.le_refl _) (.slice a1 ls.length c1)).setCell (p := ⟨w.heap.size, 1, none⟩) (Nat.le_refl _) (.slice a2 ss.length c2)
  obtain ⟨z0, z1, y0, y1⟩ := cell2 hz8
  clear hz8
  go_simp
  generalize (w8.setCell ⟨w.heap.size, 0, none⟩ (.slice a1 ls.length c1)).setCell ⟨w.heap.size, 1, none⟩ (.slice a2 ss.length c2) = w9 at hx9 hk9 hz9 hb9 ⊢
  have HX9 := Lib.hid hx9
  have HK9 := Lib.hid hk9
  have HZ9 := Lib.hid hz9
  have HBL9 := Lib.hid hb9
  clear hx9 hk9 hz9 hb9 z0 z1 y0 y1 c0 c1' f0 f1
  obtain ⟨c0, c1', f0, f1⟩ := cell2 HK9.out
  refine hK.out _ _ (⟨c0, c1'⟩) (fun hHeld => ?_)
  clear hK K
  try simp only [Act.put]
  refine take1 (i := 11) (v := ?v9) (some 3) rfl rfl (by kernel_rfl) (by kernel_rfl) (by kernel_rfl) (fun _ _ _ h => h) (Or.inl ⟨by rfl, ?y9⟩) (by assumption) ?r9
  case y9 => (intro w hSw; (try dsimp only at hSw); go_simp; (first | done | with_reducible rfl))
  try simp only [Act.put, List.setIfInBounds_toArray, List.set_cons_zero, List.set_cons_succ]
  refine take1 (i := 12) (v := ?v10) (some 4) rfl rfl (by kernel_rfl) (by kernel_rfl) (by kernel_rfl) (fun _ _ _ h => h) (Or.inl ⟨by rfl, ?y10⟩) (by assumption) ?r10
  case y10 => (intro w hSw; (try dsimp only at hSw); go_simp; (first | done | with_reducible rfl))
  try simp only [Act.put, List.setIfInBounds_toArray, List.set_cons_zero, List.set_cons_succ]
  refine wpAnyH_done (by kernel_rfl) ?_ _
  obtain ⟨z0, z1, y0, y1⟩ := cell2 HZ9.out
  clear c0 c1' f0 f1
  go_wp2_with fail
  exact bodyPost_ret (v := .tuple #[.agg #[.slice a1 ls.length c1, .slice a2 ss.length c2], .bool b, .int .i64 kk]) (by simp [results, Tryd.results5, go_sem, z0, z1]) rfl ⟨⟨_, _, ls, ss, b, kk, rfl, HX9.out.mono (by have := HC3.out; omega), HL.out.1, HL.out.2⟩, HBL9.out⟩
set_option maxRecDepth 100000 in
set_option maxHeartbeats 6400000 in
theorem drawBorrowAt_any (cd : Value) (L : List UInt8) (w : World) (h : SlR w cd (L.map fun c => .int .u8 (c.toNat : Int))) :
    Calls Tryd.prog 11 #[cd] w fun e w' => (∃ (v1 v2 : Value) (ls ss : List Int) (line : Bool) (k : Int), e = .returned (.tuple #[.agg #[v1, v2], .bool line, .int .i64 k]) ∧ BrdX w.heap.size w' v1 v2 ls ss ∧ ls.length ≤ 7 ∧ ss.length ≤ 7) ∧ Below w.heap.size w w' := by
  obtain ⟨ad, cp, rfl⟩ : ∃ a c, cd = .slice a L.length c := by obtain ⟨a, c, e, _⟩ := h; exact ⟨a, c, by rw [e, List.length_map]⟩
  obtain ⟨W0, hW0⟩ : ∃ u, w.alloc (.cells #[.slice none 0 0, .slice none 0 0] 26) = u := ⟨_, rfl⟩
  have hbW0 : Below w.heap.size w W0 := by rw [← hW0]; exact (Below.refl _ w).alloc (Nat.le_refl _) _
  have hzW0 : W0.heap[w.heap.size]? = some (.cells #[.slice none 0 0, .slice none 0 0] 26 (0, 0)) := by rw [← hW0]; exact alloc_at rfl
  have hsW0 : W0.heap.size = w.heap.size + 1 := by rw [← hW0]; simp
  have HD := Lib.hid (drawCarryAt_any _ L W0 (h.below hbW0 (Nat.le_refl _)))
  have HB1 := Lib.hid hbW0
  have HZ1 := Lib.hid hzW0
  have HS1 := Lib.hid hsW0
  clear h hbW0 hzW0 hsW0
  go_enter Tryd.func11, Tryd.ntmps11
  go_wp2_with fail
  try rw [hW0]
  refine (HD.out).mono ?_
  rintro e w3 ⟨⟨v1, v2, ls, ss, b, kk, rfl, hx, hl1, hl2⟩, hb⟩
  obtain ⟨a1, c1, a2, c2, rfl, rfl⟩ := hx.1.form
  have hlt : w.heap.size < W0.heap.size := by have := HS1.out; omega
  have hxs : w.heap.size < w3.heap.size := Nat.lt_of_lt_of_le hlt hb.size
  obtain ⟨w4, hw4⟩ : ∃ u, w3.alloc (.cells #[.slice a1 ls.length c1, .slice a2 ss.length c2] 26) = u := ⟨_, rfl⟩
  have hga : w3.grownBy w4 none := hw4 ▸ grown_alloc w3 (.cells #[.slice a1 ls.length c1, .slice a2 ss.length c2] 26) none
  have hz3 := ((hga.block _ hxs (by simp)).trans (hb.block w.heap.size hlt)).trans HZ1.out
  have hk3 : w4.heap[w3.heap.size]? = some (.cells #[.slice a1 ls.length c1, .slice a2 ss.length c2] 26 (0, 0)) := hw4 ▸ alloc_at rfl
  have hx3 : BrdX W0.heap.size w4 (.slice a1 ls.length c1) (.slice a2 ss.length c2) ls ss := hw4 ▸ hx.alloc (.cells #[.slice a1 ls.length c1, .slice a2 ss.length c2] 26)
  have hb3 : Below w.heap.size w w4 := hw4 ▸ (HB1.out.trans (hb.mono (by omega))).alloc (by omega) (.cells #[.slice a1 ls.length c1, .slice a2 ss.length c2] 26)
  have HX := Lib.hid (((hx3.set ⟨w.heap.size, 0, none⟩ hlt (.slice a1 ls.length c1)).set ⟨w.heap.size, 1, none⟩ hlt (.slice a2 ss.length c2)).mono (B' := w.heap.size) (by omega))
  have HBL := Lib.hid ((hb3.setCell (p := ⟨w.heap.size, 0, none⟩) (Nat.le_refl _) (.slice a1 ls.length c1)).setCell (p := ⟨w.heap.size, 1, none⟩) (Nat.le_refl _) (.slice a2 ss.length c2))
  obtain ⟨z0, z1, y0, y1⟩ := cell2 hz3
  obtain ⟨z2, z3, y2, y3⟩ := cell2 hk3
  clear hx hb hz3 hk3 hx3 hb3 hga
  go_wp2_with fail
  exact bodyPost_ret (v := .tuple #[.agg #[.slice a1 ls.length c1, .slice a2 ss.length c2], .bool b, .int .i64 kk]) (by simp [results, Tryd.results11, go_sem, z0, z1]) rfl ⟨⟨_, _, ls, ss, b, kk, rfl, HX.out, hl1, hl2⟩, HBL.out⟩
end Go.Proofs.YtbdddpchlmddbaaDoor
