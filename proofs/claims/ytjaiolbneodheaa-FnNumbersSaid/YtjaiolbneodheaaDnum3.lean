/- Frames with a rod, or with a rod and a digit, that laws draw. -/
import Derived.Test.YtjaiolbneodheaaDnum2
import Derived.Test.YtjaiolbneodheaaReg
namespace Go.Proofs.Ytjaiolbneodheaa
set_option linter.unusedVariables false
open Go.RowKit
set_option linter.unusedSimpArgs false

theorem drawNumberOn_any (cd : Value) (L : List UInt8) (w : World) (h : SlR w cd (L.map fun c => .int .u8 (c.toNat : Int))) :
    Calls Try.prog 20 #[cd] w fun e w' => (∃ (up lo : Int) (sv : Value) (rs : List (Int × Int)), e = .returned (.agg #[.int .i64 up, .int .i64 lo, sv]) ∧ RodsR w' sv rs ∧ rs.length ≤ 20) ∧ Below w.heap.size w w' := by
  have hT : (Lit.int .u64 0).wf = true := by decide
  obtain ⟨W0, hW0⟩ : ∃ W0, w.alloc (.cells #[.int .i64 0, .int .i64 0, .slice none 0 0] 28) = W0 := ⟨_, rfl⟩
  have hb0 : Below w.heap.size w W0 := by rw [← hW0]; exact (Below.refl _ w).alloc (Nat.le_refl _) _
  have hz0 : W0.heap[w.heap.size]? = some (.cells #[.int .i64 0, .int .i64 0, .slice none 0 0] 28 (0, 0)) := by rw [← hW0]; exact alloc_at rfl
  have hs0 : W0.heap.size = w.heap.size + 1 := by rw [← hW0]; simp
  have HA := Lib.hid (drawIsFrame_any cd L W0 (h.below hb0 (Nat.le_refl _)))
  have HB0 := Lib.hid hb0
  have HZ0 := Lib.hid hz0
  have HS0 := Lib.hid hs0
  clear hb0 hz0 hs0 h
  go_enter Try.func20, Try.ntmps20
  go_wp2_with fail
  try rw [hW0]
  refine (HA.out).mono ?_
  rintro e w2 ⟨⟨up, lo, sv, rs, rfl, ho, hl⟩, hb⟩
  obtain ⟨a, c, rfl⟩ : ∃ a c, sv = .slice a rs.length c := by obtain ⟨a, c, e, _⟩ := RodsR.of_own ho; exact ⟨a, c, e⟩
  have HB2 := Lib.hid (HB0.out.trans (hb.mono (by have := HS0.out; omega)))
  obtain ⟨z0, z1, z2, y0, y1, y2⟩ := cell3 ((hb.block _ (by have := HS0.out; omega)).trans HZ0.out)
  have HO := Lib.hid (fun x y z => own_set3 ho (g := w.heap.size) (by have := HS0.out; omega) x y z)
  clear ho hb
  go_wp2_with fail
  exact bodyPost_ret (v := .agg #[.int .i64 up, .int .i64 lo, .slice a rs.length c]) (by simp [results, Try.results20, go_sem, z0, z1, z2]) rfl ⟨⟨_, _, _, rs, rfl, RodsR.of_own (HO.out _ _ _), hl⟩, bl_set3 HB2.out (Nat.le_refl _) _ _ _⟩
set_option maxRecDepth 100000 in
set_option maxHeartbeats 3200000 in
theorem drawRodValue_any (cd : Value) (L : List UInt8) (w : World) (h : SlR w cd (L.map fun c => .int .u8 (c.toNat : Int))) :
    Calls Try.prog 18 #[cd] w fun e w' => (∃ (up lo : Int) (sv : Value) (rs : List (Int × Int)) (z : Int), e = .returned (.tuple #[.agg #[.int .i64 up, .int .i64 lo, sv], .int .i64 z]) ∧ RodsR w' sv rs ∧ rs.length ≤ 20) ∧ Below w.heap.size w w' := by
  obtain ⟨ad, cp, rfl⟩ : ∃ a c, cd = .slice a L.length c := by obtain ⟨a, c, e, _⟩ := h; exact ⟨a, c, by rw [e, List.length_map]⟩
  have hT : (Lit.int .u64 0).wf = true := by decide
  obtain ⟨W0, hW0⟩ : ∃ W0, w.alloc (.cells #[.int .i64 0, .int .i64 0, .slice none 0 0] 28) = W0 := ⟨_, rfl⟩
  have hb0 : Below w.heap.size w W0 := by rw [← hW0]; exact (Below.refl _ w).alloc (Nat.le_refl _) _
  have hz0 : W0.heap[w.heap.size]? = some (.cells #[.int .i64 0, .int .i64 0, .slice none 0 0] 28 (0, 0)) := by rw [← hW0]; exact alloc_at rfl
  have hs0 : W0.heap.size = w.heap.size + 1 := by rw [← hW0]; simp
  have HN := Lib.hid (code_new (h.below hb0 (Nat.le_refl _)))
  obtain ⟨W1, hW1⟩ : ∃ W1, W0.alloc (.cells #[.slice ad L.length cp, .int .i64 0, .int .u64 0] 103) = W1 := ⟨_, rfl⟩
  have hc1 : CurAt W1 W0.heap.size (.slice ad L.length cp) 0 := ⟨0, 0, _, Nat.le_refl _, Lib.hid hT, by rw [← hW1]; exact alloc_at rfl⟩
  have hr1 : CodeR W1 W0.heap.size (.slice ad L.length cp) L := by rw [← hW1]; exact HN.out _
  have hb1 : Below W0.heap.size W0 W1 := by rw [← hW1]; exact (Below.refl _ W0).alloc (Nat.le_refl _) _
  have hz1 := (hb1.block _ (by omega)).trans hz0
  have hs1 : W1.heap.size = w.heap.size + 2 := by rw [← hW1]; simp; omega
  rw [hs0] at hc1 hr1
  have HA := Lib.hid (frame_any (w.heap.size + 1) _ L 0 W1 (by omega) hc1 hr1)
  have HB1 : Hid (Below w.heap.size w W1) := Lib.hid (hb0.trans (hb1.mono (by omega)))
  have HZ1 := Lib.hid hz1
  have HR1 := Lib.hid hr1
  have HS1 := Lib.hid hs1
  have hW1' : W0.alloc (.cells #[.slice ad L.length cp, .int .i64 0, .int .u64 0] 103) = W1 := hW1
  clear hc1 hr1 hb1 hb0 hz0 hz1 h HN hW1 hs1
  go_enter Try.func18, Try.ntmps18
  go_wp2_with fail
  try rw [hW0]
  try rw [hW1']
  refine (HA.out).mono ?_
  rintro e w2 ⟨⟨up, lo, sv, rs, rfl, ho, hl⟩, hc2, hg2⟩
  obtain ⟨a, c, rfl⟩ : ∃ a c, sv = .slice a rs.length c := by obtain ⟨a, c, e, _⟩ := RodsR.of_own ho; exact ⟨a, c, e⟩
  have hga := grown_alloc w2 (.cells #[.int .i64 up, .int .i64 lo, .slice a rs.length c] 28) none
  have HG3 := Lib.hid (grown_trans hg2 (grown_any (r := some (w.heap.size + 1)) hga))
  have HC3 := Lib.hid (hc2.old hga)
  have hkF : (w2.alloc (.cells #[.int .i64 up, .int .i64 lo, .slice a rs.length c] 28)).heap[w2.heap.size]? = some (.cells #[.int .i64 up, .int .i64 lo, .slice a rs.length c] 28 (0, 0)) := alloc_at rfl
  have HKF := Lib.hid hkF
  have HO3 := Lib.hid (ho.alloc (.cells #[.int .i64 up, .int .i64 lo, .slice a rs.length c] 28))
  have HF2 : Hid (w.heap.size + 2 ≤ w2.heap.size) := Lib.hid (by have := hg2.size; have := HS1.out; omega)
  have hlF : w2.heap.size < (w2.alloc (.cells #[.int .i64 up, .int .i64 lo, .slice a rs.length c] 28)).heap.size := lt_of_block hkF
  have HLF := Lib.hid hlF
  clear hc2 hg2 hga hkF ho hlF
  go_wp2_with fail
  try generalize w2.alloc (.cells #[.int .i64 up, .int .i64 lo, .slice a rs.length c] 28) = w3 at HG3 HC3 HKF HO3 HLF ⊢
  generalize w2.heap.size = F at HKF HF2 HLF ⊢
  have hg4 := grown_drewN w3 1 (some (w.heap.size + 1))
  have HC4 : Hid (CurAt w3.drew (w.heap.size + 1) (.slice ad L.length cp) (0 + 200)) := Lib.hid (HC3.out.old (grown_drewN w3 1 none))
  obtain ⟨c0, c1, c2, f0, f1, f2⟩ := cell3 HKF.out
  refine wp_region_held_drew (S := (fun u => u.cell? ⟨F, 0, none⟩ = some (.int .i64 up) ∧ u.cell? ⟨F, 1, none⟩ = some (.int .i64 lo) ∧ u.cell? ⟨F, 2, none⟩ = some (.slice a rs.length c))) (by kernel_rfl) (⟨c0, c1, c2⟩) (fun hHeld => ?_)
  have HG4 : Hid (w3.grownBy w3.drew (some (w.heap.size + 1))) := Lib.hid hg4
  clear hg4
  generalize w3.drew = w4 at HG4 HC4 hHeld ⊢
  clear c0 c1 c2 f0 f1 f2
  have HCL : Hid (∀ wi, w3.grownBy wi (some (w.heap.size + 1)) → wi.cell? ⟨F, 0, none⟩ = some (.int .i64 up) ∧ wi.cell? ⟨F, 1, none⟩ = some (.int .i64 lo) ∧ wi.cell? ⟨F, 2, none⟩ = some (.slice a rs.length c)) := Lib.hid (fun wi hg => by
    obtain ⟨c0, c1, c2, f0, f1, f2⟩ := cell3 ((hg.block F HLF.out (by intro e; have := HF2.out; injection e with e; omega)).trans HKF.out)
    exact ⟨c0, c1, c2⟩)
  refine take1 (i := 0) (v := ?v1) (some 11) rfl rfl (by kernel_rfl) (by kernel_rfl) (by kernel_rfl) (fun _ _ _ h => h) (Or.inl ⟨by rfl, ?y1⟩) (by assumption) ?r1
  case y1 => (intro w hSw; (try dsimp only at hSw); go_simp; (first | done | with_reducible rfl))
  try simp only [Act.put, List.setIfInBounds_toArray, List.set_cons_zero, List.set_cons_succ]
  refine take1 (i := 1) (v := ?v2) (some 12) rfl rfl (by kernel_rfl) (by kernel_rfl) (by kernel_rfl) (fun _ _ _ h => h) (Or.inl ⟨by rfl, ?y2⟩) (by assumption) ?r2
  case y2 => (intro w hSw; (try dsimp only at hSw); go_simp; (first | done | with_reducible rfl))
  try simp only [Act.put, List.setIfInBounds_toArray, List.set_cons_zero, List.set_cons_succ]
  refine take1 (i := 2) (v := ?v3) (some 13) rfl rfl (by kernel_rfl) (by kernel_rfl) (by kernel_rfl) (fun _ _ _ h => h) (Or.inl ⟨by rfl, ?y3⟩) (by assumption) ?r3
  case y3 => (intro w hSw; (try dsimp only at hSw); go_simp; (first | done | with_reducible rfl))
  try simp only [Act.put, List.setIfInBounds_toArray, List.set_cons_zero, List.set_cons_succ]
  refine wpAnyH_ready (rs := [3]) (by kernel_rfl) (by simp) ?_
  refine AllReadyH.cons rfl (fun K hK => ?_) AllReadyH.nil
  go_simp
  go_at_call 99
  refine (rodOf_any (w.heap.size + 1) _ L _ up lo a c rs.length w4 (by omega) (by omega) HC4.out (HR1.out.grown (grown_trans HG3.out HG4.out))).mono ?_
  rintro e w5 ⟨⟨z, rfl⟩, hc5, hg5⟩
  have HG5 := Lib.hid (grown_trans HG4.out hg5)
  have HC5 := Lib.hid hc5
  clear hc5 hg5
  refine hK.out _ _ ((HCL.out _ HG5.out)) (fun hHeld => ?_)
  clear hK K
  try simp only [Act.put, List.setIfInBounds_toArray, List.set_cons_zero, List.set_cons_succ]
  have hz := (HG5.out.block w.heap.size (by have := HF2.out; have := HLF.out; omega) (by intro e; injection e with e; omega)).trans ((HG3.out.block w.heap.size (by have := HS1.out; omega) (by intro e; injection e with e; omega)).trans HZ1.out)
  have hgA := grown_trans HG3.out HG5.out
  have HB := Lib.hid (HB1.out.grown hgA HB1.out.size (fun k e => by cases e; exact Nat.le_succ _))
  have HO := Lib.hid (own_set3 (own_grown HO3.out HG5.out (by have := HS1.out; omega)) (g := w.heap.size) (by have := HS1.out; omega) (.int .i64 up) (.int .i64 lo) (.slice a rs.length c))
  have hkz := heap_setCell_same _ w.heap.size 2 _ _ (.slice a rs.length c) (heap_setCell_same _ w.heap.size 1 _ _ (.int .i64 lo) (heap_setCell_same w5 w.heap.size 0 _ _ (.int .i64 up) hz))
  have hkf : (((w5.setCell ⟨w.heap.size, 0, none⟩ (.int .i64 up)).setCell ⟨w.heap.size, 1, none⟩ (.int .i64 lo)).setCell ⟨w.heap.size, 2, none⟩ (.slice a rs.length c)).heap[F]? = w5.heap[F]? := (heap_setCell_other _ _ F _ (by show F ≠ w.heap.size; have := HF2.out; omega)).trans ((heap_setCell_other _ _ F _ (by show F ≠ w.heap.size; have := HF2.out; omega)).trans (heap_setCell_other _ _ F _ (by show F ≠ w.heap.size; have := HF2.out; omega)))
  have hkf2 := hkf.trans ((HG5.out.block F HLF.out (by intro e; have := HF2.out; injection e with e; omega)).trans HKF.out)
  have hbl := bl_set3 HB.out (g := w.heap.size) (Nat.le_refl _) (.int .i64 up) (.int .i64 lo) (.slice a rs.length c)
  obtain ⟨z0, z1, z2, y0, y1, y2⟩ := cell3 hz
  clear hkf hgA hz
  refine wpAnyH_ready (rs := [4]) (by kernel_rfl) (by simp) ?_
  refine AllReadyH.cons rfl (fun K hK => ?_) AllReadyH.nil
  go_simp
  clear z0 z1 z2 y0 y1 y2
  generalize ((w5.setCell ⟨w.heap.size, 0, none⟩ (.int .i64 up)).setCell ⟨w.heap.size, 1, none⟩ (.int .i64 lo)).setCell ⟨w.heap.size, 2, none⟩ (.slice a rs.length c) = wz at hkz hkf2 hbl HO ⊢
  have HBL := Lib.hid hbl
  obtain ⟨c0, c1, c2, f0, f1, f2⟩ := cell3 hkf2
  refine hK.out _ _ (⟨c0, c1, c2⟩) (fun hHeld => ?_)
  clear hK K
  try simp only [Act.put]
  refine take1 (i := 5) (v := ?v4) (some 3) rfl rfl (by kernel_rfl) (by kernel_rfl) (by kernel_rfl) (fun _ _ _ h => h) (Or.inl ⟨by rfl, ?y4⟩) (by assumption) ?r4
  case y4 => (intro w hSw; (try dsimp only at hSw); go_simp; (first | done | with_reducible rfl))
  try simp only [Act.put, List.setIfInBounds_toArray, List.set_cons_zero, List.set_cons_succ]
  refine wpAnyH_done (by kernel_rfl) ?_ _
  have hkz2 : wz.heap[w.heap.size]? = some (.cells #[.int .i64 up, .int .i64 lo, .slice a rs.length c] 28 (0, 0)) := hkz
  obtain ⟨z0, z1, z2, y0, y1, y2⟩ := cell3 hkz2
  clear hkz hkz2 hkf2 hbl c0 c1 c2 f0 f1 f2
  go_wp2_with fail
  exact bodyPost_ret (v := .tuple #[.agg #[.int .i64 up, .int .i64 lo, .slice a rs.length c], .int .i64 z]) (by simp [results, Try.results18, go_sem, z0, z1, z2]) rfl ⟨⟨_, _, _, rs, _, rfl, RodsR.of_own HO.out, hl⟩, HBL.out⟩
set_option maxRecDepth 100000 in
set_option maxHeartbeats 3200000 in
theorem drawSetRod_any (cd : Value) (L : List UInt8) (w : World) (h : SlR w cd (L.map fun c => .int .u8 (c.toNat : Int))) :
    Calls Try.prog 14 #[cd] w fun e w' => (∃ (up lo : Int) (sv : Value) (rs : List (Int × Int)) (z d : Int), e = .returned (.tuple #[.agg #[.int .i64 up, .int .i64 lo, sv], .int .i64 z, .int .i64 d]) ∧ RodsR w' sv rs ∧ rs.length ≤ 20) ∧ Below w.heap.size w w' := by
  obtain ⟨ad, cp, rfl⟩ : ∃ a c, cd = .slice a L.length c := by obtain ⟨a, c, e, _⟩ := h; exact ⟨a, c, by rw [e, List.length_map]⟩
  have hT : (Lit.int .u64 0).wf = true := by decide
  obtain ⟨W0, hW0⟩ : ∃ W0, w.alloc (.cells #[.int .i64 0, .int .i64 0, .slice none 0 0] 28) = W0 := ⟨_, rfl⟩
  have hb0 : Below w.heap.size w W0 := by rw [← hW0]; exact (Below.refl _ w).alloc (Nat.le_refl _) _
  have hz0 : W0.heap[w.heap.size]? = some (.cells #[.int .i64 0, .int .i64 0, .slice none 0 0] 28 (0, 0)) := by rw [← hW0]; exact alloc_at rfl
  have hs0 : W0.heap.size = w.heap.size + 1 := by rw [← hW0]; simp
  have HN := Lib.hid (code_new (h.below hb0 (Nat.le_refl _)))
  obtain ⟨W1, hW1⟩ : ∃ W1, W0.alloc (.cells #[.slice ad L.length cp, .int .i64 0, .int .u64 0] 103) = W1 := ⟨_, rfl⟩
  have hc1 : CurAt W1 W0.heap.size (.slice ad L.length cp) 0 := ⟨0, 0, _, Nat.le_refl _, Lib.hid hT, by rw [← hW1]; exact alloc_at rfl⟩
  have hr1 : CodeR W1 W0.heap.size (.slice ad L.length cp) L := by rw [← hW1]; exact HN.out _
  have hb1 : Below W0.heap.size W0 W1 := by rw [← hW1]; exact (Below.refl _ W0).alloc (Nat.le_refl _) _
  have hz1 := (hb1.block _ (by omega)).trans hz0
  have hs1 : W1.heap.size = w.heap.size + 2 := by rw [← hW1]; simp; omega
  rw [hs0] at hc1 hr1
  have HA := Lib.hid (frame_any (w.heap.size + 1) _ L 0 W1 (by omega) hc1 hr1)
  have HB1 : Hid (Below w.heap.size w W1) := Lib.hid (hb0.trans (hb1.mono (by omega)))
  have HZ1 := Lib.hid hz1
  have HR1 := Lib.hid hr1
  have HS1 := Lib.hid hs1
  have hW1' : W0.alloc (.cells #[.slice ad L.length cp, .int .i64 0, .int .u64 0] 103) = W1 := hW1
  clear hc1 hr1 hb1 hb0 hz0 hz1 h HN hW1 hs1
  go_enter Try.func14, Try.ntmps14
  go_wp2_with fail
  try rw [hW0]
  try rw [hW1']
  refine (HA.out).mono ?_
  rintro e w2 ⟨⟨up, lo, sv, rs, rfl, ho, hl⟩, hc2, hg2⟩
  obtain ⟨a, c, rfl⟩ : ∃ a c, sv = .slice a rs.length c := by obtain ⟨a, c, e, _⟩ := RodsR.of_own ho; exact ⟨a, c, e⟩
  have hga := grown_alloc w2 (.cells #[.int .i64 up, .int .i64 lo, .slice a rs.length c] 28) none
  have HG3 := Lib.hid (grown_trans hg2 (grown_any (r := some (w.heap.size + 1)) hga))
  have HC3 := Lib.hid (hc2.old hga)
  have hkF : (w2.alloc (.cells #[.int .i64 up, .int .i64 lo, .slice a rs.length c] 28)).heap[w2.heap.size]? = some (.cells #[.int .i64 up, .int .i64 lo, .slice a rs.length c] 28 (0, 0)) := alloc_at rfl
  have HKF := Lib.hid hkF
  have HO3 := Lib.hid (ho.alloc (.cells #[.int .i64 up, .int .i64 lo, .slice a rs.length c] 28))
  have HF2 : Hid (w.heap.size + 2 ≤ w2.heap.size) := Lib.hid (by have := hg2.size; have := HS1.out; omega)
  have hlF : w2.heap.size < (w2.alloc (.cells #[.int .i64 up, .int .i64 lo, .slice a rs.length c] 28)).heap.size := lt_of_block hkF
  have HLF := Lib.hid hlF
  clear hc2 hg2 hga hkF ho hlF
  go_wp2_with fail
  try generalize w2.alloc (.cells #[.int .i64 up, .int .i64 lo, .slice a rs.length c] 28) = w3 at HG3 HC3 HKF HO3 HLF ⊢
  generalize w2.heap.size = F at HKF HF2 HLF ⊢
  have hg4 := grown_drewN w3 1 (some (w.heap.size + 1))
  have HC4 : Hid (CurAt w3.drew (w.heap.size + 1) (.slice ad L.length cp) (0 + 200)) := Lib.hid (HC3.out.old (grown_drewN w3 1 none))
  obtain ⟨c0, c1, c2, f0, f1, f2⟩ := cell3 HKF.out
  refine wp_region_held_drew (S := (fun u => u.cell? ⟨F, 0, none⟩ = some (.int .i64 up) ∧ u.cell? ⟨F, 1, none⟩ = some (.int .i64 lo) ∧ u.cell? ⟨F, 2, none⟩ = some (.slice a rs.length c))) (by kernel_rfl) (⟨c0, c1, c2⟩) (fun hHeld => ?_)
  have HG4 : Hid (w3.grownBy w3.drew (some (w.heap.size + 1))) := Lib.hid hg4
  clear hg4
  generalize w3.drew = w4 at HG4 HC4 hHeld ⊢
  clear c0 c1 c2 f0 f1 f2
  have HCL : Hid (∀ wi, w3.grownBy wi (some (w.heap.size + 1)) → wi.cell? ⟨F, 0, none⟩ = some (.int .i64 up) ∧ wi.cell? ⟨F, 1, none⟩ = some (.int .i64 lo) ∧ wi.cell? ⟨F, 2, none⟩ = some (.slice a rs.length c)) := Lib.hid (fun wi hg => by
    obtain ⟨c0, c1, c2, f0, f1, f2⟩ := cell3 ((hg.block F HLF.out (by intro e; have := HF2.out; injection e with e; omega)).trans HKF.out)
    exact ⟨c0, c1, c2⟩)
  refine take1 (i := 0) (v := ?v5) (some 12) rfl rfl (by kernel_rfl) (by kernel_rfl) (by kernel_rfl) (fun _ _ _ h => h) (Or.inl ⟨by rfl, ?y5⟩) (by assumption) ?r5
  case y5 => (intro w hSw; (try dsimp only at hSw); go_simp; (first | done | with_reducible rfl))
  try simp only [Act.put, List.setIfInBounds_toArray, List.set_cons_zero, List.set_cons_succ]
  refine take1 (i := 1) (v := ?v6) (some 13) rfl rfl (by kernel_rfl) (by kernel_rfl) (by kernel_rfl) (fun _ _ _ h => h) (Or.inl ⟨by rfl, ?y6⟩) (by assumption) ?r6
  case y6 => (intro w hSw; (try dsimp only at hSw); go_simp; (first | done | with_reducible rfl))
  try simp only [Act.put, List.setIfInBounds_toArray, List.set_cons_zero, List.set_cons_succ]
  refine take1 (i := 2) (v := ?v7) (some 14) rfl rfl (by kernel_rfl) (by kernel_rfl) (by kernel_rfl) (fun _ _ _ h => h) (Or.inl ⟨by rfl, ?y7⟩) (by assumption) ?r7
  case y7 => (intro w hSw; (try dsimp only at hSw); go_simp; (first | done | with_reducible rfl))
  try simp only [Act.put, List.setIfInBounds_toArray, List.set_cons_zero, List.set_cons_succ]
  refine take1 (i := 4) (v := ?v8) (some 16) rfl rfl (by kernel_rfl) (by kernel_rfl) (by kernel_rfl) (fun _ _ _ h => h) (Or.inl ⟨by rfl, ?y8⟩) (by assumption) ?r8
  case y8 => (intro w hSw; (try dsimp only at hSw); go_simp; (first | done | with_reducible rfl))
  try simp only [Act.put, List.setIfInBounds_toArray, List.set_cons_zero, List.set_cons_succ]
  refine take1 (i := 6) (v := ?v9) (some 18) rfl rfl (by kernel_rfl) (by kernel_rfl) (by kernel_rfl) (fun _ _ _ h => h) (Or.inl ⟨by rfl, ?y9⟩) (by assumption) ?r9
  case y9 => (intro w hSw; (try dsimp only at hSw); go_simp; (first | done | with_reducible rfl))
  try simp only [Act.put, List.setIfInBounds_toArray, List.set_cons_zero, List.set_cons_succ]
  refine wpAnyH_ready (rs := [3]) (by kernel_rfl) (by simp) ?_
  refine AllReadyH.cons rfl (fun K hK => ?_) AllReadyH.nil
  go_simp
  go_at_call 99
  refine (rodOf_any (w.heap.size + 1) _ L _ up lo a c rs.length w4 (by omega) (by omega) HC4.out (HR1.out.grown (grown_trans HG3.out HG4.out))).mono ?_
  rintro e w5 ⟨⟨z, rfl⟩, hc5, hg5⟩
  have HG5 := Lib.hid (grown_trans HG4.out hg5)
  have HC5 := Lib.hid hc5
  clear hc5 hg5
  refine hK.out _ _ ((HCL.out _ HG5.out)) (fun hHeld => ?_)
  clear hK K
  try simp only [Act.put, List.setIfInBounds_toArray, List.set_cons_zero, List.set_cons_succ]
  refine wpAnyH_ready (rs := [5]) (by kernel_rfl) (by simp) ?_
  refine AllReadyH.cons rfl (fun K hK => ?_) AllReadyH.nil
  go_simp
  go_at_call 100
  refine (pick_any (w.heap.size + 1) _ L _ 11 w5 (by omega) (by omega) (by omega) HC5.out (HR1.out.grown (grown_trans HG3.out HG5.out))).mono ?_
  rintro e w6 ⟨⟨r1, rfl, r10, r11⟩, hc5, hg5⟩
  have HG6 := Lib.hid (grown_trans HG5.out hg5)
  have HC6 := Lib.hid hc5
  clear hc5 hg5
  refine hK.out _ _ ((HCL.out _ HG6.out)) (fun hHeld => ?_)
  clear hK K
  try simp only [Act.put, List.setIfInBounds_toArray, List.set_cons_zero, List.set_cons_succ]
  refine wpAnyH_ready (rs := [7]) (by kernel_rfl) (by simp) ?_
  refine AllReadyH.cons rfl (fun K hK => ?_) AllReadyH.nil
  go_simp
  go_at_call 100
  refine (pick_any (w.heap.size + 1) _ L _ 17 w6 (by omega) (by omega) (by omega) HC6.out (HR1.out.grown (grown_trans HG3.out HG6.out))).mono ?_
  rintro e w7 ⟨⟨r2, rfl, r20, r21⟩, hc5, hg5⟩
  have HG7 := Lib.hid (grown_trans HG6.out hg5)
  have HC7 := Lib.hid hc5
  clear hc5 hg5
  refine hK.out _ _ ((HCL.out _ HG7.out)) (fun hHeld => ?_)
  clear hK K
  try simp only [Act.put, List.setIfInBounds_toArray, List.set_cons_zero, List.set_cons_succ]
  refine take1 (i := 8) (v := ?v10) (some 20) rfl rfl (by kernel_rfl) (by kernel_rfl) (by kernel_rfl) (fun _ _ _ h => h) (Or.inl ⟨by rfl, ?y10⟩) (by assumption) ?r10
  case y10 => (intro w hSw; (try dsimp only at hSw); go_simp; (first | done | with_reducible rfl))
  try simp only [Act.put, List.setIfInBounds_toArray, List.set_cons_zero, List.set_cons_succ]
  refine take1 (i := 9) (v := ?v11) (some 21) rfl rfl (by kernel_rfl) (by kernel_rfl) (by kernel_rfl) (fun _ _ _ h => h) (Or.inl ⟨by rfl, ?y11⟩) (by assumption) ?r11
  case y11 => (intro w hSw; (try dsimp only at hSw); go_simp; (first | done | with_reducible rfl))
  try simp only [Act.put, List.setIfInBounds_toArray, List.set_cons_zero, List.set_cons_succ]
  have hz := (HG7.out.block w.heap.size (by have := HF2.out; have := HLF.out; omega) (by intro e; injection e with e; omega)).trans ((HG3.out.block w.heap.size (by have := HS1.out; omega) (by intro e; injection e with e; omega)).trans HZ1.out)
  have hgA := grown_trans HG3.out HG7.out
  have HB := Lib.hid (HB1.out.grown hgA HB1.out.size (fun k e => by cases e; exact Nat.le_succ _))
  have HO := Lib.hid (own_set3 (own_grown HO3.out HG7.out (by have := HS1.out; omega)) (g := w.heap.size) (by have := HS1.out; omega) (.int .i64 up) (.int .i64 lo) (.slice a rs.length c))
  have hkz := heap_setCell_same _ w.heap.size 2 _ _ (.slice a rs.length c) (heap_setCell_same _ w.heap.size 1 _ _ (.int .i64 lo) (heap_setCell_same w7 w.heap.size 0 _ _ (.int .i64 up) hz))
  have hkf : (((w7.setCell ⟨w.heap.size, 0, none⟩ (.int .i64 up)).setCell ⟨w.heap.size, 1, none⟩ (.int .i64 lo)).setCell ⟨w.heap.size, 2, none⟩ (.slice a rs.length c)).heap[F]? = w7.heap[F]? := (heap_setCell_other _ _ F _ (by show F ≠ w.heap.size; have := HF2.out; omega)).trans ((heap_setCell_other _ _ F _ (by show F ≠ w.heap.size; have := HF2.out; omega)).trans (heap_setCell_other _ _ F _ (by show F ≠ w.heap.size; have := HF2.out; omega)))
  have hkf2 := hkf.trans ((HG7.out.block F HLF.out (by intro e; have := HF2.out; injection e with e; omega)).trans HKF.out)
  have hbl := bl_set3 HB.out (g := w.heap.size) (Nat.le_refl _) (.int .i64 up) (.int .i64 lo) (.slice a rs.length c)
  obtain ⟨z0, z1, z2, y0, y1, y2⟩ := cell3 hz
  clear hkf hgA hz
  refine wpAnyH_ready (rs := [10]) (by kernel_rfl) (by simp) ?_
  refine AllReadyH.cons rfl (fun K hK => ?_) AllReadyH.nil
  go_simp
  clear z0 z1 z2 y0 y1 y2
  generalize ((w7.setCell ⟨w.heap.size, 0, none⟩ (.int .i64 up)).setCell ⟨w.heap.size, 1, none⟩ (.int .i64 lo)).setCell ⟨w.heap.size, 2, none⟩ (.slice a rs.length c) = wz at hkz hkf2 hbl HO ⊢
  have HBL := Lib.hid hbl
  obtain ⟨c0, c1, c2, f0, f1, f2⟩ := cell3 hkf2
  refine hK.out _ _ (⟨c0, c1, c2⟩) (fun hHeld => ?_)
  clear hK K
  try simp only [Act.put]
  refine take1 (i := 11) (v := ?v12) (some 3) rfl rfl (by kernel_rfl) (by kernel_rfl) (by kernel_rfl) (fun _ _ _ h => h) (Or.inl ⟨by rfl, ?y12⟩) (by assumption) ?r12
  case y12 => (intro w hSw; (try dsimp only at hSw); go_simp; (first | done | with_reducible rfl))
  try simp only [Act.put, List.setIfInBounds_toArray, List.set_cons_zero, List.set_cons_succ]
  refine take1 (i := 12) (v := ?v13) (some 4) rfl rfl (by kernel_rfl) (by kernel_rfl) (by kernel_rfl) (fun _ _ _ h => h) (Or.inl ⟨by rfl, ?y13⟩) (by assumption) ?r13
  case y13 => (intro w hSw; (try dsimp only at hSw); go_simp; (first | done | with_reducible rfl))
  try simp only [Act.put, List.setIfInBounds_toArray, List.set_cons_zero, List.set_cons_succ]
  refine wpAnyH_done (by kernel_rfl) ?_ _
  have hkz2 : wz.heap[w.heap.size]? = some (.cells #[.int .i64 up, .int .i64 lo, .slice a rs.length c] 28 (0, 0)) := hkz
  obtain ⟨z0, z1, z2, y0, y1, y2⟩ := cell3 hkz2
  clear hkz hkz2 hkf2 hbl c0 c1 c2 f0 f1 f2
  go_wp2_with fail
  exact bodyPost_ret (v := .tuple #[.agg #[.int .i64 up, .int .i64 lo, .slice a rs.length c], .int .i64 z, .int .i64 (IntKind.i64.wrap (r1 - IntKind.i64.wrap (r2.tdiv 16)))]) (by simp [results, Try.results14, go_sem, z0, z1, z2]) rfl ⟨⟨_, _, _, rs, _, _, rfl, RodsR.of_own HO.out, hl⟩, HBL.out⟩
end Go.Proofs.Ytjaiolbneodheaa
