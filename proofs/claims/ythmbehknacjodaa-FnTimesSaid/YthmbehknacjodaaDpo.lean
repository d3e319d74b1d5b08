/- A frame and two factors, drawn. -/
import Derived.Test.YthmbehknacjodaaKh
import Derived.Test.YthmbehknacjodaaKv
import Derived.Test.YthmbehknacjodaaKa
import Derived.Test.YthmbehknacjodaaMade
import Derived.Test.YthmbehknacjodaaOwn
import Derived.Test.YthmbehknacjodaaKl
namespace Go.Proofs.Ythmbehknacjodaa
set_option linter.unusedVariables false
open Go.RowKit
set_option linter.unusedSimpArgs false

set_option maxRecDepth 100000 in
set_option maxHeartbeats 6400000 in
theorem drawProductOn_any (cd : Value) (L : List UInt8) (w : World) (h : SlR w cd (L.map fun c => .int .u8 (c.toNat : Int))) :
    Calls Try.prog 30 #[cd] w fun e w' => (∃ (up lo : Int) (sv : Value) (rs : List (Int × Int)) (x y : Int), e = .returned (.tuple #[.agg #[.int .i64 up, .int .i64 lo, sv], .int .i64 x, .int .i64 y]) ∧ RodsR w' sv rs ∧ rs.length ≤ 20 ∧ (-1 ≤ x ∧ x ≤ 10000) ∧ (-1 ≤ y ∧ y ≤ 10000)) ∧ Below w.heap.size w w' := by
  obtain ⟨ad, cp, rfl⟩ : ∃ a c, cd = .slice a L.length c := by obtain ⟨a, c, e, _⟩ := h; exact ⟨a, c, by rw [e, List.length_map]⟩
  have hT : (Lit.int .u64 0).wf = true := by decide
  obtain ⟨W0, hW0⟩ : ∃ W0, w.alloc (.cells #[.int .i64 0, .int .i64 0, .slice none 0 0] 42) = W0 := ⟨_, rfl⟩
  have hb0 : Below w.heap.size w W0 := by rw [← hW0]; exact (Below.refl _ w).alloc (Nat.le_refl _) _
  have hz0 : W0.heap[w.heap.size]? = some (.cells #[.int .i64 0, .int .i64 0, .slice none 0 0] 42 (0, 0)) := by rw [← hW0]; exact alloc_at rfl
  have hs0 : W0.heap.size = w.heap.size + 1 := by rw [← hW0]; simp
  have HN := Lib.hid (code_new (h.below hb0 (Nat.le_refl _)))
  obtain ⟨W1, hW1⟩ : ∃ W1, W0.alloc (.cells #[.slice ad L.length cp, .int .i64 0, .int .u64 0] 96) = W1 := ⟨_, rfl⟩
  have hc1 : CurAt W1 W0.heap.size (.slice ad L.length cp) 0 := ⟨0, 0, _, Nat.le_refl _, Lib.hid hT, by rw [← hW1]; exact alloc_at rfl⟩
  have hr1 : CodeR W1 W0.heap.size (.slice ad L.length cp) L := by rw [← hW1]; exact HN.out _
  have hb1 : Below W0.heap.size W0 W1 := by rw [← hW1]; exact (Below.refl _ W0).alloc (Nat.le_refl _) _
  have hz1 := (hb1.block _ (by omega)).trans hz0
  have hs1 : W1.heap.size = w.heap.size + 2 := by rw [← hW1]; simp; omega
  rw [hs0] at hc1 hr1
  have HA := Lib.hid (standard_any (w.heap.size + 1) _ L 0 W1 (by omega) hc1 hr1)
  have HB1 : Hid (Below w.heap.size w W1) := Lib.hid (hb0.trans (hb1.mono (by omega)))
  have HZ1 := Lib.hid hz1
  have HR1 := Lib.hid hr1
  have HS1 := Lib.hid hs1
  have hW1' : W0.alloc (.cells #[.slice ad L.length cp, .int .i64 0, .int .u64 0] 96) = W1 := hW1
  clear hc1 hr1 hb1 hb0 hz0 hz1 h HN hW1 hs1
  go_enter Try.func30, Try.ntmps30
  go_wp2_with fail
  try rw [hW0]
  try rw [hW1']
  refine (HA.out).mono ?_
  rintro e w2 ⟨⟨up, lo, sv, rs, rfl, ho, hl⟩, hc2, hg2⟩
  obtain ⟨a, c, rfl⟩ : ∃ a c, sv = .slice a rs.length c := by obtain ⟨a, c, e, _⟩ := RodsR.of_own ho; exact ⟨a, c, e⟩
  have hga := grown_alloc w2 (.cells #[.int .i64 up, .int .i64 lo, .slice a rs.length c] 42) none
  have HG3 := Lib.hid (grown_trans hg2 (grown_any (r := some (w.heap.size + 1)) hga))
  have HC3 := Lib.hid (hc2.old hga)
  have hkF : (w2.alloc (.cells #[.int .i64 up, .int .i64 lo, .slice a rs.length c] 42)).heap[w2.heap.size]? = some (.cells #[.int .i64 up, .int .i64 lo, .slice a rs.length c] 42 (0, 0)) := alloc_at rfl
  have HKF := Lib.hid hkF
  have HO3 := Lib.hid (ho.alloc (.cells #[.int .i64 up, .int .i64 lo, .slice a rs.length c] 42))
  have HF2 : Hid (w.heap.size + 2 ≤ w2.heap.size) := Lib.hid (by have := hg2.size; have := HS1.out; omega)
  have hlF : w2.heap.size < (w2.alloc (.cells #[.int .i64 up, .int .i64 lo, .slice a rs.length c] 42)).heap.size := lt_of_block hkF
  have HLF := Lib.hid hlF
  clear hc2 hg2 hga hkF ho hlF
  go_wp2_with fail
  try generalize w2.alloc (.cells #[.int .i64 up, .int .i64 lo, .slice a rs.length c] 42) = w3 at HG3 HC3 HKF HO3 HLF ⊢
  generalize w2.heap.size = F at HKF HF2 HLF ⊢
  refine (one_any (w.heap.size + 1) _ L (0 + 300) 2 w3 (by omega) ⟨by omega, by omega⟩ HC3.out (HR1.out.grown HG3.out)).mono ?_
  rintro e w4 ⟨⟨b2, rfl⟩, hc4, hg4⟩
  have HG4 := Lib.hid (grown_trans HG3.out hg4)
  have HC4 := Lib.hid hc4
  have HK4 := Lib.hid ((hg4.block F HLF.out (by intro e; have := HF2.out; injection e with e; omega)).trans HKF.out)
  have HO4 := Lib.hid (own_grown HO3.out hg4 (by have := HS1.out; omega))
  have HL4 : Hid (F < w4.heap.size) := Lib.hid (Nat.lt_of_lt_of_le HLF.out hg4.size)
  clear hc4 hg4
  cases b2 with
  | false =>
    obtain ⟨c0, c1, c2, f0, f1, f2⟩ := cell3 HK4.out
    go_wp2_with fail
    refine wp_region_held_drew (S := (fun u => u.cell? ⟨F, 0, none⟩ = some (.int .i64 up) ∧ u.cell? ⟨F, 1, none⟩ = some (.int .i64 lo) ∧ u.cell? ⟨F, 2, none⟩ = some (.slice a rs.length c))) (by kernel_rfl) (⟨c0, c1, c2⟩) (fun hHeld => ?_)
    have HGd : Hid (W1.grownBy w4.drew (some (w.heap.size + 1))) := Lib.hid (grown_trans HG4.out (grown_drewN w4 1 (some (w.heap.size + 1))))
    have HCd : Hid (CurAt w4.drew (w.heap.size + 1) (.slice ad L.length cp) (0 + 300 + 2)) := Lib.hid (HC4.out.old (grown_drewN w4 1 none))
    have HKd : Hid (w4.drew.heap[F]? = some (.cells #[.int .i64 up, .int .i64 lo, .slice a rs.length c] 42 (0, 0))) := HK4
    have HOd := Lib.hid (own_grown HO4.out (grown_drewN w4 1 (some (w.heap.size + 1))) (by have := HS1.out; omega))
    change Hid (w4.drew.ownsRow _ _ _ _ _ _) at HOd
    have HLd : Hid (F < w4.drew.heap.size) := HL4
    generalize w4.drew = wd at HGd HCd HKd HOd HLd hHeld ⊢
    clear c0 c1 c2 f0 f1 f2
    have HCL : Hid (∀ wi, wd.grownBy wi (some (w.heap.size + 1)) → wi.cell? ⟨F, 0, none⟩ = some (.int .i64 up) ∧ wi.cell? ⟨F, 1, none⟩ = some (.int .i64 lo) ∧ wi.cell? ⟨F, 2, none⟩ = some (.slice a rs.length c)) := Lib.hid (fun wi hg => by
      obtain ⟨c0, c1, c2, f0, f1, f2⟩ := cell3 ((hg.block F HLd.out (by intro e; have := HF2.out; injection e with e; omega)).trans HKd.out)
      exact ⟨c0, c1, c2⟩)
    refine take1 (i := 0) (v := ?v1) (some 21) rfl rfl (by kernel_rfl) (by kernel_rfl) (by kernel_rfl) (fun _ _ _ h => h) (Or.inl ⟨by rfl, ?y1⟩) (by assumption) ?r1
    case y1 => (intro w hSw; (try dsimp only at hSw); go_simp; (first | done | with_reducible rfl))
    try simp only [Act.put, List.setIfInBounds_toArray, List.set_cons_zero, List.set_cons_succ]
    refine take1 (i := 1) (v := ?v2) (some 22) rfl rfl (by kernel_rfl) (by kernel_rfl) (by kernel_rfl) (fun _ _ _ h => h) (Or.inl ⟨by rfl, ?y2⟩) (by assumption) ?r2
    case y2 => (intro w hSw; (try dsimp only at hSw); go_simp; (first | done | with_reducible rfl))
    try simp only [Act.put, List.setIfInBounds_toArray, List.set_cons_zero, List.set_cons_succ]
    refine take1 (i := 3) (v := ?v3) (some 24) rfl rfl (by kernel_rfl) (by kernel_rfl) (by kernel_rfl) (fun _ _ _ h => h) (Or.inl ⟨by rfl, ?y3⟩) (by assumption) ?r3
    case y3 => (intro w hSw; (try dsimp only at hSw); go_simp; (first | done | with_reducible rfl))
    try simp only [Act.put, List.setIfInBounds_toArray, List.set_cons_zero, List.set_cons_succ]
    refine wpAnyH_ready (rs := [2]) (by kernel_rfl) (by simp) ?_
    refine AllReadyH.cons rfl (fun K hK => ?_) AllReadyH.nil
    go_simp
    go_at_call 88
    refine (factor_any (w.heap.size + 1) _ L (0 + 300 + 2) wd (by omega) HCd.out (HR1.out.grown HGd.out)).mono ?_
    rintro e wa ⟨⟨x, rfl, hx⟩, hc, hg⟩
    have HX := Lib.hid hx
    have HCa := Lib.hid hc
    have HGa := Lib.hid hg
    have HGA := Lib.hid (grown_trans HGd.out hg)
    clear hx hc hg
    refine hK.out _ _ ((HCL.out _ HGa.out)) (fun hHeld => ?_)
    clear hK K
    try simp only [Act.put, List.setIfInBounds_toArray, List.set_cons_zero, List.set_cons_succ]
    refine wpAnyH_ready (rs := [4]) (by kernel_rfl) (by simp) ?_
    refine AllReadyH.cons rfl (fun K hK => ?_) AllReadyH.nil
    go_simp
    go_at_call 88
    refine (factor_any (w.heap.size + 1) _ L (0 + 300 + 2 + 2) wa (by omega) HCa.out (HR1.out.grown HGA.out)).mono ?_
    rintro e wb ⟨⟨y, rfl, hy⟩, hc, hg⟩
    have HY := Lib.hid hy
    have HGb := Lib.hid (grown_trans HGa.out hg)
    have HGB := Lib.hid (grown_trans HGd.out HGb.out)
    clear hy hc hg
    refine hK.out _ _ ((HCL.out _ HGb.out)) (fun hHeld => ?_)
    clear hK K
    try simp only [Act.put, List.setIfInBounds_toArray, List.set_cons_zero, List.set_cons_succ]
    have hz := (HGB.out.block w.heap.size (by have := HS1.out; omega) (by intro e; injection e with e; omega)).trans HZ1.out
    have HO := Lib.hid (own_set3 (own_grown HOd.out HGb.out (by have := HS1.out; omega)) (g := w.heap.size) (by have := HS1.out; omega) (.int .i64 up) (.int .i64 lo) (.slice a rs.length c))
    have hkz := heap_setCell_same _ w.heap.size 2 _ _ (.slice a rs.length c) (heap_setCell_same _ w.heap.size 1 _ _ (.int .i64 lo) (heap_setCell_same wb w.heap.size 0 _ _ (.int .i64 up) hz))
    have hkf : (((wb.setCell ⟨w.heap.size, 0, none⟩ (.int .i64 up)).setCell ⟨w.heap.size, 1, none⟩ (.int .i64 lo)).setCell ⟨w.heap.size, 2, none⟩ (.slice a rs.length c)).heap[F]? = wb.heap[F]? := (heap_setCell_other _ _ F _ (by show F ≠ w.heap.size; have := HF2.out; omega)).trans ((heap_setCell_other _ _ F _ (by show F ≠ w.heap.size; have := HF2.out; omega)).trans (heap_setCell_other _ _ F _ (by show F ≠ w.heap.size; have := HF2.out; omega)))
    have hkf2 := hkf.trans ((HGb.out.block F HLd.out (by intro e; have := HF2.out; injection e with e; omega)).trans HKd.out)
    have hB : Below w.heap.size w wb := HB1.out.grown HGB.out HB1.out.size (fun k e => by cases e; exact Nat.le_succ _)
    have hbl := bl_set3 hB (g := w.heap.size) (Nat.le_refl _) (.int .i64 up) (.int .i64 lo) (.slice a rs.length c)
    obtain ⟨z0, z1, z2, y0, y1, y2⟩ := cell3 hz
    clear hkf hz hB
    refine wpAnyH_ready (rs := [5]) (by kernel_rfl) (by simp) ?_
    refine AllReadyH.cons rfl (fun K hK => ?_) AllReadyH.nil
    go_simp
    clear z0 z1 z2 y0 y1 y2
    generalize ((wb.setCell ⟨w.heap.size, 0, none⟩ (.int .i64 up)).setCell ⟨w.heap.size, 1, none⟩ (.int .i64 lo)).setCell ⟨w.heap.size, 2, none⟩ (.slice a rs.length c) = wz at hkz hkf2 hbl HO ⊢
    have HBL := Lib.hid hbl
    obtain ⟨c0, c1, c2, f0, f1, f2⟩ := cell3 hkf2
    refine hK.out _ _ (⟨c0, c1, c2⟩) (fun hHeld => ?_)
    clear hK K
    try simp only [Act.put]
    refine take1 (i := 6) (v := ?v4) (some 3) rfl rfl (by kernel_rfl) (by kernel_rfl) (by kernel_rfl) (fun _ _ _ h => h) (Or.inl ⟨by rfl, ?y4⟩) (by assumption) ?r4
    case y4 => (intro w hSw; (try dsimp only at hSw); go_simp; (first | done | with_reducible rfl))
    try simp only [Act.put, List.setIfInBounds_toArray, List.set_cons_zero, List.set_cons_succ]
    refine take1 (i := 7) (v := ?v5) (some 4) rfl rfl (by kernel_rfl) (by kernel_rfl) (by kernel_rfl) (fun _ _ _ h => h) (Or.inl ⟨by rfl, ?y5⟩) (by assumption) ?r5
    case y5 => (intro w hSw; (try dsimp only at hSw); go_simp; (first | done | with_reducible rfl))
    try simp only [Act.put, List.setIfInBounds_toArray, List.set_cons_zero, List.set_cons_succ]
    refine wpAnyH_done (by kernel_rfl) ?_ _
    have hkz2 : wz.heap[w.heap.size]? = some (.cells #[.int .i64 up, .int .i64 lo, .slice a rs.length c] 42 (0, 0)) := hkz
    obtain ⟨z0, z1, z2, y0, y1, y2⟩ := cell3 hkz2
    clear hkz hkz2 hkf2 hbl c0 c1 c2 f0 f1 f2
    go_wp2_with fail
    exact bodyPost_ret (v := .tuple #[.agg #[.int .i64 up, .int .i64 lo, .slice a rs.length c], .int .i64 x, .int .i64 y]) (by simp [results, Try.results30, go_sem, z0, z1, z2]) rfl ⟨⟨_, _, _, rs, _, _, rfl, RodsR.of_own HO.out, hl, HX.out, HY.out⟩, HBL.out⟩
  | true =>
    have hal := grown_alloc w4 (.cells ([3, 5, 8].map (Value.int .i64)).toArray 3) none
    have HNp : Hid (w4.heap.size ≠ w.heap.size + 1) := Lib.hid (by have := HG4.out.size; have := HS1.out; omega)
    have HAMp := Lib.hid (among_any (w.heap.size + 1) (.slice ad L.length cp) L (0 + 300 + 2) (.slice (some ⟨w4.heap.size, 0, none⟩) 3 3) [3, 5, 8] (w4.alloc (.cells ([3, 5, 8].map (Value.int .i64)).toArray 3)) (by omega) (by decide) (slr_lit w4 ([3, 5, 8].map (Value.int .i64)) 3 (by decide)) (fun a m c e => by cases e; exact HNp.out) (HC4.out.old hal) (HR1.out.grown (grown_trans HG4.out (grown_any hal))))
    have HGLp := Lib.hid (grown_trans HG4.out (grown_any (r := some (w.heap.size + 1)) hal))
    have HKLp := Lib.hid ((hal.block F HL4.out (by simp)).trans HK4.out)
    have HLLp := Lib.hid (Nat.lt_of_lt_of_le HL4.out hal.size)
    clear hal
    go_wp2_with fail
    refine (HAMp.out).mono ?_
    rintro e w5 ⟨⟨x1, rfl, hx1⟩, hc, hg⟩
    have HG5 := Lib.hid (grown_trans HGLp.out hg)
    have HC5 := Lib.hid hc
    have HK5 := Lib.hid ((hg.block F HLLp.out (by intro e; have := HF2.out; injection e with e; omega)).trans HKLp.out)
    have HL5 : Hid (F < w5.heap.size) := Lib.hid (Nat.lt_of_lt_of_le HLLp.out hg.size)
    clear hc hg
    obtain ⟨n, rfl, hn⟩ : ∃ n : Nat, x1 = (n : Int) ∧ n ≤ 8 := by
      simp only [List.mem_cons, List.not_mem_nil, or_false] at hx1
      rcases hx1 with rfl | rfl | rfl
      · exact ⟨3, rfl, by omega⟩
      · exact ⟨5, rfl, by omega⟩
      · exact ⟨8, rfl, by omega⟩
    clear hx1
    have hal := grown_alloc w5 (.cells ([0, 5, 100].map (Value.int .i64)).toArray 3) none
    have HNq : Hid (w5.heap.size ≠ w.heap.size + 1) := Lib.hid (by have := HG5.out.size; have := HS1.out; omega)
    have HAMq := Lib.hid (among_any (w.heap.size + 1) (.slice ad L.length cp) L (0 + 300 + 2 + 2) (.slice (some ⟨w5.heap.size, 0, none⟩) 3 3) [0, 5, 100] (w5.alloc (.cells ([0, 5, 100].map (Value.int .i64)).toArray 3)) (by omega) (by decide) (slr_lit w5 ([0, 5, 100].map (Value.int .i64)) 3 (by decide)) (fun a m c e => by cases e; exact HNq.out) (HC5.out.old hal) (HR1.out.grown (grown_trans HG5.out (grown_any hal))))
    have HGLq := Lib.hid (grown_trans HG5.out (grown_any (r := some (w.heap.size + 1)) hal))
    have HKLq := Lib.hid ((hal.block F HL5.out (by simp)).trans HK5.out)
    have HLLq := Lib.hid (Nat.lt_of_lt_of_le HL5.out hal.size)
    clear hal
    go_wp2_with fail
    refine (HAMq.out).mono ?_
    rintro e w6 ⟨⟨x2, rfl, hx2⟩, hc, hg⟩
    have HG6 := Lib.hid (grown_trans HGLq.out hg)
    have HC6 := Lib.hid hc
    have HK6 := Lib.hid ((hg.block F HLLq.out (by intro e; have := HF2.out; injection e with e; omega)).trans HKLq.out)
    have HL6 : Hid (F < w6.heap.size) := Lib.hid (Nat.lt_of_lt_of_le HLLq.out hg.size)
    clear hc hg
    have hb2 : 0 ≤ x2 ∧ x2 ≤ 1000000000 := by simp only [List.mem_cons, List.not_mem_nil, or_false] at hx2; omega
    clear hx2
    go_wp2_with fail
    refine (l2For_any 1 4 n x2 w6 hn hb2).mono ?_
    rintro e w7 ⟨⟨v7, rfl, o7⟩, hb7⟩
    have hlen := forR_len n x2
    obtain ⟨rs2, hrs2⟩ : ∃ rs2, forR n x2 = rs2 := ⟨_, rfl⟩
    rw [hrs2] at hlen o7
    subst hlen
    obtain ⟨a2, k2, rfl⟩ : ∃ a c, v7 = .slice a rs2.length c := by obtain ⟨a, c, e, _⟩ := RodsR.of_own o7; exact ⟨a, c, e⟩
    have hn7 : w6.grownBy w7 none := ⟨hb7.os, hb7.tape, hb7.output, hb7.size, fun k hk _ => hb7.block k hk⟩
    have hg7 := grown_trans HG6.out (grown_any (r := some (w.heap.size + 1)) hn7)
    have hc7 := HC6.out.old hn7
    have hk7 := (hn7.block F HL6.out (by simp)).trans HK6.out
    have hl7 := Nat.lt_of_lt_of_le HL6.out hn7.size
    have hne7 : some (w.heap.size + 1) ≠ some F := by intro e; have := HF2.out; injection e with e; omega
    have HL8 : Hid (F < (((w7.setCell ⟨F, 0, none⟩ (.int .i64 1)).setCell ⟨F, 1, none⟩ (.int .i64 4)).setCell ⟨F, 2, none⟩ (.slice a2 rs2.length k2)).heap.size) := Lib.hid (by simpa using hl7)
    have HK8 := Lib.hid (heap_setCell_same _ F 2 _ _ (.slice a2 rs2.length k2) (heap_setCell_same _ F 1 _ _ (.int .i64 4) (heap_setCell_same w7 F 0 _ _ (.int .i64 1) hk7)))
    have HC8 := Lib.hid (((hc7.row (grown_set w7 F 0 (.int .i64 1)) hne7).row (grown_set _ F 1 (.int .i64 4)) hne7).row (grown_set _ F 2 (.slice a2 rs2.length k2)) hne7)
    have HO8 := Lib.hid (own_set3 o7 (g := F) HL6.out (.int .i64 1) (.int .i64 4) (.slice a2 rs2.length k2))
    have HBS : Hid (w.heap.size + 2 ≤ w6.heap.size) := Lib.hid (by have := HG6.out.size; have := HS1.out; omega)
    have HG8 : Hid (W1.grownBy (((w7.setCell ⟨F, 0, none⟩ (.int .i64 1)).setCell ⟨F, 1, none⟩ (.int .i64 4)).setCell ⟨F, 2, none⟩ (.slice a2 rs2.length k2)) (some (w.heap.size + 1))) := Lib.hid ⟨hg7.os, hg7.tape, hg7.output, by simpa using hg7.size, fun i hi hne => by
      have hiF : i ≠ F := by have := HF2.out; have := HS1.out; omega
      exact (Below.heap_setCell _ ⟨F, 2, none⟩ _ i hiF).trans ((Below.heap_setCell _ ⟨F, 1, none⟩ _ i hiF).trans ((Below.heap_setCell _ ⟨F, 0, none⟩ _ i hiF).trans (hg7.block i hi hne)))⟩
    obtain ⟨c0, c1, c2, f0, f1, f2⟩ := cell3 hk7
    clear hn7 hg7 hc7 hk7 hl7 hne7 hb7 o7 hb2
    go_wp2_with fail
    clear c0 c1 c2 f0 f1 f2
    generalize ((w7.setCell ⟨F, 0, none⟩ (.int .i64 1)).setCell ⟨F, 1, none⟩ (.int .i64 4)).setCell ⟨F, 2, none⟩ (.slice a2 rs2.length k2) = w8 at HL8 HK8 HC8 HO8 HG8 ⊢
    change Hid (w8.heap[F]? = some (.cells #[.int .i64 1, .int .i64 4, .slice a2 rs2.length k2] 42 (0, 0))) at HK8
    obtain ⟨c0, c1, c2, f0, f1, f2⟩ := cell3 HK8.out
    refine wp_region_held_drew (S := (fun u => u.cell? ⟨F, 0, none⟩ = some (.int .i64 1) ∧ u.cell? ⟨F, 1, none⟩ = some (.int .i64 4) ∧ u.cell? ⟨F, 2, none⟩ = some (.slice a2 rs2.length k2))) (by kernel_rfl) (⟨c0, c1, c2⟩) (fun hHeld => ?_)
    have HGd : Hid (W1.grownBy w8.drew (some (w.heap.size + 1))) := Lib.hid (grown_trans HG8.out (grown_drewN w8 1 (some (w.heap.size + 1))))
    have HCd : Hid (CurAt w8.drew (w.heap.size + 1) (.slice ad L.length cp) (0 + 300 + 2 + 2 + 2)) := Lib.hid (HC8.out.old (grown_drewN w8 1 none))
    have HKd : Hid (w8.drew.heap[F]? = some (.cells #[.int .i64 1, .int .i64 4, .slice a2 rs2.length k2] 42 (0, 0))) := HK8
    have HOd := Lib.hid (own_grown HO8.out (grown_drewN w8 1 (some (w.heap.size + 1))) (by have := HBS.out; omega))
    change Hid (w8.drew.ownsRow _ _ _ _ _ _) at HOd
    have HLd : Hid (F < w8.drew.heap.size) := HL8
    generalize w8.drew = wd at HGd HCd HKd HOd HLd hHeld ⊢
    clear c0 c1 c2 f0 f1 f2
    have HCL : Hid (∀ wi, wd.grownBy wi (some (w.heap.size + 1)) → wi.cell? ⟨F, 0, none⟩ = some (.int .i64 1) ∧ wi.cell? ⟨F, 1, none⟩ = some (.int .i64 4) ∧ wi.cell? ⟨F, 2, none⟩ = some (.slice a2 rs2.length k2)) := Lib.hid (fun wi hg => by
      obtain ⟨c0, c1, c2, f0, f1, f2⟩ := cell3 ((hg.block F HLd.out (by intro e; have := HF2.out; injection e with e; omega)).trans HKd.out)
      exact ⟨c0, c1, c2⟩)
    refine take1 (i := 0) (v := ?v6) (some 21) rfl rfl (by kernel_rfl) (by kernel_rfl) (by kernel_rfl) (fun _ _ _ h => h) (Or.inl ⟨by rfl, ?y6⟩) (by assumption) ?r6
    case y6 => (intro w hSw; (try dsimp only at hSw); go_simp; (first | done | with_reducible rfl))
    try simp only [Act.put, List.setIfInBounds_toArray, List.set_cons_zero, List.set_cons_succ]
    refine take1 (i := 1) (v := ?v7) (some 22) rfl rfl (by kernel_rfl) (by kernel_rfl) (by kernel_rfl) (fun _ _ _ h => h) (Or.inl ⟨by rfl, ?y7⟩) (by assumption) ?r7
    case y7 => (intro w hSw; (try dsimp only at hSw); go_simp; (first | done | with_reducible rfl))
    try simp only [Act.put, List.setIfInBounds_toArray, List.set_cons_zero, List.set_cons_succ]
    refine take1 (i := 3) (v := ?v8) (some 24) rfl rfl (by kernel_rfl) (by kernel_rfl) (by kernel_rfl) (fun _ _ _ h => h) (Or.inl ⟨by rfl, ?y8⟩) (by assumption) ?r8
    case y8 => (intro w hSw; (try dsimp only at hSw); go_simp; (first | done | with_reducible rfl))
    try simp only [Act.put, List.setIfInBounds_toArray, List.set_cons_zero, List.set_cons_succ]
    refine wpAnyH_ready (rs := [2]) (by kernel_rfl) (by simp) ?_
    refine AllReadyH.cons rfl (fun K hK => ?_) AllReadyH.nil
    go_simp
    go_at_call 88
    refine (factor_any (w.heap.size + 1) _ L (0 + 300 + 2 + 2 + 2) wd (by omega) HCd.out (HR1.out.grown HGd.out)).mono ?_
    rintro e wa ⟨⟨x, rfl, hx⟩, hc, hg⟩
    have HX := Lib.hid hx
    have HCa := Lib.hid hc
    have HGa := Lib.hid hg
    have HGA := Lib.hid (grown_trans HGd.out hg)
    clear hx hc hg
    refine hK.out _ _ ((HCL.out _ HGa.out)) (fun hHeld => ?_)
    clear hK K
    try simp only [Act.put, List.setIfInBounds_toArray, List.set_cons_zero, List.set_cons_succ]
    refine wpAnyH_ready (rs := [4]) (by kernel_rfl) (by simp) ?_
    refine AllReadyH.cons rfl (fun K hK => ?_) AllReadyH.nil
    go_simp
    go_at_call 88
    refine (factor_any (w.heap.size + 1) _ L (0 + 300 + 2 + 2 + 2 + 2) wa (by omega) HCa.out (HR1.out.grown HGA.out)).mono ?_
    rintro e wb ⟨⟨y, rfl, hy⟩, hc, hg⟩
    have HY := Lib.hid hy
    have HGb := Lib.hid (grown_trans HGa.out hg)
    have HGB := Lib.hid (grown_trans HGd.out HGb.out)
    clear hy hc hg
    refine hK.out _ _ ((HCL.out _ HGb.out)) (fun hHeld => ?_)
    clear hK K
    try simp only [Act.put, List.setIfInBounds_toArray, List.set_cons_zero, List.set_cons_succ]
    have hz := (HGB.out.block w.heap.size (by have := HS1.out; omega) (by intro e; injection e with e; omega)).trans HZ1.out
    have HO := Lib.hid (own_set3 (own_grown HOd.out HGb.out (by have := HBS.out; omega)) (g := w.heap.size) (by have := HBS.out; omega) (.int .i64 1) (.int .i64 4) (.slice a2 rs2.length k2))
    have hkz := heap_setCell_same _ w.heap.size 2 _ _ (.slice a2 rs2.length k2) (heap_setCell_same _ w.heap.size 1 _ _ (.int .i64 4) (heap_setCell_same wb w.heap.size 0 _ _ (.int .i64 1) hz))
    have hkf : (((wb.setCell ⟨w.heap.size, 0, none⟩ (.int .i64 1)).setCell ⟨w.heap.size, 1, none⟩ (.int .i64 4)).setCell ⟨w.heap.size, 2, none⟩ (.slice a2 rs2.length k2)).heap[F]? = wb.heap[F]? := (heap_setCell_other _ _ F _ (by show F ≠ w.heap.size; have := HF2.out; omega)).trans ((heap_setCell_other _ _ F _ (by show F ≠ w.heap.size; have := HF2.out; omega)).trans (heap_setCell_other _ _ F _ (by show F ≠ w.heap.size; have := HF2.out; omega)))
    have hkf2 := hkf.trans ((HGb.out.block F HLd.out (by intro e; have := HF2.out; injection e with e; omega)).trans HKd.out)
    have hB : Below w.heap.size w wb := HB1.out.grown HGB.out HB1.out.size (fun k e => by cases e; exact Nat.le_succ _)
    have hbl := bl_set3 hB (g := w.heap.size) (Nat.le_refl _) (.int .i64 1) (.int .i64 4) (.slice a2 rs2.length k2)
    obtain ⟨z0, z1, z2, y0, y1, y2⟩ := cell3 hz
    clear hkf hz hB
    refine wpAnyH_ready (rs := [5]) (by kernel_rfl) (by simp) ?_
    refine AllReadyH.cons rfl (fun K hK => ?_) AllReadyH.nil
    go_simp
    clear z0 z1 z2 y0 y1 y2
    generalize ((wb.setCell ⟨w.heap.size, 0, none⟩ (.int .i64 1)).setCell ⟨w.heap.size, 1, none⟩ (.int .i64 4)).setCell ⟨w.heap.size, 2, none⟩ (.slice a2 rs2.length k2) = wz at hkz hkf2 hbl HO ⊢
    have HBL := Lib.hid hbl
    obtain ⟨c0, c1, c2, f0, f1, f2⟩ := cell3 hkf2
    refine hK.out _ _ (⟨c0, c1, c2⟩) (fun hHeld => ?_)
    clear hK K
    try simp only [Act.put]
    refine take1 (i := 6) (v := ?v9) (some 3) rfl rfl (by kernel_rfl) (by kernel_rfl) (by kernel_rfl) (fun _ _ _ h => h) (Or.inl ⟨by rfl, ?y9⟩) (by assumption) ?r9
    case y9 => (intro w hSw; (try dsimp only at hSw); go_simp; (first | done | with_reducible rfl))
    try simp only [Act.put, List.setIfInBounds_toArray, List.set_cons_zero, List.set_cons_succ]
    refine take1 (i := 7) (v := ?v10) (some 4) rfl rfl (by kernel_rfl) (by kernel_rfl) (by kernel_rfl) (fun _ _ _ h => h) (Or.inl ⟨by rfl, ?y10⟩) (by assumption) ?r10
    case y10 => (intro w hSw; (try dsimp only at hSw); go_simp; (first | done | with_reducible rfl))
    try simp only [Act.put, List.setIfInBounds_toArray, List.set_cons_zero, List.set_cons_succ]
    refine wpAnyH_done (by kernel_rfl) ?_ _
    have hkz2 : wz.heap[w.heap.size]? = some (.cells #[.int .i64 1, .int .i64 4, .slice a2 rs2.length k2] 42 (0, 0)) := hkz
    obtain ⟨z0, z1, z2, y0, y1, y2⟩ := cell3 hkz2
    clear hkz hkz2 hkf2 hbl c0 c1 c2 f0 f1 f2
    go_wp2_with fail
    exact bodyPost_ret (v := .tuple #[.agg #[.int .i64 1, .int .i64 4, .slice a2 rs2.length k2], .int .i64 x, .int .i64 y]) (by simp [results, Try.results30, go_sem, z0, z1, z2]) rfl ⟨⟨_, _, _, rs2, _, _, rfl, RodsR.of_own HO.out, (by omega), HX.out, HY.out⟩, HBL.out⟩
end Go.Proofs.Ythmbehknacjodaa
