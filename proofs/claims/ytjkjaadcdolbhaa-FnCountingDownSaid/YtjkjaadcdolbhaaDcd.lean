/- The draws of counting down and of how often. -/
import Derived.Test.YtjkjaadcdolbhaaKh
import Derived.Test.YtjkjaadcdolbhaaKg
import Derived.Test.YtjkjaadcdolbhaaKa
import Derived.Test.YtjkjaadcdolbhaaMad2
import Derived.Test.YtjkjaadcdolbhaaMade
namespace Go.Proofs.Ytjkjaadcdolbhaa
set_option linter.unusedVariables false
open Go.RowKit
set_option linter.unusedSimpArgs false

set_option maxRecDepth 100000 in
set_option maxHeartbeats 3200000 in
theorem drawHowOften_any (cd : Value) (L : List UInt8) (w : World) (h : SlR w cd (L.map fun c => .int .u8 (c.toNat : Int))) :
    Calls Try.prog 34 #[cd] w fun e w' => (∃ (up lo : Int) (sv : Value) (rs : List (Int × Int)) (z : Int), e = .returned (.tuple #[.agg #[.int .i64 up, .int .i64 lo, sv], .int .i64 z]) ∧ RodsR w' sv rs ∧ rs.length ≤ 20 ∧ -9223372036854775808 ≤ z ∧ z ≤ 9223372036854775807) ∧ Below w.heap.size w w' := by
  obtain ⟨ad, cp, rfl⟩ : ∃ a c, cd = .slice a L.length c := by obtain ⟨a, c, e, _⟩ := h; exact ⟨a, c, by rw [e, List.length_map]⟩
  have hT : (Lit.int .u64 0).wf = true := by decide
  obtain ⟨W0, hW0⟩ : ∃ W0, w.alloc (.cells #[.int .i64 0, .int .i64 0, .slice none 0 0] 26) = W0 := ⟨_, rfl⟩
  have hb0 : Below w.heap.size w W0 := by rw [← hW0]; exact (Below.refl _ w).alloc (Nat.le_refl _) _
  have hz0 : W0.heap[w.heap.size]? = some (.cells #[.int .i64 0, .int .i64 0, .slice none 0 0] 26 (0, 0)) := by rw [← hW0]; exact alloc_at rfl
  have hs0 : W0.heap.size = w.heap.size + 1 := by rw [← hW0]; simp
  have HN := Lib.hid (code_new (h.below hb0 (Nat.le_refl _)))
  obtain ⟨W1, hW1⟩ : ∃ W1, W0.alloc (.cells #[.slice ad L.length cp, .int .i64 0, .int .u64 0] 61) = W1 := ⟨_, rfl⟩
  have hc1 : CurAt W1 W0.heap.size (.slice ad L.length cp) 0 := ⟨0, 0, _, Nat.le_refl _, Lib.hid hT, by rw [← hW1]; exact alloc_at rfl⟩
  have hr1 : CodeR W1 W0.heap.size (.slice ad L.length cp) L := by rw [← hW1]; exact HN.out _
  have hb1 : Below W0.heap.size W0 W1 := by rw [← hW1]; exact (Below.refl _ W0).alloc (Nat.le_refl _) _
  have hz1 := (hb1.block _ (by omega)).trans hz0
  have hs1 : W1.heap.size = w.heap.size + 2 := by rw [← hW1]; simp; omega
  rw [hs0] at hc1 hr1
  have HA := Lib.hid (standard_any (w.heap.size + 1) _ L 0 W1 (by omega) hc1 hr1)
  have HB1 : Hid (Below w.heap.size w W1) := Lib.hid (hb0.trans (hb1.mono (by omega)))
  have HZ1 := Lib.hid hz1
  have HR1 := Lib.hid hr1
  have HS1 := Lib.hid hs1
  have hW1' : W0.alloc (.cells #[.slice ad L.length cp, .int .i64 0, .int .u64 0] 61) = W1 := hW1
  clear hc1 hr1 hb1 hb0 hz0 hz1 h HN hW1 hs1
  go_enter Try.func34, Try.ntmps34
  go_wp2_with fail
  try rw [hW0]
  try rw [hW1']
  refine (HA.out).mono ?_
  rintro e w2 ⟨⟨up, lo, sv, rs, rfl, ho, hl⟩, hc2, hg2⟩
  obtain ⟨a, c, rfl⟩ : ∃ a c, sv = .slice a rs.length c := by obtain ⟨a, c, e, _⟩ := RodsR.of_own ho; exact ⟨a, c, e⟩
  have HO2 := Lib.hid ho
  have HG2 := Lib.hid hg2
  have HC2 := Lib.hid hc2
  have HRX : Hid (∀ wi, W1.grownBy wi (some (w.heap.size + 1)) → CodeR wi (w.heap.size + 1) (.slice ad L.length cp) L) := Lib.hid (fun wi hg => HR1.out.grown hg)
  have HS2 : Hid (w.heap.size + 2 ≤ w2.heap.size) := Lib.hid (by have := hg2.size; have := HS1.out; omega)
  clear ho hc2 hg2
  have hal := grown_alloc w2 (.cells ([1, 2, 7, 10, 99, 1000, 0, -1, 4000000000].map (Value.int .i64)).toArray 3) none
  have HNh : Hid (w2.heap.size ≠ w.heap.size + 1) := Lib.hid (by have := HS2.out; omega)
  have HAMh := Lib.hid (among_any (w.heap.size + 1) (.slice ad L.length cp) L (0 + 300) (.slice (some ⟨w2.heap.size, 0, none⟩) 9 9) [1, 2, 7, 10, 99, 1000, 0, -1, 4000000000] (w2.alloc (.cells ([1, 2, 7, 10, 99, 1000, 0, -1, 4000000000].map (Value.int .i64)).toArray 3)) (by omega) (by decide) (slr_lit w2 ([1, 2, 7, 10, 99, 1000, 0, -1, 4000000000].map (Value.int .i64)) 3 (by decide)) (fun a m c e => by cases e; exact HNh.out) (HC2.out.old hal) (HRX.out w2 HG2.out |>.grown (grown_any hal)))
  have HGL := Lib.hid (grown_trans HG2.out (grown_any (r := some (w.heap.size + 1)) hal))
  have HOL := Lib.hid (HO2.out.alloc (.cells ([1, 2, 7, 10, 99, 1000, 0, -1, 4000000000].map (Value.int .i64)).toArray 3))
  clear hal
  go_wp2_with fail
  refine (HAMh.out).mono ?_
  rintro e w3 ⟨⟨x, rfl, hx⟩, hc, hg⟩
  have HX : Hid (-1 ≤ x ∧ x ≤ 4000000000) := Lib.hid (by simp only [List.mem_cons, List.not_mem_nil, or_false] at hx; omega)
  have HG3 := Lib.hid (grown_trans HGL.out hg)
  have HO3 := Lib.hid (own_grown HOL.out hg (by have := HS1.out; omega))
  have hz3 := (HG3.out.block w.heap.size (by have := HS1.out; omega) (by intro e; injection e with e; omega)).trans HZ1.out
  have HZ3 := Lib.hid hz3
  have HB := Lib.hid (HB1.out.grown HG3.out HB1.out.size (fun k e => by cases e; exact Nat.le_succ _))
  obtain ⟨z0, z1, z2, y0, y1, y2⟩ := cell3 hz3
  have HO := Lib.hid (own_set3 HO3.out (g := w.heap.size) (by have := HS1.out; omega) (.int .i64 up) (.int .i64 lo) (.slice a rs.length c))
  clear hz3 hx hc hg
  go_wp2_with fail
  exact bodyPost_ret (v := .tuple #[.agg #[.int .i64 up, .int .i64 lo, .slice a rs.length c], .int .i64 x]) (by simp [results, Try.results34, go_sem, z0, z1, z2]) rfl ⟨⟨_, _, _, rs, _, rfl, RodsR.of_own HO.out, hl, by have := HX.out; omega, by have := HX.out; omega⟩, bl_set3 HB.out (g := w.heap.size) (Nat.le_refl _) _ _ _⟩

set_option maxRecDepth 100000 in
set_option maxHeartbeats 3200000 in
theorem drawCountDown_any (cd : Value) (L : List UInt8) (w : World) (h : SlR w cd (L.map fun c => .int .u8 (c.toNat : Int))) :
    Calls Try.prog 29 #[cd] w fun e w' => (∃ (up lo : Int) (sv : Value) (rs : List (Int × Int)) (z : Int), e = .returned (.tuple #[.agg #[.int .i64 up, .int .i64 lo, sv], .int .i64 z]) ∧ RodsR w' sv rs ∧ rs.length ≤ 20 ∧ -9223372036854775808 ≤ z ∧ z ≤ 9223372036854775807) ∧ Below w.heap.size w w' := by
  obtain ⟨ad, cp, rfl⟩ : ∃ a c, cd = .slice a L.length c := by obtain ⟨a, c, e, _⟩ := h; exact ⟨a, c, by rw [e, List.length_map]⟩
  have hT : (Lit.int .u64 0).wf = true := by decide
  obtain ⟨W0, hW0⟩ : ∃ W0, w.alloc (.cells #[.int .i64 0, .int .i64 0, .slice none 0 0] 26) = W0 := ⟨_, rfl⟩
  have hb0 : Below w.heap.size w W0 := by rw [← hW0]; exact (Below.refl _ w).alloc (Nat.le_refl _) _
  have hz0 : W0.heap[w.heap.size]? = some (.cells #[.int .i64 0, .int .i64 0, .slice none 0 0] 26 (0, 0)) := by rw [← hW0]; exact alloc_at rfl
  have hs0 : W0.heap.size = w.heap.size + 1 := by rw [← hW0]; simp
  have HN := Lib.hid (code_new (h.below hb0 (Nat.le_refl _)))
  obtain ⟨W1, hW1⟩ : ∃ W1, W0.alloc (.cells #[.slice ad L.length cp, .int .i64 0, .int .u64 0] 61) = W1 := ⟨_, rfl⟩
  have hc1 : CurAt W1 W0.heap.size (.slice ad L.length cp) 0 := ⟨0, 0, _, Nat.le_refl _, Lib.hid hT, by rw [← hW1]; exact alloc_at rfl⟩
  have hr1 : CodeR W1 W0.heap.size (.slice ad L.length cp) L := by rw [← hW1]; exact HN.out _
  have hb1 : Below W0.heap.size W0 W1 := by rw [← hW1]; exact (Below.refl _ W0).alloc (Nat.le_refl _) _
  have hz1 := (hb1.block _ (by omega)).trans hz0
  have hs1 : W1.heap.size = w.heap.size + 2 := by rw [← hW1]; simp; omega
  rw [hs0] at hc1 hr1
  have HA := Lib.hid (standard_any (w.heap.size + 1) _ L 0 W1 (by omega) hc1 hr1)
  have HB1 : Hid (Below w.heap.size w W1) := Lib.hid (hb0.trans (hb1.mono (by omega)))
  have HZ1 := Lib.hid hz1
  have HR1 := Lib.hid hr1
  have HS1 := Lib.hid hs1
  have hW1' : W0.alloc (.cells #[.slice ad L.length cp, .int .i64 0, .int .u64 0] 61) = W1 := hW1
  clear hc1 hr1 hb1 hb0 hz0 hz1 h HN hW1 hs1
  go_enter Try.func29, Try.ntmps29
  go_wp2_with fail
  try rw [hW0]
  try rw [hW1']
  refine (HA.out).mono ?_
  rintro e w2 ⟨⟨up, lo, sv, rs, rfl, ho, hl⟩, hc2, hg2⟩
  obtain ⟨a, c, rfl⟩ : ∃ a c, sv = .slice a rs.length c := by obtain ⟨a, c, e, _⟩ := RodsR.of_own ho; exact ⟨a, c, e⟩
  have hga := grown_alloc w2 (.cells #[.int .i64 up, .int .i64 lo, .slice a rs.length c] 26) none
  have HG3 := Lib.hid (grown_trans hg2 (grown_any (r := some (w.heap.size + 1)) hga))
  have HC3 := Lib.hid (hc2.old hga)
  have hkF : (w2.alloc (.cells #[.int .i64 up, .int .i64 lo, .slice a rs.length c] 26)).heap[w2.heap.size]? = some (.cells #[.int .i64 up, .int .i64 lo, .slice a rs.length c] 26 (0, 0)) := alloc_at rfl
  have HKF := Lib.hid hkF
  have HO3 := Lib.hid (ho.alloc (.cells #[.int .i64 up, .int .i64 lo, .slice a rs.length c] 26))
  have HF2 : Hid (w.heap.size + 2 ≤ w2.heap.size) := Lib.hid (by have := hg2.size; have := HS1.out; omega)
  have hlF : w2.heap.size < (w2.alloc (.cells #[.int .i64 up, .int .i64 lo, .slice a rs.length c] 26)).heap.size := lt_of_block hkF
  have HLF := Lib.hid hlF
  clear hc2 hg2 hga hkF ho hlF
  go_wp2_with fail
  try generalize w2.alloc (.cells #[.int .i64 up, .int .i64 lo, .slice a rs.length c] 26) = w3 at HG3 HC3 HKF HO3 HLF ⊢
  generalize w2.heap.size = F at HKF HF2 HLF ⊢
  have HCL : Hid (∀ wi, w3.grownBy wi (some (w.heap.size + 1)) → wi.cell? ⟨F, 0, none⟩ = some (.int .i64 up) ∧ wi.cell? ⟨F, 1, none⟩ = some (.int .i64 lo) ∧ wi.cell? ⟨F, 2, none⟩ = some (.slice a rs.length c)) := Lib.hid (fun wi hg => by
    obtain ⟨c0, c1, c2, f0, f1, f2⟩ := cell3 ((hg.block F HLF.out (by intro e; have := HF2.out; injection e with e; omega)).trans HKF.out)
    exact ⟨c0, c1, c2⟩)
  have HZ3 : Hid (w3.heap[w.heap.size]? = some (.cells #[.int .i64 0, .int .i64 0, .slice none 0 0] 26 (0, 0))) := Lib.hid ((HG3.out.block w.heap.size (by have := HS1.out; omega) (by intro e; injection e with e; omega)).trans HZ1.out)
  have HRX : Hid (∀ wi, w3.grownBy wi (some (w.heap.size + 1)) → CodeR wi (w.heap.size + 1) (.slice ad L.length cp) L) := Lib.hid (fun wi hg => HR1.out.grown (grown_trans HG3.out hg))
  have HSW : Hid (w.heap.size + 2 ≤ w3.heap.size) := Lib.hid (by have := HG3.out.size; have := HS1.out; omega)
  obtain ⟨c0, c1, c2⟩ := HCL.out w3 (grown_any (World.grownBy.refl w3 none))
  have hlF := HLF.out
  obtain ⟨b, hb⟩ : ∃ b : Bool, (b = true ↔ goodF up lo rs ∧ stdF rs) := by
    by_cases h : goodF up lo rs ∧ stdF rs
    · exact ⟨true, ⟨fun _ => h, fun _ => rfl⟩⟩
    · exact ⟨false, ⟨fun e => (by cases e), fun e => absurd e h⟩⟩
  refine (l2Std_any up lo _ rs w3 (RodsR.of_own HO3.out) b hb).mono ?_
  rintro e w4 ⟨rfl, hb4⟩
  have hn4 : w3.grownBy w4 none := ⟨hb4.os, hb4.tape, hb4.output, hb4.size, fun k hk _ => hb4.block k hk⟩
  have HG4 := Lib.hid (grown_any (r := some (w.heap.size + 1)) hn4)
  have HC4 := Lib.hid (HC3.out.old hn4)
  clear hn4 hb4 c0 c1 c2 hlF
  cases b with
  | false =>
    obtain ⟨c0, c1, c2⟩ := HCL.out w4 HG4.out
    clear hb
    go_wp2_with fail
    clear c0 c1 c2
    obtain ⟨c0, c1, c2⟩ := HCL.out w4 HG4.out
    refine wp_region_held_drew (S := (fun u => u.cell? ⟨F, 0, none⟩ = some (.int .i64 up) ∧ u.cell? ⟨F, 1, none⟩ = some (.int .i64 lo) ∧ u.cell? ⟨F, 2, none⟩ = some (.slice a rs.length c))) (by kernel_rfl) (⟨c0, c1, c2⟩) (fun hHeld => ?_)
    have HGd : Hid (w3.grownBy w4.drew (some (w.heap.size + 1))) := Lib.hid (grown_trans HG4.out (grown_drewN w4 1 (some (w.heap.size + 1))))
    have HCd : Hid (CurAt w4.drew (w.heap.size + 1) (.slice ad L.length cp) (0 + 300)) := Lib.hid (HC4.out.old (grown_drewN w4 1 none))
    generalize w4.drew = wd at HGd HCd hHeld ⊢
    clear c0 c1 c2
    refine take1 (i := 0) (v := ?v1) (some 26) rfl rfl (by kernel_rfl) (by kernel_rfl) (by kernel_rfl) (fun _ _ _ h => h) (Or.inl ⟨by rfl, ?y1⟩) (by assumption) ?r1
    case y1 => (intro w hSw; (try dsimp only at hSw); go_simp; (first | done | with_reducible rfl))
    try simp only [Act.put, List.setIfInBounds_toArray, List.set_cons_zero, List.set_cons_succ]
    refine take1 (i := 1) (v := ?v2) (some 27) rfl rfl (by kernel_rfl) (by kernel_rfl) (by kernel_rfl) (fun _ _ _ h => h) (Or.inl ⟨by rfl, ?y2⟩) (by assumption) ?r2
    case y2 => (intro w hSw; (try dsimp only at hSw); go_simp; (first | done | with_reducible rfl))
    try simp only [Act.put, List.setIfInBounds_toArray, List.set_cons_zero, List.set_cons_succ]
    refine wpAnyH_ready (rs := [2]) (by kernel_rfl) (by simp) ?_
    refine AllReadyH.cons rfl (fun K hK => ?_) AllReadyH.nil
    go_simp
    have hal := grown_alloc wd (.cells ([1, 3, 10, 100, 0, -1].map (Value.int .i64)).toArray 3) none
    have hnl : wd.heap.size ≠ w.heap.size + 1 := by have := HGd.out.size; have := HSW.out; omega
    have HLI : Hid (SlR (wd.alloc (.cells ([1, 3, 10, 100, 0, -1].map (Value.int .i64)).toArray 3)) (.slice (some ⟨wd.heap.size, 0, none⟩) 6 6) ([1, 3, 10, 100, 0, -1].map (Value.int .i64))) := Lib.hid (slr_lit wd ([1, 3, 10, 100, 0, -1].map (Value.int .i64)) 3 (by decide))
    have HGl := Lib.hid (grown_trans HGd.out (grown_any (r := some (w.heap.size + 1)) hal))
    have HCl := Lib.hid (HCd.out.old hal)
    change Hid (SlR (wd.alloc (.cells #[.int .i64 1, .int .i64 3, .int .i64 10, .int .i64 100, .int .i64 0, .int .i64 (-1)] 3)) _ _) at HLI
    change Hid (World.grownBy w3 (wd.alloc (.cells #[.int .i64 1, .int .i64 3, .int .i64 10, .int .i64 100, .int .i64 0, .int .i64 (-1)] 3)) _) at HGl
    change Hid (CurAt (wd.alloc (.cells #[.int .i64 1, .int .i64 3, .int .i64 10, .int .i64 100, .int .i64 0, .int .i64 (-1)] 3)) _ _ _) at HCl
    generalize wd.alloc (.cells #[.int .i64 1, .int .i64 3, .int .i64 10, .int .i64 100, .int .i64 0, .int .i64 (-1)] 3) = wl at HLI HGl HCl ⊢
    generalize wd.heap.size = LB at HLI hnl ⊢
    have HNL := Lib.hid hnl
    clear hal hnl
    refine hK.out _ _ ((HCL.out _ HGl.out)) (fun hHeld => ?_)
    clear hK K
    try simp only [Act.put, List.setIfInBounds_toArray, List.set_cons_zero, List.set_cons_succ]
    refine wpAnyH_ready (rs := [3]) (by kernel_rfl) (by simp) ?_
    refine AllReadyH.cons rfl (fun K hK => ?_) AllReadyH.nil
    go_simp
    go_at_call 77
    refine (among_any (w.heap.size + 1) (.slice ad L.length cp) L (0 + 300) (.slice (some ⟨LB, 0, none⟩) 6 6) [1, 3, 10, 100, 0, -1] wl (by omega) (by decide) HLI.out (fun a m c e => by cases e; exact HNL.out) HCl.out (HRX.out wl HGl.out)).mono ?_
    rintro e wa ⟨⟨x, rfl, hx⟩, hc, hg⟩
    have HGa := Lib.hid (grown_trans HGl.out hg)
    clear hc hg
    have HX : Hid (-1 ≤ x ∧ x ≤ 100) := Lib.hid (by simp only [List.mem_cons, List.not_mem_nil, or_false] at hx; omega)
    clear hx
    refine hK.out _ _ ((HCL.out _ HGa.out)) (fun hHeld => ?_)
    clear hK K
    try simp only [Act.put, List.setIfInBounds_toArray, List.set_cons_zero, List.set_cons_succ]
    have hz := (HGa.out.block w.heap.size (by have := HSW.out; omega) (by intro e; injection e with e; omega)).trans HZ3.out
    have HO := Lib.hid (own_set3 (own_grown HO3.out HGa.out (by have := HS1.out; omega)) (g := w.heap.size) (by have := HS1.out; omega) (.int .i64 up) (.int .i64 lo) (.slice a rs.length c))
    have hkz := heap_setCell_same _ w.heap.size 2 _ _ (.slice a rs.length c) (heap_setCell_same _ w.heap.size 1 _ _ (.int .i64 lo) (heap_setCell_same wa w.heap.size 0 _ _ (.int .i64 up) hz))
    have hkf : (((wa.setCell ⟨w.heap.size, 0, none⟩ (.int .i64 up)).setCell ⟨w.heap.size, 1, none⟩ (.int .i64 lo)).setCell ⟨w.heap.size, 2, none⟩ (.slice a rs.length c)).heap[F]? = wa.heap[F]? := (heap_setCell_other _ _ F _ (by show F ≠ w.heap.size; have := HF2.out; omega)).trans ((heap_setCell_other _ _ F _ (by show F ≠ w.heap.size; have := HF2.out; omega)).trans (heap_setCell_other _ _ F _ (by show F ≠ w.heap.size; have := HF2.out; omega)))
    have hkf2 := hkf.trans ((HGa.out.block F HLF.out (by intro e; have := HF2.out; injection e with e; omega)).trans HKF.out)
    have hB : Below w.heap.size w wa := HB1.out.grown (grown_trans HG3.out HGa.out) HB1.out.size (fun k e => by cases e; exact Nat.le_succ _)
    have hbl := bl_set3 hB (g := w.heap.size) (Nat.le_refl _) (.int .i64 up) (.int .i64 lo) (.slice a rs.length c)
    obtain ⟨z0, z1, z2, y0, y1, y2⟩ := cell3 hz
    clear hkf hz hB
    refine wpAnyH_ready (rs := [4]) (by kernel_rfl) (by simp) ?_
    refine AllReadyH.cons rfl (fun K hK => ?_) AllReadyH.nil
    go_simp
    clear z0 z1 z2 y0 y1 y2
    generalize ((wa.setCell ⟨w.heap.size, 0, none⟩ (.int .i64 up)).setCell ⟨w.heap.size, 1, none⟩ (.int .i64 lo)).setCell ⟨w.heap.size, 2, none⟩ (.slice a rs.length c) = wz at hkz hkf2 hbl HO ⊢
    have HBL := Lib.hid hbl
    obtain ⟨c0, c1, c2, f0, f1, f2⟩ := cell3 hkf2
    refine hK.out _ _ (⟨c0, c1, c2⟩) (fun hHeld => ?_)
    clear hK K
    try simp only [Act.put]
    refine take1 (i := 5) (v := ?v3) (some 3) rfl rfl (by kernel_rfl) (by kernel_rfl) (by kernel_rfl) (fun _ _ _ h => h) (Or.inl ⟨by rfl, ?y3⟩) (by assumption) ?r3
    case y3 => (intro w hSw; (try dsimp only at hSw); go_simp; (first | done | with_reducible rfl))
    try simp only [Act.put, List.setIfInBounds_toArray, List.set_cons_zero, List.set_cons_succ]
    refine wpAnyH_done (by kernel_rfl) ?_ _
    have hkz2 : wz.heap[w.heap.size]? = some (.cells #[.int .i64 up, .int .i64 lo, .slice a rs.length c] 26 (0, 0)) := hkz
    obtain ⟨z0, z1, z2, y0, y1, y2⟩ := cell3 hkz2
    clear hkz hkz2 hkf2 hbl c0 c1 c2 f0 f1 f2
    go_wp2_with fail
    exact bodyPost_ret (v := .tuple #[.agg #[.int .i64 up, .int .i64 lo, .slice a rs.length c], .int .i64 x]) (by simp [results, Try.results29, go_sem, z0, z1, z2]) rfl ⟨⟨_, _, _, rs, _, rfl, RodsR.of_own HO.out, hl, by have := HX.out; omega, by have := HX.out; omega⟩, HBL.out⟩
  | true =>
    have HGF := Lib.hid (hb.1 rfl).1
    clear hb
    obtain ⟨c0, c1, c2⟩ := HCL.out w4 HG4.out
    go_wp2_with fail
    clear c0 c1 c2
    refine (one_any (w.heap.size + 1) _ L (0 + 300) 3 w4 (by omega) ⟨by omega, by omega⟩ HC4.out (HRX.out w4 HG4.out)).mono ?_
    rintro e w5 ⟨⟨b2, rfl⟩, hc5, hg5⟩
    have HG5 := Lib.hid (grown_trans HG4.out hg5)
    have HC5 := Lib.hid hc5
    clear hc5 hg5
    cases b2 with
    | true =>
      obtain ⟨c0, c1, c2⟩ := HCL.out w5 HG5.out
      go_wp2_with fail
      clear c0 c1 c2
      obtain ⟨c0, c1, c2⟩ := HCL.out w5 HG5.out
      refine wp_region_held_drew (S := (fun u => u.cell? ⟨F, 0, none⟩ = some (.int .i64 up) ∧ u.cell? ⟨F, 1, none⟩ = some (.int .i64 lo) ∧ u.cell? ⟨F, 2, none⟩ = some (.slice a rs.length c))) (by kernel_rfl) (⟨c0, c1, c2⟩) (fun hHeld => ?_)
      have HGd : Hid (w3.grownBy w5.drew (some (w.heap.size + 1))) := Lib.hid (grown_trans HG5.out (grown_drewN w5 1 (some (w.heap.size + 1))))
      have HCd : Hid (CurAt w5.drew (w.heap.size + 1) (.slice ad L.length cp) (0 + 300 + 2)) := Lib.hid (HC5.out.old (grown_drewN w5 1 none))
      generalize w5.drew = wd at HGd HCd hHeld ⊢
      clear c0 c1 c2
      refine take1 (i := 0) (v := ?v4) (some 26) rfl rfl (by kernel_rfl) (by kernel_rfl) (by kernel_rfl) (fun _ _ _ h => h) (Or.inl ⟨by rfl, ?y4⟩) (by assumption) ?r4
      case y4 => (intro w hSw; (try dsimp only at hSw); go_simp; (first | done | with_reducible rfl))
      try simp only [Act.put, List.setIfInBounds_toArray, List.set_cons_zero, List.set_cons_succ]
      refine take1 (i := 1) (v := ?v5) (some 27) rfl rfl (by kernel_rfl) (by kernel_rfl) (by kernel_rfl) (fun _ _ _ h => h) (Or.inl ⟨by rfl, ?y5⟩) (by assumption) ?r5
      case y5 => (intro w hSw; (try dsimp only at hSw); go_simp; (first | done | with_reducible rfl))
      try simp only [Act.put, List.setIfInBounds_toArray, List.set_cons_zero, List.set_cons_succ]
      refine wpAnyH_ready (rs := [2]) (by kernel_rfl) (by simp) ?_
      refine AllReadyH.cons rfl (fun K hK => ?_) AllReadyH.nil
      go_simp
      have hal := grown_alloc wd (.cells ([1, 3, 10, 100, 0, -1].map (Value.int .i64)).toArray 3) none
      have hnl : wd.heap.size ≠ w.heap.size + 1 := by have := HGd.out.size; have := HSW.out; omega
      have HLI : Hid (SlR (wd.alloc (.cells ([1, 3, 10, 100, 0, -1].map (Value.int .i64)).toArray 3)) (.slice (some ⟨wd.heap.size, 0, none⟩) 6 6) ([1, 3, 10, 100, 0, -1].map (Value.int .i64))) := Lib.hid (slr_lit wd ([1, 3, 10, 100, 0, -1].map (Value.int .i64)) 3 (by decide))
      have HGl := Lib.hid (grown_trans HGd.out (grown_any (r := some (w.heap.size + 1)) hal))
      have HCl := Lib.hid (HCd.out.old hal)
      change Hid (SlR (wd.alloc (.cells #[.int .i64 1, .int .i64 3, .int .i64 10, .int .i64 100, .int .i64 0, .int .i64 (-1)] 3)) _ _) at HLI
      change Hid (World.grownBy w3 (wd.alloc (.cells #[.int .i64 1, .int .i64 3, .int .i64 10, .int .i64 100, .int .i64 0, .int .i64 (-1)] 3)) _) at HGl
      change Hid (CurAt (wd.alloc (.cells #[.int .i64 1, .int .i64 3, .int .i64 10, .int .i64 100, .int .i64 0, .int .i64 (-1)] 3)) _ _ _) at HCl
      generalize wd.alloc (.cells #[.int .i64 1, .int .i64 3, .int .i64 10, .int .i64 100, .int .i64 0, .int .i64 (-1)] 3) = wl at HLI HGl HCl ⊢
      generalize wd.heap.size = LB at HLI hnl ⊢
      have HNL := Lib.hid hnl
      clear hal hnl
      refine hK.out _ _ ((HCL.out _ HGl.out)) (fun hHeld => ?_)
      clear hK K
      try simp only [Act.put, List.setIfInBounds_toArray, List.set_cons_zero, List.set_cons_succ]
      refine wpAnyH_ready (rs := [3]) (by kernel_rfl) (by simp) ?_
      refine AllReadyH.cons rfl (fun K hK => ?_) AllReadyH.nil
      go_simp
      go_at_call 77
      refine (among_any (w.heap.size + 1) (.slice ad L.length cp) L (0 + 300 + 2) (.slice (some ⟨LB, 0, none⟩) 6 6) [1, 3, 10, 100, 0, -1] wl (by omega) (by decide) HLI.out (fun a m c e => by cases e; exact HNL.out) HCl.out (HRX.out wl HGl.out)).mono ?_
      rintro e wa ⟨⟨x, rfl, hx⟩, hc, hg⟩
      have HGa := Lib.hid (grown_trans HGl.out hg)
      clear hc hg
      have HX : Hid (-1 ≤ x ∧ x ≤ 100) := Lib.hid (by simp only [List.mem_cons, List.not_mem_nil, or_false] at hx; omega)
      clear hx
      refine hK.out _ _ ((HCL.out _ HGa.out)) (fun hHeld => ?_)
      clear hK K
      try simp only [Act.put, List.setIfInBounds_toArray, List.set_cons_zero, List.set_cons_succ]
      have hz := (HGa.out.block w.heap.size (by have := HSW.out; omega) (by intro e; injection e with e; omega)).trans HZ3.out
      have HO := Lib.hid (own_set3 (own_grown HO3.out HGa.out (by have := HS1.out; omega)) (g := w.heap.size) (by have := HS1.out; omega) (.int .i64 up) (.int .i64 lo) (.slice a rs.length c))
      have hkz := heap_setCell_same _ w.heap.size 2 _ _ (.slice a rs.length c) (heap_setCell_same _ w.heap.size 1 _ _ (.int .i64 lo) (heap_setCell_same wa w.heap.size 0 _ _ (.int .i64 up) hz))
      have hkf : (((wa.setCell ⟨w.heap.size, 0, none⟩ (.int .i64 up)).setCell ⟨w.heap.size, 1, none⟩ (.int .i64 lo)).setCell ⟨w.heap.size, 2, none⟩ (.slice a rs.length c)).heap[F]? = wa.heap[F]? := (heap_setCell_other _ _ F _ (by show F ≠ w.heap.size; have := HF2.out; omega)).trans ((heap_setCell_other _ _ F _ (by show F ≠ w.heap.size; have := HF2.out; omega)).trans (heap_setCell_other _ _ F _ (by show F ≠ w.heap.size; have := HF2.out; omega)))
      have hkf2 := hkf.trans ((HGa.out.block F HLF.out (by intro e; have := HF2.out; injection e with e; omega)).trans HKF.out)
      have hB : Below w.heap.size w wa := HB1.out.grown (grown_trans HG3.out HGa.out) HB1.out.size (fun k e => by cases e; exact Nat.le_succ _)
      have hbl := bl_set3 hB (g := w.heap.size) (Nat.le_refl _) (.int .i64 up) (.int .i64 lo) (.slice a rs.length c)
      obtain ⟨z0, z1, z2, y0, y1, y2⟩ := cell3 hz
      clear hkf hz hB
      refine wpAnyH_ready (rs := [4]) (by kernel_rfl) (by simp) ?_
      refine AllReadyH.cons rfl (fun K hK => ?_) AllReadyH.nil
      go_simp
      clear z0 z1 z2 y0 y1 y2
      generalize ((wa.setCell ⟨w.heap.size, 0, none⟩ (.int .i64 up)).setCell ⟨w.heap.size, 1, none⟩ (.int .i64 lo)).setCell ⟨w.heap.size, 2, none⟩ (.slice a rs.length c) = wz at hkz hkf2 hbl HO ⊢
      have HBL := Lib.hid hbl
      obtain ⟨c0, c1, c2, f0, f1, f2⟩ := cell3 hkf2
      refine hK.out _ _ (⟨c0, c1, c2⟩) (fun hHeld => ?_)
      clear hK K
      try simp only [Act.put]
      refine take1 (i := 5) (v := ?v6) (some 3) rfl rfl (by kernel_rfl) (by kernel_rfl) (by kernel_rfl) (fun _ _ _ h => h) (Or.inl ⟨by rfl, ?y6⟩) (by assumption) ?r6
      case y6 => (intro w hSw; (try dsimp only at hSw); go_simp; (first | done | with_reducible rfl))
      try simp only [Act.put, List.setIfInBounds_toArray, List.set_cons_zero, List.set_cons_succ]
      refine wpAnyH_done (by kernel_rfl) ?_ _
      have hkz2 : wz.heap[w.heap.size]? = some (.cells #[.int .i64 up, .int .i64 lo, .slice a rs.length c] 26 (0, 0)) := hkz
      obtain ⟨z0, z1, z2, y0, y1, y2⟩ := cell3 hkz2
      clear hkz hkz2 hkf2 hbl c0 c1 c2 f0 f1 f2
      go_wp2_with fail
      exact bodyPost_ret (v := .tuple #[.agg #[.int .i64 up, .int .i64 lo, .slice a rs.length c], .int .i64 x]) (by simp [results, Try.results29, go_sem, z0, z1, z2]) rfl ⟨⟨_, _, _, rs, _, rfl, RodsR.of_own HO.out, hl, by have := HX.out; omega, by have := HX.out; omega⟩, HBL.out⟩
    | false =>
      obtain ⟨N, hN⟩ : ∃ N, numF rs = N := ⟨_, rfl⟩
      have hNb := numF_top up lo rs HGF.out
      rw [hN] at hNb
      have HNE := Lib.hid hN
      have HNB := Lib.hid hNb
      clear hN hNb
      obtain ⟨c0, c1, c2⟩ := HCL.out w5 HG5.out
      go_wp2_with fail
      clear c0 c1 c2
      obtain ⟨c0, c1, c2⟩ := HCL.out w5 HG5.out
      refine wp_region_held_drew (S := (fun u => u.cell? ⟨F, 0, none⟩ = some (.int .i64 up) ∧ u.cell? ⟨F, 1, none⟩ = some (.int .i64 lo) ∧ u.cell? ⟨F, 2, none⟩ = some (.slice a rs.length c))) (by kernel_rfl) (⟨c0, c1, c2⟩) (fun hHeld => ?_)
      have HGd : Hid (w3.grownBy w5.drew (some (w.heap.size + 1))) := Lib.hid (grown_trans HG5.out (grown_drewN w5 1 (some (w.heap.size + 1))))
      have HCd : Hid (CurAt w5.drew (w.heap.size + 1) (.slice ad L.length cp) (0 + 300 + 2)) := Lib.hid (HC5.out.old (grown_drewN w5 1 none))
      generalize w5.drew = wd at HGd HCd hHeld ⊢
      clear c0 c1 c2
      refine take1 (i := 0) (v := ?v7) (some 18) rfl rfl (by kernel_rfl) (by kernel_rfl) (by kernel_rfl) (fun _ _ _ h => h) (Or.inl ⟨by rfl, ?y7⟩) (by assumption) ?r7
      case y7 => (intro w hSw; (try dsimp only at hSw); go_simp; (first | done | with_reducible rfl))
      try simp only [Act.put, List.setIfInBounds_toArray, List.set_cons_zero, List.set_cons_succ]
      refine take1 (i := 1) (v := ?v8) (some 19) rfl rfl (by kernel_rfl) (by kernel_rfl) (by kernel_rfl) (fun _ _ _ h => h) (Or.inl ⟨by rfl, ?y8⟩) (by assumption) ?r8
      case y8 => (intro w hSw; (try dsimp only at hSw); go_simp; (first | done | with_reducible rfl))
      try simp only [Act.put, List.setIfInBounds_toArray, List.set_cons_zero, List.set_cons_succ]
      refine take1 (i := 3) (v := ?v9) (some 21) rfl rfl (by kernel_rfl) (by kernel_rfl) (by kernel_rfl) (fun _ _ _ h => h) (Or.inl ⟨by rfl, ?y9⟩) (by assumption) ?r9
      case y9 => (intro w hSw; (try dsimp only at hSw); go_simp; (first | done | with_reducible rfl))
      try simp only [Act.put, List.setIfInBounds_toArray, List.set_cons_zero, List.set_cons_succ]
      refine wpAnyH_ready (rs := [2, 4]) (by kernel_rfl) (by simp) ?_
      refine AllReadyH.cons rfl (fun K hK => ?_) (AllReadyH.cons rfl (fun K hK => ?_) AllReadyH.nil)
      · go_simp
        go_at_call 76
        refine (l2Number_good up lo _ rs wd (RodsR.of_own (own_grown HO3.out HGd.out (by have := HS1.out; omega))) HGF.out).mono ?_
        rintro e wn ⟨rfl, hb⟩
        have hnn : wd.grownBy wn none := ⟨hb.os, hb.tape, hb.output, hb.size, fun k hk _ => hb.block k hk⟩
        have HGn := Lib.hid (grown_trans HGd.out (grown_any (r := some (w.heap.size + 1)) hnn))
        have HCn := Lib.hid (HCd.out.old hnn)
        rw [HNE.out]
        clear hb hnn
        try go_simp
        refine hK.out _ _ ((HCL.out _ HGn.out)) (fun hHeld => ?_)
        clear hK K
        try simp only [Act.put, List.setIfInBounds_toArray, List.set_cons_zero, List.set_cons_succ]
        refine wpAnyH_ready (rs := [4]) (by kernel_rfl) (by simp) ?_
        refine AllReadyH.cons rfl (fun K hK => ?_) AllReadyH.nil
        go_simp
        have hal := grown_alloc wn (.cells ([1, 2, 5, 12, 50, 51].map (Value.int .i64)).toArray 3) none
        have hnl : wn.heap.size ≠ w.heap.size + 1 := by have := HGn.out.size; have := HSW.out; omega
        have HLI : Hid (SlR (wn.alloc (.cells ([1, 2, 5, 12, 50, 51].map (Value.int .i64)).toArray 3)) (.slice (some ⟨wn.heap.size, 0, none⟩) 6 6) ([1, 2, 5, 12, 50, 51].map (Value.int .i64))) := Lib.hid (slr_lit wn ([1, 2, 5, 12, 50, 51].map (Value.int .i64)) 3 (by decide))
        have HGl := Lib.hid (grown_trans HGn.out (grown_any (r := some (w.heap.size + 1)) hal))
        have HCl := Lib.hid (HCn.out.old hal)
        change Hid (SlR (wn.alloc (.cells #[.int .i64 1, .int .i64 2, .int .i64 5, .int .i64 12, .int .i64 50, .int .i64 51] 3)) _ _) at HLI
        change Hid (World.grownBy w3 (wn.alloc (.cells #[.int .i64 1, .int .i64 2, .int .i64 5, .int .i64 12, .int .i64 50, .int .i64 51] 3)) _) at HGl
        change Hid (CurAt (wn.alloc (.cells #[.int .i64 1, .int .i64 2, .int .i64 5, .int .i64 12, .int .i64 50, .int .i64 51] 3)) _ _ _) at HCl
        generalize wn.alloc (.cells #[.int .i64 1, .int .i64 2, .int .i64 5, .int .i64 12, .int .i64 50, .int .i64 51] 3) = wl at HLI HGl HCl ⊢
        generalize wn.heap.size = LB at HLI hnl ⊢
        have HNL := Lib.hid hnl
        clear hal hnl
        refine hK.out _ _ ((HCL.out _ HGl.out)) (fun hHeld => ?_)
        clear hK K
        try simp only [Act.put, List.setIfInBounds_toArray, List.set_cons_zero, List.set_cons_succ]
        refine wpAnyH_ready (rs := [5]) (by kernel_rfl) (by simp) ?_
        refine AllReadyH.cons rfl (fun K hK => ?_) AllReadyH.nil
        go_simp
        go_at_call 77
        refine (among_any (w.heap.size + 1) (.slice ad L.length cp) L (0 + 300 + 2) (.slice (some ⟨LB, 0, none⟩) 6 6) [1, 2, 5, 12, 50, 51] wl (by omega) (by decide) HLI.out (fun a m c e => by cases e; exact HNL.out) HCl.out (HRX.out wl HGl.out)).mono ?_
        rintro e wa ⟨⟨x, rfl, hx⟩, hc, hg⟩
        have HGa := Lib.hid (grown_trans HGl.out hg)
        clear hc hg
        have hxb : 1 ≤ x ∧ x ≤ 51 := by simp only [List.mem_cons, List.not_mem_nil, or_false] at hx; omega
        obtain ⟨T, hT⟩ : ∃ T, IntKind.i64.wrap (N.tdiv x) = T := ⟨_, rfl⟩
        have hdv : 0 ≤ N / x ∧ N / x ≤ N := ⟨Int.ediv_nonneg HNB.out.1 (by omega), Int.ediv_le_self _ HNB.out.1⟩
        have hTb : 0 ≤ T ∧ T ≤ 200000000 := by rw [← hT, Int.tdiv_eq_ediv_of_nonneg HNB.out.1, IntKind.wrap_i64]; have := HNB.out; omega
        have hw : IntKind.i64.wrap (1 + T) = 1 + T := by rw [IntKind.wrap_i64]; omega
        have y3 : (x == 0) = false := beq_eq_false_iff_ne.2 (by omega)
        have y4 : x ≠ 0 := by omega
        clear hx hdv hxb
        try go_simp
        refine hK.out _ _ ((HCL.out _ HGa.out)) (fun hHeld => ?_)
        clear hK K
        try simp only [Act.put, List.setIfInBounds_toArray, List.set_cons_zero, List.set_cons_succ]
        refine take1 (i := 6) (v := ?v10) (some 24) rfl rfl (by kernel_rfl) (by kernel_rfl) (by kernel_rfl) (fun _ _ _ h => h) (Or.inl ⟨by rfl, ?y10⟩) (by assumption) ?r10
        case y10 => (intro w hSw; (try dsimp only at hSw); go_simp; (first | done | with_reducible rfl))
        try simp only [Act.put, List.setIfInBounds_toArray, List.set_cons_zero, List.set_cons_succ]
        refine take1 (i := 7) (v := ?v11) (some 25) rfl rfl (by kernel_rfl) (by kernel_rfl) (by kernel_rfl) (fun _ _ _ h => h) (Or.inl ⟨by rfl, ?y11⟩) (by assumption) ?r11
        case y11 => (intro w hSw; (try dsimp only at hSw); go_simp; (first | done | with_reducible rfl))
        try simp only [Act.put, List.setIfInBounds_toArray, List.set_cons_zero, List.set_cons_succ]
        have hz := (HGa.out.block w.heap.size (by have := HSW.out; omega) (by intro e; injection e with e; omega)).trans HZ3.out
        have HO := Lib.hid (own_set3 (own_grown HO3.out HGa.out (by have := HS1.out; omega)) (g := w.heap.size) (by have := HS1.out; omega) (.int .i64 up) (.int .i64 lo) (.slice a rs.length c))
        have hkz := heap_setCell_same _ w.heap.size 2 _ _ (.slice a rs.length c) (heap_setCell_same _ w.heap.size 1 _ _ (.int .i64 lo) (heap_setCell_same wa w.heap.size 0 _ _ (.int .i64 up) hz))
        have hkf : (((wa.setCell ⟨w.heap.size, 0, none⟩ (.int .i64 up)).setCell ⟨w.heap.size, 1, none⟩ (.int .i64 lo)).setCell ⟨w.heap.size, 2, none⟩ (.slice a rs.length c)).heap[F]? = wa.heap[F]? := (heap_setCell_other _ _ F _ (by show F ≠ w.heap.size; have := HF2.out; omega)).trans ((heap_setCell_other _ _ F _ (by show F ≠ w.heap.size; have := HF2.out; omega)).trans (heap_setCell_other _ _ F _ (by show F ≠ w.heap.size; have := HF2.out; omega)))
        have hkf2 := hkf.trans ((HGa.out.block F HLF.out (by intro e; have := HF2.out; injection e with e; omega)).trans HKF.out)
        have hB : Below w.heap.size w wa := HB1.out.grown (grown_trans HG3.out HGa.out) HB1.out.size (fun k e => by cases e; exact Nat.le_succ _)
        have hbl := bl_set3 hB (g := w.heap.size) (Nat.le_refl _) (.int .i64 up) (.int .i64 lo) (.slice a rs.length c)
        obtain ⟨z0, z1, z2, y0, y1, y2⟩ := cell3 hz
        clear hkf hz hB
        refine wpAnyH_ready (rs := [8]) (by kernel_rfl) (by simp) ?_
        refine AllReadyH.cons rfl (fun K hK => ?_) AllReadyH.nil
        go_simp
        clear z0 z1 z2 y0 y1 y2
        generalize ((wa.setCell ⟨w.heap.size, 0, none⟩ (.int .i64 up)).setCell ⟨w.heap.size, 1, none⟩ (.int .i64 lo)).setCell ⟨w.heap.size, 2, none⟩ (.slice a rs.length c) = wz at hkz hkf2 hbl HO ⊢
        have HBL := Lib.hid hbl
        obtain ⟨c0, c1, c2, f0, f1, f2⟩ := cell3 hkf2
        refine hK.out _ _ (⟨c0, c1, c2⟩) (fun hHeld => ?_)
        clear hK K
        try simp only [Act.put]
        refine take1 (i := 9) (v := ?v12) (some 3) rfl rfl (by kernel_rfl) (by kernel_rfl) (by kernel_rfl) (fun _ _ _ h => h) (Or.inl ⟨by rfl, ?y12⟩) (by assumption) ?r12
        case y12 => (intro w hSw; (try dsimp only at hSw); go_simp; (first | done | with_reducible rfl))
        try simp only [Act.put, List.setIfInBounds_toArray, List.set_cons_zero, List.set_cons_succ]
        refine wpAnyH_done (by kernel_rfl) ?_ _
        have hkz2 : wz.heap[w.heap.size]? = some (.cells #[.int .i64 up, .int .i64 lo, .slice a rs.length c] 26 (0, 0)) := hkz
        obtain ⟨z0, z1, z2, y0, y1, y2⟩ := cell3 hkz2
        clear hkz hkz2 hkf2 hbl c0 c1 c2 f0 f1 f2
        go_wp2_with fail
        exact bodyPost_ret (v := .tuple #[.agg #[.int .i64 up, .int .i64 lo, .slice a rs.length c], .int .i64 (1 + T)]) (by simp [results, Try.results29, go_sem, z0, z1, z2]) rfl ⟨⟨_, _, _, rs, _, rfl, RodsR.of_own HO.out, hl, by omega, by omega⟩, HBL.out⟩
      · go_simp
        have hal := grown_alloc wd (.cells ([1, 2, 5, 12, 50, 51].map (Value.int .i64)).toArray 3) none
        have hnl : wd.heap.size ≠ w.heap.size + 1 := by have := HGd.out.size; have := HSW.out; omega
        have HLI : Hid (SlR (wd.alloc (.cells ([1, 2, 5, 12, 50, 51].map (Value.int .i64)).toArray 3)) (.slice (some ⟨wd.heap.size, 0, none⟩) 6 6) ([1, 2, 5, 12, 50, 51].map (Value.int .i64))) := Lib.hid (slr_lit wd ([1, 2, 5, 12, 50, 51].map (Value.int .i64)) 3 (by decide))
        have HGl := Lib.hid (grown_trans HGd.out (grown_any (r := some (w.heap.size + 1)) hal))
        have HCl := Lib.hid (HCd.out.old hal)
        change Hid (SlR (wd.alloc (.cells #[.int .i64 1, .int .i64 2, .int .i64 5, .int .i64 12, .int .i64 50, .int .i64 51] 3)) _ _) at HLI
        change Hid (World.grownBy w3 (wd.alloc (.cells #[.int .i64 1, .int .i64 2, .int .i64 5, .int .i64 12, .int .i64 50, .int .i64 51] 3)) _) at HGl
        change Hid (CurAt (wd.alloc (.cells #[.int .i64 1, .int .i64 2, .int .i64 5, .int .i64 12, .int .i64 50, .int .i64 51] 3)) _ _ _) at HCl
        generalize wd.alloc (.cells #[.int .i64 1, .int .i64 2, .int .i64 5, .int .i64 12, .int .i64 50, .int .i64 51] 3) = wl at HLI HGl HCl ⊢
        generalize wd.heap.size = LB at HLI hnl ⊢
        have HNL := Lib.hid hnl
        clear hal hnl
        refine hK.out _ _ ((HCL.out _ HGl.out)) (fun hHeld => ?_)
        clear hK K
        try simp only [Act.put, List.setIfInBounds_toArray, List.set_cons_zero, List.set_cons_succ]
        refine wpAnyH_ready (rs := [2]) (by kernel_rfl) (by simp) ?_
        refine AllReadyH.cons rfl (fun K hK => ?_) AllReadyH.nil
        go_simp
        go_at_call 76
        refine (l2Number_good up lo _ rs wl (RodsR.of_own (own_grown HO3.out HGl.out (by have := HS1.out; omega))) HGF.out).mono ?_
        rintro e wn ⟨rfl, hb⟩
        have hnn : wl.grownBy wn none := ⟨hb.os, hb.tape, hb.output, hb.size, fun k hk _ => hb.block k hk⟩
        have HGn := Lib.hid (grown_trans HGl.out (grown_any (r := some (w.heap.size + 1)) hnn))
        have HCn := Lib.hid (HCl.out.old hnn)
        have HLI := Lib.hid (HLI.out.below hb (Nat.le_refl _))
        rw [HNE.out]
        clear hb hnn
        try go_simp
        refine hK.out _ _ ((HCL.out _ HGn.out)) (fun hHeld => ?_)
        clear hK K
        try simp only [Act.put, List.setIfInBounds_toArray, List.set_cons_zero, List.set_cons_succ]
        refine wpAnyH_ready (rs := [5]) (by kernel_rfl) (by simp) ?_
        refine AllReadyH.cons rfl (fun K hK => ?_) AllReadyH.nil
        go_simp
        go_at_call 77
        refine (among_any (w.heap.size + 1) (.slice ad L.length cp) L (0 + 300 + 2) (.slice (some ⟨LB, 0, none⟩) 6 6) [1, 2, 5, 12, 50, 51] wn (by omega) (by decide) HLI.out (fun a m c e => by cases e; exact HNL.out) HCn.out (HRX.out wn HGn.out)).mono ?_
        rintro e wa ⟨⟨x, rfl, hx⟩, hc, hg⟩
        have HGa := Lib.hid (grown_trans HGn.out hg)
        clear hc hg
        have hxb : 1 ≤ x ∧ x ≤ 51 := by simp only [List.mem_cons, List.not_mem_nil, or_false] at hx; omega
        obtain ⟨T, hT⟩ : ∃ T, IntKind.i64.wrap (N.tdiv x) = T := ⟨_, rfl⟩
        have hdv : 0 ≤ N / x ∧ N / x ≤ N := ⟨Int.ediv_nonneg HNB.out.1 (by omega), Int.ediv_le_self _ HNB.out.1⟩
        have hTb : 0 ≤ T ∧ T ≤ 200000000 := by rw [← hT, Int.tdiv_eq_ediv_of_nonneg HNB.out.1, IntKind.wrap_i64]; have := HNB.out; omega
        have hw : IntKind.i64.wrap (1 + T) = 1 + T := by rw [IntKind.wrap_i64]; omega
        have y3 : (x == 0) = false := beq_eq_false_iff_ne.2 (by omega)
        have y4 : x ≠ 0 := by omega
        clear hx hdv hxb
        try go_simp
        refine hK.out _ _ ((HCL.out _ HGa.out)) (fun hHeld => ?_)
        clear hK K
        try simp only [Act.put, List.setIfInBounds_toArray, List.set_cons_zero, List.set_cons_succ]
        refine take1 (i := 6) (v := ?v13) (some 24) rfl rfl (by kernel_rfl) (by kernel_rfl) (by kernel_rfl) (fun _ _ _ h => h) (Or.inl ⟨by rfl, ?y13⟩) (by assumption) ?r13
        case y13 => (intro w hSw; (try dsimp only at hSw); go_simp; (first | done | with_reducible rfl))
        try simp only [Act.put, List.setIfInBounds_toArray, List.set_cons_zero, List.set_cons_succ]
        refine take1 (i := 7) (v := ?v14) (some 25) rfl rfl (by kernel_rfl) (by kernel_rfl) (by kernel_rfl) (fun _ _ _ h => h) (Or.inl ⟨by rfl, ?y14⟩) (by assumption) ?r14
        case y14 => (intro w hSw; (try dsimp only at hSw); go_simp; (first | done | with_reducible rfl))
        try simp only [Act.put, List.setIfInBounds_toArray, List.set_cons_zero, List.set_cons_succ]
        have hz := (HGa.out.block w.heap.size (by have := HSW.out; omega) (by intro e; injection e with e; omega)).trans HZ3.out
        have HO := Lib.hid (own_set3 (own_grown HO3.out HGa.out (by have := HS1.out; omega)) (g := w.heap.size) (by have := HS1.out; omega) (.int .i64 up) (.int .i64 lo) (.slice a rs.length c))
        have hkz := heap_setCell_same _ w.heap.size 2 _ _ (.slice a rs.length c) (heap_setCell_same _ w.heap.size 1 _ _ (.int .i64 lo) (heap_setCell_same wa w.heap.size 0 _ _ (.int .i64 up) hz))
        have hkf : (((wa.setCell ⟨w.heap.size, 0, none⟩ (.int .i64 up)).setCell ⟨w.heap.size, 1, none⟩ (.int .i64 lo)).setCell ⟨w.heap.size, 2, none⟩ (.slice a rs.length c)).heap[F]? = wa.heap[F]? := (heap_setCell_other _ _ F _ (by show F ≠ w.heap.size; have := HF2.out; omega)).trans ((heap_setCell_other _ _ F _ (by show F ≠ w.heap.size; have := HF2.out; omega)).trans (heap_setCell_other _ _ F _ (by show F ≠ w.heap.size; have := HF2.out; omega)))
        have hkf2 := hkf.trans ((HGa.out.block F HLF.out (by intro e; have := HF2.out; injection e with e; omega)).trans HKF.out)
        have hB : Below w.heap.size w wa := HB1.out.grown (grown_trans HG3.out HGa.out) HB1.out.size (fun k e => by cases e; exact Nat.le_succ _)
        have hbl := bl_set3 hB (g := w.heap.size) (Nat.le_refl _) (.int .i64 up) (.int .i64 lo) (.slice a rs.length c)
        obtain ⟨z0, z1, z2, y0, y1, y2⟩ := cell3 hz
        clear hkf hz hB
        refine wpAnyH_ready (rs := [8]) (by kernel_rfl) (by simp) ?_
        refine AllReadyH.cons rfl (fun K hK => ?_) AllReadyH.nil
        go_simp
        clear z0 z1 z2 y0 y1 y2
        generalize ((wa.setCell ⟨w.heap.size, 0, none⟩ (.int .i64 up)).setCell ⟨w.heap.size, 1, none⟩ (.int .i64 lo)).setCell ⟨w.heap.size, 2, none⟩ (.slice a rs.length c) = wz at hkz hkf2 hbl HO ⊢
        have HBL := Lib.hid hbl
        obtain ⟨c0, c1, c2, f0, f1, f2⟩ := cell3 hkf2
        refine hK.out _ _ (⟨c0, c1, c2⟩) (fun hHeld => ?_)
        clear hK K
        try simp only [Act.put]
        refine take1 (i := 9) (v := ?v15) (some 3) rfl rfl (by kernel_rfl) (by kernel_rfl) (by kernel_rfl) (fun _ _ _ h => h) (Or.inl ⟨by rfl, ?y15⟩) (by assumption) ?r15
        case y15 => (intro w hSw; (try dsimp only at hSw); go_simp; (first | done | with_reducible rfl))
        try simp only [Act.put, List.setIfInBounds_toArray, List.set_cons_zero, List.set_cons_succ]
        refine wpAnyH_done (by kernel_rfl) ?_ _
        have hkz2 : wz.heap[w.heap.size]? = some (.cells #[.int .i64 up, .int .i64 lo, .slice a rs.length c] 26 (0, 0)) := hkz
        obtain ⟨z0, z1, z2, y0, y1, y2⟩ := cell3 hkz2
        clear hkz hkz2 hkf2 hbl c0 c1 c2 f0 f1 f2
        go_wp2_with fail
        exact bodyPost_ret (v := .tuple #[.agg #[.int .i64 up, .int .i64 lo, .slice a rs.length c], .int .i64 (1 + T)]) (by simp [results, Try.results29, go_sem, z0, z1, z2]) rfl ⟨⟨_, _, _, rs, _, rfl, RodsR.of_own HO.out, hl, by omega, by omega⟩, HBL.out⟩
end Go.Proofs.Ytjkjaadcdolbhaa
