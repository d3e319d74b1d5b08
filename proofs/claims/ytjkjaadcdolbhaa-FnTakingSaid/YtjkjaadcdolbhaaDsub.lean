/- The number to take, drawn; a frame and a number to take. -/
import Derived.Test.YtjkjaadcdolbhaaKh
import Derived.Test.YtjkjaadcdolbhaaKg
import Derived.Test.YtjkjaadcdolbhaaKa
import Derived.Test.YtjkjaadcdolbhaaMade
import Derived.Test.YtjkjaadcdolbhaaKx
namespace Go.Proofs.Ytjkjaadcdolbhaa
set_option linter.unusedVariables false
open Go.RowKit
set_option linter.unusedSimpArgs false

set_option maxRecDepth 100000 in
set_option maxHeartbeats 3200000 in
theorem subtrahend_any (cb : Nat) (cd : Value) (L : List UInt8) (n B : Nat) (up lo : Int) (a : Option Addr) (cp : Nat) (rs : List (Int × Int)) (w : World) (hl : rs.length ≤ 20) (hn : n < 4611686018427300000) (ho : w.ownsRow B 83 2 (.slice a rs.length cp) rs.length (flat rs)) (hB : cb < B) (hc : CurAt w cb cd n) (hr : CodeR w cb cd L) :
    Calls Try.prog 61 #[.pointer (some ⟨cb, 0, none⟩), .agg #[.int .i64 up, .int .i64 lo, .slice a rs.length cp]] w fun e w' => (∃ z : Int, e = .returned (.int .i64 z) ∧ -9223372036854775808 ≤ z ∧ z ≤ 9223372036854775807) ∧ CurAt w' cb cd (n + 30) ∧ w.grownBy w' (some cb) := by
  have hcb := hc.lt
  have hga := grown_alloc w (.cells #[.int .i64 up, .int .i64 lo, .slice a rs.length cp] 26) none
  have HG1 := Lib.hid (grown_any (r := some cb) hga)
  have HC1 := Lib.hid (hc.old hga)
  have HR := Lib.hid hr
  have HO1 := Lib.hid (ho.alloc (.cells #[.int .i64 up, .int .i64 lo, .slice a rs.length cp] 26))
  have hk1 : (w.alloc (.cells #[.int .i64 up, .int .i64 lo, .slice a rs.length cp] 26)).heap[w.heap.size]? = some (.cells #[.int .i64 up, .int .i64 lo, .slice a rs.length cp] 26 (0, 0)) := alloc_at rfl
  have HK1 := Lib.hid hk1
  clear hga hc hr ho
  go_enter Try.func61, Try.ntmps61
  go_wp2_with fail
  generalize w.alloc (.cells #[.int .i64 up, .int .i64 lo, .slice a rs.length cp] 26) = w1 at HG1 HC1 HO1 HK1 hk1 ⊢
  clear hk1
  by_cases hgd : goodF up lo rs
  · have HGD := Lib.hid hgd
    refine (l2Good_yes up lo _ rs w1 (RodsR.of_own HO1.out) hgd).mono ?_
    rintro e w2 ⟨rfl, hb⟩
    have hn2 : w1.grownBy w2 none := ⟨hb.os, hb.tape, hb.output, hb.size, fun k hk _ => hb.block k hk⟩
    have HG2 := Lib.hid (grown_trans HG1.out (grown_any hn2))
    have HC2 := Lib.hid (HC1.out.old hn2)
    have HO2 := Lib.hid (own_grown HO1.out (grown_any (r := some cb) hn2) hB)
    have hk2 := (hn2.block w.heap.size (Array.getElem?_eq_some_iff.1 HK1.out).1 (by simp)).trans HK1.out
    obtain ⟨c0, c1, c2, f0, f1, f2⟩ := cell3 hk2
    have hN := numF_top up lo rs hgd
    clear hn2 hb hk2 hgd
    go_wp2_with fail
    refine (l2Number_good up lo _ rs w2 (RodsR.of_own HO2.out) HGD.out).mono ?_
    rintro e w3 ⟨rfl, hb3⟩
    have hn3 : w2.grownBy w3 none := ⟨hb3.os, hb3.tape, hb3.output, hb3.size, fun k hk _ => hb3.block k hk⟩
    have HG3 := Lib.hid (grown_trans HG2.out (grown_any hn3))
    have HC3 := Lib.hid (HC2.out.old hn3)
    clear hn3 hb3 c0 c1 c2 f0 f1 f2
    generalize numF rs = N at hN ⊢
    obtain ⟨hN0, hN1⟩ := hN
    have hw1 : IntKind.i64.wrap (N + 1) = N + 1 := by rw [IntKind.wrap_i64]; omega
    have hNz : N + 1 ≠ 0 := by omega
    go_wp2_with fail
    refine (pick_any cb cd L n 8 w3 (by omega) (by omega) (by omega) HC3.out (HR.out.grown HG3.out)).mono ?_
    rintro e wp ⟨⟨r, rfl, r0, r1⟩, hc, hg⟩
    have HCp := Lib.hid hc
    have HGp := Lib.hid (grown_trans HG3.out hg)
    clear hc hg
    by_cases e0 : r = 0
    · subst e0
      go_wp2_with fail
      refine (pick_any cb cd L (n + 2) 2 wp (by omega) (by omega) (by omega) HCp.out (HR.out.grown HGp.out)).mono ?_
      rintro e wq ⟨⟨s, rfl, s0, s1⟩, hc, hg⟩
      have HCq := Lib.hid hc
      have HGq := Lib.hid (grown_trans HGp.out hg)
      clear hc hg
      have hws : IntKind.i64.wrap (N + s) = N + s := by rw [IntKind.wrap_i64]; omega
      go_wp2_with fail
      go_ret
      exact ⟨⟨_, rfl, by omega, by omega⟩, HCq.out.more (by omega), HGq.out⟩
    · have h1 : (r == 0) = false := beq_eq_false_iff_ne.2 e0
      have h2 : decide (r = 0) = false := decide_eq_false e0
      by_cases e1 : r = 1
      · subst e1
        have hal := grown_alloc wp (.cells ([-1, 0, 1].map (Value.int .i64)).toArray 3) none
        have HNx : Hid (wp.heap.size ≠ cb) := Lib.hid (by have := HGp.out.size; omega)
        have HAMx := Lib.hid (among_any cb cd L (n + 2) (.slice (some ⟨wp.heap.size, 0, none⟩) 3 3) [-1, 0, 1] (wp.alloc (.cells ([-1, 0, 1].map (Value.int .i64)).toArray 3)) (by omega) (by decide) (slr_lit wp ([-1, 0, 1].map (Value.int .i64)) 3 (by decide)) (fun a m c e => by cases e; exact HNx.out) (HCp.out.old hal) (HR.out.grown (grown_trans HGp.out (grown_any hal))))
        have HGLx := Lib.hid (grown_trans HGp.out (grown_any (r := some cb) hal))
        clear hal
        go_wp2_with fail
        refine (HAMx.out).mono ?_
        rintro e wx ⟨⟨x, rfl, hx⟩, hc, hg⟩
        have HCx := Lib.hid hc
        have HGx := Lib.hid (grown_trans HGLx.out hg)
        clear hc hg
        have HZ : Hid (-1 ≤ x ∧ x ≤ 1) := Lib.hid (by simp only [List.mem_cons, List.not_mem_nil, or_false] at hx; omega)
        clear hx
        go_wp2_with fail
        go_ret
        exact ⟨⟨_, rfl, by have := HZ.out; omega, by have := HZ.out; omega⟩, HCx.out.more (by omega), HGx.out⟩
      · have h3 : (r == 1) = false := beq_eq_false_iff_ne.2 e1
        have h4 : decide (r = 1) = false := decide_eq_false e1
        have hal := grown_alloc wp (.cells ([0, 1, 7, 9, 19, 36, 99, 108, 555, 1999, 48, 64, 3].map (Value.int .i64)).toArray 3) none
        have HNx : Hid (wp.heap.size ≠ cb) := Lib.hid (by have := HGp.out.size; omega)
        have HAMx := Lib.hid (among_any cb cd L (n + 2) (.slice (some ⟨wp.heap.size, 0, none⟩) 13 13) [0, 1, 7, 9, 19, 36, 99, 108, 555, 1999, 48, 64, 3] (wp.alloc (.cells ([0, 1, 7, 9, 19, 36, 99, 108, 555, 1999, 48, 64, 3].map (Value.int .i64)).toArray 3)) (by omega) (by decide) (slr_lit wp ([0, 1, 7, 9, 19, 36, 99, 108, 555, 1999, 48, 64, 3].map (Value.int .i64)) 3 (by decide)) (fun a m c e => by cases e; exact HNx.out) (HCp.out.old hal) (HR.out.grown (grown_trans HGp.out (grown_any hal))))
        have HGLx := Lib.hid (grown_trans HGp.out (grown_any (r := some cb) hal))
        clear hal
        go_wp2_with fail
        refine (HAMx.out).mono ?_
        rintro e wx ⟨⟨x, rfl, hx⟩, hc, hg⟩
        have HCx := Lib.hid hc
        have HGx := Lib.hid (grown_trans HGLx.out hg)
        clear hc hg
        have hx0 : 0 ≤ x ∧ x ≤ 1999 := by simp only [List.mem_cons, List.not_mem_nil, or_false] at hx; omega
        have HXT : Hid (-9223372036854775808 ≤ x.tmod (N + 1) ∧ x.tmod (N + 1) ≤ 9223372036854775807) := Lib.hid (by
          rw [Int.tmod_eq_emod_of_nonneg hx0.1]
          have h1 := Int.emod_nonneg x (b := N + 1) (by omega)
          have h2 := Int.emod_lt_of_pos x (b := N + 1) (by omega)
          omega)
        clear hx hx0
        go_wp2_with fail
        go_ret
        exact ⟨⟨_, rfl, by first | exact HXT.out.1 | omega, by first | exact HXT.out.2 | omega⟩, HCx.out.more (by omega), HGx.out⟩
  · refine (l2Good_no up lo _ rs w1 (RodsR.of_own HO1.out) hgd).mono ?_
    rintro e w2 ⟨rfl, hb⟩
    have hn2 : w1.grownBy w2 none := ⟨hb.os, hb.tape, hb.output, hb.size, fun k hk _ => hb.block k hk⟩
    have HG2 := Lib.hid (grown_trans HG1.out (grown_any hn2))
    have HC2 := Lib.hid (HC1.out.old hn2)
    clear hn2 hb hgd
    obtain ⟨N, hN⟩ : ∃ N : Int, 0 = N := ⟨_, rfl⟩
    have hN0 : 0 ≤ N := by omega
    have hN1 : N ≤ 200000000 := by omega
    subst hN
    skip
    have hNz : (0 : Int) + 1 ≠ 0 := by omega
    go_wp2_with fail
    refine (pick_any cb cd L n 8 w2 (by omega) (by omega) (by omega) HC2.out (HR.out.grown HG2.out)).mono ?_
    rintro e wp ⟨⟨r, rfl, r0, r1⟩, hc, hg⟩
    have HCp := Lib.hid hc
    have HGp := Lib.hid (grown_trans HG2.out hg)
    clear hc hg
    by_cases e0 : r = 0
    · subst e0
      go_wp2_with fail
      refine (pick_any cb cd L (n + 2) 2 wp (by omega) (by omega) (by omega) HCp.out (HR.out.grown HGp.out)).mono ?_
      rintro e wq ⟨⟨s, rfl, s0, s1⟩, hc, hg⟩
      have HCq := Lib.hid hc
      have HGq := Lib.hid (grown_trans HGp.out hg)
      clear hc hg
      have hws : IntKind.i64.wrap ((0 : Int) + s) = (0 : Int) + s := by rw [IntKind.wrap_i64]; omega
      go_wp2_with fail
      go_ret
      exact ⟨⟨_, rfl, by omega, by omega⟩, HCq.out.more (by omega), HGq.out⟩
    · have h1 : (r == 0) = false := beq_eq_false_iff_ne.2 e0
      have h2 : decide (r = 0) = false := decide_eq_false e0
      by_cases e1 : r = 1
      · subst e1
        have hal := grown_alloc wp (.cells ([-1, 0, 1].map (Value.int .i64)).toArray 3) none
        have HNx : Hid (wp.heap.size ≠ cb) := Lib.hid (by have := HGp.out.size; omega)
        have HAMx := Lib.hid (among_any cb cd L (n + 2) (.slice (some ⟨wp.heap.size, 0, none⟩) 3 3) [-1, 0, 1] (wp.alloc (.cells ([-1, 0, 1].map (Value.int .i64)).toArray 3)) (by omega) (by decide) (slr_lit wp ([-1, 0, 1].map (Value.int .i64)) 3 (by decide)) (fun a m c e => by cases e; exact HNx.out) (HCp.out.old hal) (HR.out.grown (grown_trans HGp.out (grown_any hal))))
        have HGLx := Lib.hid (grown_trans HGp.out (grown_any (r := some cb) hal))
        clear hal
        go_wp2_with fail
        refine (HAMx.out).mono ?_
        rintro e wx ⟨⟨x, rfl, hx⟩, hc, hg⟩
        have HCx := Lib.hid hc
        have HGx := Lib.hid (grown_trans HGLx.out hg)
        clear hc hg
        have HZ : Hid (-1 ≤ x ∧ x ≤ 1) := Lib.hid (by simp only [List.mem_cons, List.not_mem_nil, or_false] at hx; omega)
        clear hx
        go_wp2_with fail
        go_ret
        exact ⟨⟨_, rfl, by have := HZ.out; omega, by have := HZ.out; omega⟩, HCx.out.more (by omega), HGx.out⟩
      · have h3 : (r == 1) = false := beq_eq_false_iff_ne.2 e1
        have h4 : decide (r = 1) = false := decide_eq_false e1
        have hal := grown_alloc wp (.cells ([0, 1, 7, 9, 19, 36, 99, 108, 555, 1999, 48, 64, 3].map (Value.int .i64)).toArray 3) none
        have HNx : Hid (wp.heap.size ≠ cb) := Lib.hid (by have := HGp.out.size; omega)
        have HAMx := Lib.hid (among_any cb cd L (n + 2) (.slice (some ⟨wp.heap.size, 0, none⟩) 13 13) [0, 1, 7, 9, 19, 36, 99, 108, 555, 1999, 48, 64, 3] (wp.alloc (.cells ([0, 1, 7, 9, 19, 36, 99, 108, 555, 1999, 48, 64, 3].map (Value.int .i64)).toArray 3)) (by omega) (by decide) (slr_lit wp ([0, 1, 7, 9, 19, 36, 99, 108, 555, 1999, 48, 64, 3].map (Value.int .i64)) 3 (by decide)) (fun a m c e => by cases e; exact HNx.out) (HCp.out.old hal) (HR.out.grown (grown_trans HGp.out (grown_any hal))))
        have HGLx := Lib.hid (grown_trans HGp.out (grown_any (r := some cb) hal))
        clear hal
        go_wp2_with fail
        refine (HAMx.out).mono ?_
        rintro e wx ⟨⟨x, rfl, hx⟩, hc, hg⟩
        have HCx := Lib.hid hc
        have HGx := Lib.hid (grown_trans HGLx.out hg)
        clear hc hg
        have hx0 : 0 ≤ x ∧ x ≤ 1999 := by simp only [List.mem_cons, List.not_mem_nil, or_false] at hx; omega
        have HXT : Hid (-9223372036854775808 ≤ x.tmod ((0 : Int) + 1) ∧ x.tmod ((0 : Int) + 1) ≤ 9223372036854775807) := Lib.hid (by
          rw [Int.tmod_eq_emod_of_nonneg hx0.1]
          have h1 := Int.emod_nonneg x (b := (0 : Int) + 1) (by omega)
          have h2 := Int.emod_lt_of_pos x (b := (0 : Int) + 1) (by omega)
          omega)
        clear hx hx0
        go_wp2_with fail
        go_ret
        exact ⟨⟨_, rfl, by first | exact HXT.out.1 | omega, by first | exact HXT.out.2 | omega⟩, HCx.out.more (by omega), HGx.out⟩

set_option maxRecDepth 100000 in
set_option maxHeartbeats 1600000 in
theorem drawTakeNumber_any (cd : Value) (L : List UInt8) (w : World) (h : SlR w cd (L.map fun c => .int .u8 (c.toNat : Int))) :
    Calls Try.prog 10 #[cd] w fun e w' => (∃ (up lo : Int) (sv : Value) (rs : List (Int × Int)) (z : Int), e = .returned (.tuple #[.agg #[.int .i64 up, .int .i64 lo, sv], .int .i64 z]) ∧ RodsR w' sv rs ∧ rs.length ≤ 20 ∧ -9223372036854775808 ≤ z ∧ z ≤ 9223372036854775807) ∧ Below w.heap.size w w' := by
  obtain ⟨ad, cp, rfl⟩ : ∃ a c, cd = .slice a L.length c := by obtain ⟨a, c, e, _⟩ := h; exact ⟨a, c, by rw [e, List.length_map]⟩
  have hT : (Lit.int .u64 0).wf = true := by decide
  obtain ⟨W0, hW0⟩ : ∃ W0, w.alloc (.cells #[.int .i64 0, .int .i64 0, .slice none 0 0] 26) = W0 := ⟨_, rfl⟩
  have hb0 : Below w.heap.size w W0 := by rw [← hW0]; exact (Below.refl _ w).alloc (Nat.le_refl _) _
  have hz0 : W0.heap[w.heap.size]? = some (.cells #[.int .i64 0, .int .i64 0, .slice none 0 0] 26 (0, 0)) := by rw [← hW0]; exact alloc_at rfl
  have hs0 : W0.heap.size = w.heap.size + 1 := by rw [← hW0]; simp
  have HN := Lib.hid (code_new (h.below hb0 (Nat.le_refl _)))
  obtain ⟨W1, hW1⟩ : ∃ W1, W0.alloc (.cells #[.slice ad L.length cp, .int .i64 0, .int .u64 0] 61) = W1 := ⟨_, rfl⟩
  have hc1 : CurAt W1 W0.heap.size (.slice ad L.length cp) 0 := ⟨0, 0, _, Nat.le_refl _, Lib.hid hT, by rw [← hW1]; exact alloc_at rfl⟩
  have hr1 : CodeR W1 W0.heap.size (.slice ad L.length cp) L := by rw [← hW1]; exact HN.out _
  have hb1 : Below W0.heap.size W0 W1 := by rw [← hW1]; exact (Below.refl _ W0).alloc (Nat.le_refl _) _
  have hz1 := (hb1.block _ (by omega)).trans hz0
  have hs1 : W1.heap.size = w.heap.size + 2 := by rw [← hW1]; simp; omega
  rw [hs0] at hc1 hr1
  have HA := Lib.hid (standard_any (w.heap.size + 1) _ L 0 W1 (by omega) hc1 hr1)
  have HB1 : Hid (Below w.heap.size w W1) := Lib.hid (hb0.trans (hb1.mono (by omega)))
  have HZ1 := Lib.hid hz1
  have HR1 := Lib.hid hr1
  have HS1 := Lib.hid hs1
  have hW1' : W0.alloc (.cells #[.slice ad L.length cp, .int .i64 0, .int .u64 0] 61) = W1 := hW1
  clear hc1 hr1 hb1 hb0 hz0 hz1 h HN hW1 hs1
  go_enter Try.func10, Try.ntmps10
  go_wp2_with fail
  try rw [hW0]
  try rw [hW1']
  refine (HA.out).mono ?_
  rintro e w2 ⟨⟨up, lo, sv, rs, rfl, ho, hl⟩, hc2, hg2⟩
  obtain ⟨a, c, rfl⟩ : ∃ a c, sv = .slice a rs.length c := by obtain ⟨a, c, e, _⟩ := RodsR.of_own ho; exact ⟨a, c, e⟩
  have hga := grown_alloc w2 (.cells #[.int .i64 up, .int .i64 lo, .slice a rs.length c] 26) none
  have HG3 := Lib.hid (grown_trans hg2 (grown_any (r := some (w.heap.size + 1)) hga))
  have HC3 := Lib.hid (hc2.old hga)
  have hkF : (w2.alloc (.cells #[.int .i64 up, .int .i64 lo, .slice a rs.length c] 26)).heap[w2.heap.size]? = some (.cells #[.int .i64 up, .int .i64 lo, .slice a rs.length c] 26 (0, 0)) := alloc_at rfl
  have HKF := Lib.hid hkF
  have HO3 := Lib.hid (ho.alloc (.cells #[.int .i64 up, .int .i64 lo, .slice a rs.length c] 26))
  have HF2 : Hid (w.heap.size + 2 ≤ w2.heap.size) := Lib.hid (by have := hg2.size; have := HS1.out; omega)
  have hlF : w2.heap.size < (w2.alloc (.cells #[.int .i64 up, .int .i64 lo, .slice a rs.length c] 26)).heap.size := lt_of_block hkF
  have HLF := Lib.hid hlF
  clear hc2 hg2 hga hkF ho hlF
  go_wp2_with fail
  try generalize w2.alloc (.cells #[.int .i64 up, .int .i64 lo, .slice a rs.length c] 26) = w3 at HG3 HC3 HKF HO3 HLF ⊢
  generalize w2.heap.size = F at HKF HF2 HLF ⊢
  have hg4 := grown_drewN w3 1 (some (w.heap.size + 1))
  have HC4 : Hid (CurAt w3.drew (w.heap.size + 1) (.slice ad L.length cp) (0 + 300)) := Lib.hid (HC3.out.old (grown_drewN w3 1 none))
  obtain ⟨c0, c1, c2, f0, f1, f2⟩ := cell3 HKF.out
  refine wp_region_held_drew (S := (fun u => u.cell? ⟨F, 0, none⟩ = some (.int .i64 up) ∧ u.cell? ⟨F, 1, none⟩ = some (.int .i64 lo) ∧ u.cell? ⟨F, 2, none⟩ = some (.slice a rs.length c))) (by kernel_rfl) (⟨c0, c1, c2⟩) (fun hHeld => ?_)
  have HG4 : Hid (w3.grownBy w3.drew (some (w.heap.size + 1))) := Lib.hid hg4
  clear hg4
  generalize w3.drew = w4 at HG4 HC4 hHeld ⊢
  clear c0 c1 c2 f0 f1 f2
  have HCL : Hid (∀ wi, w3.grownBy wi (some (w.heap.size + 1)) → wi.cell? ⟨F, 0, none⟩ = some (.int .i64 up) ∧ wi.cell? ⟨F, 1, none⟩ = some (.int .i64 lo) ∧ wi.cell? ⟨F, 2, none⟩ = some (.slice a rs.length c)) := Lib.hid (fun wi hg => by
    obtain ⟨c0, c1, c2, f0, f1, f2⟩ := cell3 ((hg.block F HLF.out (by intro e; have := HF2.out; injection e with e; omega)).trans HKF.out)
    exact ⟨c0, c1, c2⟩)
  refine take1 (i := 0) (v := ?v1) (some 11) rfl rfl (by kernel_rfl) (by kernel_rfl) (by kernel_rfl) (fun _ _ _ h => h) (Or.inl ⟨by rfl, ?y1⟩) (by assumption) ?r1
  case y1 => (intro w hSw; (try dsimp only at hSw); go_simp; (first | done | with_reducible rfl))
  try simp only [Act.put, List.setIfInBounds_toArray, List.set_cons_zero, List.set_cons_succ]
  refine take1 (i := 1) (v := ?v2) (some 12) rfl rfl (by kernel_rfl) (by kernel_rfl) (by kernel_rfl) (fun _ _ _ h => h) (Or.inl ⟨by rfl, ?y2⟩) (by assumption) ?r2
  case y2 => (intro w hSw; (try dsimp only at hSw); go_simp; (first | done | with_reducible rfl))
  try simp only [Act.put, List.setIfInBounds_toArray, List.set_cons_zero, List.set_cons_succ]
  refine take1 (i := 2) (v := ?v3) (some 13) rfl rfl (by kernel_rfl) (by kernel_rfl) (by kernel_rfl) (fun _ _ _ h => h) (Or.inl ⟨by rfl, ?y3⟩) (by assumption) ?r3
  case y3 => (intro w hSw; (try dsimp only at hSw); go_simp; (first | done | with_reducible rfl))
  try simp only [Act.put, List.setIfInBounds_toArray, List.set_cons_zero, List.set_cons_succ]
  refine wpAnyH_ready (rs := [3]) (by kernel_rfl) (by simp) ?_
  refine AllReadyH.cons rfl (fun K hK => ?_) AllReadyH.nil
  go_simp
  go_at_call 61
  refine (subtrahend_any (w.heap.size + 1) _ L _ _ up lo a c rs w4 hl (by omega) (own_grown HO3.out HG4.out (by have := HS1.out; omega)) (by have := HS1.out; omega) HC4.out (HR1.out.grown (grown_trans HG3.out HG4.out))).mono ?_
  rintro e w5 ⟨⟨z, rfl, hzb⟩, hc5, hg5⟩
  have HZB := Lib.hid hzb
  clear hzb
  have HG5 := Lib.hid (grown_trans HG4.out hg5)
  have HC5 := Lib.hid hc5
  clear hc5 hg5
  refine hK.out _ _ ((HCL.out _ HG5.out)) (fun hHeld => ?_)
  clear hK K
  try simp only [Act.put, List.setIfInBounds_toArray, List.set_cons_zero, List.set_cons_succ]
  have hz := (HG5.out.block w.heap.size (by have := HF2.out; have := HLF.out; omega) (by intro e; injection e with e; omega)).trans ((HG3.out.block w.heap.size (by have := HS1.out; omega) (by intro e; injection e with e; omega)).trans HZ1.out)
  have hgA := grown_trans HG3.out HG5.out
  have HB := Lib.hid (HB1.out.grown hgA HB1.out.size (fun k e => by cases e; exact Nat.le_succ _))
  have HO := Lib.hid (own_set3 (own_grown HO3.out HG5.out (by have := HS1.out; omega)) (g := w.heap.size) (by have := HS1.out; omega) (.int .i64 up) (.int .i64 lo) (.slice a rs.length c))
  have hkz := heap_setCell_same _ w.heap.size 2 _ _ (.slice a rs.length c) (heap_setCell_same _ w.heap.size 1 _ _ (.int .i64 lo) (heap_setCell_same w5 w.heap.size 0 _ _ (.int .i64 up) hz))
  have hkf : (((w5.setCell ⟨w.heap.size, 0, none⟩ (.int .i64 up)).setCell ⟨w.heap.size, 1, none⟩ (.int .i64 lo)).setCell ⟨w.heap.size, 2, none⟩ (.slice a rs.length c)).heap[F]? = w5.heap[F]? := (heap_setCell_other _ _ F _ (by show F ≠ w.heap.size; have := HF2.out; omega)).trans ((heap_setCell_other _ _ F _ (by show F ≠ w.heap.size; have := HF2.out; omega)).trans (heap_setCell_other _ _ F _ (by show F ≠ w.heap.size; have := HF2.out; omega)))
  have hkf2 := hkf.trans ((HG5.out.block F HLF.out (by intro e; have := HF2.out; injection e with e; omega)).trans HKF.out)
  have hbl := bl_set3 HB.out (g := w.heap.size) (Nat.le_refl _) (.int .i64 up) (.int .i64 lo) (.slice a rs.length c)
  obtain ⟨z0, z1, z2, y0, y1, y2⟩ := cell3 hz
  clear hkf hgA hz
  refine wpAnyH_ready (rs := [4]) (by kernel_rfl) (by simp) ?_
  refine AllReadyH.cons rfl (fun K hK => ?_) AllReadyH.nil
  go_simp
  clear z0 z1 z2 y0 y1 y2
  generalize ((w5.setCell ⟨w.heap.size, 0, none⟩ (.int .i64 up)).setCell ⟨w.heap.size, 1, none⟩ (.int .i64 lo)).setCell ⟨w.heap.size, 2, none⟩ (.slice a rs.length c) = wz at hkz hkf2 hbl HO ⊢
  have HBL := Lib.hid hbl
  obtain ⟨c0, c1, c2, f0, f1, f2⟩ := cell3 hkf2
  refine hK.out _ _ (⟨c0, c1, c2⟩) (fun hHeld => ?_)
  clear hK K
  try simp only [Act.put]
  refine take1 (i := 5) (v := ?v4) (some 3) rfl rfl (by kernel_rfl) (by kernel_rfl) (by kernel_rfl) (fun _ _ _ h => h) (Or.inl ⟨by rfl, ?y4⟩) (by assumption) ?r4
  case y4 => (intro w hSw; (try dsimp only at hSw); go_simp; (first | done | with_reducible rfl))
  try simp only [Act.put, List.setIfInBounds_toArray, List.set_cons_zero, List.set_cons_succ]
  refine wpAnyH_done (by kernel_rfl) ?_ _
  have hkz2 : wz.heap[w.heap.size]? = some (.cells #[.int .i64 up, .int .i64 lo, .slice a rs.length c] 26 (0, 0)) := hkz
  obtain ⟨z0, z1, z2, y0, y1, y2⟩ := cell3 hkz2
  clear hkz hkz2 hkf2 hbl c0 c1 c2 f0 f1 f2
  go_wp2_with fail
  exact bodyPost_ret (v := .tuple #[.agg #[.int .i64 up, .int .i64 lo, .slice a rs.length c], .int .i64 z]) (by simp [results, Try.results10, go_sem, z0, z1, z2]) rfl ⟨⟨_, _, _, rs, _, rfl, RodsR.of_own HO.out, hl, HZB.out.1, HZB.out.2⟩, HBL.out⟩

set_option maxRecDepth 100000 in
set_option maxHeartbeats 1600000 in
theorem drawAddDigit_own (cd : Value) (L : List UInt8) (w : World) (h : SlR w cd (L.map fun c => .int .u8 (c.toNat : Int))) :
    Calls Try.prog 43 #[cd] w fun e w' => (∃ (up lo : Int) (sv : Value) (rs : List (Int × Int)) (z d : Int), e = .returned (.tuple #[.agg #[.int .i64 up, .int .i64 lo, sv], .int .i64 z, .int .i64 d]) ∧ w'.ownsRow w.heap.size 83 2 sv rs.length (flat rs) ∧ rs.length ≤ 20) ∧ Below w.heap.size w w' := by
  obtain ⟨ad, cp, rfl⟩ : ∃ a c, cd = .slice a L.length c := by obtain ⟨a, c, e, _⟩ := h; exact ⟨a, c, by rw [e, List.length_map]⟩
  have hT : (Lit.int .u64 0).wf = true := by decide
  obtain ⟨W0, hW0⟩ : ∃ W0, w.alloc (.cells #[.int .i64 0, .int .i64 0, .slice none 0 0] 26) = W0 := ⟨_, rfl⟩
  have hb0 : Below w.heap.size w W0 := by rw [← hW0]; exact (Below.refl _ w).alloc (Nat.le_refl _) _
  have hz0 : W0.heap[w.heap.size]? = some (.cells #[.int .i64 0, .int .i64 0, .slice none 0 0] 26 (0, 0)) := by rw [← hW0]; exact alloc_at rfl
  have hs0 : W0.heap.size = w.heap.size + 1 := by rw [← hW0]; simp
  have HN := Lib.hid (code_new (h.below hb0 (Nat.le_refl _)))
  obtain ⟨W1, hW1⟩ : ∃ W1, W0.alloc (.cells #[.slice ad L.length cp, .int .i64 0, .int .u64 0] 61) = W1 := ⟨_, rfl⟩
  have hc1 : CurAt W1 W0.heap.size (.slice ad L.length cp) 0 := ⟨0, 0, _, Nat.le_refl _, Lib.hid hT, by rw [← hW1]; exact alloc_at rfl⟩
  have hr1 : CodeR W1 W0.heap.size (.slice ad L.length cp) L := by rw [← hW1]; exact HN.out _
  have hb1 : Below W0.heap.size W0 W1 := by rw [← hW1]; exact (Below.refl _ W0).alloc (Nat.le_refl _) _
  have hz1 := (hb1.block _ (by omega)).trans hz0
  have hs1 : W1.heap.size = w.heap.size + 2 := by rw [← hW1]; simp; omega
  rw [hs0] at hc1 hr1
  have HA := Lib.hid (standard_any (w.heap.size + 1) _ L 0 W1 (by omega) hc1 hr1)
  have HB1 : Hid (Below w.heap.size w W1) := Lib.hid (hb0.trans (hb1.mono (by omega)))
  have HZ1 := Lib.hid hz1
  have HR1 := Lib.hid hr1
  have HS1 := Lib.hid hs1
  have hW1' : W0.alloc (.cells #[.slice ad L.length cp, .int .i64 0, .int .u64 0] 61) = W1 := hW1
  clear hc1 hr1 hb1 hb0 hz0 hz1 h HN hW1 hs1
  go_enter Try.func43, Try.ntmps43
  go_wp2_with fail
  try rw [hW0]
  try rw [hW1']
  refine (HA.out).mono ?_
  rintro e w2 ⟨⟨up, lo, sv, rs, rfl, ho, hl⟩, hc2, hg2⟩
  obtain ⟨a, c, rfl⟩ : ∃ a c, sv = .slice a rs.length c := by obtain ⟨a, c, e, _⟩ := RodsR.of_own ho; exact ⟨a, c, e⟩
  have hga := grown_alloc w2 (.cells #[.int .i64 up, .int .i64 lo, .slice a rs.length c] 26) none
  have HG3 := Lib.hid (grown_trans hg2 (grown_any (r := some (w.heap.size + 1)) hga))
  have HC3 := Lib.hid (hc2.old hga)
  have hkF : (w2.alloc (.cells #[.int .i64 up, .int .i64 lo, .slice a rs.length c] 26)).heap[w2.heap.size]? = some (.cells #[.int .i64 up, .int .i64 lo, .slice a rs.length c] 26 (0, 0)) := alloc_at rfl
  have HKF := Lib.hid hkF
  have HO3 := Lib.hid (ho.alloc (.cells #[.int .i64 up, .int .i64 lo, .slice a rs.length c] 26))
  have HF2 : Hid (w.heap.size + 2 ≤ w2.heap.size) := Lib.hid (by have := hg2.size; have := HS1.out; omega)
  have hlF : w2.heap.size < (w2.alloc (.cells #[.int .i64 up, .int .i64 lo, .slice a rs.length c] 26)).heap.size := lt_of_block hkF
  have HLF := Lib.hid hlF
  clear hc2 hg2 hga hkF ho hlF
  go_wp2_with fail
  try generalize w2.alloc (.cells #[.int .i64 up, .int .i64 lo, .slice a rs.length c] 26) = w3 at HG3 HC3 HKF HO3 HLF ⊢
  generalize w2.heap.size = F at HKF HF2 HLF ⊢
  have hg4 := grown_drewN w3 1 (some (w.heap.size + 1))
  have HC4 : Hid (CurAt w3.drew (w.heap.size + 1) (.slice ad L.length cp) (0 + 300)) := Lib.hid (HC3.out.old (grown_drewN w3 1 none))
  obtain ⟨c0, c1, c2, f0, f1, f2⟩ := cell3 HKF.out
  refine wp_region_held_drew (S := (fun u => u.cell? ⟨F, 0, none⟩ = some (.int .i64 up) ∧ u.cell? ⟨F, 1, none⟩ = some (.int .i64 lo) ∧ u.cell? ⟨F, 2, none⟩ = some (.slice a rs.length c))) (by kernel_rfl) (⟨c0, c1, c2⟩) (fun hHeld => ?_)
  have HG4 : Hid (w3.grownBy w3.drew (some (w.heap.size + 1))) := Lib.hid hg4
  clear hg4
  generalize w3.drew = w4 at HG4 HC4 hHeld ⊢
  clear c0 c1 c2 f0 f1 f2
  have HCL : Hid (∀ wi, w3.grownBy wi (some (w.heap.size + 1)) → wi.cell? ⟨F, 0, none⟩ = some (.int .i64 up) ∧ wi.cell? ⟨F, 1, none⟩ = some (.int .i64 lo) ∧ wi.cell? ⟨F, 2, none⟩ = some (.slice a rs.length c)) := Lib.hid (fun wi hg => by
    obtain ⟨c0, c1, c2, f0, f1, f2⟩ := cell3 ((hg.block F HLF.out (by intro e; have := HF2.out; injection e with e; omega)).trans HKF.out)
    exact ⟨c0, c1, c2⟩)
  refine take1 (i := 0) (v := ?v5) (some 12) rfl rfl (by kernel_rfl) (by kernel_rfl) (by kernel_rfl) (fun _ _ _ h => h) (Or.inl ⟨by rfl, ?y5⟩) (by assumption) ?r5
  case y5 => (intro w hSw; (try dsimp only at hSw); go_simp; (first | done | with_reducible rfl))
  try simp only [Act.put, List.setIfInBounds_toArray, List.set_cons_zero, List.set_cons_succ]
  refine take1 (i := 1) (v := ?v6) (some 13) rfl rfl (by kernel_rfl) (by kernel_rfl) (by kernel_rfl) (fun _ _ _ h => h) (Or.inl ⟨by rfl, ?y6⟩) (by assumption) ?r6
  case y6 => (intro w hSw; (try dsimp only at hSw); go_simp; (first | done | with_reducible rfl))
  try simp only [Act.put, List.setIfInBounds_toArray, List.set_cons_zero, List.set_cons_succ]
  refine take1 (i := 2) (v := ?v7) (some 14) rfl rfl (by kernel_rfl) (by kernel_rfl) (by kernel_rfl) (fun _ _ _ h => h) (Or.inl ⟨by rfl, ?y7⟩) (by assumption) ?r7
  case y7 => (intro w hSw; (try dsimp only at hSw); go_simp; (first | done | with_reducible rfl))
  try simp only [Act.put, List.setIfInBounds_toArray, List.set_cons_zero, List.set_cons_succ]
  refine take1 (i := 4) (v := ?v8) (some 16) rfl rfl (by kernel_rfl) (by kernel_rfl) (by kernel_rfl) (fun _ _ _ h => h) (Or.inl ⟨by rfl, ?y8⟩) (by assumption) ?r8
  case y8 => (intro w hSw; (try dsimp only at hSw); go_simp; (first | done | with_reducible rfl))
  try simp only [Act.put, List.setIfInBounds_toArray, List.set_cons_zero, List.set_cons_succ]
  refine take1 (i := 6) (v := ?v9) (some 18) rfl rfl (by kernel_rfl) (by kernel_rfl) (by kernel_rfl) (fun _ _ _ h => h) (Or.inl ⟨by rfl, ?y9⟩) (by assumption) ?r9
  case y9 => (intro w hSw; (try dsimp only at hSw); go_simp; (first | done | with_reducible rfl))
  try simp only [Act.put, List.setIfInBounds_toArray, List.set_cons_zero, List.set_cons_succ]
  refine wpAnyH_ready (rs := [3]) (by kernel_rfl) (by simp) ?_
  refine AllReadyH.cons rfl (fun K hK => ?_) AllReadyH.nil
  go_simp
  go_at_call 86
  refine (rodOf_any (w.heap.size + 1) _ L _ up lo a c rs.length w4 (by omega) (by omega) HC4.out (HR1.out.grown (grown_trans HG3.out HG4.out))).mono ?_
  rintro e w5 ⟨⟨z, rfl⟩, hc5, hg5⟩
  have HG5 := Lib.hid (grown_trans HG4.out hg5)
  have HC5 := Lib.hid hc5
  clear hc5 hg5
  refine hK.out _ _ ((HCL.out _ HG5.out)) (fun hHeld => ?_)
  clear hK K
  try simp only [Act.put, List.setIfInBounds_toArray, List.set_cons_zero, List.set_cons_succ]
  refine wpAnyH_ready (rs := [5]) (by kernel_rfl) (by simp) ?_
  refine AllReadyH.cons rfl (fun K hK => ?_) AllReadyH.nil
  go_simp
  go_at_call 87
  refine (pick_any (w.heap.size + 1) _ L _ 11 w5 (by omega) (by omega) (by omega) HC5.out (HR1.out.grown (grown_trans HG3.out HG5.out))).mono ?_
  rintro e w6 ⟨⟨r1, rfl, r10, r11⟩, hc5, hg5⟩
  have HG6 := Lib.hid (grown_trans HG5.out hg5)
  have HC6 := Lib.hid hc5
  clear hc5 hg5
  refine hK.out _ _ ((HCL.out _ HG6.out)) (fun hHeld => ?_)
  clear hK K
  try simp only [Act.put, List.setIfInBounds_toArray, List.set_cons_zero, List.set_cons_succ]
  refine wpAnyH_ready (rs := [7]) (by kernel_rfl) (by simp) ?_
  refine AllReadyH.cons rfl (fun K hK => ?_) AllReadyH.nil
  go_simp
  go_at_call 87
  refine (pick_any (w.heap.size + 1) _ L _ 17 w6 (by omega) (by omega) (by omega) HC6.out (HR1.out.grown (grown_trans HG3.out HG6.out))).mono ?_
  rintro e w7 ⟨⟨r2, rfl, r20, r21⟩, hc5, hg5⟩
  have HG7 := Lib.hid (grown_trans HG6.out hg5)
  have HC7 := Lib.hid hc5
  clear hc5 hg5
  refine hK.out _ _ ((HCL.out _ HG7.out)) (fun hHeld => ?_)
  clear hK K
  try simp only [Act.put, List.setIfInBounds_toArray, List.set_cons_zero, List.set_cons_succ]
  refine take1 (i := 8) (v := ?v10) (some 20) rfl rfl (by kernel_rfl) (by kernel_rfl) (by kernel_rfl) (fun _ _ _ h => h) (Or.inl ⟨by rfl, ?y10⟩) (by assumption) ?r10
  case y10 => (intro w hSw; (try dsimp only at hSw); go_simp; (first | done | with_reducible rfl))
  try simp only [Act.put, List.setIfInBounds_toArray, List.set_cons_zero, List.set_cons_succ]
  refine take1 (i := 9) (v := ?v11) (some 21) rfl rfl (by kernel_rfl) (by kernel_rfl) (by kernel_rfl) (fun _ _ _ h => h) (Or.inl ⟨by rfl, ?y11⟩) (by assumption) ?r11
  case y11 => (intro w hSw; (try dsimp only at hSw); go_simp; (first | done | with_reducible rfl))
  try simp only [Act.put, List.setIfInBounds_toArray, List.set_cons_zero, List.set_cons_succ]
  have hz := (HG7.out.block w.heap.size (by have := HF2.out; have := HLF.out; omega) (by intro e; injection e with e; omega)).trans ((HG3.out.block w.heap.size (by have := HS1.out; omega) (by intro e; injection e with e; omega)).trans HZ1.out)
  have hgA := grown_trans HG3.out HG7.out
  have HB := Lib.hid (HB1.out.grown hgA HB1.out.size (fun k e => by cases e; exact Nat.le_succ _))
  have HO := Lib.hid (own_set3 (own_grown HO3.out HG7.out (by have := HS1.out; omega)) (g := w.heap.size) (by have := HS1.out; omega) (.int .i64 up) (.int .i64 lo) (.slice a rs.length c))
  have hkz := heap_setCell_same _ w.heap.size 2 _ _ (.slice a rs.length c) (heap_setCell_same _ w.heap.size 1 _ _ (.int .i64 lo) (heap_setCell_same w7 w.heap.size 0 _ _ (.int .i64 up) hz))
  have hkf : (((w7.setCell ⟨w.heap.size, 0, none⟩ (.int .i64 up)).setCell ⟨w.heap.size, 1, none⟩ (.int .i64 lo)).setCell ⟨w.heap.size, 2, none⟩ (.slice a rs.length c)).heap[F]? = w7.heap[F]? := (heap_setCell_other _ _ F _ (by show F ≠ w.heap.size; have := HF2.out; omega)).trans ((heap_setCell_other _ _ F _ (by show F ≠ w.heap.size; have := HF2.out; omega)).trans (heap_setCell_other _ _ F _ (by show F ≠ w.heap.size; have := HF2.out; omega)))
  have hkf2 := hkf.trans ((HG7.out.block F HLF.out (by intro e; have := HF2.out; injection e with e; omega)).trans HKF.out)
  have hbl := bl_set3 HB.out (g := w.heap.size) (Nat.le_refl _) (.int .i64 up) (.int .i64 lo) (.slice a rs.length c)
  obtain ⟨z0, z1, z2, y0, y1, y2⟩ := cell3 hz
  clear hkf hgA hz
  refine wpAnyH_ready (rs := [10]) (by kernel_rfl) (by simp) ?_
  refine AllReadyH.cons rfl (fun K hK => ?_) AllReadyH.nil
  go_simp
  clear z0 z1 z2 y0 y1 y2
  generalize ((w7.setCell ⟨w.heap.size, 0, none⟩ (.int .i64 up)).setCell ⟨w.heap.size, 1, none⟩ (.int .i64 lo)).setCell ⟨w.heap.size, 2, none⟩ (.slice a rs.length c) = wz at hkz hkf2 hbl HO ⊢
  have HBL := Lib.hid hbl
  obtain ⟨c0, c1, c2, f0, f1, f2⟩ := cell3 hkf2
  refine hK.out _ _ (⟨c0, c1, c2⟩) (fun hHeld => ?_)
  clear hK K
  try simp only [Act.put]
  refine take1 (i := 11) (v := ?v12) (some 3) rfl rfl (by kernel_rfl) (by kernel_rfl) (by kernel_rfl) (fun _ _ _ h => h) (Or.inl ⟨by rfl, ?y12⟩) (by assumption) ?r12
  case y12 => (intro w hSw; (try dsimp only at hSw); go_simp; (first | done | with_reducible rfl))
  try simp only [Act.put, List.setIfInBounds_toArray, List.set_cons_zero, List.set_cons_succ]
  refine take1 (i := 12) (v := ?v13) (some 4) rfl rfl (by kernel_rfl) (by kernel_rfl) (by kernel_rfl) (fun _ _ _ h => h) (Or.inl ⟨by rfl, ?y13⟩) (by assumption) ?r13
  case y13 => (intro w hSw; (try dsimp only at hSw); go_simp; (first | done | with_reducible rfl))
  try simp only [Act.put, List.setIfInBounds_toArray, List.set_cons_zero, List.set_cons_succ]
  refine wpAnyH_done (by kernel_rfl) ?_ _
  have hkz2 : wz.heap[w.heap.size]? = some (.cells #[.int .i64 up, .int .i64 lo, .slice a rs.length c] 26 (0, 0)) := hkz
  obtain ⟨z0, z1, z2, y0, y1, y2⟩ := cell3 hkz2
  clear hkz hkz2 hkf2 hbl c0 c1 c2 f0 f1 f2
  go_wp2_with fail
  exact bodyPost_ret (v := .tuple #[.agg #[.int .i64 up, .int .i64 lo, .slice a rs.length c], .int .i64 z, .int .i64 (IntKind.i64.wrap (r1 - IntKind.i64.wrap (r2.tdiv 16)))]) (by simp [results, Try.results43, go_sem, z0, z1, z2]) rfl ⟨⟨_, _, _, rs, _, _, rfl, own_mono HO.out (by have := HS1.out; omega), hl⟩, HBL.out⟩

set_option maxRecDepth 100000 in
set_option maxHeartbeats 1600000 in
theorem drawTakeDigit_any (cd : Value) (L : List UInt8) (w : World) (h : SlR w cd (L.map fun c => .int .u8 (c.toNat : Int))) :
    Calls Try.prog 23 #[cd] w fun e w' => (∃ (up lo : Int) (sv : Value) (rs : List (Int × Int)) (z d : Int), e = .returned (.tuple #[.agg #[.int .i64 up, .int .i64 lo, sv], .int .i64 z, .int .i64 d]) ∧ RodsR w' sv rs ∧ rs.length ≤ 20) ∧ Below w.heap.size w w' := by
  have HB0 : Hid (Below w.heap.size w w) := Lib.hid (Below.refl _ _)
  have HRk0 := Lib.hid (h)
  clear h
  go_enter Try.func23, Try.ntmps23
  go_wp2_with fail
  have hb : Below w.heap.size w (w.alloc (.cells #[.int .i64 0, .int .i64 0, .slice none 0 0] 26)) := (Below.refl _ _).alloc (Nat.le_refl _) _
  have hk : (w.alloc (.cells #[.int .i64 0, .int .i64 0, .slice none 0 0] 26)).heap[w.heap.size]? = some (.cells #[.int .i64 0, .int .i64 0, .slice none 0 0] 26 (0, 0)) := alloc_at rfl
  have hz : (w.alloc (.cells #[.int .i64 0, .int .i64 0, .slice none 0 0] 26)).heap.size = w.heap.size + 1 := by simp
  generalize w.alloc (.cells #[.int .i64 0, .int .i64 0, .slice none 0 0] 26) = w1 at hb hk hz ⊢
  have HB1 : Hid (Below w.heap.size w w1) := Lib.hid (HB0.out.trans (hb.mono HB0.out.size))
  have HZ1 : Hid (w.heap.size ≤ w1.heap.size) := Lib.hid hb.size
  have HRk1 := Lib.hid (HRk0.out.below HB1.out (Nat.le_refl _))
  have HKz1 := Lib.hid hk
  replace HZ1 : Hid (w.heap.size < w1.heap.size) := Lib.hid (by omega)
  have HE1 := Lib.hid hz
  clear hb hk hz
  refine (drawAddDigit_own _ L _ HRk1.out).mono ?_
  rintro e w2 ⟨⟨up, lo, sv, rs, q, d, rfl, ho, hl⟩, hb⟩
  have HB2 : Hid (Below w.heap.size w w2) := Lib.hid (HB1.out.trans (hb.mono HB1.out.size))
  have HZ2 : Hid (w1.heap.size ≤ w2.heap.size) := Lib.hid hb.size
  have HRk2 := Lib.hid (HRk0.out.below HB2.out (Nat.le_refl _))
  have HKz2 := Lib.hid ((hb.block _ (lt_of_block HKz1.out)).trans HKz1.out)
  clear hb
  obtain ⟨pa, pc, rfl⟩ := own_form ho
  have HOr2 := Lib.hid (Ow.mk' ho)
  clear ho
  have ltz := lt_of_block HKz2.out
  obtain ⟨cz0, cz1, cz2, fz0, fz1, fz2⟩ := cell3 HKz2.out
  go_wp2_with fail
  have hlz : w.heap.size < w1.heap.size := by have := HE1.out; omega
  have hwl : w.heap.size ≤ w1.heap.size := by omega
  exact bodyPost_ret (v := .tuple #[.agg #[.int .i64 up, .int .i64 lo, .slice pa rs.length pc], .int .i64 q, .int .i64 d]) (by simp [results, Try.results23, go_sem, cz0, cz1, cz2]) rfl ⟨⟨_, _, _, rs, _, _, rfl, RodsR.of_own (own_set3 HOr2.out.1 hlz _ _ _), hl⟩, bl_set3 HB2.out (Nat.le_refl _) _ _ _⟩
end Go.Proofs.Ytjkjaadcdolbhaa
