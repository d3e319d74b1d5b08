/- The draws of the law FnCarries. -/
import Derived.Test.YtjkjaadcdolbhaaDoorKh
import Derived.Test.YtjkjaadcdolbhaaDoorKg
import Derived.Test.YtjkjaadcdolbhaaDoorKc
import Derived.Test.YtjkjaadcdolbhaaDoorKa
import Derived.Test.YtjkjaadcdolbhaaDoorOwn
namespace Go.Proofs.YtjkjaadcdolbhaaDoor
set_option linter.unusedVariables false
open Go.RowKit
set_option linter.unusedSimpArgs false

/-- In a world behind W: the reader, the frame's box F, its rods; all but the reader behind W. -/
def LcAt (W wi : World) (cb : Nat) (cd : Value) (n F : Nat) (up lo : Int) (a : Option Addr) (cap : Nat) (rs : List (Int × Int)) : Prop :=
  W.grownBy wi (some cb) ∧ CurAt wi cb cd n ∧ wi.heap[F]? = some (.cells #[.int .i64 up, .int .i64 lo, .slice a rs.length cap] 26 (0, 0)) ∧ wi.ownsRow W.heap.size 56 2 (.slice a rs.length cap) rs.length (flat rs) ∧ W.heap.size ≤ F ∧ cb < W.heap.size
theorem LcAt.step {W wi w' : World} {cb : Nat} {cd : Value} {n m F : Nat} {up lo : Int} {a : Option Addr} {cap : Nat} {rs : List (Int × Int)} (h : LcAt W wi cb cd n F up lo a cap rs) (hg : wi.grownBy w' (some cb)) (hc : CurAt w' cb cd m) : LcAt W w' cb cd m F up lo a cap rs := by
  obtain ⟨h1, h2, h3, h4, h5, h6⟩ := h
  exact ⟨grown_trans h1 hg, hc, (hg.block _ (Array.getElem?_eq_some_iff.1 h3).1 (by intro e; injection e with e; omega)).trans h3, own_grown h4 hg h6, h5, h6⟩
theorem LcAt.set {W wi : World} {cb : Nat} {cd : Value} {n F : Nat} {up lo : Int} {g cap : Nat} {rs : List (Int × Int)} (h : LcAt W wi cb cd n F up lo (some ⟨g, 0, none⟩) cap rs) (q : Nat) (hq : q < rs.length) (r : Int × Int) :
    LcAt W ((wi.setCell ⟨g, q * 2, none⟩ (.int .i64 r.1)).setCell ⟨g, q * 2 + 1, none⟩ (.int .i64 r.2)) cb cd n F up lo (some ⟨g, 0, none⟩) cap (rs.set q r) := by
  obtain ⟨h1, h2, h3, h4, h5, h6⟩ := h
  have hl := h4.lt g rfl
  have hne : F ≠ g := by
    intro e
    subst e
    obtain ⟨cur, hc⟩ := own_cells h4
    rw [hc] at h3
    injection h3 with h3
    injection h3 with e1 e2 e3
    revert e2
    decide
  have hle : (rs.set q r).length = rs.length := List.length_set
  unfold LcAt
  rw [hle, ← flat_set rs q hq r]
  exact ⟨grown_set_new (grown_set_new h1 _ _ _ hl.1) _ _ _ hl.1, (h2.set _ _ _ (by omega)).set _ _ _ (by omega), (heap_setCell_other _ ⟨g, q * 2 + 1, none⟩ _ _ hne).trans ((heap_setCell_other _ ⟨g, q * 2, none⟩ _ _ hne).trans h3), ((h4.stored (q * 2) _).1.stored (q * 2 + 1) _).1, h5, h6⟩

set_option maxRecDepth 100000 in
set_option maxHeartbeats 1600000 in
theorem drawAddNumber_own (cd : Value) (L : List UInt8) (w : World) (h : SlR w cd (L.map fun c => .int .u8 (c.toNat : Int))) :
    Calls Tryd.prog 22 #[cd] w fun e w' => (∃ (up lo : Int) (sv : Value) (rs : List (Int × Int)) (z : Int), e = .returned (.tuple #[.agg #[.int .i64 up, .int .i64 lo, sv], .int .i64 z]) ∧ w'.ownsRow w.heap.size 56 2 sv rs.length (flat rs) ∧ rs.length ≤ 20 ∧ -9223372036854775808 ≤ z ∧ z ≤ 9223372036854775807) ∧ Below w.heap.size w w' := by
  obtain ⟨ad, cp, rfl⟩ : ∃ a c, cd = .slice a L.length c := by obtain ⟨a, c, e, _⟩ := h; exact ⟨a, c, by rw [e, List.length_map]⟩
  have hT : (Lit.int .u64 0).wf = true := by decide
  obtain ⟨W0, hW0⟩ : ∃ W0, w.alloc (.cells #[.int .i64 0, .int .i64 0, .slice none 0 0] 26) = W0 := ⟨_, rfl⟩
  have hb0 : Below w.heap.size w W0 := by rw [← hW0]; exact (Below.refl _ w).alloc (Nat.le_refl _) _
  have hz0 : W0.heap[w.heap.size]? = some (.cells #[.int .i64 0, .int .i64 0, .slice none 0 0] 26 (0, 0)) := by rw [← hW0]; exact alloc_at rfl
  have hs0 : W0.heap.size = w.heap.size + 1 := by rw [← hW0]; simp
  have HN := Lib.hid (code_new (h.below hb0 (Nat.le_refl _)))
  obtain ⟨W1, hW1⟩ : ∃ W1, W0.alloc (.cells #[.slice ad L.length cp, .int .i64 0, .int .u64 0] 65) = W1 := ⟨_, rfl⟩
  have hc1 : CurAt W1 W0.heap.size (.slice ad L.length cp) 0 := ⟨0, 0, _, Nat.le_refl _, Lib.hid hT, by rw [← hW1]; exact alloc_at rfl⟩
  have hr1 : CodeR W1 W0.heap.size (.slice ad L.length cp) L := by rw [← hW1]; exact HN.out _
  have hb1 : Below W0.heap.size W0 W1 := by rw [← hW1]; exact (Below.refl _ W0).alloc (Nat.le_refl _) _
  have hz1 := (hb1.block _ (by omega)).trans hz0
  have hs1 : W1.heap.size = w.heap.size + 2 := by rw [← hW1]; simp; omega
  rw [hs0] at hc1 hr1
  have HA := Lib.hid (standard_any (w.heap.size + 1) _ L 0 W1 (by omega) hc1 hr1)
  have HB1 : Hid (Below w.heap.size w W1) := Lib.hid (hb0.trans (hb1.mono (by omega)))
  have HZ1 := Lib.hid hz1
  have HR1 := Lib.hid hr1
  have HS1 := Lib.hid hs1
  have hW1' : W0.alloc (.cells #[.slice ad L.length cp, .int .i64 0, .int .u64 0] 65) = W1 := hW1
  clear hc1 hr1 hb1 hb0 hz0 hz1 h HN hW1 hs1
  go_enter Tryd.func22, Tryd.ntmps22
  go_wp2_with fail
  try rw [hW0]
  try rw [hW1']
  refine (HA.out).mono ?_
  rintro e w2 ⟨⟨up, lo, sv, rs, rfl, ho, hl⟩, hc2, hg2⟩
  obtain ⟨a, c, rfl⟩ : ∃ a c, sv = .slice a rs.length c := by obtain ⟨a, c, e, _⟩ := RodsR.of_own ho; exact ⟨a, c, e⟩
  have hga := grown_alloc w2 (.cells #[.int .i64 up, .int .i64 lo, .slice a rs.length c] 26) none
  have HG3 := Lib.hid (grown_trans hg2 (grown_any (r := some (w.heap.size + 1)) hga))
  have HC3 := Lib.hid (hc2.old hga)
  have hkF : (w2.alloc (.cells #[.int .i64 up, .int .i64 lo, .slice a rs.length c] 26)).heap[w2.heap.size]? = some (.cells #[.int .i64 up, .int .i64 lo, .slice a rs.length c] 26 (0, 0)) := alloc_at rfl
  have HKF := Lib.hid hkF
  have HO3 := Lib.hid (ho.alloc (.cells #[.int .i64 up, .int .i64 lo, .slice a rs.length c] 26))
  have HF2 : Hid (w.heap.size + 2 ≤ w2.heap.size) := Lib.hid (by have := hg2.size; have := HS1.out; omega)
  have hlF : w2.heap.size < (w2.alloc (.cells #[.int .i64 up, .int .i64 lo, .slice a rs.length c] 26)).heap.size := lt_of_block hkF
  have HLF := Lib.hid hlF
  clear hc2 hg2 hga hkF ho hlF
  go_wp2_with fail
  try generalize w2.alloc (.cells #[.int .i64 up, .int .i64 lo, .slice a rs.length c] 26) = w3 at HG3 HC3 HKF HO3 HLF ⊢
  generalize w2.heap.size = F at HKF HF2 HLF ⊢
  have hg4 := grown_drewN w3 1 (some (w.heap.size + 1))
  have HC4 : Hid (CurAt w3.drew (w.heap.size + 1) (.slice ad L.length cp) (0 + 300)) := Lib.hid (HC3.out.old (grown_drewN w3 1 none))
  obtain ⟨c0, c1, c2, f0, f1, f2⟩ := cell3 HKF.out
  refine wp_region_held_drew (S := (fun u => u.cell? ⟨F, 0, none⟩ = some (.int .i64 up) ∧ u.cell? ⟨F, 1, none⟩ = some (.int .i64 lo) ∧ u.cell? ⟨F, 2, none⟩ = some (.slice a rs.length c))) (by kernel_rfl) (⟨c0, c1, c2⟩) (fun hHeld => ?_)
  have HG4 : Hid (w3.grownBy w3.drew (some (w.heap.size + 1))) := Lib.hid hg4
  clear hg4
  generalize w3.drew = w4 at HG4 HC4 hHeld ⊢
  clear c0 c1 c2 f0 f1 f2
  have HCL : Hid (∀ wi, w3.grownBy wi (some (w.heap.size + 1)) → wi.cell? ⟨F, 0, none⟩ = some (.int .i64 up) ∧ wi.cell? ⟨F, 1, none⟩ = some (.int .i64 lo) ∧ wi.cell? ⟨F, 2, none⟩ = some (.slice a rs.length c)) := Lib.hid (fun wi hg => by
    obtain ⟨c0, c1, c2, f0, f1, f2⟩ := cell3 ((hg.block F HLF.out (by intro e; have := HF2.out; injection e with e; omega)).trans HKF.out)
    exact ⟨c0, c1, c2⟩)
  refine take1 (i := 0) (v := ?v1) (some 11) rfl rfl (by kernel_rfl) (by kernel_rfl) (by kernel_rfl) (fun _ _ _ h => h) (Or.inl ⟨by rfl, ?y1⟩) (by assumption) ?r1
  case y1 => (intro w hSw; (try dsimp only at hSw); go_simp; (first | done | with_reducible rfl))
  try simp only [Act.put, List.setIfInBounds_toArray, List.set_cons_zero, List.set_cons_succ]
  refine take1 (i := 1) (v := ?v2) (some 12) rfl rfl (by kernel_rfl) (by kernel_rfl) (by kernel_rfl) (fun _ _ _ h => h) (Or.inl ⟨by rfl, ?y2⟩) (by assumption) ?r2
  case y2 => (intro w hSw; (try dsimp only at hSw); go_simp; (first | done | with_reducible rfl))
  try simp only [Act.put, List.setIfInBounds_toArray, List.set_cons_zero, List.set_cons_succ]
  refine take1 (i := 2) (v := ?v3) (some 13) rfl rfl (by kernel_rfl) (by kernel_rfl) (by kernel_rfl) (fun _ _ _ h => h) (Or.inl ⟨by rfl, ?y3⟩) (by assumption) ?r3
  case y3 => (intro w hSw; (try dsimp only at hSw); go_simp; (first | done | with_reducible rfl))
  try simp only [Act.put, List.setIfInBounds_toArray, List.set_cons_zero, List.set_cons_succ]
  refine wpAnyH_ready (rs := [3]) (by kernel_rfl) (by simp) ?_
  refine AllReadyH.cons rfl (fun K hK => ?_) AllReadyH.nil
  go_simp
  go_at_call 43
  refine (addend_any (w.heap.size + 1) _ L _ _ up lo a c rs w4 hl (by omega) (own_grown HO3.out HG4.out (by have := HS1.out; omega)) (by have := HS1.out; omega) HC4.out (HR1.out.grown (grown_trans HG3.out HG4.out))).mono ?_
  rintro e w5 ⟨⟨z, rfl, hzb⟩, hc5, hg5⟩
  have HZB := Lib.hid hzb
  clear hzb
  have HG5 := Lib.hid (grown_trans HG4.out hg5)
  have HC5 := Lib.hid hc5
  clear hc5 hg5
  refine hK.out _ _ ((HCL.out _ HG5.out)) (fun hHeld => ?_)
  clear hK K
  try simp only [Act.put, List.setIfInBounds_toArray, List.set_cons_zero, List.set_cons_succ]
  have hz := (HG5.out.block w.heap.size (by have := HF2.out; have := HLF.out; omega) (by intro e; injection e with e; omega)).trans ((HG3.out.block w.heap.size (by have := HS1.out; omega) (by intro e; injection e with e; omega)).trans HZ1.out)
  have hgA := grown_trans HG3.out HG5.out
  have HB := Lib.hid (HB1.out.grown hgA HB1.out.size (fun k e => by cases e; exact Nat.le_succ _))
  have HO := Lib.hid (own_set3 (own_grown HO3.out HG5.out (by have := HS1.out; omega)) (g := w.heap.size) (by have := HS1.out; omega) (.int .i64 up) (.int .i64 lo) (.slice a rs.length c))
  have hkz := heap_setCell_same _ w.heap.size 2 _ _ (.slice a rs.length c) (heap_setCell_same _ w.heap.size 1 _ _ (.int .i64 lo) (heap_setCell_same w5 w.heap.size 0 _ _ (.int .i64 up) hz))
  have hkf : (((w5.setCell ⟨w.heap.size, 0, none⟩ (.int .i64 up)).setCell ⟨w.heap.size, 1, none⟩ (.int .i64 lo)).setCell ⟨w.heap.size, 2, none⟩ (.slice a rs.length c)).heap[F]? = w5.heap[F]? := (heap_setCell_other _ _ F _ (by show F ≠ w.heap.size; have := HF2.out; omega)).trans ((heap_setCell_other _ _ F _ (by show F ≠ w.heap.size; have := HF2.out; omega)).trans (heap_setCell_other _ _ F _ (by show F ≠ w.heap.size; have := HF2.out; omega)))
  have hkf2 := hkf.trans ((HG5.out.block F HLF.out (by intro e; have := HF2.out; injection e with e; omega)).trans HKF.out)
  have hbl := bl_set3 HB.out (g := w.heap.size) (Nat.le_refl _) (.int .i64 up) (.int .i64 lo) (.slice a rs.length c)
  obtain ⟨z0, z1, z2, y0, y1, y2⟩ := cell3 hz
  clear hkf hgA hz
  refine wpAnyH_ready (rs := [4]) (by kernel_rfl) (by simp) ?_
  refine AllReadyH.cons rfl (fun K hK => ?_) AllReadyH.nil
  go_simp
  clear z0 z1 z2 y0 y1 y2
  generalize ((w5.setCell ⟨w.heap.size, 0, none⟩ (.int .i64 up)).setCell ⟨w.heap.size, 1, none⟩ (.int .i64 lo)).setCell ⟨w.heap.size, 2, none⟩ (.slice a rs.length c) = wz at hkz hkf2 hbl HO ⊢
  have HBL := Lib.hid hbl
  obtain ⟨c0, c1, c2, f0, f1, f2⟩ := cell3 hkf2
  refine hK.out _ _ (⟨c0, c1, c2⟩) (fun hHeld => ?_)
  clear hK K
  try simp only [Act.put]
  refine take1 (i := 5) (v := ?v4) (some 3) rfl rfl (by kernel_rfl) (by kernel_rfl) (by kernel_rfl) (fun _ _ _ h => h) (Or.inl ⟨by rfl, ?y4⟩) (by assumption) ?r4
  case y4 => (intro w hSw; (try dsimp only at hSw); go_simp; (first | done | with_reducible rfl))
  try simp only [Act.put, List.setIfInBounds_toArray, List.set_cons_zero, List.set_cons_succ]
  refine wpAnyH_done (by kernel_rfl) ?_ _
  have hkz2 : wz.heap[w.heap.size]? = some (.cells #[.int .i64 up, .int .i64 lo, .slice a rs.length c] 26 (0, 0)) := hkz
  obtain ⟨z0, z1, z2, y0, y1, y2⟩ := cell3 hkz2
  clear hkz hkz2 hkf2 hbl c0 c1 c2 f0 f1 f2
  go_wp2_with fail
  exact bodyPost_ret (v := .tuple #[.agg #[.int .i64 up, .int .i64 lo, .slice a rs.length c], .int .i64 z]) (by simp [results, Tryd.results22, go_sem, z0, z1, z2]) rfl ⟨⟨_, _, _, rs, _, rfl, own_mono HO.out (by have := HS1.out; omega), hl, HZB.out.1, HZB.out.2⟩, HBL.out⟩

set_option maxRecDepth 100000 in
set_option maxHeartbeats 1600000 in
theorem drawCarriesOf_any (cd : Value) (L : List UInt8) (w : World) (h : SlR w cd (L.map fun c => .int .u8 (c.toNat : Int))) :
    Calls Tryd.prog 5 #[cd] w fun e w' => (∃ (up lo : Int) (sv : Value) (rs : List (Int × Int)) (z : Int), e = .returned (.tuple #[.agg #[.int .i64 up, .int .i64 lo, sv], .int .i64 z]) ∧ RodsR w' sv rs ∧ rs.length ≤ 20 ∧ -9223372036854775808 ≤ z ∧ z ≤ 9223372036854775807) ∧ Below w.heap.size w w' := by
  have HB0 : Hid (Below w.heap.size w w) := Lib.hid (Below.refl _ _)
  have HRk0 := Lib.hid (h)
  clear h
  go_enter Tryd.func5, Tryd.ntmps5
  go_wp2_with fail
  have hb : Below w.heap.size w (w.alloc (.cells #[.int .i64 0, .int .i64 0, .slice none 0 0] 26)) := (Below.refl _ _).alloc (Nat.le_refl _) _
  have hk : (w.alloc (.cells #[.int .i64 0, .int .i64 0, .slice none 0 0] 26)).heap[w.heap.size]? = some (.cells #[.int .i64 0, .int .i64 0, .slice none 0 0] 26 (0, 0)) := alloc_at rfl
  have hz : (w.alloc (.cells #[.int .i64 0, .int .i64 0, .slice none 0 0] 26)).heap.size = w.heap.size + 1 := by simp
  generalize w.alloc (.cells #[.int .i64 0, .int .i64 0, .slice none 0 0] 26) = w1 at hb hk hz ⊢
  have HB1 : Hid (Below w.heap.size w w1) := Lib.hid (HB0.out.trans (hb.mono HB0.out.size))
  have HZ1 : Hid (w.heap.size ≤ w1.heap.size) := Lib.hid hb.size
  have HRk1 := Lib.hid (HRk0.out.below HB1.out (Nat.le_refl _))
  have HKz1 := Lib.hid hk
  replace HZ1 : Hid (w.heap.size < w1.heap.size) := Lib.hid (by omega)
  have HE1 := Lib.hid hz
  clear hb hk hz
  refine (drawAddNumber_own _ L _ HRk1.out).mono ?_
  rintro e w2 ⟨⟨up, lo, sv, rs, q, rfl, ho, hl, hz0, hz1⟩, hb⟩
  have HB2 : Hid (Below w.heap.size w w2) := Lib.hid (HB1.out.trans (hb.mono HB1.out.size))
  have HZ2 : Hid (w1.heap.size ≤ w2.heap.size) := Lib.hid hb.size
  have HRk2 := Lib.hid (HRk0.out.below HB2.out (Nat.le_refl _))
  have HKz2 := Lib.hid ((hb.block _ (lt_of_block HKz1.out)).trans HKz1.out)
  clear hb
  obtain ⟨pa, pc, rfl⟩ := own_form ho
  have HOr2 := Lib.hid (Ow.mk' ho)
  clear ho
  have ltz := lt_of_block HKz2.out
  obtain ⟨cz0, cz1, cz2, fz0, fz1, fz2⟩ := cell3 HKz2.out
  go_wp2_with fail
  have hlz : w.heap.size < w1.heap.size := by have := HE1.out; omega
  exact bodyPost_ret (v := .tuple #[.agg #[.int .i64 up, .int .i64 lo, .slice pa rs.length pc], .int .i64 q]) (by simp [results, Tryd.results5, go_sem, cz0, cz1, cz2]) rfl ⟨⟨_, _, _, rs, _, rfl, RodsR.of_own (own_set3 HOr2.out.1 hlz _ _ _), hl, hz0, hz1⟩, bl_set3 HB2.out (Nat.le_refl _) _ _ _⟩

set_option maxRecDepth 100000 in
set_option maxHeartbeats 3200000 in
theorem drawLongestCarry_any (cd : Value) (L : List UInt8) (w : World) (h : SlR w cd (L.map fun c => .int .u8 (c.toNat : Int))) :
    Calls Tryd.prog 14 #[cd] w fun e w' => (∃ (up lo : Int) (sv : Value) (rs : List (Int × Int)) (z : Int), e = .returned (.tuple #[.agg #[.int .i64 up, .int .i64 lo, sv], .int .i64 z]) ∧ RodsR w' sv rs ∧ rs.length ≤ 20) ∧ Below w.heap.size w w' := by
  obtain ⟨ad, cp, rfl⟩ : ∃ a c, cd = .slice a L.length c := by obtain ⟨a, c, e, _⟩ := h; exact ⟨a, c, by rw [e, List.length_map]⟩
  have hT : (Lit.int .u64 0).wf = true := by decide
  obtain ⟨W0, hW0⟩ : ∃ W0, w.alloc (.cells #[.int .i64 0, .int .i64 0, .slice none 0 0] 26) = W0 := ⟨_, rfl⟩
  have hb0 : Below w.heap.size w W0 := by rw [← hW0]; exact (Below.refl _ w).alloc (Nat.le_refl _) _
  have hz0 : W0.heap[w.heap.size]? = some (.cells #[.int .i64 0, .int .i64 0, .slice none 0 0] 26 (0, 0)) := by rw [← hW0]; exact alloc_at rfl
  have hs0 : W0.heap.size = w.heap.size + 1 := by rw [← hW0]; simp
  have HN := Lib.hid (code_new (h.below hb0 (Nat.le_refl _)))
  obtain ⟨W1, hW1⟩ : ∃ W1, W0.alloc (.cells #[.slice ad L.length cp, .int .i64 0, .int .u64 0] 65) = W1 := ⟨_, rfl⟩
  have hc1 : CurAt W1 W0.heap.size (.slice ad L.length cp) 0 := ⟨0, 0, _, Nat.le_refl _, Lib.hid hT, by rw [← hW1]; exact alloc_at rfl⟩
  have hr1 : CodeR W1 W0.heap.size (.slice ad L.length cp) L := by rw [← hW1]; exact HN.out _
  have hb1 : Below W0.heap.size W0 W1 := by rw [← hW1]; exact (Below.refl _ W0).alloc (Nat.le_refl _) _
  have hz1 := (hb1.block _ (by omega)).trans hz0
  have hs1 : W1.heap.size = w.heap.size + 2 := by rw [← hW1]; simp; omega
  rw [hs0] at hc1 hr1
  have HA := Lib.hid (standard_any (w.heap.size + 1) _ L 0 W1 (by omega) hc1 hr1)
  have HB1 : Hid (Below w.heap.size w W1) := Lib.hid (hb0.trans (hb1.mono (by omega)))
  have HZ1 := Lib.hid hz1
  have HR1 := Lib.hid hr1
  have HS1 := Lib.hid hs1
  have hW1' : W0.alloc (.cells #[.slice ad L.length cp, .int .i64 0, .int .u64 0] 65) = W1 := hW1
  clear hc1 hr1 hb1 hb0 hz0 hz1 h HN hW1 hs1
  go_enter Tryd.func14, Tryd.ntmps14
  go_wp2_with fail
  try rw [hW0]
  try rw [hW1']
  refine (HA.out).mono ?_
  rintro e w2 ⟨⟨up, lo, sv, rs, rfl, ho, hl⟩, hc2, hg2⟩
  obtain ⟨a, cap, rfl⟩ := own_form ho
  have HF2 : Hid (W1.heap.size ≤ w2.heap.size) := Lib.hid hg2.size
  have hal := grown_alloc w2 (.cells #[.int .i64 up, .int .i64 lo, .slice a rs.length cap] 26) none
  have hL3 : LcAt W1 (w2.alloc (.cells #[.int .i64 up, .int .i64 lo, .slice a rs.length cap] 26)) (w.heap.size + 1) (.slice ad L.length cp) (0 + 300) w2.heap.size up lo a cap rs := ⟨grown_trans hg2 (grown_any hal), hc2.old hal, alloc_at rfl, ho.alloc _, hg2.size, by have := HS1.out; omega⟩
  have HL3 := Lib.hid hL3
  clear hc2 hg2 hal ho hL3
  go_wp2_with fail
  try generalize w2.alloc (.cells #[.int .i64 up, .int .i64 lo, .slice a rs.length cap] 26) = w3 at HL3 ⊢
  generalize w2.heap.size = F at HL3 HF2 ⊢
  have HRX : Hid (∀ wi, W1.grownBy wi (some (w.heap.size + 1)) → CodeR wi (w.heap.size + 1) (.slice ad L.length cp) L) := Lib.hid (fun wi hg => HR1.out.grown hg)
  have HFF : Hid (w.heap.size + 2 ≤ F) := Lib.hid (by have := HF2.out; have := HS1.out; omega)
  refine (one_any (w.heap.size + 1) _ L (0 + 300) 2 w3 (by omega) ⟨by omega, by omega⟩ HL3.out.2.1 (HRX.out w3 HL3.out.1)).mono ?_
  rintro e w4 ⟨⟨b, rfl⟩, hc4, hg4⟩
  have HL4 := Lib.hid (HL3.out.step hg4 hc4)
  clear hc4 hg4
  cases b with
  | false =>
    obtain ⟨c0, c1, c2, f0, f1, f2⟩ := cell3 HL4.out.2.2.1
    go_wp2_with fail
    refine wp_region_held_drew (S := (fun u => u.cell? ⟨F, 0, none⟩ = some (.int .i64 up) ∧ u.cell? ⟨F, 1, none⟩ = some (.int .i64 lo) ∧ u.cell? ⟨F, 2, none⟩ = some (.slice a rs.length cap))) (by kernel_rfl) (⟨c0, c1, c2⟩) (fun hHeld => ?_)
    have HLd : Hid (LcAt W1 w4.drew (w.heap.size + 1) (.slice ad L.length cp) _ F up lo a cap rs) := Lib.hid (HL4.out.step (grown_drewN w4 1 _) (HL4.out.2.1.old (grown_drewN w4 1 none)))
    generalize w4.drew = wd at HLd hHeld ⊢
    clear c0 c1 c2 f0 f1 f2
    refine take1 (i := 0) (v := ?v5) (some 29) rfl rfl (by kernel_rfl) (by kernel_rfl) (by kernel_rfl) (fun _ _ _ h => h) (Or.inl ⟨by rfl, ?y5⟩) (by assumption) ?r5
    case y5 => (intro w hSw; (try dsimp only at hSw); go_simp; (first | done | with_reducible rfl))
    try simp only [Act.put, List.setIfInBounds_toArray, List.set_cons_zero, List.set_cons_succ]
    refine take1 (i := 1) (v := ?v6) (some 30) rfl rfl (by kernel_rfl) (by kernel_rfl) (by kernel_rfl) (fun _ _ _ h => h) (Or.inl ⟨by rfl, ?y6⟩) (by assumption) ?r6
    case y6 => (intro w hSw; (try dsimp only at hSw); go_simp; (first | done | with_reducible rfl))
    try simp only [Act.put, List.setIfInBounds_toArray, List.set_cons_zero, List.set_cons_succ]
    refine take1 (i := 2) (v := ?v7) (some 31) rfl rfl (by kernel_rfl) (by kernel_rfl) (by kernel_rfl) (fun _ _ _ h => h) (Or.inl ⟨by rfl, ?y7⟩) (by assumption) ?r7
    case y7 => (intro w hSw; (try dsimp only at hSw); go_simp; (first | done | with_reducible rfl))
    try simp only [Act.put, List.setIfInBounds_toArray, List.set_cons_zero, List.set_cons_succ]
    refine wpAnyH_ready (rs := [3]) (by kernel_rfl) (by simp) ?_
    refine AllReadyH.cons rfl (fun K hK => ?_) AllReadyH.nil
    go_simp
    go_at_call 34
    refine (rodOf_any (w.heap.size + 1) _ L _ up lo a cap rs.length wd (by omega) (by omega) HLd.out.2.1 (HRX.out wd HLd.out.1)).mono ?_
    rintro e w5 ⟨⟨z, rfl⟩, hc5, hg5⟩
    have HL5 := Lib.hid (HLd.out.step hg5 hc5)
    clear hc5 hg5
    obtain ⟨c0, c1, c2, f0, f1, f2⟩ := cell3 HL5.out.2.2.1
    refine hK.out _ _ (⟨c0, c1, c2⟩) (fun hHeld => ?_)
    clear hK K
    try simp only [Act.put, List.setIfInBounds_toArray, List.set_cons_zero, List.set_cons_succ]
    clear c0 c1 c2 f0 f1 f2
    have hz := (HL5.out.1.block w.heap.size (by have := HS1.out; omega) (by intro e; injection e with e; omega)).trans HZ1.out
    have hkz := heap_setCell_same _ w.heap.size 2 _ _ (.slice a rs.length cap) (heap_setCell_same _ w.heap.size 1 _ _ (.int .i64 lo) (heap_setCell_same w5 w.heap.size 0 _ _ (.int .i64 up) hz))
    have HO := Lib.hid (own_set3 HL5.out.2.2.2.1 (g := w.heap.size) (by have := HS1.out; omega) (.int .i64 up) (.int .i64 lo) (.slice a rs.length cap))
    have hkf := ((heap_setCell_other ((w5.setCell ⟨w.heap.size, 0, none⟩ (.int .i64 up)).setCell ⟨w.heap.size, 1, none⟩ (.int .i64 lo)) ⟨w.heap.size, 2, none⟩ F (.slice a rs.length cap) (by show F ≠ w.heap.size; have := HFF.out; omega)).trans ((heap_setCell_other (w5.setCell ⟨w.heap.size, 0, none⟩ (.int .i64 up)) ⟨w.heap.size, 1, none⟩ F (.int .i64 lo) (by show F ≠ w.heap.size; have := HFF.out; omega)).trans (heap_setCell_other w5 ⟨w.heap.size, 0, none⟩ F (.int .i64 up) (by show F ≠ w.heap.size; have := HFF.out; omega)))).trans HL5.out.2.2.1
    have hbl := bl_set3 (HB1.out.grown HL5.out.1 HB1.out.size (fun k e => by cases e; exact Nat.le_succ _)) (g := w.heap.size) (Nat.le_refl _) (.int .i64 up) (.int .i64 lo) (.slice a rs.length cap)
    obtain ⟨z0, z1, z2, y0, y1, y2⟩ := cell3 hz
    clear hz
    refine wpAnyH_ready (rs := [4]) (by kernel_rfl) (by simp) ?_
    refine AllReadyH.cons rfl (fun K hK => ?_) AllReadyH.nil
    go_simp
    clear z0 z1 z2 y0 y1 y2
    generalize ((w5.setCell ⟨w.heap.size, 0, none⟩ (.int .i64 up)).setCell ⟨w.heap.size, 1, none⟩ (.int .i64 lo)).setCell ⟨w.heap.size, 2, none⟩ (.slice a rs.length cap) = wz at hkz hkf hbl HO ⊢
    have HBL := Lib.hid hbl
    obtain ⟨c0, c1, c2, f0, f1, f2⟩ := cell3 hkf
    refine hK.out _ _ (⟨c0, c1, c2⟩) (fun hHeld => ?_)
    clear hK K
    try simp only [Act.put]
    refine take1 (i := 5) (v := ?v8) (some 3) rfl rfl (by kernel_rfl) (by kernel_rfl) (by kernel_rfl) (fun _ _ _ h => h) (Or.inl ⟨by rfl, ?y8⟩) (by assumption) ?r8
    case y8 => (intro w hSw; (try dsimp only at hSw); go_simp; (first | done | with_reducible rfl))
    try simp only [Act.put, List.setIfInBounds_toArray, List.set_cons_zero, List.set_cons_succ]
    refine wpAnyH_done (by kernel_rfl) ?_ _
    have hkz2 : wz.heap[w.heap.size]? = some (.cells #[.int .i64 up, .int .i64 lo, .slice a rs.length cap] 26 (0, 0)) := hkz
    obtain ⟨z0, z1, z2, y0, y1, y2⟩ := cell3 hkz2
    clear hkz hkz2 hkf hbl c0 c1 c2 f0 f1 f2
    go_wp2_with fail
    exact bodyPost_ret (v := .tuple #[.agg #[.int .i64 up, .int .i64 lo, .slice a rs.length cap], .int .i64 z]) (by simp [results, Tryd.results14, go_sem, z0, z1, z2]) rfl ⟨⟨_, _, _, rs, _, rfl, RodsR.of_own HO.out, by omega⟩, HBL.out⟩
  | true =>
    have HLN : Hid (rs.length ≤ 20) := Lib.hid hl
    have hq0 := HL4.out.2.2.1
    obtain ⟨c0, c1, c2, f0, f1, f2⟩ := cell3 hq0
    clear hq0
    go_wp2_with fail
    clear c0 c1 c2 f0 f1 f2
    go_loopw [6] (fun iv wr => ∃ (k : Nat) (rs' : List (Int × Int)), iv = .int .i64 k ∧ k ≤ rs.length ∧ rs'.length = rs.length ∧ LcAt W1 wr (w.heap.size + 1) (.slice ad L.length cp) (0 + 300 + 2 + 2 * k) F up lo a cap rs') (fun iv _ => rs.length - (intOf iv).toNat)
    case atStart => exact ⟨0, rs, rfl, Nat.zero_le _, rfl, HL4.out⟩
    case round =>
      obtain ⟨k, rs', rfl, hk, hln, hlc⟩ := hrel
      have HL0 := Lib.hid hlc
      have HLL := Lib.hid hln
      clear hlc hln
      by_cases hlt : k < rs.length
      · have hkr : k < rs'.length := by rw [HLL.out]; exact hlt
        obtain ⟨g, cap', hga⟩ := own_block HL0.out.2.2.2.1 (by omega)
        injection hga with hga _ hcap
        subst hga
        subst hcap
        obtain ⟨c0, c1, c2, f0, f1, f2⟩ := cell3 HL0.out.2.2.1
        have z2 : (k : Int) < (rs'.length : Int) := by omega
        go_wp2_with fail
        refine (one_any (w.heap.size + 1) _ L _ 3 wr (by omega) ⟨by omega, by omega⟩ HL0.out.2.1 (HRX.out wr HL0.out.1)).mono ?_
        rintro e w6 ⟨⟨b, rfl⟩, hc6, hg6⟩
        have HL6 := Lib.hid (HL0.out.step hg6 hc6)
        clear hc6 hg6 c0 c1 c2 f0 f1 f2
        cases b with
        | true =>
          go_wp2_with fail
          go_roundw
          case rel => exact ⟨k + 1, rs', by first | rfl | go_num, by omega, HLL.out, (by first | exact HL6.out | (have h := HL6.out; rw [show 0 + 300 + 2 + 2 * k + 2 = 0 + 300 + 2 + 2 * (k + 1) by omega] at h; exact h))⟩
          case measure => simp [intOf]; omega
        | false =>
          obtain ⟨c0, c1, c2, f0, f1, f2⟩ := cell3 HL6.out.2.2.1
          have hrow := HL6.out.2.2.2.1
          have hfl := flat_at rs' k hkr
          have x0 := (hrow.cellAt (k * 2) (by omega)).trans hfl.1
          have x1 := (hrow.cellAt (k * 2 + 1) (by omega)).trans hfl.2
          have y0 := hrow.frozenAt (k * 2)
          have y1 := hrow.frozenAt (k * 2 + 1)
          have z1 : (0 : Int) ≤ (k : Int) := by omega
          have hset := HL6.out.set k hkr (1, 4)
          have HSET := Lib.hid hset
          clear hrow hfl hset
          go_wp2_with fail
          go_roundw
          case rel => exact ⟨k + 1, rs'.set k (1, 4), by first | rfl | go_num, by omega, by rw [List.length_set]; exact HLL.out, (by first | exact HSET.out | (have h := HSET.out; rw [show 0 + 300 + 2 + 2 * k + 2 = 0 + 300 + 2 + 2 * (k + 1) by omega] at h; exact h))⟩
          case measure => simp [intOf]; omega
      · have hke : k = rs.length := by omega
        have z2 : ¬ ((k : Int) < (rs'.length : Int)) := by have := HLL.out; omega
        obtain ⟨c0, c1, c2, f0, f1, f2⟩ := cell3 HL0.out.2.2.1
        have hl' : rs'.length ≤ 20 := by have := HLL.out; omega
        go_wp2_with fail
        clear c0 c1 c2 f0 f1 f2
        obtain ⟨c0, c1, c2, f0, f1, f2⟩ := cell3 HL0.out.2.2.1
        go_wp2_with fail
        refine wp_region_held_drew (S := (fun u => u.cell? ⟨F, 0, none⟩ = some (.int .i64 up) ∧ u.cell? ⟨F, 1, none⟩ = some (.int .i64 lo) ∧ u.cell? ⟨F, 2, none⟩ = some (.slice a rs'.length cap))) (by kernel_rfl) (⟨c0, c1, c2⟩) (fun hHeld => ?_)
        have HLd : Hid (LcAt W1 wr.drew (w.heap.size + 1) (.slice ad L.length cp) _ F up lo a cap rs') := Lib.hid (HL0.out.step (grown_drewN wr 1 _) (HL0.out.2.1.old (grown_drewN wr 1 none)))
        generalize wr.drew = wd at HLd hHeld ⊢
        clear c0 c1 c2 f0 f1 f2
        refine take1 (i := 0) (v := ?v9) (some 29) rfl rfl (by kernel_rfl) (by kernel_rfl) (by kernel_rfl) (fun _ _ _ h => h) (Or.inl ⟨by rfl, ?y9⟩) (by assumption) ?r9
        case y9 => (intro w hSw; (try dsimp only at hSw); go_simp; (first | done | with_reducible rfl))
        try simp only [Act.put, List.setIfInBounds_toArray, List.set_cons_zero, List.set_cons_succ]
        refine take1 (i := 1) (v := ?v10) (some 30) rfl rfl (by kernel_rfl) (by kernel_rfl) (by kernel_rfl) (fun _ _ _ h => h) (Or.inl ⟨by rfl, ?y10⟩) (by assumption) ?r10
        case y10 => (intro w hSw; (try dsimp only at hSw); go_simp; (first | done | with_reducible rfl))
        try simp only [Act.put, List.setIfInBounds_toArray, List.set_cons_zero, List.set_cons_succ]
        refine take1 (i := 2) (v := ?v11) (some 31) rfl rfl (by kernel_rfl) (by kernel_rfl) (by kernel_rfl) (fun _ _ _ h => h) (Or.inl ⟨by rfl, ?y11⟩) (by assumption) ?r11
        case y11 => (intro w hSw; (try dsimp only at hSw); go_simp; (first | done | with_reducible rfl))
        try simp only [Act.put, List.setIfInBounds_toArray, List.set_cons_zero, List.set_cons_succ]
        refine wpAnyH_ready (rs := [3]) (by kernel_rfl) (by simp) ?_
        refine AllReadyH.cons rfl (fun K hK => ?_) AllReadyH.nil
        go_simp
        go_at_call 34
        refine (rodOf_any (w.heap.size + 1) _ L _ up lo a cap rs'.length wd (by omega) (by omega) HLd.out.2.1 (HRX.out wd HLd.out.1)).mono ?_
        rintro e w5 ⟨⟨z, rfl⟩, hc5, hg5⟩
        have HL5 := Lib.hid (HLd.out.step hg5 hc5)
        clear hc5 hg5
        obtain ⟨c0, c1, c2, f0, f1, f2⟩ := cell3 HL5.out.2.2.1
        refine hK.out _ _ (⟨c0, c1, c2⟩) (fun hHeld => ?_)
        clear hK K
        try simp only [Act.put, List.setIfInBounds_toArray, List.set_cons_zero, List.set_cons_succ]
        clear c0 c1 c2 f0 f1 f2
        have hz := (HL5.out.1.block w.heap.size (by have := HS1.out; omega) (by intro e; injection e with e; omega)).trans HZ1.out
        have hkz := heap_setCell_same _ w.heap.size 2 _ _ (.slice a rs'.length cap) (heap_setCell_same _ w.heap.size 1 _ _ (.int .i64 lo) (heap_setCell_same w5 w.heap.size 0 _ _ (.int .i64 up) hz))
        have HO := Lib.hid (own_set3 HL5.out.2.2.2.1 (g := w.heap.size) (by have := HS1.out; omega) (.int .i64 up) (.int .i64 lo) (.slice a rs'.length cap))
        have hkf := ((heap_setCell_other ((w5.setCell ⟨w.heap.size, 0, none⟩ (.int .i64 up)).setCell ⟨w.heap.size, 1, none⟩ (.int .i64 lo)) ⟨w.heap.size, 2, none⟩ F (.slice a rs'.length cap) (by show F ≠ w.heap.size; have := HFF.out; omega)).trans ((heap_setCell_other (w5.setCell ⟨w.heap.size, 0, none⟩ (.int .i64 up)) ⟨w.heap.size, 1, none⟩ F (.int .i64 lo) (by show F ≠ w.heap.size; have := HFF.out; omega)).trans (heap_setCell_other w5 ⟨w.heap.size, 0, none⟩ F (.int .i64 up) (by show F ≠ w.heap.size; have := HFF.out; omega)))).trans HL5.out.2.2.1
        have hbl := bl_set3 (HB1.out.grown HL5.out.1 HB1.out.size (fun k e => by cases e; exact Nat.le_succ _)) (g := w.heap.size) (Nat.le_refl _) (.int .i64 up) (.int .i64 lo) (.slice a rs'.length cap)
        obtain ⟨z0, z1, z2, y0, y1, y2⟩ := cell3 hz
        clear hz
        refine wpAnyH_ready (rs := [4]) (by kernel_rfl) (by simp) ?_
        refine AllReadyH.cons rfl (fun K hK => ?_) AllReadyH.nil
        go_simp
        clear z0 z1 z2 y0 y1 y2
        generalize ((w5.setCell ⟨w.heap.size, 0, none⟩ (.int .i64 up)).setCell ⟨w.heap.size, 1, none⟩ (.int .i64 lo)).setCell ⟨w.heap.size, 2, none⟩ (.slice a rs'.length cap) = wz at hkz hkf hbl HO ⊢
        have HBL := Lib.hid hbl
        obtain ⟨c0, c1, c2, f0, f1, f2⟩ := cell3 hkf
        refine hK.out _ _ (⟨c0, c1, c2⟩) (fun hHeld => ?_)
        clear hK K
        try simp only [Act.put]
        refine take1 (i := 5) (v := ?v12) (some 3) rfl rfl (by kernel_rfl) (by kernel_rfl) (by kernel_rfl) (fun _ _ _ h => h) (Or.inl ⟨by rfl, ?y12⟩) (by assumption) ?r12
        case y12 => (intro w hSw; (try dsimp only at hSw); go_simp; (first | done | with_reducible rfl))
        try simp only [Act.put, List.setIfInBounds_toArray, List.set_cons_zero, List.set_cons_succ]
        refine wpAnyH_done (by kernel_rfl) ?_ _
        have hkz2 : wz.heap[w.heap.size]? = some (.cells #[.int .i64 up, .int .i64 lo, .slice a rs'.length cap] 26 (0, 0)) := hkz
        obtain ⟨z0, z1, z2, y0, y1, y2⟩ := cell3 hkz2
        clear hkz hkz2 hkf hbl c0 c1 c2 f0 f1 f2
        go_wp2_with fail
        exact bodyPost_ret (v := .tuple #[.agg #[.int .i64 up, .int .i64 lo, .slice a rs'.length cap], .int .i64 z]) (by simp [results, Tryd.results14, go_sem, z0, z1, z2]) rfl ⟨⟨_, _, _, rs', _, rfl, RodsR.of_own HO.out, by omega⟩, HBL.out⟩

set_option maxRecDepth 100000 in
set_option maxHeartbeats 1600000 in
theorem drawKindOfAdd_any (cd : Value) (L : List UInt8) (w : World) (h : SlR w cd (L.map fun c => .int .u8 (c.toNat : Int))) :
    Calls Tryd.prog 19 #[cd] w fun e w' => (∃ v d : Int, e = .returned (.tuple #[.int .i64 v, .int .i64 d])) ∧ Below w.heap.size w w' := by
  obtain ⟨ad, cp, rfl⟩ : ∃ a c, cd = .slice a L.length c := by obtain ⟨a, c, e, _⟩ := h; exact ⟨a, c, by rw [e, List.length_map]⟩
  have hT : (Lit.int .u64 0).wf = true := by decide
  have HN := Lib.hid (code_new h)
  obtain ⟨W1, hW1⟩ : ∃ W1, w.alloc (.cells #[.slice ad L.length cp, .int .i64 0, .int .u64 0] 65) = W1 := ⟨_, rfl⟩
  have hc1 : CurAt W1 w.heap.size (.slice ad L.length cp) 0 := ⟨0, 0, _, Nat.le_refl _, Lib.hid hT, by rw [← hW1]; exact alloc_at rfl⟩
  have hr1 : CodeR W1 w.heap.size (.slice ad L.length cp) L := by rw [← hW1]; exact HN.out _
  have hb1 : Below w.heap.size w W1 := by rw [← hW1]; exact (Below.refl _ w).alloc (Nat.le_refl _) _
  have HC1 := Lib.hid hc1
  have HR1 := Lib.hid hr1
  have HB1 := Lib.hid hb1
  clear hc1 hr1 hb1 h HN
  go_enter Tryd.func19, Tryd.ntmps19
  go_wp2_with fail
  try rw [hW1]
  refine (pick_any w.heap.size _ L 0 11 W1 (by omega) (by omega) (by omega) HC1.out HR1.out).mono ?_
  rintro e w2 ⟨⟨r, rfl, r0, r1⟩, hc2, hg2⟩
  have HC2 := Lib.hid hc2
  have HG2 := Lib.hid hg2
  clear hc2 hg2
  go_wp2_with fail
  refine (pick_any w.heap.size _ L _ 17 w2 (by omega) (by omega) (by omega) HC2.out (HR1.out.grown HG2.out)).mono ?_
  rintro e w3 ⟨⟨s, rfl, s0, s1⟩, hc3, hg3⟩
  have HC3 := Lib.hid hc3
  have HG3 := Lib.hid (grown_trans HG2.out hg3)
  clear hc3 hg3
  go_wp2_with fail
  refine (pick_any w.heap.size _ L _ 11 w3 (by omega) (by omega) (by omega) HC3.out (HR1.out.grown HG3.out)).mono ?_
  rintro e w4 ⟨⟨u, rfl, u0, u1⟩, hc4, hg4⟩
  have HG4 := Lib.hid (grown_trans HG3.out hg4)
  clear hc4 hg4
  go_wp2_with fail
  go_ret2
  exact ⟨⟨_, _, rfl⟩, HB1.out.grown HG4.out HB1.out.size (fun k e => by cases e; exact Nat.le_refl _)⟩

end Go.Proofs.YtjkjaadcdolbhaaDoor
