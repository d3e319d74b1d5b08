/- The draws of dividing. -/
import Derived.Test.YthmbehknacjodaaKc
import Derived.Test.YthmbehknacjodaaKa
import Derived.Test.YthmbehknacjodaaNd1
import Derived.Test.YthmbehknacjodaaKh
import Derived.Test.YthmbehknacjodaaOwn
import Derived.Test.YthmbehknacjodaaKg
namespace Go.Proofs.Ythmbehknacjodaa
set_option linter.unusedVariables false
open Go.RowKit
set_option linter.unusedSimpArgs false

/-- The reader of a code, made. -/
theorem cur_newD {w : World} {cd : Value} {L : List UInt8} (h : SlR w cd (L.map fun c => .int .u8 (c.toNat : Int))) : ∃ W1, w.alloc (.cells #[cd, .int .i64 0, .int .u64 0] 96) = W1 ∧ CurAt W1 w.heap.size cd 0 ∧ CodeR W1 w.heap.size cd L ∧ Below w.heap.size w W1 :=
  ⟨_, rfl, ⟨0, 0, _, Nat.le_refl _, Lib.hid (by decide), alloc_at rfl⟩, code_new h _, (Below.refl _ w).alloc (Nat.le_refl _) _⟩
def dndL : List Int := [0, 1, 7, 36, 100, 999, 1024, 5040, 12345, 99999, 640000, 99999999, 100000000, -1, 27182818, 360]
set_option maxRecDepth 100000 in
set_option maxHeartbeats 800000 in
theorem dividend_any (cb : Nat) (cd : Value) (L : List UInt8) (n : Nat) (w : World) (hn : n < 4611686018427387000) (hc : CurAt w cb cd n) (hr : CodeR w cb cd L) :
    Calls Try.prog 99 #[.pointer (some ⟨cb, 0, none⟩)] w fun e w' => (∃ z : Int, e = .returned (.int .i64 z)) ∧ CurAt w' cb cd (n + 2) ∧ w.grownBy w' (some cb) := by
  have hlt := hc.lt
  have hga := grown_alloc w (.cells (dndL.map (Value.int .i64)).toArray 3) none
  have hO := among_any cb cd L n _ dndL _ hn (by decide) (slr_lit w (dndL.map (Value.int .i64)) 3 (by decide)) (fun a m c e => by cases e; show w.heap.size ≠ cb; omega) (hc.old hga) (hr.grown (grown_any hga))
  have HO := Lib.hid hO
  have HGA := Lib.hid (grown_any (r := some cb) hga)
  clear hO hga hc hr
  go_enter Try.func99, Try.ntmps99
  go_wp2_with fail
  refine (HO.out).mono ?_
  rintro e w1 ⟨⟨x, rfl, hx⟩, hc1, hg⟩
  have HC1 := Lib.hid hc1
  have HG := Lib.hid hg
  clear hc1 hg hx
  go_wp2_with fail
  go_ret
  exact ⟨⟨x, rfl⟩, HC1.out, grown_trans HGA.out HG.out⟩
def dvsL : List Int := [1, 2, 3, 7, 8, 9, 12, 19, 28, 37, 99, 100, 199, 499, 7919, 9999, 0, 10000]
set_option maxRecDepth 100000 in
set_option maxHeartbeats 800000 in
theorem divisor_any (cb : Nat) (cd : Value) (L : List UInt8) (n : Nat) (w : World) (hn : n < 4611686018427387000) (hc : CurAt w cb cd n) (hr : CodeR w cb cd L) :
    Calls Try.prog 100 #[.pointer (some ⟨cb, 0, none⟩)] w fun e w' => (∃ z : Int, e = .returned (.int .i64 z)) ∧ CurAt w' cb cd (n + 2) ∧ w.grownBy w' (some cb) := by
  have hlt := hc.lt
  have hga := grown_alloc w (.cells (dvsL.map (Value.int .i64)).toArray 3) none
  have hO := among_any cb cd L n _ dvsL _ hn (by decide) (slr_lit w (dvsL.map (Value.int .i64)) 3 (by decide)) (fun a m c e => by cases e; show w.heap.size ≠ cb; omega) (hc.old hga) (hr.grown (grown_any hga))
  have HO := Lib.hid hO
  have HGA := Lib.hid (grown_any (r := some cb) hga)
  clear hO hga hc hr
  go_enter Try.func100, Try.ntmps100
  go_wp2_with fail
  refine (HO.out).mono ?_
  rintro e w1 ⟨⟨x, rfl, hx⟩, hc1, hg⟩
  have HC1 := Lib.hid hc1
  have HG := Lib.hid hg
  clear hc1 hg hx
  go_wp2_with fail
  go_ret
  exact ⟨⟨x, rfl⟩, HC1.out, grown_trans HGA.out HG.out⟩
set_option maxRecDepth 100000 in
set_option maxHeartbeats 1600000 in
theorem drawDivisionSteps_any (cd : Value) (L : List UInt8) (w : World) (h : SlR w cd (L.map fun c => .int .u8 (c.toNat : Int))) :
    Calls Try.prog 47 #[cd] w fun e w' => (∃ x y : Int, e = .returned (.tuple #[.int .i64 x, .int .i64 y])) ∧ Below w.heap.size w w' := by
  obtain ⟨ad, cp, rfl⟩ : ∃ a c, cd = .slice a L.length c := by obtain ⟨a, c, e, _⟩ := h; exact ⟨a, c, by rw [e, List.length_map]⟩
  obtain ⟨W1, hW1, hc1, hr1, hb1⟩ := cur_newD h
  have HF1 := Lib.hid (dividend_any w.heap.size _ L 0 W1 (by omega) hc1 hr1)
  have HR1 := Lib.hid hr1
  have HB1 := Lib.hid hb1
  have hW1l : Hid (w.heap.size < W1.heap.size) := Lib.hid (by rw [← hW1]; simp)
  clear hc1 hr1 hb1 h
  go_enter Try.func47, Try.ntmps47
  go_wp2_with fail
  try rw [hW1]
  refine (HF1.out).mono ?_
  rintro e w2 ⟨⟨x, rfl⟩, hc2, hg2⟩
  have HG2 := Lib.hid hg2
  have HB2 := Lib.hid (HB1.out.grown hg2 HB1.out.size (fun k e => by cases e; exact Nat.le_refl _))
  have HC2 := Lib.hid hc2
  clear hc2 hg2
  go_wp2_with fail
  refine (divisor_any w.heap.size _ L (0 + 2) w2 (by omega) HC2.out (HR1.out.grown HG2.out)).mono ?_
  rintro e w3 ⟨⟨y, rfl⟩, hc3, hg3⟩
  have HG3 := Lib.hid (grown_trans HG2.out hg3)
  have HB3 := Lib.hid (HB2.out.grown hg3 HB2.out.size (fun k e => by cases e; exact Nat.le_refl _))
  have HC3 := Lib.hid hc3
  clear hc3 hg3
  go_wp2_with fail
  go_ret2
  exact ⟨⟨x, y, rfl⟩, HB3.out⟩
set_option maxRecDepth 100000 in
set_option maxHeartbeats 800000 in
theorem drawCorrections_any (cd : Value) (L : List UInt8) (w : World) (h : SlR w cd (L.map fun c => .int .u8 (c.toNat : Int))) :
    Calls Try.prog 61 #[cd] w fun e w' => (∃ x y : Int, e = .returned (.tuple #[.int .i64 x, .int .i64 y])) ∧ Below w.heap.size w w' := by
  have HD := Lib.hid (drawDivisionSteps_any cd L w h)
  obtain ⟨ad, cp, rfl⟩ : ∃ a c, cd = .slice a L.length c := by obtain ⟨a, c, e, _⟩ := h; exact ⟨a, c, by rw [e, List.length_map]⟩
  clear h
  go_enter Try.func61, Try.ntmps61
  go_wp2_with fail
  refine (HD.out).mono ?_
  rintro e w2 ⟨⟨x, y, rfl⟩, hb⟩
  have HB := Lib.hid hb
  clear hb
  go_wp2_with fail
  go_ret2
  exact ⟨⟨x, y, rfl⟩, HB.out⟩
set_option maxRecDepth 100000 in
set_option maxHeartbeats 3200000 in
theorem drawQuotientOn_any (cd : Value) (L : List UInt8) (w : World) (h : SlR w cd (L.map fun c => .int .u8 (c.toNat : Int))) :
    Calls Try.prog 56 #[cd] w fun e w' => (∃ (up lo : Int) (sv : Value) (rs : List (Int × Int)) (z : Int), e = .returned (.tuple #[.agg #[.int .i64 up, .int .i64 lo, sv], .int .i64 z]) ∧ RodsR w' sv rs ∧ rs.length ≤ 20) ∧ Below w.heap.size w w' := by
  obtain ⟨ad, cp, rfl⟩ : ∃ a c, cd = .slice a L.length c := by obtain ⟨a, c, e, _⟩ := h; exact ⟨a, c, by rw [e, List.length_map]⟩
  have hT : (Lit.int .u64 0).wf = true := by decide
  obtain ⟨W0, hW0⟩ : ∃ W0, w.alloc (.cells #[.int .i64 0, .int .i64 0, .slice none 0 0] 42) = W0 := ⟨_, rfl⟩
  have hb0 : Below w.heap.size w W0 := by rw [← hW0]; exact (Below.refl _ w).alloc (Nat.le_refl _) _
  have hz0 : W0.heap[w.heap.size]? = some (.cells #[.int .i64 0, .int .i64 0, .slice none 0 0] 42 (0, 0)) := by rw [← hW0]; exact alloc_at rfl
  have hs0 : W0.heap.size = w.heap.size + 1 := by rw [← hW0]; simp
  have HN := Lib.hid (code_new (h.below hb0 (Nat.le_refl _)))
  obtain ⟨W1, hW1⟩ : ∃ W1, W0.alloc (.cells #[.slice ad L.length cp, .int .i64 0, .int .u64 0] 96) = W1 := ⟨_, rfl⟩
  have hc1 : CurAt W1 W0.heap.size (.slice ad L.length cp) 0 := ⟨0, 0, _, Nat.le_refl _, Lib.hid hT, by rw [← hW1]; exact alloc_at rfl⟩
  have hr1 : CodeR W1 W0.heap.size (.slice ad L.length cp) L := by rw [← hW1]; exact HN.out _
  have hb1 : Below W0.heap.size W0 W1 := by rw [← hW1]; exact (Below.refl _ W0).alloc (Nat.le_refl _) _
  have hz1 := (hb1.block _ (by omega)).trans hz0
  have hs1 : W1.heap.size = w.heap.size + 2 := by rw [← hW1]; simp; omega
  rw [hs0] at hc1 hr1
  have HA := Lib.hid (standard_any (w.heap.size + 1) _ L 0 W1 (by omega) hc1 hr1)
  have HB1 : Hid (Below w.heap.size w W1) := Lib.hid (hb0.trans (hb1.mono (by omega)))
  have HZ1 := Lib.hid hz1
  have HR1 := Lib.hid hr1
  have HS1 := Lib.hid hs1
  have hW1' : W0.alloc (.cells #[.slice ad L.length cp, .int .i64 0, .int .u64 0] 96) = W1 := hW1
  clear hc1 hr1 hb1 hb0 hz0 hz1 h HN hW1 hs1
  go_enter Try.func56, Try.ntmps56
  go_wp2_with fail
  try rw [hW0]
  try rw [hW1']
  refine (HA.out).mono ?_
  rintro e w2 ⟨⟨up, lo, sv, rs, rfl, ho, hl⟩, hc2, hg2⟩
  obtain ⟨a, c, rfl⟩ : ∃ a c, sv = .slice a rs.length c := by obtain ⟨a, c, e, _⟩ := RodsR.of_own ho; exact ⟨a, c, e⟩
  have HO2 := Lib.hid ho
  have HG2 := Lib.hid hg2
  have HC2 := Lib.hid hc2
  have HRX : Hid (∀ wi, W1.grownBy wi (some (w.heap.size + 1)) → CodeR wi (w.heap.size + 1) (.slice ad L.length cp) L) := Lib.hid (fun wi hg => HR1.out.grown hg)
  have HS2 : Hid (w.heap.size + 2 ≤ w2.heap.size) := Lib.hid (by have := hg2.size; have := HS1.out; omega)
  clear ho hc2 hg2
  go_wp2_with fail
  refine (divisor_any (w.heap.size + 1) _ L (0 + 300) w2 (by omega) HC2.out (HRX.out w2 HG2.out)).mono ?_
  rintro e w3 ⟨⟨x, rfl⟩, hc, hg⟩
  have HG3 := Lib.hid (grown_trans HG2.out hg)
  have HO3 := Lib.hid (own_grown HO2.out hg (by have := HS1.out; omega))
  have hz3 := (HG3.out.block w.heap.size (by have := HS1.out; omega) (by intro e; injection e with e; omega)).trans HZ1.out
  have HZ3 := Lib.hid hz3
  have HB := Lib.hid (HB1.out.grown HG3.out HB1.out.size (fun k e => by cases e; exact Nat.le_succ _))
  obtain ⟨z0, z1, z2, y0, y1, y2⟩ := cell3 hz3
  have HO := Lib.hid (own_set3 HO3.out (g := w.heap.size) (by have := HS1.out; omega) (.int .i64 up) (.int .i64 lo) (.slice a rs.length c))
  clear hz3 hc hg
  go_wp2_with fail
  exact bodyPost_ret (v := .tuple #[.agg #[.int .i64 up, .int .i64 lo, .slice a rs.length c], .int .i64 x]) (by simp [results, Try.results56, go_sem, z0, z1, z2]) rfl ⟨⟨_, _, _, rs, _, rfl, RodsR.of_own HO.out, hl⟩, bl_set3 HB.out (g := w.heap.size) (Nat.le_refl _) _ _ _⟩

end Go.Proofs.Ythmbehknacjodaa
