/- Parts laid as one: Dmm, Dmn. -/
import Derived.Test.YthmbehknacjodaaKc
import Derived.Test.YthmbehknacjodaaKa
import Derived.Test.YthmbehknacjodaaK9a
/-! Dmm -/
namespace Go.Proofs.Ythmbehknacjodaa
set_option linter.unusedVariables false
open Go.RowKit

def facL : List Int := [0, 1, 7, 9, 12, 25, 36, 99, 105, 384, 640, 999, 2048, 9999, 10000, -1]
theorem facL_bd (z : Int) (h : z ∈ facL) : -1 ≤ z ∧ z ≤ 10000 := by
  simp only [facL, List.mem_cons, List.not_mem_nil, or_false] at h; omega
set_option maxRecDepth 100000 in
set_option maxHeartbeats 800000 in
theorem factor_any (cb : Nat) (cd : Value) (L : List UInt8) (n : Nat) (w : World) (hn : n < 4611686018427387000) (hc : CurAt w cb cd n) (hr : CodeR w cb cd L) :
    Calls Try.prog 88 #[.pointer (some ⟨cb, 0, none⟩)] w fun e w' => (∃ z : Int, e = .returned (.int .i64 z) ∧ -1 ≤ z ∧ z ≤ 10000) ∧ CurAt w' cb cd (n + 2) ∧ w.grownBy w' (some cb) := by
  have hlt := hc.lt
  have hga := grown_alloc w (.cells (facL.map (Value.int .i64)).toArray 3) none
  have hO := among_any cb cd L n _ facL _ hn (by decide) (slr_lit w (facL.map (Value.int .i64)) 3 (by decide)) (fun a m c e => by cases e; show w.heap.size ≠ cb; omega) (hc.old hga) (hr.grown (grown_any hga))
  have HO := Lib.hid hO
  have HGA := Lib.hid (grown_any (r := some cb) hga)
  clear hO hga hc hr
  go_enter Try.func88, Try.ntmps88
  go_wp2_with fail
  refine (HO.out).mono ?_
  rintro e w1 ⟨⟨x, rfl, hx⟩, hc1, hg⟩
  have HX := Lib.hid (facL_bd x hx)
  have HC1 := Lib.hid hc1
  have HG := Lib.hid hg
  clear hc1 hg hx
  go_wp2_with fail
  go_ret
  exact ⟨⟨x, rfl, HX.out⟩, HC1.out, grown_trans HGA.out HG.out⟩
/-- The reader of a code, made. -/
theorem cur_new {w : World} {cd : Value} {L : List UInt8} (h : SlR w cd (L.map fun c => .int .u8 (c.toNat : Int))) : ∃ W1, w.alloc (.cells #[cd, .int .i64 0, .int .u64 0] 96) = W1 ∧ CurAt W1 w.heap.size cd 0 ∧ CodeR W1 w.heap.size cd L ∧ Below w.heap.size w W1 :=
  ⟨_, rfl, ⟨0, 0, _, Nat.le_refl _, Lib.hid (by decide), alloc_at rfl⟩, code_new h _, (Below.refl _ w).alloc (Nat.le_refl _) _⟩
theorem below_cur {w W1 W2 : World} {cb : Nat} (hb : Below w.heap.size w W1) (hg : W1.grownBy W2 (some cb)) (h : w.heap.size ≤ cb) : Below w.heap.size w W2 := hb.grown hg hb.size (fun k e => by cases e; exact h)
set_option maxRecDepth 100000 in
set_option maxHeartbeats 1600000 in
theorem drawPartsOf_any (cd : Value) (L : List UInt8) (w : World) (h : SlR w cd (L.map fun c => .int .u8 (c.toNat : Int))) :
    Calls Try.prog 69 #[cd] w fun e w' => (∃ x y : Int, e = .returned (.tuple #[.int .i64 x, .int .i64 y]) ∧ (-1 ≤ x ∧ x ≤ 10000) ∧ (-1 ≤ y ∧ y ≤ 10000)) ∧ Below w.heap.size w w' := by
  obtain ⟨ad, cp, rfl⟩ : ∃ a c, cd = .slice a L.length c := by obtain ⟨a, c, e, _⟩ := h; exact ⟨a, c, by rw [e, List.length_map]⟩
  obtain ⟨W1, hW1, hc1, hr1, hb1⟩ := cur_new h
  have HF1 := Lib.hid (factor_any w.heap.size _ L 0 W1 (by omega) hc1 hr1)
  have HR1 := Lib.hid hr1
  have HB1 := Lib.hid hb1
  clear hc1 hr1 hb1 h
  go_enter Try.func69, Try.ntmps69
  go_wp2_with fail
  try rw [hW1]
  refine (HF1.out).mono ?_
  rintro e w2 ⟨⟨x, rfl, hx⟩, hc2, hg2⟩
  have HF2 := Lib.hid (factor_any w.heap.size _ L (0 + 2) w2 (by omega) hc2 (HR1.out.grown hg2))
  have HB2 := Lib.hid (below_cur HB1.out hg2 (Nat.le_refl _))
  have HX := Lib.hid hx
  clear hc2 hg2 hx
  go_wp2_with fail
  refine (HF2.out).mono ?_
  rintro e w3 ⟨⟨y, rfl, hy⟩, hc3, hg3⟩
  have HB3 := Lib.hid (HB2.out.grown hg3 HB2.out.size (fun k e => by cases e; exact Nat.le_refl _))
  have HY := Lib.hid hy
  clear hc3 hg3 hy
  go_wp2_with fail
  go_ret2
  exact ⟨⟨x, y, rfl, HX.out, HY.out⟩, HB3.out⟩
set_option maxRecDepth 100000 in
set_option maxHeartbeats 800000 in
theorem drawTotals_any (cd : Value) (L : List UInt8) (w : World) (h : SlR w cd (L.map fun c => .int .u8 (c.toNat : Int))) :
    Calls Try.prog 15 #[cd] w fun e w' => (∃ x y : Int, e = .returned (.tuple #[.int .i64 x, .int .i64 y]) ∧ (-1 ≤ x ∧ x ≤ 10000) ∧ (-1 ≤ y ∧ y ≤ 10000)) ∧ Below w.heap.size w w' := by
  have HD := Lib.hid (drawPartsOf_any cd L w h)
  obtain ⟨ad, cp, rfl⟩ : ∃ a c, cd = .slice a L.length c := by obtain ⟨a, c, e, _⟩ := h; exact ⟨a, c, by rw [e, List.length_map]⟩
  clear h
  go_enter Try.func15, Try.ntmps15
  go_wp2_with fail
  refine (HD.out).mono ?_
  rintro e w2 ⟨⟨x, y, rfl, hx, hy⟩, hb⟩
  have HX := Lib.hid (And.intro hx hy)
  have HB := Lib.hid hb
  clear hx hy hb
  go_wp2_with fail
  go_ret2
  exact ⟨⟨x, y, rfl, HX.out.1, HX.out.2⟩, HB.out⟩
set_option maxRecDepth 100000 in
set_option maxHeartbeats 800000 in
theorem drawTimesCarries_any (cd : Value) (L : List UInt8) (w : World) (h : SlR w cd (L.map fun c => .int .u8 (c.toNat : Int))) :
    Calls Try.prog 45 #[cd] w fun e w' => (∃ x y : Int, e = .returned (.tuple #[.int .i64 x, .int .i64 y]) ∧ (-1 ≤ x ∧ x ≤ 10000) ∧ (-1 ≤ y ∧ y ≤ 10000)) ∧ Below w.heap.size w w' := by
  have HD := Lib.hid (drawPartsOf_any cd L w h)
  obtain ⟨ad, cp, rfl⟩ : ∃ a c, cd = .slice a L.length c := by obtain ⟨a, c, e, _⟩ := h; exact ⟨a, c, by rw [e, List.length_map]⟩
  clear h
  go_enter Try.func45, Try.ntmps45
  go_wp2_with fail
  refine (HD.out).mono ?_
  rintro e w2 ⟨⟨x, y, rfl, hx, hy⟩, hb⟩
  have HX := Lib.hid (And.intro hx hy)
  have HB := Lib.hid hb
  clear hx hy hb
  go_wp2_with fail
  go_ret2
  exact ⟨⟨x, y, rfl, HX.out.1, HX.out.2⟩, HB.out⟩
set_option maxRecDepth 100000 in
set_option maxHeartbeats 800000 in
theorem drawByDoubling_any (cd : Value) (L : List UInt8) (w : World) (h : SlR w cd (L.map fun c => .int .u8 (c.toNat : Int))) :
    Calls Try.prog 46 #[cd] w fun e w' => (∃ x y : Int, e = .returned (.tuple #[.int .i64 x, .int .i64 y]) ∧ (-1 ≤ x ∧ x ≤ 10000) ∧ (-1 ≤ y ∧ y ≤ 10000)) ∧ Below w.heap.size w w' := by
  have HD := Lib.hid (drawPartsOf_any cd L w h)
  obtain ⟨ad, cp, rfl⟩ : ∃ a c, cd = .slice a L.length c := by obtain ⟨a, c, e, _⟩ := h; exact ⟨a, c, by rw [e, List.length_map]⟩
  clear h
  go_enter Try.func46, Try.ntmps46
  go_wp2_with fail
  refine (HD.out).mono ?_
  rintro e w2 ⟨⟨x, y, rfl, hx, hy⟩, hb⟩
  have HX := Lib.hid (And.intro hx hy)
  have HB := Lib.hid hb
  clear hx hy hb
  go_wp2_with fail
  go_ret2
  exact ⟨⟨x, y, rfl, HX.out.1, HX.out.2⟩, HB.out⟩
end Go.Proofs.Ythmbehknacjodaa

/-! Dmn -/
namespace Go.Proofs.Ythmbehknacjodaa
set_option linter.unusedVariables false
open Go.RowKit
set_option linter.unusedSimpArgs false

set_option maxRecDepth 100000 in
set_option maxHeartbeats 400000 in
theorem l1MostM_any (a b : Int) (w : World) : Calls Try.prog 93 #[.int .i64 a, .int .i64 b] w fun e w' => (∃ z : Int, e = .returned (.int .i64 z) ∧ ((z = a ∧ b < a) ∨ (z = b ∧ a ≤ b))) ∧ w' = w := by
  by_cases h : b < a
  · go_enter Try.func93, Try.ntmps93
    go_wp2
    go_ret
    exact ⟨⟨a, rfl, .inl ⟨rfl, h⟩⟩, rfl⟩
  · have h2 : a ≤ b := by omega
    clear h
    go_enter Try.func93, Try.ntmps93
    go_wp2
    go_ret
    exact ⟨⟨b, rfl, .inr ⟨rfl, h2⟩⟩, rfl⟩
theorem mul_fac {x y : Int} (hx : -1 ≤ x ∧ x ≤ 10000) (hy : -1 ≤ y ∧ y ≤ 10000) : -10000 ≤ x * y ∧ x * y ≤ 100000000 := by
  by_cases h1 : 0 ≤ x
  · by_cases h2 : 0 ≤ y
    · have := Int.mul_le_mul hx.2 hy.2 h2 (by omega : (0 : Int) ≤ 10000)
      have := Int.mul_nonneg h1 h2
      omega
    · obtain rfl : y = -1 := by omega
      omega
  · obtain rfl : x = -1 := by omega
    omega
set_option maxRecDepth 100000 in
set_option maxHeartbeats 1600000 in
theorem drawDigitProducts_any (cd : Value) (L : List UInt8) (w : World) (h : SlR w cd (L.map fun c => .int .u8 (c.toNat : Int))) :
    Calls Try.prog 41 #[cd] w fun e w' => (∃ x y : Int, e = .returned (.tuple #[.int .i64 x, .int .i64 y]) ∧ (-1 ≤ x ∧ x ≤ 10000) ∧ (-1 ≤ y ∧ y ≤ 10)) ∧ Below w.heap.size w w' := by
  obtain ⟨ad, cp, rfl⟩ : ∃ a c, cd = .slice a L.length c := by obtain ⟨a, c, e, _⟩ := h; exact ⟨a, c, by rw [e, List.length_map]⟩
  obtain ⟨W1, hW1, hc1, hr1, hb1⟩ := cur_new h
  have HF1 := Lib.hid (factor_any w.heap.size _ L 0 W1 (by omega) hc1 hr1)
  have HR1 := Lib.hid hr1
  have HB1 := Lib.hid hb1
  clear hc1 hr1 hb1 h
  go_enter Try.func41, Try.ntmps41
  go_wp2_with fail
  try rw [hW1]
  refine (HF1.out).mono ?_
  rintro e w2 ⟨⟨x, rfl, hx⟩, hc2, hg2⟩
  have HG2 := Lib.hid hg2
  have HB2 := Lib.hid (below_cur HB1.out hg2 (Nat.le_refl _))
  have HC2 := Lib.hid hc2
  have HX := Lib.hid hx
  clear hc2 hg2 hx
  go_wp2_with fail
  refine (pick_any w.heap.size _ L (0 + 2) 11 w2 (by omega) (by omega) (by omega) HC2.out (HR1.out.grown HG2.out)).mono ?_
  rintro e w3 ⟨⟨y, rfl, hy0, hy1⟩, hc3, hg3⟩
  have HG3 := Lib.hid (grown_trans HG2.out hg3)
  have HB3 := Lib.hid (HB2.out.grown hg3 HB2.out.size (fun k e => by cases e; exact Nat.le_refl _))
  have HC3 := Lib.hid hc3
  clear hc3 hg3
  go_wp2_with fail
  refine (pick_any w.heap.size _ L (0 + 2 + 2) 17 w3 (by omega) (by omega) (by omega) HC3.out (HR1.out.grown HG3.out)).mono ?_
  rintro e w4 ⟨⟨z, rfl, hz0, hz1⟩, hc4, hg4⟩
  have HB4 := Lib.hid (HB3.out.grown hg4 HB3.out.size (fun k e => by cases e; exact Nat.le_refl _))
  clear hc4 hg4
  obtain ⟨q, hq⟩ : ∃ q, z / 16 = q := ⟨_, rfl⟩
  have hqb : 0 ≤ q ∧ q ≤ 1 := by omega
  have hw1 : IntKind.i64.wrap (z.tdiv 16) = q := by rw [Int.tdiv_eq_ediv_of_nonneg hz0, IntKind.wrap_i64]; omega
  have hw2 : IntKind.i64.wrap (y - q) = y - q := by rw [IntKind.wrap_i64]; omega
  have HQ := Lib.hid hqb
  have HYB := Lib.hid (And.intro hy0 hy1)
  go_wp2_with fail
  try rw [hq]
  try rw [hw2]
  go_ret2
  exact ⟨⟨x, y - q, rfl, HX.out, by have := HQ.out; have := HYB.out; omega⟩, HB4.out⟩
set_option maxRecDepth 100000 in
set_option maxHeartbeats 1600000 in
theorem drawCastingOut_any (cd : Value) (L : List UInt8) (w : World) (h : SlR w cd (L.map fun c => .int .u8 (c.toNat : Int))) :
    Calls Try.prog 39 #[cd] w fun e w' => (∃ x y z : Int, e = .returned (.tuple #[.int .i64 x, .int .i64 y, .int .i64 z]) ∧ (-1 ≤ x ∧ x ≤ 10000) ∧ (-1 ≤ y ∧ y ≤ 10000) ∧ (-1000 ≤ z ∧ z ≤ 1000000000)) ∧ Below w.heap.size w w' := by
  obtain ⟨ad, cp, rfl⟩ : ∃ a c, cd = .slice a L.length c := by obtain ⟨a, c, e, _⟩ := h; exact ⟨a, c, by rw [e, List.length_map]⟩
  obtain ⟨W1, hW1, hc1, hr1, hb1⟩ := cur_new h
  have HF1 := Lib.hid (factor_any w.heap.size _ L 0 W1 (by omega) hc1 hr1)
  have HR1 := Lib.hid hr1
  have HB1 := Lib.hid hb1
  clear hc1 hr1 hb1 h
  go_enter Try.func39, Try.ntmps39
  go_wp2_with fail
  try rw [hW1]
  refine (HF1.out).mono ?_
  rintro e w2 ⟨⟨x, rfl, hx⟩, hc2, hg2⟩
  have HG2 := Lib.hid hg2
  have HB2 := Lib.hid (below_cur HB1.out hg2 (Nat.le_refl _))
  have HC2 := Lib.hid hc2
  have HX := Lib.hid hx
  clear hc2 hg2 hx
  go_wp2_with fail
  refine (factor_any w.heap.size _ L (0 + 2) w2 (by omega) HC2.out (HR1.out.grown HG2.out)).mono ?_
  rintro e w3 ⟨⟨y, rfl, hy⟩, hc3, hg3⟩
  have HG3 := Lib.hid (grown_trans HG2.out hg3)
  have HB3 := Lib.hid (HB2.out.grown hg3 HB2.out.size (fun k e => by cases e; exact Nat.le_refl _))
  have HC3 := Lib.hid hc3
  have HY := Lib.hid hy
  clear hc3 hg3 hy
  have hW1l : Hid (w.heap.size < W1.heap.size) := Lib.hid (by rw [← hW1]; simp)
  have hmf := mul_fac HX.out HY.out
  obtain ⟨P, hP⟩ : ∃ P, x * y = P := ⟨_, rfl⟩
  rw [hP] at hmf
  have hw : IntKind.i64.wrap (x * y) = P := by rw [hP, IntKind.wrap_i64]; omega
  have hal := grown_alloc w3 (.cells (([0, 0, 1, 9, -90, 100] : List Int).map (Value.int .i64)).toArray 3) none
  have hnl : w3.heap.size ≠ w.heap.size := by have h1 := HG3.out.size; have h2 := hW1l.out; omega
  have HAM := Lib.hid (among_any w.heap.size (.slice ad L.length cp) L (0 + 2 + 2) _ ([0, 0, 1, 9, -90, 100] : List Int) _ (by omega) (by decide) (slr_lit w3 (([0, 0, 1, 9, -90, 100] : List Int).map (Value.int .i64)) 3 (by decide)) (fun a m c e => by cases e; exact hnl) (HC3.out.old hal) (HR1.out.grown (grown_trans HG3.out (grown_any (r := some w.heap.size) hal))))
  have HBL := Lib.hid (HB3.out.grown (grown_any (r := some w.heap.size) hal) HB3.out.size (fun k e => by cases e; exact Nat.le_refl _))
  clear hal hnl
  go_wp2_with fail
  refine (HAM.out).mono ?_
  rintro e w4 ⟨⟨z, rfl, hz⟩, hc4, hg4⟩
  have hzb : -90 ≤ z ∧ z ≤ 100 := by simp only [List.mem_cons, List.not_mem_nil, or_false] at hz; omega
  have HB4 := Lib.hid (HBL.out.grown hg4 HBL.out.size (fun k e => by cases e; exact Nat.le_refl _))
  have hw2 : IntKind.i64.wrap (P + z) = P + z := by rw [IntKind.wrap_i64]; omega
  clear hz hc4 hg4 hP
  go_wp2_with fail
  try simp only [hw, hw2]
  refine (l1MostM_any (-1) (P + z) _).mono ?_
  rintro e w5 ⟨⟨q, rfl, hq⟩, hw5⟩
  subst w5
  have HQ : Hid (-1000 ≤ q ∧ q ≤ 1000000000) := Lib.hid (by omega)
  clear hq hmf hzb hw hw2
  go_wp2_with fail
  exact bodyPost_ret (v := .tuple #[.int .i64 x, .int .i64 y, .int .i64 q]) (by simp [results, Try.results39, go_sem]) rfl ⟨⟨x, y, q, rfl, HX.out, HY.out, HQ.out⟩, HB4.out⟩
set_option maxRecDepth 100000 in
set_option maxHeartbeats 3200000 in
theorem drawWrongDigits_any (cd : Value) (L : List UInt8) (w : World) (h : SlR w cd (L.map fun c => .int .u8 (c.toNat : Int))) :
    Calls Try.prog 35 #[cd] w fun e w' => (∃ x y z : Int, e = .returned (.tuple #[.int .i64 x, .int .i64 y, .int .i64 z]) ∧ (-1 ≤ x ∧ x ≤ 10000) ∧ (-1 ≤ y ∧ y ≤ 10000) ∧ (-1000 ≤ z ∧ z ≤ 1000000000)) ∧ Below w.heap.size w w' := by
  obtain ⟨ad, cp, rfl⟩ : ∃ a c, cd = .slice a L.length c := by obtain ⟨a, c, e, _⟩ := h; exact ⟨a, c, by rw [e, List.length_map]⟩
  obtain ⟨W1, hW1, hc1, hr1, hb1⟩ := cur_new h
  have HF1 := Lib.hid (factor_any w.heap.size _ L 0 W1 (by omega) hc1 hr1)
  have HR1 := Lib.hid hr1
  have HB1 := Lib.hid hb1
  clear hc1 hr1 hb1 h
  go_enter Try.func35, Try.ntmps35
  go_wp2_with fail
  try rw [hW1]
  refine (HF1.out).mono ?_
  rintro e w2 ⟨⟨x, rfl, hx⟩, hc2, hg2⟩
  have HG2 := Lib.hid hg2
  have HB2 := Lib.hid (below_cur HB1.out hg2 (Nat.le_refl _))
  have HC2 := Lib.hid hc2
  have HX := Lib.hid hx
  clear hc2 hg2 hx
  go_wp2_with fail
  refine (factor_any w.heap.size _ L (0 + 2) w2 (by omega) HC2.out (HR1.out.grown HG2.out)).mono ?_
  rintro e w3 ⟨⟨y, rfl, hy⟩, hc3, hg3⟩
  have HG3 := Lib.hid (grown_trans HG2.out hg3)
  have HB3 := Lib.hid (HB2.out.grown hg3 HB2.out.size (fun k e => by cases e; exact Nat.le_refl _))
  have HC3 := Lib.hid hc3
  have HY := Lib.hid hy
  clear hc3 hg3 hy
  have hW1l : Hid (w.heap.size < W1.heap.size) := Lib.hid (by rw [← hW1]; simp)
  go_wp2_with fail
  refine (one_any w.heap.size _ L (0 + 2 + 2) 8 w3 (by omega) ⟨by omega, by omega⟩ HC3.out (HR1.out.grown HG3.out)).mono ?_
  rintro e w4 ⟨⟨b, rfl⟩, hc4, hg4⟩
  have HG4 := Lib.hid (grown_trans HG3.out hg4)
  have HB4 := Lib.hid (HB3.out.grown hg4 HB3.out.size (fun k e => by cases e; exact Nat.le_refl _))
  have HC4 := Lib.hid hc4
  clear hc4 hg4
  cases b with
  | true =>
    have hal := grown_alloc w4 (.cells (([-1, 0, 99999999, 100000000] : List Int).map (Value.int .i64)).toArray 3) none
    have hnl : w4.heap.size ≠ w.heap.size := by have h1 := HG4.out.size; have h2 := hW1l.out; omega
    have HAM := Lib.hid (among_any w.heap.size (.slice ad L.length cp) L (0 + 2 + 2 + 2) _ ([-1, 0, 99999999, 100000000] : List Int) _ (by omega) (by decide) (slr_lit w4 (([-1, 0, 99999999, 100000000] : List Int).map (Value.int .i64)) 3 (by decide)) (fun a m c e => by cases e; exact hnl) (HC4.out.old hal) (HR1.out.grown (grown_trans HG4.out (grown_any (r := some w.heap.size) hal))))
    have HBL := Lib.hid (HB4.out.grown (grown_any (r := some w.heap.size) hal) HB4.out.size (fun k e => by cases e; exact Nat.le_refl _))
    clear hal hnl
    go_wp2_with fail
    refine (HAM.out).mono ?_
    rintro e w5 ⟨⟨z, rfl, hz⟩, hc5, hg5⟩
    have HZ : Hid (-1000 ≤ z ∧ z ≤ 1000000000) := Lib.hid (by simp only [List.mem_cons, List.not_mem_nil, or_false] at hz; omega)
    have HB5 := Lib.hid (HBL.out.grown hg5 HBL.out.size (fun k e => by cases e; exact Nat.le_refl _))
    clear hz hc5 hg5
    go_wp2_with fail
    exact bodyPost_ret (v := .tuple #[.int .i64 x, .int .i64 y, .int .i64 z]) (by simp [results, Try.results35, go_sem]) rfl ⟨⟨x, y, z, rfl, HX.out, HY.out, HZ.out⟩, HB5.out⟩
  | false =>
    have hmf := mul_fac HX.out HY.out
    obtain ⟨P, hP⟩ : ∃ P, x * y = P := ⟨_, rfl⟩
    rw [hP] at hmf
    have hw : IntKind.i64.wrap (x * y) = P := by rw [hP, IntKind.wrap_i64]; omega
    clear hP
    go_wp2_with fail
    refine (l1MostM_any 0 P _).mono ?_
    rintro e w5 ⟨⟨q, rfl, hq⟩, hw5⟩
    subst w5
    have hqb : 0 ≤ q ∧ q ≤ 100000000 := by omega
    clear hq hmf
    have hal := grown_alloc w4 (.cells (([0, 1, 10, 900, 5050] : List Int).map (Value.int .i64)).toArray 3) none
    have hnl : w4.heap.size ≠ w.heap.size := by have h1 := HG4.out.size; have h2 := hW1l.out; omega
    have HAM := Lib.hid (among_any w.heap.size (.slice ad L.length cp) L (0 + 2 + 2 + 2) _ ([0, 1, 10, 900, 5050] : List Int) _ (by omega) (by decide) (slr_lit w4 (([0, 1, 10, 900, 5050] : List Int).map (Value.int .i64)) 3 (by decide)) (fun a m c e => by cases e; exact hnl) (HC4.out.old hal) (HR1.out.grown (grown_trans HG4.out (grown_any (r := some w.heap.size) hal))))
    have HBL := Lib.hid (HB4.out.grown (grown_any (r := some w.heap.size) hal) HB4.out.size (fun k e => by cases e; exact Nat.le_refl _))
    clear hal hnl
    go_wp2_with fail
    refine (HAM.out).mono ?_
    rintro e w6 ⟨⟨z, rfl, hz⟩, hc6, hg6⟩
    have hzb : 0 ≤ z ∧ z ≤ 5050 := by simp only [List.mem_cons, List.not_mem_nil, or_false] at hz; omega
    have HB6 := Lib.hid (HBL.out.grown hg6 HBL.out.size (fun k e => by cases e; exact Nat.le_refl _))
    have hw2 : IntKind.i64.wrap (q + z) = q + z := by rw [IntKind.wrap_i64]; omega
    have HQ : Hid (-1000 ≤ q + z ∧ q + z ≤ 1000000000) := Lib.hid (by omega)
    clear hz hc6 hg6
    go_wp2_with fail
    exact bodyPost_ret (v := .tuple #[.int .i64 x, .int .i64 y, .int .i64 (q + z)]) (by simp [results, Try.results35, go_sem]) rfl ⟨⟨x, y, q + z, rfl, HX.out, HY.out, HQ.out⟩, HB6.out⟩
end Go.Proofs.Ythmbehknacjodaa
