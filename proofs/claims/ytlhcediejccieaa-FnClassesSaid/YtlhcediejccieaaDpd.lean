/- The draws of the functions over pupils. -/
import Derived.Test.YtlhcediejccieaaDpp
namespace Go.Proofs.Ytlhcediejccieaa
set_option linter.unusedVariables false
open Go.RowKit
set_option linter.unusedSimpArgs false

theorem cur_newP {w : World} {cd : Value} {L : List UInt8} (h : SlR w cd (L.map fun c => .int .u8 (c.toNat : Int))) : ∃ W1, w.alloc (.cells #[cd, .int .i64 0, .int .u64 0] 61) = W1 ∧ CurAt W1 w.heap.size cd 0 ∧ CodeR W1 w.heap.size cd L ∧ Below w.heap.size w W1 :=
  ⟨_, rfl, ⟨0, 0, _, Nat.le_refl _, Lib.hid (by decide), alloc_at rfl⟩, code_new h _, (Below.refl _ w).alloc (Nat.le_refl _) _⟩
set_option maxRecDepth 100000 in
set_option maxHeartbeats 1600000 in
theorem drawRaiseLevel_any (cd : Value) (L : List UInt8) (w : World) (h : SlR w cd (L.map fun c => .int .u8 (c.toNat : Int))) :
    Calls Try.prog 28 #[cd] w fun e w' => (∃ (v : Value) (ps : List Pu) (x : Int), e = .returned (.tuple #[v, .int .i64 x]) ∧ RowsR 5 puC w' v ps ∧ ps.length ≤ 13 ∧ ∀ p ∈ ps, p.name.size ≤ 11) ∧ Below w.heap.size w w' := by
  obtain ⟨ad, cp, rfl⟩ : ∃ a c, cd = .slice a L.length c := by obtain ⟨a, c, e, _⟩ := h; exact ⟨a, c, by rw [e, List.length_map]⟩
  obtain ⟨W1, hW1, hc1, hr1, hb1⟩ := cur_newP h
  have HS1 : Hid (w.heap.size < W1.heap.size) := Lib.hid (by rw [← hW1]; simp)
  have HF1 := Lib.hid (pupils_any w.heap.size _ L 0 W1 (by omega) hc1 hr1)
  have HR1 := Lib.hid hr1
  have HB1 := Lib.hid hb1
  clear hc1 hr1 hb1 h
  go_enter Try.func28, Try.ntmps28
  go_wp2_with fail
  try rw [hW1]
  refine (HF1.out).mono ?_
  rintro e w2 ⟨⟨v, ps, rfl, hx, hl, hnm⟩, hc2, hg2⟩
  have HX2 := Lib.hid hx
  have HNM := Lib.hid hnm
  have HC2 := Lib.hid hc2
  have HG2 := Lib.hid hg2
  clear hx hnm hc2 hg2
  go_wp2_with fail
  refine (pupilId_any w.heap.size _ L (0 + 400) W1.heap.size v ps w2 (by omega) HX2.out HS1.out hl HC2.out (HR1.out.grown HG2.out)).mono ?_
  rintro e w3 ⟨⟨x, rfl⟩, hc, hg⟩
  have HX3 := Lib.hid (HX2.out.grown hg HS1.out)
  have HC3 := Lib.hid hc
  have HG3 := Lib.hid (grown_trans HG2.out hg)
  clear hc hg
  go_wp2_with fail
  exact bodyPost_ret (v := .tuple #[v, .int .i64 x]) (by simp [results, Try.results28, go_sem]) rfl ⟨⟨v, ps, x, rfl, HX3.out.1, hl, HNM.out⟩, HB1.out.grown HG3.out HB1.out.size (fun k e => by cases e; exact Nat.le_refl _)⟩
set_option maxRecDepth 100000 in
set_option maxHeartbeats 1600000 in
theorem drawInClass_any (cd : Value) (L : List UInt8) (w : World) (h : SlR w cd (L.map fun c => .int .u8 (c.toNat : Int))) :
    Calls Try.prog 19 #[cd] w fun e w' => (∃ (v : Value) (ps : List Pu) (x : Int), e = .returned (.tuple #[v, .int .i64 x]) ∧ RowsR 5 puC w' v ps ∧ ps.length ≤ 13 ∧ ∀ p ∈ ps, p.name.size ≤ 11) ∧ Below w.heap.size w w' := by
  obtain ⟨ad, cp, rfl⟩ : ∃ a c, cd = .slice a L.length c := by obtain ⟨a, c, e, _⟩ := h; exact ⟨a, c, by rw [e, List.length_map]⟩
  obtain ⟨W1, hW1, hc1, hr1, hb1⟩ := cur_newP h
  have HS1 : Hid (w.heap.size < W1.heap.size) := Lib.hid (by rw [← hW1]; simp)
  have HF1 := Lib.hid (pupils_any w.heap.size _ L 0 W1 (by omega) hc1 hr1)
  have HR1 := Lib.hid hr1
  have HB1 := Lib.hid hb1
  clear hc1 hr1 hb1 h
  go_enter Try.func19, Try.ntmps19
  go_wp2_with fail
  try rw [hW1]
  refine (HF1.out).mono ?_
  rintro e w2 ⟨⟨v, ps, rfl, hx, hl, hnm⟩, hc2, hg2⟩
  have HX2 := Lib.hid hx
  have HNM := Lib.hid hnm
  have HC2 := Lib.hid hc2
  have HG2 := Lib.hid hg2
  clear hx hnm hc2 hg2
  go_wp2_with fail
  refine (class3_any w.heap.size _ L (0 + 400) w2 (by omega) HC2.out (HR1.out.grown HG2.out)).mono ?_
  rintro e w3 ⟨⟨x, rfl, -, -⟩, hc, hg⟩
  have HX3 := Lib.hid (HX2.out.grown hg HS1.out)
  have HC3 := Lib.hid hc
  have HG3 := Lib.hid (grown_trans HG2.out hg)
  clear hc hg
  go_wp2_with fail
  exact bodyPost_ret (v := .tuple #[v, .int .i64 x]) (by simp [results, Try.results19, go_sem]) rfl ⟨⟨v, ps, x, rfl, HX3.out.1, hl, HNM.out⟩, HB1.out.grown HG3.out HB1.out.size (fun k e => by cases e; exact Nat.le_refl _)⟩
set_option maxRecDepth 100000 in
set_option maxHeartbeats 1600000 in
theorem drawPutInClass_any (cd : Value) (L : List UInt8) (w : World) (h : SlR w cd (L.map fun c => .int .u8 (c.toNat : Int))) :
    Calls Try.prog 17 #[cd] w fun e w' => (∃ (v : Value) (ps : List Pu) (x y : Int), e = .returned (.tuple #[v, .int .i64 x, .int .i64 y]) ∧ RowsR 5 puC w' v ps ∧ ps.length ≤ 13 ∧ ∀ p ∈ ps, p.name.size ≤ 11) ∧ Below w.heap.size w w' := by
  obtain ⟨ad, cp, rfl⟩ : ∃ a c, cd = .slice a L.length c := by obtain ⟨a, c, e, _⟩ := h; exact ⟨a, c, by rw [e, List.length_map]⟩
  obtain ⟨W1, hW1, hc1, hr1, hb1⟩ := cur_newP h
  have HS1 : Hid (w.heap.size < W1.heap.size) := Lib.hid (by rw [← hW1]; simp)
  have HF1 := Lib.hid (pupils_any w.heap.size _ L 0 W1 (by omega) hc1 hr1)
  have HR1 := Lib.hid hr1
  have HB1 := Lib.hid hb1
  clear hc1 hr1 hb1 h
  go_enter Try.func17, Try.ntmps17
  go_wp2_with fail
  try rw [hW1]
  refine (HF1.out).mono ?_
  rintro e w2 ⟨⟨v, ps, rfl, hx, hl, hnm⟩, hc2, hg2⟩
  have HX2 := Lib.hid hx
  have HNM := Lib.hid hnm
  have HC2 := Lib.hid hc2
  have HG2 := Lib.hid hg2
  clear hx hnm hc2 hg2
  go_wp2_with fail
  refine (pupilId_any w.heap.size _ L (0 + 400) W1.heap.size v ps w2 (by omega) HX2.out HS1.out hl HC2.out (HR1.out.grown HG2.out)).mono ?_
  rintro e w3 ⟨⟨x, rfl⟩, hc, hg⟩
  have HX3 := Lib.hid (HX2.out.grown hg HS1.out)
  have HC3 := Lib.hid hc
  have HG3 := Lib.hid (grown_trans HG2.out hg)
  clear hc hg
  go_wp2_with fail
  refine (class3_any w.heap.size _ L (0 + 400 + 4) w3 (by omega) HC3.out (HR1.out.grown HG3.out)).mono ?_
  rintro e w4 ⟨⟨y, rfl, -, -⟩, hc, hg⟩
  have HX4 := Lib.hid (HX3.out.grown hg HS1.out)
  have HC4 := Lib.hid hc
  have HG4 := Lib.hid (grown_trans HG3.out hg)
  clear hc hg
  go_wp2_with fail
  exact bodyPost_ret (v := .tuple #[v, .int .i64 x, .int .i64 y]) (by simp [results, Try.results17, go_sem]) rfl ⟨⟨v, ps, x, y, rfl, HX4.out.1, hl, HNM.out⟩, HB1.out.grown HG4.out HB1.out.size (fun k e => by cases e; exact Nat.le_refl _)⟩
set_option maxRecDepth 100000 in
set_option maxHeartbeats 1600000 in
theorem drawSwapClasses_any (cd : Value) (L : List UInt8) (w : World) (h : SlR w cd (L.map fun c => .int .u8 (c.toNat : Int))) :
    Calls Try.prog 13 #[cd] w fun e w' => (∃ (v : Value) (ps : List Pu) (x y : Int), e = .returned (.tuple #[v, .int .i64 x, .int .i64 y]) ∧ RowsR 5 puC w' v ps ∧ ps.length ≤ 13 ∧ ∀ p ∈ ps, p.name.size ≤ 11) ∧ Below w.heap.size w w' := by
  obtain ⟨ad, cp, rfl⟩ : ∃ a c, cd = .slice a L.length c := by obtain ⟨a, c, e, _⟩ := h; exact ⟨a, c, by rw [e, List.length_map]⟩
  obtain ⟨W1, hW1, hc1, hr1, hb1⟩ := cur_newP h
  have HS1 : Hid (w.heap.size < W1.heap.size) := Lib.hid (by rw [← hW1]; simp)
  have HF1 := Lib.hid (pupils_any w.heap.size _ L 0 W1 (by omega) hc1 hr1)
  have HR1 := Lib.hid hr1
  have HB1 := Lib.hid hb1
  clear hc1 hr1 hb1 h
  go_enter Try.func13, Try.ntmps13
  go_wp2_with fail
  try rw [hW1]
  refine (HF1.out).mono ?_
  rintro e w2 ⟨⟨v, ps, rfl, hx, hl, hnm⟩, hc2, hg2⟩
  have HX2 := Lib.hid hx
  have HNM := Lib.hid hnm
  have HC2 := Lib.hid hc2
  have HG2 := Lib.hid hg2
  clear hx hnm hc2 hg2
  go_wp2_with fail
  refine (pupilId_any w.heap.size _ L (0 + 400) W1.heap.size v ps w2 (by omega) HX2.out HS1.out hl HC2.out (HR1.out.grown HG2.out)).mono ?_
  rintro e w3 ⟨⟨x, rfl⟩, hc, hg⟩
  have HX3 := Lib.hid (HX2.out.grown hg HS1.out)
  have HC3 := Lib.hid hc
  have HG3 := Lib.hid (grown_trans HG2.out hg)
  clear hc hg
  go_wp2_with fail
  refine (pupilId_any w.heap.size _ L (0 + 400 + 4) W1.heap.size v ps w3 (by omega) HX3.out HS1.out hl HC3.out (HR1.out.grown HG3.out)).mono ?_
  rintro e w4 ⟨⟨y, rfl⟩, hc, hg⟩
  have HX4 := Lib.hid (HX3.out.grown hg HS1.out)
  have HC4 := Lib.hid hc
  have HG4 := Lib.hid (grown_trans HG3.out hg)
  clear hc hg
  go_wp2_with fail
  exact bodyPost_ret (v := .tuple #[v, .int .i64 x, .int .i64 y]) (by simp [results, Try.results13, go_sem]) rfl ⟨⟨v, ps, x, y, rfl, HX4.out.1, hl, HNM.out⟩, HB1.out.grown HG4.out HB1.out.size (fun k e => by cases e; exact Nat.le_refl _)⟩
set_option maxRecDepth 100000 in
set_option maxHeartbeats 1600000 in
theorem drawArePupils_any (cd : Value) (L : List UInt8) (w : World) (h : SlR w cd (L.map fun c => .int .u8 (c.toNat : Int))) :
    Calls Try.prog 55 #[cd] w fun e w' => (∃ (v : Value) (ps : List Pu), e = .returned v ∧ RowsR 5 puC w' v ps ∧ ps.length ≤ 13 ∧ ∀ p ∈ ps, p.name.size ≤ 11) ∧ Below w.heap.size w w' := by
  obtain ⟨ad, cp, rfl⟩ : ∃ a c, cd = .slice a L.length c := by obtain ⟨a, c, e, _⟩ := h; exact ⟨a, c, by rw [e, List.length_map]⟩
  obtain ⟨W1, hW1, hc1, hr1, hb1⟩ := cur_newP h
  have HS1 : Hid (w.heap.size < W1.heap.size) := Lib.hid (by rw [← hW1]; simp)
  have HF1 := Lib.hid (pupils_any w.heap.size _ L 0 W1 (by omega) hc1 hr1)
  have HR1 := Lib.hid hr1
  have HB1 := Lib.hid hb1
  clear hc1 hr1 hb1 h
  go_enter Try.func55, Try.ntmps55
  go_wp2_with fail
  try rw [hW1]
  refine (HF1.out).mono ?_
  rintro e w2 ⟨⟨v, ps, rfl, hx, hl, hnm⟩, hc2, hg2⟩
  have HX2 := Lib.hid hx
  have HNM := Lib.hid hnm
  have HC2 := Lib.hid hc2
  have HG2 := Lib.hid hg2
  clear hx hnm hc2 hg2
  go_wp2_with fail
  exact bodyPost_ret (v := v) (by simp [results, Try.results55, go_sem]) rfl ⟨⟨v, ps, rfl, HX2.out.1, hl, HNM.out⟩, HB1.out.grown HG2.out HB1.out.size (fun k e => by cases e; exact Nat.le_refl _)⟩
set_option maxRecDepth 100000 in
set_option maxHeartbeats 1600000 in
theorem drawClassesFor_any (cd : Value) (L : List UInt8) (w : World) (h : SlR w cd (L.map fun c => .int .u8 (c.toNat : Int))) :
    Calls Try.prog 6 #[cd] w fun e w' => (∃ (v : Value) (ps : List Pu) (x : Int), e = .returned (.tuple #[v, .int .i64 x]) ∧ RowsR 5 puC w' v ps ∧ ps.length ≤ 13 ∧ ∀ p ∈ ps, p.name.size ≤ 11) ∧ Below w.heap.size w w' := by
  have HD := Lib.hid (drawRaiseLevel_any cd L w h)
  obtain ⟨ad, cp, rfl⟩ : ∃ a c, cd = .slice a L.length c := by obtain ⟨a, c, e, _⟩ := h; exact ⟨a, c, by rw [e, List.length_map]⟩
  clear h
  go_enter Try.func6, Try.ntmps6
  go_wp2_with fail
  refine (HD.out).mono ?_
  rintro e w3 ⟨⟨v, ps, x, rfl, hx, hl, hnm⟩, hb⟩
  have HX := Lib.hid hx
  have HNM := Lib.hid hnm
  have HB := Lib.hid hb
  clear hx hnm hb
  go_wp2_with fail
  exact bodyPost_ret (v := .tuple #[v, .int .i64 x]) (by simp [results, Try.results6, go_sem]) rfl ⟨⟨v, ps, x, rfl, HX.out, hl, HNM.out⟩, HB.out⟩
set_option maxRecDepth 100000 in
set_option maxHeartbeats 1600000 in
theorem drawMeanLevel_any (cd : Value) (L : List UInt8) (w : World) (h : SlR w cd (L.map fun c => .int .u8 (c.toNat : Int))) :
    Calls Try.prog 34 #[cd] w fun e w' => (∃ (v : Value) (ps : List Pu) (x : Int), e = .returned (.tuple #[v, .int .i64 x]) ∧ RowsR 5 puC w' v ps ∧ ps.length ≤ 13 ∧ ∀ p ∈ ps, p.name.size ≤ 11) ∧ Below w.heap.size w w' := by
  have HD := Lib.hid (drawInClass_any cd L w h)
  obtain ⟨ad, cp, rfl⟩ : ∃ a c, cd = .slice a L.length c := by obtain ⟨a, c, e, _⟩ := h; exact ⟨a, c, by rw [e, List.length_map]⟩
  clear h
  go_enter Try.func34, Try.ntmps34
  go_wp2_with fail
  refine (HD.out).mono ?_
  rintro e w3 ⟨⟨v, ps, x, rfl, hx, hl, hnm⟩, hb⟩
  have HX := Lib.hid hx
  have HNM := Lib.hid hnm
  have HB := Lib.hid hb
  clear hx hnm hb
  go_wp2_with fail
  exact bodyPost_ret (v := .tuple #[v, .int .i64 x]) (by simp [results, Try.results34, go_sem]) rfl ⟨⟨v, ps, x, rfl, HX.out, hl, HNM.out⟩, HB.out⟩
set_option maxRecDepth 100000 in
set_option maxHeartbeats 1600000 in
theorem drawPlaceAll_any (cd : Value) (L : List UInt8) (w : World) (h : SlR w cd (L.map fun c => .int .u8 (c.toNat : Int))) :
    Calls Try.prog 24 #[cd] w fun e w' => (∃ (v : Value) (ps : List Pu), e = .returned v ∧ RowsR 5 puC w' v ps ∧ ps.length ≤ 13 ∧ ∀ p ∈ ps, p.name.size ≤ 11) ∧ Below w.heap.size w w' := by
  have HD := Lib.hid (drawArePupils_any cd L w h)
  obtain ⟨ad, cp, rfl⟩ : ∃ a c, cd = .slice a L.length c := by obtain ⟨a, c, e, _⟩ := h; exact ⟨a, c, by rw [e, List.length_map]⟩
  clear h
  go_enter Try.func24, Try.ntmps24
  go_wp2_with fail
  refine (HD.out).mono ?_
  rintro e w3 ⟨⟨v, ps, rfl, hx, hl, hnm⟩, hb⟩
  have HX := Lib.hid hx
  have HNM := Lib.hid hnm
  have HB := Lib.hid hb
  clear hx hnm hb
  go_wp2_with fail
  exact bodyPost_ret (v := v) (by simp [results, Try.results24, go_sem]) rfl ⟨⟨v, ps, rfl, HX.out, hl, HNM.out⟩, HB.out⟩
set_option maxRecDepth 100000 in
set_option maxHeartbeats 1600000 in
theorem drawIsPupil_any (cd : Value) (L : List UInt8) (w : World) (h : SlR w cd (L.map fun c => .int .u8 (c.toNat : Int))) :
    Calls Try.prog 21 #[cd] w fun e w' => (∃ (i : Int) (x : ByteArray) (b c l : Int), e = .returned (.agg #[.int .i64 i, .string x, .int .i64 b, .int .i64 c, .int .i64 l]) ∧ x.size ≤ 11) ∧ Below w.heap.size w w' := by
  obtain ⟨ad, cp, rfl⟩ : ∃ a c, cd = .slice a L.length c := by obtain ⟨a, c, e, _⟩ := h; exact ⟨a, c, by rw [e, List.length_map]⟩
  obtain ⟨W0, hW0⟩ : ∃ u, w.alloc (.cells #[.int .i64 0, .string ⟨#[]⟩, .int .i64 0, .int .i64 0, .int .i64 0] 38) = u := ⟨_, rfl⟩
  have hb0 : Below w.heap.size w W0 := by rw [← hW0]; exact (Below.refl _ w).alloc (Nat.le_refl _) _
  have hz0 : W0.heap[w.heap.size]? = some (.cells #[.int .i64 0, .string ⟨#[]⟩, .int .i64 0, .int .i64 0, .int .i64 0] 38 (0, 0)) := by rw [← hW0]; exact alloc_at rfl
  have hs0 : W0.heap.size = w.heap.size + 1 := by rw [← hW0]; simp
  obtain ⟨W1, hW1, hc1, hr1, hb1⟩ := cur_newP (h.below hb0 (Nat.le_refl _))
  have hz1 := (hb1.block _ (by omega)).trans hz0
  have hs1 : W1.heap.size = w.heap.size + 2 := by rw [← hW1]; simp; omega
  rw [hs0] at hc1 hr1
  have HAM := Lib.hid (among_any (w.heap.size + 1) _ L 0 _ [1, 42, 999] (W1.alloc (.cells (([1, 42, 999] : List Int).map (Value.int .i64)).toArray 3)) (by omega) (by decide) (slr_lit W1 (([1, 42, 999] : List Int).map (Value.int .i64)) 3 (by decide)) (fun a m c e => by cases e; show W1.heap.size ≠ w.heap.size + 1; omega) (hc1.old (grown_alloc W1 _ none)) (hr1.grown (grown_any (grown_alloc W1 _ none))))
  have HB1 : Hid (Below w.heap.size w W1) := Lib.hid (hb0.trans (hb1.mono (by omega)))
  have HZ1 := Lib.hid hz1
  have HR1 := Lib.hid hr1
  have HS1 := Lib.hid hs1
  clear hc1 hr1 hb1 hb0 hz0 hz1 h hs1
  go_enter Try.func21, Try.ntmps21
  go_wp2_with fail
  try rw [hW0]
  try rw [hW1]
  refine (HAM.out).mono ?_
  rintro e w2 ⟨⟨id, rfl, -⟩, hc2, hg2⟩
  have HG2 := Lib.hid (grown_trans (grown_any (r := some (w.heap.size + 1)) (grown_alloc W1 (.cells (([1, 42, 999] : List Int).map (Value.int .i64)).toArray 3) none)) hg2)
  have HPU := Lib.hid (pupil_any (w.heap.size + 1) _ L (0 + 2) id w2 (by omega) hc2 (HR1.out.grown HG2.out))
  clear hc2 hg2
  go_wp2_with fail
  refine (HPU.out).mono ?_
  rintro e w3 ⟨⟨i, x, b, c, l, rfl, hx⟩, hc3, hg3⟩
  have hz3 := ((grown_trans HG2.out hg3).block w.heap.size (by have := HS1.out; omega) (by intro e; injection e with e; omega)).trans HZ1.out
  have HBL := Lib.hid ((((((HB1.out.grown (grown_trans HG2.out hg3) HB1.out.size (fun k e => by cases e; exact Nat.le_succ _)).setCell (p := ⟨w.heap.size, 0, none⟩) (Nat.le_refl _) (.int .i64 i)).setCell (p := ⟨w.heap.size, 1, none⟩) (Nat.le_refl _) (.string x)).setCell (p := ⟨w.heap.size, 2, none⟩) (Nat.le_refl _) (.int .i64 b)).setCell (p := ⟨w.heap.size, 3, none⟩) (Nat.le_refl _) (.int .i64 c)).setCell (p := ⟨w.heap.size, 4, none⟩) (Nat.le_refl _) (.int .i64 l))
  obtain ⟨z0, z1, z2, z3, z4, y0, y1, y2, y3, y4⟩ := cell5 hz3
  clear hc3 hg3 hz3
  go_wp2_with fail
  exact bodyPost_ret (v := .agg #[.int .i64 i, .string x, .int .i64 b, .int .i64 c, .int .i64 l]) (by simp [results, Try.results21, go_sem, z0, z1, z2, z3, z4]) rfl ⟨⟨i, x, b, c, l, rfl, hx⟩, HBL.out⟩
end Go.Proofs.Ytlhcediejccieaa
