/- The draws of roots. -/
import Derived.Test.YtlfplnbmgmookaaKc
import Derived.Test.YtlfplnbmgmookaaKa
namespace Go.Proofs.Ytlfplnbmgmookaa
set_option linter.unusedVariables false
open Go.RowKit
set_option linter.unusedSimpArgs false

/-- The reader of a code, made. -/
theorem cur_newR {w : World} {cd : Value} {L : List UInt8} (h : SlR w cd (L.map fun c => .int .u8 (c.toNat : Int))) : ∃ W1, w.alloc (.cells #[cd, .int .i64 0, .int .u64 0] 61) = W1 ∧ CurAt W1 w.heap.size cd 0 ∧ CodeR W1 w.heap.size cd L ∧ Below w.heap.size w W1 :=
  ⟨_, rfl, ⟨0, 0, _, Nat.le_refl _, Lib.hid (by decide), alloc_at rfl⟩, code_new h _, (Below.refl _ w).alloc (Nat.le_refl _) _⟩
set_option maxRecDepth 100000 in
set_option maxHeartbeats 1600000 in
theorem radicand_any (cb : Nat) (cd : Value) (L : List UInt8) (n : Nat) (w : World) (hn : n < 4611686018427386000) (hc : CurAt w cb cd n) (hr : CodeR w cb cd L) :
    Calls Try.prog 59 #[.pointer (some ⟨cb, 0, none⟩)] w fun e w' => (∃ z : Int, e = .returned (.int .i64 z)) ∧ CurAt w' cb cd (n + 2 + 2) ∧ w.grownBy w' (some cb) := by
  have hlt := hc.lt
  have hga := grown_alloc w (.cells ([0, 1, 2, 5, 9, 12, 31, 99, 100, 1024, 9999].map (Value.int .i64)).toArray 3) none
  have hO := among_any cb cd L n _ [0, 1, 2, 5, 9, 12, 31, 99, 100, 1024, 9999] _ (by omega) (by decide) (slr_lit w ([0, 1, 2, 5, 9, 12, 31, 99, 100, 1024, 9999].map (Value.int .i64)) 3 (by decide)) (fun a m c e => by cases e; show w.heap.size ≠ cb; omega) (hc.old hga) (hr.grown (grown_any hga))
  have HO := Lib.hid hO
  have HGA := Lib.hid (grown_any (r := some cb) hga)
  have HR := Lib.hid hr
  clear hO hga hc hr
  go_enter Try.func59, Try.ntmps59
  go_wp2_with fail
  refine (HO.out).mono ?_
  rintro e w1 ⟨⟨x, rfl, hx⟩, hc1, hg⟩
  have HC1 := Lib.hid hc1
  have HG := Lib.hid (grown_trans HGA.out hg)
  have HNC : Hid (w1.heap.size ≠ cb) := Lib.hid (by have := HG.out.size; omega)
  clear hc1 hg hx
  obtain ⟨A, e1⟩ : ∃ A, IntKind.i64.wrap (x * x) = A := ⟨_, rfl⟩
  obtain ⟨B, e2⟩ : ∃ B, IntKind.i64.wrap (A + 1) = B := ⟨_, rfl⟩
  obtain ⟨C, e3⟩ : ∃ C, IntKind.i64.wrap (A - 1) = C := ⟨_, rfl⟩
  obtain ⟨D, e4⟩ : ∃ D, IntKind.i64.wrap (A * x) = D := ⟨_, rfl⟩
  obtain ⟨E, e5⟩ : ∃ E, D.tmod 100000000 = E := ⟨_, rfl⟩
  have hal := grown_alloc w1 (.cells #[.int .i64 x, .int .i64 x, .int .i64 A, .int .i64 B, .int .i64 C, .int .i64 E, .int .i64 99999999, .int .i64 100000000, .int .i64 50] 3) none
  have HAM := Lib.hid (among_any cb cd L (n + 2) (.slice (some ⟨w1.heap.size, 0, none⟩) 9 9) [x, x, A, B, C, E, 99999999, 100000000, 50] (w1.alloc (.cells #[.int .i64 x, .int .i64 x, .int .i64 A, .int .i64 B, .int .i64 C, .int .i64 E, .int .i64 99999999, .int .i64 100000000, .int .i64 50] 3)) (by omega) ⟨by simp, by simp⟩ (slr_lit w1 ([x, x, A, B, C, E, 99999999, 100000000, 50].map (Value.int .i64)) 3 (by show 9 ≤ maxLen; decide)) (fun a m c e => by cases e; exact HNC.out) (HC1.out.old hal) (HR.out.grown (grown_trans HG.out (grown_any hal))))
  have HGB := Lib.hid (grown_trans HG.out (grown_any (r := some cb) hal))
  clear hal
  go_wp2_with fail
  refine (HAM.out).mono ?_
  rintro e w2 ⟨⟨z, rfl, hz⟩, hc2, hg2⟩
  have HC2 := Lib.hid hc2
  have HG2 := Lib.hid (grown_trans HGB.out hg2)
  clear hc2 hg2 hz
  go_wp2_with fail
  go_ret
  exact ⟨⟨z, rfl⟩, HC2.out, HG2.out⟩
set_option maxRecDepth 100000 in
set_option maxHeartbeats 1600000 in
theorem drawPairsOf_any (cd : Value) (L : List UInt8) (w : World) (h : SlR w cd (L.map fun c => .int .u8 (c.toNat : Int))) :
    Calls Try.prog 26 #[cd] w fun e w' => (∃ x : Int, e = .returned (.int .i64 x)) ∧ Below w.heap.size w w' := by
  obtain ⟨ad, cp, rfl⟩ : ∃ a c, cd = .slice a L.length c := by obtain ⟨a, c, e, _⟩ := h; exact ⟨a, c, by rw [e, List.length_map]⟩
  obtain ⟨W1, hW1, hc1, hr1, hb1⟩ := cur_newR h
  have HF1 := Lib.hid (radicand_any w.heap.size _ L 0 W1 (by omega) hc1 hr1)
  have HR1 := Lib.hid hr1
  have HB1 := Lib.hid hb1
  have hW1l : Hid (w.heap.size < W1.heap.size) := Lib.hid (by rw [← hW1]; simp)
  clear hc1 hr1 hb1 h
  go_enter Try.func26, Try.ntmps26
  go_wp2_with fail
  try rw [hW1]
  refine (HF1.out).mono ?_
  rintro e w2 ⟨⟨x, rfl⟩, hc2, hg2⟩
  have HG2 := Lib.hid hg2
  have HB2 := Lib.hid (HB1.out.grown hg2 HB1.out.size (fun k e => by cases e; exact Nat.le_refl _))
  have HC2 := Lib.hid hc2
  clear hc2 hg2
  go_wp2_with fail
  go_ret
  exact ⟨⟨x, rfl⟩, HB2.out⟩
set_option maxRecDepth 100000 in
set_option maxHeartbeats 800000 in
theorem drawWholeRoot_any (cd : Value) (L : List UInt8) (w : World) (h : SlR w cd (L.map fun c => .int .u8 (c.toNat : Int))) :
    Calls Try.prog 15 #[cd] w fun e w' => (∃ x : Int, e = .returned (.int .i64 x)) ∧ Below w.heap.size w w' := by
  have HD := Lib.hid (drawPairsOf_any cd L w h)
  obtain ⟨ad, cp, rfl⟩ : ∃ a c, cd = .slice a L.length c := by obtain ⟨a, c, e, _⟩ := h; exact ⟨a, c, by rw [e, List.length_map]⟩
  clear h
  go_enter Try.func15, Try.ntmps15
  go_wp2_with fail
  refine (HD.out).mono ?_
  rintro e w2 ⟨⟨x, rfl⟩, hb⟩
  have HB := Lib.hid hb
  clear hb
  go_wp2_with fail
  go_ret
  exact ⟨⟨x, rfl⟩, HB.out⟩
set_option maxRecDepth 100000 in
set_option maxHeartbeats 800000 in
theorem drawOddsTaken_any (cd : Value) (L : List UInt8) (w : World) (h : SlR w cd (L.map fun c => .int .u8 (c.toNat : Int))) :
    Calls Try.prog 24 #[cd] w fun e w' => (∃ x : Int, e = .returned (.int .i64 x)) ∧ Below w.heap.size w w' := by
  have HD := Lib.hid (drawPairsOf_any cd L w h)
  obtain ⟨ad, cp, rfl⟩ : ∃ a c, cd = .slice a L.length c := by obtain ⟨a, c, e, _⟩ := h; exact ⟨a, c, by rw [e, List.length_map]⟩
  clear h
  go_enter Try.func24, Try.ntmps24
  go_wp2_with fail
  refine (HD.out).mono ?_
  rintro e w2 ⟨⟨x, rfl⟩, hb⟩
  have HB := Lib.hid hb
  clear hb
  go_wp2_with fail
  go_ret
  exact ⟨⟨x, rfl⟩, HB.out⟩
set_option maxRecDepth 100000 in
set_option maxHeartbeats 800000 in
theorem drawCubeRoot_any (cd : Value) (L : List UInt8) (w : World) (h : SlR w cd (L.map fun c => .int .u8 (c.toNat : Int))) :
    Calls Try.prog 37 #[cd] w fun e w' => (∃ x : Int, e = .returned (.int .i64 x)) ∧ Below w.heap.size w w' := by
  have HD := Lib.hid (drawPairsOf_any cd L w h)
  obtain ⟨ad, cp, rfl⟩ : ∃ a c, cd = .slice a L.length c := by obtain ⟨a, c, e, _⟩ := h; exact ⟨a, c, by rw [e, List.length_map]⟩
  clear h
  go_enter Try.func37, Try.ntmps37
  go_wp2_with fail
  refine (HD.out).mono ?_
  rintro e w2 ⟨⟨x, rfl⟩, hb⟩
  have HB := Lib.hid hb
  clear hb
  go_wp2_with fail
  go_ret
  exact ⟨⟨x, rfl⟩, HB.out⟩
set_option maxRecDepth 100000 in
set_option maxHeartbeats 800000 in
theorem drawIsSquare_any (cd : Value) (L : List UInt8) (w : World) (h : SlR w cd (L.map fun c => .int .u8 (c.toNat : Int))) :
    Calls Try.prog 40 #[cd] w fun e w' => (∃ x : Int, e = .returned (.int .i64 x)) ∧ Below w.heap.size w w' := by
  have HD := Lib.hid (drawPairsOf_any cd L w h)
  obtain ⟨ad, cp, rfl⟩ : ∃ a c, cd = .slice a L.length c := by obtain ⟨a, c, e, _⟩ := h; exact ⟨a, c, by rw [e, List.length_map]⟩
  clear h
  go_enter Try.func40, Try.ntmps40
  go_wp2_with fail
  refine (HD.out).mono ?_
  rintro e w2 ⟨⟨x, rfl⟩, hb⟩
  have HB := Lib.hid hb
  clear hb
  go_wp2_with fail
  go_ret
  exact ⟨⟨x, rfl⟩, HB.out⟩
set_option maxRecDepth 100000 in
set_option maxHeartbeats 800000 in
theorem drawNextSquare_any (cd : Value) (L : List UInt8) (w : World) (h : SlR w cd (L.map fun c => .int .u8 (c.toNat : Int))) :
    Calls Try.prog 42 #[cd] w fun e w' => (∃ x : Int, e = .returned (.int .i64 x)) ∧ Below w.heap.size w w' := by
  have HD := Lib.hid (drawPairsOf_any cd L w h)
  obtain ⟨ad, cp, rfl⟩ : ∃ a c, cd = .slice a L.length c := by obtain ⟨a, c, e, _⟩ := h; exact ⟨a, c, by rw [e, List.length_map]⟩
  clear h
  go_enter Try.func42, Try.ntmps42
  go_wp2_with fail
  refine (HD.out).mono ?_
  rintro e w2 ⟨⟨x, rfl⟩, hb⟩
  have HB := Lib.hid hb
  clear hb
  go_wp2_with fail
  go_ret
  exact ⟨⟨x, rfl⟩, HB.out⟩
set_option maxRecDepth 100000 in
set_option maxHeartbeats 1600000 in
theorem drawRootDecimals_any (cd : Value) (L : List UInt8) (w : World) (h : SlR w cd (L.map fun c => .int .u8 (c.toNat : Int))) :
    Calls Try.prog 30 #[cd] w fun e w' => (∃ x y : Int, e = .returned (.tuple #[.int .i64 x, .int .i64 y])) ∧ Below w.heap.size w w' := by
  obtain ⟨ad, cp, rfl⟩ : ∃ a c, cd = .slice a L.length c := by obtain ⟨a, c, e, _⟩ := h; exact ⟨a, c, by rw [e, List.length_map]⟩
  obtain ⟨W1, hW1, hc1, hr1, hb1⟩ := cur_newR h
  have HF1 := Lib.hid (radicand_any w.heap.size _ L 0 W1 (by omega) hc1 hr1)
  have HR1 := Lib.hid hr1
  have HB1 := Lib.hid hb1
  have hW1l : Hid (w.heap.size < W1.heap.size) := Lib.hid (by rw [← hW1]; simp)
  clear hc1 hr1 hb1 h
  go_enter Try.func30, Try.ntmps30
  go_wp2_with fail
  try rw [hW1]
  refine (HF1.out).mono ?_
  rintro e w2 ⟨⟨x, rfl⟩, hc2, hg2⟩
  have HG2 := Lib.hid hg2
  have HB2 := Lib.hid (HB1.out.grown hg2 HB1.out.size (fun k e => by cases e; exact Nat.le_refl _))
  have HC2 := Lib.hid hc2
  clear hc2 hg2
  have hal := grown_alloc w2 (.cells (([0, 1, 2, 4, 5, -1, 3] : List Int).map (Value.int .i64)).toArray 3) none
  have hnl : w2.heap.size ≠ w.heap.size := by have h1 := HG2.out.size; have h2 := hW1l.out; omega
  have HAM := Lib.hid (among_any w.heap.size (.slice ad L.length cp) L (0 + 2 + 2) _ ([0, 1, 2, 4, 5, -1, 3] : List Int) _ (by omega) (by decide) (slr_lit w2 (([0, 1, 2, 4, 5, -1, 3] : List Int).map (Value.int .i64)) 3 (by decide)) (fun a m c e => by cases e; exact hnl) (HC2.out.old hal) (HR1.out.grown (grown_trans HG2.out (grown_any (r := some w.heap.size) hal))))
  have HBL := Lib.hid (HB2.out.grown (grown_any (r := some w.heap.size) hal) HB2.out.size (fun k e => by cases e; exact Nat.le_refl _))
  clear hal hnl
  go_wp2_with fail
  refine (HAM.out).mono ?_
  rintro e w3 ⟨⟨y, rfl, hy⟩, hc3, hg3⟩
  have HB3 := Lib.hid (HBL.out.grown hg3 HBL.out.size (fun k e => by cases e; exact Nat.le_refl _))
  clear hc3 hg3 hy
  go_wp2_with fail
  go_ret2
  exact ⟨⟨x, y, rfl⟩, HB3.out⟩
set_option maxRecDepth 100000 in
set_option maxHeartbeats 1600000 in
theorem drawSumOfTwo_any (cd : Value) (L : List UInt8) (w : World) (h : SlR w cd (L.map fun c => .int .u8 (c.toNat : Int))) :
    Calls Try.prog 33 #[cd] w fun e w' => (∃ x : Int, e = .returned (.int .i64 x)) ∧ Below w.heap.size w w' := by
  obtain ⟨ad, cp, rfl⟩ : ∃ a c, cd = .slice a L.length c := by obtain ⟨a, c, e, _⟩ := h; exact ⟨a, c, by rw [e, List.length_map]⟩
  obtain ⟨W1, hW1, hc1, hr1, hb1⟩ := cur_newR h
  have hal := grown_alloc W1 (.cells (([0, 1, 2, 5, 25, 50, 65, 325, 3, 9999, 10000, 10001, -1, 1105, 200] : List Int).map (Value.int .i64)).toArray 3) none
  have hnl : W1.heap.size ≠ w.heap.size := by rw [← hW1]; simp
  have HAM := Lib.hid (among_any w.heap.size (.slice ad L.length cp) L 0 _ ([0, 1, 2, 5, 25, 50, 65, 325, 3, 9999, 10000, 10001, -1, 1105, 200] : List Int) _ (by omega) (by decide) (slr_lit W1 (([0, 1, 2, 5, 25, 50, 65, 325, 3, 9999, 10000, 10001, -1, 1105, 200] : List Int).map (Value.int .i64)) 3 (by decide)) (fun a m c e => by cases e; exact hnl) (hc1.old hal) (hr1.grown (grown_any (r := some w.heap.size) hal)))
  have HBL := Lib.hid (hb1.grown (grown_any (r := some w.heap.size) hal) hb1.size (fun k e => by cases e; exact Nat.le_refl _))
  clear hal hnl hc1 hr1 hb1 h
  go_enter Try.func33, Try.ntmps33
  go_wp2_with fail
  try rw [hW1]
  try go_wp2_with fail
  refine (HAM.out).mono ?_
  rintro e w3 ⟨⟨y, rfl, hy⟩, hc3, hg3⟩
  have HB3 := Lib.hid (HBL.out.grown hg3 HBL.out.size (fun k e => by cases e; exact Nat.le_refl _))
  clear hc3 hg3 hy
  go_wp2_with fail
  go_ret
  exact ⟨⟨y, rfl⟩, HB3.out⟩
end Go.Proofs.Ytlfplnbmgmookaa
