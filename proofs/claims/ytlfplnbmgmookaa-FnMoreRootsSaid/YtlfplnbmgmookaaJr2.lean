/- The program's stepper of roots: closures that keep the root and the rest. -/
import Derived.Test.YtlfplnbmgmookaaJr1
import Derived.Test.YtlfplnbmgmookaaRm2
import Derived.BigRegion
namespace Go.Proofs.Ytlfplnbmgmookaa
set_option linter.unusedVariables false
open Go.RowKit

set_option maxRecDepth 100000 in
set_option maxHeartbeats 800000 in
theorem taken_any (b m : Nat) (T A B C : Int) (w : World) (hc : w.cell? ⟨b, 0, none⟩ = some (.int .i64 T)) (e1 : IntKind.i64.wrap (20 * T) = A) (e2 : IntKind.i64.wrap (A + (m : Int)) = B) (e3 : IntKind.i64.wrap (B * (m : Int)) = C) :
    Calls Try.prog 76 #[.int .i64 (m : Int), .pointer (some ⟨b, 0, none⟩)] w fun e w' => e = .returned (.int .i64 C) ∧ w' = w := by
  obtain ⟨M, hM⟩ : ∃ M : Int, (m : Int) = M := ⟨_, rfl⟩
  rw [hM] at e2 e3 ⊢
  clear hM
  go_enter Try.func76, Try.ntmps76
  go_wp2_with fail
  go_ret
  exact ⟨rfl, rfl⟩
set_option maxRecDepth 100000 in
set_option maxHeartbeats 800000 in
theorem fits_any (b tk bf m G : Nat) (T N A B C : Int) (w : World) (hb : w.cell? ⟨b, 0, none⟩ = some (.int .i64 T)) (ht : w.cell? ⟨tk, 0, none⟩ = some (.func (.func 76) #[] #[.pointer (some ⟨b, 0, none⟩)])) (hn : w.cell? ⟨bf, 0, none⟩ = some (.int .i64 N))
    (e1 : IntKind.i64.wrap (20 * T) = A) (e2 : IntKind.i64.wrap (A + (m : Int)) = B) (e3 : IntKind.i64.wrap (B * (m : Int)) = C) (e4 : C ≤ N ↔ m ≤ G) :
    Calls Try.prog 77 #[.int .i64 (m : Int), .pointer (some ⟨tk, 0, none⟩), .pointer (some ⟨bf, 0, none⟩)] w fun e w' => e = .returned (.bool (decide (m ≤ G))) ∧ Below w.heap.size w w' := by
  have HT := Lib.hid (fun w hb => taken_any b m T A B C w hb e1 e2 e3)
  have HD : Hid (decide (C ≤ N) = decide (m ≤ G)) := Lib.hid (decide_eq_decide.2 e4)
  clear e1 e2 e3 e4
  go_enter Try.func77, Try.ntmps77
  go_wp2_with fail
  go_quiet ((go_at_call 76; exact Calls.quiet_of_same (HT.out _ hb)))
  rename Nat => nq
  go_wp2_with fail
  go_ret
  exact ⟨by rw [← HD.out]; rfl, bl_drewN (Below.refl _ _) nq⟩
set_option maxRecDepth 100000 in
set_option maxHeartbeats 1600000 in
/-- The greatest number that fits. -/
theorem fitRoot_any (G W : Nat) (tk bf : Nat) (w : World) (hW : W ≤ 16) (hG : G < 2 ^ W)
    (hC : ∀ w' (m : Nat), Below w.heap.size w w' → m < 2 ^ W → Calls Try.prog 77 #[.int .i64 (m : Int), .pointer (some ⟨tk, 0, none⟩), .pointer (some ⟨bf, 0, none⟩)] w' fun e w'' => e = .returned (.bool (decide (m ≤ G))) ∧ Below w'.heap.size w' w'') :
    Calls Try.prog 66 #[.int .i64 (W : Int), .func (.func 77) #[] #[.pointer (some ⟨tk, 0, none⟩), .pointer (some ⟨bf, 0, none⟩)]] w fun e w' => e = .returned (.int .i64 (G : Int)) ∧ Below w.heap.size w w' := by
  have HC := Lib.hid hC
  have HG := Lib.hid hG
  clear hC hG
  go_enter Try.func66, Try.ntmps66
  go_wp2_with fail
  go_loopw [5, 6] (fun gv bv wr => ∃ (j g : Nat), j ≤ W ∧ gv = .int .i64 (g : Int) ∧ bv = .int .i64 ((j : Int) - 1) ∧ Hid (g = G / 2 ^ j * 2 ^ j) ∧ Below w.heap.size w wr) (fun _ bv _ => (intOf bv + 1).toNat)
  case atStart => exact ⟨W, 0, Nat.le_refl _, rfl, rfl, Lib.hid (bit_head HG.out).symm, Below.refl _ _⟩
  case round =>
    obtain ⟨j, g, hj, rfl, rfl, HJ, hb⟩ := hrel
    have HB := Lib.hid hb
    clear hb
    cases j with
    | zero =>
      have HE : Hid (g = G) := Lib.hid (by rw [HJ.out, Nat.pow_zero, Nat.div_one, Nat.mul_one])
      rw [show (((0 : Nat) : Int) - 1) = -1 from rfl]
      go_wp2_with fail
      go_ret
      exact ⟨by rw [HE.out]; rfl, HB.out⟩
    | succ k =>
      obtain ⟨P, X, m, e1, e2, e3, e4, e5, e6⟩ := fit_facts (k := k) HG.out (by omega) hW HJ.out
      have HM := Lib.hid e3
      have H5 := Lib.hid e5
      have H6 := Lib.hid e6
      have HC2 := Lib.hid (HC.out wr m HB.out e4)
      rw [show (((k + 1 : Nat) : Int) - 1) = (k : Int) by omega]
      have z1 : (0 : Int) ≤ (k : Int) := by omega
      have z2 : (k : Int) ≤ 64 := by omega
      have HK : Hid (k < W) := Lib.hid (by omega)
      rw [← e3] at HC2
      clear e3 e4 e5 e6
      by_cases hq : m ≤ G
      · rw [decide_eq_true hq] at HC2
        have HQ := Lib.hid hq
        clear hq
        go_wp2_with (go_at_call 77; refine HC2.out.mono ?_; rintro e w2 ⟨rfl, hb2⟩)
        go_roundw
        case rel => exact ⟨k, m, by omega, by rw [HM.out], by go_num, Lib.hid (H5.out HQ.out), HB.out.trans (hb2.mono HB.out.size)⟩
        case measure => simp [intOf] <;> omega
      · rw [decide_eq_false hq] at HC2
        have HQ := Lib.hid hq
        clear hq
        go_wp2_with (go_at_call 77; refine HC2.out.mono ?_; rintro e w2 ⟨rfl, hb2⟩)
        go_roundw
        case rel => exact ⟨k, g, by omega, rfl, by go_num, Lib.hid (H6.out HQ.out), HB.out.trans (hb2.mono HB.out.size)⟩
        case measure => simp [intOf] <;> omega

set_option maxRecDepth 100000 in
set_option maxHeartbeats 800000 in
theorem rootStepper_any (w : World) :
    Calls Try.prog 70 #[] w fun e w' => e = .returned (.func (.func 75) #[] #[.pointer (some ⟨w.heap.size + 1, 0, none⟩), .pointer (some ⟨w.heap.size, 0, none⟩), .pointer (some ⟨w.heap.size + 2, 0, none⟩)]) ∧
      w'.heap[w.heap.size]? = some (.cells #[.int .i64 0] 3 (0, 0)) ∧ w'.heap[w.heap.size + 1]? = some (.cells #[.int .i64 0] 3 (0, 0)) ∧ w'.heap[w.heap.size + 2]? = some (.cells #[.int .i64 4] 3 (0, 0)) ∧ Below w.heap.size w w' ∧ w'.heap.size = w.heap.size + 3 := by
  have HBL : Hid (∀ w, Calls Try.prog 65 #[.int .u64 9] w fun e w' => e = .returned (.int .i64 4) ∧ w = w') := Lib.hid (fun w => by
    refine (Try.bits_Len 9 w (by omega) (by omega)).mono ?_
    rintro e w' ⟨rfl, rfl⟩
    exact ⟨rfl, rfl⟩)
  go_enter Try.func70, Try.ntmps70
  go_wp2_with fail
  refine (HBL.out _).mono ?_
  rintro e w9 ⟨rfl, rfl⟩
  go_wp2_with fail
  go_ret
  refine ⟨rfl, ?_, ?_, alloc_at (by simp), (((Below.refl _ _).alloc (Nat.le_refl _) _).alloc (by simp) _).alloc (by simp <;> omega) _, by simp⟩
  · exact (alloc_old (by simp <;> omega)).trans ((alloc_old (by simp)).trans (alloc_at rfl))
  · exact (alloc_old (by simp)).trans (alloc_at (by simp))
theorem Btw.setNew {lo hi : Nat} {a w : World} (h : Btw lo hi a w) {p : Addr} (hp : a.heap.size ≤ p.block) (hlo : lo ≤ p.block) (u : Value) : Btw lo hi a (w.setCell p u) :=
  ⟨h.below.setCell hlo u, fun j h3 h4 => (Below.heap_setCell w p u j (by omega)).trans (h.above j h3 h4)⟩
theorem heap3_other (w : World) (g j : Nat) (a b c : Value) (h : j ≠ g) : (((w.setCell ⟨g, 0, none⟩ a).setCell ⟨g, 1, none⟩ b).setCell ⟨g, 2, none⟩ c).heap[j]? = w.heap[j]? :=
  (Below.heap_setCell _ ⟨g, 2, none⟩ c j h).trans ((Below.heap_setCell _ ⟨g, 1, none⟩ b j h).trans (Below.heap_setCell _ ⟨g, 0, none⟩ a j h))
theorem heapO3 (w : World) (g j o0 o1 o2 : Nat) (a b c : Value) (h : j ≠ g) : (((w.setCell ⟨g, o0, none⟩ a).setCell ⟨g, o1, none⟩ b).setCell ⟨g, o2, none⟩ c).heap[j]? = w.heap[j]? :=
  (Below.heap_setCell _ ⟨g, o2, none⟩ c j h).trans ((Below.heap_setCell _ ⟨g, o1, none⟩ b j h).trans (Below.heap_setCell _ ⟨g, o0, none⟩ a j h))
theorem box3_set' {w : World} {g : Nat} {x0 x1 x2 : Value} {T : TypeId} (h : w.heap[g]? = some (.cells #[x0, x1, x2] T (0, 0))) (y0 y1 y2 : Value) : (((w.setCell ⟨g, 0, none⟩ y0).setCell ⟨g, 1, none⟩ y1).setCell ⟨g, 2, none⟩ y2).heap[g]? = some (.cells #[y0, y1, y2] T (0, 0)) := by
  have h1 := heap_setCell_same w g 0 _ _ y0 h
  have h2 := heap_setCell_same _ g 1 _ _ y1 h1
  have h3 := heap_setCell_same _ g 2 _ _ y2 h2
  simpa using h3
theorem box1_set' {w : World} {g : Nat} {a : Value} {T : TypeId} (h : w.heap[g]? = some (.cells #[a] T (0, 0))) (x : Value) : (w.setCell ⟨g, 0, none⟩ x).heap[g]? = some (.cells #[x] T (0, 0)) := by
  have h1 := heap_setCell_same w g 0 _ _ x h
  simpa using h1
set_option maxRecDepth 100000 in
set_option maxHeartbeats 800000 in
/-- A root step: the stepper's boxes have the root, the rest and the width. -/
theorem stepper_any (b G : Nat) (T R x H N A E V T2 : Int) (w : World) (h0 : w.heap[b]? = some (.cells #[.int .i64 T] 3 (0, 0))) (h1 : w.heap[b + 1]? = some (.cells #[.int .i64 R] 3 (0, 0))) (h2 : w.heap[b + 2]? = some (.cells #[.int .i64 4] 3 (0, 0)))
    (e1 : IntKind.i64.wrap (100 * R) = H) (e2 : IntKind.i64.wrap (H + x) = N) (e3 : IntKind.i64.wrap (20 * T) = A) (e4 : IntKind.i64.wrap (10 * T) = E) (e5 : IntKind.i64.wrap (E + (G : Int)) = T2) (e6 : G ≤ 9)
    (e7 : ∀ d : Nat, d ≤ 15 → ∃ B C, IntKind.i64.wrap (A + (d : Int)) = B ∧ IntKind.i64.wrap (B * (d : Int)) = C ∧ (C ≤ N ↔ d ≤ G) ∧ (d = G → IntKind.i64.wrap (N - C) = V)) :
    Calls Try.prog 75 #[.int .i64 x, .pointer (some ⟨b + 1, 0, none⟩), .pointer (some ⟨b, 0, none⟩), .pointer (some ⟨b + 2, 0, none⟩)] w fun e w' => e = .returned (.agg #[.int .i64 N, .int .i64 (G : Int), .int .i64 V]) ∧
      w'.heap[b]? = some (.cells #[.int .i64 T2] 3 (0, 0)) ∧ w'.heap[b + 1]? = some (.cells #[.int .i64 V] 3 (0, 0)) ∧ w'.heap[b + 2]? = some (.cells #[.int .i64 4] 3 (0, 0)) ∧ Btw b (b + 2) w w' := by
  have hlt := lt_of_block h2
  have HFT : Hid (∀ (tk bf : Nat) (w : World), w.cell? ⟨b, 0, none⟩ = some (.int .i64 T) → w.cell? ⟨tk, 0, none⟩ = some (.func (.func 76) #[] #[.pointer (some ⟨b, 0, none⟩)]) → w.cell? ⟨bf, 0, none⟩ = some (.int .i64 N) →
      Calls Try.prog 66 #[.int .i64 4, .func (.func 77) #[] #[.pointer (some ⟨tk, 0, none⟩), .pointer (some ⟨bf, 0, none⟩)]] w fun e w' => e = .returned (.int .i64 (G : Int)) ∧ Below w.heap.size w w') := Lib.hid (fun tk bf w c1 c2 c3 =>
    fitRoot_any G 4 tk bf w (by omega) (by omega) (fun w' m hb hm => by
      obtain ⟨B, C, f1, f2, f3, _⟩ := e7 m (by omega)
      exact fits_any b tk bf m G T N A B C w' ((hb.cell (p := ⟨b, 0, none⟩) (cell_lt c1)).trans c1) ((hb.cell (p := ⟨tk, 0, none⟩) (cell_lt c2)).trans c2) ((hb.cell (p := ⟨bf, 0, none⟩) (cell_lt c3)).trans c3) e3 f1 f2 f3))
  obtain ⟨B, C, f1, f2, f3, f4⟩ := e7 G (by omega)
  have HTK := Lib.hid (fun w hc => taken_any b G T A B C w hc e3 f1 f2)
  have e8 := f4 rfl
  clear f1 f2 f3 f4 e7 e3
  have HB0 : Hid (Below w.heap.size w w) := Lib.hid (Below.refl _ _)
  have HKt0 := Lib.hid (h0)
  have HKr0 := Lib.hid (h1)
  have HKv0 := Lib.hid (h2)
  clear h0 h1 h2
  have hsf : ∀ (P : Program) (a : Addr) (f : Fn) (x y : Array Value) (w : World) (m : Mode), (store a (.func f x y) m).run P w = stored P w a (.func f x y) m := fun P a f x y w m => run_store P w a _ m rfl
  go_enter Try.func75, Try.ntmps75
  have ltt := lt_of_block HKt0.out
  obtain ⟨ct0, ft0⟩ := cell1 HKt0.out
  have ltr := lt_of_block HKr0.out
  obtain ⟨cr0, fr0⟩ := cell1 HKr0.out
  have ltv := lt_of_block HKv0.out
  obtain ⟨cv0, fv0⟩ := cell1 HKv0.out
  go_wp2_with fail
  have hb : Below w.heap.size w (w.alloc (.cells #[.int .i64 0, .int .i64 0, .int .i64 0] 31)) := (Below.refl _ _).alloc (Nat.le_refl _) _
  have hk : (w.alloc (.cells #[.int .i64 0, .int .i64 0, .int .i64 0] 31)).heap[w.heap.size]? = some (.cells #[.int .i64 0, .int .i64 0, .int .i64 0] 31 (0, 0)) := alloc_at rfl
  have hz : (w.alloc (.cells #[.int .i64 0, .int .i64 0, .int .i64 0] 31)).heap.size = w.heap.size + 1 := by simp
  generalize w.alloc (.cells #[.int .i64 0, .int .i64 0, .int .i64 0] 31) = w1 at hb hk hz ⊢
  have HB1 : Hid (Below w.heap.size w w1) := Lib.hid (HB0.out.trans (hb.mono HB0.out.size))
  have HZ1 : Hid (w.heap.size ≤ w1.heap.size) := Lib.hid hb.size
  have HKt1 := Lib.hid ((hb.block _ (lt_of_block HKt0.out)).trans HKt0.out)
  have HKr1 := Lib.hid ((hb.block _ (lt_of_block HKr0.out)).trans HKr0.out)
  have HKv1 := Lib.hid ((hb.block _ (lt_of_block HKv0.out)).trans HKv0.out)
  have HKz1 := Lib.hid hk
  replace HZ1 : Hid (w.heap.size < w1.heap.size) := Lib.hid (by omega)
  have HE1 := Lib.hid hz
  clear hb hk hz
  have hb : Below w1.heap.size w1 (w1.alloc (.cells #[.int .i64 N] 3)) := (Below.refl _ _).alloc (Nat.le_refl _) _
  have hk : (w1.alloc (.cells #[.int .i64 N] 3)).heap[w.heap.size + 1]? = some (.cells #[.int .i64 N] 3 (0, 0)) := alloc_at (by have := HE1.out; omega)
  have hz : (w1.alloc (.cells #[.int .i64 N] 3)).heap.size = w1.heap.size + 1 := by simp
  generalize w1.alloc (.cells #[.int .i64 N] 3) = w2 at hb hk hz ⊢
  have HB2 : Hid (Below w.heap.size w w2) := Lib.hid (HB1.out.trans (hb.mono HB1.out.size))
  have HZ2 : Hid (w1.heap.size ≤ w2.heap.size) := Lib.hid hb.size
  have HKt2 := Lib.hid ((hb.block _ (lt_of_block HKt1.out)).trans HKt1.out)
  have HKr2 := Lib.hid ((hb.block _ (lt_of_block HKr1.out)).trans HKr1.out)
  have HKv2 := Lib.hid ((hb.block _ (lt_of_block HKv1.out)).trans HKv1.out)
  have HKz2 := Lib.hid ((hb.block _ (lt_of_block HKz1.out)).trans HKz1.out)
  have HKf2 := Lib.hid hk
  replace HZ2 : Hid (w1.heap.size < w2.heap.size) := Lib.hid (by omega)
  have HE2 := Lib.hid hz
  clear hb hk hz
  have hb : Below w2.heap.size w2 (w2.alloc (.cells #[.func (.func 76) #[] #[.pointer (some ⟨b, 0, none⟩)]] 54)) := (Below.refl _ _).alloc (Nat.le_refl _) _
  have hk : (w2.alloc (.cells #[.func (.func 76) #[] #[.pointer (some ⟨b, 0, none⟩)]] 54)).heap[w.heap.size + 1 + 1]? = some (.cells #[.func (.func 76) #[] #[.pointer (some ⟨b, 0, none⟩)]] 54 (0, 0)) := alloc_at (by have := HE1.out; have := HE2.out; omega)
  have hz : (w2.alloc (.cells #[.func (.func 76) #[] #[.pointer (some ⟨b, 0, none⟩)]] 54)).heap.size = w2.heap.size + 1 := by simp
  generalize w2.alloc (.cells #[.func (.func 76) #[] #[.pointer (some ⟨b, 0, none⟩)]] 54) = w3 at hb hk hz ⊢
  have HB3 : Hid (Below w.heap.size w w3) := Lib.hid (HB2.out.trans (hb.mono HB2.out.size))
  have HZ3 : Hid (w2.heap.size ≤ w3.heap.size) := Lib.hid hb.size
  have HKt3 := Lib.hid ((hb.block _ (lt_of_block HKt2.out)).trans HKt2.out)
  have HKr3 := Lib.hid ((hb.block _ (lt_of_block HKr2.out)).trans HKr2.out)
  have HKv3 := Lib.hid ((hb.block _ (lt_of_block HKv2.out)).trans HKv2.out)
  have HKz3 := Lib.hid ((hb.block _ (lt_of_block HKz2.out)).trans HKz2.out)
  have HKf3 := Lib.hid ((hb.block _ (lt_of_block HKf2.out)).trans HKf2.out)
  have HKk3 := Lib.hid hk
  replace HZ3 : Hid (w2.heap.size < w3.heap.size) := Lib.hid (by omega)
  have HE3 := Lib.hid hz
  clear hb hk hz
  clear ct0 ft0 ltt cr0 fr0 ltr cv0 fv0 ltv
  have ltt := lt_of_block HKt3.out
  obtain ⟨ct0, ft0⟩ := cell1 HKt3.out
  have ltr := lt_of_block HKr3.out
  obtain ⟨cr0, fr0⟩ := cell1 HKr3.out
  have ltv := lt_of_block HKv3.out
  obtain ⟨cv0, fv0⟩ := cell1 HKv3.out
  have ltz := lt_of_block HKz3.out
  obtain ⟨cz0, cz1, cz2, fz0, fz1, fz2⟩ := cell3 HKz3.out
  have ltf := lt_of_block HKf3.out
  obtain ⟨cf0, ff0⟩ := cell1 HKf3.out
  have ltk := lt_of_block HKk3.out
  obtain ⟨ck0, fk0⟩ := cell1 HKk3.out
  go_wp2_with fail
  refine (HFT.out _ _ _ ct0 ck0 cf0).mono ?_
  rintro e w4 ⟨rfl, hb⟩
  have HB4 : Hid (Below w.heap.size w w4) := Lib.hid (HB3.out.trans (hb.mono HB3.out.size))
  have HZ4 : Hid (w3.heap.size ≤ w4.heap.size) := Lib.hid hb.size
  have HKt4 := Lib.hid ((hb.block _ (lt_of_block HKt3.out)).trans HKt3.out)
  have HKr4 := Lib.hid ((hb.block _ (lt_of_block HKr3.out)).trans HKr3.out)
  have HKv4 := Lib.hid ((hb.block _ (lt_of_block HKv3.out)).trans HKv3.out)
  have HKz4 := Lib.hid ((hb.block _ (lt_of_block HKz3.out)).trans HKz3.out)
  have HKf4 := Lib.hid ((hb.block _ (lt_of_block HKf3.out)).trans HKf3.out)
  have HKk4 := Lib.hid ((hb.block _ (lt_of_block HKk3.out)).trans HKk3.out)
  clear hb
  clear ct0 ft0 ltt cr0 fr0 ltr cv0 fv0 ltv cz0 cz1 cz2 fz0 fz1 fz2 ltz cf0 ff0 ltf ck0 fk0 ltk
  have ltt := lt_of_block HKt4.out
  obtain ⟨ct0, ft0⟩ := cell1 HKt4.out
  have ltr := lt_of_block HKr4.out
  obtain ⟨cr0, fr0⟩ := cell1 HKr4.out
  have ltv := lt_of_block HKv4.out
  obtain ⟨cv0, fv0⟩ := cell1 HKv4.out
  have ltz := lt_of_block HKz4.out
  obtain ⟨cz0, cz1, cz2, fz0, fz1, fz2⟩ := cell3 HKz4.out
  have ltf := lt_of_block HKf4.out
  obtain ⟨cf0, ff0⟩ := cell1 HKf4.out
  have ltk := lt_of_block HKk4.out
  obtain ⟨ck0, fk0⟩ := cell1 HKk4.out
  go_wp2_with fail
  refine wp_region_held_drew (S := (fun u => u.cell? ⟨w.heap.size + 1, 0, none⟩ = some (.int .i64 N) ∧ u.cell? ⟨w.heap.size + 1 + 1, 0, none⟩ = some (.func (.func 76) #[] #[.pointer (some ⟨b, 0, none⟩)]))) (by kernel_rfl) (⟨cf0, ck0⟩) (fun hHeld => ?_)
  have hb : Below w4.heap.size w4 w4.drew := (Below.refl _ _).drew
  generalize w4.drew = w5 at hb hHeld ⊢
  have HB5 : Hid (Below w.heap.size w w5) := Lib.hid (HB4.out.trans (hb.mono HB4.out.size))
  have HZ5 : Hid (w4.heap.size ≤ w5.heap.size) := Lib.hid hb.size
  have HKt5 := Lib.hid ((hb.block _ (lt_of_block HKt4.out)).trans HKt4.out)
  have HKr5 := Lib.hid ((hb.block _ (lt_of_block HKr4.out)).trans HKr4.out)
  have HKv5 := Lib.hid ((hb.block _ (lt_of_block HKv4.out)).trans HKv4.out)
  have HKz5 := Lib.hid ((hb.block _ (lt_of_block HKz4.out)).trans HKz4.out)
  have HKf5 := Lib.hid ((hb.block _ (lt_of_block HKf4.out)).trans HKf4.out)
  have HKk5 := Lib.hid ((hb.block _ (lt_of_block HKk4.out)).trans HKk4.out)
  clear hb
  clear ct0 ft0 ltt cr0 fr0 ltr cv0 fv0 ltv cz0 cz1 cz2 fz0 fz1 fz2 ltz cf0 ff0 ltf ck0 fk0 ltk
  have ltt := lt_of_block HKt5.out
  obtain ⟨ct0, ft0⟩ := cell1 HKt5.out
  have ltr := lt_of_block HKr5.out
  obtain ⟨cr0, fr0⟩ := cell1 HKr5.out
  have ltv := lt_of_block HKv5.out
  obtain ⟨cv0, fv0⟩ := cell1 HKv5.out
  have ltz := lt_of_block HKz5.out
  obtain ⟨cz0, cz1, cz2, fz0, fz1, fz2⟩ := cell3 HKz5.out
  have ltf := lt_of_block HKf5.out
  obtain ⟨cf0, ff0⟩ := cell1 HKf5.out
  have ltk := lt_of_block HKk5.out
  obtain ⟨ck0, fk0⟩ := cell1 HKk5.out
  refine take1 (i := 0) (v := ?v1) (some 17) rfl rfl (by kernel_rfl) (by kernel_rfl) (by kernel_rfl) (fun _ _ _ h => h) (Or.inl ⟨by rfl, ?y1⟩) (by assumption) ?r1
  case y1 => (intro w hSw; (try dsimp only at hSw); go_simp; (first | done | with_reducible rfl))
  try simp only [Act.put, List.setIfInBounds_toArray, List.set_cons_zero, List.set_cons_succ]
  refine take1 (i := 1) (v := ?v2) (some 18) rfl rfl (by kernel_rfl) (by kernel_rfl) (by kernel_rfl) (fun _ _ _ h => h) (Or.inl ⟨by rfl, ?y2⟩) (by assumption) ?r2
  case y2 => (intro w hSw; (try dsimp only at hSw); go_simp; (first | done | with_reducible rfl))
  try simp only [Act.put, List.setIfInBounds_toArray, List.set_cons_zero, List.set_cons_succ]
  refine take1 (i := 2) (v := ?v3) (some 19) rfl rfl (by kernel_rfl) (by kernel_rfl) (by kernel_rfl) (fun _ _ _ h => h) (Or.inl ⟨by rfl, ?y3⟩) (by assumption) ?r3
  case y3 => (intro w hSw; (try dsimp only at hSw); go_simp; (first | done | with_reducible rfl))
  try simp only [Act.put, List.setIfInBounds_toArray, List.set_cons_zero, List.set_cons_succ]
  refine wpAnyH_ready (rs := [3]) (by kernel_rfl) (by simp) ?_
  refine AllReadyH.cons rfl (fun K hK => ?_) AllReadyH.nil
  go_simp
  go_at_call 76
  refine (HTK.out _ ct0).mono ?_
  rintro e w9 ⟨rfl, hw9⟩
  subst w9
  try go_simp
  refine hK.out _ _ (⟨cf0, ck0⟩) (fun hHeld => ?_)
  clear hK K
  try simp only [Act.put, List.setIfInBounds_toArray, List.set_cons_zero, List.set_cons_succ]
  refine take1 (i := 4) (v := ?v4) (some 21) rfl rfl (by kernel_rfl) (by kernel_rfl) (by kernel_rfl) (fun _ _ _ h => h) (Or.inl ⟨by rfl, ?y4⟩) (by assumption) ?r4
  case y4 => (intro w hSw; (try dsimp only at hSw); go_simp; (first | done | with_reducible rfl))
  try simp only [Act.put, List.setIfInBounds_toArray, List.set_cons_zero, List.set_cons_succ]
  refine wpAnyH_ready (rs := [5]) (by kernel_rfl) (by simp) ?_
  refine AllReadyH.cons rfl (fun K hK => ?_) AllReadyH.nil
  go_simp
  have k0 := (Below.heap_setCell w5 ⟨b + 1, 0, none⟩ (.int .i64 V) b (by show b ≠ b + 1; omega)).trans HKt5.out
  have k1 := box1_set' HKr5.out (.int .i64 V)
  have k2 := (Below.heap_setCell w5 ⟨b + 1, 0, none⟩ (.int .i64 V) (b + 2) (by show b + 2 ≠ b + 1; omega)).trans HKv5.out
  have kz := (Below.heap_setCell w5 ⟨b + 1, 0, none⟩ (.int .i64 V) w.heap.size (by show w.heap.size ≠ b + 1; omega)).trans HKz5.out
  have kf := (Below.heap_setCell w5 ⟨b + 1, 0, none⟩ (.int .i64 V) (w.heap.size + 1) (by show w.heap.size + 1 ≠ b + 1; omega)).trans HKf5.out
  have kk := (Below.heap_setCell w5 ⟨b + 1, 0, none⟩ (.int .i64 V) (w.heap.size + 1 + 1) (by show w.heap.size + 1 + 1 ≠ b + 1; omega)).trans HKk5.out
  have hbt : Btw b (b + 2) w (w5.setCell ⟨b + 1, 0, none⟩ (.int .i64 V)) := ((Btw.refl b (b + 2) w).of_below HB5.out (by omega)).setCell (by show b ≤ b + 1; omega) (by show b + 1 < b + 2; omega) _
  have hsz : (w5.setCell ⟨b + 1, 0, none⟩ (.int .i64 V)).heap.size = w5.heap.size := by simp
  have HSZ : Hid (w.heap.size + 2 < w5.heap.size) := Lib.hid (by have := lt_of_block HKk5.out; omega)
  generalize w5.setCell ⟨b + 1, 0, none⟩ (.int .i64 V) = w7 at k0 k1 k2 kz kf kk hbt hsz ⊢
  have K0 := Lib.hid k0
  have K1 := Lib.hid k1
  have K2 := Lib.hid k2
  have KZ := Lib.hid kz
  have HBT := Lib.hid hbt
  have HLT : Hid (w.heap.size + 2 < w7.heap.size) := Lib.hid (by rw [hsz]; exact HSZ.out)
  clear ct0 ft0 ltt cr0 fr0 ltr cv0 fv0 ltv cz0 cz1 cz2 fz0 fz1 fz2 ltz cf0 ff0 ltf ck0 fk0 ltk
  obtain ⟨ct0, ft0⟩ := cell1 k0
  obtain ⟨cr0, fr0⟩ := cell1 k1
  obtain ⟨cz0, cz1, cz2, fz0, fz1, fz2⟩ := cell3 kz
  obtain ⟨cf0, ff0⟩ := cell1 kf
  obtain ⟨ck0, fk0⟩ := cell1 kk
  have ltz := lt_of_block kz
  clear k0 k1 k2 kz kf kk hbt hsz
  refine hK.out _ _ (⟨cf0, ck0⟩) (fun hHeld => ?_)
  clear hK K
  try simp only [Act.put]
  refine wpAnyH_done (by kernel_rfl) ?_ _
  clear hsf HFT HTK
  go_wp2_with fail
  have j0 := box1_set' K0.out (.int .i64 T2)
  have j1 := (Below.heap_setCell w7 ⟨b, 0, none⟩ (.int .i64 T2) (b + 1) (by show b + 1 ≠ b; omega)).trans K1.out
  have j2 := (Below.heap_setCell w7 ⟨b, 0, none⟩ (.int .i64 T2) (b + 2) (by show b + 2 ≠ b; omega)).trans K2.out
  have jz := (Below.heap_setCell w7 ⟨b, 0, none⟩ (.int .i64 T2) w.heap.size (by show w.heap.size ≠ b; omega)).trans KZ.out
  have jb : Btw b (b + 2) w (w7.setCell ⟨b, 0, none⟩ (.int .i64 T2)) := HBT.out.setCell (Nat.le_refl _) (by show b < b + 2; omega) _
  generalize w7.setCell ⟨b, 0, none⟩ (.int .i64 T2) = w8 at j0 j1 j2 jz jb ⊢
  have i0 := (heap3_other w8 w.heap.size b (.int .i64 N) (.int .i64 (G : Int)) (.int .i64 V) (by omega)).trans j0
  have i1 := (heap3_other w8 w.heap.size (b + 1) (.int .i64 N) (.int .i64 (G : Int)) (.int .i64 V) (by omega)).trans j1
  have i2 := (heap3_other w8 w.heap.size (b + 2) (.int .i64 N) (.int .i64 (G : Int)) (.int .i64 V) (by omega)).trans j2
  have iz := box3_set' jz (.int .i64 N) (.int .i64 (G : Int)) (.int .i64 V)
  have ib := ((jb.setNew (p := ⟨w.heap.size, 0, none⟩) (Nat.le_refl _) (by show b ≤ w.heap.size; omega) (.int .i64 N)).setNew (p := ⟨w.heap.size, 1, none⟩) (Nat.le_refl _) (by show b ≤ w.heap.size; omega) (.int .i64 (G : Int))).setNew (p := ⟨w.heap.size, 2, none⟩) (Nat.le_refl _) (by show b ≤ w.heap.size; omega) (.int .i64 V)
  generalize ((w8.setCell ⟨w.heap.size, 0, none⟩ (.int .i64 N)).setCell ⟨w.heap.size, 1, none⟩ (.int .i64 (G : Int))).setCell ⟨w.heap.size, 2, none⟩ (.int .i64 V) = w9 at i0 i1 i2 iz ib ⊢
  obtain ⟨d0, d1, d2, _, _, _⟩ := cell3 iz
  exact bodyPost_ret (v := .agg #[.int .i64 N, .int .i64 (G : Int), .int .i64 V]) (by simp [results, Try.results75, go_sem, d0, d1, d2]) rfl ⟨rfl, i0, i1, i2, ib⟩
end Go.Proofs.Ytlfplnbmgmookaa
