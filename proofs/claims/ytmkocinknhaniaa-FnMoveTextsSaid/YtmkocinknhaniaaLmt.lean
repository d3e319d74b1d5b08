/- The law FnMoveTexts. -/
import Derived.Test.YtmkocinknhaniaaKm
import Derived.Test.YtmkocinknhaniaaKh
import Derived.Test.YtmkocinknhaniaaDbv
import Derived.Test.YtmkocinknhaniaaDbw
import Derived.Test.YtmkocinknhaniaaDbx
import Derived.Test.YtmkocinknhaniaaMmt
import Derived.Test.YtmkocinknhaniaaMtxt
import Derived.Test.YtmkocinknhaniaaQtxt
import Derived.Test.YtmkocinknhaniaaMparse
import Derived.Test.YtmkocinknhaniaaQparse
import Derived.Test.YtmkocinknhaniaaMmerge
import Derived.Test.YtmkocinknhaniaaQmerge
import Derived.Test.YtmkocinknhaniaaKi
import Derived.Test.YtmkocinknhaniaaQchange
import Derived.Test.YtmkocinknhaniaaMbeads
import Derived.Test.YtmkocinknhaniaaQbeads
namespace Go.Proofs.Ytmkocinknhaniaa
set_option linter.unusedVariables false
open Go.RowKit
set_option linter.unusedSimpArgs false

def MxB (f : Nat) (av : Array Value) (w : World) (ms : List Mv) (b : Bool) : Prop :=
  Calls Try.prog f av w fun e w' => (∃ v, e = .returned (.tuple #[v, .bool b]) ∧ RowsR 3 mvC w' v ms) ∧ Below w.heap.size w w'
theorem ofOwnX {f : Nat} {av : Array Value} {w : World} {ms : List Mv} {b : Bool} (h : Calls Try.prog f av w fun e w' => (∃ v, e = .returned (.tuple #[v, .bool b]) ∧ w'.ownsRow w.heap.size 40 3 v ms.length (flatC mvC ms)) ∧ Below w.heap.size w w') : MxB f av w ms b :=
  h.mono fun _ _ ⟨⟨v, he, ho⟩, hb⟩ => ⟨⟨v, he, RowsR.of_own mvC_len ho⟩, hb⟩
def SxB (f : Nat) (av : Array Value) (w : World) (t : ByteArray) (b : Bool) : Prop :=
  Calls Try.prog f av w fun e w' => e = .returned (.tuple #[.string t, .bool b]) ∧ Below w.heap.size w w'
theorem text_size {ms : List Mv} (h : okMs ms) : (⟨(msT ms).toArray⟩ : ByteArray).size ≤ 300 := by
  have h1 := msT_len ms
  have h2 := h.2
  have h3 : (⟨(msT ms).toArray⟩ : ByteArray).size = (msT ms).length := by simp [ByteArray.size]
  omega
/-- MovesText of both, and what its text is read as. -/
theorem mt_same (ms : List Mv) : ∃ (t : ByteArray) (b : Bool) (qs : List Mv) (b2 : Bool), (∀ w sv, RowsR 3 mvC w sv ms → SxB 8 #[sv] w t b) ∧ (∀ w sv, RowsR 3 mvC w sv ms → SxB 6 #[sv] w t b) ∧ (∀ w, MxB 7 #[.string t] w qs b2) ∧ (b = true → b2 = true ∧ qs = ms) := by
  by_cases h : okMs ms
  · exact ⟨⟨(msT ms).toArray⟩, true, ms, true, fun w sv hr => specText_yes sv ms w hr h, fun w sv hr => implText_yes sv ms w hr h, fun w => ofOwnX (implParse_any _ w (by have := text_size h; omega) ms true (pmF_text h)), fun _ => ⟨rfl, rfl⟩⟩
  · obtain ⟨qs, b2, hk⟩ := pmF_or (⟨#[]⟩ : ByteArray)
    exact ⟨⟨#[]⟩, false, qs, b2, fun w sv hr => specText_no sv ms w hr h, fun w sv hr => implText_no sv ms w hr h, fun w => ofOwnX (implParse_any _ w (by decide) qs b2 hk), fun h => by cases h⟩
/-- ParseMoves of both, and the text of what it reads. -/
theorem pm_same (s : ByteArray) (hs : s.size ≤ 1048576) : ∃ (qs : List Mv) (b : Bool) (t : ByteArray) (b2 : Bool), (∀ w, MxB 11 #[.string s] w qs b) ∧ (∀ w, MxB 7 #[.string s] w qs b) ∧ (∀ w sv, RowsR 3 mvC w sv qs → SxB 6 #[sv] w t b2) ∧ (b = true → b2 = true ∧ t = s) := by
  obtain ⟨qs, b, hk⟩ := pmF_or s
  have h1 : ∀ w, MxB 11 #[.string s] w qs b := fun w => ofOwnX (specParse_any s w hs qs b hk)
  have h2 : ∀ w, MxB 7 #[.string s] w qs b := fun w => ofOwnX (implParse_any s w hs qs b hk)
  by_cases h : okMs qs
  · refine ⟨qs, b, ⟨(msT qs).toArray⟩, true, h1, h2, fun w sv hr => implText_yes sv qs w hr h, fun hb => ⟨rfl, ?_⟩⟩
    subst hb
    exact (pmF_back hk).2
  · refine ⟨qs, b, ⟨#[]⟩, false, h1, h2, fun w sv hr => implText_no sv qs w hr h, fun hb => ?_⟩
    subst hb
    exact absurd (pmF_back hk).1 h
theorem ch_same (ms : List Mv) (r : Int) : ∃ (s : Int) (b : Bool), (∀ w sv, RowsR 3 mvC w sv ms → InB 18 #[sv, .int .i64 r] w s b) ∧ (∀ w sv, RowsR 3 mvC w sv ms → InB 15 #[sv, .int .i64 r] w s b) := by
  obtain ⟨s, t, hc⟩ := chF_or ms r
  exact ⟨s, t, fun w v h => specChange_any v ms r w h s t hc, fun w v h => implChange_any v ms r w h s t hc⟩
theorem be_same (ms : List Mv) : ∃ (s : Int) (b : Bool), (∀ w sv, RowsR 3 mvC w sv ms → InB 20 #[sv] w s b) ∧ (∀ w sv, RowsR 3 mvC w sv ms → InB 16 #[sv] w s b) := by
  by_cases ho : okMs ms
  · exact ⟨beadsI ms, true, fun w s h => specBeads_yes s ms w h ho, fun w s h => implBeads_yes s ms w h ho⟩
  · exact ⟨0, false, fun w s h => specBeads_no s ms w h ho, fun w s h => implBeads_no s ms w h ho⟩
/-- MergedMoves of both; what merging keeps. -/
theorem mm_same (ms : List Mv) : ∃ (qs : List Mv) (b : Bool), (∀ w sv, RowsR 3 mvC w sv ms → MxB 14 #[sv] w qs b) ∧ (∀ w sv, RowsR 3 mvC w sv ms → MxB 13 #[sv] w qs b) ∧
    (b = true → ∃ s p q : Int, (∀ w sv, RowsR 3 mvC w sv ms → InB 15 #[sv, .int .i64 8] w s true) ∧ (∀ w sv, RowsR 3 mvC w sv qs → InB 15 #[sv, .int .i64 8] w s true) ∧ (∀ w sv, RowsR 3 mvC w sv ms → InB 16 #[sv] w p true) ∧ (∀ w sv, RowsR 3 mvC w sv qs → InB 16 #[sv] w q true) ∧ q ≤ p ∧ qs.length ≤ ms.length) := by
  obtain ⟨qs, b, hk⟩ := mgF_or ms
  refine ⟨qs, b, fun w sv h => ofOwnX (specMerged_any sv ms w h qs b hk), fun w sv h => ofOwnX (implMerged_any sv ms w h qs b hk), fun hb => ?_⟩
  subst hb
  obtain ⟨h1, h2, h3, h4, h5⟩ := mgF_keep hk
  exact ⟨chgI 8 ms, beadsI ms, beadsI qs, fun w sv h => implChange_any sv ms 8 w h _ _ (chF_eight h1), fun w sv h => implChange_any sv qs 8 w h _ _ (h3 ▸ chF_eight h2), fun w sv h => implBeads_yes sv ms w h h1, fun w sv h => implBeads_yes sv qs w h h2, h4, h5⟩
set_option maxRecDepth 100000 in
set_option maxHeartbeats 12800000 in
theorem lawMoveTexts (w : World) (ad : Option Addr) (cp : Nat) (L : List UInt8) (h : SlR w (.slice ad L.length cp) (L.map fun c => .int .u8 (c.toNat : Int))) :
    Calls Try.prog 3 #[.slice ad L.length cp] w fun e w' => e = .returned (.bool true) ∧ Below w.heap.size w w' := by
  have hm : L.length ≤ 9223372036854775807 := by
    obtain ⟨a, c, e, ⟨m, _⟩, _⟩ := h
    rw [List.length_map] at m
    exact m
  have HB0 : Hid (Below w.heap.size w w) := Lib.hid (Below.refl _ _)
  have HRk0 := Lib.hid (h)
  clear h
  by_cases hbig : (65536 : Int) < (L.length : Int)
  · go_enter Try.func3, Try.ntmps3
    go_wp2_with fail
    refine (vBig_any ad L.length cp _ true (decide_eq_true hbig)).mono ?_
    rintro e w' ⟨rfl, hw⟩
    subst w'
    go_wp2_with fail
    go_ret
    exact ⟨rfl, Below.refl _ _⟩
  · go_enter Try.func3, Try.ntmps3
    go_wp2_with fail
    refine (vBig_any ad L.length cp _ false (decide_eq_false (by omega))).mono ?_
    rintro e w' ⟨rfl, hw⟩
    subst w'
    go_wp2_with fail
    refine (drawMovesText_any _ L _ HRk0.out).mono ?_
    rintro e w1 ⟨⟨v, ms, rfl, ho, -⟩, hb⟩
    have HB1 : Hid (Below w.heap.size w w1) := Lib.hid (HB0.out.trans (hb.mono HB0.out.size))
    have HZ1 : Hid (w.heap.size ≤ w1.heap.size) := Lib.hid hb.size
    have HRk1 := Lib.hid (HRk0.out.below HB1.out (Nat.le_refl _))
    clear hb
    obtain ⟨qam, qcm, rfl⟩ := (RowsR.of_own mvC_len ho).form
    have HRm1 := Lib.hid ((RowsR.of_own mvC_len ho))
    have HBs1_1 : Hid (Below w1.heap.size w1 w1) := Lib.hid (Below.refl _ _)
    clear ho
    obtain ⟨t, b, qs, b1, hS, hI, hP, hY⟩ := mt_same ms
    have HS1 := Lib.hid hS
    have HI1 := Lib.hid hI
    have HP1 := Lib.hid hP
    clear hS hI hP
    have hb0 : (b != b) = false := by simp
    have htx : (!t.toList == t.toList) = false := by simp
    go_wp2_with fail
    refine (HI1.out _ _ HRm1.out).mono ?_
    rintro e w2 ⟨rfl, hb⟩
    have HB2 : Hid (Below w.heap.size w w2) := Lib.hid (HB1.out.trans (hb.mono HB1.out.size))
    have HZ2 : Hid (w1.heap.size ≤ w2.heap.size) := Lib.hid hb.size
    have HRk2 := Lib.hid (HRk0.out.below HB2.out (Nat.le_refl _))
    have HRm2 := Lib.hid (HRm1.out.below hb (Nat.le_refl _))
    have HBs1_2 : Hid (Below w1.heap.size w1 w2) := Lib.hid (HBs1_1.out.trans (hb.mono HBs1_1.out.size))
    clear hb
    go_wp2_with fail
    refine (HP1.out _).mono ?_
    rintro e w3 ⟨⟨v, rfl, ho⟩, hb⟩
    have HB3 : Hid (Below w.heap.size w w3) := Lib.hid (HB2.out.trans (hb.mono HB2.out.size))
    have HZ3 : Hid (w2.heap.size ≤ w3.heap.size) := Lib.hid hb.size
    have HRk3 := Lib.hid (HRk0.out.below HB3.out (Nat.le_refl _))
    have HRm3 := Lib.hid (HRm2.out.below hb (Nat.le_refl _))
    have HBs1_3 : Hid (Below w1.heap.size w1 w3) := Lib.hid (HBs1_2.out.trans (hb.mono HBs1_2.out.size))
    clear hb
    obtain ⟨qaq, qcq, rfl⟩ := ho.form
    have HRq3 := Lib.hid (ho)
    have HBs3_3 : Hid (Below w3.heap.size w3 w3) := Lib.hid (Below.refl _ _)
    clear ho
    go_wp2_with fail
    refine (HS1.out _ _ HRm3.out).mono ?_
    rintro e w4 ⟨rfl, hb⟩
    have HB4 : Hid (Below w.heap.size w w4) := Lib.hid (HB3.out.trans (hb.mono HB3.out.size))
    have HZ4 : Hid (w3.heap.size ≤ w4.heap.size) := Lib.hid hb.size
    have HRk4 := Lib.hid (HRk0.out.below HB4.out (Nat.le_refl _))
    have HRm4 := Lib.hid (HRm3.out.below hb (Nat.le_refl _))
    have HRq4 := Lib.hid (HRq3.out.below hb (Nat.le_refl _))
    have HBs1_4 : Hid (Below w1.heap.size w1 w4) := Lib.hid (HBs1_3.out.trans (hb.mono HBs1_3.out.size))
    have HBs3_4 : Hid (Below w3.heap.size w3 w4) := Lib.hid (HBs3_3.out.trans (hb.mono HBs3_3.out.size))
    clear hb
    cases b with
    | true =>
      obtain ⟨rfl, rfl⟩ := hY rfl
      clear hY
      go_wp2_with fail
      refine (vMoves_yes _ _ qs _ HRq4.out HRm4.out).mono ?_
      rintro e w5 ⟨rfl, hb⟩
      have HB5 : Hid (Below w.heap.size w w5) := Lib.hid (HB4.out.trans (hb.mono HB4.out.size))
      have HZ5 : Hid (w4.heap.size ≤ w5.heap.size) := Lib.hid hb.size
      have HRk5 := Lib.hid (HRk0.out.below HB5.out (Nat.le_refl _))
      have HRm5 := Lib.hid (HRm4.out.below hb (Nat.le_refl _))
      have HRq5 := Lib.hid (HRq4.out.below hb (Nat.le_refl _))
      have HBs1_5 : Hid (Below w1.heap.size w1 w5) := Lib.hid (HBs1_4.out.trans (hb.mono HBs1_4.out.size))
      have HBs3_5 : Hid (Below w3.heap.size w3 w5) := Lib.hid (HBs3_4.out.trans (hb.mono HBs3_4.out.size))
      clear hb
      go_wp2_with fail
      refine (drawParseMoves_any _ L _ HRk5.out).mono ?_
      rintro e w6 ⟨⟨s, rfl, hsz⟩, hb⟩
      have HB6 : Hid (Below w.heap.size w w6) := Lib.hid (HB5.out.trans (hb.mono HB5.out.size))
      have HZ6 : Hid (w5.heap.size ≤ w6.heap.size) := Lib.hid hb.size
      have HRk6 := Lib.hid (HRk0.out.below HB6.out (Nat.le_refl _))
      clear hb
      obtain ⟨xs, xb, t2, b2, hS, hI, hT, hY2⟩ := pm_same s (by omega)
      have HS2 := Lib.hid hS
      have HI2 := Lib.hid hI
      have HT2 := Lib.hid hT
      clear hS hI hT
      have hxb : (xb != xb) = false := by simp
      go_wp2_with fail
      refine (HI2.out _).mono ?_
      rintro e w7 ⟨⟨v, rfl, ho⟩, hb⟩
      have HB7 : Hid (Below w.heap.size w w7) := Lib.hid (HB6.out.trans (hb.mono HB6.out.size))
      have HZ7 : Hid (w6.heap.size ≤ w7.heap.size) := Lib.hid hb.size
      have HRk7 := Lib.hid (HRk0.out.below HB7.out (Nat.le_refl _))
      clear hb
      obtain ⟨qax, qcx, rfl⟩ := ho.form
      have HRx7 := Lib.hid (ho)
      have HBs7_7 : Hid (Below w7.heap.size w7 w7) := Lib.hid (Below.refl _ _)
      clear ho
      go_wp2_with fail
      refine (HT2.out _ _ HRx7.out).mono ?_
      rintro e w8 ⟨rfl, hb⟩
      have HB8 : Hid (Below w.heap.size w w8) := Lib.hid (HB7.out.trans (hb.mono HB7.out.size))
      have HZ8 : Hid (w7.heap.size ≤ w8.heap.size) := Lib.hid hb.size
      have HRk8 := Lib.hid (HRk0.out.below HB8.out (Nat.le_refl _))
      have HRx8 := Lib.hid (HRx7.out.below hb (Nat.le_refl _))
      have HBs7_8 : Hid (Below w7.heap.size w7 w8) := Lib.hid (HBs7_7.out.trans (hb.mono HBs7_7.out.size))
      clear hb
      go_wp2_with fail
      refine (HS2.out _).mono ?_
      rintro e w9 ⟨⟨v, rfl, ho⟩, hb⟩
      have HB9 : Hid (Below w.heap.size w w9) := Lib.hid (HB8.out.trans (hb.mono HB8.out.size))
      have HZ9 : Hid (w8.heap.size ≤ w9.heap.size) := Lib.hid hb.size
      have HRk9 := Lib.hid (HRk0.out.below HB9.out (Nat.le_refl _))
      have HRx9 := Lib.hid (HRx8.out.below hb (Nat.le_refl _))
      have HBs7_9 : Hid (Below w7.heap.size w7 w9) := Lib.hid (HBs7_8.out.trans (hb.mono HBs7_8.out.size))
      clear hb
      obtain ⟨qaw, qcw, rfl⟩ := ho.form
      have HRw9 := Lib.hid (ho)
      have HBs9_9 : Hid (Below w9.heap.size w9 w9) := Lib.hid (Below.refl _ _)
      clear ho
      go_wp2_with fail
      refine (vMoves_yes _ _ xs _ HRx9.out HRw9.out).mono ?_
      rintro e w10 ⟨rfl, hb⟩
      have HB10 : Hid (Below w.heap.size w w10) := Lib.hid (HB9.out.trans (hb.mono HB9.out.size))
      have HZ10 : Hid (w9.heap.size ≤ w10.heap.size) := Lib.hid hb.size
      have HRk10 := Lib.hid (HRk0.out.below HB10.out (Nat.le_refl _))
      have HRx10 := Lib.hid (HRx9.out.below hb (Nat.le_refl _))
      have HRw10 := Lib.hid (HRw9.out.below hb (Nat.le_refl _))
      have HBs7_10 : Hid (Below w7.heap.size w7 w10) := Lib.hid (HBs7_9.out.trans (hb.mono HBs7_9.out.size))
      have HBs9_10 : Hid (Below w9.heap.size w9 w10) := Lib.hid (HBs9_9.out.trans (hb.mono HBs9_9.out.size))
      clear hb
      cases xb with
      | true =>
        obtain ⟨rfl, rfl⟩ := hY2 rfl
        have htt : (!t2.toList == t2.toList) = false := by simp
        clear hY2
        go_wp2_with fail
        refine (drawMergedMoves_any _ L _ HRk10.out).mono ?_
        rintro e w11 ⟨⟨v, ys, rfl, ho, -⟩, hb⟩
        have HB11 : Hid (Below w.heap.size w w11) := Lib.hid (HB10.out.trans (hb.mono HB10.out.size))
        have HZ11 : Hid (w10.heap.size ≤ w11.heap.size) := Lib.hid hb.size
        have HRk11 := Lib.hid (HRk0.out.below HB11.out (Nat.le_refl _))
        clear hb
        obtain ⟨qay, qcy, rfl⟩ := (RowsR.of_own mvC_len ho).form
        have HRy11 := Lib.hid ((RowsR.of_own mvC_len ho))
        have HBs11_11 : Hid (Below w11.heap.size w11 w11) := Lib.hid (Below.refl _ _)
        clear ho
        have hmy : ys.length ≤ 9223372036854775807 := by obtain ⟨_, _, _, ⟨m, _⟩, _⟩ := HRy11.out; exact m
        obtain ⟨gs, gb, hS, hI, hY3⟩ := mm_same ys
        have HS3 := Lib.hid hS
        have HI3 := Lib.hid hI
        clear hS hI
        have hgb : (gb != gb) = false := by simp
        go_wp2_with fail
        refine (HI3.out _ _ HRy11.out).mono ?_
        rintro e w12 ⟨⟨v, rfl, ho⟩, hb⟩
        have HB12 : Hid (Below w.heap.size w w12) := Lib.hid (HB11.out.trans (hb.mono HB11.out.size))
        have HZ12 : Hid (w11.heap.size ≤ w12.heap.size) := Lib.hid hb.size
        have HRk12 := Lib.hid (HRk0.out.below HB12.out (Nat.le_refl _))
        have HRy12 := Lib.hid (HRy11.out.below hb (Nat.le_refl _))
        have HBs11_12 : Hid (Below w11.heap.size w11 w12) := Lib.hid (HBs11_11.out.trans (hb.mono HBs11_11.out.size))
        clear hb
        obtain ⟨qag, qcg, rfl⟩ := ho.form
        have HRg12 := Lib.hid (ho)
        have HBs12_12 : Hid (Below w12.heap.size w12 w12) := Lib.hid (Below.refl _ _)
        clear ho
        have hmg : gs.length ≤ 9223372036854775807 := by obtain ⟨_, _, _, ⟨m, _⟩, _⟩ := HRg12.out; exact m
        go_wp2_with fail
        refine (HS3.out _ _ HRy12.out).mono ?_
        rintro e w13 ⟨⟨v, rfl, ho⟩, hb⟩
        have HB13 : Hid (Below w.heap.size w w13) := Lib.hid (HB12.out.trans (hb.mono HB12.out.size))
        have HZ13 : Hid (w12.heap.size ≤ w13.heap.size) := Lib.hid hb.size
        have HRk13 := Lib.hid (HRk0.out.below HB13.out (Nat.le_refl _))
        have HRy13 := Lib.hid (HRy12.out.below hb (Nat.le_refl _))
        have HRg13 := Lib.hid (HRg12.out.below hb (Nat.le_refl _))
        have HBs11_13 : Hid (Below w11.heap.size w11 w13) := Lib.hid (HBs11_12.out.trans (hb.mono HBs11_12.out.size))
        have HBs12_13 : Hid (Below w12.heap.size w12 w13) := Lib.hid (HBs12_12.out.trans (hb.mono HBs12_12.out.size))
        clear hb
        obtain ⟨qah, qch, rfl⟩ := ho.form
        have HRh13 := Lib.hid (ho)
        have HBs13_13 : Hid (Below w13.heap.size w13 w13) := Lib.hid (Below.refl _ _)
        clear ho
        go_wp2_with fail
        refine (vMoves_yes _ _ gs _ HRg13.out HRh13.out).mono ?_
        rintro e w14 ⟨rfl, hb⟩
        have HB14 : Hid (Below w.heap.size w w14) := Lib.hid (HB13.out.trans (hb.mono HB13.out.size))
        have HZ14 : Hid (w13.heap.size ≤ w14.heap.size) := Lib.hid hb.size
        have HRk14 := Lib.hid (HRk0.out.below HB14.out (Nat.le_refl _))
        have HRy14 := Lib.hid (HRy13.out.below hb (Nat.le_refl _))
        have HRg14 := Lib.hid (HRg13.out.below hb (Nat.le_refl _))
        have HRh14 := Lib.hid (HRh13.out.below hb (Nat.le_refl _))
        have HBs11_14 : Hid (Below w11.heap.size w11 w14) := Lib.hid (HBs11_13.out.trans (hb.mono HBs11_13.out.size))
        have HBs12_14 : Hid (Below w12.heap.size w12 w14) := Lib.hid (HBs12_13.out.trans (hb.mono HBs12_13.out.size))
        have HBs13_14 : Hid (Below w13.heap.size w13 w14) := Lib.hid (HBs13_13.out.trans (hb.mono HBs13_13.out.size))
        clear hb
        cases gb with
        | true =>
          obtain ⟨sc, pc, qc, k1, k2, k3, k4, k5, k6⟩ := hY3 rfl
          have HK1 := Lib.hid k1
          have HK2 := Lib.hid k2
          have HK3 := Lib.hid k3
          have HK4 := Lib.hid k4
          have hsc : (sc != sc) = false := by simp
          have hpq : ¬ (pc < qc) := by omega
          have hlq : ¬ ((ys.length : Int) < (gs.length : Int)) := by omega
          clear hY3 k1 k2 k3 k4 k5 k6
          go_wp2_with fail
          refine (HK1.out _ _ HRy14.out).mono ?_
          rintro e w15 ⟨rfl, hb⟩
          have HB15 : Hid (Below w.heap.size w w15) := Lib.hid (HB14.out.trans (hb.mono HB14.out.size))
          have HZ15 : Hid (w14.heap.size ≤ w15.heap.size) := Lib.hid hb.size
          have HRk15 := Lib.hid (HRk0.out.below HB15.out (Nat.le_refl _))
          have HRy15 := Lib.hid (HRy14.out.below hb (Nat.le_refl _))
          have HRg15 := Lib.hid (HRg14.out.below hb (Nat.le_refl _))
          have HBs11_15 : Hid (Below w11.heap.size w11 w15) := Lib.hid (HBs11_14.out.trans (hb.mono HBs11_14.out.size))
          have HBs12_15 : Hid (Below w12.heap.size w12 w15) := Lib.hid (HBs12_14.out.trans (hb.mono HBs12_14.out.size))
          clear hb
          go_wp2_with fail
          refine (HK2.out _ _ HRg15.out).mono ?_
          rintro e w16 ⟨rfl, hb⟩
          have HB16 : Hid (Below w.heap.size w w16) := Lib.hid (HB15.out.trans (hb.mono HB15.out.size))
          have HZ16 : Hid (w15.heap.size ≤ w16.heap.size) := Lib.hid hb.size
          have HRk16 := Lib.hid (HRk0.out.below HB16.out (Nat.le_refl _))
          have HRy16 := Lib.hid (HRy15.out.below hb (Nat.le_refl _))
          have HRg16 := Lib.hid (HRg15.out.below hb (Nat.le_refl _))
          have HBs11_16 : Hid (Below w11.heap.size w11 w16) := Lib.hid (HBs11_15.out.trans (hb.mono HBs11_15.out.size))
          have HBs12_16 : Hid (Below w12.heap.size w12 w16) := Lib.hid (HBs12_15.out.trans (hb.mono HBs12_15.out.size))
          clear hb
          go_wp2_with fail
          refine (HK3.out _ _ HRy16.out).mono ?_
          rintro e w17 ⟨rfl, hb⟩
          have HB17 : Hid (Below w.heap.size w w17) := Lib.hid (HB16.out.trans (hb.mono HB16.out.size))
          have HZ17 : Hid (w16.heap.size ≤ w17.heap.size) := Lib.hid hb.size
          have HRk17 := Lib.hid (HRk0.out.below HB17.out (Nat.le_refl _))
          have HRy17 := Lib.hid (HRy16.out.below hb (Nat.le_refl _))
          have HRg17 := Lib.hid (HRg16.out.below hb (Nat.le_refl _))
          have HBs11_17 : Hid (Below w11.heap.size w11 w17) := Lib.hid (HBs11_16.out.trans (hb.mono HBs11_16.out.size))
          have HBs12_17 : Hid (Below w12.heap.size w12 w17) := Lib.hid (HBs12_16.out.trans (hb.mono HBs12_16.out.size))
          clear hb
          go_wp2_with fail
          refine (HK4.out _ _ HRg17.out).mono ?_
          rintro e w18 ⟨rfl, hb⟩
          have HB18 : Hid (Below w.heap.size w w18) := Lib.hid (HB17.out.trans (hb.mono HB17.out.size))
          have HZ18 : Hid (w17.heap.size ≤ w18.heap.size) := Lib.hid hb.size
          have HRk18 := Lib.hid (HRk0.out.below HB18.out (Nat.le_refl _))
          have HRy18 := Lib.hid (HRy17.out.below hb (Nat.le_refl _))
          have HRg18 := Lib.hid (HRg17.out.below hb (Nat.le_refl _))
          have HBs11_18 : Hid (Below w11.heap.size w11 w18) := Lib.hid (HBs11_17.out.trans (hb.mono HBs11_17.out.size))
          have HBs12_18 : Hid (Below w12.heap.size w12 w18) := Lib.hid (HBs12_17.out.trans (hb.mono HBs12_17.out.size))
          clear hb
          go_wp2_with fail
          refine (drawChangeOf_any _ L _ HRk18.out).mono ?_
          rintro e w19 ⟨⟨v, zs, rr, rfl, ho, -⟩, hb⟩
          have HB19 : Hid (Below w.heap.size w w19) := Lib.hid (HB18.out.trans (hb.mono HB18.out.size))
          have HZ19 : Hid (w18.heap.size ≤ w19.heap.size) := Lib.hid hb.size
          have HRk19 := Lib.hid (HRk0.out.below HB19.out (Nat.le_refl _))
          clear hb
          obtain ⟨qaz, qcz, rfl⟩ := (RowsR.of_own mvC_len ho).form
          have HRz19 := Lib.hid ((RowsR.of_own mvC_len ho))
          have HBs19_19 : Hid (Below w19.heap.size w19 w19) := Lib.hid (Below.refl _ _)
          clear ho
          obtain ⟨cs, cb, hS, hI⟩ := ch_same zs rr
          have HS4 := Lib.hid hS
          have HI4 := Lib.hid hI
          clear hS hI
          have hcs : (cs != cs) = false := by simp
          have hcb : (cb != cb) = false := by simp
          go_wp2_with fail
          refine (HI4.out _ _ HRz19.out).mono ?_
          rintro e w20 ⟨rfl, hb⟩
          have HB20 : Hid (Below w.heap.size w w20) := Lib.hid (HB19.out.trans (hb.mono HB19.out.size))
          have HZ20 : Hid (w19.heap.size ≤ w20.heap.size) := Lib.hid hb.size
          have HRk20 := Lib.hid (HRk0.out.below HB20.out (Nat.le_refl _))
          have HRz20 := Lib.hid (HRz19.out.below hb (Nat.le_refl _))
          have HBs19_20 : Hid (Below w19.heap.size w19 w20) := Lib.hid (HBs19_19.out.trans (hb.mono HBs19_19.out.size))
          clear hb
          go_wp2_with fail
          refine (HS4.out _ _ HRz20.out).mono ?_
          rintro e w21 ⟨rfl, hb⟩
          have HB21 : Hid (Below w.heap.size w w21) := Lib.hid (HB20.out.trans (hb.mono HB20.out.size))
          have HZ21 : Hid (w20.heap.size ≤ w21.heap.size) := Lib.hid hb.size
          have HRk21 := Lib.hid (HRk0.out.below HB21.out (Nat.le_refl _))
          have HRz21 := Lib.hid (HRz20.out.below hb (Nat.le_refl _))
          have HBs19_21 : Hid (Below w19.heap.size w19 w21) := Lib.hid (HBs19_20.out.trans (hb.mono HBs19_20.out.size))
          clear hb
          go_wp2_with fail
          refine (drawBeadsOf_any _ L _ HRk21.out).mono ?_
          rintro e w22 ⟨⟨v, us, rfl, ho, -⟩, hb⟩
          have HB22 : Hid (Below w.heap.size w w22) := Lib.hid (HB21.out.trans (hb.mono HB21.out.size))
          have HZ22 : Hid (w21.heap.size ≤ w22.heap.size) := Lib.hid hb.size
          have HRk22 := Lib.hid (HRk0.out.below HB22.out (Nat.le_refl _))
          clear hb
          obtain ⟨qau, qcu, rfl⟩ := (RowsR.of_own mvC_len ho).form
          have HRu22 := Lib.hid ((RowsR.of_own mvC_len ho))
          have HBs22_22 : Hid (Below w22.heap.size w22 w22) := Lib.hid (Below.refl _ _)
          clear ho
          obtain ⟨bs, bb, hS, hI⟩ := be_same us
          have HS5 := Lib.hid hS
          have HI5 := Lib.hid hI
          clear hS hI
          have hbs : (bs == bs) = true := by simp
          have hbb : (bb == bb) = true := by simp
          go_wp2_with fail
          refine (HI5.out _ _ HRu22.out).mono ?_
          rintro e w23 ⟨rfl, hb⟩
          have HB23 : Hid (Below w.heap.size w w23) := Lib.hid (HB22.out.trans (hb.mono HB22.out.size))
          have HZ23 : Hid (w22.heap.size ≤ w23.heap.size) := Lib.hid hb.size
          have HRk23 := Lib.hid (HRk0.out.below HB23.out (Nat.le_refl _))
          have HRu23 := Lib.hid (HRu22.out.below hb (Nat.le_refl _))
          have HBs22_23 : Hid (Below w22.heap.size w22 w23) := Lib.hid (HBs22_22.out.trans (hb.mono HBs22_22.out.size))
          clear hb
          go_wp2_with fail
          refine (HS5.out _ _ HRu23.out).mono ?_
          rintro e w24 ⟨rfl, hb⟩
          have HB24 : Hid (Below w.heap.size w w24) := Lib.hid (HB23.out.trans (hb.mono HB23.out.size))
          have HZ24 : Hid (w23.heap.size ≤ w24.heap.size) := Lib.hid hb.size
          have HRk24 := Lib.hid (HRk0.out.below HB24.out (Nat.le_refl _))
          have HRu24 := Lib.hid (HRu23.out.below hb (Nat.le_refl _))
          have HBs22_24 : Hid (Below w22.heap.size w22 w24) := Lib.hid (HBs22_23.out.trans (hb.mono HBs22_23.out.size))
          clear hb
          go_wp2_with fail
          go_ret
          exact ⟨ret_bool (by first | (simp; done) | rfl), HB24.out⟩
        | false =>
          clear hY3
          go_wp2_with fail
          refine (drawChangeOf_any _ L _ HRk14.out).mono ?_
          rintro e w15 ⟨⟨v, zs, rr, rfl, ho, -⟩, hb⟩
          have HB15 : Hid (Below w.heap.size w w15) := Lib.hid (HB14.out.trans (hb.mono HB14.out.size))
          have HZ15 : Hid (w14.heap.size ≤ w15.heap.size) := Lib.hid hb.size
          have HRk15 := Lib.hid (HRk0.out.below HB15.out (Nat.le_refl _))
          clear hb
          obtain ⟨qaz, qcz, rfl⟩ := (RowsR.of_own mvC_len ho).form
          have HRz15 := Lib.hid ((RowsR.of_own mvC_len ho))
          have HBs15_15 : Hid (Below w15.heap.size w15 w15) := Lib.hid (Below.refl _ _)
          clear ho
          obtain ⟨cs, cb, hS, hI⟩ := ch_same zs rr
          have HS4 := Lib.hid hS
          have HI4 := Lib.hid hI
          clear hS hI
          have hcs : (cs != cs) = false := by simp
          have hcb : (cb != cb) = false := by simp
          go_wp2_with fail
          refine (HI4.out _ _ HRz15.out).mono ?_
          rintro e w16 ⟨rfl, hb⟩
          have HB16 : Hid (Below w.heap.size w w16) := Lib.hid (HB15.out.trans (hb.mono HB15.out.size))
          have HZ16 : Hid (w15.heap.size ≤ w16.heap.size) := Lib.hid hb.size
          have HRk16 := Lib.hid (HRk0.out.below HB16.out (Nat.le_refl _))
          have HRz16 := Lib.hid (HRz15.out.below hb (Nat.le_refl _))
          have HBs15_16 : Hid (Below w15.heap.size w15 w16) := Lib.hid (HBs15_15.out.trans (hb.mono HBs15_15.out.size))
          clear hb
          go_wp2_with fail
          refine (HS4.out _ _ HRz16.out).mono ?_
          rintro e w17 ⟨rfl, hb⟩
          have HB17 : Hid (Below w.heap.size w w17) := Lib.hid (HB16.out.trans (hb.mono HB16.out.size))
          have HZ17 : Hid (w16.heap.size ≤ w17.heap.size) := Lib.hid hb.size
          have HRk17 := Lib.hid (HRk0.out.below HB17.out (Nat.le_refl _))
          have HRz17 := Lib.hid (HRz16.out.below hb (Nat.le_refl _))
          have HBs15_17 : Hid (Below w15.heap.size w15 w17) := Lib.hid (HBs15_16.out.trans (hb.mono HBs15_16.out.size))
          clear hb
          go_wp2_with fail
          refine (drawBeadsOf_any _ L _ HRk17.out).mono ?_
          rintro e w18 ⟨⟨v, us, rfl, ho, -⟩, hb⟩
          have HB18 : Hid (Below w.heap.size w w18) := Lib.hid (HB17.out.trans (hb.mono HB17.out.size))
          have HZ18 : Hid (w17.heap.size ≤ w18.heap.size) := Lib.hid hb.size
          have HRk18 := Lib.hid (HRk0.out.below HB18.out (Nat.le_refl _))
          clear hb
          obtain ⟨qau, qcu, rfl⟩ := (RowsR.of_own mvC_len ho).form
          have HRu18 := Lib.hid ((RowsR.of_own mvC_len ho))
          have HBs18_18 : Hid (Below w18.heap.size w18 w18) := Lib.hid (Below.refl _ _)
          clear ho
          obtain ⟨bs, bb, hS, hI⟩ := be_same us
          have HS5 := Lib.hid hS
          have HI5 := Lib.hid hI
          clear hS hI
          have hbs : (bs == bs) = true := by simp
          have hbb : (bb == bb) = true := by simp
          go_wp2_with fail
          refine (HI5.out _ _ HRu18.out).mono ?_
          rintro e w19 ⟨rfl, hb⟩
          have HB19 : Hid (Below w.heap.size w w19) := Lib.hid (HB18.out.trans (hb.mono HB18.out.size))
          have HZ19 : Hid (w18.heap.size ≤ w19.heap.size) := Lib.hid hb.size
          have HRk19 := Lib.hid (HRk0.out.below HB19.out (Nat.le_refl _))
          have HRu19 := Lib.hid (HRu18.out.below hb (Nat.le_refl _))
          have HBs18_19 : Hid (Below w18.heap.size w18 w19) := Lib.hid (HBs18_18.out.trans (hb.mono HBs18_18.out.size))
          clear hb
          go_wp2_with fail
          refine (HS5.out _ _ HRu19.out).mono ?_
          rintro e w20 ⟨rfl, hb⟩
          have HB20 : Hid (Below w.heap.size w w20) := Lib.hid (HB19.out.trans (hb.mono HB19.out.size))
          have HZ20 : Hid (w19.heap.size ≤ w20.heap.size) := Lib.hid hb.size
          have HRk20 := Lib.hid (HRk0.out.below HB20.out (Nat.le_refl _))
          have HRu20 := Lib.hid (HRu19.out.below hb (Nat.le_refl _))
          have HBs18_20 : Hid (Below w18.heap.size w18 w20) := Lib.hid (HBs18_19.out.trans (hb.mono HBs18_19.out.size))
          clear hb
          go_wp2_with fail
          go_ret
          exact ⟨ret_bool (by first | (simp; done) | rfl), HB20.out⟩
      | false =>
        clear hY2
        go_wp2_with fail
        refine (drawMergedMoves_any _ L _ HRk10.out).mono ?_
        rintro e w11 ⟨⟨v, ys, rfl, ho, -⟩, hb⟩
        have HB11 : Hid (Below w.heap.size w w11) := Lib.hid (HB10.out.trans (hb.mono HB10.out.size))
        have HZ11 : Hid (w10.heap.size ≤ w11.heap.size) := Lib.hid hb.size
        have HRk11 := Lib.hid (HRk0.out.below HB11.out (Nat.le_refl _))
        clear hb
        obtain ⟨qay, qcy, rfl⟩ := (RowsR.of_own mvC_len ho).form
        have HRy11 := Lib.hid ((RowsR.of_own mvC_len ho))
        have HBs11_11 : Hid (Below w11.heap.size w11 w11) := Lib.hid (Below.refl _ _)
        clear ho
        have hmy : ys.length ≤ 9223372036854775807 := by obtain ⟨_, _, _, ⟨m, _⟩, _⟩ := HRy11.out; exact m
        obtain ⟨gs, gb, hS, hI, hY3⟩ := mm_same ys
        have HS3 := Lib.hid hS
        have HI3 := Lib.hid hI
        clear hS hI
        have hgb : (gb != gb) = false := by simp
        go_wp2_with fail
        refine (HI3.out _ _ HRy11.out).mono ?_
        rintro e w12 ⟨⟨v, rfl, ho⟩, hb⟩
        have HB12 : Hid (Below w.heap.size w w12) := Lib.hid (HB11.out.trans (hb.mono HB11.out.size))
        have HZ12 : Hid (w11.heap.size ≤ w12.heap.size) := Lib.hid hb.size
        have HRk12 := Lib.hid (HRk0.out.below HB12.out (Nat.le_refl _))
        have HRy12 := Lib.hid (HRy11.out.below hb (Nat.le_refl _))
        have HBs11_12 : Hid (Below w11.heap.size w11 w12) := Lib.hid (HBs11_11.out.trans (hb.mono HBs11_11.out.size))
        clear hb
        obtain ⟨qag, qcg, rfl⟩ := ho.form
        have HRg12 := Lib.hid (ho)
        have HBs12_12 : Hid (Below w12.heap.size w12 w12) := Lib.hid (Below.refl _ _)
        clear ho
        have hmg : gs.length ≤ 9223372036854775807 := by obtain ⟨_, _, _, ⟨m, _⟩, _⟩ := HRg12.out; exact m
        go_wp2_with fail
        refine (HS3.out _ _ HRy12.out).mono ?_
        rintro e w13 ⟨⟨v, rfl, ho⟩, hb⟩
        have HB13 : Hid (Below w.heap.size w w13) := Lib.hid (HB12.out.trans (hb.mono HB12.out.size))
        have HZ13 : Hid (w12.heap.size ≤ w13.heap.size) := Lib.hid hb.size
        have HRk13 := Lib.hid (HRk0.out.below HB13.out (Nat.le_refl _))
        have HRy13 := Lib.hid (HRy12.out.below hb (Nat.le_refl _))
        have HRg13 := Lib.hid (HRg12.out.below hb (Nat.le_refl _))
        have HBs11_13 : Hid (Below w11.heap.size w11 w13) := Lib.hid (HBs11_12.out.trans (hb.mono HBs11_12.out.size))
        have HBs12_13 : Hid (Below w12.heap.size w12 w13) := Lib.hid (HBs12_12.out.trans (hb.mono HBs12_12.out.size))
        clear hb
        obtain ⟨qah, qch, rfl⟩ := ho.form
        have HRh13 := Lib.hid (ho)
        have HBs13_13 : Hid (Below w13.heap.size w13 w13) := Lib.hid (Below.refl _ _)
        clear ho
        go_wp2_with fail
        refine (vMoves_yes _ _ gs _ HRg13.out HRh13.out).mono ?_
        rintro e w14 ⟨rfl, hb⟩
        have HB14 : Hid (Below w.heap.size w w14) := Lib.hid (HB13.out.trans (hb.mono HB13.out.size))
        have HZ14 : Hid (w13.heap.size ≤ w14.heap.size) := Lib.hid hb.size
        have HRk14 := Lib.hid (HRk0.out.below HB14.out (Nat.le_refl _))
        have HRy14 := Lib.hid (HRy13.out.below hb (Nat.le_refl _))
        have HRg14 := Lib.hid (HRg13.out.below hb (Nat.le_refl _))
        have HRh14 := Lib.hid (HRh13.out.below hb (Nat.le_refl _))
        have HBs11_14 : Hid (Below w11.heap.size w11 w14) := Lib.hid (HBs11_13.out.trans (hb.mono HBs11_13.out.size))
        have HBs12_14 : Hid (Below w12.heap.size w12 w14) := Lib.hid (HBs12_13.out.trans (hb.mono HBs12_13.out.size))
        have HBs13_14 : Hid (Below w13.heap.size w13 w14) := Lib.hid (HBs13_13.out.trans (hb.mono HBs13_13.out.size))
        clear hb
        cases gb with
        | true =>
          obtain ⟨sc, pc, qc, k1, k2, k3, k4, k5, k6⟩ := hY3 rfl
          have HK1 := Lib.hid k1
          have HK2 := Lib.hid k2
          have HK3 := Lib.hid k3
          have HK4 := Lib.hid k4
          have hsc : (sc != sc) = false := by simp
          have hpq : ¬ (pc < qc) := by omega
          have hlq : ¬ ((ys.length : Int) < (gs.length : Int)) := by omega
          clear hY3 k1 k2 k3 k4 k5 k6
          go_wp2_with fail
          refine (HK1.out _ _ HRy14.out).mono ?_
          rintro e w15 ⟨rfl, hb⟩
          have HB15 : Hid (Below w.heap.size w w15) := Lib.hid (HB14.out.trans (hb.mono HB14.out.size))
          have HZ15 : Hid (w14.heap.size ≤ w15.heap.size) := Lib.hid hb.size
          have HRk15 := Lib.hid (HRk0.out.below HB15.out (Nat.le_refl _))
          have HRy15 := Lib.hid (HRy14.out.below hb (Nat.le_refl _))
          have HRg15 := Lib.hid (HRg14.out.below hb (Nat.le_refl _))
          have HBs11_15 : Hid (Below w11.heap.size w11 w15) := Lib.hid (HBs11_14.out.trans (hb.mono HBs11_14.out.size))
          have HBs12_15 : Hid (Below w12.heap.size w12 w15) := Lib.hid (HBs12_14.out.trans (hb.mono HBs12_14.out.size))
          clear hb
          go_wp2_with fail
          refine (HK2.out _ _ HRg15.out).mono ?_
          rintro e w16 ⟨rfl, hb⟩
          have HB16 : Hid (Below w.heap.size w w16) := Lib.hid (HB15.out.trans (hb.mono HB15.out.size))
          have HZ16 : Hid (w15.heap.size ≤ w16.heap.size) := Lib.hid hb.size
          have HRk16 := Lib.hid (HRk0.out.below HB16.out (Nat.le_refl _))
          have HRy16 := Lib.hid (HRy15.out.below hb (Nat.le_refl _))
          have HRg16 := Lib.hid (HRg15.out.below hb (Nat.le_refl _))
          have HBs11_16 : Hid (Below w11.heap.size w11 w16) := Lib.hid (HBs11_15.out.trans (hb.mono HBs11_15.out.size))
          have HBs12_16 : Hid (Below w12.heap.size w12 w16) := Lib.hid (HBs12_15.out.trans (hb.mono HBs12_15.out.size))
          clear hb
          go_wp2_with fail
          refine (HK3.out _ _ HRy16.out).mono ?_
          rintro e w17 ⟨rfl, hb⟩
          have HB17 : Hid (Below w.heap.size w w17) := Lib.hid (HB16.out.trans (hb.mono HB16.out.size))
          have HZ17 : Hid (w16.heap.size ≤ w17.heap.size) := Lib.hid hb.size
          have HRk17 := Lib.hid (HRk0.out.below HB17.out (Nat.le_refl _))
          have HRy17 := Lib.hid (HRy16.out.below hb (Nat.le_refl _))
          have HRg17 := Lib.hid (HRg16.out.below hb (Nat.le_refl _))
          have HBs11_17 : Hid (Below w11.heap.size w11 w17) := Lib.hid (HBs11_16.out.trans (hb.mono HBs11_16.out.size))
          have HBs12_17 : Hid (Below w12.heap.size w12 w17) := Lib.hid (HBs12_16.out.trans (hb.mono HBs12_16.out.size))
          clear hb
          go_wp2_with fail
          refine (HK4.out _ _ HRg17.out).mono ?_
          rintro e w18 ⟨rfl, hb⟩
          have HB18 : Hid (Below w.heap.size w w18) := Lib.hid (HB17.out.trans (hb.mono HB17.out.size))
          have HZ18 : Hid (w17.heap.size ≤ w18.heap.size) := Lib.hid hb.size
          have HRk18 := Lib.hid (HRk0.out.below HB18.out (Nat.le_refl _))
          have HRy18 := Lib.hid (HRy17.out.below hb (Nat.le_refl _))
          have HRg18 := Lib.hid (HRg17.out.below hb (Nat.le_refl _))
          have HBs11_18 : Hid (Below w11.heap.size w11 w18) := Lib.hid (HBs11_17.out.trans (hb.mono HBs11_17.out.size))
          have HBs12_18 : Hid (Below w12.heap.size w12 w18) := Lib.hid (HBs12_17.out.trans (hb.mono HBs12_17.out.size))
          clear hb
          go_wp2_with fail
          refine (drawChangeOf_any _ L _ HRk18.out).mono ?_
          rintro e w19 ⟨⟨v, zs, rr, rfl, ho, -⟩, hb⟩
          have HB19 : Hid (Below w.heap.size w w19) := Lib.hid (HB18.out.trans (hb.mono HB18.out.size))
          have HZ19 : Hid (w18.heap.size ≤ w19.heap.size) := Lib.hid hb.size
          have HRk19 := Lib.hid (HRk0.out.below HB19.out (Nat.le_refl _))
          clear hb
          obtain ⟨qaz, qcz, rfl⟩ := (RowsR.of_own mvC_len ho).form
          have HRz19 := Lib.hid ((RowsR.of_own mvC_len ho))
          have HBs19_19 : Hid (Below w19.heap.size w19 w19) := Lib.hid (Below.refl _ _)
          clear ho
          obtain ⟨cs, cb, hS, hI⟩ := ch_same zs rr
          have HS4 := Lib.hid hS
          have HI4 := Lib.hid hI
          clear hS hI
          have hcs : (cs != cs) = false := by simp
          have hcb : (cb != cb) = false := by simp
          go_wp2_with fail
          refine (HI4.out _ _ HRz19.out).mono ?_
          rintro e w20 ⟨rfl, hb⟩
          have HB20 : Hid (Below w.heap.size w w20) := Lib.hid (HB19.out.trans (hb.mono HB19.out.size))
          have HZ20 : Hid (w19.heap.size ≤ w20.heap.size) := Lib.hid hb.size
          have HRk20 := Lib.hid (HRk0.out.below HB20.out (Nat.le_refl _))
          have HRz20 := Lib.hid (HRz19.out.below hb (Nat.le_refl _))
          have HBs19_20 : Hid (Below w19.heap.size w19 w20) := Lib.hid (HBs19_19.out.trans (hb.mono HBs19_19.out.size))
          clear hb
          go_wp2_with fail
          refine (HS4.out _ _ HRz20.out).mono ?_
          rintro e w21 ⟨rfl, hb⟩
          have HB21 : Hid (Below w.heap.size w w21) := Lib.hid (HB20.out.trans (hb.mono HB20.out.size))
          have HZ21 : Hid (w20.heap.size ≤ w21.heap.size) := Lib.hid hb.size
          have HRk21 := Lib.hid (HRk0.out.below HB21.out (Nat.le_refl _))
          have HRz21 := Lib.hid (HRz20.out.below hb (Nat.le_refl _))
          have HBs19_21 : Hid (Below w19.heap.size w19 w21) := Lib.hid (HBs19_20.out.trans (hb.mono HBs19_20.out.size))
          clear hb
          go_wp2_with fail
          refine (drawBeadsOf_any _ L _ HRk21.out).mono ?_
          rintro e w22 ⟨⟨v, us, rfl, ho, -⟩, hb⟩
          have HB22 : Hid (Below w.heap.size w w22) := Lib.hid (HB21.out.trans (hb.mono HB21.out.size))
          have HZ22 : Hid (w21.heap.size ≤ w22.heap.size) := Lib.hid hb.size
          have HRk22 := Lib.hid (HRk0.out.below HB22.out (Nat.le_refl _))
          clear hb
          obtain ⟨qau, qcu, rfl⟩ := (RowsR.of_own mvC_len ho).form
          have HRu22 := Lib.hid ((RowsR.of_own mvC_len ho))
          have HBs22_22 : Hid (Below w22.heap.size w22 w22) := Lib.hid (Below.refl _ _)
          clear ho
          obtain ⟨bs, bb, hS, hI⟩ := be_same us
          have HS5 := Lib.hid hS
          have HI5 := Lib.hid hI
          clear hS hI
          have hbs : (bs == bs) = true := by simp
          have hbb : (bb == bb) = true := by simp
          go_wp2_with fail
          refine (HI5.out _ _ HRu22.out).mono ?_
          rintro e w23 ⟨rfl, hb⟩
          have HB23 : Hid (Below w.heap.size w w23) := Lib.hid (HB22.out.trans (hb.mono HB22.out.size))
          have HZ23 : Hid (w22.heap.size ≤ w23.heap.size) := Lib.hid hb.size
          have HRk23 := Lib.hid (HRk0.out.below HB23.out (Nat.le_refl _))
          have HRu23 := Lib.hid (HRu22.out.below hb (Nat.le_refl _))
          have HBs22_23 : Hid (Below w22.heap.size w22 w23) := Lib.hid (HBs22_22.out.trans (hb.mono HBs22_22.out.size))
          clear hb
          go_wp2_with fail
          refine (HS5.out _ _ HRu23.out).mono ?_
          rintro e w24 ⟨rfl, hb⟩
          have HB24 : Hid (Below w.heap.size w w24) := Lib.hid (HB23.out.trans (hb.mono HB23.out.size))
          have HZ24 : Hid (w23.heap.size ≤ w24.heap.size) := Lib.hid hb.size
          have HRk24 := Lib.hid (HRk0.out.below HB24.out (Nat.le_refl _))
          have HRu24 := Lib.hid (HRu23.out.below hb (Nat.le_refl _))
          have HBs22_24 : Hid (Below w22.heap.size w22 w24) := Lib.hid (HBs22_23.out.trans (hb.mono HBs22_23.out.size))
          clear hb
          go_wp2_with fail
          go_ret
          exact ⟨ret_bool (by first | (simp; done) | rfl), HB24.out⟩
        | false =>
          clear hY3
          go_wp2_with fail
          refine (drawChangeOf_any _ L _ HRk14.out).mono ?_
          rintro e w15 ⟨⟨v, zs, rr, rfl, ho, -⟩, hb⟩
          have HB15 : Hid (Below w.heap.size w w15) := Lib.hid (HB14.out.trans (hb.mono HB14.out.size))
          have HZ15 : Hid (w14.heap.size ≤ w15.heap.size) := Lib.hid hb.size
          have HRk15 := Lib.hid (HRk0.out.below HB15.out (Nat.le_refl _))
          clear hb
          obtain ⟨qaz, qcz, rfl⟩ := (RowsR.of_own mvC_len ho).form
          have HRz15 := Lib.hid ((RowsR.of_own mvC_len ho))
          have HBs15_15 : Hid (Below w15.heap.size w15 w15) := Lib.hid (Below.refl _ _)
          clear ho
          obtain ⟨cs, cb, hS, hI⟩ := ch_same zs rr
          have HS4 := Lib.hid hS
          have HI4 := Lib.hid hI
          clear hS hI
          have hcs : (cs != cs) = false := by simp
          have hcb : (cb != cb) = false := by simp
          go_wp2_with fail
          refine (HI4.out _ _ HRz15.out).mono ?_
          rintro e w16 ⟨rfl, hb⟩
          have HB16 : Hid (Below w.heap.size w w16) := Lib.hid (HB15.out.trans (hb.mono HB15.out.size))
          have HZ16 : Hid (w15.heap.size ≤ w16.heap.size) := Lib.hid hb.size
          have HRk16 := Lib.hid (HRk0.out.below HB16.out (Nat.le_refl _))
          have HRz16 := Lib.hid (HRz15.out.below hb (Nat.le_refl _))
          have HBs15_16 : Hid (Below w15.heap.size w15 w16) := Lib.hid (HBs15_15.out.trans (hb.mono HBs15_15.out.size))
          clear hb
          go_wp2_with fail
          refine (HS4.out _ _ HRz16.out).mono ?_
          rintro e w17 ⟨rfl, hb⟩
          have HB17 : Hid (Below w.heap.size w w17) := Lib.hid (HB16.out.trans (hb.mono HB16.out.size))
          have HZ17 : Hid (w16.heap.size ≤ w17.heap.size) := Lib.hid hb.size
          have HRk17 := Lib.hid (HRk0.out.below HB17.out (Nat.le_refl _))
          have HRz17 := Lib.hid (HRz16.out.below hb (Nat.le_refl _))
          have HBs15_17 : Hid (Below w15.heap.size w15 w17) := Lib.hid (HBs15_16.out.trans (hb.mono HBs15_16.out.size))
          clear hb
          go_wp2_with fail
          refine (drawBeadsOf_any _ L _ HRk17.out).mono ?_
          rintro e w18 ⟨⟨v, us, rfl, ho, -⟩, hb⟩
          have HB18 : Hid (Below w.heap.size w w18) := Lib.hid (HB17.out.trans (hb.mono HB17.out.size))
          have HZ18 : Hid (w17.heap.size ≤ w18.heap.size) := Lib.hid hb.size
          have HRk18 := Lib.hid (HRk0.out.below HB18.out (Nat.le_refl _))
          clear hb
          obtain ⟨qau, qcu, rfl⟩ := (RowsR.of_own mvC_len ho).form
          have HRu18 := Lib.hid ((RowsR.of_own mvC_len ho))
          have HBs18_18 : Hid (Below w18.heap.size w18 w18) := Lib.hid (Below.refl _ _)
          clear ho
          obtain ⟨bs, bb, hS, hI⟩ := be_same us
          have HS5 := Lib.hid hS
          have HI5 := Lib.hid hI
          clear hS hI
          have hbs : (bs == bs) = true := by simp
          have hbb : (bb == bb) = true := by simp
          go_wp2_with fail
          refine (HI5.out _ _ HRu18.out).mono ?_
          rintro e w19 ⟨rfl, hb⟩
          have HB19 : Hid (Below w.heap.size w w19) := Lib.hid (HB18.out.trans (hb.mono HB18.out.size))
          have HZ19 : Hid (w18.heap.size ≤ w19.heap.size) := Lib.hid hb.size
          have HRk19 := Lib.hid (HRk0.out.below HB19.out (Nat.le_refl _))
          have HRu19 := Lib.hid (HRu18.out.below hb (Nat.le_refl _))
          have HBs18_19 : Hid (Below w18.heap.size w18 w19) := Lib.hid (HBs18_18.out.trans (hb.mono HBs18_18.out.size))
          clear hb
          go_wp2_with fail
          refine (HS5.out _ _ HRu19.out).mono ?_
          rintro e w20 ⟨rfl, hb⟩
          have HB20 : Hid (Below w.heap.size w w20) := Lib.hid (HB19.out.trans (hb.mono HB19.out.size))
          have HZ20 : Hid (w19.heap.size ≤ w20.heap.size) := Lib.hid hb.size
          have HRk20 := Lib.hid (HRk0.out.below HB20.out (Nat.le_refl _))
          have HRu20 := Lib.hid (HRu19.out.below hb (Nat.le_refl _))
          have HBs18_20 : Hid (Below w18.heap.size w18 w20) := Lib.hid (HBs18_19.out.trans (hb.mono HBs18_19.out.size))
          clear hb
          go_wp2_with fail
          go_ret
          exact ⟨ret_bool (by first | (simp; done) | rfl), HB20.out⟩
    | false =>
      clear hY
      go_wp2_with fail
      refine (drawParseMoves_any _ L _ HRk4.out).mono ?_
      rintro e w5 ⟨⟨s, rfl, hsz⟩, hb⟩
      have HB5 : Hid (Below w.heap.size w w5) := Lib.hid (HB4.out.trans (hb.mono HB4.out.size))
      have HZ5 : Hid (w4.heap.size ≤ w5.heap.size) := Lib.hid hb.size
      have HRk5 := Lib.hid (HRk0.out.below HB5.out (Nat.le_refl _))
      clear hb
      obtain ⟨xs, xb, t2, b2, hS, hI, hT, hY2⟩ := pm_same s (by omega)
      have HS2 := Lib.hid hS
      have HI2 := Lib.hid hI
      have HT2 := Lib.hid hT
      clear hS hI hT
      have hxb : (xb != xb) = false := by simp
      go_wp2_with fail
      refine (HI2.out _).mono ?_
      rintro e w6 ⟨⟨v, rfl, ho⟩, hb⟩
      have HB6 : Hid (Below w.heap.size w w6) := Lib.hid (HB5.out.trans (hb.mono HB5.out.size))
      have HZ6 : Hid (w5.heap.size ≤ w6.heap.size) := Lib.hid hb.size
      have HRk6 := Lib.hid (HRk0.out.below HB6.out (Nat.le_refl _))
      clear hb
      obtain ⟨qax, qcx, rfl⟩ := ho.form
      have HRx6 := Lib.hid (ho)
      have HBs6_6 : Hid (Below w6.heap.size w6 w6) := Lib.hid (Below.refl _ _)
      clear ho
      go_wp2_with fail
      refine (HT2.out _ _ HRx6.out).mono ?_
      rintro e w7 ⟨rfl, hb⟩
      have HB7 : Hid (Below w.heap.size w w7) := Lib.hid (HB6.out.trans (hb.mono HB6.out.size))
      have HZ7 : Hid (w6.heap.size ≤ w7.heap.size) := Lib.hid hb.size
      have HRk7 := Lib.hid (HRk0.out.below HB7.out (Nat.le_refl _))
      have HRx7 := Lib.hid (HRx6.out.below hb (Nat.le_refl _))
      have HBs6_7 : Hid (Below w6.heap.size w6 w7) := Lib.hid (HBs6_6.out.trans (hb.mono HBs6_6.out.size))
      clear hb
      go_wp2_with fail
      refine (HS2.out _).mono ?_
      rintro e w8 ⟨⟨v, rfl, ho⟩, hb⟩
      have HB8 : Hid (Below w.heap.size w w8) := Lib.hid (HB7.out.trans (hb.mono HB7.out.size))
      have HZ8 : Hid (w7.heap.size ≤ w8.heap.size) := Lib.hid hb.size
      have HRk8 := Lib.hid (HRk0.out.below HB8.out (Nat.le_refl _))
      have HRx8 := Lib.hid (HRx7.out.below hb (Nat.le_refl _))
      have HBs6_8 : Hid (Below w6.heap.size w6 w8) := Lib.hid (HBs6_7.out.trans (hb.mono HBs6_7.out.size))
      clear hb
      obtain ⟨qaw, qcw, rfl⟩ := ho.form
      have HRw8 := Lib.hid (ho)
      have HBs8_8 : Hid (Below w8.heap.size w8 w8) := Lib.hid (Below.refl _ _)
      clear ho
      go_wp2_with fail
      refine (vMoves_yes _ _ xs _ HRx8.out HRw8.out).mono ?_
      rintro e w9 ⟨rfl, hb⟩
      have HB9 : Hid (Below w.heap.size w w9) := Lib.hid (HB8.out.trans (hb.mono HB8.out.size))
      have HZ9 : Hid (w8.heap.size ≤ w9.heap.size) := Lib.hid hb.size
      have HRk9 := Lib.hid (HRk0.out.below HB9.out (Nat.le_refl _))
      have HRx9 := Lib.hid (HRx8.out.below hb (Nat.le_refl _))
      have HRw9 := Lib.hid (HRw8.out.below hb (Nat.le_refl _))
      have HBs6_9 : Hid (Below w6.heap.size w6 w9) := Lib.hid (HBs6_8.out.trans (hb.mono HBs6_8.out.size))
      have HBs8_9 : Hid (Below w8.heap.size w8 w9) := Lib.hid (HBs8_8.out.trans (hb.mono HBs8_8.out.size))
      clear hb
      cases xb with
      | true =>
        obtain ⟨rfl, rfl⟩ := hY2 rfl
        have htt : (!t2.toList == t2.toList) = false := by simp
        clear hY2
        go_wp2_with fail
        refine (drawMergedMoves_any _ L _ HRk9.out).mono ?_
        rintro e w10 ⟨⟨v, ys, rfl, ho, -⟩, hb⟩
        have HB10 : Hid (Below w.heap.size w w10) := Lib.hid (HB9.out.trans (hb.mono HB9.out.size))
        have HZ10 : Hid (w9.heap.size ≤ w10.heap.size) := Lib.hid hb.size
        have HRk10 := Lib.hid (HRk0.out.below HB10.out (Nat.le_refl _))
        clear hb
        obtain ⟨qay, qcy, rfl⟩ := (RowsR.of_own mvC_len ho).form
        have HRy10 := Lib.hid ((RowsR.of_own mvC_len ho))
        have HBs10_10 : Hid (Below w10.heap.size w10 w10) := Lib.hid (Below.refl _ _)
        clear ho
        have hmy : ys.length ≤ 9223372036854775807 := by obtain ⟨_, _, _, ⟨m, _⟩, _⟩ := HRy10.out; exact m
        obtain ⟨gs, gb, hS, hI, hY3⟩ := mm_same ys
        have HS3 := Lib.hid hS
        have HI3 := Lib.hid hI
        clear hS hI
        have hgb : (gb != gb) = false := by simp
        go_wp2_with fail
        refine (HI3.out _ _ HRy10.out).mono ?_
        rintro e w11 ⟨⟨v, rfl, ho⟩, hb⟩
        have HB11 : Hid (Below w.heap.size w w11) := Lib.hid (HB10.out.trans (hb.mono HB10.out.size))
        have HZ11 : Hid (w10.heap.size ≤ w11.heap.size) := Lib.hid hb.size
        have HRk11 := Lib.hid (HRk0.out.below HB11.out (Nat.le_refl _))
        have HRy11 := Lib.hid (HRy10.out.below hb (Nat.le_refl _))
        have HBs10_11 : Hid (Below w10.heap.size w10 w11) := Lib.hid (HBs10_10.out.trans (hb.mono HBs10_10.out.size))
        clear hb
        obtain ⟨qag, qcg, rfl⟩ := ho.form
        have HRg11 := Lib.hid (ho)
        have HBs11_11 : Hid (Below w11.heap.size w11 w11) := Lib.hid (Below.refl _ _)
        clear ho
        have hmg : gs.length ≤ 9223372036854775807 := by obtain ⟨_, _, _, ⟨m, _⟩, _⟩ := HRg11.out; exact m
        go_wp2_with fail
        refine (HS3.out _ _ HRy11.out).mono ?_
        rintro e w12 ⟨⟨v, rfl, ho⟩, hb⟩
        have HB12 : Hid (Below w.heap.size w w12) := Lib.hid (HB11.out.trans (hb.mono HB11.out.size))
        have HZ12 : Hid (w11.heap.size ≤ w12.heap.size) := Lib.hid hb.size
        have HRk12 := Lib.hid (HRk0.out.below HB12.out (Nat.le_refl _))
        have HRy12 := Lib.hid (HRy11.out.below hb (Nat.le_refl _))
        have HRg12 := Lib.hid (HRg11.out.below hb (Nat.le_refl _))
        have HBs10_12 : Hid (Below w10.heap.size w10 w12) := Lib.hid (HBs10_11.out.trans (hb.mono HBs10_11.out.size))
        have HBs11_12 : Hid (Below w11.heap.size w11 w12) := Lib.hid (HBs11_11.out.trans (hb.mono HBs11_11.out.size))
        clear hb
        obtain ⟨qah, qch, rfl⟩ := ho.form
        have HRh12 := Lib.hid (ho)
        have HBs12_12 : Hid (Below w12.heap.size w12 w12) := Lib.hid (Below.refl _ _)
        clear ho
        go_wp2_with fail
        refine (vMoves_yes _ _ gs _ HRg12.out HRh12.out).mono ?_
        rintro e w13 ⟨rfl, hb⟩
        have HB13 : Hid (Below w.heap.size w w13) := Lib.hid (HB12.out.trans (hb.mono HB12.out.size))
        have HZ13 : Hid (w12.heap.size ≤ w13.heap.size) := Lib.hid hb.size
        have HRk13 := Lib.hid (HRk0.out.below HB13.out (Nat.le_refl _))
        have HRy13 := Lib.hid (HRy12.out.below hb (Nat.le_refl _))
        have HRg13 := Lib.hid (HRg12.out.below hb (Nat.le_refl _))
        have HRh13 := Lib.hid (HRh12.out.below hb (Nat.le_refl _))
        have HBs10_13 : Hid (Below w10.heap.size w10 w13) := Lib.hid (HBs10_12.out.trans (hb.mono HBs10_12.out.size))
        have HBs11_13 : Hid (Below w11.heap.size w11 w13) := Lib.hid (HBs11_12.out.trans (hb.mono HBs11_12.out.size))
        have HBs12_13 : Hid (Below w12.heap.size w12 w13) := Lib.hid (HBs12_12.out.trans (hb.mono HBs12_12.out.size))
        clear hb
        cases gb with
        | true =>
          obtain ⟨sc, pc, qc, k1, k2, k3, k4, k5, k6⟩ := hY3 rfl
          have HK1 := Lib.hid k1
          have HK2 := Lib.hid k2
          have HK3 := Lib.hid k3
          have HK4 := Lib.hid k4
          have hsc : (sc != sc) = false := by simp
          have hpq : ¬ (pc < qc) := by omega
          have hlq : ¬ ((ys.length : Int) < (gs.length : Int)) := by omega
          clear hY3 k1 k2 k3 k4 k5 k6
          go_wp2_with fail
          refine (HK1.out _ _ HRy13.out).mono ?_
          rintro e w14 ⟨rfl, hb⟩
          have HB14 : Hid (Below w.heap.size w w14) := Lib.hid (HB13.out.trans (hb.mono HB13.out.size))
          have HZ14 : Hid (w13.heap.size ≤ w14.heap.size) := Lib.hid hb.size
          have HRk14 := Lib.hid (HRk0.out.below HB14.out (Nat.le_refl _))
          have HRy14 := Lib.hid (HRy13.out.below hb (Nat.le_refl _))
          have HRg14 := Lib.hid (HRg13.out.below hb (Nat.le_refl _))
          have HBs10_14 : Hid (Below w10.heap.size w10 w14) := Lib.hid (HBs10_13.out.trans (hb.mono HBs10_13.out.size))
          have HBs11_14 : Hid (Below w11.heap.size w11 w14) := Lib.hid (HBs11_13.out.trans (hb.mono HBs11_13.out.size))
          clear hb
          go_wp2_with fail
          refine (HK2.out _ _ HRg14.out).mono ?_
          rintro e w15 ⟨rfl, hb⟩
          have HB15 : Hid (Below w.heap.size w w15) := Lib.hid (HB14.out.trans (hb.mono HB14.out.size))
          have HZ15 : Hid (w14.heap.size ≤ w15.heap.size) := Lib.hid hb.size
          have HRk15 := Lib.hid (HRk0.out.below HB15.out (Nat.le_refl _))
          have HRy15 := Lib.hid (HRy14.out.below hb (Nat.le_refl _))
          have HRg15 := Lib.hid (HRg14.out.below hb (Nat.le_refl _))
          have HBs10_15 : Hid (Below w10.heap.size w10 w15) := Lib.hid (HBs10_14.out.trans (hb.mono HBs10_14.out.size))
          have HBs11_15 : Hid (Below w11.heap.size w11 w15) := Lib.hid (HBs11_14.out.trans (hb.mono HBs11_14.out.size))
          clear hb
          go_wp2_with fail
          refine (HK3.out _ _ HRy15.out).mono ?_
          rintro e w16 ⟨rfl, hb⟩
          have HB16 : Hid (Below w.heap.size w w16) := Lib.hid (HB15.out.trans (hb.mono HB15.out.size))
          have HZ16 : Hid (w15.heap.size ≤ w16.heap.size) := Lib.hid hb.size
          have HRk16 := Lib.hid (HRk0.out.below HB16.out (Nat.le_refl _))
          have HRy16 := Lib.hid (HRy15.out.below hb (Nat.le_refl _))
          have HRg16 := Lib.hid (HRg15.out.below hb (Nat.le_refl _))
          have HBs10_16 : Hid (Below w10.heap.size w10 w16) := Lib.hid (HBs10_15.out.trans (hb.mono HBs10_15.out.size))
          have HBs11_16 : Hid (Below w11.heap.size w11 w16) := Lib.hid (HBs11_15.out.trans (hb.mono HBs11_15.out.size))
          clear hb
          go_wp2_with fail
          refine (HK4.out _ _ HRg16.out).mono ?_
          rintro e w17 ⟨rfl, hb⟩
          have HB17 : Hid (Below w.heap.size w w17) := Lib.hid (HB16.out.trans (hb.mono HB16.out.size))
          have HZ17 : Hid (w16.heap.size ≤ w17.heap.size) := Lib.hid hb.size
          have HRk17 := Lib.hid (HRk0.out.below HB17.out (Nat.le_refl _))
          have HRy17 := Lib.hid (HRy16.out.below hb (Nat.le_refl _))
          have HRg17 := Lib.hid (HRg16.out.below hb (Nat.le_refl _))
          have HBs10_17 : Hid (Below w10.heap.size w10 w17) := Lib.hid (HBs10_16.out.trans (hb.mono HBs10_16.out.size))
          have HBs11_17 : Hid (Below w11.heap.size w11 w17) := Lib.hid (HBs11_16.out.trans (hb.mono HBs11_16.out.size))
          clear hb
          go_wp2_with fail
          refine (drawChangeOf_any _ L _ HRk17.out).mono ?_
          rintro e w18 ⟨⟨v, zs, rr, rfl, ho, -⟩, hb⟩
          have HB18 : Hid (Below w.heap.size w w18) := Lib.hid (HB17.out.trans (hb.mono HB17.out.size))
          have HZ18 : Hid (w17.heap.size ≤ w18.heap.size) := Lib.hid hb.size
          have HRk18 := Lib.hid (HRk0.out.below HB18.out (Nat.le_refl _))
          clear hb
          obtain ⟨qaz, qcz, rfl⟩ := (RowsR.of_own mvC_len ho).form
          have HRz18 := Lib.hid ((RowsR.of_own mvC_len ho))
          have HBs18_18 : Hid (Below w18.heap.size w18 w18) := Lib.hid (Below.refl _ _)
          clear ho
          obtain ⟨cs, cb, hS, hI⟩ := ch_same zs rr
          have HS4 := Lib.hid hS
          have HI4 := Lib.hid hI
          clear hS hI
          have hcs : (cs != cs) = false := by simp
          have hcb : (cb != cb) = false := by simp
          go_wp2_with fail
          refine (HI4.out _ _ HRz18.out).mono ?_
          rintro e w19 ⟨rfl, hb⟩
          have HB19 : Hid (Below w.heap.size w w19) := Lib.hid (HB18.out.trans (hb.mono HB18.out.size))
          have HZ19 : Hid (w18.heap.size ≤ w19.heap.size) := Lib.hid hb.size
          have HRk19 := Lib.hid (HRk0.out.below HB19.out (Nat.le_refl _))
          have HRz19 := Lib.hid (HRz18.out.below hb (Nat.le_refl _))
          have HBs18_19 : Hid (Below w18.heap.size w18 w19) := Lib.hid (HBs18_18.out.trans (hb.mono HBs18_18.out.size))
          clear hb
          go_wp2_with fail
          refine (HS4.out _ _ HRz19.out).mono ?_
          rintro e w20 ⟨rfl, hb⟩
          have HB20 : Hid (Below w.heap.size w w20) := Lib.hid (HB19.out.trans (hb.mono HB19.out.size))
          have HZ20 : Hid (w19.heap.size ≤ w20.heap.size) := Lib.hid hb.size
          have HRk20 := Lib.hid (HRk0.out.below HB20.out (Nat.le_refl _))
          have HRz20 := Lib.hid (HRz19.out.below hb (Nat.le_refl _))
          have HBs18_20 : Hid (Below w18.heap.size w18 w20) := Lib.hid (HBs18_19.out.trans (hb.mono HBs18_19.out.size))
          clear hb
          go_wp2_with fail
          refine (drawBeadsOf_any _ L _ HRk20.out).mono ?_
          rintro e w21 ⟨⟨v, us, rfl, ho, -⟩, hb⟩
          have HB21 : Hid (Below w.heap.size w w21) := Lib.hid (HB20.out.trans (hb.mono HB20.out.size))
          have HZ21 : Hid (w20.heap.size ≤ w21.heap.size) := Lib.hid hb.size
          have HRk21 := Lib.hid (HRk0.out.below HB21.out (Nat.le_refl _))
          clear hb
          obtain ⟨qau, qcu, rfl⟩ := (RowsR.of_own mvC_len ho).form
          have HRu21 := Lib.hid ((RowsR.of_own mvC_len ho))
          have HBs21_21 : Hid (Below w21.heap.size w21 w21) := Lib.hid (Below.refl _ _)
          clear ho
          obtain ⟨bs, bb, hS, hI⟩ := be_same us
          have HS5 := Lib.hid hS
          have HI5 := Lib.hid hI
          clear hS hI
          have hbs : (bs == bs) = true := by simp
          have hbb : (bb == bb) = true := by simp
          go_wp2_with fail
          refine (HI5.out _ _ HRu21.out).mono ?_
          rintro e w22 ⟨rfl, hb⟩
          have HB22 : Hid (Below w.heap.size w w22) := Lib.hid (HB21.out.trans (hb.mono HB21.out.size))
          have HZ22 : Hid (w21.heap.size ≤ w22.heap.size) := Lib.hid hb.size
          have HRk22 := Lib.hid (HRk0.out.below HB22.out (Nat.le_refl _))
          have HRu22 := Lib.hid (HRu21.out.below hb (Nat.le_refl _))
          have HBs21_22 : Hid (Below w21.heap.size w21 w22) := Lib.hid (HBs21_21.out.trans (hb.mono HBs21_21.out.size))
          clear hb
          go_wp2_with fail
          refine (HS5.out _ _ HRu22.out).mono ?_
          rintro e w23 ⟨rfl, hb⟩
          have HB23 : Hid (Below w.heap.size w w23) := Lib.hid (HB22.out.trans (hb.mono HB22.out.size))
          have HZ23 : Hid (w22.heap.size ≤ w23.heap.size) := Lib.hid hb.size
          have HRk23 := Lib.hid (HRk0.out.below HB23.out (Nat.le_refl _))
          have HRu23 := Lib.hid (HRu22.out.below hb (Nat.le_refl _))
          have HBs21_23 : Hid (Below w21.heap.size w21 w23) := Lib.hid (HBs21_22.out.trans (hb.mono HBs21_22.out.size))
          clear hb
          go_wp2_with fail
          go_ret
          exact ⟨ret_bool (by first | (simp; done) | rfl), HB23.out⟩
        | false =>
          clear hY3
          go_wp2_with fail
          refine (drawChangeOf_any _ L _ HRk13.out).mono ?_
          rintro e w14 ⟨⟨v, zs, rr, rfl, ho, -⟩, hb⟩
          have HB14 : Hid (Below w.heap.size w w14) := Lib.hid (HB13.out.trans (hb.mono HB13.out.size))
          have HZ14 : Hid (w13.heap.size ≤ w14.heap.size) := Lib.hid hb.size
          have HRk14 := Lib.hid (HRk0.out.below HB14.out (Nat.le_refl _))
          clear hb
          obtain ⟨qaz, qcz, rfl⟩ := (RowsR.of_own mvC_len ho).form
          have HRz14 := Lib.hid ((RowsR.of_own mvC_len ho))
          have HBs14_14 : Hid (Below w14.heap.size w14 w14) := Lib.hid (Below.refl _ _)
          clear ho
          obtain ⟨cs, cb, hS, hI⟩ := ch_same zs rr
          have HS4 := Lib.hid hS
          have HI4 := Lib.hid hI
          clear hS hI
          have hcs : (cs != cs) = false := by simp
          have hcb : (cb != cb) = false := by simp
          go_wp2_with fail
          refine (HI4.out _ _ HRz14.out).mono ?_
          rintro e w15 ⟨rfl, hb⟩
          have HB15 : Hid (Below w.heap.size w w15) := Lib.hid (HB14.out.trans (hb.mono HB14.out.size))
          have HZ15 : Hid (w14.heap.size ≤ w15.heap.size) := Lib.hid hb.size
          have HRk15 := Lib.hid (HRk0.out.below HB15.out (Nat.le_refl _))
          have HRz15 := Lib.hid (HRz14.out.below hb (Nat.le_refl _))
          have HBs14_15 : Hid (Below w14.heap.size w14 w15) := Lib.hid (HBs14_14.out.trans (hb.mono HBs14_14.out.size))
          clear hb
          go_wp2_with fail
          refine (HS4.out _ _ HRz15.out).mono ?_
          rintro e w16 ⟨rfl, hb⟩
          have HB16 : Hid (Below w.heap.size w w16) := Lib.hid (HB15.out.trans (hb.mono HB15.out.size))
          have HZ16 : Hid (w15.heap.size ≤ w16.heap.size) := Lib.hid hb.size
          have HRk16 := Lib.hid (HRk0.out.below HB16.out (Nat.le_refl _))
          have HRz16 := Lib.hid (HRz15.out.below hb (Nat.le_refl _))
          have HBs14_16 : Hid (Below w14.heap.size w14 w16) := Lib.hid (HBs14_15.out.trans (hb.mono HBs14_15.out.size))
          clear hb
          go_wp2_with fail
          refine (drawBeadsOf_any _ L _ HRk16.out).mono ?_
          rintro e w17 ⟨⟨v, us, rfl, ho, -⟩, hb⟩
          have HB17 : Hid (Below w.heap.size w w17) := Lib.hid (HB16.out.trans (hb.mono HB16.out.size))
          have HZ17 : Hid (w16.heap.size ≤ w17.heap.size) := Lib.hid hb.size
          have HRk17 := Lib.hid (HRk0.out.below HB17.out (Nat.le_refl _))
          clear hb
          obtain ⟨qau, qcu, rfl⟩ := (RowsR.of_own mvC_len ho).form
          have HRu17 := Lib.hid ((RowsR.of_own mvC_len ho))
          have HBs17_17 : Hid (Below w17.heap.size w17 w17) := Lib.hid (Below.refl _ _)
          clear ho
          obtain ⟨bs, bb, hS, hI⟩ := be_same us
          have HS5 := Lib.hid hS
          have HI5 := Lib.hid hI
          clear hS hI
          have hbs : (bs == bs) = true := by simp
          have hbb : (bb == bb) = true := by simp
          go_wp2_with fail
          refine (HI5.out _ _ HRu17.out).mono ?_
          rintro e w18 ⟨rfl, hb⟩
          have HB18 : Hid (Below w.heap.size w w18) := Lib.hid (HB17.out.trans (hb.mono HB17.out.size))
          have HZ18 : Hid (w17.heap.size ≤ w18.heap.size) := Lib.hid hb.size
          have HRk18 := Lib.hid (HRk0.out.below HB18.out (Nat.le_refl _))
          have HRu18 := Lib.hid (HRu17.out.below hb (Nat.le_refl _))
          have HBs17_18 : Hid (Below w17.heap.size w17 w18) := Lib.hid (HBs17_17.out.trans (hb.mono HBs17_17.out.size))
          clear hb
          go_wp2_with fail
          refine (HS5.out _ _ HRu18.out).mono ?_
          rintro e w19 ⟨rfl, hb⟩
          have HB19 : Hid (Below w.heap.size w w19) := Lib.hid (HB18.out.trans (hb.mono HB18.out.size))
          have HZ19 : Hid (w18.heap.size ≤ w19.heap.size) := Lib.hid hb.size
          have HRk19 := Lib.hid (HRk0.out.below HB19.out (Nat.le_refl _))
          have HRu19 := Lib.hid (HRu18.out.below hb (Nat.le_refl _))
          have HBs17_19 : Hid (Below w17.heap.size w17 w19) := Lib.hid (HBs17_18.out.trans (hb.mono HBs17_18.out.size))
          clear hb
          go_wp2_with fail
          go_ret
          exact ⟨ret_bool (by first | (simp; done) | rfl), HB19.out⟩
      | false =>
        clear hY2
        go_wp2_with fail
        refine (drawMergedMoves_any _ L _ HRk9.out).mono ?_
        rintro e w10 ⟨⟨v, ys, rfl, ho, -⟩, hb⟩
        have HB10 : Hid (Below w.heap.size w w10) := Lib.hid (HB9.out.trans (hb.mono HB9.out.size))
        have HZ10 : Hid (w9.heap.size ≤ w10.heap.size) := Lib.hid hb.size
        have HRk10 := Lib.hid (HRk0.out.below HB10.out (Nat.le_refl _))
        clear hb
        obtain ⟨qay, qcy, rfl⟩ := (RowsR.of_own mvC_len ho).form
        have HRy10 := Lib.hid ((RowsR.of_own mvC_len ho))
        have HBs10_10 : Hid (Below w10.heap.size w10 w10) := Lib.hid (Below.refl _ _)
        clear ho
        have hmy : ys.length ≤ 9223372036854775807 := by obtain ⟨_, _, _, ⟨m, _⟩, _⟩ := HRy10.out; exact m
        obtain ⟨gs, gb, hS, hI, hY3⟩ := mm_same ys
        have HS3 := Lib.hid hS
        have HI3 := Lib.hid hI
        clear hS hI
        have hgb : (gb != gb) = false := by simp
        go_wp2_with fail
        refine (HI3.out _ _ HRy10.out).mono ?_
        rintro e w11 ⟨⟨v, rfl, ho⟩, hb⟩
        have HB11 : Hid (Below w.heap.size w w11) := Lib.hid (HB10.out.trans (hb.mono HB10.out.size))
        have HZ11 : Hid (w10.heap.size ≤ w11.heap.size) := Lib.hid hb.size
        have HRk11 := Lib.hid (HRk0.out.below HB11.out (Nat.le_refl _))
        have HRy11 := Lib.hid (HRy10.out.below hb (Nat.le_refl _))
        have HBs10_11 : Hid (Below w10.heap.size w10 w11) := Lib.hid (HBs10_10.out.trans (hb.mono HBs10_10.out.size))
        clear hb
        obtain ⟨qag, qcg, rfl⟩ := ho.form
        have HRg11 := Lib.hid (ho)
        have HBs11_11 : Hid (Below w11.heap.size w11 w11) := Lib.hid (Below.refl _ _)
        clear ho
        have hmg : gs.length ≤ 9223372036854775807 := by obtain ⟨_, _, _, ⟨m, _⟩, _⟩ := HRg11.out; exact m
        go_wp2_with fail
        refine (HS3.out _ _ HRy11.out).mono ?_
        rintro e w12 ⟨⟨v, rfl, ho⟩, hb⟩
        have HB12 : Hid (Below w.heap.size w w12) := Lib.hid (HB11.out.trans (hb.mono HB11.out.size))
        have HZ12 : Hid (w11.heap.size ≤ w12.heap.size) := Lib.hid hb.size
        have HRk12 := Lib.hid (HRk0.out.below HB12.out (Nat.le_refl _))
        have HRy12 := Lib.hid (HRy11.out.below hb (Nat.le_refl _))
        have HRg12 := Lib.hid (HRg11.out.below hb (Nat.le_refl _))
        have HBs10_12 : Hid (Below w10.heap.size w10 w12) := Lib.hid (HBs10_11.out.trans (hb.mono HBs10_11.out.size))
        have HBs11_12 : Hid (Below w11.heap.size w11 w12) := Lib.hid (HBs11_11.out.trans (hb.mono HBs11_11.out.size))
        clear hb
        obtain ⟨qah, qch, rfl⟩ := ho.form
        have HRh12 := Lib.hid (ho)
        have HBs12_12 : Hid (Below w12.heap.size w12 w12) := Lib.hid (Below.refl _ _)
        clear ho
        go_wp2_with fail
        refine (vMoves_yes _ _ gs _ HRg12.out HRh12.out).mono ?_
        rintro e w13 ⟨rfl, hb⟩
        have HB13 : Hid (Below w.heap.size w w13) := Lib.hid (HB12.out.trans (hb.mono HB12.out.size))
        have HZ13 : Hid (w12.heap.size ≤ w13.heap.size) := Lib.hid hb.size
        have HRk13 := Lib.hid (HRk0.out.below HB13.out (Nat.le_refl _))
        have HRy13 := Lib.hid (HRy12.out.below hb (Nat.le_refl _))
        have HRg13 := Lib.hid (HRg12.out.below hb (Nat.le_refl _))
        have HRh13 := Lib.hid (HRh12.out.below hb (Nat.le_refl _))
        have HBs10_13 : Hid (Below w10.heap.size w10 w13) := Lib.hid (HBs10_12.out.trans (hb.mono HBs10_12.out.size))
        have HBs11_13 : Hid (Below w11.heap.size w11 w13) := Lib.hid (HBs11_12.out.trans (hb.mono HBs11_12.out.size))
        have HBs12_13 : Hid (Below w12.heap.size w12 w13) := Lib.hid (HBs12_12.out.trans (hb.mono HBs12_12.out.size))
        clear hb
        cases gb with
        | true =>
          obtain ⟨sc, pc, qc, k1, k2, k3, k4, k5, k6⟩ := hY3 rfl
          have HK1 := Lib.hid k1
          have HK2 := Lib.hid k2
          have HK3 := Lib.hid k3
          have HK4 := Lib.hid k4
          have hsc : (sc != sc) = false := by simp
          have hpq : ¬ (pc < qc) := by omega
          have hlq : ¬ ((ys.length : Int) < (gs.length : Int)) := by omega
          clear hY3 k1 k2 k3 k4 k5 k6
          go_wp2_with fail
          refine (HK1.out _ _ HRy13.out).mono ?_
          rintro e w14 ⟨rfl, hb⟩
          have HB14 : Hid (Below w.heap.size w w14) := Lib.hid (HB13.out.trans (hb.mono HB13.out.size))
          have HZ14 : Hid (w13.heap.size ≤ w14.heap.size) := Lib.hid hb.size
          have HRk14 := Lib.hid (HRk0.out.below HB14.out (Nat.le_refl _))
          have HRy14 := Lib.hid (HRy13.out.below hb (Nat.le_refl _))
          have HRg14 := Lib.hid (HRg13.out.below hb (Nat.le_refl _))
          have HBs10_14 : Hid (Below w10.heap.size w10 w14) := Lib.hid (HBs10_13.out.trans (hb.mono HBs10_13.out.size))
          have HBs11_14 : Hid (Below w11.heap.size w11 w14) := Lib.hid (HBs11_13.out.trans (hb.mono HBs11_13.out.size))
          clear hb
          go_wp2_with fail
          refine (HK2.out _ _ HRg14.out).mono ?_
          rintro e w15 ⟨rfl, hb⟩
          have HB15 : Hid (Below w.heap.size w w15) := Lib.hid (HB14.out.trans (hb.mono HB14.out.size))
          have HZ15 : Hid (w14.heap.size ≤ w15.heap.size) := Lib.hid hb.size
          have HRk15 := Lib.hid (HRk0.out.below HB15.out (Nat.le_refl _))
          have HRy15 := Lib.hid (HRy14.out.below hb (Nat.le_refl _))
          have HRg15 := Lib.hid (HRg14.out.below hb (Nat.le_refl _))
          have HBs10_15 : Hid (Below w10.heap.size w10 w15) := Lib.hid (HBs10_14.out.trans (hb.mono HBs10_14.out.size))
          have HBs11_15 : Hid (Below w11.heap.size w11 w15) := Lib.hid (HBs11_14.out.trans (hb.mono HBs11_14.out.size))
          clear hb
          go_wp2_with fail
          refine (HK3.out _ _ HRy15.out).mono ?_
          rintro e w16 ⟨rfl, hb⟩
          have HB16 : Hid (Below w.heap.size w w16) := Lib.hid (HB15.out.trans (hb.mono HB15.out.size))
          have HZ16 : Hid (w15.heap.size ≤ w16.heap.size) := Lib.hid hb.size
          have HRk16 := Lib.hid (HRk0.out.below HB16.out (Nat.le_refl _))
          have HRy16 := Lib.hid (HRy15.out.below hb (Nat.le_refl _))
          have HRg16 := Lib.hid (HRg15.out.below hb (Nat.le_refl _))
          have HBs10_16 : Hid (Below w10.heap.size w10 w16) := Lib.hid (HBs10_15.out.trans (hb.mono HBs10_15.out.size))
          have HBs11_16 : Hid (Below w11.heap.size w11 w16) := Lib.hid (HBs11_15.out.trans (hb.mono HBs11_15.out.size))
          clear hb
          go_wp2_with fail
          refine (HK4.out _ _ HRg16.out).mono ?_
          rintro e w17 ⟨rfl, hb⟩
          have HB17 : Hid (Below w.heap.size w w17) := Lib.hid (HB16.out.trans (hb.mono HB16.out.size))
          have HZ17 : Hid (w16.heap.size ≤ w17.heap.size) := Lib.hid hb.size
          have HRk17 := Lib.hid (HRk0.out.below HB17.out (Nat.le_refl _))
          have HRy17 := Lib.hid (HRy16.out.below hb (Nat.le_refl _))
          have HRg17 := Lib.hid (HRg16.out.below hb (Nat.le_refl _))
          have HBs10_17 : Hid (Below w10.heap.size w10 w17) := Lib.hid (HBs10_16.out.trans (hb.mono HBs10_16.out.size))
          have HBs11_17 : Hid (Below w11.heap.size w11 w17) := Lib.hid (HBs11_16.out.trans (hb.mono HBs11_16.out.size))
          clear hb
          go_wp2_with fail
          refine (drawChangeOf_any _ L _ HRk17.out).mono ?_
          rintro e w18 ⟨⟨v, zs, rr, rfl, ho, -⟩, hb⟩
          have HB18 : Hid (Below w.heap.size w w18) := Lib.hid (HB17.out.trans (hb.mono HB17.out.size))
          have HZ18 : Hid (w17.heap.size ≤ w18.heap.size) := Lib.hid hb.size
          have HRk18 := Lib.hid (HRk0.out.below HB18.out (Nat.le_refl _))
          clear hb
          obtain ⟨qaz, qcz, rfl⟩ := (RowsR.of_own mvC_len ho).form
          have HRz18 := Lib.hid ((RowsR.of_own mvC_len ho))
          have HBs18_18 : Hid (Below w18.heap.size w18 w18) := Lib.hid (Below.refl _ _)
          clear ho
          obtain ⟨cs, cb, hS, hI⟩ := ch_same zs rr
          have HS4 := Lib.hid hS
          have HI4 := Lib.hid hI
          clear hS hI
          have hcs : (cs != cs) = false := by simp
          have hcb : (cb != cb) = false := by simp
          go_wp2_with fail
          refine (HI4.out _ _ HRz18.out).mono ?_
          rintro e w19 ⟨rfl, hb⟩
          have HB19 : Hid (Below w.heap.size w w19) := Lib.hid (HB18.out.trans (hb.mono HB18.out.size))
          have HZ19 : Hid (w18.heap.size ≤ w19.heap.size) := Lib.hid hb.size
          have HRk19 := Lib.hid (HRk0.out.below HB19.out (Nat.le_refl _))
          have HRz19 := Lib.hid (HRz18.out.below hb (Nat.le_refl _))
          have HBs18_19 : Hid (Below w18.heap.size w18 w19) := Lib.hid (HBs18_18.out.trans (hb.mono HBs18_18.out.size))
          clear hb
          go_wp2_with fail
          refine (HS4.out _ _ HRz19.out).mono ?_
          rintro e w20 ⟨rfl, hb⟩
          have HB20 : Hid (Below w.heap.size w w20) := Lib.hid (HB19.out.trans (hb.mono HB19.out.size))
          have HZ20 : Hid (w19.heap.size ≤ w20.heap.size) := Lib.hid hb.size
          have HRk20 := Lib.hid (HRk0.out.below HB20.out (Nat.le_refl _))
          have HRz20 := Lib.hid (HRz19.out.below hb (Nat.le_refl _))
          have HBs18_20 : Hid (Below w18.heap.size w18 w20) := Lib.hid (HBs18_19.out.trans (hb.mono HBs18_19.out.size))
          clear hb
          go_wp2_with fail
          refine (drawBeadsOf_any _ L _ HRk20.out).mono ?_
          rintro e w21 ⟨⟨v, us, rfl, ho, -⟩, hb⟩
          have HB21 : Hid (Below w.heap.size w w21) := Lib.hid (HB20.out.trans (hb.mono HB20.out.size))
          have HZ21 : Hid (w20.heap.size ≤ w21.heap.size) := Lib.hid hb.size
          have HRk21 := Lib.hid (HRk0.out.below HB21.out (Nat.le_refl _))
          clear hb
          obtain ⟨qau, qcu, rfl⟩ := (RowsR.of_own mvC_len ho).form
          have HRu21 := Lib.hid ((RowsR.of_own mvC_len ho))
          have HBs21_21 : Hid (Below w21.heap.size w21 w21) := Lib.hid (Below.refl _ _)
          clear ho
          obtain ⟨bs, bb, hS, hI⟩ := be_same us
          have HS5 := Lib.hid hS
          have HI5 := Lib.hid hI
          clear hS hI
          have hbs : (bs == bs) = true := by simp
          have hbb : (bb == bb) = true := by simp
          go_wp2_with fail
          refine (HI5.out _ _ HRu21.out).mono ?_
          rintro e w22 ⟨rfl, hb⟩
          have HB22 : Hid (Below w.heap.size w w22) := Lib.hid (HB21.out.trans (hb.mono HB21.out.size))
          have HZ22 : Hid (w21.heap.size ≤ w22.heap.size) := Lib.hid hb.size
          have HRk22 := Lib.hid (HRk0.out.below HB22.out (Nat.le_refl _))
          have HRu22 := Lib.hid (HRu21.out.below hb (Nat.le_refl _))
          have HBs21_22 : Hid (Below w21.heap.size w21 w22) := Lib.hid (HBs21_21.out.trans (hb.mono HBs21_21.out.size))
          clear hb
          go_wp2_with fail
          refine (HS5.out _ _ HRu22.out).mono ?_
          rintro e w23 ⟨rfl, hb⟩
          have HB23 : Hid (Below w.heap.size w w23) := Lib.hid (HB22.out.trans (hb.mono HB22.out.size))
          have HZ23 : Hid (w22.heap.size ≤ w23.heap.size) := Lib.hid hb.size
          have HRk23 := Lib.hid (HRk0.out.below HB23.out (Nat.le_refl _))
          have HRu23 := Lib.hid (HRu22.out.below hb (Nat.le_refl _))
          have HBs21_23 : Hid (Below w21.heap.size w21 w23) := Lib.hid (HBs21_22.out.trans (hb.mono HBs21_22.out.size))
          clear hb
          go_wp2_with fail
          go_ret
          exact ⟨ret_bool (by first | (simp; done) | rfl), HB23.out⟩
        | false =>
          clear hY3
          go_wp2_with fail
          refine (drawChangeOf_any _ L _ HRk13.out).mono ?_
          rintro e w14 ⟨⟨v, zs, rr, rfl, ho, -⟩, hb⟩
          have HB14 : Hid (Below w.heap.size w w14) := Lib.hid (HB13.out.trans (hb.mono HB13.out.size))
          have HZ14 : Hid (w13.heap.size ≤ w14.heap.size) := Lib.hid hb.size
          have HRk14 := Lib.hid (HRk0.out.below HB14.out (Nat.le_refl _))
          clear hb
          obtain ⟨qaz, qcz, rfl⟩ := (RowsR.of_own mvC_len ho).form
          have HRz14 := Lib.hid ((RowsR.of_own mvC_len ho))
          have HBs14_14 : Hid (Below w14.heap.size w14 w14) := Lib.hid (Below.refl _ _)
          clear ho
          obtain ⟨cs, cb, hS, hI⟩ := ch_same zs rr
          have HS4 := Lib.hid hS
          have HI4 := Lib.hid hI
          clear hS hI
          have hcs : (cs != cs) = false := by simp
          have hcb : (cb != cb) = false := by simp
          go_wp2_with fail
          refine (HI4.out _ _ HRz14.out).mono ?_
          rintro e w15 ⟨rfl, hb⟩
          have HB15 : Hid (Below w.heap.size w w15) := Lib.hid (HB14.out.trans (hb.mono HB14.out.size))
          have HZ15 : Hid (w14.heap.size ≤ w15.heap.size) := Lib.hid hb.size
          have HRk15 := Lib.hid (HRk0.out.below HB15.out (Nat.le_refl _))
          have HRz15 := Lib.hid (HRz14.out.below hb (Nat.le_refl _))
          have HBs14_15 : Hid (Below w14.heap.size w14 w15) := Lib.hid (HBs14_14.out.trans (hb.mono HBs14_14.out.size))
          clear hb
          go_wp2_with fail
          refine (HS4.out _ _ HRz15.out).mono ?_
          rintro e w16 ⟨rfl, hb⟩
          have HB16 : Hid (Below w.heap.size w w16) := Lib.hid (HB15.out.trans (hb.mono HB15.out.size))
          have HZ16 : Hid (w15.heap.size ≤ w16.heap.size) := Lib.hid hb.size
          have HRk16 := Lib.hid (HRk0.out.below HB16.out (Nat.le_refl _))
          have HRz16 := Lib.hid (HRz15.out.below hb (Nat.le_refl _))
          have HBs14_16 : Hid (Below w14.heap.size w14 w16) := Lib.hid (HBs14_15.out.trans (hb.mono HBs14_15.out.size))
          clear hb
          go_wp2_with fail
          refine (drawBeadsOf_any _ L _ HRk16.out).mono ?_
          rintro e w17 ⟨⟨v, us, rfl, ho, -⟩, hb⟩
          have HB17 : Hid (Below w.heap.size w w17) := Lib.hid (HB16.out.trans (hb.mono HB16.out.size))
          have HZ17 : Hid (w16.heap.size ≤ w17.heap.size) := Lib.hid hb.size
          have HRk17 := Lib.hid (HRk0.out.below HB17.out (Nat.le_refl _))
          clear hb
          obtain ⟨qau, qcu, rfl⟩ := (RowsR.of_own mvC_len ho).form
          have HRu17 := Lib.hid ((RowsR.of_own mvC_len ho))
          have HBs17_17 : Hid (Below w17.heap.size w17 w17) := Lib.hid (Below.refl _ _)
          clear ho
          obtain ⟨bs, bb, hS, hI⟩ := be_same us
          have HS5 := Lib.hid hS
          have HI5 := Lib.hid hI
          clear hS hI
          have hbs : (bs == bs) = true := by simp
          have hbb : (bb == bb) = true := by simp
          go_wp2_with fail
          refine (HI5.out _ _ HRu17.out).mono ?_
          rintro e w18 ⟨rfl, hb⟩
          have HB18 : Hid (Below w.heap.size w w18) := Lib.hid (HB17.out.trans (hb.mono HB17.out.size))
          have HZ18 : Hid (w17.heap.size ≤ w18.heap.size) := Lib.hid hb.size
          have HRk18 := Lib.hid (HRk0.out.below HB18.out (Nat.le_refl _))
          have HRu18 := Lib.hid (HRu17.out.below hb (Nat.le_refl _))
          have HBs17_18 : Hid (Below w17.heap.size w17 w18) := Lib.hid (HBs17_17.out.trans (hb.mono HBs17_17.out.size))
          clear hb
          go_wp2_with fail
          refine (HS5.out _ _ HRu18.out).mono ?_
          rintro e w19 ⟨rfl, hb⟩
          have HB19 : Hid (Below w.heap.size w w19) := Lib.hid (HB18.out.trans (hb.mono HB18.out.size))
          have HZ19 : Hid (w18.heap.size ≤ w19.heap.size) := Lib.hid hb.size
          have HRk19 := Lib.hid (HRk0.out.below HB19.out (Nat.le_refl _))
          have HRu19 := Lib.hid (HRu18.out.below hb (Nat.le_refl _))
          have HBs17_19 : Hid (Below w17.heap.size w17 w19) := Lib.hid (HBs17_18.out.trans (hb.mono HBs17_18.out.size))
          clear hb
          go_wp2_with fail
          go_ret
          exact ⟨ret_bool (by first | (simp; done) | rfl), HB19.out⟩
end Go.Proofs.Ytmkocinknhaniaa
