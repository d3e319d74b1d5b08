/- The law FnDividing. -/
import Derived.Test.YthmbehknacjodaaKm
import Derived.Test.YthmbehknacjodaaVin
import Derived.Test.YthmbehknacjodaaVtr
import Derived.Test.YthmbehknacjodaaDdc
import Derived.Test.YthmbehknacjodaaJd3
import Derived.Test.YthmbehknacjodaaJd5
import Derived.Test.YthmbehknacjodaaLtn
namespace Go.Proofs.Ythmbehknacjodaa
set_option linter.unusedVariables false
open Go.RowKit
set_option linter.unusedSimpArgs false

def TrB (f : Nat) (av : Array Value) (w : World) (ms : List Tr) (b : Bool) : Prop :=
  Calls Try.prog f av w fun e w' => (∃ v, e = .returned (.tuple #[v, .bool b]) ∧ RowsR 3 trC w' v ms) ∧ Below w.heap.size w w'
theorem ofOwnT {f : Nat} {av : Array Value} {w : World} {ms : List Tr} {b : Bool} (h : Calls Try.prog f av w fun e w' => (∃ v, e = .returned (.tuple #[v, .bool b]) ∧ w'.ownsRow w.heap.size 57 3 v ms.length (flatC trC ms)) ∧ Below w.heap.size w w') : TrB f av w ms b :=
  h.mono fun _ _ ⟨⟨v, he, ho⟩, hb⟩ => ⟨⟨v, he, RowsR.of_own trC_len ho⟩, hb⟩
def I2B (f : Nat) (av : Array Value) (w : World) (m n : Int) (b : Bool) : Prop :=
  Calls Try.prog f av w fun e w' => e = .returned (.tuple #[.int .i64 m, .int .i64 n, .bool b]) ∧ Below w.heap.size w w'
def BoB (f : Nat) (av : Array Value) (w : World) (c b : Bool) : Prop :=
  Calls Try.prog f av w fun e w' => e = .returned (.tuple #[.bool c, .bool b]) ∧ Below w.heap.size w w'
def FqB (f : Nat) (av : Array Value) (w : World) (fu fl : Int) (qs : List (Int × Int)) (r : Int) (b : Bool) : Prop :=
  Calls Try.prog f av w fun e w' => (∃ v, e = .returned (.tuple #[.agg #[.int .i64 fu, .int .i64 fl, v], .int .i64 r, .bool b]) ∧ RodsR w' v qs) ∧ Below w.heap.size w w'
theorem ofOwnQ {f : Nat} {av : Array Value} {w : World} {fu fl : Int} {qs : List (Int × Int)} {r : Int} {b : Bool} (h : Calls Try.prog f av w fun e w' => (∃ v, e = .returned (.tuple #[.agg #[.int .i64 fu, .int .i64 fl, v], .int .i64 r, .bool b]) ∧ w'.ownsRow w.heap.size 77 2 v qs.length (flat qs)) ∧ Below w.heap.size w w') : FqB f av w fu fl qs r b :=
  h.mono fun _ _ ⟨⟨v, he, ho⟩, hb⟩ => ⟨⟨v, he, RodsR.of_own ho⟩, hb⟩
/-- What the law asks of the steps of a division. -/
def DvF (d : Int) (T : List Tr) (ts : List Int) (Q L C : Nat → Int) : Prop :=
  (∀ k, k ≤ T.length → (0 ≤ Q k ∧ Q k ≤ 99999999) ∧ (0 ≤ C k ∧ C k ≤ 72)) ∧
  ∀ k (h : k < T.length) (h2 : k < ts.length), Q (k + 1) = 10 * Q k + T[k].k ∧ L (k + 1) = T[k].v ∧ C (k + 1) = C k + (ts[k] - T[k].k) ∧ (0 ≤ T[k].k ∧ T[k].k ≤ 9) ∧ (0 ≤ T[k].v ∧ T[k].v < d) ∧ T[k].k ≤ ts[k] ∧ ts[k] ≤ 9
theorem dv_same (x y : Int) : ∃ (T : List Tr) (ts : List Int) (q r : Int) (b : Bool),
    (∀ w, TrB 49 #[.int .i64 x, .int .i64 y] w T b) ∧ (∀ w, TrB 48 #[.int .i64 x, .int .i64 y] w T b) ∧ (∀ w, I2B 51 #[.int .i64 x, .int .i64 y] w q r b) ∧ (∀ w, I2B 50 #[.int .i64 x, .int .i64 y] w q r b) ∧
    (∀ w, IsB 53 #[.int .i64 x, .int .i64 y] w ts b) ∧ (∀ w, IsB 52 #[.int .i64 x, .int .i64 y] w ts b) ∧
    (b = true → ∃ (Q L C : Nat → Int), T.length ≤ 8 ∧ ts.length = T.length ∧ (∀ w, InB 54 #[.int .i64 x, .int .i64 y] w (C T.length) true) ∧ (∀ w, BoB 55 #[.int .i64 x, .int .i64 y, .int .i64 q, .int .i64 r] w true true) ∧
      Q 0 = 0 ∧ Q T.length = q ∧ L 0 = 0 ∧ L T.length = r ∧ C 0 = 0 ∧ DvF y T ts Q L C ∧ IntKind.i64.wrap (q * y) = q * y ∧ IntKind.i64.wrap (q * y + r) = x ∧ 1 ≤ y) := by
  by_cases h : okD x y
  · have hok := h
    obtain ⟨m, d, rfl, rfl, hm, hd1, hd2⟩ := okD_nat h
    have hd : 1 ≤ d ∧ d ≤ 9999 := ⟨hd1, hd2⟩
    have hokT := stL_ok (d := (d : Int)) (by omega) (dgL m) 0 ⟨by omega, by omega⟩ (fun x hx => dgL_bd m x hx)
    have hdiv := dgL_div m (d := (d : Int)) (by omega)
    have hl8 : (stL (d : Int) 0 (dgL m)).length ≤ 8 := by rw [stL_len]; exact dgL_len 8 m (by omega)
    obtain ⟨f1, f2, f3, f4, f5, f6⟩ := div_facts (b := (m : Int)) (d := (d : Int)) ⟨by omega, by omega⟩ (by omega)
    have hsum := Int.mul_ediv_add_emod (m : Int) (d : Int)
    have hnn : ∀ t ∈ stL (d : Int) 0 (dgL m), 0 ≤ t.k := fun t ht => (hokT t ht).2.1.1
    have hw1 : IntKind.i64.wrap ((m : Int) / (d : Int) * (d : Int)) = (m : Int) / (d : Int) * (d : Int) := by rw [Int.mul_comm, IntKind.wrap_i64]; omega
    have hw2 : IntKind.i64.wrap ((m : Int) / (d : Int) * (d : Int) + (m : Int) % (d : Int)) = (m : Int) := by rw [Int.mul_comm, IntKind.wrap_i64]; omega
    refine ⟨stL (d : Int) 0 (dgL m), tsL d (stL (d : Int) 0 (dgL m)), (m : Int) / (d : Int), (m : Int) % (d : Int), true, fun w => speDivisionSteps_yes m d w hm hd, fun w => ofOwnT (impDivisionSteps_yes m d w hm hd), fun w => speQuotientOf_yes _ _ w hok, fun w => impQuotientOf_yes _ _ w hok, fun w => speTrialDigits_yes m d w hm hd, fun w => ofOwnI (impTrialDigits_yes m d w hm hd), fun _ =>
      ⟨fun k => qtL ((stL (d : Int) 0 (dgL m)).take k), fun k => rsL (d : Int) 0 ((dgL m).take k), fun k => crL d ((stL (d : Int) 0 (dgL m)).take k), hl8, tsL_len _ _, fun w => by dsimp only; rw [List.take_length]; exact impCorrections_yes m d w hm hd, fun w => impCheckDivision_yes _ _ _ _ w ⟨hok, ⟨f3, by omega⟩, ⟨f5, by omega⟩⟩ rfl rfl, rfl, by simp only [List.take_length]; exact hdiv.1, rfl, ?_, rfl, ⟨fun k hk => ⟨⟨qt_nn _ hnn k, ?_⟩, crL_bd8 hd1 hl8 hokT k⟩, fun k hk hk2 => ?_⟩, hw1, hw2, by omega⟩⟩
    · simp only [stL_len, List.take_length]; exact hdiv.2
    · have h1 := qt_le _ hnn k ((stL (d : Int) 0 (dgL m)).length - k)
      rw [show k + ((stL (d : Int) 0 (dgL m)).length - k) = (stL (d : Int) 0 (dgL m)).length by omega, List.take_length, hdiv.1] at h1
      dsimp only
      omega
    · have hkL : k < (dgL m).length := by rw [stL_len] at hk; exact hk
      have h1 := hokT _ (List.getElem_mem hk)
      have hts := tsL_at d _ k hk
      refine ⟨qtL_take _ k hk, ?_, by dsimp only; rw [crL_take d _ k hk, hts], h1.2.1, h1.2.2.1, by rw [hts]; exact trI_ge hd1 h1, by rw [hts]; exact (trI_bd d _).2⟩
      dsimp only
      rw [stL_at (d : Int) 0 (dgL m) k hkL, rsL_take (d : Int) 0 (dgL m) k hkL]; rfl
  · exact ⟨[], [], 0, 0, false, fun w => speDivisionSteps_no x y w h, fun w => ofOwnT (impDivisionSteps_no x y w h), fun w => speQuotientOf_no x y w h, fun w => impQuotientOf_no x y w h, fun w => speTrialDigits_no x y w h, fun w => ofOwnI (impTrialDigits_no x y w h), fun h => by cases h⟩
theorem co_same (x y : Int) : ∃ (c : Int) (b : Bool), (∀ w, InB 62 #[.int .i64 x, .int .i64 y] w c b) ∧ (∀ w, InB 54 #[.int .i64 x, .int .i64 y] w c b) := by
  by_cases h : okD x y
  · obtain ⟨m, d, rfl, rfl, hm, hd1, hd2⟩ := okD_nat h
    exact ⟨_, true, fun w => speCorrections_yes m d w hm ⟨hd1, hd2⟩, fun w => impCorrections_yes m d w hm ⟨hd1, hd2⟩⟩
  · exact ⟨0, false, fun w => speCorrections_no x y w h, fun w => impCorrections_no x y w h⟩
theorem ck_same (x y q r : Int) : ∃ (c b : Bool), (∀ w, BoB 60 #[.int .i64 x, .int .i64 y, .int .i64 q, .int .i64 r] w c b) ∧ (∀ w, BoB 55 #[.int .i64 x, .int .i64 y, .int .i64 q, .int .i64 r] w c b) := by
  by_cases h : okC10 x y q r
  · by_cases h1 : q = x / y
    · by_cases h2 : r = x % y
      · exact ⟨true, true, fun w => speCheckDivision_yes _ _ _ _ w h h1 h2, fun w => impCheckDivision_yes _ _ _ _ w h h1 h2⟩
      · exact ⟨false, true, fun w => speCheckDivision_rest _ _ _ _ w h h1 h2, fun w => impCheckDivision_rest _ _ _ _ w h h1 h2⟩
    · exact ⟨false, true, fun w => speCheckDivision_quot _ _ _ _ w h h1 rfl, fun w => impCheckDivision_quot _ _ _ _ w h h1 rfl⟩
  · exact ⟨false, false, fun w => speCheckDivision_no _ _ _ _ w h, fun w => impCheckDivision_no _ _ _ _ w h⟩
theorem qo_same (up lo : Int) (rs : List (Int × Int)) (m : Int) : ∃ (fu fl : Int) (qs : List (Int × Int)) (r : Int) (b : Bool),
    (∀ w sv, RodsR w sv rs → FqB 58 #[.agg #[.int .i64 up, .int .i64 lo, sv], .int .i64 m] w fu fl qs r b) ∧ (∀ w sv, RodsR w sv rs → FqB 57 #[.agg #[.int .i64 up, .int .i64 lo, sv], .int .i64 m] w fu fl qs r b) := by
  by_cases h : canQ up lo rs m
  · exact ⟨_, _, _, _, true, fun w sv h' => speQuotientOn_yes up lo sv rs m w h' h, fun w sv h' => ofOwnQ (impQuotientOn_yes up lo sv rs m w h' h)⟩
  · exact ⟨0, 0, [], 0, false, fun w sv h' => speQuotientOn_no up lo sv rs m w h' h, fun w sv h' => ofOwnQ (impQuotientOn_no up lo sv rs m w h' h)⟩
set_option maxRecDepth 100000 in
set_option maxHeartbeats 12800000 in
theorem lawDividing (w : World) (ad : Option Addr) (cp : Nat) (L : List UInt8) (h : SlR w (.slice ad L.length cp) (L.map fun c => .int .u8 (c.toNat : Int))) :
    Calls Try.prog 5 #[.slice ad L.length cp] w fun e w' => e = .returned (.bool true) ∧ Below w.heap.size w w' := by
  have hm : L.length ≤ 9223372036854775807 := by
    obtain ⟨a, c, e, ⟨m, _⟩, _⟩ := h
    rw [List.length_map] at m
    exact m
  have HB0 : Hid (Below w.heap.size w w) := Lib.hid (Below.refl _ _)
  have HRk0 := Lib.hid (h)
  clear h
  by_cases hbig : (65536 : Int) < (L.length : Int)
  · go_enter Try.func5, Try.ntmps5
    go_wp2_with fail
    refine (vBig_any ad L.length cp _ true (decide_eq_true hbig)).mono ?_
    rintro e w' ⟨rfl, hw⟩
    subst w'
    go_wp2_with fail
    go_ret
    exact ⟨rfl, Below.refl _ _⟩
  · go_enter Try.func5, Try.ntmps5
    go_wp2_with fail
    refine (vBig_any ad L.length cp _ false (decide_eq_false (by omega))).mono ?_
    rintro e w' ⟨rfl, hw⟩
    subst w'
    go_wp2_with fail
    refine (drawDivisionSteps_any _ L _ HRk0.out).mono ?_
    rintro e w1 ⟨⟨x, y, rfl⟩, hb⟩
    have HB1 : Hid (Below w.heap.size w w1) := Lib.hid (HB0.out.trans (hb.mono HB0.out.size))
    have HZ1 : Hid (w.heap.size ≤ w1.heap.size) := Lib.hid hb.size
    have HRk1 := Lib.hid (HRk0.out.below HB1.out (Nat.le_refl _))
    clear hb
    obtain ⟨ps, ts, q, r, b, h1, h2, h3, h4, h5, h6, hY⟩ := dv_same x y
    have HD1 := Lib.hid h1
    have HD2 := Lib.hid h2
    have HQ1 := Lib.hid h3
    have HQ2 := Lib.hid h4
    have HT1 := Lib.hid h5
    have HT2 := Lib.hid h6
    clear h1 h2 h3 h4 h5 h6
    have hb1 : (b != b) = false := by simp
    have hq1 : (q != q) = false := by simp
    have hr1 : (r != r) = false := by simp
    go_wp2_with fail
    refine (HD2.out _).mono ?_
    rintro e w2 ⟨⟨v, rfl, ho⟩, hb⟩
    have HB2 : Hid (Below w.heap.size w w2) := Lib.hid (HB1.out.trans (hb.mono HB1.out.size))
    have HZ2 : Hid (w1.heap.size ≤ w2.heap.size) := Lib.hid hb.size
    have HRk2 := Lib.hid (HRk0.out.below HB2.out (Nat.le_refl _))
    clear hb
    obtain ⟨qao, qco, rfl⟩ := ho.form
    have HRo2 := Lib.hid (ho)
    have HBs2_2 : Hid (Below w2.heap.size w2 w2) := Lib.hid (Below.refl _ _)
    clear ho
    go_wp2_with fail
    refine (HD1.out _).mono ?_
    rintro e w3 ⟨⟨v, rfl, ho⟩, hb⟩
    have HB3 : Hid (Below w.heap.size w w3) := Lib.hid (HB2.out.trans (hb.mono HB2.out.size))
    have HZ3 : Hid (w2.heap.size ≤ w3.heap.size) := Lib.hid hb.size
    have HRk3 := Lib.hid (HRk0.out.below HB3.out (Nat.le_refl _))
    have HRo3 := Lib.hid (HRo2.out.below hb (Nat.le_refl _))
    have HBs2_3 : Hid (Below w2.heap.size w2 w3) := Lib.hid (HBs2_2.out.trans (hb.mono HBs2_2.out.size))
    clear hb
    obtain ⟨qap, qcp, rfl⟩ := ho.form
    have HRp3 := Lib.hid (ho)
    have HBs3_3 : Hid (Below w3.heap.size w3 w3) := Lib.hid (Below.refl _ _)
    clear ho
    go_wp2_with fail
    refine (vTriples_yes _ _ ps _ HRo3.out HRp3.out).mono ?_
    rintro e w4 ⟨rfl, hb⟩
    have HB4 : Hid (Below w.heap.size w w4) := Lib.hid (HB3.out.trans (hb.mono HB3.out.size))
    have HZ4 : Hid (w3.heap.size ≤ w4.heap.size) := Lib.hid hb.size
    have HRk4 := Lib.hid (HRk0.out.below HB4.out (Nat.le_refl _))
    have HRo4 := Lib.hid (HRo3.out.below hb (Nat.le_refl _))
    have HRp4 := Lib.hid (HRp3.out.below hb (Nat.le_refl _))
    have HBs2_4 : Hid (Below w2.heap.size w2 w4) := Lib.hid (HBs2_3.out.trans (hb.mono HBs2_3.out.size))
    have HBs3_4 : Hid (Below w3.heap.size w3 w4) := Lib.hid (HBs3_3.out.trans (hb.mono HBs3_3.out.size))
    clear hb
    go_wp2_with fail
    refine (HQ2.out _).mono ?_
    rintro e w5 ⟨rfl, hb⟩
    have HB5 : Hid (Below w.heap.size w w5) := Lib.hid (HB4.out.trans (hb.mono HB4.out.size))
    have HZ5 : Hid (w4.heap.size ≤ w5.heap.size) := Lib.hid hb.size
    have HRk5 := Lib.hid (HRk0.out.below HB5.out (Nat.le_refl _))
    have HRo5 := Lib.hid (HRo4.out.below hb (Nat.le_refl _))
    have HBs2_5 : Hid (Below w2.heap.size w2 w5) := Lib.hid (HBs2_4.out.trans (hb.mono HBs2_4.out.size))
    clear hb
    go_wp2_with fail
    refine (HQ1.out _).mono ?_
    rintro e w6 ⟨rfl, hb⟩
    have HB6 : Hid (Below w.heap.size w w6) := Lib.hid (HB5.out.trans (hb.mono HB5.out.size))
    have HZ6 : Hid (w5.heap.size ≤ w6.heap.size) := Lib.hid hb.size
    have HRk6 := Lib.hid (HRk0.out.below HB6.out (Nat.le_refl _))
    have HRo6 := Lib.hid (HRo5.out.below hb (Nat.le_refl _))
    have HBs2_6 : Hid (Below w2.heap.size w2 w6) := Lib.hid (HBs2_5.out.trans (hb.mono HBs2_5.out.size))
    clear hb
    go_wp2_with fail
    refine (HT2.out _).mono ?_
    rintro e w7 ⟨⟨v, rfl, ho⟩, hb⟩
    have HB7 : Hid (Below w.heap.size w w7) := Lib.hid (HB6.out.trans (hb.mono HB6.out.size))
    have HZ7 : Hid (w6.heap.size ≤ w7.heap.size) := Lib.hid hb.size
    have HRk7 := Lib.hid (HRk0.out.below HB7.out (Nat.le_refl _))
    have HRo7 := Lib.hid (HRo6.out.below hb (Nat.le_refl _))
    have HBs2_7 : Hid (Below w2.heap.size w2 w7) := Lib.hid (HBs2_6.out.trans (hb.mono HBs2_6.out.size))
    clear hb
    obtain ⟨qar, qcr, rfl⟩ := ho.form
    have HRr7 := Lib.hid (ho)
    have HBs7_7 : Hid (Below w7.heap.size w7 w7) := Lib.hid (Below.refl _ _)
    clear ho
    go_wp2_with fail
    refine (HT1.out _).mono ?_
    rintro e w8 ⟨⟨v, rfl, ho⟩, hb⟩
    have HB8 : Hid (Below w.heap.size w w8) := Lib.hid (HB7.out.trans (hb.mono HB7.out.size))
    have HZ8 : Hid (w7.heap.size ≤ w8.heap.size) := Lib.hid hb.size
    have HRk8 := Lib.hid (HRk0.out.below HB8.out (Nat.le_refl _))
    have HRo8 := Lib.hid (HRo7.out.below hb (Nat.le_refl _))
    have HRr8 := Lib.hid (HRr7.out.below hb (Nat.le_refl _))
    have HBs2_8 : Hid (Below w2.heap.size w2 w8) := Lib.hid (HBs2_7.out.trans (hb.mono HBs2_7.out.size))
    have HBs7_8 : Hid (Below w7.heap.size w7 w8) := Lib.hid (HBs7_7.out.trans (hb.mono HBs7_7.out.size))
    clear hb
    obtain ⟨qap, qcp, rfl⟩ := ho.form
    have HRp8 := Lib.hid (ho)
    have HBs8_8 : Hid (Below w8.heap.size w8 w8) := Lib.hid (Below.refl _ _)
    clear ho
    go_wp2_with fail
    refine (vInts_yes _ _ ts _ HRr8.out HRp8.out).mono ?_
    rintro e w9 ⟨rfl, hb⟩
    have HB9 : Hid (Below w.heap.size w w9) := Lib.hid (HB8.out.trans (hb.mono HB8.out.size))
    have HZ9 : Hid (w8.heap.size ≤ w9.heap.size) := Lib.hid hb.size
    have HRk9 := Lib.hid (HRk0.out.below HB9.out (Nat.le_refl _))
    have HRo9 := Lib.hid (HRo8.out.below hb (Nat.le_refl _))
    have HRr9 := Lib.hid (HRr8.out.below hb (Nat.le_refl _))
    have HRp9 := Lib.hid (HRp8.out.below hb (Nat.le_refl _))
    have HBs2_9 : Hid (Below w2.heap.size w2 w9) := Lib.hid (HBs2_8.out.trans (hb.mono HBs2_8.out.size))
    have HBs7_9 : Hid (Below w7.heap.size w7 w9) := Lib.hid (HBs7_8.out.trans (hb.mono HBs7_8.out.size))
    have HBs8_9 : Hid (Below w8.heap.size w8 w9) := Lib.hid (HBs8_8.out.trans (hb.mono HBs8_8.out.size))
    clear hb
    cases b with
    | true =>
      obtain ⟨Q, E, C, hl8, htl, hco, hck, hq0, hqn, he0, hen, hc0, hdv, hw1, hw2, hy1⟩ := hY rfl
      have HCO := Lib.hid hco
      have HCK := Lib.hid hck
      have HQ0 := Lib.hid hq0
      have HQN := Lib.hid hqn
      have HE0 := Lib.hid he0
      have HEN := Lib.hid hen
      have HC0 := Lib.hid hc0
      have HDV := Lib.hid hdv
      have HW1 := Lib.hid hw1
      have HW2 := Lib.hid hw2
      have HY1 := Lib.hid hy1
      have HTL := Lib.hid htl
      clear hY hco hck hq0 hqn he0 hen hc0 hdv hw1 hw2 hy1 htl
      have hml : ps.length ≤ 9223372036854775807 := by omega
      have hmt : ts.length ≤ 9223372036854775807 := by have := HTL.out; omega
      have HRO := Lib.hid HRo9.out.at
      have HRR := Lib.hid HRr9.out.at
      go_wp2_with fail
      go_loopw [19, 20, 21, 22] (fun nv lv sv iv wr => ∃ j : Nat, j ≤ ps.length ∧ nv = .int .i64 (Q j) ∧ lv = .int .i64 (E j) ∧ sv = .int .i64 (C j) ∧ iv = .int .i64 j ∧ Below w9.heap.size w9 wr) (fun _ _ _ iv _ => ps.length - (intOf iv).toNat)
      case atStart => exact ⟨0, Nat.zero_le _, by rw [HQ0.out], by rw [HE0.out], by rw [HC0.out], rfl, Below.refl _ _⟩
      case round =>
        rename World => w10
        obtain ⟨j, hjk, rfl, rfl, rfl, rfl, hb⟩ := hrel
        have HBL := Lib.hid hb
        have z1 : (0 : Int) ≤ (j : Int) := by omega
        by_cases hlt : j < ps.length
        · have hlt2 : j < ts.length := by rw [HTL.out]; exact hlt
          obtain ⟨b0, o0, rfl, l0, k0⟩ := HRO.out _ hb j hlt
          obtain ⟨b1, o1, rfl, l1, k1⟩ := HRR.out _ hb j hlt2
          have p1 : w10.cell? ⟨b0, o0 + j * 3 + 1, none⟩ = some (.int .i64 ps[j].k) := k0 1 (by omega)
          have p2 : w10.cell? ⟨b0, o0 + j * 3 + 2, none⟩ = some (.int .i64 ps[j].v) := k0 2 (by omega)
          have p3 : w10.cell? ⟨b1, o1 + j, none⟩ = some (.int .i64 ts[j]) := by have := k1 0 (by omega); rw [Nat.mul_one] at this; exact this
          obtain ⟨g1, g2, g3, g4, g5, g6, g7⟩ := HDV.out.2 j hlt hlt2
          obtain ⟨g8, g9⟩ := HDV.out.1 j (by omega)
          obtain ⟨g10, g11⟩ := HDV.out.1 (j + 1) (by omega)
          obtain ⟨X, hX⟩ : ∃ X, ps[j].k = X := ⟨_, rfl⟩
          obtain ⟨V, hV⟩ : ∃ V, ps[j].v = V := ⟨_, rfl⟩
          obtain ⟨U, hU⟩ : ∃ U, ts[j] = U := ⟨_, rfl⟩
          obtain ⟨A, hA⟩ : ∃ A, Q j = A := ⟨_, rfl⟩
          obtain ⟨G, hG⟩ : ∃ G, C j = G := ⟨_, rfl⟩
          rw [hX] at p1 g1 g3 g4 g6
          rw [hV] at p2 g2 g5
          rw [hU] at p3 g3 g6 g7
          rw [hA] at g1 g8 ⊢
          rw [hG] at g3 g9 ⊢
          have HG1 : Hid (10 * A + X = Q (j + 1)) := Lib.hid g1.symm
          have HG2 := Lib.hid g2
          have HG3 : Hid (G + U - X = C (j + 1)) := Lib.hid (by rw [g3]; omega)
          have hwa : IntKind.i64.wrap (10 * A) = 10 * A := by rw [IntKind.wrap_i64]; omega
          have hwb : IntKind.i64.wrap (10 * A + X) = 10 * A + X := by rw [IntKind.wrap_i64]; omega
          have hwc : IntKind.i64.wrap (G + U) = G + U := by rw [IntKind.wrap_i64]; omega
          have hwd : IntKind.i64.wrap (G + U - X) = G + U - X := by rw [IntKind.wrap_i64]; omega
          have z2 : (j : Int) < (ps.length : Int) := by omega
          have z3 : (j : Int) < (ts.length : Int) := by omega
          have d1 : decide (U < X) = false := decide_eq_false (by omega)
          have d2 : decide (9 < X) = false := decide_eq_false (by omega)
          have d3 : decide (y ≤ V) = false := decide_eq_false (by omega)
          have d4 : ¬ U < X := by omega
          have d5 : ¬ 9 < X := by omega
          have d6 : ¬ y ≤ V := by omega
          clear k0 k1 g1 g2 g3 g10 g11 hX hV hU hA hG hb
          go_wp2_with fail
          go_quiet (fail)
          rename Nat => nq
          have HBq : Hid (Below w9.heap.size w9 (w10.drewN nq)) := Lib.hid (bl_drewN HBL.out nq)
          have p1' : (w10.drewN nq).cell? ⟨b0, o0 + j * 3 + 1, none⟩ = some (.int .i64 X) := p1
          have p3' : (w10.drewN nq).cell? ⟨b1, o1 + j, none⟩ = some (.int .i64 U) := p3
          clear p1 p2 p3
          generalize w10.drewN nq = wq at HBq p1' p3' ⊢
          go_wp2_with fail
          go_quiet (fail)
          rename Nat => nr
          have HBr : Hid (Below w9.heap.size w9 (wq.drewN nr)) := Lib.hid (bl_drewN HBq.out nr)
          clear p1' p3'
          generalize wq.drewN nr = ws at HBr ⊢
          go_wp2_with fail
          go_roundw
          case rel => exact ⟨j + 1, by omega, by first | (rw [← HG1.out]; done) | (rw [← HG1.out, hwb]; done) | (rw [← HG1.out, hwa, hwb]), by rw [HG2.out], by first | (rw [← HG3.out]; done) | (rw [← HG3.out, hwd]; done) | (rw [← HG3.out, hwc, hwd]), by go_num, HBr.out⟩
          case measure => simp [intOf]; omega
        · obtain rfl : j = ps.length := by omega
          rw [HQN.out, HEN.out]
          have z2 : ¬ ((ps.length : Int) < (ps.length : Int)) := by omega
          have hpx : ((ps.length : Int) != (ts.length : Int)) = false := by rw [HTL.out]; simp
          obtain ⟨c9, hc9⟩ : ∃ c, C ps.length = c := ⟨_, rfl⟩
          have HCO2 := Lib.hid (fun w => hc9 ▸ HCO.out w)
          rw [hc9]
          have hcc : (c9 != c9) = false := by simp
          have hxx : (x != x) = false := by simp
          have hw1 := HW1.out
          have hw2 := HW2.out
          clear hc9
          have hb := HBL.out
          have HB10 : Hid (Below w.heap.size w w10) := Lib.hid (HB9.out.trans (hb.mono HB9.out.size))
          have HZ10 : Hid (w9.heap.size ≤ w10.heap.size) := Lib.hid hb.size
          have HRk10 := Lib.hid (HRk0.out.below HB10.out (Nat.le_refl _))
          have HRo10 := Lib.hid (HRo9.out.below hb (Nat.le_refl _))
          have HRr10 := Lib.hid (HRr9.out.below hb (Nat.le_refl _))
          have HBs2_10 : Hid (Below w2.heap.size w2 w10) := Lib.hid (HBs2_9.out.trans (hb.mono HBs2_9.out.size))
          have HBs7_10 : Hid (Below w7.heap.size w7 w10) := Lib.hid (HBs7_9.out.trans (hb.mono HBs7_9.out.size))
          clear hb
          go_wp2_with fail
          refine (HCO2.out _).mono ?_
          rintro e w11 ⟨rfl, hb⟩
          have HB11 : Hid (Below w.heap.size w w11) := Lib.hid (HB10.out.trans (hb.mono HB10.out.size))
          have HZ11 : Hid (w10.heap.size ≤ w11.heap.size) := Lib.hid hb.size
          have HRk11 := Lib.hid (HRk0.out.below HB11.out (Nat.le_refl _))
          have HRo11 := Lib.hid (HRo10.out.below hb (Nat.le_refl _))
          have HRr11 := Lib.hid (HRr10.out.below hb (Nat.le_refl _))
          have HBs2_11 : Hid (Below w2.heap.size w2 w11) := Lib.hid (HBs2_10.out.trans (hb.mono HBs2_10.out.size))
          have HBs7_11 : Hid (Below w7.heap.size w7 w11) := Lib.hid (HBs7_10.out.trans (hb.mono HBs7_10.out.size))
          clear hb
          go_wp2_with fail
          refine (HCK.out _).mono ?_
          rintro e w12 ⟨rfl, hb⟩
          have HB12 : Hid (Below w.heap.size w w12) := Lib.hid (HB11.out.trans (hb.mono HB11.out.size))
          have HZ12 : Hid (w11.heap.size ≤ w12.heap.size) := Lib.hid hb.size
          have HRk12 := Lib.hid (HRk0.out.below HB12.out (Nat.le_refl _))
          have HRo12 := Lib.hid (HRo11.out.below hb (Nat.le_refl _))
          have HRr12 := Lib.hid (HRr11.out.below hb (Nat.le_refl _))
          have HBs2_12 : Hid (Below w2.heap.size w2 w12) := Lib.hid (HBs2_11.out.trans (hb.mono HBs2_11.out.size))
          have HBs7_12 : Hid (Below w7.heap.size w7 w12) := Lib.hid (HBs7_11.out.trans (hb.mono HBs7_11.out.size))
          clear hb
          go_wp2_with fail
          refine (drawQuotientOn_any _ L _ HRk12.out).mono ?_
          rintro e w13 ⟨⟨yu, yl, yv, ys, x2, rfl, ho, -⟩, hb⟩
          have HB13 : Hid (Below w.heap.size w w13) := Lib.hid (HB12.out.trans (hb.mono HB12.out.size))
          have HZ13 : Hid (w12.heap.size ≤ w13.heap.size) := Lib.hid hb.size
          have HRk13 := Lib.hid (HRk0.out.below HB13.out (Nat.le_refl _))
          have HRo13 := Lib.hid (HRo12.out.below hb (Nat.le_refl _))
          have HRr13 := Lib.hid (HRr12.out.below hb (Nat.le_refl _))
          have HBs2_13 : Hid (Below w2.heap.size w2 w13) := Lib.hid (HBs2_12.out.trans (hb.mono HBs2_12.out.size))
          have HBs7_13 : Hid (Below w7.heap.size w7 w13) := Lib.hid (HBs7_12.out.trans (hb.mono HBs7_12.out.size))
          clear hb
          obtain ⟨qay, qcy, rfl⟩ : ∃ a c, yv = .slice a ys.length c := by obtain ⟨a, c, e, _⟩ := ho; exact ⟨a, c, e⟩
          have HRy13 := Lib.hid (ho)
          have HBs13_13 : Hid (Below w13.heap.size w13 w13) := Lib.hid (Below.refl _ _)
          clear ho
          obtain ⟨gu, gl, rs2, r2, b2, hS, hI⟩ := qo_same yu yl ys x2
          have HS2 := Lib.hid hS
          have HI2 := Lib.hid hI
          clear hS hI
          have hb2 : (b2 != b2) = false := by simp
          have hr2 : (r2 != r2) = false := by simp
          go_wp2_with fail
          have hb : Below w13.heap.size w13 (w13.alloc (.cells #[.int .i64 yu, .int .i64 yl, .slice qay ys.length qcy] 42)) := (Below.refl _ _).alloc (Nat.le_refl _) _
          have hk : (w13.alloc (.cells #[.int .i64 yu, .int .i64 yl, .slice qay ys.length qcy] 42)).heap[w13.heap.size]? = some (.cells #[.int .i64 yu, .int .i64 yl, .slice qay ys.length qcy] 42 (0, 0)) := alloc_at rfl
          have hz : (w13.alloc (.cells #[.int .i64 yu, .int .i64 yl, .slice qay ys.length qcy] 42)).heap.size = w13.heap.size + 1 := by simp
          generalize w13.alloc (.cells #[.int .i64 yu, .int .i64 yl, .slice qay ys.length qcy] 42) = w14 at hb hk hz ⊢
          have HB14 : Hid (Below w.heap.size w w14) := Lib.hid (HB13.out.trans (hb.mono HB13.out.size))
          have HZ14 : Hid (w13.heap.size ≤ w14.heap.size) := Lib.hid hb.size
          have HRk14 := Lib.hid (HRk0.out.below HB14.out (Nat.le_refl _))
          have HRo14 := Lib.hid (HRo13.out.below hb (Nat.le_refl _))
          have HRr14 := Lib.hid (HRr13.out.below hb (Nat.le_refl _))
          have HRy14 := Lib.hid (HRy13.out.below hb (Nat.le_refl _))
          have HBs2_14 : Hid (Below w2.heap.size w2 w14) := Lib.hid (HBs2_13.out.trans (hb.mono HBs2_13.out.size))
          have HBs7_14 : Hid (Below w7.heap.size w7 w14) := Lib.hid (HBs7_13.out.trans (hb.mono HBs7_13.out.size))
          have HBs13_14 : Hid (Below w13.heap.size w13 w14) := Lib.hid (HBs13_13.out.trans (hb.mono HBs13_13.out.size))
          have HKy14 := Lib.hid hk
          replace HZ14 : Hid (w13.heap.size < w14.heap.size) := Lib.hid (by omega)
          have HE14 := Lib.hid hz
          clear hb hk hz
          refine (HI2.out _ _ HRy14.out).mono ?_
          rintro e w15 ⟨⟨v, rfl, ho⟩, hb⟩
          have HB15 : Hid (Below w.heap.size w w15) := Lib.hid (HB14.out.trans (hb.mono HB14.out.size))
          have HZ15 : Hid (w14.heap.size ≤ w15.heap.size) := Lib.hid hb.size
          have HRk15 := Lib.hid (HRk0.out.below HB15.out (Nat.le_refl _))
          have HRo15 := Lib.hid (HRo14.out.below hb (Nat.le_refl _))
          have HRr15 := Lib.hid (HRr14.out.below hb (Nat.le_refl _))
          have HRy15 := Lib.hid (HRy14.out.below hb (Nat.le_refl _))
          have HKy15 := Lib.hid ((hb.block _ (lt_of_block HKy14.out)).trans HKy14.out)
          have HBs2_15 : Hid (Below w2.heap.size w2 w15) := Lib.hid (HBs2_14.out.trans (hb.mono HBs2_14.out.size))
          have HBs7_15 : Hid (Below w7.heap.size w7 w15) := Lib.hid (HBs7_14.out.trans (hb.mono HBs7_14.out.size))
          have HBs13_15 : Hid (Below w13.heap.size w13 w15) := Lib.hid (HBs13_14.out.trans (hb.mono HBs13_14.out.size))
          clear hb
          obtain ⟨qas, qcs, rfl⟩ : ∃ a c, v = .slice a rs2.length c := by obtain ⟨a, c, e, _⟩ := ho; exact ⟨a, c, e⟩
          have HRs15 := Lib.hid (ho)
          have HBs15_15 : Hid (Below w15.heap.size w15 w15) := Lib.hid (Below.refl _ _)
          clear ho
          have lty := lt_of_block HKy15.out
          obtain ⟨cy0, cy1, cy2, fy0, fy1, fy2⟩ := cell3 HKy15.out
          go_wp2_with fail
          have hb : Below w15.heap.size w15 (w15.alloc (.cells #[.int .i64 gu, .int .i64 gl, .slice qas rs2.length qcs] 42)) := (Below.refl _ _).alloc (Nat.le_refl _) _
          have hk : (w15.alloc (.cells #[.int .i64 gu, .int .i64 gl, .slice qas rs2.length qcs] 42)).heap[w15.heap.size]? = some (.cells #[.int .i64 gu, .int .i64 gl, .slice qas rs2.length qcs] 42 (0, 0)) := alloc_at rfl
          have hz : (w15.alloc (.cells #[.int .i64 gu, .int .i64 gl, .slice qas rs2.length qcs] 42)).heap.size = w15.heap.size + 1 := by simp
          generalize w15.alloc (.cells #[.int .i64 gu, .int .i64 gl, .slice qas rs2.length qcs] 42) = w16 at hb hk hz ⊢
          have HB16 : Hid (Below w.heap.size w w16) := Lib.hid (HB15.out.trans (hb.mono HB15.out.size))
          have HZ16 : Hid (w15.heap.size ≤ w16.heap.size) := Lib.hid hb.size
          have HRk16 := Lib.hid (HRk0.out.below HB16.out (Nat.le_refl _))
          have HRo16 := Lib.hid (HRo15.out.below hb (Nat.le_refl _))
          have HRr16 := Lib.hid (HRr15.out.below hb (Nat.le_refl _))
          have HRy16 := Lib.hid (HRy15.out.below hb (Nat.le_refl _))
          have HKy16 := Lib.hid ((hb.block _ (lt_of_block HKy15.out)).trans HKy15.out)
          have HRs16 := Lib.hid (HRs15.out.below hb (Nat.le_refl _))
          have HBs2_16 : Hid (Below w2.heap.size w2 w16) := Lib.hid (HBs2_15.out.trans (hb.mono HBs2_15.out.size))
          have HBs7_16 : Hid (Below w7.heap.size w7 w16) := Lib.hid (HBs7_15.out.trans (hb.mono HBs7_15.out.size))
          have HBs13_16 : Hid (Below w13.heap.size w13 w16) := Lib.hid (HBs13_15.out.trans (hb.mono HBs13_15.out.size))
          have HBs15_16 : Hid (Below w15.heap.size w15 w16) := Lib.hid (HBs15_15.out.trans (hb.mono HBs15_15.out.size))
          have HKs16 := Lib.hid hk
          replace HZ16 : Hid (w15.heap.size < w16.heap.size) := Lib.hid (by omega)
          have HE16 := Lib.hid hz
          clear hb hk hz
          refine (HS2.out _ _ HRy16.out).mono ?_
          rintro e w17 ⟨⟨v, rfl, ho⟩, hb⟩
          have HB17 : Hid (Below w.heap.size w w17) := Lib.hid (HB16.out.trans (hb.mono HB16.out.size))
          have HZ17 : Hid (w16.heap.size ≤ w17.heap.size) := Lib.hid hb.size
          have HRk17 := Lib.hid (HRk0.out.below HB17.out (Nat.le_refl _))
          have HRo17 := Lib.hid (HRo16.out.below hb (Nat.le_refl _))
          have HRr17 := Lib.hid (HRr16.out.below hb (Nat.le_refl _))
          have HRy17 := Lib.hid (HRy16.out.below hb (Nat.le_refl _))
          have HKy17 := Lib.hid ((hb.block _ (lt_of_block HKy16.out)).trans HKy16.out)
          have HRs17 := Lib.hid (HRs16.out.below hb (Nat.le_refl _))
          have HKs17 := Lib.hid ((hb.block _ (lt_of_block HKs16.out)).trans HKs16.out)
          have HBs2_17 : Hid (Below w2.heap.size w2 w17) := Lib.hid (HBs2_16.out.trans (hb.mono HBs2_16.out.size))
          have HBs7_17 : Hid (Below w7.heap.size w7 w17) := Lib.hid (HBs7_16.out.trans (hb.mono HBs7_16.out.size))
          have HBs13_17 : Hid (Below w13.heap.size w13 w17) := Lib.hid (HBs13_16.out.trans (hb.mono HBs13_16.out.size))
          have HBs15_17 : Hid (Below w15.heap.size w15 w17) := Lib.hid (HBs15_16.out.trans (hb.mono HBs15_16.out.size))
          clear hb
          obtain ⟨qat, qct, rfl⟩ : ∃ a c, v = .slice a rs2.length c := by obtain ⟨a, c, e, _⟩ := ho; exact ⟨a, c, e⟩
          have HRt17 := Lib.hid (ho)
          have HBs17_17 : Hid (Below w17.heap.size w17 w17) := Lib.hid (Below.refl _ _)
          clear ho
          clear cy0 cy1 cy2 fy0 fy1 fy2 lty
          have lty := lt_of_block HKy17.out
          obtain ⟨cy0, cy1, cy2, fy0, fy1, fy2⟩ := cell3 HKy17.out
          have lts := lt_of_block HKs17.out
          obtain ⟨cs0, cs1, cs2, fs0, fs1, fs2⟩ := cell3 HKs17.out
          go_wp2_with fail
          have hb : Below w17.heap.size w17 (w17.alloc (.cells #[.int .i64 gu, .int .i64 gl, .slice qat rs2.length qct] 42)) := (Below.refl _ _).alloc (Nat.le_refl _) _
          have hk : (w17.alloc (.cells #[.int .i64 gu, .int .i64 gl, .slice qat rs2.length qct] 42)).heap[w17.heap.size]? = some (.cells #[.int .i64 gu, .int .i64 gl, .slice qat rs2.length qct] 42 (0, 0)) := alloc_at rfl
          have hz : (w17.alloc (.cells #[.int .i64 gu, .int .i64 gl, .slice qat rs2.length qct] 42)).heap.size = w17.heap.size + 1 := by simp
          generalize w17.alloc (.cells #[.int .i64 gu, .int .i64 gl, .slice qat rs2.length qct] 42) = w18 at hb hk hz ⊢
          have HB18 : Hid (Below w.heap.size w w18) := Lib.hid (HB17.out.trans (hb.mono HB17.out.size))
          have HZ18 : Hid (w17.heap.size ≤ w18.heap.size) := Lib.hid hb.size
          have HRk18 := Lib.hid (HRk0.out.below HB18.out (Nat.le_refl _))
          have HRo18 := Lib.hid (HRo17.out.below hb (Nat.le_refl _))
          have HRr18 := Lib.hid (HRr17.out.below hb (Nat.le_refl _))
          have HRy18 := Lib.hid (HRy17.out.below hb (Nat.le_refl _))
          have HKy18 := Lib.hid ((hb.block _ (lt_of_block HKy17.out)).trans HKy17.out)
          have HRs18 := Lib.hid (HRs17.out.below hb (Nat.le_refl _))
          have HKs18 := Lib.hid ((hb.block _ (lt_of_block HKs17.out)).trans HKs17.out)
          have HRt18 := Lib.hid (HRt17.out.below hb (Nat.le_refl _))
          have HBs2_18 : Hid (Below w2.heap.size w2 w18) := Lib.hid (HBs2_17.out.trans (hb.mono HBs2_17.out.size))
          have HBs7_18 : Hid (Below w7.heap.size w7 w18) := Lib.hid (HBs7_17.out.trans (hb.mono HBs7_17.out.size))
          have HBs13_18 : Hid (Below w13.heap.size w13 w18) := Lib.hid (HBs13_17.out.trans (hb.mono HBs13_17.out.size))
          have HBs15_18 : Hid (Below w15.heap.size w15 w18) := Lib.hid (HBs15_17.out.trans (hb.mono HBs15_17.out.size))
          have HBs17_18 : Hid (Below w17.heap.size w17 w18) := Lib.hid (HBs17_17.out.trans (hb.mono HBs17_17.out.size))
          have HKt18 := Lib.hid hk
          replace HZ18 : Hid (w17.heap.size < w18.heap.size) := Lib.hid (by omega)
          have HE18 := Lib.hid hz
          clear hb hk hz
          refine (vFrame_yes gu gl _ _ rs2 _ HRs18.out HRt18.out).mono ?_
          rintro e w19 ⟨rfl, hb⟩
          have HB19 : Hid (Below w.heap.size w w19) := Lib.hid (HB18.out.trans (hb.mono HB18.out.size))
          have HZ19 : Hid (w18.heap.size ≤ w19.heap.size) := Lib.hid hb.size
          have HRk19 := Lib.hid (HRk0.out.below HB19.out (Nat.le_refl _))
          have HRo19 := Lib.hid (HRo18.out.below hb (Nat.le_refl _))
          have HRr19 := Lib.hid (HRr18.out.below hb (Nat.le_refl _))
          have HRy19 := Lib.hid (HRy18.out.below hb (Nat.le_refl _))
          have HKy19 := Lib.hid ((hb.block _ (lt_of_block HKy18.out)).trans HKy18.out)
          have HRs19 := Lib.hid (HRs18.out.below hb (Nat.le_refl _))
          have HKs19 := Lib.hid ((hb.block _ (lt_of_block HKs18.out)).trans HKs18.out)
          have HRt19 := Lib.hid (HRt18.out.below hb (Nat.le_refl _))
          have HKt19 := Lib.hid ((hb.block _ (lt_of_block HKt18.out)).trans HKt18.out)
          have HBs2_19 : Hid (Below w2.heap.size w2 w19) := Lib.hid (HBs2_18.out.trans (hb.mono HBs2_18.out.size))
          have HBs7_19 : Hid (Below w7.heap.size w7 w19) := Lib.hid (HBs7_18.out.trans (hb.mono HBs7_18.out.size))
          have HBs13_19 : Hid (Below w13.heap.size w13 w19) := Lib.hid (HBs13_18.out.trans (hb.mono HBs13_18.out.size))
          have HBs15_19 : Hid (Below w15.heap.size w15 w19) := Lib.hid (HBs15_18.out.trans (hb.mono HBs15_18.out.size))
          have HBs17_19 : Hid (Below w17.heap.size w17 w19) := Lib.hid (HBs17_18.out.trans (hb.mono HBs17_18.out.size))
          clear hb
          clear cy0 cy1 cy2 fy0 fy1 fy2 lty cs0 cs1 cs2 fs0 fs1 fs2 lts
          go_wp2_with fail
          refine (drawCheckDivision_any _ L _ HRk19.out).mono ?_
          rintro e w20 ⟨⟨x3, y3, q3, r3, rfl⟩, hb⟩
          have HB20 : Hid (Below w.heap.size w w20) := Lib.hid (HB19.out.trans (hb.mono HB19.out.size))
          have HZ20 : Hid (w19.heap.size ≤ w20.heap.size) := Lib.hid hb.size
          have HRk20 := Lib.hid (HRk0.out.below HB20.out (Nat.le_refl _))
          have HRo20 := Lib.hid (HRo19.out.below hb (Nat.le_refl _))
          have HRr20 := Lib.hid (HRr19.out.below hb (Nat.le_refl _))
          have HBs2_20 : Hid (Below w2.heap.size w2 w20) := Lib.hid (HBs2_19.out.trans (hb.mono HBs2_19.out.size))
          have HBs7_20 : Hid (Below w7.heap.size w7 w20) := Lib.hid (HBs7_19.out.trans (hb.mono HBs7_19.out.size))
          clear hb
          obtain ⟨c3, b3, hS, hI⟩ := ck_same x3 y3 q3 r3
          have HS3 := Lib.hid hS
          have HI3 := Lib.hid hI
          clear hS hI
          have hc3 : (c3 != c3) = false := by simp
          have hb3 : (b3 != b3) = false := by simp
          go_wp2_with fail
          refine (HI3.out _).mono ?_
          rintro e w21 ⟨rfl, hb⟩
          have HB21 : Hid (Below w.heap.size w w21) := Lib.hid (HB20.out.trans (hb.mono HB20.out.size))
          have HZ21 : Hid (w20.heap.size ≤ w21.heap.size) := Lib.hid hb.size
          have HRk21 := Lib.hid (HRk0.out.below HB21.out (Nat.le_refl _))
          have HRo21 := Lib.hid (HRo20.out.below hb (Nat.le_refl _))
          have HRr21 := Lib.hid (HRr20.out.below hb (Nat.le_refl _))
          have HBs2_21 : Hid (Below w2.heap.size w2 w21) := Lib.hid (HBs2_20.out.trans (hb.mono HBs2_20.out.size))
          have HBs7_21 : Hid (Below w7.heap.size w7 w21) := Lib.hid (HBs7_20.out.trans (hb.mono HBs7_20.out.size))
          clear hb
          go_wp2_with fail
          refine (HS3.out _).mono ?_
          rintro e w22 ⟨rfl, hb⟩
          have HB22 : Hid (Below w.heap.size w w22) := Lib.hid (HB21.out.trans (hb.mono HB21.out.size))
          have HZ22 : Hid (w21.heap.size ≤ w22.heap.size) := Lib.hid hb.size
          have HRk22 := Lib.hid (HRk0.out.below HB22.out (Nat.le_refl _))
          have HRo22 := Lib.hid (HRo21.out.below hb (Nat.le_refl _))
          have HRr22 := Lib.hid (HRr21.out.below hb (Nat.le_refl _))
          have HBs2_22 : Hid (Below w2.heap.size w2 w22) := Lib.hid (HBs2_21.out.trans (hb.mono HBs2_21.out.size))
          have HBs7_22 : Hid (Below w7.heap.size w7 w22) := Lib.hid (HBs7_21.out.trans (hb.mono HBs7_21.out.size))
          clear hb
          go_wp2_with fail
          refine (drawCorrections_any _ L _ HRk22.out).mono ?_
          rintro e w23 ⟨⟨x4, y4, rfl⟩, hb⟩
          have HB23 : Hid (Below w.heap.size w w23) := Lib.hid (HB22.out.trans (hb.mono HB22.out.size))
          have HZ23 : Hid (w22.heap.size ≤ w23.heap.size) := Lib.hid hb.size
          have HRk23 := Lib.hid (HRk0.out.below HB23.out (Nat.le_refl _))
          have HRo23 := Lib.hid (HRo22.out.below hb (Nat.le_refl _))
          have HRr23 := Lib.hid (HRr22.out.below hb (Nat.le_refl _))
          have HBs2_23 : Hid (Below w2.heap.size w2 w23) := Lib.hid (HBs2_22.out.trans (hb.mono HBs2_22.out.size))
          have HBs7_23 : Hid (Below w7.heap.size w7 w23) := Lib.hid (HBs7_22.out.trans (hb.mono HBs7_22.out.size))
          clear hb
          obtain ⟨c4, b4, hS, hI⟩ := co_same x4 y4
          have HS4 := Lib.hid hS
          have HI4 := Lib.hid hI
          clear hS hI
          have hc4 : (c4 == c4) = true := by simp
          have hb4 : (b4 == b4) = true := by simp
          go_wp2_with fail
          refine (HI4.out _).mono ?_
          rintro e w24 ⟨rfl, hb⟩
          have HB24 : Hid (Below w.heap.size w w24) := Lib.hid (HB23.out.trans (hb.mono HB23.out.size))
          have HZ24 : Hid (w23.heap.size ≤ w24.heap.size) := Lib.hid hb.size
          have HRk24 := Lib.hid (HRk0.out.below HB24.out (Nat.le_refl _))
          have HRo24 := Lib.hid (HRo23.out.below hb (Nat.le_refl _))
          have HRr24 := Lib.hid (HRr23.out.below hb (Nat.le_refl _))
          have HBs2_24 : Hid (Below w2.heap.size w2 w24) := Lib.hid (HBs2_23.out.trans (hb.mono HBs2_23.out.size))
          have HBs7_24 : Hid (Below w7.heap.size w7 w24) := Lib.hid (HBs7_23.out.trans (hb.mono HBs7_23.out.size))
          clear hb
          go_wp2_with fail
          refine (HS4.out _).mono ?_
          rintro e w25 ⟨rfl, hb⟩
          have HB25 : Hid (Below w.heap.size w w25) := Lib.hid (HB24.out.trans (hb.mono HB24.out.size))
          have HZ25 : Hid (w24.heap.size ≤ w25.heap.size) := Lib.hid hb.size
          have HRk25 := Lib.hid (HRk0.out.below HB25.out (Nat.le_refl _))
          have HRo25 := Lib.hid (HRo24.out.below hb (Nat.le_refl _))
          have HRr25 := Lib.hid (HRr24.out.below hb (Nat.le_refl _))
          have HBs2_25 : Hid (Below w2.heap.size w2 w25) := Lib.hid (HBs2_24.out.trans (hb.mono HBs2_24.out.size))
          have HBs7_25 : Hid (Below w7.heap.size w7 w25) := Lib.hid (HBs7_24.out.trans (hb.mono HBs7_24.out.size))
          clear hb
          go_wp2_with fail
          go_ret
          exact ⟨ret_bool (by first | (simp; done) | rfl), HB25.out⟩
    | false =>
      clear hY
      go_wp2_with fail
      refine (drawQuotientOn_any _ L _ HRk9.out).mono ?_
      rintro e w10 ⟨⟨yu, yl, yv, ys, x2, rfl, ho, -⟩, hb⟩
      have HB10 : Hid (Below w.heap.size w w10) := Lib.hid (HB9.out.trans (hb.mono HB9.out.size))
      have HZ10 : Hid (w9.heap.size ≤ w10.heap.size) := Lib.hid hb.size
      have HRk10 := Lib.hid (HRk0.out.below HB10.out (Nat.le_refl _))
      have HRo10 := Lib.hid (HRo9.out.below hb (Nat.le_refl _))
      have HRr10 := Lib.hid (HRr9.out.below hb (Nat.le_refl _))
      have HBs2_10 : Hid (Below w2.heap.size w2 w10) := Lib.hid (HBs2_9.out.trans (hb.mono HBs2_9.out.size))
      have HBs7_10 : Hid (Below w7.heap.size w7 w10) := Lib.hid (HBs7_9.out.trans (hb.mono HBs7_9.out.size))
      clear hb
      obtain ⟨qay, qcy, rfl⟩ : ∃ a c, yv = .slice a ys.length c := by obtain ⟨a, c, e, _⟩ := ho; exact ⟨a, c, e⟩
      have HRy10 := Lib.hid (ho)
      have HBs10_10 : Hid (Below w10.heap.size w10 w10) := Lib.hid (Below.refl _ _)
      clear ho
      obtain ⟨gu, gl, rs2, r2, b2, hS, hI⟩ := qo_same yu yl ys x2
      have HS2 := Lib.hid hS
      have HI2 := Lib.hid hI
      clear hS hI
      have hb2 : (b2 != b2) = false := by simp
      have hr2 : (r2 != r2) = false := by simp
      go_wp2_with fail
      have hb : Below w10.heap.size w10 (w10.alloc (.cells #[.int .i64 yu, .int .i64 yl, .slice qay ys.length qcy] 42)) := (Below.refl _ _).alloc (Nat.le_refl _) _
      have hk : (w10.alloc (.cells #[.int .i64 yu, .int .i64 yl, .slice qay ys.length qcy] 42)).heap[w10.heap.size]? = some (.cells #[.int .i64 yu, .int .i64 yl, .slice qay ys.length qcy] 42 (0, 0)) := alloc_at rfl
      have hz : (w10.alloc (.cells #[.int .i64 yu, .int .i64 yl, .slice qay ys.length qcy] 42)).heap.size = w10.heap.size + 1 := by simp
      generalize w10.alloc (.cells #[.int .i64 yu, .int .i64 yl, .slice qay ys.length qcy] 42) = w11 at hb hk hz ⊢
      have HB11 : Hid (Below w.heap.size w w11) := Lib.hid (HB10.out.trans (hb.mono HB10.out.size))
      have HZ11 : Hid (w10.heap.size ≤ w11.heap.size) := Lib.hid hb.size
      have HRk11 := Lib.hid (HRk0.out.below HB11.out (Nat.le_refl _))
      have HRo11 := Lib.hid (HRo10.out.below hb (Nat.le_refl _))
      have HRr11 := Lib.hid (HRr10.out.below hb (Nat.le_refl _))
      have HRy11 := Lib.hid (HRy10.out.below hb (Nat.le_refl _))
      have HBs2_11 : Hid (Below w2.heap.size w2 w11) := Lib.hid (HBs2_10.out.trans (hb.mono HBs2_10.out.size))
      have HBs7_11 : Hid (Below w7.heap.size w7 w11) := Lib.hid (HBs7_10.out.trans (hb.mono HBs7_10.out.size))
      have HBs10_11 : Hid (Below w10.heap.size w10 w11) := Lib.hid (HBs10_10.out.trans (hb.mono HBs10_10.out.size))
      have HKy11 := Lib.hid hk
      replace HZ11 : Hid (w10.heap.size < w11.heap.size) := Lib.hid (by omega)
      have HE11 := Lib.hid hz
      clear hb hk hz
      refine (HI2.out _ _ HRy11.out).mono ?_
      rintro e w12 ⟨⟨v, rfl, ho⟩, hb⟩
      have HB12 : Hid (Below w.heap.size w w12) := Lib.hid (HB11.out.trans (hb.mono HB11.out.size))
      have HZ12 : Hid (w11.heap.size ≤ w12.heap.size) := Lib.hid hb.size
      have HRk12 := Lib.hid (HRk0.out.below HB12.out (Nat.le_refl _))
      have HRo12 := Lib.hid (HRo11.out.below hb (Nat.le_refl _))
      have HRr12 := Lib.hid (HRr11.out.below hb (Nat.le_refl _))
      have HRy12 := Lib.hid (HRy11.out.below hb (Nat.le_refl _))
      have HKy12 := Lib.hid ((hb.block _ (lt_of_block HKy11.out)).trans HKy11.out)
      have HBs2_12 : Hid (Below w2.heap.size w2 w12) := Lib.hid (HBs2_11.out.trans (hb.mono HBs2_11.out.size))
      have HBs7_12 : Hid (Below w7.heap.size w7 w12) := Lib.hid (HBs7_11.out.trans (hb.mono HBs7_11.out.size))
      have HBs10_12 : Hid (Below w10.heap.size w10 w12) := Lib.hid (HBs10_11.out.trans (hb.mono HBs10_11.out.size))
      clear hb
      obtain ⟨qas, qcs, rfl⟩ : ∃ a c, v = .slice a rs2.length c := by obtain ⟨a, c, e, _⟩ := ho; exact ⟨a, c, e⟩
      have HRs12 := Lib.hid (ho)
      have HBs12_12 : Hid (Below w12.heap.size w12 w12) := Lib.hid (Below.refl _ _)
      clear ho
      have lty := lt_of_block HKy12.out
      obtain ⟨cy0, cy1, cy2, fy0, fy1, fy2⟩ := cell3 HKy12.out
      go_wp2_with fail
      have hb : Below w12.heap.size w12 (w12.alloc (.cells #[.int .i64 gu, .int .i64 gl, .slice qas rs2.length qcs] 42)) := (Below.refl _ _).alloc (Nat.le_refl _) _
      have hk : (w12.alloc (.cells #[.int .i64 gu, .int .i64 gl, .slice qas rs2.length qcs] 42)).heap[w12.heap.size]? = some (.cells #[.int .i64 gu, .int .i64 gl, .slice qas rs2.length qcs] 42 (0, 0)) := alloc_at rfl
      have hz : (w12.alloc (.cells #[.int .i64 gu, .int .i64 gl, .slice qas rs2.length qcs] 42)).heap.size = w12.heap.size + 1 := by simp
      generalize w12.alloc (.cells #[.int .i64 gu, .int .i64 gl, .slice qas rs2.length qcs] 42) = w13 at hb hk hz ⊢
      have HB13 : Hid (Below w.heap.size w w13) := Lib.hid (HB12.out.trans (hb.mono HB12.out.size))
      have HZ13 : Hid (w12.heap.size ≤ w13.heap.size) := Lib.hid hb.size
      have HRk13 := Lib.hid (HRk0.out.below HB13.out (Nat.le_refl _))
      have HRo13 := Lib.hid (HRo12.out.below hb (Nat.le_refl _))
      have HRr13 := Lib.hid (HRr12.out.below hb (Nat.le_refl _))
      have HRy13 := Lib.hid (HRy12.out.below hb (Nat.le_refl _))
      have HKy13 := Lib.hid ((hb.block _ (lt_of_block HKy12.out)).trans HKy12.out)
      have HRs13 := Lib.hid (HRs12.out.below hb (Nat.le_refl _))
      have HBs2_13 : Hid (Below w2.heap.size w2 w13) := Lib.hid (HBs2_12.out.trans (hb.mono HBs2_12.out.size))
      have HBs7_13 : Hid (Below w7.heap.size w7 w13) := Lib.hid (HBs7_12.out.trans (hb.mono HBs7_12.out.size))
      have HBs10_13 : Hid (Below w10.heap.size w10 w13) := Lib.hid (HBs10_12.out.trans (hb.mono HBs10_12.out.size))
      have HBs12_13 : Hid (Below w12.heap.size w12 w13) := Lib.hid (HBs12_12.out.trans (hb.mono HBs12_12.out.size))
      have HKs13 := Lib.hid hk
      replace HZ13 : Hid (w12.heap.size < w13.heap.size) := Lib.hid (by omega)
      have HE13 := Lib.hid hz
      clear hb hk hz
      refine (HS2.out _ _ HRy13.out).mono ?_
      rintro e w14 ⟨⟨v, rfl, ho⟩, hb⟩
      have HB14 : Hid (Below w.heap.size w w14) := Lib.hid (HB13.out.trans (hb.mono HB13.out.size))
      have HZ14 : Hid (w13.heap.size ≤ w14.heap.size) := Lib.hid hb.size
      have HRk14 := Lib.hid (HRk0.out.below HB14.out (Nat.le_refl _))
      have HRo14 := Lib.hid (HRo13.out.below hb (Nat.le_refl _))
      have HRr14 := Lib.hid (HRr13.out.below hb (Nat.le_refl _))
      have HRy14 := Lib.hid (HRy13.out.below hb (Nat.le_refl _))
      have HKy14 := Lib.hid ((hb.block _ (lt_of_block HKy13.out)).trans HKy13.out)
      have HRs14 := Lib.hid (HRs13.out.below hb (Nat.le_refl _))
      have HKs14 := Lib.hid ((hb.block _ (lt_of_block HKs13.out)).trans HKs13.out)
      have HBs2_14 : Hid (Below w2.heap.size w2 w14) := Lib.hid (HBs2_13.out.trans (hb.mono HBs2_13.out.size))
      have HBs7_14 : Hid (Below w7.heap.size w7 w14) := Lib.hid (HBs7_13.out.trans (hb.mono HBs7_13.out.size))
      have HBs10_14 : Hid (Below w10.heap.size w10 w14) := Lib.hid (HBs10_13.out.trans (hb.mono HBs10_13.out.size))
      have HBs12_14 : Hid (Below w12.heap.size w12 w14) := Lib.hid (HBs12_13.out.trans (hb.mono HBs12_13.out.size))
      clear hb
      obtain ⟨qat, qct, rfl⟩ : ∃ a c, v = .slice a rs2.length c := by obtain ⟨a, c, e, _⟩ := ho; exact ⟨a, c, e⟩
      have HRt14 := Lib.hid (ho)
      have HBs14_14 : Hid (Below w14.heap.size w14 w14) := Lib.hid (Below.refl _ _)
      clear ho
      clear cy0 cy1 cy2 fy0 fy1 fy2 lty
      have lty := lt_of_block HKy14.out
      obtain ⟨cy0, cy1, cy2, fy0, fy1, fy2⟩ := cell3 HKy14.out
      have lts := lt_of_block HKs14.out
      obtain ⟨cs0, cs1, cs2, fs0, fs1, fs2⟩ := cell3 HKs14.out
      go_wp2_with fail
      have hb : Below w14.heap.size w14 (w14.alloc (.cells #[.int .i64 gu, .int .i64 gl, .slice qat rs2.length qct] 42)) := (Below.refl _ _).alloc (Nat.le_refl _) _
      have hk : (w14.alloc (.cells #[.int .i64 gu, .int .i64 gl, .slice qat rs2.length qct] 42)).heap[w14.heap.size]? = some (.cells #[.int .i64 gu, .int .i64 gl, .slice qat rs2.length qct] 42 (0, 0)) := alloc_at rfl
      have hz : (w14.alloc (.cells #[.int .i64 gu, .int .i64 gl, .slice qat rs2.length qct] 42)).heap.size = w14.heap.size + 1 := by simp
      generalize w14.alloc (.cells #[.int .i64 gu, .int .i64 gl, .slice qat rs2.length qct] 42) = w15 at hb hk hz ⊢
      have HB15 : Hid (Below w.heap.size w w15) := Lib.hid (HB14.out.trans (hb.mono HB14.out.size))
      have HZ15 : Hid (w14.heap.size ≤ w15.heap.size) := Lib.hid hb.size
      have HRk15 := Lib.hid (HRk0.out.below HB15.out (Nat.le_refl _))
      have HRo15 := Lib.hid (HRo14.out.below hb (Nat.le_refl _))
      have HRr15 := Lib.hid (HRr14.out.below hb (Nat.le_refl _))
      have HRy15 := Lib.hid (HRy14.out.below hb (Nat.le_refl _))
      have HKy15 := Lib.hid ((hb.block _ (lt_of_block HKy14.out)).trans HKy14.out)
      have HRs15 := Lib.hid (HRs14.out.below hb (Nat.le_refl _))
      have HKs15 := Lib.hid ((hb.block _ (lt_of_block HKs14.out)).trans HKs14.out)
      have HRt15 := Lib.hid (HRt14.out.below hb (Nat.le_refl _))
      have HBs2_15 : Hid (Below w2.heap.size w2 w15) := Lib.hid (HBs2_14.out.trans (hb.mono HBs2_14.out.size))
      have HBs7_15 : Hid (Below w7.heap.size w7 w15) := Lib.hid (HBs7_14.out.trans (hb.mono HBs7_14.out.size))
      have HBs10_15 : Hid (Below w10.heap.size w10 w15) := Lib.hid (HBs10_14.out.trans (hb.mono HBs10_14.out.size))
      have HBs12_15 : Hid (Below w12.heap.size w12 w15) := Lib.hid (HBs12_14.out.trans (hb.mono HBs12_14.out.size))
      have HBs14_15 : Hid (Below w14.heap.size w14 w15) := Lib.hid (HBs14_14.out.trans (hb.mono HBs14_14.out.size))
      have HKt15 := Lib.hid hk
      replace HZ15 : Hid (w14.heap.size < w15.heap.size) := Lib.hid (by omega)
      have HE15 := Lib.hid hz
      clear hb hk hz
      refine (vFrame_yes gu gl _ _ rs2 _ HRs15.out HRt15.out).mono ?_
      rintro e w16 ⟨rfl, hb⟩
      have HB16 : Hid (Below w.heap.size w w16) := Lib.hid (HB15.out.trans (hb.mono HB15.out.size))
      have HZ16 : Hid (w15.heap.size ≤ w16.heap.size) := Lib.hid hb.size
      have HRk16 := Lib.hid (HRk0.out.below HB16.out (Nat.le_refl _))
      have HRo16 := Lib.hid (HRo15.out.below hb (Nat.le_refl _))
      have HRr16 := Lib.hid (HRr15.out.below hb (Nat.le_refl _))
      have HRy16 := Lib.hid (HRy15.out.below hb (Nat.le_refl _))
      have HKy16 := Lib.hid ((hb.block _ (lt_of_block HKy15.out)).trans HKy15.out)
      have HRs16 := Lib.hid (HRs15.out.below hb (Nat.le_refl _))
      have HKs16 := Lib.hid ((hb.block _ (lt_of_block HKs15.out)).trans HKs15.out)
      have HRt16 := Lib.hid (HRt15.out.below hb (Nat.le_refl _))
      have HKt16 := Lib.hid ((hb.block _ (lt_of_block HKt15.out)).trans HKt15.out)
      have HBs2_16 : Hid (Below w2.heap.size w2 w16) := Lib.hid (HBs2_15.out.trans (hb.mono HBs2_15.out.size))
      have HBs7_16 : Hid (Below w7.heap.size w7 w16) := Lib.hid (HBs7_15.out.trans (hb.mono HBs7_15.out.size))
      have HBs10_16 : Hid (Below w10.heap.size w10 w16) := Lib.hid (HBs10_15.out.trans (hb.mono HBs10_15.out.size))
      have HBs12_16 : Hid (Below w12.heap.size w12 w16) := Lib.hid (HBs12_15.out.trans (hb.mono HBs12_15.out.size))
      have HBs14_16 : Hid (Below w14.heap.size w14 w16) := Lib.hid (HBs14_15.out.trans (hb.mono HBs14_15.out.size))
      clear hb
      clear cy0 cy1 cy2 fy0 fy1 fy2 lty cs0 cs1 cs2 fs0 fs1 fs2 lts
      go_wp2_with fail
      refine (drawCheckDivision_any _ L _ HRk16.out).mono ?_
      rintro e w17 ⟨⟨x3, y3, q3, r3, rfl⟩, hb⟩
      have HB17 : Hid (Below w.heap.size w w17) := Lib.hid (HB16.out.trans (hb.mono HB16.out.size))
      have HZ17 : Hid (w16.heap.size ≤ w17.heap.size) := Lib.hid hb.size
      have HRk17 := Lib.hid (HRk0.out.below HB17.out (Nat.le_refl _))
      have HRo17 := Lib.hid (HRo16.out.below hb (Nat.le_refl _))
      have HRr17 := Lib.hid (HRr16.out.below hb (Nat.le_refl _))
      have HBs2_17 : Hid (Below w2.heap.size w2 w17) := Lib.hid (HBs2_16.out.trans (hb.mono HBs2_16.out.size))
      have HBs7_17 : Hid (Below w7.heap.size w7 w17) := Lib.hid (HBs7_16.out.trans (hb.mono HBs7_16.out.size))
      clear hb
      obtain ⟨c3, b3, hS, hI⟩ := ck_same x3 y3 q3 r3
      have HS3 := Lib.hid hS
      have HI3 := Lib.hid hI
      clear hS hI
      have hc3 : (c3 != c3) = false := by simp
      have hb3 : (b3 != b3) = false := by simp
      go_wp2_with fail
      refine (HI3.out _).mono ?_
      rintro e w18 ⟨rfl, hb⟩
      have HB18 : Hid (Below w.heap.size w w18) := Lib.hid (HB17.out.trans (hb.mono HB17.out.size))
      have HZ18 : Hid (w17.heap.size ≤ w18.heap.size) := Lib.hid hb.size
      have HRk18 := Lib.hid (HRk0.out.below HB18.out (Nat.le_refl _))
      have HRo18 := Lib.hid (HRo17.out.below hb (Nat.le_refl _))
      have HRr18 := Lib.hid (HRr17.out.below hb (Nat.le_refl _))
      have HBs2_18 : Hid (Below w2.heap.size w2 w18) := Lib.hid (HBs2_17.out.trans (hb.mono HBs2_17.out.size))
      have HBs7_18 : Hid (Below w7.heap.size w7 w18) := Lib.hid (HBs7_17.out.trans (hb.mono HBs7_17.out.size))
      clear hb
      go_wp2_with fail
      refine (HS3.out _).mono ?_
      rintro e w19 ⟨rfl, hb⟩
      have HB19 : Hid (Below w.heap.size w w19) := Lib.hid (HB18.out.trans (hb.mono HB18.out.size))
      have HZ19 : Hid (w18.heap.size ≤ w19.heap.size) := Lib.hid hb.size
      have HRk19 := Lib.hid (HRk0.out.below HB19.out (Nat.le_refl _))
      have HRo19 := Lib.hid (HRo18.out.below hb (Nat.le_refl _))
      have HRr19 := Lib.hid (HRr18.out.below hb (Nat.le_refl _))
      have HBs2_19 : Hid (Below w2.heap.size w2 w19) := Lib.hid (HBs2_18.out.trans (hb.mono HBs2_18.out.size))
      have HBs7_19 : Hid (Below w7.heap.size w7 w19) := Lib.hid (HBs7_18.out.trans (hb.mono HBs7_18.out.size))
      clear hb
      go_wp2_with fail
      refine (drawCorrections_any _ L _ HRk19.out).mono ?_
      rintro e w20 ⟨⟨x4, y4, rfl⟩, hb⟩
      have HB20 : Hid (Below w.heap.size w w20) := Lib.hid (HB19.out.trans (hb.mono HB19.out.size))
      have HZ20 : Hid (w19.heap.size ≤ w20.heap.size) := Lib.hid hb.size
      have HRk20 := Lib.hid (HRk0.out.below HB20.out (Nat.le_refl _))
      have HRo20 := Lib.hid (HRo19.out.below hb (Nat.le_refl _))
      have HRr20 := Lib.hid (HRr19.out.below hb (Nat.le_refl _))
      have HBs2_20 : Hid (Below w2.heap.size w2 w20) := Lib.hid (HBs2_19.out.trans (hb.mono HBs2_19.out.size))
      have HBs7_20 : Hid (Below w7.heap.size w7 w20) := Lib.hid (HBs7_19.out.trans (hb.mono HBs7_19.out.size))
      clear hb
      obtain ⟨c4, b4, hS, hI⟩ := co_same x4 y4
      have HS4 := Lib.hid hS
      have HI4 := Lib.hid hI
      clear hS hI
      have hc4 : (c4 == c4) = true := by simp
      have hb4 : (b4 == b4) = true := by simp
      go_wp2_with fail
      refine (HI4.out _).mono ?_
      rintro e w21 ⟨rfl, hb⟩
      have HB21 : Hid (Below w.heap.size w w21) := Lib.hid (HB20.out.trans (hb.mono HB20.out.size))
      have HZ21 : Hid (w20.heap.size ≤ w21.heap.size) := Lib.hid hb.size
      have HRk21 := Lib.hid (HRk0.out.below HB21.out (Nat.le_refl _))
      have HRo21 := Lib.hid (HRo20.out.below hb (Nat.le_refl _))
      have HRr21 := Lib.hid (HRr20.out.below hb (Nat.le_refl _))
      have HBs2_21 : Hid (Below w2.heap.size w2 w21) := Lib.hid (HBs2_20.out.trans (hb.mono HBs2_20.out.size))
      have HBs7_21 : Hid (Below w7.heap.size w7 w21) := Lib.hid (HBs7_20.out.trans (hb.mono HBs7_20.out.size))
      clear hb
      go_wp2_with fail
      refine (HS4.out _).mono ?_
      rintro e w22 ⟨rfl, hb⟩
      have HB22 : Hid (Below w.heap.size w w22) := Lib.hid (HB21.out.trans (hb.mono HB21.out.size))
      have HZ22 : Hid (w21.heap.size ≤ w22.heap.size) := Lib.hid hb.size
      have HRk22 := Lib.hid (HRk0.out.below HB22.out (Nat.le_refl _))
      have HRo22 := Lib.hid (HRo21.out.below hb (Nat.le_refl _))
      have HRr22 := Lib.hid (HRr21.out.below hb (Nat.le_refl _))
      have HBs2_22 : Hid (Below w2.heap.size w2 w22) := Lib.hid (HBs2_21.out.trans (hb.mono HBs2_21.out.size))
      have HBs7_22 : Hid (Below w7.heap.size w7 w22) := Lib.hid (HBs7_21.out.trans (hb.mono HBs7_21.out.size))
      clear hb
      go_wp2_with fail
      go_ret
      exact ⟨ret_bool (by first | (simp; done) | rfl), HB22.out⟩
end Go.Proofs.Ythmbehknacjodaa
