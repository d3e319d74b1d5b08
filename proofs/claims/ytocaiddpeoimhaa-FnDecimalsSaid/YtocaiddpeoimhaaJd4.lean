/- The program's PeriodOf: a map from rests to places. -/
import Derived.Test.YtocaiddpeoimhaaJd1
import Derived.Test.YtocaiddpeoimhaaNd5
import Derived.Maps.OwnSet
namespace Go.Proofs.Ytocaiddpeoimhaa
set_option linter.unusedVariables false
open Go.RowKit Go.Maps

theorem intK : Keyed Try.prog 3 := int_keyed Try.underlying3
theorem ixTri2 (x y z : Value) (w : World) : (Instr.index 36 (.agg #[x, y, z]) (.int .i64 2)).run Try.prog w = .ok z w := by kernel_rfl
theorem zeroI (w : World) : (zeroValue 3).run Try.prog w = .ok (.int .i64 0) w := by kernel_rfl
/-- Block b is the map of the first k rests to their places. -/
def IMap (R : Nat → Int) (w : World) (b k : Nat) : Prop := ∃ D : DataW Value, w.ownsMap Try.prog 3 (plainElem Try.prog 3) b k D ∧ (∀ x, Maps.has D (.int .i64 x) = true ↔ ∃ i, i < k ∧ R i = x) ∧ ∀ i, i < k → D.atKey (.int .i64 (R i)) (.lit (.int .i64 0)) = .lit (.int .i64 (i : Int))
theorem IMap.made (R : Nat → Int) (w : World) : IMap R (w.alloc (.map #[] 0)) w.heap.size 0 := ⟨.map [], World.ownsMap_made _ _ _ _, fun x => ⟨fun h => (by cases h), fun ⟨i, h, _⟩ => (by omega)⟩, fun i h => by omega⟩
theorem IMap.below {R : Nat → Int} {w w' : World} {b k B : Nat} (h : IMap R w b k) (hb : Below B w w') (hB : b < B) : IMap R w' b k := by
  obtain ⟨D, ⟨es, clock, h1, h2⟩, h3⟩ := h
  exact ⟨D, ⟨es, clock, (hb.block b hB).trans h1, h2⟩, h3⟩
theorem IMap.lt {R : Nat → Int} {w : World} {b k : Nat} (h : IMap R w b k) : b < w.heap.size := by obtain ⟨D, h1, _⟩ := h; exact h1.lt
/-- The place of a rest that comes first is put into it. -/
theorem IMap.put {R : Nat → Int} {w' : World} {b k : Nat} {D : DataW Value} (h : w'.ownsMap Try.prog 3 (plainElem Try.prog 3) b (k + 1) (D.put (.int .i64 (R k)) (.lit (.int .i64 (k : Int))))) (hD : IsMap D) (h1 : ∀ x, Maps.has D (.int .i64 x) = true ↔ ∃ i, i < k ∧ R i = x) (h2 : ∀ i, i < k → D.atKey (.int .i64 (R i)) (.lit (.int .i64 0)) = .lit (.int .i64 (i : Int))) (hn : ∀ i, i < k → R i ≠ R k) : IMap R w' b (k + 1) := by
  refine ⟨_, h, fun x => ?_, fun i hi => ?_⟩
  · by_cases e : x = R k
    · subst e
      rw [has_put_same hD (by simp [WideAt.IsKeyLit])]
      exact ⟨fun _ => ⟨k, by omega, rfl⟩, fun _ => rfl⟩
    · rw [has_put_other (fun e' => e (by injection e')), h1]
      constructor
      · rintro ⟨i, hi, hx⟩; exact ⟨i, by omega, hx⟩
      · rintro ⟨i, hi, hx⟩
        refine ⟨i, ?_, hx⟩
        by_cases hik : i = k
        · subst hik; exact absurd hx.symm e
        · omega
  · by_cases hik : i = k
    · subst hik; exact atKey_put_same hD (by simp [WideAt.IsKeyLit]) _ _
    · rw [atKey_put_other (fun e' => hn i (by omega) (by injection e'))]
      exact h2 i (by omega)
theorem rest_zero {R : Nat → Int} {d : Int} (hs : ∀ k, R (k + 1) = 10 * R k % d) {k : Nat} (h : R k = 0) : ∀ m, R (k + m) = 0
  | 0 => h
  | m + 1 => by rw [← Nat.add_assoc, hs, rest_zero hs h m]; simp
set_option maxRecDepth 100000 in
set_option maxHeartbeats 3200000 in
theorem impPeriodOf_yes (a d : Int) (w : World) (h : okD a d) (h500 : d ≤ 500) (b p : Nat) (hp : p ≤ 500) (hf : fstR (rsD d (a % d)) b p) (x y : Int) (hxy : PerA (rsD d (a % d)) b p x y) :
    Calls Try.prog 36 #[.int .i64 a, .int .i64 d] w fun e w' => e = .returned (.tuple #[.int .i64 x, .int .i64 y, .bool true]) ∧ Below w.heap.size w w' := by
  have HOK := Lib.hid h
  have z3 : (d == 0) = false := beq_eq_false_iff_ne.2 (by have := h.2.1; omega)
  have z4 : d ≠ 0 := by have := h.2.1; omega
  have hd9 : 1 ≤ d ∧ d ≤ 9999 := h.2
  obtain ⟨f1, f2, f3, f4, f5, f6⟩ := div_facts (b := a) (d := d) ⟨h.1.1, by have := h.1.2; omega⟩ h.2.1
  have HRB := Lib.hid (fun k => rsD_bd (d := d) hd9.1 (r := a % d) ⟨f5, f6⟩ k)
  have HRS := Lib.hid (fun k => rsD_succ d (a % d) k)
  have HR0 : Hid (rsD d (a % d) 0 = a % d) := Lib.hid rfl
  obtain ⟨hz8, hz7⟩ := h.1
  generalize hR : rsD d (a % d) = R at HRB HRS HR0 hf hxy
  obtain ⟨r0, hr0⟩ : ∃ r, a % d = r := ⟨_, rfl⟩
  rw [hr0] at HR0 f2 f5 f6
  have HF := Lib.hid hf
  have HXY := Lib.hid hxy
  have z5 : ¬ 500 < d := by omega
  have hmm := @run_makeMap Try.prog
  clear h f1 f3 f4 hR hf hxy h500
  go_enter Try.func36, Try.ntmps36
  go_wp2_with fail
  refine (canD_yes _ _ w HOK.out).mono ?_
  rintro e w9 ⟨rfl, rfl⟩
  go_wp2_with fail
  have HM0 : Hid (IMap R (w.alloc (.map #[] 0)) w.heap.size 0) := Lib.hid (IMap.made R w)
  have HB0 : Hid (Below w.heap.size w (w.alloc (.map #[] 0))) := Lib.hid ((Below.refl _ _).alloc (Nat.le_refl _) _)
  generalize w.alloc (.map #[] 0) = w1 at HM0 HB0 ⊢
  obtain ⟨bv, hbv⟩ : ∃ bv, decide (500 < d) = bv := ⟨_, rfl⟩
  try rw [hbv]
  clear hbv hmm
  go_loopw [8, 9] (fun rv pv wr => ∃ (k : Nat) (r : Int), k ≤ p ∧ rv = .int .i64 r ∧ pv = .int .i64 (k : Int) ∧ Hid (r = R k) ∧ IMap R wr w.heap.size k ∧ Below w.heap.size w wr) (fun _ pv _ => p - (intOf pv).toNat)
  case atStart => exact ⟨0, r0, Nat.zero_le _, by first | rfl | rw [hr0], rfl, Lib.hid HR0.out.symm, HM0.out, HB0.out⟩
  case round =>
    obtain ⟨k, r, hk, rfl, rfl, HRR, hM, hb⟩ := hrel
    have HB := Lib.hid hb
    have HMM := Lib.hid hM
    have hrb := HRB.out k
    rw [← HRR.out] at hrb
    by_cases hr00 : r = 0
    · subst hr00
      have HX : Hid (x = 0 ∧ y = 0) := Lib.hid (HXY.out.1 (by have := rest_zero HRS.out HRR.out.symm (p - k); rwa [show k + (p - k) = p by omega] at this))
      clear hM hb
      go_wp2_with fail
      exact bodyPost_ret (v := .tuple #[.int .i64 0, .int .i64 0, .bool true]) (by simp [results, Try.results36, go_sem]) rfl ⟨by rw [HX.out.1, HX.out.2], HB.out⟩
    · have y1 : (r != 0) = true := by simpa using hr00
      have hkey := keyOf_int_mk (P := Try.prog) Try.underlying3 (q := .i64) (a := r) (WalkArith.wf_i64 (by omega))
      obtain ⟨D, hown, hh, hat0⟩ := hM
      have hwk : (Lit.int .i64 (k : Int)).wf = true := WalkArith.wf_i64 (by omega)
      by_cases hkp : k = p
      · subst hkp
        have hhas : Maps.has D (.int .i64 r) = true := (hh r).2 ⟨b, HF.out.1, by rw [HRR.out]; exact HF.out.2.1⟩
        have hab : D.atKey (.int .i64 r) (.lit (.int .i64 0)) = .lit (.int .i64 (b : Int)) := by rw [HRR.out, ← HF.out.2.1]; exact hat0 b HF.out.1
        have HX : Hid (x = (b : Int) ∧ y = (k : Int) - (b : Int)) := Lib.hid (HXY.out.2 (by rw [← HRR.out]; exact hr00))
        have hbk := HF.out.1
        have hwb : IntKind.i64.wrap ((k : Int) - (b : Int)) = (k : Int) - (b : Int) := by rw [IntKind.wrap_i64]; omega
        have HAB := Lib.hid hab
        have HHAS := Lib.hid hhas
        have HOWN := Lib.hid hown
        have HKEY := Lib.hid hkey
        clear hh hat0 hb hown hab hhas hr00 hkey
        go_wp2_with (at_lookup; refine wpList_lookup_own_ok_int _ rfl _ _ 86 rfl 3 3 .i64 intK Try.underlying86 Try.underlying3 (zeroI _) w.heap.size k D rfl HOWN.out _ _ rfl HKEY.out ?_; intro c hat hwc; rw [HHAS.out, show c = (b : Int) by (have h9 := HAB.out; rw [hat] at h9; injection h9 with h9; injection h9)])
        exact bodyPost_ret (v := .tuple #[.int .i64 (b : Int), .int .i64 ((k : Int) - (b : Int)), .bool true]) (by simp [results, Try.results36, go_sem]) rfl ⟨by rw [HX.out.1, HX.out.2], HB.out⟩
      · have hhas : Maps.has D (.int .i64 r) = false := by
          cases hq : Maps.has D (.int .i64 r) with
          | false => rfl
          | true =>
            obtain ⟨i, hi, e⟩ := (hh r).1 hq
            exact absurd (by rw [e, HRR.out]) (HF.out.2.2 i k hi (by omega))
        have HNK : Hid (∀ i, i < k → R i ≠ R k) := Lib.hid (fun i hi => HF.out.2.2 i k hi (by omega))
        obtain ⟨N, q, v, e1, e2, e3, e4, e5, e6, e7, e8, e9, e10, e11, e12⟩ := step_facts (x := 0) hrb ⟨by omega, by omega⟩ hd9
        have HC := Lib.hid (fun w => stepOf_any r 0 d w hrb ⟨by omega, by omega⟩ hd9 N q v e11)
        have hrs := HRS.out k
        rw [← HRR.out] at hrs
        rw [Int.add_zero] at e12
        rw [e12] at hrs
        have HRN := Lib.hid hrs.symm
        have HHAS := Lib.hid hhas
        have HOWN := Lib.hid hown
        have HKEY := Lib.hid hkey
        have HH := Lib.hid hh
        have HAT := Lib.hid hat0
        clear hh hat0 hb hown hhas hr00 hkey hrs e1 e2 e3 e4 e5 e6 e7 e8 e9 e10 e11 e12
        go_wp2_with (first
          | (at_lookup; refine wpList_lookup_own_ok_int _ rfl _ _ 86 rfl 3 3 .i64 intK Try.underlying86 Try.underlying3 (zeroI _) w.heap.size k D rfl HOWN.out _ _ rfl HKEY.out ?_; intro c hat hwc; rw [HHAS.out])
          | (at_mapUpdate; refine wpList_mapUpdate_own _ rfl _ _ _ 86 rfl 3 3 intK Try.underlying86 _ w.heap.size k _ rfl HOWN.out (by unfold maxLen; omega) _ _ _ rfl rfl HKEY.out _ [] (plainElem_int Try.underlying3 hwk) ?_; intro w3 hown3 hgrow3))
        have HM3 : Hid (IMap R w3 w.heap.size (k + 1)) := Lib.hid (IMap.put (by rw [← HRR.out]; exact hown3) HOWN.out.isMap HH.out HAT.out HNK.out)
        have HB3 : Hid (Below w.heap.size w w3) := Lib.hid (HB.out.grown hgrow3 HB.out.size (fun j hj => by cases hj; exact Nat.le_refl _))
        clear hown3 hgrow3
        refine (HC.out w3).mono ?_
        rintro e w4 ⟨rfl, hb4⟩
        have HM4 := Lib.hid (HM3.out.below hb4 HM3.out.lt)
        have HB4 : Hid (Below w.heap.size w w4) := Lib.hid (HB3.out.trans (hb4.mono HB3.out.size))
        have hix := ixTri2 (.int .i64 N) (.int .i64 q) (.int .i64 v)
        clear hb4
        go_wp2_with fail
        go_roundw
        case rel => exact ⟨k + 1, v, by omega, rfl, by go_num, HRN, HM4.out, HB4.out⟩
        case measure => simp [intOf]; omega
set_option maxRecDepth 100000 in
set_option maxHeartbeats 800000 in
theorem impPeriodOf_bad (a d : Int) (w : World) (h : ¬ okD a d) :
    Calls Try.prog 36 #[.int .i64 a, .int .i64 d] w fun e w' => e = .returned (.tuple #[.int .i64 0, .int .i64 0, .bool false]) ∧ Below w.heap.size w w' := by
  go_enter Try.func36, Try.ntmps36
  go_wp2_with fail
  refine (canD_no _ _ w h).mono ?_
  rintro e w2 ⟨rfl, rfl⟩
  go_wp2_with fail
  exact bodyPost_ret (v := .tuple #[.int .i64 0, .int .i64 0, .bool false]) (by simp [results, Try.results36, go_sem]) rfl ⟨rfl, Below.refl _ _⟩
set_option maxRecDepth 100000 in
set_option maxHeartbeats 800000 in
theorem impPeriodOf_big (a d : Int) (w : World) (h : okD a d) (hd : 500 < d) :
    Calls Try.prog 36 #[.int .i64 a, .int .i64 d] w fun e w' => e = .returned (.tuple #[.int .i64 0, .int .i64 0, .bool false]) ∧ Below w.heap.size w w' := by
  have HK := Lib.hid h
  clear h
  go_enter Try.func36, Try.ntmps36
  go_wp2_with fail
  refine (canD_yes _ _ w HK.out).mono ?_
  rintro e w2 ⟨rfl, rfl⟩
  go_wp2_with fail
  exact bodyPost_ret (v := .tuple #[.int .i64 0, .int .i64 0, .bool false]) (by simp [results, Try.results36, go_sem]) rfl ⟨rfl, Below.refl _ _⟩
theorem impPeriodOf_no (a d : Int) (w : World) (h : ¬ (okD a d ∧ d ≤ 500)) :
    Calls Try.prog 36 #[.int .i64 a, .int .i64 d] w fun e w' => e = .returned (.tuple #[.int .i64 0, .int .i64 0, .bool false]) ∧ Below w.heap.size w w' := by
  by_cases h1 : okD a d
  · exact impPeriodOf_big a d w h1 (by rcases Int.lt_or_le 500 d with h2 | h2; exact h2; exact absurd ⟨h1, h2⟩ h)
  · exact impPeriodOf_bad a d w h1
end Go.Proofs.Ytocaiddpeoimhaa
