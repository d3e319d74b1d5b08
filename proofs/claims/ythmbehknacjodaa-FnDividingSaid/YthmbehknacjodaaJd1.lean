/- The program's steps. -/
import Derived.Test.YthmbehknacjodaaNd2
import Derived.Test.YthmbehknacjodaaKu
import Derived.BigRegion
namespace Go.Proofs.Ythmbehknacjodaa
set_option linter.unusedVariables false
open Go.RowKit

/-- A row that is filled from the left. -/
def flS {α : Type} (z : α) (A : List α) (k : Nat) : List α := A.take k ++ List.replicate (A.length - k) z
theorem flS_len {α : Type} (z : α) (A : List α) (k : Nat) (h : k ≤ A.length) : (flS z A k).length = A.length := by unfold flS; rw [List.length_append, List.length_take, List.length_replicate]; omega
theorem flS_zero {α : Type} (z : α) (A : List α) : flS z A 0 = List.replicate A.length z := by simp [flS]
theorem flS_end {α : Type} (z : α) (A : List α) : flS z A A.length = A := by simp [flS]
theorem flS_set {α : Type} (z : α) (A : List α) (k : Nat) (h : k < A.length) : (flS z A k).set k A[k] = flS z A (k + 1) := by
  unfold flS
  have e : (A.take k).length = k := by rw [List.length_take]; omega
  rw [List.set_append_right _ _ (by omega), e, Nat.sub_self, takeS A k h, List.append_assoc, show A.length - k = (A.length - (k + 1)) + 1 by omega, List.replicate_succ]; rfl
theorem made_tri (n : Nat) : (madeCells #[Value.int .i64 0, .int .i64 0, .int .i64 0] (n * 3)).toList = flatC trC (List.replicate n (⟨0, 0, 0⟩ : Tr)) := by
  refine flatC_of trC_len (by omega) _ _ (by simp [madeCells]) fun i hi j hj => ?_
  have hi' : i < n := by simpa using hi
  have h1 : i * 3 + j < n * 3 := by omega
  have h2 : (i * 3 + j) % 3 = j := by omega
  have hj' : j = 0 ∨ j = 1 ∨ j = 2 := by omega
  rcases hj' with rfl | rfl | rfl <;> (try simp only [Nat.add_zero] at h1 h2 ⊢) <;> simp [madeCells, trC, h1, h2]
theorem made_int (n : Nat) : (madeCells #[Value.int .i64 0] (n * 1)).toList = flatC inC (List.replicate n (0 : Int)) := by
  refine flatC_of inC_len (by omega) _ _ (by simp [madeCells]) fun i hi j hj => ?_
  have hi' : i < n := by simpa using hi
  obtain rfl : j = 0 := by omega
  simp [madeCells, inC, hi', Nat.mod_one]
/-- Element i of a row of three cells each set. -/
theorem set3C (ps : List Tr) (i : Nat) (hi : i < ps.length) (a b c : Int) : (((flatC trC ps).set (i * 3) (.int .i64 a)).set (i * 3 + 1) (.int .i64 b)).set (i * 3 + 2) (.int .i64 c) = flatC trC (ps.set i ⟨a, b, c⟩) := by
  have hl := flatC_len trC_len ps
  refine flatC_setf trC_len (by omega) _ ps i _ (by simp [hl]) (fun q hq j hj e => ?_) (fun _ j hj => ?_)
  · rw [List.getElem?_set_ne (by omega), List.getElem?_set_ne (by omega), List.getElem?_set_ne (by omega)]
    exact flatC_at trC_len ps q hq j hj
  · have hj' : j = 0 ∨ j = 1 ∨ j = 2 := by omega
    rcases hj' with rfl | rfl | rfl
    · rw [List.getElem?_set_ne (by omega), List.getElem?_set_ne (by omega), Nat.add_zero, List.getElem?_set_self (by omega)]; rfl
    · rw [List.getElem?_set_ne (by omega), List.getElem?_set_self (by rw [List.length_set]; omega)]; rfl
    · rw [List.getElem?_set_self (by simp only [List.length_set]; omega)]; rfl
set_option maxRecDepth 100000 in
set_option maxHeartbeats 400000 in
theorem canD_yes (a b : Int) (w : World) (h : okD a b) :
    Calls Try.prog 101 #[.int .i64 a, .int .i64 b] w fun e w' => e = .returned (.bool true) ∧ w = w' := by
  obtain ⟨⟨h1, h2⟩, h3, h4⟩ := h
  go_enter Try.func101, Try.ntmps101
  go_wp2
  go_ret
  exact ⟨rfl, rfl⟩
set_option maxRecDepth 100000 in
set_option maxHeartbeats 400000 in
theorem canD_no (a b : Int) (w : World) (h : ¬ okD a b) :
    Calls Try.prog 101 #[.int .i64 a, .int .i64 b] w fun e w' => e = .returned (.bool false) ∧ w = w' := by
  by_cases h1 : 0 ≤ a
  · by_cases h2 : a ≤ 99999999
    · by_cases h3 : 1 ≤ b
      · have h4 : ¬ b ≤ 9999 := fun h4 => h ⟨⟨h1, h2⟩, h3, h4⟩
        clear h
        go_enter Try.func101, Try.ntmps101
        go_wp2
        go_ret
        exact ⟨rfl, rfl⟩
      · clear h
        go_enter Try.func101, Try.ntmps101
        go_wp2
        go_ret
        exact ⟨rfl, rfl⟩
    · clear h
      go_enter Try.func101, Try.ntmps101
      go_wp2
      go_ret
      exact ⟨rfl, rfl⟩
  · clear h
    go_enter Try.func101, Try.ntmps101
    go_wp2
    go_ret
    exact ⟨rfl, rfl⟩
set_option maxRecDepth 100000 in
set_option maxHeartbeats 1600000 in
theorem stepOf_any (r x d : Int) (w : World) (hr : 0 ≤ r ∧ r < d) (hx : 0 ≤ x ∧ x ≤ 9) (hd : 1 ≤ d ∧ d ≤ 9999) (N q v : Int) (hN : mkS d r x = ⟨N, q, v⟩) :
    Calls Try.prog 130 #[.int .i64 r, .int .i64 x, .int .i64 d] w fun e w' => e = .returned (.agg #[.int .i64 N, .int .i64 q, .int .i64 v]) ∧ Below w.heap.size w w' := by
  obtain ⟨N', q', v', e1, e2, e3, e4, e5, e6, e7, e8, e9, e10, e11, e12⟩ := step_facts hr hx hd
  rw [e11] at hN
  injection hN with g1 g2 g3
  subst g1; subst g2; subst g3
  have z3 : (d == 0) = false := beq_eq_false_iff_ne.2 (by omega)
  have z4 : d ≠ 0 := by omega
  clear e11 e12 e1
  go_enter Try.func130, Try.ntmps130
  go_wp2_with fail
  go_region
  have hk : ((w.alloc (.cells #[.int .i64 N', .int .i64 q', .int .i64 v'] 57)).drew).heap[w.heap.size]? = some (.cells #[.int .i64 N', .int .i64 q', .int .i64 v'] 57 (0, 0)) := alloc_at rfl
  have HB : Hid (Below w.heap.size w (w.alloc (.cells #[.int .i64 N', .int .i64 q', .int .i64 v'] 57)).drew) := Lib.hid ((Below.refl _ _).alloc (Nat.le_refl _) _).drew
  generalize (w.alloc (.cells #[.int .i64 N', .int .i64 q', .int .i64 v'] 57)).drew = w1 at hk HB ⊢
  obtain ⟨c0, c1, c2, _, _, _⟩ := cell3 hk
  go_wp2_with fail
  exact bodyPost_ret (v := .agg #[.int .i64 N', .int .i64 q', .int .i64 v']) (by simp [results, Try.results130, go_sem, c0, c1, c2]) rfl ⟨rfl, HB.out⟩
set_option maxRecDepth 100000 in
set_option maxHeartbeats 1600000 in
theorem trialOf_any (b d : Nat) (w : World) (hb : b ≤ 1000000) (hd : 1 ≤ d ∧ d ≤ 9999) :
    Calls Try.prog 106 #[.int .i64 (b : Int), .int .i64 (d : Int)] w fun e w' => e = .returned (.int .i64 (trN b d : Int)) ∧ w' = w := by
  go_enter Try.func106, Try.ntmps106
  go_wp2_with fail
  go_loopw [0, 1] (fun bv dv wr => ∃ (x y : Nat), bv = .int .i64 (x : Int) ∧ dv = .int .i64 (y : Int) ∧ x ≤ 1000000 ∧ (1 ≤ y ∧ y ≤ 9999) ∧ Hid (trN x y = trN b d) ∧ wr = w) (fun _ dv _ => (intOf dv).toNat)
  case atStart => exact ⟨b, d, rfl, rfl, hb, hd, Lib.hid rfl, rfl⟩
  case round =>
    obtain ⟨x, y, rfl, rfl, hx, hy, HT, rfl⟩ := hrel
    by_cases hlt : 9 < y
    · have z1 : (9 : Int) < (y : Int) := by omega
      have HD1 : Hid ((x : Int) / 10 = ((x / 10 : Nat) : Int)) := Lib.hid (by omega)
      have HD2 : Hid ((y : Int) / 10 = ((y / 10 : Nat) : Int)) := Lib.hid (by omega)
      have HT2 : Hid (trN (x / 10) (y / 10) = trN b d) := Lib.hid (by rw [← trN_big hlt]; exact HT.out)
      go_wp2_with fail
      go_roundw
      case rel => exact ⟨x / 10, y / 10, by first | rfl | rw [HD1.out], by first | rfl | rw [HD2.out], by omega, by omega, HT2, trivial⟩
      case measure => simp [intOf]; omega
    · have hs := trN_small (b := x) hlt
      have z3 : ((y : Int) == 0) = false := beq_eq_false_iff_ne.2 (by omega)
      have z4 : (y : Int) ≠ 0 := by omega
      have z5 : ¬ (9 : Int) < (y : Int) := by omega
      have hq : x / y ≤ x := Nat.div_le_self _ _
      obtain ⟨Y, hY⟩ : ∃ Y : Int, (y : Int) = Y := ⟨_, rfl⟩
      obtain ⟨X, hX⟩ : ∃ X : Int, (x : Int) = X := ⟨_, rfl⟩
      obtain ⟨q, hqe⟩ : ∃ q : Nat, x / y = q := ⟨_, rfl⟩
      have hw : IntKind.i64.wrap (X.tdiv Y) = (q : Int) := by rw [← hX, ← hY, Int.tdiv_eq_ediv_of_nonneg (by omega), ← Int.natCast_ediv, hqe, IntKind.wrap_i64]; omega
      have HR : Hid ((trN b d : Int) = min (q : Int) 9) := Lib.hid (by rw [← HT.out, hs, hqe]; omega)
      rw [hY] at z3 z4 z5 ⊢
      rw [hX]
      clear hs hq hqe hX hY
      go_wp2_with fail
      go_ret
      exact ⟨by rw [HR.out]; rfl, rfl⟩
/-- The row of steps, as it is filled. -/
theorem fill_steps (d r0 : Int) (L : List Int) : ∃ F : Nat → List Tr, F 0 = List.replicate L.length (⟨0, 0, 0⟩ : Tr) ∧ F L.length = stL d r0 L ∧ (∀ k, k ≤ L.length → (F k).length = L.length) ∧ ∀ k (h : k < L.length), (F k).set k (mkS d (rsL d r0 (L.take k)) L[k]) = F (k + 1) := by
  have hl := stL_len d r0 L
  refine ⟨flS (⟨0, 0, 0⟩ : Tr) (stL d r0 L), by rw [flS_zero, hl], by rw [← hl, flS_end], fun k hk => by rw [flS_len _ _ _ (by omega), hl], fun k h => ?_⟩
  have := flS_set (⟨0, 0, 0⟩ : Tr) (stL d r0 L) k (by omega)
  rw [stL_at d r0 L k h] at this; exact this
set_option maxRecDepth 100000 in
set_option maxHeartbeats 3200000 in
theorem stepsOf_any (v : Value) (L : List Int) (r0 d : Int) (w : World) (h : RowsR 1 inC w v L) (hL : L.length ≤ 1000) (hr : 0 ≤ r0 ∧ r0 < d) (hx : ∀ i (h : i < L.length), 0 ≤ L[i] ∧ L[i] ≤ 9) (hd : 1 ≤ d ∧ d ≤ 9999) :
    Calls Try.prog 102 #[.int .i64 r0, v, .int .i64 d] w fun e w' => (∃ sq, e = .returned sq ∧ w'.ownsRow w.heap.size 57 3 sq (stL d r0 L).length (flatC trC (stL d r0 L))) ∧ Below w.heap.size w w' := by
  obtain ⟨i0, hi, hz0, hz1, hz2⟩ := info_parts Try.infoTri
  obtain ⟨a, cp, rfl⟩ := h.form
  have R1 := Lib.hid h.at
  have HX := Lib.hid hx
  have hTl := stL_len d r0 L
  have HRB := Lib.hid (fun k => rsL_bd (d := d) hd.1 (L.take k) r0 hr)
  obtain ⟨F, HS0, HSE, HSL, HST⟩ := fill_steps d r0 L
  have HRT := Lib.hid (fun k h => rsL_take d r0 L k h)
  have HR0 : Hid (rsL d r0 (L.take 0) = r0) := Lib.hid rfl
  rw [hTl, ← HSE]
  have HS0 := Lib.hid HS0
  have HSL := Lib.hid HSL
  have HST := Lib.hid HST
  clear HSE hTl
  clear h hx
  go_enter Try.func102, Try.ntmps102
  go_wp2_with (at_make; refine wpList_make_full _ rfl _ _ 30 rfl w.heap.size 57 i0 (.agg #[.int .i64 0, .int .i64 0, .int .i64 0]) 3 Try.underlying30 hi hz0 hz1 _ _ _ _ L.length rfl rfl rfl rfl ?b2 ?b3 (Nat.le_refl _) ?_)
  case b2 => rw [hz2]; omega
  case b3 => unfold maxLen; omega
  intro w1 hown hgrow
  have hm : (madeCells #[Value.int .i64 0, .int .i64 0, .int .i64 0] (L.length * 3)).toList = flatC trC (F 0) := by rw [HS0.out]; exact made_tri _
  rw [hm] at hown
  have HO0 := Lib.hid hown
  have HB0 : Hid (Below w.heap.size w w1) := Lib.hid ((Below.refl _ _).grown hgrow (Nat.le_refl _) (fun k h => by cases h))
  clear hown hgrow hm
  go_wp2_with fail
  go_loopw [0, 15] (fun rv iv wr => ∃ (k : Nat) (r : Int), k ≤ L.length ∧ iv = .int .i64 (k : Int) ∧ rv = .int .i64 r ∧ Hid (r = rsL d r0 (L.take k)) ∧ wr.ownsRow w.heap.size 57 3 (.slice (some ⟨w.heap.size, 0, none⟩) L.length L.length) L.length (flatC trC (F k)) ∧ Below w.heap.size w wr) (fun _ iv _ => L.length - (intOf iv).toNat)
  case atStart => exact ⟨0, r0, Nat.zero_le _, rfl, rfl, Lib.hid HR0.out.symm, HO0.out, HB0.out⟩
  case round =>
    obtain ⟨k, r, hk, rfl, rfl, HRR, hO, hb⟩ := hrel
    have HO := Lib.hid hO
    have HB := Lib.hid hb
    by_cases hlt : k < L.length
    · obtain ⟨b1, o1, rfl, l1, k1⟩ := R1.out _ hb k hlt
      have c0 : wr.cell? ⟨b1, o1 + k, none⟩ = some (.int .i64 L[k]) := by have := k1 0 (by omega); rw [Nat.mul_one] at this; exact this
      have hx := HX.out k hlt
      have hr := HRB.out k
      have hrt := HRT.out k hlt
      rw [← HRR.out] at hr hrt
      have hst := HST.out k hlt
      rw [← HRR.out] at hst
      obtain ⟨x, hxe⟩ : ∃ x, L[k] = x := ⟨_, rfl⟩
      rw [hxe] at c0 hx hst hrt
      obtain ⟨N, q, v, e1, e2, e3, e4, e5, e6, e7, e8, e9, e10, e11, e12⟩ := step_facts hr hx hd
      rw [e11] at hst
      rw [e12] at hrt
      have HN := Lib.hid hst
      have HRN := Lib.hid hrt.symm
      have HC := Lib.hid (fun w => stepOf_any r x d w hr hx hd N q v e11)
      have z1 : (0 : Int) ≤ (k : Int) := by omega
      have z2 : (k : Int) < (L.length : Int) := by omega
      clear k1 hO hb hx hr hrt hst hxe e1 e2 e3 e4 e5 e6 e7 e8 e9 e10 e11 e12
      go_wp2_with fail
      refine (HC.out wr).mono ?_
      rintro e w2 ⟨rfl, hb2⟩
      have HO2 := Lib.hid (own_below HO.out hb2)
      have HB2 : Hid (Below w.heap.size w w2) := Lib.hid (HB.out.trans (hb2.mono HB.out.size))
      have hxl : (flatC trC (F k)).length = L.length * 3 := by rw [flatC_len trC_len, HSL.out k hk]
      obtain ⟨u0, d0⟩ : ∃ u, w2.cell? ⟨w.heap.size, k * 3, none⟩ = some u := ⟨_, (HO2.out.cellAt (k * 3 + 0) (by omega)).trans (List.getElem?_eq_getElem (by omega))⟩
      have f0 : w2.frozen? ⟨w.heap.size, k * 3, none⟩ = false := HO2.out.frozenAt _
      obtain ⟨u1, d1⟩ : ∃ u, w2.cell? ⟨w.heap.size, k * 3 + 1, none⟩ = some u := ⟨_, (HO2.out.cellAt (k * 3 + 1) (by omega)).trans (List.getElem?_eq_getElem (by omega))⟩
      have f1 : w2.frozen? ⟨w.heap.size, k * 3 + 1, none⟩ = false := HO2.out.frozenAt _
      obtain ⟨u2, d2⟩ : ∃ u, w2.cell? ⟨w.heap.size, k * 3 + 2, none⟩ = some u := ⟨_, (HO2.out.cellAt (k * 3 + 2) (by omega)).trans (List.getElem?_eq_getElem (by omega))⟩
      have f2 : w2.frozen? ⟨w.heap.size, k * 3 + 2, none⟩ = false := HO2.out.frozenAt _
      clear hb2 c0 hxl
      go_wp2_with fail
      refine ⟨⟨k + 1, v, by omega, by go_num, rfl, HRN, ?_, ((HB2.out.setCell (Nat.le_refl _) _).setCell (Nat.le_refl _) _).setCell (Nat.le_refl _) _⟩, by simp [intOf]; omega⟩
      have h6 := (((HO2.out.stored (k * 3) (.int .i64 N)).1.stored (k * 3 + 1) (.int .i64 q)).1.stored (k * 3 + 2) (.int .i64 v)).1
      rw [set3C (F k) k (by rw [HSL.out k hk]; exact hlt), HN.out] at h6
      exact h6
    · obtain rfl : k = L.length := by omega
      clear hO hb
      go_wp2_with fail
      go_ret
      exact ⟨⟨_, rfl, HO.out⟩, HB.out⟩
theorem rowsR_nil {α : Type} (c : Nat) (cells : α → List Value) (w : World) (a : Option Addr) : RowsR c cells w (.slice a 0 0) ([] : List α) := ⟨_, 0, rfl, ⟨Nat.zero_le _, Nat.le_refl _⟩, fun h => absurd h (by simp)⟩
set_option maxRecDepth 100000 in
set_option maxHeartbeats 800000 in
theorem impDivisionSteps_yes (m d : Nat) (w : World) (hm : m ≤ 99999999) (hd : 1 ≤ d ∧ d ≤ 9999) :
    Calls Try.prog 48 #[.int .i64 (m : Int), .int .i64 (d : Int)] w fun e w' => (∃ sq, e = .returned (.tuple #[sq, .bool true]) ∧ w'.ownsRow w.heap.size 57 3 sq (stL (d : Int) 0 (dgL m)).length (flatC trC (stL (d : Int) 0 (dgL m)))) ∧ Below w.heap.size w w' := by
  have HOK : Hid (okD (m : Int) (d : Int)) := Lib.hid ⟨by omega, by omega⟩
  have hl := dgL_len 8 m (by omega)
  have HG := Lib.hid (fun w => digitsOf_any m w (by omega))
  have HS := Lib.hid (fun v w h => stepsOf_any v (dgL m) 0 (d : Int) w h (by omega) ⟨by omega, by omega⟩ (fun i h => dgL_at m i h) ⟨by omega, by omega⟩)
  clear hl
  go_enter Try.func48, Try.ntmps48
  go_wp2_with fail
  refine (canD_yes _ _ w HOK.out).mono ?_
  rintro e w9 ⟨rfl, rfl⟩
  go_wp2_with fail
  refine (HG.out w).mono ?_
  rintro e w1 ⟨⟨sd, rfl, od⟩, hb1⟩
  have HR1 := Lib.hid (RowsR.of_own inC_len od)
  have HB1 := Lib.hid hb1
  clear od hb1
  go_wp2_with fail
  refine (HS.out sd w1 HR1.out).mono ?_
  rintro e w2 ⟨⟨sq, rfl, ho⟩, hb2⟩
  have HO := Lib.hid (own_mono ho HB1.out.size)
  have HB := Lib.hid (HB1.out.trans (hb2.mono HB1.out.size))
  clear ho hb2
  go_wp2_with fail
  go_ret2
  exact ⟨⟨_, rfl, HO.out⟩, HB.out⟩
set_option maxRecDepth 100000 in
set_option maxHeartbeats 800000 in
theorem impDivisionSteps_no (a b : Int) (w : World) (h : ¬ okD a b) :
    Calls Try.prog 48 #[.int .i64 a, .int .i64 b] w fun e w' => (∃ sq, e = .returned (.tuple #[sq, .bool false]) ∧ w'.ownsRow w.heap.size 57 3 sq ([] : List Tr).length (flatC trC ([] : List Tr))) ∧ Below w.heap.size w w' := by
  go_enter Try.func48, Try.ntmps48
  go_wp2_with fail
  refine (canD_no _ _ w h).mono ?_
  rintro e w9 ⟨rfl, rfl⟩
  go_wp2_with fail
  go_ret2
  exact ⟨⟨_, rfl, World.ownsRow_made (base := w.heap.size) (e := 57) (size := 3) w #[] 0 (Nat.le_refl _) (Nat.zero_le _) (by simp)⟩, (Below.refl _ _).alloc (Nat.le_refl _) _⟩
set_option maxRecDepth 100000 in
set_option maxHeartbeats 800000 in
theorem impQuotientOf_yes (a b : Int) (w : World) (h : okD a b) :
    Calls Try.prog 50 #[.int .i64 a, .int .i64 b] w fun e w' => e = .returned (.tuple #[.int .i64 (a / b), .int .i64 (a % b), .bool true]) ∧ Below w.heap.size w w' := by
  have HK := Lib.hid h
  obtain ⟨f1, f2, f3, f4, f5, f6⟩ := div_facts (b := a) (d := b) ⟨h.1.1, by have := h.1.2; omega⟩ h.2.1
  have z1 : (b == 0) = false := beq_eq_false_iff_ne.2 (by have := h.2.1; omega)
  have z2 : b ≠ 0 := by have := h.2.1; omega
  have z3 : 0 ≤ a := h.1.1
  have z4 : a ≤ 99999999 := h.1.2
  have z5 : 0 < b := by have := h.2.1; omega
  clear h
  obtain ⟨q, hq⟩ : ∃ q, a / b = q := ⟨_, rfl⟩
  obtain ⟨r, hr⟩ : ∃ r, a % b = r := ⟨_, rfl⟩
  rw [hq] at f1 f3 f4
  rw [hr] at f2 f5 f6
  go_enter Try.func50, Try.ntmps50
  go_wp2_with fail
  refine (canD_yes _ _ w HK.out).mono ?_
  rintro e w9 ⟨rfl, rfl⟩
  go_wp2_with fail
  go_quiet (fail)
  rename Nat => nq
  go_wp2_with fail
  exact bodyPost_ret (v := .tuple #[.int .i64 q, .int .i64 r, .bool true]) (by simp [results, Try.results50, go_sem]) rfl ⟨by first | rfl | rw [hq, hr], bl_drewN (Below.refl _ _) nq⟩
set_option maxRecDepth 100000 in
set_option maxHeartbeats 800000 in
theorem impQuotientOf_no (a b : Int) (w : World) (h : ¬ okD a b) :
    Calls Try.prog 50 #[.int .i64 a, .int .i64 b] w fun e w' => e = .returned (.tuple #[.int .i64 0, .int .i64 0, .bool false]) ∧ Below w.heap.size w w' := by
  go_enter Try.func50, Try.ntmps50
  go_wp2_with fail
  refine (canD_no _ _ w h).mono ?_
  rintro e w9 ⟨rfl, rfl⟩
  go_wp2_with fail
  exact bodyPost_ret (v := .tuple #[.int .i64 0, .int .i64 0, .bool false]) (by simp [results, Try.results50, go_sem]) rfl ⟨rfl, Below.refl _ _⟩
end Go.Proofs.Ythmbehknacjodaa
