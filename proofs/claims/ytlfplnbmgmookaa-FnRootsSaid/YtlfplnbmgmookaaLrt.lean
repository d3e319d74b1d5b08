/- The law FnRoots. -/
import Derived.Test.YtlfplnbmgmookaaKm
import Derived.Test.YtlfplnbmgmookaaVin
import Derived.Test.YtlfplnbmgmookaaVtr
import Derived.Test.YtlfplnbmgmookaaDrt
import Derived.Test.YtlfplnbmgmookaaJr3
import Derived.Test.YtlfplnbmgmookaaJr4
import Derived.Test.YtlfplnbmgmookaaRm2
namespace Go.Proofs.Ytlfplnbmgmookaa
set_option linter.unusedVariables false
open Go.RowKit
set_option linter.unusedSimpArgs false

def TrB (f : Nat) (av : Array Value) (w : World) (ms : List Tr) (b : Bool) : Prop :=
  Calls Try.prog f av w fun e w' => (∃ v, e = .returned (.tuple #[v, .bool b]) ∧ RowsR 3 trC w' v ms) ∧ Below w.heap.size w w'
theorem ofOwnT {f : Nat} {av : Array Value} {w : World} {ms : List Tr} {b : Bool} (h : Calls Try.prog f av w fun e w' => (∃ v, e = .returned (.tuple #[v, .bool b]) ∧ w'.ownsRow w.heap.size 31 3 v ms.length (flatC trC ms)) ∧ Below w.heap.size w w') : TrB f av w ms b :=
  h.mono fun _ _ ⟨⟨v, he, ho⟩, hb⟩ => ⟨⟨v, he, RowsR.of_own trC_len ho⟩, hb⟩
def I2B (f : Nat) (av : Array Value) (w : World) (m n : Int) (b : Bool) : Prop :=
  Calls Try.prog f av w fun e w' => e = .returned (.tuple #[.int .i64 m, .int .i64 n, .bool b]) ∧ Below w.heap.size w w'
def BoB (f : Nat) (av : Array Value) (w : World) (c b : Bool) : Prop :=
  Calls Try.prog f av w fun e w' => e = .returned (.tuple #[.bool c, .bool b]) ∧ Below w.heap.size w w'
/-- What the law asks of root steps. -/
def RtF (T : List Tr) (Q E : Nat → Int) : Prop := ∀ k (h : k < T.length), ∃ X, IntKind.i64.wrap (10 * Q k) = X ∧ IntKind.i64.wrap (X + T[k].k) = Q (k + 1) ∧ E (k + 1) = T[k].v
theorem rs_same (x : Int) : ∃ (r s : Int) (b : Bool) (T : List Tr),
    (∀ w, I2B 16 #[.int .i64 x] w r s b) ∧ (∀ w, I2B 17 #[.int .i64 x] w r s b) ∧ (∀ w, TrB 18 #[.int .i64 x] w T b) ∧ (∀ w, TrB 19 #[.int .i64 x] w T b) ∧
    (b = true → ∃ (Q E : Nat → Int) (S P nx : Int), T.length ≤ 8 ∧ (∀ w, InB 21 #[.int .i64 x] w r true) ∧ (∀ w, InB 22 #[.int .i64 x] w nx true) ∧ (∀ w, BoB 23 #[.int .i64 x] w (s == 0) true) ∧
      Q 0 = 0 ∧ Q T.length = r ∧ E 0 = 0 ∧ E T.length = s ∧ RtF T Q E ∧ IntKind.i64.wrap (r * r) = S ∧ IntKind.i64.wrap (S + s) = x ∧ IntKind.i64.wrap (r + 1) = P ∧ IntKind.i64.wrap (P * P) = nx ∧ x < nx) := by
  by_cases h : okN x
  · obtain ⟨n, rfl, hn⟩ := okN_nat h
    have hr := isRt_rt n
    obtain ⟨g1, g2, g3, g4⟩ := sq_facts hr hn
    have h8 := pg_len (n := n) (by omega)
    have hrp := rtP_root hr
    have hsq : ((n : Int) - (rt n : Int) * (rt n : Int) == 0) = decide (rt n * rt n = n) := by rw [g3, Bool.eq_iff_iff, beq_iff_eq, decide_eq_true_iff]; omega
    have hnx : (rt n + 1) * (rt n + 1) ≤ 10000 * 10000 := Nat.mul_le_mul (by omega) (by omega)
    have ex : ((rt n : Int) + 1) * ((rt n : Int) + 1) = (((rt n + 1) * (rt n + 1) : Nat) : Int) := by rw [Int.natCast_mul, Int.natCast_add]; rfl
    have hlt := hr.2
    refine ⟨(rt n : Int), (n : Int) - (rt n : Int) * (rt n : Int), true, rtS (dgB 100 n), fun w => impWholeRoot_yes n _ w hr hn, fun w => speWholeRoot_yes n _ w hr hn, fun w => ofOwnT (impRootSteps_yes n w hn), fun w => speRootSteps_yes n w hn, fun _ =>
      ⟨fun k => (rtP ((dgB 100 n).take k)).1, fun k => (rtP ((dgB 100 n).take k)).2, (rt n : Int) * (rt n : Int), (rt n : Int) + 1, ((rt n : Int) + 1) * ((rt n : Int) + 1), by rw [rtS_len]; exact h8, fun w => impOddsTaken_yes n _ w hr hn, fun w => impNextSquare_yes n _ w hr hn, fun w => by rw [hsq]; exact impIsSquare_yes n _ w hr hn,
        rfl, by rw [rtS_len]; dsimp only; rw [List.take_length, hrp], rfl, by rw [rtS_len]; dsimp only; rw [List.take_length, hrp], fun k hk => ?_, g2, ?_, ?_, ?_, ?_⟩⟩
    · have hkL : k < (dgB 100 n).length := by rw [rtS_len] at hk; exact hk
      obtain ⟨H, N, A, E, V, T2, G, e1, e2, e3, e4, e5, e6, e7, e8, e9⟩ := root_at h8 (pg_bd n) k hkL (T := (rtP ((dgB 100 n).take k)).1) (R := (rtP ((dgB 100 n).take k)).2) rfl
      refine ⟨E, e4, ?_, ?_⟩
      · dsimp only; rw [rtS_at _ k hkL, e8, e9]; exact e5
      · dsimp only; rw [rtS_at _ k hkL, e8, e9]
    · rw [IntKind.wrap_i64]; omega
    · rw [IntKind.wrap_i64]; omega
    · rw [ex, IntKind.wrap_i64]; omega
    · rw [ex]; omega
  · exact ⟨0, 0, false, [], fun w => impWholeRoot_no x w h, fun w => speWholeRoot_no x w h, fun w => ofOwnT (impRootSteps_no x w h), fun w => speRootSteps_no x w h, fun h => by cases h⟩
theorem od_same (x : Int) : ∃ (c : Int) (b : Bool), (∀ w, InB 21 #[.int .i64 x] w c b) ∧ (∀ w, InB 25 #[.int .i64 x] w c b) := by
  by_cases h : okN x
  · obtain ⟨n, rfl, hn⟩ := okN_nat h
    exact ⟨_, true, fun w => impOddsTaken_yes n _ w (isRt_rt n) hn, fun w => speOddsTaken_yes n _ w (isRt_rt n) hn⟩
  · exact ⟨0, false, fun w => impOddsTaken_no x w h, fun w => speOddsTaken_no x w h⟩
theorem vlH_take (L : List Int) (k : Nat) (h : k < L.length) : vlH (L.take (k + 1)) = 100 * vlH (L.take k) + L[k] := by rw [takeS L k h, vlH_snoc]
theorem vlH_bd (L : List Int) (hx : ∀ x ∈ L, 0 ≤ x ∧ x ≤ 99) : ∀ k, 0 ≤ vlH (L.take k) ∧ vlH (L.take k) < ((100 ^ k : Nat) : Int)
  | 0 => by simp [vlH]
  | k + 1 => by
    have ih := vlH_bd L hx k
    rw [Nat.pow_succ]
    by_cases hk : k < L.length
    · have := hx _ (List.getElem_mem hk)
      rw [vlH_take L k hk]; omega
    · rw [show L.take (k + 1) = L.take k by rw [List.take_of_length_le (by omega), List.take_of_length_le (by omega)]]; omega
/-- What the law asks of pairs. -/
def PaF (ps : List Int) (V : Nat → Int) : Prop := ∀ k (h : k < ps.length), ∃ X, IntKind.i64.wrap (100 * V k) = X ∧ IntKind.i64.wrap (X + ps[k]) = V (k + 1)
theorem pp_same (y : Int) : ∃ (ps : List Int) (b : Bool) (V : Nat → Int), (∀ w, IsB 27 #[.int .i64 y] w ps b) ∧ (∀ w, IsB 28 #[.int .i64 y] w ps b) ∧ ps.length ≤ 8 ∧ V 0 = 0 ∧ (b = true → V ps.length = y) ∧ PaF ps V := by
  by_cases h : okN y
  · obtain ⟨n, rfl, hn⟩ := okN_nat h
    have h8 := pg_len (n := n) (by omega)
    refine ⟨dgB 100 n, true, fun k => vlH ((dgB 100 n).take k), fun w => ofOwnI (impPairsOf_yes n w hn), fun w => spePairsOf_yes n w hn, h8, rfl, fun _ => by dsimp only; rw [List.take_length, vlH_dgB], fun k hk => ⟨_, rfl, ?_⟩⟩
    have hb := vlH_bd _ (pg_bd n) k
    have hx := pg_bd n _ (List.getElem_mem hk)
    have hp : (100 : Nat) ^ k ≤ 100 ^ 8 := Nat.pow_le_pow_right (by omega) (by omega)
    dsimp only
    rw [vlH_take _ k hk]
    have h1 : IntKind.i64.wrap (100 * vlH ((dgB 100 n).take k)) = 100 * vlH ((dgB 100 n).take k) := by rw [IntKind.wrap_i64]; omega
    rw [h1, IntKind.wrap_i64]; omega
  · exact ⟨[], false, fun _ => 0, fun w => ofOwnI (impPairsOf_no y w h), fun w => spePairsOf_no y w h, by simp, rfl, fun h => (by cases h), fun k h => by simp at h⟩
set_option maxRecDepth 100000 in
set_option maxHeartbeats 12800000 in
theorem lawRoots (w : World) (ad : Option Addr) (cp : Nat) (L : List UInt8) (h : SlR w (.slice ad L.length cp) (L.map fun c => .int .u8 (c.toNat : Int))) :
    Calls Try.prog 3 #[.slice ad L.length cp] w fun e w' => e = .returned (.bool true) ∧ Below w.heap.size w w' := by
  have hm : L.length ≤ 9223372036854775807 := by
    obtain ⟨a, c, e, ⟨m, _⟩, _⟩ := h
    rw [List.length_map] at m
    exact m
  have HB0 : Hid (Below w.heap.size w w) := Lib.hid (Below.refl _ _)
  have HRk0 := Lib.hid (h)
  clear h
  by_cases hbig : (65536 : Int) < (L.length : Int)
  · go_enter Try.func3, Try.ntmps3
    go_wp2_with fail
    refine (vBig_any ad L.length cp _ true (decide_eq_true hbig)).mono ?_
    rintro e w' ⟨rfl, hw⟩
    subst w'
    go_wp2_with fail
    go_ret
    exact ⟨rfl, Below.refl _ _⟩
  · go_enter Try.func3, Try.ntmps3
    go_wp2_with fail
    refine (vBig_any ad L.length cp _ false (decide_eq_false (by omega))).mono ?_
    rintro e w' ⟨rfl, hw⟩
    subst w'
    go_wp2_with fail
    refine (drawWholeRoot_any _ L _ HRk0.out).mono ?_
    rintro e w1 ⟨⟨x, rfl⟩, hb⟩
    have HB1 : Hid (Below w.heap.size w w1) := Lib.hid (HB0.out.trans (hb.mono HB0.out.size))
    have HZ1 : Hid (w.heap.size ≤ w1.heap.size) := Lib.hid hb.size
    have HRk1 := Lib.hid (HRk0.out.below HB1.out (Nat.le_refl _))
    clear hb
    obtain ⟨r, s, b, T, h1, h2, h3, h4, hY⟩ := rs_same x
    have HI0 := Lib.hid h1
    have HS0 := Lib.hid h2
    have HI1 := Lib.hid h3
    have HS1 := Lib.hid h4
    clear h1 h2 h3 h4
    have hb1 : (b != b) = false := by simp
    have hr1 : (r != r) = false := by simp
    have hs1 : (s != s) = false := by simp
    go_wp2_with fail
    refine (HI0.out _).mono ?_
    rintro e w2 ⟨rfl, hb⟩
    have HB2 : Hid (Below w.heap.size w w2) := Lib.hid (HB1.out.trans (hb.mono HB1.out.size))
    have HZ2 : Hid (w1.heap.size ≤ w2.heap.size) := Lib.hid hb.size
    have HRk2 := Lib.hid (HRk0.out.below HB2.out (Nat.le_refl _))
    clear hb
    go_wp2_with fail
    refine (HS0.out _).mono ?_
    rintro e w3 ⟨rfl, hb⟩
    have HB3 : Hid (Below w.heap.size w w3) := Lib.hid (HB2.out.trans (hb.mono HB2.out.size))
    have HZ3 : Hid (w2.heap.size ≤ w3.heap.size) := Lib.hid hb.size
    have HRk3 := Lib.hid (HRk0.out.below HB3.out (Nat.le_refl _))
    clear hb
    go_wp2_with fail
    refine (HI1.out _).mono ?_
    rintro e w4 ⟨⟨v, rfl, ho⟩, hb⟩
    have HB4 : Hid (Below w.heap.size w w4) := Lib.hid (HB3.out.trans (hb.mono HB3.out.size))
    have HZ4 : Hid (w3.heap.size ≤ w4.heap.size) := Lib.hid hb.size
    have HRk4 := Lib.hid (HRk0.out.below HB4.out (Nat.le_refl _))
    clear hb
    obtain ⟨qao, qco, rfl⟩ := ho.form
    have HRo4 := Lib.hid (ho)
    have HBs4_4 : Hid (Below w4.heap.size w4 w4) := Lib.hid (Below.refl _ _)
    clear ho
    go_wp2_with fail
    refine (HS1.out _).mono ?_
    rintro e w5 ⟨⟨v, rfl, ho⟩, hb⟩
    have HB5 : Hid (Below w.heap.size w w5) := Lib.hid (HB4.out.trans (hb.mono HB4.out.size))
    have HZ5 : Hid (w4.heap.size ≤ w5.heap.size) := Lib.hid hb.size
    have HRk5 := Lib.hid (HRk0.out.below HB5.out (Nat.le_refl _))
    have HRo5 := Lib.hid (HRo4.out.below hb (Nat.le_refl _))
    have HBs4_5 : Hid (Below w4.heap.size w4 w5) := Lib.hid (HBs4_4.out.trans (hb.mono HBs4_4.out.size))
    clear hb
    obtain ⟨qap, qcp, rfl⟩ := ho.form
    have HRp5 := Lib.hid (ho)
    have HBs5_5 : Hid (Below w5.heap.size w5 w5) := Lib.hid (Below.refl _ _)
    clear ho
    go_wp2_with fail
    refine (vTriples_yes _ _ T _ HRo5.out HRp5.out).mono ?_
    rintro e w6 ⟨rfl, hb⟩
    have HB6 : Hid (Below w.heap.size w w6) := Lib.hid (HB5.out.trans (hb.mono HB5.out.size))
    have HZ6 : Hid (w5.heap.size ≤ w6.heap.size) := Lib.hid hb.size
    have HRk6 := Lib.hid (HRk0.out.below HB6.out (Nat.le_refl _))
    have HRo6 := Lib.hid (HRo5.out.below hb (Nat.le_refl _))
    have HRp6 := Lib.hid (HRp5.out.below hb (Nat.le_refl _))
    have HBs4_6 : Hid (Below w4.heap.size w4 w6) := Lib.hid (HBs4_5.out.trans (hb.mono HBs4_5.out.size))
    have HBs5_6 : Hid (Below w5.heap.size w5 w6) := Lib.hid (HBs5_5.out.trans (hb.mono HBs5_5.out.size))
    clear hb
    cases b with
    | true =>
      obtain ⟨Q, E, S, P, nx, hl8, hod, hnx, hsq, hq0, hqn, he0, hen, hrf, hw1, hw2, hw3, hw4, hlt9⟩ := hY rfl
      have HOD := Lib.hid hod
      have HNX := Lib.hid hnx
      have HQ0 := Lib.hid hq0
      have HQN := Lib.hid hqn
      have HE0 := Lib.hid he0
      have HEN9 := Lib.hid hen
      have HRF := Lib.hid hrf
      have HW := Lib.hid (And.intro hw1 (And.intro hw2 (And.intro hw3 (And.intro hw4 hlt9))))
      obtain ⟨z, hz⟩ : ∃ z : Bool, (s == 0) = z := ⟨_, rfl⟩
      rw [hz] at hsq
      have HSQ := Lib.hid hsq
      have HZ := Lib.hid hz
      clear hY hod hnx hq0 hqn he0 hen hrf hw1 hw2 hw3 hw4 hlt9 hsq hz
      have hml : T.length ≤ 9223372036854775807 := by omega
      have HRO := Lib.hid HRo6.out.at
      go_wp2_with fail
      go_loopw [14, 15, 16] (fun nv lv iv wr => ∃ j : Nat, j ≤ T.length ∧ nv = .int .i64 (Q j) ∧ lv = .int .i64 (E j) ∧ iv = .int .i64 j ∧ Below w6.heap.size w6 wr) (fun _ _ iv _ => T.length - (intOf iv).toNat)
      case atStart => exact ⟨0, Nat.zero_le _, by rw [HQ0.out], by rw [HE0.out], rfl, Below.refl _ _⟩
      case round =>
        rename World => w7
        obtain ⟨j, hjk, rfl, rfl, rfl, hb⟩ := hrel
        have HBL := Lib.hid hb
        have z1 : (0 : Int) ≤ (j : Int) := by omega
        by_cases hlt : j < T.length
        · obtain ⟨b0, o0, rfl, l0, k0⟩ := HRO.out _ hb j hlt
          have p1 : w7.cell? ⟨b0, o0 + j * 3 + 1, none⟩ = some (.int .i64 T[j].k) := k0 1 (by omega)
          have p2 : w7.cell? ⟨b0, o0 + j * 3 + 2, none⟩ = some (.int .i64 T[j].v) := k0 2 (by omega)
          obtain ⟨X, g1, g2, g3⟩ := HRF.out j hlt
          obtain ⟨K, hK⟩ : ∃ K, T[j].k = K := ⟨_, rfl⟩
          obtain ⟨U, hU⟩ : ∃ U, T[j].v = U := ⟨_, rfl⟩
          obtain ⟨A, hA⟩ : ∃ A, Q j = A := ⟨_, rfl⟩
          obtain ⟨C, hC⟩ : ∃ C, Q (j + 1) = C := ⟨_, rfl⟩
          rw [hK] at p1 g2
          rw [hU] at p2 g3
          rw [hA] at g1 ⊢
          rw [hC] at g2
          have HG1 := Lib.hid hC
          have HG2 := Lib.hid g3
          have z2 : (j : Int) < (T.length : Int) := by omega
          clear k0 g3 hK hU hA hC hb
          go_wp2_with fail
          go_roundw
          case rel => exact ⟨j + 1, by omega, by rw [HG1.out], by rw [HG2.out], by go_num, HBL.out⟩
          case measure => simp [intOf]; omega
        · obtain rfl : j = T.length := by omega
          rw [HQN.out, HEN9.out]
          have z2 : ¬ ((T.length : Int) < (T.length : Int)) := by omega
          have hb := HBL.out
          have HB7 : Hid (Below w.heap.size w w7) := Lib.hid (HB6.out.trans (hb.mono HB6.out.size))
          have HZ7 : Hid (w6.heap.size ≤ w7.heap.size) := Lib.hid hb.size
          have HRk7 := Lib.hid (HRk0.out.below HB7.out (Nat.le_refl _))
          have HRo7 := Lib.hid (HRo6.out.below hb (Nat.le_refl _))
          have HBs4_7 : Hid (Below w4.heap.size w4 w7) := Lib.hid (HBs4_6.out.trans (hb.mono HBs4_6.out.size))
          clear hb
          go_wp2_with fail
          refine (HOD.out _).mono ?_
          rintro e w8 ⟨rfl, hb⟩
          have HB8 : Hid (Below w.heap.size w w8) := Lib.hid (HB7.out.trans (hb.mono HB7.out.size))
          have HZ8 : Hid (w7.heap.size ≤ w8.heap.size) := Lib.hid hb.size
          have HRk8 := Lib.hid (HRk0.out.below HB8.out (Nat.le_refl _))
          have HRo8 := Lib.hid (HRo7.out.below hb (Nat.le_refl _))
          have HBs4_8 : Hid (Below w4.heap.size w4 w8) := Lib.hid (HBs4_7.out.trans (hb.mono HBs4_7.out.size))
          clear hb
          go_wp2_with fail
          refine (HNX.out _).mono ?_
          rintro e w9 ⟨rfl, hb⟩
          have HB9 : Hid (Below w.heap.size w w9) := Lib.hid (HB8.out.trans (hb.mono HB8.out.size))
          have HZ9 : Hid (w8.heap.size ≤ w9.heap.size) := Lib.hid hb.size
          have HRk9 := Lib.hid (HRk0.out.below HB9.out (Nat.le_refl _))
          have HRo9 := Lib.hid (HRo8.out.below hb (Nat.le_refl _))
          have HBs4_9 : Hid (Below w4.heap.size w4 w9) := Lib.hid (HBs4_8.out.trans (hb.mono HBs4_8.out.size))
          clear hb
          go_wp2_with fail
          refine (HSQ.out _).mono ?_
          rintro e w10 ⟨rfl, hb⟩
          have HB10 : Hid (Below w.heap.size w w10) := Lib.hid (HB9.out.trans (hb.mono HB9.out.size))
          have HZ10 : Hid (w9.heap.size ≤ w10.heap.size) := Lib.hid hb.size
          have HRk10 := Lib.hid (HRk0.out.below HB10.out (Nat.le_refl _))
          have HRo10 := Lib.hid (HRo9.out.below hb (Nat.le_refl _))
          have HBs4_10 : Hid (Below w4.heap.size w4 w10) := Lib.hid (HBs4_9.out.trans (hb.mono HBs4_9.out.size))
          clear hb
          obtain ⟨hw1, hw2, hw3, hw4, hlt9⟩ := HW.out
          have hz := HZ.out
          have hxx : (x != x) = false := by simp
          have hnn : (nx != nx) = false := by simp
          have hzz : (z != z) = false := by simp
          have hle : ¬ nx ≤ x := by omega
          have hled : decide (nx ≤ x) = false := decide_eq_false hle
          go_wp2_with fail
          clear hw1 hw2 hw3 hw4 hlt9 hz hle hled
          refine (drawOddsTaken_any _ L _ HRk10.out).mono ?_
          rintro e w11 ⟨⟨x2, rfl⟩, hb⟩
          have HB11 : Hid (Below w.heap.size w w11) := Lib.hid (HB10.out.trans (hb.mono HB10.out.size))
          have HZ11 : Hid (w10.heap.size ≤ w11.heap.size) := Lib.hid hb.size
          have HRk11 := Lib.hid (HRk0.out.below HB11.out (Nat.le_refl _))
          have HRo11 := Lib.hid (HRo10.out.below hb (Nat.le_refl _))
          have HBs4_11 : Hid (Below w4.heap.size w4 w11) := Lib.hid (HBs4_10.out.trans (hb.mono HBs4_10.out.size))
          clear hb
          obtain ⟨c2, b2, hI, hS⟩ := od_same x2
          have HI2 := Lib.hid hI
          have HS2 := Lib.hid hS
          clear hI hS
          have hb2 : (b2 != b2) = false := by simp
          have hc2 : (c2 != c2) = false := by simp
          go_wp2_with fail
          refine (HI2.out _).mono ?_
          rintro e w12 ⟨rfl, hb⟩
          have HB12 : Hid (Below w.heap.size w w12) := Lib.hid (HB11.out.trans (hb.mono HB11.out.size))
          have HZ12 : Hid (w11.heap.size ≤ w12.heap.size) := Lib.hid hb.size
          have HRk12 := Lib.hid (HRk0.out.below HB12.out (Nat.le_refl _))
          have HRo12 := Lib.hid (HRo11.out.below hb (Nat.le_refl _))
          have HBs4_12 : Hid (Below w4.heap.size w4 w12) := Lib.hid (HBs4_11.out.trans (hb.mono HBs4_11.out.size))
          clear hb
          go_wp2_with fail
          refine (HS2.out _).mono ?_
          rintro e w13 ⟨rfl, hb⟩
          have HB13 : Hid (Below w.heap.size w w13) := Lib.hid (HB12.out.trans (hb.mono HB12.out.size))
          have HZ13 : Hid (w12.heap.size ≤ w13.heap.size) := Lib.hid hb.size
          have HRk13 := Lib.hid (HRk0.out.below HB13.out (Nat.le_refl _))
          have HRo13 := Lib.hid (HRo12.out.below hb (Nat.le_refl _))
          have HBs4_13 : Hid (Below w4.heap.size w4 w13) := Lib.hid (HBs4_12.out.trans (hb.mono HBs4_12.out.size))
          clear hb
          go_wp2_with fail
          refine (drawPairsOf_any _ L _ HRk13.out).mono ?_
          rintro e w14 ⟨⟨y, rfl⟩, hb⟩
          have HB14 : Hid (Below w.heap.size w w14) := Lib.hid (HB13.out.trans (hb.mono HB13.out.size))
          have HZ14 : Hid (w13.heap.size ≤ w14.heap.size) := Lib.hid hb.size
          have HRk14 := Lib.hid (HRk0.out.below HB14.out (Nat.le_refl _))
          have HRo14 := Lib.hid (HRo13.out.below hb (Nat.le_refl _))
          have HBs4_14 : Hid (Below w4.heap.size w4 w14) := Lib.hid (HBs4_13.out.trans (hb.mono HBs4_13.out.size))
          clear hb
          obtain ⟨ps, b3, V, hI, hS, hp8, hv0, hvn, hpf⟩ := pp_same y
          have HI3 := Lib.hid hI
          have HS3 := Lib.hid hS
          have HV0 := Lib.hid hv0
          have HPF := Lib.hid hpf
          clear hI hS hv0 hpf
          have hb3 : (b3 != b3) = false := by simp
          go_wp2_with fail
          refine (HI3.out _).mono ?_
          rintro e w15 ⟨⟨v, rfl, ho⟩, hb⟩
          have HB15 : Hid (Below w.heap.size w w15) := Lib.hid (HB14.out.trans (hb.mono HB14.out.size))
          have HZ15 : Hid (w14.heap.size ≤ w15.heap.size) := Lib.hid hb.size
          have HRk15 := Lib.hid (HRk0.out.below HB15.out (Nat.le_refl _))
          have HRo15 := Lib.hid (HRo14.out.below hb (Nat.le_refl _))
          have HBs4_15 : Hid (Below w4.heap.size w4 w15) := Lib.hid (HBs4_14.out.trans (hb.mono HBs4_14.out.size))
          clear hb
          obtain ⟨qas, qcs, rfl⟩ := ho.form
          have HRs15 := Lib.hid (ho)
          have HBs15_15 : Hid (Below w15.heap.size w15 w15) := Lib.hid (Below.refl _ _)
          clear ho
          go_wp2_with fail
          refine (HS3.out _).mono ?_
          rintro e w16 ⟨⟨v, rfl, ho⟩, hb⟩
          have HB16 : Hid (Below w.heap.size w w16) := Lib.hid (HB15.out.trans (hb.mono HB15.out.size))
          have HZ16 : Hid (w15.heap.size ≤ w16.heap.size) := Lib.hid hb.size
          have HRk16 := Lib.hid (HRk0.out.below HB16.out (Nat.le_refl _))
          have HRo16 := Lib.hid (HRo15.out.below hb (Nat.le_refl _))
          have HRs16 := Lib.hid (HRs15.out.below hb (Nat.le_refl _))
          have HBs4_16 : Hid (Below w4.heap.size w4 w16) := Lib.hid (HBs4_15.out.trans (hb.mono HBs4_15.out.size))
          have HBs15_16 : Hid (Below w15.heap.size w15 w16) := Lib.hid (HBs15_15.out.trans (hb.mono HBs15_15.out.size))
          clear hb
          obtain ⟨qat, qct, rfl⟩ := ho.form
          have HRt16 := Lib.hid (ho)
          have HBs16_16 : Hid (Below w16.heap.size w16 w16) := Lib.hid (Below.refl _ _)
          clear ho
          go_wp2_with fail
          refine (vInts_yes _ _ ps _ HRs16.out HRt16.out).mono ?_
          rintro e w17 ⟨rfl, hb⟩
          have HB17 : Hid (Below w.heap.size w w17) := Lib.hid (HB16.out.trans (hb.mono HB16.out.size))
          have HZ17 : Hid (w16.heap.size ≤ w17.heap.size) := Lib.hid hb.size
          have HRk17 := Lib.hid (HRk0.out.below HB17.out (Nat.le_refl _))
          have HRo17 := Lib.hid (HRo16.out.below hb (Nat.le_refl _))
          have HRs17 := Lib.hid (HRs16.out.below hb (Nat.le_refl _))
          have HRt17 := Lib.hid (HRt16.out.below hb (Nat.le_refl _))
          have HBs4_17 : Hid (Below w4.heap.size w4 w17) := Lib.hid (HBs4_16.out.trans (hb.mono HBs4_16.out.size))
          have HBs15_17 : Hid (Below w15.heap.size w15 w17) := Lib.hid (HBs15_16.out.trans (hb.mono HBs15_16.out.size))
          have HBs16_17 : Hid (Below w16.heap.size w16 w17) := Lib.hid (HBs16_16.out.trans (hb.mono HBs16_16.out.size))
          clear hb
          have hml3 : ps.length ≤ 9223372036854775807 := by omega
          have HRS := Lib.hid HRs17.out.at
          cases b3 with
          | true =>
            have HEN : Hid (V ps.length = y) := Lib.hid (hvn rfl)
            clear hvn
            go_wp2_with fail
            go_loopw [33, 34] (fun nv iv wr => ∃ j : Nat, j ≤ ps.length ∧ nv = .int .i64 (V j) ∧ iv = .int .i64 j ∧ Below w17.heap.size w17 wr) (fun _ iv _ => ps.length - (intOf iv).toNat)
            case atStart => exact ⟨0, Nat.zero_le _, by rw [HV0.out], rfl, Below.refl _ _⟩
            case round =>
              rename World => w18
              obtain ⟨j, hjk, rfl, rfl, hb⟩ := hrel
              have HBL := Lib.hid hb
              have z1 : (0 : Int) ≤ (j : Int) := by omega
              by_cases hlt : j < ps.length
              · obtain ⟨b0, o0, rfl, l0, k0⟩ := HRS.out _ hb j hlt
                have p1 : w18.cell? ⟨b0, o0 + j, none⟩ = some (.int .i64 ps[j]) := by have := k0 0 (by omega); rw [Nat.mul_one] at this; exact this
                obtain ⟨X, g1, g2⟩ := HPF.out j hlt
                obtain ⟨U, hU⟩ : ∃ U, ps[j] = U := ⟨_, rfl⟩
                obtain ⟨A, hA⟩ : ∃ A, V j = A := ⟨_, rfl⟩
                obtain ⟨C, hC⟩ : ∃ C, V (j + 1) = C := ⟨_, rfl⟩
                rw [hU] at p1 g2
                rw [hA] at g1 ⊢
                rw [hC] at g2
                have HCC := Lib.hid hC
                have z2 : (j : Int) < (ps.length : Int) := by omega
                clear k0 hU hA hC hb
                go_wp2_with fail
                go_roundw
                case rel => exact ⟨j + 1, by omega, by rw [HCC.out], by go_num, HBL.out⟩
                case measure => simp [intOf]; omega
              · obtain rfl : j = ps.length := by omega
                rw [HEN.out]
                have z2 : ¬ ((ps.length : Int) < (ps.length : Int)) := by omega
                have hyy : (y == y) = true := by simp
                have hb := HBL.out
                have HB18 : Hid (Below w.heap.size w w18) := Lib.hid (HB17.out.trans (hb.mono HB17.out.size))
                have HZ18 : Hid (w17.heap.size ≤ w18.heap.size) := Lib.hid hb.size
                have HRk18 := Lib.hid (HRk0.out.below HB18.out (Nat.le_refl _))
                have HRo18 := Lib.hid (HRo17.out.below hb (Nat.le_refl _))
                have HRs18 := Lib.hid (HRs17.out.below hb (Nat.le_refl _))
                have HBs4_18 : Hid (Below w4.heap.size w4 w18) := Lib.hid (HBs4_17.out.trans (hb.mono HBs4_17.out.size))
                have HBs15_18 : Hid (Below w15.heap.size w15 w18) := Lib.hid (HBs15_17.out.trans (hb.mono HBs15_17.out.size))
                clear hb
                go_wp2_with fail
                go_ret
                exact ⟨ret_bool (by first | (simp; done) | rfl), HB18.out⟩
          | false =>
            clear hvn
            go_wp2_with fail
            go_loopw [33, 34] (fun nv iv wr => ∃ j : Nat, j ≤ ps.length ∧ nv = .int .i64 (V j) ∧ iv = .int .i64 j ∧ Below w17.heap.size w17 wr) (fun _ iv _ => ps.length - (intOf iv).toNat)
            case atStart => exact ⟨0, Nat.zero_le _, by rw [HV0.out], rfl, Below.refl _ _⟩
            case round =>
              rename World => w18
              obtain ⟨j, hjk, rfl, rfl, hb⟩ := hrel
              have HBL := Lib.hid hb
              have z1 : (0 : Int) ≤ (j : Int) := by omega
              by_cases hlt : j < ps.length
              · obtain ⟨b0, o0, rfl, l0, k0⟩ := HRS.out _ hb j hlt
                have p1 : w18.cell? ⟨b0, o0 + j, none⟩ = some (.int .i64 ps[j]) := by have := k0 0 (by omega); rw [Nat.mul_one] at this; exact this
                obtain ⟨X, g1, g2⟩ := HPF.out j hlt
                obtain ⟨U, hU⟩ : ∃ U, ps[j] = U := ⟨_, rfl⟩
                obtain ⟨A, hA⟩ : ∃ A, V j = A := ⟨_, rfl⟩
                obtain ⟨C, hC⟩ : ∃ C, V (j + 1) = C := ⟨_, rfl⟩
                rw [hU] at p1 g2
                rw [hA] at g1 ⊢
                rw [hC] at g2
                have HCC := Lib.hid hC
                have z2 : (j : Int) < (ps.length : Int) := by omega
                clear k0 hU hA hC hb
                go_wp2_with fail
                go_roundw
                case rel => exact ⟨j + 1, by omega, by rw [HCC.out], by go_num, HBL.out⟩
                case measure => simp [intOf]; omega
              · obtain rfl : j = ps.length := by omega
                
                have z2 : ¬ ((ps.length : Int) < (ps.length : Int)) := by omega
                have hyy : (y == y) = true := by simp
                have hb := HBL.out
                have HB18 : Hid (Below w.heap.size w w18) := Lib.hid (HB17.out.trans (hb.mono HB17.out.size))
                have HZ18 : Hid (w17.heap.size ≤ w18.heap.size) := Lib.hid hb.size
                have HRk18 := Lib.hid (HRk0.out.below HB18.out (Nat.le_refl _))
                have HRo18 := Lib.hid (HRo17.out.below hb (Nat.le_refl _))
                have HRs18 := Lib.hid (HRs17.out.below hb (Nat.le_refl _))
                have HBs4_18 : Hid (Below w4.heap.size w4 w18) := Lib.hid (HBs4_17.out.trans (hb.mono HBs4_17.out.size))
                have HBs15_18 : Hid (Below w15.heap.size w15 w18) := Lib.hid (HBs15_17.out.trans (hb.mono HBs15_17.out.size))
                clear hb
                go_wp2_with fail
                go_ret
                exact ⟨ret_bool (by first | (simp; done) | rfl), HB18.out⟩
    | false =>
      clear hY
      go_wp2_with fail
      refine (drawOddsTaken_any _ L _ HRk6.out).mono ?_
      rintro e w7 ⟨⟨x2, rfl⟩, hb⟩
      have HB7 : Hid (Below w.heap.size w w7) := Lib.hid (HB6.out.trans (hb.mono HB6.out.size))
      have HZ7 : Hid (w6.heap.size ≤ w7.heap.size) := Lib.hid hb.size
      have HRk7 := Lib.hid (HRk0.out.below HB7.out (Nat.le_refl _))
      have HRo7 := Lib.hid (HRo6.out.below hb (Nat.le_refl _))
      have HBs4_7 : Hid (Below w4.heap.size w4 w7) := Lib.hid (HBs4_6.out.trans (hb.mono HBs4_6.out.size))
      clear hb
      obtain ⟨c2, b2, hI, hS⟩ := od_same x2
      have HI2 := Lib.hid hI
      have HS2 := Lib.hid hS
      clear hI hS
      have hb2 : (b2 != b2) = false := by simp
      have hc2 : (c2 != c2) = false := by simp
      go_wp2_with fail
      refine (HI2.out _).mono ?_
      rintro e w8 ⟨rfl, hb⟩
      have HB8 : Hid (Below w.heap.size w w8) := Lib.hid (HB7.out.trans (hb.mono HB7.out.size))
      have HZ8 : Hid (w7.heap.size ≤ w8.heap.size) := Lib.hid hb.size
      have HRk8 := Lib.hid (HRk0.out.below HB8.out (Nat.le_refl _))
      have HRo8 := Lib.hid (HRo7.out.below hb (Nat.le_refl _))
      have HBs4_8 : Hid (Below w4.heap.size w4 w8) := Lib.hid (HBs4_7.out.trans (hb.mono HBs4_7.out.size))
      clear hb
      go_wp2_with fail
      refine (HS2.out _).mono ?_
      rintro e w9 ⟨rfl, hb⟩
      have HB9 : Hid (Below w.heap.size w w9) := Lib.hid (HB8.out.trans (hb.mono HB8.out.size))
      have HZ9 : Hid (w8.heap.size ≤ w9.heap.size) := Lib.hid hb.size
      have HRk9 := Lib.hid (HRk0.out.below HB9.out (Nat.le_refl _))
      have HRo9 := Lib.hid (HRo8.out.below hb (Nat.le_refl _))
      have HBs4_9 : Hid (Below w4.heap.size w4 w9) := Lib.hid (HBs4_8.out.trans (hb.mono HBs4_8.out.size))
      clear hb
      go_wp2_with fail
      refine (drawPairsOf_any _ L _ HRk9.out).mono ?_
      rintro e w10 ⟨⟨y, rfl⟩, hb⟩
      have HB10 : Hid (Below w.heap.size w w10) := Lib.hid (HB9.out.trans (hb.mono HB9.out.size))
      have HZ10 : Hid (w9.heap.size ≤ w10.heap.size) := Lib.hid hb.size
      have HRk10 := Lib.hid (HRk0.out.below HB10.out (Nat.le_refl _))
      have HRo10 := Lib.hid (HRo9.out.below hb (Nat.le_refl _))
      have HBs4_10 : Hid (Below w4.heap.size w4 w10) := Lib.hid (HBs4_9.out.trans (hb.mono HBs4_9.out.size))
      clear hb
      obtain ⟨ps, b3, V, hI, hS, hp8, hv0, hvn, hpf⟩ := pp_same y
      have HI3 := Lib.hid hI
      have HS3 := Lib.hid hS
      have HV0 := Lib.hid hv0
      have HPF := Lib.hid hpf
      clear hI hS hv0 hpf
      have hb3 : (b3 != b3) = false := by simp
      go_wp2_with fail
      refine (HI3.out _).mono ?_
      rintro e w11 ⟨⟨v, rfl, ho⟩, hb⟩
      have HB11 : Hid (Below w.heap.size w w11) := Lib.hid (HB10.out.trans (hb.mono HB10.out.size))
      have HZ11 : Hid (w10.heap.size ≤ w11.heap.size) := Lib.hid hb.size
      have HRk11 := Lib.hid (HRk0.out.below HB11.out (Nat.le_refl _))
      have HRo11 := Lib.hid (HRo10.out.below hb (Nat.le_refl _))
      have HBs4_11 : Hid (Below w4.heap.size w4 w11) := Lib.hid (HBs4_10.out.trans (hb.mono HBs4_10.out.size))
      clear hb
      obtain ⟨qas, qcs, rfl⟩ := ho.form
      have HRs11 := Lib.hid (ho)
      have HBs11_11 : Hid (Below w11.heap.size w11 w11) := Lib.hid (Below.refl _ _)
      clear ho
      go_wp2_with fail
      refine (HS3.out _).mono ?_
      rintro e w12 ⟨⟨v, rfl, ho⟩, hb⟩
      have HB12 : Hid (Below w.heap.size w w12) := Lib.hid (HB11.out.trans (hb.mono HB11.out.size))
      have HZ12 : Hid (w11.heap.size ≤ w12.heap.size) := Lib.hid hb.size
      have HRk12 := Lib.hid (HRk0.out.below HB12.out (Nat.le_refl _))
      have HRo12 := Lib.hid (HRo11.out.below hb (Nat.le_refl _))
      have HRs12 := Lib.hid (HRs11.out.below hb (Nat.le_refl _))
      have HBs4_12 : Hid (Below w4.heap.size w4 w12) := Lib.hid (HBs4_11.out.trans (hb.mono HBs4_11.out.size))
      have HBs11_12 : Hid (Below w11.heap.size w11 w12) := Lib.hid (HBs11_11.out.trans (hb.mono HBs11_11.out.size))
      clear hb
      obtain ⟨qat, qct, rfl⟩ := ho.form
      have HRt12 := Lib.hid (ho)
      have HBs12_12 : Hid (Below w12.heap.size w12 w12) := Lib.hid (Below.refl _ _)
      clear ho
      go_wp2_with fail
      refine (vInts_yes _ _ ps _ HRs12.out HRt12.out).mono ?_
      rintro e w13 ⟨rfl, hb⟩
      have HB13 : Hid (Below w.heap.size w w13) := Lib.hid (HB12.out.trans (hb.mono HB12.out.size))
      have HZ13 : Hid (w12.heap.size ≤ w13.heap.size) := Lib.hid hb.size
      have HRk13 := Lib.hid (HRk0.out.below HB13.out (Nat.le_refl _))
      have HRo13 := Lib.hid (HRo12.out.below hb (Nat.le_refl _))
      have HRs13 := Lib.hid (HRs12.out.below hb (Nat.le_refl _))
      have HRt13 := Lib.hid (HRt12.out.below hb (Nat.le_refl _))
      have HBs4_13 : Hid (Below w4.heap.size w4 w13) := Lib.hid (HBs4_12.out.trans (hb.mono HBs4_12.out.size))
      have HBs11_13 : Hid (Below w11.heap.size w11 w13) := Lib.hid (HBs11_12.out.trans (hb.mono HBs11_12.out.size))
      have HBs12_13 : Hid (Below w12.heap.size w12 w13) := Lib.hid (HBs12_12.out.trans (hb.mono HBs12_12.out.size))
      clear hb
      have hml3 : ps.length ≤ 9223372036854775807 := by omega
      have HRS := Lib.hid HRs13.out.at
      cases b3 with
      | true =>
        have HEN : Hid (V ps.length = y) := Lib.hid (hvn rfl)
        clear hvn
        go_wp2_with fail
        go_loopw [33, 34] (fun nv iv wr => ∃ j : Nat, j ≤ ps.length ∧ nv = .int .i64 (V j) ∧ iv = .int .i64 j ∧ Below w13.heap.size w13 wr) (fun _ iv _ => ps.length - (intOf iv).toNat)
        case atStart => exact ⟨0, Nat.zero_le _, by rw [HV0.out], rfl, Below.refl _ _⟩
        case round =>
          rename World => w14
          obtain ⟨j, hjk, rfl, rfl, hb⟩ := hrel
          have HBL := Lib.hid hb
          have z1 : (0 : Int) ≤ (j : Int) := by omega
          by_cases hlt : j < ps.length
          · obtain ⟨b0, o0, rfl, l0, k0⟩ := HRS.out _ hb j hlt
            have p1 : w14.cell? ⟨b0, o0 + j, none⟩ = some (.int .i64 ps[j]) := by have := k0 0 (by omega); rw [Nat.mul_one] at this; exact this
            obtain ⟨X, g1, g2⟩ := HPF.out j hlt
            obtain ⟨U, hU⟩ : ∃ U, ps[j] = U := ⟨_, rfl⟩
            obtain ⟨A, hA⟩ : ∃ A, V j = A := ⟨_, rfl⟩
            obtain ⟨C, hC⟩ : ∃ C, V (j + 1) = C := ⟨_, rfl⟩
            rw [hU] at p1 g2
            rw [hA] at g1 ⊢
            rw [hC] at g2
            have HCC := Lib.hid hC
            have z2 : (j : Int) < (ps.length : Int) := by omega
            clear k0 hU hA hC hb
            go_wp2_with fail
            go_roundw
            case rel => exact ⟨j + 1, by omega, by rw [HCC.out], by go_num, HBL.out⟩
            case measure => simp [intOf]; omega
          · obtain rfl : j = ps.length := by omega
            rw [HEN.out]
            have z2 : ¬ ((ps.length : Int) < (ps.length : Int)) := by omega
            have hyy : (y == y) = true := by simp
            have hb := HBL.out
            have HB14 : Hid (Below w.heap.size w w14) := Lib.hid (HB13.out.trans (hb.mono HB13.out.size))
            have HZ14 : Hid (w13.heap.size ≤ w14.heap.size) := Lib.hid hb.size
            have HRk14 := Lib.hid (HRk0.out.below HB14.out (Nat.le_refl _))
            have HRo14 := Lib.hid (HRo13.out.below hb (Nat.le_refl _))
            have HRs14 := Lib.hid (HRs13.out.below hb (Nat.le_refl _))
            have HBs4_14 : Hid (Below w4.heap.size w4 w14) := Lib.hid (HBs4_13.out.trans (hb.mono HBs4_13.out.size))
            have HBs11_14 : Hid (Below w11.heap.size w11 w14) := Lib.hid (HBs11_13.out.trans (hb.mono HBs11_13.out.size))
            clear hb
            go_wp2_with fail
            go_ret
            exact ⟨ret_bool (by first | (simp; done) | rfl), HB14.out⟩
      | false =>
        clear hvn
        go_wp2_with fail
        go_loopw [33, 34] (fun nv iv wr => ∃ j : Nat, j ≤ ps.length ∧ nv = .int .i64 (V j) ∧ iv = .int .i64 j ∧ Below w13.heap.size w13 wr) (fun _ iv _ => ps.length - (intOf iv).toNat)
        case atStart => exact ⟨0, Nat.zero_le _, by rw [HV0.out], rfl, Below.refl _ _⟩
        case round =>
          rename World => w14
          obtain ⟨j, hjk, rfl, rfl, hb⟩ := hrel
          have HBL := Lib.hid hb
          have z1 : (0 : Int) ≤ (j : Int) := by omega
          by_cases hlt : j < ps.length
          · obtain ⟨b0, o0, rfl, l0, k0⟩ := HRS.out _ hb j hlt
            have p1 : w14.cell? ⟨b0, o0 + j, none⟩ = some (.int .i64 ps[j]) := by have := k0 0 (by omega); rw [Nat.mul_one] at this; exact this
            obtain ⟨X, g1, g2⟩ := HPF.out j hlt
            obtain ⟨U, hU⟩ : ∃ U, ps[j] = U := ⟨_, rfl⟩
            obtain ⟨A, hA⟩ : ∃ A, V j = A := ⟨_, rfl⟩
            obtain ⟨C, hC⟩ : ∃ C, V (j + 1) = C := ⟨_, rfl⟩
            rw [hU] at p1 g2
            rw [hA] at g1 ⊢
            rw [hC] at g2
            have HCC := Lib.hid hC
            have z2 : (j : Int) < (ps.length : Int) := by omega
            clear k0 hU hA hC hb
            go_wp2_with fail
            go_roundw
            case rel => exact ⟨j + 1, by omega, by rw [HCC.out], by go_num, HBL.out⟩
            case measure => simp [intOf]; omega
          · obtain rfl : j = ps.length := by omega
            
            have z2 : ¬ ((ps.length : Int) < (ps.length : Int)) := by omega
            have hyy : (y == y) = true := by simp
            have hb := HBL.out
            have HB14 : Hid (Below w.heap.size w w14) := Lib.hid (HB13.out.trans (hb.mono HB13.out.size))
            have HZ14 : Hid (w13.heap.size ≤ w14.heap.size) := Lib.hid hb.size
            have HRk14 := Lib.hid (HRk0.out.below HB14.out (Nat.le_refl _))
            have HRo14 := Lib.hid (HRo13.out.below hb (Nat.le_refl _))
            have HRs14 := Lib.hid (HRs13.out.below hb (Nat.le_refl _))
            have HBs4_14 : Hid (Below w4.heap.size w4 w14) := Lib.hid (HBs4_13.out.trans (hb.mono HBs4_13.out.size))
            have HBs11_14 : Hid (Below w11.heap.size w11 w14) := Lib.hid (HBs11_13.out.trans (hb.mono HBs11_13.out.size))
            clear hb
            go_wp2_with fail
            go_ret
            exact ⟨ret_bool (by first | (simp; done) | rfl), HB14.out⟩
end Go.Proofs.Ytlfplnbmgmookaa
