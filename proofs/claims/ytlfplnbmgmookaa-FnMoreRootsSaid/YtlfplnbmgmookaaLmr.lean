/- The law FnMoreRoots. -/
import Derived.Test.YtlfplnbmgmookaaKm
import Derived.Test.YtlfplnbmgmookaaVin
import Derived.Test.YtlfplnbmgmookaaDrt
import Derived.Test.YtlfplnbmgmookaaJr3
import Derived.Test.YtlfplnbmgmookaaJr4
import Derived.Test.YtlfplnbmgmookaaJr5
import Derived.Test.YtlfplnbmgmookaaRm3
namespace Go.Proofs.Ytlfplnbmgmookaa
set_option linter.unusedVariables false
open Go.RowKit
set_option linter.unusedSimpArgs false

def I2B (f : Nat) (av : Array Value) (w : World) (m n : Int) (b : Bool) : Prop :=
  Calls Try.prog f av w fun e w' => e = .returned (.tuple #[.int .i64 m, .int .i64 n, .bool b]) ∧ Below w.heap.size w w'
def BoB (f : Nat) (av : Array Value) (w : World) (c b : Bool) : Prop :=
  Calls Try.prog f av w fun e w' => e = .returned (.tuple #[.bool c, .bool b]) ∧ Below w.heap.size w w'
def PrB (f : Nat) (av : Array Value) (w : World) (ps : List (Int × Int)) (b : Bool) : Prop :=
  Calls Try.prog f av w fun e w' => (∃ v, e = .returned (.tuple #[v, .bool b]) ∧ RodsR w' v ps) ∧ Below w.heap.size w w'
theorem ofOwnP {f : Nat} {av : Array Value} {w : World} {ps : List (Int × Int)} {b : Bool} (h : Calls Try.prog f av w fun e w' => (∃ v, e = .returned (.tuple #[v, .bool b]) ∧ w'.ownsRow w.heap.size 47 2 v ps.length (flat ps)) ∧ Below w.heap.size w w') : PrB f av w ps b :=
  h.mono fun _ _ ⟨⟨v, he, ho⟩, hb⟩ => ⟨⟨v, he, RodsR.of_own ho⟩, hb⟩
theorem isRt_one {n a b : Nat} (h : isRt n a) (k : isRt n b) : a = b := Nat.le_antisymm ((isRt_iff k a).1 h.1) ((isRt_iff h b).1 k.1)
/-- The decimals of a root begin with the whole root. -/
theorem rt_div (n p : Nat) : rt (n * 100 ^ p) / 10 ^ p = rt n := by
  have h := isRt_rt (n * 100 ^ p)
  refine isRt_one ?_ (isRt_rt n)
  generalize rt (n * 100 ^ p) = s at h ⊢
  have e : (100 : Nat) ^ p = 10 ^ p * 10 ^ p := by rw [show (100 : Nat) = 10 * 10 from rfl, Nat.mul_pow]
  have hp : 0 < 10 ^ p := Nat.pow_pos (by omega)
  rw [e] at h
  generalize 10 ^ p = t at h hp ⊢
  have hl := Nat.div_mul_le_self s t
  have hg : s < (s / t + 1) * t := by
    have := Nat.lt_div_mul_add hp (a := s)
    rw [Nat.succ_mul]; omega
  generalize s / t = q at hl hg ⊢
  have htt : 0 < t * t := Nat.mul_pos hp hp
  constructor
  · have h1 := Nat.mul_le_mul hl hl
    have h2 := Nat.le_trans h1 h.1
    rw [show q * t * (q * t) = q * q * (t * t) by grind] at h2
    exact Nat.le_of_mul_le_mul_right h2 htt
  · have h1 := Nat.mul_le_mul (show s + 1 ≤ (q + 1) * t from hg) (show s + 1 ≤ (q + 1) * t from hg)
    have h2 := Nat.lt_of_lt_of_le h.2 h1
    rw [show (q + 1) * t * ((q + 1) * t) = (q + 1) * (q + 1) * (t * t) by grind] at h2
    exact Nat.lt_of_mul_lt_mul_right h2
theorem rd_same (x y : Int) : ∃ (r : Int) (b : Bool), (∀ w, InB 31 #[.int .i64 x, .int .i64 y] w r b) ∧ (∀ w, InB 32 #[.int .i64 x, .int .i64 y] w r b) ∧
    (b = true → ∃ (k : Nat) (P : Nat → Int) (u v : Int), y = (k : Int) ∧ k ≤ 4 ∧ (∀ w, I2B 16 #[.int .i64 x] w u v true) ∧ P 0 = 1 ∧ (∀ j, j < k → IntKind.i64.wrap (10 * P j) = P (j + 1)) ∧ IntKind.i64.wrap (r.tdiv (P k)) = u ∧ (P k == 0) = false ∧ P k ≠ 0) := by
  by_cases h : okNP x y
  · obtain ⟨n, rfl, hn⟩ := okN_nat h.1
    obtain ⟨p, rfl⟩ : ∃ p : Nat, y = (p : Int) := ⟨y.toNat, by have := h.2.1; omega⟩
    have hp : p ≤ 4 := by have := h.2.2; omega
    have hr := isRt_rt (n * 100 ^ p)
    obtain ⟨g1, _, _, _⟩ := sq_facts (isRt_rt n) hn
    have hd := rt_div n p
    have hpw : ∀ j, j ≤ 4 → 0 < 10 ^ j ∧ 10 ^ j ≤ 10000 := fun j hj => ⟨Nat.pow_pos (by omega), Nat.pow_le_pow_right (by omega) hj⟩
    have hpp := hpw p hp
    refine ⟨(rt (n * 100 ^ p) : Int), true, fun w => impRootDecimals_yes n p _ w hr hn hp, fun w => speRootDecimals_yes n p _ w hr hn hp, fun _ =>
      ⟨p, fun j => ((10 ^ j : Nat) : Int), (rt n : Int), _, rfl, hp, fun w => impWholeRoot_yes n _ w (isRt_rt n) hn, rfl, fun j hj => ?_, ?_, ?_, ?_⟩⟩
    · have := hpw (j + 1) (by omega)
      dsimp only
      rw [Nat.pow_succ] at this ⊢
      rw [IntKind.wrap_i64]; omega
    · dsimp only
      rw [Int.tdiv_eq_ediv_of_nonneg (by omega), ← Int.natCast_ediv, hd, IntKind.wrap_i64]; omega
    · exact beq_eq_false_iff_ne.2 (by dsimp only; omega)
    · dsimp only; omega
  · exact ⟨0, false, fun w => impRootDecimals_no x y w h, fun w => speRootDecimals_no x y w h, fun h => by cases h⟩
/-- What the law asks of pairs of squares. -/
def SqF (ps : List (Int × Int)) (x : Int) : Prop := ∀ i (h : i < ps.length), ∃ A C, IntKind.i64.wrap (ps[i].1 * ps[i].1) = A ∧ IntKind.i64.wrap (ps[i].2 * ps[i].2) = C ∧ IntKind.i64.wrap (A + C) = x ∧ ps[i].1 ≤ ps[i].2
theorem sqr_small {x y n : Int} (hx : 0 ≤ x ∧ x ≤ y) (h : x * x + y * y = n) (hn : n ≤ 10000) : 0 ≤ x * x ∧ x * x ≤ 10000 ∧ 0 ≤ y * y ∧ y * y ≤ 10000 := by
  have h1 : 0 ≤ x * x := Int.mul_nonneg hx.1 hx.1
  have h2 : 0 ≤ y * y := Int.mul_nonneg (by omega) (by omega)
  omega
theorem st_same (x : Int) : ∃ (ps : List (Int × Int)) (b : Bool), (∀ w, PrB 34 #[.int .i64 x] w ps b) ∧ (∀ w, PrB 35 #[.int .i64 x] w ps b) ∧ ps.length ≤ 71 ∧ SqF ps x := by
  by_cases h : 0 ≤ x ∧ x ≤ 10000
  · obtain ⟨n, rfl⟩ : ∃ n : Nat, x = (n : Int) := ⟨x.toNat, by omega⟩
    have hn : n ≤ 10000 := by omega
    refine ⟨sq2 n (sqK n), true, fun w => ofOwnP (impSumOfTwo_yes n w hn), fun w => speSumOfTwo_yes n w hn, Nat.le_trans (sq2_len n _) (sqK_le hn), fun i hi => ?_⟩
    obtain ⟨h1, h2⟩ := sq2_mem n (sqK n) (fun j hj => (sqK_iff n j).2 hj) _ (List.getElem_mem hi)
    generalize (sq2 n (sqK n))[i] = q at h1 h2
    obtain ⟨a, c⟩ := q
    dsimp only at h1 h2 ⊢
    obtain ⟨g1, g2, g3, g4⟩ := sqr_small h1 h2 (by omega)
    refine ⟨a * a, c * c, ?_, ?_, ?_, h1.2⟩
    · rw [IntKind.wrap_i64]; omega
    · rw [IntKind.wrap_i64]; omega
    · rw [IntKind.wrap_i64]; omega
  · exact ⟨[], false, fun w => ofOwnP (impSumOfTwo_no x w h), fun w => speSumOfTwo_no x w h, by simp, fun i h => by simp at h⟩
theorem cr_same (y : Int) : ∃ (c : Int) (b : Bool), (∀ w, InB 38 #[.int .i64 y] w c b) ∧ (∀ w, InB 39 #[.int .i64 y] w c b) ∧ (b = true → ∃ A B P D F, IntKind.i64.wrap (c * c) = A ∧ IntKind.i64.wrap (A * c) = B ∧ B ≤ y ∧ IntKind.i64.wrap (c + 1) = P ∧ IntKind.i64.wrap (P * P) = D ∧ IntKind.i64.wrap (D * P) = F ∧ y < F) := by
  by_cases h : okN y
  · obtain ⟨n, rfl, hn⟩ := okN_nat h
    obtain ⟨r, hr⟩ := isCb_ex n
    have hr1 : r < 465 := isCb_lt hr (by omega)
    obtain ⟨Q, C, e1, e2, e3, _, _⟩ := cube_facts hr hn (k := r) (by omega)
    obtain ⟨Q', C', f1, f2, f3, _, _⟩ := cube_facts hr hn (k := r + 1) (by omega)
    refine ⟨(r : Int), true, fun w => impCubeRoot_yes n r w hr hn, fun w => speCubeRoot_yes n r w hr hn, fun _ => ⟨Q, C, ((r + 1 : Nat) : Int), Q', C', e1, e2, e3.2 (Nat.le_refl _), ?_, f1, f2, ?_⟩⟩
    · rw [IntKind.wrap_i64]; omega
    · have := mt f3.1 (by omega); omega
  · exact ⟨0, false, fun w => impCubeRoot_no y w h, fun w => speCubeRoot_no y w h, fun h => by cases h⟩
theorem is_same (x : Int) : ∃ (c b : Bool), (∀ w, BoB 23 #[.int .i64 x] w c b) ∧ (∀ w, BoB 41 #[.int .i64 x] w c b) := by
  by_cases h : okN x
  · obtain ⟨n, rfl, hn⟩ := okN_nat h
    exact ⟨_, true, fun w => impIsSquare_yes n _ w (isRt_rt n) hn, fun w => speIsSquare_yes n _ w (isRt_rt n) hn⟩
  · exact ⟨false, false, fun w => impIsSquare_no x w h, fun w => speIsSquare_no x w h⟩
theorem ns_same (x : Int) : ∃ (c : Int) (b : Bool), (∀ w, InB 22 #[.int .i64 x] w c b) ∧ (∀ w, InB 43 #[.int .i64 x] w c b) := by
  by_cases h : okN x
  · obtain ⟨n, rfl, hn⟩ := okN_nat h
    exact ⟨_, true, fun w => impNextSquare_yes n _ w (isRt_rt n) hn, fun w => speNextSquare_yes n _ w (isRt_rt n) hn⟩
  · exact ⟨0, false, fun w => impNextSquare_no x w h, fun w => speNextSquare_no x w h⟩
set_option maxRecDepth 100000 in
set_option maxHeartbeats 12800000 in
theorem lawMoreRoots (w : World) (ad : Option Addr) (cp : Nat) (L : List UInt8) (h : SlR w (.slice ad L.length cp) (L.map fun c => .int .u8 (c.toNat : Int))) :
    Calls Try.prog 4 #[.slice ad L.length cp] w fun e w' => e = .returned (.bool true) ∧ Below w.heap.size w w' := by
  have hm : L.length ≤ 9223372036854775807 := by
    obtain ⟨a, c, e, ⟨m, _⟩, _⟩ := h
    rw [List.length_map] at m
    exact m
  have HB0 : Hid (Below w.heap.size w w) := Lib.hid (Below.refl _ _)
  have HRk0 := Lib.hid (h)
  clear h
  by_cases hbig : (65536 : Int) < (L.length : Int)
  · go_enter Try.func4, Try.ntmps4
    go_wp2_with fail
    refine (vBig_any ad L.length cp _ true (decide_eq_true hbig)).mono ?_
    rintro e w' ⟨rfl, hw⟩
    subst w'
    go_wp2_with fail
    go_ret
    exact ⟨rfl, Below.refl _ _⟩
  · go_enter Try.func4, Try.ntmps4
    go_wp2_with fail
    refine (vBig_any ad L.length cp _ false (decide_eq_false (by omega))).mono ?_
    rintro e w' ⟨rfl, hw⟩
    subst w'
    go_wp2_with fail
    refine (drawRootDecimals_any _ L _ HRk0.out).mono ?_
    rintro e w1 ⟨⟨x, y, rfl⟩, hb⟩
    have HB1 : Hid (Below w.heap.size w w1) := Lib.hid (HB0.out.trans (hb.mono HB0.out.size))
    have HZ1 : Hid (w.heap.size ≤ w1.heap.size) := Lib.hid hb.size
    have HRk1 := Lib.hid (HRk0.out.below HB1.out (Nat.le_refl _))
    clear hb
    obtain ⟨r, b, h1, h2, hY⟩ := rd_same x y
    have HI0 := Lib.hid h1
    have HS0 := Lib.hid h2
    clear h1 h2
    have hb1 : (b != b) = false := by simp
    have hr1 : (r != r) = false := by simp
    go_wp2_with fail
    refine (HI0.out _).mono ?_
    rintro e w2 ⟨rfl, hb⟩
    have HB2 : Hid (Below w.heap.size w w2) := Lib.hid (HB1.out.trans (hb.mono HB1.out.size))
    have HZ2 : Hid (w1.heap.size ≤ w2.heap.size) := Lib.hid hb.size
    have HRk2 := Lib.hid (HRk0.out.below HB2.out (Nat.le_refl _))
    clear hb
    go_wp2_with fail
    refine (HS0.out _).mono ?_
    rintro e w3 ⟨rfl, hb⟩
    have HB3 : Hid (Below w.heap.size w w3) := Lib.hid (HB2.out.trans (hb.mono HB2.out.size))
    have HZ3 : Hid (w2.heap.size ≤ w3.heap.size) := Lib.hid hb.size
    have HRk3 := Lib.hid (HRk0.out.below HB3.out (Nat.le_refl _))
    clear hb
    cases b with
    | true =>
      obtain ⟨k, P, u, v, rfl, hk4, hwr, hp0, hps, hq, hz0, hz1⟩ := hY rfl
      have HWR := Lib.hid hwr
      have HP0 := Lib.hid hp0
      have HPS := Lib.hid hps
      have HQ := Lib.hid (And.intro hq (And.intro hz0 hz1))
      have huu : (u != u) = false := by simp
      clear hY hwr hp0 hps hq hz0 hz1
      go_wp2_with fail
      refine (HWR.out _).mono ?_
      rintro e w4 ⟨rfl, hb⟩
      have HB4 : Hid (Below w.heap.size w w4) := Lib.hid (HB3.out.trans (hb.mono HB3.out.size))
      have HZ4 : Hid (w3.heap.size ≤ w4.heap.size) := Lib.hid hb.size
      have HRk4 := Lib.hid (HRk0.out.below HB4.out (Nat.le_refl _))
      clear hb
      go_wp2_with fail
      go_loopw [12, 13] (fun pv iv wr => ∃ j : Nat, j ≤ k ∧ pv = .int .i64 (P j) ∧ iv = .int .i64 j ∧ wr = w4) (fun _ iv _ => k - (intOf iv).toNat)
      case atStart => exact ⟨0, Nat.zero_le _, by rw [HP0.out], rfl, rfl⟩
      case round =>
        obtain ⟨j, hjk, rfl, rfl, hw⟩ := hrel
        subst wr
        by_cases hlt : j < k
        · have hp := HPS.out j hlt
          obtain ⟨A, hA⟩ : ∃ A, P j = A := ⟨_, rfl⟩
          obtain ⟨C, hC⟩ : ∃ C, P (j + 1) = C := ⟨_, rfl⟩
          rw [hA, hC] at hp
          rw [hA]
          have HC := Lib.hid hC
          have z1 : (j : Int) < (k : Int) := by omega
          clear hA hC
          go_wp2_with fail
          go_roundw
          case rel => exact ⟨j + 1, by omega, by rw [HC.out], by go_num, trivial⟩
          case measure => simp [intOf]; omega
        · obtain rfl : j = k := by omega
          obtain ⟨hq, hz0, hz1⟩ := HQ.out
          obtain ⟨D, hD⟩ : ∃ D, P j = D := ⟨_, rfl⟩
          rw [hD] at hq hz0 hz1
          rw [hD]
          clear hD
          go_wp2_with fail
          clear hq hz0 hz1
          refine (drawSumOfTwo_any _ L _ HRk4.out).mono ?_
          rintro e w5 ⟨⟨x2, rfl⟩, hb⟩
          have HB5 : Hid (Below w.heap.size w w5) := Lib.hid (HB4.out.trans (hb.mono HB4.out.size))
          have HZ5 : Hid (w4.heap.size ≤ w5.heap.size) := Lib.hid hb.size
          have HRk5 := Lib.hid (HRk0.out.below HB5.out (Nat.le_refl _))
          clear hb
          obtain ⟨qs, b2, hI, hS, hq71, hsf⟩ := st_same x2
          have HI2 := Lib.hid hI
          have HS2 := Lib.hid hS
          have HSF := Lib.hid hsf
          clear hI hS hsf
          have hb2 : (b2 != b2) = false := by simp
          go_wp2_with fail
          refine (HI2.out _).mono ?_
          rintro e w6 ⟨⟨v, rfl, ho⟩, hb⟩
          have HB6 : Hid (Below w.heap.size w w6) := Lib.hid (HB5.out.trans (hb.mono HB5.out.size))
          have HZ6 : Hid (w5.heap.size ≤ w6.heap.size) := Lib.hid hb.size
          have HRk6 := Lib.hid (HRk0.out.below HB6.out (Nat.le_refl _))
          clear hb
          obtain ⟨qas, qcs, rfl⟩ : ∃ a c, v = .slice a qs.length c := by obtain ⟨a, c, e, _⟩ := ho; exact ⟨a, c, e⟩
          have HRs6 := Lib.hid (ho)
          have HBs6_6 : Hid (Below w6.heap.size w6 w6) := Lib.hid (Below.refl _ _)
          clear ho
          go_wp2_with fail
          refine (HS2.out _).mono ?_
          rintro e w7 ⟨⟨v, rfl, ho⟩, hb⟩
          have HB7 : Hid (Below w.heap.size w w7) := Lib.hid (HB6.out.trans (hb.mono HB6.out.size))
          have HZ7 : Hid (w6.heap.size ≤ w7.heap.size) := Lib.hid hb.size
          have HRk7 := Lib.hid (HRk0.out.below HB7.out (Nat.le_refl _))
          have HRs7 := Lib.hid (HRs6.out.below hb (Nat.le_refl _))
          have HBs6_7 : Hid (Below w6.heap.size w6 w7) := Lib.hid (HBs6_6.out.trans (hb.mono HBs6_6.out.size))
          clear hb
          obtain ⟨qat, qct, rfl⟩ : ∃ a c, v = .slice a qs.length c := by obtain ⟨a, c, e, _⟩ := ho; exact ⟨a, c, e⟩
          have HRt7 := Lib.hid (ho)
          have HBs7_7 : Hid (Below w7.heap.size w7 w7) := Lib.hid (Below.refl _ _)
          clear ho
          go_wp2_with fail
          refine (vPairs_yes _ _ qs _ HRs7.out HRt7.out).mono ?_
          rintro e w8 ⟨rfl, hb⟩
          have HB8 : Hid (Below w.heap.size w w8) := Lib.hid (HB7.out.trans (hb.mono HB7.out.size))
          have HZ8 : Hid (w7.heap.size ≤ w8.heap.size) := Lib.hid hb.size
          have HRk8 := Lib.hid (HRk0.out.below HB8.out (Nat.le_refl _))
          have HRs8 := Lib.hid (HRs7.out.below hb (Nat.le_refl _))
          have HRt8 := Lib.hid (HRt7.out.below hb (Nat.le_refl _))
          have HBs6_8 : Hid (Below w6.heap.size w6 w8) := Lib.hid (HBs6_7.out.trans (hb.mono HBs6_7.out.size))
          have HBs7_8 : Hid (Below w7.heap.size w7 w8) := Lib.hid (HBs7_7.out.trans (hb.mono HBs7_7.out.size))
          clear hb
          have hml2 : qs.length ≤ 9223372036854775807 := by omega
          have HRS : Hid (∀ w', Below w8.heap.size w8 w' → ∀ j (h : j < qs.length), ∃ b0 o0, qas = some ⟨b0, o0, none⟩ ∧ w'.cell? ⟨b0, o0 + j * 2, none⟩ = some (.int .i64 qs[j].1) ∧ w'.cell? ⟨b0, o0 + j * 2 + 1, none⟩ = some (.int .i64 qs[j].2)) := Lib.hid (fun w' hb j h => by
            obtain ⟨a9, c9, e9, _, r9⟩ := HRs8.out.below hb (Nat.le_refl _)
            injection e9 with e1 e2 e3
            subst e1
            obtain ⟨b0, o0, h0, _, k0⟩ := r9 (by intro e; subst e; simp at h)
            exact ⟨b0, o0, h0, (k0 j h).1, (k0 j h).2⟩)
          go_wp2_with fail
          go_loopw [19] (fun iv wr => ∃ j : Nat, j ≤ qs.length ∧ iv = .int .i64 j ∧ Below w8.heap.size w8 wr) (fun iv _ => qs.length - (intOf iv).toNat)
          case atStart => exact ⟨0, Nat.zero_le _, rfl, Below.refl _ _⟩
          case round =>
            rename World => w9
            obtain ⟨j, hjk, rfl, hb⟩ := hrel
            have HBL := Lib.hid hb
            have z1 : (0 : Int) ≤ (j : Int) := by omega
            by_cases hlt : j < qs.length
            · obtain ⟨b0, o0, rfl, p1, p2⟩ := HRS.out _ hb j hlt
              obtain ⟨A, C, g1, g2, g3, g4⟩ := HSF.out j hlt
              obtain ⟨X, hX⟩ : ∃ X, qs[j].1 = X := ⟨_, rfl⟩
              obtain ⟨Y, hY9⟩ : ∃ Y, qs[j].2 = Y := ⟨_, rfl⟩
              rw [hX] at p1 g1 g4
              rw [hY9] at p2 g2 g4
              have g5 : ¬ Y < X := by omega
              have g6 : decide (Y < X) = false := decide_eq_false g5
              have g7 : (x2 != x2) = false := by simp
              have z2 : (j : Int) < (qs.length : Int) := by omega
              clear hX hY9 hb
              go_wp2_with fail
              go_quiet (fail)
              rename Nat => nq
              have HBq : Hid (Below w8.heap.size w8 (w9.drewN nq)) := Lib.hid (bl_drewN HBL.out nq)
              clear p1 p2
              generalize w9.drewN nq = wq at HBq ⊢
              go_wp2_with fail
              go_roundw
              case rel => exact ⟨j + 1, by omega, by go_num, HBq.out⟩
              case measure => simp [intOf]; omega
            · obtain rfl : j = qs.length := by omega
              have z2 : ¬ ((qs.length : Int) < (qs.length : Int)) := by omega
              have hb := HBL.out
              have HB9 : Hid (Below w.heap.size w w9) := Lib.hid (HB8.out.trans (hb.mono HB8.out.size))
              have HZ9 : Hid (w8.heap.size ≤ w9.heap.size) := Lib.hid hb.size
              have HRk9 := Lib.hid (HRk0.out.below HB9.out (Nat.le_refl _))
              have HRs9 := Lib.hid (HRs8.out.below hb (Nat.le_refl _))
              have HBs6_9 : Hid (Below w6.heap.size w6 w9) := Lib.hid (HBs6_8.out.trans (hb.mono HBs6_8.out.size))
              clear hb
              go_wp2_with fail
              refine (drawCubeRoot_any _ L _ HRk9.out).mono ?_
              rintro e w10 ⟨⟨y3, rfl⟩, hb⟩
              have HB10 : Hid (Below w.heap.size w w10) := Lib.hid (HB9.out.trans (hb.mono HB9.out.size))
              have HZ10 : Hid (w9.heap.size ≤ w10.heap.size) := Lib.hid hb.size
              have HRk10 := Lib.hid (HRk0.out.below HB10.out (Nat.le_refl _))
              have HRs10 := Lib.hid (HRs9.out.below hb (Nat.le_refl _))
              have HBs6_10 : Hid (Below w6.heap.size w6 w10) := Lib.hid (HBs6_9.out.trans (hb.mono HBs6_9.out.size))
              clear hb
              obtain ⟨c3, b3, hI, hS, hC3⟩ := cr_same y3
              have HI3 := Lib.hid hI
              have HS3 := Lib.hid hS
              clear hI hS
              have hb3 : (b3 != b3) = false := by simp
              have hc3 : (c3 != c3) = false := by simp
              go_wp2_with fail
              refine (HI3.out _).mono ?_
              rintro e w11 ⟨rfl, hb⟩
              have HB11 : Hid (Below w.heap.size w w11) := Lib.hid (HB10.out.trans (hb.mono HB10.out.size))
              have HZ11 : Hid (w10.heap.size ≤ w11.heap.size) := Lib.hid hb.size
              have HRk11 := Lib.hid (HRk0.out.below HB11.out (Nat.le_refl _))
              have HRs11 := Lib.hid (HRs10.out.below hb (Nat.le_refl _))
              have HBs6_11 : Hid (Below w6.heap.size w6 w11) := Lib.hid (HBs6_10.out.trans (hb.mono HBs6_10.out.size))
              clear hb
              go_wp2_with fail
              refine (HS3.out _).mono ?_
              rintro e w12 ⟨rfl, hb⟩
              have HB12 : Hid (Below w.heap.size w w12) := Lib.hid (HB11.out.trans (hb.mono HB11.out.size))
              have HZ12 : Hid (w11.heap.size ≤ w12.heap.size) := Lib.hid hb.size
              have HRk12 := Lib.hid (HRk0.out.below HB12.out (Nat.le_refl _))
              have HRs12 := Lib.hid (HRs11.out.below hb (Nat.le_refl _))
              have HBs6_12 : Hid (Below w6.heap.size w6 w12) := Lib.hid (HBs6_11.out.trans (hb.mono HBs6_11.out.size))
              clear hb
              cases b3 with
              | true =>
                obtain ⟨A3, B3, P3, D3, F3, u1, u2, u3, u4, u5, u6, u7⟩ := hC3 rfl
                have u8 : ¬ y3 < B3 := by omega
                have u9 : ¬ F3 ≤ y3 := by omega
                have u10 : decide (y3 < B3) = false := decide_eq_false u8
                have u11 : decide (F3 ≤ y3) = false := decide_eq_false u9
                clear hC3
                go_wp2_with fail
                clear u1 u2 u3 u4 u5 u6 u7 u8 u9 u10 u11
                refine (drawIsSquare_any _ L _ HRk12.out).mono ?_
                rintro e w13 ⟨⟨x4, rfl⟩, hb⟩
                have HB13 : Hid (Below w.heap.size w w13) := Lib.hid (HB12.out.trans (hb.mono HB12.out.size))
                have HZ13 : Hid (w12.heap.size ≤ w13.heap.size) := Lib.hid hb.size
                have HRk13 := Lib.hid (HRk0.out.below HB13.out (Nat.le_refl _))
                have HRs13 := Lib.hid (HRs12.out.below hb (Nat.le_refl _))
                have HBs6_13 : Hid (Below w6.heap.size w6 w13) := Lib.hid (HBs6_12.out.trans (hb.mono HBs6_12.out.size))
                clear hb
                obtain ⟨c4, b4, hI, hS⟩ := is_same x4
                have HI4 := Lib.hid hI
                have HS4 := Lib.hid hS
                clear hI hS
                have hb4 : (b4 != b4) = false := by simp
                have hc4 : (c4 != c4) = false := by simp
                go_wp2_with fail
                refine (HI4.out _).mono ?_
                rintro e w14 ⟨rfl, hb⟩
                have HB14 : Hid (Below w.heap.size w w14) := Lib.hid (HB13.out.trans (hb.mono HB13.out.size))
                have HZ14 : Hid (w13.heap.size ≤ w14.heap.size) := Lib.hid hb.size
                have HRk14 := Lib.hid (HRk0.out.below HB14.out (Nat.le_refl _))
                have HRs14 := Lib.hid (HRs13.out.below hb (Nat.le_refl _))
                have HBs6_14 : Hid (Below w6.heap.size w6 w14) := Lib.hid (HBs6_13.out.trans (hb.mono HBs6_13.out.size))
                clear hb
                go_wp2_with fail
                refine (HS4.out _).mono ?_
                rintro e w15 ⟨rfl, hb⟩
                have HB15 : Hid (Below w.heap.size w w15) := Lib.hid (HB14.out.trans (hb.mono HB14.out.size))
                have HZ15 : Hid (w14.heap.size ≤ w15.heap.size) := Lib.hid hb.size
                have HRk15 := Lib.hid (HRk0.out.below HB15.out (Nat.le_refl _))
                have HRs15 := Lib.hid (HRs14.out.below hb (Nat.le_refl _))
                have HBs6_15 : Hid (Below w6.heap.size w6 w15) := Lib.hid (HBs6_14.out.trans (hb.mono HBs6_14.out.size))
                clear hb
                go_wp2_with fail
                refine (drawNextSquare_any _ L _ HRk15.out).mono ?_
                rintro e w16 ⟨⟨x5, rfl⟩, hb⟩
                have HB16 : Hid (Below w.heap.size w w16) := Lib.hid (HB15.out.trans (hb.mono HB15.out.size))
                have HZ16 : Hid (w15.heap.size ≤ w16.heap.size) := Lib.hid hb.size
                have HRk16 := Lib.hid (HRk0.out.below HB16.out (Nat.le_refl _))
                have HRs16 := Lib.hid (HRs15.out.below hb (Nat.le_refl _))
                have HBs6_16 : Hid (Below w6.heap.size w6 w16) := Lib.hid (HBs6_15.out.trans (hb.mono HBs6_15.out.size))
                clear hb
                obtain ⟨c5, b5, hI, hS⟩ := ns_same x5
                have HI5 := Lib.hid hI
                have HS5 := Lib.hid hS
                clear hI hS
                have hb5 : (b5 == b5) = true := by simp
                have hc5 : (c5 == c5) = true := by simp
                go_wp2_with fail
                refine (HI5.out _).mono ?_
                rintro e w17 ⟨rfl, hb⟩
                have HB17 : Hid (Below w.heap.size w w17) := Lib.hid (HB16.out.trans (hb.mono HB16.out.size))
                have HZ17 : Hid (w16.heap.size ≤ w17.heap.size) := Lib.hid hb.size
                have HRk17 := Lib.hid (HRk0.out.below HB17.out (Nat.le_refl _))
                have HRs17 := Lib.hid (HRs16.out.below hb (Nat.le_refl _))
                have HBs6_17 : Hid (Below w6.heap.size w6 w17) := Lib.hid (HBs6_16.out.trans (hb.mono HBs6_16.out.size))
                clear hb
                go_wp2_with fail
                refine (HS5.out _).mono ?_
                rintro e w18 ⟨rfl, hb⟩
                have HB18 : Hid (Below w.heap.size w w18) := Lib.hid (HB17.out.trans (hb.mono HB17.out.size))
                have HZ18 : Hid (w17.heap.size ≤ w18.heap.size) := Lib.hid hb.size
                have HRk18 := Lib.hid (HRk0.out.below HB18.out (Nat.le_refl _))
                have HRs18 := Lib.hid (HRs17.out.below hb (Nat.le_refl _))
                have HBs6_18 : Hid (Below w6.heap.size w6 w18) := Lib.hid (HBs6_17.out.trans (hb.mono HBs6_17.out.size))
                clear hb
                go_wp2_with fail
                go_ret
                exact ⟨ret_bool (by first | (simp; done) | rfl), HB18.out⟩
              | false =>
                clear hC3
                go_wp2_with fail
                refine (drawIsSquare_any _ L _ HRk12.out).mono ?_
                rintro e w13 ⟨⟨x4, rfl⟩, hb⟩
                have HB13 : Hid (Below w.heap.size w w13) := Lib.hid (HB12.out.trans (hb.mono HB12.out.size))
                have HZ13 : Hid (w12.heap.size ≤ w13.heap.size) := Lib.hid hb.size
                have HRk13 := Lib.hid (HRk0.out.below HB13.out (Nat.le_refl _))
                have HRs13 := Lib.hid (HRs12.out.below hb (Nat.le_refl _))
                have HBs6_13 : Hid (Below w6.heap.size w6 w13) := Lib.hid (HBs6_12.out.trans (hb.mono HBs6_12.out.size))
                clear hb
                obtain ⟨c4, b4, hI, hS⟩ := is_same x4
                have HI4 := Lib.hid hI
                have HS4 := Lib.hid hS
                clear hI hS
                have hb4 : (b4 != b4) = false := by simp
                have hc4 : (c4 != c4) = false := by simp
                go_wp2_with fail
                refine (HI4.out _).mono ?_
                rintro e w14 ⟨rfl, hb⟩
                have HB14 : Hid (Below w.heap.size w w14) := Lib.hid (HB13.out.trans (hb.mono HB13.out.size))
                have HZ14 : Hid (w13.heap.size ≤ w14.heap.size) := Lib.hid hb.size
                have HRk14 := Lib.hid (HRk0.out.below HB14.out (Nat.le_refl _))
                have HRs14 := Lib.hid (HRs13.out.below hb (Nat.le_refl _))
                have HBs6_14 : Hid (Below w6.heap.size w6 w14) := Lib.hid (HBs6_13.out.trans (hb.mono HBs6_13.out.size))
                clear hb
                go_wp2_with fail
                refine (HS4.out _).mono ?_
                rintro e w15 ⟨rfl, hb⟩
                have HB15 : Hid (Below w.heap.size w w15) := Lib.hid (HB14.out.trans (hb.mono HB14.out.size))
                have HZ15 : Hid (w14.heap.size ≤ w15.heap.size) := Lib.hid hb.size
                have HRk15 := Lib.hid (HRk0.out.below HB15.out (Nat.le_refl _))
                have HRs15 := Lib.hid (HRs14.out.below hb (Nat.le_refl _))
                have HBs6_15 : Hid (Below w6.heap.size w6 w15) := Lib.hid (HBs6_14.out.trans (hb.mono HBs6_14.out.size))
                clear hb
                go_wp2_with fail
                refine (drawNextSquare_any _ L _ HRk15.out).mono ?_
                rintro e w16 ⟨⟨x5, rfl⟩, hb⟩
                have HB16 : Hid (Below w.heap.size w w16) := Lib.hid (HB15.out.trans (hb.mono HB15.out.size))
                have HZ16 : Hid (w15.heap.size ≤ w16.heap.size) := Lib.hid hb.size
                have HRk16 := Lib.hid (HRk0.out.below HB16.out (Nat.le_refl _))
                have HRs16 := Lib.hid (HRs15.out.below hb (Nat.le_refl _))
                have HBs6_16 : Hid (Below w6.heap.size w6 w16) := Lib.hid (HBs6_15.out.trans (hb.mono HBs6_15.out.size))
                clear hb
                obtain ⟨c5, b5, hI, hS⟩ := ns_same x5
                have HI5 := Lib.hid hI
                have HS5 := Lib.hid hS
                clear hI hS
                have hb5 : (b5 == b5) = true := by simp
                have hc5 : (c5 == c5) = true := by simp
                go_wp2_with fail
                refine (HI5.out _).mono ?_
                rintro e w17 ⟨rfl, hb⟩
                have HB17 : Hid (Below w.heap.size w w17) := Lib.hid (HB16.out.trans (hb.mono HB16.out.size))
                have HZ17 : Hid (w16.heap.size ≤ w17.heap.size) := Lib.hid hb.size
                have HRk17 := Lib.hid (HRk0.out.below HB17.out (Nat.le_refl _))
                have HRs17 := Lib.hid (HRs16.out.below hb (Nat.le_refl _))
                have HBs6_17 : Hid (Below w6.heap.size w6 w17) := Lib.hid (HBs6_16.out.trans (hb.mono HBs6_16.out.size))
                clear hb
                go_wp2_with fail
                refine (HS5.out _).mono ?_
                rintro e w18 ⟨rfl, hb⟩
                have HB18 : Hid (Below w.heap.size w w18) := Lib.hid (HB17.out.trans (hb.mono HB17.out.size))
                have HZ18 : Hid (w17.heap.size ≤ w18.heap.size) := Lib.hid hb.size
                have HRk18 := Lib.hid (HRk0.out.below HB18.out (Nat.le_refl _))
                have HRs18 := Lib.hid (HRs17.out.below hb (Nat.le_refl _))
                have HBs6_18 : Hid (Below w6.heap.size w6 w18) := Lib.hid (HBs6_17.out.trans (hb.mono HBs6_17.out.size))
                clear hb
                go_wp2_with fail
                go_ret
                exact ⟨ret_bool (by first | (simp; done) | rfl), HB18.out⟩
    | false =>
      clear hY
      go_wp2_with fail
      refine (drawSumOfTwo_any _ L _ HRk3.out).mono ?_
      rintro e w4 ⟨⟨x2, rfl⟩, hb⟩
      have HB4 : Hid (Below w.heap.size w w4) := Lib.hid (HB3.out.trans (hb.mono HB3.out.size))
      have HZ4 : Hid (w3.heap.size ≤ w4.heap.size) := Lib.hid hb.size
      have HRk4 := Lib.hid (HRk0.out.below HB4.out (Nat.le_refl _))
      clear hb
      obtain ⟨qs, b2, hI, hS, hq71, hsf⟩ := st_same x2
      have HI2 := Lib.hid hI
      have HS2 := Lib.hid hS
      have HSF := Lib.hid hsf
      clear hI hS hsf
      have hb2 : (b2 != b2) = false := by simp
      go_wp2_with fail
      refine (HI2.out _).mono ?_
      rintro e w5 ⟨⟨v, rfl, ho⟩, hb⟩
      have HB5 : Hid (Below w.heap.size w w5) := Lib.hid (HB4.out.trans (hb.mono HB4.out.size))
      have HZ5 : Hid (w4.heap.size ≤ w5.heap.size) := Lib.hid hb.size
      have HRk5 := Lib.hid (HRk0.out.below HB5.out (Nat.le_refl _))
      clear hb
      obtain ⟨qas, qcs, rfl⟩ : ∃ a c, v = .slice a qs.length c := by obtain ⟨a, c, e, _⟩ := ho; exact ⟨a, c, e⟩
      have HRs5 := Lib.hid (ho)
      have HBs5_5 : Hid (Below w5.heap.size w5 w5) := Lib.hid (Below.refl _ _)
      clear ho
      go_wp2_with fail
      refine (HS2.out _).mono ?_
      rintro e w6 ⟨⟨v, rfl, ho⟩, hb⟩
      have HB6 : Hid (Below w.heap.size w w6) := Lib.hid (HB5.out.trans (hb.mono HB5.out.size))
      have HZ6 : Hid (w5.heap.size ≤ w6.heap.size) := Lib.hid hb.size
      have HRk6 := Lib.hid (HRk0.out.below HB6.out (Nat.le_refl _))
      have HRs6 := Lib.hid (HRs5.out.below hb (Nat.le_refl _))
      have HBs5_6 : Hid (Below w5.heap.size w5 w6) := Lib.hid (HBs5_5.out.trans (hb.mono HBs5_5.out.size))
      clear hb
      obtain ⟨qat, qct, rfl⟩ : ∃ a c, v = .slice a qs.length c := by obtain ⟨a, c, e, _⟩ := ho; exact ⟨a, c, e⟩
      have HRt6 := Lib.hid (ho)
      have HBs6_6 : Hid (Below w6.heap.size w6 w6) := Lib.hid (Below.refl _ _)
      clear ho
      go_wp2_with fail
      refine (vPairs_yes _ _ qs _ HRs6.out HRt6.out).mono ?_
      rintro e w7 ⟨rfl, hb⟩
      have HB7 : Hid (Below w.heap.size w w7) := Lib.hid (HB6.out.trans (hb.mono HB6.out.size))
      have HZ7 : Hid (w6.heap.size ≤ w7.heap.size) := Lib.hid hb.size
      have HRk7 := Lib.hid (HRk0.out.below HB7.out (Nat.le_refl _))
      have HRs7 := Lib.hid (HRs6.out.below hb (Nat.le_refl _))
      have HRt7 := Lib.hid (HRt6.out.below hb (Nat.le_refl _))
      have HBs5_7 : Hid (Below w5.heap.size w5 w7) := Lib.hid (HBs5_6.out.trans (hb.mono HBs5_6.out.size))
      have HBs6_7 : Hid (Below w6.heap.size w6 w7) := Lib.hid (HBs6_6.out.trans (hb.mono HBs6_6.out.size))
      clear hb
      have hml2 : qs.length ≤ 9223372036854775807 := by omega
      have HRS : Hid (∀ w', Below w7.heap.size w7 w' → ∀ j (h : j < qs.length), ∃ b0 o0, qas = some ⟨b0, o0, none⟩ ∧ w'.cell? ⟨b0, o0 + j * 2, none⟩ = some (.int .i64 qs[j].1) ∧ w'.cell? ⟨b0, o0 + j * 2 + 1, none⟩ = some (.int .i64 qs[j].2)) := Lib.hid (fun w' hb j h => by
        obtain ⟨a9, c9, e9, _, r9⟩ := HRs7.out.below hb (Nat.le_refl _)
        injection e9 with e1 e2 e3
        subst e1
        obtain ⟨b0, o0, h0, _, k0⟩ := r9 (by intro e; subst e; simp at h)
        exact ⟨b0, o0, h0, (k0 j h).1, (k0 j h).2⟩)
      go_wp2_with fail
      go_loopw [19] (fun iv wr => ∃ j : Nat, j ≤ qs.length ∧ iv = .int .i64 j ∧ Below w7.heap.size w7 wr) (fun iv _ => qs.length - (intOf iv).toNat)
      case atStart => exact ⟨0, Nat.zero_le _, rfl, Below.refl _ _⟩
      case round =>
        rename World => w8
        obtain ⟨j, hjk, rfl, hb⟩ := hrel
        have HBL := Lib.hid hb
        have z1 : (0 : Int) ≤ (j : Int) := by omega
        by_cases hlt : j < qs.length
        · obtain ⟨b0, o0, rfl, p1, p2⟩ := HRS.out _ hb j hlt
          obtain ⟨A, C, g1, g2, g3, g4⟩ := HSF.out j hlt
          obtain ⟨X, hX⟩ : ∃ X, qs[j].1 = X := ⟨_, rfl⟩
          obtain ⟨Y, hY9⟩ : ∃ Y, qs[j].2 = Y := ⟨_, rfl⟩
          rw [hX] at p1 g1 g4
          rw [hY9] at p2 g2 g4
          have g5 : ¬ Y < X := by omega
          have g6 : decide (Y < X) = false := decide_eq_false g5
          have g7 : (x2 != x2) = false := by simp
          have z2 : (j : Int) < (qs.length : Int) := by omega
          clear hX hY9 hb
          go_wp2_with fail
          go_quiet (fail)
          rename Nat => nq
          have HBq : Hid (Below w7.heap.size w7 (w8.drewN nq)) := Lib.hid (bl_drewN HBL.out nq)
          clear p1 p2
          generalize w8.drewN nq = wq at HBq ⊢
          go_wp2_with fail
          go_roundw
          case rel => exact ⟨j + 1, by omega, by go_num, HBq.out⟩
          case measure => simp [intOf]; omega
        · obtain rfl : j = qs.length := by omega
          have z2 : ¬ ((qs.length : Int) < (qs.length : Int)) := by omega
          have hb := HBL.out
          have HB8 : Hid (Below w.heap.size w w8) := Lib.hid (HB7.out.trans (hb.mono HB7.out.size))
          have HZ8 : Hid (w7.heap.size ≤ w8.heap.size) := Lib.hid hb.size
          have HRk8 := Lib.hid (HRk0.out.below HB8.out (Nat.le_refl _))
          have HRs8 := Lib.hid (HRs7.out.below hb (Nat.le_refl _))
          have HBs5_8 : Hid (Below w5.heap.size w5 w8) := Lib.hid (HBs5_7.out.trans (hb.mono HBs5_7.out.size))
          clear hb
          go_wp2_with fail
          refine (drawCubeRoot_any _ L _ HRk8.out).mono ?_
          rintro e w9 ⟨⟨y3, rfl⟩, hb⟩
          have HB9 : Hid (Below w.heap.size w w9) := Lib.hid (HB8.out.trans (hb.mono HB8.out.size))
          have HZ9 : Hid (w8.heap.size ≤ w9.heap.size) := Lib.hid hb.size
          have HRk9 := Lib.hid (HRk0.out.below HB9.out (Nat.le_refl _))
          have HRs9 := Lib.hid (HRs8.out.below hb (Nat.le_refl _))
          have HBs5_9 : Hid (Below w5.heap.size w5 w9) := Lib.hid (HBs5_8.out.trans (hb.mono HBs5_8.out.size))
          clear hb
          obtain ⟨c3, b3, hI, hS, hC3⟩ := cr_same y3
          have HI3 := Lib.hid hI
          have HS3 := Lib.hid hS
          clear hI hS
          have hb3 : (b3 != b3) = false := by simp
          have hc3 : (c3 != c3) = false := by simp
          go_wp2_with fail
          refine (HI3.out _).mono ?_
          rintro e w10 ⟨rfl, hb⟩
          have HB10 : Hid (Below w.heap.size w w10) := Lib.hid (HB9.out.trans (hb.mono HB9.out.size))
          have HZ10 : Hid (w9.heap.size ≤ w10.heap.size) := Lib.hid hb.size
          have HRk10 := Lib.hid (HRk0.out.below HB10.out (Nat.le_refl _))
          have HRs10 := Lib.hid (HRs9.out.below hb (Nat.le_refl _))
          have HBs5_10 : Hid (Below w5.heap.size w5 w10) := Lib.hid (HBs5_9.out.trans (hb.mono HBs5_9.out.size))
          clear hb
          go_wp2_with fail
          refine (HS3.out _).mono ?_
          rintro e w11 ⟨rfl, hb⟩
          have HB11 : Hid (Below w.heap.size w w11) := Lib.hid (HB10.out.trans (hb.mono HB10.out.size))
          have HZ11 : Hid (w10.heap.size ≤ w11.heap.size) := Lib.hid hb.size
          have HRk11 := Lib.hid (HRk0.out.below HB11.out (Nat.le_refl _))
          have HRs11 := Lib.hid (HRs10.out.below hb (Nat.le_refl _))
          have HBs5_11 : Hid (Below w5.heap.size w5 w11) := Lib.hid (HBs5_10.out.trans (hb.mono HBs5_10.out.size))
          clear hb
          cases b3 with
          | true =>
            obtain ⟨A3, B3, P3, D3, F3, u1, u2, u3, u4, u5, u6, u7⟩ := hC3 rfl
            have u8 : ¬ y3 < B3 := by omega
            have u9 : ¬ F3 ≤ y3 := by omega
            have u10 : decide (y3 < B3) = false := decide_eq_false u8
            have u11 : decide (F3 ≤ y3) = false := decide_eq_false u9
            clear hC3
            go_wp2_with fail
            clear u1 u2 u3 u4 u5 u6 u7 u8 u9 u10 u11
            refine (drawIsSquare_any _ L _ HRk11.out).mono ?_
            rintro e w12 ⟨⟨x4, rfl⟩, hb⟩
            have HB12 : Hid (Below w.heap.size w w12) := Lib.hid (HB11.out.trans (hb.mono HB11.out.size))
            have HZ12 : Hid (w11.heap.size ≤ w12.heap.size) := Lib.hid hb.size
            have HRk12 := Lib.hid (HRk0.out.below HB12.out (Nat.le_refl _))
            have HRs12 := Lib.hid (HRs11.out.below hb (Nat.le_refl _))
            have HBs5_12 : Hid (Below w5.heap.size w5 w12) := Lib.hid (HBs5_11.out.trans (hb.mono HBs5_11.out.size))
            clear hb
            obtain ⟨c4, b4, hI, hS⟩ := is_same x4
            have HI4 := Lib.hid hI
            have HS4 := Lib.hid hS
            clear hI hS
            have hb4 : (b4 != b4) = false := by simp
            have hc4 : (c4 != c4) = false := by simp
            go_wp2_with fail
            refine (HI4.out _).mono ?_
            rintro e w13 ⟨rfl, hb⟩
            have HB13 : Hid (Below w.heap.size w w13) := Lib.hid (HB12.out.trans (hb.mono HB12.out.size))
            have HZ13 : Hid (w12.heap.size ≤ w13.heap.size) := Lib.hid hb.size
            have HRk13 := Lib.hid (HRk0.out.below HB13.out (Nat.le_refl _))
            have HRs13 := Lib.hid (HRs12.out.below hb (Nat.le_refl _))
            have HBs5_13 : Hid (Below w5.heap.size w5 w13) := Lib.hid (HBs5_12.out.trans (hb.mono HBs5_12.out.size))
            clear hb
            go_wp2_with fail
            refine (HS4.out _).mono ?_
            rintro e w14 ⟨rfl, hb⟩
            have HB14 : Hid (Below w.heap.size w w14) := Lib.hid (HB13.out.trans (hb.mono HB13.out.size))
            have HZ14 : Hid (w13.heap.size ≤ w14.heap.size) := Lib.hid hb.size
            have HRk14 := Lib.hid (HRk0.out.below HB14.out (Nat.le_refl _))
            have HRs14 := Lib.hid (HRs13.out.below hb (Nat.le_refl _))
            have HBs5_14 : Hid (Below w5.heap.size w5 w14) := Lib.hid (HBs5_13.out.trans (hb.mono HBs5_13.out.size))
            clear hb
            go_wp2_with fail
            refine (drawNextSquare_any _ L _ HRk14.out).mono ?_
            rintro e w15 ⟨⟨x5, rfl⟩, hb⟩
            have HB15 : Hid (Below w.heap.size w w15) := Lib.hid (HB14.out.trans (hb.mono HB14.out.size))
            have HZ15 : Hid (w14.heap.size ≤ w15.heap.size) := Lib.hid hb.size
            have HRk15 := Lib.hid (HRk0.out.below HB15.out (Nat.le_refl _))
            have HRs15 := Lib.hid (HRs14.out.below hb (Nat.le_refl _))
            have HBs5_15 : Hid (Below w5.heap.size w5 w15) := Lib.hid (HBs5_14.out.trans (hb.mono HBs5_14.out.size))
            clear hb
            obtain ⟨c5, b5, hI, hS⟩ := ns_same x5
            have HI5 := Lib.hid hI
            have HS5 := Lib.hid hS
            clear hI hS
            have hb5 : (b5 == b5) = true := by simp
            have hc5 : (c5 == c5) = true := by simp
            go_wp2_with fail
            refine (HI5.out _).mono ?_
            rintro e w16 ⟨rfl, hb⟩
            have HB16 : Hid (Below w.heap.size w w16) := Lib.hid (HB15.out.trans (hb.mono HB15.out.size))
            have HZ16 : Hid (w15.heap.size ≤ w16.heap.size) := Lib.hid hb.size
            have HRk16 := Lib.hid (HRk0.out.below HB16.out (Nat.le_refl _))
            have HRs16 := Lib.hid (HRs15.out.below hb (Nat.le_refl _))
            have HBs5_16 : Hid (Below w5.heap.size w5 w16) := Lib.hid (HBs5_15.out.trans (hb.mono HBs5_15.out.size))
            clear hb
            go_wp2_with fail
            refine (HS5.out _).mono ?_
            rintro e w17 ⟨rfl, hb⟩
            have HB17 : Hid (Below w.heap.size w w17) := Lib.hid (HB16.out.trans (hb.mono HB16.out.size))
            have HZ17 : Hid (w16.heap.size ≤ w17.heap.size) := Lib.hid hb.size
            have HRk17 := Lib.hid (HRk0.out.below HB17.out (Nat.le_refl _))
            have HRs17 := Lib.hid (HRs16.out.below hb (Nat.le_refl _))
            have HBs5_17 : Hid (Below w5.heap.size w5 w17) := Lib.hid (HBs5_16.out.trans (hb.mono HBs5_16.out.size))
            clear hb
            go_wp2_with fail
            go_ret
            exact ⟨ret_bool (by first | (simp; done) | rfl), HB17.out⟩
          | false =>
            clear hC3
            go_wp2_with fail
            refine (drawIsSquare_any _ L _ HRk11.out).mono ?_
            rintro e w12 ⟨⟨x4, rfl⟩, hb⟩
            have HB12 : Hid (Below w.heap.size w w12) := Lib.hid (HB11.out.trans (hb.mono HB11.out.size))
            have HZ12 : Hid (w11.heap.size ≤ w12.heap.size) := Lib.hid hb.size
            have HRk12 := Lib.hid (HRk0.out.below HB12.out (Nat.le_refl _))
            have HRs12 := Lib.hid (HRs11.out.below hb (Nat.le_refl _))
            have HBs5_12 : Hid (Below w5.heap.size w5 w12) := Lib.hid (HBs5_11.out.trans (hb.mono HBs5_11.out.size))
            clear hb
            obtain ⟨c4, b4, hI, hS⟩ := is_same x4
            have HI4 := Lib.hid hI
            have HS4 := Lib.hid hS
            clear hI hS
            have hb4 : (b4 != b4) = false := by simp
            have hc4 : (c4 != c4) = false := by simp
            go_wp2_with fail
            refine (HI4.out _).mono ?_
            rintro e w13 ⟨rfl, hb⟩
            have HB13 : Hid (Below w.heap.size w w13) := Lib.hid (HB12.out.trans (hb.mono HB12.out.size))
            have HZ13 : Hid (w12.heap.size ≤ w13.heap.size) := Lib.hid hb.size
            have HRk13 := Lib.hid (HRk0.out.below HB13.out (Nat.le_refl _))
            have HRs13 := Lib.hid (HRs12.out.below hb (Nat.le_refl _))
            have HBs5_13 : Hid (Below w5.heap.size w5 w13) := Lib.hid (HBs5_12.out.trans (hb.mono HBs5_12.out.size))
            clear hb
            go_wp2_with fail
            refine (HS4.out _).mono ?_
            rintro e w14 ⟨rfl, hb⟩
            have HB14 : Hid (Below w.heap.size w w14) := Lib.hid (HB13.out.trans (hb.mono HB13.out.size))
            have HZ14 : Hid (w13.heap.size ≤ w14.heap.size) := Lib.hid hb.size
            have HRk14 := Lib.hid (HRk0.out.below HB14.out (Nat.le_refl _))
            have HRs14 := Lib.hid (HRs13.out.below hb (Nat.le_refl _))
            have HBs5_14 : Hid (Below w5.heap.size w5 w14) := Lib.hid (HBs5_13.out.trans (hb.mono HBs5_13.out.size))
            clear hb
            go_wp2_with fail
            refine (drawNextSquare_any _ L _ HRk14.out).mono ?_
            rintro e w15 ⟨⟨x5, rfl⟩, hb⟩
            have HB15 : Hid (Below w.heap.size w w15) := Lib.hid (HB14.out.trans (hb.mono HB14.out.size))
            have HZ15 : Hid (w14.heap.size ≤ w15.heap.size) := Lib.hid hb.size
            have HRk15 := Lib.hid (HRk0.out.below HB15.out (Nat.le_refl _))
            have HRs15 := Lib.hid (HRs14.out.below hb (Nat.le_refl _))
            have HBs5_15 : Hid (Below w5.heap.size w5 w15) := Lib.hid (HBs5_14.out.trans (hb.mono HBs5_14.out.size))
            clear hb
            obtain ⟨c5, b5, hI, hS⟩ := ns_same x5
            have HI5 := Lib.hid hI
            have HS5 := Lib.hid hS
            clear hI hS
            have hb5 : (b5 == b5) = true := by simp
            have hc5 : (c5 == c5) = true := by simp
            go_wp2_with fail
            refine (HI5.out _).mono ?_
            rintro e w16 ⟨rfl, hb⟩
            have HB16 : Hid (Below w.heap.size w w16) := Lib.hid (HB15.out.trans (hb.mono HB15.out.size))
            have HZ16 : Hid (w15.heap.size ≤ w16.heap.size) := Lib.hid hb.size
            have HRk16 := Lib.hid (HRk0.out.below HB16.out (Nat.le_refl _))
            have HRs16 := Lib.hid (HRs15.out.below hb (Nat.le_refl _))
            have HBs5_16 : Hid (Below w5.heap.size w5 w16) := Lib.hid (HBs5_15.out.trans (hb.mono HBs5_15.out.size))
            clear hb
            go_wp2_with fail
            refine (HS5.out _).mono ?_
            rintro e w17 ⟨rfl, hb⟩
            have HB17 : Hid (Below w.heap.size w w17) := Lib.hid (HB16.out.trans (hb.mono HB16.out.size))
            have HZ17 : Hid (w16.heap.size ≤ w17.heap.size) := Lib.hid hb.size
            have HRk17 := Lib.hid (HRk0.out.below HB17.out (Nat.le_refl _))
            have HRs17 := Lib.hid (HRs16.out.below hb (Nat.le_refl _))
            have HBs5_17 : Hid (Below w5.heap.size w5 w17) := Lib.hid (HBs5_16.out.trans (hb.mono HBs5_16.out.size))
            clear hb
            go_wp2_with fail
            go_ret
            exact ⟨ret_bool (by first | (simp; done) | rfl), HB17.out⟩
end Go.Proofs.Ytlfplnbmgmookaa
