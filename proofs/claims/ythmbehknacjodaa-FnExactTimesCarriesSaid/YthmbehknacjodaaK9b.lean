/- Parts laid as one: It9, Is9, Io9, Itot. -/
import Derived.Test.YthmbehknacjodaaKu
import Derived.Test.YthmbehknacjodaaK9c
import Derived.Test.YthmbehknacjodaaKr
import Derived.Maps.OwnIn
import Derived.Shelf.RegionOpen
/-! It9 -/
namespace Go.Proofs.Ythmbehknacjodaa
set_option linter.unusedVariables false
open Go.RowKit


set_option maxRecDepth 100000 in
set_option maxHeartbeats 1600000 in
theorem impDigitProducts_yes (n : Nat) (d : Int) (w : World) (h : n ≤ 9999) (hd : 0 ≤ d ∧ d ≤ 9) :
    Calls Try.prog 42 #[.int .i64 (n : Int), .int .i64 d] w fun e w' => (∃ sq, e = .returned (.tuple #[sq, .bool true]) ∧ w'.ownsRow w.heap.size 3 1 sq (dpL d (dgL n)).length (flatC inC (dpL d (dgL n)))) ∧ Below w.heap.size w w' := by
  have HK : Hid (okFs (n : Int) d) := Lib.hid ⟨by omega, by omega⟩
  go_enter Try.func42, Try.ntmps42
  go_wp2_with fail
  refine (areF_yes _ _ w HK.out).mono ?_
  rintro e w2 ⟨rfl, hw2⟩
  subst w2
  go_wp2_with fail
  refine (rowOf_any n d w h hd).mono ?_
  rintro e w2 ⟨⟨sq, rfl, ho⟩, hb⟩
  have HO := Lib.hid ho
  have HB := Lib.hid hb
  clear ho hb
  go_wp2_with fail
  go_ret2
  exact ⟨⟨_, rfl, HO.out⟩, HB.out⟩
set_option maxRecDepth 100000 in
set_option maxHeartbeats 800000 in
theorem impDigitProducts_no (n d : Int) (w : World) (h : ¬ ((0 ≤ n ∧ n ≤ 9999) ∧ (0 ≤ d ∧ d ≤ 9))) :
    Calls Try.prog 42 #[.int .i64 n, .int .i64 d] w fun e w' => (∃ sq, e = .returned (.tuple #[sq, .bool false]) ∧ w'.ownsRow w.heap.size 3 1 sq ([] : List Int).length (flatC inC ([] : List Int))) ∧ Below w.heap.size w w' := by
  by_cases hk : okFs n d
  · have HK := Lib.hid hk
    have z1 : 9 < d := by
      rcases Int.lt_or_le 9 d with h1 | h1
      · exact h1
      · exact absurd ⟨hk.1, hk.2.1, h1⟩ h
    clear h hk
    go_enter Try.func42, Try.ntmps42
    go_wp2_with fail
    refine (areF_yes _ _ w HK.out).mono ?_
    rintro e w2 ⟨rfl, hw2⟩
    subst w2
    go_wp2_with fail
    go_ret2
    exact ⟨⟨_, rfl, World.ownsRow_made (base := w.heap.size) (e := 3) (size := 1) w #[] 0 (Nat.le_refl _) (Nat.zero_le _) (by simp)⟩, (Below.refl _ _).alloc (Nat.le_refl _) _⟩
  · have HK := Lib.hid hk
    clear h hk
    go_enter Try.func42, Try.ntmps42
    go_wp2_with fail
    refine (areF_no _ _ w HK.out).mono ?_
    rintro e w2 ⟨rfl, hw2⟩
    subst w2
    go_wp2_with fail
    go_ret2
    exact ⟨⟨_, rfl, World.ownsRow_made (base := w.heap.size) (e := 3) (size := 1) w #[] 0 (Nat.le_refl _) (Nat.zero_le _) (by simp)⟩, (Below.refl _ _).alloc (Nat.le_refl _) _⟩

set_option maxRecDepth 100000 in
set_option maxHeartbeats 800000 in
theorem impCastingOut_yes (a b : Nat) (p : Int) (w : World) (ha : a ≤ 9999) (hb : b ≤ 9999) (hp : 0 ≤ p) :
    Calls Try.prog 38 #[.int .i64 (a : Int), .int .i64 (b : Int), .int .i64 p] w fun e w' => e = .returned (.tuple #[.bool (((a : Int) * (b : Int)) % 9 == p % 9), .bool true]) ∧ Below w.heap.size w w' := by
  have hm := mul_top ha hb
  have hok : okFs (a : Int) (b : Int) := ⟨by omega, by omega⟩
  obtain ⟨P, hP⟩ : ∃ P : Int, (a : Int) * (b : Int) = P := ⟨_, rfl⟩
  have hw : IntKind.i64.wrap ((a : Int) * (b : Int)) = P := by rw [IntKind.wrap_i64]; omega
  rw [hP] at hm ⊢
  rw [show (P % 9 == p % 9) = (p % 9 == P % 9) from Bool.beq_comm ..]
  have HK := Lib.hid hok
  have z1 : ¬ p < 0 := by omega
  clear hok hP
  go_enter Try.func38, Try.ntmps38
  go_wp2_with fail
  refine (areF_yes _ _ w HK.out).mono ?_
  rintro e w2 ⟨rfl, hw2⟩
  subst w2
  go_wp2_with fail
  go_ret2
  exact ⟨rfl, Below.refl _ _⟩
set_option maxRecDepth 100000 in
set_option maxHeartbeats 800000 in
theorem impCastingOut_no (a b p : Int) (w : World) (h : ¬ (okFs a b ∧ 0 ≤ p)) :
    Calls Try.prog 38 #[.int .i64 a, .int .i64 b, .int .i64 p] w fun e w' => e = .returned (.tuple #[.bool false, .bool false]) ∧ Below w.heap.size w w' := by
  by_cases hk : okFs a b
  · have HK := Lib.hid hk
    have z1 : p < 0 := by
      rcases Int.lt_or_le p 0 with h1 | h1
      · exact h1
      · exact absurd ⟨hk, h1⟩ h
    clear hk h
    go_enter Try.func38, Try.ntmps38
    go_wp2_with fail
    refine (areF_yes _ _ w HK.out).mono ?_
    rintro e w2 ⟨rfl, hw2⟩
    subst w2
    go_wp2_with fail
    go_ret2
    exact ⟨rfl, Below.refl _ _⟩
  · have HK := Lib.hid hk
    clear hk h
    go_enter Try.func38, Try.ntmps38
    go_wp2_with fail
    refine (areF_no _ _ w HK.out).mono ?_
    rintro e w2 ⟨rfl, hw2⟩
    subst w2
    go_wp2_with fail
    go_ret2
    exact ⟨rfl, Below.refl _ _⟩

set_option maxRecDepth 100000 in
set_option maxHeartbeats 3200000 in
theorem impWrongDigits_yes (a b n : Nat) (w : World) (ha : a ≤ 9999) (hb9 : b ≤ 9999) (hn : n ≤ 99999999) :
    Calls Try.prog 36 #[.int .i64 (a : Int), .int .i64 (b : Int), .int .i64 (n : Int)] w fun e w' => (∃ sq, e = .returned (.tuple #[sq, .bool true]) ∧ w'.ownsRow w.heap.size 3 1 sq (wrL 8 0 (a * b) n).length (flatC inC (wrL 8 0 (a * b) n))) ∧ Below w.heap.size w w' := by
  obtain ⟨i0, hi, hz0, hz1, hz2⟩ := info_parts Try.infoI9
  have HK : Hid (okFs (a : Int) (b : Int)) := Lib.hid ⟨by omega, by omega⟩
  have hmt := mul_top ha hb9
  obtain ⟨P, hP⟩ : ∃ P : Nat, a * b = P := ⟨_, rfl⟩
  have hPi : (a : Int) * (b : Int) = (P : Int) := by rw [← hP]; simp
  have hw : IntKind.i64.wrap ((a : Int) * (b : Int)) = (P : Int) := by rw [IntKind.wrap_i64]; omega
  have hPb : P ≤ 99980001 := by omega
  have HL : Hid ((wrL 8 0 P n).length ≤ 8) := Lib.hid (wrL_len 8 0 P n)
  rw [hP]
  obtain ⟨W, hW⟩ : ∃ W, wrL 8 0 P n = W := ⟨_, rfl⟩
  have HW0 := Lib.hid hW.symm
  rw [hW] at HL ⊢
  clear hW hP hPi hmt ha hb9
  go_enter Try.func36, Try.ntmps36
  go_wp2_with fail
  refine (areF_yes _ _ w HK.out).mono ?_
  rintro e w2 ⟨rfl, hw2⟩
  subst w2
  go_wp2_with fail
  have HO0 : Hid (OutA w.heap.size 0 0 (w.alloc (.cells #[] 3)) 3 1 w.heap.size 0 0 []) := Lib.hid (outA_made w _ 1 (Nat.le_refl _) (Nat.zero_le _))
  have HB0 : Hid (Below w.heap.size w (w.alloc (.cells #[] 3))) := Lib.hid ((Below.refl _ _).alloc (Nat.le_refl _) _)
  generalize w.alloc (.cells #[] 3) = w1 at HO0 HB0 ⊢
  go_loopw [2, 8, 9, 10] (fun nv ov iv pv wr => ∃ (k x y g c : Nat) (ys : List Int), k ≤ 8 ∧ iv = .int .i64 (k : Int) ∧ pv = .int .i64 (x : Int) ∧ nv = .int .i64 (y : Int) ∧ ov = .slice (some ⟨g, 0, none⟩) ys.length c ∧ Hid (W = ys ++ wrL (8 - k) k x y) ∧ (x < 10 ^ (8 - k) ∧ y < 10 ^ (8 - k)) ∧ OutA w.heap.size 0 0 wr 3 1 g ys.length c (flatC inC ys) ∧ Below w.heap.size w wr) (fun _ _ iv _ _ => 20 - (intOf iv).toNat)
  case atStart => exact ⟨0, P, n, w.heap.size, 0, [], Nat.zero_le _, rfl, rfl, rfl, rfl, Lib.hid (by rw [HW0.out]; simp), by omega, HO0.out, HB0.out⟩
  case round =>
    obtain ⟨k, x, y, g, c, ys, hk, rfl, rfl, rfl, rfl, HY, ⟨hx, hy⟩, hO, hb⟩ := hrel
    have HO := Lib.hid hO
    have HB := Lib.hid hb
    have hyl : ys.length ≤ 8 := by have h1 := HL.out; rw [HY.out, List.length_append] at h1; omega
    by_cases hxy : x = y
    · subst hxy
      have HE : Hid (ys = W) := Lib.hid (by rw [HY.out, wrL_same, List.append_nil])
      have HR := Lib.hid hO.own
      have z1 : ((x : Int) != (x : Int)) = false := by simp
      clear hO hb hx hy
      go_wp2_with fail
      go_ret2
      exact ⟨⟨_, rfl, HE.out ▸ HR.out⟩, HB.out⟩
    · have hk8 : k < 8 := by
        rcases Nat.lt_or_ge k 8 with h | h
        · exact h
        · rw [show 8 - k = 0 by omega] at hx hy; simp at hx hy; omega
      have hst := HY.out
      rw [show 8 - k = (8 - (k + 1)) + 1 by omega, wrL_step] at hst
      rw [show 8 - k = (8 - (k + 1)) + 1 by omega, Nat.pow_succ] at hx hy
      have HXB : Hid (x / 10 < 10 ^ (8 - (k + 1)) ∧ y / 10 < 10 ^ (8 - (k + 1))) := Lib.hid ⟨by omega, by omega⟩
      have hx9 : x < 100000000 ∧ y < 100000000 := by
        have h1 : 10 ^ (8 - (k + 1)) ≤ 10 ^ 7 := Nat.pow_le_pow_right (by omega) (by omega)
        omega
      have z1 : ((x : Int) != (y : Int)) = true := by simp; omega
      have z2 : 0 ≤ (k : Int) := by omega
      have HD1 : Hid ((x : Int) / 10 = ((x / 10 : Nat) : Int)) := Lib.hid (by omega)
      have HD2 : Hid ((y : Int) / 10 = ((y / 10 : Nat) : Int)) := Lib.hid (by omega)
      by_cases hxy10 : x % 10 = y % 10
      · rw [if_neg (by simpa using hxy10), List.nil_append] at hst
        have HST := Lib.hid hst
        have z3 : ((x : Int) % 10 != (y : Int) % 10) = false := by simp; omega
        clear hst hx hy hxy hxy10 hO hb
        go_wp2_with fail
        go_roundw
        case rel => exact ⟨k + 1, x / 10, y / 10, g, c, ys, by omega, by go_num, by first | rfl | rw [HD1.out], by first | rfl | rw [HD2.out], rfl, HST, HXB.out, HO.out, HB.out⟩
        case measure => simp [intOf]; omega
      · rw [if_pos hxy10] at hst
        have HST : Hid (W = (ys ++ [(k : Int)]) ++ wrL (8 - (k + 1)) (k + 1) (x / 10) (y / 10)) := Lib.hid (by rw [hst, List.append_assoc])
        have z3 : ((x : Int) % 10 != (y : Int) % 10) = true := by simp; omega
        clear hst hx hy hxy hxy10 hO hb
        go_wp2_with (at_builtin; refine wpList_push (wr := wr) rfl _ _ 26 rfl w.heap.size 0 0 w 3 i0 (.int .i64 0) 1 8 Try.underlying26 hi hz0 hz1 hz2 rfl (by decide) g ys.length c (flatC inC ys) [.int .i64 (k : Int)] rfl rfl rfl ?c1 ?c2 (by decide) HO.out HB.out ?_)
        case c1 => first | rfl | exact ⟨rfl, rfl⟩ | exact ⟨rfl, rfl, rfl⟩ | (intro u hu; simp only [List.mem_cons, List.not_mem_nil, or_false] at hu; subst hu; rfl)
        case c2 => omega
        intro g3 c3 w3 hO3 hB3 hK3
        have HO3 : Hid (OutA w.heap.size 0 0 w3 3 1 g3 (ys ++ [(k : Int)]).length c3 (flatC inC (ys ++ [(k : Int)]))) := Lib.hid (by rw [List.length_append, flatC_app]; exact hO3)
        have hlen : ys.length + 1 = (ys ++ [(k : Int)]).length := by rw [List.length_append]; rfl
        rw [hlen]
        have HB3 := Lib.hid hB3
        clear hO3 hB3 hK3 hlen
        generalize ys ++ [(k : Int)] = ys2 at HO3 HST ⊢
        go_wp2_with fail
        go_roundw
        case rel => exact ⟨k + 1, x / 10, y / 10, g3, c3, ys2, by omega, by go_num, by first | rfl | rw [HD1.out], by first | rfl | rw [HD2.out], rfl, HST, HXB.out, HO3.out, HB3.out⟩
        case measure => simp [intOf]; omega
set_option maxRecDepth 100000 in
set_option maxHeartbeats 800000 in
theorem impWrongDigits_no (a b n : Int) (w : World) (h : ¬ (okFs a b ∧ (0 ≤ n ∧ n ≤ 99999999))) :
    Calls Try.prog 36 #[.int .i64 a, .int .i64 b, .int .i64 n] w fun e w' => (∃ sq, e = .returned (.tuple #[sq, .bool false]) ∧ w'.ownsRow w.heap.size 3 1 sq ([] : List Int).length (flatC inC ([] : List Int))) ∧ Below w.heap.size w w' := by
  by_cases hk : okFs a b
  · have HK := Lib.hid hk
    by_cases hn : n < 0
    · clear h hk
      go_enter Try.func36, Try.ntmps36
      go_wp2_with fail
      refine (areF_yes _ _ w HK.out).mono ?_
      rintro e w2 ⟨rfl, hw2⟩
      subst w2
      go_wp2_with fail
      go_ret2
      exact ⟨⟨_, rfl, World.ownsRow_made (base := w.heap.size) (e := 3) (size := 1) w #[] 0 (Nat.le_refl _) (Nat.zero_le _) (by simp)⟩, (Below.refl _ _).alloc (Nat.le_refl _) _⟩
    · have z2 : 99999999 < n := by
        rcases Int.lt_or_le 99999999 n with h1 | h1
        · exact h1
        · exact absurd ⟨hk, by omega, h1⟩ h
      clear h hk
      go_enter Try.func36, Try.ntmps36
      go_wp2_with fail
      refine (areF_yes _ _ w HK.out).mono ?_
      rintro e w2 ⟨rfl, hw2⟩
      subst w2
      go_wp2_with fail
      go_ret2
      exact ⟨⟨_, rfl, World.ownsRow_made (base := w.heap.size) (e := 3) (size := 1) w #[] 0 (Nat.le_refl _) (Nat.zero_le _) (by simp)⟩, (Below.refl _ _).alloc (Nat.le_refl _) _⟩
  · have HK := Lib.hid hk
    clear h hk
    go_enter Try.func36, Try.ntmps36
    go_wp2_with fail
    refine (areF_no _ _ w HK.out).mono ?_
    rintro e w2 ⟨rfl, hw2⟩
    subst w2
    go_wp2_with fail
    go_ret2
    exact ⟨⟨_, rfl, World.ownsRow_made (base := w.heap.size) (e := 3) (size := 1) w #[] 0 (Nat.le_refl _) (Nat.zero_le _) (by simp)⟩, (Below.refl _ _).alloc (Nat.le_refl _) _⟩
end Go.Proofs.Ythmbehknacjodaa

/-! Is9 -/
namespace Go.Proofs.Ythmbehknacjodaa
set_option linter.unusedVariables false
open Go.RowKit Go.Shelf

attribute [local go_sem] Oper.semAt_some

set_option maxRecDepth 100000 in
set_option maxHeartbeats 800000 in
theorem partsOf_in (n : Nat) (a b : Int) (w : World) :
    CallsIn Fence.wide n Try.prog 71 #[.int .i64 a, .int .i64 b] w fun e w' => e = .returned (.func (.func 112) #[] #[.pointer (some ⟨w.heap.size, 0, none⟩), .pointer (some ⟨w.heap.size + 1, 0, none⟩)]) ∧ w' = (w.alloc (.cells #[.int .i64 a] 3)).alloc (.cells #[.int .i64 b] 3) := by
  refine callsIn_of_wp Try.func71 rfl trivial ?_ rfl
  simp only [Try.ntmps71, List.size_toArray, List.length_cons, List.length_nil, Nat.reduceAdd, Nat.reduceSub, Array.replicate_succ, Array.replicate_zero, List.push_toArray, List.append_toArray, List.nil_append, List.cons_append]
  gi_wp2
  go_ret
  exact ⟨rfl, rfl⟩
/-- The boxes of two numbers. -/
theorem partsOf_boxes (a b : Int) (w : World) : ∃ w1, (w.alloc (.cells #[.int .i64 a] 3)).alloc (.cells #[.int .i64 b] 3) = w1 ∧ w1.heap.size = w.heap.size + 1 + 1 ∧ Below w.heap.size w w1 ∧ w1.cell? ⟨w.heap.size, 0, none⟩ = some (.int .i64 a) ∧ w1.cell? ⟨w.heap.size + 1, 0, none⟩ = some (.int .i64 b) := by
  refine ⟨_, rfl, by simp, ((Below.refl _ w).alloc (Nat.le_refl _) _).alloc (by simp) _, ?_, ?_⟩
  · have c1 : ((w.alloc (.cells #[.int .i64 a] 3)).alloc (.cells #[.int .i64 b] 3)).heap[w.heap.size]? = some (.cells #[.int .i64 a] 3 (0, 0)) := (alloc_old (by simp)).trans (alloc_at rfl)
    exact Boxed.cell c1
  · have c2 : ((w.alloc (.cells #[.int .i64 a] 3)).alloc (.cells #[.int .i64 b] 3)).heap[w.heap.size + 1]? = some (.cells #[.int .i64 b] 3 (0, 0)) := alloc_at (by simp)
    exact Boxed.cell c2
set_option maxRecDepth 100000 in
set_option maxHeartbeats 800000 in
theorem doublingsOf_in (n : Nat) (a b : Int) (w : World) :
    CallsIn Fence.wide n Try.prog 77 #[.int .i64 a, .int .i64 b] w fun e w' => e = .returned (.func (.func 115) #[] #[.pointer (some ⟨w.heap.size, 0, none⟩), .pointer (some ⟨w.heap.size + 1, 0, none⟩)]) ∧ w' = (w.alloc (.cells #[.int .i64 a] 3)).alloc (.cells #[.int .i64 b] 3) := by
  refine callsIn_of_wp Try.func77 rfl trivial ?_ rfl
  simp only [Try.ntmps77, List.size_toArray, List.length_cons, List.length_nil, Nat.reduceAdd, Nat.reduceSub, Array.replicate_succ, Array.replicate_zero, List.push_toArray, List.append_toArray, List.nil_append, List.cons_append]
  gi_wp2
  go_ret
  exact ⟨rfl, rfl⟩
/-- The boxes of two numbers. -/
theorem doublingsOf_boxes (a b : Int) (w : World) : ∃ w1, (w.alloc (.cells #[.int .i64 a] 3)).alloc (.cells #[.int .i64 b] 3) = w1 ∧ w1.heap.size = w.heap.size + 1 + 1 ∧ Below w.heap.size w w1 ∧ w1.cell? ⟨w.heap.size, 0, none⟩ = some (.int .i64 a) ∧ w1.cell? ⟨w.heap.size + 1, 0, none⟩ = some (.int .i64 b) := by
  refine ⟨_, rfl, by simp, ((Below.refl _ w).alloc (Nat.le_refl _) _).alloc (by simp) _, ?_, ?_⟩
  · have c1 : ((w.alloc (.cells #[.int .i64 a] 3)).alloc (.cells #[.int .i64 b] 3)).heap[w.heap.size]? = some (.cells #[.int .i64 a] 3 (0, 0)) := (alloc_old (by simp)).trans (alloc_at rfl)
    exact Boxed.cell c1
  · have c2 : ((w.alloc (.cells #[.int .i64 a] 3)).alloc (.cells #[.int .i64 b] 3)).heap[w.heap.size + 1]? = some (.cells #[.int .i64 b] 3 (0, 0)) := alloc_at (by simp)
    exact Boxed.cell c2
set_option maxRecDepth 100000 in
set_option maxHeartbeats 1600000 in
theorem impPartsOf_yes (a b : Nat) (w : World) (ha : a ≤ 9999) (hb9 : b ≤ 9999) :
    Calls Try.prog 19 #[.int .i64 (a : Int), .int .i64 (b : Int)] w fun e w' => (∃ sq, e = .returned (.tuple #[sq, .bool true]) ∧ w'.ownsRow w.heap.size 57 3 sq (prT (dgL a) (dgL b)).length (flatC trC (prT (dgL a) (dgL b)))) ∧ Below w.heap.size w w' := by
  refine (callsIn_wide (n := 8)).1 ?_
  have hn : (1 : Nat) ≤ 8 := by omega
  have cF : CallsIn Fence.wide 7 Try.prog 70 #[.int .i64 (a : Int), .int .i64 (b : Int)] w fun e w' => e = .returned (.bool true) ∧ w = w' := callsIn_wide.2 (areF_yes _ _ w ⟨by omega, by omega⟩)
  have cP := partsOf_in 7 (a : Int) (b : Int) w
  obtain ⟨w1, hw1, hsz, hb1, d1, d2⟩ := partsOf_boxes (a : Int) (b : Int) w
  rw [hw1] at cP
  have cC := tri_collect 7 (by omega) 112 #[.pointer (some ⟨w.heap.size, 0, none⟩), .pointer (some ⟨w.heap.size + 1, 0, none⟩)] (enters_of Try.func112 (by kernel_rfl) rfl) (prT (dgL a) (dgL b)) (by have := prT_len16 ha hb9; omega) w1 (parts_gives 5 (by omega) a b w.heap.size (w.heap.size + 1) _ _ _ ha hb9 w1 (by omega) (by omega) d1 d2)
  have HC := Lib.hid cC
  have HB := Lib.hid hb1
  have HP := Lib.hid cP
  have HF := Lib.hid cF
  clear cC cP cF hb1 d1 d2 hw1 hsz
  have hfF : Fence.wide.fn 70 := trivial
  have hfP : Fence.wide.fn 71 := trivial
  have hfC : Fence.wide.fn 76 := trivial
  refine callsIn_of_wp Try.func19 rfl trivial ?_ rfl
  simp only [Try.ntmps19, List.size_toArray, List.length_cons, List.length_nil, Nat.reduceAdd, Nat.reduceSub, Array.replicate_succ, Array.replicate_zero, List.push_toArray, List.append_toArray, List.nil_append, List.cons_append]
  gi_wp2_with (first
    | (gi_at_call 70; refine HF.out.mono ?_; rintro e w' ⟨rfl, hw'⟩; subst w')
    | (gi_at_call 71; refine HP.out.mono ?_; rintro e w' ⟨rfl, rfl⟩)
    | (gi_at_call 76; refine HC.out.mono ?_; rintro e w2 ⟨⟨v, rfl, hrow⟩, hb2⟩))
  go_ret2
  refine ⟨⟨_, rfl, ?_⟩, HB.out.trans (hb2.mono HB.out.size)⟩
  exact own_mono hrow HB.out.size
set_option maxRecDepth 100000 in
set_option maxHeartbeats 800000 in
theorem impPartsOf_no (a b : Int) (w : World) (h : ¬ okFs a b) :
    Calls Try.prog 19 #[.int .i64 a, .int .i64 b] w fun e w' => (∃ sq, e = .returned (.tuple #[sq, .bool false]) ∧ w'.ownsRow w.heap.size 57 3 sq ([] : List (Tr)).length (flatC trC ([] : List (Tr)))) ∧ Below w.heap.size w w' := by
  have HH := Lib.hid h
  clear h
  go_enter Try.func19, Try.ntmps19
  go_wp2_with fail
  refine (areF_no _ _ w HH.out).mono ?_
  rintro e w2 ⟨rfl, rfl⟩
  go_wp2_with fail
  go_ret2
  exact ⟨⟨_, rfl, World.ownsRow_made (base := w.heap.size) (e := 57) (size := 3) w #[] 0 (Nat.le_refl _) (Nat.zero_le _) (by simp)⟩, (Below.refl _ _).alloc (Nat.le_refl _) _⟩
set_option maxRecDepth 100000 in
set_option maxHeartbeats 1600000 in
theorem impByDoubling_yes (a b : Nat) (w : World) (ha : a ≤ 9999) (hb9 : b ≤ 9999) :
    Calls Try.prog 24 #[.int .i64 (a : Int), .int .i64 (b : Int)] w fun e w' => (∃ sq, e = .returned (.tuple #[sq, .bool true]) ∧ w'.ownsRow w.heap.size 77 2 sq (dbL a b).length (flat (dbL a b))) ∧ Below w.heap.size w w' := by
  refine (callsIn_wide (n := 8)).1 ?_
  have hn : (1 : Nat) ≤ 8 := by omega
  have cF : CallsIn Fence.wide 7 Try.prog 70 #[.int .i64 (a : Int), .int .i64 (b : Int)] w fun e w' => e = .returned (.bool true) ∧ w = w' := callsIn_wide.2 (areF_yes _ _ w ⟨by omega, by omega⟩)
  have cP := doublingsOf_in 7 (a : Int) (b : Int) w
  obtain ⟨w1, hw1, hsz, hb1, d1, d2⟩ := doublingsOf_boxes (a : Int) (b : Int) w
  rw [hw1] at cP
  have cC := two_collect 7 (by omega) 115 #[.pointer (some ⟨w.heap.size, 0, none⟩), .pointer (some ⟨w.heap.size + 1, 0, none⟩)] (enters_of Try.func115 (by kernel_rfl) rfl) (dbL a b) (by have := dbL_len14 ha b; omega) w1 (doublings_gives 5 (by omega) a b w.heap.size (w.heap.size + 1) _ _ _ ha hb9 w1 (by omega) (by omega) d1 d2)
  have HC := Lib.hid cC
  have HB := Lib.hid hb1
  have HP := Lib.hid cP
  have HF := Lib.hid cF
  clear cC cP cF hb1 d1 d2 hw1 hsz
  have hfF : Fence.wide.fn 70 := trivial
  have hfP : Fence.wide.fn 77 := trivial
  have hfC : Fence.wide.fn 79 := trivial
  refine callsIn_of_wp Try.func24 rfl trivial ?_ rfl
  simp only [Try.ntmps24, List.size_toArray, List.length_cons, List.length_nil, Nat.reduceAdd, Nat.reduceSub, Array.replicate_succ, Array.replicate_zero, List.push_toArray, List.append_toArray, List.nil_append, List.cons_append]
  gi_wp2_with (first
    | (gi_at_call 70; refine HF.out.mono ?_; rintro e w' ⟨rfl, hw'⟩; subst w')
    | (gi_at_call 77; refine HP.out.mono ?_; rintro e w' ⟨rfl, rfl⟩)
    | (gi_at_call 79; refine HC.out.mono ?_; rintro e w2 ⟨⟨v, rfl, hrow⟩, hb2⟩))
  go_ret2
  refine ⟨⟨_, rfl, ?_⟩, HB.out.trans (hb2.mono HB.out.size)⟩
  rw [flat_prC]
  exact own_mono hrow HB.out.size
set_option maxRecDepth 100000 in
set_option maxHeartbeats 800000 in
theorem impByDoubling_no (a b : Int) (w : World) (h : ¬ okFs a b) :
    Calls Try.prog 24 #[.int .i64 a, .int .i64 b] w fun e w' => (∃ sq, e = .returned (.tuple #[sq, .bool false]) ∧ w'.ownsRow w.heap.size 77 2 sq ([] : List (Int × Int)).length (flat ([] : List (Int × Int)))) ∧ Below w.heap.size w w' := by
  have HH := Lib.hid h
  clear h
  go_enter Try.func24, Try.ntmps24
  go_wp2_with fail
  refine (areF_no _ _ w HH.out).mono ?_
  rintro e w2 ⟨rfl, rfl⟩
  go_wp2_with fail
  go_ret2
  exact ⟨⟨_, rfl, World.ownsRow_made (base := w.heap.size) (e := 77) (size := 2) w #[] 0 (Nat.le_refl _) (Nat.zero_le _) (by simp)⟩, (Below.refl _ _).alloc (Nat.le_refl _) _⟩
end Go.Proofs.Ythmbehknacjodaa

/-! Io9 -/
namespace Go.Proofs.Ythmbehknacjodaa
set_option linter.unusedVariables false
open Go.RowKit Go.Shelf

attribute [local go_sem] Oper.semAt_some

set_option maxRecDepth 100000 in
set_option maxHeartbeats 6400000 in
theorem impOddRows_yes (a b : Nat) (w : World) (ha : a ≤ 9999) (hb9 : b ≤ 9999) :
    Calls Try.prog 22 #[.int .i64 (a : Int), .int .i64 (b : Int)] w fun e w' => (∃ sq, e = .returned (.tuple #[sq, .bool true]) ∧ w'.ownsRow w.heap.size 3 1 sq (odL (dbL a b)).length (flatC inC (odL (dbL a b)))) ∧ Below w.heap.size w w' := by
  have HN : Hid (∀ pre x, pre ++ [x] <+: dbL a b → 0 ≤ x.1 ∧ (odL pre).length ≤ 14) := Lib.hid (fun pre x h => by
    have h1 := dbL_nn 14 a b (by omega) x (h.subset (by simp))
    have h2 := h.length_le
    have h3 := dbL_len14 ha b
    have h4 := odL_len pre
    rw [List.length_append] at h2
    exact ⟨h1.1, by omega⟩)
  refine (callsIn_wide (n := 8)).1 ?_
  have h1 : (1 : Nat) ≤ 8 := by omega
  obtain ⟨i0, hi, hz0, hz1, hz2⟩ := info_parts Try.infoI9
  have cF : CallsIn Fence.wide 7 Try.prog 70 #[.int .i64 (a : Int), .int .i64 (b : Int)] w fun e w' => e = .returned (.bool true) ∧ w = w' := callsIn_wide.2 (areF_yes _ _ w ⟨by omega, by omega⟩)
  have HF := Lib.hid cF
  have hfF : Fence.wide.fn 70 := trivial
  have hfP : Fence.wide.fn 77 := trivial
  clear cF
  refine callsIn_of_wp_marks Try.func22 rfl trivial ?_ rfl
  simp only [Try.ntmps22, List.size_toArray, List.length_cons, List.length_nil, Nat.reduceAdd, Nat.reduceSub, Array.replicate_succ, Array.replicate_zero, List.push_toArray, List.append_toArray, List.nil_append, List.cons_append]
  gi_wp2_with (gi_at_call 70; refine HF.out.mono ?_; rintro e w' ⟨rfl, hw'⟩; subst w')
  have hs2 : ((w.alloc (.cells #[] 3)).alloc (.cells #[.slice (some ⟨w.heap.size, 0, none⟩) 0 0] 26)).heap.size = w.heap.size + 2 := by simp
  have hb2 : Below w.heap.size w ((w.alloc (.cells #[] 3)).alloc (.cells #[.slice (some ⟨w.heap.size, 0, none⟩) 0 0] 26)) := ((Below.refl _ _).alloc (Nat.le_refl _) _).alloc (by simp) _
  have ho2 : ((w.alloc (.cells #[] 3)).alloc (.cells #[.slice (some ⟨w.heap.size, 0, none⟩) 0 0] 26)).ownsRow w.heap.size 3 1 (.slice (some ⟨w.heap.size, 0, none⟩) 0 0) 0 [] := (World.ownsRow_made _ _ _ (Nat.le_refl _) (Nat.zero_le _) (by simp)).alloc _
  have hx2 : Boxed ((w.alloc (.cells #[] 3)).alloc (.cells #[.slice (some ⟨w.heap.size, 0, none⟩) 0 0] 26)) (w.heap.size + 1) 26 (.slice (some ⟨w.heap.size, 0, none⟩) 0 0) := alloc_at (by simp)
  generalize ((w.alloc (.cells #[] 3)).alloc (.cells #[.slice (some ⟨w.heap.size, 0, none⟩) 0 0] 26)) = w2 at hs2 hb2 ho2 hx2 ⊢
  refine (doublingsOf_in 7 (a : Int) (b : Int) w2).mono ?_
  rintro e w3 ⟨rfl, hw3⟩
  obtain ⟨w4, hw4, hsz4, hb4, d1, d2⟩ := doublingsOf_boxes (a : Int) (b : Int) w2
  rw [hw4] at hw3
  subst w3
  have hbs : w.heap.size + 1 ≤ w.heap.size + 1 ∧ w.heap.size + 1 < w.heap.size + 2 := by omega
  have hx4 : Boxed w4 (w.heap.size + 1) 26 (.slice (some ⟨w.heap.size, 0, none⟩) 0 0) := by rw [← hw4]; exact (hx2.alloc _).alloc _
  have ho4 : w4.ownsRow w.heap.size 3 1 (.slice (some ⟨w.heap.size, 0, none⟩) 0 0) 0 [] := own_below ho2 hb4
  have hb5 : Below w.heap.size w w4 := hb2.trans (hb4.mono hb2.size)
  have cG := doublings_gives 7 (by omega) a b w2.heap.size (w2.heap.size + 1) (w.heap.size + 1) (w.heap.size + 2) (w.heap.size + 1) ha hb9 w4 (by omega) (by omega) d1 d2
  have HG := Lib.hid cG
  have HS2 := Lib.hid hs2
  have HS4 := Lib.hid hsz4
  clear cG d1 d2 hw4 hx2 ho2 hb2 hb4 hs2 hsz4
  gi_wp2
  refine range_law rfl h1 (gf := 115) (lb := #[.pointer (some ⟨w2.heap.size, 0, none⟩), .pointer (some ⟨w2.heap.size + 1, 0, none⟩)]) rfl trivial (enters_of Try.func115 (by kernel_rfl) rfl) HG.out ⟨hbs, ?hmine⟩ (Below.refl _ _) (fun _ => rfl)
    (fun pre W => (∃ v, Boxed W (w.heap.size + 1) 26 v ∧ W.ownsRow w.heap.size 3 1 v (odL pre).length (flatC inC (odL pre))) ∧ Below w.heap.size w W)
    (stabP_own hbs (Nat.le_refl _) hb5.size (fun pre => (odL pre).length) (fun pre => flatC inC (odL pre)))
    ⟨⟨_, hx4, ho4⟩, hb5⟩
    (fun x a' W => ∃ Bx, W.heap[Bx]? = some (.cells #[.int .i64 x.1, .int .i64 x.2] 77 (0, 0)) ∧ a' = { tmps := #[.int .i64 (a : Int), .int .i64 (b : Int), undef, undef, .slice none 0 0, .bool false, .pointer (some ⟨w.heap.size + 1, 0, none⟩), .pointer (some ⟨Bx, 0, none⟩), .int .i64 (a : Int), .int .i64 (b : Int), .bool true, .bool false, undef, .slice (some ⟨w.heap.size, 0, none⟩) 0 0, .int .i64 (a : Int), .int .i64 (b : Int), .func (.func 115) #[] #[.pointer (some ⟨w2.heap.size, 0, none⟩), .pointer (some ⟨w2.heap.size + 1, 0, none⟩)], .agg #[.int .i64 x.1, .int .i64 x.2], undef, undef, undef, undef, undef, undef, undef, undef, undef, undef], defers := [] }) ?turn ?assign ?body ?done
  case hmine =>
    have := HS2.out
    have := HS4.out
    rintro k (hk | ⟨off, v, hv, hk⟩)
    · omega
    · rw [boxed_at hx4 hv] at hk; have : w.heap.size = k := by simpa [Value.ownBlock] using hk
      omega
  case turn =>
    rintro x a' X l o o' ⟨Bx, hx, rfl⟩ _ hl ho
    exact ⟨Bx, (World.putObj_heap_other (fun e => by subst e; rw [hx] at hl; injection hl with hl; subst hl; cases ho)).trans hx, rfl⟩
  case assign =>
    rintro l pre x W K ⟨⟨v, hv, hrow⟩, hB⟩ hbw hK
    gi_wp2
    exact hK _ _ ((KeepsOthers.alloc _ _).from _) (KeepP.alloc hbw _) ⟨⟨v, hv.alloc _, hrow.alloc _⟩, hB.alloc hB.size _⟩ ⟨W.heap.size, alloc_at rfl, rfl⟩
  case body =>
    rintro l pre x a' W ⟨⟨v, hv, hrow⟩, hB⟩ ⟨Bx, hx, rfl⟩ hpx
    obtain ⟨hx0, hlt⟩ := HN.out _ _ hpx
    have hc := hv.cell
    obtain ⟨c0, c1, d0, d1⟩ := cell2 hx
    have happ : odL (pre ++ [x]) = odL pre ++ (if x.1 % 2 = 1 then [x.2] else []) := by rw [odL_app, odL_one]
    by_cases hodd : x.1 % 2 = 1
    · rw [if_pos hodd] at happ
      have hod2 : (x.1 % 2 == 1) = true := by simpa using hodd
      gi_wp2_with (gi_at_builtin; refine wpListIn_append_own_at _ rfl _ _ 26 rfl w.heap.size 3 i0 (.int .i64 0) 1 8 Try.underlying26 hi hz0 hz1 hz2 rfl (by decide) _ _ _ rfl (hrow.alloc _) ⟨W.heap.size, 0, none⟩ 1 1 [.int .i64 x.2] rfl rfl (news_at (alloc_at rfl)) (by intro u hu; rw [List.mem_singleton.1 hu]; rfl) (by unfold maxLen; omega) (by omega) (by have := hB.size; simp; omega) ?_; intro v' w1 hown' hgrow _ hat; have hkp := keepP_appended hbs hv (by decide) hrow hown' hgrow hat; obtain ⟨g', cap', rfl⟩ := ownsRow_succ hown'; obtain ⟨hv1, hv2, hr2, hk2, hb2⟩ := hv.appended (by decide) hrow hB.size (Nat.le_succ _) hown' hgrow; have hc1 := hv1.cell; have hf1 := hv1.frozen)
      exact ⟨hk2.from _, hkp, ⟨_, hv2, by rw [happ, List.length_append, flatC_app]; exact hr2⟩, hB.trans hb2⟩
    · rw [if_neg hodd, List.append_nil] at happ
      have hod2 : (x.1 % 2 == 1) = false := by simpa using hodd
      gi_wp2
      exact ⟨KeepsFrom.refl _ _, KeepP.refl _ _ _ _, ⟨v, hv, by rw [happ]; exact hrow⟩, hB⟩
  case done =>
    rintro D W hD ⟨⟨v, hv, hrow⟩, hB⟩ hK
    have hc := hv.cell
    gi_wp2
    refine ⟨by simp, .inl ⟨_, _, rfl, run_takeDeferred hK, ?_⟩⟩
    exact ⟨_, results_tmp2 rfl _ _ _, ⟨v, rfl, ownsRow_putObj hrow _ hK rfl⟩, hB.trans (belowK_b (w := w) (Nat.le_refl _) W D _ _ (by have := hb5.size; omega) hK rfl rfl)⟩
set_option maxRecDepth 100000 in
set_option maxHeartbeats 800000 in
theorem impOddRows_no (a b : Int) (w : World) (h : ¬ okFs a b) :
    Calls Try.prog 22 #[.int .i64 a, .int .i64 b] w fun e w' => (∃ sq, e = .returned (.tuple #[sq, .bool false]) ∧ w'.ownsRow w.heap.size 3 1 sq ([] : List Int).length (flatC inC ([] : List Int))) ∧ Below w.heap.size w w' := by
  have HH := Lib.hid h
  clear h
  go_enter Try.func22, Try.ntmps22
  go_wp2_with fail
  refine (areF_no _ _ w HH.out).mono ?_
  rintro e w2 ⟨rfl, rfl⟩
  go_wp2_with fail
  go_ret2
  exact ⟨⟨_, rfl, World.ownsRow_made (base := w.heap.size) (e := 3) (size := 1) w #[] 0 (Nat.le_refl _) (Nat.zero_le _) (by simp)⟩, (Below.refl _ _).alloc (Nat.le_refl _) _⟩
end Go.Proofs.Ythmbehknacjodaa

/-! Itot -/
namespace Go.Proofs.Ythmbehknacjodaa
set_option linter.unusedVariables false
open Go.RowKit Go.Shelf

attribute [local go_sem] Oper.semAt_some

set_option maxRecDepth 100000 in
set_option maxHeartbeats 6400000 in
theorem impTotals_yes (a b : Nat) (w : World) (ha : a ≤ 9999) (hb9 : b ≤ 9999) :
    Calls Try.prog 16 #[.int .i64 (a : Int), .int .i64 (b : Int)] w fun e w' => (∃ sq, e = .returned (.tuple #[sq, .bool true]) ∧ w'.ownsRow w.heap.size 3 1 sq (ttL 0 (prT (dgL a) (dgL b))).length (flatC inC (ttL 0 (prT (dgL a) (dgL b))))) ∧ Below w.heap.size w w' := by
  have HN : Hid (∀ pre x, pre ++ [x] <+: prT (dgL a) (dgL b) → (∃ (I K : Nat) (v : Int), x = ⟨(I : Int), (K : Int), v⟩ ∧ I ≤ 3 ∧ K ≤ 3 ∧ 1 ≤ v ∧ v ≤ 81) ∧ pre.length ≤ 16 ∧ (0 ≤ smT pre ∧ smT pre ≤ 99980001) ∧ (0 ≤ smT (pre ++ [x]) ∧ smT (pre ++ [x]) ≤ 99980001)) := Lib.hid (fun pre x h => by
    have h2 := h.length_le
    have h3 := prT_len16 ha hb9
    rw [List.length_append, List.length_singleton] at h2
    have hm := mul_top ha hb9
    have p1 := smT_pre ha hb9 h
    have p2 := smT_pre ha hb9 ((List.prefix_append pre [x]).trans h)
    refine ⟨?_, by omega, by omega, by omega⟩
    obtain ⟨h4, h5, h6⟩ := part_ok ha hb9 (h.subset (List.mem_append_right pre List.mem_cons_self))
    obtain ⟨i, q, v⟩ := x
    simp only at h4 h5 h6
    exact ⟨i.toNat, q.toNat, v, by rw [Int.toNat_of_nonneg h4.1, Int.toNat_of_nonneg h5.1], by omega, by omega, by omega, by omega⟩)
  refine (callsIn_wide (n := 8)).1 ?_
  have h1 : (1 : Nat) ≤ 8 := by omega
  obtain ⟨i0, hi, hz0, hz1, hz2⟩ := info_parts Try.infoI9
  have cF : CallsIn Fence.wide 7 Try.prog 70 #[.int .i64 (a : Int), .int .i64 (b : Int)] w fun e w' => e = .returned (.bool true) ∧ w = w' := callsIn_wide.2 (areF_yes _ _ w ⟨by omega, by omega⟩)
  have HF := Lib.hid cF
  have hfF : Fence.wide.fn 70 := trivial
  have hfP : Fence.wide.fn 71 := trivial
  clear cF
  refine callsIn_of_wp_marks Try.func16 rfl trivial ?_ rfl
  simp only [Try.ntmps16, List.size_toArray, List.length_cons, List.length_nil, Nat.reduceAdd, Nat.reduceSub, Array.replicate_succ, Array.replicate_zero, List.push_toArray, List.append_toArray, List.nil_append, List.cons_append]
  gi_wp2_with (gi_at_call 70; refine HF.out.mono ?_; rintro e w' ⟨rfl, hw'⟩; subst w')
  have hs2 : (((w.alloc (.cells #[] 3)).alloc (.cells #[.slice (some ⟨w.heap.size, 0, none⟩) 0 0] 26)).alloc (.cells #[.int .i64 0] 3)).heap.size = w.heap.size + 1 + 1 + 1 := by simp
  have hb2 : Below w.heap.size w (((w.alloc (.cells #[] 3)).alloc (.cells #[.slice (some ⟨w.heap.size, 0, none⟩) 0 0] 26)).alloc (.cells #[.int .i64 0] 3)) := (((Below.refl _ _).alloc (Nat.le_refl _) _).alloc (by simp) _).alloc (by simp; omega) _
  have ho2 : (((w.alloc (.cells #[] 3)).alloc (.cells #[.slice (some ⟨w.heap.size, 0, none⟩) 0 0] 26)).alloc (.cells #[.int .i64 0] 3)).ownsRow w.heap.size 3 1 (.slice (some ⟨w.heap.size, 0, none⟩) 0 0) 0 [] := ((World.ownsRow_made _ _ _ (Nat.le_refl _) (Nat.zero_le _) (by simp)).alloc _).alloc _
  have hx2 : Boxed (((w.alloc (.cells #[] 3)).alloc (.cells #[.slice (some ⟨w.heap.size, 0, none⟩) 0 0] 26)).alloc (.cells #[.int .i64 0] 3)) (w.heap.size + 1) 26 (.slice (some ⟨w.heap.size, 0, none⟩) 0 0) := (alloc_old (by simp)).trans (alloc_at (by simp))
  have hy2 : Boxed (((w.alloc (.cells #[] 3)).alloc (.cells #[.slice (some ⟨w.heap.size, 0, none⟩) 0 0] 26)).alloc (.cells #[.int .i64 0] 3)) (w.heap.size + 1 + 1) 3 (.int .i64 0) := alloc_at (by simp)
  generalize (((w.alloc (.cells #[] 3)).alloc (.cells #[.slice (some ⟨w.heap.size, 0, none⟩) 0 0] 26)).alloc (.cells #[.int .i64 0] 3)) = w2 at hs2 hb2 ho2 hx2 hy2 ⊢
  refine (partsOf_in 7 (a : Int) (b : Int) w2).mono ?_
  rintro e w3 ⟨rfl, hw3⟩
  obtain ⟨w4, hw4, hsz4, hb4, d1, d2⟩ := partsOf_boxes (a : Int) (b : Int) w2
  rw [hw4] at hw3
  subst w3
  have hbs : w.heap.size + 1 ≤ w.heap.size + 1 ∧ w.heap.size + 1 < w.heap.size + 1 + 1 + 1 := by omega
  have hbt : w.heap.size + 1 ≤ w.heap.size + 1 + 1 ∧ w.heap.size + 1 + 1 < w.heap.size + 1 + 1 + 1 := by omega
  have hx4 : Boxed w4 (w.heap.size + 1) 26 (.slice (some ⟨w.heap.size, 0, none⟩) 0 0) := by rw [← hw4]; exact (hx2.alloc _).alloc _
  have hy4 : Boxed w4 (w.heap.size + 1 + 1) 3 (.int .i64 0) := by rw [← hw4]; exact (hy2.alloc _).alloc _
  have ho4 : w4.ownsRow w.heap.size 3 1 (.slice (some ⟨w.heap.size, 0, none⟩) 0 0) 0 [] := own_below ho2 hb4
  have hb5 : Below w.heap.size w w4 := hb2.trans (hb4.mono hb2.size)
  have cG := parts_gives 7 (by omega) a b w2.heap.size (w2.heap.size + 1) (w.heap.size + 1) (w.heap.size + 1 + 1 + 1) (w.heap.size + 1) ha hb9 w4 (by omega) (by omega) d1 d2
  have HG := Lib.hid cG
  have HS2 := Lib.hid hs2
  have HS4 := Lib.hid hsz4
  clear cG d1 d2 hw4 hx2 hy2 ho2 hb2 hb4 hs2 hsz4
  gi_wp2
  refine range_law rfl h1 (gf := 112) (lb := #[.pointer (some ⟨w2.heap.size, 0, none⟩), .pointer (some ⟨w2.heap.size + 1, 0, none⟩)]) rfl trivial (enters_of Try.func112 (by kernel_rfl) rfl) HG.out ⟨hbs, ?hmine⟩ (Below.refl _ _) (fun _ => rfl)
    (fun pre W => ((∃ v, Boxed W (w.heap.size + 1) 26 v ∧ W.ownsRow w.heap.size 3 1 v (ttL 0 pre).length (flatC inC (ttL 0 pre)) ∧ v.ownBlock ≠ some (w.heap.size + 1 + 1)) ∧ Below w.heap.size w W) ∧ Boxed W (w.heap.size + 1 + 1) 3 (.int .i64 (smT pre)))
    (StabP.and (stabP_ownG hbs (Nat.le_refl _) hb5.size (fun pre => (ttL 0 pre).length) (fun pre => flatC inC (ttL 0 pre)) (fun v => v.ownBlock ≠ some (w.heap.size + 1 + 1))) (stabP_box hbt (fun pre => .int .i64 (smT pre))))
    ⟨⟨⟨_, hx4, ho4, by simp [Value.ownBlock]; omega⟩, hb5⟩, hy4⟩
    (fun x a' W => ∃ Bx, W.heap[Bx]? = some (.cells #[.int .i64 x.i, .int .i64 x.k, .int .i64 x.v] 57 (0, 0)) ∧ a' = { tmps := #[.int .i64 (a : Int), .int .i64 (b : Int), undef, undef, .slice none 0 0, .bool false, .pointer (some ⟨w.heap.size + 1, 0, none⟩), .pointer (some ⟨w.heap.size + 1 + 1, 0, none⟩), .pointer (some ⟨Bx, 0, none⟩), .int .i64 (a : Int), .int .i64 (b : Int), .bool true, .bool false, undef, .slice (some ⟨w.heap.size, 0, none⟩) 0 0, .int .i64 (a : Int), .int .i64 (b : Int), .func (.func 112) #[] #[.pointer (some ⟨w2.heap.size, 0, none⟩), .pointer (some ⟨w2.heap.size + 1, 0, none⟩)], .agg #[.int .i64 x.i, .int .i64 x.k, .int .i64 x.v], undef, undef, undef, undef, undef, undef, undef, undef, undef], defers := [] }) ?turn ?assign ?body ?done
  case hmine =>
    have := HS2.out
    have := HS4.out
    rintro k (hk | ⟨off, v, hv, hk⟩)
    · omega
    · rw [boxed_at hx4 hv] at hk; have : w.heap.size = k := by simpa [Value.ownBlock] using hk
      omega
  case turn =>
    rintro x a' X l o o' ⟨Bx, hx, rfl⟩ _ hl ho
    exact ⟨Bx, (World.putObj_heap_other (fun e => by subst e; rw [hx] at hl; injection hl with hl; subst hl; cases ho)).trans hx, rfl⟩
  case assign =>
    rintro l pre x W K ⟨⟨⟨v, hv, hrow, hne⟩, hB⟩, hy⟩ hbw hK
    gi_wp2
    exact hK _ _ ((KeepsOthers.alloc _ _).from _) (KeepP.alloc hbw _) ⟨⟨⟨v, hv.alloc _, hrow.alloc _, hne⟩, hB.alloc hB.size _⟩, hy.alloc _⟩ ⟨W.heap.size, alloc_at rfl, rfl⟩
  case body =>
    rintro l pre x a' W ⟨⟨⟨v, hv, hrow, hne⟩, hB⟩, hy⟩ ⟨Bx, hx, rfl⟩ hpx
    obtain ⟨⟨I, K, u, rfl, hI, hK, hu⟩, hlen, hs1, hs2⟩ := HN.out _ _ hpx
    have hlt := ttL_len 0 pre
    have hc := hv.cell
    have hyc := hy.cell
    have hyf := hy.frozen
    obtain ⟨c0, c1, c2, d0, d1, d2⟩ := cell3 hx
    have happ := ttL_snoc 0 pre ⟨(I : Int), (K : Int), u⟩
    have hsm : smT (pre ++ [⟨(I : Int), (K : Int), u⟩]) = smT pre + wT ⟨(I : Int), (K : Int), u⟩ := by rw [smT_app, smT_cons, smT_nil]; omega
    have hwt : wT ⟨(I : Int), (K : Int), u⟩ = u * 10 ^ (I + K) := by simp [wT]
    rw [hwt, ← hwt, Int.zero_add, ← hsm] at happ
    rw [hsm, hwt] at hs2
    have hwr : IntKind.i64.wrap (smT pre + u * 10 ^ (I + K)) = smT (pre ++ [⟨(I : Int), (K : Int), u⟩]) := by rw [hsm, hwt, IntKind.wrap_i64]; omega
    have HW := Lib.hid (fun w => worthOf_any I K u w hI hK hu)
    have hd : (1 : Nat) ≤ 8 - 1 - 1 := by omega
    have hmx : Try.prog.follows .mixedOrders = true := by kernel_rfl
    have hly := hy.lt
    have HY := Lib.hid hy
    have HBX := Lib.hid hx
    obtain ⟨S2, hS2⟩ : ∃ S2, smT (pre ++ [⟨(I : Int), (K : Int), u⟩]) = S2 := ⟨_, rfl⟩
    rw [hS2] at hwr happ
    have HS2' := Lib.hid hS2
    have HAP := Lib.hid happ
    have HV := Lib.hid hv
    have HRW := Lib.hid hrow
    have HBB := Lib.hid hB
    have HNE := Lib.hid hne
    obtain ⟨nn, hnn⟩ : ∃ nn, (ttL 0 pre).length = nn := ⟨_, rfl⟩
    have hn16 : nn ≤ 16 := by omega
    have HNN := Lib.hid hnn
    clear hs2 hwt hsm hx hS2 happ hv hrow hB hne hlt hnn hlen
    gi_wp2
    gi_region_with_o (refine ⟨trivial, ?_⟩; gi_at_call 72; refine (CallsIn.inRound l (callsIn_wide.2 (HW.out _))).mono ?_; rintro e w9 ⟨rfl, hb9⟩; have hy9 : Boxed w9 (w.heap.size + 1 + 1) 3 (.int .i64 (smT pre)) := (hb9.block _ hly).trans HY.out; have hyc9 := hy9.cell; have hyf9 := hy9.frozen)
    all_goals
      have hbW : Below W.heap.size W w9 := (Below.refl _ W).drew.trans hb9
      have hkp := (KeepP.below (B1 := w.heap.size + 1) (B2 := w.heap.size + 1 + 1 + 1) (Nat.lt_of_lt_of_le HV.out.lt (Nat.le_refl _)) hbW).trans (KeepP.set (i := 0) (.int .i64 S2) hbt (show w.heap.size + 1 + 1 ≠ w.heap.size + 1 by omega))
      have hkf := (keepsFrom_below (B := w4.heap.size) hbW).trans ((KeepsOthers.setCell w9 ⟨w.heap.size + 1 + 1, 0, none⟩ (.int .i64 S2)).from _)
      have hv10 : Boxed (w9.setCell ⟨w.heap.size + 1 + 1, 0, none⟩ (.int .i64 S2)) (w.heap.size + 1) 26 v := Boxed.other (show Boxed w9 _ _ _ from (hbW.block _ HV.out.lt).trans HV.out) (by omega) _
      have hy10 : Boxed (w9.setCell ⟨w.heap.size + 1 + 1, 0, none⟩ (.int .i64 S2)) (w.heap.size + 1 + 1) 3 (.int .i64 S2) := Boxed.set _ hy9
      have hr10 := own_set_box (own_below HRW.out hbW) (A := w.heap.size + 1 + 1) (fun g hg e => HNE.out (by rw [hg, e])) 0 (.int .i64 S2)
      have hB10 : Below w.heap.size w (w9.setCell ⟨w.heap.size + 1 + 1, 0, none⟩ (.int .i64 S2)) := (HBB.out.trans (hbW.mono HBB.out.size)).setCell (p := ⟨w.heap.size + 1 + 1, 0, none⟩) (by simp; omega) _
      generalize w9.setCell ⟨w.heap.size + 1 + 1, 0, none⟩ (.int .i64 S2) = X at hkp hkf hv10 hy10 hr10 hB10 ⊢
      rw [HNN.out] at hr10
      have hc10 := hv10.cell
      have hyc10 := hy10.cell
      have hlX := hy10.lt
      clear hb9 hbW hy9 hyc9 hyf9
      gi_wp2_with (gi_at_builtin; refine wpListIn_append_own_at _ rfl _ _ 26 rfl w.heap.size 3 i0 (.int .i64 0) 1 8 Try.underlying26 hi hz0 hz1 hz2 rfl (by decide) _ _ _ rfl (hr10.alloc _) ⟨X.heap.size, 0, none⟩ 1 1 [.int .i64 S2] rfl rfl (news_at (alloc_at rfl)) (by intro u hu; rw [List.mem_singleton.1 hu]; rfl) (by unfold maxLen; omega) (by omega) (by have := hB10.size; simp; omega) ?_; intro v' w1 hown' hgrow _ hat; have hkp2 := keepP_appended hbs hv10 (by decide) hr10 hown' hgrow hat; obtain ⟨g', cap', rfl⟩ := ownsRow_succ hown'; obtain ⟨hv1, hv2, hr2, hk2, hb2⟩ := hv10.appended (by decide) hr10 hB10.size (Nat.le_succ _) hown' hgrow; have hc1 := hv1.cell; have hf1 := hv1.frozen)
      have hg' : g' ≠ w.heap.size + 1 + 1 := by
        rcases hat with h9 | h9
        · intro e; exact HNE.out (h9.symm.trans (by rw [e]; rfl))
        · have : g' = X.heap.size + 1 := by simpa [Value.ownBlock] using h9
          omega
      have hy1 : Boxed w1 (w.heap.size + 1 + 1) 3 (.int .i64 S2) := (hy10.alloc _).kept hgrow (fun e => HNE.out e.symm)
      have hy2 := hy1.other (B' := w.heap.size + 1) (by omega) (.slice (some ⟨g', 0, none⟩) (nn + 1) cap')
      exact ⟨hkf.trans (hk2.from _), hkp.trans hkp2, ⟨⟨_, hv2, by rw [HAP.out, List.length_append, HNN.out, flatC_app]; exact hr2, by intro e; exact hg' (by simpa [Value.ownBlock] using e)⟩, hB10.trans hb2⟩, by rw [HS2'.out]; exact hy2⟩
  case done =>
    rintro D W hD ⟨⟨⟨v, hv, hrow, hne⟩, hB⟩, hy⟩ hK
    have hc := hv.cell
    gi_wp2
    refine ⟨by simp, .inl ⟨_, _, rfl, run_takeDeferred hK, ?_⟩⟩
    exact ⟨_, results_tmp2 rfl _ _ _, ⟨v, rfl, ownsRow_putObj hrow _ hK rfl⟩, hB.trans (belowK_b (w := w) (Nat.le_refl _) W D _ _ (by have := hb5.size; omega) hK rfl rfl)⟩
set_option maxRecDepth 100000 in
set_option maxHeartbeats 800000 in
theorem impTotals_no (a b : Int) (w : World) (h : ¬ okFs a b) :
    Calls Try.prog 16 #[.int .i64 a, .int .i64 b] w fun e w' => (∃ sq, e = .returned (.tuple #[sq, .bool false]) ∧ w'.ownsRow w.heap.size 3 1 sq ([] : List Int).length (flatC inC ([] : List Int))) ∧ Below w.heap.size w w' := by
  have HH := Lib.hid h
  clear h
  go_enter Try.func16, Try.ntmps16
  go_wp2_with fail
  refine (areF_no _ _ w HH.out).mono ?_
  rintro e w2 ⟨rfl, rfl⟩
  go_wp2_with fail
  go_ret2
  exact ⟨⟨_, rfl, World.ownsRow_made (base := w.heap.size) (e := 3) (size := 1) w #[] 0 (Nat.le_refl _) (Nat.zero_le _) (by simp)⟩, (Below.refl _ _).alloc (Nat.le_refl _) _⟩
end Go.Proofs.Ythmbehknacjodaa
