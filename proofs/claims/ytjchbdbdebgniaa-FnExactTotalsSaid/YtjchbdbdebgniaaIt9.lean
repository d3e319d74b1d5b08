/- The program's side of multiplying: digits' products, casting out, wrong digits. -/
import Derived.Test.YtjchbdbdebgniaaIrw
import Derived.Test.YtjchbdbdebgniaaNm3
namespace Go.Proofs.Ytjchbdbdebgniaa
set_option linter.unusedVariables false
open Go.RowKit


set_option maxRecDepth 100000 in
set_option maxHeartbeats 1600000 in
theorem impDigitProducts_yes (n : Nat) (d : Int) (w : World) (h : n ≤ 9999) (hd : 0 ≤ d ∧ d ≤ 9) :
    Calls Try.prog 34 #[.int .i64 (n : Int), .int .i64 d] w fun e w' => (∃ sq, e = .returned (.tuple #[sq, .bool true]) ∧ w'.ownsRow w.heap.size 3 1 sq (dpL d (dgL n)).length (flatC inC (dpL d (dgL n)))) ∧ Below w.heap.size w w' := by
  have HK : Hid (okFs (n : Int) d) := Lib.hid ⟨by omega, by omega⟩
  go_enter Try.func34, Try.ntmps34
  go_wp2_with fail
  refine (areF_yes _ _ w HK.out).mono ?_
  rintro e w2 ⟨rfl, hw2⟩
  subst w2
  go_wp2_with fail
  refine (rowOf_any n d w h hd).mono ?_
  rintro e w2 ⟨⟨sq, rfl, ho⟩, hb⟩
  have HO := Lib.hid ho
  have HB := Lib.hid hb
  clear ho hb
  go_wp2_with fail
  go_ret2
  exact ⟨⟨_, rfl, HO.out⟩, HB.out⟩
set_option maxRecDepth 100000 in
set_option maxHeartbeats 800000 in
theorem impDigitProducts_no (n d : Int) (w : World) (h : ¬ ((0 ≤ n ∧ n ≤ 9999) ∧ (0 ≤ d ∧ d ≤ 9))) :
    Calls Try.prog 34 #[.int .i64 n, .int .i64 d] w fun e w' => (∃ sq, e = .returned (.tuple #[sq, .bool false]) ∧ w'.ownsRow w.heap.size 3 1 sq ([] : List Int).length (flatC inC ([] : List Int))) ∧ Below w.heap.size w w' := by
  by_cases hk : okFs n d
  · have HK := Lib.hid hk
    have z1 : 9 < d := by
      rcases Int.lt_or_le 9 d with h1 | h1
      · exact h1
      · exact absurd ⟨hk.1, hk.2.1, h1⟩ h
    clear h hk
    go_enter Try.func34, Try.ntmps34
    go_wp2_with fail
    refine (areF_yes _ _ w HK.out).mono ?_
    rintro e w2 ⟨rfl, hw2⟩
    subst w2
    go_wp2_with fail
    go_ret2
    exact ⟨⟨_, rfl, World.ownsRow_made (base := w.heap.size) (e := 3) (size := 1) w #[] 0 (Nat.le_refl _) (Nat.zero_le _) (by simp)⟩, (Below.refl _ _).alloc (Nat.le_refl _) _⟩
  · have HK := Lib.hid hk
    clear h hk
    go_enter Try.func34, Try.ntmps34
    go_wp2_with fail
    refine (areF_no _ _ w HK.out).mono ?_
    rintro e w2 ⟨rfl, hw2⟩
    subst w2
    go_wp2_with fail
    go_ret2
    exact ⟨⟨_, rfl, World.ownsRow_made (base := w.heap.size) (e := 3) (size := 1) w #[] 0 (Nat.le_refl _) (Nat.zero_le _) (by simp)⟩, (Below.refl _ _).alloc (Nat.le_refl _) _⟩

set_option maxRecDepth 100000 in
set_option maxHeartbeats 800000 in
theorem impCastingOut_yes (a b : Nat) (p : Int) (w : World) (ha : a ≤ 9999) (hb : b ≤ 9999) (hp : 0 ≤ p) :
    Calls Try.prog 43 #[.int .i64 (a : Int), .int .i64 (b : Int), .int .i64 p] w fun e w' => e = .returned (.tuple #[.bool (((a : Int) * (b : Int)) % 9 == p % 9), .bool true]) ∧ Below w.heap.size w w' := by
  have hm := mul_top ha hb
  have hok : okFs (a : Int) (b : Int) := ⟨by omega, by omega⟩
  obtain ⟨P, hP⟩ : ∃ P : Int, (a : Int) * (b : Int) = P := ⟨_, rfl⟩
  have hw : IntKind.i64.wrap ((a : Int) * (b : Int)) = P := by rw [IntKind.wrap_i64]; omega
  rw [hP] at hm ⊢
  rw [show (P % 9 == p % 9) = (p % 9 == P % 9) from Bool.beq_comm ..]
  have HK := Lib.hid hok
  have z1 : ¬ p < 0 := by omega
  clear hok hP
  go_enter Try.func43, Try.ntmps43
  go_wp2_with fail
  refine (areF_yes _ _ w HK.out).mono ?_
  rintro e w2 ⟨rfl, hw2⟩
  subst w2
  go_wp2_with fail
  go_ret2
  exact ⟨rfl, Below.refl _ _⟩
set_option maxRecDepth 100000 in
set_option maxHeartbeats 800000 in
theorem impCastingOut_no (a b p : Int) (w : World) (h : ¬ (okFs a b ∧ 0 ≤ p)) :
    Calls Try.prog 43 #[.int .i64 a, .int .i64 b, .int .i64 p] w fun e w' => e = .returned (.tuple #[.bool false, .bool false]) ∧ Below w.heap.size w w' := by
  by_cases hk : okFs a b
  · have HK := Lib.hid hk
    have z1 : p < 0 := by
      rcases Int.lt_or_le p 0 with h1 | h1
      · exact h1
      · exact absurd ⟨hk, h1⟩ h
    clear hk h
    go_enter Try.func43, Try.ntmps43
    go_wp2_with fail
    refine (areF_yes _ _ w HK.out).mono ?_
    rintro e w2 ⟨rfl, hw2⟩
    subst w2
    go_wp2_with fail
    go_ret2
    exact ⟨rfl, Below.refl _ _⟩
  · have HK := Lib.hid hk
    clear hk h
    go_enter Try.func43, Try.ntmps43
    go_wp2_with fail
    refine (areF_no _ _ w HK.out).mono ?_
    rintro e w2 ⟨rfl, hw2⟩
    subst w2
    go_wp2_with fail
    go_ret2
    exact ⟨rfl, Below.refl _ _⟩

set_option maxRecDepth 100000 in
set_option maxHeartbeats 3200000 in
theorem impWrongDigits_yes (a b n : Nat) (w : World) (ha : a ≤ 9999) (hb9 : b ≤ 9999) (hn : n ≤ 99999999) :
    Calls Try.prog 45 #[.int .i64 (a : Int), .int .i64 (b : Int), .int .i64 (n : Int)] w fun e w' => (∃ sq, e = .returned (.tuple #[sq, .bool true]) ∧ w'.ownsRow w.heap.size 3 1 sq (wrL 8 0 (a * b) n).length (flatC inC (wrL 8 0 (a * b) n))) ∧ Below w.heap.size w w' := by
  obtain ⟨i0, hi, hz0, hz1, hz2⟩ := info_parts Try.infoI9
  have HK : Hid (okFs (a : Int) (b : Int)) := Lib.hid ⟨by omega, by omega⟩
  have hmt := mul_top ha hb9
  obtain ⟨P, hP⟩ : ∃ P : Nat, a * b = P := ⟨_, rfl⟩
  have hPi : (a : Int) * (b : Int) = (P : Int) := by rw [← hP]; simp
  have hw : IntKind.i64.wrap ((a : Int) * (b : Int)) = (P : Int) := by rw [IntKind.wrap_i64]; omega
  have hPb : P ≤ 99980001 := by omega
  have HL : Hid ((wrL 8 0 P n).length ≤ 8) := Lib.hid (wrL_len 8 0 P n)
  rw [hP]
  obtain ⟨W, hW⟩ : ∃ W, wrL 8 0 P n = W := ⟨_, rfl⟩
  have HW0 := Lib.hid hW.symm
  rw [hW] at HL ⊢
  clear hW hP hPi hmt ha hb9
  go_enter Try.func45, Try.ntmps45
  go_wp2_with fail
  refine (areF_yes _ _ w HK.out).mono ?_
  rintro e w2 ⟨rfl, hw2⟩
  subst w2
  go_wp2_with fail
  have HO0 : Hid (OutA w.heap.size 0 0 (w.alloc (.cells #[] 3)) 3 1 w.heap.size 0 0 []) := Lib.hid (outA_made w _ 1 (Nat.le_refl _) (Nat.zero_le _))
  have HB0 : Hid (Below w.heap.size w (w.alloc (.cells #[] 3))) := Lib.hid ((Below.refl _ _).alloc (Nat.le_refl _) _)
  generalize w.alloc (.cells #[] 3) = w1 at HO0 HB0 ⊢
  go_loopw [2, 8, 9, 10] (fun nv ov iv pv wr => ∃ (k x y g c : Nat) (ys : List Int), k ≤ 8 ∧ iv = .int .i64 (k : Int) ∧ pv = .int .i64 (x : Int) ∧ nv = .int .i64 (y : Int) ∧ ov = .slice (some ⟨g, 0, none⟩) ys.length c ∧ Hid (W = ys ++ wrL (8 - k) k x y) ∧ (x < 10 ^ (8 - k) ∧ y < 10 ^ (8 - k)) ∧ OutA w.heap.size 0 0 wr 3 1 g ys.length c (flatC inC ys) ∧ Below w.heap.size w wr) (fun _ _ iv _ _ => 20 - (intOf iv).toNat)
  case atStart => exact ⟨0, P, n, w.heap.size, 0, [], Nat.zero_le _, rfl, rfl, rfl, rfl, Lib.hid (by rw [HW0.out]; simp), by omega, HO0.out, HB0.out⟩
  case round =>
    obtain ⟨k, x, y, g, c, ys, hk, rfl, rfl, rfl, rfl, HY, ⟨hx, hy⟩, hO, hb⟩ := hrel
    have HO := Lib.hid hO
    have HB := Lib.hid hb
    have hyl : ys.length ≤ 8 := by have h1 := HL.out; rw [HY.out, List.length_append] at h1; omega
    by_cases hxy : x = y
    · subst hxy
      have HE : Hid (ys = W) := Lib.hid (by rw [HY.out, wrL_same, List.append_nil])
      have HR := Lib.hid hO.own
      have z1 : ((x : Int) != (x : Int)) = false := by simp
      clear hO hb hx hy
      go_wp2_with fail
      go_ret2
      exact ⟨⟨_, rfl, HE.out ▸ HR.out⟩, HB.out⟩
    · have hk8 : k < 8 := by
        rcases Nat.lt_or_ge k 8 with h | h
        · exact h
        · rw [show 8 - k = 0 by omega] at hx hy; simp at hx hy; omega
      have hst := HY.out
      rw [show 8 - k = (8 - (k + 1)) + 1 by omega, wrL_step] at hst
      rw [show 8 - k = (8 - (k + 1)) + 1 by omega, Nat.pow_succ] at hx hy
      have HXB : Hid (x / 10 < 10 ^ (8 - (k + 1)) ∧ y / 10 < 10 ^ (8 - (k + 1))) := Lib.hid ⟨by omega, by omega⟩
      have hx9 : x < 100000000 ∧ y < 100000000 := by
        have h1 : 10 ^ (8 - (k + 1)) ≤ 10 ^ 7 := Nat.pow_le_pow_right (by omega) (by omega)
        omega
      have z1 : ((x : Int) != (y : Int)) = true := by simp; omega
      have z2 : 0 ≤ (k : Int) := by omega
      have HD1 : Hid ((x : Int) / 10 = ((x / 10 : Nat) : Int)) := Lib.hid (by omega)
      have HD2 : Hid ((y : Int) / 10 = ((y / 10 : Nat) : Int)) := Lib.hid (by omega)
      by_cases hxy10 : x % 10 = y % 10
      · rw [if_neg (by simpa using hxy10), List.nil_append] at hst
        have HST := Lib.hid hst
        have z3 : ((x : Int) % 10 != (y : Int) % 10) = false := by simp; omega
        clear hst hx hy hxy hxy10 hO hb
        go_wp2_with fail
        go_roundw
        case rel => exact ⟨k + 1, x / 10, y / 10, g, c, ys, by omega, by go_num, by first | rfl | rw [HD1.out], by first | rfl | rw [HD2.out], rfl, HST, HXB.out, HO.out, HB.out⟩
        case measure => simp [intOf]; omega
      · rw [if_pos hxy10] at hst
        have HST : Hid (W = (ys ++ [(k : Int)]) ++ wrL (8 - (k + 1)) (k + 1) (x / 10) (y / 10)) := Lib.hid (by rw [hst, List.append_assoc])
        have z3 : ((x : Int) % 10 != (y : Int) % 10) = true := by simp; omega
        clear hst hx hy hxy hxy10 hO hb
        go_wp2_with (at_builtin; refine wpList_push (wr := wr) rfl _ _ 39 rfl w.heap.size 0 0 w 3 i0 (.int .i64 0) 1 8 Try.underlying39 hi hz0 hz1 hz2 rfl (by decide) g ys.length c (flatC inC ys) [.int .i64 (k : Int)] rfl rfl rfl ?c1 ?c2 (by decide) HO.out HB.out ?_)
        case c1 => first | rfl | exact ⟨rfl, rfl⟩ | exact ⟨rfl, rfl, rfl⟩ | (intro u hu; simp only [List.mem_cons, List.not_mem_nil, or_false] at hu; subst hu; rfl)
        case c2 => omega
        intro g3 c3 w3 hO3 hB3 hK3
        have HO3 : Hid (OutA w.heap.size 0 0 w3 3 1 g3 (ys ++ [(k : Int)]).length c3 (flatC inC (ys ++ [(k : Int)]))) := Lib.hid (by rw [List.length_append, flatC_app]; exact hO3)
        have hlen : ys.length + 1 = (ys ++ [(k : Int)]).length := by rw [List.length_append]; rfl
        rw [hlen]
        have HB3 := Lib.hid hB3
        clear hO3 hB3 hK3 hlen
        generalize ys ++ [(k : Int)] = ys2 at HO3 HST ⊢
        go_wp2_with fail
        go_roundw
        case rel => exact ⟨k + 1, x / 10, y / 10, g3, c3, ys2, by omega, by go_num, by first | rfl | rw [HD1.out], by first | rfl | rw [HD2.out], rfl, HST, HXB.out, HO3.out, HB3.out⟩
        case measure => simp [intOf]; omega
set_option maxRecDepth 100000 in
set_option maxHeartbeats 800000 in
theorem impWrongDigits_no (a b n : Int) (w : World) (h : ¬ (okFs a b ∧ (0 ≤ n ∧ n ≤ 99999999))) :
    Calls Try.prog 45 #[.int .i64 a, .int .i64 b, .int .i64 n] w fun e w' => (∃ sq, e = .returned (.tuple #[sq, .bool false]) ∧ w'.ownsRow w.heap.size 3 1 sq ([] : List Int).length (flatC inC ([] : List Int))) ∧ Below w.heap.size w w' := by
  by_cases hk : okFs a b
  · have HK := Lib.hid hk
    by_cases hn : n < 0
    · clear h hk
      go_enter Try.func45, Try.ntmps45
      go_wp2_with fail
      refine (areF_yes _ _ w HK.out).mono ?_
      rintro e w2 ⟨rfl, hw2⟩
      subst w2
      go_wp2_with fail
      go_ret2
      exact ⟨⟨_, rfl, World.ownsRow_made (base := w.heap.size) (e := 3) (size := 1) w #[] 0 (Nat.le_refl _) (Nat.zero_le _) (by simp)⟩, (Below.refl _ _).alloc (Nat.le_refl _) _⟩
    · have z2 : 99999999 < n := by
        rcases Int.lt_or_le 99999999 n with h1 | h1
        · exact h1
        · exact absurd ⟨hk, by omega, h1⟩ h
      clear h hk
      go_enter Try.func45, Try.ntmps45
      go_wp2_with fail
      refine (areF_yes _ _ w HK.out).mono ?_
      rintro e w2 ⟨rfl, hw2⟩
      subst w2
      go_wp2_with fail
      go_ret2
      exact ⟨⟨_, rfl, World.ownsRow_made (base := w.heap.size) (e := 3) (size := 1) w #[] 0 (Nat.le_refl _) (Nat.zero_le _) (by simp)⟩, (Below.refl _ _).alloc (Nat.le_refl _) _⟩
  · have HK := Lib.hid hk
    clear h hk
    go_enter Try.func45, Try.ntmps45
    go_wp2_with fail
    refine (areF_no _ _ w HK.out).mono ?_
    rintro e w2 ⟨rfl, hw2⟩
    subst w2
    go_wp2_with fail
    go_ret2
    exact ⟨⟨_, rfl, World.ownsRow_made (base := w.heap.size) (e := 3) (size := 1) w #[] 0 (Nat.le_refl _) (Nat.zero_le _) (by simp)⟩, (Below.refl _ _).alloc (Nat.le_refl _) _⟩
end Go.Proofs.Ytjchbdbdebgniaa
