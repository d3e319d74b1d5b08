/- The model's side of multiplying: doubling, wrong digits. -/
import Derived.Test.YtjchbdbdebgniaaNm1
namespace Go.Proofs.Ytjchbdbdebgniaa
set_option linter.unusedVariables false
open Go.RowKit

def prC (x : Int × Int) : List Value := [.int .i64 x.1, .int .i64 x.2]
theorem prC_len (x : Int × Int) : (prC x).length = 2 := rfl
theorem flat_prC (l : List (Int × Int)) : flat l = flatC prC l := by
  induction l with
  | nil => rfl
  | cons x t ih => rw [flat, flatC, ih]; rfl
theorem db_top {a b k : Nat} (ha : a ≤ 9999) (hb : b ≤ 9999) (hk : k ≤ 14) : b * 2 ^ k ≤ 163823616 := by
  have h1 : 2 ^ k ≤ 2 ^ 14 := Nat.pow_le_pow_right (by omega) hk
  have := Nat.mul_le_mul hb h1
  omega
theorem dbL_nn : ∀ (k a b : Nat), a < 2 ^ k → ∀ x ∈ dbL a b, 0 ≤ x.1 ∧ x.1 ≤ (a : Int) ∧ 0 ≤ x.2
  | 0, a, b, h, x, hx => by rw [show a = 0 by simpa using h, dbL_zero] at hx; cases hx
  | k + 1, a, b, h, x, hx => by
    by_cases h0 : a = 0
    · subst h0; rw [dbL_zero] at hx; cases hx
    · rw [dbL_pos (by omega)] at hx
      rcases List.mem_cons.1 hx with rfl | hx
      · exact ⟨by simp, by simp, by simp⟩
      · have := dbL_nn k (a / 2) (2 * b) (by rw [Nat.pow_succ] at h; omega) x hx
        omega
set_option maxRecDepth 100000 in
set_option maxHeartbeats 1600000 in
theorem l9Rows_any (a b : Nat) (w : World) (ha : a ≤ 9999) (hb9 : b ≤ 9999) :
    Calls Try.prog 82 #[.int .i64 (a : Int), .int .i64 (b : Int)] w fun e w' => (∃ sq, e = .returned sq ∧ w'.ownsRow w.heap.size 93 2 sq (dbL a b).length (flat (dbL a b))) ∧ Below w.heap.size w w' := by
  obtain ⟨i0, hi, hz0, hz1, hz2⟩ := info_parts Try.infoTwo
  have HL : Hid ((dbL a b).length ≤ 14) := Lib.hid (dbL_len14 ha b)
  have HBT : Hid (∀ k, k ≤ 14 → b * 2 ^ k ≤ 163823616) := Lib.hid (fun k hk => db_top ha hb9 hk)
  go_enter Try.func82, Try.ntmps82
  go_wp2_with fail
  go_loopw [0, 1, 5] (fun av bv ov wr => ∃ (m q g c : Nat) (ps : List (Int × Int)), m ≤ a ∧ av = .int .i64 (m : Int) ∧ bv = .int .i64 (q : Int) ∧ ov = .slice (some ⟨g, 0, none⟩) ps.length c ∧ Hid (dbL a b = ps ++ dbL m q) ∧ Hid (q = b * 2 ^ ps.length) ∧ OutA w.heap.size 0 0 wr 93 2 g ps.length c (flatC prC ps) ∧ Below w.heap.size w wr) (fun av _ _ _ => (intOf av).toNat)
  case atStart => exact ⟨a, b, w.heap.size, 0, [], Nat.le_refl _, rfl, rfl, rfl, Lib.hid rfl, Lib.hid (by simp), outA_made w _ 2 (Nat.le_refl _) (Nat.zero_le _), (Below.refl _ _).alloc (Nat.le_refl _) _⟩
  case round =>
    obtain ⟨m, q, g, c, ps, hm, rfl, rfl, rfl, HY, HQ, hO, hb⟩ := hrel
    have HO := Lib.hid hO
    have HB := Lib.hid hb
    have hpl : ps.length ≤ 14 := by have h1 := HL.out; rw [HY.out, List.length_append] at h1; omega
    have hq : q ≤ 163823616 := by rw [HQ.out]; exact HBT.out _ hpl
    by_cases hlt : 0 < m
    · have z1 : (1 : Int) ≤ (m : Int) := by omega
      have HY2 : Hid (dbL a b = (ps ++ [((m : Int), (q : Int))]) ++ dbL (m / 2) (2 * q)) := Lib.hid (by rw [HY.out, dbL_pos hlt, List.append_assoc, List.singleton_append])
      have HQ2 : Hid (2 * q = b * 2 ^ (ps ++ [((m : Int), (q : Int))]).length) := Lib.hid (by have h1 := HQ.out; rw [List.length_append, List.length_singleton, Nat.pow_succ, ← Nat.mul_assoc b]; omega)
      have HMB := Lib.hid hm
      have HDV : Hid ((m : Int) / 2 = ((m / 2 : Nat) : Int)) := Lib.hid (by omega)
      have HDQ : Hid (2 * (q : Int) = ((2 * q : Nat) : Int)) := Lib.hid (by omega)
      have hw : IntKind.i64.wrap (2 * (q : Int)) = 2 * (q : Int) := by rw [IntKind.wrap_i64]; omega
      clear hO hb
      go_wp2_with (at_builtin; refine wpList_push (wr := wr) rfl _ _ 28 rfl w.heap.size 0 0 w 93 i0 (.agg #[.int .i64 0, .int .i64 0]) 2 16 Try.underlying28 hi hz0 hz1 hz2 rfl (by decide) g ps.length c (flatC prC ps) [.int .i64 (m : Int), .int .i64 (q : Int)] rfl rfl rfl ?c1 ?c2 (by decide) HO.out HB.out ?_)
      case c1 => first | rfl | exact ⟨rfl, rfl⟩ | exact ⟨rfl, rfl, rfl⟩ | (intro u hu; simp only [List.mem_cons, List.not_mem_nil, or_false] at hu; rcases hu with rfl | rfl <;> rfl)
      case c2 => omega
      intro g3 c3 w3 hO3 hB3 hK3
      have HO3 : Hid (OutA w.heap.size 0 0 w3 93 2 g3 (ps ++ [((m : Int), (q : Int))]).length c3 (flatC prC (ps ++ [((m : Int), (q : Int))]))) := Lib.hid (by rw [List.length_append, flatC_app]; exact hO3)
      have HB3 := Lib.hid hB3
      have hlen : ps.length + 1 = (ps ++ [((m : Int), (q : Int))]).length := by rw [List.length_append]; rfl
      rw [hlen]
      clear hO3 hB3 hK3 hlen
      generalize ps ++ [((m : Int), (q : Int))] = qs at HO3 HY2 HQ2 ⊢
      go_wp2_with fail
      go_roundw
      case rel => exact ⟨m / 2, 2 * q, g3, c3, qs, by omega, by first | rfl | rw [HDV.out], by first | rfl | rw [HDQ.out], rfl, HY2, HQ2, HO3.out, HB3.out⟩
      case measure => simp [intOf]; omega
    · obtain rfl : m = 0 := by omega
      have HY2 : Hid (ps = dbL a b) := Lib.hid (by rw [HY.out, dbL_zero, List.append_nil])
      have HE : Hid (wr.ownsRow w.heap.size 93 2 (.slice (some ⟨g, 0, none⟩) ps.length c) ps.length (flat ps)) := Lib.hid (by rw [flat_prC]; exact hO.own)
      clear hO hb
      go_wp2_with fail
      go_ret
      exact ⟨⟨_, rfl, HY2.out ▸ HE.out⟩, HB.out⟩
set_option maxRecDepth 100000 in
set_option maxHeartbeats 800000 in
theorem speByDoubling_yes (a b : Nat) (w : World) (ha : a ≤ 9999) (hb : b ≤ 9999) :
    Calls Try.prog 35 #[.int .i64 (a : Int), .int .i64 (b : Int)] w fun e w' => (∃ sq, e = .returned (.tuple #[sq, .bool true]) ∧ RodsR w' sq (dbL a b)) ∧ Below w.heap.size w w' := by
  have HOK : Hid (okFs (a : Int) (b : Int)) := Lib.hid ⟨by omega, by omega⟩
  go_enter Try.func35, Try.ntmps35
  go_wp2_with fail
  refine (l9Both_yes _ _ w HOK.out).mono ?_
  rintro e w2 ⟨rfl, rfl⟩
  go_wp2_with fail
  refine (l9Rows_any a b w ha hb).mono ?_
  rintro e w2 ⟨⟨sq, rfl, ho⟩, hb2⟩
  have HO := Lib.hid ho
  have HB := Lib.hid hb2
  clear ho hb2
  go_wp2_with fail
  go_ret2
  exact ⟨⟨_, rfl, RodsR.of_own HO.out⟩, HB.out⟩
set_option maxRecDepth 100000 in
set_option maxHeartbeats 800000 in
theorem speByDoubling_no (a b : Int) (w : World) (h : ¬ okFs a b) :
    Calls Try.prog 35 #[.int .i64 a, .int .i64 b] w fun e w' => (∃ sq, e = .returned (.tuple #[sq, .bool false]) ∧ RodsR w' sq []) ∧ Below w.heap.size w w' := by
  go_enter Try.func35, Try.ntmps35
  go_wp2_with fail
  refine (l9Both_no _ _ w h).mono ?_
  rintro e w2 ⟨rfl, rfl⟩
  go_wp2_with fail
  go_ret2
  exact ⟨⟨_, rfl, ⟨_, 0, rfl, ⟨Nat.zero_le _, Nat.le_refl _⟩, fun h => absurd rfl h⟩⟩, (Below.refl _ _).alloc (Nat.le_refl _) _⟩

theorem odL_snoc (l : List (Int × Int)) (k : Nat) (h : k < l.length) : odL (l.take (k + 1)) = odL (l.take k) ++ (if l[k].1 % 2 = 1 then [l[k].2] else []) := by
  rw [List.take_add_one, List.getElem?_eq_getElem h, Option.toList_some, odL_app, odL_one]
set_option maxRecDepth 100000 in
set_option maxHeartbeats 1600000 in
theorem speOddRows_yes (a b : Nat) (w : World) (ha : a ≤ 9999) (hb9 : b ≤ 9999) :
    Calls Try.prog 40 #[.int .i64 (a : Int), .int .i64 (b : Int)] w fun e w' => (∃ sq, e = .returned (.tuple #[sq, .bool true]) ∧ RowsR 1 inC w' sq (odL (dbL a b))) ∧ Below w.heap.size w w' := by
  obtain ⟨i0, hi, hz0, hz1, hz2⟩ := info_parts Try.infoI9
  have hl14 := dbL_len14 ha b
  have HOK : Hid (okFs (a : Int) (b : Int)) := Lib.hid ⟨by omega, by omega⟩
  have HG := Lib.hid (fun w => l9Rows_any a b w ha hb9)
  have HN : Hid (∀ i (h : i < (dbL a b).length), 0 ≤ (dbL a b)[i].1 ∧ (dbL a b)[i].1 ≤ 9999) := Lib.hid (fun i h => by
    have := dbL_nn 14 a b (by omega) _ (List.getElem_mem h); omega)
  generalize dbL a b = L at hl14 HG HN ⊢
  clear ha hb9
  go_enter Try.func40, Try.ntmps40
  go_wp2_with fail
  have hs0 : (w.alloc (.cells #[] 3)).heap.size = w.heap.size + 1 := by simp
  have hb0 : Below w.heap.size w (w.alloc (.cells #[] 3)) := (Below.refl _ _).alloc (Nat.le_refl _) _
  have ho0 : (w.alloc (.cells #[] 3)).ownsRow w.heap.size 3 1 (.slice (some ⟨w.heap.size, 0, none⟩) 0 0) 0 [] := World.ownsRow_made _ _ _ (Nat.le_refl _) (Nat.zero_le _) (by simp)
  generalize w.alloc (.cells #[] 3) = w1 at hs0 hb0 ho0 ⊢
  refine (l9Both_yes _ _ w1 HOK.out).mono ?_
  rintro e w2 ⟨rfl, rfl⟩
  go_wp2_with fail
  refine (HG.out w1).mono ?_
  rintro e w2 ⟨⟨sd, rfl, od⟩, hb2⟩
  rw [flat_prC] at od
  obtain ⟨ad, cd, rfl⟩ := own_form od
  have HO0 : Hid (OutA w.heap.size w1.heap.size w2.heap.size w2 3 1 w.heap.size 0 0 []) := Lib.hid ⟨own_below ho0 hb2, .inl (by omega), Nat.le_refl _⟩
  have HB0 : Hid (Below w.heap.size w w2) := Lib.hid (hb0.trans (hb2.mono hb0.size))
  have HR := Lib.hid (fun (wr : World) (hk : KeepB w1.heap.size w2.heap.size w2 wr) i (hi : i < L.length) => own_read prC_len od rfl hk i hi)
  have HZ : Hid (L.length ≤ 9223372036854775807) := Lib.hid (by omega)
  clear od hb2 ho0 hb0 hs0
  go_wp2_with fail
  go_loopw [6, 8] (fun ov iv wr => ∃ (k g c : Nat), k ≤ L.length ∧ iv = .int .i64 (k : Int) ∧ ov = .slice (some ⟨g, 0, none⟩) (odL (L.take k)).length c ∧ OutA w.heap.size w1.heap.size w2.heap.size wr 3 1 g (odL (L.take k)).length c (flatC inC (odL (L.take k))) ∧ Below w.heap.size w wr ∧ KeepB w1.heap.size w2.heap.size w2 wr) (fun _ iv _ => 20 - (intOf iv).toNat)
  case atStart => exact ⟨0, w.heap.size, 0, Nat.zero_le _, rfl, rfl, HO0.out, HB0.out, KeepB.refl _ _ _⟩
  case round =>
    obtain ⟨k, g, c, hk, rfl, rfl, hO, hb, hK⟩ := hrel
    have HO := Lib.hid hO
    have HB := Lib.hid hb
    have HK := Lib.hid hK
    have hol : (odL (L.take k)).length ≤ 14 := by have h1 := odL_len (L.take k); rw [List.length_take] at h1; omega
    by_cases hlt : k < L.length
    · obtain ⟨b, rfl, hc⟩ := HR.out wr hK k hlt
      have c0 : wr.cell? ⟨b, k * 2, none⟩ = some (.int .i64 L[k].1) := hc 0 (by omega)
      have c1 : wr.cell? ⟨b, k * 2 + 1, none⟩ = some (.int .i64 L[k].2) := hc 1 (by omega)
      have hx := HN.out k hlt
      have z1 : (0 : Int) ≤ (k : Int) := by omega
      have z2 : (k : Int) < (L.length : Int) := by omega
      have hsn := odL_snoc L k hlt
      obtain ⟨x, hxe⟩ : ∃ x, L[k].1 = x := ⟨_, rfl⟩
      obtain ⟨y, hye⟩ : ∃ y, L[k].2 = y := ⟨_, rfl⟩
      rw [hxe] at c0 hx hsn
      rw [hye] at c1 hsn
      clear hc hO hb hK hxe hye
      by_cases hodd : x % 2 = 1
      · rw [if_pos hodd] at hsn
        have HSN := Lib.hid hsn
        have hod2 : (x % 2 == 1) = true := by simpa using hodd
        generalize hU : odL (L.take k) = U at HO HSN hol ⊢
        generalize hU2 : odL (L.take (k + 1)) = U2 at HSN
        clear hsn hU hodd
        go_wp2_with (at_builtin; refine wpList_push (wr := wr) rfl _ _ 39 rfl w.heap.size w1.heap.size w2.heap.size w 3 i0 (.int .i64 0) 1 8 Try.underlying39 hi hz0 hz1 hz2 rfl (by decide) g U.length c (flatC inC U) [.int .i64 y] rfl rfl rfl ?c1 ?c2 (by decide) HO.out HB.out ?_)
        case c1 => first | rfl | exact ⟨rfl, rfl⟩ | exact ⟨rfl, rfl, rfl⟩ | (intro u hu; simp only [List.mem_cons, List.not_mem_nil, or_false] at hu; subst hu; rfl)
        case c2 => omega
        intro g3 c3 w3 hO3 hB3 hK3
        have HO3 : Hid (OutA w.heap.size w1.heap.size w2.heap.size w3 3 1 g3 (odL (L.take (k + 1))).length c3 (flatC inC (odL (L.take (k + 1))))) := Lib.hid (by rw [hU2, HSN.out, List.length_append, flatC_app]; exact hO3)
        have hlen : U.length + 1 = (odL (L.take (k + 1))).length := by rw [hU2, HSN.out, List.length_append]; rfl
        rw [hlen]
        have HB3 := Lib.hid hB3
        have HK3 := Lib.hid (HK.out.trans hK3)
        clear hO3 hB3 hK3 c0 c1 hlen hU2
        go_wp2_with fail
        go_roundw
        case rel => exact ⟨k + 1, g3, c3, by omega, by go_num, rfl, HO3.out, HB3.out, HK3.out⟩
        case measure => simp [intOf]; omega
      · rw [if_neg hodd, List.append_nil] at hsn
        have hod2 : (x % 2 == 1) = false := by simpa using hodd
        rw [← hsn] at HO ⊢
        clear hsn hodd
        go_wp2_with fail
        go_roundw
        case rel => exact ⟨k + 1, g, c, by omega, by go_num, rfl, HO.out, HB.out, HK.out⟩
        case measure => simp [intOf]; omega
    · obtain rfl : k = L.length := by omega
      rw [List.take_length] at hO ⊢
      have HE := Lib.hid (RowsR.of_own inC_len hO.own)
      clear hO hb hK HO
      go_wp2_with fail
      go_ret2
      exact ⟨⟨_, rfl, HE.out⟩, HB.out⟩
set_option maxRecDepth 100000 in
set_option maxHeartbeats 800000 in
theorem speOddRows_no (a b : Int) (w : World) (h : ¬ okFs a b) :
    Calls Try.prog 40 #[.int .i64 a, .int .i64 b] w fun e w' => (∃ sq, e = .returned (.tuple #[sq, .bool false]) ∧ RowsR 1 inC w' sq []) ∧ Below w.heap.size w w' := by
  have HR : Hid (∀ w' : World, RowsR 1 inC w' (.slice (some ⟨w.heap.size, 0, none⟩) 0 0) ([] : List Int)) := Lib.hid (fun w' => ⟨_, 0, rfl, ⟨Nat.zero_le _, Nat.le_refl _⟩, fun h => absurd h (by simp)⟩)
  have HH := Lib.hid h
  clear h
  go_enter Try.func40, Try.ntmps40
  go_wp2_with fail
  have hs0 : (w.alloc (.cells #[] 3)).heap.size = w.heap.size + 1 := by simp
  have hb0 : Below w.heap.size w (w.alloc (.cells #[] 3)) := (Below.refl _ _).alloc (Nat.le_refl _) _
  have ho0 : (w.alloc (.cells #[] 3)).ownsRow w.heap.size 3 1 (.slice (some ⟨w.heap.size, 0, none⟩) 0 0) 0 [] := World.ownsRow_made _ _ _ (Nat.le_refl _) (Nat.zero_le _) (by simp)
  generalize w.alloc (.cells #[] 3) = w1 at hs0 hb0 ho0 ⊢
  refine (l9Both_no _ _ w1 HH.out).mono ?_
  rintro e w2 ⟨rfl, rfl⟩
  go_wp2_with fail
  go_ret2
  exact ⟨⟨_, rfl, HR.out _⟩, hb0⟩

theorem wrL_step (m k p n : Nat) : wrL (m + 1) k p n = (if p % 10 ≠ n % 10 then [(k : Int)] else []) ++ wrL m (k + 1) (p / 10) (n / 10) := rfl
theorem div_pow (p k : Nat) : p / 10 ^ k / 10 = p / 10 ^ (k + 1) := by rw [Nat.div_div_eq_div_mul, Nat.pow_succ]
set_option maxRecDepth 100000 in
set_option maxHeartbeats 3200000 in
theorem speWrongDigits_yes (a b n : Nat) (w : World) (ha : a ≤ 9999) (hb9 : b ≤ 9999) (hn : n ≤ 99999999) :
    Calls Try.prog 44 #[.int .i64 (a : Int), .int .i64 (b : Int), .int .i64 (n : Int)] w fun e w' => (∃ sq, e = .returned (.tuple #[sq, .bool true]) ∧ RowsR 1 inC w' sq (wrL 8 0 (a * b) n)) ∧ Below w.heap.size w w' := by
  obtain ⟨i0, hi, hz0, hz1, hz2⟩ := info_parts Try.infoI9
  have HOK : Hid (okFs (a : Int) (b : Int)) := Lib.hid ⟨by omega, by omega⟩
  have hmt := mul_top ha hb9
  obtain ⟨P, hP⟩ : ∃ P : Nat, a * b = P := ⟨_, rfl⟩
  have hPi : (a : Int) * (b : Int) = (P : Int) := by rw [← hP]; simp
  have hw : IntKind.i64.wrap ((a : Int) * (b : Int)) = (P : Int) := by rw [IntKind.wrap_i64]; omega
  have hPb : P ≤ 99980001 := by omega
  have hin : inB (n : Int) 0 99999999 = true := inB_yes (by omega) (by omega)
  have HL : Hid ((wrL 8 0 P n).length ≤ 8) := Lib.hid (wrL_len 8 0 P n)
  rw [hP]
  obtain ⟨W, hW⟩ : ∃ W, wrL 8 0 P n = W := ⟨_, rfl⟩
  have HW0 := Lib.hid hW.symm
  rw [hW] at HL ⊢
  clear hW hP hPi hmt ha hb9
  go_enter Try.func44, Try.ntmps44
  go_wp2_with fail
  have hs0 : (w.alloc (.cells #[] 3)).heap.size = w.heap.size + 1 := by simp
  have hb0 : Below w.heap.size w (w.alloc (.cells #[] 3)) := (Below.refl _ _).alloc (Nat.le_refl _) _
  have ho0 : (w.alloc (.cells #[] 3)).ownsRow w.heap.size 3 1 (.slice (some ⟨w.heap.size, 0, none⟩) 0 0) 0 [] := World.ownsRow_made _ _ _ (Nat.le_refl _) (Nat.zero_le _) (by simp)
  generalize w.alloc (.cells #[] 3) = w1 at hs0 hb0 ho0 ⊢
  refine (l9Both_yes _ _ w1 HOK.out).mono ?_
  rintro e w2 ⟨rfl, rfl⟩
  go_wp2_with fail
  refine (l1In_any (n : Int) 0 99999999 w1).mono ?_
  rintro e w2 ⟨rfl, rfl⟩
  rw [hin]
  go_wp2_with fail
  have HO0 : Hid (OutA w.heap.size 0 0 w1 3 1 w.heap.size 0 0 []) := Lib.hid ⟨ho0, .inr (Nat.zero_le _), Nat.zero_le _⟩
  have HB0 := Lib.hid hb0
  clear ho0 hb0 hs0
  go_loopw [8, 9] (fun ov iv wr => ∃ (k g c : Nat) (ys : List Int), k ≤ 8 ∧ iv = .int .i64 (k : Int) ∧ ov = .slice (some ⟨g, 0, none⟩) ys.length c ∧ Hid (W = ys ++ wrL (8 - k) k (P / 10 ^ k) (n / 10 ^ k)) ∧ OutA w.heap.size 0 0 wr 3 1 g ys.length c (flatC inC ys) ∧ Below w.heap.size w wr) (fun _ iv _ => 20 - (intOf iv).toNat)
  case atStart => exact ⟨0, w.heap.size, 0, [], Nat.zero_le _, rfl, rfl, Lib.hid (by rw [HW0.out]; simp), HO0.out, HB0.out⟩
  case round =>
    obtain ⟨k, g, c, ys, hk, rfl, rfl, HY, hO, hb⟩ := hrel
    have HO := Lib.hid hO
    have HB := Lib.hid hb
    have hyl : ys.length ≤ 8 := by have h1 := HL.out; rw [HY.out, List.length_append] at h1; omega
    by_cases hlt : k < 8
    · obtain ⟨p1, p2⟩ := pow_bd k (by omega)
      obtain ⟨z, hz⟩ : ∃ z : Nat, 10 ^ k = z := ⟨_, rfl⟩
      have hzi : (10 : Int) ^ k = (z : Int) := by rw [← hz]; simp
      have HP := Lib.hid (fun w => l2Power_any k w (by omega))
      rw [hzi] at p1 p2 HP
      have hst := HY.out
      rw [show 8 - k = (7 - k) + 1 by omega, wrL_step, div_pow, div_pow, hz, show 7 - k = 8 - (k + 1) by omega] at hst
      have z0 : ((z : Int) == 0) = false := beq_eq_false_iff_ne.2 (by omega)
      have z1 : (z : Int) ≠ 0 := by omega
      have z4 : ¬ z = 0 := by omega
      have z5 : z ≠ 0 := by omega
      have z2 : (k : Int) < 8 := by omega
      have z3 : 0 ≤ (k : Int) := by omega
      have e1 : (IntKind.i64.wrap ((P : Int) / (z : Int))).tmod 10 = ((P / z % 10 : Nat) : Int) := by
        have hd : P / z ≤ P := Nat.div_le_self _ _
        rw [← Int.natCast_ediv]
        generalize P / z = x at hd ⊢
        rw [show IntKind.i64.wrap (x : Int) = (x : Int) by rw [IntKind.wrap_i64]; omega, Int.tmod_eq_emod_of_nonneg (by omega)]; omega
      have e2 : (IntKind.i64.wrap ((n : Int) / (z : Int))).tmod 10 = ((n / z % 10 : Nat) : Int) := by
        have hd : n / z ≤ n := Nat.div_le_self _ _
        rw [← Int.natCast_ediv]
        generalize n / z = x at hd ⊢
        rw [show IntKind.i64.wrap (x : Int) = (x : Int) by rw [IntKind.wrap_i64]; omega, Int.tmod_eq_emod_of_nonneg (by omega)]; omega
      generalize P / z % 10 = x at hst e1
      generalize n / z % 10 = y at hst e2
      obtain ⟨X, hX⟩ : ∃ X : Int, (x : Int) = X := ⟨_, rfl⟩
      obtain ⟨Y, hY⟩ : ∃ Y : Int, (y : Int) = Y := ⟨_, rfl⟩
      obtain ⟨bb, hbb⟩ : ∃ bb, (X != Y) = bb := ⟨_, rfl⟩
      have hbe : (if x ≠ y then [(k : Int)] else []) = if bb = true then [(k : Int)] else [] := by
        rw [← hbb, ← hX, ← hY]
        by_cases e : x = y
        · rw [if_neg (by simpa using e), if_neg (by simp; omega)]
        · rw [if_pos e, if_pos (by simp; omega)]
      rw [hbe] at hst
      have HST := Lib.hid hst
      have E1 := Lib.hid (e1.trans hX)
      have E2 := Lib.hid (e2.trans hY)
      clear hst e1 e2 hX hY hbe hzi hO hb
      go_wp2_with fail
      go_region_law (go_simp; go_at_call 71; refine (HP.out _).mono ?_; rintro e w9 ⟨rfl, rfl⟩)
      simp only [E1.out, E2.out, hbb]
      have HB4 : Hid (Below w.heap.size w wr.drew) := Lib.hid HB.out.drew
      have HO4 : Hid (OutA w.heap.size 0 0 wr.drew 3 1 g ys.length c (flatC inC ys)) := Lib.hid (HO.out.next (Below.refl _ _).drew)
      generalize wr.drew = w4 at HB4 HO4 ⊢
      clear hbb
      cases bb with
      | true =>
        have HST2 : Hid (W = (ys ++ [(k : Int)]) ++ wrL (8 - (k + 1)) (k + 1) (P / 10 ^ (k + 1)) (n / 10 ^ (k + 1))) := Lib.hid (by rw [HST.out, if_pos rfl, List.append_assoc])
        go_wp2_with (at_builtin; refine wpList_push (wr := w4) rfl _ _ 39 rfl w.heap.size 0 0 w 3 i0 (.int .i64 0) 1 8 Try.underlying39 hi hz0 hz1 hz2 rfl (by decide) g ys.length c (flatC inC ys) [.int .i64 (k : Int)] rfl rfl rfl ?c1 ?c2 (by decide) HO4.out HB4.out ?_)
        case c1 => first | rfl | exact ⟨rfl, rfl⟩ | exact ⟨rfl, rfl, rfl⟩ | (intro u hu; simp only [List.mem_cons, List.not_mem_nil, or_false] at hu; subst hu; rfl)
        case c2 => omega
        intro g3 c3 w3 hO3 hB3 hK3
        have HO3 : Hid (OutA w.heap.size 0 0 w3 3 1 g3 (ys ++ [(k : Int)]).length c3 (flatC inC (ys ++ [(k : Int)]))) := Lib.hid (by rw [List.length_append, flatC_app]; exact hO3)
        have hlen : ys.length + 1 = (ys ++ [(k : Int)]).length := by rw [List.length_append]; rfl
        rw [hlen]
        have HB3 := Lib.hid hB3
        clear hO3 hB3 hK3 hlen
        generalize ys ++ [(k : Int)] = ys2 at HO3 HST2 ⊢
        go_wp2_with fail
        go_roundw
        case rel => exact ⟨k + 1, g3, c3, ys2, by omega, by go_num, rfl, HST2, HO3.out, HB3.out⟩
        case measure => simp [intOf]; omega
      | false =>
        have HST2 : Hid (W = ys ++ wrL (8 - (k + 1)) (k + 1) (P / 10 ^ (k + 1)) (n / 10 ^ (k + 1))) := Lib.hid (by rw [HST.out, if_neg (by simp), List.nil_append])
        go_wp2_with fail
        go_roundw
        case rel => exact ⟨k + 1, g, c, ys, by omega, by go_num, rfl, HST2, HO4.out, HB4.out⟩
        case measure => simp [intOf]; omega
    · obtain rfl : k = 8 := by omega
      have HE : Hid (ys = W) := Lib.hid (by rw [HY.out, show 8 - 8 = 0 from rfl, wrL, List.append_nil])
      have HR := Lib.hid (RowsR.of_own inC_len hO.own)
      clear hO hb
      go_wp2_with fail
      go_ret2
      exact ⟨⟨_, rfl, HE.out ▸ HR.out⟩, HB.out⟩
set_option maxRecDepth 100000 in
set_option maxHeartbeats 800000 in
theorem speWrongDigits_no (a b n : Int) (w : World) (h : ¬ (okFs a b ∧ (0 ≤ n ∧ n ≤ 99999999))) :
    Calls Try.prog 44 #[.int .i64 a, .int .i64 b, .int .i64 n] w fun e w' => (∃ sq, e = .returned (.tuple #[sq, .bool false]) ∧ RowsR 1 inC w' sq []) ∧ Below w.heap.size w w' := by
  have HR : Hid (∀ w' : World, RowsR 1 inC w' (.slice (some ⟨w.heap.size, 0, none⟩) 0 0) ([] : List Int)) := Lib.hid (fun w' => ⟨_, 0, rfl, ⟨Nat.zero_le _, Nat.le_refl _⟩, fun h => absurd h (by simp)⟩)
  by_cases hk : okFs a b
  · have HK := Lib.hid hk
    have hn : inB n 0 99999999 = false := inB_no (fun h1 => h ⟨hk, h1⟩)
    clear h hk
    go_enter Try.func44, Try.ntmps44
    go_wp2_with fail
    have hs0 : (w.alloc (.cells #[] 3)).heap.size = w.heap.size + 1 := by simp
    have hb0 : Below w.heap.size w (w.alloc (.cells #[] 3)) := (Below.refl _ _).alloc (Nat.le_refl _) _
    have ho0 : (w.alloc (.cells #[] 3)).ownsRow w.heap.size 3 1 (.slice (some ⟨w.heap.size, 0, none⟩) 0 0) 0 [] := World.ownsRow_made _ _ _ (Nat.le_refl _) (Nat.zero_le _) (by simp)
    generalize w.alloc (.cells #[] 3) = w1 at hs0 hb0 ho0 ⊢
    refine (l9Both_yes _ _ w1 HK.out).mono ?_
    rintro e w2 ⟨rfl, rfl⟩
    go_wp2_with fail
    refine (l1In_any n 0 99999999 w1).mono ?_
    rintro e w2 ⟨rfl, rfl⟩
    rw [hn]
    go_wp2_with fail
    go_ret2
    exact ⟨⟨_, rfl, HR.out _⟩, hb0⟩
  · have HK := Lib.hid hk
    clear h hk
    go_enter Try.func44, Try.ntmps44
    go_wp2_with fail
    have hs0 : (w.alloc (.cells #[] 3)).heap.size = w.heap.size + 1 := by simp
    have hb0 : Below w.heap.size w (w.alloc (.cells #[] 3)) := (Below.refl _ _).alloc (Nat.le_refl _) _
    have ho0 : (w.alloc (.cells #[] 3)).ownsRow w.heap.size 3 1 (.slice (some ⟨w.heap.size, 0, none⟩) 0 0) 0 [] := World.ownsRow_made _ _ _ (Nat.le_refl _) (Nat.zero_le _) (by simp)
    generalize w.alloc (.cells #[] 3) = w1 at hs0 hb0 ho0 ⊢
    refine (l9Both_no _ _ w1 HK.out).mono ?_
    rintro e w2 ⟨rfl, rfl⟩
    go_wp2_with fail
    go_ret2
    exact ⟨⟨_, rfl, HR.out _⟩, hb0⟩
end Go.Proofs.Ytjchbdbdebgniaa
