/- Parts laid as one: Nm3, Nm2. -/
import Derived.Test.YthmbehknacjodaaKw
/-! Nm3 -/
namespace Go.Proofs.Ythmbehknacjodaa
set_option linter.unusedVariables false
open Go.RowKit

def prC (x : Int × Int) : List Value := [.int .i64 x.1, .int .i64 x.2]
theorem prC_len (x : Int × Int) : (prC x).length = 2 := rfl
theorem flat_prC (l : List (Int × Int)) : flat l = flatC prC l := by
  induction l with
  | nil => rfl
  | cons x t ih => rw [flat, flatC, ih]; rfl
theorem db_top {a b k : Nat} (ha : a ≤ 9999) (hb : b ≤ 9999) (hk : k ≤ 14) : b * 2 ^ k ≤ 163823616 := by
  have h1 : 2 ^ k ≤ 2 ^ 14 := Nat.pow_le_pow_right (by omega) hk
  have := Nat.mul_le_mul hb h1
  omega
theorem dbL_nn : ∀ (k a b : Nat), a < 2 ^ k → ∀ x ∈ dbL a b, 0 ≤ x.1 ∧ x.1 ≤ (a : Int) ∧ 0 ≤ x.2
  | 0, a, b, h, x, hx => by rw [show a = 0 by simpa using h, dbL_zero] at hx; cases hx
  | k + 1, a, b, h, x, hx => by
    by_cases h0 : a = 0
    · subst h0; rw [dbL_zero] at hx; cases hx
    · rw [dbL_pos (by omega)] at hx
      rcases List.mem_cons.1 hx with rfl | hx
      · exact ⟨by simp, by simp, by simp⟩
      · have := dbL_nn k (a / 2) (2 * b) (by rw [Nat.pow_succ] at h; omega) x hx
        omega
set_option maxRecDepth 100000 in
set_option maxHeartbeats 1600000 in
theorem l9Rows_any (a b : Nat) (w : World) (ha : a ≤ 9999) (hb9 : b ≤ 9999) :
    Calls Try.prog 78 #[.int .i64 (a : Int), .int .i64 (b : Int)] w fun e w' => (∃ sq, e = .returned sq ∧ w'.ownsRow w.heap.size 77 2 sq (dbL a b).length (flat (dbL a b))) ∧ Below w.heap.size w w' := by
  obtain ⟨i0, hi, hz0, hz1, hz2⟩ := info_parts Try.infoTwo
  have HL : Hid ((dbL a b).length ≤ 14) := Lib.hid (dbL_len14 ha b)
  have HBT : Hid (∀ k, k ≤ 14 → b * 2 ^ k ≤ 163823616) := Lib.hid (fun k hk => db_top ha hb9 hk)
  go_enter Try.func78, Try.ntmps78
  go_wp2_with fail
  go_loopw [0, 1, 5] (fun av bv ov wr => ∃ (m q g c : Nat) (ps : List (Int × Int)), m ≤ a ∧ av = .int .i64 (m : Int) ∧ bv = .int .i64 (q : Int) ∧ ov = .slice (some ⟨g, 0, none⟩) ps.length c ∧ Hid (dbL a b = ps ++ dbL m q) ∧ Hid (q = b * 2 ^ ps.length) ∧ OutA w.heap.size 0 0 wr 77 2 g ps.length c (flatC prC ps) ∧ Below w.heap.size w wr) (fun av _ _ _ => (intOf av).toNat)
  case atStart => exact ⟨a, b, w.heap.size, 0, [], Nat.le_refl _, rfl, rfl, rfl, Lib.hid rfl, Lib.hid (by simp), outA_made w _ 2 (Nat.le_refl _) (Nat.zero_le _), (Below.refl _ _).alloc (Nat.le_refl _) _⟩
  case round =>
    obtain ⟨m, q, g, c, ps, hm, rfl, rfl, rfl, HY, HQ, hO, hb⟩ := hrel
    have HO := Lib.hid hO
    have HB := Lib.hid hb
    have hpl : ps.length ≤ 14 := by have h1 := HL.out; rw [HY.out, List.length_append] at h1; omega
    have hq : q ≤ 163823616 := by rw [HQ.out]; exact HBT.out _ hpl
    by_cases hlt : 0 < m
    · have z1 : (1 : Int) ≤ (m : Int) := by omega
      have HY2 : Hid (dbL a b = (ps ++ [((m : Int), (q : Int))]) ++ dbL (m / 2) (2 * q)) := Lib.hid (by rw [HY.out, dbL_pos hlt, List.append_assoc, List.singleton_append])
      have HQ2 : Hid (2 * q = b * 2 ^ (ps ++ [((m : Int), (q : Int))]).length) := Lib.hid (by have h1 := HQ.out; rw [List.length_append, List.length_singleton, Nat.pow_succ, ← Nat.mul_assoc b]; omega)
      have HMB := Lib.hid hm
      have HDV : Hid ((m : Int) / 2 = ((m / 2 : Nat) : Int)) := Lib.hid (by omega)
      have HDQ : Hid (2 * (q : Int) = ((2 * q : Nat) : Int)) := Lib.hid (by omega)
      have hw : IntKind.i64.wrap (2 * (q : Int)) = 2 * (q : Int) := by rw [IntKind.wrap_i64]; omega
      clear hO hb
      go_wp2_with (at_builtin; refine wpList_push (wr := wr) rfl _ _ 34 rfl w.heap.size 0 0 w 77 i0 (.agg #[.int .i64 0, .int .i64 0]) 2 16 Try.underlying34 hi hz0 hz1 hz2 rfl (by decide) g ps.length c (flatC prC ps) [.int .i64 (m : Int), .int .i64 (q : Int)] rfl rfl rfl ?c1 ?c2 (by decide) HO.out HB.out ?_)
      case c1 => first | rfl | exact ⟨rfl, rfl⟩ | exact ⟨rfl, rfl, rfl⟩ | (intro u hu; simp only [List.mem_cons, List.not_mem_nil, or_false] at hu; rcases hu with rfl | rfl <;> rfl)
      case c2 => omega
      intro g3 c3 w3 hO3 hB3 hK3
      have HO3 : Hid (OutA w.heap.size 0 0 w3 77 2 g3 (ps ++ [((m : Int), (q : Int))]).length c3 (flatC prC (ps ++ [((m : Int), (q : Int))]))) := Lib.hid (by rw [List.length_append, flatC_app]; exact hO3)
      have HB3 := Lib.hid hB3
      have hlen : ps.length + 1 = (ps ++ [((m : Int), (q : Int))]).length := by rw [List.length_append]; rfl
      rw [hlen]
      clear hO3 hB3 hK3 hlen
      generalize ps ++ [((m : Int), (q : Int))] = qs at HO3 HY2 HQ2 ⊢
      go_wp2_with fail
      go_roundw
      case rel => exact ⟨m / 2, 2 * q, g3, c3, qs, by omega, by first | rfl | rw [HDV.out], by first | rfl | rw [HDQ.out], rfl, HY2, HQ2, HO3.out, HB3.out⟩
      case measure => simp [intOf]; omega
    · obtain rfl : m = 0 := by omega
      have HY2 : Hid (ps = dbL a b) := Lib.hid (by rw [HY.out, dbL_zero, List.append_nil])
      have HE : Hid (wr.ownsRow w.heap.size 77 2 (.slice (some ⟨g, 0, none⟩) ps.length c) ps.length (flat ps)) := Lib.hid (by rw [flat_prC]; exact hO.own)
      clear hO hb
      go_wp2_with fail
      go_ret
      exact ⟨⟨_, rfl, HY2.out ▸ HE.out⟩, HB.out⟩
set_option maxRecDepth 100000 in
set_option maxHeartbeats 800000 in
theorem speByDoubling_yes (a b : Nat) (w : World) (ha : a ≤ 9999) (hb : b ≤ 9999) :
    Calls Try.prog 25 #[.int .i64 (a : Int), .int .i64 (b : Int)] w fun e w' => (∃ sq, e = .returned (.tuple #[sq, .bool true]) ∧ RodsR w' sq (dbL a b)) ∧ Below w.heap.size w w' := by
  have HOK : Hid (okFs (a : Int) (b : Int)) := Lib.hid ⟨by omega, by omega⟩
  go_enter Try.func25, Try.ntmps25
  go_wp2_with fail
  refine (l9Both_yes _ _ w HOK.out).mono ?_
  rintro e w2 ⟨rfl, rfl⟩
  go_wp2_with fail
  refine (l9Rows_any a b w ha hb).mono ?_
  rintro e w2 ⟨⟨sq, rfl, ho⟩, hb2⟩
  have HO := Lib.hid ho
  have HB := Lib.hid hb2
  clear ho hb2
  go_wp2_with fail
  go_ret2
  exact ⟨⟨_, rfl, RodsR.of_own HO.out⟩, HB.out⟩
set_option maxRecDepth 100000 in
set_option maxHeartbeats 800000 in
theorem speByDoubling_no (a b : Int) (w : World) (h : ¬ okFs a b) :
    Calls Try.prog 25 #[.int .i64 a, .int .i64 b] w fun e w' => (∃ sq, e = .returned (.tuple #[sq, .bool false]) ∧ RodsR w' sq []) ∧ Below w.heap.size w w' := by
  go_enter Try.func25, Try.ntmps25
  go_wp2_with fail
  refine (l9Both_no _ _ w h).mono ?_
  rintro e w2 ⟨rfl, rfl⟩
  go_wp2_with fail
  go_ret2
  exact ⟨⟨_, rfl, ⟨_, 0, rfl, ⟨Nat.zero_le _, Nat.le_refl _⟩, fun h => absurd rfl h⟩⟩, (Below.refl _ _).alloc (Nat.le_refl _) _⟩

theorem odL_snoc (l : List (Int × Int)) (k : Nat) (h : k < l.length) : odL (l.take (k + 1)) = odL (l.take k) ++ (if l[k].1 % 2 = 1 then [l[k].2] else []) := by
  rw [List.take_add_one, List.getElem?_eq_getElem h, Option.toList_some, odL_app, odL_one]
set_option maxRecDepth 100000 in
set_option maxHeartbeats 1600000 in
theorem speOddRows_yes (a b : Nat) (w : World) (ha : a ≤ 9999) (hb9 : b ≤ 9999) :
    Calls Try.prog 23 #[.int .i64 (a : Int), .int .i64 (b : Int)] w fun e w' => (∃ sq, e = .returned (.tuple #[sq, .bool true]) ∧ RowsR 1 inC w' sq (odL (dbL a b))) ∧ Below w.heap.size w w' := by
  obtain ⟨i0, hi, hz0, hz1, hz2⟩ := info_parts Try.infoI9
  have hl14 := dbL_len14 ha b
  have HOK : Hid (okFs (a : Int) (b : Int)) := Lib.hid ⟨by omega, by omega⟩
  have HG := Lib.hid (fun w => l9Rows_any a b w ha hb9)
  have HN : Hid (∀ i (h : i < (dbL a b).length), 0 ≤ (dbL a b)[i].1 ∧ (dbL a b)[i].1 ≤ 9999) := Lib.hid (fun i h => by
    have := dbL_nn 14 a b (by omega) _ (List.getElem_mem h); omega)
  generalize dbL a b = L at hl14 HG HN ⊢
  clear ha hb9
  go_enter Try.func23, Try.ntmps23
  go_wp2_with fail
  have hs0 : (w.alloc (.cells #[] 3)).heap.size = w.heap.size + 1 := by simp
  have hb0 : Below w.heap.size w (w.alloc (.cells #[] 3)) := (Below.refl _ _).alloc (Nat.le_refl _) _
  have ho0 : (w.alloc (.cells #[] 3)).ownsRow w.heap.size 3 1 (.slice (some ⟨w.heap.size, 0, none⟩) 0 0) 0 [] := World.ownsRow_made _ _ _ (Nat.le_refl _) (Nat.zero_le _) (by simp)
  generalize w.alloc (.cells #[] 3) = w1 at hs0 hb0 ho0 ⊢
  refine (l9Both_yes _ _ w1 HOK.out).mono ?_
  rintro e w2 ⟨rfl, rfl⟩
  go_wp2_with fail
  refine (HG.out w1).mono ?_
  rintro e w2 ⟨⟨sd, rfl, od⟩, hb2⟩
  rw [flat_prC] at od
  obtain ⟨ad, cd, rfl⟩ := own_form od
  have HO0 : Hid (OutA w.heap.size w1.heap.size w2.heap.size w2 3 1 w.heap.size 0 0 []) := Lib.hid ⟨own_below ho0 hb2, .inl (by omega), Nat.le_refl _⟩
  have HB0 : Hid (Below w.heap.size w w2) := Lib.hid (hb0.trans (hb2.mono hb0.size))
  have HR := Lib.hid (fun (wr : World) (hk : KeepB w1.heap.size w2.heap.size w2 wr) i (hi : i < L.length) => own_read prC_len od rfl hk i hi)
  have HZ : Hid (L.length ≤ 9223372036854775807) := Lib.hid (by omega)
  clear od hb2 ho0 hb0 hs0
  go_wp2_with fail
  go_loopw [6, 8] (fun ov iv wr => ∃ (k g c : Nat), k ≤ L.length ∧ iv = .int .i64 (k : Int) ∧ ov = .slice (some ⟨g, 0, none⟩) (odL (L.take k)).length c ∧ OutA w.heap.size w1.heap.size w2.heap.size wr 3 1 g (odL (L.take k)).length c (flatC inC (odL (L.take k))) ∧ Below w.heap.size w wr ∧ KeepB w1.heap.size w2.heap.size w2 wr) (fun _ iv _ => 20 - (intOf iv).toNat)
  case atStart => exact ⟨0, w.heap.size, 0, Nat.zero_le _, rfl, rfl, HO0.out, HB0.out, KeepB.refl _ _ _⟩
  case round =>
    obtain ⟨k, g, c, hk, rfl, rfl, hO, hb, hK⟩ := hrel
    have HO := Lib.hid hO
    have HB := Lib.hid hb
    have HK := Lib.hid hK
    have hol : (odL (L.take k)).length ≤ 14 := by have h1 := odL_len (L.take k); rw [List.length_take] at h1; omega
    by_cases hlt : k < L.length
    · obtain ⟨b, rfl, hc⟩ := HR.out wr hK k hlt
      have c0 : wr.cell? ⟨b, k * 2, none⟩ = some (.int .i64 L[k].1) := hc 0 (by omega)
      have c1 : wr.cell? ⟨b, k * 2 + 1, none⟩ = some (.int .i64 L[k].2) := hc 1 (by omega)
      have hx := HN.out k hlt
      have z1 : (0 : Int) ≤ (k : Int) := by omega
      have z2 : (k : Int) < (L.length : Int) := by omega
      have hsn := odL_snoc L k hlt
      obtain ⟨x, hxe⟩ : ∃ x, L[k].1 = x := ⟨_, rfl⟩
      obtain ⟨y, hye⟩ : ∃ y, L[k].2 = y := ⟨_, rfl⟩
      rw [hxe] at c0 hx hsn
      rw [hye] at c1 hsn
      clear hc hO hb hK hxe hye
      by_cases hodd : x % 2 = 1
      · rw [if_pos hodd] at hsn
        have HSN := Lib.hid hsn
        have hod2 : (x % 2 == 1) = true := by simpa using hodd
        generalize hU : odL (L.take k) = U at HO HSN hol ⊢
        generalize hU2 : odL (L.take (k + 1)) = U2 at HSN
        clear hsn hU hodd
        go_wp2_with (at_builtin; refine wpList_push (wr := wr) rfl _ _ 26 rfl w.heap.size w1.heap.size w2.heap.size w 3 i0 (.int .i64 0) 1 8 Try.underlying26 hi hz0 hz1 hz2 rfl (by decide) g U.length c (flatC inC U) [.int .i64 y] rfl rfl rfl ?c1 ?c2 (by decide) HO.out HB.out ?_)
        case c1 => first | rfl | exact ⟨rfl, rfl⟩ | exact ⟨rfl, rfl, rfl⟩ | (intro u hu; simp only [List.mem_cons, List.not_mem_nil, or_false] at hu; subst hu; rfl)
        case c2 => omega
        intro g3 c3 w3 hO3 hB3 hK3
        have HO3 : Hid (OutA w.heap.size w1.heap.size w2.heap.size w3 3 1 g3 (odL (L.take (k + 1))).length c3 (flatC inC (odL (L.take (k + 1))))) := Lib.hid (by rw [hU2, HSN.out, List.length_append, flatC_app]; exact hO3)
        have hlen : U.length + 1 = (odL (L.take (k + 1))).length := by rw [hU2, HSN.out, List.length_append]; rfl
        rw [hlen]
        have HB3 := Lib.hid hB3
        have HK3 := Lib.hid (HK.out.trans hK3)
        clear hO3 hB3 hK3 c0 c1 hlen hU2
        go_wp2_with fail
        go_roundw
        case rel => exact ⟨k + 1, g3, c3, by omega, by go_num, rfl, HO3.out, HB3.out, HK3.out⟩
        case measure => simp [intOf]; omega
      · rw [if_neg hodd, List.append_nil] at hsn
        have hod2 : (x % 2 == 1) = false := by simpa using hodd
        rw [← hsn] at HO ⊢
        clear hsn hodd
        go_wp2_with fail
        go_roundw
        case rel => exact ⟨k + 1, g, c, by omega, by go_num, rfl, HO.out, HB.out, HK.out⟩
        case measure => simp [intOf]; omega
    · obtain rfl : k = L.length := by omega
      rw [List.take_length] at hO ⊢
      have HE := Lib.hid (RowsR.of_own inC_len hO.own)
      clear hO hb hK HO
      go_wp2_with fail
      go_ret2
      exact ⟨⟨_, rfl, HE.out⟩, HB.out⟩
set_option maxRecDepth 100000 in
set_option maxHeartbeats 800000 in
theorem speOddRows_no (a b : Int) (w : World) (h : ¬ okFs a b) :
    Calls Try.prog 23 #[.int .i64 a, .int .i64 b] w fun e w' => (∃ sq, e = .returned (.tuple #[sq, .bool false]) ∧ RowsR 1 inC w' sq []) ∧ Below w.heap.size w w' := by
  have HR : Hid (∀ w' : World, RowsR 1 inC w' (.slice (some ⟨w.heap.size, 0, none⟩) 0 0) ([] : List Int)) := Lib.hid (fun w' => ⟨_, 0, rfl, ⟨Nat.zero_le _, Nat.le_refl _⟩, fun h => absurd h (by simp)⟩)
  have HH := Lib.hid h
  clear h
  go_enter Try.func23, Try.ntmps23
  go_wp2_with fail
  have hs0 : (w.alloc (.cells #[] 3)).heap.size = w.heap.size + 1 := by simp
  have hb0 : Below w.heap.size w (w.alloc (.cells #[] 3)) := (Below.refl _ _).alloc (Nat.le_refl _) _
  have ho0 : (w.alloc (.cells #[] 3)).ownsRow w.heap.size 3 1 (.slice (some ⟨w.heap.size, 0, none⟩) 0 0) 0 [] := World.ownsRow_made _ _ _ (Nat.le_refl _) (Nat.zero_le _) (by simp)
  generalize w.alloc (.cells #[] 3) = w1 at hs0 hb0 ho0 ⊢
  refine (l9Both_no _ _ w1 HH.out).mono ?_
  rintro e w2 ⟨rfl, rfl⟩
  go_wp2_with fail
  go_ret2
  exact ⟨⟨_, rfl, HR.out _⟩, hb0⟩

theorem wrL_step (m k p n : Nat) : wrL (m + 1) k p n = (if p % 10 ≠ n % 10 then [(k : Int)] else []) ++ wrL m (k + 1) (p / 10) (n / 10) := rfl
theorem div_pow (p k : Nat) : p / 10 ^ k / 10 = p / 10 ^ (k + 1) := by rw [Nat.div_div_eq_div_mul, Nat.pow_succ]
set_option maxRecDepth 100000 in
set_option maxHeartbeats 3200000 in
theorem speWrongDigits_yes (a b n : Nat) (w : World) (ha : a ≤ 9999) (hb9 : b ≤ 9999) (hn : n ≤ 99999999) :
    Calls Try.prog 37 #[.int .i64 (a : Int), .int .i64 (b : Int), .int .i64 (n : Int)] w fun e w' => (∃ sq, e = .returned (.tuple #[sq, .bool true]) ∧ RowsR 1 inC w' sq (wrL 8 0 (a * b) n)) ∧ Below w.heap.size w w' := by
  obtain ⟨i0, hi, hz0, hz1, hz2⟩ := info_parts Try.infoI9
  have HOK : Hid (okFs (a : Int) (b : Int)) := Lib.hid ⟨by omega, by omega⟩
  have hmt := mul_top ha hb9
  obtain ⟨P, hP⟩ : ∃ P : Nat, a * b = P := ⟨_, rfl⟩
  have hPi : (a : Int) * (b : Int) = (P : Int) := by rw [← hP]; simp
  have hw : IntKind.i64.wrap ((a : Int) * (b : Int)) = (P : Int) := by rw [IntKind.wrap_i64]; omega
  have hPb : P ≤ 99980001 := by omega
  have hin : inB (n : Int) 0 99999999 = true := inB_yes (by omega) (by omega)
  have HL : Hid ((wrL 8 0 P n).length ≤ 8) := Lib.hid (wrL_len 8 0 P n)
  rw [hP]
  obtain ⟨W, hW⟩ : ∃ W, wrL 8 0 P n = W := ⟨_, rfl⟩
  have HW0 := Lib.hid hW.symm
  rw [hW] at HL ⊢
  clear hW hP hPi hmt ha hb9
  go_enter Try.func37, Try.ntmps37
  go_wp2_with fail
  have hs0 : (w.alloc (.cells #[] 3)).heap.size = w.heap.size + 1 := by simp
  have hb0 : Below w.heap.size w (w.alloc (.cells #[] 3)) := (Below.refl _ _).alloc (Nat.le_refl _) _
  have ho0 : (w.alloc (.cells #[] 3)).ownsRow w.heap.size 3 1 (.slice (some ⟨w.heap.size, 0, none⟩) 0 0) 0 [] := World.ownsRow_made _ _ _ (Nat.le_refl _) (Nat.zero_le _) (by simp)
  generalize w.alloc (.cells #[] 3) = w1 at hs0 hb0 ho0 ⊢
  refine (l9Both_yes _ _ w1 HOK.out).mono ?_
  rintro e w2 ⟨rfl, rfl⟩
  go_wp2_with fail
  refine (l1In_any (n : Int) 0 99999999 w1).mono ?_
  rintro e w2 ⟨rfl, rfl⟩
  rw [hin]
  go_wp2_with fail
  have HO0 : Hid (OutA w.heap.size 0 0 w1 3 1 w.heap.size 0 0 []) := Lib.hid ⟨ho0, .inr (Nat.zero_le _), Nat.zero_le _⟩
  have HB0 := Lib.hid hb0
  clear ho0 hb0 hs0
  go_loopw [8, 9] (fun ov iv wr => ∃ (k g c : Nat) (ys : List Int), k ≤ 8 ∧ iv = .int .i64 (k : Int) ∧ ov = .slice (some ⟨g, 0, none⟩) ys.length c ∧ Hid (W = ys ++ wrL (8 - k) k (P / 10 ^ k) (n / 10 ^ k)) ∧ OutA w.heap.size 0 0 wr 3 1 g ys.length c (flatC inC ys) ∧ Below w.heap.size w wr) (fun _ iv _ => 20 - (intOf iv).toNat)
  case atStart => exact ⟨0, w.heap.size, 0, [], Nat.zero_le _, rfl, rfl, Lib.hid (by rw [HW0.out]; simp), HO0.out, HB0.out⟩
  case round =>
    obtain ⟨k, g, c, ys, hk, rfl, rfl, HY, hO, hb⟩ := hrel
    have HO := Lib.hid hO
    have HB := Lib.hid hb
    have hyl : ys.length ≤ 8 := by have h1 := HL.out; rw [HY.out, List.length_append] at h1; omega
    by_cases hlt : k < 8
    · obtain ⟨p1, p2⟩ := pow_bd k (by omega)
      obtain ⟨z, hz⟩ : ∃ z : Nat, 10 ^ k = z := ⟨_, rfl⟩
      have hzi : (10 : Int) ^ k = (z : Int) := by rw [← hz]; simp
      have HP := Lib.hid (fun w => l2Power_any k w (by omega))
      rw [hzi] at p1 p2 HP
      have hst := HY.out
      rw [show 8 - k = (7 - k) + 1 by omega, wrL_step, div_pow, div_pow, hz, show 7 - k = 8 - (k + 1) by omega] at hst
      have z0 : ((z : Int) == 0) = false := beq_eq_false_iff_ne.2 (by omega)
      have z1 : (z : Int) ≠ 0 := by omega
      have z4 : ¬ z = 0 := by omega
      have z5 : z ≠ 0 := by omega
      have z2 : (k : Int) < 8 := by omega
      have z3 : 0 ≤ (k : Int) := by omega
      have e1 : (IntKind.i64.wrap ((P : Int) / (z : Int))).tmod 10 = ((P / z % 10 : Nat) : Int) := by
        have hd : P / z ≤ P := Nat.div_le_self _ _
        rw [← Int.natCast_ediv]
        generalize P / z = x at hd ⊢
        rw [show IntKind.i64.wrap (x : Int) = (x : Int) by rw [IntKind.wrap_i64]; omega, Int.tmod_eq_emod_of_nonneg (by omega)]; omega
      have e2 : (IntKind.i64.wrap ((n : Int) / (z : Int))).tmod 10 = ((n / z % 10 : Nat) : Int) := by
        have hd : n / z ≤ n := Nat.div_le_self _ _
        rw [← Int.natCast_ediv]
        generalize n / z = x at hd ⊢
        rw [show IntKind.i64.wrap (x : Int) = (x : Int) by rw [IntKind.wrap_i64]; omega, Int.tmod_eq_emod_of_nonneg (by omega)]; omega
      generalize P / z % 10 = x at hst e1
      generalize n / z % 10 = y at hst e2
      obtain ⟨X, hX⟩ : ∃ X : Int, (x : Int) = X := ⟨_, rfl⟩
      obtain ⟨Y, hY⟩ : ∃ Y : Int, (y : Int) = Y := ⟨_, rfl⟩
      obtain ⟨bb, hbb⟩ : ∃ bb, (X != Y) = bb := ⟨_, rfl⟩
      have hbe : (if x ≠ y then [(k : Int)] else []) = if bb = true then [(k : Int)] else [] := by
        rw [← hbb, ← hX, ← hY]
        by_cases e : x = y
        · rw [if_neg (by simpa using e), if_neg (by simp; omega)]
        · rw [if_pos e, if_pos (by simp; omega)]
      rw [hbe] at hst
      have HST := Lib.hid hst
      have E1 := Lib.hid (e1.trans hX)
      have E2 := Lib.hid (e2.trans hY)
      clear hst e1 e2 hX hY hbe hzi hO hb
      go_wp2_with fail
      go_region_law (go_simp; go_at_call 75; refine (HP.out _).mono ?_; rintro e w9 ⟨rfl, rfl⟩)
      simp only [E1.out, E2.out, hbb]
      have HB4 : Hid (Below w.heap.size w wr.drew) := Lib.hid HB.out.drew
      have HO4 : Hid (OutA w.heap.size 0 0 wr.drew 3 1 g ys.length c (flatC inC ys)) := Lib.hid (HO.out.next (Below.refl _ _).drew)
      generalize wr.drew = w4 at HB4 HO4 ⊢
      clear hbb
      cases bb with
      | true =>
        have HST2 : Hid (W = (ys ++ [(k : Int)]) ++ wrL (8 - (k + 1)) (k + 1) (P / 10 ^ (k + 1)) (n / 10 ^ (k + 1))) := Lib.hid (by rw [HST.out, if_pos rfl, List.append_assoc])
        go_wp2_with (at_builtin; refine wpList_push (wr := w4) rfl _ _ 26 rfl w.heap.size 0 0 w 3 i0 (.int .i64 0) 1 8 Try.underlying26 hi hz0 hz1 hz2 rfl (by decide) g ys.length c (flatC inC ys) [.int .i64 (k : Int)] rfl rfl rfl ?c1 ?c2 (by decide) HO4.out HB4.out ?_)
        case c1 => first | rfl | exact ⟨rfl, rfl⟩ | exact ⟨rfl, rfl, rfl⟩ | (intro u hu; simp only [List.mem_cons, List.not_mem_nil, or_false] at hu; subst hu; rfl)
        case c2 => omega
        intro g3 c3 w3 hO3 hB3 hK3
        have HO3 : Hid (OutA w.heap.size 0 0 w3 3 1 g3 (ys ++ [(k : Int)]).length c3 (flatC inC (ys ++ [(k : Int)]))) := Lib.hid (by rw [List.length_append, flatC_app]; exact hO3)
        have hlen : ys.length + 1 = (ys ++ [(k : Int)]).length := by rw [List.length_append]; rfl
        rw [hlen]
        have HB3 := Lib.hid hB3
        clear hO3 hB3 hK3 hlen
        generalize ys ++ [(k : Int)] = ys2 at HO3 HST2 ⊢
        go_wp2_with fail
        go_roundw
        case rel => exact ⟨k + 1, g3, c3, ys2, by omega, by go_num, rfl, HST2, HO3.out, HB3.out⟩
        case measure => simp [intOf]; omega
      | false =>
        have HST2 : Hid (W = ys ++ wrL (8 - (k + 1)) (k + 1) (P / 10 ^ (k + 1)) (n / 10 ^ (k + 1))) := Lib.hid (by rw [HST.out, if_neg (by simp), List.nil_append])
        go_wp2_with fail
        go_roundw
        case rel => exact ⟨k + 1, g, c, ys, by omega, by go_num, rfl, HST2, HO4.out, HB4.out⟩
        case measure => simp [intOf]; omega
    · obtain rfl : k = 8 := by omega
      have HE : Hid (ys = W) := Lib.hid (by rw [HY.out, show 8 - 8 = 0 from rfl, wrL, List.append_nil])
      have HR := Lib.hid (RowsR.of_own inC_len hO.own)
      clear hO hb
      go_wp2_with fail
      go_ret2
      exact ⟨⟨_, rfl, HE.out ▸ HR.out⟩, HB.out⟩
set_option maxRecDepth 100000 in
set_option maxHeartbeats 800000 in
theorem speWrongDigits_no (a b n : Int) (w : World) (h : ¬ (okFs a b ∧ (0 ≤ n ∧ n ≤ 99999999))) :
    Calls Try.prog 37 #[.int .i64 a, .int .i64 b, .int .i64 n] w fun e w' => (∃ sq, e = .returned (.tuple #[sq, .bool false]) ∧ RowsR 1 inC w' sq []) ∧ Below w.heap.size w w' := by
  have HR : Hid (∀ w' : World, RowsR 1 inC w' (.slice (some ⟨w.heap.size, 0, none⟩) 0 0) ([] : List Int)) := Lib.hid (fun w' => ⟨_, 0, rfl, ⟨Nat.zero_le _, Nat.le_refl _⟩, fun h => absurd h (by simp)⟩)
  by_cases hk : okFs a b
  · have HK := Lib.hid hk
    have hn : inB n 0 99999999 = false := inB_no (fun h1 => h ⟨hk, h1⟩)
    clear h hk
    go_enter Try.func37, Try.ntmps37
    go_wp2_with fail
    have hs0 : (w.alloc (.cells #[] 3)).heap.size = w.heap.size + 1 := by simp
    have hb0 : Below w.heap.size w (w.alloc (.cells #[] 3)) := (Below.refl _ _).alloc (Nat.le_refl _) _
    have ho0 : (w.alloc (.cells #[] 3)).ownsRow w.heap.size 3 1 (.slice (some ⟨w.heap.size, 0, none⟩) 0 0) 0 [] := World.ownsRow_made _ _ _ (Nat.le_refl _) (Nat.zero_le _) (by simp)
    generalize w.alloc (.cells #[] 3) = w1 at hs0 hb0 ho0 ⊢
    refine (l9Both_yes _ _ w1 HK.out).mono ?_
    rintro e w2 ⟨rfl, rfl⟩
    go_wp2_with fail
    refine (l1In_any n 0 99999999 w1).mono ?_
    rintro e w2 ⟨rfl, rfl⟩
    rw [hn]
    go_wp2_with fail
    go_ret2
    exact ⟨⟨_, rfl, HR.out _⟩, hb0⟩
  · have HK := Lib.hid hk
    clear h hk
    go_enter Try.func37, Try.ntmps37
    go_wp2_with fail
    have hs0 : (w.alloc (.cells #[] 3)).heap.size = w.heap.size + 1 := by simp
    have hb0 : Below w.heap.size w (w.alloc (.cells #[] 3)) := (Below.refl _ _).alloc (Nat.le_refl _) _
    have ho0 : (w.alloc (.cells #[] 3)).ownsRow w.heap.size 3 1 (.slice (some ⟨w.heap.size, 0, none⟩) 0 0) 0 [] := World.ownsRow_made _ _ _ (Nat.le_refl _) (Nat.zero_le _) (by simp)
    generalize w.alloc (.cells #[] 3) = w1 at hs0 hb0 ho0 ⊢
    refine (l9Both_no _ _ w1 HK.out).mono ?_
    rintro e w2 ⟨rfl, rfl⟩
    go_wp2_with fail
    go_ret2
    exact ⟨⟨_, rfl, HR.out _⟩, hb0⟩
end Go.Proofs.Ythmbehknacjodaa

/-! Nm2 -/
namespace Go.Proofs.Ythmbehknacjodaa
set_option linter.unusedVariables false
open Go.RowKit

set_option maxRecDepth 100000 in
set_option maxHeartbeats 6400000 in
theorem l9Parts_any (a b : Nat) (w : World) (ha : a ≤ 9999) (hb9 : b ≤ 9999) :
    Calls Try.prog 74 #[.int .i64 (a : Int), .int .i64 (b : Int)] w fun e w' => (∃ sq, e = .returned sq ∧ w'.ownsRow w.heap.size 57 3 sq (prT (dgL a) (dgL b)).length (flatC trC (prT (dgL a) (dgL b)))) ∧ Below w.heap.size w w' := by
  obtain ⟨i0, hi, hz0, hz1, hz2⟩ := info_parts Try.infoTri
  have HL : Hid ((prT (dgL a) (dgL b)).length ≤ 16) := Lib.hid (prT_len16 ha hb9)
  have hp4 := dgL_len4 a ha
  have hq4 := dgL_len4 b hb9
  have HPB : Hid (∀ i (h : i < (dgL a).length), 0 ≤ (dgL a)[i] ∧ (dgL a)[i] ≤ 9) := Lib.hid (fun i h => dgL_at a i h)
  have HQB : Hid (∀ i (h : i < (dgL b).length), 0 ≤ (dgL b)[i] ∧ (dgL b)[i] ≤ 9) := Lib.hid (fun i h => dgL_at b i h)
  have HGP := Lib.hid (fun w => l9Digits_any a w (by omega))
  have HGQ := Lib.hid (fun w => l9Digits_any b w (by omega))
  generalize dgL a = p at HL hp4 HPB HGP ⊢
  generalize dgL b = q at HL hq4 HQB HGQ ⊢
  obtain ⟨W, hW⟩ : ∃ W, prT p q = W := ⟨_, rfl⟩
  have HW := Lib.hid hW.symm
  rw [hW] at HL ⊢
  clear ha hb9 hW
  go_enter Try.func74, Try.ntmps74
  go_wp2_with fail
  refine (HGP.out w).mono ?_
  rintro e w1 ⟨⟨sp, rfl, op⟩, hb1⟩
  go_wp2_with fail
  refine (HGQ.out w1).mono ?_
  rintro e w2 ⟨⟨sq, rfl, oq⟩, hb2⟩
  have RP := Lib.hid (RowsR.of_own inC_len (own_below op hb2))
  have RQ := Lib.hid (RowsR.of_own inC_len oq)
  obtain ⟨ap, cp, rfl⟩ := own_form op
  obtain ⟨aq, cq, rfl⟩ := own_form oq
  have AP := Lib.hid RP.out.at
  have AQ := Lib.hid RQ.out.at
  have HB2 : Hid (Below w.heap.size w w2) := Lib.hid (hb1.trans (hb2.mono hb1.size))
  have HZP : Hid (p.length ≤ 9223372036854775807 ∧ q.length ≤ 9223372036854775807) := Lib.hid (by omega)
  have HO0 : Hid (OutA w2.heap.size 0 0 (w2.alloc (.cells #[] 57)) 57 3 w2.heap.size 0 0 []) := Lib.hid (outA_made w2 _ 3 (Nat.le_refl _) (Nat.zero_le _))
  have HB0 : Hid (Below w2.heap.size w2 (w2.alloc (.cells #[] 57))) := Lib.hid ((Below.refl _ _).alloc (Nat.le_refl _) _)
  clear op oq hb1 hb2
  go_wp2_with fail
  go_loopw [7, 8] (fun ov iv wr => ∃ (i g c : Nat) (ys : List Tr), i ≤ p.length ∧ iv = .int .i64 (i : Int) ∧ ov = .slice (some ⟨g, 0, none⟩) ys.length c ∧ Hid (W = ys ++ prT (p.drop i) q) ∧ OutA w2.heap.size 0 0 wr 57 3 g ys.length c (flatC trC ys) ∧ Below w2.heap.size w2 wr) (fun _ iv _ => 20 - (intOf iv).toNat)
  case atStart => exact ⟨0, w2.heap.size, 0, [], Nat.zero_le _, rfl, rfl, Lib.hid (by rw [HW.out]; simp), HO0.out, HB0.out⟩
  case round =>
    obtain ⟨i, g, c, ys, hi5, rfl, rfl, HY, hO, hb⟩ := hrel
    rename World => wo
    have HO := Lib.hid hO
    have HB := Lib.hid hb
    by_cases hlt : i < p.length
    · have z1 : (0 : Int) ≤ (i : Int) := by omega
      have z2 : (i : Int) < (p.length : Int) := by omega
      have hx := HPB.out i hlt
      have HP := Lib.hid (fun w' hb => AP.out w' hb i hlt)
      have HY2 : Hid (W = ys ++ (rowT (p.length - 1 - i) p[i] (q.drop 0) ++ prT (p.drop (i + 1)) q)) := Lib.hid (by rw [HY.out, prT_drop p q i hlt, List.drop_zero])
      obtain ⟨x, hxe⟩ : ∃ x, p[i] = x := ⟨_, rfl⟩
      rw [hxe] at hx HP HY2
      clear hO hb hxe
      go_wp2_with fail
      go_loopw [7, 9] (fun ov kv wi => ∃ (k g c : Nat) (ys : List Tr), k ≤ q.length ∧ kv = .int .i64 (k : Int) ∧ ov = .slice (some ⟨g, 0, none⟩) ys.length c ∧ Hid (W = ys ++ (rowT (p.length - 1 - i) x (q.drop k) ++ prT (p.drop (i + 1)) q)) ∧ OutA w2.heap.size 0 0 wi 57 3 g ys.length c (flatC trC ys) ∧ Below w2.heap.size w2 wi) (fun _ kv _ => 20 - (intOf kv).toNat)
      case atStart => exact ⟨0, g, c, ys, Nat.zero_le _, rfl, rfl, HY2, HO.out, HB.out⟩
      case round =>
        obtain ⟨k, g, c, ys, hk5, rfl, rfl, HY3, hO, hb⟩ := hrel
        rename World => wi
        have HO := Lib.hid hO
        have HB := Lib.hid hb
        have hyl : ys.length ≤ 16 := by have h1 := HL.out; rw [HY3.out, List.length_append] at h1; omega
        by_cases hlk : k < q.length
        · obtain ⟨b1, o1, hap, l1, k1⟩ := HP.out wi hb
          obtain ⟨b2, o2, rfl, l2, k2⟩ := AQ.out wi hb k hlk
          subst hap
          have p0 : wi.cell? ⟨b1, o1 + i, none⟩ = some (.int .i64 x) := by have := k1 0 (by omega); rw [Nat.mul_one] at this; exact this
          have q0 : wi.cell? ⟨b2, o2 + k, none⟩ = some (.int .i64 q[k]) := by have := k2 0 (by omega); rw [Nat.mul_one] at this; exact this
          have hy := HQB.out k hlk
          have hm : 0 ≤ x * q[k] ∧ x * q[k] ≤ 81 := dig_mul hx hy
          have hst := HY3.out
          rw [rowT_drop _ _ _ _ hlk] at hst
          obtain ⟨y, hye⟩ : ∃ y, q[k] = y := ⟨_, rfl⟩
          rw [hye] at q0 hm hst
          have y1 : (0 : Int) ≤ (k : Int) := by omega
          have y2 : (k : Int) < (q.length : Int) := by omega
          obtain ⟨V, hV⟩ : ∃ V, x * y = V := ⟨_, rfl⟩
          rw [hV] at hm hst
          have hw : IntKind.i64.wrap (x * y) = V := by rw [hV, IntKind.wrap_i64]; omega
          clear k1 k2 hO hb hy hye
          by_cases hv : 0 < V
          · have e1 : ((p.length - 1 - i : Nat) : Int) = (p.length : Int) - 1 - (i : Int) := by omega
            rw [if_pos hv, e1] at hst
            obtain ⟨I, hI⟩ : ∃ I : Int, (p.length : Int) - 1 - (i : Int) = I := ⟨_, rfl⟩
            obtain ⟨J, hJ⟩ : ∃ J : Int, (q.length : Int) - 1 - (k : Int) = J := ⟨_, rfl⟩
            have s1 : IntKind.i64.wrap ((p.length : Int) - 1) = (p.length : Int) - 1 := by rw [IntKind.wrap_i64]; omega
            have s2 : IntKind.i64.wrap ((p.length : Int) - 1 - (i : Int)) = I := by rw [hI, IntKind.wrap_i64]; omega
            have s3 : IntKind.i64.wrap ((q.length : Int) - 1) = (q.length : Int) - 1 := by rw [IntKind.wrap_i64]; omega
            have s4 : IntKind.i64.wrap ((q.length : Int) - 1 - (k : Int)) = J := by rw [hJ, IntKind.wrap_i64]; omega
            rw [hI, hJ] at hst
            have HST : Hid (W = (ys ++ [⟨I, J, V⟩]) ++ (rowT (p.length - 1 - i) x (q.drop (k + 1)) ++ prT (p.drop (i + 1)) q)) := Lib.hid (by rw [hst]; simp)
            clear hst hI hJ hV e1
            go_wp2_with fail
            go_quiet (fail)
            rename Nat => nq
            have HB4 : Hid (Below w2.heap.size w2 (wi.drewN nq)) := Lib.hid (bl_drewN HB.out nq)
            have HO4 := Lib.hid (HO.out.next (bl_drewN (Below.refl _ wi) nq))
            have p0' : (wi.drewN nq).cell? ⟨b1, o1 + i, none⟩ = some (.int .i64 x) := p0
            have q0' : (wi.drewN nq).cell? ⟨b2, o2 + k, none⟩ = some (.int .i64 y) := q0
            clear p0 q0
            generalize wi.drewN nq = wj at HB4 HO4 p0' q0' ⊢
            go_wp2_with fail
            have HB5 : Hid (Below w2.heap.size w2 wj.drew) := Lib.hid HB4.out.drew
            have HO5 : Hid (OutA w2.heap.size 0 0 wj.drew 57 3 g ys.length c (flatC trC ys)) := Lib.hid (HO4.out.next (Below.refl _ _).drew)
            have p5 : wj.drew.cell? ⟨b1, o1 + i, none⟩ = some (.int .i64 x) := p0'
            have q5 : wj.drew.cell? ⟨b2, o2 + k, none⟩ = some (.int .i64 y) := q0'
            have HS0 := Lib.hid (And.intro p0' q0')
            clear p0' q0'
            refine wp_region_held_drew (S := fun w' => w'.cell? ⟨b1, o1 + i, none⟩ = some (.int .i64 x) ∧ w'.cell? ⟨b2, o2 + k, none⟩ = some (.int .i64 y)) (by kernel_rfl) HS0.out (fun hHeld => ?_)
            generalize wj.drew = wk at HB5 HO5 p5 q5 hHeld ⊢
            clear HS0
            have HPQ : Hid (∀ w', Below w2.heap.size w2 w' → w'.cell? ⟨b1, o1 + i, none⟩ = some (.int .i64 x) ∧ w'.cell? ⟨b2, o2 + k, none⟩ = some (.int .i64 y)) := Lib.hid (fun w' hb => ⟨(hb.cell (p := ⟨b1, o1 + i, none⟩) l1).trans ((HB5.out.cell (p := ⟨b1, o1 + i, none⟩) l1).symm.trans p5), (hb.cell (p := ⟨b2, o2 + k, none⟩) l2).trans ((HB5.out.cell (p := ⟨b2, o2 + k, none⟩) l2).symm.trans q5)⟩)
            have HB6 : Hid (Below w2.heap.size w2 (wk.alloc (.cells #[.int .i64 I, .int .i64 J, .int .i64 V] 57))) := Lib.hid (HB5.out.alloc HB5.out.size _)
            refine take1 (i := 0) (v := ?v1) (some 37) rfl rfl (by kernel_rfl) (by kernel_rfl) (by kernel_rfl) (fun _ _ _ h => h) (Or.inl ⟨by rfl, ?y1⟩) (by assumption) ?r1
            case y1 => (intro w hSw; (try dsimp only at hSw); go_simp; (first | done | with_reducible rfl))
            try simp only [Act.put, List.setIfInBounds_toArray, List.set_cons_zero, List.set_cons_succ]
            refine take1 (i := 1) (v := ?v2) (some 38) rfl rfl (by kernel_rfl) (by kernel_rfl) (by kernel_rfl) (fun _ _ _ h => h) (Or.inl ⟨by rfl, ?y2⟩) (by assumption) ?r2
            case y2 => (intro w hSw; (try dsimp only at hSw); go_simp; (first | done | with_reducible rfl))
            try simp only [Act.put, List.setIfInBounds_toArray, List.set_cons_zero, List.set_cons_succ]
            refine take1 (i := 2) (v := ?v3) (some 39) rfl rfl (by kernel_rfl) (by kernel_rfl) (by kernel_rfl) (fun _ _ _ h => h) (Or.inl ⟨by rfl, ?y3⟩) (by assumption) ?r3
            case y3 => (intro w hSw; (try dsimp only at hSw); go_simp; (first | done | with_reducible rfl))
            try simp only [Act.put, List.setIfInBounds_toArray, List.set_cons_zero, List.set_cons_succ]
            refine take1 (i := 3) (v := ?v4) (some 40) rfl rfl (by kernel_rfl) (by kernel_rfl) (by kernel_rfl) (fun _ _ _ h => h) (Or.inl ⟨by rfl, ?y4⟩) (by assumption) ?r4
            case y4 => (intro w hSw; (try dsimp only at hSw); go_simp; (first | done | with_reducible rfl))
            try simp only [Act.put, List.setIfInBounds_toArray, List.set_cons_zero, List.set_cons_succ]
            refine take1 (i := 4) (v := ?v5) (some 41) rfl rfl (by kernel_rfl) (by kernel_rfl) (by kernel_rfl) (fun _ _ _ h => h) (Or.inl ⟨by rfl, ?y5⟩) (by assumption) ?r5
            case y5 => (intro w hSw; (try dsimp only at hSw); go_simp; (first | done | with_reducible rfl))
            try simp only [Act.put, List.setIfInBounds_toArray, List.set_cons_zero, List.set_cons_succ]
            refine take1 (i := 5) (v := ?v6) (some 42) rfl rfl (by kernel_rfl) (by kernel_rfl) (by kernel_rfl) (fun _ _ _ h => h) (Or.inl ⟨by rfl, ?y6⟩) (by assumption) ?r6
            case y6 => (intro w hSw; (try dsimp only at hSw); go_simp; (first | done | with_reducible rfl))
            try simp only [Act.put, List.setIfInBounds_toArray, List.set_cons_zero, List.set_cons_succ]
            refine take1 (i := 6) (v := ?v7) (some 43) rfl rfl (by kernel_rfl) (by kernel_rfl) (by kernel_rfl) (fun _ _ _ h => h) (Or.inl ⟨by rfl, ?y7⟩) (by assumption) ?r7
            case y7 => (intro w hSw; (try dsimp only at hSw); go_simp; (first | done | with_reducible rfl))
            try simp only [Act.put, List.setIfInBounds_toArray, List.set_cons_zero, List.set_cons_succ]
            refine take1 (i := 7) (v := ?v8) (some 44) rfl rfl (by kernel_rfl) (by kernel_rfl) (by kernel_rfl) (fun _ _ _ h => h) (Or.inl ⟨by rfl, ?y8⟩) (by assumption) ?r8
            case y8 => (intro w hSw; (try dsimp only at hSw); go_simp; (first | done | with_reducible rfl))
            try simp only [Act.put, List.setIfInBounds_toArray, List.set_cons_zero, List.set_cons_succ]
            refine take1 (i := 8) (v := ?v9) (some 45) rfl rfl (by kernel_rfl) (by kernel_rfl) (by kernel_rfl) (fun _ _ _ h => h) (Or.inl ⟨by rfl, ?y9⟩) (by assumption) ?r9
            case y9 => (intro w hSw; (try dsimp only at hSw); go_simp; (first | done | with_reducible rfl))
            try simp only [Act.put, List.setIfInBounds_toArray, List.set_cons_zero, List.set_cons_succ]
            refine take1 (i := 9) (v := ?v10) (some 46) rfl rfl (by kernel_rfl) (by kernel_rfl) (by kernel_rfl) (fun _ _ _ h => h) (Or.inl ⟨by rfl, ?y10⟩) (by assumption) ?r10
            case y10 => (intro w hSw; (try dsimp only at hSw); go_simp; (first | done | with_reducible rfl))
            try simp only [Act.put, List.setIfInBounds_toArray, List.set_cons_zero, List.set_cons_succ]
            refine take1 (i := 10) (v := ?v11) (some 47) rfl rfl (by kernel_rfl) (by kernel_rfl) (by kernel_rfl) (fun _ _ _ h => h) (Or.inl ⟨by rfl, ?y11⟩) (by assumption) ?r11
            case y11 => (intro w hSw; (try dsimp only at hSw); go_simp; (first | done | with_reducible rfl))
            try simp only [Act.put, List.setIfInBounds_toArray, List.set_cons_zero, List.set_cons_succ]
            refine take1 (i := 11) (v := ?v12) (some 48) rfl rfl (by kernel_rfl) (by kernel_rfl) (by kernel_rfl) (fun _ _ _ h => h) (Or.inl ⟨by rfl, ?y12⟩) (by assumption) ?r12
            case y12 => (intro w hSw; (try dsimp only at hSw); go_simp; (first | done | with_reducible rfl))
            try simp only [Act.put, List.setIfInBounds_toArray, List.set_cons_zero, List.set_cons_succ]
            refine take1 (i := 12) (v := ?v13) (some 49) rfl rfl (by kernel_rfl) (by kernel_rfl) (by kernel_rfl) (fun _ _ _ h => h) (Or.inl ⟨by rfl, ?y13⟩) (by assumption) ?r13
            case y13 => (intro w hSw; (try dsimp only at hSw); go_simp; (first | done | with_reducible rfl))
            try simp only [Act.put, List.setIfInBounds_toArray, List.set_cons_zero, List.set_cons_succ]
            refine take1 (i := 13) (v := ?v14) (some 50) rfl rfl (by kernel_rfl) (by kernel_rfl) (by kernel_rfl) (fun _ _ _ h => h) (Or.inl ⟨by rfl, ?y14⟩) (by assumption) ?r14
            case y14 => (intro w hSw; (try dsimp only at hSw); go_simp; (first | done | with_reducible rfl))
            try simp only [Act.put, List.setIfInBounds_toArray, List.set_cons_zero, List.set_cons_succ]
            refine take1 (i := 14) (v := ?v15) (some 51) rfl rfl (by kernel_rfl) (by kernel_rfl) (by kernel_rfl) (fun _ _ _ h => h) (Or.inl ⟨by rfl, ?y15⟩) (by assumption) ?r15
            case y15 => (intro w hSw; (try dsimp only at hSw); go_simp; (first | done | with_reducible rfl))
            try simp only [Act.put, List.setIfInBounds_toArray, List.set_cons_zero, List.set_cons_succ]
            refine take1 (i := 15) (v := ?v16) (some 52) rfl rfl (by kernel_rfl) (by kernel_rfl) (by kernel_rfl) (fun _ _ _ h => h) (Or.inl ⟨by rfl, ?y16⟩) (by assumption) ?r16
            case y16 => (intro w hSw; (try dsimp only at hSw); go_simp; (first | done | with_reducible rfl))
            try simp only [Act.put, List.setIfInBounds_toArray, List.set_cons_zero, List.set_cons_succ]
            refine take1 (i := 16) (v := ?v17) (some 53) rfl rfl (by kernel_rfl) (by kernel_rfl) (by kernel_rfl) (fun _ _ _ h => h) (Or.inl ⟨by rfl, ?y17⟩) (by assumption) ?r17
            case y17 => (intro w hSw; (try dsimp only at hSw); go_simp; (first | done | with_reducible rfl))
            try simp only [Act.put, List.setIfInBounds_toArray, List.set_cons_zero, List.set_cons_succ]
            refine take1 (i := 17) (v := ?v18) (some 54) rfl rfl (by kernel_rfl) (by kernel_rfl) (by kernel_rfl) (fun _ _ _ h => h) (Or.inl ⟨by rfl, ?y18⟩) (by assumption) ?r18
            case y18 => (intro w hSw; (try dsimp only at hSw); go_simp; (first | done | with_reducible rfl))
            try simp only [Act.put, List.setIfInBounds_toArray, List.set_cons_zero, List.set_cons_succ]
            refine take1 (i := 18) (v := ?v19) (some 55) rfl rfl (by kernel_rfl) (by kernel_rfl) (by kernel_rfl) (fun _ _ _ h => h) (Or.inl ⟨by rfl, ?y19⟩) (by assumption) ?r19
            case y19 => (intro w hSw; (try dsimp only at hSw); go_simp; (first | done | with_reducible rfl))
            try simp only [Act.put, List.setIfInBounds_toArray, List.set_cons_zero, List.set_cons_succ]
            refine take1 (i := 19) (v := ?v20) (some 56) rfl rfl (by kernel_rfl) (by kernel_rfl) (by kernel_rfl) (fun _ _ _ h => h) (Or.inl ⟨by rfl, ?y20⟩) (by assumption) ?r20
            case y20 => (intro w hSw; (try dsimp only at hSw); go_simp; (first | done | with_reducible rfl))
            try simp only [Act.put, List.setIfInBounds_toArray, List.set_cons_zero, List.set_cons_succ]
            refine take1 (i := 20) (v := ?v21) (some 57) rfl rfl (by kernel_rfl) (by kernel_rfl) (by kernel_rfl) (fun _ _ _ h => h) (Or.inl ⟨by rfl, ?y21⟩) (by assumption) ?r21
            case y21 => (intro w hSw; (try dsimp only at hSw); go_simp; (first | done | with_reducible rfl))
            try simp only [Act.put, List.setIfInBounds_toArray, List.set_cons_zero, List.set_cons_succ]
            refine wpAnyH_ready (rs := [21]) (by kernel_rfl) (by simp) ?_
            refine AllReadyH.cons rfl (fun K hK => ?_) AllReadyH.nil
            go_simp
            refine hK.out _ _ (HPQ.out _ HB6.out) (fun hHeld => ?_)
            clear hK K
            try simp only [Act.put]
            refine wpAnyH_ready (rs := [22]) (by kernel_rfl) (by simp) ?_
            refine AllReadyH.cons rfl (fun K hK => ?_) AllReadyH.nil
            refine step_push (wr := wk) (by rfl) _ _ _ (by rfl) w2.heap.size 0 0 w2 57 i0 (.agg #[.int .i64 0, .int .i64 0, .int .i64 0]) 3 24 Try.underlying30 hi hz0 hz1 hz2 rfl (by decide) g ys.length c (flatC trC ys) [.int .i64 I, .int .i64 J, .int .i64 V] (by rfl) (by rfl) rfl ?c1 ?c2 (by decide) HO5.out HB5.out ?_
            case c1 => intro u hu; simp only [List.mem_cons, List.not_mem_nil, or_false] at hu; rcases hu with rfl | rfl | rfl <;> rfl
            case c2 => omega
            intro g3 c3 w3 hO3 hB3 hK3
            have HO3 : Hid (OutA w2.heap.size 0 0 w3 57 3 g3 (ys ++ [(⟨I, J, V⟩ : Tr)]).length c3 (flatC trC (ys ++ [(⟨I, J, V⟩ : Tr)]))) := Lib.hid (by rw [List.length_append, flatC_app]; exact hO3)
            have hlen : ys.length + 1 = (ys ++ [(⟨I, J, V⟩ : Tr)]).length := by rw [List.length_append]; rfl
            rw [hlen]
            have HB3 := Lib.hid hB3
            clear hO3 hB3 hK3 hlen p5 q5
            generalize ys ++ [(⟨I, J, V⟩ : Tr)] = ys2 at HO3 HST ⊢
            refine hK.out _ _ (HPQ.out _ HB3.out) (fun hHeld => ?_)
            clear hK K
            try simp only [Act.put, List.setIfInBounds_toArray]
            refine take1 (i := 23) (v := ?v22) (some 7) rfl rfl (by kernel_rfl) (by kernel_rfl) (by kernel_rfl) (fun _ _ _ h => h) (Or.inl ⟨by rfl, ?y22⟩) (by assumption) ?r22
            case y22 => (intro w hSw; (try dsimp only at hSw); go_simp; (first | done | with_reducible rfl))
            try simp only [Act.put]
            refine wpAnyH_done (by kernel_rfl) ?_ _
            go_wp2_with fail
            go_roundw
            case rel => exact ⟨k + 1, g3, c3, ys2, by omega, by go_num, rfl, HST, HO3.out, HB3.out⟩
            case measure => simp [intOf]; omega
          · have HST : Hid (W = ys ++ (rowT (p.length - 1 - i) x (q.drop (k + 1)) ++ prT (p.drop (i + 1)) q)) := Lib.hid (by rw [hst, if_neg hv, List.nil_append])
            clear hst hV
            go_wp2_with fail
            go_quiet (fail)
            rename Nat => nq
            have HB4 : Hid (Below w2.heap.size w2 (wi.drewN nq)) := Lib.hid (bl_drewN HB.out nq)
            have HO4 := Lib.hid (HO.out.next (bl_drewN (Below.refl _ wi) nq))
            clear p0 q0
            generalize wi.drewN nq = wj at HB4 HO4 ⊢
            go_wp2_with fail
            go_roundw
            case rel => exact ⟨k + 1, g, c, ys, by omega, by go_num, rfl, HST, HO4.out, HB4.out⟩
            case measure => simp [intOf]; omega
        · obtain rfl : k = q.length := by omega
          have HST : Hid (W = ys ++ prT (p.drop (i + 1)) q) := Lib.hid (by rw [HY3.out, rowT_end _ _ _ _ (Nat.le_refl _), List.nil_append])
          clear hO hb
          go_wp2_with fail
          go_roundw
          case rel => exact ⟨i + 1, g, c, ys, by omega, by go_num, rfl, HST, HO.out, HB.out⟩
          case measure => simp [intOf]; omega
    · obtain rfl : i = p.length := by omega
      have HE : Hid (ys = W) := Lib.hid (by rw [HY.out, prT_end p q _ (Nat.le_refl _), List.append_nil])
      have HR := Lib.hid (own_mono hO.own HB2.out.size)
      clear hO hb
      go_wp2_with fail
      go_ret
      exact ⟨⟨_, rfl, HE.out ▸ HR.out⟩, HB2.out.trans (HB.out.mono HB2.out.size)⟩

set_option maxRecDepth 100000 in
set_option maxHeartbeats 800000 in
theorem spePartsOf_yes (a b : Nat) (w : World) (ha : a ≤ 9999) (hb : b ≤ 9999) :
    Calls Try.prog 20 #[.int .i64 (a : Int), .int .i64 (b : Int)] w fun e w' => (∃ sq, e = .returned (.tuple #[sq, .bool true]) ∧ RowsR 3 trC w' sq (prT (dgL a) (dgL b))) ∧ Below w.heap.size w w' := by
  have HOK : Hid (okFs (a : Int) (b : Int)) := Lib.hid ⟨by omega, by omega⟩
  go_enter Try.func20, Try.ntmps20
  go_wp2_with fail
  refine (l9Both_yes _ _ w HOK.out).mono ?_
  rintro e w2 ⟨rfl, rfl⟩
  go_wp2_with fail
  refine (l9Parts_any a b w ha hb).mono ?_
  rintro e w2 ⟨⟨sq, rfl, ho⟩, hb2⟩
  have HO := Lib.hid (RowsR.of_own trC_len ho)
  have HB := Lib.hid hb2
  clear ho hb2
  go_wp2_with fail
  go_ret2
  exact ⟨⟨_, rfl, HO.out⟩, HB.out⟩
theorem rows_none {α : Type} (c : Nat) (cells : α → List Value) (w : World) (g : Nat) : RowsR c cells w (.slice (some ⟨g, 0, none⟩) 0 0) ([] : List α) := ⟨_, 0, rfl, ⟨Nat.zero_le _, Nat.le_refl _⟩, fun h => absurd h (by simp)⟩
set_option maxRecDepth 100000 in
set_option maxHeartbeats 800000 in
theorem spePartsOf_no (a b : Int) (w : World) (h : ¬ okFs a b) :
    Calls Try.prog 20 #[.int .i64 a, .int .i64 b] w fun e w' => (∃ sq, e = .returned (.tuple #[sq, .bool false]) ∧ RowsR 3 trC w' sq []) ∧ Below w.heap.size w w' := by
  go_enter Try.func20, Try.ntmps20
  go_wp2_with fail
  refine (l9Both_no _ _ w h).mono ?_
  rintro e w2 ⟨rfl, rfl⟩
  go_wp2_with fail
  go_ret2
  exact ⟨⟨_, rfl, rows_none _ _ _ _⟩, (Below.refl _ _).alloc (Nat.le_refl _) _⟩

theorem smT_snoc (l : List Tr) (k : Nat) (h : k < l.length) : smT (l.take (k + 1)) = smT (l.take k) + wT l[k] := by
  rw [List.take_add_one, List.getElem?_eq_getElem h, Option.toList_some, smT_app, smT_cons, smT_nil]; omega
theorem ttL_take (l : List Tr) (k : Nat) (h : k < l.length) : ttL 0 (l.take (k + 1)) = ttL 0 (l.take k) ++ [smT (l.take k) + wT l[k]] := by
  rw [List.take_add_one, List.getElem?_eq_getElem h, Option.toList_some, ttL_snoc]; simp
/-- What is asked of an element of the parts. -/
theorem part_at {a b : Nat} (ha : a ≤ 9999) (hb : b ≤ 9999) (k : Nat) (h : k < (prT (dgL a) (dgL b)).length) :
    ∃ (I K : Nat) (v : Int), (prT (dgL a) (dgL b))[k] = ⟨(I : Int), (K : Int), v⟩ ∧ I ≤ 3 ∧ K ≤ 3 ∧ 1 ≤ v ∧ v ≤ 81 := by
  obtain ⟨h1, h2, h3⟩ := part_ok ha hb (List.getElem_mem h)
  generalize (prT (dgL a) (dgL b))[k] = t at h1 h2 h3
  obtain ⟨i, q, v⟩ := t
  simp only at h1 h2 h3
  exact ⟨i.toNat, q.toNat, v, by rw [Int.toNat_of_nonneg h1.1, Int.toNat_of_nonneg h2.1], by omega, by omega, by omega, by omega⟩
set_option maxRecDepth 100000 in
set_option maxHeartbeats 3200000 in
theorem speTotals_yes (a b : Nat) (w : World) (ha : a ≤ 9999) (hb9 : b ≤ 9999) :
    Calls Try.prog 17 #[.int .i64 (a : Int), .int .i64 (b : Int)] w fun e w' => (∃ sq, e = .returned (.tuple #[sq, .bool true]) ∧ RowsR 1 inC w' sq (ttL 0 (prT (dgL a) (dgL b)))) ∧ Below w.heap.size w w' := by
  obtain ⟨i0, hi, hz0, hz1, hz2⟩ := info_parts Try.infoI9
  have hl16 := prT_len16 ha hb9
  have HOK : Hid (okFs (a : Int) (b : Int)) := Lib.hid ⟨by omega, by omega⟩
  have HG := Lib.hid (fun w => l9Parts_any a b w ha hb9)
  have HN := Lib.hid (fun k h => part_at ha hb9 k h)
  have HS : Hid (∀ k, 0 ≤ smT ((prT (dgL a) (dgL b)).take k) ∧ smT ((prT (dgL a) (dgL b)).take k) ≤ 99980001) := Lib.hid (fun k => by
    have h1 := smT_pre ha hb9 (List.take_prefix k _); have := mul_top ha hb9; omega)
  generalize prT (dgL a) (dgL b) = L at hl16 HG HN HS ⊢
  clear ha hb9
  go_enter Try.func17, Try.ntmps17
  go_wp2_with fail
  have hs0 : (w.alloc (.cells #[] 3)).heap.size = w.heap.size + 1 := by simp
  have hb0 : Below w.heap.size w (w.alloc (.cells #[] 3)) := (Below.refl _ _).alloc (Nat.le_refl _) _
  have ho0 : (w.alloc (.cells #[] 3)).ownsRow w.heap.size 3 1 (.slice (some ⟨w.heap.size, 0, none⟩) 0 0) 0 [] := World.ownsRow_made _ _ _ (Nat.le_refl _) (Nat.zero_le _) (by simp)
  generalize w.alloc (.cells #[] 3) = w1 at hs0 hb0 ho0 ⊢
  refine (l9Both_yes _ _ w1 HOK.out).mono ?_
  rintro e w2 ⟨rfl, rfl⟩
  go_wp2_with fail
  refine (HG.out w1).mono ?_
  rintro e w2 ⟨⟨sd, rfl, od⟩, hb2⟩
  obtain ⟨ad, cd, rfl⟩ := own_form od
  have HO0 : Hid (OutA w.heap.size w1.heap.size w2.heap.size w2 3 1 w.heap.size 0 0 []) := Lib.hid ⟨own_below ho0 hb2, .inl (by omega), Nat.le_refl _⟩
  have HB0 : Hid (Below w.heap.size w w2) := Lib.hid (hb0.trans (hb2.mono hb0.size))
  have HR := Lib.hid (fun (wr : World) (hk : KeepB w1.heap.size w2.heap.size w2 wr) i (hi : i < L.length) => own_read trC_len od rfl hk i hi)
  have HZ : Hid (L.length ≤ 9223372036854775807) := Lib.hid (by omega)
  clear od hb2 ho0 hb0 hs0
  go_wp2_with fail
  go_loopw [6, 8, 9] (fun ov sv iv wr => ∃ (k g c : Nat), k ≤ L.length ∧ iv = .int .i64 (k : Int) ∧ sv = .int .i64 (smT (L.take k)) ∧ ov = .slice (some ⟨g, 0, none⟩) k c ∧ OutA w.heap.size w1.heap.size w2.heap.size wr 3 1 g k c (flatC inC (ttL 0 (L.take k))) ∧ Below w.heap.size w wr ∧ KeepB w1.heap.size w2.heap.size w2 wr) (fun _ _ iv _ => 20 - (intOf iv).toNat)
  case atStart => exact ⟨0, w.heap.size, 0, Nat.zero_le _, rfl, rfl, rfl, HO0.out, HB0.out, KeepB.refl _ _ _⟩
  case round =>
    obtain ⟨k, g, c, hk, rfl, rfl, rfl, hO, hb, hK⟩ := hrel
    have HO := Lib.hid hO
    have HB := Lib.hid hb
    have HK := Lib.hid hK
    by_cases hlt : k < L.length
    · obtain ⟨b, rfl, hc⟩ := HR.out wr hK k hlt
      obtain ⟨I, K, v, hLk, hI, hKK, hv1, hv2⟩ := HN.out k hlt
      have c0 : wr.cell? ⟨b, k * 3, none⟩ = some (.int .i64 (I : Int)) := by have := hc 0 (by omega); rw [hLk] at this; exact this
      have c1 : wr.cell? ⟨b, k * 3 + 1, none⟩ = some (.int .i64 (K : Int)) := by have := hc 1 (by omega); rw [hLk] at this; exact this
      have c2 : wr.cell? ⟨b, k * 3 + 2, none⟩ = some (.int .i64 v) := by have := hc 2 (by omega); rw [hLk] at this; exact this
      have hss := smT_snoc L k hlt
      have htt := ttL_take L k hlt
      have hs1 := HS.out k
      have hs2 := HS.out (k + 1)
      rw [hLk] at hss htt
      have hwt : wT ⟨(I : Int), (K : Int), v⟩ = v * 10 ^ (I + K) := by simp [wT]
      obtain ⟨p1, p2⟩ := pow_bd (I + K) (by omega)
      obtain ⟨z, hz⟩ : ∃ z : Int, (10 : Int) ^ (I + K) = z := ⟨_, rfl⟩
      have HP : Hid (∀ w, Calls Try.prog 75 #[.int .i64 ((I : Int) + (K : Int))] w fun e w' => e = .returned (.int .i64 z) ∧ w' = w) := Lib.hid (fun w => by
        have h9 := l2Power_any (I + K) w (by omega); rw [hz, Int.natCast_add] at h9; exact h9)
      rw [hwt, hz] at hss htt
      obtain ⟨V, hV⟩ : ∃ V, v * z = V := ⟨_, rfl⟩
      obtain ⟨s1, he1⟩ : ∃ s1, smT (L.take k) = s1 := ⟨_, rfl⟩
      obtain ⟨s2, he2⟩ : ∃ s2, smT (L.take (k + 1)) = s2 := ⟨_, rfl⟩
      have hVp : 0 ≤ V := by rw [← hV]; rw [hz] at p1; exact Int.mul_nonneg (by omega) (by omega)
      rw [hV, he1] at hss htt
      rw [he2] at hss
      rw [he1] at hs1 ⊢
      rw [he2] at hs2
      have w1' : IntKind.i64.wrap ((I : Int) + (K : Int)) = (I : Int) + (K : Int) := by rw [IntKind.wrap_i64]; omega
      have w2' : IntKind.i64.wrap (v * z) = V := by rw [hV, IntKind.wrap_i64]; omega
      have w3' : IntKind.i64.wrap (s1 + V) = s2 := by rw [IntKind.wrap_i64]; omega
      rw [← hss] at htt
      have z1 : (0 : Int) ≤ (k : Int) := by omega
      have z2 : (k : Int) < (L.length : Int) := by omega
      have HTT := Lib.hid htt
      have HE2 := Lib.hid he2
      have HCC := Lib.hid (And.intro c0 (And.intro c1 c2))
      clear hc hO hb hK hLk hss htt hs1 hs2 hwt hz hV he1 he2 p1 p2 c0 c1 c2
      go_wp2_with fail
      refine wp_region_held_drew (S := fun w' => w'.cell? ⟨b, k * 3, none⟩ = some (.int .i64 (I : Int)) ∧ w'.cell? ⟨b, k * 3 + 1, none⟩ = some (.int .i64 (K : Int)) ∧ w'.cell? ⟨b, k * 3 + 2, none⟩ = some (.int .i64 v)) (by kernel_rfl) HCC.out (fun hHeld => ?_)
      have HB4 : Hid (Below w.heap.size w wr.drew) := Lib.hid HB.out.drew
      have HO4 : Hid (OutA w.heap.size w1.heap.size w2.heap.size wr.drew 3 1 g k c (flatC inC (ttL 0 (L.take k)))) := Lib.hid (HO.out.next (Below.refl _ _).drew)
      have HK4 : Hid (KeepB w1.heap.size w2.heap.size w2 wr.drew) := Lib.hid (HK.out.trans (fun _ _ _ => rfl))
      have HC4 : Hid (wr.drew.cell? ⟨b, k * 3, none⟩ = some (.int .i64 (I : Int)) ∧ wr.drew.cell? ⟨b, k * 3 + 1, none⟩ = some (.int .i64 (K : Int)) ∧ wr.drew.cell? ⟨b, k * 3 + 2, none⟩ = some (.int .i64 v)) := Lib.hid HCC.out
      generalize wr.drew = w4 at HB4 HO4 HK4 HC4 hHeld ⊢
      refine take1 (i := 0) (v := ?v23) (some 25) rfl rfl (by kernel_rfl) (by kernel_rfl) (by kernel_rfl) (fun _ _ _ h => h) (Or.inl ⟨by rfl, ?y23⟩) (by assumption) ?r23
      case y23 => (intro w hSw; (try dsimp only at hSw); go_simp; (first | done | with_reducible rfl))
      try simp only [Act.put, List.setIfInBounds_toArray, List.set_cons_zero, List.set_cons_succ]
      refine take1 (i := 1) (v := ?v24) (some 26) rfl rfl (by kernel_rfl) (by kernel_rfl) (by kernel_rfl) (fun _ _ _ h => h) (Or.inl ⟨by rfl, ?y24⟩) (by assumption) ?r24
      case y24 => (intro w hSw; (try dsimp only at hSw); go_simp; (first | done | with_reducible rfl))
      try simp only [Act.put, List.setIfInBounds_toArray, List.set_cons_zero, List.set_cons_succ]
      refine take1 (i := 2) (v := ?v25) (some 27) rfl rfl (by kernel_rfl) (by kernel_rfl) (by kernel_rfl) (fun _ _ _ h => h) (Or.inl ⟨by rfl, ?y25⟩) (by assumption) ?r25
      case y25 => (intro w hSw; (try dsimp only at hSw); go_simp; (first | done | with_reducible rfl))
      try simp only [Act.put, List.setIfInBounds_toArray, List.set_cons_zero, List.set_cons_succ]
      refine take1 (i := 3) (v := ?v26) (some 28) rfl rfl (by kernel_rfl) (by kernel_rfl) (by kernel_rfl) (fun _ _ _ h => h) (Or.inl ⟨by rfl, ?y26⟩) (by assumption) ?r26
      case y26 => (intro w hSw; (try dsimp only at hSw); go_simp; (first | done | with_reducible rfl))
      try simp only [Act.put, List.setIfInBounds_toArray, List.set_cons_zero, List.set_cons_succ]
      refine take1 (i := 4) (v := ?v27) (some 29) rfl rfl (by kernel_rfl) (by kernel_rfl) (by kernel_rfl) (fun _ _ _ h => h) (Or.inl ⟨by rfl, ?y27⟩) (by assumption) ?r27
      case y27 => (intro w hSw; (try dsimp only at hSw); go_simp; (first | done | with_reducible rfl))
      try simp only [Act.put, List.setIfInBounds_toArray, List.set_cons_zero, List.set_cons_succ]
      refine take1 (i := 5) (v := ?v28) (some 30) rfl rfl (by kernel_rfl) (by kernel_rfl) (by kernel_rfl) (fun _ _ _ h => h) (Or.inl ⟨by rfl, ?y28⟩) (by assumption) ?r28
      case y28 => (intro w hSw; (try dsimp only at hSw); go_simp; (first | done | with_reducible rfl))
      try simp only [Act.put, List.setIfInBounds_toArray, List.set_cons_zero, List.set_cons_succ]
      refine take1 (i := 6) (v := ?v29) (some 31) rfl rfl (by kernel_rfl) (by kernel_rfl) (by kernel_rfl) (fun _ _ _ h => h) (Or.inl ⟨by rfl, ?y29⟩) (by assumption) ?r29
      case y29 => (intro w hSw; (try dsimp only at hSw); go_simp; (first | done | with_reducible rfl))
      try simp only [Act.put, List.setIfInBounds_toArray, List.set_cons_zero, List.set_cons_succ]
      refine take1 (i := 7) (v := ?v30) (some 32) rfl rfl (by kernel_rfl) (by kernel_rfl) (by kernel_rfl) (fun _ _ _ h => h) (Or.inl ⟨by rfl, ?y30⟩) (by assumption) ?r30
      case y30 => (intro w hSw; (try dsimp only at hSw); go_simp; (first | done | with_reducible rfl))
      try simp only [Act.put, List.setIfInBounds_toArray, List.set_cons_zero, List.set_cons_succ]
      refine take1 (i := 8) (v := ?v31) (some 33) rfl rfl (by kernel_rfl) (by kernel_rfl) (by kernel_rfl) (fun _ _ _ h => h) (Or.inl ⟨by rfl, ?y31⟩) (by assumption) ?r31
      case y31 => (intro w hSw; (try dsimp only at hSw); go_simp; (first | done | with_reducible rfl))
      try simp only [Act.put, List.setIfInBounds_toArray, List.set_cons_zero, List.set_cons_succ]
      refine take1 (i := 9) (v := ?v32) (some 34) rfl rfl (by kernel_rfl) (by kernel_rfl) (by kernel_rfl) (fun _ _ _ h => h) (Or.inl ⟨by rfl, ?y32⟩) (by assumption) ?r32
      case y32 => (intro w hSw; (try dsimp only at hSw); go_simp; (first | done | with_reducible rfl))
      try simp only [Act.put, List.setIfInBounds_toArray, List.set_cons_zero, List.set_cons_succ]
      refine take1 (i := 10) (v := ?v33) (some 35) rfl rfl (by kernel_rfl) (by kernel_rfl) (by kernel_rfl) (fun _ _ _ h => h) (Or.inl ⟨by rfl, ?y33⟩) (by assumption) ?r33
      case y33 => (intro w hSw; (try dsimp only at hSw); go_simp; (first | done | with_reducible rfl))
      try simp only [Act.put, List.setIfInBounds_toArray, List.set_cons_zero, List.set_cons_succ]
      refine take1 (i := 11) (v := ?v34) (some 36) rfl rfl (by kernel_rfl) (by kernel_rfl) (by kernel_rfl) (fun _ _ _ h => h) (Or.inl ⟨by rfl, ?y34⟩) (by assumption) ?r34
      case y34 => (intro w hSw; (try dsimp only at hSw); go_simp; (first | done | with_reducible rfl))
      try simp only [Act.put, List.setIfInBounds_toArray, List.set_cons_zero, List.set_cons_succ]
      refine take1 (i := 12) (v := ?v35) (some 37) rfl rfl (by kernel_rfl) (by kernel_rfl) (by kernel_rfl) (fun _ _ _ h => h) (Or.inl ⟨by rfl, ?y35⟩) (by assumption) ?r35
      case y35 => (intro w hSw; (try dsimp only at hSw); go_simp; (first | done | with_reducible rfl))
      try simp only [Act.put, List.setIfInBounds_toArray, List.set_cons_zero, List.set_cons_succ]
      refine take1 (i := 13) (v := ?v36) (some 38) rfl rfl (by kernel_rfl) (by kernel_rfl) (by kernel_rfl) (fun _ _ _ h => h) (Or.inl ⟨by rfl, ?y36⟩) (by assumption) ?r36
      case y36 => (intro w hSw; (try dsimp only at hSw); go_simp; (first | done | with_reducible rfl))
      try simp only [Act.put, List.setIfInBounds_toArray, List.set_cons_zero, List.set_cons_succ]
      refine take1 (i := 14) (v := ?v37) (some 39) rfl rfl (by kernel_rfl) (by kernel_rfl) (by kernel_rfl) (fun _ _ _ h => h) (Or.inl ⟨by rfl, ?y37⟩) (by assumption) ?r37
      case y37 => (intro w hSw; (try dsimp only at hSw); go_simp; (first | done | with_reducible rfl))
      try simp only [Act.put, List.setIfInBounds_toArray, List.set_cons_zero, List.set_cons_succ]
      refine take1 (i := 15) (v := ?v38) (some 40) rfl rfl (by kernel_rfl) (by kernel_rfl) (by kernel_rfl) (fun _ _ _ h => h) (Or.inl ⟨by rfl, ?y38⟩) (by assumption) ?r38
      case y38 => (intro w hSw; (try dsimp only at hSw); go_simp; (first | done | with_reducible rfl))
      try simp only [Act.put, List.setIfInBounds_toArray, List.set_cons_zero, List.set_cons_succ]
      refine take1 (i := 16) (v := ?v39) (some 41) rfl rfl (by kernel_rfl) (by kernel_rfl) (by kernel_rfl) (fun _ _ _ h => h) (Or.inl ⟨by rfl, ?y39⟩) (by assumption) ?r39
      case y39 => (intro w hSw; (try dsimp only at hSw); go_simp; (first | done | with_reducible rfl))
      try simp only [Act.put, List.setIfInBounds_toArray, List.set_cons_zero, List.set_cons_succ]
      refine wpAnyH_ready (rs := [17]) (by kernel_rfl) (by simp) ?_
      refine AllReadyH.cons rfl (fun K hK => ?_) AllReadyH.nil
      go_simp
      (try rw [w1'])
      go_at_call 75
      refine (HP.out _).mono ?_
      rintro e w9 ⟨rfl, hw9⟩
      subst w9
      try go_simp
      refine hK.out _ _ (HC4.out) (fun hHeld => ?_)
      clear hK K
      try simp only [Act.put, List.setIfInBounds_toArray, List.set_cons_zero, List.set_cons_succ]
      refine take1 (i := 18) (v := ?v40) (some 43) rfl rfl (by kernel_rfl) (by kernel_rfl) (by kernel_rfl) (fun _ _ _ h => h) (Or.inl ⟨by rfl, ?y40⟩) (by assumption) ?r40
      case y40 => (intro w hSw; (try dsimp only at hSw); go_simp; (first | done | with_reducible rfl))
      try simp only [Act.put, List.setIfInBounds_toArray, List.set_cons_zero, List.set_cons_succ]
      refine take1 (i := 19) (v := ?v41) (some 44) rfl rfl (by kernel_rfl) (by kernel_rfl) (by kernel_rfl) (fun _ _ _ h => h) (Or.inl ⟨by rfl, ?y41⟩) (by assumption) ?r41
      case y41 => (intro w hSw; (try dsimp only at hSw); go_simp; (first | done | with_reducible rfl))
      try simp only [Act.put, List.setIfInBounds_toArray, List.set_cons_zero, List.set_cons_succ]
      refine take1 (i := 20) (v := ?v42) (some 8) rfl rfl (by kernel_rfl) (by kernel_rfl) (by kernel_rfl) (fun _ _ _ h => h) (Or.inl ⟨by rfl, ?y42⟩) (by assumption) ?r42
      case y42 => (intro w hSw; (try dsimp only at hSw); go_simp; (first | done | with_reducible rfl))
      try simp only [Act.put, List.setIfInBounds_toArray, List.set_cons_zero, List.set_cons_succ]
      refine wpAnyH_done (by kernel_rfl) ?_ _
      go_wp2_with (at_builtin; refine wpList_push (wr := w4) rfl _ _ 26 rfl w.heap.size w1.heap.size w2.heap.size w 3 i0 (.int .i64 0) 1 8 Try.underlying26 hi hz0 hz1 hz2 rfl (by decide) g k c (flatC inC (ttL 0 (L.take k))) [.int .i64 s2] rfl rfl rfl ?c1 ?c2 (by decide) HO4.out HB4.out ?_)
      case c1 => first | rfl | exact ⟨rfl, rfl⟩ | exact ⟨rfl, rfl, rfl⟩ | (intro u hu; simp only [List.mem_cons, List.not_mem_nil, or_false] at hu; subst hu; rfl)
      case c2 => omega
      intro g3 c3 w3 hO3 hB3 hK3
      have HO3 : Hid (OutA w.heap.size w1.heap.size w2.heap.size w3 3 1 g3 (k + 1) c3 (flatC inC (ttL 0 (L.take (k + 1))))) := Lib.hid (by rw [HTT.out, flatC_app]; exact hO3)
      have HB3 := Lib.hid hB3
      have HK3 := Lib.hid (HK4.out.trans hK3)
      clear hO3 hB3 hK3
      go_wp2_with fail
      go_roundw
      case rel => exact ⟨k + 1, g3, c3, by omega, by go_num, by rw [HE2.out], rfl, HO3.out, HB3.out, HK3.out⟩
      case measure => simp [intOf]; omega
    · obtain rfl : k = L.length := by omega
      have HE : Hid (RowsR 1 inC wr (.slice (some ⟨g, 0, none⟩) L.length c) (ttL 0 L)) := Lib.hid (by have h1 := hO.own; rw [List.take_length] at h1; exact RowsR.of_own inC_len (own_relen' (ttL_len 0 L) h1))
      clear hO hb hK
      go_wp2_with fail
      go_ret2
      exact ⟨⟨_, rfl, HE.out⟩, HB.out⟩
set_option maxRecDepth 100000 in
set_option maxHeartbeats 800000 in
theorem speTotals_no (a b : Int) (w : World) (h : ¬ okFs a b) :
    Calls Try.prog 17 #[.int .i64 a, .int .i64 b] w fun e w' => (∃ sq, e = .returned (.tuple #[sq, .bool false]) ∧ RowsR 1 inC w' sq []) ∧ Below w.heap.size w w' := by
  have HH := Lib.hid h
  clear h
  go_enter Try.func17, Try.ntmps17
  go_wp2_with fail
  have hs0 : (w.alloc (.cells #[] 3)).heap.size = w.heap.size + 1 := by simp
  have hb0 : Below w.heap.size w (w.alloc (.cells #[] 3)) := (Below.refl _ _).alloc (Nat.le_refl _) _
  have ho0 : (w.alloc (.cells #[] 3)).ownsRow w.heap.size 3 1 (.slice (some ⟨w.heap.size, 0, none⟩) 0 0) 0 [] := World.ownsRow_made _ _ _ (Nat.le_refl _) (Nat.zero_le _) (by simp)
  generalize w.alloc (.cells #[] 3) = w1 at hs0 hb0 ho0 ⊢
  refine (l9Both_no _ _ w1 HH.out).mono ?_
  rintro e w2 ⟨rfl, rfl⟩
  go_wp2_with fail
  go_ret2
  exact ⟨⟨_, rfl, rows_none _ _ _ _⟩, hb0⟩
end Go.Proofs.Ythmbehknacjodaa
