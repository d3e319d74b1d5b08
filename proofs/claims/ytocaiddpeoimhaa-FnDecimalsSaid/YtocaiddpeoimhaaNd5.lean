/- The model's PeriodOf. -/
import Derived.Test.YtocaiddpeoimhaaNd2
namespace Go.Proofs.Ytocaiddpeoimhaa
set_option linter.unusedVariables false
open Go.RowKit

set_option maxRecDepth 100000 in
set_option maxHeartbeats 800000 in
theorem l1Has_any (v : Value) (l : List Int) (n : Int) (w : World) (h : RowsR 1 inC w v l) (t : Bool) (ht : t = true ↔ n ∈ l) :
    Calls Try.prog 74 #[v, .int .i64 n] w fun e w' => e = .returned (.bool t) ∧ w' = w := by
  obtain ⟨a, cp, rfl⟩ := h.form
  have hm : l.length ≤ 9223372036854775807 := by obtain ⟨_, _, _, ⟨m, _⟩, _⟩ := h; exact m
  have R1 := Lib.hid h.at
  have HT := Lib.hid ht
  clear h ht
  go_enter Try.func74, Try.ntmps74
  go_wp2_with fail
  go_loopw [5] (fun iv wr => ∃ (k : Nat), k ≤ l.length ∧ iv = .int .i64 (k : Int) ∧ (∀ i (h : i < l.length), i < k → l[i] ≠ n) ∧ wr = w) (fun iv _ => l.length - (intOf iv).toNat)
  case atStart => exact ⟨0, Nat.zero_le _, rfl, fun i _ h => by omega, rfl⟩
  case round =>
    obtain ⟨k, hk, rfl, hpre, rfl⟩ := hrel
    have HP := Lib.hid hpre
    clear hpre
    by_cases hlt : k < l.length
    · obtain ⟨b1, o1, rfl, l1, k1⟩ := R1.out _ (Below.refl _ _) k hlt
      have c0 : wr.cell? ⟨b1, o1 + k, none⟩ = some (.int .i64 l[k]) := by have := k1 0 (by omega); rw [Nat.mul_one] at this; exact this
      have z1 : (0 : Int) ≤ (k : Int) := by omega
      have z2 : (k : Int) < (l.length : Int) := by omega
      obtain ⟨x, hx⟩ : ∃ x, l[k] = x := ⟨_, rfl⟩
      rw [hx] at c0
      by_cases hxn : x = n
      · have y1 : (x == n) = true := by simpa using hxn
        have HTT : Hid (t = true) := Lib.hid (HT.out.2 (by rw [← hxn, ← hx]; exact List.getElem_mem hlt))
        clear k1 hx hxn
        go_wp2_with fail
        go_ret
        exact ⟨by rw [HTT.out]; rfl, rfl⟩
      · have y1 : (x == n) = false := by simpa using hxn
        have HP2 : Hid (∀ i (h : i < l.length), i < k + 1 → l[i] ≠ n) := Lib.hid (fun i h hi => by
          by_cases e : i = k
          · subst e; rw [hx]; exact hxn
          · exact HP.out i h (by omega))
        clear k1 hx hxn
        go_wp2_with fail
        go_roundw
        case rel => exact ⟨k + 1, by omega, by go_num, HP2.out, trivial⟩
        case measure => simp [intOf]; omega
    · obtain rfl : k = l.length := by omega
      have HTT : Hid (t = false) := Lib.hid (by
        cases t with
        | false => rfl
        | true =>
          obtain ⟨i, hi, e⟩ := List.mem_iff_getElem.1 (HT.out.1 rfl)
          exact absurd e (HP.out i hi hi))
      go_wp2_with fail
      go_ret
      exact ⟨by rw [HTT.out]; rfl, rfl⟩
/-- A slice's length. -/
def lnV : Value → Nat
  | .slice _ n _ => n
  | _ => 0
/-- The first k rests. -/
def rsF (R : Nat → Int) (k : Nat) : List Int := (List.range k).map R
theorem rsF_len (R : Nat → Int) (k : Nat) : (rsF R k).length = k := by simp [rsF]
theorem rsF_at (R : Nat → Int) (k i : Nat) (h : i < (rsF R k).length) : (rsF R k)[i] = R i := by simp [rsF]
theorem rsF_succ (R : Nat → Int) (k : Nat) : rsF R (k + 1) = rsF R k ++ [R k] := by unfold rsF; rw [List.range_succ, List.map_append]; rfl
theorem rsF_mem (R : Nat → Int) (k : Nat) (x : Int) : x ∈ rsF R k ↔ ∃ i, i < k ∧ R i = x := by simp [rsF]
theorem fst_mem {R : Nat → Int} {b p k : Nat} (h : fstR R b p) (hk : k ≤ p) : R k ∈ rsF R k ↔ k = p := by
  rw [rsF_mem]
  constructor
  · rintro ⟨i, hi, e⟩
    by_cases hp : k = p
    · exact hp
    · exact absurd e (h.2.2 i k hi (by omega))
  · rintro rfl
    exact ⟨b, h.1, h.2.1⟩
theorem fst_before {R : Nat → Int} {b p : Nat} (h : fstR R b p) (j : Nat) (hj : j < b) : R j ≠ R p := by
  rw [← h.2.1]; exact h.2.2 j b hj h.1
/-- The answer. -/
def PerA (R : Nat → Int) (b p : Nat) (x y : Int) : Prop := (R p = 0 → x = 0 ∧ y = 0) ∧ (R p ≠ 0 → x = (b : Int) ∧ y = (p : Int) - (b : Int))
theorem perA_ex (R : Nat → Int) (b p : Nat) : ∃ x y, PerA R b p x y := by
  by_cases h : R p = 0
  · exact ⟨0, 0, fun _ => ⟨rfl, rfl⟩, fun h' => absurd h h'⟩
  · exact ⟨_, _, fun h' => absurd h' h, fun _ => ⟨rfl, rfl⟩⟩
set_option maxRecDepth 100000 in
set_option maxHeartbeats 3200000 in
theorem spePeriodOf_yes (a d : Int) (w : World) (h : okD a d) (h500 : d ≤ 500) (b p : Nat) (hp : p ≤ 500) (hf : fstR (rsD d (a % d)) b p) (x y : Int) (hxy : PerA (rsD d (a % d)) b p x y) :
    Calls Try.prog 37 #[.int .i64 a, .int .i64 d] w fun e w' => e = .returned (.tuple #[.int .i64 x, .int .i64 y, .bool true]) ∧ Below w.heap.size w w' := by
  obtain ⟨i0, hi, hz0, hz1, hz2⟩ := info_parts Try.infoI9
  have HOK := Lib.hid h
  have z3 : (d == 0) = false := beq_eq_false_iff_ne.2 (by have := h.2.1; omega)
  have z4 : d ≠ 0 := by have := h.2.1; omega
  have hd9 : 1 ≤ d ∧ d ≤ 9999 := h.2
  obtain ⟨f1, f2, f3, f4, f5, f6⟩ := div_facts (b := a) (d := d) ⟨h.1.1, by have := h.1.2; omega⟩ h.2.1
  have HRB := Lib.hid (fun k => rsD_bd (d := d) hd9.1 (r := a % d) ⟨f5, f6⟩ k)
  have HRS := Lib.hid (fun k => rsD_succ d (a % d) k)
  have HR0 : Hid (rsD d (a % d) 0 = a % d) := Lib.hid rfl
  obtain ⟨hz8, hz7⟩ := h.1
  generalize hR : rsD d (a % d) = R at HRB HRS HR0 hf hxy
  obtain ⟨r0, hr0⟩ : ∃ r, a % d = r := ⟨_, rfl⟩
  rw [hr0] at HR0 f2 f5 f6
  have HF := Lib.hid hf
  have HXY := Lib.hid hxy
  have z5 : ¬ 500 < d := by omega
  clear h f1 f3 f4 hR hf hxy h500
  go_enter Try.func37, Try.ntmps37
  go_wp2_with fail
  refine (l10Asked_yes _ _ w HOK.out).mono ?_
  rintro e w2 ⟨rfl, rfl⟩
  go_wp2_with fail
  go_region
  have HO0 : Hid ((w.alloc (.cells #[] 3)).ownsRow w.heap.size 3 1 (.slice (some ⟨w.heap.size, 0, none⟩) 0 0) 0 []) := Lib.hid (World.ownsRow_made _ _ _ (Nat.le_refl _) (Nat.zero_le _) (by simp))
  have HB0 : Hid (Below w.heap.size w (w.alloc (.cells #[] 3))) := Lib.hid ((Below.refl _ _).alloc (Nat.le_refl _) _)
  generalize w.alloc (.cells #[] 3) = w1 at HO0 HB0 ⊢
  have HO1 : Hid (OutA w.heap.size 0 0 w1.drew 3 1 w.heap.size 0 0 []) := Lib.hid ⟨own_below HO0.out (Below.refl _ _).drew, .inr (Nat.zero_le _), Nat.zero_le _⟩
  have HB1 : Hid (Below w.heap.size w w1.drew) := Lib.hid HB0.out.drew
  generalize w1.drew = w2 at HO1 HB1 ⊢
  clear HO0 HB0 f2 hr0 z5
  obtain ⟨bv, hbv⟩ : ∃ bv, decide (500 < d) = bv := ⟨_, rfl⟩
  rw [hbv]
  clear hbv
  go_wp2_with fail
  go_loopw [7, 8] (fun sv rv wr => ∃ (k g c : Nat) (r : Int), k ≤ p ∧ sv = .slice (some ⟨g, 0, none⟩) k c ∧ rv = .int .i64 r ∧ Hid (r = R k) ∧ OutA w.heap.size 0 0 wr 3 1 g k c (flatC inC (rsF R k)) ∧ Below w.heap.size w wr) (fun sv _ _ => p - lnV sv)
  case atStart => exact ⟨0, w.heap.size, 0, r0, Nat.zero_le _, rfl, rfl, Lib.hid HR0.out.symm, HO1.out, HB1.out⟩
  case round =>
    obtain ⟨k, g, c, r, hk, rfl, rfl, HRR, hO, hb⟩ := hrel
    have HO := Lib.hid hO
    have HB := Lib.hid hb
    have hrb := HRB.out k
    rw [← HRR.out] at hrb
    have HRW : Hid (RowsR 1 inC wr (.slice (some ⟨g, 0, none⟩) k c) (rsF R k)) := Lib.hid (by have h1 := RowsR.of_own (ps := rsF R k) inC_len (own_relen' (rsF_len R k) hO.own); exact h1)
    by_cases hkp : k = p
    · have HHas : Hid (∀ w, RowsR 1 inC w (.slice (some ⟨g, 0, none⟩) k c) (rsF R k) → Calls Try.prog 74 #[.slice (some ⟨g, 0, none⟩) k c, .int .i64 r] w fun e w' => e = .returned (.bool true) ∧ w' = w) := Lib.hid (fun w h => l1Has_any _ _ r w h true ⟨fun _ => by rw [HRR.out]; exact (fst_mem HF.out hk).2 hkp, fun _ => rfl⟩)
      subst hkp
      clear hO hb
      go_wp2_with fail
      refine (HHas.out wr HRW.out).mono ?_
      rintro e w9 ⟨rfl, rfl⟩
      by_cases hr00 : r = 0
      · have y1 : (r == 0) = true := by simpa using hr00
        have HX : Hid (x = 0 ∧ y = 0) := Lib.hid (HXY.out.1 (by rw [← HRR.out]; exact hr00))
        clear hr00
        go_wp2_with fail
        exact bodyPost_ret (v := .tuple #[.int .i64 0, .int .i64 0, .bool true]) (by simp [results, Try.results37, go_sem]) rfl ⟨by rw [HX.out.1, HX.out.2], HB.out⟩
      · have y1 : (r == 0) = false := by simpa using hr00
        have HX : Hid (x = (b : Int) ∧ y = (k : Int) - (b : Int)) := Lib.hid (HXY.out.2 (by rw [← HRR.out]; exact hr00))
        have hbk : b < k := HF.out.1
        have HRE : Hid (R b = r) := Lib.hid (by rw [HRR.out]; exact HF.out.2.1)
        have HNE : Hid (∀ j, j < b → R j ≠ r) := Lib.hid (fun j hj => by rw [HRR.out]; exact fst_before HF.out j hj)
        have HC : Hid (∀ j, j < k → w9.cell? ⟨g, j, none⟩ = some (.int .i64 (R j))) := Lib.hid (fun j hj => by
          have h5 := (HO.out.own.cellAt (j * 1 + 0) (by omega)).trans (flatC_at inC_len (rsF R k) j (by rw [rsF_len]; exact hj) 0 (by omega))
          rw [Nat.mul_one, Nat.add_zero, rsF_at] at h5; exact h5)
        clear hr00
        go_wp2_with fail
        go_loopw [9] (fun jv wq => ∃ (j : Nat), j ≤ b ∧ jv = .int .i64 (j : Int) ∧ wq = w9) (fun jv _ => b - (intOf jv).toNat)
        case atStart => exact ⟨0, Nat.zero_le _, rfl, rfl⟩
        case round =>
          obtain ⟨j, hj, rfl, rfl⟩ := hrel
          have c0 := HC.out j (by omega)
          have z1 : (0 : Int) ≤ (j : Int) := by omega
          have z2 : (j : Int) < (k : Int) := by omega
          by_cases hjb : j = b
          · subst hjb
            rw [HRE.out] at c0
            have y2 : (r != r) = false := by simp
            go_wp2_with fail
            exact bodyPost_ret (v := .tuple #[.int .i64 (j : Int), .int .i64 ((k : Int) - (j : Int)), .bool true]) (by simp [results, Try.results37, go_sem]) rfl ⟨by rw [HX.out.1, HX.out.2], HB.out⟩
          · have hne := HNE.out j (by omega)
            obtain ⟨u, hu⟩ : ∃ u, R j = u := ⟨_, rfl⟩
            rw [hu] at c0 hne
            have y2 : (u != r) = true := by simpa using hne
            clear hu hne
            go_wp2_with fail
            go_roundw
            case rel => exact ⟨j + 1, by omega, by go_num, trivial⟩
            case measure => simp [intOf]; omega
    · have HHas : Hid (∀ w, RowsR 1 inC w (.slice (some ⟨g, 0, none⟩) k c) (rsF R k) → Calls Try.prog 74 #[.slice (some ⟨g, 0, none⟩) k c, .int .i64 r] w fun e w' => e = .returned (.bool false) ∧ w' = w) := Lib.hid (fun w h => l1Has_any _ _ r w h false ⟨fun h => (by cases h), fun h => absurd ((fst_mem HF.out hk).1 (by rw [← HRR.out]; exact h)) hkp⟩)
      obtain ⟨N, q, v, e1, e2, e3, e4, e5, e6, e7, e8, e9, e10, e11, e12⟩ := step_facts (x := 0) hrb ⟨by omega, by omega⟩ hd9
      simp only [Int.add_zero] at e1 e4 e12
      have hrs := HRS.out k
      rw [← HRR.out, e12] at hrs
      have HRN := Lib.hid hrs.symm
      have hsn := rsF_succ R k
      rw [← HRR.out] at hsn
      have HSN := Lib.hid hsn
      rw [e1] at e3
      clear hrs hsn e11 e12 e4 hO hb
      have e1' : 10 * r = N := e1
      clear e1
      go_wp2_with fail
      refine (HHas.out wr HRW.out).mono ?_
      rintro e w9 ⟨rfl, rfl⟩
      go_wp2_with (at_builtin; refine wpList_push (wr := w9) rfl _ _ 32 rfl w.heap.size 0 0 w 3 i0 (.int .i64 0) 1 8 Try.underlying32 hi hz0 hz1 hz2 rfl (by decide) g k c (flatC inC (rsF R k)) [.int .i64 r] rfl rfl rfl ?c1 ?c2 (by decide) HO.out HB.out ?_)
      case c1 => first | rfl | exact ⟨rfl, rfl⟩ | exact ⟨rfl, rfl, rfl⟩ | (intro u hu; simp only [List.mem_cons, List.not_mem_nil, or_false] at hu; subst hu; rfl)
      case c2 => omega
      intro g3 c3 w3 hO3 hB3 hK3
      have HO3 : Hid (OutA w.heap.size 0 0 w3 3 1 g3 (k + 1) c3 (flatC inC (rsF R (k + 1)))) := Lib.hid (by rw [HSN.out, flatC_app]; exact hO3)
      have HB3 := Lib.hid hB3
      clear hO3 hB3 hK3
      go_wp2_with fail
      go_roundw
      case rel => exact ⟨k + 1, g3, c3, v, by omega, rfl, rfl, HRN, HO3.out, HB3.out⟩
      case measure => simp [lnV]; omega
set_option maxRecDepth 100000 in
set_option maxHeartbeats 800000 in
theorem spePeriodOf_bad (a d : Int) (w : World) (h : ¬ okD a d) :
    Calls Try.prog 37 #[.int .i64 a, .int .i64 d] w fun e w' => e = .returned (.tuple #[.int .i64 0, .int .i64 0, .bool false]) ∧ Below w.heap.size w w' := by
  go_enter Try.func37, Try.ntmps37
  go_wp2_with fail
  refine (l10Asked_no _ _ w h).mono ?_
  rintro e w2 ⟨rfl, rfl⟩
  go_wp2_with fail
  exact bodyPost_ret (v := .tuple #[.int .i64 0, .int .i64 0, .bool false]) (by simp [results, Try.results37, go_sem]) rfl ⟨rfl, Below.refl _ _⟩
set_option maxRecDepth 100000 in
set_option maxHeartbeats 800000 in
theorem spePeriodOf_big (a d : Int) (w : World) (h : okD a d) (hd : 500 < d) :
    Calls Try.prog 37 #[.int .i64 a, .int .i64 d] w fun e w' => e = .returned (.tuple #[.int .i64 0, .int .i64 0, .bool false]) ∧ Below w.heap.size w w' := by
  have HK := Lib.hid h
  clear h
  go_enter Try.func37, Try.ntmps37
  go_wp2_with fail
  refine (l10Asked_yes _ _ w HK.out).mono ?_
  rintro e w2 ⟨rfl, rfl⟩
  go_wp2_with fail
  exact bodyPost_ret (v := .tuple #[.int .i64 0, .int .i64 0, .bool false]) (by simp [results, Try.results37, go_sem]) rfl ⟨rfl, Below.refl _ _⟩
theorem spePeriodOf_no (a d : Int) (w : World) (h : ¬ (okD a d ∧ d ≤ 500)) :
    Calls Try.prog 37 #[.int .i64 a, .int .i64 d] w fun e w' => e = .returned (.tuple #[.int .i64 0, .int .i64 0, .bool false]) ∧ Below w.heap.size w w' := by
  by_cases h1 : okD a d
  · exact spePeriodOf_big a d w h1 (by rcases Int.lt_or_le 500 d with h2 | h2; exact h2; exact absurd ⟨h1, h2⟩ h)
  · exact spePeriodOf_bad a d w h1
end Go.Proofs.Ytocaiddpeoimhaa
