/- Dividing: steps, trial digits, quotients, decimals, periods. -/
import Derived.Test.YtlfplnbmgmookaaK9a
namespace Go.Proofs.Ytlfplnbmgmookaa
set_option linter.unusedVariables false
open Go.RowKit

/-- Both are a dividend and a divisor. -/
def okD (a b : Int) : Prop := (0 ≤ a ∧ a ≤ 99999999) ∧ (1 ≤ b ∧ b ≤ 9999)
theorem okD_nat {a b : Int} (h : okD a b) : ∃ m n : Nat, a = (m : Int) ∧ b = (n : Int) ∧ m ≤ 99999999 ∧ 1 ≤ n ∧ n ≤ 9999 := by
  obtain ⟨h1, h2⟩ := h
  exact ⟨a.toNat, b.toNat, by omega, by omega, by omega, by omega, by omega⟩
/-- A step: the rest with the digit appended, the digit of the quotient, the rest after it. -/
def mkS (d r x : Int) : Tr := ⟨10 * r + x, (10 * r + x) / d, (10 * r + x) % d⟩
def stL (d : Int) : Int → List Int → List Tr
  | _, [] => []
  | r, x :: t => mkS d r x :: stL d ((10 * r + x) % d) t
/-- The rest behind some digits. -/
def rsL (d : Int) : Int → List Int → Int
  | r, [] => r
  | r, x :: t => rsL d ((10 * r + x) % d) t
theorem stL_len (d : Int) : ∀ (r : Int) (l : List Int), (stL d r l).length = l.length
  | _, [] => rfl
  | r, x :: t => by rw [stL, List.length_cons, List.length_cons, stL_len]
theorem rsL_snoc (d : Int) : ∀ (r : Int) (l : List Int) (x : Int), rsL d r (l ++ [x]) = (10 * rsL d r l + x) % d
  | _, [], _ => rfl
  | r, y :: t, x => by rw [List.cons_append, rsL, rsL, rsL_snoc]
theorem stL_snoc (d : Int) : ∀ (r : Int) (l : List Int) (x : Int), stL d r (l ++ [x]) = stL d r l ++ [mkS d (rsL d r l) x]
  | _, [], _ => rfl
  | r, y :: t, x => by rw [List.cons_append, stL, stL, stL_snoc, rsL, List.cons_append]
theorem takeS {α : Type} (l : List α) (k : Nat) (h : k < l.length) : l.take (k + 1) = l.take k ++ [l[k]] := by rw [List.take_add_one, List.getElem?_eq_getElem h]; rfl
theorem stL_take (d r : Int) (l : List Int) (k : Nat) (h : k < l.length) : stL d r (l.take (k + 1)) = stL d r (l.take k) ++ [mkS d (rsL d r (l.take k)) l[k]] := by rw [takeS l k h, stL_snoc]
theorem rsL_take (d r : Int) (l : List Int) (k : Nat) (h : k < l.length) : rsL d r (l.take (k + 1)) = (10 * rsL d r (l.take k) + l[k]) % d := by rw [takeS l k h, rsL_snoc]
theorem rsL_bd {d : Int} (hd : 1 ≤ d) : ∀ (l : List Int) (r : Int), 0 ≤ r ∧ r < d → 0 ≤ rsL d r l ∧ rsL d r l < d
  | [], _, h => h
  | x :: t, r, _ => by rw [rsL]; exact rsL_bd hd t _ ⟨Int.emod_nonneg _ (by omega), Int.emod_lt_of_pos _ (by omega)⟩
theorem take_app {α : Type} (l : List α) (k : Nat) (h : k < l.length) (P : List α → Prop) (h1 : P (l.take (k + 1))) : P (l.take k ++ [l[k]]) := by rw [← takeS l k h]; exact h1
theorem stL_split (d : Int) : ∀ (a b : List Int) (r : Int), stL d r (a ++ b) = stL d r a ++ stL d (rsL d r a) b
  | [], _, _ => rfl
  | x :: t, b, r => by rw [List.cons_append, stL, stL, stL_split d t b, rsL, List.cons_append]
theorem stL_at (d r : Int) (l : List Int) (k : Nat) (h : k < l.length) : (stL d r l)[k]'(by rw [stL_len]; exact h) = mkS d (rsL d r (l.take k)) l[k] := by
  have e : stL d r l = stL d r (l.take k) ++ stL d (rsL d r (l.take k)) (l.drop k) := by rw [← stL_split, List.take_append_drop]
  have hl : (stL d r (l.take k)).length = k := by rw [stL_len, List.length_take]; omega
  have : (stL d r l)[k]? = some (mkS d (rsL d r (l.take k)) l[k]) := by
    rw [e, List.getElem?_append_right (by omega), hl, Nat.sub_self, List.drop_eq_getElem_cons h, stL]; rfl
  rw [List.getElem?_eq_getElem (by rw [stL_len]; exact h)] at this
  injection this
/-- What a step is made of. -/
def stOk (d : Int) (t : Tr) : Prop := (0 ≤ t.i ∧ t.i < 10 * d) ∧ (0 ≤ t.k ∧ t.k ≤ 9) ∧ (0 ≤ t.v ∧ t.v < d) ∧ t.k = t.i / d ∧ t.v = t.i % d
theorem mkS_ok {d r x : Int} (hd : 1 ≤ d) (hr : 0 ≤ r ∧ r < d) (hx : 0 ≤ x ∧ x ≤ 9) : stOk d (mkS d r x) := by
  refine ⟨⟨by simp only [mkS]; omega, by simp only [mkS]; omega⟩, ⟨Int.ediv_nonneg (by omega) (by omega), ?_⟩, ⟨Int.emod_nonneg _ (by omega), Int.emod_lt_of_pos _ (by omega)⟩, rfl, rfl⟩
  have : (10 * r + x) / d < 10 := Int.ediv_lt_of_lt_mul (by omega) (by omega)
  simp only [mkS]; omega
theorem stL_ok {d : Int} (hd : 1 ≤ d) : ∀ (l : List Int) (r : Int), 0 ≤ r ∧ r < d → (∀ x ∈ l, 0 ≤ x ∧ x ≤ 9) → ∀ t ∈ stL d r l, stOk d t
  | [], _, _, _, t, h => by cases h
  | x :: l, r, hr, hl, t, h => by
    rw [stL] at h
    rcases List.mem_cons.1 h with rfl | h
    · exact mkS_ok hd hr (hl x List.mem_cons_self)
    · exact stL_ok hd l _ ⟨Int.emod_nonneg _ (by omega), Int.emod_lt_of_pos _ (by omega)⟩ (fun y hy => hl y (List.mem_cons_of_mem _ hy)) t h
theorem stL_ok_at {d : Int} (hd : 1 ≤ d) (l : List Int) (r : Int) (hr : 0 ≤ r ∧ r < d) (hl : ∀ x ∈ l, 0 ≤ x ∧ x ≤ 9) (k : Nat) (h : k < (stL d r l).length) : stOk d (stL d r l)[k] := stL_ok hd l r hr hl _ (List.getElem_mem h)

/-- The quotient of the digits. -/
def qtL (l : List Tr) : Int := vlL (l.map (·.k))
theorem qtL_nil : qtL [] = 0 := rfl
theorem qtL_snoc (l : List Tr) (t : Tr) : qtL (l ++ [t]) = 10 * qtL l + t.k := by unfold qtL; rw [List.map_append, List.map_cons, List.map_nil, vlL_snoc]
theorem listS {α : Type} (l : List α) (h : l ≠ []) : ∃ a x, l = a ++ [x] := ⟨l.dropLast, l.getLast h, (List.dropLast_concat_getLast h).symm⟩
/-- The digits and the rest make up the number. -/
theorem div_sum {d : Int} (hd : 1 ≤ d) (l : List Int) : d * qtL (stL d 0 l) + rsL d 0 l = vlL l := by
  generalize hn : l.length = n
  induction n generalizing l with
  | zero => rw [List.length_eq_zero_iff.1 hn]; simp [stL, rsL, qtL, vlL]
  | succ n ih =>
    obtain ⟨a, x, rfl⟩ := listS l (by intro h; rw [h] at hn; simp at hn)
    have := ih a (by rw [List.length_append] at hn; simpa using hn)
    rw [stL_snoc, rsL_snoc, qtL_snoc, vlL_snoc, ← this]
    simp only [mkS]
    have e := Int.mul_ediv_add_emod (10 * rsL d 0 a + x) d
    rw [Int.mul_add, Int.mul_left_comm, Int.mul_add]
    omega
theorem div_quot {d : Int} (hd : 1 ≤ d) (l : List Int) : qtL (stL d 0 l) = vlL l / d ∧ rsL d 0 l = vlL l % d := by
  have h1 := div_sum hd l
  have h2 := rsL_bd hd l 0 ⟨by omega, by omega⟩
  have := (Int.ediv_emod_unique (a := vlL l) (b := d) (r := rsL d 0 l) (q := qtL (stL d 0 l)) (by omega)).2 ⟨by omega, h2.1, h2.2⟩
  exact ⟨this.1.symm, this.2.symm⟩
theorem dgL_div (m : Nat) {d : Int} (hd : 1 ≤ d) : qtL (stL d 0 (dgL m)) = (m : Int) / d ∧ rsL d 0 (dgL m) = (m : Int) % d := by
  have := div_quot hd (dgL m); rwa [vlL_dgL] at this

/-- The trial digit. -/
def trN (b d : Nat) : Nat := if h : 9 < d then trN (b / 10) (d / 10) else min (b / d) 9
termination_by d
decreasing_by omega
theorem trN_big {b d : Nat} (h : 9 < d) : trN b d = trN (b / 10) (d / 10) := by rw [trN, dif_pos h]
theorem trN_small {b d : Nat} (h : ¬ 9 < d) : trN b d = min (b / d) 9 := by rw [trN, dif_neg h]
theorem trN_pow : ∀ (k b d : Nat), 10 ^ k ≤ d → d < 10 ^ (k + 1) → trN b d = min 9 (b / 10 ^ k / (d / 10 ^ k))
  | 0, b, d, h1, h2 => by rw [trN_small (by simp at h2; omega)]; simp [Nat.min_comm]
  | k + 1, b, d, h1, h2 => by
    have h10 : 10 ≤ d := by have : 1 ≤ 10 ^ k := Nat.pow_pos (by omega); rw [Nat.pow_succ] at h1; omega
    rw [trN_big (by omega), trN_pow k (b / 10) (d / 10) (by rw [Nat.pow_succ] at h1; omega) (by rw [Nat.pow_succ] at h2; omega)]
    rw [Nat.div_div_eq_div_mul b, Nat.div_div_eq_div_mul d, Nat.mul_comm 10, ← Nat.pow_succ]
theorem dgL_len_eq : ∀ (k d : Nat), 10 ^ k ≤ d → d < 10 ^ (k + 1) → (dgL d).length = k + 1
  | 0, d, h1, h2 => by
    have h0 : 0 < d := by simp at h1; omega
    rw [dgL_pos h0, show d / 10 = 0 by simp at h2; omega, dgL_zero]; rfl
  | k + 1, d, h1, h2 => by
    have h10 : 10 ≤ d := by have : 1 ≤ 10 ^ k := Nat.pow_pos (by omega); rw [Nat.pow_succ] at h1; omega
    rw [dgL_pos (by omega), List.length_append, dgL_len_eq k (d / 10) (by rw [Nat.pow_succ] at h1; omega) (by rw [Nat.pow_succ] at h2; omega)]; rfl
theorem has_pow (d : Nat) (h : 1 ≤ d ∧ d ≤ 9999) : ∃ k, k ≤ 3 ∧ 10 ^ k ≤ d ∧ d < 10 ^ (k + 1) := by
  by_cases h1 : d < 10
  · exact ⟨0, by omega, by omega, by omega⟩
  by_cases h2 : d < 100
  · exact ⟨1, by omega, by omega, by omega⟩
  by_cases h3 : d < 1000
  · exact ⟨2, by omega, by omega, by omega⟩
  · exact ⟨3, by omega, by omega, by omega⟩
theorem trN_le (b : Nat) : ∀ d : Nat, trN b d ≤ 9 := by
  intro d
  induction d using Nat.strongRecOn generalizing b with
  | ind d ih =>
    by_cases h : 9 < d
    · rw [trN_big h]; exact ih _ (by omega) _
    · rw [trN_small h]; omega
theorem trN_ge : ∀ d b : Nat, 1 ≤ d → min (b / d) 9 ≤ trN b d := by
  intro d
  induction d using Nat.strongRecOn with
  | ind d ih =>
    intro b hd
    by_cases h : 9 < d
    · rw [trN_big h]
      have h1 := ih (d / 10) (by omega) (b / 10) (by omega)
      have h2 : b / d ≤ b / 10 / (d / 10) := by
        rw [Nat.le_div_iff_mul_le (by omega), Nat.le_div_iff_mul_le (by omega), Nat.mul_assoc]
        have h3 : d / 10 * 10 ≤ d := Nat.div_mul_le_self d 10
        exact Nat.le_trans (Nat.mul_le_mul_left _ h3) (Nat.div_mul_le_self b d)
      omega
    · rw [trN_small h]; omega
/-- The trial digit of a step. -/
def trI (d : Nat) (t : Tr) : Int := (trN t.i.toNat d : Int)
theorem trI_bd (d : Nat) (t : Tr) : 0 ≤ trI d t ∧ trI d t ≤ 9 := by have := trN_le t.i.toNat d; unfold trI; omega
theorem trI_ge {d : Nat} (hd : 1 ≤ d) {t : Tr} (h : stOk (d : Int) t) : t.k ≤ trI d t := by
  have h1 := trN_ge d t.i.toNat hd
  obtain ⟨⟨h2, _⟩, ⟨h3, h4⟩, _, h5, _⟩ := h
  have h6 : t.k = ((t.i.toNat / d : Nat) : Int) := by rw [h5, Int.natCast_ediv, Int.toNat_of_nonneg h2]
  unfold trI; omega
def tsL (d : Nat) (l : List Tr) : List Int := l.map (trI d)
theorem tsL_len (d : Nat) (l : List Tr) : (tsL d l).length = l.length := by simp [tsL]
theorem tsL_app (d : Nat) (l : List Tr) (t : Tr) : tsL d (l ++ [t]) = tsL d l ++ [trI d t] := by simp [tsL]
theorem tsL_at (d : Nat) (l : List Tr) (k : Nat) (h : k < l.length) : (tsL d l)[k]'(by rw [tsL_len]; exact h) = trI d l[k] := by simp [tsL]
/-- The sum of the corrections. -/
def crL (d : Nat) (l : List Tr) : Int := (l.map fun t => trI d t - t.k).sum
theorem crL_nil (d : Nat) : crL d [] = 0 := rfl
theorem crL_snoc (d : Nat) (l : List Tr) (t : Tr) : crL d (l ++ [t]) = crL d l + (trI d t - t.k) := by simp [crL]
theorem crL_bd {d : Nat} (hd : 1 ≤ d) : ∀ l : List Tr, (∀ t ∈ l, stOk (d : Int) t) → 0 ≤ crL d l ∧ crL d l ≤ 9 * l.length
  | [], _ => by simp [crL]
  | t :: l, h => by
    have ih := crL_bd hd l (fun x hx => h x (List.mem_cons_of_mem _ hx))
    have h1 := trI_bd d t
    have h2 := trI_ge hd (h t List.mem_cons_self)
    have h3 := (h t List.mem_cons_self).2.1
    have e : crL d (t :: l) = (trI d t - t.k) + crL d l := by simp [crL]
    rw [e, List.length_cons]; omega

/-- The rests behind the point. -/
def rsD (d r : Int) (k : Nat) : Int := rsL d r (List.replicate k 0)
def dcL (d r : Int) (k : Nat) : List Int := (stL d r (List.replicate k 0)).map (·.k)
theorem rsD_zero (d r : Int) : rsD d r 0 = r := rfl
theorem rsD_succ (d r : Int) (k : Nat) : rsD d r (k + 1) = 10 * rsD d r k % d := by unfold rsD; rw [List.replicate_succ', rsL_snoc, Int.add_zero]
theorem rsD_bd {d : Int} (hd : 1 ≤ d) {r : Int} (hr : 0 ≤ r ∧ r < d) (k : Nat) : 0 ≤ rsD d r k ∧ rsD d r k < d := rsL_bd hd _ r hr
theorem dcL_len (d r : Int) (k : Nat) : (dcL d r k).length = k := by unfold dcL; rw [List.length_map, stL_len, List.length_replicate]
theorem dcL_succ (d r : Int) (k : Nat) : dcL d r (k + 1) = dcL d r k ++ [10 * rsD d r k / d] := by
  unfold dcL rsD; rw [List.replicate_succ', stL_snoc, List.map_append]; simp [mkS]
theorem dcL_at (d r : Int) : ∀ (n k : Nat) (h : k < n), (dcL d r n)[k]'(by rw [dcL_len]; exact h) = 10 * rsD d r k / d
  | n + 1, k, h => by
    by_cases hk : k < n
    · have := dcL_at d r n k hk
      have e : (dcL d r (n + 1))[k]? = (dcL d r n)[k]? := by rw [dcL_succ, List.getElem?_append_left (by rw [dcL_len]; exact hk)]
      rw [List.getElem?_eq_getElem (by rw [dcL_len]; exact h), List.getElem?_eq_getElem (by rw [dcL_len]; exact hk), this] at e
      injection e
    · obtain rfl : k = n := by omega
      have e : (dcL d r (k + 1))[k]? = some (10 * rsD d r k / d) := by rw [dcL_succ, List.getElem?_append_right (by rw [dcL_len]; exact Nat.le_refl _), dcL_len, Nat.sub_self]; rfl
      rw [List.getElem?_eq_getElem (by rw [dcL_len]; exact h)] at e
      injection e
theorem rsD_add (d r : Int) (i j : Nat) (h : rsD d r i = rsD d r j) : ∀ m, rsD d r (i + m) = rsD d r (j + m)
  | 0 => h
  | m + 1 => by rw [← Nat.add_assoc, ← Nat.add_assoc, rsD_succ, rsD_succ, rsD_add d r i j h m]

/-- The first place at which a value comes again. -/
def fstR (R : Nat → Int) (b p : Nat) : Prop := b < p ∧ R b = R p ∧ ∀ i j, i < j → j < p → R i ≠ R j
theorem nodup_lt : ∀ (n : Nat) (l : List Nat), l.Nodup → (∀ x ∈ l, x < n) → l.length ≤ n
  | 0, l, _, h => by
    cases l with
    | nil => simp
    | cons x t => exact absurd (h x List.mem_cons_self) (by omega)
  | n + 1, l, hd, h => by
    have h1 := nodup_lt n (l.erase n) (hd.erase n) (fun x hx => by
      have h2 := (hd.mem_erase_iff).1 hx
      have := h x h2.2
      have := h2.1
      omega)
    have h3 := List.length_erase (a := n) (l := l)
    split at h3 <;> omega
theorem rep_or (R : Nat → Int) : ∀ n, (∀ i j, i < j → j < n → R i ≠ R j) ∨ ∃ b p, fstR R b p
  | 0 => .inl (fun i j _ h => by omega)
  | n + 1 => by
    rcases rep_or R n with h | h
    · by_cases hb : ∃ b, b < n ∧ R b = R n
      · obtain ⟨b, h1, h2⟩ := hb
        exact .inr ⟨b, n, h1, h2, h⟩
      · refine .inl fun i j hi hj e => ?_
        by_cases hj' : j = n
        · subst hj'; exact hb ⟨i, hi, e⟩
        · exact h i j hi (by omega) e
    · exact .inr h
theorem dist_le {R : Nat → Int} {D : Nat} (hR : ∀ i, 0 ≤ R i ∧ R i < (D : Int)) {n : Nat} (h : ∀ i j, i < j → j < n → R i ≠ R j) : n ≤ D := by
  have := nodup_lt D ((List.range n).map fun i => (R i).toNat) (by
    rw [List.nodup_iff_pairwise_ne, List.pairwise_map]
    refine (List.pairwise_lt_range (n := n)).imp_of_mem ?_
    intro a b ha hb hab
    have hb' := List.mem_range.1 hb
    have := h a b hab hb'
    have := hR a; have := hR b
    intro e; omega) (fun x hx => by
    obtain ⟨i, _, rfl⟩ := List.mem_map.1 hx
    have := hR i; omega)
  simpa using this
theorem fst_ex {R : Nat → Int} {D : Nat} (hR : ∀ i, 0 ≤ R i ∧ R i < (D : Int)) : ∃ b p, fstR R b p ∧ p ≤ D := by
  rcases rep_or R (D + 1) with h | ⟨b, p, h⟩
  · have := dist_le hR h; omega
  · exact ⟨b, p, h, dist_le hR h.2.2⟩
end Go.Proofs.Ytlfplnbmgmookaa
