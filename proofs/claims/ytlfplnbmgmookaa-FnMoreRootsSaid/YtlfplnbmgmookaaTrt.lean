/- Square roots: digits to a base, root steps, whole roots, third roots. -/
import Derived.Test.YtlfplnbmgmookaaTdv
namespace Go.Proofs.Ytlfplnbmgmookaa
set_option linter.unusedVariables false
open Go.RowKit

/-- The digits of a number to a base, from the left. -/
def dgB (b n : Nat) : List Int := if h : n = 0 ∨ b < 2 then [] else dgB b (n / b) ++ [((n % b : Nat) : Int)]
termination_by n
decreasing_by exact Nat.div_lt_self (by omega) (by omega)
theorem dgB_zero (b : Nat) : dgB b 0 = [] := by rw [dgB]; simp
theorem dgB_pos {b n : Nat} (hb : 2 ≤ b) (h : 0 < n) : dgB b n = dgB b (n / b) ++ [((n % b : Nat) : Int)] := by rw [dgB, dif_neg (by omega)]
theorem dgB_ten (n : Nat) : dgB 10 n = dgL n := by
  induction n using Nat.strongRecOn with
  | ind n ih =>
    by_cases h : n = 0
    · subst h; rw [dgB_zero, dgL_zero]
    · rw [dgB_pos (by omega) (by omega), dgL_pos (by omega), ih _ (by omega)]
theorem dgB_bd {b : Nat} (hb : 2 ≤ b) (n : Nat) : ∀ d ∈ dgB b n, 0 ≤ d ∧ d < (b : Int) := by
  induction n using Nat.strongRecOn with
  | ind n ih =>
    intro d hd
    by_cases h : n = 0
    · subst h; rw [dgB_zero] at hd; cases hd
    · rw [dgB_pos hb (by omega)] at hd
      rcases List.mem_append.1 hd with hd | hd
      · exact ih _ (Nat.div_lt_self (by omega) (by omega)) d hd
      · have := Nat.mod_lt n (show b > 0 by omega)
        rw [List.mem_singleton.1 hd]; omega
theorem dgB_len {b : Nat} (hb : 2 ≤ b) : ∀ (k n : Nat), n < b ^ k → (dgB b n).length ≤ k
  | 0, n, h => by rw [show n = 0 by simpa using h, dgB_zero]; simp
  | k + 1, n, h => by
    by_cases h0 : n = 0
    · subst h0; rw [dgB_zero]; simp
    · rw [dgB_pos hb (by omega), List.length_append]
      have := dgB_len hb k (n / b) (Nat.div_lt_of_lt_mul (by rw [Nat.pow_succ, Nat.mul_comm] at h; exact h))
      simp; omega
/-- The value of digits to the base 100. -/
def vlH (l : List Int) : Int := l.foldl (fun v x => 100 * v + x) 0
theorem vlH_snoc (l : List Int) (x : Int) : vlH (l ++ [x]) = 100 * vlH l + x := by simp [vlH]
theorem vlH_dgB (n : Nat) : vlH (dgB 100 n) = (n : Int) := by
  induction n using Nat.strongRecOn with
  | ind n ih =>
    by_cases h : n = 0
    · subst h; rw [dgB_zero]; rfl
    · rw [dgB_pos (by omega) (by omega), vlH_snoc, ih _ (by omega)]; omega

/-- The greatest digit up to one that fits. -/
def dgF (t n : Int) : Nat → Nat
  | 0 => 0
  | d + 1 => if (20 * t + ((d : Int) + 1)) * ((d : Int) + 1) ≤ n then d + 1 else dgF t n d
def dgR (t n : Int) : Nat := dgF t n 9
theorem fit_mono {t n a b : Int} (ht : 0 ≤ t) (ha : 0 ≤ a) (hab : a ≤ b) (h : (20 * t + b) * b ≤ n) : (20 * t + a) * a ≤ n := by
  have h1 : (20 * t + a) * a ≤ (20 * t + b) * a := Int.mul_le_mul_of_nonneg_right (by omega) ha
  have h2 : (20 * t + b) * a ≤ (20 * t + b) * b := Int.mul_le_mul_of_nonneg_left hab (by omega)
  omega
theorem dgF_le (t n : Int) : ∀ d, dgF t n d ≤ d
  | 0 => Nat.le_refl _
  | d + 1 => by rw [dgF]; have := dgF_le t n d; split <;> omega
theorem dgF_fit {t n : Int} (hn : 0 ≤ n) : ∀ d, (20 * t + (dgF t n d : Int)) * (dgF t n d : Int) ≤ n
  | 0 => by simp [dgF]; exact hn
  | d + 1 => by
    rw [dgF]
    split
    · rename_i h; rw [Int.natCast_add]; exact h
    · exact dgF_fit hn d
theorem dgF_max {t n : Int} : ∀ d m : Nat, m ≤ d → (20 * t + (m : Int)) * (m : Int) ≤ n → m ≤ dgF t n d
  | 0, m, h, _ => by omega
  | d + 1, m, h, hf => by
    rw [dgF]
    split
    · exact h
    · rename_i hn
      by_cases e : m = d + 1
      · subst e; rw [Int.natCast_add] at hf; exact absurd hf hn
      · exact dgF_max d m (by omega) hf
theorem dgR_le (t n : Int) : dgR t n ≤ 9 := dgF_le t n 9
theorem dgR_fit {t n : Int} (hn : 0 ≤ n) : (20 * t + (dgR t n : Int)) * (dgR t n : Int) ≤ n := dgF_fit hn 9
/-- No number above 9 fits where the rest is at most twice the root. -/
theorem dgR_iff {t n : Int} (ht : 0 ≤ t) (hn : 0 ≤ n) (hb : n ≤ 200 * t + 99) (m : Nat) : (20 * t + (m : Int)) * (m : Int) ≤ n ↔ m ≤ dgR t n := by
  constructor
  · intro h
    by_cases h9 : m ≤ 9
    · exact dgF_max 9 m h9 h
    · have := fit_mono (a := 10) ht (by omega) (show (10 : Int) ≤ (m : Int) by omega) h
      omega
  · intro h
    exact fit_mono ht (by omega) (show (m : Int) ≤ (dgR t n : Int) by omega) (dgR_fit hn)

/-- A root step: root and rest before it, and the pair. -/
def mkR (p : Int × Int) (x : Int) : Tr := ⟨100 * p.2 + x, (dgR p.1 (100 * p.2 + x) : Int), 100 * p.2 + x - (20 * p.1 + (dgR p.1 (100 * p.2 + x) : Int)) * (dgR p.1 (100 * p.2 + x) : Int)⟩
def nxR (p : Int × Int) (x : Int) : Int × Int := (10 * p.1 + (mkR p x).k, (mkR p x).v)
def rtP (l : List Int) : Int × Int := l.foldl nxR (0, 0)
theorem rtP_nil : rtP [] = (0, 0) := rfl
theorem rtP_snoc (l : List Int) (x : Int) : rtP (l ++ [x]) = nxR (rtP l) x := by simp [rtP]
theorem rtP_take (l : List Int) (k : Nat) (h : k < l.length) : rtP (l.take (k + 1)) = nxR (rtP (l.take k)) l[k] := by rw [takeS l k h, rtP_snoc]
def rtG : Int × Int → List Int → List Tr
  | _, [] => []
  | p, x :: l => mkR p x :: rtG (nxR p x) l
def rtS (l : List Int) : List Tr := rtG (0, 0) l
theorem rtG_len : ∀ (p : Int × Int) (l : List Int), (rtG p l).length = l.length
  | _, [] => rfl
  | p, x :: l => by rw [rtG, List.length_cons, List.length_cons, rtG_len]
theorem rtS_len (l : List Int) : (rtS l).length = l.length := rtG_len _ l
theorem rtG_snoc : ∀ (p : Int × Int) (l : List Int) (x : Int), rtG p (l ++ [x]) = rtG p l ++ [mkR (l.foldl nxR p) x]
  | _, [], _ => rfl
  | p, y :: l, x => by rw [List.cons_append, rtG, rtG, rtG_snoc, List.cons_append]; rfl
theorem rtS_snoc (l : List Int) (x : Int) : rtS (l ++ [x]) = rtS l ++ [mkR (rtP l) x] := rtG_snoc _ l x
theorem rtS_take (l : List Int) (k : Nat) (h : k < l.length) : rtS (l.take (k + 1)) = rtS (l.take k) ++ [mkR (rtP (l.take k)) l[k]] := by rw [takeS l k h, rtS_snoc]
theorem rtG_split : ∀ (p : Int × Int) (a b : List Int), rtG p (a ++ b) = rtG p a ++ rtG (a.foldl nxR p) b
  | _, [], _ => rfl
  | p, x :: a, b => by rw [List.cons_append, rtG, rtG, rtG_split, List.foldl_cons, List.cons_append]
theorem rtS_at (l : List Int) (k : Nat) (h : k < l.length) : (rtS l)[k]'(by rw [rtS_len]; exact h) = mkR (rtP (l.take k)) l[k] := by
  have e : rtS l = rtS (l.take k) ++ rtG (rtP (l.take k)) (l.drop k) := by
    show rtG _ l = rtG _ _ ++ _
    rw [rtP, ← rtG_split, List.take_append_drop]
  have hl : (rtS (l.take k)).length = k := by rw [rtS_len, List.length_take]; omega
  have : (rtS l)[k]? = some (mkR (rtP (l.take k)) l[k]) := by
    rw [e, List.getElem?_append_right (by omega), hl, Nat.sub_self, List.drop_eq_getElem_cons h, rtG]; rfl
  rw [List.getElem?_eq_getElem (by rw [rtS_len]; exact h)] at this
  injection this

/-- A rest is at most twice its root. -/
def okR (p : Int × Int) : Prop := 0 ≤ p.1 ∧ 0 ≤ p.2 ∧ p.2 ≤ 2 * p.1
def vlR (p : Int × Int) : Int := p.1 * p.1 + p.2
theorem okR_step {p : Int × Int} {x : Int} (h : okR p) (hx : 0 ≤ x ∧ x ≤ 99) : okR (nxR p x) ∧ vlR (nxR p x) = 100 * vlR p + x := by
  obtain ⟨t, r⟩ := p
  obtain ⟨h1, h2, h3⟩ := h
  dsimp only at h1 h2 h3
  have hn : 0 ≤ 100 * r + x := by omega
  have hf := dgR_fit (t := t) hn
  have hi := dgR_iff h1 hn (by omega) (dgR t (100 * r + x) + 1)
  simp only [okR, vlR, nxR, mkR]
  generalize hd : dgR t (100 * r + x) = d at hf hi ⊢
  have hg : 100 * r + x < (20 * t + ((d : Int) + 1)) * ((d : Int) + 1) := by
    rw [Int.natCast_add] at hi
    have := mt hi.1 (by omega)
    exact Int.not_le.1 this
  have e1 : (20 * t + ((d : Int) + 1)) * ((d : Int) + 1) = (20 * t + (d : Int)) * (d : Int) + (20 * t + 2 * (d : Int) + 1) := by grind
  have e2 : (10 * t + (d : Int)) * (10 * t + (d : Int)) = 100 * (t * t) + (20 * t + (d : Int)) * (d : Int) := by grind
  rw [e1] at hg
  rw [e2]
  generalize (20 * t + (d : Int)) * (d : Int) = P at hf hg ⊢
  generalize t * t = S
  refine ⟨⟨by omega, by omega, by omega⟩, by omega⟩
theorem okR_list : ∀ (k : Nat) (l : List Int), l.length = k → (∀ x ∈ l, 0 ≤ x ∧ x ≤ 99) → okR (rtP l) ∧ vlR (rtP l) = vlH l ∧ (rtP l).1 < 10 ^ k
  | 0, l, hl, _ => by rw [List.length_eq_zero_iff.1 hl]; exact ⟨⟨by decide, by decide, by decide⟩, rfl, by decide⟩
  | k + 1, l, hl, hx => by
    obtain ⟨a, x, rfl⟩ := listS l (by intro h; rw [h] at hl; simp at hl)
    obtain ⟨i1, i2, i3⟩ := okR_list k a (by rw [List.length_append] at hl; simpa using hl) (fun y hy => hx y (List.mem_append.2 (.inl hy)))
    have hs := okR_step i1 (hx x (by simp))
    rw [rtP_snoc, vlH_snoc, ← i2]
    refine ⟨hs.1, hs.2, ?_⟩
    have := dgR_le (rtP a).1 (100 * (rtP a).2 + x)
    simp only [nxR, mkR, Int.pow_succ]
    omega
/-- The whole root of a number. -/
def isRt (n r : Nat) : Prop := r * r ≤ n ∧ n < (r + 1) * (r + 1)
theorem isRt_ex : ∀ n, ∃ r, isRt n r
  | 0 => ⟨0, by decide, by decide⟩
  | n + 1 => by
    obtain ⟨r, h1, h2⟩ := isRt_ex n
    by_cases h : n + 1 < (r + 1) * (r + 1)
    · exact ⟨r, by omega, h⟩
    · refine ⟨r + 1, by omega, ?_⟩
      have : (r + 1 + 1) * (r + 1 + 1) = (r + 1) * (r + 1) + 2 * r + 3 := by grind
      omega
theorem sq_le {a b : Nat} (h : a ≤ b) : a * a ≤ b * b := Nat.mul_le_mul h h
theorem isRt_iff {n r : Nat} (h : isRt n r) (m : Nat) : m * m ≤ n ↔ m ≤ r := by
  constructor
  · intro hm
    rcases Nat.lt_or_ge r m with h' | h'
    · have := sq_le (show r + 1 ≤ m from h'); have := h.2; omega
    · exact h'
  · intro hm; exact Nat.le_trans (sq_le hm) h.1
theorem isRt_le {n r k : Nat} (h : isRt n r) (hk : n < k * k) : r < k := by
  rcases Nat.lt_or_ge r k with h' | h'
  · exact h'
  · have := sq_le h'; have := h.1; omega
/-- The whole root, found from above. -/
def rtF (n : Nat) : Nat → Nat
  | 0 => 0
  | k + 1 => if (k + 1) * (k + 1) ≤ n then k + 1 else rtF n k
def rt (n : Nat) : Nat := rtF n n
theorem rtF_fit (n : Nat) : ∀ k, rtF n k * rtF n k ≤ n
  | 0 => Nat.zero_le _
  | k + 1 => by
    rw [rtF]; split
    · assumption
    · exact rtF_fit n k
theorem rtF_max (n : Nat) : ∀ k m : Nat, m ≤ k → m * m ≤ n → m ≤ rtF n k
  | 0, m, h, _ => by omega
  | k + 1, m, h, hf => by
    rw [rtF]; split
    · exact h
    · rename_i hn
      by_cases e : m = k + 1
      · subst e; exact absurd hf hn
      · exact rtF_max n k m (by omega) hf
theorem isRt_rt (n : Nat) : isRt n (rt n) := by
  refine ⟨rtF_fit n n, ?_⟩
  rcases Nat.lt_or_ge n ((rt n + 1) * (rt n + 1)) with h | h
  · exact h
  · have h1 : rt n + 1 ≤ n := Nat.le_trans (Nat.le_mul_of_pos_left _ (by omega)) h
    have := rtF_max n n (rt n + 1) h1 h
    unfold rt at this; omega
/-- The pairs whose squares have a sum, with a first number below k. -/
def sq2 (n : Nat) : Nat → List (Int × Int)
  | 0 => []
  | k + 1 => sq2 n k ++ if rt (n - k * k) * rt (n - k * k) = n - k * k then [((k : Int), (rt (n - k * k) : Int))] else []
theorem sq2_len (n : Nat) : ∀ k, (sq2 n k).length ≤ k
  | 0 => Nat.le_refl _
  | k + 1 => by rw [sq2, List.length_append]; have := sq2_len n k; split <;> simp <;> omega
theorem sq2_mem (n : Nat) : ∀ k, (∀ j, j < k → 2 * (j * j) ≤ n) → ∀ x ∈ sq2 n k, (0 ≤ x.1 ∧ x.1 ≤ x.2) ∧ x.1 * x.1 + x.2 * x.2 = (n : Int)
  | 0, _, x, h => by cases h
  | k + 1, hj, x, h => by
    rw [sq2] at h
    rcases List.mem_append.1 h with h | h
    · exact sq2_mem n k (fun j hj' => hj j (by omega)) x h
    · split at h
      · rename_i he
        obtain rfl := List.mem_singleton.1 h
        have h1 := hj k (by omega)
        have h2 := (isRt_iff (isRt_rt (n - k * k)) k).1 (by omega)
        dsimp only
        refine ⟨⟨by omega, by omega⟩, ?_⟩
        rw [← Int.natCast_mul, ← Int.natCast_mul, he]
        omega
      · cases h
theorem rtP_root {n r : Nat} (h : isRt n r) : rtP (dgB 100 n) = ((r : Int), (n : Int) - (r : Int) * (r : Int)) := by
  obtain ⟨h1, h2, _⟩ := okR_list _ (dgB 100 n) rfl (fun x hx => by have := dgB_bd (b := 100) (by omega) n x hx; omega)
  rw [vlH_dgB] at h2
  obtain ⟨⟨a1, a2, a3⟩, e⟩ : okR (rtP (dgB 100 n)) ∧ vlR (rtP (dgB 100 n)) = (n : Int) := ⟨h1, h2⟩
  generalize rtP (dgB 100 n) = p at a1 a2 a3 e ⊢
  obtain ⟨t, s⟩ := p
  simp only [vlR] at e a1 a2 a3
  obtain ⟨T, rfl⟩ := Int.eq_ofNat_of_zero_le a1
  have h3 : isRt n T := by
    constructor
    · have : ((T * T : Nat) : Int) ≤ (n : Int) := by rw [Int.natCast_mul]; omega
      omega
    · have : (n : Int) < (((T + 1) * (T + 1) : Nat) : Int) := by
        have e2 : (((T + 1) * (T + 1) : Nat) : Int) = (T : Int) * (T : Int) + 2 * (T : Int) + 1 := by rw [Int.natCast_mul, Int.natCast_add]; grind
        omega
      omega
  have h4 : T = r := Nat.le_antisymm ((isRt_iff h T).1 h3.1) ((isRt_iff h3 r).1 h.1)
  subst h4
  exact Prod.ext rfl (by dsimp only; omega)

/-- The third root of a number. -/
def isCb (n r : Nat) : Prop := r * r * r ≤ n ∧ n < (r + 1) * (r + 1) * (r + 1)
theorem cb_le {a b : Nat} (h : a ≤ b) : a * a * a ≤ b * b * b := Nat.mul_le_mul (Nat.mul_le_mul h h) h
theorem cb_lt {a b : Nat} (h : a < b) : a * a * a < b * b * b := by
  have h1 := cb_le (show a + 1 ≤ b from h)
  have h2 : (a + 1) * (a + 1) * (a + 1) = a * a * a + 3 * (a * a) + 3 * a + 1 := by grind
  omega
theorem isCb_ex : ∀ n, ∃ r, isCb n r
  | 0 => ⟨0, by decide, by decide⟩
  | n + 1 => by
    obtain ⟨r, h1, h2⟩ := isCb_ex n
    by_cases h : n + 1 < (r + 1) * (r + 1) * (r + 1)
    · exact ⟨r, by omega, h⟩
    · refine ⟨r + 1, by omega, ?_⟩
      have := cb_lt (show r + 1 < r + 1 + 1 by omega)
      omega
theorem isCb_iff {n r : Nat} (h : isCb n r) (m : Nat) : m * m * m ≤ n ↔ m ≤ r := by
  constructor
  · intro hm
    rcases Nat.lt_or_ge r m with h' | h'
    · have := cb_le (show r + 1 ≤ m from h'); have := h.2; omega
    · exact h'
  · intro hm; exact Nat.le_trans (cb_le hm) h.1
theorem isCb_lt {n r k : Nat} (h : isCb n r) (hk : n < k * k * k) : r < k := by
  rcases Nat.lt_or_ge r k with h' | h'
  · exact h'
  · have := cb_le h'; have := h.1; omega

/-- A search bit by bit. -/
theorem bit_head {G b : Nat} (h : G < 2 ^ b) : G / 2 ^ b * 2 ^ b = 0 := by rw [Nat.div_eq_of_lt h, Nat.zero_mul]
theorem bit_or (q b : Nat) : q * 2 ^ (b + 1) ||| 2 ^ b = q * 2 ^ (b + 1) + 2 ^ b := by
  rw [Nat.mul_comm]
  exact (Nat.two_pow_add_eq_or_of_lt (Nat.pow_lt_pow_right (by omega) (by omega)) q).symm
theorem bit_yes {G b : Nat} (h : G / 2 ^ (b + 1) * 2 ^ (b + 1) + 2 ^ b ≤ G) : G / 2 ^ b * 2 ^ b = G / 2 ^ (b + 1) * 2 ^ (b + 1) + 2 ^ b := by
  have hp : 0 < 2 ^ b := Nat.pow_pos (by omega)
  have e : (2 : Nat) ^ (b + 1) = 2 ^ b * 2 := Nat.pow_succ 2 b
  have hm := Nat.div_add_mod G (2 ^ (b + 1))
  have hl := Nat.mod_lt G (show 2 ^ (b + 1) > 0 by omega)
  have hq : G / 2 ^ b = 2 * (G / 2 ^ (b + 1)) + 1 := by
    refine Nat.div_eq_of_lt_le ?_ ?_
    · rw [e] at h ⊢; grind
    · rw [e] at hm hl ⊢; grind
  rw [hq, e]; grind
theorem bit_no {G b : Nat} (h : ¬ G / 2 ^ (b + 1) * 2 ^ (b + 1) + 2 ^ b ≤ G) : G / 2 ^ b * 2 ^ b = G / 2 ^ (b + 1) * 2 ^ (b + 1) := by
  have hp : 0 < 2 ^ b := Nat.pow_pos (by omega)
  have e : (2 : Nat) ^ (b + 1) = 2 ^ b * 2 := Nat.pow_succ 2 b
  have hd := Nat.div_mul_le_self G (2 ^ (b + 1))
  have hq : G / 2 ^ b = 2 * (G / 2 ^ (b + 1)) := by
    refine Nat.div_eq_of_lt_le ?_ ?_
    · rw [e] at hd ⊢; grind
    · rw [e] at h ⊢; grind
  rw [hq, e]; grind
end Go.Proofs.Ytlfplnbmgmookaa
