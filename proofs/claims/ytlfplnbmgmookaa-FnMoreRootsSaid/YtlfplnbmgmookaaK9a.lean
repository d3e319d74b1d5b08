/- Parts laid as one: Tmm, Tri, Psh. -/
import Derived.Test.YtlfplnbmgmookaaKa
import Derived.Test.YtlfplnbmgmookaaKb
import Derived.Laws.OwnMore
import Derived.Maps.AppendAt
import Derived.Laws.AppendOwn
import Derived.Deep.AppendLies
import Derived.Deep.RegionHeld3
/-! Tmm -/
namespace Go.Proofs.Ytlfplnbmgmookaa
set_option linter.unusedVariables false
open Go.RowKit

/-- The digits of a number from the left. -/
def dgL (n : Nat) : List Int := if h : n = 0 then [] else dgL (n / 10) ++ [((n % 10 : Nat) : Int)]
termination_by n
decreasing_by omega
theorem dgL_zero : dgL 0 = [] := by rw [dgL]; simp
theorem dgL_pos {n : Nat} (h : 0 < n) : dgL n = dgL (n / 10) ++ [((n % 10 : Nat) : Int)] := by rw [dgL, dif_neg (by omega)]
theorem dgL_bd (n : Nat) : ∀ d ∈ dgL n, 0 ≤ d ∧ d ≤ 9 := by
  induction n using Nat.strongRecOn with
  | ind n ih =>
    intro d hd
    by_cases h : n = 0
    · subst h; rw [dgL_zero] at hd; cases hd
    · rw [dgL_pos (by omega)] at hd
      rcases List.mem_append.1 hd with hd | hd
      · exact ih _ (by omega) d hd
      · rw [List.mem_singleton.1 hd]; omega
theorem dgL_len : ∀ (k n : Nat), n < 10 ^ k → (dgL n).length ≤ k
  | 0, n, h => by rw [show n = 0 by simpa using h, dgL_zero]; simp
  | k + 1, n, h => by
    by_cases h0 : n = 0
    · subst h0; rw [dgL_zero]; simp
    · rw [dgL_pos (by omega), List.length_append]
      have := dgL_len k (n / 10) (by rw [Nat.pow_succ] at h; omega)
      simp; omega
theorem dgL_len4 (n : Nat) (h : n ≤ 9999) : (dgL n).length ≤ 4 := dgL_len 4 n (by omega)
theorem dgL_at (n : Nat) (i : Nat) (h : i < (dgL n).length) : 0 ≤ (dgL n)[i] ∧ (dgL n)[i] ≤ 9 := dgL_bd n _ (List.getElem_mem h)

/-- The value of digits from the left. -/
def vlL : List Int → Int
  | [] => 0
  | d :: t => d * 10 ^ t.length + vlL t
theorem vlL_snoc (l : List Int) (d : Int) : vlL (l ++ [d]) = 10 * vlL l + d := by
  induction l with
  | nil => simp [vlL]
  | cons x t ih => 
    rw [List.cons_append, vlL, vlL, ih, List.length_append, List.length_singleton, Int.pow_succ, ← Int.mul_assoc]; omega
theorem vlL_dgL (n : Nat) : vlL (dgL n) = (n : Int) := by
  induction n using Nat.strongRecOn with
  | ind n ih =>
    by_cases h : n = 0
    · subst h; rw [dgL_zero]; rfl
    · rw [dgL_pos (by omega), vlL_snoc, ih _ (by omega)]; omega

/-- A part. -/
structure Tr where
  i : Int
  k : Int
  v : Int
def trC (t : Tr) : List Value := [.int .i64 t.i, .int .i64 t.k, .int .i64 t.v]
theorem trC_len (t : Tr) : (trC t).length = 3 := rfl
def trV (t : Tr) : Value := .agg #[.int .i64 t.i, .int .i64 t.k, .int .i64 t.v]
/-- The parts of one digit, whose place is given, with digits. -/
def rowT (I : Nat) (x : Int) : List Int → List Tr
  | [] => []
  | y :: t => (if 0 < x * y then [⟨(I : Int), (t.length : Int), x * y⟩] else []) ++ rowT I x t
def prT : List Int → List Int → List Tr
  | [], _ => []
  | x :: t, q => rowT t.length x q ++ prT t q
theorem rowT_len (I : Nat) (x : Int) : ∀ q, (rowT I x q).length ≤ q.length
  | [] => by simp [rowT]
  | y :: t => by
    rw [rowT, List.length_append, List.length_cons]
    have := rowT_len I x t
    split <;> simp <;> omega
theorem prT_len : ∀ (p q : List Int), (prT p q).length ≤ p.length * q.length
  | [], _ => by simp [prT]
  | x :: t, q => by
    rw [prT, List.length_append, List.length_cons, Nat.succ_mul]
    have := prT_len t q; have := rowT_len t.length x q; omega
theorem prT_len16 {a b : Nat} (ha : a ≤ 9999) (hb : b ≤ 9999) : (prT (dgL a) (dgL b)).length ≤ 16 := by
  have := prT_len (dgL a) (dgL b)
  have h1 := Nat.mul_le_mul (dgL_len4 a ha) (dgL_len4 b hb)
  omega
theorem rowT_drop (I : Nat) (x : Int) (q : List Int) (k : Nat) (h : k < q.length) :
    rowT I x (q.drop k) = (if 0 < x * q[k] then [⟨(I : Int), (q.length : Int) - 1 - (k : Int), x * q[k]⟩] else []) ++ rowT I x (q.drop (k + 1)) := by
  rw [List.drop_eq_getElem_cons h, rowT, List.length_drop]
  congr 2
  rw [show ((q.length - (k + 1) : Nat) : Int) = (q.length : Int) - 1 - (k : Int) by omega]
theorem prT_drop (p q : List Int) (i : Nat) (h : i < p.length) : prT (p.drop i) q = rowT (p.length - 1 - i) p[i] q ++ prT (p.drop (i + 1)) q := by
  rw [List.drop_eq_getElem_cons h, prT, List.length_drop, show p.length - (i + 1) = p.length - 1 - i by omega]
theorem prT_end (p q : List Int) (i : Nat) (h : p.length ≤ i) : prT (p.drop i) q = [] := by rw [List.drop_eq_nil_of_le h, prT]
theorem rowT_end (I : Nat) (x : Int) (q : List Int) (k : Nat) (h : q.length ≤ k) : rowT I x (q.drop k) = [] := by rw [List.drop_eq_nil_of_le h, rowT]

/-- The product of a part at its place. -/
def wT (t : Tr) : Int := t.v * 10 ^ (t.i.toNat + t.k.toNat)
/-- The sum of parts at their places. -/
def smT (l : List Tr) : Int := (l.map wT).sum
theorem smT_nil : smT [] = 0 := rfl
theorem smT_cons (t : Tr) (l : List Tr) : smT (t :: l) = wT t + smT l := by simp [smT]
theorem smT_app (a b : List Tr) : smT (a ++ b) = smT a + smT b := by
  induction a with
  | nil => simp [smT]
  | cons x t ih => rw [List.cons_append, smT_cons, smT_cons, ih]; omega
theorem smT_rowT (I : Nat) (x : Int) (hx : 0 ≤ x) : ∀ q : List Int, (∀ d ∈ q, 0 ≤ d) → smT (rowT I x q) = x * 10 ^ I * vlL q
  | [], _ => by simp [rowT, smT, vlL]
  | y :: t, hq => by
    have hy := hq y List.mem_cons_self
    have ih := smT_rowT I x hx t (fun d hd => hq d (List.mem_cons_of_mem _ hd))
    rw [rowT, smT_app, ih, vlL, Int.mul_add]
    congr 1
    split
    · rw [smT_cons, smT_nil]
      simp only [wT, Int.toNat_natCast, Int.pow_add, Int.add_zero]
      rw [Int.mul_assoc, Int.mul_assoc, Int.mul_left_comm y]
    · rename_i h
      have h0 : x * y = 0 := by have := Int.mul_nonneg hx hy; omega
      rw [smT_nil]
      rcases Int.mul_eq_zero.1 h0 with h | h <;> subst h <;> simp
theorem smT_prT : ∀ p q : List Int, (∀ d ∈ p, 0 ≤ d) → (∀ d ∈ q, 0 ≤ d) → smT (prT p q) = vlL p * vlL q
  | [], q, _, _ => by simp [prT, smT, vlL]
  | x :: t, q, hp, hq => by
    rw [prT, smT_app, smT_rowT _ _ (hp x List.mem_cons_self) q hq, smT_prT t q (fun d hd => hp d (List.mem_cons_of_mem _ hd)) hq, vlL, Int.add_mul]
/-- The parts make the product. -/
theorem smT_all (a b : Nat) : smT (prT (dgL a) (dgL b)) = (a : Int) * (b : Int) := by
  rw [smT_prT _ _ (fun d hd => (dgL_bd a d hd).1) (fun d hd => (dgL_bd b d hd).1), vlL_dgL, vlL_dgL]
/-- What a part is made of. -/
def trOk (P Q : Nat) (t : Tr) : Prop := (0 ≤ t.i ∧ t.i < P) ∧ (0 ≤ t.k ∧ t.k < Q) ∧ 0 < t.v ∧ t.v ≤ 81
theorem rowT_ok (I P : Nat) (x : Int) (hI : I < P) (hx : 0 ≤ x ∧ x ≤ 9) (Q : Nat) : ∀ q : List Int, q.length ≤ Q → (∀ d ∈ q, 0 ≤ d ∧ d ≤ 9) → ∀ t ∈ rowT I x q, trOk P Q t
  | [], _, _, t, h => by simp [rowT] at h
  | y :: r, hl, hq, t, h => by
    rw [rowT] at h
    rw [List.length_cons] at hl
    rcases List.mem_append.1 h with h | h
    · have hy := hq y List.mem_cons_self
      split at h
      · rename_i hp
        obtain rfl := List.mem_singleton.1 h
        have h81 : x * y ≤ 9 * 9 := Int.mul_le_mul hx.2 hy.2 hy.1 (by omega)
        exact ⟨⟨by simp, by simp; omega⟩, ⟨by simp, by simp; omega⟩, hp, by simpa using h81⟩
      · cases h
    · exact rowT_ok I P x hI hx Q r (by omega) (fun d hd => hq d (List.mem_cons_of_mem _ hd)) t h
theorem prT_ok (q : List Int) (hq : ∀ d ∈ q, 0 ≤ d ∧ d ≤ 9) (P : Nat) : ∀ p : List Int, p.length ≤ P → (∀ d ∈ p, 0 ≤ d ∧ d ≤ 9) → ∀ t ∈ prT p q, trOk P q.length t
  | [], _, _, t, h => by simp [prT] at h
  | x :: r, hl, hp, t, h => by
    rw [prT] at h
    rw [List.length_cons] at hl
    rcases List.mem_append.1 h with h | h
    · exact rowT_ok _ P x (by omega) (hp x List.mem_cons_self) _ q (Nat.le_refl _) hq t h
    · exact prT_ok q hq P r (by omega) (fun d hd => hp d (List.mem_cons_of_mem _ hd)) t h
theorem part_ok {a b : Nat} (ha : a ≤ 9999) (hb : b ≤ 9999) {t : Tr} (h : t ∈ prT (dgL a) (dgL b)) : trOk 4 4 t := by
  have := prT_ok (dgL b) (fun d hd => dgL_bd b d hd) 4 (dgL a) (dgL_len4 a ha) (fun d hd => dgL_bd a d hd) t h
  have h4 := dgL_len4 b hb
  obtain ⟨h1, h2, h3⟩ := this
  exact ⟨h1, ⟨h2.1, by omega⟩, h3⟩
theorem pow_le6 : ∀ n : Nat, n ≤ 6 → (1 : Int) ≤ 10 ^ n ∧ (10 : Int) ^ n ≤ 1000000
  | 0, _ => by decide
  | 1, _ => by decide
  | 2, _ => by decide
  | 3, _ => by decide
  | 4, _ => by decide
  | 5, _ => by decide
  | 6, _ => by decide
  | n + 7, h => by omega
theorem wT_bd {t : Tr} (h : trOk 4 4 t) : 0 < wT t ∧ wT t ≤ 81000000 := by
  obtain ⟨h1, h2, h3, h4⟩ := h
  have hp := pow_le6 (t.i.toNat + t.k.toNat) (by omega)
  unfold wT
  generalize (10 : Int) ^ (t.i.toNat + t.k.toNat) = z at hp
  refine ⟨Int.mul_pos h3 (by omega), ?_⟩
  have := Int.mul_le_mul h4 hp.2 (by omega) (by omega : (0 : Int) ≤ 81)
  omega
theorem smT_nonneg {l : List Tr} (h : ∀ t ∈ l, 0 < wT t) : 0 ≤ smT l := by
  induction l with
  | nil => simp [smT]
  | cons x t ih =>
    rw [smT_cons]; have := h x List.mem_cons_self; have := ih fun y hy => h y (List.mem_cons_of_mem _ hy); omega
/-- A beginning of the parts has at most the product. -/
theorem smT_pre {a b : Nat} (ha : a ≤ 9999) (hb : b ≤ 9999) {pre : List Tr} (h : pre <+: prT (dgL a) (dgL b)) : 0 ≤ smT pre ∧ smT pre ≤ (a : Int) * (b : Int) := by
  obtain ⟨r, hr⟩ := h
  have h1 : ∀ t ∈ pre ++ r, 0 < wT t := fun t ht => (wT_bd (part_ok ha hb (hr ▸ ht))).1
  have e := smT_all a b
  rw [← hr, smT_app] at e
  have p1 := smT_nonneg fun t ht => h1 t (List.mem_append_left _ ht)
  have p2 := smT_nonneg fun t ht => h1 t (List.mem_append_right _ ht)
  omega
theorem mul_top {a b : Nat} (ha : a ≤ 9999) (hb : b ≤ 9999) : (0 : Int) ≤ (a : Int) * (b : Int) ∧ (a : Int) * (b : Int) ≤ 99980001 := by
  have h1 : (a : Int) ≤ 9999 := by omega
  have h2 : (b : Int) ≤ 9999 := by omega
  have := Int.mul_le_mul h1 h2 (by omega) (by omega)
  exact ⟨Int.mul_nonneg (by omega) (by omega), by omega⟩
/-- The sums up to each part. -/
def ttL : Int → List Tr → List Int
  | _, [] => []
  | s, t :: l => (s + wT t) :: ttL (s + wT t) l
theorem ttL_len : ∀ (s : Int) (l : List Tr), (ttL s l).length = l.length
  | _, [] => rfl
  | s, t :: l => by rw [ttL, List.length_cons, List.length_cons, ttL_len]
theorem ttL_snoc : ∀ (s : Int) (l : List Tr) (t : Tr), ttL s (l ++ [t]) = ttL s l ++ [s + smT l + wT t]
  | s, [], t => by simp [ttL, smT]
  | s, x :: l, t => by rw [List.cons_append, ttL, ttL, ttL_snoc, smT_cons, List.cons_append]; congr 3; omega

/-- The pairs of doubling. -/
def dbL (a b : Nat) : List (Int × Int) := if h : a = 0 then [] else ((a : Int), (b : Int)) :: dbL (a / 2) (2 * b)
termination_by a
decreasing_by omega
theorem dbL_zero (b : Nat) : dbL 0 b = [] := by rw [dbL]; simp
theorem dbL_pos {a : Nat} (h : 0 < a) (b : Nat) : dbL a b = ((a : Int), (b : Int)) :: dbL (a / 2) (2 * b) := by rw [dbL, dif_neg (by omega)]
theorem dbL_len : ∀ (k a b : Nat), a < 2 ^ k → (dbL a b).length ≤ k
  | 0, a, b, h => by rw [show a = 0 by simpa using h, dbL_zero]; simp
  | k + 1, a, b, h => by
    by_cases h0 : a = 0
    · subst h0; rw [dbL_zero]; simp
    · rw [dbL_pos (by omega), List.length_cons]
      have := dbL_len k (a / 2) (2 * b) (by rw [Nat.pow_succ] at h; omega)
      omega
theorem dbL_len14 {a : Nat} (h : a ≤ 9999) (b : Nat) : (dbL a b).length ≤ 14 := dbL_len 14 a b (by omega)
/-- The second numbers where the first one is odd. -/
def odL : List (Int × Int) → List Int
  | [] => []
  | x :: t => (if x.1 % 2 = 1 then [x.2] else []) ++ odL t
theorem odL_app (l r : List (Int × Int)) : odL (l ++ r) = odL l ++ odL r := by
  induction l with
  | nil => rfl
  | cons x t ih => rw [List.cons_append, odL, odL, ih, List.append_assoc]
theorem odL_one (x : Int × Int) : odL [x] = if x.1 % 2 = 1 then [x.2] else [] := by simp [odL]
theorem odL_len : ∀ l : List (Int × Int), (odL l).length ≤ l.length
  | [] => by simp [odL]
  | x :: t => by rw [odL, List.length_append, List.length_cons]; have := odL_len t; split <;> simp <;> omega
theorem odL_sum : ∀ (k a b : Nat), a < 2 ^ k → (odL (dbL a b)).sum = (a : Int) * (b : Int)
  | 0, a, b, h => by rw [show a = 0 by simpa using h, dbL_zero]; simp [odL]
  | k + 1, a, b, h => by
    by_cases h0 : a = 0
    · subst h0; rw [dbL_zero]; simp [odL]
    · have ih := odL_sum k (a / 2) (2 * b) (by rw [Nat.pow_succ] at h; omega)
      rw [dbL_pos (by omega), odL, List.sum_append, ih]
      have e : (a : Int) = 2 * ((a / 2 : Nat) : Int) + ((a % 2 : Nat) : Int) := by omega
      have e2 : ((2 * b : Nat) : Int) = 2 * (b : Int) := by omega
      rw [e2]
      rcases Nat.mod_two_eq_zero_or_one a with h2 | h2
      · rw [if_neg (by simp; omega)]
        have : (a : Int) = ((a / 2 : Nat) : Int) * 2 := by omega
        rw [this, Int.mul_assoc]; simp
      · rw [if_pos (by simp; omega)]
        have : (a : Int) = ((a / 2 : Nat) : Int) * 2 + 1 := by omega
        simp only [List.sum_cons, List.sum_nil, Int.add_zero]
        rw [show (a : Int) * (b : Int) = (((a / 2 : Nat) : Int) * 2 + 1) * (b : Int) by rw [← this], Int.add_mul, Int.mul_assoc]; omega

/-- The places from k on at which two numbers have other digits, m of them looked at. -/
def wrL : Nat → Nat → Nat → Nat → List Int
  | 0, _, _, _ => []
  | m + 1, k, p, n => (if p % 10 ≠ n % 10 then [(k : Int)] else []) ++ wrL m (k + 1) (p / 10) (n / 10)
theorem wrL_same : ∀ m k p, wrL m k p p = []
  | 0, _, _ => rfl
  | m + 1, k, p => by rw [wrL, wrL_same m]; simp
theorem wrL_len : ∀ m k p n, (wrL m k p n).length ≤ m
  | 0, _, _, _ => by simp [wrL]
  | m + 1, k, p, n => by rw [wrL, List.length_append]; have := wrL_len m (k + 1) (p / 10) (n / 10); split <;> simp <;> omega
theorem wrL_nil : ∀ m k p n, p < 10 ^ m → n < 10 ^ m → (wrL m k p n = [] ↔ n = p)
  | 0, k, p, n, hp, hn => by simp [wrL] at hp hn ⊢; omega
  | m + 1, k, p, n, hp, hn => by
    rw [Nat.pow_succ] at hp hn
    have ih := wrL_nil m (k + 1) (p / 10) (n / 10) (by omega) (by omega)
    rw [wrL, List.append_eq_nil_iff, ih]
    constructor
    · rintro ⟨h1, h2⟩
      have : p % 10 = n % 10 := by
        by_cases h : p % 10 = n % 10
        · exact h
        · rw [if_pos h] at h1; cases h1
      omega
    · rintro rfl; exact ⟨by simp, rfl⟩
end Go.Proofs.Ytlfplnbmgmookaa

/-! Tri -/
namespace Go.Proofs.Ytlfplnbmgmookaa
set_option linter.unusedVariables false
open Go.RowKit

theorem Try.infoTri : (Try.prog.info? 31).map (fun i => (i.zero, i.size, i.bytes)) = some (some (.agg #[.int .i64 0, .int .i64 0, .int .i64 0]), 3, 24) := by kernel_rfl
theorem Try.infoTwo : (Try.prog.info? 47).map (fun i => (i.zero, i.size, i.bytes)) = some (some (.agg #[.int .i64 0, .int .i64 0]), 2, 16) := by kernel_rfl

set_option maxRecDepth 100000 in
set_option maxHeartbeats 800000 in
theorem eqIntA3_yes (x y z : Int) (w : World) :
    Calls Try.prog 68 #[.agg #[.int .i64 x, .int .i64 y, .int .i64 z], .agg #[.int .i64 x, .int .i64 y, .int .i64 z]] w fun e w' => e = .returned (.bool true) ∧ Below w.heap.size w w' := by
  go_enter Try.func68, Try.ntmps68
  go_wp2_with fail
  refine wp_loop_rounds 4 ?_
  rw [rounds_succ]
  go_wp2_with fail
  go_quiet (fail)
  go_wp2_with fail
  rw [rounds_succ]
  go_wp2_with fail
  go_quiet (fail)
  go_wp2_with fail
  rw [rounds_succ]
  go_wp2_with fail
  go_quiet (fail)
  go_wp2_with fail
  rw [rounds_succ]
  go_wp2_with fail
  go_ret
  exact ⟨rfl, bl_drewN (((Below.refl _ _).alloc (Nat.le_refl _) _).alloc (by simp) _) _⟩

set_option maxRecDepth 100000 in
set_option maxHeartbeats 800000 in
theorem eqIntA3S_yes (v1 v2 : Value) (ps : List Tr) (w : World) (h1 : RowsR 3 trC w v1 ps) (h2 : RowsR 3 trC w v2 ps) :
    Calls Try.prog 47 #[v1, v2] w fun e w' => e = .returned (.bool true) ∧ Below w.heap.size w w' := by
  have hm : ps.length ≤ 9223372036854775807 := by obtain ⟨_, _, _, ⟨m, _⟩, _⟩ := h1; exact m
  obtain ⟨a1, c1, rfl⟩ := h1.form
  obtain ⟨a2, c2, rfl⟩ := h2.form
  have R1 := Lib.hid h1.at
  have R2 := Lib.hid h2.at
  clear h1 h2
  go_enter Try.func47, Try.ntmps47
  go_wp2_with fail
  go_loopw [5] (fun i wr => ∃ k : Nat, k ≤ ps.length ∧ i = .int .i64 k ∧ Below w.heap.size w wr) (fun i _ => ps.length - (intOf i).toNat)
  case atStart => exact ⟨0, Nat.zero_le _, rfl, Below.refl _ _⟩
  case round =>
    obtain ⟨k, hk, rfl, hb⟩ := hrel
    by_cases hlt : k < ps.length
    · obtain ⟨b1, o1, rfl, l1, k1⟩ := R1.out _ hb k hlt
      obtain ⟨b2, o2, rfl, l2, k2⟩ := R2.out _ hb k hlt
      have p0 : wr.cell? ⟨b1, o1 + k * 3, none⟩ = some (.int .i64 ps[k].i) := k1 0 (by omega)
      have p1 : wr.cell? ⟨b1, o1 + k * 3 + 1, none⟩ = some (.int .i64 ps[k].k) := k1 1 (by omega)
      have p2 : wr.cell? ⟨b1, o1 + k * 3 + 2, none⟩ = some (.int .i64 ps[k].v) := k1 2 (by omega)
      have q0 : wr.cell? ⟨b2, o2 + k * 3, none⟩ = some (.int .i64 ps[k].i) := k2 0 (by omega)
      have q1 : wr.cell? ⟨b2, o2 + k * 3 + 1, none⟩ = some (.int .i64 ps[k].k) := k2 1 (by omega)
      have q2 : wr.cell? ⟨b2, o2 + k * 3 + 2, none⟩ = some (.int .i64 ps[k].v) := k2 2 (by omega)
      clear k1 k2
      have z1 : (0 : Int) ≤ (k : Int) := by omega
      have z2 : (k : Int) < (ps.length : Int) := by omega
      go_wp2_with fail
      go_still_tail 8, (by kernel_rfl)
      change wpList _ _ _ _ _ wr.drew
      have hb2 := hb.drew
      generalize wr.drew = w2 at hb2 ⊢
      clear p0 p1 p2 q0 q1 q2 hb
      go_wp2_with fail
      refine (eqIntA3_yes ps[k].i ps[k].k ps[k].v _).mono ?_
      rintro e w3 ⟨rfl, hb3⟩
      go_wp2_with fail
      go_roundw
      case rel => exact ⟨k + 1, by omega, by go_num, hb2.trans (hb3.mono hb2.size)⟩
      case measure => simp [intOf]; omega
    · go_wp2_with fail
      go_ret
      exact ⟨rfl, hb⟩

set_option maxRecDepth 100000 in
set_option maxHeartbeats 1600000 in
theorem markIntA3S_any (v : Value) (n : Nat) (k : Int) (lo hi : Nat) (e : TypeId) (xs : List Value) (w : World) (h : Ow lo hi w e 3 v n xs) (hn : n ≤ 1048576) (hk : 0 ≤ k ∧ k ≤ 4194304) :
    Calls Try.prog 48 #[v, .int .i64 k] w fun en w' => en = .returned (.int .i64 (k + 3 * n)) ∧ Ow lo hi w' e 3 v n (marksV k (n * 3)) ∧ Btw lo hi w w' := by
  obtain ⟨hk0, hk1⟩ := hk
  have h' := h
  rcases h.1.2 with ⟨rfl, h0⟩ | ⟨g, cap, cur, rfl, hb, hg, hnc, hc, hsz, ht⟩
  · subst h0
    go_enter Try.func48, Try.ntmps48
    go_wp2_with fail
    go_loopw [5, 1] (fun i kk wr => i = .int .i64 0 ∧ kk = .int .i64 k ∧ wr = w) (fun i _ _ => 0)
    case atStart => exact ⟨rfl, rfl, rfl⟩
    case round =>
      obtain ⟨rfl, rfl, rfl⟩ := hrel
      go_wp2_with fail
      go_ret
      have e0 : xs = [] := List.length_eq_zero_iff.1 (by simpa using h'.1.1)
      subst e0
      exact ⟨by simp, h', Btw.refl _ _ _⟩
  · have HO := Lib.hid h'
    have HX := Lib.hid h'.1.1
    have HG : Hid (lo ≤ g ∧ g < hi) := Lib.hid ⟨hb, h'.2 g rfl⟩
    clear h h' hb hg hnc hc hsz ht
    go_enter Try.func48, Try.ntmps48
    go_wp2_with fail
    go_loopw [5, 1] (fun i kk wr => ∃ (m : Nat) (ys : List Value), m ≤ n ∧ i = .int .i64 m ∧ kk = .int .i64 (k + 3 * (m : Int)) ∧ ys.length = n * 3 ∧ (∀ j, j < 3 * m → ys[j]? = some (.int .i64 (k + (j : Int)))) ∧ Ow lo hi wr e 3 (.slice (some ⟨g, 0, none⟩) n cap) n ys ∧ Btw lo hi w wr) (fun i _ _ => n - (intOf i).toNat)
    case atStart => exact ⟨0, xs, Nat.zero_le _, rfl, by simp, HX.out, fun j hj => absurd hj (by omega), HO.out, Btw.refl _ _ _⟩
    case round =>
      obtain ⟨m, ys, hm, rfl, rfl, hyl, hpre, how, hbt⟩ := hrel
      have HW := Lib.hid how
      have HB := Lib.hid hbt
      have HP := Lib.hid hpre
      have HL := Lib.hid hyl
      by_cases hlt : m < n
      · obtain ⟨u0, c0⟩ : ∃ u, wr.cell? ⟨g, m * 3, none⟩ = some u := ⟨_, (how.1.cellAt (m * 3) (by omega)).trans (List.getElem?_eq_getElem (by omega))⟩
        obtain ⟨u1, c1⟩ : ∃ u, wr.cell? ⟨g, m * 3 + 1, none⟩ = some u := ⟨_, (how.1.cellAt (m * 3 + 1) (by omega)).trans (List.getElem?_eq_getElem (by omega))⟩
        obtain ⟨u2, c2⟩ : ∃ u, wr.cell? ⟨g, m * 3 + 2, none⟩ = some u := ⟨_, (how.1.cellAt (m * 3 + 2) (by omega)).trans (List.getElem?_eq_getElem (by omega))⟩
        have f0 : wr.frozen? ⟨g, m * 3, none⟩ = false := how.1.frozenAt _
        have f1 : wr.frozen? ⟨g, m * 3 + 1, none⟩ = false := how.1.frozenAt _
        have f2 : wr.frozen? ⟨g, m * 3 + 2, none⟩ = false := how.1.frozenAt _
        clear how hbt hpre hyl
        go_wp2_with fail
        refine wp_loop_rounds 4 ?_
        rw [rounds_succ]
        go_wp2_with fail
        rw [rounds_succ]
        go_wp2_with fail
        rw [rounds_succ]
        go_wp2_with fail
        rw [rounds_succ]
        go_wp2_with fail
        refine ⟨⟨m + 1, ((ys.set (m * 3) (.int .i64 (k + 3 * m))).set (m * 3 + 1) (.int .i64 (k + 3 * m + 1))).set (m * 3 + 2) (.int .i64 (k + 3 * m + 1 + 1)), by omega, by simp, by congr 1; omega, by rw [List.length_set, List.length_set, List.length_set]; exact HL.out, fun j hj => ?_, ((HW.out.stored _ _).stored _ _).stored _ _, ((HB.out.setCell HG.out.1 HG.out.2 _).setCell HG.out.1 HG.out.2 _).setCell HG.out.1 HG.out.2 _⟩, by simp [intOf]; omega⟩
        have hl := HL.out
        by_cases e2 : j = m * 3 + 2
        · subst e2
          rw [List.getElem?_set_self (by rw [List.length_set, List.length_set]; omega)]
          congr 2; omega
        · by_cases e1 : j = m * 3 + 1
          · subst e1
            rw [List.getElem?_set_ne (by omega), List.getElem?_set_self (by rw [List.length_set]; omega)]
            congr 2; omega
          · by_cases e0 : j = m * 3
            · subst e0
              rw [List.getElem?_set_ne (by omega), List.getElem?_set_ne (by omega), List.getElem?_set_self (by omega)]
              congr 2; omega
            · rw [List.getElem?_set_ne (by omega), List.getElem?_set_ne (by omega), List.getElem?_set_ne (by omega)]
              exact HP.out j (by omega)
      · have hmn : m = n := by omega
        subst hmn
        have hz := marksV_eq k (m * 3) ys hyl (fun j hj => hpre j (by omega))
        clear how hbt hpre hyl
        go_wp2_with fail
        go_ret
        exact ⟨rfl, hz ▸ HW.out, HB.out⟩

set_option maxRecDepth 100000 in
set_option maxHeartbeats 1600000 in
theorem heldIntA3S_any (v : Value) (n : Nat) (k : Int) (w : World) (h : RowR w v 3 n (marksV k (n * 3))) (hn : n ≤ 1048576) (hk : 0 ≤ k ∧ k ≤ 4194304) :
    Calls Try.prog 49 #[v, .int .i64 k] w fun en w' => en = .returned (.int .i64 (k + 3 * n)) ∧ Below w.heap.size w w' := by
  obtain ⟨hk0, hk1⟩ := hk
  obtain ⟨a, cap, rfl, ⟨m1, _⟩, r1⟩ := h
  unfold maxLen at m1
  have HR := Lib.hid r1
  clear r1
  go_enter Try.func49, Try.ntmps49
  go_wp2_with fail
  go_loopw [5, 1] (fun i kk wr => ∃ (m : Nat), m ≤ n ∧ i = .int .i64 m ∧ kk = .int .i64 (k + 3 * (m : Int)) ∧ wr = w) (fun i _ _ => n - (intOf i).toNat)
  case atStart => exact ⟨0, Nat.zero_le _, rfl, by simp, rfl⟩
  case round =>
    obtain ⟨m, hm, rfl, rfl, rfl⟩ := hrel
    by_cases hlt : m < n
    · obtain ⟨b, off, rfl, hb, hc⟩ := HR.out (by omega)
      have c0 : wr.cell? ⟨b, off + m * 3, none⟩ = some (.int .i64 (k + 3 * (m : Int))) := by rw [hc _ (by omega), marksV_at _ _ _ (by omega)]; congr 2; omega
      have c1 : wr.cell? ⟨b, off + m * 3 + 1, none⟩ = some (.int .i64 (k + 3 * (m : Int) + 1)) := by rw [Nat.add_assoc, hc _ (by omega), marksV_at _ _ _ (by omega)]; congr 2; omega
      have c2 : wr.cell? ⟨b, off + m * 3 + 2, none⟩ = some (.int .i64 (k + 3 * (m : Int) + 1 + 1)) := by rw [Nat.add_assoc, hc _ (by omega), marksV_at _ _ _ (by omega)]; congr 2; omega
      clear hc
      go_wp2_with fail
      refine wp_loop_rounds 4 ?_
      rw [rounds_succ]
      go_wp2_with fail
      rw [rounds_succ]
      go_wp2_with fail
      rw [rounds_succ]
      go_wp2_with fail
      rw [rounds_succ]
      go_wp2_with fail
      exact ⟨⟨m + 1, by omega, by simp, by congr 1; omega, trivial⟩, by simp [intOf]; omega⟩
    · have hmn : m = n := by omega
      subst hmn
      go_wp2_with fail
      go_ret
      exact ⟨rfl, Below.refl _ _⟩
end Go.Proofs.Ytlfplnbmgmookaa

/-! Psh -/
namespace Go.Proofs.Ytlfplnbmgmookaa
set_option linter.unusedVariables false
open Go.RowKit

/-- An own slice, not nil, that lies in none of the blocks lo .. hi - 1. -/
structure OutA (B lo hi : Nat) (w : World) (e : TypeId) (size g n c : Nat) (xs : List Value) : Prop where
  own : w.ownsRow B e size (.slice (some ⟨g, 0, none⟩) n c) n xs
  off : g < lo ∨ hi ≤ g
  top : hi ≤ w.heap.size
theorem OutA.lt {B lo hi : Nat} {w : World} {e : TypeId} {size g n c : Nat} {xs : List Value} (h : OutA B lo hi w e size g n c xs) : B ≤ g ∧ g < w.heap.size := h.own.lt g rfl
theorem OutA.next {B lo hi : Nat} {w w' : World} {e : TypeId} {size g n c : Nat} {xs : List Value} (h : OutA B lo hi w e size g n c xs) (hb : Below w.heap.size w w') : OutA B lo hi w' e size g n c xs :=
  ⟨own_below h.own hb, h.off, Nat.le_trans h.top hb.size⟩
/-- What stands in the blocks lo .. hi - 1 of w stands there in w'. -/
def KeepB (lo hi : Nat) (w w' : World) : Prop := ∀ q, lo ≤ q → q < hi → w'.heap[q]? = w.heap[q]?
theorem KeepB.refl (lo hi : Nat) (w : World) : KeepB lo hi w w := fun _ _ _ => rfl
theorem KeepB.trans {lo hi : Nat} {a b c : World} (h : KeepB lo hi a b) (k : KeepB lo hi b c) : KeepB lo hi a c := fun q h1 h2 => (k q h1 h2).trans (h q h1 h2)
theorem KeepB.of_below {lo hi : Nat} {a b : World} (h : Below a.heap.size a b) (hh : hi ≤ a.heap.size) : KeepB lo hi a b := fun q _ h2 => h.block q (Nat.lt_of_lt_of_le h2 hh)
theorem KeepB.cell {lo hi : Nat} {a b : World} (h : KeepB lo hi a b) {q i : Nat} (h1 : lo ≤ q) (h2 : q < hi) : b.cell? ⟨q, i, none⟩ = a.cell? ⟨q, i, none⟩ := by
  simp only [World.cell?]; rw [h q h1 h2]
theorem outA_made {B lo hi : Nat} (w : World) (e : TypeId) (size : Nat) (hB : B ≤ w.heap.size) (hh : hi ≤ w.heap.size) : OutA B lo hi (w.alloc (.cells #[] e)) e size w.heap.size 0 0 [] :=
  ⟨World.ownsRow_made _ _ _ hB (Nat.zero_le _) (by simp), .inr hh, by simp; omega⟩
theorem push_facts {wr w' : World} {B lo hi : Nat} {w0 : World} {e : TypeId} {size g n c : Nat} {xs news : List Value} {v' : Value} (ho : OutA B lo hi wr e size g n c xs) (hb : Below B w0 wr)
    (h2 : w'.ownsRow B e size v' (n + 1) (xs ++ news)) (h3 : (wr.alloc (.cells news.toArray e)).grownBy w' (Value.slice (some ⟨g, 0, none⟩) n c).ownBlock) (h5 : v'.ownBlock = (Value.slice (some ⟨g, 0, none⟩) n c).ownBlock ∨ v'.ownBlock = some (wr.alloc (.cells news.toArray e)).heap.size) :
    ∃ g' c', v' = .slice (some ⟨g', 0, none⟩) (n + 1) c' ∧ OutA B lo hi w' e size g' (n + 1) c' (xs ++ news) ∧ Below B w0 w' ∧ KeepB lo hi wr w' := by
  have hg := ho.lt
  have hBw : B ≤ wr.heap.size := by omega
  rcases h2.2 with ⟨_, h0⟩ | ⟨g', c', cur, rfl, _⟩
  · omega
  · have hoff : g' < lo ∨ hi ≤ g' := by
      rcases h5 with h5 | h5
      · have : g' = g := by simpa [Value.ownBlock] using h5
        rw [this]; exact ho.off
      · have : g' = wr.heap.size + 1 := by simpa [Value.ownBlock] using h5
        have := ho.top; omega
    refine ⟨g', c', rfl, ⟨h2, hoff, ?_⟩, ?_, ?_⟩
    · have h6 := h3.size; have h7 := ho.top; simp at h6; omega
    · refine (hb.alloc hBw _).grown h3 (by simp; omega) (fun q hq => ?_)
      have : g = q := by simpa [Value.ownBlock] using hq
      omega
    · intro q h1 hq
      have hlt : q < wr.heap.size := Nat.lt_of_lt_of_le hq ho.top
      refine (h3.block q (by simp; omega) (fun e => ?_)).trans (alloc_old hlt)
      have : g = q := by simpa [Value.ownBlock] using e.symm
      have := ho.off; omega
theorem wpList_push {P : Program} {wr : World} {ops : Array Oper} {rest : List Oper} {o : Oper} {a : Act} {Q : Exit → Act → World → Prop} (hgd : o.guard = none) (s x : Operand) (t : TypeId)
    (ho : o.op = .call { callee := .builtin .append, args := #[s, x], argTypes := #[t, t] }) (B lo hi : Nat) (w0 : World) (e : TypeId) (i : TypeInfo) (z : Value) (size bytes : Nat) (ht : P.underlying t = some (.slice e)) (hin : P.info? e = some i) (hz : i.zero = some z)
    (hsize : i.size = size) (hby : i.bytes = bytes) (hzs : z.cells.size = size) (hsz : 0 < size) (g n c : Nat) (xs news : List Value) (hs : a.eval s = .slice (some ⟨g, 0, none⟩) n c) (hx : a.eval x = .slice (some ⟨wr.heap.size, 0, none⟩) 1 1)
    (hl : news.length = size) (h1 : ∀ u ∈ news, u.oneCell' = true) (h63 : n < 100000) (hbs : bytes ≤ 1000) (hO : OutA B lo hi wr e size g n c xs) (hB : Below B w0 wr)
    (h : ∀ g' c' w', OutA B lo hi w' e size g' (n + 1) c' (xs ++ news) → Below B w0 w' → KeepB lo hi wr w' → wpList P ops Q rest (a.put o.dst (.slice (some ⟨g', 0, none⟩) (n + 1) c')) w') :
    wpList P ops Q (o :: rest) a (wr.alloc (.cells news.toArray e)) := by
  have hg := hO.lt
  refine wpList_append_own_at _ hgd s x t ho B e i z size bytes ht hin hz hsize hby hzs hsz _ n xs hs (hO.own.alloc _) ⟨wr.heap.size, 0, none⟩ 1 1 news hx (by rw [Nat.one_mul]; exact hl) (news_at (alloc_at rfl)) h1 (by unfold maxLen; omega) ?_ (by simp; omega) ?_
  · have := Nat.mul_le_mul (show n + 1 ≤ 100000 by omega) hbs; omega
  · intro v' w' r2 r3 _ r5
    obtain ⟨g', c', rfl, r6, r7, r8⟩ := push_facts hO hB r2 r3 r5
    exact h g' c' w' r6 r7 r8
/-- The same in a drawn region. -/
theorem step_push {P : Program} {wr : World} {ops : Array Oper} {o : Oper} {a : Act} {K : Act → World → Prop} {Q : Exit → Act → World → Prop} {E : Prop} (hgd : o.guard = none) (s x : Operand) (t : TypeId)
    (ho : o.op = .call { callee := .builtin .append, args := #[s, x], argTypes := #[t, t] }) (B lo hi : Nat) (w0 : World) (e : TypeId) (i : TypeInfo) (z : Value) (size bytes : Nat) (ht : P.underlying t = some (.slice e)) (hin : P.info? e = some i) (hz : i.zero = some z)
    (hsize : i.size = size) (hby : i.bytes = bytes) (hzs : z.cells.size = size) (hsz : 0 < size) (g n c : Nat) (xs news : List Value) (hs : a.eval s = .slice (some ⟨g, 0, none⟩) n c) (hx : a.eval x = .slice (some ⟨wr.heap.size, 0, none⟩) 1 1)
    (hl : news.length = size) (h1 : ∀ u ∈ news, u.oneCell' = true) (h63 : n < 100000) (hbs : bytes ≤ 1000) (hO : OutA B lo hi wr e size g n c xs) (hB : Below B w0 wr)
    (h : ∀ g' c' w', OutA B lo hi w' e size g' (n + 1) c' (xs ++ news) → Below B w0 w' → KeepB lo hi wr w' → K (a.put o.dst (.slice (some ⟨g', 0, none⟩) (n + 1) c')) w') :
    if Region.wanted o (yielded ops a.tmps) = true then Oper.wp P o a (wr.alloc (.cells news.toArray e)) K Q else E := by
  have hg := hO.lt
  refine step_append_lies _ hgd s x t ho B e i z size bytes ht hin hz hsize hby hzs hsz _ n xs hs (hO.own.alloc _) ⟨wr.heap.size, 0, none⟩ 1 1 news hx (by rw [Nat.one_mul]; exact hl) (news_at (alloc_at rfl)) h1 (by decide) (by unfold maxLen; omega) ?_ (by simp; omega) _ rfl ?_
  · have := Nat.mul_le_mul (show n + 1 ≤ 100000 by omega) hbs; omega
  · intro g' c' w' r2 r3 r5 _
    obtain ⟨g2, c2, r9, r6, r7, r8⟩ := push_facts hO hB r2 r3 (by rcases r5 with r5 | r5; exact .inl (by rw [r5]; rfl); exact .inr (by rw [r5]; rfl))
    injection r9 with r10 r11 r12
    injection r10 with r13
    injection r13 with r14
    subst r14; subst r12
    exact h g' c' w' r6 r7 r8
end Go.Proofs.Ytlfplnbmgmookaa
