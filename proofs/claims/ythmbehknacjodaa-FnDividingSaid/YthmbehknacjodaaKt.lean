/- Parts laid as one: Apl, Tkm, Tpl. -/
import Derived.Test.YthmbehknacjodaaKd
import Derived.Test.YthmbehknacjodaaKi
/-! Apl -/
namespace Go.Proofs.Ythmbehknacjodaa
set_option linter.unusedVariables false
open Go.RowKit

theorem playO_app (up lo : Int) (rs : List (Int × Int)) (a b : List Mv) (qs : List (Int × Int)) (h : playO up lo rs a = some qs) : playO up lo rs (a ++ b) = playO up lo qs b := by
  unfold playO at h ⊢
  rw [List.foldl_append, h]
theorem std_len {rs : List (Int × Int)} {up lo : Int} (hg : goodF up lo rs) : 1 ≤ rs.length ∧ rs.length ≤ 8 := hg.2.2.2
theorem std_setp {rs : List (Int × Int)} (h : stdF rs) (r : Nat) (p : Int × Int) (hp : (0 ≤ p.1 ∧ p.1 ≤ 1) ∧ (0 ≤ p.2 ∧ p.2 ≤ 4)) : stdF (rs.set r p) := by
  intro i hi
  rw [List.length_set] at hi
  by_cases e : i = r
  · subst e; rw [List.getElem_set_self]; exact hp
  · rw [List.getElem_set_ne (fun e' => e e'.symm)]; exact h i hi
theorem step_set {up lo : Int} {rs : List (Int × Int)} (hg : goodF up lo rs) (r : Nat) (hr : r < rs.length) (m : Mv) (hm : m.rod = (r : Int)) (p : Int × Int) (hp : movR rs[r] m = p) (hpk : (0 ≤ p.1 ∧ p.1 ≤ 1) ∧ (0 ≤ p.2 ∧ p.2 ≤ 4)) (hs : stdF rs) : stepO up lo rs m = some (rs.set r p) := by
  have e : movF rs m = rs.set r p := by
    unfold movF
    rw [hm, Int.toNat_natCast, List.getD_eq_getElem?_getD, List.getElem?_eq_getElem hr]
    show rs.set r (movR rs[r] m) = rs.set r p
    rw [hp]
  unfold stepO
  rw [e, if_pos]
  refine ⟨by rw [hm]; omega, stdF_good (std_setp hs r p hpk) hg.2.1 hg.2.2.1 ?_⟩
  rw [List.length_set]
  exact hg.2.2.2
theorem play_one (up lo : Int) (rs : List (Int × Int)) (m : Mv) : playO up lo rs [m] = stepO up lo rs m := rfl
theorem play_nil (up lo : Int) (rs : List (Int × Int)) : playO up lo rs [] = some rs := rfl
theorem set_same' (rs : List (Int × Int)) (r : Nat) (hr : r < rs.length) : rs.set r rs[r] = rs := by
  apply List.ext_getElem (by simp)
  intro i h1 h2
  by_cases e : i = r
  · subst e; rw [List.getElem_set_self]
  · rw [List.getElem_set_ne (fun e' => e e'.symm)]
theorem turn_play {up lo : Int} {rs : List (Int × Int)} (hg : goodF up lo rs) (hs : stdF rs) (r : Nat) (hr : r < rs.length) (x : Int) (h0 : 0 ≤ x) (h9 : x ≤ 9) : playO up lo rs (turnM r (vAt rs r) x) = some (rs.set r (digR x)) := by
  have hb := hs r hr
  have hd : digR (vAt rs r) = rs[r] := by rw [vAt_in hr]; exact rod_std hb
  have hx1 : 0 ≤ x / 5 ∧ x / 5 ≤ 1 := by omega
  have hx2 : 0 ≤ x % 5 ∧ x % 5 ≤ 4 := by omega
  have e1 : playO up lo rs (btw1 r 0 (digR (vAt rs r)) (digR x)) = some (rs.set r (x / 5, rs[r].2)) := by
    unfold btw1
    rw [hd]
    have ea : at2 (digR x) 0 = x / 5 := rfl
    have eb : at2 rs[r] 0 = rs[r].1 := rfl
    rw [ea, eb]
    by_cases hz : x / 5 - rs[r].1 = 0
    · rw [if_pos hz, play_nil]
      have : (x / 5, rs[r].2) = rs[r] := by rw [show x / 5 = rs[r].1 by omega]
      rw [this, set_same' rs r hr]
    · rw [if_neg hz, play_one]
      refine step_set hg r hr _ rfl _ ?_ ⟨hx1, hb.2⟩ hs
      unfold movR
      rw [if_pos (show ((0 : Nat) : Int) = 0 by omega)]
      show (rs[r].1 + (x / 5 - rs[r].1), rs[r].2) = (x / 5, rs[r].2)
      rw [show rs[r].1 + (x / 5 - rs[r].1) = x / 5 by omega]
  unfold turnM
  rw [playO_app up lo rs _ _ _ e1]
  have hs2 : stdF (rs.set r (x / 5, rs[r].2)) := std_setp hs r _ ⟨hx1, hb.2⟩
  have hg2 : goodF up lo (rs.set r (x / 5, rs[r].2)) := stdF_good hs2 hg.2.1 hg.2.2.1 (by rw [List.length_set]; exact hg.2.2.2)
  unfold btw1
  rw [hd]
  have ea : at2 (digR x) 1 = x % 5 := rfl
  have eb : at2 rs[r] 1 = rs[r].2 := rfl
  rw [ea, eb]
  have hl2 : r < (rs.set r (x / 5, rs[r].2)).length := by rw [List.length_set]; exact hr
  by_cases hz : x % 5 - rs[r].2 = 0
  · rw [if_pos hz, play_nil]
    have : (x / 5, rs[r].2) = digR x := by show (x / 5, rs[r].2) = (x / 5, x % 5); rw [show x % 5 = rs[r].2 by omega]
    rw [this]
  · rw [if_neg hz, play_one, step_set hg2 r hl2 _ rfl (digR x) ?_ ⟨hx1, hx2⟩ hs2, List.set_set]
    unfold movR
    rw [if_neg (by show ¬ ((1 : Nat) : Int) = 0; omega), List.getElem_set_self]
    show (x / 5, rs[r].2 + (x % 5 - rs[r].2)) = (x / 5, x % 5)
    rw [show rs[r].2 + (x % 5 - rs[r].2) = x % 5 by omega]
theorem chM_play {up lo : Int} : ∀ (r : Nat) (d : Int) (rs : List (Int × Int)), goodF up lo rs → stdF rs → r ≤ rs.length → playO up lo rs (chM r d rs) = some (chR r d rs)
  | 0, _, rs, _, _, _ => rfl
  | r + 1, d, rs, hg, hs, hr => by
    unfold chM chR
    split
    · rfl
    · have hx : 0 ≤ (vAt rs r + d) % 10 ∧ (vAt rs r + d) % 10 ≤ 9 := by omega
      rw [playO_app up lo rs _ _ _ (turn_play hg hs r (by omega) _ hx.1 hx.2)]
      have hs2 := stdF_set hs r ((vAt rs r + d) % 10) hx.1 hx.2
      exact chM_play r _ _ (stdF_good hs2 hg.2.1 hg.2.2.1 (by rw [List.length_set]; exact hg.2.2.2)) hs2 (by rw [List.length_set]; omega)
theorem goM_play {up lo : Int} : ∀ (ds : List Int) (i : Nat) (rs : List (Int × Int)), goodF up lo rs → stdF rs → i + ds.length ≤ rs.length → playO up lo rs (goM i ds rs) = some (goR i ds rs)
  | [], _, rs, _, _, _ => rfl
  | d :: ds, i, rs, hg, hs, hr => by
    rw [List.length_cons] at hr
    unfold goM goR
    rw [playO_app up lo rs _ _ _ (chM_play (i + 1) d rs hg hs (by omega))]
    have hs2 := chR_std (i + 1) d rs hs
    exact goM_play ds (i + 1) _ (stdF_good hs2 hg.2.1 hg.2.2.1 (by rw [chR_len]; exact hg.2.2.2)) hs2 (by rw [chR_len]; omega)
theorem btw1_ok {i p : Nat} {x y : Int × Int} (hi : i ≤ 7) (hp : p ≤ 1) (hx : (0 ≤ x.1 ∧ x.1 ≤ 1) ∧ (0 ≤ x.2 ∧ x.2 ≤ 4)) (hy : (0 ≤ y.1 ∧ y.1 ≤ 1) ∧ (0 ≤ y.2 ∧ y.2 ≤ 4)) : ∀ m ∈ btw1 i p x y, okMv m := by
  intro m hm
  unfold btw1 at hm
  split at hm
  · cases hm
  · rename_i hz
    rw [List.mem_singleton] at hm
    subst hm
    have hpp : p = 0 ∨ p = 1 := by omega
    rcases hpp with rfl | rfl
    · have ea : at2 y 0 = y.1 := rfl
      have eb : at2 x 0 = x.1 := rfl
      rw [ea, eb] at hz
      exact ⟨⟨by show (0 : Int) ≤ (i : Int); omega, by show (i : Int) ≤ 7; omega⟩, ⟨by show (0 : Int) ≤ ((0 : Nat) : Int); omega, by show ((0 : Nat) : Int) ≤ 1; omega⟩, ⟨by show -5 ≤ y.1 - x.1; omega, by show y.1 - x.1 ≤ 5; omega⟩, hz⟩
    · have ea : at2 y 1 = y.2 := rfl
      have eb : at2 x 1 = x.2 := rfl
      rw [ea, eb] at hz
      exact ⟨⟨by show (0 : Int) ≤ (i : Int); omega, by show (i : Int) ≤ 7; omega⟩, ⟨by show (0 : Int) ≤ ((1 : Nat) : Int); omega, by show ((1 : Nat) : Int) ≤ 1; omega⟩, ⟨by show -5 ≤ y.2 - x.2; omega, by show y.2 - x.2 ≤ 5; omega⟩, hz⟩
theorem digR_std {x : Int} (h0 : 0 ≤ x) (h9 : x ≤ 9) : (0 ≤ (digR x).1 ∧ (digR x).1 ≤ 1) ∧ (0 ≤ (digR x).2 ∧ (digR x).2 ≤ 4) := by
  show (0 ≤ x / 5 ∧ x / 5 ≤ 1) ∧ (0 ≤ x % 5 ∧ x % 5 ≤ 4)
  omega
theorem turn_ok {r : Nat} {v x : Int} (hr : r ≤ 7) (v0 : 0 ≤ v) (v9 : v ≤ 9) (h0 : 0 ≤ x) (h9 : x ≤ 9) : ∀ m ∈ turnM r v x, okMv m := by
  intro m hm
  unfold turnM at hm
  rcases List.mem_append.1 hm with h | h
  · exact btw1_ok hr (by omega) (digR_std v0 v9) (digR_std h0 h9) m h
  · exact btw1_ok hr (by omega) (digR_std v0 v9) (digR_std h0 h9) m h
theorem chM_ok : ∀ (r : Nat) (d : Int) (rs : List (Int × Int)), stdF rs → r ≤ 8 → ∀ m ∈ chM r d rs, okMv m
  | 0, _, _, _, _, m, hm => by simp [chM] at hm
  | r + 1, d, rs, hs, hr, m, hm => by
    unfold chM at hm
    split at hm
    · cases hm
    · have hx : 0 ≤ (vAt rs r + d) % 10 ∧ (vAt rs r + d) % 10 ≤ 9 := by omega
      have hv := vAt_bd hs r
      rcases List.mem_append.1 hm with h | h
      · exact turn_ok (by omega) hv.1 hv.2 hx.1 hx.2 m h
      · exact chM_ok r _ _ (stdF_set hs r _ hx.1 hx.2) (by omega) m h
theorem goM_ok : ∀ (ds : List Int) (i : Nat) (rs : List (Int × Int)), stdF rs → i + ds.length ≤ 8 → ∀ m ∈ goM i ds rs, okMv m
  | [], _, _, _, _, m, hm => by simp [goM] at hm
  | d :: ds, i, rs, hs, hr, m, hm => by
    rw [List.length_cons] at hr
    unfold goM at hm
    rcases List.mem_append.1 hm with h | h
    · exact chM_ok (i + 1) d rs hs (by omega) m h
    · exact goM_ok ds (i + 1) _ (chR_std (i + 1) d rs hs) (by omega) m h
theorem okMs_of {ms : List Mv} (h : ∀ m ∈ ms, okMv m) (hl : ms.length ≤ 60) : okMs ms := ⟨fun k hk => h _ (List.getElem_mem hk), hl⟩
end Go.Proofs.Ythmbehknacjodaa

/-! Tkm -/
namespace Go.Proofs.Ythmbehknacjodaa
set_option linter.unusedVariables false
open Go.RowKit

/-- What is borrowed when a digit is taken from a value. -/
def bor (v d : Int) : Int := if d ≤ v then 0 else 1
def brM : Nat → Int → List (Int × Int) → List Mv
  | 0, _, _ => []
  | r + 1, d, rs => if d ≤ 0 then [] else turnM r (vAt rs r) ((vAt rs r - d) % 10) ++ brM r (bor (vAt rs r) d) (rs.set r (digR ((vAt rs r - d) % 10)))
def brR : Nat → Int → List (Int × Int) → List (Int × Int)
  | 0, _, rs => rs
  | r + 1, d, rs => if d ≤ 0 then rs else brR r (bor (vAt rs r) d) (rs.set r (digR ((vAt rs r - d) % 10)))
def brC : Nat → Int → List (Int × Int) → Nat
  | 0, _, _ => 0
  | r + 1, d, rs => if d ≤ 0 then 0 else if vAt rs r < d then 1 + brC r 1 rs else 0
def tkM : Nat → List Int → List (Int × Int) → List Mv
  | _, [], _ => []
  | i, d :: ds, rs => brM (i + 1) d rs ++ tkM (i + 1) ds (brR (i + 1) d rs)
def tkR : Nat → List Int → List (Int × Int) → List (Int × Int)
  | _, [], rs => rs
  | i, d :: ds, rs => tkR (i + 1) ds (brR (i + 1) d rs)
def tkC : Nat → List Int → List (Int × Int) → Nat
  | _, [], _ => 0
  | i, d :: ds, rs => brC (i + 1) d rs + tkC (i + 1) ds (brR (i + 1) d rs)
theorem brR_len : ∀ (r : Nat) (d : Int) (rs : List (Int × Int)), (brR r d rs).length = rs.length
  | 0, _, _ => rfl
  | r + 1, d, rs => by
    unfold brR; split
    · rfl
    · rw [brR_len r, List.length_set]
theorem brR_std : ∀ (r : Nat) (d : Int) (rs : List (Int × Int)), stdF rs → stdF (brR r d rs)
  | 0, _, _, h => h
  | r + 1, d, rs, h => by
    unfold brR; split
    · exact h
    · exact brR_std r _ _ (stdF_set h _ _ (by omega) (by omega))
theorem brM_zero (r : Nat) (rs : List (Int × Int)) : brM r 0 rs = [] := by cases r <;> simp [brM]
theorem brR_zero (r : Nat) (rs : List (Int × Int)) : brR r 0 rs = rs := by cases r <;> simp [brR]
theorem brC_zero (r : Nat) (rs : List (Int × Int)) : brC r 0 rs = 0 := by cases r <;> simp [brC]
theorem brC_set : ∀ (r : Nat) (d : Int) (rs : List (Int × Int)) (q : Nat) (x : Int × Int), r ≤ q → brC r d (rs.set q x) = brC r d rs
  | 0, _, _, _, _, _ => rfl
  | r + 1, d, rs, q, x, h => by
    unfold brC; rw [vAt_set_ne (by omega), brC_set r 1 rs q x (by omega)]
theorem brM_len : ∀ (r : Nat) (d : Int) (rs : List (Int × Int)), (brM r d rs).length ≤ 2 * r
  | 0, _, _ => by simp [brM]
  | r + 1, d, rs => by
    unfold brM; split
    · simp
    · rw [List.length_append]
      have := turnM_len r (vAt rs r) ((vAt rs r - d) % 10)
      have := brM_len r (bor (vAt rs r) d) (rs.set r (digR ((vAt rs r - d) % 10)))
      omega
theorem brC_le : ∀ (r : Nat) (d : Int) (rs : List (Int × Int)), brC r d rs ≤ r
  | 0, _, _ => by simp [brC]
  | r + 1, d, rs => by
    unfold brC; have := brC_le r 1 rs; split
    · omega
    · split <;> omega
theorem tkR_len : ∀ (ds : List Int) (i : Nat) (rs : List (Int × Int)), (tkR i ds rs).length = rs.length
  | [], _, _ => rfl
  | d :: ds, i, rs => by unfold tkR; rw [tkR_len ds, brR_len]
theorem tkR_std : ∀ (ds : List Int) (i : Nat) (rs : List (Int × Int)), stdF rs → stdF (tkR i ds rs)
  | [], _, _, h => h
  | d :: ds, i, rs, h => by unfold tkR; exact tkR_std ds _ _ (brR_std _ _ _ h)
theorem tkM_len : ∀ (ds : List Int) (i : Nat) (rs : List (Int × Int)), (tkM i ds rs).length ≤ 2 * (i + ds.length) * ds.length
  | [], _, _ => by simp [tkM]
  | d :: ds, i, rs => by
    unfold tkM
    rw [List.length_append, List.length_cons]
    have h1 := brM_len (i + 1) d rs
    have h2 := tkM_len ds (i + 1) (brR (i + 1) d rs)
    have e : 2 * (i + 1 + ds.length) * ds.length = 2 * (i + (ds.length + 1)) * ds.length := by rw [show i + 1 + ds.length = i + (ds.length + 1) by omega]
    rw [e] at h2
    rw [Nat.mul_succ]
    omega
theorem tkC_le : ∀ (ds : List Int) (i : Nat) (rs : List (Int × Int)), tkC i ds rs ≤ (i + ds.length) * ds.length
  | [], _, _ => by simp [tkC]
  | d :: ds, i, rs => by
    unfold tkC
    rw [List.length_cons]
    have h1 := brC_le (i + 1) d rs
    have h2 := tkC_le ds (i + 1) (brR (i + 1) d rs)
    have e : (i + 1 + ds.length) * ds.length = (i + (ds.length + 1)) * ds.length := by rw [show i + 1 + ds.length = i + (ds.length + 1) by omega]
    rw [e] at h2
    rw [Nat.mul_succ]
    omega
theorem tkM_small (n : Nat) (m : Int) (rs : List (Int × Int)) (h : n ≤ 8) : (tkM 0 (digs n m) rs).length ≤ 128 := by
  have h1 := tkM_len (digs n m) 0 rs
  rw [digs_len, Nat.zero_add] at h1
  have h2 : 2 * n * n ≤ 2 * 8 * 8 := Nat.mul_le_mul (by omega) h
  omega
theorem tkC_small (n : Nat) (m : Int) (rs : List (Int × Int)) (h : n ≤ 8) : tkC 0 (digs n m) rs ≤ 64 := by
  have h1 := tkC_le (digs n m) 0 rs
  rw [digs_len, Nat.zero_add] at h1
  have h2 : n * n ≤ 8 * 8 := Nat.mul_le_mul h h
  omega
/-- A number by one of its rods. -/
theorem std_sub {rs a b : List (Int × Int)} (h : stdF rs) (e : rs = a ++ b) : stdF a ∧ stdF b := by
  subst e
  constructor
  · intro i hi
    have := h i (by rw [List.length_append]; omega)
    rwa [List.getElem_append_left hi] at this
  · intro i hi
    have := h (a.length + i) (by rw [List.length_append]; omega)
    rw [List.getElem_append_right (by omega)] at this
    simpa using this
theorem numF_stdb {rs : List (Int × Int)} (h : stdF rs) : 0 ≤ numF rs ∧ numF rs < 10 ^ rs.length := by
  have key : ∀ k, k ≤ rs.length → 0 ≤ numF (rs.take k) ∧ numF (rs.take k) + 1 ≤ 10 ^ k := by
    intro k
    induction k with
    | zero => intro _; simp [numF]
    | succ k ih =>
      intro hk
      obtain ⟨i1, i2⟩ := ih (by omega)
      have hr := h k (by omega)
      rw [numF_snoc rs k (by omega), Int.pow_succ]
      unfold valF
      omega
  have := key rs.length (Nat.le_refl _)
  rw [List.take_of_length_le (Nat.le_refl _)] at this
  omega
theorem numF_split {rs : List (Int × Int)} (h : stdF rs) (q : Nat) (hq : q < rs.length) : ∃ a b : Int, 0 ≤ a ∧ 0 ≤ b ∧ b < 10 ^ (rs.length - 1 - q) ∧ numF rs = (10 * a + vAt rs q) * 10 ^ (rs.length - 1 - q) + b := by
  have e1 : rs = rs.take q ++ rs[q] :: rs.drop (q + 1) := by rw [← List.drop_eq_getElem_cons hq, List.take_append_drop]
  have e2 : rs = rs.take (q + 1) ++ rs.drop (q + 1) := (List.take_append_drop _ _).symm
  have ha := numF_stdb (std_sub h e1).1
  have hb := numF_stdb (std_sub h e2).2
  have hl : (rs.drop (q + 1)).length = rs.length - 1 - q := by rw [List.length_drop]; omega
  rw [hl] at hb
  refine ⟨numF (rs.take q), numF (rs.drop (q + 1)), ha.1, hb.1, hb.2, ?_⟩
  conv => lhs; rw [e1]
  rw [numF_mid, hl, vAt_in hq]
/-- A digit can be taken from a rod where it stands. -/
theorem take_here {rs : List (Int × Int)} (h : stdF rs) (q : Nat) (hq : q < rs.length) (d : Int) (hd : d ≤ vAt rs q) : d * 10 ^ (rs.length - 1 - q) ≤ numF rs := by
  obtain ⟨a, b, ha, hb, _, e⟩ := numF_split h q hq
  have hp : (0 : Int) < 10 ^ (rs.length - 1 - q) := Int.pow_pos (by decide)
  rw [e]
  have : d * 10 ^ (rs.length - 1 - q) ≤ (10 * a + vAt rs q) * 10 ^ (rs.length - 1 - q) := Int.mul_le_mul_of_nonneg_right (by omega) (Int.le_of_lt hp)
  omega
theorem take_top {rs : List (Int × Int)} (h : stdF rs) (h0 : 0 < rs.length) (d : Int) (hd : vAt rs 0 < d) : ¬ d * 10 ^ (rs.length - 1 - 0) ≤ numF rs := by
  have e1 : rs = [] ++ rs[0] :: rs.drop 1 := by rw [List.nil_append, ← List.drop_eq_getElem_cons h0, List.drop_zero]
  have e2 : rs = rs.take 1 ++ rs.drop 1 := (List.take_append_drop _ _).symm
  have hb := numF_stdb (std_sub h e2).2
  have hl : (rs.drop 1).length = rs.length - 1 - 0 := by rw [List.length_drop]; omega
  rw [hl] at hb
  have e : numF rs = vAt rs 0 * 10 ^ (rs.length - 1 - 0) + numF (rs.drop 1) := by
    conv => lhs; rw [e1]
    rw [numF_mid, hl, vAt_in h0]
    simp [numF]
  have hp : (0 : Int) < 10 ^ (rs.length - 1 - 0) := Int.pow_pos (by decide)
  have : (vAt rs 0 + 1) * 10 ^ (rs.length - 1 - 0) ≤ d * 10 ^ (rs.length - 1 - 0) := Int.mul_le_mul_of_nonneg_right (by omega) (Int.le_of_lt hp)
  rw [Int.add_mul] at this
  omega
/-- Where the digit is greater than the rod's value, 1 can be taken at the left exactly if it can. -/
theorem take_left {rs : List (Int × Int)} (h : stdF rs) (q : Nat) (hq : q + 1 < rs.length) (d : Int) (hd : vAt rs (q + 1) < d) (h9 : d ≤ 9) : 1 * 10 ^ (rs.length - 1 - q) ≤ numF rs ↔ d * 10 ^ (rs.length - 1 - (q + 1)) ≤ numF rs := by
  obtain ⟨a, b, ha, hb, hb2, e⟩ := numF_split h (q + 1) hq
  have hp : (0 : Int) < 10 ^ (rs.length - 1 - (q + 1)) := Int.pow_pos (by decide)
  have hv := vAt_bd h (q + 1)
  rw [pow_next rs.length q hq]
  generalize (10 : Int) ^ (rs.length - 1 - (q + 1)) = z at *
  generalize vAt rs (q + 1) = v at *
  rw [e, Int.one_mul]
  constructor
  · intro h1
    have : d * z ≤ 9 * z := Int.mul_le_mul_of_nonneg_right h9 (Int.le_of_lt hp)
    omega
  · intro h1
    by_cases h0 : a = 0
    · subst h0
      rw [show 10 * (0 : Int) + v = v by omega] at h1 ⊢
      have : (v + 1) * z ≤ d * z := Int.mul_le_mul_of_nonneg_right (by omega) (Int.le_of_lt hp)
      rw [Int.add_mul] at this
      omega
    · have : 10 * z ≤ (10 * a + v) * z := Int.mul_le_mul_of_nonneg_right (by omega) (Int.le_of_lt hp)
      omega
theorem brR_num : ∀ (r : Nat) (d : Int) (rs : List (Int × Int)), stdF rs → r < rs.length → 0 ≤ d → d ≤ 9 → d * 10 ^ (rs.length - 1 - r) ≤ numF rs →
    numF (brR (r + 1) d rs) = numF rs - d * 10 ^ (rs.length - 1 - r)
  | 0, d, rs, h, hr, h0, h9, hT => by
    unfold brR; split
    · have : d = 0 := by omega
      subst this; simp
    · have hv := vAt_bd h 0
      have hd : d ≤ vAt rs 0 := by
        by_cases hd : d ≤ vAt rs 0
        · exact hd
        · exact absurd hT (take_top h hr d (by omega))
      show numF (rs.set 0 _) = _
      rw [numF_set rs 0 hr, valF_digR, ← vAt_in hr, show (vAt rs 0 - d) % 10 = vAt rs 0 - d by omega, show vAt rs 0 - d - vAt rs 0 = - d by omega, Int.neg_mul]
      omega
  | r + 1, d, rs, h, hr, h0, h9, hT => by
    rw [brR]; split
    · have : d = 0 := by omega
      subst this; simp
    · have hv := vAt_bd h (r + 1)
      have hl : (rs.set (r + 1) (digR ((vAt rs (r + 1) - d) % 10))).length = rs.length := List.length_set
      have hs : numF (rs.set (r + 1) (digR ((vAt rs (r + 1) - d) % 10))) = numF rs - d * 10 ^ (rs.length - 1 - (r + 1)) + bor (vAt rs (r + 1)) d * 10 ^ (rs.length - 1 - r) := by
        rw [numF_set rs (r + 1) hr, valF_digR, ← vAt_in hr, pow_next rs.length r hr]
        generalize vAt rs (r + 1) = v at *
        generalize (10 : Int) ^ (rs.length - 1 - (r + 1)) = z at *
        unfold bor
        split
        · rw [show (v - d) % 10 - v = - d by omega, Int.neg_mul]; omega
        · rw [show (v - d) % 10 - v = 10 - d by omega, Int.sub_mul]; omega
      have hp : (0 : Int) < 10 ^ (rs.length - 1 - r) := Int.pow_pos (by decide)
      have hb : 0 ≤ bor (vAt rs (r + 1)) d ∧ bor (vAt rs (r + 1)) d ≤ 1 := by unfold bor; split <;> omega
      have hb2 : 0 ≤ bor (vAt rs (r + 1)) d * 10 ^ (rs.length - 1 - r) := Int.mul_nonneg hb.1 (Int.le_of_lt hp)
      have := brR_num r (bor (vAt rs (r + 1)) d) (rs.set (r + 1) (digR ((vAt rs (r + 1) - d) % 10))) (stdF_set h _ _ (by omega) (by omega)) (by omega) hb.1 (by omega) (by rw [hl]; omega)
      rw [this, hl]; omega
/-- That a digit can be taken from a rod: the borrowing ends. -/
def endB : Nat → Int → List (Int × Int) → Prop
  | 0, _, _ => False
  | r + 1, d, rs => d ≤ vAt rs r ∨ endB r 1 rs
theorem endB_iff : ∀ (r : Nat) (d : Int) (rs : List (Int × Int)), stdF rs → r < rs.length → 0 ≤ d → d ≤ 9 → (endB (r + 1) d rs ↔ d * 10 ^ (rs.length - 1 - r) ≤ numF rs)
  | 0, d, rs, h, hr, h0, h9 => by
    by_cases hd : d ≤ vAt rs 0
    · exact ⟨fun _ => take_here h 0 hr d hd, fun _ => Or.inl hd⟩
    · exact ⟨fun h' => (by rcases h' with h' | h'; exact absurd h' hd; exact h'.elim), fun h' => absurd h' (take_top h hr d (by omega))⟩
  | r + 1, d, rs, h, hr, h0, h9 => by
    by_cases hd : d ≤ vAt rs (r + 1)
    · exact ⟨fun _ => take_here h (r + 1) hr d hd, fun _ => Or.inl hd⟩
    · have ih := endB_iff r 1 rs h (by omega) (by omega) (by omega)
      rw [take_left h r hr d (by omega) h9] at ih
      rw [← ih]
      exact ⟨fun h' => (by rcases h' with h' | h'; exact absurd h' hd; exact h'), fun h' => Or.inr h'⟩
theorem endB_set : ∀ (r : Nat) (d : Int) (rs : List (Int × Int)) (q : Nat) (x : Int × Int), r ≤ q → (endB r d (rs.set q x) ↔ endB r d rs)
  | 0, _, _, _, _, _ => Iff.rfl
  | r + 1, d, rs, q, x, h => by
    unfold endB; rw [vAt_set_ne (by omega), endB_set r 1 rs q x (by omega)]
/-- The rods that are set and their values, the digit's first. -/
def brL : Nat → Int → List (Int × Int) → List (Nat × Int)
  | 0, _, _ => []
  | r + 1, d, rs => if d ≤ vAt rs r then [(r, vAt rs r - d)] else (r, vAt rs r + 10 - d) :: brL r 1 rs
def setL : List (Nat × Int) → List (Int × Int) → List (Int × Int)
  | [], rs => rs
  | (q, x) :: t, rs => setL t (rs.set q (digR x))
def setM : List (Nat × Int) → List (Int × Int) → List Mv
  | [], _ => []
  | (q, x) :: t, rs => turnM q (vAt rs q) x ++ setM t (rs.set q (digR x))
theorem brL_set : ∀ (r : Nat) (d : Int) (rs : List (Int × Int)) (q : Nat) (x : Int × Int), r ≤ q → brL r d (rs.set q x) = brL r d rs
  | 0, _, _, _, _, _ => rfl
  | r + 1, d, rs, q, x, h => by
    unfold brL; rw [vAt_set_ne (by omega), brL_set r 1 rs q x (by omega)]
theorem brL_bd : ∀ (r : Nat) (d : Int) (rs : List (Int × Int)), stdF rs → 0 ≤ d → d ≤ 9 → ∀ p ∈ brL r d rs, p.1 < r ∧ 0 ≤ p.2 ∧ p.2 ≤ 9
  | 0, _, _, _, _, _, p, hp => by simp [brL] at hp
  | r + 1, d, rs, h, h0, h9, p, hp => by
    have hv := vAt_bd h r
    unfold brL at hp
    split at hp
    · simp at hp; subst hp; exact ⟨Nat.lt_succ_self _, by show 0 ≤ vAt rs r - d; omega, by show vAt rs r - d ≤ 9; omega⟩
    · rcases List.mem_cons.1 hp with hp | hp
      · subst hp; exact ⟨Nat.lt_succ_self _, by show 0 ≤ vAt rs r + 10 - d; omega, by show vAt rs r + 10 - d ≤ 9; omega⟩
      · have := brL_bd r 1 rs h (by omega) (by omega) p hp
        omega
theorem brL_len : ∀ (r : Nat) (d : Int) (rs : List (Int × Int)), (brL r d rs).length ≤ r
  | 0, _, _ => by simp [brL]
  | r + 1, d, rs => by
    unfold brL; split
    · simp
    · have := brL_len r 1 rs; rw [List.length_cons]; omega
theorem set_own {rs : List (Int × Int)} (h : stdF rs) (r : Nat) (hr : r < rs.length) : rs.set r (digR (vAt rs r)) = rs := by
  have e : digR (vAt rs r) = rs[r] := by rw [vAt_in hr]; exact rod_std (h r hr)
  rw [e]; exact List.set_getElem_self hr
theorem turn_own (r : Nat) (v : Int) : turnM r v v = [] := by
  unfold turnM
  have : ∀ p, btw1 r p (digR v) (digR v) = [] := fun p => by unfold btw1; rw [if_pos (by omega)]
  rw [this, this]; rfl
theorem brL_all : ∀ (r : Nat) (d : Int) (rs : List (Int × Int)), stdF rs → r < rs.length → 0 ≤ d → d ≤ 9 → endB (r + 1) d rs →
    setL (brL (r + 1) d rs) rs = brR (r + 1) d rs ∧ setM (brL (r + 1) d rs) rs = brM (r + 1) d rs ∧ (brL (r + 1) d rs).length = brC (r + 1) d rs + 1
  | r, d, rs, h, hr, h0, h9, he => by
    have hv := vAt_bd h r
    by_cases hz : d = 0
    · subst hz
      rw [brR_zero, brM_zero, brC_zero]
      unfold brL
      rw [if_pos (by omega), show vAt rs r - 0 = vAt rs r by omega]
      refine ⟨?_, ?_, rfl⟩
      · show rs.set r (digR (vAt rs r)) = rs
        exact set_own h r hr
      · show turnM r (vAt rs r) (vAt rs r) ++ [] = []
        rw [turn_own]; rfl
    · have hn : ¬ d ≤ 0 := by omega
      by_cases hd : d ≤ vAt rs r
      · have e : (vAt rs r - d) % 10 = vAt rs r - d := by omega
        unfold brL brR brM brC bor
        rw [if_pos hd, if_neg hn, if_neg hn, if_neg hn, if_pos hd, if_neg (by omega), e, brR_zero, brM_zero]
        exact ⟨rfl, rfl, rfl⟩
      · have e : (vAt rs r - d) % 10 = vAt rs r + 10 - d := by omega
        unfold brL brR brM brC bor
        rw [if_neg hd, if_neg hn, if_neg hn, if_neg hn, if_neg hd, if_pos (by omega), e]
        rcases he with he | he
        · exact absurd he hd
        · cases r with
          | zero => exact he.elim
          | succ r =>
            have hs := stdF_set h (r + 1) (vAt rs (r + 1) + 10 - d) (by omega) (by omega)
            have ih := brL_all r 1 (rs.set (r + 1) (digR (vAt rs (r + 1) + 10 - d))) hs (by rw [List.length_set]; omega) (by omega) (by omega) ((endB_set _ _ _ _ _ (Nat.le_refl _)).2 he)
            rw [brL_set _ _ _ _ _ (Nat.le_refl _), brC_set _ _ _ _ _ (Nat.le_refl _)] at ih
            obtain ⟨i1, i2, i3⟩ := ih
            refine ⟨i1, ?_, ?_⟩
            · show turnM _ _ _ ++ setM _ _ = _
              rw [i2]
            · rw [List.length_cons, i3]; omega
/-- That a digit can be taken from a rod of a frame. -/
def okT (rs : List (Int × Int)) (q d : Int) : Prop := (0 ≤ q ∧ q ≤ (rs.length : Int) - 1) ∧ (0 ≤ d ∧ d ≤ 9) ∧ d * 10 ^ (rs.length - 1 - q.toNat) ≤ numF rs
open Classical in
/-- Digits taken one after the other: none if one of them cannot be. -/
noncomputable def runT : List (Int × Int) → List (Int × Int) → List Mv → Nat → Option (List (Int × Int) × List Mv × Nat)
  | [], rs, ms, c => some (rs, ms, c)
  | (q, d) :: ps, rs, ms, c => if okT rs q d then runT ps (brR (q.toNat + 1) d rs) (ms ++ brM (q.toNat + 1) d rs) (c + brC (q.toNat + 1) d rs) else none
/-- That a number, a digit can be taken. -/
def canT (up lo : Int) (rs : List (Int × Int)) (m : Int) : Prop := goodF up lo rs ∧ stdF rs ∧ 0 ≤ m ∧ m ≤ numF rs
def canTD (up lo : Int) (rs : List (Int × Int)) (q d : Int) : Prop := goodF up lo rs ∧ stdF rs ∧ okT rs q d
/-- The digits of a number with their rods. -/
def dpr (n : Nat) (m : Int) (i : Nat) : List (Int × Int) := (List.range' i (n - i)).map fun (j : Nat) => ((j : Int), m / 10 ^ (n - 1 - j) % 10)
theorem dpr_cons (n : Nat) (m : Int) (i : Nat) (h : i < n) : dpr n m i = ((i : Int), m / 10 ^ (n - 1 - i) % 10) :: dpr n m (i + 1) := by
  unfold dpr
  rw [show n - i = (n - (i + 1)) + 1 by omega, List.range'_succ]
  rfl
theorem dpr_nil (n : Nat) (m : Int) : dpr n m n = [] := by unfold dpr; rw [Nat.sub_self]; rfl
/-- A number's digits can be taken one after the other exactly if it is not greater than that which stands. -/
theorem run_num (n : Nat) (m : Int) : ∀ (k i : Nat) (rs : List (Int × Int)) (ms : List Mv) (c : Nat), i + k = n → rs.length = n → stdF rs →
    (m % 10 ^ k ≤ numF rs → runT (dpr n m i) rs ms c = some (tkR i ((digs n m).drop i) rs, ms ++ tkM i ((digs n m).drop i) rs, c + tkC i ((digs n m).drop i) rs)) ∧
    (¬ m % 10 ^ k ≤ numF rs → runT (dpr n m i) rs ms c = none)
  | 0, i, rs, ms, c, hi, hl, hs => by
    obtain rfl : i = n := by omega
    rw [dpr_nil, List.drop_eq_nil_of_le (by rw [digs_len]; exact Nat.le_refl _)]
    have := (numF_stdb hs).1
    refine ⟨fun _ => ?_, fun h => ?_⟩
    · simp [runT, tkR, tkM, tkC]
    · simp at h; omega
  | k + 1, i, rs, ms, c, hi, hl, hs => by
    have hk : rs.length - 1 - i = k := by omega
    have hk2 : n - 1 - i = k := by omega
    rw [dpr_cons n m i (by omega), digs_drop n m i (by omega), hk2, mod_next]
    have hp : (0 : Int) < 10 ^ k := Int.pow_pos (by decide)
    have b1 := Int.emod_nonneg m (Int.ne_of_gt hp)
    have b2 := Int.emod_lt_of_pos m hp
    have ih := run_num n m k (i + 1) (brR (i + 1) (m / 10 ^ k % 10) rs) (ms ++ brM (i + 1) (m / 10 ^ k % 10) rs) (c + brC (i + 1) (m / 10 ^ k % 10) rs) (by omega) (by rw [brR_len]; exact hl) (brR_std _ _ _ hs)
    have hd : 0 ≤ m / 10 ^ k % 10 ∧ m / 10 ^ k % 10 ≤ 9 := by omega
    generalize m / 10 ^ k % 10 = d at *
    unfold runT tkR tkM tkC
    simp only [Int.toNat_natCast]
    by_cases hT : d * 10 ^ k ≤ numF rs
    · have hn := brR_num i d rs hs (by omega) hd.1 hd.2 (by rw [hk]; exact hT)
      rw [hk] at hn
      rw [if_pos ⟨⟨by omega, by omega⟩, hd, by rw [Int.toNat_natCast, hk]; exact hT⟩]
      rw [hn] at ih
      refine ⟨fun h => ?_, fun h => ih.2 (by omega)⟩
      rw [ih.1 (by omega), List.append_assoc, Nat.add_assoc]
    · rw [if_neg (fun h => hT (by have := h.2.2; rw [Int.toNat_natCast, hk] at this; exact this))]
      exact ⟨fun h => absurd (by omega) hT, fun _ => rfl⟩
theorem run_all {rs : List (Int × Int)} (hs : stdF rs) (m : Int) (h0 : 0 ≤ m) (h1 : m < 10 ^ rs.length) :
    (m ≤ numF rs → runT (dpr rs.length m 0) rs [] 0 = some (tkR 0 (digs rs.length m) rs, tkM 0 (digs rs.length m) rs, tkC 0 (digs rs.length m) rs)) ∧ (¬ m ≤ numF rs → runT (dpr rs.length m 0) rs [] 0 = none) := by
  have := run_num rs.length m rs.length 0 rs [] 0 (by omega) rfl hs
  rw [Int.emod_eq_of_lt h0 h1, List.drop_zero, Nat.zero_add, List.nil_append] at this
  exact this
theorem run_one {rs : List (Int × Int)} (q d : Int) : (okT rs q d → runT [(q, d)] rs [] 0 = some (brR (q.toNat + 1) d rs, brM (q.toNat + 1) d rs, brC (q.toNat + 1) d rs)) ∧ (¬ okT rs q d → runT [(q, d)] rs [] 0 = none) := by
  unfold runT
  refine ⟨fun h => ?_, fun h => if_neg h⟩
  rw [if_pos h]; simp [runT]
theorem tkR_num (n : Nat) (m : Int) : ∀ (k i : Nat) (rs : List (Int × Int)), i + k = n → rs.length = n → stdF rs → m % 10 ^ k ≤ numF rs → numF (tkR i ((digs n m).drop i) rs) = numF rs - m % 10 ^ k
  | 0, i, rs, hi, hl, hs, hT => by
    rw [List.drop_eq_nil_of_le (by rw [digs_len]; omega)]
    show numF rs = _
    simp
  | k + 1, i, rs, hi, hl, hs, hT => by
    rw [digs_drop n m i (by omega), tkR]
    rw [mod_next] at hT ⊢
    have hk : rs.length - 1 - i = k := by omega
    have hk2 : n - 1 - i = k := by omega
    rw [hk2]
    have hp : (0 : Int) < 10 ^ k := Int.pow_pos (by decide)
    have b1 := Int.emod_nonneg m (Int.ne_of_gt hp)
    have h1 := brR_num i (m / 10 ^ k % 10) rs hs (by omega) (by omega) (by omega) (by rw [hk]; omega)
    rw [hk] at h1
    have := tkR_num n m k (i + 1) (brR (i + 1) (m / 10 ^ k % 10) rs) (by omega) (by rw [brR_len]; exact hl) (brR_std _ _ _ hs) (by omega)
    omega
end Go.Proofs.Ythmbehknacjodaa

/-! Tpl -/
namespace Go.Proofs.Ythmbehknacjodaa
set_option linter.unusedVariables false
open Go.RowKit

theorem brM_play {up lo : Int} : ∀ (r : Nat) (d : Int) (rs : List (Int × Int)), goodF up lo rs → stdF rs → r ≤ rs.length → playO up lo rs (brM r d rs) = some (brR r d rs)
  | 0, _, rs, _, _, _ => rfl
  | r + 1, d, rs, hg, hs, hr => by
    unfold brM brR
    split
    · rfl
    · have hx : 0 ≤ (vAt rs r - d) % 10 ∧ (vAt rs r - d) % 10 ≤ 9 := by omega
      rw [playO_app up lo rs _ _ _ (turn_play hg hs r (by omega) _ hx.1 hx.2)]
      have hs2 := stdF_set hs r ((vAt rs r - d) % 10) hx.1 hx.2
      exact brM_play r _ _ (stdF_good hs2 hg.2.1 hg.2.2.1 (by rw [List.length_set]; exact hg.2.2.2)) hs2 (by rw [List.length_set]; omega)
theorem tkM_play {up lo : Int} : ∀ (ds : List Int) (i : Nat) (rs : List (Int × Int)), goodF up lo rs → stdF rs → i + ds.length ≤ rs.length → playO up lo rs (tkM i ds rs) = some (tkR i ds rs)
  | [], _, rs, _, _, _ => rfl
  | d :: ds, i, rs, hg, hs, hr => by
    rw [List.length_cons] at hr
    unfold tkM tkR
    rw [playO_app up lo rs _ _ _ (brM_play (i + 1) d rs hg hs (by omega))]
    have hs2 := brR_std (i + 1) d rs hs
    exact tkM_play ds (i + 1) _ (stdF_good hs2 hg.2.1 hg.2.2.1 (by rw [brR_len]; exact hg.2.2.2)) hs2 (by rw [brR_len]; omega)
theorem brM_ok : ∀ (r : Nat) (d : Int) (rs : List (Int × Int)), stdF rs → r ≤ 8 → ∀ m ∈ brM r d rs, okMv m
  | 0, _, _, _, _, m, hm => by simp [brM] at hm
  | r + 1, d, rs, hs, hr, m, hm => by
    unfold brM at hm
    split at hm
    · cases hm
    · have hx : 0 ≤ (vAt rs r - d) % 10 ∧ (vAt rs r - d) % 10 ≤ 9 := by omega
      have hv := vAt_bd hs r
      rcases List.mem_append.1 hm with h | h
      · exact turn_ok (by omega) hv.1 hv.2 hx.1 hx.2 m h
      · exact brM_ok r _ _ (stdF_set hs r _ hx.1 hx.2) (by omega) m h
theorem tkM_ok : ∀ (ds : List Int) (i : Nat) (rs : List (Int × Int)), stdF rs → i + ds.length ≤ 8 → ∀ m ∈ tkM i ds rs, okMv m
  | [], _, _, _, _, m, hm => by simp [tkM] at hm
  | d :: ds, i, rs, hs, hr, m, hm => by
    rw [List.length_cons] at hr
    unfold tkM at hm
    rcases List.mem_append.1 hm with h | h
    · exact brM_ok (i + 1) d rs hs (by omega) m h
    · exact tkM_ok ds (i + 1) _ (brR_std (i + 1) d rs hs) (by omega) m h
/-- A standard frame is told by its number. -/
theorem std_inj : ∀ (a b : List (Int × Int)), stdF a → stdF b → a.length = b.length → numF a = numF b → a = b
  | [], [], _, _, _, _ => rfl
  | [], _ :: _, _, _, hl, _ => by simp at hl
  | _ :: _, [], _, _, hl, _ => by simp at hl
  | x :: a, y :: b, ha, hb, hl, hn => by
    have hl' : a.length = b.length := by simpa using hl
    have ea : numF (x :: a) = valF x * 10 ^ a.length + numF a := by
      have := numF_mid [] a x
      simpa [numF] using this
    have eb : numF (y :: b) = valF y * 10 ^ b.length + numF b := by
      have := numF_mid [] b y
      simpa [numF] using this
    have sa : stdF a := (std_sub ha (show x :: a = [x] ++ a from rfl)).2
    have sb : stdF b := (std_sub hb (show y :: b = [y] ++ b from rfl)).2
    have ba := numF_stdb sa
    have bb := numF_stdb sb
    rw [ea, eb, ← hl'] at hn
    rw [← hl'] at bb
    have hp : (0 : Int) < 10 ^ a.length := Int.pow_pos (by decide)
    have hv : valF x = valF y := by
      generalize (10 : Int) ^ a.length = z at *
      have h1 : (valF x * z + numF a) / z = valF x := by rw [Int.add_comm, Int.add_mul_ediv_right _ _ (by omega), Int.ediv_eq_zero_of_lt ba.1 ba.2, Int.zero_add]
      have h2 : (valF y * z + numF b) / z = valF y := by rw [Int.add_comm, Int.add_mul_ediv_right _ _ (by omega), Int.ediv_eq_zero_of_lt bb.1 bb.2, Int.zero_add]
      rw [← h1, ← h2, hn]
    rw [hv] at hn
    have hx := rod_std (ha 0 (by simp))
    have hy := rod_std (hb 0 (by simp))
    simp only [List.getElem_cons_zero] at hx hy
    rw [std_inj a b sa sb hl' (by omega), ← hx, ← hy, hv]
/-- Adding what was taken. -/
theorem tk_back {up lo : Int} {rs : List (Int × Int)} {m : Int} (hc : canT up lo rs m) : canF up lo (tkR 0 (digs rs.length m) rs) m ∧ goR 0 (digs (tkR 0 (digs rs.length m) rs).length m) (tkR 0 (digs rs.length m) rs) = rs ∧ numF (tkR 0 (digs rs.length m) rs) = numF rs - m := by
  obtain ⟨hg, hs, h0, h1⟩ := hc
  have hb := numF_stdb hs
  have hm : m % 10 ^ rs.length = m := Int.emod_eq_of_lt h0 (by omega)
  have hn := tkR_num rs.length m rs.length 0 rs (by omega) rfl hs (by rw [hm]; exact h1)
  rw [List.drop_zero, hm] at hn
  have hst := tkR_std (digs rs.length m) 0 rs hs
  have hl := tkR_len (digs rs.length m) 0 rs
  generalize tkR 0 (digs rs.length m) rs = qs at *
  have hgq : goodF up lo qs := stdF_good hst hg.2.1 hg.2.2.1 (by rw [hl]; exact hg.2.2.2)
  have hc2 : canF up lo qs m := ⟨hgq, hst, h0, by rw [hl]; omega, by rw [hl]; omega⟩
  refine ⟨hc2, ?_, hn⟩
  have hm2 : m % 10 ^ qs.length = m := Int.emod_eq_of_lt h0 (by rw [hl]; omega)
  have h5 := goR_num qs.length m qs.length 0 qs (by omega) rfl hst (by rw [hm2, hl]; omega)
  rw [List.drop_zero, hm2] at h5
  exact std_inj _ _ (goR_std _ _ _ hst) hs (by rw [goR_len]; exact hl) (by rw [h5, hn]; omega)
theorem br_back {up lo : Int} {rs : List (Int × Int)} {q : Nat} {d : Int} (hc : canTD up lo rs q d) : canD up lo (brR (q + 1) d rs) q d ∧ chR (q + 1) d (brR (q + 1) d rs) = rs := by
  obtain ⟨hg, hs, hq, hd, hT⟩ := hc
  rw [Int.toNat_natCast] at hT
  have hb := numF_stdb hs
  have hql : q < rs.length := by omega
  have hn := brR_num q d rs hs hql hd.1 hd.2 hT
  have hst := brR_std (q + 1) d rs hs
  have hl := brR_len (q + 1) d rs
  generalize brR (q + 1) d rs = qs at *
  have hgq : goodF up lo qs := stdF_good hst hg.2.1 hg.2.2.1 (by rw [hl]; exact hg.2.2.2)
  refine ⟨⟨hgq, hst, by rw [hl]; exact hq, hd, by rw [Int.toNat_natCast, hl]; omega⟩, ?_⟩
  have h5 := chR_num q d qs hst (by omega) hd.1 hd.2 (by rw [hl]; omega)
  rw [hl] at h5
  exact std_inj _ _ (chR_std _ _ _ hst) hs (by rw [chR_len]; exact hl) (by rw [h5, hn]; omega)
/-- The sum of the values of the first rods. -/
def vS (rs : List (Int × Int)) : Nat → Int
  | 0 => 0
  | k + 1 => vS rs k + vAt rs k
theorem vS_set (rs : List (Int × Int)) (q : Nat) (hq : q < rs.length) (x : Int × Int) : ∀ k, vS (rs.set q x) k = vS rs k + (if q < k then valF x - vAt rs q else 0)
  | 0 => by simp [vS]
  | k + 1 => by
    unfold vS
    rw [vS_set rs q hq x k]
    by_cases e : q = k
    · subst e
      have : vAt (rs.set q x) q = valF x := by rw [vAt_in (by rw [List.length_set]; exact hq), List.getElem_set_self]
      rw [this, if_neg (Nat.lt_irrefl _), if_pos (Nat.lt_succ_self _)]
      omega
    · rw [vAt_set_ne e]
      by_cases h : q < k
      · rw [if_pos h, if_pos (by omega)]; omega
      · rw [if_neg h, if_neg (by omega)]; omega
theorem brR_vS : ∀ (r : Nat) (d : Int) (rs : List (Int × Int)), stdF rs → r < rs.length → 0 ≤ d → d ≤ 9 → endB (r + 1) d rs → vS (brR (r + 1) d rs) rs.length = vS rs rs.length - d + 9 * (brC (r + 1) d rs : Nat)
  | r, d, rs, h, hr, h0, h9, he => by
    have hv := vAt_bd h r
    by_cases hz : d = 0
    · subst hz; rw [brR_zero, brC_zero]; simp
    · have hn : ¬ d ≤ 0 := by omega
      by_cases hd : d ≤ vAt rs r
      · unfold brR brC bor
        rw [if_neg hn, if_neg hn, if_pos hd, if_neg (by omega), brR_zero, vS_set rs r hr, if_pos hr, valF_digR, show (vAt rs r - d) % 10 = vAt rs r - d by omega]
        simp; omega
      · rcases he with he | he
        · exact absurd he hd
        · cases r with
          | zero => exact he.elim
          | succ r =>
            have e : (vAt rs (r + 1) - d) % 10 = vAt rs (r + 1) + 10 - d := by omega
            unfold brR brC bor
            rw [if_neg hn, if_neg hn, if_neg hd, if_pos (by omega), e]
            have hs := stdF_set h (r + 1) (vAt rs (r + 1) + 10 - d) (by omega) (by omega)
            have ih := brR_vS r 1 (rs.set (r + 1) (digR (vAt rs (r + 1) + 10 - d))) hs (by rw [List.length_set]; omega) (by omega) (by omega) ((endB_set _ _ _ _ _ (Nat.le_refl _)).2 he)
            rw [List.length_set, vS_set rs (r + 1) hr, if_pos hr, valF_digR, brC_set _ _ _ _ _ (Nat.le_refl _)] at ih
            rw [ih]
            omega
def sumI : List Int → Int
  | [] => 0
  | d :: ds => d + sumI ds
theorem tkR_vS (n : Nat) (m : Int) : ∀ (k i : Nat) (rs : List (Int × Int)), i + k = n → rs.length = n → stdF rs → m % 10 ^ k ≤ numF rs → vS (tkR i ((digs n m).drop i) rs) n = vS rs n - sumI ((digs n m).drop i) + 9 * (tkC i ((digs n m).drop i) rs : Nat)
  | 0, i, rs, hi, hl, hs, hT => by
    rw [List.drop_eq_nil_of_le (by rw [digs_len]; omega)]
    simp [tkR, tkC, sumI]
  | k + 1, i, rs, hi, hl, hs, hT => by
    rw [digs_drop n m i (by omega), tkR, tkC, sumI]
    rw [mod_next] at hT
    have hk : rs.length - 1 - i = k := by omega
    have hk2 : n - 1 - i = k := by omega
    rw [hk2]
    have hp : (0 : Int) < 10 ^ k := Int.pow_pos (by decide)
    have b1 := Int.emod_nonneg m (Int.ne_of_gt hp)
    have hd : 0 ≤ m / 10 ^ k % 10 ∧ m / 10 ^ k % 10 ≤ 9 := by omega
    generalize m / 10 ^ k % 10 = d at *
    have hTd : d * 10 ^ (rs.length - 1 - i) ≤ numF rs := by rw [hk]; omega
    have h1 := brR_num i d rs hs (by omega) hd.1 hd.2 hTd
    have h2 := brR_vS i d rs hs (by omega) hd.1 hd.2 ((endB_iff i d rs hs (by omega) hd.1 hd.2).2 hTd)
    rw [hk] at h1
    have := tkR_vS n m k (i + 1) (brR (i + 1) d rs) (by omega) (by rw [brR_len]; exact hl) (brR_std _ _ _ hs) (by omega)
    rw [hl] at h2
    rw [this, h2]
    omega
theorem chR_vS : ∀ (r : Nat) (d : Int) (rs : List (Int × Int)), stdF rs → r < rs.length → 0 ≤ d → d ≤ 9 → numF rs + d * 10 ^ (rs.length - 1 - r) < 10 ^ rs.length → vS (chR (r + 1) d rs) rs.length = vS rs rs.length + d - 9 * (chC (r + 1) d rs : Nat)
  | r, d, rs, h, hr, h0, h9, hT => by
    have hv := vAt_bd h r
    by_cases hz : d = 0
    · subst hz; rw [chR_zero, chC_zero]; simp
    · have hn : ¬ d ≤ 0 := by omega
      by_cases hd : 9 < vAt rs r + d
      · cases r with
        | zero => exact (top_num rs d h hr hd hT).elim
        | succ r =>
          have e : (vAt rs (r + 1) + d) % 10 = vAt rs (r + 1) + d - 10 := by omega
          have e2 : (vAt rs (r + 1) + d) / 10 = 1 := by omega
          have hst := step_num rs r d hr
          have hs := stdF_set h (r + 1) ((vAt rs (r + 1) + d) % 10) (by omega) (by omega)
          have ih := chR_vS r 1 (rs.set (r + 1) (digR ((vAt rs (r + 1) + d) % 10))) hs (by rw [List.length_set]; omega) (by omega) (by omega) (by rw [List.length_set]; rw [e2] at hst; omega)
          rw [List.length_set, vS_set rs (r + 1) hr, if_pos hr, valF_digR, chC_set _ _ _ _ _ (Nat.le_refl _)] at ih
          unfold chR chC
          rw [if_neg hn, if_neg hn, if_pos hd, e2, ih]
          omega
      · have e : (vAt rs r + d) % 10 = vAt rs r + d := by omega
        have e2 : (vAt rs r + d) / 10 = 0 := by omega
        unfold chR chC
        rw [if_neg hn, if_neg hn, if_neg hd, e2, chR_zero, vS_set rs r hr, if_pos hr, valF_digR, e]
        simp; omega
theorem goR_vS (n : Nat) (m : Int) : ∀ (k i : Nat) (rs : List (Int × Int)), i + k = n → rs.length = n → stdF rs → numF rs + m % 10 ^ k < 10 ^ n → vS (goR i ((digs n m).drop i) rs) n = vS rs n + sumI ((digs n m).drop i) - 9 * (goC i ((digs n m).drop i) rs : Nat)
  | 0, i, rs, hi, hl, hs, hT => by
    rw [List.drop_eq_nil_of_le (by rw [digs_len]; omega)]
    simp [goR, goC, sumI]
  | k + 1, i, rs, hi, hl, hs, hT => by
    rw [digs_drop n m i (by omega), goR, goC, sumI]
    rw [mod_next] at hT
    have hk : rs.length - 1 - i = k := by omega
    have hk2 : n - 1 - i = k := by omega
    rw [hk2]
    have hp : (0 : Int) < 10 ^ k := Int.pow_pos (by decide)
    have b1 := Int.emod_nonneg m (Int.ne_of_gt hp)
    have hd : 0 ≤ m / 10 ^ k % 10 ∧ m / 10 ^ k % 10 ≤ 9 := by omega
    generalize m / 10 ^ k % 10 = d at *
    have hTd : numF rs + d * 10 ^ (rs.length - 1 - i) < 10 ^ rs.length := by rw [hk, hl]; omega
    have h1 := chR_num i d rs hs (by omega) hd.1 hd.2 hTd
    have h2 := chR_vS i d rs hs (by omega) hd.1 hd.2 hTd
    rw [hk] at h1
    have := goR_vS n m k (i + 1) (chR (i + 1) d rs) (by omega) (by rw [chR_len]; exact hl) (chR_std _ _ _ hs) (by omega)
    rw [hl] at h2
    rw [this, h2]
    omega
/-- The digit sum of a number, by at most k digits. -/
def dsF : Nat → Int → Int
  | 0, _ => 0
  | k + 1, n => n % 10 + dsF k (n / 10)
theorem dsF_zero : ∀ k, dsF k 0 = 0
  | 0 => rfl
  | k + 1 => by unfold dsF; rw [show (0 : Int) / 10 = 0 from rfl, dsF_zero k]; rfl
theorem dsF_take {rs : List (Int × Int)} (hs : stdF rs) : ∀ (k j : Nat), k ≤ rs.length → k ≤ j → dsF j (numF (rs.take k)) = vS rs k
  | 0, j, _, _ => by rw [List.take_zero]; exact dsF_zero j
  | k + 1, j, hk, hj => by
    obtain ⟨i, rfl⟩ : ∃ i, j = i + 1 := ⟨j - 1, by omega⟩
    have hv := vAt_bd hs k
    rw [vAt_in (by omega)] at hv
    unfold dsF vS
    rw [numF_snoc rs k (by omega), show (10 * numF (rs.take k) + valF rs[k]) % 10 = valF rs[k] by omega, show (10 * numF (rs.take k) + valF rs[k]) / 10 = numF (rs.take k) by omega, dsF_take hs k i (by omega) (by omega), vAt_in (by omega)]
    omega
theorem dsF_num {rs : List (Int × Int)} (hs : stdF rs) (j : Nat) (hj : rs.length ≤ j) : dsF j (numF rs) = vS rs rs.length := by
  have := dsF_take hs rs.length j (Nat.le_refl _) hj
  rwa [List.take_of_length_le (Nat.le_refl _)] at this
theorem vS_range (rs : List (Int × Int)) : ∀ k, vS rs k = sumI ((List.range k).map (vAt rs)) := by
  have app : ∀ a b : List Int, sumI (a ++ b) = sumI a + sumI b := by
    intro a b
    induction a with
    | nil => simp [sumI]
    | cons x t ih => rw [List.cons_append, sumI, sumI, ih]; omega
  intro k
  induction k with
  | zero => rfl
  | succ k ih => unfold vS; rw [ih, List.range_succ, List.map_append, app]; simp [sumI]
theorem digs_sum (n : Nat) (m : Int) (h0 : 0 ≤ m) (h1 : m < 10 ^ n) (j : Nat) (hj : n ≤ j) : sumI (digs n m) = dsF j m := by
  have hs : stdF (forR n m) := by
    intro i hi
    rw [forR_at]
    exact digR_bd _ (by omega) (by omega)
  have := dsF_num hs j (by rw [forR_len]; exact hj)
  rw [numF_forR n m h0 h1, forR_len, vS_range] at this
  rw [this]
  congr 1
  unfold digs
  refine List.map_congr_left (fun i hi => ?_)
  have hi' : i < (forR n m).length := by rw [forR_len]; exact List.mem_range.1 hi
  rw [vAt_in hi', forR_at, valF_digR]
/-- The digit sums of a number, of what is taken and of the rest. -/
theorem tk_sums {up lo : Int} {rs : List (Int × Int)} {m : Int} (hc : canT up lo rs m) : dsF 20 (numF rs) - dsF 20 m + 9 * ((tkC 0 (digs rs.length m) rs : Nat) : Int) = dsF 20 (numF rs - m) := by
  have hb := tk_back hc
  obtain ⟨hg, hs, h0, h1⟩ := hc
  have hbd := numF_stdb hs
  have hl8 : rs.length ≤ 20 := by have := hg.2.2.2; omega
  have hm : m % 10 ^ rs.length = m := Int.emod_eq_of_lt h0 (by omega)
  have h := tkR_vS rs.length m rs.length 0 rs (by omega) rfl hs (by rw [hm]; exact h1)
  rw [List.drop_zero, digs_sum rs.length m h0 (by omega) 20 hl8] at h
  have h2 := dsF_num (tkR_std (digs rs.length m) 0 rs hs) 20 (by rw [tkR_len]; exact hl8)
  rw [hb.2.2, tkR_len, h] at h2
  rw [h2, dsF_num hs 20 hl8]
theorem go_sums {up lo : Int} {rs : List (Int × Int)} {m : Int} (hc : canF up lo rs m) : dsF 20 (numF rs) + dsF 20 m - 9 * ((goC 0 (digs rs.length m) rs : Nat) : Int) = dsF 20 (numF rs + m) := by
  obtain ⟨hg, hs, h0, h1, h3⟩ := hc
  have hl8 : rs.length ≤ 20 := by have := hg.2.2.2; omega
  have hm : m % 10 ^ rs.length = m := Int.emod_eq_of_lt h0 h1
  have h := goR_vS rs.length m rs.length 0 rs (by omega) rfl hs (by rw [hm]; exact h3)
  have hn := goR_num rs.length m rs.length 0 rs (by omega) rfl hs (by rw [hm]; exact h3)
  rw [List.drop_zero, hm] at hn
  rw [List.drop_zero, digs_sum rs.length m h0 h1 20 hl8] at h
  have h2 := dsF_num (goR_std (digs rs.length m) 0 rs hs) 20 (by rw [goR_len]; exact hl8)
  rw [hn, goR_len, h] at h2
  rw [h2, dsF_num hs 20 hl8]
end Go.Proofs.Ythmbehknacjodaa
