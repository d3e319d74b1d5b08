/- Systems of units and amounts in them: what is valid, values, proper amounts. -/
import Derived.Test.YtghdmiimanhjgaaDoorUnits
import Derived.Test.YtghdmiimanhjgaaDoorAmts
import Derived.Test.YtghdmiimanhjgaaDoorWord
namespace Go.Proofs.YtghdmiimanhjgaaDoor
set_option linter.unusedVariables false
open Go.RowKit

def szU (us : List Un) (i : Nat) : Int := match us[i]? with | some u => u.sz | none => 1
def cA (cs : List Int) (i : Nat) : Int := match cs[i]? with | some c => c | none => 0
theorem szU_at (us : List Un) (i : Nat) (h : i < us.length) : szU us i = us[i].sz := by unfold szU; rw [List.getElem?_eq_getElem h]
theorem cA_at (cs : List Int) (i : Nat) (h : i < cs.length) : cA cs i = cs[i] := by unfold cA; rw [List.getElem?_eq_getElem h]
/-- What is asked of the unit at a place, but for its name's being new. -/
def szOk (i : Nat) (s : Int) : Prop := (i = 0 → s = 1) ∧ (0 < i → 2 ≤ s ∧ s ≤ 100)
def uGood (us : List Un) (i : Nat) (h : i < us.length) : Prop := isWord us[i].nm ∧ szOk i us[i].sz ∧ ∀ k (hk : k < i), us[k].nm ≠ us[i].nm
/-- A system. -/
def okS (us : List Un) : Prop := (1 ≤ us.length ∧ us.length ≤ 6) ∧ ∀ i (h : i < us.length), uGood us i h
/-- An amount in a system. -/
def okC (cs : List Int) : Prop := ∀ i (h : i < cs.length), 0 ≤ cs[i] ∧ cs[i] ≤ 9999
def okAm (us : List Un) (cs : List Int) : Prop := okS us ∧ cs.length = us.length ∧ okC cs
theorem okS_sz {us : List Un} (h : okS us) (i : Nat) : 1 ≤ szU us i ∧ szU us i ≤ 100 := by
  unfold szU
  rcases Nat.lt_or_ge i us.length with hi | hi
  · rw [List.getElem?_eq_getElem hi]
    obtain ⟨_, ⟨h1, h2⟩, _⟩ := h.2 i hi
    show 1 ≤ us[i].sz ∧ us[i].sz ≤ 100
    by_cases h0 : i = 0
    · have := h1 h0; omega
    · have := h2 (by omega); omega
  · rw [List.getElem?_eq_none hi]
    show (1 : Int) ≤ 1 ∧ (1 : Int) ≤ 100
    omega
theorem okS_first {us : List Un} (h : okS us) : szU us 0 = 1 := by
  have hl : 0 < us.length := h.1.1
  rw [szU_at us 0 hl]; exact (h.2 0 hl).2.1.1 rfl
theorem okC_at {cs : List Int} (h : okC cs) (i : Nat) : 0 ≤ cA cs i ∧ cA cs i ≤ 9999 := by
  unfold cA
  rcases Nat.lt_or_ge i cs.length with hi | hi
  · rw [List.getElem?_eq_getElem hi]; exact h i hi
  · rw [List.getElem?_eq_none hi]
    show (0 : Int) ≤ 0 ∧ (0 : Int) ≤ 9999
    omega
/-- The value of the last d units' counts, in the unit before them. -/
def valD (us : List Un) (cs : List Int) : Nat → Int
  | 0 => 0
  | d + 1 => (valD us cs d + cA cs (us.length - 1 - d)) * szU us (us.length - 1 - d)
def valA (us : List Un) (cs : List Int) : Int := valD us cs us.length
theorem valD_step (us : List Un) (cs : List Int) (k d : Nat) (h : k + 1 + d = us.length) : valD us cs (d + 1) = (valD us cs d + cA cs k) * szU us k := by
  have e : us.length - 1 - d = k := by omega
  rw [valD, e]
theorem hund_pos (d : Nat) : (1 : Int) ≤ 100 ^ d := by
  induction d with
  | zero => simp
  | succ n ih => rw [Int.pow_succ]; omega
theorem valD_bound {us : List Un} {cs : List Int} (h : okAm us cs) : ∀ d, 0 ≤ valD us cs d ∧ valD us cs d + 10100 ≤ 10100 * 100 ^ d
  | 0 => by simp [valD]
  | d + 1 => by
    obtain ⟨h1, h2⟩ := valD_bound h d
    have hs := okS_sz h.1 (us.length - 1 - d)
    have hc := okC_at h.2.2 (us.length - 1 - d)
    rw [valD]
    generalize szU us (us.length - 1 - d) = s at hs ⊢
    generalize cA cs (us.length - 1 - d) = c at hc ⊢
    generalize valD us cs d = v at h1 h2 ⊢
    have e1 : (v + c) * s ≤ (v + c) * 100 := Int.mul_le_mul_of_nonneg_left hs.2 (by omega)
    have e2 : 0 ≤ (v + c) * s := Int.mul_nonneg (by omega) (by omega)
    rw [Int.pow_succ]
    generalize (100 : Int) ^ d = P at h2 ⊢
    omega
theorem valD_lt {us : List Un} {cs : List Int} (h : okAm us cs) (d : Nat) (hd : d < us.length) : 0 ≤ valD us cs d ∧ valD us cs d ≤ 100999999990000 := by
  obtain ⟨h1, h2⟩ := valD_bound h d
  have h5 : d ≤ 5 := by have := h.1.1.2; omega
  refine ⟨h1, ?_⟩
  have : (100 : Int) ^ d ≤ 100 ^ 5 := by
    have hd' : d = 0 ∨ d = 1 ∨ d = 2 ∨ d = 3 ∨ d = 4 ∨ d = 5 := by omega
    rcases hd' with rfl | rfl | rfl | rfl | rfl | rfl <;> decide
  have e5 : (100 : Int) ^ 5 = 10000000000 := by decide
  rw [e5] at this
  generalize (100 : Int) ^ d = P at this h2
  omega
theorem valA_lt {us : List Un} {cs : List Int} (h : okAm us cs) : 0 ≤ valA us cs ∧ valA us cs ≤ 101000000000000 := by
  obtain ⟨n, hn⟩ : ∃ n, us.length = n + 1 := ⟨us.length - 1, by have := h.1.1.1; omega⟩
  have h1 := valD_lt h n (by omega)
  have hc := okC_at h.2.2 0
  unfold valA
  rw [hn, valD_step us cs 0 n (by omega), okS_first h.1]
  omega

/-- What is left of a value in the unit at place i. -/
def curV (us : List Un) (v : Int) : Nat → Int
  | 0 => v
  | i + 1 => curV us v i / szU us (i + 1)
def digV (us : List Un) (v : Int) (i : Nat) : Int := if i + 1 < us.length then curV us v i % szU us (i + 1) else curV us v i
/-- The counts of the proper amount. -/
def propL (us : List Un) (v : Int) : List Int := (List.range us.length).map (digV us v)
theorem propL_len (us : List Un) (v : Int) : (propL us v).length = us.length := by simp [propL]
theorem propL_at (us : List Un) (v : Int) (i : Nat) (h : i < (propL us v).length) : (propL us v)[i] = digV us v i := by simp [propL]
theorem curV_lt {us : List Un} (hs : okS us) {v : Int} (h0 : 0 ≤ v) : ∀ i, 0 ≤ curV us v i ∧ curV us v i ≤ v
  | 0 => ⟨h0, Int.le_refl _⟩
  | i + 1 => by
    obtain ⟨h1, h2⟩ := curV_lt hs h0 i
    have h3 := okS_sz hs (i + 1)
    rw [curV]
    have e1 : 0 ≤ curV us v i / szU us (i + 1) := Int.ediv_nonneg h1 (by omega)
    have e2 : curV us v i / szU us (i + 1) ≤ curV us v i := Int.ediv_le_self _ h1
    exact ⟨e1, by omega⟩
/-- There is a proper amount. -/
def okP (us : List Un) (v : Int) : Prop := 0 ≤ v ∧ curV us v (us.length - 1) ≤ 9999
theorem digV_in {us : List Un} (hs : okS us) {v : Int} (h : okP us v) (i : Nat) (hi : i < us.length) : 0 ≤ digV us v i ∧ digV us v i ≤ 9999 := by
  unfold digV
  obtain ⟨h1, h2⟩ := curV_lt hs h.1 i
  by_cases hlt : i + 1 < us.length
  · rw [if_pos hlt]
    have h3 := okS_sz hs (i + 1)
    have e1 := Int.emod_nonneg (curV us v i) (b := szU us (i + 1)) (by omega)
    have e2 := Int.emod_lt_of_pos (curV us v i) (b := szU us (i + 1)) (by omega)
    omega
  · rw [if_neg hlt]
    have e : us.length - 1 = i := by omega
    have := h.2
    rw [e] at this
    omega
theorem prop_ok {us : List Un} (hs : okS us) {v : Int} (h : okP us v) : okAm us (propL us v) :=
  ⟨hs, propL_len us v, fun i hi => by rw [propL_at]; exact digV_in hs h i (by rw [propL_len] at hi; exact hi)⟩
theorem prop_no {us : List Un} (hs : okS us) {v : Int} (h0 : 0 ≤ v) (h : ¬ okP us v) : ¬ okC (propL us v) := by
  intro hc
  apply h
  have hl := hs.1.1
  have h1 := hc (us.length - 1) (by rw [propL_len]; omega)
  rw [propL_at] at h1
  unfold digV at h1
  rw [if_neg (by omega)] at h1
  exact ⟨h0, h1.2⟩
/-- The answer of the making of a proper amount. -/
def PropF (us : List Un) (v : Int) (qs : List Int) (r : Bool) : Prop := (okP us v ∧ qs = propL us v ∧ r = true) ∨ (¬ okP us v ∧ qs = [] ∧ r = false)
theorem propF_or (us : List Un) (v : Int) : ∃ qs r, PropF us v qs r := by
  by_cases h : okP us v
  · exact ⟨_, _, .inl ⟨h, rfl, rfl⟩⟩
  · exact ⟨_, _, .inr ⟨h, rfl, rfl⟩⟩
/-- As PropF, behind a test. -/
def TestF (P : Prop) (us : List Un) (v : Int) (qs : List Int) (r : Bool) : Prop := (P ∧ PropF us v qs r) ∨ (¬ P ∧ qs = [] ∧ r = false)
theorem testF_or (P : Prop) (us : List Un) (v : Int) : ∃ qs r, TestF P us v qs r := by
  by_cases h : P
  · obtain ⟨qs, r, h2⟩ := propF_or us v
    exact ⟨qs, r, .inl ⟨h, h2⟩⟩
  · exact ⟨_, _, .inr ⟨h, rfl, rfl⟩⟩
theorem propF_len {us : List Un} {v : Int} {qs : List Int} {r : Bool} (hs : okS us) (h : PropF us v qs r) : qs.length ≤ 1000 := by
  rcases h with ⟨_, rfl, _⟩ | ⟨_, rfl, _⟩
  · rw [propL_len]; have := hs.1.2; omega
  · simp
theorem testF_len {P : Prop} {us : List Un} {v : Int} {qs : List Int} {r : Bool} (hs : P → okS us) (h : TestF P us v qs r) : qs.length ≤ 1000 := by
  rcases h with ⟨h1, h2⟩ | ⟨_, rfl, _⟩
  · exact propF_len (hs h1) h2
  · simp

/-- The rows of the first n elements. -/
theorem rows_take {α : Type} {c : Nat} {cells : α → List Value} {w : World} {a : Option Addr} {cap : Nat} {ps : List α} (h : RowsR c cells w (.slice a ps.length cap) ps) (n : Nat) (hn : n ≤ ps.length) : RowsR c cells w (.slice a n cap) (ps.take n) := by
  obtain ⟨a', cap', e, ⟨h1, h2⟩, h3⟩ := h
  obtain ⟨rfl, _, rfl⟩ := Value.slice.inj e
  have hl : (ps.take n).length = n := by rw [List.length_take]; omega
  refine ⟨a, cap, by rw [hl], by rw [hl]; omega, fun hx => ?_⟩
  rw [hl] at hx
  obtain ⟨b, off, g1, g2, g3⟩ := h3 (by omega)
  refine ⟨b, off, g1, g2, fun i hi j hj => ?_⟩
  rw [hl] at hi
  rw [List.getElem_take]
  exact g3 i (by omega) j hj
end Go.Proofs.YtghdmiimanhjgaaDoor
