/- The plain form of a board, as the model makes it. -/
import Derived.Test.YtbdddpchlmddbaaDoorBcarry
namespace Go.Proofs.YtbdddpchlmddbaaDoor
set_option linter.unusedVariables false
open Go.RowKit

structure PlS where
  os : List Int
  ot : List Int
  n : Int
  ok : Prop
def plA (k : Nat) (s : PlS) : PlS := ⟨mvL true k (s.os.getD k 0 / 5) s.os, mvS true k (s.os.getD k 0 / 5) s.ot, s.n + s.os.getD k 0 / 5, s.ok ∧ okB (mvL true k (s.os.getD k 0 / 5) s.os) (mvS true k (s.os.getD k 0 / 5) s.ot)⟩
def plC (k : Nat) (s : PlS) : PlS := ⟨mvL false k (s.ot.getD k 0 / 2) s.os, mvS false k (s.ot.getD k 0 / 2) s.ot, s.n + s.ot.getD k 0 / 2, s.ok ∧ okB (mvL false k (s.ot.getD k 0 / 2) s.os) (mvS false k (s.ot.getD k 0 / 2) s.ot)⟩
def plR (ls ss : List Int) : Nat → PlS
  | 0 => ⟨ls, ss, 0, True⟩
  | k + 1 => plC k (plA k (plR ls ss k))
def plF (ls ss : List Int) : PlS := plA (ls.length - 1) (plR ls ss (ls.length - 1))
def bdN (M : Int) (l : List Int) : Prop := ∀ k (h : k < l.length), 0 ≤ l[k] ∧ l[k] ≤ M
theorem bdN.set {M M' : Int} {l : List Int} (h : bdN M l) (hM : M ≤ M') (k : Nat) (x : Int) (hx : 0 ≤ x ∧ x ≤ M') : bdN M' (l.set k x) := by
  intro i hi
  rw [List.length_set] at hi
  by_cases e : i = k
  · subst e; rw [List.getElem_set_self]; exact hx
  · rw [List.getElem_set_ne (fun e' => e e'.symm)]; have := h i hi; omega
theorem bdN.bd {M : Int} {l : List Int} (h : bdN M l) (hM : M ≤ 100000) : bdB l := fun k hk => by have := h k hk; omega
theorem mvA_bd {M : Int} {os ot : List Int} (h0 : 0 ≤ M) (b1 : bdN M os) (b2 : bdN M ot) (k : Nat) (h1 : k < os.length) (h2 : k < ot.length) (t : Int) (ht : t = os[k] / 5) : bdN M (mvL true k t os) ∧ bdN (2 * M) (mvS true k t ot) := by
  have x := b1 k h1
  have y := b2 k h2
  unfold mvL mvS
  rw [if_pos rfl, if_pos rfl, getDi_at os k h1, getDi_at ot k h2]
  exact ⟨b1.set (Int.le_refl _) k _ (by omega), b2.set (by omega) k _ (by omega)⟩
theorem mvC_bd {M : Int} {os ot : List Int} (h0 : 0 ≤ M) (b1 : bdN M os) (b2 : bdN (2 * M) ot) (k : Nat) (h1 : k + 1 < os.length) (h2 : k < ot.length) (t : Int) (ht : t = ot[k] / 2) : bdN (2 * M) (mvL false k t os) ∧ bdN (2 * M) (mvS false k t ot) := by
  have x := b1 (k + 1) h1
  have y := b2 k h2
  unfold mvL mvS
  rw [if_neg (by simp), if_neg (by simp), getDi_at os (k + 1) h1, getDi_at ot k h2]
  exact ⟨b1.set (by omega) (k + 1) _ (by omega), b2.set (Int.le_refl _) k _ (by omega)⟩
def Mk (k : Nat) : Int := 30 * 2 ^ k
theorem Mk_next (k : Nat) : Mk (k + 1) = 2 * Mk k := by unfold Mk; rw [Int.pow_succ]; omega
theorem Mk_le (k : Nat) (h : k ≤ 5) : 0 ≤ Mk k ∧ Mk k ≤ 960 := by
  have : k = 0 ∨ k = 1 ∨ k = 2 ∨ k = 3 ∨ k = 4 ∨ k = 5 := by omega
  rcases this with rfl | rfl | rfl | rfl | rfl | rfl <;> decide
theorem okB.bdN {ls ss : List Int} (h : okB ls ss) : bdN 30 ls ∧ bdN 30 ss :=
  ⟨fun k hk => (h.2.2 k hk (by rw [h.2.1]; exact hk)).1, fun k hk => (h.2.2 k (by rw [← h.2.1]; exact hk) hk).2⟩
/-- The answer of PlainBoard. -/
def PnF (ls ss qs qt : List Int) (n : Int) (r : Bool) : Prop :=
  ((okB ls ss ∧ (plF ls ss).ok ∧ plB (plF ls ss).os (plF ls ss).ot) ∧ qs = (plF ls ss).os ∧ qt = (plF ls ss).ot ∧ n = (plF ls ss).n ∧ r = true) ∨
  (¬ (okB ls ss ∧ (plF ls ss).ok ∧ plB (plF ls ss).os (plF ls ss).ot) ∧ qs = [] ∧ qt = [] ∧ n = 0 ∧ r = false)
theorem pnF_or (ls ss : List Int) : ∃ qs qt n r, PnF ls ss qs qt n r := by
  by_cases h : okB ls ss ∧ (plF ls ss).ok ∧ plB (plF ls ss).os (plF ls ss).ot
  · exact ⟨_, _, _, _, .inl ⟨h, rfl, rfl, rfl, rfl⟩⟩
  · exact ⟨_, _, _, _, .inr ⟨h, rfl, rfl, rfl, rfl⟩⟩
end Go.Proofs.YtbdddpchlmddbaaDoor
