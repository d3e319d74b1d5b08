/- The model's carries and borrows. -/
import Derived.Test.YtgmaelgihlcaeaaDoorBown
import Derived.StillTailTactics
namespace Go.Proofs.YtgmaelgihlcaeaaDoor
set_option linter.unusedVariables false
open Go.RowKit

theorem flat_iat (ls : List Int) (k : Nat) (hk : k < ls.length) : (flatC inC ls)[k]? = some (.int .i64 ls[k]) := by
  have := flatC_at inC_len ls k hk 0 (by omega)
  rw [Nat.mul_one, Nat.add_zero] at this
  exact this
theorem flat_iset (ls : List Int) (k : Nat) (x : Int) : (flatC inC ls).set k (.int .i64 x) = flatC inC (ls.set k x) := by
  rw [flat_int, flat_int, List.map_set]
theorem own_n {w : World} {B : Nat} {e : TypeId} {size g m c n : Nat} {xs : List Value} (h : w.ownsRow B e size (.slice (some ⟨g, 0, none⟩) m c) n xs) : m = n := by
  rcases h.2 with ⟨h1, _⟩ | ⟨g', c', _, h1, _⟩
  · injection h1 with h2; cases h2
  · injection h1
theorem OwB.at1 {lo hi g n c : Nat} {w : World} {v2 : Value} {ls ss : List Int} (h : OwB lo hi w (.slice (some ⟨g, 0, none⟩) n c) v2 ls ss) (k : Nat) (hk : k < ls.length) {x : Int} (hx : ls[k] = x) : w.cell? ⟨g, k, none⟩ = some (.int .i64 x) := by
  have hn := own_n h.1.1
  subst hn
  rw [← hx, ← flat_iat ls k hk]; exact h.1.1.cellAt k (show k < ls.length * 1 by omega)
theorem OwB.at2 {lo hi g n c : Nat} {w : World} {v1 : Value} {ls ss : List Int} (h : OwB lo hi w v1 (.slice (some ⟨g, 0, none⟩) n c) ls ss) (k : Nat) (hk : k < ss.length) {x : Int} (hx : ss[k] = x) : w.cell? ⟨g, k, none⟩ = some (.int .i64 x) := by
  have hn := own_n h.2.1.1
  subst hn
  rw [← hx, ← flat_iat ss k hk]; exact h.2.1.1.cellAt k (show k < ss.length * 1 by omega)
theorem OwB.st1 {lo hi g n c : Nat} {w : World} {v2 : Value} {ls ss : List Int} (h : OwB lo hi w (.slice (some ⟨g, 0, none⟩) n c) v2 ls ss) (k : Nat) (x : Int) : OwB lo hi (w.setCell ⟨g, k, none⟩ (.int .i64 x)) (.slice (some ⟨g, 0, none⟩) n c) v2 (ls.set k x) ss := by
  have hm : Btw g (g + 1) w (w.setCell ⟨g, k, none⟩ (.int .i64 x)) := (Btw.refl g (g + 1) w).setCell (p := ⟨g, k, none⟩) (Nat.le_refl _) (Nat.lt_succ_self _) _
  have hn := own_n h.1.1
  subst hn
  refine ⟨?_, h.2.1.off hm (fun g' hg' => by have := h.2.2 g rfl; have : g' ≠ g := (by intro e; subst e; exact this hg'); omega), h.2.2⟩
  have := h.1.stored k (.int .i64 x)
  rw [flat_iset] at this
  rw [List.length_set]; exact this
theorem OwB.st2 {lo hi g n c : Nat} {w : World} {v1 : Value} {ls ss : List Int} (h : OwB lo hi w v1 (.slice (some ⟨g, 0, none⟩) n c) ls ss) (k : Nat) (x : Int) : OwB lo hi (w.setCell ⟨g, k, none⟩ (.int .i64 x)) v1 (.slice (some ⟨g, 0, none⟩) n c) ls (ss.set k x) := by
  have hm : Btw g (g + 1) w (w.setCell ⟨g, k, none⟩ (.int .i64 x)) := (Btw.refl g (g + 1) w).setCell (p := ⟨g, k, none⟩) (Nat.le_refl _) (Nat.lt_succ_self _) _
  have hn := own_n h.2.1.1
  subst hn
  refine ⟨h.1.off hm (fun g' hg' => by have h1 := h.2.2 g' hg'; have : g' ≠ g := (by intro e; subst e; exact h1 rfl); omega), ?_, h.2.2⟩
  have := h.2.1.stored k (.int .i64 x)
  rw [flat_iset] at this
  rw [List.length_set]; exact this
theorem OwB.some' {lo hi : Nat} {w : World} {v1 v2 : Value} {ls ss : List Int} (h : OwB lo hi w v1 v2 ls ss) (h1 : 0 < ls.length) (h2 : 0 < ss.length) :
    ∃ g1 c1 g2 c2, v1 = .slice (some ⟨g1, 0, none⟩) ls.length c1 ∧ v2 = .slice (some ⟨g2, 0, none⟩) ss.length c2 ∧ (lo ≤ g1 ∧ g1 < hi ∧ g1 < w.heap.size) ∧ (lo ≤ g2 ∧ g2 < hi ∧ g2 < w.heap.size) := by
  obtain ⟨g1, c1, rfl⟩ := own_some h.1.1 h1
  obtain ⟨g2, c2, rfl⟩ := own_some h.2.1.1 h2
  exact ⟨g1, c1, g2, c2, rfl, rfl, ⟨(h.1.1.lt g1 rfl).1, h.1.2 g1 rfl, (h.1.1.lt g1 rfl).2⟩, (h.2.1.1.lt g2 rfl).1, h.2.1.2 g2 rfl, (h.2.1.1.lt g2 rfl).2⟩

def mvL (line : Bool) (k : Nat) (t : Int) (ls : List Int) : List Int := if line then ls.set k (ls.getD k 0 - 5 * t) else ls.set (k + 1) (ls.getD (k + 1) 0 + t)
def mvS (line : Bool) (k : Nat) (t : Int) (ss : List Int) : List Int := if line then ss.set k (ss.getD k 0 + t) else ss.set k (ss.getD k 0 - 2 * t)
theorem mvL_len (line : Bool) (k : Nat) (t : Int) (ls : List Int) : (mvL line k t ls).length = ls.length := by unfold mvL; split <;> simp
theorem mvS_len (line : Bool) (k : Nat) (t : Int) (ss : List Int) : (mvS line k t ss).length = ss.length := by unfold mvS; split <;> simp
/-- All counts lie in -100000 .. 100000. -/
def bdB (ls : List Int) : Prop := ∀ k (h : k < ls.length), -100000 ≤ ls[k] ∧ ls[k] ≤ 100000
theorem getDi_at (ls : List Int) (k : Nat) (h : k < ls.length) : ls.getD k 0 = ls[k] := by rw [List.getD_eq_getElem?_getD, List.getElem?_eq_getElem h]; rfl
end Go.Proofs.YtgmaelgihlcaeaaDoor
