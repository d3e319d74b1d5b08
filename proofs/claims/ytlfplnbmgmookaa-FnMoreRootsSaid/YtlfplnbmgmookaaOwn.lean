/- Copies of frames: slices.Clone of rods, the model's l2Own. -/
import Derived.Test.YtlfplnbmgmookaaKb
import Derived.Test.YtlfplnbmgmookaaKa
import Derived.Lib.SliceRun
import Derived.Lib.Walk
import Derived.Deep.RegionHeld3
import Derived.Deep.AppendLies
import Derived.Deep.RegionLaw
namespace Go.Proofs.Ytlfplnbmgmookaa
set_option linter.unusedVariables false
open Go.RowKit

theorem own_relen {w : World} {B : Nat} {e : TypeId} {size : Nat} {v : Value} {n k : Nat} {xs : List Value} (h : k = n) (ho : w.ownsRow B e size v n xs) : w.ownsRow B e size v k xs := by subst h; exact ho
theorem own_set3 {w : World} {B : Nat} {e : TypeId} {size : Nat} {v : Value} {n : Nat} {xs : List Value} {g : Nat} (h : w.ownsRow B e size v n xs) (hg : g < B) (x y z : Value) :
    (((w.setCell ⟨g, 0, none⟩ x).setCell ⟨g, 1, none⟩ y).setCell ⟨g, 2, none⟩ z).ownsRow B e size v n xs :=
  ownsRow_setCell_below (ownsRow_setCell_below (ownsRow_setCell_below h (a := ⟨g, 0, none⟩) hg x) (a := ⟨g, 1, none⟩) hg y) (a := ⟨g, 2, none⟩) hg z
theorem bl_set3 {w0 w : World} {B g : Nat} (h : Below B w0 w) (hg : B ≤ g) (x y z : Value) : Below B w0 (((w.setCell ⟨g, 0, none⟩ x).setCell ⟨g, 1, none⟩ y).setCell ⟨g, 2, none⟩ z) :=
  ((h.setCell (p := ⟨g, 0, none⟩) hg x).setCell (p := ⟨g, 1, none⟩) hg y).setCell (p := ⟨g, 2, none⟩) hg z
theorem own_block {w : World} {base size n : Nat} {e : TypeId} {v : Value} {xs : List Value} (h : w.ownsRow base e size v n xs) (hn : 0 < n) : ∃ g cap, v = .slice (some ⟨g, 0, none⟩) n cap := by
  rcases h.2 with ⟨_, h0⟩ | ⟨g, cap, cur, rfl, _⟩
  · omega
  · exact ⟨g, cap, rfl⟩
theorem rods_news {w : World} {a : Option Addr} {c : Nat} {rs : List (Int × Int)} (h : RodsR w (.slice a rs.length c) rs) (h0 : 0 < rs.length) :
    ∃ b off, a = some ⟨b, off, none⟩ ∧ b < w.heap.size ∧ ∀ w', Below w.heap.size w w' → ∀ j u, (flat rs)[j]? = some u → w'.cell? ((⟨b, off, none⟩ : Addr).add j) = some u := by
  obtain ⟨a', c', e, _, h3⟩ := h
  obtain ⟨b, off, ha, hlt, hc⟩ := h3 (by intro e; subst e; simp at h0)
  have : a = a' := by injection e
  subst this
  refine ⟨b, off, ha, hlt, fun w' hb j u hu => ?_⟩
  have hj : j < rs.length * 2 := by
    rcases Nat.lt_or_ge j (flat rs).length with h' | h'
    · rwa [flat_len] at h'
    · rw [List.getElem?_eq_none h'] at hu; cases hu
  have hadd : (⟨b, off, none⟩ : Addr).add j = ⟨b, off + j, none⟩ := by cases j <;> simp [Addr.add]
  rw [hadd]
  have hf := flat_at rs (j / 2) (by omega)
  have hcc := hc (j / 2) (by omega)
  by_cases hod : j % 2 = 0
  · have e : j / 2 * 2 = j := by omega
    rw [e] at hf hcc
    rw [hf.1] at hu
    exact ((hb.cell (p := ⟨b, off + j, none⟩) hlt).trans hcc.1).trans hu
  · have e : j / 2 * 2 + 1 = j := by omega
    rw [Nat.add_assoc, e] at hcc
    rw [e] at hf
    rw [hf.2] at hu
    exact ((hb.cell (p := ⟨b, off + j, none⟩) hlt).trans hcc.2).trans hu
theorem flat_one {rs : List (Int × Int)} : ∀ u ∈ flat rs, u.oneCell' = true := by
  induction rs with
  | nil => intro u hu; cases hu
  | cons r t ih =>
    intro u hu
    simp only [flat, List.mem_cons] at hu
    rcases hu with rfl | rfl | hu
    · rfl
    · rfl
    · exact ih u hu
theorem flat_set (rs : List (Int × Int)) (q : Nat) (hq : q < rs.length) (r : Int × Int) : ((flat rs).set (q * 2) (.int .i64 r.1)).set (q * 2 + 1) (.int .i64 r.2) = flat (rs.set q r) := by
  apply flat_of
  · rw [List.length_set, List.length_set, flat_len, List.length_set]
  · intro j h
    have hl : j < rs.length := by simpa using h
    have hf := flat_at rs j hl
    have hll := flat_len rs
    by_cases e : j = q
    · subst e
      rw [List.getElem_set_self]
      exact ⟨by rw [List.getElem?_set_ne (by omega), List.getElem?_set_self (by omega)], by rw [List.getElem?_set_self (by rw [List.length_set]; omega)]⟩
    · rw [List.getElem_set_ne (by omega)]
      exact ⟨by rw [List.getElem?_set_ne (by omega), List.getElem?_set_ne (by omega)]; exact hf.1, by rw [List.getElem?_set_ne (by omega), List.getElem?_set_ne (by omega)]; exact hf.2⟩

end Go.Proofs.Ytlfplnbmgmookaa
