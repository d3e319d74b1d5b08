/- Ints in fresh memory, wherever in a block they lie (an array in a struct too): read, kept, marked. -/
import Derived.Test.YtjkjaadcdolbhaaDoorInts
import Derived.Test.YtjkjaadcdolbhaaDoorKf
namespace Go.Proofs.YtjkjaadcdolbhaaDoor
set_option linter.unusedVariables false
open Go.RowKit

def OcR (lo hi : Nat) (w : World) (v : Value) (xs : List Int) : Prop :=
  ∃ a cap, v = .slice a xs.length cap ∧ (xs.length ≤ cap ∧ cap ≤ maxLen) ∧ (0 < xs.length → ∃ g off T cs, a = some ⟨g, off, none⟩ ∧ (lo ≤ g ∧ g < hi) ∧ w.heap[g]? = some (.cells cs T (0, 0)) ∧ ∀ (i : Nat) (h : i < xs.length), cs[off + i]? = some (.int .i64 xs[i]))
theorem OcR.form {lo hi : Nat} {w : World} {v : Value} {xs : List Int} (h : OcR lo hi w v xs) : ∃ a cap, v = .slice a xs.length cap := by
  obtain ⟨a, cap, h1, _⟩ := h
  exact ⟨a, cap, h1⟩
theorem OcR.keep {lo hi : Nat} {w w' : World} {v : Value} {xs : List Int} (h : OcR lo hi w v xs) (hk : ∀ g, lo ≤ g → g < hi → g < w.heap.size → w'.heap[g]? = w.heap[g]?) : OcR lo hi w' v xs := by
  obtain ⟨a, cap, h1, h2, h3⟩ := h
  refine ⟨a, cap, h1, h2, fun h0 => ?_⟩
  obtain ⟨g, off, T, cs, e1, e2, e3, e4⟩ := h3 h0
  exact ⟨g, off, T, cs, e1, e2, (hk g e2.1 e2.2 (Array.getElem?_eq_some_iff.1 e3).1).trans e3, e4⟩
theorem OcR.next {lo hi : Nat} {w w' : World} {v : Value} {xs : List Int} (h : OcR lo hi w v xs) (hb : Below w.heap.size w w') : OcR lo hi w' v xs := h.keep fun g _ _ h3 => hb.block g h3
theorem OcR.btw {lo hi a b : Nat} {w w' : World} {v : Value} {xs : List Int} (h : OcR lo hi w v xs) (hm : Btw a b w w') (hd : hi ≤ a ∨ b ≤ lo) : OcR lo hi w' v xs :=
  h.keep fun g h1 h2 h3 => hm.block g (by omega)
theorem OcR.reads {lo hi : Nat} {w : World} {v : Value} {xs : List Int} (h : OcR lo hi w v xs) : RowsR 1 inC w v xs := by
  obtain ⟨a, cap, h1, h2, h3⟩ := h
  refine ⟨a, cap, h1, ⟨by omega, h2.1⟩, fun h0 => ?_⟩
  obtain ⟨g, off, T, cs, e1, e2, e3, e4⟩ := h3 h0
  refine ⟨g, off, e1, (Array.getElem?_eq_some_iff.1 e3).1, fun i hi j hj => ?_⟩
  have hj0 : j = 0 := by omega
  subst hj0
  have := e4 i hi
  simp [World.cell?, e3, inC, this]
theorem OcR.of_own {lo : Nat} {w : World} {e : TypeId} {v : Value} {xs : List Int} (h : w.ownsRow lo e 1 v xs.length (flatC inC xs)) : OcR lo w.heap.size w v xs := by
  have h' := h
  rcases h.2 with ⟨rfl, h0⟩ | ⟨g, cap, cur, rfl, hb, hg, hnc, hc, hsz, ht⟩
  · exact ⟨none, 0, by rw [h0], by rw [h0]; exact ⟨Nat.le_refl _, Nat.zero_le _⟩, fun h1 => absurd h1 (by omega)⟩
  · refine ⟨_, cap, rfl, ⟨hnc, hc⟩, fun _ => ⟨g, 0, e, cur, rfl, ⟨hb, (h'.lt g rfl).2⟩, hg, fun i hi => ?_⟩⟩
    have h1 := h'.cellAt i (by omega)
    have h2 := flatC_at inC_len xs i hi 0 (by omega)
    rw [Nat.mul_one, Nat.add_zero] at h2
    rw [h2] at h1
    rw [Nat.zero_add]
    simp only [World.cell?, hg] at h1
    simpa [inC] using h1
/-- The kinds in an addition's box. -/
theorem ocr_box {w w' : World} {g : Nat} {x0 x1 x2 x3 x4 : Value} {j0 j1 j2 j3 : Int} {T : TypeId} (hh : w'.heap[g]? = some (.cells #[x0, x1, x2, x3, x4, .int .i64 j0, .int .i64 j1, .int .i64 j2, .int .i64 j3] T (0, 0))) (h1 : w.heap.size ≤ g) (h2 : g < w'.heap.size) :
    OcR w.heap.size w'.heap.size w' (.slice (some ⟨g, 5, none⟩) 4 4) [j0, j1, j2, j3] := by
  refine ⟨_, 4, rfl, ⟨by simp, by unfold maxLen; omega⟩, fun _ => ⟨g, 5, T, _, rfl, ⟨h1, h2⟩, hh, fun i hi => ?_⟩⟩
  have hi4 : i < 4 := by simpa using hi
  rcases (by omega : i = 0 ∨ i = 1 ∨ i = 2 ∨ i = 3) with rfl | rfl | rfl | rfl <;> rfl
theorem goK_len : ∀ (ds : List Int) (i : Nat) (rs : List (Int × Int)) (ks : List Int), (goK i ds rs ks).length = ks.length
  | [], _, _, _ => rfl
  | d :: ds, i, rs, ks => by
    unfold goK; rw [goK_len ds]; split
    · exact List.length_set
    · rfl
end Go.Proofs.YtjkjaadcdolbhaaDoor
