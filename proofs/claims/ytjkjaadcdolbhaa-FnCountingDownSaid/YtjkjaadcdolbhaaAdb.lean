/- The box of an addition: its frame, its moves, its carries and kinds. -/
import Derived.Test.YtjkjaadcdolbhaaAdm
import Derived.Test.YtjkjaadcdolbhaaAppo
import Derived.Test.YtjkjaadcdolbhaaQbtw
import Derived.Test.YtjkjaadcdolbhaaSet
import Derived.Test.YtjkjaadcdolbhaaKa
namespace Go.Proofs.Ytjkjaadcdolbhaa
set_option linter.unusedVariables false
open Go.RowKit

/-- In a world: the box A of an addition, its rods and its moves, all in blocks from B on. -/
structure AdAt (B : Nat) (w : World) (A : Nat) (up lo : Int) (sv : Value) (mg mc : Nat) (rs : List (Int × Int)) (ms : List Mv) (c k0 k1 k2 k3 : Int) : Prop where
  ord : B ≤ A
  box : w.heap[A]? = some (.cells #[.int .i64 up, .int .i64 lo, sv, .slice (some ⟨mg, 0, none⟩) ms.length mc, .int .i64 c, .int .i64 k0, .int .i64 k1, .int .i64 k2, .int .i64 k3] 78 (0, 0))
  rods : w.ownsRow B 83 2 sv rs.length (flat rs)
  moves : w.ownsRow B 75 3 (.slice (some ⟨mg, 0, none⟩) ms.length mc) ms.length (flatC mvC ms)

theorem own_box {w : World} {B : Nat} {e : TypeId} {size n : Nat} {v : Value} {xs : List Value} (h : w.ownsRow B e size v n xs) {A : Nat} {cs : Array Value} {T : TypeId} (hb : w.heap[A]? = some (.cells cs T (0, 0))) (hT : T ≠ e) : ∀ g, v.ownBlock = some g → g ≠ A := by
  intro g hg e1
  subst e1
  obtain ⟨cur, hc⟩ := own_heap h hg
  rw [hb] at hc
  injection hc with hc
  injection hc with _ h3 _
  exact hT h3
theorem own_set_box {w : World} {B : Nat} {e : TypeId} {size n : Nat} {v : Value} {xs : List Value} (h : w.ownsRow B e size v n xs) {A : Nat} (hA : ∀ g, v.ownBlock = some g → g ≠ A) (i : Nat) (u : Value) : (w.setCell ⟨A, i, none⟩ u).ownsRow B e size v n xs :=
  own_of_block h fun g hg => Below.heap_setCell w ⟨A, i, none⟩ u g (hA g hg)
section
variable {B : Nat} {w : World} {A : Nat} {up lo : Int} {sv : Value} {mg mc : Nat} {rs : List (Int × Int)} {ms : List Mv} {c k0 k1 k2 k3 : Int}
theorem AdAt.lt (h : AdAt B w A up lo sv mg mc rs ms c k0 k1 k2 k3) : A < w.heap.size := (Array.getElem?_eq_some_iff.1 h.box).1
theorem AdAt.sne (h : AdAt B w A up lo sv mg mc rs ms c k0 k1 k2 k3) : ∀ g, sv.ownBlock = some g → g ≠ A := own_box h.rods h.box (by decide)
theorem AdAt.mne (h : AdAt B w A up lo sv mg mc rs ms c k0 k1 k2 k3) : ∀ g, (Value.slice (some ⟨mg, 0, none⟩) ms.length mc).ownBlock = some g → g ≠ A := own_box h.moves h.box (by decide)
theorem AdAt.next {w' : World} (h : AdAt B w A up lo sv mg mc rs ms c k0 k1 k2 k3) (hb : Below w.heap.size w w') : AdAt B w' A up lo sv mg mc rs ms c k0 k1 k2 k3 :=
  ⟨h.ord, (hb.block _ h.lt).trans h.box, own_below h.rods hb, own_below h.moves hb⟩
/-- The frame is set anew. -/
theorem AdAt.setF {rs' : List (Int × Int)} {sv' : Value} (h : AdAt B w A up lo sv mg mc rs ms c k0 k1 k2 k3) (ho : w.ownsRow B 83 2 sv' rs'.length (flat rs')) :
    AdAt B (((w.setCell ⟨A, 0, none⟩ (.int .i64 up)).setCell ⟨A, 1, none⟩ (.int .i64 lo)).setCell ⟨A, 2, none⟩ sv') A up lo sv' mg mc rs' ms c k0 k1 k2 k3 := by
  have hs := own_box ho h.box (by decide)
  have hm := h.mne
  refine ⟨h.ord, ?_, own_set_box (own_set_box (own_set_box ho hs _ _) hs _ _) hs _ _, own_set_box (own_set_box (own_set_box h.moves hm _ _) hm _ _) hm _ _⟩
  have h1 := heap_setCell_same w A 0 _ _ (.int .i64 up) h.box
  have h2 := heap_setCell_same _ A 1 _ _ (.int .i64 lo) h1
  have h3 := heap_setCell_same _ A 2 _ _ sv' h2
  simpa using h3
/-- The moves are longer now. -/
theorem AdAt.setM {w' : World} {g c' : Nat} {ns : List Mv} (h : AdAt B w A up lo sv mg mc rs ms c k0 k1 k2 k3) (ho : w'.ownsRow B 75 3 (.slice (some ⟨g, 0, none⟩) (ms.length + ns.length) c') (ms.length + ns.length) (flatC mvC ms ++ flatC mvC ns)) (hg : w.grownBy w' (some mg)) :
    AdAt B (w'.setCell ⟨A, 3, none⟩ (.slice (some ⟨g, 0, none⟩) (ms.length + ns.length) c')) A up lo sv g c' rs (ms ++ ns) c k0 k1 k2 k3 := by
  have hb : w'.heap[A]? = _ := (hg.block A h.lt (by intro e; injection e with e; exact h.mne mg rfl e.symm)).trans h.box
  have hr : w'.ownsRow B 83 2 sv rs.length (flat rs) := own_kept2 h.rods h.moves (by decide) hg
  have hs := own_box hr hb (by decide)
  have hm := own_box ho hb (by decide)
  rw [← flatC_app] at ho
  have hl : (ms ++ ns).length = ms.length + ns.length := List.length_append
  refine ⟨h.ord, ?_, own_set_box hr hs _ _, ?_⟩
  · have h3 := heap_setCell_same w' A 3 _ _ (.slice (some ⟨g, 0, none⟩) (ms.length + ns.length) c') hb
    rw [hl]
    simpa using h3
  · rw [hl]; exact own_set_box ho hm _ _
theorem AdAt.setC (h : AdAt B w A up lo sv mg mc rs ms c k0 k1 k2 k3) (x : Int) : AdAt B (w.setCell ⟨A, 4, none⟩ (.int .i64 x)) A up lo sv mg mc rs ms x k0 k1 k2 k3 := by
  refine ⟨h.ord, ?_, own_set_box h.rods h.sne _ _, own_set_box h.moves h.mne _ _⟩
  simpa using heap_setCell_same w A 4 _ _ (.int .i64 x) h.box
theorem AdAt.setK0 (h : AdAt B w A up lo sv mg mc rs ms c k0 k1 k2 k3) (x : Int) : AdAt B (w.setCell ⟨A, 5, none⟩ (.int .i64 x)) A up lo sv mg mc rs ms c x k1 k2 k3 := by
  refine ⟨h.ord, ?_, own_set_box h.rods h.sne _ _, own_set_box h.moves h.mne _ _⟩
  simpa using heap_setCell_same w A 5 _ _ (.int .i64 x) h.box
theorem AdAt.setK1 (h : AdAt B w A up lo sv mg mc rs ms c k0 k1 k2 k3) (x : Int) : AdAt B (w.setCell ⟨A, 6, none⟩ (.int .i64 x)) A up lo sv mg mc rs ms c k0 x k2 k3 := by
  refine ⟨h.ord, ?_, own_set_box h.rods h.sne _ _, own_set_box h.moves h.mne _ _⟩
  simpa using heap_setCell_same w A 6 _ _ (.int .i64 x) h.box
theorem AdAt.setK2 (h : AdAt B w A up lo sv mg mc rs ms c k0 k1 k2 k3) (x : Int) : AdAt B (w.setCell ⟨A, 7, none⟩ (.int .i64 x)) A up lo sv mg mc rs ms c k0 k1 x k3 := by
  refine ⟨h.ord, ?_, own_set_box h.rods h.sne _ _, own_set_box h.moves h.mne _ _⟩
  simpa using heap_setCell_same w A 7 _ _ (.int .i64 x) h.box
theorem AdAt.setK3 (h : AdAt B w A up lo sv mg mc rs ms c k0 k1 k2 k3) (x : Int) : AdAt B (w.setCell ⟨A, 8, none⟩ (.int .i64 x)) A up lo sv mg mc rs ms c k0 k1 k2 x := by
  refine ⟨h.ord, ?_, own_set_box h.rods h.sne _ _, own_set_box h.moves h.mne _ _⟩
  simpa using heap_setCell_same w A 8 _ _ (.int .i64 x) h.box
end
/-- The moves between a frame and the one with a rod set are the rod's. -/
theorem btwL_eq (rs1 rs2 : List (Int × Int)) : ∀ t, (∀ i, 2 * i < t → btw1 i 0 (rs1.getD i (0, 0)) (rs2.getD i (0, 0)) = [] ∧ btw1 i 1 (rs1.getD i (0, 0)) (rs2.getD i (0, 0)) = []) → btwL rs1 rs2 t = []
  | 0, _ => rfl
  | t + 1, h => by
    have ih := btwL_eq rs1 rs2 t (fun i hi => h i (by omega))
    unfold btwL at ih ⊢
    rw [List.range_succ, List.flatMap_append, ih]
    have h2 := h (t / 2) (by omega)
    simp only [List.flatMap_cons, List.flatMap_nil, List.append_nil, List.nil_append]
    rcases Nat.mod_two_eq_zero_or_one t with e | e
    · rw [e]; exact h2.1
    · rw [e]; exact h2.2
theorem btw1_same (i p : Nat) (x : Int × Int) : btw1 i p x x = [] := by unfold btw1; rw [if_pos (by omega)]
theorem btwL_set (rs : List (Int × Int)) (hs : stdF rs) (q : Nat) (hq : q < rs.length) (d : Int) : btwL rs (rs.set q (digR d)) (2 * rs.length) = turnM q (vAt rs q) d := by
  have hv : digR (vAt rs q) = rs[q] := by rw [vAt_in hq]; exact rod_std (hs q hq)
  have hne : ∀ i, i ≠ q → (rs.set q (digR d)).getD i (0, 0) = rs.getD i (0, 0) := fun i hi => by
    rw [List.getD_eq_getElem?_getD, List.getElem?_set_ne (fun e => hi e.symm), ← List.getD_eq_getElem?_getD]
  have key : ∀ k, q + 1 + k ≤ rs.length → btwL rs (rs.set q (digR d)) (2 * (q + 1 + k)) = turnM q (vAt rs q) d := by
    intro k
    induction k with
    | zero =>
      intro _
      have h0 : btwL rs (rs.set q (digR d)) (2 * q) = [] := btwL_eq _ _ _ (fun i hi => by
        rw [hne i (by omega)]; exact ⟨btw1_same _ _ _, btw1_same _ _ _⟩)
      have s1 := btwL_snoc rs (rs.set q (digR d)) q 0 (by omega) hq (by rw [List.length_set]; exact hq)
      have s2 := btwL_snoc rs (rs.set q (digR d)) q 1 (by omega) hq (by rw [List.length_set]; exact hq)
      rw [show 2 * (q + 1 + 0) = 2 * q + 1 + 1 by omega, s2, show 2 * q + 1 = 2 * q + 0 + 1 by omega, s1, Nat.add_zero, h0, List.nil_append, List.getElem_set_self]
      unfold turnM
      rw [hv]
    | succ k ih =>
      intro hk
      have hi : q + 1 + k < rs.length := by omega
      have s1 := btwL_snoc rs (rs.set q (digR d)) (q + 1 + k) 0 (by omega) hi (by rw [List.length_set]; exact hi)
      have s2 := btwL_snoc rs (rs.set q (digR d)) (q + 1 + k) 1 (by omega) hi (by rw [List.length_set]; exact hi)
      have e : (rs.set q (digR d))[q + 1 + k]'(by rw [List.length_set]; exact hi) = rs[q + 1 + k] := List.getElem_set_ne (by omega) _
      rw [show 2 * (q + 1 + (k + 1)) = 2 * (q + 1 + k) + 1 + 1 by omega, s2, show 2 * (q + 1 + k) + 1 = 2 * (q + 1 + k) + 0 + 1 by omega, s1, Nat.add_zero, ih (by omega), e, btw1_same, btw1_same, List.append_nil, List.append_nil]
  have := key (rs.length - (q + 1)) (by omega)
  rwa [show q + 1 + (rs.length - (q + 1)) = rs.length by omega] at this
end Go.Proofs.Ytjkjaadcdolbhaa
