/- A frame's box that the call owns with its rods. -/
import Derived.Test.YthmbehknacjodaaKy
import Derived.Test.YthmbehknacjodaaChv
namespace Go.Proofs.Ythmbehknacjodaa
set_option linter.unusedVariables false
open Go.RowKit

structure NwAt (B : Nat) (w : World) (N : Nat) (up lo : Int) (rb rc : Nat) (rs : List (Int × Int)) : Prop where
  ord : B ≤ N
  box : w.heap[N]? = some (.cells #[.int .i64 up, .int .i64 lo, .slice (some ⟨rb, 0, none⟩) rs.length rc] 42 (0, 0))
  rods : w.ownsRow B 77 2 (.slice (some ⟨rb, 0, none⟩) rs.length rc) rs.length (flat rs)
section
variable {B : Nat} {w : World} {N : Nat} {up lo : Int} {rb rc : Nat} {rs : List (Int × Int)}
theorem NwAt.lt (h : NwAt B w N up lo rb rc rs) : N < w.heap.size := (Array.getElem?_eq_some_iff.1 h.box).1
theorem NwAt.next {w' : World} (h : NwAt B w N up lo rb rc rs) (hb : Below w.heap.size w w') : NwAt B w' N up lo rb rc rs :=
  ⟨h.ord, (hb.block _ h.lt).trans h.box, own_below h.rods hb⟩
theorem NwAt.rodAt (h : NwAt B w N up lo rb rc rs) {q : Nat} (hq : q < rs.length) : w.cell? ⟨rb, q * 2, none⟩ = some (.int .i64 rs[q].1) ∧ w.cell? ⟨rb, q * 2 + 1, none⟩ = some (.int .i64 rs[q].2) := by
  have hf := flat_at rs q hq
  exact ⟨(h.rods.cellAt (q * 2) (by omega)).trans hf.1, (h.rods.cellAt (q * 2 + 1) (by omega)).trans hf.2⟩
theorem NwAt.store3 (h : NwAt B w N up lo rb rc rs) {T : Nat} {cs : Array Value} (hT : w.heap[T]? = some (.cells cs 42 (0, 0))) (hne : N ≠ T) (x y z : Value) :
    NwAt B (((w.setCell ⟨T, 0, none⟩ x).setCell ⟨T, 1, none⟩ y).setCell ⟨T, 2, none⟩ z) N up lo rb rc rs :=
  ⟨h.ord, (Below.heap_setCell _ ⟨T, 2, none⟩ z N hne).trans ((Below.heap_setCell _ ⟨T, 1, none⟩ y N hne).trans ((Below.heap_setCell w ⟨T, 0, none⟩ x N hne).trans h.box)),
    own_setb3 h.rods (own_box h.rods hT (by decide)) x y z⟩
theorem NwAt.setF {rb2 rc2 : Nat} {rs2 : List (Int × Int)} (h : NwAt B w N up lo rb rc rs) (ho : w.ownsRow B 77 2 (.slice (some ⟨rb2, 0, none⟩) rs2.length rc2) rs2.length (flat rs2)) :
    NwAt B (((w.setCell ⟨N, 0, none⟩ (.int .i64 up)).setCell ⟨N, 1, none⟩ (.int .i64 lo)).setCell ⟨N, 2, none⟩ (.slice (some ⟨rb2, 0, none⟩) rs2.length rc2)) N up lo rb2 rc2 rs2 :=
  ⟨h.ord, box3_set h.box _ _ _, own_setb3 ho (own_box ho h.box (by decide)) _ _ _⟩
end
theorem GoAt.any {n : Nat} {m : Int} {RT : List (Int × Int)} {MT : List Mv} {CT : Int} {KT : List Int} {k : Nat} {rs : List (Int × Int)} {ms : List Mv} {c : Int} {ks : List Int} (h : GoAt n m RT MT CT KT k rs ms c ks) (hk : k < n) (d : Int) (hd : m / 10 ^ (n - 1 - k) % 10 = d) (h0 : 0 ≤ d) :
    ∃ ms2, GoAt n m RT MT CT KT (k + 1) (chR (k + 1) d rs) ms2 (c + (chC (k + 1) d rs : Nat)) (if 0 < d then bump ks (kindA (vAt rs k) d) else ks) := by
  by_cases hz : 0 < d
  · rw [if_pos hz]; exact ⟨_, h.some hk d hd hz⟩
  · have : d = 0 := by omega
    subst this
    rw [if_neg hz, chR_zero, chC_zero]
    exact ⟨ms, by simpa using h.zero hk hd⟩
/-- The inner loop's total. -/
theorem ChV.of_go {n : Nat} {m : Int} {RT : List (Int × Int)} {MT : List Mv} {CT : Int} {KT : List Int} {k : Nat} {rs : List (Int × Int)} {ms : List Mv} {c : Int} {ks : List Int} (h : GoAt n m RT MT CT KT k rs ms c ks) (hk : k < n) (d : Int) (hd : m / 10 ^ (n - 1 - k) % 10 = d) (h1 : 0 < d) (h9 : d ≤ 9) : ChV rs (c + (chC (k + 1) d rs : Nat)) k d c := by
  have hl := h.len
  subst hl
  exact ChV.start h.std hk (by omega) h9 h.c0 (by rw [← hd]; exact h.digit hk)
end Go.Proofs.Ythmbehknacjodaa
