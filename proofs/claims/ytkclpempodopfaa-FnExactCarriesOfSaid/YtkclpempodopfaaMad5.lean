/- The model's l6Number. -/
import Derived.Test.YtkclpempodopfaaMad4
import Derived.Test.YtkclpempodopfaaAdg
namespace Go.Proofs.Ytkclpempodopfaa
set_option linter.unusedVariables false
open Go.RowKit

theorem own_setb3 {w : World} {B : Nat} {e : TypeId} {size n : Nat} {v : Value} {xs : List Value} (h : w.ownsRow B e size v n xs) {T : Nat} (hT : ∀ g, v.ownBlock = some g → g ≠ T) (x y z : Value) :
    (((w.setCell ⟨T, 0, none⟩ x).setCell ⟨T, 1, none⟩ y).setCell ⟨T, 2, none⟩ z).ownsRow B e size v n xs := own_set_box (own_set_box (own_set_box h hT _ _) hT _ _) hT _ _
section
variable {B : Nat} {w : World} {N : Nat} {up lo : Int} {rb rc : Nat} {rs : List (Int × Int)} {g c : Nat} {ms : List Mv}
/-- A store into another box of the same type. -/
theorem DgAt.store3 (h : DgAt B w N up lo rb rc rs g c ms) {T : Nat} {cs : Array Value} (hT : w.heap[T]? = some (.cells cs 26 (0, 0))) (hne : N ≠ T) (x y z : Value) :
    DgAt B (((w.setCell ⟨T, 0, none⟩ x).setCell ⟨T, 1, none⟩ y).setCell ⟨T, 2, none⟩ z) N up lo rb rc rs g c ms :=
  ⟨h.ord, (Below.heap_setCell _ ⟨T, 2, none⟩ z N hne).trans ((Below.heap_setCell _ ⟨T, 1, none⟩ y N hne).trans ((Below.heap_setCell w ⟨T, 0, none⟩ x N hne).trans h.box)),
    own_setb3 h.rods (own_box h.rods hT (by decide)) x y z, own_setb3 h.moves (own_box h.moves hT (by decide)) x y z⟩
/-- The frame is set anew. -/
theorem DgAt.setF {rb2 rc2 : Nat} {rs2 : List (Int × Int)} (h : DgAt B w N up lo rb rc rs g c ms) (ho : w.ownsRow B 84 2 (.slice (some ⟨rb2, 0, none⟩) rs2.length rc2) rs2.length (flat rs2)) :
    DgAt B (((w.setCell ⟨N, 0, none⟩ (.int .i64 up)).setCell ⟨N, 1, none⟩ (.int .i64 lo)).setCell ⟨N, 2, none⟩ (.slice (some ⟨rb2, 0, none⟩) rs2.length rc2)) N up lo rb2 rc2 rs2 g c ms :=
  ⟨h.ord, box3_set h.box _ _ _, own_setb3 ho (own_box ho h.box (by decide)) _ _ _, own_setb3 h.moves (own_box h.moves h.box (by decide)) _ _ _⟩
end
/-- Where the model's adding stands. -/
structure NoAt (n : Nat) (m : Int) (RT : List (Int × Int)) (MT : List Mv) (k : Nat) (rs : List (Int × Int)) (ms : List Mv) : Prop where
  std : stdF rs
  len : rs.length = n
  le : k ≤ n
  mT : ms ++ goM k ((digs n m).drop k) rs = MT
  rT : goR k ((digs n m).drop k) rs = RT
theorem NoAt.step {n : Nat} {m : Int} {RT : List (Int × Int)} {MT : List Mv} {k : Nat} {rs : List (Int × Int)} {ms : List Mv} (h : NoAt n m RT MT k rs ms) (hk : k < n) (d : Int) (hd : m / 10 ^ (n - 1 - k) % 10 = d) : NoAt n m RT MT (k + 1) (chR (k + 1) d rs) (ms ++ chM (k + 1) d rs) := by
  have hm := h.mT
  have hr := h.rT
  rw [digs_drop n m k hk, hd] at hm hr
  simp only [goM] at hm
  simp only [goR] at hr
  exact ⟨chR_std _ _ _ h.std, by rw [chR_len]; exact h.len, hk, by rw [List.append_assoc]; exact hm, hr⟩
theorem NoAt.done {n : Nat} {m : Int} {RT : List (Int × Int)} {MT : List Mv} {rs : List (Int × Int)} {ms : List Mv} (h : NoAt n m RT MT n rs ms) : ms = MT ∧ rs = RT := by
  have hm := h.mT
  have hr := h.rT
  rw [List.drop_eq_nil_of_le (by rw [digs_len]; exact Nat.le_refl _)] at hm hr
  simp only [goM, List.append_nil] at hm
  simp only [goR] at hr
  exact ⟨hm, hr⟩
theorem NoAt.short {n : Nat} {m : Int} {RT : List (Int × Int)} {MT : List Mv} {k : Nat} {rs : List (Int × Int)} {ms : List Mv} (h : NoAt n m RT MT k rs ms) : ms.length ≤ MT.length := by rw [← h.mT, List.length_append]; omega

end Go.Proofs.Ytkclpempodopfaa
