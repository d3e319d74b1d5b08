/- A system while it is drawn. -/
import Derived.Test.YtghdmiimanhjgaaDoorKc
import Derived.Test.YtghdmiimanhjgaaDoorUnits
namespace Go.Proofs.YtghdmiimanhjgaaDoor
set_option linter.unusedVariables false
open Go.RowKit

/-- In a world behind w: the reader and the fresh row of units. -/
def UnAt (w wi : World) (cb : Nat) (cd : Value) (n : Nat) (g cap : Nat) (us : List Un) : Prop :=
  w.grownBy wi (some cb) ∧ CurAt wi cb cd n ∧ wi.ownsRow w.heap.size 40 2 (.slice (some ⟨g, 0, none⟩) us.length cap) us.length (flatC unC us)
section
variable {w wi w' : World} {cb : Nat} {cd : Value} {n m : Nat} {g cap : Nat} {us : List Un}
theorem UnAt.lt (h : UnAt w wi cb cd n g cap us) : w.heap.size ≤ g ∧ g < wi.heap.size ∧ w.heap.size ≤ wi.heap.size := by
  obtain ⟨h1, h2, h3⟩ := h
  have := h3.lt g rfl
  exact ⟨this.1, this.2, h1.size⟩
theorem UnAt.step (h : UnAt w wi cb cd n g cap us) (hcb : cb < w.heap.size) (hg : wi.grownBy w' (some cb)) (hc : CurAt w' cb cd m) : UnAt w w' cb cd m g cap us :=
  ⟨grown_trans h.1 hg, hc, own_grown h.2.2 hg hcb⟩
theorem UnAt.alloc (h : UnAt w wi cb cd n g cap us) (hcb : cb < w.heap.size) (o : Obj) : UnAt w (wi.alloc o) cb cd n g cap us :=
  h.step hcb (grown_any (grown_alloc wi o none)) (h.2.1.old (grown_alloc wi o none))
theorem UnAt.drew (h : UnAt w wi cb cd n g cap us) (hcb : cb < w.heap.size) : UnAt w wi.drew cb cd n g cap us :=
  h.step hcb (grown_drewN wi 1 _) (h.2.1.old (grown_drewN wi 1 _))
theorem UnAt.more (h : UnAt w wi cb cd n g cap us) (hm : n ≤ m) : UnAt w wi cb cd m g cap us := ⟨h.1, h.2.1.more hm, h.2.2⟩
theorem UnAt.code {L : List UInt8} (h : UnAt w wi cb cd n g cap us) (hr : CodeR w cb cd L) : CodeR wi cb cd L := hr.grown h.1
theorem pick_un {L : List UInt8} (k : Int) (h : UnAt w wi cb cd n g cap us) (hcb : cb < w.heap.size) (hn : n < 4611686018427387000) (h1 : 1 ≤ k) (h2 : k ≤ 1000000000) (hr : CodeR w cb cd L) :
    Calls Tryd.prog 26 #[.pointer (some ⟨cb, 0, none⟩), .int .i64 k] wi fun e w' => (∃ r : Int, e = .returned (.int .i64 r) ∧ 0 ≤ r ∧ r < k) ∧ UnAt w w' cb cd (n + 2) g cap us ∧ wi.grownBy w' (some cb) :=
  (pick_any cb cd L n k wi (by omega) h1 h2 h.2.1 (h.code hr)).mono fun e w' ⟨a, b, c⟩ => ⟨a, h.step hcb c b, c⟩
theorem one_un {L : List UInt8} (k : Int) (h : UnAt w wi cb cd n g cap us) (hcb : cb < w.heap.size) (hn : n < 4611686018427387000) (hk : 1 ≤ k ∧ k ≤ 1000) (hr : CodeR w cb cd L) :
    Calls Tryd.prog 43 #[.pointer (some ⟨cb, 0, none⟩), .int .i64 k] wi fun e w' => (∃ x, e = .returned (.bool x)) ∧ UnAt w w' cb cd (n + 2) g cap us ∧ wi.grownBy w' (some cb) :=
  (one_any cb cd L n k wi hn hk h.2.1 (h.code hr)).mono fun e w' ⟨a, b, c⟩ => ⟨a, h.step hcb c b, c⟩
theorem among_un {L : List UInt8} {v : Value} {zs : List Int} (h : UnAt w wi cb cd n g cap us) (hcb : cb < w.heap.size) (hn : n < 4611686018427387000) (hl : 1 ≤ zs.length ∧ zs.length ≤ 100) (hv : SlR wi v (zs.map (Value.int .i64))) (hne : ∀ a m c, v = .slice (some a) m c → a.block ≠ cb) (hr : CodeR w cb cd L) :
    Calls Tryd.prog 25 #[.pointer (some ⟨cb, 0, none⟩), v] wi fun e w' => (∃ z, e = .returned (.int .i64 z) ∧ z ∈ zs) ∧ UnAt w w' cb cd (n + 2) g cap us ∧ wi.grownBy w' (some cb) :=
  (among_any cb cd L n v zs wi hn hl hv hne h.2.1 (h.code hr)).mono fun e w' ⟨a, b, c⟩ => ⟨a, h.step hcb c b, c⟩
theorem of_un {L : List UInt8} {v : Value} {ss : List ByteArray} (h : UnAt w wi cb cd n g cap us) (hcb : cb < w.heap.size) (hn : n < 4611686018427387000) (hl : 1 ≤ ss.length ∧ ss.length ≤ 100) (hv : SlR wi v (ss.map Value.string)) (hne : ∀ a m c, v = .slice (some a) m c → a.block ≠ cb) (hr : CodeR w cb cd L) :
    Calls Tryd.prog 33 #[.pointer (some ⟨cb, 0, none⟩), v] wi fun e w' => (∃ x, e = .returned (.string x) ∧ x ∈ ss) ∧ UnAt w w' cb cd (n + 2) g cap us ∧ wi.grownBy w' (some cb) :=
  (of_any cb cd L n v ss wi hn hl hv hne h.2.1 (h.code hr)).mono fun e w' ⟨a, b, c⟩ => ⟨a, h.step hcb c b, c⟩
/-- One unit more. -/
theorem UnAt.push (h : UnAt w wi cb cd n g cap us) (hcb : cb < w.heap.size) {g2 c2 : Nat} {x : ByteArray} {y : Int} (ho : w'.ownsRow w.heap.size 40 2 (.slice (some ⟨g2, 0, none⟩) (us.length + 1) c2) (us.length + 1) (flatC unC us ++ [.string x, .int .i64 y])) (hg : wi.grownBy w' (some g)) :
    UnAt w w' cb cd n g2 c2 (us ++ [⟨x, y⟩]) := by
  have hl := h.lt
  obtain ⟨h1, h2, h3⟩ := h
  have k1 : w.grownBy w' (some cb) := ⟨hg.os.trans h1.os, hg.tape.trans h1.tape, hg.output.trans h1.output, Nat.le_trans h1.size hg.size, fun q hq hn => (hg.block q (Nat.lt_of_lt_of_le hq h1.size) (by intro e; injection e with e; omega)).trans (h1.block q hq hn)⟩
  have k2 := h2.row hg (by intro e; injection e with e; omega)
  refine ⟨k1, k2, ?_⟩
  rw [flatC_app, List.length_append]
  exact ho
/-- One unit set anew. -/
theorem UnAt.setk (h : UnAt w wi cb cd n g cap us) (hcb : cb < w.heap.size) (k : Nat) (hk : k < us.length) (x : ByteArray) (y : Int) :
    UnAt w ((wi.setCell ⟨g, k * 2, none⟩ (.string x)).setCell ⟨g, k * 2 + 1, none⟩ (.int .i64 y)) cb cd n g cap (us.set k ⟨x, y⟩) := by
  have hl := h.lt
  obtain ⟨h1, h2, h3⟩ := h
  refine ⟨grown_set_new (grown_set_new h1 _ _ _ hl.1) _ _ _ hl.1, (h2.set _ _ _ (by omega)).set _ _ _ (by omega), ?_⟩
  have e1 := flatC_set1 unC_len us k 0 hk (by omega) (.string x) ⟨x, us[k].sz⟩ rfl
  have hk2 : k < (us.set k ⟨x, us[k].sz⟩).length := by rw [List.length_set]; exact hk
  have e2 := flatC_set1 unC_len (us.set k ⟨x, us[k].sz⟩) k 1 hk2 (by omega) (.int .i64 y) ⟨x, y⟩ (by rw [List.getElem_set_self]; rfl)
  rw [List.set_set] at e2
  rw [← e2, ← e1, List.length_set, Nat.add_zero]
  exact ((h3.stored (k * 2) (.string x)).1.stored (k * 2 + 1) (.int .i64 y)).1
theorem UnAt.other (h : UnAt w wi cb cd n g cap us) (hcb : cb < w.heap.size) {b : Nat} (hb : w.heap.size ≤ b) (hne : g ≠ b) (i : Nat) (v : Value) : UnAt w (wi.setCell ⟨b, i, none⟩ v) cb cd n g cap us :=
  ⟨grown_set_new h.1 _ _ _ hb, h.2.1.set _ _ _ (by omega), own_of_block h.2.2 fun q hq => heap_setCell_other wi ⟨b, i, none⟩ q v (by cases hq; exact hne)⟩
end
end Go.Proofs.YtghdmiimanhjgaaDoor
