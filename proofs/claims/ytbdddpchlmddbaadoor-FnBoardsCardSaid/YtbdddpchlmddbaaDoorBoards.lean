/- The law's helpers on boards: copy, measure, compare, mark, held. -/
import Derived.Test.YtbdddpchlmddbaaDoorInts
import Derived.Test.YtbdddpchlmddbaaDoorIntss
import Derived.Test.YtbdddpchlmddbaaDoorKb
namespace Go.Proofs.YtbdddpchlmddbaaDoor
set_option linter.unusedVariables false
open Go.RowKit

theorem Tryd.infoI5 : (Tryd.prog.info? 3).map (fun i => (i.zero, i.size, i.bytes)) = some (some (.int .i64 0), 1, 8) := by kernel_rfl
def BrdR (w : World) (v1 v2 : Value) (ls ss : List Int) : Prop := RowsR 1 inC w v1 ls ∧ RowsR 1 inC w v2 ss
theorem BrdR.below {w w' : World} {v1 v2 : Value} {ls ss : List Int} (h : BrdR w v1 v2 ls ss) {B : Nat} (hb : Below B w w') (hB : w.heap.size ≤ B) : BrdR w' v1 v2 ls ss := ⟨h.1.below hb hB, h.2.below hb hB⟩
theorem BrdR.form {w : World} {v1 v2 : Value} {ls ss : List Int} (h : BrdR w v1 v2 ls ss) : ∃ a1 c1 a2 c2, v1 = .slice a1 ls.length c1 ∧ v2 = .slice a2 ss.length c2 := by
  obtain ⟨a1, c1, e1⟩ := h.1.form
  obtain ⟨a2, c2, e2⟩ := h.2.form
  exact ⟨a1, c1, a2, c2, e1, e2⟩
/-- Two fresh rows of ints, apart from one another. -/
def OwB (lo hi : Nat) (w : World) (v1 v2 : Value) (ls ss : List Int) : Prop :=
  Ow lo hi w 3 1 v1 ls.length (flatC inC ls) ∧ Ow lo hi w 3 1 v2 ss.length (flatC inC ss) ∧ ∀ g, v1.ownBlock = some g → v2.ownBlock ≠ some g
theorem OwB.next {lo hi : Nat} {w w' : World} {v1 v2 : Value} {ls ss : List Int} (h : OwB lo hi w v1 v2 ls ss) (hb : Below w.heap.size w w') : OwB lo hi w' v1 v2 ls ss := ⟨h.1.next hb, h.2.1.next hb, h.2.2⟩
theorem OwB.btw {lo hi a b : Nat} {w w' : World} {v1 v2 : Value} {ls ss : List Int} (h : OwB lo hi w v1 v2 ls ss) (hb : Btw a b w w') (hd : hi ≤ a ∨ b ≤ lo) : OwB lo hi w' v1 v2 ls ss := ⟨h.1.btw hb hd, h.2.1.btw hb hd, h.2.2⟩
theorem OwB.reads {lo hi : Nat} {w : World} {v1 v2 : Value} {ls ss : List Int} (h : OwB lo hi w v1 v2 ls ss) : BrdR w v1 v2 ls ss := ⟨RowsR.of_own inC_len h.1.1, RowsR.of_own inC_len h.2.1.1⟩
theorem OwB.form {lo hi : Nat} {w : World} {v1 v2 : Value} {ls ss : List Int} (h : OwB lo hi w v1 v2 ls ss) : ∃ a1 c1 a2 c2, v1 = .slice a1 ls.length c1 ∧ v2 = .slice a2 ss.length c2 := h.reads.form
theorem OwB.mono {lo hi lo' hi' : Nat} {w : World} {v1 v2 : Value} {ls ss : List Int} (h : OwB lo hi w v1 v2 ls ss) (h1 : lo' ≤ lo) (h2 : hi ≤ hi') : OwB lo' hi' w v1 v2 ls ss := ⟨h.1.widen h1 h2, h.2.1.widen h1 h2, h.2.2⟩

theorem OwB.mk2 {B B1 B2 : Nat} {w : World} {v1 v2 : Value} {ls ss : List Int} (h1 : w.ownsRow B1 3 1 v1 ls.length (flatC inC ls)) (h2 : w.ownsRow B2 3 1 v2 ss.length (flatC inC ss)) (hB1 : B ≤ B1) (hB2 : B ≤ B2) (hs : ∀ g, v1.ownBlock = some g → g < B2) : OwB B w.heap.size w v1 v2 ls ss :=
  ⟨⟨own_mono h1 hB1, fun g hg => (h1.lt g hg).2⟩, ⟨own_mono h2 hB2, fun g hg => (h2.lt g hg).2⟩, fun g hg hg2 => by have := hs g hg; have := (h2.lt g hg2).1; omega⟩
theorem OwB.set {lo hi : Nat} {w : World} {v1 v2 : Value} {ls ss : List Int} (h : OwB lo hi w v1 v2 ls ss) {a : Addr} (ha : a.block < lo) (u : Value) : OwB lo hi (w.setCell a u) v1 v2 ls ss :=
  h.btw ((Btw.refl a.block (a.block + 1) w).setCell (p := a) (Nat.le_refl _) (Nat.lt_succ_self _) u) (.inr ha)
theorem box2_set {w : World} {g : Nat} {a b : Value} {T : TypeId} (h : w.heap[g]? = some (.cells #[a, b] T (0, 0))) (x y : Value) : ((w.setCell ⟨g, 0, none⟩ x).setCell ⟨g, 1, none⟩ y).heap[g]? = some (.cells #[x, y] T (0, 0)) := by
  have h1 := heap_setCell_same w g 0 _ _ x h
  have h2 := heap_setCell_same _ g 1 _ _ y h1
  simpa using h2

end Go.Proofs.YtbdddpchlmddbaaDoor
