/- A frame while it is drawn. -/
import Derived.Test.YtjaiolbneodheaaDstr
import Derived.Test.YtjaiolbneodheaaFrl
import Derived.Test.YtjaiolbneodheaaRat
namespace Go.Proofs.Ytjaiolbneodheaa
set_option linter.unusedVariables false
open Go.RowKit

theorem own_grown {w w' : World} {B cb : Nat} {e : TypeId} {size : Nat} {v : Value} {n : Nat} {xs : List Value} (h : w.ownsRow B e size v n xs) (hg : w.grownBy w' (some cb)) (hc : cb < B) : w'.ownsRow B e size v n xs :=
  own_of_block h fun g hg' => hg.block g (h.lt g hg').2 (by have := (h.lt g hg').1; intro e; injection e with e; omega)
theorem CurAt.row {w w' : World} {b : Nat} {cd : Value} {n : Nat} {r : Option Nat} (h : CurAt w b cd n) (hg : w.grownBy w' r) (hne : some b ≠ r) : CurAt w' b cd n := by
  obtain ⟨k, sd, T, h1, h2, h3⟩ := h
  exact ⟨k, sd, T, h1, h2, (hg.block b (Array.getElem?_eq_some_iff.1 h3).1 hne).trans h3⟩
/-- In a world behind w: the reader, the answer's box (the first new block), the frame's box F, its rods. -/
def FrAt (w wi : World) (cb : Nat) (cd : Value) (n F : Nat) (up lo : Int) (g cap : Nat) (rs : List (Int × Int)) : Prop :=
  w.grownBy wi (some cb) ∧ CurAt wi cb cd n ∧ wi.heap[w.heap.size]? = some (.cells #[.int .i64 0, .int .i64 0, .slice none 0 0] 28 (0, 0)) ∧ wi.heap[F]? = some (.cells #[.int .i64 up, .int .i64 lo, .slice (some ⟨g, 0, none⟩) rs.length cap] 28 (0, 0)) ∧
  wi.ownsRow (w.heap.size + 1) 105 2 (.slice (some ⟨g, 0, none⟩) rs.length cap) rs.length (flat rs) ∧ w.heap.size < F
theorem fr_flat_snoc : ∀ (rs : List (Int × Int)) (x y : Int), flat (rs ++ [(x, y)]) = flat rs ++ [.int .i64 x, .int .i64 y]
  | [], _, _ => rfl
  | p :: t, x, y => by
    show _ :: _ :: flat (t ++ [(x, y)]) = _
    rw [fr_flat_snoc t x y]
    rfl
section
variable {w wi w' : World} {cb : Nat} {cd : Value} {n m F : Nat} {up lo : Int} {g cap : Nat} {rs : List (Int × Int)}
theorem own_cells {B : Nat} {e : TypeId} {size : Nat} {c : Nat} {k : Nat} {xs : List Value} (h : wi.ownsRow B e size (.slice (some ⟨g, 0, none⟩) k c) k xs) : ∃ cur, wi.heap[g]? = some (.cells cur e (0, 0)) := by
  rcases h.2 with ⟨h1, h2⟩ | ⟨g1, c1, cur, h1, h2, h3, h4⟩
  · cases h1
  · injection h1 with e1 e2 e3
    injection e1 with e1
    injection e1 with e1
    subst e1
    exact ⟨cur, h3⟩
theorem FrAt.gne (h : FrAt w wi cb cd n F up lo g cap rs) : g ≠ F ∧ w.heap.size < g ∧ g < wi.heap.size ∧ F < wi.heap.size := by
  obtain ⟨h1, h2, h3, h4, h5, h6⟩ := h
  obtain ⟨cur, hc⟩ := own_cells h5
  have hl := h5.lt g rfl
  refine ⟨fun e => ?_, by omega, hl.2, (Array.getElem?_eq_some_iff.1 h4).1⟩
  subst e
  rw [hc] at h4
  injection h4 with h4
  injection h4 with e1 e2 e3
  revert e2
  decide
theorem FrAt.step (h : FrAt w wi cb cd n F up lo g cap rs) (hcb : cb < w.heap.size) (hg : wi.grownBy w' (some cb)) (hc : CurAt w' cb cd m) : FrAt w w' cb cd m F up lo g cap rs := by
  obtain ⟨h1, h2, h3, h4, h5, h6⟩ := h
  exact ⟨grown_trans h1 hg, hc, (hg.block _ (Array.getElem?_eq_some_iff.1 h3).1 (by intro e; injection e with e; omega)).trans h3, (hg.block _ (Array.getElem?_eq_some_iff.1 h4).1 (by intro e; injection e with e; omega)).trans h4, own_grown h5 hg (by omega), h6⟩
theorem FrAt.alloc (h : FrAt w wi cb cd n F up lo g cap rs) (hcb : cb < w.heap.size) (o : Obj) : FrAt w (wi.alloc o) cb cd n F up lo g cap rs :=
  h.step hcb (grown_any (grown_alloc wi o none)) (h.2.1.old (grown_alloc wi o none))
theorem FrAt.drew (h : FrAt w wi cb cd n F up lo g cap rs) (hcb : cb < w.heap.size) : FrAt w wi.drew cb cd n F up lo g cap rs :=
  h.step hcb (grown_drewN wi 1 _) (h.2.1.old (grown_drewN wi 1 _))
theorem FrAt.code {L : List UInt8} (h : FrAt w wi cb cd n F up lo g cap rs) (hr : CodeR w cb cd L) : CodeR wi cb cd L := hr.grown h.1
theorem pick_fr {L : List UInt8} (k : Int) (h : FrAt w wi cb cd n F up lo g cap rs) (hcb : cb < w.heap.size) (hn : n < 4611686018427387000) (h1 : 1 ≤ k) (h2 : k ≤ 1000000000) (hr : CodeR w cb cd L) :
    Calls Try.prog 100 #[.pointer (some ⟨cb, 0, none⟩), .int .i64 k] wi fun e w' => (∃ r : Int, e = .returned (.int .i64 r) ∧ 0 ≤ r ∧ r < k) ∧ FrAt w w' cb cd (n + 2) F up lo g cap rs :=
  (pick_any cb cd L n k wi (by omega) h1 h2 h.2.1 (h.code hr)).mono fun e w' ⟨a, b, c⟩ => ⟨a, h.step hcb c b⟩
theorem among_fr {L : List UInt8} {v : Value} {zs : List Int} (h : FrAt w wi cb cd n F up lo g cap rs) (hcb : cb < w.heap.size) (hn : n < 4611686018427387000) (hl : 1 ≤ zs.length ∧ zs.length ≤ 100) (hv : SlR wi v (zs.map (Value.int .i64))) (hne : ∀ a m c, v = .slice (some a) m c → a.block ≠ cb) (hr : CodeR w cb cd L) :
    Calls Try.prog 90 #[.pointer (some ⟨cb, 0, none⟩), v] wi fun e w' => (∃ z, e = .returned (.int .i64 z) ∧ z ∈ zs) ∧ FrAt w w' cb cd (n + 2) F up lo g cap rs :=
  (among_any cb cd L n v zs wi hn hl hv hne h.2.1 (h.code hr)).mono fun e w' ⟨a, b, c⟩ => ⟨a, h.step hcb c b⟩
theorem grown_set_new (h : w.grownBy wi (some cb)) (b i : Nat) (v : Value) (hb : w.heap.size ≤ b) : w.grownBy (wi.setCell ⟨b, i, none⟩ v) (some cb) :=
  ⟨h.os, h.tape, h.output, by simpa using h.size, fun k hk hne => (heap_setCell_other wi ⟨b, i, none⟩ k v (by show k ≠ b; omega)).trans (h.block k hk hne)⟩
theorem CurAt.set (h : CurAt wi cb cd n) (b i : Nat) (v : Value) (hb : cb ≠ b) : CurAt (wi.setCell ⟨b, i, none⟩ v) cb cd n := by
  obtain ⟨k, sd, T, h1, h2, h3⟩ := h
  exact ⟨k, sd, T, h1, h2, (heap_setCell_other wi ⟨b, i, none⟩ cb v hb).trans h3⟩
theorem FrAt.setUp (h : FrAt w wi cb cd n F up lo g cap rs) (hcb : cb < w.heap.size) (x : Int) : FrAt w (wi.setCell ⟨F, 0, none⟩ (.int .i64 x)) cb cd n F x lo g cap rs := by
  have hne := h.gne
  obtain ⟨h1, h2, h3, h4, h5, h6⟩ := h
  refine ⟨grown_set_new h1 _ _ _ (by omega), h2.set _ _ _ (by omega), (heap_setCell_other wi ⟨F, 0, none⟩ _ _ (by show _ ≠ F; omega)).trans h3, ?_, own_of_block h5 fun q hq => heap_setCell_other wi ⟨F, 0, none⟩ q _ (by cases hq; exact hne.1), h6⟩
  exact heap_setCell_same wi F 0 _ _ (.int .i64 x) h4
theorem FrAt.setLo (h : FrAt w wi cb cd n F up lo g cap rs) (hcb : cb < w.heap.size) (x : Int) : FrAt w (wi.setCell ⟨F, 1, none⟩ (.int .i64 x)) cb cd n F up x g cap rs := by
  have hne := h.gne
  obtain ⟨h1, h2, h3, h4, h5, h6⟩ := h
  refine ⟨grown_set_new h1 _ _ _ (by omega), h2.set _ _ _ (by omega), (heap_setCell_other wi ⟨F, 1, none⟩ _ _ (by show _ ≠ F; omega)).trans h3, ?_, own_of_block h5 fun q hq => heap_setCell_other wi ⟨F, 1, none⟩ q _ (by cases hq; exact hne.1), h6⟩
  exact heap_setCell_same wi F 1 _ _ (.int .i64 x) h4
/-- One rod more. -/
theorem FrAt.push (h : FrAt w wi cb cd n F up lo g cap rs) (hcb : cb < w.heap.size) {g2 c2 : Nat} {x y : Int} (ho : w'.ownsRow (w.heap.size + 1) 105 2 (.slice (some ⟨g2, 0, none⟩) (rs.length + 1) c2) (rs.length + 1) (flat rs ++ [.int .i64 x, .int .i64 y])) (hg : wi.grownBy w' (some g)) :
    FrAt w (w'.setCell ⟨F, 2, none⟩ (.slice (some ⟨g2, 0, none⟩) (rs.length + 1) c2)) cb cd n F up lo g2 c2 (rs ++ [(x, y)]) := by
  have hne := h.gne
  obtain ⟨h1, h2, h3, h4, h5, h6⟩ := h
  have k3 := (hg.block _ (Array.getElem?_eq_some_iff.1 h3).1 (by intro e; injection e with e; omega)).trans h3
  have k4 := (hg.block _ (Array.getElem?_eq_some_iff.1 h4).1 (by intro e; injection e with e; omega)).trans h4
  have k1 : w.grownBy w' (some cb) := ⟨hg.os.trans h1.os, hg.tape.trans h1.tape, hg.output.trans h1.output, Nat.le_trans h1.size hg.size, fun q hq hn => (hg.block q (Nat.lt_of_lt_of_le hq h1.size) (by intro e; injection e with e; omega)).trans (h1.block q hq hn)⟩
  have k2 := h2.row hg (by intro e; injection e with e; omega)
  have hfl := fr_flat_snoc rs x y
  have hle : (rs ++ [(x, y)]).length = rs.length + 1 := by simp
  have hne2 : g2 ≠ F := by
    intro e
    subst e
    obtain ⟨cur, hc⟩ := own_cells ho
    rw [hc] at k4
    injection k4 with k4
    injection k4 with e1 e2 e3
    revert e2
    decide
  unfold FrAt
  rw [hle, hfl]
  refine ⟨grown_set_new k1 _ _ _ (by omega), k2.set _ _ _ (by omega), (heap_setCell_other w' ⟨F, 2, none⟩ _ _ (by show _ ≠ F; omega)).trans k3, ?_, own_of_block ho fun q hq => heap_setCell_other w' ⟨F, 2, none⟩ q _ (by cases hq; exact hne2), h6⟩
  exact heap_setCell_same w' F 2 _ _ _ k4
theorem slr_heap {w : World} {B : Nat} {xs : List Value} {T : TypeId} (h : w.heap[B]? = some (.cells xs.toArray T (0, 0))) (hl : xs.length ≤ maxLen) : SlR w (.slice (some ⟨B, 0, none⟩) xs.length xs.length) xs := by
  refine ⟨_, _, rfl, ⟨hl, Nat.le_refl _⟩, fun _ => ⟨B, 0, rfl, (Array.getElem?_eq_some_iff.1 h).1, fun i hi => ?_⟩⟩
  show w.cell? ⟨B, 0 + i, none⟩ = _
  simp [World.cell?, h, hi]
/-- The first rod set anew. -/
theorem FrAt.first {x y : Int} (h : FrAt w wi cb cd n F up lo g cap rs) (hcb : cb < w.heap.size) (hl : 0 < rs.length) :
    FrAt w ((wi.setCell ⟨g, 0, none⟩ (.int .i64 x)).setCell ⟨g, 1, none⟩ (.int .i64 y)) cb cd n F up lo g cap (rs.set 0 (x, y)) := by
  have hne := h.gne
  obtain ⟨h1, h2, h3, h4, h5, h6⟩ := h
  have hle : (rs.set 0 (x, y)).length = rs.length := by simp
  have hfl : flat (rs.set 0 (x, y)) = ((flat rs).set 0 (.int .i64 x)).set 1 (.int .i64 y) := by
    cases rs with
    | nil => simp at hl
    | cons p t => rfl
  unfold FrAt
  rw [hle, hfl]
  refine ⟨grown_set_new (grown_set_new h1 _ _ _ (by omega)) _ _ _ (by omega), (h2.set _ _ _ (by omega)).set _ _ _ (by omega), (heap_setCell_other _ ⟨g, 1, none⟩ _ _ (by show _ ≠ g; omega)).trans ((heap_setCell_other _ ⟨g, 0, none⟩ _ _ (by show _ ≠ g; omega)).trans h3), (heap_setCell_other _ ⟨g, 1, none⟩ _ _ (by show _ ≠ g; exact fun e => hne.1 e.symm)).trans ((heap_setCell_other _ ⟨g, 0, none⟩ _ _ (by show _ ≠ g; exact fun e => hne.1 e.symm)).trans h4), ((h5.stored 0 _).1.stored 1 _).1, h6⟩
def lenAt (wi : World) (F : Nat) : Nat := match wi.cell? ⟨F, 2, none⟩ with
  | some (.slice _ l _) => l
  | _ => 0
theorem FrAt.len (h : FrAt w wi cb cd n F up lo g cap rs) : lenAt wi F = rs.length := by
  obtain ⟨-, -, c2, -, -, -⟩ := cell3 h.2.2.2.1
  unfold lenAt
  rw [c2]
theorem FrAt.fin (h : FrAt w wi cb cd n F up lo g cap rs) (hcb : cb < w.heap.size) (x y z : Value) :
    (((wi.setCell ⟨w.heap.size, 0, none⟩ x).setCell ⟨w.heap.size, 1, none⟩ y).setCell ⟨w.heap.size, 2, none⟩ z).ownsRow w.heap.size 105 2 (.slice (some ⟨g, 0, none⟩) rs.length cap) rs.length (flat rs) ∧
    CurAt (((wi.setCell ⟨w.heap.size, 0, none⟩ x).setCell ⟨w.heap.size, 1, none⟩ y).setCell ⟨w.heap.size, 2, none⟩ z) cb cd n ∧
    w.grownBy (((wi.setCell ⟨w.heap.size, 0, none⟩ x).setCell ⟨w.heap.size, 1, none⟩ y).setCell ⟨w.heap.size, 2, none⟩ z) (some cb) := by
  have hne := h.gne
  obtain ⟨h1, h2, h3, h4, h5, h6⟩ := h
  refine ⟨?_, ((h2.set _ _ _ (by omega)).set _ _ _ (by omega)).set _ _ _ (by omega), grown_set_new (grown_set_new (grown_set_new h1 _ _ _ (Nat.le_refl _)) _ _ _ (Nat.le_refl _)) _ _ _ (Nat.le_refl _)⟩
  refine own_mono (own_of_block (own_of_block (own_of_block h5 fun q hq => heap_setCell_other _ _ q _ ?_) fun q hq => heap_setCell_other _ _ q _ ?_) fun q hq => heap_setCell_other _ _ q _ ?_) (Nat.le_succ _) <;> (cases hq; show g ≠ w.heap.size; omega)
end
end Go.Proofs.Ytjaiolbneodheaa
