/- A board while it is drawn. -/
import Derived.Test.YtbdddpchlmddbaaDoorKc
import Derived.Test.YtbdddpchlmddbaaDoorBoards
import Derived.Test.YtbdddpchlmddbaaDoorKa
import Derived.Deep.RegionHeld3
import Derived.Deep.AppendLies
import Derived.OwnWalk
import Derived.Maps.AppendAt
namespace Go.Proofs.YtbdddpchlmddbaaDoor
set_option linter.unusedVariables false
open Go.RowKit
set_option linter.unusedSimpArgs false

/-- In a world behind w: the reader, the answer's box, the board's box A, its two rows, apart. -/
def BrAt (w wi : World) (cb : Nat) (cd : Value) (n A : Nat) (a1 : Option Addr) (c1 : Nat) (a2 : Option Addr) (c2 : Nat) (ls ss : List Int) : Prop :=
  w.grownBy wi (some cb) ∧ CurAt wi cb cd n ∧ wi.heap[w.heap.size]? = some (.cells #[.slice none 0 0, .slice none 0 0] 26 (0, 0)) ∧ wi.heap[A]? = some (.cells #[.slice a1 ls.length c1, .slice a2 ss.length c2] 26 (0, 0)) ∧ wi.ownsRow (A + 1) 3 1 (.slice a1 ls.length c1) ls.length (flatC inC ls) ∧ wi.ownsRow (A + 1) 3 1 (.slice a2 ss.length c2) ss.length (flatC inC ss) ∧ (∀ q, Value.ownBlock (.slice a1 ls.length c1) = some q → Value.ownBlock (.slice a2 ss.length c2) ≠ some q) ∧ w.heap.size < A
theorem flatC_int (cs : List Int) : flatC inC cs = cs.map (Value.int .i64) := by
  induction cs with
  | nil => rfl
  | cons x t ih => rw [List.map_cons, ← ih]; rfl
variable {w wi w' : World} {cb : Nat} {cd : Value} {n m A : Nat} {a1 a2 : Option Addr} {c1 c2 : Nat} {ls ss : List Int}
theorem BrAt.step (h : BrAt w wi cb cd n A a1 c1 a2 c2 ls ss) (hcb : cb < w.heap.size) (hg : wi.grownBy w' (some cb)) (hc : CurAt w' cb cd m) : BrAt w w' cb cd m A a1 c1 a2 c2 ls ss := by
  obtain ⟨h1, h2, h3, h4, h5, h6, h7, h8⟩ := h
  exact ⟨grown_trans h1 hg, hc, (hg.block _ (Array.getElem?_eq_some_iff.1 h3).1 (by intro e; injection e with e; omega)).trans h3, (hg.block _ (Array.getElem?_eq_some_iff.1 h4).1 (by intro e; injection e with e; omega)).trans h4, own_grown h5 hg (by omega), own_grown h6 hg (by omega), h7, h8⟩
theorem BrAt.alloc (h : BrAt w wi cb cd n A a1 c1 a2 c2 ls ss) (hcb : cb < w.heap.size) (o : Obj) : BrAt w (wi.alloc o) cb cd n A a1 c1 a2 c2 ls ss :=
  h.step hcb (grown_any (grown_alloc wi o none)) (h.2.1.old (grown_alloc wi o none))
theorem BrAt.drew (h : BrAt w wi cb cd n A a1 c1 a2 c2 ls ss) (hcb : cb < w.heap.size) : BrAt w wi.drew cb cd n A a1 c1 a2 c2 ls ss :=
  h.step hcb (grown_drewN wi 1 _) (h.2.1.old (grown_drewN wi 1 _))
theorem BrAt.code {L : List UInt8} (h : BrAt w wi cb cd n A a1 c1 a2 c2 ls ss) (hr : CodeR w cb cd L) : CodeR wi cb cd L := hr.grown h.1
theorem pick_br {L : List UInt8} (k : Int) (h : BrAt w wi cb cd n A a1 c1 a2 c2 ls ss) (hcb : cb < w.heap.size) (hn : n < 4611686018427387000) (h1 : 1 ≤ k) (h2 : k ≤ 1000000000) (hr : CodeR w cb cd L) :
    Calls Tryd.prog 25 #[.pointer (some ⟨cb, 0, none⟩), .int .i64 k] wi fun e w' => (∃ r : Int, e = .returned (.int .i64 r) ∧ 0 ≤ r ∧ r < k) ∧ BrAt w w' cb cd (n + 2) A a1 c1 a2 c2 ls ss :=
  (pick_any cb cd L n k wi (by omega) h1 h2 h.2.1 (h.code hr)).mono fun e w' ⟨a, b, c⟩ => ⟨a, h.step hcb c b⟩
theorem one_br {L : List UInt8} (k : Int) (h : BrAt w wi cb cd n A a1 c1 a2 c2 ls ss) (hcb : cb < w.heap.size) (hn : n < 4611686018427387000) (h1 : 1 ≤ k ∧ k ≤ 1000) (hr : CodeR w cb cd L) :
    Calls Tryd.prog 24 #[.pointer (some ⟨cb, 0, none⟩), .int .i64 k] wi fun e w' => (∃ b : Bool, e = .returned (.bool b)) ∧ BrAt w w' cb cd (n + 2) A a1 c1 a2 c2 ls ss :=
  (one_any cb cd L n k wi (by omega) h1 h.2.1 (h.code hr)).mono fun e w' ⟨a, b, c⟩ => ⟨a, h.step hcb c b⟩
theorem among_br {L : List UInt8} {v : Value} {zs : List Int} (h : BrAt w wi cb cd n A a1 c1 a2 c2 ls ss) (hcb : cb < w.heap.size) (hn : n < 4611686018427387000) (hl : 1 ≤ zs.length ∧ zs.length ≤ 100) (hv : SlR wi v (zs.map (Value.int .i64))) (hne : ∀ a m c, v = .slice (some a) m c → a.block ≠ cb) (hr : CodeR w cb cd L) :
    Calls Tryd.prog 39 #[.pointer (some ⟨cb, 0, none⟩), v] wi fun e w' => (∃ z, e = .returned (.int .i64 z) ∧ z ∈ zs) ∧ BrAt w w' cb cd (n + 2) A a1 c1 a2 c2 ls ss :=
  (among_any cb cd L n v zs wi hn hl hv hne h.2.1 (h.code hr)).mono fun e w' ⟨a, b, c⟩ => ⟨a, h.step hcb c b⟩
theorem BrAt.push1 {g2 k2 : Nat} {x : Int} (h : BrAt w wi cb cd n A a1 c1 a2 c2 ls ss) (hcb : cb < w.heap.size) (ho : w'.ownsRow (A + 1) 3 1 (.slice (some ⟨g2, 0, none⟩) (ls.length + 1) k2) (ls.length + 1) (flatC inC ls ++ [.int .i64 x])) (hg : wi.grownBy w' (Value.ownBlock (.slice a1 ls.length c1))) (hv : Value.ownBlock (.slice a1 ls.length c1) = some g2 ∨ g2 = wi.heap.size) :
    BrAt w (w'.setCell ⟨A, 0, none⟩ (.slice (some ⟨g2, 0, none⟩) (ls.length + 1) k2)) cb cd n A (some ⟨g2, 0, none⟩) k2 a2 c2 (ls ++ [x]) ss ∧ w'.heap[A]? = some (.cells #[.slice a1 ls.length c1, .slice a2 ss.length c2] 26 (0, 0)) := by
  obtain ⟨h1, h2, h3, h4, h5, h6, h7, h8⟩ := h
  have hob : ∀ q, q < A + 1 → some q ≠ Value.ownBlock (.slice a1 ls.length c1) := fun q hq e => by have := (h5.lt q e.symm).1; omega
  have hlA := (Array.getElem?_eq_some_iff.1 h4).1
  have k3 := (hg.block _ (Array.getElem?_eq_some_iff.1 h3).1 (hob _ (by omega))).trans h3
  have k4 := (hg.block _ hlA (hob _ (by omega))).trans h4
  have k1 : w.grownBy w' (some cb) := ⟨hg.os.trans h1.os, hg.tape.trans h1.tape, hg.output.trans h1.output, Nat.le_trans h1.size hg.size, fun q hq hn => (hg.block q (Nat.lt_of_lt_of_le hq h1.size) (hob q (by omega))).trans (h1.block q hq hn)⟩
  have k2' := h2.row hg (hob cb (by omega))
  have hle : (ls ++ [x]).length = ls.length + 1 := by simp
  have hg2 := (ho.lt g2 rfl).1
  have k6 := own_of_block h6 fun q hq => (heap_setCell_other w' ⟨A, 0, none⟩ q (.slice (some ⟨g2, 0, none⟩) (ls.length + 1) k2) (by have := (h6.lt q hq).1; show q ≠ A; omega)).trans (hg.block q (h6.lt q hq).2 (by intro e; exact h7 q e.symm hq))
  have r1 := own_of_block ho fun q hq => heap_setCell_other w' ⟨A, 0, none⟩ q (.slice (some ⟨g2, 0, none⟩) (ls.length + 1) k2) (by cases hq; show g2 ≠ A; omega)
  have k7 : ∀ q, Value.ownBlock (.slice (some ⟨g2, 0, none⟩) (ls.length + 1) k2) = some q → Value.ownBlock (.slice a2 ss.length c2) ≠ some q := fun q hq e => by
    have hq2 : g2 = q := Option.some.inj hq
    rcases hv with hv | hv
    · exact h7 _ hv (hq2 ▸ e)
    · have h9 := (h6.lt q e).2
      rw [← hq2, hv] at h9
      exact Nat.lt_irrefl _ h9
  refine ⟨?_, k4⟩
  unfold BrAt
  rw [hle, flatC_app]
  refine ⟨grown_set_new k1 _ _ _ (by omega), k2'.set _ _ _ (by omega), (heap_setCell_other w' ⟨A, 0, none⟩ _ _ (by show _ ≠ A; omega)).trans k3, ?_, r1, k6, k7, h8⟩
  have := heap_setCell_same w' A 0 _ _ (.slice (some ⟨g2, 0, none⟩) (ls.length + 1) k2) k4
  simpa using this
theorem BrAt.push2 {g2 k2 : Nat} {x : Int} (h : BrAt w wi cb cd n A a1 c1 a2 c2 ls ss) (hcb : cb < w.heap.size) (ho : w'.ownsRow (A + 1) 3 1 (.slice (some ⟨g2, 0, none⟩) (ss.length + 1) k2) (ss.length + 1) (flatC inC ss ++ [.int .i64 x])) (hg : wi.grownBy w' (Value.ownBlock (.slice a2 ss.length c2))) (hv : Value.ownBlock (.slice a2 ss.length c2) = some g2 ∨ g2 = wi.heap.size) :
    BrAt w (w'.setCell ⟨A, 1, none⟩ (.slice (some ⟨g2, 0, none⟩) (ss.length + 1) k2)) cb cd n A a1 c1 (some ⟨g2, 0, none⟩) k2 ls (ss ++ [x]) ∧ w'.heap[A]? = some (.cells #[.slice a1 ls.length c1, .slice a2 ss.length c2] 26 (0, 0)) := by
  obtain ⟨h1, h2, h3, h4, h5, h6, h7, h8⟩ := h
  have hob : ∀ q, q < A + 1 → some q ≠ Value.ownBlock (.slice a2 ss.length c2) := fun q hq e => by have := (h6.lt q e.symm).1; omega
  have hlA := (Array.getElem?_eq_some_iff.1 h4).1
  have k3 := (hg.block _ (Array.getElem?_eq_some_iff.1 h3).1 (hob _ (by omega))).trans h3
  have k4 := (hg.block _ hlA (hob _ (by omega))).trans h4
  have k1 : w.grownBy w' (some cb) := ⟨hg.os.trans h1.os, hg.tape.trans h1.tape, hg.output.trans h1.output, Nat.le_trans h1.size hg.size, fun q hq hn => (hg.block q (Nat.lt_of_lt_of_le hq h1.size) (hob q (by omega))).trans (h1.block q hq hn)⟩
  have k2' := h2.row hg (hob cb (by omega))
  have hle : (ss ++ [x]).length = ss.length + 1 := by simp
  have hg2 := (ho.lt g2 rfl).1
  have k6 := own_of_block h5 fun q hq => (heap_setCell_other w' ⟨A, 1, none⟩ q (.slice (some ⟨g2, 0, none⟩) (ss.length + 1) k2) (by have := (h5.lt q hq).1; show q ≠ A; omega)).trans (hg.block q (h5.lt q hq).2 (by intro e; exact h7 q hq e.symm))
  have r1 := own_of_block ho fun q hq => heap_setCell_other w' ⟨A, 1, none⟩ q (.slice (some ⟨g2, 0, none⟩) (ss.length + 1) k2) (by cases hq; show g2 ≠ A; omega)
  have k7 : ∀ q, Value.ownBlock (.slice (some ⟨g2, 0, none⟩) (ss.length + 1) k2) = some q → Value.ownBlock (.slice a1 ls.length c1) ≠ some q := fun q hq e => by
    have hq2 : g2 = q := Option.some.inj hq
    rcases hv with hv | hv
    · exact h7 _ (hq2 ▸ e) hv
    · have h9 := (h5.lt q e).2
      rw [← hq2, hv] at h9
      exact Nat.lt_irrefl _ h9
  refine ⟨?_, k4⟩
  unfold BrAt
  rw [hle, flatC_app]
  refine ⟨grown_set_new k1 _ _ _ (by omega), k2'.set _ _ _ (by omega), (heap_setCell_other w' ⟨A, 1, none⟩ _ _ (by show _ ≠ A; omega)).trans k3, ?_, k6, r1, fun q hq e => k7 q e hq, h8⟩
  have := heap_setCell_same w' A 1 _ _ (.slice (some ⟨g2, 0, none⟩) (ss.length + 1) k2) k4
  simpa using this
theorem BrAt.set1 {g k : Nat} {y : Int} (h : BrAt w wi cb cd n A (some ⟨g, 0, none⟩) c1 a2 c2 ls ss) (hcb : cb < w.heap.size) : BrAt w (wi.setCell ⟨g, k, none⟩ (.int .i64 y)) cb cd n A (some ⟨g, 0, none⟩) c1 a2 c2 (ls.set k y) ss := by
  obtain ⟨h1, h2, h3, h4, h5, h6, h7, h8⟩ := h
  have hl := (h5.lt g rfl).1
  have e1 : flatC inC (ls.set k y) = (flatC inC ls).set k (.int .i64 y) := by
    rw [flatC_int, flatC_int, List.map_set]
  unfold BrAt
  rw [List.length_set, e1]
  refine ⟨grown_set_new h1 _ _ _ (by omega), h2.set _ _ _ (by omega), (heap_setCell_other wi ⟨g, k, none⟩ _ _ (by show _ ≠ g; omega)).trans h3, (heap_setCell_other wi ⟨g, k, none⟩ _ _ (by show _ ≠ g; omega)).trans h4, ?_, ?_, h7, h8⟩
  · exact (h5.stored k (.int .i64 y)).1
  · exact own_of_block h6 fun q hq => heap_setCell_other wi ⟨g, k, none⟩ q _ (by intro e; have e : q = g := e; subst e; exact h7 q rfl hq)
theorem BrAt.set2 {g k : Nat} {y : Int} (h : BrAt w wi cb cd n A a1 c1 (some ⟨g, 0, none⟩) c2 ls ss) (hcb : cb < w.heap.size) : BrAt w (wi.setCell ⟨g, k, none⟩ (.int .i64 y)) cb cd n A a1 c1 (some ⟨g, 0, none⟩) c2 ls (ss.set k y) := by
  obtain ⟨h1, h2, h3, h4, h5, h6, h7, h8⟩ := h
  have hl := (h6.lt g rfl).1
  have e1 : flatC inC (ss.set k y) = (flatC inC ss).set k (.int .i64 y) := by
    rw [flatC_int, flatC_int, List.map_set]
  unfold BrAt
  rw [List.length_set, e1]
  refine ⟨grown_set_new h1 _ _ _ (by omega), h2.set _ _ _ (by omega), (heap_setCell_other wi ⟨g, k, none⟩ _ _ (by show _ ≠ g; omega)).trans h3, (heap_setCell_other wi ⟨g, k, none⟩ _ _ (by show _ ≠ g; omega)).trans h4, ?_, ?_, h7, h8⟩
  · exact own_of_block h5 fun q hq => heap_setCell_other wi ⟨g, k, none⟩ q _ (by intro e; have e : q = g := e; subst e; exact h7 q hq rfl)
  · exact (h6.stored k (.int .i64 y)).1
theorem BrAt.fin (h : BrAt w wi cb cd n A a1 c1 a2 c2 ls ss) (hcb : cb < w.heap.size) : ((wi.setCell ⟨w.heap.size, 0, none⟩ (.slice a1 ls.length c1)).setCell ⟨w.heap.size, 1, none⟩ (.slice a2 ss.length c2)).ownsRow w.heap.size 3 1 (.slice a1 ls.length c1) ls.length (flatC inC ls) ∧ ((wi.setCell ⟨w.heap.size, 0, none⟩ (.slice a1 ls.length c1)).setCell ⟨w.heap.size, 1, none⟩ (.slice a2 ss.length c2)).ownsRow w.heap.size 3 1 (.slice a2 ss.length c2) ss.length (flatC inC ss) ∧ CurAt ((wi.setCell ⟨w.heap.size, 0, none⟩ (.slice a1 ls.length c1)).setCell ⟨w.heap.size, 1, none⟩ (.slice a2 ss.length c2)) cb cd n ∧ w.grownBy ((wi.setCell ⟨w.heap.size, 0, none⟩ (.slice a1 ls.length c1)).setCell ⟨w.heap.size, 1, none⟩ (.slice a2 ss.length c2)) (some cb) := by
  obtain ⟨h1, h2, h3, h4, h5, h6, h7, h8⟩ := h
  have hs : ∀ q, A + 1 ≤ q → ((wi.setCell ⟨w.heap.size, 0, none⟩ (.slice a1 ls.length c1)).setCell ⟨w.heap.size, 1, none⟩ (.slice a2 ss.length c2)).heap[q]? = wi.heap[q]? := fun q hq => (heap_setCell_other _ ⟨w.heap.size, 1, none⟩ q _ (by show q ≠ w.heap.size; omega)).trans (heap_setCell_other _ ⟨w.heap.size, 0, none⟩ q _ (by show q ≠ w.heap.size; omega))
  exact ⟨own_mono (own_of_block h5 fun q hq => hs q (h5.lt q hq).1) (by omega), own_mono (own_of_block h6 fun q hq => hs q (h6.lt q hq).1) (by omega), (h2.set _ _ _ (by omega)).set _ _ _ (by omega), grown_set_new (grown_set_new h1 _ _ _ (Nat.le_refl _)) _ _ _ (Nat.le_refl _)⟩
/-- A row is read where its block is kept. -/
theorem RowsR.keepX {α : Type} {c : Nat} {cells : α → List Value} {w w' : World} {v : Value} {ps : List α} (h : RowsR c cells w v ps) (hs : w.heap.size ≤ w'.heap.size) (hk : ∀ a m c, v = .slice (some a) m c → a.block < w.heap.size → w'.heap[a.block]? = w.heap[a.block]?) : RowsR c cells w' v ps := by
  obtain ⟨a, cap, rfl, hb, h3⟩ := h
  refine ⟨a, cap, rfl, hb, fun hp => ?_⟩
  obtain ⟨b, off, rfl, hlt, hc⟩ := h3 hp
  refine ⟨b, off, rfl, Nat.lt_of_lt_of_le hlt hs, fun i hi j hj => ?_⟩
  rw [← hc i hi j hj]
  have := hk ⟨b, off, none⟩ _ _ rfl hlt
  simp only [World.cell?]
  rw [this]
/-- A board whose rows lie in blocks from B on. -/
def BrdX (B : Nat) (w : World) (v1 v2 : Value) (ls ss : List Int) : Prop := BrdR w v1 v2 ls ss ∧ (∀ a m c, v1 = .slice (some a) m c → B ≤ a.block) ∧ (∀ a m c, v2 = .slice (some a) m c → B ≤ a.block)
theorem BrdX.grown {w w' : World} {B r : Nat} {v1 v2 : Value} {ls ss : List Int} (h : BrdX B w v1 v2 ls ss) (hg : w.grownBy w' (some r)) (hr : r < B) : BrdX B w' v1 v2 ls ss :=
  ⟨⟨h.1.1.keepX hg.size (fun a m c e hl => hg.block _ hl (by intro e2; injection e2 with e2; have := h.2.1 a m c e; omega)), h.1.2.keepX hg.size (fun a m c e hl => hg.block _ hl (by intro e2; injection e2 with e2; have := h.2.2 a m c e; omega))⟩, h.2⟩
theorem BrdX.set {w : World} {B : Nat} {v1 v2 : Value} {ls ss : List Int} (h : BrdX B w v1 v2 ls ss) (p : Addr) (hp : p.block < B) (u : Value) : BrdX B (w.setCell p u) v1 v2 ls ss :=
  ⟨⟨h.1.1.keepX (by simp) (fun a m c e hl => heap_setCell_other w p a.block u (by have := h.2.1 a m c e; omega)), h.1.2.keepX (by simp) (fun a m c e hl => heap_setCell_other w p a.block u (by have := h.2.2 a m c e; omega))⟩, h.2⟩
theorem BrdX.alloc {w : World} {B : Nat} {v1 v2 : Value} {ls ss : List Int} (h : BrdX B w v1 v2 ls ss) (o : Obj) : BrdX B (w.alloc o) v1 v2 ls ss :=
  ⟨⟨h.1.1.keepX (by simp) (fun a m c e hl => alloc_old hl), h.1.2.keepX (by simp) (fun a m c e hl => alloc_old hl)⟩, h.2⟩
theorem BrdX.mono {w : World} {B B' : Nat} {v1 v2 : Value} {ls ss : List Int} (h : BrdX B w v1 v2 ls ss) (hB : B' ≤ B) : BrdX B' w v1 v2 ls ss := ⟨h.1, fun a m c e => Nat.le_trans hB (h.2.1 a m c e), fun a m c e => Nat.le_trans hB (h.2.2 a m c e)⟩
theorem BrdX.nil (B : Nat) (w : World) : BrdX B w (.slice none 0 0) (.slice none 0 0) [] [] := ⟨⟨⟨none, 0, rfl, ⟨Nat.zero_le _, Nat.le_refl _⟩, fun h => absurd h (by simp)⟩, ⟨none, 0, rfl, ⟨Nat.zero_le _, Nat.le_refl _⟩, fun h => absurd h (by simp)⟩⟩, fun _ _ _ e => (by cases e), fun _ _ _ e => (by cases e)⟩
theorem BrdX.of_own {w : World} {B : Nat} {v1 v2 : Value} {ls ss : List Int} (h1 : w.ownsRow B 3 1 v1 ls.length (flatC inC ls)) (h2 : w.ownsRow B 3 1 v2 ss.length (flatC inC ss)) : BrdX B w v1 v2 ls ss :=
  ⟨⟨RowsR.of_own inC_len h1, RowsR.of_own inC_len h2⟩, fun a m c e => by subst e; exact (h1.lt a.block rfl).1, fun a m c e => by subst e; exact (h2.lt a.block rfl).1⟩
theorem BrAt.finX (h : BrAt w wi cb cd n A a1 c1 a2 c2 ls ss) (hcb : cb < w.heap.size) : BrdX w.heap.size ((wi.setCell ⟨w.heap.size, 0, none⟩ (.slice a1 ls.length c1)).setCell ⟨w.heap.size, 1, none⟩ (.slice a2 ss.length c2)) (.slice a1 ls.length c1) (.slice a2 ss.length c2) ls ss ∧ CurAt ((wi.setCell ⟨w.heap.size, 0, none⟩ (.slice a1 ls.length c1)).setCell ⟨w.heap.size, 1, none⟩ (.slice a2 ss.length c2)) cb cd n ∧ w.grownBy ((wi.setCell ⟨w.heap.size, 0, none⟩ (.slice a1 ls.length c1)).setCell ⟨w.heap.size, 1, none⟩ (.slice a2 ss.length c2)) (some cb) := by
  obtain ⟨h1, h2, h3, h4⟩ := h.fin hcb
  exact ⟨BrdX.of_own h1 h2, h3, h4⟩
/-- The beginning of a row. -/
theorem RowsR.head {α : Type} {c : Nat} {cells : α → List Value} {w : World} {a : Option Addr} {cap : Nat} {ps : List α} (h : RowsR c cells w (.slice a ps.length cap) ps) (q : Nat) (hq : q ≤ ps.length) : RowsR c cells w (.slice a q cap) (ps.take q) := by
  obtain ⟨a', cap', e, hb, h3⟩ := h
  injection e with e1 e2 e3
  subst e1
  subst e3
  have hl : (ps.take q).length = q := by rw [List.length_take]; omega
  refine ⟨a, cap, by rw [hl], ⟨by omega, by omega⟩, fun hp => ?_⟩
  obtain ⟨b, off, rfl, hlt, hc⟩ := h3 (by omega)
  refine ⟨b, off, rfl, hlt, fun i hi j hj => ?_⟩
  rw [hc i (by omega) j hj, List.getElem_take]
theorem BrAt.toX (h : BrAt w wi cb cd n A a1 c1 a2 c2 ls ss) : BrdX (A + 1) wi (.slice a1 ls.length c1) (.slice a2 ss.length c2) ls ss := BrdX.of_own h.2.2.2.2.1 h.2.2.2.2.2.1
theorem BrdX.head2 {w : World} {B : Nat} {v1 : Value} {a : Option Addr} {c : Nat} {ls ss : List Int} (h : BrdX B w v1 (.slice a ss.length c) ls ss) (q : Nat) (hq : q ≤ ss.length) : BrdX B w v1 (.slice a q c) ls (ss.take q) :=
  ⟨⟨h.1.1, h.1.2.head q hq⟩, h.2.1, fun a' m c' e => by injection e with e1 e2 e3; subst e1; exact h.2.2 a' _ _ rfl⟩
end Go.Proofs.YtbdddpchlmddbaaDoor
