/- Moves are drawn: where the draw stands. -/
import Derived.Test.YtmkocinknhaniaaDbd
import Derived.Test.YtmkocinknhaniaaKi
import Derived.Test.YtmkocinknhaniaaKf
namespace Go.Proofs.Ytmkocinknhaniaa
set_option linter.unusedVariables false
open Go.RowKit
set_option linter.unusedSimpArgs false

/-- The rods of the frame of now: those of the frame given, or rods of one's own. -/
def NowR (w wr : World) (cb : Nat) (a : Option Addr) (c : Nat) (rs : List (Int × Int)) : Prop :=
  (RodsR w (.slice a rs.length c) rs ∧ ∀ p, a = some p → p.block ≠ cb) ∨ wr.ownsRow w.heap.size 62 2 (.slice a rs.length c) rs.length (flat rs)
theorem NowR.rods {w wr : World} {cb : Nat} {a : Option Addr} {c : Nat} {rs : List (Int × Int)} (h : NowR w wr cb a c rs) (hg : w.grownBy wr (some cb)) (hcb : cb < w.heap.size) : RodsR wr (.slice a rs.length c) rs ∧ ∀ p, a = some p → p.block ≠ cb := by
  rcases h with ⟨h1, h2⟩ | h1
  · refine ⟨?_, h2⟩
    obtain ⟨a', cap, he, hm, h3⟩ := h1
    refine ⟨a', cap, he, hm, fun hx => ?_⟩
    obtain ⟨b, off, rfl, hb, hcell⟩ := h3 hx
    injection he with he _ _
    subst he
    have hbl := hg.block b hb (by intro e; injection e with e; exact h2 _ rfl e)
    refine ⟨b, off, rfl, Nat.lt_of_lt_of_le hb hg.size, fun i hi => ⟨?_, ?_⟩⟩
    · rw [← (hcell i hi).1]; simp only [World.cell?, hbl]
    · rw [← (hcell i hi).2]; simp only [World.cell?, hbl]
  · refine ⟨RodsR.of_own h1, fun p hp => ?_⟩
    subst hp
    have hk : (Value.slice (some p) rs.length c).ownBlock = some p.block := rfl
    have := (h1.lt _ hk).1
    omega
theorem NowR.step {w wr wr' : World} {cb : Nat} {a : Option Addr} {c : Nat} {rs : List (Int × Int)} (h : NowR w wr cb a c rs) (hcb : cb < w.heap.size) (hg : wr.grownBy wr' (some cb)) : NowR w wr' cb a c rs := by
  rcases h with h | h
  · exact .inl h
  · exact .inr (own_grown h hg hcb)
/-- Where the draw of moves stands: the cursor, the frame of now in its box, the moves so far. -/
def SdAt (w wr : World) (cb : Nat) (cd : Value) (m NB : Nat) (fu fl : Int) (a : Option Addr) (c : Nat) (rs : List (Int × Int)) (out : Value) (ms : List Mv) : Prop :=
  w.grownBy wr (some cb) ∧ CurAt wr cb cd m ∧ wr.heap[NB]? = some (.cells #[.int .i64 fu, .int .i64 fl, .slice a rs.length c] 52 (0, 0)) ∧ NowR w wr cb a c rs ∧ wr.ownsRow w.heap.size 40 3 out ms.length (flatC mvC ms) ∧ rs.length ≤ 20 ∧ w.heap.size ≤ NB ∧ cb < w.heap.size
theorem SdAt.step {w wr wr' : World} {cb : Nat} {cd : Value} {m m' NB : Nat} {fu fl : Int} {a : Option Addr} {c : Nat} {rs : List (Int × Int)} {out : Value} {ms : List Mv} (h : SdAt w wr cb cd m NB fu fl a c rs out ms) (hg : wr.grownBy wr' (some cb)) (hc : CurAt wr' cb cd m') : SdAt w wr' cb cd m' NB fu fl a c rs out ms := by
  obtain ⟨h1, h2, h3, h4, h5, h6, h7, h8⟩ := h
  exact ⟨grown_trans h1 hg, hc, (hg.block _ (lt_of_block h3) (by intro e; injection e with e; omega)).trans h3, h4.step h8 hg, own_grown h5 hg h8, h6, h7, h8⟩
theorem SdAt.alloc {w wr : World} {cb : Nat} {cd : Value} {m NB : Nat} {fu fl : Int} {a : Option Addr} {c : Nat} {rs : List (Int × Int)} {out : Value} {ms : List Mv} (h : SdAt w wr cb cd m NB fu fl a c rs out ms) (o : Obj) : SdAt w (wr.alloc o) cb cd m NB fu fl a c rs out ms :=
  h.step (grown_alloc wr o (some cb)) (h.2.1.old (grown_alloc wr o none))
theorem SdAt.old {w wr wr' : World} {cb : Nat} {cd : Value} {m NB : Nat} {fu fl : Int} {a : Option Addr} {c : Nat} {rs : List (Int × Int)} {out : Value} {ms : List Mv} (h : SdAt w wr cb cd m NB fu fl a c rs out ms) (hg : wr.grownBy wr' none) : SdAt w wr' cb cd m NB fu fl a c rs out ms :=
  h.step (grown_any hg) (h.2.1.old hg)
/-- A move more. -/
theorem SdAt.push {w wr wn : World} {cb : Nat} {cd : Value} {m NB : Nat} {fu fl : Int} {a : Option Addr} {c : Nat} {rs : List (Int × Int)} {out out' : Value} {ms : List Mv} {x : Mv} (h : SdAt w wr cb cd m NB fu fl a c rs out ms) (hown : wn.ownsRow w.heap.size 40 3 out' (ms.length + 1) (flatC mvC ms ++ mvC x)) (hg : wr.grownBy wn out.ownBlock) : SdAt w wn cb cd m NB fu fl a c rs out' (ms ++ [x]) := by
  obtain ⟨h1, h2, h3, h4, h5, h6, h7, h8⟩ := h
  have hne : ∀ k, k < w.heap.size → some k ≠ out.ownBlock := fun k hk e => by have := (h5.lt k e.symm).1; omega
  have hNB : some NB ≠ out.ownBlock := fun e => own_box h5 h3 (by decide) NB e.symm rfl
  refine ⟨⟨hg.os.trans h1.os, hg.tape.trans h1.tape, hg.output.trans h1.output, Nat.le_trans h1.size hg.size, fun k hk hn => (hg.block k (Nat.lt_of_lt_of_le hk h1.size) (hne k hk)).trans (h1.block k hk hn)⟩, h2.row hg (hne cb h8), (hg.block _ (lt_of_block h3) hNB).trans h3, ?_, ?_, h6, h7, h8⟩
  · rcases h4 with h4 | h4
    · exact .inl h4
    · exact .inr (own_kept2 h4 h5 (by decide) hg)
  · rw [List.length_append, flatC_app]
    simpa [flatC] using hown
/-- Another frame of now. -/
theorem SdAt.now {w wr : World} {cb : Nat} {cd : Value} {m NB : Nat} {fu fl : Int} {a : Option Addr} {c : Nat} {rs : List (Int × Int)} {out : Value} {ms : List Mv} (h : SdAt w wr cb cd m NB fu fl a c rs out ms) (gu gl : Int) (a2 : Option Addr) (c2 : Nat) (qs : List (Int × Int)) (ho : wr.ownsRow w.heap.size 62 2 (.slice a2 qs.length c2) qs.length (flat qs)) (hl : qs.length ≤ 20) :
    SdAt w (((wr.setCell ⟨NB, 0, none⟩ (.int .i64 gu)).setCell ⟨NB, 1, none⟩ (.int .i64 gl)).setCell ⟨NB, 2, none⟩ (.slice a2 qs.length c2)) cb cd m NB gu gl a2 c2 qs out ms := by
  obtain ⟨h1, h2, h3, h4, h5, h6, h7, h8⟩ := h
  have hne : some cb ≠ some NB := by intro e; injection e with e; omega
  have hsm : ∀ k, k ≠ NB → (((wr.setCell ⟨NB, 0, none⟩ (.int .i64 gu)).setCell ⟨NB, 1, none⟩ (.int .i64 gl)).setCell ⟨NB, 2, none⟩ (.slice a2 qs.length c2)).heap[k]? = wr.heap[k]? := fun k hk =>
    (Below.heap_setCell _ ⟨NB, 2, none⟩ _ k hk).trans ((Below.heap_setCell _ ⟨NB, 1, none⟩ _ k hk).trans (Below.heap_setCell _ ⟨NB, 0, none⟩ _ k hk))
  have hb1 := own_box ho h3 (by decide)
  have hb2 := own_box h5 h3 (by decide)
  exact ⟨grown_set3 h1 h7 _ _ _, ((h2.row (grown_set wr NB 0 _) hne).row (grown_set _ NB 1 _) hne).row (grown_set _ NB 2 _) hne, heap_setCell_same _ NB 2 _ _ (.slice a2 qs.length c2) (heap_setCell_same _ NB 1 _ _ (.int .i64 gl) (heap_setCell_same wr NB 0 _ _ (.int .i64 gu) h3)), .inr (own_of_block ho fun g hg => hsm g (hb1 g hg)), own_of_block h5 fun g hg => hsm g (hb2 g hg), hl, h7, h8⟩
end Go.Proofs.Ytmkocinknhaniaa
