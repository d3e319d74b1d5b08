/- A move of beads is drawn. -/
import Derived.Test.YtmkocinknhaniaaDfrm
import Derived.Test.YtmkocinknhaniaaKh
import Derived.Test.YtmkocinknhaniaaKa
import Derived.Test.YtmkocinknhaniaaOwn
import Derived.Test.YtmkocinknhaniaaBeadMoves
namespace Go.Proofs.Ytmkocinknhaniaa
set_option linter.unusedVariables false
open Go.RowKit
set_option linter.unusedSimpArgs false

/-- Where the draw of a move stands: the frame's box, the answer's, the move's. -/
def BdAt (w wr : World) (cb : Nat) (cd : Value) (m MB : Nat) (up lo : Int) (sv : Value) (x y z : Int) : Prop :=
  w.grownBy wr (some cb) ∧ CurAt wr cb cd m ∧ wr.heap[w.heap.size]? = some (.cells #[.int .i64 up, .int .i64 lo, sv] 52 (0, 0)) ∧ wr.heap[w.heap.size + 1]? = some (.cells #[.int .i64 0, .int .i64 0, .int .i64 0] 40 (0, 0)) ∧ wr.heap[MB]? = some (.cells #[.int .i64 x, .int .i64 y, .int .i64 z] 40 (0, 0)) ∧ w.heap.size + 2 ≤ MB ∧ cb < w.heap.size
theorem BdAt.step {w wr wr' : World} {cb : Nat} {cd : Value} {m m' MB : Nat} {up lo : Int} {sv : Value} {x y z : Int} (h : BdAt w wr cb cd m MB up lo sv x y z) (hg : wr.grownBy wr' (some cb)) (hc : CurAt wr' cb cd m') : BdAt w wr' cb cd m' MB up lo sv x y z := by
  obtain ⟨h1, h2, h3, h4, h5, h6, h7⟩ := h
  refine ⟨grown_trans h1 hg, hc, (hg.block _ (lt_of_block h3) ?_).trans h3, (hg.block _ (lt_of_block h4) ?_).trans h4, (hg.block _ (lt_of_block h5) ?_).trans h5, h6, h7⟩ <;> (intro e; injection e with e; omega)
theorem BdAt.alloc {w wr : World} {cb : Nat} {cd : Value} {m MB : Nat} {up lo : Int} {sv : Value} {x y z : Int} (h : BdAt w wr cb cd m MB up lo sv x y z) (o : Obj) : BdAt w (wr.alloc o) cb cd m MB up lo sv x y z :=
  h.step (grown_alloc wr o (some cb)) (h.2.1.old (grown_alloc wr o none))
theorem BdAt.set {w wr : World} {cb : Nat} {cd : Value} {m MB : Nat} {up lo : Int} {sv : Value} {x y z : Int} (h : BdAt w wr cb cd m MB up lo sv x y z) (v : Int) : BdAt w (wr.setCell ⟨MB, 0, none⟩ (.int .i64 v)) cb cd m MB up lo sv v y z ∧ BdAt w (wr.setCell ⟨MB, 1, none⟩ (.int .i64 v)) cb cd m MB up lo sv x v z ∧ BdAt w (wr.setCell ⟨MB, 2, none⟩ (.int .i64 v)) cb cd m MB up lo sv x y v := by
  obtain ⟨h1, h2, h3, h4, h5, h6, h7⟩ := h
  have hg : ∀ i, w.grownBy (wr.setCell ⟨MB, i, none⟩ (.int .i64 v)) (some cb) := fun i => ⟨h1.os, h1.tape, h1.output, by simpa using h1.size, fun k hk hn => (Below.heap_setCell wr ⟨MB, i, none⟩ _ k (by show k ≠ MB; omega)).trans (h1.block k hk hn)⟩
  have hc : ∀ i, CurAt (wr.setCell ⟨MB, i, none⟩ (.int .i64 v)) cb cd m := fun i => h2.row (grown_set wr MB i _) (by intro e; injection e with e; omega)
  have hp : ∀ i, (wr.setCell ⟨MB, i, none⟩ (.int .i64 v)).heap[w.heap.size]? = _ := fun i => (Below.heap_setCell wr ⟨MB, i, none⟩ (.int .i64 v) _ (by show w.heap.size ≠ MB; omega)).trans h3
  have hz : ∀ i, (wr.setCell ⟨MB, i, none⟩ (.int .i64 v)).heap[w.heap.size + 1]? = _ := fun i => (Below.heap_setCell wr ⟨MB, i, none⟩ (.int .i64 v) _ (by show w.heap.size + 1 ≠ MB; omega)).trans h4
  exact ⟨⟨hg 0, hc 0, hp 0, hz 0, heap_setCell_same wr MB 0 _ _ (.int .i64 v) h5, h6, h7⟩, ⟨hg 1, hc 1, hp 1, hz 1, heap_setCell_same wr MB 1 _ _ (.int .i64 v) h5, h6, h7⟩, ⟨hg 2, hc 2, hp 2, hz 2, heap_setCell_same wr MB 2 _ _ (.int .i64 v) h5, h6, h7⟩⟩
theorem rods_cell {w wr : World} {a : Option Addr} {c cb : Nat} {rs : List (Int × Int)} (h : RodsR w (.slice a rs.length c) rs) (hne : ∀ p, a = some p → p.block ≠ cb) (hg : w.grownBy wr (some cb)) (k : Nat) (hk : k < rs.length) : ∃ b off, a = some ⟨b, off, none⟩ ∧ wr.cell? ⟨b, off + k * 2, none⟩ = some (.int .i64 rs[k].1) ∧ wr.cell? ⟨b, off + k * 2 + 1, none⟩ = some (.int .i64 rs[k].2) := by
  obtain ⟨a', cap, he, _, h3⟩ := h
  injection he with he _ _
  subst he
  obtain ⟨b, off, rfl, hb, hc⟩ := h3 (by intro e; subst e; simp at hk)
  have hbl := hg.block b hb (by intro e; injection e with e; exact hne _ rfl e)
  refine ⟨b, off, rfl, ?_, ?_⟩
  · rw [← (hc k hk).1]; simp only [World.cell?, hbl]
  · rw [← (hc k hk).2]; simp only [World.cell?, hbl]
theorem grown_set3 {w wr : World} {cb Z : Nat} (h : w.grownBy wr (some cb)) (hZ : w.heap.size ≤ Z) (x y z : Value) : w.grownBy (((wr.setCell ⟨Z, 0, none⟩ x).setCell ⟨Z, 1, none⟩ y).setCell ⟨Z, 2, none⟩ z) (some cb) :=
  ⟨h.os, h.tape, h.output, by simpa using h.size, fun k hk hn => (Below.heap_setCell _ ⟨Z, 2, none⟩ _ k (by show k ≠ Z; omega)).trans ((Below.heap_setCell _ ⟨Z, 1, none⟩ _ k (by show k ≠ Z; omega)).trans ((Below.heap_setCell _ ⟨Z, 0, none⟩ _ k (by show k ≠ Z; omega)).trans (h.block k hk hn)))⟩
set_option maxRecDepth 100000 in
set_option maxHeartbeats 6400000 in
theorem bead_any (cb : Nat) (cd : Value) (L : List UInt8) (n : Nat) (up lo : Int) (a : Option Addr) (c : Nat) (rs : List (Int × Int)) (w : World) (hn : n < 4611686018427380000) (hrs : RodsR w (.slice a rs.length c) rs) (hl : rs.length ≤ 20) (hne : ∀ p, a = some p → p.block ≠ cb) (hc : CurAt w cb cd n) (hr : CodeR w cb cd L) :
    Calls Try.prog 46 #[.pointer (some ⟨cb, 0, none⟩), .agg #[.int .i64 up, .int .i64 lo, .slice a rs.length c]] w fun e w' => (∃ x y z : Int, e = .returned (.agg #[.int .i64 x, .int .i64 y, .int .i64 z])) ∧ CurAt w' cb cd (n + 20) ∧ w.grownBy w' (some cb) := by
  have hcb := hc.lt
  have HR := Lib.hid hr
  have HRC := Lib.hid (fun wr (hg : w.grownBy wr (some cb)) k hk => rods_cell hrs hne hg k hk)
  obtain ⟨W1, hW1⟩ : ∃ W1, (w.alloc (.cells #[.int .i64 up, .int .i64 lo, .slice a rs.length c] 52)).alloc (.cells #[.int .i64 0, .int .i64 0, .int .i64 0] 40) = W1 := ⟨_, rfl⟩
  have hg1 : w.grownBy W1 none := by rw [← hW1]; exact grown_trans (grown_alloc _ _ none) (grown_alloc _ _ none)
  have hp1 : W1.heap[w.heap.size]? = some (.cells #[.int .i64 up, .int .i64 lo, .slice a rs.length c] 52 (0, 0)) := by rw [← hW1]; exact (alloc_old (by simp)).trans (alloc_at rfl)
  have hz1 : W1.heap[w.heap.size + 1]? = some (.cells #[.int .i64 0, .int .i64 0, .int .i64 0] 40 (0, 0)) := by rw [← hW1]; exact alloc_at (by simp)
  have hs1 : W1.heap.size = w.heap.size + 2 := by rw [← hW1]; simp
  have HG1 := Lib.hid (grown_any (r := some cb) hg1)
  have HC1 := Lib.hid (hc.old hg1)
  have HP1 := Lib.hid hp1
  have HZ1 := Lib.hid hz1
  have HS1 := Lib.hid hs1
  obtain ⟨M, hM⟩ : ∃ M : Int, (if (rs.length : Int) < 1 then 1 else (rs.length : Int)) = M := ⟨_, rfl⟩
  have hM1 : 1 ≤ M ∧ M ≤ 20 ∧ (0 < rs.length → M = (rs.length : Int)) := by rw [← hM]; split <;> omega
  obtain ⟨p0, p1, p2, o0, o1, o2⟩ := cell3 hp1
  clear hg1 hc hr hrs hne hz1 hs1 hp1
  go_enter Try.func46, Try.ntmps46
  go_wp2_with fail
  try rw [hW1]
  clear hW1
  go_wp2_with fail
  refine (l1Most_any 1 (rs.length : Int) _).mono ?_
  rintro e w' ⟨rfl, hw⟩
  subst w'
  rw [hM]
  clear hM p0 p1 p2 o0 o1 o2
  go_wp2_with fail
  refine (pick_any cb cd L n M W1 (by omega) (by omega) (by omega) HC1.out (HR.out.grown HG1.out)).mono ?_
  rintro e w2 ⟨⟨x, rfl, x0, x1⟩, hc2, hg2⟩
  have HG2 := Lib.hid hg2
  have HC2 := Lib.hid hc2
  clear hc2 hg2
  go_wp2_with fail
  refine (pick_any cb cd L (n + 2) 2 w2 (by omega) (by omega) (by omega) HC2.out (HR.out.grown (grown_trans HG1.out HG2.out))).mono ?_
  rintro e w3 ⟨⟨y, rfl, y0, y1⟩, hc3, hg3⟩
  have HG3 := Lib.hid (grown_trans HG2.out hg3)
  have HC3 := Lib.hid hc3
  clear hc3 hg3
  have hal := grown_alloc w3 (.cells ([1, 1, -1, 2, -2, 4, -3, 5].map (Value.int .i64)).toArray 3) none
  have HAM := Lib.hid (among_any cb cd L (n + 2 + 2) (.slice (some ⟨w3.heap.size, 0, none⟩) 8 8) [1, 1, -1, 2, -2, 4, -3, 5] (w3.alloc (.cells ([1, 1, -1, 2, -2, 4, -3, 5].map (Value.int .i64)).toArray 3)) (by omega) (by first | decide | (simp; done)) (slr_lit w3 ([1, 1, -1, 2, -2, 4, -3, 5].map (Value.int .i64)) 3 (by first | decide | (simp [maxLen]; done))) (fun a m c e => by cases e; show w3.heap.size ≠ cb; have := (grown_trans HG1.out HG3.out).size; omega) ((HC3.out).old hal) (HR.out.grown (grown_trans (grown_trans HG1.out HG3.out) (grown_any hal))))
  clear hal
  go_wp2_with fail
  refine (HAM.out).mono ?_
  rintro e w4 ⟨⟨z, rfl, -⟩, hc, hg⟩
  have hgl := grown_trans (grown_any (r := some cb) (grown_alloc w3 (.cells ([1, 1, -1, 2, -2, 4, -3, 5].map (Value.int .i64)).toArray 3) none)) hg
  have HMB : Hid (w.heap.size + 2 ≤ w4.heap.size) := Lib.hid (by have := (grown_trans HG3.out hgl).size; have := HS1.out; omega)
  have hb : BdAt w (w4.alloc (.cells #[.int .i64 x, .int .i64 y, .int .i64 z] 40)) cb cd (n + 2 + 2 + 2) w4.heap.size up lo (.slice a rs.length c) x y z := by
    have hg4 := grown_trans HG3.out hgl
    have ga := grown_alloc w4 (.cells #[.int .i64 x, .int .i64 y, .int .i64 z] 40) none
    have hs := HS1.out
    have hp := (hg4.block _ (lt_of_block HP1.out) (by intro e; injection e with e; omega)).trans HP1.out
    have hz := (hg4.block _ (lt_of_block HZ1.out) (by intro e; injection e with e; omega)).trans HZ1.out
    exact ⟨grown_trans (grown_trans HG1.out hg4) (grown_any ga), hc.old ga, (ga.block _ (lt_of_block hp) (by simp)).trans hp, (ga.block _ (lt_of_block hz) (by simp)).trans hz, alloc_at rfl, HMB.out, hcb⟩
  clear hc hg hgl HAM HG1 HG2 HG3 HC1 HC2 HC3 HP1 HZ1 HS1
  obtain ⟨p0, p1, p2, o0, o1, o2⟩ := cell3 hb.2.2.1
  have HB := Lib.hid hb
  clear hb
  by_cases h0 : 0 < rs.length
  · have hk0 : (0 : Int) < (rs.length : Int) := by omega
    go_wp2_with fail
    generalize w4.alloc (.cells #[.int .i64 x, .int .i64 y, .int .i64 z] 40) = w5 at HB p0 p1 p2 o0 o1 o2 ⊢
    have hMB := HMB.out
    generalize w4.heap.size = MB at HB hMB ⊢
    clear HMB
    refine (one_any cb cd L (n + 2 + 2 + 2) 4 w5 (by omega) ⟨by omega, by omega⟩ HB.out.2.1 (HR.out.grown HB.out.1)).mono ?_
    rintro e w6 ⟨⟨b2, rfl⟩, hc, hg⟩
    have HB6 := Lib.hid (HB.out.step hg hc)
    clear hc hg HB p0 p1 p2 o0 o1 o2
    cases b2 with
    | true =>
      have HB := HB6
      clear HB6
      go_wp2_with fail
      refine (pick_any cb cd L (n + 2 + 2 + 2 + 2) 64 w6 (by omega) (by omega) (by omega) HB.out.2.1 (HR.out.grown HB.out.1)).mono ?_
      rintro e wp ⟨⟨r, rfl, r0, r1⟩, hc, hg⟩
      have HBp := Lib.hid (HB.out.step hg hc)
      clear hc hg HB
      by_cases hr0 : r = 0
      · subst hr0
        clear r0 r1
        have hal := grown_alloc wp (.cells ([-1, 7, 8].map (Value.int .i64)).toArray 3) none
        have HAM := Lib.hid (among_any cb cd L (n + 2 + 2 + 2 + 2 + 2) (.slice (some ⟨wp.heap.size, 0, none⟩) 3 3) [-1, 7, 8] (wp.alloc (.cells ([-1, 7, 8].map (Value.int .i64)).toArray 3)) (by omega) (by first | decide | (simp; done)) (slr_lit wp ([-1, 7, 8].map (Value.int .i64)) 3 (by first | decide | (simp [maxLen]; done))) (fun a m c e => by cases e; show wp.heap.size ≠ cb; have := (HBp.out.1).size; omega) ((HBp.out.2.1).old hal) (HR.out.grown (grown_trans (HBp.out.1) (grown_any hal))))
        clear hal
        go_wp2_with fail
        refine (HAM.out).mono ?_
        rintro e wa ⟨⟨v, rfl, -⟩, hc, hg⟩
        have hgl := grown_trans (grown_any (r := some cb) (grown_alloc wp (.cells ([-1, 7, 8].map (Value.int .i64)).toArray 3) none)) hg
        have hb := (HBp.out.step hgl hc)
        obtain ⟨m0, m1, m2, n0, n1, n2⟩ := cell3 hb.2.2.2.2.1
        have HBs := Lib.hid (hb.set v).1
        obtain ⟨s0, s1, s2, -, -, -⟩ := cell3 HBs.out.2.2.2.2.1
        obtain ⟨z0, z1, z2, q0, q1, q2⟩ := cell3 HBs.out.2.2.2.1
        clear hc hg hgl HAM hb HBp
        go_wp2_with fail
        have hzz := heap_setCell_same _ (w.heap.size + 1) 2 _ _ (.int .i64 z) (heap_setCell_same _ (w.heap.size + 1) 1 _ _ (.int .i64 y) (heap_setCell_same (wa.setCell ⟨MB, 0, none⟩ (.int .i64 v)) (w.heap.size + 1) 0 _ _ (.int .i64 v) HBs.out.2.2.2.1))
        change (((((wa.setCell ⟨MB, 0, none⟩ (.int .i64 v)).setCell ⟨w.heap.size + 1, 0, none⟩ (.int .i64 v)).setCell ⟨w.heap.size + 1, 1, none⟩ (.int .i64 y)).setCell ⟨w.heap.size + 1, 2, none⟩ (.int .i64 z)).heap[w.heap.size + 1]? = some (.cells #[.int .i64 v, .int .i64 y, .int .i64 z] 40 (0, 0))) at hzz
        obtain ⟨t0, t1, t2, -, -, -⟩ := cell3 hzz
        exact bodyPost_ret (v := .agg #[.int .i64 v, .int .i64 y, .int .i64 z]) (by simp [results, Try.results46, go_sem, t0, t1, t2]) rfl ⟨⟨_, _, _, rfl⟩, (((HBs.out.2.1.row (grown_set _ (w.heap.size + 1) 0 _) (by intro e; injection e with e; omega)).row (grown_set _ (w.heap.size + 1) 1 _) (by intro e; injection e with e; omega)).row (grown_set _ (w.heap.size + 1) 2 _) (by intro e; injection e with e; omega)).more (by omega), grown_set3 HBs.out.1 (by omega) _ _ _⟩
      have hq0 : (r == 0) = false := beq_eq_false_iff_ne.2 hr0
      by_cases hr1 : r = 1
      · subst hr1
        clear r0 r1
        have hal := grown_alloc wp (.cells ([0, 6, -6].map (Value.int .i64)).toArray 3) none
        have HAM := Lib.hid (among_any cb cd L (n + 2 + 2 + 2 + 2 + 2) (.slice (some ⟨wp.heap.size, 0, none⟩) 3 3) [0, 6, -6] (wp.alloc (.cells ([0, 6, -6].map (Value.int .i64)).toArray 3)) (by omega) (by first | decide | (simp; done)) (slr_lit wp ([0, 6, -6].map (Value.int .i64)) 3 (by first | decide | (simp [maxLen]; done))) (fun a m c e => by cases e; show wp.heap.size ≠ cb; have := (HBp.out.1).size; omega) ((HBp.out.2.1).old hal) (HR.out.grown (grown_trans (HBp.out.1) (grown_any hal))))
        clear hal
        go_wp2_with fail
        refine (HAM.out).mono ?_
        rintro e wa ⟨⟨v, rfl, -⟩, hc, hg⟩
        have hgl := grown_trans (grown_any (r := some cb) (grown_alloc wp (.cells ([0, 6, -6].map (Value.int .i64)).toArray 3) none)) hg
        have hb := (HBp.out.step hgl hc)
        obtain ⟨m0, m1, m2, n0, n1, n2⟩ := cell3 hb.2.2.2.2.1
        have HBs := Lib.hid (hb.set v).2.2
        obtain ⟨s0, s1, s2, -, -, -⟩ := cell3 HBs.out.2.2.2.2.1
        obtain ⟨z0, z1, z2, q0, q1, q2⟩ := cell3 HBs.out.2.2.2.1
        clear hc hg hgl HAM hb HBp
        go_wp2_with fail
        have hzz := heap_setCell_same _ (w.heap.size + 1) 2 _ _ (.int .i64 v) (heap_setCell_same _ (w.heap.size + 1) 1 _ _ (.int .i64 y) (heap_setCell_same (wa.setCell ⟨MB, 2, none⟩ (.int .i64 v)) (w.heap.size + 1) 0 _ _ (.int .i64 x) HBs.out.2.2.2.1))
        change (((((wa.setCell ⟨MB, 2, none⟩ (.int .i64 v)).setCell ⟨w.heap.size + 1, 0, none⟩ (.int .i64 x)).setCell ⟨w.heap.size + 1, 1, none⟩ (.int .i64 y)).setCell ⟨w.heap.size + 1, 2, none⟩ (.int .i64 v)).heap[w.heap.size + 1]? = some (.cells #[.int .i64 x, .int .i64 y, .int .i64 v] 40 (0, 0))) at hzz
        obtain ⟨t0, t1, t2, -, -, -⟩ := cell3 hzz
        exact bodyPost_ret (v := .agg #[.int .i64 x, .int .i64 y, .int .i64 v]) (by simp [results, Try.results46, go_sem, t0, t1, t2]) rfl ⟨⟨_, _, _, rfl⟩, (((HBs.out.2.1.row (grown_set _ (w.heap.size + 1) 0 _) (by intro e; injection e with e; omega)).row (grown_set _ (w.heap.size + 1) 1 _) (by intro e; injection e with e; omega)).row (grown_set _ (w.heap.size + 1) 2 _) (by intro e; injection e with e; omega)).more (by omega), grown_set3 HBs.out.1 (by omega) _ _ _⟩
      have hq1 : (r == 1) = false := beq_eq_false_iff_ne.2 hr1
      by_cases hr2 : r = 2
      · subst hr2
        clear r0 r1
        have hal := grown_alloc wp (.cells ([-1, 2].map (Value.int .i64)).toArray 3) none
        have HAM := Lib.hid (among_any cb cd L (n + 2 + 2 + 2 + 2 + 2) (.slice (some ⟨wp.heap.size, 0, none⟩) 2 2) [-1, 2] (wp.alloc (.cells ([-1, 2].map (Value.int .i64)).toArray 3)) (by omega) (by first | decide | (simp; done)) (slr_lit wp ([-1, 2].map (Value.int .i64)) 3 (by first | decide | (simp [maxLen]; done))) (fun a m c e => by cases e; show wp.heap.size ≠ cb; have := (HBp.out.1).size; omega) ((HBp.out.2.1).old hal) (HR.out.grown (grown_trans (HBp.out.1) (grown_any hal))))
        clear hal
        go_wp2_with fail
        refine (HAM.out).mono ?_
        rintro e wa ⟨⟨v, rfl, -⟩, hc, hg⟩
        have hgl := grown_trans (grown_any (r := some cb) (grown_alloc wp (.cells ([-1, 2].map (Value.int .i64)).toArray 3) none)) hg
        have hb := (HBp.out.step hgl hc)
        obtain ⟨m0, m1, m2, n0, n1, n2⟩ := cell3 hb.2.2.2.2.1
        have HBs := Lib.hid (hb.set v).2.1
        obtain ⟨s0, s1, s2, -, -, -⟩ := cell3 HBs.out.2.2.2.2.1
        obtain ⟨z0, z1, z2, q0, q1, q2⟩ := cell3 HBs.out.2.2.2.1
        clear hc hg hgl HAM hb HBp
        go_wp2_with fail
        have hzz := heap_setCell_same _ (w.heap.size + 1) 2 _ _ (.int .i64 z) (heap_setCell_same _ (w.heap.size + 1) 1 _ _ (.int .i64 v) (heap_setCell_same (wa.setCell ⟨MB, 1, none⟩ (.int .i64 v)) (w.heap.size + 1) 0 _ _ (.int .i64 x) HBs.out.2.2.2.1))
        change (((((wa.setCell ⟨MB, 1, none⟩ (.int .i64 v)).setCell ⟨w.heap.size + 1, 0, none⟩ (.int .i64 x)).setCell ⟨w.heap.size + 1, 1, none⟩ (.int .i64 v)).setCell ⟨w.heap.size + 1, 2, none⟩ (.int .i64 z)).heap[w.heap.size + 1]? = some (.cells #[.int .i64 x, .int .i64 v, .int .i64 z] 40 (0, 0))) at hzz
        obtain ⟨t0, t1, t2, -, -, -⟩ := cell3 hzz
        exact bodyPost_ret (v := .agg #[.int .i64 x, .int .i64 v, .int .i64 z]) (by simp [results, Try.results46, go_sem, t0, t1, t2]) rfl ⟨⟨_, _, _, rfl⟩, (((HBs.out.2.1.row (grown_set _ (w.heap.size + 1) 0 _) (by intro e; injection e with e; omega)).row (grown_set _ (w.heap.size + 1) 1 _) (by intro e; injection e with e; omega)).row (grown_set _ (w.heap.size + 1) 2 _) (by intro e; injection e with e; omega)).more (by omega), grown_set3 HBs.out.1 (by omega) _ _ _⟩
      have hq2 : (r == 2) = false := beq_eq_false_iff_ne.2 hr2
      obtain ⟨m0, m1, m2, n0, n1, n2⟩ := cell3 HBp.out.2.2.2.2.1
      obtain ⟨z0, z1, z2, q0, q1, q2⟩ := cell3 HBp.out.2.2.2.1
      go_wp2_with fail
      have hzz := heap_setCell_same _ (w.heap.size + 1) 2 _ _ (.int .i64 z) (heap_setCell_same _ (w.heap.size + 1) 1 _ _ (.int .i64 y) (heap_setCell_same wp (w.heap.size + 1) 0 _ _ (.int .i64 x) HBp.out.2.2.2.1))
      change ((((wp.setCell ⟨w.heap.size + 1, 0, none⟩ (.int .i64 x)).setCell ⟨w.heap.size + 1, 1, none⟩ (.int .i64 y)).setCell ⟨w.heap.size + 1, 2, none⟩ (.int .i64 z)).heap[w.heap.size + 1]? = some (.cells #[.int .i64 x, .int .i64 y, .int .i64 z] 40 (0, 0))) at hzz
      obtain ⟨t0, t1, t2, -, -, -⟩ := cell3 hzz
      exact bodyPost_ret (v := .agg #[.int .i64 x, .int .i64 y, .int .i64 z]) (by simp [results, Try.results46, go_sem, t0, t1, t2]) rfl ⟨⟨_, _, _, rfl⟩, (((HBp.out.2.1.row (grown_set _ (w.heap.size + 1) 0 _) (by intro e; injection e with e; omega)).row (grown_set _ (w.heap.size + 1) 1 _) (by intro e; injection e with e; omega)).row (grown_set _ (w.heap.size + 1) 2 _) (by intro e; injection e with e; omega)).more (by omega), grown_set3 HBp.out.1 (by omega) _ _ _⟩
    | false =>
      obtain ⟨k, hk⟩ : ∃ k : Nat, x = (k : Int) := ⟨x.toNat, by omega⟩
      subst hk
      have hkl : k < rs.length := by have := hM1.2.2 h0; omega
      obtain ⟨rb, ro, rfl, e0, e1⟩ := HRC.out w6 HB6.out.1 k hkl
      generalize rs[k].1 = ra at e0
      generalize rs[k].2 = rl at e1
      obtain ⟨p0, p1, p2, o0, o1, o2⟩ := cell3 HB6.out.2.2.1
      obtain ⟨m0, m1, m2, n0, n1, n2⟩ := cell3 HB6.out.2.2.2.2.1
      have z1 : (0 : Int) ≤ (k : Int) := by omega
      have z2 : (k : Int) < (rs.length : Int) := by omega
      have HB7 := Lib.hid (HB6.out.alloc (.cells #[.int .i64 ra, .int .i64 rl] 62))
      have hrb : (w6.alloc (.cells #[.int .i64 ra, .int .i64 rl] 62)).heap[w6.heap.size]? = some (.cells #[.int .i64 ra, .int .i64 rl] 62 (0, 0)) := alloc_at rfl
      have hml := lt_of_block HB6.out.2.2.2.2.1
      have hRM : w6.heap.size ≠ MB := by omega
      have hRC : w6.heap.size ≠ cb := by have := HB6.out.1.size; omega
      have hpl := lt_of_block HB6.out.2.2.1
      obtain ⟨r0', r1', s0', s1'⟩ := cell2 hrb
      by_cases hy : y = 0
      · subst hy
        go_wp2_with fail
        refine (l1Least_any 1 ra _).mono ?_
        rintro e w' ⟨rfl, hw⟩
        subst w'
        generalize (if (1 : Int) < ra then 1 else ra) = q
        obtain ⟨A, hA⟩ : ∃ A, IntKind.i64.wrap (2 * q) = A := ⟨_, rfl⟩
        obtain ⟨V, hV⟩ : ∃ V, IntKind.i64.wrap (1 - A) = V := ⟨_, rfl⟩
        obtain ⟨mm0, mm1, mm2, nn0, nn1, nn2⟩ := cell3 HB7.out.2.2.2.2.1
        have HB := Lib.hid (((HB6.out.set V).2.2).alloc (.cells #[.int .i64 ra, .int .i64 rl] 62))
        clear HB6
        go_wp2_with fail
        skip
        generalize World.alloc (w6.setCell ⟨MB, 2, none⟩ (.int .i64 V)) (.cells #[.int .i64 ra, .int .i64 rl] 62) = w8 at HB ⊢
        clear HB7 hrb hRM hRC hml hpl r0' r1' s0' s1' mm0 mm1 mm2 nn0 nn1 nn2 p0 p1 p2 o0 o1 o2 m0 m1 m2 n0 n1 n2 e0 e1 hA hV
        refine (pick_any cb cd L (n + 2 + 2 + 2 + 2) 64 w8 (by omega) (by omega) (by omega) HB.out.2.1 (HR.out.grown HB.out.1)).mono ?_
        rintro e wp ⟨⟨r, rfl, r0, r1⟩, hc, hg⟩
        have HBp := Lib.hid (HB.out.step hg hc)
        clear hc hg HB
        by_cases hr0 : r = 0
        · subst hr0
          clear r0 r1
          have hal := grown_alloc wp (.cells ([-1, 7, 8].map (Value.int .i64)).toArray 3) none
          have HAM := Lib.hid (among_any cb cd L (n + 2 + 2 + 2 + 2 + 2) (.slice (some ⟨wp.heap.size, 0, none⟩) 3 3) [-1, 7, 8] (wp.alloc (.cells ([-1, 7, 8].map (Value.int .i64)).toArray 3)) (by omega) (by first | decide | (simp; done)) (slr_lit wp ([-1, 7, 8].map (Value.int .i64)) 3 (by first | decide | (simp [maxLen]; done))) (fun a m c e => by cases e; show wp.heap.size ≠ cb; have := (HBp.out.1).size; omega) ((HBp.out.2.1).old hal) (HR.out.grown (grown_trans (HBp.out.1) (grown_any hal))))
          clear hal
          go_wp2_with fail
          refine (HAM.out).mono ?_
          rintro e wa ⟨⟨v, rfl, -⟩, hc, hg⟩
          have hgl := grown_trans (grown_any (r := some cb) (grown_alloc wp (.cells ([-1, 7, 8].map (Value.int .i64)).toArray 3) none)) hg
          have hb := (HBp.out.step hgl hc)
          obtain ⟨m0, m1, m2, n0, n1, n2⟩ := cell3 hb.2.2.2.2.1
          have HBs := Lib.hid (hb.set v).1
          obtain ⟨s0, s1, s2, -, -, -⟩ := cell3 HBs.out.2.2.2.2.1
          obtain ⟨z0, z1, z2, q0, q1, q2⟩ := cell3 HBs.out.2.2.2.1
          clear hc hg hgl HAM hb HBp
          go_wp2_with fail
          have hzz := heap_setCell_same _ (w.heap.size + 1) 2 _ _ (.int .i64 V) (heap_setCell_same _ (w.heap.size + 1) 1 _ _ (.int .i64 0) (heap_setCell_same (wa.setCell ⟨MB, 0, none⟩ (.int .i64 v)) (w.heap.size + 1) 0 _ _ (.int .i64 v) HBs.out.2.2.2.1))
          change (((((wa.setCell ⟨MB, 0, none⟩ (.int .i64 v)).setCell ⟨w.heap.size + 1, 0, none⟩ (.int .i64 v)).setCell ⟨w.heap.size + 1, 1, none⟩ (.int .i64 0)).setCell ⟨w.heap.size + 1, 2, none⟩ (.int .i64 V)).heap[w.heap.size + 1]? = some (.cells #[.int .i64 v, .int .i64 0, .int .i64 V] 40 (0, 0))) at hzz
          obtain ⟨t0, t1, t2, -, -, -⟩ := cell3 hzz
          exact bodyPost_ret (v := .agg #[.int .i64 v, .int .i64 0, .int .i64 V]) (by simp [results, Try.results46, go_sem, t0, t1, t2]) rfl ⟨⟨_, _, _, rfl⟩, (((HBs.out.2.1.row (grown_set _ (w.heap.size + 1) 0 _) (by intro e; injection e with e; omega)).row (grown_set _ (w.heap.size + 1) 1 _) (by intro e; injection e with e; omega)).row (grown_set _ (w.heap.size + 1) 2 _) (by intro e; injection e with e; omega)).more (by omega), grown_set3 HBs.out.1 (by omega) _ _ _⟩
        have hq0 : (r == 0) = false := beq_eq_false_iff_ne.2 hr0
        by_cases hr1 : r = 1
        · subst hr1
          clear r0 r1
          have hal := grown_alloc wp (.cells ([0, 6, -6].map (Value.int .i64)).toArray 3) none
          have HAM := Lib.hid (among_any cb cd L (n + 2 + 2 + 2 + 2 + 2) (.slice (some ⟨wp.heap.size, 0, none⟩) 3 3) [0, 6, -6] (wp.alloc (.cells ([0, 6, -6].map (Value.int .i64)).toArray 3)) (by omega) (by first | decide | (simp; done)) (slr_lit wp ([0, 6, -6].map (Value.int .i64)) 3 (by first | decide | (simp [maxLen]; done))) (fun a m c e => by cases e; show wp.heap.size ≠ cb; have := (HBp.out.1).size; omega) ((HBp.out.2.1).old hal) (HR.out.grown (grown_trans (HBp.out.1) (grown_any hal))))
          clear hal
          go_wp2_with fail
          refine (HAM.out).mono ?_
          rintro e wa ⟨⟨v, rfl, -⟩, hc, hg⟩
          have hgl := grown_trans (grown_any (r := some cb) (grown_alloc wp (.cells ([0, 6, -6].map (Value.int .i64)).toArray 3) none)) hg
          have hb := (HBp.out.step hgl hc)
          obtain ⟨m0, m1, m2, n0, n1, n2⟩ := cell3 hb.2.2.2.2.1
          have HBs := Lib.hid (hb.set v).2.2
          obtain ⟨s0, s1, s2, -, -, -⟩ := cell3 HBs.out.2.2.2.2.1
          obtain ⟨z0, z1, z2, q0, q1, q2⟩ := cell3 HBs.out.2.2.2.1
          clear hc hg hgl HAM hb HBp
          go_wp2_with fail
          have hzz := heap_setCell_same _ (w.heap.size + 1) 2 _ _ (.int .i64 v) (heap_setCell_same _ (w.heap.size + 1) 1 _ _ (.int .i64 0) (heap_setCell_same (wa.setCell ⟨MB, 2, none⟩ (.int .i64 v)) (w.heap.size + 1) 0 _ _ (.int .i64 (k : Int)) HBs.out.2.2.2.1))
          change (((((wa.setCell ⟨MB, 2, none⟩ (.int .i64 v)).setCell ⟨w.heap.size + 1, 0, none⟩ (.int .i64 (k : Int))).setCell ⟨w.heap.size + 1, 1, none⟩ (.int .i64 0)).setCell ⟨w.heap.size + 1, 2, none⟩ (.int .i64 v)).heap[w.heap.size + 1]? = some (.cells #[.int .i64 (k : Int), .int .i64 0, .int .i64 v] 40 (0, 0))) at hzz
          obtain ⟨t0, t1, t2, -, -, -⟩ := cell3 hzz
          exact bodyPost_ret (v := .agg #[.int .i64 (k : Int), .int .i64 0, .int .i64 v]) (by simp [results, Try.results46, go_sem, t0, t1, t2]) rfl ⟨⟨_, _, _, rfl⟩, (((HBs.out.2.1.row (grown_set _ (w.heap.size + 1) 0 _) (by intro e; injection e with e; omega)).row (grown_set _ (w.heap.size + 1) 1 _) (by intro e; injection e with e; omega)).row (grown_set _ (w.heap.size + 1) 2 _) (by intro e; injection e with e; omega)).more (by omega), grown_set3 HBs.out.1 (by omega) _ _ _⟩
        have hq1 : (r == 1) = false := beq_eq_false_iff_ne.2 hr1
        by_cases hr2 : r = 2
        · subst hr2
          clear r0 r1
          have hal := grown_alloc wp (.cells ([-1, 2].map (Value.int .i64)).toArray 3) none
          have HAM := Lib.hid (among_any cb cd L (n + 2 + 2 + 2 + 2 + 2) (.slice (some ⟨wp.heap.size, 0, none⟩) 2 2) [-1, 2] (wp.alloc (.cells ([-1, 2].map (Value.int .i64)).toArray 3)) (by omega) (by first | decide | (simp; done)) (slr_lit wp ([-1, 2].map (Value.int .i64)) 3 (by first | decide | (simp [maxLen]; done))) (fun a m c e => by cases e; show wp.heap.size ≠ cb; have := (HBp.out.1).size; omega) ((HBp.out.2.1).old hal) (HR.out.grown (grown_trans (HBp.out.1) (grown_any hal))))
          clear hal
          go_wp2_with fail
          refine (HAM.out).mono ?_
          rintro e wa ⟨⟨v, rfl, -⟩, hc, hg⟩
          have hgl := grown_trans (grown_any (r := some cb) (grown_alloc wp (.cells ([-1, 2].map (Value.int .i64)).toArray 3) none)) hg
          have hb := (HBp.out.step hgl hc)
          obtain ⟨m0, m1, m2, n0, n1, n2⟩ := cell3 hb.2.2.2.2.1
          have HBs := Lib.hid (hb.set v).2.1
          obtain ⟨s0, s1, s2, -, -, -⟩ := cell3 HBs.out.2.2.2.2.1
          obtain ⟨z0, z1, z2, q0, q1, q2⟩ := cell3 HBs.out.2.2.2.1
          clear hc hg hgl HAM hb HBp
          go_wp2_with fail
          have hzz := heap_setCell_same _ (w.heap.size + 1) 2 _ _ (.int .i64 V) (heap_setCell_same _ (w.heap.size + 1) 1 _ _ (.int .i64 v) (heap_setCell_same (wa.setCell ⟨MB, 1, none⟩ (.int .i64 v)) (w.heap.size + 1) 0 _ _ (.int .i64 (k : Int)) HBs.out.2.2.2.1))
          change (((((wa.setCell ⟨MB, 1, none⟩ (.int .i64 v)).setCell ⟨w.heap.size + 1, 0, none⟩ (.int .i64 (k : Int))).setCell ⟨w.heap.size + 1, 1, none⟩ (.int .i64 v)).setCell ⟨w.heap.size + 1, 2, none⟩ (.int .i64 V)).heap[w.heap.size + 1]? = some (.cells #[.int .i64 (k : Int), .int .i64 v, .int .i64 V] 40 (0, 0))) at hzz
          obtain ⟨t0, t1, t2, -, -, -⟩ := cell3 hzz
          exact bodyPost_ret (v := .agg #[.int .i64 (k : Int), .int .i64 v, .int .i64 V]) (by simp [results, Try.results46, go_sem, t0, t1, t2]) rfl ⟨⟨_, _, _, rfl⟩, (((HBs.out.2.1.row (grown_set _ (w.heap.size + 1) 0 _) (by intro e; injection e with e; omega)).row (grown_set _ (w.heap.size + 1) 1 _) (by intro e; injection e with e; omega)).row (grown_set _ (w.heap.size + 1) 2 _) (by intro e; injection e with e; omega)).more (by omega), grown_set3 HBs.out.1 (by omega) _ _ _⟩
        have hq2 : (r == 2) = false := beq_eq_false_iff_ne.2 hr2
        obtain ⟨m0, m1, m2, n0, n1, n2⟩ := cell3 HBp.out.2.2.2.2.1
        obtain ⟨z0, z1, z2, q0, q1, q2⟩ := cell3 HBp.out.2.2.2.1
        go_wp2_with fail
        have hzz := heap_setCell_same _ (w.heap.size + 1) 2 _ _ (.int .i64 V) (heap_setCell_same _ (w.heap.size + 1) 1 _ _ (.int .i64 0) (heap_setCell_same wp (w.heap.size + 1) 0 _ _ (.int .i64 (k : Int)) HBp.out.2.2.2.1))
        change ((((wp.setCell ⟨w.heap.size + 1, 0, none⟩ (.int .i64 (k : Int))).setCell ⟨w.heap.size + 1, 1, none⟩ (.int .i64 0)).setCell ⟨w.heap.size + 1, 2, none⟩ (.int .i64 V)).heap[w.heap.size + 1]? = some (.cells #[.int .i64 (k : Int), .int .i64 0, .int .i64 V] 40 (0, 0))) at hzz
        obtain ⟨t0, t1, t2, -, -, -⟩ := cell3 hzz
        exact bodyPost_ret (v := .agg #[.int .i64 (k : Int), .int .i64 0, .int .i64 V]) (by simp [results, Try.results46, go_sem, t0, t1, t2]) rfl ⟨⟨_, _, _, rfl⟩, (((HBp.out.2.1.row (grown_set _ (w.heap.size + 1) 0 _) (by intro e; injection e with e; omega)).row (grown_set _ (w.heap.size + 1) 1 _) (by intro e; injection e with e; omega)).row (grown_set _ (w.heap.size + 1) 2 _) (by intro e; injection e with e; omega)).more (by omega), grown_set3 HBp.out.1 (by omega) _ _ _⟩
      · obtain rfl : y = 1 := by omega
        obtain ⟨V1, hV1⟩ : ∃ V, IntKind.i64.wrap (-rl) = V := ⟨_, rfl⟩
        obtain ⟨V2, hV2⟩ : ∃ V, IntKind.i64.wrap (lo - rl) = V := ⟨_, rfl⟩
        have hal := grown_alloc (w6.alloc (.cells #[.int .i64 ra, .int .i64 rl] 62)) (.cells ([V1, V2, 1].map (Value.int .i64)).toArray 3) none
        have HAM := Lib.hid (among_any cb cd L (n + 2 + 2 + 2 + 2) (.slice (some ⟨(w6.alloc (.cells #[.int .i64 ra, .int .i64 rl] 62)).heap.size, 0, none⟩) 3 3) [V1, V2, 1] ((w6.alloc (.cells #[.int .i64 ra, .int .i64 rl] 62)).alloc (.cells ([V1, V2, 1].map (Value.int .i64)).toArray 3)) (by omega) (by first | decide | (simp; done)) (slr_lit (w6.alloc (.cells #[.int .i64 ra, .int .i64 rl] 62)) ([V1, V2, 1].map (Value.int .i64)) 3 (by first | decide | (simp [maxLen]; done))) (fun a m c e => by cases e; show (w6.alloc (.cells #[.int .i64 ra, .int .i64 rl] 62)).heap.size ≠ cb; have := (HB7.out.1).size; omega) ((HB7.out.2.1).old hal) (HR.out.grown (grown_trans (HB7.out.1) (grown_any hal))))
        clear hal
        have hsz : (w6.alloc (.cells #[.int .i64 ra, .int .i64 rl] 62)).heap.size = w6.heap.size + 1 := by simp
        rw [hsz] at HAM
        go_wp2_with fail
        refine (HAM.out).mono ?_
        rintro e w8 ⟨⟨vv, rfl, -⟩, hc, hg⟩
        have hgl := grown_trans (grown_any (r := some cb) (grown_alloc (w6.alloc (.cells #[.int .i64 ra, .int .i64 rl] 62)) (.cells ([V1, V2, 1].map (Value.int .i64)).toArray 3) none)) hg
        have hb := HB7.out.step hgl hc
        obtain ⟨mm0, mm1, mm2, nn0, nn1, nn2⟩ := cell3 hb.2.2.2.2.1
        have HB := Lib.hid ((hb.set vv).2.2)
        clear hb hc hg hgl HAM HB6 HB7 hrb hRM hRC hml hpl r0' r1' s0' s1' p0 p1 p2 o0 o1 o2 m0 m1 m2 n0 n1 n2 e0 e1 hV1 hV2
        go_wp2_with fail
        generalize World.setCell w8 ⟨MB, 2, none⟩ (.int .i64 vv) = w9 at HB ⊢
        clear mm0 mm1 mm2 nn0 nn1 nn2
        refine (pick_any cb cd L (n + 2 + 2 + 2 + 2 + 2) 64 w9 (by omega) (by omega) (by omega) HB.out.2.1 (HR.out.grown HB.out.1)).mono ?_
        rintro e wp ⟨⟨r, rfl, r0, r1⟩, hc, hg⟩
        have HBp := Lib.hid (HB.out.step hg hc)
        clear hc hg HB
        by_cases hr0 : r = 0
        · subst hr0
          clear r0 r1
          have hal := grown_alloc wp (.cells ([-1, 7, 8].map (Value.int .i64)).toArray 3) none
          have HAM := Lib.hid (among_any cb cd L (n + 2 + 2 + 2 + 2 + 2 + 2) (.slice (some ⟨wp.heap.size, 0, none⟩) 3 3) [-1, 7, 8] (wp.alloc (.cells ([-1, 7, 8].map (Value.int .i64)).toArray 3)) (by omega) (by first | decide | (simp; done)) (slr_lit wp ([-1, 7, 8].map (Value.int .i64)) 3 (by first | decide | (simp [maxLen]; done))) (fun a m c e => by cases e; show wp.heap.size ≠ cb; have := (HBp.out.1).size; omega) ((HBp.out.2.1).old hal) (HR.out.grown (grown_trans (HBp.out.1) (grown_any hal))))
          clear hal
          go_wp2_with fail
          refine (HAM.out).mono ?_
          rintro e wa ⟨⟨v, rfl, -⟩, hc, hg⟩
          have hgl := grown_trans (grown_any (r := some cb) (grown_alloc wp (.cells ([-1, 7, 8].map (Value.int .i64)).toArray 3) none)) hg
          have hb := (HBp.out.step hgl hc)
          obtain ⟨m0, m1, m2, n0, n1, n2⟩ := cell3 hb.2.2.2.2.1
          have HBs := Lib.hid (hb.set v).1
          obtain ⟨s0, s1, s2, -, -, -⟩ := cell3 HBs.out.2.2.2.2.1
          obtain ⟨z0, z1, z2, q0, q1, q2⟩ := cell3 HBs.out.2.2.2.1
          clear hc hg hgl HAM hb HBp
          go_wp2_with fail
          have hzz := heap_setCell_same _ (w.heap.size + 1) 2 _ _ (.int .i64 vv) (heap_setCell_same _ (w.heap.size + 1) 1 _ _ (.int .i64 1) (heap_setCell_same (wa.setCell ⟨MB, 0, none⟩ (.int .i64 v)) (w.heap.size + 1) 0 _ _ (.int .i64 v) HBs.out.2.2.2.1))
          change (((((wa.setCell ⟨MB, 0, none⟩ (.int .i64 v)).setCell ⟨w.heap.size + 1, 0, none⟩ (.int .i64 v)).setCell ⟨w.heap.size + 1, 1, none⟩ (.int .i64 1)).setCell ⟨w.heap.size + 1, 2, none⟩ (.int .i64 vv)).heap[w.heap.size + 1]? = some (.cells #[.int .i64 v, .int .i64 1, .int .i64 vv] 40 (0, 0))) at hzz
          obtain ⟨t0, t1, t2, -, -, -⟩ := cell3 hzz
          exact bodyPost_ret (v := .agg #[.int .i64 v, .int .i64 1, .int .i64 vv]) (by simp [results, Try.results46, go_sem, t0, t1, t2]) rfl ⟨⟨_, _, _, rfl⟩, (((HBs.out.2.1.row (grown_set _ (w.heap.size + 1) 0 _) (by intro e; injection e with e; omega)).row (grown_set _ (w.heap.size + 1) 1 _) (by intro e; injection e with e; omega)).row (grown_set _ (w.heap.size + 1) 2 _) (by intro e; injection e with e; omega)).more (by omega), grown_set3 HBs.out.1 (by omega) _ _ _⟩
        have hq0 : (r == 0) = false := beq_eq_false_iff_ne.2 hr0
        by_cases hr1 : r = 1
        · subst hr1
          clear r0 r1
          have hal := grown_alloc wp (.cells ([0, 6, -6].map (Value.int .i64)).toArray 3) none
          have HAM := Lib.hid (among_any cb cd L (n + 2 + 2 + 2 + 2 + 2 + 2) (.slice (some ⟨wp.heap.size, 0, none⟩) 3 3) [0, 6, -6] (wp.alloc (.cells ([0, 6, -6].map (Value.int .i64)).toArray 3)) (by omega) (by first | decide | (simp; done)) (slr_lit wp ([0, 6, -6].map (Value.int .i64)) 3 (by first | decide | (simp [maxLen]; done))) (fun a m c e => by cases e; show wp.heap.size ≠ cb; have := (HBp.out.1).size; omega) ((HBp.out.2.1).old hal) (HR.out.grown (grown_trans (HBp.out.1) (grown_any hal))))
          clear hal
          go_wp2_with fail
          refine (HAM.out).mono ?_
          rintro e wa ⟨⟨v, rfl, -⟩, hc, hg⟩
          have hgl := grown_trans (grown_any (r := some cb) (grown_alloc wp (.cells ([0, 6, -6].map (Value.int .i64)).toArray 3) none)) hg
          have hb := (HBp.out.step hgl hc)
          obtain ⟨m0, m1, m2, n0, n1, n2⟩ := cell3 hb.2.2.2.2.1
          have HBs := Lib.hid (hb.set v).2.2
          obtain ⟨s0, s1, s2, -, -, -⟩ := cell3 HBs.out.2.2.2.2.1
          obtain ⟨z0, z1, z2, q0, q1, q2⟩ := cell3 HBs.out.2.2.2.1
          clear hc hg hgl HAM hb HBp
          go_wp2_with fail
          have hzz := heap_setCell_same _ (w.heap.size + 1) 2 _ _ (.int .i64 v) (heap_setCell_same _ (w.heap.size + 1) 1 _ _ (.int .i64 1) (heap_setCell_same (wa.setCell ⟨MB, 2, none⟩ (.int .i64 v)) (w.heap.size + 1) 0 _ _ (.int .i64 (k : Int)) HBs.out.2.2.2.1))
          change (((((wa.setCell ⟨MB, 2, none⟩ (.int .i64 v)).setCell ⟨w.heap.size + 1, 0, none⟩ (.int .i64 (k : Int))).setCell ⟨w.heap.size + 1, 1, none⟩ (.int .i64 1)).setCell ⟨w.heap.size + 1, 2, none⟩ (.int .i64 v)).heap[w.heap.size + 1]? = some (.cells #[.int .i64 (k : Int), .int .i64 1, .int .i64 v] 40 (0, 0))) at hzz
          obtain ⟨t0, t1, t2, -, -, -⟩ := cell3 hzz
          exact bodyPost_ret (v := .agg #[.int .i64 (k : Int), .int .i64 1, .int .i64 v]) (by simp [results, Try.results46, go_sem, t0, t1, t2]) rfl ⟨⟨_, _, _, rfl⟩, (((HBs.out.2.1.row (grown_set _ (w.heap.size + 1) 0 _) (by intro e; injection e with e; omega)).row (grown_set _ (w.heap.size + 1) 1 _) (by intro e; injection e with e; omega)).row (grown_set _ (w.heap.size + 1) 2 _) (by intro e; injection e with e; omega)).more (by omega), grown_set3 HBs.out.1 (by omega) _ _ _⟩
        have hq1 : (r == 1) = false := beq_eq_false_iff_ne.2 hr1
        by_cases hr2 : r = 2
        · subst hr2
          clear r0 r1
          have hal := grown_alloc wp (.cells ([-1, 2].map (Value.int .i64)).toArray 3) none
          have HAM := Lib.hid (among_any cb cd L (n + 2 + 2 + 2 + 2 + 2 + 2) (.slice (some ⟨wp.heap.size, 0, none⟩) 2 2) [-1, 2] (wp.alloc (.cells ([-1, 2].map (Value.int .i64)).toArray 3)) (by omega) (by first | decide | (simp; done)) (slr_lit wp ([-1, 2].map (Value.int .i64)) 3 (by first | decide | (simp [maxLen]; done))) (fun a m c e => by cases e; show wp.heap.size ≠ cb; have := (HBp.out.1).size; omega) ((HBp.out.2.1).old hal) (HR.out.grown (grown_trans (HBp.out.1) (grown_any hal))))
          clear hal
          go_wp2_with fail
          refine (HAM.out).mono ?_
          rintro e wa ⟨⟨v, rfl, -⟩, hc, hg⟩
          have hgl := grown_trans (grown_any (r := some cb) (grown_alloc wp (.cells ([-1, 2].map (Value.int .i64)).toArray 3) none)) hg
          have hb := (HBp.out.step hgl hc)
          obtain ⟨m0, m1, m2, n0, n1, n2⟩ := cell3 hb.2.2.2.2.1
          have HBs := Lib.hid (hb.set v).2.1
          obtain ⟨s0, s1, s2, -, -, -⟩ := cell3 HBs.out.2.2.2.2.1
          obtain ⟨z0, z1, z2, q0, q1, q2⟩ := cell3 HBs.out.2.2.2.1
          clear hc hg hgl HAM hb HBp
          go_wp2_with fail
          have hzz := heap_setCell_same _ (w.heap.size + 1) 2 _ _ (.int .i64 vv) (heap_setCell_same _ (w.heap.size + 1) 1 _ _ (.int .i64 v) (heap_setCell_same (wa.setCell ⟨MB, 1, none⟩ (.int .i64 v)) (w.heap.size + 1) 0 _ _ (.int .i64 (k : Int)) HBs.out.2.2.2.1))
          change (((((wa.setCell ⟨MB, 1, none⟩ (.int .i64 v)).setCell ⟨w.heap.size + 1, 0, none⟩ (.int .i64 (k : Int))).setCell ⟨w.heap.size + 1, 1, none⟩ (.int .i64 v)).setCell ⟨w.heap.size + 1, 2, none⟩ (.int .i64 vv)).heap[w.heap.size + 1]? = some (.cells #[.int .i64 (k : Int), .int .i64 v, .int .i64 vv] 40 (0, 0))) at hzz
          obtain ⟨t0, t1, t2, -, -, -⟩ := cell3 hzz
          exact bodyPost_ret (v := .agg #[.int .i64 (k : Int), .int .i64 v, .int .i64 vv]) (by simp [results, Try.results46, go_sem, t0, t1, t2]) rfl ⟨⟨_, _, _, rfl⟩, (((HBs.out.2.1.row (grown_set _ (w.heap.size + 1) 0 _) (by intro e; injection e with e; omega)).row (grown_set _ (w.heap.size + 1) 1 _) (by intro e; injection e with e; omega)).row (grown_set _ (w.heap.size + 1) 2 _) (by intro e; injection e with e; omega)).more (by omega), grown_set3 HBs.out.1 (by omega) _ _ _⟩
        have hq2 : (r == 2) = false := beq_eq_false_iff_ne.2 hr2
        obtain ⟨m0, m1, m2, n0, n1, n2⟩ := cell3 HBp.out.2.2.2.2.1
        obtain ⟨z0, z1, z2, q0, q1, q2⟩ := cell3 HBp.out.2.2.2.1
        go_wp2_with fail
        have hzz := heap_setCell_same _ (w.heap.size + 1) 2 _ _ (.int .i64 vv) (heap_setCell_same _ (w.heap.size + 1) 1 _ _ (.int .i64 1) (heap_setCell_same wp (w.heap.size + 1) 0 _ _ (.int .i64 (k : Int)) HBp.out.2.2.2.1))
        change ((((wp.setCell ⟨w.heap.size + 1, 0, none⟩ (.int .i64 (k : Int))).setCell ⟨w.heap.size + 1, 1, none⟩ (.int .i64 1)).setCell ⟨w.heap.size + 1, 2, none⟩ (.int .i64 vv)).heap[w.heap.size + 1]? = some (.cells #[.int .i64 (k : Int), .int .i64 1, .int .i64 vv] 40 (0, 0))) at hzz
        obtain ⟨t0, t1, t2, -, -, -⟩ := cell3 hzz
        exact bodyPost_ret (v := .agg #[.int .i64 (k : Int), .int .i64 1, .int .i64 vv]) (by simp [results, Try.results46, go_sem, t0, t1, t2]) rfl ⟨⟨_, _, _, rfl⟩, (((HBp.out.2.1.row (grown_set _ (w.heap.size + 1) 0 _) (by intro e; injection e with e; omega)).row (grown_set _ (w.heap.size + 1) 1 _) (by intro e; injection e with e; omega)).row (grown_set _ (w.heap.size + 1) 2 _) (by intro e; injection e with e; omega)).more (by omega), grown_set3 HBp.out.1 (by omega) _ _ _⟩
  · have hk0 : ¬ (0 : Int) < (rs.length : Int) := by omega
    go_wp2_with fail
    generalize w4.alloc (.cells #[.int .i64 x, .int .i64 y, .int .i64 z] 40) = w5 at HB p0 p1 p2 o0 o1 o2 ⊢
    have hMB := HMB.out
    generalize w4.heap.size = MB at HB hMB ⊢
    clear HMB
    clear p0 p1 p2 o0 o1 o2
    refine (pick_any cb cd L (n + 2 + 2 + 2) 64 w5 (by omega) (by omega) (by omega) HB.out.2.1 (HR.out.grown HB.out.1)).mono ?_
    rintro e wp ⟨⟨r, rfl, r0, r1⟩, hc, hg⟩
    have HBp := Lib.hid (HB.out.step hg hc)
    clear hc hg HB
    by_cases hr0 : r = 0
    · subst hr0
      clear r0 r1
      have hal := grown_alloc wp (.cells ([-1, 7, 8].map (Value.int .i64)).toArray 3) none
      have HAM := Lib.hid (among_any cb cd L (n + 2 + 2 + 2 + 2) (.slice (some ⟨wp.heap.size, 0, none⟩) 3 3) [-1, 7, 8] (wp.alloc (.cells ([-1, 7, 8].map (Value.int .i64)).toArray 3)) (by omega) (by first | decide | (simp; done)) (slr_lit wp ([-1, 7, 8].map (Value.int .i64)) 3 (by first | decide | (simp [maxLen]; done))) (fun a m c e => by cases e; show wp.heap.size ≠ cb; have := (HBp.out.1).size; omega) ((HBp.out.2.1).old hal) (HR.out.grown (grown_trans (HBp.out.1) (grown_any hal))))
      clear hal
      go_wp2_with fail
      refine (HAM.out).mono ?_
      rintro e wa ⟨⟨v, rfl, -⟩, hc, hg⟩
      have hgl := grown_trans (grown_any (r := some cb) (grown_alloc wp (.cells ([-1, 7, 8].map (Value.int .i64)).toArray 3) none)) hg
      have hb := (HBp.out.step hgl hc)
      obtain ⟨m0, m1, m2, n0, n1, n2⟩ := cell3 hb.2.2.2.2.1
      have HBs := Lib.hid (hb.set v).1
      obtain ⟨s0, s1, s2, -, -, -⟩ := cell3 HBs.out.2.2.2.2.1
      obtain ⟨z0, z1, z2, q0, q1, q2⟩ := cell3 HBs.out.2.2.2.1
      clear hc hg hgl HAM hb HBp
      go_wp2_with fail
      have hzz := heap_setCell_same _ (w.heap.size + 1) 2 _ _ (.int .i64 z) (heap_setCell_same _ (w.heap.size + 1) 1 _ _ (.int .i64 y) (heap_setCell_same (wa.setCell ⟨MB, 0, none⟩ (.int .i64 v)) (w.heap.size + 1) 0 _ _ (.int .i64 v) HBs.out.2.2.2.1))
      change (((((wa.setCell ⟨MB, 0, none⟩ (.int .i64 v)).setCell ⟨w.heap.size + 1, 0, none⟩ (.int .i64 v)).setCell ⟨w.heap.size + 1, 1, none⟩ (.int .i64 y)).setCell ⟨w.heap.size + 1, 2, none⟩ (.int .i64 z)).heap[w.heap.size + 1]? = some (.cells #[.int .i64 v, .int .i64 y, .int .i64 z] 40 (0, 0))) at hzz
      obtain ⟨t0, t1, t2, -, -, -⟩ := cell3 hzz
      exact bodyPost_ret (v := .agg #[.int .i64 v, .int .i64 y, .int .i64 z]) (by simp [results, Try.results46, go_sem, t0, t1, t2]) rfl ⟨⟨_, _, _, rfl⟩, (((HBs.out.2.1.row (grown_set _ (w.heap.size + 1) 0 _) (by intro e; injection e with e; omega)).row (grown_set _ (w.heap.size + 1) 1 _) (by intro e; injection e with e; omega)).row (grown_set _ (w.heap.size + 1) 2 _) (by intro e; injection e with e; omega)).more (by omega), grown_set3 HBs.out.1 (by omega) _ _ _⟩
    have hq0 : (r == 0) = false := beq_eq_false_iff_ne.2 hr0
    by_cases hr1 : r = 1
    · subst hr1
      clear r0 r1
      have hal := grown_alloc wp (.cells ([0, 6, -6].map (Value.int .i64)).toArray 3) none
      have HAM := Lib.hid (among_any cb cd L (n + 2 + 2 + 2 + 2) (.slice (some ⟨wp.heap.size, 0, none⟩) 3 3) [0, 6, -6] (wp.alloc (.cells ([0, 6, -6].map (Value.int .i64)).toArray 3)) (by omega) (by first | decide | (simp; done)) (slr_lit wp ([0, 6, -6].map (Value.int .i64)) 3 (by first | decide | (simp [maxLen]; done))) (fun a m c e => by cases e; show wp.heap.size ≠ cb; have := (HBp.out.1).size; omega) ((HBp.out.2.1).old hal) (HR.out.grown (grown_trans (HBp.out.1) (grown_any hal))))
      clear hal
      go_wp2_with fail
      refine (HAM.out).mono ?_
      rintro e wa ⟨⟨v, rfl, -⟩, hc, hg⟩
      have hgl := grown_trans (grown_any (r := some cb) (grown_alloc wp (.cells ([0, 6, -6].map (Value.int .i64)).toArray 3) none)) hg
      have hb := (HBp.out.step hgl hc)
      obtain ⟨m0, m1, m2, n0, n1, n2⟩ := cell3 hb.2.2.2.2.1
      have HBs := Lib.hid (hb.set v).2.2
      obtain ⟨s0, s1, s2, -, -, -⟩ := cell3 HBs.out.2.2.2.2.1
      obtain ⟨z0, z1, z2, q0, q1, q2⟩ := cell3 HBs.out.2.2.2.1
      clear hc hg hgl HAM hb HBp
      go_wp2_with fail
      have hzz := heap_setCell_same _ (w.heap.size + 1) 2 _ _ (.int .i64 v) (heap_setCell_same _ (w.heap.size + 1) 1 _ _ (.int .i64 y) (heap_setCell_same (wa.setCell ⟨MB, 2, none⟩ (.int .i64 v)) (w.heap.size + 1) 0 _ _ (.int .i64 x) HBs.out.2.2.2.1))
      change (((((wa.setCell ⟨MB, 2, none⟩ (.int .i64 v)).setCell ⟨w.heap.size + 1, 0, none⟩ (.int .i64 x)).setCell ⟨w.heap.size + 1, 1, none⟩ (.int .i64 y)).setCell ⟨w.heap.size + 1, 2, none⟩ (.int .i64 v)).heap[w.heap.size + 1]? = some (.cells #[.int .i64 x, .int .i64 y, .int .i64 v] 40 (0, 0))) at hzz
      obtain ⟨t0, t1, t2, -, -, -⟩ := cell3 hzz
      exact bodyPost_ret (v := .agg #[.int .i64 x, .int .i64 y, .int .i64 v]) (by simp [results, Try.results46, go_sem, t0, t1, t2]) rfl ⟨⟨_, _, _, rfl⟩, (((HBs.out.2.1.row (grown_set _ (w.heap.size + 1) 0 _) (by intro e; injection e with e; omega)).row (grown_set _ (w.heap.size + 1) 1 _) (by intro e; injection e with e; omega)).row (grown_set _ (w.heap.size + 1) 2 _) (by intro e; injection e with e; omega)).more (by omega), grown_set3 HBs.out.1 (by omega) _ _ _⟩
    have hq1 : (r == 1) = false := beq_eq_false_iff_ne.2 hr1
    by_cases hr2 : r = 2
    · subst hr2
      clear r0 r1
      have hal := grown_alloc wp (.cells ([-1, 2].map (Value.int .i64)).toArray 3) none
      have HAM := Lib.hid (among_any cb cd L (n + 2 + 2 + 2 + 2) (.slice (some ⟨wp.heap.size, 0, none⟩) 2 2) [-1, 2] (wp.alloc (.cells ([-1, 2].map (Value.int .i64)).toArray 3)) (by omega) (by first | decide | (simp; done)) (slr_lit wp ([-1, 2].map (Value.int .i64)) 3 (by first | decide | (simp [maxLen]; done))) (fun a m c e => by cases e; show wp.heap.size ≠ cb; have := (HBp.out.1).size; omega) ((HBp.out.2.1).old hal) (HR.out.grown (grown_trans (HBp.out.1) (grown_any hal))))
      clear hal
      go_wp2_with fail
      refine (HAM.out).mono ?_
      rintro e wa ⟨⟨v, rfl, -⟩, hc, hg⟩
      have hgl := grown_trans (grown_any (r := some cb) (grown_alloc wp (.cells ([-1, 2].map (Value.int .i64)).toArray 3) none)) hg
      have hb := (HBp.out.step hgl hc)
      obtain ⟨m0, m1, m2, n0, n1, n2⟩ := cell3 hb.2.2.2.2.1
      have HBs := Lib.hid (hb.set v).2.1
      obtain ⟨s0, s1, s2, -, -, -⟩ := cell3 HBs.out.2.2.2.2.1
      obtain ⟨z0, z1, z2, q0, q1, q2⟩ := cell3 HBs.out.2.2.2.1
      clear hc hg hgl HAM hb HBp
      go_wp2_with fail
      have hzz := heap_setCell_same _ (w.heap.size + 1) 2 _ _ (.int .i64 z) (heap_setCell_same _ (w.heap.size + 1) 1 _ _ (.int .i64 v) (heap_setCell_same (wa.setCell ⟨MB, 1, none⟩ (.int .i64 v)) (w.heap.size + 1) 0 _ _ (.int .i64 x) HBs.out.2.2.2.1))
      change (((((wa.setCell ⟨MB, 1, none⟩ (.int .i64 v)).setCell ⟨w.heap.size + 1, 0, none⟩ (.int .i64 x)).setCell ⟨w.heap.size + 1, 1, none⟩ (.int .i64 v)).setCell ⟨w.heap.size + 1, 2, none⟩ (.int .i64 z)).heap[w.heap.size + 1]? = some (.cells #[.int .i64 x, .int .i64 v, .int .i64 z] 40 (0, 0))) at hzz
      obtain ⟨t0, t1, t2, -, -, -⟩ := cell3 hzz
      exact bodyPost_ret (v := .agg #[.int .i64 x, .int .i64 v, .int .i64 z]) (by simp [results, Try.results46, go_sem, t0, t1, t2]) rfl ⟨⟨_, _, _, rfl⟩, (((HBs.out.2.1.row (grown_set _ (w.heap.size + 1) 0 _) (by intro e; injection e with e; omega)).row (grown_set _ (w.heap.size + 1) 1 _) (by intro e; injection e with e; omega)).row (grown_set _ (w.heap.size + 1) 2 _) (by intro e; injection e with e; omega)).more (by omega), grown_set3 HBs.out.1 (by omega) _ _ _⟩
    have hq2 : (r == 2) = false := beq_eq_false_iff_ne.2 hr2
    obtain ⟨m0, m1, m2, n0, n1, n2⟩ := cell3 HBp.out.2.2.2.2.1
    obtain ⟨z0, z1, z2, q0, q1, q2⟩ := cell3 HBp.out.2.2.2.1
    go_wp2_with fail
    have hzz := heap_setCell_same _ (w.heap.size + 1) 2 _ _ (.int .i64 z) (heap_setCell_same _ (w.heap.size + 1) 1 _ _ (.int .i64 y) (heap_setCell_same wp (w.heap.size + 1) 0 _ _ (.int .i64 x) HBp.out.2.2.2.1))
    change ((((wp.setCell ⟨w.heap.size + 1, 0, none⟩ (.int .i64 x)).setCell ⟨w.heap.size + 1, 1, none⟩ (.int .i64 y)).setCell ⟨w.heap.size + 1, 2, none⟩ (.int .i64 z)).heap[w.heap.size + 1]? = some (.cells #[.int .i64 x, .int .i64 y, .int .i64 z] 40 (0, 0))) at hzz
    obtain ⟨t0, t1, t2, -, -, -⟩ := cell3 hzz
    exact bodyPost_ret (v := .agg #[.int .i64 x, .int .i64 y, .int .i64 z]) (by simp [results, Try.results46, go_sem, t0, t1, t2]) rfl ⟨⟨_, _, _, rfl⟩, (((HBp.out.2.1.row (grown_set _ (w.heap.size + 1) 0 _) (by intro e; injection e with e; omega)).row (grown_set _ (w.heap.size + 1) 1 _) (by intro e; injection e with e; omega)).row (grown_set _ (w.heap.size + 1) 2 _) (by intro e; injection e with e; omega)).more (by omega), grown_set3 HBp.out.1 (by omega) _ _ _⟩
end Go.Proofs.Ytmkocinknhaniaa
