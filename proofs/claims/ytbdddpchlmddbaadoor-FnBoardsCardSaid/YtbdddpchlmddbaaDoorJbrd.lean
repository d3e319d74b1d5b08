/- The program's board with some counters on its places. -/
import Derived.Test.YtbdddpchlmddbaaDoorJone
import Derived.Deep.RegionHeld3
import Derived.Deep.Cut
import Derived.OwnWalk
namespace Go.Proofs.YtbdddpchlmddbaaDoor
set_option linter.unusedVariables false
open Go.RowKit

/-- The first k of n numbers laid, the others 0. -/
def halfK (f : Nat → Int) (n k : Nat) : List Int := (List.range n).map fun j => if j < k then f j else 0
theorem halfK_len (f : Nat → Int) (n k : Nat) : (halfK f n k).length = n := by simp [halfK]
theorem halfK_at (f : Nat → Int) (n k j : Nat) (h : j < (halfK f n k).length) : (halfK f n k)[j] = if j < k then f j else 0 := by simp [halfK]
theorem halfK_set (f : Nat → Int) (n k : Nat) : (halfK f n k).set k (f k) = halfK f n (k + 1) := by
  refine List.ext_getElem (by rw [List.length_set, halfK_len, halfK_len]) fun j h1 h2 => ?_
  rw [halfK_at]
  by_cases e : j = k
  · subst e; rw [List.getElem_set_self, if_pos (by omega)]
  · rw [List.getElem_set_ne (fun e' => e e'.symm), halfK_at]
    by_cases e2 : j < k
    · rw [if_pos e2, if_pos (by omega)]
    · rw [if_neg e2, if_neg (by omega)]
theorem halfK_zero (f : Nat → Int) (n : Nat) : halfK f n 0 = List.replicate n 0 := by
  refine List.ext_getElem (by rw [halfK_len, List.length_replicate]) fun j h1 h2 => ?_
  rw [halfK_at, if_neg (by omega), List.getElem_replicate]
theorem halfK_end (f : Nat → Int) (n : Nat) : halfK f n n = (List.range n).map f := by
  refine List.ext_getElem (by rw [halfK_len]; simp) fun j h1 h2 => ?_
  rw [halfK_at, if_pos (by rw [halfK_len] at h1; exact h1)]; simp
theorem made_own (w : World) (n : Nat) (hn : n ≤ 12) : (w.alloc (.cells (madeCells #[.int .i64 0] n) 3)).ownsRow w.heap.size 3 1 (.slice (some ⟨w.heap.size, 0, none⟩) n n) (List.replicate n (0 : Int)).length (flatC inC (List.replicate n (0 : Int))) := by
  have ho := World.ownsRow_lit (base := w.heap.size) (e := 3) (size := 1) w (madeCells #[.int .i64 0] n) n (Nat.le_refl _) (by unfold maxLen; omega) (by simp [madeCells])
  rw [List.length_replicate]
  have e : (madeCells #[Value.int .i64 0] n).toList = flatC inC (List.replicate n (0 : Int)) := by
    refine flatC_of inC_len (by omega) _ _ (by simp [madeCells]) fun i hi j hj => ?_
    have hj0 : j = 0 := by omega
    subst hj0
    have hi' : i < n := by simpa using hi
    simp [madeCells, inC, hi', Nat.mod_one]
  rw [← e]; exact ho

set_option maxRecDepth 100000 in
set_option maxHeartbeats 6400000 in
theorem boardOf_any (v : Value) (ps : List Int) (n : Nat) (w : World) (h : RowsR 1 inC w v ps) (hn : n ≤ 6) (hp : ps.length = 2 * n) :
    Calls Tryd.prog 34 #[v] w fun e w' => (∃ s1 t1, e = .returned (.agg #[s1, t1]) ∧ OwB w.heap.size w'.heap.size w' s1 t1 (evs ps) (ods ps)) ∧ Below w.heap.size w w' := by
  obtain ⟨i0, hi, hz0, hz1, hz2⟩ := info_parts Tryd.infoI5
  obtain ⟨a1, c1, rfl⟩ := h.form
  have A1 := Lib.hid (int_at h)
  have wq' : wrap64 ((ps.length : Int) / 2) = (n : Int) := by
    rw [hp]; unfold wrap64; omega
  have HP := Lib.hid hp
  have hmk : ∀ w : World, (Instr.makeSlice 24 (.int .i64 (n : Int)) (.int .i64 (n : Int))).run Tryd.prog w = .ok (.slice (some ⟨w.heap.size, 0, none⟩) n n) (w.alloc (.cells (madeCells #[.int .i64 0] n) 3)) := fun w => by
    have := run_make (P := Tryd.prog) w 24 3 i0 (.int .i64 0) Tryd.underlying24 hi hz0 .i64 .i64 (n : Int) (n : Int) (by omega) (Int.le_refl _) (by rw [hz2]; omega) (by omega)
    rw [hz1, Int.toNat_natCast, Nat.mul_one] at this
    exact this
  have HB0 : Hid (Below w.heap.size w w) := Lib.hid (Below.refl _ _)
  clear h hp
  go_enter Tryd.func34, Tryd.ntmps34
  go_wp2_with fail
  have hb : Below w.heap.size w (w.alloc (.cells #[.slice none 0 0, .slice none 0 0] 26)) := (Below.refl _ _).alloc (Nat.le_refl _) _
  have hk : (w.alloc (.cells #[.slice none 0 0, .slice none 0 0] 26)).heap[w.heap.size]? = some (.cells #[.slice none 0 0, .slice none 0 0] 26 (0, 0)) := alloc_at rfl
  have hz : (w.alloc (.cells #[.slice none 0 0, .slice none 0 0] 26)).heap.size = w.heap.size + 1 := by simp
  generalize w.alloc (.cells #[.slice none 0 0, .slice none 0 0] 26) = w1 at hb hk hz ⊢
  have HB1 : Hid (Below w.heap.size w w1) := Lib.hid (HB0.out.trans (hb.mono HB0.out.size))
  have HZ1 : Hid (w.heap.size ≤ w1.heap.size) := Lib.hid hb.size
  have HKz1 := Lib.hid hk
  replace HZ1 : Hid (w.heap.size < w1.heap.size) := Lib.hid (by omega)
  have HE1 := Lib.hid hz
  clear hb hk hz
  have ltz := lt_of_block HKz1.out
  obtain ⟨cz0, cz1, fz0, fz1⟩ := cell2 HKz1.out
  have hw1 : w.heap.size < w1.heap.size := ltz
  simp only [wq']
  clear wq'
  go_cut [4] from 9 (fun pv wc => ∃ (b g1 g2 k1 k2 : Nat), pv = .pointer (some ⟨b, 0, none⟩) ∧ wc.heap[w.heap.size]? = some (.cells #[.slice none 0 0, .slice none 0 0] 26 (0, 0)) ∧ wc.heap[b]? = some (.cells #[.slice (some ⟨g1, 0, none⟩) n k1, .slice (some ⟨g2, 0, none⟩) n k2] 26 (0, 0)) ∧ OwB w1.heap.size wc.heap.size wc (.slice (some ⟨g1, 0, none⟩) n k1) (.slice (some ⟨g2, 0, none⟩) n k2) (List.replicate n 0) (List.replicate n 0) ∧ (w1.heap.size ≤ b ∧ b < wc.heap.size) ∧ (w1.heap.size ≤ g1 ∧ g1 < wc.heap.size ∧ b ≠ g1) ∧ (w1.heap.size ≤ g2 ∧ g2 < wc.heap.size ∧ b ≠ g2) ∧ Below w.heap.size w wc)
  case first =>
    refine wp_region_held_drew (S := (fun _ => True)) (by kernel_rfl) (trivial) (fun hHeld => ?_)
    have hb : Below w1.heap.size w1 w1.drew := (Below.refl _ _).drew
    generalize w1.drew = w2 at hb hHeld ⊢
    have HB2 : Hid (Below w.heap.size w w2) := Lib.hid (HB1.out.trans (hb.mono HB1.out.size))
    have HZ2 : Hid (w1.heap.size ≤ w2.heap.size) := Lib.hid hb.size
    have HKz2 := Lib.hid ((hb.block _ (lt_of_block HKz1.out)).trans HKz1.out)
    clear hb
    have h12 : w1.heap.size ≤ w2.heap.size := by have := HZ1.out; have := HZ2.out;  omega
    clear cz0 cz1 fz0 fz1 ltz
    have ltz := lt_of_block HKz2.out
    obtain ⟨cz0, cz1, fz0, fz1⟩ := cell2 HKz2.out
    refine take1 (i := 0) (v := ?v1) (some 9) rfl rfl (by kernel_rfl) (by kernel_rfl) (by kernel_rfl) (fun _ _ _ h => h) (Or.inl ⟨by rfl, ?y1⟩) (by assumption) ?r1
    case y1 => (intro w hSw; (try dsimp only at hSw); go_simp; (first | done | with_reducible rfl))
    try simp only [Act.put, List.setIfInBounds_toArray, List.set_cons_zero, List.set_cons_succ]
    refine take1 (i := 2) (v := ?v2) (some 11) rfl rfl (by kernel_rfl) (by kernel_rfl) (by kernel_rfl) (fun _ _ _ h => h) (Or.inl ⟨by rfl, ?y2⟩) (by assumption) ?r2
    case y2 => (intro w hSw; (try dsimp only at hSw); go_simp; (first | done | with_reducible rfl))
    try simp only [Act.put, List.setIfInBounds_toArray, List.set_cons_zero, List.set_cons_succ]
    refine wpAnyH_ready (rs := [1, 3, 5]) (by kernel_rfl) (by simp) ?_
    refine AllReadyH.cons rfl (fun K hK => ?_) (AllReadyH.cons rfl (fun K hK => ?_) (AllReadyH.cons rfl (fun K hK => ?_) (AllReadyH.nil)))
    · go_simp
      have hb : Below w2.heap.size w2 (w2.alloc (.cells (madeCells #[.int .i64 0] n) 3)) := (Below.refl _ _).alloc (Nat.le_refl _) _
      have ho := made_own w2 n (by omega)
      have hz : (w2.alloc (.cells (madeCells #[.int .i64 0] n) 3)).heap.size = w2.heap.size + 1 := by simp
      generalize w2.alloc (.cells (madeCells #[.int .i64 0] n) 3) = w3 at hb ho hz ⊢
      have HB3 : Hid (Below w.heap.size w w3) := Lib.hid (HB2.out.trans (hb.mono HB2.out.size))
      have HZ3 : Hid (w2.heap.size ≤ w3.heap.size) := Lib.hid hb.size
      have HKz3 := Lib.hid ((hb.block _ (lt_of_block HKz2.out)).trans HKz2.out)
      clear hb
      replace HZ3 : Hid (w2.heap.size < w3.heap.size) := Lib.hid (by omega)
      have HOa3 := Lib.hid (Ow.mk' ho)
      clear ho hz
      clear cz0 cz1 fz0 fz1 ltz
      have ltz := lt_of_block HKz3.out
      obtain ⟨cz0, cz1, fz0, fz1⟩ := cell2 HKz3.out
      refine hK.out _ _ (trivial) (fun hHeld => ?_)
      clear hK K
      try simp only [Act.put, List.setIfInBounds_toArray, List.set_cons_zero, List.set_cons_succ]
      refine wpAnyH_ready (rs := [3, 5]) (by kernel_rfl) (by simp) ?_
      refine AllReadyH.cons rfl (fun K hK => ?_) (AllReadyH.cons rfl (fun K hK => ?_) (AllReadyH.nil))
      · go_simp
        have hb : Below w3.heap.size w3 (w3.alloc (.cells (madeCells #[.int .i64 0] n) 3)) := (Below.refl _ _).alloc (Nat.le_refl _) _
        have ho := made_own w3 n (by omega)
        have hz : (w3.alloc (.cells (madeCells #[.int .i64 0] n) 3)).heap.size = w3.heap.size + 1 := by simp
        generalize w3.alloc (.cells (madeCells #[.int .i64 0] n) 3) = w4 at hb ho hz ⊢
        have HB4 : Hid (Below w.heap.size w w4) := Lib.hid (HB3.out.trans (hb.mono HB3.out.size))
        have HZ4 : Hid (w3.heap.size ≤ w4.heap.size) := Lib.hid hb.size
        have HKz4 := Lib.hid ((hb.block _ (lt_of_block HKz3.out)).trans HKz3.out)
        have HOa4 := Lib.hid (HOa3.out.next hb)
        clear hb
        replace HZ4 : Hid (w3.heap.size < w4.heap.size) := Lib.hid (by omega)
        have HOc4 := Lib.hid (Ow.mk' ho)
        clear ho hz
        clear cz0 cz1 fz0 fz1 ltz
        have ltz := lt_of_block HKz4.out
        obtain ⟨cz0, cz1, fz0, fz1⟩ := cell2 HKz4.out
        refine hK.out _ _ (trivial) (fun hHeld => ?_)
        clear hK K
        try simp only [Act.put, List.setIfInBounds_toArray, List.set_cons_zero, List.set_cons_succ]
        refine take1 (i := 4) (v := ?v3) (some 13) rfl rfl (by kernel_rfl) (by kernel_rfl) (by kernel_rfl) (fun _ _ _ h => h) (Or.inl ⟨by rfl, ?y3⟩) (by assumption) ?r3
        case y3 => (intro w hSw; (try dsimp only at hSw); go_simp; (first | done | with_reducible rfl))
        try simp only [Act.put, List.setIfInBounds_toArray, List.set_cons_zero, List.set_cons_succ]
        refine wpAnyH_ready (rs := [5]) (by kernel_rfl) (by simp) ?_
        refine AllReadyH.cons rfl (fun K hK => ?_) AllReadyH.nil
        go_simp
        have hb : Below w4.heap.size w4 (w4.alloc (.cells #[.slice none 0 0, .slice none 0 0] 26)) := (Below.refl _ _).alloc (Nat.le_refl _) _
        have hk : (w4.alloc (.cells #[.slice none 0 0, .slice none 0 0] 26)).heap[w4.heap.size]? = some (.cells #[.slice none 0 0, .slice none 0 0] 26 (0, 0)) := alloc_at rfl
        have hz : (w4.alloc (.cells #[.slice none 0 0, .slice none 0 0] 26)).heap.size = w4.heap.size + 1 := by simp
        generalize w4.alloc (.cells #[.slice none 0 0, .slice none 0 0] 26) = w5 at hb hk hz ⊢
        have HB5 : Hid (Below w.heap.size w w5) := Lib.hid (HB4.out.trans (hb.mono HB4.out.size))
        have HZ5 : Hid (w4.heap.size ≤ w5.heap.size) := Lib.hid hb.size
        have HKz5 := Lib.hid ((hb.block _ (lt_of_block HKz4.out)).trans HKz4.out)
        have HOa5 := Lib.hid (HOa4.out.next hb)
        have HOc5 := Lib.hid (HOc4.out.next hb)
        have HKo5 := Lib.hid hk
        replace HZ5 : Hid (w4.heap.size < w5.heap.size) := Lib.hid (by omega)
        have HE5 := Lib.hid hz
        clear hb hk hz
        clear cz0 cz1 fz0 fz1 ltz
        have ltz := lt_of_block HKz5.out
        obtain ⟨cz0, cz1, fz0, fz1⟩ := cell2 HKz5.out
        have lto := lt_of_block HKo5.out
        obtain ⟨co0, co1, fo0, fo1⟩ := cell2 HKo5.out
        refine hK.out _ _ (trivial) (fun hHeld => ?_)
        clear hK K
        try simp only [Act.put, List.setIfInBounds_toArray, List.set_cons_zero, List.set_cons_succ]
        refine wpAnyH_ready (rs := [6]) (by kernel_rfl) (by simp) ?_
        refine AllReadyH.cons rfl (fun K hK => ?_) AllReadyH.nil
        go_simp
        have hkb := box2_set HKo5.out (.slice (some ⟨w2.heap.size, 0, none⟩) n n) (.slice (some ⟨w3.heap.size, 0, none⟩) n n)
        have hm : Btw w4.heap.size (w4.heap.size + 1) w5 ((w5.setCell ⟨w4.heap.size, 0, none⟩ (.slice (some ⟨w2.heap.size, 0, none⟩) n n)).setCell ⟨w4.heap.size, 1, none⟩ (.slice (some ⟨w3.heap.size, 0, none⟩) n n)) := ((Btw.refl w4.heap.size (w4.heap.size + 1) w5).setCell (p := ⟨w4.heap.size, 0, none⟩) (Nat.le_refl _) (Nat.lt_succ_self _) _).setCell (p := ⟨w4.heap.size, 1, none⟩) (Nat.le_refl _) (Nat.lt_succ_self _) _
        generalize (w5.setCell ⟨w4.heap.size, 0, none⟩ (.slice (some ⟨w2.heap.size, 0, none⟩) n n)).setCell ⟨w4.heap.size, 1, none⟩ (.slice (some ⟨w3.heap.size, 0, none⟩) n n) = w6 at hkb hm ⊢
        have HZ6 : Hid (w5.heap.size ≤ w6.heap.size) := Lib.hid hm.size
        have HB6 : Hid (Below w.heap.size w w6) := Lib.hid (HB5.out.trans (hm.below.mono (by have := HZ1.out; have := HZ2.out; have := HZ3.out; have := HZ4.out; have := HZ5.out; have := HB0.out.size; omega)))
        have HKz6 := Lib.hid ((hm.block _ (by have := lt_of_block HKz5.out; have := HZ1.out; have := HZ2.out; have := HZ3.out; have := HZ4.out; have := HZ5.out; omega)).trans HKz5.out)
        have HOa6 := Lib.hid (HOa5.out.btw hm (by have := HZ1.out; have := HZ2.out; have := HZ3.out; have := HZ4.out; have := HZ5.out; omega))
        have HOc6 := Lib.hid (HOc5.out.btw hm (by have := HZ1.out; have := HZ2.out; have := HZ3.out; have := HZ4.out; have := HZ5.out; omega))
        clear hm
        have HKo6 := Lib.hid (hkb)
        clear hkb
        clear cz0 cz1 fz0 fz1 ltz co0 co1 fo0 fo1 lto
        have ltz := lt_of_block HKz6.out
        obtain ⟨cz0, cz1, fz0, fz1⟩ := cell2 HKz6.out
        have lto := lt_of_block HKo6.out
        obtain ⟨co0, co1, fo0, fo1⟩ := cell2 HKo6.out
        refine hK.out _ _ (trivial) (fun hHeld => ?_)
        clear hK K
        try simp only [Act.put]
        refine wpAnyH_done (by kernel_rfl) ?_ _
        go_wp2_with fail
        go_meet
        exact ⟨w4.heap.size, w2.heap.size, w3.heap.size, n, n, rfl, HKz6.out, HKo6.out, ⟨HOa6.out.widen (by have := HZ1.out; have := HZ2.out; have := HZ3.out; have := HZ4.out; have := HZ5.out; have := HZ6.out;  omega) (by have := HZ1.out; have := HZ2.out; have := HZ3.out; have := HZ4.out; have := HZ5.out; have := HZ6.out;  omega), HOc6.out.widen (by have := HZ1.out; have := HZ2.out; have := HZ3.out; have := HZ4.out; have := HZ5.out; have := HZ6.out;  omega) (by have := HZ1.out; have := HZ2.out; have := HZ3.out; have := HZ4.out; have := HZ5.out; have := HZ6.out;  omega), fun q hq e => by simp [Value.ownBlock] at hq e; have := HZ1.out; have := HZ2.out; have := HZ3.out; have := HZ4.out; have := HZ5.out; have := HZ6.out;  omega⟩, ⟨by have := HZ1.out; have := HZ2.out; have := HZ3.out; have := HZ4.out; have := HZ5.out; have := HZ6.out;  omega, by have := HZ1.out; have := HZ2.out; have := HZ3.out; have := HZ4.out; have := HZ5.out; have := HZ6.out;  omega⟩, ⟨by have := HZ1.out; have := HZ2.out; have := HZ3.out; have := HZ4.out; have := HZ5.out; have := HZ6.out;  omega, by have := HZ1.out; have := HZ2.out; have := HZ3.out; have := HZ4.out; have := HZ5.out; have := HZ6.out;  omega, by have := HZ1.out; have := HZ2.out; have := HZ3.out; have := HZ4.out; have := HZ5.out; have := HZ6.out;  omega⟩, ⟨by have := HZ1.out; have := HZ2.out; have := HZ3.out; have := HZ4.out; have := HZ5.out; have := HZ6.out;  omega, by have := HZ1.out; have := HZ2.out; have := HZ3.out; have := HZ4.out; have := HZ5.out; have := HZ6.out;  omega, by have := HZ1.out; have := HZ2.out; have := HZ3.out; have := HZ4.out; have := HZ5.out; have := HZ6.out;  omega⟩, HB6.out⟩
      · go_simp
        have hb : Below w3.heap.size w3 (w3.alloc (.cells #[.slice none 0 0, .slice none 0 0] 26)) := (Below.refl _ _).alloc (Nat.le_refl _) _
        have hk : (w3.alloc (.cells #[.slice none 0 0, .slice none 0 0] 26)).heap[w3.heap.size]? = some (.cells #[.slice none 0 0, .slice none 0 0] 26 (0, 0)) := alloc_at rfl
        have hz : (w3.alloc (.cells #[.slice none 0 0, .slice none 0 0] 26)).heap.size = w3.heap.size + 1 := by simp
        generalize w3.alloc (.cells #[.slice none 0 0, .slice none 0 0] 26) = w4 at hb hk hz ⊢
        have HB4 : Hid (Below w.heap.size w w4) := Lib.hid (HB3.out.trans (hb.mono HB3.out.size))
        have HZ4 : Hid (w3.heap.size ≤ w4.heap.size) := Lib.hid hb.size
        have HKz4 := Lib.hid ((hb.block _ (lt_of_block HKz3.out)).trans HKz3.out)
        have HOa4 := Lib.hid (HOa3.out.next hb)
        have HKo4 := Lib.hid hk
        replace HZ4 : Hid (w3.heap.size < w4.heap.size) := Lib.hid (by omega)
        have HE4 := Lib.hid hz
        clear hb hk hz
        clear cz0 cz1 fz0 fz1 ltz
        have ltz := lt_of_block HKz4.out
        obtain ⟨cz0, cz1, fz0, fz1⟩ := cell2 HKz4.out
        have lto := lt_of_block HKo4.out
        obtain ⟨co0, co1, fo0, fo1⟩ := cell2 HKo4.out
        refine hK.out _ _ (trivial) (fun hHeld => ?_)
        clear hK K
        try simp only [Act.put, List.setIfInBounds_toArray, List.set_cons_zero, List.set_cons_succ]
        refine wpAnyH_ready (rs := [3]) (by kernel_rfl) (by simp) ?_
        refine AllReadyH.cons rfl (fun K hK => ?_) AllReadyH.nil
        go_simp
        have hb : Below w4.heap.size w4 (w4.alloc (.cells (madeCells #[.int .i64 0] n) 3)) := (Below.refl _ _).alloc (Nat.le_refl _) _
        have ho := made_own w4 n (by omega)
        have hz : (w4.alloc (.cells (madeCells #[.int .i64 0] n) 3)).heap.size = w4.heap.size + 1 := by simp
        generalize w4.alloc (.cells (madeCells #[.int .i64 0] n) 3) = w5 at hb ho hz ⊢
        have HB5 : Hid (Below w.heap.size w w5) := Lib.hid (HB4.out.trans (hb.mono HB4.out.size))
        have HZ5 : Hid (w4.heap.size ≤ w5.heap.size) := Lib.hid hb.size
        have HKz5 := Lib.hid ((hb.block _ (lt_of_block HKz4.out)).trans HKz4.out)
        have HOa5 := Lib.hid (HOa4.out.next hb)
        have HKo5 := Lib.hid ((hb.block _ (lt_of_block HKo4.out)).trans HKo4.out)
        clear hb
        replace HZ5 : Hid (w4.heap.size < w5.heap.size) := Lib.hid (by omega)
        have HOc5 := Lib.hid (Ow.mk' ho)
        clear ho hz
        clear cz0 cz1 fz0 fz1 ltz co0 co1 fo0 fo1 lto
        have ltz := lt_of_block HKz5.out
        obtain ⟨cz0, cz1, fz0, fz1⟩ := cell2 HKz5.out
        have lto := lt_of_block HKo5.out
        obtain ⟨co0, co1, fo0, fo1⟩ := cell2 HKo5.out
        refine hK.out _ _ (trivial) (fun hHeld => ?_)
        clear hK K
        try simp only [Act.put, List.setIfInBounds_toArray, List.set_cons_zero, List.set_cons_succ]
        refine take1 (i := 4) (v := ?v4) (some 13) rfl rfl (by kernel_rfl) (by kernel_rfl) (by kernel_rfl) (fun _ _ _ h => h) (Or.inl ⟨by rfl, ?y4⟩) (by assumption) ?r4
        case y4 => (intro w hSw; (try dsimp only at hSw); go_simp; (first | done | with_reducible rfl))
        try simp only [Act.put, List.setIfInBounds_toArray, List.set_cons_zero, List.set_cons_succ]
        refine wpAnyH_ready (rs := [6]) (by kernel_rfl) (by simp) ?_
        refine AllReadyH.cons rfl (fun K hK => ?_) AllReadyH.nil
        go_simp
        have hkb := box2_set HKo5.out (.slice (some ⟨w2.heap.size, 0, none⟩) n n) (.slice (some ⟨w4.heap.size, 0, none⟩) n n)
        have hm : Btw w3.heap.size (w3.heap.size + 1) w5 ((w5.setCell ⟨w3.heap.size, 0, none⟩ (.slice (some ⟨w2.heap.size, 0, none⟩) n n)).setCell ⟨w3.heap.size, 1, none⟩ (.slice (some ⟨w4.heap.size, 0, none⟩) n n)) := ((Btw.refl w3.heap.size (w3.heap.size + 1) w5).setCell (p := ⟨w3.heap.size, 0, none⟩) (Nat.le_refl _) (Nat.lt_succ_self _) _).setCell (p := ⟨w3.heap.size, 1, none⟩) (Nat.le_refl _) (Nat.lt_succ_self _) _
        generalize (w5.setCell ⟨w3.heap.size, 0, none⟩ (.slice (some ⟨w2.heap.size, 0, none⟩) n n)).setCell ⟨w3.heap.size, 1, none⟩ (.slice (some ⟨w4.heap.size, 0, none⟩) n n) = w6 at hkb hm ⊢
        have HZ6 : Hid (w5.heap.size ≤ w6.heap.size) := Lib.hid hm.size
        have HB6 : Hid (Below w.heap.size w w6) := Lib.hid (HB5.out.trans (hm.below.mono (by have := HZ1.out; have := HZ2.out; have := HZ3.out; have := HZ4.out; have := HZ5.out; have := HB0.out.size; omega)))
        have HKz6 := Lib.hid ((hm.block _ (by have := lt_of_block HKz5.out; have := HZ1.out; have := HZ2.out; have := HZ3.out; have := HZ4.out; have := HZ5.out; omega)).trans HKz5.out)
        have HOa6 := Lib.hid (HOa5.out.btw hm (by have := HZ1.out; have := HZ2.out; have := HZ3.out; have := HZ4.out; have := HZ5.out; omega))
        have HOc6 := Lib.hid (HOc5.out.btw hm (by have := HZ1.out; have := HZ2.out; have := HZ3.out; have := HZ4.out; have := HZ5.out; omega))
        clear hm
        have HKo6 := Lib.hid (hkb)
        clear hkb
        clear cz0 cz1 fz0 fz1 ltz co0 co1 fo0 fo1 lto
        have ltz := lt_of_block HKz6.out
        obtain ⟨cz0, cz1, fz0, fz1⟩ := cell2 HKz6.out
        have lto := lt_of_block HKo6.out
        obtain ⟨co0, co1, fo0, fo1⟩ := cell2 HKo6.out
        refine hK.out _ _ (trivial) (fun hHeld => ?_)
        clear hK K
        try simp only [Act.put]
        refine wpAnyH_done (by kernel_rfl) ?_ _
        go_wp2_with fail
        go_meet
        exact ⟨w3.heap.size, w2.heap.size, w4.heap.size, n, n, rfl, HKz6.out, HKo6.out, ⟨HOa6.out.widen (by have := HZ1.out; have := HZ2.out; have := HZ3.out; have := HZ4.out; have := HZ5.out; have := HZ6.out;  omega) (by have := HZ1.out; have := HZ2.out; have := HZ3.out; have := HZ4.out; have := HZ5.out; have := HZ6.out;  omega), HOc6.out.widen (by have := HZ1.out; have := HZ2.out; have := HZ3.out; have := HZ4.out; have := HZ5.out; have := HZ6.out;  omega) (by have := HZ1.out; have := HZ2.out; have := HZ3.out; have := HZ4.out; have := HZ5.out; have := HZ6.out;  omega), fun q hq e => by simp [Value.ownBlock] at hq e; have := HZ1.out; have := HZ2.out; have := HZ3.out; have := HZ4.out; have := HZ5.out; have := HZ6.out;  omega⟩, ⟨by have := HZ1.out; have := HZ2.out; have := HZ3.out; have := HZ4.out; have := HZ5.out; have := HZ6.out;  omega, by have := HZ1.out; have := HZ2.out; have := HZ3.out; have := HZ4.out; have := HZ5.out; have := HZ6.out;  omega⟩, ⟨by have := HZ1.out; have := HZ2.out; have := HZ3.out; have := HZ4.out; have := HZ5.out; have := HZ6.out;  omega, by have := HZ1.out; have := HZ2.out; have := HZ3.out; have := HZ4.out; have := HZ5.out; have := HZ6.out;  omega, by have := HZ1.out; have := HZ2.out; have := HZ3.out; have := HZ4.out; have := HZ5.out; have := HZ6.out;  omega⟩, ⟨by have := HZ1.out; have := HZ2.out; have := HZ3.out; have := HZ4.out; have := HZ5.out; have := HZ6.out;  omega, by have := HZ1.out; have := HZ2.out; have := HZ3.out; have := HZ4.out; have := HZ5.out; have := HZ6.out;  omega, by have := HZ1.out; have := HZ2.out; have := HZ3.out; have := HZ4.out; have := HZ5.out; have := HZ6.out;  omega⟩, HB6.out⟩
    · go_simp
      have hb : Below w2.heap.size w2 (w2.alloc (.cells (madeCells #[.int .i64 0] n) 3)) := (Below.refl _ _).alloc (Nat.le_refl _) _
      have ho := made_own w2 n (by omega)
      have hz : (w2.alloc (.cells (madeCells #[.int .i64 0] n) 3)).heap.size = w2.heap.size + 1 := by simp
      generalize w2.alloc (.cells (madeCells #[.int .i64 0] n) 3) = w3 at hb ho hz ⊢
      have HB3 : Hid (Below w.heap.size w w3) := Lib.hid (HB2.out.trans (hb.mono HB2.out.size))
      have HZ3 : Hid (w2.heap.size ≤ w3.heap.size) := Lib.hid hb.size
      have HKz3 := Lib.hid ((hb.block _ (lt_of_block HKz2.out)).trans HKz2.out)
      clear hb
      replace HZ3 : Hid (w2.heap.size < w3.heap.size) := Lib.hid (by omega)
      have HOc3 := Lib.hid (Ow.mk' ho)
      clear ho hz
      clear cz0 cz1 fz0 fz1 ltz
      have ltz := lt_of_block HKz3.out
      obtain ⟨cz0, cz1, fz0, fz1⟩ := cell2 HKz3.out
      refine hK.out _ _ (trivial) (fun hHeld => ?_)
      clear hK K
      try simp only [Act.put, List.setIfInBounds_toArray, List.set_cons_zero, List.set_cons_succ]
      refine wpAnyH_ready (rs := [1, 5]) (by kernel_rfl) (by simp) ?_
      refine AllReadyH.cons rfl (fun K hK => ?_) (AllReadyH.cons rfl (fun K hK => ?_) (AllReadyH.nil))
      · go_simp
        have hb : Below w3.heap.size w3 (w3.alloc (.cells (madeCells #[.int .i64 0] n) 3)) := (Below.refl _ _).alloc (Nat.le_refl _) _
        have ho := made_own w3 n (by omega)
        have hz : (w3.alloc (.cells (madeCells #[.int .i64 0] n) 3)).heap.size = w3.heap.size + 1 := by simp
        generalize w3.alloc (.cells (madeCells #[.int .i64 0] n) 3) = w4 at hb ho hz ⊢
        have HB4 : Hid (Below w.heap.size w w4) := Lib.hid (HB3.out.trans (hb.mono HB3.out.size))
        have HZ4 : Hid (w3.heap.size ≤ w4.heap.size) := Lib.hid hb.size
        have HKz4 := Lib.hid ((hb.block _ (lt_of_block HKz3.out)).trans HKz3.out)
        have HOc4 := Lib.hid (HOc3.out.next hb)
        clear hb
        replace HZ4 : Hid (w3.heap.size < w4.heap.size) := Lib.hid (by omega)
        have HOa4 := Lib.hid (Ow.mk' ho)
        clear ho hz
        clear cz0 cz1 fz0 fz1 ltz
        have ltz := lt_of_block HKz4.out
        obtain ⟨cz0, cz1, fz0, fz1⟩ := cell2 HKz4.out
        refine hK.out _ _ (trivial) (fun hHeld => ?_)
        clear hK K
        try simp only [Act.put, List.setIfInBounds_toArray, List.set_cons_zero, List.set_cons_succ]
        refine take1 (i := 4) (v := ?v5) (some 13) rfl rfl (by kernel_rfl) (by kernel_rfl) (by kernel_rfl) (fun _ _ _ h => h) (Or.inl ⟨by rfl, ?y5⟩) (by assumption) ?r5
        case y5 => (intro w hSw; (try dsimp only at hSw); go_simp; (first | done | with_reducible rfl))
        try simp only [Act.put, List.setIfInBounds_toArray, List.set_cons_zero, List.set_cons_succ]
        refine wpAnyH_ready (rs := [5]) (by kernel_rfl) (by simp) ?_
        refine AllReadyH.cons rfl (fun K hK => ?_) AllReadyH.nil
        go_simp
        have hb : Below w4.heap.size w4 (w4.alloc (.cells #[.slice none 0 0, .slice none 0 0] 26)) := (Below.refl _ _).alloc (Nat.le_refl _) _
        have hk : (w4.alloc (.cells #[.slice none 0 0, .slice none 0 0] 26)).heap[w4.heap.size]? = some (.cells #[.slice none 0 0, .slice none 0 0] 26 (0, 0)) := alloc_at rfl
        have hz : (w4.alloc (.cells #[.slice none 0 0, .slice none 0 0] 26)).heap.size = w4.heap.size + 1 := by simp
        generalize w4.alloc (.cells #[.slice none 0 0, .slice none 0 0] 26) = w5 at hb hk hz ⊢
        have HB5 : Hid (Below w.heap.size w w5) := Lib.hid (HB4.out.trans (hb.mono HB4.out.size))
        have HZ5 : Hid (w4.heap.size ≤ w5.heap.size) := Lib.hid hb.size
        have HKz5 := Lib.hid ((hb.block _ (lt_of_block HKz4.out)).trans HKz4.out)
        have HOc5 := Lib.hid (HOc4.out.next hb)
        have HOa5 := Lib.hid (HOa4.out.next hb)
        have HKo5 := Lib.hid hk
        replace HZ5 : Hid (w4.heap.size < w5.heap.size) := Lib.hid (by omega)
        have HE5 := Lib.hid hz
        clear hb hk hz
        clear cz0 cz1 fz0 fz1 ltz
        have ltz := lt_of_block HKz5.out
        obtain ⟨cz0, cz1, fz0, fz1⟩ := cell2 HKz5.out
        have lto := lt_of_block HKo5.out
        obtain ⟨co0, co1, fo0, fo1⟩ := cell2 HKo5.out
        refine hK.out _ _ (trivial) (fun hHeld => ?_)
        clear hK K
        try simp only [Act.put, List.setIfInBounds_toArray, List.set_cons_zero, List.set_cons_succ]
        refine wpAnyH_ready (rs := [6]) (by kernel_rfl) (by simp) ?_
        refine AllReadyH.cons rfl (fun K hK => ?_) AllReadyH.nil
        go_simp
        have hkb := box2_set HKo5.out (.slice (some ⟨w3.heap.size, 0, none⟩) n n) (.slice (some ⟨w2.heap.size, 0, none⟩) n n)
        have hm : Btw w4.heap.size (w4.heap.size + 1) w5 ((w5.setCell ⟨w4.heap.size, 0, none⟩ (.slice (some ⟨w3.heap.size, 0, none⟩) n n)).setCell ⟨w4.heap.size, 1, none⟩ (.slice (some ⟨w2.heap.size, 0, none⟩) n n)) := ((Btw.refl w4.heap.size (w4.heap.size + 1) w5).setCell (p := ⟨w4.heap.size, 0, none⟩) (Nat.le_refl _) (Nat.lt_succ_self _) _).setCell (p := ⟨w4.heap.size, 1, none⟩) (Nat.le_refl _) (Nat.lt_succ_self _) _
        generalize (w5.setCell ⟨w4.heap.size, 0, none⟩ (.slice (some ⟨w3.heap.size, 0, none⟩) n n)).setCell ⟨w4.heap.size, 1, none⟩ (.slice (some ⟨w2.heap.size, 0, none⟩) n n) = w6 at hkb hm ⊢
        have HZ6 : Hid (w5.heap.size ≤ w6.heap.size) := Lib.hid hm.size
        have HB6 : Hid (Below w.heap.size w w6) := Lib.hid (HB5.out.trans (hm.below.mono (by have := HZ1.out; have := HZ2.out; have := HZ3.out; have := HZ4.out; have := HZ5.out; have := HB0.out.size; omega)))
        have HKz6 := Lib.hid ((hm.block _ (by have := lt_of_block HKz5.out; have := HZ1.out; have := HZ2.out; have := HZ3.out; have := HZ4.out; have := HZ5.out; omega)).trans HKz5.out)
        have HOc6 := Lib.hid (HOc5.out.btw hm (by have := HZ1.out; have := HZ2.out; have := HZ3.out; have := HZ4.out; have := HZ5.out; omega))
        have HOa6 := Lib.hid (HOa5.out.btw hm (by have := HZ1.out; have := HZ2.out; have := HZ3.out; have := HZ4.out; have := HZ5.out; omega))
        clear hm
        have HKo6 := Lib.hid (hkb)
        clear hkb
        clear cz0 cz1 fz0 fz1 ltz co0 co1 fo0 fo1 lto
        have ltz := lt_of_block HKz6.out
        obtain ⟨cz0, cz1, fz0, fz1⟩ := cell2 HKz6.out
        have lto := lt_of_block HKo6.out
        obtain ⟨co0, co1, fo0, fo1⟩ := cell2 HKo6.out
        refine hK.out _ _ (trivial) (fun hHeld => ?_)
        clear hK K
        try simp only [Act.put]
        refine wpAnyH_done (by kernel_rfl) ?_ _
        go_wp2_with fail
        go_meet
        exact ⟨w4.heap.size, w3.heap.size, w2.heap.size, n, n, rfl, HKz6.out, HKo6.out, ⟨HOa6.out.widen (by have := HZ1.out; have := HZ2.out; have := HZ3.out; have := HZ4.out; have := HZ5.out; have := HZ6.out;  omega) (by have := HZ1.out; have := HZ2.out; have := HZ3.out; have := HZ4.out; have := HZ5.out; have := HZ6.out;  omega), HOc6.out.widen (by have := HZ1.out; have := HZ2.out; have := HZ3.out; have := HZ4.out; have := HZ5.out; have := HZ6.out;  omega) (by have := HZ1.out; have := HZ2.out; have := HZ3.out; have := HZ4.out; have := HZ5.out; have := HZ6.out;  omega), fun q hq e => by simp [Value.ownBlock] at hq e; have := HZ1.out; have := HZ2.out; have := HZ3.out; have := HZ4.out; have := HZ5.out; have := HZ6.out;  omega⟩, ⟨by have := HZ1.out; have := HZ2.out; have := HZ3.out; have := HZ4.out; have := HZ5.out; have := HZ6.out;  omega, by have := HZ1.out; have := HZ2.out; have := HZ3.out; have := HZ4.out; have := HZ5.out; have := HZ6.out;  omega⟩, ⟨by have := HZ1.out; have := HZ2.out; have := HZ3.out; have := HZ4.out; have := HZ5.out; have := HZ6.out;  omega, by have := HZ1.out; have := HZ2.out; have := HZ3.out; have := HZ4.out; have := HZ5.out; have := HZ6.out;  omega, by have := HZ1.out; have := HZ2.out; have := HZ3.out; have := HZ4.out; have := HZ5.out; have := HZ6.out;  omega⟩, ⟨by have := HZ1.out; have := HZ2.out; have := HZ3.out; have := HZ4.out; have := HZ5.out; have := HZ6.out;  omega, by have := HZ1.out; have := HZ2.out; have := HZ3.out; have := HZ4.out; have := HZ5.out; have := HZ6.out;  omega, by have := HZ1.out; have := HZ2.out; have := HZ3.out; have := HZ4.out; have := HZ5.out; have := HZ6.out;  omega⟩, HB6.out⟩
      · go_simp
        have hb : Below w3.heap.size w3 (w3.alloc (.cells #[.slice none 0 0, .slice none 0 0] 26)) := (Below.refl _ _).alloc (Nat.le_refl _) _
        have hk : (w3.alloc (.cells #[.slice none 0 0, .slice none 0 0] 26)).heap[w3.heap.size]? = some (.cells #[.slice none 0 0, .slice none 0 0] 26 (0, 0)) := alloc_at rfl
        have hz : (w3.alloc (.cells #[.slice none 0 0, .slice none 0 0] 26)).heap.size = w3.heap.size + 1 := by simp
        generalize w3.alloc (.cells #[.slice none 0 0, .slice none 0 0] 26) = w4 at hb hk hz ⊢
        have HB4 : Hid (Below w.heap.size w w4) := Lib.hid (HB3.out.trans (hb.mono HB3.out.size))
        have HZ4 : Hid (w3.heap.size ≤ w4.heap.size) := Lib.hid hb.size
        have HKz4 := Lib.hid ((hb.block _ (lt_of_block HKz3.out)).trans HKz3.out)
        have HOc4 := Lib.hid (HOc3.out.next hb)
        have HKo4 := Lib.hid hk
        replace HZ4 : Hid (w3.heap.size < w4.heap.size) := Lib.hid (by omega)
        have HE4 := Lib.hid hz
        clear hb hk hz
        clear cz0 cz1 fz0 fz1 ltz
        have ltz := lt_of_block HKz4.out
        obtain ⟨cz0, cz1, fz0, fz1⟩ := cell2 HKz4.out
        have lto := lt_of_block HKo4.out
        obtain ⟨co0, co1, fo0, fo1⟩ := cell2 HKo4.out
        refine hK.out _ _ (trivial) (fun hHeld => ?_)
        clear hK K
        try simp only [Act.put, List.setIfInBounds_toArray, List.set_cons_zero, List.set_cons_succ]
        refine wpAnyH_ready (rs := [1]) (by kernel_rfl) (by simp) ?_
        refine AllReadyH.cons rfl (fun K hK => ?_) AllReadyH.nil
        go_simp
        have hb : Below w4.heap.size w4 (w4.alloc (.cells (madeCells #[.int .i64 0] n) 3)) := (Below.refl _ _).alloc (Nat.le_refl _) _
        have ho := made_own w4 n (by omega)
        have hz : (w4.alloc (.cells (madeCells #[.int .i64 0] n) 3)).heap.size = w4.heap.size + 1 := by simp
        generalize w4.alloc (.cells (madeCells #[.int .i64 0] n) 3) = w5 at hb ho hz ⊢
        have HB5 : Hid (Below w.heap.size w w5) := Lib.hid (HB4.out.trans (hb.mono HB4.out.size))
        have HZ5 : Hid (w4.heap.size ≤ w5.heap.size) := Lib.hid hb.size
        have HKz5 := Lib.hid ((hb.block _ (lt_of_block HKz4.out)).trans HKz4.out)
        have HOc5 := Lib.hid (HOc4.out.next hb)
        have HKo5 := Lib.hid ((hb.block _ (lt_of_block HKo4.out)).trans HKo4.out)
        clear hb
        replace HZ5 : Hid (w4.heap.size < w5.heap.size) := Lib.hid (by omega)
        have HOa5 := Lib.hid (Ow.mk' ho)
        clear ho hz
        clear cz0 cz1 fz0 fz1 ltz co0 co1 fo0 fo1 lto
        have ltz := lt_of_block HKz5.out
        obtain ⟨cz0, cz1, fz0, fz1⟩ := cell2 HKz5.out
        have lto := lt_of_block HKo5.out
        obtain ⟨co0, co1, fo0, fo1⟩ := cell2 HKo5.out
        refine hK.out _ _ (trivial) (fun hHeld => ?_)
        clear hK K
        try simp only [Act.put, List.setIfInBounds_toArray, List.set_cons_zero, List.set_cons_succ]
        refine take1 (i := 4) (v := ?v6) (some 13) rfl rfl (by kernel_rfl) (by kernel_rfl) (by kernel_rfl) (fun _ _ _ h => h) (Or.inl ⟨by rfl, ?y6⟩) (by assumption) ?r6
        case y6 => (intro w hSw; (try dsimp only at hSw); go_simp; (first | done | with_reducible rfl))
        try simp only [Act.put, List.setIfInBounds_toArray, List.set_cons_zero, List.set_cons_succ]
        refine wpAnyH_ready (rs := [6]) (by kernel_rfl) (by simp) ?_
        refine AllReadyH.cons rfl (fun K hK => ?_) AllReadyH.nil
        go_simp
        have hkb := box2_set HKo5.out (.slice (some ⟨w4.heap.size, 0, none⟩) n n) (.slice (some ⟨w2.heap.size, 0, none⟩) n n)
        have hm : Btw w3.heap.size (w3.heap.size + 1) w5 ((w5.setCell ⟨w3.heap.size, 0, none⟩ (.slice (some ⟨w4.heap.size, 0, none⟩) n n)).setCell ⟨w3.heap.size, 1, none⟩ (.slice (some ⟨w2.heap.size, 0, none⟩) n n)) := ((Btw.refl w3.heap.size (w3.heap.size + 1) w5).setCell (p := ⟨w3.heap.size, 0, none⟩) (Nat.le_refl _) (Nat.lt_succ_self _) _).setCell (p := ⟨w3.heap.size, 1, none⟩) (Nat.le_refl _) (Nat.lt_succ_self _) _
        generalize (w5.setCell ⟨w3.heap.size, 0, none⟩ (.slice (some ⟨w4.heap.size, 0, none⟩) n n)).setCell ⟨w3.heap.size, 1, none⟩ (.slice (some ⟨w2.heap.size, 0, none⟩) n n) = w6 at hkb hm ⊢
        have HZ6 : Hid (w5.heap.size ≤ w6.heap.size) := Lib.hid hm.size
        have HB6 : Hid (Below w.heap.size w w6) := Lib.hid (HB5.out.trans (hm.below.mono (by have := HZ1.out; have := HZ2.out; have := HZ3.out; have := HZ4.out; have := HZ5.out; have := HB0.out.size; omega)))
        have HKz6 := Lib.hid ((hm.block _ (by have := lt_of_block HKz5.out; have := HZ1.out; have := HZ2.out; have := HZ3.out; have := HZ4.out; have := HZ5.out; omega)).trans HKz5.out)
        have HOc6 := Lib.hid (HOc5.out.btw hm (by have := HZ1.out; have := HZ2.out; have := HZ3.out; have := HZ4.out; have := HZ5.out; omega))
        have HOa6 := Lib.hid (HOa5.out.btw hm (by have := HZ1.out; have := HZ2.out; have := HZ3.out; have := HZ4.out; have := HZ5.out; omega))
        clear hm
        have HKo6 := Lib.hid (hkb)
        clear hkb
        clear cz0 cz1 fz0 fz1 ltz co0 co1 fo0 fo1 lto
        have ltz := lt_of_block HKz6.out
        obtain ⟨cz0, cz1, fz0, fz1⟩ := cell2 HKz6.out
        have lto := lt_of_block HKo6.out
        obtain ⟨co0, co1, fo0, fo1⟩ := cell2 HKo6.out
        refine hK.out _ _ (trivial) (fun hHeld => ?_)
        clear hK K
        try simp only [Act.put]
        refine wpAnyH_done (by kernel_rfl) ?_ _
        go_wp2_with fail
        go_meet
        exact ⟨w3.heap.size, w4.heap.size, w2.heap.size, n, n, rfl, HKz6.out, HKo6.out, ⟨HOa6.out.widen (by have := HZ1.out; have := HZ2.out; have := HZ3.out; have := HZ4.out; have := HZ5.out; have := HZ6.out;  omega) (by have := HZ1.out; have := HZ2.out; have := HZ3.out; have := HZ4.out; have := HZ5.out; have := HZ6.out;  omega), HOc6.out.widen (by have := HZ1.out; have := HZ2.out; have := HZ3.out; have := HZ4.out; have := HZ5.out; have := HZ6.out;  omega) (by have := HZ1.out; have := HZ2.out; have := HZ3.out; have := HZ4.out; have := HZ5.out; have := HZ6.out;  omega), fun q hq e => by simp [Value.ownBlock] at hq e; have := HZ1.out; have := HZ2.out; have := HZ3.out; have := HZ4.out; have := HZ5.out; have := HZ6.out;  omega⟩, ⟨by have := HZ1.out; have := HZ2.out; have := HZ3.out; have := HZ4.out; have := HZ5.out; have := HZ6.out;  omega, by have := HZ1.out; have := HZ2.out; have := HZ3.out; have := HZ4.out; have := HZ5.out; have := HZ6.out;  omega⟩, ⟨by have := HZ1.out; have := HZ2.out; have := HZ3.out; have := HZ4.out; have := HZ5.out; have := HZ6.out;  omega, by have := HZ1.out; have := HZ2.out; have := HZ3.out; have := HZ4.out; have := HZ5.out; have := HZ6.out;  omega, by have := HZ1.out; have := HZ2.out; have := HZ3.out; have := HZ4.out; have := HZ5.out; have := HZ6.out;  omega⟩, ⟨by have := HZ1.out; have := HZ2.out; have := HZ3.out; have := HZ4.out; have := HZ5.out; have := HZ6.out;  omega, by have := HZ1.out; have := HZ2.out; have := HZ3.out; have := HZ4.out; have := HZ5.out; have := HZ6.out;  omega, by have := HZ1.out; have := HZ2.out; have := HZ3.out; have := HZ4.out; have := HZ5.out; have := HZ6.out;  omega⟩, HB6.out⟩
    · go_simp
      have hb : Below w2.heap.size w2 (w2.alloc (.cells #[.slice none 0 0, .slice none 0 0] 26)) := (Below.refl _ _).alloc (Nat.le_refl _) _
      have hk : (w2.alloc (.cells #[.slice none 0 0, .slice none 0 0] 26)).heap[w2.heap.size]? = some (.cells #[.slice none 0 0, .slice none 0 0] 26 (0, 0)) := alloc_at rfl
      have hz : (w2.alloc (.cells #[.slice none 0 0, .slice none 0 0] 26)).heap.size = w2.heap.size + 1 := by simp
      generalize w2.alloc (.cells #[.slice none 0 0, .slice none 0 0] 26) = w3 at hb hk hz ⊢
      have HB3 : Hid (Below w.heap.size w w3) := Lib.hid (HB2.out.trans (hb.mono HB2.out.size))
      have HZ3 : Hid (w2.heap.size ≤ w3.heap.size) := Lib.hid hb.size
      have HKz3 := Lib.hid ((hb.block _ (lt_of_block HKz2.out)).trans HKz2.out)
      have HKo3 := Lib.hid hk
      replace HZ3 : Hid (w2.heap.size < w3.heap.size) := Lib.hid (by omega)
      have HE3 := Lib.hid hz
      clear hb hk hz
      clear cz0 cz1 fz0 fz1 ltz
      have ltz := lt_of_block HKz3.out
      obtain ⟨cz0, cz1, fz0, fz1⟩ := cell2 HKz3.out
      have lto := lt_of_block HKo3.out
      obtain ⟨co0, co1, fo0, fo1⟩ := cell2 HKo3.out
      refine hK.out _ _ (trivial) (fun hHeld => ?_)
      clear hK K
      try simp only [Act.put, List.setIfInBounds_toArray, List.set_cons_zero, List.set_cons_succ]
      refine wpAnyH_ready (rs := [1, 3]) (by kernel_rfl) (by simp) ?_
      refine AllReadyH.cons rfl (fun K hK => ?_) (AllReadyH.cons rfl (fun K hK => ?_) (AllReadyH.nil))
      · go_simp
        have hb : Below w3.heap.size w3 (w3.alloc (.cells (madeCells #[.int .i64 0] n) 3)) := (Below.refl _ _).alloc (Nat.le_refl _) _
        have ho := made_own w3 n (by omega)
        have hz : (w3.alloc (.cells (madeCells #[.int .i64 0] n) 3)).heap.size = w3.heap.size + 1 := by simp
        generalize w3.alloc (.cells (madeCells #[.int .i64 0] n) 3) = w4 at hb ho hz ⊢
        have HB4 : Hid (Below w.heap.size w w4) := Lib.hid (HB3.out.trans (hb.mono HB3.out.size))
        have HZ4 : Hid (w3.heap.size ≤ w4.heap.size) := Lib.hid hb.size
        have HKz4 := Lib.hid ((hb.block _ (lt_of_block HKz3.out)).trans HKz3.out)
        have HKo4 := Lib.hid ((hb.block _ (lt_of_block HKo3.out)).trans HKo3.out)
        clear hb
        replace HZ4 : Hid (w3.heap.size < w4.heap.size) := Lib.hid (by omega)
        have HOa4 := Lib.hid (Ow.mk' ho)
        clear ho hz
        clear cz0 cz1 fz0 fz1 ltz co0 co1 fo0 fo1 lto
        have ltz := lt_of_block HKz4.out
        obtain ⟨cz0, cz1, fz0, fz1⟩ := cell2 HKz4.out
        have lto := lt_of_block HKo4.out
        obtain ⟨co0, co1, fo0, fo1⟩ := cell2 HKo4.out
        refine hK.out _ _ (trivial) (fun hHeld => ?_)
        clear hK K
        try simp only [Act.put, List.setIfInBounds_toArray, List.set_cons_zero, List.set_cons_succ]
        refine wpAnyH_ready (rs := [3]) (by kernel_rfl) (by simp) ?_
        refine AllReadyH.cons rfl (fun K hK => ?_) AllReadyH.nil
        go_simp
        have hb : Below w4.heap.size w4 (w4.alloc (.cells (madeCells #[.int .i64 0] n) 3)) := (Below.refl _ _).alloc (Nat.le_refl _) _
        have ho := made_own w4 n (by omega)
        have hz : (w4.alloc (.cells (madeCells #[.int .i64 0] n) 3)).heap.size = w4.heap.size + 1 := by simp
        generalize w4.alloc (.cells (madeCells #[.int .i64 0] n) 3) = w5 at hb ho hz ⊢
        have HB5 : Hid (Below w.heap.size w w5) := Lib.hid (HB4.out.trans (hb.mono HB4.out.size))
        have HZ5 : Hid (w4.heap.size ≤ w5.heap.size) := Lib.hid hb.size
        have HKz5 := Lib.hid ((hb.block _ (lt_of_block HKz4.out)).trans HKz4.out)
        have HKo5 := Lib.hid ((hb.block _ (lt_of_block HKo4.out)).trans HKo4.out)
        have HOa5 := Lib.hid (HOa4.out.next hb)
        clear hb
        replace HZ5 : Hid (w4.heap.size < w5.heap.size) := Lib.hid (by omega)
        have HOc5 := Lib.hid (Ow.mk' ho)
        clear ho hz
        clear cz0 cz1 fz0 fz1 ltz co0 co1 fo0 fo1 lto
        have ltz := lt_of_block HKz5.out
        obtain ⟨cz0, cz1, fz0, fz1⟩ := cell2 HKz5.out
        have lto := lt_of_block HKo5.out
        obtain ⟨co0, co1, fo0, fo1⟩ := cell2 HKo5.out
        refine hK.out _ _ (trivial) (fun hHeld => ?_)
        clear hK K
        try simp only [Act.put, List.setIfInBounds_toArray, List.set_cons_zero, List.set_cons_succ]
        refine take1 (i := 4) (v := ?v7) (some 13) rfl rfl (by kernel_rfl) (by kernel_rfl) (by kernel_rfl) (fun _ _ _ h => h) (Or.inl ⟨by rfl, ?y7⟩) (by assumption) ?r7
        case y7 => (intro w hSw; (try dsimp only at hSw); go_simp; (first | done | with_reducible rfl))
        try simp only [Act.put, List.setIfInBounds_toArray, List.set_cons_zero, List.set_cons_succ]
        refine wpAnyH_ready (rs := [6]) (by kernel_rfl) (by simp) ?_
        refine AllReadyH.cons rfl (fun K hK => ?_) AllReadyH.nil
        go_simp
        have hkb := box2_set HKo5.out (.slice (some ⟨w3.heap.size, 0, none⟩) n n) (.slice (some ⟨w4.heap.size, 0, none⟩) n n)
        have hm : Btw w2.heap.size (w2.heap.size + 1) w5 ((w5.setCell ⟨w2.heap.size, 0, none⟩ (.slice (some ⟨w3.heap.size, 0, none⟩) n n)).setCell ⟨w2.heap.size, 1, none⟩ (.slice (some ⟨w4.heap.size, 0, none⟩) n n)) := ((Btw.refl w2.heap.size (w2.heap.size + 1) w5).setCell (p := ⟨w2.heap.size, 0, none⟩) (Nat.le_refl _) (Nat.lt_succ_self _) _).setCell (p := ⟨w2.heap.size, 1, none⟩) (Nat.le_refl _) (Nat.lt_succ_self _) _
        generalize (w5.setCell ⟨w2.heap.size, 0, none⟩ (.slice (some ⟨w3.heap.size, 0, none⟩) n n)).setCell ⟨w2.heap.size, 1, none⟩ (.slice (some ⟨w4.heap.size, 0, none⟩) n n) = w6 at hkb hm ⊢
        have HZ6 : Hid (w5.heap.size ≤ w6.heap.size) := Lib.hid hm.size
        have HB6 : Hid (Below w.heap.size w w6) := Lib.hid (HB5.out.trans (hm.below.mono (by have := HZ1.out; have := HZ2.out; have := HZ3.out; have := HZ4.out; have := HZ5.out; have := HB0.out.size; omega)))
        have HKz6 := Lib.hid ((hm.block _ (by have := lt_of_block HKz5.out; have := HZ1.out; have := HZ2.out; have := HZ3.out; have := HZ4.out; have := HZ5.out; omega)).trans HKz5.out)
        have HOa6 := Lib.hid (HOa5.out.btw hm (by have := HZ1.out; have := HZ2.out; have := HZ3.out; have := HZ4.out; have := HZ5.out; omega))
        have HOc6 := Lib.hid (HOc5.out.btw hm (by have := HZ1.out; have := HZ2.out; have := HZ3.out; have := HZ4.out; have := HZ5.out; omega))
        clear hm
        have HKo6 := Lib.hid (hkb)
        clear hkb
        clear cz0 cz1 fz0 fz1 ltz co0 co1 fo0 fo1 lto
        have ltz := lt_of_block HKz6.out
        obtain ⟨cz0, cz1, fz0, fz1⟩ := cell2 HKz6.out
        have lto := lt_of_block HKo6.out
        obtain ⟨co0, co1, fo0, fo1⟩ := cell2 HKo6.out
        refine hK.out _ _ (trivial) (fun hHeld => ?_)
        clear hK K
        try simp only [Act.put]
        refine wpAnyH_done (by kernel_rfl) ?_ _
        go_wp2_with fail
        go_meet
        exact ⟨w2.heap.size, w3.heap.size, w4.heap.size, n, n, rfl, HKz6.out, HKo6.out, ⟨HOa6.out.widen (by have := HZ1.out; have := HZ2.out; have := HZ3.out; have := HZ4.out; have := HZ5.out; have := HZ6.out;  omega) (by have := HZ1.out; have := HZ2.out; have := HZ3.out; have := HZ4.out; have := HZ5.out; have := HZ6.out;  omega), HOc6.out.widen (by have := HZ1.out; have := HZ2.out; have := HZ3.out; have := HZ4.out; have := HZ5.out; have := HZ6.out;  omega) (by have := HZ1.out; have := HZ2.out; have := HZ3.out; have := HZ4.out; have := HZ5.out; have := HZ6.out;  omega), fun q hq e => by simp [Value.ownBlock] at hq e; have := HZ1.out; have := HZ2.out; have := HZ3.out; have := HZ4.out; have := HZ5.out; have := HZ6.out;  omega⟩, ⟨by have := HZ1.out; have := HZ2.out; have := HZ3.out; have := HZ4.out; have := HZ5.out; have := HZ6.out;  omega, by have := HZ1.out; have := HZ2.out; have := HZ3.out; have := HZ4.out; have := HZ5.out; have := HZ6.out;  omega⟩, ⟨by have := HZ1.out; have := HZ2.out; have := HZ3.out; have := HZ4.out; have := HZ5.out; have := HZ6.out;  omega, by have := HZ1.out; have := HZ2.out; have := HZ3.out; have := HZ4.out; have := HZ5.out; have := HZ6.out;  omega, by have := HZ1.out; have := HZ2.out; have := HZ3.out; have := HZ4.out; have := HZ5.out; have := HZ6.out;  omega⟩, ⟨by have := HZ1.out; have := HZ2.out; have := HZ3.out; have := HZ4.out; have := HZ5.out; have := HZ6.out;  omega, by have := HZ1.out; have := HZ2.out; have := HZ3.out; have := HZ4.out; have := HZ5.out; have := HZ6.out;  omega, by have := HZ1.out; have := HZ2.out; have := HZ3.out; have := HZ4.out; have := HZ5.out; have := HZ6.out;  omega⟩, HB6.out⟩
      · go_simp
        have hb : Below w3.heap.size w3 (w3.alloc (.cells (madeCells #[.int .i64 0] n) 3)) := (Below.refl _ _).alloc (Nat.le_refl _) _
        have ho := made_own w3 n (by omega)
        have hz : (w3.alloc (.cells (madeCells #[.int .i64 0] n) 3)).heap.size = w3.heap.size + 1 := by simp
        generalize w3.alloc (.cells (madeCells #[.int .i64 0] n) 3) = w4 at hb ho hz ⊢
        have HB4 : Hid (Below w.heap.size w w4) := Lib.hid (HB3.out.trans (hb.mono HB3.out.size))
        have HZ4 : Hid (w3.heap.size ≤ w4.heap.size) := Lib.hid hb.size
        have HKz4 := Lib.hid ((hb.block _ (lt_of_block HKz3.out)).trans HKz3.out)
        have HKo4 := Lib.hid ((hb.block _ (lt_of_block HKo3.out)).trans HKo3.out)
        clear hb
        replace HZ4 : Hid (w3.heap.size < w4.heap.size) := Lib.hid (by omega)
        have HOc4 := Lib.hid (Ow.mk' ho)
        clear ho hz
        clear cz0 cz1 fz0 fz1 ltz co0 co1 fo0 fo1 lto
        have ltz := lt_of_block HKz4.out
        obtain ⟨cz0, cz1, fz0, fz1⟩ := cell2 HKz4.out
        have lto := lt_of_block HKo4.out
        obtain ⟨co0, co1, fo0, fo1⟩ := cell2 HKo4.out
        refine hK.out _ _ (trivial) (fun hHeld => ?_)
        clear hK K
        try simp only [Act.put, List.setIfInBounds_toArray, List.set_cons_zero, List.set_cons_succ]
        refine wpAnyH_ready (rs := [1]) (by kernel_rfl) (by simp) ?_
        refine AllReadyH.cons rfl (fun K hK => ?_) AllReadyH.nil
        go_simp
        have hb : Below w4.heap.size w4 (w4.alloc (.cells (madeCells #[.int .i64 0] n) 3)) := (Below.refl _ _).alloc (Nat.le_refl _) _
        have ho := made_own w4 n (by omega)
        have hz : (w4.alloc (.cells (madeCells #[.int .i64 0] n) 3)).heap.size = w4.heap.size + 1 := by simp
        generalize w4.alloc (.cells (madeCells #[.int .i64 0] n) 3) = w5 at hb ho hz ⊢
        have HB5 : Hid (Below w.heap.size w w5) := Lib.hid (HB4.out.trans (hb.mono HB4.out.size))
        have HZ5 : Hid (w4.heap.size ≤ w5.heap.size) := Lib.hid hb.size
        have HKz5 := Lib.hid ((hb.block _ (lt_of_block HKz4.out)).trans HKz4.out)
        have HKo5 := Lib.hid ((hb.block _ (lt_of_block HKo4.out)).trans HKo4.out)
        have HOc5 := Lib.hid (HOc4.out.next hb)
        clear hb
        replace HZ5 : Hid (w4.heap.size < w5.heap.size) := Lib.hid (by omega)
        have HOa5 := Lib.hid (Ow.mk' ho)
        clear ho hz
        clear cz0 cz1 fz0 fz1 ltz co0 co1 fo0 fo1 lto
        have ltz := lt_of_block HKz5.out
        obtain ⟨cz0, cz1, fz0, fz1⟩ := cell2 HKz5.out
        have lto := lt_of_block HKo5.out
        obtain ⟨co0, co1, fo0, fo1⟩ := cell2 HKo5.out
        refine hK.out _ _ (trivial) (fun hHeld => ?_)
        clear hK K
        try simp only [Act.put, List.setIfInBounds_toArray, List.set_cons_zero, List.set_cons_succ]
        refine take1 (i := 4) (v := ?v8) (some 13) rfl rfl (by kernel_rfl) (by kernel_rfl) (by kernel_rfl) (fun _ _ _ h => h) (Or.inl ⟨by rfl, ?y8⟩) (by assumption) ?r8
        case y8 => (intro w hSw; (try dsimp only at hSw); go_simp; (first | done | with_reducible rfl))
        try simp only [Act.put, List.setIfInBounds_toArray, List.set_cons_zero, List.set_cons_succ]
        refine wpAnyH_ready (rs := [6]) (by kernel_rfl) (by simp) ?_
        refine AllReadyH.cons rfl (fun K hK => ?_) AllReadyH.nil
        go_simp
        have hkb := box2_set HKo5.out (.slice (some ⟨w4.heap.size, 0, none⟩) n n) (.slice (some ⟨w3.heap.size, 0, none⟩) n n)
        have hm : Btw w2.heap.size (w2.heap.size + 1) w5 ((w5.setCell ⟨w2.heap.size, 0, none⟩ (.slice (some ⟨w4.heap.size, 0, none⟩) n n)).setCell ⟨w2.heap.size, 1, none⟩ (.slice (some ⟨w3.heap.size, 0, none⟩) n n)) := ((Btw.refl w2.heap.size (w2.heap.size + 1) w5).setCell (p := ⟨w2.heap.size, 0, none⟩) (Nat.le_refl _) (Nat.lt_succ_self _) _).setCell (p := ⟨w2.heap.size, 1, none⟩) (Nat.le_refl _) (Nat.lt_succ_self _) _
        generalize (w5.setCell ⟨w2.heap.size, 0, none⟩ (.slice (some ⟨w4.heap.size, 0, none⟩) n n)).setCell ⟨w2.heap.size, 1, none⟩ (.slice (some ⟨w3.heap.size, 0, none⟩) n n) = w6 at hkb hm ⊢
        have HZ6 : Hid (w5.heap.size ≤ w6.heap.size) := Lib.hid hm.size
        have HB6 : Hid (Below w.heap.size w w6) := Lib.hid (HB5.out.trans (hm.below.mono (by have := HZ1.out; have := HZ2.out; have := HZ3.out; have := HZ4.out; have := HZ5.out; have := HB0.out.size; omega)))
        have HKz6 := Lib.hid ((hm.block _ (by have := lt_of_block HKz5.out; have := HZ1.out; have := HZ2.out; have := HZ3.out; have := HZ4.out; have := HZ5.out; omega)).trans HKz5.out)
        have HOc6 := Lib.hid (HOc5.out.btw hm (by have := HZ1.out; have := HZ2.out; have := HZ3.out; have := HZ4.out; have := HZ5.out; omega))
        have HOa6 := Lib.hid (HOa5.out.btw hm (by have := HZ1.out; have := HZ2.out; have := HZ3.out; have := HZ4.out; have := HZ5.out; omega))
        clear hm
        have HKo6 := Lib.hid (hkb)
        clear hkb
        clear cz0 cz1 fz0 fz1 ltz co0 co1 fo0 fo1 lto
        have ltz := lt_of_block HKz6.out
        obtain ⟨cz0, cz1, fz0, fz1⟩ := cell2 HKz6.out
        have lto := lt_of_block HKo6.out
        obtain ⟨co0, co1, fo0, fo1⟩ := cell2 HKo6.out
        refine hK.out _ _ (trivial) (fun hHeld => ?_)
        clear hK K
        try simp only [Act.put]
        refine wpAnyH_done (by kernel_rfl) ?_ _
        go_wp2_with fail
        go_meet
        exact ⟨w2.heap.size, w4.heap.size, w3.heap.size, n, n, rfl, HKz6.out, HKo6.out, ⟨HOa6.out.widen (by have := HZ1.out; have := HZ2.out; have := HZ3.out; have := HZ4.out; have := HZ5.out; have := HZ6.out;  omega) (by have := HZ1.out; have := HZ2.out; have := HZ3.out; have := HZ4.out; have := HZ5.out; have := HZ6.out;  omega), HOc6.out.widen (by have := HZ1.out; have := HZ2.out; have := HZ3.out; have := HZ4.out; have := HZ5.out; have := HZ6.out;  omega) (by have := HZ1.out; have := HZ2.out; have := HZ3.out; have := HZ4.out; have := HZ5.out; have := HZ6.out;  omega), fun q hq e => by simp [Value.ownBlock] at hq e; have := HZ1.out; have := HZ2.out; have := HZ3.out; have := HZ4.out; have := HZ5.out; have := HZ6.out;  omega⟩, ⟨by have := HZ1.out; have := HZ2.out; have := HZ3.out; have := HZ4.out; have := HZ5.out; have := HZ6.out;  omega, by have := HZ1.out; have := HZ2.out; have := HZ3.out; have := HZ4.out; have := HZ5.out; have := HZ6.out;  omega⟩, ⟨by have := HZ1.out; have := HZ2.out; have := HZ3.out; have := HZ4.out; have := HZ5.out; have := HZ6.out;  omega, by have := HZ1.out; have := HZ2.out; have := HZ3.out; have := HZ4.out; have := HZ5.out; have := HZ6.out;  omega, by have := HZ1.out; have := HZ2.out; have := HZ3.out; have := HZ4.out; have := HZ5.out; have := HZ6.out;  omega⟩, ⟨by have := HZ1.out; have := HZ2.out; have := HZ3.out; have := HZ4.out; have := HZ5.out; have := HZ6.out;  omega, by have := HZ1.out; have := HZ2.out; have := HZ3.out; have := HZ4.out; have := HZ5.out; have := HZ6.out;  omega, by have := HZ1.out; have := HZ2.out; have := HZ3.out; have := HZ4.out; have := HZ5.out; have := HZ6.out;  omega⟩, HB6.out⟩
  case rest =>
    obtain ⟨b, g1, g2, k1, k2, rfl, hkz, hkb, hov, ⟨hb1, hb2⟩, ⟨hg1, hg2, hg3⟩, ⟨hg4, hg5, hg6⟩, hb⟩ := hcut
    rename World => wc
    have HB := Lib.hid hb
    have HKZ := Lib.hid hkz
    have HKB := Lib.hid hkb
    have HOV := Lib.hid hov
    clear hb hkz hkb hov
    go_wp2_with fail
    go_loopw [15] (fun i wr => ∃ k : Nat, k ≤ n ∧ i = .int .i64 k ∧ OwB w1.heap.size wc.heap.size wr (.slice (some ⟨g1, 0, none⟩) n k1) (.slice (some ⟨g2, 0, none⟩) n k2) (halfK (fun j => ps.getD (2 * j) 0) n k) (halfK (fun j => ps.getD (2 * j + 1) 0) n k) ∧ wr.heap[b]? = some (.cells #[.slice (some ⟨g1, 0, none⟩) n k1, .slice (some ⟨g2, 0, none⟩) n k2] 26 (0, 0)) ∧ wr.heap[w.heap.size]? = some (.cells #[.slice none 0 0, .slice none 0 0] 26 (0, 0)) ∧ Below w.heap.size w wr ∧ wc.heap.size ≤ wr.heap.size) (fun i _ => n - (intOf i).toNat)
    case atStart => exact ⟨0, Nat.zero_le _, rfl, by rw [halfK_zero, halfK_zero]; exact HOV.out, HKB.out, HKZ.out, HB.out, Nat.le_refl _⟩
    case round =>
      obtain ⟨k, hk, rfl, hov, hkb, hkz, hb, hsz⟩ := hrel
      have HSZ := Lib.hid hsz
      by_cases hlt : k < n
      · have z1 : (0 : Int) ≤ (k : Int) := by omega
        have z2 : (k : Int) < (n : Int) := by omega
        obtain ⟨p, hp⟩ : ∃ p, p = 2 * k := ⟨_, rfl⟩
        obtain ⟨q, hq⟩ : ∃ q, q = 2 * k + 1 := ⟨_, rfl⟩
        have hpl : p < ps.length := by have := HP.out; omega
        have hql : q < ps.length := by have := HP.out; omega
        have y1 : (0 : Int) ≤ (p : Int) := by omega
        have y2 : (p : Int) < (ps.length : Int) := by omega
        have y3 : (0 : Int) ≤ (q : Int) := by omega
        have y4 : (q : Int) < (ps.length : Int) := by omega
        have HPp : Hid (p = if true then 2 * k else 2 * k + 1) := Lib.hid hp
        have HPq : Hid (q = if false then 2 * k else 2 * k + 1) := Lib.hid (by rw [if_neg (by simp)]; exact hq)
        obtain ⟨b1, o1, rfl, hl1, _⟩ := A1.out _ hb p hpl
        obtain ⟨x, hx⟩ : ∃ x, ps[p] = x := ⟨_, rfl⟩
        obtain ⟨y, hy⟩ : ∃ y, ps[q] = y := ⟨_, rfl⟩
        have Hep : Hid (∀ w', Below w.heap.size w w' → w'.cell? ⟨b1, o1 + p, none⟩ = some (.int .i64 x)) := Lib.hid (fun w' hb' => by obtain ⟨b', o', e, _, c⟩ := A1.out _ hb' p hpl; cases e; rw [hx] at c; exact c)
        have Heq : Hid (∀ w', Below w.heap.size w w' → w'.cell? ⟨b1, o1 + q, none⟩ = some (.int .i64 y)) := Lib.hid (fun w' hb' => by obtain ⟨b', o', e, _, c⟩ := A1.out _ hb' q hql; cases e; rw [hy] at c; exact c)
        have HX : Hid (x = (fun j => ps.getD (2 * j) 0) k) := Lib.hid (by rw [← hx]; subst hp; exact (getDi_at ps _ hpl).symm)
        have HY : Hid (y = (fun j => ps.getD (2 * j + 1) 0) k) := Lib.hid (by rw [← hy]; subst hq; exact (getDi_at ps _ hql).symm)
        clear hx hy hp hq hsz
        have HB20 : Hid (Below w.heap.size w wr) := Lib.hid hb
        have HKb20 := Lib.hid (hkb)
        have HKz20 := Lib.hid (hkz)
        have HOv20 := Lib.hid (hov)
        clear hkb hkz hov hb
        have hbwr : b < wr.heap.size := by have := HSZ.out; omega
        have d0 := HOv20.out.at1 k (by rw [halfK_len]; exact hlt) rfl
        have f0 := (own_relen' (halfK_len _ _ _).symm HOv20.out.1.1).frozenAt k
        have ltb := lt_of_block HKb20.out
        obtain ⟨cb0, cb1, fb0, fb1⟩ := cell2 HKb20.out
        have ltz := lt_of_block HKz20.out
        obtain ⟨cz0, cz1, fz0, fz1⟩ := cell2 HKz20.out
        go_wp2_with fail
        refine wp_region_held_drew (S := (fun w' => w'.cell? ⟨b, 0, none⟩ = some (.slice (some ⟨g1, 0, none⟩) n k1) ∧ w'.cell? ⟨b, 1, none⟩ = some (.slice (some ⟨g2, 0, none⟩) n k2) ∧ w'.cell? ⟨b1, o1 + p, none⟩ = some (.int .i64 x))) (by kernel_rfl) (⟨cb0, cb1, Hep.out _ HB20.out.drew⟩) (fun hHeld => ?_)
        have hb : Below wr.heap.size wr wr.drew := (Below.refl _ _).drew
        generalize wr.drew = w21 at hb hHeld ⊢
        clear d0 f0
        have HB21 : Hid (Below w.heap.size w w21) := Lib.hid (HB20.out.trans (hb.mono HB20.out.size))
        have HZ21 : Hid (wr.heap.size ≤ w21.heap.size) := Lib.hid hb.size
        have HKb21 := Lib.hid ((hb.block _ (lt_of_block HKb20.out)).trans HKb20.out)
        have HKz21 := Lib.hid ((hb.block _ (lt_of_block HKz20.out)).trans HKz20.out)
        have HOv21 := Lib.hid (HOv20.out.next hb)
        clear hb
        clear cb0 cb1 fb0 fb1 ltb cz0 cz1 fz0 fz1 ltz
        have ltb := lt_of_block HKb21.out
        obtain ⟨cb0, cb1, fb0, fb1⟩ := cell2 HKb21.out
        have ltz := lt_of_block HKz21.out
        obtain ⟨cz0, cz1, fz0, fz1⟩ := cell2 HKz21.out
        have ep := Hep.out _ HB21.out
        have d0 := HOv21.out.at1 k (by rw [halfK_len]; exact hlt) rfl
        have f0 := (own_relen' (halfK_len _ _ _).symm HOv21.out.1.1).frozenAt k
        refine take1 (i := 0) (v := ?v9) (some 18) rfl rfl (by kernel_rfl) (by kernel_rfl) (by kernel_rfl) (fun _ _ _ h => h) (Or.inl ⟨by rfl, ?y9⟩) (by assumption) ?r9
        case y9 => (intro w hSw; (try dsimp only at hSw); go_simp; (first | done | with_reducible rfl))
        try simp only [Act.put, List.setIfInBounds_toArray, List.set_cons_zero, List.set_cons_succ]
        refine take1 (i := 1) (v := ?v10) (some 19) rfl rfl (by kernel_rfl) (by kernel_rfl) (by kernel_rfl) (fun _ _ _ h => h) (Or.inl ⟨by rfl, ?y10⟩) (by assumption) ?r10
        case y10 => (intro w hSw; (try dsimp only at hSw); go_simp; (first | done | with_reducible rfl))
        try simp only [Act.put, List.setIfInBounds_toArray, List.set_cons_zero, List.set_cons_succ]
        refine take1 (i := 2) (v := ?v11) (some 20) rfl rfl (by kernel_rfl) (by kernel_rfl) (by kernel_rfl) (fun _ _ _ h => h) (Or.inl ⟨by rfl, ?y11⟩) (by assumption) ?r11
        case y11 => (intro w hSw; (try dsimp only at hSw); go_simp; (first | done | with_reducible rfl))
        try simp only [Act.put, List.setIfInBounds_toArray, List.set_cons_zero, List.set_cons_succ]
        refine take1 (i := 3) (v := ?v12) (some 21) rfl rfl (by kernel_rfl) (by kernel_rfl) (by kernel_rfl) (fun _ _ _ h => h) (Or.inl ⟨by rfl, ?y12⟩) (by assumption) ?r12
        case y12 => (intro w hSw; (try dsimp only at hSw); go_simp; (first | done | with_reducible rfl))
        try simp only [Act.put, List.setIfInBounds_toArray, List.set_cons_zero, List.set_cons_succ]
        refine take1 (i := 4) (v := ?v13) (some 22) rfl rfl (by kernel_rfl) (by kernel_rfl) (by kernel_rfl) (fun _ _ _ h => h) (Or.inl ⟨by rfl, ?y13⟩) (by assumption) ?r13
        case y13 => (intro w hSw; (try dsimp only at hSw); go_simp; (first | done | with_reducible rfl))
        try simp only [Act.put, List.setIfInBounds_toArray, List.set_cons_zero, List.set_cons_succ]
        refine wpAnyH_ready (rs := [5]) (by kernel_rfl) (by simp) ?_
        refine AllReadyH.cons rfl (fun K hK => ?_) AllReadyH.nil
        go_simp
        go_at_call 42
        refine (placeAt_any true k p _ (by omega) HPp).mono ?_
        rintro e w' ⟨rfl, hw⟩
        subst w'
        try go_simp
        refine hK.out _ _ (⟨cb0, cb1, ep⟩) (fun hHeld => ?_)
        clear hK K
        try simp only [Act.put, List.setIfInBounds_toArray, List.set_cons_zero, List.set_cons_succ]
        refine take1 (i := 6) (v := ?v14) (some 24) rfl rfl (by kernel_rfl) (by kernel_rfl) (by kernel_rfl) (fun _ _ _ h => h) (Or.inl ⟨by rfl, ?y14⟩) (by assumption) ?r14
        case y14 => (intro w hSw; (try dsimp only at hSw); go_simp; (first | done | with_reducible rfl))
        try simp only [Act.put, List.setIfInBounds_toArray, List.set_cons_zero, List.set_cons_succ]
        refine take1 (i := 7) (v := ?v15) (some 25) rfl rfl (by kernel_rfl) (by kernel_rfl) (by kernel_rfl) (fun _ _ _ h => h) (Or.inl ⟨by rfl, ?y15⟩) (by assumption) ?r15
        case y15 => (intro w hSw; (try dsimp only at hSw); go_simp; (first | done | with_reducible rfl))
        try simp only [Act.put, List.setIfInBounds_toArray, List.set_cons_zero, List.set_cons_succ]
        refine take1 (i := 8) (v := ?v16) (some 26) rfl rfl (by kernel_rfl) (by kernel_rfl) (by kernel_rfl) (fun _ _ _ h => h) (Or.inl ⟨by rfl, ?y16⟩) (by assumption) ?r16
        case y16 => (intro w hSw; (try dsimp only at hSw); go_simp; (first | done | with_reducible rfl))
        try simp only [Act.put, List.setIfInBounds_toArray, List.set_cons_zero, List.set_cons_succ]
        refine wpAnyH_ready (rs := [9]) (by kernel_rfl) (by simp) ?_
        refine AllReadyH.cons rfl (fun K hK => ?_) AllReadyH.nil
        go_simp
        have hv := HOv21.out.st1 k x
        have hm : Btw g1 (g1 + 1) w21 (w21.setCell ⟨g1, k, none⟩ (.int .i64 x)) := (Btw.refl g1 (g1 + 1) w21).setCell (p := ⟨g1, k, none⟩) (Nat.le_refl _) (Nat.lt_succ_self _) _
        clear d0 f0 ep
        generalize w21.setCell ⟨g1, k, none⟩ (.int .i64 x) = w22 at hv hm ⊢
        have HZ22 : Hid (w21.heap.size ≤ w22.heap.size) := Lib.hid hm.size
        have HB22 : Hid (Below w.heap.size w w22) := Lib.hid (HB21.out.trans (hm.below.mono (by have := HZ21.out; have := HB20.out.size; omega)))
        have HKb22 := Lib.hid ((hm.block _ (by have := lt_of_block HKb21.out; have := HZ21.out; omega)).trans HKb21.out)
        have HKz22 := Lib.hid ((hm.block _ (by have := lt_of_block HKz21.out; have := HZ21.out; omega)).trans HKz21.out)
        clear hm
        have HOv22 := Lib.hid (hv)
        clear hv
        clear cb0 cb1 fb0 fb1 ltb cz0 cz1 fz0 fz1 ltz
        have ltb := lt_of_block HKb22.out
        obtain ⟨cb0, cb1, fb0, fb1⟩ := cell2 HKb22.out
        have ltz := lt_of_block HKz22.out
        obtain ⟨cz0, cz1, fz0, fz1⟩ := cell2 HKz22.out
        refine hK.out _ _ (⟨cb0, cb1, Hep.out _ HB22.out⟩) (fun hHeld => ?_)
        clear hK K
        try simp only [Act.put]
        refine wpAnyH_done (by kernel_rfl) ?_ _
        have hv := HOv22.out
        rw [HX.out, halfK_set] at hv
        have HOv22 := Lib.hid (hv)
        clear hv
        have d0 := HOv22.out.at2 k (by rw [halfK_len]; exact hlt) rfl
        have f0 := (own_relen' (halfK_len _ _ _).symm HOv22.out.2.1.1).frozenAt k
        clear cb0 cb1 fb0 fb1 ltb cz0 cz1 fz0 fz1 ltz
        have ltb := lt_of_block HKb22.out
        obtain ⟨cb0, cb1, fb0, fb1⟩ := cell2 HKb22.out
        have ltz := lt_of_block HKz22.out
        obtain ⟨cz0, cz1, fz0, fz1⟩ := cell2 HKz22.out
        go_wp2_with fail
        refine wp_region_held_drew (S := (fun w' => w'.cell? ⟨b, 0, none⟩ = some (.slice (some ⟨g1, 0, none⟩) n k1) ∧ w'.cell? ⟨b, 1, none⟩ = some (.slice (some ⟨g2, 0, none⟩) n k2) ∧ w'.cell? ⟨b1, o1 + q, none⟩ = some (.int .i64 y))) (by kernel_rfl) (⟨cb0, cb1, Heq.out _ HB22.out.drew⟩) (fun hHeld => ?_)
        have hb : Below w22.heap.size w22 w22.drew := (Below.refl _ _).drew
        generalize w22.drew = w23 at hb hHeld ⊢
        clear d0 f0
        have HB23 : Hid (Below w.heap.size w w23) := Lib.hid (HB22.out.trans (hb.mono HB22.out.size))
        have HZ23 : Hid (w22.heap.size ≤ w23.heap.size) := Lib.hid hb.size
        have HKb23 := Lib.hid ((hb.block _ (lt_of_block HKb22.out)).trans HKb22.out)
        have HKz23 := Lib.hid ((hb.block _ (lt_of_block HKz22.out)).trans HKz22.out)
        have HOv23 := Lib.hid (HOv22.out.next hb)
        clear hb
        clear cb0 cb1 fb0 fb1 ltb cz0 cz1 fz0 fz1 ltz
        have ltb := lt_of_block HKb23.out
        obtain ⟨cb0, cb1, fb0, fb1⟩ := cell2 HKb23.out
        have ltz := lt_of_block HKz23.out
        obtain ⟨cz0, cz1, fz0, fz1⟩ := cell2 HKz23.out
        have eq := Heq.out _ HB23.out
        have d0 := HOv23.out.at2 k (by rw [halfK_len]; exact hlt) rfl
        have f0 := (own_relen' (halfK_len _ _ _).symm HOv23.out.2.1.1).frozenAt k
        refine take1 (i := 0) (v := ?v17) (some 27) rfl rfl (by kernel_rfl) (by kernel_rfl) (by kernel_rfl) (fun _ _ _ h => h) (Or.inl ⟨by rfl, ?y17⟩) (by assumption) ?r17
        case y17 => (intro w hSw; (try dsimp only at hSw); go_simp; (first | done | with_reducible rfl))
        try simp only [Act.put, List.setIfInBounds_toArray, List.set_cons_zero, List.set_cons_succ]
        refine take1 (i := 1) (v := ?v18) (some 28) rfl rfl (by kernel_rfl) (by kernel_rfl) (by kernel_rfl) (fun _ _ _ h => h) (Or.inl ⟨by rfl, ?y18⟩) (by assumption) ?r18
        case y18 => (intro w hSw; (try dsimp only at hSw); go_simp; (first | done | with_reducible rfl))
        try simp only [Act.put, List.setIfInBounds_toArray, List.set_cons_zero, List.set_cons_succ]
        refine take1 (i := 2) (v := ?v19) (some 29) rfl rfl (by kernel_rfl) (by kernel_rfl) (by kernel_rfl) (fun _ _ _ h => h) (Or.inl ⟨by rfl, ?y19⟩) (by assumption) ?r19
        case y19 => (intro w hSw; (try dsimp only at hSw); go_simp; (first | done | with_reducible rfl))
        try simp only [Act.put, List.setIfInBounds_toArray, List.set_cons_zero, List.set_cons_succ]
        refine take1 (i := 3) (v := ?v20) (some 30) rfl rfl (by kernel_rfl) (by kernel_rfl) (by kernel_rfl) (fun _ _ _ h => h) (Or.inl ⟨by rfl, ?y20⟩) (by assumption) ?r20
        case y20 => (intro w hSw; (try dsimp only at hSw); go_simp; (first | done | with_reducible rfl))
        try simp only [Act.put, List.setIfInBounds_toArray, List.set_cons_zero, List.set_cons_succ]
        refine take1 (i := 4) (v := ?v21) (some 31) rfl rfl (by kernel_rfl) (by kernel_rfl) (by kernel_rfl) (fun _ _ _ h => h) (Or.inl ⟨by rfl, ?y21⟩) (by assumption) ?r21
        case y21 => (intro w hSw; (try dsimp only at hSw); go_simp; (first | done | with_reducible rfl))
        try simp only [Act.put, List.setIfInBounds_toArray, List.set_cons_zero, List.set_cons_succ]
        refine wpAnyH_ready (rs := [5]) (by kernel_rfl) (by simp) ?_
        refine AllReadyH.cons rfl (fun K hK => ?_) AllReadyH.nil
        go_simp
        go_at_call 42
        refine (placeAt_any false k q _ (by omega) HPq).mono ?_
        rintro e w' ⟨rfl, hw⟩
        subst w'
        try go_simp
        refine hK.out _ _ (⟨cb0, cb1, eq⟩) (fun hHeld => ?_)
        clear hK K
        try simp only [Act.put, List.setIfInBounds_toArray, List.set_cons_zero, List.set_cons_succ]
        refine take1 (i := 6) (v := ?v22) (some 33) rfl rfl (by kernel_rfl) (by kernel_rfl) (by kernel_rfl) (fun _ _ _ h => h) (Or.inl ⟨by rfl, ?y22⟩) (by assumption) ?r22
        case y22 => (intro w hSw; (try dsimp only at hSw); go_simp; (first | done | with_reducible rfl))
        try simp only [Act.put, List.setIfInBounds_toArray, List.set_cons_zero, List.set_cons_succ]
        refine take1 (i := 7) (v := ?v23) (some 34) rfl rfl (by kernel_rfl) (by kernel_rfl) (by kernel_rfl) (fun _ _ _ h => h) (Or.inl ⟨by rfl, ?y23⟩) (by assumption) ?r23
        case y23 => (intro w hSw; (try dsimp only at hSw); go_simp; (first | done | with_reducible rfl))
        try simp only [Act.put, List.setIfInBounds_toArray, List.set_cons_zero, List.set_cons_succ]
        refine take1 (i := 8) (v := ?v24) (some 35) rfl rfl (by kernel_rfl) (by kernel_rfl) (by kernel_rfl) (fun _ _ _ h => h) (Or.inl ⟨by rfl, ?y24⟩) (by assumption) ?r24
        case y24 => (intro w hSw; (try dsimp only at hSw); go_simp; (first | done | with_reducible rfl))
        try simp only [Act.put, List.setIfInBounds_toArray, List.set_cons_zero, List.set_cons_succ]
        refine wpAnyH_ready (rs := [9]) (by kernel_rfl) (by simp) ?_
        refine AllReadyH.cons rfl (fun K hK => ?_) AllReadyH.nil
        go_simp
        have hv := HOv23.out.st2 k y
        have hm : Btw g2 (g2 + 1) w23 (w23.setCell ⟨g2, k, none⟩ (.int .i64 y)) := (Btw.refl g2 (g2 + 1) w23).setCell (p := ⟨g2, k, none⟩) (Nat.le_refl _) (Nat.lt_succ_self _) _
        clear d0 f0 eq
        generalize w23.setCell ⟨g2, k, none⟩ (.int .i64 y) = w24 at hv hm ⊢
        have HZ24 : Hid (w23.heap.size ≤ w24.heap.size) := Lib.hid hm.size
        have HB24 : Hid (Below w.heap.size w w24) := Lib.hid (HB23.out.trans (hm.below.mono (by have := HZ21.out; have := HZ22.out; have := HZ23.out; have := HB20.out.size; omega)))
        have HKb24 := Lib.hid ((hm.block _ (by have := lt_of_block HKb23.out; have := HZ21.out; have := HZ22.out; have := HZ23.out; omega)).trans HKb23.out)
        have HKz24 := Lib.hid ((hm.block _ (by have := lt_of_block HKz23.out; have := HZ21.out; have := HZ22.out; have := HZ23.out; omega)).trans HKz23.out)
        clear hm
        have HOv24 := Lib.hid (hv)
        clear hv
        clear cb0 cb1 fb0 fb1 ltb cz0 cz1 fz0 fz1 ltz
        have ltb := lt_of_block HKb24.out
        obtain ⟨cb0, cb1, fb0, fb1⟩ := cell2 HKb24.out
        have ltz := lt_of_block HKz24.out
        obtain ⟨cz0, cz1, fz0, fz1⟩ := cell2 HKz24.out
        refine hK.out _ _ (⟨cb0, cb1, Heq.out _ HB24.out⟩) (fun hHeld => ?_)
        clear hK K
        try simp only [Act.put]
        refine wpAnyH_done (by kernel_rfl) ?_ _
        have hv := HOv24.out
        rw [HY.out, halfK_set] at hv
        have HOv24 := Lib.hid (hv)
        clear hv
        go_wp2_with fail
        go_roundw
        case rel => exact ⟨k + 1, by omega, by go_num, HOv24.out, HKb24.out, HKz24.out, HB24.out, by have := HSZ.out; have := HZ21.out; have := HZ22.out; have := HZ23.out; have := HZ24.out;  omega⟩
        case measure => simp [intOf]; omega
      · obtain rfl : k = n := by omega
        have HB20 : Hid (Below w.heap.size w wr) := Lib.hid hb
        have HKb20 := Lib.hid (hkb)
        have HKz20 := Lib.hid (hkz)
        have HOv20 := Lib.hid (hov)
        clear hkb hkz hov hb hsz
        have hE1 : halfK (fun j => ps.getD (2 * j) 0) k k = evs ps := by rw [halfK_end]; unfold evs; rw [show ps.length / 2 = k by have := HP.out; omega]
        have hE2 : halfK (fun j => ps.getD (2 * j + 1) 0) k k = ods ps := by rw [halfK_end]; unfold ods; rw [show ps.length / 2 = k by have := HP.out; omega]
        have hv := HOv20.out
        rw [hE1, hE2] at hv
        have HOv20 := Lib.hid (hv)
        clear hv hE1 hE2
        have ltb := lt_of_block HKb20.out
        obtain ⟨cb0, cb1, fb0, fb1⟩ := cell2 HKb20.out
        have ltz := lt_of_block HKz20.out
        obtain ⟨cz0, cz1, fz0, fz1⟩ := cell2 HKz20.out
        go_wp2_with fail
        exact bodyPost_ret (v := .agg #[.slice (some ⟨g1, 0, none⟩) k k1, .slice (some ⟨g2, 0, none⟩) k k2]) (by simp [results, Tryd.results34, go_sem, cz0, cz1]) rfl ⟨⟨_, _, rfl, ((HOv20.out.set (a := ⟨w.heap.size, 0, none⟩) hw1 _).set (a := ⟨w.heap.size, 1, none⟩) hw1 _).mono (by omega) (by have := HSZ.out; simp [World.setCell]; omega)⟩, (HB20.out.setCell (p := ⟨w.heap.size, 0, none⟩) (Nat.le_refl _) _).setCell (p := ⟨w.heap.size, 1, none⟩) (Nat.le_refl _) _⟩
end Go.Proofs.YtbdddpchlmddbaaDoor
