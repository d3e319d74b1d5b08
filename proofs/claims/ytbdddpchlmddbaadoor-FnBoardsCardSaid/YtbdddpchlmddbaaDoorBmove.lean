/- The model's carries and borrows. -/
import Derived.Test.YtbdddpchlmddbaaDoorBown
import Derived.StillTailTactics
namespace Go.Proofs.YtbdddpchlmddbaaDoor
set_option linter.unusedVariables false
open Go.RowKit

theorem flat_iat (ls : List Int) (k : Nat) (hk : k < ls.length) : (flatC inC ls)[k]? = some (.int .i64 ls[k]) := by
  have := flatC_at inC_len ls k hk 0 (by omega)
  rw [Nat.mul_one, Nat.add_zero] at this
  exact this
theorem flat_iset (ls : List Int) (k : Nat) (x : Int) : (flatC inC ls).set k (.int .i64 x) = flatC inC (ls.set k x) := by
  rw [flat_int, flat_int, List.map_set]
theorem own_n {w : World} {B : Nat} {e : TypeId} {size g m c n : Nat} {xs : List Value} (h : w.ownsRow B e size (.slice (some ⟨g, 0, none⟩) m c) n xs) : m = n := by
  rcases h.2 with ⟨h1, _⟩ | ⟨g', c', _, h1, _⟩
  · injection h1 with h2; cases h2
  · injection h1
theorem OwB.at1 {lo hi g n c : Nat} {w : World} {v2 : Value} {ls ss : List Int} (h : OwB lo hi w (.slice (some ⟨g, 0, none⟩) n c) v2 ls ss) (k : Nat) (hk : k < ls.length) {x : Int} (hx : ls[k] = x) : w.cell? ⟨g, k, none⟩ = some (.int .i64 x) := by
  have hn := own_n h.1.1
  subst hn
  rw [← hx, ← flat_iat ls k hk]; exact h.1.1.cellAt k (show k < ls.length * 1 by omega)
theorem OwB.at2 {lo hi g n c : Nat} {w : World} {v1 : Value} {ls ss : List Int} (h : OwB lo hi w v1 (.slice (some ⟨g, 0, none⟩) n c) ls ss) (k : Nat) (hk : k < ss.length) {x : Int} (hx : ss[k] = x) : w.cell? ⟨g, k, none⟩ = some (.int .i64 x) := by
  have hn := own_n h.2.1.1
  subst hn
  rw [← hx, ← flat_iat ss k hk]; exact h.2.1.1.cellAt k (show k < ss.length * 1 by omega)
theorem OwB.st1 {lo hi g n c : Nat} {w : World} {v2 : Value} {ls ss : List Int} (h : OwB lo hi w (.slice (some ⟨g, 0, none⟩) n c) v2 ls ss) (k : Nat) (x : Int) : OwB lo hi (w.setCell ⟨g, k, none⟩ (.int .i64 x)) (.slice (some ⟨g, 0, none⟩) n c) v2 (ls.set k x) ss := by
  have hm : Btw g (g + 1) w (w.setCell ⟨g, k, none⟩ (.int .i64 x)) := (Btw.refl g (g + 1) w).setCell (p := ⟨g, k, none⟩) (Nat.le_refl _) (Nat.lt_succ_self _) _
  have hn := own_n h.1.1
  subst hn
  refine ⟨?_, h.2.1.off hm (fun g' hg' => by have := h.2.2 g rfl; have : g' ≠ g := (by intro e; subst e; exact this hg'); omega), h.2.2⟩
  have := h.1.stored k (.int .i64 x)
  rw [flat_iset] at this
  rw [List.length_set]; exact this
theorem OwB.st2 {lo hi g n c : Nat} {w : World} {v1 : Value} {ls ss : List Int} (h : OwB lo hi w v1 (.slice (some ⟨g, 0, none⟩) n c) ls ss) (k : Nat) (x : Int) : OwB lo hi (w.setCell ⟨g, k, none⟩ (.int .i64 x)) v1 (.slice (some ⟨g, 0, none⟩) n c) ls (ss.set k x) := by
  have hm : Btw g (g + 1) w (w.setCell ⟨g, k, none⟩ (.int .i64 x)) := (Btw.refl g (g + 1) w).setCell (p := ⟨g, k, none⟩) (Nat.le_refl _) (Nat.lt_succ_self _) _
  have hn := own_n h.2.1.1
  subst hn
  refine ⟨h.1.off hm (fun g' hg' => by have h1 := h.2.2 g' hg'; have : g' ≠ g := (by intro e; subst e; exact h1 rfl); omega), ?_, h.2.2⟩
  have := h.2.1.stored k (.int .i64 x)
  rw [flat_iset] at this
  rw [List.length_set]; exact this
theorem OwB.some' {lo hi : Nat} {w : World} {v1 v2 : Value} {ls ss : List Int} (h : OwB lo hi w v1 v2 ls ss) (h1 : 0 < ls.length) (h2 : 0 < ss.length) :
    ∃ g1 c1 g2 c2, v1 = .slice (some ⟨g1, 0, none⟩) ls.length c1 ∧ v2 = .slice (some ⟨g2, 0, none⟩) ss.length c2 ∧ (lo ≤ g1 ∧ g1 < hi ∧ g1 < w.heap.size) ∧ (lo ≤ g2 ∧ g2 < hi ∧ g2 < w.heap.size) := by
  obtain ⟨g1, c1, rfl⟩ := own_some h.1.1 h1
  obtain ⟨g2, c2, rfl⟩ := own_some h.2.1.1 h2
  exact ⟨g1, c1, g2, c2, rfl, rfl, ⟨(h.1.1.lt g1 rfl).1, h.1.2 g1 rfl, (h.1.1.lt g1 rfl).2⟩, (h.2.1.1.lt g2 rfl).1, h.2.1.2 g2 rfl, (h.2.1.1.lt g2 rfl).2⟩

set_option maxRecDepth 100000 in
set_option maxHeartbeats 3200000 in
theorem l5Move_line (v1 v2 : Value) (ls ss : List Int) (w : World) (h : BrdR w v1 v2 ls ss) (hn1 : ls.length ≤ 6) (hn2 : ss.length ≤ 6) (k : Nat) (t x y : Int) (hk : k < ls.length) (hk2 : k < ss.length) (hx : ls[k] = x) (hy : ss[k] = y) (bt : -100000 ≤ t ∧ t ≤ 100000) (bx : -100000 ≤ x ∧ x ≤ 100000) (by' : -100000 ≤ y ∧ y ≤ 100000) :
    Calls Tryd.prog 28 #[.agg #[v1, v2], .bool true, .int .i64 k, .int .i64 t] w fun e w' => (∃ s1 s2, e = .returned (.agg #[s1, s2]) ∧ OwB w.heap.size w'.heap.size w' s1 s2 (ls.set k (x - 5 * t)) (ss.set k (y + t))) ∧ Below w.heap.size w w' := by
  obtain ⟨a1, c1, a2, c2, rfl, rfl⟩ := h.form
  have z1 : (0 : Int) ≤ (k : Int) := by omega
  have z2 : (k : Int) < (ls.length : Int) := by omega
  have z3 : (k : Int) < (ss.length : Int) := by omega
  have wa' : IntKind.i64.wrap (5 * t) = 5 * t := by rw [IntKind.wrap_i64]; omega
  have wb' : IntKind.i64.wrap (x - 5 * t) = x - 5 * t := by rw [IntKind.wrap_i64]; omega
  have wc' : IntKind.i64.wrap (y + t) = y + t := by rw [IntKind.wrap_i64]; omega

  have HX := Lib.hid hx
  have HY := Lib.hid hy
  have HB0 : Hid (Below w.heap.size w w) := Lib.hid (Below.refl _ _)
  have HRf0 := Lib.hid (h)
  clear h hx hy
  go_enter Tryd.func28, Tryd.ntmps28
  go_wp2_with fail
  have hb : Below w.heap.size w (w.alloc (.cells #[.slice a1 ls.length c1, .slice a2 ss.length c2] 26)) := (Below.refl _ _).alloc (Nat.le_refl _) _
  have hk : (w.alloc (.cells #[.slice a1 ls.length c1, .slice a2 ss.length c2] 26)).heap[w.heap.size]? = some (.cells #[.slice a1 ls.length c1, .slice a2 ss.length c2] 26 (0, 0)) := alloc_at rfl
  have hz : (w.alloc (.cells #[.slice a1 ls.length c1, .slice a2 ss.length c2] 26)).heap.size = w.heap.size + 1 := by simp
  generalize w.alloc (.cells #[.slice a1 ls.length c1, .slice a2 ss.length c2] 26) = w1 at hb hk hz ⊢
  have HB1 : Hid (Below w.heap.size w w1) := Lib.hid (HB0.out.trans (hb.mono HB0.out.size))
  have HZ1 : Hid (w.heap.size ≤ w1.heap.size) := Lib.hid hb.size
  have HRf1 := Lib.hid (HRf0.out.below HB1.out (Nat.le_refl _))
  have HKb1 := Lib.hid hk
  replace HZ1 : Hid (w.heap.size < w1.heap.size) := Lib.hid (by omega)
  have HE1 := Lib.hid hz
  clear hb hk hz
  have hb : Below w1.heap.size w1 (w1.alloc (.cells #[.slice none 0 0, .slice none 0 0] 26)) := (Below.refl _ _).alloc (Nat.le_refl _) _
  have hk : (w1.alloc (.cells #[.slice none 0 0, .slice none 0 0] 26)).heap[w.heap.size + 1]? = some (.cells #[.slice none 0 0, .slice none 0 0] 26 (0, 0)) := alloc_at (by have := HE1.out; omega)
  have hz : (w1.alloc (.cells #[.slice none 0 0, .slice none 0 0] 26)).heap.size = w1.heap.size + 1 := by simp
  generalize w1.alloc (.cells #[.slice none 0 0, .slice none 0 0] 26) = w2 at hb hk hz ⊢
  have HB2 : Hid (Below w.heap.size w w2) := Lib.hid (HB1.out.trans (hb.mono HB1.out.size))
  have HZ2 : Hid (w1.heap.size ≤ w2.heap.size) := Lib.hid hb.size
  have HRf2 := Lib.hid (HRf0.out.below HB2.out (Nat.le_refl _))
  have HKb2 := Lib.hid ((hb.block _ (lt_of_block HKb1.out)).trans HKb1.out)
  have HKz2 := Lib.hid hk
  replace HZ2 : Hid (w1.heap.size < w2.heap.size) := Lib.hid (by omega)
  have HE2 := Lib.hid hz
  clear hb hk hz
  have ltb := lt_of_block HKb2.out
  obtain ⟨cb0, cb1, fb0, fb1⟩ := cell2 HKb2.out
  have ltz := lt_of_block HKz2.out
  obtain ⟨cz0, cz1, fz0, fz1⟩ := cell2 HKz2.out
  go_wp2_with fail
  have hlz : w.heap.size + 1 < w2.heap.size := ltz
  refine (l5Own_any _ _ ls ss _ HRf2.out (by omega) (by omega)).mono ?_
  rintro e w3 ⟨⟨s1, s2, rfl, ho⟩, hb⟩
  have HB3 : Hid (Below w.heap.size w w3) := Lib.hid (HB2.out.trans (hb.mono HB2.out.size))
  have HZ3 : Hid (w2.heap.size ≤ w3.heap.size) := Lib.hid hb.size
  have HRf3 := Lib.hid (HRf0.out.below HB3.out (Nat.le_refl _))
  have HKb3 := Lib.hid ((hb.block _ (lt_of_block HKb2.out)).trans HKb2.out)
  have HKz3 := Lib.hid ((hb.block _ (lt_of_block HKz2.out)).trans HKz2.out)
  clear hb
  obtain ⟨g1, k1, g2, k2, rfl, rfl, ⟨hg1a, hg1b, _⟩, hg2a, hg2b, _⟩ := ho.some' (by omega) (by omega)
  have HOv3 := Lib.hid (ho)
  clear ho
  clear cb0 cb1 fb0 fb1 ltb cz0 cz1 fz0 fz1 ltz
  have ltb := lt_of_block HKb3.out
  obtain ⟨cb0, cb1, fb0, fb1⟩ := cell2 HKb3.out
  have ltz := lt_of_block HKz3.out
  obtain ⟨cz0, cz1, fz0, fz1⟩ := cell2 HKz3.out
  go_wp2_with fail
  have hb : Below w3.heap.size w3 (w3.alloc (.cells #[.slice (some ⟨g1, 0, none⟩) ls.length k1, .slice (some ⟨g2, 0, none⟩) ss.length k2] 26)) := (Below.refl _ _).alloc (Nat.le_refl _) _
  have hk : (w3.alloc (.cells #[.slice (some ⟨g1, 0, none⟩) ls.length k1, .slice (some ⟨g2, 0, none⟩) ss.length k2] 26)).heap[w3.heap.size]? = some (.cells #[.slice (some ⟨g1, 0, none⟩) ls.length k1, .slice (some ⟨g2, 0, none⟩) ss.length k2] 26 (0, 0)) := alloc_at rfl
  have hz : (w3.alloc (.cells #[.slice (some ⟨g1, 0, none⟩) ls.length k1, .slice (some ⟨g2, 0, none⟩) ss.length k2] 26)).heap.size = w3.heap.size + 1 := by simp
  generalize w3.alloc (.cells #[.slice (some ⟨g1, 0, none⟩) ls.length k1, .slice (some ⟨g2, 0, none⟩) ss.length k2] 26) = w4 at hb hk hz ⊢
  have HB4 : Hid (Below w.heap.size w w4) := Lib.hid (HB3.out.trans (hb.mono HB3.out.size))
  have HZ4 : Hid (w3.heap.size ≤ w4.heap.size) := Lib.hid hb.size
  have HRf4 := Lib.hid (HRf0.out.below HB4.out (Nat.le_refl _))
  have HKb4 := Lib.hid ((hb.block _ (lt_of_block HKb3.out)).trans HKb3.out)
  have HKz4 := Lib.hid ((hb.block _ (lt_of_block HKz3.out)).trans HKz3.out)
  have HOv4 := Lib.hid (HOv3.out.next hb)
  have HKo4 := Lib.hid hk
  replace HZ4 : Hid (w3.heap.size < w4.heap.size) := Lib.hid (by omega)
  have HE4 := Lib.hid hz
  clear hb hk hz
  have hloB := lt_of_block HKo4.out
  have hd : w4.cell? ⟨g1, k, none⟩ = some (.int .i64 x) := HOv4.out.at1 (k) hk HX.out
  clear cb0 cb1 fb0 fb1 ltb cz0 cz1 fz0 fz1 ltz
  have ltb := lt_of_block HKb4.out
  obtain ⟨cb0, cb1, fb0, fb1⟩ := cell2 HKb4.out
  have ltz := lt_of_block HKz4.out
  obtain ⟨cz0, cz1, fz0, fz1⟩ := cell2 HKz4.out
  have lto := lt_of_block HKo4.out
  obtain ⟨co0, co1, fo0, fo1⟩ := cell2 HKo4.out
  go_wp2_with fail
  go_still_tail 12, (by kernel_rfl)
  change wpList _ _ _ _ _ w4.drew
  have hb : Below w4.heap.size w4 w4.drew := (Below.refl _ _).drew
  generalize w4.drew = w5 at hb ⊢
  clear hd
  have HB5 : Hid (Below w.heap.size w w5) := Lib.hid (HB4.out.trans (hb.mono HB4.out.size))
  have HZ5 : Hid (w4.heap.size ≤ w5.heap.size) := Lib.hid hb.size
  have HRf5 := Lib.hid (HRf0.out.below HB5.out (Nat.le_refl _))
  have HKb5 := Lib.hid ((hb.block _ (lt_of_block HKb4.out)).trans HKb4.out)
  have HKz5 := Lib.hid ((hb.block _ (lt_of_block HKz4.out)).trans HKz4.out)
  have HOv5 := Lib.hid (HOv4.out.next hb)
  have HKo5 := Lib.hid ((hb.block _ (lt_of_block HKo4.out)).trans HKo4.out)
  clear hb
  have hd : w5.cell? ⟨g1, k, none⟩ = some (.int .i64 x) := HOv5.out.at1 (k) hk HX.out
  have hfr := HOv5.out.1.1.frozenAt (k)
  have hv := HOv5.out.st1 (k) (x - 5 * t)
  have hm : Btw w2.heap.size w3.heap.size w5 (w5.setCell ⟨g1, k, none⟩ (.int .i64 (x - 5 * t))) := (Btw.refl w2.heap.size w3.heap.size w5).setCell (p := ⟨g1, k, none⟩) hg1a hg1b _
  clear cb0 cb1 fb0 fb1 ltb cz0 cz1 fz0 fz1 ltz co0 co1 fo0 fo1 lto
  have ltb := lt_of_block HKb5.out
  obtain ⟨cb0, cb1, fb0, fb1⟩ := cell2 HKb5.out
  have ltz := lt_of_block HKz5.out
  obtain ⟨cz0, cz1, fz0, fz1⟩ := cell2 HKz5.out
  have lto := lt_of_block HKo5.out
  obtain ⟨co0, co1, fo0, fo1⟩ := cell2 HKo5.out
  go_wp2_with fail
  clear hd hfr
  generalize w5.setCell ⟨g1, k, none⟩ (.int .i64 (x - 5 * t)) = w6 at hm hv ⊢
  have HZ6 : Hid (w5.heap.size ≤ w6.heap.size) := Lib.hid hm.size
  have HB6 : Hid (Below w.heap.size w w6) := Lib.hid (HB5.out.trans (hm.below.mono (by have := HZ1.out; have := HZ2.out; have := HZ3.out; have := HZ4.out; have := HZ5.out; have := HB0.out.size; omega)))
  have HRf6 := Lib.hid (HRf0.out.below HB6.out (Nat.le_refl _))
  have HKb6 := Lib.hid ((hm.block _ (by have := lt_of_block HKb5.out; have := HZ1.out; have := HZ2.out; have := HZ3.out; have := HZ4.out; have := HZ5.out; omega)).trans HKb5.out)
  have HKz6 := Lib.hid ((hm.block _ (by have := lt_of_block HKz5.out; have := HZ1.out; have := HZ2.out; have := HZ3.out; have := HZ4.out; have := HZ5.out; omega)).trans HKz5.out)
  have HKo6 := Lib.hid ((hm.block _ (by have := lt_of_block HKo5.out; have := HZ1.out; have := HZ2.out; have := HZ3.out; have := HZ4.out; have := HZ5.out; omega)).trans HKo5.out)
  clear hm
  have HOv6 := Lib.hid (hv)
  clear hv
  have hd : w6.cell? ⟨g2, k, none⟩ = some (.int .i64 y) := HOv6.out.at2 (k) hk2 HY.out
  clear cb0 cb1 fb0 fb1 ltb cz0 cz1 fz0 fz1 ltz co0 co1 fo0 fo1 lto
  have ltb := lt_of_block HKb6.out
  obtain ⟨cb0, cb1, fb0, fb1⟩ := cell2 HKb6.out
  have ltz := lt_of_block HKz6.out
  obtain ⟨cz0, cz1, fz0, fz1⟩ := cell2 HKz6.out
  have lto := lt_of_block HKo6.out
  obtain ⟨co0, co1, fo0, fo1⟩ := cell2 HKo6.out
  go_wp2_with fail
  go_still_tail 11, (by kernel_rfl)
  change wpList _ _ _ _ _ w6.drew
  have hb : Below w6.heap.size w6 w6.drew := (Below.refl _ _).drew
  generalize w6.drew = w7 at hb ⊢
  clear hd
  have HB7 : Hid (Below w.heap.size w w7) := Lib.hid (HB6.out.trans (hb.mono HB6.out.size))
  have HZ7 : Hid (w6.heap.size ≤ w7.heap.size) := Lib.hid hb.size
  have HRf7 := Lib.hid (HRf0.out.below HB7.out (Nat.le_refl _))
  have HKb7 := Lib.hid ((hb.block _ (lt_of_block HKb6.out)).trans HKb6.out)
  have HKz7 := Lib.hid ((hb.block _ (lt_of_block HKz6.out)).trans HKz6.out)
  have HOv7 := Lib.hid (HOv6.out.next hb)
  have HKo7 := Lib.hid ((hb.block _ (lt_of_block HKo6.out)).trans HKo6.out)
  clear hb
  have hd : w7.cell? ⟨g2, k, none⟩ = some (.int .i64 y) := HOv7.out.at2 (k) hk2 HY.out
  have hfr := HOv7.out.2.1.1.frozenAt (k)
  have hv := HOv7.out.st2 (k) (y + t)
  have hm : Btw w2.heap.size w3.heap.size w7 (w7.setCell ⟨g2, k, none⟩ (.int .i64 (y + t))) := (Btw.refl w2.heap.size w3.heap.size w7).setCell (p := ⟨g2, k, none⟩) hg2a hg2b _
  clear cb0 cb1 fb0 fb1 ltb cz0 cz1 fz0 fz1 ltz co0 co1 fo0 fo1 lto
  have ltb := lt_of_block HKb7.out
  obtain ⟨cb0, cb1, fb0, fb1⟩ := cell2 HKb7.out
  have ltz := lt_of_block HKz7.out
  obtain ⟨cz0, cz1, fz0, fz1⟩ := cell2 HKz7.out
  have lto := lt_of_block HKo7.out
  obtain ⟨co0, co1, fo0, fo1⟩ := cell2 HKo7.out
  go_wp2_with fail
  clear hd hfr
  generalize w7.setCell ⟨g2, k, none⟩ (.int .i64 (y + t)) = w8 at hm hv ⊢
  have HZ8 : Hid (w7.heap.size ≤ w8.heap.size) := Lib.hid hm.size
  have HB8 : Hid (Below w.heap.size w w8) := Lib.hid (HB7.out.trans (hm.below.mono (by have := HZ1.out; have := HZ2.out; have := HZ3.out; have := HZ4.out; have := HZ5.out; have := HZ6.out; have := HZ7.out; have := HB0.out.size; omega)))
  have HRf8 := Lib.hid (HRf0.out.below HB8.out (Nat.le_refl _))
  have HKb8 := Lib.hid ((hm.block _ (by have := lt_of_block HKb7.out; have := HZ1.out; have := HZ2.out; have := HZ3.out; have := HZ4.out; have := HZ5.out; have := HZ6.out; have := HZ7.out; omega)).trans HKb7.out)
  have HKz8 := Lib.hid ((hm.block _ (by have := lt_of_block HKz7.out; have := HZ1.out; have := HZ2.out; have := HZ3.out; have := HZ4.out; have := HZ5.out; have := HZ6.out; have := HZ7.out; omega)).trans HKz7.out)
  have HKo8 := Lib.hid ((hm.block _ (by have := lt_of_block HKo7.out; have := HZ1.out; have := HZ2.out; have := HZ3.out; have := HZ4.out; have := HZ5.out; have := HZ6.out; have := HZ7.out; omega)).trans HKo7.out)
  clear hm
  have HOv8 := Lib.hid (hv)
  clear hv
  clear cb0 cb1 fb0 fb1 ltb cz0 cz1 fz0 fz1 ltz co0 co1 fo0 fo1 lto
  have ltb := lt_of_block HKb8.out
  obtain ⟨cb0, cb1, fb0, fb1⟩ := cell2 HKb8.out
  have ltz := lt_of_block HKz8.out
  obtain ⟨cz0, cz1, fz0, fz1⟩ := cell2 HKz8.out
  have lto := lt_of_block HKo8.out
  obtain ⟨co0, co1, fo0, fo1⟩ := cell2 HKo8.out
  go_wp2_with fail
  exact bodyPost_ret (v := .agg #[.slice (some ⟨g1, 0, none⟩) ls.length k1, .slice (some ⟨g2, 0, none⟩) ss.length k2]) (by simp [results, Tryd.results28, go_sem, cz0, cz1]) rfl ⟨⟨_, _, rfl, ((HOv8.out.set (a := ⟨w.heap.size + 1, 0, none⟩) hlz _).set (a := ⟨w.heap.size + 1, 1, none⟩) hlz _).mono (by omega) (by simp; have := HZ1.out; have := HZ2.out; have := HZ3.out; have := HZ4.out; have := HZ5.out; have := HZ6.out; have := HZ7.out; have := HZ8.out;  omega)⟩, (HB8.out.setCell (p := ⟨w.heap.size + 1, 0, none⟩) (Nat.le_succ _) _).setCell (p := ⟨w.heap.size + 1, 1, none⟩) (Nat.le_succ _) _⟩

set_option maxRecDepth 100000 in
set_option maxHeartbeats 3200000 in
theorem l5Move_space (v1 v2 : Value) (ls ss : List Int) (w : World) (h : BrdR w v1 v2 ls ss) (hn1 : ls.length ≤ 6) (hn2 : ss.length ≤ 6) (k : Nat) (t x y : Int) (hk : k < ss.length) (hk2 : k + 1 < ls.length) (hx : ss[k] = x) (hy : ls[k + 1] = y) (bt : -100000 ≤ t ∧ t ≤ 100000) (bx : -100000 ≤ x ∧ x ≤ 100000) (by' : -100000 ≤ y ∧ y ≤ 100000) :
    Calls Tryd.prog 28 #[.agg #[v1, v2], .bool false, .int .i64 k, .int .i64 t] w fun e w' => (∃ s1 s2, e = .returned (.agg #[s1, s2]) ∧ OwB w.heap.size w'.heap.size w' s1 s2 (ls.set (k + 1) (y + t)) (ss.set k (x - 2 * t))) ∧ Below w.heap.size w w' := by
  obtain ⟨a1, c1, a2, c2, rfl, rfl⟩ := h.form
  have z1 : (0 : Int) ≤ (k : Int) := by omega
  have z2 : (k : Int) < (ss.length : Int) := by omega
  have z0 : (0 : Int) ≤ (k : Int) + 1 := by omega
  have z3 : (k : Int) + 1 < (ls.length : Int) := by omega
  have wd' : IntKind.i64.wrap ((k : Int) + 1) = (k : Int) + 1 := by rw [IntKind.wrap_i64]; omega
  have wa' : IntKind.i64.wrap (2 * t) = 2 * t := by rw [IntKind.wrap_i64]; omega
  have wb' : IntKind.i64.wrap (x - 2 * t) = x - 2 * t := by rw [IntKind.wrap_i64]; omega
  have wc' : IntKind.i64.wrap (y + t) = y + t := by rw [IntKind.wrap_i64]; omega

  have HX := Lib.hid hx
  have HY := Lib.hid hy
  have HB0 : Hid (Below w.heap.size w w) := Lib.hid (Below.refl _ _)
  have HRf0 := Lib.hid (h)
  clear h hx hy
  go_enter Tryd.func28, Tryd.ntmps28
  go_wp2_with fail
  have hb : Below w.heap.size w (w.alloc (.cells #[.slice a1 ls.length c1, .slice a2 ss.length c2] 26)) := (Below.refl _ _).alloc (Nat.le_refl _) _
  have hk : (w.alloc (.cells #[.slice a1 ls.length c1, .slice a2 ss.length c2] 26)).heap[w.heap.size]? = some (.cells #[.slice a1 ls.length c1, .slice a2 ss.length c2] 26 (0, 0)) := alloc_at rfl
  have hz : (w.alloc (.cells #[.slice a1 ls.length c1, .slice a2 ss.length c2] 26)).heap.size = w.heap.size + 1 := by simp
  generalize w.alloc (.cells #[.slice a1 ls.length c1, .slice a2 ss.length c2] 26) = w1 at hb hk hz ⊢
  have HB1 : Hid (Below w.heap.size w w1) := Lib.hid (HB0.out.trans (hb.mono HB0.out.size))
  have HZ1 : Hid (w.heap.size ≤ w1.heap.size) := Lib.hid hb.size
  have HRf1 := Lib.hid (HRf0.out.below HB1.out (Nat.le_refl _))
  have HKb1 := Lib.hid hk
  replace HZ1 : Hid (w.heap.size < w1.heap.size) := Lib.hid (by omega)
  have HE1 := Lib.hid hz
  clear hb hk hz
  have hb : Below w1.heap.size w1 (w1.alloc (.cells #[.slice none 0 0, .slice none 0 0] 26)) := (Below.refl _ _).alloc (Nat.le_refl _) _
  have hk : (w1.alloc (.cells #[.slice none 0 0, .slice none 0 0] 26)).heap[w.heap.size + 1]? = some (.cells #[.slice none 0 0, .slice none 0 0] 26 (0, 0)) := alloc_at (by have := HE1.out; omega)
  have hz : (w1.alloc (.cells #[.slice none 0 0, .slice none 0 0] 26)).heap.size = w1.heap.size + 1 := by simp
  generalize w1.alloc (.cells #[.slice none 0 0, .slice none 0 0] 26) = w2 at hb hk hz ⊢
  have HB2 : Hid (Below w.heap.size w w2) := Lib.hid (HB1.out.trans (hb.mono HB1.out.size))
  have HZ2 : Hid (w1.heap.size ≤ w2.heap.size) := Lib.hid hb.size
  have HRf2 := Lib.hid (HRf0.out.below HB2.out (Nat.le_refl _))
  have HKb2 := Lib.hid ((hb.block _ (lt_of_block HKb1.out)).trans HKb1.out)
  have HKz2 := Lib.hid hk
  replace HZ2 : Hid (w1.heap.size < w2.heap.size) := Lib.hid (by omega)
  have HE2 := Lib.hid hz
  clear hb hk hz
  have ltb := lt_of_block HKb2.out
  obtain ⟨cb0, cb1, fb0, fb1⟩ := cell2 HKb2.out
  have ltz := lt_of_block HKz2.out
  obtain ⟨cz0, cz1, fz0, fz1⟩ := cell2 HKz2.out
  go_wp2_with fail
  have hlz : w.heap.size + 1 < w2.heap.size := ltz
  refine (l5Own_any _ _ ls ss _ HRf2.out (by omega) (by omega)).mono ?_
  rintro e w3 ⟨⟨s1, s2, rfl, ho⟩, hb⟩
  have HB3 : Hid (Below w.heap.size w w3) := Lib.hid (HB2.out.trans (hb.mono HB2.out.size))
  have HZ3 : Hid (w2.heap.size ≤ w3.heap.size) := Lib.hid hb.size
  have HRf3 := Lib.hid (HRf0.out.below HB3.out (Nat.le_refl _))
  have HKb3 := Lib.hid ((hb.block _ (lt_of_block HKb2.out)).trans HKb2.out)
  have HKz3 := Lib.hid ((hb.block _ (lt_of_block HKz2.out)).trans HKz2.out)
  clear hb
  obtain ⟨g1, k1, g2, k2, rfl, rfl, ⟨hg1a, hg1b, _⟩, hg2a, hg2b, _⟩ := ho.some' (by omega) (by omega)
  have HOv3 := Lib.hid (ho)
  clear ho
  clear cb0 cb1 fb0 fb1 ltb cz0 cz1 fz0 fz1 ltz
  have ltb := lt_of_block HKb3.out
  obtain ⟨cb0, cb1, fb0, fb1⟩ := cell2 HKb3.out
  have ltz := lt_of_block HKz3.out
  obtain ⟨cz0, cz1, fz0, fz1⟩ := cell2 HKz3.out
  go_wp2_with fail
  have hb : Below w3.heap.size w3 (w3.alloc (.cells #[.slice (some ⟨g1, 0, none⟩) ls.length k1, .slice (some ⟨g2, 0, none⟩) ss.length k2] 26)) := (Below.refl _ _).alloc (Nat.le_refl _) _
  have hk : (w3.alloc (.cells #[.slice (some ⟨g1, 0, none⟩) ls.length k1, .slice (some ⟨g2, 0, none⟩) ss.length k2] 26)).heap[w3.heap.size]? = some (.cells #[.slice (some ⟨g1, 0, none⟩) ls.length k1, .slice (some ⟨g2, 0, none⟩) ss.length k2] 26 (0, 0)) := alloc_at rfl
  have hz : (w3.alloc (.cells #[.slice (some ⟨g1, 0, none⟩) ls.length k1, .slice (some ⟨g2, 0, none⟩) ss.length k2] 26)).heap.size = w3.heap.size + 1 := by simp
  generalize w3.alloc (.cells #[.slice (some ⟨g1, 0, none⟩) ls.length k1, .slice (some ⟨g2, 0, none⟩) ss.length k2] 26) = w4 at hb hk hz ⊢
  have HB4 : Hid (Below w.heap.size w w4) := Lib.hid (HB3.out.trans (hb.mono HB3.out.size))
  have HZ4 : Hid (w3.heap.size ≤ w4.heap.size) := Lib.hid hb.size
  have HRf4 := Lib.hid (HRf0.out.below HB4.out (Nat.le_refl _))
  have HKb4 := Lib.hid ((hb.block _ (lt_of_block HKb3.out)).trans HKb3.out)
  have HKz4 := Lib.hid ((hb.block _ (lt_of_block HKz3.out)).trans HKz3.out)
  have HOv4 := Lib.hid (HOv3.out.next hb)
  have HKo4 := Lib.hid hk
  replace HZ4 : Hid (w3.heap.size < w4.heap.size) := Lib.hid (by omega)
  have HE4 := Lib.hid hz
  clear hb hk hz
  have hloB := lt_of_block HKo4.out
  have hd : w4.cell? ⟨g2, k, none⟩ = some (.int .i64 x) := HOv4.out.at2 (k) hk HX.out
  clear cb0 cb1 fb0 fb1 ltb cz0 cz1 fz0 fz1 ltz
  have ltb := lt_of_block HKb4.out
  obtain ⟨cb0, cb1, fb0, fb1⟩ := cell2 HKb4.out
  have ltz := lt_of_block HKz4.out
  obtain ⟨cz0, cz1, fz0, fz1⟩ := cell2 HKz4.out
  have lto := lt_of_block HKo4.out
  obtain ⟨co0, co1, fo0, fo1⟩ := cell2 HKo4.out
  go_wp2_with fail
  go_still_tail 12, (by kernel_rfl)
  change wpList _ _ _ _ _ w4.drew
  have hb : Below w4.heap.size w4 w4.drew := (Below.refl _ _).drew
  generalize w4.drew = w5 at hb ⊢
  clear hd
  have HB5 : Hid (Below w.heap.size w w5) := Lib.hid (HB4.out.trans (hb.mono HB4.out.size))
  have HZ5 : Hid (w4.heap.size ≤ w5.heap.size) := Lib.hid hb.size
  have HRf5 := Lib.hid (HRf0.out.below HB5.out (Nat.le_refl _))
  have HKb5 := Lib.hid ((hb.block _ (lt_of_block HKb4.out)).trans HKb4.out)
  have HKz5 := Lib.hid ((hb.block _ (lt_of_block HKz4.out)).trans HKz4.out)
  have HOv5 := Lib.hid (HOv4.out.next hb)
  have HKo5 := Lib.hid ((hb.block _ (lt_of_block HKo4.out)).trans HKo4.out)
  clear hb
  have hd : w5.cell? ⟨g2, k, none⟩ = some (.int .i64 x) := HOv5.out.at2 (k) hk HX.out
  have hfr := HOv5.out.2.1.1.frozenAt (k)
  have hv := HOv5.out.st2 (k) (x - 2 * t)
  have hm : Btw w2.heap.size w3.heap.size w5 (w5.setCell ⟨g2, k, none⟩ (.int .i64 (x - 2 * t))) := (Btw.refl w2.heap.size w3.heap.size w5).setCell (p := ⟨g2, k, none⟩) hg2a hg2b _
  clear cb0 cb1 fb0 fb1 ltb cz0 cz1 fz0 fz1 ltz co0 co1 fo0 fo1 lto
  have ltb := lt_of_block HKb5.out
  obtain ⟨cb0, cb1, fb0, fb1⟩ := cell2 HKb5.out
  have ltz := lt_of_block HKz5.out
  obtain ⟨cz0, cz1, fz0, fz1⟩ := cell2 HKz5.out
  have lto := lt_of_block HKo5.out
  obtain ⟨co0, co1, fo0, fo1⟩ := cell2 HKo5.out
  go_wp2_with fail
  clear hd hfr
  generalize w5.setCell ⟨g2, k, none⟩ (.int .i64 (x - 2 * t)) = w6 at hm hv ⊢
  have HZ6 : Hid (w5.heap.size ≤ w6.heap.size) := Lib.hid hm.size
  have HB6 : Hid (Below w.heap.size w w6) := Lib.hid (HB5.out.trans (hm.below.mono (by have := HZ1.out; have := HZ2.out; have := HZ3.out; have := HZ4.out; have := HZ5.out; have := HB0.out.size; omega)))
  have HRf6 := Lib.hid (HRf0.out.below HB6.out (Nat.le_refl _))
  have HKb6 := Lib.hid ((hm.block _ (by have := lt_of_block HKb5.out; have := HZ1.out; have := HZ2.out; have := HZ3.out; have := HZ4.out; have := HZ5.out; omega)).trans HKb5.out)
  have HKz6 := Lib.hid ((hm.block _ (by have := lt_of_block HKz5.out; have := HZ1.out; have := HZ2.out; have := HZ3.out; have := HZ4.out; have := HZ5.out; omega)).trans HKz5.out)
  have HKo6 := Lib.hid ((hm.block _ (by have := lt_of_block HKo5.out; have := HZ1.out; have := HZ2.out; have := HZ3.out; have := HZ4.out; have := HZ5.out; omega)).trans HKo5.out)
  clear hm
  have HOv6 := Lib.hid (hv)
  clear hv
  have hd : w6.cell? ⟨g1, k + 1, none⟩ = some (.int .i64 y) := HOv6.out.at1 (k + 1) hk2 HY.out
  clear cb0 cb1 fb0 fb1 ltb cz0 cz1 fz0 fz1 ltz co0 co1 fo0 fo1 lto
  have ltb := lt_of_block HKb6.out
  obtain ⟨cb0, cb1, fb0, fb1⟩ := cell2 HKb6.out
  have ltz := lt_of_block HKz6.out
  obtain ⟨cz0, cz1, fz0, fz1⟩ := cell2 HKz6.out
  have lto := lt_of_block HKo6.out
  obtain ⟨co0, co1, fo0, fo1⟩ := cell2 HKo6.out
  go_wp2_with fail
  go_still_tail 13, (by kernel_rfl)
  change wpList _ _ _ _ _ w6.drew
  have hb : Below w6.heap.size w6 w6.drew := (Below.refl _ _).drew
  generalize w6.drew = w7 at hb ⊢
  clear hd
  have HB7 : Hid (Below w.heap.size w w7) := Lib.hid (HB6.out.trans (hb.mono HB6.out.size))
  have HZ7 : Hid (w6.heap.size ≤ w7.heap.size) := Lib.hid hb.size
  have HRf7 := Lib.hid (HRf0.out.below HB7.out (Nat.le_refl _))
  have HKb7 := Lib.hid ((hb.block _ (lt_of_block HKb6.out)).trans HKb6.out)
  have HKz7 := Lib.hid ((hb.block _ (lt_of_block HKz6.out)).trans HKz6.out)
  have HOv7 := Lib.hid (HOv6.out.next hb)
  have HKo7 := Lib.hid ((hb.block _ (lt_of_block HKo6.out)).trans HKo6.out)
  clear hb
  have hd : w7.cell? ⟨g1, k + 1, none⟩ = some (.int .i64 y) := HOv7.out.at1 (k + 1) hk2 HY.out
  have hfr := HOv7.out.1.1.frozenAt (k + 1)
  have hv := HOv7.out.st1 (k + 1) (y + t)
  have hm : Btw w2.heap.size w3.heap.size w7 (w7.setCell ⟨g1, k + 1, none⟩ (.int .i64 (y + t))) := (Btw.refl w2.heap.size w3.heap.size w7).setCell (p := ⟨g1, k + 1, none⟩) hg1a hg1b _
  clear cb0 cb1 fb0 fb1 ltb cz0 cz1 fz0 fz1 ltz co0 co1 fo0 fo1 lto
  have ltb := lt_of_block HKb7.out
  obtain ⟨cb0, cb1, fb0, fb1⟩ := cell2 HKb7.out
  have ltz := lt_of_block HKz7.out
  obtain ⟨cz0, cz1, fz0, fz1⟩ := cell2 HKz7.out
  have lto := lt_of_block HKo7.out
  obtain ⟨co0, co1, fo0, fo1⟩ := cell2 HKo7.out
  go_wp2_with fail
  clear hd hfr
  generalize w7.setCell ⟨g1, k + 1, none⟩ (.int .i64 (y + t)) = w8 at hm hv ⊢
  have HZ8 : Hid (w7.heap.size ≤ w8.heap.size) := Lib.hid hm.size
  have HB8 : Hid (Below w.heap.size w w8) := Lib.hid (HB7.out.trans (hm.below.mono (by have := HZ1.out; have := HZ2.out; have := HZ3.out; have := HZ4.out; have := HZ5.out; have := HZ6.out; have := HZ7.out; have := HB0.out.size; omega)))
  have HRf8 := Lib.hid (HRf0.out.below HB8.out (Nat.le_refl _))
  have HKb8 := Lib.hid ((hm.block _ (by have := lt_of_block HKb7.out; have := HZ1.out; have := HZ2.out; have := HZ3.out; have := HZ4.out; have := HZ5.out; have := HZ6.out; have := HZ7.out; omega)).trans HKb7.out)
  have HKz8 := Lib.hid ((hm.block _ (by have := lt_of_block HKz7.out; have := HZ1.out; have := HZ2.out; have := HZ3.out; have := HZ4.out; have := HZ5.out; have := HZ6.out; have := HZ7.out; omega)).trans HKz7.out)
  have HKo8 := Lib.hid ((hm.block _ (by have := lt_of_block HKo7.out; have := HZ1.out; have := HZ2.out; have := HZ3.out; have := HZ4.out; have := HZ5.out; have := HZ6.out; have := HZ7.out; omega)).trans HKo7.out)
  clear hm
  have HOv8 := Lib.hid (hv)
  clear hv
  clear cb0 cb1 fb0 fb1 ltb cz0 cz1 fz0 fz1 ltz co0 co1 fo0 fo1 lto
  have ltb := lt_of_block HKb8.out
  obtain ⟨cb0, cb1, fb0, fb1⟩ := cell2 HKb8.out
  have ltz := lt_of_block HKz8.out
  obtain ⟨cz0, cz1, fz0, fz1⟩ := cell2 HKz8.out
  have lto := lt_of_block HKo8.out
  obtain ⟨co0, co1, fo0, fo1⟩ := cell2 HKo8.out
  go_wp2_with fail
  exact bodyPost_ret (v := .agg #[.slice (some ⟨g1, 0, none⟩) ls.length k1, .slice (some ⟨g2, 0, none⟩) ss.length k2]) (by simp [results, Tryd.results28, go_sem, cz0, cz1]) rfl ⟨⟨_, _, rfl, ((HOv8.out.set (a := ⟨w.heap.size + 1, 0, none⟩) hlz _).set (a := ⟨w.heap.size + 1, 1, none⟩) hlz _).mono (by omega) (by simp; have := HZ1.out; have := HZ2.out; have := HZ3.out; have := HZ4.out; have := HZ5.out; have := HZ6.out; have := HZ7.out; have := HZ8.out;  omega)⟩, (HB8.out.setCell (p := ⟨w.heap.size + 1, 0, none⟩) (Nat.le_succ _) _).setCell (p := ⟨w.heap.size + 1, 1, none⟩) (Nat.le_succ _) _⟩

def mvL (line : Bool) (k : Nat) (t : Int) (ls : List Int) : List Int := if line then ls.set k (ls.getD k 0 - 5 * t) else ls.set (k + 1) (ls.getD (k + 1) 0 + t)
def mvS (line : Bool) (k : Nat) (t : Int) (ss : List Int) : List Int := if line then ss.set k (ss.getD k 0 + t) else ss.set k (ss.getD k 0 - 2 * t)
theorem mvL_len (line : Bool) (k : Nat) (t : Int) (ls : List Int) : (mvL line k t ls).length = ls.length := by unfold mvL; split <;> simp
theorem mvS_len (line : Bool) (k : Nat) (t : Int) (ss : List Int) : (mvS line k t ss).length = ss.length := by unfold mvS; split <;> simp
/-- All counts lie in -100000 .. 100000. -/
def bdB (ls : List Int) : Prop := ∀ k (h : k < ls.length), -100000 ≤ ls[k] ∧ ls[k] ≤ 100000
theorem getDi_at (ls : List Int) (k : Nat) (h : k < ls.length) : ls.getD k 0 = ls[k] := by rw [List.getD_eq_getElem?_getD, List.getElem?_eq_getElem h]; rfl
theorem l5Move_any (v1 v2 : Value) (ls ss : List Int) (w : World) (h : BrdR w v1 v2 ls ss) (hn : ls.length ≤ 6) (hs : ss.length = ls.length) (line : Bool) (k : Nat) (t : Int) (hk : k + (if line then 0 else 1) < ls.length) (bt : -100000 ≤ t ∧ t ≤ 100000) (b1 : bdB ls) (b2 : bdB ss) :
    Calls Tryd.prog 28 #[.agg #[v1, v2], .bool line, .int .i64 k, .int .i64 t] w fun e w' => (∃ s1 s2, e = .returned (.agg #[s1, s2]) ∧ OwB w.heap.size w'.heap.size w' s1 s2 (mvL line k t ls) (mvS line k t ss)) ∧ Below w.heap.size w w' := by
  cases line with
  | true =>
    have hk1 : k < ls.length := by simpa using hk
    have hk2 : k < ss.length := by omega
    have := l5Move_line v1 v2 ls ss w h hn (by omega) k t _ _ hk1 hk2 rfl rfl bt (b1 k hk1) (b2 k hk2)
    unfold mvL mvS
    rw [if_pos rfl, if_pos rfl, getDi_at ls k hk1, getDi_at ss k hk2]
    exact this
  | false =>
    have hk1 : k + 1 < ls.length := by simpa using hk
    have hk2 : k < ss.length := by omega
    have := l5Move_space v1 v2 ls ss w h hn (by omega) k t _ _ hk2 hk1 rfl rfl bt (b2 k hk2) (b1 (k + 1) hk1)
    unfold mvL mvS
    rw [if_neg (by simp), if_neg (by simp), getDi_at ls (k + 1) hk1, getDi_at ss k hk2]
    exact this
end Go.Proofs.YtbdddpchlmddbaaDoor
