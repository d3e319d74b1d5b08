/- The law's helpers on boards: copy, measure, compare, mark, held. -/
import Derived.Test.YtgmaelgihlcaeaaDoorInts
import Derived.Test.YtgmaelgihlcaeaaDoorIntss
import Derived.Test.YtgmaelgihlcaeaaDoorRat
namespace Go.Proofs.YtgmaelgihlcaeaaDoor
set_option linter.unusedVariables false
open Go.RowKit

theorem Tryd.infoI5 : (Tryd.prog.info? 3).map (fun i => (i.zero, i.size, i.bytes)) = some (some (.int .i64 0), 1, 8) := by kernel_rfl
def BrdR (w : World) (v1 v2 : Value) (ls ss : List Int) : Prop := RowsR 1 inC w v1 ls ∧ RowsR 1 inC w v2 ss
theorem BrdR.below {w w' : World} {v1 v2 : Value} {ls ss : List Int} (h : BrdR w v1 v2 ls ss) {B : Nat} (hb : Below B w w') (hB : w.heap.size ≤ B) : BrdR w' v1 v2 ls ss := ⟨h.1.below hb hB, h.2.below hb hB⟩
theorem BrdR.form {w : World} {v1 v2 : Value} {ls ss : List Int} (h : BrdR w v1 v2 ls ss) : ∃ a1 c1 a2 c2, v1 = .slice a1 ls.length c1 ∧ v2 = .slice a2 ss.length c2 := by
  obtain ⟨a1, c1, e1⟩ := h.1.form
  obtain ⟨a2, c2, e2⟩ := h.2.form
  exact ⟨a1, c1, a2, c2, e1, e2⟩
/-- Two fresh rows of ints, apart from one another. -/
def OwB (lo hi : Nat) (w : World) (v1 v2 : Value) (ls ss : List Int) : Prop :=
  Ow lo hi w 3 1 v1 ls.length (flatC inC ls) ∧ Ow lo hi w 3 1 v2 ss.length (flatC inC ss) ∧ ∀ g, v1.ownBlock = some g → v2.ownBlock ≠ some g
theorem OwB.next {lo hi : Nat} {w w' : World} {v1 v2 : Value} {ls ss : List Int} (h : OwB lo hi w v1 v2 ls ss) (hb : Below w.heap.size w w') : OwB lo hi w' v1 v2 ls ss := ⟨h.1.next hb, h.2.1.next hb, h.2.2⟩
theorem OwB.btw {lo hi a b : Nat} {w w' : World} {v1 v2 : Value} {ls ss : List Int} (h : OwB lo hi w v1 v2 ls ss) (hb : Btw a b w w') (hd : hi ≤ a ∨ b ≤ lo) : OwB lo hi w' v1 v2 ls ss := ⟨h.1.btw hb hd, h.2.1.btw hb hd, h.2.2⟩
theorem OwB.reads {lo hi : Nat} {w : World} {v1 v2 : Value} {ls ss : List Int} (h : OwB lo hi w v1 v2 ls ss) : BrdR w v1 v2 ls ss := ⟨RowsR.of_own inC_len h.1.1, RowsR.of_own inC_len h.2.1.1⟩
theorem OwB.form {lo hi : Nat} {w : World} {v1 v2 : Value} {ls ss : List Int} (h : OwB lo hi w v1 v2 ls ss) : ∃ a1 c1 a2 c2, v1 = .slice a1 ls.length c1 ∧ v2 = .slice a2 ss.length c2 := h.reads.form
theorem OwB.mono {lo hi lo' hi' : Nat} {w : World} {v1 v2 : Value} {ls ss : List Int} (h : OwB lo hi w v1 v2 ls ss) (h1 : lo' ≤ lo) (h2 : hi ≤ hi') : OwB lo' hi' w v1 v2 ls ss := ⟨h.1.widen h1 h2, h.2.1.widen h1 h2, h.2.2⟩

set_option maxRecDepth 100000 in
set_option maxHeartbeats 1600000 in
theorem toIntS_any (v : Value) (ps : List Int) (w : World) (h : RowsR 1 inC w v ps) (hn : ps.length ≤ 1048576) :
    Calls Tryd.prog 12 #[v] w fun e w' => (∃ v', e = .returned v' ∧ w'.ownsRow w.heap.size 3 1 v' ps.length (flatC inC ps)) ∧ Below w.heap.size w w' := by
  obtain ⟨i0, hi, hz0, hz1, hz2⟩ := info_parts Tryd.infoI5
  obtain ⟨a, cp, rfl⟩ := h.form
  have R1 := Lib.hid h.at
  clear h
  go_enter Tryd.func12, Tryd.ntmps12
  go_wp2_with (at_make; refine wpList_make_full _ rfl _ _ 22 rfl w.heap.size 3 i0 (.int .i64 0) 1 Tryd.underlying22 hi hz0 hz1 _ _ _ _ ps.length rfl rfl rfl rfl ?b2 ?b3 (Nat.le_refl _) ?_)
  case b2 => rw [hz2]; omega
  case b3 => unfold maxLen; omega
  intro w0 hown0 hgrow0
  have HO0 := Lib.hid hown0
  have HG0 := Lib.hid hgrow0
  clear hown0 hgrow0
  go_wp2
  go_loopw [4] (fun i wr => ∃ (k : Nat) (xs : List Value), k ≤ ps.length ∧ i = .int .i64 k ∧ xs.length = ps.length ∧ Hid (∀ (i : Nat) (h : i < ps.length), i < k → xs[i]? = some (.int .i64 ps[i])) ∧ wr.ownsRow w.heap.size 3 1 (.slice (some ⟨w.heap.size, 0, none⟩) ps.length ps.length) ps.length xs ∧ Below w.heap.size w wr) (fun i _ => ps.length - (intOf i).toNat)
  case atStart => exact ⟨0, _, Nat.zero_le _, rfl, by have := HO0.out.1; omega, Lib.hid (fun i _ h => by omega), HO0.out, (Below.refl _ _).grown HG0.out (Nat.le_refl _) (fun k h => by cases h)⟩
  case round =>
    obtain ⟨k, xs, hk, rfl, hxl, HP, hown, hb⟩ := hrel
    have HO := Lib.hid hown
    have HB := Lib.hid hb
    have HX := Lib.hid hxl
    by_cases hlt : k < ps.length
    · obtain ⟨b1, o1, rfl, l1, k1⟩ := R1.out _ hb k hlt
      have p0 : wr.cell? ⟨b1, o1 + k, none⟩ = some (.int .i64 ps[k]) := by have := k1 0 (by omega); rw [Nat.mul_one] at this; exact this
      have z1 : (0 : Int) ≤ (k : Int) := by omega
      have z2 : (k : Int) < (ps.length : Int) := by omega
      obtain ⟨u0, d0⟩ : ∃ u, wr.cell? ⟨w.heap.size, k, none⟩ = some u := ⟨_, (hown.cellAt k (by omega)).trans (List.getElem?_eq_getElem (by omega))⟩
      have f0 := hown.frozenAt k
      clear k1 hown hxl hb
      go_wp2_with fail
      go_roundw
      case rel =>
        refine ⟨k + 1, xs.set k (.int .i64 ps[k]), by omega, by go_num, by rw [List.length_set]; exact HX.out, Lib.hid (fun i h hi => ?_), (HO.out.stored _ _).1, HB.out.setCell (Nat.le_refl _) _⟩
        have hx := HX.out
        by_cases e : i = k
        · subst e; rw [List.getElem?_set_self (by omega)]
        · rw [List.getElem?_set_ne (fun e' => e e'.symm)]; exact HP.out i h (by omega)
      case measure => simp [intOf]; omega
    · have HXS : Hid (xs = flatC inC ps) := Lib.hid (flatC_of inC_len (by omega) xs ps (by omega) (fun i h j hj => by
        have hj0 : j = 0 := by omega
        subst hj0
        rw [Nat.mul_one, Nat.add_zero]
        exact HP.out i h (by omega)))
      clear hown hxl hb
      go_wp2_with fail
      go_ret
      exact ⟨⟨_, rfl, HXS.out ▸ HO.out⟩, HB.out⟩

set_option maxRecDepth 100000 in
set_option maxHeartbeats 800000 in
theorem szIntS_any (v : Value) (ps : List Int) (left : Int) (w : World) (h : RowsR 1 inC w v ps) (h0 : 0 ≤ left) (h1 : left ≤ 1048576) :
    Calls Tryd.prog 9 #[v, .int .i64 left] w fun e w' => (∃ l : Int, e = .returned (.int .i64 l) ∧ l ≤ 1048576 ∧ (l < 0 ∨ (ps.length : Int) + l = left)) ∧ Below w.heap.size w w' := by
  have hm : ps.length ≤ 9223372036854775807 := by obtain ⟨_, _, _, ⟨m, _⟩, _⟩ := h; exact m
  obtain ⟨a, cp, rfl⟩ := h.form
  clear h
  have hw : IntKind.i64.wrap (left - (ps.length : Int)) = left - ps.length := by rw [IntKind.wrap_i64]; omega
  by_cases hlt : left - (ps.length : Int) < 0
  · go_enter Tryd.func9, Tryd.ntmps9
    go_wp2_with fail
    go_ret
    exact ⟨⟨-1, rfl, by omega, .inl (by omega)⟩, Below.refl _ _⟩
  · have hge : (ps.length : Int) ≤ left := by omega
    go_enter Tryd.func9, Tryd.ntmps9
    go_wp2_with fail
    go_ret
    exact ⟨⟨_, rfl, by omega, .inr (by omega)⟩, Below.refl _ _⟩

set_option maxRecDepth 100000 in
set_option maxHeartbeats 1600000 in
theorem szBoard_any (v1 v2 : Value) (ls ss : List Int) (left : Int) (w : World) (h : BrdR w v1 v2 ls ss) (h0 : 0 ≤ left) (h1 : left ≤ 1048576) :
    Calls Tryd.prog 4 #[.agg #[v1, v2], .int .i64 left] w fun e w' => (∃ l : Int, e = .returned (.int .i64 l) ∧ l ≤ 1048576 ∧ (0 ≤ l → ls.length ≤ 1048576 ∧ ss.length ≤ 1048576)) ∧ Below w.heap.size w w' := by
  obtain ⟨a1, c1, a2, c2, rfl, rfl⟩ := h.form
  have HB0 : Hid (Below w.heap.size w w) := Lib.hid (Below.refl _ _)
  have HRf0 := Lib.hid (h)
  clear h
  go_enter Tryd.func4, Tryd.ntmps4
  go_wp2_with fail
  have hb : Below w.heap.size w (w.alloc (.cells #[.slice a1 ls.length c1, .slice a2 ss.length c2] 24)) := (Below.refl _ _).alloc (Nat.le_refl _) _
  have hk : (w.alloc (.cells #[.slice a1 ls.length c1, .slice a2 ss.length c2] 24)).heap[w.heap.size]? = some (.cells #[.slice a1 ls.length c1, .slice a2 ss.length c2] 24 (0, 0)) := alloc_at rfl
  have hz : (w.alloc (.cells #[.slice a1 ls.length c1, .slice a2 ss.length c2] 24)).heap.size = w.heap.size + 1 := by simp
  generalize w.alloc (.cells #[.slice a1 ls.length c1, .slice a2 ss.length c2] 24) = w1 at hb hk hz ⊢
  have HB1 : Hid (Below w.heap.size w w1) := Lib.hid (HB0.out.trans (hb.mono HB0.out.size))
  have HZ1 : Hid (w.heap.size ≤ w1.heap.size) := Lib.hid hb.size
  have HRf1 := Lib.hid (HRf0.out.below HB1.out (Nat.le_refl _))
  have HKb1 := Lib.hid hk
  replace HZ1 : Hid (w.heap.size < w1.heap.size) := Lib.hid (by omega)
  have HE1 := Lib.hid hz
  clear hb hk hz
  have ltb := lt_of_block HKb1.out
  obtain ⟨cb0, cb1, fb0, fb1⟩ := cell2 HKb1.out
  refine (szIntS_any _ ls left _ HRf1.out.1 h0 h1).mono ?_
  rintro e w2 ⟨⟨l, rfl, hl1, hl2⟩, hb⟩
  have HB2 : Hid (Below w.heap.size w w2) := Lib.hid (HB1.out.trans (hb.mono HB1.out.size))
  have HZ2 : Hid (w1.heap.size ≤ w2.heap.size) := Lib.hid hb.size
  have HRf2 := Lib.hid (HRf0.out.below HB2.out (Nat.le_refl _))
  have HKb2 := Lib.hid ((hb.block _ (lt_of_block HKb1.out)).trans HKb1.out)
  clear hb
  by_cases hl : l < 0
  · skip
    clear cb0 cb1 fb0 fb1 ltb
    have ltb := lt_of_block HKb2.out
    obtain ⟨cb0, cb1, fb0, fb1⟩ := cell2 HKb2.out
    go_wp2_with fail
    go_ret
    exact ⟨⟨-1, rfl, by omega, fun h => by omega⟩, HB2.out⟩
  · skip
    clear cb0 cb1 fb0 fb1 ltb
    have ltb := lt_of_block HKb2.out
    obtain ⟨cb0, cb1, fb0, fb1⟩ := cell2 HKb2.out
    go_wp2_with fail
    refine (szIntS_any _ ss l _ HRf2.out.2 (by omega) hl1).mono ?_
    rintro e w3 ⟨⟨r, rfl, hr1, hr2⟩, hb⟩
    have HB3 : Hid (Below w.heap.size w w3) := Lib.hid (HB2.out.trans (hb.mono HB2.out.size))
    have HZ3 : Hid (w2.heap.size ≤ w3.heap.size) := Lib.hid hb.size
    have HRf3 := Lib.hid (HRf0.out.below HB3.out (Nat.le_refl _))
    have HKb3 := Lib.hid ((hb.block _ (lt_of_block HKb2.out)).trans HKb2.out)
    clear hb
    by_cases hr : r < 0
    · skip
      clear cb0 cb1 fb0 fb1 ltb
      have ltb := lt_of_block HKb3.out
      obtain ⟨cb0, cb1, fb0, fb1⟩ := cell2 HKb3.out
      go_wp2_with fail
      go_ret
      exact ⟨⟨-1, rfl, by omega, fun h => by omega⟩, HB3.out⟩
    · skip
      clear cb0 cb1 fb0 fb1 ltb
      have ltb := lt_of_block HKb3.out
      obtain ⟨cb0, cb1, fb0, fb1⟩ := cell2 HKb3.out
      go_wp2_with fail
      go_ret
      exact ⟨⟨r, rfl, hr1, fun _ => by omega⟩, HB3.out⟩

set_option maxRecDepth 100000 in
set_option maxHeartbeats 1600000 in
theorem eqBoard_yes (v1 v2 u1 u2 : Value) (ls ss : List Int) (w : World) (h1 : BrdR w v1 v2 ls ss) (h2 : BrdR w u1 u2 ls ss) :
    Calls Tryd.prog 8 #[.agg #[v1, v2], .agg #[u1, u2]] w fun e w' => e = .returned (.bool true) ∧ Below w.heap.size w w' := by
  obtain ⟨a1, c1, a2, c2, rfl, rfl⟩ := h1.form
  obtain ⟨b1, d1, b2, d2, rfl, rfl⟩ := h2.form
  have HB0 : Hid (Below w.heap.size w w) := Lib.hid (Below.refl _ _)
  have HRf0 := Lib.hid (h1)
  have HRg0 := Lib.hid (h2)
  clear h1 h2
  go_enter Tryd.func8, Tryd.ntmps8
  go_wp2_with fail
  have hb : Below w.heap.size w (w.alloc (.cells #[.slice a1 ls.length c1, .slice a2 ss.length c2] 28)) := (Below.refl _ _).alloc (Nat.le_refl _) _
  have hk : (w.alloc (.cells #[.slice a1 ls.length c1, .slice a2 ss.length c2] 28)).heap[w.heap.size]? = some (.cells #[.slice a1 ls.length c1, .slice a2 ss.length c2] 28 (0, 0)) := alloc_at rfl
  have hz : (w.alloc (.cells #[.slice a1 ls.length c1, .slice a2 ss.length c2] 28)).heap.size = w.heap.size + 1 := by simp
  generalize w.alloc (.cells #[.slice a1 ls.length c1, .slice a2 ss.length c2] 28) = w1 at hb hk hz ⊢
  have HB1 : Hid (Below w.heap.size w w1) := Lib.hid (HB0.out.trans (hb.mono HB0.out.size))
  have HZ1 : Hid (w.heap.size ≤ w1.heap.size) := Lib.hid hb.size
  have HRf1 := Lib.hid (HRf0.out.below HB1.out (Nat.le_refl _))
  have HRg1 := Lib.hid (HRg0.out.below HB1.out (Nat.le_refl _))
  have HKa1 := Lib.hid hk
  replace HZ1 : Hid (w.heap.size < w1.heap.size) := Lib.hid (by omega)
  have HE1 := Lib.hid hz
  clear hb hk hz
  have hb : Below w1.heap.size w1 (w1.alloc (.cells #[.slice b1 ls.length d1, .slice b2 ss.length d2] 28)) := (Below.refl _ _).alloc (Nat.le_refl _) _
  have hk : (w1.alloc (.cells #[.slice b1 ls.length d1, .slice b2 ss.length d2] 28)).heap[w.heap.size + 1]? = some (.cells #[.slice b1 ls.length d1, .slice b2 ss.length d2] 28 (0, 0)) := alloc_at (by have := HE1.out; omega)
  have hz : (w1.alloc (.cells #[.slice b1 ls.length d1, .slice b2 ss.length d2] 28)).heap.size = w1.heap.size + 1 := by simp
  generalize w1.alloc (.cells #[.slice b1 ls.length d1, .slice b2 ss.length d2] 28) = w2 at hb hk hz ⊢
  have HB2 : Hid (Below w.heap.size w w2) := Lib.hid (HB1.out.trans (hb.mono HB1.out.size))
  have HZ2 : Hid (w1.heap.size ≤ w2.heap.size) := Lib.hid hb.size
  have HRf2 := Lib.hid (HRf0.out.below HB2.out (Nat.le_refl _))
  have HRg2 := Lib.hid (HRg0.out.below HB2.out (Nat.le_refl _))
  have HKa2 := Lib.hid ((hb.block _ (lt_of_block HKa1.out)).trans HKa1.out)
  have HKb2 := Lib.hid hk
  replace HZ2 : Hid (w1.heap.size < w2.heap.size) := Lib.hid (by omega)
  have HE2 := Lib.hid hz
  clear hb hk hz
  have lta := lt_of_block HKa2.out
  obtain ⟨ca0, ca1, fa0, fa1⟩ := cell2 HKa2.out
  have ltb := lt_of_block HKb2.out
  obtain ⟨cb0, cb1, fb0, fb1⟩ := cell2 HKb2.out
  refine (eqIntS_yes _ _ ls _ HRf2.out.1 HRg2.out.1).mono ?_
  rintro e w3 ⟨rfl, hb⟩
  have HB3 : Hid (Below w.heap.size w w3) := Lib.hid (HB2.out.trans (hb.mono HB2.out.size))
  have HZ3 : Hid (w2.heap.size ≤ w3.heap.size) := Lib.hid hb.size
  have HRf3 := Lib.hid (HRf0.out.below HB3.out (Nat.le_refl _))
  have HRg3 := Lib.hid (HRg0.out.below HB3.out (Nat.le_refl _))
  have HKa3 := Lib.hid ((hb.block _ (lt_of_block HKa2.out)).trans HKa2.out)
  have HKb3 := Lib.hid ((hb.block _ (lt_of_block HKb2.out)).trans HKb2.out)
  clear hb
  clear ca0 ca1 fa0 fa1 lta cb0 cb1 fb0 fb1 ltb
  have lta := lt_of_block HKa3.out
  obtain ⟨ca0, ca1, fa0, fa1⟩ := cell2 HKa3.out
  have ltb := lt_of_block HKb3.out
  obtain ⟨cb0, cb1, fb0, fb1⟩ := cell2 HKb3.out
  go_wp2_with fail
  refine (eqIntS_yes _ _ ss _ HRf3.out.2 HRg3.out.2).mono ?_
  rintro e w4 ⟨rfl, hb⟩
  have HB4 : Hid (Below w.heap.size w w4) := Lib.hid (HB3.out.trans (hb.mono HB3.out.size))
  have HZ4 : Hid (w3.heap.size ≤ w4.heap.size) := Lib.hid hb.size
  have HRf4 := Lib.hid (HRf0.out.below HB4.out (Nat.le_refl _))
  have HRg4 := Lib.hid (HRg0.out.below HB4.out (Nat.le_refl _))
  have HKa4 := Lib.hid ((hb.block _ (lt_of_block HKa3.out)).trans HKa3.out)
  have HKb4 := Lib.hid ((hb.block _ (lt_of_block HKb3.out)).trans HKb3.out)
  clear hb
  clear ca0 ca1 fa0 fa1 lta cb0 cb1 fb0 fb1 ltb
  have lta := lt_of_block HKa4.out
  obtain ⟨ca0, ca1, fa0, fa1⟩ := cell2 HKa4.out
  have ltb := lt_of_block HKb4.out
  obtain ⟨cb0, cb1, fb0, fb1⟩ := cell2 HKb4.out
  go_wp2_with fail
  go_ret
  exact ⟨rfl, HB4.out⟩

theorem OwB.mk2 {B B1 B2 : Nat} {w : World} {v1 v2 : Value} {ls ss : List Int} (h1 : w.ownsRow B1 3 1 v1 ls.length (flatC inC ls)) (h2 : w.ownsRow B2 3 1 v2 ss.length (flatC inC ss)) (hB1 : B ≤ B1) (hB2 : B ≤ B2) (hs : ∀ g, v1.ownBlock = some g → g < B2) : OwB B w.heap.size w v1 v2 ls ss :=
  ⟨⟨own_mono h1 hB1, fun g hg => (h1.lt g hg).2⟩, ⟨own_mono h2 hB2, fun g hg => (h2.lt g hg).2⟩, fun g hg hg2 => by have := hs g hg; have := (h2.lt g hg2).1; omega⟩
theorem OwB.set {lo hi : Nat} {w : World} {v1 v2 : Value} {ls ss : List Int} (h : OwB lo hi w v1 v2 ls ss) {a : Addr} (ha : a.block < lo) (u : Value) : OwB lo hi (w.setCell a u) v1 v2 ls ss :=
  h.btw ((Btw.refl a.block (a.block + 1) w).setCell (p := a) (Nat.le_refl _) (Nat.lt_succ_self _) u) (.inr ha)
theorem box2_set {w : World} {g : Nat} {a b : Value} {T : TypeId} (h : w.heap[g]? = some (.cells #[a, b] T (0, 0))) (x y : Value) : ((w.setCell ⟨g, 0, none⟩ x).setCell ⟨g, 1, none⟩ y).heap[g]? = some (.cells #[x, y] T (0, 0)) := by
  have h1 := heap_setCell_same w g 0 _ _ x h
  have h2 := heap_setCell_same _ g 1 _ _ y h1
  simpa using h2

set_option maxRecDepth 100000 in
set_option maxHeartbeats 1600000 in
theorem toBoard_any (v1 v2 : Value) (ls ss : List Int) (w : World) (h : BrdR w v1 v2 ls ss) (hn1 : ls.length ≤ 1048576) (hn2 : ss.length ≤ 1048576) :
    Calls Tryd.prog 6 #[.agg #[v1, v2]] w fun e w' => (∃ s1 s2, e = .returned (.agg #[s1, s2]) ∧ OwB w.heap.size w'.heap.size w' s1 s2 ls ss) ∧ Below w.heap.size w w' := by
  obtain ⟨a1, c1, a2, c2, rfl, rfl⟩ := h.form
  have HB0 : Hid (Below w.heap.size w w) := Lib.hid (Below.refl _ _)
  have HRf0 := Lib.hid (h)
  clear h
  go_enter Tryd.func6, Tryd.ntmps6
  go_wp2_with fail
  have hb : Below w.heap.size w (w.alloc (.cells #[.slice a1 ls.length c1, .slice a2 ss.length c2] 24)) := (Below.refl _ _).alloc (Nat.le_refl _) _
  have hk : (w.alloc (.cells #[.slice a1 ls.length c1, .slice a2 ss.length c2] 24)).heap[w.heap.size]? = some (.cells #[.slice a1 ls.length c1, .slice a2 ss.length c2] 24 (0, 0)) := alloc_at rfl
  have hz : (w.alloc (.cells #[.slice a1 ls.length c1, .slice a2 ss.length c2] 24)).heap.size = w.heap.size + 1 := by simp
  generalize w.alloc (.cells #[.slice a1 ls.length c1, .slice a2 ss.length c2] 24) = w1 at hb hk hz ⊢
  have HB1 : Hid (Below w.heap.size w w1) := Lib.hid (HB0.out.trans (hb.mono HB0.out.size))
  have HZ1 : Hid (w.heap.size ≤ w1.heap.size) := Lib.hid hb.size
  have HRf1 := Lib.hid (HRf0.out.below HB1.out (Nat.le_refl _))
  have HKa1 := Lib.hid hk
  replace HZ1 : Hid (w.heap.size < w1.heap.size) := Lib.hid (by omega)
  have HE1 := Lib.hid hz
  clear hb hk hz
  have hb : Below w1.heap.size w1 (w1.alloc (.cells #[.slice none 0 0, .slice none 0 0] 28)) := (Below.refl _ _).alloc (Nat.le_refl _) _
  have hk : (w1.alloc (.cells #[.slice none 0 0, .slice none 0 0] 28)).heap[w.heap.size + 1]? = some (.cells #[.slice none 0 0, .slice none 0 0] 28 (0, 0)) := alloc_at (by have := HE1.out; omega)
  have hz : (w1.alloc (.cells #[.slice none 0 0, .slice none 0 0] 28)).heap.size = w1.heap.size + 1 := by simp
  generalize w1.alloc (.cells #[.slice none 0 0, .slice none 0 0] 28) = w2 at hb hk hz ⊢
  have HB2 : Hid (Below w.heap.size w w2) := Lib.hid (HB1.out.trans (hb.mono HB1.out.size))
  have HZ2 : Hid (w1.heap.size ≤ w2.heap.size) := Lib.hid hb.size
  have HRf2 := Lib.hid (HRf0.out.below HB2.out (Nat.le_refl _))
  have HKa2 := Lib.hid ((hb.block _ (lt_of_block HKa1.out)).trans HKa1.out)
  have HKz2 := Lib.hid hk
  replace HZ2 : Hid (w1.heap.size < w2.heap.size) := Lib.hid (by omega)
  have HE2 := Lib.hid hz
  clear hb hk hz
  have hb : Below w2.heap.size w2 (w2.alloc (.cells #[.slice none 0 0, .slice none 0 0] 28)) := (Below.refl _ _).alloc (Nat.le_refl _) _
  have hk : (w2.alloc (.cells #[.slice none 0 0, .slice none 0 0] 28)).heap[w.heap.size + 2]? = some (.cells #[.slice none 0 0, .slice none 0 0] 28 (0, 0)) := alloc_at (by have := HE1.out; have := HE2.out; omega)
  have hz : (w2.alloc (.cells #[.slice none 0 0, .slice none 0 0] 28)).heap.size = w2.heap.size + 1 := by simp
  generalize w2.alloc (.cells #[.slice none 0 0, .slice none 0 0] 28) = w3 at hb hk hz ⊢
  have HB3 : Hid (Below w.heap.size w w3) := Lib.hid (HB2.out.trans (hb.mono HB2.out.size))
  have HZ3 : Hid (w2.heap.size ≤ w3.heap.size) := Lib.hid hb.size
  have HRf3 := Lib.hid (HRf0.out.below HB3.out (Nat.le_refl _))
  have HKa3 := Lib.hid ((hb.block _ (lt_of_block HKa2.out)).trans HKa2.out)
  have HKz3 := Lib.hid ((hb.block _ (lt_of_block HKz2.out)).trans HKz2.out)
  have HKo3 := Lib.hid hk
  replace HZ3 : Hid (w2.heap.size < w3.heap.size) := Lib.hid (by omega)
  have HE3 := Lib.hid hz
  clear hb hk hz
  have lta := lt_of_block HKa3.out
  obtain ⟨ca0, ca1, fa0, fa1⟩ := cell2 HKa3.out
  have ltz := lt_of_block HKz3.out
  obtain ⟨cz0, cz1, fz0, fz1⟩ := cell2 HKz3.out
  have lto := lt_of_block HKo3.out
  obtain ⟨co0, co1, fo0, fo1⟩ := cell2 HKo3.out
  have hlz : w.heap.size + 1 < w3.heap.size := ltz
  have hlo : w.heap.size + 2 < w3.heap.size := lto
  refine (toIntS_any _ ls _ HRf3.out.1 hn1).mono ?_
  rintro e w4 ⟨⟨s1, rfl, ho⟩, hb⟩
  have HB4 : Hid (Below w.heap.size w w4) := Lib.hid (HB3.out.trans (hb.mono HB3.out.size))
  have HZ4 : Hid (w3.heap.size ≤ w4.heap.size) := Lib.hid hb.size
  have HRf4 := Lib.hid (HRf0.out.below HB4.out (Nat.le_refl _))
  have HKa4 := Lib.hid ((hb.block _ (lt_of_block HKa3.out)).trans HKa3.out)
  have HKz4 := Lib.hid ((hb.block _ (lt_of_block HKz3.out)).trans HKz3.out)
  have HKo4 := Lib.hid ((hb.block _ (lt_of_block HKo3.out)).trans HKo3.out)
  clear hb
  obtain ⟨p1, k1, rfl⟩ := own_form ho
  have HOs4 := Lib.hid (Ow.mk' ho)
  clear ho
  clear ca0 ca1 fa0 fa1 lta cz0 cz1 fz0 fz1 ltz co0 co1 fo0 fo1 lto
  have lta := lt_of_block HKa4.out
  obtain ⟨ca0, ca1, fa0, fa1⟩ := cell2 HKa4.out
  have ltz := lt_of_block HKz4.out
  obtain ⟨cz0, cz1, fz0, fz1⟩ := cell2 HKz4.out
  have lto := lt_of_block HKo4.out
  obtain ⟨co0, co1, fo0, fo1⟩ := cell2 HKo4.out
  go_wp2_with fail
  have hm : Btw (w.heap.size + 2) (w.heap.size + 2 + 1) w4 (w4.setCell ⟨w.heap.size + 2, 0, none⟩ (.slice p1 ls.length k1)) := (Btw.refl (w.heap.size + 2) (w.heap.size + 2 + 1) w4).setCell (p := ⟨w.heap.size + 2, 0, none⟩) (Nat.le_refl _) (Nat.lt_succ_self _) _
  have hko : (w4.setCell ⟨w.heap.size + 2, 0, none⟩ (.slice p1 ls.length k1)).heap[w.heap.size + 2]? = some (.cells #[.slice p1 ls.length k1, .slice none 0 0] 28 (0, 0)) := heap_setCell_same _ _ 0 _ _ _ HKo4.out
  generalize w4.setCell ⟨w.heap.size + 2, 0, none⟩ (.slice p1 ls.length k1) = w5 at hm hko ⊢
  have HZ5 : Hid (w4.heap.size ≤ w5.heap.size) := Lib.hid hm.size
  have HB5 : Hid (Below w.heap.size w w5) := Lib.hid (HB4.out.trans (hm.below.mono (by have := HZ1.out; have := HZ2.out; have := HZ3.out; have := HZ4.out; have := HB0.out.size; omega)))
  have HRf5 := Lib.hid (HRf0.out.below HB5.out (Nat.le_refl _))
  have HKa5 := Lib.hid ((hm.block _ (by have := lt_of_block HKa4.out; have := HZ1.out; have := HZ2.out; have := HZ3.out; have := HZ4.out; omega)).trans HKa4.out)
  have HKz5 := Lib.hid ((hm.block _ (by have := lt_of_block HKz4.out; have := HZ1.out; have := HZ2.out; have := HZ3.out; have := HZ4.out; omega)).trans HKz4.out)
  have HOs5 := Lib.hid (HOs4.out.btw hm (by have := HZ1.out; have := HZ2.out; have := HZ3.out; have := HZ4.out; omega))
  clear hm
  have HKo5 := Lib.hid (hko)
  clear hko
  clear ca0 ca1 fa0 fa1 lta cz0 cz1 fz0 fz1 ltz co0 co1 fo0 fo1 lto
  have lta := lt_of_block HKa5.out
  obtain ⟨ca0, ca1, fa0, fa1⟩ := cell2 HKa5.out
  have ltz := lt_of_block HKz5.out
  obtain ⟨cz0, cz1, fz0, fz1⟩ := cell2 HKz5.out
  have lto := lt_of_block HKo5.out
  obtain ⟨co0, co1, fo0, fo1⟩ := cell2 HKo5.out
  refine (toIntS_any _ ss _ HRf5.out.2 hn2).mono ?_
  rintro e w6 ⟨⟨s2, rfl, ho⟩, hb⟩
  have HB6 : Hid (Below w.heap.size w w6) := Lib.hid (HB5.out.trans (hb.mono HB5.out.size))
  have HZ6 : Hid (w5.heap.size ≤ w6.heap.size) := Lib.hid hb.size
  have HRf6 := Lib.hid (HRf0.out.below HB6.out (Nat.le_refl _))
  have HKa6 := Lib.hid ((hb.block _ (lt_of_block HKa5.out)).trans HKa5.out)
  have HKz6 := Lib.hid ((hb.block _ (lt_of_block HKz5.out)).trans HKz5.out)
  have HOs6 := Lib.hid (HOs5.out.next hb)
  have HKo6 := Lib.hid ((hb.block _ (lt_of_block HKo5.out)).trans HKo5.out)
  clear hb
  obtain ⟨p2, k2, rfl⟩ := own_form ho
  have HOt6 := Lib.hid (Ow.mk' ho)
  clear ho
  clear ca0 ca1 fa0 fa1 lta cz0 cz1 fz0 fz1 ltz co0 co1 fo0 fo1 lto
  have lta := lt_of_block HKa6.out
  obtain ⟨ca0, ca1, fa0, fa1⟩ := cell2 HKa6.out
  have ltz := lt_of_block HKz6.out
  obtain ⟨cz0, cz1, fz0, fz1⟩ := cell2 HKz6.out
  have lto := lt_of_block HKo6.out
  obtain ⟨co0, co1, fo0, fo1⟩ := cell2 HKo6.out
  go_wp2_with fail
  have hlt5 : w3.heap.size ≤ w5.heap.size := by have := HZ1.out; have := HZ2.out; have := HZ3.out; have := HZ4.out; have := HZ5.out; have := HZ6.out;  omega
  have hlt1 : ∀ g, (Value.slice p1 ls.length k1).ownBlock = some g → g < w5.heap.size := fun g hg => (HOs5.out.1.lt g hg).2
  exact bodyPost_ret (v := .agg #[.slice p1 ls.length k1, .slice p2 ss.length k2]) (by simp [results, Tryd.results6, go_sem, cz0, cz1]) rfl ⟨⟨_, _, rfl, by
    have h9 := OwB.mk2 (B := w3.heap.size) HOs6.out.1 HOt6.out.1 (Nat.le_refl _) hlt5 hlt1
    have h10 := ((h9.set (a := ⟨w.heap.size + 2, 1, none⟩) hlo (.slice p2 ss.length k2)).set (a := ⟨w.heap.size + 1, 0, none⟩) hlz (.slice p1 ls.length k1)).set (a := ⟨w.heap.size + 1, 1, none⟩) hlz (.slice p2 ss.length k2)
    exact h10.mono (by omega) (by simp)⟩, ((HB6.out.setCell (p := ⟨w.heap.size + 2, 1, none⟩) (by show w.heap.size ≤ w.heap.size + 2; omega) _).setCell (p := ⟨w.heap.size + 1, 0, none⟩) (by show w.heap.size ≤ w.heap.size + 1; omega) _).setCell (p := ⟨w.heap.size + 1, 1, none⟩) (by show w.heap.size ≤ w.heap.size + 1; omega) _⟩

end Go.Proofs.YtgmaelgihlcaeaaDoor
