/- The program's functions for adding. -/
import Derived.Test.YtjkjaadcdolbhaaDoorKe
import Derived.Test.YtjkjaadcdolbhaaDoorInts
namespace Go.Proofs.YtjkjaadcdolbhaaDoor
set_option linter.unusedVariables false
open Go.RowKit

set_option maxRecDepth 100000 in
set_option maxHeartbeats 3200000 in
theorem impAddDigit_no (up lo : Int) (sv : Value) (rs : List (Int × Int)) (q : Int) (d : Int) (w : World) (h : RodsR w sv rs) (hc : ¬ canD up lo rs q d) :
    Calls Tryd.prog 17 #[.agg #[.int .i64 up, .int .i64 lo, sv], .int .i64 q, .int .i64 d] w fun e w' => (∃ sq, e = .returned (.tuple #[.agg #[.int .i64 0, .int .i64 0, sq], .bool false]) ∧ w'.ownsRow w.heap.size 56 2 sq ([] : List (Int × Int)).length (flat ([] : List (Int × Int)))) ∧ Below w.heap.size w w' := by
  obtain ⟨a, cp, rfl⟩ : ∃ a c, sv = .slice a rs.length c := by obtain ⟨a, c, e, _⟩ := h; exact ⟨a, c, e⟩
  have hm : rs.length ≤ 9223372036854775807 := by obtain ⟨_, _, _, ⟨m, _⟩, _⟩ := h; exact m
  have HC := Lib.hid hc
  have HB0 : Hid (Below w.heap.size w w) := Lib.hid (Below.refl _ _)
  have HRf0 := Lib.hid (h)
  clear h hc
  go_enter Tryd.func17, Tryd.ntmps17
  go_wp2_with fail
  have hb : Below w.heap.size w (w.alloc (.cells #[.int .i64 up, .int .i64 lo, .slice a rs.length cp] 26)) := (Below.refl _ _).alloc (Nat.le_refl _) _
  have hk : (w.alloc (.cells #[.int .i64 up, .int .i64 lo, .slice a rs.length cp] 26)).heap[w.heap.size]? = some (.cells #[.int .i64 up, .int .i64 lo, .slice a rs.length cp] 26 (0, 0)) := alloc_at rfl
  have hz : (w.alloc (.cells #[.int .i64 up, .int .i64 lo, .slice a rs.length cp] 26)).heap.size = w.heap.size + 1 := by simp
  generalize w.alloc (.cells #[.int .i64 up, .int .i64 lo, .slice a rs.length cp] 26) = w1 at hb hk hz ⊢
  have HB1 : Hid (Below w.heap.size w w1) := Lib.hid (HB0.out.trans (hb.mono HB0.out.size))
  have HZ1 : Hid (w.heap.size ≤ w1.heap.size) := Lib.hid hb.size
  have HRf1 := Lib.hid (HRf0.out.below HB1.out (Nat.le_refl _))
  have HKf1 := Lib.hid hk
  replace HZ1 : Hid (w.heap.size < w1.heap.size) := Lib.hid (by omega)
  have HE1 := Lib.hid hz
  clear hb hk hz
  have hb : Below w1.heap.size w1 (w1.alloc (.cells #[.int .i64 0, .int .i64 0, .slice none 0 0] 26)) := (Below.refl _ _).alloc (Nat.le_refl _) _
  have hk : (w1.alloc (.cells #[.int .i64 0, .int .i64 0, .slice none 0 0] 26)).heap[w.heap.size + 1]? = some (.cells #[.int .i64 0, .int .i64 0, .slice none 0 0] 26 (0, 0)) := alloc_at (by have := HE1.out; omega)
  have hz : (w1.alloc (.cells #[.int .i64 0, .int .i64 0, .slice none 0 0] 26)).heap.size = w1.heap.size + 1 := by simp
  generalize w1.alloc (.cells #[.int .i64 0, .int .i64 0, .slice none 0 0] 26) = w2 at hb hk hz ⊢
  have HB2 : Hid (Below w.heap.size w w2) := Lib.hid (HB1.out.trans (hb.mono HB1.out.size))
  have HZ2 : Hid (w1.heap.size ≤ w2.heap.size) := Lib.hid hb.size
  have HRf2 := Lib.hid (HRf0.out.below HB2.out (Nat.le_refl _))
  have HKf2 := Lib.hid ((hb.block _ (lt_of_block HKf1.out)).trans HKf1.out)
  have HKz2 := Lib.hid hk
  replace HZ2 : Hid (w1.heap.size < w2.heap.size) := Lib.hid (by omega)
  have HE2 := Lib.hid hz
  clear hb hk hz
  have ltf := lt_of_block HKf2.out
  obtain ⟨cf0, cf1, cf2, ff0, ff1, ff2⟩ := cell3 HKf2.out
  have ltz := lt_of_block HKz2.out
  obtain ⟨cz0, cz1, cz2, fz0, fz1, fz2⟩ := cell3 HKz2.out
  go_wp2_with fail
  refine (adDg_no up lo _ rs q d _ HRf2.out HC.out).mono ?_
  rintro e w3 ⟨rfl, hb⟩
  have HB3 : Hid (Below w.heap.size w w3) := Lib.hid (HB2.out.trans (hb.mono HB2.out.size))
  have HZ3 : Hid (w2.heap.size ≤ w3.heap.size) := Lib.hid hb.size
  have HRf3 := Lib.hid (HRf0.out.below HB3.out (Nat.le_refl _))
  have HKf3 := Lib.hid ((hb.block _ (lt_of_block HKf2.out)).trans HKf2.out)
  have HKz3 := Lib.hid ((hb.block _ (lt_of_block HKz2.out)).trans HKz2.out)
  clear hb
  have hzl := lt_of_block HKz3.out
  clear cf0 cf1 cf2 ff0 ff1 ff2 ltf cz0 cz1 cz2 fz0 fz1 fz2 ltz
  have ltf := lt_of_block HKf3.out
  obtain ⟨cf0, cf1, cf2, ff0, ff1, ff2⟩ := cell3 HKf3.out
  have ltz := lt_of_block HKz3.out
  obtain ⟨cz0, cz1, cz2, fz0, fz1, fz2⟩ := cell3 HKz3.out
  go_wp2_with fail
  have hkz := (alloc_old (w := (((w3.setCell ⟨w.heap.size + 1, 0, none⟩ (.int .i64 0)).setCell ⟨w.heap.size + 1, 1, none⟩ (.int .i64 0)).setCell ⟨w.heap.size + 1, 2, none⟩ (.slice none 0 0))) (o := (.cells #[.int .i64 0, .int .i64 0, .slice none 0 0, .slice none 0 0, .int .i64 0, .int .i64 0, .int .i64 0, .int .i64 0, .int .i64 0] 49)) (k := w.heap.size + 1) (by simp; exact ltz)).trans (box3_set HKz3.out (.int .i64 0) (.int .i64 0) (.slice none 0 0))
  have hbz : Below w.heap.size w ((((w3.setCell ⟨w.heap.size + 1, 0, none⟩ (.int .i64 0)).setCell ⟨w.heap.size + 1, 1, none⟩ (.int .i64 0)).setCell ⟨w.heap.size + 1, 2, none⟩ (.slice none 0 0)).alloc (.cells #[.int .i64 0, .int .i64 0, .slice none 0 0, .slice none 0 0, .int .i64 0, .int .i64 0, .int .i64 0, .int .i64 0, .int .i64 0] 49)) := (bl_set3 HB3.out (Nat.le_succ _) _ _ _).alloc (by simp; exact HB3.out.size) _
  generalize (((w3.setCell ⟨w.heap.size + 1, 0, none⟩ (.int .i64 0)).setCell ⟨w.heap.size + 1, 1, none⟩ (.int .i64 0)).setCell ⟨w.heap.size + 1, 2, none⟩ (.slice none 0 0)).alloc (.cells #[.int .i64 0, .int .i64 0, .slice none 0 0, .slice none 0 0, .int .i64 0, .int .i64 0, .int .i64 0, .int .i64 0, .int .i64 0] 49) = W9 at hkz hbz ⊢
  obtain ⟨y0, y1, y2, _, _, _⟩ := cell3 hkz
  exact bodyPost_ret (v := .tuple #[.agg #[.int .i64 0, .int .i64 0, .slice none 0 0], .bool false]) (by simp [results, Tryd.results17, go_sem, y0, y1, y2]) rfl ⟨⟨_, rfl, own_nil _ _ _ _⟩, hbz⟩

set_option maxRecDepth 100000 in
set_option maxHeartbeats 3200000 in
theorem impAddDigit_yes (up lo : Int) (sv : Value) (rs : List (Int × Int)) (qn : Nat) (d : Int) (w : World) (h : RodsR w sv rs) (hc : canD up lo rs qn d) :
    Calls Tryd.prog 17 #[.agg #[.int .i64 up, .int .i64 lo, sv], .int .i64 qn, .int .i64 d] w fun e w' => (∃ sq, e = .returned (.tuple #[.agg #[.int .i64 up, .int .i64 lo, sq], .bool true]) ∧ w'.ownsRow w.heap.size 56 2 sq (chR (qn + 1) d rs).length (flat (chR (qn + 1) d rs))) ∧ Below w.heap.size w w' := by
  obtain ⟨a, cp, rfl⟩ : ∃ a c, sv = .slice a rs.length c := by obtain ⟨a, c, e, _⟩ := h; exact ⟨a, c, e⟩
  have hm : rs.length ≤ 9223372036854775807 := by obtain ⟨_, _, _, ⟨m, _⟩, _⟩ := h; exact m
  have HC := Lib.hid hc
  obtain ⟨MT, hMT⟩ : ∃ MT, (chM (qn + 1) d rs) = MT := ⟨_, rfl⟩
  obtain ⟨RT, hRT⟩ : ∃ RT, (chR (qn + 1) d rs) = RT := ⟨_, rfl⟩
  obtain ⟨CN, hCN⟩ : ∃ CN, (chC (qn + 1) d rs) = CN := ⟨_, rfl⟩
  have hCB : CN ≤ 64 := by rw [← hCN]; have := chC_le (qn + 1) d rs; have := hc.1.2.2.2; have := hc.2.2.1; omega
  rw [hRT]
  have GM := Lib.hid hMT
  have GR := Lib.hid hRT
  have GC := Lib.hid hCN
  clear hMT hRT hCN
  have HB0 : Hid (Below w.heap.size w w) := Lib.hid (Below.refl _ _)
  have HRf0 := Lib.hid (h)
  clear h hc
  go_enter Tryd.func17, Tryd.ntmps17
  go_wp2_with fail
  have hb : Below w.heap.size w (w.alloc (.cells #[.int .i64 up, .int .i64 lo, .slice a rs.length cp] 26)) := (Below.refl _ _).alloc (Nat.le_refl _) _
  have hk : (w.alloc (.cells #[.int .i64 up, .int .i64 lo, .slice a rs.length cp] 26)).heap[w.heap.size]? = some (.cells #[.int .i64 up, .int .i64 lo, .slice a rs.length cp] 26 (0, 0)) := alloc_at rfl
  have hz : (w.alloc (.cells #[.int .i64 up, .int .i64 lo, .slice a rs.length cp] 26)).heap.size = w.heap.size + 1 := by simp
  generalize w.alloc (.cells #[.int .i64 up, .int .i64 lo, .slice a rs.length cp] 26) = w1 at hb hk hz ⊢
  have HB1 : Hid (Below w.heap.size w w1) := Lib.hid (HB0.out.trans (hb.mono HB0.out.size))
  have HZ1 : Hid (w.heap.size ≤ w1.heap.size) := Lib.hid hb.size
  have HRf1 := Lib.hid (HRf0.out.below HB1.out (Nat.le_refl _))
  have HKf1 := Lib.hid hk
  replace HZ1 : Hid (w.heap.size < w1.heap.size) := Lib.hid (by omega)
  have HE1 := Lib.hid hz
  clear hb hk hz
  have hb : Below w1.heap.size w1 (w1.alloc (.cells #[.int .i64 0, .int .i64 0, .slice none 0 0] 26)) := (Below.refl _ _).alloc (Nat.le_refl _) _
  have hk : (w1.alloc (.cells #[.int .i64 0, .int .i64 0, .slice none 0 0] 26)).heap[w.heap.size + 1]? = some (.cells #[.int .i64 0, .int .i64 0, .slice none 0 0] 26 (0, 0)) := alloc_at (by have := HE1.out; omega)
  have hz : (w1.alloc (.cells #[.int .i64 0, .int .i64 0, .slice none 0 0] 26)).heap.size = w1.heap.size + 1 := by simp
  generalize w1.alloc (.cells #[.int .i64 0, .int .i64 0, .slice none 0 0] 26) = w2 at hb hk hz ⊢
  have HB2 : Hid (Below w.heap.size w w2) := Lib.hid (HB1.out.trans (hb.mono HB1.out.size))
  have HZ2 : Hid (w1.heap.size ≤ w2.heap.size) := Lib.hid hb.size
  have HRf2 := Lib.hid (HRf0.out.below HB2.out (Nat.le_refl _))
  have HKf2 := Lib.hid ((hb.block _ (lt_of_block HKf1.out)).trans HKf1.out)
  have HKz2 := Lib.hid hk
  replace HZ2 : Hid (w1.heap.size < w2.heap.size) := Lib.hid (by omega)
  have HE2 := Lib.hid hz
  clear hb hk hz
  have ltf := lt_of_block HKf2.out
  obtain ⟨cf0, cf1, cf2, ff0, ff1, ff2⟩ := cell3 HKf2.out
  have ltz := lt_of_block HKz2.out
  obtain ⟨cz0, cz1, cz2, fz0, fz1, fz2⟩ := cell3 HKz2.out
  go_wp2_with fail
  refine (adDg_yes up lo _ rs qn d _ HRf2.out HC.out).mono ?_
  rintro e w3 ⟨⟨s1, g1, m1, j0, j1, j2, j3, rfl, or, om⟩, hb⟩
  have HB3 : Hid (Below w.heap.size w w3) := Lib.hid (HB2.out.trans (hb.mono HB2.out.size))
  have HZ3 : Hid (w2.heap.size ≤ w3.heap.size) := Lib.hid hb.size
  have HRf3 := Lib.hid (HRf0.out.below HB3.out (Nat.le_refl _))
  have HKf3 := Lib.hid ((hb.block _ (lt_of_block HKf2.out)).trans HKf2.out)
  have HKz3 := Lib.hid ((hb.block _ (lt_of_block HKz2.out)).trans HKz2.out)
  clear hb
  rw [GM.out] at om
  rw [GR.out] at or
  simp only [GM.out, GC.out]
  obtain ⟨pr, kr, rfl⟩ := own_form or
  have HOr3 := Lib.hid (Ow.mk' or)
  have HOm3 := Lib.hid (Ow.mk' om)
  clear or om
  have hzl := lt_of_block HKz3.out
  clear cf0 cf1 cf2 ff0 ff1 ff2 ltf cz0 cz1 cz2 fz0 fz1 fz2 ltz
  have ltf := lt_of_block HKf3.out
  obtain ⟨cf0, cf1, cf2, ff0, ff1, ff2⟩ := cell3 HKf3.out
  have ltz := lt_of_block HKz3.out
  obtain ⟨cz0, cz1, cz2, fz0, fz1, fz2⟩ := cell3 HKz3.out
  go_wp2_with fail
  have hkz := (alloc_old (w := (((w3.setCell ⟨w.heap.size + 1, 0, none⟩ (.int .i64 up)).setCell ⟨w.heap.size + 1, 1, none⟩ (.int .i64 lo)).setCell ⟨w.heap.size + 1, 2, none⟩ (.slice pr RT.length kr))) (o := (.cells #[.int .i64 up, .int .i64 lo, .slice pr RT.length kr, .slice (some ⟨g1, 0, none⟩) MT.length m1, .int .i64 (CN : Int), .int .i64 j0, .int .i64 j1, .int .i64 j2, .int .i64 j3] 49)) (k := w.heap.size + 1) (by simp; exact ltz)).trans (box3_set HKz3.out (.int .i64 up) (.int .i64 lo) (.slice pr RT.length kr))
  have hbz : Below w.heap.size w ((((w3.setCell ⟨w.heap.size + 1, 0, none⟩ (.int .i64 up)).setCell ⟨w.heap.size + 1, 1, none⟩ (.int .i64 lo)).setCell ⟨w.heap.size + 1, 2, none⟩ (.slice pr RT.length kr)).alloc (.cells #[.int .i64 up, .int .i64 lo, .slice pr RT.length kr, .slice (some ⟨g1, 0, none⟩) MT.length m1, .int .i64 (CN : Int), .int .i64 j0, .int .i64 j1, .int .i64 j2, .int .i64 j3] 49)) := (bl_set3 HB3.out (Nat.le_succ _) _ _ _).alloc (by simp; exact HB3.out.size) _
  have hlz : w.heap.size + 1 < w2.heap.size := by have := lt_of_block HKz2.out; omega
  have hoz := (own_set3 HOr3.out.1 hlz (.int .i64 up) (.int .i64 lo) (.slice pr RT.length kr)).alloc (.cells #[.int .i64 up, .int .i64 lo, .slice pr RT.length kr, .slice (some ⟨g1, 0, none⟩) MT.length m1, .int .i64 (CN : Int), .int .i64 j0, .int .i64 j1, .int .i64 j2, .int .i64 j3] 49)
  have hpz : w.heap.size ≤ w2.heap.size := by omega
  generalize (((w3.setCell ⟨w.heap.size + 1, 0, none⟩ (.int .i64 up)).setCell ⟨w.heap.size + 1, 1, none⟩ (.int .i64 lo)).setCell ⟨w.heap.size + 1, 2, none⟩ (.slice pr RT.length kr)).alloc (.cells #[.int .i64 up, .int .i64 lo, .slice pr RT.length kr, .slice (some ⟨g1, 0, none⟩) MT.length m1, .int .i64 (CN : Int), .int .i64 j0, .int .i64 j1, .int .i64 j2, .int .i64 j3] 49) = W9 at hkz hbz hoz ⊢
  obtain ⟨y0, y1, y2, _, _, _⟩ := cell3 hkz
  exact bodyPost_ret (v := .tuple #[.agg #[.int .i64 up, .int .i64 lo, .slice pr RT.length kr], .bool true]) (by simp [results, Tryd.results17, go_sem, y0, y1, y2]) rfl ⟨⟨_, rfl, own_mono hoz hpz⟩, hbz⟩

set_option maxRecDepth 100000 in
set_option maxHeartbeats 3200000 in
theorem impCarriesOf_no (up lo : Int) (sv : Value) (rs : List (Int × Int)) (q : Int) (w : World) (h : RodsR w sv rs) (hb : -9223372036854775808 ≤ q ∧ q ≤ 9223372036854775807) (hc : ¬ canF up lo rs q) :
    Calls Tryd.prog 6 #[.agg #[.int .i64 up, .int .i64 lo, sv], .int .i64 q] w fun e w' => e = .returned (.tuple #[.int .i64 0, .bool false]) ∧ Below w.heap.size w w' := by
  obtain ⟨a, cp, rfl⟩ : ∃ a c, sv = .slice a rs.length c := by obtain ⟨a, c, e, _⟩ := h; exact ⟨a, c, e⟩
  have hm : rs.length ≤ 9223372036854775807 := by obtain ⟨_, _, _, ⟨m, _⟩, _⟩ := h; exact m
  have HC := Lib.hid hc
  have HQ := Lib.hid hb
  have HB0 : Hid (Below w.heap.size w w) := Lib.hid (Below.refl _ _)
  have HRf0 := Lib.hid (h)
  clear h hc hb
  go_enter Tryd.func6, Tryd.ntmps6
  go_wp2_with fail
  have hb : Below w.heap.size w (w.alloc (.cells #[.int .i64 up, .int .i64 lo, .slice a rs.length cp] 26)) := (Below.refl _ _).alloc (Nat.le_refl _) _
  have hk : (w.alloc (.cells #[.int .i64 up, .int .i64 lo, .slice a rs.length cp] 26)).heap[w.heap.size]? = some (.cells #[.int .i64 up, .int .i64 lo, .slice a rs.length cp] 26 (0, 0)) := alloc_at rfl
  have hz : (w.alloc (.cells #[.int .i64 up, .int .i64 lo, .slice a rs.length cp] 26)).heap.size = w.heap.size + 1 := by simp
  generalize w.alloc (.cells #[.int .i64 up, .int .i64 lo, .slice a rs.length cp] 26) = w1 at hb hk hz ⊢
  have HB1 : Hid (Below w.heap.size w w1) := Lib.hid (HB0.out.trans (hb.mono HB0.out.size))
  have HZ1 : Hid (w.heap.size ≤ w1.heap.size) := Lib.hid hb.size
  have HRf1 := Lib.hid (HRf0.out.below HB1.out (Nat.le_refl _))
  have HKf1 := Lib.hid hk
  replace HZ1 : Hid (w.heap.size < w1.heap.size) := Lib.hid (by omega)
  have HE1 := Lib.hid hz
  clear hb hk hz
  refine (adOf_no up lo _ rs q _ HRf1.out HQ.out HC.out).mono ?_
  rintro e w2 ⟨rfl, hb⟩
  have HB2 : Hid (Below w.heap.size w w2) := Lib.hid (HB1.out.trans (hb.mono HB1.out.size))
  have HZ2 : Hid (w1.heap.size ≤ w2.heap.size) := Lib.hid hb.size
  have HRf2 := Lib.hid (HRf0.out.below HB2.out (Nat.le_refl _))
  have HKf2 := Lib.hid ((hb.block _ (lt_of_block HKf1.out)).trans HKf1.out)
  clear hb
  have ltf := lt_of_block HKf2.out
  obtain ⟨cf0, cf1, cf2, ff0, ff1, ff2⟩ := cell3 HKf2.out
  go_wp2_with fail
  go_ret2
  exact ⟨rfl, HB2.out.alloc HB2.out.size _⟩

set_option maxRecDepth 100000 in
set_option maxHeartbeats 3200000 in
theorem impCarriesOf_yes (up lo : Int) (sv : Value) (rs : List (Int × Int)) (q : Int) (w : World) (h : RodsR w sv rs) (hc : canF up lo rs q) :
    Calls Tryd.prog 6 #[.agg #[.int .i64 up, .int .i64 lo, sv], .int .i64 q] w fun e w' => e = .returned (.tuple #[.int .i64 ((goC 0 (digs rs.length q) rs : Nat) : Int), .bool true]) ∧ Below w.heap.size w w' := by
  obtain ⟨a, cp, rfl⟩ : ∃ a c, sv = .slice a rs.length c := by obtain ⟨a, c, e, _⟩ := h; exact ⟨a, c, e⟩
  have hm : rs.length ≤ 9223372036854775807 := by obtain ⟨_, _, _, ⟨m, _⟩, _⟩ := h; exact m
  have HC := Lib.hid hc
  obtain ⟨MT, hMT⟩ : ∃ MT, (goM 0 (digs rs.length q) rs) = MT := ⟨_, rfl⟩
  obtain ⟨RT, hRT⟩ : ∃ RT, (goR 0 (digs rs.length q) rs) = RT := ⟨_, rfl⟩
  obtain ⟨CN, hCN⟩ : ∃ CN, (goC 0 (digs rs.length q) rs) = CN := ⟨_, rfl⟩
  have hCB : CN ≤ 64 := by rw [← hCN]; exact goC_small rs.length q rs hc.1.2.2.2.2
  rw [hCN]
  have GM := Lib.hid hMT
  have GR := Lib.hid hRT
  have GC := Lib.hid hCN
  clear hMT hRT hCN
  have HB0 : Hid (Below w.heap.size w w) := Lib.hid (Below.refl _ _)
  have HRf0 := Lib.hid (h)
  clear h hc
  go_enter Tryd.func6, Tryd.ntmps6
  go_wp2_with fail
  have hb : Below w.heap.size w (w.alloc (.cells #[.int .i64 up, .int .i64 lo, .slice a rs.length cp] 26)) := (Below.refl _ _).alloc (Nat.le_refl _) _
  have hk : (w.alloc (.cells #[.int .i64 up, .int .i64 lo, .slice a rs.length cp] 26)).heap[w.heap.size]? = some (.cells #[.int .i64 up, .int .i64 lo, .slice a rs.length cp] 26 (0, 0)) := alloc_at rfl
  have hz : (w.alloc (.cells #[.int .i64 up, .int .i64 lo, .slice a rs.length cp] 26)).heap.size = w.heap.size + 1 := by simp
  generalize w.alloc (.cells #[.int .i64 up, .int .i64 lo, .slice a rs.length cp] 26) = w1 at hb hk hz ⊢
  have HB1 : Hid (Below w.heap.size w w1) := Lib.hid (HB0.out.trans (hb.mono HB0.out.size))
  have HZ1 : Hid (w.heap.size ≤ w1.heap.size) := Lib.hid hb.size
  have HRf1 := Lib.hid (HRf0.out.below HB1.out (Nat.le_refl _))
  have HKf1 := Lib.hid hk
  replace HZ1 : Hid (w.heap.size < w1.heap.size) := Lib.hid (by omega)
  have HE1 := Lib.hid hz
  clear hb hk hz
  refine (adOf_yes up lo _ rs q _ HRf1.out HC.out).mono ?_
  rintro e w2 ⟨⟨s1, g1, m1, j0, j1, j2, j3, rfl, hks, or, om⟩, hb⟩
  have HB2 : Hid (Below w.heap.size w w2) := Lib.hid (HB1.out.trans (hb.mono HB1.out.size))
  have HZ2 : Hid (w1.heap.size ≤ w2.heap.size) := Lib.hid hb.size
  have HRf2 := Lib.hid (HRf0.out.below HB2.out (Nat.le_refl _))
  have HKf2 := Lib.hid ((hb.block _ (lt_of_block HKf1.out)).trans HKf1.out)
  clear hb
  rw [GM.out] at om
  rw [GR.out] at or
  simp only [GM.out, GC.out]
  obtain ⟨pr, kr, rfl⟩ := own_form or
  have HOr2 := Lib.hid (Ow.mk' or)
  have HOm2 := Lib.hid (Ow.mk' om)
  clear or om hks
  have ltf := lt_of_block HKf2.out
  obtain ⟨cf0, cf1, cf2, ff0, ff1, ff2⟩ := cell3 HKf2.out
  go_wp2_with fail
  go_ret2
  exact ⟨rfl, HB2.out.alloc HB2.out.size _⟩

set_option maxRecDepth 100000 in
set_option maxHeartbeats 3200000 in
theorem impKindsUsed_no (up lo : Int) (sv : Value) (rs : List (Int × Int)) (q : Int) (w : World) (h : RodsR w sv rs) (hb : -9223372036854775808 ≤ q ∧ q ≤ 9223372036854775807) (hc : ¬ canF up lo rs q) :
    Calls Tryd.prog 8 #[.agg #[.int .i64 up, .int .i64 lo, sv], .int .i64 q] w fun e w' => (∃ sq, e = .returned (.tuple #[sq, .bool false]) ∧ w'.ownsRow w.heap.size 3 1 sq ([] : List Int).length (flatC inC ([] : List Int))) ∧ Below w.heap.size w w' := by
  obtain ⟨a, cp, rfl⟩ : ∃ a c, sv = .slice a rs.length c := by obtain ⟨a, c, e, _⟩ := h; exact ⟨a, c, e⟩
  have hm : rs.length ≤ 9223372036854775807 := by obtain ⟨_, _, _, ⟨m, _⟩, _⟩ := h; exact m
  have HC := Lib.hid hc
  have HQ := Lib.hid hb
  have HB0 : Hid (Below w.heap.size w w) := Lib.hid (Below.refl _ _)
  have HRf0 := Lib.hid (h)
  clear h hc hb
  go_enter Tryd.func8, Tryd.ntmps8
  go_wp2_with fail
  have hb : Below w.heap.size w (w.alloc (.cells #[.int .i64 up, .int .i64 lo, .slice a rs.length cp] 26)) := (Below.refl _ _).alloc (Nat.le_refl _) _
  have hk : (w.alloc (.cells #[.int .i64 up, .int .i64 lo, .slice a rs.length cp] 26)).heap[w.heap.size]? = some (.cells #[.int .i64 up, .int .i64 lo, .slice a rs.length cp] 26 (0, 0)) := alloc_at rfl
  have hz : (w.alloc (.cells #[.int .i64 up, .int .i64 lo, .slice a rs.length cp] 26)).heap.size = w.heap.size + 1 := by simp
  generalize w.alloc (.cells #[.int .i64 up, .int .i64 lo, .slice a rs.length cp] 26) = w1 at hb hk hz ⊢
  have HB1 : Hid (Below w.heap.size w w1) := Lib.hid (HB0.out.trans (hb.mono HB0.out.size))
  have HZ1 : Hid (w.heap.size ≤ w1.heap.size) := Lib.hid hb.size
  have HRf1 := Lib.hid (HRf0.out.below HB1.out (Nat.le_refl _))
  have HKf1 := Lib.hid hk
  replace HZ1 : Hid (w.heap.size < w1.heap.size) := Lib.hid (by omega)
  have HE1 := Lib.hid hz
  clear hb hk hz
  refine (adOf_no up lo _ rs q _ HRf1.out HQ.out HC.out).mono ?_
  rintro e w2 ⟨rfl, hb⟩
  have HB2 : Hid (Below w.heap.size w w2) := Lib.hid (HB1.out.trans (hb.mono HB1.out.size))
  have HZ2 : Hid (w1.heap.size ≤ w2.heap.size) := Lib.hid hb.size
  have HRf2 := Lib.hid (HRf0.out.below HB2.out (Nat.le_refl _))
  have HKf2 := Lib.hid ((hb.block _ (lt_of_block HKf1.out)).trans HKf1.out)
  clear hb
  have ltf := lt_of_block HKf2.out
  obtain ⟨cf0, cf1, cf2, ff0, ff1, ff2⟩ := cell3 HKf2.out
  go_wp2_with fail
  go_ret2
  exact ⟨⟨_, rfl, (by have := World.ownsRow_made (base := w.heap.size) (e := 3) (size := 1) (w2.alloc (.cells #[.int .i64 0, .int .i64 0, .slice none 0 0, .slice none 0 0, .int .i64 0, .int .i64 0, .int .i64 0, .int .i64 0, .int .i64 0] 49)) #[] 0 (by have := HB2.out.size; simp; omega) (Nat.zero_le _) (by simp); rw [show (w2.alloc (.cells #[.int .i64 0, .int .i64 0, .slice none 0 0, .slice none 0 0, .int .i64 0, .int .i64 0, .int .i64 0, .int .i64 0, .int .i64 0] 49)).heap.size = w2.heap.size + 1 by simp] at this; exact this)⟩, (HB2.out.alloc HB2.out.size _).alloc (by have := HB2.out.size; simp; omega) _⟩

set_option maxRecDepth 100000 in
set_option maxHeartbeats 3200000 in
theorem impKindsUsed_yes (up lo : Int) (sv : Value) (rs : List (Int × Int)) (q : Int) (w : World) (h : RodsR w sv rs) (hc : canF up lo rs q) :
    Calls Tryd.prog 8 #[.agg #[.int .i64 up, .int .i64 lo, sv], .int .i64 q] w fun e w' => (∃ (g : Nat) (j0 j1 j2 j3 : Int), e = .returned (.tuple #[.slice (some ⟨g, 5, none⟩) 4 4, .bool true]) ∧ [j0, j1, j2, j3] = goK 0 (digs rs.length q) rs [0, 0, 0, 0] ∧ w.heap.size ≤ g ∧ g < w'.heap.size ∧ ∃ x0 x1 x2 x3 x4, w'.heap[g]? = some (.cells #[x0, x1, x2, x3, x4, .int .i64 j0, .int .i64 j1, .int .i64 j2, .int .i64 j3] 49 (0, 0))) ∧ Below w.heap.size w w' := by
  obtain ⟨a, cp, rfl⟩ : ∃ a c, sv = .slice a rs.length c := by obtain ⟨a, c, e, _⟩ := h; exact ⟨a, c, e⟩
  have hm : rs.length ≤ 9223372036854775807 := by obtain ⟨_, _, _, ⟨m, _⟩, _⟩ := h; exact m
  have HC := Lib.hid hc
  obtain ⟨MT, hMT⟩ : ∃ MT, (goM 0 (digs rs.length q) rs) = MT := ⟨_, rfl⟩
  obtain ⟨RT, hRT⟩ : ∃ RT, (goR 0 (digs rs.length q) rs) = RT := ⟨_, rfl⟩
  obtain ⟨CN, hCN⟩ : ∃ CN, (goC 0 (digs rs.length q) rs) = CN := ⟨_, rfl⟩
  have hCB : CN ≤ 64 := by rw [← hCN]; exact goC_small rs.length q rs hc.1.2.2.2.2
  have GM := Lib.hid hMT
  have GR := Lib.hid hRT
  have GC := Lib.hid hCN
  clear hMT hRT hCN
  have HB0 : Hid (Below w.heap.size w w) := Lib.hid (Below.refl _ _)
  have HRf0 := Lib.hid (h)
  clear h hc
  go_enter Tryd.func8, Tryd.ntmps8
  go_wp2_with fail
  have hb : Below w.heap.size w (w.alloc (.cells #[.int .i64 up, .int .i64 lo, .slice a rs.length cp] 26)) := (Below.refl _ _).alloc (Nat.le_refl _) _
  have hk : (w.alloc (.cells #[.int .i64 up, .int .i64 lo, .slice a rs.length cp] 26)).heap[w.heap.size]? = some (.cells #[.int .i64 up, .int .i64 lo, .slice a rs.length cp] 26 (0, 0)) := alloc_at rfl
  have hz : (w.alloc (.cells #[.int .i64 up, .int .i64 lo, .slice a rs.length cp] 26)).heap.size = w.heap.size + 1 := by simp
  generalize w.alloc (.cells #[.int .i64 up, .int .i64 lo, .slice a rs.length cp] 26) = w1 at hb hk hz ⊢
  have HB1 : Hid (Below w.heap.size w w1) := Lib.hid (HB0.out.trans (hb.mono HB0.out.size))
  have HZ1 : Hid (w.heap.size ≤ w1.heap.size) := Lib.hid hb.size
  have HRf1 := Lib.hid (HRf0.out.below HB1.out (Nat.le_refl _))
  have HKf1 := Lib.hid hk
  replace HZ1 : Hid (w.heap.size < w1.heap.size) := Lib.hid (by omega)
  have HE1 := Lib.hid hz
  clear hb hk hz
  refine (adOf_yes up lo _ rs q _ HRf1.out HC.out).mono ?_
  rintro e w2 ⟨⟨s1, g1, m1, j0, j1, j2, j3, rfl, hks, or, om⟩, hb⟩
  have HB2 : Hid (Below w.heap.size w w2) := Lib.hid (HB1.out.trans (hb.mono HB1.out.size))
  have HZ2 : Hid (w1.heap.size ≤ w2.heap.size) := Lib.hid hb.size
  have HRf2 := Lib.hid (HRf0.out.below HB2.out (Nat.le_refl _))
  have HKf2 := Lib.hid ((hb.block _ (lt_of_block HKf1.out)).trans HKf1.out)
  clear hb
  rw [GM.out] at om
  rw [GR.out] at or
  simp only [GM.out, GC.out]
  obtain ⟨pr, kr, rfl⟩ := own_form or
  have HOr2 := Lib.hid (Ow.mk' or)
  have HOm2 := Lib.hid (Ow.mk' om)
  clear or om
  have HKS := Lib.hid hks
  clear hks
  have ltf := lt_of_block HKf2.out
  obtain ⟨cf0, cf1, cf2, ff0, ff1, ff2⟩ := cell3 HKf2.out
  go_wp2_with fail
  go_ret2
  exact ⟨⟨w2.heap.size, j0, j1, j2, j3, rfl, HKS.out, HB2.out.size, by simp, _, _, _, _, _, alloc_at rfl⟩, HB2.out.alloc HB2.out.size _⟩

set_option maxRecDepth 100000 in
set_option maxHeartbeats 3200000 in
theorem impLongestCarry_no (up lo : Int) (sv : Value) (rs : List (Int × Int)) (q : Int) (w : World) (h : RodsR w sv rs) (hc : ¬ canD up lo rs q 1) :
    Calls Tryd.prog 15 #[.agg #[.int .i64 up, .int .i64 lo, sv], .int .i64 q] w fun e w' => e = .returned (.tuple #[.int .i64 0, .bool false]) ∧ Below w.heap.size w w' := by
  obtain ⟨a, cp, rfl⟩ : ∃ a c, sv = .slice a rs.length c := by obtain ⟨a, c, e, _⟩ := h; exact ⟨a, c, e⟩
  have hm : rs.length ≤ 9223372036854775807 := by obtain ⟨_, _, _, ⟨m, _⟩, _⟩ := h; exact m
  have HC := Lib.hid hc
  have HB0 : Hid (Below w.heap.size w w) := Lib.hid (Below.refl _ _)
  have HRf0 := Lib.hid (h)
  clear h hc
  go_enter Tryd.func15, Tryd.ntmps15
  go_wp2_with fail
  have hb : Below w.heap.size w (w.alloc (.cells #[.int .i64 up, .int .i64 lo, .slice a rs.length cp] 26)) := (Below.refl _ _).alloc (Nat.le_refl _) _
  have hk : (w.alloc (.cells #[.int .i64 up, .int .i64 lo, .slice a rs.length cp] 26)).heap[w.heap.size]? = some (.cells #[.int .i64 up, .int .i64 lo, .slice a rs.length cp] 26 (0, 0)) := alloc_at rfl
  have hz : (w.alloc (.cells #[.int .i64 up, .int .i64 lo, .slice a rs.length cp] 26)).heap.size = w.heap.size + 1 := by simp
  generalize w.alloc (.cells #[.int .i64 up, .int .i64 lo, .slice a rs.length cp] 26) = w1 at hb hk hz ⊢
  have HB1 : Hid (Below w.heap.size w w1) := Lib.hid (HB0.out.trans (hb.mono HB0.out.size))
  have HZ1 : Hid (w.heap.size ≤ w1.heap.size) := Lib.hid hb.size
  have HRf1 := Lib.hid (HRf0.out.below HB1.out (Nat.le_refl _))
  have HKf1 := Lib.hid hk
  replace HZ1 : Hid (w.heap.size < w1.heap.size) := Lib.hid (by omega)
  have HE1 := Lib.hid hz
  clear hb hk hz
  refine (adDg_no up lo _ rs q 1 _ HRf1.out HC.out).mono ?_
  rintro e w2 ⟨rfl, hb⟩
  have HB2 : Hid (Below w.heap.size w w2) := Lib.hid (HB1.out.trans (hb.mono HB1.out.size))
  have HZ2 : Hid (w1.heap.size ≤ w2.heap.size) := Lib.hid hb.size
  have HRf2 := Lib.hid (HRf0.out.below HB2.out (Nat.le_refl _))
  have HKf2 := Lib.hid ((hb.block _ (lt_of_block HKf1.out)).trans HKf1.out)
  clear hb
  have ltf := lt_of_block HKf2.out
  obtain ⟨cf0, cf1, cf2, ff0, ff1, ff2⟩ := cell3 HKf2.out
  go_wp2_with fail
  go_ret2
  exact ⟨rfl, HB2.out.alloc HB2.out.size _⟩

set_option maxRecDepth 100000 in
set_option maxHeartbeats 3200000 in
theorem impLongestCarry_yes (up lo : Int) (sv : Value) (rs : List (Int × Int)) (qn : Nat) (w : World) (h : RodsR w sv rs) (hc : canD up lo rs qn 1) :
    Calls Tryd.prog 15 #[.agg #[.int .i64 up, .int .i64 lo, sv], .int .i64 qn] w fun e w' => e = .returned (.tuple #[.int .i64 (((chC (qn + 1) 1 rs : Nat) : Int) + 1), .bool true]) ∧ Below w.heap.size w w' := by
  obtain ⟨a, cp, rfl⟩ : ∃ a c, sv = .slice a rs.length c := by obtain ⟨a, c, e, _⟩ := h; exact ⟨a, c, e⟩
  have hm : rs.length ≤ 9223372036854775807 := by obtain ⟨_, _, _, ⟨m, _⟩, _⟩ := h; exact m
  have HC := Lib.hid hc
  obtain ⟨MT, hMT⟩ : ∃ MT, (chM (qn + 1) 1 rs) = MT := ⟨_, rfl⟩
  obtain ⟨RT, hRT⟩ : ∃ RT, (chR (qn + 1) 1 rs) = RT := ⟨_, rfl⟩
  obtain ⟨CN, hCN⟩ : ∃ CN, (chC (qn + 1) 1 rs) = CN := ⟨_, rfl⟩
  have hCB : CN ≤ 64 := by rw [← hCN]; have := chC_le (qn + 1) 1 rs; have := hc.1.2.2.2; have := hc.2.2.1; omega
  rw [hCN]
  have GM := Lib.hid hMT
  have GR := Lib.hid hRT
  have GC := Lib.hid hCN
  clear hMT hRT hCN
  have HB0 : Hid (Below w.heap.size w w) := Lib.hid (Below.refl _ _)
  have HRf0 := Lib.hid (h)
  clear h hc
  go_enter Tryd.func15, Tryd.ntmps15
  go_wp2_with fail
  have hb : Below w.heap.size w (w.alloc (.cells #[.int .i64 up, .int .i64 lo, .slice a rs.length cp] 26)) := (Below.refl _ _).alloc (Nat.le_refl _) _
  have hk : (w.alloc (.cells #[.int .i64 up, .int .i64 lo, .slice a rs.length cp] 26)).heap[w.heap.size]? = some (.cells #[.int .i64 up, .int .i64 lo, .slice a rs.length cp] 26 (0, 0)) := alloc_at rfl
  have hz : (w.alloc (.cells #[.int .i64 up, .int .i64 lo, .slice a rs.length cp] 26)).heap.size = w.heap.size + 1 := by simp
  generalize w.alloc (.cells #[.int .i64 up, .int .i64 lo, .slice a rs.length cp] 26) = w1 at hb hk hz ⊢
  have HB1 : Hid (Below w.heap.size w w1) := Lib.hid (HB0.out.trans (hb.mono HB0.out.size))
  have HZ1 : Hid (w.heap.size ≤ w1.heap.size) := Lib.hid hb.size
  have HRf1 := Lib.hid (HRf0.out.below HB1.out (Nat.le_refl _))
  have HKf1 := Lib.hid hk
  replace HZ1 : Hid (w.heap.size < w1.heap.size) := Lib.hid (by omega)
  have HE1 := Lib.hid hz
  clear hb hk hz
  refine (adDg_yes up lo _ rs qn 1 _ HRf1.out HC.out).mono ?_
  rintro e w2 ⟨⟨s1, g1, m1, j0, j1, j2, j3, rfl, or, om⟩, hb⟩
  have HB2 : Hid (Below w.heap.size w w2) := Lib.hid (HB1.out.trans (hb.mono HB1.out.size))
  have HZ2 : Hid (w1.heap.size ≤ w2.heap.size) := Lib.hid hb.size
  have HRf2 := Lib.hid (HRf0.out.below HB2.out (Nat.le_refl _))
  have HKf2 := Lib.hid ((hb.block _ (lt_of_block HKf1.out)).trans HKf1.out)
  clear hb
  rw [GM.out] at om
  rw [GR.out] at or
  simp only [GM.out, GC.out]
  obtain ⟨pr, kr, rfl⟩ := own_form or
  have HOr2 := Lib.hid (Ow.mk' or)
  have HOm2 := Lib.hid (Ow.mk' om)
  clear or om
  have ltf := lt_of_block HKf2.out
  obtain ⟨cf0, cf1, cf2, ff0, ff1, ff2⟩ := cell3 HKf2.out
  go_wp2_with fail
  go_ret2
  exact ⟨rfl, HB2.out.alloc HB2.out.size _⟩

end Go.Proofs.YtjkjaadcdolbhaaDoor
