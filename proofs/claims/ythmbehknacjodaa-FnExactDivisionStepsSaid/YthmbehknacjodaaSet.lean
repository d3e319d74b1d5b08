/- SetRod, of the model and of the program: the copies, the rod that is set. -/
import Derived.Test.YthmbehknacjodaaMade
import Derived.Test.YthmbehknacjodaaOwn
import Derived.Lib.SliceRun
import Derived.Lib.Walk
namespace Go.Proofs.Ythmbehknacjodaa
set_option linter.unusedVariables false
open Go.RowKit

set_option maxRecDepth 100000 in
set_option maxHeartbeats 3200000 in
theorem implSetRod_bad (up lo : Int) (sv : Value) (rs : List (Int × Int)) (w : World) (h : RodsR w sv rs) (q d : Int) (hg : ¬ goodF up lo rs) :
    Calls Try.prog 140 #[.agg #[.int .i64 up, .int .i64 lo, sv], .int .i64 q, .int .i64 d] w fun e w' => (∃ sq, e = .returned (.tuple #[.agg #[.int .i64 0, .int .i64 0, sq], .bool false]) ∧ w'.ownsRow w.heap.size 77 2 sq (([] : List (Int × Int))).length (flat ([] : List (Int × Int)))) ∧ Below w.heap.size w w' := by
  obtain ⟨a, c, rfl⟩ : ∃ a c, sv = .slice a rs.length c := by obtain ⟨a, c, e, _⟩ := h; exact ⟨a, c, e⟩
  have hm : rs.length ≤ 9223372036854775807 := by obtain ⟨_, _, _, ⟨m, _⟩, _⟩ := h; exact m
  have HG := Lib.hid hg
  have HB0 : Hid (Below w.heap.size w w) := Lib.hid (Below.refl _ _)
  have HRf0 := Lib.hid (h)
  clear h hg
  go_enter Try.func140, Try.ntmps140
  go_wp2_with fail
  have hb : Below w.heap.size w (w.alloc (.cells #[.int .i64 up, .int .i64 lo, .slice a rs.length c] 42)) := (Below.refl _ _).alloc (Nat.le_refl _) _
  have hk : (w.alloc (.cells #[.int .i64 up, .int .i64 lo, .slice a rs.length c] 42)).heap[w.heap.size]? = some (.cells #[.int .i64 up, .int .i64 lo, .slice a rs.length c] 42 (0, 0)) := alloc_at rfl
  have hz : (w.alloc (.cells #[.int .i64 up, .int .i64 lo, .slice a rs.length c] 42)).heap.size = w.heap.size + 1 := by simp
  generalize w.alloc (.cells #[.int .i64 up, .int .i64 lo, .slice a rs.length c] 42) = w1 at hb hk hz ⊢
  have HB1 : Hid (Below w.heap.size w w1) := Lib.hid (HB0.out.trans (hb.mono HB0.out.size))
  have HZ1 : Hid (w.heap.size ≤ w1.heap.size) := Lib.hid hb.size
  have HRf1 := Lib.hid (HRf0.out.below HB1.out (Nat.le_refl _))
  have HKf1 := Lib.hid hk
  replace HZ1 : Hid (w.heap.size < w1.heap.size) := Lib.hid (by omega)
  have HE1 := Lib.hid hz
  clear hb hk hz
  have hb : Below w1.heap.size w1 (w1.alloc (.cells #[.int .i64 0, .int .i64 0, .slice none 0 0] 42)) := (Below.refl _ _).alloc (Nat.le_refl _) _
  have hk : (w1.alloc (.cells #[.int .i64 0, .int .i64 0, .slice none 0 0] 42)).heap[w.heap.size + 1]? = some (.cells #[.int .i64 0, .int .i64 0, .slice none 0 0] 42 (0, 0)) := alloc_at (by have := HE1.out; omega)
  have hz : (w1.alloc (.cells #[.int .i64 0, .int .i64 0, .slice none 0 0] 42)).heap.size = w1.heap.size + 1 := by simp
  generalize w1.alloc (.cells #[.int .i64 0, .int .i64 0, .slice none 0 0] 42) = w2 at hb hk hz ⊢
  have HB2 : Hid (Below w.heap.size w w2) := Lib.hid (HB1.out.trans (hb.mono HB1.out.size))
  have HZ2 : Hid (w1.heap.size ≤ w2.heap.size) := Lib.hid hb.size
  have HRf2 := Lib.hid (HRf0.out.below HB2.out (Nat.le_refl _))
  have HKf2 := Lib.hid ((hb.block _ (lt_of_block HKf1.out)).trans HKf1.out)
  have HKz2 := Lib.hid hk
  replace HZ2 : Hid (w1.heap.size < w2.heap.size) := Lib.hid (by omega)
  have HE2 := Lib.hid hz
  clear hb hk hz
  have ltf := lt_of_block HKf2.out
  obtain ⟨cf0, cf1, cf2, ff0, ff1, ff2⟩ := cell3 HKf2.out
  have ltz := lt_of_block HKz2.out
  obtain ⟨cz0, cz1, cz2, fz0, fz1, fz2⟩ := cell3 HKz2.out
  go_wp2_with fail
  refine (hasRod_bad up lo _ rs _ HRf2.out q HG.out).mono ?_
  rintro e w3 ⟨rfl, hb⟩
  have HB3 : Hid (Below w.heap.size w w3) := Lib.hid (HB2.out.trans (hb.mono HB2.out.size))
  have HZ3 : Hid (w2.heap.size ≤ w3.heap.size) := Lib.hid hb.size
  have HRf3 := Lib.hid (HRf0.out.below HB3.out (Nat.le_refl _))
  have HKf3 := Lib.hid ((hb.block _ (lt_of_block HKf2.out)).trans HKf2.out)
  have HKz3 := Lib.hid ((hb.block _ (lt_of_block HKz2.out)).trans HKz2.out)
  clear hb
  clear cf0 cf1 cf2 ff0 ff1 ff2 ltf cz0 cz1 cz2 fz0 fz1 fz2 ltz
  have ltf := lt_of_block HKf3.out
  obtain ⟨cf0, cf1, cf2, ff0, ff1, ff2⟩ := cell3 HKf3.out
  have ltz := lt_of_block HKz3.out
  obtain ⟨cz0, cz1, cz2, fz0, fz1, fz2⟩ := cell3 HKz3.out
  go_wp2_with fail
  exact bodyPost_ret (v := .tuple #[.agg #[.int .i64 0, .int .i64 0, .slice none 0 0], .bool false]) (by simp [results, Try.results140, go_sem, cz0, cz1, cz2]) rfl ⟨⟨_, rfl, own_nil _ _ _ _⟩, bl_set3 HB3.out (Nat.le_succ _) _ _ _⟩
set_option maxRecDepth 100000 in
set_option maxHeartbeats 3200000 in
theorem implSetRod_out (up lo : Int) (sv : Value) (rs : List (Int × Int)) (w : World) (h : RodsR w sv rs) (q d : Int) (hg : goodF up lo rs) (hq : ¬ (0 ≤ q ∧ q ≤ (rs.length : Int) - 1)) :
    Calls Try.prog 140 #[.agg #[.int .i64 up, .int .i64 lo, sv], .int .i64 q, .int .i64 d] w fun e w' => (∃ sq, e = .returned (.tuple #[.agg #[.int .i64 0, .int .i64 0, sq], .bool false]) ∧ w'.ownsRow w.heap.size 77 2 sq (([] : List (Int × Int))).length (flat ([] : List (Int × Int)))) ∧ Below w.heap.size w w' := by
  obtain ⟨a, c, rfl⟩ : ∃ a c, sv = .slice a rs.length c := by obtain ⟨a, c, e, _⟩ := h; exact ⟨a, c, e⟩
  have hm : rs.length ≤ 9223372036854775807 := by obtain ⟨_, _, _, ⟨m, _⟩, _⟩ := h; exact m
  have HG := Lib.hid hg
  have hi := inB_no hq
  clear hq
  have HB0 : Hid (Below w.heap.size w w) := Lib.hid (Below.refl _ _)
  have HRf0 := Lib.hid (h)
  clear h hg
  go_enter Try.func140, Try.ntmps140
  go_wp2_with fail
  have hb : Below w.heap.size w (w.alloc (.cells #[.int .i64 up, .int .i64 lo, .slice a rs.length c] 42)) := (Below.refl _ _).alloc (Nat.le_refl _) _
  have hk : (w.alloc (.cells #[.int .i64 up, .int .i64 lo, .slice a rs.length c] 42)).heap[w.heap.size]? = some (.cells #[.int .i64 up, .int .i64 lo, .slice a rs.length c] 42 (0, 0)) := alloc_at rfl
  have hz : (w.alloc (.cells #[.int .i64 up, .int .i64 lo, .slice a rs.length c] 42)).heap.size = w.heap.size + 1 := by simp
  generalize w.alloc (.cells #[.int .i64 up, .int .i64 lo, .slice a rs.length c] 42) = w1 at hb hk hz ⊢
  have HB1 : Hid (Below w.heap.size w w1) := Lib.hid (HB0.out.trans (hb.mono HB0.out.size))
  have HZ1 : Hid (w.heap.size ≤ w1.heap.size) := Lib.hid hb.size
  have HRf1 := Lib.hid (HRf0.out.below HB1.out (Nat.le_refl _))
  have HKf1 := Lib.hid hk
  replace HZ1 : Hid (w.heap.size < w1.heap.size) := Lib.hid (by omega)
  have HE1 := Lib.hid hz
  clear hb hk hz
  have hb : Below w1.heap.size w1 (w1.alloc (.cells #[.int .i64 0, .int .i64 0, .slice none 0 0] 42)) := (Below.refl _ _).alloc (Nat.le_refl _) _
  have hk : (w1.alloc (.cells #[.int .i64 0, .int .i64 0, .slice none 0 0] 42)).heap[w.heap.size + 1]? = some (.cells #[.int .i64 0, .int .i64 0, .slice none 0 0] 42 (0, 0)) := alloc_at (by have := HE1.out; omega)
  have hz : (w1.alloc (.cells #[.int .i64 0, .int .i64 0, .slice none 0 0] 42)).heap.size = w1.heap.size + 1 := by simp
  generalize w1.alloc (.cells #[.int .i64 0, .int .i64 0, .slice none 0 0] 42) = w2 at hb hk hz ⊢
  have HB2 : Hid (Below w.heap.size w w2) := Lib.hid (HB1.out.trans (hb.mono HB1.out.size))
  have HZ2 : Hid (w1.heap.size ≤ w2.heap.size) := Lib.hid hb.size
  have HRf2 := Lib.hid (HRf0.out.below HB2.out (Nat.le_refl _))
  have HKf2 := Lib.hid ((hb.block _ (lt_of_block HKf1.out)).trans HKf1.out)
  have HKz2 := Lib.hid hk
  replace HZ2 : Hid (w1.heap.size < w2.heap.size) := Lib.hid (by omega)
  have HE2 := Lib.hid hz
  clear hb hk hz
  have ltf := lt_of_block HKf2.out
  obtain ⟨cf0, cf1, cf2, ff0, ff1, ff2⟩ := cell3 HKf2.out
  have ltz := lt_of_block HKz2.out
  obtain ⟨cz0, cz1, cz2, fz0, fz1, fz2⟩ := cell3 HKz2.out
  go_wp2_with fail
  refine (hasRod_good up lo _ rs _ HRf2.out q HG.out).mono ?_
  rintro e w3 ⟨rfl, hb⟩
  have HB3 : Hid (Below w.heap.size w w3) := Lib.hid (HB2.out.trans (hb.mono HB2.out.size))
  have HZ3 : Hid (w2.heap.size ≤ w3.heap.size) := Lib.hid hb.size
  have HRf3 := Lib.hid (HRf0.out.below HB3.out (Nat.le_refl _))
  have HKf3 := Lib.hid ((hb.block _ (lt_of_block HKf2.out)).trans HKf2.out)
  have HKz3 := Lib.hid ((hb.block _ (lt_of_block HKz2.out)).trans HKz2.out)
  clear hb
  clear cf0 cf1 cf2 ff0 ff1 ff2 ltf cz0 cz1 cz2 fz0 fz1 fz2 ltz
  have ltf := lt_of_block HKf3.out
  obtain ⟨cf0, cf1, cf2, ff0, ff1, ff2⟩ := cell3 HKf3.out
  have ltz := lt_of_block HKz3.out
  obtain ⟨cz0, cz1, cz2, fz0, fz1, fz2⟩ := cell3 HKz3.out
  go_wp2_with fail
  exact bodyPost_ret (v := .tuple #[.agg #[.int .i64 0, .int .i64 0, .slice none 0 0], .bool false]) (by simp [results, Try.results140, go_sem, cz0, cz1, cz2]) rfl ⟨⟨_, rfl, own_nil _ _ _ _⟩, bl_set3 HB3.out (Nat.le_succ _) _ _ _⟩
set_option maxRecDepth 100000 in
set_option maxHeartbeats 3200000 in
theorem implSetRod_dig (up lo : Int) (sv : Value) (rs : List (Int × Int)) (w : World) (h : RodsR w sv rs) (q d : Int) (hg : goodF up lo rs) (hq : 0 ≤ q ∧ q ≤ (rs.length : Int) - 1) (hd : ¬ (0 ≤ d ∧ d ≤ 9)) :
    Calls Try.prog 140 #[.agg #[.int .i64 up, .int .i64 lo, sv], .int .i64 q, .int .i64 d] w fun e w' => (∃ sq, e = .returned (.tuple #[.agg #[.int .i64 0, .int .i64 0, sq], .bool false]) ∧ w'.ownsRow w.heap.size 77 2 sq (([] : List (Int × Int))).length (flat ([] : List (Int × Int)))) ∧ Below w.heap.size w w' := by
  obtain ⟨a, c, rfl⟩ : ∃ a c, sv = .slice a rs.length c := by obtain ⟨a, c, e, _⟩ := h; exact ⟨a, c, e⟩
  have hm : rs.length ≤ 9223372036854775807 := by obtain ⟨_, _, _, ⟨m, _⟩, _⟩ := h; exact m
  have HG := Lib.hid hg
  have hi := inB_yes hq.1 hq.2
  clear hq
  have HB0 : Hid (Below w.heap.size w w) := Lib.hid (Below.refl _ _)
  have HRf0 := Lib.hid (h)
  clear h hg
  go_enter Try.func140, Try.ntmps140
  go_wp2_with fail
  have hb : Below w.heap.size w (w.alloc (.cells #[.int .i64 up, .int .i64 lo, .slice a rs.length c] 42)) := (Below.refl _ _).alloc (Nat.le_refl _) _
  have hk : (w.alloc (.cells #[.int .i64 up, .int .i64 lo, .slice a rs.length c] 42)).heap[w.heap.size]? = some (.cells #[.int .i64 up, .int .i64 lo, .slice a rs.length c] 42 (0, 0)) := alloc_at rfl
  have hz : (w.alloc (.cells #[.int .i64 up, .int .i64 lo, .slice a rs.length c] 42)).heap.size = w.heap.size + 1 := by simp
  generalize w.alloc (.cells #[.int .i64 up, .int .i64 lo, .slice a rs.length c] 42) = w1 at hb hk hz ⊢
  have HB1 : Hid (Below w.heap.size w w1) := Lib.hid (HB0.out.trans (hb.mono HB0.out.size))
  have HZ1 : Hid (w.heap.size ≤ w1.heap.size) := Lib.hid hb.size
  have HRf1 := Lib.hid (HRf0.out.below HB1.out (Nat.le_refl _))
  have HKf1 := Lib.hid hk
  replace HZ1 : Hid (w.heap.size < w1.heap.size) := Lib.hid (by omega)
  have HE1 := Lib.hid hz
  clear hb hk hz
  have hb : Below w1.heap.size w1 (w1.alloc (.cells #[.int .i64 0, .int .i64 0, .slice none 0 0] 42)) := (Below.refl _ _).alloc (Nat.le_refl _) _
  have hk : (w1.alloc (.cells #[.int .i64 0, .int .i64 0, .slice none 0 0] 42)).heap[w.heap.size + 1]? = some (.cells #[.int .i64 0, .int .i64 0, .slice none 0 0] 42 (0, 0)) := alloc_at (by have := HE1.out; omega)
  have hz : (w1.alloc (.cells #[.int .i64 0, .int .i64 0, .slice none 0 0] 42)).heap.size = w1.heap.size + 1 := by simp
  generalize w1.alloc (.cells #[.int .i64 0, .int .i64 0, .slice none 0 0] 42) = w2 at hb hk hz ⊢
  have HB2 : Hid (Below w.heap.size w w2) := Lib.hid (HB1.out.trans (hb.mono HB1.out.size))
  have HZ2 : Hid (w1.heap.size ≤ w2.heap.size) := Lib.hid hb.size
  have HRf2 := Lib.hid (HRf0.out.below HB2.out (Nat.le_refl _))
  have HKf2 := Lib.hid ((hb.block _ (lt_of_block HKf1.out)).trans HKf1.out)
  have HKz2 := Lib.hid hk
  replace HZ2 : Hid (w1.heap.size < w2.heap.size) := Lib.hid (by omega)
  have HE2 := Lib.hid hz
  clear hb hk hz
  have ltf := lt_of_block HKf2.out
  obtain ⟨cf0, cf1, cf2, ff0, ff1, ff2⟩ := cell3 HKf2.out
  have ltz := lt_of_block HKz2.out
  obtain ⟨cz0, cz1, cz2, fz0, fz1, fz2⟩ := cell3 HKz2.out
  go_wp2_with fail
  refine (hasRod_good up lo _ rs _ HRf2.out q HG.out).mono ?_
  rintro e w3 ⟨rfl, hb⟩
  have HB3 : Hid (Below w.heap.size w w3) := Lib.hid (HB2.out.trans (hb.mono HB2.out.size))
  have HZ3 : Hid (w2.heap.size ≤ w3.heap.size) := Lib.hid hb.size
  have HRf3 := Lib.hid (HRf0.out.below HB3.out (Nat.le_refl _))
  have HKf3 := Lib.hid ((hb.block _ (lt_of_block HKf2.out)).trans HKf2.out)
  have HKz3 := Lib.hid ((hb.block _ (lt_of_block HKz2.out)).trans HKz2.out)
  clear hb
  by_cases hd0 : d < 0
  · clear hd
    clear cf0 cf1 cf2 ff0 ff1 ff2 ltf cz0 cz1 cz2 fz0 fz1 fz2 ltz
    have ltf := lt_of_block HKf3.out
    obtain ⟨cf0, cf1, cf2, ff0, ff1, ff2⟩ := cell3 HKf3.out
    have ltz := lt_of_block HKz3.out
    obtain ⟨cz0, cz1, cz2, fz0, fz1, fz2⟩ := cell3 HKz3.out
    go_wp2_with fail
    exact bodyPost_ret (v := .tuple #[.agg #[.int .i64 0, .int .i64 0, .slice none 0 0], .bool false]) (by simp [results, Try.results140, go_sem, cz0, cz1, cz2]) rfl ⟨⟨_, rfl, own_nil _ _ _ _⟩, bl_set3 HB3.out (Nat.le_succ _) _ _ _⟩
  · have hd1 : 9 < d := by omega
    clear hd
    clear cf0 cf1 cf2 ff0 ff1 ff2 ltf cz0 cz1 cz2 fz0 fz1 fz2 ltz
    have ltf := lt_of_block HKf3.out
    obtain ⟨cf0, cf1, cf2, ff0, ff1, ff2⟩ := cell3 HKf3.out
    have ltz := lt_of_block HKz3.out
    obtain ⟨cz0, cz1, cz2, fz0, fz1, fz2⟩ := cell3 HKz3.out
    go_wp2_with fail
    exact bodyPost_ret (v := .tuple #[.agg #[.int .i64 0, .int .i64 0, .slice none 0 0], .bool false]) (by simp [results, Try.results140, go_sem, cz0, cz1, cz2]) rfl ⟨⟨_, rfl, own_nil _ _ _ _⟩, bl_set3 HB3.out (Nat.le_succ _) _ _ _⟩
set_option maxRecDepth 100000 in
set_option maxHeartbeats 3200000 in
theorem implSetRod_ok (up lo : Int) (sv : Value) (rs : List (Int × Int)) (w : World) (h : RodsR w sv rs) (q : Nat) (d : Int) (hg : goodF up lo rs) (hq : q < rs.length) (hd0 : 0 ≤ d) (hd1 : d ≤ 9) :
    Calls Try.prog 140 #[.agg #[.int .i64 up, .int .i64 lo, sv], .int .i64 q, .int .i64 d] w fun e w' => (∃ sq, e = .returned (.tuple #[.agg #[.int .i64 up, .int .i64 lo, sq], .bool true]) ∧ w'.ownsRow w.heap.size 77 2 sq ((rs.set q (digR d))).length (flat (rs.set q (digR d)))) ∧ Below w.heap.size w w' := by
  obtain ⟨a, c, rfl⟩ : ∃ a c, sv = .slice a rs.length c := by obtain ⟨a, c, e, _⟩ := h; exact ⟨a, c, e⟩
  have hm : rs.length ≤ 9223372036854775807 := by obtain ⟨_, _, _, ⟨m, _⟩, _⟩ := h; exact m
  have HG := Lib.hid hg
  have hlen : 0 < rs.length ∧ rs.length ≤ 8 := by have := hg.2.2.2; omega
  have hi : inB (q : Int) 0 ((rs.length : Int) - 1) = true := inB_yes (by omega) (by omega)
  have z1 : (0 : Int) ≤ (q : Int) := by omega
  have z2 : (q : Int) < (rs.length : Int) := by omega
  have HB0 : Hid (Below w.heap.size w w) := Lib.hid (Below.refl _ _)
  have HRf0 := Lib.hid (h)
  clear h hg
  go_enter Try.func140, Try.ntmps140
  go_wp2_with fail
  have hb : Below w.heap.size w (w.alloc (.cells #[.int .i64 up, .int .i64 lo, .slice a rs.length c] 42)) := (Below.refl _ _).alloc (Nat.le_refl _) _
  have hk : (w.alloc (.cells #[.int .i64 up, .int .i64 lo, .slice a rs.length c] 42)).heap[w.heap.size]? = some (.cells #[.int .i64 up, .int .i64 lo, .slice a rs.length c] 42 (0, 0)) := alloc_at rfl
  have hz : (w.alloc (.cells #[.int .i64 up, .int .i64 lo, .slice a rs.length c] 42)).heap.size = w.heap.size + 1 := by simp
  generalize w.alloc (.cells #[.int .i64 up, .int .i64 lo, .slice a rs.length c] 42) = w1 at hb hk hz ⊢
  have HB1 : Hid (Below w.heap.size w w1) := Lib.hid (HB0.out.trans (hb.mono HB0.out.size))
  have HZ1 : Hid (w.heap.size ≤ w1.heap.size) := Lib.hid hb.size
  have HRf1 := Lib.hid (HRf0.out.below HB1.out (Nat.le_refl _))
  have HKf1 := Lib.hid hk
  replace HZ1 : Hid (w.heap.size < w1.heap.size) := Lib.hid (by omega)
  have HE1 := Lib.hid hz
  clear hb hk hz
  have hb : Below w1.heap.size w1 (w1.alloc (.cells #[.int .i64 0, .int .i64 0, .slice none 0 0] 42)) := (Below.refl _ _).alloc (Nat.le_refl _) _
  have hk : (w1.alloc (.cells #[.int .i64 0, .int .i64 0, .slice none 0 0] 42)).heap[w.heap.size + 1]? = some (.cells #[.int .i64 0, .int .i64 0, .slice none 0 0] 42 (0, 0)) := alloc_at (by have := HE1.out; omega)
  have hz : (w1.alloc (.cells #[.int .i64 0, .int .i64 0, .slice none 0 0] 42)).heap.size = w1.heap.size + 1 := by simp
  generalize w1.alloc (.cells #[.int .i64 0, .int .i64 0, .slice none 0 0] 42) = w2 at hb hk hz ⊢
  have HB2 : Hid (Below w.heap.size w w2) := Lib.hid (HB1.out.trans (hb.mono HB1.out.size))
  have HZ2 : Hid (w1.heap.size ≤ w2.heap.size) := Lib.hid hb.size
  have HRf2 := Lib.hid (HRf0.out.below HB2.out (Nat.le_refl _))
  have HKf2 := Lib.hid ((hb.block _ (lt_of_block HKf1.out)).trans HKf1.out)
  have HKz2 := Lib.hid hk
  replace HZ2 : Hid (w1.heap.size < w2.heap.size) := Lib.hid (by omega)
  have HE2 := Lib.hid hz
  clear hb hk hz
  have ltf := lt_of_block HKf2.out
  obtain ⟨cf0, cf1, cf2, ff0, ff1, ff2⟩ := cell3 HKf2.out
  have ltz := lt_of_block HKz2.out
  obtain ⟨cz0, cz1, cz2, fz0, fz1, fz2⟩ := cell3 HKz2.out
  go_wp2_with fail
  refine (hasRod_good up lo _ rs _ HRf2.out q HG.out).mono ?_
  rintro e w3 ⟨rfl, hb⟩
  have HB3 : Hid (Below w.heap.size w w3) := Lib.hid (HB2.out.trans (hb.mono HB2.out.size))
  have HZ3 : Hid (w2.heap.size ≤ w3.heap.size) := Lib.hid hb.size
  have HRf3 := Lib.hid (HRf0.out.below HB3.out (Nat.le_refl _))
  have HKf3 := Lib.hid ((hb.block _ (lt_of_block HKf2.out)).trans HKf2.out)
  have HKz3 := Lib.hid ((hb.block _ (lt_of_block HKz2.out)).trans HKz2.out)
  clear hb
  clear cf0 cf1 cf2 ff0 ff1 ff2 ltf cz0 cz1 cz2 fz0 fz1 fz2 ltz
  have ltf := lt_of_block HKf3.out
  obtain ⟨cf0, cf1, cf2, ff0, ff1, ff2⟩ := cell3 HKf3.out
  have ltz := lt_of_block HKz3.out
  obtain ⟨cz0, cz1, cz2, fz0, fz1, fz2⟩ := cell3 HKz3.out
  go_wp2_with fail
  refine (clone_any _ rs _ HRf3.out ⟨hlen.1, by omega⟩).mono ?_
  rintro e w4 ⟨⟨v, rfl, ho⟩, hb⟩
  have HB4 : Hid (Below w.heap.size w w4) := Lib.hid (HB3.out.trans (hb.mono HB3.out.size))
  have HZ4 : Hid (w3.heap.size ≤ w4.heap.size) := Lib.hid hb.size
  have HRf4 := Lib.hid (HRf0.out.below HB4.out (Nat.le_refl _))
  have HKf4 := Lib.hid ((hb.block _ (lt_of_block HKf3.out)).trans HKf3.out)
  have HKz4 := Lib.hid ((hb.block _ (lt_of_block HKz3.out)).trans HKz3.out)
  clear hb
  obtain ⟨g, cap, rfl⟩ := own_block ho hlen.1
  have hg0 := (ho.lt g rfl).1
  have hgz : w.heap.size + 1 < g := Nat.lt_of_lt_of_le ltz hg0
  have hzlo := ltz
  have HOv4 := Lib.hid (Ow.mk' ho)
  clear ho
  clear cf0 cf1 cf2 ff0 ff1 ff2 ltf cz0 cz1 cz2 fz0 fz1 fz2 ltz
  have ltf := lt_of_block HKf4.out
  obtain ⟨cf0, cf1, cf2, ff0, ff1, ff2⟩ := cell3 HKf4.out
  have ltz := lt_of_block HKz4.out
  obtain ⟨cz0, cz1, cz2, fz0, fz1, fz2⟩ := cell3 HKz4.out
  go_wp2_with fail
  have hm : Btw w.heap.size (w.heap.size + 1) w4 (w4.setCell ⟨w.heap.size, 2, none⟩ (.slice (some ⟨g, 0, none⟩) rs.length cap)) := (Btw.refl w.heap.size (w.heap.size + 1) w4).setCell (p := ⟨w.heap.size, 2, none⟩) (Nat.le_refl _) (Nat.lt_succ_self _) _
  have hkk : (w4.setCell ⟨w.heap.size, 2, none⟩ (.slice (some ⟨g, 0, none⟩) rs.length cap)).heap[w.heap.size]? = some (.cells #[.int .i64 up, .int .i64 lo, .slice (some ⟨g, 0, none⟩) rs.length cap] 42 (0, 0)) := by
    have := heap_setCell_same _ w.heap.size 2 _ _ (.slice (some ⟨g, 0, none⟩) rs.length cap) HKf4.out
    simpa using this
  generalize w4.setCell ⟨w.heap.size, 2, none⟩ (.slice (some ⟨g, 0, none⟩) rs.length cap) = w5 at hm hkk ⊢
  have HZ5 : Hid (w4.heap.size ≤ w5.heap.size) := Lib.hid hm.size
  have HB5 : Hid (Below w.heap.size w w5) := Lib.hid (HB4.out.trans (hm.below.mono (by have := HZ1.out; have := HZ2.out; have := HZ3.out; have := HZ4.out; have := HB0.out.size; omega)))
  have HKz5 := Lib.hid ((hm.block _ (by have := lt_of_block HKz4.out; have := HZ1.out; have := HZ2.out; have := HZ3.out; have := HZ4.out; omega)).trans HKz4.out)
  have HOv5 := Lib.hid (HOv4.out.btw hm (by have := HZ1.out; have := HZ2.out; have := HZ3.out; have := HZ4.out; omega))
  clear hm
  have HKf5 := Lib.hid (hkk)
  clear hkk
  have hgo : g ≠ w.heap.size := by omega
  have hv1 := HOv5.out.1
  obtain ⟨u0, d0⟩ : ∃ u, w5.cell? ⟨g, q * 2, none⟩ = some u := ⟨_, (hv1.cellAt (q * 2) (by omega)).trans (List.getElem?_eq_getElem (by rw [flat_len]; omega))⟩
  obtain ⟨u1, d1⟩ : ∃ u, w5.cell? ⟨g, q * 2 + 1, none⟩ = some u := ⟨_, (hv1.cellAt (q * 2 + 1) (by omega)).trans (List.getElem?_eq_getElem (by rw [flat_len]; omega))⟩
  have hlg : g < w5.heap.size := (hv1.lt g rfl).2
  clear hv1
  clear cf0 cf1 cf2 ff0 ff1 ff2 ltf cz0 cz1 cz2 fz0 fz1 fz2 ltz
  have ltz := lt_of_block HKz5.out
  obtain ⟨cz0, cz1, cz2, fz0, fz1, fz2⟩ := cell3 HKz5.out
  have ltf := lt_of_block HKf5.out
  obtain ⟨cf0, cf1, cf2, ff0, ff1, ff2⟩ := cell3 HKf5.out
  go_wp2_with fail
  go_region_law (first
    | (go_simp; go_at_call 117; refine (standardRod_any _ _ ⟨by omega, by omega⟩).mono ?_
       rintro e w20 ⟨rfl, hb'⟩
       have hb : Below w5.heap.size w5 w20 := Below.trans (Below.drew (Below.refl _ _)) hb'
       clear hb'
       obtain ⟨x0, x1, x2, _, _, _⟩ := cell3 ((hb.block _ ltf).trans HKf5.out)
       have e0 := (hb.cell (p := ⟨g, q * 2, none⟩) hlg).trans d0
       have e1 := (hb.cell (p := ⟨g, q * 2 + 1, none⟩) hlg).trans d1
       have g0 := (HOv5.out.next (w' := w20) hb).1.frozenAt (q * 2)
       have g1 := (HOv5.out.next (w' := w20) hb).1.frozenAt (q * 2 + 1)))
  all_goals
    have HK20 := Lib.hid ((hb.block _ ltf).trans HKf5.out)
    have HZ20 := Lib.hid ((hb.block _ ltz).trans HKz5.out)
    have HO20 := Lib.hid (HOv5.out.next (w' := w20) hb)
    have HB20 : Hid (Below w.heap.size w w20) := Lib.hid (HB5.out.trans (hb.mono HB5.out.size))
    have HK21 := Lib.hid ((Below.heap_setCell _ ⟨g, q * 2 + 1, none⟩ (.int .i64 (d % 5)) _ (by show _ ≠ g; omega)).trans ((Below.heap_setCell w20 ⟨g, q * 2, none⟩ (.int .i64 (d / 5)) _ (by show _ ≠ g; omega)).trans HK20.out))
    have HZ21 := Lib.hid ((Below.heap_setCell _ ⟨g, q * 2 + 1, none⟩ (.int .i64 (d % 5)) _ (by show _ ≠ g; omega)).trans ((Below.heap_setCell w20 ⟨g, q * 2, none⟩ (.int .i64 (d / 5)) _ (by show _ ≠ g; omega)).trans HZ20.out))
    have HO21 := Lib.hid ((HO20.out.stored (q * 2) (.int .i64 (d / 5))).stored (q * 2 + 1) (.int .i64 (d % 5)))
    have HB21 := Lib.hid ((HB20.out.setCell (p := ⟨g, q * 2, none⟩) (by show _ ≤ g; omega) (.int .i64 (d / 5))).setCell (p := ⟨g, q * 2 + 1, none⟩) (by show _ ≤ g; omega) (.int .i64 (d % 5)))
    clear hb
    obtain ⟨y0, y1, y2, _, _, _⟩ := cell3 HK21.out
    obtain ⟨v0, v1, v2, _, _, _⟩ := cell3 HZ21.out
    generalize (w20.setCell ⟨g, q * 2, none⟩ (.int .i64 (d / 5))).setCell ⟨g, q * 2 + 1, none⟩ (.int .i64 (d % 5)) = w21 at *
    go_wp2_with fail
    have hl9 : (rs.set q (digR d)).length = rs.length := by simp
    have hO := own_relen hl9 HO21.out.1
    rw [show ((flat rs).set (q * 2) (.int .i64 (d / 5))).set (q * 2 + 1) (.int .i64 (d % 5)) = flat (rs.set q (digR d)) from flat_set rs q hq (digR d)] at hO
    exact bodyPost_ret (v := .tuple #[.agg #[.int .i64 up, .int .i64 lo, .slice (some ⟨g, 0, none⟩) rs.length cap], .bool true]) (by simp [results, Try.results140, go_sem, v0, v1, v2]) rfl ⟨⟨_, rfl, by simpa using own_mono (own_set3 hO hzlo _ _ _) (by omega)⟩, bl_set3 HB21.out (Nat.le_succ _) _ _ _⟩
end Go.Proofs.Ythmbehknacjodaa
