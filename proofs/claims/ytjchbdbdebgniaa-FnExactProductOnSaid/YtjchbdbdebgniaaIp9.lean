/- The program's ProductOn. -/
import Derived.Test.YtjchbdbdebgniaaAdout
import Derived.Test.YtjchbdbdebgniaaIdg
import Derived.Test.YtjchbdbdebgniaaNm4
namespace Go.Proofs.Ytjchbdbdebgniaa
set_option linter.unusedVariables false
open Go.RowKit

/-- One answer of the addition, whatever it is. -/
theorem addI_any (up lo : Int) (rs : List (Int × Int)) (m : Int) (hb : -9223372036854775808 ≤ m ∧ m ≤ 9223372036854775807) : ∃ (fu fl : Int) (qs : List (Int × Int)) (ok : Bool), (canF up lo rs m → fu = up ∧ fl = lo ∧ qs = goR 0 (digs rs.length m) rs ∧ ok = true) ∧ (¬ canF up lo rs m → fu = 0 ∧ fl = 0 ∧ qs = [] ∧ ok = false) ∧
    ∀ sv w, RodsR w sv rs → Calls Try.prog 70 #[.agg #[.int .i64 up, .int .i64 lo, sv], .int .i64 m] w fun e w' => (∃ sq, e = .returned (.tuple #[.agg #[.int .i64 fu, .int .i64 fl, sq], .bool ok]) ∧ w'.ownsRow w.heap.size 93 2 sq qs.length (flat qs)) ∧ Below w.heap.size w w' := by
  by_cases h : canF up lo rs m
  · exact ⟨up, lo, _, true, fun _ => ⟨rfl, rfl, rfl, rfl⟩, fun h' => absurd h h', fun sv w hr => impAddNumber_yes up lo sv rs m w hr h⟩
  · exact ⟨0, 0, [], false, fun h' => absurd h' h, fun _ => ⟨rfl, rfl, rfl, rfl⟩, fun sv w hr => impAddNumber_no up lo sv rs m w hr hb h⟩
set_option maxRecDepth 100000 in
set_option maxHeartbeats 1600000 in
theorem impProductOn_out (up lo : Int) (sv : Value) (rs : List (Int × Int)) (a b : Int) (w : World) (h : RodsR w sv rs) (hc : ¬ okFs a b) :
    Calls Try.prog 22 #[.agg #[.int .i64 up, .int .i64 lo, sv], .int .i64 a, .int .i64 b] w fun e w' => (∃ sq, e = .returned (.tuple #[.agg #[.int .i64 0, .int .i64 0, sq], .bool false]) ∧ w'.ownsRow w.heap.size 93 2 sq ([] : List (Int × Int)).length (flat ([] : List (Int × Int)))) ∧ Below w.heap.size w w' := by
  obtain ⟨p, cp, rfl⟩ : ∃ a c, sv = .slice a rs.length c := by obtain ⟨a, c, e, _⟩ := h; exact ⟨a, c, e⟩
  have HC := Lib.hid hc
  have HB0 : Hid (Below w.heap.size w w) := Lib.hid (Below.refl _ _)
  have HRf0 := Lib.hid (h)
  clear h hc
  go_enter Try.func22, Try.ntmps22
  go_wp2_with fail
  have hb : Below w.heap.size w (w.alloc (.cells #[.int .i64 up, .int .i64 lo, .slice p rs.length cp] 32)) := (Below.refl _ _).alloc (Nat.le_refl _) _
  have hk : (w.alloc (.cells #[.int .i64 up, .int .i64 lo, .slice p rs.length cp] 32)).heap[w.heap.size]? = some (.cells #[.int .i64 up, .int .i64 lo, .slice p rs.length cp] 32 (0, 0)) := alloc_at rfl
  have hz : (w.alloc (.cells #[.int .i64 up, .int .i64 lo, .slice p rs.length cp] 32)).heap.size = w.heap.size + 1 := by simp
  generalize w.alloc (.cells #[.int .i64 up, .int .i64 lo, .slice p rs.length cp] 32) = w1 at hb hk hz ⊢
  have HB1 : Hid (Below w.heap.size w w1) := Lib.hid (HB0.out.trans (hb.mono HB0.out.size))
  have HZ1 : Hid (w.heap.size ≤ w1.heap.size) := Lib.hid hb.size
  have HRf1 := Lib.hid (HRf0.out.below HB1.out (Nat.le_refl _))
  have HKf1 := Lib.hid hk
  replace HZ1 : Hid (w.heap.size < w1.heap.size) := Lib.hid (by omega)
  have HE1 := Lib.hid hz
  clear hb hk hz
  have hb : Below w1.heap.size w1 (w1.alloc (.cells #[.int .i64 0, .int .i64 0, .slice none 0 0] 32)) := (Below.refl _ _).alloc (Nat.le_refl _) _
  have hk : (w1.alloc (.cells #[.int .i64 0, .int .i64 0, .slice none 0 0] 32)).heap[w.heap.size + 1]? = some (.cells #[.int .i64 0, .int .i64 0, .slice none 0 0] 32 (0, 0)) := alloc_at (by have := HE1.out; omega)
  have hz : (w1.alloc (.cells #[.int .i64 0, .int .i64 0, .slice none 0 0] 32)).heap.size = w1.heap.size + 1 := by simp
  generalize w1.alloc (.cells #[.int .i64 0, .int .i64 0, .slice none 0 0] 32) = w2 at hb hk hz ⊢
  have HB2 : Hid (Below w.heap.size w w2) := Lib.hid (HB1.out.trans (hb.mono HB1.out.size))
  have HZ2 : Hid (w1.heap.size ≤ w2.heap.size) := Lib.hid hb.size
  have HRf2 := Lib.hid (HRf0.out.below HB2.out (Nat.le_refl _))
  have HKf2 := Lib.hid ((hb.block _ (lt_of_block HKf1.out)).trans HKf1.out)
  have HKz2 := Lib.hid hk
  replace HZ2 : Hid (w1.heap.size < w2.heap.size) := Lib.hid (by omega)
  have HE2 := Lib.hid hz
  clear hb hk hz
  have ltf := lt_of_block HKf2.out
  obtain ⟨cf0, cf1, cf2, ff0, ff1, ff2⟩ := cell3 HKf2.out
  have ltz := lt_of_block HKz2.out
  obtain ⟨cz0, cz1, cz2, fz0, fz1, fz2⟩ := cell3 HKz2.out
  go_wp2_with fail
  refine (areF_no _ _ _ HC.out).mono ?_
  rintro e wz ⟨rfl, hwz⟩
  subst wz
  go_wp2_with fail
  have hkz := box3_set HKz2.out (.int .i64 0) (.int .i64 0) (.slice none 0 0)
  have hbz := bl_set3 HB2.out (Nat.le_succ w.heap.size) (.int .i64 0) (.int .i64 0) (.slice none 0 0)
  generalize (((w2.setCell ⟨w.heap.size + 1, 0, none⟩ (.int .i64 0)).setCell ⟨w.heap.size + 1, 1, none⟩ (.int .i64 0)).setCell ⟨w.heap.size + 1, 2, none⟩ (.slice none 0 0)) = W9 at hkz hbz ⊢
  obtain ⟨z0, z1, z2, _, _, _⟩ := cell3 hkz
  exact bodyPost_ret (v := .tuple #[.agg #[.int .i64 0, .int .i64 0, .slice none 0 0], .bool false]) (by simp [results, Try.results22, go_sem, z0, z1, z2]) rfl ⟨⟨_, rfl, own_nil _ _ _ _⟩, hbz⟩
set_option maxRecDepth 100000 in
set_option maxHeartbeats 3200000 in
theorem impProductOn_in (up lo : Int) (sv : Value) (rs : List (Int × Int)) (a b : Int) (w : World) (h : RodsR w sv rs) (hc : okFs a b) (fu fl : Int) (qs : List (Int × Int)) (ok : Bool)
    (hA : ∀ sv w, RodsR w sv rs → Calls Try.prog 70 #[.agg #[.int .i64 up, .int .i64 lo, sv], .int .i64 (a * b)] w fun e w' => (∃ sq, e = .returned (.tuple #[.agg #[.int .i64 fu, .int .i64 fl, sq], .bool ok]) ∧ w'.ownsRow w.heap.size 93 2 sq qs.length (flat qs)) ∧ Below w.heap.size w w') :
    Calls Try.prog 22 #[.agg #[.int .i64 up, .int .i64 lo, sv], .int .i64 a, .int .i64 b] w fun e w' => (∃ sq, e = .returned (.tuple #[.agg #[.int .i64 fu, .int .i64 fl, sq], .bool ok]) ∧ w'.ownsRow w.heap.size 93 2 sq qs.length (flat qs)) ∧ Below w.heap.size w w' := by
  obtain ⟨p, cp, rfl⟩ : ∃ a c, sv = .slice a rs.length c := by obtain ⟨a, c, e, _⟩ := h; exact ⟨a, c, e⟩
  have HC := Lib.hid hc
  have HA := Lib.hid hA
  have hmt : 0 ≤ a * b ∧ a * b ≤ 99980001 := by
    obtain ⟨m, n, rfl, rfl, h1, h2⟩ := okFs_nat hc; exact mul_top h1 h2
  obtain ⟨m, hm⟩ : ∃ m, a * b = m := ⟨_, rfl⟩
  rw [hm] at HA hmt
  have hw : IntKind.i64.wrap (a * b) = m := by rw [hm, IntKind.wrap_i64]; omega
  clear hmt hm
  have HB0 : Hid (Below w.heap.size w w) := Lib.hid (Below.refl _ _)
  have HRf0 := Lib.hid (h)
  clear h hc hA
  go_enter Try.func22, Try.ntmps22
  go_wp2_with fail
  have hb : Below w.heap.size w (w.alloc (.cells #[.int .i64 up, .int .i64 lo, .slice p rs.length cp] 32)) := (Below.refl _ _).alloc (Nat.le_refl _) _
  have hk : (w.alloc (.cells #[.int .i64 up, .int .i64 lo, .slice p rs.length cp] 32)).heap[w.heap.size]? = some (.cells #[.int .i64 up, .int .i64 lo, .slice p rs.length cp] 32 (0, 0)) := alloc_at rfl
  have hz : (w.alloc (.cells #[.int .i64 up, .int .i64 lo, .slice p rs.length cp] 32)).heap.size = w.heap.size + 1 := by simp
  generalize w.alloc (.cells #[.int .i64 up, .int .i64 lo, .slice p rs.length cp] 32) = w1 at hb hk hz ⊢
  have HB1 : Hid (Below w.heap.size w w1) := Lib.hid (HB0.out.trans (hb.mono HB0.out.size))
  have HZ1 : Hid (w.heap.size ≤ w1.heap.size) := Lib.hid hb.size
  have HRf1 := Lib.hid (HRf0.out.below HB1.out (Nat.le_refl _))
  have HKf1 := Lib.hid hk
  replace HZ1 : Hid (w.heap.size < w1.heap.size) := Lib.hid (by omega)
  have HE1 := Lib.hid hz
  clear hb hk hz
  have hb : Below w1.heap.size w1 (w1.alloc (.cells #[.int .i64 0, .int .i64 0, .slice none 0 0] 32)) := (Below.refl _ _).alloc (Nat.le_refl _) _
  have hk : (w1.alloc (.cells #[.int .i64 0, .int .i64 0, .slice none 0 0] 32)).heap[w.heap.size + 1]? = some (.cells #[.int .i64 0, .int .i64 0, .slice none 0 0] 32 (0, 0)) := alloc_at (by have := HE1.out; omega)
  have hz : (w1.alloc (.cells #[.int .i64 0, .int .i64 0, .slice none 0 0] 32)).heap.size = w1.heap.size + 1 := by simp
  generalize w1.alloc (.cells #[.int .i64 0, .int .i64 0, .slice none 0 0] 32) = w2 at hb hk hz ⊢
  have HB2 : Hid (Below w.heap.size w w2) := Lib.hid (HB1.out.trans (hb.mono HB1.out.size))
  have HZ2 : Hid (w1.heap.size ≤ w2.heap.size) := Lib.hid hb.size
  have HRf2 := Lib.hid (HRf0.out.below HB2.out (Nat.le_refl _))
  have HKf2 := Lib.hid ((hb.block _ (lt_of_block HKf1.out)).trans HKf1.out)
  have HKz2 := Lib.hid hk
  replace HZ2 : Hid (w1.heap.size < w2.heap.size) := Lib.hid (by omega)
  have HE2 := Lib.hid hz
  clear hb hk hz
  have ltf := lt_of_block HKf2.out
  obtain ⟨cf0, cf1, cf2, ff0, ff1, ff2⟩ := cell3 HKf2.out
  have ltz := lt_of_block HKz2.out
  obtain ⟨cz0, cz1, cz2, fz0, fz1, fz2⟩ := cell3 HKz2.out
  go_wp2_with fail
  refine (areF_yes _ _ _ HC.out).mono ?_
  rintro e wz ⟨rfl, hwz⟩
  subst wz
  go_wp2_with fail
  refine (HA.out _ _ HRf2.out).mono ?_
  rintro e w3 ⟨⟨sq, rfl, hq⟩, hb⟩
  have HB3 : Hid (Below w.heap.size w w3) := Lib.hid (HB2.out.trans (hb.mono HB2.out.size))
  have HZ3 : Hid (w2.heap.size ≤ w3.heap.size) := Lib.hid hb.size
  have HRf3 := Lib.hid (HRf0.out.below HB3.out (Nat.le_refl _))
  have HKf3 := Lib.hid ((hb.block _ (lt_of_block HKf2.out)).trans HKf2.out)
  have HKz3 := Lib.hid ((hb.block _ (lt_of_block HKz2.out)).trans HKz2.out)
  clear hb
  obtain ⟨p1, k1, rfl⟩ := own_form hq
  have HOq3 := Lib.hid (Ow.mk' hq)
  clear hq
  clear cf0 cf1 cf2 ff0 ff1 ff2 ltf cz0 cz1 cz2 fz0 fz1 fz2 ltz
  have ltf := lt_of_block HKf3.out
  obtain ⟨cf0, cf1, cf2, ff0, ff1, ff2⟩ := cell3 HKf3.out
  have ltz := lt_of_block HKz3.out
  obtain ⟨cz0, cz1, cz2, fz0, fz1, fz2⟩ := cell3 HKz3.out
  go_wp2_with fail
  have hlz : w.heap.size + 1 < w2.heap.size := lt_of_block HKz2.out
  have hpz : w.heap.size ≤ w2.heap.size := by omega
  have hkz := box3_set HKz3.out (.int .i64 fu) (.int .i64 fl) (.slice p1 qs.length k1)
  have hbz := bl_set3 HB3.out (Nat.le_succ w.heap.size) (.int .i64 fu) (.int .i64 fl) (.slice p1 qs.length k1)
  have hoz := own_set3 HOq3.out.1 hlz (.int .i64 fu) (.int .i64 fl) (.slice p1 qs.length k1)
  generalize (((w3.setCell ⟨w.heap.size + 1, 0, none⟩ (.int .i64 fu)).setCell ⟨w.heap.size + 1, 1, none⟩ (.int .i64 fl)).setCell ⟨w.heap.size + 1, 2, none⟩ (.slice p1 qs.length k1)) = W9 at hkz hbz hoz ⊢
  obtain ⟨z0, z1, z2, _, _, _⟩ := cell3 hkz
  exact bodyPost_ret (v := .tuple #[.agg #[.int .i64 fu, .int .i64 fl, .slice p1 qs.length k1], .bool ok]) (by simp [results, Try.results22, go_sem, z0, z1, z2]) rfl ⟨⟨_, rfl, own_mono hoz hpz⟩, hbz⟩
theorem prod_i64 {a b : Int} (h : okFs a b) : -9223372036854775808 ≤ a * b ∧ a * b ≤ 9223372036854775807 := by
  obtain ⟨m, n, rfl, rfl, h1, h2⟩ := okFs_nat h
  have := mul_top h1 h2
  omega
theorem impProductOn_yes (up lo : Int) (sv : Value) (rs : List (Int × Int)) (a b : Int) (w : World) (h : RodsR w sv rs) (hc : canP up lo rs a b) :
    Calls Try.prog 22 #[.agg #[.int .i64 up, .int .i64 lo, sv], .int .i64 a, .int .i64 b] w fun e w' => (∃ sq, e = .returned (.tuple #[.agg #[.int .i64 up, .int .i64 lo, sq], .bool true]) ∧ w'.ownsRow w.heap.size 93 2 sq (goR 0 (digs rs.length (a * b)) rs).length (flat (goR 0 (digs rs.length (a * b)) rs))) ∧ Below w.heap.size w w' := by
  obtain ⟨fu, fl, qs, ok, h1, _, hA⟩ := addI_any up lo rs (a * b) (prod_i64 hc.1)
  obtain ⟨rfl, rfl, rfl, rfl⟩ := h1 hc.2
  exact impProductOn_in _ _ sv rs a b w h hc.1 _ _ _ _ hA
theorem impProductOn_no (up lo : Int) (sv : Value) (rs : List (Int × Int)) (a b : Int) (w : World) (h : RodsR w sv rs) (hc : ¬ canP up lo rs a b) :
    Calls Try.prog 22 #[.agg #[.int .i64 up, .int .i64 lo, sv], .int .i64 a, .int .i64 b] w fun e w' => (∃ sq, e = .returned (.tuple #[.agg #[.int .i64 0, .int .i64 0, sq], .bool false]) ∧ w'.ownsRow w.heap.size 93 2 sq ([] : List (Int × Int)).length (flat ([] : List (Int × Int)))) ∧ Below w.heap.size w w' := by
  by_cases hk : okFs a b
  · obtain ⟨fu, fl, qs, ok, _, h1, hA⟩ := addI_any up lo rs (a * b) (prod_i64 hk)
    obtain ⟨rfl, rfl, rfl, rfl⟩ := h1 (fun h' => hc ⟨hk, h'⟩)
    exact impProductOn_in _ _ sv rs a b w h hk _ _ _ _ hA
  · exact impProductOn_out up lo sv rs a b w h hk
end Go.Proofs.Ytjchbdbdebgniaa
