/- The program's MoveBeads. -/
import Derived.Test.YtpdckmhhmgkaaaaQplay
namespace Go.Proofs.Ytpdckmhhmgkaaaa
set_option linter.unusedVariables false
open Go.RowKit

theorem mvF_pl {up lo : Int} {rs : List (Int × Int)} {m : Mv} {fu fl : Int} {qs : List (Int × Int)} {t : Bool} (h : MvF up lo rs m fu fl qs t) : PlF up lo rs [m] fu fl qs t := by
  have hp : playO up lo rs [m] = stepO up lo rs m := by unfold playO; simp
  have hok : okMs [m] ↔ okMv m := by
    constructor
    · intro h; exact h.1 0 (by simp)
    · intro h; exact ⟨fun k hk => by
        have : k = 0 := by simp at hk; exact hk
        subst this; exact h, by simp⟩
  rcases h with ⟨hg, hm, hk⟩ | ⟨hn, h1, h2, h3, h4⟩
  · obtain ⟨h1, h2⟩ := stepO_mk up lo rs m fu fl qs t hk
    cases t with
    | true => obtain ⟨e1, e2, e3, e4⟩ := h1 rfl; exact .inl ⟨hg, hok.2 hm, by rw [hp]; exact e4, e3, e1, e2, rfl⟩
    | false => obtain ⟨e1, e2, e3, e4⟩ := h2 rfl; exact .inr ⟨fun h => h.2.2 (by rw [hp]; exact e4), e1, e2, e3, rfl⟩
  · exact .inr ⟨fun h => hn ⟨h.1, hok.1 h.2.1⟩, h1, h2, h3, h4⟩

set_option maxRecDepth 100000 in
set_option maxHeartbeats 1600000 in
theorem implMove_any (up lo : Int) (sv : Value) (rs : List (Int × Int)) (m : Mv) (w : World) (h : RodsR w sv rs) (fu fl : Int) (qs : List (Int × Int)) (t : Bool) (hk : MvF up lo rs m fu fl qs t) :
    Calls Try.prog 28 #[.agg #[.int .i64 up, .int .i64 lo, sv], mvV m] w fun e w' => (∃ sq, e = .returned (.tuple #[.agg #[.int .i64 fu, .int .i64 fl, sq], .bool t]) ∧ w'.ownsRow w.heap.size 74 2 sq qs.length (flat qs)) ∧ Below w.heap.size w w' := by
  obtain ⟨a, c, rfl⟩ : ∃ a c, sv = .slice a rs.length c := by obtain ⟨a, c, e, _⟩ := h; exact ⟨a, c, e⟩
  have HK := Lib.hid (mvF_pl hk)
  obtain ⟨rod, part, amt⟩ := m
  show Calls Try.prog 28 #[.agg #[.int .i64 up, .int .i64 lo, .slice a rs.length c], .agg #[.int .i64 rod, .int .i64 part, .int .i64 amt]] w fun e w' => (∃ sq, e = .returned (.tuple #[.agg #[.int .i64 fu, .int .i64 fl, sq], .bool t]) ∧ w'.ownsRow w.heap.size 74 2 sq qs.length (flat qs)) ∧ Below w.heap.size w w'
  have HB0 : Hid (Below w.heap.size w w) := Lib.hid (Below.refl _ _)
  have HRf0 := Lib.hid (h)
  clear h hk
  go_enter Try.func28, Try.ntmps28
  go_wp2_with fail
  have hb : Below w.heap.size w (w.alloc (.cells #[.int .i64 up, .int .i64 lo, .slice a rs.length c] 28)) := (Below.refl _ _).alloc (Nat.le_refl _) _
  have hk : (w.alloc (.cells #[.int .i64 up, .int .i64 lo, .slice a rs.length c] 28)).heap[w.heap.size]? = some (.cells #[.int .i64 up, .int .i64 lo, .slice a rs.length c] 28 (0, 0)) := alloc_at rfl
  have hz : (w.alloc (.cells #[.int .i64 up, .int .i64 lo, .slice a rs.length c] 28)).heap.size = w.heap.size + 1 := by simp
  generalize w.alloc (.cells #[.int .i64 up, .int .i64 lo, .slice a rs.length c] 28) = w1 at hb hk hz ⊢
  have HB1 : Hid (Below w.heap.size w w1) := Lib.hid (HB0.out.trans (hb.mono HB0.out.size))
  have HZ1 : Hid (w.heap.size ≤ w1.heap.size) := Lib.hid hb.size
  have HRf1 := Lib.hid (HRf0.out.below HB1.out (Nat.le_refl _))
  have HKf1 := Lib.hid hk
  replace HZ1 : Hid (w.heap.size < w1.heap.size) := Lib.hid (by omega)
  have HE1 := Lib.hid hz
  clear hb hk hz
  have hb : Below w1.heap.size w1 (w1.alloc (.cells #[.int .i64 rod, .int .i64 part, .int .i64 amt] 38)) := (Below.refl _ _).alloc (Nat.le_refl _) _
  have hk : (w1.alloc (.cells #[.int .i64 rod, .int .i64 part, .int .i64 amt] 38)).heap[w.heap.size + 1]? = some (.cells #[.int .i64 rod, .int .i64 part, .int .i64 amt] 38 (0, 0)) := alloc_at (by have := HE1.out; omega)
  have hz : (w1.alloc (.cells #[.int .i64 rod, .int .i64 part, .int .i64 amt] 38)).heap.size = w1.heap.size + 1 := by simp
  generalize w1.alloc (.cells #[.int .i64 rod, .int .i64 part, .int .i64 amt] 38) = w2 at hb hk hz ⊢
  have HB2 : Hid (Below w.heap.size w w2) := Lib.hid (HB1.out.trans (hb.mono HB1.out.size))
  have HZ2 : Hid (w1.heap.size ≤ w2.heap.size) := Lib.hid hb.size
  have HRf2 := Lib.hid (HRf0.out.below HB2.out (Nat.le_refl _))
  have HKf2 := Lib.hid ((hb.block _ (lt_of_block HKf1.out)).trans HKf1.out)
  have HKm2 := Lib.hid hk
  replace HZ2 : Hid (w1.heap.size < w2.heap.size) := Lib.hid (by omega)
  have HE2 := Lib.hid hz
  clear hb hk hz
  have hb : Below w2.heap.size w2 (w2.alloc (.cells #[.int .i64 0, .int .i64 0, .slice none 0 0] 28)) := (Below.refl _ _).alloc (Nat.le_refl _) _
  have hk : (w2.alloc (.cells #[.int .i64 0, .int .i64 0, .slice none 0 0] 28)).heap[w.heap.size + 2]? = some (.cells #[.int .i64 0, .int .i64 0, .slice none 0 0] 28 (0, 0)) := alloc_at (by have := HE1.out; have := HE2.out; omega)
  have hz : (w2.alloc (.cells #[.int .i64 0, .int .i64 0, .slice none 0 0] 28)).heap.size = w2.heap.size + 1 := by simp
  generalize w2.alloc (.cells #[.int .i64 0, .int .i64 0, .slice none 0 0] 28) = w3 at hb hk hz ⊢
  have HB3 : Hid (Below w.heap.size w w3) := Lib.hid (HB2.out.trans (hb.mono HB2.out.size))
  have HZ3 : Hid (w2.heap.size ≤ w3.heap.size) := Lib.hid hb.size
  have HRf3 := Lib.hid (HRf0.out.below HB3.out (Nat.le_refl _))
  have HKf3 := Lib.hid ((hb.block _ (lt_of_block HKf2.out)).trans HKf2.out)
  have HKm3 := Lib.hid ((hb.block _ (lt_of_block HKm2.out)).trans HKm2.out)
  have HKz3 := Lib.hid hk
  replace HZ3 : Hid (w2.heap.size < w3.heap.size) := Lib.hid (by omega)
  have HE3 := Lib.hid hz
  clear hb hk hz
  have ltf := lt_of_block HKf3.out
  obtain ⟨cf0, cf1, cf2, ff0, ff1, ff2⟩ := cell3 HKf3.out
  have ltm := lt_of_block HKm3.out
  obtain ⟨cm0, cm1, cm2, fm0, fm1, fm2⟩ := cell3 HKm3.out
  have ltz := lt_of_block HKz3.out
  obtain ⟨cz0, cz1, cz2, fz0, fz1, fz2⟩ := cell3 HKz3.out
  go_wp2_with fail
  have he3 : w3.heap.size = w.heap.size + 1 + 1 + 1 := by have := HE1.out; have := HE2.out; have := HE3.out; omega
  have hr1 : RowsR 3 mvC (w3.alloc (.cells #[.int .i64 rod, .int .i64 part, .int .i64 amt] 38)) (.slice (some ⟨w.heap.size + 1 + 1 + 1, 0, none⟩) 1 1) [⟨rod, part, amt⟩] := by
    rw [← he3]
    exact RowsR.of_own mvC_len (B := 0) (e := 38) (World.ownsRow_lit w3 #[.int .i64 rod, .int .i64 part, .int .i64 amt] 1 (Nat.zero_le _) (by decide) rfl)
  have hb : Below w3.heap.size w3 (w3.alloc (.cells #[.int .i64 rod, .int .i64 part, .int .i64 amt] 38)) := (Below.refl _ _).alloc (Nat.le_refl _) _
  have hlz := ltz
  clear he3
  generalize w3.alloc (.cells #[.int .i64 rod, .int .i64 part, .int .i64 amt] 38) = w4 at hr1 hb ⊢
  have HB4 : Hid (Below w.heap.size w w4) := Lib.hid (HB3.out.trans (hb.mono HB3.out.size))
  have HZ4 : Hid (w3.heap.size ≤ w4.heap.size) := Lib.hid hb.size
  have HRf4 := Lib.hid (HRf0.out.below HB4.out (Nat.le_refl _))
  have HKf4 := Lib.hid ((hb.block _ (lt_of_block HKf3.out)).trans HKf3.out)
  have HKm4 := Lib.hid ((hb.block _ (lt_of_block HKm3.out)).trans HKm3.out)
  have HKz4 := Lib.hid ((hb.block _ (lt_of_block HKz3.out)).trans HKz3.out)
  clear hb
  refine (implPlay_any up lo _ rs _ _ _ HRf4.out hr1 fu fl qs t HK.out).mono ?_
  rintro e w5 ⟨⟨v, rfl, ho⟩, hb⟩
  have HB5 : Hid (Below w.heap.size w w5) := Lib.hid (HB4.out.trans (hb.mono HB4.out.size))
  have HZ5 : Hid (w4.heap.size ≤ w5.heap.size) := Lib.hid hb.size
  have HRf5 := Lib.hid (HRf0.out.below HB5.out (Nat.le_refl _))
  have HKf5 := Lib.hid ((hb.block _ (lt_of_block HKf4.out)).trans HKf4.out)
  have HKm5 := Lib.hid ((hb.block _ (lt_of_block HKm4.out)).trans HKm4.out)
  have HKz5 := Lib.hid ((hb.block _ (lt_of_block HKz4.out)).trans HKz4.out)
  clear hb
  obtain ⟨pv, kv, rfl⟩ := own_form ho
  have HOv5 := Lib.hid (Ow.mk' ho)
  clear ho hr1
  clear cf0 cf1 cf2 ff0 ff1 ff2 ltf cm0 cm1 cm2 fm0 fm1 fm2 ltm cz0 cz1 cz2 fz0 fz1 fz2 ltz
  have ltf := lt_of_block HKf5.out
  obtain ⟨cf0, cf1, cf2, ff0, ff1, ff2⟩ := cell3 HKf5.out
  have ltm := lt_of_block HKm5.out
  obtain ⟨cm0, cm1, cm2, fm0, fm1, fm2⟩ := cell3 HKm5.out
  have ltz := lt_of_block HKz5.out
  obtain ⟨cz0, cz1, cz2, fz0, fz1, fz2⟩ := cell3 HKz5.out
  go_wp2_with fail
  have hz9 : w.heap.size + 2 < w4.heap.size := by have := HZ1.out; have := HZ2.out; have := HZ3.out; have := HZ4.out; have := HZ5.out;  omega
  exact bodyPost_ret (v := .tuple #[.agg #[.int .i64 fu, .int .i64 fl, .slice pv qs.length kv], .bool t]) (by simp [results, Try.results28, go_sem, cz0, cz1, cz2]) rfl ⟨⟨_, rfl, own_mono (own_set3 HOv5.out.1 hz9 _ _ _) (by omega)⟩, bl_set3 HB5.out (by omega) _ _ _⟩
end Go.Proofs.Ytpdckmhhmgkaaaa
