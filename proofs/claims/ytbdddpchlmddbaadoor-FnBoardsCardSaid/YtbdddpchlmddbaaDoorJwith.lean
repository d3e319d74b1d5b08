/- The program's CarryAt and BorrowAt. -/
import Derived.Test.YtbdddpchlmddbaaDoorJcarry
import Derived.Test.YtbdddpchlmddbaaDoorIlvb
namespace Go.Proofs.YtbdddpchlmddbaaDoor
set_option linter.unusedVariables false
open Go.RowKit

set_option maxRecDepth 100000 in
set_option maxHeartbeats 800000 in
theorem carry_out (g cap : Nat) (ps : List Int) (p : Nat) (t : Int) (w : World) (hl : ps.length ≤ 12) (hp : ps.length = p + 1) :
    Calls Tryd.prog 41 #[.slice (some ⟨g, 0, none⟩) ps.length cap, .int .i64 p, .int .i64 t] w fun e w' => e = .returned (.bool false) ∧ w' = w := by
  have w4' : IntKind.i64.wrap ((p : Int) + 1) = (ps.length : Int) := by rw [IntKind.wrap_i64]; omega
  clear hp
  go_enter Tryd.func41, Tryd.ntmps41
  go_wp2_with fail
  go_ret
  exact ⟨rfl, rfl⟩

/-- The answer of carries from a line or a space, by places. -/
def WcF (t : Int) (ls ss : List Int) (p : Nat) (qs qt : List Int) (r : Bool) : Prop :=
  ((p + 1 < (ilv ls ss).length ∧ ctr (cyP p t (ilv ls ss))) ∧ qs = evs (cyP p t (ilv ls ss)) ∧ qt = ods (cyP p t (ilv ls ss)) ∧ r = true) ∨
  (¬ (p + 1 < (ilv ls ss).length ∧ ctr (cyP p t (ilv ls ss))) ∧ qs = [] ∧ qt = [] ∧ r = false)
set_option maxRecDepth 100000 in
set_option maxHeartbeats 3200000 in
theorem withCarries_yes (v1 v2 : Value) (ls ss : List Int) (line : Bool) (k p : Nat) (t : Int) (w : World) (h : BrdR w v1 v2 ls ss) (hg : okB ls ss) (hkl : k < ls.length) (hp : Hid (p = if line then 2 * k else 2 * k + 1)) (ht : -30 ≤ t ∧ t ≤ 30) (qs qt : List Int) (r : Bool) (hk : WcF t ls ss p qs qt r) :
    Calls Tryd.prog 26 #[.agg #[v1, v2], .bool line, .int .i64 k, .int .i64 t] w fun e w' => (∃ s1 t1, e = .returned (.tuple #[.agg #[s1, t1], .bool r]) ∧ OwB w.heap.size w'.heap.size w' s1 t1 qs qt) ∧ Below w.heap.size w w' := by
  obtain ⟨a1, c1, a2, c2, rfl, rfl⟩ := h.form
  have HG := Lib.hid hg
  have HK := Lib.hid hk
  have HLN := Lib.hid (ilv_len ls ss)
  have hn12 : (ilv ls ss).length ≤ 12 := by rw [ilv_len]; have := hg.1.2; omega
  have HC : Hid (ctr (ilv ls ss)) := Lib.hid ((okB_ilv ls ss).1 hg).2
  have z1 : ¬ ((k : Int) < 0) := by omega
  have z2 : ¬ ((ls.length : Int) ≤ (k : Int)) := by omega
  have z3 : (k : Int) < (ls.length : Int) := by omega
  have hk6 : k ≤ 1000 := by have := hg.1.2; omega
  have hpl : p < 2 * ls.length := by have := hp.out; revert this; cases line <;> simp <;> omega
  have hl6 : ls.length ≤ 6 := hg.1.2
  have HB0 : Hid (Below w.heap.size w w) := Lib.hid (Below.refl _ _)
  have HRf0 := Lib.hid (h)
  clear h hg hk
  go_enter Tryd.func26, Tryd.ntmps26
  go_wp2_with fail
  have hb : Below w.heap.size w (w.alloc (.cells #[.slice a1 ls.length c1, .slice a2 ss.length c2] 26)) := (Below.refl _ _).alloc (Nat.le_refl _) _
  have hk : (w.alloc (.cells #[.slice a1 ls.length c1, .slice a2 ss.length c2] 26)).heap[w.heap.size]? = some (.cells #[.slice a1 ls.length c1, .slice a2 ss.length c2] 26 (0, 0)) := alloc_at rfl
  have hz : (w.alloc (.cells #[.slice a1 ls.length c1, .slice a2 ss.length c2] 26)).heap.size = w.heap.size + 1 := by simp
  generalize w.alloc (.cells #[.slice a1 ls.length c1, .slice a2 ss.length c2] 26) = w1 at hb hk hz ⊢
  have HB1 : Hid (Below w.heap.size w w1) := Lib.hid (HB0.out.trans (hb.mono HB0.out.size))
  have HZ1 : Hid (w.heap.size ≤ w1.heap.size) := Lib.hid hb.size
  have HRf1 := Lib.hid (HRf0.out.below HB1.out (Nat.le_refl _))
  have HKb1 := Lib.hid hk
  replace HZ1 : Hid (w.heap.size < w1.heap.size) := Lib.hid (by omega)
  have HE1 := Lib.hid hz
  clear hb hk hz
  have hb : Below w1.heap.size w1 (w1.alloc (.cells #[.slice none 0 0, .slice none 0 0] 26)) := (Below.refl _ _).alloc (Nat.le_refl _) _
  have hk : (w1.alloc (.cells #[.slice none 0 0, .slice none 0 0] 26)).heap[w.heap.size + 1]? = some (.cells #[.slice none 0 0, .slice none 0 0] 26 (0, 0)) := alloc_at (by have := HE1.out; omega)
  have hz : (w1.alloc (.cells #[.slice none 0 0, .slice none 0 0] 26)).heap.size = w1.heap.size + 1 := by simp
  generalize w1.alloc (.cells #[.slice none 0 0, .slice none 0 0] 26) = w2 at hb hk hz ⊢
  have HB2 : Hid (Below w.heap.size w w2) := Lib.hid (HB1.out.trans (hb.mono HB1.out.size))
  have HZ2 : Hid (w1.heap.size ≤ w2.heap.size) := Lib.hid hb.size
  have HRf2 := Lib.hid (HRf0.out.below HB2.out (Nat.le_refl _))
  have HKb2 := Lib.hid ((hb.block _ (lt_of_block HKb1.out)).trans HKb1.out)
  have HKz2 := Lib.hid hk
  replace HZ2 : Hid (w1.heap.size < w2.heap.size) := Lib.hid (by omega)
  have HE2 := Lib.hid hz
  clear hb hk hz
  have ltb := lt_of_block HKb2.out
  obtain ⟨cb0, cb1, fb0, fb1⟩ := cell2 HKb2.out
  have ltz := lt_of_block HKz2.out
  obtain ⟨cz0, cz1, fz0, fz1⟩ := cell2 HKz2.out
  have hlz2 : w.heap.size + 1 < w2.heap.size := ltz
  refine (implIsBoard_any _ _ ls ss _ HRf2.out true ⟨fun _ => HG.out, fun _ => rfl⟩).mono ?_
  rintro e w3 ⟨rfl, hb⟩
  have HB3 : Hid (Below w.heap.size w w3) := Lib.hid (HB2.out.trans (hb.mono HB2.out.size))
  have HZ3 : Hid (w2.heap.size ≤ w3.heap.size) := Lib.hid hb.size
  have HRf3 := Lib.hid (HRf0.out.below HB3.out (Nat.le_refl _))
  have HKb3 := Lib.hid ((hb.block _ (lt_of_block HKb2.out)).trans HKb2.out)
  have HKz3 := Lib.hid ((hb.block _ (lt_of_block HKz2.out)).trans HKz2.out)
  clear hb
  clear cb0 cb1 fb0 fb1 ltb cz0 cz1 fz0 fz1 ltz
  have ltb := lt_of_block HKb3.out
  obtain ⟨cb0, cb1, fb0, fb1⟩ := cell2 HKb3.out
  have ltz := lt_of_block HKz3.out
  obtain ⟨cz0, cz1, fz0, fz1⟩ := cell2 HKz3.out
  go_wp2_with fail
  refine (placesOf_any _ _ ls ss _ HRf3.out HG.out.1.2 HG.out.2.1).mono ?_
  rintro e w4 ⟨⟨v', rfl, ho⟩, hb⟩
  have HB4 : Hid (Below w.heap.size w w4) := Lib.hid (HB3.out.trans (hb.mono HB3.out.size))
  have HZ4 : Hid (w3.heap.size ≤ w4.heap.size) := Lib.hid hb.size
  have HRf4 := Lib.hid (HRf0.out.below HB4.out (Nat.le_refl _))
  have HKb4 := Lib.hid ((hb.block _ (lt_of_block HKb3.out)).trans HKb3.out)
  have HKz4 := Lib.hid ((hb.block _ (lt_of_block HKz3.out)).trans HKz3.out)
  clear hb
  unfold WcF at HK
  generalize ilv ls ss = ps at HK HLN hn12 HC ho
  have hlz4 : w.heap.size + 1 < w3.heap.size := by have := HZ3.out; omega
  obtain ⟨g, cap, rfl⟩ := own_some ho.1 (by have := HLN.out; have := HG.out.1.1; omega)
  have HO := Lib.hid ho
  clear ho
  clear cb0 cb1 fb0 fb1 ltb cz0 cz1 fz0 fz1 ltz
  have ltb := lt_of_block HKb4.out
  obtain ⟨cb0, cb1, fb0, fb1⟩ := cell2 HKb4.out
  have ltz := lt_of_block HKz4.out
  obtain ⟨cz0, cz1, fz0, fz1⟩ := cell2 HKz4.out
  go_wp2_with fail
  refine (placeAt_any line k p _ hk6 hp).mono ?_
  rintro e w' ⟨rfl, hw⟩
  subst w'
  go_wp2_with fail
  by_cases hp1 : p + 1 < ps.length
  · have HP1 := Lib.hid hp1
    have h34 : w3.heap.size ≤ w4.heap.size := by have := HZ4.out; omega
    obtain ⟨rc, hrc⟩ : ∃ rc : Bool, rc = true ↔ ctr (cyP p t ps) := by
      by_cases hh : ctr (cyP p t ps)
      · exact ⟨true, fun _ => hh, fun _ => rfl⟩
      · exact ⟨false, fun e => (by simp at e), fun e => absurd e hh⟩
    have HRC := Lib.hid hrc
    have HCY := Lib.hid (cyP_len p t ps)
    clear hp1 hrc
    refine (carry_in g cap w3.heap.size w4.heap.size ps p t _ HO.out h34 hn12 HC.out ht HP1.out rc HRC).mono ?_
    rintro e w5 ⟨rfl, ho5, hm⟩
    have HO5 := Lib.hid ho5
    clear ho5
    have HZ5 : Hid (w4.heap.size ≤ w5.heap.size) := Lib.hid hm.size
    have HB5 : Hid (Below w.heap.size w w5) := Lib.hid (HB4.out.trans (hm.below.mono (by have := HZ1.out; have := HZ2.out; have := HZ3.out; have := HZ4.out; have := HB0.out.size; omega)))
    have HRf5 := Lib.hid (HRf0.out.below HB5.out (Nat.le_refl _))
    have HKb5 := Lib.hid ((hm.block _ (by have := lt_of_block HKb4.out; have := HZ1.out; have := HZ2.out; have := HZ3.out; have := HZ4.out; omega)).trans HKb4.out)
    have HKz5 := Lib.hid ((hm.block _ (by have := lt_of_block HKz4.out; have := HZ1.out; have := HZ2.out; have := HZ3.out; have := HZ4.out; omega)).trans HKz4.out)
    clear hm
    cases rc with
    | true =>
      have HK2 : Hid (qs = evs (cyP p t ps) ∧ qt = ods (cyP p t ps) ∧ r = true) := Lib.hid (by
        rcases HK.out with ⟨_, h2⟩ | ⟨h1, _⟩
        · exact h2
        · exact absurd ⟨HP1.out, HRC.out.1 rfl⟩ h1)
      obtain ⟨rfl, rfl, rfl⟩ := HK2.out
      clear cb0 cb1 fb0 fb1 ltb cz0 cz1 fz0 fz1 ltz
      have ltb := lt_of_block HKb5.out
      obtain ⟨cb0, cb1, fb0, fb1⟩ := cell2 HKb5.out
      have ltz := lt_of_block HKz5.out
      obtain ⟨cz0, cz1, fz0, fz1⟩ := cell2 HKz5.out
      go_wp2_with fail
      have hlz5 : w.heap.size + 1 < w5.heap.size := by have := HZ5.out; have := HZ4.out; omega
      refine (boardOf_any _ (cyP p t ps) ls.length _ (RowsR.of_own inC_len (own_relen' HCY.out HO5.out.1)) hl6 (by rw [HCY.out]; exact HLN.out)).mono ?_
      rintro e w6 ⟨⟨s1, s2, rfl, ho⟩, hb⟩
      have HB6 : Hid (Below w.heap.size w w6) := Lib.hid (HB5.out.trans (hb.mono HB5.out.size))
      have HZ6 : Hid (w5.heap.size ≤ w6.heap.size) := Lib.hid hb.size
      have HRf6 := Lib.hid (HRf0.out.below HB6.out (Nat.le_refl _))
      have HKb6 := Lib.hid ((hb.block _ (lt_of_block HKb5.out)).trans HKb5.out)
      have HKz6 := Lib.hid ((hb.block _ (lt_of_block HKz5.out)).trans HKz5.out)
      clear hb
      obtain ⟨p1, k1, p2, k2, rfl, rfl⟩ := ho.form
      have HOv6 := Lib.hid (ho)
      clear ho
      clear cb0 cb1 fb0 fb1 ltb cz0 cz1 fz0 fz1 ltz
      have ltb := lt_of_block HKb6.out
      obtain ⟨cb0, cb1, fb0, fb1⟩ := cell2 HKb6.out
      have ltz := lt_of_block HKz6.out
      obtain ⟨cz0, cz1, fz0, fz1⟩ := cell2 HKz6.out
      go_wp2_with fail
      exact bodyPost_ret (v := .tuple #[.agg #[.slice p1 (evs (cyP p t ps)).length k1, .slice p2 (ods (cyP p t ps)).length k2], .bool true]) (by simp [results, Tryd.results26, go_sem, cz0, cz1]) rfl ⟨⟨_, _, rfl, ((HOv6.out.set (a := ⟨w.heap.size + 1, 0, none⟩) hlz5 _).set (a := ⟨w.heap.size + 1, 1, none⟩) hlz5 _).mono (by omega) (by simp [World.setCell])⟩, (HB6.out.setCell (p := ⟨w.heap.size + 1, 0, none⟩) (Nat.le_succ _) _).setCell (p := ⟨w.heap.size + 1, 1, none⟩) (Nat.le_succ _) _⟩
    | false =>
      have HK2 : Hid (qs = [] ∧ qt = [] ∧ r = false) := Lib.hid (by
        rcases HK.out with ⟨h1, _⟩ | ⟨_, h2⟩
        · exact absurd (HRC.out.2 h1.2) (by simp)
        · exact h2)
      obtain ⟨rfl, rfl, rfl⟩ := HK2.out
      clear cb0 cb1 fb0 fb1 ltb cz0 cz1 fz0 fz1 ltz
      have ltb := lt_of_block HKb5.out
      obtain ⟨cb0, cb1, fb0, fb1⟩ := cell2 HKb5.out
      have ltz := lt_of_block HKz5.out
      obtain ⟨cz0, cz1, fz0, fz1⟩ := cell2 HKz5.out
      go_wp2_with fail
      exact bodyPost_ret (v := .tuple #[.agg #[.slice none 0 0, .slice none 0 0], .bool false]) (by simp [results, Tryd.results26, go_sem, cz0, cz1]) rfl ⟨⟨_, _, rfl, OwB.nil' _ _ _⟩, by first | exact HB5.out | exact (HB5.out.setCell (p := ⟨w.heap.size + 1, 0, none⟩) (Nat.le_succ _) _).setCell (p := ⟨w.heap.size + 1, 1, none⟩) (Nat.le_succ _) _⟩
  · have HP1 : Hid (ps.length = p + 1) := Lib.hid (by have := HLN.out; omega)
    have HK2 : Hid (qs = [] ∧ qt = [] ∧ r = false) := Lib.hid (by
        rcases HK.out with ⟨h1, _⟩ | ⟨_, h2⟩
        · exact absurd h1.1 hp1
        · exact h2)
    obtain ⟨rfl, rfl, rfl⟩ := HK2.out
    clear hp1
    refine (carry_out g cap ps p t _ hn12 HP1.out).mono ?_
    rintro e w' ⟨rfl, hw⟩
    subst w'
    clear cb0 cb1 fb0 fb1 ltb cz0 cz1 fz0 fz1 ltz
    have ltb := lt_of_block HKb4.out
    obtain ⟨cb0, cb1, fb0, fb1⟩ := cell2 HKb4.out
    have ltz := lt_of_block HKz4.out
    obtain ⟨cz0, cz1, fz0, fz1⟩ := cell2 HKz4.out
    go_wp2_with fail
    exact bodyPost_ret (v := .tuple #[.agg #[.slice none 0 0, .slice none 0 0], .bool false]) (by simp [results, Tryd.results26, go_sem, cz0, cz1]) rfl ⟨⟨_, _, rfl, OwB.nil' _ _ _⟩, by first | exact HB4.out | exact (HB4.out.setCell (p := ⟨w.heap.size + 1, 0, none⟩) (Nat.le_succ _) _).setCell (p := ⟨w.heap.size + 1, 1, none⟩) (Nat.le_succ _) _⟩
set_option maxRecDepth 100000 in
set_option maxHeartbeats 1600000 in
theorem withCarries_bad (v1 v2 : Value) (ls ss : List Int) (line : Bool) (k t : Int) (w : World) (h : BrdR w v1 v2 ls ss) (hg : ¬ okB ls ss) :
    Calls Tryd.prog 26 #[.agg #[v1, v2], .bool line, .int .i64 k, .int .i64 t] w fun e w' => (∃ s1 t1, e = .returned (.tuple #[.agg #[s1, t1], .bool false]) ∧ OwB w.heap.size w'.heap.size w' s1 t1 [] []) ∧ Below w.heap.size w w' := by
  obtain ⟨a1, c1, a2, c2, rfl, rfl⟩ := h.form
  have HG := Lib.hid hg
  have HB0 : Hid (Below w.heap.size w w) := Lib.hid (Below.refl _ _)
  have HRf0 := Lib.hid (h)
  clear h hg
  go_enter Tryd.func26, Tryd.ntmps26
  go_wp2_with fail
  have hb : Below w.heap.size w (w.alloc (.cells #[.slice a1 ls.length c1, .slice a2 ss.length c2] 26)) := (Below.refl _ _).alloc (Nat.le_refl _) _
  have hk : (w.alloc (.cells #[.slice a1 ls.length c1, .slice a2 ss.length c2] 26)).heap[w.heap.size]? = some (.cells #[.slice a1 ls.length c1, .slice a2 ss.length c2] 26 (0, 0)) := alloc_at rfl
  have hz : (w.alloc (.cells #[.slice a1 ls.length c1, .slice a2 ss.length c2] 26)).heap.size = w.heap.size + 1 := by simp
  generalize w.alloc (.cells #[.slice a1 ls.length c1, .slice a2 ss.length c2] 26) = w1 at hb hk hz ⊢
  have HB1 : Hid (Below w.heap.size w w1) := Lib.hid (HB0.out.trans (hb.mono HB0.out.size))
  have HZ1 : Hid (w.heap.size ≤ w1.heap.size) := Lib.hid hb.size
  have HRf1 := Lib.hid (HRf0.out.below HB1.out (Nat.le_refl _))
  have HKb1 := Lib.hid hk
  replace HZ1 : Hid (w.heap.size < w1.heap.size) := Lib.hid (by omega)
  have HE1 := Lib.hid hz
  clear hb hk hz
  have hb : Below w1.heap.size w1 (w1.alloc (.cells #[.slice none 0 0, .slice none 0 0] 26)) := (Below.refl _ _).alloc (Nat.le_refl _) _
  have hk : (w1.alloc (.cells #[.slice none 0 0, .slice none 0 0] 26)).heap[w.heap.size + 1]? = some (.cells #[.slice none 0 0, .slice none 0 0] 26 (0, 0)) := alloc_at (by have := HE1.out; omega)
  have hz : (w1.alloc (.cells #[.slice none 0 0, .slice none 0 0] 26)).heap.size = w1.heap.size + 1 := by simp
  generalize w1.alloc (.cells #[.slice none 0 0, .slice none 0 0] 26) = w2 at hb hk hz ⊢
  have HB2 : Hid (Below w.heap.size w w2) := Lib.hid (HB1.out.trans (hb.mono HB1.out.size))
  have HZ2 : Hid (w1.heap.size ≤ w2.heap.size) := Lib.hid hb.size
  have HRf2 := Lib.hid (HRf0.out.below HB2.out (Nat.le_refl _))
  have HKb2 := Lib.hid ((hb.block _ (lt_of_block HKb1.out)).trans HKb1.out)
  have HKz2 := Lib.hid hk
  replace HZ2 : Hid (w1.heap.size < w2.heap.size) := Lib.hid (by omega)
  have HE2 := Lib.hid hz
  clear hb hk hz
  have ltb := lt_of_block HKb2.out
  obtain ⟨cb0, cb1, fb0, fb1⟩ := cell2 HKb2.out
  have ltz := lt_of_block HKz2.out
  obtain ⟨cz0, cz1, fz0, fz1⟩ := cell2 HKz2.out
  refine (implIsBoard_any _ _ ls ss _ HRf2.out false ⟨fun e => by simp at e, fun e => absurd e HG.out⟩).mono ?_
  rintro e w3 ⟨rfl, hb⟩
  have HB3 : Hid (Below w.heap.size w w3) := Lib.hid (HB2.out.trans (hb.mono HB2.out.size))
  have HZ3 : Hid (w2.heap.size ≤ w3.heap.size) := Lib.hid hb.size
  have HRf3 := Lib.hid (HRf0.out.below HB3.out (Nat.le_refl _))
  have HKb3 := Lib.hid ((hb.block _ (lt_of_block HKb2.out)).trans HKb2.out)
  have HKz3 := Lib.hid ((hb.block _ (lt_of_block HKz2.out)).trans HKz2.out)
  clear hb
  clear cb0 cb1 fb0 fb1 ltb cz0 cz1 fz0 fz1 ltz
  have ltb := lt_of_block HKb3.out
  obtain ⟨cb0, cb1, fb0, fb1⟩ := cell2 HKb3.out
  have ltz := lt_of_block HKz3.out
  obtain ⟨cz0, cz1, fz0, fz1⟩ := cell2 HKz3.out
  go_wp2_with fail
  exact bodyPost_ret (v := .tuple #[.agg #[.slice none 0 0, .slice none 0 0], .bool false]) (by simp [results, Tryd.results26, go_sem, cz0, cz1]) rfl ⟨⟨_, _, rfl, OwB.nil' _ _ _⟩, by first | exact HB3.out | exact (HB3.out.setCell (p := ⟨w.heap.size + 1, 0, none⟩) (Nat.le_succ _) _).setCell (p := ⟨w.heap.size + 1, 1, none⟩) (Nat.le_succ _) _⟩
set_option maxRecDepth 100000 in
set_option maxHeartbeats 1600000 in
theorem withCarries_far (v1 v2 : Value) (ls ss : List Int) (line : Bool) (k t : Int) (w : World) (h : BrdR w v1 v2 ls ss) (hg : okB ls ss) (hk : ¬ (0 ≤ k ∧ k < (ls.length : Int))) :
    Calls Tryd.prog 26 #[.agg #[v1, v2], .bool line, .int .i64 k, .int .i64 t] w fun e w' => (∃ s1 t1, e = .returned (.tuple #[.agg #[s1, t1], .bool false]) ∧ OwB w.heap.size w'.heap.size w' s1 t1 [] []) ∧ Below w.heap.size w w' := by
  obtain ⟨a1, c1, a2, c2, rfl, rfl⟩ := h.form
  have HG := Lib.hid hg
  have HB0 : Hid (Below w.heap.size w w) := Lib.hid (Below.refl _ _)
  have HRf0 := Lib.hid (h)
  clear h hg
  by_cases hk0 : k < 0
  · clear hk
    go_enter Tryd.func26, Tryd.ntmps26
    go_wp2_with fail
    have hb : Below w.heap.size w (w.alloc (.cells #[.slice a1 ls.length c1, .slice a2 ss.length c2] 26)) := (Below.refl _ _).alloc (Nat.le_refl _) _
    have hk : (w.alloc (.cells #[.slice a1 ls.length c1, .slice a2 ss.length c2] 26)).heap[w.heap.size]? = some (.cells #[.slice a1 ls.length c1, .slice a2 ss.length c2] 26 (0, 0)) := alloc_at rfl
    have hz : (w.alloc (.cells #[.slice a1 ls.length c1, .slice a2 ss.length c2] 26)).heap.size = w.heap.size + 1 := by simp
    generalize w.alloc (.cells #[.slice a1 ls.length c1, .slice a2 ss.length c2] 26) = w1 at hb hk hz ⊢
    have HB1 : Hid (Below w.heap.size w w1) := Lib.hid (HB0.out.trans (hb.mono HB0.out.size))
    have HZ1 : Hid (w.heap.size ≤ w1.heap.size) := Lib.hid hb.size
    have HRf1 := Lib.hid (HRf0.out.below HB1.out (Nat.le_refl _))
    have HKb1 := Lib.hid hk
    replace HZ1 : Hid (w.heap.size < w1.heap.size) := Lib.hid (by omega)
    have HE1 := Lib.hid hz
    clear hb hk hz
    have hb : Below w1.heap.size w1 (w1.alloc (.cells #[.slice none 0 0, .slice none 0 0] 26)) := (Below.refl _ _).alloc (Nat.le_refl _) _
    have hk : (w1.alloc (.cells #[.slice none 0 0, .slice none 0 0] 26)).heap[w.heap.size + 1]? = some (.cells #[.slice none 0 0, .slice none 0 0] 26 (0, 0)) := alloc_at (by have := HE1.out; omega)
    have hz : (w1.alloc (.cells #[.slice none 0 0, .slice none 0 0] 26)).heap.size = w1.heap.size + 1 := by simp
    generalize w1.alloc (.cells #[.slice none 0 0, .slice none 0 0] 26) = w2 at hb hk hz ⊢
    have HB2 : Hid (Below w.heap.size w w2) := Lib.hid (HB1.out.trans (hb.mono HB1.out.size))
    have HZ2 : Hid (w1.heap.size ≤ w2.heap.size) := Lib.hid hb.size
    have HRf2 := Lib.hid (HRf0.out.below HB2.out (Nat.le_refl _))
    have HKb2 := Lib.hid ((hb.block _ (lt_of_block HKb1.out)).trans HKb1.out)
    have HKz2 := Lib.hid hk
    replace HZ2 : Hid (w1.heap.size < w2.heap.size) := Lib.hid (by omega)
    have HE2 := Lib.hid hz
    clear hb hk hz
    have ltb := lt_of_block HKb2.out
    obtain ⟨cb0, cb1, fb0, fb1⟩ := cell2 HKb2.out
    have ltz := lt_of_block HKz2.out
    obtain ⟨cz0, cz1, fz0, fz1⟩ := cell2 HKz2.out
    refine (implIsBoard_any _ _ ls ss _ HRf2.out true ⟨fun _ => HG.out, fun _ => rfl⟩).mono ?_
    rintro e w3 ⟨rfl, hb⟩
    have HB3 : Hid (Below w.heap.size w w3) := Lib.hid (HB2.out.trans (hb.mono HB2.out.size))
    have HZ3 : Hid (w2.heap.size ≤ w3.heap.size) := Lib.hid hb.size
    have HRf3 := Lib.hid (HRf0.out.below HB3.out (Nat.le_refl _))
    have HKb3 := Lib.hid ((hb.block _ (lt_of_block HKb2.out)).trans HKb2.out)
    have HKz3 := Lib.hid ((hb.block _ (lt_of_block HKz2.out)).trans HKz2.out)
    clear hb
    clear cb0 cb1 fb0 fb1 ltb cz0 cz1 fz0 fz1 ltz
    have ltb := lt_of_block HKb3.out
    obtain ⟨cb0, cb1, fb0, fb1⟩ := cell2 HKb3.out
    have ltz := lt_of_block HKz3.out
    obtain ⟨cz0, cz1, fz0, fz1⟩ := cell2 HKz3.out
    go_wp2_with fail
    exact bodyPost_ret (v := .tuple #[.agg #[.slice none 0 0, .slice none 0 0], .bool false]) (by simp [results, Tryd.results26, go_sem, cz0, cz1]) rfl ⟨⟨_, _, rfl, OwB.nil' _ _ _⟩, by first | exact HB3.out | exact (HB3.out.setCell (p := ⟨w.heap.size + 1, 0, none⟩) (Nat.le_succ _) _).setCell (p := ⟨w.heap.size + 1, 1, none⟩) (Nat.le_succ _) _⟩
  · have hk1 : (ls.length : Int) ≤ k := by omega
    clear hk
    go_enter Tryd.func26, Tryd.ntmps26
    go_wp2_with fail
    have hb : Below w.heap.size w (w.alloc (.cells #[.slice a1 ls.length c1, .slice a2 ss.length c2] 26)) := (Below.refl _ _).alloc (Nat.le_refl _) _
    have hk : (w.alloc (.cells #[.slice a1 ls.length c1, .slice a2 ss.length c2] 26)).heap[w.heap.size]? = some (.cells #[.slice a1 ls.length c1, .slice a2 ss.length c2] 26 (0, 0)) := alloc_at rfl
    have hz : (w.alloc (.cells #[.slice a1 ls.length c1, .slice a2 ss.length c2] 26)).heap.size = w.heap.size + 1 := by simp
    generalize w.alloc (.cells #[.slice a1 ls.length c1, .slice a2 ss.length c2] 26) = w1 at hb hk hz ⊢
    have HB1 : Hid (Below w.heap.size w w1) := Lib.hid (HB0.out.trans (hb.mono HB0.out.size))
    have HZ1 : Hid (w.heap.size ≤ w1.heap.size) := Lib.hid hb.size
    have HRf1 := Lib.hid (HRf0.out.below HB1.out (Nat.le_refl _))
    have HKb1 := Lib.hid hk
    replace HZ1 : Hid (w.heap.size < w1.heap.size) := Lib.hid (by omega)
    have HE1 := Lib.hid hz
    clear hb hk hz
    have hb : Below w1.heap.size w1 (w1.alloc (.cells #[.slice none 0 0, .slice none 0 0] 26)) := (Below.refl _ _).alloc (Nat.le_refl _) _
    have hk : (w1.alloc (.cells #[.slice none 0 0, .slice none 0 0] 26)).heap[w.heap.size + 1]? = some (.cells #[.slice none 0 0, .slice none 0 0] 26 (0, 0)) := alloc_at (by have := HE1.out; omega)
    have hz : (w1.alloc (.cells #[.slice none 0 0, .slice none 0 0] 26)).heap.size = w1.heap.size + 1 := by simp
    generalize w1.alloc (.cells #[.slice none 0 0, .slice none 0 0] 26) = w2 at hb hk hz ⊢
    have HB2 : Hid (Below w.heap.size w w2) := Lib.hid (HB1.out.trans (hb.mono HB1.out.size))
    have HZ2 : Hid (w1.heap.size ≤ w2.heap.size) := Lib.hid hb.size
    have HRf2 := Lib.hid (HRf0.out.below HB2.out (Nat.le_refl _))
    have HKb2 := Lib.hid ((hb.block _ (lt_of_block HKb1.out)).trans HKb1.out)
    have HKz2 := Lib.hid hk
    replace HZ2 : Hid (w1.heap.size < w2.heap.size) := Lib.hid (by omega)
    have HE2 := Lib.hid hz
    clear hb hk hz
    have ltb := lt_of_block HKb2.out
    obtain ⟨cb0, cb1, fb0, fb1⟩ := cell2 HKb2.out
    have ltz := lt_of_block HKz2.out
    obtain ⟨cz0, cz1, fz0, fz1⟩ := cell2 HKz2.out
    refine (implIsBoard_any _ _ ls ss _ HRf2.out true ⟨fun _ => HG.out, fun _ => rfl⟩).mono ?_
    rintro e w3 ⟨rfl, hb⟩
    have HB3 : Hid (Below w.heap.size w w3) := Lib.hid (HB2.out.trans (hb.mono HB2.out.size))
    have HZ3 : Hid (w2.heap.size ≤ w3.heap.size) := Lib.hid hb.size
    have HRf3 := Lib.hid (HRf0.out.below HB3.out (Nat.le_refl _))
    have HKb3 := Lib.hid ((hb.block _ (lt_of_block HKb2.out)).trans HKb2.out)
    have HKz3 := Lib.hid ((hb.block _ (lt_of_block HKz2.out)).trans HKz2.out)
    clear hb
    clear cb0 cb1 fb0 fb1 ltb cz0 cz1 fz0 fz1 ltz
    have ltb := lt_of_block HKb3.out
    obtain ⟨cb0, cb1, fb0, fb1⟩ := cell2 HKb3.out
    have ltz := lt_of_block HKz3.out
    obtain ⟨cz0, cz1, fz0, fz1⟩ := cell2 HKz3.out
    go_wp2_with fail
    exact bodyPost_ret (v := .tuple #[.agg #[.slice none 0 0, .slice none 0 0], .bool false]) (by simp [results, Tryd.results26, go_sem, cz0, cz1]) rfl ⟨⟨_, _, rfl, OwB.nil' _ _ _⟩, by first | exact HB3.out | exact (HB3.out.setCell (p := ⟨w.heap.size + 1, 0, none⟩) (Nat.le_succ _) _).setCell (p := ⟨w.heap.size + 1, 1, none⟩) (Nat.le_succ _) _⟩
/-- A carry by places is one of the model's. -/
theorem wc_of_car (t : Int) (ls ss : List Int) (line : Bool) (k p : Nat) (hg : okB ls ss) (hkl : k < ls.length) (hp : p = if line then 2 * k else 2 * k + 1) (qs qt : List Int) (r : Bool) (hk : CarF t ls ss line (k : Int) qs qt r) : WcF t ls ss p qs qt r := by
  have hl := ilv_len ls ss
  have hs := hg.2.1
  have hn := hg.1
  unfold CarF at hk
  rw [Int.toNat_natCast] at hk
  have key : (p + 1 < (ilv ls ss).length ↔ plcB line (k : Int) ls) ∧ (p + 1 < (ilv ls ss).length → cyP p t (ilv ls ss) = ilv (mvL line k t ls) (mvS line k t ss)) := by
    cases line with
    | true =>
      have hp2 : p = 2 * k := by simpa using hp
      subst hp2
      refine ⟨⟨fun _ => ⟨by omega, by simp; omega⟩, fun _ => by omega⟩, fun _ => cyP_line ls ss hs k hkl t⟩
    | false =>
      have hp2 : p = 2 * k + 1 := by simpa using hp
      subst hp2
      refine ⟨⟨fun h => ⟨by omega, by simp; omega⟩, fun h => by have := h.2; simp at this; omega⟩, fun h => cyP_space ls ss hs k (by omega) t⟩
  have ok2 : p + 1 < (ilv ls ss).length → (okB (mvL line k t ls) (mvS line k t ss) ↔ ctr (cyP p t (ilv ls ss))) := fun h => by
    rw [key.2 h, okB_ilv, mvL_len, mvS_len]
    exact ⟨fun e => e.2, fun e => ⟨⟨hn, hs⟩, e⟩⟩
  rcases hk with ⟨⟨_, h2⟩, h3, rfl, rfl, rfl⟩ | ⟨h1, h2⟩
  · have h4 := key.1.2 h2
    refine .inl ⟨⟨h4, (ok2 h4).1 h3⟩, ?_, ?_, rfl⟩
    · rw [key.2 h4, evs_ilv]
    · rw [key.2 h4, ods_ilv _ _ (by rw [mvL_len, mvS_len]; exact hs)]
  · exact .inr ⟨fun h => h1 ⟨⟨hg, key.1.1 h.1⟩, (ok2 h.1).2 h.2⟩, h2⟩
theorem withCarries_any (v1 v2 : Value) (ls ss : List Int) (line : Bool) (k t : Int) (w : World) (h : BrdR w v1 v2 ls ss) (ht : -30 ≤ t ∧ t ≤ 30) (qs qt : List Int) (r : Bool) (hk : CarF t ls ss line k qs qt r) :
    Calls Tryd.prog 26 #[.agg #[v1, v2], .bool line, .int .i64 k, .int .i64 t] w fun e w' => (∃ s1 t1, e = .returned (.tuple #[.agg #[s1, t1], .bool r]) ∧ OwB w.heap.size w'.heap.size w' s1 t1 qs qt) ∧ Below w.heap.size w w' := by
  by_cases hg : okB ls ss
  · by_cases hkl : 0 ≤ k ∧ k < (ls.length : Int)
    · obtain ⟨j, rfl⟩ : ∃ j : Nat, k = j := ⟨k.toNat, by omega⟩
      exact withCarries_yes v1 v2 ls ss line j _ t w h hg (by omega) (Lib.hid rfl) ht qs qt r (wc_of_car t ls ss line j _ hg (by omega) rfl qs qt r hk)
    · rcases hk with ⟨⟨_, h2⟩, _⟩ | ⟨_, rfl, rfl, rfl⟩
      · refine absurd ⟨h2.1, ?_⟩ hkl
        have := h2.2
        cases line <;> simp at this <;> omega
      · exact withCarries_far v1 v2 ls ss line k t w h hg hkl
  · rcases hk with ⟨⟨h1, _⟩, _⟩ | ⟨_, rfl, rfl, rfl⟩
    · exact absurd h1 hg
    · exact withCarries_bad v1 v2 ls ss line k t w h hg
set_option maxRecDepth 100000 in
set_option maxHeartbeats 800000 in
theorem implCarryAt_any (v1 v2 : Value) (ls ss : List Int) (line : Bool) (k : Int) (w : World) (h : BrdR w v1 v2 ls ss) (qs qt : List Int) (r : Bool) (hk : CarF (1) ls ss line k qs qt r) :
    Calls Tryd.prog 6 #[.agg #[v1, v2], .bool line, .int .i64 k] w fun e w' => (∃ s1 t1, e = .returned (.tuple #[.agg #[s1, t1], .bool r]) ∧ OwB w.heap.size w'.heap.size w' s1 t1 qs qt) ∧ Below w.heap.size w w' := by
  obtain ⟨a1, c1, a2, c2, rfl, rfl⟩ := h.form
  have HW := Lib.hid (fun v1 v2 w h => withCarries_any v1 v2 ls ss line k (1) w h (by omega) qs qt r hk)
  have HB0 : Hid (Below w.heap.size w w) := Lib.hid (Below.refl _ _)
  have HRf0 := Lib.hid (h)
  clear h hk
  go_enter Tryd.func6, Tryd.ntmps6
  go_wp2_with fail
  have hb : Below w.heap.size w (w.alloc (.cells #[.slice a1 ls.length c1, .slice a2 ss.length c2] 26)) := (Below.refl _ _).alloc (Nat.le_refl _) _
  have hk : (w.alloc (.cells #[.slice a1 ls.length c1, .slice a2 ss.length c2] 26)).heap[w.heap.size]? = some (.cells #[.slice a1 ls.length c1, .slice a2 ss.length c2] 26 (0, 0)) := alloc_at rfl
  have hz : (w.alloc (.cells #[.slice a1 ls.length c1, .slice a2 ss.length c2] 26)).heap.size = w.heap.size + 1 := by simp
  generalize w.alloc (.cells #[.slice a1 ls.length c1, .slice a2 ss.length c2] 26) = w1 at hb hk hz ⊢
  have HB1 : Hid (Below w.heap.size w w1) := Lib.hid (HB0.out.trans (hb.mono HB0.out.size))
  have HZ1 : Hid (w.heap.size ≤ w1.heap.size) := Lib.hid hb.size
  have HRf1 := Lib.hid (HRf0.out.below HB1.out (Nat.le_refl _))
  have HKb1 := Lib.hid hk
  replace HZ1 : Hid (w.heap.size < w1.heap.size) := Lib.hid (by omega)
  have HE1 := Lib.hid hz
  clear hb hk hz
  have hb : Below w1.heap.size w1 (w1.alloc (.cells #[.slice none 0 0, .slice none 0 0] 26)) := (Below.refl _ _).alloc (Nat.le_refl _) _
  have hk : (w1.alloc (.cells #[.slice none 0 0, .slice none 0 0] 26)).heap[w.heap.size + 1]? = some (.cells #[.slice none 0 0, .slice none 0 0] 26 (0, 0)) := alloc_at (by have := HE1.out; omega)
  have hz : (w1.alloc (.cells #[.slice none 0 0, .slice none 0 0] 26)).heap.size = w1.heap.size + 1 := by simp
  generalize w1.alloc (.cells #[.slice none 0 0, .slice none 0 0] 26) = w2 at hb hk hz ⊢
  have HB2 : Hid (Below w.heap.size w w2) := Lib.hid (HB1.out.trans (hb.mono HB1.out.size))
  have HZ2 : Hid (w1.heap.size ≤ w2.heap.size) := Lib.hid hb.size
  have HRf2 := Lib.hid (HRf0.out.below HB2.out (Nat.le_refl _))
  have HKb2 := Lib.hid ((hb.block _ (lt_of_block HKb1.out)).trans HKb1.out)
  have HKz2 := Lib.hid hk
  replace HZ2 : Hid (w1.heap.size < w2.heap.size) := Lib.hid (by omega)
  have HE2 := Lib.hid hz
  clear hb hk hz
  have ltb := lt_of_block HKb2.out
  obtain ⟨cb0, cb1, fb0, fb1⟩ := cell2 HKb2.out
  have ltz := lt_of_block HKz2.out
  obtain ⟨cz0, cz1, fz0, fz1⟩ := cell2 HKz2.out
  have hlz : w.heap.size + 1 < w2.heap.size := ltz
  refine (HW.out _ _ _ HRf2.out).mono ?_
  rintro e w3 ⟨⟨s1, s2, rfl, ho⟩, hb⟩
  have HB3 : Hid (Below w.heap.size w w3) := Lib.hid (HB2.out.trans (hb.mono HB2.out.size))
  have HZ3 : Hid (w2.heap.size ≤ w3.heap.size) := Lib.hid hb.size
  have HRf3 := Lib.hid (HRf0.out.below HB3.out (Nat.le_refl _))
  have HKb3 := Lib.hid ((hb.block _ (lt_of_block HKb2.out)).trans HKb2.out)
  have HKz3 := Lib.hid ((hb.block _ (lt_of_block HKz2.out)).trans HKz2.out)
  clear hb
  obtain ⟨p1, k1, p2, k2, rfl, rfl⟩ := ho.form
  have HOv3 := Lib.hid (ho)
  clear ho
  clear cb0 cb1 fb0 fb1 ltb cz0 cz1 fz0 fz1 ltz
  have ltb := lt_of_block HKb3.out
  obtain ⟨cb0, cb1, fb0, fb1⟩ := cell2 HKb3.out
  have ltz := lt_of_block HKz3.out
  obtain ⟨cz0, cz1, fz0, fz1⟩ := cell2 HKz3.out
  go_wp2_with fail
  exact bodyPost_ret (v := .tuple #[.agg #[.slice p1 qs.length k1, .slice p2 qt.length k2], .bool r]) (by simp [results, Tryd.results6, go_sem, cz0, cz1]) rfl ⟨⟨_, _, rfl, ((HOv3.out.set (a := ⟨w.heap.size + 1, 0, none⟩) hlz _).set (a := ⟨w.heap.size + 1, 1, none⟩) hlz _).mono (by omega) (by simp [World.setCell])⟩, (HB3.out.setCell (p := ⟨w.heap.size + 1, 0, none⟩) (Nat.le_succ _) _).setCell (p := ⟨w.heap.size + 1, 1, none⟩) (Nat.le_succ _) _⟩
set_option maxRecDepth 100000 in
set_option maxHeartbeats 800000 in
theorem implBorrowAt_any (v1 v2 : Value) (ls ss : List Int) (line : Bool) (k : Int) (w : World) (h : BrdR w v1 v2 ls ss) (qs qt : List Int) (r : Bool) (hk : CarF (-1) ls ss line k qs qt r) :
    Calls Tryd.prog 10 #[.agg #[v1, v2], .bool line, .int .i64 k] w fun e w' => (∃ s1 t1, e = .returned (.tuple #[.agg #[s1, t1], .bool r]) ∧ OwB w.heap.size w'.heap.size w' s1 t1 qs qt) ∧ Below w.heap.size w w' := by
  obtain ⟨a1, c1, a2, c2, rfl, rfl⟩ := h.form
  have HW := Lib.hid (fun v1 v2 w h => withCarries_any v1 v2 ls ss line k (-1) w h (by omega) qs qt r hk)
  have HB0 : Hid (Below w.heap.size w w) := Lib.hid (Below.refl _ _)
  have HRf0 := Lib.hid (h)
  clear h hk
  go_enter Tryd.func10, Tryd.ntmps10
  go_wp2_with fail
  have hb : Below w.heap.size w (w.alloc (.cells #[.slice a1 ls.length c1, .slice a2 ss.length c2] 26)) := (Below.refl _ _).alloc (Nat.le_refl _) _
  have hk : (w.alloc (.cells #[.slice a1 ls.length c1, .slice a2 ss.length c2] 26)).heap[w.heap.size]? = some (.cells #[.slice a1 ls.length c1, .slice a2 ss.length c2] 26 (0, 0)) := alloc_at rfl
  have hz : (w.alloc (.cells #[.slice a1 ls.length c1, .slice a2 ss.length c2] 26)).heap.size = w.heap.size + 1 := by simp
  generalize w.alloc (.cells #[.slice a1 ls.length c1, .slice a2 ss.length c2] 26) = w1 at hb hk hz ⊢
  have HB1 : Hid (Below w.heap.size w w1) := Lib.hid (HB0.out.trans (hb.mono HB0.out.size))
  have HZ1 : Hid (w.heap.size ≤ w1.heap.size) := Lib.hid hb.size
  have HRf1 := Lib.hid (HRf0.out.below HB1.out (Nat.le_refl _))
  have HKb1 := Lib.hid hk
  replace HZ1 : Hid (w.heap.size < w1.heap.size) := Lib.hid (by omega)
  have HE1 := Lib.hid hz
  clear hb hk hz
  have hb : Below w1.heap.size w1 (w1.alloc (.cells #[.slice none 0 0, .slice none 0 0] 26)) := (Below.refl _ _).alloc (Nat.le_refl _) _
  have hk : (w1.alloc (.cells #[.slice none 0 0, .slice none 0 0] 26)).heap[w.heap.size + 1]? = some (.cells #[.slice none 0 0, .slice none 0 0] 26 (0, 0)) := alloc_at (by have := HE1.out; omega)
  have hz : (w1.alloc (.cells #[.slice none 0 0, .slice none 0 0] 26)).heap.size = w1.heap.size + 1 := by simp
  generalize w1.alloc (.cells #[.slice none 0 0, .slice none 0 0] 26) = w2 at hb hk hz ⊢
  have HB2 : Hid (Below w.heap.size w w2) := Lib.hid (HB1.out.trans (hb.mono HB1.out.size))
  have HZ2 : Hid (w1.heap.size ≤ w2.heap.size) := Lib.hid hb.size
  have HRf2 := Lib.hid (HRf0.out.below HB2.out (Nat.le_refl _))
  have HKb2 := Lib.hid ((hb.block _ (lt_of_block HKb1.out)).trans HKb1.out)
  have HKz2 := Lib.hid hk
  replace HZ2 : Hid (w1.heap.size < w2.heap.size) := Lib.hid (by omega)
  have HE2 := Lib.hid hz
  clear hb hk hz
  have ltb := lt_of_block HKb2.out
  obtain ⟨cb0, cb1, fb0, fb1⟩ := cell2 HKb2.out
  have ltz := lt_of_block HKz2.out
  obtain ⟨cz0, cz1, fz0, fz1⟩ := cell2 HKz2.out
  have hlz : w.heap.size + 1 < w2.heap.size := ltz
  refine (HW.out _ _ _ HRf2.out).mono ?_
  rintro e w3 ⟨⟨s1, s2, rfl, ho⟩, hb⟩
  have HB3 : Hid (Below w.heap.size w w3) := Lib.hid (HB2.out.trans (hb.mono HB2.out.size))
  have HZ3 : Hid (w2.heap.size ≤ w3.heap.size) := Lib.hid hb.size
  have HRf3 := Lib.hid (HRf0.out.below HB3.out (Nat.le_refl _))
  have HKb3 := Lib.hid ((hb.block _ (lt_of_block HKb2.out)).trans HKb2.out)
  have HKz3 := Lib.hid ((hb.block _ (lt_of_block HKz2.out)).trans HKz2.out)
  clear hb
  obtain ⟨p1, k1, p2, k2, rfl, rfl⟩ := ho.form
  have HOv3 := Lib.hid (ho)
  clear ho
  clear cb0 cb1 fb0 fb1 ltb cz0 cz1 fz0 fz1 ltz
  have ltb := lt_of_block HKb3.out
  obtain ⟨cb0, cb1, fb0, fb1⟩ := cell2 HKb3.out
  have ltz := lt_of_block HKz3.out
  obtain ⟨cz0, cz1, fz0, fz1⟩ := cell2 HKz3.out
  go_wp2_with fail
  exact bodyPost_ret (v := .tuple #[.agg #[.slice p1 qs.length k1, .slice p2 qt.length k2], .bool r]) (by simp [results, Tryd.results10, go_sem, cz0, cz1]) rfl ⟨⟨_, _, rfl, ((HOv3.out.set (a := ⟨w.heap.size + 1, 0, none⟩) hlz _).set (a := ⟨w.heap.size + 1, 1, none⟩) hlz _).mono (by omega) (by simp [World.setCell])⟩, (HB3.out.setCell (p := ⟨w.heap.size + 1, 0, none⟩) (Nat.le_succ _) _).setCell (p := ⟨w.heap.size + 1, 1, none⟩) (Nat.le_succ _) _⟩
end Go.Proofs.YtbdddpchlmddbaaDoor
