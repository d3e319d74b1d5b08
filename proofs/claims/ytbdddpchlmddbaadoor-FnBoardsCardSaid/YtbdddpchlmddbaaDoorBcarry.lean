/- The model's carry and borrow at one place. -/
import Derived.Test.YtbdddpchlmddbaaDoorBmove
namespace Go.Proofs.YtbdddpchlmddbaaDoor
set_option linter.unusedVariables false
open Go.RowKit

def plcB (line : Bool) (k : Int) (ls : List Int) : Prop := 0 ≤ k ∧ k + (if line then 1 else 2) ≤ (ls.length : Int)
theorem OwB.nil' (lo hi : Nat) (w : World) : OwB lo hi w (.slice none 0 0) (.slice none 0 0) [] [] :=
  ⟨⟨own_nil' _ _ _ _, fun g hg => by cases hg⟩, ⟨own_nil' _ _ _ _, fun g hg => by cases hg⟩, fun g hg => by cases hg⟩
theorem okB.bd {ls ss : List Int} (h : okB ls ss) : bdB ls ∧ bdB ss :=
  ⟨fun k hk => by have := (h.2.2 k hk (by rw [h.2.1]; exact hk)).1; omega, fun k hk => by have := (h.2.2 k (by rw [← h.2.1]; exact hk) hk).2; omega⟩
set_option maxRecDepth 100000 in
set_option maxHeartbeats 1600000 in
theorem l5Place_any (v1 v2 : Value) (ls ss : List Int) (line : Bool) (k : Int) (w : World) (h : BrdR w v1 v2 ls ss) (r : Bool) (hr : r = true ↔ okB ls ss ∧ plcB line k ls) :
    Calls Tryd.prog 27 #[.agg #[v1, v2], .bool line, .int .i64 k] w fun e w' => e = .returned (.bool r) ∧ Below w.heap.size w w' := by
  have hm : ls.length ≤ 9223372036854775807 := by obtain ⟨_, _, _, ⟨m, _⟩, _⟩ := h.1; exact m
  obtain ⟨a1, c1, a2, c2, rfl, rfl⟩ := h.form
  have HR := Lib.hid hr
  have wa' : IntKind.i64.wrap ((ls.length : Int) - 1) = (ls.length : Int) - 1 := by rw [IntKind.wrap_i64]; omega
  have wb' : IntKind.i64.wrap ((ls.length : Int) - 1 - 1) = (ls.length : Int) - 1 - 1 := by rw [IntKind.wrap_i64]; omega
  cases line with
  | true =>
    have HB0 : Hid (Below w.heap.size w w) := Lib.hid (Below.refl _ _)
    have HRf0 := Lib.hid (h)
    clear h hr
    go_enter Tryd.func27, Tryd.ntmps27
    go_wp2_with fail
    have hb : Below w.heap.size w (w.alloc (.cells #[.slice a1 ls.length c1, .slice a2 ss.length c2] 26)) := (Below.refl _ _).alloc (Nat.le_refl _) _
    have hk : (w.alloc (.cells #[.slice a1 ls.length c1, .slice a2 ss.length c2] 26)).heap[w.heap.size]? = some (.cells #[.slice a1 ls.length c1, .slice a2 ss.length c2] 26 (0, 0)) := alloc_at rfl
    have hz : (w.alloc (.cells #[.slice a1 ls.length c1, .slice a2 ss.length c2] 26)).heap.size = w.heap.size + 1 := by simp
    generalize w.alloc (.cells #[.slice a1 ls.length c1, .slice a2 ss.length c2] 26) = w1 at hb hk hz ⊢
    have HB1 : Hid (Below w.heap.size w w1) := Lib.hid (HB0.out.trans (hb.mono HB0.out.size))
    have HZ1 : Hid (w.heap.size ≤ w1.heap.size) := Lib.hid hb.size
    have HRf1 := Lib.hid (HRf0.out.below HB1.out (Nat.le_refl _))
    have HKb1 := Lib.hid hk
    replace HZ1 : Hid (w.heap.size < w1.heap.size) := Lib.hid (by omega)
    have HE1 := Lib.hid hz
    clear hb hk hz
    have ltb := lt_of_block HKb1.out
    obtain ⟨cb0, cb1, fb0, fb1⟩ := cell2 HKb1.out
    go_wp2_with fail
    by_cases hg : okB ls ss
    · have HG := Lib.hid hg
      clear hg
      refine (l5Good_any _ _ ls ss _ HRf1.out true ⟨fun _ => HG.out, fun _ => rfl⟩).mono ?_
      rintro e w2 ⟨rfl, hb⟩
      have HB2 : Hid (Below w.heap.size w w2) := Lib.hid (HB1.out.trans (hb.mono HB1.out.size))
      have HZ2 : Hid (w1.heap.size ≤ w2.heap.size) := Lib.hid hb.size
      have HRf2 := Lib.hid (HRf0.out.below HB2.out (Nat.le_refl _))
      have HKb2 := Lib.hid ((hb.block _ (lt_of_block HKb1.out)).trans HKb1.out)
      clear hb
      by_cases hp : 0 ≤ k ∧ k ≤ (ls.length : Int) - 1
      · have HP := Lib.hid hp
        clear hp
        clear cb0 cb1 fb0 fb1 ltb
        have ltb := lt_of_block HKb2.out
        obtain ⟨cb0, cb1, fb0, fb1⟩ := cell2 HKb2.out
        go_wp2_with fail
        refine (l1In_yesq _ _ _ _ HP.out).mono ?_
        rintro e w' ⟨rfl, hw⟩
        subst w'
        go_wp2_with fail
        go_ret
        exact ⟨ret_bool (HR.out.2 ⟨HG.out, HP.out.1, by have := HP.out.2; simp; omega⟩).symm, HB2.out⟩
      · have HP := Lib.hid hp
        clear hp
        clear cb0 cb1 fb0 fb1 ltb
        have ltb := lt_of_block HKb2.out
        obtain ⟨cb0, cb1, fb0, fb1⟩ := cell2 HKb2.out
        go_wp2_with fail
        refine (l1In_noq _ _ _ _ HP.out).mono ?_
        rintro e w' ⟨rfl, hw⟩
        subst w'
        go_wp2_with fail
        go_ret
        exact ⟨ret_bool (Bool.eq_false_iff.2 fun e => HP.out ⟨(HR.out.1 e).2.1, by have := (HR.out.1 e).2.2; simp at this; omega⟩).symm, HB2.out⟩
    · have HG := Lib.hid hg
      clear hg
      refine (l5Good_any _ _ ls ss _ HRf1.out false ⟨fun e => by simp at e, fun e => absurd e HG.out⟩).mono ?_
      rintro e w2 ⟨rfl, hb⟩
      have HB2 : Hid (Below w.heap.size w w2) := Lib.hid (HB1.out.trans (hb.mono HB1.out.size))
      have HZ2 : Hid (w1.heap.size ≤ w2.heap.size) := Lib.hid hb.size
      have HRf2 := Lib.hid (HRf0.out.below HB2.out (Nat.le_refl _))
      have HKb2 := Lib.hid ((hb.block _ (lt_of_block HKb1.out)).trans HKb1.out)
      clear hb
      clear cb0 cb1 fb0 fb1 ltb
      have ltb := lt_of_block HKb2.out
      obtain ⟨cb0, cb1, fb0, fb1⟩ := cell2 HKb2.out
      go_wp2_with fail
      go_ret
      exact ⟨ret_bool (Bool.eq_false_iff.2 fun e => HG.out (HR.out.1 e).1).symm, HB2.out⟩
  | false =>
    have HB0 : Hid (Below w.heap.size w w) := Lib.hid (Below.refl _ _)
    have HRf0 := Lib.hid (h)
    clear h hr
    go_enter Tryd.func27, Tryd.ntmps27
    go_wp2_with fail
    have hb : Below w.heap.size w (w.alloc (.cells #[.slice a1 ls.length c1, .slice a2 ss.length c2] 26)) := (Below.refl _ _).alloc (Nat.le_refl _) _
    have hk : (w.alloc (.cells #[.slice a1 ls.length c1, .slice a2 ss.length c2] 26)).heap[w.heap.size]? = some (.cells #[.slice a1 ls.length c1, .slice a2 ss.length c2] 26 (0, 0)) := alloc_at rfl
    have hz : (w.alloc (.cells #[.slice a1 ls.length c1, .slice a2 ss.length c2] 26)).heap.size = w.heap.size + 1 := by simp
    generalize w.alloc (.cells #[.slice a1 ls.length c1, .slice a2 ss.length c2] 26) = w1 at hb hk hz ⊢
    have HB1 : Hid (Below w.heap.size w w1) := Lib.hid (HB0.out.trans (hb.mono HB0.out.size))
    have HZ1 : Hid (w.heap.size ≤ w1.heap.size) := Lib.hid hb.size
    have HRf1 := Lib.hid (HRf0.out.below HB1.out (Nat.le_refl _))
    have HKb1 := Lib.hid hk
    replace HZ1 : Hid (w.heap.size < w1.heap.size) := Lib.hid (by omega)
    have HE1 := Lib.hid hz
    clear hb hk hz
    have ltb := lt_of_block HKb1.out
    obtain ⟨cb0, cb1, fb0, fb1⟩ := cell2 HKb1.out
    go_wp2_with fail
    by_cases hg : okB ls ss
    · have HG := Lib.hid hg
      clear hg
      refine (l5Good_any _ _ ls ss _ HRf1.out true ⟨fun _ => HG.out, fun _ => rfl⟩).mono ?_
      rintro e w2 ⟨rfl, hb⟩
      have HB2 : Hid (Below w.heap.size w w2) := Lib.hid (HB1.out.trans (hb.mono HB1.out.size))
      have HZ2 : Hid (w1.heap.size ≤ w2.heap.size) := Lib.hid hb.size
      have HRf2 := Lib.hid (HRf0.out.below HB2.out (Nat.le_refl _))
      have HKb2 := Lib.hid ((hb.block _ (lt_of_block HKb1.out)).trans HKb1.out)
      clear hb
      by_cases hp : 0 ≤ k ∧ k ≤ (ls.length : Int) - 1 - 1
      · have HP := Lib.hid hp
        clear hp
        clear cb0 cb1 fb0 fb1 ltb
        have ltb := lt_of_block HKb2.out
        obtain ⟨cb0, cb1, fb0, fb1⟩ := cell2 HKb2.out
        go_wp2_with fail
        refine (l1In_yesq _ _ _ _ HP.out).mono ?_
        rintro e w' ⟨rfl, hw⟩
        subst w'
        go_wp2_with fail
        go_ret
        exact ⟨ret_bool (HR.out.2 ⟨HG.out, HP.out.1, by have := HP.out.2; simp; omega⟩).symm, HB2.out⟩
      · have HP := Lib.hid hp
        clear hp
        clear cb0 cb1 fb0 fb1 ltb
        have ltb := lt_of_block HKb2.out
        obtain ⟨cb0, cb1, fb0, fb1⟩ := cell2 HKb2.out
        go_wp2_with fail
        refine (l1In_noq _ _ _ _ HP.out).mono ?_
        rintro e w' ⟨rfl, hw⟩
        subst w'
        go_wp2_with fail
        go_ret
        exact ⟨ret_bool (Bool.eq_false_iff.2 fun e => HP.out ⟨(HR.out.1 e).2.1, by have := (HR.out.1 e).2.2; simp at this; omega⟩).symm, HB2.out⟩
    · have HG := Lib.hid hg
      clear hg
      refine (l5Good_any _ _ ls ss _ HRf1.out false ⟨fun e => by simp at e, fun e => absurd e HG.out⟩).mono ?_
      rintro e w2 ⟨rfl, hb⟩
      have HB2 : Hid (Below w.heap.size w w2) := Lib.hid (HB1.out.trans (hb.mono HB1.out.size))
      have HZ2 : Hid (w1.heap.size ≤ w2.heap.size) := Lib.hid hb.size
      have HRf2 := Lib.hid (HRf0.out.below HB2.out (Nat.le_refl _))
      have HKb2 := Lib.hid ((hb.block _ (lt_of_block HKb1.out)).trans HKb1.out)
      clear hb
      clear cb0 cb1 fb0 fb1 ltb
      have ltb := lt_of_block HKb2.out
      obtain ⟨cb0, cb1, fb0, fb1⟩ := cell2 HKb2.out
      go_wp2_with fail
      go_ret
      exact ⟨ret_bool (Bool.eq_false_iff.2 fun e => HG.out (HR.out.1 e).1).symm, HB2.out⟩

/-- A board after one carry or borrow. -/
def CarF (t : Int) (ls ss : List Int) (line : Bool) (k : Int) (qs qt : List Int) (r : Bool) : Prop :=
  ((okB ls ss ∧ plcB line k ls) ∧ okB (mvL line k.toNat t ls) (mvS line k.toNat t ss) ∧ qs = mvL line k.toNat t ls ∧ qt = mvS line k.toNat t ss ∧ r = true) ∨
  (¬ ((okB ls ss ∧ plcB line k ls) ∧ okB (mvL line k.toNat t ls) (mvS line k.toNat t ss)) ∧ qs = [] ∧ qt = [] ∧ r = false)
set_option maxRecDepth 100000 in
set_option maxHeartbeats 3200000 in
theorem specCarryAt_any (v1 v2 : Value) (ls ss : List Int) (line : Bool) (k : Int) (w : World) (h : BrdR w v1 v2 ls ss) (qs qt : List Int) (r : Bool) (hk : CarF (1) ls ss line k qs qt r) :
    Calls Tryd.prog 7 #[.agg #[v1, v2], .bool line, .int .i64 k] w fun e w' => (∃ s1 t1, e = .returned (.tuple #[.agg #[s1, t1], .bool r]) ∧ OwB w.heap.size w'.heap.size w' s1 t1 qs qt) ∧ Below w.heap.size w w' := by
  obtain ⟨a1, c1, a2, c2, rfl, rfl⟩ := h.form
  have HK := Lib.hid hk
  have HB0 : Hid (Below w.heap.size w w) := Lib.hid (Below.refl _ _)
  have HRf0 := Lib.hid (h)
  clear h hk
  go_enter Tryd.func7, Tryd.ntmps7
  go_wp2_with fail
  have hb : Below w.heap.size w (w.alloc (.cells #[.slice a1 ls.length c1, .slice a2 ss.length c2] 26)) := (Below.refl _ _).alloc (Nat.le_refl _) _
  have hk : (w.alloc (.cells #[.slice a1 ls.length c1, .slice a2 ss.length c2] 26)).heap[w.heap.size]? = some (.cells #[.slice a1 ls.length c1, .slice a2 ss.length c2] 26 (0, 0)) := alloc_at rfl
  have hz : (w.alloc (.cells #[.slice a1 ls.length c1, .slice a2 ss.length c2] 26)).heap.size = w.heap.size + 1 := by simp
  generalize w.alloc (.cells #[.slice a1 ls.length c1, .slice a2 ss.length c2] 26) = w1 at hb hk hz ⊢
  have HB1 : Hid (Below w.heap.size w w1) := Lib.hid (HB0.out.trans (hb.mono HB0.out.size))
  have HZ1 : Hid (w.heap.size ≤ w1.heap.size) := Lib.hid hb.size
  have HRf1 := Lib.hid (HRf0.out.below HB1.out (Nat.le_refl _))
  have HKb1 := Lib.hid hk
  replace HZ1 : Hid (w.heap.size < w1.heap.size) := Lib.hid (by omega)
  have HE1 := Lib.hid hz
  clear hb hk hz
  have hb : Below w1.heap.size w1 (w1.alloc (.cells #[.slice none 0 0, .slice none 0 0] 26)) := (Below.refl _ _).alloc (Nat.le_refl _) _
  have hk : (w1.alloc (.cells #[.slice none 0 0, .slice none 0 0] 26)).heap[w.heap.size + 1]? = some (.cells #[.slice none 0 0, .slice none 0 0] 26 (0, 0)) := alloc_at (by have := HE1.out; omega)
  have hz : (w1.alloc (.cells #[.slice none 0 0, .slice none 0 0] 26)).heap.size = w1.heap.size + 1 := by simp
  generalize w1.alloc (.cells #[.slice none 0 0, .slice none 0 0] 26) = w2 at hb hk hz ⊢
  have HB2 : Hid (Below w.heap.size w w2) := Lib.hid (HB1.out.trans (hb.mono HB1.out.size))
  have HZ2 : Hid (w1.heap.size ≤ w2.heap.size) := Lib.hid hb.size
  have HRf2 := Lib.hid (HRf0.out.below HB2.out (Nat.le_refl _))
  have HKb2 := Lib.hid ((hb.block _ (lt_of_block HKb1.out)).trans HKb1.out)
  have HKz2 := Lib.hid hk
  replace HZ2 : Hid (w1.heap.size < w2.heap.size) := Lib.hid (by omega)
  have HE2 := Lib.hid hz
  clear hb hk hz
  have ltb := lt_of_block HKb2.out
  obtain ⟨cb0, cb1, fb0, fb1⟩ := cell2 HKb2.out
  have ltz := lt_of_block HKz2.out
  obtain ⟨cz0, cz1, fz0, fz1⟩ := cell2 HKz2.out
  have hlz : w.heap.size + 1 < w2.heap.size := ltz
  go_wp2_with fail
  by_cases hp : okB ls ss ∧ plcB line k ls
  · obtain ⟨m, rfl⟩ : ∃ m : Nat, k = m := ⟨k.toNat, by have := hp.2.1; omega⟩
    have HP := Lib.hid hp
    obtain ⟨ml, hml⟩ : ∃ ml, mvL line m (1) ls = ml := ⟨_, rfl⟩
    obtain ⟨ms, hms⟩ : ∃ ms, mvS line m (1) ss = ms := ⟨_, rfl⟩
    have HK2 : Hid ((okB ml ms ∧ qs = ml ∧ qt = ms ∧ r = true) ∨ (¬ okB ml ms ∧ qs = [] ∧ qt = [] ∧ r = false)) := Lib.hid (by
      rcases HK.out with ⟨_, h2, h3⟩ | ⟨h1, h2⟩
      · rw [Int.toNat_natCast, hml, hms] at *; exact .inl ⟨h2, h3⟩
      · rw [Int.toNat_natCast, hml, hms] at h1; exact .inr ⟨fun h => h1 ⟨HP.out, h⟩, h2⟩)
    have hml6 : (ml.length : Int) ≤ 6 := by rw [← hml, mvL_len]; have := hp.1.1.2; omega
    have hms6 : (ms.length : Int) ≤ 6 := by rw [← hms, mvS_len]; have := hp.1.2.1; have := hp.1.1.2; omega
    have hmc := fun w' hq => l5Move_any (.slice a1 ls.length c1) (.slice a2 ss.length c2) ls ss w' hq hp.1.1.2 hp.1.2.1 line m (1) (by have := hp.2.2; cases line <;> simp at this ⊢ <;> omega) (by omega) hp.1.bd.1 hp.1.bd.2
    rw [hml, hms] at hmc
    have HMC := Lib.hid hmc
    clear hp hmc hml hms HK
    refine (l5Place_any _ _ ls ss line _ _ HRf2.out true ⟨fun _ => HP.out, fun _ => rfl⟩).mono ?_
    rintro e w3 ⟨rfl, hb⟩
    have HB3 : Hid (Below w.heap.size w w3) := Lib.hid (HB2.out.trans (hb.mono HB2.out.size))
    have HZ3 : Hid (w2.heap.size ≤ w3.heap.size) := Lib.hid hb.size
    have HRf3 := Lib.hid (HRf0.out.below HB3.out (Nat.le_refl _))
    have HKb3 := Lib.hid ((hb.block _ (lt_of_block HKb2.out)).trans HKb2.out)
    have HKz3 := Lib.hid ((hb.block _ (lt_of_block HKz2.out)).trans HKz2.out)
    clear hb
    clear cb0 cb1 fb0 fb1 ltb cz0 cz1 fz0 fz1 ltz
    have ltb := lt_of_block HKb3.out
    obtain ⟨cb0, cb1, fb0, fb1⟩ := cell2 HKb3.out
    have ltz := lt_of_block HKz3.out
    obtain ⟨cz0, cz1, fz0, fz1⟩ := cell2 HKz3.out
    go_wp2_with fail
    refine (HMC.out _ HRf3.out).mono ?_
    rintro e w4 ⟨⟨s1, s2, rfl, ho⟩, hb⟩
    have HB4 : Hid (Below w.heap.size w w4) := Lib.hid (HB3.out.trans (hb.mono HB3.out.size))
    have HZ4 : Hid (w3.heap.size ≤ w4.heap.size) := Lib.hid hb.size
    have HRf4 := Lib.hid (HRf0.out.below HB4.out (Nat.le_refl _))
    have HKb4 := Lib.hid ((hb.block _ (lt_of_block HKb3.out)).trans HKb3.out)
    have HKz4 := Lib.hid ((hb.block _ (lt_of_block HKz3.out)).trans HKz3.out)
    clear hb
    obtain ⟨p1, k1, p2, k2, rfl, rfl⟩ := ho.form
    have HOv4 := Lib.hid (ho)
    clear ho
    have hlz3 : w.heap.size + 1 < w3.heap.size := by have := HZ1.out; have := HZ2.out; have := HZ3.out; have := HZ4.out;  omega
    clear cb0 cb1 fb0 fb1 ltb cz0 cz1 fz0 fz1 ltz
    have ltb := lt_of_block HKb4.out
    obtain ⟨cb0, cb1, fb0, fb1⟩ := cell2 HKb4.out
    have ltz := lt_of_block HKz4.out
    obtain ⟨cz0, cz1, fz0, fz1⟩ := cell2 HKz4.out
    go_wp2_with fail
    have hb : Below w4.heap.size w4 (w4.alloc (.cells #[.slice p1 ml.length k1, .slice p2 ms.length k2] 26)) := (Below.refl _ _).alloc (Nat.le_refl _) _
    have hk : (w4.alloc (.cells #[.slice p1 ml.length k1, .slice p2 ms.length k2] 26)).heap[w4.heap.size]? = some (.cells #[.slice p1 ml.length k1, .slice p2 ms.length k2] 26 (0, 0)) := alloc_at rfl
    have hz : (w4.alloc (.cells #[.slice p1 ml.length k1, .slice p2 ms.length k2] 26)).heap.size = w4.heap.size + 1 := by simp
    generalize w4.alloc (.cells #[.slice p1 ml.length k1, .slice p2 ms.length k2] 26) = w5 at hb hk hz ⊢
    have HB5 : Hid (Below w.heap.size w w5) := Lib.hid (HB4.out.trans (hb.mono HB4.out.size))
    have HZ5 : Hid (w4.heap.size ≤ w5.heap.size) := Lib.hid hb.size
    have HRf5 := Lib.hid (HRf0.out.below HB5.out (Nat.le_refl _))
    have HKb5 := Lib.hid ((hb.block _ (lt_of_block HKb4.out)).trans HKb4.out)
    have HKz5 := Lib.hid ((hb.block _ (lt_of_block HKz4.out)).trans HKz4.out)
    have HOv5 := Lib.hid (HOv4.out.next hb)
    have HKo5 := Lib.hid hk
    replace HZ5 : Hid (w4.heap.size < w5.heap.size) := Lib.hid (by omega)
    have HE5 := Lib.hid hz
    clear hb hk hz
    clear cb0 cb1 fb0 fb1 ltb cz0 cz1 fz0 fz1 ltz
    have ltb := lt_of_block HKb5.out
    obtain ⟨cb0, cb1, fb0, fb1⟩ := cell2 HKb5.out
    have ltz := lt_of_block HKz5.out
    obtain ⟨cz0, cz1, fz0, fz1⟩ := cell2 HKz5.out
    have lto := lt_of_block HKo5.out
    obtain ⟨co0, co1, fo0, fo1⟩ := cell2 HKo5.out
    go_wp2_with fail
    rcases HK2.out with ⟨hok, hq1, hq2, rfl⟩ | ⟨hok, hq1, hq2, rfl⟩
    · subst hq1 hq2
      have HOK := Lib.hid hok
      clear hok
      refine (l5Good_any _ _ qs qt _ HOv5.out.reads true ⟨fun _ => HOK.out, fun _ => rfl⟩).mono ?_
      rintro e w6 ⟨rfl, hb⟩
      have HB6 : Hid (Below w.heap.size w w6) := Lib.hid (HB5.out.trans (hb.mono HB5.out.size))
      have HZ6 : Hid (w5.heap.size ≤ w6.heap.size) := Lib.hid hb.size
      have HRf6 := Lib.hid (HRf0.out.below HB6.out (Nat.le_refl _))
      have HKb6 := Lib.hid ((hb.block _ (lt_of_block HKb5.out)).trans HKb5.out)
      have HKz6 := Lib.hid ((hb.block _ (lt_of_block HKz5.out)).trans HKz5.out)
      have HOv6 := Lib.hid (HOv5.out.next hb)
      have HKo6 := Lib.hid ((hb.block _ (lt_of_block HKo5.out)).trans HKo5.out)
      clear hb
      clear cb0 cb1 fb0 fb1 ltb cz0 cz1 fz0 fz1 ltz co0 co1 fo0 fo1 lto
      have ltb := lt_of_block HKb6.out
      obtain ⟨cb0, cb1, fb0, fb1⟩ := cell2 HKb6.out
      have ltz := lt_of_block HKz6.out
      obtain ⟨cz0, cz1, fz0, fz1⟩ := cell2 HKz6.out
      have lto := lt_of_block HKo6.out
      obtain ⟨co0, co1, fo0, fo1⟩ := cell2 HKo6.out
      go_wp2_with fail
      exact bodyPost_ret (v := .tuple #[.agg #[.slice p1 qs.length k1, .slice p2 qt.length k2], .bool true]) (by simp [results, Tryd.results7, go_sem, cz0, cz1]) rfl ⟨⟨_, _, rfl, ((HOv6.out.set (a := ⟨w.heap.size + 1, 0, none⟩) hlz3 _).set (a := ⟨w.heap.size + 1, 1, none⟩) hlz3 _).mono (by omega) (by simp; have := HZ1.out; have := HZ2.out; have := HZ3.out; have := HZ4.out; have := HZ5.out; have := HZ6.out;  omega)⟩, (HB6.out.setCell (p := ⟨w.heap.size + 1, 0, none⟩) (Nat.le_succ _) _).setCell (p := ⟨w.heap.size + 1, 1, none⟩) (Nat.le_succ _) _⟩
    · subst hq1 hq2
      have HOK := Lib.hid hok
      clear hok
      refine (l5Good_any _ _ ml ms _ HOv5.out.reads false ⟨fun e => by simp at e, fun e => absurd e HOK.out⟩).mono ?_
      rintro e w6 ⟨rfl, hb⟩
      have HB6 : Hid (Below w.heap.size w w6) := Lib.hid (HB5.out.trans (hb.mono HB5.out.size))
      have HZ6 : Hid (w5.heap.size ≤ w6.heap.size) := Lib.hid hb.size
      have HRf6 := Lib.hid (HRf0.out.below HB6.out (Nat.le_refl _))
      have HKb6 := Lib.hid ((hb.block _ (lt_of_block HKb5.out)).trans HKb5.out)
      have HKz6 := Lib.hid ((hb.block _ (lt_of_block HKz5.out)).trans HKz5.out)
      have HOv6 := Lib.hid (HOv5.out.next hb)
      have HKo6 := Lib.hid ((hb.block _ (lt_of_block HKo5.out)).trans HKo5.out)
      clear hb
      clear cb0 cb1 fb0 fb1 ltb cz0 cz1 fz0 fz1 ltz co0 co1 fo0 fo1 lto
      have ltb := lt_of_block HKb6.out
      obtain ⟨cb0, cb1, fb0, fb1⟩ := cell2 HKb6.out
      have ltz := lt_of_block HKz6.out
      obtain ⟨cz0, cz1, fz0, fz1⟩ := cell2 HKz6.out
      have lto := lt_of_block HKo6.out
      obtain ⟨co0, co1, fo0, fo1⟩ := cell2 HKo6.out
      go_wp2_with fail
      exact bodyPost_ret (v := .tuple #[.agg #[(.slice none 0 0), (.slice none 0 0)], .bool false]) (by simp [results, Tryd.results7, go_sem, cz0, cz1]) rfl ⟨⟨_, _, rfl, OwB.nil' _ _ _⟩, (HB6.out.setCell (p := ⟨w.heap.size + 1, 0, none⟩) (Nat.le_succ _) _).setCell (p := ⟨w.heap.size + 1, 1, none⟩) (Nat.le_succ _) _⟩
  · have HP := Lib.hid hp
    have HK2 : Hid (qs = [] ∧ qt = [] ∧ r = false) := Lib.hid (by
      rcases HK.out with ⟨h1, _⟩ | ⟨_, h2⟩
      · exact absurd h1 hp
      · exact h2)
    obtain ⟨rfl, rfl, rfl⟩ := HK2.out
    clear hp
    refine (l5Place_any _ _ ls ss line _ _ HRf2.out false ⟨fun e => by simp at e, fun e => absurd e HP.out⟩).mono ?_
    rintro e w3 ⟨rfl, hb⟩
    have HB3 : Hid (Below w.heap.size w w3) := Lib.hid (HB2.out.trans (hb.mono HB2.out.size))
    have HZ3 : Hid (w2.heap.size ≤ w3.heap.size) := Lib.hid hb.size
    have HRf3 := Lib.hid (HRf0.out.below HB3.out (Nat.le_refl _))
    have HKb3 := Lib.hid ((hb.block _ (lt_of_block HKb2.out)).trans HKb2.out)
    have HKz3 := Lib.hid ((hb.block _ (lt_of_block HKz2.out)).trans HKz2.out)
    clear hb
    clear cb0 cb1 fb0 fb1 ltb cz0 cz1 fz0 fz1 ltz
    have ltb := lt_of_block HKb3.out
    obtain ⟨cb0, cb1, fb0, fb1⟩ := cell2 HKb3.out
    have ltz := lt_of_block HKz3.out
    obtain ⟨cz0, cz1, fz0, fz1⟩ := cell2 HKz3.out
    go_wp2_with fail
    exact bodyPost_ret (v := .tuple #[.agg #[(.slice none 0 0), (.slice none 0 0)], .bool false]) (by simp [results, Tryd.results7, go_sem, cz0, cz1]) rfl ⟨⟨_, _, rfl, OwB.nil' _ _ _⟩, (HB3.out.setCell (p := ⟨w.heap.size + 1, 0, none⟩) (Nat.le_succ _) _).setCell (p := ⟨w.heap.size + 1, 1, none⟩) (Nat.le_succ _) _⟩
set_option maxRecDepth 100000 in
set_option maxHeartbeats 3200000 in
theorem specBorrowAt_any (v1 v2 : Value) (ls ss : List Int) (line : Bool) (k : Int) (w : World) (h : BrdR w v1 v2 ls ss) (qs qt : List Int) (r : Bool) (hk : CarF (-1) ls ss line k qs qt r) :
    Calls Tryd.prog 12 #[.agg #[v1, v2], .bool line, .int .i64 k] w fun e w' => (∃ s1 t1, e = .returned (.tuple #[.agg #[s1, t1], .bool r]) ∧ OwB w.heap.size w'.heap.size w' s1 t1 qs qt) ∧ Below w.heap.size w w' := by
  obtain ⟨a1, c1, a2, c2, rfl, rfl⟩ := h.form
  have HK := Lib.hid hk
  have HB0 : Hid (Below w.heap.size w w) := Lib.hid (Below.refl _ _)
  have HRf0 := Lib.hid (h)
  clear h hk
  go_enter Tryd.func12, Tryd.ntmps12
  go_wp2_with fail
  have hb : Below w.heap.size w (w.alloc (.cells #[.slice a1 ls.length c1, .slice a2 ss.length c2] 26)) := (Below.refl _ _).alloc (Nat.le_refl _) _
  have hk : (w.alloc (.cells #[.slice a1 ls.length c1, .slice a2 ss.length c2] 26)).heap[w.heap.size]? = some (.cells #[.slice a1 ls.length c1, .slice a2 ss.length c2] 26 (0, 0)) := alloc_at rfl
  have hz : (w.alloc (.cells #[.slice a1 ls.length c1, .slice a2 ss.length c2] 26)).heap.size = w.heap.size + 1 := by simp
  generalize w.alloc (.cells #[.slice a1 ls.length c1, .slice a2 ss.length c2] 26) = w1 at hb hk hz ⊢
  have HB1 : Hid (Below w.heap.size w w1) := Lib.hid (HB0.out.trans (hb.mono HB0.out.size))
  have HZ1 : Hid (w.heap.size ≤ w1.heap.size) := Lib.hid hb.size
  have HRf1 := Lib.hid (HRf0.out.below HB1.out (Nat.le_refl _))
  have HKb1 := Lib.hid hk
  replace HZ1 : Hid (w.heap.size < w1.heap.size) := Lib.hid (by omega)
  have HE1 := Lib.hid hz
  clear hb hk hz
  have hb : Below w1.heap.size w1 (w1.alloc (.cells #[.slice none 0 0, .slice none 0 0] 26)) := (Below.refl _ _).alloc (Nat.le_refl _) _
  have hk : (w1.alloc (.cells #[.slice none 0 0, .slice none 0 0] 26)).heap[w.heap.size + 1]? = some (.cells #[.slice none 0 0, .slice none 0 0] 26 (0, 0)) := alloc_at (by have := HE1.out; omega)
  have hz : (w1.alloc (.cells #[.slice none 0 0, .slice none 0 0] 26)).heap.size = w1.heap.size + 1 := by simp
  generalize w1.alloc (.cells #[.slice none 0 0, .slice none 0 0] 26) = w2 at hb hk hz ⊢
  have HB2 : Hid (Below w.heap.size w w2) := Lib.hid (HB1.out.trans (hb.mono HB1.out.size))
  have HZ2 : Hid (w1.heap.size ≤ w2.heap.size) := Lib.hid hb.size
  have HRf2 := Lib.hid (HRf0.out.below HB2.out (Nat.le_refl _))
  have HKb2 := Lib.hid ((hb.block _ (lt_of_block HKb1.out)).trans HKb1.out)
  have HKz2 := Lib.hid hk
  replace HZ2 : Hid (w1.heap.size < w2.heap.size) := Lib.hid (by omega)
  have HE2 := Lib.hid hz
  clear hb hk hz
  have ltb := lt_of_block HKb2.out
  obtain ⟨cb0, cb1, fb0, fb1⟩ := cell2 HKb2.out
  have ltz := lt_of_block HKz2.out
  obtain ⟨cz0, cz1, fz0, fz1⟩ := cell2 HKz2.out
  have hlz : w.heap.size + 1 < w2.heap.size := ltz
  go_wp2_with fail
  by_cases hp : okB ls ss ∧ plcB line k ls
  · obtain ⟨m, rfl⟩ : ∃ m : Nat, k = m := ⟨k.toNat, by have := hp.2.1; omega⟩
    have HP := Lib.hid hp
    obtain ⟨ml, hml⟩ : ∃ ml, mvL line m (-1) ls = ml := ⟨_, rfl⟩
    obtain ⟨ms, hms⟩ : ∃ ms, mvS line m (-1) ss = ms := ⟨_, rfl⟩
    have HK2 : Hid ((okB ml ms ∧ qs = ml ∧ qt = ms ∧ r = true) ∨ (¬ okB ml ms ∧ qs = [] ∧ qt = [] ∧ r = false)) := Lib.hid (by
      rcases HK.out with ⟨_, h2, h3⟩ | ⟨h1, h2⟩
      · rw [Int.toNat_natCast, hml, hms] at *; exact .inl ⟨h2, h3⟩
      · rw [Int.toNat_natCast, hml, hms] at h1; exact .inr ⟨fun h => h1 ⟨HP.out, h⟩, h2⟩)
    have hml6 : (ml.length : Int) ≤ 6 := by rw [← hml, mvL_len]; have := hp.1.1.2; omega
    have hms6 : (ms.length : Int) ≤ 6 := by rw [← hms, mvS_len]; have := hp.1.2.1; have := hp.1.1.2; omega
    have hmc := fun w' hq => l5Move_any (.slice a1 ls.length c1) (.slice a2 ss.length c2) ls ss w' hq hp.1.1.2 hp.1.2.1 line m (-1) (by have := hp.2.2; cases line <;> simp at this ⊢ <;> omega) (by omega) hp.1.bd.1 hp.1.bd.2
    rw [hml, hms] at hmc
    have HMC := Lib.hid hmc
    clear hp hmc hml hms HK
    refine (l5Place_any _ _ ls ss line _ _ HRf2.out true ⟨fun _ => HP.out, fun _ => rfl⟩).mono ?_
    rintro e w3 ⟨rfl, hb⟩
    have HB3 : Hid (Below w.heap.size w w3) := Lib.hid (HB2.out.trans (hb.mono HB2.out.size))
    have HZ3 : Hid (w2.heap.size ≤ w3.heap.size) := Lib.hid hb.size
    have HRf3 := Lib.hid (HRf0.out.below HB3.out (Nat.le_refl _))
    have HKb3 := Lib.hid ((hb.block _ (lt_of_block HKb2.out)).trans HKb2.out)
    have HKz3 := Lib.hid ((hb.block _ (lt_of_block HKz2.out)).trans HKz2.out)
    clear hb
    clear cb0 cb1 fb0 fb1 ltb cz0 cz1 fz0 fz1 ltz
    have ltb := lt_of_block HKb3.out
    obtain ⟨cb0, cb1, fb0, fb1⟩ := cell2 HKb3.out
    have ltz := lt_of_block HKz3.out
    obtain ⟨cz0, cz1, fz0, fz1⟩ := cell2 HKz3.out
    go_wp2_with fail
    refine (HMC.out _ HRf3.out).mono ?_
    rintro e w4 ⟨⟨s1, s2, rfl, ho⟩, hb⟩
    have HB4 : Hid (Below w.heap.size w w4) := Lib.hid (HB3.out.trans (hb.mono HB3.out.size))
    have HZ4 : Hid (w3.heap.size ≤ w4.heap.size) := Lib.hid hb.size
    have HRf4 := Lib.hid (HRf0.out.below HB4.out (Nat.le_refl _))
    have HKb4 := Lib.hid ((hb.block _ (lt_of_block HKb3.out)).trans HKb3.out)
    have HKz4 := Lib.hid ((hb.block _ (lt_of_block HKz3.out)).trans HKz3.out)
    clear hb
    obtain ⟨p1, k1, p2, k2, rfl, rfl⟩ := ho.form
    have HOv4 := Lib.hid (ho)
    clear ho
    have hlz3 : w.heap.size + 1 < w3.heap.size := by have := HZ1.out; have := HZ2.out; have := HZ3.out; have := HZ4.out;  omega
    clear cb0 cb1 fb0 fb1 ltb cz0 cz1 fz0 fz1 ltz
    have ltb := lt_of_block HKb4.out
    obtain ⟨cb0, cb1, fb0, fb1⟩ := cell2 HKb4.out
    have ltz := lt_of_block HKz4.out
    obtain ⟨cz0, cz1, fz0, fz1⟩ := cell2 HKz4.out
    go_wp2_with fail
    have hb : Below w4.heap.size w4 (w4.alloc (.cells #[.slice p1 ml.length k1, .slice p2 ms.length k2] 26)) := (Below.refl _ _).alloc (Nat.le_refl _) _
    have hk : (w4.alloc (.cells #[.slice p1 ml.length k1, .slice p2 ms.length k2] 26)).heap[w4.heap.size]? = some (.cells #[.slice p1 ml.length k1, .slice p2 ms.length k2] 26 (0, 0)) := alloc_at rfl
    have hz : (w4.alloc (.cells #[.slice p1 ml.length k1, .slice p2 ms.length k2] 26)).heap.size = w4.heap.size + 1 := by simp
    generalize w4.alloc (.cells #[.slice p1 ml.length k1, .slice p2 ms.length k2] 26) = w5 at hb hk hz ⊢
    have HB5 : Hid (Below w.heap.size w w5) := Lib.hid (HB4.out.trans (hb.mono HB4.out.size))
    have HZ5 : Hid (w4.heap.size ≤ w5.heap.size) := Lib.hid hb.size
    have HRf5 := Lib.hid (HRf0.out.below HB5.out (Nat.le_refl _))
    have HKb5 := Lib.hid ((hb.block _ (lt_of_block HKb4.out)).trans HKb4.out)
    have HKz5 := Lib.hid ((hb.block _ (lt_of_block HKz4.out)).trans HKz4.out)
    have HOv5 := Lib.hid (HOv4.out.next hb)
    have HKo5 := Lib.hid hk
    replace HZ5 : Hid (w4.heap.size < w5.heap.size) := Lib.hid (by omega)
    have HE5 := Lib.hid hz
    clear hb hk hz
    clear cb0 cb1 fb0 fb1 ltb cz0 cz1 fz0 fz1 ltz
    have ltb := lt_of_block HKb5.out
    obtain ⟨cb0, cb1, fb0, fb1⟩ := cell2 HKb5.out
    have ltz := lt_of_block HKz5.out
    obtain ⟨cz0, cz1, fz0, fz1⟩ := cell2 HKz5.out
    have lto := lt_of_block HKo5.out
    obtain ⟨co0, co1, fo0, fo1⟩ := cell2 HKo5.out
    go_wp2_with fail
    rcases HK2.out with ⟨hok, hq1, hq2, rfl⟩ | ⟨hok, hq1, hq2, rfl⟩
    · subst hq1 hq2
      have HOK := Lib.hid hok
      clear hok
      refine (l5Good_any _ _ qs qt _ HOv5.out.reads true ⟨fun _ => HOK.out, fun _ => rfl⟩).mono ?_
      rintro e w6 ⟨rfl, hb⟩
      have HB6 : Hid (Below w.heap.size w w6) := Lib.hid (HB5.out.trans (hb.mono HB5.out.size))
      have HZ6 : Hid (w5.heap.size ≤ w6.heap.size) := Lib.hid hb.size
      have HRf6 := Lib.hid (HRf0.out.below HB6.out (Nat.le_refl _))
      have HKb6 := Lib.hid ((hb.block _ (lt_of_block HKb5.out)).trans HKb5.out)
      have HKz6 := Lib.hid ((hb.block _ (lt_of_block HKz5.out)).trans HKz5.out)
      have HOv6 := Lib.hid (HOv5.out.next hb)
      have HKo6 := Lib.hid ((hb.block _ (lt_of_block HKo5.out)).trans HKo5.out)
      clear hb
      clear cb0 cb1 fb0 fb1 ltb cz0 cz1 fz0 fz1 ltz co0 co1 fo0 fo1 lto
      have ltb := lt_of_block HKb6.out
      obtain ⟨cb0, cb1, fb0, fb1⟩ := cell2 HKb6.out
      have ltz := lt_of_block HKz6.out
      obtain ⟨cz0, cz1, fz0, fz1⟩ := cell2 HKz6.out
      have lto := lt_of_block HKo6.out
      obtain ⟨co0, co1, fo0, fo1⟩ := cell2 HKo6.out
      go_wp2_with fail
      exact bodyPost_ret (v := .tuple #[.agg #[.slice p1 qs.length k1, .slice p2 qt.length k2], .bool true]) (by simp [results, Tryd.results12, go_sem, cz0, cz1]) rfl ⟨⟨_, _, rfl, ((HOv6.out.set (a := ⟨w.heap.size + 1, 0, none⟩) hlz3 _).set (a := ⟨w.heap.size + 1, 1, none⟩) hlz3 _).mono (by omega) (by simp; have := HZ1.out; have := HZ2.out; have := HZ3.out; have := HZ4.out; have := HZ5.out; have := HZ6.out;  omega)⟩, (HB6.out.setCell (p := ⟨w.heap.size + 1, 0, none⟩) (Nat.le_succ _) _).setCell (p := ⟨w.heap.size + 1, 1, none⟩) (Nat.le_succ _) _⟩
    · subst hq1 hq2
      have HOK := Lib.hid hok
      clear hok
      refine (l5Good_any _ _ ml ms _ HOv5.out.reads false ⟨fun e => by simp at e, fun e => absurd e HOK.out⟩).mono ?_
      rintro e w6 ⟨rfl, hb⟩
      have HB6 : Hid (Below w.heap.size w w6) := Lib.hid (HB5.out.trans (hb.mono HB5.out.size))
      have HZ6 : Hid (w5.heap.size ≤ w6.heap.size) := Lib.hid hb.size
      have HRf6 := Lib.hid (HRf0.out.below HB6.out (Nat.le_refl _))
      have HKb6 := Lib.hid ((hb.block _ (lt_of_block HKb5.out)).trans HKb5.out)
      have HKz6 := Lib.hid ((hb.block _ (lt_of_block HKz5.out)).trans HKz5.out)
      have HOv6 := Lib.hid (HOv5.out.next hb)
      have HKo6 := Lib.hid ((hb.block _ (lt_of_block HKo5.out)).trans HKo5.out)
      clear hb
      clear cb0 cb1 fb0 fb1 ltb cz0 cz1 fz0 fz1 ltz co0 co1 fo0 fo1 lto
      have ltb := lt_of_block HKb6.out
      obtain ⟨cb0, cb1, fb0, fb1⟩ := cell2 HKb6.out
      have ltz := lt_of_block HKz6.out
      obtain ⟨cz0, cz1, fz0, fz1⟩ := cell2 HKz6.out
      have lto := lt_of_block HKo6.out
      obtain ⟨co0, co1, fo0, fo1⟩ := cell2 HKo6.out
      go_wp2_with fail
      exact bodyPost_ret (v := .tuple #[.agg #[(.slice none 0 0), (.slice none 0 0)], .bool false]) (by simp [results, Tryd.results12, go_sem, cz0, cz1]) rfl ⟨⟨_, _, rfl, OwB.nil' _ _ _⟩, (HB6.out.setCell (p := ⟨w.heap.size + 1, 0, none⟩) (Nat.le_succ _) _).setCell (p := ⟨w.heap.size + 1, 1, none⟩) (Nat.le_succ _) _⟩
  · have HP := Lib.hid hp
    have HK2 : Hid (qs = [] ∧ qt = [] ∧ r = false) := Lib.hid (by
      rcases HK.out with ⟨h1, _⟩ | ⟨_, h2⟩
      · exact absurd h1 hp
      · exact h2)
    obtain ⟨rfl, rfl, rfl⟩ := HK2.out
    clear hp
    refine (l5Place_any _ _ ls ss line _ _ HRf2.out false ⟨fun e => by simp at e, fun e => absurd e HP.out⟩).mono ?_
    rintro e w3 ⟨rfl, hb⟩
    have HB3 : Hid (Below w.heap.size w w3) := Lib.hid (HB2.out.trans (hb.mono HB2.out.size))
    have HZ3 : Hid (w2.heap.size ≤ w3.heap.size) := Lib.hid hb.size
    have HRf3 := Lib.hid (HRf0.out.below HB3.out (Nat.le_refl _))
    have HKb3 := Lib.hid ((hb.block _ (lt_of_block HKb2.out)).trans HKb2.out)
    have HKz3 := Lib.hid ((hb.block _ (lt_of_block HKz2.out)).trans HKz2.out)
    clear hb
    clear cb0 cb1 fb0 fb1 ltb cz0 cz1 fz0 fz1 ltz
    have ltb := lt_of_block HKb3.out
    obtain ⟨cb0, cb1, fb0, fb1⟩ := cell2 HKb3.out
    have ltz := lt_of_block HKz3.out
    obtain ⟨cz0, cz1, fz0, fz1⟩ := cell2 HKz3.out
    go_wp2_with fail
    exact bodyPost_ret (v := .tuple #[.agg #[(.slice none 0 0), (.slice none 0 0)], .bool false]) (by simp [results, Tryd.results12, go_sem, cz0, cz1]) rfl ⟨⟨_, _, rfl, OwB.nil' _ _ _⟩, (HB3.out.setCell (p := ⟨w.heap.size + 1, 0, none⟩) (Nat.le_succ _) _).setCell (p := ⟨w.heap.size + 1, 1, none⟩) (Nat.le_succ _) _⟩
end Go.Proofs.YtbdddpchlmddbaaDoor
