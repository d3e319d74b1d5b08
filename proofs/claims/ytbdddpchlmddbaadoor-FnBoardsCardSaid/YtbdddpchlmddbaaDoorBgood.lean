/- The model's test of a board, its scalar functions. -/
import Derived.Test.YtbdddpchlmddbaaDoorBoards
import Derived.Test.YtbdddpchlmddbaaDoorKa
namespace Go.Proofs.YtbdddpchlmddbaaDoor
set_option linter.unusedVariables false
open Go.RowKit

def bRow (x y : Int) : Prop := (0 ≤ x ∧ x ≤ 30) ∧ (0 ≤ y ∧ y ≤ 30)
/-- A valid board. -/
def okB (ls ss : List Int) : Prop := (1 ≤ ls.length ∧ ls.length ≤ 6) ∧ ss.length = ls.length ∧ ∀ (k : Nat) (h1 : k < ls.length) (h2 : k < ss.length), bRow ls[k] ss[k]
theorem int_at {w : World} {a : Option Addr} {c : Nat} {ls : List Int} (h : RowsR 1 inC w (.slice a ls.length c) ls) : ∀ w' : World, Below w.heap.size w w' → ∀ k (hk : k < ls.length), ∃ b o, a = some ⟨b, o, none⟩ ∧ b < w.heap.size ∧ w'.cell? ⟨b, o + k, none⟩ = some (.int .i64 ls[k]) := by
  intro w' hb k hk
  obtain ⟨b, o, e, l, c⟩ := h.at w' hb k hk
  have := c 0 (by omega)
  rw [Nat.mul_one, Nat.add_zero] at this
  exact ⟨b, o, e, l, this⟩

set_option maxRecDepth 100000 in
set_option maxHeartbeats 1600000 in
theorem l5Good_scan (v1 v2 : Value) (ls ss : List Int) (w : World) (h : BrdR w v1 v2 ls ss) (hn : 1 ≤ ls.length ∧ ls.length ≤ 6) (hs : ss.length = ls.length) (p : Nat) (hp : p ≤ ls.length) (hpre : ∀ k (h1 : k < ls.length) (h2 : k < ss.length), k < p → bRow ls[k] ss[k]) (hx : ∀ (h1 : p < ls.length) (h2 : p < ss.length), ¬ bRow ls[p] ss[p]) (r : Bool) (hr1 : p < ls.length → r = false) (hr2 : p = ls.length → r = true) :
    Calls Tryd.prog 29 #[.agg #[v1, v2]] w fun e w' => e = .returned (.bool r) ∧ Below w.heap.size w w' := by
  obtain ⟨a1, c1, a2, c2, rfl, rfl⟩ := h.form
  have A1 := Lib.hid (int_at h.1)
  have A2 := Lib.hid (int_at h.2)
  have HP := Lib.hid hpre
  have HX := Lib.hid hx
  have HR1 := Lib.hid hr1
  have HR2 := Lib.hid hr2
  have HS := Lib.hid hs
  have hni : (1 : Int) ≤ (ls.length : Int) ∧ (ls.length : Int) ≤ 6 := by omega
  have hne : ((ss.length : Int) != (ls.length : Int)) = false := by simp [hs]
  have hns : (ss.length : Int) ≤ 6 := by omega
  have HB0 : Hid (Below w.heap.size w w) := Lib.hid (Below.refl _ _)
  clear h hpre hx hr1 hr2 hs
  go_enter Tryd.func29, Tryd.ntmps29
  go_wp2_with fail
  have hb : Below w.heap.size w (w.alloc (.cells #[.slice a1 ls.length c1, .slice a2 ss.length c2] 26)) := (Below.refl _ _).alloc (Nat.le_refl _) _
  have hk : (w.alloc (.cells #[.slice a1 ls.length c1, .slice a2 ss.length c2] 26)).heap[w.heap.size]? = some (.cells #[.slice a1 ls.length c1, .slice a2 ss.length c2] 26 (0, 0)) := alloc_at rfl
  have hz : (w.alloc (.cells #[.slice a1 ls.length c1, .slice a2 ss.length c2] 26)).heap.size = w.heap.size + 1 := by simp
  generalize w.alloc (.cells #[.slice a1 ls.length c1, .slice a2 ss.length c2] 26) = w1 at hb hk hz ⊢
  have HB1 : Hid (Below w.heap.size w w1) := Lib.hid (HB0.out.trans (hb.mono HB0.out.size))
  have HZ1 : Hid (w.heap.size ≤ w1.heap.size) := Lib.hid hb.size
  have HKb1 := Lib.hid hk
  replace HZ1 : Hid (w.heap.size < w1.heap.size) := Lib.hid (by omega)
  have HE1 := Lib.hid hz
  clear hb hk hz
  have ltb := lt_of_block HKb1.out
  obtain ⟨cb0, cb1, fb0, fb1⟩ := cell2 HKb1.out
  refine (l1In_yesq _ _ _ _ hni).mono ?_
  rintro e w' ⟨rfl, hw⟩
  subst w'
  go_wp2_with fail
  go_loopw [4] (fun i wr => ∃ k : Nat, k ≤ p ∧ i = .int .i64 k ∧ w1 = wr) (fun i _ => ls.length - (intOf i).toNat)
  case atStart => exact ⟨0, Nat.zero_le _, rfl, rfl⟩
  case round =>
    obtain ⟨k, hk, rfl, rfl⟩ := hrel
    by_cases hlt : k < ls.length
    · have z1 : (0 : Int) ≤ (k : Int) := by omega
      have z2 : (k : Int) < (ls.length : Int) := by omega
      have hk2 : k < ss.length := by rw [HS.out]; exact hlt
      have z3 : (k : Int) < (ss.length : Int) := by omega
      obtain ⟨b1, o1, rfl, _, p0⟩ := A1.out _ HB1.out k hlt
      obtain ⟨b2, o2, rfl, _, q0⟩ := A2.out _ HB1.out k hk2
      by_cases h1 : 0 ≤ ls[k] ∧ ls[k] ≤ 30
      · by_cases h2 : 0 ≤ ss[k] ∧ ss[k] ≤ 30
        · have hkp : k < p := by
            rcases Nat.lt_or_ge k p with h3 | h3
            · exact h3
            · have e : k = p := by omega
              subst e
              exact absurd ⟨h1, h2⟩ (HX.out hlt hk2)
          have H1 := Lib.hid h1
          have H2 := Lib.hid h2
          clear h1 h2
          go_wp2_with fail
          refine (l1In_yesq _ _ _ _ H1.out).mono ?_
          rintro e w' ⟨rfl, hw⟩
          subst w'
          go_wp2_with fail
          refine (l1In_yesq _ _ _ _ H2.out).mono ?_
          rintro e w' ⟨rfl, hw⟩
          subst w'
          go_wp2_with fail
          go_roundw
          case rel => exact ⟨k + 1, by omega, by go_num, by first | trivial | rfl⟩
          case measure => simp [intOf]; omega
        · have H1 := Lib.hid h1
          have H2 := Lib.hid h2
          have HN : Hid (r = false) := Lib.hid (HR1.out (by
            rcases Nat.lt_or_ge k p with h3 | h3
            · exact absurd (HP.out k hlt hk2 h3).2 h2
            · omega))
          clear h1 h2
          go_wp2_with fail
          refine (l1In_yesq _ _ _ _ H1.out).mono ?_
          rintro e w' ⟨rfl, hw⟩
          subst w'
          go_wp2_with fail
          refine (l1In_noq _ _ _ _ H2.out).mono ?_
          rintro e w' ⟨rfl, hw⟩
          subst w'
          go_wp2_with fail
          go_ret
          exact ⟨ret_bool HN.out.symm, HB1.out⟩
      · have H1 := Lib.hid h1
        have HN : Hid (r = false) := Lib.hid (HR1.out (by
          rcases Nat.lt_or_ge k p with h3 | h3
          · exact absurd (HP.out k hlt hk2 h3).1 h1
          · omega))
        clear h1
        go_wp2_with fail
        refine (l1In_noq _ _ _ _ H1.out).mono ?_
        rintro e w' ⟨rfl, hw⟩
        subst w'
        go_wp2_with fail
        go_ret
        exact ⟨ret_bool HN.out.symm, HB1.out⟩
    · have HN := Lib.hid (HR2.out (by omega))
      go_wp2_with fail
      go_ret
      exact ⟨ret_bool HN.out.symm, HB1.out⟩
set_option maxRecDepth 100000 in
set_option maxHeartbeats 800000 in
theorem l5Good_len (v1 v2 : Value) (ls ss : List Int) (w : World) (h : BrdR w v1 v2 ls ss) (hn : ¬ ((1 ≤ ls.length ∧ ls.length ≤ 6) ∧ ss.length = ls.length)) :
    Calls Tryd.prog 29 #[.agg #[v1, v2]] w fun e w' => e = .returned (.bool false) ∧ Below w.heap.size w w' := by
  have hm : ls.length ≤ 9223372036854775807 := by obtain ⟨_, _, _, ⟨m, _⟩, _⟩ := h.1; exact m
  have hm2 : ss.length ≤ 9223372036854775807 := by obtain ⟨_, _, _, ⟨m, _⟩, _⟩ := h.2; exact m
  obtain ⟨a1, c1, a2, c2, rfl, rfl⟩ := h.form
  have HB0 : Hid (Below w.heap.size w w) := Lib.hid (Below.refl _ _)
  clear h
  by_cases h1 : (1 : Int) ≤ (ls.length : Int) ∧ (ls.length : Int) ≤ 6
  · have hne : ((ss.length : Int) != (ls.length : Int)) = true := by
      rw [bne_iff_ne]; intro e; exact hn ⟨by omega, by omega⟩
    have H1 := Lib.hid h1
    clear h1 hn
    go_enter Tryd.func29, Tryd.ntmps29
    go_wp2_with fail
    have hb : Below w.heap.size w (w.alloc (.cells #[.slice a1 ls.length c1, .slice a2 ss.length c2] 26)) := (Below.refl _ _).alloc (Nat.le_refl _) _
    have hk : (w.alloc (.cells #[.slice a1 ls.length c1, .slice a2 ss.length c2] 26)).heap[w.heap.size]? = some (.cells #[.slice a1 ls.length c1, .slice a2 ss.length c2] 26 (0, 0)) := alloc_at rfl
    have hz : (w.alloc (.cells #[.slice a1 ls.length c1, .slice a2 ss.length c2] 26)).heap.size = w.heap.size + 1 := by simp
    generalize w.alloc (.cells #[.slice a1 ls.length c1, .slice a2 ss.length c2] 26) = w1 at hb hk hz ⊢
    have HB1 : Hid (Below w.heap.size w w1) := Lib.hid (HB0.out.trans (hb.mono HB0.out.size))
    have HZ1 : Hid (w.heap.size ≤ w1.heap.size) := Lib.hid hb.size
    have HKb1 := Lib.hid hk
    replace HZ1 : Hid (w.heap.size < w1.heap.size) := Lib.hid (by omega)
    have HE1 := Lib.hid hz
    clear hb hk hz
    have ltb := lt_of_block HKb1.out
    obtain ⟨cb0, cb1, fb0, fb1⟩ := cell2 HKb1.out
    refine (l1In_yesq _ _ _ _ H1.out).mono ?_
    rintro e w' ⟨rfl, hw⟩
    subst w'
    go_wp2_with fail
    go_ret
    exact ⟨rfl, HB1.out⟩
  · have H1 := Lib.hid h1
    clear h1 hn
    go_enter Tryd.func29, Tryd.ntmps29
    go_wp2_with fail
    have HBX : Hid (Below w.heap.size w (w.alloc (.cells #[.slice a1 ls.length c1, .slice a2 ss.length c2] 26))) := Lib.hid ((Below.refl _ _).alloc (Nat.le_refl _) _)
    refine (l1In_noq _ _ _ _ H1.out).mono ?_
    rintro e w' ⟨rfl, hw⟩
    subst w'
    go_wp2_with fail
    go_ret
    exact ⟨rfl, HBX.out⟩
theorem l5Good_any (v1 v2 : Value) (ls ss : List Int) (w : World) (h : BrdR w v1 v2 ls ss) (r : Bool) (hr : r = true ↔ okB ls ss) :
    Calls Tryd.prog 29 #[.agg #[v1, v2]] w fun e w' => e = .returned (.bool r) ∧ Below w.heap.size w w' := by
  by_cases hn : (1 ≤ ls.length ∧ ls.length ≤ 6) ∧ ss.length = ls.length
  · obtain ⟨p, hp, hpre, hx⟩ := first_bad ls.length (fun i hi => bRow ls[i] (ss[i]'(by rw [hn.2]; exact hi)))
    exact l5Good_scan v1 v2 ls ss w h hn.1 hn.2 p hp (fun k h1 h2 hk => hpre k h1 hk) (fun h1 h2 => hx h1) r (fun hlt => Bool.eq_false_iff.2 fun e => hx hlt ((hr.1 e).2.2 p hlt (by rw [hn.2]; exact hlt)))
      (fun he => hr.2 ⟨hn.1, hn.2, fun k h1 h2 => hpre k h1 (by omega)⟩)
  · obtain rfl : r = false := Bool.eq_false_iff.2 fun e => hn ⟨(hr.1 e).1, (hr.1 e).2.1⟩
    exact l5Good_len v1 v2 ls ss w h hn


/-- The counters of a board, its value. -/
def plB (ls ss : List Int) : Prop := ∀ (k : Nat) (h1 : k < ls.length) (h2 : k < ss.length), ls[k] ≤ 4 ∧ ss[k] ≤ 1
end Go.Proofs.YtbdddpchlmddbaaDoor
