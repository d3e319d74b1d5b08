/- A text is spoilt. -/
import Derived.Test.YtmkocinknhaniaaKc
import Derived.Test.YtmkocinknhaniaaKa
namespace Go.Proofs.Ytmkocinknhaniaa
set_option linter.unusedVariables false
open Go.RowKit
set_option linter.unusedSimpArgs false

set_option maxRecDepth 100000 in
set_option maxHeartbeats 3200000 in
theorem spoilt_any (cb : Nat) (cd : Value) (L : List UInt8) (n : Nat) (t s : ByteArray) (w : World) (hn : n < 4611686018427380000) (ht : t.size ≤ 1000) (hs : 1 ≤ s.size ∧ s.size ≤ 100) (hc : CurAt w cb cd n) (hr : CodeR w cb cd L) :
    Calls Try.prog 32 #[.pointer (some ⟨cb, 0, none⟩), .string t, .string s] w fun e w' => (∃ u : ByteArray, e = .returned (.string u) ∧ u.size ≤ 1001) ∧ CurAt w' cb cd (n + 6) ∧ w.grownBy w' (some cb) := by
  have HR := Lib.hid hr
  have HC := Lib.hid hc
  clear hc hr
  go_enter Try.func32, Try.ntmps32
  cases he : t.toList.isEmpty with
  | true =>
    go_wp2_with fail
    go_ret
    exact ⟨⟨_, rfl, by simp [ByteArray.size_extract]; omega⟩, HC.out.more (by omega), World.grownBy.refl w (some cb)⟩
  | false =>
    have hsz : 0 < t.size := by
      rcases Nat.eq_zero_or_pos t.size with h | h
      · have e : t = ⟨#[]⟩ := by
          obtain ⟨d⟩ := t
          have : d = #[] := Array.eq_empty_of_size_eq_zero h
          rw [this]
        rw [e] at he
        have hem : (⟨#[]⟩ : ByteArray).toList.isEmpty = true := by unfold ByteArray.toList; rw [ByteArray.toList.loop, if_neg (by decide)]; rfl
        rw [hem] at he
        cases he
      · exact h
    go_wp2_with fail
    refine (pick_any cb cd L n (t.size : Int) w (by omega) (by omega) (by omega) HC.out HR.out).mono ?_
    rintro e w2 ⟨⟨i, rfl, i0, i1⟩, hc2, hg2⟩
    have HG2 := Lib.hid hg2
    have HC2 := Lib.hid hc2
    clear hc2 hg2
    go_wp2_with fail
    refine (pick_any cb cd L (n + 2) (s.size : Int) w2 (by omega) (by omega) (by omega) HC2.out (HR.out.grown HG2.out)).mono ?_
    rintro e w3 ⟨⟨j, rfl, j0, j1⟩, hc3, hg3⟩
    have HG3 := Lib.hid (grown_trans HG2.out hg3)
    have HC3 := Lib.hid hc3
    clear hc3 hg3
    obtain ⟨I, rfl⟩ : ∃ k : Nat, i = (k : Int) := ⟨i.toNat, by omega⟩
    obtain ⟨J, rfl⟩ : ∃ k : Nat, j = (k : Int) := ⟨j.toNat, by omega⟩
    have hx : (s.extract J s.size).size = s.size - J := by rw [ByteArray.size_extract]; omega
    have hI : I + 1 ≤ t.size := by omega
    have hw : IntKind.i64.wrap ((I : Int) + 1) = (I : Int) + 1 := by rw [IntKind.wrap_i64]; omega
    go_wp2_with fail
    refine (pick_any cb cd L (n + 2 + 2) 3 w3 (by omega) (by omega) (by omega) HC3.out (HR.out.grown HG3.out)).mono ?_
    rintro e w4 ⟨⟨r, rfl, r0, r1⟩, hc4, hg4⟩
    have HG4 := Lib.hid (grown_trans HG3.out hg4)
    have HC4 := Lib.hid (hc4.more (show n + 2 + 2 + 2 ≤ n + 6 by omega))
    clear hc4 hg4 HG3 HC3 HG2 HC2
    by_cases hr0 : r = 0
    · subst hr0
      go_wp2_with fail
      go_region
      go_wp2_with fail
      go_ret
      exact ⟨⟨_, rfl, by simp [ByteArray.size_append, ByteArray.size_extract]; omega⟩, HC4.out.old (grown_drewN w4 1 none), grown_trans HG4.out (grown_drewN w4 1 (some cb))⟩
    · have hq0 : (r == 0) = false := beq_eq_false_iff_ne.2 hr0
      by_cases hr1 : r = 1
      · subst hr1
        go_wp2_with fail
        go_region
        go_wp2_with fail
        go_ret
        exact ⟨⟨_, rfl, by simp [ByteArray.size_append, ByteArray.size_extract]; omega⟩, HC4.out.old (grown_drewN w4 1 none), grown_trans HG4.out (grown_drewN w4 1 (some cb))⟩
      · have hq1 : (r == 1) = false := beq_eq_false_iff_ne.2 hr1
        go_wp2_with fail
        go_region
        go_wp2_with fail
        go_ret
        exact ⟨⟨_, rfl, by simp [ByteArray.size_append, ByteArray.size_extract]; omega⟩, HC4.out.old (grown_drewN w4 1 none), grown_trans HG4.out (grown_drewN w4 1 (some cb))⟩
end Go.Proofs.Ytmkocinknhaniaa
