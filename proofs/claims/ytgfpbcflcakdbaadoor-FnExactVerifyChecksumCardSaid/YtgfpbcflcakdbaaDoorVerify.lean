/- The law on VerifyChecksum returns true: the reference model and the program give back the text ahead of the mark exactly if sealing it gives the argument. -/
import Derived.Test.YtgfpbcflcakdbaaDoorSeal
import Derived.Test.YtgfpbcflcakdbaaDoorCut
namespace Go.Proofs.YtgfpbcflcakdbaaDoor
set_option linter.unusedVariables false
open Go.RowKit

theorem ownsRow_head {w : World} {B : Nat} {e : TypeId} {v x : Value} {xs : List Value} (h : w.ownsRow B e 1 v (xs.length + 1) (x :: xs)) :
    ∃ g cap, v = .slice (some ⟨g, 0, none⟩) (xs.length + 1) cap ∧ w.cell? ⟨g, 0, none⟩ = some x ∧ B ≤ g := by
  obtain ⟨g, cap, cur, rfl, hb, hg, hn, _⟩ : ∃ g cap cur, v = .slice (some ⟨g, 0, none⟩) (xs.length + 1) cap ∧ B ≤ g ∧ w.heap[g]? = some (.cells cur e (0, 0)) ∧ xs.length + 1 ≤ cap ∧ True := by
    rcases h.2 with ⟨_, h0⟩ | ⟨g, cap, cur, h1, h2, h3, h4, _⟩
    · omega
    · exact ⟨g, cap, cur, h1, h2, h3, h4, trivial⟩
  exact ⟨g, cap, rfl, h.cells rfl 0 x rfl, hb⟩

set_option maxHeartbeats 400000 in
theorem specVerify_long (s : ByteArray) (w : World) (hs : s.size ≤ maxLen) (h : 4000 < s.size) :
    Calls Tryd.prog 20 #[.string s] w fun e w' => e = .returned (.tuple #[.string ⟨#[]⟩, .bool false]) ∧ Below w.heap.size w w' := by
  unfold maxLen at hs
  go_enter Tryd.func20, Tryd.ntmps20
  go_wp2_with fail
  go_ret2
  exact ⟨rfl, Below.refl _ _⟩
theorem bneT {a b : ByteArray} (h : a ≠ b) : (!a.toList == b.toList) = true := by
  rw [Bool.not_eq_true', beq_eq_false_iff_ne]
  intro e
  exact h (by rw [ByteArray.toList_eq, ByteArray.toList_eq] at e; exact ByteArray.ext (Array.ext' e))
theorem bneF {a b : ByteArray} (h : a = b) : (!a.toList == b.toList) = false := by subst h; simp

set_option maxHeartbeats 400000 in
theorem specVerify_yes (s : ByteArray) (w : World) (h : s.size ≤ 4000) (hq : sealF (headB s 35) = s) :
    Calls Tryd.prog 20 #[.string s] w fun e w' => e = .returned (.tuple #[.string (headB s 35), .bool true]) ∧ Below w.heap.size w w' := by
  have hsz := headB_size s 35
  have hne := bneF hq
  clear hq
  go_enter Tryd.func20, Tryd.ntmps20
  go_wp2_with fail
  refine (l1Split_any s 35 _ h).mono ?_
  rintro e w1 ⟨v, rfl, hown, hbel⟩
  obtain ⟨x, xs, hx⟩ : ∃ x xs, spl 35 s.data.toList = x :: xs := by
    cases hh : spl 35 s.data.toList with
    | nil => exact absurd hh (spl_ne _ _)
    | cons x xs => exact ⟨x, xs, rfl⟩
  have hxe : strV x = .string (headB s 35) := by unfold headB strV; rw [hx]; rfl
  rw [hx] at hown
  obtain ⟨g, cap, rfl, hc, hg⟩ := ownsRow_head (xs := xs.map strV) (x := strV x) (by simpa using hown)
  rw [hxe] at hc
  have HB := Lib.hid hbel
  clear hown hx hxe hbel
  go_wp2_with fail
  refine (l1Seal_any _ _ (by omega)).mono ?_
  rintro e w2 ⟨rfl, m, rfl⟩
  go_wp2_with fail
  go_ret2
  exact ⟨rfl, bl_drewN HB.out _⟩
set_option maxHeartbeats 400000 in
theorem specVerify_no (s : ByteArray) (w : World) (h : s.size ≤ 4000) (hq : sealF (headB s 35) ≠ s) :
    Calls Tryd.prog 20 #[.string s] w fun e w' => e = .returned (.tuple #[.string ⟨#[]⟩, .bool false]) ∧ Below w.heap.size w w' := by
  have hsz := headB_size s 35
  have hne := bneT hq
  clear hq
  go_enter Tryd.func20, Tryd.ntmps20
  go_wp2_with fail
  refine (l1Split_any s 35 _ h).mono ?_
  rintro e w1 ⟨v, rfl, hown, hbel⟩
  obtain ⟨x, xs, hx⟩ : ∃ x xs, spl 35 s.data.toList = x :: xs := by
    cases hh : spl 35 s.data.toList with
    | nil => exact absurd hh (spl_ne _ _)
    | cons x xs => exact ⟨x, xs, rfl⟩
  have hxe : strV x = .string (headB s 35) := by unfold headB strV; rw [hx]; rfl
  rw [hx] at hown
  obtain ⟨g, cap, rfl, hc, hg⟩ := ownsRow_head (xs := xs.map strV) (x := strV x) (by simpa using hown)
  rw [hxe] at hc
  have HB := Lib.hid hbel
  clear hown hx hxe hbel
  go_wp2_with fail
  refine (l1Seal_any _ _ (by omega)).mono ?_
  rintro e w2 ⟨rfl, m, rfl⟩
  go_wp2_with fail
  go_ret2
  exact ⟨rfl, bl_drewN HB.out _⟩
theorem head35 (s : ByteArray) : (35 : UInt8) ∉ (headB s 35).data.toList := by
  unfold headB; simpa using head_not s.data.toList 35

set_option maxHeartbeats 400000 in
theorem implVerify_long (s : ByteArray) (w : World) (hs : s.size ≤ maxLen) (h : 4000 < (headB s 35).size) :
    Calls Tryd.prog 18 #[.string s] w fun e w' => e = .returned (.tuple #[.string ⟨#[]⟩, .bool false]) ∧ Below w.heap.size w w' := by
  have hsz := headB_size s 35
  go_enter Tryd.func18, Tryd.ntmps18
  go_wp2_with fail
  refine (cut_one s 35 _ hs).mono ?_
  rintro e w1 ⟨⟨a, b, rfl⟩, m, rfl⟩
  go_wp2_with fail
  refine (implAppend_long (headB s 35) _ (by omega) h).mono ?_
  rintro e w2 ⟨rfl, hb⟩
  go_wp2_with fail
  go_ret2
  exact ⟨rfl, (bl_drewN (Below.refl _ _) _).trans hb⟩
set_option maxHeartbeats 400000 in
theorem implVerify_big (s : ByteArray) (w : World) (hs : s.size ≤ maxLen) (h : (headB s 35).size ≤ 4000) (hq : 4000 < (sealF (headB s 35)).size) (ht : Lib.TabIs Tryd.prog w "internal/strconv.uint64pow10" .u64 Lib.pow10Tab) :
    Calls Tryd.prog 18 #[.string s] w fun e w' => e = .returned (.tuple #[.string ⟨#[]⟩, .bool false]) ∧ Below w.heap.size w w' := by
  have HT := Lib.hid ht
  clear ht
  go_enter Tryd.func18, Tryd.ntmps18
  go_wp2_with fail
  refine (cut_one s 35 _ hs).mono ?_
  rintro e w1 ⟨⟨a, b, rfl⟩, m, rfl⟩
  go_wp2_with fail
  refine (implAppend_big (headB s 35) _ h (head35 s) hq (tab_below HT.out (bl_drewN (Below.refl _ _) _))).mono ?_
  rintro e w2 ⟨rfl, hb⟩
  go_wp2_with fail
  go_ret2
  exact ⟨rfl, (bl_drewN (Below.refl _ _) _).trans hb⟩
set_option maxHeartbeats 400000 in
theorem implVerify_no (s : ByteArray) (w : World) (hs : s.size ≤ maxLen) (h : (headB s 35).size ≤ 4000) (hq : (sealF (headB s 35)).size ≤ 4000) (hn : sealF (headB s 35) ≠ s) (ht : Lib.TabIs Tryd.prog w "internal/strconv.uint64pow10" .u64 Lib.pow10Tab) :
    Calls Tryd.prog 18 #[.string s] w fun e w' => e = .returned (.tuple #[.string ⟨#[]⟩, .bool false]) ∧ Below w.heap.size w w' := by
  have HT := Lib.hid ht
  have hne := bneT hn
  clear ht hn
  go_enter Tryd.func18, Tryd.ntmps18
  go_wp2_with fail
  refine (cut_one s 35 _ hs).mono ?_
  rintro e w1 ⟨⟨a, b, rfl⟩, m, rfl⟩
  go_wp2_with fail
  refine (implAppend_ok (headB s 35) _ h (head35 s) hq (tab_below HT.out (bl_drewN (Below.refl _ _) _))).mono ?_
  rintro e w2 ⟨rfl, hb⟩
  go_wp2_with fail
  go_ret2
  exact ⟨rfl, (bl_drewN (Below.refl _ _) _).trans hb⟩
set_option maxHeartbeats 400000 in
theorem implVerify_yes (s : ByteArray) (w : World) (hs : s.size ≤ maxLen) (h : (headB s 35).size ≤ 4000) (hq : (sealF (headB s 35)).size ≤ 4000) (hn : sealF (headB s 35) = s) (ht : Lib.TabIs Tryd.prog w "internal/strconv.uint64pow10" .u64 Lib.pow10Tab) :
    Calls Tryd.prog 18 #[.string s] w fun e w' => e = .returned (.tuple #[.string (headB s 35), .bool true]) ∧ Below w.heap.size w w' := by
  have HT := Lib.hid ht
  have hne := bneF hn
  clear ht hn
  go_enter Tryd.func18, Tryd.ntmps18
  go_wp2_with fail
  refine (cut_one s 35 _ hs).mono ?_
  rintro e w1 ⟨⟨a, b, rfl⟩, m, rfl⟩
  go_wp2_with fail
  refine (implAppend_ok (headB s 35) _ h (head35 s) hq (tab_below HT.out (bl_drewN (Below.refl _ _) _))).mono ?_
  rintro e w2 ⟨rfl, hb⟩
  go_wp2_with fail
  go_ret2
  exact ⟨rfl, (bl_drewN (Below.refl _ _) _).trans hb⟩

/-- The program's answer where sealing the head does not give the argument. -/
theorem implVerify_fail (s : ByteArray) (w : World) (hs : s.size ≤ maxLen) (hn : sealF (headB s 35) ≠ s) (ht : Lib.TabIs Tryd.prog w "internal/strconv.uint64pow10" .u64 Lib.pow10Tab) :
    Calls Tryd.prog 18 #[.string s] w fun e w' => e = .returned (.tuple #[.string ⟨#[]⟩, .bool false]) ∧ Below w.heap.size w w' := by
  by_cases h : (headB s 35).size ≤ 4000
  · by_cases hq : (sealF (headB s 35)).size ≤ 4000
    · exact implVerify_no s w hs h hq hn ht
    · exact implVerify_big s w hs h (by omega) ht
  · exact implVerify_long s w hs (by omega)

theorem implVerify_over (s : ByteArray) (w : World) (hs : s.size ≤ maxLen) (hl : 4000 < s.size) (ht : Lib.TabIs Tryd.prog w "internal/strconv.uint64pow10" .u64 Lib.pow10Tab) :
    Calls Tryd.prog 18 #[.string s] w fun e w' => e = .returned (.tuple #[.string ⟨#[]⟩, .bool false]) ∧ Below w.heap.size w w' := by
  by_cases h : (headB s 35).size ≤ 4000
  · by_cases hq : (sealF (headB s 35)).size ≤ 4000
    · exact implVerify_no s w hs h hq (fun e => by rw [e] at hq; omega) ht
    · exact implVerify_big s w hs h (by omega) ht
  · exact implVerify_long s w hs (by omega)

set_option maxHeartbeats 400000 in
theorem lawVerify (a0 : ByteArray) (w : World) (w0 : a0.size ≤ maxLen) (ht : Lib.TabIs Tryd.prog w "internal/strconv.uint64pow10" .u64 Lib.pow10Tab) :
    Calls Tryd.prog 7 #[.string a0] w fun e w' => e = .returned (.bool true) ∧ Below w.heap.size w w' := by
  have W0 := w0
  unfold maxLen at w0
  have HT := Lib.hid ht
  clear ht
  by_cases h0 : (1048576 : Int) < a0.size
  · go_enter Tryd.func7, Tryd.ntmps7
    go_wp2
    go_ret
    exact ⟨rfl, Below.refl _ _⟩
  · by_cases h1 : a0.size ≤ 4000
    · by_cases h2 : sealF (headB a0 35) = a0
      · have h3 : (sealF (headB a0 35)).size ≤ 4000 := by rw [h2]; exact h1
        have h4 : (headB a0 35).size ≤ 4000 := by have := headB_size a0 35; omega
        have H2 := Lib.hid h2
        clear h2
        go_enter Tryd.func7, Tryd.ntmps7
        go_wp2_with fail
        refine (specVerify_yes a0 _ h1 H2.out).mono ?_
        rintro e w1 ⟨rfl, hb⟩
        go_wp2_with fail
        refine (implVerify_yes a0 _ W0 h4 h3 H2.out (tab_below HT.out hb)).mono ?_
        rintro e w2 ⟨rfl, hb2⟩
        go_wp2_with fail
        go_ret
        exact ⟨rfl, hb.trans (hb2.mono hb.size)⟩
      · have H2 := Lib.hid h2
        clear h2
        go_enter Tryd.func7, Tryd.ntmps7
        go_wp2_with fail
        refine (specVerify_no a0 _ h1 H2.out).mono ?_
        rintro e w1 ⟨rfl, hb⟩
        go_wp2_with fail
        refine (implVerify_fail a0 _ W0 H2.out (tab_below HT.out hb)).mono ?_
        rintro e w2 ⟨rfl, hb2⟩
        go_wp2_with fail
        go_ret
        exact ⟨rfl, hb.trans (hb2.mono hb.size)⟩
    · have h1' : 4000 < a0.size := by omega
      go_enter Tryd.func7, Tryd.ntmps7
      go_wp2_with fail
      refine (specVerify_long a0 _ W0 h1').mono ?_
      rintro e w1 ⟨rfl, hb⟩
      go_wp2_with fail
      refine (implVerify_over a0 _ W0 h1' (tab_below HT.out hb)).mono ?_
      rintro e w2 ⟨rfl, hb2⟩
      go_wp2_with fail
      go_ret
      exact ⟨rfl, hb.trans (hb2.mono hb.size)⟩
end Go.Proofs.YtgfpbcflcakdbaaDoor
