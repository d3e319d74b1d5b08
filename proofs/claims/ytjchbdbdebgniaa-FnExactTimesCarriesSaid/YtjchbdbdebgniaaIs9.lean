/- The program's side of multiplying: the functions of it. -/
import Derived.Test.YtjchbdbdebgniaaIcl
import Derived.Test.YtjchbdbdebgniaaIpt
import Derived.Test.YtjchbdbdebgniaaIdb
namespace Go.Proofs.Ytjchbdbdebgniaa
set_option linter.unusedVariables false
open Go.RowKit Go.Shelf

attribute [local go_sem] Oper.semAt_some

set_option maxRecDepth 100000 in
set_option maxHeartbeats 800000 in
theorem partsOf_in (n : Nat) (a b : Int) (w : World) :
    CallsIn Fence.wide n Try.prog 65 #[.int .i64 a, .int .i64 b] w fun e w' => e = .returned (.func (.func 96) #[] #[.pointer (some ⟨w.heap.size, 0, none⟩), .pointer (some ⟨w.heap.size + 1, 0, none⟩)]) ∧ w' = (w.alloc (.cells #[.int .i64 a] 3)).alloc (.cells #[.int .i64 b] 3) := by
  refine callsIn_of_wp Try.func65 rfl trivial ?_ rfl
  simp only [Try.ntmps65, List.size_toArray, List.length_cons, List.length_nil, Nat.reduceAdd, Nat.reduceSub, Array.replicate_succ, Array.replicate_zero, List.push_toArray, List.append_toArray, List.nil_append, List.cons_append]
  gi_wp2
  go_ret
  exact ⟨rfl, rfl⟩
/-- The boxes of two numbers. -/
theorem partsOf_boxes (a b : Int) (w : World) : ∃ w1, (w.alloc (.cells #[.int .i64 a] 3)).alloc (.cells #[.int .i64 b] 3) = w1 ∧ w1.heap.size = w.heap.size + 1 + 1 ∧ Below w.heap.size w w1 ∧ w1.cell? ⟨w.heap.size, 0, none⟩ = some (.int .i64 a) ∧ w1.cell? ⟨w.heap.size + 1, 0, none⟩ = some (.int .i64 b) := by
  refine ⟨_, rfl, by simp, ((Below.refl _ w).alloc (Nat.le_refl _) _).alloc (by simp) _, ?_, ?_⟩
  · have c1 : ((w.alloc (.cells #[.int .i64 a] 3)).alloc (.cells #[.int .i64 b] 3)).heap[w.heap.size]? = some (.cells #[.int .i64 a] 3 (0, 0)) := (alloc_old (by simp)).trans (alloc_at rfl)
    exact Boxed.cell c1
  · have c2 : ((w.alloc (.cells #[.int .i64 a] 3)).alloc (.cells #[.int .i64 b] 3)).heap[w.heap.size + 1]? = some (.cells #[.int .i64 b] 3 (0, 0)) := alloc_at (by simp)
    exact Boxed.cell c2
set_option maxRecDepth 100000 in
set_option maxHeartbeats 800000 in
theorem doublingsOf_in (n : Nat) (a b : Int) (w : World) :
    CallsIn Fence.wide n Try.prog 84 #[.int .i64 a, .int .i64 b] w fun e w' => e = .returned (.func (.func 111) #[] #[.pointer (some ⟨w.heap.size, 0, none⟩), .pointer (some ⟨w.heap.size + 1, 0, none⟩)]) ∧ w' = (w.alloc (.cells #[.int .i64 a] 3)).alloc (.cells #[.int .i64 b] 3) := by
  refine callsIn_of_wp Try.func84 rfl trivial ?_ rfl
  simp only [Try.ntmps84, List.size_toArray, List.length_cons, List.length_nil, Nat.reduceAdd, Nat.reduceSub, Array.replicate_succ, Array.replicate_zero, List.push_toArray, List.append_toArray, List.nil_append, List.cons_append]
  gi_wp2
  go_ret
  exact ⟨rfl, rfl⟩
/-- The boxes of two numbers. -/
theorem doublingsOf_boxes (a b : Int) (w : World) : ∃ w1, (w.alloc (.cells #[.int .i64 a] 3)).alloc (.cells #[.int .i64 b] 3) = w1 ∧ w1.heap.size = w.heap.size + 1 + 1 ∧ Below w.heap.size w w1 ∧ w1.cell? ⟨w.heap.size, 0, none⟩ = some (.int .i64 a) ∧ w1.cell? ⟨w.heap.size + 1, 0, none⟩ = some (.int .i64 b) := by
  refine ⟨_, rfl, by simp, ((Below.refl _ w).alloc (Nat.le_refl _) _).alloc (by simp) _, ?_, ?_⟩
  · have c1 : ((w.alloc (.cells #[.int .i64 a] 3)).alloc (.cells #[.int .i64 b] 3)).heap[w.heap.size]? = some (.cells #[.int .i64 a] 3 (0, 0)) := (alloc_old (by simp)).trans (alloc_at rfl)
    exact Boxed.cell c1
  · have c2 : ((w.alloc (.cells #[.int .i64 a] 3)).alloc (.cells #[.int .i64 b] 3)).heap[w.heap.size + 1]? = some (.cells #[.int .i64 b] 3 (0, 0)) := alloc_at (by simp)
    exact Boxed.cell c2
set_option maxRecDepth 100000 in
set_option maxHeartbeats 1600000 in
theorem impPartsOf_yes (a b : Nat) (w : World) (ha : a ≤ 9999) (hb9 : b ≤ 9999) :
    Calls Try.prog 15 #[.int .i64 (a : Int), .int .i64 (b : Int)] w fun e w' => (∃ sq, e = .returned (.tuple #[sq, .bool true]) ∧ w'.ownsRow w.heap.size 67 3 sq (prT (dgL a) (dgL b)).length (flatC trC (prT (dgL a) (dgL b)))) ∧ Below w.heap.size w w' := by
  refine (callsIn_wide (n := 8)).1 ?_
  have hn : (1 : Nat) ≤ 8 := by omega
  have cF : CallsIn Fence.wide 7 Try.prog 63 #[.int .i64 (a : Int), .int .i64 (b : Int)] w fun e w' => e = .returned (.bool true) ∧ w = w' := callsIn_wide.2 (areF_yes _ _ w ⟨by omega, by omega⟩)
  have cP := partsOf_in 7 (a : Int) (b : Int) w
  obtain ⟨w1, hw1, hsz, hb1, d1, d2⟩ := partsOf_boxes (a : Int) (b : Int) w
  rw [hw1] at cP
  have cC := tri_collect 7 (by omega) 96 #[.pointer (some ⟨w.heap.size, 0, none⟩), .pointer (some ⟨w.heap.size + 1, 0, none⟩)] (enters_of Try.func96 (by kernel_rfl) rfl) (prT (dgL a) (dgL b)) (by have := prT_len16 ha hb9; omega) w1 (parts_gives 5 (by omega) a b w.heap.size (w.heap.size + 1) _ _ _ ha hb9 w1 (by omega) (by omega) d1 d2)
  have HC := Lib.hid cC
  have HB := Lib.hid hb1
  have HP := Lib.hid cP
  have HF := Lib.hid cF
  clear cC cP cF hb1 d1 d2 hw1 hsz
  have hfF : Fence.wide.fn 63 := trivial
  have hfP : Fence.wide.fn 65 := trivial
  have hfC : Fence.wide.fn 64 := trivial
  refine callsIn_of_wp Try.func15 rfl trivial ?_ rfl
  simp only [Try.ntmps15, List.size_toArray, List.length_cons, List.length_nil, Nat.reduceAdd, Nat.reduceSub, Array.replicate_succ, Array.replicate_zero, List.push_toArray, List.append_toArray, List.nil_append, List.cons_append]
  gi_wp2_with (first
    | (gi_at_call 63; refine HF.out.mono ?_; rintro e w' ⟨rfl, hw'⟩; subst w')
    | (gi_at_call 65; refine HP.out.mono ?_; rintro e w' ⟨rfl, rfl⟩)
    | (gi_at_call 64; refine HC.out.mono ?_; rintro e w2 ⟨⟨v, rfl, hrow⟩, hb2⟩))
  go_ret2
  refine ⟨⟨_, rfl, ?_⟩, HB.out.trans (hb2.mono HB.out.size)⟩
  exact own_mono hrow HB.out.size
set_option maxRecDepth 100000 in
set_option maxHeartbeats 800000 in
theorem impPartsOf_no (a b : Int) (w : World) (h : ¬ okFs a b) :
    Calls Try.prog 15 #[.int .i64 a, .int .i64 b] w fun e w' => (∃ sq, e = .returned (.tuple #[sq, .bool false]) ∧ w'.ownsRow w.heap.size 67 3 sq ([] : List (Tr)).length (flatC trC ([] : List (Tr)))) ∧ Below w.heap.size w w' := by
  have HH := Lib.hid h
  clear h
  go_enter Try.func15, Try.ntmps15
  go_wp2_with fail
  refine (areF_no _ _ w HH.out).mono ?_
  rintro e w2 ⟨rfl, rfl⟩
  go_wp2_with fail
  go_ret2
  exact ⟨⟨_, rfl, World.ownsRow_made (base := w.heap.size) (e := 67) (size := 3) w #[] 0 (Nat.le_refl _) (Nat.zero_le _) (by simp)⟩, (Below.refl _ _).alloc (Nat.le_refl _) _⟩
set_option maxRecDepth 100000 in
set_option maxHeartbeats 1600000 in
theorem impByDoubling_yes (a b : Nat) (w : World) (ha : a ≤ 9999) (hb9 : b ≤ 9999) :
    Calls Try.prog 36 #[.int .i64 (a : Int), .int .i64 (b : Int)] w fun e w' => (∃ sq, e = .returned (.tuple #[sq, .bool true]) ∧ w'.ownsRow w.heap.size 93 2 sq (dbL a b).length (flat (dbL a b))) ∧ Below w.heap.size w w' := by
  refine (callsIn_wide (n := 8)).1 ?_
  have hn : (1 : Nat) ≤ 8 := by omega
  have cF : CallsIn Fence.wide 7 Try.prog 63 #[.int .i64 (a : Int), .int .i64 (b : Int)] w fun e w' => e = .returned (.bool true) ∧ w = w' := callsIn_wide.2 (areF_yes _ _ w ⟨by omega, by omega⟩)
  have cP := doublingsOf_in 7 (a : Int) (b : Int) w
  obtain ⟨w1, hw1, hsz, hb1, d1, d2⟩ := doublingsOf_boxes (a : Int) (b : Int) w
  rw [hw1] at cP
  have cC := two_collect 7 (by omega) 111 #[.pointer (some ⟨w.heap.size, 0, none⟩), .pointer (some ⟨w.heap.size + 1, 0, none⟩)] (enters_of Try.func111 (by kernel_rfl) rfl) (dbL a b) (by have := dbL_len14 ha b; omega) w1 (doublings_gives 5 (by omega) a b w.heap.size (w.heap.size + 1) _ _ _ ha hb9 w1 (by omega) (by omega) d1 d2)
  have HC := Lib.hid cC
  have HB := Lib.hid hb1
  have HP := Lib.hid cP
  have HF := Lib.hid cF
  clear cC cP cF hb1 d1 d2 hw1 hsz
  have hfF : Fence.wide.fn 63 := trivial
  have hfP : Fence.wide.fn 84 := trivial
  have hfC : Fence.wide.fn 83 := trivial
  refine callsIn_of_wp Try.func36 rfl trivial ?_ rfl
  simp only [Try.ntmps36, List.size_toArray, List.length_cons, List.length_nil, Nat.reduceAdd, Nat.reduceSub, Array.replicate_succ, Array.replicate_zero, List.push_toArray, List.append_toArray, List.nil_append, List.cons_append]
  gi_wp2_with (first
    | (gi_at_call 63; refine HF.out.mono ?_; rintro e w' ⟨rfl, hw'⟩; subst w')
    | (gi_at_call 84; refine HP.out.mono ?_; rintro e w' ⟨rfl, rfl⟩)
    | (gi_at_call 83; refine HC.out.mono ?_; rintro e w2 ⟨⟨v, rfl, hrow⟩, hb2⟩))
  go_ret2
  refine ⟨⟨_, rfl, ?_⟩, HB.out.trans (hb2.mono HB.out.size)⟩
  rw [flat_prC]
  exact own_mono hrow HB.out.size
set_option maxRecDepth 100000 in
set_option maxHeartbeats 800000 in
theorem impByDoubling_no (a b : Int) (w : World) (h : ¬ okFs a b) :
    Calls Try.prog 36 #[.int .i64 a, .int .i64 b] w fun e w' => (∃ sq, e = .returned (.tuple #[sq, .bool false]) ∧ w'.ownsRow w.heap.size 93 2 sq ([] : List (Int × Int)).length (flat ([] : List (Int × Int)))) ∧ Below w.heap.size w w' := by
  have HH := Lib.hid h
  clear h
  go_enter Try.func36, Try.ntmps36
  go_wp2_with fail
  refine (areF_no _ _ w HH.out).mono ?_
  rintro e w2 ⟨rfl, rfl⟩
  go_wp2_with fail
  go_ret2
  exact ⟨⟨_, rfl, World.ownsRow_made (base := w.heap.size) (e := 93) (size := 2) w #[] 0 (Nat.le_refl _) (Nat.zero_le _) (by simp)⟩, (Below.refl _ _).alloc (Nat.le_refl _) _⟩
end Go.Proofs.Ytjchbdbdebgniaa
