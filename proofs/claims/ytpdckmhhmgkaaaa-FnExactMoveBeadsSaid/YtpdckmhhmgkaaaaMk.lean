/- Marking rods and frames, and finding the marks again. -/
import Derived.Test.YtpdckmhhmgkaaaaOw
import Derived.Test.YtpdckmhhmgkaaaaFrm
namespace Go.Proofs.Ytpdckmhhmgkaaaa
set_option linter.unusedVariables false
open Go.RowKit

set_option maxRecDepth 100000 in
set_option maxHeartbeats 1600000 in
theorem markIntA2S_any (v : Value) (n : Nat) (k : Int) (lo hi : Nat) (e : TypeId) (xs : List Value) (w : World) (h : Ow lo hi w e 2 v n xs) (hn : n ≤ 1048576) (hk : 0 ≤ k ∧ k ≤ 4194304) :
    Calls Try.prog 60 #[v, .int .i64 k] w fun en w' => en = .returned (.int .i64 (k + 2 * n)) ∧ Ow lo hi w' e 2 v n (marksV k (n * 2)) ∧ Btw lo hi w w' := by
  obtain ⟨hk0, hk1⟩ := hk
  have h' := h
  rcases h.1.2 with ⟨rfl, h0⟩ | ⟨g, cap, cur, rfl, hb, hg, hnc, hc, hsz, ht⟩
  · subst h0
    go_enter Try.func60, Try.ntmps60
    go_wp2_with fail
    go_loopw [5, 1] (fun i kk wr => i = .int .i64 0 ∧ kk = .int .i64 k ∧ wr = w) (fun i _ _ => 0)
    case atStart => exact ⟨rfl, rfl, rfl⟩
    case round =>
      obtain ⟨rfl, rfl, rfl⟩ := hrel
      go_wp2_with fail
      go_ret
      have e0 : xs = [] := List.length_eq_zero_iff.1 (by simpa using h'.1.1)
      subst e0
      exact ⟨by simp, h', Btw.refl _ _ _⟩
  · have HO := Lib.hid h'
    have HX := Lib.hid h'.1.1
    have HG : Hid (lo ≤ g ∧ g < hi) := Lib.hid ⟨hb, h'.2 g rfl⟩
    clear h h' hb hg hnc hc hsz ht
    go_enter Try.func60, Try.ntmps60
    go_wp2_with fail
    go_loopw [5, 1] (fun i kk wr => ∃ (m : Nat) (ys : List Value), m ≤ n ∧ i = .int .i64 m ∧ kk = .int .i64 (k + 2 * (m : Int)) ∧ ys.length = n * 2 ∧ (∀ j, j < 2 * m → ys[j]? = some (.int .i64 (k + (j : Int)))) ∧ Ow lo hi wr e 2 (.slice (some ⟨g, 0, none⟩) n cap) n ys ∧ Btw lo hi w wr) (fun i _ _ => n - (intOf i).toNat)
    case atStart => exact ⟨0, xs, Nat.zero_le _, rfl, by simp, HX.out, fun j hj => absurd hj (by omega), HO.out, Btw.refl _ _ _⟩
    case round =>
      obtain ⟨m, ys, hm, rfl, rfl, hyl, hpre, how, hbt⟩ := hrel
      have HW := Lib.hid how
      have HB := Lib.hid hbt
      have HP := Lib.hid hpre
      have HL := Lib.hid hyl
      by_cases hlt : m < n
      · obtain ⟨u0, c0⟩ : ∃ u, wr.cell? ⟨g, m * 2, none⟩ = some u := ⟨_, (how.1.cellAt (m * 2) (by omega)).trans (List.getElem?_eq_getElem (by omega))⟩
        obtain ⟨u1, c1⟩ : ∃ u, wr.cell? ⟨g, m * 2 + 1, none⟩ = some u := ⟨_, (how.1.cellAt (m * 2 + 1) (by omega)).trans (List.getElem?_eq_getElem (by omega))⟩
        have f0 : wr.frozen? ⟨g, m * 2, none⟩ = false := how.1.frozenAt _
        have f1 : wr.frozen? ⟨g, m * 2 + 1, none⟩ = false := how.1.frozenAt _
        clear how hbt hpre hyl
        go_wp2_with fail
        refine wp_loop_rounds 3 ?_
        rw [rounds_succ]
        go_wp2_with fail
        rw [rounds_succ]
        go_wp2_with fail
        rw [rounds_succ]
        go_wp2_with fail
        refine ⟨⟨m + 1, (ys.set (m * 2) (.int .i64 (k + 2 * m))).set (m * 2 + 1) (.int .i64 (k + 2 * m + 1)), by omega, by simp, by congr 1; omega, by rw [List.length_set, List.length_set]; exact HL.out, fun j hj => ?_, (HW.out.stored _ _).stored _ _, (HB.out.setCell HG.out.1 HG.out.2 _).setCell HG.out.1 HG.out.2 _⟩, by simp [intOf]; omega⟩
        have hl := HL.out
        by_cases e1 : j = m * 2 + 1
        · subst e1
          rw [List.getElem?_set_self (by rw [List.length_set]; omega)]
          congr 2; omega
        · by_cases e0 : j = m * 2
          · subst e0
            rw [List.getElem?_set_ne (by omega), List.getElem?_set_self (by omega)]
            congr 2; omega
          · rw [List.getElem?_set_ne (by omega), List.getElem?_set_ne (by omega)]
            exact HP.out j (by omega)
      · have hmn : m = n := by omega
        subst hmn
        have hz := marksV_eq k (m * 2) ys hyl (fun j hj => hpre j (by omega))
        clear how hbt hpre hyl
        go_wp2_with fail
        go_ret
        exact ⟨rfl, hz ▸ HW.out, HB.out⟩

set_option maxRecDepth 100000 in
set_option maxHeartbeats 1600000 in
theorem heldIntA2S_any (v : Value) (n : Nat) (k : Int) (w : World) (h : RowR w v 2 n (marksV k (n * 2))) (hn : n ≤ 1048576) (hk : 0 ≤ k ∧ k ≤ 4194304) :
    Calls Try.prog 61 #[v, .int .i64 k] w fun en w' => en = .returned (.int .i64 (k + 2 * n)) ∧ Below w.heap.size w w' := by
  obtain ⟨hk0, hk1⟩ := hk
  obtain ⟨a, cap, rfl, ⟨m1, _⟩, r1⟩ := h
  unfold maxLen at m1
  have HR := Lib.hid r1
  clear r1
  go_enter Try.func61, Try.ntmps61
  go_wp2_with fail
  go_loopw [5, 1] (fun i kk wr => ∃ (m : Nat), m ≤ n ∧ i = .int .i64 m ∧ kk = .int .i64 (k + 2 * (m : Int)) ∧ wr = w) (fun i _ _ => n - (intOf i).toNat)
  case atStart => exact ⟨0, Nat.zero_le _, rfl, by simp, rfl⟩
  case round =>
    obtain ⟨m, hm, rfl, rfl, rfl⟩ := hrel
    by_cases hlt : m < n
    · obtain ⟨b, off, rfl, hb, hc⟩ := HR.out (by omega)
      have c0 : wr.cell? ⟨b, off + m * 2, none⟩ = some (.int .i64 (k + 2 * (m : Int))) := by rw [hc _ (by omega), marksV_at _ _ _ (by omega)]; congr 2; omega
      have c1 : wr.cell? ⟨b, off + m * 2 + 1, none⟩ = some (.int .i64 (k + 2 * (m : Int) + 1)) := by rw [Nat.add_assoc, hc _ (by omega), marksV_at _ _ _ (by omega)]; congr 2; omega
      clear hc
      go_wp2_with fail
      refine wp_loop_rounds 3 ?_
      rw [rounds_succ]
      go_wp2_with fail
      rw [rounds_succ]
      go_wp2_with fail
      rw [rounds_succ]
      go_wp2_with fail
      exact ⟨⟨m + 1, by omega, by simp, by congr 1; omega, trivial⟩, by simp [intOf]; omega⟩
    · have hmn : m = n := by omega
      subst hmn
      go_wp2_with fail
      go_ret
      exact ⟨rfl, Below.refl _ _⟩

set_option maxRecDepth 100000 in
set_option maxHeartbeats 1600000 in
theorem markFrame_any (up lo' : Int) (v : Value) (n : Nat) (lo hi : Nat) (xs : List Value) (w : World) (h : Ow lo hi w 74 2 v n xs) (hn : n ≤ 1048576) (hlo : lo ≤ w.heap.size) :
    Calls Try.prog 22 #[.agg #[.int .i64 up, .int .i64 lo', v], .int .i64 1] w fun en w' => en = .returned (.int .i64 (1 + 2 * n)) ∧ Ow lo hi w' 74 2 v n (marksV 1 (n * 2)) ∧ Btw lo hi w w' := by
  have HO := Lib.hid h
  obtain ⟨a, c, rfl⟩ := own_form h.1
  clear h
  go_enter Try.func22, Try.ntmps22
  go_wp2_with fail
  have B1 : Below w.heap.size w (w.alloc (.cells #[.int .i64 up, .int .i64 lo', .slice a n c] 28)) := (Below.refl _ _).alloc (Nat.le_refl _) _
  generalize w.alloc (.cells #[.int .i64 up, .int .i64 lo', .slice a n c] 28) = w1 at B1 ⊢
  refine (markIntA2S_any _ n 1 lo hi _ xs w1 (HO.out.next B1) hn (by omega)).mono ?_
  rintro e w2 ⟨rfl, ho, hb⟩
  have HO2 := Lib.hid ho
  have HB := Lib.hid (((Btw.refl lo hi w).of_below B1 hlo).trans hb)
  clear ho hb B1
  go_wp2_with fail
  go_ret
  exact ⟨rfl, HO2.out, HB.out⟩

set_option maxRecDepth 100000 in
set_option maxHeartbeats 1600000 in
theorem heldFrame_any (up lo' : Int) (v : Value) (n : Nat) (w : World) (h : RowR w v 2 n (marksV 1 (n * 2))) (hn : n ≤ 1048576) :
    Calls Try.prog 23 #[.agg #[.int .i64 up, .int .i64 lo', v], .int .i64 1] w fun en w' => en = .returned (.int .i64 (1 + 2 * n)) ∧ Below w.heap.size w w' := by
  have HO := Lib.hid h
  obtain ⟨a, c, rfl, _⟩ := h
  go_enter Try.func23, Try.ntmps23
  go_wp2_with fail
  have B1 : Below w.heap.size w (w.alloc (.cells #[.int .i64 up, .int .i64 lo', .slice a n c] 28)) := (Below.refl _ _).alloc (Nat.le_refl _) _
  generalize w.alloc (.cells #[.int .i64 up, .int .i64 lo', .slice a n c] 28) = w1 at B1 ⊢
  refine (heldIntA2S_any _ n 1 w1 (HO.out.below B1 (Nat.le_refl _)) hn (by omega)).mono ?_
  rintro e w2 ⟨rfl, hb⟩
  have HB := Lib.hid (B1.trans (hb.mono B1.size))
  clear hb B1
  go_wp2_with fail
  go_ret
  exact ⟨rfl, HB.out⟩
set_option maxRecDepth 100000 in
set_option maxHeartbeats 1600000 in
theorem markFrame_at (up lo' : Int) (v : Value) (n : Nat) (lo hi : Nat) (xs : List Value) (w : World) (h : Ow lo hi w 74 2 v n xs) (hn : n ≤ 1048576) (k : Int) (hk : 0 ≤ k ∧ k ≤ 4194304) (hlo : lo ≤ w.heap.size) :
    Calls Try.prog 22 #[.agg #[.int .i64 up, .int .i64 lo', v], .int .i64 k] w fun en w' => en = .returned (.int .i64 (k + 2 * n)) ∧ Ow lo hi w' 74 2 v n (marksV k (n * 2)) ∧ Btw lo hi w w' := by
  have HO := Lib.hid h
  obtain ⟨a, c, rfl⟩ := own_form h.1
  clear h
  go_enter Try.func22, Try.ntmps22
  go_wp2_with fail
  have B1 : Below w.heap.size w (w.alloc (.cells #[.int .i64 up, .int .i64 lo', .slice a n c] 28)) := (Below.refl _ _).alloc (Nat.le_refl _) _
  generalize w.alloc (.cells #[.int .i64 up, .int .i64 lo', .slice a n c] 28) = w1 at B1 ⊢
  refine (markIntA2S_any _ n k lo hi _ xs w1 (HO.out.next B1) hn hk).mono ?_
  rintro e w2 ⟨rfl, ho, hb⟩
  have HO2 := Lib.hid ho
  have HB := Lib.hid (((Btw.refl lo hi w).of_below B1 hlo).trans hb)
  clear ho hb B1
  go_wp2_with fail
  go_ret
  exact ⟨rfl, HO2.out, HB.out⟩
end Go.Proofs.Ytpdckmhhmgkaaaa
