/- The law's helpers on parts (arrays of three ints): compare, mark, held. -/
import Derived.Test.YtjchbdbdebgniaaKa
import Derived.Test.YtjchbdbdebgniaaKb
import Derived.Test.YtjchbdbdebgniaaTmm
namespace Go.Proofs.Ytjchbdbdebgniaa
set_option linter.unusedVariables false
open Go.RowKit

theorem Try.infoTri : (Try.prog.info? 67).map (fun i => (i.zero, i.size, i.bytes)) = some (some (.agg #[.int .i64 0, .int .i64 0, .int .i64 0]), 3, 24) := by kernel_rfl
theorem Try.infoTwo : (Try.prog.info? 93).map (fun i => (i.zero, i.size, i.bytes)) = some (some (.agg #[.int .i64 0, .int .i64 0]), 2, 16) := by kernel_rfl

set_option maxRecDepth 100000 in
set_option maxHeartbeats 800000 in
theorem eqIntA3_yes (x y z : Int) (w : World) :
    Calls Try.prog 66 #[.agg #[.int .i64 x, .int .i64 y, .int .i64 z], .agg #[.int .i64 x, .int .i64 y, .int .i64 z]] w fun e w' => e = .returned (.bool true) ∧ Below w.heap.size w w' := by
  go_enter Try.func66, Try.ntmps66
  go_wp2_with fail
  refine wp_loop_rounds 4 ?_
  rw [rounds_succ]
  go_wp2_with fail
  go_quiet (fail)
  go_wp2_with fail
  rw [rounds_succ]
  go_wp2_with fail
  go_quiet (fail)
  go_wp2_with fail
  rw [rounds_succ]
  go_wp2_with fail
  go_quiet (fail)
  go_wp2_with fail
  rw [rounds_succ]
  go_wp2_with fail
  go_ret
  exact ⟨rfl, bl_drewN (((Below.refl _ _).alloc (Nat.le_refl _) _).alloc (by simp) _) _⟩

set_option maxRecDepth 100000 in
set_option maxHeartbeats 800000 in
theorem eqIntA3S_yes (v1 v2 : Value) (ps : List Tr) (w : World) (h1 : RowsR 3 trC w v1 ps) (h2 : RowsR 3 trC w v2 ps) :
    Calls Try.prog 16 #[v1, v2] w fun e w' => e = .returned (.bool true) ∧ Below w.heap.size w w' := by
  have hm : ps.length ≤ 9223372036854775807 := by obtain ⟨_, _, _, ⟨m, _⟩, _⟩ := h1; exact m
  obtain ⟨a1, c1, rfl⟩ := h1.form
  obtain ⟨a2, c2, rfl⟩ := h2.form
  have R1 := Lib.hid h1.at
  have R2 := Lib.hid h2.at
  clear h1 h2
  go_enter Try.func16, Try.ntmps16
  go_wp2_with fail
  go_loopw [5] (fun i wr => ∃ k : Nat, k ≤ ps.length ∧ i = .int .i64 k ∧ Below w.heap.size w wr) (fun i _ => ps.length - (intOf i).toNat)
  case atStart => exact ⟨0, Nat.zero_le _, rfl, Below.refl _ _⟩
  case round =>
    obtain ⟨k, hk, rfl, hb⟩ := hrel
    by_cases hlt : k < ps.length
    · obtain ⟨b1, o1, rfl, l1, k1⟩ := R1.out _ hb k hlt
      obtain ⟨b2, o2, rfl, l2, k2⟩ := R2.out _ hb k hlt
      have p0 : wr.cell? ⟨b1, o1 + k * 3, none⟩ = some (.int .i64 ps[k].i) := k1 0 (by omega)
      have p1 : wr.cell? ⟨b1, o1 + k * 3 + 1, none⟩ = some (.int .i64 ps[k].k) := k1 1 (by omega)
      have p2 : wr.cell? ⟨b1, o1 + k * 3 + 2, none⟩ = some (.int .i64 ps[k].v) := k1 2 (by omega)
      have q0 : wr.cell? ⟨b2, o2 + k * 3, none⟩ = some (.int .i64 ps[k].i) := k2 0 (by omega)
      have q1 : wr.cell? ⟨b2, o2 + k * 3 + 1, none⟩ = some (.int .i64 ps[k].k) := k2 1 (by omega)
      have q2 : wr.cell? ⟨b2, o2 + k * 3 + 2, none⟩ = some (.int .i64 ps[k].v) := k2 2 (by omega)
      clear k1 k2
      have z1 : (0 : Int) ≤ (k : Int) := by omega
      have z2 : (k : Int) < (ps.length : Int) := by omega
      go_wp2_with fail
      go_still_tail 8, (by kernel_rfl)
      change wpList _ _ _ _ _ wr.drew
      have hb2 := hb.drew
      generalize wr.drew = w2 at hb2 ⊢
      clear p0 p1 p2 q0 q1 q2 hb
      go_wp2_with fail
      refine (eqIntA3_yes ps[k].i ps[k].k ps[k].v _).mono ?_
      rintro e w3 ⟨rfl, hb3⟩
      go_wp2_with fail
      go_roundw
      case rel => exact ⟨k + 1, by omega, by go_num, hb2.trans (hb3.mono hb2.size)⟩
      case measure => simp [intOf]; omega
    · go_wp2_with fail
      go_ret
      exact ⟨rfl, hb⟩

set_option maxRecDepth 100000 in
set_option maxHeartbeats 1600000 in
theorem markIntA3S_any (v : Value) (n : Nat) (k : Int) (lo hi : Nat) (e : TypeId) (xs : List Value) (w : World) (h : Ow lo hi w e 3 v n xs) (hn : n ≤ 1048576) (hk : 0 ≤ k ∧ k ≤ 4194304) :
    Calls Try.prog 17 #[v, .int .i64 k] w fun en w' => en = .returned (.int .i64 (k + 3 * n)) ∧ Ow lo hi w' e 3 v n (marksV k (n * 3)) ∧ Btw lo hi w w' := by
  obtain ⟨hk0, hk1⟩ := hk
  have h' := h
  rcases h.1.2 with ⟨rfl, h0⟩ | ⟨g, cap, cur, rfl, hb, hg, hnc, hc, hsz, ht⟩
  · subst h0
    go_enter Try.func17, Try.ntmps17
    go_wp2_with fail
    go_loopw [5, 1] (fun i kk wr => i = .int .i64 0 ∧ kk = .int .i64 k ∧ wr = w) (fun i _ _ => 0)
    case atStart => exact ⟨rfl, rfl, rfl⟩
    case round =>
      obtain ⟨rfl, rfl, rfl⟩ := hrel
      go_wp2_with fail
      go_ret
      have e0 : xs = [] := List.length_eq_zero_iff.1 (by simpa using h'.1.1)
      subst e0
      exact ⟨by simp, h', Btw.refl _ _ _⟩
  · have HO := Lib.hid h'
    have HX := Lib.hid h'.1.1
    have HG : Hid (lo ≤ g ∧ g < hi) := Lib.hid ⟨hb, h'.2 g rfl⟩
    clear h h' hb hg hnc hc hsz ht
    go_enter Try.func17, Try.ntmps17
    go_wp2_with fail
    go_loopw [5, 1] (fun i kk wr => ∃ (m : Nat) (ys : List Value), m ≤ n ∧ i = .int .i64 m ∧ kk = .int .i64 (k + 3 * (m : Int)) ∧ ys.length = n * 3 ∧ (∀ j, j < 3 * m → ys[j]? = some (.int .i64 (k + (j : Int)))) ∧ Ow lo hi wr e 3 (.slice (some ⟨g, 0, none⟩) n cap) n ys ∧ Btw lo hi w wr) (fun i _ _ => n - (intOf i).toNat)
    case atStart => exact ⟨0, xs, Nat.zero_le _, rfl, by simp, HX.out, fun j hj => absurd hj (by omega), HO.out, Btw.refl _ _ _⟩
    case round =>
      obtain ⟨m, ys, hm, rfl, rfl, hyl, hpre, how, hbt⟩ := hrel
      have HW := Lib.hid how
      have HB := Lib.hid hbt
      have HP := Lib.hid hpre
      have HL := Lib.hid hyl
      by_cases hlt : m < n
      · obtain ⟨u0, c0⟩ : ∃ u, wr.cell? ⟨g, m * 3, none⟩ = some u := ⟨_, (how.1.cellAt (m * 3) (by omega)).trans (List.getElem?_eq_getElem (by omega))⟩
        obtain ⟨u1, c1⟩ : ∃ u, wr.cell? ⟨g, m * 3 + 1, none⟩ = some u := ⟨_, (how.1.cellAt (m * 3 + 1) (by omega)).trans (List.getElem?_eq_getElem (by omega))⟩
        obtain ⟨u2, c2⟩ : ∃ u, wr.cell? ⟨g, m * 3 + 2, none⟩ = some u := ⟨_, (how.1.cellAt (m * 3 + 2) (by omega)).trans (List.getElem?_eq_getElem (by omega))⟩
        have f0 : wr.frozen? ⟨g, m * 3, none⟩ = false := how.1.frozenAt _
        have f1 : wr.frozen? ⟨g, m * 3 + 1, none⟩ = false := how.1.frozenAt _
        have f2 : wr.frozen? ⟨g, m * 3 + 2, none⟩ = false := how.1.frozenAt _
        clear how hbt hpre hyl
        go_wp2_with fail
        refine wp_loop_rounds 4 ?_
        rw [rounds_succ]
        go_wp2_with fail
        rw [rounds_succ]
        go_wp2_with fail
        rw [rounds_succ]
        go_wp2_with fail
        rw [rounds_succ]
        go_wp2_with fail
        refine ⟨⟨m + 1, ((ys.set (m * 3) (.int .i64 (k + 3 * m))).set (m * 3 + 1) (.int .i64 (k + 3 * m + 1))).set (m * 3 + 2) (.int .i64 (k + 3 * m + 1 + 1)), by omega, by simp, by congr 1; omega, by rw [List.length_set, List.length_set, List.length_set]; exact HL.out, fun j hj => ?_, ((HW.out.stored _ _).stored _ _).stored _ _, ((HB.out.setCell HG.out.1 HG.out.2 _).setCell HG.out.1 HG.out.2 _).setCell HG.out.1 HG.out.2 _⟩, by simp [intOf]; omega⟩
        have hl := HL.out
        by_cases e2 : j = m * 3 + 2
        · subst e2
          rw [List.getElem?_set_self (by rw [List.length_set, List.length_set]; omega)]
          congr 2; omega
        · by_cases e1 : j = m * 3 + 1
          · subst e1
            rw [List.getElem?_set_ne (by omega), List.getElem?_set_self (by rw [List.length_set]; omega)]
            congr 2; omega
          · by_cases e0 : j = m * 3
            · subst e0
              rw [List.getElem?_set_ne (by omega), List.getElem?_set_ne (by omega), List.getElem?_set_self (by omega)]
              congr 2; omega
            · rw [List.getElem?_set_ne (by omega), List.getElem?_set_ne (by omega), List.getElem?_set_ne (by omega)]
              exact HP.out j (by omega)
      · have hmn : m = n := by omega
        subst hmn
        have hz := marksV_eq k (m * 3) ys hyl (fun j hj => hpre j (by omega))
        clear how hbt hpre hyl
        go_wp2_with fail
        go_ret
        exact ⟨rfl, hz ▸ HW.out, HB.out⟩

set_option maxRecDepth 100000 in
set_option maxHeartbeats 1600000 in
theorem heldIntA3S_any (v : Value) (n : Nat) (k : Int) (w : World) (h : RowR w v 3 n (marksV k (n * 3))) (hn : n ≤ 1048576) (hk : 0 ≤ k ∧ k ≤ 4194304) :
    Calls Try.prog 18 #[v, .int .i64 k] w fun en w' => en = .returned (.int .i64 (k + 3 * n)) ∧ Below w.heap.size w w' := by
  obtain ⟨hk0, hk1⟩ := hk
  obtain ⟨a, cap, rfl, ⟨m1, _⟩, r1⟩ := h
  unfold maxLen at m1
  have HR := Lib.hid r1
  clear r1
  go_enter Try.func18, Try.ntmps18
  go_wp2_with fail
  go_loopw [5, 1] (fun i kk wr => ∃ (m : Nat), m ≤ n ∧ i = .int .i64 m ∧ kk = .int .i64 (k + 3 * (m : Int)) ∧ wr = w) (fun i _ _ => n - (intOf i).toNat)
  case atStart => exact ⟨0, Nat.zero_le _, rfl, by simp, rfl⟩
  case round =>
    obtain ⟨m, hm, rfl, rfl, rfl⟩ := hrel
    by_cases hlt : m < n
    · obtain ⟨b, off, rfl, hb, hc⟩ := HR.out (by omega)
      have c0 : wr.cell? ⟨b, off + m * 3, none⟩ = some (.int .i64 (k + 3 * (m : Int))) := by rw [hc _ (by omega), marksV_at _ _ _ (by omega)]; congr 2; omega
      have c1 : wr.cell? ⟨b, off + m * 3 + 1, none⟩ = some (.int .i64 (k + 3 * (m : Int) + 1)) := by rw [Nat.add_assoc, hc _ (by omega), marksV_at _ _ _ (by omega)]; congr 2; omega
      have c2 : wr.cell? ⟨b, off + m * 3 + 2, none⟩ = some (.int .i64 (k + 3 * (m : Int) + 1 + 1)) := by rw [Nat.add_assoc, hc _ (by omega), marksV_at _ _ _ (by omega)]; congr 2; omega
      clear hc
      go_wp2_with fail
      refine wp_loop_rounds 4 ?_
      rw [rounds_succ]
      go_wp2_with fail
      rw [rounds_succ]
      go_wp2_with fail
      rw [rounds_succ]
      go_wp2_with fail
      rw [rounds_succ]
      go_wp2_with fail
      exact ⟨⟨m + 1, by omega, by simp, by congr 1; omega, trivial⟩, by simp [intOf]; omega⟩
    · have hmn : m = n := by omega
      subst hmn
      go_wp2_with fail
      go_ret
      exact ⟨rfl, Below.refl _ _⟩
end Go.Proofs.Ytjchbdbdebgniaa
