/- The law's helpers on BeadMove and slices of it: compare, copy, measure. -/
import Derived.Test.YtjkjaadcdolbhaaKa
import Derived.Deep.RegionHeld3
import Derived.Deep.QuietTactic
import Derived.BigQuiet
import Derived.StillTailTactics
namespace Go.Proofs.Ytjkjaadcdolbhaa
set_option linter.unusedVariables false
open Go.RowKit

structure Mv where
  rod : Int
  part : Int
  amt : Int

def mvV (p : Mv) : Value := .agg #[.int .i64 p.rod, .int .i64 p.part, .int .i64 p.amt]
def mvC (p : Mv) : List Value := [.int .i64 p.rod, .int .i64 p.part, .int .i64 p.amt]
theorem mvC_len (p : Mv) : (mvC p).length = 3 := rfl

set_option maxRecDepth 100000 in
set_option maxHeartbeats 1600000 in
theorem eqBeadMove_yes (p : Mv) (w : World) :
    Calls Try.prog 95 #[mvV p, mvV p] w fun e w' => e = .returned (.bool true) ∧ Below w.heap.size w w' := by
  obtain ⟨rod, part, amt⟩ := p
  show Calls Try.prog 95 #[.agg #[.int .i64 rod, .int .i64 part, .int .i64 amt], .agg #[.int .i64 rod, .int .i64 part, .int .i64 amt]] w fun e w' => e = .returned (.bool true) ∧ Below w.heap.size w w'
  go_enter Try.func95, Try.ntmps95
  go_wp2_with fail
  go_ret
  exact ⟨rfl, ((Below.refl _ _).alloc (Nat.le_refl _) _).alloc (by simp) _⟩

set_option maxRecDepth 100000 in
set_option maxHeartbeats 1600000 in
theorem eqBeadMoveS_yes (v1 v2 : Value) (ps : List Mv) (w : World) (h1 : RowsR 3 mvC w v1 ps) (h2 : RowsR 3 mvC w v2 ps) :
    Calls Try.prog 52 #[v1, v2] w fun e w' => e = .returned (.bool true) ∧ Below w.heap.size w w' := by
  have hm : ps.length ≤ 9223372036854775807 := by obtain ⟨_, _, _, ⟨m, _⟩, _⟩ := h1; exact m
  obtain ⟨a1, c1, rfl⟩ := h1.form
  obtain ⟨a2, c2, rfl⟩ := h2.form
  have R1 := Lib.hid h1.at
  have R2 := Lib.hid h2.at
  clear h1 h2
  go_enter Try.func52, Try.ntmps52
  go_wp2_with fail
  go_loopw [5] (fun i wr => ∃ k : Nat, k ≤ ps.length ∧ i = .int .i64 k ∧ Below w.heap.size w wr) (fun i _ => ps.length - (intOf i).toNat)
  case atStart => exact ⟨0, Nat.zero_le _, rfl, Below.refl _ _⟩
  case round =>
    obtain ⟨k, hk, rfl, hb⟩ := hrel
    by_cases hlt : k < ps.length
    · obtain ⟨b1, o1, rfl, l1, k1⟩ := R1.out _ hb k hlt
      obtain ⟨b2, o2, rfl, l2, k2⟩ := R2.out _ hb k hlt
      have p0 : wr.cell? ⟨b1, o1 + k * 3, none⟩ = some (.int .i64 ps[k].rod) := k1 0 (by omega)
      have q0 : wr.cell? ⟨b2, o2 + k * 3, none⟩ = some (.int .i64 ps[k].rod) := k2 0 (by omega)
      have p1 : wr.cell? ⟨b1, o1 + k * 3 + 1, none⟩ = some (.int .i64 ps[k].part) := k1 1 (by omega)
      have q1 : wr.cell? ⟨b2, o2 + k * 3 + 1, none⟩ = some (.int .i64 ps[k].part) := k2 1 (by omega)
      have p2 : wr.cell? ⟨b1, o1 + k * 3 + 2, none⟩ = some (.int .i64 ps[k].amt) := k1 2 (by omega)
      have q2 : wr.cell? ⟨b2, o2 + k * 3 + 2, none⟩ = some (.int .i64 ps[k].amt) := k2 2 (by omega)
      have z1 : (0 : Int) ≤ (k : Int) := by omega
      have z2 : (k : Int) < (ps.length : Int) := by omega
      clear k1 k2
      go_wp2_with fail
      go_still_tail 8, (by kernel_rfl)
      change wpList _ _ _ _ _ wr.drew
      have hb2 := hb.drew
      generalize wr.drew = w2 at hb2 ⊢
      clear p0 q0 p1 q1 p2 q2 hb
      go_wp2_with fail
      refine (eqBeadMove_yes ps[k] _).mono ?_
      rintro e w3 ⟨rfl, hb3⟩
      go_wp2_with fail
      go_roundw
      case rel => exact ⟨k + 1, by omega, by go_num, hb2.trans (hb3.mono hb2.size)⟩
      case measure => simp [intOf]; omega
    · go_wp2_with fail
      go_ret
      exact ⟨rfl, hb⟩

theorem Try.infoBeadMove : (Try.prog.info? 75).map (fun i => (i.zero, i.size, i.bytes)) = some (some (.agg #[.int .i64 0, .int .i64 0, .int .i64 0]), 3, 24) := by kernel_rfl

def mkMv (k : Int) : Mv := { rod := k, part := k + 1, amt := k + 1 + 1 }
def mksMv (k : Int) (n : Nat) : List Mv := (List.range n).map fun (i : Nat) => mkMv (k + 3 * (i : Int))
theorem mksMv_len (k : Int) (n : Nat) : (mksMv k n).length = n := by simp [mksMv]
theorem mksMv_at (k : Int) (n i : Nat) (h : i < (mksMv k n).length) : (mksMv k n)[i] = mkMv (k + 3 * (i : Int)) := by simp [mksMv]

set_option maxRecDepth 100000 in
set_option maxHeartbeats 3200000 in
theorem markBeadMoveS_any (v : Value) (n : Nat) (k : Int) (lo hi : Nat) (e : TypeId) (xs : List Value) (w : World) (h : Ow lo hi w e 3 v n xs) (hn : n ≤ 1048576) (hk : 1 ≤ k ∧ k ≤ 4194304) (hlo : lo ≤ w.heap.size) :
    Calls Try.prog 53 #[v, .int .i64 k] w fun en w' => en = .returned (.int .i64 (k + 3 * n)) ∧ Ow lo hi w' e 3 v n (flatC mvC (mksMv k n)) ∧ Btw lo hi w w' := by
  obtain ⟨hk0, hk1⟩ := hk
  have h' := h
  rcases h.1.2 with ⟨rfl, h0⟩ | ⟨g, cap, cur, rfl, hb, hg, hnc, hc, hsz, ht⟩
  · subst h0
    go_enter Try.func53, Try.ntmps53
    go_wp2_with fail
    go_loopw [5, 1] (fun i kk wr => i = .int .i64 0 ∧ kk = .int .i64 k ∧ wr = w) (fun i _ _ => 0)
    case atStart => exact ⟨rfl, rfl, rfl⟩
    case round =>
      obtain ⟨rfl, rfl, rfl⟩ := hrel
      go_wp2_with fail
      go_ret
      have e0 : xs = [] := List.length_eq_zero_iff.1 (by simpa using h'.1.1)
      subst e0
      exact ⟨by simp, h', Btw.refl _ _ _⟩
  · have HO := Lib.hid h'
    have HX := Lib.hid h'.1.1
    have HG : Hid (lo ≤ g ∧ g < hi) := Lib.hid ⟨hb, h'.2 g rfl⟩
    clear h h' hb hg hnc hc hsz ht
    go_enter Try.func53, Try.ntmps53
    go_wp2_with fail
    go_loopw [5, 1] (fun i kk wr => ∃ (m : Nat) (ys : List Value), m ≤ n ∧ i = .int .i64 m ∧ kk = .int .i64 (k + 3 * (m : Int)) ∧ ys.length = n * 3 ∧ (∀ (i : Nat), i < m → ∀ j, j < 3 → ys[i * 3 + j]? = (mvC (mkMv (k + 3 * (i : Int))))[j]?) ∧ Ow lo hi wr e 3 (.slice (some ⟨g, 0, none⟩) n cap) n ys ∧ Btw lo hi w wr) (fun i _ _ => n - (intOf i).toNat)
    case atStart => exact ⟨0, xs, Nat.zero_le _, rfl, by simp, HX.out, fun i hi => absurd hi (by omega), HO.out, Btw.refl _ _ _⟩
    case round =>
      obtain ⟨m, ys, hm, rfl, rfl, hyl, hpre, how, hbt⟩ := hrel
      have HW0 := Lib.hid how
      have HB0 := Lib.hid hbt
      have HP := Lib.hid hpre
      have HL := Lib.hid hyl
      by_cases hlt : m < n
      · have z1 : (0 : Int) ≤ (m : Int) := by omega
        have z2 : (m : Int) < (n : Int) := by omega
        clear how hbt hpre hyl
        have hq0 : ys.length = n * 3 := HL.out
        obtain ⟨u0, d0⟩ : ∃ u, (wr).cell? ⟨g, m * 3, none⟩ = some u := ⟨_, (HW0.out.1.cellAt (m * 3 + 0) (by omega)).trans (List.getElem?_eq_getElem (by (try simp only [List.length_set]); omega))⟩
        have f0 : (wr).frozen? ⟨g, m * 3, none⟩ = false := HW0.out.1.frozenAt _
        obtain ⟨u1, d1⟩ : ∃ u, (wr).cell? ⟨g, m * 3 + 1, none⟩ = some u := ⟨_, (HW0.out.1.cellAt (m * 3 + 1) (by omega)).trans (List.getElem?_eq_getElem (by (try simp only [List.length_set]); omega))⟩
        have f1 : (wr).frozen? ⟨g, m * 3 + 1, none⟩ = false := HW0.out.1.frozenAt _
        obtain ⟨u2, d2⟩ : ∃ u, (wr).cell? ⟨g, m * 3 + 2, none⟩ = some u := ⟨_, (HW0.out.1.cellAt (m * 3 + 2) (by omega)).trans (List.getElem?_eq_getElem (by (try simp only [List.length_set]); omega))⟩
        have f2 : (wr).frozen? ⟨g, m * 3 + 2, none⟩ = false := HW0.out.1.frozenAt _
        go_wp2_with fail
        have HWs0 := Lib.hid (((HW0.out.stored (m * 3) (.int .i64 (k + 3 * (m : Int)))).stored (m * 3 + 1) (.int .i64 (k + 3 * (m : Int) + 1))).stored (m * 3 + 2) (.int .i64 (k + 3 * (m : Int) + 1 + 1)))
        have HBs0 := Lib.hid (((HB0.out.setCell (p := ⟨g, m * 3, none⟩) HG.out.1 HG.out.2 (.int .i64 (k + 3 * (m : Int)))).setCell (p := ⟨g, m * 3 + 1, none⟩) HG.out.1 HG.out.2 (.int .i64 (k + 3 * (m : Int) + 1))).setCell (p := ⟨g, m * 3 + 2, none⟩) HG.out.1 HG.out.2 (.int .i64 (k + 3 * (m : Int) + 1 + 1)))
        go_roundw
        case rel =>
          refine ⟨m + 1, (((ys.set (m * 3) (.int .i64 (k + 3 * (m : Int)))).set (m * 3 + 1) (.int .i64 (k + 3 * (m : Int) + 1))).set (m * 3 + 2) (.int .i64 (k + 3 * (m : Int) + 1 + 1))), by omega, by go_num, by congr 1; omega, by simp only [List.length_set]; exact HL.out, fun i hi j hj => ?_, HWs0.out, HBs0.out⟩
          have hl := HL.out
          by_cases e : i = m
          · subst e
            have hj' : j = 0 ∨ j = 1 ∨ j = 2 := by omega
            rcases hj' with rfl | rfl | rfl
            · simp only [Nat.add_zero]
              rw [List.getElem?_set_ne (by omega), List.getElem?_set_ne (by omega), List.getElem?_set_self (by (try simp only [List.length_set]); omega)]; rfl
            · rw [List.getElem?_set_ne (by omega), List.getElem?_set_self (by (try simp only [List.length_set]); omega)]; rfl
            · rw [List.getElem?_set_self (by (try simp only [List.length_set]); omega)]; rfl
          · rw [List.getElem?_set_ne (by omega), List.getElem?_set_ne (by omega), List.getElem?_set_ne (by omega)]
            exact HP.out i (by omega) j hj
        case measure => simp [intOf]; omega
      · have hmn : m = n := by omega
        subst hmn
        have hz := flatC_of mvC_len (by omega) ys (mksMv k m) (by rw [mksMv_len]; exact hyl) (fun i hi j hj => by rw [mksMv_at]; exact hpre i (by rw [mksMv_len] at hi; exact hi) j hj)
        clear how hbt hpre hyl
        go_wp2_with fail
        go_ret
        exact ⟨rfl, hz ▸ HW0.out, HB0.out⟩

set_option maxRecDepth 100000 in
set_option maxHeartbeats 3200000 in
theorem heldBeadMoveS_any (v : Value) (n : Nat) (k : Int) (w : World) (h : RowsR 3 mvC w v (mksMv k n)) (hn : n ≤ 1048576) (hk : 1 ≤ k ∧ k ≤ 4194304) :
    Calls Try.prog 54 #[v, .int .i64 k] w fun en w' => en = .returned (.int .i64 (k + 3 * n)) ∧ Below w.heap.size w w' := by
  obtain ⟨hk0, hk1⟩ := hk
  obtain ⟨a, cp, rfl⟩ := h.form
  have R1 : Hid (∀ w' : World, Below w.heap.size w w' → ∀ i, i < n → ∃ b off, a = some ⟨b, off, none⟩ ∧ b < w.heap.size ∧ ∀ j, j < 3 → w'.cell? ⟨b, off + i * 3 + j, none⟩ = (mvC (mkMv (k + 3 * (i : Int))))[j]?) := Lib.hid (fun w' hb i hi => by
    obtain ⟨b, o, e1, e2, e3⟩ := h.at w' hb i (by rw [mksMv_len]; exact hi)
    exact ⟨b, o, e1, e2, fun j hj => by rw [e3 j hj, mksMv_at]⟩)
  clear h
  rw [mksMv_len]
  go_enter Try.func54, Try.ntmps54
  go_wp2_with fail
  go_loopw [5, 1] (fun i kk wr => ∃ (m : Nat), m ≤ n ∧ i = .int .i64 m ∧ kk = .int .i64 (k + 3 * (m : Int)) ∧ Below w.heap.size w wr) (fun i _ _ => n - (intOf i).toNat)
  case atStart => exact ⟨0, Nat.zero_le _, rfl, by simp, Below.refl _ _⟩
  case round =>
    obtain ⟨m, hm, rfl, rfl, hb⟩ := hrel
    by_cases hlt : m < n
    · obtain ⟨b1, o1, rfl, l1, k1⟩ := R1.out _ hb m hlt
      have z1 : (0 : Int) ≤ (m : Int) := by omega
      have z2 : (m : Int) < (n : Int) := by omega
      have HB0 := Lib.hid hb
      have p0 : wr.cell? ⟨b1, o1 + m * 3, none⟩ = some (.int .i64 (k + 3 * (m : Int))) := k1 0 (by omega)
      have p1 : wr.cell? ⟨b1, o1 + m * 3 + 1, none⟩ = some (.int .i64 (k + 3 * (m : Int) + 1)) := k1 1 (by omega)
      have p2 : wr.cell? ⟨b1, o1 + m * 3 + 2, none⟩ = some (.int .i64 (k + 3 * (m : Int) + 1 + 1)) := k1 2 (by omega)
      have K1 := Lib.hid k1
      clear k1 hb
      go_wp2_with fail
      go_roundw
      case rel => exact ⟨m + 1, by omega, by go_num, by congr 1; omega, HB0.out⟩
      case measure => simp [intOf]; omega
    · have hmn : m = n := by omega
      subst hmn
      go_wp2_with fail
      go_ret
      exact ⟨rfl, hb⟩
end Go.Proofs.Ytjkjaadcdolbhaa
