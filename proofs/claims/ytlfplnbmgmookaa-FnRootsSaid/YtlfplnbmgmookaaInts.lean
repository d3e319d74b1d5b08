/- The law's helpers on slices of ints: compare, mark, held. -/
import Derived.Test.YtlfplnbmgmookaaKa
import Derived.Deep.QuietTactic
import Derived.BigQuiet
import Derived.StillTailTactics
namespace Go.Proofs.Ytlfplnbmgmookaa
set_option linter.unusedVariables false
open Go.RowKit

def inC (x : Int) : List Value := [.int .i64 x]
theorem inC_len (x : Int) : (inC x).length = 1 := rfl
theorem flat_int (xs : List Int) : flatC inC xs = xs.map (Value.int .i64) := by
  induction xs with
  | nil => rfl
  | cons x t ih => simp [flatC, inC, ih]
def mksI (k : Int) (n : Nat) : List Int := (List.range n).map fun (i : Nat) => k + (i : Int)
theorem mksI_len (k : Int) (n : Nat) : (mksI k n).length = n := by simp [mksI]
theorem mksI_at (k : Int) (n i : Nat) (h : i < (mksI k n).length) : (mksI k n)[i] = k + (i : Int) := by simp [mksI]

set_option maxRecDepth 100000 in
set_option maxHeartbeats 1600000 in
theorem eqIntS_yes (v1 v2 : Value) (ps : List Int) (w : World) (h1 : RowsR 1 inC w v1 ps) (h2 : RowsR 1 inC w v2 ps) :
    Calls Try.prog 44 #[v1, v2] w fun e w' => e = .returned (.bool true) ∧ Below w.heap.size w w' := by
  have hm : ps.length ≤ 9223372036854775807 := by obtain ⟨_, _, _, ⟨m, _⟩, _⟩ := h1; exact m
  obtain ⟨a1, c1, rfl⟩ := h1.form
  obtain ⟨a2, c2, rfl⟩ := h2.form
  have R1 := Lib.hid h1.at
  have R2 := Lib.hid h2.at
  clear h1 h2
  go_enter Try.func44, Try.ntmps44
  go_wp2_with fail
  go_loopw [5] (fun i wr => ∃ k : Nat, k ≤ ps.length ∧ i = .int .i64 k ∧ Below w.heap.size w wr) (fun i _ => ps.length - (intOf i).toNat)
  case atStart => exact ⟨0, Nat.zero_le _, rfl, Below.refl _ _⟩
  case round =>
    obtain ⟨k, hk, rfl, hb⟩ := hrel
    by_cases hlt : k < ps.length
    · obtain ⟨b1, o1, rfl, l1, k1⟩ := R1.out _ hb k hlt
      obtain ⟨b2, o2, rfl, l2, k2⟩ := R2.out _ hb k hlt
      have p0 : wr.cell? ⟨b1, o1 + k, none⟩ = some (.int .i64 ps[k]) := by have := k1 0 (by omega); rw [Nat.mul_one] at this; exact this
      have q0 : wr.cell? ⟨b2, o2 + k, none⟩ = some (.int .i64 ps[k]) := by have := k2 0 (by omega); rw [Nat.mul_one] at this; exact this
      have z1 : (0 : Int) ≤ (k : Int) := by omega
      have z2 : (k : Int) < (ps.length : Int) := by omega
      have hxx : (ps[k] != ps[k]) = false := by simp
      clear k1 k2
      have HB := Lib.hid hb
      clear hb
      go_wp2_with fail
      go_quiet (fail)
      go_wp2_with fail
      go_roundw
      case rel => exact ⟨k + 1, by omega, by go_num, bl_drewN HB.out _⟩
      case measure => simp [intOf]; omega
    · go_wp2_with fail
      go_ret
      exact ⟨rfl, hb⟩

set_option maxRecDepth 100000 in
set_option maxHeartbeats 1600000 in
theorem markIntS_any (v : Value) (n : Nat) (k : Int) (lo hi : Nat) (e : TypeId) (xs : List Value) (w : World) (h : Ow lo hi w e 1 v n xs) (hn : n ≤ 1048576) (hk : 0 ≤ k ∧ k ≤ 9000000) :
    Calls Try.prog 45 #[v, .int .i64 k] w fun en w' => en = .returned (.int .i64 (k + n)) ∧ Ow lo hi w' e 1 v n (flatC inC (mksI k n)) ∧ Btw lo hi w w' := by
  obtain ⟨hk0, hk1⟩ := hk
  have h' := h
  rcases h.1.2 with ⟨rfl, h0⟩ | ⟨g, cap, cur, rfl, hb, hg, hnc, hc, hsz, ht⟩
  · subst h0
    go_enter Try.func45, Try.ntmps45
    go_wp2_with fail
    go_loopw [5, 1] (fun i kk wr => i = .int .i64 0 ∧ kk = .int .i64 k ∧ wr = w) (fun i _ _ => 0)
    case atStart => exact ⟨rfl, rfl, rfl⟩
    case round =>
      obtain ⟨rfl, rfl, rfl⟩ := hrel
      go_wp2_with fail
      go_ret
      have e0 : xs = [] := List.length_eq_zero_iff.1 (by simpa using h'.1.1)
      subst e0
      exact ⟨by simp, h', Btw.refl _ _ _⟩
  · have HO := Lib.hid h'
    have HX := Lib.hid h'.1.1
    have HG : Hid (lo ≤ g ∧ g < hi) := Lib.hid ⟨hb, h'.2 g rfl⟩
    clear h h' hb hg hnc hc hsz ht
    go_enter Try.func45, Try.ntmps45
    go_wp2_with fail
    go_loopw [5, 1] (fun i kk wr => ∃ (m : Nat) (ys : List Value), m ≤ n ∧ i = .int .i64 m ∧ kk = .int .i64 (k + (m : Int)) ∧ ys.length = n * 1 ∧ (∀ (i : Nat), i < m → ys[i]? = some (.int .i64 (k + (i : Int)))) ∧ Ow lo hi wr e 1 (.slice (some ⟨g, 0, none⟩) n cap) n ys ∧ Btw lo hi w wr) (fun i _ _ => n - (intOf i).toNat)
    case atStart => exact ⟨0, xs, Nat.zero_le _, rfl, by simp, HX.out, fun i hi => absurd hi (by omega), HO.out, Btw.refl _ _ _⟩
    case round =>
      obtain ⟨m, ys, hm, rfl, rfl, hyl, hpre, how, hbt⟩ := hrel
      have HW := Lib.hid how
      have HB := Lib.hid hbt
      have HP := Lib.hid hpre
      have HL := Lib.hid hyl
      by_cases hlt : m < n
      · have z1 : (0 : Int) ≤ (m : Int) := by omega
        have z2 : (m : Int) < (n : Int) := by omega
        obtain ⟨u0, c0⟩ : ∃ u, wr.cell? ⟨g, m, none⟩ = some u := ⟨_, (how.1.cellAt m (by omega)).trans (List.getElem?_eq_getElem (by omega))⟩
        have f0 : wr.frozen? ⟨g, m, none⟩ = false := how.1.frozenAt _
        clear how hbt hpre hyl
        go_wp2_with fail
        go_roundw
        case rel =>
          refine ⟨m + 1, ys.set m (.int .i64 (k + m)), by omega, by go_num, by congr 1; omega, by rw [List.length_set]; exact HL.out, fun i hi => ?_, HW.out.stored _ _, HB.out.setCell HG.out.1 HG.out.2 _⟩
          have hl := HL.out
          by_cases e : i = m
          · subst e
            rw [List.getElem?_set_self (by omega)]
          · rw [List.getElem?_set_ne (by omega)]
            exact HP.out i (by omega)
        case measure => simp [intOf]; omega
      · have hmn : m = n := by omega
        subst hmn
        have hz := flatC_of inC_len (by omega) ys (mksI k m) (by rw [mksI_len]; exact hyl) (fun i hi j hj => by
          have hj0 : j = 0 := by omega
          subst hj0
          rw [mksI_at, Nat.mul_one, Nat.add_zero]
          exact hpre i (by rw [mksI_len] at hi; exact hi))
        clear how hbt hpre hyl
        go_wp2_with fail
        go_ret
        exact ⟨rfl, hz ▸ HW.out, HB.out⟩

set_option maxRecDepth 100000 in
set_option maxHeartbeats 1600000 in
theorem heldIntS_any (v : Value) (n : Nat) (k : Int) (w : World) (h : RowsR 1 inC w v (mksI k n)) (hn : n ≤ 1048576) (hk : 0 ≤ k ∧ k ≤ 9000000) :
    Calls Try.prog 46 #[v, .int .i64 k] w fun en w' => en = .returned (.int .i64 (k + n)) ∧ Below w.heap.size w w' := by
  obtain ⟨hk0, hk1⟩ := hk
  obtain ⟨a, cp, rfl⟩ := h.form
  have R1 : Hid (∀ w' : World, Below w.heap.size w w' → ∀ i, i < n → ∃ b off, a = some ⟨b, off, none⟩ ∧ b < w.heap.size ∧ w'.cell? ⟨b, off + i, none⟩ = some (.int .i64 (k + (i : Int)))) := Lib.hid (fun w' hb i hi => by
    obtain ⟨b, o, e1, e2, e3⟩ := h.at w' hb i (by rw [mksI_len]; exact hi)
    refine ⟨b, o, e1, e2, ?_⟩
    have := e3 0 (by omega)
    rw [Nat.mul_one, mksI_at] at this
    exact this)
  clear h
  rw [mksI_len]
  go_enter Try.func46, Try.ntmps46
  go_wp2_with fail
  go_loopw [5, 1] (fun i kk wr => ∃ (m : Nat), m ≤ n ∧ i = .int .i64 m ∧ kk = .int .i64 (k + (m : Int)) ∧ Below w.heap.size w wr) (fun i _ _ => n - (intOf i).toNat)
  case atStart => exact ⟨0, Nat.zero_le _, rfl, by simp, Below.refl _ _⟩
  case round =>
    obtain ⟨m, hm, rfl, rfl, hb⟩ := hrel
    by_cases hlt : m < n
    · obtain ⟨b1, o1, rfl, l1, k1⟩ := R1.out _ hb m hlt
      have z1 : (0 : Int) ≤ (m : Int) := by omega
      have z2 : (m : Int) < (n : Int) := by omega
      have hxx : (k + (m : Int) != k + (m : Int)) = false := by simp
      go_wp2_with fail
      go_roundw
      case rel => exact ⟨m + 1, by omega, by go_num, by congr 1; omega, hb⟩
      case measure => simp [intOf]; omega
    · have hmn : m = n := by omega
      subst hmn
      go_wp2_with fail
      go_ret
      exact ⟨rfl, hb⟩
end Go.Proofs.Ytlfplnbmgmookaa
