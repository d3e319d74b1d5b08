/- Parts laid as one: Mone, Mundo, Mbtw. -/
import Derived.Test.YtlfplnbmgmookaaBeadMoves
import Derived.Test.YtlfplnbmgmookaaKb
import Derived.Test.YtlfplnbmgmookaaKa
import Derived.Test.YtlfplnbmgmookaaGood
import Derived.Deep.QuietTactic
/-! Mone -/
namespace Go.Proofs.Ytlfplnbmgmookaa
set_option linter.unusedVariables false
open Go.RowKit

def okMv (m : Mv) : Prop := (0 ≤ m.rod ∧ m.rod ≤ 7) ∧ (0 ≤ m.part ∧ m.part ≤ 1) ∧ (-5 ≤ m.amt ∧ m.amt ≤ 5) ∧ m.amt ≠ 0
def okMs (ms : List Mv) : Prop := (∀ (k : Nat) (h : k < ms.length), okMv ms[k]) ∧ ms.length ≤ 60

end Go.Proofs.Ytlfplnbmgmookaa

/-! Mundo -/
namespace Go.Proofs.Ytlfplnbmgmookaa
set_option linter.unusedVariables false
open Go.RowKit

theorem mvC_one (p : Mv) : ∀ u ∈ mvC p, u.oneCell' = true := by intro u hu; simp [mvC] at hu; rcases hu with rfl | rfl | rfl <;> rfl
def mvNeg (m : Mv) : Mv := { m with amt := -m.amt }
def undoL (ms : List Mv) : List Mv := (ms.map mvNeg).reverse
theorem undoL_len (ms : List Mv) : (undoL ms).length = ms.length := by simp [undoL]
theorem undo_snoc (ms : List Mv) (k : Nat) (h : k < ms.length) : undoL (ms.drop k) = undoL (ms.drop (k + 1)) ++ [mvNeg ms[k]] := by
  unfold undoL; rw [List.drop_eq_getElem_cons h, List.map_cons, List.reverse_cons]

end Go.Proofs.Ytlfplnbmgmookaa

/-! Mbtw -/
namespace Go.Proofs.Ytlfplnbmgmookaa
set_option linter.unusedVariables false
open Go.RowKit

def alikeF (u1 l1 : Int) (rs1 : List (Int × Int)) (u2 l2 : Int) (rs2 : List (Int × Int)) : Prop := goodF u1 l1 rs1 ∧ goodF u2 l2 rs2 ∧ u1 = u2 ∧ l1 = l2 ∧ rs1.length = rs2.length
def at2 (r : Int × Int) (p : Nat) : Int := if p = 0 then r.1 else r.2
/-- The moves of one part of one rod. -/
def btw1 (i p : Nat) (x y : Int × Int) : List Mv := if at2 y p - at2 x p = 0 then [] else [⟨i, p, at2 y p - at2 x p⟩]
def btwL (rs1 rs2 : List (Int × Int)) (t : Nat) : List Mv := (List.range t).flatMap fun s => btw1 (s / 2) (s % 2) (rs1.getD (s / 2) (0, 0)) (rs2.getD (s / 2) (0, 0))
theorem btwL_snoc (rs1 rs2 : List (Int × Int)) (i p : Nat) (hp : p < 2) (h1 : i < rs1.length) (h2 : i < rs2.length) : btwL rs1 rs2 (2 * i + p + 1) = btwL rs1 rs2 (2 * i + p) ++ btw1 i p rs1[i] rs2[i] := by
  unfold btwL
  rw [List.range_succ, List.flatMap_append]
  have e1 : (2 * i + p) / 2 = i := by omega
  have e2 : (2 * i + p) % 2 = p := by omega
  simp [e1, e2, List.getD_eq_getElem?_getD, List.getElem?_eq_getElem h1, List.getElem?_eq_getElem h2]
theorem btw1_len (i p : Nat) (x y : Int × Int) : (btw1 i p x y).length ≤ 1 := by unfold btw1; split <;> simp
theorem btwL_len (rs1 rs2 : List (Int × Int)) (t : Nat) : (btwL rs1 rs2 t).length ≤ t := by
  induction t with
  | zero => simp [btwL]
  | succ t ih =>
    have := btw1_len (t / 2) (t % 2) (rs1.getD (t / 2) (0, 0)) (rs2.getD (t / 2) (0, 0))
    unfold btwL at ih ⊢
    rw [List.range_succ, List.flatMap_append, List.length_append]
    simp only [List.flatMap_cons, List.flatMap_nil, List.append_nil]
    omega

theorem at2_bd {up lo : Int} {r : Int × Int} (h : rodOk up lo r) (hu : 1 ≤ up ∧ up ≤ 2) (hl : 4 ≤ lo ∧ lo ≤ 5) (p : Nat) : 0 ≤ at2 r p ∧ at2 r p ≤ 5 := by
  unfold rodOk at h; unfold at2; split <;> omega

/-- MovesBetween: the answer. -/
def BtF (u1 l1 : Int) (rs1 : List (Int × Int)) (u2 l2 : Int) (rs2 : List (Int × Int)) (ms : List Mv) (t : Bool) : Prop :=
  (alikeF u1 l1 rs1 u2 l2 rs2 ∧ ms = btwL rs1 rs2 (2 * rs1.length) ∧ t = true) ∨ (¬ alikeF u1 l1 rs1 u2 l2 rs2 ∧ ms = [] ∧ t = false)
theorem btF_or (u1 l1 : Int) (rs1 : List (Int × Int)) (u2 l2 : Int) (rs2 : List (Int × Int)) : ∃ ms t, BtF u1 l1 rs1 u2 l2 rs2 ms t := by
  by_cases h : alikeF u1 l1 rs1 u2 l2 rs2
  · exact ⟨_, true, .inl ⟨h, rfl, rfl⟩⟩
  · exact ⟨[], false, .inr ⟨h, rfl, rfl⟩⟩
theorem btF_len {u1 l1 : Int} {rs1 : List (Int × Int)} {u2 l2 : Int} {rs2 : List (Int × Int)} {ms : List Mv} {t : Bool} (h : BtF u1 l1 rs1 u2 l2 rs2 ms t) : ms.length ≤ 16 := by
  rcases h with ⟨h, rfl, _⟩ | ⟨_, rfl, _⟩
  · have := btwL_len rs1 rs2 (2 * rs1.length); have := h.1.2.2.2; omega
  · simp

end Go.Proofs.Ytlfplnbmgmookaa
