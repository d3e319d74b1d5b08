/- Parts laid as one: Nm1, Vsd. -/
import Derived.Test.YtlfplnbmgmookaaK9a
import Derived.Test.YtlfplnbmgmookaaInts
import Derived.Test.YtlfplnbmgmookaaKa
import Derived.Test.YtlfplnbmgmookaaKf
import Derived.Laws.OwnMore
import Derived.Deep.RegionHeld3
import Derived.Deep.RegionLaw
import Derived.BigQuiet
import Derived.Test.YtlfplnbmgmookaaVin
/-! Nm1 -/
namespace Go.Proofs.Ytlfplnbmgmookaa
set_option linter.unusedVariables false
open Go.RowKit

theorem Try.infoI9 : (Try.prog.info? 3).map (fun i => (i.zero, i.size, i.bytes)) = some (some (.int .i64 0), 1, 8) := by kernel_rfl
theorem inC_one9 (x : Int) : ∀ u ∈ inC x, u.oneCell' = true := by intro u hu; simp [inC] at hu; rw [hu]; rfl
theorem own_blk {w : World} {base size n : Nat} {e : TypeId} {v : Value} {xs : List Value} (h : w.ownsRow base e size v n xs) (hn : 0 < n) : ∃ g cap, v = .slice (some ⟨g, 0, none⟩) n cap := by
  rcases h.2 with ⟨_, h0⟩ | ⟨g, cap, cur, rfl, _⟩
  · omega
  · exact ⟨g, cap, rfl⟩
/-- Both are factors. -/
def okFs (a b : Int) : Prop := (0 ≤ a ∧ a ≤ 9999) ∧ (0 ≤ b ∧ b ≤ 9999)
theorem okFs_nat {a b : Int} (h : okFs a b) : ∃ m n : Nat, a = (m : Int) ∧ b = (n : Int) ∧ m ≤ 9999 ∧ n ≤ 9999 := by
  obtain ⟨h1, h2⟩ := h
  exact ⟨a.toNat, b.toNat, by omega, by omega, by omega, by omega⟩

/-- A digit's products with digits. -/
def dpL (d : Int) (l : List Int) : List Int := l.map fun x => d * x
theorem dpL_len (d : Int) (l : List Int) : (dpL d l).length = l.length := by simp [dpL]
theorem dpL_snoc (d : Int) (l : List Int) (k : Nat) (h : k < l.length) : dpL d (l.take (k + 1)) = dpL d (l.take k) ++ [d * l[k]] := by unfold dpL; rw [List.take_add_one, List.getElem?_eq_getElem h, List.map_append]; rfl
theorem dig_mul {d x : Int} (hd : 0 ≤ d ∧ d ≤ 9) (hx : 0 ≤ x ∧ x ≤ 9) : 0 ≤ d * x ∧ d * x ≤ 81 := by
  refine ⟨Int.mul_nonneg hd.1 hx.1, ?_⟩
  have := Int.mul_le_mul hd.2 hx.2 hx.1 (by omega : (0 : Int) ≤ 9)
  omega
/-- A row that was made lately is read where its blocks are kept. -/
theorem own_read {α : Type} {c : Nat} {cells : α → List Value} (hc : ∀ p, (cells p).length = c) {w wr : World} {B : Nat} {e : TypeId} {a : Option Addr} {n cp : Nat} {L : List α} (h : w.ownsRow B e c (.slice a n cp) n (flatC cells L)) (hn : n = L.length) (hk : KeepB B w.heap.size w wr) (i : Nat) (hi : i < L.length) :
    ∃ b, a = some ⟨b, 0, none⟩ ∧ ∀ j, j < c → wr.cell? ⟨b, i * c + j, none⟩ = (cells L[i])[j]? := by
  subst hn
  obtain ⟨b, cp', hv⟩ := own_blk h (by omega)
  injection hv with h1 h2 h3
  subst h1
  have hl := h.lt b rfl
  refine ⟨b, rfl, fun j hj => ?_⟩
  rw [hk.cell hl.1 hl.2, h.cellAt _ (by have : (i + 1) * c ≤ L.length * c := Nat.mul_le_mul_right c hi; rw [Nat.succ_mul] at this; omega), flatC_at hc L i hi j hj]
end Go.Proofs.Ytlfplnbmgmookaa

/-! Vsd -/
namespace Go.Proofs.Ytlfplnbmgmookaa
set_option linter.unusedVariables false
open Go.RowKit
set_option linter.unusedSimpArgs false

/-- The sum of a number's digits. -/
def dsN (n : Nat) : Nat := if h : n = 0 then 0 else n % 10 + dsN (n / 10)
termination_by n
decreasing_by omega
theorem dsN_zero : dsN 0 = 0 := by rw [dsN]; simp
theorem dsN_pos {n : Nat} (h : 0 < n) : dsN n = n % 10 + dsN (n / 10) := by rw [dsN, dif_neg (by omega)]
theorem dsN_le (n : Nat) : dsN n ≤ n := by
  induction n using Nat.strongRecOn with
  | ind n ih =>
    by_cases h : n = 0
    · subst h; rw [dsN_zero]; omega
    · rw [dsN_pos (by omega)]
      have := ih (n / 10) (by omega)
      omega
theorem dpL_sum (d : Int) (n : Nat) : (dpL d (dgL n)).sum = d * (dsN n : Int) := by
  induction n using Nat.strongRecOn with
  | ind n ih =>
    by_cases h : n = 0
    · subst h; rw [dgL_zero, dsN_zero]; simp [dpL]
    · have := ih (n / 10) (by omega)
      rw [dgL_pos (by omega), dsN_pos (by omega)]
      unfold dpL at this ⊢
      rw [List.map_append, List.sum_append, this, Int.natCast_add, Int.mul_add]
      simp
      omega
theorem sum_take_add (l : List Int) (k : Nat) (h : k < l.length) : (l.take (k + 1)).sum = (l.take k).sum + l[k] := by
  rw [List.take_add_one, List.getElem?_eq_getElem h, List.sum_append]; simp
theorem sum_nonneg : ∀ l : List Int, (∀ x ∈ l, 0 ≤ x) → 0 ≤ l.sum
  | [], _ => by simp
  | x :: t, h => by
    rw [List.sum_cons]
    have h1 := h x List.mem_cons_self
    have h2 := sum_nonneg t fun y hy => h y (List.mem_cons_of_mem _ hy)
    omega
theorem sum_take_bd (l : List Int) (h : ∀ x ∈ l, 0 ≤ x) (k : Nat) : 0 ≤ (l.take k).sum ∧ (l.take k).sum ≤ l.sum := by
  refine ⟨sum_nonneg _ fun x hx => h x (List.mem_of_mem_take hx), ?_⟩
  have h2 := sum_nonneg (l.drop k) fun x hx => h x (List.mem_of_mem_drop hx)
  have e : (l.take k ++ l.drop k).sum = l.sum := by rw [List.take_append_drop]
  rw [List.sum_append] at e
  omega
end Go.Proofs.Ytlfplnbmgmookaa
