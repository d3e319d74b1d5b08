/- The model's l1Has; a literal row read. -/
import Derived.Test.YtblbeoeklkcamaaDoorInts
import Derived.Test.YtblbeoeklkcamaaDoorKa
namespace Go.Proofs.YtblbeoeklkcamaaDoor
set_option linter.unusedVariables false
open Go.RowKit

set_option maxRecDepth 100000 in
set_option maxHeartbeats 800000 in
theorem l1Has_any (v : Value) (l : List Int) (n : Int) (w : World) (h : RowsR 1 inC w v l) (t : Bool) (ht : t = true ↔ n ∈ l) :
    Calls Tryd.prog 72 #[v, .int .i64 n] w fun e w' => e = .returned (.bool t) ∧ w' = w := by
  obtain ⟨a, cp, rfl⟩ := h.form
  have hm : l.length ≤ 9223372036854775807 := by obtain ⟨_, _, _, ⟨m, _⟩, _⟩ := h; exact m
  have R1 := Lib.hid h.at
  have HT := Lib.hid ht
  clear h ht
  go_enter Tryd.func72, Tryd.ntmps72
  go_wp2_with fail
  go_loopw [5] (fun iv wr => ∃ (k : Nat), k ≤ l.length ∧ iv = .int .i64 (k : Int) ∧ (∀ i (h : i < l.length), i < k → l[i] ≠ n) ∧ wr = w) (fun iv _ => l.length - (intOf iv).toNat)
  case atStart => exact ⟨0, Nat.zero_le _, rfl, fun i _ h => by omega, rfl⟩
  case round =>
    obtain ⟨k, hk, rfl, hpre, rfl⟩ := hrel
    have HP := Lib.hid hpre
    clear hpre
    by_cases hlt : k < l.length
    · obtain ⟨b1, o1, rfl, l1, k1⟩ := R1.out _ (Below.refl _ _) k hlt
      have c0 : wr.cell? ⟨b1, o1 + k, none⟩ = some (.int .i64 l[k]) := by have := k1 0 (by omega); rw [Nat.mul_one] at this; exact this
      have z1 : (0 : Int) ≤ (k : Int) := by omega
      have z2 : (k : Int) < (l.length : Int) := by omega
      obtain ⟨x, hx⟩ : ∃ x, l[k] = x := ⟨_, rfl⟩
      rw [hx] at c0
      by_cases hxn : x = n
      · have y1 : (x == n) = true := by simpa using hxn
        have HTT : Hid (t = true) := Lib.hid (HT.out.2 (by rw [← hxn, ← hx]; exact List.getElem_mem hlt))
        clear k1 hx hxn
        go_wp2_with fail
        go_ret
        exact ⟨by rw [HTT.out]; rfl, rfl⟩
      · have y1 : (x == n) = false := by simpa using hxn
        have HP2 : Hid (∀ i (h : i < l.length), i < k + 1 → l[i] ≠ n) := Lib.hid (fun i h hi => by
          by_cases e : i = k
          · subst e; rw [hx]; exact hxn
          · exact HP.out i h (by omega))
        clear k1 hx hxn
        go_wp2_with fail
        go_roundw
        case rel => exact ⟨k + 1, by omega, by go_num, HP2.out, trivial⟩
        case measure => simp [intOf]; omega
    · obtain rfl : k = l.length := by omega
      have HTT : Hid (t = false) := Lib.hid (by
        cases t with
        | false => rfl
        | true =>
          obtain ⟨i, hi, e⟩ := List.mem_iff_getElem.1 (HT.out.1 rfl)
          exact absurd e (HP.out i hi hi))
      go_wp2_with fail
      go_ret
      exact ⟨by rw [HTT.out]; rfl, rfl⟩
/-- A slice's length. -/
def lnV : Value → Nat
  | .slice _ n _ => n
  | _ => 0
/-- The first k rests. -/
def rsF (R : Nat → Int) (k : Nat) : List Int := (List.range k).map R
theorem row_lit (w : World) (zs : List Int) (t : TypeId) (hn : zs.length ≤ maxLen) : RowsR 1 inC (w.alloc (.cells (zs.map (Value.int .i64)).toArray t)) (.slice (some ⟨w.heap.size, 0, none⟩) zs.length zs.length) zs := by
  refine ⟨_, _, rfl, ⟨hn, Nat.le_refl _⟩, fun _ => ⟨w.heap.size, 0, rfl, by simp, fun i hi j hj => ?_⟩⟩
  obtain rfl : j = 0 := by omega
  rw [World.cell?_alloc_at _ _ _ _ rfl]
  simp [inC, hi]
end Go.Proofs.YtblbeoeklkcamaaDoor
