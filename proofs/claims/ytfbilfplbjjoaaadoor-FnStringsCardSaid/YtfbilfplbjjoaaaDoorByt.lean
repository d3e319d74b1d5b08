/- A text as bytes, one of them changed, and a text again. -/
import Derived.Test.YtfbilfplbjjoaaaDoorSames
import Derived.Lib.ConvBytes
import Derived.Lib.AtoiErrMem
import Derived.Laws.IdiomStrings
namespace Go.Proofs.YtfbilfplbjjoaaaDoor
set_option linter.unusedVariables false
open Go.RowKit

theorem bytes_of (s : ByteArray) (w : World) : ∃ (cp : Nat) (W : World) (C : Array Value) (n : Nat), (convert 9 22 (.string s)).run Tryd.prog w = .ok (.slice (some ⟨w.heap.size, 0, none⟩) s.size cp) W ∧ Below w.heap.size w W ∧ W.heap[w.heap.size]? = some (.cells C 5 (n, n + 1)) ∧ s.size ≤ n ∧
    (∀ (j : Nat) (h : j < s.data.toList.length), C[j]? = some (.int .u8 (s.data.toList[j].toNat : Int))) := by
  refine ⟨_, _, _, _, Lib.run_convert_string_bytes w _ _ 5 s Tryd.underlying9 Tryd.underlying22 Tryd.underlying5, Lib.bytesWorld_below _ _ _, Lib.bytesWorld_at_new _ _ _, ?_, ?_⟩
  · unfold Lib.bytesCells
    rw [Array.size_append, Array.size_map]
    exact Nat.le_add_right _ _
  · intro j h
    have h2 : j < s.data.size := by simpa using h
    unfold Lib.bytesCells
    rw [Array.getElem?_append_left (by simpa using h2), Array.getElem?_map, Array.getElem?_eq_getElem h2]
    simp
theorem bytes_set (W : World) (B n k : Nat) (C : Array Value) (l : List UInt8) (c : UInt8) (N cp : Nat) (hN : N = l.length) (hh : W.heap[B]? = some (.cells C 5 (n, n + 1))) (hc : ∀ (j : Nat) (h : j < l.length), C[j]? = some (.int .u8 (l[j].toNat : Int))) (hk : k < l.length) :
    (convert 22 9 (.slice (some ⟨B, 0, none⟩) N cp)).run Tryd.prog (W.setCell ⟨B, k, none⟩ (.int .u8 (c.toNat : Int))) = .ok (.string ⟨(l.set k c).toArray⟩) (W.setCell ⟨B, k, none⟩ (.int .u8 (c.toNat : Int))) := by
  subst hN
  have h1 : (W.setCell ⟨B, k, none⟩ (.int .u8 (c.toNat : Int))).heap[B]? = some (.cells (C.setIfInBounds k (.int .u8 (c.toNat : Int))) 5 (n, n + 1)) := by simp [World.setCell, Array.getElem?_modify, hh]
  have := run_convert_bytes_back (P := Tryd.prog) (W.setCell ⟨B, k, none⟩ (.int .u8 (c.toNat : Int))) 22 9 5 ⟨B, 0, none⟩ cp (l.set k c) Tryd.underlying22 Tryd.underlying5 Tryd.underlying9 (fun j hj => by
    have hj2 : j < l.length := by simpa using hj
    have hcj := hc j hj2
    have hkC : k < C.size := (Array.getElem?_eq_some_iff.1 (hc k hk)).1
    rw [show (⟨B, 0, none⟩ : Addr).add j = ⟨B, j, none⟩ by unfold Addr.add; split <;> simp_all]
    unfold World.cell?
    rw [h1]
    show (C.setIfInBounds k _)[j]? = _
    by_cases e : j = k
    · subst e
      rw [Array.getElem?_setIfInBounds_self_of_lt hkC, List.getElem_set_self]
    · rw [Array.getElem?_setIfInBounds_ne (fun e' => e e'.symm), hcj, List.getElem_set_ne (fun e' => e e'.symm)])
  rwa [List.length_set] at this
theorem bits_xor_u8_nat (a b : Nat) (ha : a < 256) (hb : b < 256) : bits .xor .u8 (a : Int) (b : Int) = ((a ^^^ b : Nat) : Int) := by
  have hx : a ^^^ b < 2 ^ 8 := Nat.xor_lt_two_pow (by omega) (by omega)
  have h1 : (BitVec.ofInt 8 (a : Int)).toNat = a := by
    rw [BitVec.ofInt_natCast, BitVec.toNat_ofNat]; exact Nat.mod_eq_of_lt (by omega)
  have h2 : (BitVec.ofInt 8 (b : Int)).toNat = b := by
    rw [BitVec.ofInt_natCast, BitVec.toNat_ofNat]; exact Nat.mod_eq_of_lt (by omega)
  show IntKind.u8.wrap ((BitVec.ofInt 8 (a : Int) ^^^ BitVec.ofInt 8 (b : Int)).toNat : Int) = _
  rw [BitVec.toNat_xor, h1, h2]
  simp [IntKind.wrap, IntKind.bits, IntKind.signed]
  omega
theorem xor_new (b : UInt8) (q : Nat) (h0 : 0 < q) (h1 : q ≤ 255) : ∃ c : UInt8, b ≠ c ∧ bits .xor .u8 (b.toNat : Int) (q : Int) = (c.toNat : Int) := by
  have hb := b.toNat_lt
  have hx : b.toNat ^^^ q < 2 ^ 8 := Nat.xor_lt_two_pow (by omega) (by omega)
  refine ⟨UInt8.ofNat (b.toNat ^^^ q), fun e => ?_, ?_⟩
  · have e2 := congrArg UInt8.toNat e
    rw [UInt8.toNat_ofNat', Nat.mod_eq_of_lt (by omega)] at e2
    have e3 := congrArg (fun z => b.toNat ^^^ z) e2
    simp only [Nat.xor_self, ← Nat.xor_assoc, Nat.zero_xor] at e3
    omega
  · rw [bits_xor_u8_nat _ _ (by omega) (by omega), UInt8.toNat_ofNat', Nat.mod_eq_of_lt (by omega)]
end Go.Proofs.YtfbilfplbjjoaaaDoor
