/- The text that a marking lays into a string: 'm' and the number. -/
import Derived.Test.YtkepgmdoifnkdaaKa
import Derived.Lib.ItoaNum
import Derived.Laws.IdiomStrings
import Derived.IntWalk
namespace Go.Proofs.Ytkepgmdoifnkdaa
set_option linter.unusedVariables false
open Go.RowKit

def mT (k : Int) : ByteArray := ⟨(109 :: Lib.decDigits k.toNat).toArray⟩
theorem mdec_snoc (n : Nat) (h : 10 ≤ n) : Lib.decDigits n = Lib.decDigits (n / 10) ++ [UInt8.ofNat (48 + n % 10)] := by
  rw [Lib.decDigits, dif_neg (by omega)]
theorem mdec_small (n : Nat) (h : n < 10) : Lib.decDigits n = [UInt8.ofNat (48 + n)] := by rw [Lib.decDigits, dif_pos h]
theorem mdec_len : ∀ (k u : Nat), u < 10 ^ (k + 1) → (Lib.decDigits u).length ≤ k + 1
  | 0, u, h => by rw [mdec_small u (by simpa using h)]; simp
  | k + 1, u, h => by
    by_cases hs : u < 10
    · rw [mdec_small u hs]; simp
    · rw [mdec_snoc u (by omega), List.length_append]
      have := mdec_len k (u / 10) (by rw [Nat.pow_succ] at h; omega)
      simp; omega

set_option maxRecDepth 100000 in
set_option maxHeartbeats 1600000 in
theorem markText_any (k : Int) (w : World) (hk : 1 ≤ k ∧ k ≤ 9000000) :
    Calls Try.prog 57 #[.int .i64 k] w fun e w' => e = .returned (.string (mT k)) ∧ Below w.heap.size w w' := by
  obtain ⟨h1, h2⟩ := hk
  have HL : Hid ((Lib.decDigits k.toNat).length ≤ 7) := Lib.hid (mdec_len 6 _ (by omega))
  go_enter Try.func57, Try.ntmps57
  go_wp2_with fail
  go_loopw [0, 3] (fun n o wr => ∃ (m : Nat) (l : List UInt8), n = .int .i64 m ∧ (m : Int) ≤ k ∧ o = .string ⟨l.toArray⟩ ∧ l.length ≤ 7 ∧ (m = 0 → l = Lib.decDigits k.toNat) ∧ (0 < m → Lib.decDigits m ++ l = Lib.decDigits k.toNat) ∧ Below w.heap.size w wr) (fun n _ _ => (intOf n).toNat)
  case atStart => exact ⟨k.toNat, [], by congr 1; omega, by omega, rfl, by simp, fun h => by omega, fun _ => by simp, Below.refl _ _⟩
  case round =>
    obtain ⟨m, l, rfl, hm, rfl, hl, h0, h3, hb⟩ := hrel
    have H0 := Lib.hid h0
    have H3 := Lib.hid h3
    have HB := Lib.hid hb
    have hsz : (⟨l.toArray⟩ : ByteArray).size = l.length := mk_size l
    clear h0 h3
    by_cases hm0 : 0 < m
    · have z1 : (0 : Int) < (m : Int) := by omega
      have z2 : (m : Int) ≤ 9000000 := by omega
      obtain ⟨bd, hbd⟩ : ∃ bd, bd = UInt8.ofNat (48 + m % 10) := ⟨_, rfl⟩
      have hb8 : ((bd).toNat : Int) = 48 + (m : Int) % 10 := by rw [hbd, UInt8.toNat_ofNat']; omega
      have hcv : (convert 70 9 (.slice (some ⟨wr.heap.size, 0, none⟩) 1 1)).run Try.prog (wr.alloc (.cells #[.int .u8 (48 + (m : Int) % 10)] 5)) = .ok (.string ⟨#[bd]⟩) (wr.alloc (.cells #[.int .u8 (48 + (m : Int) % 10)] 5)) :=
        run_convert_bytes_back (P := Try.prog) _ 70 9 5 ⟨wr.heap.size, 0, none⟩ 1 [bd] Try.underlying70 Try.underlying5 Try.underlying9 (fun j hj => by
          have hj0 : j = 0 := by simp at hj; omega
          subst hj0
          have := one_new wr (.int .u8 (48 + (m : Int) % 10)) 5 0 _ rfl
          rw [this]
          congr 2
          exact hb8.symm)
      have HB2 := Lib.hid (HB.out.alloc HB.out.size (.cells #[.int .u8 (48 + (m : Int) % 10)] 5))
      have g1 : ¬ 9223372036854775807 < 1 + l.length := by omega
      have HC : Hid ((⟨#[bd]⟩ : ByteArray) ++ ⟨l.toArray⟩ = ⟨(bd :: l).toArray⟩) := Lib.hid (by simp [ByteArray.mk_append_mk])
      have HBD := Lib.hid hbd
      clear hb hb8 hbd
      go_wp2_with fail
      go_roundw
      case rel =>
        have h3 := H3.out hm0
        have hlen := HL.out
        have hne : 1 ≤ (Lib.decDigits m).length := by
          by_cases hs : m < 10
          · rw [mdec_small m hs]; simp
          · rw [mdec_snoc m (by omega)]; simp
        rw [← h3, List.length_append] at hlen
        refine ⟨m / 10, bd :: l, by simp, by omega, by rw [HC.out], by simp; omega, fun h => ?_, fun h => ?_, HB2.out⟩
        · rw [← h3, mdec_small m (by omega), HBD.out, show m % 10 = m by omega]; rfl
        · rw [← h3, mdec_snoc m (by omega), List.append_assoc, HBD.out]; rfl
      case measure => simp [intOf]; omega
    · have hz : m = 0 := by omega
      subst hz
      have hle : (l : List UInt8) = Lib.decDigits k.toNat := H0.out rfl
      have HT : Hid ((⟨#[109]⟩ : ByteArray) ++ ⟨l.toArray⟩ = mT k) := Lib.hid (by rw [hle]; unfold mT; simp [ByteArray.mk_append_mk])
      clear hle hb
      have g1 : ¬ 9223372036854775807 < 1 + l.length := by omega
      go_wp2_with fail
      go_ret
      exact ⟨ret_str HT.out, HB.out⟩
end Go.Proofs.Ytkepgmdoifnkdaa
