/- The program's and the model's answers on one input, as letters. -/
import Derived.Test.YtfbilfplbjjoaaaDoorParse
import Derived.Test.YtfbilfplbjjoaaaDoorVerify
import Derived.Test.YtfbilfplbjjoaaaDoorChk
namespace Go.Proofs.YtfbilfplbjjoaaaDoor
set_option linter.unusedVariables false
open Go.RowKit

theorem fmt_same (n : Int) : ∃ (s : ByteArray) (b : Bool),
    (∀ w, Calls Tryd.prog 7 #[.int .i64 n] w fun e w' => e = .returned (.tuple #[.string s, .bool b]) ∧ Below w.heap.size w w') ∧
    (∀ w, Lib.TabIs Tryd.prog w "internal/strconv.uint64pow10" .u64 Lib.pow10Tab → Calls Tryd.prog 6 #[.int .i64 n] w fun e w' => e = .returned (.tuple #[.string s, .bool b]) ∧ Below w.heap.size w w') ∧
    (b = true → -999999 ≤ n ∧ n ≤ 999999 ∧ Lib.itoa n = s.data.toList) ∧ s.size ≤ 5000 := by
  by_cases h : -999999 ≤ n ∧ n ≤ 999999
  · refine ⟨⟨(Lib.itoa n).toArray⟩, true, fun w => (specFormatInt_in n w h.1 h.2).mono ?_, fun w ht => implFormatInt_in n w h.1 h.2 ht, fun _ => ⟨h.1, h.2, rfl⟩, ?_⟩
    · rintro e w' ⟨he, m, hw⟩
      subst hw
      exact ⟨he, bl_drewN (Below.refl _ _) _⟩
    · show (List.toArray _).size ≤ 5000
      rw [List.size_toArray]
      by_cases hz : n < 0
      · rw [itoa_neg n hz, List.length_cons]
        have := itoa_len (-n) (by omega) (by omega)
        omega
      · have := itoa_len n (by omega) (by omega)
        omega
  · refine ⟨⟨#[]⟩, false, fun w => (specFormatInt_out n w h).mono ?_, fun w _ => (implFormatInt_out n w h).mono ?_, fun hb => (by cases hb), by decide⟩
    · rintro e w' ⟨he, hw⟩
      subst hw
      exact ⟨he, Below.refl _ _⟩
    · rintro e w' ⟨he, hw⟩
      subst hw
      exact ⟨he, Below.refl _ _⟩
theorem parse_same (x : ByteArray) (hx : x.size ≤ 5000) : ∃ (v : Int) (b : Bool),
    (∀ w, Calls Tryd.prog 10 #[.string x] w fun e w' => e = .returned (.tuple #[.int .i64 v, .bool b]) ∧ Below w.heap.size w w') ∧
    (∀ w, Sents w → Lib.TabIs Tryd.prog w "internal/strconv.uint64pow10" .u64 Lib.pow10Tab → Calls Tryd.prog 9 #[.string x] w fun e w' => e = .returned (.tuple #[.int .i64 v, .bool b]) ∧ Below w.heap.size w w') ∧
    (∀ n, -999999 ≤ n → n ≤ 999999 → Lib.itoa n = x.data.toList → v = n ∧ b = true) := by
  by_cases h : ∃ v, -999999 ≤ v ∧ v ≤ 999999 ∧ Lib.itoa v = x.data.toList
  · obtain ⟨v, h0, h1, hv⟩ := h
    refine ⟨v, true, fun w => (specParse_num x w v h0 h1 hv).mono ?_, fun w _ ht => implParse_num x w (by omega) v h0 h1 hv ht, fun n n0 n1 hn => ⟨itoa_inj h0 h1 n0 n1 (hv.trans hn.symm), rfl⟩⟩
    rintro e w' ⟨he, m, hw⟩
    subst hw
    exact ⟨he, bl_drewN (Below.refl _ _) _⟩
  · have hv : ∀ v, -999999 ≤ v → v ≤ 999999 → Lib.itoa v ≠ x.data.toList := fun v v0 v1 hv => h ⟨v, v0, v1, hv⟩
    refine ⟨0, false, fun w => (specParse_none x w (by unfold maxLen; omega) hv).mono ?_, fun w hE ht => implParse_none x w (by omega) hv hE ht, fun n n0 n1 hn => absurd hn (hv n n0 n1)⟩
    rintro e w' ⟨he, m, hw⟩
    subst hw
    exact ⟨he, bl_drewN (Below.refl _ _) _⟩
theorem append_same (x : ByteArray) (hx : x.size ≤ 5000) : ∃ (y : ByteArray) (b : Bool),
    (∀ w, Calls Tryd.prog 13 #[.string x] w fun e w' => e = .returned (.tuple #[.string y, .bool b]) ∧ Below w.heap.size w w') ∧
    (∀ w, Lib.TabIs Tryd.prog w "internal/strconv.uint64pow10" .u64 Lib.pow10Tab → Calls Tryd.prog 12 #[.string x] w fun e w' => e = .returned (.tuple #[.string y, .bool b]) ∧ Below w.heap.size w w') ∧
    (b = false → y = ⟨#[]⟩) ∧ (b = true → y = sealF x ∧ (35 : UInt8) ∉ x.data.toList ∧ x.size ≤ 4000 ∧ (sealF x).size ≤ 4000) := by
  have hd : ∀ {w w' : World} {p : Prop}, (p ∧ ∃ m, w' = w.drewN m) → p ∧ Below w.heap.size w w' := by
    rintro w w' p ⟨he, m, hw⟩
    subst hw
    exact ⟨he, bl_drewN (Below.refl _ _) _⟩
  by_cases h1 : x.size ≤ 4000
  · by_cases h2 : (35 : UInt8) ∈ x.data.toList
    · exact ⟨⟨#[]⟩, false, fun w => (specAppend_has x w h1 h2).mono fun _ _ h => hd h, fun w _ => implAppend_has x w h1 h2, fun _ => rfl, fun h => (by cases h)⟩
    · by_cases h3 : (sealF x).size ≤ 4000
      · exact ⟨sealF x, true, fun w => (specAppend_ok x w h1 h2 h3).mono fun _ _ h => hd h, fun w ht => implAppend_ok x w h1 h2 h3 ht, fun h => (by cases h), fun _ => ⟨rfl, h2, h1, h3⟩⟩
      · exact ⟨⟨#[]⟩, false, fun w => (specAppend_big x w h1 h2 (by omega)).mono fun _ _ h => hd h, fun w ht => implAppend_big x w h1 h2 (by omega) ht, fun _ => rfl, fun h => (by cases h)⟩
  · exact ⟨⟨#[]⟩, false, fun w => (specAppend_long x w (by unfold maxLen; omega) (by omega)).mono fun _ _ h => hd h, fun w _ => implAppend_long x w (by unfold maxLen; omega) (by omega), fun _ => rfl, fun h => (by cases h)⟩
theorem head_seal (x : ByteArray) (h : (35 : UInt8) ∉ x.data.toList) : headB (sealF x) 35 = x := by
  unfold headB
  rw [sealF_data]
  unfold sealL
  rw [spl_hit 35 _ _ h]
  simp
/-- What was sealed and then changed in one byte is not sealed. -/
theorem changed_not (x z : ByteArray) (k : Nat) (c : UInt8) (hx : (35 : UInt8) ∉ x.data.toList) (hk : k < (sealF x).data.toList.length) (hc : (sealF x).data.toList[k] ≠ c) (hz : z.data.toList = (sealF x).data.toList.set k c) : sealF (headB z 35) ≠ z := by
  intro e
  have e2 : (sealF (headB z 35)).data.toList = (sealF x).data.toList.set k c := by rw [e, hz]
  rw [sealF_data] at e2
  simp only [sealF_data] at e2 hc hk
  exact seal_change x.data.toList (headB z 35).data.toList k c hx (head35 z) hk hc e2
end Go.Proofs.YtfbilfplbjjoaaaDoor
