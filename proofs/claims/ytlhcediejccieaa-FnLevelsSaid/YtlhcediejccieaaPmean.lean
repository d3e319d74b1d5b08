/- The mean level of a class: the model's, the program's. -/
import Derived.Test.YtlhcediejccieaaPmem
import Derived.Test.YtlhcediejccieaaRed
namespace Go.Proofs.Ytlhcediejccieaa
set_option linter.unusedVariables false
open Go.RowKit

def sumN : List Pu → Nat
  | [] => 0
  | p :: t => p.lvl.toNat + sumN t
theorem sumN_snoc (a : List Pu) (p : Pu) : sumN (a ++ [p]) = sumN a + p.lvl.toNat := by
  induction a with
  | nil => simp [sumN]
  | cons x t ih => simp [sumN, ih]; omega
theorem memF_ok {ps ms : List Pu} {c : Int} {r : Bool} (h : MemF ps c ms r) (i : Nat) (hi : i < ms.length) : okPu ms[i] := by
  rcases h with ⟨ho, _, rfl, _⟩ | ⟨_, rfl, _⟩
  · have hm : (memC c ps)[i] ∈ ps := (List.mem_filter.1 (List.getElem_mem hi)).1
    obtain ⟨j, hj, e⟩ := List.getElem_of_mem hm
    rw [← e]
    exact (ho.1 j hj).1
  · simp at hi
theorem lvl_nat {p : Pu} (h : okPu p) : ∃ l : Nat, p.lvl = (l : Int) ∧ p.lvl.toNat = l ∧ l ≤ 10 := by
  have := h.2.2.2.2
  exact ⟨p.lvl.toNat, by omega, rfl, by omega⟩
/-- The answer. -/
def MeanF (ms : List Pu) (r : Bool) (q1 q2 : Nat) (t : Bool) : Prop :=
  (r = true ∧ 0 < ms.length ∧ t = true ∧ sumN ms / Nat.gcd (sumN ms) ms.length = q1 ∧ ms.length / Nat.gcd (sumN ms) ms.length = q2) ∨ ((r = false ∨ ms.length = 0) ∧ t = false ∧ q1 = 0 ∧ q2 = 0)
theorem meanF_or (ms : List Pu) (r : Bool) : ∃ q1 q2 t, MeanF ms r q1 q2 t := by
  by_cases h : r = true ∧ 0 < ms.length
  · exact ⟨_, _, true, .inl ⟨h.1, h.2, rfl, rfl, rfl⟩⟩
  · refine ⟨0, 0, false, .inr ⟨?_, rfl, rfl, rfl⟩⟩
    cases r with
    | false => exact .inl rfl
    | true => exact .inr (by have : ¬ 0 < ms.length := fun h' => h ⟨rfl, h'⟩; omega)

set_option maxRecDepth 100000 in
set_option maxHeartbeats 800000 in
theorem specMean_no (v : Value) (ps : List Pu) (c : Int) (w : World) (h : RowsR 5 puC w v ps) (hs : ∀ p ∈ ps, p.name.size ≤ maxLen) (hl : ps.length ≤ 1048576) (hn : ¬ (okL ps ∧ (0 ≤ c ∧ c ≤ 9))) :
    Calls Try.prog 36 #[v, .int .i64 c] w fun e w' => e = .returned (.tuple #[.int .i64 0, .int .i64 0, .bool false]) ∧ Below w.heap.size w w' := by
  by_cases ho : okL ps
  · have HN : Hid (¬ (0 ≤ c ∧ c ≤ 9)) := Lib.hid fun hc => hn ⟨ho, hc⟩
    have HC := Lib.hid (l3Good_yes v ps w h hs hl ho)
    clear h hs hn ho
    go_enter Try.func36, Try.ntmps36
    go_wp2_with fail
    refine HC.out.mono ?_
    rintro e w2 ⟨rfl, hb2⟩
    go_wp2_with fail
    refine (l1In_noq _ _ _ _ HN.out).mono ?_
    rintro e w' ⟨rfl, hw⟩
    subst w'
    go_wp2_with fail
    exact bodyPost_ret (v := .tuple #[.int .i64 0, .int .i64 0, .bool false]) (by simp [results, Try.results36, go_sem]) rfl ⟨rfl, hb2⟩
  · have HC := Lib.hid (l3Good_no v ps w h hs hl ho)
    clear h hs hn ho
    go_enter Try.func36, Try.ntmps36
    go_wp2_with fail
    refine HC.out.mono ?_
    rintro e w2 ⟨rfl, hb2⟩
    go_wp2_with fail
    exact bodyPost_ret (v := .tuple #[.int .i64 0, .int .i64 0, .bool false]) (by simp [results, Try.results36, go_sem]) rfl ⟨rfl, hb2⟩
set_option maxRecDepth 100000 in
set_option maxHeartbeats 1600000 in
theorem specMean_ok (v : Value) (ps : List Pu) (c : Int) (w : World) (h : RowsR 5 puC w v ps) (hs : ∀ p ∈ ps, p.name.size ≤ maxLen) (ho : okL ps) (hc : 0 ≤ c ∧ c ≤ 9) (q1 q2 : Nat) (t : Bool) (hq : MeanF (memC c ps) true q1 q2 t) :
    Calls Try.prog 36 #[v, .int .i64 c] w fun e w' => e = .returned (.tuple #[.int .i64 (q1 : Int), .int .i64 (q2 : Int), .bool t]) ∧ Below w.heap.size w w' := by
  have hl := okL_len ho
  have HC := Lib.hid (l3Good_yes v ps w h hs (by omega) ho)
  obtain ⟨a, cp, rfl⟩ := h.form
  have R1 := Lib.hid h.at
  have HOK := Lib.hid ho
  have HQ := Lib.hid hq
  clear h hs ho hq
  go_enter Try.func36, Try.ntmps36
  go_wp2_with fail
  refine HC.out.mono ?_
  rintro e w2 ⟨rfl, hb2⟩
  have HB := Lib.hid hb2
  clear hb2
  go_wp2_with fail
  refine (l1In_yesq _ _ _ _ hc).mono ?_
  rintro e w' ⟨rfl, hw⟩
  subst w'
  clear hc
  go_wp2_with fail
  go_loopw [7, 8, 9] (fun sm nn i wr => ∃ k S m : Nat, k ≤ ps.length ∧ i = .int .i64 k ∧ sm = .int .i64 (S : Int) ∧ nn = .int .i64 (m : Int) ∧ S ≤ 10 * k ∧ m ≤ k ∧ Hid (sumN (memC c (ps.take k)) = S ∧ (memC c (ps.take k)).length = m) ∧ Below w.heap.size w wr) (fun _ _ i _ => ps.length - (intOf i).toNat)
  case atStart => exact ⟨0, 0, 0, Nat.zero_le _, rfl, rfl, rfl, by omega, by omega, Lib.hid ⟨rfl, rfl⟩, HB.out⟩
  case round =>
    obtain ⟨k, S, m, hk, rfl, rfl, rfl, hS, hm, HSM, hb⟩ := hrel
    have HB2 := Lib.hid hb
    by_cases hlt : k < ps.length
    · have z1 : (0 : Int) ≤ (k : Int) := by omega
      have z2 : (k : Int) < (ps.length : Int) := by omega
      obtain ⟨l, hl1, hl2, hl3⟩ := lvl_nat (HOK.out.1 k hlt).1
      obtain ⟨b1, o1, rfl, l1, k1⟩ := R1.out _ hb k hlt
      have p3 : wr.cell? ⟨b1, o1 + k * 5 + 3, none⟩ = some (.int .i64 ps[k].cls) := k1 3 (by omega)
      have p4 : wr.cell? ⟨b1, o1 + k * 5 + 4, none⟩ = some (.int .i64 (l : Int)) := by rw [← hl1]; exact k1 4 (by omega)
      have HL2 := Lib.hid hl2
      clear hb k1 hl1 hl2
      by_cases hq : ps[k].cls = c
      · have HE := Lib.hid (memC_yes c ps k hlt hq)
        rw [hq] at p3
        have hcc : (c == c) = true := by simp
        clear hq
        go_wp2_with fail
        go_roundw
        case rel => exact ⟨k + 1, S + l, m + 1, by omega, by go_num, by go_num, by go_num, by omega, by omega, Lib.hid ⟨by rw [HE.out, sumN_snoc, HSM.out.1, HL2.out], by rw [HE.out, List.length_append, HSM.out.2]; rfl⟩, HB2.out⟩
        case measure => simp [intOf]; omega
      · have HE := Lib.hid (memC_no c ps k hlt hq)
        have hcc : (ps[k].cls == c) = false := by rw [beq_eq_false_iff_ne]; exact hq
        clear hq
        go_wp2_with fail
        go_roundw
        case rel => exact ⟨k + 1, S, m, by omega, by go_num, rfl, rfl, by omega, by omega, Lib.hid ⟨by rw [HE.out, HSM.out.1], by rw [HE.out, HSM.out.2]⟩, HB2.out⟩
        case measure => simp [intOf]; omega
    · have HE : Hid (sumN (memC c ps) = S ∧ (memC c ps).length = m) := Lib.hid (by have := HSM.out; rwa [List.take_of_length_le (by omega)] at this)
      clear hb
      by_cases hm0 : m = 0
      · subst hm0
        have HT : Hid (t = false ∧ q1 = 0 ∧ q2 = 0) := Lib.hid (by
          rcases HQ.out with ⟨_, h0, _⟩ | ⟨_, h1, h2, h3⟩
          · have := HE.out.2; omega
          · exact ⟨h1, h2, h3⟩)
        go_wp2_with fail
        exact bodyPost_ret (v := .tuple #[.int .i64 0, .int .i64 0, .bool false]) (by simp [results, Try.results36, go_sem]) rfl ⟨by rw [HT.out.1, HT.out.2.1, HT.out.2.2]; rfl, HB2.out⟩
      · have HT : Hid (t = true ∧ S / Nat.gcd S m = q1 ∧ m / Nat.gcd S m = q2) := Lib.hid (by
          rcases HQ.out with ⟨_, _, h1, h2, h3⟩ | ⟨h0, _⟩
          · rw [HE.out.1, HE.out.2] at h2 h3; exact ⟨h1, h2, h3⟩
          · have := HE.out.2; rcases h0 with h0 | h0
            · simp at h0
            · omega)
        have hmb : ((m : Int) == 0) = false := by simp; omega
        have hmb' : ¬ (m : Int) = 0 := by omega
        have hm1 : 1 ≤ m := by omega
        clear hm0
        go_wp2_with fail
        refine (l2Reduce_any S m _ (by omega) hm1 (by omega) q1 q2 HT.out.2.1 HT.out.2.2).mono ?_
        rintro e w3 ⟨rfl, hb3⟩
        have HB3 : Hid (Below w.heap.size w w3) := Lib.hid (HB2.out.trans (hb3.mono HB2.out.size))
        clear hb3
        go_wp2_with fail
        exact bodyPost_ret (v := .tuple #[.int .i64 (q1 : Int), .int .i64 (q2 : Int), .bool true]) (by simp [results, Try.results36, go_sem]) rfl ⟨by rw [HT.out.1], HB3.out⟩
set_option maxRecDepth 100000 in
set_option maxHeartbeats 1600000 in
theorem implMean_any (v : Value) (ps : List Pu) (c : Int) (w : World) (h : RowsR 5 puC w v ps) (hs : ∀ p ∈ ps, p.name.size ≤ maxLen) (ms : List Pu) (r : Bool) (hm : MemF ps c ms r) (q1 q2 : Nat) (t : Bool) (hq : MeanF ms r q1 q2 t) :
    Calls Try.prog 35 #[v, .int .i64 c] w fun e w' => e = .returned (.tuple #[.int .i64 (q1 : Int), .int .i64 (q2 : Int), .bool t]) ∧ Below w.heap.size w w' := by
  have hl := memF_len hm
  have HC := Lib.hid (membersOf_any v ps c w h hs ms r hm)
  have HOK := Lib.hid (memF_ok hm)
  clear h hs hm
  by_cases hr : r = true ∧ 0 < ms.length
  · obtain ⟨rfl, h0⟩ := hr
    have HQ : Hid (t = true ∧ sumN ms / Nat.gcd (sumN ms) ms.length = q1 ∧ ms.length / Nat.gcd (sumN ms) ms.length = q2) := Lib.hid (by
      rcases hq with ⟨_, _, h1, h2, h3⟩ | ⟨h0', _⟩
      · exact ⟨h1, h2, h3⟩
      · rcases h0' with h0' | h0'
        · simp at h0'
        · omega)
    clear hq
    have hmb : ((ms.length : Int) == 0) = false := by simp; intro e; subst e; simp at h0
    have hmb' : ¬ (ms.length : Int) = 0 := by omega
    go_enter Try.func35, Try.ntmps35
    go_wp2_with fail
    refine HC.out.mono ?_
    rintro e w2 ⟨⟨sm, rfl, ho⟩, hb2⟩
    have HR := Lib.hid (RowsR.of_own puC_len ho)
    obtain ⟨a, cp, rfl⟩ := own_form ho
    have R1 := Lib.hid HR.out.at
    have HB := Lib.hid hb2
    clear hb2 ho
    go_wp2_with fail
    go_loopw [9, 29] (fun sm i wr => ∃ k S : Nat, k ≤ ms.length ∧ i = .int .i64 k ∧ sm = .int .i64 (S : Int) ∧ S ≤ 10 * k ∧ Hid (sumN (ms.take k) = S) ∧ Below w2.heap.size w2 wr) (fun _ i _ => ms.length - (intOf i).toNat)
    case atStart => exact ⟨0, 0, Nat.zero_le _, rfl, rfl, by omega, Lib.hid rfl, Below.refl _ _⟩
    case round =>
      obtain ⟨k, S, hk, rfl, rfl, hS, HSM, hb⟩ := hrel
      have HB2 := Lib.hid hb
      by_cases hlt : k < ms.length
      · have z1 : (0 : Int) ≤ (k : Int) := by omega
        have z2 : (k : Int) < (ms.length : Int) := by omega
        obtain ⟨l, hl1, hl2, hl3⟩ := lvl_nat (HOK.out k hlt)
        obtain ⟨b1, o1, rfl, l1, k1⟩ := R1.out _ hb k hlt
        have p0 : wr.cell? ⟨b1, o1 + k * 5, none⟩ = some (.int .i64 ms[k].id) := k1 0 (by omega)
        have p1 : wr.cell? ⟨b1, o1 + k * 5 + 1, none⟩ = some (.string ms[k].name) := k1 1 (by omega)
        have p2 : wr.cell? ⟨b1, o1 + k * 5 + 2, none⟩ = some (.int .i64 ms[k].born) := k1 2 (by omega)
        have p3 : wr.cell? ⟨b1, o1 + k * 5 + 3, none⟩ = some (.int .i64 ms[k].cls) := k1 3 (by omega)
        have p4 : wr.cell? ⟨b1, o1 + k * 5 + 4, none⟩ = some (.int .i64 (l : Int)) := by rw [← hl1]; exact k1 4 (by omega)
        have HE : Hid (sumN (ms.take (k + 1)) = S + l) := Lib.hid (by rw [List.take_succ_eq_append_getElem hlt, sumN_snoc, HSM.out, hl2])
        clear hb k1 hl1 hl2
        go_wp2_with fail
        go_roundw
        case rel => exact ⟨k + 1, S + l, by omega, by go_num, by go_num, by omega, HE, HB2.out.alloc HB2.out.size _⟩
        case measure => simp [intOf]; omega
      · have HE : Hid (sumN ms = S) := Lib.hid (by have := HSM.out; rwa [List.take_of_length_le (by omega)] at this)
        have HT : Hid (t = true ∧ S / Nat.gcd S ms.length = q1 ∧ ms.length / Nat.gcd S ms.length = q2) := Lib.hid (by have := HQ.out; rwa [HE.out] at this)
        clear hb
        go_wp2_with fail
        refine (lowest_any S ms.length _ (by omega) h0 (by omega) q1 q2 HT.out.2.1 HT.out.2.2).mono ?_
        rintro e w3 ⟨rfl, hb3⟩
        have HB3 : Hid (Below w.heap.size w w3) := Lib.hid ((HB.out.trans (HB2.out.mono HB.out.size)).trans (hb3.mono (Nat.le_trans HB.out.size HB2.out.size)))
        clear hb3
        go_wp2_with fail
        exact bodyPost_ret (v := .tuple #[.int .i64 (q1 : Int), .int .i64 (q2 : Int), .bool true]) (by simp [results, Try.results35, go_sem]) rfl ⟨by rw [HT.out.1], HB3.out⟩
  · have HT : Hid (t = false ∧ q1 = 0 ∧ q2 = 0) := Lib.hid (by
      rcases hq with ⟨h1, h0, _⟩ | ⟨_, h1, h2, h3⟩
      · exact absurd ⟨h1, h0⟩ hr
      · exact ⟨h1, h2, h3⟩)
    clear hq
    cases r with
    | false =>
      clear hr
      go_enter Try.func35, Try.ntmps35
      go_wp2_with fail
      refine HC.out.mono ?_
      rintro e w2 ⟨⟨sm, rfl, ho⟩, hb2⟩
      obtain ⟨a, cp, rfl⟩ := own_form ho
      clear ho
      go_wp2_with fail
      exact bodyPost_ret (v := .tuple #[.int .i64 0, .int .i64 0, .bool false]) (by simp [results, Try.results35, go_sem]) rfl ⟨by rw [HT.out.1, HT.out.2.1, HT.out.2.2]; rfl, hb2⟩
    | true =>
      obtain rfl : ms = [] := List.length_eq_zero_iff.1 (by have : ¬ 0 < ms.length := fun h' => hr ⟨rfl, h'⟩; omega)
      clear hr
      go_enter Try.func35, Try.ntmps35
      go_wp2_with fail
      refine HC.out.mono ?_
      rintro e w2 ⟨⟨sm, rfl, ho⟩, hb2⟩
      obtain ⟨a, cp, rfl⟩ := own_form ho
      clear ho
      go_wp2_with fail
      exact bodyPost_ret (v := .tuple #[.int .i64 0, .int .i64 0, .bool false]) (by simp [results, Try.results35, go_sem]) rfl ⟨by rw [HT.out.1, HT.out.2.1, HT.out.2.2]; rfl, hb2⟩
end Go.Proofs.Ytlhcediejccieaa
