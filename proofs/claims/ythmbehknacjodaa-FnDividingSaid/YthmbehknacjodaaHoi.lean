/- The program's counting of a step. -/
import Derived.Test.YthmbehknacjodaaCon
import Derived.Test.YthmbehknacjodaaInts
import Derived.Test.YthmbehknacjodaaKt
namespace Go.Proofs.Ythmbehknacjodaa
set_option linter.unusedVariables false
open Go.RowKit

theorem Try.infoI8 : (Try.prog.info? 3).map (fun i => (i.zero, i.size, i.bytes)) = some (some (.int .i64 0), 1, 8) := by kernel_rfl
/-- The numbers while a step is taken. -/
def cdL (N m : Int) (k : Nat) : List Int := (List.range k).map fun (i : Nat) => N - ((i : Int) + 1) * m
theorem cdL_len (N m : Int) (k : Nat) : (cdL N m k).length = k := by simp [cdL]
theorem cdL_at (N m : Int) (k i : Nat) (h : i < (cdL N m k).length) : (cdL N m k)[i] = N - ((i : Int) + 1) * m := by simp [cdL]
theorem cdL_snoc (N m : Int) (k : Nat) : cdL N m (k + 1) = cdL N m k ++ [N - ((k : Int) + 1) * m] := by unfold cdL; rw [List.range_succ, List.map_append]; rfl
theorem cd_le {N m : Int} (hm : 1 ≤ m) (j : Nat) : (j : Int) ≤ N / m ↔ 0 ≤ N - (j : Int) * m := by
  rw [Int.le_ediv_iff_mul_le (by omega)]; omega
/-- That a step can be taken from a frame. -/
def canH (up lo : Int) (rs : List (Int × Int)) (m : Int) : Prop := goodF up lo rs ∧ stdF rs ∧ 1 ≤ m

set_option maxRecDepth 100000 in
set_option maxHeartbeats 1600000 in
theorem timesOf_std (up lo : Int) (sv : Value) (rs : List (Int × Int)) (m : Int) (w : World) (h : RodsR w sv rs) (hc : ¬ (goodF up lo rs ∧ stdF rs)) :
    Calls Try.prog 108 #[.agg #[.int .i64 up, .int .i64 lo, sv], .int .i64 m] w fun e w' => e = .returned (.tuple #[.int .i64 0, .int .i64 0, .bool false]) ∧ Below w.heap.size w w' := by
  obtain ⟨a, cp, rfl⟩ : ∃ a c, sv = .slice a rs.length c := by obtain ⟨a, c, e, _⟩ := h; exact ⟨a, c, e⟩
  have hm : rs.length ≤ 9223372036854775807 := by obtain ⟨_, _, _, ⟨m, _⟩, _⟩ := h; exact m
  obtain ⟨st, t0, hst, hS⟩ := stdI_any up lo rs
  have HS := Lib.hid hS
  obtain rfl : st = false := by cases st with | true => exact absurd (hst.1 rfl) hc | false => rfl
  have HB0 : Hid (Below w.heap.size w w) := Lib.hid (Below.refl _ _)
  have HRf0 := Lib.hid (h)
  clear h hS hst hc
  go_enter Try.func108, Try.ntmps108
  go_wp2_with fail
  have hb : Below w.heap.size w (w.alloc (.cells #[.int .i64 up, .int .i64 lo, .slice a rs.length cp] 42)) := (Below.refl _ _).alloc (Nat.le_refl _) _
  have hk : (w.alloc (.cells #[.int .i64 up, .int .i64 lo, .slice a rs.length cp] 42)).heap[w.heap.size]? = some (.cells #[.int .i64 up, .int .i64 lo, .slice a rs.length cp] 42 (0, 0)) := alloc_at rfl
  have hz : (w.alloc (.cells #[.int .i64 up, .int .i64 lo, .slice a rs.length cp] 42)).heap.size = w.heap.size + 1 := by simp
  generalize w.alloc (.cells #[.int .i64 up, .int .i64 lo, .slice a rs.length cp] 42) = w1 at hb hk hz ⊢
  have HB1 : Hid (Below w.heap.size w w1) := Lib.hid (HB0.out.trans (hb.mono HB0.out.size))
  have HZ1 : Hid (w.heap.size ≤ w1.heap.size) := Lib.hid hb.size
  have HRf1 := Lib.hid (HRf0.out.below HB1.out (Nat.le_refl _))
  have HKf1 := Lib.hid hk
  replace HZ1 : Hid (w.heap.size < w1.heap.size) := Lib.hid (by omega)
  have HE1 := Lib.hid hz
  clear hb hk hz
  refine (HS.out _ _ HRf1.out).mono ?_
  rintro e w2 ⟨rfl, hb⟩
  have HB2 : Hid (Below w.heap.size w w2) := Lib.hid (HB1.out.trans (hb.mono HB1.out.size))
  have HZ2 : Hid (w1.heap.size ≤ w2.heap.size) := Lib.hid hb.size
  have HRf2 := Lib.hid (HRf0.out.below HB2.out (Nat.le_refl _))
  have HKf2 := Lib.hid ((hb.block _ (lt_of_block HKf1.out)).trans HKf1.out)
  clear hb
  have ltf := lt_of_block HKf2.out
  obtain ⟨cf0, cf1, cf2, ff0, ff1, ff2⟩ := cell3 HKf2.out
  go_wp2_with fail
  exact bodyPost_ret (v := .tuple #[.int .i64 0, .int .i64 0, .bool false]) (by simp [results, Try.results108, go_sem]) rfl ⟨rfl, HB2.out⟩
set_option maxRecDepth 100000 in
set_option maxHeartbeats 1600000 in
theorem timesOf_step (up lo : Int) (sv : Value) (rs : List (Int × Int)) (m : Int) (w : World) (h : RodsR w sv rs) (hc : goodF up lo rs ∧ stdF rs) (h1 : m < 1) :
    Calls Try.prog 108 #[.agg #[.int .i64 up, .int .i64 lo, sv], .int .i64 m] w fun e w' => e = .returned (.tuple #[.int .i64 0, .int .i64 0, .bool false]) ∧ Below w.heap.size w w' := by
  obtain ⟨a, cp, rfl⟩ : ∃ a c, sv = .slice a rs.length c := by obtain ⟨a, c, e, _⟩ := h; exact ⟨a, c, e⟩
  have hm : rs.length ≤ 9223372036854775807 := by obtain ⟨_, _, _, ⟨m, _⟩, _⟩ := h; exact m
  obtain ⟨st, t0, hst, hS⟩ := stdI_any up lo rs
  have HS := Lib.hid hS
  obtain rfl : st = true := hst.2 hc
  have HB0 : Hid (Below w.heap.size w w) := Lib.hid (Below.refl _ _)
  have HRf0 := Lib.hid (h)
  clear h hS hst hc
  go_enter Try.func108, Try.ntmps108
  go_wp2_with fail
  have hb : Below w.heap.size w (w.alloc (.cells #[.int .i64 up, .int .i64 lo, .slice a rs.length cp] 42)) := (Below.refl _ _).alloc (Nat.le_refl _) _
  have hk : (w.alloc (.cells #[.int .i64 up, .int .i64 lo, .slice a rs.length cp] 42)).heap[w.heap.size]? = some (.cells #[.int .i64 up, .int .i64 lo, .slice a rs.length cp] 42 (0, 0)) := alloc_at rfl
  have hz : (w.alloc (.cells #[.int .i64 up, .int .i64 lo, .slice a rs.length cp] 42)).heap.size = w.heap.size + 1 := by simp
  generalize w.alloc (.cells #[.int .i64 up, .int .i64 lo, .slice a rs.length cp] 42) = w1 at hb hk hz ⊢
  have HB1 : Hid (Below w.heap.size w w1) := Lib.hid (HB0.out.trans (hb.mono HB0.out.size))
  have HZ1 : Hid (w.heap.size ≤ w1.heap.size) := Lib.hid hb.size
  have HRf1 := Lib.hid (HRf0.out.below HB1.out (Nat.le_refl _))
  have HKf1 := Lib.hid hk
  replace HZ1 : Hid (w.heap.size < w1.heap.size) := Lib.hid (by omega)
  have HE1 := Lib.hid hz
  clear hb hk hz
  refine (HS.out _ _ HRf1.out).mono ?_
  rintro e w2 ⟨rfl, hb⟩
  have HB2 : Hid (Below w.heap.size w w2) := Lib.hid (HB1.out.trans (hb.mono HB1.out.size))
  have HZ2 : Hid (w1.heap.size ≤ w2.heap.size) := Lib.hid hb.size
  have HRf2 := Lib.hid (HRf0.out.below HB2.out (Nat.le_refl _))
  have HKf2 := Lib.hid ((hb.block _ (lt_of_block HKf1.out)).trans HKf1.out)
  clear hb
  have ltf := lt_of_block HKf2.out
  obtain ⟨cf0, cf1, cf2, ff0, ff1, ff2⟩ := cell3 HKf2.out
  go_wp2_with fail
  exact bodyPost_ret (v := .tuple #[.int .i64 0, .int .i64 0, .bool false]) (by simp [results, Try.results108, go_sem]) rfl ⟨rfl, HB2.out⟩
theorem timesOf_no (up lo : Int) (sv : Value) (rs : List (Int × Int)) (m : Int) (w : World) (h : RodsR w sv rs) (hc : ¬ canH up lo rs m) :
    Calls Try.prog 108 #[.agg #[.int .i64 up, .int .i64 lo, sv], .int .i64 m] w fun e w' => e = .returned (.tuple #[.int .i64 0, .int .i64 0, .bool false]) ∧ Below w.heap.size w w' := by
  by_cases hs : goodF up lo rs ∧ stdF rs
  · exact timesOf_step up lo sv rs m w h hs (by rcases Int.lt_or_le m 1 with h' | h'; exact h'; exact absurd ⟨hs.1, hs.2, h'⟩ hc)
  · exact timesOf_std up lo sv rs m w h hs

set_option maxRecDepth 100000 in
set_option maxHeartbeats 1600000 in
theorem timesOf_yes (up lo : Int) (sv : Value) (rs : List (Int × Int)) (m : Int) (w : World) (h : RodsR w sv rs) (hc : canH up lo rs m) :
    Calls Try.prog 108 #[.agg #[.int .i64 up, .int .i64 lo, sv], .int .i64 m] w fun e w' => e = .returned (.tuple #[.int .i64 (numF rs), .int .i64 (numF rs / m), .bool true]) ∧ Below w.heap.size w w' := by
  obtain ⟨a, cp, rfl⟩ : ∃ a c, sv = .slice a rs.length c := by obtain ⟨a, c, e, _⟩ := h; exact ⟨a, c, e⟩
  have hm : rs.length ≤ 9223372036854775807 := by obtain ⟨_, _, _, ⟨m, _⟩, _⟩ := h; exact m
  have h1 := hc.2.2
  have hlt1 : decide (m < 1) = false := decide_eq_false (by omega)
  obtain ⟨N, hN⟩ : ∃ N, N = numF rs := ⟨_, rfl⟩
  have hnb := numF_top up lo rs hc.1
  rw [← hN] at hnb
  have HNN := Lib.hid hN
  have y3 : (m == 0) = false := beq_eq_false_iff_ne.2 (by omega)
  have y4 : m ≠ 0 := by omega
  have hdb : 0 ≤ N / m ∧ N / m ≤ N := ⟨Int.ediv_nonneg hnb.1 (by omega), Int.ediv_le_self _ hnb.1⟩
  obtain ⟨T, hT⟩ : ∃ T, IntKind.i64.wrap (N.tdiv m) = T := ⟨_, rfl⟩
  have hTe : T = N / m := by rw [← hT, Int.tdiv_eq_ediv_of_nonneg hnb.1, IntKind.wrap_i64]; omega
  have HTE := Lib.hid hTe
  have hTb : 0 ≤ T ∧ T ≤ 200000000 := by omega
  clear hdb
  rw [← hN, ← hTe]
  obtain ⟨st, t0, hst, hS⟩ := stdI_any up lo rs
  have HS := Lib.hid hS
  obtain rfl : st = true := hst.2 ⟨hc.1, hc.2.1⟩
  have HNB : Hid (∀ k, k ≤ rs.length → -1000000000000 ≤ numF (rs.take k) ∧ numF (rs.take k) ≤ 1000000000000) := Lib.hid (fun k hk => by have := numF_max up lo rs hc.1 k hk; omega)
  have HD : Hid (∀ k (h : k < rs.length), (-1000 ≤ rs[k].1 ∧ rs[k].1 ≤ 1000) ∧ (-1000 ≤ rs[k].2 ∧ rs[k].2 ≤ 1000)) := Lib.hid (fun k hk => by
    have h1 := hc.1.1 k hk; have h2 := hc.1.2.1; have h3 := hc.1.2.2.1; unfold rodOk at h1; omega)
  have HB0 : Hid (Below w.heap.size w w) := Lib.hid (Below.refl _ _)
  have HRf0 := Lib.hid (h)
  clear h hS hst hc hN hTe h1
  go_enter Try.func108, Try.ntmps108
  go_wp2_with fail
  have hb : Below w.heap.size w (w.alloc (.cells #[.int .i64 up, .int .i64 lo, .slice a rs.length cp] 42)) := (Below.refl _ _).alloc (Nat.le_refl _) _
  have hk : (w.alloc (.cells #[.int .i64 up, .int .i64 lo, .slice a rs.length cp] 42)).heap[w.heap.size]? = some (.cells #[.int .i64 up, .int .i64 lo, .slice a rs.length cp] 42 (0, 0)) := alloc_at rfl
  have hz : (w.alloc (.cells #[.int .i64 up, .int .i64 lo, .slice a rs.length cp] 42)).heap.size = w.heap.size + 1 := by simp
  generalize w.alloc (.cells #[.int .i64 up, .int .i64 lo, .slice a rs.length cp] 42) = w1 at hb hk hz ⊢
  have HB1 : Hid (Below w.heap.size w w1) := Lib.hid (HB0.out.trans (hb.mono HB0.out.size))
  have HZ1 : Hid (w.heap.size ≤ w1.heap.size) := Lib.hid hb.size
  have HRf1 := Lib.hid (HRf0.out.below HB1.out (Nat.le_refl _))
  have HKf1 := Lib.hid hk
  replace HZ1 : Hid (w.heap.size < w1.heap.size) := Lib.hid (by omega)
  have HE1 := Lib.hid hz
  clear hb hk hz
  refine (HS.out _ _ HRf1.out).mono ?_
  rintro e w2 ⟨rfl, hb⟩
  have HB2 : Hid (Below w.heap.size w w2) := Lib.hid (HB1.out.trans (hb.mono HB1.out.size))
  have HZ2 : Hid (w1.heap.size ≤ w2.heap.size) := Lib.hid hb.size
  have HRf2 := Lib.hid (HRf0.out.below HB2.out (Nat.le_refl _))
  have HKf2 := Lib.hid ((hb.block _ (lt_of_block HKf1.out)).trans HKf1.out)
  clear hb
  have ltf := lt_of_block HKf2.out
  obtain ⟨cf0, cf1, cf2, ff0, ff1, ff2⟩ := cell3 HKf2.out
  go_wp2_with fail
  refine (numberOf_any _ rs _ HRf2.out HD.out HNB.out).mono ?_
  rintro e w3 ⟨rfl, hb⟩
  have HB3 : Hid (Below w.heap.size w w3) := Lib.hid (HB2.out.trans (hb.mono HB2.out.size))
  have HZ3 : Hid (w2.heap.size ≤ w3.heap.size) := Lib.hid hb.size
  have HRf3 := Lib.hid (HRf0.out.below HB3.out (Nat.le_refl _))
  have HKf3 := Lib.hid ((hb.block _ (lt_of_block HKf2.out)).trans HKf2.out)
  clear hb
  rw [← HNN.out]
  clear cf0 cf1 cf2 ff0 ff1 ff2 ltf
  have ltf := lt_of_block HKf3.out
  obtain ⟨cf0, cf1, cf2, ff0, ff1, ff2⟩ := cell3 HKf3.out
  go_wp2_with fail
  refine wp_region_held_drew (S := (fun _ => True)) (by kernel_rfl) (True.intro) (fun hHeld => ?_)
  have hb : Below w3.heap.size w3 w3.drew := (Below.refl _ _).drew
  generalize w3.drew = w4 at hb hHeld ⊢
  have HB4 : Hid (Below w.heap.size w w4) := Lib.hid (HB3.out.trans (hb.mono HB3.out.size))
  have HZ4 : Hid (w3.heap.size ≤ w4.heap.size) := Lib.hid hb.size
  have HRf4 := Lib.hid (HRf0.out.below HB4.out (Nat.le_refl _))
  have HKf4 := Lib.hid ((hb.block _ (lt_of_block HKf3.out)).trans HKf3.out)
  clear hb
  refine take1 (i := 0) (v := ?v1) (some 24) rfl rfl (by kernel_rfl) (by kernel_rfl) (by kernel_rfl) (fun _ _ _ h => h) (Or.inl ⟨by rfl, ?y1⟩) (by assumption) ?r1
  case y1 => (intro w hSw; (try dsimp only at hSw); go_simp; (first | done | with_reducible rfl))
  try simp only [Act.put, List.setIfInBounds_toArray, List.set_cons_zero, List.set_cons_succ]
  refine take1 (i := 1) (v := ?v2) (some 25) rfl rfl (by kernel_rfl) (by kernel_rfl) (by kernel_rfl) (fun _ _ _ h => h) (Or.inl ⟨by rfl, ?y2⟩) (by assumption) ?r2
  case y2 => (intro w hSw; (try dsimp only at hSw); go_simp; (first | done | with_reducible rfl))
  try simp only [Act.put, List.setIfInBounds_toArray, List.set_cons_zero, List.set_cons_succ]
  refine take1 (i := 2) (v := ?v3) (some 26) rfl rfl (by kernel_rfl) (by kernel_rfl) (by kernel_rfl) (fun _ _ _ h => h) (Or.inl ⟨by rfl, ?y3⟩) (by assumption) ?r3
  case y3 => (intro w hSw; (try dsimp only at hSw); go_simp; (first | done | with_reducible rfl))
  try simp only [Act.put, List.setIfInBounds_toArray, List.set_cons_zero, List.set_cons_succ]
  refine take1 (i := 3) (v := ?v4) (some 27) rfl rfl (by kernel_rfl) (by kernel_rfl) (by kernel_rfl) (fun _ _ _ h => h) (Or.inl ⟨by rfl, ?y4⟩) (by assumption) ?r4
  case y4 => (intro w hSw; (try dsimp only at hSw); go_simp; (first | done | with_reducible rfl))
  try simp only [Act.put, List.setIfInBounds_toArray, List.set_cons_zero, List.set_cons_succ]
  refine take1 (i := 4) (v := ?v5) (some 4) rfl rfl (by kernel_rfl) (by kernel_rfl) (by kernel_rfl) (fun _ _ _ h => h) (Or.inl ⟨by rfl, ?y5⟩) (by assumption) ?r5
  case y5 => (intro w hSw; (try dsimp only at hSw); go_simp; (first | done | with_reducible rfl))
  try simp only [Act.put, List.setIfInBounds_toArray, List.set_cons_zero, List.set_cons_succ]
  refine take1 (i := 5) (v := ?v6) (some 5) rfl rfl (by kernel_rfl) (by kernel_rfl) (by kernel_rfl) (fun _ _ _ h => h) (Or.inl ⟨by rfl, ?y6⟩) (by assumption) ?r6
  case y6 => (intro w hSw; (try dsimp only at hSw); go_simp; (first | done | with_reducible rfl))
  try simp only [Act.put, List.setIfInBounds_toArray, List.set_cons_zero, List.set_cons_succ]
  refine take1 (i := 6) (v := ?v7) (some 6) rfl rfl (by kernel_rfl) (by kernel_rfl) (by kernel_rfl) (fun _ _ _ h => h) (Or.inl ⟨by rfl, ?y7⟩) (by assumption) ?r7
  case y7 => (intro w hSw; (try dsimp only at hSw); go_simp; (first | done | with_reducible rfl))
  try simp only [Act.put, List.setIfInBounds_toArray, List.set_cons_zero, List.set_cons_succ]
  refine wpAnyH_done (by kernel_rfl) ?_ _
  go_wp2_with fail
  exact bodyPost_ret (v := .tuple #[.int .i64 N, .int .i64 T, .bool true]) (by simp [results, Try.results108, go_sem]) rfl ⟨rfl, HB4.out⟩
end Go.Proofs.Ythmbehknacjodaa
