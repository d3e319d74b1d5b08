/- The program's kinds of the rule for adding. -/
import Derived.Test.YthmbehknacjodaaKd
import Derived.Test.YthmbehknacjodaaIScal
import Derived.Test.YthmbehknacjodaaKa
namespace Go.Proofs.Ythmbehknacjodaa
set_option linter.unusedVariables false
open Go.RowKit

def kindP (v d : Int) : Nat := if d / 5 ≤ (9 - v) / 5 ∧ d % 5 ≤ (9 - v) % 5 then 0 else if v + d ≤ 9 then 1 else if (10 - d) / 5 ≤ v / 5 ∧ (10 - d) % 5 ≤ v % 5 then 2 else 3
theorem kindP_fin : ∀ (a b : Fin 10), 1 ≤ b.val → kindA (a.val : Int) (b.val : Int) = kindP (a.val : Int) (b.val : Int) := by decide +kernel
theorem kindP_eq (v d : Int) (hv : 0 ≤ v ∧ v ≤ 9) (hd : 1 ≤ d ∧ d ≤ 9) : kindA v d = kindP v d := by
  have := kindP_fin ⟨v.toNat, by omega⟩ ⟨d.toNat, by omega⟩ (by show 1 ≤ d.toNat; omega)
  rwa [show ((v.toNat : Nat) : Int) = v by omega, show ((d.toNat : Nat) : Int) = d by omega] at this
theorem kindA_lt (v d : Int) : kindA v d < 4 := by unfold kindA; split; omega; split; omega; split <;> omega
theorem standardRod_dig (d : Int) (w : World) (h : 0 ≤ d ∧ d ≤ 1000) :
    Calls Try.prog 117 #[.int .i64 d] w fun e w' => e = .returned (.agg #[.int .i64 (d / 5), .int .i64 (d % 5)]) ∧ Below w.heap.size w w' := standardRod_any d w h

set_option maxRecDepth 100000 in
set_option maxHeartbeats 1600000 in
theorem kindOf_any (v d : Int) (w : World) (hv : 0 ≤ v ∧ v ≤ 9) (hd : 1 ≤ d ∧ d ≤ 9) :
    Calls Try.prog 136 #[.int .i64 v, .int .i64 d] w fun e w' => e = .returned (.int .i64 ((kindA v d : Nat) : Int)) ∧ Below w.heap.size w w' := by
  have HK := Lib.hid (kindP_eq v d hv hd)
  obtain ⟨hv0, hv1⟩ := hv
  obtain ⟨hd0, hd1⟩ := hd
  obtain ⟨a, ha⟩ : ∃ a, a = (9 - v) / 5 := ⟨_, rfl⟩
  obtain ⟨b, hb⟩ : ∃ b, b = (9 - v) % 5 := ⟨_, rfl⟩
  obtain ⟨x, hx⟩ : ∃ x, x = d / 5 := ⟨_, rfl⟩
  obtain ⟨y, hy⟩ : ∃ y, y = d % 5 := ⟨_, rfl⟩
  have HA := Lib.hid ha
  have HB' := Lib.hid hb
  have HX := Lib.hid hx
  have HY := Lib.hid hy
  clear ha hb hx hy
  have HB0 : Hid (Below w.heap.size w w) := Lib.hid (Below.refl _ _)
  go_enter Try.func136, Try.ntmps136
  go_wp2_with fail
  refine (standardRod_any (9 - v) _ ⟨by omega, by omega⟩).mono ?_
  rintro e w1 ⟨rfl, hb⟩
  have HB1 : Hid (Below w.heap.size w w1) := Lib.hid (HB0.out.trans (hb.mono HB0.out.size))
  have HZ1 : Hid (w.heap.size ≤ w1.heap.size) := Lib.hid hb.size
  clear hb
  rw [← HA.out, ← HB'.out]
  go_wp2_with fail
  have hb : Below w1.heap.size w1 (w1.alloc (.cells #[.int .i64 a, .int .i64 b] 77)) := (Below.refl _ _).alloc (Nat.le_refl _) _
  have hk : (w1.alloc (.cells #[.int .i64 a, .int .i64 b] 77)).heap[w1.heap.size]? = some (.cells #[.int .i64 a, .int .i64 b] 77 (0, 0)) := alloc_at rfl
  have hz : (w1.alloc (.cells #[.int .i64 a, .int .i64 b] 77)).heap.size = w1.heap.size + 1 := by simp
  generalize w1.alloc (.cells #[.int .i64 a, .int .i64 b] 77) = w2 at hb hk hz ⊢
  have HB2 : Hid (Below w.heap.size w w2) := Lib.hid (HB1.out.trans (hb.mono HB1.out.size))
  have HZ2 : Hid (w1.heap.size ≤ w2.heap.size) := Lib.hid hb.size
  have HKm2 := Lib.hid hk
  replace HZ2 : Hid (w1.heap.size < w2.heap.size) := Lib.hid (by omega)
  have HE2 := Lib.hid hz
  clear hb hk hz
  have ltm := lt_of_block HKm2.out
  obtain ⟨cm0, cm1, fm0, fm1⟩ := cell2 HKm2.out
  refine wp_region_held_drew (S := (fun u => u.cell? ⟨w1.heap.size, 0, none⟩ = some (.int .i64 a) ∧ u.cell? ⟨w1.heap.size, 1, none⟩ = some (.int .i64 b))) (by kernel_rfl) (⟨cm0, cm1⟩) (fun hHeld => ?_)
  have hb : Below w2.heap.size w2 w2.drew := (Below.refl _ _).drew
  generalize w2.drew = w3 at hb hHeld ⊢
  have HB3 : Hid (Below w.heap.size w w3) := Lib.hid (HB2.out.trans (hb.mono HB2.out.size))
  have HZ3 : Hid (w2.heap.size ≤ w3.heap.size) := Lib.hid hb.size
  have HKm3 := Lib.hid ((hb.block _ (lt_of_block HKm2.out)).trans HKm2.out)
  clear hb
  clear cm0 cm1 fm0 fm1 ltm
  have ltm := lt_of_block HKm3.out
  obtain ⟨cm0, cm1, fm0, fm1⟩ := cell2 HKm3.out
  refine take1 (i := 0) (v := ?v1) (some 10) rfl rfl (by kernel_rfl) (by kernel_rfl) (by kernel_rfl) (fun _ _ _ h => h) (Or.inl ⟨by rfl, ?y1⟩) (by assumption) ?r1
  case y1 => (intro w hSw; (try dsimp only at hSw); go_simp; (first | done | with_reducible rfl))
  try simp only [Act.put, List.setIfInBounds_toArray, List.set_cons_zero, List.set_cons_succ]
  refine take1 (i := 2) (v := ?v2) (some 12) rfl rfl (by kernel_rfl) (by kernel_rfl) (by kernel_rfl) (fun _ _ _ h => h) (Or.inl ⟨by rfl, ?y2⟩) (by assumption) ?r2
  case y2 => (intro w hSw; (try dsimp only at hSw); go_simp; (first | done | with_reducible rfl))
  try simp only [Act.put, List.setIfInBounds_toArray, List.set_cons_zero, List.set_cons_succ]
  refine wpAnyH_ready (rs := [1]) (by kernel_rfl) (by simp) ?_
  refine AllReadyH.cons rfl (fun K hK => ?_) AllReadyH.nil
  go_simp
  go_at_call 117
  refine (standardRod_any d _ ⟨by omega, by omega⟩).mono ?_
  rintro e w4 ⟨rfl, hb⟩
  rw [← HX.out, ← HY.out]
  have HB4 : Hid (Below w.heap.size w w4) := Lib.hid (HB3.out.trans (hb.mono HB3.out.size))
  have HZ4 : Hid (w3.heap.size ≤ w4.heap.size) := Lib.hid hb.size
  have HKm4 := Lib.hid ((hb.block _ (lt_of_block HKm3.out)).trans HKm3.out)
  clear hb
  clear cm0 cm1 fm0 fm1 ltm
  have ltm := lt_of_block HKm4.out
  obtain ⟨cm0, cm1, fm0, fm1⟩ := cell2 HKm4.out
  try go_simp
  refine hK.out _ _ (⟨cm0, cm1⟩) (fun hHeld => ?_)
  clear hK K
  try simp only [Act.put, List.setIfInBounds_toArray, List.set_cons_zero, List.set_cons_succ]
  refine wpAnyH_ready (rs := [3]) (by kernel_rfl) (by simp) ?_
  refine AllReadyH.cons rfl (fun K hK => ?_) AllReadyH.nil
  go_simp
  go_at_call 128
  by_cases h1 : x ≤ a ∧ y ≤ b
  · refine (hasAtMost_yes x y a b _ ⟨⟨by have := HX.out; omega, h1.1⟩, by have := HY.out; omega, h1.2⟩).mono ?_
    rintro e w5 ⟨rfl, hb⟩
    have HR : Hid (kindA v d = 0) := Lib.hid (by rw [HK.out]; unfold kindP; rw [← HA.out, ← HB'.out, ← HX.out, ← HY.out, if_pos h1])
    clear h1
    have HB5 : Hid (Below w.heap.size w w5) := Lib.hid (HB4.out.trans (hb.mono HB4.out.size))
    have HZ5 : Hid (w4.heap.size ≤ w5.heap.size) := Lib.hid hb.size
    have HKm5 := Lib.hid ((hb.block _ (lt_of_block HKm4.out)).trans HKm4.out)
    clear hb
    clear cm0 cm1 fm0 fm1 ltm
    have ltm := lt_of_block HKm5.out
    obtain ⟨cm0, cm1, fm0, fm1⟩ := cell2 HKm5.out
    try go_simp
    refine hK.out _ _ (⟨cm0, cm1⟩) (fun hHeld => ?_)
    clear hK K
    try simp only [Act.put, List.setIfInBounds_toArray, List.set_cons_zero, List.set_cons_succ]
    refine take1 (i := 4) (v := ?v3) (some 9) rfl rfl (by kernel_rfl) (by kernel_rfl) (by kernel_rfl) (fun _ _ _ h => h) (Or.inl ⟨by rfl, ?y3⟩) (by assumption) ?r3
    case y3 => (intro w hSw; (try dsimp only at hSw); go_simp; (first | done | with_reducible rfl))
    try simp only [Act.put, List.setIfInBounds_toArray, List.set_cons_zero, List.set_cons_succ]
    refine wpAnyH_done (by kernel_rfl) ?_ _
    go_wp2_with fail
    go_ret
    exact ⟨ret_int (by rw [HR.out]; rfl), HB5.out⟩
  · refine (hasAtMost_no x y a b _ (fun h => h1 ⟨h.1.2, h.2.2⟩)).mono ?_
    rintro e w5 ⟨rfl, hb⟩
    have HR : Hid (kindA v d = if v + d ≤ 9 then 1 else if (10 - d) / 5 ≤ v / 5 ∧ (10 - d) % 5 ≤ v % 5 then 2 else 3) := Lib.hid (by rw [HK.out]; unfold kindP; rw [← HA.out, ← HB'.out, ← HX.out, ← HY.out, if_neg h1])
    clear h1
    have HB5 : Hid (Below w.heap.size w w5) := Lib.hid (HB4.out.trans (hb.mono HB4.out.size))
    have HZ5 : Hid (w4.heap.size ≤ w5.heap.size) := Lib.hid hb.size
    have HKm5 := Lib.hid ((hb.block _ (lt_of_block HKm4.out)).trans HKm4.out)
    clear hb
    clear cm0 cm1 fm0 fm1 ltm
    have ltm := lt_of_block HKm5.out
    obtain ⟨cm0, cm1, fm0, fm1⟩ := cell2 HKm5.out
    try go_simp
    refine hK.out _ _ (⟨cm0, cm1⟩) (fun hHeld => ?_)
    clear hK K
    try simp only [Act.put, List.setIfInBounds_toArray, List.set_cons_zero, List.set_cons_succ]
    refine take1 (i := 4) (v := ?v4) (some 9) rfl rfl (by kernel_rfl) (by kernel_rfl) (by kernel_rfl) (fun _ _ _ h => h) (Or.inl ⟨by rfl, ?y4⟩) (by assumption) ?r4
    case y4 => (intro w hSw; (try dsimp only at hSw); go_simp; (first | done | with_reducible rfl))
    try simp only [Act.put, List.setIfInBounds_toArray, List.set_cons_zero, List.set_cons_succ]
    refine wpAnyH_done (by kernel_rfl) ?_ _
    by_cases h2 : v + d ≤ 9
    · go_wp2_with fail
      go_ret
      exact ⟨ret_int (by rw [HR.out, if_pos h2]; rfl), HB5.out⟩
    · obtain ⟨p, hp⟩ : ∃ p, p = (10 - d) / 5 := ⟨_, rfl⟩
      obtain ⟨r, hr⟩ : ∃ r, r = (10 - d) % 5 := ⟨_, rfl⟩
      obtain ⟨s, hs⟩ : ∃ s, s = v / 5 := ⟨_, rfl⟩
      obtain ⟨t, ht⟩ : ∃ t, t = v % 5 := ⟨_, rfl⟩
      have HPP := Lib.hid hp
      have HRR := Lib.hid hr
      have HSS := Lib.hid hs
      have HTT := Lib.hid ht
      have HR2 : Hid (kindA v d = if p ≤ s ∧ r ≤ t then 2 else 3) := Lib.hid (by rw [HR.out, if_neg h2, hp, hr, hs, ht])
      clear hp hr hs ht
      go_wp2_with fail
      refine (standardRod_any (10 - d) _ ⟨by omega, by omega⟩).mono ?_
      rintro e w6 ⟨rfl, hb⟩
      have HB6 : Hid (Below w.heap.size w w6) := Lib.hid (HB5.out.trans (hb.mono HB5.out.size))
      have HZ6 : Hid (w5.heap.size ≤ w6.heap.size) := Lib.hid hb.size
      have HKm6 := Lib.hid ((hb.block _ (lt_of_block HKm5.out)).trans HKm5.out)
      clear hb
      rw [← HPP.out, ← HRR.out]
      clear cm0 cm1 fm0 fm1 ltm
      have ltm := lt_of_block HKm6.out
      obtain ⟨cm0, cm1, fm0, fm1⟩ := cell2 HKm6.out
      go_wp2_with fail
      refine (standardRod_any v _ ⟨by omega, by omega⟩).mono ?_
      rintro e w7 ⟨rfl, hb⟩
      have HB7 : Hid (Below w.heap.size w w7) := Lib.hid (HB6.out.trans (hb.mono HB6.out.size))
      have HZ7 : Hid (w6.heap.size ≤ w7.heap.size) := Lib.hid hb.size
      have HKm7 := Lib.hid ((hb.block _ (lt_of_block HKm6.out)).trans HKm6.out)
      clear hb
      rw [← HSS.out, ← HTT.out]
      clear cm0 cm1 fm0 fm1 ltm
      have ltm := lt_of_block HKm7.out
      obtain ⟨cm0, cm1, fm0, fm1⟩ := cell2 HKm7.out
      go_wp2_with fail
      by_cases h3 : p ≤ s ∧ r ≤ t
      · skip
        refine (hasAtMost_yes p r s t _ ⟨⟨by have := HPP.out; omega, h3.1⟩, by have := HRR.out; omega, h3.2⟩).mono ?_
        rintro e w8 ⟨rfl, hb⟩
        have HB8 : Hid (Below w.heap.size w w8) := Lib.hid (HB7.out.trans (hb.mono HB7.out.size))
        have HZ8 : Hid (w7.heap.size ≤ w8.heap.size) := Lib.hid hb.size
        have HKm8 := Lib.hid ((hb.block _ (lt_of_block HKm7.out)).trans HKm7.out)
        clear hb
        have HR3 : Hid (kindA v d = 2) := Lib.hid (by rw [HR2.out, if_pos h3])
        clear h3
        clear cm0 cm1 fm0 fm1 ltm
        have ltm := lt_of_block HKm8.out
        obtain ⟨cm0, cm1, fm0, fm1⟩ := cell2 HKm8.out
        go_wp2_with fail
        go_ret
        exact ⟨ret_int (by rw [HR3.out]; rfl), HB8.out⟩
      · skip
        refine (hasAtMost_no p r s t _ (fun h => h3 ⟨h.1.2, h.2.2⟩)).mono ?_
        rintro e w8 ⟨rfl, hb⟩
        have HB8 : Hid (Below w.heap.size w w8) := Lib.hid (HB7.out.trans (hb.mono HB7.out.size))
        have HZ8 : Hid (w7.heap.size ≤ w8.heap.size) := Lib.hid hb.size
        have HKm8 := Lib.hid ((hb.block _ (lt_of_block HKm7.out)).trans HKm7.out)
        clear hb
        have HR3 : Hid (kindA v d = 3) := Lib.hid (by rw [HR2.out, if_neg h3])
        clear h3
        clear cm0 cm1 fm0 fm1 ltm
        have ltm := lt_of_block HKm8.out
        obtain ⟨cm0, cm1, fm0, fm1⟩ := cell2 HKm8.out
        go_wp2_with fail
        go_ret
        exact ⟨ret_int (by rw [HR3.out]; rfl), HB8.out⟩
end Go.Proofs.Ythmbehknacjodaa
