/- The program's ProperOf, SumOf, DifferenceOf, TimesOf. -/
import Derived.Test.YtghdmiimanhjgaaDoorMm4
namespace Go.Proofs.YtghdmiimanhjgaaDoor
set_option linter.unusedVariables false
open Go.RowKit

set_option maxRecDepth 100000 in
set_option maxHeartbeats 3200000 in
theorem iProper_loop (v : Value) (us : List Un) (n : Int) (w : World) (h : RowsR 2 unC w v us) (hs : ∀ u ∈ us, u.nm.size ≤ maxLen) (hb9 : -9223372036854775808 ≤ n ∧ n ≤ 9223372036854775807) (ho : okS us) (hn0 : 0 ≤ n) (qs : List Int) (r : Bool) (hk : PropF us n qs r) :
    Calls Tryd.prog 27 #[v, .int .i64 n] w fun e w' => (∃ s1, e = .returned (.tuple #[.agg #[s1], .bool r]) ∧ OwA w.heap.size w'.heap.size w' s1 qs) ∧ Below w.heap.size w w' := by
  obtain ⟨i0, hi, hz0, hz1, hz2⟩ := info_parts Tryd.infoI5
  have hu6 : us.length ≤ 6 := ho.1.2
  obtain ⟨a, cp, rfl⟩ := h.form
  obtain ⟨l, hl⟩ : ∃ l, us.length = l + 1 := ⟨us.length - 1, by have := ho.1.1; omega⟩
  have A2 := Lib.hid (szS_at h)
  rw [hl] at h ⊢
  have hl5 : l ≤ 5 := by omega
  have hn9 := hb9.2
  have hn1 : ¬ n < 0 := by omega
  have HL := Lib.hid hl
  have HS := Lib.hid hs
  have HO := Lib.hid ho
  have HK := Lib.hid hk
  have HB0 : Hid (Below w.heap.size w w) := Lib.hid (Below.refl _ _)
  have HRu0 := Lib.hid (h)
  clear h hs ho hk hl hb9 hu6
  go_enter Tryd.func27, Tryd.ntmps27
  go_wp2_with fail
  have hb : Below w.heap.size w (w.alloc (.cells #[.slice none 0 0] 27)) := (Below.refl _ _).alloc (Nat.le_refl _) _
  have hk : (w.alloc (.cells #[.slice none 0 0] 27)).heap[w.heap.size]? = some (.cells #[.slice none 0 0] 27 (0, 0)) := alloc_at rfl
  have hz : (w.alloc (.cells #[.slice none 0 0] 27)).heap.size = w.heap.size + 1 := by simp
  generalize w.alloc (.cells #[.slice none 0 0] 27) = w1 at hb hk hz ⊢
  have HB1 : Hid (Below w.heap.size w w1) := Lib.hid (HB0.out.trans (hb.mono HB0.out.size))
  have HZ1 : Hid (w.heap.size ≤ w1.heap.size) := Lib.hid hb.size
  have HRu1 := Lib.hid (HRu0.out.below HB1.out (Nat.le_refl _))
  have HKz1 := Lib.hid hk
  replace HZ1 : Hid (w.heap.size < w1.heap.size) := Lib.hid (by omega)
  have HE1 := Lib.hid hz
  clear hb hk hz
  have ltz := lt_of_block HKz1.out
  obtain ⟨cz0, fz0⟩ := cell1 HKz1.out
  refine (iSys_any _ us _ HRu1.out HS.out true ⟨fun _ => HO.out, fun _ => rfl⟩).mono ?_
  rintro e w2 ⟨rfl, hb⟩
  have HB2 : Hid (Below w.heap.size w w2) := Lib.hid (HB1.out.trans (hb.mono HB1.out.size))
  have HZ2 : Hid (w1.heap.size ≤ w2.heap.size) := Lib.hid hb.size
  have HRu2 := Lib.hid (HRu0.out.below HB2.out (Nat.le_refl _))
  have HKz2 := Lib.hid ((hb.block _ (lt_of_block HKz1.out)).trans HKz1.out)
  clear hb
  clear cz0 fz0 ltz
  have ltz := lt_of_block HKz2.out
  obtain ⟨cz0, fz0⟩ := cell1 HKz2.out
  have hS1 : w.heap.size < w2.heap.size := ltz
  go_wp2_with (at_make; refine wpList_make_full _ rfl _ _ 25 rfl w2.heap.size 3 i0 (.int .i64 0) 1 Tryd.underlying25 hi hz0 hz1 _ _ _ _ (l + 1) rfl rfl rfl rfl ?b2 ?b3 (Nat.le_refl _) ?_)
  case b2 => rw [hz2]; omega
  case b3 => unfold maxLen; omega
  intro w3 hown0 hgrow0
  have hb : Below w2.heap.size w2 w3 := (Below.refl _ _).grown hgrow0 (Nat.le_refl _) (fun k h => by cases h)
  have hS2 : w2.heap.size < w3.heap.size := (hown0.lt _ rfl).2
  have HB3 : Hid (Below w.heap.size w w3) := Lib.hid (HB2.out.trans (hb.mono HB2.out.size))
  have HZ3 : Hid (w2.heap.size ≤ w3.heap.size) := Lib.hid hb.size
  have HRu3 := Lib.hid (HRu0.out.below HB3.out (Nat.le_refl _))
  have HKz3 := Lib.hid ((hb.block _ (lt_of_block HKz2.out)).trans HKz2.out)
  clear hb
  have HOs3 := Lib.hid (Ow.mk' hown0)
  clear hown0 hgrow0
  clear cz0 fz0 ltz
  have ltz := lt_of_block HKz3.out
  obtain ⟨cz0, fz0⟩ := cell1 HKz3.out
  go_wp2_with fail
  have hb : Below w3.heap.size w3 (w3.alloc (.cells #[.slice (some ⟨w2.heap.size, 0, none⟩) (l + 1) (l + 1)] 27)) := (Below.refl _ _).alloc (Nat.le_refl _) _
  have hk : (w3.alloc (.cells #[.slice (some ⟨w2.heap.size, 0, none⟩) (l + 1) (l + 1)] 27)).heap[w3.heap.size]? = some (.cells #[.slice (some ⟨w2.heap.size, 0, none⟩) (l + 1) (l + 1)] 27 (0, 0)) := alloc_at rfl
  have hz : (w3.alloc (.cells #[.slice (some ⟨w2.heap.size, 0, none⟩) (l + 1) (l + 1)] 27)).heap.size = w3.heap.size + 1 := by simp
  generalize w3.alloc (.cells #[.slice (some ⟨w2.heap.size, 0, none⟩) (l + 1) (l + 1)] 27) = w4 at hb hk hz ⊢
  have HB4 : Hid (Below w.heap.size w w4) := Lib.hid (HB3.out.trans (hb.mono HB3.out.size))
  have HZ4 : Hid (w3.heap.size ≤ w4.heap.size) := Lib.hid hb.size
  have HRu4 := Lib.hid (HRu0.out.below HB4.out (Nat.le_refl _))
  have HKz4 := Lib.hid ((hb.block _ (lt_of_block HKz3.out)).trans HKz3.out)
  have HOs4 := Lib.hid (HOs3.out.next hb)
  have HKo4 := Lib.hid hk
  replace HZ4 : Hid (w3.heap.size < w4.heap.size) := Lib.hid (by omega)
  have HE4 := Lib.hid hz
  clear hb hk hz
  clear cz0 fz0 ltz
  have ltz := lt_of_block HKz4.out
  obtain ⟨cz0, fz0⟩ := cell1 HKz4.out
  have lto := lt_of_block HKo4.out
  obtain ⟨co0, fo0⟩ := cell1 HKo4.out
  have hS3 : w3.heap.size < w4.heap.size := lto
  go_loopw [1, 26] (fun nv iv wr => ∃ (k : Nat) (m : Int) (xs : List Value), k ≤ l ∧ iv = .int .i64 k ∧ nv = .int .i64 m ∧ Hid (m = curV us n k) ∧ (0 ≤ m ∧ m ≤ 9223372036854775807) ∧ Hid (∀ j, j < k → xs[j]? = some (.int .i64 (digV us n j))) ∧ Ow w2.heap.size w4.heap.size wr 3 1 (.slice (some ⟨w2.heap.size, 0, none⟩) (l + 1) (l + 1)) (l + 1) xs ∧ wr.heap[w3.heap.size]? = some (.cells #[.slice (some ⟨w2.heap.size, 0, none⟩) (l + 1) (l + 1)] 27 (0, 0)) ∧ wr.heap[w.heap.size]? = some (.cells #[.slice none 0 0] 27 (0, 0)) ∧ Below w.heap.size w wr ∧ w4.heap.size ≤ wr.heap.size) (fun _ i _ => l - (intOf i).toNat)
  case atStart => exact ⟨0, n, _, Nat.zero_le _, rfl, rfl, Lib.hid rfl, ⟨hn0, hn9⟩, Lib.hid (fun j hj => absurd hj (Nat.not_lt_zero _)), Ow.widen HOs4.out (Nat.le_refl _) (by have := HZ1.out; have := HZ2.out; have := HZ3.out; have := HZ4.out;  omega), HKo4.out, HKz4.out, HB4.out, Nat.le_refl _⟩
  case round =>
    obtain ⟨k, m, xs, hk, rfl, rfl, HM, ⟨m0, m1⟩, HX, hown, hko, hkz, hb, hsz⟩ := hrel
    have HSZ := Lib.hid hsz
    have HXL := Lib.hid hown.1.1
    by_cases hlt : k < l
    · have z0 : (0 : Int) ≤ (k : Int) := by omega
      have z1 : (k : Int) < (l : Int) := by omega
      have z2 : (k : Int) < (l : Int) + 1 := by omega
      have z3 : (k : Int) + 1 < (l : Int) + 1 := by omega
      have z4 : (0 : Int) ≤ (k : Int) + 1 := by omega
      obtain ⟨b1, o1, rfl, _, _, q0⟩ := A2.out _ hb (k + 1) (by have := HL.out; omega)
      have hsb := okS_sz HO.out (k + 1)
      have HD : Hid (digV us n k = m % szU us (k + 1)) := Lib.hid (by have := HL.out; rw [HM.out, digV, if_pos (by omega)])
      have HC : Hid (curV us n (k + 1) = m / szU us (k + 1)) := Lib.hid (by rw [HM.out, curV])
      generalize szU us (k + 1) = z at q0 hsb HD HC
      obtain ⟨y, hy⟩ : ∃ y, m.tmod z = y := ⟨_, rfl⟩
      obtain ⟨m', hm'⟩ : ∃ m', IntKind.i64.wrap (m.tdiv z) = m' := ⟨_, rfl⟩
      have HY : Hid (y = digV us n k) := Lib.hid (by rw [← hy, HD.out, Int.tmod_eq_emod_of_nonneg m0])
      have hml : 0 ≤ m / z ∧ m / z ≤ m := ⟨Int.ediv_nonneg m0 (by omega), Int.ediv_le_self _ m0⟩
      have HN : Hid (m' = m / z) := Lib.hid (by rw [← hm', Int.tdiv_eq_ediv_of_nonneg m0, wrap_small _ (by omega) (by omega)])
      have HNB : Hid (0 ≤ m / z ∧ m / z ≤ m) := Lib.hid hml
      have HME : Hid (m' = curV us n (k + 1)) := Lib.hid (by rw [HC.out, HN.out])
      have y3 : (z == 0) = false := beq_eq_false_iff_ne.2 (by omega)
      have y4 : z ≠ 0 := by omega
      obtain ⟨u0, d0⟩ : ∃ u, wr.cell? ⟨w2.heap.size, k, none⟩ = some u := ⟨_, (hown.1.cellAt k (by omega)).trans (List.getElem?_eq_getElem (by have := HXL.out; omega))⟩
      have f0 : wr.frozen? ⟨w2.heap.size, k, none⟩ = false := hown.1.frozenAt _
      have HB20 : Hid (Below w.heap.size w wr) := Lib.hid hb
      have HRu20 := Lib.hid (HRu0.out.below HB20.out (Nat.le_refl _))
      have HKo20 := Lib.hid (hko)
      have HKz20 := Lib.hid (hkz)
      have HOs20 := Lib.hid (hown)
      clear hown hko hkz hb hsz hml
      have lto := lt_of_block HKo20.out
      obtain ⟨co0, fo0⟩ := cell1 HKo20.out
      have ltz := lt_of_block HKz20.out
      obtain ⟨cz0, fz0⟩ := cell1 HKz20.out
      go_wp2_with fail
      refine wp_region_held_drew (S := (fun u => u.cell? ⟨w3.heap.size, 0, none⟩ = some (.slice (some ⟨w2.heap.size, 0, none⟩) (l + 1) (l + 1)))) (by kernel_rfl) (co0) (fun hHeld => ?_)
      have hb : Below wr.heap.size wr wr.drew := (Below.refl _ _).drew
      have d1 : wr.drew.cell? ⟨w2.heap.size, k, none⟩ = some u0 := d0
      have f1 : wr.drew.frozen? ⟨w2.heap.size, k, none⟩ = false := f0
      clear d0 f0
      generalize wr.drew = w21 at hb hHeld d1 f1 ⊢
      have HB21 : Hid (Below w.heap.size w w21) := Lib.hid (HB20.out.trans (hb.mono HB20.out.size))
      have HZ21 : Hid (wr.heap.size ≤ w21.heap.size) := Lib.hid hb.size
      have HRu21 := Lib.hid (HRu0.out.below HB21.out (Nat.le_refl _))
      have HKo21 := Lib.hid ((hb.block _ (lt_of_block HKo20.out)).trans HKo20.out)
      have HKz21 := Lib.hid ((hb.block _ (lt_of_block HKz20.out)).trans HKz20.out)
      have HOs21 := Lib.hid (HOs20.out.next hb)
      clear hb
      clear co0 fo0 lto cz0 fz0 ltz
      have lto := lt_of_block HKo21.out
      obtain ⟨co0, fo0⟩ := cell1 HKo21.out
      have ltz := lt_of_block HKz21.out
      obtain ⟨cz0, fz0⟩ := cell1 HKz21.out
      refine take1 (i := 0) (v := ?v1) (some 35) rfl rfl (by kernel_rfl) (by kernel_rfl) (by kernel_rfl) (fun _ _ _ h => h) (Or.inl ⟨by rfl, ?y1⟩) (by assumption) ?r1
      case y1 => (intro w hSw; (try dsimp only at hSw); go_simp; (first | done | with_reducible rfl))
      try simp only [Act.put, List.setIfInBounds_toArray, List.set_cons_zero, List.set_cons_succ]
      refine take1 (i := 1) (v := ?v2) (some 36) rfl rfl (by kernel_rfl) (by kernel_rfl) (by kernel_rfl) (fun _ _ _ h => h) (Or.inl ⟨by rfl, ?y2⟩) (by assumption) ?r2
      case y2 => (intro w hSw; (try dsimp only at hSw); go_simp; (first | done | with_reducible rfl))
      try simp only [Act.put, List.setIfInBounds_toArray, List.set_cons_zero, List.set_cons_succ]
      refine take1 (i := 2) (v := ?v3) (some 37) rfl rfl (by kernel_rfl) (by kernel_rfl) (by kernel_rfl) (fun _ _ _ h => h) (Or.inl ⟨by rfl, ?y3⟩) (by assumption) ?r3
      case y3 => (intro w hSw; (try dsimp only at hSw); go_simp; (first | done | with_reducible rfl))
      try simp only [Act.put, List.setIfInBounds_toArray, List.set_cons_zero, List.set_cons_succ]
      refine take1 (i := 3) (v := ?v4) (some 38) rfl rfl (by kernel_rfl) (by kernel_rfl) (by kernel_rfl) (fun _ _ _ h => h) (Or.inl ⟨by rfl, ?y4⟩) (by assumption) ?r4
      case y4 => (intro w hSw; (try dsimp only at hSw); go_simp; (first | done | with_reducible rfl))
      try simp only [Act.put, List.setIfInBounds_toArray, List.set_cons_zero, List.set_cons_succ]
      refine take1 (i := 4) (v := ?v5) (some 39) rfl rfl (by kernel_rfl) (by kernel_rfl) (by kernel_rfl) (fun _ _ _ h => h) (Or.inl ⟨by rfl, ?y5⟩) (by assumption) ?r5
      case y5 => (intro w hSw; (try dsimp only at hSw); go_simp; (first | done | with_reducible rfl))
      try simp only [Act.put, List.setIfInBounds_toArray, List.set_cons_zero, List.set_cons_succ]
      refine take1 (i := 5) (v := ?v6) (some 40) rfl rfl (by kernel_rfl) (by kernel_rfl) (by kernel_rfl) (fun _ _ _ h => h) (Or.inl ⟨by rfl, ?y6⟩) (by assumption) ?r6
      case y6 => (intro w hSw; (try dsimp only at hSw); go_simp; (first | done | with_reducible rfl))
      try simp only [Act.put, List.setIfInBounds_toArray, List.set_cons_zero, List.set_cons_succ]
      refine take1 (i := 6) (v := ?v7) (some 41) rfl rfl (by kernel_rfl) (by kernel_rfl) (by kernel_rfl) (fun _ _ _ h => h) (Or.inl ⟨by rfl, ?y7⟩) (by assumption) ?r7
      case y7 => (intro w hSw; (try dsimp only at hSw); go_simp; (first | done | with_reducible rfl))
      try simp only [Act.put, List.setIfInBounds_toArray, List.set_cons_zero, List.set_cons_succ]
      refine wpAnyH_ready (rs := [7]) (by kernel_rfl) (by simp) ?_
      refine AllReadyH.cons rfl (fun K hK => ?_) AllReadyH.nil
      go_simp
      have hox := Ow.stored HOs21.out k (.int .i64 y)
      have hm : Btw w2.heap.size (w2.heap.size + 1) w21 (w21.setCell ⟨w2.heap.size, k, none⟩ (.int .i64 y)) := (Btw.refl w2.heap.size (w2.heap.size + 1) w21).setCell (p := ⟨w2.heap.size, k, none⟩) (Nat.le_refl _) (Nat.lt_succ_self _) _
      clear d1 f1
      generalize w21.setCell ⟨w2.heap.size, k, none⟩ (.int .i64 y) = w22 at hox hm ⊢
      have hsx := hm.size
      have HZ22 : Hid (w21.heap.size ≤ w22.heap.size) := Lib.hid hm.size
      have HB22 : Hid (Below w.heap.size w w22) := Lib.hid (HB21.out.trans (hm.below.mono (by have := HZ21.out; have := HB20.out.size; omega)))
      have HRu22 := Lib.hid (HRu0.out.below HB22.out (Nat.le_refl _))
      have HKo22 := Lib.hid ((hm.block _ (by have := lt_of_block HKo21.out; have := HZ21.out; omega)).trans HKo21.out)
      have HKz22 := Lib.hid ((hm.block _ (by have := lt_of_block HKz21.out; have := HZ21.out; omega)).trans HKz21.out)
      clear hm
      have HOs22 := Lib.hid (hox)
      clear hox
      clear co0 fo0 lto cz0 fz0 ltz
      have lto := lt_of_block HKo22.out
      obtain ⟨co0, fo0⟩ := cell1 HKo22.out
      have ltz := lt_of_block HKz22.out
      obtain ⟨cz0, fz0⟩ := cell1 HKz22.out
      refine hK.out _ _ (co0) (fun hHeld => ?_)
      clear hK K
      try simp only [Act.put]
      refine wpAnyH_done (by kernel_rfl) ?_ _
      go_wp2_with fail
      go_roundw
      case rel =>
        refine ⟨k + 1, m', xs.set k (.int .i64 y), by omega, by go_num, rfl, HME.out |> Lib.hid, by have := HN.out; have := HNB.out; omega, Lib.hid (fun j hj => ?_), HOs22.out, HKo22.out, HKz22.out, HB22.out, by have := HSZ.out; have := HZ21.out; have := HZ22.out;  omega⟩
        by_cases e : j = k
        · subst e
          rw [List.getElem?_set_self (by have := HXL.out; omega), HY.out]
        · rw [List.getElem?_set_ne (fun e' => e e'.symm)]
          exact HX.out j (by omega)
      case measure => simp [intOf]; omega
    · obtain rfl : k = l := by omega
      have HLE : Hid (us.length - 1 = k) := Lib.hid (by have := HL.out; omega)
      have HB20 : Hid (Below w.heap.size w wr) := Lib.hid hb
      have HRu20 := Lib.hid (HRu0.out.below HB20.out (Nat.le_refl _))
      have HKo20 := Lib.hid (hko)
      have HKz20 := Lib.hid (hkz)
      have HOs20 := Lib.hid (hown)
      rcases HK.out with ⟨h2, hq1, rfl⟩ | ⟨h2, hq1, rfl⟩
      · have hmm : ¬ 9999 < m := by have h3 := h2.2; rw [HLE.out, ← HM.out] at h3; omega
        have z0 : (0 : Int) ≤ (k : Int) := by omega
        have z2 : (k : Int) < (k : Int) + 1 := by omega
        obtain ⟨u0, d0⟩ : ∃ u, wr.cell? ⟨w2.heap.size, k, none⟩ = some u := ⟨_, (hown.1.cellAt k (by omega)).trans (List.getElem?_eq_getElem (by have := HXL.out; omega))⟩
        have f0 : wr.frozen? ⟨w2.heap.size, k, none⟩ = false := hown.1.frozenAt _
        have HFIN : Hid (xs.set k (.int .i64 m) = flatC inC (propL us n)) := Lib.hid (flatC_of inC_len (by omega) _ _ (by rw [List.length_set, HXL.out, propL_len, HL.out]) (fun i hi j hj => by
          have hj0 : j = 0 := by omega
          subst hj0
          rw [propL_len, HL.out] at hi
          rw [Nat.mul_one, Nat.add_zero, propL_at]
          by_cases e : i = k
          · subst e
            rw [List.getElem?_set_self (by have := HXL.out; omega), HM.out]
            rw [digV, if_neg (by have := HL.out; omega)]; rfl
          · rw [List.getElem?_set_ne (fun e' => e e'.symm), HX.out i (by omega)]; rfl))
        clear hown hko hkz hb hsz h2
        have lto := lt_of_block HKo20.out
        obtain ⟨co0, fo0⟩ := cell1 HKo20.out
        have ltz := lt_of_block HKz20.out
        obtain ⟨cz0, fz0⟩ := cell1 HKz20.out
        go_wp2_with fail
        have hox := Ow.stored HOs20.out k (.int .i64 m)
        have hm : Btw w2.heap.size (w2.heap.size + 1) wr (wr.setCell ⟨w2.heap.size, k, none⟩ (.int .i64 m)) := (Btw.refl w2.heap.size (w2.heap.size + 1) wr).setCell (p := ⟨w2.heap.size, k, none⟩) (Nat.le_refl _) (Nat.lt_succ_self _) _
        clear d0 f0
        generalize wr.setCell ⟨w2.heap.size, k, none⟩ (.int .i64 m) = w21 at hox hm ⊢
        have hsx := hm.size
        have HZ21 : Hid (wr.heap.size ≤ w21.heap.size) := Lib.hid hm.size
        have HB21 : Hid (Below w.heap.size w w21) := Lib.hid (HB20.out.trans (hm.below.mono (by have := HB20.out.size; omega)))
        have HRu21 := Lib.hid (HRu0.out.below HB21.out (Nat.le_refl _))
        have HKo21 := Lib.hid ((hm.block _ (by have := lt_of_block HKo20.out; omega)).trans HKo20.out)
        have HKz21 := Lib.hid ((hm.block _ (by have := lt_of_block HKz20.out; omega)).trans HKz20.out)
        clear hm
        have HOs21 := Lib.hid (hox)
        clear hox
        clear co0 fo0 lto cz0 fz0 ltz
        have lto := lt_of_block HKo21.out
        obtain ⟨co0, fo0⟩ := cell1 HKo21.out
        have ltz := lt_of_block HKz21.out
        obtain ⟨cz0, fz0⟩ := cell1 HKz21.out
        have hfo : OwA w2.heap.size w4.heap.size w21 (.slice (some ⟨w2.heap.size, 0, none⟩) (k + 1) (k + 1)) (propL us n) := by
          have h5 := HOs21.out
          rw [HFIN.out] at h5
          unfold OwA
          rw [propL_len, HL.out]
          exact h5
        have hlz := hS1
        subst hq1
        exact bodyPost_ret (v := .tuple #[.agg #[.slice (some ⟨w2.heap.size, 0, none⟩) (k + 1) (k + 1)], .bool true]) (by simp [results, Tryd.results27, go_sem, cz0]) rfl ⟨⟨_, rfl, (OwA.set hfo (a := ⟨w.heap.size, 0, none⟩) hS1 _).mono (by omega) (by have := HSZ.out; simp [World.setCell]; have := HZ21.out;  omega)⟩, HB21.out.setCell (p := ⟨w.heap.size, 0, none⟩) (Nat.le_refl _) _⟩
      · have hmm : 9999 < m := by
          rcases Int.lt_or_le 9999 m with h3 | h3
          · exact h3
          · exact absurd ⟨hn0, by rw [HLE.out, ← HM.out]; exact h3⟩ h2
        subst hq1
        clear hown hko hkz hb hsz h2
        have lto := lt_of_block HKo20.out
        obtain ⟨co0, fo0⟩ := cell1 HKo20.out
        have ltz := lt_of_block HKz20.out
        obtain ⟨cz0, fz0⟩ := cell1 HKz20.out
        go_wp2_with fail
        exact bodyPost_ret (v := .tuple #[.agg #[.slice none 0 0], .bool false]) (by simp [results, Tryd.results27, go_sem, cz0]) rfl ⟨⟨_, rfl, OwA.nil _ _ _⟩, by first | exact HB20.out | exact HB20.out.setCell (p := ⟨w.heap.size, 0, none⟩) (Nat.le_refl _) _⟩
set_option maxRecDepth 100000 in
set_option maxHeartbeats 1600000 in
theorem iProper_any (v : Value) (us : List Un) (n : Int) (w : World) (h : RowsR 2 unC w v us) (hs : ∀ u ∈ us, u.nm.size ≤ maxLen) (h1 : -9223372036854775808 ≤ n ∧ n ≤ 9223372036854775807) (qs : List Int) (r : Bool) (hk : TestF (okS us) us n qs r) :
    Calls Tryd.prog 27 #[v, .int .i64 n] w fun e w' => (∃ s1, e = .returned (.tuple #[.agg #[s1], .bool r]) ∧ OwA w.heap.size w'.heap.size w' s1 qs) ∧ Below w.heap.size w w' := by
  rcases hk with ⟨ho, hp⟩ | ⟨ho, rfl, rfl⟩
  · by_cases hn0 : 0 ≤ n
    · exact iProper_loop v us n w h hs h1 ho hn0 qs r hp
    · have hn1 : n < 0 := by omega
      obtain ⟨rfl, rfl⟩ : qs = [] ∧ r = false := by
        rcases hp with ⟨h3, _⟩ | ⟨_, h3, h4⟩
        · exact absurd h3.1 hn0
        · exact ⟨h3, h4⟩
      obtain ⟨a, cp, rfl⟩ := h.form
      have HS := Lib.hid hs
      have HO := Lib.hid ho
      have HB0 : Hid (Below w.heap.size w w) := Lib.hid (Below.refl _ _)
      have HRu0 := Lib.hid (h)
      clear h hs ho
      clear hp hn0 h1
      go_enter Tryd.func27, Tryd.ntmps27
      go_wp2_with fail
      have hb : Below w.heap.size w (w.alloc (.cells #[.slice none 0 0] 27)) := (Below.refl _ _).alloc (Nat.le_refl _) _
      have hk : (w.alloc (.cells #[.slice none 0 0] 27)).heap[w.heap.size]? = some (.cells #[.slice none 0 0] 27 (0, 0)) := alloc_at rfl
      have hz : (w.alloc (.cells #[.slice none 0 0] 27)).heap.size = w.heap.size + 1 := by simp
      generalize w.alloc (.cells #[.slice none 0 0] 27) = w1 at hb hk hz ⊢
      have HB1 : Hid (Below w.heap.size w w1) := Lib.hid (HB0.out.trans (hb.mono HB0.out.size))
      have HZ1 : Hid (w.heap.size ≤ w1.heap.size) := Lib.hid hb.size
      have HRu1 := Lib.hid (HRu0.out.below HB1.out (Nat.le_refl _))
      have HKz1 := Lib.hid hk
      replace HZ1 : Hid (w.heap.size < w1.heap.size) := Lib.hid (by omega)
      have HE1 := Lib.hid hz
      clear hb hk hz
      have ltz := lt_of_block HKz1.out
      obtain ⟨cz0, fz0⟩ := cell1 HKz1.out
      refine (iSys_any _ us _ HRu1.out HS.out true ⟨fun _ => HO.out, fun _ => rfl⟩).mono ?_
      rintro e w2 ⟨rfl, hb⟩
      have HB2 : Hid (Below w.heap.size w w2) := Lib.hid (HB1.out.trans (hb.mono HB1.out.size))
      have HZ2 : Hid (w1.heap.size ≤ w2.heap.size) := Lib.hid hb.size
      have HRu2 := Lib.hid (HRu0.out.below HB2.out (Nat.le_refl _))
      have HKz2 := Lib.hid ((hb.block _ (lt_of_block HKz1.out)).trans HKz1.out)
      clear hb
      clear cz0 fz0 ltz
      have ltz := lt_of_block HKz2.out
      obtain ⟨cz0, fz0⟩ := cell1 HKz2.out
      go_wp2_with fail
      exact bodyPost_ret (v := .tuple #[.agg #[.slice none 0 0], .bool false]) (by simp [results, Tryd.results27, go_sem, cz0]) rfl ⟨⟨_, rfl, OwA.nil _ _ _⟩, by first | exact HB2.out | exact HB2.out.setCell (p := ⟨w.heap.size, 0, none⟩) (by show w.heap.size ≤ w.heap.size; omega) _⟩
  · obtain ⟨a, cp, rfl⟩ := h.form
    have HS := Lib.hid hs
    have HN := Lib.hid ho
    have HB0 : Hid (Below w.heap.size w w) := Lib.hid (Below.refl _ _)
    have HRu0 := Lib.hid (h)
    clear h hs ho
    clear h1
    go_enter Tryd.func27, Tryd.ntmps27
    go_wp2_with fail
    have hb : Below w.heap.size w (w.alloc (.cells #[.slice none 0 0] 27)) := (Below.refl _ _).alloc (Nat.le_refl _) _
    have hk : (w.alloc (.cells #[.slice none 0 0] 27)).heap[w.heap.size]? = some (.cells #[.slice none 0 0] 27 (0, 0)) := alloc_at rfl
    have hz : (w.alloc (.cells #[.slice none 0 0] 27)).heap.size = w.heap.size + 1 := by simp
    generalize w.alloc (.cells #[.slice none 0 0] 27) = w1 at hb hk hz ⊢
    have HB1 : Hid (Below w.heap.size w w1) := Lib.hid (HB0.out.trans (hb.mono HB0.out.size))
    have HZ1 : Hid (w.heap.size ≤ w1.heap.size) := Lib.hid hb.size
    have HRu1 := Lib.hid (HRu0.out.below HB1.out (Nat.le_refl _))
    have HKz1 := Lib.hid hk
    replace HZ1 : Hid (w.heap.size < w1.heap.size) := Lib.hid (by omega)
    have HE1 := Lib.hid hz
    clear hb hk hz
    have ltz := lt_of_block HKz1.out
    obtain ⟨cz0, fz0⟩ := cell1 HKz1.out
    refine (iSys_any _ us _ HRu1.out HS.out false ⟨fun e => (by simp at e), fun e => absurd e HN.out⟩).mono ?_
    rintro e w2 ⟨rfl, hb⟩
    have HB2 : Hid (Below w.heap.size w w2) := Lib.hid (HB1.out.trans (hb.mono HB1.out.size))
    have HZ2 : Hid (w1.heap.size ≤ w2.heap.size) := Lib.hid hb.size
    have HRu2 := Lib.hid (HRu0.out.below HB2.out (Nat.le_refl _))
    have HKz2 := Lib.hid ((hb.block _ (lt_of_block HKz1.out)).trans HKz1.out)
    clear hb
    clear cz0 fz0 ltz
    have ltz := lt_of_block HKz2.out
    obtain ⟨cz0, fz0⟩ := cell1 HKz2.out
    go_wp2_with fail
    exact bodyPost_ret (v := .tuple #[.agg #[.slice none 0 0], .bool false]) (by simp [results, Tryd.results27, go_sem, cz0]) rfl ⟨⟨_, rfl, OwA.nil _ _ _⟩, by first | exact HB2.out | exact HB2.out.setCell (p := ⟨w.heap.size, 0, none⟩) (by show w.heap.size ≤ w.heap.size; omega) _⟩
set_option maxRecDepth 100000 in
set_option maxHeartbeats 800000 in
theorem isInFr_any (n : Int) (w : World) (r : Bool) (hr : r = true ↔ (1 ≤ n ∧ n ≤ 10000)) :
    Calls Tryd.prog 38 #[.int .i64 n] w fun e w' => e = .returned (.bool r) ∧ w' = w := by
  have HR := Lib.hid hr
  have HF : Hid (¬ (1 ≤ n ∧ n ≤ 10000) → r = false) := Lib.hid (fun hn => by
    cases hb : r with
    | false => rfl
    | true => exact absurd (hr.1 hb) hn)
  clear hr
  by_cases h1 : 1 ≤ n
  · by_cases h2 : n ≤ 10000
    · have HN := Lib.hid (HR.out.2 ⟨h1, h2⟩)
      go_enter Tryd.func38, Tryd.ntmps38
      go_wp2_with fail
      go_ret
      exact ⟨ret_bool (by first | (simp [HN.out]; done) | (simp [HN.out]; omega)), rfl⟩
    · have HN := Lib.hid (HF.out (fun h => h2 h.2))
      go_enter Tryd.func38, Tryd.ntmps38
      go_wp2_with fail
      go_ret
      exact ⟨ret_bool (by first | (simp [HN.out]; done) | (simp [HN.out]; omega)), rfl⟩
  · have HN := Lib.hid (HF.out (fun h => h1 h.1))
    go_enter Tryd.func38, Tryd.ntmps38
    go_wp2_with fail
    go_ret
    exact ⟨ret_bool (by first | (simp [HN.out]; done) | (simp [HN.out]; omega)), rfl⟩
/-- The answer of valuesIn. -/
def ValsF (us : List Un) (xs ys : List Int) (x y : Int) (r : Bool) : Prop := ∃ r1 r2, ValF us xs x r1 ∧ ValF us ys y r2 ∧ r = (r1 && r2)
set_option maxRecDepth 100000 in
set_option maxHeartbeats 3200000 in
theorem iTimesOf_any (v sx : Value) (us : List Un) (xs : List Int) (n : Int) (w : World) (h : RowsR 2 unC w v us) (hs : ∀ u ∈ us, u.nm.size ≤ maxLen) (hx : RowsR 1 inC w sx xs) (qs : List Int) (r : Bool) (hk : TestF (okAm us xs ∧ (0 ≤ n ∧ n ≤ 1000)) us (n * valA us xs) qs r) :
    Calls Tryd.prog 6 #[v, .agg #[sx], .int .i64 n] w fun e w' => (∃ s1, e = .returned (.tuple #[.agg #[s1], .bool r]) ∧ OwA w.heap.size w'.heap.size w' s1 qs) ∧ Below w.heap.size w w' := by
  obtain ⟨a, cp, rfl⟩ := h.form
  have HS := Lib.hid hs
  obtain ⟨a1, c1, rfl⟩ := hx.form
  rcases hk with ⟨ho, hp⟩ | ⟨ho, rfl, rfl⟩
  · have HO := Lib.hid ho
    have HP := Lib.hid hp
    have hvx := valA_lt ho.1
    have HVX : Hid (ValF us xs (valA us xs) true) := Lib.hid (.inl ⟨ho.1, rfl, rfl⟩)
    generalize valA us xs = x at hvx HVX HP
    have hmb := mul_bd ho.2.1 ho.2.2 hvx.1 hvx.2
    have hw : IntKind.i64.wrap (n * x) = n * x := wrap_small _ (by omega) (by omega)
    have HQ9 : Hid (-9223372036854775808 ≤ n * x ∧ n * x ≤ 9223372036854775807) := Lib.hid (by omega)
    have g1 : ¬ n < 0 := by have := ho.2.1; omega
    have g2 : ¬ 1000 < n := by have := ho.2.2; omega
    have HB0 : Hid (Below w.heap.size w w) := Lib.hid (Below.refl _ _)
    have HRu0 := Lib.hid (h)
    have HRx0 := Lib.hid (hx)
    clear h hs hx ho
    clear hp hmb
    go_enter Tryd.func6, Tryd.ntmps6
    go_wp2_with fail
    have hb : Below w.heap.size w (w.alloc (.cells #[.slice a1 xs.length c1] 27)) := (Below.refl _ _).alloc (Nat.le_refl _) _
    have hk : (w.alloc (.cells #[.slice a1 xs.length c1] 27)).heap[w.heap.size]? = some (.cells #[.slice a1 xs.length c1] 27 (0, 0)) := alloc_at rfl
    have hz : (w.alloc (.cells #[.slice a1 xs.length c1] 27)).heap.size = w.heap.size + 1 := by simp
    generalize w.alloc (.cells #[.slice a1 xs.length c1] 27) = w1 at hb hk hz ⊢
    have HB1 : Hid (Below w.heap.size w w1) := Lib.hid (HB0.out.trans (hb.mono HB0.out.size))
    have HZ1 : Hid (w.heap.size ≤ w1.heap.size) := Lib.hid hb.size
    have HRu1 := Lib.hid (HRu0.out.below HB1.out (Nat.le_refl _))
    have HRx1 := Lib.hid (HRx0.out.below HB1.out (Nat.le_refl _))
    have HKx1 := Lib.hid hk
    replace HZ1 : Hid (w.heap.size < w1.heap.size) := Lib.hid (by omega)
    have HE1 := Lib.hid hz
    clear hb hk hz
    have hb : Below w1.heap.size w1 (w1.alloc (.cells #[.slice none 0 0] 27)) := (Below.refl _ _).alloc (Nat.le_refl _) _
    have hk : (w1.alloc (.cells #[.slice none 0 0] 27)).heap[w.heap.size + 1]? = some (.cells #[.slice none 0 0] 27 (0, 0)) := alloc_at (by have := HE1.out; omega)
    have hz : (w1.alloc (.cells #[.slice none 0 0] 27)).heap.size = w1.heap.size + 1 := by simp
    generalize w1.alloc (.cells #[.slice none 0 0] 27) = w2 at hb hk hz ⊢
    have HB2 : Hid (Below w.heap.size w w2) := Lib.hid (HB1.out.trans (hb.mono HB1.out.size))
    have HZ2 : Hid (w1.heap.size ≤ w2.heap.size) := Lib.hid hb.size
    have HRu2 := Lib.hid (HRu0.out.below HB2.out (Nat.le_refl _))
    have HRx2 := Lib.hid (HRx0.out.below HB2.out (Nat.le_refl _))
    have HKx2 := Lib.hid ((hb.block _ (lt_of_block HKx1.out)).trans HKx1.out)
    have HKz2 := Lib.hid hk
    replace HZ2 : Hid (w1.heap.size < w2.heap.size) := Lib.hid (by omega)
    have HE2 := Lib.hid hz
    clear hb hk hz
    have hlz : w.heap.size + 1 < w2.heap.size := lt_of_block HKz2.out
    have ltx := lt_of_block HKx2.out
    obtain ⟨cx0, fx0⟩ := cell1 HKx2.out
    have ltz := lt_of_block HKz2.out
    obtain ⟨cz0, fz0⟩ := cell1 HKz2.out
    refine (iVal_any _ _ us xs _ HRu2.out HS.out HRx2.out x true HVX.out).mono ?_
    rintro e w3 ⟨rfl, hb⟩
    have HB3 : Hid (Below w.heap.size w w3) := Lib.hid (HB2.out.trans (hb.mono HB2.out.size))
    have HZ3 : Hid (w2.heap.size ≤ w3.heap.size) := Lib.hid hb.size
    have HRu3 := Lib.hid (HRu0.out.below HB3.out (Nat.le_refl _))
    have HRx3 := Lib.hid (HRx0.out.below HB3.out (Nat.le_refl _))
    have HKx3 := Lib.hid ((hb.block _ (lt_of_block HKx2.out)).trans HKx2.out)
    have HKz3 := Lib.hid ((hb.block _ (lt_of_block HKz2.out)).trans HKz2.out)
    clear hb
    clear cx0 fx0 ltx cz0 fz0 ltz
    have ltx := lt_of_block HKx3.out
    obtain ⟨cx0, fx0⟩ := cell1 HKx3.out
    have ltz := lt_of_block HKz3.out
    obtain ⟨cz0, fz0⟩ := cell1 HKz3.out
    go_wp2_with fail
    refine (iProper_any _ us (n * x) _ HRu3.out HS.out HQ9.out qs r (.inl ⟨HO.out.1.1, HP.out⟩)).mono ?_
    rintro e w4 ⟨⟨s1, rfl, ho⟩, hb⟩
    have HB4 : Hid (Below w.heap.size w w4) := Lib.hid (HB3.out.trans (hb.mono HB3.out.size))
    have HZ4 : Hid (w3.heap.size ≤ w4.heap.size) := Lib.hid hb.size
    have HRu4 := Lib.hid (HRu0.out.below HB4.out (Nat.le_refl _))
    have HRx4 := Lib.hid (HRx0.out.below HB4.out (Nat.le_refl _))
    have HKx4 := Lib.hid ((hb.block _ (lt_of_block HKx3.out)).trans HKx3.out)
    have HKz4 := Lib.hid ((hb.block _ (lt_of_block HKz3.out)).trans HKz3.out)
    clear hb
    obtain ⟨pv, kv, rfl⟩ := ho.form
    have HOv4 := Lib.hid (ho)
    clear ho
    clear cx0 fx0 ltx cz0 fz0 ltz
    have ltx := lt_of_block HKx4.out
    obtain ⟨cx0, fx0⟩ := cell1 HKx4.out
    have ltz := lt_of_block HKz4.out
    obtain ⟨cz0, fz0⟩ := cell1 HKz4.out
    go_wp2_with fail
    exact bodyPost_ret (v := .tuple #[.agg #[.slice pv qs.length kv], .bool r]) (by simp [results, Tryd.results6, go_sem, cz0]) rfl ⟨⟨_, rfl, (OwA.set HOv4.out (a := ⟨w.heap.size + 1, 0, none⟩) (by show w.heap.size + 1 < _; have := hlz; have := HZ1.out; have := HZ2.out; have := HZ3.out; have := HZ4.out;  omega) _).mono (by have := HZ1.out; have := HZ2.out; have := HZ3.out; have := HZ4.out;  omega) (by simp [World.setCell] <;> (have := HZ1.out; have := HZ2.out; have := HZ3.out; have := HZ4.out;  omega))⟩, HB4.out.setCell (p := ⟨w.heap.size + 1, 0, none⟩) (by show w.heap.size ≤ w.heap.size + 1; omega) _⟩
  · by_cases hox : okAm us xs
    · have HO := Lib.hid hox
      by_cases hn1 : n < 0
      · skip
        have HB0 : Hid (Below w.heap.size w w) := Lib.hid (Below.refl _ _)
        have HRu0 := Lib.hid (h)
        have HRx0 := Lib.hid (hx)
        clear h hs hx ho
        clear hox
        go_enter Tryd.func6, Tryd.ntmps6
        go_wp2_with fail
        have hb : Below w.heap.size w (w.alloc (.cells #[.slice a1 xs.length c1] 27)) := (Below.refl _ _).alloc (Nat.le_refl _) _
        have hk : (w.alloc (.cells #[.slice a1 xs.length c1] 27)).heap[w.heap.size]? = some (.cells #[.slice a1 xs.length c1] 27 (0, 0)) := alloc_at rfl
        have hz : (w.alloc (.cells #[.slice a1 xs.length c1] 27)).heap.size = w.heap.size + 1 := by simp
        generalize w.alloc (.cells #[.slice a1 xs.length c1] 27) = w1 at hb hk hz ⊢
        have HB1 : Hid (Below w.heap.size w w1) := Lib.hid (HB0.out.trans (hb.mono HB0.out.size))
        have HZ1 : Hid (w.heap.size ≤ w1.heap.size) := Lib.hid hb.size
        have HRu1 := Lib.hid (HRu0.out.below HB1.out (Nat.le_refl _))
        have HRx1 := Lib.hid (HRx0.out.below HB1.out (Nat.le_refl _))
        have HKx1 := Lib.hid hk
        replace HZ1 : Hid (w.heap.size < w1.heap.size) := Lib.hid (by omega)
        have HE1 := Lib.hid hz
        clear hb hk hz
        have hb : Below w1.heap.size w1 (w1.alloc (.cells #[.slice none 0 0] 27)) := (Below.refl _ _).alloc (Nat.le_refl _) _
        have hk : (w1.alloc (.cells #[.slice none 0 0] 27)).heap[w.heap.size + 1]? = some (.cells #[.slice none 0 0] 27 (0, 0)) := alloc_at (by have := HE1.out; omega)
        have hz : (w1.alloc (.cells #[.slice none 0 0] 27)).heap.size = w1.heap.size + 1 := by simp
        generalize w1.alloc (.cells #[.slice none 0 0] 27) = w2 at hb hk hz ⊢
        have HB2 : Hid (Below w.heap.size w w2) := Lib.hid (HB1.out.trans (hb.mono HB1.out.size))
        have HZ2 : Hid (w1.heap.size ≤ w2.heap.size) := Lib.hid hb.size
        have HRu2 := Lib.hid (HRu0.out.below HB2.out (Nat.le_refl _))
        have HRx2 := Lib.hid (HRx0.out.below HB2.out (Nat.le_refl _))
        have HKx2 := Lib.hid ((hb.block _ (lt_of_block HKx1.out)).trans HKx1.out)
        have HKz2 := Lib.hid hk
        replace HZ2 : Hid (w1.heap.size < w2.heap.size) := Lib.hid (by omega)
        have HE2 := Lib.hid hz
        clear hb hk hz
        have hlz : w.heap.size + 1 < w2.heap.size := lt_of_block HKz2.out
        have ltx := lt_of_block HKx2.out
        obtain ⟨cx0, fx0⟩ := cell1 HKx2.out
        have ltz := lt_of_block HKz2.out
        obtain ⟨cz0, fz0⟩ := cell1 HKz2.out
        refine (iVal_any _ _ us xs _ HRu2.out HS.out HRx2.out (valA us xs) true (.inl ⟨HO.out, rfl, rfl⟩)).mono ?_
        rintro e w3 ⟨rfl, hb⟩
        have HB3 : Hid (Below w.heap.size w w3) := Lib.hid (HB2.out.trans (hb.mono HB2.out.size))
        have HZ3 : Hid (w2.heap.size ≤ w3.heap.size) := Lib.hid hb.size
        have HRu3 := Lib.hid (HRu0.out.below HB3.out (Nat.le_refl _))
        have HRx3 := Lib.hid (HRx0.out.below HB3.out (Nat.le_refl _))
        have HKx3 := Lib.hid ((hb.block _ (lt_of_block HKx2.out)).trans HKx2.out)
        have HKz3 := Lib.hid ((hb.block _ (lt_of_block HKz2.out)).trans HKz2.out)
        clear hb
        clear cx0 fx0 ltx cz0 fz0 ltz
        have ltx := lt_of_block HKx3.out
        obtain ⟨cx0, fx0⟩ := cell1 HKx3.out
        have ltz := lt_of_block HKz3.out
        obtain ⟨cz0, fz0⟩ := cell1 HKz3.out
        go_wp2_with fail
        exact bodyPost_ret (v := .tuple #[.agg #[.slice none 0 0], .bool false]) (by simp [results, Tryd.results6, go_sem, cz0]) rfl ⟨⟨_, rfl, OwA.nil _ _ _⟩, by first | exact HB3.out | exact HB3.out.setCell (p := ⟨w.heap.size + 1, 0, none⟩) (by show w.heap.size ≤ w.heap.size + 1; omega) _⟩
      · have hn2 : 1000 < n := by have h5 : ¬ (0 ≤ n ∧ n ≤ 1000) := fun hy => ho ⟨hox, hy⟩; omega
        have HB0 : Hid (Below w.heap.size w w) := Lib.hid (Below.refl _ _)
        have HRu0 := Lib.hid (h)
        have HRx0 := Lib.hid (hx)
        clear h hs hx ho
        clear hox
        go_enter Tryd.func6, Tryd.ntmps6
        go_wp2_with fail
        have hb : Below w.heap.size w (w.alloc (.cells #[.slice a1 xs.length c1] 27)) := (Below.refl _ _).alloc (Nat.le_refl _) _
        have hk : (w.alloc (.cells #[.slice a1 xs.length c1] 27)).heap[w.heap.size]? = some (.cells #[.slice a1 xs.length c1] 27 (0, 0)) := alloc_at rfl
        have hz : (w.alloc (.cells #[.slice a1 xs.length c1] 27)).heap.size = w.heap.size + 1 := by simp
        generalize w.alloc (.cells #[.slice a1 xs.length c1] 27) = w1 at hb hk hz ⊢
        have HB1 : Hid (Below w.heap.size w w1) := Lib.hid (HB0.out.trans (hb.mono HB0.out.size))
        have HZ1 : Hid (w.heap.size ≤ w1.heap.size) := Lib.hid hb.size
        have HRu1 := Lib.hid (HRu0.out.below HB1.out (Nat.le_refl _))
        have HRx1 := Lib.hid (HRx0.out.below HB1.out (Nat.le_refl _))
        have HKx1 := Lib.hid hk
        replace HZ1 : Hid (w.heap.size < w1.heap.size) := Lib.hid (by omega)
        have HE1 := Lib.hid hz
        clear hb hk hz
        have hb : Below w1.heap.size w1 (w1.alloc (.cells #[.slice none 0 0] 27)) := (Below.refl _ _).alloc (Nat.le_refl _) _
        have hk : (w1.alloc (.cells #[.slice none 0 0] 27)).heap[w.heap.size + 1]? = some (.cells #[.slice none 0 0] 27 (0, 0)) := alloc_at (by have := HE1.out; omega)
        have hz : (w1.alloc (.cells #[.slice none 0 0] 27)).heap.size = w1.heap.size + 1 := by simp
        generalize w1.alloc (.cells #[.slice none 0 0] 27) = w2 at hb hk hz ⊢
        have HB2 : Hid (Below w.heap.size w w2) := Lib.hid (HB1.out.trans (hb.mono HB1.out.size))
        have HZ2 : Hid (w1.heap.size ≤ w2.heap.size) := Lib.hid hb.size
        have HRu2 := Lib.hid (HRu0.out.below HB2.out (Nat.le_refl _))
        have HRx2 := Lib.hid (HRx0.out.below HB2.out (Nat.le_refl _))
        have HKx2 := Lib.hid ((hb.block _ (lt_of_block HKx1.out)).trans HKx1.out)
        have HKz2 := Lib.hid hk
        replace HZ2 : Hid (w1.heap.size < w2.heap.size) := Lib.hid (by omega)
        have HE2 := Lib.hid hz
        clear hb hk hz
        have hlz : w.heap.size + 1 < w2.heap.size := lt_of_block HKz2.out
        have ltx := lt_of_block HKx2.out
        obtain ⟨cx0, fx0⟩ := cell1 HKx2.out
        have ltz := lt_of_block HKz2.out
        obtain ⟨cz0, fz0⟩ := cell1 HKz2.out
        refine (iVal_any _ _ us xs _ HRu2.out HS.out HRx2.out (valA us xs) true (.inl ⟨HO.out, rfl, rfl⟩)).mono ?_
        rintro e w3 ⟨rfl, hb⟩
        have HB3 : Hid (Below w.heap.size w w3) := Lib.hid (HB2.out.trans (hb.mono HB2.out.size))
        have HZ3 : Hid (w2.heap.size ≤ w3.heap.size) := Lib.hid hb.size
        have HRu3 := Lib.hid (HRu0.out.below HB3.out (Nat.le_refl _))
        have HRx3 := Lib.hid (HRx0.out.below HB3.out (Nat.le_refl _))
        have HKx3 := Lib.hid ((hb.block _ (lt_of_block HKx2.out)).trans HKx2.out)
        have HKz3 := Lib.hid ((hb.block _ (lt_of_block HKz2.out)).trans HKz2.out)
        clear hb
        clear cx0 fx0 ltx cz0 fz0 ltz
        have ltx := lt_of_block HKx3.out
        obtain ⟨cx0, fx0⟩ := cell1 HKx3.out
        have ltz := lt_of_block HKz3.out
        obtain ⟨cz0, fz0⟩ := cell1 HKz3.out
        go_wp2_with fail
        exact bodyPost_ret (v := .tuple #[.agg #[.slice none 0 0], .bool false]) (by simp [results, Tryd.results6, go_sem, cz0]) rfl ⟨⟨_, rfl, OwA.nil _ _ _⟩, by first | exact HB3.out | exact HB3.out.setCell (p := ⟨w.heap.size + 1, 0, none⟩) (by show w.heap.size ≤ w.heap.size + 1; omega) _⟩
    · have HN := Lib.hid hox
      have HB0 : Hid (Below w.heap.size w w) := Lib.hid (Below.refl _ _)
      have HRu0 := Lib.hid (h)
      have HRx0 := Lib.hid (hx)
      clear h hs hx ho
      clear hox
      go_enter Tryd.func6, Tryd.ntmps6
      go_wp2_with fail
      have hb : Below w.heap.size w (w.alloc (.cells #[.slice a1 xs.length c1] 27)) := (Below.refl _ _).alloc (Nat.le_refl _) _
      have hk : (w.alloc (.cells #[.slice a1 xs.length c1] 27)).heap[w.heap.size]? = some (.cells #[.slice a1 xs.length c1] 27 (0, 0)) := alloc_at rfl
      have hz : (w.alloc (.cells #[.slice a1 xs.length c1] 27)).heap.size = w.heap.size + 1 := by simp
      generalize w.alloc (.cells #[.slice a1 xs.length c1] 27) = w1 at hb hk hz ⊢
      have HB1 : Hid (Below w.heap.size w w1) := Lib.hid (HB0.out.trans (hb.mono HB0.out.size))
      have HZ1 : Hid (w.heap.size ≤ w1.heap.size) := Lib.hid hb.size
      have HRu1 := Lib.hid (HRu0.out.below HB1.out (Nat.le_refl _))
      have HRx1 := Lib.hid (HRx0.out.below HB1.out (Nat.le_refl _))
      have HKx1 := Lib.hid hk
      replace HZ1 : Hid (w.heap.size < w1.heap.size) := Lib.hid (by omega)
      have HE1 := Lib.hid hz
      clear hb hk hz
      have hb : Below w1.heap.size w1 (w1.alloc (.cells #[.slice none 0 0] 27)) := (Below.refl _ _).alloc (Nat.le_refl _) _
      have hk : (w1.alloc (.cells #[.slice none 0 0] 27)).heap[w.heap.size + 1]? = some (.cells #[.slice none 0 0] 27 (0, 0)) := alloc_at (by have := HE1.out; omega)
      have hz : (w1.alloc (.cells #[.slice none 0 0] 27)).heap.size = w1.heap.size + 1 := by simp
      generalize w1.alloc (.cells #[.slice none 0 0] 27) = w2 at hb hk hz ⊢
      have HB2 : Hid (Below w.heap.size w w2) := Lib.hid (HB1.out.trans (hb.mono HB1.out.size))
      have HZ2 : Hid (w1.heap.size ≤ w2.heap.size) := Lib.hid hb.size
      have HRu2 := Lib.hid (HRu0.out.below HB2.out (Nat.le_refl _))
      have HRx2 := Lib.hid (HRx0.out.below HB2.out (Nat.le_refl _))
      have HKx2 := Lib.hid ((hb.block _ (lt_of_block HKx1.out)).trans HKx1.out)
      have HKz2 := Lib.hid hk
      replace HZ2 : Hid (w1.heap.size < w2.heap.size) := Lib.hid (by omega)
      have HE2 := Lib.hid hz
      clear hb hk hz
      have hlz : w.heap.size + 1 < w2.heap.size := lt_of_block HKz2.out
      have ltx := lt_of_block HKx2.out
      obtain ⟨cx0, fx0⟩ := cell1 HKx2.out
      have ltz := lt_of_block HKz2.out
      obtain ⟨cz0, fz0⟩ := cell1 HKz2.out
      refine (iVal_any _ _ us xs _ HRu2.out HS.out HRx2.out 0 false (.inr ⟨HN.out, rfl, rfl⟩)).mono ?_
      rintro e w3 ⟨rfl, hb⟩
      have HB3 : Hid (Below w.heap.size w w3) := Lib.hid (HB2.out.trans (hb.mono HB2.out.size))
      have HZ3 : Hid (w2.heap.size ≤ w3.heap.size) := Lib.hid hb.size
      have HRu3 := Lib.hid (HRu0.out.below HB3.out (Nat.le_refl _))
      have HRx3 := Lib.hid (HRx0.out.below HB3.out (Nat.le_refl _))
      have HKx3 := Lib.hid ((hb.block _ (lt_of_block HKx2.out)).trans HKx2.out)
      have HKz3 := Lib.hid ((hb.block _ (lt_of_block HKz2.out)).trans HKz2.out)
      clear hb
      clear cx0 fx0 ltx cz0 fz0 ltz
      have ltx := lt_of_block HKx3.out
      obtain ⟨cx0, fx0⟩ := cell1 HKx3.out
      have ltz := lt_of_block HKz3.out
      obtain ⟨cz0, fz0⟩ := cell1 HKz3.out
      go_wp2_with fail
      exact bodyPost_ret (v := .tuple #[.agg #[.slice none 0 0], .bool false]) (by simp [results, Tryd.results6, go_sem, cz0]) rfl ⟨⟨_, rfl, OwA.nil _ _ _⟩, by first | exact HB3.out | exact HB3.out.setCell (p := ⟨w.heap.size + 1, 0, none⟩) (by show w.heap.size ≤ w.heap.size + 1; omega) _⟩
end Go.Proofs.YtghdmiimanhjgaaDoor
