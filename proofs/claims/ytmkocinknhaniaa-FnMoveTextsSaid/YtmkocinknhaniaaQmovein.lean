/- The program's moveIn. -/
import Derived.Test.YtmkocinknhaniaaPmath
import Derived.Test.YtmkocinknhaniaaOwn
import Derived.Lib.Bytealg
import Derived.Lib.Walk
import Derived.Laws.IdiomStrings
import Derived.BigRegion
import Derived.StillTailTactics
namespace Go.Proofs.Ytmkocinknhaniaa
set_option linter.unusedVariables false
open Go.RowKit

theorem signDigit_any (b : UInt8) (w : World) : Calls Try.prog 41 #[.int .u8 (b.toNat : Int)] w fun e w' => e = .returned (.int .i64 ((b.toNat : Int) - 48)) ∧ w' = w := by
  have h0 : (0 : Int) ≤ (b.toNat : Int) := by omega
  have h1 : (b.toNat : Int) < 256 := by have := b.toNat_lt; omega
  generalize (b.toNat : Int) = x at h0 h1
  go_enter Try.func41, Try.ntmps41
  go_wp2_with fail
  go_ret
  exact ⟨rfl, rfl⟩
theorem signDigit_is (b : UInt8) (x : Int) (w : World) (hx : (b.toNat : Int) - 48 = x) : Calls Try.prog 41 #[.int .u8 (b.toNat : Int)] w fun e w' => e = .returned (.int .i64 x) ∧ w' = w := by
  subst hx; exact signDigit_any b w
theorem isl_any (s : ByteArray) (c : Int) (w : World) : Calls Try.prog 50 #[.string s, .int .u8 c] w fun e w' => e = .returned (.int .i64 (Lib.indexByte s.data.toList c.toNat.toUInt8)) ∧ w' = w := by
  go_enter Try.func50, Try.ntmps50
  go_wp2_with fail
  rw [run_callFunc_extern Try.func55 (by kernel_rfl) (by kernel_rfl) (by kernel_rfl) (e := Extern.BytealgIndexByte.indexByte) (by kernel_rfl), Lib.run_indexByteString]
  simp only [Result.andThen]
  rw [Oper.upon_value]
  go_wp2_with fail
  go_ret
  exact ⟨rfl, rfl⟩
theorem sib_any (s : ByteArray) (c : Int) (w : World) : Calls Try.prog 42 #[.string s, .int .u8 c] w fun e w' => e = .returned (.int .i64 (Lib.indexByte s.data.toList c.toNat.toUInt8)) ∧ w' = w := by
  go_enter Try.func42, Try.ntmps42
  go_wp2_with fail
  refine (isl_any s c _).mono ?_
  rintro e w' ⟨rfl, hw⟩
  subst w'
  go_wp2_with fail
  go_ret
  exact ⟨rfl, rfl⟩
theorem ulI_ix (b : UInt8) : Lib.indexByte (ByteArray.mk #[117, 108]).data.toList ((b.toNat : Int).toNat.toUInt8) = ulI b := by
  have hb : ((b.toNat : Int).toNat.toUInt8) = b := by simp
  rw [hb]
  show Lib.indexByte [117, 108] b = _
  unfold ulI Lib.indexByte Lib.indexByte Lib.indexByte
  by_cases h1 : b = 117
  · subst h1; rfl
  · by_cases h2 : b = 108
    · subst h2; rfl
    · have e1 : ((117 : UInt8) == b) = false := by rw [beq_eq_false_iff_ne]; exact fun e => h1 e.symm
      have e2 : ((108 : UInt8) == b) = false := by rw [beq_eq_false_iff_ne]; exact fun e => h2 e.symm
      rw [if_neg h1, if_neg h2]
      simp [e1, e2]
theorem sib_is (b : UInt8) (u : Int) (w : World) (hu : ulI b = u) : Calls Try.prog 42 #[.string ⟨#[117, 108]⟩, .int .u8 (b.toNat : Int)] w fun e w' => e = .returned (.int .i64 u) ∧ w' = w := by
  have := sib_any ⟨#[117, 108]⟩ (b.toNat : Int) w
  rwa [ulI_ix b, hu] at this

-- MOVEIN
set_option maxRecDepth 100000 in
set_option maxHeartbeats 1600000 in
theorem moveIn_any (s : ByteArray) (w : World) (h : s.size = 4) (a b c d : UInt8) (ha : s[0] = a) (hbq : s[1] = b) (hc : s[2] = c) (hd : s[3] = d) :
    Calls Try.prog 26 #[.string s] w fun e w' => e = .returned (mvV (mvI a b c d)) ∧ Below w.heap.size w w' := by
  have n0 : (0 : Int) < (s.size : Int) := by omega
  have n1 : (1 : Int) < (s.size : Int) := by omega
  have n2 : (2 : Int) < (s.size : Int) := by omega
  have n3 : (3 : Int) < (s.size : Int) := by omega
  obtain ⟨rr, hrr⟩ : ∃ rr : Int, (a.toNat : Int) - 48 = rr := ⟨_, rfl⟩
  obtain ⟨dd, hdd⟩ : ∃ dd : Int, (d.toNat : Int) - 48 = dd := ⟨_, rfl⟩
  obtain ⟨uu, huu⟩ : ∃ uu : Int, ulI b = uu := ⟨_, rfl⟩
  have w4' : IntKind.i64.wrap (-dd) = -dd := by have := d.toNat_lt; rw [IntKind.wrap_i64]; omega
  have HRR := Lib.hid hrr
  have HDD := Lib.hid hdd
  have HUU := Lib.hid huu
  clear hrr hdd huu
  have HB0 : Hid (Below w.heap.size w w) := Lib.hid (Below.refl _ _)
  go_enter Try.func26, Try.ntmps26
  go_wp2_with fail
  have hb : Below w.heap.size w (w.alloc (.cells #[.int .i64 0, .int .i64 0, .int .i64 0] 40)) := (Below.refl _ _).alloc (Nat.le_refl _) _
  have hk : (w.alloc (.cells #[.int .i64 0, .int .i64 0, .int .i64 0] 40)).heap[w.heap.size]? = some (.cells #[.int .i64 0, .int .i64 0, .int .i64 0] 40 (0, 0)) := alloc_at rfl
  have hz : (w.alloc (.cells #[.int .i64 0, .int .i64 0, .int .i64 0] 40)).heap.size = w.heap.size + 1 := by simp
  generalize w.alloc (.cells #[.int .i64 0, .int .i64 0, .int .i64 0] 40) = w1 at hb hk hz ⊢
  have HB1 : Hid (Below w.heap.size w w1) := Lib.hid (HB0.out.trans (hb.mono HB0.out.size))
  have HZ1 : Hid (w.heap.size ≤ w1.heap.size) := Lib.hid hb.size
  have HKz1 := Lib.hid hk
  replace HZ1 : Hid (w.heap.size < w1.heap.size) := Lib.hid (by omega)
  have HE1 := Lib.hid hz
  clear hb hk hz
  have ltz := lt_of_block HKz1.out
  obtain ⟨cz0, cz1, cz2, fz0, fz1, fz2⟩ := cell3 HKz1.out
  refine wp_region_held_drew (S := (fun _ => True)) (by kernel_rfl) (trivial) (fun hHeld => ?_)
  refine take1 (i := 0) (v := ?v1) (some 4) rfl rfl (by kernel_rfl) (by kernel_rfl) (by kernel_rfl) (fun _ _ _ h => h) (Or.inl ⟨by rfl, ?y1⟩) (by assumption) ?r1
  case y1 => (intro w hSw; (try dsimp only at hSw); go_simp; (first | done | with_reducible rfl))
  try simp only [Act.put, List.setIfInBounds_toArray, List.set_cons_zero, List.set_cons_succ]
  refine take1 (i := 1) (v := ?v2) (some 5) rfl rfl (by kernel_rfl) (by kernel_rfl) (by kernel_rfl) (fun _ _ _ h => h) (Or.inl ⟨by rfl, ?y2⟩) (by assumption) ?r2
  case y2 => (intro w hSw; (try dsimp only at hSw); go_simp; (first | done | with_reducible rfl))
  try simp only [Act.put, List.setIfInBounds_toArray, List.set_cons_zero, List.set_cons_succ]
  refine take1 (i := 3) (v := ?v3) (some 7) rfl rfl (by kernel_rfl) (by kernel_rfl) (by kernel_rfl) (fun _ _ _ h => h) (Or.inl ⟨by rfl, ?y3⟩) (by assumption) ?r3
  case y3 => (intro w hSw; (try dsimp only at hSw); go_simp; (first | done | with_reducible rfl))
  try simp only [Act.put, List.setIfInBounds_toArray, List.set_cons_zero, List.set_cons_succ]
  refine take1 (i := 4) (v := ?v4) (some 8) rfl rfl (by kernel_rfl) (by kernel_rfl) (by kernel_rfl) (fun _ _ _ h => h) (Or.inl ⟨by rfl, ?y4⟩) (by assumption) ?r4
  case y4 => (intro w hSw; (try dsimp only at hSw); go_simp; (first | done | with_reducible rfl))
  try simp only [Act.put, List.setIfInBounds_toArray, List.set_cons_zero, List.set_cons_succ]
  refine take1 (i := 6) (v := ?v5) (some 10) rfl rfl (by kernel_rfl) (by kernel_rfl) (by kernel_rfl) (fun _ _ _ h => h) (Or.inl ⟨by rfl, ?y5⟩) (by assumption) ?r5
  case y5 => (intro w hSw; (try dsimp only at hSw); go_simp; (first | done | with_reducible rfl))
  try simp only [Act.put, List.setIfInBounds_toArray, List.set_cons_zero, List.set_cons_succ]
  refine take1 (i := 7) (v := ?v6) (some 11) rfl rfl (by kernel_rfl) (by kernel_rfl) (by kernel_rfl) (fun _ _ _ h => h) (Or.inl ⟨by rfl, ?y6⟩) (by assumption) ?r6
  case y6 => (intro w hSw; (try dsimp only at hSw); go_simp; (first | done | with_reducible rfl))
  try simp only [Act.put, List.setIfInBounds_toArray, List.set_cons_zero, List.set_cons_succ]
  refine wpAnyH_ready (rs := [2, 10]) (by kernel_rfl) (by simp) ?_
  refine AllReadyH.cons rfl (fun K hK => ?_) (AllReadyH.cons rfl (fun K hK => ?_) AllReadyH.nil)
  · go_simp
    go_at_call 41
    refine (signDigit_is a rr _ HRR.out).mono ?_
    rintro e w20 ⟨rfl, hw⟩
    subst hw
    try go_simp
    refine hK.out _ _ (trivial) (fun hHeld => ?_)
    clear hK K
    try simp only [Act.put, List.setIfInBounds_toArray, List.set_cons_zero, List.set_cons_succ]
    refine wpAnyH_ready (rs := [5, 10]) (by kernel_rfl) (by simp) ?_
    refine AllReadyH.cons rfl (fun K hK => ?_) (AllReadyH.cons rfl (fun K hK => ?_) AllReadyH.nil)
    · go_simp
      go_at_call 42
      refine (sib_is b uu _ HUU.out).mono ?_
      rintro e w20 ⟨rfl, hw⟩
      subst hw
      try go_simp
      refine hK.out _ _ (trivial) (fun hHeld => ?_)
      clear hK K
      try simp only [Act.put, List.setIfInBounds_toArray, List.set_cons_zero, List.set_cons_succ]
      refine wpAnyH_ready (rs := [8, 10]) (by kernel_rfl) (by simp) ?_
      refine AllReadyH.cons rfl (fun K hK => ?_) (AllReadyH.cons rfl (fun K hK => ?_) AllReadyH.nil)
      · go_simp
        go_at_call 41
        refine (signDigit_is d dd _ HDD.out).mono ?_
        rintro e w20 ⟨rfl, hw⟩
        subst hw
        try go_simp
        refine hK.out _ _ (trivial) (fun hHeld => ?_)
        clear hK K
        try simp only [Act.put, List.setIfInBounds_toArray, List.set_cons_zero, List.set_cons_succ]
        refine take1 (i := 9) (v := ?v7) (some 13) rfl rfl (by kernel_rfl) (by kernel_rfl) (by kernel_rfl) (fun _ _ _ h => h) (Or.inl ⟨by rfl, ?y7⟩) (by assumption) ?r7
        case y7 => (intro w hSw; (try dsimp only at hSw); go_simp; (first | done | with_reducible rfl))
        try simp only [Act.put, List.setIfInBounds_toArray, List.set_cons_zero, List.set_cons_succ]
        refine wpAnyH_ready (rs := [10]) (by kernel_rfl) (by simp) ?_
        refine AllReadyH.cons rfl (fun K hK => ?_) AllReadyH.nil
        go_simp
        refine hK.out _ _ (trivial) (fun hHeld => ?_)
        clear hK K
        try simp only [Act.put, List.setIfInBounds_toArray, List.set_cons_zero, List.set_cons_succ]
        refine wpAnyH_ready (rs := [11]) (by kernel_rfl) (by simp) ?_
        refine AllReadyH.cons rfl (fun K hK => ?_) AllReadyH.nil
        go_simp
        refine hK.out _ _ (trivial) (fun hHeld => ?_)
        clear hK K
        try simp only [Act.put]
        refine wpAnyH_done (by kernel_rfl) ?_ _
        have hb : Below w1.heap.size w1 (w1.alloc (.cells #[.int .i64 rr, .int .i64 uu, .int .i64 dd] 40)) := (Below.refl _ _).alloc (Nat.le_refl _) _
        have hk : (w1.alloc (.cells #[.int .i64 rr, .int .i64 uu, .int .i64 dd] 40)).heap[w1.heap.size]? = some (.cells #[.int .i64 rr, .int .i64 uu, .int .i64 dd] 40 (0, 0)) := alloc_at rfl
        have hz : (w1.alloc (.cells #[.int .i64 rr, .int .i64 uu, .int .i64 dd] 40)).heap.size = w1.heap.size + 1 := by simp
        generalize w1.alloc (.cells #[.int .i64 rr, .int .i64 uu, .int .i64 dd] 40) = w2 at hb hk hz ⊢
        have HB2 : Hid (Below w.heap.size w w2) := Lib.hid (HB1.out.trans (hb.mono HB1.out.size))
        have HZ2 : Hid (w1.heap.size ≤ w2.heap.size) := Lib.hid hb.size
        have HKz2 := Lib.hid ((hb.block _ (lt_of_block HKz1.out)).trans HKz1.out)
        have HKm2 := Lib.hid hk
        replace HZ2 : Hid (w1.heap.size < w2.heap.size) := Lib.hid (by omega)
        have HE2 := Lib.hid hz
        clear hb hk hz
        have hb : Below w2.heap.size w2 w2.drew := (Below.refl _ _).drew
        generalize w2.drew = w3 at hb ⊢
        have HB3 : Hid (Below w.heap.size w w3) := Lib.hid (HB2.out.trans (hb.mono HB2.out.size))
        have HZ3 : Hid (w2.heap.size ≤ w3.heap.size) := Lib.hid hb.size
        have HKz3 := Lib.hid ((hb.block _ (lt_of_block HKz2.out)).trans HKz2.out)
        have HKm3 := Lib.hid ((hb.block _ (lt_of_block HKm2.out)).trans HKm2.out)
        clear hb
        clear cz0 cz1 cz2 fz0 fz1 fz2 ltz
        have ltz := lt_of_block HKz3.out
        obtain ⟨cz0, cz1, cz2, fz0, fz1, fz2⟩ := cell3 HKz3.out
        have ltm := lt_of_block HKm3.out
        obtain ⟨cm0, cm1, cm2, fm0, fm1, fm2⟩ := cell3 HKm3.out
        have hzz : w.heap.size < w1.heap.size := by have := HE1.out; omega
        by_cases hc1 : c = 45
        · have hB : Hid (mvV (mvI a b c d) = .agg #[.int .i64 rr, .int .i64 uu, .int .i64 (-dd)]) := Lib.hid (by unfold mvV mvI; dsimp only; rw [if_pos hc1, HRR.out, HDD.out, HUU.out])
          have hcb : ((c.toNat : Int) == 45) = true := by rw [hc1]; rfl
          clear hc1
          go_wp2_with fail
          exact bodyPost_ret (v := .agg #[.int .i64 rr, .int .i64 uu, .int .i64 (-dd)]) (by simp [results, Try.results26, go_sem, cz0, cz1, cz2]) rfl ⟨by rw [hB.out], bl_set3 (HB3.out.setCell (p := ⟨w1.heap.size, 2, none⟩) (by show w.heap.size ≤ w1.heap.size; omega) _) (Nat.le_refl _) _ _ _⟩
        · have hB : Hid (mvV (mvI a b c d) = .agg #[.int .i64 rr, .int .i64 uu, .int .i64 dd]) := Lib.hid (by unfold mvV mvI; dsimp only; rw [if_neg hc1, HRR.out, HDD.out, HUU.out])
          have hcb : ((c.toNat : Int) == 45) = false := by rw [beq_eq_false_iff_ne]; intro e; exact hc1 (UInt8.toNat_inj.1 (by have : (45 : UInt8).toNat = 45 := rfl; omega))
          clear hc1
          go_wp2_with fail
          exact bodyPost_ret (v := .agg #[.int .i64 rr, .int .i64 uu, .int .i64 dd]) (by simp [results, Try.results26, go_sem, cz0, cz1, cz2]) rfl ⟨by rw [hB.out], bl_set3 HB3.out (Nat.le_refl _) _ _ _⟩
      · go_simp
        refine hK.out _ _ (trivial) (fun hHeld => ?_)
        clear hK K
        try simp only [Act.put, List.setIfInBounds_toArray, List.set_cons_zero, List.set_cons_succ]
        refine wpAnyH_ready (rs := [8]) (by kernel_rfl) (by simp) ?_
        refine AllReadyH.cons rfl (fun K hK => ?_) AllReadyH.nil
        go_simp
        go_at_call 41
        refine (signDigit_is d dd _ HDD.out).mono ?_
        rintro e w20 ⟨rfl, hw⟩
        subst hw
        try go_simp
        refine hK.out _ _ (trivial) (fun hHeld => ?_)
        clear hK K
        try simp only [Act.put, List.setIfInBounds_toArray, List.set_cons_zero, List.set_cons_succ]
        refine take1 (i := 9) (v := ?v8) (some 13) rfl rfl (by kernel_rfl) (by kernel_rfl) (by kernel_rfl) (fun _ _ _ h => h) (Or.inl ⟨by rfl, ?y8⟩) (by assumption) ?r8
        case y8 => (intro w hSw; (try dsimp only at hSw); go_simp; (first | done | with_reducible rfl))
        try simp only [Act.put, List.setIfInBounds_toArray, List.set_cons_zero, List.set_cons_succ]
        refine wpAnyH_ready (rs := [11]) (by kernel_rfl) (by simp) ?_
        refine AllReadyH.cons rfl (fun K hK => ?_) AllReadyH.nil
        go_simp
        refine hK.out _ _ (trivial) (fun hHeld => ?_)
        clear hK K
        try simp only [Act.put]
        refine wpAnyH_done (by kernel_rfl) ?_ _
        have hb : Below w1.heap.size w1 (w1.alloc (.cells #[.int .i64 rr, .int .i64 uu, .int .i64 dd] 40)) := (Below.refl _ _).alloc (Nat.le_refl _) _
        have hk : (w1.alloc (.cells #[.int .i64 rr, .int .i64 uu, .int .i64 dd] 40)).heap[w1.heap.size]? = some (.cells #[.int .i64 rr, .int .i64 uu, .int .i64 dd] 40 (0, 0)) := alloc_at rfl
        have hz : (w1.alloc (.cells #[.int .i64 rr, .int .i64 uu, .int .i64 dd] 40)).heap.size = w1.heap.size + 1 := by simp
        generalize w1.alloc (.cells #[.int .i64 rr, .int .i64 uu, .int .i64 dd] 40) = w2 at hb hk hz ⊢
        have HB2 : Hid (Below w.heap.size w w2) := Lib.hid (HB1.out.trans (hb.mono HB1.out.size))
        have HZ2 : Hid (w1.heap.size ≤ w2.heap.size) := Lib.hid hb.size
        have HKz2 := Lib.hid ((hb.block _ (lt_of_block HKz1.out)).trans HKz1.out)
        have HKm2 := Lib.hid hk
        replace HZ2 : Hid (w1.heap.size < w2.heap.size) := Lib.hid (by omega)
        have HE2 := Lib.hid hz
        clear hb hk hz
        have hb : Below w2.heap.size w2 w2.drew := (Below.refl _ _).drew
        generalize w2.drew = w3 at hb ⊢
        have HB3 : Hid (Below w.heap.size w w3) := Lib.hid (HB2.out.trans (hb.mono HB2.out.size))
        have HZ3 : Hid (w2.heap.size ≤ w3.heap.size) := Lib.hid hb.size
        have HKz3 := Lib.hid ((hb.block _ (lt_of_block HKz2.out)).trans HKz2.out)
        have HKm3 := Lib.hid ((hb.block _ (lt_of_block HKm2.out)).trans HKm2.out)
        clear hb
        clear cz0 cz1 cz2 fz0 fz1 fz2 ltz
        have ltz := lt_of_block HKz3.out
        obtain ⟨cz0, cz1, cz2, fz0, fz1, fz2⟩ := cell3 HKz3.out
        have ltm := lt_of_block HKm3.out
        obtain ⟨cm0, cm1, cm2, fm0, fm1, fm2⟩ := cell3 HKm3.out
        have hzz : w.heap.size < w1.heap.size := by have := HE1.out; omega
        by_cases hc1 : c = 45
        · have hB : Hid (mvV (mvI a b c d) = .agg #[.int .i64 rr, .int .i64 uu, .int .i64 (-dd)]) := Lib.hid (by unfold mvV mvI; dsimp only; rw [if_pos hc1, HRR.out, HDD.out, HUU.out])
          have hcb : ((c.toNat : Int) == 45) = true := by rw [hc1]; rfl
          clear hc1
          go_wp2_with fail
          exact bodyPost_ret (v := .agg #[.int .i64 rr, .int .i64 uu, .int .i64 (-dd)]) (by simp [results, Try.results26, go_sem, cz0, cz1, cz2]) rfl ⟨by rw [hB.out], bl_set3 (HB3.out.setCell (p := ⟨w1.heap.size, 2, none⟩) (by show w.heap.size ≤ w1.heap.size; omega) _) (Nat.le_refl _) _ _ _⟩
        · have hB : Hid (mvV (mvI a b c d) = .agg #[.int .i64 rr, .int .i64 uu, .int .i64 dd]) := Lib.hid (by unfold mvV mvI; dsimp only; rw [if_neg hc1, HRR.out, HDD.out, HUU.out])
          have hcb : ((c.toNat : Int) == 45) = false := by rw [beq_eq_false_iff_ne]; intro e; exact hc1 (UInt8.toNat_inj.1 (by have : (45 : UInt8).toNat = 45 := rfl; omega))
          clear hc1
          go_wp2_with fail
          exact bodyPost_ret (v := .agg #[.int .i64 rr, .int .i64 uu, .int .i64 dd]) (by simp [results, Try.results26, go_sem, cz0, cz1, cz2]) rfl ⟨by rw [hB.out], bl_set3 HB3.out (Nat.le_refl _) _ _ _⟩
    · go_simp
      refine hK.out _ _ (trivial) (fun hHeld => ?_)
      clear hK K
      try simp only [Act.put, List.setIfInBounds_toArray, List.set_cons_zero, List.set_cons_succ]
      refine wpAnyH_ready (rs := [5]) (by kernel_rfl) (by simp) ?_
      refine AllReadyH.cons rfl (fun K hK => ?_) AllReadyH.nil
      go_simp
      go_at_call 42
      refine (sib_is b uu _ HUU.out).mono ?_
      rintro e w20 ⟨rfl, hw⟩
      subst hw
      try go_simp
      refine hK.out _ _ (trivial) (fun hHeld => ?_)
      clear hK K
      try simp only [Act.put, List.setIfInBounds_toArray, List.set_cons_zero, List.set_cons_succ]
      refine wpAnyH_ready (rs := [8]) (by kernel_rfl) (by simp) ?_
      refine AllReadyH.cons rfl (fun K hK => ?_) AllReadyH.nil
      go_simp
      go_at_call 41
      refine (signDigit_is d dd _ HDD.out).mono ?_
      rintro e w20 ⟨rfl, hw⟩
      subst hw
      try go_simp
      refine hK.out _ _ (trivial) (fun hHeld => ?_)
      clear hK K
      try simp only [Act.put, List.setIfInBounds_toArray, List.set_cons_zero, List.set_cons_succ]
      refine take1 (i := 9) (v := ?v9) (some 13) rfl rfl (by kernel_rfl) (by kernel_rfl) (by kernel_rfl) (fun _ _ _ h => h) (Or.inl ⟨by rfl, ?y9⟩) (by assumption) ?r9
      case y9 => (intro w hSw; (try dsimp only at hSw); go_simp; (first | done | with_reducible rfl))
      try simp only [Act.put, List.setIfInBounds_toArray, List.set_cons_zero, List.set_cons_succ]
      refine wpAnyH_ready (rs := [11]) (by kernel_rfl) (by simp) ?_
      refine AllReadyH.cons rfl (fun K hK => ?_) AllReadyH.nil
      go_simp
      refine hK.out _ _ (trivial) (fun hHeld => ?_)
      clear hK K
      try simp only [Act.put]
      refine wpAnyH_done (by kernel_rfl) ?_ _
      have hb : Below w1.heap.size w1 (w1.alloc (.cells #[.int .i64 rr, .int .i64 uu, .int .i64 dd] 40)) := (Below.refl _ _).alloc (Nat.le_refl _) _
      have hk : (w1.alloc (.cells #[.int .i64 rr, .int .i64 uu, .int .i64 dd] 40)).heap[w1.heap.size]? = some (.cells #[.int .i64 rr, .int .i64 uu, .int .i64 dd] 40 (0, 0)) := alloc_at rfl
      have hz : (w1.alloc (.cells #[.int .i64 rr, .int .i64 uu, .int .i64 dd] 40)).heap.size = w1.heap.size + 1 := by simp
      generalize w1.alloc (.cells #[.int .i64 rr, .int .i64 uu, .int .i64 dd] 40) = w2 at hb hk hz ⊢
      have HB2 : Hid (Below w.heap.size w w2) := Lib.hid (HB1.out.trans (hb.mono HB1.out.size))
      have HZ2 : Hid (w1.heap.size ≤ w2.heap.size) := Lib.hid hb.size
      have HKz2 := Lib.hid ((hb.block _ (lt_of_block HKz1.out)).trans HKz1.out)
      have HKm2 := Lib.hid hk
      replace HZ2 : Hid (w1.heap.size < w2.heap.size) := Lib.hid (by omega)
      have HE2 := Lib.hid hz
      clear hb hk hz
      have hb : Below w2.heap.size w2 w2.drew := (Below.refl _ _).drew
      generalize w2.drew = w3 at hb ⊢
      have HB3 : Hid (Below w.heap.size w w3) := Lib.hid (HB2.out.trans (hb.mono HB2.out.size))
      have HZ3 : Hid (w2.heap.size ≤ w3.heap.size) := Lib.hid hb.size
      have HKz3 := Lib.hid ((hb.block _ (lt_of_block HKz2.out)).trans HKz2.out)
      have HKm3 := Lib.hid ((hb.block _ (lt_of_block HKm2.out)).trans HKm2.out)
      clear hb
      clear cz0 cz1 cz2 fz0 fz1 fz2 ltz
      have ltz := lt_of_block HKz3.out
      obtain ⟨cz0, cz1, cz2, fz0, fz1, fz2⟩ := cell3 HKz3.out
      have ltm := lt_of_block HKm3.out
      obtain ⟨cm0, cm1, cm2, fm0, fm1, fm2⟩ := cell3 HKm3.out
      have hzz : w.heap.size < w1.heap.size := by have := HE1.out; omega
      by_cases hc1 : c = 45
      · have hB : Hid (mvV (mvI a b c d) = .agg #[.int .i64 rr, .int .i64 uu, .int .i64 (-dd)]) := Lib.hid (by unfold mvV mvI; dsimp only; rw [if_pos hc1, HRR.out, HDD.out, HUU.out])
        have hcb : ((c.toNat : Int) == 45) = true := by rw [hc1]; rfl
        clear hc1
        go_wp2_with fail
        exact bodyPost_ret (v := .agg #[.int .i64 rr, .int .i64 uu, .int .i64 (-dd)]) (by simp [results, Try.results26, go_sem, cz0, cz1, cz2]) rfl ⟨by rw [hB.out], bl_set3 (HB3.out.setCell (p := ⟨w1.heap.size, 2, none⟩) (by show w.heap.size ≤ w1.heap.size; omega) _) (Nat.le_refl _) _ _ _⟩
      · have hB : Hid (mvV (mvI a b c d) = .agg #[.int .i64 rr, .int .i64 uu, .int .i64 dd]) := Lib.hid (by unfold mvV mvI; dsimp only; rw [if_neg hc1, HRR.out, HDD.out, HUU.out])
        have hcb : ((c.toNat : Int) == 45) = false := by rw [beq_eq_false_iff_ne]; intro e; exact hc1 (UInt8.toNat_inj.1 (by have : (45 : UInt8).toNat = 45 := rfl; omega))
        clear hc1
        go_wp2_with fail
        exact bodyPost_ret (v := .agg #[.int .i64 rr, .int .i64 uu, .int .i64 dd]) (by simp [results, Try.results26, go_sem, cz0, cz1, cz2]) rfl ⟨by rw [hB.out], bl_set3 HB3.out (Nat.le_refl _) _ _ _⟩
  · go_simp
    refine hK.out _ _ (trivial) (fun hHeld => ?_)
    clear hK K
    try simp only [Act.put, List.setIfInBounds_toArray, List.set_cons_zero, List.set_cons_succ]
    refine wpAnyH_ready (rs := [2]) (by kernel_rfl) (by simp) ?_
    refine AllReadyH.cons rfl (fun K hK => ?_) AllReadyH.nil
    go_simp
    go_at_call 41
    refine (signDigit_is a rr _ HRR.out).mono ?_
    rintro e w20 ⟨rfl, hw⟩
    subst hw
    try go_simp
    refine hK.out _ _ (trivial) (fun hHeld => ?_)
    clear hK K
    try simp only [Act.put, List.setIfInBounds_toArray, List.set_cons_zero, List.set_cons_succ]
    refine wpAnyH_ready (rs := [5]) (by kernel_rfl) (by simp) ?_
    refine AllReadyH.cons rfl (fun K hK => ?_) AllReadyH.nil
    go_simp
    go_at_call 42
    refine (sib_is b uu _ HUU.out).mono ?_
    rintro e w20 ⟨rfl, hw⟩
    subst hw
    try go_simp
    refine hK.out _ _ (trivial) (fun hHeld => ?_)
    clear hK K
    try simp only [Act.put, List.setIfInBounds_toArray, List.set_cons_zero, List.set_cons_succ]
    refine wpAnyH_ready (rs := [8]) (by kernel_rfl) (by simp) ?_
    refine AllReadyH.cons rfl (fun K hK => ?_) AllReadyH.nil
    go_simp
    go_at_call 41
    refine (signDigit_is d dd _ HDD.out).mono ?_
    rintro e w20 ⟨rfl, hw⟩
    subst hw
    try go_simp
    refine hK.out _ _ (trivial) (fun hHeld => ?_)
    clear hK K
    try simp only [Act.put, List.setIfInBounds_toArray, List.set_cons_zero, List.set_cons_succ]
    refine take1 (i := 9) (v := ?v10) (some 13) rfl rfl (by kernel_rfl) (by kernel_rfl) (by kernel_rfl) (fun _ _ _ h => h) (Or.inl ⟨by rfl, ?y10⟩) (by assumption) ?r10
    case y10 => (intro w hSw; (try dsimp only at hSw); go_simp; (first | done | with_reducible rfl))
    try simp only [Act.put, List.setIfInBounds_toArray, List.set_cons_zero, List.set_cons_succ]
    refine wpAnyH_ready (rs := [11]) (by kernel_rfl) (by simp) ?_
    refine AllReadyH.cons rfl (fun K hK => ?_) AllReadyH.nil
    go_simp
    refine hK.out _ _ (trivial) (fun hHeld => ?_)
    clear hK K
    try simp only [Act.put]
    refine wpAnyH_done (by kernel_rfl) ?_ _
    have hb : Below w1.heap.size w1 (w1.alloc (.cells #[.int .i64 rr, .int .i64 uu, .int .i64 dd] 40)) := (Below.refl _ _).alloc (Nat.le_refl _) _
    have hk : (w1.alloc (.cells #[.int .i64 rr, .int .i64 uu, .int .i64 dd] 40)).heap[w1.heap.size]? = some (.cells #[.int .i64 rr, .int .i64 uu, .int .i64 dd] 40 (0, 0)) := alloc_at rfl
    have hz : (w1.alloc (.cells #[.int .i64 rr, .int .i64 uu, .int .i64 dd] 40)).heap.size = w1.heap.size + 1 := by simp
    generalize w1.alloc (.cells #[.int .i64 rr, .int .i64 uu, .int .i64 dd] 40) = w2 at hb hk hz ⊢
    have HB2 : Hid (Below w.heap.size w w2) := Lib.hid (HB1.out.trans (hb.mono HB1.out.size))
    have HZ2 : Hid (w1.heap.size ≤ w2.heap.size) := Lib.hid hb.size
    have HKz2 := Lib.hid ((hb.block _ (lt_of_block HKz1.out)).trans HKz1.out)
    have HKm2 := Lib.hid hk
    replace HZ2 : Hid (w1.heap.size < w2.heap.size) := Lib.hid (by omega)
    have HE2 := Lib.hid hz
    clear hb hk hz
    have hb : Below w2.heap.size w2 w2.drew := (Below.refl _ _).drew
    generalize w2.drew = w3 at hb ⊢
    have HB3 : Hid (Below w.heap.size w w3) := Lib.hid (HB2.out.trans (hb.mono HB2.out.size))
    have HZ3 : Hid (w2.heap.size ≤ w3.heap.size) := Lib.hid hb.size
    have HKz3 := Lib.hid ((hb.block _ (lt_of_block HKz2.out)).trans HKz2.out)
    have HKm3 := Lib.hid ((hb.block _ (lt_of_block HKm2.out)).trans HKm2.out)
    clear hb
    clear cz0 cz1 cz2 fz0 fz1 fz2 ltz
    have ltz := lt_of_block HKz3.out
    obtain ⟨cz0, cz1, cz2, fz0, fz1, fz2⟩ := cell3 HKz3.out
    have ltm := lt_of_block HKm3.out
    obtain ⟨cm0, cm1, cm2, fm0, fm1, fm2⟩ := cell3 HKm3.out
    have hzz : w.heap.size < w1.heap.size := by have := HE1.out; omega
    by_cases hc1 : c = 45
    · have hB : Hid (mvV (mvI a b c d) = .agg #[.int .i64 rr, .int .i64 uu, .int .i64 (-dd)]) := Lib.hid (by unfold mvV mvI; dsimp only; rw [if_pos hc1, HRR.out, HDD.out, HUU.out])
      have hcb : ((c.toNat : Int) == 45) = true := by rw [hc1]; rfl
      clear hc1
      go_wp2_with fail
      exact bodyPost_ret (v := .agg #[.int .i64 rr, .int .i64 uu, .int .i64 (-dd)]) (by simp [results, Try.results26, go_sem, cz0, cz1, cz2]) rfl ⟨by rw [hB.out], bl_set3 (HB3.out.setCell (p := ⟨w1.heap.size, 2, none⟩) (by show w.heap.size ≤ w1.heap.size; omega) _) (Nat.le_refl _) _ _ _⟩
    · have hB : Hid (mvV (mvI a b c d) = .agg #[.int .i64 rr, .int .i64 uu, .int .i64 dd]) := Lib.hid (by unfold mvV mvI; dsimp only; rw [if_neg hc1, HRR.out, HDD.out, HUU.out])
      have hcb : ((c.toNat : Int) == 45) = false := by rw [beq_eq_false_iff_ne]; intro e; exact hc1 (UInt8.toNat_inj.1 (by have : (45 : UInt8).toNat = 45 := rfl; omega))
      clear hc1
      go_wp2_with fail
      exact bodyPost_ret (v := .agg #[.int .i64 rr, .int .i64 uu, .int .i64 dd]) (by simp [results, Try.results26, go_sem, cz0, cz1, cz2]) rfl ⟨by rw [hB.out], bl_set3 HB3.out (Nat.le_refl _) _ _ _⟩
end Go.Proofs.Ytmkocinknhaniaa
