/- Parts laid as one: Nm4, Ip9. -/
import Derived.Test.YthmbehknacjodaaK9c
import Derived.Test.YthmbehknacjodaaTmc
import Derived.Test.YthmbehknacjodaaMcarr
import Derived.Test.YthmbehknacjodaaMadout
import Derived.Test.YthmbehknacjodaaKy
import Derived.Test.YthmbehknacjodaaKf
import Derived.Test.YthmbehknacjodaaKl
import Derived.Test.YthmbehknacjodaaSet
import Derived.Test.YthmbehknacjodaaAdout
import Derived.Test.YthmbehknacjodaaKu
/-! Nm4 -/
namespace Go.Proofs.Ythmbehknacjodaa
set_option linter.unusedVariables false
open Go.RowKit

set_option maxRecDepth 100000 in
set_option maxHeartbeats 6400000 in
theorem speTimesCarries_yes (a b : Nat) (w : World) (ha : a ≤ 9999) (hb9 : b ≤ 9999) :
    Calls Try.prog 29 #[.int .i64 (a : Int), .int .i64 (b : Int)] w fun e w' => e = .returned (.tuple #[.int .i64 ((tcC (prT (dgL a) (dgL b)) (forR 8 0) : Nat) : Int), .bool true]) ∧ Below w.heap.size w w' := by
  have hl16 := prT_len16 ha hb9
  have HOK : Hid (okFs (a : Int) (b : Int)) := Lib.hid ⟨by omega, by omega⟩
  have HG := Lib.hid (fun w => l9Parts_any a b w ha hb9)
  have HN := Lib.hid (fun k h => part_at ha hb9 k h)
  have HC := Lib.hid (fun k h => tc_can ha hb9 k h)
  have HW := Lib.hid (fun k h => wT_bd (part_ok ha hb9 (List.getElem_mem (l := prT (dgL a) (dgL b)) (n := k) h)))
  generalize prT (dgL a) (dgL b) = L at hl16 HG HN HC HW ⊢
  clear ha hb9
  go_enter Try.func29, Try.ntmps29
  go_wp2_with fail
  refine (l9Both_yes _ _ w HOK.out).mono ?_
  rintro e w2 ⟨rfl, rfl⟩
  go_wp2_with fail
  refine (HG.out w).mono ?_
  rintro e w1 ⟨⟨sd, rfl, od⟩, hb1⟩
  obtain ⟨ad, cd, rfl⟩ := own_form od
  have HB1 := Lib.hid hb1
  go_wp2_with fail
  refine (l2For_any 1 4 8 0 w1 (by omega) (by omega)).mono ?_
  rintro e w2 ⟨⟨vf, rfl, of⟩, hb2⟩
  obtain ⟨pf, cf, rfl⟩ := own_block of (by omega)
  have HR := Lib.hid (RowsR.of_own trC_len (own_below od hb2)).at
  have HB2 : Hid (Below w.heap.size w w2) := Lib.hid (HB1.out.trans (hb2.mono HB1.out.size))
  have HZ : Hid (L.length ≤ 9223372036854775807) := Lib.hid (by omega)
  have HF0 := Lib.hid (own_mono of HB1.out.size)
  clear od hb1 hb2 of
  go_wp2_with fail
  have hbx : (w2.alloc (.cells #[.int .i64 1, .int .i64 4, .slice (some ⟨pf, 0, none⟩) 8 cf] 42)).heap[w2.heap.size]? = some (.cells #[.int .i64 1, .int .i64 4, .slice (some ⟨pf, 0, none⟩) 8 cf] 42 (0, 0)) := alloc_at rfl
  have HF3 := Lib.hid (own_below HF0.out ((Below.refl w2.heap.size w2).alloc (Nat.le_refl _) (.cells #[.int .i64 1, .int .i64 4, .slice (some ⟨pf, 0, none⟩) 8 cf] 42)))
  have HB3 : Hid (Below w2.heap.size w2 (w2.alloc (.cells #[.int .i64 1, .int .i64 4, .slice (some ⟨pf, 0, none⟩) 8 cf] 42))) := Lib.hid ((Below.refl _ _).alloc (Nat.le_refl _) _)
  have HX3 := Lib.hid hbx
  clear hbx
  go_loopw [7, 9] (fun nv iv wr => ∃ (k rb rc : Nat), k ≤ L.length ∧ iv = .int .i64 (k : Int) ∧ nv = .int .i64 ((tcC (L.take k) (forR 8 0) : Nat) : Int) ∧ wr.heap[w2.heap.size]? = some (.cells #[.int .i64 1, .int .i64 4, .slice (some ⟨rb, 0, none⟩) 8 rc] 42 (0, 0)) ∧ wr.ownsRow w.heap.size 77 2 (.slice (some ⟨rb, 0, none⟩) 8 rc) 8 (flat (tcR (L.take k) (forR 8 0))) ∧ Below w2.heap.size w2 wr) (fun _ iv _ => 20 - (intOf iv).toNat)
  case atStart => exact ⟨0, pf, cf, Nat.zero_le _, rfl, rfl, HX3.out, HF3.out, HB3.out⟩
  case round =>
    obtain ⟨k, rb, rc, hk, rfl, rfl, hX, hF, hb⟩ := hrel
    have HX := Lib.hid hX
    have HF := Lib.hid hF
    have HB := Lib.hid hb
    by_cases hlt : k < L.length
    · obtain ⟨b, o, rfl, lb, hc⟩ := HR.out wr hb k hlt
      obtain ⟨I, K, v, hLk, hI, hKK, hv1, hv2⟩ := HN.out k hlt
      have c0 : wr.cell? ⟨b, o + k * 3, none⟩ = some (.int .i64 (I : Int)) := by have := hc 0 (by omega); rw [hLk] at this; exact this
      have c1 : wr.cell? ⟨b, o + k * 3 + 1, none⟩ = some (.int .i64 (K : Int)) := by have := hc 1 (by omega); rw [hLk] at this; exact this
      have c2 : wr.cell? ⟨b, o + k * 3 + 2, none⟩ = some (.int .i64 v) := by have := hc 2 (by omega); rw [hLk] at this; exact this
      have hcan := HC.out k hlt
      have hwb := HW.out k hlt
      have hrt := tcR_take L (forR 8 0) k hlt
      have hct := tcC_take L (forR 8 0) k hlt
      have hlen := tcR_len (L.take k) (forR 8 0)
      have hcl := tcC_le (L.take (k + 1)) (forR 8 0) (by rw [forR8.1]; omega)
      rw [List.length_take] at hcl
      rw [forR8.1] at hlen
      rw [hLk] at hcan hwb hrt hct
      have hwt : wT ⟨(I : Int), (K : Int), v⟩ = v * 10 ^ (I + K) := by simp [wT]
      obtain ⟨p1, p2⟩ := pow_bd (I + K) (by omega)
      obtain ⟨z, hz⟩ : ∃ z : Int, (10 : Int) ^ (I + K) = z := ⟨_, rfl⟩
      have HP : Hid (∀ w, Calls Try.prog 75 #[.int .i64 ((I : Int) + (K : Int))] w fun e w' => e = .returned (.int .i64 z) ∧ w' = w) := Lib.hid (fun w => by
        have h9 := l2Power_any (I + K) w (by omega); rw [hz, Int.natCast_add] at h9; exact h9)
      rw [hwt, hz] at hcan hwb hrt hct
      obtain ⟨V, hV⟩ : ∃ V, v * z = V := ⟨_, rfl⟩
      rw [hV] at hcan hwb hrt hct
      have w1' : IntKind.i64.wrap ((I : Int) + (K : Int)) = (I : Int) + (K : Int) := by rw [IntKind.wrap_i64]; omega
      have w2' : IntKind.i64.wrap (v * z) = V := by rw [hV, IntKind.wrap_i64]; omega
      have HRT := Lib.hid hrt
      have HCT := Lib.hid hct
      generalize hrs : tcR (L.take k) (forR 8 0) = rs at HF HRT HCT hcan hlen ⊢
      generalize hcn : tcC (L.take k) (forR 8 0) = cn at HCT ⊢
      have hgc := goC_small rs.length V rs (by omega)
      have HKS : Hid ((cn : Int) + ((goC 0 (digs rs.length V) rs : Nat) : Int) ≤ 16000) := Lib.hid (by have := HCT.out; omega)
      have w3' : IntKind.i64.wrap ((cn : Int) + ((goC 0 (digs rs.length V) rs : Nat) : Int)) = ((cn + goC 0 (digs rs.length V) rs : Nat) : Int) := by rw [IntKind.wrap_i64]; omega
      have z1 : (0 : Int) ≤ (k : Int) := by omega
      have z2 : (k : Int) < (L.length : Int) := by omega
      have HCC := Lib.hid (And.intro c0 (And.intro c1 c2))
      have HCN := Lib.hid hcan
      have HLN := Lib.hid hlen
      have HVB := Lib.hid hwb
      have HW3 := Lib.hid w3'
      clear hc hX hF hb hLk hrt hct hwt hz hV p1 p2 c0 c1 c2 hcan hrs hcn hcl hlen hwb hgc w3'
      go_wp2_with fail
      refine wp_region_held_drew (S := fun w' => w'.cell? ⟨b, o + k * 3, none⟩ = some (.int .i64 (I : Int)) ∧ w'.cell? ⟨b, o + k * 3 + 1, none⟩ = some (.int .i64 (K : Int)) ∧ w'.cell? ⟨b, o + k * 3 + 2, none⟩ = some (.int .i64 v)) (by kernel_rfl) HCC.out (fun hHeld => ?_)
      have HB4 : Hid (Below w2.heap.size w2 wr.drew) := Lib.hid HB.out.drew
      have HX4 : Hid (wr.drew.heap[w2.heap.size]? = some (.cells #[.int .i64 1, .int .i64 4, .slice (some ⟨rb, 0, none⟩) 8 rc] 42 (0, 0))) := Lib.hid HX.out
      have HF4 : Hid (wr.drew.ownsRow w.heap.size 77 2 (.slice (some ⟨rb, 0, none⟩) 8 rc) 8 (flat rs)) := Lib.hid (own_below HF.out (Below.refl _ _).drew)
      have HC4 : Hid (wr.drew.cell? ⟨b, o + k * 3, none⟩ = some (.int .i64 (I : Int)) ∧ wr.drew.cell? ⟨b, o + k * 3 + 1, none⟩ = some (.int .i64 (K : Int)) ∧ wr.drew.cell? ⟨b, o + k * 3 + 2, none⟩ = some (.int .i64 v)) := Lib.hid HCC.out
      generalize wr.drew = w4 at HB4 HX4 HF4 HC4 hHeld ⊢
      refine take1 (i := 0) (v := ?v1) (some 29) rfl rfl (by kernel_rfl) (by kernel_rfl) (by kernel_rfl) (fun _ _ _ h => h) (Or.inl ⟨by rfl, ?y1⟩) (by assumption) ?r1
      case y1 => (intro w hSw; (try dsimp only at hSw); go_simp; (first | done | with_reducible rfl))
      try simp only [Act.put, List.setIfInBounds_toArray, List.set_cons_zero, List.set_cons_succ]
      refine take1 (i := 1) (v := ?v2) (some 30) rfl rfl (by kernel_rfl) (by kernel_rfl) (by kernel_rfl) (fun _ _ _ h => h) (Or.inl ⟨by rfl, ?y2⟩) (by assumption) ?r2
      case y2 => (intro w hSw; (try dsimp only at hSw); go_simp; (first | done | with_reducible rfl))
      try simp only [Act.put, List.setIfInBounds_toArray, List.set_cons_zero, List.set_cons_succ]
      refine take1 (i := 2) (v := ?v3) (some 31) rfl rfl (by kernel_rfl) (by kernel_rfl) (by kernel_rfl) (fun _ _ _ h => h) (Or.inl ⟨by rfl, ?y3⟩) (by assumption) ?r3
      case y3 => (intro w hSw; (try dsimp only at hSw); go_simp; (first | done | with_reducible rfl))
      try simp only [Act.put, List.setIfInBounds_toArray, List.set_cons_zero, List.set_cons_succ]
      refine take1 (i := 3) (v := ?v4) (some 32) rfl rfl (by kernel_rfl) (by kernel_rfl) (by kernel_rfl) (fun _ _ _ h => h) (Or.inl ⟨by rfl, ?y4⟩) (by assumption) ?r4
      case y4 => (intro w hSw; (try dsimp only at hSw); go_simp; (first | done | with_reducible rfl))
      try simp only [Act.put, List.setIfInBounds_toArray, List.set_cons_zero, List.set_cons_succ]
      refine take1 (i := 4) (v := ?v5) (some 33) rfl rfl (by kernel_rfl) (by kernel_rfl) (by kernel_rfl) (fun _ _ _ h => h) (Or.inl ⟨by rfl, ?y5⟩) (by assumption) ?r5
      case y5 => (intro w hSw; (try dsimp only at hSw); go_simp; (first | done | with_reducible rfl))
      try simp only [Act.put, List.setIfInBounds_toArray, List.set_cons_zero, List.set_cons_succ]
      refine take1 (i := 5) (v := ?v6) (some 34) rfl rfl (by kernel_rfl) (by kernel_rfl) (by kernel_rfl) (fun _ _ _ h => h) (Or.inl ⟨by rfl, ?y6⟩) (by assumption) ?r6
      case y6 => (intro w hSw; (try dsimp only at hSw); go_simp; (first | done | with_reducible rfl))
      try simp only [Act.put, List.setIfInBounds_toArray, List.set_cons_zero, List.set_cons_succ]
      refine take1 (i := 6) (v := ?v7) (some 35) rfl rfl (by kernel_rfl) (by kernel_rfl) (by kernel_rfl) (fun _ _ _ h => h) (Or.inl ⟨by rfl, ?y7⟩) (by assumption) ?r7
      case y7 => (intro w hSw; (try dsimp only at hSw); go_simp; (first | done | with_reducible rfl))
      try simp only [Act.put, List.setIfInBounds_toArray, List.set_cons_zero, List.set_cons_succ]
      refine take1 (i := 7) (v := ?v8) (some 36) rfl rfl (by kernel_rfl) (by kernel_rfl) (by kernel_rfl) (fun _ _ _ h => h) (Or.inl ⟨by rfl, ?y8⟩) (by assumption) ?r8
      case y8 => (intro w hSw; (try dsimp only at hSw); go_simp; (first | done | with_reducible rfl))
      try simp only [Act.put, List.setIfInBounds_toArray, List.set_cons_zero, List.set_cons_succ]
      refine take1 (i := 8) (v := ?v9) (some 37) rfl rfl (by kernel_rfl) (by kernel_rfl) (by kernel_rfl) (fun _ _ _ h => h) (Or.inl ⟨by rfl, ?y9⟩) (by assumption) ?r9
      case y9 => (intro w hSw; (try dsimp only at hSw); go_simp; (first | done | with_reducible rfl))
      try simp only [Act.put, List.setIfInBounds_toArray, List.set_cons_zero, List.set_cons_succ]
      refine take1 (i := 9) (v := ?v10) (some 38) rfl rfl (by kernel_rfl) (by kernel_rfl) (by kernel_rfl) (fun _ _ _ h => h) (Or.inl ⟨by rfl, ?y10⟩) (by assumption) ?r10
      case y10 => (intro w hSw; (try dsimp only at hSw); go_simp; (first | done | with_reducible rfl))
      try simp only [Act.put, List.setIfInBounds_toArray, List.set_cons_zero, List.set_cons_succ]
      refine take1 (i := 10) (v := ?v11) (some 39) rfl rfl (by kernel_rfl) (by kernel_rfl) (by kernel_rfl) (fun _ _ _ h => h) (Or.inl ⟨by rfl, ?y11⟩) (by assumption) ?r11
      case y11 => (intro w hSw; (try dsimp only at hSw); go_simp; (first | done | with_reducible rfl))
      try simp only [Act.put, List.setIfInBounds_toArray, List.set_cons_zero, List.set_cons_succ]
      refine take1 (i := 11) (v := ?v12) (some 40) rfl rfl (by kernel_rfl) (by kernel_rfl) (by kernel_rfl) (fun _ _ _ h => h) (Or.inl ⟨by rfl, ?y12⟩) (by assumption) ?r12
      case y12 => (intro w hSw; (try dsimp only at hSw); go_simp; (first | done | with_reducible rfl))
      try simp only [Act.put, List.setIfInBounds_toArray, List.set_cons_zero, List.set_cons_succ]
      refine take1 (i := 12) (v := ?v13) (some 41) rfl rfl (by kernel_rfl) (by kernel_rfl) (by kernel_rfl) (fun _ _ _ h => h) (Or.inl ⟨by rfl, ?y13⟩) (by assumption) ?r13
      case y13 => (intro w hSw; (try dsimp only at hSw); go_simp; (first | done | with_reducible rfl))
      try simp only [Act.put, List.setIfInBounds_toArray, List.set_cons_zero, List.set_cons_succ]
      refine take1 (i := 13) (v := ?v14) (some 42) rfl rfl (by kernel_rfl) (by kernel_rfl) (by kernel_rfl) (fun _ _ _ h => h) (Or.inl ⟨by rfl, ?y14⟩) (by assumption) ?r14
      case y14 => (intro w hSw; (try dsimp only at hSw); go_simp; (first | done | with_reducible rfl))
      try simp only [Act.put, List.setIfInBounds_toArray, List.set_cons_zero, List.set_cons_succ]
      refine take1 (i := 14) (v := ?v15) (some 43) rfl rfl (by kernel_rfl) (by kernel_rfl) (by kernel_rfl) (fun _ _ _ h => h) (Or.inl ⟨by rfl, ?y15⟩) (by assumption) ?r15
      case y15 => (intro w hSw; (try dsimp only at hSw); go_simp; (first | done | with_reducible rfl))
      try simp only [Act.put, List.setIfInBounds_toArray, List.set_cons_zero, List.set_cons_succ]
      refine take1 (i := 15) (v := ?v16) (some 44) rfl rfl (by kernel_rfl) (by kernel_rfl) (by kernel_rfl) (fun _ _ _ h => h) (Or.inl ⟨by rfl, ?y16⟩) (by assumption) ?r16
      case y16 => (intro w hSw; (try dsimp only at hSw); go_simp; (first | done | with_reducible rfl))
      try simp only [Act.put, List.setIfInBounds_toArray, List.set_cons_zero, List.set_cons_succ]
      refine wpAnyH_ready (rs := [16]) (by kernel_rfl) (by simp) ?_
      refine AllReadyH.cons rfl (fun K hK => ?_) AllReadyH.nil
      go_simp
      (try rw [w1'])
      go_at_call 75
      refine (HP.out _).mono ?_
      rintro e w9 ⟨rfl, hw9⟩
      subst w9
      try go_simp
      refine hK.out _ _ (HC4.out) (fun hHeld => ?_)
      clear hK K
      try simp only [Act.put, List.setIfInBounds_toArray, List.set_cons_zero, List.set_cons_succ]
      refine take1 (i := 17) (v := ?v17) (some 46) rfl rfl (by kernel_rfl) (by kernel_rfl) (by kernel_rfl) (fun _ _ _ h => h) (Or.inl ⟨by rfl, ?y17⟩) (by assumption) ?r17
      case y17 => (intro w hSw; (try dsimp only at hSw); go_simp; (first | done | with_reducible rfl))
      try simp only [Act.put, List.setIfInBounds_toArray, List.set_cons_zero, List.set_cons_succ]
      refine take1 (i := 18) (v := ?v18) (some 10) rfl rfl (by kernel_rfl) (by kernel_rfl) (by kernel_rfl) (fun _ _ _ h => h) (Or.inl ⟨by rfl, ?y18⟩) (by assumption) ?r18
      case y18 => (intro w hSw; (try dsimp only at hSw); go_simp; (first | done | with_reducible rfl))
      try simp only [Act.put, List.setIfInBounds_toArray, List.set_cons_zero, List.set_cons_succ]
      refine wpAnyH_done (by kernel_rfl) ?_ _
      obtain ⟨x0, x1, x2, y0, y1, y2⟩ := cell3 HX4.out
      have hlt4 := lt_of_block HX4.out
      go_wp2_with fail
      have HRF4 : Hid (RodsR w4 (.slice (some ⟨rb, 0, none⟩) 8 rc) rs) := Lib.hid (RodsR.of_own (own_relen HLN.out HF4.out))
      refine (speCarriesOf_yes 1 4 _ rs V _ HRF4.out HCN.out).mono ?_
      rintro e w5 ⟨rfl, hb5⟩
      have HB5 : Hid (Below w2.heap.size w2 w5) := Lib.hid (HB4.out.trans (hb5.mono HB4.out.size))
      have HX5 := Lib.hid ((hb5.block _ (lt_of_block HX4.out)).trans HX4.out)
      have HF5 := Lib.hid (own_below HF4.out hb5)
      clear hb5 x0 x1 x2 y0 y1 y2 hlt4
      have w3 := HW3.out
      obtain ⟨x0, x1, x2, y0, y1, y2⟩ := cell3 HX5.out
      have hlt5 := lt_of_block HX5.out
      go_wp2_with fail
      have HRF5 : Hid (RodsR w5 (.slice (some ⟨rb, 0, none⟩) 8 rc) rs) := Lib.hid (RodsR.of_own (own_relen HLN.out HF5.out))
      refine (l6Number_any 1 4 _ rs V _ HRF5.out HCN.out.2.1 (by rw [HLN.out]; omega) HCN.out.2.2.1 (by have := HVB.out; omega)).mono ?_
      rintro e w6 ⟨⟨g6, c6, rb6, rc6, rfl, or6, -⟩, hb6⟩
      have hl6 : (goR 0 (digs rs.length V) rs).length = 8 := by rw [goR_len]; exact HLN.out
      rw [hl6] at or6 ⊢
      have HB6 : Hid (Below w2.heap.size w2 w6) := Lib.hid (HB5.out.trans (hb6.mono HB5.out.size))
      have HX6 := Lib.hid ((hb6.block _ (lt_of_block HX5.out)).trans HX5.out)
      have HF6 := Lib.hid (own_mono or6 (Nat.le_trans HB2.out.size HB5.out.size))
      clear hb6 or6 x0 x1 x2 y0 y1 y2 hlt5 w3 hl6
      obtain ⟨W7, hW7⟩ : ∃ W, w6.alloc (.cells #[.int .i64 1, .int .i64 4, .slice (some ⟨rb6, 0, none⟩) 8 rc6] 42) = W := ⟨_, rfl⟩
      have hb7 : Below w6.heap.size w6 W7 := hW7 ▸ (Below.refl _ _).alloc (Nat.le_refl _) _
      have hn7 : W7.heap[w6.heap.size]? = some (.cells #[.int .i64 1, .int .i64 4, .slice (some ⟨rb6, 0, none⟩) 8 rc6] 42 (0, 0)) := hW7 ▸ alloc_at rfl
      have HB7 : Hid (Below w2.heap.size w2 W7) := Lib.hid (HB6.out.trans (hb7.mono HB6.out.size))
      have HX7 := Lib.hid ((hb7.block _ (lt_of_block HX6.out)).trans HX6.out)
      have HF7 := Lib.hid (own_below HF6.out hb7)
      have HN7 := Lib.hid hn7
      have HNE : Hid (w2.heap.size < w6.heap.size) := Lib.hid (lt_of_block HX6.out)
      have hlt7 := lt_of_block HX7.out
      have hln7 := lt_of_block hn7
      clear hb7 hn7
      obtain ⟨x0, x1, x2, y0, y1, y2⟩ := cell3 HX7.out
      obtain ⟨u0, u1, u2, v0, v1, v2⟩ := cell3 HN7.out
      go_wp2_with fail
      have hsz := own_box HF7.out HX7.out (by decide)
      have hK := box3_set HX7.out (.int .i64 1) (.int .i64 4) (.slice (some ⟨rb6, 0, none⟩) 8 rc6)
      have hO := own_set_box (own_set_box (own_set_box HF7.out hsz 0 (.int .i64 1)) hsz 1 (.int .i64 4)) hsz 2 (.slice (some ⟨rb6, 0, none⟩) 8 rc6)
      have hB := bl_set3 HB7.out (Nat.le_refl _) (.int .i64 1) (.int .i64 4) (.slice (some ⟨rb6, 0, none⟩) 8 rc6)
      rw [← HRT.out] at hO
      exact ⟨⟨k + 1, rb6, rc6, by omega, by go_num, by rw [HCT.out]; simp, hK, hO, hB⟩, by simp [intOf]; omega⟩
    · obtain rfl : k = L.length := by omega
      have HE : Hid (RodsR wr (.slice (some ⟨rb, 0, none⟩) 8 rc) (tcR L (forR 8 0))) := Lib.hid (by rw [List.take_length] at hF; exact RodsR.of_own (own_relen (by rw [tcR_len, forR8.1]) hF))
      rw [List.take_length]
      clear hX hF hb
      go_wp2_with fail
      go_ret2
      exact ⟨rfl, HB2.out.trans (HB.out.mono HB2.out.size)⟩
set_option maxRecDepth 100000 in
set_option maxHeartbeats 800000 in
theorem speTimesCarries_no (a b : Int) (w : World) (h : ¬ okFs a b) :
    Calls Try.prog 29 #[.int .i64 a, .int .i64 b] w fun e w' => e = .returned (.tuple #[.int .i64 0, .bool false]) ∧ Below w.heap.size w w' := by
  have HH := Lib.hid h
  clear h
  go_enter Try.func29, Try.ntmps29
  go_wp2_with fail
  refine (l9Both_no _ _ w HH.out).mono ?_
  rintro e w2 ⟨rfl, rfl⟩
  go_wp2_with fail
  go_ret2
  exact ⟨rfl, Below.refl _ _⟩
/-- That the product can be added to a frame. -/
def canP (up lo : Int) (rs : List (Int × Int)) (a b : Int) : Prop := okFs a b ∧ canF up lo rs (a * b)
set_option maxRecDepth 100000 in
set_option maxHeartbeats 1600000 in
theorem speProductOn_out (up lo : Int) (sv : Value) (rs : List (Int × Int)) (a b : Int) (w : World) (h : RodsR w sv rs) (hc : ¬ okFs a b) :
    Calls Try.prog 32 #[.agg #[.int .i64 up, .int .i64 lo, sv], .int .i64 a, .int .i64 b] w fun e w' => (∃ sq, e = .returned (.tuple #[.agg #[.int .i64 0, .int .i64 0, sq], .bool false]) ∧ RodsR w' sq ([] : List (Int × Int))) ∧ Below w.heap.size w w' := by
  obtain ⟨p, cp, rfl⟩ : ∃ a c, sv = .slice a rs.length c := by obtain ⟨a, c, e, _⟩ := h; exact ⟨a, c, e⟩
  have HC := Lib.hid hc
  have HB0 : Hid (Below w.heap.size w w) := Lib.hid (Below.refl _ _)
  have HRf0 := Lib.hid (h)
  clear h hc
  go_enter Try.func32, Try.ntmps32
  go_wp2_with fail
  have hb : Below w.heap.size w (w.alloc (.cells #[.int .i64 up, .int .i64 lo, .slice p rs.length cp] 42)) := (Below.refl _ _).alloc (Nat.le_refl _) _
  have hk : (w.alloc (.cells #[.int .i64 up, .int .i64 lo, .slice p rs.length cp] 42)).heap[w.heap.size]? = some (.cells #[.int .i64 up, .int .i64 lo, .slice p rs.length cp] 42 (0, 0)) := alloc_at rfl
  have hz : (w.alloc (.cells #[.int .i64 up, .int .i64 lo, .slice p rs.length cp] 42)).heap.size = w.heap.size + 1 := by simp
  generalize w.alloc (.cells #[.int .i64 up, .int .i64 lo, .slice p rs.length cp] 42) = w1 at hb hk hz ⊢
  have HB1 : Hid (Below w.heap.size w w1) := Lib.hid (HB0.out.trans (hb.mono HB0.out.size))
  have HZ1 : Hid (w.heap.size ≤ w1.heap.size) := Lib.hid hb.size
  have HRf1 := Lib.hid (HRf0.out.below HB1.out (Nat.le_refl _))
  have HKf1 := Lib.hid hk
  replace HZ1 : Hid (w.heap.size < w1.heap.size) := Lib.hid (by omega)
  have HE1 := Lib.hid hz
  clear hb hk hz
  have hb : Below w1.heap.size w1 (w1.alloc (.cells #[.int .i64 0, .int .i64 0, .slice none 0 0] 42)) := (Below.refl _ _).alloc (Nat.le_refl _) _
  have hk : (w1.alloc (.cells #[.int .i64 0, .int .i64 0, .slice none 0 0] 42)).heap[w.heap.size + 1]? = some (.cells #[.int .i64 0, .int .i64 0, .slice none 0 0] 42 (0, 0)) := alloc_at (by have := HE1.out; omega)
  have hz : (w1.alloc (.cells #[.int .i64 0, .int .i64 0, .slice none 0 0] 42)).heap.size = w1.heap.size + 1 := by simp
  generalize w1.alloc (.cells #[.int .i64 0, .int .i64 0, .slice none 0 0] 42) = w2 at hb hk hz ⊢
  have HB2 : Hid (Below w.heap.size w w2) := Lib.hid (HB1.out.trans (hb.mono HB1.out.size))
  have HZ2 : Hid (w1.heap.size ≤ w2.heap.size) := Lib.hid hb.size
  have HRf2 := Lib.hid (HRf0.out.below HB2.out (Nat.le_refl _))
  have HKf2 := Lib.hid ((hb.block _ (lt_of_block HKf1.out)).trans HKf1.out)
  have HKz2 := Lib.hid hk
  replace HZ2 : Hid (w1.heap.size < w2.heap.size) := Lib.hid (by omega)
  have HE2 := Lib.hid hz
  clear hb hk hz
  have ltf := lt_of_block HKf2.out
  obtain ⟨cf0, cf1, cf2, ff0, ff1, ff2⟩ := cell3 HKf2.out
  have ltz := lt_of_block HKz2.out
  obtain ⟨cz0, cz1, cz2, fz0, fz1, fz2⟩ := cell3 HKz2.out
  go_wp2_with fail
  refine (l9Both_no _ _ _ HC.out).mono ?_
  rintro e wz ⟨rfl, hwz⟩
  subst wz
  go_wp2_with fail
  have hkz := box3_set HKz2.out (.int .i64 0) (.int .i64 0) (.slice none 0 0)
  have hbz := bl_set3 HB2.out (Nat.le_succ w.heap.size) (.int .i64 0) (.int .i64 0) (.slice none 0 0)
  generalize (((w2.setCell ⟨w.heap.size + 1, 0, none⟩ (.int .i64 0)).setCell ⟨w.heap.size + 1, 1, none⟩ (.int .i64 0)).setCell ⟨w.heap.size + 1, 2, none⟩ (.slice none 0 0)) = W9 at hkz hbz ⊢
  obtain ⟨z0, z1, z2, _, _, _⟩ := cell3 hkz
  exact bodyPost_ret (v := .tuple #[.agg #[.int .i64 0, .int .i64 0, .slice none 0 0], .bool false]) (by simp [results, Try.results32, go_sem, z0, z1, z2]) rfl ⟨⟨_, rfl, rods_nil _⟩, hbz⟩
set_option maxRecDepth 100000 in
set_option maxHeartbeats 3200000 in
theorem speAddNumber_ono (up lo : Int) (sv : Value) (rs : List (Int × Int)) (q : Int) (w : World) (h : RodsR w sv rs) (hc : ¬ canF up lo rs q) :
    Calls Try.prog 90 #[.agg #[.int .i64 up, .int .i64 lo, sv], .int .i64 q] w fun e w' => (∃ sq, e = .returned (.tuple #[.agg #[.int .i64 0, .int .i64 0, sq], .bool false]) ∧ w'.ownsRow w.heap.size 77 2 sq ([] : List (Int × Int)).length (flat ([] : List (Int × Int)))) ∧ Below w.heap.size w w' := by
  obtain ⟨a, cp, rfl⟩ : ∃ a c, sv = .slice a rs.length c := by obtain ⟨a, c, e, _⟩ := h; exact ⟨a, c, e⟩
  have hm : rs.length ≤ 9223372036854775807 := by obtain ⟨_, _, _, ⟨m, _⟩, _⟩ := h; exact m
  have HC := Lib.hid hc
  have HB0 : Hid (Below w.heap.size w w) := Lib.hid (Below.refl _ _)
  have HRf0 := Lib.hid (h)
  clear h hc
  go_enter Try.func90, Try.ntmps90
  go_wp2_with fail
  have hb : Below w.heap.size w (w.alloc (.cells #[.int .i64 up, .int .i64 lo, .slice a rs.length cp] 42)) := (Below.refl _ _).alloc (Nat.le_refl _) _
  have hk : (w.alloc (.cells #[.int .i64 up, .int .i64 lo, .slice a rs.length cp] 42)).heap[w.heap.size]? = some (.cells #[.int .i64 up, .int .i64 lo, .slice a rs.length cp] 42 (0, 0)) := alloc_at rfl
  have hz : (w.alloc (.cells #[.int .i64 up, .int .i64 lo, .slice a rs.length cp] 42)).heap.size = w.heap.size + 1 := by simp
  generalize w.alloc (.cells #[.int .i64 up, .int .i64 lo, .slice a rs.length cp] 42) = w1 at hb hk hz ⊢
  have HB1 : Hid (Below w.heap.size w w1) := Lib.hid (HB0.out.trans (hb.mono HB0.out.size))
  have HZ1 : Hid (w.heap.size ≤ w1.heap.size) := Lib.hid hb.size
  have HRf1 := Lib.hid (HRf0.out.below HB1.out (Nat.le_refl _))
  have HKf1 := Lib.hid hk
  replace HZ1 : Hid (w.heap.size < w1.heap.size) := Lib.hid (by omega)
  have HE1 := Lib.hid hz
  clear hb hk hz
  have hb : Below w1.heap.size w1 (w1.alloc (.cells #[.int .i64 0, .int .i64 0, .slice none 0 0] 42)) := (Below.refl _ _).alloc (Nat.le_refl _) _
  have hk : (w1.alloc (.cells #[.int .i64 0, .int .i64 0, .slice none 0 0] 42)).heap[w.heap.size + 1]? = some (.cells #[.int .i64 0, .int .i64 0, .slice none 0 0] 42 (0, 0)) := alloc_at (by have := HE1.out; omega)
  have hz : (w1.alloc (.cells #[.int .i64 0, .int .i64 0, .slice none 0 0] 42)).heap.size = w1.heap.size + 1 := by simp
  generalize w1.alloc (.cells #[.int .i64 0, .int .i64 0, .slice none 0 0] 42) = w2 at hb hk hz ⊢
  have HB2 : Hid (Below w.heap.size w w2) := Lib.hid (HB1.out.trans (hb.mono HB1.out.size))
  have HZ2 : Hid (w1.heap.size ≤ w2.heap.size) := Lib.hid hb.size
  have HRf2 := Lib.hid (HRf0.out.below HB2.out (Nat.le_refl _))
  have HKf2 := Lib.hid ((hb.block _ (lt_of_block HKf1.out)).trans HKf1.out)
  have HKz2 := Lib.hid hk
  replace HZ2 : Hid (w1.heap.size < w2.heap.size) := Lib.hid (by omega)
  have HE2 := Lib.hid hz
  clear hb hk hz
  have ltf := lt_of_block HKf2.out
  obtain ⟨cf0, cf1, cf2, ff0, ff1, ff2⟩ := cell3 HKf2.out
  have ltz := lt_of_block HKz2.out
  obtain ⟨cz0, cz1, cz2, fz0, fz1, fz2⟩ := cell3 HKz2.out
  go_wp2_with fail
  refine (l6Can_no up lo _ rs q _ HRf2.out HC.out).mono ?_
  rintro e w3 ⟨rfl, hb⟩
  have HB3 : Hid (Below w.heap.size w w3) := Lib.hid (HB2.out.trans (hb.mono HB2.out.size))
  have HZ3 : Hid (w2.heap.size ≤ w3.heap.size) := Lib.hid hb.size
  have HRf3 := Lib.hid (HRf0.out.below HB3.out (Nat.le_refl _))
  have HKf3 := Lib.hid ((hb.block _ (lt_of_block HKf2.out)).trans HKf2.out)
  have HKz3 := Lib.hid ((hb.block _ (lt_of_block HKz2.out)).trans HKz2.out)
  clear hb
  clear cf0 cf1 cf2 ff0 ff1 ff2 ltf cz0 cz1 cz2 fz0 fz1 fz2 ltz
  have ltf := lt_of_block HKf3.out
  obtain ⟨cf0, cf1, cf2, ff0, ff1, ff2⟩ := cell3 HKf3.out
  have ltz := lt_of_block HKz3.out
  obtain ⟨cz0, cz1, cz2, fz0, fz1, fz2⟩ := cell3 HKz3.out
  go_wp2_with fail
  have hkz := box3_set HKz3.out (.int .i64 0) (.int .i64 0) (.slice none 0 0)
  have hbz : Below w.heap.size w (((w3.setCell ⟨w.heap.size + 1, 0, none⟩ (.int .i64 0)).setCell ⟨w.heap.size + 1, 1, none⟩ (.int .i64 0)).setCell ⟨w.heap.size + 1, 2, none⟩ (.slice none 0 0)) := bl_set3 HB3.out (Nat.le_succ _) _ _ _
  generalize (((w3.setCell ⟨w.heap.size + 1, 0, none⟩ (.int .i64 0)).setCell ⟨w.heap.size + 1, 1, none⟩ (.int .i64 0)).setCell ⟨w.heap.size + 1, 2, none⟩ (.slice none 0 0)) = W9 at hkz hbz ⊢
  obtain ⟨y0, y1, y2, _, _, _⟩ := cell3 hkz
  exact bodyPost_ret (v := .tuple #[.agg #[.int .i64 0, .int .i64 0, .slice none 0 0], .bool false]) (by simp [results, Try.results90, go_sem, y0, y1, y2]) rfl ⟨⟨_, rfl, own_nil _ _ _ _⟩, hbz⟩

set_option maxRecDepth 100000 in
set_option maxHeartbeats 3200000 in
theorem speAddNumber_oyes (up lo : Int) (sv : Value) (rs : List (Int × Int)) (q : Int) (w : World) (h : RodsR w sv rs) (hc : canF up lo rs q) :
    Calls Try.prog 90 #[.agg #[.int .i64 up, .int .i64 lo, sv], .int .i64 q] w fun e w' => (∃ sq, e = .returned (.tuple #[.agg #[.int .i64 up, .int .i64 lo, sq], .bool true]) ∧ w'.ownsRow w.heap.size 77 2 sq (goR 0 (digs rs.length q) rs).length (flat (goR 0 (digs rs.length q) rs))) ∧ Below w.heap.size w w' := by
  obtain ⟨a, cp, rfl⟩ : ∃ a c, sv = .slice a rs.length c := by obtain ⟨a, c, e, _⟩ := h; exact ⟨a, c, e⟩
  have hm : rs.length ≤ 9223372036854775807 := by obtain ⟨_, _, _, ⟨m, _⟩, _⟩ := h; exact m
  have HC := Lib.hid hc
  have hlen : 0 < rs.length ∧ rs.length ≤ 8 := by have := hc.1.2.2.2; omega
  have hp8 := pow_bd rs.length hlen.2
  have hqb : q ≤ 1000000000 := by have := hc.2.2.2.1; omega
  obtain ⟨MT, hMT⟩ : ∃ MT, (goM 0 (digs rs.length q) rs) = MT := ⟨_, rfl⟩
  obtain ⟨RT, hRT⟩ : ∃ RT, (goR 0 (digs rs.length q) rs) = RT := ⟨_, rfl⟩
  rw [hRT]
  have GM := Lib.hid hMT
  have GR := Lib.hid hRT
  clear hMT hRT
  have HB0 : Hid (Below w.heap.size w w) := Lib.hid (Below.refl _ _)
  have HRf0 := Lib.hid (h)
  clear h hc
  go_enter Try.func90, Try.ntmps90
  go_wp2_with fail
  have hb : Below w.heap.size w (w.alloc (.cells #[.int .i64 up, .int .i64 lo, .slice a rs.length cp] 42)) := (Below.refl _ _).alloc (Nat.le_refl _) _
  have hk : (w.alloc (.cells #[.int .i64 up, .int .i64 lo, .slice a rs.length cp] 42)).heap[w.heap.size]? = some (.cells #[.int .i64 up, .int .i64 lo, .slice a rs.length cp] 42 (0, 0)) := alloc_at rfl
  have hz : (w.alloc (.cells #[.int .i64 up, .int .i64 lo, .slice a rs.length cp] 42)).heap.size = w.heap.size + 1 := by simp
  generalize w.alloc (.cells #[.int .i64 up, .int .i64 lo, .slice a rs.length cp] 42) = w1 at hb hk hz ⊢
  have HB1 : Hid (Below w.heap.size w w1) := Lib.hid (HB0.out.trans (hb.mono HB0.out.size))
  have HZ1 : Hid (w.heap.size ≤ w1.heap.size) := Lib.hid hb.size
  have HRf1 := Lib.hid (HRf0.out.below HB1.out (Nat.le_refl _))
  have HKf1 := Lib.hid hk
  replace HZ1 : Hid (w.heap.size < w1.heap.size) := Lib.hid (by omega)
  have HE1 := Lib.hid hz
  clear hb hk hz
  have hb : Below w1.heap.size w1 (w1.alloc (.cells #[.int .i64 0, .int .i64 0, .slice none 0 0] 42)) := (Below.refl _ _).alloc (Nat.le_refl _) _
  have hk : (w1.alloc (.cells #[.int .i64 0, .int .i64 0, .slice none 0 0] 42)).heap[w.heap.size + 1]? = some (.cells #[.int .i64 0, .int .i64 0, .slice none 0 0] 42 (0, 0)) := alloc_at (by have := HE1.out; omega)
  have hz : (w1.alloc (.cells #[.int .i64 0, .int .i64 0, .slice none 0 0] 42)).heap.size = w1.heap.size + 1 := by simp
  generalize w1.alloc (.cells #[.int .i64 0, .int .i64 0, .slice none 0 0] 42) = w2 at hb hk hz ⊢
  have HB2 : Hid (Below w.heap.size w w2) := Lib.hid (HB1.out.trans (hb.mono HB1.out.size))
  have HZ2 : Hid (w1.heap.size ≤ w2.heap.size) := Lib.hid hb.size
  have HRf2 := Lib.hid (HRf0.out.below HB2.out (Nat.le_refl _))
  have HKf2 := Lib.hid ((hb.block _ (lt_of_block HKf1.out)).trans HKf1.out)
  have HKz2 := Lib.hid hk
  replace HZ2 : Hid (w1.heap.size < w2.heap.size) := Lib.hid (by omega)
  have HE2 := Lib.hid hz
  clear hb hk hz
  have ltf := lt_of_block HKf2.out
  obtain ⟨cf0, cf1, cf2, ff0, ff1, ff2⟩ := cell3 HKf2.out
  have ltz := lt_of_block HKz2.out
  obtain ⟨cz0, cz1, cz2, fz0, fz1, fz2⟩ := cell3 HKz2.out
  go_wp2_with fail
  refine (l6Can_yes up lo _ rs q _ HRf2.out HC.out).mono ?_
  rintro e w3 ⟨rfl, hb⟩
  have HB3 : Hid (Below w.heap.size w w3) := Lib.hid (HB2.out.trans (hb.mono HB2.out.size))
  have HZ3 : Hid (w2.heap.size ≤ w3.heap.size) := Lib.hid hb.size
  have HRf3 := Lib.hid (HRf0.out.below HB3.out (Nat.le_refl _))
  have HKf3 := Lib.hid ((hb.block _ (lt_of_block HKf2.out)).trans HKf2.out)
  have HKz3 := Lib.hid ((hb.block _ (lt_of_block HKz2.out)).trans HKz2.out)
  clear hb
  clear cf0 cf1 cf2 ff0 ff1 ff2 ltf cz0 cz1 cz2 fz0 fz1 fz2 ltz
  have ltf := lt_of_block HKf3.out
  obtain ⟨cf0, cf1, cf2, ff0, ff1, ff2⟩ := cell3 HKf3.out
  have ltz := lt_of_block HKz3.out
  obtain ⟨cz0, cz1, cz2, fz0, fz1, fz2⟩ := cell3 HKz3.out
  go_wp2_with fail
  refine (l6Number_any up lo _ rs q _ HRf3.out HC.out.2.1 hlen HC.out.2.2.1 hqb).mono ?_
  rintro e w4 ⟨⟨g1, c1, r1, k1, rfl, or, om⟩, hb⟩
  have HB4 : Hid (Below w.heap.size w w4) := Lib.hid (HB3.out.trans (hb.mono HB3.out.size))
  have HZ4 : Hid (w3.heap.size ≤ w4.heap.size) := Lib.hid hb.size
  have HRf4 := Lib.hid (HRf0.out.below HB4.out (Nat.le_refl _))
  have HKf4 := Lib.hid ((hb.block _ (lt_of_block HKf3.out)).trans HKf3.out)
  have HKz4 := Lib.hid ((hb.block _ (lt_of_block HKz3.out)).trans HKz3.out)
  clear hb
  rw [GM.out] at om
  rw [GR.out] at or
  simp only [GM.out, GR.out]
  have HOr4 := Lib.hid (Ow.mk' or)
  have HOm4 := Lib.hid (Ow.mk' om)
  clear or om
  clear cf0 cf1 cf2 ff0 ff1 ff2 ltf cz0 cz1 cz2 fz0 fz1 fz2 ltz
  have ltf := lt_of_block HKf4.out
  obtain ⟨cf0, cf1, cf2, ff0, ff1, ff2⟩ := cell3 HKf4.out
  have ltz := lt_of_block HKz4.out
  obtain ⟨cz0, cz1, cz2, fz0, fz1, fz2⟩ := cell3 HKz4.out
  go_wp2_with fail
  have hkz := (alloc_old (w := (((w4.setCell ⟨w.heap.size + 1, 0, none⟩ (.int .i64 up)).setCell ⟨w.heap.size + 1, 1, none⟩ (.int .i64 lo)).setCell ⟨w.heap.size + 1, 2, none⟩ (.slice (some ⟨r1, 0, none⟩) RT.length k1))) (o := (.cells #[.int .i64 up, .int .i64 lo, .slice (some ⟨r1, 0, none⟩) RT.length k1] 42)) (k := w.heap.size + 1) (by simp; exact ltz)).trans (box3_set HKz4.out (.int .i64 up) (.int .i64 lo) (.slice (some ⟨r1, 0, none⟩) RT.length k1))
  have hbz : Below w.heap.size w ((((w4.setCell ⟨w.heap.size + 1, 0, none⟩ (.int .i64 up)).setCell ⟨w.heap.size + 1, 1, none⟩ (.int .i64 lo)).setCell ⟨w.heap.size + 1, 2, none⟩ (.slice (some ⟨r1, 0, none⟩) RT.length k1)).alloc (.cells #[.int .i64 up, .int .i64 lo, .slice (some ⟨r1, 0, none⟩) RT.length k1] 42)) := (bl_set3 HB4.out (Nat.le_succ _) _ _ _).alloc (by simp; exact HB4.out.size) _
  have hlz : w.heap.size + 1 < w3.heap.size := by have := lt_of_block HKz3.out; omega
  have hoz := (own_set3 HOr4.out.1 hlz (.int .i64 up) (.int .i64 lo) (.slice (some ⟨r1, 0, none⟩) RT.length k1)).alloc (.cells #[.int .i64 up, .int .i64 lo, .slice (some ⟨r1, 0, none⟩) RT.length k1] 42)
  generalize (((w4.setCell ⟨w.heap.size + 1, 0, none⟩ (.int .i64 up)).setCell ⟨w.heap.size + 1, 1, none⟩ (.int .i64 lo)).setCell ⟨w.heap.size + 1, 2, none⟩ (.slice (some ⟨r1, 0, none⟩) RT.length k1)).alloc (.cells #[.int .i64 up, .int .i64 lo, .slice (some ⟨r1, 0, none⟩) RT.length k1] 42) = W9 at hkz hbz hoz ⊢
  obtain ⟨y0, y1, y2, _, _, _⟩ := cell3 hkz
  exact bodyPost_ret (v := .tuple #[.agg #[.int .i64 up, .int .i64 lo, .slice (some ⟨r1, 0, none⟩) RT.length k1], .bool true]) (by simp [results, Try.results90, go_sem, y0, y1, y2]) rfl ⟨⟨_, rfl, own_mono hoz (by have := hlz; omega)⟩, hbz⟩

/-- One answer of the addition, whatever it is. -/
theorem addS_any (up lo : Int) (rs : List (Int × Int)) (m : Int) : ∃ (fu fl : Int) (qs : List (Int × Int)) (ok : Bool), (canF up lo rs m → fu = up ∧ fl = lo ∧ qs = goR 0 (digs rs.length m) rs ∧ ok = true) ∧ (¬ canF up lo rs m → fu = 0 ∧ fl = 0 ∧ qs = [] ∧ ok = false) ∧
    ∀ sv w, RodsR w sv rs → Calls Try.prog 90 #[.agg #[.int .i64 up, .int .i64 lo, sv], .int .i64 m] w fun e w' => (∃ sq, e = .returned (.tuple #[.agg #[.int .i64 fu, .int .i64 fl, sq], .bool ok]) ∧ w'.ownsRow w.heap.size 77 2 sq qs.length (flat qs)) ∧ Below w.heap.size w w' := by
  by_cases h : canF up lo rs m
  · exact ⟨up, lo, _, true, fun _ => ⟨rfl, rfl, rfl, rfl⟩, fun h' => absurd h h', fun sv w hr => speAddNumber_oyes up lo sv rs m w hr h⟩
  · exact ⟨0, 0, [], false, fun h' => absurd h' h, fun _ => ⟨rfl, rfl, rfl, rfl⟩, fun sv w hr => speAddNumber_ono up lo sv rs m w hr h⟩
set_option maxRecDepth 100000 in
set_option maxHeartbeats 3200000 in
theorem speProductOn_in (up lo : Int) (sv : Value) (rs : List (Int × Int)) (a b : Int) (w : World) (h : RodsR w sv rs) (hc : okFs a b) (fu fl : Int) (qs : List (Int × Int)) (ok : Bool)
    (hA : ∀ sv w, RodsR w sv rs → Calls Try.prog 90 #[.agg #[.int .i64 up, .int .i64 lo, sv], .int .i64 (a * b)] w fun e w' => (∃ sq, e = .returned (.tuple #[.agg #[.int .i64 fu, .int .i64 fl, sq], .bool ok]) ∧ w'.ownsRow w.heap.size 77 2 sq qs.length (flat qs)) ∧ Below w.heap.size w w') :
    Calls Try.prog 32 #[.agg #[.int .i64 up, .int .i64 lo, sv], .int .i64 a, .int .i64 b] w fun e w' => (∃ sq, e = .returned (.tuple #[.agg #[.int .i64 fu, .int .i64 fl, sq], .bool ok]) ∧ RodsR w' sq qs) ∧ Below w.heap.size w w' := by
  obtain ⟨p, cp, rfl⟩ : ∃ a c, sv = .slice a rs.length c := by obtain ⟨a, c, e, _⟩ := h; exact ⟨a, c, e⟩
  have HC := Lib.hid hc
  have HA := Lib.hid hA
  have hmt : 0 ≤ a * b ∧ a * b ≤ 99980001 := by
    obtain ⟨m, n, rfl, rfl, h1, h2⟩ := okFs_nat hc; exact mul_top h1 h2
  obtain ⟨m, hm⟩ : ∃ m, a * b = m := ⟨_, rfl⟩
  rw [hm] at HA hmt
  have hw : IntKind.i64.wrap (a * b) = m := by rw [hm, IntKind.wrap_i64]; omega
  clear hmt hm
  have HB0 : Hid (Below w.heap.size w w) := Lib.hid (Below.refl _ _)
  have HRf0 := Lib.hid (h)
  clear h hc hA
  go_enter Try.func32, Try.ntmps32
  go_wp2_with fail
  have hb : Below w.heap.size w (w.alloc (.cells #[.int .i64 up, .int .i64 lo, .slice p rs.length cp] 42)) := (Below.refl _ _).alloc (Nat.le_refl _) _
  have hk : (w.alloc (.cells #[.int .i64 up, .int .i64 lo, .slice p rs.length cp] 42)).heap[w.heap.size]? = some (.cells #[.int .i64 up, .int .i64 lo, .slice p rs.length cp] 42 (0, 0)) := alloc_at rfl
  have hz : (w.alloc (.cells #[.int .i64 up, .int .i64 lo, .slice p rs.length cp] 42)).heap.size = w.heap.size + 1 := by simp
  generalize w.alloc (.cells #[.int .i64 up, .int .i64 lo, .slice p rs.length cp] 42) = w1 at hb hk hz ⊢
  have HB1 : Hid (Below w.heap.size w w1) := Lib.hid (HB0.out.trans (hb.mono HB0.out.size))
  have HZ1 : Hid (w.heap.size ≤ w1.heap.size) := Lib.hid hb.size
  have HRf1 := Lib.hid (HRf0.out.below HB1.out (Nat.le_refl _))
  have HKf1 := Lib.hid hk
  replace HZ1 : Hid (w.heap.size < w1.heap.size) := Lib.hid (by omega)
  have HE1 := Lib.hid hz
  clear hb hk hz
  have hb : Below w1.heap.size w1 (w1.alloc (.cells #[.int .i64 0, .int .i64 0, .slice none 0 0] 42)) := (Below.refl _ _).alloc (Nat.le_refl _) _
  have hk : (w1.alloc (.cells #[.int .i64 0, .int .i64 0, .slice none 0 0] 42)).heap[w.heap.size + 1]? = some (.cells #[.int .i64 0, .int .i64 0, .slice none 0 0] 42 (0, 0)) := alloc_at (by have := HE1.out; omega)
  have hz : (w1.alloc (.cells #[.int .i64 0, .int .i64 0, .slice none 0 0] 42)).heap.size = w1.heap.size + 1 := by simp
  generalize w1.alloc (.cells #[.int .i64 0, .int .i64 0, .slice none 0 0] 42) = w2 at hb hk hz ⊢
  have HB2 : Hid (Below w.heap.size w w2) := Lib.hid (HB1.out.trans (hb.mono HB1.out.size))
  have HZ2 : Hid (w1.heap.size ≤ w2.heap.size) := Lib.hid hb.size
  have HRf2 := Lib.hid (HRf0.out.below HB2.out (Nat.le_refl _))
  have HKf2 := Lib.hid ((hb.block _ (lt_of_block HKf1.out)).trans HKf1.out)
  have HKz2 := Lib.hid hk
  replace HZ2 : Hid (w1.heap.size < w2.heap.size) := Lib.hid (by omega)
  have HE2 := Lib.hid hz
  clear hb hk hz
  have ltf := lt_of_block HKf2.out
  obtain ⟨cf0, cf1, cf2, ff0, ff1, ff2⟩ := cell3 HKf2.out
  have ltz := lt_of_block HKz2.out
  obtain ⟨cz0, cz1, cz2, fz0, fz1, fz2⟩ := cell3 HKz2.out
  go_wp2_with fail
  refine (l9Both_yes _ _ _ HC.out).mono ?_
  rintro e wz ⟨rfl, hwz⟩
  subst wz
  go_wp2_with fail
  refine (HA.out _ _ HRf2.out).mono ?_
  rintro e w3 ⟨⟨sq, rfl, hq⟩, hb⟩
  have HB3 : Hid (Below w.heap.size w w3) := Lib.hid (HB2.out.trans (hb.mono HB2.out.size))
  have HZ3 : Hid (w2.heap.size ≤ w3.heap.size) := Lib.hid hb.size
  have HRf3 := Lib.hid (HRf0.out.below HB3.out (Nat.le_refl _))
  have HKf3 := Lib.hid ((hb.block _ (lt_of_block HKf2.out)).trans HKf2.out)
  have HKz3 := Lib.hid ((hb.block _ (lt_of_block HKz2.out)).trans HKz2.out)
  clear hb
  obtain ⟨p1, k1, rfl⟩ := own_form hq
  have HOq3 := Lib.hid (Ow.mk' hq)
  clear hq
  clear cf0 cf1 cf2 ff0 ff1 ff2 ltf cz0 cz1 cz2 fz0 fz1 fz2 ltz
  have ltf := lt_of_block HKf3.out
  obtain ⟨cf0, cf1, cf2, ff0, ff1, ff2⟩ := cell3 HKf3.out
  have ltz := lt_of_block HKz3.out
  obtain ⟨cz0, cz1, cz2, fz0, fz1, fz2⟩ := cell3 HKz3.out
  go_wp2_with fail
  have hkz := (alloc_old (w := (((w3.setCell ⟨w.heap.size + 1, 0, none⟩ (.int .i64 fu)).setCell ⟨w.heap.size + 1, 1, none⟩ (.int .i64 fl)).setCell ⟨w.heap.size + 1, 2, none⟩ (.slice p1 qs.length k1))) (o := (.cells #[.int .i64 fu, .int .i64 fl, .slice p1 qs.length k1] 42)) (k := w.heap.size + 1) (by simp; exact ltz)).trans (box3_set HKz3.out (.int .i64 fu) (.int .i64 fl) (.slice p1 qs.length k1))
  have hbz : Below w.heap.size w ((((w3.setCell ⟨w.heap.size + 1, 0, none⟩ (.int .i64 fu)).setCell ⟨w.heap.size + 1, 1, none⟩ (.int .i64 fl)).setCell ⟨w.heap.size + 1, 2, none⟩ (.slice p1 qs.length k1)).alloc (.cells #[.int .i64 fu, .int .i64 fl, .slice p1 qs.length k1] 42)) := (bl_set3 HB3.out (Nat.le_succ _) _ _ _).alloc (by simp; exact HB3.out.size) _
  have hlz : w.heap.size + 1 < w2.heap.size := by have := lt_of_block HKz2.out; omega
  have hoz := (own_set3 HOq3.out.1 hlz (.int .i64 fu) (.int .i64 fl) (.slice p1 qs.length k1)).alloc (.cells #[.int .i64 fu, .int .i64 fl, .slice p1 qs.length k1] 42)
  generalize (((w3.setCell ⟨w.heap.size + 1, 0, none⟩ (.int .i64 fu)).setCell ⟨w.heap.size + 1, 1, none⟩ (.int .i64 fl)).setCell ⟨w.heap.size + 1, 2, none⟩ (.slice p1 qs.length k1)).alloc (.cells #[.int .i64 fu, .int .i64 fl, .slice p1 qs.length k1] 42) = W9 at hkz hbz hoz ⊢
  obtain ⟨y0, y1, y2, _, _, _⟩ := cell3 hkz
  exact bodyPost_ret (v := .tuple #[.agg #[.int .i64 fu, .int .i64 fl, .slice p1 qs.length k1], .bool ok]) (by simp [results, Try.results32, go_sem, y0, y1, y2]) rfl ⟨⟨_, rfl, RodsR.of_own hoz⟩, hbz⟩
set_option maxRecDepth 100000 in
set_option maxHeartbeats 800000 in
theorem speProductOn_yes (up lo : Int) (sv : Value) (rs : List (Int × Int)) (a b : Int) (w : World) (h : RodsR w sv rs) (hc : canP up lo rs a b) :
    Calls Try.prog 32 #[.agg #[.int .i64 up, .int .i64 lo, sv], .int .i64 a, .int .i64 b] w fun e w' => (∃ sq, e = .returned (.tuple #[.agg #[.int .i64 up, .int .i64 lo, sq], .bool true]) ∧ RodsR w' sq (goR 0 (digs rs.length (a * b)) rs)) ∧ Below w.heap.size w w' := by
  obtain ⟨fu, fl, qs, ok, h1, _, hA⟩ := addS_any up lo rs (a * b)
  obtain ⟨rfl, rfl, rfl, rfl⟩ := h1 hc.2
  exact speProductOn_in _ _ sv rs a b w h hc.1 _ _ _ _ hA
theorem speProductOn_no (up lo : Int) (sv : Value) (rs : List (Int × Int)) (a b : Int) (w : World) (h : RodsR w sv rs) (hc : ¬ canP up lo rs a b) :
    Calls Try.prog 32 #[.agg #[.int .i64 up, .int .i64 lo, sv], .int .i64 a, .int .i64 b] w fun e w' => (∃ sq, e = .returned (.tuple #[.agg #[.int .i64 0, .int .i64 0, sq], .bool false]) ∧ RodsR w' sq ([] : List (Int × Int))) ∧ Below w.heap.size w w' := by
  by_cases hk : okFs a b
  · obtain ⟨fu, fl, qs, ok, _, h1, hA⟩ := addS_any up lo rs (a * b)
    obtain ⟨rfl, rfl, rfl, rfl⟩ := h1 (fun h' => hc ⟨hk, h'⟩)
    exact speProductOn_in _ _ sv rs a b w h hk _ _ _ _ hA
  · exact speProductOn_out up lo sv rs a b w h hk
end Go.Proofs.Ythmbehknacjodaa

/-! Ip9 -/
namespace Go.Proofs.Ythmbehknacjodaa
set_option linter.unusedVariables false
open Go.RowKit

/-- One answer of the addition, whatever it is. -/
theorem addI_any (up lo : Int) (rs : List (Int × Int)) (m : Int) (hb : -9223372036854775808 ≤ m ∧ m ≤ 9223372036854775807) : ∃ (fu fl : Int) (qs : List (Int × Int)) (ok : Bool), (canF up lo rs m → fu = up ∧ fl = lo ∧ qs = goR 0 (digs rs.length m) rs ∧ ok = true) ∧ (¬ canF up lo rs m → fu = 0 ∧ fl = 0 ∧ qs = [] ∧ ok = false) ∧
    ∀ sv w, RodsR w sv rs → Calls Try.prog 89 #[.agg #[.int .i64 up, .int .i64 lo, sv], .int .i64 m] w fun e w' => (∃ sq, e = .returned (.tuple #[.agg #[.int .i64 fu, .int .i64 fl, sq], .bool ok]) ∧ w'.ownsRow w.heap.size 77 2 sq qs.length (flat qs)) ∧ Below w.heap.size w w' := by
  by_cases h : canF up lo rs m
  · exact ⟨up, lo, _, true, fun _ => ⟨rfl, rfl, rfl, rfl⟩, fun h' => absurd h h', fun sv w hr => impAddNumber_yes up lo sv rs m w hr h⟩
  · exact ⟨0, 0, [], false, fun h' => absurd h' h, fun _ => ⟨rfl, rfl, rfl, rfl⟩, fun sv w hr => impAddNumber_no up lo sv rs m w hr hb h⟩
set_option maxRecDepth 100000 in
set_option maxHeartbeats 1600000 in
theorem impProductOn_out (up lo : Int) (sv : Value) (rs : List (Int × Int)) (a b : Int) (w : World) (h : RodsR w sv rs) (hc : ¬ okFs a b) :
    Calls Try.prog 31 #[.agg #[.int .i64 up, .int .i64 lo, sv], .int .i64 a, .int .i64 b] w fun e w' => (∃ sq, e = .returned (.tuple #[.agg #[.int .i64 0, .int .i64 0, sq], .bool false]) ∧ w'.ownsRow w.heap.size 77 2 sq ([] : List (Int × Int)).length (flat ([] : List (Int × Int)))) ∧ Below w.heap.size w w' := by
  obtain ⟨p, cp, rfl⟩ : ∃ a c, sv = .slice a rs.length c := by obtain ⟨a, c, e, _⟩ := h; exact ⟨a, c, e⟩
  have HC := Lib.hid hc
  have HB0 : Hid (Below w.heap.size w w) := Lib.hid (Below.refl _ _)
  have HRf0 := Lib.hid (h)
  clear h hc
  go_enter Try.func31, Try.ntmps31
  go_wp2_with fail
  have hb : Below w.heap.size w (w.alloc (.cells #[.int .i64 up, .int .i64 lo, .slice p rs.length cp] 42)) := (Below.refl _ _).alloc (Nat.le_refl _) _
  have hk : (w.alloc (.cells #[.int .i64 up, .int .i64 lo, .slice p rs.length cp] 42)).heap[w.heap.size]? = some (.cells #[.int .i64 up, .int .i64 lo, .slice p rs.length cp] 42 (0, 0)) := alloc_at rfl
  have hz : (w.alloc (.cells #[.int .i64 up, .int .i64 lo, .slice p rs.length cp] 42)).heap.size = w.heap.size + 1 := by simp
  generalize w.alloc (.cells #[.int .i64 up, .int .i64 lo, .slice p rs.length cp] 42) = w1 at hb hk hz ⊢
  have HB1 : Hid (Below w.heap.size w w1) := Lib.hid (HB0.out.trans (hb.mono HB0.out.size))
  have HZ1 : Hid (w.heap.size ≤ w1.heap.size) := Lib.hid hb.size
  have HRf1 := Lib.hid (HRf0.out.below HB1.out (Nat.le_refl _))
  have HKf1 := Lib.hid hk
  replace HZ1 : Hid (w.heap.size < w1.heap.size) := Lib.hid (by omega)
  have HE1 := Lib.hid hz
  clear hb hk hz
  have hb : Below w1.heap.size w1 (w1.alloc (.cells #[.int .i64 0, .int .i64 0, .slice none 0 0] 42)) := (Below.refl _ _).alloc (Nat.le_refl _) _
  have hk : (w1.alloc (.cells #[.int .i64 0, .int .i64 0, .slice none 0 0] 42)).heap[w.heap.size + 1]? = some (.cells #[.int .i64 0, .int .i64 0, .slice none 0 0] 42 (0, 0)) := alloc_at (by have := HE1.out; omega)
  have hz : (w1.alloc (.cells #[.int .i64 0, .int .i64 0, .slice none 0 0] 42)).heap.size = w1.heap.size + 1 := by simp
  generalize w1.alloc (.cells #[.int .i64 0, .int .i64 0, .slice none 0 0] 42) = w2 at hb hk hz ⊢
  have HB2 : Hid (Below w.heap.size w w2) := Lib.hid (HB1.out.trans (hb.mono HB1.out.size))
  have HZ2 : Hid (w1.heap.size ≤ w2.heap.size) := Lib.hid hb.size
  have HRf2 := Lib.hid (HRf0.out.below HB2.out (Nat.le_refl _))
  have HKf2 := Lib.hid ((hb.block _ (lt_of_block HKf1.out)).trans HKf1.out)
  have HKz2 := Lib.hid hk
  replace HZ2 : Hid (w1.heap.size < w2.heap.size) := Lib.hid (by omega)
  have HE2 := Lib.hid hz
  clear hb hk hz
  have ltf := lt_of_block HKf2.out
  obtain ⟨cf0, cf1, cf2, ff0, ff1, ff2⟩ := cell3 HKf2.out
  have ltz := lt_of_block HKz2.out
  obtain ⟨cz0, cz1, cz2, fz0, fz1, fz2⟩ := cell3 HKz2.out
  go_wp2_with fail
  refine (areF_no _ _ _ HC.out).mono ?_
  rintro e wz ⟨rfl, hwz⟩
  subst wz
  go_wp2_with fail
  have hkz := box3_set HKz2.out (.int .i64 0) (.int .i64 0) (.slice none 0 0)
  have hbz := bl_set3 HB2.out (Nat.le_succ w.heap.size) (.int .i64 0) (.int .i64 0) (.slice none 0 0)
  generalize (((w2.setCell ⟨w.heap.size + 1, 0, none⟩ (.int .i64 0)).setCell ⟨w.heap.size + 1, 1, none⟩ (.int .i64 0)).setCell ⟨w.heap.size + 1, 2, none⟩ (.slice none 0 0)) = W9 at hkz hbz ⊢
  obtain ⟨z0, z1, z2, _, _, _⟩ := cell3 hkz
  exact bodyPost_ret (v := .tuple #[.agg #[.int .i64 0, .int .i64 0, .slice none 0 0], .bool false]) (by simp [results, Try.results31, go_sem, z0, z1, z2]) rfl ⟨⟨_, rfl, own_nil _ _ _ _⟩, hbz⟩
set_option maxRecDepth 100000 in
set_option maxHeartbeats 3200000 in
theorem impProductOn_in (up lo : Int) (sv : Value) (rs : List (Int × Int)) (a b : Int) (w : World) (h : RodsR w sv rs) (hc : okFs a b) (fu fl : Int) (qs : List (Int × Int)) (ok : Bool)
    (hA : ∀ sv w, RodsR w sv rs → Calls Try.prog 89 #[.agg #[.int .i64 up, .int .i64 lo, sv], .int .i64 (a * b)] w fun e w' => (∃ sq, e = .returned (.tuple #[.agg #[.int .i64 fu, .int .i64 fl, sq], .bool ok]) ∧ w'.ownsRow w.heap.size 77 2 sq qs.length (flat qs)) ∧ Below w.heap.size w w') :
    Calls Try.prog 31 #[.agg #[.int .i64 up, .int .i64 lo, sv], .int .i64 a, .int .i64 b] w fun e w' => (∃ sq, e = .returned (.tuple #[.agg #[.int .i64 fu, .int .i64 fl, sq], .bool ok]) ∧ w'.ownsRow w.heap.size 77 2 sq qs.length (flat qs)) ∧ Below w.heap.size w w' := by
  obtain ⟨p, cp, rfl⟩ : ∃ a c, sv = .slice a rs.length c := by obtain ⟨a, c, e, _⟩ := h; exact ⟨a, c, e⟩
  have HC := Lib.hid hc
  have HA := Lib.hid hA
  have hmt : 0 ≤ a * b ∧ a * b ≤ 99980001 := by
    obtain ⟨m, n, rfl, rfl, h1, h2⟩ := okFs_nat hc; exact mul_top h1 h2
  obtain ⟨m, hm⟩ : ∃ m, a * b = m := ⟨_, rfl⟩
  rw [hm] at HA hmt
  have hw : IntKind.i64.wrap (a * b) = m := by rw [hm, IntKind.wrap_i64]; omega
  clear hmt hm
  have HB0 : Hid (Below w.heap.size w w) := Lib.hid (Below.refl _ _)
  have HRf0 := Lib.hid (h)
  clear h hc hA
  go_enter Try.func31, Try.ntmps31
  go_wp2_with fail
  have hb : Below w.heap.size w (w.alloc (.cells #[.int .i64 up, .int .i64 lo, .slice p rs.length cp] 42)) := (Below.refl _ _).alloc (Nat.le_refl _) _
  have hk : (w.alloc (.cells #[.int .i64 up, .int .i64 lo, .slice p rs.length cp] 42)).heap[w.heap.size]? = some (.cells #[.int .i64 up, .int .i64 lo, .slice p rs.length cp] 42 (0, 0)) := alloc_at rfl
  have hz : (w.alloc (.cells #[.int .i64 up, .int .i64 lo, .slice p rs.length cp] 42)).heap.size = w.heap.size + 1 := by simp
  generalize w.alloc (.cells #[.int .i64 up, .int .i64 lo, .slice p rs.length cp] 42) = w1 at hb hk hz ⊢
  have HB1 : Hid (Below w.heap.size w w1) := Lib.hid (HB0.out.trans (hb.mono HB0.out.size))
  have HZ1 : Hid (w.heap.size ≤ w1.heap.size) := Lib.hid hb.size
  have HRf1 := Lib.hid (HRf0.out.below HB1.out (Nat.le_refl _))
  have HKf1 := Lib.hid hk
  replace HZ1 : Hid (w.heap.size < w1.heap.size) := Lib.hid (by omega)
  have HE1 := Lib.hid hz
  clear hb hk hz
  have hb : Below w1.heap.size w1 (w1.alloc (.cells #[.int .i64 0, .int .i64 0, .slice none 0 0] 42)) := (Below.refl _ _).alloc (Nat.le_refl _) _
  have hk : (w1.alloc (.cells #[.int .i64 0, .int .i64 0, .slice none 0 0] 42)).heap[w.heap.size + 1]? = some (.cells #[.int .i64 0, .int .i64 0, .slice none 0 0] 42 (0, 0)) := alloc_at (by have := HE1.out; omega)
  have hz : (w1.alloc (.cells #[.int .i64 0, .int .i64 0, .slice none 0 0] 42)).heap.size = w1.heap.size + 1 := by simp
  generalize w1.alloc (.cells #[.int .i64 0, .int .i64 0, .slice none 0 0] 42) = w2 at hb hk hz ⊢
  have HB2 : Hid (Below w.heap.size w w2) := Lib.hid (HB1.out.trans (hb.mono HB1.out.size))
  have HZ2 : Hid (w1.heap.size ≤ w2.heap.size) := Lib.hid hb.size
  have HRf2 := Lib.hid (HRf0.out.below HB2.out (Nat.le_refl _))
  have HKf2 := Lib.hid ((hb.block _ (lt_of_block HKf1.out)).trans HKf1.out)
  have HKz2 := Lib.hid hk
  replace HZ2 : Hid (w1.heap.size < w2.heap.size) := Lib.hid (by omega)
  have HE2 := Lib.hid hz
  clear hb hk hz
  have ltf := lt_of_block HKf2.out
  obtain ⟨cf0, cf1, cf2, ff0, ff1, ff2⟩ := cell3 HKf2.out
  have ltz := lt_of_block HKz2.out
  obtain ⟨cz0, cz1, cz2, fz0, fz1, fz2⟩ := cell3 HKz2.out
  go_wp2_with fail
  refine (areF_yes _ _ _ HC.out).mono ?_
  rintro e wz ⟨rfl, hwz⟩
  subst wz
  go_wp2_with fail
  refine (HA.out _ _ HRf2.out).mono ?_
  rintro e w3 ⟨⟨sq, rfl, hq⟩, hb⟩
  have HB3 : Hid (Below w.heap.size w w3) := Lib.hid (HB2.out.trans (hb.mono HB2.out.size))
  have HZ3 : Hid (w2.heap.size ≤ w3.heap.size) := Lib.hid hb.size
  have HRf3 := Lib.hid (HRf0.out.below HB3.out (Nat.le_refl _))
  have HKf3 := Lib.hid ((hb.block _ (lt_of_block HKf2.out)).trans HKf2.out)
  have HKz3 := Lib.hid ((hb.block _ (lt_of_block HKz2.out)).trans HKz2.out)
  clear hb
  obtain ⟨p1, k1, rfl⟩ := own_form hq
  have HOq3 := Lib.hid (Ow.mk' hq)
  clear hq
  clear cf0 cf1 cf2 ff0 ff1 ff2 ltf cz0 cz1 cz2 fz0 fz1 fz2 ltz
  have ltf := lt_of_block HKf3.out
  obtain ⟨cf0, cf1, cf2, ff0, ff1, ff2⟩ := cell3 HKf3.out
  have ltz := lt_of_block HKz3.out
  obtain ⟨cz0, cz1, cz2, fz0, fz1, fz2⟩ := cell3 HKz3.out
  go_wp2_with fail
  have hlz : w.heap.size + 1 < w2.heap.size := lt_of_block HKz2.out
  have hpz : w.heap.size ≤ w2.heap.size := by omega
  have hkz := box3_set HKz3.out (.int .i64 fu) (.int .i64 fl) (.slice p1 qs.length k1)
  have hbz := bl_set3 HB3.out (Nat.le_succ w.heap.size) (.int .i64 fu) (.int .i64 fl) (.slice p1 qs.length k1)
  have hoz := own_set3 HOq3.out.1 hlz (.int .i64 fu) (.int .i64 fl) (.slice p1 qs.length k1)
  generalize (((w3.setCell ⟨w.heap.size + 1, 0, none⟩ (.int .i64 fu)).setCell ⟨w.heap.size + 1, 1, none⟩ (.int .i64 fl)).setCell ⟨w.heap.size + 1, 2, none⟩ (.slice p1 qs.length k1)) = W9 at hkz hbz hoz ⊢
  obtain ⟨z0, z1, z2, _, _, _⟩ := cell3 hkz
  exact bodyPost_ret (v := .tuple #[.agg #[.int .i64 fu, .int .i64 fl, .slice p1 qs.length k1], .bool ok]) (by simp [results, Try.results31, go_sem, z0, z1, z2]) rfl ⟨⟨_, rfl, own_mono hoz hpz⟩, hbz⟩
theorem prod_i64 {a b : Int} (h : okFs a b) : -9223372036854775808 ≤ a * b ∧ a * b ≤ 9223372036854775807 := by
  obtain ⟨m, n, rfl, rfl, h1, h2⟩ := okFs_nat h
  have := mul_top h1 h2
  omega
theorem impProductOn_yes (up lo : Int) (sv : Value) (rs : List (Int × Int)) (a b : Int) (w : World) (h : RodsR w sv rs) (hc : canP up lo rs a b) :
    Calls Try.prog 31 #[.agg #[.int .i64 up, .int .i64 lo, sv], .int .i64 a, .int .i64 b] w fun e w' => (∃ sq, e = .returned (.tuple #[.agg #[.int .i64 up, .int .i64 lo, sq], .bool true]) ∧ w'.ownsRow w.heap.size 77 2 sq (goR 0 (digs rs.length (a * b)) rs).length (flat (goR 0 (digs rs.length (a * b)) rs))) ∧ Below w.heap.size w w' := by
  obtain ⟨fu, fl, qs, ok, h1, _, hA⟩ := addI_any up lo rs (a * b) (prod_i64 hc.1)
  obtain ⟨rfl, rfl, rfl, rfl⟩ := h1 hc.2
  exact impProductOn_in _ _ sv rs a b w h hc.1 _ _ _ _ hA
theorem impProductOn_no (up lo : Int) (sv : Value) (rs : List (Int × Int)) (a b : Int) (w : World) (h : RodsR w sv rs) (hc : ¬ canP up lo rs a b) :
    Calls Try.prog 31 #[.agg #[.int .i64 up, .int .i64 lo, sv], .int .i64 a, .int .i64 b] w fun e w' => (∃ sq, e = .returned (.tuple #[.agg #[.int .i64 0, .int .i64 0, sq], .bool false]) ∧ w'.ownsRow w.heap.size 77 2 sq ([] : List (Int × Int)).length (flat ([] : List (Int × Int)))) ∧ Below w.heap.size w w' := by
  by_cases hk : okFs a b
  · obtain ⟨fu, fl, qs, ok, _, h1, hA⟩ := addI_any up lo rs (a * b) (prod_i64 hk)
    obtain ⟨rfl, rfl, rfl, rfl⟩ := h1 (fun h' => hc ⟨hk, h'⟩)
    exact impProductOn_in _ _ sv rs a b w h hk _ _ _ _ hA
  · exact impProductOn_out up lo sv rs a b w h hk
end Go.Proofs.Ythmbehknacjodaa
