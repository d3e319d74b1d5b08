/- The model's trial digits and corrections, and the check of a division. -/
import Derived.Test.YthmbehknacjodaaNd2
namespace Go.Proofs.Ythmbehknacjodaa
set_option linter.unusedVariables false
open Go.RowKit

set_option maxRecDepth 100000 in
set_option maxHeartbeats 400000 in
theorem l1LeastD_any (x y : Int) (w : World) :
    Calls Try.prog 132 #[.int .i64 x, .int .i64 y] w fun e w' => e = .returned (.int .i64 (if x < y then x else y)) ∧ w' = w := by
  by_cases h : x < y
  · rw [if_pos h]
    go_enter Try.func132, Try.ntmps132
    go_wp2_with fail
    go_ret
    exact ⟨rfl, rfl⟩
  · rw [if_neg h]
    go_enter Try.func132, Try.ntmps132
    go_wp2_with fail
    go_ret
    exact ⟨rfl, rfl⟩
/-- What the model reckons for a trial digit. -/
theorem trial_facts {b d k : Nat} (hk : k ≤ 3) (h1 : 10 ^ k ≤ d) (h2 : d < 10 ^ (k + 1)) (hb : b ≤ 1000000) (hd : d ≤ 9999) (Z : Int) (hZ : (10 : Int) ^ k = Z) : ∃ P Q X : Int, IntKind.i64.wrap ((b : Int).tdiv Z) = P ∧ IntKind.i64.wrap ((d : Int).tdiv Z) = Q ∧ IntKind.i64.wrap (P.tdiv Q) = X ∧
    ((Z == 0) = false ∧ Z ≠ 0) ∧ ((Q == 0) = false ∧ Q ≠ 0) ∧ (if 9 < X then (9 : Int) else X) = (trN b d : Int) ∧ 0 ≤ P ∧ 1 ≤ Q ∧ 1 ≤ Z := by
  obtain ⟨z, hz⟩ : ∃ z : Nat, 10 ^ k = z := ⟨_, rfl⟩
  have hzZ : Z = (z : Int) := by rw [← hZ, ← hz]; simp
  have ht := trN_pow k b d h1 h2
  rw [hz] at ht h1
  have hz1 : 1 ≤ z := by rw [← hz]; exact Nat.pow_pos (by omega)
  subst hzZ
  have hP : b / z ≤ b := Nat.div_le_self _ _
  have hQ : d / z ≤ d := Nat.div_le_self _ _
  have hQ1 : 1 ≤ d / z := (Nat.le_div_iff_mul_le (by omega)).2 (by omega)
  have hX : b / z / (d / z) ≤ b / z := Nat.div_le_self _ _
  refine ⟨((b / z : Nat) : Int), ((d / z : Nat) : Int), ((b / z / (d / z) : Nat) : Int), ?_, ?_, ?_, ⟨beq_eq_false_iff_ne.2 (by omega), by omega⟩, ⟨beq_eq_false_iff_ne.2 (by omega), by omega⟩, ?_, by omega, by omega, by omega⟩
  · rw [Int.tdiv_eq_ediv_of_nonneg (by omega), ← Int.natCast_ediv, IntKind.wrap_i64]; omega
  · rw [Int.tdiv_eq_ediv_of_nonneg (by omega), ← Int.natCast_ediv, IntKind.wrap_i64]; omega
  · rw [Int.tdiv_eq_ediv_of_nonneg (by omega), ← Int.natCast_ediv, IntKind.wrap_i64]; omega
  · rw [ht]; split <;> omega
theorem tsL_take (d : Nat) (T : List Tr) (k : Nat) (h : k < T.length) : tsL d (T.take (k + 1)) = tsL d (T.take k) ++ [trI d T[k]] := by rw [takeS T k h, tsL_app]
theorem crL_take (d : Nat) (T : List Tr) (k : Nat) (h : k < T.length) : crL d (T.take (k + 1)) = crL d (T.take k) + (trI d T[k] - T[k].k) := by rw [takeS T k h, crL_snoc]
theorem crL_bd8 {d : Nat} (hd : 1 ≤ d) {T : List Tr} (h8 : T.length ≤ 8) (h : ∀ t ∈ T, stOk (d : Int) t) (k : Nat) : 0 ≤ crL d (T.take k) ∧ crL d (T.take k) ≤ 72 := by
  have := crL_bd hd (T.take k) (fun t ht => h t (List.mem_of_mem_take ht))
  rw [List.length_take] at this; omega
set_option maxRecDepth 100000 in
set_option maxHeartbeats 3200000 in
theorem l10Trials_any (m d : Nat) (w : World) (hm : m ≤ 99999999) (hd : 1 ≤ d ∧ d ≤ 9999) :
    Calls Try.prog 107 #[.int .i64 (m : Int), .int .i64 (d : Int)] w fun e w' => (∃ sq, e = .returned sq ∧ w'.ownsRow w.heap.size 3 1 sq (tsL d (stL (d : Int) 0 (dgL m))).length (flatC inC (tsL d (stL (d : Int) 0 (dgL m))))) ∧ Below w.heap.size w w' := by
  obtain ⟨i0, hi, hz0, hz1, hz2⟩ := info_parts Try.infoI9
  obtain ⟨e, he3, hp1, hp2⟩ := has_pow d hd
  have hdl := dgL_len_eq e d hp1 hp2
  obtain ⟨Z, hZ⟩ : ∃ Z : Int, (10 : Int) ^ e = Z := ⟨_, rfl⟩
  have HTF := Lib.hid (fun b (hb : b ≤ 1000000) => trial_facts (b := b) he3 hp1 hp2 hb hd.2 Z hZ)
  have HPW := Lib.hid (fun w => l2Power_any e w (by omega))
  rw [hZ] at HPW
  have HLN : Hid ((stL (d : Int) 0 (dgL m)).length ≤ 8) := Lib.hid (by rw [stL_len]; exact dgL_len 8 m (by omega))
  have HOK : Hid (∀ i (h : i < (stL (d : Int) 0 (dgL m)).length), stOk (d : Int) (stL (d : Int) 0 (dgL m))[i]) := Lib.hid (fun i h => stL_ok_at (by omega) _ 0 ⟨by omega, by omega⟩ (fun x hx => dgL_bd m x hx) i h)
  have HG := Lib.hid (fun w => l10Steps_any m d w hm hd)
  have HD := Lib.hid (fun w => l9Digits_any d w (by omega))
  rw [tsL_len]
  generalize stL (d : Int) 0 (dgL m) = T at HLN HOK HG ⊢
  generalize dgL d = F at hdl HD
  obtain ⟨D, hD⟩ : ∃ D : Int, (d : Int) = D := ⟨_, rfl⟩
  have hdd : 1 ≤ D ∧ D ≤ 9999 := by omega
  rw [hD] at HTF HOK HG HD ⊢
  clear hD
  clear hm hp1 hp2 hZ
  go_enter Try.func107, Try.ntmps107
  go_wp2_with fail
  refine (HG.out w).mono ?_
  rintro e w1 ⟨⟨sd, rfl, od⟩, hb1⟩
  obtain ⟨ad, cd, rfl⟩ := own_form od
  have hsz1 := hb1.size
  have HR := Lib.hid (fun (wr : World) (hk : KeepB w.heap.size w1.heap.size w1 wr) i (hi : i < T.length) => own_read trC_len od rfl hk i hi)
  have HZ : Hid (T.length ≤ 9223372036854775807) := Lib.hid (by have := HLN.out; omega)
  have HO0 : Hid (OutA w.heap.size w.heap.size w1.heap.size (w1.alloc (.cells #[] 3)) 3 1 w1.heap.size 0 0 []) := Lib.hid (outA_made w1 _ 1 hsz1 (Nat.le_refl _))
  have HB0 : Hid (Below w.heap.size w (w1.alloc (.cells #[] 3))) := Lib.hid (hb1.alloc hsz1 _)
  have HK0 : Hid (KeepB w.heap.size w1.heap.size w1 (w1.alloc (.cells #[] 3))) := Lib.hid (KeepB.of_below ((Below.refl _ _).alloc (Nat.le_refl _) _) (Nat.le_refl _))
  have HRB : Hid (∀ b, ad = some ⟨b, 0, none⟩ → 0 < T.length → w.heap.size ≤ b ∧ b < w1.heap.size) := Lib.hid (fun b hb _ => od.lt b (by rw [hb]; rfl))
  clear od hb1 hsz1
  go_wp2_with fail
  generalize w1.alloc (.cells #[] 3) = w2 at HO0 HB0 HK0 ⊢
  refine (HD.out w2).mono ?_
  rintro e w3 ⟨⟨sf, rfl, of⟩, hb3⟩
  obtain ⟨af, cf, rfl⟩ := own_form of
  have HO1 := Lib.hid (HO0.out.next hb3)
  have HB1 : Hid (Below w.heap.size w w3) := Lib.hid (HB0.out.trans (hb3.mono HB0.out.size))
  have HK1 : Hid (KeepB w.heap.size w1.heap.size w1 w3) := Lib.hid (HK0.out.trans (KeepB.of_below hb3 HO0.out.top))
  clear of hb3 HO0 HB0 HK0
  rw [hdl]
  go_wp2_with fail
  refine (HPW.out w3).mono ?_
  rintro e w4 ⟨rfl, rfl⟩
  go_wp2_with fail
  go_loopw [6, 8] (fun ov iv wr => ∃ (k g c : Nat), k ≤ T.length ∧ iv = .int .i64 (k : Int) ∧ ov = .slice (some ⟨g, 0, none⟩) k c ∧ OutA w.heap.size w.heap.size w1.heap.size wr 3 1 g k c (flatC inC (tsL d (T.take k))) ∧ Below w.heap.size w wr ∧ KeepB w.heap.size w1.heap.size w1 wr) (fun _ iv _ => 20 - (intOf iv).toNat)
  case atStart => exact ⟨0, w1.heap.size, 0, Nat.zero_le _, rfl, rfl, HO1.out, HB1.out, HK1.out⟩
  case round =>
    obtain ⟨k, g, c, hk, rfl, rfl, hO, hb, hK⟩ := hrel
    have HO := Lib.hid hO
    have HB := Lib.hid hb
    have HK := Lib.hid hK
    have hk8 : k ≤ 8 := by have := HLN.out; omega
    by_cases hlt : k < T.length
    · obtain ⟨b, rfl, hc⟩ := HR.out wr hK k hlt
      have c0 : wr.cell? ⟨b, k * 3, none⟩ = some (.int .i64 T[k].i) := hc 0 (by omega)
      have hbr : w.heap.size ≤ b ∧ b < w1.heap.size := HRB.out b rfl (by omega)
      have hok := HOK.out k hlt
      obtain ⟨B, hBe⟩ : ∃ B : Nat, T[k].i = (B : Int) := ⟨T[k].i.toNat, by have := hok.1; omega⟩
      have hB6 : B ≤ 1000000 := by have := hok.1; omega
      obtain ⟨P, Q, X, p1, p2, p3, ⟨p4, p5⟩, ⟨p6, p7⟩, p8, p9, p10, p11⟩ := HTF.out B hB6
      have hst := tsL_take d T k hlt
      rw [show trI d T[k] = (if 9 < X then (9 : Int) else X) by rw [p8]; unfold trI; rw [hBe, Int.toNat_natCast]] at hst
      have HST := Lib.hid hst
      have HBR := Lib.hid hbr
      rw [hBe] at c0
      obtain ⟨BB, hBB⟩ : ∃ BB : Int, (B : Int) = BB := ⟨_, rfl⟩
      rw [hBB] at p1 c0
      have z1 : (0 : Int) ≤ (k : Int) := by omega
      have z2 : (k : Int) < (T.length : Int) := by omega
      have q1 : 0 ≤ BB := by omega
      have HXB : Hid (∀ w', Below wr.heap.size wr w' → w'.cell? ⟨b, k * 3, none⟩ = some (.int .i64 BB)) := Lib.hid (fun w' h => (h.cell (p := ⟨b, k * 3, none⟩) (cell_lt c0)).trans c0)
      clear hst hc hO hb hK hok hBe hBB p8 hbr
      go_wp2_with fail
      have HS0 := Lib.hid c0
      clear c0
      refine wp_region_held_drew (S := fun w' => w'.cell? ⟨b, k * 3, none⟩ = some (.int .i64 BB)) (by kernel_rfl) HS0.out (fun hHeld => ?_)
      have HBd : Hid (Below w.heap.size w wr.drew) := Lib.hid HB.out.drew
      have HOd : Hid (OutA w.heap.size w.heap.size w1.heap.size wr.drew 3 1 g k c (flatC inC (tsL d (T.take k)))) := Lib.hid (HO.out.next (Below.refl _ _).drew)
      have HKd : Hid (KeepB w.heap.size w1.heap.size w1 wr.drew) := Lib.hid HK.out
      have HXd : Hid (∀ w', Below wr.drew.heap.size wr.drew w' → w'.cell? ⟨b, k * 3, none⟩ = some (.int .i64 BB)) := Lib.hid (fun w' h => HXB.out w' ((Below.refl _ wr).drew.trans h))
      clear HS0 HXB
      generalize wr.drew = wk at HBd HOd HKd HXd hHeld ⊢
      refine take1 (i := 0) (v := ?v1) (some 24) rfl rfl (by kernel_rfl) (by kernel_rfl) (by kernel_rfl) (fun _ _ _ h => h) (Or.inl ⟨by rfl, ?y1⟩) (by assumption) ?r1
      case y1 => (intro w hSw; (try dsimp only at hSw); go_simp; (first | done | with_reducible rfl))
      try simp only [Act.put, List.setIfInBounds_toArray, List.set_cons_zero, List.set_cons_succ]
      refine take1 (i := 1) (v := ?v2) (some 25) rfl rfl (by kernel_rfl) (by kernel_rfl) (by kernel_rfl) (fun _ _ _ h => h) (Or.inl ⟨by rfl, ?y2⟩) (by assumption) ?r2
      case y2 => (intro w hSw; (try dsimp only at hSw); go_simp; (first | done | with_reducible rfl))
      try simp only [Act.put, List.setIfInBounds_toArray, List.set_cons_zero, List.set_cons_succ]
      refine take1 (i := 2) (v := ?v3) (some 26) rfl rfl (by kernel_rfl) (by kernel_rfl) (by kernel_rfl) (fun _ _ _ h => h) (Or.inl ⟨by rfl, ?y3⟩) (by assumption) ?r3
      case y3 => (intro w hSw; (try dsimp only at hSw); go_simp; (first | done | with_reducible rfl))
      try simp only [Act.put, List.setIfInBounds_toArray, List.set_cons_zero, List.set_cons_succ]
      refine take1 (i := 3) (v := ?v4) (some 27) rfl rfl (by kernel_rfl) (by kernel_rfl) (by kernel_rfl) (fun _ _ _ h => h) (Or.inl ⟨by rfl, ?y4⟩) (by assumption) ?r4
      case y4 => (intro w hSw; (try dsimp only at hSw); go_simp; (first | done | with_reducible rfl))
      try simp only [Act.put, List.setIfInBounds_toArray, List.set_cons_zero, List.set_cons_succ]
      refine take1 (i := 4) (v := ?v5) (some 28) rfl rfl (by kernel_rfl) (by kernel_rfl) (by kernel_rfl) (fun _ _ _ h => h) (Or.inl ⟨by rfl, ?y5⟩) (by assumption) ?r5
      case y5 => (intro w hSw; (try dsimp only at hSw); go_simp; (first | done | with_reducible rfl))
      try simp only [Act.put, List.setIfInBounds_toArray, List.set_cons_zero, List.set_cons_succ]
      refine take1 (i := 5) (v := ?v6) (some 29) rfl rfl (by kernel_rfl) (by kernel_rfl) (by kernel_rfl) (fun _ _ _ h => h) (Or.inl ⟨by rfl, ?y6⟩) (by assumption) ?r6
      case y6 => (intro w hSw; (try dsimp only at hSw); go_simp; (first | done | with_reducible rfl))
      try simp only [Act.put, List.setIfInBounds_toArray, List.set_cons_zero, List.set_cons_succ]
      refine take1 (i := 6) (v := ?v7) (some 30) rfl rfl (by kernel_rfl) (by kernel_rfl) (by kernel_rfl) (fun _ _ _ h => h) (Or.inl ⟨by rfl, ?y7⟩) (by assumption) ?r7
      case y7 => (intro w hSw; (try dsimp only at hSw); go_simp; (first | done | with_reducible rfl))
      try simp only [Act.put, List.setIfInBounds_toArray, List.set_cons_zero, List.set_cons_succ]
      refine take1 (i := 7) (v := ?v8) (some 31) rfl rfl (by kernel_rfl) (by kernel_rfl) (by kernel_rfl) (fun _ _ _ h => h) (Or.inl ⟨by rfl, ?y8⟩) (by assumption) ?r8
      case y8 => (intro w hSw; (try dsimp only at hSw); go_simp; (first | done | with_reducible rfl))
      try simp only [Act.put, List.setIfInBounds_toArray, List.set_cons_zero, List.set_cons_succ]
      refine take1 (i := 8) (v := ?v9) (some 32) rfl rfl (by kernel_rfl) (by kernel_rfl) (by kernel_rfl) (fun _ _ _ h => h) (Or.inl ⟨by rfl, ?y9⟩) (by assumption) ?r9
      case y9 => (intro w hSw; (try dsimp only at hSw); go_simp; (first | done | with_reducible rfl))
      try simp only [Act.put, List.setIfInBounds_toArray, List.set_cons_zero, List.set_cons_succ]
      refine take1 (i := 9) (v := ?v10) (some 33) rfl rfl (by kernel_rfl) (by kernel_rfl) (by kernel_rfl) (fun _ _ _ h => h) (Or.inl ⟨by rfl, ?y10⟩) (by assumption) ?r10
      case y10 => (intro w hSw; (try dsimp only at hSw); go_simp; (first | done | with_reducible rfl))
      try simp only [Act.put, List.setIfInBounds_toArray, List.set_cons_zero, List.set_cons_succ]
      refine take1 (i := 10) (v := ?v11) (some 34) rfl rfl (by kernel_rfl) (by kernel_rfl) (by kernel_rfl) (fun _ _ _ h => h) (Or.inl ⟨by rfl, ?y11⟩) (by assumption) ?r11
      case y11 => (intro w hSw; (try dsimp only at hSw); go_simp; (first | done | with_reducible rfl))
      try simp only [Act.put, List.setIfInBounds_toArray, List.set_cons_zero, List.set_cons_succ]
      refine take1 (i := 11) (v := ?v12) (some 35) rfl rfl (by kernel_rfl) (by kernel_rfl) (by kernel_rfl) (fun _ _ _ h => h) (Or.inl ⟨by rfl, ?y12⟩) (by assumption) ?r12
      case y12 => (intro w hSw; (try dsimp only at hSw); go_simp; (first | done | with_reducible rfl))
      try simp only [Act.put, List.setIfInBounds_toArray, List.set_cons_zero, List.set_cons_succ]
      refine wpAnyH_ready (rs := [12]) (by kernel_rfl) (by simp) ?_
      refine AllReadyH.cons rfl (fun K hK => ?_) AllReadyH.nil
      go_simp
      go_at_call 132
      refine (l1LeastD_any 9 X wk).mono ?_
      rintro e w9 ⟨rfl, rfl⟩
      refine hK.out _ _ (HXd.out _ (Below.refl _ _)) (fun hHeld => ?_)
      clear hK K
      try simp only [Act.put, List.setIfInBounds_toArray, List.set_cons_zero, List.set_cons_succ]
      generalize (if 9 < X then (9 : Int) else X) = V at HST ⊢
      refine wpAnyH_ready (rs := [13]) (by kernel_rfl) (by simp) ?_
      refine AllReadyH.cons rfl (fun K hK => ?_) AllReadyH.nil
      go_simp
      refine hK.out _ _ (HXd.out _ ((Below.refl _ _).alloc (Nat.le_refl _) _)) (fun hHeld => ?_)
      clear hK K
      try simp only [Act.put]
      refine wpAnyH_ready (rs := [14]) (by kernel_rfl) (by simp) ?_
      refine AllReadyH.cons rfl (fun K hK => ?_) AllReadyH.nil
      refine step_push (wr := w9) (by rfl) _ _ _ (by rfl) w.heap.size w.heap.size w1.heap.size w 3 i0 (.int .i64 0) 1 8 Try.underlying26 hi hz0 hz1 hz2 rfl (by decide) g k c (flatC inC (tsL d (T.take k))) [.int .i64 V] (by rfl) (by rfl) rfl ?c1 ?c2 (by decide) HOd.out HBd.out ?_
      case c1 => intro u hu; simp only [List.mem_cons, List.not_mem_nil, or_false] at hu; subst hu; rfl
      case c2 => omega
      intro g3 c3 w5 hO3 hB3 hK3
      have HO3 : Hid (OutA w.heap.size w.heap.size w1.heap.size w5 3 1 g3 (k + 1) c3 (flatC inC (tsL d (T.take (k + 1))))) := Lib.hid (by rw [HST.out, flatC_app]; exact hO3)
      have HB3 := Lib.hid hB3
      have HK3 := Lib.hid (HKd.out.trans hK3)
      have hc5 : w5.cell? ⟨b, k * 3, none⟩ = some (.int .i64 BB) := (hK3.cell (q := b) (i := k * 3) HBR.out.1 HBR.out.2).trans (HXd.out _ (Below.refl _ _))
      clear hO3 hB3 hK3
      refine hK.out _ _ (hc5) (fun hHeld => ?_)
      clear hK K
      try simp only [Act.put, List.setIfInBounds_toArray]
      refine take1 (i := 15) (v := ?v13) (some 6) rfl rfl (by kernel_rfl) (by kernel_rfl) (by kernel_rfl) (fun _ _ _ h => h) (Or.inl ⟨by rfl, ?y13⟩) (by assumption) ?r13
      case y13 => (intro w hSw; (try dsimp only at hSw); go_simp; (first | done | with_reducible rfl))
      try simp only [Act.put]
      refine wpAnyH_done (by kernel_rfl) ?_ _
      clear hc5
      go_wp2_with fail
      go_roundw
      case rel => exact ⟨k + 1, g3, c3, by omega, by go_num, rfl, HO3.out, HB3.out, HK3.out⟩
      case measure => simp [intOf]; omega
    · obtain rfl : k = T.length := by omega
      have HE : Hid (wr.ownsRow w.heap.size 3 1 (.slice (some ⟨g, 0, none⟩) T.length c) T.length (flatC inC (tsL d T))) := Lib.hid (by have h1 := hO.own; rw [List.take_length] at h1; exact h1)
      clear hO hb hK
      go_wp2_with fail
      go_ret
      exact ⟨⟨_, rfl, HE.out⟩, HB.out⟩
end Go.Proofs.Ythmbehknacjodaa
