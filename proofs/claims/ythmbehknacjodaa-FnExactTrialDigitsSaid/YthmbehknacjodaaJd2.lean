/- The program's trial digits, corrections, decimals. -/
import Derived.Test.YthmbehknacjodaaJd1
import Derived.Test.YthmbehknacjodaaNd4
namespace Go.Proofs.Ythmbehknacjodaa
set_option linter.unusedVariables false
open Go.RowKit

theorem KeepB.setCell {lo hi : Nat} {a w : World} (h : KeepB lo hi a w) {p : Addr} (hp : hi ≤ p.block) (u : Value) : KeepB lo hi a (w.setCell p u) := fun q h1 h2 =>
  (Below.heap_setCell w p u q (by omega)).trans (h q h1 h2)
/-- A row of numbers, as it is filled from other ones. -/
theorem fill_map (T : List Tr) (tr : Tr → Int) : ∃ F : Nat → List Int, F 0 = List.replicate T.length 0 ∧ F T.length = T.map tr ∧ (∀ k, k ≤ T.length → (F k).length = T.length) ∧ ∀ k (h : k < T.length), (F k).set k (tr T[k]) = F (k + 1) := by
  have hl : (T.map tr).length = T.length := List.length_map _
  refine ⟨flS (0 : Int) (T.map tr), by rw [flS_zero, hl], by rw [← hl, flS_end], fun k hk => by rw [flS_len _ _ _ (by omega), hl], fun k h => ?_⟩
  have := flS_set (0 : Int) (T.map tr) k (by omega)
  rw [List.getElem_map] at this; exact this
theorem trialOf_step (d : Nat) (b : Int) (T : List Tr) (hd : 1 ≤ d ∧ d ≤ 9999) (hok : ∀ t ∈ T, stOk (d : Int) t) (hb : T ≠ [] → b = (d : Int)) (k : Nat) (h : k < T.length) (w : World) :
    Calls Try.prog 106 #[.int .i64 T[k].i, .int .i64 b] w fun e w' => e = .returned (.int .i64 (trI d T[k])) ∧ w' = w := by
  have h1 := (hok _ (List.getElem_mem h)).1
  have h2 := hb (fun e => by rw [e] at h; simp at h)
  have h3 := trialOf_any T[k].i.toNat d w (by omega) hd
  rw [Int.toNat_of_nonneg h1.1] at h3
  rw [h2]; exact h3
set_option maxRecDepth 100000 in
set_option maxHeartbeats 3200000 in
theorem impTrial_core (a b : Int) (d : Nat) (T : List Tr) (t : Bool) (w : World) (hd : 1 ≤ d ∧ d ≤ 9999) (h8 : T.length ≤ 8) (hok : ∀ t ∈ T, stOk (d : Int) t) (hb : T ≠ [] → b = (d : Int))
    (hS : ∀ w, Calls Try.prog 48 #[.int .i64 a, .int .i64 b] w fun e w' => (∃ sq, e = .returned (.tuple #[sq, .bool t]) ∧ w'.ownsRow w.heap.size 57 3 sq T.length (flatC trC T)) ∧ Below w.heap.size w w') :
    Calls Try.prog 52 #[.int .i64 a, .int .i64 b] w fun e w' => (∃ sq, e = .returned (.tuple #[sq, .bool t]) ∧ w'.ownsRow w.heap.size 3 1 sq (tsL d T).length (flatC inC (tsL d T))) ∧ Below w.heap.size w w' := by
  obtain ⟨i0, hi, hz0, hz1, hz2⟩ := info_parts Try.infoI9
  have HTR := Lib.hid (fun k h w => trialOf_step d b T hd hok hb k h w)
  obtain ⟨F, HF0, HFE, HFL, HFS⟩ := fill_map T (trI d)
  rw [tsL_len, show tsL d T = T.map (trI d) from rfl, ← HFE]
  have HF0 := Lib.hid HF0
  have HFL := Lib.hid HFL
  have HFS := Lib.hid HFS
  have HS := Lib.hid hS
  clear hok hb HFE hS
  go_enter Try.func52, Try.ntmps52
  go_wp2_with fail
  refine (HS.out w).mono ?_
  rintro e w1 ⟨⟨sd, rfl, od⟩, hb1⟩
  obtain ⟨ad, cd, rfl⟩ := own_form od
  have HSZ1 := Lib.hid hb1.size
  have HB1 := Lib.hid hb1
  have HR := Lib.hid (fun (wr : World) (hk : KeepB w.heap.size w1.heap.size w1 wr) i (hi : i < T.length) => own_read trC_len od rfl hk i hi)
  clear od hb1
  go_wp2_with (at_make; refine wpList_make_full _ rfl _ _ 26 rfl w1.heap.size 3 i0 (.int .i64 0) 1 Try.underlying26 hi hz0 hz1 _ _ _ _ T.length rfl rfl rfl rfl ?b2 ?b3 (Nat.le_refl _) ?_)
  case b2 => rw [hz2]; omega
  case b3 => unfold maxLen; omega
  intro w2 hown hgrow
  have hm := made_int T.length
  rw [Nat.mul_one] at hm
  rw [hm, ← HF0.out] at hown
  have hb2 : Below w1.heap.size w1 w2 := (Below.refl _ _).grown hgrow (Nat.le_refl _) (fun k h => by cases h)
  have HO0 := Lib.hid hown
  have HB0 : Hid (Below w.heap.size w w2) := Lib.hid (HB1.out.trans (hb2.mono HSZ1.out))
  have HK0 : Hid (KeepB w.heap.size w1.heap.size w1 w2) := Lib.hid (KeepB.of_below hb2 (Nat.le_refl _))
  have HZ : Hid (T.length ≤ 9223372036854775807) := Lib.hid (by omega)
  clear hown hgrow hm hb2
  obtain ⟨G, hG⟩ : ∃ G, w1.heap.size = G := ⟨_, rfl⟩
  rw [hG] at HO0 HSZ1 HK0 HR ⊢
  clear hG HB1
  go_wp2_with fail
  go_loopw [22] (fun iv wr => ∃ (k : Nat), k ≤ T.length ∧ iv = .int .i64 (k : Int) ∧ wr.ownsRow G 3 1 (.slice (some ⟨G, 0, none⟩) T.length T.length) T.length (flatC inC (F k)) ∧ Below w.heap.size w wr ∧ KeepB w.heap.size G w1 wr) (fun iv _ => 20 - (intOf iv).toNat)
  case atStart => exact ⟨0, Nat.zero_le _, rfl, HO0.out, HB0.out, HK0.out⟩
  case round =>
    obtain ⟨k, hk, rfl, hO, hb, hK⟩ := hrel
    have HO := Lib.hid hO
    have HB := Lib.hid hb
    have HK := Lib.hid hK
    by_cases hlt : k < T.length
    · obtain ⟨b0, rfl, hc⟩ := HR.out wr hK k hlt
      have c0 : wr.cell? ⟨b0, k * 3, none⟩ = some (.int .i64 T[k].i) := hc 0 (by omega)
      have c1 : wr.cell? ⟨b0, k * 3 + 1, none⟩ = some (.int .i64 T[k].k) := hc 1 (by omega)
      have c2 : wr.cell? ⟨b0, k * 3 + 2, none⟩ = some (.int .i64 T[k].v) := hc 2 (by omega)
      have hfs := HFS.out k hlt
      have HC := Lib.hid (HTR.out k hlt)
      obtain ⟨t3, ht3⟩ : ∃ t3, T[k] = t3 := ⟨_, rfl⟩
      rw [ht3] at c0 c1 c2 hfs HC
      have HFN := Lib.hid hfs
      have z1 : (0 : Int) ≤ (k : Int) := by omega
      have z2 : (k : Int) < (T.length : Int) := by omega
      clear hc hO hb hK ht3 hfs
      go_wp2_with fail
      have HO4 := Lib.hid (HO.out.alloc (.cells #[.int .i64 t3.i, .int .i64 t3.k, .int .i64 t3.v] 57))
      have HB4 := Lib.hid (HB.out.alloc HB.out.size (.cells #[.int .i64 t3.i, .int .i64 t3.k, .int .i64 t3.v] 57))
      have HGL : Hid (G < wr.heap.size) := Lib.hid (HO.out.lt _ rfl).2
      have HK4 : Hid (KeepB w.heap.size G w1 (wr.alloc (.cells #[.int .i64 t3.i, .int .i64 t3.k, .int .i64 t3.v] 57))) := Lib.hid (HK.out.trans (KeepB.of_below ((Below.refl _ _).alloc (Nat.le_refl _) _) (Nat.le_of_lt HGL.out)))
      refine (HC.out _).mono ?_
      rintro e w5 ⟨rfl, hw5⟩
      rw [← hw5] at HO4 HB4 HK4
      clear hw5
      obtain ⟨u0, d0⟩ : ∃ u, w5.cell? ⟨G, k, none⟩ = some u := by
        have h5 := HO4.out.cellAt (k * 1 + 0) (by omega)
        rw [Nat.mul_one, Nat.add_zero] at h5
        exact ⟨_, h5.trans (List.getElem?_eq_getElem (by rw [flatC_len inC_len, HFL.out k hk]; omega))⟩
      have f0 := HO4.out.frozenAt k
      clear c0 c1 c2
      go_wp2_with fail
      refine ⟨⟨k + 1, by omega, by go_num, ?_, HB4.out.setCell HSZ1.out _, HK4.out.setCell (Nat.le_refl _) _⟩, by simp [intOf]; omega⟩
      have h6 := (HO4.out.stored k (.int .i64 (trI d t3))).1
      rw [set1C (F k) k (by rw [HFL.out k hk]; exact hlt), HFN.out] at h6
      exact h6
    · obtain rfl : k = T.length := by omega
      have HE := Lib.hid (own_mono hO HSZ1.out)
      clear hO hb hK
      go_wp2_with fail
      go_ret2
      exact ⟨⟨_, rfl, HE.out⟩, HB.out⟩
theorem impTrialDigits_yes (m d : Nat) (w : World) (hm : m ≤ 99999999) (hd : 1 ≤ d ∧ d ≤ 9999) :
    Calls Try.prog 52 #[.int .i64 (m : Int), .int .i64 (d : Int)] w fun e w' => (∃ sq, e = .returned (.tuple #[sq, .bool true]) ∧ w'.ownsRow w.heap.size 3 1 sq (tsL d (stL (d : Int) 0 (dgL m))).length (flatC inC (tsL d (stL (d : Int) 0 (dgL m))))) ∧ Below w.heap.size w w' :=
  impTrial_core _ _ d _ true w hd (by rw [stL_len]; exact dgL_len 8 m (by omega)) (stL_ok (by omega) _ 0 ⟨by omega, by omega⟩ (fun x hx => dgL_bd m x hx)) (fun _ => rfl) (fun w => impDivisionSteps_yes m d w hm hd)
theorem impTrialDigits_no (a b : Int) (w : World) (h : ¬ okD a b) :
    Calls Try.prog 52 #[.int .i64 a, .int .i64 b] w fun e w' => (∃ sq, e = .returned (.tuple #[sq, .bool false]) ∧ w'.ownsRow w.heap.size 3 1 sq ([] : List Int).length (flatC inC ([] : List Int))) ∧ Below w.heap.size w w' :=
  impTrial_core a b 1 [] false w (by omega) (by simp) (fun t h => by cases h) (fun h => absurd rfl h) (fun w => impDivisionSteps_no a b w h)
set_option maxRecDepth 100000 in
set_option maxHeartbeats 3200000 in
theorem impCorr_core (a b : Int) (d : Nat) (T : List Tr) (t : Bool) (w : World) (hd : 1 ≤ d ∧ d ≤ 9999) (h8 : T.length ≤ 8) (hok : ∀ t ∈ T, stOk (d : Int) t) (hb : T ≠ [] → b = (d : Int))
    (hS : ∀ w, Calls Try.prog 48 #[.int .i64 a, .int .i64 b] w fun e w' => (∃ sq, e = .returned (.tuple #[sq, .bool t]) ∧ w'.ownsRow w.heap.size 57 3 sq T.length (flatC trC T)) ∧ Below w.heap.size w w') :
    Calls Try.prog 54 #[.int .i64 a, .int .i64 b] w fun e w' => e = .returned (.tuple #[.int .i64 (crL d T), .bool t]) ∧ Below w.heap.size w w' := by
  have HTR := Lib.hid (fun k h w => trialOf_step d b T hd hok hb k h w)
  have HCB := Lib.hid (fun k => crL_bd8 hd.1 h8 hok k)
  have HOK : Hid (∀ i (h : i < T.length), stOk (d : Int) T[i]) := Lib.hid (fun i h => hok _ (List.getElem_mem h))
  have HCT := Lib.hid (fun k h => crL_take d T k h)
  have HC0 : Hid (crL d (T.take 0) = 0) := Lib.hid rfl
  have HTB := Lib.hid (fun t => trI_bd d t)
  have HS := Lib.hid hS
  have HCE : Hid (crL d (T.take T.length) = crL d T) := Lib.hid (by rw [List.take_length])
  rw [← HCE.out]
  clear hok hb hS HCE
  go_enter Try.func54, Try.ntmps54
  go_wp2_with fail
  refine (HS.out w).mono ?_
  rintro e w1 ⟨⟨sd, rfl, od⟩, hb1⟩
  obtain ⟨ad, cd, rfl⟩ := own_form od
  have HSZ1 := Lib.hid hb1.size
  have HB1 := Lib.hid hb1
  have HR := Lib.hid (fun (wr : World) (hk : KeepB w.heap.size w1.heap.size w1 wr) i (hi : i < T.length) => own_read trC_len od rfl hk i hi)
  have HZ : Hid (T.length ≤ 9223372036854775807) := Lib.hid (by omega)
  clear od hb1
  obtain ⟨G, hG⟩ : ∃ G, w1.heap.size = G := ⟨_, rfl⟩
  have HGE := Lib.hid hG
  rw [hG] at HSZ1 HR
  clear hG
  go_wp2_with fail
  go_loopw [8, 19] (fun sv iv wr => ∃ (k : Nat) (s : Int), k ≤ T.length ∧ iv = .int .i64 (k : Int) ∧ sv = .int .i64 s ∧ Hid (s = crL d (T.take k)) ∧ Below w.heap.size w wr ∧ KeepB w.heap.size G w1 wr ∧ Hid (G ≤ wr.heap.size)) (fun _ iv _ => 20 - (intOf iv).toNat)
  case atStart => exact ⟨0, 0, Nat.zero_le _, rfl, rfl, Lib.hid HC0.out.symm, HB1.out, KeepB.refl _ _ _, Lib.hid (Nat.le_of_eq HGE.out.symm)⟩
  case round =>
    obtain ⟨k, s, hk, rfl, rfl, HSS, hb, hK, HGL⟩ := hrel
    have HB := Lib.hid hb
    have HK := Lib.hid hK
    have hsb := HCB.out k
    rw [← HSS.out] at hsb
    by_cases hlt : k < T.length
    · obtain ⟨b0, rfl, hc⟩ := HR.out wr hK k hlt
      have c0 : wr.cell? ⟨b0, k * 3, none⟩ = some (.int .i64 T[k].i) := hc 0 (by omega)
      have c1 : wr.cell? ⟨b0, k * 3 + 1, none⟩ = some (.int .i64 T[k].k) := hc 1 (by omega)
      have c2 : wr.cell? ⟨b0, k * 3 + 2, none⟩ = some (.int .i64 T[k].v) := hc 2 (by omega)
      have HC := Lib.hid (HTR.out k hlt)
      have hok := (HOK.out k hlt).2.1
      have htb := HTB.out T[k]
      have hcn := HCB.out (k + 1)
      have hct := HCT.out k hlt
      rw [← HSS.out] at hct
      obtain ⟨x, hx⟩ : ∃ x, T[k].i = x := ⟨_, rfl⟩
      obtain ⟨q, hq⟩ : ∃ q, T[k].k = q := ⟨_, rfl⟩
      obtain ⟨v, hv⟩ : ∃ v, T[k].v = v := ⟨_, rfl⟩
      obtain ⟨t, ht⟩ : ∃ t, trI d T[k] = t := ⟨_, rfl⟩
      rw [hx, ht] at HC
      rw [hx] at c0
      rw [hq] at c1 hok hct
      rw [hv] at c2
      rw [ht] at htb hct
      have z1 : (0 : Int) ≤ (k : Int) := by omega
      have z2 : (k : Int) < (T.length : Int) := by omega
      have hw1 : IntKind.i64.wrap (t - q) = t - q := by rw [IntKind.wrap_i64]; omega
      have hw2 : IntKind.i64.wrap (s + (t - q)) = s + (t - q) := by rw [IntKind.wrap_i64]; omega
      have HCT2 : Hid (s + (t - q) = crL d (T.take (k + 1))) := Lib.hid hct.symm
      clear hc hb hK hct hcn hx hq hv ht
      go_wp2_with fail
      have HB4 := Lib.hid (HB.out.alloc HB.out.size (.cells #[.int .i64 x, .int .i64 q, .int .i64 v] 57))
      have HK4 : Hid (KeepB w.heap.size G w1 (wr.alloc (.cells #[.int .i64 x, .int .i64 q, .int .i64 v] 57))) := Lib.hid (HK.out.trans (KeepB.of_below ((Below.refl _ _).alloc (Nat.le_refl _) _) HGL.out))
      have HL4 : Hid (G ≤ (wr.alloc (.cells #[.int .i64 x, .int .i64 q, .int .i64 v] 57)).heap.size) := Lib.hid (by have := HGL.out; simp; omega)
      clear c0 c1 c2
      have k0 : (wr.alloc (.cells #[.int .i64 x, .int .i64 q, .int .i64 v] 57)).heap[wr.heap.size]? = some (.cells #[.int .i64 x, .int .i64 q, .int .i64 v] 57 (0, 0)) := alloc_at rfl
      generalize wr.alloc (.cells #[.int .i64 x, .int .i64 q, .int .i64 v] 57) = w4 at HB4 HK4 HL4 k0 ⊢
      obtain ⟨c0, c1, c2, _, _, _⟩ := cell3 k0
      generalize wr.heap.size = bb at k0 c0 c1 c2 ⊢
      clear k0
      go_quiet ((go_at_call 106; exact Calls.quiet_of_same (HC.out _)))
      rename Nat => nq
      have HB5 : Hid (Below w.heap.size w (w4.drewN nq)) := Lib.hid (bl_drewN HB4.out nq)
      have HK5 : Hid (KeepB w.heap.size G w1 (w4.drewN nq)) := Lib.hid HK4.out
      have HL5 : Hid (G ≤ (w4.drewN nq).heap.size) := Lib.hid HL4.out
      clear c0 c1 c2
      generalize w4.drewN nq = w5 at HB5 HK5 HL5 ⊢
      go_wp2_with fail
      go_roundw
      case rel => exact ⟨k + 1, s + (t - q), by omega, by go_num, by first | rfl | rw [hw2] | (rw [hw1, hw2]), HCT2, HB5.out, HK5.out, HL5⟩
      case measure => simp [intOf]; omega
    · obtain rfl : k = T.length := by omega
      have HS2 := Lib.hid HSS.out.symm
      clear hb hK HSS
      go_wp2_with fail
      go_ret2
      exact ⟨by rw [HS2.out]; rfl, HB.out⟩
theorem impCorrections_yes (m d : Nat) (w : World) (hm : m ≤ 99999999) (hd : 1 ≤ d ∧ d ≤ 9999) :
    Calls Try.prog 54 #[.int .i64 (m : Int), .int .i64 (d : Int)] w fun e w' => e = .returned (.tuple #[.int .i64 (crL d (stL (d : Int) 0 (dgL m))), .bool true]) ∧ Below w.heap.size w w' :=
  impCorr_core _ _ d _ true w hd (by rw [stL_len]; exact dgL_len 8 m (by omega)) (stL_ok (by omega) _ 0 ⟨by omega, by omega⟩ (fun x hx => dgL_bd m x hx)) (fun _ => rfl) (fun w => impDivisionSteps_yes m d w hm hd)
theorem impCorrections_no (a b : Int) (w : World) (h : ¬ okD a b) :
    Calls Try.prog 54 #[.int .i64 a, .int .i64 b] w fun e w' => e = .returned (.tuple #[.int .i64 0, .bool false]) ∧ Below w.heap.size w w' :=
  impCorr_core a b 1 [] false w (by omega) (by simp) (fun t h => by cases h) (fun h => absurd rfl h) (fun w => impDivisionSteps_no a b w h)
end Go.Proofs.Ythmbehknacjodaa
