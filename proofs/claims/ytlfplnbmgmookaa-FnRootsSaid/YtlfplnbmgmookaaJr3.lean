/- The program's root steps, roots, pairs. -/
import Derived.Test.YtlfplnbmgmookaaJr2
import Derived.Test.YtlfplnbmgmookaaJd1
namespace Go.Proofs.Ytlfplnbmgmookaa
set_option linter.unusedVariables false
open Go.RowKit

/-- A root step at a place. -/
theorem root_at {L : List Int} (h8 : L.length ≤ 8) (hx : ∀ x ∈ L, 0 ≤ x ∧ x ≤ 99) (k : Nat) (h : k < L.length) {T R : Int} (hp : rtP (L.take k) = (T, R)) : ∃ (H N A E V T2 : Int) (G : Nat), IntKind.i64.wrap (100 * R) = H ∧ IntKind.i64.wrap (H + L[k]) = N ∧ IntKind.i64.wrap (20 * T) = A ∧ IntKind.i64.wrap (10 * T) = E ∧ IntKind.i64.wrap (E + (G : Int)) = T2 ∧ G ≤ 9 ∧
    (∀ d : Nat, d ≤ 15 → ∃ B C, IntKind.i64.wrap (A + (d : Int)) = B ∧ IntKind.i64.wrap (B * (d : Int)) = C ∧ (C ≤ N ↔ d ≤ G) ∧ (d = G → IntKind.i64.wrap (N - C) = V)) ∧ mkR (rtP (L.take k)) L[k] = ⟨N, (G : Int), V⟩ ∧ rtP (L.take (k + 1)) = (T2, V) := by
  have hok := okR_at h8 hx k (by omega)
  rw [rtP_take L k h]
  rw [hp] at hok ⊢
  exact root_facts hok.1 hok.2 (hx _ (List.getElem_mem h))
/-- The row of root steps, as it is filled. -/
theorem fill_root (L : List Int) : ∃ F : Nat → List Tr, F 0 = List.replicate L.length (⟨0, 0, 0⟩ : Tr) ∧ F L.length = rtS L ∧ (∀ k, k ≤ L.length → (F k).length = L.length) ∧ ∀ k (h : k < L.length), (F k).set k (mkR (rtP (L.take k)) L[k]) = F (k + 1) := by
  have hl := rtS_len L
  refine ⟨flS (⟨0, 0, 0⟩ : Tr) (rtS L), by rw [flS_zero, hl], by rw [← hl, flS_end], fun k hk => by rw [flS_len _ _ _ (by omega), hl], fun k h => ?_⟩
  have := flS_set (⟨0, 0, 0⟩ : Tr) (rtS L) k (by omega)
  rw [rtS_at L k h] at this; exact this
theorem pg_len {n : Nat} (h : n < 10000000000000000) : (dgB 100 n).length ≤ 8 := dgB_len (by omega) 8 n (by omega)
theorem pg_bd (n : Nat) : ∀ x ∈ dgB 100 n, 0 ≤ x ∧ x ≤ 99 := fun x h => by have := dgB_bd (b := 100) (by omega) n x h; omega
set_option maxRecDepth 100000 in
set_option maxHeartbeats 3200000 in
theorem rootStepsOf_any (n : Nat) (w : World) (hn : n < 10000000000000000) :
    Calls Try.prog 57 #[.int .i64 (n : Int)] w fun e w' => (∃ sq, e = .returned sq ∧ w'.ownsRow w.heap.size 31 3 sq (rtS (dgB 100 n)).length (flatC trC (rtS (dgB 100 n)))) ∧ Below w.heap.size w w' := by
  obtain ⟨i0, hi, hz0, hz1, hz2⟩ := info_parts Try.infoTri
  have h8 := pg_len hn
  have hbd := pg_bd n
  have HG := Lib.hid (fun w => digitsIn_any 100 n w (by omega) (by omega) (by omega))
  rw [rtS_len]
  generalize dgB 100 n = L at h8 hbd HG ⊢
  have HRA := Lib.hid (fun (k : Nat) (h : k < L.length) (T R : Int) (hp : rtP (L.take k) = (T, R)) => root_at h8 hbd k h hp)
  obtain ⟨F, HS0, HSE, HSL, HST⟩ := fill_root L
  rw [← HSE]
  have HS0 := Lib.hid HS0
  have HSL := Lib.hid HSL
  have HST := Lib.hid HST
  clear HSE hbd hn
  go_enter Try.func57, Try.ntmps57
  go_wp2_with fail
  refine (HG.out w).mono ?_
  rintro e w1 ⟨⟨sd, rfl, od⟩, hb1⟩
  have hR := RowsR.of_own inC_len od
  obtain ⟨a, cp, rfl⟩ := hR.form
  have R1 := Lib.hid hR.at
  have HB1 := Lib.hid hb1
  clear od hR hb1
  go_wp2_with (at_make; refine wpList_make_full _ rfl _ _ 27 rfl w1.heap.size 31 i0 (.agg #[.int .i64 0, .int .i64 0, .int .i64 0]) 3 Try.underlying27 hi hz0 hz1 _ _ _ _ L.length rfl rfl rfl rfl ?b2 ?b3 (Nat.le_refl _) ?_)
  case b2 => rw [hz2]; omega
  case b3 => unfold maxLen; omega
  intro w2 hown hgrow
  have hm : (madeCells #[Value.int .i64 0, .int .i64 0, .int .i64 0] (L.length * 3)).toList = flatC trC (F 0) := by rw [HS0.out]; exact made_tri _
  rw [hm] at hown
  have HO0 := Lib.hid hown
  have HB2 : Hid (Below w1.heap.size w1 w2) := Lib.hid ((Below.refl _ _).grown hgrow (Nat.le_refl _) (fun k h => by cases h))
  obtain ⟨g, hg⟩ : ∃ g, w1.heap.size = g := ⟨_, rfl⟩
  have HGE := Lib.hid hg
  rw [hg] at HO0 HB2 R1
  have HGL : Hid (g ≤ w2.heap.size) := Lib.hid (by have := HB2.out.size; omega)
  have HBA : Hid (Below w.heap.size w w2) := Lib.hid (HB1.out.trans ((by rw [← hg] at HB2; exact HB2.out : Below w1.heap.size w1 w2).mono HB1.out.size))
  have HLW : Hid (w.heap.size ≤ g) := Lib.hid (by have := HB1.out.size; omega)
  rw [hg]
  clear hown hgrow hm hg
  go_wp2_with fail
  refine (rootStepper_any w2).mono ?_
  rintro e w3 ⟨rfl, k0, k1, k2, hb3, hsz3⟩
  have HO3 := Lib.hid (own_below HO0.out hb3)
  have HB3 : Hid (Below g w1 w3) := Lib.hid (HB2.out.trans (hb3.mono HGL.out))
  have HBA3 : Hid (Below w.heap.size w w3) := Lib.hid (HBA.out.trans (hb3.mono (Nat.le_trans HLW.out HGL.out)))
  have HGB : Hid (g < w2.heap.size ∨ L.length = 0) := Lib.hid (by
    rcases Nat.eq_zero_or_pos L.length with h | h
    · exact .inr h
    · exact .inl (HO0.out.lt _ rfl).2)
  obtain ⟨b, hbe⟩ : ∃ b, w2.heap.size = b := ⟨_, rfl⟩
  rw [hbe] at k0 k1 k2 HGB HGL
  rw [hbe]
  have K0 := Lib.hid k0
  have K1 := Lib.hid k1
  have K2 := Lib.hid k2
  clear k0 k1 k2 hb3 hsz3 hbe
  go_wp2_with fail
  go_loopw [16] (fun iv wr => ∃ (k : Nat) (T R : Int), k ≤ L.length ∧ iv = .int .i64 (k : Int) ∧ Hid (rtP (L.take k) = (T, R)) ∧ wr.ownsRow g 31 3 (.slice (some ⟨g, 0, none⟩) L.length L.length) L.length (flatC trC (F k)) ∧ wr.heap[b]? = some (.cells #[.int .i64 T] 3 (0, 0)) ∧ wr.heap[b + 1]? = some (.cells #[.int .i64 R] 3 (0, 0)) ∧ wr.heap[b + 2]? = some (.cells #[.int .i64 4] 3 (0, 0)) ∧ Below g w1 wr ∧ Below w.heap.size w wr) (fun iv _ => L.length - (intOf iv).toNat)
  case atStart => exact ⟨0, 0, 0, Nat.zero_le _, rfl, Lib.hid rfl, HO3.out, K0.out, K1.out, K2.out, HB3.out, HBA3.out⟩
  case round =>
    obtain ⟨k, T, R, hk, rfl, HP, hO, k0, k1, k2, hb, hba⟩ := hrel
    have HO := Lib.hid hO
    have HB := Lib.hid hb
    have HBW := Lib.hid hba
    by_cases hlt : k < L.length
    · obtain ⟨b1, o1, rfl, l1, q1⟩ := R1.out _ hb k hlt
      have c0 : wr.cell? ⟨b1, o1 + k, none⟩ = some (.int .i64 L[k]) := by have := q1 0 (by omega); rw [Nat.mul_one] at this; exact this
      obtain ⟨H, N, A, E, V, T2, G, e1, e2, e3, e4, e5, e6, e7, e8, e9⟩ := HRA.out k hlt T R HP.out
      have hst := HST.out k hlt
      rw [e8] at hst
      obtain ⟨x, hxe⟩ : ∃ x, L[k] = x := ⟨_, rfl⟩
      rw [hxe] at c0 e2
      have HN := Lib.hid hst
      have HRN := Lib.hid e9
      have HC := Lib.hid (stepper_any b G T R x H N A E V T2 wr k0 k1 k2 e1 e2 e3 e4 e5 e6 e7)
      have hgb : g < b := by rcases HGB.out with h | h <;> omega
      have z1 : (0 : Int) ≤ (k : Int) := by omega
      have z2 : (k : Int) < (L.length : Int) := by omega
      have HBZ := Lib.hid (lt_of_block k2)
      clear q1 hO hb hba hst hxe e1 e2 e3 e4 e5 e6 e7 e8 e9 k0 k1 k2
      have HGB2 := Lib.hid hgb
      have hxl : (flatC trC (F k)).length = L.length * 3 := by rw [flatC_len trC_len, HSL.out k hk]
      have HLK : Hid (∀ w5 : World, Btw b (b + 2) wr w5 → w5.ownsRow g 31 3 (.slice (some ⟨g, 0, none⟩) L.length L.length) L.length (flatC trC (F k)) ∧ (∃ u, w5.cell? ⟨g, k * 3, none⟩ = some u) ∧ (∃ u, w5.cell? ⟨g, k * 3 + 1, none⟩ = some u) ∧ (∃ u, w5.cell? ⟨g, k * 3 + 2, none⟩ = some u) ∧ (∀ i, w5.frozen? ⟨g, i, none⟩ = false)) := Lib.hid (fun w5 hbt => by
        have h5 : w5.ownsRow g 31 3 (.slice (some ⟨g, 0, none⟩) L.length L.length) L.length (flatC trC (F k)) := own_of_block HO.out (fun gg hgg => hbt.block gg (.inl (by simp [Value.ownBlock] at hgg; omega)))
        exact ⟨h5, ⟨_, (h5.cellAt (k * 3 + 0) (by omega)).trans (List.getElem?_eq_getElem (by omega))⟩, ⟨_, (h5.cellAt (k * 3 + 1) (by omega)).trans (List.getElem?_eq_getElem (by omega))⟩, ⟨_, (h5.cellAt (k * 3 + 2) (by omega)).trans (List.getElem?_eq_getElem (by omega))⟩, fun i => h5.frozenAt i⟩)
      clear hgb hxl
      go_wp2_with (go_at_call 75; refine HC.out.mono ?_; rintro e w5 ⟨rfl, k0, k1, k2, hbt⟩; obtain ⟨hO5, ⟨u0, d0⟩, ⟨u1, d1⟩, ⟨u2, d2⟩, hfz⟩ := HLK.out w5 hbt; have f0 := hfz (k * 3); have f1 := hfz (k * 3 + 1); have f2 := hfz (k * 3 + 2); have HO5 := Lib.hid hO5; have HBT := Lib.hid hbt; have K0 := Lib.hid k0; have K1 := Lib.hid k1; have K2 := Lib.hid k2; clear k0 k1 k2 hbt hO5 hfz c0)
      have hgb := HGB2.out
      refine ⟨⟨k + 1, T2, V, by omega, by go_num, HRN, ?_, (heapO3 w5 g b _ _ _ _ _ _ (by omega)).trans K0.out, (heapO3 w5 g (b + 1) _ _ _ _ _ _ (by omega)).trans K1.out, (heapO3 w5 g (b + 2) _ _ _ _ _ _ (by omega)).trans K2.out, ?_, ?_⟩, by simp [intOf]; omega⟩
      · have h6 := (((HO5.out.stored (k * 3) (.int .i64 N)).1.stored (k * 3 + 1) (.int .i64 (G : Int))).1.stored (k * 3 + 2) (.int .i64 V)).1
        rw [set3C (F k) k (by rw [HSL.out k hk]; exact hlt), HN.out] at h6
        exact h6
      · exact (((HB.out.trans (HBT.out.below.mono (by omega))).setCell (Nat.le_refl _) _).setCell (Nat.le_refl _) _).setCell (Nat.le_refl _) _
      · have := HLW.out
        exact (((HBW.out.trans (HBT.out.below.mono (by omega))).setCell (by exact HLW.out) _).setCell (by exact HLW.out) _).setCell (by exact HLW.out) _
    · obtain rfl : k = L.length := by omega
      have HE := Lib.hid (own_mono hO HLW.out)
      clear hO hb hba k0 k1 k2
      go_wp2_with fail
      go_ret
      exact ⟨⟨_, rfl, HE.out⟩, HBW.out⟩
set_option maxRecDepth 100000 in
set_option maxHeartbeats 3200000 in
theorem rootOf_any (n r : Nat) (w : World) (h : isRt n r) (hn : n < 10000000000000000) :
    Calls Try.prog 54 #[.int .i64 (n : Int)] w fun e w' => e = .returned (.tuple #[.int .i64 (r : Int), .int .i64 ((n : Int) - (r : Int) * (r : Int))]) ∧ Below w.heap.size w w' := by
  have h8 := pg_len hn
  have hbd := pg_bd n
  have HG := Lib.hid (fun w => rootStepsOf_any n w hn)
  have HRT := Lib.hid (rtP_root h)
  have hl := rtS_len (dgB 100 n)
  rw [hl] at HG
  have HSA := Lib.hid (fun k h => rtS_at (dgB 100 n) k h)
  generalize dgB 100 n = L at h8 hbd HG HRT HSA hl
  have HRA := Lib.hid (fun (k : Nat) (h : k < L.length) (T R : Int) (hp : rtP (L.take k) = (T, R)) => root_at h8 hbd k h hp)
  have HL := Lib.hid hl
  obtain ⟨RR, hRR⟩ : ∃ RR : Int, (n : Int) - (r : Int) * (r : Int) = RR := ⟨_, rfl⟩
  rw [hRR] at HRT ⊢
  have HZ : Hid (L.length ≤ 9223372036854775807) := Lib.hid (by omega)
  clear hbd hn h hl hRR
  go_enter Try.func54, Try.ntmps54
  go_wp2_with fail
  refine (HG.out w).mono ?_
  rintro e w1 ⟨⟨sd, rfl, od⟩, hb1⟩
  have hR : RowsR 3 trC w1 sd (rtS L) := RowsR.of_own trC_len (by rw [HL.out]; exact od)
  obtain ⟨a, cp, rfl⟩ := hR.form
  have R1 := Lib.hid hR.at
  have HB1 := Lib.hid hb1
  rw [HL.out]
  clear od hR hb1
  go_wp2_with fail
  go_loopw [4, 5, 11] (fun tv rv iv wr => ∃ (k : Nat) (T R : Int), k ≤ L.length ∧ iv = .int .i64 (k : Int) ∧ tv = .int .i64 T ∧ rv = .int .i64 R ∧ Hid (rtP (L.take k) = (T, R)) ∧ Below w1.heap.size w1 wr) (fun _ _ iv _ => L.length - (intOf iv).toNat)
  case atStart => exact ⟨0, 0, 0, Nat.zero_le _, rfl, rfl, rfl, Lib.hid rfl, Below.refl _ _⟩
  case round =>
    obtain ⟨k, T, R, hk, rfl, rfl, rfl, HP, hb⟩ := hrel
    have HB := Lib.hid hb
    by_cases hlt : k < L.length
    · obtain ⟨b1, o1, rfl, l1, q1⟩ := R1.out _ hb k (by rw [HL.out]; exact hlt)
      obtain ⟨H, N, A, E, V, T2, G, e1, e2, e3, e4, e5, e6, e7, e8, e9⟩ := HRA.out k hlt T R HP.out
      have hsa := HSA.out k hlt
      rw [e8] at hsa
      rw [hsa] at q1
      have c0 : wr.cell? ⟨b1, o1 + k * 3, none⟩ = some (.int .i64 N) := q1 0 (by omega)
      have c1 : wr.cell? ⟨b1, o1 + k * 3 + 1, none⟩ = some (.int .i64 (G : Int)) := q1 1 (by omega)
      have c2 : wr.cell? ⟨b1, o1 + k * 3 + 2, none⟩ = some (.int .i64 V) := q1 2 (by omega)
      obtain ⟨D, hD⟩ : ∃ D : Int, (G : Int) = D := ⟨_, rfl⟩
      rw [hD] at c1 e5
      have HRN := Lib.hid e9
      have z1 : (0 : Int) ≤ (k : Int) := by omega
      have z2 : (k : Int) < (L.length : Int) := by omega
      have HB4 := Lib.hid (hb.alloc hb.size (.cells #[.int .i64 N, .int .i64 D, .int .i64 V] 31))
      clear q1 hb hsa e1 e2 e3 e6 e7 e8 e9 hD
      go_wp2_with fail
      go_roundw
      case rel => exact ⟨k + 1, T2, V, by omega, by go_num, rfl, rfl, HRN, HB4.out⟩
      case measure => simp [intOf]; omega
    · obtain rfl : k = L.length := by omega
      have hp := HP.out
      rw [List.take_length, HRT.out] at hp
      injection hp with hp1 hp2
      subst hp1
      subst hp2
      clear hb
      go_wp2_with fail
      go_ret2
      exact ⟨rfl, HB1.out.trans (HB.out.mono HB1.out.size)⟩
set_option maxRecDepth 100000 in
set_option maxHeartbeats 800000 in
theorem impPairsOf_yes (n : Nat) (w : World) (h : n ≤ 99999999) :
    Calls Try.prog 27 #[.int .i64 (n : Int)] w fun e w' => (∃ sq, e = .returned (.tuple #[sq, .bool true]) ∧ w'.ownsRow w.heap.size 3 1 sq (dgB 100 n).length (flatC inC (dgB 100 n))) ∧ Below w.heap.size w w' := by
  have HOK : Hid (okN (n : Int)) := Lib.hid ⟨by omega, by omega⟩
  have HG := Lib.hid (fun w => digitsIn_any 100 n w (by omega) (by omega) (by have := pg_len (n := n) (by omega); omega))
  go_enter Try.func27, Try.ntmps27
  go_wp2_with fail
  refine (canT_yes _ w HOK.out).mono ?_
  rintro e w2 ⟨rfl, rfl⟩
  go_wp2_with fail
  refine (HG.out w).mono ?_
  rintro e w2 ⟨⟨sq, rfl, ho⟩, hb2⟩
  have HO := Lib.hid ho
  have HB := Lib.hid hb2
  clear ho hb2
  go_wp2_with fail
  go_ret2
  exact ⟨⟨_, rfl, HO.out⟩, HB.out⟩
set_option maxRecDepth 100000 in
set_option maxHeartbeats 800000 in
theorem impPairsOf_no (a : Int) (w : World) (h : ¬ okN a) :
    Calls Try.prog 27 #[.int .i64 a] w fun e w' => (∃ sq, e = .returned (.tuple #[sq, .bool false]) ∧ w'.ownsRow w.heap.size 3 1 sq ([] : List Int).length (flatC inC ([] : List Int))) ∧ Below w.heap.size w w' := by
  go_enter Try.func27, Try.ntmps27
  go_wp2_with fail
  refine (canT_no _ w h).mono ?_
  rintro e w2 ⟨rfl, rfl⟩
  go_wp2_with fail
  go_ret2
  exact ⟨⟨_, rfl, World.ownsRow_made (base := w.heap.size) (e := 3) (size := 1) w #[] 0 (Nat.le_refl _) (Nat.zero_le _) (by simp)⟩, (Below.refl _ _).alloc (Nat.le_refl _) _⟩
set_option maxRecDepth 100000 in
set_option maxHeartbeats 800000 in
theorem impRootSteps_yes (n : Nat) (w : World) (h : n ≤ 99999999) :
    Calls Try.prog 18 #[.int .i64 (n : Int)] w fun e w' => (∃ sq, e = .returned (.tuple #[sq, .bool true]) ∧ w'.ownsRow w.heap.size 31 3 sq (rtS (dgB 100 n)).length (flatC trC (rtS (dgB 100 n)))) ∧ Below w.heap.size w w' := by
  have HOK : Hid (okN (n : Int)) := Lib.hid ⟨by omega, by omega⟩
  have HG := Lib.hid (fun w => rootStepsOf_any n w (by omega))
  go_enter Try.func18, Try.ntmps18
  go_wp2_with fail
  refine (canT_yes _ w HOK.out).mono ?_
  rintro e w2 ⟨rfl, rfl⟩
  go_wp2_with fail
  refine (HG.out w).mono ?_
  rintro e w2 ⟨⟨sq, rfl, ho⟩, hb2⟩
  have HO := Lib.hid ho
  have HB := Lib.hid hb2
  clear ho hb2
  go_wp2_with fail
  go_ret2
  exact ⟨⟨_, rfl, HO.out⟩, HB.out⟩
set_option maxRecDepth 100000 in
set_option maxHeartbeats 800000 in
theorem impRootSteps_no (a : Int) (w : World) (h : ¬ okN a) :
    Calls Try.prog 18 #[.int .i64 a] w fun e w' => (∃ sq, e = .returned (.tuple #[sq, .bool false]) ∧ w'.ownsRow w.heap.size 31 3 sq ([] : List Tr).length (flatC trC ([] : List Tr))) ∧ Below w.heap.size w w' := by
  go_enter Try.func18, Try.ntmps18
  go_wp2_with fail
  refine (canT_no _ w h).mono ?_
  rintro e w2 ⟨rfl, rfl⟩
  go_wp2_with fail
  go_ret2
  exact ⟨⟨_, rfl, World.ownsRow_made (base := w.heap.size) (e := 31) (size := 3) w #[] 0 (Nat.le_refl _) (Nat.zero_le _) (by simp)⟩, (Below.refl _ _).alloc (Nat.le_refl _) _⟩
set_option maxRecDepth 100000 in
set_option maxHeartbeats 800000 in
theorem impWholeRoot_yes (n r : Nat) (w : World) (h : isRt n r) (hn : n ≤ 99999999) :
    Calls Try.prog 16 #[.int .i64 (n : Int)] w fun e w' => e = .returned (.tuple #[.int .i64 (r : Int), .int .i64 ((n : Int) - (r : Int) * (r : Int)), .bool true]) ∧ Below w.heap.size w w' := by
  have HOK : Hid (okN (n : Int)) := Lib.hid ⟨by omega, by omega⟩
  have HR := Lib.hid (fun w => rootOf_any n r w h (by omega))
  generalize (n : Int) - (r : Int) * (r : Int) = RR at HR ⊢
  clear h
  go_enter Try.func16, Try.ntmps16
  go_wp2_with fail
  refine (canT_yes _ w HOK.out).mono ?_
  rintro e w2 ⟨rfl, rfl⟩
  go_wp2_with fail
  refine (HR.out w).mono ?_
  rintro e w2 ⟨rfl, hb2⟩
  have HB := Lib.hid hb2
  clear hb2
  go_wp2_with fail
  exact bodyPost_ret (v := .tuple #[.int .i64 (r : Int), .int .i64 RR, .bool true]) (by simp [results, Try.results16, go_sem]) rfl ⟨rfl, HB.out⟩
set_option maxRecDepth 100000 in
set_option maxHeartbeats 800000 in
theorem impWholeRoot_no (a : Int) (w : World) (h : ¬ okN a) :
    Calls Try.prog 16 #[.int .i64 a] w fun e w' => e = .returned (.tuple #[.int .i64 0, .int .i64 0, .bool false]) ∧ Below w.heap.size w w' := by
  go_enter Try.func16, Try.ntmps16
  go_wp2_with fail
  refine (canT_no _ w h).mono ?_
  rintro e w2 ⟨rfl, rfl⟩
  go_wp2_with fail
  exact bodyPost_ret (v := .tuple #[.int .i64 0, .int .i64 0, .bool false]) (by simp [results, Try.results16, go_sem]) rfl ⟨rfl, Below.refl _ _⟩
set_option maxRecDepth 100000 in
set_option maxHeartbeats 800000 in
theorem impIsSquare_yes (n r : Nat) (w : World) (h : isRt n r) (hn : n ≤ 99999999) :
    Calls Try.prog 23 #[.int .i64 (n : Int)] w fun e w' => e = .returned (.tuple #[.bool (decide (r * r = n)), .bool true]) ∧ Below w.heap.size w w' := by
  obtain ⟨g1, g2, g3, g4⟩ := sq_facts h hn
  have HR := Lib.hid (fun w => impWholeRoot_yes n r w h hn)
  have hz : ((n : Int) - (r : Int) * (r : Int) == 0) = decide (r * r = n) := by rw [g3, Bool.eq_iff_iff, beq_iff_eq, decide_eq_true_iff]; omega
  generalize (n : Int) - (r : Int) * (r : Int) = RR at HR hz
  rw [← hz]
  clear h hz g2 g3
  go_enter Try.func23, Try.ntmps23
  go_wp2_with fail
  refine (HR.out w).mono ?_
  rintro e w2 ⟨rfl, hb2⟩
  have HB := Lib.hid hb2
  clear hb2
  go_wp2_with fail
  go_ret2
  exact ⟨rfl, HB.out⟩
set_option maxRecDepth 100000 in
set_option maxHeartbeats 800000 in
theorem impIsSquare_no (a : Int) (w : World) (h : ¬ okN a) :
    Calls Try.prog 23 #[.int .i64 a] w fun e w' => e = .returned (.tuple #[.bool false, .bool false]) ∧ Below w.heap.size w w' := by
  have HR := Lib.hid (fun w => impWholeRoot_no a w h)
  clear h
  go_enter Try.func23, Try.ntmps23
  go_wp2_with fail
  refine (HR.out w).mono ?_
  rintro e w2 ⟨rfl, hb2⟩
  have HB := Lib.hid hb2
  clear hb2
  go_wp2_with fail
  go_ret2
  exact ⟨rfl, HB.out⟩
set_option maxRecDepth 100000 in
set_option maxHeartbeats 800000 in
theorem impNextSquare_yes (n r : Nat) (w : World) (h : isRt n r) (hn : n ≤ 99999999) :
    Calls Try.prog 22 #[.int .i64 (n : Int)] w fun e w' => e = .returned (.tuple #[.int .i64 (((r : Int) + 1) * ((r : Int) + 1)), .bool true]) ∧ Below w.heap.size w w' := by
  obtain ⟨g1, _, _, _⟩ := sq_facts h hn
  have HR := Lib.hid (fun w => impWholeRoot_yes n r w h hn)
  generalize (n : Int) - (r : Int) * (r : Int) = RR at HR
  have g2 : IntKind.i64.wrap (((r : Int) + 1) * ((r : Int) + 1)) = ((r : Int) + 1) * ((r : Int) + 1) := by
    have := Nat.mul_le_mul (show r + 1 ≤ 10000 by omega) (show r + 1 ≤ 10000 by omega)
    rw [show ((r : Int) + 1) * ((r : Int) + 1) = (((r + 1) * (r + 1) : Nat) : Int) by rw [Int.natCast_mul, Int.natCast_add]; rfl, IntKind.wrap_i64]; omega
  have g3 : IntKind.i64.wrap ((r : Int) + 1) = (r : Int) + 1 := by rw [IntKind.wrap_i64]; omega
  obtain ⟨P, hP⟩ : ∃ P : Int, (r : Int) + 1 = P := ⟨_, rfl⟩
  obtain ⟨Q, hQ⟩ : ∃ Q : Int, P * P = Q := ⟨_, rfl⟩
  have g4 := g3.trans hP
  rw [hP] at g2 ⊢
  have g5 := g2.trans hQ
  rw [hQ]
  have HP := Lib.hid hP
  clear h hP hQ g2 g3
  go_enter Try.func22, Try.ntmps22
  go_wp2_with fail
  refine (HR.out w).mono ?_
  rintro e w2 ⟨rfl, hb2⟩
  have HB := Lib.hid hb2
  clear hb2
  go_wp2_with fail
  go_ret2
  exact ⟨rfl, HB.out⟩
set_option maxRecDepth 100000 in
set_option maxHeartbeats 800000 in
theorem impNextSquare_no (a : Int) (w : World) (h : ¬ okN a) :
    Calls Try.prog 22 #[.int .i64 a] w fun e w' => e = .returned (.tuple #[.int .i64 0, .bool false]) ∧ Below w.heap.size w w' := by
  have HR := Lib.hid (fun w => impWholeRoot_no a w h)
  clear h
  go_enter Try.func22, Try.ntmps22
  go_wp2_with fail
  refine (HR.out w).mono ?_
  rintro e w2 ⟨rfl, hb2⟩
  have HB := Lib.hid hb2
  clear hb2
  go_wp2_with fail
  go_ret2
  exact ⟨rfl, HB.out⟩
theorem hund_step {n p k : Nat} (hn : n ≤ 99999999) (hp : p ≤ 4) (hk : k < p) : IntKind.i64.wrap (((n * 100 ^ k : Nat) : Int) * 100) = ((n * 100 ^ (k + 1) : Nat) : Int) := by
  have h1 : (100 : Nat) ^ (k + 1) ≤ 100 ^ 4 := Nat.pow_le_pow_right (by omega) (by omega)
  have h2 := Nat.mul_le_mul hn h1
  have e : n * 100 ^ (k + 1) = n * 100 ^ k * 100 := by rw [Nat.pow_succ, Nat.mul_assoc]
  rw [e] at h2 ⊢
  generalize n * 100 ^ k = q at h2 ⊢
  rw [IntKind.wrap_i64]; omega
set_option maxRecDepth 100000 in
set_option maxHeartbeats 1600000 in
theorem impRootDecimals_yes (n p r : Nat) (w : World) (h : isRt (n * 100 ^ p) r) (hn : n ≤ 99999999) (hp : p ≤ 4) :
    Calls Try.prog 31 #[.int .i64 (n : Int), .int .i64 (p : Int)] w fun e w' => e = .returned (.tuple #[.int .i64 (r : Int), .bool true]) ∧ Below w.heap.size w w' := by
  have HOK : Hid (okN (n : Int)) := Lib.hid ⟨by omega, by omega⟩
  obtain ⟨_, _, _, _, _, e4, _⟩ := hund_facts hn hp
  have HR := Lib.hid (fun w => rootOf_any (n * 100 ^ p) r w h (by omega))
  have HS := Lib.hid (fun (k : Nat) hk => hund_step hn hp (k := k) hk)
  generalize ((n * 100 ^ p : Nat) : Int) - (r : Int) * (r : Int) = RR at HR
  have z1 : ¬ (p : Int) < 0 := by omega
  have z2 : ¬ (4 : Int) < (p : Int) := by omega
  have z3 : decide ((p : Int) < 0) = false := decide_eq_false z1
  have z4 : decide ((4 : Int) < (p : Int)) = false := decide_eq_false z2
  have HP4 := Lib.hid hp
  clear h e4 hn hp
  go_enter Try.func31, Try.ntmps31
  go_wp2_with fail
  refine (canT_yes _ w HOK.out).mono ?_
  rintro e w2 ⟨rfl, rfl⟩
  go_wp2_with fail
  go_loopw [0, 20] (fun nv iv wr => ∃ (k : Nat), k ≤ p ∧ iv = .int .i64 (k : Int) ∧ nv = .int .i64 ((n * 100 ^ k : Nat) : Int) ∧ Below w.heap.size w wr) (fun _ iv _ => 20 - (intOf iv).toNat)
  case atStart => exact ⟨0, Nat.zero_le _, rfl, by simp, by first | exact Below.refl _ _ | exact (Below.refl _ _).drew⟩
  case round =>
    obtain ⟨k, hk, rfl, rfl, hb⟩ := hrel
    have HB := Lib.hid hb
    have hk4 : k ≤ 4 := by have := HP4.out; omega
    clear hb
    by_cases hlt : k < p
    · have hw := HS.out k hlt
      obtain ⟨Q, hQ⟩ : ∃ Q : Int, ((n * 100 ^ k : Nat) : Int) = Q := ⟨_, rfl⟩
      obtain ⟨Q2, hQ2⟩ : ∃ Q : Int, ((n * 100 ^ (k + 1) : Nat) : Int) = Q := ⟨_, rfl⟩
      rw [hQ, hQ2] at hw
      rw [hQ]
      have H2 := Lib.hid hQ2
      have z5 : (k : Int) < (p : Int) := by omega
      clear hQ hQ2
      go_wp2_with fail
      go_roundw
      case rel => exact ⟨k + 1, by omega, by go_num, by rw [H2.out], HB.out⟩
      case measure => simp [intOf]; omega
    · obtain rfl : k = p := by omega
      have HR2 := Lib.hid (HR.out wr)
      obtain ⟨Q, hQ⟩ : ∃ Q : Int, ((n * 100 ^ k : Nat) : Int) = Q := ⟨_, rfl⟩
      rw [hQ] at HR2 ⊢
      clear hQ
      go_wp2_with fail
      refine HR2.out.mono ?_
      rintro e w2 ⟨rfl, hb2⟩
      have HB2 := Lib.hid (HB.out.trans (hb2.mono HB.out.size))
      clear hb2
      go_wp2_with fail
      go_ret2
      exact ⟨rfl, HB2.out⟩
set_option maxRecDepth 100000 in
set_option maxHeartbeats 800000 in
theorem impRootDecimals_no (a p : Int) (w : World) (h : ¬ okNP a p) :
    Calls Try.prog 31 #[.int .i64 a, .int .i64 p] w fun e w' => e = .returned (.tuple #[.int .i64 0, .bool false]) ∧ Below w.heap.size w w' := by
  by_cases hk : okN a
  · have HK := Lib.hid hk
    by_cases hp : 0 ≤ p
    · have z1 : ¬ p < 0 := by omega
      have z2 : (4 : Int) < p := by
        rcases Int.lt_or_le 4 p with h4 | h4
        · exact h4
        · exact absurd ⟨hk, hp, h4⟩ h
      have z3 : decide (p < 0) = false := decide_eq_false z1
      have z4 : decide ((4 : Int) < p) = true := decide_eq_true z2
      clear h hk hp
      go_enter Try.func31, Try.ntmps31
      go_wp2_with fail
      refine (canT_yes _ w HK.out).mono ?_
      rintro e w2 ⟨rfl, rfl⟩
      go_wp2_with fail
      go_ret2
      exact ⟨rfl, by first | exact Below.refl _ _ | exact (Below.refl _ _).drew⟩
    · have z1 : p < 0 := by omega
      have z3 : decide (p < 0) = true := decide_eq_true z1
      clear h hk hp
      go_enter Try.func31, Try.ntmps31
      go_wp2_with fail
      refine (canT_yes _ w HK.out).mono ?_
      rintro e w2 ⟨rfl, rfl⟩
      go_wp2_with fail
      go_ret2
      exact ⟨rfl, by first | exact Below.refl _ _ | exact (Below.refl _ _).drew⟩
  · have HK := Lib.hid hk
    clear h hk
    go_enter Try.func31, Try.ntmps31
    go_wp2_with fail
    refine (canT_no _ w HK.out).mono ?_
    rintro e w2 ⟨rfl, rfl⟩
    go_wp2_with fail
    go_ret2
    exact ⟨rfl, by first | exact Below.refl _ _ | exact (Below.refl _ _).drew⟩
end Go.Proofs.Ytlfplnbmgmookaa
