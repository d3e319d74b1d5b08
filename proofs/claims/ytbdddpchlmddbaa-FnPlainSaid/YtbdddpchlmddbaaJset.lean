/- The program's SetBoard. -/
import Derived.Test.YtbdddpchlmddbaaJbrd
import Derived.Test.YtbdddpchlmddbaaIlvb
import Derived.OwnWalk
namespace Go.Proofs.Ytbdddpchlmddbaa
set_option linter.unusedVariables false
open Go.RowKit

set_option maxRecDepth 100000 in
set_option maxHeartbeats 3200000 in
theorem implSet_yes (L : Nat) (n : Int) (w : World) (hL : 1 ≤ L ∧ L ≤ 6) (h0 : 0 ≤ n) (hm : n ≤ 9223372036854775807) (qs qt : List Int) (r : Bool) (hk : (n / 10 ^ L ≤ 0 ∧ qs = dgL L n ∧ qt = dgS L n ∧ r = true) ∨ (0 < n / 10 ^ L ∧ qs = [] ∧ qt = [] ∧ r = false)) :
    Calls Try.prog 11 #[.int .i64 L, .int .i64 n] w fun e w' => (∃ s1 t1, e = .returned (.tuple #[.agg #[s1, t1], .bool r]) ∧ OwB w.heap.size w'.heap.size w' s1 t1 qs qt) ∧ Below w.heap.size w w' := by
  obtain ⟨i0, hi, hz0, hz1, hz2⟩ := info_parts Try.infoI5
  obtain ⟨hL1, hL2⟩ := hL
  have HK := Lib.hid hk
  obtain ⟨N, hN⟩ : ∃ N, N = 2 * L := ⟨_, rfl⟩
  have wN : IntKind.i64.wrap (2 * (L : Int)) = (N : Int) := by rw [IntKind.wrap_i64]; omega
  have hN12 : N ≤ 12 := by omega
  have HNN := Lib.hid hN
  have z1 : ¬ ((L : Int) < 1) := by omega
  have z2 : ¬ (6 < (L : Int)) := by omega
  have z3 : ¬ (n < 0) := by omega
  have HVB := Lib.hid (dvP_bd n h0)
  have HB0 : Hid (Below w.heap.size w w) := Lib.hid (Below.refl _ _)
  clear hk hN
  go_enter Try.func11, Try.ntmps11
  go_wp2_with (at_make; refine wpList_make_full _ rfl _ _ 24 rfl (w.heap.size + 1) 3 i0 (.int .i64 0) 1 Try.underlying24 hi hz0 hz1 _ _ _ _ N rfl rfl rfl rfl ?b2 ?b3 (by simp) ?_)
  case b2 => first | omega | (rw [hz2]; omega)
  case b3 => unfold maxLen; omega
  intro w2 hown0 hgrow0
  revert hown0 hgrow0
  have hb : Below w.heap.size w (w.alloc (.cells #[.slice none 0 0, .slice none 0 0] 26)) := (Below.refl _ _).alloc (Nat.le_refl _) _
  have hk : (w.alloc (.cells #[.slice none 0 0, .slice none 0 0] 26)).heap[w.heap.size]? = some (.cells #[.slice none 0 0, .slice none 0 0] 26 (0, 0)) := alloc_at rfl
  have hz : (w.alloc (.cells #[.slice none 0 0, .slice none 0 0] 26)).heap.size = w.heap.size + 1 := by simp
  generalize w.alloc (.cells #[.slice none 0 0, .slice none 0 0] 26) = w1 at hb hk hz ⊢
  have HB1 : Hid (Below w.heap.size w w1) := Lib.hid (HB0.out.trans (hb.mono HB0.out.size))
  have HZ1 : Hid (w.heap.size ≤ w1.heap.size) := Lib.hid hb.size
  have HKz1 := Lib.hid hk
  replace HZ1 : Hid (w.heap.size < w1.heap.size) := Lib.hid (by omega)
  have HE1 := Lib.hid hz
  clear hb hk hz
  intro hown0 hgrow0
  have ltz := lt_of_block HKz1.out
  obtain ⟨cz0, cz1, fz0, fz1⟩ := cell2 HKz1.out
  have hw1 : w.heap.size < w1.heap.size := ltz
  have HO0 := Lib.hid hown0
  have hb : Below w1.heap.size w1 w2 := (Below.refl _ _).grown hgrow0 (Nat.le_refl _) (fun k h => by cases h)
  clear hown0 hgrow0
  have HB2 : Hid (Below w.heap.size w w2) := Lib.hid (HB1.out.trans (hb.mono HB1.out.size))
  have HZ2 : Hid (w1.heap.size ≤ w2.heap.size) := Lib.hid hb.size
  have HKz2 := Lib.hid ((hb.block _ (lt_of_block HKz1.out)).trans HKz1.out)
  clear hb
  clear cz0 cz1 fz0 fz1 ltz
  have ltz := lt_of_block HKz2.out
  obtain ⟨cz0, cz1, fz0, fz1⟩ := cell2 HKz2.out
  go_wp2_with fail
  go_loopw [1, 24] (fun nv iv wr => ∃ (k : Nat) (m : Int) (xs : List Value), k ≤ N ∧ iv = .int .i64 k ∧ nv = .int .i64 m ∧ Hid (m = dvP n k) ∧ (0 ≤ m ∧ m ≤ 9223372036854775807) ∧ xs.length = N ∧ Hid (∀ (j : Nat), j < N → j < k → xs[j]? = some (.int .i64 (dgP n j))) ∧ wr.ownsRow (w.heap.size + 1) 3 1 (.slice (some ⟨w.heap.size + 1, 0, none⟩) N N) N xs ∧ wr.heap[w.heap.size]? = some (.cells #[.slice none 0 0, .slice none 0 0] 26 (0, 0)) ∧ Below w.heap.size w wr) (fun _ i _ => N - (intOf i).toNat)
  case atStart => exact ⟨0, n, _, Nat.zero_le _, rfl, rfl, Lib.hid rfl, ⟨h0, hm⟩, by have := HO0.out.1; omega, Lib.hid (fun j _ h => by omega), HO0.out, HKz2.out, HB2.out⟩
  case round =>
    obtain ⟨k, m, xs, hk, rfl, rfl, HV, ⟨m0, m1⟩, hxl, HP, hown, hkz, hb⟩ := hrel
    have HXL := Lib.hid hxl
    have hov : Ow (w.heap.size + 1) (w.heap.size + 1 + 1) wr 3 1 (.slice (some ⟨w.heap.size + 1, 0, none⟩) N N) N xs := ⟨hown, fun g hg => by cases hg; exact Nat.lt_succ_self _⟩
    clear hown hxl
    by_cases hlt : k < N
    · have y1 : (0 : Int) ≤ (k : Int) := by omega
      have y2 : (k : Int) < (N : Int) := by omega
      rcases mkP_or k with e5 | e5
      · skip
        have HM : Hid ((5 : Int) = mkP k) := Lib.hid e5.symm
        clear e5
        obtain ⟨x, hx⟩ : ∃ x, m.tmod 5 = x := ⟨_, rfl⟩
        obtain ⟨d, hd⟩ : ∃ d, IntKind.i64.wrap (m.tdiv 5) = d := ⟨_, rfl⟩
        have HX : Hid (x = dgP n k) := Lib.hid (by rw [← hx, Int.tmod_eq_emod_of_nonneg m0]; show m % 5 = dvP n k % mkP k; rw [← HV.out, ← HM.out])
        have HD : Hid (d = m / 5) := Lib.hid (by rw [← hd, Int.tdiv_eq_ediv_of_nonneg m0, IntKind.wrap_i64]; omega)
        have HN : Hid (d = dvP n (k + 1)) := Lib.hid (by rw [HD.out]; show m / 5 = dvP n k / mkP k; rw [← HV.out, ← HM.out])
        have HXS : Hid (∀ (j : Nat), j < N → j < k + 1 → (xs.set k (.int .i64 x))[j]? = some (.int .i64 (dgP n j))) := Lib.hid (fun j hj hj2 => by
          have hx2 := HXL.out
          by_cases e : j = k
          · subst e; rw [List.getElem?_set_self (by omega), HX.out]
          · rw [List.getElem?_set_ne (fun e' => e e'.symm)]; exact HP.out j hj (by omega))
        have HLS : Hid ((xs.set k (.int .i64 x)).length = N) := Lib.hid (by rw [List.length_set]; exact HXL.out)
        have HB20 : Hid (Below w.heap.size w wr) := Lib.hid hb
        have HKz20 := Lib.hid (hkz)
        have HOv20 := Lib.hid (hov)
        clear hkz hov hb
        obtain ⟨u0, d0⟩ : ∃ u, wr.cell? ⟨w.heap.size + 1, k, none⟩ = some u := ⟨_, (HOv20.out.1.cellAt k (by omega)).trans (List.getElem?_eq_getElem (by have := HXL.out; omega))⟩
        have f0 := HOv20.out.1.frozenAt k
        have ltz := lt_of_block HKz20.out
        obtain ⟨cz0, cz1, fz0, fz1⟩ := cell2 HKz20.out
        go_wp2_with fail
        refine (makeOne_any k 5 _ HM).mono ?_
        rintro e w' ⟨rfl, hw⟩
        subst w'
        go_wp2_with fail
        have hv := HOv20.out.stored k (.int .i64 x)
        have hm : Btw (w.heap.size + 1) (w.heap.size + 1 + 1) wr (wr.setCell ⟨w.heap.size + 1, k, none⟩ (.int .i64 x)) := (Btw.refl (w.heap.size + 1) (w.heap.size + 1 + 1) wr).setCell (p := ⟨w.heap.size + 1, k, none⟩) (Nat.le_refl _) (Nat.lt_succ_self _) _
        clear d0 f0
        generalize wr.setCell ⟨w.heap.size + 1, k, none⟩ (.int .i64 x) = w21 at hv hm ⊢
        have HZ21 : Hid (wr.heap.size ≤ w21.heap.size) := Lib.hid hm.size
        have HB21 : Hid (Below w.heap.size w w21) := Lib.hid (HB20.out.trans (hm.below.mono (by have := HB20.out.size; omega)))
        have HKz21 := Lib.hid ((hm.block _ (by have := lt_of_block HKz20.out; omega)).trans HKz20.out)
        clear hm
        have HOv21 := Lib.hid (hv)
        clear hv
        refine (makeOne_any k 5 _ HM).mono ?_
        rintro e w' ⟨rfl, hw⟩
        subst w'
        clear cz0 cz1 fz0 fz1 ltz
        have ltz := lt_of_block HKz21.out
        obtain ⟨cz0, cz1, fz0, fz1⟩ := cell2 HKz21.out
        go_wp2_with fail
        go_roundw
        case rel => exact ⟨k + 1, d, _, by omega, by go_num, rfl, HN, by have := HD.out; omega, HLS.out, HXS, HOv21.out.1, HKz21.out, HB21.out⟩
        case measure => simp [intOf]; omega
      · skip
        have HM : Hid ((2 : Int) = mkP k) := Lib.hid e5.symm
        clear e5
        obtain ⟨x, hx⟩ : ∃ x, m.tmod 2 = x := ⟨_, rfl⟩
        obtain ⟨d, hd⟩ : ∃ d, IntKind.i64.wrap (m.tdiv 2) = d := ⟨_, rfl⟩
        have HX : Hid (x = dgP n k) := Lib.hid (by rw [← hx, Int.tmod_eq_emod_of_nonneg m0]; show m % 2 = dvP n k % mkP k; rw [← HV.out, ← HM.out])
        have HD : Hid (d = m / 2) := Lib.hid (by rw [← hd, Int.tdiv_eq_ediv_of_nonneg m0, IntKind.wrap_i64]; omega)
        have HN : Hid (d = dvP n (k + 1)) := Lib.hid (by rw [HD.out]; show m / 2 = dvP n k / mkP k; rw [← HV.out, ← HM.out])
        have HXS : Hid (∀ (j : Nat), j < N → j < k + 1 → (xs.set k (.int .i64 x))[j]? = some (.int .i64 (dgP n j))) := Lib.hid (fun j hj hj2 => by
          have hx2 := HXL.out
          by_cases e : j = k
          · subst e; rw [List.getElem?_set_self (by omega), HX.out]
          · rw [List.getElem?_set_ne (fun e' => e e'.symm)]; exact HP.out j hj (by omega))
        have HLS : Hid ((xs.set k (.int .i64 x)).length = N) := Lib.hid (by rw [List.length_set]; exact HXL.out)
        have HB20 : Hid (Below w.heap.size w wr) := Lib.hid hb
        have HKz20 := Lib.hid (hkz)
        have HOv20 := Lib.hid (hov)
        clear hkz hov hb
        obtain ⟨u0, d0⟩ : ∃ u, wr.cell? ⟨w.heap.size + 1, k, none⟩ = some u := ⟨_, (HOv20.out.1.cellAt k (by omega)).trans (List.getElem?_eq_getElem (by have := HXL.out; omega))⟩
        have f0 := HOv20.out.1.frozenAt k
        have ltz := lt_of_block HKz20.out
        obtain ⟨cz0, cz1, fz0, fz1⟩ := cell2 HKz20.out
        go_wp2_with fail
        refine (makeOne_any k 2 _ HM).mono ?_
        rintro e w' ⟨rfl, hw⟩
        subst w'
        go_wp2_with fail
        have hv := HOv20.out.stored k (.int .i64 x)
        have hm : Btw (w.heap.size + 1) (w.heap.size + 1 + 1) wr (wr.setCell ⟨w.heap.size + 1, k, none⟩ (.int .i64 x)) := (Btw.refl (w.heap.size + 1) (w.heap.size + 1 + 1) wr).setCell (p := ⟨w.heap.size + 1, k, none⟩) (Nat.le_refl _) (Nat.lt_succ_self _) _
        clear d0 f0
        generalize wr.setCell ⟨w.heap.size + 1, k, none⟩ (.int .i64 x) = w21 at hv hm ⊢
        have HZ21 : Hid (wr.heap.size ≤ w21.heap.size) := Lib.hid hm.size
        have HB21 : Hid (Below w.heap.size w w21) := Lib.hid (HB20.out.trans (hm.below.mono (by have := HB20.out.size; omega)))
        have HKz21 := Lib.hid ((hm.block _ (by have := lt_of_block HKz20.out; omega)).trans HKz20.out)
        clear hm
        have HOv21 := Lib.hid (hv)
        clear hv
        refine (makeOne_any k 2 _ HM).mono ?_
        rintro e w' ⟨rfl, hw⟩
        subst w'
        clear cz0 cz1 fz0 fz1 ltz
        have ltz := lt_of_block HKz21.out
        obtain ⟨cz0, cz1, fz0, fz1⟩ := cell2 HKz21.out
        go_wp2_with fail
        go_roundw
        case rel => exact ⟨k + 1, d, _, by omega, by go_num, rfl, HN, by have := HD.out; omega, HLS.out, HXS, HOv21.out.1, HKz21.out, HB21.out⟩
        case measure => simp [intOf]; omega
    · obtain rfl : k = N := by omega
      have HXS : Hid (xs = flatC inC (dgs k n)) := Lib.hid (flatC_of inC_len (by omega) xs (dgs k n) (by have := HXL.out; rw [dgs_len]; omega) (fun i h j hj => by
        have hj0 : j = 0 := by omega
        subst hj0
        rw [dgs_len] at h
        rw [Nat.mul_one, Nat.add_zero, dgs_at]
        exact HP.out i h (by omega)))
      have HPW : Hid (m = n / 10 ^ L) := Lib.hid (by rw [HV.out, HNN.out, dvP_pow])
      have HB20 : Hid (Below w.heap.size w wr) := Lib.hid hb
      have HKz20 := Lib.hid (hkz)
      have HOv20 := Lib.hid (hov)
      clear hkz hov hb
      have hsw : w.heap.size + 1 < wr.heap.size := (HOv20.out.1.lt _ rfl).2
      have ltz := lt_of_block HKz20.out
      obtain ⟨cz0, cz1, fz0, fz1⟩ := cell2 HKz20.out
      by_cases hm0 : m = 0
      · have HR : Hid (qs = evs (dgs k n) ∧ qt = ods (dgs k n) ∧ r = true) := Lib.hid (by
          have hN2 := HNN.out
          subst hN2
          rw [dgs_evs, dgs_ods]
          rcases HK.out with ⟨_, h2⟩ | ⟨h1, _⟩
          · exact h2
          · have := HPW.out; omega)
        obtain ⟨rfl, rfl, rfl⟩ := HR.out
        have hmb : (m != 0) = false := by simp [hm0]
        clear hm0
        go_wp2_with fail
        refine (boardOf_any _ (dgs k n) L _ (RowsR.of_own inC_len (own_relen' (dgs_len k n) (HXS.out ▸ HOv20.out.1))) hL2 (by rw [dgs_len]; exact HNN.out)).mono ?_
        rintro e w21 ⟨⟨s1, s2, rfl, ho⟩, hb⟩
        have HB21 : Hid (Below w.heap.size w w21) := Lib.hid (HB20.out.trans (hb.mono HB20.out.size))
        have HZ21 : Hid (wr.heap.size ≤ w21.heap.size) := Lib.hid hb.size
        have HKz21 := Lib.hid ((hb.block _ (lt_of_block HKz20.out)).trans HKz20.out)
        have HOv21 := Lib.hid (HOv20.out.next hb)
        clear hb
        obtain ⟨p1, k1, p2, k2, rfl, rfl⟩ := ho.form
        have hwl : w.heap.size < wr.heap.size := by omega
        have HOa21 := Lib.hid (ho)
        clear ho
        clear cz0 cz1 fz0 fz1 ltz
        have ltz := lt_of_block HKz21.out
        obtain ⟨cz0, cz1, fz0, fz1⟩ := cell2 HKz21.out
        go_wp2_with fail
        exact bodyPost_ret (v := .tuple #[.agg #[.slice p1 (evs (dgs k n)).length k1, .slice p2 (ods (dgs k n)).length k2], .bool true]) (by simp [results, Try.results11, go_sem, cz0, cz1]) rfl ⟨⟨_, _, rfl, ((HOa21.out.set (a := ⟨w.heap.size, 0, none⟩) hwl _).set (a := ⟨w.heap.size, 1, none⟩) hwl _).mono (by omega) (by simp [World.setCell])⟩, by first | exact HB21.out | exact (HB21.out.setCell (p := ⟨w.heap.size, 0, none⟩) (Nat.le_refl _) _).setCell (p := ⟨w.heap.size, 1, none⟩) (Nat.le_refl _) _⟩
      · have HR : Hid (qs = [] ∧ qt = [] ∧ r = false) := Lib.hid (by
          rcases HK.out with ⟨h1, _⟩ | ⟨_, h2⟩
          · have := HPW.out; omega
          · exact h2)
        obtain ⟨rfl, rfl, rfl⟩ := HR.out
        have hmb : (m != 0) = true := by simp [hm0]
        clear hm0
        go_wp2_with fail
        exact bodyPost_ret (v := .tuple #[.agg #[.slice none 0 0, .slice none 0 0], .bool false]) (by simp [results, Try.results11, go_sem, cz0, cz1]) rfl ⟨⟨_, _, rfl, OwB.nil' _ _ _⟩, by first | exact HB20.out | exact (HB20.out.setCell (p := ⟨w.heap.size, 0, none⟩) (Nat.le_refl _) _).setCell (p := ⟨w.heap.size, 1, none⟩) (Nat.le_refl _) _⟩
set_option maxRecDepth 100000 in
set_option maxHeartbeats 1600000 in
theorem implSet_no (L n : Int) (w : World) (h : ¬ ((1 ≤ L ∧ L ≤ 6) ∧ 0 ≤ n)) :
    Calls Try.prog 11 #[.int .i64 L, .int .i64 n] w fun e w' => (∃ s1 t1, e = .returned (.tuple #[.agg #[s1, t1], .bool false]) ∧ OwB w.heap.size w'.heap.size w' s1 t1 [] []) ∧ Below w.heap.size w w' := by
  have HB0 : Hid (Below w.heap.size w w) := Lib.hid (Below.refl _ _)
  by_cases h1 : L < 1
  · clear h
    go_enter Try.func11, Try.ntmps11
    go_wp2_with fail
    have hb : Below w.heap.size w (w.alloc (.cells #[.slice none 0 0, .slice none 0 0] 26)) := (Below.refl _ _).alloc (Nat.le_refl _) _
    have hk : (w.alloc (.cells #[.slice none 0 0, .slice none 0 0] 26)).heap[w.heap.size]? = some (.cells #[.slice none 0 0, .slice none 0 0] 26 (0, 0)) := alloc_at rfl
    have hz : (w.alloc (.cells #[.slice none 0 0, .slice none 0 0] 26)).heap.size = w.heap.size + 1 := by simp
    generalize w.alloc (.cells #[.slice none 0 0, .slice none 0 0] 26) = w1 at hb hk hz ⊢
    have HB1 : Hid (Below w.heap.size w w1) := Lib.hid (HB0.out.trans (hb.mono HB0.out.size))
    have HZ1 : Hid (w.heap.size ≤ w1.heap.size) := Lib.hid hb.size
    have HKz1 := Lib.hid hk
    replace HZ1 : Hid (w.heap.size < w1.heap.size) := Lib.hid (by omega)
    have HE1 := Lib.hid hz
    clear hb hk hz
    have ltz := lt_of_block HKz1.out
    obtain ⟨cz0, cz1, fz0, fz1⟩ := cell2 HKz1.out
    go_wp2_with fail
    exact bodyPost_ret (v := .tuple #[.agg #[.slice none 0 0, .slice none 0 0], .bool false]) (by simp [results, Try.results11, go_sem, cz0, cz1]) rfl ⟨⟨_, _, rfl, OwB.nil' _ _ _⟩, by first | exact HB1.out | exact (HB1.out.setCell (p := ⟨w.heap.size, 0, none⟩) (Nat.le_refl _) _).setCell (p := ⟨w.heap.size, 1, none⟩) (Nat.le_refl _) _⟩
  · by_cases h2 : 6 < L
    · clear h
      go_enter Try.func11, Try.ntmps11
      go_wp2_with fail
      have hb : Below w.heap.size w (w.alloc (.cells #[.slice none 0 0, .slice none 0 0] 26)) := (Below.refl _ _).alloc (Nat.le_refl _) _
      have hk : (w.alloc (.cells #[.slice none 0 0, .slice none 0 0] 26)).heap[w.heap.size]? = some (.cells #[.slice none 0 0, .slice none 0 0] 26 (0, 0)) := alloc_at rfl
      have hz : (w.alloc (.cells #[.slice none 0 0, .slice none 0 0] 26)).heap.size = w.heap.size + 1 := by simp
      generalize w.alloc (.cells #[.slice none 0 0, .slice none 0 0] 26) = w1 at hb hk hz ⊢
      have HB1 : Hid (Below w.heap.size w w1) := Lib.hid (HB0.out.trans (hb.mono HB0.out.size))
      have HZ1 : Hid (w.heap.size ≤ w1.heap.size) := Lib.hid hb.size
      have HKz1 := Lib.hid hk
      replace HZ1 : Hid (w.heap.size < w1.heap.size) := Lib.hid (by omega)
      have HE1 := Lib.hid hz
      clear hb hk hz
      have ltz := lt_of_block HKz1.out
      obtain ⟨cz0, cz1, fz0, fz1⟩ := cell2 HKz1.out
      go_wp2_with fail
      exact bodyPost_ret (v := .tuple #[.agg #[.slice none 0 0, .slice none 0 0], .bool false]) (by simp [results, Try.results11, go_sem, cz0, cz1]) rfl ⟨⟨_, _, rfl, OwB.nil' _ _ _⟩, by first | exact HB1.out | exact (HB1.out.setCell (p := ⟨w.heap.size, 0, none⟩) (Nat.le_refl _) _).setCell (p := ⟨w.heap.size, 1, none⟩) (Nat.le_refl _) _⟩
    · have h3 : n < 0 := by omega
      clear h
      go_enter Try.func11, Try.ntmps11
      go_wp2_with fail
      have hb : Below w.heap.size w (w.alloc (.cells #[.slice none 0 0, .slice none 0 0] 26)) := (Below.refl _ _).alloc (Nat.le_refl _) _
      have hk : (w.alloc (.cells #[.slice none 0 0, .slice none 0 0] 26)).heap[w.heap.size]? = some (.cells #[.slice none 0 0, .slice none 0 0] 26 (0, 0)) := alloc_at rfl
      have hz : (w.alloc (.cells #[.slice none 0 0, .slice none 0 0] 26)).heap.size = w.heap.size + 1 := by simp
      generalize w.alloc (.cells #[.slice none 0 0, .slice none 0 0] 26) = w1 at hb hk hz ⊢
      have HB1 : Hid (Below w.heap.size w w1) := Lib.hid (HB0.out.trans (hb.mono HB0.out.size))
      have HZ1 : Hid (w.heap.size ≤ w1.heap.size) := Lib.hid hb.size
      have HKz1 := Lib.hid hk
      replace HZ1 : Hid (w.heap.size < w1.heap.size) := Lib.hid (by omega)
      have HE1 := Lib.hid hz
      clear hb hk hz
      have ltz := lt_of_block HKz1.out
      obtain ⟨cz0, cz1, fz0, fz1⟩ := cell2 HKz1.out
      go_wp2_with fail
      exact bodyPost_ret (v := .tuple #[.agg #[.slice none 0 0, .slice none 0 0], .bool false]) (by simp [results, Try.results11, go_sem, cz0, cz1]) rfl ⟨⟨_, _, rfl, OwB.nil' _ _ _⟩, by first | exact HB1.out | exact (HB1.out.setCell (p := ⟨w.heap.size, 0, none⟩) (Nat.le_refl _) _).setCell (p := ⟨w.heap.size, 1, none⟩) (Nat.le_refl _) _⟩
theorem implSetBoard_any (L n : Int) (w : World) (hm : n ≤ 9223372036854775807) (qs qt : List Int) (r : Bool) (hk : SbF L n qs qt r) :
    Calls Try.prog 11 #[.int .i64 L, .int .i64 n] w fun e w' => (∃ s1 t1, e = .returned (.tuple #[.agg #[s1, t1], .bool r]) ∧ OwB w.heap.size w'.heap.size w' s1 t1 qs qt) ∧ Below w.heap.size w w' := by
  rcases hk with ⟨h1, h2⟩ | ⟨h1, rfl, rfl, rfl⟩
  · obtain ⟨m, rfl⟩ : ∃ m : Nat, L = m := ⟨L.toNat, by omega⟩
    rw [Int.toNat_natCast] at h2
    by_cases h0 : 0 ≤ n
    · refine implSet_yes m n w (by omega) h0 hm qs qt r ?_
      rcases h2 with ⟨h3, h4⟩ | ⟨h3, h4⟩
      · exact .inl ⟨h3.2, h4⟩
      · exact .inr ⟨by rcases Int.lt_or_le 0 (n / 10 ^ m) with h | h; exact h; exact absurd ⟨h0, h⟩ h3, h4⟩
    · rcases h2 with ⟨h3, h4⟩ | ⟨_, rfl, rfl, rfl⟩
      · exact absurd h3.1 h0
      · exact implSet_no _ n w (fun h => h0 h.2)
  · exact implSet_no L n w (fun h => h1 h.1)
end Go.Proofs.Ytbdddpchlmddbaa
