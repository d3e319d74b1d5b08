/- The program's places of a board in one list. -/
import Derived.Test.YtbdddpchlmddbaaDoorJone
import Derived.Deep.RegionHeld3
namespace Go.Proofs.YtbdddpchlmddbaaDoor
set_option linter.unusedVariables false
open Go.RowKit

set_option maxRecDepth 100000 in
set_option maxHeartbeats 3200000 in
theorem placesOf_any (v1 v2 : Value) (ls ss : List Int) (w : World) (h : BrdR w v1 v2 ls ss) (hn : ls.length ≤ 6) (hs : ss.length = ls.length) :
    Calls Tryd.prog 31 #[.agg #[v1, v2]] w fun e w' => (∃ v', e = .returned v' ∧ Ow w.heap.size w'.heap.size w' 3 1 v' (ilv ls ss).length (flatC inC (ilv ls ss))) ∧ Below w.heap.size w w' := by
  obtain ⟨i0, hi, hz0, hz1, hz2⟩ := info_parts Tryd.infoI5
  obtain ⟨a1, c1, a2, c2, rfl, rfl⟩ := h.form
  have A1 := Lib.hid (int_at h.1)
  have A2 := Lib.hid (int_at h.2)
  have HS := Lib.hid hs
  obtain ⟨N, hN⟩ : ∃ N, N = 2 * ls.length := ⟨_, rfl⟩
  have wN : IntKind.i64.wrap (2 * (ls.length : Int)) = (N : Int) := by rw [IntKind.wrap_i64]; omega
  have HN := Lib.hid hN
  have hN12 : N ≤ 12 := by omega
  have HI := Lib.hid (ilv_len ls ss)
  have HB0 : Hid (Below w.heap.size w w) := Lib.hid (Below.refl _ _)
  clear h hs hN
  go_enter Tryd.func31, Tryd.ntmps31
  go_wp2_with (at_make; refine wpList_make_full _ rfl _ _ 24 rfl (w.heap.size + 1) 3 i0 (.int .i64 0) 1 Tryd.underlying24 hi hz0 hz1 _ _ _ _ N rfl rfl rfl rfl ?b2 ?b3 (by simp) ?_)
  case b2 => rw [hz2]; omega
  case b3 => unfold maxLen; omega
  intro w2 hown0 hgrow0
  revert hown0 hgrow0
  have hb : Below w.heap.size w (w.alloc (.cells #[.slice a1 ls.length c1, .slice a2 ss.length c2] 26)) := (Below.refl _ _).alloc (Nat.le_refl _) _
  have hk : (w.alloc (.cells #[.slice a1 ls.length c1, .slice a2 ss.length c2] 26)).heap[w.heap.size]? = some (.cells #[.slice a1 ls.length c1, .slice a2 ss.length c2] 26 (0, 0)) := alloc_at rfl
  have hz : (w.alloc (.cells #[.slice a1 ls.length c1, .slice a2 ss.length c2] 26)).heap.size = w.heap.size + 1 := by simp
  generalize w.alloc (.cells #[.slice a1 ls.length c1, .slice a2 ss.length c2] 26) = w1 at hb hk hz ⊢
  have HB1 : Hid (Below w.heap.size w w1) := Lib.hid (HB0.out.trans (hb.mono HB0.out.size))
  have HZ1 : Hid (w.heap.size ≤ w1.heap.size) := Lib.hid hb.size
  have HKb1 := Lib.hid hk
  replace HZ1 : Hid (w.heap.size < w1.heap.size) := Lib.hid (by omega)
  have HE1 := Lib.hid hz
  clear hb hk hz
  intro hown0 hgrow0
  have ltb := lt_of_block HKb1.out
  obtain ⟨cb0, cb1, fb0, fb1⟩ := cell2 HKb1.out
  have hw1 : w.heap.size < w1.heap.size := ltb
  have HO0 := Lib.hid hown0
  have hb : Below w1.heap.size w1 w2 := (Below.refl _ _).grown hgrow0 (Nat.le_refl _) (fun k h => by cases h)
  clear hown0 hgrow0
  have HB2 : Hid (Below w.heap.size w w2) := Lib.hid (HB1.out.trans (hb.mono HB1.out.size))
  have HZ2 : Hid (w1.heap.size ≤ w2.heap.size) := Lib.hid hb.size
  have HKb2 := Lib.hid ((hb.block _ (lt_of_block HKb1.out)).trans HKb1.out)
  clear hb
  clear cb0 cb1 fb0 fb1 ltb
  have ltb := lt_of_block HKb2.out
  obtain ⟨cb0, cb1, fb0, fb1⟩ := cell2 HKb2.out
  go_wp2_with fail
  go_loopw [13] (fun i wr => ∃ (k : Nat) (xs : List Value), k ≤ ls.length ∧ i = .int .i64 k ∧ xs.length = N ∧ Hid (∀ (j : Nat) (h : j < (ilv ls ss).length), j < 2 * k → xs[j]? = some (.int .i64 (ilv ls ss)[j])) ∧ wr.ownsRow (w.heap.size + 1) 3 1 (.slice (some ⟨w.heap.size + 1, 0, none⟩) N N) N xs ∧ wr.heap[w.heap.size]? = some (.cells #[.slice a1 ls.length c1, .slice a2 ss.length c2] 26 (0, 0)) ∧ Below w.heap.size w wr) (fun i _ => ls.length - (intOf i).toNat)
  case atStart => exact ⟨0, _, Nat.zero_le _, rfl, by have := HO0.out.1; omega, Lib.hid (fun j _ h => by omega), HO0.out, HKb2.out, HB2.out⟩
  case round =>
    obtain ⟨k, xs, hk, rfl, hxl, HP, hown, hkb, hb⟩ := hrel
    have HX := Lib.hid hxl
    by_cases hlt : k < ls.length
    · have z1 : (0 : Int) ≤ (k : Int) := by omega
      have z2 : (k : Int) < (ls.length : Int) := by omega
      have hlt2 : k < ss.length := by have := HS.out; omega
      have z3 : (k : Int) < (ss.length : Int) := by omega
      obtain ⟨b1, o1, rfl, hl1, p0⟩ := A1.out _ hb k hlt
      obtain ⟨b2, o2, rfl, hl2, q0⟩ := A2.out _ hb k hlt2
      obtain ⟨p, hp⟩ : ∃ p, p = 2 * k := ⟨_, rfl⟩
      obtain ⟨q, hq⟩ : ∃ q, q = 2 * k + 1 := ⟨_, rfl⟩
      have hpN : p < N := by have := HN.out; omega
      have hqN : q < N := by have := HN.out; omega
      have y1 : (0 : Int) ≤ (p : Int) := by omega
      have y2 : (p : Int) < (N : Int) := by omega
      have y3 : (0 : Int) ≤ (q : Int) := by omega
      have y4 : (q : Int) < (N : Int) := by omega
      have HPp : Hid (p = if true then 2 * k else 2 * k + 1) := Lib.hid hp
      have HPq : Hid (q = if false then 2 * k else 2 * k + 1) := Lib.hid (by rw [if_neg (by simp)]; exact hq)
      have hip : p < (ilv ls ss).length := by have := HI.out; have := HN.out; omega
      have hiq : q < (ilv ls ss).length := by have := HI.out; have := HN.out; omega
      have HXP : Hid ((ilv ls ss)[p] = ls[k]) := Lib.hid (by subst hp; exact ilv_ev ls ss k hip hlt)
      have HXQ : Hid ((ilv ls ss)[q] = ss[k]) := Lib.hid (by subst hq; exact ilv_od ls ss k hiq hlt2)
      have HQA : Hid (∀ w', Below w.heap.size w w' → w'.cell? ⟨b2, o2 + k, none⟩ = some (.int .i64 ss[k])) := Lib.hid (fun w' hb' => by obtain ⟨b, o, e, _, c⟩ := A2.out _ hb' k hlt2; cases e; exact c)
      generalize hex : ls[k] = x at p0 HXP
      generalize hey : ss[k] = y at q0 HXQ HQA
      clear hex hey
      obtain ⟨up, hup⟩ : ∃ u, xs[p]? = some u := ⟨_, List.getElem?_eq_getElem (by omega)⟩
      obtain ⟨uq, huq⟩ : ∃ u, (xs.set p (.int .i64 x))[q]? = some u := ⟨_, List.getElem?_eq_getElem (by rw [List.length_set]; omega)⟩
      have HUp := Lib.hid hup
      have HUq := Lib.hid huq
      have HXS : Hid (∀ (j : Nat) (h : j < (ilv ls ss).length), j < 2 * (k + 1) → ((xs.set p (.int .i64 x)).set q (.int .i64 y))[j]? = some (.int .i64 (ilv ls ss)[j])) := Lib.hid (fun j hj hj2 => by
        by_cases e : j = q
        · subst e; rw [List.getElem?_set_self (by rw [List.length_set]; omega), HXQ.out]
        · rw [List.getElem?_set_ne (fun e' => e e'.symm)]
          by_cases e2 : j = p
          · subst e2; rw [List.getElem?_set_self (by omega), HXP.out]
          · rw [List.getElem?_set_ne (fun e' => e2 e'.symm)]; exact HP.out j hj (by omega))
      have HZX : Hid (((xs.set p (.int .i64 x)).set q (.int .i64 y)).length = N) := Lib.hid (by rw [List.length_set, List.length_set]; exact hxl)
      have hov : Ow (w.heap.size + 1) (w.heap.size + 1 + 1) wr 3 1 (.slice (some ⟨w.heap.size + 1, 0, none⟩) N N) N xs := ⟨hown, fun g hg => by cases hg; exact Nat.lt_succ_self _⟩
      clear hup huq hxl hp hq hown
      have HB20 : Hid (Below w.heap.size w wr) := Lib.hid hb
      have HKb20 := Lib.hid (hkb)
      have HOv20 := Lib.hid (hov)
      clear hkb hov hb
      have ltb := lt_of_block HKb20.out
      obtain ⟨cb0, cb1, fb0, fb1⟩ := cell2 HKb20.out
      go_wp2_with fail
      have d0 : wr.cell? ⟨w.heap.size + 1, p, none⟩ = some up := (HOv20.out.1.cellAt p (by omega)).trans HUp.out
      have f0 := HOv20.out.1.frozenAt p
      clear cb0 cb1 fb0 fb1 ltb
      have ltb := lt_of_block HKb20.out
      obtain ⟨cb0, cb1, fb0, fb1⟩ := cell2 HKb20.out
      refine wp_region_held_drew (S := (fun w' => w'.cell? ⟨w.heap.size, 0, none⟩ = some (.slice (some ⟨b1, o1, none⟩) ls.length c1) ∧ w'.cell? ⟨w.heap.size, 1, none⟩ = some (.slice (some ⟨b2, o2, none⟩) ss.length c2) ∧ w'.cell? ⟨b1, o1 + k, none⟩ = some (.int .i64 x))) (by kernel_rfl) (⟨cb0, cb1, p0⟩) (fun hHeld => ?_)
      have hb : Below wr.heap.size wr wr.drew := (Below.refl _ _).drew
      generalize wr.drew = w21 at hb hHeld ⊢
      clear d0 f0
      have HB21 : Hid (Below w.heap.size w w21) := Lib.hid (HB20.out.trans (hb.mono HB20.out.size))
      have HZ21 : Hid (wr.heap.size ≤ w21.heap.size) := Lib.hid hb.size
      have HKb21 := Lib.hid ((hb.block _ (lt_of_block HKb20.out)).trans HKb20.out)
      have HOv21 := Lib.hid (HOv20.out.next hb)
      clear hb
      clear cb0 cb1 fb0 fb1 ltb
      have ltb := lt_of_block HKb21.out
      obtain ⟨cb0, cb1, fb0, fb1⟩ := cell2 HKb21.out
      replace p0 := hHeld.2.2
      have d0 : w21.cell? ⟨w.heap.size + 1, p, none⟩ = some up := (HOv21.out.1.cellAt p (by omega)).trans HUp.out
      have f0 := HOv21.out.1.frozenAt p
      refine take1 (i := 0) (v := ?v1) (some 16) rfl rfl (by kernel_rfl) (by kernel_rfl) (by kernel_rfl) (fun _ _ _ h => h) (Or.inl ⟨by rfl, ?y1⟩) (by assumption) ?r1
      case y1 => (intro w hSw; (try dsimp only at hSw); go_simp; (first | done | with_reducible rfl))
      try simp only [Act.put, List.setIfInBounds_toArray, List.set_cons_zero, List.set_cons_succ]
      refine take1 (i := 1) (v := ?v2) (some 17) rfl rfl (by kernel_rfl) (by kernel_rfl) (by kernel_rfl) (fun _ _ _ h => h) (Or.inl ⟨by rfl, ?y2⟩) (by assumption) ?r2
      case y2 => (intro w hSw; (try dsimp only at hSw); go_simp; (first | done | with_reducible rfl))
      try simp only [Act.put, List.setIfInBounds_toArray, List.set_cons_zero, List.set_cons_succ]
      refine take1 (i := 3) (v := ?v3) (some 19) rfl rfl (by kernel_rfl) (by kernel_rfl) (by kernel_rfl) (fun _ _ _ h => h) (Or.inl ⟨by rfl, ?y3⟩) (by assumption) ?r3
      case y3 => (intro w hSw; (try dsimp only at hSw); go_simp; (first | done | with_reducible rfl))
      try simp only [Act.put, List.setIfInBounds_toArray, List.set_cons_zero, List.set_cons_succ]
      refine take1 (i := 4) (v := ?v4) (some 20) rfl rfl (by kernel_rfl) (by kernel_rfl) (by kernel_rfl) (fun _ _ _ h => h) (Or.inl ⟨by rfl, ?y4⟩) (by assumption) ?r4
      case y4 => (intro w hSw; (try dsimp only at hSw); go_simp; (first | done | with_reducible rfl))
      try simp only [Act.put, List.setIfInBounds_toArray, List.set_cons_zero, List.set_cons_succ]
      refine take1 (i := 5) (v := ?v5) (some 21) rfl rfl (by kernel_rfl) (by kernel_rfl) (by kernel_rfl) (fun _ _ _ h => h) (Or.inl ⟨by rfl, ?y5⟩) (by assumption) ?r5
      case y5 => (intro w hSw; (try dsimp only at hSw); go_simp; (first | done | with_reducible rfl))
      try simp only [Act.put, List.setIfInBounds_toArray, List.set_cons_zero, List.set_cons_succ]
      refine take1 (i := 6) (v := ?v6) (some 22) rfl rfl (by kernel_rfl) (by kernel_rfl) (by kernel_rfl) (fun _ _ _ h => h) (Or.inl ⟨by rfl, ?y6⟩) (by assumption) ?r6
      case y6 => (intro w hSw; (try dsimp only at hSw); go_simp; (first | done | with_reducible rfl))
      try simp only [Act.put, List.setIfInBounds_toArray, List.set_cons_zero, List.set_cons_succ]
      refine take1 (i := 7) (v := ?v7) (some 23) rfl rfl (by kernel_rfl) (by kernel_rfl) (by kernel_rfl) (fun _ _ _ h => h) (Or.inl ⟨by rfl, ?y7⟩) (by assumption) ?r7
      case y7 => (intro w hSw; (try dsimp only at hSw); go_simp; (first | done | with_reducible rfl))
      try simp only [Act.put, List.setIfInBounds_toArray, List.set_cons_zero, List.set_cons_succ]
      refine wpAnyH_ready (rs := [2]) (by kernel_rfl) (by simp) ?_
      refine AllReadyH.cons rfl (fun K hK => ?_) AllReadyH.nil
      go_simp
      go_at_call 42
      refine (placeAt_any true k p _ (by omega) HPp).mono ?_
      rintro e w' ⟨rfl, hw⟩
      subst w'
      try go_simp
      refine hK.out _ _ (⟨cb0, cb1, p0⟩) (fun hHeld => ?_)
      clear hK K
      try simp only [Act.put, List.setIfInBounds_toArray, List.set_cons_zero, List.set_cons_succ]
      refine take1 (i := 8) (v := ?v8) (some 24) rfl rfl (by kernel_rfl) (by kernel_rfl) (by kernel_rfl) (fun _ _ _ h => h) (Or.inl ⟨by rfl, ?y8⟩) (by assumption) ?r8
      case y8 => (intro w hSw; (try dsimp only at hSw); go_simp; (first | done | with_reducible rfl))
      try simp only [Act.put, List.setIfInBounds_toArray, List.set_cons_zero, List.set_cons_succ]
      refine wpAnyH_ready (rs := [9]) (by kernel_rfl) (by simp) ?_
      refine AllReadyH.cons rfl (fun K hK => ?_) AllReadyH.nil
      go_simp
      have hv := HOv21.out.stored p (.int .i64 x)
      have hm : Btw (w.heap.size + 1) (w.heap.size + 1 + 1) w21 (w21.setCell ⟨w.heap.size + 1, p, none⟩ (.int .i64 x)) := (Btw.refl (w.heap.size + 1) (w.heap.size + 1 + 1) w21).setCell (p := ⟨w.heap.size + 1, p, none⟩) (Nat.le_refl _) (Nat.lt_succ_self _) _
      have hel : (w21.setCell ⟨w.heap.size + 1, p, none⟩ (.int .i64 x)).cell? ⟨b1, o1 + k, none⟩ = some (.int .i64 x) := (hm.below.cell (p := ⟨b1, o1 + k, none⟩) (by show b1 < w.heap.size + 1; omega)).trans p0
      clear d0 f0
      generalize w21.setCell ⟨w.heap.size + 1, p, none⟩ (.int .i64 x) = w22 at hv hm hel ⊢
      have HZ22 : Hid (w21.heap.size ≤ w22.heap.size) := Lib.hid hm.size
      have HB22 : Hid (Below w.heap.size w w22) := Lib.hid (HB21.out.trans (hm.below.mono (by have := HZ21.out; have := HB20.out.size; omega)))
      have HKb22 := Lib.hid ((hm.block _ (by have := lt_of_block HKb21.out; have := HZ21.out; omega)).trans HKb21.out)
      clear hm
      have HOv22 := Lib.hid (hv)
      clear hv
      clear cb0 cb1 fb0 fb1 ltb
      have ltb := lt_of_block HKb22.out
      obtain ⟨cb0, cb1, fb0, fb1⟩ := cell2 HKb22.out
      refine hK.out _ _ (⟨cb0, cb1, hel⟩) (fun hHeld => ?_)
      clear hK K
      try simp only [Act.put]
      refine wpAnyH_done (by kernel_rfl) ?_ _
      clear hel
      go_wp2_with fail
      replace q0 := HQA.out _ HB22.out
      have d0 : w22.cell? ⟨w.heap.size + 1, q, none⟩ = some uq := (HOv22.out.1.cellAt q (by omega)).trans HUq.out
      have f0 := HOv22.out.1.frozenAt q
      clear cb0 cb1 fb0 fb1 ltb
      have ltb := lt_of_block HKb22.out
      obtain ⟨cb0, cb1, fb0, fb1⟩ := cell2 HKb22.out
      go_wp2_with fail
      refine wp_region_held_drew (S := (fun w' => w'.cell? ⟨w.heap.size, 0, none⟩ = some (.slice (some ⟨b1, o1, none⟩) ls.length c1) ∧ w'.cell? ⟨w.heap.size, 1, none⟩ = some (.slice (some ⟨b2, o2, none⟩) ss.length c2) ∧ w'.cell? ⟨b2, o2 + k, none⟩ = some (.int .i64 y))) (by kernel_rfl) (⟨cb0, cb1, q0⟩) (fun hHeld => ?_)
      have hb : Below w22.heap.size w22 w22.drew := (Below.refl _ _).drew
      generalize w22.drew = w23 at hb hHeld ⊢
      clear d0 f0
      have HB23 : Hid (Below w.heap.size w w23) := Lib.hid (HB22.out.trans (hb.mono HB22.out.size))
      have HZ23 : Hid (w22.heap.size ≤ w23.heap.size) := Lib.hid hb.size
      have HKb23 := Lib.hid ((hb.block _ (lt_of_block HKb22.out)).trans HKb22.out)
      have HOv23 := Lib.hid (HOv22.out.next hb)
      clear hb
      clear cb0 cb1 fb0 fb1 ltb
      have ltb := lt_of_block HKb23.out
      obtain ⟨cb0, cb1, fb0, fb1⟩ := cell2 HKb23.out
      replace q0 := hHeld.2.2
      have d0 : w23.cell? ⟨w.heap.size + 1, q, none⟩ = some uq := (HOv23.out.1.cellAt q (by omega)).trans HUq.out
      have f0 := HOv23.out.1.frozenAt q
      refine take1 (i := 0) (v := ?v9) (some 25) rfl rfl (by kernel_rfl) (by kernel_rfl) (by kernel_rfl) (fun _ _ _ h => h) (Or.inl ⟨by rfl, ?y9⟩) (by assumption) ?r9
      case y9 => (intro w hSw; (try dsimp only at hSw); go_simp; (first | done | with_reducible rfl))
      try simp only [Act.put, List.setIfInBounds_toArray, List.set_cons_zero, List.set_cons_succ]
      refine take1 (i := 1) (v := ?v10) (some 26) rfl rfl (by kernel_rfl) (by kernel_rfl) (by kernel_rfl) (fun _ _ _ h => h) (Or.inl ⟨by rfl, ?y10⟩) (by assumption) ?r10
      case y10 => (intro w hSw; (try dsimp only at hSw); go_simp; (first | done | with_reducible rfl))
      try simp only [Act.put, List.setIfInBounds_toArray, List.set_cons_zero, List.set_cons_succ]
      refine take1 (i := 3) (v := ?v11) (some 28) rfl rfl (by kernel_rfl) (by kernel_rfl) (by kernel_rfl) (fun _ _ _ h => h) (Or.inl ⟨by rfl, ?y11⟩) (by assumption) ?r11
      case y11 => (intro w hSw; (try dsimp only at hSw); go_simp; (first | done | with_reducible rfl))
      try simp only [Act.put, List.setIfInBounds_toArray, List.set_cons_zero, List.set_cons_succ]
      refine take1 (i := 4) (v := ?v12) (some 29) rfl rfl (by kernel_rfl) (by kernel_rfl) (by kernel_rfl) (fun _ _ _ h => h) (Or.inl ⟨by rfl, ?y12⟩) (by assumption) ?r12
      case y12 => (intro w hSw; (try dsimp only at hSw); go_simp; (first | done | with_reducible rfl))
      try simp only [Act.put, List.setIfInBounds_toArray, List.set_cons_zero, List.set_cons_succ]
      refine take1 (i := 5) (v := ?v13) (some 30) rfl rfl (by kernel_rfl) (by kernel_rfl) (by kernel_rfl) (fun _ _ _ h => h) (Or.inl ⟨by rfl, ?y13⟩) (by assumption) ?r13
      case y13 => (intro w hSw; (try dsimp only at hSw); go_simp; (first | done | with_reducible rfl))
      try simp only [Act.put, List.setIfInBounds_toArray, List.set_cons_zero, List.set_cons_succ]
      refine take1 (i := 6) (v := ?v14) (some 31) rfl rfl (by kernel_rfl) (by kernel_rfl) (by kernel_rfl) (fun _ _ _ h => h) (Or.inl ⟨by rfl, ?y14⟩) (by assumption) ?r14
      case y14 => (intro w hSw; (try dsimp only at hSw); go_simp; (first | done | with_reducible rfl))
      try simp only [Act.put, List.setIfInBounds_toArray, List.set_cons_zero, List.set_cons_succ]
      refine take1 (i := 7) (v := ?v15) (some 32) rfl rfl (by kernel_rfl) (by kernel_rfl) (by kernel_rfl) (fun _ _ _ h => h) (Or.inl ⟨by rfl, ?y15⟩) (by assumption) ?r15
      case y15 => (intro w hSw; (try dsimp only at hSw); go_simp; (first | done | with_reducible rfl))
      try simp only [Act.put, List.setIfInBounds_toArray, List.set_cons_zero, List.set_cons_succ]
      refine wpAnyH_ready (rs := [2]) (by kernel_rfl) (by simp) ?_
      refine AllReadyH.cons rfl (fun K hK => ?_) AllReadyH.nil
      go_simp
      go_at_call 42
      refine (placeAt_any false k q _ (by omega) HPq).mono ?_
      rintro e w' ⟨rfl, hw⟩
      subst w'
      try go_simp
      refine hK.out _ _ (⟨cb0, cb1, q0⟩) (fun hHeld => ?_)
      clear hK K
      try simp only [Act.put, List.setIfInBounds_toArray, List.set_cons_zero, List.set_cons_succ]
      refine take1 (i := 8) (v := ?v16) (some 33) rfl rfl (by kernel_rfl) (by kernel_rfl) (by kernel_rfl) (fun _ _ _ h => h) (Or.inl ⟨by rfl, ?y16⟩) (by assumption) ?r16
      case y16 => (intro w hSw; (try dsimp only at hSw); go_simp; (first | done | with_reducible rfl))
      try simp only [Act.put, List.setIfInBounds_toArray, List.set_cons_zero, List.set_cons_succ]
      refine wpAnyH_ready (rs := [9]) (by kernel_rfl) (by simp) ?_
      refine AllReadyH.cons rfl (fun K hK => ?_) AllReadyH.nil
      go_simp
      have hv := HOv23.out.stored q (.int .i64 y)
      have hm : Btw (w.heap.size + 1) (w.heap.size + 1 + 1) w23 (w23.setCell ⟨w.heap.size + 1, q, none⟩ (.int .i64 y)) := (Btw.refl (w.heap.size + 1) (w.heap.size + 1 + 1) w23).setCell (p := ⟨w.heap.size + 1, q, none⟩) (Nat.le_refl _) (Nat.lt_succ_self _) _
      have hel : (w23.setCell ⟨w.heap.size + 1, q, none⟩ (.int .i64 y)).cell? ⟨b2, o2 + k, none⟩ = some (.int .i64 y) := (hm.below.cell (p := ⟨b2, o2 + k, none⟩) (by show b2 < w.heap.size + 1; omega)).trans q0
      clear d0 f0
      generalize w23.setCell ⟨w.heap.size + 1, q, none⟩ (.int .i64 y) = w24 at hv hm hel ⊢
      have HZ24 : Hid (w23.heap.size ≤ w24.heap.size) := Lib.hid hm.size
      have HB24 : Hid (Below w.heap.size w w24) := Lib.hid (HB23.out.trans (hm.below.mono (by have := HZ21.out; have := HZ22.out; have := HZ23.out; have := HB20.out.size; omega)))
      have HKb24 := Lib.hid ((hm.block _ (by have := lt_of_block HKb23.out; have := HZ21.out; have := HZ22.out; have := HZ23.out; omega)).trans HKb23.out)
      clear hm
      have HOv24 := Lib.hid (hv)
      clear hv
      clear cb0 cb1 fb0 fb1 ltb
      have ltb := lt_of_block HKb24.out
      obtain ⟨cb0, cb1, fb0, fb1⟩ := cell2 HKb24.out
      refine hK.out _ _ (⟨cb0, cb1, hel⟩) (fun hHeld => ?_)
      clear hK K
      try simp only [Act.put]
      refine wpAnyH_done (by kernel_rfl) ?_ _
      clear hel
      go_wp2_with fail
      go_roundw
      case rel => exact ⟨k + 1, _, by omega, by go_num, HZX.out, HXS, HOv24.out.1, HKb24.out, HB24.out⟩
      case measure => simp [intOf]; omega
    · have HXS : Hid (xs = flatC inC (ilv ls ss)) := Lib.hid (flatC_of inC_len (by omega) xs (ilv ls ss) (by have := HI.out; have := HN.out; omega) (fun i h j hj => by
        have hj0 : j = 0 := by omega
        subst hj0
        rw [Nat.mul_one, Nat.add_zero]
        have := HI.out
        exact HP.out i h (by omega)))
      have hNe : N = (ilv ls ss).length := by have := HI.out; have := HN.out; omega
      have HO := Lib.hid (own_relen' hNe.symm hown)
      have HB := Lib.hid hb
      clear hown hb hkb hxl hNe
      go_wp2_with fail
      go_ret
      exact ⟨⟨_, rfl, own_mono (HXS.out ▸ HO.out) (by omega), fun g hg => (HO.out.lt g hg).2⟩, HB.out⟩
end Go.Proofs.YtbdddpchlmddbaaDoor
