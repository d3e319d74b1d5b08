/- The program's test of a plain board, its value, its counters. -/
import Derived.Test.YtbdddpchlmddbaaDoorJplc
import Derived.Test.YtbdddpchlmddbaaDoorIlvb
namespace Go.Proofs.YtbdddpchlmddbaaDoor
set_option linter.unusedVariables false
open Go.RowKit

theorem plB_ilv (ls ss : List Int) (hs : ss.length = ls.length) : plB ls ss ↔ ∀ p (h : p < (ilv ls ss).length), (ilv ls ss)[p] < mkP p := by
  have hl := ilv_len ls ss
  constructor
  · intro h p hp
    rcases ev_or p with ⟨k, rfl⟩ | ⟨k, rfl⟩
    · have h1 : k < ls.length := by omega
      rw [ilv_ev ls ss k hp h1, mkP_ev]; have := (h k h1 (by omega)).1; omega
    · have h1 : k < ss.length := by omega
      rw [ilv_od ls ss k hp h1, mkP_od]; have := (h k (by omega) h1).2; omega
  · intro h k h1 h2
    have e1 := h (2 * k) (by omega)
    have e2 := h (2 * k + 1) (by omega)
    rw [ilv_ev ls ss k _ h1, mkP_ev] at e1
    rw [ilv_od ls ss k _ h2, mkP_od] at e2
    omega
set_option maxRecDepth 100000 in
set_option maxHeartbeats 3200000 in
theorem implValue_yes (v1 v2 : Value) (ls ss : List Int) (w : World) (h : BrdR w v1 v2 ls ss) (hg : okB ls ss) :
    Calls Tryd.prog 9 #[.agg #[v1, v2]] w fun e w' => e = .returned (.tuple #[.int .i64 (valB ls ss), .bool true]) ∧ Below w.heap.size w w' := by
  obtain ⟨a1, c1, a2, c2, rfl, rfl⟩ := h.form
  have HG := Lib.hid hg
  have hn12 : (ilv ls ss).length ≤ 12 := by rw [ilv_len]; have := hg.1.2; omega
  have HV : Hid (hvP (ilv ls ss) (ilv ls ss).length = valB ls ss) := Lib.hid (by rw [ilv_len]; exact hvP_all ls ss hg.2.1)
  have HBD : Hid (∀ d, d ≤ (ilv ls ss).length → 0 ≤ hvP (ilv ls ss) d ∧ hvP (ilv ls ss) d ≤ 5000000000) := Lib.hid (fun d hd => hvP_bd hg d (by rw [← ilv_len ls ss]; exact hd))
  have HC : Hid (ctr (ilv ls ss)) := Lib.hid ((okB_ilv ls ss).1 hg).2
  have HB0 : Hid (Below w.heap.size w w) := Lib.hid (Below.refl _ _)
  have HRf0 := Lib.hid (h)
  clear h hg
  go_enter Tryd.func9, Tryd.ntmps9
  go_wp2_with fail
  have hb : Below w.heap.size w (w.alloc (.cells #[.slice a1 ls.length c1, .slice a2 ss.length c2] 26)) := (Below.refl _ _).alloc (Nat.le_refl _) _
  have hk : (w.alloc (.cells #[.slice a1 ls.length c1, .slice a2 ss.length c2] 26)).heap[w.heap.size]? = some (.cells #[.slice a1 ls.length c1, .slice a2 ss.length c2] 26 (0, 0)) := alloc_at rfl
  have hz : (w.alloc (.cells #[.slice a1 ls.length c1, .slice a2 ss.length c2] 26)).heap.size = w.heap.size + 1 := by simp
  generalize w.alloc (.cells #[.slice a1 ls.length c1, .slice a2 ss.length c2] 26) = w1 at hb hk hz ⊢
  have HB1 : Hid (Below w.heap.size w w1) := Lib.hid (HB0.out.trans (hb.mono HB0.out.size))
  have HZ1 : Hid (w.heap.size ≤ w1.heap.size) := Lib.hid hb.size
  have HRf1 := Lib.hid (HRf0.out.below HB1.out (Nat.le_refl _))
  have HKb1 := Lib.hid hk
  replace HZ1 : Hid (w.heap.size < w1.heap.size) := Lib.hid (by omega)
  have HE1 := Lib.hid hz
  clear hb hk hz
  have ltb := lt_of_block HKb1.out
  obtain ⟨cb0, cb1, fb0, fb1⟩ := cell2 HKb1.out
  refine (implIsBoard_any _ _ ls ss _ HRf1.out true ⟨fun _ => HG.out, fun _ => rfl⟩).mono ?_
  rintro e w2 ⟨rfl, hb⟩
  have HB2 : Hid (Below w.heap.size w w2) := Lib.hid (HB1.out.trans (hb.mono HB1.out.size))
  have HZ2 : Hid (w1.heap.size ≤ w2.heap.size) := Lib.hid hb.size
  have HRf2 := Lib.hid (HRf0.out.below HB2.out (Nat.le_refl _))
  have HKb2 := Lib.hid ((hb.block _ (lt_of_block HKb1.out)).trans HKb1.out)
  clear hb
  clear cb0 cb1 fb0 fb1 ltb
  have ltb := lt_of_block HKb2.out
  obtain ⟨cb0, cb1, fb0, fb1⟩ := cell2 HKb2.out
  go_wp2_with fail
  refine (placesOf_any _ _ ls ss _ HRf2.out HG.out.1.2 HG.out.2.1).mono ?_
  rintro e w3 ⟨⟨v', rfl, ho⟩, hb⟩
  have HB3 : Hid (Below w.heap.size w w3) := Lib.hid (HB2.out.trans (hb.mono HB2.out.size))
  have HZ3 : Hid (w2.heap.size ≤ w3.heap.size) := Lib.hid hb.size
  have HRf3 := Lib.hid (HRf0.out.below HB3.out (Nat.le_refl _))
  have HKb3 := Lib.hid ((hb.block _ (lt_of_block HKb2.out)).trans HKb2.out)
  clear hb
  generalize ilv ls ss = ps at HV HBD HC hn12 ho
  obtain ⟨pp, kk, rfl⟩ := own_form ho.1
  have A1 := Lib.hid (int_at (RowsR.of_own inC_len ho.1))
  clear ho
  have hsw3 : w.heap.size ≤ w3.heap.size := by have := HB3.out.size; omega
  clear cb0 cb1 fb0 fb1 ltb
  have ltb := lt_of_block HKb3.out
  obtain ⟨cb0, cb1, fb0, fb1⟩ := cell2 HKb3.out
  go_wp2_with fail
  go_loopw [4, 6] (fun s i wr => ∃ (k d : Nat) (ii S : Int), k + d = ps.length ∧ ii + 1 = (k : Int) ∧ i = .int .i64 ii ∧ s = .int .i64 S ∧ Hid (S = hvP ps d) ∧ (0 ≤ S ∧ S ≤ 5000000000) ∧ Below w3.heap.size w3 wr) (fun _ i _ => (intOf i + 1).toNat)
  case atStart => exact ⟨ps.length, 0, (ps.length : Int) - 1, 0, rfl, by omega, by go_num, rfl, Lib.hid rfl, by omega, Below.refl _ _⟩
  case round =>
    obtain ⟨k, d, ii, S, hk, hki, rfl, rfl, HS, ⟨s0, s1⟩, hb⟩ := hrel
    by_cases hk0 : 0 < k
    · obtain ⟨j, rfl⟩ : ∃ j, k = j + 1 := ⟨k - 1, by omega⟩
      obtain rfl : ii = (j : Int) := by omega
      have hlt : j < ps.length := by omega
      have z1 : (0 : Int) ≤ (j : Int) := by omega
      have z2 : (j : Int) < (ps.length : Int) := by omega
      obtain ⟨b1, o1, rfl, hl1, p0⟩ := A1.out _ hb j hlt
      have HN := Lib.hid (hvP_step ps d j (by omega) hlt)
      have HD := Lib.hid (HBD.out (d + 1) (by omega))
      have hxb := HC.out j hlt
      obtain ⟨m, hm⟩ : ∃ m, m = mkP j := ⟨_, rfl⟩
      have HM := Lib.hid hm
      have hm25 : m = 5 ∨ m = 2 := by rw [hm]; exact mkP_or j
      rw [← hm] at HN
      clear hm
      generalize ps[j] = x at p0 HN hxb
      obtain ⟨x0, x1⟩ := hxb
      obtain ⟨t, ht⟩ : ∃ t, m * S = t := ⟨_, rfl⟩
      have htb : 0 ≤ t ∧ t ≤ 25000000000 := by rcases hm25 with e | e <;> (subst e; omega)
      have w1' : IntKind.i64.wrap (m * S) = t := by rw [ht, IntKind.wrap_i64]; omega
      have w2' : IntKind.i64.wrap (t + x) = t + x := by rw [IntKind.wrap_i64]; omega
      have HT := Lib.hid ht
      have HB := Lib.hid hb
      clear hm25 ht hki hk0 hb
      go_wp2_with fail
      refine wp_region_held_drew (S := (fun w' => w'.cell? ⟨b1, o1 + j, none⟩ = some (.int .i64 x))) (by kernel_rfl) (p0) (fun hHeld => ?_)
      have hb : Below wr.heap.size wr wr.drew := (Below.refl _ _).drew
      have HB2 := Lib.hid (HB.out.trans (hb.mono HB.out.size))
      generalize wr.drew = w9 at hb hHeld HB2 ⊢
      replace p0 := hHeld
      clear hb
      refine take1 (i := 0) (v := ?v1) (some 19) rfl rfl (by kernel_rfl) (by kernel_rfl) (by kernel_rfl) (fun _ _ _ h => h) (Or.inl ⟨by rfl, ?y1⟩) (by assumption) ?r1
      case y1 => (intro w hSw; (try dsimp only at hSw); go_simp; (first | done | with_reducible rfl))
      try simp only [Act.put, List.setIfInBounds_toArray, List.set_cons_zero, List.set_cons_succ]
      refine take1 (i := 2) (v := ?v2) (some 21) rfl rfl (by kernel_rfl) (by kernel_rfl) (by kernel_rfl) (fun _ _ _ h => h) (Or.inl ⟨by rfl, ?y2⟩) (by assumption) ?r2
      case y2 => (intro w hSw; (try dsimp only at hSw); go_simp; (first | done | with_reducible rfl))
      try simp only [Act.put, List.setIfInBounds_toArray, List.set_cons_zero, List.set_cons_succ]
      refine take1 (i := 4) (v := ?v3) (some 23) rfl rfl (by kernel_rfl) (by kernel_rfl) (by kernel_rfl) (fun _ _ _ h => h) (Or.inl ⟨by rfl, ?y3⟩) (by assumption) ?r3
      case y3 => (intro w hSw; (try dsimp only at hSw); go_simp; (first | done | with_reducible rfl))
      try simp only [Act.put, List.setIfInBounds_toArray, List.set_cons_zero, List.set_cons_succ]
      refine take1 (i := 5) (v := ?v4) (some 24) rfl rfl (by kernel_rfl) (by kernel_rfl) (by kernel_rfl) (fun _ _ _ h => h) (Or.inl ⟨by rfl, ?y4⟩) (by assumption) ?r4
      case y4 => (intro w hSw; (try dsimp only at hSw); go_simp; (first | done | with_reducible rfl))
      try simp only [Act.put, List.setIfInBounds_toArray, List.set_cons_zero, List.set_cons_succ]
      refine take1 (i := 6) (v := ?v5) (some 25) rfl rfl (by kernel_rfl) (by kernel_rfl) (by kernel_rfl) (fun _ _ _ h => h) (Or.inl ⟨by rfl, ?y5⟩) (by assumption) ?r5
      case y5 => (intro w hSw; (try dsimp only at hSw); go_simp; (first | done | with_reducible rfl))
      try simp only [Act.put, List.setIfInBounds_toArray, List.set_cons_zero, List.set_cons_succ]
      refine take1 (i := 7) (v := ?v6) (some 26) rfl rfl (by kernel_rfl) (by kernel_rfl) (by kernel_rfl) (fun _ _ _ h => h) (Or.inl ⟨by rfl, ?y6⟩) (by assumption) ?r6
      case y6 => (intro w hSw; (try dsimp only at hSw); go_simp; (first | done | with_reducible rfl))
      try simp only [Act.put, List.setIfInBounds_toArray, List.set_cons_zero, List.set_cons_succ]
      refine wpAnyH_ready (rs := [1]) (by kernel_rfl) (by simp) ?_
      refine AllReadyH.cons rfl (fun K hK => ?_) AllReadyH.nil
      go_simp
      go_at_call 32
      refine (makeOne_any j m _ HM).mono ?_
      rintro e w' ⟨rfl, hw⟩
      subst w'
      try go_simp
      refine hK.out _ _ (p0) (fun hHeld => ?_)
      clear hK K
      try simp only [Act.put, List.setIfInBounds_toArray, List.set_cons_zero, List.set_cons_succ]
      refine take1 (i := 3) (v := ?v7) (some 22) rfl rfl (by kernel_rfl) (by kernel_rfl) (by kernel_rfl) (fun _ _ _ h => h) (Or.inl ⟨by rfl, ?y7⟩) (by assumption) ?r7
      case y7 => (intro w hSw; (try dsimp only at hSw); go_simp; (first | done | with_reducible rfl))
      try simp only [Act.put, List.setIfInBounds_toArray, List.set_cons_zero, List.set_cons_succ]
      refine take1 (i := 8) (v := ?v8) (some 27) rfl rfl (by kernel_rfl) (by kernel_rfl) (by kernel_rfl) (fun _ _ _ h => h) (Or.inl ⟨by rfl, ?y8⟩) (by assumption) ?r8
      case y8 => (intro w hSw; (try dsimp only at hSw); go_simp; (first | done | with_reducible rfl))
      try simp only [Act.put, List.setIfInBounds_toArray, List.set_cons_zero, List.set_cons_succ]
      refine take1 (i := 9) (v := ?v9) (some 4) rfl rfl (by kernel_rfl) (by kernel_rfl) (by kernel_rfl) (fun _ _ _ h => h) (Or.inl ⟨by rfl, ?y9⟩) (by assumption) ?r9
      case y9 => (intro w hSw; (try dsimp only at hSw); go_simp; (first | done | with_reducible rfl))
      try simp only [Act.put, List.setIfInBounds_toArray, List.set_cons_zero, List.set_cons_succ]
      refine wpAnyH_done (by kernel_rfl) ?_ _
      go_wp2_with fail
      go_roundw
      case rel =>
        have hv : t + x = hvP ps (d + 1) := by rw [HN.out, ← HS.out, HT.out]
        refine ⟨j, d + 1, (j : Int) - 1, t + x, by omega, by omega, by go_num, rfl, Lib.hid hv, ?_, HB2.out⟩
        rw [hv]; exact HD.out
      case measure => simp [intOf]
    · obtain rfl : k = 0 := by omega
      obtain rfl : d = ps.length := by omega
      obtain rfl : ii = -1 := by omega
      have HE : Hid (S = valB ls ss) := Lib.hid (by rw [HS.out, HV.out])
      have HB := Lib.hid (HB3.out.trans (hb.mono hsw3))
      clear hki hk0 hb
      go_wp2_with fail
      go_ret2
      exact ⟨ret_int2 HE.out, HB.out⟩
set_option maxRecDepth 100000 in
set_option maxHeartbeats 800000 in
theorem implValue_no (v1 v2 : Value) (ls ss : List Int) (w : World) (h : BrdR w v1 v2 ls ss) (hg : ¬ okB ls ss) :
    Calls Tryd.prog 9 #[.agg #[v1, v2]] w fun e w' => e = .returned (.tuple #[.int .i64 0, .bool false]) ∧ Below w.heap.size w w' := by
  have HG := Lib.hid hg
  obtain ⟨a1, c1, a2, c2, rfl, rfl⟩ := h.form
  have HB0 : Hid (Below w.heap.size w w) := Lib.hid (Below.refl _ _)
  have HRf0 := Lib.hid (h)
  clear h hg
  go_enter Tryd.func9, Tryd.ntmps9
  go_wp2_with fail
  have hb : Below w.heap.size w (w.alloc (.cells #[.slice a1 ls.length c1, .slice a2 ss.length c2] 26)) := (Below.refl _ _).alloc (Nat.le_refl _) _
  have hk : (w.alloc (.cells #[.slice a1 ls.length c1, .slice a2 ss.length c2] 26)).heap[w.heap.size]? = some (.cells #[.slice a1 ls.length c1, .slice a2 ss.length c2] 26 (0, 0)) := alloc_at rfl
  have hz : (w.alloc (.cells #[.slice a1 ls.length c1, .slice a2 ss.length c2] 26)).heap.size = w.heap.size + 1 := by simp
  generalize w.alloc (.cells #[.slice a1 ls.length c1, .slice a2 ss.length c2] 26) = w1 at hb hk hz ⊢
  have HB1 : Hid (Below w.heap.size w w1) := Lib.hid (HB0.out.trans (hb.mono HB0.out.size))
  have HZ1 : Hid (w.heap.size ≤ w1.heap.size) := Lib.hid hb.size
  have HRf1 := Lib.hid (HRf0.out.below HB1.out (Nat.le_refl _))
  have HKb1 := Lib.hid hk
  replace HZ1 : Hid (w.heap.size < w1.heap.size) := Lib.hid (by omega)
  have HE1 := Lib.hid hz
  clear hb hk hz
  have ltb := lt_of_block HKb1.out
  obtain ⟨cb0, cb1, fb0, fb1⟩ := cell2 HKb1.out
  refine (implIsBoard_any _ _ ls ss _ HRf1.out false ⟨fun e => by simp at e, fun e => absurd e HG.out⟩).mono ?_
  rintro e w2 ⟨rfl, hb⟩
  have HB2 : Hid (Below w.heap.size w w2) := Lib.hid (HB1.out.trans (hb.mono HB1.out.size))
  have HZ2 : Hid (w1.heap.size ≤ w2.heap.size) := Lib.hid hb.size
  have HRf2 := Lib.hid (HRf0.out.below HB2.out (Nat.le_refl _))
  have HKb2 := Lib.hid ((hb.block _ (lt_of_block HKb1.out)).trans HKb1.out)
  clear hb
  clear cb0 cb1 fb0 fb1 ltb
  have ltb := lt_of_block HKb2.out
  obtain ⟨cb0, cb1, fb0, fb1⟩ := cell2 HKb2.out
  go_wp2_with fail
  go_ret2
  exact ⟨rfl, HB2.out⟩
set_option maxRecDepth 100000 in
set_option maxHeartbeats 1600000 in
theorem implCounters_yes (v1 v2 : Value) (ls ss : List Int) (w : World) (h : BrdR w v1 v2 ls ss) (hg : okB ls ss) :
    Calls Tryd.prog 17 #[.agg #[v1, v2]] w fun e w' => e = .returned (.tuple #[.int .i64 (cntB ls ss ls.length), .bool true]) ∧ Below w.heap.size w w' := by
  obtain ⟨a1, c1, a2, c2, rfl, rfl⟩ := h.form
  have HG := Lib.hid hg
  have hn12 : (ilv ls ss).length ≤ 12 := by rw [ilv_len]; have := hg.1.2; omega
  have HV : Hid (smP (ilv ls ss) (ilv ls ss).length = cntB ls ss ls.length) := Lib.hid (by rw [ilv_len]; exact smP_cnt ls ss hg.2.1 _ (Nat.le_refl _))
  have HC : Hid (ctr (ilv ls ss)) := Lib.hid ((okB_ilv ls ss).1 hg).2
  have HB0 : Hid (Below w.heap.size w w) := Lib.hid (Below.refl _ _)
  have HRf0 := Lib.hid (h)
  clear h hg
  go_enter Tryd.func17, Tryd.ntmps17
  go_wp2_with fail
  have hb : Below w.heap.size w (w.alloc (.cells #[.slice a1 ls.length c1, .slice a2 ss.length c2] 26)) := (Below.refl _ _).alloc (Nat.le_refl _) _
  have hk : (w.alloc (.cells #[.slice a1 ls.length c1, .slice a2 ss.length c2] 26)).heap[w.heap.size]? = some (.cells #[.slice a1 ls.length c1, .slice a2 ss.length c2] 26 (0, 0)) := alloc_at rfl
  have hz : (w.alloc (.cells #[.slice a1 ls.length c1, .slice a2 ss.length c2] 26)).heap.size = w.heap.size + 1 := by simp
  generalize w.alloc (.cells #[.slice a1 ls.length c1, .slice a2 ss.length c2] 26) = w1 at hb hk hz ⊢
  have HB1 : Hid (Below w.heap.size w w1) := Lib.hid (HB0.out.trans (hb.mono HB0.out.size))
  have HZ1 : Hid (w.heap.size ≤ w1.heap.size) := Lib.hid hb.size
  have HRf1 := Lib.hid (HRf0.out.below HB1.out (Nat.le_refl _))
  have HKb1 := Lib.hid hk
  replace HZ1 : Hid (w.heap.size < w1.heap.size) := Lib.hid (by omega)
  have HE1 := Lib.hid hz
  clear hb hk hz
  have ltb := lt_of_block HKb1.out
  obtain ⟨cb0, cb1, fb0, fb1⟩ := cell2 HKb1.out
  refine (implIsBoard_any _ _ ls ss _ HRf1.out true ⟨fun _ => HG.out, fun _ => rfl⟩).mono ?_
  rintro e w2 ⟨rfl, hb⟩
  have HB2 : Hid (Below w.heap.size w w2) := Lib.hid (HB1.out.trans (hb.mono HB1.out.size))
  have HZ2 : Hid (w1.heap.size ≤ w2.heap.size) := Lib.hid hb.size
  have HRf2 := Lib.hid (HRf0.out.below HB2.out (Nat.le_refl _))
  have HKb2 := Lib.hid ((hb.block _ (lt_of_block HKb1.out)).trans HKb1.out)
  clear hb
  clear cb0 cb1 fb0 fb1 ltb
  have ltb := lt_of_block HKb2.out
  obtain ⟨cb0, cb1, fb0, fb1⟩ := cell2 HKb2.out
  go_wp2_with fail
  refine (placesOf_any _ _ ls ss _ HRf2.out HG.out.1.2 HG.out.2.1).mono ?_
  rintro e w3 ⟨⟨v', rfl, ho⟩, hb⟩
  have HB3 : Hid (Below w.heap.size w w3) := Lib.hid (HB2.out.trans (hb.mono HB2.out.size))
  have HZ3 : Hid (w2.heap.size ≤ w3.heap.size) := Lib.hid hb.size
  have HRf3 := Lib.hid (HRf0.out.below HB3.out (Nat.le_refl _))
  have HKb3 := Lib.hid ((hb.block _ (lt_of_block HKb2.out)).trans HKb2.out)
  clear hb
  generalize ilv ls ss = ps at HV HC hn12 ho
  obtain ⟨pp, kk, rfl⟩ := own_form ho.1
  have A1 := Lib.hid (int_at (RowsR.of_own inC_len ho.1))
  have HB := Lib.hid HB3.out
  clear ho
  clear cb0 cb1 fb0 fb1 ltb
  have ltb := lt_of_block HKb3.out
  obtain ⟨cb0, cb1, fb0, fb1⟩ := cell2 HKb3.out
  go_wp2_with fail
  go_loopw [4, 13] (fun s i wr => ∃ (k : Nat) (S : Int), k ≤ ps.length ∧ i = .int .i64 k ∧ s = .int .i64 S ∧ Hid (S = smP ps k) ∧ (0 ≤ S ∧ S ≤ 30 * (k : Int)) ∧ w3 = wr) (fun _ i _ => ps.length - (intOf i).toNat)
  case atStart => exact ⟨0, 0, Nat.zero_le _, rfl, rfl, Lib.hid rfl, by omega, rfl⟩
  case round =>
    obtain ⟨k, S, hk, rfl, rfl, HS, ⟨s0, s1⟩, rfl⟩ := hrel
    by_cases hlt : k < ps.length
    · have z1 : (0 : Int) ≤ (k : Int) := by omega
      have z2 : (k : Int) < (ps.length : Int) := by omega
      obtain ⟨b1, o1, rfl, _, p0⟩ := A1.out _ (Below.refl _ _) k hlt
      have HN := Lib.hid (smP_step ps k hlt)
      obtain ⟨x0, x1⟩ := HC.out k hlt
      generalize ps[k] = x at p0 HN x0 x1
      have w2' : IntKind.i64.wrap (S + x) = S + x := by rw [IntKind.wrap_i64]; omega
      go_wp2_with fail
      go_roundw
      case rel => exact ⟨k + 1, S + x, by omega, by go_num, rfl, Lib.hid (by rw [HN.out, HS.out]), by omega, by first | trivial | rfl⟩
      case measure => simp [intOf]; omega
    · obtain rfl : k = ps.length := by omega
      have HE : Hid (S = cntB ls ss ls.length) := Lib.hid (by rw [HS.out, HV.out])
      go_wp2_with fail
      go_ret2
      exact ⟨ret_int2 HE.out, HB.out⟩
set_option maxRecDepth 100000 in
set_option maxHeartbeats 800000 in
theorem implCounters_no (v1 v2 : Value) (ls ss : List Int) (w : World) (h : BrdR w v1 v2 ls ss) (hg : ¬ okB ls ss) :
    Calls Tryd.prog 17 #[.agg #[v1, v2]] w fun e w' => e = .returned (.tuple #[.int .i64 0, .bool false]) ∧ Below w.heap.size w w' := by
  have HG := Lib.hid hg
  obtain ⟨a1, c1, a2, c2, rfl, rfl⟩ := h.form
  have HB0 : Hid (Below w.heap.size w w) := Lib.hid (Below.refl _ _)
  have HRf0 := Lib.hid (h)
  clear h hg
  go_enter Tryd.func17, Tryd.ntmps17
  go_wp2_with fail
  have hb : Below w.heap.size w (w.alloc (.cells #[.slice a1 ls.length c1, .slice a2 ss.length c2] 26)) := (Below.refl _ _).alloc (Nat.le_refl _) _
  have hk : (w.alloc (.cells #[.slice a1 ls.length c1, .slice a2 ss.length c2] 26)).heap[w.heap.size]? = some (.cells #[.slice a1 ls.length c1, .slice a2 ss.length c2] 26 (0, 0)) := alloc_at rfl
  have hz : (w.alloc (.cells #[.slice a1 ls.length c1, .slice a2 ss.length c2] 26)).heap.size = w.heap.size + 1 := by simp
  generalize w.alloc (.cells #[.slice a1 ls.length c1, .slice a2 ss.length c2] 26) = w1 at hb hk hz ⊢
  have HB1 : Hid (Below w.heap.size w w1) := Lib.hid (HB0.out.trans (hb.mono HB0.out.size))
  have HZ1 : Hid (w.heap.size ≤ w1.heap.size) := Lib.hid hb.size
  have HRf1 := Lib.hid (HRf0.out.below HB1.out (Nat.le_refl _))
  have HKb1 := Lib.hid hk
  replace HZ1 : Hid (w.heap.size < w1.heap.size) := Lib.hid (by omega)
  have HE1 := Lib.hid hz
  clear hb hk hz
  have ltb := lt_of_block HKb1.out
  obtain ⟨cb0, cb1, fb0, fb1⟩ := cell2 HKb1.out
  refine (implIsBoard_any _ _ ls ss _ HRf1.out false ⟨fun e => by simp at e, fun e => absurd e HG.out⟩).mono ?_
  rintro e w2 ⟨rfl, hb⟩
  have HB2 : Hid (Below w.heap.size w w2) := Lib.hid (HB1.out.trans (hb.mono HB1.out.size))
  have HZ2 : Hid (w1.heap.size ≤ w2.heap.size) := Lib.hid hb.size
  have HRf2 := Lib.hid (HRf0.out.below HB2.out (Nat.le_refl _))
  have HKb2 := Lib.hid ((hb.block _ (lt_of_block HKb1.out)).trans HKb1.out)
  clear hb
  clear cb0 cb1 fb0 fb1 ltb
  have ltb := lt_of_block HKb2.out
  obtain ⟨cb0, cb1, fb0, fb1⟩ := cell2 HKb2.out
  go_wp2_with fail
  go_ret2
  exact ⟨rfl, HB2.out⟩
end Go.Proofs.YtbdddpchlmddbaaDoor
