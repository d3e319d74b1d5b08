/- The program's PlainBoard. -/
import Derived.Test.YtbdddpchlmddbaaJwith
import Derived.Test.YtbdddpchlmddbaaIlvp
namespace Go.Proofs.Ytbdddpchlmddbaa
set_option linter.unusedVariables false
open Go.RowKit

set_option maxRecDepth 100000 in
set_option maxHeartbeats 6400000 in
theorem implPlainB_yes (v1 v2 : Value) (ls ss : List Int) (w : World) (h : BrdR w v1 v2 ls ss) (hg : okB ls ss) (qs qt : List Int) (r0 : Int) (r : Bool)
    (hk : ((∀ p, p < (ilv ls ss).length → pbG (ilv ls ss) p) ∧ qs = evs (pbS (ilv ls ss) (ilv ls ss).length).1 ∧ qt = ods (pbS (ilv ls ss) (ilv ls ss).length).1 ∧ r0 = (pbS (ilv ls ss) (ilv ls ss).length).2 ∧ r = true) ∨ (¬ (∀ p, p < (ilv ls ss).length → pbG (ilv ls ss) p) ∧ qs = [] ∧ qt = [] ∧ r0 = 0 ∧ r = false)) :
    Calls Try.prog 6 #[.agg #[v1, v2]] w fun e w' => (∃ s1 t1, e = .returned (.tuple #[.agg #[s1, t1], .int .i64 r0, .bool r]) ∧ OwB w.heap.size w'.heap.size w' s1 t1 qs qt) ∧ Below w.heap.size w w' := by
  obtain ⟨a1, c1, a2, c2, rfl, rfl⟩ := h.form
  have HG := Lib.hid hg
  have HPA := Lib.hid (fun v1 v2 w (h : BrdR w v1 v2 ls ss) => placesOf_any v1 v2 ls ss w h hg.1.2 hg.2.1)
  have HL1 : Hid ((ilv ls ss).length = 2 * ls.length) := Lib.hid (ilv_len ls ss)
  have HC1 : Hid (ctr (ilv ls ss)) := Lib.hid ((okB_ilv ls ss).1 hg).2
  have hn12 : (ilv ls ss).length ≤ 12 := by rw [ilv_len]; have := hg.1.2; omega
  have hl6 : ls.length ≤ 6 := hg.1.2
  generalize ilv ls ss = ps at hk HPA HL1 HC1 hn12
  have HK := Lib.hid hk
  have HB0 : Hid (Below w.heap.size w w) := Lib.hid (Below.refl _ _)
  have HRf0 := Lib.hid (h)
  clear h hg hk
  go_enter Try.func6, Try.ntmps6
  go_wp2_with fail
  have hb : Below w.heap.size w (w.alloc (.cells #[.slice a1 ls.length c1, .slice a2 ss.length c2] 26)) := (Below.refl _ _).alloc (Nat.le_refl _) _
  have hk : (w.alloc (.cells #[.slice a1 ls.length c1, .slice a2 ss.length c2] 26)).heap[w.heap.size]? = some (.cells #[.slice a1 ls.length c1, .slice a2 ss.length c2] 26 (0, 0)) := alloc_at rfl
  have hz : (w.alloc (.cells #[.slice a1 ls.length c1, .slice a2 ss.length c2] 26)).heap.size = w.heap.size + 1 := by simp
  generalize w.alloc (.cells #[.slice a1 ls.length c1, .slice a2 ss.length c2] 26) = w1 at hb hk hz ⊢
  have HB1 : Hid (Below w.heap.size w w1) := Lib.hid (HB0.out.trans (hb.mono HB0.out.size))
  have HZ1 : Hid (w.heap.size ≤ w1.heap.size) := Lib.hid hb.size
  have HRf1 := Lib.hid (HRf0.out.below HB1.out (Nat.le_refl _))
  have HKb1 := Lib.hid hk
  replace HZ1 : Hid (w.heap.size < w1.heap.size) := Lib.hid (by omega)
  have HE1 := Lib.hid hz
  clear hb hk hz
  have hb : Below w1.heap.size w1 (w1.alloc (.cells #[.slice none 0 0, .slice none 0 0] 26)) := (Below.refl _ _).alloc (Nat.le_refl _) _
  have hk : (w1.alloc (.cells #[.slice none 0 0, .slice none 0 0] 26)).heap[w.heap.size + 1]? = some (.cells #[.slice none 0 0, .slice none 0 0] 26 (0, 0)) := alloc_at (by have := HE1.out; omega)
  have hz : (w1.alloc (.cells #[.slice none 0 0, .slice none 0 0] 26)).heap.size = w1.heap.size + 1 := by simp
  generalize w1.alloc (.cells #[.slice none 0 0, .slice none 0 0] 26) = w2 at hb hk hz ⊢
  have HB2 : Hid (Below w.heap.size w w2) := Lib.hid (HB1.out.trans (hb.mono HB1.out.size))
  have HZ2 : Hid (w1.heap.size ≤ w2.heap.size) := Lib.hid hb.size
  have HRf2 := Lib.hid (HRf0.out.below HB2.out (Nat.le_refl _))
  have HKb2 := Lib.hid ((hb.block _ (lt_of_block HKb1.out)).trans HKb1.out)
  have HKz2 := Lib.hid hk
  replace HZ2 : Hid (w1.heap.size < w2.heap.size) := Lib.hid (by omega)
  have HE2 := Lib.hid hz
  clear hb hk hz
  have ltb := lt_of_block HKb2.out
  obtain ⟨cb0, cb1, fb0, fb1⟩ := cell2 HKb2.out
  have ltz := lt_of_block HKz2.out
  obtain ⟨cz0, cz1, fz0, fz1⟩ := cell2 HKz2.out
  have hlz2 : w.heap.size + 1 < w2.heap.size := ltz
  refine (implIsBoard_any _ _ ls ss _ HRf2.out true ⟨fun _ => HG.out, fun _ => rfl⟩).mono ?_
  rintro e w3 ⟨rfl, hb⟩
  have HB3 : Hid (Below w.heap.size w w3) := Lib.hid (HB2.out.trans (hb.mono HB2.out.size))
  have HZ3 : Hid (w2.heap.size ≤ w3.heap.size) := Lib.hid hb.size
  have HRf3 := Lib.hid (HRf0.out.below HB3.out (Nat.le_refl _))
  have HKb3 := Lib.hid ((hb.block _ (lt_of_block HKb2.out)).trans HKb2.out)
  have HKz3 := Lib.hid ((hb.block _ (lt_of_block HKz2.out)).trans HKz2.out)
  clear hb
  clear cb0 cb1 fb0 fb1 ltb cz0 cz1 fz0 fz1 ltz
  have ltb := lt_of_block HKb3.out
  obtain ⟨cb0, cb1, fb0, fb1⟩ := cell2 HKb3.out
  have ltz := lt_of_block HKz3.out
  obtain ⟨cz0, cz1, fz0, fz1⟩ := cell2 HKz3.out
  go_wp2_with fail
  have hlz3 : w.heap.size + 1 < w3.heap.size := by have := HZ3.out; omega
  refine (HPA.out _ _ _ HRf3.out).mono ?_
  rintro e w4 ⟨⟨v', rfl, ho⟩, hb⟩
  have HB4 : Hid (Below w.heap.size w w4) := Lib.hid (HB3.out.trans (hb.mono HB3.out.size))
  have HZ4 : Hid (w3.heap.size ≤ w4.heap.size) := Lib.hid hb.size
  have HRf4 := Lib.hid (HRf0.out.below HB4.out (Nat.le_refl _))
  have HKb4 := Lib.hid ((hb.block _ (lt_of_block HKb3.out)).trans HKb3.out)
  have HKz4 := Lib.hid ((hb.block _ (lt_of_block HKz3.out)).trans HKz3.out)
  clear hb
  obtain ⟨g, cap, rfl⟩ := own_some ho.1 (by have := HL1.out; have := HG.out.1.1; omega)
  have h34 : w3.heap.size ≤ w4.heap.size := by have := HZ4.out; omega
  have HOv4 := Lib.hid (ho)
  clear ho
  clear cb0 cb1 fb0 fb1 ltb cz0 cz1 fz0 fz1 ltz
  have ltb := lt_of_block HKb4.out
  obtain ⟨cb0, cb1, fb0, fb1⟩ := cell2 HKb4.out
  have ltz := lt_of_block HKz4.out
  obtain ⟨cz0, cz1, fz0, fz1⟩ := cell2 HKz4.out
  go_wp2_with fail
  go_loopw [5, 17] (fun nv iv wr => ∃ (k : Nat) (cs : List Int) (n : Int), k ≤ ps.length ∧ iv = .int .i64 k ∧ nv = .int .i64 n ∧ Hid (pbS ps k = (cs, n)) ∧ Hid (∀ j, j < k → pbG ps j) ∧ cs.length = ps.length ∧ Ow w3.heap.size w4.heap.size wr 3 1 (.slice (some ⟨g, 0, none⟩) ps.length cap) ps.length (flatC inC cs) ∧ wr.heap[w.heap.size + 1]? = some (.cells #[.slice none 0 0, .slice none 0 0] 26 (0, 0)) ∧ Below w.heap.size w wr ∧ w4.heap.size ≤ wr.heap.size) (fun _ i _ => ps.length - (intOf i).toNat)
  case atStart => exact ⟨0, ps, 0, Nat.zero_le _, rfl, rfl, Lib.hid rfl, Lib.hid (fun j hj => by omega), rfl, HOv4.out, HKz4.out, HB4.out, Nat.le_refl _⟩
  case round =>
    obtain ⟨k, cs, n, hk, rfl, rfl, HPB, HPG, hcl, hov, hkz, hb, hsz⟩ := hrel
    have HCL := Lib.hid hcl
    have HSZ := Lib.hid hsz
    have hbd := pbS_ctr ps HC1.out k HPG.out
    rw [HPB.out] at hbd
    have HCC : Hid (ctr cs) := Lib.hid hbd.1
    have hnb : 0 ≤ n ∧ n ≤ 15 * (k : Int) := hbd.2
    obtain ⟨n0, n1⟩ := hnb
    clear hbd
    by_cases hlt : k < ps.length
    · have z1 : (0 : Int) ≤ (k : Int) := by omega
      have z2 : (k : Int) < (ps.length : Int) := by omega
      have hlc : k < cs.length := by omega
      obtain ⟨x, hx⟩ : ∃ x, cs[k] = x := ⟨_, rfl⟩
      have hxb := HCC.out k hlc
      rw [hx] at hxb
      obtain ⟨x0, x1⟩ := hxb
      have HX := Lib.hid hx
      clear hx hcl hsz
      have HB20 : Hid (Below w.heap.size w wr) := Lib.hid hb
      have HRf20 := Lib.hid (HRf0.out.below HB20.out (Nat.le_refl _))
      have HKz20 := Lib.hid (hkz)
      have HOv20 := Lib.hid (hov)
      clear hkz hov hb
      rcases mkP_or k with e5 | e5
      · skip
        have HM : Hid ((5 : Int) = mkP k) := Lib.hid e5.symm
        clear e5
        obtain ⟨t, ht⟩ : ∃ t, IntKind.i64.wrap (x.tdiv 5) = t := ⟨_, rfl⟩
        have HT : Hid (t = cs.getD k 0 / mkP k) := Lib.hid (by rw [← ht, Int.tdiv_eq_ediv_of_nonneg x0, getDi_at cs k hlc, HX.out, ← HM.out, IntKind.wrap_i64]; omega)
        have ht30 : 0 ≤ t ∧ t ≤ 30 := by rw [← ht, Int.tdiv_eq_ediv_of_nonneg x0, IntKind.wrap_i64]; omega
        obtain ⟨t0, t1⟩ := ht30
        have w1' : IntKind.i64.wrap (n + t) = n + t := by rw [IntKind.wrap_i64]; omega
        have HNX : Hid (pbS ps (k + 1) = (cyP k t cs, n + t)) := Lib.hid (by show (cyP k ((pbS ps k).1.getD k 0 / mkP k) (pbS ps k).1, (pbS ps k).2 + (pbS ps k).1.getD k 0 / mkP k) = _; rw [HPB.out, ← HT.out])
        have d0 : wr.cell? ⟨g, k, none⟩ = some (.int .i64 x) := (HOv20.out.1.cellAt k (by omega)).trans (by rw [flat_iat cs k hlc, HX.out])
        have ltz := lt_of_block HKz20.out
        obtain ⟨cz0, cz1, fz0, fz1⟩ := cell2 HKz20.out
        go_wp2_with fail
        refine wp_region_held_drew (S := (fun w' => w'.cell? ⟨g, k, none⟩ = some (.int .i64 x))) (by kernel_rfl) (d0) (fun hHeld => ?_)
        have hb : Below wr.heap.size wr wr.drew := (Below.refl _ _).drew
        generalize wr.drew = w21 at hb hHeld ⊢
        clear d0
        have HB21 : Hid (Below w.heap.size w w21) := Lib.hid (HB20.out.trans (hb.mono HB20.out.size))
        have HZ21 : Hid (wr.heap.size ≤ w21.heap.size) := Lib.hid hb.size
        have HRf21 := Lib.hid (HRf0.out.below HB21.out (Nat.le_refl _))
        have HKz21 := Lib.hid ((hb.block _ (lt_of_block HKz20.out)).trans HKz20.out)
        have HOv21 := Lib.hid (HOv20.out.next hb)
        clear hb
        have d0 := hHeld
        refine take1 (i := 0) (v := ?v1) (some 20) rfl rfl (by kernel_rfl) (by kernel_rfl) (by kernel_rfl) (fun _ _ _ h => h) (Or.inl ⟨by rfl, ?y1⟩) (by assumption) ?r1
        case y1 => (intro w hSw; (try dsimp only at hSw); go_simp; (first | done | with_reducible rfl))
        try simp only [Act.put, List.setIfInBounds_toArray, List.set_cons_zero, List.set_cons_succ]
        refine take1 (i := 1) (v := ?v2) (some 21) rfl rfl (by kernel_rfl) (by kernel_rfl) (by kernel_rfl) (fun _ _ _ h => h) (Or.inl ⟨by rfl, ?y2⟩) (by assumption) ?r2
        case y2 => (intro w hSw; (try dsimp only at hSw); go_simp; (first | done | with_reducible rfl))
        try simp only [Act.put, List.setIfInBounds_toArray, List.set_cons_zero, List.set_cons_succ]
        refine take1 (i := 2) (v := ?v3) (some 22) rfl rfl (by kernel_rfl) (by kernel_rfl) (by kernel_rfl) (fun _ _ _ h => h) (Or.inl ⟨by rfl, ?y3⟩) (by assumption) ?r3
        case y3 => (intro w hSw; (try dsimp only at hSw); go_simp; (first | done | with_reducible rfl))
        try simp only [Act.put, List.setIfInBounds_toArray, List.set_cons_zero, List.set_cons_succ]
        refine take1 (i := 3) (v := ?v4) (some 23) rfl rfl (by kernel_rfl) (by kernel_rfl) (by kernel_rfl) (fun _ _ _ h => h) (Or.inl ⟨by rfl, ?y4⟩) (by assumption) ?r4
        case y4 => (intro w hSw; (try dsimp only at hSw); go_simp; (first | done | with_reducible rfl))
        try simp only [Act.put, List.setIfInBounds_toArray, List.set_cons_zero, List.set_cons_succ]
        refine take1 (i := 4) (v := ?v5) (some 24) rfl rfl (by kernel_rfl) (by kernel_rfl) (by kernel_rfl) (fun _ _ _ h => h) (Or.inl ⟨by rfl, ?y5⟩) (by assumption) ?r5
        case y5 => (intro w hSw; (try dsimp only at hSw); go_simp; (first | done | with_reducible rfl))
        try simp only [Act.put, List.setIfInBounds_toArray, List.set_cons_zero, List.set_cons_succ]
        refine wpAnyH_ready (rs := [5]) (by kernel_rfl) (by simp) ?_
        refine AllReadyH.cons rfl (fun K hK => ?_) AllReadyH.nil
        go_simp
        go_at_call 24
        refine (makeOne_any k 5 _ HM).mono ?_
        rintro e w' ⟨rfl, hw⟩
        subst w'
        try go_simp
        refine hK.out _ _ (d0) (fun hHeld => ?_)
        clear hK K
        try simp only [Act.put, List.setIfInBounds_toArray, List.set_cons_zero, List.set_cons_succ]
        refine take1 (i := 6) (v := ?v6) (some 26) rfl rfl (by kernel_rfl) (by kernel_rfl) (by kernel_rfl) (fun _ _ _ h => h) (Or.inl ⟨by rfl, ?y6⟩) (by assumption) ?r6
        case y6 => (intro w hSw; (try dsimp only at hSw); go_simp; (first | done | with_reducible rfl))
        try simp only [Act.put, List.setIfInBounds_toArray, List.set_cons_zero, List.set_cons_succ]
        refine take1 (i := 7) (v := ?v7) (some 8) rfl rfl (by kernel_rfl) (by kernel_rfl) (by kernel_rfl) (fun _ _ _ h => h) (Or.inl ⟨by rfl, ?y7⟩) (by assumption) ?r7
        case y7 => (intro w hSw; (try dsimp only at hSw); go_simp; (first | done | with_reducible rfl))
        try simp only [Act.put, List.setIfInBounds_toArray, List.set_cons_zero, List.set_cons_succ]
        refine wpAnyH_done (by kernel_rfl) ?_ _
        clear d0 hHeld
        by_cases htp : 0 < t
        · have HTP := Lib.hid htp
          go_wp2_with fail
          by_cases hk1 : k + 1 < ps.length
          · obtain ⟨rc, hrc⟩ : ∃ rc : Bool, rc = true ↔ ctr (cyP k t cs) := by
              by_cases hh : ctr (cyP k t cs)
              · exact ⟨true, fun _ => hh, fun _ => rfl⟩
              · exact ⟨false, fun e => (by simp at e), fun e => absurd e hh⟩
            have HRC := Lib.hid hrc
            have HK1 := Lib.hid hk1
            have HCI := carry_in g cap w3.heap.size w4.heap.size cs k t _ (by rw [HCL.out]; exact HOv21.out) (by have := HSZ.out; have := HZ21.out;  omega) (by rw [HCL.out]; exact hn12) HCC.out (by omega) (by rw [HCL.out]; exact hk1) rc HRC
            rw [HCL.out] at HCI
            clear hk1 hrc htp
            refine HCI.mono ?_
            rintro e w22 ⟨rfl, ho5, hm⟩
            clear HCI
            have HO5 := Lib.hid ho5
            clear ho5
            have HZ22 : Hid (w21.heap.size ≤ w22.heap.size) := Lib.hid hm.size
            have HB22 : Hid (Below w.heap.size w w22) := Lib.hid (HB21.out.trans (hm.below.mono (by have := HZ21.out; have := HB20.out.size; omega)))
            have HRf22 := Lib.hid (HRf0.out.below HB22.out (Nat.le_refl _))
            have HKz22 := Lib.hid ((hm.block _ (by have := lt_of_block HKz21.out; have := HZ21.out; omega)).trans HKz21.out)
            clear hm
            have HOv22 := Lib.hid (HO5.out)
            cases rc with
            | true =>
              have HG2 : Hid (∀ j, j < k + 1 → pbG ps j) := Lib.hid (fun j hj => by
                by_cases e : j = k
                · subst e; intro _; exact ⟨HK1.out, by rw [HNX.out]; exact HRC.out.1 rfl⟩
                · exact HPG.out j (by omega))
              have HL2 : Hid ((cyP k t cs).length = ps.length) := Lib.hid (by rw [cyP_len]; exact HCL.out)
              clear cz0 cz1 fz0 fz1 ltz
              have ltz := lt_of_block HKz22.out
              obtain ⟨cz0, cz1, fz0, fz1⟩ := cell2 HKz22.out
              go_wp2_with fail
              go_roundw
              case rel => exact ⟨k + 1, cyP k t cs, n + t, by omega, by go_num, rfl, HNX, HG2, HL2.out, HOv22.out, HKz22.out, HB22.out, by have := HSZ.out; have := HZ21.out; have := HZ22.out;  omega⟩
              case measure => simp [intOf]; omega
            | false =>
              have HR : Hid (qs = [] ∧ qt = [] ∧ r0 = 0 ∧ r = false) := Lib.hid (by
                rcases HK.out with ⟨h1, _⟩ | ⟨_, h2⟩
                · have h3 := (h1 k hlt (by rw [HPB.out, ← HT.out]; exact HTP.out)).2
                  rw [HNX.out] at h3
                  exact absurd (HRC.out.2 h3) (by simp)
                · exact h2)
              obtain ⟨rfl, rfl, rfl, rfl⟩ := HR.out
              clear cz0 cz1 fz0 fz1 ltz
              have ltz := lt_of_block HKz22.out
              obtain ⟨cz0, cz1, fz0, fz1⟩ := cell2 HKz22.out
              go_wp2_with fail
              exact bodyPost_ret (v := .tuple #[.agg #[.slice none 0 0, .slice none 0 0], .int .i64 0, .bool false]) (by simp [results, Try.results6, go_sem, cz0, cz1]) rfl ⟨⟨_, _, rfl, OwB.nil' _ _ _⟩, by first | exact HB22.out | exact (HB22.out.setCell (p := ⟨w.heap.size + 1, 0, none⟩) (Nat.le_succ _) _).setCell (p := ⟨w.heap.size + 1, 1, none⟩) (Nat.le_succ _) _⟩
          · have HR : Hid (qs = [] ∧ qt = [] ∧ r0 = 0 ∧ r = false) := Lib.hid (by
              rcases HK.out with ⟨h1, _⟩ | ⟨_, h2⟩
              · exact absurd (h1 k hlt (by rw [HPB.out, ← HT.out]; exact htp)).1 hk1
              · exact h2)
            obtain ⟨rfl, rfl, rfl, rfl⟩ := HR.out
            have HCO := carry_out g cap cs k t w21 (by rw [HCL.out]; exact hn12) (by have := HCL.out; omega)
            rw [HCL.out] at HCO
            clear hk1 htp
            refine HCO.mono ?_
            rintro e w' ⟨rfl, hw⟩
            subst w'
            clear cz0 cz1 fz0 fz1 ltz
            have ltz := lt_of_block HKz21.out
            obtain ⟨cz0, cz1, fz0, fz1⟩ := cell2 HKz21.out
            go_wp2_with fail
            exact bodyPost_ret (v := .tuple #[.agg #[.slice none 0 0, .slice none 0 0], .int .i64 0, .bool false]) (by simp [results, Try.results6, go_sem, cz0, cz1]) rfl ⟨⟨_, _, rfl, OwB.nil' _ _ _⟩, by first | exact HB21.out | exact (HB21.out.setCell (p := ⟨w.heap.size + 1, 0, none⟩) (Nat.le_succ _) _).setCell (p := ⟨w.heap.size + 1, 1, none⟩) (Nat.le_succ _) _⟩
        · have ht0 : t = 0 := by omega
          subst ht0
          have HG2 : Hid (∀ j, j < k + 1 → pbG ps j) := Lib.hid (fun j hj => by
            by_cases e : j = k
            · subst e; intro h5; rw [HPB.out, ← HT.out] at h5; omega
            · exact HPG.out j (by omega))
          have HNX2 : Hid (pbS ps (k + 1) = (cs, n)) := Lib.hid (by rw [pbS_still ps k (by rw [HPB.out, ← HT.out]), HPB.out])
          clear htp
          clear cz0 cz1 fz0 fz1 ltz
          have ltz := lt_of_block HKz21.out
          obtain ⟨cz0, cz1, fz0, fz1⟩ := cell2 HKz21.out
          go_wp2_with fail
          go_roundw
          case rel => exact ⟨k + 1, cs, n, by omega, by go_num, by simp, HNX2, HG2, HCL.out, HOv21.out, HKz21.out, HB21.out, by have := HSZ.out; have := HZ21.out;  omega⟩
          case measure => simp [intOf]; omega
      · skip
        have HM : Hid ((2 : Int) = mkP k) := Lib.hid e5.symm
        clear e5
        obtain ⟨t, ht⟩ : ∃ t, IntKind.i64.wrap (x.tdiv 2) = t := ⟨_, rfl⟩
        have HT : Hid (t = cs.getD k 0 / mkP k) := Lib.hid (by rw [← ht, Int.tdiv_eq_ediv_of_nonneg x0, getDi_at cs k hlc, HX.out, ← HM.out, IntKind.wrap_i64]; omega)
        have ht30 : 0 ≤ t ∧ t ≤ 30 := by rw [← ht, Int.tdiv_eq_ediv_of_nonneg x0, IntKind.wrap_i64]; omega
        obtain ⟨t0, t1⟩ := ht30
        have w1' : IntKind.i64.wrap (n + t) = n + t := by rw [IntKind.wrap_i64]; omega
        have HNX : Hid (pbS ps (k + 1) = (cyP k t cs, n + t)) := Lib.hid (by show (cyP k ((pbS ps k).1.getD k 0 / mkP k) (pbS ps k).1, (pbS ps k).2 + (pbS ps k).1.getD k 0 / mkP k) = _; rw [HPB.out, ← HT.out])
        have d0 : wr.cell? ⟨g, k, none⟩ = some (.int .i64 x) := (HOv20.out.1.cellAt k (by omega)).trans (by rw [flat_iat cs k hlc, HX.out])
        have ltz := lt_of_block HKz20.out
        obtain ⟨cz0, cz1, fz0, fz1⟩ := cell2 HKz20.out
        go_wp2_with fail
        refine wp_region_held_drew (S := (fun w' => w'.cell? ⟨g, k, none⟩ = some (.int .i64 x))) (by kernel_rfl) (d0) (fun hHeld => ?_)
        have hb : Below wr.heap.size wr wr.drew := (Below.refl _ _).drew
        generalize wr.drew = w21 at hb hHeld ⊢
        clear d0
        have HB21 : Hid (Below w.heap.size w w21) := Lib.hid (HB20.out.trans (hb.mono HB20.out.size))
        have HZ21 : Hid (wr.heap.size ≤ w21.heap.size) := Lib.hid hb.size
        have HRf21 := Lib.hid (HRf0.out.below HB21.out (Nat.le_refl _))
        have HKz21 := Lib.hid ((hb.block _ (lt_of_block HKz20.out)).trans HKz20.out)
        have HOv21 := Lib.hid (HOv20.out.next hb)
        clear hb
        have d0 := hHeld
        refine take1 (i := 0) (v := ?v8) (some 20) rfl rfl (by kernel_rfl) (by kernel_rfl) (by kernel_rfl) (fun _ _ _ h => h) (Or.inl ⟨by rfl, ?y8⟩) (by assumption) ?r8
        case y8 => (intro w hSw; (try dsimp only at hSw); go_simp; (first | done | with_reducible rfl))
        try simp only [Act.put, List.setIfInBounds_toArray, List.set_cons_zero, List.set_cons_succ]
        refine take1 (i := 1) (v := ?v9) (some 21) rfl rfl (by kernel_rfl) (by kernel_rfl) (by kernel_rfl) (fun _ _ _ h => h) (Or.inl ⟨by rfl, ?y9⟩) (by assumption) ?r9
        case y9 => (intro w hSw; (try dsimp only at hSw); go_simp; (first | done | with_reducible rfl))
        try simp only [Act.put, List.setIfInBounds_toArray, List.set_cons_zero, List.set_cons_succ]
        refine take1 (i := 2) (v := ?v10) (some 22) rfl rfl (by kernel_rfl) (by kernel_rfl) (by kernel_rfl) (fun _ _ _ h => h) (Or.inl ⟨by rfl, ?y10⟩) (by assumption) ?r10
        case y10 => (intro w hSw; (try dsimp only at hSw); go_simp; (first | done | with_reducible rfl))
        try simp only [Act.put, List.setIfInBounds_toArray, List.set_cons_zero, List.set_cons_succ]
        refine take1 (i := 3) (v := ?v11) (some 23) rfl rfl (by kernel_rfl) (by kernel_rfl) (by kernel_rfl) (fun _ _ _ h => h) (Or.inl ⟨by rfl, ?y11⟩) (by assumption) ?r11
        case y11 => (intro w hSw; (try dsimp only at hSw); go_simp; (first | done | with_reducible rfl))
        try simp only [Act.put, List.setIfInBounds_toArray, List.set_cons_zero, List.set_cons_succ]
        refine take1 (i := 4) (v := ?v12) (some 24) rfl rfl (by kernel_rfl) (by kernel_rfl) (by kernel_rfl) (fun _ _ _ h => h) (Or.inl ⟨by rfl, ?y12⟩) (by assumption) ?r12
        case y12 => (intro w hSw; (try dsimp only at hSw); go_simp; (first | done | with_reducible rfl))
        try simp only [Act.put, List.setIfInBounds_toArray, List.set_cons_zero, List.set_cons_succ]
        refine wpAnyH_ready (rs := [5]) (by kernel_rfl) (by simp) ?_
        refine AllReadyH.cons rfl (fun K hK => ?_) AllReadyH.nil
        go_simp
        go_at_call 24
        refine (makeOne_any k 2 _ HM).mono ?_
        rintro e w' ⟨rfl, hw⟩
        subst w'
        try go_simp
        refine hK.out _ _ (d0) (fun hHeld => ?_)
        clear hK K
        try simp only [Act.put, List.setIfInBounds_toArray, List.set_cons_zero, List.set_cons_succ]
        refine take1 (i := 6) (v := ?v13) (some 26) rfl rfl (by kernel_rfl) (by kernel_rfl) (by kernel_rfl) (fun _ _ _ h => h) (Or.inl ⟨by rfl, ?y13⟩) (by assumption) ?r13
        case y13 => (intro w hSw; (try dsimp only at hSw); go_simp; (first | done | with_reducible rfl))
        try simp only [Act.put, List.setIfInBounds_toArray, List.set_cons_zero, List.set_cons_succ]
        refine take1 (i := 7) (v := ?v14) (some 8) rfl rfl (by kernel_rfl) (by kernel_rfl) (by kernel_rfl) (fun _ _ _ h => h) (Or.inl ⟨by rfl, ?y14⟩) (by assumption) ?r14
        case y14 => (intro w hSw; (try dsimp only at hSw); go_simp; (first | done | with_reducible rfl))
        try simp only [Act.put, List.setIfInBounds_toArray, List.set_cons_zero, List.set_cons_succ]
        refine wpAnyH_done (by kernel_rfl) ?_ _
        clear d0 hHeld
        by_cases htp : 0 < t
        · have HTP := Lib.hid htp
          go_wp2_with fail
          by_cases hk1 : k + 1 < ps.length
          · obtain ⟨rc, hrc⟩ : ∃ rc : Bool, rc = true ↔ ctr (cyP k t cs) := by
              by_cases hh : ctr (cyP k t cs)
              · exact ⟨true, fun _ => hh, fun _ => rfl⟩
              · exact ⟨false, fun e => (by simp at e), fun e => absurd e hh⟩
            have HRC := Lib.hid hrc
            have HK1 := Lib.hid hk1
            have HCI := carry_in g cap w3.heap.size w4.heap.size cs k t _ (by rw [HCL.out]; exact HOv21.out) (by have := HSZ.out; have := HZ21.out;  omega) (by rw [HCL.out]; exact hn12) HCC.out (by omega) (by rw [HCL.out]; exact hk1) rc HRC
            rw [HCL.out] at HCI
            clear hk1 hrc htp
            refine HCI.mono ?_
            rintro e w22 ⟨rfl, ho5, hm⟩
            clear HCI
            have HO5 := Lib.hid ho5
            clear ho5
            have HZ22 : Hid (w21.heap.size ≤ w22.heap.size) := Lib.hid hm.size
            have HB22 : Hid (Below w.heap.size w w22) := Lib.hid (HB21.out.trans (hm.below.mono (by have := HZ21.out; have := HB20.out.size; omega)))
            have HRf22 := Lib.hid (HRf0.out.below HB22.out (Nat.le_refl _))
            have HKz22 := Lib.hid ((hm.block _ (by have := lt_of_block HKz21.out; have := HZ21.out; omega)).trans HKz21.out)
            clear hm
            have HOv22 := Lib.hid (HO5.out)
            cases rc with
            | true =>
              have HG2 : Hid (∀ j, j < k + 1 → pbG ps j) := Lib.hid (fun j hj => by
                by_cases e : j = k
                · subst e; intro _; exact ⟨HK1.out, by rw [HNX.out]; exact HRC.out.1 rfl⟩
                · exact HPG.out j (by omega))
              have HL2 : Hid ((cyP k t cs).length = ps.length) := Lib.hid (by rw [cyP_len]; exact HCL.out)
              clear cz0 cz1 fz0 fz1 ltz
              have ltz := lt_of_block HKz22.out
              obtain ⟨cz0, cz1, fz0, fz1⟩ := cell2 HKz22.out
              go_wp2_with fail
              go_roundw
              case rel => exact ⟨k + 1, cyP k t cs, n + t, by omega, by go_num, rfl, HNX, HG2, HL2.out, HOv22.out, HKz22.out, HB22.out, by have := HSZ.out; have := HZ21.out; have := HZ22.out;  omega⟩
              case measure => simp [intOf]; omega
            | false =>
              have HR : Hid (qs = [] ∧ qt = [] ∧ r0 = 0 ∧ r = false) := Lib.hid (by
                rcases HK.out with ⟨h1, _⟩ | ⟨_, h2⟩
                · have h3 := (h1 k hlt (by rw [HPB.out, ← HT.out]; exact HTP.out)).2
                  rw [HNX.out] at h3
                  exact absurd (HRC.out.2 h3) (by simp)
                · exact h2)
              obtain ⟨rfl, rfl, rfl, rfl⟩ := HR.out
              clear cz0 cz1 fz0 fz1 ltz
              have ltz := lt_of_block HKz22.out
              obtain ⟨cz0, cz1, fz0, fz1⟩ := cell2 HKz22.out
              go_wp2_with fail
              exact bodyPost_ret (v := .tuple #[.agg #[.slice none 0 0, .slice none 0 0], .int .i64 0, .bool false]) (by simp [results, Try.results6, go_sem, cz0, cz1]) rfl ⟨⟨_, _, rfl, OwB.nil' _ _ _⟩, by first | exact HB22.out | exact (HB22.out.setCell (p := ⟨w.heap.size + 1, 0, none⟩) (Nat.le_succ _) _).setCell (p := ⟨w.heap.size + 1, 1, none⟩) (Nat.le_succ _) _⟩
          · have HR : Hid (qs = [] ∧ qt = [] ∧ r0 = 0 ∧ r = false) := Lib.hid (by
              rcases HK.out with ⟨h1, _⟩ | ⟨_, h2⟩
              · exact absurd (h1 k hlt (by rw [HPB.out, ← HT.out]; exact htp)).1 hk1
              · exact h2)
            obtain ⟨rfl, rfl, rfl, rfl⟩ := HR.out
            have HCO := carry_out g cap cs k t w21 (by rw [HCL.out]; exact hn12) (by have := HCL.out; omega)
            rw [HCL.out] at HCO
            clear hk1 htp
            refine HCO.mono ?_
            rintro e w' ⟨rfl, hw⟩
            subst w'
            clear cz0 cz1 fz0 fz1 ltz
            have ltz := lt_of_block HKz21.out
            obtain ⟨cz0, cz1, fz0, fz1⟩ := cell2 HKz21.out
            go_wp2_with fail
            exact bodyPost_ret (v := .tuple #[.agg #[.slice none 0 0, .slice none 0 0], .int .i64 0, .bool false]) (by simp [results, Try.results6, go_sem, cz0, cz1]) rfl ⟨⟨_, _, rfl, OwB.nil' _ _ _⟩, by first | exact HB21.out | exact (HB21.out.setCell (p := ⟨w.heap.size + 1, 0, none⟩) (Nat.le_succ _) _).setCell (p := ⟨w.heap.size + 1, 1, none⟩) (Nat.le_succ _) _⟩
        · have ht0 : t = 0 := by omega
          subst ht0
          have HG2 : Hid (∀ j, j < k + 1 → pbG ps j) := Lib.hid (fun j hj => by
            by_cases e : j = k
            · subst e; intro h5; rw [HPB.out, ← HT.out] at h5; omega
            · exact HPG.out j (by omega))
          have HNX2 : Hid (pbS ps (k + 1) = (cs, n)) := Lib.hid (by rw [pbS_still ps k (by rw [HPB.out, ← HT.out]), HPB.out])
          clear htp
          clear cz0 cz1 fz0 fz1 ltz
          have ltz := lt_of_block HKz21.out
          obtain ⟨cz0, cz1, fz0, fz1⟩ := cell2 HKz21.out
          go_wp2_with fail
          go_roundw
          case rel => exact ⟨k + 1, cs, n, by omega, by go_num, by simp, HNX2, HG2, HCL.out, HOv21.out, HKz21.out, HB21.out, by have := HSZ.out; have := HZ21.out;  omega⟩
          case measure => simp [intOf]; omega
    · obtain rfl : k = ps.length := by omega
      have HR : Hid (qs = evs cs ∧ qt = ods cs ∧ r0 = n ∧ r = true) := Lib.hid (by
        have h5 := HK.out
        rw [HPB.out] at h5
        rcases h5 with ⟨_, h2⟩ | ⟨h1, _⟩
        · exact h2
        · exact absurd HPG.out h1)
      obtain ⟨rfl, rfl, rfl, rfl⟩ := HR.out
      have HB20 : Hid (Below w.heap.size w wr) := Lib.hid hb
      have HRf20 := Lib.hid (HRf0.out.below HB20.out (Nat.le_refl _))
      have HKz20 := Lib.hid (hkz)
      have HOv20 := Lib.hid (hov)
      clear hkz hov hb hcl hsz
      have ltz := lt_of_block HKz20.out
      obtain ⟨cz0, cz1, fz0, fz1⟩ := cell2 HKz20.out
      go_wp2_with fail
      refine (boardOf_any _ cs ls.length _ (RowsR.of_own inC_len (own_relen' HCL.out HOv20.out.1)) hl6 (by rw [HCL.out]; exact HL1.out)).mono ?_
      rintro e w21 ⟨⟨s1, s2, rfl, ho⟩, hb⟩
      have HB21 : Hid (Below w.heap.size w w21) := Lib.hid (HB20.out.trans (hb.mono HB20.out.size))
      have HZ21 : Hid (wr.heap.size ≤ w21.heap.size) := Lib.hid hb.size
      have HRf21 := Lib.hid (HRf0.out.below HB21.out (Nat.le_refl _))
      have HKz21 := Lib.hid ((hb.block _ (lt_of_block HKz20.out)).trans HKz20.out)
      have HOv21 := Lib.hid (HOv20.out.next hb)
      clear hb
      obtain ⟨p1, k3, p2, k4, rfl, rfl⟩ := ho.form
      have hlr : w.heap.size + 1 < wr.heap.size := by have := HSZ.out; omega
      have HOa21 := Lib.hid (ho)
      clear ho
      clear cz0 cz1 fz0 fz1 ltz
      have ltz := lt_of_block HKz21.out
      obtain ⟨cz0, cz1, fz0, fz1⟩ := cell2 HKz21.out
      go_wp2_with fail
      exact bodyPost_ret (v := .tuple #[.agg #[.slice p1 (evs cs).length k3, .slice p2 (ods cs).length k4], .int .i64 r0, .bool true]) (by simp [results, Try.results6, go_sem, cz0, cz1]) rfl ⟨⟨_, _, rfl, ((HOa21.out.set (a := ⟨w.heap.size + 1, 0, none⟩) hlr _).set (a := ⟨w.heap.size + 1, 1, none⟩) hlr _).mono (by omega) (by simp [World.setCell])⟩, by first | exact HB21.out | exact (HB21.out.setCell (p := ⟨w.heap.size + 1, 0, none⟩) (Nat.le_succ _) _).setCell (p := ⟨w.heap.size + 1, 1, none⟩) (Nat.le_succ _) _⟩
set_option maxRecDepth 100000 in
set_option maxHeartbeats 1600000 in
theorem implPlainB_no (v1 v2 : Value) (ls ss : List Int) (w : World) (h : BrdR w v1 v2 ls ss) (hg : ¬ okB ls ss) (qs qt : List Int) (r0 : Int) (r : Bool) (hk : qs = [] ∧ qt = [] ∧ r0 = 0 ∧ r = false) :
    Calls Try.prog 6 #[.agg #[v1, v2]] w fun e w' => (∃ s1 t1, e = .returned (.tuple #[.agg #[s1, t1], .int .i64 r0, .bool r]) ∧ OwB w.heap.size w'.heap.size w' s1 t1 qs qt) ∧ Below w.heap.size w w' := by
  obtain ⟨a1, c1, a2, c2, rfl, rfl⟩ := h.form
  obtain ⟨rfl, rfl, rfl, rfl⟩ := hk
  have HG := Lib.hid hg
  have HB0 : Hid (Below w.heap.size w w) := Lib.hid (Below.refl _ _)
  have HRf0 := Lib.hid (h)
  clear h hg
  go_enter Try.func6, Try.ntmps6
  go_wp2_with fail
  have hb : Below w.heap.size w (w.alloc (.cells #[.slice a1 ls.length c1, .slice a2 ss.length c2] 26)) := (Below.refl _ _).alloc (Nat.le_refl _) _
  have hk : (w.alloc (.cells #[.slice a1 ls.length c1, .slice a2 ss.length c2] 26)).heap[w.heap.size]? = some (.cells #[.slice a1 ls.length c1, .slice a2 ss.length c2] 26 (0, 0)) := alloc_at rfl
  have hz : (w.alloc (.cells #[.slice a1 ls.length c1, .slice a2 ss.length c2] 26)).heap.size = w.heap.size + 1 := by simp
  generalize w.alloc (.cells #[.slice a1 ls.length c1, .slice a2 ss.length c2] 26) = w1 at hb hk hz ⊢
  have HB1 : Hid (Below w.heap.size w w1) := Lib.hid (HB0.out.trans (hb.mono HB0.out.size))
  have HZ1 : Hid (w.heap.size ≤ w1.heap.size) := Lib.hid hb.size
  have HRf1 := Lib.hid (HRf0.out.below HB1.out (Nat.le_refl _))
  have HKb1 := Lib.hid hk
  replace HZ1 : Hid (w.heap.size < w1.heap.size) := Lib.hid (by omega)
  have HE1 := Lib.hid hz
  clear hb hk hz
  have hb : Below w1.heap.size w1 (w1.alloc (.cells #[.slice none 0 0, .slice none 0 0] 26)) := (Below.refl _ _).alloc (Nat.le_refl _) _
  have hk : (w1.alloc (.cells #[.slice none 0 0, .slice none 0 0] 26)).heap[w.heap.size + 1]? = some (.cells #[.slice none 0 0, .slice none 0 0] 26 (0, 0)) := alloc_at (by have := HE1.out; omega)
  have hz : (w1.alloc (.cells #[.slice none 0 0, .slice none 0 0] 26)).heap.size = w1.heap.size + 1 := by simp
  generalize w1.alloc (.cells #[.slice none 0 0, .slice none 0 0] 26) = w2 at hb hk hz ⊢
  have HB2 : Hid (Below w.heap.size w w2) := Lib.hid (HB1.out.trans (hb.mono HB1.out.size))
  have HZ2 : Hid (w1.heap.size ≤ w2.heap.size) := Lib.hid hb.size
  have HRf2 := Lib.hid (HRf0.out.below HB2.out (Nat.le_refl _))
  have HKb2 := Lib.hid ((hb.block _ (lt_of_block HKb1.out)).trans HKb1.out)
  have HKz2 := Lib.hid hk
  replace HZ2 : Hid (w1.heap.size < w2.heap.size) := Lib.hid (by omega)
  have HE2 := Lib.hid hz
  clear hb hk hz
  have ltb := lt_of_block HKb2.out
  obtain ⟨cb0, cb1, fb0, fb1⟩ := cell2 HKb2.out
  have ltz := lt_of_block HKz2.out
  obtain ⟨cz0, cz1, fz0, fz1⟩ := cell2 HKz2.out
  refine (implIsBoard_any _ _ ls ss _ HRf2.out false ⟨fun e => by simp at e, fun e => absurd e HG.out⟩).mono ?_
  rintro e w3 ⟨rfl, hb⟩
  have HB3 : Hid (Below w.heap.size w w3) := Lib.hid (HB2.out.trans (hb.mono HB2.out.size))
  have HZ3 : Hid (w2.heap.size ≤ w3.heap.size) := Lib.hid hb.size
  have HRf3 := Lib.hid (HRf0.out.below HB3.out (Nat.le_refl _))
  have HKb3 := Lib.hid ((hb.block _ (lt_of_block HKb2.out)).trans HKb2.out)
  have HKz3 := Lib.hid ((hb.block _ (lt_of_block HKz2.out)).trans HKz2.out)
  clear hb
  clear cb0 cb1 fb0 fb1 ltb cz0 cz1 fz0 fz1 ltz
  have ltb := lt_of_block HKb3.out
  obtain ⟨cb0, cb1, fb0, fb1⟩ := cell2 HKb3.out
  have ltz := lt_of_block HKz3.out
  obtain ⟨cz0, cz1, fz0, fz1⟩ := cell2 HKz3.out
  go_wp2_with fail
  exact bodyPost_ret (v := .tuple #[.agg #[.slice none 0 0, .slice none 0 0], .int .i64 0, .bool false]) (by simp [results, Try.results6, go_sem, cz0, cz1]) rfl ⟨⟨_, _, rfl, OwB.nil' _ _ _⟩, by first | exact HB3.out | exact (HB3.out.setCell (p := ⟨w.heap.size + 1, 0, none⟩) (Nat.le_succ _) _).setCell (p := ⟨w.heap.size + 1, 1, none⟩) (Nat.le_succ _) _⟩
theorem implPlainBoard_any (v1 v2 : Value) (ls ss : List Int) (w : World) (h : BrdR w v1 v2 ls ss) (qs qt : List Int) (r0 : Int) (r : Bool) (hk : PnF ls ss qs qt r0 r) :
    Calls Try.prog 6 #[.agg #[v1, v2]] w fun e w' => (∃ s1 t1, e = .returned (.tuple #[.agg #[s1, t1], .int .i64 r0, .bool r]) ∧ OwB w.heap.size w'.heap.size w' s1 t1 qs qt) ∧ Below w.heap.size w w' := by
  by_cases hg : okB ls ss
  · refine implPlainB_yes v1 v2 ls ss w h hg qs qt r0 r ?_
    obtain ⟨f1, f2⟩ := pb_F ls ss hg
    rw [← ilv_len ls ss] at f1 f2
    rcases hk with ⟨⟨_, h2⟩, rfl, rfl, rfl, rfl⟩ | ⟨h1, h2⟩
    · have h3 := f1.1 h2
      obtain ⟨e1, e2, e3⟩ := f2 h3
      exact .inl ⟨h3, e1.symm, e2.symm, e3.symm, rfl⟩
    · exact .inr ⟨fun h3 => h1 ⟨hg, f1.2 h3⟩, h2⟩
  · refine implPlainB_no v1 v2 ls ss w h hg qs qt r0 r ?_
    rcases hk with ⟨⟨h1, _⟩, _⟩ | ⟨_, h2⟩
    · exact absurd h1 hg
    · exact h2
end Go.Proofs.Ytbdddpchlmddbaa
