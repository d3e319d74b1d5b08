/- Boards, drawn. -/
import Derived.Test.YtbdddpchlmddbaaDoorDb5
namespace Go.Proofs.YtbdddpchlmddbaaDoor
set_option linter.unusedVariables false
open Go.RowKit
set_option linter.unusedSimpArgs false

def lnZ : List Int := [1, 2, 3, 6]
set_option maxRecDepth 100000 in
set_option maxHeartbeats 800000 in
theorem lines5_any (cb : Nat) (cd : Value) (L : List UInt8) (n : Nat) (w : World) (hn : n < 4611686018427387000) (hc : CurAt w cb cd n) (hr : CodeR w cb cd L) :
    Calls Tryd.prog 22 #[.pointer (some ⟨cb, 0, none⟩)] w fun e w' => (∃ N : Nat, (1 ≤ N ∧ N ≤ 6) ∧ e = .returned (.int .i64 (N : Int))) ∧ CurAt w' cb cd (n + 2) ∧ w.grownBy w' (some cb) := by
  have hlt := hc.lt
  have hga := grown_alloc w (.cells (lnZ.map (Value.int .i64)).toArray 3) none
  have hO := among_any cb cd L n _ lnZ _ hn (by decide) (slr_lit w (lnZ.map (Value.int .i64)) 3 (by decide)) (fun a m c e => by cases e; show w.heap.size ≠ cb; omega) (hc.old hga) (hr.grown (grown_any hga))
  have HO := Lib.hid hO
  have HGA := Lib.hid (grown_any (r := some cb) hga)
  clear hO hga hc hr
  go_enter Tryd.func22, Tryd.ntmps22
  go_wp2_with fail
  refine (HO.out).mono ?_
  rintro e w1 ⟨⟨x, rfl, hx⟩, hc1, hg⟩
  obtain ⟨N, hN, rfl⟩ : ∃ N : Nat, (1 ≤ N ∧ N ≤ 6) ∧ x = (N : Int) := by
    simp only [lnZ, List.mem_cons, List.not_mem_nil, or_false] at hx
    exact ⟨x.toNat, by omega, by omega⟩
  have HC1 := Lib.hid hc1
  have HG := Lib.hid hg
  clear hc1 hg hx
  go_wp2_with fail
  go_ret
  exact ⟨⟨N, hN, rfl⟩, HC1.out, grown_trans HGA.out HG.out⟩
set_option maxRecDepth 100000 in
set_option maxHeartbeats 3200000 in
theorem drawIsBoard_any (cd : Value) (L : List UInt8) (w : World) (h : SlR w cd (L.map fun c => .int .u8 (c.toNat : Int))) :
    Calls Tryd.prog 36 #[cd] w fun e w' => (∃ (v1 v2 : Value) (ls ss : List Int), e = .returned (.agg #[v1, v2]) ∧ BrdX w.heap.size w' v1 v2 ls ss ∧ ls.length ≤ 7 ∧ ss.length ≤ 7) ∧ Below w.heap.size w w' := by
  obtain ⟨ad, cp, rfl⟩ : ∃ a c, cd = .slice a L.length c := by obtain ⟨a, c, e, _⟩ := h; exact ⟨a, c, by rw [e, List.length_map]⟩
  obtain ⟨W0, hW0⟩ : ∃ u, w.alloc (.cells #[.slice none 0 0, .slice none 0 0] 26) = u := ⟨_, rfl⟩
  have hbW0 : Below w.heap.size w W0 := by rw [← hW0]; exact (Below.refl _ w).alloc (Nat.le_refl _) _
  have hzW0 : W0.heap[w.heap.size]? = some (.cells #[.slice none 0 0, .slice none 0 0] 26 (0, 0)) := by rw [← hW0]; exact alloc_at rfl
  have hsW0 : W0.heap.size = w.heap.size + 1 := by rw [← hW0]; simp
  have hT : (Lit.int .u64 0).wf = true := by decide
  have HN := Lib.hid (code_new (h.below hbW0 (Nat.le_refl _)))
  obtain ⟨W1, hW1⟩ : ∃ W1, W0.alloc (.cells #[.slice ad L.length cp, .int .i64 0, .int .u64 0] 44) = W1 := ⟨_, rfl⟩
  have hc1 : CurAt W1 W0.heap.size (.slice ad L.length cp) 0 := ⟨0, 0, _, Nat.le_refl _, Lib.hid hT, by rw [← hW1]; exact alloc_at rfl⟩
  have hr1 : CodeR W1 W0.heap.size (.slice ad L.length cp) L := by rw [← hW1]; exact HN.out _
  have hb1 : Below W0.heap.size W0 W1 := by rw [← hW1]; exact (Below.refl _ W0).alloc (Nat.le_refl _) _
  have hz1 := (hb1.block _ (by omega)).trans hzW0
  have hs1 : W1.heap.size = w.heap.size + 2 := by rw [← hW1]; simp; omega
  rw [hsW0] at hc1 hr1
  have HA := Lib.hid (lines5_any (w.heap.size + 1) _ L 0 W1 (by omega) hc1 hr1)
  have HB1 : Hid (Below w.heap.size w W1) := Lib.hid (hbW0.trans (hb1.mono (by omega)))
  have HZ1 := Lib.hid hz1
  have HR1 := Lib.hid hr1
  have HS1 := Lib.hid hs1
  have hW1' : W0.alloc (.cells #[.slice ad L.length cp, .int .i64 0, .int .u64 0] 44) = W1 := hW1
  clear hc1 hr1 hb1 hbW0 hzW0 hz1 h HN hW1 hs1
  go_enter Tryd.func36, Tryd.ntmps36
  go_wp2_with fail
  try rw [hW0]
  try rw [hW1']
  refine (HA.out).mono ?_
  rintro e w2 ⟨⟨N, hN, rfl⟩, hc2, hg2⟩
  have HB := Lib.hid (board5_any (w.heap.size + 1) _ L (0 + 2) N w2 hN (by omega) hc2 (HR1.out.grown hg2))
  have HG2 := Lib.hid hg2
  clear hc2 hg2
  go_wp2_with fail
  refine (HB.out).mono ?_
  rintro e w3 ⟨⟨v1, v2, ls, ss, rfl, hx, hl1, hl2⟩, hc3, hg3⟩
  have hg := grown_trans HG2.out hg3
  have hz3 := (hg.block w.heap.size (by have := HS1.out; omega) (by intro e; injection e with e; omega)).trans HZ1.out
  have hlt : w.heap.size < w2.heap.size := by have := HG2.out.size; have := HS1.out; omega
  obtain ⟨a1, c1, a2, c2, rfl, rfl⟩ := hx.1.form
  have HX := Lib.hid (((hx.set ⟨w.heap.size, 0, none⟩ hlt (.slice a1 ls.length c1)).set ⟨w.heap.size, 1, none⟩ hlt (.slice a2 ss.length c2)).mono (B' := w.heap.size) (by omega))
  have HBL := Lib.hid (((HB1.out.grown hg HB1.out.size (fun k e => by cases e; exact Nat.le_succ _)).setCell (p := ⟨w.heap.size, 0, none⟩) (Nat.le_refl _) (.slice a1 ls.length c1)).setCell (p := ⟨w.heap.size, 1, none⟩) (Nat.le_refl _) (.slice a2 ss.length c2))
  obtain ⟨z0, z1, y0, y1⟩ := cell2 hz3
  clear hx hc3 hg3 hg hz3 hlt
  go_wp2_with fail
  exact bodyPost_ret (v := .agg #[.slice a1 ls.length c1, .slice a2 ss.length c2]) (by simp [results, Tryd.results36, go_sem, z0, z1]) rfl ⟨⟨_, _, ls, ss, rfl, HX.out, hl1, hl2⟩, HBL.out⟩
set_option maxRecDepth 100000 in
set_option maxHeartbeats 3200000 in
theorem drawCountersOn_any (cd : Value) (L : List UInt8) (w : World) (h : SlR w cd (L.map fun c => .int .u8 (c.toNat : Int))) :
    Calls Tryd.prog 16 #[cd] w fun e w' => (∃ (v1 v2 : Value) (ls ss : List Int), e = .returned (.agg #[v1, v2]) ∧ BrdX w.heap.size w' v1 v2 ls ss ∧ ls.length ≤ 7 ∧ ss.length ≤ 7) ∧ Below w.heap.size w w' := by
  obtain ⟨ad, cp, rfl⟩ : ∃ a c, cd = .slice a L.length c := by obtain ⟨a, c, e, _⟩ := h; exact ⟨a, c, by rw [e, List.length_map]⟩
  obtain ⟨W0, hW0⟩ : ∃ u, w.alloc (.cells #[.slice none 0 0, .slice none 0 0] 26) = u := ⟨_, rfl⟩
  have hbW0 : Below w.heap.size w W0 := by rw [← hW0]; exact (Below.refl _ w).alloc (Nat.le_refl _) _
  have hzW0 : W0.heap[w.heap.size]? = some (.cells #[.slice none 0 0, .slice none 0 0] 26 (0, 0)) := by rw [← hW0]; exact alloc_at rfl
  have hsW0 : W0.heap.size = w.heap.size + 1 := by rw [← hW0]; simp
  have HD := Lib.hid (drawIsBoard_any _ L W0 (h.below hbW0 (Nat.le_refl _)))
  have HB1 := Lib.hid hbW0
  have HZ1 := Lib.hid hzW0
  have HS1 := Lib.hid hsW0
  clear h hbW0 hzW0 hsW0
  go_enter Tryd.func16, Tryd.ntmps16
  go_wp2_with fail
  try rw [hW0]
  refine (HD.out).mono ?_
  rintro e w3 ⟨⟨v1, v2, ls, ss, rfl, hx, hl1, hl2⟩, hb⟩
  have hz3 := (hb.block w.heap.size (by have := HS1.out; omega)).trans HZ1.out
  have hlt : w.heap.size < W0.heap.size := by have := HS1.out; omega
  obtain ⟨a1, c1, a2, c2, rfl, rfl⟩ := hx.1.form
  have HBL := Lib.hid (((HB1.out.trans (hb.mono (by omega))).setCell (p := ⟨w.heap.size, 0, none⟩) (Nat.le_refl _) (.slice a1 ls.length c1)).setCell (p := ⟨w.heap.size, 1, none⟩) (Nat.le_refl _) (.slice a2 ss.length c2))
  have HX := Lib.hid (((hx.set ⟨w.heap.size, 0, none⟩ hlt (.slice a1 ls.length c1)).set ⟨w.heap.size, 1, none⟩ hlt (.slice a2 ss.length c2)).mono (B' := w.heap.size) (by omega))
  obtain ⟨z0, z1, y0, y1⟩ := cell2 hz3
  clear hx hb hz3 hlt
  go_wp2_with fail
  exact bodyPost_ret (v := .agg #[.slice a1 ls.length c1, .slice a2 ss.length c2]) (by simp [results, Tryd.results16, go_sem, z0, z1]) rfl ⟨⟨_, _, ls, ss, rfl, HX.out, hl1, hl2⟩, HBL.out⟩
set_option maxRecDepth 100000 in
set_option maxHeartbeats 6400000 in
theorem drawJoinBoards_any (cd : Value) (L : List UInt8) (w : World) (h : SlR w cd (L.map fun c => .int .u8 (c.toNat : Int))) :
    Calls Tryd.prog 13 #[cd] w fun e w' => (∃ (v1 v2 u1 u2 : Value) (ls ss ps qs : List Int), e = .returned (.tuple #[.agg #[v1, v2], .agg #[u1, u2]]) ∧ (BrdX w.heap.size w' v1 v2 ls ss ∧ ls.length ≤ 7 ∧ ss.length ≤ 7) ∧ BrdX w.heap.size w' u1 u2 ps qs ∧ ps.length ≤ 7 ∧ qs.length ≤ 7) ∧ Below w.heap.size w w' := by
  obtain ⟨ad, cp, rfl⟩ : ∃ a c, cd = .slice a L.length c := by obtain ⟨a, c, e, _⟩ := h; exact ⟨a, c, by rw [e, List.length_map]⟩
  obtain ⟨W0, hW0⟩ : ∃ u, w.alloc (.cells #[.slice none 0 0, .slice none 0 0] 26) = u := ⟨_, rfl⟩
  have hbW0 : Below w.heap.size w W0 := by rw [← hW0]; exact (Below.refl _ w).alloc (Nat.le_refl _) _
  have hzW0 : W0.heap[w.heap.size]? = some (.cells #[.slice none 0 0, .slice none 0 0] 26 (0, 0)) := by rw [← hW0]; exact alloc_at rfl
  have hsW0 : W0.heap.size = w.heap.size + 1 := by rw [← hW0]; simp
  obtain ⟨W1, hW1⟩ : ∃ u, W0.alloc (.cells #[.slice none 0 0, .slice none 0 0] 26) = u := ⟨_, rfl⟩
  have hbW1 : Below w.heap.size w W1 := by rw [← hW1]; exact hbW0.alloc (by omega) _
  have hzW1 : W1.heap[w.heap.size + 1]? = some (.cells #[.slice none 0 0, .slice none 0 0] 26 (0, 0)) := by rw [← hW1]; exact alloc_at hsW0.symm
  have hsW1 : W1.heap.size = w.heap.size + 2 := by rw [← hW1]; simp; omega
  have hzA : W1.heap[w.heap.size]? = some (.cells #[.slice none 0 0, .slice none 0 0] 26 (0, 0)) := by rw [← hW1]; exact (alloc_old (by omega)).trans hzW0
  have hT : (Lit.int .u64 0).wf = true := by decide
  have HN := Lib.hid (code_new (h.below hbW1 (Nat.le_refl _)))
  obtain ⟨W2, hW2⟩ : ∃ W2, W1.alloc (.cells #[.slice ad L.length cp, .int .i64 0, .int .u64 0] 44) = W2 := ⟨_, rfl⟩
  have hc1 : CurAt W2 W1.heap.size (.slice ad L.length cp) 0 := ⟨0, 0, _, Nat.le_refl _, Lib.hid hT, by rw [← hW2]; exact alloc_at rfl⟩
  have hr1 : CodeR W2 W1.heap.size (.slice ad L.length cp) L := by rw [← hW2]; exact HN.out _
  have hb1 : Below W1.heap.size W1 W2 := by rw [← hW2]; exact (Below.refl _ W1).alloc (Nat.le_refl _) _
  have HZA := Lib.hid ((hb1.block _ (by omega)).trans hzA)
  have HZB := Lib.hid ((hb1.block _ (by omega)).trans hzW1)
  have hs1 : W2.heap.size = w.heap.size + 3 := by rw [← hW2]; simp; omega
  rw [hsW1] at hc1 hr1
  have HA := Lib.hid (lines5_any (w.heap.size + 2) _ L 0 W2 (by omega) hc1 hr1)
  have HB1 : Hid (Below w.heap.size w W2) := Lib.hid (hbW1.trans (hb1.mono (by omega)))
  have HR1 := Lib.hid hr1
  have HS1 := Lib.hid hs1
  have hW2' : W1.alloc (.cells #[.slice ad L.length cp, .int .i64 0, .int .u64 0] 44) = W2 := hW2
  clear hc1 hr1 hb1 hbW0 hbW1 hzW0 hzW1 hzA h HN hW2 hs1
  go_enter Tryd.func13, Tryd.ntmps13
  go_wp2_with fail
  try rw [hW0]
  try rw [hW1]
  try rw [hW2']
  refine (HA.out).mono ?_
  rintro e w3 ⟨⟨N, hN, rfl⟩, hc3, hg3⟩
  have HB := Lib.hid (board5_any (w.heap.size + 2) _ L (0 + 2) N w3 hN (by omega) hc3 (HR1.out.grown hg3))
  have HG3 := Lib.hid hg3
  have HC3 : Hid (w.heap.size + 2 < w3.heap.size) := Lib.hid (by have := hg3.size; have := HS1.out; omega)
  clear hc3 hg3
  go_wp2_with fail
  refine (HB.out).mono ?_
  rintro e w4 ⟨⟨v1, v2, ls, ss, rfl, hx, hl1, hl2⟩, hc4, hg4⟩
  obtain ⟨a1, c1, a2, c2, rfl, rfl⟩ := hx.1.form
  have hga := grown_alloc w4 (.cells #[.slice a1 ls.length c1, .slice a2 ss.length c2] 26) none
  have hg5 := grown_trans (grown_trans HG3.out hg4) (grown_any (r := some (w.heap.size + 2)) hga)
  have HX4 : Hid (w.heap.size + 2 < w4.heap.size) := Lib.hid (by have := hg4.size; have := HC3.out; omega)
  have HL := Lib.hid (⟨hl1, hl2⟩ : ls.length ≤ 7 ∧ ss.length ≤ 7)
  have HX5 := Lib.hid ((hx.alloc (.cells #[.slice a1 ls.length c1, .slice a2 ss.length c2] 26)).mono (B' := w3.heap.size) (Nat.le_refl _))
  have HK5 : Hid ((w4.alloc (.cells #[.slice a1 ls.length c1, .slice a2 ss.length c2] 26)).heap[w4.heap.size]? = some (.cells #[.slice a1 ls.length c1, .slice a2 ss.length c2] 26 (0, 0))) := Lib.hid (alloc_at rfl)
  have HO := Lib.hid (one_any (w.heap.size + 2) _ L (0 + 2 + 100) 8 _ (by omega) ⟨by omega, by omega⟩ (hc4.old hga) (HR1.out.grown hg5))
  have HG5 := Lib.hid hg5
  clear hx hl1 hl2 hc4 hg4 hga hg5
  go_wp2_with fail
  refine (HO.out).mono ?_
  rintro e w5 ⟨⟨b, rfl⟩, hc5, hg5⟩
  have HG := Lib.hid (grown_trans HG5.out hg5)
  have HC := Lib.hid hc5
  have HX := Lib.hid (HX5.out.grown hg5 HC3.out)
  have HK := Lib.hid ((hg5.block _ (lt_of_block HK5.out) (by intro e; have := HX4.out; injection e with e; omega)).trans HK5.out)
  clear hc5 hg5 HG5 HX5 HK5
  cases b with
  | false =>
    obtain ⟨c0, c1', f0, f1⟩ := cell2 HK.out
    go_wp2_with fail
    refine wp_region_held_drew (S := (fun u => u.cell? ⟨w4.heap.size, 0, none⟩ = some (.slice a1 ls.length c1) ∧ u.cell? ⟨w4.heap.size, 1, none⟩ = some (.slice a2 ss.length c2))) (by kernel_rfl) (⟨c0, c1'⟩) (fun hHeld => ?_)
    have HGd := Lib.hid (grown_trans HG.out (grown_drewN w5 1 (some (w.heap.size + 2))))
    have HCd : Hid (CurAt w5.drew (w.heap.size + 2) (.slice ad L.length cp) (0 + 2 + 100 + 2)) := Lib.hid (HC.out.old (grown_drewN w5 1 none))
    have HXd := Lib.hid (HX.out.grown (grown_drewN w5 1 (some (w.heap.size + 2))) HC3.out)
    have HKd : Hid (w5.drew.heap[w4.heap.size]? = some (.cells #[.slice a1 ls.length c1, .slice a2 ss.length c2] 26 (0, 0))) := HK
    change Hid (W2.grownBy w5.drew _) at HGd
    change Hid (BrdX _ w5.drew _ _ _ _) at HXd
    generalize w5.drew = wd at HGd HCd HXd HKd hHeld ⊢
    clear c0 c1' f0 f1
    obtain ⟨c0, c1', f0, f1⟩ := cell2 HKd.out
    refine take1 (i := 0) (v := ?v1) (some 19) rfl rfl (by kernel_rfl) (by kernel_rfl) (by kernel_rfl) (fun _ _ _ h => h) (Or.inl ⟨by rfl, ?y1⟩) (by assumption) ?r1
    case y1 => (intro w hSw; (try dsimp only at hSw); go_simp; (first | done | with_reducible rfl))
    try simp only [Act.put, List.setIfInBounds_toArray, List.set_cons_zero, List.set_cons_succ]
    refine take1 (i := 1) (v := ?v2) (some 20) rfl rfl (by kernel_rfl) (by kernel_rfl) (by kernel_rfl) (fun _ _ _ h => h) (Or.inl ⟨by rfl, ?y2⟩) (by assumption) ?r2
    case y2 => (intro w hSw; (try dsimp only at hSw); go_simp; (first | done | with_reducible rfl))
    try simp only [Act.put, List.setIfInBounds_toArray, List.set_cons_zero, List.set_cons_succ]
    refine take1 (i := 2) (v := ?v3) (some 21) rfl rfl (by kernel_rfl) (by kernel_rfl) (by kernel_rfl) (fun _ _ _ h => h) (Or.inl ⟨by rfl, ?y3⟩) (by assumption) ?r3
    case y3 => (intro w hSw; (try dsimp only at hSw); go_simp; (first | done | with_reducible rfl))
    try simp only [Act.put, List.setIfInBounds_toArray, List.set_cons_zero, List.set_cons_succ]
    refine wpAnyH_ready (rs := [3]) (by kernel_rfl) (by simp) ?_
    refine AllReadyH.cons rfl (fun K hK => ?_) AllReadyH.nil
    go_simp
    go_at_call 23
    refine (board5_any (w.heap.size + 2) _ L (0 + 2 + 100 + 2) N wd hN (by omega) HCd.out (HR1.out.grown HGd.out)).mono ?_
    rintro e w8 ⟨⟨u1, u2, ps, qs, rfl, hy, hl3, hl4⟩, hc8, hg8⟩
    have hg := grown_trans HGd.out hg8
    have HY8 := Lib.hid (hy.mono (B' := w.heap.size + 2) (by have := HGd.out.size; have := HS1.out; omega))
    have HX8 := Lib.hid (HXd.out.grown hg8 HC3.out)
    have HK8 := Lib.hid ((hg8.block _ (lt_of_block HKd.out) (by intro e; have := HX4.out; injection e with e; omega)).trans HKd.out)
    have HZA8 := Lib.hid ((hg.block w.heap.size (by have := HS1.out; omega) (by intro e; injection e with e; omega)).trans HZA.out)
    have HZB8 := Lib.hid ((hg.block (w.heap.size + 1) (by have := HS1.out; omega) (by intro e; injection e with e; omega)).trans HZB.out)
    have HBL8 := Lib.hid (HB1.out.grown hg HB1.out.size (fun k e => by cases e; exact Nat.le_add_right _ 2))
    obtain ⟨b1, d1, b2, d2, rfl, rfl⟩ := hy.1.form
    clear hy hc8 hg8 hg c0 c1' f0 f1
    obtain ⟨c0, c1', f0, f1⟩ := cell2 HK8.out
    refine hK.out _ _ (⟨c0, c1'⟩) (fun hHeld => ?_)
    clear hK K
    try simp only [Act.put, List.setIfInBounds_toArray, List.set_cons_zero, List.set_cons_succ]
    refine wpAnyH_ready (rs := [4]) (by kernel_rfl) (by simp) ?_
    refine AllReadyH.cons rfl (fun K hK => ?_) AllReadyH.nil
    have hx9 := (HX8.out.set ⟨w.heap.size, 0, none⟩ (by show w.heap.size < w3.heap.size; have := HC3.out; omega) (.slice a1 ls.length c1)).set ⟨w.heap.size, 1, none⟩ (by show w.heap.size < w3.heap.size; have := HC3.out; omega) (.slice a2 ss.length c2)
    have hy9 := (HY8.out.set ⟨w.heap.size, 0, none⟩ (by show w.heap.size < w.heap.size + 2; omega) (.slice a1 ls.length c1)).set ⟨w.heap.size, 1, none⟩ (by show w.heap.size < w.heap.size + 2; omega) (.slice a2 ss.length c2)
    have hk9 : ((w8.setCell ⟨w.heap.size, 0, none⟩ (.slice a1 ls.length c1)).setCell ⟨w.heap.size, 1, none⟩ (.slice a2 ss.length c2)).heap[w4.heap.size]? = some (.cells #[.slice a1 ls.length c1, .slice a2 ss.length c2] 26 (0, 0)) := (heap_setCell_other (w8.setCell ⟨w.heap.size, 0, none⟩ (.slice a1 ls.length c1)) ⟨w.heap.size, 1, none⟩ _ (.slice a2 ss.length c2) (by show w4.heap.size ≠ w.heap.size; have := HX4.out; omega)).trans ((heap_setCell_other w8 ⟨w.heap.size, 0, none⟩ _ (.slice a1 ls.length c1) (by show w4.heap.size ≠ w.heap.size; have := HX4.out; omega)).trans HK8.out)
    have hz9 := box2_set HZA8.out (.slice a1 ls.length c1) (.slice a2 ss.length c2)
    have ho9 := (heap_setCell_other (w8.setCell ⟨w.heap.size, 0, none⟩ (.slice a1 ls.length c1)) ⟨w.heap.size, 1, none⟩ _ (.slice a2 ss.length c2) (by show w.heap.size + 1 ≠ w.heap.size; have := HX4.out; omega)).trans ((heap_setCell_other w8 ⟨w.heap.size, 0, none⟩ _ (.slice a1 ls.length c1) (by show w.heap.size + 1 ≠ w.heap.size; have := HX4.out; omega)).trans HZB8.out)
    have hb9 := (HBL8.out.setCell (p := ⟨w.heap.size, 0, none⟩) (by show w.heap.size ≤ w.heap.size; omega) (.slice a1 ls.length c1)).setCell (p := ⟨w.heap.size, 1, none⟩) (by show w.heap.size ≤ w.heap.size; omega) (.slice a2 ss.length c2)
    obtain ⟨z0, z1, y0, y1⟩ := cell2 HZA8.out
    go_simp
    generalize (w8.setCell ⟨w.heap.size, 0, none⟩ (.slice a1 ls.length c1)).setCell ⟨w.heap.size, 1, none⟩ (.slice a2 ss.length c2) = w9 at hx9 hy9 hk9 hz9 ho9 hb9 ⊢
    have HX9 := Lib.hid hx9
    have HY9 := Lib.hid hy9
    have HK9 := Lib.hid hk9
    have HZA9 := Lib.hid hz9
    have HZB9 := Lib.hid ho9
    have HBL9 := Lib.hid hb9
    clear hx9 hy9 hk9 hz9 ho9 hb9 z0 z1 y0 y1 c0 c1' f0 f1
    obtain ⟨c0, c1', f0, f1⟩ := cell2 HK9.out
    refine hK.out _ _ (⟨c0, c1'⟩) (fun hHeld => ?_)
    clear hK K
    try simp only [Act.put]
    refine wpAnyH_ready (rs := [5]) (by kernel_rfl) (by simp) ?_
    refine AllReadyH.cons rfl (fun K hK => ?_) AllReadyH.nil
    have hx9 := (HX9.out.set ⟨w.heap.size + 1, 0, none⟩ (by show w.heap.size + 1 < w3.heap.size; have := HC3.out; omega) (.slice b1 ps.length d1)).set ⟨w.heap.size + 1, 1, none⟩ (by show w.heap.size + 1 < w3.heap.size; have := HC3.out; omega) (.slice b2 qs.length d2)
    have hy9 := (HY9.out.set ⟨w.heap.size + 1, 0, none⟩ (by show w.heap.size + 1 < w.heap.size + 2; omega) (.slice b1 ps.length d1)).set ⟨w.heap.size + 1, 1, none⟩ (by show w.heap.size + 1 < w.heap.size + 2; omega) (.slice b2 qs.length d2)
    have hk9 : ((w9.setCell ⟨w.heap.size + 1, 0, none⟩ (.slice b1 ps.length d1)).setCell ⟨w.heap.size + 1, 1, none⟩ (.slice b2 qs.length d2)).heap[w4.heap.size]? = some (.cells #[.slice a1 ls.length c1, .slice a2 ss.length c2] 26 (0, 0)) := (heap_setCell_other (w9.setCell ⟨w.heap.size + 1, 0, none⟩ (.slice b1 ps.length d1)) ⟨w.heap.size + 1, 1, none⟩ _ (.slice b2 qs.length d2) (by show w4.heap.size ≠ w.heap.size + 1; have := HX4.out; omega)).trans ((heap_setCell_other w9 ⟨w.heap.size + 1, 0, none⟩ _ (.slice b1 ps.length d1) (by show w4.heap.size ≠ w.heap.size + 1; have := HX4.out; omega)).trans HK9.out)
    have hz9 := box2_set HZB9.out (.slice b1 ps.length d1) (.slice b2 qs.length d2)
    have ho9 := (heap_setCell_other (w9.setCell ⟨w.heap.size + 1, 0, none⟩ (.slice b1 ps.length d1)) ⟨w.heap.size + 1, 1, none⟩ _ (.slice b2 qs.length d2) (by show w.heap.size ≠ w.heap.size + 1; have := HX4.out; omega)).trans ((heap_setCell_other w9 ⟨w.heap.size + 1, 0, none⟩ _ (.slice b1 ps.length d1) (by show w.heap.size ≠ w.heap.size + 1; have := HX4.out; omega)).trans HZA9.out)
    have hb9 := (HBL9.out.setCell (p := ⟨w.heap.size + 1, 0, none⟩) (by show w.heap.size ≤ w.heap.size + 1; omega) (.slice b1 ps.length d1)).setCell (p := ⟨w.heap.size + 1, 1, none⟩) (by show w.heap.size ≤ w.heap.size + 1; omega) (.slice b2 qs.length d2)
    obtain ⟨z0, z1, y0, y1⟩ := cell2 HZB9.out
    go_simp
    generalize (w9.setCell ⟨w.heap.size + 1, 0, none⟩ (.slice b1 ps.length d1)).setCell ⟨w.heap.size + 1, 1, none⟩ (.slice b2 qs.length d2) = w10 at hx9 hy9 hk9 hz9 ho9 hb9 ⊢
    have HX10 := Lib.hid hx9
    have HY10 := Lib.hid hy9
    have HK10 := Lib.hid hk9
    have HZB10 := Lib.hid hz9
    have HZA10 := Lib.hid ho9
    have HBL10 := Lib.hid hb9
    clear hx9 hy9 hk9 hz9 ho9 hb9 z0 z1 y0 y1 c0 c1' f0 f1
    obtain ⟨c0, c1', f0, f1⟩ := cell2 HK10.out
    refine hK.out _ _ (⟨c0, c1'⟩) (fun hHeld => ?_)
    clear hK K
    try simp only [Act.put]
    refine wpAnyH_done (by kernel_rfl) ?_ _
    obtain ⟨z0, z1, y0, y1⟩ := cell2 HZA10.out
    obtain ⟨z2, z3, y2, y3⟩ := cell2 HZB10.out
    clear c0 c1' f0 f1
    go_wp2_with fail
    exact bodyPost_ret (v := .tuple #[.agg #[.slice a1 ls.length c1, .slice a2 ss.length c2], .agg #[.slice b1 ps.length d1, .slice b2 qs.length d2]]) (by simp [results, Tryd.results13, go_sem, z0, z1, z2, z3]) rfl ⟨⟨_, _, _, _, ls, ss, ps, qs, rfl, ⟨HX10.out.mono (by have := HC3.out; omega), HL.out.1, HL.out.2⟩, HY10.out.mono (by omega), hl3, hl4⟩, HBL10.out⟩
  | true =>
    have HA6 := Lib.hid (lines5_any (w.heap.size + 2) _ L (0 + 2 + 100 + 2) w5 (by omega) HC.out (HR1.out.grown HG.out))
    go_wp2_with fail
    refine (HA6.out).mono ?_
    rintro e w6 ⟨⟨N2, hN2, rfl⟩, hc6, hg6⟩
    replace HG := Lib.hid (grown_trans HG.out hg6)
    replace HC := Lib.hid hc6
    replace HX := Lib.hid (HX.out.grown hg6 HC3.out)
    replace HK := Lib.hid ((hg6.block _ (lt_of_block HK.out) (by intro e; have := HX4.out; injection e with e; omega)).trans HK.out)
    clear hc6 hg6
    obtain ⟨c0, c1', f0, f1⟩ := cell2 HK.out
    go_wp2_with fail
    refine wp_region_held_drew (S := (fun u => u.cell? ⟨w4.heap.size, 0, none⟩ = some (.slice a1 ls.length c1) ∧ u.cell? ⟨w4.heap.size, 1, none⟩ = some (.slice a2 ss.length c2))) (by kernel_rfl) (⟨c0, c1'⟩) (fun hHeld => ?_)
    have HGd := Lib.hid (grown_trans HG.out (grown_drewN w6 1 (some (w.heap.size + 2))))
    have HCd : Hid (CurAt w6.drew (w.heap.size + 2) (.slice ad L.length cp) (0 + 2 + 100 + 2 + 2)) := Lib.hid (HC.out.old (grown_drewN w6 1 none))
    have HXd := Lib.hid (HX.out.grown (grown_drewN w6 1 (some (w.heap.size + 2))) HC3.out)
    have HKd : Hid (w6.drew.heap[w4.heap.size]? = some (.cells #[.slice a1 ls.length c1, .slice a2 ss.length c2] 26 (0, 0))) := HK
    change Hid (W2.grownBy w6.drew _) at HGd
    change Hid (BrdX _ w6.drew _ _ _ _) at HXd
    generalize w6.drew = wd at HGd HCd HXd HKd hHeld ⊢
    clear c0 c1' f0 f1
    obtain ⟨c0, c1', f0, f1⟩ := cell2 HKd.out
    refine take1 (i := 0) (v := ?v4) (some 19) rfl rfl (by kernel_rfl) (by kernel_rfl) (by kernel_rfl) (fun _ _ _ h => h) (Or.inl ⟨by rfl, ?y4⟩) (by assumption) ?r4
    case y4 => (intro w hSw; (try dsimp only at hSw); go_simp; (first | done | with_reducible rfl))
    try simp only [Act.put, List.setIfInBounds_toArray, List.set_cons_zero, List.set_cons_succ]
    refine take1 (i := 1) (v := ?v5) (some 20) rfl rfl (by kernel_rfl) (by kernel_rfl) (by kernel_rfl) (fun _ _ _ h => h) (Or.inl ⟨by rfl, ?y5⟩) (by assumption) ?r5
    case y5 => (intro w hSw; (try dsimp only at hSw); go_simp; (first | done | with_reducible rfl))
    try simp only [Act.put, List.setIfInBounds_toArray, List.set_cons_zero, List.set_cons_succ]
    refine take1 (i := 2) (v := ?v6) (some 21) rfl rfl (by kernel_rfl) (by kernel_rfl) (by kernel_rfl) (fun _ _ _ h => h) (Or.inl ⟨by rfl, ?y6⟩) (by assumption) ?r6
    case y6 => (intro w hSw; (try dsimp only at hSw); go_simp; (first | done | with_reducible rfl))
    try simp only [Act.put, List.setIfInBounds_toArray, List.set_cons_zero, List.set_cons_succ]
    refine wpAnyH_ready (rs := [3]) (by kernel_rfl) (by simp) ?_
    refine AllReadyH.cons rfl (fun K hK => ?_) AllReadyH.nil
    go_simp
    go_at_call 23
    refine (board5_any (w.heap.size + 2) _ L (0 + 2 + 100 + 2 + 2) N2 wd hN2 (by omega) HCd.out (HR1.out.grown HGd.out)).mono ?_
    rintro e w8 ⟨⟨u1, u2, ps, qs, rfl, hy, hl3, hl4⟩, hc8, hg8⟩
    have hg := grown_trans HGd.out hg8
    have HY8 := Lib.hid (hy.mono (B' := w.heap.size + 2) (by have := HGd.out.size; have := HS1.out; omega))
    have HX8 := Lib.hid (HXd.out.grown hg8 HC3.out)
    have HK8 := Lib.hid ((hg8.block _ (lt_of_block HKd.out) (by intro e; have := HX4.out; injection e with e; omega)).trans HKd.out)
    have HZA8 := Lib.hid ((hg.block w.heap.size (by have := HS1.out; omega) (by intro e; injection e with e; omega)).trans HZA.out)
    have HZB8 := Lib.hid ((hg.block (w.heap.size + 1) (by have := HS1.out; omega) (by intro e; injection e with e; omega)).trans HZB.out)
    have HBL8 := Lib.hid (HB1.out.grown hg HB1.out.size (fun k e => by cases e; exact Nat.le_add_right _ 2))
    obtain ⟨b1, d1, b2, d2, rfl, rfl⟩ := hy.1.form
    clear hy hc8 hg8 hg c0 c1' f0 f1
    obtain ⟨c0, c1', f0, f1⟩ := cell2 HK8.out
    refine hK.out _ _ (⟨c0, c1'⟩) (fun hHeld => ?_)
    clear hK K
    try simp only [Act.put, List.setIfInBounds_toArray, List.set_cons_zero, List.set_cons_succ]
    refine wpAnyH_ready (rs := [4]) (by kernel_rfl) (by simp) ?_
    refine AllReadyH.cons rfl (fun K hK => ?_) AllReadyH.nil
    have hx9 := (HX8.out.set ⟨w.heap.size, 0, none⟩ (by show w.heap.size < w3.heap.size; have := HC3.out; omega) (.slice a1 ls.length c1)).set ⟨w.heap.size, 1, none⟩ (by show w.heap.size < w3.heap.size; have := HC3.out; omega) (.slice a2 ss.length c2)
    have hy9 := (HY8.out.set ⟨w.heap.size, 0, none⟩ (by show w.heap.size < w.heap.size + 2; omega) (.slice a1 ls.length c1)).set ⟨w.heap.size, 1, none⟩ (by show w.heap.size < w.heap.size + 2; omega) (.slice a2 ss.length c2)
    have hk9 : ((w8.setCell ⟨w.heap.size, 0, none⟩ (.slice a1 ls.length c1)).setCell ⟨w.heap.size, 1, none⟩ (.slice a2 ss.length c2)).heap[w4.heap.size]? = some (.cells #[.slice a1 ls.length c1, .slice a2 ss.length c2] 26 (0, 0)) := (heap_setCell_other (w8.setCell ⟨w.heap.size, 0, none⟩ (.slice a1 ls.length c1)) ⟨w.heap.size, 1, none⟩ _ (.slice a2 ss.length c2) (by show w4.heap.size ≠ w.heap.size; have := HX4.out; omega)).trans ((heap_setCell_other w8 ⟨w.heap.size, 0, none⟩ _ (.slice a1 ls.length c1) (by show w4.heap.size ≠ w.heap.size; have := HX4.out; omega)).trans HK8.out)
    have hz9 := box2_set HZA8.out (.slice a1 ls.length c1) (.slice a2 ss.length c2)
    have ho9 := (heap_setCell_other (w8.setCell ⟨w.heap.size, 0, none⟩ (.slice a1 ls.length c1)) ⟨w.heap.size, 1, none⟩ _ (.slice a2 ss.length c2) (by show w.heap.size + 1 ≠ w.heap.size; have := HX4.out; omega)).trans ((heap_setCell_other w8 ⟨w.heap.size, 0, none⟩ _ (.slice a1 ls.length c1) (by show w.heap.size + 1 ≠ w.heap.size; have := HX4.out; omega)).trans HZB8.out)
    have hb9 := (HBL8.out.setCell (p := ⟨w.heap.size, 0, none⟩) (by show w.heap.size ≤ w.heap.size; omega) (.slice a1 ls.length c1)).setCell (p := ⟨w.heap.size, 1, none⟩) (by show w.heap.size ≤ w.heap.size; omega) (.slice a2 ss.length c2)
    obtain ⟨z0, z1, y0, y1⟩ := cell2 HZA8.out
    go_simp
    generalize (w8.setCell ⟨w.heap.size, 0, none⟩ (.slice a1 ls.length c1)).setCell ⟨w.heap.size, 1, none⟩ (.slice a2 ss.length c2) = w9 at hx9 hy9 hk9 hz9 ho9 hb9 ⊢
    have HX9 := Lib.hid hx9
    have HY9 := Lib.hid hy9
    have HK9 := Lib.hid hk9
    have HZA9 := Lib.hid hz9
    have HZB9 := Lib.hid ho9
    have HBL9 := Lib.hid hb9
    clear hx9 hy9 hk9 hz9 ho9 hb9 z0 z1 y0 y1 c0 c1' f0 f1
    obtain ⟨c0, c1', f0, f1⟩ := cell2 HK9.out
    refine hK.out _ _ (⟨c0, c1'⟩) (fun hHeld => ?_)
    clear hK K
    try simp only [Act.put]
    refine wpAnyH_ready (rs := [5]) (by kernel_rfl) (by simp) ?_
    refine AllReadyH.cons rfl (fun K hK => ?_) AllReadyH.nil
    have hx9 := (HX9.out.set ⟨w.heap.size + 1, 0, none⟩ (by show w.heap.size + 1 < w3.heap.size; have := HC3.out; omega) (.slice b1 ps.length d1)).set ⟨w.heap.size + 1, 1, none⟩ (by show w.heap.size + 1 < w3.heap.size; have := HC3.out; omega) (.slice b2 qs.length d2)
    have hy9 := (HY9.out.set ⟨w.heap.size + 1, 0, none⟩ (by show w.heap.size + 1 < w.heap.size + 2; omega) (.slice b1 ps.length d1)).set ⟨w.heap.size + 1, 1, none⟩ (by show w.heap.size + 1 < w.heap.size + 2; omega) (.slice b2 qs.length d2)
    have hk9 : ((w9.setCell ⟨w.heap.size + 1, 0, none⟩ (.slice b1 ps.length d1)).setCell ⟨w.heap.size + 1, 1, none⟩ (.slice b2 qs.length d2)).heap[w4.heap.size]? = some (.cells #[.slice a1 ls.length c1, .slice a2 ss.length c2] 26 (0, 0)) := (heap_setCell_other (w9.setCell ⟨w.heap.size + 1, 0, none⟩ (.slice b1 ps.length d1)) ⟨w.heap.size + 1, 1, none⟩ _ (.slice b2 qs.length d2) (by show w4.heap.size ≠ w.heap.size + 1; have := HX4.out; omega)).trans ((heap_setCell_other w9 ⟨w.heap.size + 1, 0, none⟩ _ (.slice b1 ps.length d1) (by show w4.heap.size ≠ w.heap.size + 1; have := HX4.out; omega)).trans HK9.out)
    have hz9 := box2_set HZB9.out (.slice b1 ps.length d1) (.slice b2 qs.length d2)
    have ho9 := (heap_setCell_other (w9.setCell ⟨w.heap.size + 1, 0, none⟩ (.slice b1 ps.length d1)) ⟨w.heap.size + 1, 1, none⟩ _ (.slice b2 qs.length d2) (by show w.heap.size ≠ w.heap.size + 1; have := HX4.out; omega)).trans ((heap_setCell_other w9 ⟨w.heap.size + 1, 0, none⟩ _ (.slice b1 ps.length d1) (by show w.heap.size ≠ w.heap.size + 1; have := HX4.out; omega)).trans HZA9.out)
    have hb9 := (HBL9.out.setCell (p := ⟨w.heap.size + 1, 0, none⟩) (by show w.heap.size ≤ w.heap.size + 1; omega) (.slice b1 ps.length d1)).setCell (p := ⟨w.heap.size + 1, 1, none⟩) (by show w.heap.size ≤ w.heap.size + 1; omega) (.slice b2 qs.length d2)
    obtain ⟨z0, z1, y0, y1⟩ := cell2 HZB9.out
    go_simp
    generalize (w9.setCell ⟨w.heap.size + 1, 0, none⟩ (.slice b1 ps.length d1)).setCell ⟨w.heap.size + 1, 1, none⟩ (.slice b2 qs.length d2) = w10 at hx9 hy9 hk9 hz9 ho9 hb9 ⊢
    have HX10 := Lib.hid hx9
    have HY10 := Lib.hid hy9
    have HK10 := Lib.hid hk9
    have HZB10 := Lib.hid hz9
    have HZA10 := Lib.hid ho9
    have HBL10 := Lib.hid hb9
    clear hx9 hy9 hk9 hz9 ho9 hb9 z0 z1 y0 y1 c0 c1' f0 f1
    obtain ⟨c0, c1', f0, f1⟩ := cell2 HK10.out
    refine hK.out _ _ (⟨c0, c1'⟩) (fun hHeld => ?_)
    clear hK K
    try simp only [Act.put]
    refine wpAnyH_done (by kernel_rfl) ?_ _
    obtain ⟨z0, z1, y0, y1⟩ := cell2 HZA10.out
    obtain ⟨z2, z3, y2, y3⟩ := cell2 HZB10.out
    clear c0 c1' f0 f1
    go_wp2_with fail
    exact bodyPost_ret (v := .tuple #[.agg #[.slice a1 ls.length c1, .slice a2 ss.length c2], .agg #[.slice b1 ps.length d1, .slice b2 qs.length d2]]) (by simp [results, Tryd.results13, go_sem, z0, z1, z2, z3]) rfl ⟨⟨_, _, _, _, ls, ss, ps, qs, rfl, ⟨HX10.out.mono (by have := HC3.out; omega), HL.out.1, HL.out.2⟩, HY10.out.mono (by omega), hl3, hl4⟩, HBL10.out⟩
end Go.Proofs.YtbdddpchlmddbaaDoor
