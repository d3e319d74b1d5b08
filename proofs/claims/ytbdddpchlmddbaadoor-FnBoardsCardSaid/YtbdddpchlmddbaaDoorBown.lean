/- The model's copy of a board; whether there is a place. -/
import Derived.Test.YtbdddpchlmddbaaDoorBgood
import Derived.Test.YtbdddpchlmddbaaDoorAppn
import Derived.Deep.RegionLaw
namespace Go.Proofs.YtbdddpchlmddbaaDoor
set_option linter.unusedVariables false
open Go.RowKit

theorem inC_one (p : Int) : ∀ u ∈ inC p, u.oneCell' = true := by intro u hu; simp [inC] at hu; subst hu; rfl
set_option maxRecDepth 100000 in
set_option maxHeartbeats 1600000 in
theorem l1Own_any (v : Value) (ps : List Int) (w : World) (h : RowsR 1 inC w v ps) (hn : ps.length ≤ 1048576) :
    Calls Tryd.prog 44 #[v] w fun e w' => (∃ v', e = .returned v' ∧ w'.ownsRow w.heap.size 3 1 v' ps.length (flatC inC ps)) ∧ Below w.heap.size w w' := by
  obtain ⟨i0, hi, hz0, hz1, hz2⟩ := info_parts Tryd.infoI5
  obtain ⟨a, c, rfl⟩ := h.form
  have HSRC := Lib.hid (h.src inC_len (by omega))
  clear h
  go_enter Tryd.func44, Tryd.ntmps44
  go_wp2_with (at_builtin; refine wpList_append_src rfl _ _ 24 rfl w.heap.size 3 i0 (.int .i64 0) 1 8 Tryd.underlying24 hi hz0 hz1 hz2 rfl (by decide) inC_len inC_one w.heap.size rfl (World.ownsRow_made w #[] 0 (Nat.le_refl _) (Nat.zero_le _) (by simp)) a c ps rfl ?qc1 ?qc4 ?qc5 ?qc6 ?_)
  case qc1 =>
    rcases HSRC.out with h | ⟨ad, h1, h2⟩
    · exact .inl h
    · exact .inr ⟨ad, h1, h2 _ ((Below.refl _ w).alloc (Nat.le_refl _) _)⟩
  case qc4 => unfold maxLen; omega
  case qc5 => omega
  case qc6 => simp
  intro v' w1 hown hgrow
  have HO := Lib.hid hown
  have HB := Lib.hid (((Below.refl _ w).alloc (Nat.le_refl _) _).grown hgrow (by simp) (by intro k hk; simp at hk; omega))
  clear hown hgrow
  go_wp2_with fail
  go_ret
  exact ⟨⟨v', rfl, HO.out⟩, HB.out⟩

set_option maxRecDepth 100000 in
set_option maxHeartbeats 3200000 in
theorem l5Own_any (v1 v2 : Value) (ls ss : List Int) (w : World) (h : BrdR w v1 v2 ls ss) (hn1 : ls.length ≤ 1048576) (hn2 : ss.length ≤ 1048576) :
    Calls Tryd.prog 35 #[.agg #[v1, v2]] w fun e w' => (∃ s1 s2, e = .returned (.agg #[s1, s2]) ∧ OwB w.heap.size w'.heap.size w' s1 s2 ls ss) ∧ Below w.heap.size w w' := by
  obtain ⟨a1, c1, a2, c2, rfl, rfl⟩ := h.form
  have HB0 : Hid (Below w.heap.size w w) := Lib.hid (Below.refl _ _)
  have HRf0 := Lib.hid (h)
  clear h
  go_enter Tryd.func35, Tryd.ntmps35
  go_wp2_with fail
  have hb : Below w.heap.size w (w.alloc (.cells #[.slice a1 ls.length c1, .slice a2 ss.length c2] 26)) := (Below.refl _ _).alloc (Nat.le_refl _) _
  have hk : (w.alloc (.cells #[.slice a1 ls.length c1, .slice a2 ss.length c2] 26)).heap[w.heap.size]? = some (.cells #[.slice a1 ls.length c1, .slice a2 ss.length c2] 26 (0, 0)) := alloc_at rfl
  have hz : (w.alloc (.cells #[.slice a1 ls.length c1, .slice a2 ss.length c2] 26)).heap.size = w.heap.size + 1 := by simp
  generalize w.alloc (.cells #[.slice a1 ls.length c1, .slice a2 ss.length c2] 26) = w1 at hb hk hz ⊢
  have HB1 : Hid (Below w.heap.size w w1) := Lib.hid (HB0.out.trans (hb.mono HB0.out.size))
  have HZ1 : Hid (w.heap.size ≤ w1.heap.size) := Lib.hid hb.size
  have HRf1 := Lib.hid (HRf0.out.below HB1.out (Nat.le_refl _))
  have HKb1 := Lib.hid hk
  replace HZ1 : Hid (w.heap.size < w1.heap.size) := Lib.hid (by omega)
  have HE1 := Lib.hid hz
  clear hb hk hz
  have hb : Below w1.heap.size w1 (w1.alloc (.cells #[.slice none 0 0, .slice none 0 0] 26)) := (Below.refl _ _).alloc (Nat.le_refl _) _
  have hk : (w1.alloc (.cells #[.slice none 0 0, .slice none 0 0] 26)).heap[w.heap.size + 1]? = some (.cells #[.slice none 0 0, .slice none 0 0] 26 (0, 0)) := alloc_at (by have := HE1.out; omega)
  have hz : (w1.alloc (.cells #[.slice none 0 0, .slice none 0 0] 26)).heap.size = w1.heap.size + 1 := by simp
  generalize w1.alloc (.cells #[.slice none 0 0, .slice none 0 0] 26) = w2 at hb hk hz ⊢
  have HB2 : Hid (Below w.heap.size w w2) := Lib.hid (HB1.out.trans (hb.mono HB1.out.size))
  have HZ2 : Hid (w1.heap.size ≤ w2.heap.size) := Lib.hid hb.size
  have HRf2 := Lib.hid (HRf0.out.below HB2.out (Nat.le_refl _))
  have HKb2 := Lib.hid ((hb.block _ (lt_of_block HKb1.out)).trans HKb1.out)
  have HKz2 := Lib.hid hk
  replace HZ2 : Hid (w1.heap.size < w2.heap.size) := Lib.hid (by omega)
  have HE2 := Lib.hid hz
  clear hb hk hz
  have ltb := lt_of_block HKb2.out
  obtain ⟨cb0, cb1, fb0, fb1⟩ := cell2 HKb2.out
  have ltz := lt_of_block HKz2.out
  obtain ⟨cz0, cz1, fz0, fz1⟩ := cell2 HKz2.out
  have hlz : w.heap.size + 1 < w2.heap.size := ltz
  go_wp2_with fail
  refine wp_region_held_drew (S := (fun w' => w'.cell? ⟨w.heap.size, 0, none⟩ = some (.slice a1 ls.length c1) ∧ w'.cell? ⟨w.heap.size, 1, none⟩ = some (.slice a2 ss.length c2))) (by kernel_rfl) (⟨cb0, cb1⟩) (fun hHeld => ?_)
  have hb : Below w2.heap.size w2 w2.drew := (Below.refl _ _).drew
  generalize w2.drew = w3 at hb hHeld ⊢
  have HB3 : Hid (Below w.heap.size w w3) := Lib.hid (HB2.out.trans (hb.mono HB2.out.size))
  have HZ3 : Hid (w2.heap.size ≤ w3.heap.size) := Lib.hid hb.size
  have HRf3 := Lib.hid (HRf0.out.below HB3.out (Nat.le_refl _))
  have HKb3 := Lib.hid ((hb.block _ (lt_of_block HKb2.out)).trans HKb2.out)
  have HKz3 := Lib.hid ((hb.block _ (lt_of_block HKz2.out)).trans HKz2.out)
  clear hb
  clear cb0 cb1 fb0 fb1 ltb cz0 cz1 fz0 fz1 ltz
  have ltb := lt_of_block HKb3.out
  obtain ⟨cb0, cb1, fb0, fb1⟩ := cell2 HKb3.out
  have ltz := lt_of_block HKz3.out
  obtain ⟨cz0, cz1, fz0, fz1⟩ := cell2 HKz3.out
  refine take1 (i := 0) (v := ?v1) (some 3) rfl rfl (by kernel_rfl) (by kernel_rfl) (by kernel_rfl) (fun _ _ _ h => h) (Or.inl ⟨by rfl, ?y1⟩) (by assumption) ?r1
  case y1 => (intro w hSw; (try dsimp only at hSw); go_simp; (first | done | with_reducible rfl))
  try simp only [Act.put, List.setIfInBounds_toArray, List.set_cons_zero, List.set_cons_succ]
  refine take1 (i := 1) (v := ?v2) (some 4) rfl rfl (by kernel_rfl) (by kernel_rfl) (by kernel_rfl) (fun _ _ _ h => h) (Or.inl ⟨by rfl, ?y2⟩) (by assumption) ?r2
  case y2 => (intro w hSw; (try dsimp only at hSw); go_simp; (first | done | with_reducible rfl))
  try simp only [Act.put, List.setIfInBounds_toArray, List.set_cons_zero, List.set_cons_succ]
  refine take1 (i := 3) (v := ?v3) (some 6) rfl rfl (by kernel_rfl) (by kernel_rfl) (by kernel_rfl) (fun _ _ _ h => h) (Or.inl ⟨by rfl, ?y3⟩) (by assumption) ?r3
  case y3 => (intro w hSw; (try dsimp only at hSw); go_simp; (first | done | with_reducible rfl))
  try simp only [Act.put, List.setIfInBounds_toArray, List.set_cons_zero, List.set_cons_succ]
  refine take1 (i := 4) (v := ?v4) (some 7) rfl rfl (by kernel_rfl) (by kernel_rfl) (by kernel_rfl) (fun _ _ _ h => h) (Or.inl ⟨by rfl, ?y4⟩) (by assumption) ?r4
  case y4 => (intro w hSw; (try dsimp only at hSw); go_simp; (first | done | with_reducible rfl))
  try simp only [Act.put, List.setIfInBounds_toArray, List.set_cons_zero, List.set_cons_succ]
  refine wpAnyH_ready (rs := [2]) (by kernel_rfl) (by simp) ?_
  refine AllReadyH.cons rfl (fun K hK => ?_) AllReadyH.nil
  go_simp
  go_at_call 44
  refine (l1Own_any _ ls _ HRf3.out.1 hn1).mono ?_
  rintro e w4 ⟨⟨s1, rfl, ho⟩, hb⟩
  have HB4 : Hid (Below w.heap.size w w4) := Lib.hid (HB3.out.trans (hb.mono HB3.out.size))
  have HZ4 : Hid (w3.heap.size ≤ w4.heap.size) := Lib.hid hb.size
  have HRf4 := Lib.hid (HRf0.out.below HB4.out (Nat.le_refl _))
  have HKb4 := Lib.hid ((hb.block _ (lt_of_block HKb3.out)).trans HKb3.out)
  have HKz4 := Lib.hid ((hb.block _ (lt_of_block HKz3.out)).trans HKz3.out)
  clear hb
  obtain ⟨p1, k1, rfl⟩ := own_form ho
  have HOs4 := Lib.hid (Ow.mk' ho)
  clear ho
  clear cb0 cb1 fb0 fb1 ltb cz0 cz1 fz0 fz1 ltz
  have ltb := lt_of_block HKb4.out
  obtain ⟨cb0, cb1, fb0, fb1⟩ := cell2 HKb4.out
  have ltz := lt_of_block HKz4.out
  obtain ⟨cz0, cz1, fz0, fz1⟩ := cell2 HKz4.out
  try go_simp
  refine hK.out _ _ (⟨cb0, cb1⟩) (fun hHeld => ?_)
  clear hK K
  try simp only [Act.put, List.setIfInBounds_toArray, List.set_cons_zero, List.set_cons_succ]
  refine wpAnyH_ready (rs := [5]) (by kernel_rfl) (by simp) ?_
  refine AllReadyH.cons rfl (fun K hK => ?_) AllReadyH.nil
  go_simp
  go_at_call 44
  refine (l1Own_any _ ss _ HRf4.out.2 hn2).mono ?_
  rintro e w5 ⟨⟨s2, rfl, ho⟩, hb⟩
  have HB5 : Hid (Below w.heap.size w w5) := Lib.hid (HB4.out.trans (hb.mono HB4.out.size))
  have HZ5 : Hid (w4.heap.size ≤ w5.heap.size) := Lib.hid hb.size
  have HRf5 := Lib.hid (HRf0.out.below HB5.out (Nat.le_refl _))
  have HKb5 := Lib.hid ((hb.block _ (lt_of_block HKb4.out)).trans HKb4.out)
  have HKz5 := Lib.hid ((hb.block _ (lt_of_block HKz4.out)).trans HKz4.out)
  have HOs5 := Lib.hid (HOs4.out.next hb)
  clear hb
  obtain ⟨p2, k2, rfl⟩ := own_form ho
  have HOt5 := Lib.hid (Ow.mk' ho)
  clear ho
  clear cb0 cb1 fb0 fb1 ltb cz0 cz1 fz0 fz1 ltz
  have ltb := lt_of_block HKb5.out
  obtain ⟨cb0, cb1, fb0, fb1⟩ := cell2 HKb5.out
  have ltz := lt_of_block HKz5.out
  obtain ⟨cz0, cz1, fz0, fz1⟩ := cell2 HKz5.out
  try go_simp
  refine hK.out _ _ (⟨cb0, cb1⟩) (fun hHeld => ?_)
  clear hK K
  try simp only [Act.put, List.setIfInBounds_toArray, List.set_cons_zero, List.set_cons_succ]
  refine take1 (i := 6) (v := ?v5) (some 9) rfl rfl (by kernel_rfl) (by kernel_rfl) (by kernel_rfl) (fun _ _ _ h => h) (Or.inl ⟨by rfl, ?y5⟩) (by assumption) ?r5
  case y5 => (intro w hSw; (try dsimp only at hSw); go_simp; (first | done | with_reducible rfl))
  try simp only [Act.put, List.setIfInBounds_toArray, List.set_cons_zero, List.set_cons_succ]
  refine wpAnyH_ready (rs := [7]) (by kernel_rfl) (by simp) ?_
  refine AllReadyH.cons rfl (fun K hK => ?_) AllReadyH.nil
  go_simp
  have hm : Btw (w.heap.size + 1) (w.heap.size + 1 + 1) w5 ((w5.setCell ⟨w.heap.size + 1, 0, none⟩ (.slice p1 ls.length k1)).setCell ⟨w.heap.size + 1, 1, none⟩ (.slice p2 ss.length k2)) := ((Btw.refl (w.heap.size + 1) (w.heap.size + 1 + 1) w5).setCell (p := ⟨w.heap.size + 1, 0, none⟩) (Nat.le_refl _) (Nat.lt_succ_self _) _).setCell (p := ⟨w.heap.size + 1, 1, none⟩) (Nat.le_refl _) (Nat.lt_succ_self _) _
  have hkz := box2_set HKz5.out (.slice p1 ls.length k1) (.slice p2 ss.length k2)
  have hlt5 : w3.heap.size ≤ w4.heap.size := by have := HZ1.out; have := HZ2.out; have := HZ3.out; have := HZ4.out; have := HZ5.out;  omega
  have hlz3 : w2.heap.size ≤ w3.heap.size := by have := HZ1.out; have := HZ2.out; have := HZ3.out; have := HZ4.out; have := HZ5.out;  omega
  generalize (w5.setCell ⟨w.heap.size + 1, 0, none⟩ (.slice p1 ls.length k1)).setCell ⟨w.heap.size + 1, 1, none⟩ (.slice p2 ss.length k2) = w6 at hkz hm ⊢
  have HZ6 : Hid (w5.heap.size ≤ w6.heap.size) := Lib.hid hm.size
  have HB6 : Hid (Below w.heap.size w w6) := Lib.hid (HB5.out.trans (hm.below.mono (by have := HZ1.out; have := HZ2.out; have := HZ3.out; have := HZ4.out; have := HZ5.out; have := HB0.out.size; omega)))
  have HRf6 := Lib.hid (HRf0.out.below HB6.out (Nat.le_refl _))
  have HKb6 := Lib.hid ((hm.block _ (by have := lt_of_block HKb5.out; have := HZ1.out; have := HZ2.out; have := HZ3.out; have := HZ4.out; have := HZ5.out; omega)).trans HKb5.out)
  have HOs6 := Lib.hid (HOs5.out.btw hm (by have := HZ1.out; have := HZ2.out; have := HZ3.out; have := HZ4.out; have := HZ5.out; omega))
  have HOt6 := Lib.hid (HOt5.out.btw hm (by have := HZ1.out; have := HZ2.out; have := HZ3.out; have := HZ4.out; have := HZ5.out; omega))
  clear hm
  have HKz6 := Lib.hid (hkz)
  clear hkz
  clear cb0 cb1 fb0 fb1 ltb cz0 cz1 fz0 fz1 ltz
  have ltb := lt_of_block HKb6.out
  obtain ⟨cb0, cb1, fb0, fb1⟩ := cell2 HKb6.out
  have ltz := lt_of_block HKz6.out
  obtain ⟨cz0, cz1, fz0, fz1⟩ := cell2 HKz6.out
  refine hK.out _ _ (⟨cb0, cb1⟩) (fun hHeld => ?_)
  clear hK K
  try simp only [Act.put]
  refine wpAnyH_done (by kernel_rfl) ?_ _
  go_wp2_with fail
  have hlt1 : ∀ g, (Value.slice p1 ls.length k1).ownBlock = some g → g < w4.heap.size := fun g hg => (HOs4.out.1.lt g hg).2
  exact bodyPost_ret (v := .agg #[.slice p1 ls.length k1, .slice p2 ss.length k2]) (by simp [results, Tryd.results35, go_sem, cz0, cz1]) rfl ⟨⟨_, _, rfl, (OwB.mk2 (B := w3.heap.size) HOs6.out.1 HOt6.out.1 (Nat.le_refl _) hlt5 hlt1).mono (by omega) (Nat.le_refl _)⟩, HB6.out⟩
end Go.Proofs.YtbdddpchlmddbaaDoor
