/- Parts laid as one: Lst, Dstd, Dadd, Daddn, Daddm, Vmv. -/
import Derived.Test.YthmbehknacjodaaKa
import Derived.Test.YthmbehknacjodaaDfrm
import Derived.Test.YthmbehknacjodaaKl
import Derived.Test.YthmbehknacjodaaOwn
import Derived.Test.YthmbehknacjodaaKg
import Derived.Test.YthmbehknacjodaaKx
import Derived.Test.YthmbehknacjodaaBeadMoves
import Derived.BigRegion
import Derived.Tactics
import Derived.Tactics2
import Derived.StillTactics
import Derived.Laws.Pointers
import Derived.Laws.Small
import Derived.Laws.StructEq
import Derived.Laws.Tables
import Derived.Laws.Cover2
/-! Lst -/
namespace Go.Proofs.Ythmbehknacjodaa
set_option linter.unusedVariables false
open Go.RowKit

set_option maxRecDepth 100000 in
set_option maxHeartbeats 400000 in
theorem l1Least_any (x y : Int) (w : World) :
    Calls Try.prog 132 #[.int .i64 x, .int .i64 y] w fun e w' => e = .returned (.int .i64 (if x < y then x else y)) ∧ w' = w := by
  by_cases h : x < y
  · rw [if_pos h]
    go_enter Try.func132, Try.ntmps132
    go_wp2_with fail
    go_ret
    exact ⟨rfl, rfl⟩
  · rw [if_neg h]
    go_enter Try.func132, Try.ntmps132
    go_wp2_with fail
    go_ret
    exact ⟨rfl, rfl⟩
set_option maxRecDepth 100000 in
set_option maxHeartbeats 400000 in
theorem l1Most_any (x y : Int) (w : World) :
    Calls Try.prog 93 #[.int .i64 x, .int .i64 y] w fun e w' => e = .returned (.int .i64 (if y < x then x else y)) ∧ w' = w := by
  by_cases h : y < x
  · rw [if_pos h]
    go_enter Try.func93, Try.ntmps93
    go_wp2_with fail
    go_ret
    exact ⟨rfl, rfl⟩
  · rw [if_neg h]
    go_enter Try.func93, Try.ntmps93
    go_wp2_with fail
    go_ret
    exact ⟨rfl, rfl⟩
end Go.Proofs.Ythmbehknacjodaa

/-! Dstd -/
namespace Go.Proofs.Ythmbehknacjodaa
set_option linter.unusedVariables false
open Go.RowKit

theorem FrAt.setRod {w wi : World} {cb : Nat} {cd : Value} {n F : Nat} {up lo : Int} {g cap : Nat} {rs : List (Int × Int)} {x y : Int} (h : FrAt w wi cb cd n F up lo g cap rs) (hcb : cb < w.heap.size) (q : Nat) (hq : q < rs.length) :
    FrAt w ((wi.setCell ⟨g, q * 2, none⟩ (.int .i64 x)).setCell ⟨g, q * 2 + 1, none⟩ (.int .i64 y)) cb cd n F up lo g cap (rs.set q (x, y)) := by
  have hne := h.gne
  obtain ⟨h1, h2, h3, h4, h5, h6⟩ := h
  have hle : (rs.set q (x, y)).length = rs.length := by simp
  have hfl : ((flat rs).set (q * 2) (.int .i64 x)).set (q * 2 + 1) (.int .i64 y) = flat (rs.set q (x, y)) := flat_set rs q hq (x, y)
  unfold FrAt
  rw [hle, ← hfl]
  refine ⟨grown_set_new (grown_set_new h1 _ _ _ (by omega)) _ _ _ (by omega), (h2.set _ _ _ (by omega)).set _ _ _ (by omega), (heap_setCell_other _ ⟨g, q * 2 + 1, none⟩ _ _ (by show _ ≠ g; omega)).trans ((heap_setCell_other _ ⟨g, q * 2, none⟩ _ _ (by show _ ≠ g; omega)).trans h3), (heap_setCell_other _ ⟨g, q * 2 + 1, none⟩ _ _ (by show _ ≠ g; exact fun e => hne.1 e.symm)).trans ((heap_setCell_other _ ⟨g, q * 2, none⟩ _ _ (by show _ ≠ g; exact fun e => hne.1 e.symm)).trans h4), ((h5.stored (q * 2) _).1.stored (q * 2 + 1) _).1, h6⟩
def stdZ : List Int := [0, 1, 3, 4, 5, 8, 9, 9]
theorem stdZ_bd : ∀ z ∈ stdZ, 0 ≤ z ∧ z ≤ 9 := by decide

set_option maxRecDepth 100000 in
set_option maxHeartbeats 3200000 in
theorem standard_any (cb : Nat) (cd : Value) (L : List UInt8) (n : Nat) (w : World) (hn : n < 4611686018427300000) (hc : CurAt w cb cd n) (hr : CodeR w cb cd L) :
    Calls Try.prog 85 #[.pointer (some ⟨cb, 0, none⟩)] w fun e w' => (∃ (up lo : Int) (sv : Value) (rs : List (Int × Int)), e = .returned (.agg #[.int .i64 up, .int .i64 lo, sv]) ∧ w'.ownsRow w.heap.size 77 2 sv rs.length (flat rs) ∧ rs.length ≤ 20) ∧ CurAt w' cb cd (n + 300) ∧ w.grownBy w' (some cb) := by
  have hcb := hc.lt
  have HR := Lib.hid hr
  obtain ⟨W0, hW0⟩ : ∃ W0, w.alloc (.cells #[.int .i64 0, .int .i64 0, .slice none 0 0] 42) = W0 := ⟨_, rfl⟩
  have hg0 : w.grownBy W0 none := by rw [← hW0]; exact grown_alloc _ _ _
  have hc0 : CurAt W0 cb cd n := hc.old hg0
  have HZ0 : Hid (W0.heap[w.heap.size]? = some (.cells #[.int .i64 0, .int .i64 0, .slice none 0 0] 42 (0, 0))) := Lib.hid (by rw [← hW0]; exact alloc_at rfl)
  have HG0 := Lib.hid (grown_any (r := some cb) hg0)
  have HF0 := Lib.hid (frame_any cb cd L n W0 (by omega) hc0 (HR.out.grown HG0.out))
  have HS0 : Hid (W0.heap.size = w.heap.size + 1) := Lib.hid (by rw [← hW0]; simp)
  clear hg0 hc0 hc hr
  go_enter Try.func85, Try.ntmps85
  go_wp2_with fail
  try rw [hW0]
  refine (HF0.out).mono ?_
  rintro e w1 ⟨⟨up, lo, sv, rs, rfl, ho, hl⟩, hc1, hg1⟩
  have HG1 := Lib.hid (grown_trans HG0.out hg1)
  have HZ1 := Lib.hid ((hg1.block _ (Array.getElem?_eq_some_iff.1 HZ0.out).1 (by intro e; injection e with e; omega)).trans HZ0.out)
  have HS1 : Hid (w.heap.size + 1 ≤ w1.heap.size) := Lib.hid (by have := hg1.size; have := HS0.out; omega)
  rw [HS0.out] at ho
  rcases ho.2 with ⟨rfl, h0⟩ | ⟨g, cap, cur, rfl, hb⟩
  · have hrs : rs = [] := List.length_eq_zero_iff.1 h0
    subst hrs
    have hga := grown_alloc w1 (.cells #[.int .i64 up, .int .i64 lo, .slice none 0 0] 42) none
    have HGA := Lib.hid (grown_trans HG1.out (grown_any (r := some cb) hga))
    have HKF : Hid ((w1.alloc (.cells #[.int .i64 up, .int .i64 lo, .slice none 0 0] 42)).heap[w1.heap.size]? = some (.cells #[.int .i64 up, .int .i64 lo, .slice none 0 0] 42 (0, 0))) := Lib.hid (alloc_at rfl)
    have HKZ := Lib.hid ((hga.block _ (Array.getElem?_eq_some_iff.1 HZ1.out).1 (by simp)).trans HZ1.out)
    have HP := Lib.hid (one_any cb cd L (n + 200) 12 _ (by omega) ⟨by omega, by omega⟩ (hc1.old hga) (HR.out.grown HGA.out))
    clear ho hc1 hg1 hga h0
    go_wp2_with fail
    generalize w1.alloc (.cells #[.int .i64 up, .int .i64 lo, .slice none 0 0] 42) = w2 at HGA HKF HKZ HP ⊢
    refine (HP.out).mono ?_
    rintro e w3 ⟨⟨x, rfl⟩, hc3, hg3⟩
    have hkz := (hg3.block _ (Array.getElem?_eq_some_iff.1 HKZ.out).1 (by intro e; injection e with e; omega)).trans HKZ.out
    have hkf := (hg3.block _ (Array.getElem?_eq_some_iff.1 HKF.out).1 (by intro e; injection e with e; have := HS1.out; omega)).trans HKF.out
    have HC3 := Lib.hid hc3
    have HG3 := Lib.hid (grown_trans HGA.out hg3)
    obtain ⟨z0, z1, z2, y0, y1, y2⟩ := cell3 hkz
    obtain ⟨c0, c1, c2, -, -, -⟩ := cell3 hkf
    clear hc3 hg3 hkz hkf
    have HEND : Hid (CurAt (((w3.setCell ⟨w.heap.size, 0, none⟩ (.int .i64 up)).setCell ⟨w.heap.size, 1, none⟩ (.int .i64 lo)).setCell ⟨w.heap.size, 2, none⟩ (.slice none 0 0)) cb cd (n + 300) ∧ w.grownBy (((w3.setCell ⟨w.heap.size, 0, none⟩ (.int .i64 up)).setCell ⟨w.heap.size, 1, none⟩ (.int .i64 lo)).setCell ⟨w.heap.size, 2, none⟩ (.slice none 0 0)) (some cb)) :=
      Lib.hid ⟨(((HC3.out.set _ _ _ (by omega)).set _ _ _ (by omega)).set _ _ _ (by omega)).more (by omega), grown_set_new (grown_set_new (grown_set_new HG3.out _ _ _ (Nat.le_refl _)) _ _ _ (Nat.le_refl _)) _ _ _ (Nat.le_refl _)⟩
    cases x with
    | true =>
      go_wp2_with fail
      exact bodyPost_ret (v := .agg #[.int .i64 up, .int .i64 lo, .slice none 0 0]) (by simp [results, Try.results85, go_sem, z0, z1, z2]) rfl ⟨⟨_, _, _, ([] : List (Int × Int)), rfl, World.ownsRow_nil _ _ _ _, by simp⟩, HEND.out.1, HEND.out.2⟩
    | false =>
      go_wp2_with fail
      go_loopw [4] (fun i wr => i = .int .i64 0 ∧ wr = w3) (fun _ _ => 0)
      case atStart => exact ⟨rfl, rfl⟩
      case round =>
        obtain ⟨rfl, rfl⟩ := hrel
        go_wp2_with fail
        exact bodyPost_ret (v := .agg #[.int .i64 up, .int .i64 lo, .slice none 0 0]) (by simp [results, Try.results85, go_sem, z0, z1, z2]) rfl ⟨⟨_, _, _, ([] : List (Int × Int)), rfl, World.ownsRow_nil _ _ _ _, by simp⟩, HEND.out.1, HEND.out.2⟩
  · have hga := grown_alloc w1 (.cells #[.int .i64 up, .int .i64 lo, .slice (some ⟨g, 0, none⟩) rs.length cap] 42) none
    have hf : FrAt w (w1.alloc (.cells #[.int .i64 up, .int .i64 lo, .slice (some ⟨g, 0, none⟩) rs.length cap] 42)) cb cd (n + 200) w1.heap.size up lo g cap rs :=
      ⟨grown_trans HG1.out (grown_any hga), hc1.old hga, (hga.block _ (Array.getElem?_eq_some_iff.1 HZ1.out).1 (by simp)).trans HZ1.out, alloc_at rfl, ho.alloc _, by have := HS1.out; omega⟩
    clear ho hc1 hg1 hga hb
    go_wp2_with fail
    generalize w1.alloc (.cells #[.int .i64 up, .int .i64 lo, .slice (some ⟨g, 0, none⟩) rs.length cap] 42) = w2 at hf ⊢
    generalize w1.heap.size = F at hf ⊢
    have HF2 := Lib.hid hf
    clear hf
    refine (one_any cb cd L (n + 200) 12 _ (by omega) ⟨by omega, by omega⟩ HF2.out.2.1 (HF2.out.code HR.out)).mono ?_
    rintro e w3 ⟨⟨x, rfl⟩, hc3, hg3⟩
    have HF3 := Lib.hid (HF2.out.step hcb hg3 hc3)
    clear hc3 hg3 HF2
    cases x with
    | true =>
      have HFIN := Lib.hid (HF3.out.fin hcb)
      obtain ⟨z0, z1, z2, y0, y1, y2⟩ := cell3 HF3.out.2.2.1
      obtain ⟨c0, c1, c2, f0, f1, f2⟩ := cell3 HF3.out.2.2.2.1
      go_wp2_with fail
      exact bodyPost_ret (v := .agg #[.int .i64 up, .int .i64 lo, .slice (some ⟨g, 0, none⟩) rs.length cap]) (by simp [results, Try.results85, go_sem, z0, z1, z2]) rfl ⟨⟨_, _, _, rs, rfl, (HFIN.out _ _ _).1, hl⟩, (HFIN.out _ _ _).2.1.more (by omega), (HFIN.out _ _ _).2.2⟩
    | false =>
      go_wp2_with fail
      go_loopw [4] (fun i wr => ∃ (k m : Nat) (rs' : List (Int × Int)), k ≤ rs.length ∧ i = .int .i64 k ∧ rs'.length = rs.length ∧ m ≤ n + 202 + 2 * k ∧ FrAt w wr cb cd m F up lo g cap rs') (fun i _ => rs.length - (intOf i).toNat)
      case atStart => exact ⟨0, _, rs, Nat.zero_le _, rfl, rfl, by omega, HF3.out⟩
      case round =>
        obtain ⟨k, m, rs', hk, rfl, hrl, hm, hf⟩ := hrel
        have HF4 := Lib.hid hf
        have HRL := Lib.hid hrl
        obtain ⟨c0, c1, c2, f0, f1, f2⟩ := cell3 hf.2.2.2.1
        clear hf hrl
        by_cases hlt : k < rs.length
        · have hlt' : k < rs'.length := by have := HRL.out; omega
          have z1 : (k : Int) < (rs'.length : Int) := by omega
          have z2 : (0 : Int) ≤ (k : Int) := by omega
          go_wp2_with fail
          refine wp_region_held_drew (S := (fun u => u.cell? ⟨F, 2, none⟩ = some (.slice (some ⟨g, 0, none⟩) rs'.length cap))) (by kernel_rfl) (c2) (fun hHeld => ?_)
          have HF5 := Lib.hid (HF4.out.drew hcb)
          generalize wr.drew = w5 at HF5 hHeld ⊢
          clear c0 c1 c2 f0 f1 f2
          refine take1 (i := 0) (v := ?v1) (some 17) rfl rfl (by kernel_rfl) (by kernel_rfl) (by kernel_rfl) (fun _ _ _ h => h) (Or.inl ⟨by rfl, ?y1⟩) (by assumption) ?r1
          case y1 => (intro w hSw; (try dsimp only at hSw); go_simp; (first | done | with_reducible rfl))
          try simp only [Act.put, List.setIfInBounds_toArray, List.set_cons_zero, List.set_cons_succ]
          refine take1 (i := 1) (v := ?v2) (some 18) rfl rfl (by kernel_rfl) (by kernel_rfl) (by kernel_rfl) (fun _ _ _ h => h) (Or.inl ⟨by rfl, ?y2⟩) (by assumption) ?r2
          case y2 => (intro w hSw; (try dsimp only at hSw); go_simp; (first | done | with_reducible rfl))
          try simp only [Act.put, List.setIfInBounds_toArray, List.set_cons_zero, List.set_cons_succ]
          refine take1 (i := 2) (v := ?v3) (some 19) rfl rfl (by kernel_rfl) (by kernel_rfl) (by kernel_rfl) (fun _ _ _ h => h) (Or.inl ⟨by rfl, ?y3⟩) (by assumption) ?r3
          case y3 => (intro w hSw; (try dsimp only at hSw); go_simp; (first | done | with_reducible rfl))
          try simp only [Act.put, List.setIfInBounds_toArray, List.set_cons_zero, List.set_cons_succ]
          refine take1 (i := 3) (v := ?v4) (some 20) rfl rfl (by kernel_rfl) (by kernel_rfl) (by kernel_rfl) (fun _ _ _ h => h) (Or.inl ⟨by rfl, ?y4⟩) (by assumption) ?r4
          case y4 => (intro w hSw; (try dsimp only at hSw); go_simp; (first | done | with_reducible rfl))
          try simp only [Act.put, List.setIfInBounds_toArray, List.set_cons_zero, List.set_cons_succ]
          refine wpAnyH_ready (rs := [4]) (by kernel_rfl) (by simp) ?_
          refine AllReadyH.cons rfl (fun K hK => ?_) AllReadyH.nil
          go_simp
          have hfa := HF5.out.alloc hcb (.cells (stdZ.map (Value.int .i64)).toArray 3)
          have HSL := Lib.hid (slr_lit w5 (stdZ.map (Value.int .i64)) 3 (by decide))
          have HNE : Hid (w5.heap.size ≠ cb) := Lib.hid (by have := HF5.out.gne; have := (Array.getElem?_eq_some_iff.1 HF5.out.2.2.1).1; omega)
          have HAM := Lib.hid (among_fr (zs := stdZ) hfa hcb (by omega) (by decide) HSL.out (fun a m c e => by cases e; exact HNE.out) HR.out)
          have HF6 := Lib.hid hfa
          obtain ⟨c0, c1, c2, f0, f1, f2⟩ := cell3 hfa.2.2.2.1
          clear hfa HSL
          change K _ (w5.alloc (.cells (stdZ.map (Value.int .i64)).toArray 3))
          generalize w5.alloc (.cells (stdZ.map (Value.int .i64)).toArray 3) = w6 at HAM HF6 c0 c1 c2 f0 f1 f2 ⊢
          refine hK.out _ _ (c2) (fun hHeld => ?_)
          clear hK K
          try simp only [Act.put, List.setIfInBounds_toArray, List.set_cons_zero, List.set_cons_succ]
          clear c0 c1 c2 f0 f1 f2
          refine wpAnyH_ready (rs := [5]) (by kernel_rfl) (by simp) ?_
          refine AllReadyH.cons rfl (fun K hK => ?_) AllReadyH.nil
          go_simp
          go_at_call 87
          refine (HAM.out).mono ?_
          rintro e w7 ⟨⟨x, rfl, hx⟩, hf⟩
          have hxb := stdZ_bd x hx
          have HF7 := Lib.hid hf
          obtain ⟨c0, c1, c2, f0, f1, f2⟩ := cell3 hf.2.2.2.1
          clear hf hx
          try go_simp
          refine hK.out _ _ (c2) (fun hHeld => ?_)
          clear hK K
          try simp only [Act.put, List.setIfInBounds_toArray, List.set_cons_zero, List.set_cons_succ]
          clear c0 c1 c2 f0 f1 f2
          refine wpAnyH_ready (rs := [6]) (by kernel_rfl) (by simp) ?_
          refine AllReadyH.cons rfl (fun K hK => ?_) AllReadyH.nil
          go_simp
          go_at_call 121
          refine (l2Digit_any x _ ⟨hxb.1, by omega⟩).mono ?_
          rintro e w8 ⟨rfl, hb⟩
          have HG8 : Hid (w7.grownBy w8 none) := Lib.hid ⟨hb.os, hb.tape, hb.output, hb.size, fun k hk _ => hb.block k hk⟩
          have HF8 := Lib.hid (HF7.out.step hcb (grown_any (r := some cb) HG8.out) (HF7.out.2.1.old HG8.out))
          obtain ⟨c0, c1, c2, f0, f1, f2⟩ := cell3 HF8.out.2.2.2.1
          have ho := HF8.out.2.2.2.2.1
          have hfl := flat_at rs' k hlt'
          have x0 := (ho.cellAt (k * 2) (by omega)).trans hfl.1
          have x1 := (ho.cellAt (k * 2 + 1) (by omega)).trans hfl.2
          have y0 := ho.frozenAt (k * 2)
          have y1 := ho.frozenAt (k * 2 + 1)
          clear hb ho hfl
          try go_simp
          refine hK.out _ _ (c2) (fun hHeld => ?_)
          clear hK K
          try simp only [Act.put, List.setIfInBounds_toArray, List.set_cons_zero, List.set_cons_succ]
          refine take1 (i := 7) (v := ?v5) (some 24) rfl rfl (by kernel_rfl) (by kernel_rfl) (by kernel_rfl) (fun _ _ _ h => h) (Or.inl ⟨by rfl, ?y5⟩) (by assumption) ?r5
          case y5 => (intro w hSw; (try dsimp only at hSw); go_simp; (first | done | with_reducible rfl))
          try simp only [Act.put, List.setIfInBounds_toArray, List.set_cons_zero, List.set_cons_succ]
          refine wpAnyH_ready (rs := [8]) (by kernel_rfl) (by simp) ?_
          refine AllReadyH.cons rfl (fun K hK => ?_) AllReadyH.nil
          go_simp
          have hf9 := HF8.out.setRod hcb (x := x / 5) (y := x % 5) k hlt'
          have hl9 : (rs'.set k (x / 5, x % 5)).length = rs'.length := List.length_set
          generalize ((w8.setCell ⟨g, k * 2, none⟩ (.int .i64 (x / 5))).setCell ⟨g, k * 2 + 1, none⟩ (.int .i64 (x % 5))) = w9 at hf9 ⊢
          clear c0 c1 c2 f0 f1 f2 x0 x1 y0 y1
          have HF9 := Lib.hid hf9
          have HL9 := Lib.hid hl9
          obtain ⟨c0, c1, c2, f0, f1, f2⟩ := cell3 hf9.2.2.2.1
          rw [hl9] at c2
          refine hK.out _ _ (c2) (fun hHeld => ?_)
          clear hK K
          try simp only [Act.put]
          clear hf9 hl9 c0 c1 c2 f0 f1 f2
          refine wpAnyH_done (by kernel_rfl) ?_ _
          go_wp2_with fail
          go_roundw
          case rel => exact ⟨k + 1, _, rs'.set k (x / 5, x % 5), by omega, by first | rfl | go_num, by rw [HL9.out]; exact HRL.out, by omega, HF9.out⟩
          case measure => simp [intOf]; try omega
        · have hkk : k = rs.length := by omega
          have HK := Lib.hid hkk
          have HFIN := Lib.hid (HF4.out.fin hcb)
          obtain ⟨z0, z1, z2, y0, y1, y2⟩ := cell3 HF4.out.2.2.1
          have g1 : ¬ (k : Int) < (rs'.length : Int) := by have := HRL.out; omega
          clear hkk hlt
          go_wp2_with fail
          exact bodyPost_ret (v := .agg #[.int .i64 up, .int .i64 lo, .slice (some ⟨g, 0, none⟩) rs'.length cap]) (by simp [results, Try.results85, go_sem, z0, z1, z2]) rfl ⟨⟨_, _, _, rfl, rs', (HFIN.out _ _ _).1, by have := HRL.out; omega⟩, (HFIN.out _ _ _).2.1.more (by omega), (HFIN.out _ _ _).2.2⟩
end Go.Proofs.Ythmbehknacjodaa

/-! Dadd -/
namespace Go.Proofs.Ythmbehknacjodaa
set_option linter.unusedVariables false
open Go.RowKit
set_option linter.unusedSimpArgs false

end Go.Proofs.Ythmbehknacjodaa

/-! Daddn -/
namespace Go.Proofs.Ythmbehknacjodaa
set_option linter.unusedVariables false
open Go.RowKit
set_option linter.unusedSimpArgs false

end Go.Proofs.Ythmbehknacjodaa

/-! Daddm -/
namespace Go.Proofs.Ythmbehknacjodaa
set_option linter.unusedVariables false
open Go.RowKit
set_option linter.unusedSimpArgs false

end Go.Proofs.Ythmbehknacjodaa

/-! Vmv -/
namespace Go.Proofs.Ythmbehknacjodaa
set_option linter.unusedVariables false
open Go.RowKit

end Go.Proofs.Ythmbehknacjodaa
