/- Parts laid as one: Lst, Dstd, Dadd, Daddn, Daddm, Vmv. -/
import Derived.Test.YtjkjaadcdolbhaaDoorKa
import Derived.Test.YtjkjaadcdolbhaaDoorDfrm
import Derived.Test.YtjkjaadcdolbhaaDoorKl
import Derived.Test.YtjkjaadcdolbhaaDoorOwn
import Derived.Test.YtjkjaadcdolbhaaDoorKg
import Derived.Test.YtjkjaadcdolbhaaDoorKx
import Derived.Test.YtjkjaadcdolbhaaDoorBeadMoves
import Derived.BigRegion
import Derived.Tactics
import Derived.Tactics2
import Derived.StillTactics
import Derived.Laws.Pointers
import Derived.Laws.Small
import Derived.Laws.StructEq
import Derived.Laws.Tables
import Derived.Laws.Cover2
/-! Lst -/
namespace Go.Proofs.YtjkjaadcdolbhaaDoor
set_option linter.unusedVariables false
open Go.RowKit

set_option maxRecDepth 100000 in
set_option maxHeartbeats 400000 in
theorem l1Least_any (x y : Int) (w : World) :
    Calls Tryd.prog 59 #[.int .i64 x, .int .i64 y] w fun e w' => e = .returned (.int .i64 (if x < y then x else y)) ∧ w' = w := by
  by_cases h : x < y
  · rw [if_pos h]
    go_enter Tryd.func59, Tryd.ntmps59
    go_wp2_with fail
    go_ret
    exact ⟨rfl, rfl⟩
  · rw [if_neg h]
    go_enter Tryd.func59, Tryd.ntmps59
    go_wp2_with fail
    go_ret
    exact ⟨rfl, rfl⟩
set_option maxRecDepth 100000 in
set_option maxHeartbeats 400000 in
theorem l1Most_any (x y : Int) (w : World) :
    Calls Tryd.prog 60 #[.int .i64 x, .int .i64 y] w fun e w' => e = .returned (.int .i64 (if y < x then x else y)) ∧ w' = w := by
  by_cases h : y < x
  · rw [if_pos h]
    go_enter Tryd.func60, Tryd.ntmps60
    go_wp2_with fail
    go_ret
    exact ⟨rfl, rfl⟩
  · rw [if_neg h]
    go_enter Tryd.func60, Tryd.ntmps60
    go_wp2_with fail
    go_ret
    exact ⟨rfl, rfl⟩
end Go.Proofs.YtjkjaadcdolbhaaDoor

/-! Dstd -/
namespace Go.Proofs.YtjkjaadcdolbhaaDoor
set_option linter.unusedVariables false
open Go.RowKit

theorem FrAt.setRod {w wi : World} {cb : Nat} {cd : Value} {n F : Nat} {up lo : Int} {g cap : Nat} {rs : List (Int × Int)} {x y : Int} (h : FrAt w wi cb cd n F up lo g cap rs) (hcb : cb < w.heap.size) (q : Nat) (hq : q < rs.length) :
    FrAt w ((wi.setCell ⟨g, q * 2, none⟩ (.int .i64 x)).setCell ⟨g, q * 2 + 1, none⟩ (.int .i64 y)) cb cd n F up lo g cap (rs.set q (x, y)) := by
  have hne := h.gne
  obtain ⟨h1, h2, h3, h4, h5, h6⟩ := h
  have hle : (rs.set q (x, y)).length = rs.length := by simp
  have hfl : ((flat rs).set (q * 2) (.int .i64 x)).set (q * 2 + 1) (.int .i64 y) = flat (rs.set q (x, y)) := flat_set rs q hq (x, y)
  unfold FrAt
  rw [hle, ← hfl]
  refine ⟨grown_set_new (grown_set_new h1 _ _ _ (by omega)) _ _ _ (by omega), (h2.set _ _ _ (by omega)).set _ _ _ (by omega), (heap_setCell_other _ ⟨g, q * 2 + 1, none⟩ _ _ (by show _ ≠ g; omega)).trans ((heap_setCell_other _ ⟨g, q * 2, none⟩ _ _ (by show _ ≠ g; omega)).trans h3), (heap_setCell_other _ ⟨g, q * 2 + 1, none⟩ _ _ (by show _ ≠ g; exact fun e => hne.1 e.symm)).trans ((heap_setCell_other _ ⟨g, q * 2, none⟩ _ _ (by show _ ≠ g; exact fun e => hne.1 e.symm)).trans h4), ((h5.stored (q * 2) _).1.stored (q * 2 + 1) _).1, h6⟩
def stdZ : List Int := [0, 1, 3, 4, 5, 8, 9, 9]
theorem stdZ_bd : ∀ z ∈ stdZ, 0 ≤ z ∧ z ≤ 9 := by decide

set_option maxRecDepth 100000 in
set_option maxHeartbeats 3200000 in
theorem standard_any (cb : Nat) (cd : Value) (L : List UInt8) (n : Nat) (w : World) (hn : n < 4611686018427300000) (hc : CurAt w cb cd n) (hr : CodeR w cb cd L) :
    Calls Tryd.prog 32 #[.pointer (some ⟨cb, 0, none⟩)] w fun e w' => (∃ (up lo : Int) (sv : Value) (rs : List (Int × Int)), e = .returned (.agg #[.int .i64 up, .int .i64 lo, sv]) ∧ w'.ownsRow w.heap.size 56 2 sv rs.length (flat rs) ∧ rs.length ≤ 20) ∧ CurAt w' cb cd (n + 300) ∧ w.grownBy w' (some cb) := by
  have hcb := hc.lt
  have HR := Lib.hid hr
  obtain ⟨W0, hW0⟩ : ∃ W0, w.alloc (.cells #[.int .i64 0, .int .i64 0, .slice none 0 0] 26) = W0 := ⟨_, rfl⟩
  have hg0 : w.grownBy W0 none := by rw [← hW0]; exact grown_alloc _ _ _
  have hc0 : CurAt W0 cb cd n := hc.old hg0
  have HZ0 : Hid (W0.heap[w.heap.size]? = some (.cells #[.int .i64 0, .int .i64 0, .slice none 0 0] 26 (0, 0))) := Lib.hid (by rw [← hW0]; exact alloc_at rfl)
  have HG0 := Lib.hid (grown_any (r := some cb) hg0)
  have HF0 := Lib.hid (frame_any cb cd L n W0 (by omega) hc0 (HR.out.grown HG0.out))
  have HS0 : Hid (W0.heap.size = w.heap.size + 1) := Lib.hid (by rw [← hW0]; simp)
  clear hg0 hc0 hc hr
  go_enter Tryd.func32, Tryd.ntmps32
  go_wp2_with fail
  try rw [hW0]
  refine (HF0.out).mono ?_
  rintro e w1 ⟨⟨up, lo, sv, rs, rfl, ho, hl⟩, hc1, hg1⟩
  have HG1 := Lib.hid (grown_trans HG0.out hg1)
  have HZ1 := Lib.hid ((hg1.block _ (Array.getElem?_eq_some_iff.1 HZ0.out).1 (by intro e; injection e with e; omega)).trans HZ0.out)
  have HS1 : Hid (w.heap.size + 1 ≤ w1.heap.size) := Lib.hid (by have := hg1.size; have := HS0.out; omega)
  rw [HS0.out] at ho
  rcases ho.2 with ⟨rfl, h0⟩ | ⟨g, cap, cur, rfl, hb⟩
  · have hrs : rs = [] := List.length_eq_zero_iff.1 h0
    subst hrs
    have hga := grown_alloc w1 (.cells #[.int .i64 up, .int .i64 lo, .slice none 0 0] 26) none
    have HGA := Lib.hid (grown_trans HG1.out (grown_any (r := some cb) hga))
    have HKF : Hid ((w1.alloc (.cells #[.int .i64 up, .int .i64 lo, .slice none 0 0] 26)).heap[w1.heap.size]? = some (.cells #[.int .i64 up, .int .i64 lo, .slice none 0 0] 26 (0, 0))) := Lib.hid (alloc_at rfl)
    have HKZ := Lib.hid ((hga.block _ (Array.getElem?_eq_some_iff.1 HZ1.out).1 (by simp)).trans HZ1.out)
    have HP := Lib.hid (one_any cb cd L (n + 200) 12 _ (by omega) ⟨by omega, by omega⟩ (hc1.old hga) (HR.out.grown HGA.out))
    clear ho hc1 hg1 hga h0
    go_wp2_with fail
    generalize w1.alloc (.cells #[.int .i64 up, .int .i64 lo, .slice none 0 0] 26) = w2 at HGA HKF HKZ HP ⊢
    refine (HP.out).mono ?_
    rintro e w3 ⟨⟨x, rfl⟩, hc3, hg3⟩
    have hkz := (hg3.block _ (Array.getElem?_eq_some_iff.1 HKZ.out).1 (by intro e; injection e with e; omega)).trans HKZ.out
    have hkf := (hg3.block _ (Array.getElem?_eq_some_iff.1 HKF.out).1 (by intro e; injection e with e; have := HS1.out; omega)).trans HKF.out
    have HC3 := Lib.hid hc3
    have HG3 := Lib.hid (grown_trans HGA.out hg3)
    obtain ⟨z0, z1, z2, y0, y1, y2⟩ := cell3 hkz
    obtain ⟨c0, c1, c2, -, -, -⟩ := cell3 hkf
    clear hc3 hg3 hkz hkf
    have HEND : Hid (CurAt (((w3.setCell ⟨w.heap.size, 0, none⟩ (.int .i64 up)).setCell ⟨w.heap.size, 1, none⟩ (.int .i64 lo)).setCell ⟨w.heap.size, 2, none⟩ (.slice none 0 0)) cb cd (n + 300) ∧ w.grownBy (((w3.setCell ⟨w.heap.size, 0, none⟩ (.int .i64 up)).setCell ⟨w.heap.size, 1, none⟩ (.int .i64 lo)).setCell ⟨w.heap.size, 2, none⟩ (.slice none 0 0)) (some cb)) :=
      Lib.hid ⟨(((HC3.out.set _ _ _ (by omega)).set _ _ _ (by omega)).set _ _ _ (by omega)).more (by omega), grown_set_new (grown_set_new (grown_set_new HG3.out _ _ _ (Nat.le_refl _)) _ _ _ (Nat.le_refl _)) _ _ _ (Nat.le_refl _)⟩
    cases x with
    | true =>
      go_wp2_with fail
      exact bodyPost_ret (v := .agg #[.int .i64 up, .int .i64 lo, .slice none 0 0]) (by simp [results, Tryd.results32, go_sem, z0, z1, z2]) rfl ⟨⟨_, _, _, ([] : List (Int × Int)), rfl, World.ownsRow_nil _ _ _ _, by simp⟩, HEND.out.1, HEND.out.2⟩
    | false =>
      go_wp2_with fail
      go_loopw [4] (fun i wr => i = .int .i64 0 ∧ wr = w3) (fun _ _ => 0)
      case atStart => exact ⟨rfl, rfl⟩
      case round =>
        obtain ⟨rfl, rfl⟩ := hrel
        go_wp2_with fail
        exact bodyPost_ret (v := .agg #[.int .i64 up, .int .i64 lo, .slice none 0 0]) (by simp [results, Tryd.results32, go_sem, z0, z1, z2]) rfl ⟨⟨_, _, _, ([] : List (Int × Int)), rfl, World.ownsRow_nil _ _ _ _, by simp⟩, HEND.out.1, HEND.out.2⟩
  · have hga := grown_alloc w1 (.cells #[.int .i64 up, .int .i64 lo, .slice (some ⟨g, 0, none⟩) rs.length cap] 26) none
    have hf : FrAt w (w1.alloc (.cells #[.int .i64 up, .int .i64 lo, .slice (some ⟨g, 0, none⟩) rs.length cap] 26)) cb cd (n + 200) w1.heap.size up lo g cap rs :=
      ⟨grown_trans HG1.out (grown_any hga), hc1.old hga, (hga.block _ (Array.getElem?_eq_some_iff.1 HZ1.out).1 (by simp)).trans HZ1.out, alloc_at rfl, ho.alloc _, by have := HS1.out; omega⟩
    clear ho hc1 hg1 hga hb
    go_wp2_with fail
    generalize w1.alloc (.cells #[.int .i64 up, .int .i64 lo, .slice (some ⟨g, 0, none⟩) rs.length cap] 26) = w2 at hf ⊢
    generalize w1.heap.size = F at hf ⊢
    have HF2 := Lib.hid hf
    clear hf
    refine (one_any cb cd L (n + 200) 12 _ (by omega) ⟨by omega, by omega⟩ HF2.out.2.1 (HF2.out.code HR.out)).mono ?_
    rintro e w3 ⟨⟨x, rfl⟩, hc3, hg3⟩
    have HF3 := Lib.hid (HF2.out.step hcb hg3 hc3)
    clear hc3 hg3 HF2
    cases x with
    | true =>
      have HFIN := Lib.hid (HF3.out.fin hcb)
      obtain ⟨z0, z1, z2, y0, y1, y2⟩ := cell3 HF3.out.2.2.1
      obtain ⟨c0, c1, c2, f0, f1, f2⟩ := cell3 HF3.out.2.2.2.1
      go_wp2_with fail
      exact bodyPost_ret (v := .agg #[.int .i64 up, .int .i64 lo, .slice (some ⟨g, 0, none⟩) rs.length cap]) (by simp [results, Tryd.results32, go_sem, z0, z1, z2]) rfl ⟨⟨_, _, _, rs, rfl, (HFIN.out _ _ _).1, hl⟩, (HFIN.out _ _ _).2.1.more (by omega), (HFIN.out _ _ _).2.2⟩
    | false =>
      go_wp2_with fail
      go_loopw [4] (fun i wr => ∃ (k m : Nat) (rs' : List (Int × Int)), k ≤ rs.length ∧ i = .int .i64 k ∧ rs'.length = rs.length ∧ m ≤ n + 202 + 2 * k ∧ FrAt w wr cb cd m F up lo g cap rs') (fun i _ => rs.length - (intOf i).toNat)
      case atStart => exact ⟨0, _, rs, Nat.zero_le _, rfl, rfl, by omega, HF3.out⟩
      case round =>
        obtain ⟨k, m, rs', hk, rfl, hrl, hm, hf⟩ := hrel
        have HF4 := Lib.hid hf
        have HRL := Lib.hid hrl
        obtain ⟨c0, c1, c2, f0, f1, f2⟩ := cell3 hf.2.2.2.1
        clear hf hrl
        by_cases hlt : k < rs.length
        · have hlt' : k < rs'.length := by have := HRL.out; omega
          have z1 : (k : Int) < (rs'.length : Int) := by omega
          have z2 : (0 : Int) ≤ (k : Int) := by omega
          go_wp2_with fail
          refine wp_region_held_drew (S := (fun u => u.cell? ⟨F, 2, none⟩ = some (.slice (some ⟨g, 0, none⟩) rs'.length cap))) (by kernel_rfl) (c2) (fun hHeld => ?_)
          have HF5 := Lib.hid (HF4.out.drew hcb)
          generalize wr.drew = w5 at HF5 hHeld ⊢
          clear c0 c1 c2 f0 f1 f2
          refine take1 (i := 0) (v := ?v1) (some 17) rfl rfl (by kernel_rfl) (by kernel_rfl) (by kernel_rfl) (fun _ _ _ h => h) (Or.inl ⟨by rfl, ?y1⟩) (by assumption) ?r1
          case y1 => (intro w hSw; (try dsimp only at hSw); go_simp; (first | done | with_reducible rfl))
          try simp only [Act.put, List.setIfInBounds_toArray, List.set_cons_zero, List.set_cons_succ]
          refine take1 (i := 1) (v := ?v2) (some 18) rfl rfl (by kernel_rfl) (by kernel_rfl) (by kernel_rfl) (fun _ _ _ h => h) (Or.inl ⟨by rfl, ?y2⟩) (by assumption) ?r2
          case y2 => (intro w hSw; (try dsimp only at hSw); go_simp; (first | done | with_reducible rfl))
          try simp only [Act.put, List.setIfInBounds_toArray, List.set_cons_zero, List.set_cons_succ]
          refine take1 (i := 2) (v := ?v3) (some 19) rfl rfl (by kernel_rfl) (by kernel_rfl) (by kernel_rfl) (fun _ _ _ h => h) (Or.inl ⟨by rfl, ?y3⟩) (by assumption) ?r3
          case y3 => (intro w hSw; (try dsimp only at hSw); go_simp; (first | done | with_reducible rfl))
          try simp only [Act.put, List.setIfInBounds_toArray, List.set_cons_zero, List.set_cons_succ]
          refine take1 (i := 3) (v := ?v4) (some 20) rfl rfl (by kernel_rfl) (by kernel_rfl) (by kernel_rfl) (fun _ _ _ h => h) (Or.inl ⟨by rfl, ?y4⟩) (by assumption) ?r4
          case y4 => (intro w hSw; (try dsimp only at hSw); go_simp; (first | done | with_reducible rfl))
          try simp only [Act.put, List.setIfInBounds_toArray, List.set_cons_zero, List.set_cons_succ]
          refine wpAnyH_ready (rs := [4]) (by kernel_rfl) (by simp) ?_
          refine AllReadyH.cons rfl (fun K hK => ?_) AllReadyH.nil
          go_simp
          have hfa := HF5.out.alloc hcb (.cells (stdZ.map (Value.int .i64)).toArray 3)
          have HSL := Lib.hid (slr_lit w5 (stdZ.map (Value.int .i64)) 3 (by decide))
          have HNE : Hid (w5.heap.size ≠ cb) := Lib.hid (by have := HF5.out.gne; have := (Array.getElem?_eq_some_iff.1 HF5.out.2.2.1).1; omega)
          have HAM := Lib.hid (among_fr (zs := stdZ) hfa hcb (by omega) (by decide) HSL.out (fun a m c e => by cases e; exact HNE.out) HR.out)
          have HF6 := Lib.hid hfa
          obtain ⟨c0, c1, c2, f0, f1, f2⟩ := cell3 hfa.2.2.2.1
          clear hfa HSL
          change K _ (w5.alloc (.cells (stdZ.map (Value.int .i64)).toArray 3))
          generalize w5.alloc (.cells (stdZ.map (Value.int .i64)).toArray 3) = w6 at HAM HF6 c0 c1 c2 f0 f1 f2 ⊢
          refine hK.out _ _ (c2) (fun hHeld => ?_)
          clear hK K
          try simp only [Act.put, List.setIfInBounds_toArray, List.set_cons_zero, List.set_cons_succ]
          clear c0 c1 c2 f0 f1 f2
          refine wpAnyH_ready (rs := [5]) (by kernel_rfl) (by simp) ?_
          refine AllReadyH.cons rfl (fun K hK => ?_) AllReadyH.nil
          go_simp
          go_at_call 54
          refine (HAM.out).mono ?_
          rintro e w7 ⟨⟨x, rfl, hx⟩, hf⟩
          have hxb := stdZ_bd x hx
          have HF7 := Lib.hid hf
          obtain ⟨c0, c1, c2, f0, f1, f2⟩ := cell3 hf.2.2.2.1
          clear hf hx
          try go_simp
          refine hK.out _ _ (c2) (fun hHeld => ?_)
          clear hK K
          try simp only [Act.put, List.setIfInBounds_toArray, List.set_cons_zero, List.set_cons_succ]
          clear c0 c1 c2 f0 f1 f2
          refine wpAnyH_ready (rs := [6]) (by kernel_rfl) (by simp) ?_
          refine AllReadyH.cons rfl (fun K hK => ?_) AllReadyH.nil
          go_simp
          go_at_call 51
          refine (l2Digit_any x _ ⟨hxb.1, by omega⟩).mono ?_
          rintro e w8 ⟨rfl, hb⟩
          have HG8 : Hid (w7.grownBy w8 none) := Lib.hid ⟨hb.os, hb.tape, hb.output, hb.size, fun k hk _ => hb.block k hk⟩
          have HF8 := Lib.hid (HF7.out.step hcb (grown_any (r := some cb) HG8.out) (HF7.out.2.1.old HG8.out))
          obtain ⟨c0, c1, c2, f0, f1, f2⟩ := cell3 HF8.out.2.2.2.1
          have ho := HF8.out.2.2.2.2.1
          have hfl := flat_at rs' k hlt'
          have x0 := (ho.cellAt (k * 2) (by omega)).trans hfl.1
          have x1 := (ho.cellAt (k * 2 + 1) (by omega)).trans hfl.2
          have y0 := ho.frozenAt (k * 2)
          have y1 := ho.frozenAt (k * 2 + 1)
          clear hb ho hfl
          try go_simp
          refine hK.out _ _ (c2) (fun hHeld => ?_)
          clear hK K
          try simp only [Act.put, List.setIfInBounds_toArray, List.set_cons_zero, List.set_cons_succ]
          refine take1 (i := 7) (v := ?v5) (some 24) rfl rfl (by kernel_rfl) (by kernel_rfl) (by kernel_rfl) (fun _ _ _ h => h) (Or.inl ⟨by rfl, ?y5⟩) (by assumption) ?r5
          case y5 => (intro w hSw; (try dsimp only at hSw); go_simp; (first | done | with_reducible rfl))
          try simp only [Act.put, List.setIfInBounds_toArray, List.set_cons_zero, List.set_cons_succ]
          refine wpAnyH_ready (rs := [8]) (by kernel_rfl) (by simp) ?_
          refine AllReadyH.cons rfl (fun K hK => ?_) AllReadyH.nil
          go_simp
          have hf9 := HF8.out.setRod hcb (x := x / 5) (y := x % 5) k hlt'
          have hl9 : (rs'.set k (x / 5, x % 5)).length = rs'.length := List.length_set
          generalize ((w8.setCell ⟨g, k * 2, none⟩ (.int .i64 (x / 5))).setCell ⟨g, k * 2 + 1, none⟩ (.int .i64 (x % 5))) = w9 at hf9 ⊢
          clear c0 c1 c2 f0 f1 f2 x0 x1 y0 y1
          have HF9 := Lib.hid hf9
          have HL9 := Lib.hid hl9
          obtain ⟨c0, c1, c2, f0, f1, f2⟩ := cell3 hf9.2.2.2.1
          rw [hl9] at c2
          refine hK.out _ _ (c2) (fun hHeld => ?_)
          clear hK K
          try simp only [Act.put]
          clear hf9 hl9 c0 c1 c2 f0 f1 f2
          refine wpAnyH_done (by kernel_rfl) ?_ _
          go_wp2_with fail
          go_roundw
          case rel => exact ⟨k + 1, _, rs'.set k (x / 5, x % 5), by omega, by first | rfl | go_num, by rw [HL9.out]; exact HRL.out, by omega, HF9.out⟩
          case measure => simp [intOf]; try omega
        · have hkk : k = rs.length := by omega
          have HK := Lib.hid hkk
          have HFIN := Lib.hid (HF4.out.fin hcb)
          obtain ⟨z0, z1, z2, y0, y1, y2⟩ := cell3 HF4.out.2.2.1
          have g1 : ¬ (k : Int) < (rs'.length : Int) := by have := HRL.out; omega
          clear hkk hlt
          go_wp2_with fail
          exact bodyPost_ret (v := .agg #[.int .i64 up, .int .i64 lo, .slice (some ⟨g, 0, none⟩) rs'.length cap]) (by simp [results, Tryd.results32, go_sem, z0, z1, z2]) rfl ⟨⟨_, _, _, rfl, rs', (HFIN.out _ _ _).1, by have := HRL.out; omega⟩, (HFIN.out _ _ _).2.1.more (by omega), (HFIN.out _ _ _).2.2⟩
end Go.Proofs.YtjkjaadcdolbhaaDoor

/-! Dadd -/
namespace Go.Proofs.YtjkjaadcdolbhaaDoor
set_option linter.unusedVariables false
open Go.RowKit
set_option linter.unusedSimpArgs false

end Go.Proofs.YtjkjaadcdolbhaaDoor

/-! Daddn -/
namespace Go.Proofs.YtjkjaadcdolbhaaDoor
set_option linter.unusedVariables false
open Go.RowKit
set_option linter.unusedSimpArgs false

set_option maxRecDepth 100000 in
set_option maxHeartbeats 3200000 in
theorem addend_any (cb : Nat) (cd : Value) (L : List UInt8) (n B : Nat) (up lo : Int) (a : Option Addr) (cp : Nat) (rs : List (Int × Int)) (w : World) (hl : rs.length ≤ 20) (hn : n < 4611686018427300000) (ho : w.ownsRow B 56 2 (.slice a rs.length cp) rs.length (flat rs)) (hB : cb < B) (hc : CurAt w cb cd n) (hr : CodeR w cb cd L) :
    Calls Tryd.prog 43 #[.pointer (some ⟨cb, 0, none⟩), .agg #[.int .i64 up, .int .i64 lo, .slice a rs.length cp]] w fun e w' => (∃ z : Int, e = .returned (.int .i64 z) ∧ -9223372036854775808 ≤ z ∧ z ≤ 9223372036854775807) ∧ CurAt w' cb cd (n + 30) ∧ w.grownBy w' (some cb) := by
  obtain ⟨j, hj, ej⟩ : ∃ j : Nat, j ≤ 8 ∧ (if (8 : Int) < (rs.length : Int) then (8 : Int) else (rs.length : Int)) = (j : Int) := by
    by_cases h : (8 : Int) < (rs.length : Int)
    · exact ⟨8, by omega, by rw [if_pos h]; rfl⟩
    · exact ⟨rs.length, by omega, by rw [if_neg h]⟩
  have hP : 1 ≤ (10 : Int) ^ j ∧ (10 : Int) ^ j ≤ 100000000 := by
    rcases (by omega : j = 0 ∨ j = 1 ∨ j = 2 ∨ j = 3 ∨ j = 4 ∨ j = 5 ∨ j = 6 ∨ j = 7 ∨ j = 8) with rfl | rfl | rfl | rfl | rfl | rfl | rfl | rfl | rfl <;> decide
  have hcb := hc.lt
  have hga := grown_alloc w (.cells #[.int .i64 up, .int .i64 lo, .slice a rs.length cp] 26) none
  have HG1 := Lib.hid (grown_any (r := some cb) hga)
  have HC1 := Lib.hid (hc.old hga)
  have HR := Lib.hid hr
  have HO1 := Lib.hid (ho.alloc (.cells #[.int .i64 up, .int .i64 lo, .slice a rs.length cp] 26))
  have HK1 : Hid ((w.alloc (.cells #[.int .i64 up, .int .i64 lo, .slice a rs.length cp] 26)).heap[w.heap.size]? = some (.cells #[.int .i64 up, .int .i64 lo, .slice a rs.length cp] 26 (0, 0))) := Lib.hid (alloc_at rfl)
  clear hga hc hr ho
  go_enter Tryd.func43, Tryd.ntmps43
  go_wp2_with fail
  refine (l1Least_any 8 (rs.length : Int) _).mono ?_
  rintro e w' ⟨rfl, hw⟩
  subst w'
  rw [ej]
  go_wp2_with fail
  refine (l2Power_any j _ hj).mono ?_
  rintro e w' ⟨rfl, hw⟩
  subst w'
  generalize (10 : Int) ^ j = P at hP ⊢
  obtain ⟨hP0, hP1⟩ := hP
  have hPz : P ≠ 0 := by omega
  have q1 : IntKind.i64.wrap (P - 1) = P - 1 := by rw [IntKind.wrap_i64]; omega
  clear ej hj
  generalize w.alloc (.cells #[.int .i64 up, .int .i64 lo, .slice a rs.length cp] 26) = w1 at HG1 HC1 HO1 HK1 ⊢
  have hal := grown_alloc w1 (.cells ([0, 1, 5, 7, 9, 19, 36, 99, 108, 555, 1999, 48, 64].map (Value.int .i64)).toArray 3) none
  have HN1 : Hid (w1.heap.size ≠ cb) := Lib.hid (by have := HG1.out.size; omega)
  have HAM := Lib.hid (among_any cb cd L n (.slice (some ⟨w1.heap.size, 0, none⟩) 13 13) [0, 1, 5, 7, 9, 19, 36, 99, 108, 555, 1999, 48, 64] (w1.alloc (.cells ([0, 1, 5, 7, 9, 19, 36, 99, 108, 555, 1999, 48, 64].map (Value.int .i64)).toArray 3)) (by omega) (by decide) (slr_lit w1 ([0, 1, 5, 7, 9, 19, 36, 99, 108, 555, 1999, 48, 64].map (Value.int .i64)) 3 (by decide)) (fun a m c e => by cases e; exact HN1.out) (HC1.out.old hal) (HR.out.grown (grown_trans HG1.out (grown_any hal))))
  have HGL := Lib.hid (grown_any (r := some cb) hal)
  clear hal
  go_wp2_with fail
  refine (HAM.out).mono ?_
  rintro e w2 ⟨⟨x, rfl, hx⟩, hc2, hg2⟩
  have hx0 : 0 ≤ x ∧ x ≤ 1999 := by simp only [List.mem_cons, List.not_mem_nil, or_false] at hx; omega
  have HXT : Hid (-9223372036854775808 ≤ x.tmod P ∧ x.tmod P ≤ 9223372036854775807) := Lib.hid (by
    rw [Int.tmod_eq_emod_of_nonneg hx0.1]
    have h1 := Int.emod_nonneg x (b := P) (by omega)
    have h2 := Int.emod_lt_of_pos x (b := P) (by omega)
    omega)
  clear hx hx0
  have HL2 := Lib.hid (grown_trans HGL.out hg2)
  have HG2 := Lib.hid (grown_trans HG1.out HL2.out)
  have HC2 := Lib.hid hc2
  clear hc2 hg2
  go_wp2_with fail
  refine (one_any cb cd L (n + 2) 4 w2 (by omega) ⟨by omega, by omega⟩ HC2.out (HR.out.grown HG2.out)).mono ?_
  rintro e w3 ⟨⟨b, rfl⟩, hc3, hg3⟩
  have HL3 := Lib.hid (grown_trans HL2.out hg3)
  have HG3 := Lib.hid (grown_trans HG2.out hg3)
  have HC3 := Lib.hid hc3
  have hk3 := (HL3.out.block w.heap.size (Array.getElem?_eq_some_iff.1 HK1.out).1 (by intro e; injection e with e; omega)).trans HK1.out
  have HO3 := Lib.hid (own_grown HO1.out HL3.out hB)
  clear hc3 hg3
  cases b with
  | false =>
    clear hk3
    go_wp2_with fail
    refine (one_any cb cd L (n + 4) 24 w3 (by omega) ⟨by omega, by omega⟩ HC3.out (HR.out.grown HG3.out)).mono ?_
    rintro e wa ⟨⟨b2, rfl⟩, hca, hga⟩
    have HGA := Lib.hid (grown_trans HG3.out hga)
    have HCA := Lib.hid hca
    clear hca hga
    cases b2 with
    | true =>
      have hal := grown_alloc wa (.cells #[.int .i64 (-1), .int .i64 P, .int .i64 (P - 1)] 3) none
      have HNA : Hid (wa.heap.size ≠ cb) := Lib.hid (by have := HGA.out.size; omega)
      have HAM2 := Lib.hid (among_any cb cd L (n + 6) (.slice (some ⟨wa.heap.size, 0, none⟩) 3 3) [-1, P, P - 1] (wa.alloc (.cells #[.int .i64 (-1), .int .i64 P, .int .i64 (P - 1)] 3)) (by omega) ⟨by simp, by simp⟩ (slr_lit wa ([-1, P, P - 1].map (Value.int .i64)) 3 (by show 3 ≤ maxLen; decide)) (fun a m c e => by cases e; exact HNA.out) (HCA.out.old hal) (HR.out.grown (grown_trans HGA.out (grown_any hal))))
      have HGB := Lib.hid (grown_trans HGA.out (grown_any (r := some cb) hal))
      clear hal
      go_wp2_with fail
      refine (HAM2.out).mono ?_
      rintro e wb ⟨⟨z, rfl, hz⟩, hcb2, hgb2⟩
      have HZB : Hid (-1 ≤ z ∧ z ≤ 100000000) := Lib.hid (by simp only [List.mem_cons, List.not_mem_nil, or_false] at hz; omega)
      clear hz
      have HGC := Lib.hid (grown_trans HGB.out hgb2)
      have HCC := Lib.hid hcb2
      clear hcb2 hgb2
      go_wp2_with fail
      go_ret
      exact ⟨⟨_, rfl, by have := HZB.out; omega, by have := HZB.out; omega⟩, HCC.out.more (by omega), HGC.out⟩
    | false =>
      go_wp2_with fail
      go_ret
      exact ⟨⟨_, rfl, HXT.out.1, HXT.out.2⟩, HCA.out.more (by omega), HGA.out⟩
  | true =>
    obtain ⟨c0, c1, c2, f0, f1, f2⟩ := cell3 hk3
    have HK3 := Lib.hid hk3
    clear hk3
    go_wp2_with fail
    obtain ⟨b, hb⟩ : ∃ b : Bool, (b = true ↔ goodF up lo rs ∧ stdF rs) := by
      by_cases h : goodF up lo rs ∧ stdF rs
      · exact ⟨true, ⟨fun _ => h, fun _ => rfl⟩⟩
      · exact ⟨false, ⟨fun e => (by cases e), fun e => absurd e h⟩⟩
    refine (l2Std_any up lo _ rs w3 (RodsR.of_own HO3.out) b hb).mono ?_
    rintro e w4 ⟨rfl, hb4⟩
    have hn4 : w3.grownBy w4 none := ⟨hb4.os, hb4.tape, hb4.output, hb4.size, fun k hk _ => hb4.block k hk⟩
    have HG4 := Lib.hid (grown_trans HG3.out (grown_any hn4))
    have HC4 := Lib.hid (HC3.out.old hn4)
    have HO4 := Lib.hid (own_grown HO3.out (grown_any (r := some cb) hn4) hB)
    have hk4 := (hn4.block w.heap.size (Array.getElem?_eq_some_iff.1 HK3.out).1 (by simp)).trans HK3.out
    clear hn4 hb4 c0 c1 c2 f0 f1 f2
    cases b with
    | false =>
      clear hk4 hb
      go_wp2_with fail
      refine (one_any cb cd L (n + 4) 24 w4 (by omega) ⟨by omega, by omega⟩ HC4.out (HR.out.grown HG4.out)).mono ?_
      rintro e wa ⟨⟨b2, rfl⟩, hca, hga⟩
      have HGA := Lib.hid (grown_trans HG4.out hga)
      have HCA := Lib.hid hca
      clear hca hga
      cases b2 with
      | true =>
        have hal := grown_alloc wa (.cells #[.int .i64 (-1), .int .i64 P, .int .i64 (P - 1)] 3) none
        have HNA : Hid (wa.heap.size ≠ cb) := Lib.hid (by have := HGA.out.size; omega)
        have HAM2 := Lib.hid (among_any cb cd L (n + 6) (.slice (some ⟨wa.heap.size, 0, none⟩) 3 3) [-1, P, P - 1] (wa.alloc (.cells #[.int .i64 (-1), .int .i64 P, .int .i64 (P - 1)] 3)) (by omega) ⟨by simp, by simp⟩ (slr_lit wa ([-1, P, P - 1].map (Value.int .i64)) 3 (by show 3 ≤ maxLen; decide)) (fun a m c e => by cases e; exact HNA.out) (HCA.out.old hal) (HR.out.grown (grown_trans HGA.out (grown_any hal))))
        have HGB := Lib.hid (grown_trans HGA.out (grown_any (r := some cb) hal))
        clear hal
        go_wp2_with fail
        refine (HAM2.out).mono ?_
        rintro e wb ⟨⟨z, rfl, hz⟩, hcb2, hgb2⟩
        have HZB : Hid (-1 ≤ z ∧ z ≤ 100000000) := Lib.hid (by simp only [List.mem_cons, List.not_mem_nil, or_false] at hz; omega)
        clear hz
        have HGC := Lib.hid (grown_trans HGB.out hgb2)
        have HCC := Lib.hid hcb2
        clear hcb2 hgb2
        go_wp2_with fail
        go_ret
        exact ⟨⟨_, rfl, by have := HZB.out; omega, by have := HZB.out; omega⟩, HCC.out.more (by omega), HGC.out⟩
      | false =>
        go_wp2_with fail
        go_ret
        exact ⟨⟨_, rfl, HXT.out.1, HXT.out.2⟩, HCA.out.more (by omega), HGA.out⟩
    | true =>
      have hg := (hb.1 rfl).1
      clear hb
      have HGF := Lib.hid hg
      obtain ⟨c0, c1, c2, f0, f1, f2⟩ := cell3 hk4
      clear hk4 hg
      have hN := numF_max up lo rs HGF.out rs.length (Nat.le_refl _)
      rw [List.take_length] at hN
      go_wp2_with fail
      refine (l2Number_good up lo _ rs w4 (RodsR.of_own HO4.out) HGF.out).mono ?_
      rintro e w5 ⟨rfl, hb5⟩
      have hn5 : w4.grownBy w5 none := ⟨hb5.os, hb5.tape, hb5.output, hb5.size, fun k hk _ => hb5.block k hk⟩
      have HG5 := Lib.hid (grown_trans HG4.out (grown_any hn5))
      have HC5 := Lib.hid (HC4.out.old hn5)
      clear hn5 hb5 c0 c1 c2 f0 f1 f2
      generalize numF rs = N at hN ⊢
      obtain ⟨hN0, hN1⟩ := hN
      have q2 : IntKind.i64.wrap (P - 1 - N) = P - 1 - N := by rw [IntKind.wrap_i64]; omega
      go_wp2_with fail
      refine (l1Most_any 0 (P - 1 - N) _).mono ?_
      rintro e w' ⟨rfl, hw⟩
      subst w'
      have hMb : 0 ≤ (if P - 1 - N < 0 then (0 : Int) else P - 1 - N) ∧ (if P - 1 - N < 0 then (0 : Int) else P - 1 - N) ≤ 100000000 := by split <;> omega
      generalize (if P - 1 - N < 0 then (0 : Int) else P - 1 - N) = M at hMb ⊢
      clear q2
      go_wp2_with fail
      refine (pick_any cb cd L (n + 4) 2 w5 (by omega) (by omega) (by omega) HC5.out (HR.out.grown HG5.out)).mono ?_
      rintro e w6 ⟨⟨r, rfl, r0, r1⟩, hc6, hg6⟩
      have HG6 := Lib.hid (grown_trans HG5.out hg6)
      have HC6 := Lib.hid hc6
      clear hc6 hg6
      go_wp2_with fail
      go_ret
      exact ⟨⟨_, rfl, by first | omega | (rw [IntKind.wrap_i64]; omega), by first | omega | (rw [IntKind.wrap_i64]; omega)⟩, HC6.out.more (by omega), HG6.out⟩
end Go.Proofs.YtjkjaadcdolbhaaDoor

/-! Daddm -/
namespace Go.Proofs.YtjkjaadcdolbhaaDoor
set_option linter.unusedVariables false
open Go.RowKit
set_option linter.unusedSimpArgs false

set_option maxRecDepth 100000 in
set_option maxHeartbeats 1600000 in
theorem drawAddNumber_any (cd : Value) (L : List UInt8) (w : World) (h : SlR w cd (L.map fun c => .int .u8 (c.toNat : Int))) :
    Calls Tryd.prog 22 #[cd] w fun e w' => (∃ (up lo : Int) (sv : Value) (rs : List (Int × Int)) (z : Int), e = .returned (.tuple #[.agg #[.int .i64 up, .int .i64 lo, sv], .int .i64 z]) ∧ RodsR w' sv rs ∧ rs.length ≤ 20 ∧ -9223372036854775808 ≤ z ∧ z ≤ 9223372036854775807) ∧ Below w.heap.size w w' := by
  obtain ⟨ad, cp, rfl⟩ : ∃ a c, cd = .slice a L.length c := by obtain ⟨a, c, e, _⟩ := h; exact ⟨a, c, by rw [e, List.length_map]⟩
  have hT : (Lit.int .u64 0).wf = true := by decide
  obtain ⟨W0, hW0⟩ : ∃ W0, w.alloc (.cells #[.int .i64 0, .int .i64 0, .slice none 0 0] 26) = W0 := ⟨_, rfl⟩
  have hb0 : Below w.heap.size w W0 := by rw [← hW0]; exact (Below.refl _ w).alloc (Nat.le_refl _) _
  have hz0 : W0.heap[w.heap.size]? = some (.cells #[.int .i64 0, .int .i64 0, .slice none 0 0] 26 (0, 0)) := by rw [← hW0]; exact alloc_at rfl
  have hs0 : W0.heap.size = w.heap.size + 1 := by rw [← hW0]; simp
  have HN := Lib.hid (code_new (h.below hb0 (Nat.le_refl _)))
  obtain ⟨W1, hW1⟩ : ∃ W1, W0.alloc (.cells #[.slice ad L.length cp, .int .i64 0, .int .u64 0] 65) = W1 := ⟨_, rfl⟩
  have hc1 : CurAt W1 W0.heap.size (.slice ad L.length cp) 0 := ⟨0, 0, _, Nat.le_refl _, Lib.hid hT, by rw [← hW1]; exact alloc_at rfl⟩
  have hr1 : CodeR W1 W0.heap.size (.slice ad L.length cp) L := by rw [← hW1]; exact HN.out _
  have hb1 : Below W0.heap.size W0 W1 := by rw [← hW1]; exact (Below.refl _ W0).alloc (Nat.le_refl _) _
  have hz1 := (hb1.block _ (by omega)).trans hz0
  have hs1 : W1.heap.size = w.heap.size + 2 := by rw [← hW1]; simp; omega
  rw [hs0] at hc1 hr1
  have HA := Lib.hid (standard_any (w.heap.size + 1) _ L 0 W1 (by omega) hc1 hr1)
  have HB1 : Hid (Below w.heap.size w W1) := Lib.hid (hb0.trans (hb1.mono (by omega)))
  have HZ1 := Lib.hid hz1
  have HR1 := Lib.hid hr1
  have HS1 := Lib.hid hs1
  have hW1' : W0.alloc (.cells #[.slice ad L.length cp, .int .i64 0, .int .u64 0] 65) = W1 := hW1
  clear hc1 hr1 hb1 hb0 hz0 hz1 h HN hW1 hs1
  go_enter Tryd.func22, Tryd.ntmps22
  go_wp2_with fail
  try rw [hW0]
  try rw [hW1']
  refine (HA.out).mono ?_
  rintro e w2 ⟨⟨up, lo, sv, rs, rfl, ho, hl⟩, hc2, hg2⟩
  obtain ⟨a, c, rfl⟩ : ∃ a c, sv = .slice a rs.length c := by obtain ⟨a, c, e, _⟩ := RodsR.of_own ho; exact ⟨a, c, e⟩
  have hga := grown_alloc w2 (.cells #[.int .i64 up, .int .i64 lo, .slice a rs.length c] 26) none
  have HG3 := Lib.hid (grown_trans hg2 (grown_any (r := some (w.heap.size + 1)) hga))
  have HC3 := Lib.hid (hc2.old hga)
  have hkF : (w2.alloc (.cells #[.int .i64 up, .int .i64 lo, .slice a rs.length c] 26)).heap[w2.heap.size]? = some (.cells #[.int .i64 up, .int .i64 lo, .slice a rs.length c] 26 (0, 0)) := alloc_at rfl
  have HKF := Lib.hid hkF
  have HO3 := Lib.hid (ho.alloc (.cells #[.int .i64 up, .int .i64 lo, .slice a rs.length c] 26))
  have HF2 : Hid (w.heap.size + 2 ≤ w2.heap.size) := Lib.hid (by have := hg2.size; have := HS1.out; omega)
  have hlF : w2.heap.size < (w2.alloc (.cells #[.int .i64 up, .int .i64 lo, .slice a rs.length c] 26)).heap.size := lt_of_block hkF
  have HLF := Lib.hid hlF
  clear hc2 hg2 hga hkF ho hlF
  go_wp2_with fail
  try generalize w2.alloc (.cells #[.int .i64 up, .int .i64 lo, .slice a rs.length c] 26) = w3 at HG3 HC3 HKF HO3 HLF ⊢
  generalize w2.heap.size = F at HKF HF2 HLF ⊢
  have hg4 := grown_drewN w3 1 (some (w.heap.size + 1))
  have HC4 : Hid (CurAt w3.drew (w.heap.size + 1) (.slice ad L.length cp) (0 + 300)) := Lib.hid (HC3.out.old (grown_drewN w3 1 none))
  obtain ⟨c0, c1, c2, f0, f1, f2⟩ := cell3 HKF.out
  refine wp_region_held_drew (S := (fun u => u.cell? ⟨F, 0, none⟩ = some (.int .i64 up) ∧ u.cell? ⟨F, 1, none⟩ = some (.int .i64 lo) ∧ u.cell? ⟨F, 2, none⟩ = some (.slice a rs.length c))) (by kernel_rfl) (⟨c0, c1, c2⟩) (fun hHeld => ?_)
  have HG4 : Hid (w3.grownBy w3.drew (some (w.heap.size + 1))) := Lib.hid hg4
  clear hg4
  generalize w3.drew = w4 at HG4 HC4 hHeld ⊢
  clear c0 c1 c2 f0 f1 f2
  have HCL : Hid (∀ wi, w3.grownBy wi (some (w.heap.size + 1)) → wi.cell? ⟨F, 0, none⟩ = some (.int .i64 up) ∧ wi.cell? ⟨F, 1, none⟩ = some (.int .i64 lo) ∧ wi.cell? ⟨F, 2, none⟩ = some (.slice a rs.length c)) := Lib.hid (fun wi hg => by
    obtain ⟨c0, c1, c2, f0, f1, f2⟩ := cell3 ((hg.block F HLF.out (by intro e; have := HF2.out; injection e with e; omega)).trans HKF.out)
    exact ⟨c0, c1, c2⟩)
  refine take1 (i := 0) (v := ?v15) (some 11) rfl rfl (by kernel_rfl) (by kernel_rfl) (by kernel_rfl) (fun _ _ _ h => h) (Or.inl ⟨by rfl, ?y15⟩) (by assumption) ?r15
  case y15 => (intro w hSw; (try dsimp only at hSw); go_simp; (first | done | with_reducible rfl))
  try simp only [Act.put, List.setIfInBounds_toArray, List.set_cons_zero, List.set_cons_succ]
  refine take1 (i := 1) (v := ?v16) (some 12) rfl rfl (by kernel_rfl) (by kernel_rfl) (by kernel_rfl) (fun _ _ _ h => h) (Or.inl ⟨by rfl, ?y16⟩) (by assumption) ?r16
  case y16 => (intro w hSw; (try dsimp only at hSw); go_simp; (first | done | with_reducible rfl))
  try simp only [Act.put, List.setIfInBounds_toArray, List.set_cons_zero, List.set_cons_succ]
  refine take1 (i := 2) (v := ?v17) (some 13) rfl rfl (by kernel_rfl) (by kernel_rfl) (by kernel_rfl) (fun _ _ _ h => h) (Or.inl ⟨by rfl, ?y17⟩) (by assumption) ?r17
  case y17 => (intro w hSw; (try dsimp only at hSw); go_simp; (first | done | with_reducible rfl))
  try simp only [Act.put, List.setIfInBounds_toArray, List.set_cons_zero, List.set_cons_succ]
  refine wpAnyH_ready (rs := [3]) (by kernel_rfl) (by simp) ?_
  refine AllReadyH.cons rfl (fun K hK => ?_) AllReadyH.nil
  go_simp
  go_at_call 43
  refine (addend_any (w.heap.size + 1) _ L _ _ up lo a c rs w4 hl (by omega) (own_grown HO3.out HG4.out (by have := HS1.out; omega)) (by have := HS1.out; omega) HC4.out (HR1.out.grown (grown_trans HG3.out HG4.out))).mono ?_
  rintro e w5 ⟨⟨z, rfl, hzb⟩, hc5, hg5⟩
  have HZB := Lib.hid hzb
  clear hzb
  have HG5 := Lib.hid (grown_trans HG4.out hg5)
  have HC5 := Lib.hid hc5
  clear hc5 hg5
  refine hK.out _ _ ((HCL.out _ HG5.out)) (fun hHeld => ?_)
  clear hK K
  try simp only [Act.put, List.setIfInBounds_toArray, List.set_cons_zero, List.set_cons_succ]
  have hz := (HG5.out.block w.heap.size (by have := HF2.out; have := HLF.out; omega) (by intro e; injection e with e; omega)).trans ((HG3.out.block w.heap.size (by have := HS1.out; omega) (by intro e; injection e with e; omega)).trans HZ1.out)
  have hgA := grown_trans HG3.out HG5.out
  have HB := Lib.hid (HB1.out.grown hgA HB1.out.size (fun k e => by cases e; exact Nat.le_succ _))
  have HO := Lib.hid (own_set3 (own_grown HO3.out HG5.out (by have := HS1.out; omega)) (g := w.heap.size) (by have := HS1.out; omega) (.int .i64 up) (.int .i64 lo) (.slice a rs.length c))
  have hkz := heap_setCell_same _ w.heap.size 2 _ _ (.slice a rs.length c) (heap_setCell_same _ w.heap.size 1 _ _ (.int .i64 lo) (heap_setCell_same w5 w.heap.size 0 _ _ (.int .i64 up) hz))
  have hkf : (((w5.setCell ⟨w.heap.size, 0, none⟩ (.int .i64 up)).setCell ⟨w.heap.size, 1, none⟩ (.int .i64 lo)).setCell ⟨w.heap.size, 2, none⟩ (.slice a rs.length c)).heap[F]? = w5.heap[F]? := (heap_setCell_other _ _ F _ (by show F ≠ w.heap.size; have := HF2.out; omega)).trans ((heap_setCell_other _ _ F _ (by show F ≠ w.heap.size; have := HF2.out; omega)).trans (heap_setCell_other _ _ F _ (by show F ≠ w.heap.size; have := HF2.out; omega)))
  have hkf2 := hkf.trans ((HG5.out.block F HLF.out (by intro e; have := HF2.out; injection e with e; omega)).trans HKF.out)
  have hbl := bl_set3 HB.out (g := w.heap.size) (Nat.le_refl _) (.int .i64 up) (.int .i64 lo) (.slice a rs.length c)
  obtain ⟨z0, z1, z2, y0, y1, y2⟩ := cell3 hz
  clear hkf hgA hz
  refine wpAnyH_ready (rs := [4]) (by kernel_rfl) (by simp) ?_
  refine AllReadyH.cons rfl (fun K hK => ?_) AllReadyH.nil
  go_simp
  clear z0 z1 z2 y0 y1 y2
  generalize ((w5.setCell ⟨w.heap.size, 0, none⟩ (.int .i64 up)).setCell ⟨w.heap.size, 1, none⟩ (.int .i64 lo)).setCell ⟨w.heap.size, 2, none⟩ (.slice a rs.length c) = wz at hkz hkf2 hbl HO ⊢
  have HBL := Lib.hid hbl
  obtain ⟨c0, c1, c2, f0, f1, f2⟩ := cell3 hkf2
  refine hK.out _ _ (⟨c0, c1, c2⟩) (fun hHeld => ?_)
  clear hK K
  try simp only [Act.put]
  refine take1 (i := 5) (v := ?v18) (some 3) rfl rfl (by kernel_rfl) (by kernel_rfl) (by kernel_rfl) (fun _ _ _ h => h) (Or.inl ⟨by rfl, ?y18⟩) (by assumption) ?r18
  case y18 => (intro w hSw; (try dsimp only at hSw); go_simp; (first | done | with_reducible rfl))
  try simp only [Act.put, List.setIfInBounds_toArray, List.set_cons_zero, List.set_cons_succ]
  refine wpAnyH_done (by kernel_rfl) ?_ _
  have hkz2 : wz.heap[w.heap.size]? = some (.cells #[.int .i64 up, .int .i64 lo, .slice a rs.length c] 26 (0, 0)) := hkz
  obtain ⟨z0, z1, z2, y0, y1, y2⟩ := cell3 hkz2
  clear hkz hkz2 hkf2 hbl c0 c1 c2 f0 f1 f2
  go_wp2_with fail
  exact bodyPost_ret (v := .tuple #[.agg #[.int .i64 up, .int .i64 lo, .slice a rs.length c], .int .i64 z]) (by simp [results, Tryd.results22, go_sem, z0, z1, z2]) rfl ⟨⟨_, _, _, rs, _, rfl, RodsR.of_own HO.out, hl, HZB.out.1, HZB.out.2⟩, HBL.out⟩
end Go.Proofs.YtjkjaadcdolbhaaDoor

/-! Vmv -/
namespace Go.Proofs.YtjkjaadcdolbhaaDoor
set_option linter.unusedVariables false
open Go.RowKit

end Go.Proofs.YtjkjaadcdolbhaaDoor
