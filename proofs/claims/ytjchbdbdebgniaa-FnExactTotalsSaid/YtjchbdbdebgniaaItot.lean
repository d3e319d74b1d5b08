/- The program's Totals. -/
import Derived.Test.YtjchbdbdebgniaaIs9
import Derived.Test.YtjchbdbdebgniaaIt9
import Derived.Test.YtjchbdbdebgniaaNm2
import Derived.Maps.OwnIn
import Derived.Shelf.RegionOpen
namespace Go.Proofs.Ytjchbdbdebgniaa
set_option linter.unusedVariables false
open Go.RowKit Go.Shelf

attribute [local go_sem] Oper.semAt_some

set_option maxRecDepth 100000 in
set_option maxHeartbeats 6400000 in
theorem impTotals_yes (a b : Nat) (w : World) (ha : a ≤ 9999) (hb9 : b ≤ 9999) :
    Calls Try.prog 27 #[.int .i64 (a : Int), .int .i64 (b : Int)] w fun e w' => (∃ sq, e = .returned (.tuple #[sq, .bool true]) ∧ w'.ownsRow w.heap.size 3 1 sq (ttL 0 (prT (dgL a) (dgL b))).length (flatC inC (ttL 0 (prT (dgL a) (dgL b))))) ∧ Below w.heap.size w w' := by
  have HN : Hid (∀ pre x, pre ++ [x] <+: prT (dgL a) (dgL b) → (∃ (I K : Nat) (v : Int), x = ⟨(I : Int), (K : Int), v⟩ ∧ I ≤ 3 ∧ K ≤ 3 ∧ 1 ≤ v ∧ v ≤ 81) ∧ pre.length ≤ 16 ∧ (0 ≤ smT pre ∧ smT pre ≤ 99980001) ∧ (0 ≤ smT (pre ++ [x]) ∧ smT (pre ++ [x]) ≤ 99980001)) := Lib.hid (fun pre x h => by
    have h2 := h.length_le
    have h3 := prT_len16 ha hb9
    rw [List.length_append, List.length_singleton] at h2
    have hm := mul_top ha hb9
    have p1 := smT_pre ha hb9 h
    have p2 := smT_pre ha hb9 ((List.prefix_append pre [x]).trans h)
    refine ⟨?_, by omega, by omega, by omega⟩
    obtain ⟨h4, h5, h6⟩ := part_ok ha hb9 (h.subset (List.mem_append_right pre List.mem_cons_self))
    obtain ⟨i, q, v⟩ := x
    simp only at h4 h5 h6
    exact ⟨i.toNat, q.toNat, v, by rw [Int.toNat_of_nonneg h4.1, Int.toNat_of_nonneg h5.1], by omega, by omega, by omega, by omega⟩)
  refine (callsIn_wide (n := 8)).1 ?_
  have h1 : (1 : Nat) ≤ 8 := by omega
  obtain ⟨i0, hi, hz0, hz1, hz2⟩ := info_parts Try.infoI9
  have cF : CallsIn Fence.wide 7 Try.prog 63 #[.int .i64 (a : Int), .int .i64 (b : Int)] w fun e w' => e = .returned (.bool true) ∧ w = w' := callsIn_wide.2 (areF_yes _ _ w ⟨by omega, by omega⟩)
  have HF := Lib.hid cF
  have hfF : Fence.wide.fn 63 := trivial
  have hfP : Fence.wide.fn 65 := trivial
  clear cF
  refine callsIn_of_wp_marks Try.func27 rfl trivial ?_ rfl
  simp only [Try.ntmps27, List.size_toArray, List.length_cons, List.length_nil, Nat.reduceAdd, Nat.reduceSub, Array.replicate_succ, Array.replicate_zero, List.push_toArray, List.append_toArray, List.nil_append, List.cons_append]
  gi_wp2_with (gi_at_call 63; refine HF.out.mono ?_; rintro e w' ⟨rfl, hw'⟩; subst w')
  have hs2 : (((w.alloc (.cells #[] 3)).alloc (.cells #[.slice (some ⟨w.heap.size, 0, none⟩) 0 0] 39)).alloc (.cells #[.int .i64 0] 3)).heap.size = w.heap.size + 1 + 1 + 1 := by simp
  have hb2 : Below w.heap.size w (((w.alloc (.cells #[] 3)).alloc (.cells #[.slice (some ⟨w.heap.size, 0, none⟩) 0 0] 39)).alloc (.cells #[.int .i64 0] 3)) := (((Below.refl _ _).alloc (Nat.le_refl _) _).alloc (by simp) _).alloc (by simp; omega) _
  have ho2 : (((w.alloc (.cells #[] 3)).alloc (.cells #[.slice (some ⟨w.heap.size, 0, none⟩) 0 0] 39)).alloc (.cells #[.int .i64 0] 3)).ownsRow w.heap.size 3 1 (.slice (some ⟨w.heap.size, 0, none⟩) 0 0) 0 [] := ((World.ownsRow_made _ _ _ (Nat.le_refl _) (Nat.zero_le _) (by simp)).alloc _).alloc _
  have hx2 : Boxed (((w.alloc (.cells #[] 3)).alloc (.cells #[.slice (some ⟨w.heap.size, 0, none⟩) 0 0] 39)).alloc (.cells #[.int .i64 0] 3)) (w.heap.size + 1) 39 (.slice (some ⟨w.heap.size, 0, none⟩) 0 0) := (alloc_old (by simp)).trans (alloc_at (by simp))
  have hy2 : Boxed (((w.alloc (.cells #[] 3)).alloc (.cells #[.slice (some ⟨w.heap.size, 0, none⟩) 0 0] 39)).alloc (.cells #[.int .i64 0] 3)) (w.heap.size + 1 + 1) 3 (.int .i64 0) := alloc_at (by simp)
  generalize (((w.alloc (.cells #[] 3)).alloc (.cells #[.slice (some ⟨w.heap.size, 0, none⟩) 0 0] 39)).alloc (.cells #[.int .i64 0] 3)) = w2 at hs2 hb2 ho2 hx2 hy2 ⊢
  refine (partsOf_in 7 (a : Int) (b : Int) w2).mono ?_
  rintro e w3 ⟨rfl, hw3⟩
  obtain ⟨w4, hw4, hsz4, hb4, d1, d2⟩ := partsOf_boxes (a : Int) (b : Int) w2
  rw [hw4] at hw3
  subst w3
  have hbs : w.heap.size + 1 ≤ w.heap.size + 1 ∧ w.heap.size + 1 < w.heap.size + 1 + 1 + 1 := by omega
  have hbt : w.heap.size + 1 ≤ w.heap.size + 1 + 1 ∧ w.heap.size + 1 + 1 < w.heap.size + 1 + 1 + 1 := by omega
  have hx4 : Boxed w4 (w.heap.size + 1) 39 (.slice (some ⟨w.heap.size, 0, none⟩) 0 0) := by rw [← hw4]; exact (hx2.alloc _).alloc _
  have hy4 : Boxed w4 (w.heap.size + 1 + 1) 3 (.int .i64 0) := by rw [← hw4]; exact (hy2.alloc _).alloc _
  have ho4 : w4.ownsRow w.heap.size 3 1 (.slice (some ⟨w.heap.size, 0, none⟩) 0 0) 0 [] := own_below ho2 hb4
  have hb5 : Below w.heap.size w w4 := hb2.trans (hb4.mono hb2.size)
  have cG := parts_gives 7 (by omega) a b w2.heap.size (w2.heap.size + 1) (w.heap.size + 1) (w.heap.size + 1 + 1 + 1) (w.heap.size + 1) ha hb9 w4 (by omega) (by omega) d1 d2
  have HG := Lib.hid cG
  have HS2 := Lib.hid hs2
  have HS4 := Lib.hid hsz4
  clear cG d1 d2 hw4 hx2 hy2 ho2 hb2 hb4 hs2 hsz4
  gi_wp2
  refine range_law rfl h1 (gf := 96) (lb := #[.pointer (some ⟨w2.heap.size, 0, none⟩), .pointer (some ⟨w2.heap.size + 1, 0, none⟩)]) rfl trivial (enters_of Try.func96 (by kernel_rfl) rfl) HG.out ⟨hbs, ?hmine⟩ (Below.refl _ _) (fun _ => rfl)
    (fun pre W => ((∃ v, Boxed W (w.heap.size + 1) 39 v ∧ W.ownsRow w.heap.size 3 1 v (ttL 0 pre).length (flatC inC (ttL 0 pre)) ∧ v.ownBlock ≠ some (w.heap.size + 1 + 1)) ∧ Below w.heap.size w W) ∧ Boxed W (w.heap.size + 1 + 1) 3 (.int .i64 (smT pre)))
    (StabP.and (stabP_ownG hbs (Nat.le_refl _) hb5.size (fun pre => (ttL 0 pre).length) (fun pre => flatC inC (ttL 0 pre)) (fun v => v.ownBlock ≠ some (w.heap.size + 1 + 1))) (stabP_box hbt (fun pre => .int .i64 (smT pre))))
    ⟨⟨⟨_, hx4, ho4, by simp [Value.ownBlock]; omega⟩, hb5⟩, hy4⟩
    (fun x a' W => ∃ Bx, W.heap[Bx]? = some (.cells #[.int .i64 x.i, .int .i64 x.k, .int .i64 x.v] 67 (0, 0)) ∧ a' = { tmps := #[.int .i64 (a : Int), .int .i64 (b : Int), undef, undef, .slice none 0 0, .bool false, .pointer (some ⟨w.heap.size + 1, 0, none⟩), .pointer (some ⟨w.heap.size + 1 + 1, 0, none⟩), .pointer (some ⟨Bx, 0, none⟩), .int .i64 (a : Int), .int .i64 (b : Int), .bool true, .bool false, undef, .slice (some ⟨w.heap.size, 0, none⟩) 0 0, .int .i64 (a : Int), .int .i64 (b : Int), .func (.func 96) #[] #[.pointer (some ⟨w2.heap.size, 0, none⟩), .pointer (some ⟨w2.heap.size + 1, 0, none⟩)], .agg #[.int .i64 x.i, .int .i64 x.k, .int .i64 x.v], undef, undef, undef, undef, undef, undef, undef, undef, undef], defers := [] }) ?turn ?assign ?body ?done
  case hmine =>
    have := HS2.out
    have := HS4.out
    rintro k (hk | ⟨off, v, hv, hk⟩)
    · omega
    · rw [boxed_at hx4 hv] at hk; have : w.heap.size = k := by simpa [Value.ownBlock] using hk
      omega
  case turn =>
    rintro x a' X l o o' ⟨Bx, hx, rfl⟩ _ hl ho
    exact ⟨Bx, (World.putObj_heap_other (fun e => by subst e; rw [hx] at hl; injection hl with hl; subst hl; cases ho)).trans hx, rfl⟩
  case assign =>
    rintro l pre x W K ⟨⟨⟨v, hv, hrow, hne⟩, hB⟩, hy⟩ hbw hK
    gi_wp2
    exact hK _ _ ((KeepsOthers.alloc _ _).from _) (KeepP.alloc hbw _) ⟨⟨⟨v, hv.alloc _, hrow.alloc _, hne⟩, hB.alloc hB.size _⟩, hy.alloc _⟩ ⟨W.heap.size, alloc_at rfl, rfl⟩
  case body =>
    rintro l pre x a' W ⟨⟨⟨v, hv, hrow, hne⟩, hB⟩, hy⟩ ⟨Bx, hx, rfl⟩ hpx
    obtain ⟨⟨I, K, u, rfl, hI, hK, hu⟩, hlen, hs1, hs2⟩ := HN.out _ _ hpx
    have hlt := ttL_len 0 pre
    have hc := hv.cell
    have hyc := hy.cell
    have hyf := hy.frozen
    obtain ⟨c0, c1, c2, d0, d1, d2⟩ := cell3 hx
    have happ := ttL_snoc 0 pre ⟨(I : Int), (K : Int), u⟩
    have hsm : smT (pre ++ [⟨(I : Int), (K : Int), u⟩]) = smT pre + wT ⟨(I : Int), (K : Int), u⟩ := by rw [smT_app, smT_cons, smT_nil]; omega
    have hwt : wT ⟨(I : Int), (K : Int), u⟩ = u * 10 ^ (I + K) := by simp [wT]
    rw [hwt, ← hwt, Int.zero_add, ← hsm] at happ
    rw [hsm, hwt] at hs2
    have hwr : IntKind.i64.wrap (smT pre + u * 10 ^ (I + K)) = smT (pre ++ [⟨(I : Int), (K : Int), u⟩]) := by rw [hsm, hwt, IntKind.wrap_i64]; omega
    have HW := Lib.hid (fun w => worthOf_any I K u w hI hK hu)
    have hd : (1 : Nat) ≤ 8 - 1 - 1 := by omega
    have hmx : Try.prog.follows .mixedOrders = true := by kernel_rfl
    have hly := hy.lt
    have HY := Lib.hid hy
    have HBX := Lib.hid hx
    obtain ⟨S2, hS2⟩ : ∃ S2, smT (pre ++ [⟨(I : Int), (K : Int), u⟩]) = S2 := ⟨_, rfl⟩
    rw [hS2] at hwr happ
    have HS2' := Lib.hid hS2
    have HAP := Lib.hid happ
    have HV := Lib.hid hv
    have HRW := Lib.hid hrow
    have HBB := Lib.hid hB
    have HNE := Lib.hid hne
    obtain ⟨nn, hnn⟩ : ∃ nn, (ttL 0 pre).length = nn := ⟨_, rfl⟩
    have hn16 : nn ≤ 16 := by omega
    have HNN := Lib.hid hnn
    clear hs2 hwt hsm hx hS2 happ hv hrow hB hne hlt hnn hlen
    gi_wp2
    gi_region_with_o (refine ⟨trivial, ?_⟩; gi_at_call 72; refine (CallsIn.inRound l (callsIn_wide.2 (HW.out _))).mono ?_; rintro e w9 ⟨rfl, hb9⟩; have hy9 : Boxed w9 (w.heap.size + 1 + 1) 3 (.int .i64 (smT pre)) := (hb9.block _ hly).trans HY.out; have hyc9 := hy9.cell; have hyf9 := hy9.frozen)
    all_goals
      have hbW : Below W.heap.size W w9 := (Below.refl _ W).drew.trans hb9
      have hkp := (KeepP.below (B1 := w.heap.size + 1) (B2 := w.heap.size + 1 + 1 + 1) (Nat.lt_of_lt_of_le HV.out.lt (Nat.le_refl _)) hbW).trans (KeepP.set (i := 0) (.int .i64 S2) hbt (show w.heap.size + 1 + 1 ≠ w.heap.size + 1 by omega))
      have hkf := (keepsFrom_below (B := w4.heap.size) hbW).trans ((KeepsOthers.setCell w9 ⟨w.heap.size + 1 + 1, 0, none⟩ (.int .i64 S2)).from _)
      have hv10 : Boxed (w9.setCell ⟨w.heap.size + 1 + 1, 0, none⟩ (.int .i64 S2)) (w.heap.size + 1) 39 v := Boxed.other (show Boxed w9 _ _ _ from (hbW.block _ HV.out.lt).trans HV.out) (by omega) _
      have hy10 : Boxed (w9.setCell ⟨w.heap.size + 1 + 1, 0, none⟩ (.int .i64 S2)) (w.heap.size + 1 + 1) 3 (.int .i64 S2) := Boxed.set _ hy9
      have hr10 := own_set_box (own_below HRW.out hbW) (A := w.heap.size + 1 + 1) (fun g hg e => HNE.out (by rw [hg, e])) 0 (.int .i64 S2)
      have hB10 : Below w.heap.size w (w9.setCell ⟨w.heap.size + 1 + 1, 0, none⟩ (.int .i64 S2)) := (HBB.out.trans (hbW.mono HBB.out.size)).setCell (p := ⟨w.heap.size + 1 + 1, 0, none⟩) (by simp; omega) _
      generalize w9.setCell ⟨w.heap.size + 1 + 1, 0, none⟩ (.int .i64 S2) = X at hkp hkf hv10 hy10 hr10 hB10 ⊢
      rw [HNN.out] at hr10
      have hc10 := hv10.cell
      have hyc10 := hy10.cell
      have hlX := hy10.lt
      clear hb9 hbW hy9 hyc9 hyf9
      gi_wp2_with (gi_at_builtin; refine wpListIn_append_own_at _ rfl _ _ 39 rfl w.heap.size 3 i0 (.int .i64 0) 1 8 Try.underlying39 hi hz0 hz1 hz2 rfl (by decide) _ _ _ rfl (hr10.alloc _) ⟨X.heap.size, 0, none⟩ 1 1 [.int .i64 S2] rfl rfl (news_at (alloc_at rfl)) (by intro u hu; rw [List.mem_singleton.1 hu]; rfl) (by unfold maxLen; omega) (by omega) (by have := hB10.size; simp; omega) ?_; intro v' w1 hown' hgrow _ hat; have hkp2 := keepP_appended hbs hv10 (by decide) hr10 hown' hgrow hat; obtain ⟨g', cap', rfl⟩ := ownsRow_succ hown'; obtain ⟨hv1, hv2, hr2, hk2, hb2⟩ := hv10.appended (by decide) hr10 hB10.size (Nat.le_succ _) hown' hgrow; have hc1 := hv1.cell; have hf1 := hv1.frozen)
      have hg' : g' ≠ w.heap.size + 1 + 1 := by
        rcases hat with h9 | h9
        · intro e; exact HNE.out (h9.symm.trans (by rw [e]; rfl))
        · have : g' = X.heap.size + 1 := by simpa [Value.ownBlock] using h9
          omega
      have hy1 : Boxed w1 (w.heap.size + 1 + 1) 3 (.int .i64 S2) := (hy10.alloc _).kept hgrow (fun e => HNE.out e.symm)
      have hy2 := hy1.other (B' := w.heap.size + 1) (by omega) (.slice (some ⟨g', 0, none⟩) (nn + 1) cap')
      exact ⟨hkf.trans (hk2.from _), hkp.trans hkp2, ⟨⟨_, hv2, by rw [HAP.out, List.length_append, HNN.out, flatC_app]; exact hr2, by intro e; exact hg' (by simpa [Value.ownBlock] using e)⟩, hB10.trans hb2⟩, by rw [HS2'.out]; exact hy2⟩
  case done =>
    rintro D W hD ⟨⟨⟨v, hv, hrow, hne⟩, hB⟩, hy⟩ hK
    have hc := hv.cell
    gi_wp2
    refine ⟨by simp, .inl ⟨_, _, rfl, run_takeDeferred hK, ?_⟩⟩
    exact ⟨_, results_tmp2 rfl _ _ _, ⟨v, rfl, ownsRow_putObj hrow _ hK rfl⟩, hB.trans (belowK_b (w := w) (Nat.le_refl _) W D _ _ (by have := hb5.size; omega) hK rfl rfl)⟩
set_option maxRecDepth 100000 in
set_option maxHeartbeats 800000 in
theorem impTotals_no (a b : Int) (w : World) (h : ¬ okFs a b) :
    Calls Try.prog 27 #[.int .i64 a, .int .i64 b] w fun e w' => (∃ sq, e = .returned (.tuple #[sq, .bool false]) ∧ w'.ownsRow w.heap.size 3 1 sq ([] : List Int).length (flatC inC ([] : List Int))) ∧ Below w.heap.size w w' := by
  have HH := Lib.hid h
  clear h
  go_enter Try.func27, Try.ntmps27
  go_wp2_with fail
  refine (areF_no _ _ w HH.out).mono ?_
  rintro e w2 ⟨rfl, rfl⟩
  go_wp2_with fail
  go_ret2
  exact ⟨⟨_, rfl, World.ownsRow_made (base := w.heap.size) (e := 3) (size := 1) w #[] 0 (Nat.le_refl _) (Nat.zero_le _) (by simp)⟩, (Below.refl _ _).alloc (Nat.le_refl _) _⟩
end Go.Proofs.Ytjchbdbdebgniaa
