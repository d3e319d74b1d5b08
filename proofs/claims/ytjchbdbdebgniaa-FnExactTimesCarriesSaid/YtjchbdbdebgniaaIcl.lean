/- Collected into a slice: what a function that is ranged over gives, arrays of ints. -/
import Derived.Test.YtjchbdbdebgniaaRfq
import Derived.Test.YtjchbdbdebgniaaIdb
import Derived.Test.YtjchbdbdebgniaaTri
import Derived.Maps.OwnIn
namespace Go.Proofs.Ytjchbdbdebgniaa
set_option linter.unusedVariables false
open Go.RowKit Go.Shelf

attribute [local go_sem] Oper.semAt_some

set_option maxRecDepth 100000 in
set_option maxHeartbeats 3200000 in
theorem two_appendSeq (n : Nat) (hn : 3 ≤ n) (gf : Nat) (lb : Array Value) (egf : ∀ args w, (callFunc gf args).run Try.prog w = .ok (.enter gf args) w) (xs : List (Int × Int)) (hN : xs.length ≤ 100000) (w : World)
    (hseq : GivesP Fence.wide (n - 1) Try.prog gf lb (fun x : Int × Int => #[.agg #[.int .i64 x.1, .int .i64 x.2]]) w.heap.size (w.heap.size + 1) w.heap.size xs w) :
    CallsIn Fence.wide n Try.prog 110 #[.slice none 0 0, .func (.func gf) #[] lb] w fun e W' => (∃ v, e = .returned v ∧ W'.ownsRow w.heap.size 93 2 v xs.length (flatC prC xs)) ∧ Below w.heap.size w W' := by
  have h1 : 1 ≤ n := by omega
  obtain ⟨i0, hi, hz0, hz1, hz2⟩ := info_parts Try.infoTwo
  refine callsIn_of_wp_marks Try.func110 rfl trivial ?_ rfl
  simp only [Try.ntmps110, List.size_toArray, List.length_cons, List.length_nil, Nat.reduceAdd, Nat.reduceSub, Array.replicate_succ, Array.replicate_zero, List.push_toArray, List.append_toArray, List.nil_append, List.cons_append]
  gi_wp2
  have bO := Boxed.new w 28 (.slice none 0 0)
  have hB0 : Below w.heap.size w (w.alloc (.cells #[.slice none 0 0] 28)) := (Below.refl _ w).alloc (Nat.le_refl _) _
  have hbs : w.heap.size ≤ w.heap.size ∧ w.heap.size < w.heap.size + 1 := ⟨Nat.le_refl _, Nat.lt_succ_self _⟩
  refine range_law rfl h1 (gf := gf) (lb := lb) rfl trivial egf hseq ⟨hbs, ?hmine⟩ hB0 (fun _ => rfl)
    (fun pre W => (∃ v, Boxed W w.heap.size 28 v ∧ W.ownsRow w.heap.size 93 2 v pre.length (flatC prC pre)) ∧ Below w.heap.size w W)
    (stabP_own hbs (Nat.le_refl _) (by simp) (fun pre => pre.length) (fun pre => flatC prC pre))
    ⟨⟨_, bO, World.ownsRow_nil _ _ _ _⟩, hB0⟩
    (fun x a' W => ∃ Bx, W.heap[Bx]? = some (.cells #[.int .i64 x.1, .int .i64 x.2] 93 (0, 0)) ∧ a' = { tmps := #[.slice none 0 0, .func (.func gf) #[] lb, .pointer (some ⟨w.heap.size, 0, none⟩), undef, .slice none 0 0, .pointer (some ⟨Bx, 0, none⟩), .func (.func gf) #[] lb, .agg #[.int .i64 x.1, .int .i64 x.2], undef, undef, undef, undef, undef], defers := [] }) ?turn ?assign ?body ?done
  case hmine =>
    rintro k (hk | ⟨off, v, hv, hk⟩)
    · simp; omega
    · rw [boxed_at bO hv] at hk; cases hk
  case turn =>
    rintro x a' X l o o' ⟨Bx, hx, rfl⟩ _ hl ho
    exact ⟨Bx, (World.putObj_heap_other (fun e => by subst e; rw [hx] at hl; injection hl with hl; subst hl; cases ho)).trans hx, rfl⟩
  case assign =>
    rintro l pre x W K ⟨⟨v, hv, hrow⟩, hB⟩ hbw hK
    gi_wp2
    exact hK _ _ ((KeepsOthers.alloc _ _).from _) (KeepP.alloc hbw _) ⟨⟨v, hv.alloc _, hrow.alloc _⟩, hB.alloc hB.size _⟩ ⟨W.heap.size, alloc_at rfl, rfl⟩
  case body =>
    rintro l pre x a' W ⟨⟨v, hv, hrow⟩, hB⟩ ⟨Bx, hx, rfl⟩ hpx
    have hlt : pre.length < 100000 := by have := hpx.length_le; rw [List.length_append, List.length_singleton] at this; omega
    have hc := hv.cell
    obtain ⟨c0, c1, d0, d1⟩ := cell2 hx
    gi_wp2_with (gi_at_builtin; refine wpListIn_append_own_at _ rfl _ _ 28 rfl w.heap.size 93 i0 (.agg #[.int .i64 0, .int .i64 0]) 2 16 Try.underlying28 hi hz0 hz1 hz2 rfl (by decide) _ _ _ rfl (hrow.alloc _) ⟨W.heap.size, 0, none⟩ 1 1 [.int .i64 x.1, .int .i64 x.2] rfl rfl (news_at (alloc_at rfl)) (by intro u hu; simp only [List.mem_cons, List.not_mem_nil, or_false] at hu; rcases hu with rfl | rfl <;> rfl) (by unfold maxLen; omega) (by omega) (by have := hB.size; simp; omega) ?_; intro v' w1 hown' hgrow _ hat; have hkp := keepP_appended hbs hv (by decide) hrow hown' hgrow hat; obtain ⟨g', cap', rfl⟩ := ownsRow_succ hown'; obtain ⟨hv1, hv2, hr2, hk2, hb2⟩ := hv.appended (by decide) hrow hB.size (Nat.le_refl _) hown' hgrow; have hc1 := hv1.cell; have hf1 := hv1.frozen)
    exact ⟨hk2.from _, hkp, ⟨_, hv2, by rw [List.length_append, flatC_app]; exact hr2⟩, hB.trans hb2⟩
  case done =>
    rintro D W hD ⟨⟨v, hv, hrow⟩, hB⟩ hK
    have hc := hv.cell
    gi_wp2
    refine ⟨by simp, .inl ⟨_, _, rfl, run_takeDeferred hK, ?_⟩⟩
    exact ⟨_, results_tmp rfl _ _ _, ⟨v, rfl, ownsRow_putObj hrow _ hK rfl⟩, hB.trans (belowK_b (w := w) (Nat.le_refl _) W D _ _ (by simp at hD; omega) hK rfl rfl)⟩
set_option maxRecDepth 100000 in
set_option maxHeartbeats 800000 in
theorem two_collect (n : Nat) (hn : 4 ≤ n) (gf : Nat) (lb : Array Value) (egf : ∀ args w, (callFunc gf args).run Try.prog w = .ok (.enter gf args) w) (xs : List (Int × Int)) (hN : xs.length ≤ 100000) (w : World)
    (hseq : GivesP Fence.wide (n - 1 - 1) Try.prog gf lb (fun x : Int × Int => #[.agg #[.int .i64 x.1, .int .i64 x.2]]) w.heap.size (w.heap.size + 1) w.heap.size xs w) :
    CallsIn Fence.wide n Try.prog 83 #[.func (.func gf) #[] lb] w fun e W' => (∃ v, e = .returned v ∧ W'.ownsRow w.heap.size 93 2 v xs.length (flatC prC xs)) ∧ Below w.heap.size w W' := by
  have h1 : 1 ≤ n := by omega
  have cA := two_appendSeq (n - 1) (by omega) gf lb egf xs hN w hseq
  have hfA : Fence.wide.fn 110 := trivial
  refine callsIn_of_wp Try.func83 rfl trivial ?_ rfl
  simp only [Try.ntmps83, List.size_toArray, List.length_cons, List.length_nil, Nat.reduceAdd, Nat.reduceSub, Array.replicate_succ, Array.replicate_zero, List.push_toArray, List.append_toArray, List.nil_append, List.cons_append]
  gi_wp2_with (gi_at_call 110; refine cA.mono ?_; rintro e w' ⟨⟨v, rfl, hrow⟩, hb⟩)
  go_ret
  exact ⟨⟨v, rfl, hrow⟩, hb⟩
set_option maxRecDepth 100000 in
set_option maxHeartbeats 3200000 in
theorem tri_appendSeq (n : Nat) (hn : 3 ≤ n) (gf : Nat) (lb : Array Value) (egf : ∀ args w, (callFunc gf args).run Try.prog w = .ok (.enter gf args) w) (xs : List (Tr)) (hN : xs.length ≤ 100000) (w : World)
    (hseq : GivesP Fence.wide (n - 1) Try.prog gf lb (fun x : Tr => #[.agg #[.int .i64 x.i, .int .i64 x.k, .int .i64 x.v]]) w.heap.size (w.heap.size + 1) w.heap.size xs w) :
    CallsIn Fence.wide n Try.prog 95 #[.slice none 0 0, .func (.func gf) #[] lb] w fun e W' => (∃ v, e = .returned v ∧ W'.ownsRow w.heap.size 67 3 v xs.length (flatC trC xs)) ∧ Below w.heap.size w W' := by
  have h1 : 1 ≤ n := by omega
  obtain ⟨i0, hi, hz0, hz1, hz2⟩ := info_parts Try.infoTri
  refine callsIn_of_wp_marks Try.func95 rfl trivial ?_ rfl
  simp only [Try.ntmps95, List.size_toArray, List.length_cons, List.length_nil, Nat.reduceAdd, Nat.reduceSub, Array.replicate_succ, Array.replicate_zero, List.push_toArray, List.append_toArray, List.nil_append, List.cons_append]
  gi_wp2
  have bO := Boxed.new w 22 (.slice none 0 0)
  have hB0 : Below w.heap.size w (w.alloc (.cells #[.slice none 0 0] 22)) := (Below.refl _ w).alloc (Nat.le_refl _) _
  have hbs : w.heap.size ≤ w.heap.size ∧ w.heap.size < w.heap.size + 1 := ⟨Nat.le_refl _, Nat.lt_succ_self _⟩
  refine range_law rfl h1 (gf := gf) (lb := lb) rfl trivial egf hseq ⟨hbs, ?hmine⟩ hB0 (fun _ => rfl)
    (fun pre W => (∃ v, Boxed W w.heap.size 22 v ∧ W.ownsRow w.heap.size 67 3 v pre.length (flatC trC pre)) ∧ Below w.heap.size w W)
    (stabP_own hbs (Nat.le_refl _) (by simp) (fun pre => pre.length) (fun pre => flatC trC pre))
    ⟨⟨_, bO, World.ownsRow_nil _ _ _ _⟩, hB0⟩
    (fun x a' W => ∃ Bx, W.heap[Bx]? = some (.cells #[.int .i64 x.i, .int .i64 x.k, .int .i64 x.v] 67 (0, 0)) ∧ a' = { tmps := #[.slice none 0 0, .func (.func gf) #[] lb, .pointer (some ⟨w.heap.size, 0, none⟩), undef, .slice none 0 0, .pointer (some ⟨Bx, 0, none⟩), .func (.func gf) #[] lb, .agg #[.int .i64 x.i, .int .i64 x.k, .int .i64 x.v], undef, undef, undef, undef, undef], defers := [] }) ?turn ?assign ?body ?done
  case hmine =>
    rintro k (hk | ⟨off, v, hv, hk⟩)
    · simp; omega
    · rw [boxed_at bO hv] at hk; cases hk
  case turn =>
    rintro x a' X l o o' ⟨Bx, hx, rfl⟩ _ hl ho
    exact ⟨Bx, (World.putObj_heap_other (fun e => by subst e; rw [hx] at hl; injection hl with hl; subst hl; cases ho)).trans hx, rfl⟩
  case assign =>
    rintro l pre x W K ⟨⟨v, hv, hrow⟩, hB⟩ hbw hK
    gi_wp2
    exact hK _ _ ((KeepsOthers.alloc _ _).from _) (KeepP.alloc hbw _) ⟨⟨v, hv.alloc _, hrow.alloc _⟩, hB.alloc hB.size _⟩ ⟨W.heap.size, alloc_at rfl, rfl⟩
  case body =>
    rintro l pre x a' W ⟨⟨v, hv, hrow⟩, hB⟩ ⟨Bx, hx, rfl⟩ hpx
    have hlt : pre.length < 100000 := by have := hpx.length_le; rw [List.length_append, List.length_singleton] at this; omega
    have hc := hv.cell
    obtain ⟨c0, c1, c2, d0, d1, d2⟩ := cell3 hx
    gi_wp2_with (gi_at_builtin; refine wpListIn_append_own_at _ rfl _ _ 22 rfl w.heap.size 67 i0 (.agg #[.int .i64 0, .int .i64 0, .int .i64 0]) 3 24 Try.underlying22 hi hz0 hz1 hz2 rfl (by decide) _ _ _ rfl (hrow.alloc _) ⟨W.heap.size, 0, none⟩ 1 1 [.int .i64 x.i, .int .i64 x.k, .int .i64 x.v] rfl rfl (news_at (alloc_at rfl)) (by intro u hu; simp only [List.mem_cons, List.not_mem_nil, or_false] at hu; rcases hu with rfl | rfl | rfl <;> rfl) (by unfold maxLen; omega) (by omega) (by have := hB.size; simp; omega) ?_; intro v' w1 hown' hgrow _ hat; have hkp := keepP_appended hbs hv (by decide) hrow hown' hgrow hat; obtain ⟨g', cap', rfl⟩ := ownsRow_succ hown'; obtain ⟨hv1, hv2, hr2, hk2, hb2⟩ := hv.appended (by decide) hrow hB.size (Nat.le_refl _) hown' hgrow; have hc1 := hv1.cell; have hf1 := hv1.frozen)
    exact ⟨hk2.from _, hkp, ⟨_, hv2, by rw [List.length_append, flatC_app]; exact hr2⟩, hB.trans hb2⟩
  case done =>
    rintro D W hD ⟨⟨v, hv, hrow⟩, hB⟩ hK
    have hc := hv.cell
    gi_wp2
    refine ⟨by simp, .inl ⟨_, _, rfl, run_takeDeferred hK, ?_⟩⟩
    exact ⟨_, results_tmp rfl _ _ _, ⟨v, rfl, ownsRow_putObj hrow _ hK rfl⟩, hB.trans (belowK_b (w := w) (Nat.le_refl _) W D _ _ (by simp at hD; omega) hK rfl rfl)⟩
set_option maxRecDepth 100000 in
set_option maxHeartbeats 800000 in
theorem tri_collect (n : Nat) (hn : 4 ≤ n) (gf : Nat) (lb : Array Value) (egf : ∀ args w, (callFunc gf args).run Try.prog w = .ok (.enter gf args) w) (xs : List (Tr)) (hN : xs.length ≤ 100000) (w : World)
    (hseq : GivesP Fence.wide (n - 1 - 1) Try.prog gf lb (fun x : Tr => #[.agg #[.int .i64 x.i, .int .i64 x.k, .int .i64 x.v]]) w.heap.size (w.heap.size + 1) w.heap.size xs w) :
    CallsIn Fence.wide n Try.prog 64 #[.func (.func gf) #[] lb] w fun e W' => (∃ v, e = .returned v ∧ W'.ownsRow w.heap.size 67 3 v xs.length (flatC trC xs)) ∧ Below w.heap.size w W' := by
  have h1 : 1 ≤ n := by omega
  have cA := tri_appendSeq (n - 1) (by omega) gf lb egf xs hN w hseq
  have hfA : Fence.wide.fn 95 := trivial
  refine callsIn_of_wp Try.func64 rfl trivial ?_ rfl
  simp only [Try.ntmps64, List.size_toArray, List.length_cons, List.length_nil, Nat.reduceAdd, Nat.reduceSub, Array.replicate_succ, Array.replicate_zero, List.push_toArray, List.append_toArray, List.nil_append, List.cons_append]
  gi_wp2_with (gi_at_call 95; refine cA.mono ?_; rintro e w' ⟨⟨v, rfl, hrow⟩, hb⟩)
  go_ret
  exact ⟨⟨v, rfl, hrow⟩, hb⟩
end Go.Proofs.Ytjchbdbdebgniaa
