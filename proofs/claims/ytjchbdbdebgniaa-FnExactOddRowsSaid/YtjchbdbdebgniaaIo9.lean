/- The program's OddRows. -/
import Derived.Test.YtjchbdbdebgniaaIs9
import Derived.Test.YtjchbdbdebgniaaIt9
import Derived.Maps.OwnIn
namespace Go.Proofs.Ytjchbdbdebgniaa
set_option linter.unusedVariables false
open Go.RowKit Go.Shelf

attribute [local go_sem] Oper.semAt_some

set_option maxRecDepth 100000 in
set_option maxHeartbeats 6400000 in
theorem impOddRows_yes (a b : Nat) (w : World) (ha : a ≤ 9999) (hb9 : b ≤ 9999) :
    Calls Try.prog 41 #[.int .i64 (a : Int), .int .i64 (b : Int)] w fun e w' => (∃ sq, e = .returned (.tuple #[sq, .bool true]) ∧ w'.ownsRow w.heap.size 3 1 sq (odL (dbL a b)).length (flatC inC (odL (dbL a b)))) ∧ Below w.heap.size w w' := by
  have HN : Hid (∀ pre x, pre ++ [x] <+: dbL a b → 0 ≤ x.1 ∧ (odL pre).length ≤ 14) := Lib.hid (fun pre x h => by
    have h1 := dbL_nn 14 a b (by omega) x (h.subset (by simp))
    have h2 := h.length_le
    have h3 := dbL_len14 ha b
    have h4 := odL_len pre
    rw [List.length_append] at h2
    exact ⟨h1.1, by omega⟩)
  refine (callsIn_wide (n := 8)).1 ?_
  have h1 : (1 : Nat) ≤ 8 := by omega
  obtain ⟨i0, hi, hz0, hz1, hz2⟩ := info_parts Try.infoI9
  have cF : CallsIn Fence.wide 7 Try.prog 63 #[.int .i64 (a : Int), .int .i64 (b : Int)] w fun e w' => e = .returned (.bool true) ∧ w = w' := callsIn_wide.2 (areF_yes _ _ w ⟨by omega, by omega⟩)
  have HF := Lib.hid cF
  have hfF : Fence.wide.fn 63 := trivial
  have hfP : Fence.wide.fn 84 := trivial
  clear cF
  refine callsIn_of_wp_marks Try.func41 rfl trivial ?_ rfl
  simp only [Try.ntmps41, List.size_toArray, List.length_cons, List.length_nil, Nat.reduceAdd, Nat.reduceSub, Array.replicate_succ, Array.replicate_zero, List.push_toArray, List.append_toArray, List.nil_append, List.cons_append]
  gi_wp2_with (gi_at_call 63; refine HF.out.mono ?_; rintro e w' ⟨rfl, hw'⟩; subst w')
  have hs2 : ((w.alloc (.cells #[] 3)).alloc (.cells #[.slice (some ⟨w.heap.size, 0, none⟩) 0 0] 39)).heap.size = w.heap.size + 2 := by simp
  have hb2 : Below w.heap.size w ((w.alloc (.cells #[] 3)).alloc (.cells #[.slice (some ⟨w.heap.size, 0, none⟩) 0 0] 39)) := ((Below.refl _ _).alloc (Nat.le_refl _) _).alloc (by simp) _
  have ho2 : ((w.alloc (.cells #[] 3)).alloc (.cells #[.slice (some ⟨w.heap.size, 0, none⟩) 0 0] 39)).ownsRow w.heap.size 3 1 (.slice (some ⟨w.heap.size, 0, none⟩) 0 0) 0 [] := (World.ownsRow_made _ _ _ (Nat.le_refl _) (Nat.zero_le _) (by simp)).alloc _
  have hx2 : Boxed ((w.alloc (.cells #[] 3)).alloc (.cells #[.slice (some ⟨w.heap.size, 0, none⟩) 0 0] 39)) (w.heap.size + 1) 39 (.slice (some ⟨w.heap.size, 0, none⟩) 0 0) := alloc_at (by simp)
  generalize ((w.alloc (.cells #[] 3)).alloc (.cells #[.slice (some ⟨w.heap.size, 0, none⟩) 0 0] 39)) = w2 at hs2 hb2 ho2 hx2 ⊢
  refine (doublingsOf_in 7 (a : Int) (b : Int) w2).mono ?_
  rintro e w3 ⟨rfl, hw3⟩
  obtain ⟨w4, hw4, hsz4, hb4, d1, d2⟩ := doublingsOf_boxes (a : Int) (b : Int) w2
  rw [hw4] at hw3
  subst w3
  have hbs : w.heap.size + 1 ≤ w.heap.size + 1 ∧ w.heap.size + 1 < w.heap.size + 2 := by omega
  have hx4 : Boxed w4 (w.heap.size + 1) 39 (.slice (some ⟨w.heap.size, 0, none⟩) 0 0) := by rw [← hw4]; exact (hx2.alloc _).alloc _
  have ho4 : w4.ownsRow w.heap.size 3 1 (.slice (some ⟨w.heap.size, 0, none⟩) 0 0) 0 [] := own_below ho2 hb4
  have hb5 : Below w.heap.size w w4 := hb2.trans (hb4.mono hb2.size)
  have cG := doublings_gives 7 (by omega) a b w2.heap.size (w2.heap.size + 1) (w.heap.size + 1) (w.heap.size + 2) (w.heap.size + 1) ha hb9 w4 (by omega) (by omega) d1 d2
  have HG := Lib.hid cG
  have HS2 := Lib.hid hs2
  have HS4 := Lib.hid hsz4
  clear cG d1 d2 hw4 hx2 ho2 hb2 hb4 hs2 hsz4
  gi_wp2
  refine range_law rfl h1 (gf := 111) (lb := #[.pointer (some ⟨w2.heap.size, 0, none⟩), .pointer (some ⟨w2.heap.size + 1, 0, none⟩)]) rfl trivial (enters_of Try.func111 (by kernel_rfl) rfl) HG.out ⟨hbs, ?hmine⟩ (Below.refl _ _) (fun _ => rfl)
    (fun pre W => (∃ v, Boxed W (w.heap.size + 1) 39 v ∧ W.ownsRow w.heap.size 3 1 v (odL pre).length (flatC inC (odL pre))) ∧ Below w.heap.size w W)
    (stabP_own hbs (Nat.le_refl _) hb5.size (fun pre => (odL pre).length) (fun pre => flatC inC (odL pre)))
    ⟨⟨_, hx4, ho4⟩, hb5⟩
    (fun x a' W => ∃ Bx, W.heap[Bx]? = some (.cells #[.int .i64 x.1, .int .i64 x.2] 93 (0, 0)) ∧ a' = { tmps := #[.int .i64 (a : Int), .int .i64 (b : Int), undef, undef, .slice none 0 0, .bool false, .pointer (some ⟨w.heap.size + 1, 0, none⟩), .pointer (some ⟨Bx, 0, none⟩), .int .i64 (a : Int), .int .i64 (b : Int), .bool true, .bool false, undef, .slice (some ⟨w.heap.size, 0, none⟩) 0 0, .int .i64 (a : Int), .int .i64 (b : Int), .func (.func 111) #[] #[.pointer (some ⟨w2.heap.size, 0, none⟩), .pointer (some ⟨w2.heap.size + 1, 0, none⟩)], .agg #[.int .i64 x.1, .int .i64 x.2], undef, undef, undef, undef, undef, undef, undef, undef, undef, undef], defers := [] }) ?turn ?assign ?body ?done
  case hmine =>
    have := HS2.out
    have := HS4.out
    rintro k (hk | ⟨off, v, hv, hk⟩)
    · omega
    · rw [boxed_at hx4 hv] at hk; have : w.heap.size = k := by simpa [Value.ownBlock] using hk
      omega
  case turn =>
    rintro x a' X l o o' ⟨Bx, hx, rfl⟩ _ hl ho
    exact ⟨Bx, (World.putObj_heap_other (fun e => by subst e; rw [hx] at hl; injection hl with hl; subst hl; cases ho)).trans hx, rfl⟩
  case assign =>
    rintro l pre x W K ⟨⟨v, hv, hrow⟩, hB⟩ hbw hK
    gi_wp2
    exact hK _ _ ((KeepsOthers.alloc _ _).from _) (KeepP.alloc hbw _) ⟨⟨v, hv.alloc _, hrow.alloc _⟩, hB.alloc hB.size _⟩ ⟨W.heap.size, alloc_at rfl, rfl⟩
  case body =>
    rintro l pre x a' W ⟨⟨v, hv, hrow⟩, hB⟩ ⟨Bx, hx, rfl⟩ hpx
    obtain ⟨hx0, hlt⟩ := HN.out _ _ hpx
    have hc := hv.cell
    obtain ⟨c0, c1, d0, d1⟩ := cell2 hx
    have happ : odL (pre ++ [x]) = odL pre ++ (if x.1 % 2 = 1 then [x.2] else []) := by rw [odL_app, odL_one]
    by_cases hodd : x.1 % 2 = 1
    · rw [if_pos hodd] at happ
      have hod2 : (x.1 % 2 == 1) = true := by simpa using hodd
      gi_wp2_with (gi_at_builtin; refine wpListIn_append_own_at _ rfl _ _ 39 rfl w.heap.size 3 i0 (.int .i64 0) 1 8 Try.underlying39 hi hz0 hz1 hz2 rfl (by decide) _ _ _ rfl (hrow.alloc _) ⟨W.heap.size, 0, none⟩ 1 1 [.int .i64 x.2] rfl rfl (news_at (alloc_at rfl)) (by intro u hu; rw [List.mem_singleton.1 hu]; rfl) (by unfold maxLen; omega) (by omega) (by have := hB.size; simp; omega) ?_; intro v' w1 hown' hgrow _ hat; have hkp := keepP_appended hbs hv (by decide) hrow hown' hgrow hat; obtain ⟨g', cap', rfl⟩ := ownsRow_succ hown'; obtain ⟨hv1, hv2, hr2, hk2, hb2⟩ := hv.appended (by decide) hrow hB.size (Nat.le_succ _) hown' hgrow; have hc1 := hv1.cell; have hf1 := hv1.frozen)
      exact ⟨hk2.from _, hkp, ⟨_, hv2, by rw [happ, List.length_append, flatC_app]; exact hr2⟩, hB.trans hb2⟩
    · rw [if_neg hodd, List.append_nil] at happ
      have hod2 : (x.1 % 2 == 1) = false := by simpa using hodd
      gi_wp2
      exact ⟨KeepsFrom.refl _ _, KeepP.refl _ _ _ _, ⟨v, hv, by rw [happ]; exact hrow⟩, hB⟩
  case done =>
    rintro D W hD ⟨⟨v, hv, hrow⟩, hB⟩ hK
    have hc := hv.cell
    gi_wp2
    refine ⟨by simp, .inl ⟨_, _, rfl, run_takeDeferred hK, ?_⟩⟩
    exact ⟨_, results_tmp2 rfl _ _ _, ⟨v, rfl, ownsRow_putObj hrow _ hK rfl⟩, hB.trans (belowK_b (w := w) (Nat.le_refl _) W D _ _ (by have := hb5.size; omega) hK rfl rfl)⟩
set_option maxRecDepth 100000 in
set_option maxHeartbeats 800000 in
theorem impOddRows_no (a b : Int) (w : World) (h : ¬ okFs a b) :
    Calls Try.prog 41 #[.int .i64 a, .int .i64 b] w fun e w' => (∃ sq, e = .returned (.tuple #[sq, .bool false]) ∧ w'.ownsRow w.heap.size 3 1 sq ([] : List Int).length (flatC inC ([] : List Int))) ∧ Below w.heap.size w w' := by
  have HH := Lib.hid h
  clear h
  go_enter Try.func41, Try.ntmps41
  go_wp2_with fail
  refine (areF_no _ _ w HH.out).mono ?_
  rintro e w2 ⟨rfl, rfl⟩
  go_wp2_with fail
  go_ret2
  exact ⟨⟨_, rfl, World.ownsRow_made (base := w.heap.size) (e := 3) (size := 1) w #[] 0 (Nat.le_refl _) (Nat.zero_le _) (by simp)⟩, (Below.refl _ _).alloc (Nat.le_refl _) _⟩
end Go.Proofs.Ytjchbdbdebgniaa
