/- The program's pieces of a text, ranged over by a function, and collected. -/
import Derived.Test.YtfmkdfmholhnjaaSplit
import Derived.RangeFuncBox
import Derived.RangeFuncLeaves
import Derived.Shelf.Abstract
import Derived.WalkKit
import Derived.OwnWalkIn
import Derived.TacticsInMore
import Derived.LoopNIn
import Derived.LoopIn
import Derived.Maps.AppendAt
import Derived.Laws.DeepStrings4
import Derived.Sort.QuietTacIn
namespace Go.Proofs.Ytfmkdfmholhnjaa
set_option linter.unusedVariables false
open Go.RowKit Go.Shelf

attribute [local go_sem] Oper.semAt_some

theorem drewN_grown (w : World) (k : Nat) : w.grownBy (w.drewN k) none := ⟨rfl, rfl, rfl, Nat.le_refl _, fun _ _ _ => rfl⟩
set_option maxRecDepth 100000 in
set_option maxHeartbeats 2000000 in
/-- The pieces come, in order; a round may say 'no more'. -/
theorem pieces1_in (n : Nat) (hn : 1 ≤ n) (l Bs Bc n₀ : Nat) (s : ByteArray) (c : UInt8) (hs : s.size ≤ 4000) (J Jx : List (List UInt8) → World → Prop)
    (hY : ∀ pre x W, J pre W → pre.length < s.size + 1 → YieldAt Fence.wide (n - 1) Try.prog l #[strV x] W fun e W' =>
      (e = .returned (.bool true) ∧ J (pre ++ [x]) W' ∧ Below n₀ W W') ∨ (e = .returned (.bool false) ∧ Jx (pre ++ [x]) W'))
    (W : World) (hJ : AbidesFrom W.heap.size J) (hBs : Bs < n₀) (hBc : Bc < n₀) (h1 : W.cell? ⟨Bs, 0, none⟩ = some (.string s)) (h2 : W.cell? ⟨Bc, 0, none⟩ = some (.int .u8 (c.toNat : Int))) (h0 : J [] W) :
    CallsIn Fence.wide n Try.prog 30 #[.func (.yield l) #[] #[], .pointer (some ⟨Bs, 0, none⟩), .pointer (some ⟨Bc, 0, none⟩)] W fun e W' => (∃ v, e = .returned v) ∧
      ((∃ ys, ys = spl c s.data.toList ∧ J ys W') ∨ (∃ pre, pre <+: spl c s.data.toList ∧ Jx pre W')) := by
  have hL : s.data.toList.length = s.size := by simp
  refine callsIn_of_wp Try.func30 rfl trivial ?_ rfl
  simp only [Try.ntmps30, List.size_toArray, List.length_cons, List.length_nil, Nat.reduceAdd, Nat.reduceSub, Array.replicate_succ, Array.replicate_zero, List.push_toArray, List.append_toArray, List.nil_append, List.cons_append]
  gi_wp2
  gi_loopw [4, 8] (fun st i wr => ∃ (P : List (List UInt8)) (j k : Nat), k ≤ s.size ∧ i = .int .i64 k ∧ st = .int .i64 j ∧ SplAt s.data.toList c P j k ∧ J P wr ∧ Below n₀ W wr) (fun _ i _ => s.size - (intOf i).toNat)
  case atStart => exact ⟨[], 0, 0, Nat.zero_le _, rfl, rfl, splAt_start _ _, h0, Below.refl _ _⟩
  case round =>
    obtain ⟨P, j, k, hk, rfl, rfl, hA, hJs, hb⟩ := hrel
    have hjk : j ≤ k := hA.2.2.1
    have hPj : P.length ≤ j := hA.2.2.2
    have g1 : wr.cell? ⟨Bs, 0, none⟩ = some (.string s) := (hb.cell (p := ⟨Bs, 0, none⟩) hBs).trans h1
    have g2 : wr.cell? ⟨Bc, 0, none⟩ = some (.int .u8 (c.toNat : Int)) := (hb.cell (p := ⟨Bc, 0, none⟩) hBc).trans h2
    have z1 : (0 : Int) ≤ (k : Int) := by omega
    have y1 : (0 : Int) ≤ (j : Int) := by omega
    have y2 : (j : Int) ≤ (k : Int) := by omega
    by_cases hlt : k < s.size
    · have z2 : (k : Int) < (s.size : Int) := by omega
      gi_wp2
      gi_quiet_th (fail)
      rename Nat => nq
      have hJd : J P (wr.drewN nq) := hJ P wr _ none hJs (drewN_grown wr nq) (fun r e => by cases e)
      have hbd : Below n₀ W (wr.drewN nq) := bl_drewN hb nq
      have g1d : (wr.drewN nq).cell? ⟨Bs, 0, none⟩ = some (.string s) := (hbd.cell (p := ⟨Bs, 0, none⟩) hBs).trans h1
      clear g1 g2 hJs hb
      generalize wr.drewN nq = wd at hJd hbd g1d ⊢
      by_cases he : s[k] = c
      · have hne : ((s[k].toNat : Int) != (c.toNat : Int)) = false := by rw [he]; simp
        have HA := Lib.hid (splAt_hit hA (by omega) he)
        have HX := Lib.hid (ext_strV s j k)
        obtain ⟨fn, tmps, assign, body, hy, hR⟩ := hY P ((s.data.toList.drop j).take (k - j)) wd hJd (by omega)
        rw [← HX.out] at hy
        clear he
        gi_wp2
        refine hR.mono ?_
        rintro e W3 (⟨rfl, hJ3, hk3⟩ | ⟨rfl, hJx3⟩)
        · have HJ3 := Lib.hid hJ3
          have HB3 := Lib.hid (hbd.trans hk3)
          clear hJ3 hk3 hR hy
          gi_wp2
          go_roundw
          case rel => exact ⟨_, k + 1, k + 1, by omega, by go_num, by go_num, HA.out, HJ3.out, HB3.out⟩
          case measure => simp [intOf]; omega
        · have HPre : Hid (P ++ [(s.data.toList.drop j).take (k - j)] <+: spl c s.data.toList) := Lib.hid ⟨_, HA.out.1.symm⟩
          have HJ3 := Lib.hid hJx3
          clear hJx3 hR hy
          gi_wp2
          refine bodyPost_ret (results_none rfl _ _ _) rfl ?_
          exact ⟨⟨_, rfl⟩, .inr ⟨_, HPre.out, HJ3.out⟩⟩
      · have hne : ((s[k].toNat : Int) != (c.toNat : Int)) = true := by
          rw [bne_iff_ne]; intro e; exact he (UInt8.toNat_inj.1 (by omega))
        have HA := Lib.hid (splAt_miss hA (by omega) he)
        clear he
        gi_wp2
        go_roundw
        case rel => exact ⟨P, j, k + 1, by omega, by go_num, rfl, HA.out, hJd, hbd⟩
        case measure => simp [intOf]; omega
    · obtain rfl : k = s.size := by omega
      have HE := Lib.hid (splAt_end hA (by omega))
      have hex : Value.string (s.extract j s.size) = strV (s.data.toList.drop j) := by
        rw [ext_strV, List.take_of_length_le (by rw [List.length_drop]; omega)]
      have y3 : (j : Int) ≤ (s.size : Int) := by omega
      obtain ⟨fn, tmps, assign, body, hy, hR⟩ := hY P (s.data.toList.drop j) wr hJs (by omega)
      rw [← hex] at hy
      clear hex
      gi_wp2
      refine hR.mono ?_
      rintro e W3 (⟨rfl, hJ3, hk3⟩ | ⟨rfl, hJx3⟩)
      · have HJ3 := Lib.hid hJ3
        clear hJ3 hk3 hR hy
        gi_wp2
        go_end0
        exact ⟨⟨_, rfl⟩, .inl ⟨_, HE.out.symm, HJ3.out⟩⟩
      · have HJ3 := Lib.hid hJx3
        clear hJx3 hR hy
        gi_wp2
        go_end0
        exact ⟨⟨_, rfl⟩, .inr ⟨_, ⟨[], by rw [List.append_nil]; exact HE.out.symm⟩, HJ3.out⟩⟩
theorem pieces_stops (n : Nat) (hn : 1 ≤ n) (Bs Bc n₀ : Nat) (s : ByteArray) (c : UInt8) (hs : s.size ≤ 4000) (w : World) (hn₀ : n₀ ≤ w.heap.size) (hBs : Bs < n₀) (hBc : Bc < n₀) (h1 : w.cell? ⟨Bs, 0, none⟩ = some (.string s)) (h2 : w.cell? ⟨Bc, 0, none⟩ = some (.int .u8 (c.toNat : Int))) :
    SeqStopsK Fence.wide n Try.prog 30 #[.pointer (some ⟨Bs, 0, none⟩), .pointer (some ⟨Bc, 0, none⟩)] (fun x : List UInt8 => #[strV x]) (Below n₀) (fun ys => ys = spl c s.data.toList) (fun pre => pre <+: spl c s.data.toList) (s.size + 1) w := fun l J Jx W hW hJ _ hY h0 =>
  pieces1_in n hn l Bs Bc n₀ s c hs J Jx hY W hJ hBs hBc ((hW.cell (p := ⟨Bs, 0, none⟩) (Nat.lt_of_lt_of_le hBs hn₀)).trans h1) ((hW.cell (p := ⟨Bc, 0, none⟩) (Nat.lt_of_lt_of_le hBc hn₀)).trans h2) h0
set_option maxRecDepth 100000 in
set_option maxHeartbeats 800000 in
/-- The maker of the iterator: both arguments are boxed, the function value captures the boxes. -/
theorem piecesOf_in (n : Nat) (s : ByteArray) (c : UInt8) (w : World) :
    CallsIn Fence.wide n Try.prog 20 #[.string s, .int .u8 (c.toNat : Int)] w fun e w' => e = .returned (.func (.func 30) #[] #[.pointer (some ⟨w.heap.size, 0, none⟩), .pointer (some ⟨w.heap.size + 1, 0, none⟩)]) ∧ w' = (w.alloc (.cells #[.string s] 9)).alloc (.cells #[.int .u8 (c.toNat : Int)] 5) := by
  refine callsIn_of_wp Try.func20 rfl trivial ?_ rfl
  simp only [Try.ntmps20, List.size_toArray, List.length_cons, List.length_nil, Nat.reduceAdd, Nat.reduceSub, Array.replicate_succ, Array.replicate_zero, List.push_toArray, List.append_toArray, List.nil_append, List.cons_append]
  gi_wp2
  go_ret
  exact ⟨rfl, rfl⟩
set_option maxRecDepth 100000 in
set_option maxHeartbeats 2000000 in
/-- What an iterator gives, laid in a new slice, in its order. -/
theorem appendSeq_in (n : Nat) (hn : 3 ≤ n) (gf : Nat) (lb : Array Value) (egf : ∀ args w, (callFunc gf args).run Try.prog w = .ok (.enter gf args) w) (S Sp : List (List UInt8) → Prop) (N : Nat) (hN : N ≤ 100000) (w : World)
    (hseq : SeqStopsK Fence.wide (n - 1) Try.prog gf lb (fun x : List UInt8 => #[strV x]) (Below w.heap.size) S Sp N w) :
    CallsIn Fence.wide n Try.prog 29 #[.slice none 0 0, .func (.func gf) #[] lb] w fun e W' => ∃ v ys, e = .returned v ∧ S ys ∧ W'.ownsRow w.heap.size 9 1 v ys.length (ys.map strV) ∧ Below w.heap.size w W' := by
  have h1 : 1 ≤ n := by omega
  obtain ⟨i0, hi, hz0, hz1, hz2⟩ := info_parts Try.infoStr
  refine callsIn_of_wp_marks Try.func29 rfl trivial ?_ rfl
  simp only [Try.ntmps29, List.size_toArray, List.length_cons, List.length_nil, Nat.reduceAdd, Nat.reduceSub, Array.replicate_succ, Array.replicate_zero, List.push_toArray, List.append_toArray, List.nil_append, List.cons_append]
  gi_wp2
  have bO := Boxed.new w 22 (.slice none 0 0)
  have hB0 : Below w.heap.size w (w.alloc (.cells #[.slice none 0 0] 22)) := (Below.refl _ w).alloc (Nat.le_refl _) _
  refine wpIn_rangeFunc_ownG rfl h1 (gf := gf) (lb := lb) rfl trivial egf hseq belowK_t (belowK_b (by simp)) hB0 (fun _ => rfl)
    (fun pre W => (∃ v, Boxed W w.heap.size 22 v ∧ W.ownsRow w.heap.size 9 1 v pre.length (pre.map strV) ∧ True) ∧ Below w.heap.size w W)
    (fun _ _ _ => False)
    (OwnFrom.and (Own.from (holdsRow_own w.heap.size w.heap.size 22 9 1 (fun pre : List (List UInt8) => pre.length) (fun pre : List (List UInt8) => pre.map strV) (fun _ _ => True)) _) (ownFrom_below (Nat.le_refl _) (by simp)))
    (fun _ _ _ _ _ hs _ _ => hs)
    ⟨⟨_, bO, World.ownsRow_nil _ _ _ _, trivial⟩, hB0⟩
    (fun x => { tmps := #[.slice none 0 0, .func (.func gf) #[] lb, .pointer (some ⟨w.heap.size, 0, none⟩), undef, .slice none 0 0, .string ⟨x.toArray⟩, .func (.func gf) #[] lb, .string ⟨x.toArray⟩, undef, undef, undef, undef, undef], defers := [] }) ?assign ?body ?done ?stop
  case assign =>
    intro l x W K hK
    gi_wp2
    exact hK
  case body =>
    rintro l pre x W ⟨⟨v, hv, hrow, _⟩, hB⟩ hlt
    have hc := hv.cell
    gi_wp2_with (gi_at_builtin; refine wpListIn_append_own _ rfl _ _ 22 rfl w.heap.size 9 i0 (.string ⟨#[]⟩) 1 16 Try.underlying22 hi hz0 hz1 hz2 rfl (by decide) _ _ _ rfl (hrow.alloc _) ⟨W.heap.size, 0, none⟩ 1 1 [.string ⟨x.toArray⟩] rfl rfl (cell_one_new _ _ _) (by intro u hu; rw [List.mem_singleton.1 hu]; rfl) (by unfold maxLen; omega) (by omega) (by have := hB.size; simp; omega) ?_; intro v' w1 hown' hgrow _; obtain ⟨g', cap', rfl⟩ := ownsRow_succ hown'; obtain ⟨hv1, hv2, hr2, hk2, hb2⟩ := hv.appended (by decide) hrow hB.size (Nat.le_refl _) hown' hgrow; have hc1 := hv1.cell; have hf1 := hv1.frozen)
    exact ⟨hk2.from _, hb2, ⟨_, hv2, by rw [List.length_append, List.map_append]; exact hr2, trivial⟩, hB.trans hb2⟩
  case done =>
    rintro D ys W hD hS ⟨⟨v, hv, hrow, _⟩, hB⟩ hK
    have hc := hv.cell
    gi_wp2
    refine ⟨by simp, .inl ⟨_, _, rfl, run_takeDeferred hK, ?_⟩⟩
    exact ⟨_, results_tmp rfl _ _ _, v, ys, rfl, hS, ownsRow_putObj hrow _ hK rfl, hB.trans (belowK_b (w := w) (Nat.le_refl _) W D _ _ (by simp at hD; omega) hK rfl rfl)⟩
  case stop =>
    rintro D c pre W _ _ h _
    exact h.elim
end Go.Proofs.Ytfmkdfmholhnjaa
