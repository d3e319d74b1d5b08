/- The program's parts, ranged over. -/
import Derived.Test.YtjchbdbdebgniaaRfp
import Derived.Test.YtjchbdbdebgniaaIrw
import Derived.Shelf.Abstract
import Derived.WalkKit
import Derived.OwnWalkIn
import Derived.TacticsInMore
import Derived.LoopNIn
import Derived.LoopIn
import Derived.Maps.AppendAt
import Derived.Sort.QuietTacIn
namespace Go.Proofs.Ytjchbdbdebgniaa
set_option linter.unusedVariables false
open Go.RowKit Go.Shelf

attribute [local go_sem] Oper.semAt_some
theorem Try.undSS9 : Try.prog.underlying 109 = some (.slice (Try.prog.elem 109)) := by simp [Try.underlying109, Program.elem]

theorem own_safe {B1 B2 Bs lo hi : Nat} {X X' : World} {e : TypeId} {size n : Nat} {v : Value} {xs : List Value} (h : Ow lo hi X e size v n xs) (hk : KeepP B1 B2 Bs X X') (hm : ∀ q, lo ≤ q → q < hi → ¬ Mine B1 B2 Bs X q) : Ow lo hi X' e size v n xs := by
  refine ⟨own_of_block h.1 fun g hg => ?_, h.2⟩
  obtain ⟨cur, hc⟩ := own_heap h.1 hg
  rw [hk.same g _ hc rfl (hm g (h.1.lt g hg).1 (h.2 g hg)), hc]
theorem OwnSS.safe {B1 B2 Bs lo hi : Nat} {X X' : World} {v : Value} {vs : List Value} {xss : List (List Int)} (h : OwnSS lo hi X v vs xss) (hk : KeepP B1 B2 Bs X X') (hm : ∀ q, lo ≤ q → q < hi → ¬ Mine B1 B2 Bs X q) : OwnSS lo hi X' v vs xss :=
  { h with outer := own_safe h.outer hk hm, inner := fun i hi => own_safe (h.inner i hi) hk hm }
/-- The rows stand, in blocks that no round touches. -/
structure RowsAt (B1 B2 Bs lo hi : Nat) (X : World) (v : Value) (vs : List Value) (xss : List (List Int)) : Prop where
  rows : OwnSS lo hi X v vs xss
  off : ∀ q, lo ≤ q → q < hi → ¬ Mine B1 B2 Bs X q
  top : hi ≤ X.heap.size
  mine : MineIn B1 B2 Bs X
theorem RowsAt.keep {B1 B2 Bs lo hi : Nat} {X X' : World} {v : Value} {vs : List Value} {xss : List (List Int)} (h : RowsAt B1 B2 Bs lo hi X v vs xss) (hk : KeepP B1 B2 Bs X X') : RowsAt B1 B2 Bs lo hi X' v vs xss :=
  ⟨h.rows.safe hk h.off, fun q h1 h2 hm => by
    rcases hk.mine q hm with h3 | h3
    · exact h.off q h1 h2 h3
    · have := h.top; omega, Nat.le_trans h.top hk.size, hk.within h.mine⟩
theorem RowsAt.alloc {B1 B2 Bs lo hi : Nat} {X : World} {v : Value} {vs : List Value} {xss : List (List Int)} (h : RowsAt B1 B2 Bs lo hi X v vs xss) (o : Obj) : RowsAt B1 B2 Bs lo hi (X.alloc o) v vs xss := h.keep (KeepP.alloc h.mine.bs o)
/-- One row's value, and one of its numbers. -/
theorem RowsAt.row {B1 B2 Bs lo hi : Nat} {X : World} {a : Option Addr} {n c : Nat} {vs : List Value} {xss : List (List Int)} (h : RowsAt B1 B2 Bs lo hi X (.slice a n c) vs xss) (i : Nat) (hi' : i < xss.length) :
    ∃ b, a = some ⟨b, 0, none⟩ ∧ X.cell? ⟨b, i, none⟩ = some (vs.getD i undef) ∧ ∃ ai ci, vs.getD i undef = .slice ai (xss.getD i []).length ci := by
  have hl := h.rows.len
  have hn : vs.length = n := by
    obtain ⟨a', c', hv⟩ := own_form h.rows.outer.1
    injection hv with _ h2 _; exact h2.symm
  subst hn
  obtain ⟨b, cp, hv⟩ := own_blk h.rows.outer.1 (by omega)
  injection hv with h1 _ _
  subst h1
  refine ⟨b, rfl, ?_, own_form (h.rows.inner i (by omega)).1⟩
  have h5 := h.rows.outer.1.cellAt i (by omega)
  rw [h5, List.getElem?_eq_getElem (by omega), getD_at _ _ _ (by omega)]
theorem RowsAt.num {B1 B2 Bs lo hi : Nat} {X : World} {v : Value} {vs : List Value} {xss : List (List Int)} (h : RowsAt B1 B2 Bs lo hi X v vs xss) (i : Nat) (hi' : i < xss.length) {ai : Option Addr} {n ci : Nat} (hv : vs.getD i undef = .slice ai n ci) (k : Nat) (hk : k < (xss.getD i []).length) :
    ∃ b, ai = some ⟨b, 0, none⟩ ∧ X.cell? ⟨b, k, none⟩ = some (.int .i64 (xss.getD i [])[k]) := by
  have hl := h.rows.len
  have hin := (h.rows.inner i (by omega)).1
  rw [hv] at hin
  have hn : n = (xss.getD i []).length := by
    obtain ⟨a', c', hv'⟩ := own_form hin
    injection hv' with _ h2 _
  subst hn
  obtain ⟨b, cp, hv2⟩ := own_blk hin (by omega)
  injection hv2 with h1 _ _
  subst h1
  refine ⟨b, rfl, ?_⟩
  have h5 := (hin.cellAt (k * 1 + 0) (by omega)).trans (flatC_at inC_len _ k hk 0 (by omega))
  rw [Nat.mul_one, Nat.add_zero] at h5
  exact h5

set_option maxRecDepth 100000 in
set_option maxHeartbeats 6400000 in
theorem parts_gives (n : Nat) (hn : 1 ≤ n) (a b Ba Bb B1 B2 Bs : Nat) (ha : a ≤ 9999) (hb9 : b ≤ 9999) (w : World) (hBa : Ba < w.heap.size) (hBb : Bb < w.heap.size) (h1 : w.cell? ⟨Ba, 0, none⟩ = some (.int .i64 (a : Int))) (h2 : w.cell? ⟨Bb, 0, none⟩ = some (.int .i64 (b : Int))) :
    GivesP Fence.wide n Try.prog 96 #[.pointer (some ⟨Ba, 0, none⟩), .pointer (some ⟨Bb, 0, none⟩)] (fun x : Tr => #[.agg #[.int .i64 x.i, .int .i64 x.k, .int .i64 x.v]]) B1 B2 Bs (prT (dgL a) (dgL b)) w := by
  intro l J W hW hM hJ hY h0
  have g1 : W.cell? ⟨Ba, 0, none⟩ = some (.int .i64 (a : Int)) := (hW.cell (p := ⟨Ba, 0, none⟩) hBa).trans h1
  have g2 : W.cell? ⟨Bb, 0, none⟩ = some (.int .i64 (b : Int)) := (hW.cell (p := ⟨Bb, 0, none⟩) hBb).trans h2
  have HY := Lib.hid hY
  have HJ := Lib.hid hJ
  have HM0 := Lib.hid hM
  have HJ0 := Lib.hid h0
  have hp4 := dgL_len4 a ha
  have hq4 := dgL_len4 b hb9
  have HPB : Hid (∀ i (h : i < (dgL a).length), 0 ≤ (dgL a)[i] ∧ (dgL a)[i] ≤ 9) := Lib.hid (fun i h => dgL_at a i h)
  have HQB : Hid (∀ i (h : i < (dgL b).length), 0 ≤ (dgL b)[i] ∧ (dgL b)[i] ≤ 9) := Lib.hid (fun i h => dgL_at b i h)
  have cR : CallsIn Fence.wide (n - 1) Try.prog 97 #[.int .i64 (a : Int), .int .i64 (b : Int)] W fun e w' => (∃ sq vs, e = .returned sq ∧ OwnSS W.heap.size w'.heap.size w' sq vs (rwsL (dgL a) (dgL b))) ∧ Below W.heap.size W w' := callsIn_wide.2 (rowsOf_any a b W ha hb9)
  have HR := Lib.hid cR
  have hfR : Fence.wide.fn 97 := trivial
  generalize dgL a = p at HY hp4 HPB HR ⊢
  generalize dgL b = q at HY hq4 HQB HR ⊢
  obtain ⟨PT, hPT⟩ : ∃ PT, prT p q = PT := ⟨_, rfl⟩
  have HPT := Lib.hid hPT.symm
  rw [hPT] at HY ⊢
  clear hW hY hJ hM h0 h1 h2 hBa hBb cR hPT
  refine callsIn_of_wp Try.func96 rfl trivial ?_ rfl
  simp only [Try.ntmps96, List.size_toArray, List.length_cons, List.length_nil, Nat.reduceAdd, Nat.reduceSub, Array.replicate_succ, Array.replicate_zero, List.push_toArray, List.append_toArray, List.nil_append, List.cons_append]
  gi_wp2_with (gi_at_call 97; refine HR.out.mono ?_; rintro e w1 ⟨⟨sq, vs, rfl, hss⟩, hb1⟩)
  have hN : vs.length = p.length := by rw [hss.len, rwsL_len]
  obtain ⟨ar, cr, rfl⟩ := own_form hss.outer.1
  rw [hN] at hss ⊢
  have hmi : ∀ k, Mine B1 B2 Bs w1 k ↔ Mine B1 B2 Bs W k := mine_block (hb1.block _ HM0.out.bs)
  have HRA : Hid (RowsAt B1 B2 Bs W.heap.size w1.heap.size w1 (.slice ar p.length cr) vs (rwsL p q)) := Lib.hid ⟨hss, fun q h1 _ hm => by have := HM0.out.2 q ((hmi q).1 hm); omega, Nat.le_refl _, HM0.out.1, fun k hk => Nat.lt_of_lt_of_le (HM0.out.2 k ((hmi k).1 hk)) hb1.size⟩
  have HJ1 : Hid (J [] w1) := Lib.hid (HJ.out.quiet HJ0.out ⟨hb1.os, hb1.tape, hb1.output, hb1.size, fun k hk _ => hb1.block k hk⟩)
  have HZP : Hid (p.length ≤ 9223372036854775807 ∧ q.length ≤ 9223372036854775807) := Lib.hid (by omega)
  clear hss hb1 hmi
  gi_wp2
  rw [run_len_slice _ _ _ _ _ _ Try.undSS9]
  gi_wp2
  gi_loopw [15] (fun iv wr => ∃ (i : Nat) (pre : List Tr), i ≤ p.length ∧ iv = .int .i64 (i : Int) ∧ Hid (PT = pre ++ prT (p.drop i) q) ∧ RowsAt B1 B2 Bs W.heap.size w1.heap.size wr (.slice ar p.length cr) vs (rwsL p q) ∧ J pre wr) (fun iv _ => 20 - (intOf iv).toNat)
  case atStart => exact ⟨0, [], Nat.zero_le _, rfl, Lib.hid (by rw [HPT.out]; simp), HRA.out, HJ1.out⟩
  case round =>
    obtain ⟨i, pre, hi5, rfl, HY1, hra, hj⟩ := hrel
    rename World => wo
    have HRO := Lib.hid hra
    have HJO := Lib.hid hj
    by_cases hlt : i < p.length
    · have z1 : (0 : Int) ≤ (i : Int) := by omega
      have z2 : (i : Int) < (p.length : Int) := by omega
      have hx := HPB.out i hlt
      obtain ⟨b1, rfl, c1, ai, ci, hvi⟩ := hra.row i (by rw [rwsL_len]; exact hlt)
      have hrow : (rwsL p q).getD i [] = dpL p[i] q := by rw [getD_at _ _ _ (by rw [rwsL_len]; exact hlt)]; simp [rwsL]
      rw [hrow, dpL_len] at hvi
      have HY2 : Hid (PT = pre ++ (rowT (p.length - 1 - i) p[i] (q.drop 0) ++ prT (p.drop (i + 1)) q)) := Lib.hid (by rw [HY1.out, prT_drop p q i hlt, List.drop_zero])
      obtain ⟨x, hxe⟩ : ∃ x, p[i] = x := ⟨_, rfl⟩
      rw [hxe] at hx HY2 hrow
      rw [hvi] at c1
      have HROW := Lib.hid hrow
      have HVI := Lib.hid hvi
      have hdl := dpL_len x q
      clear hra hj hxe hrow hvi
      gi_wp2
      gi_loopw [22] (fun kv wi => ∃ (k : Nat) (pre : List Tr), k ≤ q.length ∧ kv = .int .i64 (k : Int) ∧ Hid (PT = pre ++ (rowT (p.length - 1 - i) x (q.drop k) ++ prT (p.drop (i + 1)) q)) ∧ RowsAt B1 B2 Bs W.heap.size w1.heap.size wi (.slice (some ⟨b1, 0, none⟩) p.length cr) vs (rwsL p q) ∧ J pre wi) (fun kv _ => 20 - (intOf kv).toNat)
      case atStart => exact ⟨0, pre, Nat.zero_le _, rfl, HY2, HRO.out, HJO.out⟩
      case round =>
        obtain ⟨k, pre, hk5, rfl, HY3, hra, hj⟩ := hrel
        rename World => wi
        have HRI := Lib.hid hra
        have HJI := Lib.hid hj
        by_cases hlk : k < q.length
        · have y1 : (0 : Int) ≤ (k : Int) := by omega
          have y2 : (k : Int) < (q.length : Int) := by omega
          have hkr : k < ((rwsL p q).getD i []).length := by rw [HROW.out, dpL_len]; exact hlk
          obtain ⟨b2, rfl, c2⟩ := hra.num i (by rw [rwsL_len]; exact hlt) HVI.out k hkr
          have hval : ((rwsL p q).getD i [])[k] = x * q[k] := by
            have : ∀ (l : List Int) (h : k < l.length), l = dpL x q → l[k] = x * q[k] := by rintro l h rfl; simp [dpL]
            exact this _ _ HROW.out
          rw [hval] at c2
          have hy := HQB.out k hlk
          have hm : 0 ≤ x * q[k] ∧ x * q[k] ≤ 81 := dig_mul hx hy
          have hst := HY3.out
          rw [rowT_drop _ _ _ _ hlk] at hst
          obtain ⟨V, hV⟩ : ∃ V, x * q[k] = V := ⟨_, rfl⟩
          rw [hV] at hm hst c2
          have e1 : ((p.length - 1 - i : Nat) : Int) = (p.length : Int) - 1 - (i : Int) := by omega
          obtain ⟨I, hI⟩ : ∃ I : Int, (p.length : Int) - 1 - (i : Int) = I := ⟨_, rfl⟩
          obtain ⟨Q, hQ⟩ : ∃ Q : Int, (q.length : Int) - 1 - (k : Int) = Q := ⟨_, rfl⟩
          have s1 : IntKind.i64.wrap ((p.length : Int) - 1) = (p.length : Int) - 1 := by rw [IntKind.wrap_i64]; omega
          have s2 : IntKind.i64.wrap ((p.length : Int) - 1 - (i : Int)) = I := by rw [hI, IntKind.wrap_i64]; omega
          have s3 : IntKind.i64.wrap ((q.length : Int) - 1) = (q.length : Int) - 1 := by rw [IntKind.wrap_i64]; omega
          have s4 : IntKind.i64.wrap ((q.length : Int) - 1 - (k : Int)) = Q := by rw [hQ, IntKind.wrap_i64]; omega
          rw [e1, hI, hQ] at hst
          clear hra hj hkr hval hV hI hQ e1 hy
          by_cases hv : 0 < V
          · rw [if_pos hv] at hst
            have HST : Hid (PT = (pre ++ [⟨I, Q, V⟩]) ++ (rowT (p.length - 1 - i) x (q.drop (k + 1)) ++ prT (p.drop (i + 1)) q)) := Lib.hid (by rw [hst]; simp)
            have HRB := Lib.hid (HRI.out.alloc (.cells #[.int .i64 I, .int .i64 Q, .int .i64 V] 67))
            obtain ⟨fn, tmps, assign, body, hy, hR⟩ := HY.out pre ⟨I, Q, V⟩ (wi.alloc (.cells #[.int .i64 I, .int .i64 Q, .int .i64 V] 67)) (HJ.out.alloc HJI.out _) ⟨_, HST.out.symm⟩
            clear hst
            gi_wp2
            refine hR.mono ?_
            rintro e W3 ⟨rfl, hJ3, hk3⟩
            have HRC := Lib.hid (HRB.out.keep hk3)
            have HJ3 := Lib.hid hJ3
            clear hJ3 hk3 hR hy
            gi_wp2
            go_roundw
            case rel => exact ⟨k + 1, _, by omega, by go_num, HST, HRC.out, HJ3.out⟩
            case measure => simp [intOf]; omega
          · rw [if_neg hv, List.nil_append] at hst
            have HST := Lib.hid hst
            have HRB := Lib.hid (HRI.out.alloc (.cells #[.int .i64 I, .int .i64 Q, .int .i64 V] 67))
            have HJB := Lib.hid (HJ.out.alloc HJI.out (.cells #[.int .i64 I, .int .i64 Q, .int .i64 V] 67))
            clear hst
            gi_wp2
            refine ⟨fun _ h => (by cases h), ?_⟩
            gi_wp2
            go_roundw
            case rel => exact ⟨k + 1, pre, by omega, by go_num, HST, HRB.out, HJB.out⟩
            case measure => simp [intOf]; omega
        · obtain rfl : k = q.length := by omega
          have HST : Hid (PT = pre ++ prT (p.drop (i + 1)) q) := Lib.hid (by rw [HY3.out, rowT_end _ _ _ _ (Nat.le_refl _), List.nil_append])
          clear hra hj
          gi_wp2
          go_roundw
          case rel => exact ⟨i + 1, pre, by omega, by go_num, HST, HRI.out, HJI.out⟩
          case measure => simp [intOf]; omega
    · obtain rfl : i = p.length := by omega
      have HE : Hid (pre = PT) := Lib.hid (by rw [HY1.out, prT_end p q _ (Nat.le_refl _), List.append_nil])
      clear hra hj
      gi_wp2
      go_end0
      exact ⟨⟨_, rfl⟩, HE.out ▸ HJO.out⟩
end Go.Proofs.Ytjchbdbdebgniaa
