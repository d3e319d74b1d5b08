/- The program's doublings, ranged over. -/
import Derived.Test.YtjchbdbdebgniaaRfp
import Derived.Test.YtjchbdbdebgniaaNm3
import Derived.Shelf.Abstract
import Derived.WalkKit
import Derived.OwnWalkIn
import Derived.TacticsInMore
import Derived.LoopNIn
import Derived.LoopIn
import Derived.Maps.AppendAt
import Derived.Sort.QuietTacIn
namespace Go.Proofs.Ytjchbdbdebgniaa
set_option linter.unusedVariables false
open Go.RowKit Go.Shelf

attribute [local go_sem] Oper.semAt_some

def two9 (pv : Value) (wr : World) : Nat := match pv with
  | .pointer (some ad) => (intOf ((wr.cell? ad).getD undef)).toNat
  | _ => 0
theorem two9_at {wr : World} {p m q : Nat} {T : TypeId} (h : wr.heap[p]? = some (.cells #[.int .i64 (m : Int), .int .i64 (q : Int)] T (0, 0))) : two9 (.pointer (some ⟨p, 0, none⟩)) wr = m := by
  obtain ⟨c0, _⟩ := cell2 h
  simp [two9, c0, intOf]
set_option maxRecDepth 100000 in
set_option maxHeartbeats 3200000 in
theorem doublings_gives (n : Nat) (hn : 1 ≤ n) (a b Ba Bb B1 B2 Bs : Nat) (ha : a ≤ 9999) (hb9 : b ≤ 9999) (w : World) (hBa : Ba < w.heap.size) (hBb : Bb < w.heap.size) (h1 : w.cell? ⟨Ba, 0, none⟩ = some (.int .i64 (a : Int))) (h2 : w.cell? ⟨Bb, 0, none⟩ = some (.int .i64 (b : Int))) :
    GivesP Fence.wide n Try.prog 111 #[.pointer (some ⟨Ba, 0, none⟩), .pointer (some ⟨Bb, 0, none⟩)] (fun x : Int × Int => #[.agg #[.int .i64 x.1, .int .i64 x.2]]) B1 B2 Bs (dbL a b) w := by
  intro l J W hW hM hJ hY h0
  have g1 : W.cell? ⟨Ba, 0, none⟩ = some (.int .i64 (a : Int)) := (hW.cell (p := ⟨Ba, 0, none⟩) hBa).trans h1
  have g2 : W.cell? ⟨Bb, 0, none⟩ = some (.int .i64 (b : Int)) := (hW.cell (p := ⟨Bb, 0, none⟩) hBb).trans h2
  have HL : Hid ((dbL a b).length ≤ 14) := Lib.hid (dbL_len14 ha b)
  have HBT : Hid (∀ k, k ≤ 14 → b * 2 ^ k ≤ 163823616) := Lib.hid (fun k hk => db_top ha hb9 hk)
  have HY := Lib.hid hY
  have HJ := Lib.hid hJ
  have HM0 := Lib.hid hM
  have HJ0 := Lib.hid h0
  clear hW hY hJ hM h0 h1 h2 hBa hBb
  refine callsIn_of_wp Try.func111 rfl trivial ?_ rfl
  simp only [Try.ntmps111, List.size_toArray, List.length_cons, List.length_nil, Nat.reduceAdd, Nat.reduceSub, Array.replicate_succ, Array.replicate_zero, List.push_toArray, List.append_toArray, List.nil_append, List.cons_append]
  gi_wp2
  gi_loopw [4] (fun pv wr => ∃ (m q p : Nat) (pre : List (Int × Int)), pv = .pointer (some ⟨p, 0, none⟩) ∧ m ≤ a ∧ Hid (dbL a b = pre ++ dbL m q) ∧ Hid (q = b * 2 ^ pre.length) ∧ wr.heap[p]? = some (.cells #[.int .i64 (m : Int), .int .i64 (q : Int)] 93 (0, 0)) ∧ W.heap.size ≤ p ∧ ¬ Mine B1 B2 Bs wr p ∧ MineIn B1 B2 Bs wr ∧ J pre wr) (fun pv wr => two9 pv wr)
  case atStart =>
    have hk := KeepP.alloc (B1 := B1) (B2 := B2) HM0.out.bs (.cells #[.int .i64 (a : Int), .int .i64 (b : Int)] 93)
    refine ⟨a, b, W.heap.size, [], rfl, Nat.le_refl _, Lib.hid rfl, Lib.hid (by simp), alloc_at rfl, Nat.le_refl _, fun hm => ?_, hk.within HM0.out, HJ.out.alloc HJ0.out _⟩
    have := HM0.out.2 _ ((mine_block (alloc_old HM0.out.bs) _).1 hm); omega
  case round =>
    obtain ⟨m, q, p, pre, rfl, hma, HY1, HQ, hp, hpB, hnm, hmi, hj⟩ := hrel
    obtain ⟨c0, c1, f0, f1⟩ := cell2 hp
    have hpl := heap_lt hp
    have hpre : pre.length ≤ 14 := by have h5 := HL.out; rw [HY1.out, List.length_append] at h5; omega
    have hq : q ≤ 163823616 := by rw [HQ.out]; exact HBT.out _ hpre
    have HP := Lib.hid hp
    have HNM := Lib.hid hnm
    have HPB := Lib.hid hpB
    have HJ1 := Lib.hid hj
    have HMI := Lib.hid hmi
    by_cases hlt : 0 < m
    · have z1 : (1 : Int) ≤ (m : Int) := by omega
      have HY2 : Hid (dbL a b = (pre ++ [((m : Int), (q : Int))]) ++ dbL (m / 2) (2 * q)) := Lib.hid (by rw [HY1.out, dbL_pos hlt, List.append_assoc, List.singleton_append])
      have HQ2 : Hid (2 * q = b * 2 ^ (pre ++ [((m : Int), (q : Int))]).length) := Lib.hid (by have h1 := HQ.out; rw [List.length_append, List.length_singleton, Nat.pow_succ, ← Nat.mul_assoc b]; omega)
      have HMB := Lib.hid hma
      have HDV : Hid ((m : Int) / 2 = ((m / 2 : Nat) : Int)) := Lib.hid (by omega)
      have HDQ : Hid (2 * (q : Int) = ((2 * q : Nat) : Int)) := Lib.hid (by omega)
      have hw : IntKind.i64.wrap (2 * (q : Int)) = 2 * (q : Int) := by rw [IntKind.wrap_i64]; omega
      obtain ⟨fn, tmps, assign, body, hy, hR⟩ := HY.out pre ((m : Int), (q : Int)) wr hj ⟨_, HY2.out.symm⟩
      clear hp hnm hj hmi
      gi_wp2
      refine hR.mono ?_
      rintro e W3 ⟨rfl, hJ3, hk3⟩
      have HP3 := Lib.hid (hk3.same p _ HP.out rfl HNM.out)
      have HM3 := Lib.hid (hk3.within HMI.out)
      have HJ3 := Lib.hid hJ3
      have HL3 := Lib.hid hk3.size
      clear hJ3 hk3 hR hy c0 c1 f0 f1
      obtain ⟨c0, c1, f0, f1⟩ := cell2 HP3.out
      gi_wp2
      rw [HDV.out, HDQ.out]
      have hk := KeepP.alloc (B1 := B1) (B2 := B2) HM3.out.bs (.cells #[.int .i64 ((m / 2 : Nat) : Int), .int .i64 ((2 * q : Nat) : Int)] 93)
      have hn5 : (W3.alloc (.cells #[.int .i64 ((m / 2 : Nat) : Int), .int .i64 ((2 * q : Nat) : Int)] 93)).heap[W3.heap.size]? = some (.cells #[.int .i64 ((m / 2 : Nat) : Int), .int .i64 ((2 * q : Nat) : Int)] 93 (0, 0)) := alloc_at rfl
      refine ⟨⟨m / 2, 2 * q, W3.heap.size, _, rfl, by have := HMB.out; omega, HY2, HQ2, hn5, by have := HPB.out; have := HL3.out; omega, fun hm => ?_, hk.within HM3.out, HJ.out.alloc HJ3.out _⟩, ?_⟩
      · have := HM3.out.2 _ ((mine_block (alloc_old HM3.out.bs) _).1 hm); omega
      · rw [two9_at hn5, two9_at HP.out]; omega
    · obtain rfl : m = 0 := by omega
      have HE : Hid (pre = dbL a b) := Lib.hid (by rw [HY1.out, dbL_zero, List.append_nil])
      clear hp hnm hj hmi
      gi_wp2
      go_end0
      exact ⟨⟨_, rfl⟩, HE.out ▸ HJ1.out⟩
end Go.Proofs.Ytjchbdbdebgniaa
