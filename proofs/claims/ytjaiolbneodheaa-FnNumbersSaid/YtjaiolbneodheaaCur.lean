/- The reader of choices: each call gives a number within its bounds and turns nothing but the reader's own block. -/
import Derived.Test.YtjaiolbneodheaaSlr
import Derived.Deep.QuietTactic
import Derived.BigQuiet
import Derived.OneCell
import Derived.OpenShut
import Derived.Laws.Bits64b
import Derived.Laws.Rows
namespace Go.Proofs.Ytjaiolbneodheaa
set_option linter.unusedVariables false
open Go.RowKit

theorem grown_trans {a b c : World} {r : Option Nat} (h : a.grownBy b r) (k : b.grownBy c r) : a.grownBy c r :=
  ⟨k.os.trans h.os, k.tape.trans h.tape, k.output.trans h.output, Nat.le_trans h.size k.size, fun i hi hne => (k.block i (Nat.lt_of_lt_of_le hi h.size) hne).trans (h.block i hi hne)⟩
theorem grown_set (w : World) (b i : Nat) (v : Value) : w.grownBy (w.setCell ⟨b, i, none⟩ v) (some b) :=
  ⟨rfl, rfl, rfl, by simp, fun k _ hne => heap_setCell_other w ⟨b, i, none⟩ k v (fun e => hne (by rw [e]))⟩
theorem grown_drewN (w : World) (n : Nat) (r : Option Nat) : w.grownBy (w.drewN n) r := ⟨rfl, rfl, rfl, Nat.le_refl _, fun _ _ _ => rfl⟩

/-- The reader's block: the code, how many bytes were asked for (at most n), the seed. -/
def CurAt (w : World) (b : Nat) (cd : Value) (n : Nat) : Prop :=
  ∃ (k : Nat) (sd : Int) (T : TypeId), k ≤ n ∧ Hid ((Lit.int .u64 sd).wf = true) ∧ w.heap[b]? = some (.cells #[cd, .int .i64 k, .int .u64 sd] T (0, 0))
/-- The code reads as these bytes, and does not lie in the reader's block. -/
def CodeR (w : World) (b : Nat) (cd : Value) (L : List UInt8) : Prop :=
  SlR w cd (L.map fun c => .int .u8 (c.toNat : Int)) ∧ (L ≠ [] → ∀ a n c, cd = .slice (some a) n c → a.block ≠ b)

theorem cur_set {w : World} {b : Nat} {x y z : Value} {T : TypeId} (h : w.heap[b]? = some (.cells #[x, y, z] T (0, 0))) (n : Nat) (y2 z2 : Value) :
    (((w.drewN n).setCell ⟨b, 1, none⟩ y2).setCell ⟨b, 2, none⟩ z2).heap[b]? = some (.cells #[x, y2, z2] T (0, 0)) := by
  have h1 := heap_setCell_same (w.drewN n) b 1 _ _ y2 h
  have h2 := heap_setCell_same _ b 2 _ _ z2 h1
  simpa using h2
theorem low8 (y : Int) : 0 ≤ wrap64 (bits BinOp.and IntKind.u64 (IntKind.u64.wrap y / 1099511627776) 255) ∧ wrap64 (bits BinOp.and IntKind.u64 (IntKind.u64.wrap y / 1099511627776) 255) ≤ 255 := by
  have hb := Go.bounds_u64 (Go.wf_wrap .u64 y)
  obtain ⟨a, ha⟩ := Int.eq_ofNat_of_zero_le (show 0 ≤ IntKind.u64.wrap y / 1099511627776 by omega)
  have e : bits BinOp.and IntKind.u64 (a : Int) (255 : Nat) = ((a &&& 255 : Nat) : Int) := bits_and_u64_nat a 255 (by omega) (by omega)
  have hl : a &&& 255 ≤ 255 := Nat.and_le_right
  rw [ha, show (255 : Int) = ((255 : Nat) : Int) from rfl, e]
  have : wrap64 ((a &&& 255 : Nat) : Int) = ((a &&& 255 : Nat) : Int) := by unfold wrap64; omega
  rw [this]; omega
set_option maxRecDepth 100000 in
set_option maxHeartbeats 800000 in
theorem next_in (b : Nat) (cd : Value) (L : List UInt8) (k : Nat) (sd : Int) (T : TypeId) (w : World) (hk : k < L.length) (hkm : k < 4611686018427387904) (hs : Hid ((Lit.int .u64 sd).wf = true)) (hh : w.heap[b]? = some (.cells #[cd, .int .i64 k, .int .u64 sd] T (0, 0))) (hc : CodeR w b cd L) :
    Calls Try.prog 158 #[.pointer (some ⟨b, 0, none⟩)] w fun e w' => (∃ r : Int, e = .returned (.int .i64 r) ∧ 0 ≤ r ∧ r ≤ 255) ∧ (∃ s2 : Int, Hid ((Lit.int .u64 s2).wf = true) ∧ w'.heap[b]? = some (.cells #[cd, .int .i64 ((k : Int) + 1), .int .u64 s2] T (0, 0))) ∧ w.grownBy w' (some b) := by
  obtain ⟨⟨a, cp, rfl, ⟨m1, _⟩, r1⟩, hne⟩ := hc
  rw [List.length_map] at *
  obtain ⟨b1, o1, rfl, l1, k1⟩ := r1 (by intro e; rw [List.map_eq_nil_iff] at e; subst e; simp at hk)
  have hbb : b1 ≠ b := hne (by intro e; subst e; simp at hk) _ _ _ rfl
  have q := k1 k (by simpa using hk)
  rw [List.getElem_map] at q
  obtain ⟨c0, c1, c2, f0, f1, f2⟩ := cell3 hh
  have HH := Lib.hid hh
  have z1 : (0 : Int) ≤ (k : Int) := by omega
  have z2 : (k : Int) < (L.length : Int) := by omega
  have z3 := L[k].toNat_lt
  clear hh r1 k1 m1 hne
  go_enter Try.func158, Try.ntmps158
  go_wp2_with fail
  go_quiet (fail)
  go_wp2_with fail
  go_quiet (fail)
  go_wp2_with fail
  have z4 : (k : Int) + 1 ≤ (L.length : Int) := by omega
  go_quiet (fail)
  go_wp2_with fail
  go_ret
  refine ⟨⟨_, rfl, by omega, by omega⟩, ⟨_, Lib.hid (Go.wf_wrap _ _), cur_set HH.out _ _ _⟩, ?_⟩
  exact grown_trans (grown_trans (grown_trans (grown_drewN _ _ _) (grown_set _ _ _ _)) (grown_set _ _ _ _)) (grown_drewN _ _ _)
set_option maxRecDepth 100000 in
set_option maxHeartbeats 800000 in
theorem next_out (b : Nat) (cd : Value) (L : List UInt8) (k : Nat) (sd : Int) (T : TypeId) (w : World) (hk : L.length ≤ k) (hkm : k < 4611686018427387904) (hs : Hid ((Lit.int .u64 sd).wf = true)) (hh : w.heap[b]? = some (.cells #[cd, .int .i64 k, .int .u64 sd] T (0, 0))) (hc : CodeR w b cd L) :
    Calls Try.prog 158 #[.pointer (some ⟨b, 0, none⟩)] w fun e w' => (∃ r : Int, e = .returned (.int .i64 r) ∧ 0 ≤ r ∧ r ≤ 255) ∧ (∃ s2 : Int, Hid ((Lit.int .u64 s2).wf = true) ∧ w'.heap[b]? = some (.cells #[cd, .int .i64 ((k : Int) + 1), .int .u64 s2] T (0, 0))) ∧ w.grownBy w' (some b) := by
  obtain ⟨⟨a, cp, rfl, ⟨m1, _⟩, r1⟩, hne⟩ := hc
  rw [List.length_map] at *
  obtain ⟨c0, c1, c2, f0, f1, f2⟩ := cell3 hh
  have HH := Lib.hid hh
  have z2 : (L.length : Int) ≤ (k : Int) := by omega
  clear hh r1 m1 hne
  go_enter Try.func158, Try.ntmps158
  go_wp2_with fail
  go_quiet (fail)
  go_wp2_with fail
  have z4 : (L.length : Int) < (k : Int) + 1 := by omega
  go_quiet (fail)
  go_wp2_with fail
  go_ret
  obtain ⟨r0, r1⟩ := low8 (IntKind.u64.wrap (IntKind.u64.wrap (sd * 6364136223846793005)) + 100606)
  refine ⟨⟨_, rfl, r0, r1⟩, ⟨_, Lib.hid (Go.wf_wrap _ _), cur_set HH.out _ _ _⟩, ?_⟩
  exact grown_trans (grown_trans (grown_trans (grown_drewN _ _ _) (grown_set _ _ _ _)) (grown_set _ _ _ _)) (grown_drewN _ _ _)

/-- The next choice: a number from 0 to 255. -/
theorem next_any (b : Nat) (cd : Value) (L : List UInt8) (n : Nat) (w : World) (hn : n < 4611686018427387904) (hc : CurAt w b cd n) (hr : CodeR w b cd L) :
    Calls Try.prog 158 #[.pointer (some ⟨b, 0, none⟩)] w fun e w' => (∃ r : Int, e = .returned (.int .i64 r) ∧ 0 ≤ r ∧ r ≤ 255) ∧ CurAt w' b cd (n + 1) ∧ w.grownBy w' (some b) := by
  obtain ⟨k, sd, T, hk, hs, hh⟩ := hc
  by_cases h : k < L.length
  · exact (next_in b cd L k sd T w h (by omega) hs hh hr).mono fun _ _ ⟨h1, ⟨s2, h2, h3⟩, h4⟩ => ⟨h1, ⟨k + 1, s2, T, by omega, h2, by rw [h3]; congr 4; try omega⟩, h4⟩
  · exact (next_out b cd L k sd T w (by omega) (by omega) hs hh hr).mono fun _ _ ⟨h1, ⟨s2, h2, h3⟩, h4⟩ => ⟨h1, ⟨k + 1, s2, T, by omega, h2, by rw [h3]; congr 4; try omega⟩, h4⟩
theorem CodeR.grown {w w' : World} {b : Nat} {cd : Value} {L : List UInt8} (h : CodeR w b cd L) (hg : w.grownBy w' (some b)) : CodeR w' b cd L := by
  obtain ⟨⟨a, cp, rfl, h2, h3⟩, hne⟩ := h
  refine ⟨⟨a, cp, rfl, h2, fun hx => ?_⟩, hne⟩
  obtain ⟨b1, o1, rfl, l1, k1⟩ := h3 hx
  have hbb : b1 ≠ b := hne (by intro e; subst e; simp at hx) _ _ _ rfl
  exact ⟨b1, o1, rfl, Nat.lt_of_lt_of_le l1 hg.size, fun i hi => hg.cell (k1 i hi) (fun e => hbb (Option.some.inj e))⟩

set_option maxRecDepth 100000 in
set_option maxHeartbeats 800000 in
/-- A choice out of m: a number from 0 to m - 1; 0 where m is at most 1. -/
theorem pick_any (b : Nat) (cd : Value) (L : List UInt8) (n : Nat) (m : Int) (w : World) (hn : n < 4611686018427387900) (hm : 1 ≤ m) (hm2 : m ≤ 1000000000) (hc : CurAt w b cd n) (hr : CodeR w b cd L) :
    Calls Try.prog 100 #[.pointer (some ⟨b, 0, none⟩), .int .i64 m] w fun e w' => (∃ r : Int, e = .returned (.int .i64 r) ∧ 0 ≤ r ∧ r < m) ∧ CurAt w' b cd (n + 2) ∧ w.grownBy w' (some b) := by
  have HC := Lib.hid hc
  have HR := Lib.hid hr
  clear hc hr
  by_cases h1 : m ≤ 1
  · go_enter Try.func100, Try.ntmps100
    go_wp2_with fail
    go_ret
    obtain ⟨k, sd, T, hk, hs, hh⟩ := HC.out
    exact ⟨⟨_, rfl, by omega, by omega⟩, ⟨k, sd, T, by omega, hs, hh⟩, grown_drewN w 0 _⟩
  · by_cases h2 : m ≤ 200
    · go_enter Try.func100, Try.ntmps100
      go_wp2_with fail
      refine (next_any b cd L n _ (by omega) HC.out HR.out).mono ?_
      rintro e w1 ⟨⟨r, rfl, r0, r1⟩, hc1, hg⟩
      have HC1 := Lib.hid hc1
      have HG := Lib.hid hg
      clear hc1 hg
      go_wp2_with fail
      go_ret
      obtain ⟨k, sd, T, hk, hs, hh⟩ := HC1.out
      exact ⟨⟨_, rfl, Int.emod_nonneg _ (by omega), Int.emod_lt_of_pos _ (by omega)⟩, ⟨k, sd, T, by omega, hs, hh⟩, HG.out⟩
    · go_enter Try.func100, Try.ntmps100
      go_wp2_with fail
      refine (next_any b cd L n _ (by omega) HC.out HR.out).mono ?_
      rintro e w1 ⟨⟨r, rfl, r0, r1⟩, hc1, hg⟩
      have HC1 := Lib.hid hc1
      have HG := Lib.hid hg
      have HR1 := Lib.hid (HR.out.grown hg)
      clear hc1 hg
      go_wp2_with fail
      refine (next_any b cd L (n + 1) _ (by omega) HC1.out HR1.out).mono ?_
      rintro e w2 ⟨⟨r2, rfl, r20, r21⟩, hc2, hg2⟩
      have HC2 := Lib.hid hc2
      have HG2 := Lib.hid (grown_trans HG.out hg2)
      clear hc2 hg2
      go_wp2_with fail
      go_ret
      obtain ⟨k, sd, T, hk, hs, hh⟩ := HC2.out
      exact ⟨⟨_, rfl, Int.emod_nonneg _ (by omega), Int.emod_lt_of_pos _ (by omega)⟩, ⟨k, sd, T, by omega, hs, hh⟩, HG2.out⟩
end Go.Proofs.Ytjaiolbneodheaa
