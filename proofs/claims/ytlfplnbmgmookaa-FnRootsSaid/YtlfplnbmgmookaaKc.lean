/- Parts laid as one: Cur, Strm, Drw, Dspl, Code, Dstr, Fr0. -/
import Derived.Test.YtlfplnbmgmookaaKa
import Derived.Deep.QuietTactic
import Derived.BigQuiet
import Derived.OneCell
import Derived.OpenShut
import Derived.Laws.Bits64b
import Derived.Laws.Rows
import Derived.Test.YtlfplnbmgmookaaStrs
import Derived.Test.YtlfplnbmgmookaaMtext
import Derived.Deep.RegionHeld3
import Derived.OwnWalk
import Derived.Maps.AppendAt
import Derived.Test.YtlfplnbmgmookaaNum
import Derived.Test.YtlfplnbmgmookaaKb
/-! Cur -/
namespace Go.Proofs.Ytlfplnbmgmookaa
set_option linter.unusedVariables false
open Go.RowKit

theorem grown_trans {a b c : World} {r : Option Nat} (h : a.grownBy b r) (k : b.grownBy c r) : a.grownBy c r :=
  ⟨k.os.trans h.os, k.tape.trans h.tape, k.output.trans h.output, Nat.le_trans h.size k.size, fun i hi hne => (k.block i (Nat.lt_of_lt_of_le hi h.size) hne).trans (h.block i hi hne)⟩
theorem grown_set (w : World) (b i : Nat) (v : Value) : w.grownBy (w.setCell ⟨b, i, none⟩ v) (some b) :=
  ⟨rfl, rfl, rfl, by simp, fun k _ hne => heap_setCell_other w ⟨b, i, none⟩ k v (fun e => hne (by rw [e]))⟩
theorem grown_drewN (w : World) (n : Nat) (r : Option Nat) : w.grownBy (w.drewN n) r := ⟨rfl, rfl, rfl, Nat.le_refl _, fun _ _ _ => rfl⟩

/-- The reader's block: the code, how many bytes were asked for (at most n), the seed. -/
def CurAt (w : World) (b : Nat) (cd : Value) (n : Nat) : Prop :=
  ∃ (k : Nat) (sd : Int) (T : TypeId), k ≤ n ∧ Hid ((Lit.int .u64 sd).wf = true) ∧ w.heap[b]? = some (.cells #[cd, .int .i64 k, .int .u64 sd] T (0, 0))
/-- The code reads as these bytes, and does not lie in the reader's block. -/
def CodeR (w : World) (b : Nat) (cd : Value) (L : List UInt8) : Prop :=
  SlR w cd (L.map fun c => .int .u8 (c.toNat : Int)) ∧ (L ≠ [] → ∀ a n c, cd = .slice (some a) n c → a.block ≠ b)

theorem cur_set {w : World} {b : Nat} {x y z : Value} {T : TypeId} (h : w.heap[b]? = some (.cells #[x, y, z] T (0, 0))) (n : Nat) (y2 z2 : Value) :
    (((w.drewN n).setCell ⟨b, 1, none⟩ y2).setCell ⟨b, 2, none⟩ z2).heap[b]? = some (.cells #[x, y2, z2] T (0, 0)) := by
  have h1 := heap_setCell_same (w.drewN n) b 1 _ _ y2 h
  have h2 := heap_setCell_same _ b 2 _ _ z2 h1
  simpa using h2
theorem low8 (y : Int) : 0 ≤ wrap64 (bits BinOp.and IntKind.u64 (IntKind.u64.wrap y / 1099511627776) 255) ∧ wrap64 (bits BinOp.and IntKind.u64 (IntKind.u64.wrap y / 1099511627776) 255) ≤ 255 := by
  have hb := Go.bounds_u64 (Go.wf_wrap .u64 y)
  obtain ⟨a, ha⟩ := Int.eq_ofNat_of_zero_le (show 0 ≤ IntKind.u64.wrap y / 1099511627776 by omega)
  have e : bits BinOp.and IntKind.u64 (a : Int) (255 : Nat) = ((a &&& 255 : Nat) : Int) := bits_and_u64_nat a 255 (by omega) (by omega)
  have hl : a &&& 255 ≤ 255 := Nat.and_le_right
  rw [ha, show (255 : Int) = ((255 : Nat) : Int) from rfl, e]
  have : wrap64 ((a &&& 255 : Nat) : Int) = ((a &&& 255 : Nat) : Int) := by unfold wrap64; omega
  rw [this]; omega
set_option maxRecDepth 100000 in
set_option maxHeartbeats 800000 in
theorem next_in (b : Nat) (cd : Value) (L : List UInt8) (k : Nat) (sd : Int) (T : TypeId) (w : World) (hk : k < L.length) (hkm : k < 4611686018427387904) (hs : Hid ((Lit.int .u64 sd).wf = true)) (hh : w.heap[b]? = some (.cells #[cd, .int .i64 k, .int .u64 sd] T (0, 0))) (hc : CodeR w b cd L) :
    Calls Try.prog 78 #[.pointer (some ⟨b, 0, none⟩)] w fun e w' => (∃ r : Int, e = .returned (.int .i64 r) ∧ 0 ≤ r ∧ r ≤ 255) ∧ (∃ s2 : Int, Hid ((Lit.int .u64 s2).wf = true) ∧ w'.heap[b]? = some (.cells #[cd, .int .i64 ((k : Int) + 1), .int .u64 s2] T (0, 0))) ∧ w.grownBy w' (some b) := by
  obtain ⟨⟨a, cp, rfl, ⟨m1, _⟩, r1⟩, hne⟩ := hc
  rw [List.length_map] at *
  obtain ⟨b1, o1, rfl, l1, k1⟩ := r1 (by intro e; rw [List.map_eq_nil_iff] at e; subst e; simp at hk)
  have hbb : b1 ≠ b := hne (by intro e; subst e; simp at hk) _ _ _ rfl
  have q := k1 k (by simpa using hk)
  rw [List.getElem_map] at q
  obtain ⟨c0, c1, c2, f0, f1, f2⟩ := cell3 hh
  have HH := Lib.hid hh
  have z1 : (0 : Int) ≤ (k : Int) := by omega
  have z2 : (k : Int) < (L.length : Int) := by omega
  have z3 := L[k].toNat_lt
  clear hh r1 k1 m1 hne
  go_enter Try.func78, Try.ntmps78
  go_wp2_with fail
  go_quiet (fail)
  go_wp2_with fail
  go_quiet (fail)
  go_wp2_with fail
  have z4 : (k : Int) + 1 ≤ (L.length : Int) := by omega
  go_quiet (fail)
  go_wp2_with fail
  go_ret
  refine ⟨⟨_, rfl, by omega, by omega⟩, ⟨_, Lib.hid (Go.wf_wrap _ _), cur_set HH.out _ _ _⟩, ?_⟩
  exact grown_trans (grown_trans (grown_trans (grown_drewN _ _ _) (grown_set _ _ _ _)) (grown_set _ _ _ _)) (grown_drewN _ _ _)
set_option maxRecDepth 100000 in
set_option maxHeartbeats 800000 in
theorem next_out (b : Nat) (cd : Value) (L : List UInt8) (k : Nat) (sd : Int) (T : TypeId) (w : World) (hk : L.length ≤ k) (hkm : k < 4611686018427387904) (hs : Hid ((Lit.int .u64 sd).wf = true)) (hh : w.heap[b]? = some (.cells #[cd, .int .i64 k, .int .u64 sd] T (0, 0))) (hc : CodeR w b cd L) :
    Calls Try.prog 78 #[.pointer (some ⟨b, 0, none⟩)] w fun e w' => (∃ r : Int, e = .returned (.int .i64 r) ∧ 0 ≤ r ∧ r ≤ 255) ∧ (∃ s2 : Int, Hid ((Lit.int .u64 s2).wf = true) ∧ w'.heap[b]? = some (.cells #[cd, .int .i64 ((k : Int) + 1), .int .u64 s2] T (0, 0))) ∧ w.grownBy w' (some b) := by
  obtain ⟨⟨a, cp, rfl, ⟨m1, _⟩, r1⟩, hne⟩ := hc
  rw [List.length_map] at *
  obtain ⟨c0, c1, c2, f0, f1, f2⟩ := cell3 hh
  have HH := Lib.hid hh
  have z2 : (L.length : Int) ≤ (k : Int) := by omega
  clear hh r1 m1 hne
  go_enter Try.func78, Try.ntmps78
  go_wp2_with fail
  go_quiet (fail)
  go_wp2_with fail
  have z4 : (L.length : Int) < (k : Int) + 1 := by omega
  go_quiet (fail)
  go_wp2_with fail
  go_ret
  obtain ⟨r0, r1⟩ := low8 (IntKind.u64.wrap (IntKind.u64.wrap (sd * 6364136223846793005)) + 100606)
  refine ⟨⟨_, rfl, r0, r1⟩, ⟨_, Lib.hid (Go.wf_wrap _ _), cur_set HH.out _ _ _⟩, ?_⟩
  exact grown_trans (grown_trans (grown_trans (grown_drewN _ _ _) (grown_set _ _ _ _)) (grown_set _ _ _ _)) (grown_drewN _ _ _)

/-- The next choice: a number from 0 to 255. -/
theorem next_any (b : Nat) (cd : Value) (L : List UInt8) (n : Nat) (w : World) (hn : n < 4611686018427387904) (hc : CurAt w b cd n) (hr : CodeR w b cd L) :
    Calls Try.prog 78 #[.pointer (some ⟨b, 0, none⟩)] w fun e w' => (∃ r : Int, e = .returned (.int .i64 r) ∧ 0 ≤ r ∧ r ≤ 255) ∧ CurAt w' b cd (n + 1) ∧ w.grownBy w' (some b) := by
  obtain ⟨k, sd, T, hk, hs, hh⟩ := hc
  by_cases h : k < L.length
  · exact (next_in b cd L k sd T w h (by omega) hs hh hr).mono fun _ _ ⟨h1, ⟨s2, h2, h3⟩, h4⟩ => ⟨h1, ⟨k + 1, s2, T, by omega, h2, by rw [h3]; congr 4; try omega⟩, h4⟩
  · exact (next_out b cd L k sd T w (by omega) (by omega) hs hh hr).mono fun _ _ ⟨h1, ⟨s2, h2, h3⟩, h4⟩ => ⟨h1, ⟨k + 1, s2, T, by omega, h2, by rw [h3]; congr 4; try omega⟩, h4⟩
theorem CodeR.grown {w w' : World} {b : Nat} {cd : Value} {L : List UInt8} (h : CodeR w b cd L) (hg : w.grownBy w' (some b)) : CodeR w' b cd L := by
  obtain ⟨⟨a, cp, rfl, h2, h3⟩, hne⟩ := h
  refine ⟨⟨a, cp, rfl, h2, fun hx => ?_⟩, hne⟩
  obtain ⟨b1, o1, rfl, l1, k1⟩ := h3 hx
  have hbb : b1 ≠ b := hne (by intro e; subst e; simp at hx) _ _ _ rfl
  exact ⟨b1, o1, rfl, Nat.lt_of_lt_of_le l1 hg.size, fun i hi => hg.cell (k1 i hi) (fun e => hbb (Option.some.inj e))⟩

set_option maxRecDepth 100000 in
set_option maxHeartbeats 800000 in
/-- A choice out of m: a number from 0 to m - 1; 0 where m is at most 1. -/
theorem pick_any (b : Nat) (cd : Value) (L : List UInt8) (n : Nat) (m : Int) (w : World) (hn : n < 4611686018427387900) (hm : 1 ≤ m) (hm2 : m ≤ 1000000000) (hc : CurAt w b cd n) (hr : CodeR w b cd L) :
    Calls Try.prog 72 #[.pointer (some ⟨b, 0, none⟩), .int .i64 m] w fun e w' => (∃ r : Int, e = .returned (.int .i64 r) ∧ 0 ≤ r ∧ r < m) ∧ CurAt w' b cd (n + 2) ∧ w.grownBy w' (some b) := by
  have HC := Lib.hid hc
  have HR := Lib.hid hr
  clear hc hr
  by_cases h1 : m ≤ 1
  · go_enter Try.func72, Try.ntmps72
    go_wp2_with fail
    go_ret
    obtain ⟨k, sd, T, hk, hs, hh⟩ := HC.out
    exact ⟨⟨_, rfl, by omega, by omega⟩, ⟨k, sd, T, by omega, hs, hh⟩, grown_drewN w 0 _⟩
  · by_cases h2 : m ≤ 200
    · go_enter Try.func72, Try.ntmps72
      go_wp2_with fail
      refine (next_any b cd L n _ (by omega) HC.out HR.out).mono ?_
      rintro e w1 ⟨⟨r, rfl, r0, r1⟩, hc1, hg⟩
      have HC1 := Lib.hid hc1
      have HG := Lib.hid hg
      clear hc1 hg
      go_wp2_with fail
      go_ret
      obtain ⟨k, sd, T, hk, hs, hh⟩ := HC1.out
      exact ⟨⟨_, rfl, Int.emod_nonneg _ (by omega), Int.emod_lt_of_pos _ (by omega)⟩, ⟨k, sd, T, by omega, hs, hh⟩, HG.out⟩
    · go_enter Try.func72, Try.ntmps72
      go_wp2_with fail
      refine (next_any b cd L n _ (by omega) HC.out HR.out).mono ?_
      rintro e w1 ⟨⟨r, rfl, r0, r1⟩, hc1, hg⟩
      have HC1 := Lib.hid hc1
      have HG := Lib.hid hg
      have HR1 := Lib.hid (HR.out.grown hg)
      clear hc1 hg
      go_wp2_with fail
      refine (next_any b cd L (n + 1) _ (by omega) HC1.out HR1.out).mono ?_
      rintro e w2 ⟨⟨r2, rfl, r20, r21⟩, hc2, hg2⟩
      have HC2 := Lib.hid hc2
      have HG2 := Lib.hid (grown_trans HG.out hg2)
      clear hc2 hg2
      go_wp2_with fail
      go_ret
      obtain ⟨k, sd, T, hk, hs, hh⟩ := HC2.out
      exact ⟨⟨_, rfl, Int.emod_nonneg _ (by omega), Int.emod_lt_of_pos _ (by omega)⟩, ⟨k, sd, T, by omega, hs, hh⟩, HG2.out⟩
end Go.Proofs.Ytlfplnbmgmookaa

/-! Strm -/
namespace Go.Proofs.Ytlfplnbmgmookaa
set_option linter.unusedVariables false
open Go.RowKit

def mkSt (k : Int) (n : Nat) : List ByteArray := (List.range n).map fun (i : Nat) => mT (k + (i : Int))
theorem mkSt_len (k : Int) (n : Nat) : (mkSt k n).length = n := by simp [mkSt]
theorem mkSt_at (k : Int) (n i : Nat) (h : i < n) : ((mkSt k n).map Value.string)[i]? = some (.string (mT (k + (i : Int)))) := by simp [mkSt, h]
end Go.Proofs.Ytlfplnbmgmookaa

/-! Drw -/
namespace Go.Proofs.Ytlfplnbmgmookaa
set_option linter.unusedVariables false
open Go.RowKit

theorem grown_alloc (w : World) (o : Obj) (r : Option Nat) : w.grownBy (w.alloc o) r := World.grownBy_alloc w o r
theorem CurAt.old {w w' : World} {b : Nat} {cd : Value} {n : Nat} (h : CurAt w b cd n) (hg : w.grownBy w' none) : CurAt w' b cd n := by
  obtain ⟨k, sd, T, h1, h2, h3⟩ := h
  exact ⟨k, sd, T, h1, h2, (hg.block b (Array.getElem?_eq_some_iff.1 h3).1 (by simp)).trans h3⟩
theorem CurAt.lt {w : World} {b : Nat} {cd : Value} {n : Nat} (h : CurAt w b cd n) : b < w.heap.size := by
  obtain ⟨k, sd, T, h1, h2, h3⟩ := h
  exact (Array.getElem?_eq_some_iff.1 h3).1
theorem CurAt.more {w : World} {b : Nat} {cd : Value} {n m : Nat} (h : CurAt w b cd n) (hm : n ≤ m) : CurAt w b cd m := by
  obtain ⟨k, sd, T, h1, h2, h3⟩ := h
  exact ⟨k, sd, T, by omega, h2, h3⟩
theorem grown_any {w w' : World} {r : Option Nat} (h : w.grownBy w' none) : w.grownBy w' r := ⟨h.os, h.tape, h.output, h.size, fun i hi _ => h.block i hi (by simp)⟩
theorem slr_lit (w : World) (xs : List Value) (T : TypeId) (hl : xs.length ≤ maxLen) : SlR (w.alloc (.cells xs.toArray T)) (.slice (some ⟨w.heap.size, 0, none⟩) xs.length xs.length) xs := by
  have h := World.ownsRow_lit (base := w.heap.size) (e := T) (size := 1) w xs.toArray xs.length (Nat.le_refl _) hl (by simp)
  simpa using SlR.of_own (by simpa using h)

def any1L : List ByteArray := [⟨#[]⟩, ⟨#[97]⟩, ⟨#[97, 44, 98]⟩, ⟨#[115, 111, 109, 101, 32, 119, 111, 114, 100, 115]⟩, ⟨#[120, 35, 121]⟩, ⟨#[45, 49, 50]⟩, ⟨#[0, 255]⟩, ⟨#[44, 44]⟩, ⟨#[48]⟩]
theorem any1L_le : ∀ x ∈ any1L, x.size ≤ 10 := by
  intro x hx
  simp only [any1L, List.mem_cons, List.not_mem_nil, or_false] at hx
  rcases hx with rfl | rfl | rfl | rfl | rfl | rfl | rfl | rfl | rfl <;> decide
end Go.Proofs.Ytlfplnbmgmookaa

/-! Dspl -/
namespace Go.Proofs.Ytlfplnbmgmookaa
set_option linter.unusedVariables false
open Go.RowKit

theorem code_new {w : World} {cd : Value} {L : List UInt8} (h : SlR w cd (L.map fun c => .int .u8 (c.toNat : Int))) (o : Obj) : CodeR (w.alloc o) w.heap.size cd L := by
  refine ⟨h.below ((Below.refl _ w).alloc (Nat.le_refl _) _) (Nat.le_refl _), fun hL a n c e => ?_⟩
  obtain ⟨a', cp, e', _, r1⟩ := h
  obtain ⟨b1, o1, rfl, l1, _⟩ := r1 (by simpa using hL)
  rw [e'] at e
  injection e with e1
  cases e1
  show b1 ≠ w.heap.size
  omega
theorem code_at {w w' : World} {cd : Value} {L : List UInt8} (h : SlR w cd (L.map fun c => .int .u8 (c.toNat : Int))) (hb : Below w.heap.size w w') : CodeR w' w.heap.size cd L := by
  have h2 := code_new h (.cells #[] default)
  exact ⟨h.below hb (Nat.le_refl _), h2.2⟩
def sepL : List ByteArray := [⟨#[44]⟩, ⟨#[44]⟩, ⟨#[32]⟩, ⟨#[]⟩, ⟨#[44, 44]⟩]
theorem sepL_le : ∀ x ∈ sepL, x.size ≤ 2 := by
  intro x hx
  simp only [sepL, List.mem_cons, List.not_mem_nil, or_false] at hx
  rcases hx with rfl | rfl | rfl | rfl | rfl <;> decide
end Go.Proofs.Ytlfplnbmgmookaa

/-! Code -/
namespace Go.Proofs.Ytlfplnbmgmookaa
set_option linter.unusedVariables false
open Go.RowKit

/-- Bytes that came in, read as a code. -/
theorem code_read {w : World} {a : Option Addr} {len cap : Nat} {zs : List Int} (h : (a = none ∧ len = 0 ∧ cap = 0 ∧ zs = []) ∨ ∃ x, a = some x ∧ len ≤ cap ∧ cap ≤ maxLen ∧ zs.length = cap ∧ (∀ i, i < zs.length → w.cell? (x.add i) = some (.int .u8 (zs.getD i 0))) ∧ ∀ n ∈ zs, (Lit.int .u8 n).wf = true) :
    ∃ L : List UInt8, L.length = len ∧ SlR w (.slice a len cap) (L.map fun c => .int .u8 (c.toNat : Int)) := by
  rcases h with ⟨rfl, rfl, rfl, rfl⟩ | ⟨x, rfl, h1, h2, h3, h4, h5⟩
  · exact ⟨[], rfl, none, 0, rfl, ⟨Nat.zero_le _, Nat.le_refl _⟩, fun e => absurd rfl e⟩
  · refine ⟨(zs.take len).map fun z => UInt8.ofNat z.toNat, by rw [List.length_map, List.length_take]; omega, slr_cells (by rw [List.length_map, List.length_map, List.length_take]; omega) (Nat.le_trans h1 h2) h1 (fun i hi => ?_)⟩
    rw [List.length_map, List.length_map, List.length_take] at hi
    have hz : i < zs.length := by omega
    rw [h4 i hz, List.getElem_map, List.getElem_map, List.getElem_take, List.getD_eq_getElem?_getD, List.getElem?_eq_getElem hz]
    have hw := h5 zs[i] (List.getElem_mem _)
    have hb : 0 ≤ zs[i] ∧ zs[i] ≤ 255 := by simpa [Lit.wf, IntKind.min, IntKind.max, IntKind.bits, IntKind.signed] using hw
    generalize zs[i] = z at hb
    obtain ⟨m, rfl⟩ : ∃ m : Nat, z = m := ⟨z.toNat, by omega⟩
    have hm : m < 256 := by omega
    simp [Nat.mod_eq_of_lt hm]
set_option maxRecDepth 100000 in
set_option maxHeartbeats 400000 in
theorem vBig_any (ad : Option Addr) (n cp : Nat) (w : World) (r : Bool) (hr : decide ((65536 : Int) < (n : Int)) = r) :
    Calls Try.prog 14 #[.slice ad n cp] w fun e w' => e = .returned (.bool r) ∧ w' = w := by
  subst hr
  go_enter Try.func14, Try.ntmps14
  go_wp2
  go_ret
  exact ⟨by simp, rfl⟩
end Go.Proofs.Ytlfplnbmgmookaa

/-! Dstr -/
namespace Go.Proofs.Ytlfplnbmgmookaa
set_option linter.unusedVariables false
open Go.RowKit

theorem Try.infoByteS : (Try.prog.info? 5).map (fun i => (i.zero, i.size, i.bytes)) = some (some (.int .u8 0), 1, 1) := by kernel_rfl
set_option maxRecDepth 100000 in
set_option maxHeartbeats 800000 in
theorem among_any (cb : Nat) (cd : Value) (L : List UInt8) (n : Nat) (v : Value) (zs : List Int) (w : World) (hn : n < 4611686018427387000) (hl : 1 ≤ zs.length ∧ zs.length ≤ 100) (h : SlR w v (zs.map (Value.int .i64))) (hne : ∀ a m c, v = .slice (some a) m c → a.block ≠ cb) (hc : CurAt w cb cd n) (hr : CodeR w cb cd L) :
    Calls Try.prog 62 #[.pointer (some ⟨cb, 0, none⟩), v] w fun e w' => (∃ z, e = .returned (.int .i64 z) ∧ z ∈ zs) ∧ CurAt w' cb cd (n + 2) ∧ w.grownBy w' (some cb) := by
  obtain ⟨a, cp, rfl, ⟨m1, _⟩, r1⟩ := h
  rw [List.length_map] at *
  obtain ⟨b1, o1, rfl, l1, k1⟩ := r1 (by intro e; rw [List.map_eq_nil_iff] at e; subst e; simp at hl)
  have hbb : b1 ≠ cb := hne _ _ _ rfl
  have K1 : Hid (∀ (i : Nat) (h : i < zs.length), w.cell? ⟨b1, o1 + i, none⟩ = some (.int .i64 zs[i])) := Lib.hid fun i h => by have q := k1 i (by simpa using h); rwa [List.getElem_map] at q
  have HP := Lib.hid (fun m h1 h2 => pick_any cb cd L n m w (by omega) h1 h2 hc hr)
  obtain ⟨hl1, hl2⟩ := hl
  clear r1 k1 hne hc hr m1
  go_enter Try.func62, Try.ntmps62
  go_wp2_with fail
  refine (HP.out (zs.length : Int) (by omega) (by omega)).mono ?_
  rintro e w1 ⟨⟨r, rfl, r0, r1⟩, hc1, hg⟩
  obtain ⟨k, rfl⟩ : ∃ k : Nat, r = k := ⟨r.toNat, by omega⟩
  have hk : k < zs.length := by omega
  have q := hg.cell (K1.out k hk) (by simpa using fun e => hbb e)
  have HC1 := Lib.hid hc1
  have HG := Lib.hid hg
  clear hc1 hg
  go_wp2_with fail
  go_ret
  exact ⟨⟨zs[k], rfl, List.getElem_mem _⟩, HC1.out, HG.out⟩
def numL (r : Int) : List Int := [0, 1, -1, 10, 999999, -999999, 1000000, -1000000, r]
def partL : List ByteArray := [⟨#[]⟩, ⟨#[45]⟩, ⟨#[45, 48]⟩, ⟨#[48, 48]⟩, ⟨#[48, 49]⟩, ⟨#[45, 45, 49]⟩, ⟨#[49, 120]⟩, ⟨#[57, 57, 57, 57, 57, 57]⟩, ⟨#[49, 48, 48, 48, 48, 48, 48]⟩, ⟨#[45, 57, 57, 57, 57, 57, 57]⟩, ⟨#[49, 56, 52, 52, 54, 55, 52, 52, 48, 55, 51, 55, 48, 57, 53, 53, 49, 54, 49, 55]⟩]
theorem partL_le : ∀ x ∈ partL, x.size ≤ 100 := by
  intro x hx
  simp only [partL, List.mem_cons, List.not_mem_nil, or_false] at hx
  rcases hx with rfl | rfl | rfl | rfl | rfl | rfl | rfl | rfl | rfl | rfl | rfl <;> decide
theorem itoa_short (z : Int) (h0 : -9223372036854775807 ≤ z) (h1 : z ≤ 9223372036854775807) : (Lib.itoa z).length ≤ 100 := by
  by_cases hz : z < 0
  · rw [itoa_neg z hz, List.length_cons, itoa_small (-z) (by omega), Lib.decDigits_length]
    have := nDig_le 18 (-z).toNat (by omega)
    omega
  · rw [itoa_small z (by omega), Lib.decDigits_length]
    have := nDig_le 18 z.toNat (by omega)
    omega
end Go.Proofs.Ytlfplnbmgmookaa

/-! Fr0 -/
namespace Go.Proofs.Ytlfplnbmgmookaa
set_option linter.unusedVariables false
open Go.RowKit

theorem own_grown {w w' : World} {B cb : Nat} {e : TypeId} {size : Nat} {v : Value} {n : Nat} {xs : List Value} (h : w.ownsRow B e size v n xs) (hg : w.grownBy w' (some cb)) (hc : cb < B) : w'.ownsRow B e size v n xs :=
  own_of_block h fun g hg' => hg.block g (h.lt g hg').2 (by have := (h.lt g hg').1; intro e; injection e with e; omega)
theorem CurAt.row {w w' : World} {b : Nat} {cd : Value} {n : Nat} {r : Option Nat} (h : CurAt w b cd n) (hg : w.grownBy w' r) (hne : some b ≠ r) : CurAt w' b cd n := by
  obtain ⟨k, sd, T, h1, h2, h3⟩ := h
  exact ⟨k, sd, T, h1, h2, (hg.block b (Array.getElem?_eq_some_iff.1 h3).1 hne).trans h3⟩
theorem fr_flat_snoc : ∀ (rs : List (Int × Int)) (x y : Int), flat (rs ++ [(x, y)]) = flat rs ++ [.int .i64 x, .int .i64 y]
  | [], _, _ => rfl
  | p :: t, x, y => by
    show _ :: _ :: flat (t ++ [(x, y)]) = _
    rw [fr_flat_snoc t x y]
    rfl
section
variable {w wi w' : World} {cb : Nat} {cd : Value} {n m F : Nat} {up lo : Int} {g cap : Nat} {rs : List (Int × Int)}
theorem own_cells {B : Nat} {e : TypeId} {size : Nat} {c : Nat} {k : Nat} {xs : List Value} (h : wi.ownsRow B e size (.slice (some ⟨g, 0, none⟩) k c) k xs) : ∃ cur, wi.heap[g]? = some (.cells cur e (0, 0)) := by
  rcases h.2 with ⟨h1, h2⟩ | ⟨g1, c1, cur, h1, h2, h3, h4⟩
  · cases h1
  · injection h1 with e1 e2 e3
    injection e1 with e1
    injection e1 with e1
    subst e1
    exact ⟨cur, h3⟩
theorem grown_set_new (h : w.grownBy wi (some cb)) (b i : Nat) (v : Value) (hb : w.heap.size ≤ b) : w.grownBy (wi.setCell ⟨b, i, none⟩ v) (some cb) :=
  ⟨h.os, h.tape, h.output, by simpa using h.size, fun k hk hne => (heap_setCell_other wi ⟨b, i, none⟩ k v (by show k ≠ b; omega)).trans (h.block k hk hne)⟩
theorem CurAt.set (h : CurAt wi cb cd n) (b i : Nat) (v : Value) (hb : cb ≠ b) : CurAt (wi.setCell ⟨b, i, none⟩ v) cb cd n := by
  obtain ⟨k, sd, T, h1, h2, h3⟩ := h
  exact ⟨k, sd, T, h1, h2, (heap_setCell_other wi ⟨b, i, none⟩ cb v hb).trans h3⟩
theorem slr_heap {w : World} {B : Nat} {xs : List Value} {T : TypeId} (h : w.heap[B]? = some (.cells xs.toArray T (0, 0))) (hl : xs.length ≤ maxLen) : SlR w (.slice (some ⟨B, 0, none⟩) xs.length xs.length) xs := by
  refine ⟨_, _, rfl, ⟨hl, Nat.le_refl _⟩, fun _ => ⟨B, 0, rfl, (Array.getElem?_eq_some_iff.1 h).1, fun i hi => ?_⟩⟩
  show w.cell? ⟨B, 0 + i, none⟩ = _
  simp [World.cell?, h, hi]
def lenAt (wi : World) (F : Nat) : Nat := match wi.cell? ⟨F, 2, none⟩ with
  | some (.slice _ l _) => l
  | _ => 0
end
end Go.Proofs.Ytlfplnbmgmookaa
