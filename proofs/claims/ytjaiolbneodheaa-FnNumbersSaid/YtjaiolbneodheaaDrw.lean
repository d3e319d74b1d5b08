/- The draws of texts out of lists. -/
import Derived.Test.YtjaiolbneodheaaCur
import Derived.Test.YtjaiolbneodheaaStrm
namespace Go.Proofs.Ytjaiolbneodheaa
set_option linter.unusedVariables false
open Go.RowKit

theorem grown_alloc (w : World) (o : Obj) (r : Option Nat) : w.grownBy (w.alloc o) r := World.grownBy_alloc w o r
theorem CurAt.old {w w' : World} {b : Nat} {cd : Value} {n : Nat} (h : CurAt w b cd n) (hg : w.grownBy w' none) : CurAt w' b cd n := by
  obtain ⟨k, sd, T, h1, h2, h3⟩ := h
  exact ⟨k, sd, T, h1, h2, (hg.block b (Array.getElem?_eq_some_iff.1 h3).1 (by simp)).trans h3⟩
theorem CurAt.lt {w : World} {b : Nat} {cd : Value} {n : Nat} (h : CurAt w b cd n) : b < w.heap.size := by
  obtain ⟨k, sd, T, h1, h2, h3⟩ := h
  exact (Array.getElem?_eq_some_iff.1 h3).1
theorem CurAt.more {w : World} {b : Nat} {cd : Value} {n m : Nat} (h : CurAt w b cd n) (hm : n ≤ m) : CurAt w b cd m := by
  obtain ⟨k, sd, T, h1, h2, h3⟩ := h
  exact ⟨k, sd, T, by omega, h2, h3⟩
theorem grown_any {w w' : World} {r : Option Nat} (h : w.grownBy w' none) : w.grownBy w' r := ⟨h.os, h.tape, h.output, h.size, fun i hi _ => h.block i hi (by simp)⟩
theorem slr_lit (w : World) (xs : List Value) (T : TypeId) (hl : xs.length ≤ maxLen) : SlR (w.alloc (.cells xs.toArray T)) (.slice (some ⟨w.heap.size, 0, none⟩) xs.length xs.length) xs := by
  have h := World.ownsRow_lit (base := w.heap.size) (e := T) (size := 1) w xs.toArray xs.length (Nat.le_refl _) hl (by simp)
  simpa using SlR.of_own (by simpa using h)

set_option maxRecDepth 100000 in
set_option maxHeartbeats 800000 in
theorem of_any (cb : Nat) (cd : Value) (L : List UInt8) (n : Nat) (v : Value) (ss : List ByteArray) (w : World) (hn : n < 4611686018427387000) (hl : 1 ≤ ss.length ∧ ss.length ≤ 100) (h : SlR w v (ss.map Value.string)) (hne : ∀ a m c, v = .slice (some a) m c → a.block ≠ cb) (hc : CurAt w cb cd n) (hr : CodeR w cb cd L) :
    Calls Try.prog 174 #[.pointer (some ⟨cb, 0, none⟩), v] w fun e w' => (∃ x, e = .returned (.string x) ∧ x ∈ ss) ∧ CurAt w' cb cd (n + 2) ∧ w.grownBy w' (some cb) := by
  obtain ⟨a, cp, rfl, ⟨m1, _⟩, r1⟩ := h
  rw [List.length_map] at *
  obtain ⟨b1, o1, rfl, l1, k1⟩ := r1 (by intro e; rw [List.map_eq_nil_iff] at e; subst e; simp at hl)
  have hbb : b1 ≠ cb := hne _ _ _ rfl
  have K1 : Hid (∀ (i : Nat) (h : i < ss.length), w.cell? ⟨b1, o1 + i, none⟩ = some (.string ss[i])) := Lib.hid fun i h => by have q := k1 i (by simpa using h); rwa [List.getElem_map] at q
  have HP := Lib.hid (fun m h1 h2 => pick_any cb cd L n m w (by omega) h1 h2 hc hr)
  obtain ⟨hl1, hl2⟩ := hl
  clear r1 k1 hne hc hr m1
  go_enter Try.func174, Try.ntmps174
  go_wp2_with fail
  refine (HP.out (ss.length : Int) (by omega) (by omega)).mono ?_
  rintro e w1 ⟨⟨r, rfl, r0, r1⟩, hc1, hg⟩
  obtain ⟨k, rfl⟩ : ∃ k : Nat, r = k := ⟨r.toNat, by omega⟩
  have hk : k < ss.length := by omega
  have q := hg.cell (K1.out k hk) (by simpa using fun e => hbb e)
  have HC1 := Lib.hid hc1
  have HG := Lib.hid hg
  clear hc1 hg
  go_wp2_with fail
  go_ret
  exact ⟨⟨ss[k], rfl, List.getElem_mem _⟩, HC1.out, HG.out⟩

def any1L : List ByteArray := [⟨#[]⟩, ⟨#[97]⟩, ⟨#[97, 44, 98]⟩, ⟨#[115, 111, 109, 101, 32, 119, 111, 114, 100, 115]⟩, ⟨#[120, 35, 121]⟩, ⟨#[45, 49, 50]⟩, ⟨#[0, 255]⟩, ⟨#[44, 44]⟩, ⟨#[48]⟩]
theorem any1L_le : ∀ x ∈ any1L, x.size ≤ 10 := by
  intro x hx
  simp only [any1L, List.mem_cons, List.not_mem_nil, or_false] at hx
  rcases hx with rfl | rfl | rfl | rfl | rfl | rfl | rfl | rfl | rfl <;> decide
set_option maxRecDepth 100000 in
set_option maxHeartbeats 800000 in
theorem one_any (cb : Nat) (cd : Value) (L : List UInt8) (n : Nat) (m : Int) (w : World) (hn : n < 4611686018427387000) (hm : 1 ≤ m ∧ m ≤ 1000) (hc : CurAt w cb cd n) (hr : CodeR w cb cd L) :
    Calls Try.prog 133 #[.pointer (some ⟨cb, 0, none⟩), .int .i64 m] w fun e w' => (∃ x, e = .returned (.bool x)) ∧ CurAt w' cb cd (n + 2) ∧ w.grownBy w' (some cb) := by
  have HP := Lib.hid (pick_any cb cd L n m w (by omega) hm.1 (by omega) hc hr)
  clear hc hr
  go_enter Try.func133, Try.ntmps133
  go_wp2_with fail
  refine (HP.out).mono ?_
  rintro e w1 ⟨⟨r, rfl, r0, r1⟩, hc1, hg⟩
  have HC1 := Lib.hid hc1
  have HG := Lib.hid hg
  clear hc1 hg
  go_wp2_with fail
  go_ret
  exact ⟨⟨_, rfl⟩, HC1.out, HG.out⟩
end Go.Proofs.Ytjaiolbneodheaa
