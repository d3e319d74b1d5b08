/- What is drawn for splitting, joining and comparing. -/
import Derived.Test.YtfmkdfmholhnjaaDrw
import Derived.OwnWalk
import Derived.Maps.AppendAt
namespace Go.Proofs.Ytfmkdfmholhnjaa
set_option linter.unusedVariables false
open Go.RowKit

theorem code_new {w : World} {cd : Value} {L : List UInt8} (h : SlR w cd (L.map fun c => .int .u8 (c.toNat : Int))) (o : Obj) : CodeR (w.alloc o) w.heap.size cd L := by
  refine ⟨h.below ((Below.refl _ w).alloc (Nat.le_refl _) _) (Nat.le_refl _), fun hL a n c e => ?_⟩
  obtain ⟨a', cp, e', _, r1⟩ := h
  obtain ⟨b1, o1, rfl, l1, _⟩ := r1 (by simpa using hL)
  rw [e'] at e
  injection e with e1
  cases e1
  show b1 ≠ w.heap.size
  omega
theorem code_at {w w' : World} {cd : Value} {L : List UInt8} (h : SlR w cd (L.map fun c => .int .u8 (c.toNat : Int))) (hb : Below w.heap.size w w') : CodeR w' w.heap.size cd L := by
  have h2 := code_new h (.cells #[] default)
  exact ⟨h.below hb (Nat.le_refl _), h2.2⟩
def sepL : List ByteArray := [⟨#[44]⟩, ⟨#[44]⟩, ⟨#[32]⟩, ⟨#[]⟩, ⟨#[44, 44]⟩]
theorem sepL_le : ∀ x ∈ sepL, x.size ≤ 2 := by
  intro x hx
  simp only [sepL, List.mem_cons, List.not_mem_nil, or_false] at hx
  rcases hx with rfl | rfl | rfl | rfl | rfl <;> decide
set_option maxRecDepth 100000 in
set_option maxHeartbeats 1600000 in
theorem drawSplit_any (cd : Value) (L : List UInt8) (w : World) (h : SlR w cd (L.map fun c => .int .u8 (c.toNat : Int))) :
    Calls Try.prog 11 #[cd] w fun e w' => (∃ x y, e = .returned (.tuple #[.string x, .string y]) ∧ x.size ≤ 10 ∧ y.size ≤ 2) ∧ Below w.heap.size w w' := by
  obtain ⟨ad, cp, rfl⟩ : ∃ a c, cd = .slice a L.length c := by obtain ⟨a, c, e, _⟩ := h; exact ⟨a, c, by rw [e, List.length_map]⟩
  have hT : (Lit.int .u64 0).wf = true := by decide
  have HN := Lib.hid (code_new h)
  obtain ⟨W1, hW1⟩ : ∃ W1, w.alloc (.cells #[.slice ad L.length cp, .int .i64 0, .int .u64 0] 45) = W1 := ⟨_, rfl⟩
  have hc1 : CurAt W1 w.heap.size (.slice ad L.length cp) 0 := ⟨0, 0, _, Nat.le_refl _, Lib.hid hT, by rw [← hW1]; exact alloc_at rfl⟩
  have hr1 : CodeR W1 w.heap.size (.slice ad L.length cp) L := by rw [← hW1]; exact HN.out _
  have hb1 : Below w.heap.size w W1 := by rw [← hW1]; exact (Below.refl _ w).alloc (Nat.le_refl _) _
  have HA := Lib.hid (any1_any w.heap.size _ L 0 W1 (by omega) hc1 hr1)
  have HR1 := Lib.hid hr1
  have HB1 := Lib.hid hb1
  clear hc1 hr1 hb1 h HN
  go_enter Try.func11, Try.ntmps11
  go_wp2_with fail
  try rw [hW1]
  refine (HA.out).mono ?_
  rintro e w2 ⟨⟨x, rfl, hx⟩, hc2, hg2⟩
  have hlt := hc2.lt
  have HB2 : Hid (Below w.heap.size w w2) := Lib.hid (HB1.out.grown hg2 HB1.out.size (fun k e => by cases e; exact Nat.le_refl _))
  have hga := grown_alloc w2 (.cells (sepL.map Value.string).toArray 9) none
  have HO := Lib.hid (of_any w.heap.size _ L 2 _ sepL _ (by omega) (by decide) (slr_lit w2 (sepL.map Value.string) 9 (by decide)) (fun a m c e => by cases e; show w2.heap.size ≠ w.heap.size; omega) (hc2.old hga) ((HR1.out.grown hg2).grown (grown_any hga)))
  have HB3 : Hid (Below w.heap.size w (w2.alloc (.cells (sepL.map Value.string).toArray 9))) := Lib.hid (HB2.out.alloc HB2.out.size _)
  clear hc2 hg2 hga hlt
  go_wp2_with fail
  refine (HO.out).mono ?_
  rintro e w3 ⟨⟨y, rfl, hy⟩, hc3, hg3⟩
  have HY := Lib.hid (sepL_le y hy)
  have HB4 : Hid (Below w.heap.size w w3) := Lib.hid (HB3.out.grown hg3 HB3.out.size (fun k e => by cases e; exact Nat.le_refl _))
  clear hc3 hg3 hy
  go_wp2_with fail
  go_ret2
  exact ⟨⟨x, y, rfl, hx, HY.out⟩, HB4.out⟩
set_option maxRecDepth 100000 in
set_option maxHeartbeats 1600000 in
theorem drawLess_any (cd : Value) (L : List UInt8) (w : World) (h : SlR w cd (L.map fun c => .int .u8 (c.toNat : Int))) :
    Calls Try.prog 15 #[cd] w fun e w' => (∃ x y, e = .returned (.tuple #[.string x, .string y]) ∧ x.size ≤ 10 ∧ y.size ≤ 10) ∧ Below w.heap.size w w' := by
  obtain ⟨ad, cp, rfl⟩ : ∃ a c, cd = .slice a L.length c := by obtain ⟨a, c, e, _⟩ := h; exact ⟨a, c, by rw [e, List.length_map]⟩
  have hT : (Lit.int .u64 0).wf = true := by decide
  have HN := Lib.hid (code_new h)
  obtain ⟨W1, hW1⟩ : ∃ W1, w.alloc (.cells #[.slice ad L.length cp, .int .i64 0, .int .u64 0] 45) = W1 := ⟨_, rfl⟩
  have hc1 : CurAt W1 w.heap.size (.slice ad L.length cp) 0 := ⟨0, 0, _, Nat.le_refl _, Lib.hid hT, by rw [← hW1]; exact alloc_at rfl⟩
  have hr1 : CodeR W1 w.heap.size (.slice ad L.length cp) L := by rw [← hW1]; exact HN.out _
  have hb1 : Below w.heap.size w W1 := by rw [← hW1]; exact (Below.refl _ w).alloc (Nat.le_refl _) _
  have HA := Lib.hid (any1_any w.heap.size _ L 0 W1 (by omega) hc1 hr1)
  have HR1 := Lib.hid hr1
  have HB1 := Lib.hid hb1
  clear hc1 hr1 hb1 h HN
  go_enter Try.func15, Try.ntmps15
  go_wp2_with fail
  try rw [hW1]
  refine (HA.out).mono ?_
  rintro e w2 ⟨⟨x, rfl, hx⟩, hc2, hg2⟩
  have HB2 : Hid (Below w.heap.size w w2) := Lib.hid (HB1.out.grown hg2 HB1.out.size (fun k e => by cases e; exact Nat.le_refl _))
  have HO := Lib.hid (any1_any w.heap.size _ L 2 w2 (by omega) hc2 (HR1.out.grown hg2))
  clear hc2 hg2
  go_wp2_with fail
  refine (HO.out).mono ?_
  rintro e w3 ⟨⟨y, rfl, hy⟩, hc3, hg3⟩
  have HB4 : Hid (Below w.heap.size w w3) := Lib.hid (HB2.out.grown hg3 HB2.out.size (fun k e => by cases e; exact Nat.le_refl _))
  clear hc3 hg3
  go_wp2_with fail
  go_ret2
  exact ⟨⟨x, y, rfl, hx, hy⟩, HB4.out⟩
end Go.Proofs.Ytfmkdfmholhnjaa
