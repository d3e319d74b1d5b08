/- What is drawn for numbers on frames. -/
import Derived.Test.YtjaiolbneodheaaDfrm
import Derived.Test.YtjaiolbneodheaaFrm
namespace Go.Proofs.Ytjaiolbneodheaa
set_option linter.unusedVariables false
open Go.RowKit

set_option maxRecDepth 100000 in
set_option maxHeartbeats 1600000 in
theorem drawFrameFor_any (cd : Value) (L : List UInt8) (w : World) (h : SlR w cd (L.map fun c => .int .u8 (c.toNat : Int))) :
    Calls Try.prog 9 #[cd] w fun e w' => (∃ u l r n : Int, e = .returned (.tuple #[.int .i64 u, .int .i64 l, .int .i64 r, .int .i64 n]) ∧ n ≤ 9223372036854775807) ∧ Below w.heap.size w w' := by
  obtain ⟨ad, cp, rfl⟩ : ∃ a c, cd = .slice a L.length c := by obtain ⟨a, c, e, _⟩ := h; exact ⟨a, c, by rw [e, List.length_map]⟩
  have hT : (Lit.int .u64 0).wf = true := by decide
  have HN := Lib.hid (code_new h)
  obtain ⟨W1, hW1⟩ : ∃ W1, w.alloc (.cells #[.slice ad L.length cp, .int .i64 0, .int .u64 0] 103) = W1 := ⟨_, rfl⟩
  have hc1 : CurAt W1 w.heap.size (.slice ad L.length cp) 0 := ⟨0, 0, _, Nat.le_refl _, Lib.hid hT, by rw [← hW1]; exact alloc_at rfl⟩
  have hr1 : CodeR W1 w.heap.size (.slice ad L.length cp) L := by rw [← hW1]; exact HN.out _
  have hb1 : Below w.heap.size w W1 := by rw [← hW1]; exact (Below.refl _ w).alloc (Nat.le_refl _) _
  have HR1 := Lib.hid hr1
  have HB1 := Lib.hid hb1
  have HG1 : Hid (W1.grownBy W1 (some w.heap.size)) := Lib.hid (grown_drewN W1 0 _)
  have HC1 := Lib.hid hc1
  clear hc1 hr1 hb1 h HN
  have AM : ∀ (wi : World) (n : Nat) (zs : List Int), n ≤ 100 → W1.grownBy wi (some w.heap.size) → CurAt wi w.heap.size (.slice ad L.length cp) n → 1 ≤ zs.length ∧ zs.length ≤ 100 →
      Calls Try.prog 90 #[.pointer (some ⟨w.heap.size, 0, none⟩), .slice (some ⟨wi.heap.size, 0, none⟩) (zs.map (Value.int .i64)).length (zs.map (Value.int .i64)).length] (wi.alloc (.cells (zs.map (Value.int .i64)).toArray 3)) fun e w' => (∃ z, e = .returned (.int .i64 z) ∧ z ∈ zs) ∧ CurAt w' w.heap.size (.slice ad L.length cp) (n + 2) ∧ W1.grownBy w' (some w.heap.size) := by
    intro wi n zs hn hg hc hl
    have hga := grown_alloc wi (.cells (zs.map (Value.int .i64)).toArray 3) none
    have hlt := hc.lt
    exact (among_any w.heap.size _ L n _ zs _ (by omega) hl (slr_lit wi (zs.map (Value.int .i64)) 3 (by rw [List.length_map]; unfold maxLen; omega)) (fun a m c e => by cases e; show wi.heap.size ≠ w.heap.size; omega) (hc.old hga) ((HR1.out.grown hg).grown (grown_any hga))).mono fun e w' ⟨a, b, c⟩ => ⟨a, b, grown_trans hg (grown_trans (grown_any hga) c)⟩
  have HAM := Lib.hid AM
  clear AM
  go_enter Try.func9, Try.ntmps9
  go_wp2_with fail
  try rw [hW1]
  refine (HAM.out W1 0 [1, 2, 3, 3, 5, 8, 0, 9] (by omega) HG1.out HC1.out (by decide)).mono ?_
  rintro e w2 ⟨⟨x1, rfl, -⟩, hc2, hg2⟩
  have HC2 := Lib.hid hc2
  have HG2 := Lib.hid hg2
  clear hc2 hg2
  go_wp2_with fail
  refine (HAM.out w2 2 [1, 2, 1, 0, 3] (by omega) HG2.out HC2.out (by decide)).mono ?_
  rintro e w3 ⟨⟨x2, rfl, -⟩, hc3, hg3⟩
  have HC3 := Lib.hid hc3
  have HG3 := Lib.hid hg3
  clear hc3 hg3
  go_wp2_with fail
  refine (HAM.out w3 4 [4, 5, 4, 3, 6] (by omega) HG3.out HC3.out (by decide)).mono ?_
  rintro e w4 ⟨⟨x3, rfl, -⟩, hc4, hg4⟩
  have HC4 := Lib.hid hc4
  have HG4 := Lib.hid hg4
  clear hc4 hg4
  go_wp2_with fail
  refine (HAM.out w4 6 [0, 7, 10, 99, 100, 384, 12345, 99999999, -1, 100000000] (by omega) HG4.out HC4.out (by decide)).mono ?_
  rintro e w5 ⟨⟨x4, rfl, h4⟩, hc5, hg5⟩
  have H4 : Hid (x4 ≤ 9223372036854775807) := Lib.hid (by simp at h4; omega)
  have HB5 : Hid (Below w.heap.size w w5) := Lib.hid (HB1.out.grown hg5 HB1.out.size (fun k e => by cases e; exact Nat.le_refl _))
  clear hc5 hg5 h4
  go_wp2_with fail
  first
    | exact bodyPost_ret (v := .tuple #[.int .i64 x2, .int .i64 x3, .int .i64 x1, .int .i64 x4]) (by simp [results, Try.results9, go_sem]) rfl ⟨⟨_, _, _, _, rfl, H4.out⟩, HB5.out⟩
    | (trace_state; sorry)
end Go.Proofs.Ytjaiolbneodheaa
