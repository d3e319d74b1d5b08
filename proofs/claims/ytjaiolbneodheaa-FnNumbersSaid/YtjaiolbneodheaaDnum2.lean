/- Frames and rods that laws draw. -/
import Derived.Test.YtjaiolbneodheaaDnum
import Derived.Test.YtjaiolbneodheaaOwn
namespace Go.Proofs.Ytjaiolbneodheaa
set_option linter.unusedVariables false
open Go.RowKit

set_option maxRecDepth 100000 in
set_option maxHeartbeats 800000 in
theorem rodOf_any (cb : Nat) (cd : Value) (L : List UInt8) (n : Nat) (up lo : Int) (a : Option Addr) (cp K : Nat) (w : World) (hK : K ≤ 1000) (hn : n < 4611686018427380000) (hc : CurAt w cb cd n) (hr : CodeR w cb cd L) :
    Calls Try.prog 99 #[.pointer (some ⟨cb, 0, none⟩), .agg #[.int .i64 up, .int .i64 lo, .slice a K cp]] w fun e w' => (∃ z : Int, e = .returned (.int .i64 z)) ∧ CurAt w' cb cd (n + 4) ∧ w.grownBy w' (some cb) := by
  have hga := grown_alloc w (.cells #[.int .i64 up, .int .i64 lo, .slice a K cp] 28) none
  have q1 : IntKind.i64.wrap ((K : Int) + 1) = (K : Int) + 1 := by rw [IntKind.wrap_i64]; omega
  have HP := Lib.hid (pick_any cb cd L n ((K : Int) + 1) (w.alloc (.cells #[.int .i64 up, .int .i64 lo, .slice a K cp] 28)) (by omega) (by omega) (by omega) (hc.old hga) (hr.grown (grown_any hga)))
  have HGA := Lib.hid (grown_any (r := some cb) hga)
  have HR := Lib.hid hr
  clear hga hc hr
  go_enter Try.func99, Try.ntmps99
  go_wp2_with fail
  refine (HP.out).mono ?_
  rintro e w1 ⟨⟨r, rfl, r0, r1⟩, hc1, hg1⟩
  have HG1 := Lib.hid (grown_trans HGA.out hg1)
  have HP2 := Lib.hid (pick_any cb cd L (n + 2) 9 w1 (by omega) (by omega) (by omega) hc1 (HR.out.grown HG1.out))
  clear hc1 hg1
  go_wp2_with fail
  refine (HP2.out).mono ?_
  rintro e w2 ⟨⟨s, rfl, s0, s1⟩, hc2, hg2⟩
  have HG2 := Lib.hid (grown_trans HG1.out hg2)
  have HC2 := Lib.hid hc2
  clear hc2 hg2
  go_wp2_with fail
  go_ret
  exact ⟨⟨_, rfl⟩, HC2.out, HG2.out⟩
set_option maxRecDepth 100000 in
set_option maxHeartbeats 1600000 in
theorem drawIsFrame_any (cd : Value) (L : List UInt8) (w : World) (h : SlR w cd (L.map fun c => .int .u8 (c.toNat : Int))) :
    Calls Try.prog 108 #[cd] w fun e w' => (∃ (up lo : Int) (sv : Value) (rs : List (Int × Int)), e = .returned (.agg #[.int .i64 up, .int .i64 lo, sv]) ∧ w'.ownsRow w.heap.size 105 2 sv rs.length (flat rs) ∧ rs.length ≤ 20) ∧ Below w.heap.size w w' := by
  obtain ⟨ad, cp, rfl⟩ : ∃ a c, cd = .slice a L.length c := by obtain ⟨a, c, e, _⟩ := h; exact ⟨a, c, by rw [e, List.length_map]⟩
  have hT : (Lit.int .u64 0).wf = true := by decide
  obtain ⟨W0, hW0⟩ : ∃ W0, w.alloc (.cells #[.int .i64 0, .int .i64 0, .slice none 0 0] 28) = W0 := ⟨_, rfl⟩
  have hb0 : Below w.heap.size w W0 := by rw [← hW0]; exact (Below.refl _ w).alloc (Nat.le_refl _) _
  have hz0 : W0.heap[w.heap.size]? = some (.cells #[.int .i64 0, .int .i64 0, .slice none 0 0] 28 (0, 0)) := by rw [← hW0]; exact alloc_at rfl
  have hs0 : W0.heap.size = w.heap.size + 1 := by rw [← hW0]; simp
  have HN := Lib.hid (code_new (h.below hb0 (Nat.le_refl _)))
  obtain ⟨W1, hW1⟩ : ∃ W1, W0.alloc (.cells #[.slice ad L.length cp, .int .i64 0, .int .u64 0] 103) = W1 := ⟨_, rfl⟩
  have hc1 : CurAt W1 W0.heap.size (.slice ad L.length cp) 0 := ⟨0, 0, _, Nat.le_refl _, Lib.hid hT, by rw [← hW1]; exact alloc_at rfl⟩
  have hr1 : CodeR W1 W0.heap.size (.slice ad L.length cp) L := by rw [← hW1]; exact HN.out _
  have hb1 : Below W0.heap.size W0 W1 := by rw [← hW1]; exact (Below.refl _ W0).alloc (Nat.le_refl _) _
  have hz1 := (hb1.block _ (by omega)).trans hz0
  rw [hs0] at hc1 hr1
  have HA := Lib.hid (frame_any (w.heap.size + 1) _ L 0 W1 (by omega) hc1 hr1)
  have HB1 : Hid (Below w.heap.size w W1) := Lib.hid (hb0.trans (hb1.mono (by omega)))
  have HZ1 := Lib.hid hz1
  have HS1 : Hid (w.heap.size + 1 ≤ W1.heap.size) := Lib.hid (by have := hb1.size; omega)
  have hW1' : W0.alloc (.cells #[.slice ad L.length cp, .int .i64 0, .int .u64 0] 103) = W1 := hW1
  clear hc1 hr1 hb1 hb0 hz0 hz1 h HN hW1
  go_enter Try.func108, Try.ntmps108
  go_wp2_with fail
  try rw [hW0]
  try rw [hW1']
  refine (HA.out).mono ?_
  rintro e w2 ⟨⟨up, lo, sv, rs, rfl, ho, hl⟩, hc2, hg2⟩
  have hz2 := (hg2.block _ (by have := HS1.out; omega) (by intro e; injection e with e; omega)).trans HZ1.out
  have HB2 : Hid (Below w.heap.size w w2) := Lib.hid (HB1.out.grown hg2 HB1.out.size (fun k e => by cases e; exact Nat.le_succ _))
  obtain ⟨z0, z1, z2, y0, y1, y2⟩ := cell3 hz2
  have HO := Lib.hid (fun x y z => own_set3 ho (g := w.heap.size) (by have := HS1.out; omega) x y z)
  clear hc2 hg2 hz2
  obtain ⟨a, c, rfl⟩ : ∃ a c, sv = .slice a rs.length c := by obtain ⟨a, c, e, _⟩ := RodsR.of_own ho; exact ⟨a, c, e⟩
  clear ho
  go_wp2_with fail
  exact bodyPost_ret (v := .agg #[.int .i64 up, .int .i64 lo, .slice a rs.length c]) (by simp [results, Try.results108, go_sem, z0, z1, z2]) rfl ⟨⟨_, _, _, rs, rfl, own_mono (HO.out _ _ _) (by have := HS1.out; omega), hl⟩, bl_set3 HB2.out (Nat.le_refl _) _ _ _⟩
end Go.Proofs.Ytjaiolbneodheaa
