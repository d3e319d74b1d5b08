/- Moves, drawn. -/
import Derived.Test.YtmkocinknhaniaaDbt
import Derived.Test.YtmkocinknhaniaaKc
namespace Go.Proofs.Ytmkocinknhaniaa
set_option linter.unusedVariables false
open Go.RowKit
set_option linter.unusedSimpArgs false

theorem cur_newM {w : World} {cd : Value} {L : List UInt8} (h : SlR w cd (L.map fun c => .int .u8 (c.toNat : Int))) : ∃ W1, w.alloc (.cells #[cd, .int .i64 0, .int .u64 0] 48) = W1 ∧ CurAt W1 w.heap.size cd 0 ∧ CodeR W1 w.heap.size cd L ∧ Below w.heap.size w W1 :=
  ⟨_, rfl, ⟨0, 0, _, Nat.le_refl _, Lib.hid (by decide), alloc_at rfl⟩, code_new h _, (Below.refl _ w).alloc (Nat.le_refl _) _⟩
theorem below_curM {w W1 W2 : World} {cb : Nat} (hb : Below w.heap.size w W1) (hg : W1.grownBy W2 (some cb)) (h : w.heap.size ≤ cb) : Below w.heap.size w W2 := hb.grown hg hb.size (fun k e => by cases e; exact h)
/-- An own row of a frame is not the cursor's block. -/
theorem own_nocur {w : World} {B cb n : Nat} {e : TypeId} {size : Nat} {a : Option Addr} {m c : Nat} {xs : List Value} (h : w.ownsRow B e size (.slice a m c) n xs) (hcb : cb < B) : ∀ p, a = some p → p.block ≠ cb := fun p hp => by
  subst hp
  have hk : (Value.slice (some p) m c).ownBlock = some p.block := rfl
  have := (h.lt _ hk).1
  omega
set_option maxRecDepth 100000 in
set_option maxHeartbeats 1600000 in
theorem drawUndoMoves_any (cd : Value) (L : List UInt8) (w : World) (h : SlR w cd (L.map fun c => .int .u8 (c.toNat : Int))) :
    Calls Try.prog 21 #[cd] w fun e w' => (∃ (sq : Value) (ms : List Mv), e = .returned sq ∧ w'.ownsRow w.heap.size 40 3 sq ms.length (flatC mvC ms) ∧ ms.length ≤ 70) ∧ Below w.heap.size w w' := by
  obtain ⟨ad, cp, rfl⟩ : ∃ a c, cd = .slice a L.length c := by obtain ⟨a, c, e, _⟩ := h; exact ⟨a, c, by rw [e, List.length_map]⟩
  obtain ⟨W1, hW1, hc1, hr1, hb1⟩ := cur_newM h
  have hs1 : W1.heap.size = w.heap.size + 1 := by rw [← hW1]; simp
  have HF1 := Lib.hid (frame_any w.heap.size _ L 0 W1 (by omega) hc1 hr1)
  have HR1 := Lib.hid hr1
  have HB1 := Lib.hid hb1
  have HS1 := Lib.hid hs1
  clear hc1 hr1 hb1 h hs1
  go_enter Try.func21, Try.ntmps21
  go_wp2_with fail
  try rw [hW1]
  refine (HF1.out).mono ?_
  rintro e w2 ⟨⟨up, lo, sv, rs, rfl, ho, hl⟩, hc2, hg2⟩
  obtain ⟨a, c, rfl⟩ : ∃ a c, sv = .slice a rs.length c := by obtain ⟨a, c, e, _⟩ := RodsR.of_own ho; exact ⟨a, c, e⟩
  have HD := Lib.hid (beads_any w.heap.size _ L (0 + 200) up lo a c rs w2 (by omega) (RodsR.of_own ho) hl (own_nocur ho (by have := HS1.out; omega)) hc2 (HR1.out.grown hg2))
  have HB2 := Lib.hid (below_curM HB1.out hg2 (Nat.le_refl _))
  have HS2 : Hid (w.heap.size ≤ w2.heap.size) := Lib.hid (by have := HS1.out; have := hg2.size; omega)
  clear ho hc2 hg2 hl
  go_wp2_with fail
  refine (HD.out).mono ?_
  rintro e w3 ⟨⟨sq, ms, rfl, ho, hl⟩, hc3, hg3⟩
  have HB3 := Lib.hid (HB2.out.grown hg3 HB2.out.size (fun k e => by cases e; exact Nat.le_refl _))
  have HO3 := Lib.hid (own_mono ho HS2.out)
  clear ho hc3 hg3
  go_wp2_with fail
  go_ret
  exact ⟨⟨sq, ms, rfl, HO3.out, hl⟩, HB3.out⟩
set_option maxRecDepth 100000 in
set_option maxHeartbeats 800000 in
theorem drawMovesText_any (cd : Value) (L : List UInt8) (w : World) (h : SlR w cd (L.map fun c => .int .u8 (c.toNat : Int))) :
    Calls Try.prog 5 #[cd] w fun e w' => (∃ (sq : Value) (ms : List Mv), e = .returned sq ∧ w'.ownsRow w.heap.size 40 3 sq ms.length (flatC mvC ms) ∧ ms.length ≤ 70) ∧ Below w.heap.size w w' := by
  have HD := Lib.hid (drawUndoMoves_any cd L w h)
  obtain ⟨ad, cp, rfl⟩ : ∃ a c, cd = .slice a L.length c := by obtain ⟨a, c, e, _⟩ := h; exact ⟨a, c, by rw [e, List.length_map]⟩
  clear h
  go_enter Try.func5, Try.ntmps5
  go_wp2_with fail
  refine (HD.out).mono ?_
  rintro e w3 ⟨⟨sq, ms, rfl, ho, hl⟩, hb⟩
  have HB3 := Lib.hid hb
  have HO3 := Lib.hid ho
  clear ho hb
  go_wp2_with fail
  go_ret
  exact ⟨⟨sq, ms, rfl, HO3.out, hl⟩, HB3.out⟩
set_option maxRecDepth 100000 in
set_option maxHeartbeats 800000 in
theorem drawBeadsOf_any (cd : Value) (L : List UInt8) (w : World) (h : SlR w cd (L.map fun c => .int .u8 (c.toNat : Int))) :
    Calls Try.prog 19 #[cd] w fun e w' => (∃ (sq : Value) (ms : List Mv), e = .returned sq ∧ w'.ownsRow w.heap.size 40 3 sq ms.length (flatC mvC ms) ∧ ms.length ≤ 70) ∧ Below w.heap.size w w' := by
  have HD := Lib.hid (drawUndoMoves_any cd L w h)
  obtain ⟨ad, cp, rfl⟩ : ∃ a c, cd = .slice a L.length c := by obtain ⟨a, c, e, _⟩ := h; exact ⟨a, c, by rw [e, List.length_map]⟩
  clear h
  go_enter Try.func19, Try.ntmps19
  go_wp2_with fail
  refine (HD.out).mono ?_
  rintro e w3 ⟨⟨sq, ms, rfl, ho, hl⟩, hb⟩
  have HB3 := Lib.hid hb
  have HO3 := Lib.hid ho
  clear ho hb
  go_wp2_with fail
  go_ret
  exact ⟨⟨sq, ms, rfl, HO3.out, hl⟩, HB3.out⟩
end Go.Proofs.Ytmkocinknhaniaa
