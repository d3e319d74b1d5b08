/- A text of moves, drawn. -/
import Derived.Test.YtmkocinknhaniaaDbu
import Derived.Test.YtmkocinknhaniaaDsp
import Derived.Test.YtmkocinknhaniaaMtxt
namespace Go.Proofs.Ytmkocinknhaniaa
set_option linter.unusedVariables false
open Go.RowKit
set_option linter.unusedSimpArgs false

theorem msT_small (ms : List Mv) (h : ms.length ≤ 60) : (msT ms).length ≤ 1000 := by
  unfold msT
  rw [List.length_drop, sepT_len]
  omega
set_option maxRecDepth 100000 in
set_option maxHeartbeats 3200000 in
theorem drawParseMoves_any (cd : Value) (L : List UInt8) (w : World) (h : SlR w cd (L.map fun c => .int .u8 (c.toNat : Int))) :
    Calls Try.prog 10 #[cd] w fun e w' => (∃ s : ByteArray, e = .returned (.string s) ∧ s.size ≤ 1001) ∧ Below w.heap.size w w' := by
  obtain ⟨ad, cp, rfl⟩ : ∃ a c, cd = .slice a L.length c := by obtain ⟨a, c, e, _⟩ := h; exact ⟨a, c, by rw [e, List.length_map]⟩
  obtain ⟨W1, hW1, hc1, hr1, hb1⟩ := cur_newM h
  have hs1 : W1.heap.size = w.heap.size + 1 := by rw [← hW1]; simp
  have HF1 := Lib.hid (frame_any w.heap.size _ L 0 W1 (by omega) hc1 hr1)
  have HR1 := Lib.hid hr1
  have HB1 := Lib.hid hb1
  have HS1 := Lib.hid hs1
  clear hc1 hr1 hb1 h hs1
  go_enter Try.func10, Try.ntmps10
  go_wp2_with fail
  try rw [hW1]
  refine (HF1.out).mono ?_
  rintro e w2 ⟨⟨up, lo, sv, rs, rfl, ho, hl⟩, hc2, hg2⟩
  obtain ⟨a, c, rfl⟩ : ∃ a c, sv = .slice a rs.length c := by obtain ⟨a, c, e, _⟩ := RodsR.of_own ho; exact ⟨a, c, e⟩
  have HD := Lib.hid (beads_any w.heap.size _ L (0 + 200) up lo a c rs w2 (by omega) (RodsR.of_own ho) hl (own_nocur ho (by have := HS1.out; omega)) hc2 (HR1.out.grown hg2))
  have HG2 := Lib.hid hg2
  clear ho hc2 hg2 hl
  go_wp2_with fail
  refine (HD.out).mono ?_
  rintro e w3 ⟨⟨sq, ms, rfl, ho, hl⟩, hc3, hg3⟩
  have HG3 := Lib.hid (grown_trans HG2.out hg3)
  have HC3 := Lib.hid hc3
  have hrow := RowsR.of_own mvC_len ho
  obtain ⟨b, hb⟩ : ∃ b : Bool, (b = true ↔ okMs ms) := by
    by_cases h : okMs ms
    · exact ⟨true, ⟨fun _ => h, fun _ => rfl⟩⟩
    · exact ⟨false, ⟨fun e => (by cases e), fun e => absurd e h⟩⟩
  have HROW := Lib.hid hrow
  clear ho hc3 hg3 hrow HG2 HD HF1
  go_wp2_with fail
  refine (l4Good_any sq ms w3 HROW.out b hb).mono ?_
  rintro e w4 ⟨rfl, hb4⟩
  have hn4 : w3.grownBy w4 none := ⟨hb4.os, hb4.tape, hb4.output, hb4.size, fun k hk _ => hb4.block k hk⟩
  have HG4 := Lib.hid (grown_trans HG3.out (grown_any (r := some w.heap.size) hn4))
  have HC4 := Lib.hid (HC3.out.old hn4)
  have HROW4 := Lib.hid (HROW.out.below hb4 (Nat.le_refl _))
  clear hb4 hn4 HG3 HC3 HROW
  cases b with
  | true =>
    have hok := hb.1 rfl
    have hsz := msT_small ms hok.2
    have hbs : (⟨(msT ms).toArray⟩ : ByteArray).size ≤ 1000 := by simpa [ByteArray.size] using hsz
    go_wp2_with fail
    refine (l4Text_any sq ms w4 HROW4.out hok).mono ?_
    rintro e w5 ⟨rfl, hb5⟩
    have hn5 : w4.grownBy w5 none := ⟨hb5.os, hb5.tape, hb5.output, hb5.size, fun k hk _ => hb5.block k hk⟩
    have HG5 := Lib.hid (grown_trans HG4.out (grown_any (r := some w.heap.size) hn5))
    have HC5 := Lib.hid (HC4.out.old hn5)
    clear hb5 hn5 hb hsz HG4 HC4 HROW4
    generalize (⟨(msT ms).toArray⟩ : ByteArray) = t at hbs ⊢
    go_wp2_with fail
    refine (one_any w.heap.size _ L (0 + 200 + 400) 4 w5 (by omega) ⟨by omega, by omega⟩ HC5.out (HR1.out.grown HG5.out)).mono ?_
    rintro e w6 ⟨⟨b6, rfl⟩, hc6, hg6⟩
    have HG6 := Lib.hid (grown_trans HG5.out hg6)
    have HC6 := Lib.hid hc6
    clear hc6 hg6
    cases b6 with
    | true =>
      go_wp2_with fail
      refine (spoilt_any w.heap.size _ L (0 + 200 + 400 + 2) _ _ w6 (by omega) (by omega) (by decide) HC6.out (HR1.out.grown HG6.out)).mono ?_
      rintro e w7 ⟨⟨u, rfl, hu⟩, hc7, hg7⟩
      have HB7 := Lib.hid (below_curM HB1.out (grown_trans HG6.out hg7) (Nat.le_refl _))
      clear hc7 hg7
      go_wp2_with fail
      go_ret
      exact ⟨⟨_, rfl, hu⟩, HB7.out⟩
    | false =>
      have HB6 := Lib.hid (below_curM HB1.out HG6.out (Nat.le_refl _))
      go_wp2_with fail
      go_ret
      exact ⟨⟨_, rfl, by omega⟩, HB6.out⟩
  | false =>
    clear hb HROW4
    have hbs : (⟨#[48, 117, 43, 49, 32, 49, 108, 45, 51]⟩ : ByteArray).size ≤ 1000 := by decide
    go_wp2_with fail
    refine (one_any w.heap.size _ L (0 + 200 + 400) 4 w4 (by omega) ⟨by omega, by omega⟩ HC4.out (HR1.out.grown HG4.out)).mono ?_
    rintro e w6 ⟨⟨b6, rfl⟩, hc6, hg6⟩
    have HG6 := Lib.hid (grown_trans HG4.out hg6)
    have HC6 := Lib.hid hc6
    clear hc6 hg6
    cases b6 with
    | true =>
      go_wp2_with fail
      refine (spoilt_any w.heap.size _ L (0 + 200 + 400 + 2) _ _ w6 (by omega) (by omega) (by decide) HC6.out (HR1.out.grown HG6.out)).mono ?_
      rintro e w7 ⟨⟨u, rfl, hu⟩, hc7, hg7⟩
      have HB7 := Lib.hid (below_curM HB1.out (grown_trans HG6.out hg7) (Nat.le_refl _))
      clear hc7 hg7
      go_wp2_with fail
      go_ret
      exact ⟨⟨_, rfl, hu⟩, HB7.out⟩
    | false =>
      have HB6 := Lib.hid (below_curM HB1.out HG6.out (Nat.le_refl _))
      go_wp2_with fail
      go_ret
      exact ⟨⟨_, rfl, by omega⟩, HB6.out⟩
end Go.Proofs.Ytmkocinknhaniaa
