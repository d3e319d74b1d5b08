/- The program's BeadsOf. -/
import Derived.Test.YtmkocinknhaniaaMbeads
import Derived.Test.YtmkocinknhaniaaKj
namespace Go.Proofs.Ytmkocinknhaniaa
set_option linter.unusedVariables false
open Go.RowKit

set_option maxRecDepth 100000 in
set_option maxHeartbeats 800000 in
theorem beadsOfMove_any (rod part amt d : Int) (w : World) (hx : -5 ≤ amt ∧ amt ≤ 5) (hd : absI amt = d) :
    Calls Try.prog 25 #[.agg #[.int .i64 rod, .int .i64 part, .int .i64 amt]] w fun e w' => e = .returned (.int .i64 d) ∧ Below w.heap.size w w' := by
  have HD := Lib.hid hd
  have hw : IntKind.i64.wrap (-amt) = -amt := by rw [IntKind.wrap_i64]; omega
  obtain ⟨x0, x1⟩ := hx
  clear hd
  go_enter Try.func25, Try.ntmps25
  go_wp2_with fail
  all_goals
    go_ret
    refine ⟨ret_int ?_, (Below.refl _ _).alloc (Nat.le_refl _) _⟩
    rw [← HD.out]
    unfold absI
    split <;> omega

set_option maxRecDepth 100000 in
set_option maxHeartbeats 1600000 in
theorem implBeads_yes (v : Value) (ps : List Mv) (w : World) (h : RowsR 3 mvC w v ps) (ho : okMs ps) :
    Calls Try.prog 16 #[v] w fun e w' => e = .returned (.tuple #[.int .i64 (beadsI ps), .bool true]) ∧ Below w.heap.size w w' := by
  have hl : ps.length ≤ 60 := ho.2
  have HA := Lib.hid (areMoves_any v ps w h true ⟨fun _ => ho, fun _ => rfl⟩)
  obtain ⟨a, cp, rfl⟩ := h.form
  have R1 := Lib.hid h.at
  have HK := Lib.hid ho
  clear h ho
  go_enter Try.func16, Try.ntmps16
  go_wp2_with fail
  refine HA.out.mono ?_
  rintro e w2 ⟨rfl, hb2⟩
  have HB2 := Lib.hid hb2
  clear hb2
  go_wp2_with fail
  go_loopw [4, 12] (fun n i wr => ∃ (k : Nat) (s : Int), k ≤ ps.length ∧ i = .int .i64 k ∧ n = .int .i64 s ∧ Hid (s = beadsI (ps.take k)) ∧ (0 ≤ s ∧ s ≤ 5 * k) ∧ Below w.heap.size w wr) (fun _ i _ => ps.length - (intOf i).toNat)
  case atStart => exact ⟨0, 0, Nat.zero_le _, rfl, rfl, Lib.hid rfl, ⟨by omega, by omega⟩, HB2.out⟩
  case round =>
    obtain ⟨k, s, hk, rfl, rfl, HS, ⟨s0, s1⟩, hb⟩ := hrel
    have HB := Lib.hid hb
    by_cases hlt : k < ps.length
    · have z1 : (0 : Int) ≤ (k : Int) := by omega
      have z2 : (k : Int) < (ps.length : Int) := by omega
      obtain ⟨b1, o1, rfl, l1, k1⟩ := R1.out _ hb k hlt
      have p0 : wr.cell? ⟨b1, o1 + k * 3, none⟩ = some (.int .i64 ps[k].rod) := k1 0 (by omega)
      have p1 : wr.cell? ⟨b1, o1 + k * 3 + 1, none⟩ = some (.int .i64 ps[k].part) := k1 1 (by omega)
      have p2 : wr.cell? ⟨b1, o1 + k * 3 + 2, none⟩ = some (.int .i64 ps[k].amt) := k1 2 (by omega)
      have hok := (HK.out.1 k hlt).2.2.1
      have HN := Lib.hid (beadsI_snoc ps k hlt)
      obtain ⟨d, hd⟩ : ∃ d, absI ps[k].amt = d := ⟨_, rfl⟩
      have hd5 := absI_bd hok
      rw [hd] at hd5
      have HD := Lib.hid hd
      have HOK := Lib.hid hok
      have HB1 : Hid (Below w.heap.size w (wr.alloc (.cells #[.int .i64 ps[k].rod, .int .i64 ps[k].part, .int .i64 ps[k].amt] 40))) := Lib.hid (hb.alloc hb.size _)
      have hws : IntKind.i64.wrap (s + d) = s + d := by rw [IntKind.wrap_i64]; omega
      clear k1 hb hd hok
      go_wp2_with fail
      refine (beadsOfMove_any _ _ _ d _ HOK.out HD.out).mono ?_
      rintro e w3 ⟨rfl, hb3⟩
      have HB3 := Lib.hid (HB1.out.trans (hb3.mono HB1.out.size))
      clear hb3
      go_wp2_with fail
      go_roundw
      case rel => exact ⟨k + 1, s + d, by omega, by go_num, rfl, Lib.hid (by rw [HN.out, HS.out, HD.out]), by omega, HB3.out⟩
      case measure => simp [intOf]; omega
    · have HN : Hid (s = beadsI ps) := Lib.hid (by have := HS.out; rwa [List.take_of_length_le (by omega)] at this)
      clear hb
      go_wp2_with fail
      go_ret2
      exact ⟨ret_int2 HN.out, HB.out⟩
set_option maxRecDepth 100000 in
set_option maxHeartbeats 400000 in
theorem implBeads_no (v : Value) (ps : List Mv) (w : World) (h : RowsR 3 mvC w v ps) (ho : ¬ okMs ps) :
    Calls Try.prog 16 #[v] w fun e w' => e = .returned (.tuple #[.int .i64 0, .bool false]) ∧ Below w.heap.size w w' := by
  have HA := Lib.hid (areMoves_any v ps w h false ⟨fun e => by simp at e, fun e => absurd e ho⟩)
  clear h ho
  go_enter Try.func16, Try.ntmps16
  go_wp2_with fail
  refine HA.out.mono ?_
  rintro e w2 ⟨rfl, hb2⟩
  have HB2 := Lib.hid hb2
  clear hb2
  go_wp2_with fail
  go_ret2
  exact ⟨rfl, HB2.out⟩
end Go.Proofs.Ytmkocinknhaniaa
