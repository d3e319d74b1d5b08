/- The model's UndoMoves. -/
import Derived.Test.YtpdckmhhmgkaaaaMone
import Derived.Test.YtpdckmhhmgkaaaaFlatx
namespace Go.Proofs.Ytpdckmhhmgkaaaa
set_option linter.unusedVariables false
open Go.RowKit

theorem mvC_one (p : Mv) : ∀ u ∈ mvC p, u.oneCell' = true := by intro u hu; simp [mvC] at hu; rcases hu with rfl | rfl | rfl <;> rfl
def mvNeg (m : Mv) : Mv := { m with amt := -m.amt }
def undoL (ms : List Mv) : List Mv := (ms.map mvNeg).reverse
theorem undoL_len (ms : List Mv) : (undoL ms).length = ms.length := by simp [undoL]
theorem undo_snoc (ms : List Mv) (k : Nat) (h : k < ms.length) : undoL (ms.drop k) = undoL (ms.drop (k + 1)) ++ [mvNeg ms[k]] := by
  unfold undoL; rw [List.drop_eq_getElem_cons h, List.map_cons, List.reverse_cons]

set_option maxRecDepth 100000 in
set_option maxHeartbeats 800000 in
theorem specUndo_no (v : Value) (ps : List Mv) (w : World) (h : RowsR 3 mvC w v ps) (ho : ¬ okMs ps) :
    Calls Try.prog 35 #[v] w fun e w' => (∃ sq, e = .returned (.tuple #[sq, .bool false]) ∧ w'.ownsRow w.heap.size 38 3 sq ([] : List Mv).length (flatC mvC [])) ∧ Below w.heap.size w w' := by
  have HH := Lib.hid h
  have HO := Lib.hid ho
  clear h ho
  go_enter Try.func35, Try.ntmps35
  go_wp2_with fail
  have hb1 := (Below.refl w.heap.size w).alloc (Nat.le_refl _) (.cells #[] 38)
  refine (l4Good_any v ps _ (HH.out.below hb1 (Nat.le_refl _)) false ⟨fun h => by simp at h, fun h => absurd h HO.out⟩).mono ?_
  rintro e w2 ⟨rfl, hb⟩
  have HO1 := Lib.hid (own_below (World.ownsRow_made (base := w.heap.size) (e := 38) (size := 3) w #[] 0 (Nat.le_refl _) (Nat.zero_le _) (by simp)) hb)
  have HB := Lib.hid (hb1.trans (hb.mono hb1.size))
  clear hb hb1
  go_wp2_with fail
  go_ret2
  exact ⟨⟨_, rfl, HO1.out⟩, HB.out⟩
set_option maxRecDepth 100000 in
set_option maxHeartbeats 1600000 in
theorem specUndo_yes (v : Value) (ps : List Mv) (w : World) (h : RowsR 3 mvC w v ps) (ho : okMs ps) :
    Calls Try.prog 35 #[v] w fun e w' => (∃ sq, e = .returned (.tuple #[sq, .bool true]) ∧ w'.ownsRow w.heap.size 38 3 sq (undoL ps).length (flatC mvC (undoL ps))) ∧ Below w.heap.size w w' := by
  obtain ⟨i0, hi, hz0, hz1, hz2⟩ := info_parts Try.infoBeadMove
  have hl : ps.length ≤ 60 := ho.2
  have HH := Lib.hid h
  obtain ⟨a, cp, rfl⟩ := h.form
  have R1 := Lib.hid h.at
  have HK := Lib.hid ho
  clear h ho
  go_enter Try.func35, Try.ntmps35
  go_wp2_with fail
  have hb1 := (Below.refl w.heap.size w).alloc (Nat.le_refl _) (.cells #[] 38)
  refine (l4Good_any _ ps _ (HH.out.below hb1 (Nat.le_refl _)) true ⟨fun _ => HK.out, fun _ => rfl⟩).mono ?_
  rintro e w2 ⟨rfl, hb⟩
  have HO := Lib.hid (own_below (World.ownsRow_made (base := w.heap.size) (e := 38) (size := 3) w #[] 0 (Nat.le_refl _) (Nat.zero_le _) (by simp)) hb)
  have HB := Lib.hid (hb1.trans (hb.mono hb1.size))
  clear hb hb1
  go_wp2_with fail
  go_loopw [4, 5] (fun out i wr => ∃ (k : Nat) (ii : Int), k ≤ ps.length ∧ ii + 1 = (k : Int) ∧ i = .int .i64 ii ∧ wr.ownsRow w.heap.size 38 3 out (undoL (ps.drop k)).length (flatC mvC (undoL (ps.drop k))) ∧ Below w.heap.size w wr) (fun _ i _ => (intOf i + 1).toNat)
  case atStart => exact ⟨ps.length, (ps.length : Int) - 1, Nat.le_refl _, by omega, by go_num, by rw [List.drop_eq_nil_of_le (Nat.le_refl _)]; exact HO.out, HB.out⟩
  case round =>
    obtain ⟨k, ii, hk, hki, rfl, hown, hb⟩ := hrel
    have HB2 := Lib.hid hb
    have HO2 := Lib.hid hown
    have hul := undoL_len (ps.drop k)
    rw [List.length_drop] at hul
    by_cases hk0 : 0 < k
    · obtain ⟨m, rfl⟩ : ∃ m, k = m + 1 := ⟨k - 1, by omega⟩
      obtain rfl : ii = (m : Int) := by omega
      have hlt : m < ps.length := by omega
      clear hki hk0
      have z1 : (0 : Int) ≤ (m : Int) := by omega
      have z2 : (m : Int) < (ps.length : Int) := by omega
      obtain ⟨b1, o1, rfl, l1, k1⟩ := R1.out _ hb m hlt
      have p0 : wr.cell? ⟨b1, o1 + m * 3, none⟩ = some (.int .i64 ps[m].rod) := k1 0 (by omega)
      have p1 : wr.cell? ⟨b1, o1 + m * 3 + 1, none⟩ = some (.int .i64 ps[m].part) := k1 1 (by omega)
      have p2 : wr.cell? ⟨b1, o1 + m * 3 + 2, none⟩ = some (.int .i64 ps[m].amt) := k1 2 (by omega)
      have hok := HK.out.1 m hlt
      have hwn : IntKind.i64.wrap (-ps[m].amt) = -ps[m].amt := by have := hok.2.2.1; rw [IntKind.wrap_i64]; omega
      have HBX : Hid (Below w.heap.size w (wr.alloc (.cells #[.int .i64 ps[m].rod, .int .i64 ps[m].part, .int .i64 ps[m].amt] 38))) := Lib.hid (HB2.out.alloc HB2.out.size _)
      have HSZ := Lib.hid HB2.out.size
      have HE := Lib.hid (undo_snoc ps m hlt)
      have HUL := Lib.hid hul
      clear hb hown k1 hok hul
      go_wp2_with (at_builtin; refine wpList_append_own _ rfl _ _ 46 rfl w.heap.size 38 i0 (.agg #[.int .i64 0, .int .i64 0, .int .i64 0]) 3 24 Try.underlying46 hi hz0 hz1 hz2 rfl (by decide) _ _ _ rfl ((HO2.out.alloc _).alloc _) ⟨wr.heap.size + 1, 0, none⟩ 1 1 (mvC (mvNeg ps[m])) rfl rfl ?c1 ?c2 ?c3 ?c4 ?c5 ?_)
      case c1 => exact news_at (vs := mvC (mvNeg ps[m])) (alloc_at (by simp))
      case c2 => exact mvC_one _
      case c3 => have := HUL.out; unfold maxLen; omega
      case c4 => have := HUL.out; omega
      case c5 => have := HSZ.out; simp; omega
      intro v' w3 hown3 hgrow3 _
      have HO3 := Lib.hid hown3
      have HB3 : Hid (Below w.heap.size w w3) := Lib.hid ((HBX.out.alloc HBX.out.size _).grown hgrow3 (by have := HSZ.out; simp; omega) (fun q hq => (HO2.out.lt q hq).1))
      clear hown3 hgrow3
      go_wp2_with fail
      go_roundw
      case rel =>
        refine ⟨m, (m : Int) - 1, by omega, by omega, by go_num, ?_, HB3.out⟩
        rw [HE.out, flatC_app]
        have := HO3.out
        simpa [flatC] using this
      case measure => simp [intOf]
    · have hke : k = 0 := by omega
      subst hke
      obtain rfl : ii = -1 := by omega
      clear hb hown hki hk0
      go_wp2_with fail
      go_ret2
      exact ⟨⟨_, rfl, by have := HO2.out; rwa [List.drop_zero] at this⟩, HB2.out⟩
end Go.Proofs.Ytpdckmhhmgkaaaa
