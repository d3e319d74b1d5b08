/- slices.Reverse on an own slice of moves. -/
import Derived.Test.YtpdckmhhmgkaaaaMundo
import Derived.BigRegion
namespace Go.Proofs.Ytpdckmhhmgkaaaa
set_option linter.unusedVariables false
open Go.RowKit

/-- The list behind k exchanges from both ends. -/
def RevK (ps cs : List Mv) (k : Nat) : Prop := cs.length = ps.length ∧ ∀ x, x < ps.length → cs[x]? = if x < k ∨ ps.length - k ≤ x then ps[ps.length - 1 - x]? else ps[x]?
theorem revK_zero (ps : List Mv) : RevK ps ps 0 := ⟨rfl, fun x hx => by rw [if_neg (by omega)]⟩
theorem revK_end {ps cs : List Mv} {k : Nat} (h : RevK ps cs k) (h1 : ps.length ≤ 2 * k + 1) (h2 : 2 * k ≤ ps.length) : cs = ps.reverse := by
  refine List.ext_getElem? fun x => ?_
  by_cases hx : x < ps.length
  · rw [List.getElem?_reverse hx, h.2 x hx]
    split
    · rfl
    · rw [show ps.length - 1 - x = x by omega]
  · rw [List.getElem?_eq_none (by rw [h.1]; omega), List.getElem?_eq_none (by rw [List.length_reverse]; omega)]
theorem revK_step {ps cs : List Mv} {k : Nat} (h : RevK ps cs k) (hk : 2 * k + 1 < ps.length) (a b : Mv) (ha : cs[k]? = some a) (hb : cs[ps.length - 1 - k]? = some b) : RevK ps ((cs.set k b).set (ps.length - 1 - k) a) (k + 1) := by
  have ha' := h.2 k (by omega)
  have hb' := h.2 (ps.length - 1 - k) (by omega)
  rw [if_neg (by omega)] at ha' hb'
  refine ⟨by rw [List.length_set, List.length_set]; exact h.1, fun x hx => ?_⟩
  by_cases e1 : x = ps.length - 1 - k
  · subst e1
    rw [List.getElem?_set_self (by rw [List.length_set, h.1]; omega), if_pos (by omega), show ps.length - 1 - (ps.length - 1 - k) = k by omega, ← ha', ha]
  · rw [List.getElem?_set_ne (fun e => e1 e.symm)]
    by_cases e2 : x = k
    · subst e2
      rw [List.getElem?_set_self (by rw [h.1]; omega), if_pos (by omega), ← hb', hb]
    · rw [List.getElem?_set_ne (fun e => e2 e.symm), h.2 x hx]
      by_cases e3 : x < k ∨ ps.length - k ≤ x
      · rw [if_pos e3, if_pos (by omega)]
      · rw [if_neg e3, if_neg (by omega)]
theorem set3C (cs : List Mv) (i : Nat) (hi : i < cs.length) (m : Mv) : (((flatC mvC cs).set (i * 3) (.int .i64 m.rod)).set (i * 3 + 1) (.int .i64 m.part)).set (i * 3 + 2) (.int .i64 m.amt) = flatC mvC (cs.set i m) := by
  obtain ⟨rod, part, amt⟩ := m
  have h1 := flatC_set1 mvC_len cs i 0 hi (by omega) (.int .i64 rod) { cs[i] with rod := rod } rfl
  have h2 := flatC_set1 mvC_len (cs.set i { cs[i] with rod := rod }) i 1 (by simpa using hi) (by omega) (.int .i64 part) { cs[i] with rod := rod, part := part } (by rw [List.getElem_set_self]; rfl)
  have h3 := flatC_set1 mvC_len (cs.set i { cs[i] with rod := rod, part := part }) i 2 (by simpa using hi) (by omega) (.int .i64 amt) ⟨rod, part, amt⟩ (by rw [List.getElem_set_self]; rfl)
  rw [List.set_set] at h2 h3
  rw [← h3, ← h2, ← h1]; rfl

set_option maxRecDepth 100000 in
set_option maxHeartbeats 1600000 in
theorem reverse_any (g n cap lo : Nat) (ps : List Mv) (w : World) (hl : ps.length = n) (h60 : n ≤ 60) (ho : w.ownsRow lo 38 3 (.slice (some ⟨g, 0, none⟩) n cap) n (flatC mvC ps)) :
    Calls Try.prog 68 #[.slice (some ⟨g, 0, none⟩) n cap] w fun e w' => e = .returned (.tuple #[]) ∧ w'.ownsRow lo 38 3 (.slice (some ⟨g, 0, none⟩) n cap) n (flatC mvC ps.reverse) ∧ Btw g (g + 1) w w' := by
  have HL := Lib.hid hl
  have HO := Lib.hid ho
  clear hl ho
  go_enter Try.func68, Try.ntmps68
  go_wp2_with fail
  go_loopw [2, 3] (fun i j wr => ∃ (k : Nat) (cs : List Mv), i = .int .i64 k ∧ j = .int .i64 ((n : Int) - 1 - k) ∧ 2 * k ≤ n ∧ Hid (RevK ps cs k) ∧ wr.ownsRow lo 38 3 (.slice (some ⟨g, 0, none⟩) n cap) n (flatC mvC cs) ∧ Btw g (g + 1) w wr) (fun i _ _ => n - (intOf i).toNat)
  case atStart => exact ⟨0, ps, rfl, by simp, by omega, Lib.hid (revK_zero ps), HO.out, Btw.refl _ _ _⟩
  case round =>
    obtain ⟨k, cs, rfl, rfl, hk, HR, hown, hbt⟩ := hrel
    have HW := Lib.hid hown
    have HBT := Lib.hid hbt
    by_cases hlt : 2 * k + 1 < n
    · obtain ⟨j, hj⟩ : ∃ j : Nat, (n : Int) - 1 - k = (j : Int) := ⟨n - 1 - k, by omega⟩
      have hj' : j = n - 1 - k := by omega
      rw [hj]
      have z1 : (k : Int) < (j : Int) := by omega
      have z2 : (0 : Int) ≤ (k : Int) := by omega
      have z3 : (k : Int) < (n : Int) := by omega
      have z4 : (0 : Int) ≤ (j : Int) := by omega
      have z5 : (j : Int) < (n : Int) := by omega
      have hlc : cs.length = n := by rw [HR.out.1]; exact HL.out
      have hc := fun i (hi : i < cs.length) c (hc : c < 3) => (hown.cellAt (i * 3 + c) (by omega)).trans (flatC_at mvC_len cs i hi c hc)
      have hf := hown.frozenAt
      have hkl : k < cs.length := by omega
      have hjl : j < cs.length := by omega
      obtain ⟨a, ha⟩ : ∃ a, cs[k] = a := ⟨_, rfl⟩
      obtain ⟨b, hb⟩ : ∃ b, cs[j] = b := ⟨_, rfl⟩
      have a0 : wr.cell? ⟨g, k * 3, none⟩ = some (.int .i64 a.rod) := by have := hc k hkl 0 (by omega); rw [ha] at this; exact this
      have a1 : wr.cell? ⟨g, k * 3 + 1, none⟩ = some (.int .i64 a.part) := by have := hc k hkl 1 (by omega); rw [ha] at this; exact this
      have a2 : wr.cell? ⟨g, k * 3 + 2, none⟩ = some (.int .i64 a.amt) := by have := hc k hkl 2 (by omega); rw [ha] at this; exact this
      have b0 : wr.cell? ⟨g, j * 3, none⟩ = some (.int .i64 b.rod) := by have := hc j hjl 0 (by omega); rw [hb] at this; exact this
      have b1 : wr.cell? ⟨g, j * 3 + 1, none⟩ = some (.int .i64 b.part) := by have := hc j hjl 1 (by omega); rw [hb] at this; exact this
      have b2 : wr.cell? ⟨g, j * 3 + 2, none⟩ = some (.int .i64 b.amt) := by have := hc j hjl 2 (by omega); rw [hb] at this; exact this
      have fa0 := hf (k * 3)
      have fa1 := hf (k * 3 + 1)
      have fa2 := hf (k * 3 + 2)
      have fb0 := hf (j * 3)
      have fb1 := hf (j * 3 + 1)
      have fb2 := hf (j * 3 + 2)
      have n0 : ¬ k = j := by omega
      have n1 : ¬ k * 3 = j * 3 + 1 := by omega
      have n2 : ¬ k * 3 = j * 3 + 2 := by omega
      have n3 : ¬ k * 3 + 1 = j * 3 := by omega
      have n4 : ¬ k * 3 + 2 = j * 3 := by omega
      have HA : Hid (cs[k]? = some a) := Lib.hid (by rw [List.getElem?_eq_getElem hkl, ha])
      have HB : Hid (cs[j]? = some b) := Lib.hid (by rw [List.getElem?_eq_getElem hjl, hb])
      have HLC := Lib.hid hlc
      have HJ := Lib.hid hj'
      clear hj hj' hlc hc hf hown hbt ha hb hkl hjl
      go_wp2_with fail
      go_region
      have hglt : g < wr.heap.size := (HW.out.lt _ rfl).2
      have HN : Hid (((((((wr.setCell ⟨g, k * 3, none⟩ (.int .i64 b.rod)).setCell ⟨g, k * 3 + 1, none⟩ (.int .i64 b.part)).setCell ⟨g, k * 3 + 2, none⟩ (.int .i64 b.amt)).setCell ⟨g, j * 3, none⟩ (.int .i64 a.rod)).setCell ⟨g, j * 3 + 1, none⟩ (.int .i64 a.part)).setCell ⟨g, j * 3 + 2, none⟩ (.int .i64 a.amt)).ownsRow lo 38 3 (.slice (some ⟨g, 0, none⟩) n cap) n (flatC mvC ((cs.set k b).set j a))) := Lib.hid (by
        have h6 := ((((((HW.out.stored (k * 3) (.int .i64 b.rod)).1.stored (k * 3 + 1) (.int .i64 b.part)).1.stored (k * 3 + 2) (.int .i64 b.amt)).1.stored (j * 3) (.int .i64 a.rod)).1.stored (j * 3 + 1) (.int .i64 a.part)).1.stored (j * 3 + 2) (.int .i64 a.amt)).1
        rw [set3C cs k (by rw [HLC.out]; omega) b, set3C (cs.set k b) j (by rw [List.length_set, HLC.out]; omega) a] at h6
        exact h6)
      have HT : Hid (Btw g (g + 1) w ((((((wr.setCell ⟨g, k * 3, none⟩ (.int .i64 b.rod)).setCell ⟨g, k * 3 + 1, none⟩ (.int .i64 b.part)).setCell ⟨g, k * 3 + 2, none⟩ (.int .i64 b.amt)).setCell ⟨g, j * 3, none⟩ (.int .i64 a.rod)).setCell ⟨g, j * 3 + 1, none⟩ (.int .i64 a.part)).setCell ⟨g, j * 3 + 2, none⟩ (.int .i64 a.amt))) := Lib.hid
        ((((((HBT.out.setCell (Nat.le_refl _) (Nat.lt_succ_self _) _).setCell (Nat.le_refl _) (Nat.lt_succ_self _) _).setCell (Nat.le_refl _) (Nat.lt_succ_self _) _).setCell (Nat.le_refl _) (Nat.lt_succ_self _) _).setCell (Nat.le_refl _) (Nat.lt_succ_self _) _).setCell (Nat.le_refl _) (Nat.lt_succ_self _) _)
      have hsz : ((((((wr.setCell ⟨g, k * 3, none⟩ (.int .i64 b.rod)).setCell ⟨g, k * 3 + 1, none⟩ (.int .i64 b.part)).setCell ⟨g, k * 3 + 2, none⟩ (.int .i64 b.amt)).setCell ⟨g, j * 3, none⟩ (.int .i64 a.rod)).setCell ⟨g, j * 3 + 1, none⟩ (.int .i64 a.part)).setCell ⟨g, j * 3 + 2, none⟩ (.int .i64 a.amt)).heap.size = wr.heap.size := by simp
      generalize (((((wr.setCell ⟨g, k * 3, none⟩ (.int .i64 b.rod)).setCell ⟨g, k * 3 + 1, none⟩ (.int .i64 b.part)).setCell ⟨g, k * 3 + 2, none⟩ (.int .i64 b.amt)).setCell ⟨g, j * 3, none⟩ (.int .i64 a.rod)).setCell ⟨g, j * 3 + 1, none⟩ (.int .i64 a.part)).setCell ⟨g, j * 3 + 2, none⟩ (.int .i64 a.amt) = w3 at HN HT hsz ⊢
      have HRS : Hid (RevK ps ((cs.set k b).set j a) (k + 1)) := Lib.hid (by
        have h1 := HL.out
        have h2 := HJ.out
        have := revK_step HR.out (by omega) a b HA.out (by rw [show ps.length - 1 - k = j by omega]; exact HB.out)
        rwa [show ps.length - 1 - k = j by omega] at this)
      clear a0 a1 a2 b0 b1 b2 fa0 fa1 fa2 fb0 fb1 fb2 n0 n1 n2 n3 n4
      have hw1 : IntKind.i64.wrap ((j : Int) - 1) = (j : Int) - 1 := by rw [IntKind.wrap_i64]; omega
      go_wp2_with fail
      go_roundw
      case rel =>
        refine ⟨k + 1, (cs.set k b).set j a, by go_num, ?_, by omega, HRS, World.ownsRow.drew HN.out, Btw.of_below HT.out (Below.refl _ _).drew (by omega)⟩
        have := HJ.out
        rw [show (n : Int) - 1 - ((k + 1 : Nat) : Int) = (j : Int) - 1 by omega]
      case measure => simp [intOf]; omega
    · have hnl : ¬ (k : Int) < (n : Int) - 1 - k := by omega
      have HE : Hid (cs = ps.reverse) := Lib.hid (revK_end HR.out (by rw [HL.out]; omega) (by rw [HL.out]; omega))
      clear hown hbt
      go_wp2_with fail
      go_end0
      exact ⟨rfl, HE.out ▸ HW.out, HBT.out⟩
end Go.Proofs.Ytpdckmhhmgkaaaa
