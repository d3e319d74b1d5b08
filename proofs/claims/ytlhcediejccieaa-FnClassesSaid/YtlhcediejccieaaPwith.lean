/- The model's list in which one pupil is changed. -/
import Derived.Test.YtlhcediejccieaaPclone
namespace Go.Proofs.Ytlhcediejccieaa
set_option linter.unusedVariables false
open Go.RowKit

set_option maxRecDepth 100000 in
set_option maxHeartbeats 3200000 in
theorem l3With_any (v : Value) (ps : List Pu) (w : World) (h : RowsR 5 puC w v ps) (hn : ps.length ≤ 1048576) (k : Nat) (hk : k < ps.length) (c l : Int) :
    Calls Try.prog 42 #[v, .int .i64 k, .int .i64 c, .int .i64 l] w fun e w' => (∃ v', e = .returned v' ∧ w'.ownsRow w.heap.size 38 5 v' ps.length (flatC puC (ps.set k (inCl ps[k] c l)))) ∧ Below w.heap.size w w' := by
  obtain ⟨i0, hi, hz0, hz1, hz2⟩ := info_parts Try.infoPupil
  obtain ⟨a, cp, rfl⟩ := h.form
  obtain ⟨ad, rfl, hc⟩ : ∃ ad, a = some ad ∧ ∀ w', Below w.heap.size w w' → ∀ j u, (flatC puC ps)[j]? = some u → w'.cell? (ad.add j) = some u := by
    rcases h.src puC_len (by omega) with ⟨_, rfl⟩ | h'
    · simp at hk
    · exact h'
  have HC := Lib.hid hc
  have z1 : (0 : Int) ≤ (k : Int) := by omega
  have z2 : (k : Int) < (ps.length : Int) := by omega
  clear hc h
  go_enter Try.func42, Try.ntmps42
  go_wp2_with (at_builtin; refine wpList_append_own _ rfl _ _ 24 rfl w.heap.size 38 i0 (.agg #[.int .i64 0, .string ⟨#[]⟩, .int .i64 0, .int .i64 0, .int .i64 0]) 5 48 Try.underlying24 hi hz0 hz1 hz2 rfl (by decide) _ _ _ rfl (World.ownsRow_made w #[] 0 (Nat.le_refl _) (Nat.zero_le _) (by simp)) ad ps.length cp (flatC puC ps) rfl ?qc1 ?qc2 ?qc3 ?qc4 ?qc5 ?qc6 ?_)
  case qc1 => exact flatC_len puC_len ps
  case qc2 => exact HC.out _ ((Below.refl _ w).alloc (Nat.le_refl _) _)
  case qc3 => exact flatC_one puC_one ps
  case qc4 => unfold maxLen; omega
  case qc5 => omega
  case qc6 => simp
  intro v' w1 hown hgrow hnil
  have hown' : w1.ownsRow w.heap.size 38 5 v' ps.length (flatC puC ps) := by simpa using hown
  have HB := Lib.hid (((Below.refl _ w).alloc (Nat.le_refl _) _).grown hgrow (by simp) (by intro k hk; simp [Value.ownBlock] at hk; omega))
  clear hown hgrow hnil
  obtain ⟨g, cap, rfl⟩ := own_some hown' (by omega)
  have lg : g < w1.heap.size := (hown'.lt g rfl).2
  have HG : Hid (w.heap.size ≤ g) := Lib.hid (hown'.lt g rfl).1
  have hat : ∀ j, j < 5 → w1.cell? ⟨g, k * 5 + j, none⟩ = (puC ps[k])[j]? := fun j hj => by
    rw [← flatC_at puC_len ps k hk j hj]
    exact hown'.cellAt _ (by omega)
  have p0 : w1.cell? ⟨g, k * 5, none⟩ = some (.int .i64 ps[k].id) := hat 0 (by omega)
  have p1 : w1.cell? ⟨g, k * 5 + 1, none⟩ = some (.string ps[k].name) := hat 1 (by omega)
  have p2 : w1.cell? ⟨g, k * 5 + 2, none⟩ = some (.int .i64 ps[k].born) := hat 2 (by omega)
  have p3 : w1.cell? ⟨g, k * 5 + 3, none⟩ = some (.int .i64 ps[k].cls) := hat 3 (by omega)
  have p4 : w1.cell? ⟨g, k * 5 + 4, none⟩ = some (.int .i64 ps[k].lvl) := hat 4 (by omega)
  have f0 : w1.frozen? ⟨g, k * 5, none⟩ = false := hown'.frozenAt _
  have f1 : w1.frozen? ⟨g, k * 5 + 1, none⟩ = false := hown'.frozenAt _
  have f2 : w1.frozen? ⟨g, k * 5 + 2, none⟩ = false := hown'.frozenAt _
  have f3 : w1.frozen? ⟨g, k * 5 + 3, none⟩ = false := hown'.frozenAt _
  have f4 : w1.frozen? ⟨g, k * 5 + 4, none⟩ = false := hown'.frozenAt _
  have HO := Lib.hid hown'
  have hne : g ≠ w1.heap.size := by omega
  clear hat hown'
  go_wp2_with fail
  go_ret
  refine ⟨⟨_, rfl, ?_⟩, (((((HB.out.setCell (p := ⟨g, k * 5, none⟩) HG.out _).setCell (p := ⟨g, k * 5 + 1, none⟩) HG.out _).setCell (p := ⟨g, k * 5 + 2, none⟩) HG.out _).setCell (p := ⟨g, k * 5 + 3, none⟩) HG.out _).setCell (p := ⟨g, k * 5 + 4, none⟩) HG.out _).alloc (by simpa using HB.out.size) _⟩
  have ho := (((((HO.out.stored (k * 5) (.int .i64 ps[k].id)).1.stored (k * 5 + 1) (.string ps[k].name)).1.stored (k * 5 + 2) (.int .i64 ps[k].born)).1.stored (k * 5 + 3) (.int .i64 c)).1.stored (k * 5 + 4) (.int .i64 l)).1.alloc (.cells #[.int .i64 ps[k].id, .string ps[k].name, .int .i64 ps[k].born, .int .i64 c, .int .i64 l] 38)
  exact own_eq ho (puC_set ps k hk (inCl ps[k] c l))
end Go.Proofs.Ytlhcediejccieaa
