/- A list of pupils copied by the library; an element's class, its level set. -/
import Derived.Test.YtlhcediejccieaaPupils
import Derived.Test.YtlhcediejccieaaKa
import Derived.Lib.SliceRun
namespace Go.Proofs.Ytlhcediejccieaa
set_option linter.unusedVariables false
open Go.RowKit

theorem puC_one (p : Pu) : ∀ u ∈ puC p, u.oneCell' = true := by intro u hu; simp [puC] at hu; rcases hu with rfl | rfl | rfl | rfl | rfl <;> rfl
set_option maxRecDepth 100000 in
set_option maxHeartbeats 1600000 in
theorem clonePu_any (v : Value) (ps : List Pu) (w : World) (h : RowsR 5 puC w v ps) (hn : ps.length ≤ 1048576) :
    Calls Try.prog 43 #[v] w fun e w' => (∃ v', e = .returned v' ∧ w'.ownsRow w.heap.size 38 5 v' ps.length (flatC puC ps)) ∧ Below w.heap.size w w' := by
  obtain ⟨i0, hi, hz0, hz1, hz2⟩ := info_parts Try.infoPupil
  obtain ⟨a, c, rfl⟩ := h.form
  have q22 : ∀ (w : World) (a : Option Addr) (n c n' c' : Nat), (binOp .eql 24 (.slice a n c) (.slice none n' c')).run Try.prog w = .ok (.bool a.isNone) w := fun w a n c n' c' => Lib.run_eql_slice_nil w _ _ a n c n' c' Try.underlying24
  rcases h.src puC_len (by omega) with ⟨rfl, rfl⟩ | ⟨ad, rfl, hc⟩
  · clear h
    go_enter Try.func43, Try.ntmps43
    go_wp2_with fail
    go_ret
    exact ⟨⟨_, rfl, own_nil' _ _ _ _⟩, Below.refl _ _⟩
  · have HC := Lib.hid hc
    clear hc h
    go_enter Try.func43, Try.ntmps43
    go_wp2_with (at_builtin; refine wpList_append_own _ rfl _ _ 24 rfl w.heap.size 38 i0 (.agg #[.int .i64 0, .string ⟨#[]⟩, .int .i64 0, .int .i64 0, .int .i64 0]) 5 48 Try.underlying24 hi hz0 hz1 hz2 rfl (by decide) _ _ _ rfl (World.ownsRow_made w #[] 0 (Nat.le_refl _) (Nat.zero_le _) (by simp)) ad ps.length c (flatC puC ps) rfl ?qc1 ?qc2 ?qc3 ?qc4 ?qc5 ?qc6 ?_)
    case qc1 => exact flatC_len puC_len ps
    case qc2 => exact HC.out _ ((Below.refl _ w).alloc (Nat.le_refl _) _)
    case qc3 => exact flatC_one puC_one ps
    case qc4 => unfold maxLen; omega
    case qc5 => omega
    case qc6 => simp
    intro v' w1 hown hgrow hnil
    have HO := Lib.hid hown
    have HB := Lib.hid (((Below.refl _ w).alloc (Nat.le_refl _) _).grown hgrow (by simp) (by intro k hk; simp [Value.ownBlock] at hk; omega))
    clear hown hgrow hnil
    go_wp2
    go_ret
    exact ⟨⟨v', rfl, by simpa using HO.out⟩, HB.out⟩

theorem puC_set (ps : List Pu) (k : Nat) (hk : k < ps.length) (p : Pu) : (((((flatC puC ps).set (k * 5) (.int .i64 p.id)).set (k * 5 + 1) (.string p.name)).set (k * 5 + 2) (.int .i64 p.born)).set (k * 5 + 3) (.int .i64 p.cls)).set (k * 5 + 4) (.int .i64 p.lvl) = flatC puC (ps.set k p) := by
  have hx := flatC_len puC_len ps
  refine flatC_setf puC_len (by omega) _ ps k p (by simp only [List.length_set]; exact hx) (fun i hi j hj e => ?_) (fun _ j hj => ?_)
  · rw [List.getElem?_set_ne (by omega), List.getElem?_set_ne (by omega), List.getElem?_set_ne (by omega), List.getElem?_set_ne (by omega), List.getElem?_set_ne (by omega)]
    exact flatC_at puC_len ps i hi j hj
  · have hj' : j = 0 ∨ j = 1 ∨ j = 2 ∨ j = 3 ∨ j = 4 := by omega
    rcases hj' with rfl | rfl | rfl | rfl | rfl
    · simp only [Nat.add_zero]
      rw [List.getElem?_set_ne (by omega), List.getElem?_set_ne (by omega), List.getElem?_set_ne (by omega), List.getElem?_set_ne (by omega), List.getElem?_set_self (by (try simp only [List.length_set]); omega)]; rfl
    · rw [List.getElem?_set_ne (by omega), List.getElem?_set_ne (by omega), List.getElem?_set_ne (by omega), List.getElem?_set_self (by (try simp only [List.length_set]); omega)]; rfl
    · rw [List.getElem?_set_ne (by omega), List.getElem?_set_ne (by omega), List.getElem?_set_self (by (try simp only [List.length_set]); omega)]; rfl
    · rw [List.getElem?_set_ne (by omega), List.getElem?_set_self (by (try simp only [List.length_set]); omega)]; rfl
    · rw [List.getElem?_set_self (by (try simp only [List.length_set]); omega)]; rfl
/-- A pupil in another class, with another level. -/
def inCl (p : Pu) (c l : Int) : Pu := { p with cls := c, lvl := l }
theorem puC_cls (p : Pu) (c : Int) : puC (inCl p c p.lvl) = (puC p).set 3 (.int .i64 c) := rfl
theorem puC_lvl (p : Pu) (l : Int) : puC (inCl p p.cls l) = (puC p).set 4 (.int .i64 l) := rfl
end Go.Proofs.Ytlhcediejccieaa
