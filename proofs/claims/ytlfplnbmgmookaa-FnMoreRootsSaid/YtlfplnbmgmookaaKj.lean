/- Parts laid as one: Qone, Copyn, Qplay. -/
import Derived.Test.YtlfplnbmgmookaaKz
import Derived.Test.YtlfplnbmgmookaaKa
import Derived.Laws.CopyOwn
import Derived.Test.YtlfplnbmgmookaaKi
import Derived.Test.YtlfplnbmgmookaaKn
import Derived.StillTailTactics
/-! Qone -/
namespace Go.Proofs.Ytlfplnbmgmookaa
set_option linter.unusedVariables false
open Go.RowKit

end Go.Proofs.Ytlfplnbmgmookaa

/-! Copyn -/
namespace Go.Proofs.Ytlfplnbmgmookaa
set_option linter.unusedVariables false
open Go.RowKit

theorem run_copy_all {P : Program} (w : World) (base : Nat) (dT sT ty e : TypeId) (i : TypeInfo) (size : Nat) (hu : P.underlying dT = some (.slice e)) (hi : P.info? e = some i) (hsize : i.size = size)
    (g n cap : Nat) (xs : List Value) (hown : w.ownsRow base e size (.slice (some ⟨g, 0, none⟩) n cap) n xs) (oa : Option Addr) (sc : Nat) (cs : List Value) (hl : cs.length = n * size)
    (hsrc : (oa = none ∧ n = 0) ∨ ∃ ad, oa = some ad ∧ ∀ j v, cs[j]? = some v → w.cell? (ad.add j) = some v) (h1 : ∀ v ∈ cs, v.oneCell' = true) :
    ∃ w', (Builtin.copy_ #[dT, sT] ty #[.slice (some ⟨g, 0, none⟩) n cap, .slice oa n sc]).run P w = .ok (goInt n) w' ∧ w'.ownsRow base e size (.slice (some ⟨g, 0, none⟩) n cap) n cs ∧ Btw g (g + 1) w w' := by
  subst hsize
  have hmin : Nat.min n n = n := Nat.min_self n
  rcases hown.2 with ⟨h, _⟩ | ⟨g', cap', cur, h, hbg, hg, hnc, hcm, hcs, htake⟩
  · simp at h
  · simp only [Value.slice.injEq, Option.some.injEq, Addr.mk.injEq, and_true, true_and] at h
    obtain ⟨rfl, rfl⟩ := h
    have hfit : cs.length ≤ cur.size := by rw [hl, hcs]; exact Nat.mul_le_mul_right _ hnc
    have hst := run_storeCells_at P g 0 e cs 0 cur w hg (by omega) h1
    simp only [Nat.zero_add, List.take_zero, List.nil_append] at hst
    refine ⟨w.setRow g (cs ++ cur.toList.drop cs.length).toArray, ?_, ⟨hl, .inr ⟨g, cap, _, rfl, hbg, setRow_heap w g cur _ e _ hg, hnc, hcm, ?_, ?_⟩⟩, ⟨⟨rfl, rfl, rfl, by simp [World.setRow], fun k hk => setRow_other w g k _ (by omega)⟩, fun k h3 h4 => setRow_other w g k _ (by omega)⟩⟩
    · rcases hsrc with ⟨rfl, rfl⟩ | ⟨ad, rfl, hsrc⟩
      · have e0 : cs = [] := List.eq_nil_of_length_eq_zero (by rw [hl]; simp)
        subst e0
        simp at hst
        simp [Builtin.copy_, run_underlying hu, Builtin.lenOf, Builtin.firstCells, sizeOf, typeInfo, hi, hst]
      · have hld := run_loadCells_list (P := P) w ad cs hsrc
        rw [hl] at hld
        simp [Builtin.copy_, run_underlying hu, Builtin.lenOf, Builtin.firstCells, sizeOf, typeInfo, hi, hmin, hld, hst]
    · simp only [List.size_toArray, List.length_append, List.length_drop, Array.length_toList]
      omega
    · rw [← hl]; exact List.take_left
theorem wpList_copy_all {P : Program} {w : World} {ops : Array Oper} {rest : List Oper} {o : Oper} {a : Act} {Q : Exit → Act → World → Prop} (hgd : o.guard = none) (d s : Operand) (dT sT : TypeId)
    (ho : o.op = .call { callee := .builtin .copy, args := #[d, s], argTypes := #[dT, sT] }) (base : Nat) (e : TypeId) (i : TypeInfo) (size : Nat) (hu : P.underlying dT = some (.slice e)) (hi : P.info? e = some i) (hsize : i.size = size)
    (g n cap : Nat) (hd : a.eval d = .slice (some ⟨g, 0, none⟩) n cap) (oa : Option Addr) (sc : Nat) (hs : a.eval s = .slice oa n sc) (xs : List Value) (hown : w.ownsRow base e size (.slice (some ⟨g, 0, none⟩) n cap) n xs)
    (cs : List Value) (hl : cs.length = n * size) (hsrc : (oa = none ∧ n = 0) ∨ ∃ ad, oa = some ad ∧ ∀ j v, cs[j]? = some v → w.cell? (ad.add j) = some v) (h1 : ∀ v ∈ cs, v.oneCell' = true)
    (h : ∀ w', Hid (w'.ownsRow base e size (.slice (some ⟨g, 0, none⟩) n cap) n cs) → Btw g (g + 1) w w' → wpList P ops Q rest (a.put o.dst (goInt n)) w') : wpList P ops Q (o :: rest) a w := by
  refine wpList_plain hgd fun K hK => ?_
  obtain ⟨w', hrun, r1, r2⟩ := run_copy_all (P := P) w base dT sT o.type e i size hu hi hsize g n cap xs hown oa sc cs hl hsrc h1
  unfold Oper.wp
  simp [execOp, ho, resolve, invoke, builtin, hd, hs, hrun, Result.andThen]
  exact hK _ _ (h w' (Lib.hid r1) r2)
end Go.Proofs.Ytlfplnbmgmookaa

/-! Qplay -/
namespace Go.Proofs.Ytlfplnbmgmookaa
set_option linter.unusedVariables false
open Go.RowKit

def pt2 (r : Int × Int) (p : Nat) : Int := if p = 0 then r.1 else r.2
theorem flat_pt (rs : List (Int × Int)) (q p : Nat) (hq : q < rs.length) (hp : p < 2) : (flat rs)[q * 2 + p]? = some (.int .i64 (pt2 rs[q] p)) := by
  obtain ⟨h1, h2⟩ := flat_at rs q hq
  have : p = 0 ∨ p = 1 := by omega
  rcases this with rfl | rfl
  · exact h1
  · exact h2
theorem movF_flat (rs : List (Int × Int)) (q p : Nat) (amt : Int) (hq : q < rs.length) (hp : p < 2) : (flat rs).set (q * 2 + p) (.int .i64 (pt2 rs[q] p + amt)) = flat (movF rs ⟨(q : Int), (p : Int), amt⟩) := by
  have hm : movF rs ⟨(q : Int), (p : Int), amt⟩ = rs.set q (movR rs[q] ⟨(q : Int), (p : Int), amt⟩) := by
    unfold movF
    show rs.set (q : Int).toNat (movR (rs.getD (q : Int).toNat (0, 0)) _) = _
    rw [Int.toNat_natCast, List.getD_eq_getElem?_getD, List.getElem?_eq_getElem hq]; rfl
  rw [hm]
  have hp2 : p = 0 ∨ p = 1 := by omega
  refine flat_of _ _ (by rw [List.length_set, List.length_set, flat_len]) fun j hj => ?_
  rw [List.length_set] at hj
  obtain ⟨f1, f2⟩ := flat_at rs j hj
  have hfl := flat_len rs
  by_cases e : j = q
  · subst e
    rw [List.getElem_set_self]
    rcases hp2 with rfl | rfl
    · exact ⟨by rw [Nat.add_zero, List.getElem?_set_self (by omega)]; rfl, by rw [Nat.add_zero, List.getElem?_set_ne (by omega)]; exact f2⟩
    · exact ⟨by rw [List.getElem?_set_ne (by omega)]; exact f1, by rw [List.getElem?_set_self (by omega)]; rfl⟩
  · rw [List.getElem_set_ne (fun h => e h.symm)]
    exact ⟨by rw [List.getElem?_set_ne (by omega)]; exact f1, by rw [List.getElem?_set_ne (by omega)]; exact f2⟩

end Go.Proofs.Ytlfplnbmgmookaa
