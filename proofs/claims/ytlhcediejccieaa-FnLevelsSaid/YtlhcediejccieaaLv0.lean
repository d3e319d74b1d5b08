/- What the law FnLevels asks of placing all pupils: how many are left, and that placing again changes nothing. -/
import Derived.Test.YtlhcediejccieaaPplace
import Derived.Test.YtlhcediejccieaaPin
namespace Go.Proofs.Ytlhcediejccieaa
set_option linter.unusedVariables false
open Go.RowKit
set_option linter.unusedSimpArgs false

def stT (c : Int) (t : Int × Int × Int) (p : Pu) : Int × Int × Int := if p.cls = c then (t.1 + 1, (if t.2.1 < p.lvl then t.2.1 else p.lvl), (if p.lvl < t.2.2 then t.2.2 else p.lvl)) else t
theorem st_mono (c : Int) : ∀ (A B : List Pu) (_ : A.length = B.length) (_ : ∀ j (h1 : j < A.length) (h2 : j < B.length), A[j].cls = c → B[j].cls = c ∧ B[j].lvl = A[j].lvl) (a b : Int × Int × Int), a.1 ≤ b.1 → b.2.1 ≤ a.2.1 → a.2.2 ≤ b.2.2 →
    (A.foldl (stT c) a).1 ≤ (B.foldl (stT c) b).1 ∧ (B.foldl (stT c) b).2.1 ≤ (A.foldl (stT c) a).2.1 ∧ (A.foldl (stT c) a).2.2 ≤ (B.foldl (stT c) b).2.2 := by
  intro A
  induction A with
  | nil =>
    intro B hl _ a b h1 h2 h3
    have : B = [] := List.length_eq_zero_iff.1 hl.symm
    subst this
    exact ⟨h1, h2, h3⟩
  | cons p A ih =>
    intro B hl h a b h1 h2 h3
    cases B with
    | nil => simp at hl
    | cons q B =>
      have h0 := h 0 (by simp) (by simp)
      simp only [List.getElem_cons_zero] at h0
      have hs : ∀ j (h1 : j < A.length) (h2 : j < B.length), A[j].cls = c → B[j].cls = c ∧ B[j].lvl = A[j].lvl := fun j k1 k2 => by
        have := h (j + 1) (by simpa using k1) (by simpa using k2)
        simpa only [List.getElem_cons_succ] using this
      rw [List.foldl_cons, List.foldl_cons]
      refine ih B (by simpa using hl) hs _ _ ?_ ?_ ?_
      all_goals
        unfold stT
        by_cases hp : p.cls = c
        · obtain ⟨e1, e2⟩ := h0 hp
          rw [if_pos hp, if_pos e1]
          simp only [e2]
          (repeat' split) <;> omega
        · rw [if_neg hp]
          split
          · simp only
            (repeat' split) <;> omega
          · assumption
theorem okCl_mono {c : Int} {A B : List Pu} (hl : A.length = B.length) (h : ∀ j (h1 : j < A.length) (h2 : j < B.length), A[j].cls = c → B[j].cls = c ∧ B[j].lvl = A[j].lvl) (hb : okCl c B) : okCl c A := by
  obtain ⟨h1, h2, h3⟩ := st_mono c A B hl h (0, 10, 0) (0, 10, 0) (Int.le_refl _) (Int.le_refl _) (Int.le_refl _)
  have e1 : stP c A = A.foldl (stT c) (0, 10, 0) := rfl
  have e2 : stP c B = B.foldl (stT c) (0, 10, 0) := rfl
  unfold okCl at hb ⊢
  rw [e1]
  rw [e2] at hb
  omega
/-- The classes that could be, of those from 1 to n. -/
theorem clsF_iff {ps : List Pu} {k : Nat} {hk : k < ps.length} : ∀ {n : Nat} {xs : List Int}, ClsF ps k hk n xs → (∀ x ∈ xs, 1 ≤ x ∧ x ≤ (n : Int)) ∧ ∀ c : Int, 1 ≤ c → c ≤ (n : Int) → (c ∈ xs ↔ okL (put ps k hk c))
  | 0, xs, h => by
    have e : xs = [] := h
    subst e
    exact ⟨(fun x hx => by cases hx), (fun c h1 h2 => by omega)⟩
  | n + 1, xs, ⟨ys, h1, h2⟩ => by
    obtain ⟨i1, i2⟩ := clsF_iff h1
    rcases h2 with ⟨ho, rfl⟩ | ⟨ho, rfl⟩
    · refine ⟨fun x hx => ?_, fun c c1 c2 => ?_⟩
      · rcases List.mem_append.1 hx with h | h
        · have := i1 x h; omega
        · rw [List.mem_singleton.1 h]; omega
      · by_cases e : c = (n : Int) + 1
        · subst e; simp [ho]
        · rw [← i2 c c1 (by omega), List.mem_append, List.mem_singleton]
          exact ⟨fun h => h.resolve_right e, .inl⟩
    · refine ⟨fun x hx => by have := i1 x hx; omega, fun c c1 c2 => ?_⟩
      by_cases e : c = (n : Int) + 1
      · subst e
        exact ⟨fun h => by have := i1 _ h; omega, fun h => absurd h ho⟩
      · exact i2 c c1 (by omega)
/-- B is A, in which some without a class have one. -/
def ExtP (A B : List Pu) : Prop := A.length = B.length ∧ ∀ j (h1 : j < A.length) (h2 : j < B.length), B[j] = inCl A[j] B[j].cls A[j].lvl ∧ (A[j].cls ≠ 0 → B[j].cls = A[j].cls)
theorem ExtP.refl (A : List Pu) : ExtP A A := ⟨rfl, fun _ _ _ => ⟨rfl, fun _ => rfl⟩⟩
theorem ExtP.trans {A B C : List Pu} (h : ExtP A B) (g : ExtP B C) : ExtP A C := by
  refine ⟨h.1.trans g.1, fun j h1 h2 => ?_⟩
  have hj : j < B.length := by rw [← h.1]; exact h1
  obtain ⟨a1, a2⟩ := h.2 j h1 hj
  obtain ⟨b1, b2⟩ := g.2 j hj h2
  refine ⟨?_, fun hc => ?_⟩
  · rw [b1, a1]; rfl
  · have e := a2 hc
    rw [b2 (by rw [e]; exact hc), e]
theorem put_at (ps : List Pu) (k : Nat) (hk : k < ps.length) (c : Int) (j : Nat) (h : j < (put ps k hk c).length) (hj : j < ps.length) : (put ps k hk c)[j] = if k = j then inCl ps[k] c ps[k].lvl else ps[j] := by
  simp only [put, List.getElem_set]
theorem ext_put {ps : List Pu} {k : Nat} (hk : k < ps.length) (c : Int) (h0 : ps[k].cls = 0) : ExtP ps (put ps k hk c) := by
  refine ⟨(put_len ps k hk c).symm, fun j h1 h2 => ?_⟩
  rw [put_at ps k hk c j h2 h1]
  by_cases e : k = j
  · subst e
    rw [if_pos rfl]
    exact ⟨rfl, fun h => absurd h0 h⟩
  · rw [if_neg e]
    exact ⟨rfl, fun _ => rfl⟩
/-- What a step leaves to the end. -/
theorem plcF_last {ps : List Pu} (ho : okL ps) : ∀ {m i out n}, PlcF ps (i + m) out n → ∃ oi ni, PlcF ps i oi ni ∧ ExtP oi out ∧ ∀ j (h1 : j < oi.length) (h2 : j < out.length), j < i → out[j] = oi[j]
  | 0, i, out, n, h => ⟨out, n, h, ExtP.refl _, fun _ _ _ _ => rfl⟩
  | m + 1, i, out', n', ⟨out, n, hp, hi, hc⟩ => by
    obtain ⟨oi, ni, g1, g2, g3⟩ := plcF_last ho hp
    rcases hc with ⟨_, rfl, rfl⟩ | ⟨h0, xs, hx, ⟨_, rfl, rfl⟩ | ⟨c, rest, rfl, rfl, rfl⟩⟩
    · exact ⟨oi, ni, g1, g2, g3⟩
    · exact ⟨oi, ni, g1, g2, g3⟩
    · refine ⟨oi, ni, g1, g2.trans (ext_put hi c h0), fun j h1 h2 hj => ?_⟩
      have hj2 : j < out.length := by rw [← g2.1]; exact h1
      have key := put_at out (i + m) hi c j h2 hj2
      rw [if_neg (by omega)] at key
      exact key.trans (g3 j h1 hj2 hj)
theorem zero_snoc {out : List Pu} {i : Nat} (h : i < out.length) (h0 : out[i].cls = 0) : (memC 0 (out.take (i + 1))).length = (memC 0 (out.take i)).length + 1 := by rw [memC_yes 0 out i h h0]; simp
/-- How many are left without a class. -/
theorem plcF_zero {ps : List Pu} (ho : okL ps) : ∀ {i out n}, PlcF ps i out n → n = (memC 0 (out.take i)).length
  | 0, _, _, ⟨h1, h2⟩ => by subst h2; simp [memC]
  | i + 1, out', n', ⟨out, n, hp, h, hc⟩ => by
    have ih := plcF_zero ho hp
    rcases hc with ⟨h0, rfl, rfl⟩ | ⟨h0, xs, hx, ⟨_, rfl, rfl⟩ | ⟨c, rest, rfl, rfl, rfl⟩⟩
    · rw [memC_no 0 _ i h h0]; exact ih
    · rw [zero_snoc h h0, ih]
    · have hc1 := (clsF_iff hx).1 c (by simp)
      have hl := put_len out i h c
      have h2 : i < (put out i h c).length := by omega
      have e : (put out i h c)[i] = inCl out[i] c out[i].lvl := by rw [put_at out i h c i h2 h, if_pos rfl]
      rw [memC_no 0 _ i h2 (by rw [e]; show ¬ c = 0; omega)]
      have e2 : (put out i h c).take i = out.take i := by unfold put; exact List.take_set_of_le (Nat.le_refl _)
      rw [e2]; exact ih
theorem okL_put {A B : List Pu} {i : Nat} (hA : okL A) (he : ExtP A B) (h1 : i < A.length) (h2 : i < B.length) (h0 : A[i].cls = 0) {c : Int} (hc : 1 ≤ c ∧ c ≤ 9) (hB : okL (put B i h2 c)) : okL (put A i h1 c) := by
  have lA := put_len A i h1 c
  have lB := put_len B i h2 c
  refine ⟨fun j hj => ?_, fun d d1 d2 => ?_, by rw [lA]; exact hA.2.2⟩
  · have hjA : j < A.length := by omega
    obtain ⟨p1, p2⟩ := hA.1 j hjA
    refine ⟨?_, fun hpos => ?_⟩
    · rw [put_at A i h1 c j hj hjA]
      by_cases e : i = j
      · subst e; rw [if_pos rfl]
        exact ⟨p1.1, p1.2.1, p1.2.2.1, ⟨by show 0 ≤ c; omega, by show c ≤ 9; omega⟩, p1.2.2.2.2⟩
      · rw [if_neg e]; exact p1
    · have hq := p2 hpos
      rw [put_at A i h1 c j hj hjA, put_at A i h1 c (j - 1) (by omega) (by omega)]
      have e1 : (if i = j - 1 then inCl A[i] c A[i].lvl else A[j - 1]).id = (A[j - 1]'(by omega)).id := by
        by_cases e : i = j - 1
        · subst e; rw [if_pos rfl]; rfl
        · rw [if_neg e]
      have e2 : (if i = j then inCl A[i] c A[i].lvl else A[j]).id = A[j].id := by
        by_cases e : i = j
        · subst e; rw [if_pos rfl]; rfl
        · rw [if_neg e]
      rw [e1, e2]; exact hq
  · by_cases hd : d = c
    · subst hd
      refine okCl_mono (by rw [lA, lB, he.1]) (fun j k1 k2 hcl => ?_) (hB.2.1 d d1 d2)
      have jA : j < A.length := by omega
      have jB : j < B.length := by omega
      rw [put_at A i h1 d j k1 jA] at hcl ⊢
      rw [put_at B i h2 d j k2 jB]
      obtain ⟨x1, x2⟩ := he.2 j jA jB
      by_cases e : i = j
      · subst e
        rw [if_pos rfl, if_pos rfl]
        exact ⟨rfl, by rw [x1]; rfl⟩
      · rw [if_neg e] at hcl ⊢
        rw [if_neg e]
        exact ⟨by rw [x2 (by omega)]; exact hcl, by rw [x1]; rfl⟩
    · refine okCl_mono lA (fun j k1 k2 hcl => ?_) (hA.2.1 d d1 d2)
      rw [put_at A i h1 c j k1 k2] at hcl ⊢
      by_cases e : i = j
      · subst e
        rw [if_pos rfl] at hcl
        exact absurd hcl.symm hd
      · rw [if_neg e] at hcl ⊢
        exact ⟨hcl, rfl⟩
/-- Placing again changes nothing. -/
theorem plcF_again {ps : List Pu} (ho : okL ps) {out : List Pu} {n : Nat} (h : PlcF ps ps.length out n) : ∀ i, i ≤ out.length → PlcF out i out (memC 0 (out.take i)).length
  | 0, _ => ⟨rfl, by simp [memC]⟩
  | i + 1, hi => by
    have hl := (plcF_inv ho h).2.1
    have h2 : i < out.length := hi
    refine ⟨out, _, plcF_again ho h i (by omega), h2, ?_⟩
    by_cases h0 : out[i].cls = 0
    · refine .inr ⟨h0, [], ?_, .inl ⟨rfl, rfl, zero_snoc h2 h0⟩⟩
      obtain ⟨xs, hx⟩ := clsF_ex out i h2 9
      have hnil : xs = [] := by
        refine List.eq_nil_iff_forall_not_mem.2 fun c hc => ?_
        have hcb := (clsF_iff hx).1 c hc
        have hok := ((clsF_iff hx).2 c hcb.1 hcb.2).1 hc
        obtain ⟨m, hm⟩ : ∃ m, ps.length = (i + 1) + m := ⟨ps.length - (i + 1), by omega⟩
        rw [hm] at h
        obtain ⟨oi, ni, g1, g2, g3⟩ := plcF_last ho h
        obtain ⟨o1, n1, p1, q1, q2⟩ := g1
        have hli : i < oi.length := by rw [g2.1]; exact h2
        have e0 := g3 i hli h2 (by omega)
        rcases q2 with ⟨z0, rfl, _⟩ | ⟨z0, ys, hy, ⟨rfl, rfl, _⟩ | ⟨c', rest, rfl, rfl, _⟩⟩
        · rw [e0] at h0; exact z0 h0
        · have hA := (plcF_inv ho p1).1
          have hno := (clsF_iff hy).2 c hcb.1 hcb.2
          exact absurd (hno.2 (okL_put hA g2 q1 h2 z0 ⟨hcb.1, hcb.2⟩ hok)) (by simp)
        · have hc' := (clsF_iff hy).1 c' (by simp)
          rw [e0, put_at o1 i q1 c' i hli q1, if_pos rfl] at h0
          have : c' = 0 := h0
          omega
      rw [hnil] at hx
      exact hx
    · exact .inl ⟨h0, rfl, by rw [memC_no 0 out i h2 h0]⟩
end Go.Proofs.Ytlhcediejccieaa
