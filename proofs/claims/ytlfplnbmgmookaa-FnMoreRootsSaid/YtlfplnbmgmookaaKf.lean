/- Parts laid as one: Appo, Qbtw, Adb, Cob. -/
import Derived.Test.YtlfplnbmgmookaaKa
import Derived.Deep.AppendSrc
import Derived.Maps.AppendAt
import Derived.Test.YtlfplnbmgmookaaKz
import Derived.Test.YtlfplnbmgmookaaKn
import Derived.Test.YtlfplnbmgmookaaKd
import Derived.Test.YtlfplnbmgmookaaSet
/-! Appo -/
namespace Go.Proofs.Ytlfplnbmgmookaa
set_option linter.unusedVariables false
open Go.RowKit

theorem wpList_append_rows {P : Program} {w : World} {ops : Array Oper} {rest : List Oper} {o : Oper} {a : Act} {Q : Exit → Act → World → Prop} (hgd : o.guard = none) (s x : Operand) (t : TypeId)
    (ho : o.op = .call { callee := .builtin .append, args := #[s, x], argTypes := #[t, t] }) (base : Nat) (e : TypeId) (i : TypeInfo) (z : Value) (size bytes : Nat) (ht : P.underlying t = some (.slice e)) (hi : P.info? e = some i) (hz : i.zero = some z)
    (hsize : i.size = size) (hby : i.bytes = bytes) (hzs : z.cells.size = size) (hsz : 0 < size) {α : Type} {cells : α → List Value} (hc : ∀ p, (cells p).length = size) (h1 : ∀ p, ∀ u ∈ cells p, u.oneCell' = true)
    (b n c : Nat) (xs : List Value) (hs : a.eval s = .slice (some ⟨b, 0, none⟩) n c) (hown : w.ownsRow base e size (.slice (some ⟨b, 0, none⟩) n c) n xs) (oa : Option Addr) (cp : Nat) (ps : List α) (hx : a.eval x = .slice oa ps.length cp)
    (hsrc : (oa = none ∧ ps = []) ∨ ∃ ad, oa = some ad ∧ ∀ j u, (flatC cells ps)[j]? = some u → w.cell? (ad.add j) = some u)
    (h63 : n + ps.length ≤ maxLen) (hbytes : (n + ps.length) * bytes ≤ 140737488355328) (hbase : base ≤ w.heap.size)
    (h : ∀ g c' w', w'.ownsRow base e size (.slice (some ⟨g, 0, none⟩) (n + ps.length) c') (n + ps.length) (xs ++ flatC cells ps) → w.grownBy w' (some b) → (g = b ∨ g = w.heap.size) → wpList P ops Q rest (a.put o.dst (.slice (some ⟨g, 0, none⟩) (n + ps.length) c')) w') : wpList P ops Q (o :: rest) a w := by
  rcases hsrc with ⟨rfl, rfl⟩ | ⟨ad, rfl, hcell⟩
  · have hnc : n ≤ c := by
      rcases hown.2 with ⟨h0, _⟩ | ⟨g, cap, cur, h0, _, _, hnc, _⟩
      · simp at h0
      · injection h0 with _ _ h2; omega
    refine wpList_plain hgd fun K hK => ?_
    have hrun := run_append_room_src (P := P) w t t o.type e i ht hi b 0 n c (.slice none 0 cp) 0 [] (Src.ofNil w ht cp) (by omega) (fun j hj => absurd hj (by simp)) (fun j hj => absurd hj (by simp))
    have e1 : w.setCells b (0 + n * i.size) [] = w := by simp [World.setCells]
    rw [e1] at hrun
    unfold Oper.wp
    simp [execOp, ho, resolve, invoke, builtin, hs, hx, hrun, Result.andThen]
    have := h b c w (by simpa [flatC] using hown) (World.grownBy.refl w _) (Or.inl rfl)
    exact hK _ _ (by simpa using this)
  · refine wpList_append_own_at _ hgd s x t ho base e i z size bytes ht hi hz hsize hby hzs hsz _ n xs hs hown ad ps.length cp (flatC cells ps) hx (flatC_len hc ps) hcell (flatC_one h1 ps) h63 hbytes hbase ?_
    intro v' w' ho' hg _ hat
    rcases ho'.2 with ⟨h0, _⟩ | ⟨g, cap, cur, rfl, hr⟩
    · subst h0
      simp [Value.ownBlock] at hat
    · refine h g cap w' ho' hg ?_
      rcases hat with hat | hat
      · left; simpa [Value.ownBlock] using hat
      · right; simpa [Value.ownBlock] using hat
end Go.Proofs.Ytlfplnbmgmookaa

/-! Qbtw -/
namespace Go.Proofs.Ytlfplnbmgmookaa
set_option linter.unusedVariables false
open Go.RowKit

end Go.Proofs.Ytlfplnbmgmookaa

/-! Adb -/
namespace Go.Proofs.Ytlfplnbmgmookaa
set_option linter.unusedVariables false
open Go.RowKit

theorem own_box {w : World} {B : Nat} {e : TypeId} {size n : Nat} {v : Value} {xs : List Value} (h : w.ownsRow B e size v n xs) {A : Nat} {cs : Array Value} {T : TypeId} (hb : w.heap[A]? = some (.cells cs T (0, 0))) (hT : T ≠ e) : ∀ g, v.ownBlock = some g → g ≠ A := by
  intro g hg e1
  subst e1
  obtain ⟨cur, hc⟩ := own_heap h hg
  rw [hb] at hc
  injection hc with hc
  injection hc with _ h3 _
  exact hT h3
theorem own_set_box {w : World} {B : Nat} {e : TypeId} {size n : Nat} {v : Value} {xs : List Value} (h : w.ownsRow B e size v n xs) {A : Nat} (hA : ∀ g, v.ownBlock = some g → g ≠ A) (i : Nat) (u : Value) : (w.setCell ⟨A, i, none⟩ u).ownsRow B e size v n xs :=
  own_of_block h fun g hg => Below.heap_setCell w ⟨A, i, none⟩ u g (hA g hg)
section
variable {B : Nat} {w : World} {A : Nat} {up lo : Int} {sv : Value} {mg mc : Nat} {rs : List (Int × Int)} {ms : List Mv} {c k0 k1 k2 k3 : Int}
end
/-- The moves between a frame and the one with a rod set are the rod's. -/
theorem btwL_eq (rs1 rs2 : List (Int × Int)) : ∀ t, (∀ i, 2 * i < t → btw1 i 0 (rs1.getD i (0, 0)) (rs2.getD i (0, 0)) = [] ∧ btw1 i 1 (rs1.getD i (0, 0)) (rs2.getD i (0, 0)) = []) → btwL rs1 rs2 t = []
  | 0, _ => rfl
  | t + 1, h => by
    have ih := btwL_eq rs1 rs2 t (fun i hi => h i (by omega))
    unfold btwL at ih ⊢
    rw [List.range_succ, List.flatMap_append, ih]
    have h2 := h (t / 2) (by omega)
    simp only [List.flatMap_cons, List.flatMap_nil, List.append_nil, List.nil_append]
    rcases Nat.mod_two_eq_zero_or_one t with e | e
    · rw [e]; exact h2.1
    · rw [e]; exact h2.2
theorem btw1_same (i p : Nat) (x : Int × Int) : btw1 i p x x = [] := by unfold btw1; rw [if_pos (by omega)]
theorem btwL_set (rs : List (Int × Int)) (hs : stdF rs) (q : Nat) (hq : q < rs.length) (d : Int) : btwL rs (rs.set q (digR d)) (2 * rs.length) = turnM q (vAt rs q) d := by
  have hv : digR (vAt rs q) = rs[q] := by rw [vAt_in hq]; exact rod_std (hs q hq)
  have hne : ∀ i, i ≠ q → (rs.set q (digR d)).getD i (0, 0) = rs.getD i (0, 0) := fun i hi => by
    rw [List.getD_eq_getElem?_getD, List.getElem?_set_ne (fun e => hi e.symm), ← List.getD_eq_getElem?_getD]
  have key : ∀ k, q + 1 + k ≤ rs.length → btwL rs (rs.set q (digR d)) (2 * (q + 1 + k)) = turnM q (vAt rs q) d := by
    intro k
    induction k with
    | zero =>
      intro _
      have h0 : btwL rs (rs.set q (digR d)) (2 * q) = [] := btwL_eq _ _ _ (fun i hi => by
        rw [hne i (by omega)]; exact ⟨btw1_same _ _ _, btw1_same _ _ _⟩)
      have s1 := btwL_snoc rs (rs.set q (digR d)) q 0 (by omega) hq (by rw [List.length_set]; exact hq)
      have s2 := btwL_snoc rs (rs.set q (digR d)) q 1 (by omega) hq (by rw [List.length_set]; exact hq)
      rw [show 2 * (q + 1 + 0) = 2 * q + 1 + 1 by omega, s2, show 2 * q + 1 = 2 * q + 0 + 1 by omega, s1, Nat.add_zero, h0, List.nil_append, List.getElem_set_self]
      unfold turnM
      rw [hv]
    | succ k ih =>
      intro hk
      have hi : q + 1 + k < rs.length := by omega
      have s1 := btwL_snoc rs (rs.set q (digR d)) (q + 1 + k) 0 (by omega) hi (by rw [List.length_set]; exact hi)
      have s2 := btwL_snoc rs (rs.set q (digR d)) (q + 1 + k) 1 (by omega) hi (by rw [List.length_set]; exact hi)
      have e : (rs.set q (digR d))[q + 1 + k]'(by rw [List.length_set]; exact hi) = rs[q + 1 + k] := List.getElem_set_ne (by omega) _
      rw [show 2 * (q + 1 + (k + 1)) = 2 * (q + 1 + k) + 1 + 1 by omega, s2, show 2 * (q + 1 + k) + 1 = 2 * (q + 1 + k) + 0 + 1 by omega, s1, Nat.add_zero, ih (by omega), e, btw1_same, btw1_same, List.append_nil, List.append_nil]
  have := key (rs.length - (q + 1)) (by omega)
  rwa [show q + 1 + (rs.length - (q + 1)) = rs.length by omega] at this
end Go.Proofs.Ytlfplnbmgmookaa

/-! Cob -/
namespace Go.Proofs.Ytlfplnbmgmookaa
set_option linter.unusedVariables false
open Go.RowKit

theorem cell4r {w : World} {b : Nat} {x0 x1 x2 x3 : Value} {R : List Value} {T : TypeId} (h : w.heap[b]? = some (.cells (x0 :: x1 :: x2 :: x3 :: R).toArray T (0, 0))) :
    w.cell? ⟨b, 0, none⟩ = some x0 ∧ w.cell? ⟨b, 1, none⟩ = some x1 ∧ w.cell? ⟨b, 2, none⟩ = some x2 ∧ w.cell? ⟨b, 3, none⟩ = some x3 ∧ w.frozen? ⟨b, 0, none⟩ = false ∧ w.frozen? ⟨b, 1, none⟩ = false ∧ w.frozen? ⟨b, 2, none⟩ = false ∧ w.frozen? ⟨b, 3, none⟩ = false := by
  simp [World.cell?, World.frozen?, h]
section
variable {B : Nat} {w : World} {A : Nat} {T : TypeId} {R : List Value} {up lo : Int} {sv : Value} {mg mc : Nat} {rs : List (Int × Int)} {ms : List Mv}
end

end Go.Proofs.Ytlfplnbmgmookaa
