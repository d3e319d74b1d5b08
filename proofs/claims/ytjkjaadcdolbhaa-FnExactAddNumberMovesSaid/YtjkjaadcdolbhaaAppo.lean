/- An append of a slice, whatever it is, nil too, onto a slice that is owned and not nil; where the new slice lies. -/
import Derived.Test.YtjkjaadcdolbhaaKa
import Derived.Deep.AppendSrc
import Derived.Maps.AppendAt
namespace Go.Proofs.Ytjkjaadcdolbhaa
set_option linter.unusedVariables false
open Go.RowKit

theorem wpList_append_rows {P : Program} {w : World} {ops : Array Oper} {rest : List Oper} {o : Oper} {a : Act} {Q : Exit → Act → World → Prop} (hgd : o.guard = none) (s x : Operand) (t : TypeId)
    (ho : o.op = .call { callee := .builtin .append, args := #[s, x], argTypes := #[t, t] }) (base : Nat) (e : TypeId) (i : TypeInfo) (z : Value) (size bytes : Nat) (ht : P.underlying t = some (.slice e)) (hi : P.info? e = some i) (hz : i.zero = some z)
    (hsize : i.size = size) (hby : i.bytes = bytes) (hzs : z.cells.size = size) (hsz : 0 < size) {α : Type} {cells : α → List Value} (hc : ∀ p, (cells p).length = size) (h1 : ∀ p, ∀ u ∈ cells p, u.oneCell' = true)
    (b n c : Nat) (xs : List Value) (hs : a.eval s = .slice (some ⟨b, 0, none⟩) n c) (hown : w.ownsRow base e size (.slice (some ⟨b, 0, none⟩) n c) n xs) (oa : Option Addr) (cp : Nat) (ps : List α) (hx : a.eval x = .slice oa ps.length cp)
    (hsrc : (oa = none ∧ ps = []) ∨ ∃ ad, oa = some ad ∧ ∀ j u, (flatC cells ps)[j]? = some u → w.cell? (ad.add j) = some u)
    (h63 : n + ps.length ≤ maxLen) (hbytes : (n + ps.length) * bytes ≤ 140737488355328) (hbase : base ≤ w.heap.size)
    (h : ∀ g c' w', w'.ownsRow base e size (.slice (some ⟨g, 0, none⟩) (n + ps.length) c') (n + ps.length) (xs ++ flatC cells ps) → w.grownBy w' (some b) → (g = b ∨ g = w.heap.size) → wpList P ops Q rest (a.put o.dst (.slice (some ⟨g, 0, none⟩) (n + ps.length) c')) w') : wpList P ops Q (o :: rest) a w := by
  rcases hsrc with ⟨rfl, rfl⟩ | ⟨ad, rfl, hcell⟩
  · have hnc : n ≤ c := by
      rcases hown.2 with ⟨h0, _⟩ | ⟨g, cap, cur, h0, _, _, hnc, _⟩
      · simp at h0
      · injection h0 with _ _ h2; omega
    refine wpList_plain hgd fun K hK => ?_
    have hrun := run_append_room_src (P := P) w t t o.type e i ht hi b 0 n c (.slice none 0 cp) 0 [] (Src.ofNil w ht cp) (by omega) (fun j hj => absurd hj (by simp)) (fun j hj => absurd hj (by simp))
    have e1 : w.setCells b (0 + n * i.size) [] = w := by simp [World.setCells]
    rw [e1] at hrun
    unfold Oper.wp
    simp [execOp, ho, resolve, invoke, builtin, hs, hx, hrun, Result.andThen]
    have := h b c w (by simpa [flatC] using hown) (World.grownBy.refl w _) (Or.inl rfl)
    exact hK _ _ (by simpa using this)
  · refine wpList_append_own_at _ hgd s x t ho base e i z size bytes ht hi hz hsize hby hzs hsz _ n xs hs hown ad ps.length cp (flatC cells ps) hx (flatC_len hc ps) hcell (flatC_one h1 ps) h63 hbytes hbase ?_
    intro v' w' ho' hg _ hat
    rcases ho'.2 with ⟨h0, _⟩ | ⟨g, cap, cur, rfl, hr⟩
    · subst h0
      simp [Value.ownBlock] at hat
    · refine h g cap w' ho' hg ?_
      rcases hat with hat | hat
      · left; simpa [Value.ownBlock] using hat
      · right; simpa [Value.ownBlock] using hat
end Go.Proofs.Ytjkjaadcdolbhaa
