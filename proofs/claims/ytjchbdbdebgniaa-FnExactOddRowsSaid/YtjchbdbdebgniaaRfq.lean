/- A slice that grows in a round of a range over a function. -/
import Derived.Test.YtjchbdbdebgniaaRfp
import Derived.Test.YtjchbdbdebgniaaKa
namespace Go.Proofs.Ytjchbdbdebgniaa
set_option linter.unusedVariables false
open Go.RowKit

theorem stabP_own {α : Type} {B B1 B2 Bs n0 : Nat} {t e : TypeId} {size : Nat} {w : World} (hBs : B1 ≤ Bs ∧ Bs < B2) (hn : n0 ≤ w.heap.size) (hB : n0 ≤ B) (k : List α → Nat) (f : List α → List Value) :
    StabP B B1 B2 Bs (fun (pre : List α) W => (∃ v, Boxed W Bs t v ∧ W.ownsRow n0 e size v (k pre) (f pre)) ∧ Below n0 w W) := by
  rintro s X Y row ⟨⟨v, hv, hr⟩, hb⟩ hg hrow
  have off : ∀ q, Mine B1 B2 Bs X q → (∃ c ty fr, X.heap[q]? = some (.cells c ty fr)) → some q ≠ row := by
    rintro q hq ⟨c, ty, fr, ho⟩ e
    obtain ⟨_, o, h1, h2⟩ := hrow q e.symm
    rw [ho] at h1; injection h1 with h1; subst h1
    rcases h2 with h2 | h2
    · cases h2
    · exact h2 hq
  have hv' : Boxed Y Bs t v := hv.kept hg (off Bs (.inl hBs) ⟨_, _, _, hv⟩)
  refine ⟨⟨v, hv', hr.kept hg ?_⟩, hb.grown hg (Nat.le_trans hn hb.size) (fun q e => Nat.le_trans hB (hrow q e).1)⟩
  rcases hr.2 with ⟨rfl, _⟩ | ⟨g, cap, cur, rfl, _, hgb, _⟩
  · exact .inl rfl
  · exact .inr (off g (.inr ⟨0, _, hv.cell, rfl⟩) ⟨_, _, _, hgb⟩)
theorem stabP_ownG {α : Type} {B B1 B2 Bs n0 : Nat} {t e : TypeId} {size : Nat} {w : World} (hBs : B1 ≤ Bs ∧ Bs < B2) (hn : n0 ≤ w.heap.size) (hB : n0 ≤ B) (k : List α → Nat) (f : List α → List Value) (G : Value → Prop) :
    StabP B B1 B2 Bs (fun (pre : List α) W => (∃ v, Boxed W Bs t v ∧ W.ownsRow n0 e size v (k pre) (f pre) ∧ G v) ∧ Below n0 w W) := by
  rintro s X Y row ⟨⟨v, hv, hr, hG⟩, hb⟩ hg hrow
  have off : ∀ q, Mine B1 B2 Bs X q → (∃ c ty fr, X.heap[q]? = some (.cells c ty fr)) → some q ≠ row := by
    rintro q hq ⟨c, ty, fr, ho⟩ e
    obtain ⟨_, o, h1, h2⟩ := hrow q e.symm
    rw [ho] at h1; injection h1 with h1; subst h1
    rcases h2 with h2 | h2
    · cases h2
    · exact h2 hq
  have hv' : Boxed Y Bs t v := hv.kept hg (off Bs (.inl hBs) ⟨_, _, _, hv⟩)
  refine ⟨⟨v, hv', hr.kept hg ?_, hG⟩, hb.grown hg (Nat.le_trans hn hb.size) (fun q e => Nat.le_trans hB (hrow q e).1)⟩
  rcases hr.2 with ⟨rfl, _⟩ | ⟨g, cap, cur, rfl, _, hgb, _⟩
  · exact .inl rfl
  · exact .inr (off g (.inr ⟨0, _, hv.cell, rfl⟩) ⟨_, _, _, hgb⟩)
theorem StabP.and {α : Type} {B B1 B2 Bs : Nat} {I J : α → World → Prop} (h : StabP B B1 B2 Bs I) (k : StabP B B1 B2 Bs J) : StabP B B1 B2 Bs (fun s W => I s W ∧ J s W) := fun s X Y row hs hg hr => ⟨h s X Y row hs.1 hg hr, k s X Y row hs.2 hg hr⟩
theorem stabP_box {α : Type} {B B1 B2 Bs b : Nat} {t : TypeId} (hb : B1 ≤ b ∧ b < B2) (f : α → Value) : StabP B B1 B2 Bs (fun s W => Boxed W b t (f s)) := by
  rintro s X Y row hv hg hrow
  have hv0 : X.heap[b]? = some (.cells #[f s] t (0, 0)) := hv
  refine hv.kept hg fun e => ?_
  obtain ⟨_, o, h1, h2⟩ := hrow b e.symm
  rw [hv0] at h1; injection h1 with h1; subst h1
  rcases h2 with h2 | h2
  · cases h2
  · exact h2 (.inl hb)
/-- New blocks alone. -/
theorem KeepP.below {B1 B2 Bs : Nat} {W W' : World} (hB : Bs < W.heap.size) (h : Below W.heap.size W W') : KeepP B1 B2 Bs W W' :=
  KeepP.of_grown (row := none) hB ⟨h.os, h.tape, h.output, h.size, fun k hk _ => h.block k hk⟩ (fun _ e => by cases e) (by simp)
theorem keepsFrom_below {B : Nat} {W W' : World} (h : Below W.heap.size W W') : KeepsFrom B W W' := ⟨h.size, fun k o _ hk _ => (h.block k (heap_lt hk)).trans hk⟩
/-- The round's step: a literal is laid, appended to the slice in the variable, and the variable is set. -/
theorem keepP_appended {W w1 : World} {B1 B2 Bs n0 : Nat} {t e : TypeId} {size k m : Nat} {v v' : Value} {xs ys : List Value} {tmp : Obj} (hBs : B1 ≤ Bs ∧ Bs < B2) (hv : Boxed W Bs t v) (hte : t ≠ e) (hrow : W.ownsRow n0 e size v k xs)
    (hown : w1.ownsRow n0 e size v' m ys) (hg : (W.alloc tmp).grownBy w1 v.ownBlock) (hat : v'.ownBlock = v.ownBlock ∨ v'.ownBlock = some (W.alloc tmp).heap.size) : KeepP B1 B2 Bs W (w1.setCell ⟨Bs, 0, none⟩ v') := by
  have hlt := hv.lt
  have hs1 := hg.size
  have hsz : (W.alloc tmp).heap.size = W.heap.size + 1 := by simp
  have hv1 : Boxed w1 Bs t v := (hv.alloc tmp).kept hg (hv.not_row hte hrow)
  have hvs : Boxed (w1.setCell ⟨Bs, 0, none⟩ v') Bs t v' := hv1.set v'
  have mineW : ∀ q, v.ownBlock = some q → Mine B1 B2 Bs W q := fun q hq => .inr ⟨0, v, hv.cell, hq⟩
  have mineF : ∀ q, Mine B1 B2 Bs (w1.setCell ⟨Bs, 0, none⟩ v') q → (B1 ≤ q ∧ q < B2) ∨ v'.ownBlock = some q := by
    rintro q (hq | ⟨off, u, hu, hq⟩)
    · exact .inl hq
    · rw [boxed_at hvs hu] at hq; exact .inr hq
  refine ⟨by simp; omega, fun q o hq hc hnm => ?_, fun q hq => ?_, fun hW => ⟨hW.1, fun q hq => ?_⟩⟩
  · have hqb : q ≠ Bs := fun e => hnm (by subst e; exact .inl hBs)
    have hql := heap_lt hq
    refine (Below.heap_setCell _ _ _ q (by simpa using hqb)).trans ((hg.block q (by omega) fun e => hnm (mineW q e.symm)).trans ((alloc_old hql).trans hq))
  · rcases mineF q hq with h1 | h1
    · exact .inl (.inl h1)
    · rcases hat with h2 | h2
      · exact .inl (mineW q (h2.symm.trans h1))
      · right; rw [h1] at h2; injection h2 with h2; omega
  · rcases mineF q hq with h1 | h1
    · have := hW.2 q (.inl h1); simp; omega
    · have := (hown.lt q h1).2; simpa using this
end Go.Proofs.Ytjchbdbdebgniaa
