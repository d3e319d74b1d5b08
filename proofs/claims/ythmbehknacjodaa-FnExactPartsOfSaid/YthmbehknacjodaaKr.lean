/- Parts laid as one: Rfp, Rfq, Idb, Icl, Ipt. -/
import Derived.Test.YthmbehknacjodaaKa
import Derived.RangeFuncBox
import Derived.RangeFuncNested
import Derived.RangeFuncLeaves
import Derived.Test.YthmbehknacjodaaK9c
import Derived.Shelf.Abstract
import Derived.WalkKit
import Derived.OwnWalkIn
import Derived.TacticsInMore
import Derived.LoopNIn
import Derived.LoopIn
import Derived.Maps.AppendAt
import Derived.Sort.QuietTacIn
import Derived.Test.YthmbehknacjodaaK9a
import Derived.Maps.OwnIn
import Derived.Test.YthmbehknacjodaaKu
/-! Rfp -/
namespace Go.Proofs.Ythmbehknacjodaa
set_option linter.unusedVariables false
open Go.RowKit

/-- A block of the loop that ranges: one of its variables (B1 .. B2 - 1), or the row of the slice that its variable Bs holds. -/
def Mine (B1 B2 Bs : Nat) (W : World) (k : Nat) : Prop := (B1 ≤ k ∧ k < B2) ∨ ∃ off v, W.cell? ⟨Bs, off, none⟩ = some v ∧ v.ownBlock = some k
theorem mine_block {B1 B2 Bs : Nat} {W W' : World} (h : W'.heap[Bs]? = W.heap[Bs]?) (k : Nat) : Mine B1 B2 Bs W' k ↔ Mine B1 B2 Bs W k := by unfold Mine; simp only [World.cell?]; rw [h]
theorem boxed_at {W : World} {B off : Nat} {t : TypeId} {u v : Value} (h : Boxed W B t v) (hu : W.cell? ⟨B, off, none⟩ = some u) : u = v := by
  have h' : W.heap[B]? = some (.cells #[v] t (0, 0)) := h
  simp only [World.cell?, h'] at hu
  match off, hu with
  | 0, hu => simpa using hu.symm
  | n + 1, hu => simp at hu
/-- No block of the loop's lies beyond the heap. -/
def MineIn (B1 B2 Bs : Nat) (W : World) : Prop := (B1 ≤ Bs ∧ Bs < B2) ∧ ∀ k, Mine B1 B2 Bs W k → k < W.heap.size
theorem MineIn.bs {B1 B2 Bs : Nat} {W : World} (h : MineIn B1 B2 Bs W) : Bs < W.heap.size := h.2 _ (.inl h.1)
/-- What a round keeps of the others' cells. -/
structure KeepP (B1 B2 Bs : Nat) (W W' : World) : Prop where
  size : W.heap.size ≤ W'.heap.size
  same : ∀ k o, W.heap[k]? = some o → o.isCells = true → ¬ Mine B1 B2 Bs W k → W'.heap[k]? = some o
  mine : ∀ k, Mine B1 B2 Bs W' k → Mine B1 B2 Bs W k ∨ W.heap.size ≤ k
  within : MineIn B1 B2 Bs W → MineIn B1 B2 Bs W'
theorem heap_lt {W : World} {k : Nat} {o : Obj} (h : W.heap[k]? = some o) : k < W.heap.size := (Array.getElem?_eq_some_iff.1 h).1
theorem KeepP.refl (B1 B2 Bs : Nat) (W : World) : KeepP B1 B2 Bs W W := ⟨Nat.le_refl _, fun _ _ h _ _ => h, fun _ h => .inl h, id⟩
theorem KeepP.trans {B1 B2 Bs : Nat} {A B C : World} (h : KeepP B1 B2 Bs A B) (k : KeepP B1 B2 Bs B C) : KeepP B1 B2 Bs A C := by
  refine ⟨Nat.le_trans h.size k.size, fun i o hi hc hm => ?_, fun i hi => ?_, fun hA => k.within (h.within hA)⟩
  · refine k.same i o (h.same i o hi hc hm) hc fun hB => ?_
    rcases h.mine i hB with h1 | h1
    · exact hm h1
    · have := heap_lt hi; omega
  · rcases k.mine i hi with h1 | h1
    · exact h.mine i h1
    · exact .inr (Nat.le_trans h.size h1)
/-- A step that turns one block alone, no cells, or none. -/
theorem KeepP.of_turn {B1 B2 Bs : Nat} {W : World} (hB : Bs < W.heap.size) {l : Nat} {o : Obj} (o' : Obj) (hl : W.heap[l]? = some o) (ho : o.isCells = false) (hne : l ≠ Bs) : KeepP B1 B2 Bs W (W.putObj l o') := by
  have hs : ∀ k, k ≠ l → (W.putObj l o').heap[k]? = W.heap[k]? := fun k hk => World.putObj_heap_other hk
  have hm := mine_block (B1 := B1) (B2 := B2) (hs Bs (fun e => hne e.symm))
  refine ⟨by simp, fun k p hk hc _ => (hs k fun e => ?_).trans hk, fun k hk => .inl ((hm k).1 hk), fun h => ⟨h.1, fun k hk => by have := h.2 k ((hm k).1 hk); simpa using this⟩⟩
  subst e; rw [hl] at hk; injection hk with hk; subst hk; rw [ho] at hc; cases hc
/-- A step that makes blocks, and turns none that is not the loop's row. -/
theorem KeepP.of_grown {B1 B2 Bs : Nat} {W W' : World} {row : Option Nat} (hB : Bs < W.heap.size) (hg : W.grownBy W' row) (hr : ∀ r, row = some r → Mine B1 B2 Bs W r) (hbs : row ≠ some Bs) : KeepP B1 B2 Bs W W' := by
  have hm := mine_block (B1 := B1) (B2 := B2) (hg.block Bs hB (fun e => hbs e.symm))
  refine ⟨hg.size, fun k o hk _ hmk => (hg.block k (heap_lt hk) fun e => hmk (hr k e.symm)).trans hk, fun k hk => .inl ((hm k).1 hk), fun h => ⟨h.1, fun k hk => Nat.lt_of_lt_of_le (h.2 k ((hm k).1 hk)) hg.size⟩⟩
theorem KeepP.alloc {B1 B2 Bs : Nat} {W : World} (hB : Bs < W.heap.size) (o : Obj) : KeepP B1 B2 Bs W (W.alloc o) := KeepP.of_grown hB (World.grownBy_alloc W o none) (fun _ e => by cases e) (by simp)
theorem KeepP.drew {B1 B2 Bs : Nat} (W : World) : KeepP B1 B2 Bs W W.drew := ⟨Nat.le_refl _, fun _ _ h _ _ => h, fun _ h => .inl h, id⟩
/-- A store into a variable of the loop that is not the slice's. -/
theorem KeepP.set {B1 B2 Bs : Nat} {W : World} {b i : Nat} (v : Value) (hb : B1 ≤ b ∧ b < B2) (hne : b ≠ Bs) : KeepP B1 B2 Bs W (W.setCell ⟨b, i, none⟩ v) := by
  have hm := mine_block (B1 := B1) (B2 := B2) (Below.heap_setCell W ⟨b, i, none⟩ v Bs (fun e => hne e.symm))
  refine ⟨by simp, fun k o hk _ hmk => (Below.heap_setCell W ⟨b, i, none⟩ v k fun e => hmk (by subst e; exact .inl hb)).trans hk, fun k hk => .inl ((hm k).1 hk), fun hW => ⟨hW.1, fun k hk => by have := hW.2 k ((hm k).1 hk); simpa using this⟩⟩
/-- What the loop says of its own blocks abides blocks that are made, blocks that are no cells, and the others' cells. -/
def StabP {β : Type} (B B1 B2 Bs : Nat) (I : β → World → Prop) : Prop :=
  ∀ s W W' row, I s W → W.grownBy W' row → (∀ r, row = some r → B ≤ r ∧ ∃ o : Obj, W.heap[r]? = some o ∧ (o.isCells = false ∨ ¬ Mine B1 B2 Bs W r)) → I s W'
/-- What the ranged function counts on: nothing but its own cells and new blocks. -/
def StabJ {β : Type} (B B1 B2 Bs : Nat) (J : β → World → Prop) : Prop :=
  ∀ s W W' row, J s W → W.grownBy W' row → (∀ r, row = some r → B ≤ r ∧ ∃ o : Obj, W.heap[r]? = some o ∧ o.isCells = true ∧ ¬ Mine B1 B2 Bs W r) → J s W'
theorem StabJ.alloc {β : Type} {B B1 B2 Bs : Nat} {J : β → World → Prop} (h : StabJ B B1 B2 Bs J) {s : β} {W : World} (hs : J s W) (o : Obj) : J s (W.alloc o) := h s W _ none hs (World.grownBy_alloc W o none) (fun r e => by cases e)
theorem StabJ.quiet {β : Type} {B B1 B2 Bs : Nat} {J : β → World → Prop} (h : StabJ B B1 B2 Bs J) {s : β} {W W' : World} (hs : J s W) (hg : W.grownBy W' none) : J s W' := h s W _ none hs hg (fun r e => by cases e)
theorem StabJ.set {β : Type} {B B1 B2 Bs : Nat} {J : β → World → Prop} (h : StabJ B B1 B2 Bs J) {s : β} {W : World} (hs : J s W) {b : Nat} (i : Nat) (v : Value) (hB : B ≤ b) {o : Obj} (ho : W.heap[b]? = some o) (hc : o.isCells = true) (hm : ¬ Mine B1 B2 Bs W b) : J s (W.setCell ⟨b, i, none⟩ v) :=
  h s W _ (some b) hs ⟨rfl, rfl, rfl, by simp, fun k _ hk => Below.heap_setCell _ _ _ k (fun e => hk (by rw [e]))⟩ (fun r e => by cases e; exact ⟨hB, o, ho, hc, hm⟩)
/-- The ranged function gives xs, in order, to whatever loop. -/
def GivesP {α : Type} (F : Fence) (n : Nat) (P : Program) (g : Nat) (lb : Array Value) (encs : α → Array Value) (B1 B2 Bs : Nat) (xs : List α) (w0 : World) : Prop :=
  ∀ (l : Nat) (J : List α → World → Prop) (W : World), Below w0.heap.size w0 W → MineIn B1 B2 Bs W → StabJ W.heap.size B1 B2 Bs J →
    (∀ pre x W1, J pre W1 → pre ++ [x] <+: xs → YieldAt F (n - 1) P l (encs x) W1 fun e W' => e = .returned (.bool true) ∧ J (pre ++ [x]) W' ∧ KeepP B1 B2 Bs W1 W') →
    J [] W → CallsIn F n P g (#[.func (.yield l) #[] #[]] ++ lb) W fun e W' => (∃ v, e = .returned v) ∧ J xs W'
/-- A round's end. -/
def postP {α : Type} (B B1 B2 Bs : Nat) (I : List α → World → Prop) (xs : List α) (W : World) : Exit → Act → World → Prop
  | .normal, _, W' => KeepsFrom B W W' ∧ KeepP B1 B2 Bs W W' ∧ I xs W'
  | _, _, _ => False
variable {F : Fence} {n : Nat} {P : Program}
/-- The loop's law: no round leaves early. -/
theorem range_law {α : Type} {g : Operand} {ps : Array Tmp} {assign body : Code} {Q : Exit → Act → World → Prop} {a : Act} {w : World}
    (hro : F.round = none) (h1 : 1 ≤ n) {gf : Nat} {lb : Array Value} (hg : a.eval g = .func (.func gf) #[] lb) (hFg : F.fn gf) (eg : ∀ args w, (callFunc gf args).run P w = .ok (.enter gf args) w)
    {encs : α → Array Value} {B1 B2 Bs : Nat} {xs : List α} {w0 : World} (hseq : GivesP F (n - 1) P gf lb encs B1 B2 Bs xs w0) (hM : MineIn B1 B2 Bs w) (hb0 : Below w0.heap.size w0 w) (hps : ∀ x, (encs x).size = ps.size)
    (I : List α → World → Prop) (hI : StabP w.heap.size B1 B2 Bs I) (h0 : I [] w) (Ax : α → Act → World → Prop) (hAx : ∀ x a' X l o o', Ax x a' X → w.heap.size ≤ l → X.heap[l]? = some o → o.isCells = false → Ax x a' (X.putObj l o'))
    (hassign : ∀ (l : Nat) (pre : List α) (x : α) (W : World) (K : Act → World → Prop), I pre W → Bs < W.heap.size → (∀ a' W', KeepsFrom w.heap.size W W' → KeepP B1 B2 Bs W W' → I pre W' → Ax x a' W' → K a' W') →
      assign.wpIn (F.inRound l) (n - 1 - 1) P (Exit.then K (fun _ _ _ => False)) { tmps := (ps.zip (encs x)).foldl (fun t (p, v) => t.setIfInBounds p v) a.tmps, defers := [] } W)
    (hbody : ∀ (l : Nat) (pre : List α) (x : α) (a' : Act) (W : World), I pre W → Ax x a' W → pre ++ [x] <+: xs → body.wpIn (F.inRound l) (n - 1 - 1) P (postP w.heap.size B1 B2 Bs I (pre ++ [x]) W) a' W)
    (hdone : ∀ (D : Nat) (W : World), w.heap.size ≤ D → I xs W → W.heap[D]? = some (.deferred (some [])) → Q .normal { a with defers := { target := .collected D, args := #[] } :: a.defers } W) :
    (Code.rangeFunc g ps assign body).wpIn F n P Q a w := by
  have hBs := hM.bs
  have turnI : ∀ (s : List α) (X : World) (l : Nat) (o o' : Obj), I s X → w.heap.size ≤ l → X.heap[l]? = some o → o.isCells = false → I s (X.putObj l o') := fun s X l o o' hs hl ho hc =>
    hI s X _ (some l) hs (grownBy_putObj' X l o') (fun r e => by cases e; exact ⟨hl, o, ho, .inl hc⟩)
  refine wpIn_rangeFunc ?_
  intro fn hfn
  rw [hro]
  -- the loop's two blocks: the calls put off, the record
  let rd : Loop := { state := .ready, pending := none, fn, tmps := a.tmps, params := ps, assign, body, defers := w.heap.size }
  obtain ⟨W1, hW1⟩ : ∃ W1, (w.alloc (.deferred (some []))).alloc (.loop rd) = W1 := ⟨_, rfl⟩
  have hd1 : W1.heap[w.heap.size]? = some (.deferred (some [])) := by rw [← hW1]; exact (alloc_old (by simp)).trans (alloc_at rfl)
  have hr1 : W1.heap[w.heap.size + 1]? = some (.loop rd) := by rw [← hW1]; exact alloc_at (by simp)
  have hsz : W1.heap.size = w.heap.size + 2 := by rw [← hW1]; simp
  have hbW : Below w.heap.size w W1 := by rw [← hW1]; exact ((Below.refl _ w).alloc (Nat.le_refl _) _).alloc (by simp) _
  have hgW : w.grownBy W1 none := by rw [← hW1]; exact ⟨rfl, rfl, rfl, by simp; omega, fun k hk _ => by rw [alloc_old (by simp; omega), alloc_old hk]⟩
  have hI1 : I [] W1 := hI _ w _ none h0 hgW (fun r e => by cases e)
  have hM1 : MineIn B1 B2 Bs W1 := (KeepP.of_grown hBs hgW (fun _ e => by cases e) (by simp)).within hM
  refine ⟨w.heap.size + 1, [{ target := .collected w.heap.size, args := #[] }], W1, { target := .fn (.func gf) lb, args := #[.func (.yield (w.heap.size + 1)) #[] #[]] }, W1, gf, #[.func (.yield (w.heap.size + 1)) #[] #[]] ++ lb, W1, ?_, ?_, ?_, ?_, fun _ => h1, ?_⟩
  · rw [← hW1]; exact run_enterLoop_outer _ _ _ _ _
  · simp only [resolve, hg]; simp [go_sem]
  · intro f' hf'; simp [Target.leads] at hf'; subst hf'; exact hFg
  · simp [invoke, go_sem, eg]
  · refine (hseq (w.heap.size + 1) (fun pre W => I pre W ∧ Bs < W.heap.size ∧ W.heap[w.heap.size + 1]? = some (.loop rd) ∧ W.heap[w.heap.size]? = some (.deferred (some []))) W1 (hb0.trans (hbW.mono hb0.size)) hM1 ?_ ?_ ⟨hI1, by omega, hr1, hd1⟩).mono ?_
    · -- what the function does with its own cells leaves the loop's word standing
      rintro s X Y row ⟨hi, hbs, hl, hd⟩ hgr hrow
      have other : ∀ (k : Nat) (p : Obj), X.heap[k]? = some p → p.isCells = false → Y.heap[k]? = some p := fun k p hk hp => (hgr.block k (heap_lt hk) fun e => by
        obtain ⟨_, o, ho, hc, _⟩ := hrow k e.symm
        rw [hk] at ho; injection ho with ho; subst ho; rw [hp] at hc; cases hc).trans hk
      exact ⟨hI s X Y row hi hgr (fun r e => by obtain ⟨h2, o, ho, _, hm⟩ := hrow r e; exact ⟨by omega, o, ho, .inr hm⟩), Nat.lt_of_lt_of_le hbs hgr.size, other _ _ hl rfl, other _ _ hd rfl⟩
    · -- one round
      rintro pre x W ⟨hi, hbs, hl, hd⟩ hpx
      have hy := run_yield (P := P) (args := encs x) hl (hps x)
      refine ⟨fn, _, assign, body, hy, roundIn_of_wpIn hfn (hassign _ pre x W _ hi hbs ?_)⟩
      intro a' Wa hka hpa hia hax
      have hla := hka.same _ _ (by omega) hl rfl
      have hda := hka.same _ _ (Nat.le_refl _) hd rfl
      have hbsa : Bs < Wa.heap.size := Nat.lt_of_lt_of_le hbs hka.size
      have hlb := heap_lt hla
      refine ⟨_, run_beginRound hla rfl, ?_⟩
      obtain ⟨Wb, hWb⟩ : ∃ Wb, Wa.putObj (w.heap.size + 1) (.loop { rd with state := .busy }) = Wb := ⟨_, rfl⟩
      have hlb' : Wb.heap[w.heap.size + 1]? = some (.loop { rd with state := .busy }) := hWb ▸ World.putObj_heap_same hlb
      have hdb : Wb.heap[w.heap.size]? = some (.deferred (some [])) := hWb ▸ (World.putObj_heap_other (by omega)).trans hda
      have hpb : KeepP B1 B2 Bs Wa Wb := hWb ▸ KeepP.of_turn hbsa _ hla rfl (by omega)
      have hib : I pre Wb := hWb ▸ turnI _ _ _ _ _ hia (by omega) hla rfl
      have haxb : Ax x a' Wb := hWb ▸ hAx _ _ _ _ _ _ hax (by omega) hla rfl
      rw [show Wa.putObj (w.heap.size + 1) (.loop { rd with state := .busy }) = Wb from hWb]
      refine wpIn_mono (hbody _ pre x a' Wb hib haxb hpx) ?_
      rintro e a3 W3 hp
      cases e with
      | normal =>
        obtain ⟨hk3, hp3, hi3⟩ := hp
        have hl3 := hk3.same _ _ (by omega) hlb' rfl
        have hd3 := hk3.same _ _ (Nat.le_refl _) hdb rfl
        have hbs3 : Bs < W3.heap.size := by have h5 := hp3.size; have h6 := hpb.size; omega
        refine ⟨_, _, run_endRound none hl3, rfl, ⟨turnI _ _ _ _ _ hi3 (by omega) hl3 rfl, by simpa using hbs3, ?_, (World.putObj_heap_other (by omega)).trans hd3⟩, hpa.trans (hpb.trans (hp3.trans (KeepP.of_turn hbs3 _ hl3 rfl (by omega))))⟩
        exact World.putObj_heap_same (heap_lt hl3)
      | ret => exact hp.elim
      | exit id => exact hp.elim
      | goto t => exact hp.elim
      | panic c => exact hp.elim
      | outgrown => exact hp.elim
    · -- the function has returned
      rintro e W2 ⟨⟨v, rfl⟩, hi, hbs, hl, hd⟩
      refine ⟨none, _, run_endLoop hl (by simp [rd]), ?_⟩
      exact hdone _ _ (Nat.le_refl _) (turnI _ _ _ _ _ hi (by omega) hl rfl) ((World.putObj_heap_other (by omega)).trans hd)
end Go.Proofs.Ythmbehknacjodaa

/-! Rfq -/
namespace Go.Proofs.Ythmbehknacjodaa
set_option linter.unusedVariables false
open Go.RowKit

theorem stabP_own {α : Type} {B B1 B2 Bs n0 : Nat} {t e : TypeId} {size : Nat} {w : World} (hBs : B1 ≤ Bs ∧ Bs < B2) (hn : n0 ≤ w.heap.size) (hB : n0 ≤ B) (k : List α → Nat) (f : List α → List Value) :
    StabP B B1 B2 Bs (fun (pre : List α) W => (∃ v, Boxed W Bs t v ∧ W.ownsRow n0 e size v (k pre) (f pre)) ∧ Below n0 w W) := by
  rintro s X Y row ⟨⟨v, hv, hr⟩, hb⟩ hg hrow
  have off : ∀ q, Mine B1 B2 Bs X q → (∃ c ty fr, X.heap[q]? = some (.cells c ty fr)) → some q ≠ row := by
    rintro q hq ⟨c, ty, fr, ho⟩ e
    obtain ⟨_, o, h1, h2⟩ := hrow q e.symm
    rw [ho] at h1; injection h1 with h1; subst h1
    rcases h2 with h2 | h2
    · cases h2
    · exact h2 hq
  have hv' : Boxed Y Bs t v := hv.kept hg (off Bs (.inl hBs) ⟨_, _, _, hv⟩)
  refine ⟨⟨v, hv', hr.kept hg ?_⟩, hb.grown hg (Nat.le_trans hn hb.size) (fun q e => Nat.le_trans hB (hrow q e).1)⟩
  rcases hr.2 with ⟨rfl, _⟩ | ⟨g, cap, cur, rfl, _, hgb, _⟩
  · exact .inl rfl
  · exact .inr (off g (.inr ⟨0, _, hv.cell, rfl⟩) ⟨_, _, _, hgb⟩)
theorem stabP_ownG {α : Type} {B B1 B2 Bs n0 : Nat} {t e : TypeId} {size : Nat} {w : World} (hBs : B1 ≤ Bs ∧ Bs < B2) (hn : n0 ≤ w.heap.size) (hB : n0 ≤ B) (k : List α → Nat) (f : List α → List Value) (G : Value → Prop) :
    StabP B B1 B2 Bs (fun (pre : List α) W => (∃ v, Boxed W Bs t v ∧ W.ownsRow n0 e size v (k pre) (f pre) ∧ G v) ∧ Below n0 w W) := by
  rintro s X Y row ⟨⟨v, hv, hr, hG⟩, hb⟩ hg hrow
  have off : ∀ q, Mine B1 B2 Bs X q → (∃ c ty fr, X.heap[q]? = some (.cells c ty fr)) → some q ≠ row := by
    rintro q hq ⟨c, ty, fr, ho⟩ e
    obtain ⟨_, o, h1, h2⟩ := hrow q e.symm
    rw [ho] at h1; injection h1 with h1; subst h1
    rcases h2 with h2 | h2
    · cases h2
    · exact h2 hq
  have hv' : Boxed Y Bs t v := hv.kept hg (off Bs (.inl hBs) ⟨_, _, _, hv⟩)
  refine ⟨⟨v, hv', hr.kept hg ?_, hG⟩, hb.grown hg (Nat.le_trans hn hb.size) (fun q e => Nat.le_trans hB (hrow q e).1)⟩
  rcases hr.2 with ⟨rfl, _⟩ | ⟨g, cap, cur, rfl, _, hgb, _⟩
  · exact .inl rfl
  · exact .inr (off g (.inr ⟨0, _, hv.cell, rfl⟩) ⟨_, _, _, hgb⟩)
theorem StabP.and {α : Type} {B B1 B2 Bs : Nat} {I J : α → World → Prop} (h : StabP B B1 B2 Bs I) (k : StabP B B1 B2 Bs J) : StabP B B1 B2 Bs (fun s W => I s W ∧ J s W) := fun s X Y row hs hg hr => ⟨h s X Y row hs.1 hg hr, k s X Y row hs.2 hg hr⟩
theorem stabP_box {α : Type} {B B1 B2 Bs b : Nat} {t : TypeId} (hb : B1 ≤ b ∧ b < B2) (f : α → Value) : StabP B B1 B2 Bs (fun s W => Boxed W b t (f s)) := by
  rintro s X Y row hv hg hrow
  have hv0 : X.heap[b]? = some (.cells #[f s] t (0, 0)) := hv
  refine hv.kept hg fun e => ?_
  obtain ⟨_, o, h1, h2⟩ := hrow b e.symm
  rw [hv0] at h1; injection h1 with h1; subst h1
  rcases h2 with h2 | h2
  · cases h2
  · exact h2 (.inl hb)
/-- New blocks alone. -/
theorem KeepP.below {B1 B2 Bs : Nat} {W W' : World} (hB : Bs < W.heap.size) (h : Below W.heap.size W W') : KeepP B1 B2 Bs W W' :=
  KeepP.of_grown (row := none) hB ⟨h.os, h.tape, h.output, h.size, fun k hk _ => h.block k hk⟩ (fun _ e => by cases e) (by simp)
theorem keepsFrom_below {B : Nat} {W W' : World} (h : Below W.heap.size W W') : KeepsFrom B W W' := ⟨h.size, fun k o _ hk _ => (h.block k (heap_lt hk)).trans hk⟩
/-- The round's step: a literal is laid, appended to the slice in the variable, and the variable is set. -/
theorem keepP_appended {W w1 : World} {B1 B2 Bs n0 : Nat} {t e : TypeId} {size k m : Nat} {v v' : Value} {xs ys : List Value} {tmp : Obj} (hBs : B1 ≤ Bs ∧ Bs < B2) (hv : Boxed W Bs t v) (hte : t ≠ e) (hrow : W.ownsRow n0 e size v k xs)
    (hown : w1.ownsRow n0 e size v' m ys) (hg : (W.alloc tmp).grownBy w1 v.ownBlock) (hat : v'.ownBlock = v.ownBlock ∨ v'.ownBlock = some (W.alloc tmp).heap.size) : KeepP B1 B2 Bs W (w1.setCell ⟨Bs, 0, none⟩ v') := by
  have hlt := hv.lt
  have hs1 := hg.size
  have hsz : (W.alloc tmp).heap.size = W.heap.size + 1 := by simp
  have hv1 : Boxed w1 Bs t v := (hv.alloc tmp).kept hg (hv.not_row hte hrow)
  have hvs : Boxed (w1.setCell ⟨Bs, 0, none⟩ v') Bs t v' := hv1.set v'
  have mineW : ∀ q, v.ownBlock = some q → Mine B1 B2 Bs W q := fun q hq => .inr ⟨0, v, hv.cell, hq⟩
  have mineF : ∀ q, Mine B1 B2 Bs (w1.setCell ⟨Bs, 0, none⟩ v') q → (B1 ≤ q ∧ q < B2) ∨ v'.ownBlock = some q := by
    rintro q (hq | ⟨off, u, hu, hq⟩)
    · exact .inl hq
    · rw [boxed_at hvs hu] at hq; exact .inr hq
  refine ⟨by simp; omega, fun q o hq hc hnm => ?_, fun q hq => ?_, fun hW => ⟨hW.1, fun q hq => ?_⟩⟩
  · have hqb : q ≠ Bs := fun e => hnm (by subst e; exact .inl hBs)
    have hql := heap_lt hq
    refine (Below.heap_setCell _ _ _ q (by simpa using hqb)).trans ((hg.block q (by omega) fun e => hnm (mineW q e.symm)).trans ((alloc_old hql).trans hq))
  · rcases mineF q hq with h1 | h1
    · exact .inl (.inl h1)
    · rcases hat with h2 | h2
      · exact .inl (mineW q (h2.symm.trans h1))
      · right; rw [h1] at h2; injection h2 with h2; omega
  · rcases mineF q hq with h1 | h1
    · have := hW.2 q (.inl h1); simp; omega
    · have := (hown.lt q h1).2; simpa using this
end Go.Proofs.Ythmbehknacjodaa

/-! Idb -/
namespace Go.Proofs.Ythmbehknacjodaa
set_option linter.unusedVariables false
open Go.RowKit Go.Shelf

attribute [local go_sem] Oper.semAt_some

def two9 (pv : Value) (wr : World) : Nat := match pv with
  | .pointer (some ad) => (intOf ((wr.cell? ad).getD undef)).toNat
  | _ => 0
theorem two9_at {wr : World} {p m q : Nat} {T : TypeId} (h : wr.heap[p]? = some (.cells #[.int .i64 (m : Int), .int .i64 (q : Int)] T (0, 0))) : two9 (.pointer (some ⟨p, 0, none⟩)) wr = m := by
  obtain ⟨c0, _⟩ := cell2 h
  simp [two9, c0, intOf]
set_option maxRecDepth 100000 in
set_option maxHeartbeats 3200000 in
theorem doublings_gives (n : Nat) (hn : 1 ≤ n) (a b Ba Bb B1 B2 Bs : Nat) (ha : a ≤ 9999) (hb9 : b ≤ 9999) (w : World) (hBa : Ba < w.heap.size) (hBb : Bb < w.heap.size) (h1 : w.cell? ⟨Ba, 0, none⟩ = some (.int .i64 (a : Int))) (h2 : w.cell? ⟨Bb, 0, none⟩ = some (.int .i64 (b : Int))) :
    GivesP Fence.wide n Try.prog 115 #[.pointer (some ⟨Ba, 0, none⟩), .pointer (some ⟨Bb, 0, none⟩)] (fun x : Int × Int => #[.agg #[.int .i64 x.1, .int .i64 x.2]]) B1 B2 Bs (dbL a b) w := by
  intro l J W hW hM hJ hY h0
  have g1 : W.cell? ⟨Ba, 0, none⟩ = some (.int .i64 (a : Int)) := (hW.cell (p := ⟨Ba, 0, none⟩) hBa).trans h1
  have g2 : W.cell? ⟨Bb, 0, none⟩ = some (.int .i64 (b : Int)) := (hW.cell (p := ⟨Bb, 0, none⟩) hBb).trans h2
  have HL : Hid ((dbL a b).length ≤ 14) := Lib.hid (dbL_len14 ha b)
  have HBT : Hid (∀ k, k ≤ 14 → b * 2 ^ k ≤ 163823616) := Lib.hid (fun k hk => db_top ha hb9 hk)
  have HY := Lib.hid hY
  have HJ := Lib.hid hJ
  have HM0 := Lib.hid hM
  have HJ0 := Lib.hid h0
  clear hW hY hJ hM h0 h1 h2 hBa hBb
  refine callsIn_of_wp Try.func115 rfl trivial ?_ rfl
  simp only [Try.ntmps115, List.size_toArray, List.length_cons, List.length_nil, Nat.reduceAdd, Nat.reduceSub, Array.replicate_succ, Array.replicate_zero, List.push_toArray, List.append_toArray, List.nil_append, List.cons_append]
  gi_wp2
  gi_loopw [4] (fun pv wr => ∃ (m q p : Nat) (pre : List (Int × Int)), pv = .pointer (some ⟨p, 0, none⟩) ∧ m ≤ a ∧ Hid (dbL a b = pre ++ dbL m q) ∧ Hid (q = b * 2 ^ pre.length) ∧ wr.heap[p]? = some (.cells #[.int .i64 (m : Int), .int .i64 (q : Int)] 77 (0, 0)) ∧ W.heap.size ≤ p ∧ ¬ Mine B1 B2 Bs wr p ∧ MineIn B1 B2 Bs wr ∧ J pre wr) (fun pv wr => two9 pv wr)
  case atStart =>
    have hk := KeepP.alloc (B1 := B1) (B2 := B2) HM0.out.bs (.cells #[.int .i64 (a : Int), .int .i64 (b : Int)] 77)
    refine ⟨a, b, W.heap.size, [], rfl, Nat.le_refl _, Lib.hid rfl, Lib.hid (by simp), alloc_at rfl, Nat.le_refl _, fun hm => ?_, hk.within HM0.out, HJ.out.alloc HJ0.out _⟩
    have := HM0.out.2 _ ((mine_block (alloc_old HM0.out.bs) _).1 hm); omega
  case round =>
    obtain ⟨m, q, p, pre, rfl, hma, HY1, HQ, hp, hpB, hnm, hmi, hj⟩ := hrel
    obtain ⟨c0, c1, f0, f1⟩ := cell2 hp
    have hpl := heap_lt hp
    have hpre : pre.length ≤ 14 := by have h5 := HL.out; rw [HY1.out, List.length_append] at h5; omega
    have hq : q ≤ 163823616 := by rw [HQ.out]; exact HBT.out _ hpre
    have HP := Lib.hid hp
    have HNM := Lib.hid hnm
    have HPB := Lib.hid hpB
    have HJ1 := Lib.hid hj
    have HMI := Lib.hid hmi
    by_cases hlt : 0 < m
    · have z1 : (1 : Int) ≤ (m : Int) := by omega
      have HY2 : Hid (dbL a b = (pre ++ [((m : Int), (q : Int))]) ++ dbL (m / 2) (2 * q)) := Lib.hid (by rw [HY1.out, dbL_pos hlt, List.append_assoc, List.singleton_append])
      have HQ2 : Hid (2 * q = b * 2 ^ (pre ++ [((m : Int), (q : Int))]).length) := Lib.hid (by have h1 := HQ.out; rw [List.length_append, List.length_singleton, Nat.pow_succ, ← Nat.mul_assoc b]; omega)
      have HMB := Lib.hid hma
      have HDV : Hid ((m : Int) / 2 = ((m / 2 : Nat) : Int)) := Lib.hid (by omega)
      have HDQ : Hid (2 * (q : Int) = ((2 * q : Nat) : Int)) := Lib.hid (by omega)
      have hw : IntKind.i64.wrap (2 * (q : Int)) = 2 * (q : Int) := by rw [IntKind.wrap_i64]; omega
      obtain ⟨fn, tmps, assign, body, hy, hR⟩ := HY.out pre ((m : Int), (q : Int)) wr hj ⟨_, HY2.out.symm⟩
      clear hp hnm hj hmi
      gi_wp2
      refine hR.mono ?_
      rintro e W3 ⟨rfl, hJ3, hk3⟩
      have HP3 := Lib.hid (hk3.same p _ HP.out rfl HNM.out)
      have HM3 := Lib.hid (hk3.within HMI.out)
      have HJ3 := Lib.hid hJ3
      have HL3 := Lib.hid hk3.size
      clear hJ3 hk3 hR hy c0 c1 f0 f1
      obtain ⟨c0, c1, f0, f1⟩ := cell2 HP3.out
      gi_wp2
      rw [HDV.out, HDQ.out]
      have hk := KeepP.alloc (B1 := B1) (B2 := B2) HM3.out.bs (.cells #[.int .i64 ((m / 2 : Nat) : Int), .int .i64 ((2 * q : Nat) : Int)] 77)
      have hn5 : (W3.alloc (.cells #[.int .i64 ((m / 2 : Nat) : Int), .int .i64 ((2 * q : Nat) : Int)] 77)).heap[W3.heap.size]? = some (.cells #[.int .i64 ((m / 2 : Nat) : Int), .int .i64 ((2 * q : Nat) : Int)] 77 (0, 0)) := alloc_at rfl
      refine ⟨⟨m / 2, 2 * q, W3.heap.size, _, rfl, by have := HMB.out; omega, HY2, HQ2, hn5, by have := HPB.out; have := HL3.out; omega, fun hm => ?_, hk.within HM3.out, HJ.out.alloc HJ3.out _⟩, ?_⟩
      · have := HM3.out.2 _ ((mine_block (alloc_old HM3.out.bs) _).1 hm); omega
      · rw [two9_at hn5, two9_at HP.out]; omega
    · obtain rfl : m = 0 := by omega
      have HE : Hid (pre = dbL a b) := Lib.hid (by rw [HY1.out, dbL_zero, List.append_nil])
      clear hp hnm hj hmi
      gi_wp2
      go_end0
      exact ⟨⟨_, rfl⟩, HE.out ▸ HJ1.out⟩
end Go.Proofs.Ythmbehknacjodaa

/-! Icl -/
namespace Go.Proofs.Ythmbehknacjodaa
set_option linter.unusedVariables false
open Go.RowKit Go.Shelf

attribute [local go_sem] Oper.semAt_some

set_option maxRecDepth 100000 in
set_option maxHeartbeats 3200000 in
theorem two_appendSeq (n : Nat) (hn : 3 ≤ n) (gf : Nat) (lb : Array Value) (egf : ∀ args w, (callFunc gf args).run Try.prog w = .ok (.enter gf args) w) (xs : List (Int × Int)) (hN : xs.length ≤ 100000) (w : World)
    (hseq : GivesP Fence.wide (n - 1) Try.prog gf lb (fun x : Int × Int => #[.agg #[.int .i64 x.1, .int .i64 x.2]]) w.heap.size (w.heap.size + 1) w.heap.size xs w) :
    CallsIn Fence.wide n Try.prog 116 #[.slice none 0 0, .func (.func gf) #[] lb] w fun e W' => (∃ v, e = .returned v ∧ W'.ownsRow w.heap.size 77 2 v xs.length (flatC prC xs)) ∧ Below w.heap.size w W' := by
  have h1 : 1 ≤ n := by omega
  obtain ⟨i0, hi, hz0, hz1, hz2⟩ := info_parts Try.infoTwo
  refine callsIn_of_wp_marks Try.func116 rfl trivial ?_ rfl
  simp only [Try.ntmps116, List.size_toArray, List.length_cons, List.length_nil, Nat.reduceAdd, Nat.reduceSub, Array.replicate_succ, Array.replicate_zero, List.push_toArray, List.append_toArray, List.nil_append, List.cons_append]
  gi_wp2
  have bO := Boxed.new w 34 (.slice none 0 0)
  have hB0 : Below w.heap.size w (w.alloc (.cells #[.slice none 0 0] 34)) := (Below.refl _ w).alloc (Nat.le_refl _) _
  have hbs : w.heap.size ≤ w.heap.size ∧ w.heap.size < w.heap.size + 1 := ⟨Nat.le_refl _, Nat.lt_succ_self _⟩
  refine range_law rfl h1 (gf := gf) (lb := lb) rfl trivial egf hseq ⟨hbs, ?hmine⟩ hB0 (fun _ => rfl)
    (fun pre W => (∃ v, Boxed W w.heap.size 34 v ∧ W.ownsRow w.heap.size 77 2 v pre.length (flatC prC pre)) ∧ Below w.heap.size w W)
    (stabP_own hbs (Nat.le_refl _) (by simp) (fun pre => pre.length) (fun pre => flatC prC pre))
    ⟨⟨_, bO, World.ownsRow_nil _ _ _ _⟩, hB0⟩
    (fun x a' W => ∃ Bx, W.heap[Bx]? = some (.cells #[.int .i64 x.1, .int .i64 x.2] 77 (0, 0)) ∧ a' = { tmps := #[.slice none 0 0, .func (.func gf) #[] lb, .pointer (some ⟨w.heap.size, 0, none⟩), undef, .slice none 0 0, .pointer (some ⟨Bx, 0, none⟩), .func (.func gf) #[] lb, .agg #[.int .i64 x.1, .int .i64 x.2], undef, undef, undef, undef, undef], defers := [] }) ?turn ?assign ?body ?done
  case hmine =>
    rintro k (hk | ⟨off, v, hv, hk⟩)
    · simp; omega
    · rw [boxed_at bO hv] at hk; cases hk
  case turn =>
    rintro x a' X l o o' ⟨Bx, hx, rfl⟩ _ hl ho
    exact ⟨Bx, (World.putObj_heap_other (fun e => by subst e; rw [hx] at hl; injection hl with hl; subst hl; cases ho)).trans hx, rfl⟩
  case assign =>
    rintro l pre x W K ⟨⟨v, hv, hrow⟩, hB⟩ hbw hK
    gi_wp2
    exact hK _ _ ((KeepsOthers.alloc _ _).from _) (KeepP.alloc hbw _) ⟨⟨v, hv.alloc _, hrow.alloc _⟩, hB.alloc hB.size _⟩ ⟨W.heap.size, alloc_at rfl, rfl⟩
  case body =>
    rintro l pre x a' W ⟨⟨v, hv, hrow⟩, hB⟩ ⟨Bx, hx, rfl⟩ hpx
    have hlt : pre.length < 100000 := by have := hpx.length_le; rw [List.length_append, List.length_singleton] at this; omega
    have hc := hv.cell
    obtain ⟨c0, c1, d0, d1⟩ := cell2 hx
    gi_wp2_with (gi_at_builtin; refine wpListIn_append_own_at _ rfl _ _ 34 rfl w.heap.size 77 i0 (.agg #[.int .i64 0, .int .i64 0]) 2 16 Try.underlying34 hi hz0 hz1 hz2 rfl (by decide) _ _ _ rfl (hrow.alloc _) ⟨W.heap.size, 0, none⟩ 1 1 [.int .i64 x.1, .int .i64 x.2] rfl rfl (news_at (alloc_at rfl)) (by intro u hu; simp only [List.mem_cons, List.not_mem_nil, or_false] at hu; rcases hu with rfl | rfl <;> rfl) (by unfold maxLen; omega) (by omega) (by have := hB.size; simp; omega) ?_; intro v' w1 hown' hgrow _ hat; have hkp := keepP_appended hbs hv (by decide) hrow hown' hgrow hat; obtain ⟨g', cap', rfl⟩ := ownsRow_succ hown'; obtain ⟨hv1, hv2, hr2, hk2, hb2⟩ := hv.appended (by decide) hrow hB.size (Nat.le_refl _) hown' hgrow; have hc1 := hv1.cell; have hf1 := hv1.frozen)
    exact ⟨hk2.from _, hkp, ⟨_, hv2, by rw [List.length_append, flatC_app]; exact hr2⟩, hB.trans hb2⟩
  case done =>
    rintro D W hD ⟨⟨v, hv, hrow⟩, hB⟩ hK
    have hc := hv.cell
    gi_wp2
    refine ⟨by simp, .inl ⟨_, _, rfl, run_takeDeferred hK, ?_⟩⟩
    exact ⟨_, results_tmp rfl _ _ _, ⟨v, rfl, ownsRow_putObj hrow _ hK rfl⟩, hB.trans (belowK_b (w := w) (Nat.le_refl _) W D _ _ (by simp at hD; omega) hK rfl rfl)⟩
set_option maxRecDepth 100000 in
set_option maxHeartbeats 800000 in
theorem two_collect (n : Nat) (hn : 4 ≤ n) (gf : Nat) (lb : Array Value) (egf : ∀ args w, (callFunc gf args).run Try.prog w = .ok (.enter gf args) w) (xs : List (Int × Int)) (hN : xs.length ≤ 100000) (w : World)
    (hseq : GivesP Fence.wide (n - 1 - 1) Try.prog gf lb (fun x : Int × Int => #[.agg #[.int .i64 x.1, .int .i64 x.2]]) w.heap.size (w.heap.size + 1) w.heap.size xs w) :
    CallsIn Fence.wide n Try.prog 79 #[.func (.func gf) #[] lb] w fun e W' => (∃ v, e = .returned v ∧ W'.ownsRow w.heap.size 77 2 v xs.length (flatC prC xs)) ∧ Below w.heap.size w W' := by
  have h1 : 1 ≤ n := by omega
  have cA := two_appendSeq (n - 1) (by omega) gf lb egf xs hN w hseq
  have hfA : Fence.wide.fn 116 := trivial
  refine callsIn_of_wp Try.func79 rfl trivial ?_ rfl
  simp only [Try.ntmps79, List.size_toArray, List.length_cons, List.length_nil, Nat.reduceAdd, Nat.reduceSub, Array.replicate_succ, Array.replicate_zero, List.push_toArray, List.append_toArray, List.nil_append, List.cons_append]
  gi_wp2_with (gi_at_call 116; refine cA.mono ?_; rintro e w' ⟨⟨v, rfl, hrow⟩, hb⟩)
  go_ret
  exact ⟨⟨v, rfl, hrow⟩, hb⟩
set_option maxRecDepth 100000 in
set_option maxHeartbeats 3200000 in
theorem tri_appendSeq (n : Nat) (hn : 3 ≤ n) (gf : Nat) (lb : Array Value) (egf : ∀ args w, (callFunc gf args).run Try.prog w = .ok (.enter gf args) w) (xs : List (Tr)) (hN : xs.length ≤ 100000) (w : World)
    (hseq : GivesP Fence.wide (n - 1) Try.prog gf lb (fun x : Tr => #[.agg #[.int .i64 x.i, .int .i64 x.k, .int .i64 x.v]]) w.heap.size (w.heap.size + 1) w.heap.size xs w) :
    CallsIn Fence.wide n Try.prog 114 #[.slice none 0 0, .func (.func gf) #[] lb] w fun e W' => (∃ v, e = .returned v ∧ W'.ownsRow w.heap.size 57 3 v xs.length (flatC trC xs)) ∧ Below w.heap.size w W' := by
  have h1 : 1 ≤ n := by omega
  obtain ⟨i0, hi, hz0, hz1, hz2⟩ := info_parts Try.infoTri
  refine callsIn_of_wp_marks Try.func114 rfl trivial ?_ rfl
  simp only [Try.ntmps114, List.size_toArray, List.length_cons, List.length_nil, Nat.reduceAdd, Nat.reduceSub, Array.replicate_succ, Array.replicate_zero, List.push_toArray, List.append_toArray, List.nil_append, List.cons_append]
  gi_wp2
  have bO := Boxed.new w 30 (.slice none 0 0)
  have hB0 : Below w.heap.size w (w.alloc (.cells #[.slice none 0 0] 30)) := (Below.refl _ w).alloc (Nat.le_refl _) _
  have hbs : w.heap.size ≤ w.heap.size ∧ w.heap.size < w.heap.size + 1 := ⟨Nat.le_refl _, Nat.lt_succ_self _⟩
  refine range_law rfl h1 (gf := gf) (lb := lb) rfl trivial egf hseq ⟨hbs, ?hmine⟩ hB0 (fun _ => rfl)
    (fun pre W => (∃ v, Boxed W w.heap.size 30 v ∧ W.ownsRow w.heap.size 57 3 v pre.length (flatC trC pre)) ∧ Below w.heap.size w W)
    (stabP_own hbs (Nat.le_refl _) (by simp) (fun pre => pre.length) (fun pre => flatC trC pre))
    ⟨⟨_, bO, World.ownsRow_nil _ _ _ _⟩, hB0⟩
    (fun x a' W => ∃ Bx, W.heap[Bx]? = some (.cells #[.int .i64 x.i, .int .i64 x.k, .int .i64 x.v] 57 (0, 0)) ∧ a' = { tmps := #[.slice none 0 0, .func (.func gf) #[] lb, .pointer (some ⟨w.heap.size, 0, none⟩), undef, .slice none 0 0, .pointer (some ⟨Bx, 0, none⟩), .func (.func gf) #[] lb, .agg #[.int .i64 x.i, .int .i64 x.k, .int .i64 x.v], undef, undef, undef, undef, undef], defers := [] }) ?turn ?assign ?body ?done
  case hmine =>
    rintro k (hk | ⟨off, v, hv, hk⟩)
    · simp; omega
    · rw [boxed_at bO hv] at hk; cases hk
  case turn =>
    rintro x a' X l o o' ⟨Bx, hx, rfl⟩ _ hl ho
    exact ⟨Bx, (World.putObj_heap_other (fun e => by subst e; rw [hx] at hl; injection hl with hl; subst hl; cases ho)).trans hx, rfl⟩
  case assign =>
    rintro l pre x W K ⟨⟨v, hv, hrow⟩, hB⟩ hbw hK
    gi_wp2
    exact hK _ _ ((KeepsOthers.alloc _ _).from _) (KeepP.alloc hbw _) ⟨⟨v, hv.alloc _, hrow.alloc _⟩, hB.alloc hB.size _⟩ ⟨W.heap.size, alloc_at rfl, rfl⟩
  case body =>
    rintro l pre x a' W ⟨⟨v, hv, hrow⟩, hB⟩ ⟨Bx, hx, rfl⟩ hpx
    have hlt : pre.length < 100000 := by have := hpx.length_le; rw [List.length_append, List.length_singleton] at this; omega
    have hc := hv.cell
    obtain ⟨c0, c1, c2, d0, d1, d2⟩ := cell3 hx
    gi_wp2_with (gi_at_builtin; refine wpListIn_append_own_at _ rfl _ _ 30 rfl w.heap.size 57 i0 (.agg #[.int .i64 0, .int .i64 0, .int .i64 0]) 3 24 Try.underlying30 hi hz0 hz1 hz2 rfl (by decide) _ _ _ rfl (hrow.alloc _) ⟨W.heap.size, 0, none⟩ 1 1 [.int .i64 x.i, .int .i64 x.k, .int .i64 x.v] rfl rfl (news_at (alloc_at rfl)) (by intro u hu; simp only [List.mem_cons, List.not_mem_nil, or_false] at hu; rcases hu with rfl | rfl | rfl <;> rfl) (by unfold maxLen; omega) (by omega) (by have := hB.size; simp; omega) ?_; intro v' w1 hown' hgrow _ hat; have hkp := keepP_appended hbs hv (by decide) hrow hown' hgrow hat; obtain ⟨g', cap', rfl⟩ := ownsRow_succ hown'; obtain ⟨hv1, hv2, hr2, hk2, hb2⟩ := hv.appended (by decide) hrow hB.size (Nat.le_refl _) hown' hgrow; have hc1 := hv1.cell; have hf1 := hv1.frozen)
    exact ⟨hk2.from _, hkp, ⟨_, hv2, by rw [List.length_append, flatC_app]; exact hr2⟩, hB.trans hb2⟩
  case done =>
    rintro D W hD ⟨⟨v, hv, hrow⟩, hB⟩ hK
    have hc := hv.cell
    gi_wp2
    refine ⟨by simp, .inl ⟨_, _, rfl, run_takeDeferred hK, ?_⟩⟩
    exact ⟨_, results_tmp rfl _ _ _, ⟨v, rfl, ownsRow_putObj hrow _ hK rfl⟩, hB.trans (belowK_b (w := w) (Nat.le_refl _) W D _ _ (by simp at hD; omega) hK rfl rfl)⟩
set_option maxRecDepth 100000 in
set_option maxHeartbeats 800000 in
theorem tri_collect (n : Nat) (hn : 4 ≤ n) (gf : Nat) (lb : Array Value) (egf : ∀ args w, (callFunc gf args).run Try.prog w = .ok (.enter gf args) w) (xs : List (Tr)) (hN : xs.length ≤ 100000) (w : World)
    (hseq : GivesP Fence.wide (n - 1 - 1) Try.prog gf lb (fun x : Tr => #[.agg #[.int .i64 x.i, .int .i64 x.k, .int .i64 x.v]]) w.heap.size (w.heap.size + 1) w.heap.size xs w) :
    CallsIn Fence.wide n Try.prog 76 #[.func (.func gf) #[] lb] w fun e W' => (∃ v, e = .returned v ∧ W'.ownsRow w.heap.size 57 3 v xs.length (flatC trC xs)) ∧ Below w.heap.size w W' := by
  have h1 : 1 ≤ n := by omega
  have cA := tri_appendSeq (n - 1) (by omega) gf lb egf xs hN w hseq
  have hfA : Fence.wide.fn 114 := trivial
  refine callsIn_of_wp Try.func76 rfl trivial ?_ rfl
  simp only [Try.ntmps76, List.size_toArray, List.length_cons, List.length_nil, Nat.reduceAdd, Nat.reduceSub, Array.replicate_succ, Array.replicate_zero, List.push_toArray, List.append_toArray, List.nil_append, List.cons_append]
  gi_wp2_with (gi_at_call 114; refine cA.mono ?_; rintro e w' ⟨⟨v, rfl, hrow⟩, hb⟩)
  go_ret
  exact ⟨⟨v, rfl, hrow⟩, hb⟩
end Go.Proofs.Ythmbehknacjodaa

/-! Ipt -/
namespace Go.Proofs.Ythmbehknacjodaa
set_option linter.unusedVariables false
open Go.RowKit Go.Shelf

attribute [local go_sem] Oper.semAt_some
theorem Try.undSS9 : Try.prog.underlying 112 = some (.slice (Try.prog.elem 112)) := by simp [Try.underlying112, Program.elem]

theorem own_safe {B1 B2 Bs lo hi : Nat} {X X' : World} {e : TypeId} {size n : Nat} {v : Value} {xs : List Value} (h : Ow lo hi X e size v n xs) (hk : KeepP B1 B2 Bs X X') (hm : ∀ q, lo ≤ q → q < hi → ¬ Mine B1 B2 Bs X q) : Ow lo hi X' e size v n xs := by
  refine ⟨own_of_block h.1 fun g hg => ?_, h.2⟩
  obtain ⟨cur, hc⟩ := own_heap h.1 hg
  rw [hk.same g _ hc rfl (hm g (h.1.lt g hg).1 (h.2 g hg)), hc]
theorem OwnSS.safe {B1 B2 Bs lo hi : Nat} {X X' : World} {v : Value} {vs : List Value} {xss : List (List Int)} (h : OwnSS lo hi X v vs xss) (hk : KeepP B1 B2 Bs X X') (hm : ∀ q, lo ≤ q → q < hi → ¬ Mine B1 B2 Bs X q) : OwnSS lo hi X' v vs xss :=
  { h with outer := own_safe h.outer hk hm, inner := fun i hi => own_safe (h.inner i hi) hk hm }
/-- The rows stand, in blocks that no round touches. -/
structure RowsAt (B1 B2 Bs lo hi : Nat) (X : World) (v : Value) (vs : List Value) (xss : List (List Int)) : Prop where
  rows : OwnSS lo hi X v vs xss
  off : ∀ q, lo ≤ q → q < hi → ¬ Mine B1 B2 Bs X q
  top : hi ≤ X.heap.size
  mine : MineIn B1 B2 Bs X
theorem RowsAt.keep {B1 B2 Bs lo hi : Nat} {X X' : World} {v : Value} {vs : List Value} {xss : List (List Int)} (h : RowsAt B1 B2 Bs lo hi X v vs xss) (hk : KeepP B1 B2 Bs X X') : RowsAt B1 B2 Bs lo hi X' v vs xss :=
  ⟨h.rows.safe hk h.off, fun q h1 h2 hm => by
    rcases hk.mine q hm with h3 | h3
    · exact h.off q h1 h2 h3
    · have := h.top; omega, Nat.le_trans h.top hk.size, hk.within h.mine⟩
theorem RowsAt.alloc {B1 B2 Bs lo hi : Nat} {X : World} {v : Value} {vs : List Value} {xss : List (List Int)} (h : RowsAt B1 B2 Bs lo hi X v vs xss) (o : Obj) : RowsAt B1 B2 Bs lo hi (X.alloc o) v vs xss := h.keep (KeepP.alloc h.mine.bs o)
/-- One row's value, and one of its numbers. -/
theorem RowsAt.row {B1 B2 Bs lo hi : Nat} {X : World} {a : Option Addr} {n c : Nat} {vs : List Value} {xss : List (List Int)} (h : RowsAt B1 B2 Bs lo hi X (.slice a n c) vs xss) (i : Nat) (hi' : i < xss.length) :
    ∃ b, a = some ⟨b, 0, none⟩ ∧ X.cell? ⟨b, i, none⟩ = some (vs.getD i undef) ∧ ∃ ai ci, vs.getD i undef = .slice ai (xss.getD i []).length ci := by
  have hl := h.rows.len
  have hn : vs.length = n := by
    obtain ⟨a', c', hv⟩ := own_form h.rows.outer.1
    injection hv with _ h2 _; exact h2.symm
  subst hn
  obtain ⟨b, cp, hv⟩ := own_blk h.rows.outer.1 (by omega)
  injection hv with h1 _ _
  subst h1
  refine ⟨b, rfl, ?_, own_form (h.rows.inner i (by omega)).1⟩
  have h5 := h.rows.outer.1.cellAt i (by omega)
  rw [h5, List.getElem?_eq_getElem (by omega), getD_at _ _ _ (by omega)]
theorem RowsAt.num {B1 B2 Bs lo hi : Nat} {X : World} {v : Value} {vs : List Value} {xss : List (List Int)} (h : RowsAt B1 B2 Bs lo hi X v vs xss) (i : Nat) (hi' : i < xss.length) {ai : Option Addr} {n ci : Nat} (hv : vs.getD i undef = .slice ai n ci) (k : Nat) (hk : k < (xss.getD i []).length) :
    ∃ b, ai = some ⟨b, 0, none⟩ ∧ X.cell? ⟨b, k, none⟩ = some (.int .i64 (xss.getD i [])[k]) := by
  have hl := h.rows.len
  have hin := (h.rows.inner i (by omega)).1
  rw [hv] at hin
  have hn : n = (xss.getD i []).length := by
    obtain ⟨a', c', hv'⟩ := own_form hin
    injection hv' with _ h2 _
  subst hn
  obtain ⟨b, cp, hv2⟩ := own_blk hin (by omega)
  injection hv2 with h1 _ _
  subst h1
  refine ⟨b, rfl, ?_⟩
  have h5 := (hin.cellAt (k * 1 + 0) (by omega)).trans (flatC_at inC_len _ k hk 0 (by omega))
  rw [Nat.mul_one, Nat.add_zero] at h5
  exact h5

set_option maxRecDepth 100000 in
set_option maxHeartbeats 6400000 in
theorem parts_gives (n : Nat) (hn : 1 ≤ n) (a b Ba Bb B1 B2 Bs : Nat) (ha : a ≤ 9999) (hb9 : b ≤ 9999) (w : World) (hBa : Ba < w.heap.size) (hBb : Bb < w.heap.size) (h1 : w.cell? ⟨Ba, 0, none⟩ = some (.int .i64 (a : Int))) (h2 : w.cell? ⟨Bb, 0, none⟩ = some (.int .i64 (b : Int))) :
    GivesP Fence.wide n Try.prog 112 #[.pointer (some ⟨Ba, 0, none⟩), .pointer (some ⟨Bb, 0, none⟩)] (fun x : Tr => #[.agg #[.int .i64 x.i, .int .i64 x.k, .int .i64 x.v]]) B1 B2 Bs (prT (dgL a) (dgL b)) w := by
  intro l J W hW hM hJ hY h0
  have g1 : W.cell? ⟨Ba, 0, none⟩ = some (.int .i64 (a : Int)) := (hW.cell (p := ⟨Ba, 0, none⟩) hBa).trans h1
  have g2 : W.cell? ⟨Bb, 0, none⟩ = some (.int .i64 (b : Int)) := (hW.cell (p := ⟨Bb, 0, none⟩) hBb).trans h2
  have HY := Lib.hid hY
  have HJ := Lib.hid hJ
  have HM0 := Lib.hid hM
  have HJ0 := Lib.hid h0
  have hp4 := dgL_len4 a ha
  have hq4 := dgL_len4 b hb9
  have HPB : Hid (∀ i (h : i < (dgL a).length), 0 ≤ (dgL a)[i] ∧ (dgL a)[i] ≤ 9) := Lib.hid (fun i h => dgL_at a i h)
  have HQB : Hid (∀ i (h : i < (dgL b).length), 0 ≤ (dgL b)[i] ∧ (dgL b)[i] ≤ 9) := Lib.hid (fun i h => dgL_at b i h)
  have cR : CallsIn Fence.wide (n - 1) Try.prog 113 #[.int .i64 (a : Int), .int .i64 (b : Int)] W fun e w' => (∃ sq vs, e = .returned sq ∧ OwnSS W.heap.size w'.heap.size w' sq vs (rwsL (dgL a) (dgL b))) ∧ Below W.heap.size W w' := callsIn_wide.2 (rowsOf_any a b W ha hb9)
  have HR := Lib.hid cR
  have hfR : Fence.wide.fn 113 := trivial
  generalize dgL a = p at HY hp4 HPB HR ⊢
  generalize dgL b = q at HY hq4 HQB HR ⊢
  obtain ⟨PT, hPT⟩ : ∃ PT, prT p q = PT := ⟨_, rfl⟩
  have HPT := Lib.hid hPT.symm
  rw [hPT] at HY ⊢
  clear hW hY hJ hM h0 h1 h2 hBa hBb cR hPT
  refine callsIn_of_wp Try.func112 rfl trivial ?_ rfl
  simp only [Try.ntmps112, List.size_toArray, List.length_cons, List.length_nil, Nat.reduceAdd, Nat.reduceSub, Array.replicate_succ, Array.replicate_zero, List.push_toArray, List.append_toArray, List.nil_append, List.cons_append]
  gi_wp2_with (gi_at_call 113; refine HR.out.mono ?_; rintro e w1 ⟨⟨sq, vs, rfl, hss⟩, hb1⟩)
  have hN : vs.length = p.length := by rw [hss.len, rwsL_len]
  obtain ⟨ar, cr, rfl⟩ := own_form hss.outer.1
  rw [hN] at hss ⊢
  have hmi : ∀ k, Mine B1 B2 Bs w1 k ↔ Mine B1 B2 Bs W k := mine_block (hb1.block _ HM0.out.bs)
  have HRA : Hid (RowsAt B1 B2 Bs W.heap.size w1.heap.size w1 (.slice ar p.length cr) vs (rwsL p q)) := Lib.hid ⟨hss, fun q h1 _ hm => by have := HM0.out.2 q ((hmi q).1 hm); omega, Nat.le_refl _, HM0.out.1, fun k hk => Nat.lt_of_lt_of_le (HM0.out.2 k ((hmi k).1 hk)) hb1.size⟩
  have HJ1 : Hid (J [] w1) := Lib.hid (HJ.out.quiet HJ0.out ⟨hb1.os, hb1.tape, hb1.output, hb1.size, fun k hk _ => hb1.block k hk⟩)
  have HZP : Hid (p.length ≤ 9223372036854775807 ∧ q.length ≤ 9223372036854775807) := Lib.hid (by omega)
  clear hss hb1 hmi
  gi_wp2
  rw [run_len_slice _ _ _ _ _ _ Try.undSS9]
  gi_wp2
  gi_loopw [15] (fun iv wr => ∃ (i : Nat) (pre : List Tr), i ≤ p.length ∧ iv = .int .i64 (i : Int) ∧ Hid (PT = pre ++ prT (p.drop i) q) ∧ RowsAt B1 B2 Bs W.heap.size w1.heap.size wr (.slice ar p.length cr) vs (rwsL p q) ∧ J pre wr) (fun iv _ => 20 - (intOf iv).toNat)
  case atStart => exact ⟨0, [], Nat.zero_le _, rfl, Lib.hid (by rw [HPT.out]; simp), HRA.out, HJ1.out⟩
  case round =>
    obtain ⟨i, pre, hi5, rfl, HY1, hra, hj⟩ := hrel
    rename World => wo
    have HRO := Lib.hid hra
    have HJO := Lib.hid hj
    by_cases hlt : i < p.length
    · have z1 : (0 : Int) ≤ (i : Int) := by omega
      have z2 : (i : Int) < (p.length : Int) := by omega
      have hx := HPB.out i hlt
      obtain ⟨b1, rfl, c1, ai, ci, hvi⟩ := hra.row i (by rw [rwsL_len]; exact hlt)
      have hrow : (rwsL p q).getD i [] = dpL p[i] q := by rw [getD_at _ _ _ (by rw [rwsL_len]; exact hlt)]; simp [rwsL]
      rw [hrow, dpL_len] at hvi
      have HY2 : Hid (PT = pre ++ (rowT (p.length - 1 - i) p[i] (q.drop 0) ++ prT (p.drop (i + 1)) q)) := Lib.hid (by rw [HY1.out, prT_drop p q i hlt, List.drop_zero])
      obtain ⟨x, hxe⟩ : ∃ x, p[i] = x := ⟨_, rfl⟩
      rw [hxe] at hx HY2 hrow
      rw [hvi] at c1
      have HROW := Lib.hid hrow
      have HVI := Lib.hid hvi
      have hdl := dpL_len x q
      clear hra hj hxe hrow hvi
      gi_wp2
      gi_loopw [22] (fun kv wi => ∃ (k : Nat) (pre : List Tr), k ≤ q.length ∧ kv = .int .i64 (k : Int) ∧ Hid (PT = pre ++ (rowT (p.length - 1 - i) x (q.drop k) ++ prT (p.drop (i + 1)) q)) ∧ RowsAt B1 B2 Bs W.heap.size w1.heap.size wi (.slice (some ⟨b1, 0, none⟩) p.length cr) vs (rwsL p q) ∧ J pre wi) (fun kv _ => 20 - (intOf kv).toNat)
      case atStart => exact ⟨0, pre, Nat.zero_le _, rfl, HY2, HRO.out, HJO.out⟩
      case round =>
        obtain ⟨k, pre, hk5, rfl, HY3, hra, hj⟩ := hrel
        rename World => wi
        have HRI := Lib.hid hra
        have HJI := Lib.hid hj
        by_cases hlk : k < q.length
        · have y1 : (0 : Int) ≤ (k : Int) := by omega
          have y2 : (k : Int) < (q.length : Int) := by omega
          have hkr : k < ((rwsL p q).getD i []).length := by rw [HROW.out, dpL_len]; exact hlk
          obtain ⟨b2, rfl, c2⟩ := hra.num i (by rw [rwsL_len]; exact hlt) HVI.out k hkr
          have hval : ((rwsL p q).getD i [])[k] = x * q[k] := by
            have : ∀ (l : List Int) (h : k < l.length), l = dpL x q → l[k] = x * q[k] := by rintro l h rfl; simp [dpL]
            exact this _ _ HROW.out
          rw [hval] at c2
          have hy := HQB.out k hlk
          have hm : 0 ≤ x * q[k] ∧ x * q[k] ≤ 81 := dig_mul hx hy
          have hst := HY3.out
          rw [rowT_drop _ _ _ _ hlk] at hst
          obtain ⟨V, hV⟩ : ∃ V, x * q[k] = V := ⟨_, rfl⟩
          rw [hV] at hm hst c2
          have e1 : ((p.length - 1 - i : Nat) : Int) = (p.length : Int) - 1 - (i : Int) := by omega
          obtain ⟨I, hI⟩ : ∃ I : Int, (p.length : Int) - 1 - (i : Int) = I := ⟨_, rfl⟩
          obtain ⟨Q, hQ⟩ : ∃ Q : Int, (q.length : Int) - 1 - (k : Int) = Q := ⟨_, rfl⟩
          have s1 : IntKind.i64.wrap ((p.length : Int) - 1) = (p.length : Int) - 1 := by rw [IntKind.wrap_i64]; omega
          have s2 : IntKind.i64.wrap ((p.length : Int) - 1 - (i : Int)) = I := by rw [hI, IntKind.wrap_i64]; omega
          have s3 : IntKind.i64.wrap ((q.length : Int) - 1) = (q.length : Int) - 1 := by rw [IntKind.wrap_i64]; omega
          have s4 : IntKind.i64.wrap ((q.length : Int) - 1 - (k : Int)) = Q := by rw [hQ, IntKind.wrap_i64]; omega
          rw [e1, hI, hQ] at hst
          clear hra hj hkr hval hV hI hQ e1 hy
          by_cases hv : 0 < V
          · rw [if_pos hv] at hst
            have HST : Hid (PT = (pre ++ [⟨I, Q, V⟩]) ++ (rowT (p.length - 1 - i) x (q.drop (k + 1)) ++ prT (p.drop (i + 1)) q)) := Lib.hid (by rw [hst]; simp)
            have HRB := Lib.hid (HRI.out.alloc (.cells #[.int .i64 I, .int .i64 Q, .int .i64 V] 57))
            obtain ⟨fn, tmps, assign, body, hy, hR⟩ := HY.out pre ⟨I, Q, V⟩ (wi.alloc (.cells #[.int .i64 I, .int .i64 Q, .int .i64 V] 57)) (HJ.out.alloc HJI.out _) ⟨_, HST.out.symm⟩
            clear hst
            gi_wp2
            refine hR.mono ?_
            rintro e W3 ⟨rfl, hJ3, hk3⟩
            have HRC := Lib.hid (HRB.out.keep hk3)
            have HJ3 := Lib.hid hJ3
            clear hJ3 hk3 hR hy
            gi_wp2
            go_roundw
            case rel => exact ⟨k + 1, _, by omega, by go_num, HST, HRC.out, HJ3.out⟩
            case measure => simp [intOf]; omega
          · rw [if_neg hv, List.nil_append] at hst
            have HST := Lib.hid hst
            have HRB := Lib.hid (HRI.out.alloc (.cells #[.int .i64 I, .int .i64 Q, .int .i64 V] 57))
            have HJB := Lib.hid (HJ.out.alloc HJI.out (.cells #[.int .i64 I, .int .i64 Q, .int .i64 V] 57))
            clear hst
            gi_wp2
            refine ⟨fun _ h => (by cases h), ?_⟩
            gi_wp2
            go_roundw
            case rel => exact ⟨k + 1, pre, by omega, by go_num, HST, HRB.out, HJB.out⟩
            case measure => simp [intOf]; omega
        · obtain rfl : k = q.length := by omega
          have HST : Hid (PT = pre ++ prT (p.drop (i + 1)) q) := Lib.hid (by rw [HY3.out, rowT_end _ _ _ _ (Nat.le_refl _), List.nil_append])
          clear hra hj
          gi_wp2
          go_roundw
          case rel => exact ⟨i + 1, pre, by omega, by go_num, HST, HRI.out, HJI.out⟩
          case measure => simp [intOf]; omega
    · obtain rfl : i = p.length := by omega
      have HE : Hid (pre = PT) := Lib.hid (by rw [HY1.out, prT_end p q _ (Nat.le_refl _), List.append_nil])
      clear hra hj
      gi_wp2
      go_end0
      exact ⟨⟨_, rfl⟩, HE.out ▸ HJO.out⟩
end Go.Proofs.Ythmbehknacjodaa
