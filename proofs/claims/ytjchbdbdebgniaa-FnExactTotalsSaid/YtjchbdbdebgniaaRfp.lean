/- A range over a function that keeps blocks of its own while it runs: what belongs to the loop that ranges (Mine), what the rounds leave alone (KeepP), and the loop's law. No round leaves early. -/
import Derived.Test.YtjchbdbdebgniaaKa
import Derived.RangeFuncBox
import Derived.RangeFuncNested
import Derived.RangeFuncLeaves
namespace Go.Proofs.Ytjchbdbdebgniaa
set_option linter.unusedVariables false
open Go.RowKit

/-- A block of the loop that ranges: one of its variables (B1 .. B2 - 1), or the row of the slice that its variable Bs holds. -/
def Mine (B1 B2 Bs : Nat) (W : World) (k : Nat) : Prop := (B1 ≤ k ∧ k < B2) ∨ ∃ off v, W.cell? ⟨Bs, off, none⟩ = some v ∧ v.ownBlock = some k
theorem mine_block {B1 B2 Bs : Nat} {W W' : World} (h : W'.heap[Bs]? = W.heap[Bs]?) (k : Nat) : Mine B1 B2 Bs W' k ↔ Mine B1 B2 Bs W k := by unfold Mine; simp only [World.cell?]; rw [h]
theorem boxed_at {W : World} {B off : Nat} {t : TypeId} {u v : Value} (h : Boxed W B t v) (hu : W.cell? ⟨B, off, none⟩ = some u) : u = v := by
  have h' : W.heap[B]? = some (.cells #[v] t (0, 0)) := h
  simp only [World.cell?, h'] at hu
  match off, hu with
  | 0, hu => simpa using hu.symm
  | n + 1, hu => simp at hu
/-- No block of the loop's lies beyond the heap. -/
def MineIn (B1 B2 Bs : Nat) (W : World) : Prop := (B1 ≤ Bs ∧ Bs < B2) ∧ ∀ k, Mine B1 B2 Bs W k → k < W.heap.size
theorem MineIn.bs {B1 B2 Bs : Nat} {W : World} (h : MineIn B1 B2 Bs W) : Bs < W.heap.size := h.2 _ (.inl h.1)
/-- What a round keeps of the others' cells. -/
structure KeepP (B1 B2 Bs : Nat) (W W' : World) : Prop where
  size : W.heap.size ≤ W'.heap.size
  same : ∀ k o, W.heap[k]? = some o → o.isCells = true → ¬ Mine B1 B2 Bs W k → W'.heap[k]? = some o
  mine : ∀ k, Mine B1 B2 Bs W' k → Mine B1 B2 Bs W k ∨ W.heap.size ≤ k
  within : MineIn B1 B2 Bs W → MineIn B1 B2 Bs W'
theorem heap_lt {W : World} {k : Nat} {o : Obj} (h : W.heap[k]? = some o) : k < W.heap.size := (Array.getElem?_eq_some_iff.1 h).1
theorem KeepP.refl (B1 B2 Bs : Nat) (W : World) : KeepP B1 B2 Bs W W := ⟨Nat.le_refl _, fun _ _ h _ _ => h, fun _ h => .inl h, id⟩
theorem KeepP.trans {B1 B2 Bs : Nat} {A B C : World} (h : KeepP B1 B2 Bs A B) (k : KeepP B1 B2 Bs B C) : KeepP B1 B2 Bs A C := by
  refine ⟨Nat.le_trans h.size k.size, fun i o hi hc hm => ?_, fun i hi => ?_, fun hA => k.within (h.within hA)⟩
  · refine k.same i o (h.same i o hi hc hm) hc fun hB => ?_
    rcases h.mine i hB with h1 | h1
    · exact hm h1
    · have := heap_lt hi; omega
  · rcases k.mine i hi with h1 | h1
    · exact h.mine i h1
    · exact .inr (Nat.le_trans h.size h1)
/-- A step that turns one block alone, no cells, or none. -/
theorem KeepP.of_turn {B1 B2 Bs : Nat} {W : World} (hB : Bs < W.heap.size) {l : Nat} {o : Obj} (o' : Obj) (hl : W.heap[l]? = some o) (ho : o.isCells = false) (hne : l ≠ Bs) : KeepP B1 B2 Bs W (W.putObj l o') := by
  have hs : ∀ k, k ≠ l → (W.putObj l o').heap[k]? = W.heap[k]? := fun k hk => World.putObj_heap_other hk
  have hm := mine_block (B1 := B1) (B2 := B2) (hs Bs (fun e => hne e.symm))
  refine ⟨by simp, fun k p hk hc _ => (hs k fun e => ?_).trans hk, fun k hk => .inl ((hm k).1 hk), fun h => ⟨h.1, fun k hk => by have := h.2 k ((hm k).1 hk); simpa using this⟩⟩
  subst e; rw [hl] at hk; injection hk with hk; subst hk; rw [ho] at hc; cases hc
/-- A step that makes blocks, and turns none that is not the loop's row. -/
theorem KeepP.of_grown {B1 B2 Bs : Nat} {W W' : World} {row : Option Nat} (hB : Bs < W.heap.size) (hg : W.grownBy W' row) (hr : ∀ r, row = some r → Mine B1 B2 Bs W r) (hbs : row ≠ some Bs) : KeepP B1 B2 Bs W W' := by
  have hm := mine_block (B1 := B1) (B2 := B2) (hg.block Bs hB (fun e => hbs e.symm))
  refine ⟨hg.size, fun k o hk _ hmk => (hg.block k (heap_lt hk) fun e => hmk (hr k e.symm)).trans hk, fun k hk => .inl ((hm k).1 hk), fun h => ⟨h.1, fun k hk => Nat.lt_of_lt_of_le (h.2 k ((hm k).1 hk)) hg.size⟩⟩
theorem KeepP.alloc {B1 B2 Bs : Nat} {W : World} (hB : Bs < W.heap.size) (o : Obj) : KeepP B1 B2 Bs W (W.alloc o) := KeepP.of_grown hB (World.grownBy_alloc W o none) (fun _ e => by cases e) (by simp)
theorem KeepP.drew {B1 B2 Bs : Nat} (W : World) : KeepP B1 B2 Bs W W.drew := ⟨Nat.le_refl _, fun _ _ h _ _ => h, fun _ h => .inl h, id⟩
/-- A store into a variable of the loop that is not the slice's. -/
theorem KeepP.set {B1 B2 Bs : Nat} {W : World} {b i : Nat} (v : Value) (hb : B1 ≤ b ∧ b < B2) (hne : b ≠ Bs) : KeepP B1 B2 Bs W (W.setCell ⟨b, i, none⟩ v) := by
  have hm := mine_block (B1 := B1) (B2 := B2) (Below.heap_setCell W ⟨b, i, none⟩ v Bs (fun e => hne e.symm))
  refine ⟨by simp, fun k o hk _ hmk => (Below.heap_setCell W ⟨b, i, none⟩ v k fun e => hmk (by subst e; exact .inl hb)).trans hk, fun k hk => .inl ((hm k).1 hk), fun hW => ⟨hW.1, fun k hk => by have := hW.2 k ((hm k).1 hk); simpa using this⟩⟩
/-- What the loop says of its own blocks abides blocks that are made, blocks that are no cells, and the others' cells. -/
def StabP {β : Type} (B B1 B2 Bs : Nat) (I : β → World → Prop) : Prop :=
  ∀ s W W' row, I s W → W.grownBy W' row → (∀ r, row = some r → B ≤ r ∧ ∃ o : Obj, W.heap[r]? = some o ∧ (o.isCells = false ∨ ¬ Mine B1 B2 Bs W r)) → I s W'
/-- What the ranged function counts on: nothing but its own cells and new blocks. -/
def StabJ {β : Type} (B B1 B2 Bs : Nat) (J : β → World → Prop) : Prop :=
  ∀ s W W' row, J s W → W.grownBy W' row → (∀ r, row = some r → B ≤ r ∧ ∃ o : Obj, W.heap[r]? = some o ∧ o.isCells = true ∧ ¬ Mine B1 B2 Bs W r) → J s W'
theorem StabJ.alloc {β : Type} {B B1 B2 Bs : Nat} {J : β → World → Prop} (h : StabJ B B1 B2 Bs J) {s : β} {W : World} (hs : J s W) (o : Obj) : J s (W.alloc o) := h s W _ none hs (World.grownBy_alloc W o none) (fun r e => by cases e)
theorem StabJ.quiet {β : Type} {B B1 B2 Bs : Nat} {J : β → World → Prop} (h : StabJ B B1 B2 Bs J) {s : β} {W W' : World} (hs : J s W) (hg : W.grownBy W' none) : J s W' := h s W _ none hs hg (fun r e => by cases e)
theorem StabJ.set {β : Type} {B B1 B2 Bs : Nat} {J : β → World → Prop} (h : StabJ B B1 B2 Bs J) {s : β} {W : World} (hs : J s W) {b : Nat} (i : Nat) (v : Value) (hB : B ≤ b) {o : Obj} (ho : W.heap[b]? = some o) (hc : o.isCells = true) (hm : ¬ Mine B1 B2 Bs W b) : J s (W.setCell ⟨b, i, none⟩ v) :=
  h s W _ (some b) hs ⟨rfl, rfl, rfl, by simp, fun k _ hk => Below.heap_setCell _ _ _ k (fun e => hk (by rw [e]))⟩ (fun r e => by cases e; exact ⟨hB, o, ho, hc, hm⟩)
/-- The ranged function gives xs, in order, to whatever loop. -/
def GivesP {α : Type} (F : Fence) (n : Nat) (P : Program) (g : Nat) (lb : Array Value) (encs : α → Array Value) (B1 B2 Bs : Nat) (xs : List α) (w0 : World) : Prop :=
  ∀ (l : Nat) (J : List α → World → Prop) (W : World), Below w0.heap.size w0 W → MineIn B1 B2 Bs W → StabJ W.heap.size B1 B2 Bs J →
    (∀ pre x W1, J pre W1 → pre ++ [x] <+: xs → YieldAt F (n - 1) P l (encs x) W1 fun e W' => e = .returned (.bool true) ∧ J (pre ++ [x]) W' ∧ KeepP B1 B2 Bs W1 W') →
    J [] W → CallsIn F n P g (#[.func (.yield l) #[] #[]] ++ lb) W fun e W' => (∃ v, e = .returned v) ∧ J xs W'
/-- A round's end. -/
def postP {α : Type} (B B1 B2 Bs : Nat) (I : List α → World → Prop) (xs : List α) (W : World) : Exit → Act → World → Prop
  | .normal, _, W' => KeepsFrom B W W' ∧ KeepP B1 B2 Bs W W' ∧ I xs W'
  | _, _, _ => False
variable {F : Fence} {n : Nat} {P : Program}
/-- The loop's law: no round leaves early. -/
theorem range_law {α : Type} {g : Operand} {ps : Array Tmp} {assign body : Code} {Q : Exit → Act → World → Prop} {a : Act} {w : World}
    (hro : F.round = none) (h1 : 1 ≤ n) {gf : Nat} {lb : Array Value} (hg : a.eval g = .func (.func gf) #[] lb) (hFg : F.fn gf) (eg : ∀ args w, (callFunc gf args).run P w = .ok (.enter gf args) w)
    {encs : α → Array Value} {B1 B2 Bs : Nat} {xs : List α} {w0 : World} (hseq : GivesP F (n - 1) P gf lb encs B1 B2 Bs xs w0) (hM : MineIn B1 B2 Bs w) (hb0 : Below w0.heap.size w0 w) (hps : ∀ x, (encs x).size = ps.size)
    (I : List α → World → Prop) (hI : StabP w.heap.size B1 B2 Bs I) (h0 : I [] w) (Ax : α → Act → World → Prop) (hAx : ∀ x a' X l o o', Ax x a' X → w.heap.size ≤ l → X.heap[l]? = some o → o.isCells = false → Ax x a' (X.putObj l o'))
    (hassign : ∀ (l : Nat) (pre : List α) (x : α) (W : World) (K : Act → World → Prop), I pre W → Bs < W.heap.size → (∀ a' W', KeepsFrom w.heap.size W W' → KeepP B1 B2 Bs W W' → I pre W' → Ax x a' W' → K a' W') →
      assign.wpIn (F.inRound l) (n - 1 - 1) P (Exit.then K (fun _ _ _ => False)) { tmps := (ps.zip (encs x)).foldl (fun t (p, v) => t.setIfInBounds p v) a.tmps, defers := [] } W)
    (hbody : ∀ (l : Nat) (pre : List α) (x : α) (a' : Act) (W : World), I pre W → Ax x a' W → pre ++ [x] <+: xs → body.wpIn (F.inRound l) (n - 1 - 1) P (postP w.heap.size B1 B2 Bs I (pre ++ [x]) W) a' W)
    (hdone : ∀ (D : Nat) (W : World), w.heap.size ≤ D → I xs W → W.heap[D]? = some (.deferred (some [])) → Q .normal { a with defers := { target := .collected D, args := #[] } :: a.defers } W) :
    (Code.rangeFunc g ps assign body).wpIn F n P Q a w := by
  have hBs := hM.bs
  have turnI : ∀ (s : List α) (X : World) (l : Nat) (o o' : Obj), I s X → w.heap.size ≤ l → X.heap[l]? = some o → o.isCells = false → I s (X.putObj l o') := fun s X l o o' hs hl ho hc =>
    hI s X _ (some l) hs (grownBy_putObj' X l o') (fun r e => by cases e; exact ⟨hl, o, ho, .inl hc⟩)
  refine wpIn_rangeFunc ?_
  intro fn hfn
  rw [hro]
  -- the loop's two blocks: the calls put off, the record
  let rd : Loop := { state := .ready, pending := none, fn, tmps := a.tmps, params := ps, assign, body, defers := w.heap.size }
  obtain ⟨W1, hW1⟩ : ∃ W1, (w.alloc (.deferred (some []))).alloc (.loop rd) = W1 := ⟨_, rfl⟩
  have hd1 : W1.heap[w.heap.size]? = some (.deferred (some [])) := by rw [← hW1]; exact (alloc_old (by simp)).trans (alloc_at rfl)
  have hr1 : W1.heap[w.heap.size + 1]? = some (.loop rd) := by rw [← hW1]; exact alloc_at (by simp)
  have hsz : W1.heap.size = w.heap.size + 2 := by rw [← hW1]; simp
  have hbW : Below w.heap.size w W1 := by rw [← hW1]; exact ((Below.refl _ w).alloc (Nat.le_refl _) _).alloc (by simp) _
  have hgW : w.grownBy W1 none := by rw [← hW1]; exact ⟨rfl, rfl, rfl, by simp; omega, fun k hk _ => by rw [alloc_old (by simp; omega), alloc_old hk]⟩
  have hI1 : I [] W1 := hI _ w _ none h0 hgW (fun r e => by cases e)
  have hM1 : MineIn B1 B2 Bs W1 := (KeepP.of_grown hBs hgW (fun _ e => by cases e) (by simp)).within hM
  refine ⟨w.heap.size + 1, [{ target := .collected w.heap.size, args := #[] }], W1, { target := .fn (.func gf) lb, args := #[.func (.yield (w.heap.size + 1)) #[] #[]] }, W1, gf, #[.func (.yield (w.heap.size + 1)) #[] #[]] ++ lb, W1, ?_, ?_, ?_, ?_, fun _ => h1, ?_⟩
  · rw [← hW1]; exact run_enterLoop_outer _ _ _ _ _
  · simp only [resolve, hg]; simp [go_sem]
  · intro f' hf'; simp [Target.leads] at hf'; subst hf'; exact hFg
  · simp [invoke, go_sem, eg]
  · refine (hseq (w.heap.size + 1) (fun pre W => I pre W ∧ Bs < W.heap.size ∧ W.heap[w.heap.size + 1]? = some (.loop rd) ∧ W.heap[w.heap.size]? = some (.deferred (some []))) W1 (hb0.trans (hbW.mono hb0.size)) hM1 ?_ ?_ ⟨hI1, by omega, hr1, hd1⟩).mono ?_
    · -- what the function does with its own cells leaves the loop's word standing
      rintro s X Y row ⟨hi, hbs, hl, hd⟩ hgr hrow
      have other : ∀ (k : Nat) (p : Obj), X.heap[k]? = some p → p.isCells = false → Y.heap[k]? = some p := fun k p hk hp => (hgr.block k (heap_lt hk) fun e => by
        obtain ⟨_, o, ho, hc, _⟩ := hrow k e.symm
        rw [hk] at ho; injection ho with ho; subst ho; rw [hp] at hc; cases hc).trans hk
      exact ⟨hI s X Y row hi hgr (fun r e => by obtain ⟨h2, o, ho, _, hm⟩ := hrow r e; exact ⟨by omega, o, ho, .inr hm⟩), Nat.lt_of_lt_of_le hbs hgr.size, other _ _ hl rfl, other _ _ hd rfl⟩
    · -- one round
      rintro pre x W ⟨hi, hbs, hl, hd⟩ hpx
      have hy := run_yield (P := P) (args := encs x) hl (hps x)
      refine ⟨fn, _, assign, body, hy, roundIn_of_wpIn hfn (hassign _ pre x W _ hi hbs ?_)⟩
      intro a' Wa hka hpa hia hax
      have hla := hka.same _ _ (by omega) hl rfl
      have hda := hka.same _ _ (Nat.le_refl _) hd rfl
      have hbsa : Bs < Wa.heap.size := Nat.lt_of_lt_of_le hbs hka.size
      have hlb := heap_lt hla
      refine ⟨_, run_beginRound hla rfl, ?_⟩
      obtain ⟨Wb, hWb⟩ : ∃ Wb, Wa.putObj (w.heap.size + 1) (.loop { rd with state := .busy }) = Wb := ⟨_, rfl⟩
      have hlb' : Wb.heap[w.heap.size + 1]? = some (.loop { rd with state := .busy }) := hWb ▸ World.putObj_heap_same hlb
      have hdb : Wb.heap[w.heap.size]? = some (.deferred (some [])) := hWb ▸ (World.putObj_heap_other (by omega)).trans hda
      have hpb : KeepP B1 B2 Bs Wa Wb := hWb ▸ KeepP.of_turn hbsa _ hla rfl (by omega)
      have hib : I pre Wb := hWb ▸ turnI _ _ _ _ _ hia (by omega) hla rfl
      have haxb : Ax x a' Wb := hWb ▸ hAx _ _ _ _ _ _ hax (by omega) hla rfl
      rw [show Wa.putObj (w.heap.size + 1) (.loop { rd with state := .busy }) = Wb from hWb]
      refine wpIn_mono (hbody _ pre x a' Wb hib haxb hpx) ?_
      rintro e a3 W3 hp
      cases e with
      | normal =>
        obtain ⟨hk3, hp3, hi3⟩ := hp
        have hl3 := hk3.same _ _ (by omega) hlb' rfl
        have hd3 := hk3.same _ _ (Nat.le_refl _) hdb rfl
        have hbs3 : Bs < W3.heap.size := by have h5 := hp3.size; have h6 := hpb.size; omega
        refine ⟨_, _, run_endRound none hl3, rfl, ⟨turnI _ _ _ _ _ hi3 (by omega) hl3 rfl, by simpa using hbs3, ?_, (World.putObj_heap_other (by omega)).trans hd3⟩, hpa.trans (hpb.trans (hp3.trans (KeepP.of_turn hbs3 _ hl3 rfl (by omega))))⟩
        exact World.putObj_heap_same (heap_lt hl3)
      | ret => exact hp.elim
      | exit id => exact hp.elim
      | goto t => exact hp.elim
      | panic c => exact hp.elim
      | outgrown => exact hp.elim
    · -- the function has returned
      rintro e W2 ⟨⟨v, rfl⟩, hi, hbs, hl, hd⟩
      refine ⟨none, _, run_endLoop hl (by simp [rd]), ?_⟩
      exact hdone _ _ (Nat.le_refl _) (turnI _ _ _ _ _ hi (by omega) hl rfl) ((World.putObj_heap_other (by omega)).trans hd)
end Go.Proofs.Ytjchbdbdebgniaa
