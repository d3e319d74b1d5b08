/- An element pushed onto an own slice, of which is known where it does not lie. -/
import Derived.Test.YtjchbdbdebgniaaKa
import Derived.Laws.OwnMore
import Derived.Maps.AppendAt
import Derived.Laws.AppendOwn
import Derived.Deep.AppendLies
import Derived.Deep.RegionHeld3
namespace Go.Proofs.Ytjchbdbdebgniaa
set_option linter.unusedVariables false
open Go.RowKit

/-- An own slice, not nil, that lies in none of the blocks lo .. hi - 1. -/
structure OutA (B lo hi : Nat) (w : World) (e : TypeId) (size g n c : Nat) (xs : List Value) : Prop where
  own : w.ownsRow B e size (.slice (some ⟨g, 0, none⟩) n c) n xs
  off : g < lo ∨ hi ≤ g
  top : hi ≤ w.heap.size
theorem OutA.lt {B lo hi : Nat} {w : World} {e : TypeId} {size g n c : Nat} {xs : List Value} (h : OutA B lo hi w e size g n c xs) : B ≤ g ∧ g < w.heap.size := h.own.lt g rfl
theorem OutA.next {B lo hi : Nat} {w w' : World} {e : TypeId} {size g n c : Nat} {xs : List Value} (h : OutA B lo hi w e size g n c xs) (hb : Below w.heap.size w w') : OutA B lo hi w' e size g n c xs :=
  ⟨own_below h.own hb, h.off, Nat.le_trans h.top hb.size⟩
/-- What stands in the blocks lo .. hi - 1 of w stands there in w'. -/
def KeepB (lo hi : Nat) (w w' : World) : Prop := ∀ q, lo ≤ q → q < hi → w'.heap[q]? = w.heap[q]?
theorem KeepB.refl (lo hi : Nat) (w : World) : KeepB lo hi w w := fun _ _ _ => rfl
theorem KeepB.trans {lo hi : Nat} {a b c : World} (h : KeepB lo hi a b) (k : KeepB lo hi b c) : KeepB lo hi a c := fun q h1 h2 => (k q h1 h2).trans (h q h1 h2)
theorem KeepB.of_below {lo hi : Nat} {a b : World} (h : Below a.heap.size a b) (hh : hi ≤ a.heap.size) : KeepB lo hi a b := fun q _ h2 => h.block q (Nat.lt_of_lt_of_le h2 hh)
theorem KeepB.cell {lo hi : Nat} {a b : World} (h : KeepB lo hi a b) {q i : Nat} (h1 : lo ≤ q) (h2 : q < hi) : b.cell? ⟨q, i, none⟩ = a.cell? ⟨q, i, none⟩ := by
  simp only [World.cell?]; rw [h q h1 h2]
theorem outA_made {B lo hi : Nat} (w : World) (e : TypeId) (size : Nat) (hB : B ≤ w.heap.size) (hh : hi ≤ w.heap.size) : OutA B lo hi (w.alloc (.cells #[] e)) e size w.heap.size 0 0 [] :=
  ⟨World.ownsRow_made _ _ _ hB (Nat.zero_le _) (by simp), .inr hh, by simp; omega⟩
theorem push_facts {wr w' : World} {B lo hi : Nat} {w0 : World} {e : TypeId} {size g n c : Nat} {xs news : List Value} {v' : Value} (ho : OutA B lo hi wr e size g n c xs) (hb : Below B w0 wr)
    (h2 : w'.ownsRow B e size v' (n + 1) (xs ++ news)) (h3 : (wr.alloc (.cells news.toArray e)).grownBy w' (Value.slice (some ⟨g, 0, none⟩) n c).ownBlock) (h5 : v'.ownBlock = (Value.slice (some ⟨g, 0, none⟩) n c).ownBlock ∨ v'.ownBlock = some (wr.alloc (.cells news.toArray e)).heap.size) :
    ∃ g' c', v' = .slice (some ⟨g', 0, none⟩) (n + 1) c' ∧ OutA B lo hi w' e size g' (n + 1) c' (xs ++ news) ∧ Below B w0 w' ∧ KeepB lo hi wr w' := by
  have hg := ho.lt
  have hBw : B ≤ wr.heap.size := by omega
  rcases h2.2 with ⟨_, h0⟩ | ⟨g', c', cur, rfl, _⟩
  · omega
  · have hoff : g' < lo ∨ hi ≤ g' := by
      rcases h5 with h5 | h5
      · have : g' = g := by simpa [Value.ownBlock] using h5
        rw [this]; exact ho.off
      · have : g' = wr.heap.size + 1 := by simpa [Value.ownBlock] using h5
        have := ho.top; omega
    refine ⟨g', c', rfl, ⟨h2, hoff, ?_⟩, ?_, ?_⟩
    · have h6 := h3.size; have h7 := ho.top; simp at h6; omega
    · refine (hb.alloc hBw _).grown h3 (by simp; omega) (fun q hq => ?_)
      have : g = q := by simpa [Value.ownBlock] using hq
      omega
    · intro q h1 hq
      have hlt : q < wr.heap.size := Nat.lt_of_lt_of_le hq ho.top
      refine (h3.block q (by simp; omega) (fun e => ?_)).trans (alloc_old hlt)
      have : g = q := by simpa [Value.ownBlock] using e.symm
      have := ho.off; omega
theorem wpList_push {P : Program} {wr : World} {ops : Array Oper} {rest : List Oper} {o : Oper} {a : Act} {Q : Exit → Act → World → Prop} (hgd : o.guard = none) (s x : Operand) (t : TypeId)
    (ho : o.op = .call { callee := .builtin .append, args := #[s, x], argTypes := #[t, t] }) (B lo hi : Nat) (w0 : World) (e : TypeId) (i : TypeInfo) (z : Value) (size bytes : Nat) (ht : P.underlying t = some (.slice e)) (hin : P.info? e = some i) (hz : i.zero = some z)
    (hsize : i.size = size) (hby : i.bytes = bytes) (hzs : z.cells.size = size) (hsz : 0 < size) (g n c : Nat) (xs news : List Value) (hs : a.eval s = .slice (some ⟨g, 0, none⟩) n c) (hx : a.eval x = .slice (some ⟨wr.heap.size, 0, none⟩) 1 1)
    (hl : news.length = size) (h1 : ∀ u ∈ news, u.oneCell' = true) (h63 : n < 100000) (hbs : bytes ≤ 1000) (hO : OutA B lo hi wr e size g n c xs) (hB : Below B w0 wr)
    (h : ∀ g' c' w', OutA B lo hi w' e size g' (n + 1) c' (xs ++ news) → Below B w0 w' → KeepB lo hi wr w' → wpList P ops Q rest (a.put o.dst (.slice (some ⟨g', 0, none⟩) (n + 1) c')) w') :
    wpList P ops Q (o :: rest) a (wr.alloc (.cells news.toArray e)) := by
  have hg := hO.lt
  refine wpList_append_own_at _ hgd s x t ho B e i z size bytes ht hin hz hsize hby hzs hsz _ n xs hs (hO.own.alloc _) ⟨wr.heap.size, 0, none⟩ 1 1 news hx (by rw [Nat.one_mul]; exact hl) (news_at (alloc_at rfl)) h1 (by unfold maxLen; omega) ?_ (by simp; omega) ?_
  · have := Nat.mul_le_mul (show n + 1 ≤ 100000 by omega) hbs; omega
  · intro v' w' r2 r3 _ r5
    obtain ⟨g', c', rfl, r6, r7, r8⟩ := push_facts hO hB r2 r3 r5
    exact h g' c' w' r6 r7 r8
/-- The same in a drawn region. -/
theorem step_push {P : Program} {wr : World} {ops : Array Oper} {o : Oper} {a : Act} {K : Act → World → Prop} {Q : Exit → Act → World → Prop} {E : Prop} (hgd : o.guard = none) (s x : Operand) (t : TypeId)
    (ho : o.op = .call { callee := .builtin .append, args := #[s, x], argTypes := #[t, t] }) (B lo hi : Nat) (w0 : World) (e : TypeId) (i : TypeInfo) (z : Value) (size bytes : Nat) (ht : P.underlying t = some (.slice e)) (hin : P.info? e = some i) (hz : i.zero = some z)
    (hsize : i.size = size) (hby : i.bytes = bytes) (hzs : z.cells.size = size) (hsz : 0 < size) (g n c : Nat) (xs news : List Value) (hs : a.eval s = .slice (some ⟨g, 0, none⟩) n c) (hx : a.eval x = .slice (some ⟨wr.heap.size, 0, none⟩) 1 1)
    (hl : news.length = size) (h1 : ∀ u ∈ news, u.oneCell' = true) (h63 : n < 100000) (hbs : bytes ≤ 1000) (hO : OutA B lo hi wr e size g n c xs) (hB : Below B w0 wr)
    (h : ∀ g' c' w', OutA B lo hi w' e size g' (n + 1) c' (xs ++ news) → Below B w0 w' → KeepB lo hi wr w' → K (a.put o.dst (.slice (some ⟨g', 0, none⟩) (n + 1) c')) w') :
    if Region.wanted o (yielded ops a.tmps) = true then Oper.wp P o a (wr.alloc (.cells news.toArray e)) K Q else E := by
  have hg := hO.lt
  refine step_append_lies _ hgd s x t ho B e i z size bytes ht hin hz hsize hby hzs hsz _ n xs hs (hO.own.alloc _) ⟨wr.heap.size, 0, none⟩ 1 1 news hx (by rw [Nat.one_mul]; exact hl) (news_at (alloc_at rfl)) h1 (by decide) (by unfold maxLen; omega) ?_ (by simp; omega) _ rfl ?_
  · have := Nat.mul_le_mul (show n + 1 ≤ 100000 by omega) hbs; omega
  · intro g' c' w' r2 r3 r5 _
    obtain ⟨g2, c2, r9, r6, r7, r8⟩ := push_facts hO hB r2 r3 (by rcases r5 with r5 | r5; exact .inl (by rw [r5]; rfl); exact .inr (by rw [r5]; rfl))
    injection r9 with r10 r11 r12
    injection r10 with r13
    injection r13 with r14
    subst r14; subst r12
    exact h g' c' w' r6 r7 r8
end Go.Proofs.Ytjchbdbdebgniaa
