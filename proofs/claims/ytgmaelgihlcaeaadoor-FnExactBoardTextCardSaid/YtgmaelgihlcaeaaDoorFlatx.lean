/- Slices of elements of c cells each: as a source of an append, an element stored. -/
import Derived.Test.YtgmaelgihlcaeaaDoorFlat
import Derived.OwnWalk
import Derived.Laws.AppendOwn
namespace Go.Proofs.YtgmaelgihlcaeaaDoor
set_option linter.unusedVariables false
open Go.RowKit

/-- What an append from such a slice reads, in every later world. -/
theorem RowsR.src {α : Type} {c : Nat} {cells : α → List Value} (hc : ∀ p, (cells p).length = c) (hpos : 0 < c) {w : World} {a : Option Addr} {cap : Nat} {ps : List α} (h : RowsR c cells w (.slice a ps.length cap) ps) :
    (a = none ∧ ps = []) ∨ ∃ ad, a = some ad ∧ ∀ w', Below w.heap.size w w' → ∀ j u, (flatC cells ps)[j]? = some u → w'.cell? (ad.add j) = some u := by
  obtain ⟨a', c', e, _, h3⟩ := h
  have : a = a' := by injection e
  subst this
  by_cases h0 : ps.length = 0
  · have e0 : ps = [] := List.length_eq_zero_iff.1 h0
    subst e0
    cases a with
    | none => exact .inl ⟨rfl, rfl⟩
    | some ad => exact .inr ⟨ad, rfl, fun w' _ j u hu => by simp [flatC] at hu⟩
  · obtain ⟨b, off, rfl, hlt, hcell⟩ := h3 (by omega)
    refine .inr ⟨_, rfl, fun w' hb j u hu => ?_⟩
    have hj : j < ps.length * c := by
      rcases Nat.lt_or_ge j (flatC cells ps).length with h' | h'
      · rwa [flatC_len hc] at h'
      · rw [List.getElem?_eq_none h'] at hu; cases hu
    have hi : j / c < ps.length := Nat.div_lt_of_lt_mul (by rw [Nat.mul_comm]; exact hj)
    have hr : j % c < c := Nat.mod_lt _ hpos
    have e : j / c * c + j % c = j := by rw [Nat.mul_comm]; exact Nat.div_add_mod j c
    have hadd : (⟨b, off, none⟩ : Addr).add j = ⟨b, off + j, none⟩ := by cases j <;> simp [Addr.add]
    rw [hadd, hb.cell (p := ⟨b, off + j, none⟩) hlt]
    have h1 := hcell _ hi _ hr
    have h2 := flatC_at hc ps _ hi _ hr
    rw [Nat.add_assoc, e] at h1
    rw [e] at h2
    rw [h1, ← h2]; exact hu
theorem flatC_one {α : Type} {cells : α → List Value} (h1 : ∀ p, ∀ u ∈ cells p, u.oneCell' = true) : ∀ (ps : List α), ∀ u ∈ flatC cells ps, u.oneCell' = true
  | [], u, hu => by cases hu
  | p :: t, u, hu => by
    rw [flatC] at hu
    rcases List.mem_append.1 hu with hu | hu
    · exact h1 p u hu
    · exact flatC_one h1 t u hu
/-- Element q set, cell by cell: whoever agrees with it everywhere is the row of the list so set. -/
theorem flatC_setf {α : Type} {c : Nat} {cells : α → List Value} (hc : ∀ p, (cells p).length = c) (hpos : 0 < c) (xs : List Value) (ps : List α) (q : Nat) (p' : α) (hl : xs.length = ps.length * c)
    (h : ∀ i (_ : i < ps.length) j, j < c → i ≠ q → xs[i * c + j]? = (cells ps[i])[j]?) (hq : q < ps.length → ∀ j, j < c → xs[q * c + j]? = (cells p')[j]?) : xs = flatC cells (ps.set q p') := by
  refine flatC_of hc hpos xs _ (by rw [List.length_set]; exact hl) fun i hi j hj => ?_
  have hi' : i < ps.length := by simpa using hi
  by_cases e : i = q
  · subst e
    rw [List.getElem_set_self]
    exact hq hi' j hj
  · rw [List.getElem_set_ne (by omega)]
    exact h i hi' j hj e
theorem cells_apart {c q i f j : Nat} (hf : f < c) (hj : j < c) (h : i ≠ q) : q * c + f ≠ i * c + j := by
  intro e
  rcases Nat.lt_or_gt_of_ne h with h' | h'
  · have : (i + 1) * c ≤ q * c := Nat.mul_le_mul_right c h'
    rw [Nat.succ_mul] at this; omega
  · have : (q + 1) * c ≤ i * c := Nat.mul_le_mul_right c h'
    rw [Nat.succ_mul] at this; omega
/-- One cell of element q set. -/
theorem flatC_set1 {α : Type} {c : Nat} {cells : α → List Value} (hc : ∀ p, (cells p).length = c) (ps : List α) (q f : Nat) (hq : q < ps.length) (hf : f < c) (u : Value) (p' : α) (hp : cells p' = (cells ps[q]).set f u) :
    (flatC cells ps).set (q * c + f) u = flatC cells (ps.set q p') := by
  have hlen := flatC_len hc ps
  have hqf : q * c + f < ps.length * c := by
    have : (q + 1) * c ≤ ps.length * c := Nat.mul_le_mul_right c hq
    rw [Nat.succ_mul] at this; omega
  refine flatC_setf hc (by omega) _ ps q p' (by rw [List.length_set]; exact hlen) (fun i hi j hj e => ?_) (fun _ j hj => ?_)
  · rw [List.getElem?_set_ne (cells_apart hf hj e)]
    exact flatC_at hc ps i hi j hj
  · rw [hp]
    by_cases e : j = f
    · subst e
      rw [List.getElem?_set_self (by rw [hlen]; exact hqf), List.getElem?_set_self (by rw [hc]; exact hf)]
    · rw [List.getElem?_set_ne (by omega), List.getElem?_set_ne (by omega)]
      exact flatC_at hc ps q hq j hj
theorem own_eq {w : World} {B : Nat} {e : TypeId} {size : Nat} {v : Value} {n : Nat} {xs ys : List Value} (h : w.ownsRow B e size v n xs) (hx : xs = ys) : w.ownsRow B e size v n ys := by subst hx; exact h
theorem own_nil' (w : World) (B : Nat) (e : TypeId) (size : Nat) : w.ownsRow B e size (.slice none 0 0) 0 [] := ⟨by simp, .inl ⟨rfl, rfl⟩⟩
theorem own_some {w : World} {base size n : Nat} {e : TypeId} {v : Value} {xs : List Value} (h : w.ownsRow base e size v n xs) (hn : 0 < n) : ∃ g cap, v = .slice (some ⟨g, 0, none⟩) n cap := by
  rcases h.2 with ⟨_, h0⟩ | ⟨g, cap, cur, rfl, _⟩
  · omega
  · exact ⟨g, cap, rfl⟩
theorem news_at {w : World} {b : Nat} {vs : List Value} {t : TypeId} (h : w.heap[b]? = some (.cells vs.toArray t (0, 0))) : ∀ j u, vs[j]? = some u → w.cell? ((⟨b, 0, none⟩ : Addr).add j) = some u := by
  intro j u hu
  rw [add_off, Nat.zero_add]
  simp only [World.cell?, h]
  simpa using hu

theorem to_rows {α : Type} {c : Nat} {cells : α → List Value} (hc : ∀ p, (cells p).length = c) {P : Program} {f : Nat} {av : Array Value} {w : World} {e0 : TypeId} {qs : List α} {mk : Value → Value}
    (h : Calls P f av w fun e w' => (∃ sq, e = .returned (mk sq) ∧ w'.ownsRow w.heap.size e0 c sq qs.length (flatC cells qs)) ∧ Below w.heap.size w w') :
    Calls P f av w fun e w' => (∃ sq, e = .returned (mk sq) ∧ RowsR c cells w' sq qs) ∧ Below w.heap.size w w' :=
  h.mono fun _ _ ⟨⟨sq, he, ho⟩, hb⟩ => ⟨⟨sq, he, RowsR.of_own hc ho⟩, hb⟩

end Go.Proofs.YtgmaelgihlcaeaaDoor
