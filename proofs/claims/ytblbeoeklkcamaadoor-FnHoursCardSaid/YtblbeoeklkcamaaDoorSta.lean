/- An append in a drawn region; nothing appended too. -/
import Derived.Test.YtblbeoeklkcamaaDoorKa
import Derived.Maps.AppendAt
import Derived.Deep.RegionHeld3
namespace Go.Proofs.YtblbeoeklkcamaaDoor
set_option linter.unusedVariables false
open Go.RowKit

theorem add_off2 (b o j : Nat) : (⟨b, o, none⟩ : Addr).add j = ⟨b, o + j, none⟩ := by cases j <;> simp [Addr.add]
theorem step_append_at {P : Program} {w : World} {ops : Array Oper} {o : Oper} {a : Act} {K : Act → World → Prop} {Q : Exit → Act → World → Prop} {E : Prop} (hgd : o.guard = none) (s x : Operand) (t : TypeId)
    (ho : o.op = .call { callee := .builtin .append, args := #[s, x], argTypes := #[t, t] })
    (base : Nat) (e : TypeId) (i : TypeInfo) (z : Value) (size bytes : Nat) (ht : P.underlying t = some (.slice e)) (hi : P.info? e = some i) (hz : i.zero = some z)
    (hsize : i.size = size) (hby : i.bytes = bytes) (hzs : z.cells.size = size) (hsz : 0 < size)
    (v : Value) (n : Nat) (xs : List Value) (hs : a.eval s = v) (hown : w.ownsRow base e size v n xs)
    (ad : Addr) (m c : Nat) (news : List Value) (hx : a.eval x = .slice (some ad) m c) (hl : news.length = m * size) (hnews : ∀ j u, news[j]? = some u → w.cell? (ad.add j) = some u) (h1 : ∀ u ∈ news, u.oneCell' = true)
    (h63 : n + m ≤ maxLen) (hbytes : (n + m) * bytes ≤ 140737488355328) (hbase : base ≤ w.heap.size)
    (h : ∀ v' w', w'.ownsRow base e size v' (n + m) (xs ++ news) → w.grownBy w' v.ownBlock → (v'.ownBlock = v.ownBlock ∨ v'.ownBlock = some w.heap.size) → (v = .slice none 0 0 ∨ v' ≠ .slice none 0 0) → K (a.put o.dst v') w') :
    if Region.wanted o (yielded ops a.tmps) = true then Oper.wp P o a w K Q else E := by
  have hw : Region.wanted o (yielded ops a.tmps) = true := by simp [Region.wanted, hgd]
  rw [if_pos hw]
  obtain ⟨v', w', hr, h2, h3, h4, h5⟩ := run_append_own_at (P := P) w base t o.type e i z size bytes ht hi hz hsize hby hzs hsz v n xs hown ad m c news hl hnews h1 h63 hbytes hbase
  unfold Oper.wp execOp
  simp only [ho, resolve, invoke, builtin, Sem.run_bind, Sem.run_pure, Result.andThen_ok, List.map_toArray, List.map_cons, List.map_nil, hs, hx, hr]
  exact h v' w' h2 h3 h5 (by
    by_cases e : v' = .slice none 0 0
    · exact .inl (h4.1 e).1
    · exact .inr e)
/-- Which address a slice from place k on has. -/
theorem drop_addr {α : Type} {c : Nat} {cells : α → List Value} (hc : ∀ p, (cells p).length = c) {w : World} {base g n cap k : Nat} {e : TypeId} {D : List α} (ho : w.ownsRow base e c (.slice (some ⟨g, 0, none⟩) n cap) n (flatC cells D)) (hn : D.length = n) :
    ∀ j u, (flatC cells (D.drop k))[j]? = some u → w.cell? ⟨g, k * c + j, none⟩ = some u := by
  intro j u hu
  have hd : flatC cells D = flatC cells (D.take k) ++ flatC cells (D.drop k) := by rw [← flatC_app, List.take_append_drop]
  have hj : j < (flatC cells (D.drop k)).length := by
    rcases Nat.lt_or_ge j (flatC cells (D.drop k)).length with h' | h'
    · exact h'
    · rw [List.getElem?_eq_none h'] at hu; cases hu
  by_cases hk : k ≤ n
  · have hl : (flatC cells (D.take k)).length = k * c := by rw [flatC_len hc, List.length_take, hn, Nat.min_eq_left hk]
    have h1 := ho.cellAt (k * c + j) (by
      have := flatC_len hc D
      rw [hd, List.length_append, hl, hn] at this
      omega)
    rw [h1, hd, List.getElem?_append_right (by omega), hl, Nat.add_sub_cancel_left]
    exact hu
  · rw [List.drop_of_length_le (by omega)] at hj
    simp [flatC] at hj
theorem take_cells {α : Type} {c : Nat} {cells : α → List Value} (hc : ∀ p, (cells p).length = c) {w : World} {base g n cap k : Nat} {e : TypeId} {D : List α} (ho : w.ownsRow base e c (.slice (some ⟨g, 0, none⟩) n cap) n (flatC cells D)) (hn : D.length = n) :
    ∀ j u, (flatC cells (D.take k))[j]? = some u → w.cell? ⟨g, j, none⟩ = some u := by
  intro j u hu
  have hd : flatC cells D = flatC cells (D.take k) ++ flatC cells (D.drop k) := by rw [← flatC_app, List.take_append_drop]
  have hj : j < (flatC cells (D.take k)).length := by
    rcases Nat.lt_or_ge j (flatC cells (D.take k)).length with h' | h'
    · exact h'
    · rw [List.getElem?_eq_none h'] at hu; cases hu
  rw [ho.cellAt j (by
    have := flatC_len hc D
    rw [hd, List.length_append, hn] at this
    omega), hd, List.getElem?_append_left hj]
  exact hu
end Go.Proofs.YtblbeoeklkcamaaDoor
