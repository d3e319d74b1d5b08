/- A row of two numbers pushed onto rows. -/
import Derived.Test.YtblbeoeklkcamaaDoorPush
import Derived.Test.YtblbeoeklkcamaaDoorSta
namespace Go.Proofs.YtblbeoeklkcamaaDoor
set_option linter.unusedVariables false
open Go.RowKit

theorem Tryd.infoInL2 : (Tryd.prog.info? 33).map (fun i => (i.zero, i.size, i.bytes)) = some (some (.slice none 0 0), 1, 24) := by kernel_rfl
theorem own_two (w : World) (B : Nat) (hB : B ≤ w.heap.size) (a b : Int) : (w.alloc (.cells #[.int .i64 a, .int .i64 b] 3)).ownsRow B 3 1 (.slice (some ⟨w.heap.size, 0, none⟩) 2 2) [a, b].length (flatC inC [a, b]) :=
  ⟨by simp [flatC, inC], .inr ⟨w.heap.size, 2, _, rfl, hB, heap_alloc_new w _, Nat.le_refl _, by decide, rfl, by simp [flatC, inC]⟩⟩
theorem push2_facts {lo : Nat} {wr w0 w' : World} {out v' : Value} {vs : List Value} {qs : List (List Int)} {a b : Int} (hss : OwnSS lo wr.heap.size wr out vs qs) (hB : Below lo w0 wr) (hlo : lo ≤ wr.heap.size)
    (h2 : w'.ownsRow lo 33 1 v' (vs.length + 1) (vs ++ [.slice (some ⟨wr.heap.size, 0, none⟩) 2 2])) (h3 : ((wr.alloc (.cells #[.int .i64 a, .int .i64 b] 3)).alloc (.cells #[.slice (some ⟨wr.heap.size, 0, none⟩) 2 2] 33)).grownBy w' out.ownBlock) (h5 : v'.ownBlock = out.ownBlock ∨ v'.ownBlock = some ((wr.alloc (.cells #[.int .i64 a, .int .i64 b] 3)).alloc (.cells #[.slice (some ⟨wr.heap.size, 0, none⟩) 2 2] 33)).heap.size) :
    OwnSS lo w'.heap.size w' v' (vs ++ [.slice (some ⟨wr.heap.size, 0, none⟩) 2 2]) (qs ++ [[a, b]]) ∧ Below lo w0 w' := by
  have hb2 : Below wr.heap.size wr ((wr.alloc (.cells #[.int .i64 a, .int .i64 b] 3)).alloc (.cells #[.slice (some ⟨wr.heap.size, 0, none⟩) 2 2] 33)) := ((Below.refl _ _).alloc (Nat.le_refl _) _).alloc (by simp) _
  exact ⟨hss.push (Nat.le_refl _) hb2 ((own_two wr _ (Nat.le_refl _) a b).alloc _) h2 h3 h5, ((hB.alloc hlo _).alloc (by simp; omega) _).grown h3 (by simp; omega) (fun k hk => (hss.outer.1.lt k hk).1)⟩
theorem wpList_push2 {ops : Array Oper} {rest : List Oper} {o : Oper} {a : Act} {Q : Exit → Act → World → Prop} (hgd : o.guard = none) (s x : Operand)
    (ho : o.op = .call { callee := .builtin .append, args := #[s, x], argTypes := #[26, 26] }) (wr w0 : World) (lo : Nat) (out : Value) (vs : List Value) (qs : List (List Int)) (A B : Int) (hs : a.eval s = out) (hx : a.eval x = .slice (some ⟨wr.heap.size + 1, 0, none⟩) 1 1)
    (hss : OwnSS lo wr.heap.size wr out vs qs) (hB : Below lo w0 wr) (hlo : lo ≤ wr.heap.size) (hn : vs.length ≤ 100000)
    (h : ∀ v' w', OwnSS lo w'.heap.size w' v' (vs ++ [.slice (some ⟨wr.heap.size, 0, none⟩) 2 2]) (qs ++ [[A, B]]) → Below lo w0 w' → wpList Tryd.prog ops Q rest (a.put o.dst v') w') :
    wpList Tryd.prog ops Q (o :: rest) a ((wr.alloc (.cells #[.int .i64 A, .int .i64 B] 3)).alloc (.cells #[.slice (some ⟨wr.heap.size, 0, none⟩) 2 2] 33)) := by
  obtain ⟨i1, ii, iz0, iz1, iz2⟩ := info_parts Tryd.infoInL2
  refine wpList_append_own_at _ hgd s x _ ho lo 33 i1 (.slice none 0 0) 1 24 Tryd.underlying26 ii iz0 iz1 iz2 rfl (by decide) out vs.length vs hs ((hss.outer.1.alloc _).alloc _) ⟨wr.heap.size + 1, 0, none⟩ 1 1 [.slice (some ⟨wr.heap.size, 0, none⟩) 2 2] hx rfl ?_ (fun u hu => by rw [List.mem_singleton.1 hu]; rfl) (by unfold maxLen; omega) (by omega) (by simp; omega) ?_
  · have := one_new (wr.alloc (.cells #[.int .i64 A, .int .i64 B] 3)) (.slice (some ⟨wr.heap.size, 0, none⟩) 2 2) 33
    simpa using this
  · intro v' w' r2 r3 _ r5
    obtain ⟨g1, g2⟩ := push2_facts hss hB hlo r2 r3 r5
    exact h v' w' g1 g2
theorem wpList_push2k {ops : Array Oper} {rest : List Oper} {o : Oper} {a : Act} {Q : Exit → Act → World → Prop} (hgd : o.guard = none) (s x : Operand)
    (ho : o.op = .call { callee := .builtin .append, args := #[s, x], argTypes := #[26, 26] }) (wr w0 : World) (lo : Nat) (out : Value) (vs : List Value) (qs : List (List Int)) (A B : Int) (hs : a.eval s = out) (hx : a.eval x = .slice (some ⟨wr.heap.size + 1, 0, none⟩) 1 1)
    (hss : OwnSS lo wr.heap.size wr out vs qs) (hB : Below lo w0 wr) (hlo : lo ≤ wr.heap.size) (hn : vs.length ≤ 100000)
    (h : ∀ v' w', OwnSS lo w'.heap.size w' v' (vs ++ [.slice (some ⟨wr.heap.size, 0, none⟩) 2 2]) (qs ++ [[A, B]]) → Below lo w0 w' → (∀ q, q < wr.heap.size → some q ≠ out.ownBlock → w'.heap[q]? = wr.heap[q]? ∧ some q ≠ v'.ownBlock) → wpList Tryd.prog ops Q rest (a.put o.dst v') w') :
    wpList Tryd.prog ops Q (o :: rest) a ((wr.alloc (.cells #[.int .i64 A, .int .i64 B] 3)).alloc (.cells #[.slice (some ⟨wr.heap.size, 0, none⟩) 2 2] 33)) := by
  obtain ⟨i1, ii, iz0, iz1, iz2⟩ := info_parts Tryd.infoInL2
  refine wpList_append_own_at _ hgd s x _ ho lo 33 i1 (.slice none 0 0) 1 24 Tryd.underlying26 ii iz0 iz1 iz2 rfl (by decide) out vs.length vs hs ((hss.outer.1.alloc _).alloc _) ⟨wr.heap.size + 1, 0, none⟩ 1 1 [.slice (some ⟨wr.heap.size, 0, none⟩) 2 2] hx rfl ?_ (fun u hu => by rw [List.mem_singleton.1 hu]; rfl) (by unfold maxLen; omega) (by omega) (by simp; omega) ?_
  · have := one_new (wr.alloc (.cells #[.int .i64 A, .int .i64 B] 3)) (.slice (some ⟨wr.heap.size, 0, none⟩) 2 2) 33
    simpa using this
  · intro v' w' r2 r3 _ r5
    obtain ⟨g1, g2⟩ := push2_facts hss hB hlo r2 r3 r5
    refine h v' w' g1 g2 (fun q hq hne => ⟨(r3.block q (by simp; omega) hne).trans ((alloc_old (by simp; omega)).trans (alloc_old hq)), ?_⟩)
    rcases r5 with r5 | r5
    · rw [r5]; exact hne
    · rw [r5]; intro e; simp at e; omega
theorem step_push2 {ops : Array Oper} {o : Oper} {a : Act} {K : Act → World → Prop} {Q : Exit → Act → World → Prop} {E : Prop} (hgd : o.guard = none) (s x : Operand)
    (ho : o.op = .call { callee := .builtin .append, args := #[s, x], argTypes := #[26, 26] }) (wr w0 : World) (lo : Nat) (out : Value) (vs : List Value) (qs : List (List Int)) (A B : Int) (hs : a.eval s = out) (hx : a.eval x = .slice (some ⟨wr.heap.size + 1, 0, none⟩) 1 1)
    (hss : OwnSS lo wr.heap.size wr out vs qs) (hB : Below lo w0 wr) (hlo : lo ≤ wr.heap.size) (hn : vs.length ≤ 100000)
    (h : ∀ v' w', OwnSS lo w'.heap.size w' v' (vs ++ [.slice (some ⟨wr.heap.size, 0, none⟩) 2 2]) (qs ++ [[A, B]]) → Below lo w0 w' → K (a.put o.dst v') w') :
    if Region.wanted o (yielded ops a.tmps) = true then Oper.wp Tryd.prog o a ((wr.alloc (.cells #[.int .i64 A, .int .i64 B] 3)).alloc (.cells #[.slice (some ⟨wr.heap.size, 0, none⟩) 2 2] 33)) K Q else E := by
  obtain ⟨i1, ii, iz0, iz1, iz2⟩ := info_parts Tryd.infoInL2
  refine step_append_at hgd s x _ ho lo 33 i1 (.slice none 0 0) 1 24 Tryd.underlying26 ii iz0 iz1 iz2 rfl (by decide) out vs.length vs hs ((hss.outer.1.alloc _).alloc _) ⟨wr.heap.size + 1, 0, none⟩ 1 1 [.slice (some ⟨wr.heap.size, 0, none⟩) 2 2] hx rfl ?_ (fun u hu => by rw [List.mem_singleton.1 hu]; rfl) (by unfold maxLen; omega) (by omega) (by simp; omega) ?_
  · have := one_new (wr.alloc (.cells #[.int .i64 A, .int .i64 B] 3)) (.slice (some ⟨wr.heap.size, 0, none⟩) 2 2) 33
    simpa using this
  · intro v' w' r2 r3 r5 _
    obtain ⟨g1, g2⟩ := push2_facts hss hB hlo r2 r3 r5
    exact h v' w' g1 g2
theorem offs_boundL (c : Nat) : ∀ (xss : List (List Int)) (m : Nat), (∀ ys ∈ xss, ys.length ≤ c) → offs xss m ≤ xss.length * c
  | [], _, _ => by simp [offs]
  | x :: t, 0, _ => by rw [offs_zero]; exact Nat.zero_le _
  | x :: t, m + 1, h => by
    have h1 := offs_boundL c t m (fun ys hy => h ys (List.mem_cons_of_mem _ hy))
    have h2 := h x (by simp)
    simp only [offs, List.length_cons]
    rw [Nat.succ_mul]; omega
end Go.Proofs.YtblbeoeklkcamaaDoor
