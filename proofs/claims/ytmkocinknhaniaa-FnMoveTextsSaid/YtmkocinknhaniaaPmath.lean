/- Texts of moves read back: bytes, words, pieces. -/
import Derived.Test.YtmkocinknhaniaaMtxt
import Derived.Test.YtmkocinknhaniaaSplit
import Derived.Test.YtmkocinknhaniaaMread
import Derived.Test.YtmkocinknhaniaaKa
namespace Go.Proofs.Ytmkocinknhaniaa
set_option linter.unusedVariables false
open Go.RowKit

theorem bneS {a b : ByteArray} (h : a ≠ b) : (!a.toList == b.toList) = true := by
  rw [Bool.not_eq_true', beq_eq_false_iff_ne]
  intro e
  exact h (by rw [ByteArray.toList_eq, ByteArray.toList_eq] at e; exact ByteArray.ext (Array.ext' e))
theorem bneSF {a b : ByteArray} (h : a = b) : (!a.toList == b.toList) = false := by subst h; simp
def ulI (b : UInt8) : Int := if b = 117 then 0 else if b = 108 then 1 else -1
def mvI (a b c d : UInt8) : Mv := ⟨(a.toNat : Int) - 48, ulI b, if c = 45 then -((d.toNat : Int) - 48) else (d.toNat : Int) - 48⟩
def bA (s : ByteArray) (i : Nat) : UInt8 := s.data.toList.getD i 0
/-- The program's pieces. -/
def mvP (s : ByteArray) (j : Nat) : Mv := mvI (bA s (5 * j)) (bA s (5 * j + 1)) (bA s (5 * j + 2)) (bA s (5 * j + 3))
def prgL (s : ByteArray) (k : Nat) : List Mv := (List.range k).map (mvP s)
theorem prgL_len (s : ByteArray) (k : Nat) : (prgL s k).length = k := by simp [prgL]
theorem prgL_snoc (s : ByteArray) (k : Nat) : prgL s (k + 1) = prgL s k ++ [mvP s k] := by simp [prgL, List.range_succ]
def cntP (s : ByteArray) : Nat := min 60 ((s.size + 1) / 5)
/-- The model's words. -/
def mdlL (s : ByteArray) (k : Nat) : List Mv := ((spl 32 s.data.toList).take k).map fun l => readM ⟨l.toArray⟩
theorem mdlL_snoc (s : ByteArray) (k : Nat) (h : k < (spl 32 s.data.toList).length) : mdlL s (k + 1) = mdlL s k ++ [readM ⟨((spl 32 s.data.toList)[k]).toArray⟩] := by
  unfold mdlL; rw [List.take_succ_eq_append_getElem h, List.map_append]; rfl

theorem mvT_len (m : Mv) : (mvT m).length = 4 := rfl
theorem sepT_cons (m : Mv) (t : List Mv) : sepT (m :: t) = 32 :: mvT m ++ sepT t := by simp [sepT]
theorem msT_cons (m : Mv) (t : List Mv) : msT (m :: t) = mvT m ++ sepT t := by unfold msT; rw [sepT_cons]; rfl
theorem chD_sub (x : Int) (h0 : 0 ≤ x) (h1 : x ≤ 9) : ((chD x).toNat : Int) - 48 = x := by have := chD_nat x h0 h1; omega
theorem amt_abs {x : Int} (h : -5 ≤ x ∧ x ≤ 5) : 0 ≤ (if 0 < x then x else -x) ∧ (if 0 < x then x else -x) ≤ 9 := by split <;> omega
theorem mvI_ok (m : Mv) (h : okMv m) : mvI (chD m.rod) (ulT m.part) (sgT m.amt) (chD (if 0 < m.amt then m.amt else -m.amt)) = m := by
  obtain ⟨rod, part, amt⟩ := m
  obtain ⟨⟨r0, r1⟩, ⟨t0, t1⟩, ha, hne⟩ := h
  dsimp only at r0 r1 t0 t1 ha hne ⊢
  have e1 := chD_sub rod r0 (by omega)
  have e2 := chD_sub _ (amt_abs ha).1 (amt_abs ha).2
  have e3 : ulI (ulT part) = part := by
    have : part = 0 ∨ part = 1 := by omega
    rcases this with rfl | rfl <;> rfl
  unfold mvI
  rw [e1, e2, e3]
  by_cases hp : 0 < amt
  · have : sgT amt = 43 := by unfold sgT; rw [if_pos hp]
    rw [this, if_neg (by decide), if_pos hp]
  · have : sgT amt = 45 := by unfold sgT; rw [if_neg hp]
    rw [this, if_pos rfl, if_neg hp]; congr 1; omega
theorem rdM_ok (m : Mv) (h : okMv m) : rdM (chD m.rod) (ulT m.part) (sgT m.amt) (chD (if 0 < m.amt then m.amt else -m.amt)) = m := by
  obtain ⟨rod, part, amt⟩ := m
  obtain ⟨⟨r0, r1⟩, ⟨t0, t1⟩, ha, hne⟩ := h
  dsimp only at r0 r1 t0 t1 ha hne ⊢
  have e1 := chD_sub rod r0 (by omega)
  have e2 := chD_sub _ (amt_abs ha).1 (amt_abs ha).2
  have e3 : (if ulT part = 108 then (1 : Int) else 0) = part := by
    have : part = 0 ∨ part = 1 := by omega
    rcases this with rfl | rfl <;> rfl
  unfold rdM
  rw [e1, e2, e3]
  by_cases hp : 0 < amt
  · have : sgT amt = 43 := by unfold sgT; rw [if_pos hp]
    rw [this, if_neg (by decide), if_pos hp]
  · have : sgT amt = 45 := by unfold sgT; rw [if_neg hp]
    rw [this, if_pos rfl, if_neg hp]; congr 1; omega
theorem readM_T (m : Mv) (h : okMv m) : readM ⟨(mvT m).toArray⟩ = m := by
  have hs : (⟨(mvT m).toArray⟩ : ByteArray).size = 4 := rfl
  unfold readM
  rw [dif_pos hs]
  exact rdM_ok m h
theorem chD_no (x : Int) (h0 : 0 ≤ x) (h1 : x ≤ 9) : (32 : UInt8) ≠ chD x := by
  intro e
  have := chD_nat x h0 h1
  rw [← e] at this
  have h32 : ((32 : UInt8).toNat : Int) = 32 := rfl
  omega
theorem mvT_no (m : Mv) (h : okMv m) : (32 : UInt8) ∉ mvT m := by
  obtain ⟨rod, part, amt⟩ := m
  obtain ⟨⟨r0, r1⟩, ⟨t0, t1⟩, ha, hne⟩ := h
  dsimp only at r0 r1 t0 t1 ha hne
  intro hm
  unfold mvT at hm
  simp only [List.mem_cons, List.not_mem_nil, or_false] at hm
  rcases hm with e | e | e | e
  · exact chD_no rod r0 (by omega) e
  · unfold ulT at e; split at e <;> exact absurd e (by decide)
  · unfold sgT at e; split at e <;> exact absurd e (by decide)
  · exact chD_no _ (amt_abs ha).1 (amt_abs ha).2 e
theorem spl_ms : ∀ (t : List Mv) (m : Mv), (∀ x ∈ m :: t, okMv x) → spl 32 (mvT m ++ sepT t) = mvT m :: t.map mvT
  | [], m, h => by
    have e : mvT m ++ sepT [] = mvT m := by simp [sepT]
    rw [e, spl_none 32 _ (mvT_no m (h m (by simp)))]; rfl
  | x :: t, m, h => by
    have e : mvT m ++ sepT (x :: t) = mvT m ++ 32 :: (mvT x ++ sepT t) := by rw [sepT_cons]; rfl
    rw [e, spl_hit 32 _ _ (mvT_no m (h m (by simp))), spl_ms t x (fun y hy => h y (by simp at hy ⊢; exact .inr hy))]; rfl
theorem okMs_mem {ms : List Mv} (h : okMs ms) : ∀ x ∈ ms, okMv x := fun x hx => by
  obtain ⟨k, hk, rfl⟩ := List.getElem_of_mem hx; exact h.1 k hk
/-- A text of moves gives the moves back: the model's way. -/
theorem mdl_back (s : ByteArray) (ms : List Mv) (h : okMs ms) (h0 : ms ≠ []) (ht : s.data.toList = msT ms) : mdlL s 61 = ms := by
  cases ms with
  | nil => exact absurd rfl h0
  | cons m t =>
    have hk := okMs_mem h
    have hl := h.2
    unfold mdlL
    rw [ht, msT_cons, spl_ms t m hk, List.take_of_length_le (by simp at hl ⊢; omega)]
    have : ∀ l : List Mv, (∀ x ∈ l, okMv x) → (l.map mvT).map (fun l => readM ⟨l.toArray⟩) = l := by
      intro l
      induction l with
      | nil => intro _; rfl
      | cons a l ih => intro hl; rw [List.map_cons, List.map_cons, readM_T a (hl a (by simp)), ih (fun x hx => hl x (by simp [hx]))]
    exact this (m :: t) hk
theorem msT_at : ∀ (ms : List Mv) (j : Nat) (h : j < ms.length) (i : Nat), i < 4 → (msT ms)[5 * j + i]? = (mvT ms[j])[i]?
  | [], j, h, _, _ => by simp at h
  | m :: t, 0, _, i, hi => by
    rw [msT_cons, List.getElem?_append_left (by rw [mvT_len]; omega)]
    simp
  | m :: t, j + 1, h, i, hi => by
    rw [msT_cons, List.getElem?_append_right (by rw [mvT_len]; omega), mvT_len]
    have hj : j < t.length := by simpa using h
    have ih := msT_at t j hj i hi
    have e1 : sepT t = 32 :: msT t := by
      cases t with
      | nil => simp at hj
      | cons a b => rw [sepT_cons, msT_cons]; rfl
    rw [e1, show 5 * (j + 1) + i - 4 = (5 * j + i) + 1 by omega, List.getElem?_cons_succ, ih]
    rfl
theorem msT_size (s : ByteArray) (ms : List Mv) (ht : s.data.toList = msT ms) : s.size = 5 * ms.length - 1 := by
  have h1 : s.data.toList.length = s.size := by simp
  rw [← h1, ht, msT_len]
/-- .. the program's way. -/
theorem prg_back (s : ByteArray) (ms : List Mv) (h : okMs ms) (ht : s.data.toList = msT ms) : prgL s (cntP s) = ms := by
  have hs := msT_size s ms ht
  have hc : cntP s = ms.length := by unfold cntP; have := h.2; cases hl : ms.length <;> omega
  rw [hc]
  refine List.ext_getElem (by rw [prgL_len]) fun j h1 h2 => ?_
  have h3 : (prgL s ms.length)[j] = mvP s j := by simp [prgL]
  rw [h3]
  have g : ∀ i, i < 4 → bA s (5 * j + i) = (mvT ms[j]).getD i 0 := fun i hi => by
    unfold bA
    rw [ht, List.getD_eq_getElem?_getD, List.getD_eq_getElem?_getD, msT_at ms j h2 i hi]
  have g0 := g 0 (by omega)
  have g1 := g 1 (by omega)
  have g2 := g 2 (by omega)
  have g3 := g 3 (by omega)
  rw [Nat.add_zero] at g0
  unfold mvP
  rw [g0, g1, g2, g3]
  exact mvI_ok ms[j] (h.1 j h2)
/-- ParseMoves: the answer. -/
def PmF (s : ByteArray) (ms : List Mv) (t : Bool) : Prop := (okMs ms ∧ s.data.toList = msT ms ∧ t = true) ∨ ((¬ ∃ m, okMs m ∧ s.data.toList = msT m) ∧ ms = [] ∧ t = false)
theorem pmF_or (s : ByteArray) : ∃ ms t, PmF s ms t := by
  by_cases h : ∃ m, okMs m ∧ s.data.toList = msT m
  · obtain ⟨m, h1, h2⟩ := h; exact ⟨m, true, .inl ⟨h1, h2, rfl⟩⟩
  · exact ⟨[], false, .inr ⟨h, rfl, rfl⟩⟩
theorem pmF_len {s : ByteArray} {ms : List Mv} {t : Bool} (h : PmF s ms t) : ms.length ≤ 60 := by
  rcases h with ⟨h, _⟩ | ⟨_, rfl, _⟩
  · exact h.2
  · simp
/-- The same, said of what was read. -/
def TstF (s : ByteArray) (L ms : List Mv) (t : Bool) : Prop := (okMs L ∧ s.data.toList = msT L ∧ ms = L ∧ t = true) ∨ (¬ (okMs L ∧ s.data.toList = msT L) ∧ ms = [] ∧ t = false)
theorem tst_prg {s : ByteArray} {ms : List Mv} {t : Bool} (h : PmF s ms t) : TstF s (prgL s (cntP s)) ms t := by
  rcases h with ⟨h1, h2, h3⟩ | ⟨h1, h2, h3⟩
  · have e := prg_back s ms h1 h2
    rw [e]; exact .inl ⟨h1, h2, rfl, h3⟩
  · exact .inr ⟨fun h => h1 ⟨_, h⟩, h2, h3⟩
theorem tst_mdl {s : ByteArray} {ms : List Mv} {t : Bool} (h : PmF s ms t) (h0 : s.data.toList ≠ []) : TstF s (mdlL s 61) ms t := by
  rcases h with ⟨h1, h2, h3⟩ | ⟨h1, h2, h3⟩
  · have e := mdl_back s ms h1 (fun e => h0 (by rw [h2, e]; rfl)) h2
    rw [e]; exact .inl ⟨h1, h2, rfl, h3⟩
  · exact .inr ⟨fun h => h1 ⟨_, h⟩, h2, h3⟩
end Go.Proofs.Ytmkocinknhaniaa
