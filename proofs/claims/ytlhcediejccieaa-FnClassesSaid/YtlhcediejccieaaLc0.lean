/- What the law FnClasses asks of the functions over pupils. -/
import Derived.Test.YtlhcediejccieaaPcls
import Derived.Test.YtlhcediejccieaaPput
import Derived.Test.YtlhcediejccieaaPswap
import Derived.Test.YtlhcediejccieaaPmem
import Derived.Test.YtlhcediejccieaaPin
import Derived.Test.YtlhcediejccieaaPi1
import Derived.Test.YtlhcediejccieaaPs1
namespace Go.Proofs.Ytlhcediejccieaa
set_option linter.unusedVariables false
open Go.RowKit
set_option linter.unusedSimpArgs false

def PuB (f : Nat) (av : Array Value) (w : World) (qs : List Pu) (b : Bool) : Prop :=
  Calls Try.prog f av w fun e w' => (∃ v, e = .returned (.tuple #[v, .bool b]) ∧ RowsR 5 puC w' v qs) ∧ Below w.heap.size w w'
theorem ofOwnPu {f : Nat} {av : Array Value} {w : World} {qs : List Pu} {b : Bool} (h : Calls Try.prog f av w fun e w' => (∃ v, e = .returned (.tuple #[v, .bool b]) ∧ w'.ownsRow w.heap.size 38 5 v qs.length (flatC puC qs)) ∧ Below w.heap.size w w') : PuB f av w qs b :=
  h.mono fun _ _ ⟨⟨v, he, ho⟩, hb⟩ => ⟨⟨v, he, RowsR.of_own puC_len ho⟩, hb⟩
def IpB (f : Nat) (av : Array Value) (w : World) (xs : List Int) (b : Bool) : Prop :=
  Calls Try.prog f av w fun e w' => (∃ v, e = .returned (.tuple #[v, .bool b]) ∧ RowsR 1 inC w' v xs) ∧ Below w.heap.size w w'
theorem ofOwnIp {f : Nat} {av : Array Value} {w : World} {xs : List Int} {b : Bool} (h : Calls Try.prog f av w fun e w' => (∃ v, e = .returned (.tuple #[v, .bool b]) ∧ w'.ownsRow w.heap.size 3 1 v xs.length (flatC inC xs)) ∧ Below w.heap.size w w') : IpB f av w xs b :=
  h.mono fun _ _ ⟨⟨v, he, ho⟩, hb⟩ => ⟨⟨v, he, RowsR.of_own inC_len ho⟩, hb⟩
theorem clsF_mem {ps : List Pu} {k : Nat} {hk : k < ps.length} : ∀ {n : Nat} {xs : List Int}, ClsF ps k hk n xs → (∀ x ∈ xs, x ≤ (n : Int)) ∧ ∀ c : Int, 1 ≤ c → c ≤ (n : Int) → (c ∈ xs ↔ okL (put ps k hk c))
  | 0, xs, h => by
    have e : xs = [] := h
    subst e
    exact ⟨(fun x hx => by cases hx), (fun c h1 h2 => by omega)⟩
  | n + 1, xs, ⟨ys, h1, h2⟩ => by
    obtain ⟨i1, i2⟩ := clsF_mem h1
    rcases h2 with ⟨ho, rfl⟩ | ⟨ho, rfl⟩
    · refine ⟨fun x hx => ?_, fun c c1 c2 => ?_⟩
      · rcases List.mem_append.1 hx with h | h
        · have := i1 x h; omega
        · rw [List.mem_singleton.1 h]; omega
      · by_cases e : c = (n : Int) + 1
        · subst e; simp [ho]
        · rw [← i2 c c1 (by omega), List.mem_append, List.mem_singleton]
          exact ⟨fun h => h.resolve_right e, .inl⟩
    · refine ⟨fun x hx => by have := i1 x hx; omega, fun c c1 c2 => ?_⟩
      by_cases e : c = (n : Int) + 1
      · subst e
        exact ⟨fun h => by have := i1 _ h; omega, fun h => absurd h ho⟩
      · exact i2 c c1 (by omega)
theorem nm_max {ps : List Pu} (h : ∀ p ∈ ps, p.name.size ≤ 11) : ∀ p ∈ ps, p.name.size ≤ maxLen := fun p hp => by have := h p hp; unfold maxLen; omega
theorem in_any (ps : List Pu) (hn : ∀ p ∈ ps, p.name.size ≤ maxLen) (c : Int) : ∃ (xs : List Int) (t : Bool), (∀ w v, RowsR 5 puC w v ps → IpB 12 #[v, .int .i64 c] w xs t) ∧ (okL ps → 0 ≤ c → c ≤ 9 → t = true ∧ xs = idL (memC c ps)) := by
  obtain ⟨ms, r, hm⟩ := memF_or ps c
  refine ⟨idL ms, r, fun w v h => ofOwnIp (implInClass_any v ps c w h hn ms r hm), fun h1 h2 h3 => ?_⟩
  rcases hm with ⟨-, -, rfl, rfl⟩ | ⟨hx, -, -⟩
  · exact ⟨rfl, rfl⟩
  · exact absurd ⟨h1, h2, h3⟩ hx
theorem put_in {ps : List Pu} {k : Nat} {hk : k < ps.length} {c id : Int} (he : ps[k].id = id) : id ∈ idL (memC c (put ps k hk c)) := by
  have h1 : k < (put ps k hk c).length := by unfold put; rw [List.length_set]; exact hk
  have h2 : (put ps k hk c)[k] = inCl ps[k] c ps[k].lvl := by simp only [put, List.getElem_set_self]
  refine List.mem_map.2 ⟨_, List.mem_filter.2 ⟨List.getElem_mem h1, ?_⟩, ?_⟩
  · rw [h2]; simp [inCl]
  · rw [h2]; exact he
theorem cl_same (ps : List Pu) (hn : ∀ p ∈ ps, p.name.size ≤ 11) (hl : ps.length ≤ 13) (id : Int) : ∃ (xs : List Int) (b : Bool), (∀ w v, RowsR 5 puC w v ps → IpB 8 #[v, .int .i64 id] w xs b) ∧ (∀ w v, RowsR 5 puC w v ps → IpB 7 #[v, .int .i64 id] w xs b) ∧
    (b = true → ∀ c : Int, 1 ≤ c → c ≤ 9 → ∃ (qs : List Pu) (is : List Int) (one two : Bool), (∀ w v, RowsR 5 puC w v ps → PuB 10 #[v, .int .i64 id, .int .i64 c] w qs one) ∧ (one = true ↔ c ∈ xs) ∧ (∀ w v, RowsR 5 puC w v qs → IpB 12 #[v, .int .i64 c] w is two) ∧ (one = true → two = true ∧ id ∈ is)) := by
  have hs := nm_max hn
  by_cases hx : okL ps ∧ ∃ k, fndAt ps id k
  · obtain ⟨ho, k, hf⟩ := hx
    have hk := hf.1
    obtain ⟨xs, hq⟩ := clsF_ex ps k hk 9
    refine ⟨xs, true, fun w v h => ofOwnIp (specCls_yes v ps id w h hs ho k hf hk xs hq), fun w v h => ofOwnIp (implCls_yes v ps id w h hs ho k hf hk xs hq), fun _ c c1 c2 => ?_⟩
    have hmem := (clsF_mem hq).2 c c1 (by omega)
    by_cases hg : okL (put ps k hk c)
    · obtain ⟨is, two, h1, h2⟩ := in_any (put ps k hk c) (hs_set hs k hk c ps[k].lvl) c
      obtain ⟨e1, e2⟩ := h2 hg (by omega) c2
      refine ⟨put ps k hk c, is, true, two, fun w v h => ofOwnPu (implPut_yes v ps id c w h hs ho k hf hk _ true (.inl ⟨hg, rfl, rfl⟩)), by simp [hmem, hg], h1, fun _ => ⟨e1, ?_⟩⟩
      obtain ⟨_, e3, _⟩ := hf
      rw [e2]; exact put_in e3
    · obtain ⟨is, two, h1, h2⟩ := in_any [] (fun p hp => by cases hp) c
      exact ⟨[], is, false, two, fun w v h => ofOwnPu (implPut_yes v ps id c w h hs ho k hf hk _ false (.inr ⟨hg, rfl, rfl⟩)), by simp [hmem, hg], h1, fun h => by cases h⟩
  · obtain ⟨hnf, r, hi⟩ := idx_no hx
    exact ⟨[], false, fun w v h => ofOwnIp (specCls_no v ps id w h hs (by omega) hnf), fun w v h => ofOwnIp (implCls_no v ps id w h hs r hi), fun h => by cases h⟩
theorem pt_same (ps : List Pu) (hn : ∀ p ∈ ps, p.name.size ≤ 11) (hl : ps.length ≤ 13) (id c : Int) : ∃ (qs : List Pu) (t : Bool), (∀ w v, RowsR 5 puC w v ps → PuB 18 #[v, .int .i64 id, .int .i64 c] w qs t) ∧ (∀ w v, RowsR 5 puC w v ps → PuB 10 #[v, .int .i64 id, .int .i64 c] w qs t) := by
  have hs := nm_max hn
  by_cases hx : okL ps ∧ ∃ k, fndAt ps id k
  · obtain ⟨ho, k, hf⟩ := hx
    have hk := hf.1
    by_cases hg : okL (put ps k hk c)
    · exact ⟨_, true, fun w v h => ofOwnPu (specPut_yes v ps id c w h hs ho k hf hk _ true (.inl ⟨hg, rfl, rfl⟩)), fun w v h => ofOwnPu (implPut_yes v ps id c w h hs ho k hf hk _ true (.inl ⟨hg, rfl, rfl⟩))⟩
    · exact ⟨_, false, fun w v h => ofOwnPu (specPut_yes v ps id c w h hs ho k hf hk _ false (.inr ⟨hg, rfl, rfl⟩)), fun w v h => ofOwnPu (implPut_yes v ps id c w h hs ho k hf hk _ false (.inr ⟨hg, rfl, rfl⟩))⟩
  · obtain ⟨hnf, r, hi⟩ := idx_no hx
    exact ⟨[], false, fun w v h => ofOwnPu (specPut_no v ps id c w h hs (by omega) hnf), fun w v h => ofOwnPu (implPut_no v ps id c w h hs r hi)⟩
theorem in_same (ps : List Pu) (hn : ∀ p ∈ ps, p.name.size ≤ 11) (hl : ps.length ≤ 13) (c : Int) : ∃ (xs : List Int) (t : Bool), (∀ w v, RowsR 5 puC w v ps → IpB 20 #[v, .int .i64 c] w xs t) ∧ (∀ w v, RowsR 5 puC w v ps → IpB 12 #[v, .int .i64 c] w xs t) := by
  have hs := nm_max hn
  by_cases ho : okL ps
  · by_cases hc : 0 ≤ c ∧ c ≤ 9
    · exact ⟨_, true, fun w v h => ofOwnIp (specInClass_ok v ps c w h hs ho hc), fun w v h => ofOwnIp (implInClass_any v ps c w h hs _ true (.inl ⟨ho, hc, rfl, rfl⟩))⟩
    · exact ⟨[], false, fun w v h => ofOwnIp (specInClass_out v ps c w h hs ho hc), fun w v h => ofOwnIp (implInClass_any v ps c w h hs [] false (.inr ⟨fun h => hc h.2, rfl, rfl⟩))⟩
  · exact ⟨[], false, fun w v h => ofOwnIp (specInClass_bad v ps c w h hs (by omega) ho), fun w v h => ofOwnIp (implInClass_any v ps c w h hs [] false (.inr ⟨fun h => ho h.1, rfl, rfl⟩))⟩
def BpB (f : Nat) (av : Array Value) (w : World) (b : Bool) : Prop := Calls Try.prog f av w fun e w' => e = .returned (.bool b) ∧ Below w.heap.size w w'
theorem ip_same (p : Pu) (hn : p.name.size ≤ 11) : ∃ b : Bool, (∀ w, BpB 23 #[puV p] w b) ∧ (∀ w, BpB 22 #[puV p] w b) := by
  have hs : p.name.size ≤ maxLen := by unfold maxLen; omega
  by_cases h : okPu p
  · exact ⟨true, fun w => specIsPupil_yes p w hs h, fun w => implIsPupil_yes p w hs h⟩
  · exact ⟨false, fun w => specIsPupil_no p w hs h, fun w => implIsPupil_no p w hs h⟩
theorem swp_at (ps : List Pu) (i j : Nat) (hi : i < ps.length) (hj : j < ps.length) (m : Nat) (h : m < (swp ps i j hi hj).length) (hm : m < ps.length) : (swp ps i j hi hj)[m] = if m = j then inCl ps[j] ps[i].cls ps[j].lvl else if m = i then inCl ps[i] ps[j].cls ps[i].lvl else ps[m] := by
  simp only [swp, List.getElem_set]
  by_cases e : j = m
  · rw [if_pos e, if_pos (show m = j from e.symm)]
  · rw [if_neg e, if_neg (show ¬ m = j from fun h => e h.symm)]
    by_cases e2 : i = m
    · rw [if_pos e2, if_pos (show m = i from e2.symm)]
    · rw [if_neg e2, if_neg (show ¬ m = i from fun h => e2 h.symm)]
theorem swp_id (ps : List Pu) (i j : Nat) (hi : i < ps.length) (hj : j < ps.length) (m : Nat) (h : m < (swp ps i j hi hj).length) (hm : m < ps.length) : (swp ps i j hi hj)[m].id = ps[m].id := by
  rw [swp_at ps i j hi hj m h hm]
  by_cases e : m = j
  · subst e; rw [if_pos rfl]; rfl
  · rw [if_neg e]
    by_cases e2 : m = i
    · subst e2; rw [if_pos rfl]; rfl
    · rw [if_neg e2]
theorem fnd_swp {ps : List Pu} {i j : Nat} {hi : i < ps.length} {hj : j < ps.length} {a : Int} {k : Nat} (h : fndAt ps a k) : fndAt (swp ps i j hi hj) a k := by
  obtain ⟨h1, h2, h3⟩ := h
  have hl := swp_len ps i j hi hj
  exact ⟨by omega, by rw [swp_id ps i j hi hj k (by omega) h1]; exact h2, fun m hm hlt => by rw [swp_id ps i j hi hj m hm (by omega)]; exact h3 m (by omega) hlt⟩
theorem swp_back (ps : List Pu) (i j : Nat) (hi : i < ps.length) (hj : j < ps.length) (hij : i ≠ j) (h1 : i < (swp ps i j hi hj).length) (h2 : j < (swp ps i j hi hj).length) : swp (swp ps i j hi hj) i j h1 h2 = ps := by
  refine List.ext_getElem (by rw [swp_len, swp_len]) fun m k1 k2 => ?_
  rw [swp_at _ i j h1 h2 m k1 (by rw [swp_len]; exact k2), swp_at ps i j hi hj j h2 hj, swp_at ps i j hi hj i h1 hi, if_pos rfl, if_neg hij, if_pos rfl]
  by_cases e : m = j
  · subst e; rw [if_pos rfl]; rfl
  · rw [if_neg e]
    by_cases e2 : m = i
    · subst e2; rw [if_pos rfl]; rfl
    · rw [if_neg e2, swp_at ps i j hi hj m _ k2, if_neg e, if_neg e2]
theorem sw_same (ps : List Pu) (hn : ∀ p ∈ ps, p.name.size ≤ 11) (hl : ps.length ≤ 13) (a b : Int) : ∃ (qs : List Pu) (t : Bool), (∀ w v, RowsR 5 puC w v ps → PuB 15 #[v, .int .i64 a, .int .i64 b] w qs t) ∧ (∀ w v, RowsR 5 puC w v ps → PuB 14 #[v, .int .i64 a, .int .i64 b] w qs t) ∧
    (t = true → ∀ w v, RowsR 5 puC w v qs → PuB 14 #[v, .int .i64 a, .int .i64 b] w ps true) := by
  have hs := nm_max hn
  have none : ∀ (sa sb : Int) (ra rb : Int) (ta tb : Bool), FindF ps a sa → FindF ps b sb → IdxF ps a ra ta → IdxF ps b rb tb → (sa < 0 ∨ sb < 0 ∨ sa = sb) → (ta = false ∨ tb = false ∨ ra = rb) → ∃ (qs : List Pu) (t : Bool), (∀ w v, RowsR 5 puC w v ps → PuB 15 #[v, .int .i64 a, .int .i64 b] w qs t) ∧ (∀ w v, RowsR 5 puC w v ps → PuB 14 #[v, .int .i64 a, .int .i64 b] w qs t) ∧ (t = true → ∀ w v, RowsR 5 puC w v qs → PuB 14 #[v, .int .i64 a, .int .i64 b] w ps true) := fun sa sb ra rb ta tb h1 h2 h3 h4 h5 h6 =>
    ⟨[], false, fun w v h => ofOwnPu (specSwap_no v ps a b w h hs (by omega) sa sb h1 h2 h5), fun w v h => ofOwnPu (implSwap_no v ps a b w h hs ra rb ta tb h3 h4 h6), fun h => by cases h⟩
  rcases find_or ps a with ⟨i, ho, hfi⟩ | ⟨fa, ra, ia⟩
  · rcases find_or ps b with ⟨j, _, hfj⟩ | ⟨fb, rb, ib⟩
    · by_cases hij : i = j
      · exact none i j i j true true (.inl ⟨ho, i, hfi, rfl⟩) (.inl ⟨ho, j, hfj, rfl⟩) (.inl ⟨ho, i, hfi, rfl, rfl⟩) (.inl ⟨ho, j, hfj, rfl, rfl⟩) (by omega) (.inr (.inr (by omega)))
      · have hi := hfi.1
        have hj := hfj.1
        by_cases hq : okL (swp ps i j hi hj)
        · have hl2 := swp_len ps i j hi hj
          have hback := swp_back ps i j hi hj hij (by omega) (by omega)
          exact ⟨_, true, fun w v h => ofOwnPu (specSwap_yes v ps a b w h hs ho i j hfi hfj hi hj hij _ true (.inl ⟨hq, rfl, rfl⟩)), fun w v h => ofOwnPu (implSwap_yes v ps a b w h hs ho i j hfi hfj hi hj hij _ true (.inl ⟨hq, rfl, rfl⟩)), fun _ w v h => ofOwnPu (implSwap_yes v _ a b w h (swp_hs hs i j hi hj) hq i j (fnd_swp hfi) (fnd_swp hfj) (by omega) (by omega) hij ps true (.inl ⟨by rw [hback]; exact ho, rfl, hback.symm⟩))⟩
        · exact ⟨[], false, fun w v h => ofOwnPu (specSwap_yes v ps a b w h hs ho i j hfi hfj hi hj hij _ false (.inr ⟨hq, rfl, rfl⟩)), fun w v h => ofOwnPu (implSwap_yes v ps a b w h hs ho i j hfi hfj hi hj hij _ false (.inr ⟨hq, rfl, rfl⟩)), fun h => by cases h⟩
    · exact none i (-1) i rb true false (.inl ⟨ho, i, hfi, rfl⟩) fb (.inl ⟨ho, i, hfi, rfl, rfl⟩) ib (.inr (.inl (by omega))) (.inr (.inl rfl))
  · obtain ⟨sb, fb⟩ : ∃ sb, FindF ps b sb := by
      rcases find_or ps b with ⟨j, ho, hfj⟩ | ⟨fb, _⟩
      · exact ⟨j, .inl ⟨ho, j, hfj, rfl⟩⟩
      · exact ⟨-1, fb⟩
    obtain ⟨rb, tb, ib⟩ := idxF_or ps b
    exact none (-1) sb ra rb false tb fa fb ia ib (.inl (by omega)) (.inl rfl)
end Go.Proofs.Ytlhcediejccieaa
