/- What the law FnLevels asks of the functions over pupils. -/
import Derived.Test.YtlhcediejccieaaLv0
import Derived.Test.YtlhcediejccieaaPraise
import Derived.Test.YtlhcediejccieaaPsame
import Derived.Test.YtlhcediejccieaaPisame
import Derived.Test.YtlhcediejccieaaPmean
import Derived.Test.YtlhcediejccieaaPold
import Derived.Test.YtlhcediejccieaaPmem
import Derived.Test.YtlhcediejccieaaPi3
namespace Go.Proofs.Ytlhcediejccieaa
set_option linter.unusedVariables false
open Go.RowKit
set_option linter.unusedSimpArgs false

def PlB (f : Nat) (av : Array Value) (w : World) (qs : List Pu) (n : Int) (b : Bool) : Prop :=
  Calls Try.prog f av w fun e w' => (∃ v, e = .returned (.tuple #[v, .int .i64 n, .bool b]) ∧ RowsR 5 puC w' v qs) ∧ Below w.heap.size w w'
theorem ofOwnPl {f : Nat} {av : Array Value} {w : World} {qs : List Pu} {n : Int} {b : Bool} (h : Calls Try.prog f av w fun e w' => (∃ v, e = .returned (.tuple #[v, .int .i64 n, .bool b]) ∧ w'.ownsRow w.heap.size 38 5 v qs.length (flatC puC qs)) ∧ Below w.heap.size w w') : PlB f av w qs n b :=
  h.mono fun _ _ ⟨⟨v, he, ho⟩, hb⟩ => ⟨⟨v, he, RowsR.of_own puC_len ho⟩, hb⟩
def PuL (f : Nat) (av : Array Value) (w : World) (qs : List Pu) (b : Bool) : Prop :=
  Calls Try.prog f av w fun e w' => (∃ v, e = .returned (.tuple #[v, .bool b]) ∧ RowsR 5 puC w' v qs) ∧ Below w.heap.size w w'
theorem ofOwnPuL {f : Nat} {av : Array Value} {w : World} {qs : List Pu} {b : Bool} (h : Calls Try.prog f av w fun e w' => (∃ v, e = .returned (.tuple #[v, .bool b]) ∧ w'.ownsRow w.heap.size 38 5 v qs.length (flatC puC qs)) ∧ Below w.heap.size w w') : PuL f av w qs b :=
  h.mono fun _ _ ⟨⟨v, he, ho⟩, hb⟩ => ⟨⟨v, he, RowsR.of_own puC_len ho⟩, hb⟩
def IpL (f : Nat) (av : Array Value) (w : World) (xs : List Int) (b : Bool) : Prop :=
  Calls Try.prog f av w fun e w' => (∃ v, e = .returned (.tuple #[v, .bool b]) ∧ RowsR 1 inC w' v xs) ∧ Below w.heap.size w w'
theorem ofOwnIpL {f : Nat} {av : Array Value} {w : World} {xs : List Int} {b : Bool} (h : Calls Try.prog f av w fun e w' => (∃ v, e = .returned (.tuple #[v, .bool b]) ∧ w'.ownsRow w.heap.size 3 1 v xs.length (flatC inC xs)) ∧ Below w.heap.size w w') : IpL f av w xs b :=
  h.mono fun _ _ ⟨⟨v, he, ho⟩, hb⟩ => ⟨⟨v, he, RowsR.of_own inC_len ho⟩, hb⟩
def SsB (f : Nat) (av : Array Value) (w : World) (xss : List (List Int)) (b : Bool) : Prop :=
  Calls Try.prog f av w fun e w' => (∃ v, e = .returned (.tuple #[v, .bool b]) ∧ SSR w' v xss) ∧ Below w.heap.size w w'
theorem ofOwnSs {f : Nat} {av : Array Value} {w : World} {xss : List (List Int)} {b : Bool} (h : Calls Try.prog f av w fun e w' => (∃ v vs, e = .returned (.tuple #[v, .bool b]) ∧ OwnSS w.heap.size w'.heap.size w' v vs xss) ∧ Below w.heap.size w w') : SsB f av w xss b :=
  h.mono fun _ _ ⟨⟨v, _, he, ho⟩, hb⟩ => ⟨⟨v, he, ho.reads⟩, hb⟩
def BpL (f : Nat) (av : Array Value) (w : World) (b : Bool) : Prop := Calls Try.prog f av w fun e w' => e = .returned (.bool b) ∧ Below w.heap.size w w'
def Q3L (f : Nat) (av : Array Value) (w : World) (x y : Int) (b : Bool) : Prop := Calls Try.prog f av w fun e w' => e = .returned (.tuple #[.int .i64 x, .int .i64 y, .bool b]) ∧ Below w.heap.size w w'
def Q2L (f : Nat) (av : Array Value) (w : World) (x : Int) (b : Bool) : Prop := Calls Try.prog f av w fun e w' => e = .returned (.tuple #[.int .i64 x, .bool b]) ∧ Below w.heap.size w w'
theorem nm_maxL {ps : List Pu} (h : ∀ p ∈ ps, p.name.size ≤ 11) : ∀ p ∈ ps, p.name.size ≤ maxLen := fun p hp => by have := h p hp; unfold maxLen; omega
theorem pl_same (ps : List Pu) (hn : ∀ p ∈ ps, p.name.size ≤ 11) (hl : ps.length ≤ 13) : ∃ (qs : List Pu) (n : Int) (xss : List (List Int)) (b : Bool),
    (∀ w v, RowsR 5 puC w v ps → PlB 26 #[v] w qs n b) ∧ (∀ w v, RowsR 5 puC w v ps → PlB 25 #[v] w qs n b) ∧ (∀ w v, RowsR 5 puC w v ps → SsB 32 #[v] w xss b) ∧ (∀ w v, RowsR 5 puC w v ps → SsB 31 #[v] w xss b) ∧
    (b = true → ∃ is : List Int, (∀ w v, RowsR 5 puC w v qs → IpL 12 #[v, .int .i64 0] w is true) ∧ (is.length : Int) = n ∧ (∀ w v, RowsR 5 puC w v qs → BpL 27 #[v] w true) ∧ (∀ w v, RowsR 5 puC w v qs → PlB 25 #[v] w qs n true)) := by
  have hs := nm_maxL hn
  by_cases ho : okL ps
  · obtain ⟨out, n, hp⟩ := plcF_ex ho ps.length (Nat.le_refl _)
    obtain ⟨i1, i2, _, _⟩ := plcF_inv ho hp
    have hz := plcF_zero ho hp
    rw [← i2, List.take_length] at hz
    have hag := plcF_again ho hp out.length (Nat.le_refl _)
    rw [List.take_length, ← hz] at hag
    refine ⟨out, (n : Int), samL ps ps.length, true, fun w v h => ofOwnPl (specPlace_loop v ps out n w h ho hp), fun w v h => ofOwnPl (implPlace_loop v ps out n w h ho hp), fun w v h => ofOwnSs (specSame_ok v ps w h ho hs), fun w v h => ofOwnSs (implSame_ok v ps w h ho hs), fun _ => ⟨idL (memC 0 out), fun w v h => ofOwnIpL (implInClass_any v out 0 w h (cls_hs i1) _ true (.inl ⟨i1, ⟨by omega, by omega⟩, rfl, rfl⟩)), by rw [idL_len, ← hz], fun w v h => iGood_yes v out w h (cls_hs i1) i1, fun w v h => ofOwnPl (implPlace_loop v out out n w h i1 hag)⟩⟩
  · exact ⟨[], 0, [], false, fun w v h => ofOwnPl (specPlace_no v ps w h hs (by omega) ho), fun w v h => ofOwnPl (implPlace_no v ps w h hs ho), fun w v h => ofOwnSs (specSame_no v ps w h hs (by omega) ho), fun w v h => ofOwnSs (implSame_no v ps w h hs ho), fun h => by cases h⟩
theorem okL_one {ps : List Pu} (h : okL ps) (j k : Nat) (hj : j < ps.length) (hk : k < ps.length) (e : ps[j].id = ps[k].id) : j = k := by
  rcases Nat.lt_trichotomy j k with hl | hl | hl
  · obtain ⟨d, rfl⟩ : ∃ d, k = j + d + 1 := ⟨k - j - 1, by omega⟩
    have := okL_lt h d j hk
    omega
  · exact hl
  · obtain ⟨d, rfl⟩ : ∃ d, j = k + d + 1 := ⟨j - k - 1, by omega⟩
    have := okL_lt h d k hj
    omega
theorem ra_same (ps : List Pu) (hn : ∀ p ∈ ps, p.name.size ≤ 11) (hl : ps.length ≤ 13) (id : Int) : ∃ (qs : List Pu) (t : Bool), (∀ w v, RowsR 5 puC w v ps → PuL 30 #[v, .int .i64 id] w qs t) ∧ (∀ w v, RowsR 5 puC w v ps → PuL 29 #[v, .int .i64 id] w qs t) ∧
    (∀ j (h1 : j < ps.length) (h2 : j < qs.length), ps[j].id = id → qs[j].lvl = ps[j].lvl + 1 ∧ 0 ≤ ps[j].lvl ∧ ps[j].lvl ≤ 10) := by
  have hs := nm_maxL hn
  by_cases hx : okL ps ∧ ∃ k, fndAt ps id k
  · obtain ⟨ho, k, hf⟩ := hx
    have hk := hf.1
    obtain ⟨qs, t, hr, _⟩ := raiF_or ps k hk
    refine ⟨qs, t, fun w v h => ofOwnPuL (specRaise_yes v ps id w h hs ho k hf hk qs t hr), fun w v h => ofOwnPuL (implRaise_yes v ps id w h hs ho k hf hk qs t hr), fun j h1 h2 e => ?_⟩
    obtain ⟨_, e2, _⟩ := hf
    have hjk := okL_one ho j k h1 hk (e.trans e2.symm)
    subst hjk
    have hb := (ho.1 j h1).1.2.2.2.2
    rcases hr with ⟨_, rfl, _⟩ | ⟨_, _, rfl, _⟩ | ⟨_, _, rfl, _⟩
    · simp at h2
    · exact ⟨by rw [List.getElem_set_self]; rfl, hb.1, hb.2⟩
    · exact ⟨by rw [List.getElem_set_self]; rfl, hb.1, hb.2⟩
  · obtain ⟨hnf, r, hi⟩ := idx_no hx
    exact ⟨[], false, fun w v h => ofOwnPuL (specRaise_no v ps id w h hs (by omega) hnf), fun w v h => ofOwnPuL (implRaise_no v ps id w h hs r hi), fun j _ h2 => by simp at h2⟩
theorem oldF_mem (l : List Pu) : ∀ q, oldF q l = q ∨ oldF q l ∈ l := by
  induction l with
  | nil => intro q; exact .inl rfl
  | cons p l ih =>
    intro q
    show oldF (if p.born < q.born then p else q) l = q ∨ oldF (if p.born < q.born then p else q) l ∈ p :: l
    by_cases h : p.born < q.born
    · rw [if_pos h]
      rcases ih p with e | e
      · rw [e]; exact .inr (by simp)
      · exact .inr (List.mem_cons_of_mem _ e)
    · rw [if_neg h]
      rcases ih q with e | e
      · exact .inl e
      · exact .inr (List.mem_cons_of_mem _ e)
theorem mo_same (ps : List Pu) (hn : ∀ p ∈ ps, p.name.size ≤ 11) (hl : ps.length ≤ 13) (c : Int) : ∃ (x y z : Int) (t : Bool) (is : List Int) (r : Bool),
    (∀ w v, RowsR 5 puC w v ps → Q3L 36 #[v, .int .i64 c] w x y t) ∧ (∀ w v, RowsR 5 puC w v ps → Q3L 35 #[v, .int .i64 c] w x y t) ∧ (∀ w v, RowsR 5 puC w v ps → Q2L 38 #[v, .int .i64 c] w z t) ∧ (∀ w v, RowsR 5 puC w v ps → Q2L 37 #[v, .int .i64 c] w z t) ∧ (∀ w v, RowsR 5 puC w v ps → IpL 12 #[v, .int .i64 c] w is r) ∧ (t = true → r = true ∧ z ∈ is) := by
  have hs := nm_maxL hn
  obtain ⟨ms, r, hm⟩ := memF_or ps c
  obtain ⟨q1, q2, t, hq⟩ := meanF_or ms r
  obtain ⟨z, t2, hz⟩ := oldF_or ms r
  have ht : t2 = t := by
    rcases hq with ⟨a1, a2, rfl, -, -⟩ | ⟨a1, rfl, -, -⟩ <;> rcases hz with ⟨q, rest, b1, b2, b3, rfl⟩ | ⟨b1, b2, rfl⟩
    · rfl
    · rcases b1 with b1 | b1
      · rw [a1] at b1; cases b1
      · subst b1; simp at a2
    · rcases a1 with a1 | a1
      · rw [b1] at a1; cases a1
      · subst b2; simp at a1
    · rfl
  subst ht
  refine ⟨(q1 : Int), (q2 : Int), z, t2, idL ms, r, fun w v h => ?_, fun w v h => implMean_any v ps c w h hs ms r hm q1 q2 t2 hq, fun w v h => ?_, fun w v h => implOld_any v ps c w h hs ms r hm z t2 hz, fun w v h => ofOwnIpL (implInClass_any v ps c w h hs ms r hm), fun htt => ?_⟩
  · rcases hm with ⟨ho, hc, rfl, rfl⟩ | ⟨hx, rfl, rfl⟩
    · exact specMean_ok v ps c w h hs ho hc q1 q2 t2 hq
    · rcases hq with ⟨h1, _⟩ | ⟨_, rfl, rfl, rfl⟩
      · simp at h1
      · exact specMean_no v ps c w h hs (by omega) hx
  · rcases hm with ⟨ho, hc, rfl, rfl⟩ | ⟨hx, rfl, rfl⟩
    · exact specOld_ok v ps c w h hs ho hc z t2 hz
    · rcases hz with ⟨_, _, h1, _⟩ | ⟨_, rfl, rfl⟩
      · simp at h1
      · exact specOld_no v ps c w h hs (by omega) hx
  · rcases hz with ⟨q, rest, b1, b2, b3, -⟩ | ⟨-, -, b2⟩
    · refine ⟨b1, ?_⟩
      rw [b3]
      rcases oldF_mem ms q with e | e
      · rw [e, b2]; exact List.mem_map.2 ⟨q, by simp, rfl⟩
      · exact List.mem_map.2 ⟨_, e, rfl⟩
    · rw [htt] at b2; cases b2
end Go.Proofs.Ytlhcediejccieaa
