/- The law's helpers on slices of slices of ints: compare, mark, held. -/
import Derived.Test.YtblbeoeklkcamaaInts
import Derived.Test.YtblbeoeklkcamaaKa
namespace Go.Proofs.Ytblbeoeklkcamaa
set_option linter.unusedVariables false
open Go.RowKit

def vC (u : Value) : List Value := [u]
theorem vC_len (u : Value) : (vC u).length = 1 := rfl
theorem flat_v (vs : List Value) : flatC vC vs = vs := by
  induction vs with
  | nil => rfl
  | cons x t ih => simp [flatC, vC, ih]
/-- The slice v reads as these rows of numbers. -/
def SSR (w : World) (v : Value) (xss : List (List Int)) : Prop := ∃ vs : List Value, RowsR 1 vC w v vs ∧ vs.length = xss.length ∧ ∀ i, i < vs.length → RowsR 1 inC w (vs.getD i undef) (xss.getD i [])
theorem SSR.below {w w' : World} {v : Value} {xss : List (List Int)} (h : SSR w v xss) {B : Nat} (hb : Below B w w') (hB : w.heap.size ≤ B) : SSR w' v xss := by
  obtain ⟨vs, h1, h2, h3⟩ := h
  exact ⟨vs, h1.below hb hB, h2, fun i hi => (h3 i hi).below hb hB⟩
theorem SSR.form {w : World} {v : Value} {xss : List (List Int)} (h : SSR w v xss) : ∃ a cap, v = .slice a xss.length cap := by
  obtain ⟨vs, h1, h2, _⟩ := h
  obtain ⟨a, cap, e⟩ := h1.form
  exact ⟨a, cap, by rw [e, h2]⟩
theorem getD_at {α : Type} (l : List α) (i : Nat) (d : α) (h : i < l.length) : l.getD i d = l[i] := by simp [List.getD, h]
theorem getD_out {α : Type} (l : List α) (i : Nat) (d : α) (h : l.length ≤ i) : l.getD i d = d := by simp [List.getD, List.getElem?_eq_none h]
/-- Fresh rows of numbers, all in blocks of their own. -/
structure OwnSS (lo hi : Nat) (w : World) (v : Value) (vs : List Value) (xss : List (List Int)) : Prop where
  ord : lo ≤ hi
  outer : Ow lo hi w 35 1 v vs.length vs
  len : vs.length = xss.length
  inner : ∀ i, i < vs.length → Ow lo hi w 3 1 (vs.getD i undef) (xss.getD i []).length (flatC inC (xss.getD i []))
  apart : ∀ i, i < vs.length → ∀ g, (vs.getD i undef).ownBlock = some g → v.ownBlock ≠ some g
  distinct : ∀ i j, i < vs.length → j < vs.length → i ≠ j → ∀ g, (vs.getD i undef).ownBlock = some g → (vs.getD j undef).ownBlock ≠ some g
theorem OwnSS.next {lo hi : Nat} {w w' : World} {v : Value} {vs : List Value} {xss : List (List Int)} (h : OwnSS lo hi w v vs xss) (hb : Below w.heap.size w w') : OwnSS lo hi w' v vs xss :=
  { h with outer := h.outer.next hb, inner := fun i hi => (h.inner i hi).next hb }
theorem OwnSS.btw {lo hi a b : Nat} {w w' : World} {v : Value} {vs : List Value} {xss : List (List Int)} (h : OwnSS lo hi w v vs xss) (hb : Btw a b w w') (hd : hi ≤ a ∨ b ≤ lo) : OwnSS lo hi w' v vs xss :=
  { h with outer := h.outer.btw hb hd, inner := fun i hi => (h.inner i hi).btw hb hd }
theorem OwnSS.reads {lo hi : Nat} {w : World} {v : Value} {vs : List Value} {xss : List (List Int)} (h : OwnSS lo hi w v vs xss) : SSR w v xss :=
  ⟨vs, RowsR.of_own vC_len (by rw [flat_v]; exact h.outer.1), h.len, fun i hi => RowsR.of_own inC_len (h.inner i hi).1⟩
theorem OwnSS.form {lo hi : Nat} {w : World} {v : Value} {vs : List Value} {xss : List (List Int)} (h : OwnSS lo hi w v vs xss) : ∃ a cap, v = .slice a xss.length cap := h.reads.form
/-- A row in an interval that holds no block but its own. -/
theorem Ow.narrow {lo hi : Nat} {w : World} {e : TypeId} {u : Value} {n : Nat} {xs : List Value} (h : Ow lo hi w e 1 u n xs) (ho : lo ≤ hi) : ∃ a b, Ow a b w e 1 u n xs ∧ lo ≤ a ∧ b ≤ hi ∧ ∀ x, a ≤ x → x < b → u.ownBlock = some x := by
  obtain ⟨⟨h1, h2⟩, h3⟩ := h
  rcases h2 with ⟨rfl, h0⟩ | ⟨g, cap, cur, rfl, hg, hh, r⟩
  · exact ⟨hi, hi, ⟨⟨h1, .inl ⟨rfl, h0⟩⟩, fun g hg => by simp [Value.ownBlock] at hg⟩, ho, Nat.le_refl _, fun x h4 h5 => by omega⟩
  · have h4 := h3 g rfl
    exact ⟨g, g + 1, ⟨⟨h1, .inr ⟨g, cap, cur, rfl, Nat.le_refl _, hh, r⟩⟩, fun g' hg' => by simp [Value.ownBlock] at hg'; omega⟩, hg, by omega, fun x h5 h6 => by rw [show x = g by omega]; rfl⟩
theorem Ow.widen {lo hi a b : Nat} {w : World} {e : TypeId} {u : Value} {n : Nat} {xs : List Value} (h : Ow a b w e 1 u n xs) (h1 : lo ≤ a) (h2 : b ≤ hi) : Ow lo hi w e 1 u n xs := ⟨own_mono h.1 h1, fun g hg => Nat.lt_of_lt_of_le (h.2 g hg) h2⟩
theorem Ow.off {lo hi a b : Nat} {w w' : World} {e : TypeId} {u : Value} {n : Nat} {xs : List Value} (h : Ow lo hi w e 1 u n xs) (hb : Btw a b w w') (hx : ∀ g, u.ownBlock = some g → g < a ∨ b ≤ g) : Ow lo hi w' e 1 u n xs :=
  ⟨own_of_block h.1 fun g hg => hb.block g (by have h1 := (h.1.lt g hg).2; rcases hx g hg with h2 | h2; (· exact .inl h2); exact .inr ⟨h2, h1⟩), h.2⟩
/-- One of the rows is written anew. -/
theorem OwnSS.marked {lo hi a b m : Nat} {w w' : World} {v : Value} {vs : List Value} {xss : List (List Int)} (h : OwnSS lo hi w v vs xss) (hm : m < vs.length) (hab : ∀ x, a ≤ x → x < b → (vs.getD m undef).ownBlock = some x) (h1 : lo ≤ a) (h2 : b ≤ hi)
    (hb : Btw a b w w') (ys : List Int) (ho : Ow a b w' 3 1 (vs.getD m undef) ys.length (flatC inC ys)) : OwnSS lo hi w' v vs (xss.set m ys) := by
  have off : ∀ u : Value, (∀ g, (vs.getD m undef).ownBlock = some g → u.ownBlock ≠ some g) → ∀ g, u.ownBlock = some g → g < a ∨ b ≤ g := by
    intro u hu g hg
    rcases Nat.lt_or_ge g a with h3 | h3
    · exact .inl h3
    · rcases Nat.lt_or_ge g b with h4 | h4
      · exact absurd hg (hu g (hab g h3 h4))
      · exact .inr h4
  refine { h with outer := h.outer.off hb (off v (h.apart m hm)), len := by rw [List.length_set]; exact h.len, inner := fun i hi => ?_ }
  have hml : m < xss.length := by rw [← h.len]; exact hm
  by_cases e : i = m
  · subst e
    rw [getD_at (xss.set i ys) i [] (by rw [List.length_set]; exact hml), List.getElem_set_self]
    exact ho.widen h1 h2
  · have hil : i < xss.length := by rw [← h.len]; exact hi
    rw [getD_at (xss.set m ys) i [] (by rw [List.length_set]; exact hil), List.getElem_set_ne (Ne.symm e), ← getD_at xss i [] hil]
    exact (h.inner i hi).off hb (off _ (h.distinct m i hm hi (Ne.symm e)))
/-- How many numbers stand in the first rows. -/
def offs : List (List Int) → Nat → Nat
  | [], _ => 0
  | _, 0 => 0
  | x :: t, m + 1 => x.length + offs t m
theorem offs_zero (xss : List (List Int)) : offs xss 0 = 0 := by cases xss <;> rfl
theorem offs_succ : ∀ (xss : List (List Int)) (m : Nat), m < xss.length → offs xss (m + 1) = offs xss m + (xss.getD m []).length
  | x :: t, 0, _ => by simp [offs, offs_zero]
  | x :: t, m + 1, h => by
    have := offs_succ t m (by simpa using h)
    simp only [offs, List.getD_cons_succ] at this ⊢
    omega
theorem offs_mono (xss : List (List Int)) : ∀ (d m : Nat), m + d ≤ xss.length → offs xss m ≤ offs xss (m + d)
  | 0, m, _ => Nat.le_refl _
  | d + 1, m, h => by
    have h1 := offs_mono xss d m (by omega)
    have h2 := offs_succ xss (m + d) (by omega)
    rw [show m + (d + 1) = m + d + 1 by omega]
    omega
def mkss (k : Int) (xss : List (List Int)) : List (List Int) := (List.range xss.length).map fun i => mksI (k + (offs xss i : Int)) (xss.getD i []).length
theorem mkss_len (k : Int) (xss : List (List Int)) : (mkss k xss).length = xss.length := by simp [mkss]
theorem mkss_at (k : Int) (xss : List (List Int)) (i : Nat) (h : i < xss.length) : (mkss k xss).getD i [] = mksI (k + (offs xss i : Int)) (xss.getD i []).length := by
  rw [getD_at _ _ _ (by rw [mkss_len]; exact h)]; simp [mkss]
theorem mkss_of (k : Int) (xss yss : List (List Int)) (hl : yss.length = xss.length) (h : ∀ i, i < xss.length → yss.getD i [] = mksI (k + (offs xss i : Int)) (xss.getD i []).length) : yss = mkss k xss := by
  apply List.ext_getElem (by rw [mkss_len]; exact hl)
  intro i h1 h2
  have := h i (by omega)
  rw [getD_at _ _ _ h1] at this
  rw [this, ← mkss_at k xss i (by omega), getD_at _ _ _ h2]

set_option maxRecDepth 100000 in
set_option maxHeartbeats 1600000 in
theorem eqIntSS_yes (v1 v2 : Value) (xss : List (List Int)) (w : World) (h1 : SSR w v1 xss) (h2 : SSR w v2 xss) :
    Calls Try.prog 38 #[v1, v2] w fun e w' => e = .returned (.bool true) ∧ Below w.heap.size w w' := by
  obtain ⟨us, u1, u2, u3⟩ := h1
  obtain ⟨vs, g1, g2, g3⟩ := h2
  have hm : us.length ≤ 9223372036854775807 := by obtain ⟨_, _, _, ⟨m, _⟩, _⟩ := u1; exact m
  obtain ⟨a1, c1, rfl⟩ := u1.form
  obtain ⟨a2, c2, rfl⟩ := g1.form
  have R1 := Lib.hid u1.at
  have R2 := Lib.hid g1.at
  have HU := Lib.hid u3
  have HV := Lib.hid g3
  have hvu : vs.length = us.length := by omega
  rw [hvu]
  have HVU := Lib.hid hvu
  clear u1 g1 u3 g3 u2 g2 hvu
  go_enter Try.func38, Try.ntmps38
  go_wp2_with fail
  go_loopw [5] (fun i wr => ∃ k : Nat, k ≤ us.length ∧ i = .int .i64 k ∧ Below w.heap.size w wr) (fun i _ => us.length - (intOf i).toNat)
  case atStart => exact ⟨0, Nat.zero_le _, rfl, Below.refl _ _⟩
  case round =>
    obtain ⟨k, hk, rfl, hb⟩ := hrel
    have HB := Lib.hid hb
    by_cases hlt : k < us.length
    · obtain ⟨b1, o1, rfl, l1, k1⟩ := R1.out _ hb k hlt
      obtain ⟨b2, o2, rfl, l2, k2⟩ := R2.out _ hb k (by rw [HVU.out]; exact hlt)
      have HC := Lib.hid (fun w' (hb' : Below w.heap.size w w') => eqIntS_yes (us.getD k undef) (vs.getD k undef) (xss.getD k []) w' ((HU.out k hlt).below hb' (Nat.le_refl _)) ((HV.out k (by rw [HVU.out]; exact hlt)).below hb' (Nat.le_refl _)))
      have p0 : wr.cell? ⟨b1, o1 + k, none⟩ = some (us.getD k undef) := by have := k1 0 (by omega); rw [Nat.mul_one] at this; rw [getD_at _ _ _ hlt]; exact this
      have q0 : wr.cell? ⟨b2, o2 + k, none⟩ = some (vs.getD k undef) := by have := k2 0 (by omega); rw [Nat.mul_one] at this; rw [getD_at _ _ _ (by rw [HVU.out]; exact hlt)]; exact this
      have l1' : b1 < wr.heap.size := Nat.lt_of_lt_of_le l1 hb.size
      have l2' : b2 < wr.heap.size := Nat.lt_of_lt_of_le l2 hb.size
      have z1 : (0 : Int) ≤ (k : Int) := by omega
      have z2 : (k : Int) < (us.length : Int) := by omega
      generalize us.getD k undef = u at p0 HC
      generalize vs.getD k undef = v at q0 HC
      clear k1 k2 hb
      go_wp2_with fail
      refine wp_region_held_drew (S := (fun w' => w'.cell? ⟨b1, o1 + k, none⟩ = some u ∧ w'.cell? ⟨b2, o2 + k, none⟩ = some v)) (by kernel_rfl) (⟨p0, q0⟩) (fun hHeld => ?_)
      refine take1 (i := 0) (v := ?v1) (some 17) rfl rfl (by kernel_rfl) (by kernel_rfl) (by kernel_rfl) (fun _ _ _ h => h) (Or.inl ⟨by rfl, ?y1⟩) (by assumption) ?r1
      case y1 => (intro w hSw; (try dsimp only at hSw); go_simp; (first | done | with_reducible rfl))
      try simp only [Act.put, List.setIfInBounds_toArray, List.set_cons_zero, List.set_cons_succ]
      refine take1 (i := 1) (v := ?v2) (some 18) rfl rfl (by kernel_rfl) (by kernel_rfl) (by kernel_rfl) (fun _ _ _ h => h) (Or.inl ⟨by rfl, ?y2⟩) (by assumption) ?r2
      case y2 => (intro w hSw; (try dsimp only at hSw); go_simp; (first | done | with_reducible rfl))
      try simp only [Act.put, List.setIfInBounds_toArray, List.set_cons_zero, List.set_cons_succ]
      refine take1 (i := 2) (v := ?v3) (some 19) rfl rfl (by kernel_rfl) (by kernel_rfl) (by kernel_rfl) (fun _ _ _ h => h) (Or.inl ⟨by rfl, ?y3⟩) (by assumption) ?r3
      case y3 => (intro w hSw; (try dsimp only at hSw); go_simp; (first | done | with_reducible rfl))
      try simp only [Act.put, List.setIfInBounds_toArray, List.set_cons_zero, List.set_cons_succ]
      refine take1 (i := 3) (v := ?v4) (some 20) rfl rfl (by kernel_rfl) (by kernel_rfl) (by kernel_rfl) (fun _ _ _ h => h) (Or.inl ⟨by rfl, ?y4⟩) (by assumption) ?r4
      case y4 => (intro w hSw; (try dsimp only at hSw); go_simp; (first | done | with_reducible rfl))
      try simp only [Act.put, List.setIfInBounds_toArray, List.set_cons_zero, List.set_cons_succ]
      refine take1 (i := 4) (v := ?v5) (some 21) rfl rfl (by kernel_rfl) (by kernel_rfl) (by kernel_rfl) (fun _ _ _ h => h) (Or.inl ⟨by rfl, ?y5⟩) (by assumption) ?r5
      case y5 => (intro w hSw; (try dsimp only at hSw); go_simp; (first | done | with_reducible rfl))
      try simp only [Act.put, List.setIfInBounds_toArray, List.set_cons_zero, List.set_cons_succ]
      refine take1 (i := 5) (v := ?v6) (some 22) rfl rfl (by kernel_rfl) (by kernel_rfl) (by kernel_rfl) (fun _ _ _ h => h) (Or.inl ⟨by rfl, ?y6⟩) (by assumption) ?r6
      case y6 => (intro w hSw; (try dsimp only at hSw); go_simp; (first | done | with_reducible rfl))
      try simp only [Act.put, List.setIfInBounds_toArray, List.set_cons_zero, List.set_cons_succ]
      refine take1 (i := 6) (v := ?v7) (some 23) rfl rfl (by kernel_rfl) (by kernel_rfl) (by kernel_rfl) (fun _ _ _ h => h) (Or.inl ⟨by rfl, ?y7⟩) (by assumption) ?r7
      case y7 => (intro w hSw; (try dsimp only at hSw); go_simp; (first | done | with_reducible rfl))
      try simp only [Act.put, List.setIfInBounds_toArray, List.set_cons_zero, List.set_cons_succ]
      refine take1 (i := 7) (v := ?v8) (some 24) rfl rfl (by kernel_rfl) (by kernel_rfl) (by kernel_rfl) (fun _ _ _ h => h) (Or.inl ⟨by rfl, ?y8⟩) (by assumption) ?r8
      case y8 => (intro w hSw; (try dsimp only at hSw); go_simp; (first | done | with_reducible rfl))
      try simp only [Act.put, List.setIfInBounds_toArray, List.set_cons_zero, List.set_cons_succ]
      refine wpAnyH_ready (rs := [8]) (by kernel_rfl) (by simp) ?_
      refine AllReadyH.cons rfl (fun K hK => ?_) AllReadyH.nil
      go_simp
      go_at_call 42
      refine (HC.out _ HB.out.drew).mono ?_
      rintro e w2 ⟨rfl, hb'⟩
      have hb2 : Below wr.heap.size wr w2 := Below.trans (Below.drew (Below.refl _ _)) hb'
      clear hb'
      try go_simp
      refine hK.out _ _ (⟨(hb2.cell (p := ⟨b1, _, none⟩) l1').trans p0, (hb2.cell (p := ⟨b2, _, none⟩) l2').trans q0⟩) (fun hHeld => ?_)
      clear hK K
      try simp only [Act.put, List.setIfInBounds_toArray, List.set_cons_zero, List.set_cons_succ]
      refine take1 (i := 9) (v := ?v9) (some 26) rfl rfl (by kernel_rfl) (by kernel_rfl) (by kernel_rfl) (fun _ _ _ h => h) (Or.inl ⟨by rfl, ?y9⟩) (by assumption) ?r9
      case y9 => (intro w hSw; (try dsimp only at hSw); go_simp; (first | done | with_reducible rfl))
      try simp only [Act.put, List.setIfInBounds_toArray, List.set_cons_zero, List.set_cons_succ]
      refine wpAnyH_done (by kernel_rfl) ?_ _
      clear p0 q0 hHeld
      go_wp2_with fail
      go_roundw
      case rel => exact ⟨k + 1, by omega, by go_num, HB.out.trans (hb2.mono HB.out.size)⟩
      case measure => simp [intOf]; omega
    · go_wp2_with fail
      go_ret
      exact ⟨rfl, hb⟩
set_option maxRecDepth 100000 in
set_option maxHeartbeats 1600000 in
theorem markIntSS_any (v : Value) (vs : List Value) (xss : List (List Int)) (k : Int) (lo hi : Nat) (w : World) (h : OwnSS lo hi w v vs xss) (hn : xss.length ≤ 100000 ∧ offs xss xss.length ≤ 100000) (hk : 0 ≤ k ∧ k ≤ 100000) (hlo : lo ≤ w.heap.size) :
    Calls Try.prog 40 #[v, .int .i64 k] w fun en w' => en = .returned (.int .i64 (k + (offs xss xss.length : Int))) ∧ OwnSS lo hi w' v vs (mkss k xss) ∧ Btw lo hi w w' := by
  obtain ⟨hk0, hk1⟩ := hk
  obtain ⟨hn0, hn1⟩ := hn
  have hvl := h.len
  obtain ⟨a, cp, rfl⟩ := own_form h.outer.1
  have HO := Lib.hid h
  have HL := Lib.hid hvl
  have hn2 : vs.length ≤ 100000 := by omega
  clear h hvl
  go_enter Try.func40, Try.ntmps40
  go_wp2_with fail
  go_loopw [5, 1] (fun i kk wr => ∃ (m : Nat) (yss : List (List Int)), m ≤ vs.length ∧ i = .int .i64 m ∧ kk = .int .i64 (k + (offs xss m : Int)) ∧ yss.length = xss.length ∧ Hid (∀ i, i < m → yss.getD i [] = mksI (k + (offs xss i : Int)) (xss.getD i []).length) ∧ Hid (∀ i, m ≤ i → yss.getD i [] = xss.getD i []) ∧ OwnSS lo hi wr (.slice a vs.length cp) vs yss ∧ Btw lo hi w wr) (fun i _ _ => vs.length - (intOf i).toNat)
  case atStart => exact ⟨0, xss, Nat.zero_le _, rfl, by rw [offs_zero]; simp, rfl, Lib.hid (fun i hi => absurd hi (Nat.not_lt_zero _)), Lib.hid (fun _ _ => rfl), HO.out, Btw.refl _ _ _⟩
  case round =>
    obtain ⟨m, yss, hm, rfl, rfl, hyl, HP, HQ, how, hbt⟩ := hrel
    have HW := Lib.hid how
    have HB := Lib.hid hbt
    have HYL := Lib.hid hyl
    by_cases hlt : m < vs.length
    · have hml : m < xss.length := by rw [← HL.out]; exact hlt
      have hos := offs_succ xss m hml
      have hom := offs_mono xss (xss.length - (m + 1)) (m + 1) (by omega)
      rw [show m + 1 + (xss.length - (m + 1)) = xss.length by omega] at hom
      have hR := RowsR.of_own vC_len (by rw [flat_v]; exact how.outer.1)
      obtain ⟨b1, o1, rfl, l1, k1⟩ := hR.at wr (Below.refl _ _) m hlt
      have p0 : wr.cell? ⟨b1, o1 + m, none⟩ = some (vs.getD m undef) := by have := k1 0 (by omega); rw [Nat.mul_one] at this; rw [getD_at _ _ _ hlt]; exact this
      obtain ⟨x1, x2, n1, n2, n3, n4⟩ := (how.inner m hlt).narrow how.ord
      rw [HQ.out m (Nat.le_refl _)] at n1
      have HC := Lib.hid (markIntS_any (vs.getD m undef) (xss.getD m []).length (k + (offs xss m : Int)) x1 x2 _ _ wr n1 (by omega) ⟨by omega, by omega⟩)
      have HN := Lib.hid (And.intro n2 (And.intro n3 n4))
      have HOS := Lib.hid hos
      have z1 : (0 : Int) ≤ (m : Int) := by omega
      have z2 : (m : Int) < (vs.length : Int) := by omega
      have z3 : (0 : Int) ≤ (offs xss m : Int) := by omega
      have z4 : (offs xss m : Int) ≤ 100000 := by omega
      generalize hge : vs.getD m undef = u at p0 HC
      have HGE := Lib.hid hge
      clear k1 hR n1 n2 n3 n4 how hbt hyl hge hos hom
      generalize hom' : offs xss m = om at HC HOS z3 z4 ⊢
      generalize hln : (xss.getD m []).length = ln at HC HOS
      have HLN := Lib.hid hln
      have HOM := Lib.hid hom'
      clear hom' hln
      go_wp2_with fail
      refine HC.out.mono ?_
      rintro e w2 ⟨rfl, ho2, hb2⟩
      have HO2 := Lib.hid (HW.out.marked hlt (a := x1) (b := x2) HN.out.2.2 HN.out.1 HN.out.2.1 hb2 (mksI (k + (om : Int)) ln) (by rw [HGE.out, mksI_len]; exact ho2))
      have HB2 : Hid (Btw lo hi w w2) := Lib.hid (HB.out.trans (hb2.mono HN.out.1 HN.out.2.1))
      clear ho2 hb2 p0
      go_wp2_with fail
      go_roundw
      case rel =>
        refine ⟨m + 1, yss.set m (mksI (k + (om : Int)) ln), by omega, by go_num, by rw [HOS.out]; congr 1; push_cast; omega, by rw [List.length_set]; exact HYL.out, Lib.hid (fun i hi => ?_), Lib.hid (fun i hi => ?_), HO2.out, HB2.out⟩
        · by_cases e : i = m
          · subst e
            rw [getD_at _ _ _ (by rw [List.length_set, HYL.out]; exact hml), List.getElem_set_self, HOM.out, HLN.out]
          · rw [← HP.out i (by omega)]
            rw [getD_at _ _ _ (by rw [List.length_set, HYL.out]; omega), List.getElem_set_ne (Ne.symm e), ← getD_at yss i [] (by rw [HYL.out]; omega)]
        · rw [← HQ.out i (by omega)]
          by_cases hil : i < yss.length
          · rw [getD_at _ _ _ (by rw [List.length_set]; exact hil), List.getElem_set_ne (by omega), ← getD_at yss i [] hil]
          · rw [getD_out _ _ _ (by rw [List.length_set]; omega), getD_out _ _ _ (by omega)]
      case measure => simp [intOf]; omega
    · have hme : m = xss.length := by rw [← HL.out]; omega
      have HE : Hid (yss = mkss k xss) := Lib.hid (mkss_of k xss yss hyl (fun i hi => HP.out i (by omega)))
      have HK : Hid (offs xss m = offs xss xss.length) := Lib.hid (by rw [hme])
      clear how hbt hyl hme
      go_wp2_with fail
      go_ret
      exact ⟨by rw [← HK.out]; rfl, HE.out ▸ HW.out, HB.out⟩
set_option maxRecDepth 100000 in
set_option maxHeartbeats 1600000 in
theorem heldIntSS_any (v : Value) (xss : List (List Int)) (k : Int) (w : World) (h : SSR w v (mkss k xss)) (hn : xss.length ≤ 100000 ∧ offs xss xss.length ≤ 100000) (hk : 0 ≤ k ∧ k ≤ 100000) :
    Calls Try.prog 41 #[v, .int .i64 k] w fun en w' => en = .returned (.int .i64 (k + (offs xss xss.length : Int))) ∧ Below w.heap.size w w' := by
  obtain ⟨hk0, hk1⟩ := hk
  obtain ⟨hn0, hn1⟩ := hn
  obtain ⟨vs, u1, u2, u3⟩ := h
  rw [mkss_len] at u2
  obtain ⟨a1, c1, rfl⟩ := u1.form
  have R1 := Lib.hid u1.at
  have HU := Lib.hid u3
  have HL := Lib.hid u2
  have hn2 : vs.length ≤ 100000 := by omega
  clear u1 u2 u3
  go_enter Try.func41, Try.ntmps41
  go_wp2_with fail
  go_loopw [5, 1] (fun i kk wr => ∃ m : Nat, m ≤ vs.length ∧ i = .int .i64 m ∧ kk = .int .i64 (k + (offs xss m : Int)) ∧ Below w.heap.size w wr) (fun i _ _ => vs.length - (intOf i).toNat)
  case atStart => exact ⟨0, Nat.zero_le _, rfl, by rw [offs_zero]; simp, Below.refl _ _⟩
  case round =>
    obtain ⟨m, hm, rfl, rfl, hb⟩ := hrel
    have HB := Lib.hid hb
    by_cases hlt : m < vs.length
    · have hml : m < xss.length := by rw [← HL.out]; exact hlt
      have hos := offs_succ xss m hml
      have hom := offs_mono xss (xss.length - (m + 1)) (m + 1) (by omega)
      rw [show m + 1 + (xss.length - (m + 1)) = xss.length by omega] at hom
      obtain ⟨b1, o1, rfl, l1, k1⟩ := R1.out _ hb m hlt
      have p0 : wr.cell? ⟨b1, o1 + m, none⟩ = some (vs.getD m undef) := by have := k1 0 (by omega); rw [Nat.mul_one] at this; rw [getD_at _ _ _ hlt]; exact this
      have hrr := (HU.out m hlt).below hb (Nat.le_refl _)
      rw [mkss_at k xss m hml] at hrr
      have HC := Lib.hid (heldIntS_any (vs.getD m undef) (xss.getD m []).length (k + (offs xss m : Int)) wr hrr (by omega) ⟨by omega, by omega⟩)
      have HOS := Lib.hid hos
      have z1 : (0 : Int) ≤ (m : Int) := by omega
      have z2 : (m : Int) < (vs.length : Int) := by omega
      have z3 : (0 : Int) ≤ (offs xss m : Int) := by omega
      have z4 : (offs xss m : Int) ≤ 100000 := by omega
      generalize vs.getD m undef = u at p0 HC
      generalize hln : (xss.getD m []).length = ln at HC HOS
      have z5 : ¬ (k + (offs xss m : Int) + (ln : Int) < 0) := by omega
      have z6 : (ln : Int) ≤ 100000 := by omega
      clear k1 hrr hos hom hb hln
      generalize offs xss m = om at HC HOS z3 z4 z5 ⊢
      go_wp2_with fail
      refine HC.out.mono ?_
      rintro e w2 ⟨rfl, hb2⟩
      have HB2 : Hid (Below w.heap.size w w2) := Lib.hid (HB.out.trans (hb2.mono HB.out.size))
      clear hb2 p0
      go_wp2_with fail
      go_roundw
      case rel => exact ⟨m + 1, by omega, by go_num, by rw [HOS.out]; congr 1; push_cast; omega, HB2.out⟩
      case measure => simp [intOf]; omega
    · have hme : m = xss.length := by rw [← HL.out]; omega
      have HK : Hid (offs xss m = offs xss xss.length) := Lib.hid (by rw [hme])
      clear hb hme
      go_wp2_with fail
      go_ret
      exact ⟨by rw [← HK.out]; rfl, HB.out⟩
end Go.Proofs.Ytblbeoeklkcamaa
