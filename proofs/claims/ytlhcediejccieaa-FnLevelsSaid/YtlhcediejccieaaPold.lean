/- The oldest of a class: the model's, the program's. -/
import Derived.Test.YtlhcediejccieaaPmean
namespace Go.Proofs.Ytlhcediejccieaa
set_option linter.unusedVariables false
open Go.RowKit

/-- The oldest, the first one on ties, from q on. -/
def oldF (q : Pu) (ms : List Pu) : Pu := ms.foldl (fun q p => if p.born < q.born then p else q) q
theorem oldF_snoc (q : Pu) (a : List Pu) (p : Pu) : oldF q (a ++ [p]) = if p.born < (oldF q a).born then p else oldF q a := by unfold oldF; rw [List.foldl_append]; rfl
def OldF (ms : List Pu) (r : Bool) (x : Int) (t : Bool) : Prop := (∃ q rest, r = true ∧ ms = q :: rest ∧ x = (oldF q ms).id ∧ t = true) ∨ ((r = false ∨ ms = []) ∧ x = 0 ∧ t = false)
theorem oldF_or (ms : List Pu) (r : Bool) : ∃ x t, OldF ms r x t := by
  cases r with
  | false => exact ⟨0, false, .inr ⟨.inl rfl, rfl, rfl⟩⟩
  | true =>
    cases ms with
    | nil => exact ⟨0, false, .inr ⟨.inr rfl, rfl, rfl⟩⟩
    | cons q rest => exact ⟨_, true, .inl ⟨q, rest, rfl, rfl, rfl, rfl⟩⟩
theorem oldF_self (q : Pu) (rest : List Pu) : oldF q (q :: rest) = oldF q rest := by unfold oldF; simp
/-- What the model keeps: no pupil so far, or the place of the oldest. -/
def OldAt (c : Int) (ps : List Pu) (k : Nat) (b : Int) : Prop := (memC c (ps.take k) = [] ∧ b = -1) ∨ ∃ j q rest, ∃ h : j < ps.length, b = (j : Int) ∧ memC c (ps.take k) = q :: rest ∧ ps[j] = oldF q (q :: rest)
theorem oldAt_no {c : Int} {ps : List Pu} {k : Nat} {b : Int} (h : OldAt c ps k b) (hk : k < ps.length) (hc : ¬ ps[k].cls = c) : OldAt c ps (k + 1) b := by
  unfold OldAt; rw [memC_no c ps k hk hc]; exact h
theorem oldAt_first {c : Int} {ps : List Pu} {k : Nat} (h : OldAt c ps k (-1)) (hk : k < ps.length) (hc : ps[k].cls = c) : OldAt c ps (k + 1) (k : Int) := by
  have h0 : memC c (ps.take k) = [] := by
    rcases h with ⟨h0, _⟩ | ⟨j, _, _, _, hb, _⟩
    · exact h0
    · omega
  refine .inr ⟨k, ps[k], [], hk, rfl, ?_, ?_⟩
  · rw [memC_yes c ps k hk hc, h0]; rfl
  · rw [oldF_self]; rfl
theorem oldAt_next {c : Int} {ps : List Pu} {k j : Nat} (h : OldAt c ps k (j : Int)) (hk : k < ps.length) (hj : j < ps.length) (hc : ps[k].cls = c) (r : Int) (hr1 : ps[k].born < ps[j].born → r = k) (hr2 : ¬ ps[k].born < ps[j].born → r = j) : OldAt c ps (k + 1) r := by
  rcases h with ⟨_, hb⟩ | ⟨j', q, rest, hj', hb, hm, he⟩
  · omega
  · obtain rfl : j = j' := by omega
    have hcons : memC c (ps.take (k + 1)) = q :: (rest ++ [ps[k]]) := by rw [memC_yes c ps k hk hc, hm]; rfl
    have hf := oldF_snoc q (q :: rest) ps[k]
    rw [← he] at hf
    by_cases hlt : ps[k].born < ps[j].born
    · rw [if_pos hlt] at hf
      exact .inr ⟨k, q, _, hk, hr1 hlt, hcons, hf.symm⟩
    · rw [if_neg hlt] at hf
      exact .inr ⟨j, q, _, hj, hr2 hlt, hcons, hf.symm⟩

set_option maxRecDepth 100000 in
set_option maxHeartbeats 800000 in
theorem specOld_no (v : Value) (ps : List Pu) (c : Int) (w : World) (h : RowsR 5 puC w v ps) (hs : ∀ p ∈ ps, p.name.size ≤ maxLen) (hl : ps.length ≤ 1048576) (hn : ¬ (okL ps ∧ (0 ≤ c ∧ c ≤ 9))) :
    Calls Try.prog 38 #[v, .int .i64 c] w fun e w' => e = .returned (.tuple #[.int .i64 0, .bool false]) ∧ Below w.heap.size w w' := by
  by_cases ho : okL ps
  · have HN : Hid (¬ (0 ≤ c ∧ c ≤ 9)) := Lib.hid fun hc => hn ⟨ho, hc⟩
    have HC := Lib.hid (l3Good_yes v ps w h hs hl ho)
    clear h hs hn ho
    go_enter Try.func38, Try.ntmps38
    go_wp2_with fail
    refine HC.out.mono ?_
    rintro e w2 ⟨rfl, hb2⟩
    go_wp2_with fail
    refine (l1In_noq _ _ _ _ HN.out).mono ?_
    rintro e w' ⟨rfl, hw⟩
    subst w'
    go_wp2_with fail
    go_ret2
    exact ⟨rfl, hb2⟩
  · have HC := Lib.hid (l3Good_no v ps w h hs hl ho)
    clear h hs hn ho
    go_enter Try.func38, Try.ntmps38
    go_wp2_with fail
    refine HC.out.mono ?_
    rintro e w2 ⟨rfl, hb2⟩
    go_wp2_with fail
    go_ret2
    exact ⟨rfl, hb2⟩
set_option maxRecDepth 100000 in
set_option maxHeartbeats 1600000 in
theorem specOld_ok (v : Value) (ps : List Pu) (c : Int) (w : World) (h : RowsR 5 puC w v ps) (hs : ∀ p ∈ ps, p.name.size ≤ maxLen) (ho : okL ps) (hc : 0 ≤ c ∧ c ≤ 9) (x : Int) (t : Bool) (hq : OldF (memC c ps) true x t) :
    Calls Try.prog 38 #[v, .int .i64 c] w fun e w' => e = .returned (.tuple #[.int .i64 x, .bool t]) ∧ Below w.heap.size w w' := by
  have hl := okL_len ho
  have HC := Lib.hid (l3Good_yes v ps w h hs (by omega) ho)
  obtain ⟨a, cp, rfl⟩ := h.form
  have R1 := Lib.hid h.at
  have HQ := Lib.hid hq
  clear h hs ho hq
  go_enter Try.func38, Try.ntmps38
  go_wp2_with fail
  refine HC.out.mono ?_
  rintro e w2 ⟨rfl, hb2⟩
  have HB := Lib.hid hb2
  clear hb2
  go_wp2_with fail
  refine (l1In_yesq _ _ _ _ hc).mono ?_
  rintro e w' ⟨rfl, hw⟩
  subst w'
  clear hc
  go_wp2_with fail
  go_loopw [6, 7] (fun b i wr => ∃ (k : Nat) (bb : Int), k ≤ ps.length ∧ i = .int .i64 k ∧ b = .int .i64 bb ∧ Hid (OldAt c ps k bb) ∧ Below w.heap.size w wr) (fun _ i _ => ps.length - (intOf i).toNat)
  case atStart => exact ⟨0, -1, Nat.zero_le _, rfl, rfl, Lib.hid (.inl ⟨rfl, rfl⟩), HB.out⟩
  case round =>
    obtain ⟨k, bb, hk, rfl, rfl, HA, hb⟩ := hrel
    have HB2 := Lib.hid hb
    by_cases hlt : k < ps.length
    · have z1 : (0 : Int) ≤ (k : Int) := by omega
      have z2 : (k : Int) < (ps.length : Int) := by omega
      obtain ⟨b1, o1, rfl, l1, k1⟩ := R1.out _ hb k hlt
      have p3 : wr.cell? ⟨b1, o1 + k * 5 + 3, none⟩ = some (.int .i64 ps[k].cls) := k1 3 (by omega)
      have p2 : wr.cell? ⟨b1, o1 + k * 5 + 2, none⟩ = some (.int .i64 ps[k].born) := k1 2 (by omega)
      by_cases hq : ps[k].cls = c
      · rcases (show bb = -1 ∨ ∃ j : Nat, j < ps.length ∧ bb = (j : Int) from by
          rcases HA.out with ⟨_, h1⟩ | ⟨j, _, _, hj, h1, _⟩
          · exact .inl h1
          · exact .inr ⟨j, hj, h1⟩) with rfl | ⟨j, hj, rfl⟩
        · have HE := Lib.hid (oldAt_first HA.out hlt hq)
          rw [hq] at p3
          have hcc : (c == c) = true := by simp
          clear hb k1 hq
          go_wp2_with fail
          go_quiet (fail)
          go_wp2_with fail
          go_roundw
          case rel => exact ⟨k + 1, k, by omega, by go_num, rfl, HE, bl_drewN HB2.out _⟩
          case measure => simp [intOf]; omega
        · obtain ⟨b1', o1', e1, _, k2⟩ := R1.out _ hb j hj
          obtain ⟨rfl, rfl⟩ : b1 = b1' ∧ o1 = o1' := by injection e1 with e1; injection e1 with e1 e2; exact ⟨e1, e2⟩
          have q2 : wr.cell? ⟨b1, o1 + j * 5 + 2, none⟩ = some (.int .i64 ps[j].born) := k2 2 (by omega)
          have z3 : (0 : Int) ≤ (j : Int) := by omega
          have z4 : (j : Int) < (ps.length : Int) := by omega
          have hj0 : decide ((j : Int) < 0) = false := decide_eq_false (by omega)
          by_cases hbn : ps[k].born < ps[j].born
          · have HE := Lib.hid (oldAt_next HA.out hlt hj hq k (fun _ => rfl) (fun h => absurd hbn h))
            rw [hq] at p3
            have hcc : (c == c) = true := by simp
            have hbd : decide (ps[k].born < ps[j].born) = true := decide_eq_true hbn
            generalize ps[k].born = bk at p2 hbd hbn
            generalize ps[j].born = bj at q2 hbd hbn
            clear hb k1 k2 hq e1
            go_wp2_with fail
            go_quiet (fail)
            go_wp2_with fail
            go_roundw
            case rel => exact ⟨k + 1, k, by omega, by go_num, rfl, HE, bl_drewN HB2.out _⟩
            case measure => simp [intOf]; omega
          · have HE := Lib.hid (oldAt_next HA.out hlt hj hq j (fun h => absurd h hbn) (fun _ => rfl))
            rw [hq] at p3
            have hcc : (c == c) = true := by simp
            have hbd : decide (ps[k].born < ps[j].born) = false := decide_eq_false hbn
            generalize ps[k].born = bk at p2 hbd hbn
            generalize ps[j].born = bj at q2 hbd hbn
            clear hb k1 k2 hq e1
            go_wp2_with fail
            go_quiet (fail)
            go_wp2_with fail
            go_roundw
            case rel => exact ⟨k + 1, j, by omega, by go_num, rfl, HE, bl_drewN HB2.out _⟩
            case measure => simp [intOf]; omega
      · have HE := Lib.hid (oldAt_no HA.out hlt hq)
        have hcc : (ps[k].cls == c) = false := by rw [beq_eq_false_iff_ne]; exact hq
        clear hb k1 hq
        go_wp2_with fail
        go_quiet (fail)
        go_wp2_with fail
        go_roundw
        case rel => exact ⟨k + 1, bb, by omega, by go_num, rfl, HE, bl_drewN HB2.out _⟩
        case measure => simp [intOf]; omega
    · have HA2 : Hid (OldAt c ps ps.length bb) := Lib.hid (by have := HA.out; rwa [show k = ps.length by omega] at this)
      rcases (show (bb = -1 ∧ memC c ps = []) ∨ ∃ j q rest, ∃ hj : j < ps.length, bb = (j : Int) ∧ memC c ps = q :: rest ∧ ps[j] = oldF q (q :: rest) from by
          rcases HA2.out with ⟨h0, h1⟩ | ⟨j, q, rest, hj, h1, h2, h3⟩
          · rw [List.take_of_length_le (Nat.le_refl _)] at h0; exact .inl ⟨h1, h0⟩
          · rw [List.take_of_length_le (Nat.le_refl _)] at h2; exact .inr ⟨j, q, rest, hj, h1, h2, h3⟩) with ⟨rfl, hm0⟩ | ⟨j, q, rest, hj, rfl, hm0, he⟩
      · have HT : Hid (x = 0 ∧ t = false) := Lib.hid (by
          rcases HQ.out with ⟨q, rest, _, h1, _⟩ | ⟨_, h1, h2⟩
          · rw [hm0] at h1; cases h1
          · exact ⟨h1, h2⟩)
        clear hb hm0 HA HA2
        go_wp2_with fail
        go_ret2
        exact ⟨by rw [HT.out.1, HT.out.2]; rfl, HB2.out⟩
      · obtain ⟨b1, o1, rfl, l1, k1⟩ := R1.out _ hb j hj
        have p0 : wr.cell? ⟨b1, o1 + j * 5, none⟩ = some (.int .i64 ps[j].id) := k1 0 (by omega)
        have z3 : (0 : Int) ≤ (j : Int) := by omega
        have z4 : (j : Int) < (ps.length : Int) := by omega
        have HT : Hid (x = ps[j].id ∧ t = true) := Lib.hid (by
          rcases HQ.out with ⟨q', rest', _, h1, h2, h3⟩ | ⟨h1, _⟩
          · rw [hm0] at h1 h2
            injection h1 with h1 h1'
            subst h1
            exact ⟨by rw [h2, he], h3⟩
          · rcases h1 with h1 | h1
            · simp at h1
            · rw [hm0] at h1; cases h1)
        clear hb k1 hm0 he HA HA2
        go_wp2_with fail
        go_ret2
        exact ⟨by rw [HT.out.1, HT.out.2]; rfl, HB2.out⟩
theorem box5_set {w : World} {b : Nat} {x0 x1 x2 x3 x4 : Value} {T : TypeId} (h : w.heap[b]? = some (.cells #[x0, x1, x2, x3, x4] T (0, 0))) (y0 y1 y2 y3 y4 : Value) :
    (((((w.setCell ⟨b, 0, none⟩ y0).setCell ⟨b, 1, none⟩ y1).setCell ⟨b, 2, none⟩ y2).setCell ⟨b, 3, none⟩ y3).setCell ⟨b, 4, none⟩ y4).heap[b]? = some (.cells #[y0, y1, y2, y3, y4] T (0, 0)) := by
  have h0 := heap_setCell_same _ b 0 _ _ y0 h
  have h1 := heap_setCell_same _ b 1 _ _ y1 h0
  have h2 := heap_setCell_same _ b 2 _ _ y2 h1
  have h3 := heap_setCell_same _ b 3 _ _ y3 h2
  have h4 := heap_setCell_same _ b 4 _ _ y4 h3
  simpa using h4
set_option maxRecDepth 100000 in
set_option maxHeartbeats 1600000 in
theorem implOld_some (v : Value) (ps : List Pu) (c : Int) (w : World) (h : RowsR 5 puC w v ps) (hs : ∀ p ∈ ps, p.name.size ≤ maxLen) (q : Pu) (rest : List Pu) (hm : MemF ps c (q :: rest) true) :
    Calls Try.prog 37 #[v, .int .i64 c] w fun e w' => e = .returned (.tuple #[.int .i64 (oldF q (q :: rest)).id, .bool true]) ∧ Below w.heap.size w w' := by
  have hl := memF_len hm
  have HC := Lib.hid (membersOf_any v ps c w h hs (q :: rest) true hm)
  have h0 : 0 < (q :: rest).length := by simp
  have HQ0 : Hid ((q :: rest)[0] = q) := Lib.hid rfl
  generalize hmse : q :: rest = ms at *
  clear hmse
  clear h hs hm
  have hmb : ((ms.length : Int) == 0) = false := by simp; intro e; subst e; simp at h0
  have hmb' : ¬ (ms.length : Int) = 0 := by omega
  have hmi : (0 : Int) < (ms.length : Int) := by omega
  go_enter Try.func37, Try.ntmps37
  go_wp2_with fail
  refine HC.out.mono ?_
  rintro e w2 ⟨⟨sm, rfl, ho⟩, hb2⟩
  have HR := Lib.hid (RowsR.of_own puC_len ho)
  obtain ⟨a, cp, rfl⟩ := own_form ho
  have R1 := Lib.hid HR.out.at
  have HB := Lib.hid hb2
  clear hb2 ho
  obtain ⟨b1, o1, rfl, l1, k1⟩ := R1.out _ (Below.refl _ _) 0 h0
  rw [HQ0.out] at k1
  have p0 : w2.cell? ⟨b1, o1, none⟩ = some (.int .i64 q.id) := by have := k1 0 (by omega); simpa [puC] using this
  have p1 : w2.cell? ⟨b1, o1 + 1, none⟩ = some (.string q.name) := by have := k1 1 (by omega); simpa [puC] using this
  have p2 : w2.cell? ⟨b1, o1 + 2, none⟩ = some (.int .i64 q.born) := by have := k1 2 (by omega); simpa [puC] using this
  have p3 : w2.cell? ⟨b1, o1 + 3, none⟩ = some (.int .i64 q.cls) := by have := k1 3 (by omega); simpa [puC] using this
  have p4 : w2.cell? ⟨b1, o1 + 4, none⟩ = some (.int .i64 q.lvl) := by have := k1 4 (by omega); simpa [puC] using this
  clear k1
  go_wp2_with fail
  go_loopw [29] (fun i wr => ∃ (k : Nat) (o : Pu), k ≤ ms.length ∧ i = .int .i64 k ∧ wr.heap[w2.heap.size]? = some (.cells #[.int .i64 o.id, .string o.name, .int .i64 o.born, .int .i64 o.cls, .int .i64 o.lvl] 38 (0, 0)) ∧ Hid (oldF q (ms.take k) = o) ∧ Below w2.heap.size w2 wr) (fun i _ => ms.length - (intOf i).toNat)
  case atStart => exact ⟨0, q, Nat.zero_le _, rfl, alloc_at rfl, Lib.hid rfl, (Below.refl _ _).alloc (Nat.le_refl _) _⟩
  case round =>
    clear p0 p1 p2 p3 p4
    obtain ⟨k, o, hk, rfl, hh, HOL, hb⟩ := hrel
    have HB2 := Lib.hid hb
    have HH := Lib.hid hh
    have lb := lt_of_block hh
    obtain ⟨c0, c1, c2, c3, c4, f0, f1, f2, f3, f4⟩ := cell5 hh
    by_cases hlt : k < ms.length
    · have z1 : (0 : Int) ≤ (k : Int) := by omega
      have z2 : (k : Int) < (ms.length : Int) := by omega
      obtain ⟨b1', o1', e1, l1', k1⟩ := R1.out _ hb k hlt
      obtain ⟨rfl, rfl⟩ : b1 = b1' ∧ o1 = o1' := by injection e1 with e1; injection e1 with e1 e2; exact ⟨e1, e2⟩
      have p0 : wr.cell? ⟨b1, o1 + k * 5, none⟩ = some (.int .i64 ms[k].id) := k1 0 (by omega)
      have p1 : wr.cell? ⟨b1, o1 + k * 5 + 1, none⟩ = some (.string ms[k].name) := k1 1 (by omega)
      have p2 : wr.cell? ⟨b1, o1 + k * 5 + 2, none⟩ = some (.int .i64 ms[k].born) := k1 2 (by omega)
      have p3 : wr.cell? ⟨b1, o1 + k * 5 + 3, none⟩ = some (.int .i64 ms[k].cls) := k1 3 (by omega)
      have p4 : wr.cell? ⟨b1, o1 + k * 5 + 4, none⟩ = some (.int .i64 ms[k].lvl) := k1 4 (by omega)
      have HE : Hid (oldF q (ms.take (k + 1)) = if ms[k].born < o.born then ms[k] else o) := Lib.hid (by rw [List.take_succ_eq_append_getElem hlt, oldF_snoc, HOL.out])
      generalize ms[k] = p at p0 p1 p2 p3 p4 HE
      clear hb hh k1 e1
      by_cases hbn : p.born < o.born
      · go_wp2_with fail
        go_roundw
        case rel => exact ⟨k + 1, p, by omega, by go_num, by rw [alloc_old (by simpa using lb)]; exact box5_set HH.out _ _ _ _ _, Lib.hid (by rw [HE.out, if_pos hbn]), (((((HB2.out.setCell (p := ⟨w2.heap.size, 0, none⟩) (Nat.le_refl _) _).setCell (p := ⟨w2.heap.size, 1, none⟩) (Nat.le_refl _) _).setCell (p := ⟨w2.heap.size, 2, none⟩) (Nat.le_refl _) _).setCell (p := ⟨w2.heap.size, 3, none⟩) (Nat.le_refl _) _).setCell (p := ⟨w2.heap.size, 4, none⟩) (Nat.le_refl _) _).alloc (by simpa using HB2.out.size) _⟩
        case measure => simp [intOf]; omega
      · go_wp2_with fail
        go_roundw
        case rel => exact ⟨k + 1, o, by omega, by go_num, by rw [alloc_old lb]; exact HH.out, Lib.hid (by rw [HE.out, if_neg hbn]), HB2.out.alloc HB2.out.size _⟩
        case measure => simp [intOf]; omega
    · have HE : Hid (oldF q ms = o) := Lib.hid (by have := HOL.out; rwa [List.take_of_length_le (by omega)] at this)
      clear hb hh
      go_wp2_with fail
      go_ret2
      exact ⟨by rw [HE.out]; rfl, HB.out.trans (HB2.out.mono HB.out.size)⟩
set_option maxRecDepth 100000 in
set_option maxHeartbeats 800000 in
theorem implOld_none (v : Value) (ps : List Pu) (c : Int) (w : World) (h : RowsR 5 puC w v ps) (hs : ∀ p ∈ ps, p.name.size ≤ maxLen) (ms : List Pu) (r : Bool) (hm : MemF ps c ms r) (hx : r = false ∨ ms = []) :
    Calls Try.prog 37 #[v, .int .i64 c] w fun e w' => e = .returned (.tuple #[.int .i64 0, .bool false]) ∧ Below w.heap.size w w' := by
  have HC := Lib.hid (membersOf_any v ps c w h hs ms r hm)
  clear h hs hm
  cases r with
  | false =>
    clear hx
    go_enter Try.func37, Try.ntmps37
    go_wp2_with fail
    refine HC.out.mono ?_
    rintro e w2 ⟨⟨sm, rfl, ho⟩, hb2⟩
    obtain ⟨a, cp, rfl⟩ := own_form ho
    clear ho
    go_wp2_with fail
    go_ret2
    exact ⟨rfl, hb2⟩
  | true =>
    obtain rfl : ms = [] := by rcases hx with h | h; (· simp at h); exact h
    clear hx
    go_enter Try.func37, Try.ntmps37
    go_wp2_with fail
    refine HC.out.mono ?_
    rintro e w2 ⟨⟨sm, rfl, ho⟩, hb2⟩
    obtain ⟨a, cp, rfl⟩ := own_form ho
    clear ho
    go_wp2_with fail
    go_ret2
    exact ⟨rfl, hb2⟩
theorem implOld_any (v : Value) (ps : List Pu) (c : Int) (w : World) (h : RowsR 5 puC w v ps) (hs : ∀ p ∈ ps, p.name.size ≤ maxLen) (ms : List Pu) (r : Bool) (hm : MemF ps c ms r) (x : Int) (t : Bool) (hq : OldF ms r x t) :
    Calls Try.prog 37 #[v, .int .i64 c] w fun e w' => e = .returned (.tuple #[.int .i64 x, .bool t]) ∧ Below w.heap.size w w' := by
  rcases hq with ⟨q, rest, rfl, rfl, rfl, rfl⟩ | ⟨hx, rfl, rfl⟩
  · exact implOld_some v ps c w h hs q rest hm
  · exact implOld_none v ps c w h hs ms r hm hx
end Go.Proofs.Ytlhcediejccieaa
