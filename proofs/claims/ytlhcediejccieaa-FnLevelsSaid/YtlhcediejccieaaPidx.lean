/- Where a pupil is in a list: the program's, by the library and a closure. -/
import Derived.Test.YtlhcediejccieaaPi3
import Derived.Test.YtlhcediejccieaaPfind
namespace Go.Proofs.Ytlhcediejccieaa
set_option linter.unusedVariables false
open Go.RowKit

theorem cell1' {w : World} {b : Nat} {x : Value} {T : TypeId} (h : w.heap[b]? = some (.cells #[x] T (0, 0))) : w.cell? ⟨b, 0, none⟩ = some x := by simp [World.cell?, h]
set_option maxRecDepth 100000 in
set_option maxHeartbeats 800000 in
theorem isId_any (id : Int) (B : Nat) (p : Pu) (w : World) (hc : w.cell? ⟨B, 0, none⟩ = some (.int .i64 id)) :
    Calls Try.prog 60 #[puV p, .pointer (some ⟨B, 0, none⟩)] w fun e w' => e = .returned (.bool (decide (p.id = id))) ∧ Below w.heap.size w w' := by
  obtain ⟨pid, name, born, cls, lvl⟩ := p
  show Calls Try.prog 60 #[.agg #[.int .i64 pid, .string name, .int .i64 born, .int .i64 cls, .int .i64 lvl], .pointer (some ⟨B, 0, none⟩)] w fun e w' => e = .returned (.bool (decide (pid = id))) ∧ Below w.heap.size w w'
  have hB : B < w.heap.size := cell_lt hc
  have hne : B ≠ w.heap.size := by omega
  by_cases h : pid = id
  · subst h
    rw [decide_eq_true rfl]
    go_enter Try.func60, Try.ntmps60
    go_wp2_with fail
    go_ret
    exact ⟨rfl, (Below.refl _ _).alloc (Nat.le_refl _) _⟩
  · have hb : (pid == id) = false := by rw [beq_eq_false_iff_ne]; exact h
    rw [decide_eq_false h]
    go_enter Try.func60, Try.ntmps60
    go_wp2_with fail
    go_ret
    exact ⟨rfl, (Below.refl _ _).alloc (Nat.le_refl _) _⟩
set_option maxRecDepth 100000 in
set_option maxHeartbeats 1600000 in
theorem indexFunc_scan (v : Value) (ps : List Pu) (id : Int) (B : Nat) (w : World) (h : RowsR 5 puC w v ps) (hl : ps.length ≤ 1048576) (hcell : w.cell? ⟨B, 0, none⟩ = some (.int .i64 id)) (K : Nat) (hK : K ≤ ps.length) (hpre : ∀ j (hj : j < ps.length), j < K → ps[j].id ≠ id) (hx : ∀ hj : K < ps.length, ps[K].id = id) (r : Int) (hr1 : K < ps.length → r = K) (hr2 : ¬ K < ps.length → r = -1) :
    Calls Try.prog 59 #[v, .func (.func 60) #[] #[.pointer (some ⟨B, 0, none⟩)]] w fun e w' => e = .returned (.int .i64 r) ∧ Below w.heap.size w w' := by
  obtain ⟨a, cp, rfl⟩ := h.form
  have R1 := Lib.hid h.at
  have HP := Lib.hid hpre
  have HX := Lib.hid hx
  have HR1 := Lib.hid hr1
  have HR2 := Lib.hid hr2
  have hB : B < w.heap.size := cell_lt hcell
  have HC := Lib.hid (fun w' (hb : Below w.heap.size w w') => (hb.cell (p := ⟨B, 0, none⟩) hB).trans hcell)
  clear h hpre hx hr1 hr2 hcell
  go_enter Try.func59, Try.ntmps59
  go_wp2_with fail
  go_loopw [8] (fun i wr => ∃ n : Nat, n ≤ K ∧ i = .int .i64 n ∧ Below w.heap.size w wr) (fun i _ => ps.length - (intOf i).toNat)
  case atStart => exact ⟨0, Nat.zero_le _, rfl, Below.refl _ _⟩
  case round =>
    obtain ⟨n, hn, rfl, hb⟩ := hrel
    have HB := Lib.hid hb
    by_cases hlt : n < ps.length
    · have z1 : (0 : Int) ≤ (n : Int) := by omega
      have z2 : (n : Int) < (ps.length : Int) := by omega
      obtain ⟨b1, o1, rfl, l1, k1⟩ := R1.out _ hb n hlt
      have p0 : wr.cell? ⟨b1, o1 + n * 5, none⟩ = some (.int .i64 ps[n].id) := k1 0 (by omega)
      have p1 : wr.cell? ⟨b1, o1 + n * 5 + 1, none⟩ = some (.string ps[n].name) := k1 1 (by omega)
      have p2 : wr.cell? ⟨b1, o1 + n * 5 + 2, none⟩ = some (.int .i64 ps[n].born) := k1 2 (by omega)
      have p3 : wr.cell? ⟨b1, o1 + n * 5 + 3, none⟩ = some (.int .i64 ps[n].cls) := k1 3 (by omega)
      have p4 : wr.cell? ⟨b1, o1 + n * 5 + 4, none⟩ = some (.int .i64 ps[n].lvl) := k1 4 (by omega)
      have hcall := isId_any id B ps[n] wr (HC.out _ hb)
      by_cases hq : ps[n].id = id
      · have HE : Hid (n = K) := Lib.hid (by
          rcases Nat.lt_or_ge n K with h' | h'
          · exact absurd hq (HP.out n hlt h')
          · omega)
        rw [decide_eq_true hq] at hcall
        have HCALL := Lib.hid hcall
        generalize ps[n] = q at p0 p1 p2 p3 p4 HCALL
        clear hq k1 hb hcall
        go_wp2_with (go_at_call 60; refine HCALL.out.mono ?_; rintro e w2 ⟨rfl, hb2⟩)
        go_ret
        exact ⟨ret_int (by rw [HR1.out (by have := HE.out; omega), HE.out]), HB.out.trans (hb2.mono HB.out.size)⟩
      · have HE : Hid (n < K) := Lib.hid (by
          rcases Nat.lt_or_ge n K with h' | h'
          · exact h'
          · obtain rfl : n = K := by omega
            exact absurd (HX.out hlt) hq)
        rw [decide_eq_false hq] at hcall
        have HCALL := Lib.hid hcall
        generalize ps[n] = q at p0 p1 p2 p3 p4 HCALL
        clear hq k1 hb hcall
        go_wp2_with (go_at_call 60; refine HCALL.out.mono ?_; rintro e w2 ⟨rfl, hb2⟩)
        go_roundw
        case rel => exact ⟨n + 1, HE.out, by go_num, HB.out.trans (hb2.mono HB.out.size)⟩
        case measure => simp [intOf]; omega
    · have HE : Hid (¬ K < ps.length) := Lib.hid (by omega)
      clear hb
      go_wp2_with fail
      go_ret
      exact ⟨ret_int (HR2.out HE.out).symm, HB.out⟩
/-- What pupilIndex gives. -/
def IdxF (ps : List Pu) (id : Int) (r : Int) (t : Bool) : Prop := (okL ps ∧ ∃ k : Nat, fndAt ps id k ∧ r = k ∧ t = true) ∨ (okL ps ∧ fndNo ps id ∧ r = -1 ∧ t = false) ∨ (¬ okL ps ∧ r = 0 ∧ t = false)
set_option maxRecDepth 100000 in
set_option maxHeartbeats 800000 in
theorem pupilIndex_any (v : Value) (ps : List Pu) (id : Int) (w : World) (h : RowsR 5 puC w v ps) (hs : ∀ p ∈ ps, p.name.size ≤ maxLen) (r : Int) (t : Bool) (hi : IdxF ps id r t) :
    Calls Try.prog 39 #[v, .int .i64 id] w fun e w' => e = .returned (.tuple #[.int .i64 r, .bool t]) ∧ Below w.heap.size w w' := by
  have HR := Lib.hid h
  by_cases ho : okL ps
  · have hl := okL_len ho
    have hl' : ps.length ≤ 1048576 := by omega
    have HC := Lib.hid (fun w' (hb : Below w.heap.size w w') => iGood_yes v ps w' (h.below hb (Nat.le_refl _)) hs ho)
    have HT : Hid (t = decide (0 ≤ r)) := Lib.hid (by
      rcases hi with ⟨_, k, _, rfl, rfl⟩ | ⟨_, _, rfl, rfl⟩ | ⟨hn, _⟩
      · simp
      · rfl
      · exact absurd ho hn)
    have HF : Hid (∀ w' : World, Below w.heap.size w w' → w'.cell? ⟨w.heap.size, 0, none⟩ = some (.int .i64 id) → Calls Try.prog 59 #[v, .func (.func 60) #[] #[.pointer (some ⟨w.heap.size, 0, none⟩)]] w' fun e w'' => e = .returned (.int .i64 r) ∧ Below w'.heap.size w' w'') := Lib.hid (fun w' hb hcell => by
      rcases hi with ⟨_, k, hk, rfl, rfl⟩ | ⟨_, hno, rfl, rfl⟩ | ⟨hn, _⟩
      · exact indexFunc_scan v ps id w.heap.size w' (HR.out.below hb (Nat.le_refl _)) hl' hcell k (Nat.le_of_lt hk.1) hk.2.2 (fun _ => hk.2.1) k (fun _ => rfl) (fun h => absurd hk.1 h)
      · exact indexFunc_scan v ps id w.heap.size w' (HR.out.below hb (Nat.le_refl _)) hl' hcell ps.length (Nat.le_refl _) (fun j hj _ => hno j hj) (fun h => absurd h (Nat.lt_irrefl _)) (-1) (fun h => absurd h (Nat.lt_irrefl _)) (fun _ => rfl)
      · exact absurd ho hn)
    clear h hs hi ho
    go_enter Try.func39, Try.ntmps39
    go_wp2_with fail
    have hb0 : Below w.heap.size w (w.alloc (.cells #[.int .i64 id] 3)) := (Below.refl _ _).alloc (Nat.le_refl _) _
    refine (HC.out _ hb0).mono ?_
    rintro e w2 ⟨rfl, hb2⟩
    have HB2 : Hid (Below w.heap.size w w2) := Lib.hid (hb0.trans (hb2.mono (by simp)))
    have HCell : Hid (w2.cell? ⟨w.heap.size, 0, none⟩ = some (.int .i64 id)) := Lib.hid ((hb2.cell (p := ⟨w.heap.size, 0, none⟩) (by simp)).trans (cell1' (alloc_at rfl)))
    clear hb0 hb2
    go_wp2_with fail
    refine (HF.out _ HB2.out HCell.out).mono ?_
    rintro e w3 ⟨rfl, hb3⟩
    have HB3 : Hid (Below w.heap.size w w3) := Lib.hid (HB2.out.trans (hb3.mono HB2.out.size))
    clear hb3
    go_wp2_with fail
    go_ret2
    exact ⟨by rw [HT.out]; rfl, HB3.out⟩
  · have HC := Lib.hid (fun w' (hb : Below w.heap.size w w') => iGood_no v ps w' (h.below hb (Nat.le_refl _)) hs ho)
    have HT : Hid (r = 0 ∧ t = false) := Lib.hid (by
      rcases hi with ⟨h1, _⟩ | ⟨h1, _⟩ | ⟨_, h1, h2⟩
      · exact absurd h1 ho
      · exact absurd h1 ho
      · exact ⟨h1, h2⟩)
    clear h hs hi ho
    go_enter Try.func39, Try.ntmps39
    go_wp2_with fail
    have hb0 : Below w.heap.size w (w.alloc (.cells #[.int .i64 id] 3)) := (Below.refl _ _).alloc (Nat.le_refl _) _
    refine (HC.out _ hb0).mono ?_
    rintro e w2 ⟨rfl, hb2⟩
    have HB2 : Hid (Below w.heap.size w w2) := Lib.hid (hb0.trans (hb2.mono (by simp)))
    clear hb0 hb2
    go_wp2_with fail
    go_ret2
    exact ⟨by rw [HT.out.1, HT.out.2]; rfl, HB2.out⟩
theorem idxF_or (ps : List Pu) (id : Int) : ∃ r t, IdxF ps id r t := by
  by_cases ho : okL ps
  · rcases fnd_or ps id with ⟨k, hk⟩ | hn
    · exact ⟨k, true, .inl ⟨ho, k, hk, rfl, rfl⟩⟩
    · exact ⟨-1, false, .inr (.inl ⟨ho, hn, rfl, rfl⟩)⟩
  · exact ⟨0, false, .inr (.inr ⟨ho, rfl, rfl⟩)⟩
end Go.Proofs.Ytlhcediejccieaa
