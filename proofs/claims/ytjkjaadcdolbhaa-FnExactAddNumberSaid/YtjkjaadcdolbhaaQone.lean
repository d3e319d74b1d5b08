/- The program's tests of one move and of a list of them. -/
import Derived.Test.YtjkjaadcdolbhaaMone
namespace Go.Proofs.Ytjkjaadcdolbhaa
set_option linter.unusedVariables false
open Go.RowKit

set_option maxRecDepth 100000 in
set_option maxHeartbeats 1600000 in
theorem implIsMove_any (m : Mv) (w : World) (r : Bool) (hr : r = true ↔ okMv m) :
    Calls Try.prog 107 #[mvV m] w fun e w' => e = .returned (.bool r) ∧ Below w.heap.size w w' := by
  obtain ⟨rod, part, amt⟩ := m
  show Calls Try.prog 107 #[.agg #[.int .i64 rod, .int .i64 part, .int .i64 amt]] w fun e w' => e = .returned (.bool r) ∧ Below w.heap.size w w'
  have HR : Hid (r = true ↔ (0 ≤ rod ∧ rod ≤ 7) ∧ (0 ≤ part ∧ part ≤ 1) ∧ (-5 ≤ amt ∧ amt ≤ 5) ∧ amt ≠ 0) := Lib.hid hr
  clear hr
  have HB0 : Hid (Below w.heap.size w w) := Lib.hid (Below.refl _ _)
  by_cases h1 : 0 ≤ rod
  · by_cases h1' : rod ≤ 7
    · have h1x : ¬ 8 ≤ rod := by omega
      by_cases h2 : part = 0 ∨ part = 1
      · have HP := Lib.hid h2
        have h2x : ((part != 0) && (part != 1)) = false := by rcases h2 with rfl | rfl <;> rfl
        by_cases h4 : amt = 0
        · subst h4
          have HN : Hid (r = false) := Lib.hid (Bool.eq_false_iff.2 fun e => (HR.out.1 e).2.2.2 rfl)
          rcases h2 with rfl | rfl
          · clear h2x
            go_enter Try.func107, Try.ntmps107
            go_wp2_with fail
            go_ret
            exact ⟨ret_bool HN.out.symm, (Below.refl _ _).alloc (Nat.le_refl _) _⟩
          · clear h2x
            go_enter Try.func107, Try.ntmps107
            go_wp2_with fail
            go_ret
            exact ⟨ret_bool HN.out.symm, (Below.refl _ _).alloc (Nat.le_refl _) _⟩
        · have h4x : (amt != 0) = true := by simpa using h4
          have HN : Hid (r = decide (-5 ≤ amt ∧ amt ≤ 5)) := Lib.hid (by
            have h2' : 0 ≤ part ∧ part ≤ 1 := by omega
            by_cases h3 : -5 ≤ amt ∧ amt ≤ 5
            · rw [decide_eq_true h3]; exact HR.out.2 ⟨⟨h1, h1'⟩, h2', h3, h4⟩
            · rw [decide_eq_false h3]; exact Bool.eq_false_iff.2 fun e => h3 (HR.out.1 e).2.2.1)
          clear h4
          by_cases h3 : -5 ≤ amt
          · by_cases h3' : amt ≤ 5
            · have HN' : Hid (r = true) := Lib.hid (by rw [HN.out]; simp [h3, h3'])
              rcases h2 with rfl | rfl
              · clear h2x
                go_enter Try.func107, Try.ntmps107
                go_wp2_with fail
                go_ret
                exact ⟨ret_bool HN'.out.symm, (Below.refl _ _).alloc (Nat.le_refl _) _⟩
              · clear h2x
                go_enter Try.func107, Try.ntmps107
                go_wp2_with fail
                go_ret
                exact ⟨ret_bool HN'.out.symm, (Below.refl _ _).alloc (Nat.le_refl _) _⟩
            · have HN' : Hid (r = false) := Lib.hid (by rw [HN.out]; simp [h3'])
              rcases h2 with rfl | rfl
              · clear h2x
                go_enter Try.func107, Try.ntmps107
                go_wp2_with fail
                go_ret
                exact ⟨ret_bool HN'.out.symm, (Below.refl _ _).alloc (Nat.le_refl _) _⟩
              · clear h2x
                go_enter Try.func107, Try.ntmps107
                go_wp2_with fail
                go_ret
                exact ⟨ret_bool HN'.out.symm, (Below.refl _ _).alloc (Nat.le_refl _) _⟩
          · have HN' : Hid (r = false) := Lib.hid (by rw [HN.out]; simp [h3])
            rcases h2 with rfl | rfl
            · clear h2x
              go_enter Try.func107, Try.ntmps107
              go_wp2_with fail
              go_ret
              exact ⟨ret_bool HN'.out.symm, (Below.refl _ _).alloc (Nat.le_refl _) _⟩
            · clear h2x
              go_enter Try.func107, Try.ntmps107
              go_wp2_with fail
              go_ret
              exact ⟨ret_bool HN'.out.symm, (Below.refl _ _).alloc (Nat.le_refl _) _⟩
      · have HN : Hid (r = false) := Lib.hid (Bool.eq_false_iff.2 fun e => h2 (by have := (HR.out.1 e).2.1; omega))
        have h5 : (part != 0) = true := by have : ¬ part = 0 := fun e => h2 (.inl e); simpa using this
        have h6 : (part != 1) = true := by have : ¬ part = 1 := fun e => h2 (.inr e); simpa using this
        clear h2
        go_enter Try.func107, Try.ntmps107
        go_wp2_with fail
        go_ret
        exact ⟨ret_bool HN.out.symm, (Below.refl _ _).alloc (Nat.le_refl _) _⟩
    · have HN : Hid (r = false) := Lib.hid (Bool.eq_false_iff.2 fun e => h1' (HR.out.1 e).1.2)
      have h1x : 8 ≤ rod := by omega
      go_enter Try.func107, Try.ntmps107
      go_wp2_with fail
      go_ret
      exact ⟨ret_bool HN.out.symm, (Below.refl _ _).alloc (Nat.le_refl _) _⟩
  · have HN : Hid (r = false) := Lib.hid (Bool.eq_false_iff.2 fun e => h1 (HR.out.1 e).1.1)
    have h1x : rod < 0 := by omega
    go_enter Try.func107, Try.ntmps107
    go_wp2_with fail
    go_ret
    exact ⟨ret_bool HN.out.symm, (Below.refl _ _).alloc (Nat.le_refl _) _⟩

set_option maxRecDepth 100000 in
set_option maxHeartbeats 1600000 in
theorem areMoves_scan (v : Value) (ps : List Mv) (w : World) (h : RowsR 3 mvC w v ps) (hl : ps.length ≤ 60) (p : Nat) (hp : p ≤ ps.length) (hpre : ∀ i (h : i < ps.length), i < p → okMv ps[i]) (hx : ∀ h : p < ps.length, ¬ okMv ps[p]) (r : Bool) (hr1 : p < ps.length → r = false) (hr2 : p = ps.length → r = true) :
    Calls Try.prog 68 #[v] w fun e w' => e = .returned (.bool r) ∧ Below w.heap.size w w' := by
  obtain ⟨a, cp, rfl⟩ := h.form
  have R1 := Lib.hid h.at
  have HP := Lib.hid hpre
  have HX := Lib.hid hx
  have HR1 := Lib.hid hr1
  have HR2 := Lib.hid hr2
  clear h hpre hx hr1 hr2
  go_enter Try.func68, Try.ntmps68
  go_wp2_with fail
  go_loopw [10] (fun i wr => ∃ k : Nat, k ≤ p ∧ i = .int .i64 k ∧ Below w.heap.size w wr) (fun i _ => ps.length - (intOf i).toNat)
  case atStart => exact ⟨0, Nat.zero_le _, rfl, Below.refl _ _⟩
  case round =>
    obtain ⟨k, hk, rfl, hb⟩ := hrel
    have HB := Lib.hid hb
    by_cases hlt : k < ps.length
    · have z1 : (0 : Int) ≤ (k : Int) := by omega
      have z2 : (k : Int) < (ps.length : Int) := by omega
      obtain ⟨b1, o1, rfl, l1, k1⟩ := R1.out _ hb k hlt
      have p0 : wr.cell? ⟨b1, o1 + k * 3, none⟩ = some (.int .i64 ps[k].rod) := k1 0 (by omega)
      have p1 : wr.cell? ⟨b1, o1 + k * 3 + 1, none⟩ = some (.int .i64 ps[k].part) := k1 1 (by omega)
      have p2 : wr.cell? ⟨b1, o1 + k * 3 + 2, none⟩ = some (.int .i64 ps[k].amt) := k1 2 (by omega)
      have HB1 : Hid (Below w.heap.size w (wr.alloc (.cells #[.int .i64 ps[k].rod, .int .i64 ps[k].part, .int .i64 ps[k].amt] 75))) := Lib.hid (hb.alloc hb.size _)
      clear k1 hb
      by_cases hkp : k < p
      · have HG := Lib.hid (HP.out k hlt hkp)
        go_wp2_with fail
        refine (implIsMove_any ps[k] _ true ⟨fun _ => HG.out, fun _ => rfl⟩).mono ?_
        rintro e w2 ⟨rfl, hb2⟩
        have HB2 := Lib.hid (HB1.out.trans (hb2.mono HB1.out.size))
        clear hb2
        go_wp2_with fail
        go_roundw
        case rel => exact ⟨k + 1, by omega, by go_num, HB2.out⟩
        case measure => simp [intOf]; omega
      · have hke : k = p := by omega
        subst hke
        have HG := Lib.hid (HX.out hlt)
        go_wp2_with fail
        refine (implIsMove_any ps[k] _ false ⟨fun e => by simp at e, fun h => absurd h HG.out⟩).mono ?_
        rintro e w2 ⟨rfl, hb2⟩
        have HB2 := Lib.hid (HB1.out.trans (hb2.mono HB1.out.size))
        have HN := Lib.hid (HR1.out hlt)
        clear hb2
        go_wp2_with fail
        go_ret
        exact ⟨ret_bool HN.out.symm, HB2.out⟩
    · have HN := Lib.hid (HR2.out (by omega))
      clear hb
      go_wp2_with fail
      go_ret
      exact ⟨ret_bool HN.out.symm, HB.out⟩
set_option maxRecDepth 100000 in
set_option maxHeartbeats 400000 in
theorem areMoves_long (v : Value) (ps : List Mv) (w : World) (h : RowsR 3 mvC w v ps) (hl : ¬ ps.length ≤ 60) :
    Calls Try.prog 68 #[v] w fun e w' => e = .returned (.bool false) ∧ Below w.heap.size w w' := by
  obtain ⟨a, cp, rfl⟩ := h.form
  have hx : 60 < ps.length := by omega
  clear h hl
  go_enter Try.func68, Try.ntmps68
  go_wp2_with fail
  go_ret
  exact ⟨rfl, Below.refl _ _⟩
theorem areMoves_any (v : Value) (ps : List Mv) (w : World) (h : RowsR 3 mvC w v ps) (r : Bool) (hr : r = true ↔ okMs ps) :
    Calls Try.prog 68 #[v] w fun e w' => e = .returned (.bool r) ∧ Below w.heap.size w w' := by
  by_cases h60 : ps.length ≤ 60
  · obtain ⟨p, hp, hpre, hx⟩ := first_bad ps.length (fun i _ => okMv ps[i])
    exact areMoves_scan v ps w h h60 p hp hpre hx r (fun hlt => Bool.eq_false_iff.2 fun e => hx hlt ((hr.1 e).1 p hlt)) (fun he => hr.2 ⟨fun k hk => hpre k hk (by omega), h60⟩)
  · have : r = false := Bool.eq_false_iff.2 fun e => h60 (hr.1 e).2
    subst this
    exact areMoves_long v ps w h h60
end Go.Proofs.Ytjkjaadcdolbhaa
