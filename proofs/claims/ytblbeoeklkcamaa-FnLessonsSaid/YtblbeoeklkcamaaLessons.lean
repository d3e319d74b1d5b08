/- The law's helpers on Lesson and slices of it: compare, copy, measure. -/
import Derived.Test.YtblbeoeklkcamaaKa
import Derived.Deep.RegionHeld3
import Derived.Deep.QuietTactic
import Derived.BigQuiet
import Derived.StillTailTactics
namespace Go.Proofs.Ytblbeoeklkcamaa
set_option linter.unusedVariables false
open Go.RowKit

structure Les where
  id : Int
  cls : Int
  tch : Int
  room : Int
  day : Int
  bgn : Int
  mins : Int

def lesV (p : Les) : Value := .agg #[.int .i64 p.id, .int .i64 p.cls, .int .i64 p.tch, .int .i64 p.room, .int .i64 p.day, .int .i64 p.bgn, .int .i64 p.mins]
def lesC (p : Les) : List Value := [.int .i64 p.id, .int .i64 p.cls, .int .i64 p.tch, .int .i64 p.room, .int .i64 p.day, .int .i64 p.bgn, .int .i64 p.mins]
theorem lesC_len (p : Les) : (lesC p).length = 7 := rfl

set_option maxRecDepth 100000 in
set_option maxHeartbeats 1600000 in
theorem eqLesson_yes (p : Les) (w : World) :
    Calls Try.prog 75 #[lesV p, lesV p] w fun e w' => e = .returned (.bool true) ∧ Below w.heap.size w w' := by
  obtain ⟨id, cls, tch, room, day, bgn, mins⟩ := p
  show Calls Try.prog 75 #[.agg #[.int .i64 id, .int .i64 cls, .int .i64 tch, .int .i64 room, .int .i64 day, .int .i64 bgn, .int .i64 mins], .agg #[.int .i64 id, .int .i64 cls, .int .i64 tch, .int .i64 room, .int .i64 day, .int .i64 bgn, .int .i64 mins]] w fun e w' => e = .returned (.bool true) ∧ Below w.heap.size w w'
  go_enter Try.func75, Try.ntmps75
  go_wp2_with fail
  go_ret
  exact ⟨rfl, ((Below.refl _ _).alloc (Nat.le_refl _) _).alloc (by simp) _⟩

set_option maxRecDepth 100000 in
set_option maxHeartbeats 1600000 in
theorem toLesson_any (p : Les) (w : World) :
    Calls Try.prog 32 #[lesV p] w fun e w' => e = .returned (lesV p) ∧ Below w.heap.size w w' := by
  obtain ⟨id, cls, tch, room, day, bgn, mins⟩ := p
  show Calls Try.prog 32 #[.agg #[.int .i64 id, .int .i64 cls, .int .i64 tch, .int .i64 room, .int .i64 day, .int .i64 bgn, .int .i64 mins]] w fun e w' => e = .returned (.agg #[.int .i64 id, .int .i64 cls, .int .i64 tch, .int .i64 room, .int .i64 day, .int .i64 bgn, .int .i64 mins]) ∧ Below w.heap.size w w'
  go_enter Try.func32, Try.ntmps32
  go_wp2_with fail
  exact bodyPost_ret (v := .agg #[.int .i64 id, .int .i64 cls, .int .i64 tch, .int .i64 room, .int .i64 day, .int .i64 bgn, .int .i64 mins]) (by simp [results, Try.results32, go_sem]) rfl ⟨rfl, (((Below.refl _ _).alloc (Nat.le_refl _) _).alloc (by simp) _).alloc (by simp; omega) _⟩

set_option maxRecDepth 100000 in
set_option maxHeartbeats 1600000 in
theorem eqLessonS_yes (v1 v2 : Value) (ps : List Les) (w : World) (h1 : RowsR 7 lesC w v1 ps) (h2 : RowsR 7 lesC w v2 ps) :
    Calls Try.prog 37 #[v1, v2] w fun e w' => e = .returned (.bool true) ∧ Below w.heap.size w w' := by
  have hm : ps.length ≤ 9223372036854775807 := by obtain ⟨_, _, _, ⟨m, _⟩, _⟩ := h1; exact m
  obtain ⟨a1, c1, rfl⟩ := h1.form
  obtain ⟨a2, c2, rfl⟩ := h2.form
  have R1 := Lib.hid h1.at
  have R2 := Lib.hid h2.at
  clear h1 h2
  go_enter Try.func37, Try.ntmps37
  go_wp2_with fail
  go_loopw [5] (fun i wr => ∃ k : Nat, k ≤ ps.length ∧ i = .int .i64 k ∧ Below w.heap.size w wr) (fun i _ => ps.length - (intOf i).toNat)
  case atStart => exact ⟨0, Nat.zero_le _, rfl, Below.refl _ _⟩
  case round =>
    obtain ⟨k, hk, rfl, hb⟩ := hrel
    by_cases hlt : k < ps.length
    · obtain ⟨b1, o1, rfl, l1, k1⟩ := R1.out _ hb k hlt
      obtain ⟨b2, o2, rfl, l2, k2⟩ := R2.out _ hb k hlt
      have p0 : wr.cell? ⟨b1, o1 + k * 7, none⟩ = some (.int .i64 ps[k].id) := k1 0 (by omega)
      have q0 : wr.cell? ⟨b2, o2 + k * 7, none⟩ = some (.int .i64 ps[k].id) := k2 0 (by omega)
      have p1 : wr.cell? ⟨b1, o1 + k * 7 + 1, none⟩ = some (.int .i64 ps[k].cls) := k1 1 (by omega)
      have q1 : wr.cell? ⟨b2, o2 + k * 7 + 1, none⟩ = some (.int .i64 ps[k].cls) := k2 1 (by omega)
      have p2 : wr.cell? ⟨b1, o1 + k * 7 + 2, none⟩ = some (.int .i64 ps[k].tch) := k1 2 (by omega)
      have q2 : wr.cell? ⟨b2, o2 + k * 7 + 2, none⟩ = some (.int .i64 ps[k].tch) := k2 2 (by omega)
      have p3 : wr.cell? ⟨b1, o1 + k * 7 + 3, none⟩ = some (.int .i64 ps[k].room) := k1 3 (by omega)
      have q3 : wr.cell? ⟨b2, o2 + k * 7 + 3, none⟩ = some (.int .i64 ps[k].room) := k2 3 (by omega)
      have p4 : wr.cell? ⟨b1, o1 + k * 7 + 4, none⟩ = some (.int .i64 ps[k].day) := k1 4 (by omega)
      have q4 : wr.cell? ⟨b2, o2 + k * 7 + 4, none⟩ = some (.int .i64 ps[k].day) := k2 4 (by omega)
      have p5 : wr.cell? ⟨b1, o1 + k * 7 + 5, none⟩ = some (.int .i64 ps[k].bgn) := k1 5 (by omega)
      have q5 : wr.cell? ⟨b2, o2 + k * 7 + 5, none⟩ = some (.int .i64 ps[k].bgn) := k2 5 (by omega)
      have p6 : wr.cell? ⟨b1, o1 + k * 7 + 6, none⟩ = some (.int .i64 ps[k].mins) := k1 6 (by omega)
      have q6 : wr.cell? ⟨b2, o2 + k * 7 + 6, none⟩ = some (.int .i64 ps[k].mins) := k2 6 (by omega)
      have z1 : (0 : Int) ≤ (k : Int) := by omega
      have z2 : (k : Int) < (ps.length : Int) := by omega
      clear k1 k2
      go_wp2_with fail
      go_still_tail 8, (by kernel_rfl)
      change wpList _ _ _ _ _ wr.drew
      have hb2 := hb.drew
      generalize wr.drew = w2 at hb2 ⊢
      clear p0 q0 p1 q1 p2 q2 p3 q3 p4 q4 p5 q5 p6 q6 hb
      go_wp2_with fail
      refine (eqLesson_yes ps[k] _).mono ?_
      rintro e w3 ⟨rfl, hb3⟩
      go_wp2_with fail
      go_roundw
      case rel => exact ⟨k + 1, by omega, by go_num, hb2.trans (hb3.mono hb2.size)⟩
      case measure => simp [intOf]; omega
    · go_wp2_with fail
      go_ret
      exact ⟨rfl, hb⟩

theorem Try.infoLesson : (Try.prog.info? 50).map (fun i => (i.zero, i.size, i.bytes)) = some (some (.agg #[.int .i64 0, .int .i64 0, .int .i64 0, .int .i64 0, .int .i64 0, .int .i64 0, .int .i64 0]), 7, 56) := by kernel_rfl

set_option maxRecDepth 100000 in
set_option maxHeartbeats 1600000 in
theorem toLessonS_any (v : Value) (ps : List Les) (w : World) (h : RowsR 7 lesC w v ps) (hn : ps.length ≤ 1048576) :
    Calls Try.prog 36 #[v] w fun e w' => (∃ v', e = .returned v' ∧ w'.ownsRow w.heap.size 50 7 v' ps.length (flatC lesC ps)) ∧ Below w.heap.size w w' := by
  obtain ⟨i0, hi, hz0, hz1, hz2⟩ := info_parts Try.infoLesson
  obtain ⟨a, cp, rfl⟩ := h.form
  have R1 := Lib.hid h.at
  clear h
  go_enter Try.func36, Try.ntmps36
  go_wp2_with (at_make; refine wpList_make_full _ rfl _ _ 24 rfl w.heap.size 50 i0 (.agg #[.int .i64 0, .int .i64 0, .int .i64 0, .int .i64 0, .int .i64 0, .int .i64 0, .int .i64 0]) 7 Try.underlying24 hi hz0 hz1 _ _ _ _ ps.length rfl rfl rfl rfl ?b2 ?b3 (Nat.le_refl _) ?_)
  case b2 => rw [hz2]; omega
  case b3 => unfold maxLen; omega
  intro w0 hown0 hgrow0
  have HO0 := Lib.hid hown0
  have HG0 := Lib.hid hgrow0
  clear hown0 hgrow0
  go_wp2
  go_loopw [4] (fun i wr => ∃ (k : Nat) (xs : List Value), k ≤ ps.length ∧ i = .int .i64 k ∧ xs.length = ps.length * 7 ∧ (∀ (i : Nat) (h : i < ps.length), i < k → ∀ j, j < 7 → xs[i * 7 + j]? = (lesC ps[i])[j]?) ∧ wr.ownsRow w.heap.size 50 7 (.slice (some ⟨w.heap.size, 0, none⟩) ps.length ps.length) ps.length xs ∧ Below w.heap.size w wr) (fun i _ => ps.length - (intOf i).toNat)
  case atStart => exact ⟨0, _, Nat.zero_le _, rfl, by have := HO0.out.1; omega, fun i _ h => by omega, HO0.out, (Below.refl _ _).grown HG0.out (Nat.le_refl _) (fun k h => by cases h)⟩
  case round =>
    obtain ⟨k, xs, hk, rfl, hxl, hpre, hown, hb⟩ := hrel
    have HO := Lib.hid hown
    have HP := Lib.hid hpre
    have HX := Lib.hid hxl
    by_cases hlt : k < ps.length
    · obtain ⟨b1, o1, rfl, l1, k1⟩ := R1.out _ hb k hlt
      have p0 : wr.cell? ⟨b1, o1 + k * 7, none⟩ = some (.int .i64 ps[k].id) := k1 0 (by omega)
      have p1 : wr.cell? ⟨b1, o1 + k * 7 + 1, none⟩ = some (.int .i64 ps[k].cls) := k1 1 (by omega)
      have p2 : wr.cell? ⟨b1, o1 + k * 7 + 2, none⟩ = some (.int .i64 ps[k].tch) := k1 2 (by omega)
      have p3 : wr.cell? ⟨b1, o1 + k * 7 + 3, none⟩ = some (.int .i64 ps[k].room) := k1 3 (by omega)
      have p4 : wr.cell? ⟨b1, o1 + k * 7 + 4, none⟩ = some (.int .i64 ps[k].day) := k1 4 (by omega)
      have p5 : wr.cell? ⟨b1, o1 + k * 7 + 5, none⟩ = some (.int .i64 ps[k].bgn) := k1 5 (by omega)
      have p6 : wr.cell? ⟨b1, o1 + k * 7 + 6, none⟩ = some (.int .i64 ps[k].mins) := k1 6 (by omega)
      have z1 : (0 : Int) ≤ (k : Int) := by omega
      have z2 : (k : Int) < (ps.length : Int) := by omega
      clear k1 hown hpre hxl
      go_wp2_with fail
      refine (toLesson_any ps[k] _).mono ?_
      rintro e w2 ⟨rfl, hb2⟩
      have HO2 := Lib.hid (own_below HO.out hb2)
      have HB2 : Hid (Below w.heap.size w w2) := Lib.hid (hb.trans (hb2.mono hb.size))
      obtain ⟨u0, d0⟩ : ∃ u, w2.cell? ⟨w.heap.size, k * 7, none⟩ = some u := ⟨_, (HO2.out.cellAt (k * 7 + 0) (by omega)).trans (List.getElem?_eq_getElem (by have := HX.out; omega))⟩
      have f0 : w2.frozen? ⟨w.heap.size, k * 7, none⟩ = false := HO2.out.frozenAt _
      obtain ⟨u1, d1⟩ : ∃ u, w2.cell? ⟨w.heap.size, k * 7 + 1, none⟩ = some u := ⟨_, (HO2.out.cellAt (k * 7 + 1) (by omega)).trans (List.getElem?_eq_getElem (by have := HX.out; omega))⟩
      have f1 : w2.frozen? ⟨w.heap.size, k * 7 + 1, none⟩ = false := HO2.out.frozenAt _
      obtain ⟨u2, d2⟩ : ∃ u, w2.cell? ⟨w.heap.size, k * 7 + 2, none⟩ = some u := ⟨_, (HO2.out.cellAt (k * 7 + 2) (by omega)).trans (List.getElem?_eq_getElem (by have := HX.out; omega))⟩
      have f2 : w2.frozen? ⟨w.heap.size, k * 7 + 2, none⟩ = false := HO2.out.frozenAt _
      obtain ⟨u3, d3⟩ : ∃ u, w2.cell? ⟨w.heap.size, k * 7 + 3, none⟩ = some u := ⟨_, (HO2.out.cellAt (k * 7 + 3) (by omega)).trans (List.getElem?_eq_getElem (by have := HX.out; omega))⟩
      have f3 : w2.frozen? ⟨w.heap.size, k * 7 + 3, none⟩ = false := HO2.out.frozenAt _
      obtain ⟨u4, d4⟩ : ∃ u, w2.cell? ⟨w.heap.size, k * 7 + 4, none⟩ = some u := ⟨_, (HO2.out.cellAt (k * 7 + 4) (by omega)).trans (List.getElem?_eq_getElem (by have := HX.out; omega))⟩
      have f4 : w2.frozen? ⟨w.heap.size, k * 7 + 4, none⟩ = false := HO2.out.frozenAt _
      obtain ⟨u5, d5⟩ : ∃ u, w2.cell? ⟨w.heap.size, k * 7 + 5, none⟩ = some u := ⟨_, (HO2.out.cellAt (k * 7 + 5) (by omega)).trans (List.getElem?_eq_getElem (by have := HX.out; omega))⟩
      have f5 : w2.frozen? ⟨w.heap.size, k * 7 + 5, none⟩ = false := HO2.out.frozenAt _
      obtain ⟨u6, d6⟩ : ∃ u, w2.cell? ⟨w.heap.size, k * 7 + 6, none⟩ = some u := ⟨_, (HO2.out.cellAt (k * 7 + 6) (by omega)).trans (List.getElem?_eq_getElem (by have := HX.out; omega))⟩
      have f6 : w2.frozen? ⟨w.heap.size, k * 7 + 6, none⟩ = false := HO2.out.frozenAt _
      clear hb2 p0 p1 p2 p3 p4 p5 p6 hb
      unfold lesV
      go_wp2_with fail
      go_roundw
      case rel =>
        refine ⟨k + 1, ((((((xs.set (k * 7) (.int .i64 ps[k].id)).set (k * 7 + 1) (.int .i64 ps[k].cls)).set (k * 7 + 2) (.int .i64 ps[k].tch)).set (k * 7 + 3) (.int .i64 ps[k].room)).set (k * 7 + 4) (.int .i64 ps[k].day)).set (k * 7 + 5) (.int .i64 ps[k].bgn)).set (k * 7 + 6) (.int .i64 ps[k].mins), by omega, by go_num, by simp only [List.length_set]; exact HX.out, fun i h hi j hj => ?_, (((((((HO2.out.stored (k * 7) _).1.stored (k * 7 + 1) _).1.stored (k * 7 + 2) _).1.stored (k * 7 + 3) _).1.stored (k * 7 + 4) _).1.stored (k * 7 + 5) _).1.stored (k * 7 + 6) _).1, ((((((HB2.out.setCell (Nat.le_refl _) _).setCell (Nat.le_refl _) _).setCell (Nat.le_refl _) _).setCell (Nat.le_refl _) _).setCell (Nat.le_refl _) _).setCell (Nat.le_refl _) _).setCell (Nat.le_refl _) _⟩
        have hx := HX.out
        by_cases e : i = k
        · subst e
          have hj' : j = 0 ∨ j = 1 ∨ j = 2 ∨ j = 3 ∨ j = 4 ∨ j = 5 ∨ j = 6 := by omega
          rcases hj' with rfl | rfl | rfl | rfl | rfl | rfl | rfl
          · simp only [Nat.add_zero]
            rw [List.getElem?_set_ne (by omega), List.getElem?_set_ne (by omega), List.getElem?_set_ne (by omega), List.getElem?_set_ne (by omega), List.getElem?_set_ne (by omega), List.getElem?_set_ne (by omega), List.getElem?_set_self (by (try simp only [List.length_set]); omega)]; rfl
          · rw [List.getElem?_set_ne (by omega), List.getElem?_set_ne (by omega), List.getElem?_set_ne (by omega), List.getElem?_set_ne (by omega), List.getElem?_set_ne (by omega), List.getElem?_set_self (by (try simp only [List.length_set]); omega)]; rfl
          · rw [List.getElem?_set_ne (by omega), List.getElem?_set_ne (by omega), List.getElem?_set_ne (by omega), List.getElem?_set_ne (by omega), List.getElem?_set_self (by (try simp only [List.length_set]); omega)]; rfl
          · rw [List.getElem?_set_ne (by omega), List.getElem?_set_ne (by omega), List.getElem?_set_ne (by omega), List.getElem?_set_self (by (try simp only [List.length_set]); omega)]; rfl
          · rw [List.getElem?_set_ne (by omega), List.getElem?_set_ne (by omega), List.getElem?_set_self (by (try simp only [List.length_set]); omega)]; rfl
          · rw [List.getElem?_set_ne (by omega), List.getElem?_set_self (by (try simp only [List.length_set]); omega)]; rfl
          · rw [List.getElem?_set_self (by (try simp only [List.length_set]); omega)]; rfl
        · rw [List.getElem?_set_ne (by omega), List.getElem?_set_ne (by omega), List.getElem?_set_ne (by omega), List.getElem?_set_ne (by omega), List.getElem?_set_ne (by omega), List.getElem?_set_ne (by omega), List.getElem?_set_ne (by omega)]
          exact HP.out i h (by omega) j hj
      case measure => simp [intOf]; omega
    · have HXS := Lib.hid (flatC_of lesC_len (by omega) xs ps hxl (fun i h j hj => hpre i h (by omega) j hj))
      clear hown hpre hxl
      go_wp2_with fail
      go_ret
      exact ⟨⟨_, rfl, HXS.out ▸ HO.out⟩, hb⟩

set_option maxRecDepth 100000 in
set_option maxHeartbeats 1600000 in
theorem szLessonS_any (v : Value) (ps : List Les) (left : Int) (w : World) (h : RowsR 7 lesC w v ps) (h0 : 0 ≤ left) (h1 : left ≤ 1048576) :
    Calls Try.prog 34 #[v, .int .i64 left] w fun e w' => (∃ r : Int, e = .returned (.int .i64 r) ∧ r ≤ 1048576 ∧ (0 ≤ r → r + ps.length = left)) ∧ Below w.heap.size w w' := by
  have hm : ps.length ≤ 9223372036854775807 := by obtain ⟨_, _, _, ⟨m, _⟩, _⟩ := h; exact m
  obtain ⟨a, cp, rfl⟩ := h.form
  clear h
  by_cases hlt : left < ps.length
  · go_enter Try.func34, Try.ntmps34
    go_wp2_with fail
    go_ret
    exact ⟨⟨_, rfl, by omega, fun h => by omega⟩, Below.refl _ _⟩
  · go_enter Try.func34, Try.ntmps34
    go_wp2_with fail
    go_ret
    exact ⟨⟨_, rfl, by omega, fun h => by omega⟩, Below.refl _ _⟩

def mkLes (k : Int) : Les := { id := k, cls := k + 1, tch := k + 1 + 1, room := k + 1 + 1 + 1, day := k + 1 + 1 + 1 + 1, bgn := k + 1 + 1 + 1 + 1 + 1, mins := k + 1 + 1 + 1 + 1 + 1 + 1 }
def mksLes (k : Int) (n : Nat) : List Les := (List.range n).map fun (i : Nat) => mkLes (k + 7 * (i : Int))
theorem mksLes_len (k : Int) (n : Nat) : (mksLes k n).length = n := by simp [mksLes]
theorem mksLes_at (k : Int) (n i : Nat) (h : i < (mksLes k n).length) : (mksLes k n)[i] = mkLes (k + 7 * (i : Int)) := by simp [mksLes]

set_option maxRecDepth 100000 in
set_option maxHeartbeats 3200000 in
theorem markLessonS_any (v : Value) (n : Nat) (k : Int) (lo hi : Nat) (e : TypeId) (xs : List Value) (w : World) (h : Ow lo hi w e 7 v n xs) (hn : n ≤ 1048576) (hk : 1 ≤ k ∧ k ≤ 4194304) (hlo : lo ≤ w.heap.size) :
    Calls Try.prog 39 #[v, .int .i64 k] w fun en w' => en = .returned (.int .i64 (k + 7 * n)) ∧ Ow lo hi w' e 7 v n (flatC lesC (mksLes k n)) ∧ Btw lo hi w w' := by
  obtain ⟨hk0, hk1⟩ := hk
  have h' := h
  rcases h.1.2 with ⟨rfl, h0⟩ | ⟨g, cap, cur, rfl, hb, hg, hnc, hc, hsz, ht⟩
  · subst h0
    go_enter Try.func39, Try.ntmps39
    go_wp2_with fail
    go_loopw [5, 1] (fun i kk wr => i = .int .i64 0 ∧ kk = .int .i64 k ∧ wr = w) (fun i _ _ => 0)
    case atStart => exact ⟨rfl, rfl, rfl⟩
    case round =>
      obtain ⟨rfl, rfl, rfl⟩ := hrel
      go_wp2_with fail
      go_ret
      have e0 : xs = [] := List.length_eq_zero_iff.1 (by simpa using h'.1.1)
      subst e0
      exact ⟨by simp, h', Btw.refl _ _ _⟩
  · have HO := Lib.hid h'
    have HX := Lib.hid h'.1.1
    have HG : Hid (lo ≤ g ∧ g < hi) := Lib.hid ⟨hb, h'.2 g rfl⟩
    clear h h' hb hg hnc hc hsz ht
    go_enter Try.func39, Try.ntmps39
    go_wp2_with fail
    go_loopw [5, 1] (fun i kk wr => ∃ (m : Nat) (ys : List Value), m ≤ n ∧ i = .int .i64 m ∧ kk = .int .i64 (k + 7 * (m : Int)) ∧ ys.length = n * 7 ∧ (∀ (i : Nat), i < m → ∀ j, j < 7 → ys[i * 7 + j]? = (lesC (mkLes (k + 7 * (i : Int))))[j]?) ∧ Ow lo hi wr e 7 (.slice (some ⟨g, 0, none⟩) n cap) n ys ∧ Btw lo hi w wr) (fun i _ _ => n - (intOf i).toNat)
    case atStart => exact ⟨0, xs, Nat.zero_le _, rfl, by simp, HX.out, fun i hi => absurd hi (by omega), HO.out, Btw.refl _ _ _⟩
    case round =>
      obtain ⟨m, ys, hm, rfl, rfl, hyl, hpre, how, hbt⟩ := hrel
      have HW0 := Lib.hid how
      have HB0 := Lib.hid hbt
      have HP := Lib.hid hpre
      have HL := Lib.hid hyl
      by_cases hlt : m < n
      · have z1 : (0 : Int) ≤ (m : Int) := by omega
        have z2 : (m : Int) < (n : Int) := by omega
        clear how hbt hpre hyl
        have hq0 : ys.length = n * 7 := HL.out
        obtain ⟨u0, d0⟩ : ∃ u, (wr).cell? ⟨g, m * 7, none⟩ = some u := ⟨_, (HW0.out.1.cellAt (m * 7 + 0) (by omega)).trans (List.getElem?_eq_getElem (by (try simp only [List.length_set]); omega))⟩
        have f0 : (wr).frozen? ⟨g, m * 7, none⟩ = false := HW0.out.1.frozenAt _
        obtain ⟨u1, d1⟩ : ∃ u, (wr).cell? ⟨g, m * 7 + 1, none⟩ = some u := ⟨_, (HW0.out.1.cellAt (m * 7 + 1) (by omega)).trans (List.getElem?_eq_getElem (by (try simp only [List.length_set]); omega))⟩
        have f1 : (wr).frozen? ⟨g, m * 7 + 1, none⟩ = false := HW0.out.1.frozenAt _
        obtain ⟨u2, d2⟩ : ∃ u, (wr).cell? ⟨g, m * 7 + 2, none⟩ = some u := ⟨_, (HW0.out.1.cellAt (m * 7 + 2) (by omega)).trans (List.getElem?_eq_getElem (by (try simp only [List.length_set]); omega))⟩
        have f2 : (wr).frozen? ⟨g, m * 7 + 2, none⟩ = false := HW0.out.1.frozenAt _
        obtain ⟨u3, d3⟩ : ∃ u, (wr).cell? ⟨g, m * 7 + 3, none⟩ = some u := ⟨_, (HW0.out.1.cellAt (m * 7 + 3) (by omega)).trans (List.getElem?_eq_getElem (by (try simp only [List.length_set]); omega))⟩
        have f3 : (wr).frozen? ⟨g, m * 7 + 3, none⟩ = false := HW0.out.1.frozenAt _
        obtain ⟨u4, d4⟩ : ∃ u, (wr).cell? ⟨g, m * 7 + 4, none⟩ = some u := ⟨_, (HW0.out.1.cellAt (m * 7 + 4) (by omega)).trans (List.getElem?_eq_getElem (by (try simp only [List.length_set]); omega))⟩
        have f4 : (wr).frozen? ⟨g, m * 7 + 4, none⟩ = false := HW0.out.1.frozenAt _
        obtain ⟨u5, d5⟩ : ∃ u, (wr).cell? ⟨g, m * 7 + 5, none⟩ = some u := ⟨_, (HW0.out.1.cellAt (m * 7 + 5) (by omega)).trans (List.getElem?_eq_getElem (by (try simp only [List.length_set]); omega))⟩
        have f5 : (wr).frozen? ⟨g, m * 7 + 5, none⟩ = false := HW0.out.1.frozenAt _
        obtain ⟨u6, d6⟩ : ∃ u, (wr).cell? ⟨g, m * 7 + 6, none⟩ = some u := ⟨_, (HW0.out.1.cellAt (m * 7 + 6) (by omega)).trans (List.getElem?_eq_getElem (by (try simp only [List.length_set]); omega))⟩
        have f6 : (wr).frozen? ⟨g, m * 7 + 6, none⟩ = false := HW0.out.1.frozenAt _
        go_wp2_with fail
        have HWs0 := Lib.hid (((((((HW0.out.stored (m * 7) (.int .i64 (k + 7 * (m : Int)))).stored (m * 7 + 1) (.int .i64 (k + 7 * (m : Int) + 1))).stored (m * 7 + 2) (.int .i64 (k + 7 * (m : Int) + 1 + 1))).stored (m * 7 + 3) (.int .i64 (k + 7 * (m : Int) + 1 + 1 + 1))).stored (m * 7 + 4) (.int .i64 (k + 7 * (m : Int) + 1 + 1 + 1 + 1))).stored (m * 7 + 5) (.int .i64 (k + 7 * (m : Int) + 1 + 1 + 1 + 1 + 1))).stored (m * 7 + 6) (.int .i64 (k + 7 * (m : Int) + 1 + 1 + 1 + 1 + 1 + 1)))
        have HBs0 := Lib.hid (((((((HB0.out.setCell (p := ⟨g, m * 7, none⟩) HG.out.1 HG.out.2 (.int .i64 (k + 7 * (m : Int)))).setCell (p := ⟨g, m * 7 + 1, none⟩) HG.out.1 HG.out.2 (.int .i64 (k + 7 * (m : Int) + 1))).setCell (p := ⟨g, m * 7 + 2, none⟩) HG.out.1 HG.out.2 (.int .i64 (k + 7 * (m : Int) + 1 + 1))).setCell (p := ⟨g, m * 7 + 3, none⟩) HG.out.1 HG.out.2 (.int .i64 (k + 7 * (m : Int) + 1 + 1 + 1))).setCell (p := ⟨g, m * 7 + 4, none⟩) HG.out.1 HG.out.2 (.int .i64 (k + 7 * (m : Int) + 1 + 1 + 1 + 1))).setCell (p := ⟨g, m * 7 + 5, none⟩) HG.out.1 HG.out.2 (.int .i64 (k + 7 * (m : Int) + 1 + 1 + 1 + 1 + 1))).setCell (p := ⟨g, m * 7 + 6, none⟩) HG.out.1 HG.out.2 (.int .i64 (k + 7 * (m : Int) + 1 + 1 + 1 + 1 + 1 + 1)))
        go_roundw
        case rel =>
          refine ⟨m + 1, (((((((ys.set (m * 7) (.int .i64 (k + 7 * (m : Int)))).set (m * 7 + 1) (.int .i64 (k + 7 * (m : Int) + 1))).set (m * 7 + 2) (.int .i64 (k + 7 * (m : Int) + 1 + 1))).set (m * 7 + 3) (.int .i64 (k + 7 * (m : Int) + 1 + 1 + 1))).set (m * 7 + 4) (.int .i64 (k + 7 * (m : Int) + 1 + 1 + 1 + 1))).set (m * 7 + 5) (.int .i64 (k + 7 * (m : Int) + 1 + 1 + 1 + 1 + 1))).set (m * 7 + 6) (.int .i64 (k + 7 * (m : Int) + 1 + 1 + 1 + 1 + 1 + 1))), by omega, by go_num, by congr 1; omega, by simp only [List.length_set]; exact HL.out, fun i hi j hj => ?_, HWs0.out, HBs0.out⟩
          have hl := HL.out
          by_cases e : i = m
          · subst e
            have hj' : j = 0 ∨ j = 1 ∨ j = 2 ∨ j = 3 ∨ j = 4 ∨ j = 5 ∨ j = 6 := by omega
            rcases hj' with rfl | rfl | rfl | rfl | rfl | rfl | rfl
            · simp only [Nat.add_zero]
              rw [List.getElem?_set_ne (by omega), List.getElem?_set_ne (by omega), List.getElem?_set_ne (by omega), List.getElem?_set_ne (by omega), List.getElem?_set_ne (by omega), List.getElem?_set_ne (by omega), List.getElem?_set_self (by (try simp only [List.length_set]); omega)]; rfl
            · rw [List.getElem?_set_ne (by omega), List.getElem?_set_ne (by omega), List.getElem?_set_ne (by omega), List.getElem?_set_ne (by omega), List.getElem?_set_ne (by omega), List.getElem?_set_self (by (try simp only [List.length_set]); omega)]; rfl
            · rw [List.getElem?_set_ne (by omega), List.getElem?_set_ne (by omega), List.getElem?_set_ne (by omega), List.getElem?_set_ne (by omega), List.getElem?_set_self (by (try simp only [List.length_set]); omega)]; rfl
            · rw [List.getElem?_set_ne (by omega), List.getElem?_set_ne (by omega), List.getElem?_set_ne (by omega), List.getElem?_set_self (by (try simp only [List.length_set]); omega)]; rfl
            · rw [List.getElem?_set_ne (by omega), List.getElem?_set_ne (by omega), List.getElem?_set_self (by (try simp only [List.length_set]); omega)]; rfl
            · rw [List.getElem?_set_ne (by omega), List.getElem?_set_self (by (try simp only [List.length_set]); omega)]; rfl
            · rw [List.getElem?_set_self (by (try simp only [List.length_set]); omega)]; rfl
          · rw [List.getElem?_set_ne (by omega), List.getElem?_set_ne (by omega), List.getElem?_set_ne (by omega), List.getElem?_set_ne (by omega), List.getElem?_set_ne (by omega), List.getElem?_set_ne (by omega), List.getElem?_set_ne (by omega)]
            exact HP.out i (by omega) j hj
        case measure => simp [intOf]; omega
      · have hmn : m = n := by omega
        subst hmn
        have hz := flatC_of lesC_len (by omega) ys (mksLes k m) (by rw [mksLes_len]; exact hyl) (fun i hi j hj => by rw [mksLes_at]; exact hpre i (by rw [mksLes_len] at hi; exact hi) j hj)
        clear how hbt hpre hyl
        go_wp2_with fail
        go_ret
        exact ⟨rfl, hz ▸ HW0.out, HB0.out⟩

set_option maxRecDepth 100000 in
set_option maxHeartbeats 3200000 in
theorem heldLessonS_any (v : Value) (n : Nat) (k : Int) (w : World) (h : RowsR 7 lesC w v (mksLes k n)) (hn : n ≤ 1048576) (hk : 1 ≤ k ∧ k ≤ 4194304) :
    Calls Try.prog 46 #[v, .int .i64 k] w fun en w' => en = .returned (.int .i64 (k + 7 * n)) ∧ Below w.heap.size w w' := by
  obtain ⟨hk0, hk1⟩ := hk
  obtain ⟨a, cp, rfl⟩ := h.form
  have R1 : Hid (∀ w' : World, Below w.heap.size w w' → ∀ i, i < n → ∃ b off, a = some ⟨b, off, none⟩ ∧ b < w.heap.size ∧ ∀ j, j < 7 → w'.cell? ⟨b, off + i * 7 + j, none⟩ = (lesC (mkLes (k + 7 * (i : Int))))[j]?) := Lib.hid (fun w' hb i hi => by
    obtain ⟨b, o, e1, e2, e3⟩ := h.at w' hb i (by rw [mksLes_len]; exact hi)
    exact ⟨b, o, e1, e2, fun j hj => by rw [e3 j hj, mksLes_at]⟩)
  clear h
  rw [mksLes_len]
  go_enter Try.func46, Try.ntmps46
  go_wp2_with fail
  go_loopw [5, 1] (fun i kk wr => ∃ (m : Nat), m ≤ n ∧ i = .int .i64 m ∧ kk = .int .i64 (k + 7 * (m : Int)) ∧ Below w.heap.size w wr) (fun i _ _ => n - (intOf i).toNat)
  case atStart => exact ⟨0, Nat.zero_le _, rfl, by simp, Below.refl _ _⟩
  case round =>
    obtain ⟨m, hm, rfl, rfl, hb⟩ := hrel
    by_cases hlt : m < n
    · obtain ⟨b1, o1, rfl, l1, k1⟩ := R1.out _ hb m hlt
      have z1 : (0 : Int) ≤ (m : Int) := by omega
      have z2 : (m : Int) < (n : Int) := by omega
      have HB0 := Lib.hid hb
      have p0 : wr.cell? ⟨b1, o1 + m * 7, none⟩ = some (.int .i64 (k + 7 * (m : Int))) := k1 0 (by omega)
      have p1 : wr.cell? ⟨b1, o1 + m * 7 + 1, none⟩ = some (.int .i64 (k + 7 * (m : Int) + 1)) := k1 1 (by omega)
      have p2 : wr.cell? ⟨b1, o1 + m * 7 + 2, none⟩ = some (.int .i64 (k + 7 * (m : Int) + 1 + 1)) := k1 2 (by omega)
      have p3 : wr.cell? ⟨b1, o1 + m * 7 + 3, none⟩ = some (.int .i64 (k + 7 * (m : Int) + 1 + 1 + 1)) := k1 3 (by omega)
      have p4 : wr.cell? ⟨b1, o1 + m * 7 + 4, none⟩ = some (.int .i64 (k + 7 * (m : Int) + 1 + 1 + 1 + 1)) := k1 4 (by omega)
      have p5 : wr.cell? ⟨b1, o1 + m * 7 + 5, none⟩ = some (.int .i64 (k + 7 * (m : Int) + 1 + 1 + 1 + 1 + 1)) := k1 5 (by omega)
      have p6 : wr.cell? ⟨b1, o1 + m * 7 + 6, none⟩ = some (.int .i64 (k + 7 * (m : Int) + 1 + 1 + 1 + 1 + 1 + 1)) := k1 6 (by omega)
      have K1 := Lib.hid k1
      clear k1 hb
      go_wp2_with fail
      go_roundw
      case rel => exact ⟨m + 1, by omega, by go_num, by congr 1; omega, HB0.out⟩
      case measure => simp [intOf]; omega
    · have hmn : m = n := by omega
      subst hmn
      go_wp2_with fail
      go_ret
      exact ⟨rfl, hb⟩
end Go.Proofs.Ytblbeoeklkcamaa
