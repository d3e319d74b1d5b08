/- The program's FirstSlot. -/
import Derived.Test.YtblbeoeklkcamaaLi3
namespace Go.Proofs.Ytblbeoeklkcamaa
set_option linter.unusedVariables false
open Go.RowKit

theorem box7_4 {w : World} {b : Nat} {x0 x1 x2 x3 x4 x5 x6 : Value} {T : TypeId} (h : w.heap[b]? = some (.cells #[x0, x1, x2, x3, x4, x5, x6] T (0, 0))) (y : Value) : (w.setCell ⟨b, 4, none⟩ y).heap[b]? = some (.cells #[x0, x1, x2, x3, y, x5, x6] T (0, 0)) := by
  have h1 := heap_setCell_same w b 4 _ _ y h
  simpa using h1
theorem box7_5 {w : World} {b : Nat} {x0 x1 x2 x3 x4 x5 x6 : Value} {T : TypeId} (h : w.heap[b]? = some (.cells #[x0, x1, x2, x3, x4, x5, x6] T (0, 0))) (y : Value) : (w.setCell ⟨b, 5, none⟩ y).heap[b]? = some (.cells #[x0, x1, x2, x3, x4, y, x6] T (0, 0)) := by
  have h1 := heap_setCell_same w b 5 _ _ y h
  simpa using h1
/-- The number in a cell. -/
def celI (w : World) (b i : Nat) : Int := match w.cell? ⟨b, i, none⟩ with
  | some (.int _ n) => n
  | _ => 0
theorem celI_of {w : World} {b i : Nat} {n : Int} (h : w.cell? ⟨b, i, none⟩ = some (.int .i64 n)) : celI w b i = n := by simp [celI, h]
set_option maxRecDepth 100000 in
set_option maxHeartbeats 800000 in
theorem implSlot_no (v : Value) (ps : List Les) (id d b : Int) (t : Bool) (w : World) (h : RowsR 7 lesC w v ps) (hn : ¬ ∃ k, okLs ps ∧ fndAt ps id k) (hq : d = 0 ∧ b = 0 ∧ t = false) :
    Calls Try.prog 15 #[v, .int .i64 id] w fun e w' => e = .returned (.tuple #[.int .i64 d, .int .i64 b, .bool t]) ∧ Below w.heap.size w w' := by
  have HT := Lib.hid hq
  obtain ⟨r, tt, hi⟩ := idxF_or ps id
  obtain rfl : tt = false := by
    rcases hi with ⟨h1, k, h2, _⟩ | ⟨_, _, _, h⟩ | ⟨_, _, h⟩
    · exact absurd ⟨k, h1, h2⟩ hn
    · exact h
    · exact h
  have HC := Lib.hid (lessonIndex_any v ps id w h r false hi)
  obtain ⟨a, cp, rfl⟩ := h.form
  clear h hn hq hi
  go_enter Try.func15, Try.ntmps15
  go_wp2_with fail
  refine (HC.out).mono ?_
  rintro e w2 ⟨rfl, hb2⟩
  have HB := Lib.hid hb2
  clear hb2
  go_wp2_with fail
  exact bodyPost_ret (v := .tuple #[.int .i64 0, .int .i64 0, .bool false]) (by simp [results, Try.results15, go_sem]) rfl ⟨by rw [HT.out.1, HT.out.2.1, HT.out.2.2], HB.out⟩
set_option maxRecDepth 100000 in
set_option maxHeartbeats 6400000 in
theorem implSlot_at (v : Value) (ps : List Les) (id d b : Int) (t : Bool) (w : World) (h : RowsR 7 lesC w v ps) (k : Nat) (ho : okLs ps) (hf : fndAt ps id k) (hs : (∃ s, s < 315 ∧ slF ps k s ∧ (∀ s', s' < s → ¬ slF ps k s') ∧ d = slD s ∧ b = slB s ∧ t = true) ∨ ((∀ s, s < 315 → ¬ slF ps k s) ∧ d = 0 ∧ b = 0 ∧ t = false)) :
    Calls Try.prog 15 #[v, .int .i64 id] w fun e w' => e = .returned (.tuple #[.int .i64 d, .int .i64 b, .bool t]) ∧ Below w.heap.size w w' := by
  have hk : k < ps.length := hf.1
  have hl := okLs_len ho
  have HC := Lib.hid (lessonIndex_any v ps id w h k true (.inl ⟨ho, k, hf, rfl, rfl⟩))
  have HR := Lib.hid h
  have HS := Lib.hid hs
  have hq0 := okLs_at ho k hk
  have HLK := Lib.hid (leD_at ps k hk)
  have HFL : Hid (∀ (D j : Nat), D < 7 → j < 45 → ((∃ i, i < ps.length ∧ (leD ps i).id ≠ (atL (leD ps k) D (480 + 15 * (j : Int))).id ∧ clashB (atL (leD ps k) D (480 + 15 * (j : Int))) (leD ps i) = true) ↔ ¬ slF ps k (45 * D + j))) := Lib.hid (fun D j hD hj => by
    have hx : okLe (atL (leD ps k) D (480 + 15 * (j : Int))) := by
      rw [leD_at ps k hk]
      exact (okLe_at hq0 _ _).2 ⟨by omega, by omega, hq0.2.2.2.2.2.2⟩
    rw [fit_list ho hk hx]
    unfold slF
    rw [slD_at D j hj, slB_at D j hj])
  obtain ⟨a, cp, rfl⟩ := h.form
  have R1 := Lib.hid h.at
  have z1 : (0 : Int) ≤ (k : Int) := by omega
  have z2 : (k : Int) < (ps.length : Int) := by omega
  clear h ho hf hs hq0
  go_enter Try.func15, Try.ntmps15
  go_wp2_with fail
  refine (HC.out).mono ?_
  rintro e w2 ⟨rfl, hb2⟩
  have HB := Lib.hid hb2
  obtain ⟨b1, o1, rfl, l1, k1⟩ := R1.out _ hb2 k hk
  rw [← HLK.out] at k1
  generalize leD ps k = q at k1 HFL
  have p0 : w2.cell? ⟨b1, o1 + k * 7, none⟩ = some (.int .i64 q.id) := k1 0 (by omega)
  have p1 : w2.cell? ⟨b1, o1 + k * 7 + 1, none⟩ = some (.int .i64 q.cls) := k1 1 (by omega)
  have p2 : w2.cell? ⟨b1, o1 + k * 7 + 2, none⟩ = some (.int .i64 q.tch) := k1 2 (by omega)
  have p3 : w2.cell? ⟨b1, o1 + k * 7 + 3, none⟩ = some (.int .i64 q.room) := k1 3 (by omega)
  have p4 : w2.cell? ⟨b1, o1 + k * 7 + 4, none⟩ = some (.int .i64 q.day) := k1 4 (by omega)
  have p5 : w2.cell? ⟨b1, o1 + k * 7 + 5, none⟩ = some (.int .i64 q.bgn) := k1 5 (by omega)
  have p6 : w2.cell? ⟨b1, o1 + k * 7 + 6, none⟩ = some (.int .i64 q.mins) := k1 6 (by omega)
  clear k1 hb2
  go_wp2_with fail
  have hk2 : (w2.alloc (.cells #[.int .i64 q.id, .int .i64 q.cls, .int .i64 q.tch, .int .i64 q.room, .int .i64 0, .int .i64 q.bgn, .int .i64 q.mins] 50)).heap[w2.heap.size]? = some (.cells #[.int .i64 q.id, .int .i64 q.cls, .int .i64 q.tch, .int .i64 q.room, .int .i64 0, .int .i64 q.bgn, .int .i64 q.mins] 50 (0, 0)) := alloc_at rfl
  have hb3 : Below w.heap.size w (w2.alloc (.cells #[.int .i64 q.id, .int .i64 q.cls, .int .i64 q.tch, .int .i64 q.room, .int .i64 0, .int .i64 q.bgn, .int .i64 q.mins] 50)) := HB.out.alloc HB.out.size _
  generalize w2.alloc (.cells #[.int .i64 q.id, .int .i64 q.cls, .int .i64 q.tch, .int .i64 q.room, .int .i64 0, .int .i64 q.bgn, .int .i64 q.mins] 50) = w3 at hk2 hb3 ⊢
  have HW2 := Lib.hid HB.out.size
  generalize w2.heap.size = B at hk2 HW2 ⊢
  have HK3 := Lib.hid hk2
  have HB3 := Lib.hid hb3
  clear hk2 hb3 p0 p1 p2 p3 p4 p5 p6
  go_loopw [] (fun wr => ∃ (D : Nat) (bb : Int), D ≤ 7 ∧ wr.heap[B]? = some (.cells #[.int .i64 q.id, .int .i64 q.cls, .int .i64 q.tch, .int .i64 q.room, .int .i64 (D : Int), .int .i64 bb, .int .i64 q.mins] 50 (0, 0)) ∧ (∀ s, s < 45 * D → ¬ slF ps k s) ∧ Below w.heap.size w wr) (fun wr => (7 - celI wr B 4).toNat)
  case atStart => exact ⟨0, q.bgn, by omega, HK3.out, fun s h => by omega, HB3.out⟩
  case round =>
    obtain ⟨D, bb, hD, hkb, hpre, hb⟩ := hrel
    rename World => wo
    have HBo := Lib.hid hb
    have HPo := Lib.hid hpre
    have HKo := Lib.hid hkb
    obtain ⟨x0, x1, x2, x3, x4, x5, x6, f0, f1, f2, f3, f4, f5, f6⟩ := cell7 hkb
    have HMo := Lib.hid (celI_of x4)
    clear hb hpre hkb
    by_cases h7 : D < 7
    · have z3 : (D : Int) ≤ 6 := by omega
      go_wp2_with fail
      have hko := box7_5 HKo.out (.int .i64 480)
      have hbo : Below w.heap.size w (wo.setCell ⟨B, 5, none⟩ (.int .i64 480)) := HBo.out.setCell (p := ⟨B, 5, none⟩) HW2.out _
      generalize wo.setCell ⟨B, 5, none⟩ (.int .i64 480) = wp at hko hbo ⊢
      have HKp := Lib.hid hko
      have HBp := Lib.hid hbo
      clear hko hbo x0 f0 x1 f1 x2 f2 x3 f3 x4 f4 x5 f5 x6 f6
      go_loopw [] (fun wr => ∃ j : Nat, j ≤ 45 ∧ wr.heap[B]? = some (.cells #[.int .i64 q.id, .int .i64 q.cls, .int .i64 q.tch, .int .i64 q.room, .int .i64 (D : Int), .int .i64 (480 + 15 * (j : Int)), .int .i64 q.mins] 50 (0, 0)) ∧ (∀ s, s < 45 * D + j → ¬ slF ps k s) ∧ Below w.heap.size w wr) (fun wr => (1200 - celI wr B 5).toNat)
      case atStart => exact ⟨0, by omega, HKp.out, HPo.out, HBp.out⟩
      case round =>
        obtain ⟨j, hj, hkb, hpre, hb⟩ := hrel
        rename World => wi
        have HBi := Lib.hid hb
        have HPi := Lib.hid hpre
        have HKi := Lib.hid hkb
        obtain ⟨x0, x1, x2, x3, x4, x5, x6, f0, f1, f2, f3, f4, f5, f6⟩ := cell7 hkb
        have HMi := Lib.hid (celI_of x5)
        clear hb hpre hkb
        by_cases h45 : j < 45
        · have z4 : (480 + 15 * (j : Int)) ≤ 1140 := by omega
          have hsl := HFL.out D j (by omega) h45
          by_cases hfit : slF ps k (45 * D + j)
          · have HE : Hid (d = (D : Int) ∧ b = 480 + 15 * (j : Int) ∧ t = true) := Lib.hid (by
              rcases HS.out with ⟨s, s1, s2, s3, rfl, rfl, s6⟩ | ⟨s1, _⟩
              · have : s = 45 * D + j := by
                  rcases Nat.lt_trichotomy s (45 * D + j) with e | e | e
                  · exact absurd s2 (HPi.out s e)
                  · exact e
                  · exact absurd hfit (s3 _ e)
                subst this
                exact ⟨slD_at D j h45, slB_at D j h45, s6⟩
              · exact absurd hfit (s1 _ (by omega)))
            have HCW : Hid (∀ w', RowsR 7 lesC w' (.slice (some ⟨b1, o1, none⟩) ps.length cp) ps → Calls Try.prog 54 #[.agg #[.int .i64 q.id, .int .i64 q.cls, .int .i64 q.tch, .int .i64 q.room, .int .i64 (D : Int), .int .i64 (480 + 15 * (j : Int)), .int .i64 q.mins], .slice (some ⟨b1, o1, none⟩) ps.length cp] w' fun e w'' => e = .returned (.bool false) ∧ Below w'.heap.size w' w'') := Lib.hid (fun w' hr => clashesWith_any (atL q D (480 + 15 * (j : Int))) _ ps w' hr false ⟨fun e => by simp at e, fun e => absurd hfit (hsl.1 e)⟩)
            clear hfit hsl
            go_wp2_with fail
            refine (HCW.out wi (HR.out.below HBi.out (Nat.le_refl _))).mono ?_
            rintro e w4 ⟨rfl, hb4⟩
            have HB4 := Lib.hid (HBi.out.trans (hb4.mono HBi.out.size))
            have hk4 := (hb4.block _ (lt_of_block HKi.out)).trans HKi.out
            clear hb4 x0 f0 x1 f1 x2 f2 x3 f3 x4 f4 x5 f5 x6 f6
            obtain ⟨x0, x1, x2, x3, x4, x5, x6, f0, f1, f2, f3, f4, f5, f6⟩ := cell7 hk4
            clear hk4
            go_wp2_with fail
            go_quiet (fail)
            rename Nat => nq
            have HB5 := Lib.hid (bl_drewN HB4.out nq)
            go_wp2_with fail
            exact bodyPost_ret (v := .tuple #[.int .i64 (D : Int), .int .i64 (480 + 15 * (j : Int)), .bool true]) (by simp [results, Try.results15, go_sem]) rfl ⟨by rw [HE.out.1, HE.out.2.1, HE.out.2.2], HB5.out⟩
          · have HP2 : Hid (∀ s, s < 45 * D + (j + 1) → ¬ slF ps k s) := Lib.hid (fun s h => by
              by_cases e : s = 45 * D + j
              · subst e; exact hfit
              · exact HPi.out s (by omega))
            have HCW : Hid (∀ w', RowsR 7 lesC w' (.slice (some ⟨b1, o1, none⟩) ps.length cp) ps → Calls Try.prog 54 #[.agg #[.int .i64 q.id, .int .i64 q.cls, .int .i64 q.tch, .int .i64 q.room, .int .i64 (D : Int), .int .i64 (480 + 15 * (j : Int)), .int .i64 q.mins], .slice (some ⟨b1, o1, none⟩) ps.length cp] w' fun e w'' => e = .returned (.bool true) ∧ Below w'.heap.size w' w'') := Lib.hid (fun w' hr => clashesWith_any (atL q D (480 + 15 * (j : Int))) _ ps w' hr true ⟨fun _ => hsl.2 hfit, fun _ => rfl⟩)
            clear hfit hsl
            go_wp2_with fail
            refine (HCW.out wi (HR.out.below HBi.out (Nat.le_refl _))).mono ?_
            rintro e w4 ⟨rfl, hb4⟩
            have HB4 := Lib.hid (HBi.out.trans (hb4.mono HBi.out.size))
            have hk4 := (hb4.block _ (lt_of_block HKi.out)).trans HKi.out
            have HK4 := Lib.hid hk4
            clear hb4 x0 f0 x1 f1 x2 f2 x3 f3 x4 f4 x5 f5 x6 f6
            obtain ⟨x0, x1, x2, x3, x4, x5, x6, f0, f1, f2, f3, f4, f5, f6⟩ := cell7 hk4
            clear hk4
            have hwr : IntKind.i64.wrap (480 + 15 * (j : Int) + 15) = 480 + 15 * ((j + 1 : Nat) : Int) := by rw [IntKind.wrap_i64]; omega
            go_wp2_with fail
            have HK5 := Lib.hid (box7_5 HK4.out (.int .i64 (480 + 15 * ((j + 1 : Nat) : Int))))
            have HB5 := Lib.hid (HB4.out.setCell (p := ⟨B, 5, none⟩) HW2.out (.int .i64 (480 + 15 * ((j + 1 : Nat) : Int))))
            go_roundw
            case rel => exact ⟨j + 1, by omega, HK5.out, HP2.out, HB5.out⟩
            case measure =>
              have e1 := HMi.out
              have e2 := celI_of (cell7 HK5.out).2.2.2.2.2.1
              rw [e1]
              first | rw [e2] | (have e3 := e2; simp at e3 ⊢; rw [e3])
              omega
        · obtain rfl : j = 45 := by omega
          have z4 : ¬ ((480 : Int) + 15 * ((45 : Nat) : Int)) ≤ 1140 := by omega
          have HP2 : Hid (∀ s, s < 45 * (D + 1) → ¬ slF ps k s) := Lib.hid (fun s h => HPi.out s (by omega))
          have hwr : IntKind.i64.wrap ((D : Int) + 1) = ((D + 1 : Nat) : Int) := by rw [IntKind.wrap_i64]; omega
          go_wp2_with fail
          have HK5 := Lib.hid (box7_4 HKi.out (.int .i64 ((D + 1 : Nat) : Int)))
          have HB5 := Lib.hid (HBi.out.setCell (p := ⟨B, 4, none⟩) HW2.out (.int .i64 ((D + 1 : Nat) : Int)))
          go_roundw
          case rel => exact ⟨D + 1, _, by omega, HK5.out, HP2.out, HB5.out⟩
          case measure =>
            have e1 := HMo.out
            have e2 := celI_of (cell7 HK5.out).2.2.2.2.1
            rw [e1]
            first | rw [e2] | (have e3 := e2; simp at e3 ⊢; rw [e3])
            omega
    · obtain rfl : D = 7 := by omega
      have HE : Hid (d = 0 ∧ b = 0 ∧ t = false) := Lib.hid (by
        rcases HS.out with ⟨s, s1, s2, _⟩ | ⟨_, h2⟩
        · exact absurd s2 (HPo.out s (by omega))
        · exact h2)
      go_wp2_with fail
      exact bodyPost_ret (v := .tuple #[.int .i64 0, .int .i64 0, .bool false]) (by simp [results, Try.results15, go_sem]) rfl ⟨by rw [HE.out.1, HE.out.2.1, HE.out.2.2], HBo.out⟩
theorem implSlot_any (v : Value) (ps : List Les) (id d b : Int) (t : Bool) (w : World) (h : RowsR 7 lesC w v ps) (hs : SlF ps id d b t) :
    Calls Try.prog 15 #[v, .int .i64 id] w fun e w' => e = .returned (.tuple #[.int .i64 d, .int .i64 b, .bool t]) ∧ Below w.heap.size w w' := by
  by_cases hn : ∃ k, okLs ps ∧ fndAt ps id k
  · obtain ⟨k, ho, hk⟩ := hn
    exact implSlot_at v ps id d b t w h k ho hk (hs.at ho hk)
  · exact implSlot_no v ps id d b t w h hn (hs.no hn)
end Go.Proofs.Ytblbeoeklkcamaa
