/- One move, a list of moves: the model's tests. -/
import Derived.Test.YtpdckmhhmgkaaaaBeadMoves
import Derived.Test.YtpdckmhhmgkaaaaRat
import Derived.Test.YtpdckmhhmgkaaaaIn
import Derived.Test.YtpdckmhhmgkaaaaReg
namespace Go.Proofs.Ytpdckmhhmgkaaaa
set_option linter.unusedVariables false
open Go.RowKit

def okMv (m : Mv) : Prop := (0 ≤ m.rod ∧ m.rod ≤ 7) ∧ (0 ≤ m.part ∧ m.part ≤ 1) ∧ (-5 ≤ m.amt ∧ m.amt ≤ 5) ∧ m.amt ≠ 0
def okMs (ms : List Mv) : Prop := (∀ (k : Nat) (h : k < ms.length), okMv ms[k]) ∧ ms.length ≤ 60

set_option maxRecDepth 100000 in
set_option maxHeartbeats 1600000 in
theorem l4One_any (m : Mv) (w : World) (r : Bool) (hr : r = true ↔ okMv m) :
    Calls Try.prog 62 #[mvV m] w fun e w' => e = .returned (.bool r) ∧ Below w.heap.size w w' := by
  obtain ⟨rod, part, amt⟩ := m
  show Calls Try.prog 62 #[.agg #[.int .i64 rod, .int .i64 part, .int .i64 amt]] w fun e w' => e = .returned (.bool r) ∧ Below w.heap.size w w'
  have HR : Hid (r = true ↔ (0 ≤ rod ∧ rod ≤ 7) ∧ (0 ≤ part ∧ part ≤ 1) ∧ (-5 ≤ amt ∧ amt ≤ 5) ∧ amt ≠ 0) := Lib.hid hr
  clear hr
  have HB0 : Hid (Below w.heap.size w w) := Lib.hid (Below.refl _ _)
  go_enter Try.func62, Try.ntmps62
  go_wp2_with fail
  have hb : Below w.heap.size w (w.alloc (.cells #[.int .i64 rod, .int .i64 part, .int .i64 amt] 38)) := (Below.refl _ _).alloc (Nat.le_refl _) _
  have hk : (w.alloc (.cells #[.int .i64 rod, .int .i64 part, .int .i64 amt] 38)).heap[w.heap.size]? = some (.cells #[.int .i64 rod, .int .i64 part, .int .i64 amt] 38 (0, 0)) := alloc_at rfl
  have hz : (w.alloc (.cells #[.int .i64 rod, .int .i64 part, .int .i64 amt] 38)).heap.size = w.heap.size + 1 := by simp
  generalize w.alloc (.cells #[.int .i64 rod, .int .i64 part, .int .i64 amt] 38) = w1 at hb hk hz ⊢
  have HB1 : Hid (Below w.heap.size w w1) := Lib.hid (HB0.out.trans (hb.mono HB0.out.size))
  have HZ1 : Hid (w.heap.size ≤ w1.heap.size) := Lib.hid hb.size
  have HKf1 := Lib.hid hk
  replace HZ1 : Hid (w.heap.size < w1.heap.size) := Lib.hid (by omega)
  have HE1 := Lib.hid hz
  clear hb hk hz
  have ltf := lt_of_block HKf1.out
  obtain ⟨cf0, cf1, cf2, ff0, ff1, ff2⟩ := cell3 HKf1.out
  by_cases h1 : 0 ≤ rod ∧ rod ≤ 7
  · refine (l1In_yesq _ _ _ _ h1).mono ?_
    rintro e w' ⟨rfl, hw⟩
    subst w'
    go_wp2_with fail
    by_cases h2 : 0 ≤ part ∧ part ≤ 1
    · refine (l1In_yesq _ _ _ _ h2).mono ?_
      rintro e w' ⟨rfl, hw⟩
      subst w'
      go_wp2_with fail
      by_cases h3 : -5 ≤ amt ∧ amt ≤ 5
      · refine (l1In_yesq _ _ _ _ h3).mono ?_
        rintro e w' ⟨rfl, hw⟩
        subst w'
        go_wp2_with fail
        go_ret
        refine ⟨?_, HB1.out⟩
        refine ret_bool ?_
        have hq := HR.out
        by_cases h4 : amt = 0
        · rw [Bool.eq_false_iff.2 fun e => (hq.1 e).2.2.2 h4]; simp [h4]
        · rw [hq.2 ⟨h1, h2, h3, h4⟩]; simp [h4]
      · have HN := Lib.hid (show r = false from Bool.eq_false_iff.2 fun e => h3 (HR.out.1 e).2.2.1)
        refine (l1In_noq _ _ _ _ h3).mono ?_
        rintro e w' ⟨rfl, hw⟩
        subst w'
        go_wp2_with fail
        go_ret
        exact ⟨ret_bool HN.out.symm, HB1.out⟩
    · have HN := Lib.hid (show r = false from Bool.eq_false_iff.2 fun e => h2 (HR.out.1 e).2.1)
      refine (l1In_noq _ _ _ _ h2).mono ?_
      rintro e w' ⟨rfl, hw⟩
      subst w'
      go_wp2_with fail
      go_ret
      exact ⟨ret_bool HN.out.symm, HB1.out⟩
  · have HN := Lib.hid (show r = false from Bool.eq_false_iff.2 fun e => h1 (HR.out.1 e).1)
    refine (l1In_noq _ _ _ _ h1).mono ?_
    rintro e w' ⟨rfl, hw⟩
    subst w'
    go_wp2_with fail
    go_ret
    exact ⟨ret_bool HN.out.symm, HB1.out⟩

set_option maxRecDepth 100000 in
set_option maxHeartbeats 800000 in
theorem specIsMove_any (m : Mv) (w : World) (r : Bool) (hr : r = true ↔ okMv m) :
    Calls Try.prog 24 #[mvV m] w fun e w' => e = .returned (.bool r) ∧ Below w.heap.size w w' := by
  have HC := Lib.hid (fun w => l4One_any m w r hr)
  obtain ⟨rod, part, amt⟩ := m
  change Hid (∀ w : World, Calls Try.prog 62 #[.agg #[.int .i64 rod, .int .i64 part, .int .i64 amt]] w fun e w' => e = .returned (.bool r) ∧ Below w.heap.size w w') at HC
  show Calls Try.prog 24 #[.agg #[.int .i64 rod, .int .i64 part, .int .i64 amt]] w fun e w' => e = .returned (.bool r) ∧ Below w.heap.size w w'
  clear hr
  have HB0 : Hid (Below w.heap.size w w) := Lib.hid (Below.refl _ _)
  go_enter Try.func24, Try.ntmps24
  go_wp2_with fail
  have hb : Below w.heap.size w (w.alloc (.cells #[.int .i64 rod, .int .i64 part, .int .i64 amt] 38)) := (Below.refl _ _).alloc (Nat.le_refl _) _
  have hk : (w.alloc (.cells #[.int .i64 rod, .int .i64 part, .int .i64 amt] 38)).heap[w.heap.size]? = some (.cells #[.int .i64 rod, .int .i64 part, .int .i64 amt] 38 (0, 0)) := alloc_at rfl
  have hz : (w.alloc (.cells #[.int .i64 rod, .int .i64 part, .int .i64 amt] 38)).heap.size = w.heap.size + 1 := by simp
  generalize w.alloc (.cells #[.int .i64 rod, .int .i64 part, .int .i64 amt] 38) = w1 at hb hk hz ⊢
  have HB1 : Hid (Below w.heap.size w w1) := Lib.hid (HB0.out.trans (hb.mono HB0.out.size))
  have HZ1 : Hid (w.heap.size ≤ w1.heap.size) := Lib.hid hb.size
  have HKf1 := Lib.hid hk
  replace HZ1 : Hid (w.heap.size < w1.heap.size) := Lib.hid (by omega)
  have HE1 := Lib.hid hz
  clear hb hk hz
  have ltf := lt_of_block HKf1.out
  obtain ⟨cf0, cf1, cf2, ff0, ff1, ff2⟩ := cell3 HKf1.out
  refine (HC.out _).mono ?_
  rintro e w2 ⟨rfl, hb⟩
  have HB2 : Hid (Below w.heap.size w w2) := Lib.hid (HB1.out.trans (hb.mono HB1.out.size))
  have HZ2 : Hid (w1.heap.size ≤ w2.heap.size) := Lib.hid hb.size
  have HKf2 := Lib.hid ((hb.block _ (lt_of_block HKf1.out)).trans HKf1.out)
  clear hb
  go_wp2_with fail
  go_ret
  exact ⟨rfl, HB2.out⟩

set_option maxRecDepth 100000 in
set_option maxHeartbeats 1600000 in
theorem l4Good_scan (v : Value) (ps : List Mv) (w : World) (h : RowsR 3 mvC w v ps) (p : Nat) (hp : p ≤ ps.length) (hpre : ∀ i (h : i < ps.length), i < p → okMv ps[i]) (hx : ∀ h : p < ps.length, ¬ okMv ps[p]) (r : Bool) (hr1 : p < ps.length → r = false) (hr2 : p = ps.length → r = decide (ps.length ≤ 60)) :
    Calls Try.prog 64 #[v] w fun e w' => e = .returned (.bool r) ∧ Below w.heap.size w w' := by
  have hm : ps.length ≤ 9223372036854775807 := by obtain ⟨_, _, _, ⟨m, _⟩, _⟩ := h; exact m
  obtain ⟨a, cp, rfl⟩ := h.form
  have R1 := Lib.hid h.at
  have HP := Lib.hid hpre
  have HX := Lib.hid hx
  have HR1 := Lib.hid hr1
  have HR2 := Lib.hid hr2
  clear h hpre hx hr1 hr2
  go_enter Try.func64, Try.ntmps64
  go_wp2_with fail
  go_loopw [3] (fun i wr => ∃ k : Nat, k ≤ p ∧ i = .int .i64 k ∧ Below w.heap.size w wr) (fun i _ => ps.length - (intOf i).toNat)
  case atStart => exact ⟨0, Nat.zero_le _, rfl, Below.refl _ _⟩
  case round =>
    obtain ⟨k, hk, rfl, hb⟩ := hrel
    have HB := Lib.hid hb
    by_cases hlt : k < ps.length
    · have z1 : (0 : Int) ≤ (k : Int) := by omega
      have z2 : (k : Int) < (ps.length : Int) := by omega
      obtain ⟨b1, o1, rfl, l1, k1⟩ := R1.out _ hb k hlt
      have p0 : wr.cell? ⟨b1, o1 + k * 3, none⟩ = some (.int .i64 ps[k].rod) := k1 0 (by omega)
      have p1 : wr.cell? ⟨b1, o1 + k * 3 + 1, none⟩ = some (.int .i64 ps[k].part) := k1 1 (by omega)
      have p2 : wr.cell? ⟨b1, o1 + k * 3 + 2, none⟩ = some (.int .i64 ps[k].amt) := k1 2 (by omega)
      clear k1 hb
      by_cases hkp : k < p
      · have HG := Lib.hid (HP.out k hlt hkp)
        go_wp2_with fail
        refine (l4One_any ps[k] _ true ⟨fun _ => HG.out, fun _ => rfl⟩).mono ?_
        rintro e w2 ⟨rfl, hb2⟩
        have HB2 := Lib.hid (HB.out.trans (hb2.mono HB.out.size))
        clear hb2
        go_wp2_with fail
        go_roundw
        case rel => exact ⟨k + 1, by omega, by go_num, HB2.out⟩
        case measure => simp [intOf]; omega
      · have hke : k = p := by omega
        subst hke
        have HG := Lib.hid (HX.out hlt)
        go_wp2_with fail
        refine (l4One_any ps[k] _ false ⟨fun e => by simp at e, fun h => absurd h HG.out⟩).mono ?_
        rintro e w2 ⟨rfl, hb2⟩
        have HB2 := Lib.hid (HB.out.trans (hb2.mono HB.out.size))
        have HN := Lib.hid (HR1.out hlt)
        clear hb2
        go_wp2_with fail
        go_ret
        exact ⟨ret_bool HN.out.symm, HB2.out⟩
    · have HN := Lib.hid (HR2.out (by omega))
      clear hb
      by_cases h60 : ps.length ≤ 60
      · have h60' : (ps.length : Int) ≤ 60 := by omega
        go_wp2_with fail
        go_ret
        exact ⟨ret_bool (by rw [HN.out]; simp [h60]), HB.out⟩
      · have h60' : ¬ (ps.length : Int) ≤ 60 := by omega
        go_wp2_with fail
        go_ret
        exact ⟨ret_bool (by rw [HN.out]; simp [h60]), HB.out⟩
theorem l4Good_any (v : Value) (ps : List Mv) (w : World) (h : RowsR 3 mvC w v ps) (r : Bool) (hr : r = true ↔ okMs ps) :
    Calls Try.prog 64 #[v] w fun e w' => e = .returned (.bool r) ∧ Below w.heap.size w w' := by
  obtain ⟨p, hp, hpre, hx⟩ := first_bad ps.length (fun i _ => okMv ps[i])
  refine l4Good_scan v ps w h p hp hpre hx r (fun hlt => Bool.eq_false_iff.2 fun e => hx hlt ((hr.1 e).1 p hlt)) (fun he => ?_)
  by_cases h60 : ps.length ≤ 60
  · rw [hr.2 ⟨fun k hk => hpre k hk (by omega), h60⟩, decide_eq_true h60]
  · rw [decide_eq_false h60]; exact Bool.eq_false_iff.2 fun e => h60 (hr.1 e).2
end Go.Proofs.Ytpdckmhhmgkaaaa
