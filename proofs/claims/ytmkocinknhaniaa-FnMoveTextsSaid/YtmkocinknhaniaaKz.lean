/- Parts laid as one: Mone, Mundo, Mbtw. -/
import Derived.Test.YtmkocinknhaniaaBeadMoves
import Derived.Test.YtmkocinknhaniaaKb
import Derived.Test.YtmkocinknhaniaaKa
import Derived.Test.YtmkocinknhaniaaGood
import Derived.Deep.QuietTactic
/-! Mone -/
namespace Go.Proofs.Ytmkocinknhaniaa
set_option linter.unusedVariables false
open Go.RowKit

def okMv (m : Mv) : Prop := (0 ≤ m.rod ∧ m.rod ≤ 7) ∧ (0 ≤ m.part ∧ m.part ≤ 1) ∧ (-5 ≤ m.amt ∧ m.amt ≤ 5) ∧ m.amt ≠ 0
def okMs (ms : List Mv) : Prop := (∀ (k : Nat) (h : k < ms.length), okMv ms[k]) ∧ ms.length ≤ 60

set_option maxRecDepth 100000 in
set_option maxHeartbeats 1600000 in
theorem l4One_any (m : Mv) (w : World) (r : Bool) (hr : r = true ↔ okMv m) :
    Calls Try.prog 43 #[mvV m] w fun e w' => e = .returned (.bool r) ∧ Below w.heap.size w w' := by
  obtain ⟨rod, part, amt⟩ := m
  show Calls Try.prog 43 #[.agg #[.int .i64 rod, .int .i64 part, .int .i64 amt]] w fun e w' => e = .returned (.bool r) ∧ Below w.heap.size w w'
  have HR : Hid (r = true ↔ (0 ≤ rod ∧ rod ≤ 7) ∧ (0 ≤ part ∧ part ≤ 1) ∧ (-5 ≤ amt ∧ amt ≤ 5) ∧ amt ≠ 0) := Lib.hid hr
  clear hr
  have HB0 : Hid (Below w.heap.size w w) := Lib.hid (Below.refl _ _)
  go_enter Try.func43, Try.ntmps43
  go_wp2_with fail
  have hb : Below w.heap.size w (w.alloc (.cells #[.int .i64 rod, .int .i64 part, .int .i64 amt] 40)) := (Below.refl _ _).alloc (Nat.le_refl _) _
  have hk : (w.alloc (.cells #[.int .i64 rod, .int .i64 part, .int .i64 amt] 40)).heap[w.heap.size]? = some (.cells #[.int .i64 rod, .int .i64 part, .int .i64 amt] 40 (0, 0)) := alloc_at rfl
  have hz : (w.alloc (.cells #[.int .i64 rod, .int .i64 part, .int .i64 amt] 40)).heap.size = w.heap.size + 1 := by simp
  generalize w.alloc (.cells #[.int .i64 rod, .int .i64 part, .int .i64 amt] 40) = w1 at hb hk hz ⊢
  have HB1 : Hid (Below w.heap.size w w1) := Lib.hid (HB0.out.trans (hb.mono HB0.out.size))
  have HZ1 : Hid (w.heap.size ≤ w1.heap.size) := Lib.hid hb.size
  have HKf1 := Lib.hid hk
  replace HZ1 : Hid (w.heap.size < w1.heap.size) := Lib.hid (by omega)
  have HE1 := Lib.hid hz
  clear hb hk hz
  have ltf := lt_of_block HKf1.out
  obtain ⟨cf0, cf1, cf2, ff0, ff1, ff2⟩ := cell3 HKf1.out
  by_cases h1 : 0 ≤ rod ∧ rod ≤ 7
  · refine (l1In_yesq _ _ _ _ h1).mono ?_
    rintro e w' ⟨rfl, hw⟩
    subst w'
    go_wp2_with fail
    by_cases h2 : 0 ≤ part ∧ part ≤ 1
    · refine (l1In_yesq _ _ _ _ h2).mono ?_
      rintro e w' ⟨rfl, hw⟩
      subst w'
      go_wp2_with fail
      by_cases h3 : -5 ≤ amt ∧ amt ≤ 5
      · refine (l1In_yesq _ _ _ _ h3).mono ?_
        rintro e w' ⟨rfl, hw⟩
        subst w'
        go_wp2_with fail
        go_ret
        refine ⟨?_, HB1.out⟩
        refine ret_bool ?_
        have hq := HR.out
        by_cases h4 : amt = 0
        · rw [Bool.eq_false_iff.2 fun e => (hq.1 e).2.2.2 h4]; simp [h4]
        · rw [hq.2 ⟨h1, h2, h3, h4⟩]; simp [h4]
      · have HN := Lib.hid (show r = false from Bool.eq_false_iff.2 fun e => h3 (HR.out.1 e).2.2.1)
        refine (l1In_noq _ _ _ _ h3).mono ?_
        rintro e w' ⟨rfl, hw⟩
        subst w'
        go_wp2_with fail
        go_ret
        exact ⟨ret_bool HN.out.symm, HB1.out⟩
    · have HN := Lib.hid (show r = false from Bool.eq_false_iff.2 fun e => h2 (HR.out.1 e).2.1)
      refine (l1In_noq _ _ _ _ h2).mono ?_
      rintro e w' ⟨rfl, hw⟩
      subst w'
      go_wp2_with fail
      go_ret
      exact ⟨ret_bool HN.out.symm, HB1.out⟩
  · have HN := Lib.hid (show r = false from Bool.eq_false_iff.2 fun e => h1 (HR.out.1 e).1)
    refine (l1In_noq _ _ _ _ h1).mono ?_
    rintro e w' ⟨rfl, hw⟩
    subst w'
    go_wp2_with fail
    go_ret
    exact ⟨ret_bool HN.out.symm, HB1.out⟩


set_option maxRecDepth 100000 in
set_option maxHeartbeats 1600000 in
theorem l4Good_scan (v : Value) (ps : List Mv) (w : World) (h : RowsR 3 mvC w v ps) (p : Nat) (hp : p ≤ ps.length) (hpre : ∀ i (h : i < ps.length), i < p → okMv ps[i]) (hx : ∀ h : p < ps.length, ¬ okMv ps[p]) (r : Bool) (hr1 : p < ps.length → r = false) (hr2 : p = ps.length → r = decide (ps.length ≤ 60)) :
    Calls Try.prog 27 #[v] w fun e w' => e = .returned (.bool r) ∧ Below w.heap.size w w' := by
  have hm : ps.length ≤ 9223372036854775807 := by obtain ⟨_, _, _, ⟨m, _⟩, _⟩ := h; exact m
  obtain ⟨a, cp, rfl⟩ := h.form
  have R1 := Lib.hid h.at
  have HP := Lib.hid hpre
  have HX := Lib.hid hx
  have HR1 := Lib.hid hr1
  have HR2 := Lib.hid hr2
  clear h hpre hx hr1 hr2
  go_enter Try.func27, Try.ntmps27
  go_wp2_with fail
  go_loopw [3] (fun i wr => ∃ k : Nat, k ≤ p ∧ i = .int .i64 k ∧ Below w.heap.size w wr) (fun i _ => ps.length - (intOf i).toNat)
  case atStart => exact ⟨0, Nat.zero_le _, rfl, Below.refl _ _⟩
  case round =>
    obtain ⟨k, hk, rfl, hb⟩ := hrel
    have HB := Lib.hid hb
    by_cases hlt : k < ps.length
    · have z1 : (0 : Int) ≤ (k : Int) := by omega
      have z2 : (k : Int) < (ps.length : Int) := by omega
      obtain ⟨b1, o1, rfl, l1, k1⟩ := R1.out _ hb k hlt
      have p0 : wr.cell? ⟨b1, o1 + k * 3, none⟩ = some (.int .i64 ps[k].rod) := k1 0 (by omega)
      have p1 : wr.cell? ⟨b1, o1 + k * 3 + 1, none⟩ = some (.int .i64 ps[k].part) := k1 1 (by omega)
      have p2 : wr.cell? ⟨b1, o1 + k * 3 + 2, none⟩ = some (.int .i64 ps[k].amt) := k1 2 (by omega)
      clear k1 hb
      by_cases hkp : k < p
      · have HG := Lib.hid (HP.out k hlt hkp)
        go_wp2_with fail
        refine (l4One_any ps[k] _ true ⟨fun _ => HG.out, fun _ => rfl⟩).mono ?_
        rintro e w2 ⟨rfl, hb2⟩
        have HB2 := Lib.hid (HB.out.trans (hb2.mono HB.out.size))
        clear hb2
        go_wp2_with fail
        go_roundw
        case rel => exact ⟨k + 1, by omega, by go_num, HB2.out⟩
        case measure => simp [intOf]; omega
      · have hke : k = p := by omega
        subst hke
        have HG := Lib.hid (HX.out hlt)
        go_wp2_with fail
        refine (l4One_any ps[k] _ false ⟨fun e => by simp at e, fun h => absurd h HG.out⟩).mono ?_
        rintro e w2 ⟨rfl, hb2⟩
        have HB2 := Lib.hid (HB.out.trans (hb2.mono HB.out.size))
        have HN := Lib.hid (HR1.out hlt)
        clear hb2
        go_wp2_with fail
        go_ret
        exact ⟨ret_bool HN.out.symm, HB2.out⟩
    · have HN := Lib.hid (HR2.out (by omega))
      clear hb
      by_cases h60 : ps.length ≤ 60
      · have h60' : (ps.length : Int) ≤ 60 := by omega
        go_wp2_with fail
        go_ret
        exact ⟨ret_bool (by rw [HN.out]; simp [h60]), HB.out⟩
      · have h60' : ¬ (ps.length : Int) ≤ 60 := by omega
        go_wp2_with fail
        go_ret
        exact ⟨ret_bool (by rw [HN.out]; simp [h60]), HB.out⟩
theorem l4Good_any (v : Value) (ps : List Mv) (w : World) (h : RowsR 3 mvC w v ps) (r : Bool) (hr : r = true ↔ okMs ps) :
    Calls Try.prog 27 #[v] w fun e w' => e = .returned (.bool r) ∧ Below w.heap.size w w' := by
  obtain ⟨p, hp, hpre, hx⟩ := first_bad ps.length (fun i _ => okMv ps[i])
  refine l4Good_scan v ps w h p hp hpre hx r (fun hlt => Bool.eq_false_iff.2 fun e => hx hlt ((hr.1 e).1 p hlt)) (fun he => ?_)
  by_cases h60 : ps.length ≤ 60
  · rw [hr.2 ⟨fun k hk => hpre k hk (by omega), h60⟩, decide_eq_true h60]
  · rw [decide_eq_false h60]; exact Bool.eq_false_iff.2 fun e => h60 (hr.1 e).2
end Go.Proofs.Ytmkocinknhaniaa

/-! Mundo -/
namespace Go.Proofs.Ytmkocinknhaniaa
set_option linter.unusedVariables false
open Go.RowKit

theorem mvC_one (p : Mv) : ∀ u ∈ mvC p, u.oneCell' = true := by intro u hu; simp [mvC] at hu; rcases hu with rfl | rfl | rfl <;> rfl
def mvNeg (m : Mv) : Mv := { m with amt := -m.amt }
def undoL (ms : List Mv) : List Mv := (ms.map mvNeg).reverse
theorem undoL_len (ms : List Mv) : (undoL ms).length = ms.length := by simp [undoL]
theorem undo_snoc (ms : List Mv) (k : Nat) (h : k < ms.length) : undoL (ms.drop k) = undoL (ms.drop (k + 1)) ++ [mvNeg ms[k]] := by
  unfold undoL; rw [List.drop_eq_getElem_cons h, List.map_cons, List.reverse_cons]

end Go.Proofs.Ytmkocinknhaniaa

/-! Mbtw -/
namespace Go.Proofs.Ytmkocinknhaniaa
set_option linter.unusedVariables false
open Go.RowKit

def alikeF (u1 l1 : Int) (rs1 : List (Int × Int)) (u2 l2 : Int) (rs2 : List (Int × Int)) : Prop := goodF u1 l1 rs1 ∧ goodF u2 l2 rs2 ∧ u1 = u2 ∧ l1 = l2 ∧ rs1.length = rs2.length
def at2 (r : Int × Int) (p : Nat) : Int := if p = 0 then r.1 else r.2
/-- The moves of one part of one rod. -/
def btw1 (i p : Nat) (x y : Int × Int) : List Mv := if at2 y p - at2 x p = 0 then [] else [⟨i, p, at2 y p - at2 x p⟩]
def btwL (rs1 rs2 : List (Int × Int)) (t : Nat) : List Mv := (List.range t).flatMap fun s => btw1 (s / 2) (s % 2) (rs1.getD (s / 2) (0, 0)) (rs2.getD (s / 2) (0, 0))
theorem btwL_snoc (rs1 rs2 : List (Int × Int)) (i p : Nat) (hp : p < 2) (h1 : i < rs1.length) (h2 : i < rs2.length) : btwL rs1 rs2 (2 * i + p + 1) = btwL rs1 rs2 (2 * i + p) ++ btw1 i p rs1[i] rs2[i] := by
  unfold btwL
  rw [List.range_succ, List.flatMap_append]
  have e1 : (2 * i + p) / 2 = i := by omega
  have e2 : (2 * i + p) % 2 = p := by omega
  simp [e1, e2, List.getD_eq_getElem?_getD, List.getElem?_eq_getElem h1, List.getElem?_eq_getElem h2]
theorem btw1_len (i p : Nat) (x y : Int × Int) : (btw1 i p x y).length ≤ 1 := by unfold btw1; split <;> simp
theorem btwL_len (rs1 rs2 : List (Int × Int)) (t : Nat) : (btwL rs1 rs2 t).length ≤ t := by
  induction t with
  | zero => simp [btwL]
  | succ t ih =>
    have := btw1_len (t / 2) (t % 2) (rs1.getD (t / 2) (0, 0)) (rs2.getD (t / 2) (0, 0))
    unfold btwL at ih ⊢
    rw [List.range_succ, List.flatMap_append, List.length_append]
    simp only [List.flatMap_cons, List.flatMap_nil, List.append_nil]
    omega

theorem at2_bd {up lo : Int} {r : Int × Int} (h : rodOk up lo r) (hu : 1 ≤ up ∧ up ≤ 2) (hl : 4 ≤ lo ∧ lo ≤ 5) (p : Nat) : 0 ≤ at2 r p ∧ at2 r p ≤ 5 := by
  unfold rodOk at h; unfold at2; split <;> omega

/-- MovesBetween: the answer. -/
def BtF (u1 l1 : Int) (rs1 : List (Int × Int)) (u2 l2 : Int) (rs2 : List (Int × Int)) (ms : List Mv) (t : Bool) : Prop :=
  (alikeF u1 l1 rs1 u2 l2 rs2 ∧ ms = btwL rs1 rs2 (2 * rs1.length) ∧ t = true) ∨ (¬ alikeF u1 l1 rs1 u2 l2 rs2 ∧ ms = [] ∧ t = false)
theorem btF_or (u1 l1 : Int) (rs1 : List (Int × Int)) (u2 l2 : Int) (rs2 : List (Int × Int)) : ∃ ms t, BtF u1 l1 rs1 u2 l2 rs2 ms t := by
  by_cases h : alikeF u1 l1 rs1 u2 l2 rs2
  · exact ⟨_, true, .inl ⟨h, rfl, rfl⟩⟩
  · exact ⟨[], false, .inr ⟨h, rfl, rfl⟩⟩
theorem btF_len {u1 l1 : Int} {rs1 : List (Int × Int)} {u2 l2 : Int} {rs2 : List (Int × Int)} {ms : List Mv} {t : Bool} (h : BtF u1 l1 rs1 u2 l2 rs2 ms t) : ms.length ≤ 16 := by
  rcases h with ⟨h, rfl, _⟩ | ⟨_, rfl, _⟩
  · have := btwL_len rs1 rs2 (2 * rs1.length); have := h.1.2.2.2; omega
  · simp

end Go.Proofs.Ytmkocinknhaniaa
