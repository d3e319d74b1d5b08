/- Parts laid as one: Frl, Frm, Rat, Mk, Frmo. -/
import Derived.Test.YtlfplnbmgmookaaKa
import Derived.Deep.QuietTactic
import Derived.BigQuiet
import Derived.StillTailTactics
import Derived.ProofKit
import Derived.OpenShut
import Derived.Lib.SmallJoins
import Derived.Deep.Slices
/-! Frl -/
namespace Go.Proofs.Ytlfplnbmgmookaa
set_option linter.unusedVariables false
open Go.RowKit

/-- A rod as a value. -/
def rodV (r : Int × Int) : Value := .agg #[.int .i64 r.1, .int .i64 r.2]

set_option maxRecDepth 100000 in
set_option maxHeartbeats 800000 in
theorem eqIntA2_yes (x y : Int) (w : World) :
    Calls Try.prog 69 #[.agg #[.int .i64 x, .int .i64 y], .agg #[.int .i64 x, .int .i64 y]] w fun e w' => e = .returned (.bool true) ∧ Below w.heap.size w w' := by
  go_enter Try.func69, Try.ntmps69
  go_wp2_with fail
  refine wp_loop_rounds 3 ?_
  rw [rounds_succ]
  go_wp2_with fail
  go_quiet (fail)
  go_wp2_with fail
  rw [rounds_succ]
  go_wp2_with fail
  go_quiet (fail)
  go_wp2_with fail
  rw [rounds_succ]
  go_wp2_with fail
  go_ret
  exact ⟨rfl, bl_drewN (((Below.refl _ _).alloc (Nat.le_refl _) _).alloc (by simp) _) _⟩

/-- The slice value v reads as these rods. -/
def RodsR (w : World) (v : Value) (rs : List (Int × Int)) : Prop :=
  ∃ a cap, v = .slice a rs.length cap ∧ (rs.length ≤ maxLen ∧ rs.length ≤ cap) ∧ (rs ≠ [] → ∃ b off, a = some ⟨b, off, none⟩ ∧ b < w.heap.size ∧ ∀ (i : Nat) (h : i < rs.length), w.cell? ⟨b, off + i * 2, none⟩ = some (.int .i64 rs[i].1) ∧ w.cell? ⟨b, off + i * 2 + 1, none⟩ = some (.int .i64 rs[i].2))
theorem RodsR.below {w w' : World} {v : Value} {rs : List (Int × Int)} (h : RodsR w v rs) {B : Nat} (hb : Below B w w') (hB : w.heap.size ≤ B) : RodsR w' v rs := by
  obtain ⟨a, cap, h1, h2, h3⟩ := h
  refine ⟨a, cap, h1, h2, fun hx => ?_⟩
  obtain ⟨b, off, g1, g2, g3⟩ := h3 hx
  exact ⟨b, off, g1, Nat.lt_of_lt_of_le g2 hb.size, fun i hi => ⟨(hb.cell (p := ⟨b, off + i * 2, none⟩) (Nat.lt_of_lt_of_le g2 hB)).trans (g3 i hi).1, (hb.cell (p := ⟨b, off + i * 2 + 1, none⟩) (Nat.lt_of_lt_of_le g2 hB)).trans (g3 i hi).2⟩⟩

set_option maxRecDepth 100000 in
set_option maxHeartbeats 800000 in
theorem eqIntA2S_yes (v1 v2 : Value) (rs : List (Int × Int)) (w : World) (h1 : RodsR w v1 rs) (h2 : RodsR w v2 rs) :
    Calls Try.prog 50 #[v1, v2] w fun e w' => e = .returned (.bool true) ∧ Below w.heap.size w w' := by
  obtain ⟨a1, c1, rfl, ⟨m1, _⟩, r1⟩ := h1
  obtain ⟨a2, c2, rfl, _, r2⟩ := h2
  have R1 := Lib.hid r1
  have R2 := Lib.hid r2
  unfold maxLen at m1
  clear r1 r2
  go_enter Try.func50, Try.ntmps50
  go_wp2_with fail
  go_loopw [5] (fun i wr => ∃ k : Nat, k ≤ rs.length ∧ i = .int .i64 k ∧ Below w.heap.size w wr) (fun i _ => rs.length - (intOf i).toNat)
  case atStart => exact ⟨0, Nat.zero_le _, rfl, Below.refl _ _⟩
  case round =>
    obtain ⟨k, hk, rfl, hb⟩ := hrel
    by_cases hlt : k < rs.length
    · obtain ⟨b1, o1, rfl, l1, k1⟩ := R1.out (by intro e; subst e; simp at hlt)
      obtain ⟨b2, o2, rfl, l2, k2⟩ := R2.out (by intro e; subst e; simp at hlt)
      have p1 := (hb.cell (p := ⟨b1, o1 + k * 2, none⟩) l1).trans (k1 k hlt).1
      have p2 := (hb.cell (p := ⟨b1, o1 + k * 2 + 1, none⟩) l1).trans (k1 k hlt).2
      have q1 := (hb.cell (p := ⟨b2, o2 + k * 2, none⟩) l2).trans (k2 k hlt).1
      have q2 := (hb.cell (p := ⟨b2, o2 + k * 2 + 1, none⟩) l2).trans (k2 k hlt).2
      clear k1 k2
      have z1 : (0 : Int) ≤ (k : Int) := by omega
      have z2 : (k : Int) < (rs.length : Int) := by omega
      go_wp2_with fail
      go_still_tail 8, (by kernel_rfl)
      change wpList _ _ _ _ _ wr.drew
      have hb2 := hb.drew
      generalize wr.drew = w2 at hb2 ⊢
      clear p1 p2 q1 q2 hb
      go_wp2_with fail
      refine (eqIntA2_yes rs[k].1 rs[k].2 _).mono ?_
      rintro e w3 ⟨rfl, hb3⟩
      go_wp2_with fail
      go_roundw
      case rel => exact ⟨k + 1, by omega, by go_num, hb2.trans (hb3.mono hb2.size)⟩
      case measure => simp [intOf]; omega
    · go_wp2_with fail
      go_ret
      exact ⟨rfl, hb⟩

/-- The cells of rods, one behind the other. -/
def flat : List (Int × Int) → List Value
  | [] => []
  | r :: t => .int .i64 r.1 :: .int .i64 r.2 :: flat t
theorem flat_len : ∀ rs : List (Int × Int), (flat rs).length = rs.length * 2
  | [] => rfl
  | _ :: t => by simp [flat, flat_len t]; omega
theorem flat_at : ∀ (rs : List (Int × Int)) (i : Nat) (h : i < rs.length), (flat rs)[i * 2]? = some (.int .i64 rs[i].1) ∧ (flat rs)[i * 2 + 1]? = some (.int .i64 rs[i].2)
  | r :: t, 0, _ => ⟨rfl, rfl⟩
  | r :: t, i + 1, h => by
    have := flat_at t i (by simpa using h)
    rw [show (i + 1) * 2 = i * 2 + 2 by omega]
    simpa [flat] using this
theorem RodsR.of_own {w : World} {B : Nat} {e : TypeId} {v : Value} {rs : List (Int × Int)} (h : w.ownsRow B e 2 v rs.length (flat rs)) : RodsR w v rs := by
  have h' := h
  rcases h.2 with ⟨rfl, h0⟩ | ⟨g, cap, cur, rfl, hb, hg, hn, hc, hsz, ht⟩
  · exact ⟨none, 0, by rw [h0], by rw [h0]; exact ⟨Nat.zero_le _, Nat.le_refl _⟩, fun hx => absurd (List.length_eq_zero_iff.1 h0) hx⟩
  · refine ⟨_, cap, rfl, ⟨Nat.le_trans hn hc, hn⟩, fun _ => ⟨g, 0, rfl, (h'.lt g rfl).2, fun i hi => ?_⟩⟩
    obtain ⟨f1, f2⟩ := flat_at rs i hi
    have q1 := h'.cells (g := g) rfl _ _ f1
    have q2 := h'.cells (g := g) rfl _ _ f2
    rw [add_off] at q1 q2
    exact ⟨q1, by rw [Nat.add_assoc]; exact q2⟩

theorem Try.infoRod : (Try.prog.info? 47).map (fun i => (i.zero, i.size, i.bytes)) = some (some (.agg #[.int .i64 0, .int .i64 0]), 2, 16) := by kernel_rfl

end Go.Proofs.Ytlfplnbmgmookaa

/-! Frm -/
namespace Go.Proofs.Ytlfplnbmgmookaa
set_option linter.unusedVariables false
open Go.RowKit

/-- A frame as a value: its rods are a slice. -/
def frV (up lo : Int) (sv : Value) : Value := .agg #[.int .i64 up, .int .i64 lo, sv]

end Go.Proofs.Ytlfplnbmgmookaa

/-! Rat -/
namespace Go.Proofs.Ytlfplnbmgmookaa
set_option linter.unusedVariables false
open Go.RowKit

theorem cell2 {w : World} {b : Nat} {x y : Value} {T : TypeId} (h : w.heap[b]? = some (.cells #[x, y] T (0, 0))) :
    w.cell? ⟨b, 0, none⟩ = some x ∧ w.cell? ⟨b, 1, none⟩ = some y ∧ w.frozen? ⟨b, 0, none⟩ = false ∧ w.frozen? ⟨b, 1, none⟩ = false := by
  simp [World.cell?, World.frozen?, h]

theorem cell1 {w : World} {b : Nat} {x : Value} {T : TypeId} (h : w.heap[b]? = some (.cells #[x] T (0, 0))) : w.cell? ⟨b, 0, none⟩ = some x ∧ w.frozen? ⟨b, 0, none⟩ = false := by
  simp [World.cell?, World.frozen?, h]
theorem rods_at {w : World} {a : Option Addr} {c : Nat} {rs : List (Int × Int)} (h : RodsR w (.slice a rs.length c) rs) : ∀ w' : World, Below w.heap.size w w' → ∀ k, (hk : k < rs.length) → ∃ b o, a = some ⟨b, o, none⟩ ∧ w'.cell? ⟨b, o + k * 2, none⟩ = some (.int .i64 rs[k].1) ∧ w'.cell? ⟨b, o + k * 2 + 1, none⟩ = some (.int .i64 rs[k].2) := by
  intro w' hb k hk
  obtain ⟨a', c', e, _, h3⟩ := h
  obtain ⟨b, off, ha, hlt, hc⟩ := h3 (by intro e; subst e; simp at hk)
  have : a = a' := by injection e
  subst this
  exact ⟨b, off, ha, (hb.cell (p := ⟨b, off + k * 2, none⟩) hlt).trans (hc k hk).1, (hb.cell (p := ⟨b, off + k * 2 + 1, none⟩) hlt).trans (hc k hk).2⟩
/-- The first place of a list where P is false, or its length. -/
theorem first_bad (n : Nat) (P : (i : Nat) → i < n → Prop) : ∃ p, p ≤ n ∧ (∀ i (h : i < n), i < p → P i h) ∧ ∀ h : p < n, ¬ P p h := by
  by_cases hex : ∃ k, k < n ∧ ∃ hk : k < n, ¬ P k hk
  · obtain ⟨p, hp, ⟨hk, hb⟩, hpre⟩ := first_idx n (fun k => ∃ hk : k < n, ¬ P k hk) hex
    exact ⟨p, Nat.le_of_lt hp, fun i h hi => Classical.byContradiction fun hc => hpre i hi ⟨h, hc⟩, fun _ => hb⟩
  · exact ⟨n, Nat.le_refl _, fun i h _ => Classical.byContradiction fun hc => hex ⟨i, h, h, hc⟩, fun h => absurd h (Nat.lt_irrefl _)⟩

theorem flat_of (xs : List Value) (rs : List (Int × Int)) (hl : xs.length = rs.length * 2) (h : ∀ j (h : j < rs.length), xs[j * 2]? = some (.int .i64 rs[j].1) ∧ xs[j * 2 + 1]? = some (.int .i64 rs[j].2)) : xs = flat rs := by
  apply List.ext_getElem?
  intro j
  by_cases hj : j < rs.length * 2
  · have hp := h (j / 2) (by omega)
    have hf := flat_at rs (j / 2) (by omega)
    by_cases hod : j % 2 = 0
    · have e : j / 2 * 2 = j := by omega
      rw [e] at hp hf
      rw [hp.1, hf.1]
    · have e : j / 2 * 2 + 1 = j := by omega
      rw [e] at hp hf
      rw [hp.2, hf.2]
  · rw [List.getElem?_eq_none (by omega), List.getElem?_eq_none (by rw [flat_len]; omega)]

end Go.Proofs.Ytlfplnbmgmookaa

/-! Mk -/
namespace Go.Proofs.Ytlfplnbmgmookaa
set_option linter.unusedVariables false
open Go.RowKit

set_option maxRecDepth 100000 in
set_option maxHeartbeats 1600000 in
theorem markIntA2S_any (v : Value) (n : Nat) (k : Int) (lo hi : Nat) (e : TypeId) (xs : List Value) (w : World) (h : Ow lo hi w e 2 v n xs) (hn : n ≤ 1048576) (hk : 0 ≤ k ∧ k ≤ 4194304) :
    Calls Try.prog 51 #[v, .int .i64 k] w fun en w' => en = .returned (.int .i64 (k + 2 * n)) ∧ Ow lo hi w' e 2 v n (marksV k (n * 2)) ∧ Btw lo hi w w' := by
  obtain ⟨hk0, hk1⟩ := hk
  have h' := h
  rcases h.1.2 with ⟨rfl, h0⟩ | ⟨g, cap, cur, rfl, hb, hg, hnc, hc, hsz, ht⟩
  · subst h0
    go_enter Try.func51, Try.ntmps51
    go_wp2_with fail
    go_loopw [5, 1] (fun i kk wr => i = .int .i64 0 ∧ kk = .int .i64 k ∧ wr = w) (fun i _ _ => 0)
    case atStart => exact ⟨rfl, rfl, rfl⟩
    case round =>
      obtain ⟨rfl, rfl, rfl⟩ := hrel
      go_wp2_with fail
      go_ret
      have e0 : xs = [] := List.length_eq_zero_iff.1 (by simpa using h'.1.1)
      subst e0
      exact ⟨by simp, h', Btw.refl _ _ _⟩
  · have HO := Lib.hid h'
    have HX := Lib.hid h'.1.1
    have HG : Hid (lo ≤ g ∧ g < hi) := Lib.hid ⟨hb, h'.2 g rfl⟩
    clear h h' hb hg hnc hc hsz ht
    go_enter Try.func51, Try.ntmps51
    go_wp2_with fail
    go_loopw [5, 1] (fun i kk wr => ∃ (m : Nat) (ys : List Value), m ≤ n ∧ i = .int .i64 m ∧ kk = .int .i64 (k + 2 * (m : Int)) ∧ ys.length = n * 2 ∧ (∀ j, j < 2 * m → ys[j]? = some (.int .i64 (k + (j : Int)))) ∧ Ow lo hi wr e 2 (.slice (some ⟨g, 0, none⟩) n cap) n ys ∧ Btw lo hi w wr) (fun i _ _ => n - (intOf i).toNat)
    case atStart => exact ⟨0, xs, Nat.zero_le _, rfl, by simp, HX.out, fun j hj => absurd hj (by omega), HO.out, Btw.refl _ _ _⟩
    case round =>
      obtain ⟨m, ys, hm, rfl, rfl, hyl, hpre, how, hbt⟩ := hrel
      have HW := Lib.hid how
      have HB := Lib.hid hbt
      have HP := Lib.hid hpre
      have HL := Lib.hid hyl
      by_cases hlt : m < n
      · obtain ⟨u0, c0⟩ : ∃ u, wr.cell? ⟨g, m * 2, none⟩ = some u := ⟨_, (how.1.cellAt (m * 2) (by omega)).trans (List.getElem?_eq_getElem (by omega))⟩
        obtain ⟨u1, c1⟩ : ∃ u, wr.cell? ⟨g, m * 2 + 1, none⟩ = some u := ⟨_, (how.1.cellAt (m * 2 + 1) (by omega)).trans (List.getElem?_eq_getElem (by omega))⟩
        have f0 : wr.frozen? ⟨g, m * 2, none⟩ = false := how.1.frozenAt _
        have f1 : wr.frozen? ⟨g, m * 2 + 1, none⟩ = false := how.1.frozenAt _
        clear how hbt hpre hyl
        go_wp2_with fail
        refine wp_loop_rounds 3 ?_
        rw [rounds_succ]
        go_wp2_with fail
        rw [rounds_succ]
        go_wp2_with fail
        rw [rounds_succ]
        go_wp2_with fail
        refine ⟨⟨m + 1, (ys.set (m * 2) (.int .i64 (k + 2 * m))).set (m * 2 + 1) (.int .i64 (k + 2 * m + 1)), by omega, by simp, by congr 1; omega, by rw [List.length_set, List.length_set]; exact HL.out, fun j hj => ?_, (HW.out.stored _ _).stored _ _, (HB.out.setCell HG.out.1 HG.out.2 _).setCell HG.out.1 HG.out.2 _⟩, by simp [intOf]; omega⟩
        have hl := HL.out
        by_cases e1 : j = m * 2 + 1
        · subst e1
          rw [List.getElem?_set_self (by rw [List.length_set]; omega)]
          congr 2; omega
        · by_cases e0 : j = m * 2
          · subst e0
            rw [List.getElem?_set_ne (by omega), List.getElem?_set_self (by omega)]
            congr 2; omega
          · rw [List.getElem?_set_ne (by omega), List.getElem?_set_ne (by omega)]
            exact HP.out j (by omega)
      · have hmn : m = n := by omega
        subst hmn
        have hz := marksV_eq k (m * 2) ys hyl (fun j hj => hpre j (by omega))
        clear how hbt hpre hyl
        go_wp2_with fail
        go_ret
        exact ⟨rfl, hz ▸ HW.out, HB.out⟩

set_option maxRecDepth 100000 in
set_option maxHeartbeats 1600000 in
theorem heldIntA2S_any (v : Value) (n : Nat) (k : Int) (w : World) (h : RowR w v 2 n (marksV k (n * 2))) (hn : n ≤ 1048576) (hk : 0 ≤ k ∧ k ≤ 4194304) :
    Calls Try.prog 52 #[v, .int .i64 k] w fun en w' => en = .returned (.int .i64 (k + 2 * n)) ∧ Below w.heap.size w w' := by
  obtain ⟨hk0, hk1⟩ := hk
  obtain ⟨a, cap, rfl, ⟨m1, _⟩, r1⟩ := h
  unfold maxLen at m1
  have HR := Lib.hid r1
  clear r1
  go_enter Try.func52, Try.ntmps52
  go_wp2_with fail
  go_loopw [5, 1] (fun i kk wr => ∃ (m : Nat), m ≤ n ∧ i = .int .i64 m ∧ kk = .int .i64 (k + 2 * (m : Int)) ∧ wr = w) (fun i _ _ => n - (intOf i).toNat)
  case atStart => exact ⟨0, Nat.zero_le _, rfl, by simp, rfl⟩
  case round =>
    obtain ⟨m, hm, rfl, rfl, rfl⟩ := hrel
    by_cases hlt : m < n
    · obtain ⟨b, off, rfl, hb, hc⟩ := HR.out (by omega)
      have c0 : wr.cell? ⟨b, off + m * 2, none⟩ = some (.int .i64 (k + 2 * (m : Int))) := by rw [hc _ (by omega), marksV_at _ _ _ (by omega)]; congr 2; omega
      have c1 : wr.cell? ⟨b, off + m * 2 + 1, none⟩ = some (.int .i64 (k + 2 * (m : Int) + 1)) := by rw [Nat.add_assoc, hc _ (by omega), marksV_at _ _ _ (by omega)]; congr 2; omega
      clear hc
      go_wp2_with fail
      refine wp_loop_rounds 3 ?_
      rw [rounds_succ]
      go_wp2_with fail
      rw [rounds_succ]
      go_wp2_with fail
      rw [rounds_succ]
      go_wp2_with fail
      exact ⟨⟨m + 1, by omega, by simp, by congr 1; omega, trivial⟩, by simp [intOf]; omega⟩
    · have hmn : m = n := by omega
      subst hmn
      go_wp2_with fail
      go_ret
      exact ⟨rfl, Below.refl _ _⟩

end Go.Proofs.Ytlfplnbmgmookaa

/-! Frmo -/
namespace Go.Proofs.Ytlfplnbmgmookaa
set_option linter.unusedVariables false
open Go.RowKit Go.ChangeShapes Go.WideShapes Go.ChangeAt

set_option maxRecDepth 100000 in
theorem rods_open {H : Type} {enc : TypeId × Value → H} {W : World} {sp : Nat → Bool} {held : Bool} {fuel : Nat} {v : Value} {x : DataW H × List MemPlace}
    (h : DataW.trod enc Try.prog W 0 sp held fuel 43 [v] = some x) : ∃ rs, RodsR W v rs := by
  rcases Go.Deep.open_slice Try.underlying43 h with ⟨hcs, _⟩ | ⟨a, len, cap, m, n, D, Pl, hcs, _, hl, hm, hmm, _, hel⟩
  · simp at hcs
    subst hcs
    exact ⟨[], none, 0, rfl, ⟨Nat.zero_le _, Nat.le_refl _⟩, fun h => absurd rfl h⟩
  · simp at hcs
    subst hcs
    have hlm : len ≤ m := by rw [hmm]; split <;> omega
    by_cases h0 : len = 0
    · subst h0
      exact ⟨[], some a, cap, rfl, ⟨Nat.zero_le _, Nat.zero_le _⟩, fun h => absurd rfl h⟩
    have each : ∀ i, i < len → ∃ r : Int × Int, W.cell? ((a.add (i * 2)).add 0) = some (.int .i64 r.1) ∧ W.cell? ((a.add (i * 2)).add 1) = some (.int .i64 r.2) := by
      intro i hi
      obtain ⟨cs', h1, h2⟩ := hel i (by omega)
      rw [show Try.prog.cellsOf 47 = 2 by kernel_rfl] at h1
      obtain ⟨_, hlen, hc⟩ := World.cells?_some h1
      obtain ⟨xs, k, rfl, _, _, hxl, hx⟩ := DataW.trod_array Try.underlying47 h2
      rw [show Try.prog.cellsOf 3 = 1 by kernel_rfl] at hx
      have e0 := hx 0 (by decide)
      have e1 := hx 1 (by decide)
      rw [List.getElem?_eq_getElem (by omega)] at e0 e1
      obtain ⟨x, ex, _, _⟩ := DataW.trod_int Try.underlying3 e0
      obtain ⟨y, ey, _, _⟩ := DataW.trod_int Try.underlying3 e1
      obtain ⟨p, q, rfl⟩ : ∃ p q, cs' = [p, q] := by
        match cs', hlen with
        | [p, q], _ => exact ⟨p, q, rfl⟩
      simp at ex ey
      subst ex; subst ey
      exact ⟨(x, y), by rw [hc 0 (by decide)]; rfl, by rw [hc 1 (by decide)]; rfl⟩
    obtain ⟨b, off, spot⟩ := a
    obtain ⟨r0, hr0, _⟩ := each 0 (by omega)
    have hspot : spot = none := by simpa [Addr.add] using World.cell?_spot hr0
    subst hspot
    have hadd : ∀ i j, ((⟨b, off, none⟩ : Addr).add i).add j = ⟨b, off + i + j, none⟩ := fun i j => by cases i <;> cases j <;> simp [Addr.add]
    have hlt := cell_lt hr0
    rw [hadd] at hlt
    obtain ⟨f, hf⟩ := Classical.axiomOfChoice (r := fun (i : Nat) (r : Int × Int) => i < len → W.cell? (((⟨b, off, none⟩ : Addr).add (i * 2)).add 0) = some (.int .i64 r.1) ∧ W.cell? (((⟨b, off, none⟩ : Addr).add (i * 2)).add 1) = some (.int .i64 r.2)) (fun i => by
      by_cases hi : i < len
      · obtain ⟨r, hr⟩ := each i hi; exact ⟨r, fun _ => hr⟩
      · exact ⟨(0, 0), fun h => absurd h hi⟩)
    refine ⟨(List.range len).map f, some ⟨b, off, none⟩, cap, by simp, by simp; exact ⟨Nat.le_trans hl hm, hl⟩, fun _ => ⟨b, off, rfl, hlt, fun i hi => ?_⟩⟩
    have hi' : i < len := by simpa using hi
    have hq := hf i hi'
    rw [hadd, hadd, Nat.add_zero] at hq
    simpa using hq

end Go.Proofs.Ytlfplnbmgmookaa
