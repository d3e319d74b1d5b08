/- The law's helpers on rods (arrays of two ints): compare and copy one. -/
import Derived.Test.YtpdckmhhmgkaaaaSlr
import Derived.Deep.QuietTactic
import Derived.BigQuiet
import Derived.StillTailTactics
namespace Go.Proofs.Ytpdckmhhmgkaaaa
set_option linter.unusedVariables false
open Go.RowKit

/-- A rod as a value. -/
def rodV (r : Int × Int) : Value := .agg #[.int .i64 r.1, .int .i64 r.2]

set_option maxRecDepth 100000 in
set_option maxHeartbeats 800000 in
theorem eqIntA2_yes (x y : Int) (w : World) :
    Calls Try.prog 84 #[.agg #[.int .i64 x, .int .i64 y], .agg #[.int .i64 x, .int .i64 y]] w fun e w' => e = .returned (.bool true) ∧ Below w.heap.size w w' := by
  go_enter Try.func84, Try.ntmps84
  go_wp2_with fail
  refine wp_loop_rounds 3 ?_
  rw [rounds_succ]
  go_wp2_with fail
  go_quiet (fail)
  go_wp2_with fail
  rw [rounds_succ]
  go_wp2_with fail
  go_quiet (fail)
  go_wp2_with fail
  rw [rounds_succ]
  go_wp2_with fail
  go_ret
  exact ⟨rfl, bl_drewN (((Below.refl _ _).alloc (Nat.le_refl _) _).alloc (by simp) _) _⟩

set_option maxRecDepth 100000 in
set_option maxHeartbeats 800000 in
theorem toIntA2_any (x y : Int) (w : World) :
    Calls Try.prog 81 #[.agg #[.int .i64 x, .int .i64 y]] w fun e w' => e = .returned (.agg #[.int .i64 x, .int .i64 y]) ∧ Below w.heap.size w w' := by
  go_enter Try.func81, Try.ntmps81
  go_wp2_with fail
  refine wp_loop_rounds 3 ?_
  rw [rounds_succ]
  go_wp2_with fail
  rw [rounds_succ]
  go_wp2_with fail
  rw [rounds_succ]
  go_wp2_with fail
  exact bodyPost_ret (v := .agg #[.int .i64 x, .int .i64 y]) (by simp [results, Try.results81, go_sem]) rfl ⟨rfl, (((Below.refl _ _).alloc (Nat.le_refl _) _).alloc (by simp) _).alloc (by simp; omega) _⟩

/-- The slice value v reads as these rods. -/
def RodsR (w : World) (v : Value) (rs : List (Int × Int)) : Prop :=
  ∃ a cap, v = .slice a rs.length cap ∧ (rs.length ≤ maxLen ∧ rs.length ≤ cap) ∧ (rs ≠ [] → ∃ b off, a = some ⟨b, off, none⟩ ∧ b < w.heap.size ∧ ∀ (i : Nat) (h : i < rs.length), w.cell? ⟨b, off + i * 2, none⟩ = some (.int .i64 rs[i].1) ∧ w.cell? ⟨b, off + i * 2 + 1, none⟩ = some (.int .i64 rs[i].2))
theorem RodsR.below {w w' : World} {v : Value} {rs : List (Int × Int)} (h : RodsR w v rs) {B : Nat} (hb : Below B w w') (hB : w.heap.size ≤ B) : RodsR w' v rs := by
  obtain ⟨a, cap, h1, h2, h3⟩ := h
  refine ⟨a, cap, h1, h2, fun hx => ?_⟩
  obtain ⟨b, off, g1, g2, g3⟩ := h3 hx
  exact ⟨b, off, g1, Nat.lt_of_lt_of_le g2 hb.size, fun i hi => ⟨(hb.cell (p := ⟨b, off + i * 2, none⟩) (Nat.lt_of_lt_of_le g2 hB)).trans (g3 i hi).1, (hb.cell (p := ⟨b, off + i * 2 + 1, none⟩) (Nat.lt_of_lt_of_le g2 hB)).trans (g3 i hi).2⟩⟩

set_option maxRecDepth 100000 in
set_option maxHeartbeats 800000 in
theorem eqIntA2S_yes (v1 v2 : Value) (rs : List (Int × Int)) (w : World) (h1 : RodsR w v1 rs) (h2 : RodsR w v2 rs) :
    Calls Try.prog 56 #[v1, v2] w fun e w' => e = .returned (.bool true) ∧ Below w.heap.size w w' := by
  obtain ⟨a1, c1, rfl, ⟨m1, _⟩, r1⟩ := h1
  obtain ⟨a2, c2, rfl, _, r2⟩ := h2
  have R1 := Lib.hid r1
  have R2 := Lib.hid r2
  unfold maxLen at m1
  clear r1 r2
  go_enter Try.func56, Try.ntmps56
  go_wp2_with fail
  go_loopw [5] (fun i wr => ∃ k : Nat, k ≤ rs.length ∧ i = .int .i64 k ∧ Below w.heap.size w wr) (fun i _ => rs.length - (intOf i).toNat)
  case atStart => exact ⟨0, Nat.zero_le _, rfl, Below.refl _ _⟩
  case round =>
    obtain ⟨k, hk, rfl, hb⟩ := hrel
    by_cases hlt : k < rs.length
    · obtain ⟨b1, o1, rfl, l1, k1⟩ := R1.out (by intro e; subst e; simp at hlt)
      obtain ⟨b2, o2, rfl, l2, k2⟩ := R2.out (by intro e; subst e; simp at hlt)
      have p1 := (hb.cell (p := ⟨b1, o1 + k * 2, none⟩) l1).trans (k1 k hlt).1
      have p2 := (hb.cell (p := ⟨b1, o1 + k * 2 + 1, none⟩) l1).trans (k1 k hlt).2
      have q1 := (hb.cell (p := ⟨b2, o2 + k * 2, none⟩) l2).trans (k2 k hlt).1
      have q2 := (hb.cell (p := ⟨b2, o2 + k * 2 + 1, none⟩) l2).trans (k2 k hlt).2
      clear k1 k2
      have z1 : (0 : Int) ≤ (k : Int) := by omega
      have z2 : (k : Int) < (rs.length : Int) := by omega
      go_wp2_with fail
      go_still_tail 8, (by kernel_rfl)
      change wpList _ _ _ _ _ wr.drew
      have hb2 := hb.drew
      generalize wr.drew = w2 at hb2 ⊢
      clear p1 p2 q1 q2 hb
      go_wp2_with fail
      refine (eqIntA2_yes rs[k].1 rs[k].2 _).mono ?_
      rintro e w3 ⟨rfl, hb3⟩
      go_wp2_with fail
      go_roundw
      case rel => exact ⟨k + 1, by omega, by go_num, hb2.trans (hb3.mono hb2.size)⟩
      case measure => simp [intOf]; omega
    · go_wp2_with fail
      go_ret
      exact ⟨rfl, hb⟩

/-- The cells of rods, one behind the other. -/
def flat : List (Int × Int) → List Value
  | [] => []
  | r :: t => .int .i64 r.1 :: .int .i64 r.2 :: flat t
theorem flat_len : ∀ rs : List (Int × Int), (flat rs).length = rs.length * 2
  | [] => rfl
  | _ :: t => by simp [flat, flat_len t]; omega
theorem flat_at : ∀ (rs : List (Int × Int)) (i : Nat) (h : i < rs.length), (flat rs)[i * 2]? = some (.int .i64 rs[i].1) ∧ (flat rs)[i * 2 + 1]? = some (.int .i64 rs[i].2)
  | r :: t, 0, _ => ⟨rfl, rfl⟩
  | r :: t, i + 1, h => by
    have := flat_at t i (by simpa using h)
    rw [show (i + 1) * 2 = i * 2 + 2 by omega]
    simpa [flat] using this
theorem RodsR.of_own {w : World} {B : Nat} {e : TypeId} {v : Value} {rs : List (Int × Int)} (h : w.ownsRow B e 2 v rs.length (flat rs)) : RodsR w v rs := by
  have h' := h
  rcases h.2 with ⟨rfl, h0⟩ | ⟨g, cap, cur, rfl, hb, hg, hn, hc, hsz, ht⟩
  · exact ⟨none, 0, by rw [h0], by rw [h0]; exact ⟨Nat.zero_le _, Nat.le_refl _⟩, fun hx => absurd (List.length_eq_zero_iff.1 h0) hx⟩
  · refine ⟨_, cap, rfl, ⟨Nat.le_trans hn hc, hn⟩, fun _ => ⟨g, 0, rfl, (h'.lt g rfl).2, fun i hi => ?_⟩⟩
    obtain ⟨f1, f2⟩ := flat_at rs i hi
    have q1 := h'.cells (g := g) rfl _ _ f1
    have q2 := h'.cells (g := g) rfl _ _ f2
    rw [add_off] at q1 q2
    exact ⟨q1, by rw [Nat.add_assoc]; exact q2⟩

theorem Try.infoRod : (Try.prog.info? 74).map (fun i => (i.zero, i.size, i.bytes)) = some (some (.agg #[.int .i64 0, .int .i64 0]), 2, 16) := by kernel_rfl

set_option maxRecDepth 100000 in
set_option maxHeartbeats 800000 in
theorem toIntA2S_any (v : Value) (rs : List (Int × Int)) (w : World) (h : RodsR w v rs) (hn : rs.length ≤ 1048576) :
    Calls Try.prog 53 #[v] w fun e w' => (∃ v', e = .returned v' ∧ w'.ownsRow w.heap.size 74 2 v' rs.length (flat rs)) ∧ Below w.heap.size w w' := by
  obtain ⟨i0, hi, hz0, hz1, hz2⟩ := info_parts Try.infoRod
  obtain ⟨a, c, rfl, ⟨m1, _⟩, r1⟩ := h
  have R1 := Lib.hid r1
  clear r1 m1
  go_enter Try.func53, Try.ntmps53
  go_wp2_with (at_make; refine wpList_make_full _ rfl _ _ 22 rfl w.heap.size 74 i0 (.agg #[.int .i64 0, .int .i64 0]) 2 Try.underlying22 hi hz0 hz1 _ _ _ _ rs.length rfl rfl rfl rfl ?b2 ?b3 (Nat.le_refl _) ?_)
  case b2 => rw [hz2]; omega
  case b3 => unfold maxLen; omega
  intro w0 hown0 hgrow0
  have HO0 := Lib.hid hown0
  have HG0 := Lib.hid hgrow0
  clear hown0 hgrow0
  go_wp2
  go_loopw [4] (fun i wr => ∃ (k : Nat) (xs : List Value), k ≤ rs.length ∧ i = .int .i64 k ∧ xs.length = rs.length * 2 ∧ (∀ (j : Nat) (h : j < rs.length), j < k → xs[j * 2]? = some (.int .i64 rs[j].1) ∧ xs[j * 2 + 1]? = some (.int .i64 rs[j].2)) ∧ wr.ownsRow w.heap.size 74 2 (.slice (some ⟨w.heap.size, 0, none⟩) rs.length rs.length) rs.length xs ∧ Below w.heap.size w wr) (fun i _ => rs.length - (intOf i).toNat)
  case atStart => exact ⟨0, _, Nat.zero_le _, rfl, by have := HO0.out.1; omega, fun j _ h => by omega, HO0.out, (Below.refl _ _).grown HG0.out (Nat.le_refl _) (fun k h => by cases h)⟩
  case round =>
    obtain ⟨k, xs, hk, rfl, hxl, hpre, hown, hb⟩ := hrel
    by_cases hlt : k < rs.length
    · obtain ⟨b1, o1, rfl, l1, K1⟩ := R1.out (by intro e; subst e; simp at hlt)
      have q1 : wr.cell? ⟨b1, o1 + k * 2, none⟩ = some (.int .i64 rs[k].1) := (hb.cell (p := ⟨b1, o1 + k * 2, none⟩) l1).trans (K1 k hlt).1
      have q2 : wr.cell? ⟨b1, o1 + k * 2 + 1, none⟩ = some (.int .i64 rs[k].2) := (hb.cell (p := ⟨b1, o1 + k * 2 + 1, none⟩) l1).trans (K1 k hlt).2
      have HO := Lib.hid hown
      have HP := Lib.hid hpre
      have HX := Lib.hid hxl
      clear K1 hown hpre hxl
      go_wp2_with fail
      refine (toIntA2_any rs[k].1 rs[k].2 _).mono ?_
      rintro e w2 ⟨rfl, hb2⟩
      have HO2 := Lib.hid (own_below HO.out hb2)
      have HB2 : Hid (Below w.heap.size w w2) := Lib.hid (hb.trans (hb2.mono hb.size))
      obtain ⟨u0, c0⟩ : ∃ u, w2.cell? ⟨w.heap.size, k * 2, none⟩ = some u := by
        have := HO2.out.cells (g := w.heap.size) rfl (k * 2) _ (List.getElem?_eq_getElem (by have := HX.out; omega))
        rw [add_off, Nat.zero_add] at this
        exact ⟨_, this⟩
      obtain ⟨u1, c1⟩ : ∃ u, w2.cell? ⟨w.heap.size, k * 2 + 1, none⟩ = some u := by
        have := HO2.out.cells (g := w.heap.size) rfl (k * 2 + 1) _ (List.getElem?_eq_getElem (by have := HX.out; omega))
        rw [add_off, Nat.zero_add] at this
        exact ⟨_, this⟩
      have f0 : w2.frozen? ⟨w.heap.size, k * 2, none⟩ = false := HO2.out.frozenAt _
      have f1 : w2.frozen? ⟨w.heap.size, k * 2 + 1, none⟩ = false := HO2.out.frozenAt _
      clear hb2 q1 q2 hb
      go_wp2_with fail
      go_roundw
      case rel =>
        refine ⟨k + 1, (xs.set (k * 2) (.int .i64 rs[k].1)).set (k * 2 + 1) (.int .i64 rs[k].2), by omega, by go_num, by rw [List.length_set, List.length_set]; exact HX.out, fun j h hj => ?_, ((HO2.out.stored (k * 2) _).1.stored (k * 2 + 1) _).1, (HB2.out.setCell (Nat.le_refl _) _).setCell (Nat.le_refl _) _⟩
        have hx := HX.out
        by_cases e : j = k
        · subst e
          exact ⟨by rw [List.getElem?_set_ne (by omega), List.getElem?_set_self (by omega)], by rw [List.getElem?_set_self (by rw [List.length_set]; omega)]⟩
        · have := HP.out j h (by omega)
          exact ⟨by rw [List.getElem?_set_ne (by omega), List.getElem?_set_ne (by omega)]; exact this.1, by rw [List.getElem?_set_ne (by omega), List.getElem?_set_ne (by omega)]; exact this.2⟩
      case measure => simp [intOf]; omega
    · have HO := Lib.hid hown
      have hxs : xs = flat rs := by
        apply List.ext_getElem?
        intro j
        by_cases hj : j < rs.length * 2
        · have hp := hpre (j / 2) (by omega) (by omega)
          have hf := flat_at rs (j / 2) (by omega)
          by_cases hod : j % 2 = 0
          · have e : j / 2 * 2 = j := by omega
            rw [e] at hp hf
            rw [hp.1, hf.1]
          · have e : j / 2 * 2 + 1 = j := by omega
            rw [e] at hp hf
            rw [hp.2, hf.2]
        · rw [List.getElem?_eq_none (by omega), List.getElem?_eq_none (by rw [flat_len]; omega)]
      have HX := Lib.hid hxs
      clear hxs hown hpre hxl
      go_wp2_with fail
      go_ret
      exact ⟨⟨_, rfl, HX.out ▸ HO.out⟩, hb⟩
end Go.Proofs.Ytpdckmhhmgkaaaa
