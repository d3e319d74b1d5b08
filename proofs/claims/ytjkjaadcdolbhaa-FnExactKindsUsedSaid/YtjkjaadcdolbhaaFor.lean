/- The standard frame of a number: its digits; powers of ten, a digit's rod, the model's l2For. -/
import Derived.Test.YtjkjaadcdolbhaaGood
import Derived.Test.YtjkjaadcdolbhaaIFrame
import Derived.Test.YtjkjaadcdolbhaaKa
import Derived.Deep.RegionHeld3
import Derived.Deep.AppendLies
import Derived.Deep.RegionLaw
namespace Go.Proofs.Ytjkjaadcdolbhaa
set_option linter.unusedVariables false
open Go.RowKit

/-- The standard rod of a digit. -/
def digR (d : Int) : Int × Int := (d / 5, d % 5)
/-- The rods of a number, the greatest digit first. -/
def forR (r : Nat) (n : Int) : List (Int × Int) := (List.range r).map fun i => digR (n / 10 ^ (r - 1 - i) % 10)
theorem forR_len (r : Nat) (n : Int) : (forR r n).length = r := by simp [forR]
theorem forR_at (r : Nat) (n : Int) (i : Nat) (h : i < (forR r n).length) : (forR r n)[i] = digR (n / 10 ^ (r - 1 - i) % 10) := by simp [forR]
theorem digR_bd (d : Int) (h0 : 0 ≤ d) (h1 : d ≤ 9) : (0 ≤ (digR d).1 ∧ (digR d).1 ≤ 1) ∧ (0 ≤ (digR d).2 ∧ (digR d).2 ≤ 4) := by
  unfold digR
  show (0 ≤ d / 5 ∧ d / 5 ≤ 1) ∧ (0 ≤ d % 5 ∧ d % 5 ≤ 4)
  omega
theorem forR_good (up lo : Int) (r : Nat) (n : Int) (h1 : 1 ≤ up ∧ up ≤ 2) (h2 : 4 ≤ lo ∧ lo ≤ 5) (h3 : 1 ≤ r ∧ r ≤ 8) : goodF up lo (forR r n) := by
  refine ⟨fun i h => ?_, h1, h2, by rw [forR_len]; exact h3⟩
  rw [forR_at]
  have := digR_bd (n / 10 ^ (r - 1 - i) % 10) (Int.emod_nonneg _ (by decide)) (by have := Int.emod_lt_of_pos (n / 10 ^ (r - 1 - i)) (show (0 : Int) < 10 by decide); omega)
  exact ⟨⟨this.1.1, by omega⟩, this.2.1, by omega⟩
set_option maxRecDepth 100000 in
set_option maxHeartbeats 800000 in
theorem l2Digit_any (d : Int) (w : World) (h : 0 ≤ d ∧ d ≤ 1000) :
    Calls Try.prog 101 #[.int .i64 d] w fun e w' => e = .returned (.agg #[.int .i64 (d / 5), .int .i64 (d % 5)]) ∧ Below w.heap.size w w' := by
  obtain ⟨h1, h2⟩ := h
  go_enter Try.func101, Try.ntmps101
  go_wp2_with fail
  exact bodyPost_ret (v := .agg #[.int .i64 (d / 5), .int .i64 (d % 5)]) (by simp [results, Try.results101, go_sem]) rfl ⟨rfl, (Below.refl _ _).alloc (Nat.le_refl _) _⟩

theorem flat_snoc (rs : List (Int × Int)) (r : Int × Int) : flat (rs ++ [r]) = flat rs ++ [.int .i64 r.1, .int .i64 r.2] := by
  induction rs with
  | nil => rfl
  | cons x t ih => simp [flat, ih]
theorem forR_snoc (r : Nat) (n : Int) (m : Nat) (h : m < r) : (forR r n).take (m + 1) = (forR r n).take m ++ [digR (n / 10 ^ (r - 1 - m) % 10)] := by
  rw [List.take_succ_eq_append_getElem (by rw [forR_len]; exact h), forR_at]

set_option maxRecDepth 100000 in
set_option maxHeartbeats 6400000 in
theorem l2For_any (up lo : Int) (r : Nat) (n : Int) (w : World) (hr : r ≤ 8) (hn : 0 ≤ n ∧ n ≤ 1000000000) :
    Calls Try.prog 80 #[.int .i64 up, .int .i64 lo, .int .i64 r, .int .i64 n] w fun e w' => (∃ v, e = .returned (.agg #[.int .i64 up, .int .i64 lo, v]) ∧ w'.ownsRow w.heap.size 83 2 v r (flat (forR r n))) ∧ Below w.heap.size w w' := by
  obtain ⟨i0, hi, hz0, hz1, hz2⟩ := info_parts Try.infoRod
  obtain ⟨hn0, hn1⟩ := hn
  go_enter Try.func80, Try.ntmps80
  go_wp2_with fail
  go_loopw [10] (fun i wr => ∃ (m : Nat) (v : Value), m ≤ r ∧ i = .int .i64 ((m : Int) - 1) ∧ wr.heap[w.heap.size]? = some (.cells #[.int .i64 0, .int .i64 0, .slice none 0 0] 26 (0, 0)) ∧ wr.heap[w.heap.size + 1 + 1]? = some (.cells #[.int .i64 up, .int .i64 lo, v] 26 (0, 0)) ∧ wr.ownsRow (w.heap.size + 1) 83 2 v (r - m) (flat ((forR r n).take (r - m))) ∧ v.ownBlock ≠ some (w.heap.size + 1 + 1) ∧ Below w.heap.size w wr) (fun i _ => (intOf i + 1).toNat)
  case atStart =>
    refine ⟨r, _, Nat.le_refl _, rfl, ?_, alloc_at (by simp), ?_, by simp [Value.ownBlock], (((Below.refl _ _).alloc (Nat.le_refl _) _).alloc (by simp) _).alloc (by simp; omega) _⟩
    · rw [alloc_old (by simp; omega), alloc_old (by simp)]; exact alloc_at rfl
    · rw [Nat.sub_self]
      have := World.ownsRow_lit (base := w.heap.size + 1) (e := 83) (size := 2) (w.alloc (.cells #[.int .i64 0, .int .i64 0, .slice none 0 0] 26)) #[] 0 (by simp) (Nat.zero_le _) rfl
      rw [show (w.alloc (.cells #[.int .i64 0, .int .i64 0, .slice none 0 0] 26)).heap.size = w.heap.size + 1 by simp] at this
      exact this.alloc _
  case round =>
    obtain ⟨m, v, hm, rfl, hz, ho, hown, hv, hb⟩ := hrel
    cases m with
    | zero =>
      rw [show ((0 : Nat) : Int) - 1 = -1 by rfl]
      obtain ⟨co0, co1, co2, fo0, fo1, fo2⟩ := cell3 ho
      obtain ⟨cz0, cz1, cz2, fz0, fz1, fz2⟩ := cell3 hz
      have lto := lt_of_block ho
      have HW := Lib.hid hown
      have HB := Lib.hid hb
      obtain ⟨av, cv, rfl⟩ := own_form hown
      clear hz ho hown hv hb
      go_wp2_with fail
      refine bodyPost_ret (v := .agg #[.int .i64 up, .int .i64 lo, .slice av (r - 0) cv]) (by simp [results, Try.results80, go_sem, cz0, cz1, cz2]) rfl ⟨⟨_, rfl, ?_⟩, ?_⟩
      · have := own_mono (ownsRow_setCell_below (ownsRow_setCell_below (ownsRow_setCell_below HW.out (a := ⟨w.heap.size, 0, none⟩) (by simp) (.int .i64 up)) (a := ⟨w.heap.size, 1, none⟩) (by simp) (.int .i64 lo)) (a := ⟨w.heap.size, 2, none⟩) (by simp) (.slice av (r - 0) cv)) (Nat.le_succ _)
        rw [Nat.sub_zero, List.take_of_length_le (by rw [forR_len]; exact Nat.le_refl _)] at this
        exact this
      · exact ((HB.out.setCell (by simp) _).setCell (by simp) _).setCell (by simp) _
    | succ q =>
      rw [show ((q + 1 : Nat) : Int) - 1 = (q : Int) by omega]
      obtain ⟨co0, co1, co2, fo0, fo1, fo2⟩ := cell3 ho
      have lto := lt_of_block ho
      have HZ := Lib.hid hz
      have HO := Lib.hid ho
      have HW := Lib.hid hown
      have HV := Lib.hid hv
      have HB := Lib.hid hb
      obtain ⟨b1, b2⟩ := pow_bd q (by omega)
      have HP : Hid (∀ w, Calls Try.prog 109 #[.int .i64 q] w fun e w' => e = .returned (.int .i64 ((10 : Int) ^ q)) ∧ w' = w) := Lib.hid fun w => l2Power_any q w (by omega)
      have HS := Lib.hid (forR_snoc r n (r - (q + 1)) (by omega))
      rw [show r - 1 - (r - (q + 1)) = q by omega, show r - (q + 1) + 1 = r - q by omega] at HS
      obtain ⟨av, cv, rfl⟩ := own_form hown
      generalize (10 : Int) ^ q = p at b1 b2 HP HS
      have d0 : 0 ≤ n / p := Int.ediv_nonneg hn0 (by omega)
      have d1 : n / p ≤ 1000000000 := Int.le_trans (Int.ediv_le_self _ hn0) hn1
      have pz : ¬ p = 0 := by omega
      have e0 : 0 ≤ n / p % 10 := Int.emod_nonneg _ (by decide)
      have e1 : n / p % 10 ≤ 1000 := by have := Int.emod_lt_of_pos (n / p) (show (0 : Int) < 10 by decide); omega
      have hdd : (IntKind.i64.wrap (n.tdiv p)).tmod 10 = n / p % 10 := by rw [IntWalk.i64_quo n p ⟨hn0, by omega, b1⟩, Int.tmod_eq_emod_of_nonneg d0]
      generalize n / p % 10 = dd at e0 e1 HS hdd
      have hwl : w.heap.size + 1 ≤ wr.heap.size := by omega
      clear hz ho hown hv hb
      go_wp2_with fail
      go_region_law (first
        | (go_simp; go_at_call 109; refine (HP.out _).mono ?_; rintro e w3 ⟨rfl, rfl⟩)
        | (go_simp; (try rw [hdd]); go_at_call 101; refine (l2Digit_any _ _ ⟨by assumption, by assumption⟩).mono ?_; rintro e w4 ⟨rfl, hb4⟩; have h4 : wr.heap.size ≤ w4.heap.size := hb4.size; have l4 : w.heap.size + 1 + 1 < w4.heap.size := (by omega); obtain ⟨z0, z1, z2, _, _, _⟩ := cell3 ((hb4.block _ lto).trans HO.out))
        | (refine step_append_lies _ (by rfl) _ _ _ (by rfl) (w.heap.size + 1) 83 i0 _ 2 16 Try.underlying24 hi hz0 hz1 hz2 rfl (by omega) _ _ _ (by rfl) ((own_below (World.ownsRow.drew HW.out) hb4).alloc _) ⟨w4.heap.size, 0, none⟩ 1 1 [.int .i64 (dd / 5), .int .i64 (dd % 5)] (by rfl) (by rfl) (World.news_of_block (cs := #[.int .i64 (dd / 5), .int .i64 (dd % 5)]) (t := 83) (fr := (0, 0)) (heap_alloc_new w4 _)) (by simp [Value.oneCell']) (by omega) (by unfold maxLen; omega) (by omega) (by simp; omega) (w4.heap.size + 1) (by simp) ?_
           intro gg cap w5 hown5 hgrow hat hlt
           have ho5 := (hgrow.block (w.heap.size + 1 + 1) (by simp; omega) (Ne.symm HV.out)).trans ((alloc_old (by omega)).trans ((hb4.block _ lto).trans HO.out))
           obtain ⟨x0, x1, x2, y0, y1, y2⟩ := cell3 ho5))
      all_goals
        have hne0 : some w.heap.size ≠ (Value.slice av (r - (q + 1)) cv).ownBlock := fun e => absurd (HW.out.lt _ e.symm).1 (by omega)
        have hgg : gg ≠ w.heap.size + 1 + 1 := by
          rcases hat with hat | hat
          · intro e; subst e; exact HV.out hat
          · omega
        have HB4 : Hid (Below w.heap.size w w4) := Lib.hid (HB.out.trans (((Below.refl _ wr).drew.trans hb4).mono HB.out.size))
        have HB5 := Lib.hid ((HB4.out.alloc HB4.out.size _).grown hgrow (by simp; omega) (fun k hk => Nat.le_of_succ_le (HW.out.lt k hk).1))
        have HZ5 := Lib.hid ((hgrow.block w.heap.size (by simp; omega) hne0).trans ((alloc_old (by omega)).trans ((hb4.block _ (by show w.heap.size < wr.heap.size; omega)).trans HZ.out)))
        have HO5 := Lib.hid ho5
        have HW5 := Lib.hid hown5
        have HN5 := Lib.hid hgg
        clear ho5 hown5 hgg hne0 hat hgrow hb4
        go_wp2_with fail
        go_roundw
        case rel =>
          refine ⟨q, .slice (some ⟨gg, 0, none⟩) (r - (q + 1) + 1) cap, by omega, by simp, (Below.heap_setCell _ _ _ _ (by simp; omega)).trans HZ5.out, ?_, ?_, ?_, HB5.out.setCell (by simp; omega) _⟩
          · have := heap_setCell_same _ (w.heap.size + 1 + 1) 2 _ _ (.slice (some ⟨gg, 0, none⟩) (r - (q + 1) + 1) cap) HO5.out
            simpa using this
          · have := own_of_block HW5.out (w' := w5.setCell ⟨w.heap.size + 1 + 1, 2, none⟩ (.slice (some ⟨gg, 0, none⟩) (r - (q + 1) + 1) cap)) (fun g hg => Below.heap_setCell _ _ _ _ (by have := HN5.out; simp [Value.ownBlock] at hg; subst hg; exact this))
            rw [HS.out, flat_snoc, show r - q = r - (q + 1) + 1 by omega]
            exact this
          · have := HN5.out
            simpa [Value.ownBlock] using this
        case measure => simp [intOf]
end Go.Proofs.Ytjkjaadcdolbhaa
