/- Parts laid as one: For, ForS, IFor. -/
import Derived.Test.YthmbehknacjodaaGood
import Derived.Test.YthmbehknacjodaaKn
import Derived.Test.YthmbehknacjodaaKa
import Derived.Deep.RegionHeld3
import Derived.Deep.AppendLies
import Derived.Deep.RegionLaw
import Derived.Test.YthmbehknacjodaaSf
/-! For -/
namespace Go.Proofs.Ythmbehknacjodaa
set_option linter.unusedVariables false
open Go.RowKit

/-- The standard rod of a digit. -/
def digR (d : Int) : Int × Int := (d / 5, d % 5)
/-- The rods of a number, the greatest digit first. -/
def forR (r : Nat) (n : Int) : List (Int × Int) := (List.range r).map fun i => digR (n / 10 ^ (r - 1 - i) % 10)
theorem forR_len (r : Nat) (n : Int) : (forR r n).length = r := by simp [forR]
theorem forR_at (r : Nat) (n : Int) (i : Nat) (h : i < (forR r n).length) : (forR r n)[i] = digR (n / 10 ^ (r - 1 - i) % 10) := by simp [forR]
theorem digR_bd (d : Int) (h0 : 0 ≤ d) (h1 : d ≤ 9) : (0 ≤ (digR d).1 ∧ (digR d).1 ≤ 1) ∧ (0 ≤ (digR d).2 ∧ (digR d).2 ≤ 4) := by
  unfold digR
  show (0 ≤ d / 5 ∧ d / 5 ≤ 1) ∧ (0 ≤ d % 5 ∧ d % 5 ≤ 4)
  omega
theorem forR_good (up lo : Int) (r : Nat) (n : Int) (h1 : 1 ≤ up ∧ up ≤ 2) (h2 : 4 ≤ lo ∧ lo ≤ 5) (h3 : 1 ≤ r ∧ r ≤ 8) : goodF up lo (forR r n) := by
  refine ⟨fun i h => ?_, h1, h2, by rw [forR_len]; exact h3⟩
  rw [forR_at]
  have := digR_bd (n / 10 ^ (r - 1 - i) % 10) (Int.emod_nonneg _ (by decide)) (by have := Int.emod_lt_of_pos (n / 10 ^ (r - 1 - i)) (show (0 : Int) < 10 by decide); omega)
  exact ⟨⟨this.1.1, by omega⟩, this.2.1, by omega⟩
set_option maxRecDepth 100000 in
set_option maxHeartbeats 800000 in
theorem l2Digit_any (d : Int) (w : World) (h : 0 ≤ d ∧ d ≤ 1000) :
    Calls Try.prog 121 #[.int .i64 d] w fun e w' => e = .returned (.agg #[.int .i64 (d / 5), .int .i64 (d % 5)]) ∧ Below w.heap.size w w' := by
  obtain ⟨h1, h2⟩ := h
  go_enter Try.func121, Try.ntmps121
  go_wp2_with fail
  exact bodyPost_ret (v := .agg #[.int .i64 (d / 5), .int .i64 (d % 5)]) (by simp [results, Try.results121, go_sem]) rfl ⟨rfl, (Below.refl _ _).alloc (Nat.le_refl _) _⟩

theorem flat_snoc (rs : List (Int × Int)) (r : Int × Int) : flat (rs ++ [r]) = flat rs ++ [.int .i64 r.1, .int .i64 r.2] := by
  induction rs with
  | nil => rfl
  | cons x t ih => simp [flat, ih]
theorem forR_snoc (r : Nat) (n : Int) (m : Nat) (h : m < r) : (forR r n).take (m + 1) = (forR r n).take m ++ [digR (n / 10 ^ (r - 1 - m) % 10)] := by
  rw [List.take_succ_eq_append_getElem (by rw [forR_len]; exact h), forR_at]

set_option maxRecDepth 100000 in
set_option maxHeartbeats 6400000 in
theorem l2For_any (up lo : Int) (r : Nat) (n : Int) (w : World) (hr : r ≤ 8) (hn : 0 ≤ n ∧ n ≤ 1000000000) :
    Calls Try.prog 82 #[.int .i64 up, .int .i64 lo, .int .i64 r, .int .i64 n] w fun e w' => (∃ v, e = .returned (.agg #[.int .i64 up, .int .i64 lo, v]) ∧ w'.ownsRow w.heap.size 77 2 v r (flat (forR r n))) ∧ Below w.heap.size w w' := by
  obtain ⟨i0, hi, hz0, hz1, hz2⟩ := info_parts Try.infoRod
  obtain ⟨hn0, hn1⟩ := hn
  go_enter Try.func82, Try.ntmps82
  go_wp2_with fail
  go_loopw [10] (fun i wr => ∃ (m : Nat) (v : Value), m ≤ r ∧ i = .int .i64 ((m : Int) - 1) ∧ wr.heap[w.heap.size]? = some (.cells #[.int .i64 0, .int .i64 0, .slice none 0 0] 42 (0, 0)) ∧ wr.heap[w.heap.size + 1 + 1]? = some (.cells #[.int .i64 up, .int .i64 lo, v] 42 (0, 0)) ∧ wr.ownsRow (w.heap.size + 1) 77 2 v (r - m) (flat ((forR r n).take (r - m))) ∧ v.ownBlock ≠ some (w.heap.size + 1 + 1) ∧ Below w.heap.size w wr) (fun i _ => (intOf i + 1).toNat)
  case atStart =>
    refine ⟨r, _, Nat.le_refl _, rfl, ?_, alloc_at (by simp), ?_, by simp [Value.ownBlock], (((Below.refl _ _).alloc (Nat.le_refl _) _).alloc (by simp) _).alloc (by simp; omega) _⟩
    · rw [alloc_old (by simp; omega), alloc_old (by simp)]; exact alloc_at rfl
    · rw [Nat.sub_self]
      have := World.ownsRow_lit (base := w.heap.size + 1) (e := 77) (size := 2) (w.alloc (.cells #[.int .i64 0, .int .i64 0, .slice none 0 0] 42)) #[] 0 (by simp) (Nat.zero_le _) rfl
      rw [show (w.alloc (.cells #[.int .i64 0, .int .i64 0, .slice none 0 0] 42)).heap.size = w.heap.size + 1 by simp] at this
      exact this.alloc _
  case round =>
    obtain ⟨m, v, hm, rfl, hz, ho, hown, hv, hb⟩ := hrel
    cases m with
    | zero =>
      rw [show ((0 : Nat) : Int) - 1 = -1 by rfl]
      obtain ⟨co0, co1, co2, fo0, fo1, fo2⟩ := cell3 ho
      obtain ⟨cz0, cz1, cz2, fz0, fz1, fz2⟩ := cell3 hz
      have lto := lt_of_block ho
      have HW := Lib.hid hown
      have HB := Lib.hid hb
      obtain ⟨av, cv, rfl⟩ := own_form hown
      clear hz ho hown hv hb
      go_wp2_with fail
      refine bodyPost_ret (v := .agg #[.int .i64 up, .int .i64 lo, .slice av (r - 0) cv]) (by simp [results, Try.results82, go_sem, cz0, cz1, cz2]) rfl ⟨⟨_, rfl, ?_⟩, ?_⟩
      · have := own_mono (ownsRow_setCell_below (ownsRow_setCell_below (ownsRow_setCell_below HW.out (a := ⟨w.heap.size, 0, none⟩) (by simp) (.int .i64 up)) (a := ⟨w.heap.size, 1, none⟩) (by simp) (.int .i64 lo)) (a := ⟨w.heap.size, 2, none⟩) (by simp) (.slice av (r - 0) cv)) (Nat.le_succ _)
        rw [Nat.sub_zero, List.take_of_length_le (by rw [forR_len]; exact Nat.le_refl _)] at this
        exact this
      · exact ((HB.out.setCell (by simp) _).setCell (by simp) _).setCell (by simp) _
    | succ q =>
      rw [show ((q + 1 : Nat) : Int) - 1 = (q : Int) by omega]
      obtain ⟨co0, co1, co2, fo0, fo1, fo2⟩ := cell3 ho
      have lto := lt_of_block ho
      have HZ := Lib.hid hz
      have HO := Lib.hid ho
      have HW := Lib.hid hown
      have HV := Lib.hid hv
      have HB := Lib.hid hb
      obtain ⟨b1, b2⟩ := pow_bd q (by omega)
      have HP : Hid (∀ w, Calls Try.prog 75 #[.int .i64 q] w fun e w' => e = .returned (.int .i64 ((10 : Int) ^ q)) ∧ w' = w) := Lib.hid fun w => l2Power_any q w (by omega)
      have HS := Lib.hid (forR_snoc r n (r - (q + 1)) (by omega))
      rw [show r - 1 - (r - (q + 1)) = q by omega, show r - (q + 1) + 1 = r - q by omega] at HS
      obtain ⟨av, cv, rfl⟩ := own_form hown
      generalize (10 : Int) ^ q = p at b1 b2 HP HS
      have d0 : 0 ≤ n / p := Int.ediv_nonneg hn0 (by omega)
      have d1 : n / p ≤ 1000000000 := Int.le_trans (Int.ediv_le_self _ hn0) hn1
      have pz : ¬ p = 0 := by omega
      have e0 : 0 ≤ n / p % 10 := Int.emod_nonneg _ (by decide)
      have e1 : n / p % 10 ≤ 1000 := by have := Int.emod_lt_of_pos (n / p) (show (0 : Int) < 10 by decide); omega
      have hdd : (IntKind.i64.wrap (n.tdiv p)).tmod 10 = n / p % 10 := by rw [IntWalk.i64_quo n p ⟨hn0, by omega, b1⟩, Int.tmod_eq_emod_of_nonneg d0]
      generalize n / p % 10 = dd at e0 e1 HS hdd
      have hwl : w.heap.size + 1 ≤ wr.heap.size := by omega
      clear hz ho hown hv hb
      go_wp2_with fail
      go_region_law (first
        | (go_simp; go_at_call 75; refine (HP.out _).mono ?_; rintro e w3 ⟨rfl, rfl⟩)
        | (go_simp; (try rw [hdd]); go_at_call 121; refine (l2Digit_any _ _ ⟨by assumption, by assumption⟩).mono ?_; rintro e w4 ⟨rfl, hb4⟩; have h4 : wr.heap.size ≤ w4.heap.size := hb4.size; have l4 : w.heap.size + 1 + 1 < w4.heap.size := (by omega); obtain ⟨z0, z1, z2, _, _, _⟩ := cell3 ((hb4.block _ lto).trans HO.out))
        | (refine step_append_lies _ (by rfl) _ _ _ (by rfl) (w.heap.size + 1) 77 i0 _ 2 16 Try.underlying34 hi hz0 hz1 hz2 rfl (by omega) _ _ _ (by rfl) ((own_below (World.ownsRow.drew HW.out) hb4).alloc _) ⟨w4.heap.size, 0, none⟩ 1 1 [.int .i64 (dd / 5), .int .i64 (dd % 5)] (by rfl) (by rfl) (World.news_of_block (cs := #[.int .i64 (dd / 5), .int .i64 (dd % 5)]) (t := 77) (fr := (0, 0)) (heap_alloc_new w4 _)) (by simp [Value.oneCell']) (by omega) (by unfold maxLen; omega) (by omega) (by simp; omega) (w4.heap.size + 1) (by simp) ?_
           intro gg cap w5 hown5 hgrow hat hlt
           have ho5 := (hgrow.block (w.heap.size + 1 + 1) (by simp; omega) (Ne.symm HV.out)).trans ((alloc_old (by omega)).trans ((hb4.block _ lto).trans HO.out))
           obtain ⟨x0, x1, x2, y0, y1, y2⟩ := cell3 ho5))
      all_goals
        have hne0 : some w.heap.size ≠ (Value.slice av (r - (q + 1)) cv).ownBlock := fun e => absurd (HW.out.lt _ e.symm).1 (by omega)
        have hgg : gg ≠ w.heap.size + 1 + 1 := by
          rcases hat with hat | hat
          · intro e; subst e; exact HV.out hat
          · omega
        have HB4 : Hid (Below w.heap.size w w4) := Lib.hid (HB.out.trans (((Below.refl _ wr).drew.trans hb4).mono HB.out.size))
        have HB5 := Lib.hid ((HB4.out.alloc HB4.out.size _).grown hgrow (by simp; omega) (fun k hk => Nat.le_of_succ_le (HW.out.lt k hk).1))
        have HZ5 := Lib.hid ((hgrow.block w.heap.size (by simp; omega) hne0).trans ((alloc_old (by omega)).trans ((hb4.block _ (by show w.heap.size < wr.heap.size; omega)).trans HZ.out)))
        have HO5 := Lib.hid ho5
        have HW5 := Lib.hid hown5
        have HN5 := Lib.hid hgg
        clear ho5 hown5 hgg hne0 hat hgrow hb4
        go_wp2_with fail
        go_roundw
        case rel =>
          refine ⟨q, .slice (some ⟨gg, 0, none⟩) (r - (q + 1) + 1) cap, by omega, by simp, (Below.heap_setCell _ _ _ _ (by simp; omega)).trans HZ5.out, ?_, ?_, ?_, HB5.out.setCell (by simp; omega) _⟩
          · have := heap_setCell_same _ (w.heap.size + 1 + 1) 2 _ _ (.slice (some ⟨gg, 0, none⟩) (r - (q + 1) + 1) cap) HO5.out
            simpa using this
          · have := own_of_block HW5.out (w' := w5.setCell ⟨w.heap.size + 1 + 1, 2, none⟩ (.slice (some ⟨gg, 0, none⟩) (r - (q + 1) + 1) cap)) (fun g hg => Below.heap_setCell _ _ _ _ (by have := HN5.out; simp [Value.ownBlock] at hg; subst hg; exact this))
            rw [HS.out, flat_snoc, show r - q = r - (q + 1) + 1 by omega]
            exact this
          · have := HN5.out
            simpa [Value.ownBlock] using this
        case measure => simp [intOf]
end Go.Proofs.Ythmbehknacjodaa

/-! ForS -/
namespace Go.Proofs.Ythmbehknacjodaa
set_option linter.unusedVariables false
open Go.RowKit

def okFor (up lo r n : Int) : Prop := (1 ≤ up ∧ up ≤ 2) ∧ (4 ≤ lo ∧ lo ≤ 5) ∧ (1 ≤ r ∧ r ≤ 8) ∧ (0 ≤ n ∧ n ≤ (10 : Int) ^ r.toNat - 1)
theorem rods_nil (w : World) : RodsR w (.slice none 0 0) [] := ⟨none, 0, rfl, ⟨Nat.zero_le _, Nat.le_refl _⟩, fun h => absurd rfl h⟩
theorem own_nil (w : World) (B : Nat) (e : TypeId) (size : Nat) : w.ownsRow B e size (.slice none 0 0) 0 [] := ⟨by simp, .inl ⟨rfl, rfl⟩⟩

end Go.Proofs.Ythmbehknacjodaa

/-! IFor -/
namespace Go.Proofs.Ythmbehknacjodaa
set_option linter.unusedVariables false
open Go.RowKit

theorem ediv_next (n : Int) (k : Nat) : n / 10 ^ k / 10 = n / 10 ^ (k + 1) := by
  rw [Int.ediv_ediv_of_nonneg (by exact Int.pow_nonneg (by decide)), Int.pow_succ]

set_option maxRecDepth 100000 in
set_option maxHeartbeats 6400000 in
theorem implFrameFor_core (up lo : Int) (r : Nat) (n : Int) (w : World) (hr : 1 ≤ r ∧ r ≤ 8) (hn : 0 ≤ n ∧ n ≤ 9223372036854775807) (ok : Bool) (fu fl : Int) (qs : List (Int × Int))
    (hok : (ok = true ∧ fu = up ∧ fl = lo ∧ qs = forR r n ∧ okFor up lo r n) ∨ (ok = false ∧ fu = 0 ∧ fl = 0 ∧ qs = [] ∧ ¬ okFor up lo r n)) :
    Calls Try.prog 80 #[.int .i64 up, .int .i64 lo, .int .i64 r, .int .i64 n] w fun e w' => (∃ v, e = .returned (.tuple #[.agg #[.int .i64 fu, .int .i64 fl, v], .bool ok]) ∧ w'.ownsRow w.heap.size 77 2 v qs.length (flat qs)) ∧ Below w.heap.size w w' := by
  obtain ⟨i0, hi, hz0, hz1, hz2⟩ := info_parts Try.infoRod
  obtain ⟨hn0, hn1⟩ := hn
  obtain ⟨hr0, hr1⟩ := hr
  have HK := Lib.hid hok
  clear hok
  go_enter Try.func80, Try.ntmps80
  go_wp2_with (at_make; refine wpList_make_full _ rfl _ _ 34 rfl (w.heap.size + 1) 77 i0 (.agg #[.int .i64 0, .int .i64 0]) 2 Try.underlying34 hi hz0 hz1 _ _ _ _ r rfl rfl rfl rfl ?b2 ?b3 (by simp) ?_)
  case b2 => rw [hz2]; omega
  case b3 => unfold maxLen; omega
  intro w0 hown0 hgrow0
  have HO0 := Lib.hid hown0
  have HG0 := Lib.hid hgrow0
  clear hown0 hgrow0
  go_wp2_with fail
  have hlt0 : w.heap.size + 1 < w0.heap.size := (HO0.out.lt _ rfl).2
  have HZ1 : Hid ((w0.alloc (.cells #[.int .i64 up, .int .i64 lo, .slice (some ⟨w.heap.size + 1, 0, none⟩) r r] 42)).heap[w.heap.size]? = some (.cells #[.int .i64 0, .int .i64 0, .slice none 0 0] 42 (0, 0))) := Lib.hid (by
    rw [alloc_old (by omega), HG0.out.block w.heap.size (by simp) (by simp)]; exact alloc_at rfl)
  have HF1 : Hid ((w0.alloc (.cells #[.int .i64 up, .int .i64 lo, .slice (some ⟨w.heap.size + 1, 0, none⟩) r r] 42)).heap[w0.heap.size]? = some (.cells #[.int .i64 up, .int .i64 lo, .slice (some ⟨w.heap.size + 1, 0, none⟩) r r] 42 (0, 0))) := Lib.hid (alloc_at rfl)
  have HB1 : Hid (Below w.heap.size w (w0.alloc (.cells #[.int .i64 up, .int .i64 lo, .slice (some ⟨w.heap.size + 1, 0, none⟩) r r] 42))) := Lib.hid ((((Below.refl _ _).alloc (Nat.le_refl _) _).grown HG0.out (by simp) (fun k h => by cases h)).alloc (by omega) _)
  have HO1 := Lib.hid (HO0.out.alloc (.cells #[.int .i64 up, .int .i64 lo, .slice (some ⟨w.heap.size + 1, 0, none⟩) r r] 42))
  generalize w0.alloc (.cells #[.int .i64 up, .int .i64 lo, .slice (some ⟨w.heap.size + 1, 0, none⟩) r r] 42) = w1 at HZ1 HF1 HB1 HO1 ⊢
  go_loopw [11, 3] (fun i x wr => ∃ (m : Nat) (xs : List Value), m ≤ r ∧ i = .int .i64 ((m : Int) - 1) ∧ x = .int .i64 (n / 10 ^ (r - m)) ∧ xs.length = r * 2 ∧ (∀ j (h : j < (forR r n).length), m ≤ j → xs[j * 2]? = some (.int .i64 (forR r n)[j].1) ∧ xs[j * 2 + 1]? = some (.int .i64 (forR r n)[j].2)) ∧ wr.heap[w.heap.size]? = some (.cells #[.int .i64 0, .int .i64 0, .slice none 0 0] 42 (0, 0)) ∧ wr.heap[w0.heap.size]? = some (.cells #[.int .i64 up, .int .i64 lo, .slice (some ⟨w.heap.size + 1, 0, none⟩) r r] 42 (0, 0)) ∧ wr.ownsRow (w.heap.size + 1) 77 2 (.slice (some ⟨w.heap.size + 1, 0, none⟩) r r) r xs ∧ Below w.heap.size w wr) (fun i _ _ => (intOf i + 1).toNat)
  case atStart => exact ⟨r, _, Nat.le_refl _, rfl, by simp, by have := HO1.out.1; omega, fun j h hj => absurd h (by rw [forR_len]; omega), HZ1.out, HF1.out, HO1.out, HB1.out⟩
  case round =>
    obtain ⟨m, xs, hm, rfl, rfl, hxl, hpre, hz, hf, hown, hb⟩ := hrel
    have HZ := Lib.hid hz
    have HF := Lib.hid hf
    have HO := Lib.hid hown
    have HB := Lib.hid hb
    have HP := Lib.hid hpre
    have HX := Lib.hid hxl
    obtain ⟨cf0, cf1, cf2, ff0, ff1, ff2⟩ := cell3 hf
    obtain ⟨cz0, cz1, cz2, fz0, fz1, fz2⟩ := cell3 hz
    have ltf := lt_of_block hf
    cases m with
    | zero =>
      rw [show ((0 : Nat) : Int) - 1 = -1 by rfl]
      have hxs : xs = flat (forR r n) := flat_of xs _ (by rw [forR_len]; exact hxl) (fun j h => hpre j h (Nat.zero_le _))
      have HXS := Lib.hid hxs
      have y0 : 0 ≤ n / 10 ^ (r - 0) := Int.ediv_nonneg hn0 (Int.pow_nonneg (by decide))
      have y1 : n / 10 ^ (r - 0) ≤ 9223372036854775807 := Int.le_trans (Int.ediv_le_self _ hn0) hn1
      have hpp : (0 : Int) < 10 ^ r := Int.pow_pos (by decide)
      have hy : n / 10 ^ (r - 0) = 0 ↔ n ≤ 10 ^ r - 1 := by
        rw [Nat.sub_zero]
        constructor
        · intro h
          have h1 := Int.emod_lt_of_pos n hpp
          have h2 := Int.emod_add_mul_ediv n (10 ^ r)
          rw [h, Int.mul_zero] at h2
          omega
        · intro h
          exact Int.ediv_eq_zero_of_lt hn0 (by omega)
      have HY := Lib.hid hy
      generalize n / 10 ^ (r - 0) = y at y0 y1 HY ⊢
      clear hz hf hown hb hpre hxl hxs hy
      by_cases hy0 : y = 0
      · subst hy0
        have hn9 := HY.out.1 rfl
        have HR : Hid (RodsR wr (.slice (some ⟨w.heap.size + 1, 0, none⟩) r r) (forR r n)) := Lib.hid (by
          have := RodsR.of_own (rs := forR r n) (v := .slice (some ⟨w.heap.size + 1, 0, none⟩) r r) (w := wr) (B := w.heap.size + 1) (e := 77) (by rw [forR_len, ← HXS.out]; exact HO.out)
          exact this)
        go_wp2_with fail
        rcases HK.out with ⟨rfl, rfl, rfl, rfl, hk⟩ | ⟨rfl, rfl, rfl, rfl, hk⟩
        · refine (implIsFrame_yes fu fl _ _ _ HR.out (forR_good fu fl r n hk.1 hk.2.1 ⟨hr0, hr1⟩)).mono ?_
          rintro e w5 ⟨rfl, hb5⟩
          have HZ5 := Lib.hid ((hb5.block _ (lt_of_block HZ.out)).trans HZ.out)
          have HF5 := Lib.hid ((hb5.block _ (lt_of_block HF.out)).trans HF.out)
          have HO5 := Lib.hid (own_below HO.out hb5)
          have HB5 : Hid (Below w.heap.size w w5) := Lib.hid (HB.out.trans (hb5.mono HB.out.size))
          obtain ⟨a0, a1, a2, _, _, _⟩ := cell3 HZ5.out
          obtain ⟨b0, b1, b2, _, _, _⟩ := cell3 HF5.out
          clear hb5 cf0 cf1 cf2 cz0 cz1 cz2
          go_wp2_with fail
          refine bodyPost_ret (v := .tuple #[.agg #[.int .i64 fu, .int .i64 fl, .slice (some ⟨w.heap.size + 1, 0, none⟩) r r], .bool true]) (by simp [results, Try.results80, go_sem, a0, a1, a2]) rfl ⟨⟨_, rfl, ?_⟩, ?_⟩
          · rw [forR_len, ← HXS.out]
            exact own_mono (ownsRow_setCell_below (ownsRow_setCell_below (ownsRow_setCell_below HO5.out (by simp) _) (by simp) _) (by simp) _) (Nat.le_succ _)
          · exact ((HB5.out.setCell (by simp) _).setCell (by simp) _).setCell (by simp) _
        · refine (implIsFrame_no up lo _ _ _ HR.out (fun hg => hk ⟨hg.2.1, hg.2.2.1, ⟨by omega, by omega⟩, by omega, by rw [Int.toNat_natCast]; exact hn9⟩)).mono ?_
          rintro e w5 ⟨rfl, hb5⟩
          have HZ5 := Lib.hid ((hb5.block _ (lt_of_block HZ.out)).trans HZ.out)
          have HB5 : Hid (Below w.heap.size w w5) := Lib.hid (HB.out.trans (hb5.mono HB.out.size))
          obtain ⟨a0, a1, a2, _, _, _⟩ := cell3 HZ5.out
          clear hb5 cf0 cf1 cf2 cz0 cz1 cz2
          go_wp2_with fail
          refine bodyPost_ret (v := .tuple #[.agg #[.int .i64 0, .int .i64 0, .slice none 0 0], .bool false]) (by simp [results, Try.results80, go_sem, a0, a1, a2]) rfl ⟨⟨_, rfl, own_nil _ _ _ _⟩, ?_⟩
          exact ((HB5.out.setCell (by simp) _).setCell (by simp) _).setCell (by simp) _
      · have hy1 : (y != 0) = true := by simpa using hy0
        have hy2 : (y == 0) = false := by simpa using hy0
        rcases HK.out with ⟨rfl, rfl, rfl, rfl, hk⟩ | ⟨rfl, rfl, rfl, rfl, hk⟩
        · exact absurd (HY.out.2 (by have := hk.2.2.2.2; rw [Int.toNat_natCast] at this; exact this)) hy0
        · go_wp2_with fail
          refine bodyPost_ret (v := .tuple #[.agg #[.int .i64 0, .int .i64 0, .slice none 0 0], .bool false]) (by simp [results, Try.results80, go_sem, cz0, cz1, cz2]) rfl ⟨⟨_, rfl, own_nil _ _ _ _⟩, ?_⟩
          exact ((HB.out.setCell (by simp) _).setCell (by simp) _).setCell (by simp) _
    | succ q =>
      rw [show ((q + 1 : Nat) : Int) - 1 = (q : Int) by omega]
      have z1 : (0 : Int) ≤ (q : Int) := by omega
      have z2 : (q : Int) < (r : Int) := by omega
      have x0 : 0 ≤ n / 10 ^ (r - (q + 1)) := Int.ediv_nonneg hn0 (Int.pow_nonneg (by decide))
      have x1 : n / 10 ^ (r - (q + 1)) ≤ 9223372036854775807 := Int.le_trans (Int.ediv_le_self _ hn0) hn1
      have HN : Hid (n / 10 ^ (r - (q + 1)) / 10 = n / 10 ^ (r - q)) := Lib.hid (by rw [ediv_next, show r - (q + 1) + 1 = r - q by omega])
      have HD : Hid (∀ h : q < (forR r n).length, (forR r n)[q] = digR (n / 10 ^ (r - (q + 1)) % 10)) := Lib.hid fun h => by rw [forR_at, show r - 1 - q = r - (q + 1) by omega]
      generalize n / 10 ^ (r - (q + 1)) = x at x0 x1 HN HD ⊢
      have hdd : x.tmod 10 = x % 10 := Int.tmod_eq_emod_of_nonneg x0
      have e0 : 0 ≤ x % 10 := Int.emod_nonneg _ (by decide)
      have e1 : x % 10 ≤ 1000 := by have := Int.emod_lt_of_pos x (show (0 : Int) < 10 by decide); omega
      generalize x % 10 = d at e0 e1 HD hdd
      obtain ⟨u0, c0⟩ : ∃ u, wr.cell? ⟨w.heap.size + 1, q * 2, none⟩ = some u := ⟨_, (hown.cellAt (q * 2) (by omega)).trans (List.getElem?_eq_getElem (by omega))⟩
      obtain ⟨u1, c1⟩ : ∃ u, wr.cell? ⟨w.heap.size + 1, q * 2 + 1, none⟩ = some u := ⟨_, (hown.cellAt (q * 2 + 1) (by omega)).trans (List.getElem?_eq_getElem (by omega))⟩
      have hlr : w.heap.size + 1 < wr.heap.size := (hown.lt _ rfl).2
      clear hz hf hown hb hpre hxl
      go_wp2_with fail
      go_region_law (first
        | (go_simp; (try rw [hdd]); go_at_call 117; refine (standardRod_any _ _ ⟨by assumption, by assumption⟩).mono ?_
           rintro e w4 ⟨rfl, hb4⟩
           have h4 : wr.heap.size ≤ w4.heap.size := hb4.size
           obtain ⟨b0, b1, b2, _, _, _⟩ := cell3 ((hb4.block _ ltf).trans HF.out)
           have d0 := (hb4.cell (p := ⟨w.heap.size + 1, q * 2, none⟩) hlr).trans c0
           have d1 := (hb4.cell (p := ⟨w.heap.size + 1, q * 2 + 1, none⟩) hlr).trans c1
           have g0 := (own_below (World.ownsRow.drew HO.out) hb4).frozenAt (q * 2)
           have g1 := (own_below (World.ownsRow.drew HO.out) hb4).frozenAt (q * 2 + 1)))
      all_goals
        have HB4 : Hid (Below w.heap.size w w4) := Lib.hid (HB.out.trans (((Below.refl _ wr).drew.trans hb4).mono HB.out.size))
        have HZ4 := Lib.hid ((hb4.block _ (by show w.heap.size < wr.heap.size; omega)).trans HZ.out)
        have HF4 := Lib.hid ((hb4.block _ ltf).trans HF.out)
        have HO4 := Lib.hid (own_below (World.ownsRow.drew HO.out) hb4)
        clear hb4
        go_wp2_with fail
        go_roundw
        case rel =>
          refine ⟨q, (xs.set (q * 2) (.int .i64 (d / 5))).set (q * 2 + 1) (.int .i64 (d % 5)), by omega, by simp, by rw [HN.out], by rw [List.length_set, List.length_set]; exact HX.out, fun j h hj => ?_, (Below.heap_setCell _ _ _ _ (by simp)).trans ((Below.heap_setCell _ _ _ _ (by simp)).trans HZ4.out), (Below.heap_setCell _ _ _ _ (by simp; omega)).trans ((Below.heap_setCell _ _ _ _ (by simp; omega)).trans HF4.out), ((HO4.out.stored _ _).1.stored _ _).1, (HB4.out.setCell (by simp) _).setCell (by simp) _⟩
          have hx := HX.out
          by_cases e : j = q
          · subst e
            rw [HD.out h]
            exact ⟨by rw [List.getElem?_set_ne (by omega), List.getElem?_set_self (by omega)]; rfl, by rw [List.getElem?_set_self (by rw [List.length_set]; omega)]; rfl⟩
          · have := HP.out j h (by omega)
            exact ⟨by rw [List.getElem?_set_ne (by omega), List.getElem?_set_ne (by omega)]; exact this.1, by rw [List.getElem?_set_ne (by omega), List.getElem?_set_ne (by omega)]; exact this.2⟩
        case measure => simp [intOf]

set_option maxRecDepth 100000 in
set_option maxHeartbeats 1600000 in
theorem implFrameFor_early (up lo r n : Int) (w : World) (h : r < 1 ∨ 8 < r ∨ n < 0) :
    Calls Try.prog 80 #[.int .i64 up, .int .i64 lo, .int .i64 r, .int .i64 n] w fun e w' => e = .returned (.tuple #[.agg #[.int .i64 0, .int .i64 0, .slice none 0 0], .bool false]) ∧ Below w.heap.size w w' := by
  have HB0 : Hid (Below w.heap.size w w) := Lib.hid (Below.refl _ _)
  by_cases h1 : r < 1
  · clear h
    go_enter Try.func80, Try.ntmps80
    go_wp2_with fail
    exact bodyPost_ret (v := .tuple #[.agg #[.int .i64 0, .int .i64 0, .slice none 0 0], .bool false]) (by simp [results, Try.results80, go_sem]) rfl ⟨rfl, (Below.refl _ _).alloc (Nat.le_refl _) _⟩
  by_cases h2 : 8 < r
  · clear h
    go_enter Try.func80, Try.ntmps80
    go_wp2_with fail
    exact bodyPost_ret (v := .tuple #[.agg #[.int .i64 0, .int .i64 0, .slice none 0 0], .bool false]) (by simp [results, Try.results80, go_sem]) rfl ⟨rfl, (Below.refl _ _).alloc (Nat.le_refl _) _⟩
  have h3 : n < 0 := by omega
  clear h
  go_enter Try.func80, Try.ntmps80
  go_wp2_with fail
  exact bodyPost_ret (v := .tuple #[.agg #[.int .i64 0, .int .i64 0, .slice none 0 0], .bool false]) (by simp [results, Try.results80, go_sem]) rfl ⟨rfl, (Below.refl _ _).alloc (Nat.le_refl _) _⟩

theorem implFrameFor_ok (up lo : Int) (r : Nat) (n : Int) (w : World) (h : okFor up lo r n) :
    Calls Try.prog 80 #[.int .i64 up, .int .i64 lo, .int .i64 r, .int .i64 n] w fun e w' => (∃ v, e = .returned (.tuple #[.agg #[.int .i64 up, .int .i64 lo, v], .bool true]) ∧ w'.ownsRow w.heap.size 77 2 v (forR r n).length (flat (forR r n))) ∧ Below w.heap.size w w' := by
  have h8 := h.2.2.2.2
  have hr := h.2.2.1
  have hp := (pow_bd r (by omega)).2
  rw [Int.toNat_natCast] at h8
  exact implFrameFor_core up lo r n w ⟨by omega, by omega⟩ ⟨h.2.2.2.1, by omega⟩ true up lo (forR r n) (.inl ⟨rfl, rfl, rfl, rfl, h⟩)
theorem implFrameFor_bad (up lo r n : Int) (w : World) (hn : n ≤ 9223372036854775807) (h : ¬ okFor up lo r n) :
    Calls Try.prog 80 #[.int .i64 up, .int .i64 lo, .int .i64 r, .int .i64 n] w fun e w' => (∃ v, e = .returned (.tuple #[.agg #[.int .i64 0, .int .i64 0, v], .bool false]) ∧ w'.ownsRow w.heap.size 77 2 v ([] : List (Int × Int)).length (flat [])) ∧ Below w.heap.size w w' := by
  by_cases h1 : r < 1 ∨ 8 < r ∨ n < 0
  · exact (implFrameFor_early up lo r n w h1).mono fun e w' ⟨he, hb⟩ => ⟨⟨_, he, own_nil _ _ _ _⟩, hb⟩
  · obtain ⟨q, rfl⟩ : ∃ q : Nat, r = (q : Int) := ⟨r.toNat, by omega⟩
    exact implFrameFor_core up lo q n w ⟨by omega, by omega⟩ ⟨by omega, hn⟩ false 0 0 [] (.inr ⟨rfl, rfl, rfl, rfl, h⟩)
end Go.Proofs.Ythmbehknacjodaa
