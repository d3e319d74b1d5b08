/- Parts laid as one: Idg, Irw. -/
import Derived.Test.YthmbehknacjodaaKw
import Derived.Test.YthmbehknacjodaaTrt
import Derived.BigRegion
import Derived.Test.YthmbehknacjodaaPush
/-! Idg -/
namespace Go.Proofs.Ythmbehknacjodaa
set_option linter.unusedVariables false
open Go.RowKit

/-- The list behind k exchanges from both ends. -/
def RevL {α : Type} (ps cs : List α) (k : Nat) : Prop := cs.length = ps.length ∧ ∀ x, x < ps.length → cs[x]? = if x < k ∨ ps.length - k ≤ x then ps[ps.length - 1 - x]? else ps[x]?
theorem revL_zero {α : Type} (ps : List α) : RevL ps ps 0 := ⟨rfl, fun x hx => by rw [if_neg (by omega)]⟩
theorem revL_end {α : Type} {ps cs : List α} {k : Nat} (h : RevL ps cs k) (h1 : ps.length ≤ 2 * k + 1) (h2 : 2 * k ≤ ps.length) : cs = ps.reverse := by
  refine List.ext_getElem? fun x => ?_
  by_cases hx : x < ps.length
  · rw [List.getElem?_reverse hx, h.2 x hx]
    split
    · rfl
    · rw [show ps.length - 1 - x = x by omega]
  · rw [List.getElem?_eq_none (by rw [h.1]; omega), List.getElem?_eq_none (by rw [List.length_reverse]; omega)]
theorem revL_step {α : Type} {ps cs : List α} {k : Nat} (h : RevL ps cs k) (hk : 2 * k + 1 < ps.length) (a b : α) (ha : cs[k]? = some a) (hb : cs[ps.length - 1 - k]? = some b) : RevL ps ((cs.set k b).set (ps.length - 1 - k) a) (k + 1) := by
  have ha' := h.2 k (by omega)
  have hb' := h.2 (ps.length - 1 - k) (by omega)
  rw [if_neg (by omega)] at ha' hb'
  refine ⟨by rw [List.length_set, List.length_set]; exact h.1, fun x hx => ?_⟩
  by_cases e1 : x = ps.length - 1 - k
  · subst e1
    rw [List.getElem?_set_self (by rw [List.length_set, h.1]; omega), if_pos (by omega), show ps.length - 1 - (ps.length - 1 - k) = k by omega, ← ha', ha]
  · rw [List.getElem?_set_ne (fun e => e1 e.symm)]
    by_cases e2 : x = k
    · subst e2
      rw [List.getElem?_set_self (by rw [h.1]; omega), if_pos (by omega), ← hb', hb]
    · rw [List.getElem?_set_ne (fun e => e2 e.symm), h.2 x hx]
      by_cases e3 : x < k ∨ ps.length - k ≤ x
      · rw [if_pos e3, if_pos (by omega)]
      · rw [if_neg e3, if_neg (by omega)]

theorem set1C (cs : List Int) (i : Nat) (hi : i < cs.length) (x : Int) : (flatC inC cs).set i (.int .i64 x) = flatC inC (cs.set i x) := by
  have h1 := flatC_set1 inC_len cs i 0 hi (by omega) (.int .i64 x) x rfl
  rw [Nat.mul_one, Nat.add_zero] at h1
  exact h1
set_option maxRecDepth 100000 in
set_option maxHeartbeats 1600000 in
theorem revI_any (g n cap lo : Nat) (ps : List Int) (w : World) (hl : ps.length = n) (h60 : n ≤ 60) (ho : w.ownsRow lo 3 1 (.slice (some ⟨g, 0, none⟩) n cap) n (flatC inC ps)) :
    Calls Try.prog 139 #[.slice (some ⟨g, 0, none⟩) n cap] w fun e w' => e = .returned (.tuple #[]) ∧ w'.ownsRow lo 3 1 (.slice (some ⟨g, 0, none⟩) n cap) n (flatC inC ps.reverse) ∧ Btw g (g + 1) w w' := by
  have HL := Lib.hid hl
  have HO := Lib.hid ho
  clear hl ho
  go_enter Try.func139, Try.ntmps139
  go_wp2_with fail
  go_loopw [2, 3] (fun i j wr => ∃ (k : Nat) (cs : List Int), i = .int .i64 k ∧ j = .int .i64 ((n : Int) - 1 - k) ∧ 2 * k ≤ n ∧ Hid (RevL ps cs k) ∧ wr.ownsRow lo 3 1 (.slice (some ⟨g, 0, none⟩) n cap) n (flatC inC cs) ∧ Btw g (g + 1) w wr) (fun i _ _ => n - (intOf i).toNat)
  case atStart => exact ⟨0, ps, rfl, by simp, by omega, Lib.hid (revL_zero ps), HO.out, Btw.refl _ _ _⟩
  case round =>
    obtain ⟨k, cs, rfl, rfl, hk, HR, hown, hbt⟩ := hrel
    have HW := Lib.hid hown
    have HBT := Lib.hid hbt
    by_cases hlt : 2 * k + 1 < n
    · obtain ⟨j, hj⟩ : ∃ j : Nat, (n : Int) - 1 - k = (j : Int) := ⟨n - 1 - k, by omega⟩
      have hj' : j = n - 1 - k := by omega
      rw [hj]
      have z1 : (k : Int) < (j : Int) := by omega
      have z2 : (0 : Int) ≤ (k : Int) := by omega
      have z3 : (k : Int) < (n : Int) := by omega
      have z4 : (0 : Int) ≤ (j : Int) := by omega
      have z5 : (j : Int) < (n : Int) := by omega
      have hlc : cs.length = n := by rw [HR.out.1]; exact HL.out
      have hc := fun i (hi : i < cs.length) => (hown.cellAt (i * 1 + 0) (by omega)).trans (flatC_at inC_len cs i hi 0 (by omega))
      have hf := hown.frozenAt
      have hkl : k < cs.length := by omega
      have hjl : j < cs.length := by omega
      obtain ⟨a, ha⟩ : ∃ a, cs[k] = a := ⟨_, rfl⟩
      obtain ⟨b, hb⟩ : ∃ b, cs[j] = b := ⟨_, rfl⟩
      have a0 : wr.cell? ⟨g, k, none⟩ = some (.int .i64 a) := by have := hc k hkl; rw [ha, Nat.mul_one, Nat.add_zero] at this; exact this
      have b0 : wr.cell? ⟨g, j, none⟩ = some (.int .i64 b) := by have := hc j hjl; rw [hb, Nat.mul_one, Nat.add_zero] at this; exact this
      have fa0 := hf k
      have fb0 := hf j
      have n0 : ¬ k = j := by omega
      have HA : Hid (cs[k]? = some a) := Lib.hid (by rw [List.getElem?_eq_getElem hkl, ha])
      have HB : Hid (cs[j]? = some b) := Lib.hid (by rw [List.getElem?_eq_getElem hjl, hb])
      have HLC := Lib.hid hlc
      have HJ := Lib.hid hj'
      clear hj hj' hlc hc hf hown hbt ha hb hkl hjl
      go_wp2_with fail
      go_region
      have hglt : g < wr.heap.size := (HW.out.lt _ rfl).2
      have HN : Hid (((wr.setCell ⟨g, k, none⟩ (.int .i64 b)).setCell ⟨g, j, none⟩ (.int .i64 a)).ownsRow lo 3 1 (.slice (some ⟨g, 0, none⟩) n cap) n (flatC inC ((cs.set k b).set j a))) := Lib.hid (by
        have h6 := ((HW.out.stored k (.int .i64 b)).1.stored j (.int .i64 a)).1
        rw [set1C cs k (by rw [HLC.out]; omega) b, set1C (cs.set k b) j (by rw [List.length_set, HLC.out]; omega) a] at h6
        exact h6)
      have HT : Hid (Btw g (g + 1) w ((wr.setCell ⟨g, k, none⟩ (.int .i64 b)).setCell ⟨g, j, none⟩ (.int .i64 a))) := Lib.hid
        ((HBT.out.setCell (Nat.le_refl _) (Nat.lt_succ_self _) _).setCell (Nat.le_refl _) (Nat.lt_succ_self _) _)
      have hsz : ((wr.setCell ⟨g, k, none⟩ (.int .i64 b)).setCell ⟨g, j, none⟩ (.int .i64 a)).heap.size = wr.heap.size := by simp
      generalize (wr.setCell ⟨g, k, none⟩ (.int .i64 b)).setCell ⟨g, j, none⟩ (.int .i64 a) = w3 at HN HT hsz ⊢
      have HRS : Hid (RevL ps ((cs.set k b).set j a) (k + 1)) := Lib.hid (by
        have h1 := HL.out
        have h2 := HJ.out
        have := revL_step HR.out (by omega) a b HA.out (by rw [show ps.length - 1 - k = j by omega]; exact HB.out)
        rwa [show ps.length - 1 - k = j by omega] at this)
      clear a0 b0 fa0 fb0 n0
      have hw1 : IntKind.i64.wrap ((j : Int) - 1) = (j : Int) - 1 := by rw [IntKind.wrap_i64]; omega
      go_wp2_with fail
      go_roundw
      case rel =>
        refine ⟨k + 1, (cs.set k b).set j a, by go_num, ?_, by omega, HRS, World.ownsRow.drew HN.out, Btw.of_below HT.out (Below.refl _ _).drew (by omega)⟩
        have := HJ.out
        rw [show (n : Int) - 1 - ((k + 1 : Nat) : Int) = (j : Int) - 1 by omega]
      case measure => simp [intOf]; omega
    · have hnl : ¬ (k : Int) < (n : Int) - 1 - k := by omega
      have HE : Hid (cs = ps.reverse) := Lib.hid (revL_end HR.out (by rw [HL.out]; omega) (by rw [HL.out]; omega))
      clear hown hbt
      go_wp2_with fail
      go_end0
      exact ⟨rfl, HE.out ▸ HW.out, HBT.out⟩

set_option maxRecDepth 100000 in
set_option maxHeartbeats 400000 in
theorem areF_yes (a b : Int) (w : World) (h : okFs a b) :
    Calls Try.prog 70 #[.int .i64 a, .int .i64 b] w fun e w' => e = .returned (.bool true) ∧ w = w' := by
  obtain ⟨⟨h1, h2⟩, h3, h4⟩ := h
  go_enter Try.func70, Try.ntmps70
  go_wp2
  go_ret
  exact ⟨rfl, rfl⟩
set_option maxRecDepth 100000 in
set_option maxHeartbeats 400000 in
theorem areF_no (a b : Int) (w : World) (h : ¬ okFs a b) :
    Calls Try.prog 70 #[.int .i64 a, .int .i64 b] w fun e w' => e = .returned (.bool false) ∧ w = w' := by
  by_cases h1 : 0 ≤ a
  · by_cases h2 : a ≤ 9999
    · by_cases h3 : 0 ≤ b
      · have h4 : ¬ b ≤ 9999 := fun h4 => h ⟨⟨h1, h2⟩, h3, h4⟩
        clear h
        go_enter Try.func70, Try.ntmps70
        go_wp2
        go_ret
        exact ⟨rfl, rfl⟩
      · clear h
        go_enter Try.func70, Try.ntmps70
        go_wp2
        go_ret
        exact ⟨rfl, rfl⟩
    · clear h
      go_enter Try.func70, Try.ntmps70
      go_wp2
      go_ret
      exact ⟨rfl, rfl⟩
  · clear h
    go_enter Try.func70, Try.ntmps70
    go_wp2
    go_ret
    exact ⟨rfl, rfl⟩
set_option maxRecDepth 100000 in
set_option maxHeartbeats 1600000 in
/-- The digits to a base, from the left. -/
theorem digitsIn_any (b n : Nat) (w : World) (hb2 : 2 ≤ b) (hn : n < 4000000000000000000) (hl : (dgB b n).length ≤ 60) :
    Calls Try.prog 131 #[.int .i64 (n : Int), .int .i64 (b : Int)] w fun e w' => (∃ sq, e = .returned sq ∧ w'.ownsRow w.heap.size 3 1 sq (dgB b n).length (flatC inC (dgB b n))) ∧ Below w.heap.size w w' := by
  obtain ⟨i0, hi, hz0, hz1, hz2⟩ := info_parts Try.infoI9
  have HL := Lib.hid hl
  have HF : Hid (∀ m, m ≤ n → IntKind.i64.wrap ((m : Int).tdiv (b : Int)) = ((m / b : Nat) : Int) ∧ IntKind.i64.wrap ((m : Int) / (b : Int)) = ((m / b : Nat) : Int) ∧ (m : Int).tmod (b : Int) = ((m % b : Nat) : Int) ∧ (m : Int) % (b : Int) = ((m % b : Nat) : Int)) := Lib.hid (fun m hm => by
    have h1 := Nat.div_le_self m b
    have h2 : (m : Int) / (b : Int) = ((m / b : Nat) : Int) := (Int.natCast_ediv m b).symm
    have h3 : (m : Int) % (b : Int) = ((m % b : Nat) : Int) := (Int.natCast_emod m b).symm
    refine ⟨?_, ?_, by rw [Int.tmod_eq_emod_of_nonneg (by omega), h3], h3⟩
    · rw [Int.tdiv_eq_ediv_of_nonneg (by omega), h2, IntKind.wrap_i64]; generalize m / b = q at h1 ⊢; omega
    · rw [h2, IntKind.wrap_i64]; generalize m / b = q at h1 ⊢; omega)
  have HB2 := Lib.hid hb2
  have z3 : ((b : Int) == 0) = false := beq_eq_false_iff_ne.2 (by omega)
  have z4 : (b : Int) ≠ 0 := by omega
  obtain ⟨D, hD⟩ : ∃ D : Int, (b : Int) = D := ⟨_, rfl⟩
  rw [hD] at z3 z4 HF ⊢
  clear hl hn hb2 hD
  go_enter Try.func131, Try.ntmps131
  go_wp2_with fail
  go_loopw [0, 5] (fun mv ov wr => ∃ (m g c : Nat) (ys : List Int), m ≤ n ∧ mv = .int .i64 (m : Int) ∧ ov = .slice (some ⟨g, 0, none⟩) ys.length c ∧ Hid (dgB b n = dgB b m ++ ys.reverse) ∧ OutA w.heap.size 0 0 wr 3 1 g ys.length c (flatC inC ys) ∧ Below w.heap.size w wr) (fun mv _ _ => (intOf mv).toNat)
  case atStart => exact ⟨n, w.heap.size, 0, [], Nat.le_refl _, rfl, rfl, Lib.hid (by simp), outA_made w _ 1 (Nat.le_refl _) (Nat.zero_le _), (Below.refl _ _).alloc (Nat.le_refl _) _⟩
  case round =>
    obtain ⟨m, g, c, ys, hm, rfl, rfl, HY, hO, hb⟩ := hrel
    have HO := Lib.hid hO
    have HB := Lib.hid hb
    have hyl : ys.length ≤ 60 := by have h1 := HL.out; rw [HY.out, List.length_append, List.length_reverse] at h1; omega
    by_cases hlt : 0 < m
    · obtain ⟨f1, f2, f3, f4⟩ := HF.out m hm
      have hlq : m / b < m := Nat.div_lt_self hlt HB2.out
      have HY2 : Hid (dgB b n = dgB b (m / b) ++ (ys ++ [((m % b : Nat) : Int)]).reverse) := Lib.hid (by rw [HY.out, dgB_pos HB2.out hlt, List.append_assoc, List.singleton_append, List.reverse_append]; rfl)
      obtain ⟨x, hx⟩ : ∃ x : Int, ((m % b : Nat) : Int) = x := ⟨_, rfl⟩
      obtain ⟨q, hq⟩ : ∃ q : Nat, m / b = q := ⟨_, rfl⟩
      rw [hx] at f3 f4 HY2
      rw [hq] at f1 f2 HY2 hlq
      have HMB := Lib.hid (show q ≤ n ∧ q < m from ⟨by omega, hlq⟩)
      obtain ⟨M, hM⟩ : ∃ M : Int, (m : Int) = M := ⟨_, rfl⟩
      have z1 : 0 < M := by omega
      have HMM := Lib.hid hM
      rw [hM] at f1 f2 f3 f4
      rw [hM]
      clear hO hb hx hq hlq hlt hm hM
      go_wp2_with (at_builtin; refine wpList_push (wr := wr) rfl _ _ 26 rfl w.heap.size 0 0 w 3 i0 (.int .i64 0) 1 8 Try.underlying26 hi hz0 hz1 hz2 rfl (by decide) g ys.length c (flatC inC ys) [.int .i64 x] rfl rfl rfl ?c1 ?c2 (by decide) HO.out HB.out ?_)
      case c1 => first | rfl | exact ⟨rfl, rfl⟩ | exact ⟨rfl, rfl, rfl⟩ | (intro u hu; simp only [List.mem_cons, List.not_mem_nil, or_false] at hu; subst hu; rfl)
      case c2 => omega
      intro g3 c3 w3 hO3 hB3 hK3
      have HO3 : Hid (OutA w.heap.size 0 0 w3 3 1 g3 (ys ++ [x]).length c3 (flatC inC (ys ++ [x]))) := Lib.hid (by rw [List.length_append, flatC_app]; exact hO3)
      have hlen : ys.length + 1 = (ys ++ [x]).length := by rw [List.length_append]; rfl
      rw [hlen]
      have HB3 := Lib.hid hB3
      clear hO3 hB3 hK3 hlen
      generalize ys ++ [x] = ys2 at HO3 HY2 ⊢
      go_wp2_with fail
      go_roundw
      case rel => exact ⟨q, g3, c3, ys2, HMB.out.1, rfl, rfl, HY2, HO3.out, HB3.out⟩
      case measure => have := HMM.out; have := HMB.out.2; simp [intOf]; omega
    · obtain rfl : m = 0 := by omega
      have HY2 : Hid (ys.reverse = dgB b n) := Lib.hid (by rw [HY.out, dgB_zero, List.nil_append])
      have HG : Hid (w.heap.size ≤ g) := Lib.hid hO.lt.1
      clear hO hb
      go_wp2_with fail
      refine (revI_any g ys.length c w.heap.size ys wr rfl (by omega) HO.out.own).mono ?_
      rintro e w2 ⟨rfl, ho2, hb2⟩
      have HO2 := Lib.hid ho2
      have HB2 : Hid (Below w.heap.size w w2) := Lib.hid (HB.out.trans (hb2.below.mono HG.out))
      clear ho2 hb2
      go_wp2_with fail
      go_ret
      refine ⟨⟨_, rfl, ?_⟩, HB2.out⟩
      have h1 := HO2.out
      rw [HY2.out] at h1
      rw [← HY2.out, List.length_reverse, HY2.out]
      exact h1
set_option maxRecDepth 100000 in
set_option maxHeartbeats 800000 in
/-- The digits, from the left. -/
theorem digitsOf_any (n : Nat) (w : World) (h : n < 1000000000) :
    Calls Try.prog 103 #[.int .i64 (n : Int)] w fun e w' => (∃ sq, e = .returned sq ∧ w'.ownsRow w.heap.size 3 1 sq (dgL n).length (flatC inC (dgL n))) ∧ Below w.heap.size w w' := by
  have HC := Lib.hid (fun w => digitsIn_any 10 n w (by omega) (by omega) (by rw [dgB_ten]; have := dgL_len 9 n h; omega))
  rw [dgB_ten] at HC
  go_enter Try.func103, Try.ntmps103
  go_wp2_with fail
  refine (HC.out w).mono ?_
  rintro e w2 ⟨⟨sq, rfl, ho⟩, hb2⟩
  have HO := Lib.hid ho
  have HB := Lib.hid hb2
  clear ho hb2
  go_wp2_with fail
  go_ret
  exact ⟨⟨_, rfl, HO.out⟩, HB.out⟩
end Go.Proofs.Ythmbehknacjodaa

/-! Irw -/
namespace Go.Proofs.Ythmbehknacjodaa
set_option linter.unusedVariables false
open Go.RowKit

def rwL (d : Int) (L : List Int) (k : Nat) : List Int := dpL d (L.take k) ++ L.drop k
theorem rwL_len (d : Int) (L : List Int) (k : Nat) (h : k ≤ L.length) : (rwL d L k).length = L.length := by unfold rwL; rw [List.length_append, dpL_len, List.length_take, List.length_drop]; omega
theorem rwL_at (d : Int) (L : List Int) (k : Nat) (h : k < L.length) : (rwL d L k)[k]? = some L[k] := by
  unfold rwL
  have e : (dpL d (L.take k)).length = k := by rw [dpL_len, List.length_take]; omega
  rw [List.getElem?_append_right (by omega), e, Nat.sub_self, List.drop_eq_getElem_cons h]; rfl
theorem rwL_set (d : Int) (L : List Int) (k : Nat) (h : k < L.length) : (rwL d L k).set k (d * L[k]) = rwL d L (k + 1) := by
  unfold rwL
  have e : (dpL d (L.take k)).length = k := by rw [dpL_len, List.length_take]; omega
  rw [List.set_append_right _ _ (by omega), e, Nat.sub_self, List.drop_eq_getElem_cons h, dpL_snoc d L k h, List.append_assoc]; rfl
theorem rwL_zero (d : Int) (L : List Int) : rwL d L 0 = L := by simp [rwL, dpL]
theorem rwL_end (d : Int) (L : List Int) : rwL d L L.length = dpL d L := by simp [rwL]

set_option maxRecDepth 100000 in
set_option maxHeartbeats 1600000 in
theorem rowOf_any (n : Nat) (d : Int) (w : World) (h : n ≤ 9999) (hd : 0 ≤ d ∧ d ≤ 9) :
    Calls Try.prog 96 #[.int .i64 (n : Int), .int .i64 d] w fun e w' => (∃ sq, e = .returned sq ∧ w'.ownsRow w.heap.size 3 1 sq (dpL d (dgL n)).length (flatC inC (dpL d (dgL n)))) ∧ Below w.heap.size w w' := by
  have hl4 := dgL_len4 n h
  have HDB : Hid (∀ i (h : i < (dgL n).length), 0 ≤ (dgL n)[i] ∧ (dgL n)[i] ≤ 9) := Lib.hid (fun i h => dgL_at n i h)
  have HG := Lib.hid (fun w => digitsOf_any n w (by omega))
  rw [dpL_len]
  generalize dgL n = L at hl4 HDB HG ⊢
  clear h
  go_enter Try.func96, Try.ntmps96
  go_wp2_with fail
  refine (HG.out w).mono ?_
  rintro e w1 ⟨⟨sd, rfl, od⟩, hb1⟩
  obtain ⟨ad, cd, rfl⟩ := own_form od
  have HO0 : Hid (w1.ownsRow w.heap.size 3 1 (.slice ad L.length cd) L.length (flatC inC (rwL d L 0))) := Lib.hid (by rw [rwL_zero]; exact od)
  have HB0 := Lib.hid hb1
  have HZ : Hid (L.length ≤ 9223372036854775807) := Lib.hid (by omega)
  clear od hb1
  go_wp2_with fail
  go_loopw [11] (fun iv wr => ∃ (k : Nat), k ≤ L.length ∧ iv = .int .i64 (k : Int) ∧ wr.ownsRow w.heap.size 3 1 (.slice ad L.length cd) L.length (flatC inC (rwL d L k)) ∧ Below w.heap.size w wr) (fun iv _ => 20 - (intOf iv).toNat)
  case atStart => exact ⟨0, Nat.zero_le _, rfl, HO0.out, HB0.out⟩
  case round =>
    obtain ⟨k, hk, rfl, hO, hb⟩ := hrel
    have HO := Lib.hid hO
    have HB := Lib.hid hb
    by_cases hlt : k < L.length
    · obtain ⟨b, cp, hv⟩ := own_blk hO (by omega)
      injection hv with h1 h2 h3
      subst h1; subst h3
      have hkl : k < (rwL d L k).length := by rw [rwL_len d L k hk]; exact hlt
      have c0 : wr.cell? ⟨b, k, none⟩ = some (.int .i64 L[k]) := by
        have h5 := (hO.cellAt (k * 1 + 0) (by omega)).trans (flatC_at inC_len (rwL d L k) k hkl 0 (by omega))
        rw [Nat.mul_one, Nat.add_zero] at h5
        have h6 := rwL_at d L k hlt
        rw [List.getElem?_eq_getElem hkl] at h6
        injection h6 with h6
        rw [h5, h6]; rfl
      have f0 := hO.frozenAt k
      have hx := HDB.out k hlt
      have hm := dig_mul hd hx
      have z1 : (0 : Int) ≤ (k : Int) := by omega
      have z2 : (k : Int) < (L.length : Int) := by omega
      have hst := rwL_set d L k hlt
      obtain ⟨x, hxe⟩ : ∃ x, L[k] = x := ⟨_, rfl⟩
      rw [hxe] at c0 hst hm
      have hw : IntKind.i64.wrap (x * d) = d * x := by rw [Int.mul_comm, IntKind.wrap_i64]; omega
      have hG := (hO.lt b rfl).1
      have HN : Hid ((wr.setCell ⟨b, k, none⟩ (.int .i64 (d * x))).ownsRow w.heap.size 3 1 (.slice (some ⟨b, 0, none⟩) L.length cd) L.length (flatC inC (rwL d L (k + 1)))) := Lib.hid (by
        have h6 := (hO.stored k (.int .i64 (d * x))).1
        rw [set1C _ k hkl, hst] at h6; exact h6)
      have HBN : Hid (Below w.heap.size w (wr.setCell ⟨b, k, none⟩ (.int .i64 (d * x)))) := Lib.hid (hb.setCell (p := ⟨b, k, none⟩) hG _)
      clear hO hb hx hm hxe hst hkl
      go_wp2_with fail
      go_roundw
      case rel => exact ⟨k + 1, by omega, by go_num, HN.out, HBN.out⟩
      case measure => simp [intOf]; omega
    · obtain rfl : k = L.length := by omega
      clear hO hb
      go_wp2_with fail
      go_ret
      exact ⟨⟨_, rfl, by have h1 := HO.out; rw [rwL_end] at h1; exact h1⟩, HB.out⟩

theorem Try.infoSS9 : (Try.prog.info? 26).map (fun i => (i.zero, i.size, i.bytes)) = some (some (.slice none 0 0), 1, 24) := by kernel_rfl
/-- The rows of two factors. -/
def rwsL (p q : List Int) : List (List Int) := p.map fun x => dpL x q
theorem rwsL_len (p q : List Int) : (rwsL p q).length = p.length := by simp [rwsL]
theorem rwsL_snoc (p q : List Int) (k : Nat) (h : k < p.length) : rwsL (p.take (k + 1)) q = rwsL (p.take k) q ++ [dpL p[k] q] := by unfold rwsL; rw [List.take_add_one, List.getElem?_eq_getElem h, List.map_append]; rfl
set_option maxRecDepth 100000 in
set_option maxHeartbeats 3200000 in
theorem rowsOf_any (a b : Nat) (w : World) (ha : a ≤ 9999) (hb9 : b ≤ 9999) :
    Calls Try.prog 113 #[.int .i64 (a : Int), .int .i64 (b : Int)] w fun e w' => (∃ sq vs, e = .returned sq ∧ OwnSS w.heap.size w'.heap.size w' sq vs (rwsL (dgL a) (dgL b))) ∧ Below w.heap.size w w' := by
  obtain ⟨i0, hi, hz0, hz1, hz2⟩ := info_parts Try.infoSS9
  have hl4 := dgL_len4 a ha
  have HDB : Hid (∀ i (h : i < (dgL a).length), 0 ≤ (dgL a)[i] ∧ (dgL a)[i] ≤ 9) := Lib.hid (fun i h => dgL_at a i h)
  have HG := Lib.hid (fun w => digitsOf_any a w (by omega))
  have HRW := Lib.hid (fun (d : Int) w (hd : 0 ≤ d ∧ d ≤ 9) => rowOf_any b d w hb9 hd)
  generalize dgL a = L at hl4 HDB HG ⊢
  generalize dgL b = M at HRW ⊢
  clear ha hb9
  go_enter Try.func113, Try.ntmps113
  go_wp2_with fail
  have hs0 : (w.alloc (.cells #[] 26)).heap.size = w.heap.size + 1 := by simp
  have hb0 : Below w.heap.size w (w.alloc (.cells #[] 26)) := (Below.refl _ _).alloc (Nat.le_refl _) _
  have ho0 : (w.alloc (.cells #[] 26)).ownsRow w.heap.size 26 1 (.slice (some ⟨w.heap.size, 0, none⟩) 0 0) 0 [] := World.ownsRow_made _ _ _ (Nat.le_refl _) (Nat.zero_le _) (by simp)
  generalize w.alloc (.cells #[] 26) = w1 at hs0 hb0 ho0 ⊢
  refine (HG.out w1).mono ?_
  rintro e w2 ⟨⟨sd, rfl, od⟩, hb2⟩
  obtain ⟨ad, cd, rfl⟩ := own_form od
  have HO0 : Hid (OwnSS w.heap.size w2.heap.size w2 (.slice (some ⟨w.heap.size, 0, none⟩) 0 0) [] []) := Lib.hid (OwnSS.empty (Nat.le_trans hb0.size hb2.size) (own_below ho0 hb2) (fun g hg => Nat.lt_of_lt_of_le (show g < w1.heap.size by have h9 : w.heap.size = g := (by simpa [Value.ownBlock] using hg); omega) hb2.size))
  have HB0 : Hid (Below w.heap.size w w2) := Lib.hid (hb0.trans (hb2.mono hb0.size))
  have HD0 := Lib.hid (own_mono od hb0.size)
  have HZ : Hid (L.length ≤ 9223372036854775807) := Lib.hid (by omega)
  clear od hb2 ho0 hb0 hs0
  go_wp2_with fail
  go_loopw [5, 12] (fun ov iv wr => ∃ (k g c : Nat) (vs : List Value), k ≤ L.length ∧ iv = .int .i64 (k : Int) ∧ ov = .slice (some ⟨g, 0, none⟩) k c ∧ vs.length = k ∧ OwnSS w.heap.size wr.heap.size wr (.slice (some ⟨g, 0, none⟩) k c) vs (rwsL (L.take k) M) ∧ wr.ownsRow w.heap.size 3 1 (.slice ad L.length cd) L.length (flatC inC L) ∧ Below w.heap.size w wr) (fun _ iv _ => 20 - (intOf iv).toNat)
  case atStart => exact ⟨0, w.heap.size, 0, [], Nat.zero_le _, rfl, rfl, rfl, HO0.out, HD0.out, HB0.out⟩
  case round =>
    obtain ⟨k, g, c, vs, hk, rfl, rfl, hvl, hO, hD, hb⟩ := hrel
    have HO := Lib.hid hO
    have HD := Lib.hid hD
    have HB := Lib.hid hb
    by_cases hlt : k < L.length
    · obtain ⟨b1, cp, hv⟩ := own_blk hD (by omega)
      injection hv with h1 h2 h3
      subst h1; subst h3
      have c0 : wr.cell? ⟨b1, k, none⟩ = some (.int .i64 L[k]) := by
        have h5 := (hD.cellAt (k * 1 + 0) (by omega)).trans (flatC_at inC_len L k hlt 0 (by omega))
        rw [Nat.mul_one, Nat.add_zero] at h5; exact h5
      have hx := HDB.out k hlt
      have z1 : (0 : Int) ≤ (k : Int) := by omega
      have z2 : (k : Int) < (L.length : Int) := by omega
      have HSN := Lib.hid (rwsL_snoc L M k hlt)
      have HVL := Lib.hid hvl
      obtain ⟨x, hxe⟩ : ∃ x, L[k] = x := ⟨_, rfl⟩
      rw [hxe] at c0 hx HSN
      have HX := Lib.hid hx
      clear hO hD hb hxe hvl hx
      go_wp2_with fail
      refine (HRW.out x wr HX.out).mono ?_
      rintro e w4 ⟨⟨u, rfl, ou⟩, hb4⟩
      obtain ⟨au, cu, rfl⟩ := own_form ou
      have HU := Lib.hid ou
      have HB4 := Lib.hid hb4
      have HBB : Hid (Below w.heap.size w w4) := Lib.hid (HB.out.trans (hb4.mono HB.out.size))
      have hout := (HO.out.next hb4).outer.1
      rw [HVL.out] at hout
      have HOUT := Lib.hid hout
      have HDD := Lib.hid (own_below HD.out hb4)
      clear ou hb4 hout c0
      go_wp2_with (at_builtin; refine wpList_append_own_at _ rfl _ _ 112 rfl w.heap.size 26 i0 (.slice none 0 0) 1 24 Try.underlying112 hi hz0 hz1 hz2 rfl (by decide) (.slice (some ⟨g, 0, none⟩) k c) k vs rfl (HOUT.out.alloc _) ⟨w4.heap.size, 0, none⟩ 1 1 [.slice au (dpL x M).length cu] rfl rfl (news_at (alloc_at rfl)) ?c2 ?c3 ?c4 ?c5 ?_)
      case c2 => first | rfl | (intro u hu; rw [List.mem_singleton.1 hu]; rfl)
      case c3 => unfold maxLen; omega
      case c4 => omega
      case c5 => have := HBB.out.size; simp; omega
      intro v' w5 ho5 hg5 _ hat5
      have hlb : Below wr.heap.size wr (w4.alloc (.cells #[.slice au (dpL x M).length cu] 26)) := HB4.out.alloc HB4.out.size _
      have hp := OwnSS.push HO.out (Nat.le_refl _) hlb (HU.out.alloc _) (by rw [HVL.out]; exact ho5) hg5 (by simpa using hat5)
      have hd5 := own_kept2 (HDD.out.alloc (.cells #[.slice au (dpL x M).length cu] 26)) (HOUT.out.alloc (.cells #[.slice au (dpL x M).length cu] 26)) (by decide) hg5
      have hb5 : Below w.heap.size w w5 := (HBB.out.alloc HBB.out.size _).grown hg5 (by have := HBB.out.size; simp; omega) (fun q hq => (HOUT.out.lt q hq).1)
      obtain ⟨g5, c5, rfl⟩ := own_blk ho5 (by omega)
      rw [← HSN.out] at hp
      have HP5 := Lib.hid hp
      have HD5 := Lib.hid hd5
      have HB5 := Lib.hid hb5
      clear hp hd5 hb5 ho5 hg5 hat5 hlb
      go_wp2_with fail
      go_roundw
      case rel => exact ⟨k + 1, g5, c5, _, by omega, by go_num, rfl, by rw [List.length_append, HVL.out]; rfl, HP5.out, HD5.out, HB5.out⟩
      case measure => simp [intOf]; omega
    · obtain rfl : k = L.length := by omega
      have HE : Hid (OwnSS w.heap.size wr.heap.size wr (.slice (some ⟨g, 0, none⟩) L.length c) vs (rwsL L M)) := Lib.hid (by have h1 := hO; rw [List.take_length] at h1; exact h1)
      clear hO hD hb
      go_wp2_with fail
      go_ret
      exact ⟨⟨_, _, rfl, HE.out⟩, HB.out⟩

set_option maxRecDepth 100000 in
set_option maxHeartbeats 1600000 in
theorem worthOf_any (I K : Nat) (v : Int) (w : World) (hI : I ≤ 3) (hK : K ≤ 3) (hv : 1 ≤ v ∧ v ≤ 81) :
    Calls Try.prog 72 #[.agg #[.int .i64 (I : Int), .int .i64 (K : Int), .int .i64 v]] w fun e w' => e = .returned (.int .i64 (v * 10 ^ (I + K))) ∧ Below w.heap.size w w' := by
  have w1' : IntKind.i64.wrap ((I : Int) + (K : Int)) = ((I + K : Nat) : Int) := by rw [IntKind.wrap_i64]; omega
  obtain ⟨N, hN⟩ : ∃ N, I + K = N := ⟨_, rfl⟩
  have e1 : (I : Int) + (K : Int) = (N : Int) := by omega
  rw [hN]
  have hN6 : N ≤ 6 := by omega
  have w2' : IntKind.i64.wrap ((I : Int) + (K : Int)) = (N : Int) := by rw [w1', hN]
  have HE1 := Lib.hid e1
  clear w1' hN e1 hI hK
  go_enter Try.func72, Try.ntmps72
  go_wp2_with fail
  have hk : (w.alloc (.cells #[.int .i64 (I : Int), .int .i64 (K : Int), .int .i64 v] 57)).heap[w.heap.size]? = some (.cells #[.int .i64 (I : Int), .int .i64 (K : Int), .int .i64 v] 57 (0, 0)) := alloc_at rfl
  have HB : Hid (Below w.heap.size w (w.alloc (.cells #[.int .i64 (I : Int), .int .i64 (K : Int), .int .i64 v] 57))) := Lib.hid ((Below.refl _ _).alloc (Nat.le_refl _) _)
  clear hk
  generalize (w.alloc (.cells #[.int .i64 (I : Int), .int .i64 (K : Int), .int .i64 v] 57)) = w1 at HB ⊢
  try rw [HE1.out]
  go_loopw [3, 11] (fun ov iv wr => ∃ (j : Nat), j ≤ N ∧ iv = .int .i64 (j : Int) ∧ ov = .int .i64 (v * 10 ^ j) ∧ wr = w1) (fun _ iv _ => 20 - (intOf iv).toNat)
  case atStart => exact ⟨0, Nat.zero_le _, rfl, by simp, rfl⟩
  case round =>
    obtain ⟨j, hj, rfl, rfl, rfl⟩ := hrel
    obtain ⟨p1, p2⟩ := pow_le6 j (by omega)
    have HS : Hid (v * (10 : Int) ^ j * 10 = v * (10 : Int) ^ (j + 1)) := Lib.hid (by rw [Int.pow_succ, Int.mul_assoc])
    have hb1 : 0 ≤ v * (10 : Int) ^ j := Int.mul_nonneg (by omega) (by omega)
    have hb2 : v * (10 : Int) ^ j ≤ 81 * 1000000 := Int.mul_le_mul hv.2 p2 (by omega) (by omega)
    generalize hz : v * (10 : Int) ^ j = z at hb1 hb2 HS ⊢
    clear p1 p2
    by_cases hlt : j < N
    · have z1 : (j : Int) < (N : Int) := by omega
      have hw : IntKind.i64.wrap (z * 10) = z * 10 := by rw [IntKind.wrap_i64]; omega
      clear hz
      go_wp2_with fail
      go_roundw
      case rel => exact ⟨j + 1, by omega, by go_num, by rw [← HS.out], trivial⟩
      case measure => simp [intOf]; omega
    · obtain rfl : j = N := by omega
      have HZ := Lib.hid hz
      clear hz
      go_wp2_with fail
      go_ret
      exact ⟨ret_int HZ.out.symm, HB.out⟩
end Go.Proofs.Ythmbehknacjodaa
