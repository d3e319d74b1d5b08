/- Parts laid as one: Idg, Irw. -/
import Derived.Test.YtlfplnbmgmookaaKw
import Derived.Test.YtlfplnbmgmookaaTrt
import Derived.BigRegion
import Derived.Test.YtlfplnbmgmookaaPush
/-! Idg -/
namespace Go.Proofs.Ytlfplnbmgmookaa
set_option linter.unusedVariables false
open Go.RowKit

/-- The list behind k exchanges from both ends. -/
def RevL {α : Type} (ps cs : List α) (k : Nat) : Prop := cs.length = ps.length ∧ ∀ x, x < ps.length → cs[x]? = if x < k ∨ ps.length - k ≤ x then ps[ps.length - 1 - x]? else ps[x]?
theorem revL_zero {α : Type} (ps : List α) : RevL ps ps 0 := ⟨rfl, fun x hx => by rw [if_neg (by omega)]⟩
theorem revL_end {α : Type} {ps cs : List α} {k : Nat} (h : RevL ps cs k) (h1 : ps.length ≤ 2 * k + 1) (h2 : 2 * k ≤ ps.length) : cs = ps.reverse := by
  refine List.ext_getElem? fun x => ?_
  by_cases hx : x < ps.length
  · rw [List.getElem?_reverse hx, h.2 x hx]
    split
    · rfl
    · rw [show ps.length - 1 - x = x by omega]
  · rw [List.getElem?_eq_none (by rw [h.1]; omega), List.getElem?_eq_none (by rw [List.length_reverse]; omega)]
theorem revL_step {α : Type} {ps cs : List α} {k : Nat} (h : RevL ps cs k) (hk : 2 * k + 1 < ps.length) (a b : α) (ha : cs[k]? = some a) (hb : cs[ps.length - 1 - k]? = some b) : RevL ps ((cs.set k b).set (ps.length - 1 - k) a) (k + 1) := by
  have ha' := h.2 k (by omega)
  have hb' := h.2 (ps.length - 1 - k) (by omega)
  rw [if_neg (by omega)] at ha' hb'
  refine ⟨by rw [List.length_set, List.length_set]; exact h.1, fun x hx => ?_⟩
  by_cases e1 : x = ps.length - 1 - k
  · subst e1
    rw [List.getElem?_set_self (by rw [List.length_set, h.1]; omega), if_pos (by omega), show ps.length - 1 - (ps.length - 1 - k) = k by omega, ← ha', ha]
  · rw [List.getElem?_set_ne (fun e => e1 e.symm)]
    by_cases e2 : x = k
    · subst e2
      rw [List.getElem?_set_self (by rw [h.1]; omega), if_pos (by omega), ← hb', hb]
    · rw [List.getElem?_set_ne (fun e => e2 e.symm), h.2 x hx]
      by_cases e3 : x < k ∨ ps.length - k ≤ x
      · rw [if_pos e3, if_pos (by omega)]
      · rw [if_neg e3, if_neg (by omega)]

theorem set1C (cs : List Int) (i : Nat) (hi : i < cs.length) (x : Int) : (flatC inC cs).set i (.int .i64 x) = flatC inC (cs.set i x) := by
  have h1 := flatC_set1 inC_len cs i 0 hi (by omega) (.int .i64 x) x rfl
  rw [Nat.mul_one, Nat.add_zero] at h1
  exact h1
set_option maxRecDepth 100000 in
set_option maxHeartbeats 1600000 in
theorem revI_any (g n cap lo : Nat) (ps : List Int) (w : World) (hl : ps.length = n) (h60 : n ≤ 60) (ho : w.ownsRow lo 3 1 (.slice (some ⟨g, 0, none⟩) n cap) n (flatC inC ps)) :
    Calls Try.prog 71 #[.slice (some ⟨g, 0, none⟩) n cap] w fun e w' => e = .returned (.tuple #[]) ∧ w'.ownsRow lo 3 1 (.slice (some ⟨g, 0, none⟩) n cap) n (flatC inC ps.reverse) ∧ Btw g (g + 1) w w' := by
  have HL := Lib.hid hl
  have HO := Lib.hid ho
  clear hl ho
  go_enter Try.func71, Try.ntmps71
  go_wp2_with fail
  go_loopw [2, 3] (fun i j wr => ∃ (k : Nat) (cs : List Int), i = .int .i64 k ∧ j = .int .i64 ((n : Int) - 1 - k) ∧ 2 * k ≤ n ∧ Hid (RevL ps cs k) ∧ wr.ownsRow lo 3 1 (.slice (some ⟨g, 0, none⟩) n cap) n (flatC inC cs) ∧ Btw g (g + 1) w wr) (fun i _ _ => n - (intOf i).toNat)
  case atStart => exact ⟨0, ps, rfl, by simp, by omega, Lib.hid (revL_zero ps), HO.out, Btw.refl _ _ _⟩
  case round =>
    obtain ⟨k, cs, rfl, rfl, hk, HR, hown, hbt⟩ := hrel
    have HW := Lib.hid hown
    have HBT := Lib.hid hbt
    by_cases hlt : 2 * k + 1 < n
    · obtain ⟨j, hj⟩ : ∃ j : Nat, (n : Int) - 1 - k = (j : Int) := ⟨n - 1 - k, by omega⟩
      have hj' : j = n - 1 - k := by omega
      rw [hj]
      have z1 : (k : Int) < (j : Int) := by omega
      have z2 : (0 : Int) ≤ (k : Int) := by omega
      have z3 : (k : Int) < (n : Int) := by omega
      have z4 : (0 : Int) ≤ (j : Int) := by omega
      have z5 : (j : Int) < (n : Int) := by omega
      have hlc : cs.length = n := by rw [HR.out.1]; exact HL.out
      have hc := fun i (hi : i < cs.length) => (hown.cellAt (i * 1 + 0) (by omega)).trans (flatC_at inC_len cs i hi 0 (by omega))
      have hf := hown.frozenAt
      have hkl : k < cs.length := by omega
      have hjl : j < cs.length := by omega
      obtain ⟨a, ha⟩ : ∃ a, cs[k] = a := ⟨_, rfl⟩
      obtain ⟨b, hb⟩ : ∃ b, cs[j] = b := ⟨_, rfl⟩
      have a0 : wr.cell? ⟨g, k, none⟩ = some (.int .i64 a) := by have := hc k hkl; rw [ha, Nat.mul_one, Nat.add_zero] at this; exact this
      have b0 : wr.cell? ⟨g, j, none⟩ = some (.int .i64 b) := by have := hc j hjl; rw [hb, Nat.mul_one, Nat.add_zero] at this; exact this
      have fa0 := hf k
      have fb0 := hf j
      have n0 : ¬ k = j := by omega
      have HA : Hid (cs[k]? = some a) := Lib.hid (by rw [List.getElem?_eq_getElem hkl, ha])
      have HB : Hid (cs[j]? = some b) := Lib.hid (by rw [List.getElem?_eq_getElem hjl, hb])
      have HLC := Lib.hid hlc
      have HJ := Lib.hid hj'
      clear hj hj' hlc hc hf hown hbt ha hb hkl hjl
      go_wp2_with fail
      go_region
      have hglt : g < wr.heap.size := (HW.out.lt _ rfl).2
      have HN : Hid (((wr.setCell ⟨g, k, none⟩ (.int .i64 b)).setCell ⟨g, j, none⟩ (.int .i64 a)).ownsRow lo 3 1 (.slice (some ⟨g, 0, none⟩) n cap) n (flatC inC ((cs.set k b).set j a))) := Lib.hid (by
        have h6 := ((HW.out.stored k (.int .i64 b)).1.stored j (.int .i64 a)).1
        rw [set1C cs k (by rw [HLC.out]; omega) b, set1C (cs.set k b) j (by rw [List.length_set, HLC.out]; omega) a] at h6
        exact h6)
      have HT : Hid (Btw g (g + 1) w ((wr.setCell ⟨g, k, none⟩ (.int .i64 b)).setCell ⟨g, j, none⟩ (.int .i64 a))) := Lib.hid
        ((HBT.out.setCell (Nat.le_refl _) (Nat.lt_succ_self _) _).setCell (Nat.le_refl _) (Nat.lt_succ_self _) _)
      have hsz : ((wr.setCell ⟨g, k, none⟩ (.int .i64 b)).setCell ⟨g, j, none⟩ (.int .i64 a)).heap.size = wr.heap.size := by simp
      generalize (wr.setCell ⟨g, k, none⟩ (.int .i64 b)).setCell ⟨g, j, none⟩ (.int .i64 a) = w3 at HN HT hsz ⊢
      have HRS : Hid (RevL ps ((cs.set k b).set j a) (k + 1)) := Lib.hid (by
        have h1 := HL.out
        have h2 := HJ.out
        have := revL_step HR.out (by omega) a b HA.out (by rw [show ps.length - 1 - k = j by omega]; exact HB.out)
        rwa [show ps.length - 1 - k = j by omega] at this)
      clear a0 b0 fa0 fb0 n0
      have hw1 : IntKind.i64.wrap ((j : Int) - 1) = (j : Int) - 1 := by rw [IntKind.wrap_i64]; omega
      go_wp2_with fail
      go_roundw
      case rel =>
        refine ⟨k + 1, (cs.set k b).set j a, by go_num, ?_, by omega, HRS, World.ownsRow.drew HN.out, Btw.of_below HT.out (Below.refl _ _).drew (by omega)⟩
        have := HJ.out
        rw [show (n : Int) - 1 - ((k + 1 : Nat) : Int) = (j : Int) - 1 by omega]
      case measure => simp [intOf]; omega
    · have hnl : ¬ (k : Int) < (n : Int) - 1 - k := by omega
      have HE : Hid (cs = ps.reverse) := Lib.hid (revL_end HR.out (by rw [HL.out]; omega) (by rw [HL.out]; omega))
      clear hown hbt
      go_wp2_with fail
      go_end0
      exact ⟨rfl, HE.out ▸ HW.out, HBT.out⟩

set_option maxRecDepth 100000 in
set_option maxHeartbeats 1600000 in
/-- The digits to a base, from the left. -/
theorem digitsIn_any (b n : Nat) (w : World) (hb2 : 2 ≤ b) (hn : n < 4000000000000000000) (hl : (dgB b n).length ≤ 60) :
    Calls Try.prog 60 #[.int .i64 (n : Int), .int .i64 (b : Int)] w fun e w' => (∃ sq, e = .returned sq ∧ w'.ownsRow w.heap.size 3 1 sq (dgB b n).length (flatC inC (dgB b n))) ∧ Below w.heap.size w w' := by
  obtain ⟨i0, hi, hz0, hz1, hz2⟩ := info_parts Try.infoI9
  have HL := Lib.hid hl
  have HF : Hid (∀ m, m ≤ n → IntKind.i64.wrap ((m : Int).tdiv (b : Int)) = ((m / b : Nat) : Int) ∧ IntKind.i64.wrap ((m : Int) / (b : Int)) = ((m / b : Nat) : Int) ∧ (m : Int).tmod (b : Int) = ((m % b : Nat) : Int) ∧ (m : Int) % (b : Int) = ((m % b : Nat) : Int)) := Lib.hid (fun m hm => by
    have h1 := Nat.div_le_self m b
    have h2 : (m : Int) / (b : Int) = ((m / b : Nat) : Int) := (Int.natCast_ediv m b).symm
    have h3 : (m : Int) % (b : Int) = ((m % b : Nat) : Int) := (Int.natCast_emod m b).symm
    refine ⟨?_, ?_, by rw [Int.tmod_eq_emod_of_nonneg (by omega), h3], h3⟩
    · rw [Int.tdiv_eq_ediv_of_nonneg (by omega), h2, IntKind.wrap_i64]; generalize m / b = q at h1 ⊢; omega
    · rw [h2, IntKind.wrap_i64]; generalize m / b = q at h1 ⊢; omega)
  have HB2 := Lib.hid hb2
  have z3 : ((b : Int) == 0) = false := beq_eq_false_iff_ne.2 (by omega)
  have z4 : (b : Int) ≠ 0 := by omega
  obtain ⟨D, hD⟩ : ∃ D : Int, (b : Int) = D := ⟨_, rfl⟩
  rw [hD] at z3 z4 HF ⊢
  clear hl hn hb2 hD
  go_enter Try.func60, Try.ntmps60
  go_wp2_with fail
  go_loopw [0, 5] (fun mv ov wr => ∃ (m g c : Nat) (ys : List Int), m ≤ n ∧ mv = .int .i64 (m : Int) ∧ ov = .slice (some ⟨g, 0, none⟩) ys.length c ∧ Hid (dgB b n = dgB b m ++ ys.reverse) ∧ OutA w.heap.size 0 0 wr 3 1 g ys.length c (flatC inC ys) ∧ Below w.heap.size w wr) (fun mv _ _ => (intOf mv).toNat)
  case atStart => exact ⟨n, w.heap.size, 0, [], Nat.le_refl _, rfl, rfl, Lib.hid (by simp), outA_made w _ 1 (Nat.le_refl _) (Nat.zero_le _), (Below.refl _ _).alloc (Nat.le_refl _) _⟩
  case round =>
    obtain ⟨m, g, c, ys, hm, rfl, rfl, HY, hO, hb⟩ := hrel
    have HO := Lib.hid hO
    have HB := Lib.hid hb
    have hyl : ys.length ≤ 60 := by have h1 := HL.out; rw [HY.out, List.length_append, List.length_reverse] at h1; omega
    by_cases hlt : 0 < m
    · obtain ⟨f1, f2, f3, f4⟩ := HF.out m hm
      have hlq : m / b < m := Nat.div_lt_self hlt HB2.out
      have HY2 : Hid (dgB b n = dgB b (m / b) ++ (ys ++ [((m % b : Nat) : Int)]).reverse) := Lib.hid (by rw [HY.out, dgB_pos HB2.out hlt, List.append_assoc, List.singleton_append, List.reverse_append]; rfl)
      obtain ⟨x, hx⟩ : ∃ x : Int, ((m % b : Nat) : Int) = x := ⟨_, rfl⟩
      obtain ⟨q, hq⟩ : ∃ q : Nat, m / b = q := ⟨_, rfl⟩
      rw [hx] at f3 f4 HY2
      rw [hq] at f1 f2 HY2 hlq
      have HMB := Lib.hid (show q ≤ n ∧ q < m from ⟨by omega, hlq⟩)
      obtain ⟨M, hM⟩ : ∃ M : Int, (m : Int) = M := ⟨_, rfl⟩
      have z1 : 0 < M := by omega
      have HMM := Lib.hid hM
      rw [hM] at f1 f2 f3 f4
      rw [hM]
      clear hO hb hx hq hlq hlt hm hM
      go_wp2_with (at_builtin; refine wpList_push (wr := wr) rfl _ _ 36 rfl w.heap.size 0 0 w 3 i0 (.int .i64 0) 1 8 Try.underlying36 hi hz0 hz1 hz2 rfl (by decide) g ys.length c (flatC inC ys) [.int .i64 x] rfl rfl rfl ?c1 ?c2 (by decide) HO.out HB.out ?_)
      case c1 => first | rfl | exact ⟨rfl, rfl⟩ | exact ⟨rfl, rfl, rfl⟩ | (intro u hu; simp only [List.mem_cons, List.not_mem_nil, or_false] at hu; subst hu; rfl)
      case c2 => omega
      intro g3 c3 w3 hO3 hB3 hK3
      have HO3 : Hid (OutA w.heap.size 0 0 w3 3 1 g3 (ys ++ [x]).length c3 (flatC inC (ys ++ [x]))) := Lib.hid (by rw [List.length_append, flatC_app]; exact hO3)
      have hlen : ys.length + 1 = (ys ++ [x]).length := by rw [List.length_append]; rfl
      rw [hlen]
      have HB3 := Lib.hid hB3
      clear hO3 hB3 hK3 hlen
      generalize ys ++ [x] = ys2 at HO3 HY2 ⊢
      go_wp2_with fail
      go_roundw
      case rel => exact ⟨q, g3, c3, ys2, HMB.out.1, rfl, rfl, HY2, HO3.out, HB3.out⟩
      case measure => have := HMM.out; have := HMB.out.2; simp [intOf]; omega
    · obtain rfl : m = 0 := by omega
      have HY2 : Hid (ys.reverse = dgB b n) := Lib.hid (by rw [HY.out, dgB_zero, List.nil_append])
      have HG : Hid (w.heap.size ≤ g) := Lib.hid hO.lt.1
      clear hO hb
      go_wp2_with fail
      refine (revI_any g ys.length c w.heap.size ys wr rfl (by omega) HO.out.own).mono ?_
      rintro e w2 ⟨rfl, ho2, hb2⟩
      have HO2 := Lib.hid ho2
      have HB2 : Hid (Below w.heap.size w w2) := Lib.hid (HB.out.trans (hb2.below.mono HG.out))
      clear ho2 hb2
      go_wp2_with fail
      go_ret
      refine ⟨⟨_, rfl, ?_⟩, HB2.out⟩
      have h1 := HO2.out
      rw [HY2.out] at h1
      rw [← HY2.out, List.length_reverse, HY2.out]
      exact h1
end Go.Proofs.Ytlfplnbmgmookaa

/-! Irw -/
namespace Go.Proofs.Ytlfplnbmgmookaa
set_option linter.unusedVariables false
open Go.RowKit

def rwL (d : Int) (L : List Int) (k : Nat) : List Int := dpL d (L.take k) ++ L.drop k
theorem rwL_len (d : Int) (L : List Int) (k : Nat) (h : k ≤ L.length) : (rwL d L k).length = L.length := by unfold rwL; rw [List.length_append, dpL_len, List.length_take, List.length_drop]; omega
theorem rwL_at (d : Int) (L : List Int) (k : Nat) (h : k < L.length) : (rwL d L k)[k]? = some L[k] := by
  unfold rwL
  have e : (dpL d (L.take k)).length = k := by rw [dpL_len, List.length_take]; omega
  rw [List.getElem?_append_right (by omega), e, Nat.sub_self, List.drop_eq_getElem_cons h]; rfl
theorem rwL_set (d : Int) (L : List Int) (k : Nat) (h : k < L.length) : (rwL d L k).set k (d * L[k]) = rwL d L (k + 1) := by
  unfold rwL
  have e : (dpL d (L.take k)).length = k := by rw [dpL_len, List.length_take]; omega
  rw [List.set_append_right _ _ (by omega), e, Nat.sub_self, List.drop_eq_getElem_cons h, dpL_snoc d L k h, List.append_assoc]; rfl
theorem rwL_zero (d : Int) (L : List Int) : rwL d L 0 = L := by simp [rwL, dpL]
theorem rwL_end (d : Int) (L : List Int) : rwL d L L.length = dpL d L := by simp [rwL]

theorem Try.infoSS9 : (Try.prog.info? 36).map (fun i => (i.zero, i.size, i.bytes)) = some (some (.slice none 0 0), 1, 24) := by kernel_rfl
/-- The rows of two factors. -/
def rwsL (p q : List Int) : List (List Int) := p.map fun x => dpL x q
theorem rwsL_len (p q : List Int) : (rwsL p q).length = p.length := by simp [rwsL]
theorem rwsL_snoc (p q : List Int) (k : Nat) (h : k < p.length) : rwsL (p.take (k + 1)) q = rwsL (p.take k) q ++ [dpL p[k] q] := by unfold rwsL; rw [List.take_add_one, List.getElem?_eq_getElem h, List.map_append]; rfl
end Go.Proofs.Ytlfplnbmgmookaa
