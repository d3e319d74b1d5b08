/- The program's rows of products, and a part's worth. -/
import Derived.Test.YtjchbdbdebgniaaIdg
import Derived.Test.YtjchbdbdebgniaaPush
namespace Go.Proofs.Ytjchbdbdebgniaa
set_option linter.unusedVariables false
open Go.RowKit

def rwL (d : Int) (L : List Int) (k : Nat) : List Int := dpL d (L.take k) ++ L.drop k
theorem rwL_len (d : Int) (L : List Int) (k : Nat) (h : k ≤ L.length) : (rwL d L k).length = L.length := by unfold rwL; rw [List.length_append, dpL_len, List.length_take, List.length_drop]; omega
theorem rwL_at (d : Int) (L : List Int) (k : Nat) (h : k < L.length) : (rwL d L k)[k]? = some L[k] := by
  unfold rwL
  have e : (dpL d (L.take k)).length = k := by rw [dpL_len, List.length_take]; omega
  rw [List.getElem?_append_right (by omega), e, Nat.sub_self, List.drop_eq_getElem_cons h]; rfl
theorem rwL_set (d : Int) (L : List Int) (k : Nat) (h : k < L.length) : (rwL d L k).set k (d * L[k]) = rwL d L (k + 1) := by
  unfold rwL
  have e : (dpL d (L.take k)).length = k := by rw [dpL_len, List.length_take]; omega
  rw [List.set_append_right _ _ (by omega), e, Nat.sub_self, List.drop_eq_getElem_cons h, dpL_snoc d L k h, List.append_assoc]; rfl
theorem rwL_zero (d : Int) (L : List Int) : rwL d L 0 = L := by simp [rwL, dpL]
theorem rwL_end (d : Int) (L : List Int) : rwL d L L.length = dpL d L := by simp [rwL]

set_option maxRecDepth 100000 in
set_option maxHeartbeats 1600000 in
theorem rowOf_any (n : Nat) (d : Int) (w : World) (h : n ≤ 9999) (hd : 0 ≤ d ∧ d ≤ 9) :
    Calls Try.prog 81 #[.int .i64 (n : Int), .int .i64 d] w fun e w' => (∃ sq, e = .returned sq ∧ w'.ownsRow w.heap.size 3 1 sq (dpL d (dgL n)).length (flatC inC (dpL d (dgL n)))) ∧ Below w.heap.size w w' := by
  have hl4 := dgL_len4 n h
  have HDB : Hid (∀ i (h : i < (dgL n).length), 0 ≤ (dgL n)[i] ∧ (dgL n)[i] ≤ 9) := Lib.hid (fun i h => dgL_at n i h)
  have HG := Lib.hid (fun w => digitsOf_any n w (by omega))
  rw [dpL_len]
  generalize dgL n = L at hl4 HDB HG ⊢
  clear h
  go_enter Try.func81, Try.ntmps81
  go_wp2_with fail
  refine (HG.out w).mono ?_
  rintro e w1 ⟨⟨sd, rfl, od⟩, hb1⟩
  obtain ⟨ad, cd, rfl⟩ := own_form od
  have HO0 : Hid (w1.ownsRow w.heap.size 3 1 (.slice ad L.length cd) L.length (flatC inC (rwL d L 0))) := Lib.hid (by rw [rwL_zero]; exact od)
  have HB0 := Lib.hid hb1
  have HZ : Hid (L.length ≤ 9223372036854775807) := Lib.hid (by omega)
  clear od hb1
  go_wp2_with fail
  go_loopw [11] (fun iv wr => ∃ (k : Nat), k ≤ L.length ∧ iv = .int .i64 (k : Int) ∧ wr.ownsRow w.heap.size 3 1 (.slice ad L.length cd) L.length (flatC inC (rwL d L k)) ∧ Below w.heap.size w wr) (fun iv _ => 20 - (intOf iv).toNat)
  case atStart => exact ⟨0, Nat.zero_le _, rfl, HO0.out, HB0.out⟩
  case round =>
    obtain ⟨k, hk, rfl, hO, hb⟩ := hrel
    have HO := Lib.hid hO
    have HB := Lib.hid hb
    by_cases hlt : k < L.length
    · obtain ⟨b, cp, hv⟩ := own_blk hO (by omega)
      injection hv with h1 h2 h3
      subst h1; subst h3
      have hkl : k < (rwL d L k).length := by rw [rwL_len d L k hk]; exact hlt
      have c0 : wr.cell? ⟨b, k, none⟩ = some (.int .i64 L[k]) := by
        have h5 := (hO.cellAt (k * 1 + 0) (by omega)).trans (flatC_at inC_len (rwL d L k) k hkl 0 (by omega))
        rw [Nat.mul_one, Nat.add_zero] at h5
        have h6 := rwL_at d L k hlt
        rw [List.getElem?_eq_getElem hkl] at h6
        injection h6 with h6
        rw [h5, h6]; rfl
      have f0 := hO.frozenAt k
      have hx := HDB.out k hlt
      have hm := dig_mul hd hx
      have z1 : (0 : Int) ≤ (k : Int) := by omega
      have z2 : (k : Int) < (L.length : Int) := by omega
      have hst := rwL_set d L k hlt
      obtain ⟨x, hxe⟩ : ∃ x, L[k] = x := ⟨_, rfl⟩
      rw [hxe] at c0 hst hm
      have hw : IntKind.i64.wrap (x * d) = d * x := by rw [Int.mul_comm, IntKind.wrap_i64]; omega
      have hG := (hO.lt b rfl).1
      have HN : Hid ((wr.setCell ⟨b, k, none⟩ (.int .i64 (d * x))).ownsRow w.heap.size 3 1 (.slice (some ⟨b, 0, none⟩) L.length cd) L.length (flatC inC (rwL d L (k + 1)))) := Lib.hid (by
        have h6 := (hO.stored k (.int .i64 (d * x))).1
        rw [set1C _ k hkl, hst] at h6; exact h6)
      have HBN : Hid (Below w.heap.size w (wr.setCell ⟨b, k, none⟩ (.int .i64 (d * x)))) := Lib.hid (hb.setCell (p := ⟨b, k, none⟩) hG _)
      clear hO hb hx hm hxe hst hkl
      go_wp2_with fail
      go_roundw
      case rel => exact ⟨k + 1, by omega, by go_num, HN.out, HBN.out⟩
      case measure => simp [intOf]; omega
    · obtain rfl : k = L.length := by omega
      clear hO hb
      go_wp2_with fail
      go_ret
      exact ⟨⟨_, rfl, by have h1 := HO.out; rw [rwL_end] at h1; exact h1⟩, HB.out⟩

theorem Try.infoSS9 : (Try.prog.info? 39).map (fun i => (i.zero, i.size, i.bytes)) = some (some (.slice none 0 0), 1, 24) := by kernel_rfl
/-- The rows of two factors. -/
def rwsL (p q : List Int) : List (List Int) := p.map fun x => dpL x q
theorem rwsL_len (p q : List Int) : (rwsL p q).length = p.length := by simp [rwsL]
theorem rwsL_snoc (p q : List Int) (k : Nat) (h : k < p.length) : rwsL (p.take (k + 1)) q = rwsL (p.take k) q ++ [dpL p[k] q] := by unfold rwsL; rw [List.take_add_one, List.getElem?_eq_getElem h, List.map_append]; rfl
set_option maxRecDepth 100000 in
set_option maxHeartbeats 3200000 in
theorem rowsOf_any (a b : Nat) (w : World) (ha : a ≤ 9999) (hb9 : b ≤ 9999) :
    Calls Try.prog 97 #[.int .i64 (a : Int), .int .i64 (b : Int)] w fun e w' => (∃ sq vs, e = .returned sq ∧ OwnSS w.heap.size w'.heap.size w' sq vs (rwsL (dgL a) (dgL b))) ∧ Below w.heap.size w w' := by
  obtain ⟨i0, hi, hz0, hz1, hz2⟩ := info_parts Try.infoSS9
  have hl4 := dgL_len4 a ha
  have HDB : Hid (∀ i (h : i < (dgL a).length), 0 ≤ (dgL a)[i] ∧ (dgL a)[i] ≤ 9) := Lib.hid (fun i h => dgL_at a i h)
  have HG := Lib.hid (fun w => digitsOf_any a w (by omega))
  have HRW := Lib.hid (fun (d : Int) w (hd : 0 ≤ d ∧ d ≤ 9) => rowOf_any b d w hb9 hd)
  generalize dgL a = L at hl4 HDB HG ⊢
  generalize dgL b = M at HRW ⊢
  clear ha hb9
  go_enter Try.func97, Try.ntmps97
  go_wp2_with fail
  have hs0 : (w.alloc (.cells #[] 39)).heap.size = w.heap.size + 1 := by simp
  have hb0 : Below w.heap.size w (w.alloc (.cells #[] 39)) := (Below.refl _ _).alloc (Nat.le_refl _) _
  have ho0 : (w.alloc (.cells #[] 39)).ownsRow w.heap.size 39 1 (.slice (some ⟨w.heap.size, 0, none⟩) 0 0) 0 [] := World.ownsRow_made _ _ _ (Nat.le_refl _) (Nat.zero_le _) (by simp)
  generalize w.alloc (.cells #[] 39) = w1 at hs0 hb0 ho0 ⊢
  refine (HG.out w1).mono ?_
  rintro e w2 ⟨⟨sd, rfl, od⟩, hb2⟩
  obtain ⟨ad, cd, rfl⟩ := own_form od
  have HO0 : Hid (OwnSS w.heap.size w2.heap.size w2 (.slice (some ⟨w.heap.size, 0, none⟩) 0 0) [] []) := Lib.hid (OwnSS.empty (Nat.le_trans hb0.size hb2.size) (own_below ho0 hb2) (fun g hg => Nat.lt_of_lt_of_le (show g < w1.heap.size by have h9 : w.heap.size = g := (by simpa [Value.ownBlock] using hg); omega) hb2.size))
  have HB0 : Hid (Below w.heap.size w w2) := Lib.hid (hb0.trans (hb2.mono hb0.size))
  have HD0 := Lib.hid (own_mono od hb0.size)
  have HZ : Hid (L.length ≤ 9223372036854775807) := Lib.hid (by omega)
  clear od hb2 ho0 hb0 hs0
  go_wp2_with fail
  go_loopw [5, 12] (fun ov iv wr => ∃ (k g c : Nat) (vs : List Value), k ≤ L.length ∧ iv = .int .i64 (k : Int) ∧ ov = .slice (some ⟨g, 0, none⟩) k c ∧ vs.length = k ∧ OwnSS w.heap.size wr.heap.size wr (.slice (some ⟨g, 0, none⟩) k c) vs (rwsL (L.take k) M) ∧ wr.ownsRow w.heap.size 3 1 (.slice ad L.length cd) L.length (flatC inC L) ∧ Below w.heap.size w wr) (fun _ iv _ => 20 - (intOf iv).toNat)
  case atStart => exact ⟨0, w.heap.size, 0, [], Nat.zero_le _, rfl, rfl, rfl, HO0.out, HD0.out, HB0.out⟩
  case round =>
    obtain ⟨k, g, c, vs, hk, rfl, rfl, hvl, hO, hD, hb⟩ := hrel
    have HO := Lib.hid hO
    have HD := Lib.hid hD
    have HB := Lib.hid hb
    by_cases hlt : k < L.length
    · obtain ⟨b1, cp, hv⟩ := own_blk hD (by omega)
      injection hv with h1 h2 h3
      subst h1; subst h3
      have c0 : wr.cell? ⟨b1, k, none⟩ = some (.int .i64 L[k]) := by
        have h5 := (hD.cellAt (k * 1 + 0) (by omega)).trans (flatC_at inC_len L k hlt 0 (by omega))
        rw [Nat.mul_one, Nat.add_zero] at h5; exact h5
      have hx := HDB.out k hlt
      have z1 : (0 : Int) ≤ (k : Int) := by omega
      have z2 : (k : Int) < (L.length : Int) := by omega
      have HSN := Lib.hid (rwsL_snoc L M k hlt)
      have HVL := Lib.hid hvl
      obtain ⟨x, hxe⟩ : ∃ x, L[k] = x := ⟨_, rfl⟩
      rw [hxe] at c0 hx HSN
      have HX := Lib.hid hx
      clear hO hD hb hxe hvl hx
      go_wp2_with fail
      refine (HRW.out x wr HX.out).mono ?_
      rintro e w4 ⟨⟨u, rfl, ou⟩, hb4⟩
      obtain ⟨au, cu, rfl⟩ := own_form ou
      have HU := Lib.hid ou
      have HB4 := Lib.hid hb4
      have HBB : Hid (Below w.heap.size w w4) := Lib.hid (HB.out.trans (hb4.mono HB.out.size))
      have hout := (HO.out.next hb4).outer.1
      rw [HVL.out] at hout
      have HOUT := Lib.hid hout
      have HDD := Lib.hid (own_below HD.out hb4)
      clear ou hb4 hout c0
      go_wp2_with (at_builtin; refine wpList_append_own_at _ rfl _ _ 109 rfl w.heap.size 39 i0 (.slice none 0 0) 1 24 Try.underlying109 hi hz0 hz1 hz2 rfl (by decide) (.slice (some ⟨g, 0, none⟩) k c) k vs rfl (HOUT.out.alloc _) ⟨w4.heap.size, 0, none⟩ 1 1 [.slice au (dpL x M).length cu] rfl rfl (news_at (alloc_at rfl)) ?c2 ?c3 ?c4 ?c5 ?_)
      case c2 => first | rfl | (intro u hu; rw [List.mem_singleton.1 hu]; rfl)
      case c3 => unfold maxLen; omega
      case c4 => omega
      case c5 => have := HBB.out.size; simp; omega
      intro v' w5 ho5 hg5 _ hat5
      have hlb : Below wr.heap.size wr (w4.alloc (.cells #[.slice au (dpL x M).length cu] 39)) := HB4.out.alloc HB4.out.size _
      have hp := OwnSS.push HO.out (Nat.le_refl _) hlb (HU.out.alloc _) (by rw [HVL.out]; exact ho5) hg5 (by simpa using hat5)
      have hd5 := own_kept2 (HDD.out.alloc (.cells #[.slice au (dpL x M).length cu] 39)) (HOUT.out.alloc (.cells #[.slice au (dpL x M).length cu] 39)) (by decide) hg5
      have hb5 : Below w.heap.size w w5 := (HBB.out.alloc HBB.out.size _).grown hg5 (by have := HBB.out.size; simp; omega) (fun q hq => (HOUT.out.lt q hq).1)
      obtain ⟨g5, c5, rfl⟩ := own_blk ho5 (by omega)
      rw [← HSN.out] at hp
      have HP5 := Lib.hid hp
      have HD5 := Lib.hid hd5
      have HB5 := Lib.hid hb5
      clear hp hd5 hb5 ho5 hg5 hat5 hlb
      go_wp2_with fail
      go_roundw
      case rel => exact ⟨k + 1, g5, c5, _, by omega, by go_num, rfl, by rw [List.length_append, HVL.out]; rfl, HP5.out, HD5.out, HB5.out⟩
      case measure => simp [intOf]; omega
    · obtain rfl : k = L.length := by omega
      have HE : Hid (OwnSS w.heap.size wr.heap.size wr (.slice (some ⟨g, 0, none⟩) L.length c) vs (rwsL L M)) := Lib.hid (by have h1 := hO; rw [List.take_length] at h1; exact h1)
      clear hO hD hb
      go_wp2_with fail
      go_ret
      exact ⟨⟨_, _, rfl, HE.out⟩, HB.out⟩

set_option maxRecDepth 100000 in
set_option maxHeartbeats 1600000 in
theorem worthOf_any (I K : Nat) (v : Int) (w : World) (hI : I ≤ 3) (hK : K ≤ 3) (hv : 1 ≤ v ∧ v ≤ 81) :
    Calls Try.prog 72 #[.agg #[.int .i64 (I : Int), .int .i64 (K : Int), .int .i64 v]] w fun e w' => e = .returned (.int .i64 (v * 10 ^ (I + K))) ∧ Below w.heap.size w w' := by
  have w1' : IntKind.i64.wrap ((I : Int) + (K : Int)) = ((I + K : Nat) : Int) := by rw [IntKind.wrap_i64]; omega
  obtain ⟨N, hN⟩ : ∃ N, I + K = N := ⟨_, rfl⟩
  have e1 : (I : Int) + (K : Int) = (N : Int) := by omega
  rw [hN]
  have hN6 : N ≤ 6 := by omega
  have w2' : IntKind.i64.wrap ((I : Int) + (K : Int)) = (N : Int) := by rw [w1', hN]
  have HE1 := Lib.hid e1
  clear w1' hN e1 hI hK
  go_enter Try.func72, Try.ntmps72
  go_wp2_with fail
  have hk : (w.alloc (.cells #[.int .i64 (I : Int), .int .i64 (K : Int), .int .i64 v] 67)).heap[w.heap.size]? = some (.cells #[.int .i64 (I : Int), .int .i64 (K : Int), .int .i64 v] 67 (0, 0)) := alloc_at rfl
  have HB : Hid (Below w.heap.size w (w.alloc (.cells #[.int .i64 (I : Int), .int .i64 (K : Int), .int .i64 v] 67))) := Lib.hid ((Below.refl _ _).alloc (Nat.le_refl _) _)
  clear hk
  generalize (w.alloc (.cells #[.int .i64 (I : Int), .int .i64 (K : Int), .int .i64 v] 67)) = w1 at HB ⊢
  try rw [HE1.out]
  go_loopw [3, 11] (fun ov iv wr => ∃ (j : Nat), j ≤ N ∧ iv = .int .i64 (j : Int) ∧ ov = .int .i64 (v * 10 ^ j) ∧ wr = w1) (fun _ iv _ => 20 - (intOf iv).toNat)
  case atStart => exact ⟨0, Nat.zero_le _, rfl, by simp, rfl⟩
  case round =>
    obtain ⟨j, hj, rfl, rfl, rfl⟩ := hrel
    obtain ⟨p1, p2⟩ := pow_le6 j (by omega)
    have HS : Hid (v * (10 : Int) ^ j * 10 = v * (10 : Int) ^ (j + 1)) := Lib.hid (by rw [Int.pow_succ, Int.mul_assoc])
    have hb1 : 0 ≤ v * (10 : Int) ^ j := Int.mul_nonneg (by omega) (by omega)
    have hb2 : v * (10 : Int) ^ j ≤ 81 * 1000000 := Int.mul_le_mul hv.2 p2 (by omega) (by omega)
    generalize hz : v * (10 : Int) ^ j = z at hb1 hb2 HS ⊢
    clear p1 p2
    by_cases hlt : j < N
    · have z1 : (j : Int) < (N : Int) := by omega
      have hw : IntKind.i64.wrap (z * 10) = z * 10 := by rw [IntKind.wrap_i64]; omega
      clear hz
      go_wp2_with fail
      go_roundw
      case rel => exact ⟨j + 1, by omega, by go_num, by rw [← HS.out], trivial⟩
      case measure => simp [intOf]; omega
    · obtain rfl : j = N := by omega
      have HZ := Lib.hid hz
      clear hz
      go_wp2_with fail
      go_ret
      exact ⟨ret_int HZ.out.symm, HB.out⟩
end Go.Proofs.Ytjchbdbdebgniaa
