/- The program's third roots: a search bit by bit with a closure. -/
import Derived.Test.YtlfplnbmgmookaaRm1
import Derived.Test.YtlfplnbmgmookaaShelf
import Derived.Lib.BitFns
import Derived.BigQuiet
namespace Go.Proofs.Ytlfplnbmgmookaa
set_option linter.unusedVariables false
open Go.RowKit

set_option maxRecDepth 100000 in
set_option maxHeartbeats 400000 in
theorem canT_yes (a : Int) (w : World) (h : okN a) :
    Calls Try.prog 53 #[.int .i64 a] w fun e w' => e = .returned (.bool true) ∧ w = w' := by
  obtain ⟨h1, h2⟩ := h
  go_enter Try.func53, Try.ntmps53
  go_wp2
  go_ret
  exact ⟨rfl, rfl⟩
set_option maxRecDepth 100000 in
set_option maxHeartbeats 400000 in
theorem canT_no (a : Int) (w : World) (h : ¬ okN a) :
    Calls Try.prog 53 #[.int .i64 a] w fun e w' => e = .returned (.bool false) ∧ w = w' := by
  by_cases h1 : 0 ≤ a
  · have h2 : ¬ a ≤ 99999999 := fun h2 => h ⟨h1, h2⟩
    clear h
    go_enter Try.func53, Try.ntmps53
    go_wp2
    go_ret
    exact ⟨rfl, rfl⟩
  · clear h
    go_enter Try.func53, Try.ntmps53
    go_wp2
    go_ret
    exact ⟨rfl, rfl⟩
theorem bits_or_nat (a b : Nat) (ha : a < 2 ^ 62) (hb : b < 2 ^ 62) : bits .or .i64 (a : Int) (b : Int) = ((a ||| b : Nat) : Int) := by
  have h1 : a ||| b < 2 ^ 62 := Nat.or_lt_two_pow ha hb
  have e : (BitVec.ofInt 64 (a : Int) ||| BitVec.ofInt 64 (b : Int)).toNat = a ||| b := by
    rw [BitVec.ofInt_natCast, BitVec.ofInt_natCast, BitVec.toNat_or, BitVec.toNat_ofNat, BitVec.toNat_ofNat, Nat.mod_eq_of_lt (by omega), Nat.mod_eq_of_lt (by omega)]
  show IntKind.i64.wrap (((BitVec.ofInt 64 (a : Int) ||| BitVec.ofInt 64 (b : Int)).toNat : Nat) : Int) = _
  rw [e, IntKind.wrap_i64]
  generalize a ||| b = c at h1 ⊢
  omega
/-- What a step of the search reckons. -/
theorem fit_facts {G W k g : Nat} (hG : G < 2 ^ W) (hk : k + 1 ≤ W) (hW : W ≤ 16) (hg : g = G / 2 ^ (k + 1) * 2 ^ (k + 1)) : ∃ (P X : Int) (m : Nat), IntKind.i64.wrap (2 ^ k) = P ∧ bits .or .i64 (g : Int) P = X ∧ X = (m : Int) ∧ m < 2 ^ W ∧ (m ≤ G → m = G / 2 ^ k * 2 ^ k) ∧ (¬ m ≤ G → g = G / 2 ^ k * 2 ^ k) := by
  have h16 : (2 : Nat) ^ W ≤ 2 ^ 16 := Nat.pow_le_pow_right (by omega) hW
  have hkW : (2 : Nat) ^ k < 2 ^ W := Nat.pow_lt_pow_right (by omega) (by omega)
  have hgG : g ≤ G := by rw [hg]; exact Nat.div_mul_le_self _ _
  have e2 : ((2 : Int) ^ k) = ((2 ^ k : Nat) : Int) := by simp
  have hor : g ||| 2 ^ k = g + 2 ^ k := by rw [hg]; exact bit_or _ _
  refine ⟨((2 ^ k : Nat) : Int), ((g + 2 ^ k : Nat) : Int), g + 2 ^ k, ?_, ?_, rfl, ?_, ?_, ?_⟩
  · rw [e2, IntKind.wrap_i64]; omega
  · rw [bits_or_nat g (2 ^ k) (by omega) (by omega), hor]
  · rw [← hor]
    exact Nat.or_lt_two_pow (by omega) hkW
  · intro h; rw [hg] at h ⊢; exact (bit_yes h).symm
  · intro h; rw [hg] at h ⊢; exact (bit_no h).symm
set_option maxRecDepth 100000 in
set_option maxHeartbeats 1600000 in
/-- The greatest number that fits. -/
theorem fitCube_any (G W : Nat) (b : Nat) (w : World) (hW : W ≤ 16) (hG : G < 2 ^ W)
    (hC : ∀ w' (m : Nat), Below w.heap.size w w' → m < 2 ^ W → Calls Try.prog 67 #[.int .i64 (m : Int), .pointer (some ⟨b, 0, none⟩)] w' fun e w'' => e = .returned (.bool (decide (m ≤ G))) ∧ Below w'.heap.size w' w'') :
    Calls Try.prog 66 #[.int .i64 (W : Int), .func (.func 67) #[] #[.pointer (some ⟨b, 0, none⟩)]] w fun e w' => e = .returned (.int .i64 (G : Int)) ∧ Below w.heap.size w w' := by
  have HC := Lib.hid hC
  have HG := Lib.hid hG
  clear hC hG
  go_enter Try.func66, Try.ntmps66
  go_wp2_with fail
  go_loopw [5, 6] (fun gv bv wr => ∃ (j g : Nat), j ≤ W ∧ gv = .int .i64 (g : Int) ∧ bv = .int .i64 ((j : Int) - 1) ∧ Hid (g = G / 2 ^ j * 2 ^ j) ∧ Below w.heap.size w wr) (fun _ bv _ => (intOf bv + 1).toNat)
  case atStart => exact ⟨W, 0, Nat.le_refl _, rfl, rfl, Lib.hid (bit_head HG.out).symm, Below.refl _ _⟩
  case round =>
    obtain ⟨j, g, hj, rfl, rfl, HJ, hb⟩ := hrel
    have HB := Lib.hid hb
    clear hb
    cases j with
    | zero =>
      have HE : Hid (g = G) := Lib.hid (by rw [HJ.out, Nat.pow_zero, Nat.div_one, Nat.mul_one])
      rw [show (((0 : Nat) : Int) - 1) = -1 from rfl]
      go_wp2_with fail
      go_ret
      exact ⟨by rw [HE.out]; rfl, HB.out⟩
    | succ k =>
      obtain ⟨P, X, m, e1, e2, e3, e4, e5, e6⟩ := fit_facts (k := k) HG.out (by omega) hW HJ.out
      have HM := Lib.hid e3
      have H5 := Lib.hid e5
      have H6 := Lib.hid e6
      have HC2 := Lib.hid (HC.out wr m HB.out e4)
      rw [show (((k + 1 : Nat) : Int) - 1) = (k : Int) by omega]
      have z1 : (0 : Int) ≤ (k : Int) := by omega
      have z2 : (k : Int) ≤ 64 := by omega
      have HK : Hid (k < W) := Lib.hid (by omega)
      rw [← e3] at HC2
      clear e3 e4 e5 e6
      by_cases hq : m ≤ G
      · rw [decide_eq_true hq] at HC2
        have HQ := Lib.hid hq
        clear hq
        go_wp2_with (go_at_call 67; refine HC2.out.mono ?_; rintro e w2 ⟨rfl, hb2⟩)
        go_roundw
        case rel => exact ⟨k, m, by omega, by rw [HM.out], by go_num, Lib.hid (H5.out HQ.out), HB.out.trans (hb2.mono HB.out.size)⟩
        case measure => simp [intOf] <;> omega
      · rw [decide_eq_false hq] at HC2
        have HQ := Lib.hid hq
        clear hq
        go_wp2_with (go_at_call 67; refine HC2.out.mono ?_; rintro e w2 ⟨rfl, hb2⟩)
        go_roundw
        case rel => exact ⟨k, g, by omega, rfl, by go_num, Lib.hid (H6.out HQ.out), HB.out.trans (hb2.mono HB.out.size)⟩
        case measure => simp [intOf] <;> omega

set_option maxRecDepth 100000 in
set_option maxHeartbeats 800000 in
theorem cubeFits_any (n r m b : Nat) (w : World) (h : isCb n r) (hn : n ≤ 99999999) (hm : m ≤ 1023) (hc : w.cell? ⟨b, 0, none⟩ = some (.int .i64 (n : Int))) :
    Calls Try.prog 67 #[.int .i64 (m : Int), .pointer (some ⟨b, 0, none⟩)] w fun e w' => e = .returned (.bool (decide (m ≤ r))) ∧ Below w.heap.size w w' := by
  obtain ⟨Q, C, e1, e2, e3, e4, e5⟩ := cube_facts h hn hm
  obtain ⟨M, hM⟩ : ∃ M : Int, (m : Int) = M := ⟨_, rfl⟩
  obtain ⟨N, hN⟩ : ∃ N : Int, (n : Int) = N := ⟨_, rfl⟩
  rw [hM] at e1 e2 ⊢
  rw [hN] at e3 hc
  clear e4 e5 hM hN h hn
  by_cases hq : m ≤ r
  · rw [decide_eq_true hq]
    have z1 := e3.2 hq
    clear e3 hq
    go_enter Try.func67, Try.ntmps67
    go_wp2_with fail
    go_ret
    exact ⟨rfl, Below.refl _ _⟩
  · rw [decide_eq_false hq]
    have z1 := mt e3.1 hq
    clear e3 hq
    go_enter Try.func67, Try.ntmps67
    go_wp2_with fail
    go_ret
    exact ⟨rfl, Below.refl _ _⟩
/-- The length of a number in bits. -/
theorem bitLenAux_lt : ∀ f x : Nat, x < 2 ^ f → x < 2 ^ Lib.bitLenAux f x
  | 0, x, h => h
  | f + 1, x, h => by
    rw [Lib.bitLenAux]
    split
    · rename_i h0; rw [h0]; exact Nat.pow_pos (by omega)
    · have := bitLenAux_lt f (x / 2) (by rw [Nat.pow_succ] at h; omega)
      rw [Nat.pow_add]; omega
theorem bitLenAux_le : ∀ f x k : Nat, x < 2 ^ k → Lib.bitLenAux f x ≤ k
  | 0, x, k, h => Nat.zero_le _
  | f + 1, x, k, h => by
    rw [Lib.bitLenAux]
    split
    · exact Nat.zero_le _
    · cases k with
      | zero => simp at h; omega
      | succ k => have := bitLenAux_le f (x / 2) k (by rw [Nat.pow_succ] at h; omega); omega
theorem bitLen_lt {x : Nat} (h : x < 2 ^ 64) : x < 2 ^ Lib.bitLen x := bitLenAux_lt 64 x h
theorem bitLen_le {x k : Nat} (h : x < 2 ^ k) : Lib.bitLen x ≤ k := bitLenAux_le 64 x k h
/-- The width in which third roots are sought. -/
theorem width_facts {n r : Nat} (h : isCb n r) (hn : n ≤ 99999999) : ∃ W : Nat, (Lib.bitLen n + 2) / 3 = W ∧ W ≤ 9 ∧ r < 2 ^ W ∧ Lib.bitLen n ≤ 27 := by
  have h27 : Lib.bitLen n ≤ 27 := bitLen_le (by omega)
  have hlt := bitLen_lt (x := n) (by omega)
  refine ⟨_, rfl, by omega, ?_, h27⟩
  refine isCb_lt h ?_
  rw [← Nat.pow_add, ← Nat.pow_add]
  exact Nat.lt_of_lt_of_le hlt (Nat.pow_le_pow_right (by omega) (by omega))
end Go.Proofs.Ytlfplnbmgmookaa
