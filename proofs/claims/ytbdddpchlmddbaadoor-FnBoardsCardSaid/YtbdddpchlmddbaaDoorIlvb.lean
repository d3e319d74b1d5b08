/- The value, the counters, the digits and the plain form of a board, by its places. -/
import Derived.Test.YtbdddpchlmddbaaDoorJone
import Derived.Test.YtbdddpchlmddbaaDoorBval
import Derived.Test.YtbdddpchlmddbaaDoorBsetb
namespace Go.Proofs.YtbdddpchlmddbaaDoor
set_option linter.unusedVariables false
open Go.RowKit

/-- The value of the last d places. -/
def hvP (ps : List Int) : Nat → Int
  | 0 => 0
  | d + 1 => mkP (ps.length - (d + 1)) * hvP ps d + ps.getD (ps.length - (d + 1)) 0
theorem hvP_step (ps : List Int) (d m : Nat) (h : m + (d + 1) = ps.length) (h1 : m < ps.length) : hvP ps (d + 1) = mkP m * hvP ps d + ps[m] := by
  have e : ps.length - (d + 1) = m := by omega
  show mkP _ * _ + _ = _
  rw [e, getDi_at ps m h1]
theorem hvP_val (ls ss : List Int) (hs : ss.length = ls.length) : ∀ d k, k + d = ls.length → hvP (ilv ls ss) (2 * d) = valB (ls.drop k) (ss.drop k) := by
  intro d
  induction d with
  | zero => intro k hk; rw [valB_end ls ss k (by omega)]; rfl
  | succ d ih =>
    intro k hk
    have h1 : k < ls.length := by omega
    have h2 : k < ss.length := by omega
    have hl := ilv_len ls ss
    have e1 := hvP_step (ilv ls ss) (2 * d + 1) (2 * k) (by omega) (by omega)
    have e2 := hvP_step (ilv ls ss) (2 * d) (2 * k + 1) (by omega) (by omega)
    rw [mkP_ev, ilv_ev ls ss k _ h1] at e1
    rw [mkP_od, ilv_od ls ss k _ h2, ih (k + 1) (by omega)] at e2
    rw [show 2 * (d + 1) = 2 * d + 1 + 1 by omega, e1, e2, valB_step ls ss k h1 h2]
    omega
theorem hvP_all (ls ss : List Int) (hs : ss.length = ls.length) : hvP (ilv ls ss) (2 * ls.length) = valB ls ss := by
  have := hvP_val ls ss hs ls.length 0 (by omega)
  simpa using this
theorem hvP_bd {ls ss : List Int} (h : okB ls ss) (d : Nat) (hd : d ≤ 2 * ls.length) : 0 ≤ hvP (ilv ls ss) d ∧ hvP (ilv ls ss) d ≤ 5000000000 := by
  rcases ev_or d with ⟨k, rfl⟩ | ⟨k, rfl⟩
  · have h1 : k ≤ ls.length := by omega
    rw [hvP_val ls ss h.2.1 k (ls.length - k) (by omega)]
    have := valB_max h (ls.length - k) (by omega)
    omega
  · have h1 : k < ls.length := by omega
    have h2 : ls.length - (k + 1) < ss.length := by have := h.2.1; omega
    have h3 : ls.length - (k + 1) < ls.length := by omega
    have hl := ilv_len ls ss
    have e2 := hvP_step (ilv ls ss) (2 * k) (2 * (ls.length - (k + 1)) + 1) (by omega) (by omega)
    rw [mkP_od, ilv_od ls ss _ _ h2, hvP_val ls ss h.2.1 k (ls.length - k) (by omega)] at e2
    rw [e2]
    have := valB_max h (ls.length - k) (by omega)
    have := (h.2.2 _ h3 h2).2
    omega
def smP (ps : List Int) (p : Nat) : Int := (ps.take p).sum
theorem smP_step (ps : List Int) (p : Nat) (h : p < ps.length) : smP ps (p + 1) = smP ps p + ps[p] := by
  unfold smP
  rw [List.take_succ_eq_append_getElem h, List.sum_append]
  simp
theorem smP_cnt (ls ss : List Int) (hs : ss.length = ls.length) : ∀ k, k ≤ ls.length → smP (ilv ls ss) (2 * k) = cntB ls ss k := by
  intro k
  induction k with
  | zero => intro _; simp [smP, cntB]
  | succ k ih =>
    intro hk
    have h1 : k < ls.length := by omega
    have h2 : k < ss.length := by omega
    have hl := ilv_len ls ss
    have e1 := smP_step (ilv ls ss) (2 * k) (by omega)
    have e2 := smP_step (ilv ls ss) (2 * k + 1) (by omega)
    rw [ilv_ev ls ss k _ h1, ih (by omega)] at e1
    rw [ilv_od ls ss k _ h2, e1] at e2
    rw [show 2 * (k + 1) = 2 * k + 1 + 1 by omega, e2, cntB_step ls ss k h1 h2]
/-- What is left of a value behind p places. -/
def dvP (n : Int) : Nat → Int
  | 0 => n
  | p + 1 => dvP n p / mkP p
def dgP (n : Int) (p : Nat) : Int := dvP n p % mkP p
def dgs (L : Nat) (n : Int) : List Int := (List.range L).map (dgP n)
theorem dvP_pow (n : Int) : ∀ k, dvP n (2 * k) = n / 10 ^ k := by
  intro k
  induction k with
  | zero => simp [dvP]
  | succ k ih =>
    show dvP n (2 * k) / mkP (2 * k) / mkP (2 * k + 1) = _
    rw [ih, mkP_ev, mkP_od, dg_next, Int.ediv_ediv_of_nonneg (by omega)]
    rfl
theorem dvP_odd (n : Int) (k : Nat) : dvP n (2 * k + 1) = n / 10 ^ k / 5 := by
  show dvP n (2 * k) / mkP (2 * k) = _
  rw [dvP_pow, mkP_ev]
theorem dgs_len (L : Nat) (n : Int) : (dgs L n).length = L := by simp [dgs]
theorem dgs_at (L : Nat) (n : Int) (p : Nat) (h : p < (dgs L n).length) : (dgs L n)[p] = dgP n p := by simp [dgs]
theorem dgs_evs (L : Nat) (n : Int) : evs (dgs (2 * L) n) = dgL L n := by
  have hl := dgs_len (2 * L) n
  refine List.ext_getElem (by rw [evs_len, dgs_len, dgL_len]; omega) fun k h1 h2 => ?_
  rw [dgL_len] at h2
  rw [evs_at _ k h1 (by omega), dgs_at]
  unfold dgP
  rw [dvP_pow, mkP_ev]
  simp [dgL]
theorem dgs_ods (L : Nat) (n : Int) : ods (dgs (2 * L) n) = dgS L n := by
  have hl := dgs_len (2 * L) n
  refine List.ext_getElem (by rw [ods_len, dgs_len, dgS_len]; omega) fun k h1 h2 => ?_
  rw [dgS_len] at h2
  rw [ods_at _ k h1 (by omega), dgs_at]
  unfold dgP
  rw [dvP_odd, mkP_od]
  simp [dgS]
theorem dvP_bd (n : Int) (h0 : 0 ≤ n) : ∀ p, 0 ≤ dvP n p ∧ dvP n p ≤ n
  | 0 => ⟨h0, Int.le_refl _⟩
  | p + 1 => by
    have := dvP_bd n h0 p
    show 0 ≤ dvP n p / mkP p ∧ dvP n p / mkP p ≤ n
    rcases mkP_or p with e | e <;> rw [e] <;> omega
end Go.Proofs.YtbdddpchlmddbaaDoor
