/- The moves of an addition, played, end in its frame; all of them are valid. -/
import Derived.Test.YtpmccebifncpeaaAdm
import Derived.Test.YtpmccebifncpeaaMplay
import Derived.Test.YtpmccebifncpeaaAdg
namespace Go.Proofs.Ytpmccebifncpeaa
set_option linter.unusedVariables false
open Go.RowKit

theorem playO_app (up lo : Int) (rs : List (Int × Int)) (a b : List Mv) (qs : List (Int × Int)) (h : playO up lo rs a = some qs) : playO up lo rs (a ++ b) = playO up lo qs b := by
  unfold playO at h ⊢
  rw [List.foldl_append, h]
theorem std_len {rs : List (Int × Int)} {up lo : Int} (hg : goodF up lo rs) : 1 ≤ rs.length ∧ rs.length ≤ 8 := hg.2.2.2
theorem std_setp {rs : List (Int × Int)} (h : stdF rs) (r : Nat) (p : Int × Int) (hp : (0 ≤ p.1 ∧ p.1 ≤ 1) ∧ (0 ≤ p.2 ∧ p.2 ≤ 4)) : stdF (rs.set r p) := by
  intro i hi
  rw [List.length_set] at hi
  by_cases e : i = r
  · subst e; rw [List.getElem_set_self]; exact hp
  · rw [List.getElem_set_ne (fun e' => e e'.symm)]; exact h i hi
theorem step_set {up lo : Int} {rs : List (Int × Int)} (hg : goodF up lo rs) (r : Nat) (hr : r < rs.length) (m : Mv) (hm : m.rod = (r : Int)) (p : Int × Int) (hp : movR rs[r] m = p) (hpk : (0 ≤ p.1 ∧ p.1 ≤ 1) ∧ (0 ≤ p.2 ∧ p.2 ≤ 4)) (hs : stdF rs) : stepO up lo rs m = some (rs.set r p) := by
  have e : movF rs m = rs.set r p := by
    unfold movF
    rw [hm, Int.toNat_natCast, List.getD_eq_getElem?_getD, List.getElem?_eq_getElem hr]
    show rs.set r (movR rs[r] m) = rs.set r p
    rw [hp]
  unfold stepO
  rw [e, if_pos]
  refine ⟨by rw [hm]; omega, stdF_good (std_setp hs r p hpk) hg.2.1 hg.2.2.1 ?_⟩
  rw [List.length_set]
  exact hg.2.2.2
theorem play_one (up lo : Int) (rs : List (Int × Int)) (m : Mv) : playO up lo rs [m] = stepO up lo rs m := rfl
theorem play_nil (up lo : Int) (rs : List (Int × Int)) : playO up lo rs [] = some rs := rfl
theorem set_same' (rs : List (Int × Int)) (r : Nat) (hr : r < rs.length) : rs.set r rs[r] = rs := by
  apply List.ext_getElem (by simp)
  intro i h1 h2
  by_cases e : i = r
  · subst e; rw [List.getElem_set_self]
  · rw [List.getElem_set_ne (fun e' => e e'.symm)]
theorem turn_play {up lo : Int} {rs : List (Int × Int)} (hg : goodF up lo rs) (hs : stdF rs) (r : Nat) (hr : r < rs.length) (x : Int) (h0 : 0 ≤ x) (h9 : x ≤ 9) : playO up lo rs (turnM r (vAt rs r) x) = some (rs.set r (digR x)) := by
  have hb := hs r hr
  have hd : digR (vAt rs r) = rs[r] := by rw [vAt_in hr]; exact rod_std hb
  have hx1 : 0 ≤ x / 5 ∧ x / 5 ≤ 1 := by omega
  have hx2 : 0 ≤ x % 5 ∧ x % 5 ≤ 4 := by omega
  have e1 : playO up lo rs (btw1 r 0 (digR (vAt rs r)) (digR x)) = some (rs.set r (x / 5, rs[r].2)) := by
    unfold btw1
    rw [hd]
    have ea : at2 (digR x) 0 = x / 5 := rfl
    have eb : at2 rs[r] 0 = rs[r].1 := rfl
    rw [ea, eb]
    by_cases hz : x / 5 - rs[r].1 = 0
    · rw [if_pos hz, play_nil]
      have : (x / 5, rs[r].2) = rs[r] := by rw [show x / 5 = rs[r].1 by omega]
      rw [this, set_same' rs r hr]
    · rw [if_neg hz, play_one]
      refine step_set hg r hr _ rfl _ ?_ ⟨hx1, hb.2⟩ hs
      unfold movR
      rw [if_pos (show ((0 : Nat) : Int) = 0 by omega)]
      show (rs[r].1 + (x / 5 - rs[r].1), rs[r].2) = (x / 5, rs[r].2)
      rw [show rs[r].1 + (x / 5 - rs[r].1) = x / 5 by omega]
  unfold turnM
  rw [playO_app up lo rs _ _ _ e1]
  have hs2 : stdF (rs.set r (x / 5, rs[r].2)) := std_setp hs r _ ⟨hx1, hb.2⟩
  have hg2 : goodF up lo (rs.set r (x / 5, rs[r].2)) := stdF_good hs2 hg.2.1 hg.2.2.1 (by rw [List.length_set]; exact hg.2.2.2)
  unfold btw1
  rw [hd]
  have ea : at2 (digR x) 1 = x % 5 := rfl
  have eb : at2 rs[r] 1 = rs[r].2 := rfl
  rw [ea, eb]
  have hl2 : r < (rs.set r (x / 5, rs[r].2)).length := by rw [List.length_set]; exact hr
  by_cases hz : x % 5 - rs[r].2 = 0
  · rw [if_pos hz, play_nil]
    have : (x / 5, rs[r].2) = digR x := by show (x / 5, rs[r].2) = (x / 5, x % 5); rw [show x % 5 = rs[r].2 by omega]
    rw [this]
  · rw [if_neg hz, play_one, step_set hg2 r hl2 _ rfl (digR x) ?_ ⟨hx1, hx2⟩ hs2, List.set_set]
    unfold movR
    rw [if_neg (by show ¬ ((1 : Nat) : Int) = 0; omega), List.getElem_set_self]
    show (x / 5, rs[r].2 + (x % 5 - rs[r].2)) = (x / 5, x % 5)
    rw [show rs[r].2 + (x % 5 - rs[r].2) = x % 5 by omega]
theorem chM_play {up lo : Int} : ∀ (r : Nat) (d : Int) (rs : List (Int × Int)), goodF up lo rs → stdF rs → r ≤ rs.length → playO up lo rs (chM r d rs) = some (chR r d rs)
  | 0, _, rs, _, _, _ => rfl
  | r + 1, d, rs, hg, hs, hr => by
    unfold chM chR
    split
    · rfl
    · have hx : 0 ≤ (vAt rs r + d) % 10 ∧ (vAt rs r + d) % 10 ≤ 9 := by omega
      rw [playO_app up lo rs _ _ _ (turn_play hg hs r (by omega) _ hx.1 hx.2)]
      have hs2 := stdF_set hs r ((vAt rs r + d) % 10) hx.1 hx.2
      exact chM_play r _ _ (stdF_good hs2 hg.2.1 hg.2.2.1 (by rw [List.length_set]; exact hg.2.2.2)) hs2 (by rw [List.length_set]; omega)
theorem goM_play {up lo : Int} : ∀ (ds : List Int) (i : Nat) (rs : List (Int × Int)), goodF up lo rs → stdF rs → i + ds.length ≤ rs.length → playO up lo rs (goM i ds rs) = some (goR i ds rs)
  | [], _, rs, _, _, _ => rfl
  | d :: ds, i, rs, hg, hs, hr => by
    rw [List.length_cons] at hr
    unfold goM goR
    rw [playO_app up lo rs _ _ _ (chM_play (i + 1) d rs hg hs (by omega))]
    have hs2 := chR_std (i + 1) d rs hs
    exact goM_play ds (i + 1) _ (stdF_good hs2 hg.2.1 hg.2.2.1 (by rw [chR_len]; exact hg.2.2.2)) hs2 (by rw [chR_len]; omega)
theorem btw1_ok {i p : Nat} {x y : Int × Int} (hi : i ≤ 7) (hp : p ≤ 1) (hx : (0 ≤ x.1 ∧ x.1 ≤ 1) ∧ (0 ≤ x.2 ∧ x.2 ≤ 4)) (hy : (0 ≤ y.1 ∧ y.1 ≤ 1) ∧ (0 ≤ y.2 ∧ y.2 ≤ 4)) : ∀ m ∈ btw1 i p x y, okMv m := by
  intro m hm
  unfold btw1 at hm
  split at hm
  · cases hm
  · rename_i hz
    rw [List.mem_singleton] at hm
    subst hm
    have hpp : p = 0 ∨ p = 1 := by omega
    rcases hpp with rfl | rfl
    · have ea : at2 y 0 = y.1 := rfl
      have eb : at2 x 0 = x.1 := rfl
      rw [ea, eb] at hz
      exact ⟨⟨by show (0 : Int) ≤ (i : Int); omega, by show (i : Int) ≤ 7; omega⟩, ⟨by show (0 : Int) ≤ ((0 : Nat) : Int); omega, by show ((0 : Nat) : Int) ≤ 1; omega⟩, ⟨by show -5 ≤ y.1 - x.1; omega, by show y.1 - x.1 ≤ 5; omega⟩, hz⟩
    · have ea : at2 y 1 = y.2 := rfl
      have eb : at2 x 1 = x.2 := rfl
      rw [ea, eb] at hz
      exact ⟨⟨by show (0 : Int) ≤ (i : Int); omega, by show (i : Int) ≤ 7; omega⟩, ⟨by show (0 : Int) ≤ ((1 : Nat) : Int); omega, by show ((1 : Nat) : Int) ≤ 1; omega⟩, ⟨by show -5 ≤ y.2 - x.2; omega, by show y.2 - x.2 ≤ 5; omega⟩, hz⟩
theorem digR_std {x : Int} (h0 : 0 ≤ x) (h9 : x ≤ 9) : (0 ≤ (digR x).1 ∧ (digR x).1 ≤ 1) ∧ (0 ≤ (digR x).2 ∧ (digR x).2 ≤ 4) := by
  show (0 ≤ x / 5 ∧ x / 5 ≤ 1) ∧ (0 ≤ x % 5 ∧ x % 5 ≤ 4)
  omega
theorem turn_ok {r : Nat} {v x : Int} (hr : r ≤ 7) (v0 : 0 ≤ v) (v9 : v ≤ 9) (h0 : 0 ≤ x) (h9 : x ≤ 9) : ∀ m ∈ turnM r v x, okMv m := by
  intro m hm
  unfold turnM at hm
  rcases List.mem_append.1 hm with h | h
  · exact btw1_ok hr (by omega) (digR_std v0 v9) (digR_std h0 h9) m h
  · exact btw1_ok hr (by omega) (digR_std v0 v9) (digR_std h0 h9) m h
theorem chM_ok : ∀ (r : Nat) (d : Int) (rs : List (Int × Int)), stdF rs → r ≤ 8 → ∀ m ∈ chM r d rs, okMv m
  | 0, _, _, _, _, m, hm => by simp [chM] at hm
  | r + 1, d, rs, hs, hr, m, hm => by
    unfold chM at hm
    split at hm
    · cases hm
    · have hx : 0 ≤ (vAt rs r + d) % 10 ∧ (vAt rs r + d) % 10 ≤ 9 := by omega
      have hv := vAt_bd hs r
      rcases List.mem_append.1 hm with h | h
      · exact turn_ok (by omega) hv.1 hv.2 hx.1 hx.2 m h
      · exact chM_ok r _ _ (stdF_set hs r _ hx.1 hx.2) (by omega) m h
theorem goM_ok : ∀ (ds : List Int) (i : Nat) (rs : List (Int × Int)), stdF rs → i + ds.length ≤ 8 → ∀ m ∈ goM i ds rs, okMv m
  | [], _, _, _, _, m, hm => by simp [goM] at hm
  | d :: ds, i, rs, hs, hr, m, hm => by
    rw [List.length_cons] at hr
    unfold goM at hm
    rcases List.mem_append.1 hm with h | h
    · exact chM_ok (i + 1) d rs hs (by omega) m h
    · exact goM_ok ds (i + 1) _ (chR_std (i + 1) d rs hs) (by omega) m h
theorem okMs_of {ms : List Mv} (h : ∀ m ∈ ms, okMv m) (hl : ms.length ≤ 60) : okMs ms := ⟨fun k hk => h _ (List.getElem_mem hk), hl⟩
end Go.Proofs.Ytpmccebifncpeaa
