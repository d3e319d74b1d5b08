/- The library's stable sort of at most twelve lessons. -/
import Derived.Test.YtblbeoeklkcamaaDoorLi2
import Derived.Test.YtblbeoeklkcamaaDoorTso
import Derived.Test.YtblbeoeklkcamaaDoorLe3
import Derived.BigRegion
namespace Go.Proofs.YtblbeoeklkcamaaDoor
set_option linter.unusedVariables false
open Go.RowKit

def cmpI (a b : Int) : Int := if a < b then -1 else if b < a then 1 else 0
set_option maxRecDepth 100000 in
set_option maxHeartbeats 400000 in
theorem isNaN_any (x : Int) (w : World) : Calls Tryd.prog 70 #[.int .i64 x] w fun e w' => e = .returned (.bool false) ∧ w' = w := by
  have hx : (x != x) = false := by simp
  go_enter Tryd.func70, Tryd.ntmps70
  go_wp2_with fail
  go_ret
  exact ⟨rfl, rfl⟩
set_option maxRecDepth 100000 in
set_option maxHeartbeats 800000 in
theorem compare_any (a b : Int) (w : World) : Calls Tryd.prog 61 #[.int .i64 a, .int .i64 b] w fun e w' => e = .returned (.int .i64 (cmpI a b)) ∧ w' = w := by
  by_cases h1 : a < b
  · rw [show cmpI a b = -1 from if_pos h1]
    go_enter Tryd.func61, Tryd.ntmps61
    go_wp2_with fail
    refine (isNaN_any _ _).mono ?_
    rintro e w' ⟨rfl, hw⟩
    subst w'
    go_wp2_with fail
    refine (isNaN_any _ _).mono ?_
    rintro e w' ⟨rfl, hw⟩
    subst w'
    go_wp2_with fail
    go_ret
    exact ⟨rfl, rfl⟩
  · by_cases h2 : b < a
    · rw [show cmpI a b = 1 by rw [cmpI, if_neg h1, if_pos h2]]
      go_enter Tryd.func61, Tryd.ntmps61
      go_wp2_with fail
      refine (isNaN_any _ _).mono ?_
      rintro e w' ⟨rfl, hw⟩
      subst w'
      go_wp2_with fail
      refine (isNaN_any _ _).mono ?_
      rintro e w' ⟨rfl, hw⟩
      subst w'
      go_wp2_with fail
      go_ret
      exact ⟨rfl, rfl⟩
    · rw [show cmpI a b = 0 by rw [cmpI, if_neg h1, if_neg h2]]
      go_enter Tryd.func61, Tryd.ntmps61
      go_wp2_with fail
      refine (isNaN_any _ _).mono ?_
      rintro e w' ⟨rfl, hw⟩
      subst w'
      go_wp2_with fail
      refine (isNaN_any _ _).mono ?_
      rintro e w' ⟨rfl, hw⟩
      subst w'
      go_wp2_with fail
      go_ret
      exact ⟨rfl, rfl⟩
set_option maxRecDepth 100000 in
set_option maxHeartbeats 1600000 in
theorem cmpLe_any (x y : Les) (w : World) :
    Calls Tryd.prog 60 #[lesV x, lesV y] w fun e w' => e = .returned (.int .i64 (cmpI x.bgn y.bgn)) ∧ Below w.heap.size w w' := by
  obtain ⟨aid, acls, atch, aroom, aday, abgn, amins⟩ := x
  obtain ⟨bid, bcls, btch, broom, bday, bbgn, bmins⟩ := y
  show Calls Tryd.prog 60 #[.agg #[.int .i64 aid, .int .i64 acls, .int .i64 atch, .int .i64 aroom, .int .i64 aday, .int .i64 abgn, .int .i64 amins], .agg #[.int .i64 bid, .int .i64 bcls, .int .i64 btch, .int .i64 broom, .int .i64 bday, .int .i64 bbgn, .int .i64 bmins]] w fun e w' => e = .returned (.int .i64 (cmpI abgn bbgn)) ∧ Below w.heap.size w w'
  have HC := Lib.hid (fun w => compare_any abgn bbgn w)
  generalize cmpI abgn bbgn = r at HC ⊢
  have hb : Below w.heap.size w ((w.alloc (.cells #[.int .i64 aid, .int .i64 acls, .int .i64 atch, .int .i64 aroom, .int .i64 aday, .int .i64 abgn, .int .i64 amins] 31)).alloc (.cells #[.int .i64 bid, .int .i64 bcls, .int .i64 btch, .int .i64 broom, .int .i64 bday, .int .i64 bbgn, .int .i64 bmins] 31)) := ((Below.refl _ _).alloc (Nat.le_refl _) _).alloc (by simp) _
  have HB := Lib.hid hb
  clear hb
  go_enter Tryd.func60, Tryd.ntmps60
  go_wp2_with fail
  refine (HC.out _).mono ?_
  rintro e w' ⟨rfl, hw⟩
  subst w'
  go_wp2_with fail
  go_ret
  exact ⟨rfl, HB.out⟩
theorem srt_one (hs : List Les) : srtL (hs.take 1) ++ hs.drop 1 = hs := by
  cases hs with
  | nil => rfl
  | cons x t => rfl
theorem insAt_full (D : List Les) (x : Les) (j : Nat) (h : D.length = j) : insAt D x j = D ++ [x] := by
  unfold insAt; rw [List.take_of_length_le (by omega), List.drop_of_length_le (by omega)]
theorem insAt_x (D R : List Les) (x : Les) (j : Nat) (h : j ≤ D.length) : (insAt D x j ++ R)[j]? = some x := by
  unfold insAt
  rw [List.append_assoc, List.getElem?_append_right (by simp; omega), show j - (D.take j).length = 0 by simp; omega]
  rfl
theorem insAt_below (D R : List Les) (x : Les) (m j : Nat) (h : j = m + 1) (hj : j ≤ D.length) : (insAt D x j ++ R)[m]? = some (leD D m) := by
  subst h
  unfold insAt
  rw [List.append_assoc, List.getElem?_append_left (by simp; omega), List.getElem?_take_of_lt (by omega), leD_at D m (by omega), List.getElem?_eq_getElem (by omega)]
set_option maxRecDepth 100000 in
set_option maxHeartbeats 6400000 in
theorem insort_any (g n cap lo : Nat) (hs : List Les) (w : World) (hl : hs.length = n) (h12 : n ≤ 12) (hlo : lo ≤ w.heap.size) (ho : w.ownsRow lo 31 7 (.slice (some ⟨g, 0, none⟩) n cap) n (flatC lesC (hs))) :
    Calls Tryd.prog 73 #[.slice (some ⟨g, 0, none⟩) n cap, .int .i64 0, .int .i64 n, .func (.func 60) #[] #[]] w fun e w' => e = .returned (.tuple #[]) ∧ w'.ownsRow lo 31 7 (.slice (some ⟨g, 0, none⟩) n cap) n (flatC lesC (srtL hs)) ∧ Below lo w w' := by
  have HL := Lib.hid hl
  have HG : Hid (lo ≤ g) := Lib.hid (ho.lt g rfl).1
  have HO := Lib.hid ho
  clear hl ho
  go_enter Tryd.func73, Tryd.ntmps73
  go_wp2_with fail
  go_loopw [8] (fun iv wr => ∃ i : Nat, 1 ≤ i ∧ i ≤ n + 1 ∧ iv = .int .i64 i ∧ wr.ownsRow lo 31 7 (.slice (some ⟨g, 0, none⟩) n cap) n (flatC lesC (srtL (hs.take i) ++ hs.drop i)) ∧ Below lo w wr) (fun iv _ => 20 - (intOf iv).toNat)
  case atStart => exact ⟨1, by omega, by omega, rfl, by rw [srt_one]; exact HO.out, Below.refl _ _⟩
  case round =>
    obtain ⟨i, hi1, hi2, rfl, hown, hb⟩ := hrel
    rename World => wo
    have HOo := Lib.hid hown
    have HBo := Lib.hid hb
    clear hown hb
    by_cases hlt : i < n
    · have z1 : (i : Int) < (n : Int) := by omega
      have hil : i < hs.length := by have := HL.out; omega
      obtain ⟨D, hD⟩ : ∃ D, srtL (hs.take i) = D := ⟨_, rfl⟩
      have hDl : D.length = i := by rw [← hD, srtL_len]; simp; omega
      obtain ⟨x, hx⟩ : ∃ x, hs[i] = x := ⟨_, rfl⟩
      obtain ⟨R, hR⟩ : ∃ R, hs.drop (i + 1) = R := ⟨_, rfl⟩
      have HE0 : Hid (srtL (hs.take i) ++ hs.drop i = insAt D x i ++ R) := Lib.hid (by
        rw [insAt_full D x i hDl, hD, List.drop_eq_getElem_cons hil, hx, hR]; simp)
      have HE1 : Hid (∀ J, insJ D x J = insJ D x i → insJ D x J = J → insAt D x J ++ R = srtL (hs.take (i + 1)) ++ hs.drop (i + 1)) := Lib.hid (fun J e1 e2 => by
        rw [srtL_take hs i hil, hD, hx, hR]
        unfold insL
        rw [hDl, ← e1, e2])
      have HDL := Lib.hid hDl
      have HRL : Hid (R.length + (i + 1) = n) := Lib.hid (by rw [← hR, List.length_drop]; have := HL.out; omega)
      have HOs : Hid (wo.ownsRow lo 31 7 (.slice (some ⟨g, 0, none⟩) n cap) n (flatC lesC (insAt D x i ++ R))) := Lib.hid (by rw [← HE0.out]; exact HOo.out)
      clear hD hx hR hDl hil
      go_wp2_with fail
      go_loopw [9] (fun jv wr => ∃ j : Nat, j ≤ i ∧ jv = .int .i64 j ∧ insJ D x j = insJ D x i ∧ wr.ownsRow lo 31 7 (.slice (some ⟨g, 0, none⟩) n cap) n (flatC lesC (insAt D x j ++ R)) ∧ Below lo w wr) (fun jv _ => (intOf jv).toNat)
      case atStart => exact ⟨i, Nat.le_refl _, rfl, rfl, HOs.out, HBo.out⟩
      case round =>
        obtain ⟨j, hj, rfl, hJ, hown, hb⟩ := hrel
        rename World => wi
        have HOi := Lib.hid hown
        have HBi := Lib.hid hb
        have HJ := Lib.hid hJ
        clear hown hb hJ
        by_cases hj0 : j = 0
        · have HE : Hid (insAt D x j ++ R = srtL (hs.take (i + 1)) ++ hs.drop (i + 1)) := Lib.hid (HE1.out j HJ.out (by rw [hj0]; rfl))
          have hd : decide (0 < j) = false := decide_eq_false (by omega)
          clear hj0
          have HBd : Hid (Below lo w wi.drew) := Lib.hid HBi.out.drew
          have HOd : Hid (wi.drew.ownsRow lo 31 7 (.slice (some ⟨g, 0, none⟩) n cap) n (flatC lesC (srtL (hs.take (i + 1)) ++ hs.drop (i + 1)))) := Lib.hid (by rw [← HE.out]; exact HOi.out.drew)
          go_wp2_with fail
          refine wp_region_held_drew (S := (fun _ => True)) (by kernel_rfl) (trivial) (fun hHeld => ?_)
          generalize wi.drew = wd at HBd HOd hHeld ⊢
          refine take1 (i := 0) (v := ?v1) (some 18) rfl rfl (by kernel_rfl) (by kernel_rfl) (by kernel_rfl) (fun _ _ _ h => h) (Or.inl ⟨by rfl, ?y1⟩) (by assumption) ?r1
          case y1 => (intro w hSw; (try dsimp only at hSw); go_simp; (first | done | with_reducible rfl))
          try simp only [Act.put, List.setIfInBounds_toArray, List.set_cons_zero, List.set_cons_succ]
          refine take1 (i := 1) (v := ?v2) (some 19) rfl rfl (by kernel_rfl) (by kernel_rfl) (by kernel_rfl) (fun _ _ _ h => h) (Or.inl ⟨by rfl, ?y2⟩) (by assumption) ?r2
          case y2 => (intro w hSw; (try dsimp only at hSw); go_simp; (first | done | with_reducible rfl))
          try simp only [Act.put, List.setIfInBounds_toArray, List.set_cons_zero, List.set_cons_succ]
          refine take1 (i := 2) (v := ?v3) (some 20) rfl rfl (by kernel_rfl) (by kernel_rfl) (by kernel_rfl) (fun _ _ _ h => h) (Or.inl ⟨by rfl, ?y3⟩) (by assumption) ?r3
          case y3 => (intro w hSw; (try dsimp only at hSw); go_simp; (first | done | with_reducible rfl))
          try simp only [Act.put, List.setIfInBounds_toArray, List.set_cons_zero, List.set_cons_succ]
          refine take1 (i := 3) (v := ?v4) (some 21) rfl rfl (by kernel_rfl) (by kernel_rfl) (by kernel_rfl) (fun _ _ _ h => h) (Or.inl ⟨by rfl, ?y4⟩) (by assumption) ?r4
          case y4 => (intro w hSw; (try dsimp only at hSw); go_simp; (first | done | with_reducible rfl))
          try simp only [Act.put, List.setIfInBounds_toArray, List.set_cons_zero, List.set_cons_succ]
          refine take1 (i := 4) (v := undef) (some 22) rfl rfl (by kernel_rfl) (by kernel_rfl) (by kernel_rfl) (fun _ _ _ h => h) (Or.inr ⟨by rfl, rfl⟩) (by assumption) ?_
          try simp only [Act.put, List.setIfInBounds_toArray, List.set_cons_zero, List.set_cons_succ]
          refine take1 (i := 5) (v := undef) (some 23) rfl rfl (by kernel_rfl) (by kernel_rfl) (by kernel_rfl) (fun _ _ _ h => h) (Or.inr ⟨by rfl, rfl⟩) (by assumption) ?_
          try simp only [Act.put, List.setIfInBounds_toArray, List.set_cons_zero, List.set_cons_succ]
          refine take1 (i := 6) (v := undef) (some 24) rfl rfl (by kernel_rfl) (by kernel_rfl) (by kernel_rfl) (fun _ _ _ h => h) (Or.inr ⟨by rfl, rfl⟩) (by assumption) ?_
          try simp only [Act.put, List.setIfInBounds_toArray, List.set_cons_zero, List.set_cons_succ]
          refine take1 (i := 7) (v := undef) (some 25) rfl rfl (by kernel_rfl) (by kernel_rfl) (by kernel_rfl) (fun _ _ _ h => h) (Or.inr ⟨by rfl, rfl⟩) (by assumption) ?_
          try simp only [Act.put, List.setIfInBounds_toArray, List.set_cons_zero, List.set_cons_succ]
          refine take1 (i := 8) (v := undef) (some 26) rfl rfl (by kernel_rfl) (by kernel_rfl) (by kernel_rfl) (fun _ _ _ h => h) (Or.inr ⟨by rfl, rfl⟩) (by assumption) ?_
          try simp only [Act.put, List.setIfInBounds_toArray, List.set_cons_zero, List.set_cons_succ]
          refine take1 (i := 9) (v := undef) (some 27) rfl rfl (by kernel_rfl) (by kernel_rfl) (by kernel_rfl) (fun _ _ _ h => h) (Or.inr ⟨by rfl, rfl⟩) (by assumption) ?_
          try simp only [Act.put, List.setIfInBounds_toArray, List.set_cons_zero, List.set_cons_succ]
          refine take1 (i := 10) (v := undef) (some 28) rfl rfl (by kernel_rfl) (by kernel_rfl) (by kernel_rfl) (fun _ _ _ h => h) (Or.inr ⟨by rfl, rfl⟩) (by assumption) ?_
          try simp only [Act.put, List.setIfInBounds_toArray, List.set_cons_zero, List.set_cons_succ]
          refine take1 (i := 11) (v := undef) (some 29) rfl rfl (by kernel_rfl) (by kernel_rfl) (by kernel_rfl) (fun _ _ _ h => h) (Or.inr ⟨by rfl, rfl⟩) (by assumption) ?_
          try simp only [Act.put, List.setIfInBounds_toArray, List.set_cons_zero, List.set_cons_succ]
          refine take1 (i := 12) (v := undef) (some 30) rfl rfl (by kernel_rfl) (by kernel_rfl) (by kernel_rfl) (fun _ _ _ h => h) (Or.inr ⟨by rfl, rfl⟩) (by assumption) ?_
          try simp only [Act.put, List.setIfInBounds_toArray, List.set_cons_zero, List.set_cons_succ]
          refine take1 (i := 13) (v := undef) (some 31) rfl rfl (by kernel_rfl) (by kernel_rfl) (by kernel_rfl) (fun _ _ _ h => h) (Or.inr ⟨by rfl, rfl⟩) (by assumption) ?_
          try simp only [Act.put, List.setIfInBounds_toArray, List.set_cons_zero, List.set_cons_succ]
          refine take1 (i := 14) (v := undef) (some 32) rfl rfl (by kernel_rfl) (by kernel_rfl) (by kernel_rfl) (fun _ _ _ h => h) (Or.inr ⟨by rfl, rfl⟩) (by assumption) ?_
          try simp only [Act.put, List.setIfInBounds_toArray, List.set_cons_zero, List.set_cons_succ]
          refine take1 (i := 15) (v := undef) (some 33) rfl rfl (by kernel_rfl) (by kernel_rfl) (by kernel_rfl) (fun _ _ _ h => h) (Or.inr ⟨by rfl, rfl⟩) (by assumption) ?_
          try simp only [Act.put, List.setIfInBounds_toArray, List.set_cons_zero, List.set_cons_succ]
          refine take1 (i := 16) (v := ?v17) (some 34) rfl rfl (by kernel_rfl) (by kernel_rfl) (by kernel_rfl) (fun _ _ _ h => h) (Or.inl ⟨by rfl, ?y17⟩) (by assumption) ?r17
          case y17 => (intro w hSw; (try dsimp only at hSw); go_simp; (first | done | with_reducible rfl))
          try simp only [Act.put, List.setIfInBounds_toArray, List.set_cons_zero, List.set_cons_succ]
          refine wpAnyH_done (by kernel_rfl) ?_ _
          go_wp2_with fail
          go_roundw
          case rel => exact ⟨i + 1, by omega, by omega, by go_num, HOd.out, HBd.out⟩
          case measure => simp [intOf]; omega
        · obtain ⟨m, hm⟩ : ∃ m, j = m + 1 := ⟨j - 1, by omega⟩
          have hjD : j ≤ D.length := by have := HDL.out; omega
          have hLl : (insAt D x j ++ R).length = n := by rw [List.length_append, insAt_len D x j hjD]; have := HDL.out; have := HRL.out; omega
          have ex := insAt_x D R x j hjD
          obtain ⟨y, hy⟩ : ∃ y, leD D m = y := ⟨_, rfl⟩
          have ey := insAt_below D R x m j hm hjD
          rw [hy] at ey
          have hc := fun (i' : Nat) (z : Les) (hz : (insAt D x j ++ R)[i']? = some z) c (hc : c < 7) => (show wi.cell? ⟨g, i' * 7 + c, none⟩ = (lesC z)[c]? by
            have hi' : i' < (insAt D x j ++ R).length := by
              rcases Nat.lt_or_ge i' (insAt D x j ++ R).length with h' | h'
              · exact h'
              · rw [List.getElem?_eq_none h'] at hz; simp at hz
            have e1 : (insAt D x j ++ R)[i'] = z := by rw [List.getElem?_eq_getElem hi'] at hz; injection hz
            rw [← e1, ← flatC_at lesC_len _ i' hi' c hc]
            exact HOi.out.cellAt _ (by omega))
          have a0 : wi.cell? ⟨g, j * 7, none⟩ = some (.int .i64 x.id) := hc j x ex 0 (by omega)
          have b0 : wi.cell? ⟨g, m * 7, none⟩ = some (.int .i64 y.id) := hc m y ey 0 (by omega)
          have a1 : wi.cell? ⟨g, j * 7 + 1, none⟩ = some (.int .i64 x.cls) := hc j x ex 1 (by omega)
          have b1 : wi.cell? ⟨g, m * 7 + 1, none⟩ = some (.int .i64 y.cls) := hc m y ey 1 (by omega)
          have a2 : wi.cell? ⟨g, j * 7 + 2, none⟩ = some (.int .i64 x.tch) := hc j x ex 2 (by omega)
          have b2 : wi.cell? ⟨g, m * 7 + 2, none⟩ = some (.int .i64 y.tch) := hc m y ey 2 (by omega)
          have a3 : wi.cell? ⟨g, j * 7 + 3, none⟩ = some (.int .i64 x.room) := hc j x ex 3 (by omega)
          have b3 : wi.cell? ⟨g, m * 7 + 3, none⟩ = some (.int .i64 y.room) := hc m y ey 3 (by omega)
          have a4 : wi.cell? ⟨g, j * 7 + 4, none⟩ = some (.int .i64 x.day) := hc j x ex 4 (by omega)
          have b4 : wi.cell? ⟨g, m * 7 + 4, none⟩ = some (.int .i64 y.day) := hc m y ey 4 (by omega)
          have a5 : wi.cell? ⟨g, j * 7 + 5, none⟩ = some (.int .i64 x.bgn) := hc j x ex 5 (by omega)
          have b5 : wi.cell? ⟨g, m * 7 + 5, none⟩ = some (.int .i64 y.bgn) := hc m y ey 5 (by omega)
          have a6 : wi.cell? ⟨g, j * 7 + 6, none⟩ = some (.int .i64 x.mins) := hc j x ex 6 (by omega)
          have b6 : wi.cell? ⟨g, m * 7 + 6, none⟩ = some (.int .i64 y.mins) := hc m y ey 6 (by omega)
          have lg : g < wi.heap.size := (HOi.out.lt g rfl).2
          have HX : Hid ((insAt D x j ++ R)[j]? = some x ∧ (insAt D x j ++ R)[m]? = some y) := Lib.hid ⟨ex, ey⟩
          have HLN := Lib.hid hLl
          have HM := Lib.hid hm
          have HY := Lib.hid hy
          have y1 : decide (0 < j) = true := decide_eq_true (by omega)
          have y1' : (0 : Int) ≤ (j : Int) := by omega
          have y2 : (j : Int) < (n : Int) := by omega
          have y3 : (0 : Int) ≤ (m : Int) := by omega
          have y4 : (m : Int) < (n : Int) := by omega
          have y5 : IntKind.i64.wrap ((j : Int) - 1) = (m : Int) := by rw [IntKind.wrap_i64]; omega
          have HCM := Lib.hid (fun w => cmpLe_any x y w)
          clear hc ex ey hm hy hjD hLl hj0
          by_cases hcm : x.bgn < y.bgn
          · have hcv : cmpI x.bgn y.bgn = -1 := if_pos hcm
            rw [hcv] at HCM
            have HJ2 : Hid (insJ D x m = insJ D x i) := Lib.hid (by
              rw [← HJ.out, HM.out]
              exact (insJ_go (by rw [HY.out]; exact hcm)).symm)
            clear hcm hcv
            go_wp2_with fail
            refine wp_region_held_drew (S := (fun w' => w'.cell? ⟨g, j * 7, none⟩ = some (.int .i64 x.id) ∧ w'.cell? ⟨g, j * 7 + 1, none⟩ = some (.int .i64 x.cls) ∧ w'.cell? ⟨g, j * 7 + 2, none⟩ = some (.int .i64 x.tch) ∧ w'.cell? ⟨g, j * 7 + 3, none⟩ = some (.int .i64 x.room) ∧ w'.cell? ⟨g, j * 7 + 4, none⟩ = some (.int .i64 x.day) ∧ w'.cell? ⟨g, j * 7 + 5, none⟩ = some (.int .i64 x.bgn) ∧ w'.cell? ⟨g, j * 7 + 6, none⟩ = some (.int .i64 x.mins) ∧ w'.cell? ⟨g, m * 7, none⟩ = some (.int .i64 y.id) ∧ w'.cell? ⟨g, m * 7 + 1, none⟩ = some (.int .i64 y.cls) ∧ w'.cell? ⟨g, m * 7 + 2, none⟩ = some (.int .i64 y.tch) ∧ w'.cell? ⟨g, m * 7 + 3, none⟩ = some (.int .i64 y.room) ∧ w'.cell? ⟨g, m * 7 + 4, none⟩ = some (.int .i64 y.day) ∧ w'.cell? ⟨g, m * 7 + 5, none⟩ = some (.int .i64 y.bgn) ∧ w'.cell? ⟨g, m * 7 + 6, none⟩ = some (.int .i64 y.mins))) (by kernel_rfl) (⟨a0, a1, a2, a3, a4, a5, a6, b0, b1, b2, b3, b4, b5, b6⟩) (fun hHeld => ?_)
            refine take1 (i := 0) (v := ?v18) (some 18) rfl rfl (by kernel_rfl) (by kernel_rfl) (by kernel_rfl) (fun _ _ _ h => h) (Or.inl ⟨by rfl, ?y18⟩) (by assumption) ?r18
            case y18 => (intro w hSw; (try dsimp only at hSw); go_simp; (first | done | with_reducible rfl))
            try simp only [Act.put, List.setIfInBounds_toArray, List.set_cons_zero, List.set_cons_succ]
            refine take1 (i := 1) (v := ?v19) (some 19) rfl rfl (by kernel_rfl) (by kernel_rfl) (by kernel_rfl) (fun _ _ _ h => h) (Or.inl ⟨by rfl, ?y19⟩) (by assumption) ?r19
            case y19 => (intro w hSw; (try dsimp only at hSw); go_simp; (first | done | with_reducible rfl))
            try simp only [Act.put, List.setIfInBounds_toArray, List.set_cons_zero, List.set_cons_succ]
            refine take1 (i := 2) (v := ?v20) (some 20) rfl rfl (by kernel_rfl) (by kernel_rfl) (by kernel_rfl) (fun _ _ _ h => h) (Or.inl ⟨by rfl, ?y20⟩) (by assumption) ?r20
            case y20 => (intro w hSw; (try dsimp only at hSw); go_simp; (first | done | with_reducible rfl))
            try simp only [Act.put, List.setIfInBounds_toArray, List.set_cons_zero, List.set_cons_succ]
            refine take1 (i := 3) (v := ?v21) (some 21) rfl rfl (by kernel_rfl) (by kernel_rfl) (by kernel_rfl) (fun _ _ _ h => h) (Or.inl ⟨by rfl, ?y21⟩) (by assumption) ?r21
            case y21 => (intro w hSw; (try dsimp only at hSw); go_simp; (first | done | with_reducible rfl))
            try simp only [Act.put, List.setIfInBounds_toArray, List.set_cons_zero, List.set_cons_succ]
            refine take1 (i := 4) (v := ?v22) (some 22) rfl rfl (by kernel_rfl) (by kernel_rfl) (by kernel_rfl) (fun _ _ _ h => h) (Or.inl ⟨by rfl, ?y22⟩) (by assumption) ?r22
            case y22 => (intro w hSw; (try dsimp only at hSw); go_simp; (first | done | with_reducible rfl))
            try simp only [Act.put, List.setIfInBounds_toArray, List.set_cons_zero, List.set_cons_succ]
            refine take1 (i := 5) (v := ?v23) (some 23) rfl rfl (by kernel_rfl) (by kernel_rfl) (by kernel_rfl) (fun _ _ _ h => h) (Or.inl ⟨by rfl, ?y23⟩) (by assumption) ?r23
            case y23 => (intro w hSw; (try dsimp only at hSw); go_simp; (first | done | with_reducible rfl))
            try simp only [Act.put, List.setIfInBounds_toArray, List.set_cons_zero, List.set_cons_succ]
            refine take1 (i := 6) (v := ?v24) (some 24) rfl rfl (by kernel_rfl) (by kernel_rfl) (by kernel_rfl) (fun _ _ _ h => h) (Or.inl ⟨by rfl, ?y24⟩) (by assumption) ?r24
            case y24 => (intro w hSw; (try dsimp only at hSw); go_simp; (first | done | with_reducible rfl))
            try simp only [Act.put, List.setIfInBounds_toArray, List.set_cons_zero, List.set_cons_succ]
            refine take1 (i := 7) (v := ?v25) (some 25) rfl rfl (by kernel_rfl) (by kernel_rfl) (by kernel_rfl) (fun _ _ _ h => h) (Or.inl ⟨by rfl, ?y25⟩) (by assumption) ?r25
            case y25 => (intro w hSw; (try dsimp only at hSw); go_simp; (first | done | with_reducible rfl))
            try simp only [Act.put, List.setIfInBounds_toArray, List.set_cons_zero, List.set_cons_succ]
            refine take1 (i := 8) (v := ?v26) (some 26) rfl rfl (by kernel_rfl) (by kernel_rfl) (by kernel_rfl) (fun _ _ _ h => h) (Or.inl ⟨by rfl, ?y26⟩) (by assumption) ?r26
            case y26 => (intro w hSw; (try dsimp only at hSw); go_simp; (first | done | with_reducible rfl))
            try simp only [Act.put, List.setIfInBounds_toArray, List.set_cons_zero, List.set_cons_succ]
            refine take1 (i := 9) (v := ?v27) (some 27) rfl rfl (by kernel_rfl) (by kernel_rfl) (by kernel_rfl) (fun _ _ _ h => h) (Or.inl ⟨by rfl, ?y27⟩) (by assumption) ?r27
            case y27 => (intro w hSw; (try dsimp only at hSw); go_simp; (first | done | with_reducible rfl))
            try simp only [Act.put, List.setIfInBounds_toArray, List.set_cons_zero, List.set_cons_succ]
            refine take1 (i := 10) (v := ?v28) (some 28) rfl rfl (by kernel_rfl) (by kernel_rfl) (by kernel_rfl) (fun _ _ _ h => h) (Or.inl ⟨by rfl, ?y28⟩) (by assumption) ?r28
            case y28 => (intro w hSw; (try dsimp only at hSw); go_simp; (first | done | with_reducible rfl))
            try simp only [Act.put, List.setIfInBounds_toArray, List.set_cons_zero, List.set_cons_succ]
            refine take1 (i := 11) (v := ?v29) (some 29) rfl rfl (by kernel_rfl) (by kernel_rfl) (by kernel_rfl) (fun _ _ _ h => h) (Or.inl ⟨by rfl, ?y29⟩) (by assumption) ?r29
            case y29 => (intro w hSw; (try dsimp only at hSw); go_simp; (first | done | with_reducible rfl))
            try simp only [Act.put, List.setIfInBounds_toArray, List.set_cons_zero, List.set_cons_succ]
            refine take1 (i := 12) (v := ?v30) (some 30) rfl rfl (by kernel_rfl) (by kernel_rfl) (by kernel_rfl) (fun _ _ _ h => h) (Or.inl ⟨by rfl, ?y30⟩) (by assumption) ?r30
            case y30 => (intro w hSw; (try dsimp only at hSw); go_simp; (first | done | with_reducible rfl))
            try simp only [Act.put, List.setIfInBounds_toArray, List.set_cons_zero, List.set_cons_succ]
            refine take1 (i := 13) (v := ?v31) (some 31) rfl rfl (by kernel_rfl) (by kernel_rfl) (by kernel_rfl) (fun _ _ _ h => h) (Or.inl ⟨by rfl, ?y31⟩) (by assumption) ?r31
            case y31 => (intro w hSw; (try dsimp only at hSw); go_simp; (first | done | with_reducible rfl))
            try simp only [Act.put, List.setIfInBounds_toArray, List.set_cons_zero, List.set_cons_succ]
            refine wpAnyH_ready (rs := [14]) (by kernel_rfl) (by simp) ?_
            refine AllReadyH.cons rfl (fun K hK => ?_) AllReadyH.nil
            go_simp
            go_at_call 60
            refine (HCM.out _).mono ?_
            rintro e w2 ⟨rfl, hb'⟩
            have hb2 : Below wi.heap.size wi w2 := Below.trans (Below.drew (Below.refl _ _)) hb'
            clear hb'
            try go_simp
            refine hK.out _ _ (⟨(hb2.cell (p := ⟨g, _, none⟩) lg).trans a0, (hb2.cell (p := ⟨g, _, none⟩) lg).trans a1, (hb2.cell (p := ⟨g, _, none⟩) lg).trans a2, (hb2.cell (p := ⟨g, _, none⟩) lg).trans a3, (hb2.cell (p := ⟨g, _, none⟩) lg).trans a4, (hb2.cell (p := ⟨g, _, none⟩) lg).trans a5, (hb2.cell (p := ⟨g, _, none⟩) lg).trans a6, (hb2.cell (p := ⟨g, _, none⟩) lg).trans b0, (hb2.cell (p := ⟨g, _, none⟩) lg).trans b1, (hb2.cell (p := ⟨g, _, none⟩) lg).trans b2, (hb2.cell (p := ⟨g, _, none⟩) lg).trans b3, (hb2.cell (p := ⟨g, _, none⟩) lg).trans b4, (hb2.cell (p := ⟨g, _, none⟩) lg).trans b5, (hb2.cell (p := ⟨g, _, none⟩) lg).trans b6⟩) (fun hHeld => ?_)
            clear hK K
            try simp only [Act.put, List.setIfInBounds_toArray, List.set_cons_zero, List.set_cons_succ]
            refine take1 (i := 15) (v := ?v32) (some 33) rfl rfl (by kernel_rfl) (by kernel_rfl) (by kernel_rfl) (fun _ _ _ h => h) (Or.inl ⟨by rfl, ?y32⟩) (by assumption) ?r32
            case y32 => (intro w hSw; (try dsimp only at hSw); go_simp; (first | done | with_reducible rfl))
            try simp only [Act.put, List.setIfInBounds_toArray, List.set_cons_zero, List.set_cons_succ]
            refine take1 (i := 16) (v := ?v33) (some 34) rfl rfl (by kernel_rfl) (by kernel_rfl) (by kernel_rfl) (fun _ _ _ h => h) (Or.inl ⟨by rfl, ?y33⟩) (by assumption) ?r33
            case y33 => (intro w hSw; (try dsimp only at hSw); go_simp; (first | done | with_reducible rfl))
            try simp only [Act.put, List.setIfInBounds_toArray, List.set_cons_zero, List.set_cons_succ]
            refine wpAnyH_done (by kernel_rfl) ?_ _
            have HO2 := Lib.hid (own_below HOi.out hb2)
            have HB2 : Hid (Below lo w w2) := Lib.hid (HBi.out.trans (hb2.mono (Nat.le_trans hlo HBi.out.size)))
            replace a0 := (hb2.cell (p := ⟨g, _, none⟩) lg).trans a0
            replace b0 := (hb2.cell (p := ⟨g, _, none⟩) lg).trans b0
            have fa0 := HO2.out.frozenAt (j * 7)
            have fb0 := HO2.out.frozenAt (m * 7)
            replace a1 := (hb2.cell (p := ⟨g, _, none⟩) lg).trans a1
            replace b1 := (hb2.cell (p := ⟨g, _, none⟩) lg).trans b1
            have fa1 := HO2.out.frozenAt (j * 7 + 1)
            have fb1 := HO2.out.frozenAt (m * 7 + 1)
            replace a2 := (hb2.cell (p := ⟨g, _, none⟩) lg).trans a2
            replace b2 := (hb2.cell (p := ⟨g, _, none⟩) lg).trans b2
            have fa2 := HO2.out.frozenAt (j * 7 + 2)
            have fb2 := HO2.out.frozenAt (m * 7 + 2)
            replace a3 := (hb2.cell (p := ⟨g, _, none⟩) lg).trans a3
            replace b3 := (hb2.cell (p := ⟨g, _, none⟩) lg).trans b3
            have fa3 := HO2.out.frozenAt (j * 7 + 3)
            have fb3 := HO2.out.frozenAt (m * 7 + 3)
            replace a4 := (hb2.cell (p := ⟨g, _, none⟩) lg).trans a4
            replace b4 := (hb2.cell (p := ⟨g, _, none⟩) lg).trans b4
            have fa4 := HO2.out.frozenAt (j * 7 + 4)
            have fb4 := HO2.out.frozenAt (m * 7 + 4)
            replace a5 := (hb2.cell (p := ⟨g, _, none⟩) lg).trans a5
            replace b5 := (hb2.cell (p := ⟨g, _, none⟩) lg).trans b5
            have fa5 := HO2.out.frozenAt (j * 7 + 5)
            have fb5 := HO2.out.frozenAt (m * 7 + 5)
            replace a6 := (hb2.cell (p := ⟨g, _, none⟩) lg).trans a6
            replace b6 := (hb2.cell (p := ⟨g, _, none⟩) lg).trans b6
            have fa6 := HO2.out.frozenAt (j * 7 + 6)
            have fb6 := HO2.out.frozenAt (m * 7 + 6)
            have n0 : ¬ j = m := by have := HM.out; omega
            have n1 : ¬ j * 7 = m * 7 + 1 := by have := HM.out; omega
            have k1 : ¬ j * 7 + 1 = m * 7 := by have := HM.out; omega
            have n2 : ¬ j * 7 = m * 7 + 2 := by have := HM.out; omega
            have k2 : ¬ j * 7 + 2 = m * 7 := by have := HM.out; omega
            have n3 : ¬ j * 7 = m * 7 + 3 := by have := HM.out; omega
            have k3 : ¬ j * 7 + 3 = m * 7 := by have := HM.out; omega
            have n4 : ¬ j * 7 = m * 7 + 4 := by have := HM.out; omega
            have k4 : ¬ j * 7 + 4 = m * 7 := by have := HM.out; omega
            have n5 : ¬ j * 7 = m * 7 + 5 := by have := HM.out; omega
            have k5 : ¬ j * 7 + 5 = m * 7 := by have := HM.out; omega
            have n6 : ¬ j * 7 = m * 7 + 6 := by have := HM.out; omega
            have k6 : ¬ j * 7 + 6 = m * 7 := by have := HM.out; omega
            clear hHeld hb2
            go_wp2_with fail
            go_region
            have HN : Hid (((((((((((((((w2.setCell ⟨g, j * 7, none⟩ (.int .i64 y.id)).setCell ⟨g, j * 7 + 1, none⟩ (.int .i64 y.cls)).setCell ⟨g, j * 7 + 2, none⟩ (.int .i64 y.tch)).setCell ⟨g, j * 7 + 3, none⟩ (.int .i64 y.room)).setCell ⟨g, j * 7 + 4, none⟩ (.int .i64 y.day)).setCell ⟨g, j * 7 + 5, none⟩ (.int .i64 y.bgn)).setCell ⟨g, j * 7 + 6, none⟩ (.int .i64 y.mins)).setCell ⟨g, m * 7, none⟩ (.int .i64 x.id)).setCell ⟨g, m * 7 + 1, none⟩ (.int .i64 x.cls)).setCell ⟨g, m * 7 + 2, none⟩ (.int .i64 x.tch)).setCell ⟨g, m * 7 + 3, none⟩ (.int .i64 x.room)).setCell ⟨g, m * 7 + 4, none⟩ (.int .i64 x.day)).setCell ⟨g, m * 7 + 5, none⟩ (.int .i64 x.bgn)).setCell ⟨g, m * 7 + 6, none⟩ (.int .i64 x.mins)).ownsRow lo 31 7 (.slice (some ⟨g, 0, none⟩) n cap) n (flatC lesC (insAt D x m ++ R))) := Lib.hid (by
              have h6 := ((((((((((((((HO2.out.stored (j * 7) (.int .i64 y.id)).1.stored (j * 7 + 1) (.int .i64 y.cls)).1.stored (j * 7 + 2) (.int .i64 y.tch)).1.stored (j * 7 + 3) (.int .i64 y.room)).1.stored (j * 7 + 4) (.int .i64 y.day)).1.stored (j * 7 + 5) (.int .i64 y.bgn)).1.stored (j * 7 + 6) (.int .i64 y.mins)).1.stored (m * 7) (.int .i64 x.id)).1.stored (m * 7 + 1) (.int .i64 x.cls)).1.stored (m * 7 + 2) (.int .i64 x.tch)).1.stored (m * 7 + 3) (.int .i64 x.room)).1.stored (m * 7 + 4) (.int .i64 x.day)).1.stored (m * 7 + 5) (.int .i64 x.bgn)).1.stored (m * 7 + 6) (.int .i64 x.mins)).1
              have hjl : j < (insAt D x j ++ R).length := by rw [HLN.out]; omega
              have hml : m < ((insAt D x j ++ R).set j y).length := by rw [List.length_set, HLN.out]; omega
              rw [show _ = flatC lesC ((insAt D x j ++ R).set j y) from lesC_set _ j hjl y, lesC_set _ m hml x] at h6
              have e := ins_swap D R x m (by have := HM.out; have := HDL.out; omega)
              rw [HY.out, ← HM.out] at e
              rw [e] at h6
              exact h6)
            have HT : Hid (Below lo w ((((((((((((((w2.setCell ⟨g, j * 7, none⟩ (.int .i64 y.id)).setCell ⟨g, j * 7 + 1, none⟩ (.int .i64 y.cls)).setCell ⟨g, j * 7 + 2, none⟩ (.int .i64 y.tch)).setCell ⟨g, j * 7 + 3, none⟩ (.int .i64 y.room)).setCell ⟨g, j * 7 + 4, none⟩ (.int .i64 y.day)).setCell ⟨g, j * 7 + 5, none⟩ (.int .i64 y.bgn)).setCell ⟨g, j * 7 + 6, none⟩ (.int .i64 y.mins)).setCell ⟨g, m * 7, none⟩ (.int .i64 x.id)).setCell ⟨g, m * 7 + 1, none⟩ (.int .i64 x.cls)).setCell ⟨g, m * 7 + 2, none⟩ (.int .i64 x.tch)).setCell ⟨g, m * 7 + 3, none⟩ (.int .i64 x.room)).setCell ⟨g, m * 7 + 4, none⟩ (.int .i64 x.day)).setCell ⟨g, m * 7 + 5, none⟩ (.int .i64 x.bgn)).setCell ⟨g, m * 7 + 6, none⟩ (.int .i64 x.mins))) := Lib.hid ((((((((((((((HB2.out.setCell (p := ⟨g, j * 7, none⟩) HG.out (.int .i64 y.id)).setCell (p := ⟨g, j * 7 + 1, none⟩) HG.out (.int .i64 y.cls)).setCell (p := ⟨g, j * 7 + 2, none⟩) HG.out (.int .i64 y.tch)).setCell (p := ⟨g, j * 7 + 3, none⟩) HG.out (.int .i64 y.room)).setCell (p := ⟨g, j * 7 + 4, none⟩) HG.out (.int .i64 y.day)).setCell (p := ⟨g, j * 7 + 5, none⟩) HG.out (.int .i64 y.bgn)).setCell (p := ⟨g, j * 7 + 6, none⟩) HG.out (.int .i64 y.mins)).setCell (p := ⟨g, m * 7, none⟩) HG.out (.int .i64 x.id)).setCell (p := ⟨g, m * 7 + 1, none⟩) HG.out (.int .i64 x.cls)).setCell (p := ⟨g, m * 7 + 2, none⟩) HG.out (.int .i64 x.tch)).setCell (p := ⟨g, m * 7 + 3, none⟩) HG.out (.int .i64 x.room)).setCell (p := ⟨g, m * 7 + 4, none⟩) HG.out (.int .i64 x.day)).setCell (p := ⟨g, m * 7 + 5, none⟩) HG.out (.int .i64 x.bgn)).setCell (p := ⟨g, m * 7 + 6, none⟩) HG.out (.int .i64 x.mins))
            generalize ((((((((((((((w2.setCell ⟨g, j * 7, none⟩ (.int .i64 y.id)).setCell ⟨g, j * 7 + 1, none⟩ (.int .i64 y.cls)).setCell ⟨g, j * 7 + 2, none⟩ (.int .i64 y.tch)).setCell ⟨g, j * 7 + 3, none⟩ (.int .i64 y.room)).setCell ⟨g, j * 7 + 4, none⟩ (.int .i64 y.day)).setCell ⟨g, j * 7 + 5, none⟩ (.int .i64 y.bgn)).setCell ⟨g, j * 7 + 6, none⟩ (.int .i64 y.mins)).setCell ⟨g, m * 7, none⟩ (.int .i64 x.id)).setCell ⟨g, m * 7 + 1, none⟩ (.int .i64 x.cls)).setCell ⟨g, m * 7 + 2, none⟩ (.int .i64 x.tch)).setCell ⟨g, m * 7 + 3, none⟩ (.int .i64 x.room)).setCell ⟨g, m * 7 + 4, none⟩ (.int .i64 x.day)).setCell ⟨g, m * 7 + 5, none⟩ (.int .i64 x.bgn)).setCell ⟨g, m * 7 + 6, none⟩ (.int .i64 x.mins)) = w3 at HN HT ⊢
            clear a0 b0 fa0 fb0 a1 b1 fa1 fb1 a2 b2 fa2 fb2 a3 b3 fa3 fb3 a4 b4 fa4 fb4 a5 b5 fa5 fb5 a6 b6 fa6 fb6 n0 n1 n2 n3 n4 n5 n6 k1 k2 k3 k4 k5 k6
            go_wp2_with fail
            go_roundw
            case rel => exact ⟨m, by have := HM.out; omega, by go_num, HJ2.out, (by first | exact HN.out | exact HN.out.drew), (by first | exact HT.out | exact HT.out.drew)⟩
            case measure => have := HM.out; simp [intOf]; omega
          · have hcv : cmpI x.bgn y.bgn = 1 ∨ cmpI x.bgn y.bgn = 0 := by
              unfold cmpI; rw [if_neg hcm]; split
              · exact .inl rfl
              · exact .inr rfl
            obtain ⟨z, hz, hz0⟩ : ∃ z : Int, cmpI x.bgn y.bgn = z ∧ decide (z < 0) = false := ⟨_, rfl, decide_eq_false (by rcases hcv with e | e <;> rw [e] <;> omega)⟩
            rw [hz] at HCM
            have HE : Hid (insAt D x j ++ R = srtL (hs.take (i + 1)) ++ hs.drop (i + 1)) := Lib.hid (HE1.out j HJ.out (by
              rw [HM.out]
              exact insJ_stop (by rw [HY.out]; exact hcm)))
            clear hcm hcv hz
            go_wp2_with fail
            refine wp_region_held_drew (S := (fun w' => w'.cell? ⟨g, j * 7, none⟩ = some (.int .i64 x.id) ∧ w'.cell? ⟨g, j * 7 + 1, none⟩ = some (.int .i64 x.cls) ∧ w'.cell? ⟨g, j * 7 + 2, none⟩ = some (.int .i64 x.tch) ∧ w'.cell? ⟨g, j * 7 + 3, none⟩ = some (.int .i64 x.room) ∧ w'.cell? ⟨g, j * 7 + 4, none⟩ = some (.int .i64 x.day) ∧ w'.cell? ⟨g, j * 7 + 5, none⟩ = some (.int .i64 x.bgn) ∧ w'.cell? ⟨g, j * 7 + 6, none⟩ = some (.int .i64 x.mins) ∧ w'.cell? ⟨g, m * 7, none⟩ = some (.int .i64 y.id) ∧ w'.cell? ⟨g, m * 7 + 1, none⟩ = some (.int .i64 y.cls) ∧ w'.cell? ⟨g, m * 7 + 2, none⟩ = some (.int .i64 y.tch) ∧ w'.cell? ⟨g, m * 7 + 3, none⟩ = some (.int .i64 y.room) ∧ w'.cell? ⟨g, m * 7 + 4, none⟩ = some (.int .i64 y.day) ∧ w'.cell? ⟨g, m * 7 + 5, none⟩ = some (.int .i64 y.bgn) ∧ w'.cell? ⟨g, m * 7 + 6, none⟩ = some (.int .i64 y.mins))) (by kernel_rfl) (⟨a0, a1, a2, a3, a4, a5, a6, b0, b1, b2, b3, b4, b5, b6⟩) (fun hHeld => ?_)
            refine take1 (i := 0) (v := ?v34) (some 18) rfl rfl (by kernel_rfl) (by kernel_rfl) (by kernel_rfl) (fun _ _ _ h => h) (Or.inl ⟨by rfl, ?y34⟩) (by assumption) ?r34
            case y34 => (intro w hSw; (try dsimp only at hSw); go_simp; (first | done | with_reducible rfl))
            try simp only [Act.put, List.setIfInBounds_toArray, List.set_cons_zero, List.set_cons_succ]
            refine take1 (i := 1) (v := ?v35) (some 19) rfl rfl (by kernel_rfl) (by kernel_rfl) (by kernel_rfl) (fun _ _ _ h => h) (Or.inl ⟨by rfl, ?y35⟩) (by assumption) ?r35
            case y35 => (intro w hSw; (try dsimp only at hSw); go_simp; (first | done | with_reducible rfl))
            try simp only [Act.put, List.setIfInBounds_toArray, List.set_cons_zero, List.set_cons_succ]
            refine take1 (i := 2) (v := ?v36) (some 20) rfl rfl (by kernel_rfl) (by kernel_rfl) (by kernel_rfl) (fun _ _ _ h => h) (Or.inl ⟨by rfl, ?y36⟩) (by assumption) ?r36
            case y36 => (intro w hSw; (try dsimp only at hSw); go_simp; (first | done | with_reducible rfl))
            try simp only [Act.put, List.setIfInBounds_toArray, List.set_cons_zero, List.set_cons_succ]
            refine take1 (i := 3) (v := ?v37) (some 21) rfl rfl (by kernel_rfl) (by kernel_rfl) (by kernel_rfl) (fun _ _ _ h => h) (Or.inl ⟨by rfl, ?y37⟩) (by assumption) ?r37
            case y37 => (intro w hSw; (try dsimp only at hSw); go_simp; (first | done | with_reducible rfl))
            try simp only [Act.put, List.setIfInBounds_toArray, List.set_cons_zero, List.set_cons_succ]
            refine take1 (i := 4) (v := ?v38) (some 22) rfl rfl (by kernel_rfl) (by kernel_rfl) (by kernel_rfl) (fun _ _ _ h => h) (Or.inl ⟨by rfl, ?y38⟩) (by assumption) ?r38
            case y38 => (intro w hSw; (try dsimp only at hSw); go_simp; (first | done | with_reducible rfl))
            try simp only [Act.put, List.setIfInBounds_toArray, List.set_cons_zero, List.set_cons_succ]
            refine take1 (i := 5) (v := ?v39) (some 23) rfl rfl (by kernel_rfl) (by kernel_rfl) (by kernel_rfl) (fun _ _ _ h => h) (Or.inl ⟨by rfl, ?y39⟩) (by assumption) ?r39
            case y39 => (intro w hSw; (try dsimp only at hSw); go_simp; (first | done | with_reducible rfl))
            try simp only [Act.put, List.setIfInBounds_toArray, List.set_cons_zero, List.set_cons_succ]
            refine take1 (i := 6) (v := ?v40) (some 24) rfl rfl (by kernel_rfl) (by kernel_rfl) (by kernel_rfl) (fun _ _ _ h => h) (Or.inl ⟨by rfl, ?y40⟩) (by assumption) ?r40
            case y40 => (intro w hSw; (try dsimp only at hSw); go_simp; (first | done | with_reducible rfl))
            try simp only [Act.put, List.setIfInBounds_toArray, List.set_cons_zero, List.set_cons_succ]
            refine take1 (i := 7) (v := ?v41) (some 25) rfl rfl (by kernel_rfl) (by kernel_rfl) (by kernel_rfl) (fun _ _ _ h => h) (Or.inl ⟨by rfl, ?y41⟩) (by assumption) ?r41
            case y41 => (intro w hSw; (try dsimp only at hSw); go_simp; (first | done | with_reducible rfl))
            try simp only [Act.put, List.setIfInBounds_toArray, List.set_cons_zero, List.set_cons_succ]
            refine take1 (i := 8) (v := ?v42) (some 26) rfl rfl (by kernel_rfl) (by kernel_rfl) (by kernel_rfl) (fun _ _ _ h => h) (Or.inl ⟨by rfl, ?y42⟩) (by assumption) ?r42
            case y42 => (intro w hSw; (try dsimp only at hSw); go_simp; (first | done | with_reducible rfl))
            try simp only [Act.put, List.setIfInBounds_toArray, List.set_cons_zero, List.set_cons_succ]
            refine take1 (i := 9) (v := ?v43) (some 27) rfl rfl (by kernel_rfl) (by kernel_rfl) (by kernel_rfl) (fun _ _ _ h => h) (Or.inl ⟨by rfl, ?y43⟩) (by assumption) ?r43
            case y43 => (intro w hSw; (try dsimp only at hSw); go_simp; (first | done | with_reducible rfl))
            try simp only [Act.put, List.setIfInBounds_toArray, List.set_cons_zero, List.set_cons_succ]
            refine take1 (i := 10) (v := ?v44) (some 28) rfl rfl (by kernel_rfl) (by kernel_rfl) (by kernel_rfl) (fun _ _ _ h => h) (Or.inl ⟨by rfl, ?y44⟩) (by assumption) ?r44
            case y44 => (intro w hSw; (try dsimp only at hSw); go_simp; (first | done | with_reducible rfl))
            try simp only [Act.put, List.setIfInBounds_toArray, List.set_cons_zero, List.set_cons_succ]
            refine take1 (i := 11) (v := ?v45) (some 29) rfl rfl (by kernel_rfl) (by kernel_rfl) (by kernel_rfl) (fun _ _ _ h => h) (Or.inl ⟨by rfl, ?y45⟩) (by assumption) ?r45
            case y45 => (intro w hSw; (try dsimp only at hSw); go_simp; (first | done | with_reducible rfl))
            try simp only [Act.put, List.setIfInBounds_toArray, List.set_cons_zero, List.set_cons_succ]
            refine take1 (i := 12) (v := ?v46) (some 30) rfl rfl (by kernel_rfl) (by kernel_rfl) (by kernel_rfl) (fun _ _ _ h => h) (Or.inl ⟨by rfl, ?y46⟩) (by assumption) ?r46
            case y46 => (intro w hSw; (try dsimp only at hSw); go_simp; (first | done | with_reducible rfl))
            try simp only [Act.put, List.setIfInBounds_toArray, List.set_cons_zero, List.set_cons_succ]
            refine take1 (i := 13) (v := ?v47) (some 31) rfl rfl (by kernel_rfl) (by kernel_rfl) (by kernel_rfl) (fun _ _ _ h => h) (Or.inl ⟨by rfl, ?y47⟩) (by assumption) ?r47
            case y47 => (intro w hSw; (try dsimp only at hSw); go_simp; (first | done | with_reducible rfl))
            try simp only [Act.put, List.setIfInBounds_toArray, List.set_cons_zero, List.set_cons_succ]
            refine wpAnyH_ready (rs := [14]) (by kernel_rfl) (by simp) ?_
            refine AllReadyH.cons rfl (fun K hK => ?_) AllReadyH.nil
            go_simp
            go_at_call 60
            refine (HCM.out _).mono ?_
            rintro e w2 ⟨rfl, hb'⟩
            have hb2 : Below wi.heap.size wi w2 := Below.trans (Below.drew (Below.refl _ _)) hb'
            clear hb'
            try go_simp
            refine hK.out _ _ (⟨(hb2.cell (p := ⟨g, _, none⟩) lg).trans a0, (hb2.cell (p := ⟨g, _, none⟩) lg).trans a1, (hb2.cell (p := ⟨g, _, none⟩) lg).trans a2, (hb2.cell (p := ⟨g, _, none⟩) lg).trans a3, (hb2.cell (p := ⟨g, _, none⟩) lg).trans a4, (hb2.cell (p := ⟨g, _, none⟩) lg).trans a5, (hb2.cell (p := ⟨g, _, none⟩) lg).trans a6, (hb2.cell (p := ⟨g, _, none⟩) lg).trans b0, (hb2.cell (p := ⟨g, _, none⟩) lg).trans b1, (hb2.cell (p := ⟨g, _, none⟩) lg).trans b2, (hb2.cell (p := ⟨g, _, none⟩) lg).trans b3, (hb2.cell (p := ⟨g, _, none⟩) lg).trans b4, (hb2.cell (p := ⟨g, _, none⟩) lg).trans b5, (hb2.cell (p := ⟨g, _, none⟩) lg).trans b6⟩) (fun hHeld => ?_)
            clear hK K
            try simp only [Act.put, List.setIfInBounds_toArray, List.set_cons_zero, List.set_cons_succ]
            refine take1 (i := 15) (v := ?v48) (some 33) rfl rfl (by kernel_rfl) (by kernel_rfl) (by kernel_rfl) (fun _ _ _ h => h) (Or.inl ⟨by rfl, ?y48⟩) (by assumption) ?r48
            case y48 => (intro w hSw; (try dsimp only at hSw); go_simp; (first | done | with_reducible rfl))
            try simp only [Act.put, List.setIfInBounds_toArray, List.set_cons_zero, List.set_cons_succ]
            refine take1 (i := 16) (v := ?v49) (some 34) rfl rfl (by kernel_rfl) (by kernel_rfl) (by kernel_rfl) (fun _ _ _ h => h) (Or.inl ⟨by rfl, ?y49⟩) (by assumption) ?r49
            case y49 => (intro w hSw; (try dsimp only at hSw); go_simp; (first | done | with_reducible rfl))
            try simp only [Act.put, List.setIfInBounds_toArray, List.set_cons_zero, List.set_cons_succ]
            refine wpAnyH_done (by kernel_rfl) ?_ _
            have HO2 : Hid (w2.ownsRow lo 31 7 (.slice (some ⟨g, 0, none⟩) n cap) n (flatC lesC (srtL (hs.take (i + 1)) ++ hs.drop (i + 1)))) := Lib.hid (by rw [← HE.out]; exact own_below HOi.out hb2)
            have HB2 : Hid (Below lo w w2) := Lib.hid (HBi.out.trans (hb2.mono (Nat.le_trans hlo HBi.out.size)))
            clear hHeld hb2 a0 b0 a1 b1 a2 b2 a3 b3 a4 b4 a5 b5 a6 b6
            go_wp2_with fail
            go_roundw
            case rel => exact ⟨i + 1, by omega, by omega, by go_num, HO2.out, HB2.out⟩
            case measure => simp [intOf]; omega
    · have hge : ¬ (i : Int) < (n : Int) := by omega
      have HE : Hid (srtL (hs.take i) ++ hs.drop i = srtL hs) := Lib.hid (by
        have := HL.out
        rw [List.take_of_length_le (by omega), List.drop_of_length_le (by omega), List.append_nil])
      go_wp2_with fail
      go_end0
      exact ⟨rfl, by rw [← HE.out]; exact HOo.out, HBo.out⟩
set_option maxRecDepth 100000 in
set_option maxHeartbeats 1600000 in
theorem stable_any (g n cap lo : Nat) (hs : List Les) (w : World) (hl : hs.length = n) (h12 : n ≤ 12) (hlo : lo ≤ w.heap.size) (ho : w.ownsRow lo 31 7 (.slice (some ⟨g, 0, none⟩) n cap) n (flatC lesC (hs))) :
    Calls Tryd.prog 69 #[.slice (some ⟨g, 0, none⟩) n cap, .int .i64 n, .func (.func 60) #[] #[]] w fun e w' => e = .returned (.tuple #[]) ∧ w'.ownsRow lo 31 7 (.slice (some ⟨g, 0, none⟩) n cap) n (flatC lesC (srtL hs)) ∧ Below lo w w' := by
  have HC := Lib.hid (insort_any g n cap lo hs w hl h12 hlo ho)
  have n1 : ¬ (20 : Int) ≤ (n : Int) := by omega
  have n2 : ¬ (20 : Int) < (n : Int) := by omega
  clear hl ho
  go_enter Tryd.func69, Tryd.ntmps69
  go_wp2_with fail
  go_loopw [7, 8] (fun a b wr => a = .int .i64 0 ∧ b = .int .i64 20 ∧ wr = w) (fun _ _ _ => 0)
  case atStart => exact ⟨rfl, rfl, rfl⟩
  case round =>
    obtain ⟨rfl, rfl, rfl⟩ := hrel
    go_wp2_with fail
    refine HC.out.mono ?_
    rintro e w2 ⟨rfl, ho2, hb2⟩
    have HO2 := Lib.hid ho2
    have HB2 := Lib.hid hb2
    clear ho2 hb2
    go_wp2_with fail
    go_loopw [6] (fun a wr => a = .int .i64 20 ∧ wr = w2) (fun _ _ => 0)
    case atStart => exact ⟨rfl, rfl⟩
    case round =>
      obtain ⟨rfl, rfl⟩ := hrel
      go_wp2_with fail
      go_end0
      exact ⟨rfl, HO2.out, HB2.out⟩
set_option maxRecDepth 100000 in
set_option maxHeartbeats 800000 in
theorem sortStable_any (g n cap lo : Nat) (hs : List Les) (w : World) (hl : hs.length = n) (h12 : n ≤ 12) (hlo : lo ≤ w.heap.size) (ho : w.ownsRow lo 31 7 (.slice (some ⟨g, 0, none⟩) n cap) n (flatC lesC (hs))) :
    Calls Tryd.prog 59 #[.slice (some ⟨g, 0, none⟩) n cap, .func (.func 60) #[] #[]] w fun e w' => e = .returned (.tuple #[]) ∧ w'.ownsRow lo 31 7 (.slice (some ⟨g, 0, none⟩) n cap) n (flatC lesC (srtL hs)) ∧ Below lo w w' := by
  have HC := Lib.hid (stable_any g n cap lo hs w hl h12 hlo ho)
  clear hl ho
  go_enter Tryd.func59, Tryd.ntmps59
  go_wp2_with fail
  refine HC.out.mono ?_
  rintro e w2 ⟨rfl, ho2, hb2⟩
  have HO2 := Lib.hid ho2
  have HB2 := Lib.hid hb2
  clear ho2 hb2
  go_wp2_with fail
  go_end0
  exact ⟨rfl, HO2.out, HB2.out⟩
end Go.Proofs.YtblbeoeklkcamaaDoor
