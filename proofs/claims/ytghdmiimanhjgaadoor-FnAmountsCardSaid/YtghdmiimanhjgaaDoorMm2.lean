/- The model's proper amount with a value. -/
import Derived.Test.YtghdmiimanhjgaaDoorMm1
import Derived.Test.YtghdmiimanhjgaaDoorAppn
import Derived.OwnWalk
import Derived.Maps.AppendAt
namespace Go.Proofs.YtghdmiimanhjgaaDoor
set_option linter.unusedVariables false
open Go.RowKit

def propK (us : List Un) (v : Int) (k : Nat) : List Int := (List.range k).map (digV us v)
theorem propK_len (us : List Un) (v : Int) (k : Nat) : (propK us v k).length = k := by simp [propK]
theorem propK_snoc (us : List Un) (v : Int) (k : Nat) : propK us v (k + 1) = propK us v k ++ [digV us v k] := by unfold propK; rw [List.range_succ, List.map_append]; rfl
theorem OwA.push {lo hi : Nat} {w w' : World} {v1 v' : Value} {ls : List Int} {x : Int} (h : OwA lo hi w v1 ls) (ho : w'.ownsRow lo 3 1 v' (ls.length + 1) (flatC inC ls ++ [.int .i64 x])) : OwA lo w'.heap.size w' v' (ls ++ [x]) := by
  refine ⟨?_, fun g hg => (ho.lt g hg).2⟩
  rw [flatC_app, List.length_append]; simpa [flatC, inC] using ho

set_option maxRecDepth 100000 in
set_option maxHeartbeats 3200000 in
theorem l7Proper_any (v : Value) (us : List Un) (n : Int) (w : World) (h : RowsR 2 unC w v us) (hs : ∀ u ∈ us, u.nm.size ≤ maxLen) (ho : okS us) (h1 : n ≤ 9223372036854775807) (qs : List Int) (r : Bool) (hk : PropF us n qs r) :
    Calls Tryd.prog 30 #[v, .int .i64 n] w fun e w' => (∃ s1, e = .returned (.tuple #[.agg #[s1], .bool r]) ∧ OwA w.heap.size w'.heap.size w' s1 qs) ∧ Below w.heap.size w w' := by
  have hu6 : us.length ≤ 6 := ho.1.2
  have hu1 : 1 ≤ us.length := ho.1.1
  obtain ⟨a, cp, rfl⟩ := h.form
  have HO := Lib.hid ho
  have HS := Lib.hid hs
  have HK := Lib.hid hk
  have A2 := Lib.hid (szS_at h)
  have HRW := Lib.hid h
  by_cases h0 : n < 0
  · have HN : Hid (qs = [] ∧ r = false) := Lib.hid (by
      rcases hk with ⟨h3, _⟩ | ⟨_, h3, h4⟩
      · exact absurd h3.1 (by omega)
      · exact ⟨h3, h4⟩)
    have HB0 : Hid (Below w.heap.size w w) := Lib.hid (Below.refl _ _)
    clear h hs ho hk
    go_enter Tryd.func30, Tryd.ntmps30
    go_wp2_with fail
    have hb : Below w.heap.size w (w.alloc (.cells #[.slice none 0 0] 27)) := (Below.refl _ _).alloc (Nat.le_refl _) _
    have hk : (w.alloc (.cells #[.slice none 0 0] 27)).heap[w.heap.size]? = some (.cells #[.slice none 0 0] 27 (0, 0)) := alloc_at rfl
    have hz : (w.alloc (.cells #[.slice none 0 0] 27)).heap.size = w.heap.size + 1 := by simp
    generalize w.alloc (.cells #[.slice none 0 0] 27) = w1 at hb hk hz ⊢
    have HB1 : Hid (Below w.heap.size w w1) := Lib.hid (HB0.out.trans (hb.mono HB0.out.size))
    have HZ1 : Hid (w.heap.size ≤ w1.heap.size) := Lib.hid hb.size
    have HKz1 := Lib.hid hk
    replace HZ1 : Hid (w.heap.size < w1.heap.size) := Lib.hid (by omega)
    have HE1 := Lib.hid hz
    clear hb hk hz
    have ltz := lt_of_block HKz1.out
    obtain ⟨cz0, fz0⟩ := cell1 HKz1.out
    go_wp2_with fail
    exact bodyPost_ret (v := .tuple #[.agg #[.slice none 0 0], .bool false]) (by simp [results, Tryd.results30, go_sem, cz0]) rfl ⟨⟨_, by rw [HN.out.2], by rw [HN.out.1]; exact OwA.nil _ _ _⟩, by first | exact HB1.out | exact HB1.out.setCell (p := ⟨w.heap.size, 0, none⟩) (Nat.le_refl _) _⟩
  obtain ⟨i0, hi, hz0, hz1, hz2⟩ := info_parts Tryd.infoI5
  have hn0 : 0 ≤ n := by omega
  have HB0 : Hid (Below w.heap.size w w) := Lib.hid (Below.refl _ _)
  clear h hs ho hk
  go_enter Tryd.func30, Tryd.ntmps30
  go_wp2_with fail
  have hb : Below w.heap.size w (w.alloc (.cells #[.slice none 0 0] 27)) := (Below.refl _ _).alloc (Nat.le_refl _) _
  have hk : (w.alloc (.cells #[.slice none 0 0] 27)).heap[w.heap.size]? = some (.cells #[.slice none 0 0] 27 (0, 0)) := alloc_at rfl
  have hz : (w.alloc (.cells #[.slice none 0 0] 27)).heap.size = w.heap.size + 1 := by simp
  generalize w.alloc (.cells #[.slice none 0 0] 27) = w1 at hb hk hz ⊢
  have HB1 : Hid (Below w.heap.size w w1) := Lib.hid (HB0.out.trans (hb.mono HB0.out.size))
  have HZ1 : Hid (w.heap.size ≤ w1.heap.size) := Lib.hid hb.size
  have HKz1 := Lib.hid hk
  replace HZ1 : Hid (w.heap.size < w1.heap.size) := Lib.hid (by omega)
  have HE1 := Lib.hid hz
  clear hb hk hz
  have hb : Below w1.heap.size w1 (w1.alloc (.cells #[.slice none 0 0] 27)) := (Below.refl _ _).alloc (Nat.le_refl _) _
  have hk : (w1.alloc (.cells #[.slice none 0 0] 27)).heap[w.heap.size + 1]? = some (.cells #[.slice none 0 0] 27 (0, 0)) := alloc_at (by have := HE1.out; omega)
  have hz : (w1.alloc (.cells #[.slice none 0 0] 27)).heap.size = w1.heap.size + 1 := by simp
  generalize w1.alloc (.cells #[.slice none 0 0] 27) = w2 at hb hk hz ⊢
  have HB2 : Hid (Below w.heap.size w w2) := Lib.hid (HB1.out.trans (hb.mono HB1.out.size))
  have HZ2 : Hid (w1.heap.size ≤ w2.heap.size) := Lib.hid hb.size
  have HKz2 := Lib.hid ((hb.block _ (lt_of_block HKz1.out)).trans HKz1.out)
  have HKo2 := Lib.hid hk
  replace HZ2 : Hid (w1.heap.size < w2.heap.size) := Lib.hid (by omega)
  have HE2 := Lib.hid hz
  clear hb hk hz
  have ltz := lt_of_block HKz2.out
  obtain ⟨cz0, fz0⟩ := cell1 HKz2.out
  have lto := lt_of_block HKo2.out
  obtain ⟨co0, fo0⟩ := cell1 HKo2.out
  have hlz : w.heap.size < w2.heap.size := ltz
  have hlo : w.heap.size + 1 < w2.heap.size := lto
  go_wp2_with fail
  go_loopw [1, 7] (fun nv iv wr => ∃ (k : Nat) (m : Int) (p1 : Option Addr) (k1 : Nat), k ≤ us.length ∧ iv = .int .i64 k ∧ nv = .int .i64 m ∧ Hid (m = curV us n (if k < us.length then k else us.length - 1)) ∧ (0 ≤ m ∧ m ≤ 9223372036854775807) ∧ wr.heap[w.heap.size]? = some (.cells #[.slice none 0 0] 27 (0, 0)) ∧
    wr.heap[w.heap.size + 1]? = some (.cells #[.slice p1 k k1] 27 (0, 0)) ∧ OwA w2.heap.size wr.heap.size wr (.slice p1 k k1) (propK us n k) ∧ Below w.heap.size w wr ∧ w2.heap.size ≤ wr.heap.size) (fun _ i _ => us.length - (intOf i).toNat)
  case atStart => exact ⟨0, n, none, 0, Nat.zero_le _, rfl, rfl, Lib.hid (by rw [if_pos (by omega)]; rfl), ⟨hn0, h1⟩, HKz2.out, HKo2.out, OwA.nil _ _ _, HB2.out, Nat.le_refl _⟩
  case round =>
    obtain ⟨k, m, p1, k1, hk, rfl, rfl, HM, ⟨m0, m1⟩, hkz, hko, hown, hb, hsz⟩ := hrel
    have HKZ := Lib.hid hkz
    have HKO := Lib.hid hko
    have HOW := Lib.hid hown
    have HB := Lib.hid hb
    have HSZ := Lib.hid hsz
    by_cases hlt : k < us.length
    · have z0 : (k : Int) < (us.length : Int) := by omega
      have hll := propK_len us n k
      have HM2 : Hid (m = curV us n k) := Lib.hid (by have := HM.out; rwa [if_pos hlt] at this)
      obtain ⟨o0, f0⟩ := cell1 hko
      by_cases hl2 : k + 1 < us.length
      · obtain ⟨b1, o1, rfl, _, _, q0⟩ := A2.out _ hb (k + 1) hl2
        have hsb := okS_sz HO.out (k + 1)
        have HD : Hid (digV us n k = m % szU us (k + 1)) := Lib.hid (by rw [HM2.out, digV, if_pos hl2])
        have HC : Hid (curV us n (k + 1) = m / szU us (k + 1)) := Lib.hid (by rw [HM2.out, curV])
        generalize szU us (k + 1) = z at q0 hsb HD HC
        obtain ⟨y, hy⟩ : ∃ y, m.tmod z = y := ⟨_, rfl⟩
        obtain ⟨m', hm'⟩ : ∃ m', IntKind.i64.wrap (m.tdiv z) = m' := ⟨_, rfl⟩
        have HY : Hid (y = digV us n k) := Lib.hid (by rw [← hy, HD.out, Int.tmod_eq_emod_of_nonneg m0])
        have hml : 0 ≤ m / z ∧ m / z ≤ m := ⟨Int.ediv_nonneg m0 (by omega), Int.ediv_le_self _ m0⟩
        have HN : Hid (m' = m / z) := Lib.hid (by rw [← hm', Int.tdiv_eq_ediv_of_nonneg m0, wrap_small _ (by omega) (by omega)])
        have HNB : Hid (0 ≤ m / z ∧ m / z ≤ m) := Lib.hid hml
        have HME : Hid (m' = curV us n (if k + 1 < us.length then k + 1 else us.length - 1)) := Lib.hid (by rw [if_pos hl2, HC.out, HN.out])
        have y1 : (k : Int) + 1 < (us.length : Int) := by omega
        have y2 : (0 : Int) ≤ (k : Int) + 1 := by omega
        have y3 : (z == 0) = false := beq_eq_false_iff_ne.2 (by omega)
        have y4 : z ≠ 0 := by omega
        clear hkz hko hown hb hsz hml
        go_wp2_with (at_builtin; refine wpList_append_own _ rfl _ _ 25 rfl w2.heap.size 3 i0 (.int .i64 0) 1 8 Tryd.underlying25 hi hz0 hz1 hz2 rfl (by decide) _ _ _ rfl (HOW.out.1.alloc _) ⟨wr.heap.size, 0, none⟩ 1 1 [.int .i64 y] rfl rfl ?c1 ?c2 ?c3 ?c4 ?c5 ?_)
        try (case c1 => exact cell_one_new _ _ _)
        case c2 => first | rfl | (intro u hu; rw [List.mem_singleton.1 hu]; rfl)
        case c3 => first | (unfold maxLen; omega) | omega
        case c4 => omega
        case c5 => have := HSZ.out; simp; omega
        intro v' w3 hown3 hgrow3 _
        obtain ⟨p3, k3, rfl⟩ := own_form hown3
        have HO3 := Lib.hid (HOW.out.push (by rw [hll]; exact hown3))
        have HB3 : Hid (Below w.heap.size w w3) := Lib.hid ((HB.out.alloc HB.out.size _).grown hgrow3 (by have := HSZ.out; simp; omega) (fun q hq => by have := (HOW.out.1.lt q hq).1; omega))
        have HSZ3 : Hid (w2.heap.size ≤ w3.heap.size) := Lib.hid (by have h1 := hgrow3.size; have := HSZ.out; simp at h1; omega)
        have hne : ∀ q, q < w2.heap.size → some q ≠ (Value.slice p1 k k1).ownBlock := fun q hq e => by have := (HOW.out.1.lt q e.symm).1; omega
        have HKZ3 := Lib.hid ((hgrow3.block w.heap.size (by have := HSZ.out; simp; omega) (hne _ hlz)).trans ((alloc_old (by have := HSZ.out; omega)).trans HKZ.out))
        have HKO3 := Lib.hid ((hgrow3.block (w.heap.size + 1) (by have := HSZ.out; simp; omega) (hne _ hlo)).trans ((alloc_old (by have := HSZ.out; omega)).trans HKO.out))
        clear hown3 hgrow3 o0 f0 hne
        obtain ⟨o0, f0⟩ := cell1 HKO3.out
        have HO4 := Lib.hid (HO3.out.set (a := ⟨w.heap.size + 1, 0, none⟩) hlo (.slice p3 (k + 1) k3))
        have HKO4 := Lib.hid (box1_set HKO3.out (.slice p3 (k + 1) k3))
        have HSS : Hid ((w3.setCell ⟨w.heap.size + 1, 0, none⟩ (.slice p3 (k + 1) k3)).heap.size = w3.heap.size) := Lib.hid (by simp [World.setCell])
        have HKZ4 : Hid ((w3.setCell ⟨w.heap.size + 1, 0, none⟩ (.slice p3 (k + 1) k3)).heap[w.heap.size]? = some (.cells #[.slice none 0 0] 27 (0, 0))) := Lib.hid ((Below.heap_setCell _ ⟨w.heap.size + 1, 0, none⟩ _ _ (by show w.heap.size ≠ w.heap.size + 1; omega)).trans HKZ3.out)
        have HB4 := Lib.hid (HB3.out.setCell (p := ⟨w.heap.size + 1, 0, none⟩) (Nat.le_succ _) (.slice p3 (k + 1) k3))
        go_wp2_with fail
        go_roundw
        case rel =>
          refine ⟨k + 1, m', p3, k3, by omega, by go_num, rfl, HME.out |> Lib.hid, by have := HN.out; have := HNB.out; omega, HKZ4.out, HKO4.out, ?_, HB4.out, by have := HSZ3.out; rw [HSS.out]; omega⟩
          rw [HSS.out, propK_snoc, ← HY.out]
          exact HO4.out
        case measure => simp [intOf]; omega
      · have HY : Hid (m = digV us n k) := Lib.hid (by rw [HM2.out, digV, if_neg hl2])
        have HME : Hid (m = curV us n (if k + 1 < us.length then k + 1 else us.length - 1)) := Lib.hid (by rw [if_neg hl2, HM2.out, show us.length - 1 = k by omega])
        have y1 : ¬ (k : Int) + 1 < (us.length : Int) := by omega
        have y5 : (us.length : Int) ≤ (k : Int) + 1 := by omega
        have y6 : decide (k + 1 < us.length) = false := decide_eq_false hl2
        have y7 : decide ((k : Int) + 1 < (us.length : Int)) = false := decide_eq_false y1
        clear hkz hko hown hb hsz hlt hl2
        go_wp2_with (at_builtin; refine wpList_append_own _ rfl _ _ 25 rfl w2.heap.size 3 i0 (.int .i64 0) 1 8 Tryd.underlying25 hi hz0 hz1 hz2 rfl (by decide) _ _ _ rfl (HOW.out.1.alloc _) ⟨wr.heap.size, 0, none⟩ 1 1 [.int .i64 m] rfl rfl ?d1 ?d2 ?d3 ?d4 ?d5 ?_)
        try (case d1 => exact cell_one_new _ _ _)
        case d2 => first | rfl | (intro u hu; rw [List.mem_singleton.1 hu]; rfl)
        case d3 => first | (unfold maxLen; omega) | omega
        case d4 => omega
        case d5 => have := HSZ.out; simp; omega
        intro v' w3 hown3 hgrow3 _
        obtain ⟨p3, k3, rfl⟩ := own_form hown3
        have HO3 := Lib.hid (HOW.out.push (by rw [hll]; exact hown3))
        have HB3 : Hid (Below w.heap.size w w3) := Lib.hid ((HB.out.alloc HB.out.size _).grown hgrow3 (by have := HSZ.out; simp; omega) (fun q hq => by have := (HOW.out.1.lt q hq).1; omega))
        have HSZ3 : Hid (w2.heap.size ≤ w3.heap.size) := Lib.hid (by have h1 := hgrow3.size; have := HSZ.out; simp at h1; omega)
        have hne : ∀ q, q < w2.heap.size → some q ≠ (Value.slice p1 k k1).ownBlock := fun q hq e => by have := (HOW.out.1.lt q e.symm).1; omega
        have HKZ3 := Lib.hid ((hgrow3.block w.heap.size (by have := HSZ.out; simp; omega) (hne _ hlz)).trans ((alloc_old (by have := HSZ.out; omega)).trans HKZ.out))
        have HKO3 := Lib.hid ((hgrow3.block (w.heap.size + 1) (by have := HSZ.out; simp; omega) (hne _ hlo)).trans ((alloc_old (by have := HSZ.out; omega)).trans HKO.out))
        clear hown3 hgrow3 o0 f0 hne
        obtain ⟨o0, f0⟩ := cell1 HKO3.out
        have HO4 := Lib.hid (HO3.out.set (a := ⟨w.heap.size + 1, 0, none⟩) hlo (.slice p3 (k + 1) k3))
        have HKO4 := Lib.hid (box1_set HKO3.out (.slice p3 (k + 1) k3))
        have HSS : Hid ((w3.setCell ⟨w.heap.size + 1, 0, none⟩ (.slice p3 (k + 1) k3)).heap.size = w3.heap.size) := Lib.hid (by simp [World.setCell])
        have HKZ4 : Hid ((w3.setCell ⟨w.heap.size + 1, 0, none⟩ (.slice p3 (k + 1) k3)).heap[w.heap.size]? = some (.cells #[.slice none 0 0] 27 (0, 0))) := Lib.hid ((Below.heap_setCell _ ⟨w.heap.size + 1, 0, none⟩ _ _ (by show w.heap.size ≠ w.heap.size + 1; omega)).trans HKZ3.out)
        have HB4 := Lib.hid (HB3.out.setCell (p := ⟨w.heap.size + 1, 0, none⟩) (Nat.le_succ _) (.slice p3 (k + 1) k3))
        go_wp2_with fail
        go_roundw
        case rel =>
          refine ⟨k + 1, m, p3, k3, by omega, by go_num, rfl, HME.out |> Lib.hid, by omega, HKZ4.out, HKO4.out, ?_, HB4.out, by have := HSZ3.out; rw [HSS.out]; omega⟩
          rw [HSS.out, propK_snoc, ← HY.out]
          exact HO4.out
        case measure => simp [intOf]; omega
    · obtain rfl : k = us.length := by omega
      have HM2 : Hid (m = curV us n (us.length - 1)) := Lib.hid (by have := HM.out; rwa [if_neg (Nat.lt_irrefl _)] at this)
      clear hkz hko hown hb hsz hlt
      obtain ⟨o0, f0⟩ := cell1 HKO.out
      obtain ⟨q0, g0⟩ := cell1 HKZ.out
      have hzr : w.heap.size < wr.heap.size := by have := HSZ.out; omega
      have HLQ := Lib.hid (propK_len us n us.length)
      have HPR : Hid (RowsR 1 inC wr (.slice p1 us.length k1) (propK us n us.length)) := Lib.hid (by have := HOW.out.reads; exact this)
      rcases HK.out with ⟨h2, hq1, rfl⟩ | ⟨h2, hq1, rfl⟩
      · subst hq1
        have HA : Hid (okAm us (propL us n)) := Lib.hid (prop_ok HO.out h2)
        have hcall := fun (wq : World) (hbq : Below wr.heap.size wr wq) => l7Amount_any _ (.slice p1 us.length k1) us (propL us n) wq (HRW.out.below (HB.out.trans (hbq.mono HB.out.size)) (Nat.le_refl _)) HS.out (HPR.out.below hbq (Nat.le_refl _)) true ⟨fun _ => HA.out, fun _ => rfl⟩
        have HCALL := Lib.hid hcall
        clear hcall h2
        go_wp2_with fail
        refine (HCALL.out wr (Below.refl _ _)).mono ?_
        rintro e w9 ⟨rfl, hb9⟩
        have HB9 := Lib.hid hb9
        have o9 := (hb9.cell (p := ⟨w.heap.size + 1, 0, none⟩) (lt_of_block HKO.out)).trans o0
        have HZ9 := Lib.hid ((hb9.block _ (lt_of_block HKZ.out)).trans HKZ.out)
        obtain ⟨q9, g9⟩ := cell1 HZ9.out
        have hz9 : w.heap.size < w9.heap.size := lt_of_block HZ9.out
        clear hb9 o0 f0 q0 g0
        go_wp2_with fail
        exact bodyPost_ret (v := .tuple #[.agg #[.slice p1 us.length k1], .bool true]) (by simp [results, Tryd.results30, go_sem, q9]) rfl ⟨⟨_, rfl, ((HOW.out.next HB9.out).set (a := ⟨w.heap.size, 0, none⟩) hlz _).mono (by have := HB2.out.size; omega) (by have := HB9.out.size; simp [World.setCell]; omega)⟩, ((HB.out.trans (HB9.out.mono HB.out.size))).setCell (p := ⟨w.heap.size, 0, none⟩) (Nat.le_refl _) _⟩
      · subst hq1
        have HA : Hid (¬ okAm us (propL us n)) := Lib.hid (fun ha => prop_no HO.out hn0 h2 ha.2.2)
        have hcall := fun (wq : World) (hbq : Below wr.heap.size wr wq) => l7Amount_any _ (.slice p1 us.length k1) us (propL us n) wq (HRW.out.below (HB.out.trans (hbq.mono HB.out.size)) (Nat.le_refl _)) HS.out (HPR.out.below hbq (Nat.le_refl _)) false ⟨fun e => (by simp at e), fun e => absurd e HA.out⟩
        have HCALL := Lib.hid hcall
        clear hcall h2
        go_wp2_with fail
        refine (HCALL.out wr (Below.refl _ _)).mono ?_
        rintro e w9 ⟨rfl, hb9⟩
        have HB9 := Lib.hid hb9
        have HZ9 := Lib.hid ((hb9.block _ (lt_of_block HKZ.out)).trans HKZ.out)
        obtain ⟨q9, g9⟩ := cell1 HZ9.out
        have hz9 : w.heap.size < w9.heap.size := lt_of_block HZ9.out
        clear hb9 o0 f0 q0 g0
        go_wp2_with fail
        exact bodyPost_ret (v := .tuple #[.agg #[.slice none 0 0], .bool false]) (by simp [results, Tryd.results30, go_sem, q9]) rfl ⟨⟨_, rfl, OwA.nil _ _ _⟩, by first | exact ((HB.out.trans (HB9.out.mono HB.out.size))).setCell (p := ⟨w.heap.size, 0, none⟩) (Nat.le_refl _) _ | exact (HB.out.trans (HB9.out.mono HB.out.size))⟩
end Go.Proofs.YtghdmiimanhjgaaDoor
