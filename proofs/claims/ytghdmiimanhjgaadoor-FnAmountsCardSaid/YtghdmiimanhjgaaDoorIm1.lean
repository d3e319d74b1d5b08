/- The program's tests of systems and amounts, ValueIn. -/
import Derived.Test.YtghdmiimanhjgaaDoorMm1
import Derived.Test.YtghdmiimanhjgaaDoorPi1
import Derived.Test.YtghdmiimanhjgaaDoorKa
namespace Go.Proofs.YtghdmiimanhjgaaDoor
set_option linter.unusedVariables false
open Go.RowKit

set_option maxRecDepth 100000 in
set_option maxHeartbeats 800000 in
theorem isNm_any (nm : ByteArray) (B : Nat) (u : Un) (w : World) (hc : w.cell? ⟨B, 0, none⟩ = some (.string nm)) :
    Calls Tryd.prog 46 #[unV u, .pointer (some ⟨B, 0, none⟩)] w fun e w' => e = .returned (.bool (decide (u.nm = nm))) ∧ Below w.heap.size w w' := by
  obtain ⟨un, sz⟩ := u
  show Calls Tryd.prog 46 #[.agg #[.string un, .int .i64 sz], .pointer (some ⟨B, 0, none⟩)] w fun e w' => e = .returned (.bool (decide (un = nm))) ∧ Below w.heap.size w w'
  have hB : B < w.heap.size := cell_lt hc
  have hne : B ≠ w.heap.size := by omega
  by_cases h : un = nm
  · subst h
    rw [decide_eq_true rfl]
    have hss : (un.toList == un.toList) = true := by simp
    go_enter Tryd.func46, Tryd.ntmps46
    go_wp2_with fail
    go_ret
    exact ⟨rfl, (Below.refl _ _).alloc (Nat.le_refl _) _⟩
  · have hb : (un.toList == nm.toList) = false := neS h
    rw [decide_eq_false h]
    go_enter Tryd.func46, Tryd.ntmps46
    go_wp2_with fail
    go_ret
    exact ⟨rfl, (Below.refl _ _).alloc (Nat.le_refl _) _⟩
/-- Where the first unit with a name is. -/
def IdxU (us : List Un) (nm : ByteArray) (r : Int) : Prop := (∃ k : Nat, (∃ h : k < us.length, us[k].nm = nm ∧ ∀ j (hj : j < us.length), j < k → us[j].nm ≠ nm) ∧ r = k) ∨ ((∀ j (hj : j < us.length), us[j].nm ≠ nm) ∧ r = -1)
theorem idxU_or (us : List Un) (nm : ByteArray) : ∃ r, IdxU us nm r := by
  obtain ⟨p, hp, h1, h2⟩ := first_bad' us.length (fun i h => us[i].nm ≠ nm)
  by_cases hlt : p < us.length
  · exact ⟨_, .inl ⟨p, ⟨hlt, Classical.not_not.1 (h2 hlt), h1⟩, rfl⟩⟩
  · exact ⟨_, .inr ⟨fun j hj => h1 j hj (by omega), rfl⟩⟩
set_option maxRecDepth 100000 in
set_option maxHeartbeats 1600000 in
theorem indexU_scan (v : Value) (us : List Un) (nm : ByteArray) (B : Nat) (w : World) (h : RowsR 2 unC w v us) (hcell : w.cell? ⟨B, 0, none⟩ = some (.string nm)) (K : Nat) (hK : K ≤ us.length) (hpre : ∀ j (hj : j < us.length), j < K → us[j].nm ≠ nm) (hx : ∀ hj : K < us.length, us[K].nm = nm) (r : Int) (hr1 : K < us.length → r = K) (hr2 : ¬ K < us.length → r = -1) :
    Calls Tryd.prog 45 #[v, .func (.func 46) #[] #[.pointer (some ⟨B, 0, none⟩)]] w fun e w' => e = .returned (.int .i64 r) ∧ Below w.heap.size w w' := by
  have hm : us.length ≤ 9223372036854775807 := by obtain ⟨_, _, _, ⟨m, _⟩, _⟩ := h; exact m
  obtain ⟨a, cp, rfl⟩ := h.form
  have R1 := Lib.hid h.at
  have HP := Lib.hid hpre
  have HX := Lib.hid hx
  have HR1 := Lib.hid hr1
  have HR2 := Lib.hid hr2
  have hB : B < w.heap.size := cell_lt hcell
  have HC := Lib.hid (fun w' (hb : Below w.heap.size w w') => (hb.cell (p := ⟨B, 0, none⟩) hB).trans hcell)
  clear h hpre hx hr1 hr2 hcell
  go_enter Tryd.func45, Tryd.ntmps45
  go_wp2_with fail
  go_loopw [8] (fun i wr => ∃ n : Nat, n ≤ K ∧ i = .int .i64 n ∧ Below w.heap.size w wr) (fun i _ => us.length - (intOf i).toNat)
  case atStart => exact ⟨0, Nat.zero_le _, rfl, Below.refl _ _⟩
  case round =>
    obtain ⟨n, hn, rfl, hb⟩ := hrel
    have HB := Lib.hid hb
    by_cases hlt : n < us.length
    · have z1 : (0 : Int) ≤ (n : Int) := by omega
      have z2 : (n : Int) < (us.length : Int) := by omega
      obtain ⟨b1, o1, rfl, l1, k1⟩ := R1.out _ hb n hlt
      have p0 : wr.cell? ⟨b1, o1 + n * 2, none⟩ = some (.string us[n].nm) := k1 0 (by omega)
      have p1 : wr.cell? ⟨b1, o1 + n * 2 + 1, none⟩ = some (.int .i64 us[n].sz) := k1 1 (by omega)
      have hcall := isNm_any nm B us[n] wr (HC.out _ hb)
      by_cases hq : us[n].nm = nm
      · have HE : Hid (n = K) := Lib.hid (by
          rcases Nat.lt_or_ge n K with h' | h'
          · exact absurd hq (HP.out n hlt h')
          · omega)
        rw [decide_eq_true hq] at hcall
        have HCALL := Lib.hid hcall
        generalize us[n] = q at p0 p1 HCALL
        clear hq k1 hb hcall
        go_wp2_with (go_at_call 46; refine HCALL.out.mono ?_; rintro e w2 ⟨rfl, hb2⟩)
        go_ret
        exact ⟨ret_int (by rw [HR1.out (by have := HE.out; omega), HE.out]), HB.out.trans (hb2.mono HB.out.size)⟩
      · have HE : Hid (n < K) := Lib.hid (by
          rcases Nat.lt_or_ge n K with h' | h'
          · exact h'
          · obtain rfl : n = K := by omega
            exact absurd (HX.out hlt) hq)
        rw [decide_eq_false hq] at hcall
        have HCALL := Lib.hid hcall
        generalize us[n] = q at p0 p1 HCALL
        clear hq k1 hb hcall
        go_wp2_with (go_at_call 46; refine HCALL.out.mono ?_; rintro e w2 ⟨rfl, hb2⟩)
        go_roundw
        case rel => exact ⟨n + 1, HE.out, by go_num, HB.out.trans (hb2.mono HB.out.size)⟩
        case measure => simp [intOf]; omega
    · have HE : Hid (¬ K < us.length) := Lib.hid (by omega)
      clear hb
      go_wp2_with fail
      go_ret
      exact ⟨ret_int (HR2.out HE.out).symm, HB.out⟩
theorem indexU_any (v : Value) (us : List Un) (nm : ByteArray) (B : Nat) (w : World) (h : RowsR 2 unC w v us) (hcell : w.cell? ⟨B, 0, none⟩ = some (.string nm)) (r : Int) (hr : IdxU us nm r) :
    Calls Tryd.prog 45 #[v, .func (.func 46) #[] #[.pointer (some ⟨B, 0, none⟩)]] w fun e w' => e = .returned (.int .i64 r) ∧ Below w.heap.size w w' := by
  rcases hr with ⟨k, ⟨hk, h1, h2⟩, rfl⟩ | ⟨hno, rfl⟩
  · exact indexU_scan v us nm B w h hcell k (Nat.le_of_lt hk) h2 (fun _ => h1) k (fun _ => rfl) (fun h => absurd hk h)
  · exact indexU_scan v us nm B w h hcell us.length (Nat.le_refl _) (fun j hj _ => hno j hj) (fun h => absurd h (Nat.lt_irrefl _)) (-1) (fun h => absurd h (Nat.lt_irrefl _)) (fun _ => rfl)
set_option maxRecDepth 100000 in
set_option maxHeartbeats 800000 in
theorem unitIndex_any (v : Value) (us : List Un) (nm : ByteArray) (w : World) (h : RowsR 2 unC w v us) (r : Int) (hr : IdxU us nm r) :
    Calls Tryd.prog 34 #[v, .string nm] w fun e w' => e = .returned (.int .i64 r) ∧ Below w.heap.size w w' := by
  have HR := Lib.hid hr
  have HB0 : Hid (Below w.heap.size w w) := Lib.hid (Below.refl _ _)
  have HRu0 := Lib.hid (h)
  clear h hr
  go_enter Tryd.func34, Tryd.ntmps34
  go_wp2_with fail
  have hb : Below w.heap.size w (w.alloc (.cells #[.string nm] 9)) := (Below.refl _ _).alloc (Nat.le_refl _) _
  have hk : (w.alloc (.cells #[.string nm] 9)).heap[w.heap.size]? = some (.cells #[.string nm] 9 (0, 0)) := alloc_at rfl
  have hz : (w.alloc (.cells #[.string nm] 9)).heap.size = w.heap.size + 1 := by simp
  generalize w.alloc (.cells #[.string nm] 9) = w1 at hb hk hz ⊢
  have HB1 : Hid (Below w.heap.size w w1) := Lib.hid (HB0.out.trans (hb.mono HB0.out.size))
  have HZ1 : Hid (w.heap.size ≤ w1.heap.size) := Lib.hid hb.size
  have HRu1 := Lib.hid (HRu0.out.below HB1.out (Nat.le_refl _))
  have HKf1 := Lib.hid hk
  replace HZ1 : Hid (w.heap.size < w1.heap.size) := Lib.hid (by omega)
  have HE1 := Lib.hid hz
  clear hb hk hz
  have ltf := lt_of_block HKf1.out
  obtain ⟨cf0, ff0⟩ := cell1 HKf1.out
  refine (indexU_any _ us nm w.heap.size _ HRu1.out cf0 r HR.out).mono ?_
  rintro e w2 ⟨rfl, hb⟩
  have HB2 : Hid (Below w.heap.size w w2) := Lib.hid (HB1.out.trans (hb.mono HB1.out.size))
  have HZ2 : Hid (w1.heap.size ≤ w2.heap.size) := Lib.hid hb.size
  have HRu2 := Lib.hid (HRu0.out.below HB2.out (Nat.le_refl _))
  have HKf2 := Lib.hid ((hb.block _ (lt_of_block HKf1.out)).trans HKf1.out)
  clear hb
  clear cf0 ff0 ltf
  have ltf := lt_of_block HKf2.out
  obtain ⟨cf0, ff0⟩ := cell1 HKf2.out
  go_wp2_with fail
  go_ret
  exact ⟨rfl, HB2.out⟩
set_option maxRecDepth 100000 in
set_option maxHeartbeats 800000 in
theorem isSizeAt_any (k : Nat) (s : Int) (w : World) (r : Bool) (hr : r = true ↔ szOk k s) :
    Calls Tryd.prog 37 #[.int .i64 k, .int .i64 s] w fun e w' => e = .returned (.bool r) ∧ w' = w := by
  have HR := Lib.hid hr
  clear hr
  by_cases hk0 : k = 0
  · have hke : ((k : Int) == 0) = true := by rw [beq_iff_eq]; omega
    have hke2 : (k == 0) = true := by rw [beq_iff_eq]; omega
    by_cases hs : s = 1
    · have HN : Hid (r = true) := Lib.hid (HR.out.2 ⟨fun _ => hs, fun h => absurd h (by omega)⟩)
      have hd : (s == 1) = true := by rw [hs]; rfl
      clear hs hk0
      go_enter Tryd.func37, Tryd.ntmps37
      go_wp2_with fail
      go_ret
      exact ⟨ret_bool HN.out.symm, rfl⟩
    · have HN : Hid (r = false) := Lib.hid (by
        cases hb : r with
        | false => rfl
        | true => exact absurd ((HR.out.1 hb).1 hk0) hs)
      have hd : (s == 1) = false := beq_eq_false_iff_ne.2 hs
      clear hs hk0
      go_enter Tryd.func37, Tryd.ntmps37
      go_wp2_with fail
      go_ret
      exact ⟨ret_bool HN.out.symm, rfl⟩
  · have hke : ((k : Int) == 0) = false := beq_eq_false_iff_ne.2 (by omega)
    have hke2 : (k == 0) = false := beq_eq_false_iff_ne.2 hk0
    by_cases hs : 2 ≤ s
    · by_cases hs2 : s ≤ 100
      · have HN : Hid (r = true) := Lib.hid (HR.out.2 ⟨fun h => absurd h hk0, fun _ => ⟨hs, hs2⟩⟩)
        clear hk0
        go_enter Tryd.func37, Tryd.ntmps37
        go_wp2_with fail
        go_ret
        exact ⟨ret_bool (by first | (simp [HN.out]; done) | (simp [HN.out]; omega)), rfl⟩
      · have HN : Hid (r = false) := Lib.hid (by
          cases hb : r with
          | false => rfl
          | true => exact absurd ((HR.out.1 hb).2 (by omega)).2 hs2)
        clear hk0
        go_enter Tryd.func37, Tryd.ntmps37
        go_wp2_with fail
        go_ret
        exact ⟨ret_bool (by first | (simp [HN.out]; done) | (simp [HN.out]; omega)), rfl⟩
    · have HN : Hid (r = false) := Lib.hid (by
        cases hb : r with
        | false => rfl
        | true => exact absurd ((HR.out.1 hb).2 (by omega)).1 hs)
      clear hk0
      go_enter Tryd.func37, Tryd.ntmps37
      go_wp2_with fail
      go_ret
      exact ⟨ret_bool HN.out.symm, rfl⟩
set_option maxRecDepth 100000 in
set_option maxHeartbeats 3200000 in
theorem iSystem_scan (v : Value) (us : List Un) (w : World) (h : RowsR 2 unC w v us) (hs : ∀ u ∈ us, u.nm.size ≤ maxLen) (hl : 1 ≤ us.length ∧ us.length ≤ 6) (p : Nat) (hp : p ≤ us.length) (hpre : ∀ i (h : i < us.length), i < p → uGood us i h) (hx : ∀ h : p < us.length, ¬ uGood us p h) (r : Bool) (hr1 : p < us.length → r = false) (hr2 : ¬ p < us.length → r = true) :
    Calls Tryd.prog 13 #[v] w fun e w' => e = .returned (.bool r) ∧ Below w.heap.size w w' := by
  obtain ⟨a, cp, rfl⟩ := h.form
  have R1 := Lib.hid h.at
  have HP := Lib.hid hpre
  have HX := Lib.hid hx
  have HR1 := Lib.hid hr1
  have HR2 := Lib.hid hr2
  have HS := Lib.hid hs
  obtain ⟨hl1, hl6⟩ := hl
  have hcap : us.length ≤ cp := by obtain ⟨_, _, e, ⟨_, m⟩, _⟩ := h; obtain ⟨_, _, rfl⟩ := Value.slice.inj e; exact m
  have HB0 : Hid (Below w.heap.size w w) := Lib.hid (Below.refl _ _)
  have HRu0 := Lib.hid (h)
  clear h hpre hx hr1 hr2 hs
  go_enter Tryd.func13, Tryd.ntmps13
  go_wp2_with fail
  go_loopw [15] (fun i wr => ∃ k : Nat, k ≤ p ∧ i = .int .i64 k ∧ Below w.heap.size w wr) (fun i _ => us.length - (intOf i).toNat)
  case atStart => exact ⟨0, Nat.zero_le _, rfl, Below.refl _ _⟩
  case round =>
    obtain ⟨k, hk, rfl, hb⟩ := hrel
    by_cases hlt : k < us.length
    · have z1 : (0 : Int) ≤ (k : Int) := by omega
      have z2 : (k : Int) < (us.length : Int) := by omega
      have z3 : k ≤ cp := by omega
      have HB10 : Hid (Below w.heap.size w wr) := Lib.hid hb
      have HRu10 := Lib.hid (HRu0.out.below HB10.out (Nat.le_refl _))
      obtain ⟨b1, o1, rfl, l1, k1⟩ := R1.out _ hb k hlt
      have p0 : wr.cell? ⟨b1, o1 + k * 2, none⟩ = some (.string us[k].nm) := k1 0 (by omega)
      have p1 : wr.cell? ⟨b1, o1 + k * 2 + 1, none⟩ = some (.int .i64 us[k].sz) := k1 1 (by omega)
      have HSN : Hid (us[k].nm.size ≤ maxLen) := Lib.hid (HS.out _ (List.getElem_mem hlt))
      have HKP : Hid (uGood us k hlt → k + 1 ≤ p) := Lib.hid (fun hg => by
        rcases Nat.lt_or_ge k p with h' | h'
        · omega
        · obtain rfl : k = p := by omega
          exact absurd hg (HX.out hlt))
      have HRF : Hid (¬ uGood us k hlt → r = false) := Lib.hid (fun hn => by
        rcases Nat.lt_or_ge k p with h' | h'
        · exact absurd (HP.out k hlt h') hn
        · obtain rfl : k = p := by omega
          exact HR1.out hlt)
      obtain ⟨IX, hix⟩ := idxU_or (us.take k) us[k].nm
      obtain ⟨RS, hrs⟩ : ∃ RS : Bool, RS = true ↔ szOk k us[k].sz := by
        by_cases h : szOk k us[k].sz
        · exact ⟨true, fun _ => h, fun _ => rfl⟩
        · exact ⟨false, fun e => (by simp at e), fun e => absurd e h⟩
      have HU : Hid (uGood us k hlt ↔ (isWord us[k].nm ∧ RS = true ∧ IX = -1)) := Lib.hid (by
        have htl : (us.take k).length = k := by rw [List.length_take]; omega
        constructor
        · rintro ⟨g1, g2, g3⟩
          refine ⟨g1, hrs.2 g2, ?_⟩
          rcases hix with ⟨j, ⟨hj, hj1, _⟩, _⟩ | ⟨_, e⟩
          · rw [List.getElem_take] at hj1
            exact absurd hj1 (g3 j (by omega))
          · exact e
        · rintro ⟨g1, g2, g3⟩
          refine ⟨g1, hrs.1 g2, fun j hj => ?_⟩
          rcases hix with ⟨j', _, e⟩ | ⟨hno, _⟩
          · omega
          · have := hno j (by omega)
            rwa [List.getElem_take] at this)
      have HI0 : Hid (IX = -1 ∨ 0 ≤ IX) := Lib.hid (by
        rcases hix with ⟨j', _, e⟩ | ⟨hno, e⟩
        · right; omega
        · exact .inl e)
      have HIX := Lib.hid hix
      have HRS := Lib.hid hrs
      generalize us[k].nm = nm at p0 HSN HU HIX
      generalize us[k].sz = sz at p1 HU HRS
      clear k1 hb hix hrs
      by_cases hw : isWord nm
      · have HW := Lib.hid hw
        clear hw
        rcases HI0.out with hi | hi
        · cases hRS : RS with
          | true =>
            have HG := Lib.hid (HKP.out (HU.out.2 ⟨HW.out, hRS, hi⟩))
            subst hi
            subst hRS
            go_wp2_with fail
            have hb : Below wr.heap.size wr (wr.alloc (.cells #[.string nm, .int .i64 sz] 40)) := (Below.refl _ _).alloc (Nat.le_refl _) _
            have hk : (wr.alloc (.cells #[.string nm, .int .i64 sz] 40)).heap[wr.heap.size]? = some (.cells #[.string nm, .int .i64 sz] 40 (0, 0)) := alloc_at rfl
            have hz : (wr.alloc (.cells #[.string nm, .int .i64 sz] 40)).heap.size = wr.heap.size + 1 := by simp
            generalize wr.alloc (.cells #[.string nm, .int .i64 sz] 40) = w11 at hb hk hz ⊢
            have HB11 : Hid (Below w.heap.size w w11) := Lib.hid (HB10.out.trans (hb.mono HB10.out.size))
            have HZ11 : Hid (wr.heap.size ≤ w11.heap.size) := Lib.hid hb.size
            have HRu11 := Lib.hid (HRu0.out.below HB11.out (Nat.le_refl _))
            have HKx11 := Lib.hid hk
            replace HZ11 : Hid (wr.heap.size < w11.heap.size) := Lib.hid (by omega)
            have HE11 := Lib.hid hz
            clear hb hk hz
            have ltx := lt_of_block HKx11.out
            obtain ⟨cx0, cx1, fx0, fx1⟩ := cell2 HKx11.out
            clear p0 p1
            refine wp_region_held_drew (S := (fun w' => w'.cell? ⟨wr.heap.size, 0, none⟩ = some (.string nm) ∧ w'.cell? ⟨wr.heap.size, 1, none⟩ = some (.int .i64 sz))) (by kernel_rfl) (⟨cx0, cx1⟩) (fun hHeld => ?_)
            have hb : Below w11.heap.size w11 w11.drew := (Below.refl _ _).drew
            generalize w11.drew = w12 at hb hHeld ⊢
            have HB12 : Hid (Below w.heap.size w w12) := Lib.hid (HB11.out.trans (hb.mono HB11.out.size))
            have HZ12 : Hid (w11.heap.size ≤ w12.heap.size) := Lib.hid hb.size
            have HRu12 := Lib.hid (HRu0.out.below HB12.out (Nat.le_refl _))
            have HKx12 := Lib.hid ((hb.block _ (lt_of_block HKx11.out)).trans HKx11.out)
            clear hb
            clear cx0 cx1 fx0 fx1 ltx
            have ltx := lt_of_block HKx12.out
            obtain ⟨cx0, cx1, fx0, fx1⟩ := cell2 HKx12.out
            refine take1 (i := 0) (v := ?v1) (some 20) rfl rfl (by kernel_rfl) (by kernel_rfl) (by kernel_rfl) (fun _ _ _ h => h) (Or.inl ⟨by rfl, ?y1⟩) (by assumption) ?r1
            case y1 => (intro w hSw; (try dsimp only at hSw); go_simp; (first | done | with_reducible rfl))
            try simp only [Act.put, List.setIfInBounds_toArray, List.set_cons_zero, List.set_cons_succ]
            refine take1 (i := 1) (v := ?v2) (some 21) rfl rfl (by kernel_rfl) (by kernel_rfl) (by kernel_rfl) (fun _ _ _ h => h) (Or.inl ⟨by rfl, ?y2⟩) (by assumption) ?r2
            case y2 => (intro w hSw; (try dsimp only at hSw); go_simp; (first | done | with_reducible rfl))
            try simp only [Act.put, List.setIfInBounds_toArray, List.set_cons_zero, List.set_cons_succ]
            refine wpAnyH_ready (rs := [2]) (by kernel_rfl) (by simp) ?_
            refine AllReadyH.cons rfl (fun K hK => ?_) AllReadyH.nil
            go_simp
            go_at_call 36
            refine (isWord_yes nm _ HW.out).mono ?_
            rintro e w' ⟨rfl, hw'⟩
            subst w'
            try go_simp
            refine hK.out _ _ (⟨cx0, cx1⟩) (fun hHeld => ?_)
            clear hK K
            try simp only [Act.put, List.setIfInBounds_toArray, List.set_cons_zero, List.set_cons_succ]
            refine take1 (i := 3) (v := ?v3) (some 23) rfl rfl (by kernel_rfl) (by kernel_rfl) (by kernel_rfl) (fun _ _ _ h => h) (Or.inl ⟨by rfl, ?y3⟩) (by assumption) ?r3
            case y3 => (intro w hSw; (try dsimp only at hSw); go_simp; (first | done | with_reducible rfl))
            try simp only [Act.put, List.setIfInBounds_toArray, List.set_cons_zero, List.set_cons_succ]
            refine take1 (i := 4) (v := ?v4) (some 24) rfl rfl (by kernel_rfl) (by kernel_rfl) (by kernel_rfl) (fun _ _ _ h => h) (Or.inl ⟨by rfl, ?y4⟩) (by assumption) ?r4
            case y4 => (intro w hSw; (try dsimp only at hSw); go_simp; (first | done | with_reducible rfl))
            try simp only [Act.put, List.setIfInBounds_toArray, List.set_cons_zero, List.set_cons_succ]
            refine take1 (i := 5) (v := ?v5) (some 25) rfl rfl (by kernel_rfl) (by kernel_rfl) (by kernel_rfl) (fun _ _ _ h => h) (Or.inl ⟨by rfl, ?y5⟩) (by assumption) ?r5
            case y5 => (intro w hSw; (try dsimp only at hSw); go_simp; (first | done | with_reducible rfl))
            try simp only [Act.put, List.setIfInBounds_toArray, List.set_cons_zero, List.set_cons_succ]
            refine take1 (i := 6) (v := ?v6) (some 26) rfl rfl (by kernel_rfl) (by kernel_rfl) (by kernel_rfl) (fun _ _ _ h => h) (Or.inl ⟨by rfl, ?y6⟩) (by assumption) ?r6
            case y6 => (intro w hSw; (try dsimp only at hSw); go_simp; (first | done | with_reducible rfl))
            try simp only [Act.put, List.setIfInBounds_toArray, List.set_cons_zero, List.set_cons_succ]
            refine take1 (i := 7) (v := ?v7) (some 27) rfl rfl (by kernel_rfl) (by kernel_rfl) (by kernel_rfl) (fun _ _ _ h => h) (Or.inl ⟨by rfl, ?y7⟩) (by assumption) ?r7
            case y7 => (intro w hSw; (try dsimp only at hSw); go_simp; (first | done | with_reducible rfl))
            try simp only [Act.put, List.setIfInBounds_toArray, List.set_cons_zero, List.set_cons_succ]
            refine take1 (i := 8) (v := ?v8) (some 28) rfl rfl (by kernel_rfl) (by kernel_rfl) (by kernel_rfl) (fun _ _ _ h => h) (Or.inl ⟨by rfl, ?y8⟩) (by assumption) ?r8
            case y8 => (intro w hSw; (try dsimp only at hSw); go_simp; (first | done | with_reducible rfl))
            try simp only [Act.put, List.setIfInBounds_toArray, List.set_cons_zero, List.set_cons_succ]
            refine take1 (i := 9) (v := ?v9) (some 29) rfl rfl (by kernel_rfl) (by kernel_rfl) (by kernel_rfl) (fun _ _ _ h => h) (Or.inl ⟨by rfl, ?y9⟩) (by assumption) ?r9
            case y9 => (intro w hSw; (try dsimp only at hSw); go_simp; (first | done | with_reducible rfl))
            try simp only [Act.put, List.setIfInBounds_toArray, List.set_cons_zero, List.set_cons_succ]
            refine wpAnyH_ready (rs := [10]) (by kernel_rfl) (by simp) ?_
            refine AllReadyH.cons rfl (fun K hK => ?_) AllReadyH.nil
            go_simp
            go_at_call 34
            refine (unitIndex_any _ (us.take k) nm _ (rows_take HRu12.out k (by omega)) (-1) HIX.out).mono ?_
            rintro e w13 ⟨rfl, hb⟩
            have HB13 : Hid (Below w.heap.size w w13) := Lib.hid (HB12.out.trans (hb.mono HB12.out.size))
            have HZ13 : Hid (w12.heap.size ≤ w13.heap.size) := Lib.hid hb.size
            have HRu13 := Lib.hid (HRu0.out.below HB13.out (Nat.le_refl _))
            have HKx13 := Lib.hid ((hb.block _ (lt_of_block HKx12.out)).trans HKx12.out)
            clear hb
            clear cx0 cx1 fx0 fx1 ltx
            have ltx := lt_of_block HKx13.out
            obtain ⟨cx0, cx1, fx0, fx1⟩ := cell2 HKx13.out
            try go_simp
            refine hK.out _ _ (⟨cx0, cx1⟩) (fun hHeld => ?_)
            clear hK K
            try simp only [Act.put, List.setIfInBounds_toArray, List.set_cons_zero, List.set_cons_succ]
            refine take1 (i := 11) (v := ?v10) (some 31) rfl rfl (by kernel_rfl) (by kernel_rfl) (by kernel_rfl) (fun _ _ _ h => h) (Or.inl ⟨by rfl, ?y10⟩) (by assumption) ?r10
            case y10 => (intro w hSw; (try dsimp only at hSw); go_simp; (first | done | with_reducible rfl))
            try simp only [Act.put, List.setIfInBounds_toArray, List.set_cons_zero, List.set_cons_succ]
            refine take1 (i := 12) (v := ?v11) (some 32) rfl rfl (by kernel_rfl) (by kernel_rfl) (by kernel_rfl) (fun _ _ _ h => h) (Or.inl ⟨by rfl, ?y11⟩) (by assumption) ?r11
            case y11 => (intro w hSw; (try dsimp only at hSw); go_simp; (first | done | with_reducible rfl))
            try simp only [Act.put, List.setIfInBounds_toArray, List.set_cons_zero, List.set_cons_succ]
            refine take1 (i := 13) (v := ?v12) (some 33) rfl rfl (by kernel_rfl) (by kernel_rfl) (by kernel_rfl) (fun _ _ _ h => h) (Or.inl ⟨by rfl, ?y12⟩) (by assumption) ?r12
            case y12 => (intro w hSw; (try dsimp only at hSw); go_simp; (first | done | with_reducible rfl))
            try simp only [Act.put, List.setIfInBounds_toArray, List.set_cons_zero, List.set_cons_succ]
            refine take1 (i := 14) (v := ?v13) (some 34) rfl rfl (by kernel_rfl) (by kernel_rfl) (by kernel_rfl) (fun _ _ _ h => h) (Or.inl ⟨by rfl, ?y13⟩) (by assumption) ?r13
            case y13 => (intro w hSw; (try dsimp only at hSw); go_simp; (first | done | with_reducible rfl))
            try simp only [Act.put, List.setIfInBounds_toArray, List.set_cons_zero, List.set_cons_succ]
            refine take1 (i := 15) (v := ?v14) (some 35) rfl rfl (by kernel_rfl) (by kernel_rfl) (by kernel_rfl) (fun _ _ _ h => h) (Or.inl ⟨by rfl, ?y14⟩) (by assumption) ?r14
            case y14 => (intro w hSw; (try dsimp only at hSw); go_simp; (first | done | with_reducible rfl))
            try simp only [Act.put, List.setIfInBounds_toArray, List.set_cons_zero, List.set_cons_succ]
            refine take1 (i := 16) (v := ?v15) (some 36) rfl rfl (by kernel_rfl) (by kernel_rfl) (by kernel_rfl) (fun _ _ _ h => h) (Or.inl ⟨by rfl, ?y15⟩) (by assumption) ?r15
            case y15 => (intro w hSw; (try dsimp only at hSw); go_simp; (first | done | with_reducible rfl))
            try simp only [Act.put, List.setIfInBounds_toArray, List.set_cons_zero, List.set_cons_succ]
            refine wpAnyH_ready (rs := [17]) (by kernel_rfl) (by simp) ?_
            refine AllReadyH.cons rfl (fun K hK => ?_) AllReadyH.nil
            go_simp
            go_at_call 37
            refine (isSizeAt_any k sz _ true (by simpa using HRS.out)).mono ?_
            rintro e w' ⟨rfl, hw'⟩
            subst w'
            try go_simp
            refine hK.out _ _ (⟨cx0, cx1⟩) (fun hHeld => ?_)
            clear hK K
            try simp only [Act.put, List.setIfInBounds_toArray, List.set_cons_zero, List.set_cons_succ]
            refine take1 (i := 18) (v := ?v16) (some 38) rfl rfl (by kernel_rfl) (by kernel_rfl) (by kernel_rfl) (fun _ _ _ h => h) (Or.inl ⟨by rfl, ?y16⟩) (by assumption) ?r16
            case y16 => (intro w hSw; (try dsimp only at hSw); go_simp; (first | done | with_reducible rfl))
            try simp only [Act.put, List.setIfInBounds_toArray, List.set_cons_zero, List.set_cons_succ]
            refine take1 (i := 19) (v := ?v17) (some 39) rfl rfl (by kernel_rfl) (by kernel_rfl) (by kernel_rfl) (fun _ _ _ h => h) (Or.inl ⟨by rfl, ?y17⟩) (by assumption) ?r17
            case y17 => (intro w hSw; (try dsimp only at hSw); go_simp; (first | done | with_reducible rfl))
            try simp only [Act.put, List.setIfInBounds_toArray, List.set_cons_zero, List.set_cons_succ]
            refine wpAnyH_done (by kernel_rfl) ?_ _
            go_wp2_with fail
            go_roundw
            case rel => exact ⟨k + 1, HG.out, by go_num, HB13.out⟩
            case measure => simp [intOf]; omega
          | false =>
            have HN := Lib.hid (HRF.out (fun hg => by have := (HU.out.1 hg).2.1; rw [hRS] at this; cases this))
            subst hi
            subst hRS
            go_wp2_with fail
            have hb : Below wr.heap.size wr (wr.alloc (.cells #[.string nm, .int .i64 sz] 40)) := (Below.refl _ _).alloc (Nat.le_refl _) _
            have hk : (wr.alloc (.cells #[.string nm, .int .i64 sz] 40)).heap[wr.heap.size]? = some (.cells #[.string nm, .int .i64 sz] 40 (0, 0)) := alloc_at rfl
            have hz : (wr.alloc (.cells #[.string nm, .int .i64 sz] 40)).heap.size = wr.heap.size + 1 := by simp
            generalize wr.alloc (.cells #[.string nm, .int .i64 sz] 40) = w11 at hb hk hz ⊢
            have HB11 : Hid (Below w.heap.size w w11) := Lib.hid (HB10.out.trans (hb.mono HB10.out.size))
            have HZ11 : Hid (wr.heap.size ≤ w11.heap.size) := Lib.hid hb.size
            have HRu11 := Lib.hid (HRu0.out.below HB11.out (Nat.le_refl _))
            have HKx11 := Lib.hid hk
            replace HZ11 : Hid (wr.heap.size < w11.heap.size) := Lib.hid (by omega)
            have HE11 := Lib.hid hz
            clear hb hk hz
            have ltx := lt_of_block HKx11.out
            obtain ⟨cx0, cx1, fx0, fx1⟩ := cell2 HKx11.out
            clear p0 p1
            refine wp_region_held_drew (S := (fun w' => w'.cell? ⟨wr.heap.size, 0, none⟩ = some (.string nm) ∧ w'.cell? ⟨wr.heap.size, 1, none⟩ = some (.int .i64 sz))) (by kernel_rfl) (⟨cx0, cx1⟩) (fun hHeld => ?_)
            have hb : Below w11.heap.size w11 w11.drew := (Below.refl _ _).drew
            generalize w11.drew = w12 at hb hHeld ⊢
            have HB12 : Hid (Below w.heap.size w w12) := Lib.hid (HB11.out.trans (hb.mono HB11.out.size))
            have HZ12 : Hid (w11.heap.size ≤ w12.heap.size) := Lib.hid hb.size
            have HRu12 := Lib.hid (HRu0.out.below HB12.out (Nat.le_refl _))
            have HKx12 := Lib.hid ((hb.block _ (lt_of_block HKx11.out)).trans HKx11.out)
            clear hb
            clear cx0 cx1 fx0 fx1 ltx
            have ltx := lt_of_block HKx12.out
            obtain ⟨cx0, cx1, fx0, fx1⟩ := cell2 HKx12.out
            refine take1 (i := 0) (v := ?v18) (some 20) rfl rfl (by kernel_rfl) (by kernel_rfl) (by kernel_rfl) (fun _ _ _ h => h) (Or.inl ⟨by rfl, ?y18⟩) (by assumption) ?r18
            case y18 => (intro w hSw; (try dsimp only at hSw); go_simp; (first | done | with_reducible rfl))
            try simp only [Act.put, List.setIfInBounds_toArray, List.set_cons_zero, List.set_cons_succ]
            refine take1 (i := 1) (v := ?v19) (some 21) rfl rfl (by kernel_rfl) (by kernel_rfl) (by kernel_rfl) (fun _ _ _ h => h) (Or.inl ⟨by rfl, ?y19⟩) (by assumption) ?r19
            case y19 => (intro w hSw; (try dsimp only at hSw); go_simp; (first | done | with_reducible rfl))
            try simp only [Act.put, List.setIfInBounds_toArray, List.set_cons_zero, List.set_cons_succ]
            refine wpAnyH_ready (rs := [2]) (by kernel_rfl) (by simp) ?_
            refine AllReadyH.cons rfl (fun K hK => ?_) AllReadyH.nil
            go_simp
            go_at_call 36
            refine (isWord_yes nm _ HW.out).mono ?_
            rintro e w' ⟨rfl, hw'⟩
            subst w'
            try go_simp
            refine hK.out _ _ (⟨cx0, cx1⟩) (fun hHeld => ?_)
            clear hK K
            try simp only [Act.put, List.setIfInBounds_toArray, List.set_cons_zero, List.set_cons_succ]
            refine take1 (i := 3) (v := ?v20) (some 23) rfl rfl (by kernel_rfl) (by kernel_rfl) (by kernel_rfl) (fun _ _ _ h => h) (Or.inl ⟨by rfl, ?y20⟩) (by assumption) ?r20
            case y20 => (intro w hSw; (try dsimp only at hSw); go_simp; (first | done | with_reducible rfl))
            try simp only [Act.put, List.setIfInBounds_toArray, List.set_cons_zero, List.set_cons_succ]
            refine take1 (i := 4) (v := ?v21) (some 24) rfl rfl (by kernel_rfl) (by kernel_rfl) (by kernel_rfl) (fun _ _ _ h => h) (Or.inl ⟨by rfl, ?y21⟩) (by assumption) ?r21
            case y21 => (intro w hSw; (try dsimp only at hSw); go_simp; (first | done | with_reducible rfl))
            try simp only [Act.put, List.setIfInBounds_toArray, List.set_cons_zero, List.set_cons_succ]
            refine take1 (i := 5) (v := ?v22) (some 25) rfl rfl (by kernel_rfl) (by kernel_rfl) (by kernel_rfl) (fun _ _ _ h => h) (Or.inl ⟨by rfl, ?y22⟩) (by assumption) ?r22
            case y22 => (intro w hSw; (try dsimp only at hSw); go_simp; (first | done | with_reducible rfl))
            try simp only [Act.put, List.setIfInBounds_toArray, List.set_cons_zero, List.set_cons_succ]
            refine take1 (i := 6) (v := ?v23) (some 26) rfl rfl (by kernel_rfl) (by kernel_rfl) (by kernel_rfl) (fun _ _ _ h => h) (Or.inl ⟨by rfl, ?y23⟩) (by assumption) ?r23
            case y23 => (intro w hSw; (try dsimp only at hSw); go_simp; (first | done | with_reducible rfl))
            try simp only [Act.put, List.setIfInBounds_toArray, List.set_cons_zero, List.set_cons_succ]
            refine take1 (i := 7) (v := ?v24) (some 27) rfl rfl (by kernel_rfl) (by kernel_rfl) (by kernel_rfl) (fun _ _ _ h => h) (Or.inl ⟨by rfl, ?y24⟩) (by assumption) ?r24
            case y24 => (intro w hSw; (try dsimp only at hSw); go_simp; (first | done | with_reducible rfl))
            try simp only [Act.put, List.setIfInBounds_toArray, List.set_cons_zero, List.set_cons_succ]
            refine take1 (i := 8) (v := ?v25) (some 28) rfl rfl (by kernel_rfl) (by kernel_rfl) (by kernel_rfl) (fun _ _ _ h => h) (Or.inl ⟨by rfl, ?y25⟩) (by assumption) ?r25
            case y25 => (intro w hSw; (try dsimp only at hSw); go_simp; (first | done | with_reducible rfl))
            try simp only [Act.put, List.setIfInBounds_toArray, List.set_cons_zero, List.set_cons_succ]
            refine take1 (i := 9) (v := ?v26) (some 29) rfl rfl (by kernel_rfl) (by kernel_rfl) (by kernel_rfl) (fun _ _ _ h => h) (Or.inl ⟨by rfl, ?y26⟩) (by assumption) ?r26
            case y26 => (intro w hSw; (try dsimp only at hSw); go_simp; (first | done | with_reducible rfl))
            try simp only [Act.put, List.setIfInBounds_toArray, List.set_cons_zero, List.set_cons_succ]
            refine wpAnyH_ready (rs := [10]) (by kernel_rfl) (by simp) ?_
            refine AllReadyH.cons rfl (fun K hK => ?_) AllReadyH.nil
            go_simp
            go_at_call 34
            refine (unitIndex_any _ (us.take k) nm _ (rows_take HRu12.out k (by omega)) (-1) HIX.out).mono ?_
            rintro e w13 ⟨rfl, hb⟩
            have HB13 : Hid (Below w.heap.size w w13) := Lib.hid (HB12.out.trans (hb.mono HB12.out.size))
            have HZ13 : Hid (w12.heap.size ≤ w13.heap.size) := Lib.hid hb.size
            have HRu13 := Lib.hid (HRu0.out.below HB13.out (Nat.le_refl _))
            have HKx13 := Lib.hid ((hb.block _ (lt_of_block HKx12.out)).trans HKx12.out)
            clear hb
            clear cx0 cx1 fx0 fx1 ltx
            have ltx := lt_of_block HKx13.out
            obtain ⟨cx0, cx1, fx0, fx1⟩ := cell2 HKx13.out
            try go_simp
            refine hK.out _ _ (⟨cx0, cx1⟩) (fun hHeld => ?_)
            clear hK K
            try simp only [Act.put, List.setIfInBounds_toArray, List.set_cons_zero, List.set_cons_succ]
            refine take1 (i := 11) (v := ?v27) (some 31) rfl rfl (by kernel_rfl) (by kernel_rfl) (by kernel_rfl) (fun _ _ _ h => h) (Or.inl ⟨by rfl, ?y27⟩) (by assumption) ?r27
            case y27 => (intro w hSw; (try dsimp only at hSw); go_simp; (first | done | with_reducible rfl))
            try simp only [Act.put, List.setIfInBounds_toArray, List.set_cons_zero, List.set_cons_succ]
            refine take1 (i := 12) (v := ?v28) (some 32) rfl rfl (by kernel_rfl) (by kernel_rfl) (by kernel_rfl) (fun _ _ _ h => h) (Or.inl ⟨by rfl, ?y28⟩) (by assumption) ?r28
            case y28 => (intro w hSw; (try dsimp only at hSw); go_simp; (first | done | with_reducible rfl))
            try simp only [Act.put, List.setIfInBounds_toArray, List.set_cons_zero, List.set_cons_succ]
            refine take1 (i := 13) (v := ?v29) (some 33) rfl rfl (by kernel_rfl) (by kernel_rfl) (by kernel_rfl) (fun _ _ _ h => h) (Or.inl ⟨by rfl, ?y29⟩) (by assumption) ?r29
            case y29 => (intro w hSw; (try dsimp only at hSw); go_simp; (first | done | with_reducible rfl))
            try simp only [Act.put, List.setIfInBounds_toArray, List.set_cons_zero, List.set_cons_succ]
            refine take1 (i := 14) (v := ?v30) (some 34) rfl rfl (by kernel_rfl) (by kernel_rfl) (by kernel_rfl) (fun _ _ _ h => h) (Or.inl ⟨by rfl, ?y30⟩) (by assumption) ?r30
            case y30 => (intro w hSw; (try dsimp only at hSw); go_simp; (first | done | with_reducible rfl))
            try simp only [Act.put, List.setIfInBounds_toArray, List.set_cons_zero, List.set_cons_succ]
            refine take1 (i := 15) (v := ?v31) (some 35) rfl rfl (by kernel_rfl) (by kernel_rfl) (by kernel_rfl) (fun _ _ _ h => h) (Or.inl ⟨by rfl, ?y31⟩) (by assumption) ?r31
            case y31 => (intro w hSw; (try dsimp only at hSw); go_simp; (first | done | with_reducible rfl))
            try simp only [Act.put, List.setIfInBounds_toArray, List.set_cons_zero, List.set_cons_succ]
            refine take1 (i := 16) (v := ?v32) (some 36) rfl rfl (by kernel_rfl) (by kernel_rfl) (by kernel_rfl) (fun _ _ _ h => h) (Or.inl ⟨by rfl, ?y32⟩) (by assumption) ?r32
            case y32 => (intro w hSw; (try dsimp only at hSw); go_simp; (first | done | with_reducible rfl))
            try simp only [Act.put, List.setIfInBounds_toArray, List.set_cons_zero, List.set_cons_succ]
            refine wpAnyH_ready (rs := [17]) (by kernel_rfl) (by simp) ?_
            refine AllReadyH.cons rfl (fun K hK => ?_) AllReadyH.nil
            go_simp
            go_at_call 37
            refine (isSizeAt_any k sz _ false (by simpa using HRS.out)).mono ?_
            rintro e w' ⟨rfl, hw'⟩
            subst w'
            try go_simp
            refine hK.out _ _ (⟨cx0, cx1⟩) (fun hHeld => ?_)
            clear hK K
            try simp only [Act.put, List.setIfInBounds_toArray, List.set_cons_zero, List.set_cons_succ]
            refine take1 (i := 18) (v := ?v33) (some 38) rfl rfl (by kernel_rfl) (by kernel_rfl) (by kernel_rfl) (fun _ _ _ h => h) (Or.inl ⟨by rfl, ?y33⟩) (by assumption) ?r33
            case y33 => (intro w hSw; (try dsimp only at hSw); go_simp; (first | done | with_reducible rfl))
            try simp only [Act.put, List.setIfInBounds_toArray, List.set_cons_zero, List.set_cons_succ]
            refine take1 (i := 19) (v := ?v34) (some 39) rfl rfl (by kernel_rfl) (by kernel_rfl) (by kernel_rfl) (fun _ _ _ h => h) (Or.inl ⟨by rfl, ?y34⟩) (by assumption) ?r34
            case y34 => (intro w hSw; (try dsimp only at hSw); go_simp; (first | done | with_reducible rfl))
            try simp only [Act.put, List.setIfInBounds_toArray, List.set_cons_zero, List.set_cons_succ]
            refine wpAnyH_done (by kernel_rfl) ?_ _
            go_wp2_with fail
            go_ret
            exact ⟨ret_bool HN.out.symm, HB13.out⟩
        · have HN := Lib.hid (HRF.out (fun hg => by have := (HU.out.1 hg).2.2; omega))
          have hge : decide (0 ≤ IX) = true := decide_eq_true hi
          clear HU
          go_wp2_with fail
          have hb : Below wr.heap.size wr (wr.alloc (.cells #[.string nm, .int .i64 sz] 40)) := (Below.refl _ _).alloc (Nat.le_refl _) _
          have hk : (wr.alloc (.cells #[.string nm, .int .i64 sz] 40)).heap[wr.heap.size]? = some (.cells #[.string nm, .int .i64 sz] 40 (0, 0)) := alloc_at rfl
          have hz : (wr.alloc (.cells #[.string nm, .int .i64 sz] 40)).heap.size = wr.heap.size + 1 := by simp
          generalize wr.alloc (.cells #[.string nm, .int .i64 sz] 40) = w11 at hb hk hz ⊢
          have HB11 : Hid (Below w.heap.size w w11) := Lib.hid (HB10.out.trans (hb.mono HB10.out.size))
          have HZ11 : Hid (wr.heap.size ≤ w11.heap.size) := Lib.hid hb.size
          have HRu11 := Lib.hid (HRu0.out.below HB11.out (Nat.le_refl _))
          have HKx11 := Lib.hid hk
          replace HZ11 : Hid (wr.heap.size < w11.heap.size) := Lib.hid (by omega)
          have HE11 := Lib.hid hz
          clear hb hk hz
          have ltx := lt_of_block HKx11.out
          obtain ⟨cx0, cx1, fx0, fx1⟩ := cell2 HKx11.out
          clear p0 p1
          refine wp_region_held_drew (S := (fun w' => w'.cell? ⟨wr.heap.size, 0, none⟩ = some (.string nm) ∧ w'.cell? ⟨wr.heap.size, 1, none⟩ = some (.int .i64 sz))) (by kernel_rfl) (⟨cx0, cx1⟩) (fun hHeld => ?_)
          have hb : Below w11.heap.size w11 w11.drew := (Below.refl _ _).drew
          generalize w11.drew = w12 at hb hHeld ⊢
          have HB12 : Hid (Below w.heap.size w w12) := Lib.hid (HB11.out.trans (hb.mono HB11.out.size))
          have HZ12 : Hid (w11.heap.size ≤ w12.heap.size) := Lib.hid hb.size
          have HRu12 := Lib.hid (HRu0.out.below HB12.out (Nat.le_refl _))
          have HKx12 := Lib.hid ((hb.block _ (lt_of_block HKx11.out)).trans HKx11.out)
          clear hb
          clear cx0 cx1 fx0 fx1 ltx
          have ltx := lt_of_block HKx12.out
          obtain ⟨cx0, cx1, fx0, fx1⟩ := cell2 HKx12.out
          refine take1 (i := 0) (v := ?v35) (some 20) rfl rfl (by kernel_rfl) (by kernel_rfl) (by kernel_rfl) (fun _ _ _ h => h) (Or.inl ⟨by rfl, ?y35⟩) (by assumption) ?r35
          case y35 => (intro w hSw; (try dsimp only at hSw); go_simp; (first | done | with_reducible rfl))
          try simp only [Act.put, List.setIfInBounds_toArray, List.set_cons_zero, List.set_cons_succ]
          refine take1 (i := 1) (v := ?v36) (some 21) rfl rfl (by kernel_rfl) (by kernel_rfl) (by kernel_rfl) (fun _ _ _ h => h) (Or.inl ⟨by rfl, ?y36⟩) (by assumption) ?r36
          case y36 => (intro w hSw; (try dsimp only at hSw); go_simp; (first | done | with_reducible rfl))
          try simp only [Act.put, List.setIfInBounds_toArray, List.set_cons_zero, List.set_cons_succ]
          refine wpAnyH_ready (rs := [2]) (by kernel_rfl) (by simp) ?_
          refine AllReadyH.cons rfl (fun K hK => ?_) AllReadyH.nil
          go_simp
          go_at_call 36
          refine (isWord_yes nm _ HW.out).mono ?_
          rintro e w' ⟨rfl, hw'⟩
          subst w'
          try go_simp
          refine hK.out _ _ (⟨cx0, cx1⟩) (fun hHeld => ?_)
          clear hK K
          try simp only [Act.put, List.setIfInBounds_toArray, List.set_cons_zero, List.set_cons_succ]
          refine take1 (i := 3) (v := ?v37) (some 23) rfl rfl (by kernel_rfl) (by kernel_rfl) (by kernel_rfl) (fun _ _ _ h => h) (Or.inl ⟨by rfl, ?y37⟩) (by assumption) ?r37
          case y37 => (intro w hSw; (try dsimp only at hSw); go_simp; (first | done | with_reducible rfl))
          try simp only [Act.put, List.setIfInBounds_toArray, List.set_cons_zero, List.set_cons_succ]
          refine take1 (i := 4) (v := ?v38) (some 24) rfl rfl (by kernel_rfl) (by kernel_rfl) (by kernel_rfl) (fun _ _ _ h => h) (Or.inl ⟨by rfl, ?y38⟩) (by assumption) ?r38
          case y38 => (intro w hSw; (try dsimp only at hSw); go_simp; (first | done | with_reducible rfl))
          try simp only [Act.put, List.setIfInBounds_toArray, List.set_cons_zero, List.set_cons_succ]
          refine take1 (i := 5) (v := ?v39) (some 25) rfl rfl (by kernel_rfl) (by kernel_rfl) (by kernel_rfl) (fun _ _ _ h => h) (Or.inl ⟨by rfl, ?y39⟩) (by assumption) ?r39
          case y39 => (intro w hSw; (try dsimp only at hSw); go_simp; (first | done | with_reducible rfl))
          try simp only [Act.put, List.setIfInBounds_toArray, List.set_cons_zero, List.set_cons_succ]
          refine take1 (i := 6) (v := ?v40) (some 26) rfl rfl (by kernel_rfl) (by kernel_rfl) (by kernel_rfl) (fun _ _ _ h => h) (Or.inl ⟨by rfl, ?y40⟩) (by assumption) ?r40
          case y40 => (intro w hSw; (try dsimp only at hSw); go_simp; (first | done | with_reducible rfl))
          try simp only [Act.put, List.setIfInBounds_toArray, List.set_cons_zero, List.set_cons_succ]
          refine take1 (i := 7) (v := ?v41) (some 27) rfl rfl (by kernel_rfl) (by kernel_rfl) (by kernel_rfl) (fun _ _ _ h => h) (Or.inl ⟨by rfl, ?y41⟩) (by assumption) ?r41
          case y41 => (intro w hSw; (try dsimp only at hSw); go_simp; (first | done | with_reducible rfl))
          try simp only [Act.put, List.setIfInBounds_toArray, List.set_cons_zero, List.set_cons_succ]
          refine take1 (i := 8) (v := ?v42) (some 28) rfl rfl (by kernel_rfl) (by kernel_rfl) (by kernel_rfl) (fun _ _ _ h => h) (Or.inl ⟨by rfl, ?y42⟩) (by assumption) ?r42
          case y42 => (intro w hSw; (try dsimp only at hSw); go_simp; (first | done | with_reducible rfl))
          try simp only [Act.put, List.setIfInBounds_toArray, List.set_cons_zero, List.set_cons_succ]
          refine take1 (i := 9) (v := ?v43) (some 29) rfl rfl (by kernel_rfl) (by kernel_rfl) (by kernel_rfl) (fun _ _ _ h => h) (Or.inl ⟨by rfl, ?y43⟩) (by assumption) ?r43
          case y43 => (intro w hSw; (try dsimp only at hSw); go_simp; (first | done | with_reducible rfl))
          try simp only [Act.put, List.setIfInBounds_toArray, List.set_cons_zero, List.set_cons_succ]
          refine wpAnyH_ready (rs := [10]) (by kernel_rfl) (by simp) ?_
          refine AllReadyH.cons rfl (fun K hK => ?_) AllReadyH.nil
          go_simp
          go_at_call 34
          refine (unitIndex_any _ (us.take k) nm _ (rows_take HRu12.out k (by omega)) IX HIX.out).mono ?_
          rintro e w13 ⟨rfl, hb⟩
          have HB13 : Hid (Below w.heap.size w w13) := Lib.hid (HB12.out.trans (hb.mono HB12.out.size))
          have HZ13 : Hid (w12.heap.size ≤ w13.heap.size) := Lib.hid hb.size
          have HRu13 := Lib.hid (HRu0.out.below HB13.out (Nat.le_refl _))
          have HKx13 := Lib.hid ((hb.block _ (lt_of_block HKx12.out)).trans HKx12.out)
          clear hb
          clear cx0 cx1 fx0 fx1 ltx
          have ltx := lt_of_block HKx13.out
          obtain ⟨cx0, cx1, fx0, fx1⟩ := cell2 HKx13.out
          try go_simp
          refine hK.out _ _ (⟨cx0, cx1⟩) (fun hHeld => ?_)
          clear hK K
          try simp only [Act.put, List.setIfInBounds_toArray, List.set_cons_zero, List.set_cons_succ]
          refine take1 (i := 11) (v := ?v44) (some 31) rfl rfl (by kernel_rfl) (by kernel_rfl) (by kernel_rfl) (fun _ _ _ h => h) (Or.inl ⟨by rfl, ?y44⟩) (by assumption) ?r44
          case y44 => (intro w hSw; (try dsimp only at hSw); go_simp; (first | done | with_reducible rfl))
          try simp only [Act.put, List.setIfInBounds_toArray, List.set_cons_zero, List.set_cons_succ]
          refine take1 (i := 12) (v := ?v45) (some 32) rfl rfl (by kernel_rfl) (by kernel_rfl) (by kernel_rfl) (fun _ _ _ h => h) (Or.inl ⟨by rfl, ?y45⟩) (by assumption) ?r45
          case y45 => (intro w hSw; (try dsimp only at hSw); go_simp; (first | done | with_reducible rfl))
          try simp only [Act.put, List.setIfInBounds_toArray, List.set_cons_zero, List.set_cons_succ]
          refine take1 (i := 13) (v := ?v46) (some 33) rfl rfl (by kernel_rfl) (by kernel_rfl) (by kernel_rfl) (fun _ _ _ h => h) (Or.inl ⟨by rfl, ?y46⟩) (by assumption) ?r46
          case y46 => (intro w hSw; (try dsimp only at hSw); go_simp; (first | done | with_reducible rfl))
          try simp only [Act.put, List.setIfInBounds_toArray, List.set_cons_zero, List.set_cons_succ]
          refine take1 (i := 14) (v := undef) (some 34) rfl rfl (by kernel_rfl) (by kernel_rfl) (by kernel_rfl) (fun _ _ _ h => h) (Or.inr ⟨by rfl, rfl⟩) (by assumption) ?_
          try simp only [Act.put, List.setIfInBounds_toArray, List.set_cons_zero, List.set_cons_succ]
          refine take1 (i := 15) (v := undef) (some 35) rfl rfl (by kernel_rfl) (by kernel_rfl) (by kernel_rfl) (fun _ _ _ h => h) (Or.inr ⟨by rfl, rfl⟩) (by assumption) ?_
          try simp only [Act.put, List.setIfInBounds_toArray, List.set_cons_zero, List.set_cons_succ]
          refine take1 (i := 16) (v := undef) (some 36) rfl rfl (by kernel_rfl) (by kernel_rfl) (by kernel_rfl) (fun _ _ _ h => h) (Or.inr ⟨by rfl, rfl⟩) (by assumption) ?_
          try simp only [Act.put, List.setIfInBounds_toArray, List.set_cons_zero, List.set_cons_succ]
          refine take1 (i := 17) (v := undef) (some 37) rfl rfl (by kernel_rfl) (by kernel_rfl) (by kernel_rfl) (fun _ _ _ h => h) (Or.inr ⟨by rfl, rfl⟩) (by assumption) ?_
          try simp only [Act.put, List.setIfInBounds_toArray, List.set_cons_zero, List.set_cons_succ]
          refine take1 (i := 18) (v := undef) (some 38) rfl rfl (by kernel_rfl) (by kernel_rfl) (by kernel_rfl) (fun _ _ _ h => h) (Or.inr ⟨by rfl, rfl⟩) (by assumption) ?_
          try simp only [Act.put, List.setIfInBounds_toArray, List.set_cons_zero, List.set_cons_succ]
          refine take1 (i := 19) (v := ?v52) (some 39) rfl rfl (by kernel_rfl) (by kernel_rfl) (by kernel_rfl) (fun _ _ _ h => h) (Or.inl ⟨by rfl, ?y52⟩) (by assumption) ?r52
          case y52 => (intro w hSw; (try dsimp only at hSw); go_simp; (first | done | with_reducible rfl))
          try simp only [Act.put, List.setIfInBounds_toArray, List.set_cons_zero, List.set_cons_succ]
          refine wpAnyH_done (by kernel_rfl) ?_ _
          go_wp2_with fail
          go_ret
          exact ⟨ret_bool HN.out.symm, HB13.out⟩
      · have HN := Lib.hid (HRF.out (fun hg => hw (HU.out.1 hg).1))
        have HW := Lib.hid hw
        clear hw
        go_wp2_with fail
        have hb : Below wr.heap.size wr (wr.alloc (.cells #[.string nm, .int .i64 sz] 40)) := (Below.refl _ _).alloc (Nat.le_refl _) _
        have hk : (wr.alloc (.cells #[.string nm, .int .i64 sz] 40)).heap[wr.heap.size]? = some (.cells #[.string nm, .int .i64 sz] 40 (0, 0)) := alloc_at rfl
        have hz : (wr.alloc (.cells #[.string nm, .int .i64 sz] 40)).heap.size = wr.heap.size + 1 := by simp
        generalize wr.alloc (.cells #[.string nm, .int .i64 sz] 40) = w11 at hb hk hz ⊢
        have HB11 : Hid (Below w.heap.size w w11) := Lib.hid (HB10.out.trans (hb.mono HB10.out.size))
        have HZ11 : Hid (wr.heap.size ≤ w11.heap.size) := Lib.hid hb.size
        have HRu11 := Lib.hid (HRu0.out.below HB11.out (Nat.le_refl _))
        have HKx11 := Lib.hid hk
        replace HZ11 : Hid (wr.heap.size < w11.heap.size) := Lib.hid (by omega)
        have HE11 := Lib.hid hz
        clear hb hk hz
        have ltx := lt_of_block HKx11.out
        obtain ⟨cx0, cx1, fx0, fx1⟩ := cell2 HKx11.out
        clear p0 p1
        refine wp_region_held_drew (S := (fun w' => w'.cell? ⟨wr.heap.size, 0, none⟩ = some (.string nm) ∧ w'.cell? ⟨wr.heap.size, 1, none⟩ = some (.int .i64 sz))) (by kernel_rfl) (⟨cx0, cx1⟩) (fun hHeld => ?_)
        have hb : Below w11.heap.size w11 w11.drew := (Below.refl _ _).drew
        generalize w11.drew = w12 at hb hHeld ⊢
        have HB12 : Hid (Below w.heap.size w w12) := Lib.hid (HB11.out.trans (hb.mono HB11.out.size))
        have HZ12 : Hid (w11.heap.size ≤ w12.heap.size) := Lib.hid hb.size
        have HRu12 := Lib.hid (HRu0.out.below HB12.out (Nat.le_refl _))
        have HKx12 := Lib.hid ((hb.block _ (lt_of_block HKx11.out)).trans HKx11.out)
        clear hb
        clear cx0 cx1 fx0 fx1 ltx
        have ltx := lt_of_block HKx12.out
        obtain ⟨cx0, cx1, fx0, fx1⟩ := cell2 HKx12.out
        refine take1 (i := 0) (v := ?v53) (some 20) rfl rfl (by kernel_rfl) (by kernel_rfl) (by kernel_rfl) (fun _ _ _ h => h) (Or.inl ⟨by rfl, ?y53⟩) (by assumption) ?r53
        case y53 => (intro w hSw; (try dsimp only at hSw); go_simp; (first | done | with_reducible rfl))
        try simp only [Act.put, List.setIfInBounds_toArray, List.set_cons_zero, List.set_cons_succ]
        refine take1 (i := 1) (v := ?v54) (some 21) rfl rfl (by kernel_rfl) (by kernel_rfl) (by kernel_rfl) (fun _ _ _ h => h) (Or.inl ⟨by rfl, ?y54⟩) (by assumption) ?r54
        case y54 => (intro w hSw; (try dsimp only at hSw); go_simp; (first | done | with_reducible rfl))
        try simp only [Act.put, List.setIfInBounds_toArray, List.set_cons_zero, List.set_cons_succ]
        refine wpAnyH_ready (rs := [2]) (by kernel_rfl) (by simp) ?_
        refine AllReadyH.cons rfl (fun K hK => ?_) AllReadyH.nil
        go_simp
        go_at_call 36
        refine (isWord_no nm _ HSN.out HW.out).mono ?_
        rintro e w' ⟨rfl, hw'⟩
        subst w'
        try go_simp
        refine hK.out _ _ (⟨cx0, cx1⟩) (fun hHeld => ?_)
        clear hK K
        try simp only [Act.put, List.setIfInBounds_toArray, List.set_cons_zero, List.set_cons_succ]
        refine take1 (i := 3) (v := ?v55) (some 23) rfl rfl (by kernel_rfl) (by kernel_rfl) (by kernel_rfl) (fun _ _ _ h => h) (Or.inl ⟨by rfl, ?y55⟩) (by assumption) ?r55
        case y55 => (intro w hSw; (try dsimp only at hSw); go_simp; (first | done | with_reducible rfl))
        try simp only [Act.put, List.setIfInBounds_toArray, List.set_cons_zero, List.set_cons_succ]
        refine take1 (i := 4) (v := ?v56) (some 24) rfl rfl (by kernel_rfl) (by kernel_rfl) (by kernel_rfl) (fun _ _ _ h => h) (Or.inl ⟨by rfl, ?y56⟩) (by assumption) ?r56
        case y56 => (intro w hSw; (try dsimp only at hSw); go_simp; (first | done | with_reducible rfl))
        try simp only [Act.put, List.setIfInBounds_toArray, List.set_cons_zero, List.set_cons_succ]
        refine take1 (i := 5) (v := undef) (some 25) rfl rfl (by kernel_rfl) (by kernel_rfl) (by kernel_rfl) (fun _ _ _ h => h) (Or.inr ⟨by rfl, rfl⟩) (by assumption) ?_
        try simp only [Act.put, List.setIfInBounds_toArray, List.set_cons_zero, List.set_cons_succ]
        refine take1 (i := 6) (v := undef) (some 26) rfl rfl (by kernel_rfl) (by kernel_rfl) (by kernel_rfl) (fun _ _ _ h => h) (Or.inr ⟨by rfl, rfl⟩) (by assumption) ?_
        try simp only [Act.put, List.setIfInBounds_toArray, List.set_cons_zero, List.set_cons_succ]
        refine take1 (i := 7) (v := undef) (some 27) rfl rfl (by kernel_rfl) (by kernel_rfl) (by kernel_rfl) (fun _ _ _ h => h) (Or.inr ⟨by rfl, rfl⟩) (by assumption) ?_
        try simp only [Act.put, List.setIfInBounds_toArray, List.set_cons_zero, List.set_cons_succ]
        refine take1 (i := 8) (v := undef) (some 28) rfl rfl (by kernel_rfl) (by kernel_rfl) (by kernel_rfl) (fun _ _ _ h => h) (Or.inr ⟨by rfl, rfl⟩) (by assumption) ?_
        try simp only [Act.put, List.setIfInBounds_toArray, List.set_cons_zero, List.set_cons_succ]
        refine take1 (i := 9) (v := undef) (some 29) rfl rfl (by kernel_rfl) (by kernel_rfl) (by kernel_rfl) (fun _ _ _ h => h) (Or.inr ⟨by rfl, rfl⟩) (by assumption) ?_
        try simp only [Act.put, List.setIfInBounds_toArray, List.set_cons_zero, List.set_cons_succ]
        refine take1 (i := 10) (v := undef) (some 30) rfl rfl (by kernel_rfl) (by kernel_rfl) (by kernel_rfl) (fun _ _ _ h => h) (Or.inr ⟨by rfl, rfl⟩) (by assumption) ?_
        try simp only [Act.put, List.setIfInBounds_toArray, List.set_cons_zero, List.set_cons_succ]
        refine take1 (i := 11) (v := undef) (some 31) rfl rfl (by kernel_rfl) (by kernel_rfl) (by kernel_rfl) (fun _ _ _ h => h) (Or.inr ⟨by rfl, rfl⟩) (by assumption) ?_
        try simp only [Act.put, List.setIfInBounds_toArray, List.set_cons_zero, List.set_cons_succ]
        refine take1 (i := 12) (v := ?v64) (some 32) rfl rfl (by kernel_rfl) (by kernel_rfl) (by kernel_rfl) (fun _ _ _ h => h) (Or.inl ⟨by rfl, ?y64⟩) (by assumption) ?r64
        case y64 => (intro w hSw; (try dsimp only at hSw); go_simp; (first | done | with_reducible rfl))
        try simp only [Act.put, List.setIfInBounds_toArray, List.set_cons_zero, List.set_cons_succ]
        refine take1 (i := 13) (v := ?v65) (some 33) rfl rfl (by kernel_rfl) (by kernel_rfl) (by kernel_rfl) (fun _ _ _ h => h) (Or.inl ⟨by rfl, ?y65⟩) (by assumption) ?r65
        case y65 => (intro w hSw; (try dsimp only at hSw); go_simp; (first | done | with_reducible rfl))
        try simp only [Act.put, List.setIfInBounds_toArray, List.set_cons_zero, List.set_cons_succ]
        refine take1 (i := 14) (v := undef) (some 34) rfl rfl (by kernel_rfl) (by kernel_rfl) (by kernel_rfl) (fun _ _ _ h => h) (Or.inr ⟨by rfl, rfl⟩) (by assumption) ?_
        try simp only [Act.put, List.setIfInBounds_toArray, List.set_cons_zero, List.set_cons_succ]
        refine take1 (i := 15) (v := undef) (some 35) rfl rfl (by kernel_rfl) (by kernel_rfl) (by kernel_rfl) (fun _ _ _ h => h) (Or.inr ⟨by rfl, rfl⟩) (by assumption) ?_
        try simp only [Act.put, List.setIfInBounds_toArray, List.set_cons_zero, List.set_cons_succ]
        refine take1 (i := 16) (v := undef) (some 36) rfl rfl (by kernel_rfl) (by kernel_rfl) (by kernel_rfl) (fun _ _ _ h => h) (Or.inr ⟨by rfl, rfl⟩) (by assumption) ?_
        try simp only [Act.put, List.setIfInBounds_toArray, List.set_cons_zero, List.set_cons_succ]
        refine take1 (i := 17) (v := undef) (some 37) rfl rfl (by kernel_rfl) (by kernel_rfl) (by kernel_rfl) (fun _ _ _ h => h) (Or.inr ⟨by rfl, rfl⟩) (by assumption) ?_
        try simp only [Act.put, List.setIfInBounds_toArray, List.set_cons_zero, List.set_cons_succ]
        refine take1 (i := 18) (v := undef) (some 38) rfl rfl (by kernel_rfl) (by kernel_rfl) (by kernel_rfl) (fun _ _ _ h => h) (Or.inr ⟨by rfl, rfl⟩) (by assumption) ?_
        try simp only [Act.put, List.setIfInBounds_toArray, List.set_cons_zero, List.set_cons_succ]
        refine take1 (i := 19) (v := ?v71) (some 39) rfl rfl (by kernel_rfl) (by kernel_rfl) (by kernel_rfl) (fun _ _ _ h => h) (Or.inl ⟨by rfl, ?y71⟩) (by assumption) ?r71
        case y71 => (intro w hSw; (try dsimp only at hSw); go_simp; (first | done | with_reducible rfl))
        try simp only [Act.put, List.setIfInBounds_toArray, List.set_cons_zero, List.set_cons_succ]
        refine wpAnyH_done (by kernel_rfl) ?_ _
        go_wp2_with fail
        go_ret
        exact ⟨ret_bool HN.out.symm, HB12.out⟩
    · have HN := Lib.hid (HR2.out (by omega))
      have HB := Lib.hid hb
      clear hb
      go_wp2_with fail
      go_ret
      exact ⟨ret_bool HN.out.symm, HB.out⟩
set_option maxRecDepth 100000 in
set_option maxHeartbeats 800000 in
theorem iSystem_len (v : Value) (us : List Un) (w : World) (h : RowsR 2 unC w v us) (hl : ¬ (1 ≤ us.length ∧ us.length ≤ 6)) :
    Calls Tryd.prog 13 #[v] w fun e w' => e = .returned (.bool false) ∧ Below w.heap.size w w' := by
  have hm : us.length ≤ 9223372036854775807 := by obtain ⟨_, _, _, ⟨m, _⟩, _⟩ := h; exact m
  obtain ⟨a, cp, rfl⟩ := h.form
  clear h
  by_cases h1 : us.length < 1
  · have h2 : (us.length : Int) < 1 := by omega
    have h3 : ((us.length : Int) ≤ 0) := by omega
    clear hl h1
    go_enter Tryd.func13, Tryd.ntmps13
    go_wp2_with fail
    go_ret
    exact ⟨rfl, Below.refl _ _⟩
  · have h2 : ¬ (us.length : Int) < 1 := by omega
    have h4 : (6 : Int) < (us.length : Int) := by omega
    clear hl
    go_enter Tryd.func13, Tryd.ntmps13
    go_wp2_with fail
    go_ret
    exact ⟨rfl, Below.refl _ _⟩
theorem iSys_any (v : Value) (us : List Un) (w : World) (h : RowsR 2 unC w v us) (hs : ∀ u ∈ us, u.nm.size ≤ maxLen) (r : Bool) (hr : r = true ↔ okS us) :
    Calls Tryd.prog 13 #[v] w fun e w' => e = .returned (.bool r) ∧ Below w.heap.size w w' := by
  have hf : ¬ okS us → r = false := fun hn => by
    cases hb : r with
    | false => rfl
    | true => exact absurd (hr.1 hb) hn
  by_cases hl : 1 ≤ us.length ∧ us.length ≤ 6
  · obtain ⟨p, hp, h1, h2⟩ := first_bad' us.length (fun i h => uGood us i h)
    exact iSystem_scan v us w h hs hl p hp h1 h2 r (fun hlt => hf fun ho => h2 hlt (ho.2 p hlt)) (fun hn => hr.2 ⟨hl, fun i hi => h1 i hi (by omega)⟩)
  · rw [hf (fun ho => hl ho.1)]
    exact iSystem_len v us w h hl

set_option maxRecDepth 100000 in
set_option maxHeartbeats 1600000 in
theorem iAm_any (v sv : Value) (us : List Un) (cs : List Int) (w : World) (h : RowsR 2 unC w v us) (hs : ∀ u ∈ us, u.nm.size ≤ maxLen) (hc : RowsR 1 inC w sv cs) (r : Bool) (hr : r = true ↔ okAm us cs) :
    Calls Tryd.prog 20 #[v, .agg #[sv]] w fun e w' => e = .returned (.bool r) ∧ Below w.heap.size w w' := by
  have hm : us.length ≤ 9223372036854775807 := by obtain ⟨_, _, _, ⟨m, _⟩, _⟩ := h; exact m
  have hm2 : cs.length ≤ 9223372036854775807 := by obtain ⟨_, _, _, ⟨m, _⟩, _⟩ := hc; exact m
  obtain ⟨a, cp, rfl⟩ := h.form
  obtain ⟨a1, c1, rfl⟩ := hc.form
  obtain ⟨p, hp, hpre, hx⟩ := first_bad' cs.length (fun i h => 0 ≤ cs[i] ∧ cs[i] ≤ 9999)
  have A1 := Lib.hid (int_at7 hc)
  have HS := Lib.hid hs
  have HP := Lib.hid hpre
  have HX := Lib.hid hx
  have HR := Lib.hid hr
  have HF : Hid (¬ okAm us cs → r = false) := Lib.hid (fun hn => by
    cases hb : r with
    | false => rfl
    | true => exact absurd (hr.1 hb) hn)
  have HB0 : Hid (Below w.heap.size w w) := Lib.hid (Below.refl _ _)
  have HRu0 := Lib.hid (h)
  clear h hs hc hpre hx hr
  go_enter Tryd.func20, Tryd.ntmps20
  go_wp2_with fail
  have hb : Below w.heap.size w (w.alloc (.cells #[.slice a1 cs.length c1] 27)) := (Below.refl _ _).alloc (Nat.le_refl _) _
  have hk : (w.alloc (.cells #[.slice a1 cs.length c1] 27)).heap[w.heap.size]? = some (.cells #[.slice a1 cs.length c1] 27 (0, 0)) := alloc_at rfl
  have hz : (w.alloc (.cells #[.slice a1 cs.length c1] 27)).heap.size = w.heap.size + 1 := by simp
  generalize w.alloc (.cells #[.slice a1 cs.length c1] 27) = w1 at hb hk hz ⊢
  have HB1 : Hid (Below w.heap.size w w1) := Lib.hid (HB0.out.trans (hb.mono HB0.out.size))
  have HZ1 : Hid (w.heap.size ≤ w1.heap.size) := Lib.hid hb.size
  have HRu1 := Lib.hid (HRu0.out.below HB1.out (Nat.le_refl _))
  have HKb1 := Lib.hid hk
  replace HZ1 : Hid (w.heap.size < w1.heap.size) := Lib.hid (by omega)
  have HE1 := Lib.hid hz
  clear hb hk hz
  have ltb := lt_of_block HKb1.out
  obtain ⟨cb0, fb0⟩ := cell1 HKb1.out
  by_cases ho : okS us
  · have HO := Lib.hid ho
    clear ho
    by_cases hle : cs.length = us.length
    · have hd : ((cs.length : Int) != (us.length : Int)) = false := by simp [hle]
      have HLE := Lib.hid hle
      clear hle
      refine (iSys_any _ us _ HRu1.out HS.out true ⟨fun _ => HO.out, fun _ => rfl⟩).mono ?_
      rintro e w2 ⟨rfl, hb⟩
      have HB2 : Hid (Below w.heap.size w w2) := Lib.hid (HB1.out.trans (hb.mono HB1.out.size))
      have HZ2 : Hid (w1.heap.size ≤ w2.heap.size) := Lib.hid hb.size
      have HRu2 := Lib.hid (HRu0.out.below HB2.out (Nat.le_refl _))
      have HKb2 := Lib.hid ((hb.block _ (lt_of_block HKb1.out)).trans HKb1.out)
      clear hb
      clear cb0 fb0 ltb
      have ltb := lt_of_block HKb2.out
      obtain ⟨cb0, fb0⟩ := cell1 HKb2.out
      go_wp2_with fail
      go_loopw [21] (fun i wr => ∃ k : Nat, k ≤ p ∧ i = .int .i64 k ∧ w2 = wr) (fun i _ => cs.length - (intOf i).toNat)
      case atStart => exact ⟨0, Nat.zero_le _, rfl, rfl⟩
      case round =>
        obtain ⟨k, hk, rfl, rfl⟩ := hrel
        by_cases hlt : k < cs.length
        · have z1 : (0 : Int) ≤ (k : Int) := by omega
          have z2 : (k : Int) < (cs.length : Int) := by omega
          obtain ⟨b1, o1, rfl, _, p0⟩ := A1.out _ HB2.out k hlt
          by_cases h1 : 0 ≤ cs[k]
          · have h1' : ¬ cs[k] < 0 := by omega
            by_cases h2 : cs[k] ≤ 9999
            · have hkp : k < p := by
                rcases Nat.lt_or_ge k p with h3 | h3
                · exact h3
                · obtain rfl : k = p := by omega
                  exact absurd ⟨h1, h2⟩ (HX.out hlt)
              have h2' : ¬ 9999 < cs[k] := by omega
              go_wp2_with fail
              go_roundw
              case rel => exact ⟨k + 1, by omega, by go_num, by first | trivial | rfl⟩
              case measure => simp [intOf]; omega
            · have HN := Lib.hid (HF.out (fun ha => h2 (ha.2.2 k hlt).2))
              have h2' : 9999 < cs[k] := by omega
              go_wp2_with fail
              go_ret
              exact ⟨ret_bool HN.out.symm, HB2.out⟩
          · have HN := Lib.hid (HF.out (fun ha => h1 (ha.2.2 k hlt).1))
            have h1' : cs[k] < 0 := by omega
            go_wp2_with fail
            go_ret
            exact ⟨ret_bool HN.out.symm, HB2.out⟩
        · have HN : Hid (r = true) := Lib.hid (HR.out.2 ⟨HO.out, HLE.out, fun i hi => HP.out i hi (by omega)⟩)
          go_wp2_with fail
          go_ret
          exact ⟨ret_bool HN.out.symm, HB2.out⟩
    · have HN := Lib.hid (HF.out (fun ha => hle ha.2.1))
      have hd : ((cs.length : Int) != (us.length : Int)) = true := by rw [bne_iff_ne]; omega
      clear hle
      refine (iSys_any _ us _ HRu1.out HS.out true ⟨fun _ => HO.out, fun _ => rfl⟩).mono ?_
      rintro e w2 ⟨rfl, hb⟩
      have HB2 : Hid (Below w.heap.size w w2) := Lib.hid (HB1.out.trans (hb.mono HB1.out.size))
      have HZ2 : Hid (w1.heap.size ≤ w2.heap.size) := Lib.hid hb.size
      have HRu2 := Lib.hid (HRu0.out.below HB2.out (Nat.le_refl _))
      have HKb2 := Lib.hid ((hb.block _ (lt_of_block HKb1.out)).trans HKb1.out)
      clear hb
      clear cb0 fb0 ltb
      have ltb := lt_of_block HKb2.out
      obtain ⟨cb0, fb0⟩ := cell1 HKb2.out
      go_wp2_with fail
      go_ret
      exact ⟨ret_bool HN.out.symm, HB2.out⟩
  · have HN := Lib.hid (HF.out (fun ha => ho ha.1))
    have HO := Lib.hid ho
    clear ho
    refine (iSys_any _ us _ HRu1.out HS.out false ⟨fun e => (by simp at e), fun e => absurd e HO.out⟩).mono ?_
    rintro e w2 ⟨rfl, hb⟩
    have HB2 : Hid (Below w.heap.size w w2) := Lib.hid (HB1.out.trans (hb.mono HB1.out.size))
    have HZ2 : Hid (w1.heap.size ≤ w2.heap.size) := Lib.hid hb.size
    have HRu2 := Lib.hid (HRu0.out.below HB2.out (Nat.le_refl _))
    have HKb2 := Lib.hid ((hb.block _ (lt_of_block HKb1.out)).trans HKb1.out)
    clear hb
    clear cb0 fb0 ltb
    have ltb := lt_of_block HKb2.out
    obtain ⟨cb0, fb0⟩ := cell1 HKb2.out
    go_wp2_with fail
    go_ret
    exact ⟨ret_bool HN.out.symm, HB2.out⟩

/-- The answer of ValueIn. -/
def ValF (us : List Un) (cs : List Int) (x : Int) (r : Bool) : Prop := (okAm us cs ∧ x = valA us cs ∧ r = true) ∨ (¬ okAm us cs ∧ x = 0 ∧ r = false)
theorem valF_or (us : List Un) (cs : List Int) : ∃ x r, ValF us cs x r := by
  by_cases h : okAm us cs
  · exact ⟨_, _, .inl ⟨h, rfl, rfl⟩⟩
  · exact ⟨_, _, .inr ⟨h, rfl, rfl⟩⟩
set_option maxRecDepth 100000 in
set_option maxHeartbeats 1600000 in
theorem iVal_any (v sv : Value) (us : List Un) (cs : List Int) (w : World) (h : RowsR 2 unC w v us) (hs : ∀ u ∈ us, u.nm.size ≤ maxLen) (hc : RowsR 1 inC w sv cs) (x : Int) (r : Bool) (hx : ValF us cs x r) :
    Calls Tryd.prog 9 #[v, .agg #[sv]] w fun e w' => e = .returned (.tuple #[.int .i64 x, .bool r]) ∧ Below w.heap.size w w' := by
  have hm : us.length ≤ 9223372036854775807 := by obtain ⟨_, _, _, ⟨m, _⟩, _⟩ := h; exact m
  obtain ⟨a, cp, rfl⟩ := h.form
  obtain ⟨a1, c1, rfl⟩ := hc.form
  have A1 := Lib.hid (int_at7 hc)
  have A2 := Lib.hid (szS_at h)
  have HS := Lib.hid hs
  rcases hx with ⟨ho, rfl, rfl⟩ | ⟨ho, rfl, rfl⟩
  · have hu6 : us.length ≤ 6 := ho.1.1.2
    have hu1 : 1 ≤ us.length := ho.1.1.1
    have HCU := Lib.hid ho.2.1
    have HO := Lib.hid ho
    have HB0 : Hid (Below w.heap.size w w) := Lib.hid (Below.refl _ _)
    have HRu0 := Lib.hid (h)
    have HRc0 := Lib.hid (hc)
    clear h hc hs ho
    go_enter Tryd.func9, Tryd.ntmps9
    go_wp2_with fail
    have hb : Below w.heap.size w (w.alloc (.cells #[.slice a1 cs.length c1] 27)) := (Below.refl _ _).alloc (Nat.le_refl _) _
    have hk : (w.alloc (.cells #[.slice a1 cs.length c1] 27)).heap[w.heap.size]? = some (.cells #[.slice a1 cs.length c1] 27 (0, 0)) := alloc_at rfl
    have hz : (w.alloc (.cells #[.slice a1 cs.length c1] 27)).heap.size = w.heap.size + 1 := by simp
    generalize w.alloc (.cells #[.slice a1 cs.length c1] 27) = w1 at hb hk hz ⊢
    have HB1 : Hid (Below w.heap.size w w1) := Lib.hid (HB0.out.trans (hb.mono HB0.out.size))
    have HZ1 : Hid (w.heap.size ≤ w1.heap.size) := Lib.hid hb.size
    have HRu1 := Lib.hid (HRu0.out.below HB1.out (Nat.le_refl _))
    have HRc1 := Lib.hid (HRc0.out.below HB1.out (Nat.le_refl _))
    have HKb1 := Lib.hid hk
    replace HZ1 : Hid (w.heap.size < w1.heap.size) := Lib.hid (by omega)
    have HE1 := Lib.hid hz
    clear hb hk hz
    have ltb := lt_of_block HKb1.out
    obtain ⟨cb0, fb0⟩ := cell1 HKb1.out
    refine (iAm_any _ _ us cs _ HRu1.out HS.out HRc1.out true ⟨fun _ => HO.out, fun _ => rfl⟩).mono ?_
    rintro e w2 ⟨rfl, hb⟩
    have HB2 : Hid (Below w.heap.size w w2) := Lib.hid (HB1.out.trans (hb.mono HB1.out.size))
    have HZ2 : Hid (w1.heap.size ≤ w2.heap.size) := Lib.hid hb.size
    have HRu2 := Lib.hid (HRu0.out.below HB2.out (Nat.le_refl _))
    have HRc2 := Lib.hid (HRc0.out.below HB2.out (Nat.le_refl _))
    have HKb2 := Lib.hid ((hb.block _ (lt_of_block HKb1.out)).trans HKb1.out)
    clear hb
    clear cb0 fb0 ltb
    have ltb := lt_of_block HKb2.out
    obtain ⟨cb0, fb0⟩ := cell1 HKb2.out
    go_wp2_with fail
    go_loopw [6, 7] (fun s i wr => ∃ (k d : Nat) (ii v : Int), k + d = us.length ∧ ii + 1 = (k : Int) ∧ i = .int .i64 ii ∧ s = .int .i64 v ∧ Hid (v = valD us cs d) ∧ Below w2.heap.size w2 wr) (fun _ i _ => (intOf i + 1).toNat)
    case atStart => exact ⟨us.length, 0, (us.length : Int) - 1, 0, by omega, by omega, by go_num, rfl, Lib.hid rfl, Below.refl _ _⟩
    case round =>
      obtain ⟨k, d, ii, x, hk, hki, rfl, rfl, HV, hbr⟩ := hrel
      have HBR := Lib.hid hbr
      have HB9 : Hid (Below w.heap.size w wr) := Lib.hid (HB2.out.trans (hbr.mono HB2.out.size))
      have cb0' := (hbr.cell (p := ⟨w.heap.size, 0, none⟩) ltb).trans cb0
      clear hbr cb0
      by_cases hk0 : 0 < k
      · obtain ⟨m, rfl⟩ : ∃ m, k = m + 1 := ⟨k - 1, by omega⟩
        obtain rfl : ii = (m : Int) := by omega
        have hlt : m < us.length := by omega
        have hlt2 : m < cs.length := by have := HCU.out; omega
        have z1 : (0 : Int) ≤ (m : Int) := by omega
        have z2 : (m : Int) < (us.length : Int) := by omega
        have z3 : (m : Int) < (cs.length : Int) := by omega
        obtain ⟨b1, o1, rfl, _, p0⟩ := A1.out _ HB9.out m hlt2
        obtain ⟨b2, o2, rfl, _, _, q0⟩ := A2.out _ HB9.out m hlt
        have hvb := valD_lt HO.out d (by omega)
        rw [← HV.out] at hvb
        have hsb := okS_sz HO.out.1 m
        have hcb := HO.out.2.2 m hlt2
        have HST : Hid (valD us cs (d + 1) = (x + cs[m]) * szU us m) := Lib.hid (by rw [valD_step us cs m d (by omega), cA_at cs m hlt2, HV.out])
        generalize cs[m] = c at p0 hcb HST
        generalize szU us m = z at q0 hsb HST
        have hw1 : IntKind.i64.wrap (x + c) = x + c := wrap_small _ (by omega) (by omega)
        have hmb := mul_small (v := x + c) (s := z) (by omega) (by omega) hsb.1 hsb.2
        have hw2 : IntKind.i64.wrap ((x + c) * z) = (x + c) * z := wrap_small _ (by omega) (by omega)
        clear hki hk0 hmb
        go_wp2_with fail
        go_quiet (fail)
        go_wp2_with fail
        go_roundw
        case rel => exact ⟨m, d + 1, (m : Int) - 1, (x + c) * z, by omega, by omega, by go_num, by first | rfl | (rw [hw1, hw2]), Lib.hid HST.out.symm, bl_drewN HBR.out _⟩
        case measure => simp [intOf]
      · obtain rfl : k = 0 := by omega
        obtain rfl : ii = -1 := by omega
        obtain rfl : d = us.length := by omega
        go_wp2_with fail
        go_ret2
        exact ⟨ret_int2 HV.out, HB9.out⟩
  · have HO := Lib.hid ho
    have HB0 : Hid (Below w.heap.size w w) := Lib.hid (Below.refl _ _)
    have HRu0 := Lib.hid (h)
    have HRc0 := Lib.hid (hc)
    clear h hc hs ho
    go_enter Tryd.func9, Tryd.ntmps9
    go_wp2_with fail
    have hb : Below w.heap.size w (w.alloc (.cells #[.slice a1 cs.length c1] 27)) := (Below.refl _ _).alloc (Nat.le_refl _) _
    have hk : (w.alloc (.cells #[.slice a1 cs.length c1] 27)).heap[w.heap.size]? = some (.cells #[.slice a1 cs.length c1] 27 (0, 0)) := alloc_at rfl
    have hz : (w.alloc (.cells #[.slice a1 cs.length c1] 27)).heap.size = w.heap.size + 1 := by simp
    generalize w.alloc (.cells #[.slice a1 cs.length c1] 27) = w1 at hb hk hz ⊢
    have HB1 : Hid (Below w.heap.size w w1) := Lib.hid (HB0.out.trans (hb.mono HB0.out.size))
    have HZ1 : Hid (w.heap.size ≤ w1.heap.size) := Lib.hid hb.size
    have HRu1 := Lib.hid (HRu0.out.below HB1.out (Nat.le_refl _))
    have HRc1 := Lib.hid (HRc0.out.below HB1.out (Nat.le_refl _))
    have HKb1 := Lib.hid hk
    replace HZ1 : Hid (w.heap.size < w1.heap.size) := Lib.hid (by omega)
    have HE1 := Lib.hid hz
    clear hb hk hz
    have ltb := lt_of_block HKb1.out
    obtain ⟨cb0, fb0⟩ := cell1 HKb1.out
    refine (iAm_any _ _ us cs _ HRu1.out HS.out HRc1.out false ⟨fun e => (by simp at e), fun e => absurd e HO.out⟩).mono ?_
    rintro e w2 ⟨rfl, hb⟩
    have HB2 : Hid (Below w.heap.size w w2) := Lib.hid (HB1.out.trans (hb.mono HB1.out.size))
    have HZ2 : Hid (w1.heap.size ≤ w2.heap.size) := Lib.hid hb.size
    have HRu2 := Lib.hid (HRu0.out.below HB2.out (Nat.le_refl _))
    have HRc2 := Lib.hid (HRc0.out.below HB2.out (Nat.le_refl _))
    have HKb2 := Lib.hid ((hb.block _ (lt_of_block HKb1.out)).trans HKb1.out)
    clear hb
    clear cb0 fb0 ltb
    have ltb := lt_of_block HKb2.out
    obtain ⟨cb0, fb0⟩ := cell1 HKb2.out
    go_wp2_with fail
    go_ret2
    exact ⟨rfl, HB2.out⟩
end Go.Proofs.YtghdmiimanhjgaaDoor
