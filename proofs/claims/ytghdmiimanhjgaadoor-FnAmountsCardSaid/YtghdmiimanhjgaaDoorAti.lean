/- The program's text of an amount. -/
import Derived.Test.YtghdmiimanhjgaaDoorAtx
import Derived.Test.YtghdmiimanhjgaaDoorFmtc
import Derived.Test.YtghdmiimanhjgaaDoorShelf
import Derived.Test.YtghdmiimanhjgaaDoorKa
import Derived.OwnWalk
import Derived.Maps.AppendAt
import Derived.Deep.RegionHeld3
import Derived.Deep.AppendLies
namespace Go.Proofs.YtghdmiimanhjgaaDoor
set_option linter.unusedVariables false
open Go.RowKit

theorem own_cap7 {w : World} {B g cap n : Nat} {e : TypeId} {size : Nat} {xs : List Value} (h : w.ownsRow B e size (.slice (some ⟨g, 0, none⟩) n cap) n xs) : n ≤ cap := by
  rcases h.2 with ⟨h1, _⟩ | ⟨g1, c1, cur, h1, _, _, hn, _⟩
  · cases h1
  · cases h1; exact hn
theorem Tryd.infoStr7 : (Tryd.prog.info? 9).map (fun i => (i.zero, i.size, i.bytes)) = some (some (.string ⟨#[]⟩), 1, 16) := by kernel_rfl
set_option maxRecDepth 100000 in
set_option maxHeartbeats 1600000 in
theorem iCt_any (c : Int) (nm : ByteArray) (sz : Int) (w : World) (h0 : 0 ≤ c) (h1 : c ≤ 9999) (hn : nm.size ≤ 10) (ht : Lib.TabIs Tryd.prog w "internal/strconv.uint64pow10" .u64 Lib.pow10Tab) :
    Calls Tryd.prog 40 #[.int .i64 c, .agg #[.string nm, .int .i64 sz]] w fun e w' => e = .returned (.string (ctS c nm)) ∧ Below w.heap.size w w' := by
  have HT := Lib.hid ht
  obtain ⟨T, hT⟩ : ∃ T : ByteArray, T = ⟨(Lib.itoa c).toArray⟩ := ⟨_, rfl⟩
  have sT : T.size ≤ 19 := by rw [hT, mk_size, itoa_small c h0]; exact dec_len _ (by omega)
  have HC : Hid (ctS c nm = T ++ ⟨#[32]⟩ ++ nm) := Lib.hid (by rw [hT]; rfl)
  have HI : Hid (∀ w' : World, Below w.heap.size w w' → Calls Tryd.prog 48 #[.int .i64 c] w' fun e w'' => e = .returned (.string T) ∧ Below w'.heap.size w' w'') := Lib.hid (fun w' hb => by
    rw [hT]
    refine (Tryd.strconv_Itoa c (by omega) (by omega) w' (tab_below HT.out hb)).mono ?_
    rintro e w'' ⟨rfl, k, os, rfl⟩
    exact ⟨rfl, bl_grow _ _ _⟩)
  have q32 : (⟨#[32]⟩ : ByteArray).size = 1 := rfl
  have g1 : ¬ 9223372036854775807 < T.size + 1 := by omega
  have g2 : ¬ 9223372036854775807 < T.size + 1 + nm.size := by omega
  have HB0 : Hid (Below w.heap.size w w) := Lib.hid (Below.refl _ _)
  clear ht hT
  go_enter Tryd.func40, Tryd.ntmps40
  go_wp2_with fail
  have hb : Below w.heap.size w (w.alloc (.cells #[.string nm, .int .i64 sz] 40)) := (Below.refl _ _).alloc (Nat.le_refl _) _
  have hk : (w.alloc (.cells #[.string nm, .int .i64 sz] 40)).heap[w.heap.size]? = some (.cells #[.string nm, .int .i64 sz] 40 (0, 0)) := alloc_at rfl
  have hz : (w.alloc (.cells #[.string nm, .int .i64 sz] 40)).heap.size = w.heap.size + 1 := by simp
  generalize w.alloc (.cells #[.string nm, .int .i64 sz] 40) = w1 at hb hk hz ⊢
  have HB1 : Hid (Below w.heap.size w w1) := Lib.hid (HB0.out.trans (hb.mono HB0.out.size))
  have HZ1 : Hid (w.heap.size ≤ w1.heap.size) := Lib.hid hb.size
  have HKx1 := Lib.hid hk
  replace HZ1 : Hid (w.heap.size < w1.heap.size) := Lib.hid (by omega)
  have HE1 := Lib.hid hz
  clear hb hk hz
  have ltx := lt_of_block HKx1.out
  obtain ⟨cx0, cx1, fx0, fx1⟩ := cell2 HKx1.out
  refine wp_region_held_drew (S := (fun w' => w'.cell? ⟨w.heap.size, 0, none⟩ = some (.string nm))) (by kernel_rfl) (cx0) (fun hHeld => ?_)
  have hb : Below w1.heap.size w1 w1.drew := (Below.refl _ _).drew
  generalize w1.drew = w2 at hb hHeld ⊢
  have HB2 : Hid (Below w.heap.size w w2) := Lib.hid (HB1.out.trans (hb.mono HB1.out.size))
  have HZ2 : Hid (w1.heap.size ≤ w2.heap.size) := Lib.hid hb.size
  have HKx2 := Lib.hid ((hb.block _ (lt_of_block HKx1.out)).trans HKx1.out)
  clear hb
  clear cx0 cx1 fx0 fx1 ltx
  have ltx := lt_of_block HKx2.out
  obtain ⟨cx0, cx1, fx0, fx1⟩ := cell2 HKx2.out
  refine take1 (i := 0) (v := ?v1) (some 5) rfl rfl (by kernel_rfl) (by kernel_rfl) (by kernel_rfl) (fun _ _ _ h => h) (Or.inl ⟨by rfl, ?y1⟩) (by assumption) ?r1
  case y1 => (intro w hSw; (try dsimp only at hSw); go_simp; (first | done | with_reducible rfl))
  try simp only [Act.put, List.setIfInBounds_toArray, List.set_cons_zero, List.set_cons_succ]
  refine take1 (i := 3) (v := ?v2) (some 8) rfl rfl (by kernel_rfl) (by kernel_rfl) (by kernel_rfl) (fun _ _ _ h => h) (Or.inl ⟨by rfl, ?y2⟩) (by assumption) ?r2
  case y2 => (intro w hSw; (try dsimp only at hSw); go_simp; (first | done | with_reducible rfl))
  try simp only [Act.put, List.setIfInBounds_toArray, List.set_cons_zero, List.set_cons_succ]
  refine take1 (i := 4) (v := ?v3) (some 9) rfl rfl (by kernel_rfl) (by kernel_rfl) (by kernel_rfl) (fun _ _ _ h => h) (Or.inl ⟨by rfl, ?y3⟩) (by assumption) ?r3
  case y3 => (intro w hSw; (try dsimp only at hSw); go_simp; (first | done | with_reducible rfl))
  try simp only [Act.put, List.setIfInBounds_toArray, List.set_cons_zero, List.set_cons_succ]
  refine wpAnyH_ready (rs := [1]) (by kernel_rfl) (by simp) ?_
  refine AllReadyH.cons rfl (fun K hK => ?_) AllReadyH.nil
  go_simp
  go_at_call 48
  refine (HI.out _ HB2.out).mono ?_
  rintro e w3 ⟨rfl, hb⟩
  have HB3 : Hid (Below w.heap.size w w3) := Lib.hid (HB2.out.trans (hb.mono HB2.out.size))
  have HZ3 : Hid (w2.heap.size ≤ w3.heap.size) := Lib.hid hb.size
  have HKx3 := Lib.hid ((hb.block _ (lt_of_block HKx2.out)).trans HKx2.out)
  clear hb
  clear cx0 cx1 fx0 fx1 ltx
  have ltx := lt_of_block HKx3.out
  obtain ⟨cx0, cx1, fx0, fx1⟩ := cell2 HKx3.out
  try go_simp
  refine hK.out _ _ (cx0) (fun hHeld => ?_)
  clear hK K
  try simp only [Act.put, List.setIfInBounds_toArray, List.set_cons_zero, List.set_cons_succ]
  refine take1 (i := 2) (v := ?v4) (some 7) rfl rfl (by kernel_rfl) (by kernel_rfl) (by kernel_rfl) (fun _ _ _ h => h) (Or.inl ⟨by rfl, ?y4⟩) (by assumption) ?r4
  case y4 => (intro w hSw; (try dsimp only at hSw); go_simp; (first | done | with_reducible rfl))
  try simp only [Act.put, List.setIfInBounds_toArray, List.set_cons_zero, List.set_cons_succ]
  refine take1 (i := 5) (v := ?v5) (some 10) rfl rfl (by kernel_rfl) (by kernel_rfl) (by kernel_rfl) (fun _ _ _ h => h) (Or.inl ⟨by rfl, ?y5⟩) (by assumption) ?r5
  case y5 => (intro w hSw; (try dsimp only at hSw); go_simp; (first | done | with_reducible rfl))
  try simp only [Act.put, List.setIfInBounds_toArray, List.set_cons_zero, List.set_cons_succ]
  refine take1 (i := 6) (v := ?v6) (some 4) rfl rfl (by kernel_rfl) (by kernel_rfl) (by kernel_rfl) (fun _ _ _ h => h) (Or.inl ⟨by rfl, ?y6⟩) (by assumption) ?r6
  case y6 => (intro w hSw; (try dsimp only at hSw); go_simp; (first | done | with_reducible rfl))
  try simp only [Act.put, List.setIfInBounds_toArray, List.set_cons_zero, List.set_cons_succ]
  refine wpAnyH_done (by kernel_rfl) ?_ _
  go_wp2_with fail
  go_ret
  exact ⟨by rw [HC.out]; rfl, HB3.out⟩

set_option maxRecDepth 100000 in
set_option maxHeartbeats 3200000 in
theorem iText_yes (v sv : Value) (us : List Un) (cs : List Int) (w : World) (h : RowsR 2 unC w v us) (hs : ∀ u ∈ us, u.nm.size ≤ maxLen) (hc : RowsR 1 inC w sv cs) (ho : okAm us cs) (ht : Lib.TabIs Tryd.prog w "internal/strconv.uint64pow10" .u64 Lib.pow10Tab) :
    Calls Tryd.prog 18 #[v, .agg #[sv]] w fun e w' => e = .returned (.tuple #[.string (atT us cs), .bool true]) ∧ Below w.heap.size w w' := by
  obtain ⟨i0, hi, hz0, hz1, hz2⟩ := info_parts Tryd.infoStr7
  have hu6 : us.length ≤ 6 := ho.1.1.2
  have hu1 : 1 ≤ us.length := ho.1.1.1
  obtain ⟨a, cp, rfl⟩ := h.form
  obtain ⟨a1, c1, rfl⟩ := hc.form
  have A1 := Lib.hid (int_at7 hc)
  have A2 := Lib.hid (nm_at7 h)
  have HS := Lib.hid hs
  have HCU := Lib.hid ho.2.1
  have HO := Lib.hid ho
  have HNM : Hid (∀ k, k < us.length → (nmU us k).size ≤ 10) := Lib.hid (fun k hk => by rw [nmU_at _ _ hk]; exact (ho.1.2 _ hk).1.2.2)
  have HCT : Hid (∀ (x : Int) (nm : ByteArray) (sz : Int) (w' : World), Below w.heap.size w w' → 0 ≤ x → x ≤ 9999 → nm.size ≤ 10 → Calls Tryd.prog 40 #[.int .i64 x, .agg #[.string nm, .int .i64 sz]] w' fun e w'' => e = .returned (.string (ctS x nm)) ∧ Below w'.heap.size w' w'') := Lib.hid (fun x nm sz w' hb h0 h1 hn => iCt_any x nm sz w' h0 h1 hn (tab_below ht hb))
  have HB0 : Hid (Below w.heap.size w w) := Lib.hid (Below.refl _ _)
  have HRu0 := Lib.hid (h)
  have HRc0 := Lib.hid (hc)
  clear h hc hs ho ht
  go_enter Tryd.func18, Tryd.ntmps18
  go_wp2_with fail
  have hb : Below w.heap.size w (w.alloc (.cells #[.slice a1 cs.length c1] 27)) := (Below.refl _ _).alloc (Nat.le_refl _) _
  have hk : (w.alloc (.cells #[.slice a1 cs.length c1] 27)).heap[w.heap.size]? = some (.cells #[.slice a1 cs.length c1] 27 (0, 0)) := alloc_at rfl
  have hz : (w.alloc (.cells #[.slice a1 cs.length c1] 27)).heap.size = w.heap.size + 1 := by simp
  generalize w.alloc (.cells #[.slice a1 cs.length c1] 27) = w1 at hb hk hz ⊢
  have HB1 : Hid (Below w.heap.size w w1) := Lib.hid (HB0.out.trans (hb.mono HB0.out.size))
  have HZ1 : Hid (w.heap.size ≤ w1.heap.size) := Lib.hid hb.size
  have HRu1 := Lib.hid (HRu0.out.below HB1.out (Nat.le_refl _))
  have HRc1 := Lib.hid (HRc0.out.below HB1.out (Nat.le_refl _))
  have HKb1 := Lib.hid hk
  replace HZ1 : Hid (w.heap.size < w1.heap.size) := Lib.hid (by omega)
  have HE1 := Lib.hid hz
  clear hb hk hz
  have ltb := lt_of_block HKb1.out
  obtain ⟨cb0, fb0⟩ := cell1 HKb1.out
  refine (iAm_any _ _ us cs _ HRu1.out HS.out HRc1.out true ⟨fun _ => HO.out, fun _ => rfl⟩).mono ?_
  rintro e w2 ⟨rfl, hb⟩
  have HB2 : Hid (Below w.heap.size w w2) := Lib.hid (HB1.out.trans (hb.mono HB1.out.size))
  have HZ2 : Hid (w1.heap.size ≤ w2.heap.size) := Lib.hid hb.size
  have HRu2 := Lib.hid (HRu0.out.below HB2.out (Nat.le_refl _))
  have HRc2 := Lib.hid (HRc0.out.below HB2.out (Nat.le_refl _))
  have HKb2 := Lib.hid ((hb.block _ (lt_of_block HKb1.out)).trans HKb1.out)
  clear hb
  clear cb0 fb0 ltb
  have ltb := lt_of_block HKb2.out
  obtain ⟨cb0, fb0⟩ := cell1 HKb2.out
  have hS1 : w.heap.size < w2.heap.size := ltb
  have HO0 := Lib.hid (World.ownsRow_made (base := w2.heap.size) (e := 9) (size := 1) w2 #[] 0 (Nat.le_refl _) (Nat.zero_le _) (by simp))
  have hk2 := HKb2.out
  have HK0 : Hid ((w2.alloc (.cells #[] 9)).heap[w.heap.size]? = some (.cells #[.slice a1 cs.length c1] 27 (0, 0))) := Lib.hid ((alloc_old (by omega)).trans hk2)
  have HB0' := Lib.hid (HB2.out.alloc (o := .cells #[] 9) HB2.out.size)
  clear hk2
  go_wp2_with fail
  go_loopw [6, 7] (fun s i wr => ∃ (k d N : Nat) (ii : Int) (g c : Nat), k + d = us.length ∧ ii + 1 = (k : Int) ∧ i = .int .i64 ii ∧ s = .slice (some ⟨g, 0, none⟩) N c ∧ Hid (N = (pcD us cs d).length) ∧ N ≤ d ∧ wr.ownsRow w2.heap.size 9 1 (.slice (some ⟨g, 0, none⟩) N c) N ((pcD us cs d).map Value.string) ∧ wr.heap[w.heap.size]? = some (.cells #[.slice a1 cs.length c1] 27 (0, 0)) ∧ Below w.heap.size w wr ∧ w2.heap.size ≤ wr.heap.size) (fun _ i _ => (intOf i + 1).toNat)
  case atStart => exact ⟨us.length, 0, 0, (us.length : Int) - 1, _, _, by omega, by omega, by go_num, rfl, Lib.hid rfl, by omega, HO0.out, HK0.out, HB0'.out, by simp⟩
  case round =>
    obtain ⟨k, d, N, ii, g, c, hk, hki, rfl, rfl, HN, hN6, hown, hkb, hb, hsz⟩ := hrel
    have HOW := Lib.hid hown
    have HB := Lib.hid hb
    have HKB := Lib.hid hkb
    have HSZ := Lib.hid hsz
    by_cases hk0 : 0 < k
    · obtain ⟨m, rfl⟩ : ∃ m, k = m + 1 := ⟨k - 1, by omega⟩
      obtain rfl : ii = (m : Int) := by omega
      have hlt : m < us.length := by omega
      have hlt2 : m < cs.length := by have := HCU.out; omega
      have z1 : (0 : Int) ≤ (m : Int) := by omega
      have z2 : (m : Int) < (us.length : Int) := by omega
      have z3 : (m : Int) < (cs.length : Int) := by omega
      obtain ⟨b1, o1, rfl, l1, p0⟩ := A1.out _ hb m hlt2
      obtain ⟨b2, o2, rfl, l2, q0, q1⟩ := A2.out _ hb m hlt
      obtain ⟨x0, x1⟩ := HO.out.2.2 m hlt2
      have hnm := HNM.out m hlt
      have HZ : Hid (cs[m] = 0 → pcD us cs (d + 1) = pcD us cs d) := Lib.hid (fun h0 => pcD_zero us cs m d (by omega) (by rw [cA_at cs m hlt2]; exact h0))
      have HP : Hid (cs[m] ≠ 0 → pcD us cs (d + 1) = pcD us cs d ++ [ctS cs[m] (nmU us m)]) := Lib.hid (fun h0 => by rw [← cA_at cs m hlt2] at h0 ⊢; exact pcD_more us cs m d (by omega) h0)
      generalize cs[m] = x at p0 HZ HP x0 x1
      generalize nmU us m = nm at q0 HP hnm
      generalize us[m].sz = z at q1
      clear hki hk0 hkb hown hsz
      by_cases hx0 : x = 0
      · have HE := Lib.hid (HZ.out hx0)
        have hd : (x != 0) = false := by rw [hx0]; rfl
        obtain ⟨cb0, _⟩ := cell1 HKB.out
        clear hx0 hb
        go_wp2_with fail
        go_roundw
        case rel => exact ⟨m, d + 1, N, (m : Int) - 1, g, c, by omega, by omega, by go_num, rfl, Lib.hid (by rw [HE.out]; exact HN.out), by omega, by rw [HE.out]; exact HOW.out, HKB.out, HB.out, HSZ.out⟩
        case measure => simp [intOf]
      · have hd : (x != 0) = true := by rw [bne_iff_ne]; exact hx0
        have HP2 := Lib.hid (HP.out hx0)
        clear hx0
        have HB10 : Hid (Below w.heap.size w wr) := Lib.hid hb
        have HRu10 := Lib.hid (HRu0.out.below HB10.out (Nat.le_refl _))
        have HRc10 := Lib.hid (HRc0.out.below HB10.out (Nat.le_refl _))
        have HKb10 := Lib.hid (HKB.out)
        have ltb := lt_of_block HKb10.out
        obtain ⟨cb0, fb0⟩ := cell1 HKb10.out
        go_wp2_with fail
        refine wp_region_held_drew (S := (fun w' => w'.cell? ⟨w.heap.size, 0, none⟩ = some (.slice (some ⟨b1, o1, none⟩) cs.length c1) ∧ w'.cell? ⟨b1, o1 + m, none⟩ = some (.int .i64 x) ∧ w'.cell? ⟨b2, o2 + m * 2, none⟩ = some (.string nm) ∧ w'.cell? ⟨b2, o2 + m * 2 + 1, none⟩ = some (.int .i64 z))) (by kernel_rfl) (⟨cb0, p0, q0, q1⟩) (fun hHeld => ?_)
        have ps : ∀ w' : World, Below wr.heap.size wr w' → w'.cell? ⟨b1, o1 + m, none⟩ = some (.int .i64 x) ∧ w'.cell? ⟨b2, o2 + m * 2, none⟩ = some (.string nm) ∧ w'.cell? ⟨b2, o2 + m * 2 + 1, none⟩ = some (.int .i64 z) := fun w' hb9 =>
          ⟨(hb9.cell (p := ⟨b1, o1 + m, none⟩) (Nat.lt_of_lt_of_le l1 HB.out.size)).trans p0, (hb9.cell (p := ⟨b2, o2 + m * 2, none⟩) (Nat.lt_of_lt_of_le l2 HB.out.size)).trans q0, (hb9.cell (p := ⟨b2, o2 + m * 2 + 1, none⟩) (Nat.lt_of_lt_of_le l2 HB.out.size)).trans q1⟩
        have PS := Lib.hid ps
        clear ps p0 q0 q1
        have hb : Below wr.heap.size wr wr.drew := (Below.refl _ _).drew
        have hbr := hb
        generalize wr.drew = w11 at hb hbr hHeld ⊢
        have HR11 := Lib.hid hbr
        clear hbr
        have HB11 : Hid (Below w.heap.size w w11) := Lib.hid (HB10.out.trans (hb.mono HB10.out.size))
        have HZ11 : Hid (wr.heap.size ≤ w11.heap.size) := Lib.hid hb.size
        have HRu11 := Lib.hid (HRu0.out.below HB11.out (Nat.le_refl _))
        have HRc11 := Lib.hid (HRc0.out.below HB11.out (Nat.le_refl _))
        have HKb11 := Lib.hid ((hb.block _ (lt_of_block HKb10.out)).trans HKb10.out)
        clear hb
        clear cb0 fb0 ltb
        have ltb := lt_of_block HKb11.out
        obtain ⟨cb0, fb0⟩ := cell1 HKb11.out
        refine take1 (i := 0) (v := ?v7) (some 26) rfl rfl (by kernel_rfl) (by kernel_rfl) (by kernel_rfl) (fun _ _ _ h => h) (Or.inl ⟨by rfl, ?y7⟩) (by assumption) ?r7
        case y7 => (intro w hSw; (try dsimp only at hSw); go_simp; (first | done | with_reducible rfl))
        try simp only [Act.put, List.setIfInBounds_toArray, List.set_cons_zero, List.set_cons_succ]
        refine take1 (i := 1) (v := ?v8) (some 27) rfl rfl (by kernel_rfl) (by kernel_rfl) (by kernel_rfl) (fun _ _ _ h => h) (Or.inl ⟨by rfl, ?y8⟩) (by assumption) ?r8
        case y8 => (intro w hSw; (try dsimp only at hSw); go_simp; (first | done | with_reducible rfl))
        try simp only [Act.put, List.setIfInBounds_toArray, List.set_cons_zero, List.set_cons_succ]
        refine take1 (i := 2) (v := ?v9) (some 28) rfl rfl (by kernel_rfl) (by kernel_rfl) (by kernel_rfl) (fun _ _ _ h => h) (Or.inl ⟨by rfl, ?y9⟩) (by assumption) ?r9
        case y9 => (intro w hSw; (try dsimp only at hSw); go_simp; (first | done | with_reducible rfl))
        try simp only [Act.put, List.setIfInBounds_toArray, List.set_cons_zero, List.set_cons_succ]
        refine take1 (i := 3) (v := ?v10) (some 29) rfl rfl (by kernel_rfl) (by kernel_rfl) (by kernel_rfl) (fun _ _ _ h => h) (Or.inl ⟨by rfl, ?y10⟩) (by assumption) ?r10
        case y10 => (intro w hSw; (try dsimp only at hSw); go_simp; (first | done | with_reducible rfl))
        try simp only [Act.put, List.setIfInBounds_toArray, List.set_cons_zero, List.set_cons_succ]
        refine take1 (i := 4) (v := ?v11) (some 30) rfl rfl (by kernel_rfl) (by kernel_rfl) (by kernel_rfl) (fun _ _ _ h => h) (Or.inl ⟨by rfl, ?y11⟩) (by assumption) ?r11
        case y11 => (intro w hSw; (try dsimp only at hSw); go_simp; (first | done | with_reducible rfl))
        try simp only [Act.put, List.setIfInBounds_toArray, List.set_cons_zero, List.set_cons_succ]
        refine take1 (i := 5) (v := ?v12) (some 31) rfl rfl (by kernel_rfl) (by kernel_rfl) (by kernel_rfl) (fun _ _ _ h => h) (Or.inl ⟨by rfl, ?y12⟩) (by assumption) ?r12
        case y12 => (intro w hSw; (try dsimp only at hSw); go_simp; (first | done | with_reducible rfl))
        try simp only [Act.put, List.setIfInBounds_toArray, List.set_cons_zero, List.set_cons_succ]
        refine take1 (i := 6) (v := ?v13) (some 32) rfl rfl (by kernel_rfl) (by kernel_rfl) (by kernel_rfl) (fun _ _ _ h => h) (Or.inl ⟨by rfl, ?y13⟩) (by assumption) ?r13
        case y13 => (intro w hSw; (try dsimp only at hSw); go_simp; (first | done | with_reducible rfl))
        try simp only [Act.put, List.setIfInBounds_toArray, List.set_cons_zero, List.set_cons_succ]
        refine take1 (i := 7) (v := ?v14) (some 33) rfl rfl (by kernel_rfl) (by kernel_rfl) (by kernel_rfl) (fun _ _ _ h => h) (Or.inl ⟨by rfl, ?y14⟩) (by assumption) ?r14
        case y14 => (intro w hSw; (try dsimp only at hSw); go_simp; (first | done | with_reducible rfl))
        try simp only [Act.put, List.setIfInBounds_toArray, List.set_cons_zero, List.set_cons_succ]
        refine take1 (i := 8) (v := ?v15) (some 34) rfl rfl (by kernel_rfl) (by kernel_rfl) (by kernel_rfl) (fun _ _ _ h => h) (Or.inl ⟨by rfl, ?y15⟩) (by assumption) ?r15
        case y15 => (intro w hSw; (try dsimp only at hSw); go_simp; (first | done | with_reducible rfl))
        try simp only [Act.put, List.setIfInBounds_toArray, List.set_cons_zero, List.set_cons_succ]
        refine take1 (i := 9) (v := ?v16) (some 35) rfl rfl (by kernel_rfl) (by kernel_rfl) (by kernel_rfl) (fun _ _ _ h => h) (Or.inl ⟨by rfl, ?y16⟩) (by assumption) ?r16
        case y16 => (intro w hSw; (try dsimp only at hSw); go_simp; (first | done | with_reducible rfl))
        try simp only [Act.put, List.setIfInBounds_toArray, List.set_cons_zero, List.set_cons_succ]
        refine wpAnyH_ready (rs := [10]) (by kernel_rfl) (by simp) ?_
        refine AllReadyH.cons rfl (fun K hK => ?_) AllReadyH.nil
        go_simp
        go_at_call 40
        refine (HCT.out x nm z _ HB11.out x0 x1 hnm).mono ?_
        rintro e w12 ⟨rfl, hb⟩
        have HR12 := Lib.hid (HR11.out.trans (hb.mono HR11.out.size))
        have HB12 : Hid (Below w.heap.size w w12) := Lib.hid (HB11.out.trans (hb.mono HB11.out.size))
        have HZ12 : Hid (w11.heap.size ≤ w12.heap.size) := Lib.hid hb.size
        have HRu12 := Lib.hid (HRu0.out.below HB12.out (Nat.le_refl _))
        have HRc12 := Lib.hid (HRc0.out.below HB12.out (Nat.le_refl _))
        have HKb12 := Lib.hid ((hb.block _ (lt_of_block HKb11.out)).trans HKb11.out)
        clear hb
        clear cb0 fb0 ltb
        have ltb := lt_of_block HKb12.out
        obtain ⟨cb0, fb0⟩ := cell1 HKb12.out
        try go_simp
        refine hK.out _ _ (⟨cb0, PS.out _ HR12.out⟩) (fun hHeld => ?_)
        clear hK K
        try simp only [Act.put, List.setIfInBounds_toArray, List.set_cons_zero, List.set_cons_succ]
        generalize ctS x nm = CT at HP2 ⊢
        refine wpAnyH_ready (rs := [11]) (by kernel_rfl) (by simp) ?_
        refine AllReadyH.cons rfl (fun K hK => ?_) AllReadyH.nil
        go_simp
        have hb : Below w12.heap.size w12 (w12.alloc (.cells #[.string CT] 9)) := (Below.refl _ _).alloc (Nat.le_refl _) _
        have hnb : (w12.alloc (.cells #[.string CT] 9)).heap[w12.heap.size]? = some (.cells #[.string CT] 9 (0, 0)) := alloc_at rfl
        generalize w12.alloc (.cells #[.string CT] 9) = w13 at hb hnb ⊢
        have HNB := Lib.hid hnb
        have HR13 := Lib.hid (HR12.out.trans (hb.mono HR12.out.size))
        clear hnb
        have HB13 : Hid (Below w.heap.size w w13) := Lib.hid (HB12.out.trans (hb.mono HB12.out.size))
        have HZ13 : Hid (w12.heap.size ≤ w13.heap.size) := Lib.hid hb.size
        have HRu13 := Lib.hid (HRu0.out.below HB13.out (Nat.le_refl _))
        have HRc13 := Lib.hid (HRc0.out.below HB13.out (Nat.le_refl _))
        have HKb13 := Lib.hid ((hb.block _ (lt_of_block HKb12.out)).trans HKb12.out)
        clear hb
        clear cb0 fb0 ltb
        have ltb := lt_of_block HKb13.out
        obtain ⟨cb0, fb0⟩ := cell1 HKb13.out
        refine hK.out _ _ (⟨cb0, PS.out _ HR13.out⟩) (fun hHeld => ?_)
        clear hK K
        try simp only [Act.put]
        have HO13 := Lib.hid (own_below HOW.out HR13.out)
        have HS13 : Hid (w2.heap.size ≤ w13.heap.size) := Lib.hid (by have h1 := HR13.out.size; have := HSZ.out; omega)
        refine wpAnyH_ready (rs := [12]) (by kernel_rfl) (by simp) ?_
        refine AllReadyH.cons rfl (fun K hK => ?_) AllReadyH.nil
        refine step_append_lies _ (by rfl) _ _ _ (by rfl) w2.heap.size 9 i0 (.string ⟨#[]⟩) 1 16 Tryd.underlying62 hi hz0 hz1 hz2 rfl (by decide) _ N _ (by rfl) HO13.out ⟨w12.heap.size, 0, none⟩ 1 1 [.string CT] (by rfl) (by rfl) (World.news_of_block HNB.out) ?h1 (by decide) ?h63 ?hby ?hbs _ rfl ?_
        case h1 => intro u hu; rw [List.mem_singleton.1 hu]; rfl
        case h63 => unfold maxLen; omega
        case hby => omega
        case hbs => exact HS13.out
        intro g2 c2' wn hown2 hgr _ _
        have HON := Lib.hid hown2
        have hbn : Below w2.heap.size w13 wn := (Below.refl w2.heap.size w13).grown hgr HS13.out (fun q hq => (HO13.out.lt q hq).1)
        have HBN : Hid (Below w.heap.size w wn) := Lib.hid (HB13.out.grown hgr (by have := HS13.out; omega) (fun q hq => by have := (HO13.out.lt q hq).1; omega))
        have hkn := (hbn.block w.heap.size hS1).trans HKb13.out
        have HKN := Lib.hid hkn
        have hpn : wn.cell? ⟨b1, o1 + m, none⟩ = some (.int .i64 x) ∧ wn.cell? ⟨b2, o2 + m * 2, none⟩ = some (.string nm) ∧ wn.cell? ⟨b2, o2 + m * 2 + 1, none⟩ = some (.int .i64 z) := by
          have h9 := PS.out _ HR13.out
          exact ⟨(hbn.cell (p := ⟨b1, o1 + m, none⟩) (by show b1 < w2.heap.size; omega)).trans h9.1, (hbn.cell (p := ⟨b2, o2 + m * 2, none⟩) (by show b2 < w2.heap.size; omega)).trans h9.2.1, (hbn.cell (p := ⟨b2, o2 + m * 2 + 1, none⟩) (by show b2 < w2.heap.size; omega)).trans h9.2.2⟩
        have HSN : Hid (w2.heap.size ≤ wn.heap.size) := Lib.hid (by have h1 := hgr.size; have := HS13.out; omega)
        obtain ⟨cn0, _⟩ := cell1 hkn
        clear hown2 hgr hbn hkn
        refine hK.out _ _ (⟨cn0, hpn⟩) (fun hHeld => ?_)
        clear hK K
        try simp only [Act.put, List.setIfInBounds_toArray]
        refine take1 (i := 13) (v := ?v17) (some 6) rfl rfl (by kernel_rfl) (by kernel_rfl) (by kernel_rfl) (fun _ _ _ h => h) (Or.inl ⟨by rfl, ?y17⟩) (by assumption) ?r17
        case y17 => (intro w hSw; (try dsimp only at hSw); go_simp; (first | done | with_reducible rfl))
        try simp only [Act.put]
        refine wpAnyH_done (by kernel_rfl) ?_ _
        go_wp2_with fail
        go_roundw
        case rel => exact ⟨m, d + 1, N + 1, (m : Int) - 1, g2, c2', by omega, by omega, by go_num, by first | rfl | go_num, Lib.hid (by rw [HP2.out, List.length_append, List.length_singleton, HN.out]), by omega, by rw [HP2.out, List.map_append]; exact HON.out, HKN.out, HBN.out, HSN.out⟩
        case measure => simp [intOf]
    · obtain rfl : k = 0 := by omega
      obtain rfl : ii = -1 := by omega
      obtain rfl : d = us.length := by omega
      obtain ⟨b2, o2, rfl, l2, q0, q1⟩ := A2.out _ hb 0 (by omega)
      have hnm := HNM.out 0 (by omega)
      have hsj := joinP_size us cs HO.out us.length (Nat.le_refl _)
      by_cases he : pcD us cs us.length = []
      · obtain rfl : N = 0 := by rw [HN.out, he]; rfl
        have HE : Hid (joinP [ctS 0 (nmU us 0)] = atT us cs) := Lib.hid (by rw [joinP_one, atT, if_pos he])
        have q0' : wr.cell? ⟨b2, o2, none⟩ = some (.string (nmU us 0)) := by simpa using q0
        have q1' : wr.cell? ⟨b2, o2 + 1, none⟩ = some (.int .i64 us[0].sz) := by simpa using q1
        have z0 : (0 : Int) < (us.length : Int) := by omega
        have hcs := ctS_size 0 (nmU us 0)
        have hi0 : (Lib.itoa 0).length ≤ 19 := by rw [itoa_small 0 (by omega)]; exact dec_len _ (by omega)
        have HL : Hid ((Lib.join ([ctS 0 (nmU us 0)].map (·.data.toList)) (⟨#[44, 32]⟩ : ByteArray).data.toList).length ≤ 140737488355328) := Lib.hid (by
          rw [List.map_singleton, Lib.join_one]
          have : (ctS 0 (nmU us 0)).data.toList.length = (ctS 0 (nmU us 0)).size := rfl
          omega)
        have HOE : Hid (wr.ownsRow w2.heap.size 9 1 (.slice (some ⟨g, 0, none⟩) 0 c) 0 []) := Lib.hid (by have := HOW.out; rw [he] at this; exact this)
        have hj : joinP [ctS 0 (nmU us 0)] = ⟨(Lib.join ([ctS 0 (nmU us 0)].map (·.data.toList)) (⟨#[44, 32]⟩ : ByteArray).data.toList).toArray⟩ := rfl
        have HJ := Lib.hid hj
        have HCC := Lib.hid (fun w' (hb' : Below wr.heap.size wr w') => HCT.out 0 (nmU us 0) us[0].sz w' (HB.out.trans (hb'.mono HB.out.size)) (by omega) (by omega) hnm)
        generalize ctS 0 (nmU us 0) = CT at HE HL HJ HCC
        generalize nmU us 0 = nm at q0 q0' HCC
        generalize us[0].sz = z at q1 q1' HCC
        clear hki hk0 hkb hsj he hown hj hcs hi0
        go_wp2_with fail
        refine (HCC.out wr (Below.refl _ _)).mono ?_
        rintro e w5 ⟨rfl, hb5⟩
        have HB5 := Lib.hid (HB.out.trans (hb5.mono HB.out.size))
        have HO5 := Lib.hid (own_below HOE.out hb5)
        have HS5 : Hid (w2.heap.size ≤ w5.heap.size) := Lib.hid (by have := hb5.size; have := HSZ.out; omega)
        clear hb5 q0 q0' q1 q1'
        go_wp2_with (at_builtin; refine wpList_append_own _ rfl _ _ 62 rfl w2.heap.size 9 i0 (.string ⟨#[]⟩) 1 16 Tryd.underlying62 hi hz0 hz1 hz2 rfl (by decide) _ _ _ rfl (HO5.out.alloc _) ⟨w5.heap.size, 0, none⟩ 1 1 [.string CT] rfl rfl ?e1 ?e2 ?e3 ?e4 ?e5 ?_)
        case e1 => exact cell_one_new _ _ _
        case e2 => first | rfl | (intro u hu; rw [List.mem_singleton.1 hu]; rfl)
        case e3 => first | (unfold maxLen; omega) | omega
        case e4 => omega
        case e5 => (have := HS5.out; simp; omega)
        intro v' w6 hown6 hgrow6 _
        have HB6 : Hid (Below w.heap.size w w6) := Lib.hid ((HB5.out.alloc HB5.out.size _).grown hgrow6 (by have := HS5.out; simp; omega) (fun q hq => by have := (HO5.out.lt q hq).1; omega))
        obtain ⟨g6, c6, rfl⟩ := own_some hown6 (by omega)
        have HO6 : Hid (w6.ownsRow w2.heap.size 9 1 (.slice (some ⟨g6, 0, none⟩) 1 c6) 1 [.string CT]) := Lib.hid (by simpa using hown6)
        have HG6 : Hid (g6 < w6.heap.size ∧ 1 ≤ c6) := Lib.hid ⟨(hown6.lt _ rfl).2, own_cap7 hown6⟩
        clear hown6 hgrow6
        go_wp2_with fail
        refine (Tryd.strings_Join g6 0 c6 [CT] ⟨#[44, 32]⟩ w6 (fun j x hx => ?_) HG6.out.1 (by simp) HG6.out.2 HL.out).mono ?_
        · have hj0 : j = 0 := by
            rcases Nat.eq_zero_or_pos j with h | h
            · exact h
            · rw [List.getElem?_eq_none (by simp; omega)] at hx; cases hx
          subst hj0
          have hx' : CT = x := by simpa using hx
          subst hx'
          exact HO6.out.cells (g := g6) rfl 0 (.string CT) rfl
        rintro e w7 ⟨rfl, hb7⟩
        rw [← HJ.out, HE.out]
        generalize hat : atT us cs = AT
        have HAT := Lib.hid hat
        clear hat
        go_wp2_with fail
        go_ret2
        exact ⟨by rw [HAT.out]; rfl, HB6.out.trans (hb7.mono HB6.out.size)⟩
      · have hN0 : 0 < N := by rw [HN.out]; exact List.length_pos_iff.2 he
        have HE : Hid (joinP (pcD us cs us.length) = atT us cs) := Lib.hid (by rw [atT, if_neg he])
        have HL : Hid ((Lib.join ((pcD us cs us.length).map (·.data.toList)) (⟨#[44, 32]⟩ : ByteArray).data.toList).length ≤ 140737488355328) := Lib.hid (by
          have h1 : (joinP (pcD us cs us.length)).size = (Lib.join ((pcD us cs us.length).map (·.data.toList)) (⟨#[44, 32]⟩ : ByteArray).data.toList).length := by unfold joinP; rw [mk_size]
          have := hsj.1
          omega)
        have HJ : Hid (joinP (pcD us cs us.length) = ⟨(Lib.join ((pcD us cs us.length).map (·.data.toList)) (⟨#[44, 32]⟩ : ByteArray).data.toList).toArray⟩) := Lib.hid rfl
        have HG6 : Hid (g < wr.heap.size ∧ N ≤ c) := Lib.hid ⟨(hown.lt _ rfl).2, own_cap7 hown⟩
        have HNP := Lib.hid (pcD_len us cs us.length)
        have hz9 : ((N : Int) == 0) = false := beq_eq_false_iff_ne.2 (by omega)
        have HCELL : Hid (∀ (j : Nat) x, (pcD us cs us.length)[j]? = some x → wr.cell? ⟨g, 0 + j, none⟩ = some (.string x)) := Lib.hid (fun j x hx => by
          have h9 := HOW.out.cells (g := g) rfl j (.string x) (by rw [List.getElem?_map, hx]; rfl)
          have hadd : (⟨g, 0, none⟩ : Addr).add j = ⟨g, j, none⟩ := by cases j <;> simp [Addr.add]
          rw [hadd] at h9
          rw [Nat.zero_add]; exact h9)
        generalize pcD us cs us.length = PC at HE HL HJ HNP HCELL HN
        have HJN := Lib.hid (Tryd.strings_Join g 0 c PC ⟨#[44, 32]⟩ wr HCELL.out HG6.out.1 (by have := HNP.out; omega) (by rw [← HN.out]; exact HG6.out.2) HL.out)
        rw [← HN.out, ← HJ.out, HE.out] at HJN
        generalize hat : atT us cs = AT at HJN
        have HAT := Lib.hid hat
        clear hat
        clear hki hk0 hkb hsj he hown q0 q1
        go_wp2_with fail
        refine HJN.out.mono ?_
        rintro e w7 ⟨rfl, hb7⟩
        go_wp2_with fail
        go_ret2
        exact ⟨by rw [HAT.out]; rfl, HB.out.trans (hb7.mono HB.out.size)⟩
set_option maxRecDepth 100000 in
set_option maxHeartbeats 800000 in
theorem iText_any (v sv : Value) (us : List Un) (cs : List Int) (w : World) (h : RowsR 2 unC w v us) (hs : ∀ u ∈ us, u.nm.size ≤ maxLen) (hc : RowsR 1 inC w sv cs) (ht : Lib.TabIs Tryd.prog w "internal/strconv.uint64pow10" .u64 Lib.pow10Tab) (s : ByteArray) (t : Bool) (hk : AtF us cs s t) :
    Calls Tryd.prog 18 #[v, .agg #[sv]] w fun e w' => e = .returned (.tuple #[.string s, .bool t]) ∧ Below w.heap.size w w' := by
  rcases hk with ⟨ho, rfl, rfl⟩ | ⟨ho, rfl, rfl⟩
  · exact iText_yes v sv us cs w h hs hc ho ht
  · obtain ⟨a1, c1, rfl⟩ := hc.form
    have HN := Lib.hid ho
    have HS := Lib.hid hs
    have HB0 : Hid (Below w.heap.size w w) := Lib.hid (Below.refl _ _)
    have HRu0 := Lib.hid (h)
    have HRc0 := Lib.hid (hc)
    clear h hc hs ho ht
    go_enter Tryd.func18, Tryd.ntmps18
    go_wp2_with fail
    have hb : Below w.heap.size w (w.alloc (.cells #[.slice a1 cs.length c1] 27)) := (Below.refl _ _).alloc (Nat.le_refl _) _
    have hk : (w.alloc (.cells #[.slice a1 cs.length c1] 27)).heap[w.heap.size]? = some (.cells #[.slice a1 cs.length c1] 27 (0, 0)) := alloc_at rfl
    have hz : (w.alloc (.cells #[.slice a1 cs.length c1] 27)).heap.size = w.heap.size + 1 := by simp
    generalize w.alloc (.cells #[.slice a1 cs.length c1] 27) = w1 at hb hk hz ⊢
    have HB1 : Hid (Below w.heap.size w w1) := Lib.hid (HB0.out.trans (hb.mono HB0.out.size))
    have HZ1 : Hid (w.heap.size ≤ w1.heap.size) := Lib.hid hb.size
    have HRu1 := Lib.hid (HRu0.out.below HB1.out (Nat.le_refl _))
    have HRc1 := Lib.hid (HRc0.out.below HB1.out (Nat.le_refl _))
    have HKb1 := Lib.hid hk
    replace HZ1 : Hid (w.heap.size < w1.heap.size) := Lib.hid (by omega)
    have HE1 := Lib.hid hz
    clear hb hk hz
    have ltb := lt_of_block HKb1.out
    obtain ⟨cb0, fb0⟩ := cell1 HKb1.out
    refine (iAm_any _ _ us cs _ HRu1.out HS.out HRc1.out false ⟨fun e => (by simp at e), fun e => absurd e HN.out⟩).mono ?_
    rintro e w2 ⟨rfl, hb⟩
    have HB2 : Hid (Below w.heap.size w w2) := Lib.hid (HB1.out.trans (hb.mono HB1.out.size))
    have HZ2 : Hid (w1.heap.size ≤ w2.heap.size) := Lib.hid hb.size
    have HRu2 := Lib.hid (HRu0.out.below HB2.out (Nat.le_refl _))
    have HRc2 := Lib.hid (HRc0.out.below HB2.out (Nat.le_refl _))
    have HKb2 := Lib.hid ((hb.block _ (lt_of_block HKb1.out)).trans HKb1.out)
    clear hb
    clear cb0 fb0 ltb
    have ltb := lt_of_block HKb2.out
    obtain ⟨cb0, fb0⟩ := cell1 HKb2.out
    go_wp2_with fail
    go_ret2
    exact ⟨rfl, HB2.out⟩
end Go.Proofs.YtghdmiimanhjgaaDoor
