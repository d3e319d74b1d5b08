/- The model's ParseMoves. -/
import Derived.Test.YtmkocinknhaniaaPmath
import Derived.Test.YtmkocinknhaniaaMread2
import Derived.Test.YtmkocinknhaniaaKa
import Derived.Test.YtmkocinknhaniaaKz
namespace Go.Proofs.Ytmkocinknhaniaa
set_option linter.unusedVariables false
open Go.RowKit

theorem spl_count (c : UInt8) : ∀ l : List UInt8, (spl c l).length ≤ l.length + 1
  | [] => by simp [spl]
  | x :: r => by
    have ih := spl_count c r
    rw [spl]
    split
    · simp; exact ih
    · split
      · simp
      · rename_i p ps e; rw [e] at ih; simp at ih ⊢; omega
theorem spl_piece (c : UInt8) : ∀ (l : List UInt8) (p : List UInt8), p ∈ spl c l → p.length ≤ l.length
  | [], p, h => by simp [spl] at h; subst h; simp
  | x :: r, p, h => by
    have ih := spl_piece c r
    rw [spl] at h
    split at h
    · simp only [List.mem_cons] at h
      rcases h with rfl | h
      · simp
      · have := ih p h; simp; omega
    · split at h
      · simp at h; subst h; simp
      · rename_i q qs e
        simp only [List.mem_cons] at h
        rcases h with rfl | h
        · have := ih q (by rw [e]; simp); simp; omega
        · have := ih p (by rw [e]; simp [h]); simp; omega
theorem msT_nil {ms : List Mv} (h : msT ms = []) : ms = [] := by
  cases ms with
  | nil => rfl
  | cons m t => rw [msT_cons] at h; simp [mvT] at h

set_option maxRecDepth 100000 in
set_option maxHeartbeats 800000 in
theorem specParse_empty (w : World) : Calls Try.prog 11 #[.string ⟨#[]⟩] w fun e w' => (∃ sq, e = .returned (.tuple #[sq, .bool true]) ∧ w'.ownsRow w.heap.size 40 3 sq ([] : List Mv).length (flatC mvC [])) ∧ Below w.heap.size w w' := by
  go_enter Try.func11, Try.ntmps11
  go_wp2_with fail
  go_ret2
  exact ⟨⟨_, rfl, World.ownsRow_made (base := w.heap.size) (e := 40) (size := 3) _ #[] 0 (Nat.le_refl _) (Nat.zero_le _) (by simp)⟩, (Below.refl _ _).alloc (Nat.le_refl _) _⟩

set_option maxRecDepth 100000 in
set_option maxHeartbeats 3200000 in
theorem specParse_full (s : ByteArray) (w : World) (hs : s.size ≤ 1048576) (h0 : s.data.toList ≠ []) (qs : List Mv) (t : Bool) (ht : TstF s (mdlL s 61) qs t) :
    Calls Try.prog 11 #[.string s] w fun e w' => (∃ sq, e = .returned (.tuple #[sq, .bool t]) ∧ w'.ownsRow w.heap.size 40 3 sq qs.length (flatC mvC qs)) ∧ Below w.heap.size w w' := by
  obtain ⟨i0, hi, hz0, hz1, hz2⟩ := info_parts Try.infoBeadMove
  have hL : s.data.toList.length = s.size := by simp
  have hcn := spl_count 32 s.data.toList
  have HPC : Hid (∀ p ∈ spl 32 s.data.toList, p.length ≤ 1048576) := Lib.hid (fun p hp => by have := spl_piece 32 s.data.toList p hp; omega)
  have HT := Lib.hid ht
  have he1 : s.toList.isEmpty = false := by rw [ByteArray.toList_eq]; cases h : s.data.toList with
    | nil => exact absurd h h0
    | cons a b => rfl
  have HSN := Lib.hid (fun k h => mdlL_snoc s k h)
  have H61 : Hid (∀ k, k ≤ 61 → ((spl 32 s.data.toList).length ≤ k ∨ k = 61) → mdlL s k = mdlL s 61) := Lib.hid (fun k h1 h2 => by
    rcases h2 with h2 | rfl
    · unfold mdlL; rw [List.take_of_length_le h2, List.take_of_length_le (by omega)]
    · rfl)
  have HSP := Lib.hid (l1Split_any s 32 (w.alloc (.cells #[] 40)) hs)
  have HNE := Lib.hid (spl_ne 32 s.data.toList)
  obtain ⟨W, hW⟩ : ∃ W, W = spl 32 s.data.toList := ⟨_, rfl⟩
  rw [← hW] at hcn HPC HSN H61 HSP HNE
  clear hW ht h0
  have hN : W.length ≤ 1048577 := by omega
  have hN0 : 0 < W.length := List.length_pos_iff.2 HNE.out
  clear hcn hL
  have HO0 := Lib.hid (World.ownsRow_made (base := w.heap.size) (e := 40) (size := 3) w #[] 0 (Nat.le_refl _) (Nat.zero_le _) (by simp))
  have HB0 : Hid (Below w.heap.size w (w.alloc (.cells #[] 40))) := Lib.hid ((Below.refl _ _).alloc (Nat.le_refl _) _)
  have h32 : (((32 : UInt8).toNat : Int)) = 32 := rfl
  rw [h32] at HSP
  clear h32
  go_enter Try.func11, Try.ntmps11
  go_wp2_with fail
  refine HSP.out.mono ?_
  rintro e w2 ⟨v, rfl, hown, hb⟩
  have HO2 := Lib.hid (own_below HO0.out hb)
  have HB2 := Lib.hid (HB0.out.trans (hb.mono HB0.out.size))
  obtain ⟨g, cap, rfl⟩ := own_some hown hN0
  have HWO := Lib.hid hown
  clear hown hb
  go_wp2_with fail
  go_loopw [4, 6] (fun out i wr => ∃ k : Nat, k ≤ W.length ∧ k ≤ 61 ∧ i = .int .i64 k ∧ wr.ownsRow w.heap.size 40 3 out (mdlL s k).length (flatC mvC (mdlL s k)) ∧ Hid ((mdlL s k).length = k) ∧ wr.ownsRow w.heap.size 9 1 (.slice (some ⟨g, 0, none⟩) W.length cap) W.length (W.map strV) ∧ Below w.heap.size w wr) (fun _ i _ => 62 - (intOf i).toNat)
  case atStart => exact ⟨0, Nat.zero_le _, by omega, rfl, HO2.out, Lib.hid rfl, own_mono HWO.out (by simp), HB2.out⟩
  case round =>
    obtain ⟨k, hk, hk61, rfl, hown, HLK, hwo, hb⟩ := hrel
    have HO := Lib.hid hown
    have HB := Lib.hid hb
    have HWR := Lib.hid hwo
    have hszr := hb.size
    by_cases hlt : k < W.length ∧ k < 61
    · obtain ⟨hlw, hl61⟩ := hlt
      have z1 : (0 : Int) ≤ (k : Int) := by omega
      have z2 : (k : Int) < (W.length : Int) := by omega
      have z3 : (k : Int) ≤ 60 := by omega
      have hcell : wr.cell? ⟨g, k, none⟩ = some (.string ⟨W[k].toArray⟩) := by
        have := hwo.cellAt k (by omega)
        rw [this]; simp [hlw, strV]
      have HMS := Lib.hid (HSN.out k hlw)
      have hpl := HPC.out W[k] (List.getElem_mem hlw)
      have HRD := Lib.hid (fun w => l4Read_any ⟨W[k].toArray⟩ w (by rw [mk_size]; unfold maxLen; omega))
      generalize (⟨W[k].toArray⟩ : ByteArray) = word at hcell HMS HRD
      generalize readM word = m at HMS HRD
      obtain ⟨rod, part, amt⟩ := m
      change Hid (∀ w : World, Calls Try.prog 34 #[.string word] w fun e w' => e = .returned (.agg #[.int .i64 rod, .int .i64 part, .int .i64 amt]) ∧ Below w.heap.size w w') at HRD
      clear hown hb hwo hpl
      go_wp2_with fail
      refine (HRD.out _).mono ?_
      rintro e w3 ⟨rfl, hb3⟩
      have HO3 := Lib.hid (own_below HO.out hb3)
      have HB3 := Lib.hid (HB.out.trans (hb3.mono HB.out.size))
      have HWR3 := Lib.hid (own_below HWR.out hb3)
      have hsz3 := HB3.out.size
      clear hb3 hcell
      have hlk := HLK.out
      have HL2 := Lib.hid hlk
      clear hlk
      go_wp2_with (at_builtin; refine wpList_append_own _ rfl _ _ 24 rfl w.heap.size 40 i0 (.agg #[.int .i64 0, .int .i64 0, .int .i64 0]) 3 24 Try.underlying24 hi hz0 hz1 hz2 rfl (by decide) _ _ _ rfl (HO3.out.alloc _) ⟨w3.heap.size, 0, none⟩ 1 1 (mvC ⟨rod, part, amt⟩) rfl rfl ?c1 ?c2 ?c3 ?c4 ?c5 ?_)
      case c1 => exact news_at (vs := mvC ⟨rod, part, amt⟩) (alloc_at (by simp))
      case c2 => exact mvC_one _
      case c3 => rw [HL2.out]; unfold maxLen; omega
      case c4 => rw [HL2.out]; omega
      case c5 => simp; omega
      intro v' w4 hown4 hgrow4 _
      have HO4 := Lib.hid hown4
      have HB4 : Hid (Below w.heap.size w w4) := Lib.hid ((HB3.out.alloc HB3.out.size _).grown hgrow4 (by simp; omega) (fun q hq => (HO3.out.lt q hq).1))
      have HWR4 := Lib.hid (own_kept2 (HWR3.out.alloc _) (HO3.out.alloc _) (by decide) hgrow4)
      clear hown4 hgrow4
      go_wp2_with fail
      go_roundw
      case rel =>
        refine ⟨k + 1, by omega, by omega, by go_num, ?_, Lib.hid ?_, HWR4.out, HB4.out⟩
        · rw [HMS.out, flatC_app, List.length_append]
          have := HO4.out
          simpa [flatC] using this
        · rw [HMS.out, List.length_append, HL2.out]; rfl
      case measure => simp [intOf]; omega
    · have HE := Lib.hid (H61.out k hk61 (by omega))
      have HRR : Hid (RowsR 3 mvC wr _ (mdlL s 61)) := Lib.hid (RowsR.of_own mvC_len (HE.out ▸ hown))
      have HOE : Hid (wr.ownsRow w.heap.size 40 3 _ (mdlL s 61).length (flatC mvC (mdlL s 61))) := Lib.hid (HE.out ▸ hown)
      have hn1 : decide (k < W.length) = false ∨ (k < W.length ∧ ¬ (k : Int) ≤ 60) := by
        by_cases h1 : k < W.length
        · exact .inr ⟨h1, by omega⟩
        · exact .inl (by simp; omega)
      generalize mdlL s 61 = L at HRR HOE HT HE
      clear hown hwo hb hlt
      rcases hn1 with hn1 | ⟨hn1, hn2⟩
      all_goals
        by_cases hok : okMs L
        · have HOK := Lib.hid hok
          have HTX := Lib.hid (fun v w h => l4Text_any v L w h hok)
          obtain ⟨tt, htt⟩ : ∃ tt, tt = (⟨(msT L).toArray⟩ : ByteArray) := ⟨_, rfl⟩
          rw [← htt] at HTX
          by_cases hts : tt = s
          · have HF : Hid (qs = L ∧ t = true) := Lib.hid (by
              rcases HT.out with ⟨_, _, h1, h2⟩ | ⟨h0, _⟩
              · exact ⟨h1, h2⟩
              · exact absurd ⟨hok, by rw [← hts, htt]⟩ h0)
            have hss := bneSF hts
            have HTT := Lib.hid hts
            clear hok htt hts
            go_wp2_with fail
            refine (l4Good_any _ L _ HRR.out true ⟨fun _ => HOK.out, fun _ => rfl⟩).mono ?_
            rintro e w3 ⟨rfl, hb3⟩
            have HR3 := Lib.hid (HRR.out.below hb3 (Nat.le_refl _))
            have HO3 := Lib.hid (own_below HOE.out hb3)
            have HB3 := Lib.hid (HB.out.trans (hb3.mono HB.out.size))
            clear hb3
            go_wp2_with fail
            refine (HTX.out _ _ HR3.out).mono ?_
            rintro e w4 ⟨rfl, hb4⟩
            have HO4 := Lib.hid (own_below HO3.out hb4)
            have HB4 := Lib.hid (HB3.out.trans (hb4.mono HB3.out.size))
            clear hb4
            go_wp2_with fail
            go_ret2
            exact ⟨⟨_, by rw [HF.out.2]; rfl, by rw [HF.out.1]; exact HO4.out⟩, HB4.out⟩
          · have HF : Hid (qs = [] ∧ t = false) := Lib.hid (by
              rcases HT.out with ⟨_, h0, _⟩ | ⟨_, h1, h2⟩
              · exact absurd (by rw [htt, ← h0]) hts
              · exact ⟨h1, h2⟩)
            have hss := bneS hts
            clear hok htt hts
            go_wp2_with fail
            refine (l4Good_any _ L _ HRR.out true ⟨fun _ => HOK.out, fun _ => rfl⟩).mono ?_
            rintro e w3 ⟨rfl, hb3⟩
            have HR3 := Lib.hid (HRR.out.below hb3 (Nat.le_refl _))
            have HB3 := Lib.hid (HB.out.trans (hb3.mono HB.out.size))
            clear hb3
            go_wp2_with fail
            refine (HTX.out _ _ HR3.out).mono ?_
            rintro e w4 ⟨rfl, hb4⟩
            have HB4 := Lib.hid (HB3.out.trans (hb4.mono HB3.out.size))
            clear hb4
            go_wp2_with fail
            go_ret2
            exact ⟨⟨_, by rw [HF.out.2]; rfl, by rw [HF.out.1]; exact World.ownsRow_made (base := w.heap.size) (e := 40) (size := 3) _ #[] 0 HB4.out.size (Nat.zero_le _) (by simp)⟩, HB4.out.alloc HB4.out.size _⟩
        · have HF : Hid (qs = [] ∧ t = false) := Lib.hid (by
            rcases HT.out with ⟨h0, _⟩ | ⟨_, h1, h2⟩
            · exact absurd h0 hok
            · exact ⟨h1, h2⟩)
          have HOK := Lib.hid hok
          clear hok
          go_wp2_with fail
          refine (l4Good_any _ L _ HRR.out false ⟨fun e => by simp at e, fun e => absurd e HOK.out⟩).mono ?_
          rintro e w3 ⟨rfl, hb3⟩
          have HB3 := Lib.hid (HB.out.trans (hb3.mono HB.out.size))
          clear hb3
          go_wp2_with fail
          go_ret2
          exact ⟨⟨_, by rw [HF.out.2]; rfl, by rw [HF.out.1]; exact World.ownsRow_made (base := w.heap.size) (e := 40) (size := 3) _ #[] 0 HB3.out.size (Nat.zero_le _) (by simp)⟩, HB3.out.alloc HB3.out.size _⟩
theorem specParse_any (s : ByteArray) (w : World) (hs : s.size ≤ 1048576) (qs : List Mv) (t : Bool) (h : PmF s qs t) :
    Calls Try.prog 11 #[.string s] w fun e w' => (∃ sq, e = .returned (.tuple #[sq, .bool t]) ∧ w'.ownsRow w.heap.size 40 3 sq qs.length (flatC mvC qs)) ∧ Below w.heap.size w w' := by
  by_cases h0 : s.data.toList = []
  · have hse : s = ⟨#[]⟩ := by cases s with | mk d => simp at h0; rw [h0]
    subst hse
    rcases h with ⟨h1, h2, rfl⟩ | ⟨h1, h2, h3⟩
    · obtain rfl := msT_nil h2.symm
      exact specParse_empty w
    · exact absurd ⟨[], ⟨fun k hk => by simp at hk, by simp⟩, rfl⟩ h1
  · exact specParse_full s w hs h0 qs t (tst_mdl h h0)
end Go.Proofs.Ytmkocinknhaniaa
