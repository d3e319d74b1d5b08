/- The program's ParseMoves. -/
import Derived.Test.YtmkocinknhaniaaQmovein
import Derived.Test.YtmkocinknhaniaaQtxt
import Derived.Test.YtmkocinknhaniaaKz
namespace Go.Proofs.Ytmkocinknhaniaa
set_option linter.unusedVariables false
open Go.RowKit

theorem ext_at (s : ByteArray) (n i : Nat) (h : n + 4 ≤ s.size) (hi : i < (s.extract n (n + 4)).size) : (s.extract n (n + 4))[i] = bA s (n + i) := by
  have hsz : (s.extract n (n + 4)).size = 4 := by rw [ByteArray.size_extract]; omega
  have hL : s.data.toList.length = s.size := by simp
  rw [ByteArray.getElem_extract]
  unfold bA
  rw [List.getD_eq_getElem?_getD, List.getElem?_eq_getElem (by omega)]
  rfl

set_option maxRecDepth 100000 in
set_option maxHeartbeats 3200000 in
theorem implParse_walk (s : ByteArray) (w : World) (hs : s.size ≤ 1048576) (qs : List Mv) (t : Bool) (ht : TstF s (prgL s (cntP s)) qs t) :
    Calls Try.prog 7 #[.string s] w fun e w' => (∃ sq, e = .returned (.tuple #[sq, .bool t]) ∧ w'.ownsRow w.heap.size 40 3 sq qs.length (flatC mvC qs)) ∧ Below w.heap.size w w' := by
  obtain ⟨i0, hi, hz0, hz1, hz2⟩ := info_parts Try.infoBeadMove
  have HT := Lib.hid ht
  have HSN := Lib.hid (prgL_snoc s)
  have HO0 := Lib.hid (World.ownsRow_made (base := w.heap.size) (e := 40) (size := 3) w #[] 0 (Nat.le_refl _) (Nat.zero_le _) (by simp))
  have HB0 : Hid (Below w.heap.size w (w.alloc (.cells #[] 40))) := Lib.hid ((Below.refl _ _).alloc (Nat.le_refl _) _)
  clear ht
  go_enter Try.func7, Try.ntmps7
  go_wp2_with fail
  go_loopw [4, 5] (fun out i wr => ∃ (k n : Nat) (oa : Option Addr) (oc : Nat), k ≤ 60 ∧ Hid (n = 5 * k) ∧ n ≤ s.size + 1 ∧ n ≤ 300 ∧ i = .int .i64 n ∧ out = .slice oa k oc ∧ wr.ownsRow w.heap.size 40 3 (.slice oa k oc) k (flatC mvC (prgL s k)) ∧ Below w.heap.size w wr) (fun _ i _ => s.size + 2 - (intOf i).toNat)
  case atStart => exact ⟨0, 0, _, _, by omega, Lib.hid rfl, by omega, by omega, rfl, rfl, HO0.out, HB0.out⟩
  case round =>
    obtain ⟨k, n, oa, oc, hk, HN, hn1, hn300, rfl, rfl, hown, hb⟩ := hrel
    have HO := Lib.hid hown
    have HB := Lib.hid hb
    have hszr := hb.size
    by_cases hlt : n + 4 ≤ s.size ∧ k < 60
    · obtain ⟨hl1, hl2⟩ := hlt
      have z0 : (0 : Int) ≤ (n : Int) := by omega
      have z1 : (n : Int) + 4 ≤ (s.size : Int) := by omega
      have z2 : (k : Int) < 60 := by omega
      have hsl : (s.extract n (n + 4)).size = 4 := by rw [ByteArray.size_extract]; omega
      have HMV := Lib.hid (fun w => moveIn_any (s.extract n (n + 4)) w hsl _ _ _ _ (ext_at s n 0 hl1 (by omega)) (ext_at s n 1 hl1 (by omega)) (ext_at s n 2 hl1 (by omega)) (ext_at s n 3 hl1 (by omega)))
      have HPK : Hid (mvI (bA s (n + 0)) (bA s (n + 1)) (bA s (n + 2)) (bA s (n + 3)) = mvP s k) := Lib.hid (by rw [HN.out]; rfl)
      rw [HPK.out] at HMV
      have HSK := Lib.hid (HSN.out k)
      generalize mvP s k = m at HMV HSK
      obtain ⟨rod, part, amt⟩ := m
      change Hid (∀ w : World, Calls Try.prog 26 #[.string (s.extract n (n + 4))] w fun e w' => e = .returned (.agg #[.int .i64 rod, .int .i64 part, .int .i64 amt]) ∧ Below w.heap.size w w') at HMV
      have hslc : ∀ wx, (Instr.slice 9 (.string s) (some (.int .i64 (n : Int))) (some (.int .i64 ((n : Int) + 4))) none).run Try.prog wx = .ok (.string (s.extract n (n + 4))) wx := fun wx => by
        have := run_slice_string (P := Try.prog) wx 9 s .i64 .i64 (n : Int) ((n : Int) + 4) Try.underlying9 (by omega) (by omega) (by omega)
        rwa [show ((n : Int)).toNat = n by omega, show ((n : Int) + 4).toNat = n + 4 by omega] at this
      clear hown hb hsl
      go_wp2_with fail
      refine (HMV.out _).mono ?_
      rintro e w3 ⟨rfl, hb3⟩
      have HO3 := Lib.hid (own_below HO.out hb3)
      have HB3 := Lib.hid (HB.out.trans (hb3.mono HB.out.size))
      have hsz3 := HB3.out.size
      clear hb3
      go_wp2_with (at_builtin; refine wpList_append_own _ rfl _ _ 24 rfl w.heap.size 40 i0 (.agg #[.int .i64 0, .int .i64 0, .int .i64 0]) 3 24 Try.underlying24 hi hz0 hz1 hz2 rfl (by decide) _ _ _ rfl (HO3.out.alloc _) ⟨w3.heap.size, 0, none⟩ 1 1 (mvC ⟨rod, part, amt⟩) rfl rfl ?c1 ?c2 ?c3 ?c4 ?c5 ?_)
      case c1 => exact news_at (vs := mvC ⟨rod, part, amt⟩) (alloc_at (by simp))
      case c2 => exact mvC_one _
      case c3 => unfold maxLen; omega
      case c4 => omega
      case c5 => simp; omega
      intro v' w4 hown4 hgrow4 _
      have HB4 : Hid (Below w.heap.size w w4) := Lib.hid ((HB3.out.alloc HB3.out.size _).grown hgrow4 (by simp; omega) (fun q hq => (HO3.out.lt q hq).1))
      obtain ⟨oa2, oc2, rfl⟩ := own_form hown4
      have HO4 := Lib.hid hown4
      clear hown4 hgrow4
      go_wp2_with fail
      go_roundw
      case rel =>
        refine ⟨k + 1, n + 5, oa2, oc2, by omega, Lib.hid (by rw [HN.out]; omega), by omega, by have := HN.out; omega, by go_num, rfl, ?_, HB4.out⟩
        rw [HSK.out, flatC_app]
        have := HO4.out
        simpa [flatC] using this
      case measure => simp [intOf]; omega
    · have HE : Hid (k = cntP s) := Lib.hid (by have := HN.out; unfold cntP; omega)
      have HKL : Hid ((prgL s k).length = k) := Lib.hid (prgL_len s k)
      rw [← HE.out] at HT
      have HOE : Hid (wr.ownsRow w.heap.size 40 3 (.slice oa k oc) (prgL s k).length (flatC mvC (prgL s k))) := Lib.hid (own_relen' HKL.out hown)
      have HRR : Hid (RowsR 3 mvC wr (.slice oa k oc) (prgL s k)) := Lib.hid (RowsR.of_own mvC_len HOE.out)
      have hnn : ¬ ((n : Int) + 4 ≤ (s.size : Int)) ∨ ((n : Int) + 4 ≤ (s.size : Int) ∧ decide ((k : Int) < 60) = false) := by
        by_cases h1 : n + 4 ≤ s.size
        · exact .inr ⟨by omega, by simp; omega⟩
        · exact .inl (by omega)
      generalize prgL s k = L at HRR HOE HT
      clear hown hb hlt
      rcases hnn with hnn | ⟨hnn, hnn2⟩
      all_goals
        by_cases hok : okMs L
        · have HTX := Lib.hid (fun v w h => implText_yes v L w h hok)
          obtain ⟨tt, htt⟩ : ∃ tt, tt = (⟨(msT L).toArray⟩ : ByteArray) := ⟨_, rfl⟩
          rw [← htt] at HTX
          by_cases hts : tt = s
          · have HF : Hid (qs = L ∧ t = true) := Lib.hid (by
              rcases HT.out with ⟨_, _, h1, h2⟩ | ⟨h0, _⟩
              · exact ⟨h1, h2⟩
              · exact absurd ⟨hok, by rw [← hts, htt]⟩ h0)
            have hss := bneSF hts
            have HTT := Lib.hid hts
            clear hok htt hts
            go_wp2_with fail
            refine (HTX.out _ _ HRR.out).mono ?_
            rintro e w4 ⟨rfl, hb4⟩
            have HO4 := Lib.hid (own_below HOE.out hb4)
            have HB4 := Lib.hid (HB.out.trans (hb4.mono HB.out.size))
            clear hb4
            go_wp2_with fail
            go_ret2
            exact ⟨⟨_, by rw [HF.out.2]; rfl, by rw [HF.out.1]; exact HO4.out⟩, HB4.out⟩
          · have HF : Hid (qs = [] ∧ t = false) := Lib.hid (by
              rcases HT.out with ⟨_, h0, _⟩ | ⟨_, h1, h2⟩
              · exact absurd (by rw [htt, ← h0]) hts
              · exact ⟨h1, h2⟩)
            have hss := bneS hts
            clear hok htt hts
            go_wp2_with fail
            refine (HTX.out _ _ HRR.out).mono ?_
            rintro e w4 ⟨rfl, hb4⟩
            have HB4 := Lib.hid (HB.out.trans (hb4.mono HB.out.size))
            clear hb4
            go_wp2_with fail
            go_ret2
            exact ⟨⟨_, by rw [HF.out.2]; rfl, by rw [HF.out.1]; exact World.ownsRow_made (base := w.heap.size) (e := 40) (size := 3) _ #[] 0 HB4.out.size (Nat.zero_le _) (by simp)⟩, HB4.out.alloc HB4.out.size _⟩
        · have HF : Hid (qs = [] ∧ t = false) := Lib.hid (by
            rcases HT.out with ⟨h0, _⟩ | ⟨_, h1, h2⟩
            · exact absurd h0 hok
            · exact ⟨h1, h2⟩)
          have HTX := Lib.hid (fun v w h => implText_no v L w h hok)
          clear hok
          go_wp2_with fail
          refine (HTX.out _ _ HRR.out).mono ?_
          rintro e w3 ⟨rfl, hb3⟩
          have HB3 := Lib.hid (HB.out.trans (hb3.mono HB.out.size))
          clear hb3
          go_wp2_with fail
          go_ret2
          exact ⟨⟨_, by rw [HF.out.2]; rfl, by rw [HF.out.1]; exact World.ownsRow_made (base := w.heap.size) (e := 40) (size := 3) _ #[] 0 HB3.out.size (Nat.zero_le _) (by simp)⟩, HB3.out.alloc HB3.out.size _⟩
theorem implParse_any (s : ByteArray) (w : World) (hs : s.size ≤ 1048576) (qs : List Mv) (t : Bool) (h : PmF s qs t) :
    Calls Try.prog 7 #[.string s] w fun e w' => (∃ sq, e = .returned (.tuple #[sq, .bool t]) ∧ w'.ownsRow w.heap.size 40 3 sq qs.length (flatC mvC qs)) ∧ Below w.heap.size w w' := implParse_walk s w hs qs t (tst_prg h)
end Go.Proofs.Ytmkocinknhaniaa
