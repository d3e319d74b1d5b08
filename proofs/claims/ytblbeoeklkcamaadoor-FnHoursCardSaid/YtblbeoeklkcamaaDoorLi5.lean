/- The program's lessons of a class on a day. -/
import Derived.Test.YtblbeoeklkcamaaDoorSrt
namespace Go.Proofs.YtblbeoeklkcamaaDoor
set_option linter.unusedVariables false
open Go.RowKit

set_option maxRecDepth 100000 in
set_option maxHeartbeats 3200000 in
theorem lessonsOn_any (v : Value) (ps : List Les) (c d : Int) (w : World) (h : RowsR 7 lesC w v ps) (hl : ps.length ≤ 12) :
    Calls Tryd.prog 38 #[v, .int .i64 c, .int .i64 d] w fun e w' => (∃ sq, e = .returned sq ∧ w'.ownsRow w.heap.size 31 7 sq (dayF ps c d).length (flatC lesC (dayF ps c d))) ∧ Below w.heap.size w w' := by
  obtain ⟨i0, hi, hz0, hz1, hz2⟩ := info_parts Tryd.infoLes
  obtain ⟨a, cp, rfl⟩ := h.form
  have R1 := Lib.hid h.at
  clear h
  go_enter Tryd.func38, Tryd.ntmps38
  go_wp2_with fail
  have HO := Lib.hid (World.ownsRow_made (base := w.heap.size) (e := 31) (size := 7) w #[] 0 (Nat.le_refl _) (Nat.zero_le _) (by simp))
  go_loopw [7, 13] (fun out iv wr => ∃ (k g cap : Nat), k ≤ ps.length ∧ iv = .int .i64 k ∧ out = .slice (some ⟨g, 0, none⟩) (heldL (ps.take k) c d).length cap ∧ wr.ownsRow w.heap.size 31 7 (.slice (some ⟨g, 0, none⟩) (heldL (ps.take k) c d).length cap) (heldL (ps.take k) c d).length (flatC lesC (heldL (ps.take k) c d)) ∧ Below w.heap.size w wr) (fun _ iv _ => ps.length - (intOf iv).toNat)
  case atStart => exact ⟨0, _, _, Nat.zero_le _, rfl, rfl, HO.out, (Below.refl _ _).alloc (Nat.le_refl _) _⟩
  case round =>
    obtain ⟨k, g, cap, hk, rfl, rfl, hown, hb⟩ := hrel
    have HB2 := Lib.hid hb
    have HO2 := Lib.hid hown
    have hidl := heldL_len (ps.take k) c d
    have htl : (ps.take k).length ≤ k := List.length_take_le _ _
    by_cases hlt : k < ps.length
    · have z1 : (0 : Int) ≤ (k : Int) := by omega
      have z2 : (k : Int) < (ps.length : Int) := by omega
      obtain ⟨b1, o1, rfl, l1, k1⟩ := R1.out _ hb k hlt
      have p0 : wr.cell? ⟨b1, o1 + k * 7, none⟩ = some (.int .i64 ps[k].id) := k1 0 (by omega)
      have p1 : wr.cell? ⟨b1, o1 + k * 7 + 1, none⟩ = some (.int .i64 ps[k].cls) := k1 1 (by omega)
      have p2 : wr.cell? ⟨b1, o1 + k * 7 + 2, none⟩ = some (.int .i64 ps[k].tch) := k1 2 (by omega)
      have p3 : wr.cell? ⟨b1, o1 + k * 7 + 3, none⟩ = some (.int .i64 ps[k].room) := k1 3 (by omega)
      have p4 : wr.cell? ⟨b1, o1 + k * 7 + 4, none⟩ = some (.int .i64 ps[k].day) := k1 4 (by omega)
      have p5 : wr.cell? ⟨b1, o1 + k * 7 + 5, none⟩ = some (.int .i64 ps[k].bgn) := k1 5 (by omega)
      have p6 : wr.cell? ⟨b1, o1 + k * 7 + 6, none⟩ = some (.int .i64 ps[k].mins) := k1 6 (by omega)
      have HBX : Hid (Below w.heap.size w (wr.alloc (.cells #[.int .i64 ps[k].id, .int .i64 ps[k].cls, .int .i64 ps[k].tch, .int .i64 ps[k].room, .int .i64 ps[k].day, .int .i64 ps[k].bgn, .int .i64 ps[k].mins] 31))) := Lib.hid (HB2.out.alloc HB2.out.size _)
      have HSZ := Lib.hid HB2.out.size
      clear hb hown k1
      by_cases hc : ps[k].cls = c
      · have hc' : (ps[k].cls == c) = true := by simpa using hc
        by_cases hd : ps[k].day = d
        · have hd' : (ps[k].day == d) = true := by simpa using hd
          have HE := Lib.hid (heldL_yes ps c d k hlt ⟨hc, hd⟩)
          clear hc hd
          go_wp2_with (at_builtin; refine wpList_append_own _ rfl _ _ 24 rfl w.heap.size 31 i0 (.agg #[.int .i64 0, .int .i64 0, .int .i64 0, .int .i64 0, .int .i64 0, .int .i64 0, .int .i64 0]) 7 56 Tryd.underlying24 hi hz0 hz1 hz2 rfl (by decide) _ _ _ rfl ((HO2.out.alloc _).alloc _) ⟨wr.heap.size + 1, 0, none⟩ 1 1 (lesC ps[k]) rfl rfl ?c1 ?c2 ?c3 ?c4 ?c5 ?_)
          case c1 => exact news_at (vs := lesC ps[k]) (alloc_at (by simp))
          case c2 => exact lesC_one _
          case c3 => unfold maxLen; omega
          case c4 => omega
          case c5 => have := HSZ.out; simp; omega
          intro v' w3 hown3 hgrow3 _
          obtain ⟨g3, c3, rfl⟩ := own_some hown3 (by omega)
          have HO3 := Lib.hid hown3
          have HB3 : Hid (Below w.heap.size w w3) := Lib.hid ((HBX.out.alloc HBX.out.size _).grown hgrow3 (by have := HSZ.out; simp; omega) (fun q hq => (HO2.out.lt q hq).1))
          have HLN : Hid ((heldL (ps.take (k + 1)) c d).length = (heldL (ps.take k) c d).length + 1) := Lib.hid (by rw [HE.out]; simp)
          clear hown3 hgrow3
          go_wp2_with fail
          go_roundw
          case rel =>
            refine ⟨k + 1, g3, c3, by omega, by go_num, by rw [HLN.out], ?_, HB3.out⟩
            rw [HLN.out, HE.out, flatC_app]
            have := HO3.out
            simpa [flatC] using this
          case measure => simp [intOf]; omega
        · have hd' : (ps[k].day == d) = false := by simpa using hd
          have HE := Lib.hid (heldL_no ps c d k hlt (fun e => hd e.2))
          clear hc hd
          go_wp2_with fail
          go_roundw
          case rel => exact ⟨k + 1, g, cap, by omega, by go_num, by rw [HE.out], by rw [HE.out]; exact HO2.out.alloc _, HBX.out⟩
          case measure => simp [intOf]; omega
      · have hc' : (ps[k].cls == c) = false := by simpa using hc
        have HE := Lib.hid (heldL_no ps c d k hlt (fun e => hc e.1))
        clear hc
        go_wp2_with fail
        go_roundw
        case rel => exact ⟨k + 1, g, cap, by omega, by go_num, by rw [HE.out], by rw [HE.out]; exact HO2.out.alloc _, HBX.out⟩
        case measure => simp [intOf]; omega
    · have hE : ps.take k = ps := List.take_of_length_le (by omega)
      rw [hE] at HO2 ⊢
      clear hb hown hE hidl htl
      have HHL : Hid ((heldL ps c d).length ≤ 12) := Lib.hid (by have := heldL_len ps c d; omega)
      obtain ⟨n, hn⟩ : ∃ n, (heldL ps c d).length = n := ⟨_, rfl⟩
      have HN := Lib.hid hn
      rw [hn] at HO2 ⊢
      have HC := Lib.hid (sortStable_any g n cap w.heap.size (heldL ps c d) wr hn (by have := HHL.out; omega) HB2.out.size HO2.out)
      clear hn
      go_wp2_with fail
      refine HC.out.mono ?_
      rintro e w4 ⟨rfl, ho4, hb4⟩
      have HO4 := Lib.hid ho4
      have HB4 := Lib.hid (HB2.out.trans hb4)
      clear ho4 hb4
      go_wp2_with fail
      go_ret
      refine ⟨⟨_, rfl, ?_⟩, HB4.out⟩
      have e : (dayF ps c d).length = n := by unfold dayF; rw [srtL_len, HN.out]
      rw [e]
      exact HO4.out
end Go.Proofs.YtblbeoeklkcamaaDoor
