/- The program's addition: a rod is set. -/
import Derived.Test.YtpmccebifncpeaaAdb
import Derived.Test.YtpmccebifncpeaaMundo
namespace Go.Proofs.Ytpmccebifncpeaa
set_option linter.unusedVariables false
open Go.RowKit

set_option maxRecDepth 100000 in
set_option maxHeartbeats 600000 in
theorem adSet_any (B A mg mc : Nat) (up lo : Int) (sv : Value) (rs : List (Int × Int)) (ms : List Mv) (c k0 k1 k2 k3 : Int) (q : Nat) (d : Int) (w : World) (h : AdAt B w A up lo sv mg mc rs ms c k0 k1 k2 k3) (hg : goodF up lo rs) (hs : stdF rs) (hq : q < rs.length) (hd0 : 0 ≤ d) (hd1 : d ≤ 9) (hn : ms.length ≤ 200) :
    Calls Try.prog 94 #[.pointer (some ⟨A, 0, none⟩), .int .i64 q, .int .i64 d] w fun e w' => e = .returned (.tuple #[]) ∧ (∃ sv' mg' mc', AdAt B w' A up lo sv' mg' mc' (rs.set q (digR d)) (ms ++ turnM q (vAt rs q) d) c k0 k1 k2 k3) ∧ Below B w w' := by
  obtain ⟨i0, hi, hz0, hz1, hz2⟩ := info_parts Try.infoBeadMove
  obtain ⟨sa, sc, rfl⟩ := own_form h.rods
  have HA := Lib.hid h
  have HBB : Hid (B ≤ w.heap.size) := Lib.hid (by have := h.ord; have := h.lt; omega)
  have HG := Lib.hid hg
  have HG2 : Hid (goodF up lo (rs.set q (digR d))) := Lib.hid (stdF_good (stdF_set hs q d hd0 hd1) hg.2.1 hg.2.2.1 (by rw [List.length_set]; exact hg.2.2.2))
  have HE := Lib.hid (btwL_set rs hs q hq d)
  have hl8 : rs.length ≤ 8 := hg.2.2.2.2
  obtain ⟨c0, c1, c2, c3, c4, c5, c6, c7, c8, f0, f1, f2, f3, f4, f5, f6, f7, f8⟩ := cell9 h.box
  clear h hg hs
  go_enter Try.func94, Try.ntmps94
  go_wp2_with fail
  refine (implSetRod_ok up lo _ rs _ (RodsR.of_own HA.out.rods) q d HG.out hq hd0 hd1).mono ?_
  rintro e w1 ⟨⟨sq, rfl, ho⟩, hb⟩
  obtain ⟨pq, kq, rfl⟩ := own_form ho
  rw [show Value.slice pq (rs.set q (digR d)).length kq = .slice pq rs.length kq by rw [List.length_set]] at ho
  have HA1 := Lib.hid (HA.out.next hb)
  have HO1 := Lib.hid (own_mono ho HBB.out)
  have HB1 : Hid (Below B w w1) := Lib.hid (hb.mono HBB.out)
  have HS1 : Hid (w.heap.size ≤ w1.heap.size) := Lib.hid hb.size
  clear c0 c1 c2 c3 c4 c5 c6 c7 c8 f0 f1 f2 f3 f4 f5 f6 f7 f8 hb ho
  obtain ⟨c0, c1, c2, c3, c4, c5, c6, c7, c8, f0, f1, f2, f3, f4, f5, f6, f7, f8⟩ := cell9 HA1.out.box
  go_wp2_with fail
  have hb : Below w1.heap.size w1 (w1.alloc (.cells #[.int .i64 up, .int .i64 lo, .slice pq rs.length kq] 26)) := (Below.refl _ _).alloc (Nat.le_refl _) _
  have hk : (w1.alloc (.cells #[.int .i64 up, .int .i64 lo, .slice pq rs.length kq] 26)).heap[w1.heap.size]? = some (.cells #[.int .i64 up, .int .i64 lo, .slice pq rs.length kq] 26 (0, 0)) := alloc_at rfl
  have hl9 : (rs.set q (digR d)).length = rs.length := List.length_set
  generalize (w1.alloc (.cells #[.int .i64 up, .int .i64 lo, .slice pq rs.length kq] 26)) = w2 at hb hk ⊢
  have HA2 := Lib.hid (HA1.out.next hb)
  have HO2 := Lib.hid (own_below HO1.out hb)
  have HB2 : Hid (Below B w w2) := Lib.hid (HB1.out.trans (hb.mono (by have := HBB.out; have := HS1.out; omega)))
  have HT2 := Lib.hid hk
  have HS2 : Hid (B ≤ w2.heap.size) := Lib.hid (by have := hb.size; have := HBB.out; have := HS1.out; omega)
  have HL9 := Lib.hid hl9
  clear c0 c1 c2 c3 c4 c5 c6 c7 c8 f0 f1 f2 f3 f4 f5 f6 f7 f8 hb hk hl9
  obtain ⟨c0, c1, c2, c3, c4, c5, c6, c7, c8, f0, f1, f2, f3, f4, f5, f6, f7, f8⟩ := cell9 HA2.out.box
  obtain ⟨d0, d1, d2, g0, g1, g2⟩ := cell3 HT2.out
  refine wp_region_held_drew (S := (fun u => u.cell? ⟨A, 0, none⟩ = some (.int .i64 up) ∧ u.cell? ⟨A, 1, none⟩ = some (.int .i64 lo) ∧ u.cell? ⟨A, 2, none⟩ = some (.slice sa rs.length sc) ∧ u.cell? ⟨w1.heap.size, 0, none⟩ = some (.int .i64 up) ∧ u.cell? ⟨w1.heap.size, 1, none⟩ = some (.int .i64 lo) ∧ u.cell? ⟨w1.heap.size, 2, none⟩ = some (.slice pq rs.length kq))) (by kernel_rfl) (⟨c0, c1, c2, d0, d1, d2⟩) (fun hHeld => ?_)
  have hb : Below w2.heap.size w2 w2.drew := (Below.refl _ _).drew
  generalize w2.drew = w3 at hb hHeld ⊢
  have HA3 := Lib.hid (HA2.out.next hb)
  have HO3 := Lib.hid (own_below HO2.out hb)
  have HB3 : Hid (Below B w w3) := Lib.hid (HB2.out.trans (hb.mono HS2.out))
  have HT3 := Lib.hid ((hb.block _ (Array.getElem?_eq_some_iff.1 HT2.out).1).trans HT2.out)
  have HS3 : Hid (B ≤ w3.heap.size) := Lib.hid (by have := hb.size; have := HS2.out; omega)
  clear c0 c1 c2 c3 c4 c5 c6 c7 c8 f0 f1 f2 f3 f4 f5 f6 f7 f8 d0 d1 d2 g0 g1 g2 hb
  refine take1 (i := 0) (v := ?v1) (some 21) rfl rfl (by kernel_rfl) (by kernel_rfl) (by kernel_rfl) (fun _ _ _ h => h) (Or.inl ⟨by rfl, ?y1⟩) (by assumption) ?r1
  case y1 => (intro w hSw; (try dsimp only at hSw); go_simp; (first | done | with_reducible rfl))
  try simp only [Act.put, List.setIfInBounds_toArray, List.set_cons_zero, List.set_cons_succ]
  refine take1 (i := 1) (v := ?v2) (some 22) rfl rfl (by kernel_rfl) (by kernel_rfl) (by kernel_rfl) (fun _ _ _ h => h) (Or.inl ⟨by rfl, ?y2⟩) (by assumption) ?r2
  case y2 => (intro w hSw; (try dsimp only at hSw); go_simp; (first | done | with_reducible rfl))
  try simp only [Act.put, List.setIfInBounds_toArray, List.set_cons_zero, List.set_cons_succ]
  refine take1 (i := 2) (v := ?v3) (some 23) rfl rfl (by kernel_rfl) (by kernel_rfl) (by kernel_rfl) (fun _ _ _ h => h) (Or.inl ⟨by rfl, ?y3⟩) (by assumption) ?r3
  case y3 => (intro w hSw; (try dsimp only at hSw); go_simp; (first | done | with_reducible rfl))
  try simp only [Act.put, List.setIfInBounds_toArray, List.set_cons_zero, List.set_cons_succ]
  refine take1 (i := 3) (v := ?v4) (some 24) rfl rfl (by kernel_rfl) (by kernel_rfl) (by kernel_rfl) (fun _ _ _ h => h) (Or.inl ⟨by rfl, ?y4⟩) (by assumption) ?r4
  case y4 => (intro w hSw; (try dsimp only at hSw); go_simp; (first | done | with_reducible rfl))
  try simp only [Act.put, List.setIfInBounds_toArray, List.set_cons_zero, List.set_cons_succ]
  refine take1 (i := 4) (v := ?v5) (some 25) rfl rfl (by kernel_rfl) (by kernel_rfl) (by kernel_rfl) (fun _ _ _ h => h) (Or.inl ⟨by rfl, ?y5⟩) (by assumption) ?r5
  case y5 => (intro w hSw; (try dsimp only at hSw); go_simp; (first | done | with_reducible rfl))
  try simp only [Act.put, List.setIfInBounds_toArray, List.set_cons_zero, List.set_cons_succ]
  refine wpAnyH_ready (rs := [5]) (by kernel_rfl) (by simp) ?_
  refine AllReadyH.cons rfl (fun K hK => ?_) AllReadyH.nil
  go_simp
  go_at_call 96
  refine (implBetween_in up lo _ rs _ (rs.set q (digR d)) _ (RodsR.of_own HA3.out.rods) (RodsR.of_own HO3.out) HG.out HG2.out HL9.out.symm).mono ?_
  rintro e w4 ⟨⟨sm, rfl, ho⟩, hb⟩
  rw [HE.out] at ho
  obtain ⟨pm, km, rfl⟩ := own_form ho
  have HA4 := Lib.hid (HA3.out.next hb)
  have HO4 := Lib.hid (own_below HO3.out hb)
  have HM4 := Lib.hid (own_mono ho HS3.out)
  have HB4 : Hid (Below B w w4) := Lib.hid (HB3.out.trans (hb.mono HS3.out))
  have HT4 := Lib.hid ((hb.block _ (Array.getElem?_eq_some_iff.1 HT3.out).1).trans HT3.out)
  have HS4 : Hid (B ≤ w4.heap.size) := Lib.hid (by have := hb.size; have := HS3.out; omega)
  clear hb ho
  obtain ⟨c0, c1, c2, c3, c4, c5, c6, c7, c8, f0, f1, f2, f3, f4, f5, f6, f7, f8⟩ := cell9 HA4.out.box
  obtain ⟨d0, d1, d2, g0, g1, g2⟩ := cell3 HT4.out
  try go_simp
  refine hK.out _ _ (⟨c0, c1, c2, d0, d1, d2⟩) (fun hHeld => ?_)
  clear hK K
  try simp only [Act.put, List.setIfInBounds_toArray, List.set_cons_zero, List.set_cons_succ]
  refine take1 (i := 6) (v := ?v6) (some 20) rfl rfl (by kernel_rfl) (by kernel_rfl) (by kernel_rfl) (fun _ _ _ h => h) (Or.inl ⟨by rfl, ?y6⟩) (by assumption) ?r6
  case y6 => (intro w hSw; (try dsimp only at hSw); go_simp; (first | done | with_reducible rfl))
  try simp only [Act.put, List.setIfInBounds_toArray, List.set_cons_zero, List.set_cons_succ]
  refine take1 (i := 7) (v := ?v7) (some 27) rfl rfl (by kernel_rfl) (by kernel_rfl) (by kernel_rfl) (fun _ _ _ h => h) (Or.inl ⟨by rfl, ?y7⟩) (by assumption) ?r7
  case y7 => (intro w hSw; (try dsimp only at hSw); go_simp; (first | done | with_reducible rfl))
  try simp only [Act.put, List.setIfInBounds_toArray, List.set_cons_zero, List.set_cons_succ]
  refine take1 (i := 8) (v := ?v8) (some 28) rfl rfl (by kernel_rfl) (by kernel_rfl) (by kernel_rfl) (fun _ _ _ h => h) (Or.inl ⟨by rfl, ?y8⟩) (by assumption) ?r8
  case y8 => (intro w hSw; (try dsimp only at hSw); go_simp; (first | done | with_reducible rfl))
  try simp only [Act.put, List.setIfInBounds_toArray, List.set_cons_zero, List.set_cons_succ]
  refine take1 (i := 9) (v := ?v9) (some 8) rfl rfl (by kernel_rfl) (by kernel_rfl) (by kernel_rfl) (fun _ _ _ h => h) (Or.inl ⟨by rfl, ?y9⟩) (by assumption) ?r9
  case y9 => (intro w hSw; (try dsimp only at hSw); go_simp; (first | done | with_reducible rfl))
  try simp only [Act.put, List.setIfInBounds_toArray, List.set_cons_zero, List.set_cons_succ]
  refine take1 (i := 10) (v := ?v10) (some 9) rfl rfl (by kernel_rfl) (by kernel_rfl) (by kernel_rfl) (fun _ _ _ h => h) (Or.inl ⟨by rfl, ?y10⟩) (by assumption) ?r10
  case y10 => (intro w hSw; (try dsimp only at hSw); go_simp; (first | done | with_reducible rfl))
  try simp only [Act.put, List.setIfInBounds_toArray, List.set_cons_zero, List.set_cons_succ]
  refine wpAnyH_done (by kernel_rfl) ?_ _
  -- the frame is stored: the world behind it
  obtain ⟨W, hW⟩ : ∃ W, (((w4.setCell ⟨A, 0, none⟩ (.int .i64 up)).setCell ⟨A, 1, none⟩ (.int .i64 lo)).setCell ⟨A, 2, none⟩ (.slice pq rs.length kq)) = W := ⟨_, rfl⟩
  have h5 := HA4.out.setF (rs' := rs.set q (digR d)) (sv' := .slice pq rs.length kq) HO4.out
  have b5 : Below B w4 (((w4.setCell ⟨A, 0, none⟩ (.int .i64 up)).setCell ⟨A, 1, none⟩ (.int .i64 lo)).setCell ⟨A, 2, none⟩ (.slice pq rs.length kq)) := bl_set3 (Below.refl _ _) HA4.out.ord _ _ _
  rw [hW] at h5 b5
  obtain ⟨e0, e1, e2, e3, e4, e5, e6, e7, e8, m0, m1, m2, m3, m4, m5, m6, m7, m8⟩ := cell9 h5.box
  have H5 := Lib.hid h5
  have B5 := Lib.hid b5
  clear h5 b5
  have HM5 : Hid (W.ownsRow B 80 3 (.slice pm (turnM q (vAt rs q) d).length km) (turnM q (vAt rs q) d).length (flatC mvC (turnM q (vAt rs q) d))) := Lib.hid (by
    rw [← hW]
    have hne := own_box HM4.out HA4.out.box (by decide)
    exact own_set_box (own_set_box (own_set_box HM4.out hne _ _) hne _ _) hne _ _)
  have HS5 : Hid (B ≤ W.heap.size) := Lib.hid (by have := H5.out.lt; have := H5.out.ord; omega)
  have htl := turnM_len q (vAt rs q) d
  go_wp2_with (at_builtin; refine wpList_append_rows (w := W) rfl _ _ 32 rfl B 80 i0 (.agg #[.int .i64 0, .int .i64 0, .int .i64 0]) 3 24 Try.underlying32 hi hz0 hz1 hz2 rfl (by decide) mvC_len mvC_one mg ms.length mc (flatC mvC ms) rfl H5.out.moves pm km (turnM q (vAt rs q) d) rfl ?c2 ?c3 ?c4 ?c5 ?_)
  case c2 =>
    rcases (RowsR.of_own mvC_len HM5.out).src mvC_len (by decide) with h | ⟨ad, e1, h⟩
    · exact Or.inl h
    · exact Or.inr ⟨ad, e1, fun j u hj => h W (Below.refl _ _) j u hj⟩
  case c3 => unfold maxLen; omega
  case c4 => omega
  case c5 => exact HS5.out
  intro g c' w6 ho6 hg6 _
  have hA6 := H5.out.setM ho6 hg6
  have hb6 : Below B w w6 := (HB4.out.trans B5.out).grown hg6 (by have := HS5.out; omega) (fun q hq => by cases hq; exact (H5.out.moves.lt mg rfl).1)
  have hbx : w6.heap[A]? = _ := (hg6.block A H5.out.lt (by intro e; injection e with e; exact H5.out.mne mg rfl e.symm)).trans H5.out.box
  clear e0 e1 e2 e3 e4 e5 e6 e7 e8 m0 m1 m2 m3 m4 m5 m6 m7 m8
  obtain ⟨e0, e1, e2, e3, e4, e5, e6, e7, e8, m0, m1, m2, m3, m4, m5, m6, m7, m8⟩ := cell9 hbx
  have HA6 := Lib.hid hA6
  have HB6 := Lib.hid hb6
  have hord := HA6.out.ord
  clear hA6 hb6 hbx ho6 hg6
  go_wp2_with fail
  go_end0
  exact ⟨rfl, ⟨_, _, _, HA6.out⟩, HB6.out.setCell (p := ⟨A, 3, none⟩) hord _⟩
end Go.Proofs.Ytpmccebifncpeaa
