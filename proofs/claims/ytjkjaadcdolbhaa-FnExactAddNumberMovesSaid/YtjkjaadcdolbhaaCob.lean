/- The box that begins with a course: its frame, its moves; a rod of it is set. -/
import Derived.Test.YtjkjaadcdolbhaaAdb
import Derived.Test.YtjkjaadcdolbhaaMundo
namespace Go.Proofs.Ytjkjaadcdolbhaa
set_option linter.unusedVariables false
open Go.RowKit

theorem cell4r {w : World} {b : Nat} {x0 x1 x2 x3 : Value} {R : List Value} {T : TypeId} (h : w.heap[b]? = some (.cells (x0 :: x1 :: x2 :: x3 :: R).toArray T (0, 0))) :
    w.cell? ⟨b, 0, none⟩ = some x0 ∧ w.cell? ⟨b, 1, none⟩ = some x1 ∧ w.cell? ⟨b, 2, none⟩ = some x2 ∧ w.cell? ⟨b, 3, none⟩ = some x3 ∧ w.frozen? ⟨b, 0, none⟩ = false ∧ w.frozen? ⟨b, 1, none⟩ = false ∧ w.frozen? ⟨b, 2, none⟩ = false ∧ w.frozen? ⟨b, 3, none⟩ = false := by
  simp [World.cell?, World.frozen?, h]
/-- In a world: the box A that begins with a course, its rods and its moves, all in blocks from B on; R lies behind the course. -/
structure CoAt (B : Nat) (w : World) (A : Nat) (T : TypeId) (R : List Value) (up lo : Int) (sv : Value) (mg mc : Nat) (rs : List (Int × Int)) (ms : List Mv) : Prop where
  ord : B ≤ A
  tne : T ≠ 83 ∧ T ≠ 75
  box : w.heap[A]? = some (.cells (.int .i64 up :: .int .i64 lo :: sv :: .slice (some ⟨mg, 0, none⟩) ms.length mc :: R).toArray T (0, 0))
  rods : w.ownsRow B 83 2 sv rs.length (flat rs)
  moves : w.ownsRow B 75 3 (.slice (some ⟨mg, 0, none⟩) ms.length mc) ms.length (flatC mvC ms)
section
variable {B : Nat} {w : World} {A : Nat} {T : TypeId} {R : List Value} {up lo : Int} {sv : Value} {mg mc : Nat} {rs : List (Int × Int)} {ms : List Mv}
theorem CoAt.lt (h : CoAt B w A T R up lo sv mg mc rs ms) : A < w.heap.size := (Array.getElem?_eq_some_iff.1 h.box).1
theorem CoAt.sne (h : CoAt B w A T R up lo sv mg mc rs ms) : ∀ g, sv.ownBlock = some g → g ≠ A := own_box h.rods h.box h.tne.1
theorem CoAt.mne (h : CoAt B w A T R up lo sv mg mc rs ms) : ∀ g, (Value.slice (some ⟨mg, 0, none⟩) ms.length mc).ownBlock = some g → g ≠ A := own_box h.moves h.box h.tne.2
theorem CoAt.next {w' : World} (h : CoAt B w A T R up lo sv mg mc rs ms) (hb : Below w.heap.size w w') : CoAt B w' A T R up lo sv mg mc rs ms :=
  ⟨h.ord, h.tne, (hb.block _ h.lt).trans h.box, own_below h.rods hb, own_below h.moves hb⟩
/-- The frame is set anew. -/
theorem CoAt.setF {rs' : List (Int × Int)} {sv' : Value} (h : CoAt B w A T R up lo sv mg mc rs ms) (ho : w.ownsRow B 83 2 sv' rs'.length (flat rs')) :
    CoAt B (((w.setCell ⟨A, 0, none⟩ (.int .i64 up)).setCell ⟨A, 1, none⟩ (.int .i64 lo)).setCell ⟨A, 2, none⟩ sv') A T R up lo sv' mg mc rs' ms := by
  have hs := own_box ho h.box h.tne.1
  have hm := h.mne
  refine ⟨h.ord, h.tne, ?_, own_set_box (own_set_box (own_set_box ho hs _ _) hs _ _) hs _ _, own_set_box (own_set_box (own_set_box h.moves hm _ _) hm _ _) hm _ _⟩
  have h1 := heap_setCell_same w A 0 _ _ (.int .i64 up) h.box
  have h2 := heap_setCell_same _ A 1 _ _ (.int .i64 lo) h1
  have h3 := heap_setCell_same _ A 2 _ _ sv' h2
  simpa using h3
/-- The moves are longer now. -/
theorem CoAt.setM {w' : World} {g c' : Nat} {ns : List Mv} (h : CoAt B w A T R up lo sv mg mc rs ms) (ho : w'.ownsRow B 75 3 (.slice (some ⟨g, 0, none⟩) (ms.length + ns.length) c') (ms.length + ns.length) (flatC mvC ms ++ flatC mvC ns)) (hg : w.grownBy w' (some mg)) :
    CoAt B (w'.setCell ⟨A, 3, none⟩ (.slice (some ⟨g, 0, none⟩) (ms.length + ns.length) c')) A T R up lo sv g c' rs (ms ++ ns) := by
  have hb : w'.heap[A]? = _ := (hg.block A h.lt (by intro e; injection e with e; exact h.mne mg rfl e.symm)).trans h.box
  have hr : w'.ownsRow B 83 2 sv rs.length (flat rs) := own_kept2 h.rods h.moves (by decide) hg
  have hs := own_box hr hb h.tne.1
  have hm := own_box ho hb h.tne.2
  rw [← flatC_app] at ho
  have hl : (ms ++ ns).length = ms.length + ns.length := List.length_append
  refine ⟨h.ord, h.tne, ?_, own_set_box hr hs _ _, ?_⟩
  · have h3 := heap_setCell_same w' A 3 _ _ (.slice (some ⟨g, 0, none⟩) (ms.length + ns.length) c') hb
    rw [hl]
    simpa using h3
  · rw [hl]; exact own_set_box ho hm _ _
/-- The cell behind the course is set. -/
theorem CoAt.setC {x : Value} (h : CoAt B w A T [x] up lo sv mg mc rs ms) (y : Value) : CoAt B (w.setCell ⟨A, 4, none⟩ y) A T [y] up lo sv mg mc rs ms := by
  refine ⟨h.ord, h.tne, ?_, own_set_box h.rods h.sne _ _, own_set_box h.moves h.mne _ _⟩
  simpa using heap_setCell_same w A 4 _ _ y h.box
end

set_option maxRecDepth 100000 in
set_option maxHeartbeats 600000 in
theorem coSet_any (B A mg mc : Nat) (up lo : Int) (sv : Value) (rs : List (Int × Int)) (ms : List Mv) (T : TypeId) (R : List Value) (q : Nat) (d : Int) (w : World) (h : CoAt B w A T R up lo sv mg mc rs ms) (hg : goodF up lo rs) (hs : stdF rs) (hq : q < rs.length) (hd0 : 0 ≤ d) (hd1 : d ≤ 9) (hn : ms.length ≤ 200) :
    Calls Try.prog 120 #[.pointer (some ⟨A, 0, none⟩), .int .i64 q, .int .i64 d] w fun e w' => e = .returned (.tuple #[]) ∧ (∃ sv' mg' mc', CoAt B w' A T R up lo sv' mg' mc' (rs.set q (digR d)) (ms ++ turnM q (vAt rs q) d)) ∧ Below B w w' ∧ (∀ b, b < w.heap.size → b ≠ A → b ≠ mg → w'.heap[b]? = w.heap[b]?) := by
  obtain ⟨i0, hi, hz0, hz1, hz2⟩ := info_parts Try.infoBeadMove
  obtain ⟨sa, sc, rfl⟩ := own_form h.rods
  have HA := Lib.hid h
  have HBB : Hid (B ≤ w.heap.size) := Lib.hid (by have := h.ord; have := h.lt; omega)
  have HG := Lib.hid hg
  have HG2 : Hid (goodF up lo (rs.set q (digR d))) := Lib.hid (stdF_good (stdF_set hs q d hd0 hd1) hg.2.1 hg.2.2.1 (by rw [List.length_set]; exact hg.2.2.2))
  have HE := Lib.hid (btwL_set rs hs q hq d)
  have hl8 : rs.length ≤ 8 := hg.2.2.2.2
  obtain ⟨c0, c1, c2, c3, f0, f1, f2, f3⟩ := cell4r h.box
  clear h hg hs
  go_enter Try.func120, Try.ntmps120
  go_wp2_with fail
  refine (implSetRod_ok up lo _ rs _ (RodsR.of_own HA.out.rods) q d HG.out hq hd0 hd1).mono ?_
  rintro e w1 ⟨⟨sq, rfl, ho⟩, hb⟩
  obtain ⟨pq, kq, rfl⟩ := own_form ho
  rw [show Value.slice pq (rs.set q (digR d)).length kq = .slice pq rs.length kq by rw [List.length_set]] at ho
  have HA1 := Lib.hid (HA.out.next hb)
  have HO1 := Lib.hid (own_mono ho HBB.out)
  have HB1 : Hid (Below B w w1) := Lib.hid (hb.mono HBB.out)
  have HW1 : Hid (Below w.heap.size w w1) := Lib.hid hb
  have HS1 : Hid (w.heap.size ≤ w1.heap.size) := Lib.hid hb.size
  clear c0 c1 c2 c3 f0 f1 f2 f3 hb ho
  obtain ⟨c0, c1, c2, c3, f0, f1, f2, f3⟩ := cell4r HA1.out.box
  go_wp2_with fail
  have hb : Below w1.heap.size w1 (w1.alloc (.cells #[.int .i64 up, .int .i64 lo, .slice pq rs.length kq] 26)) := (Below.refl _ _).alloc (Nat.le_refl _) _
  have hk : (w1.alloc (.cells #[.int .i64 up, .int .i64 lo, .slice pq rs.length kq] 26)).heap[w1.heap.size]? = some (.cells #[.int .i64 up, .int .i64 lo, .slice pq rs.length kq] 26 (0, 0)) := alloc_at rfl
  have hl9 : (rs.set q (digR d)).length = rs.length := List.length_set
  generalize (w1.alloc (.cells #[.int .i64 up, .int .i64 lo, .slice pq rs.length kq] 26)) = w2 at hb hk ⊢
  have HA2 := Lib.hid (HA1.out.next hb)
  have HO2 := Lib.hid (own_below HO1.out hb)
  have HB2 : Hid (Below B w w2) := Lib.hid (HB1.out.trans (hb.mono (by have := HBB.out; have := HS1.out; omega)))
  have HW2 : Hid (Below w.heap.size w w2) := Lib.hid (HW1.out.trans (hb.mono HW1.out.size))
  have HT2 := Lib.hid hk
  have HS2 : Hid (B ≤ w2.heap.size) := Lib.hid (by have := hb.size; have := HBB.out; have := HS1.out; omega)
  have HL9 := Lib.hid hl9
  clear c0 c1 c2 c3 f0 f1 f2 f3 hb hk hl9
  obtain ⟨c0, c1, c2, c3, f0, f1, f2, f3⟩ := cell4r HA2.out.box
  obtain ⟨d0, d1, d2, g0, g1, g2⟩ := cell3 HT2.out
  refine wp_region_held_drew (S := (fun u => u.cell? ⟨A, 0, none⟩ = some (.int .i64 up) ∧ u.cell? ⟨A, 1, none⟩ = some (.int .i64 lo) ∧ u.cell? ⟨A, 2, none⟩ = some (.slice sa rs.length sc) ∧ u.cell? ⟨w1.heap.size, 0, none⟩ = some (.int .i64 up) ∧ u.cell? ⟨w1.heap.size, 1, none⟩ = some (.int .i64 lo) ∧ u.cell? ⟨w1.heap.size, 2, none⟩ = some (.slice pq rs.length kq))) (by kernel_rfl) (⟨c0, c1, c2, d0, d1, d2⟩) (fun hHeld => ?_)
  have hb : Below w2.heap.size w2 w2.drew := (Below.refl _ _).drew
  generalize w2.drew = w3 at hb hHeld ⊢
  have HA3 := Lib.hid (HA2.out.next hb)
  have HO3 := Lib.hid (own_below HO2.out hb)
  have HB3 : Hid (Below B w w3) := Lib.hid (HB2.out.trans (hb.mono HS2.out))
  have HW3 : Hid (Below w.heap.size w w3) := Lib.hid (HW2.out.trans (hb.mono HW2.out.size))
  have HT3 := Lib.hid ((hb.block _ (Array.getElem?_eq_some_iff.1 HT2.out).1).trans HT2.out)
  have HS3 : Hid (B ≤ w3.heap.size) := Lib.hid (by have := hb.size; have := HS2.out; omega)
  clear c0 c1 c2 c3 f0 f1 f2 f3 d0 d1 d2 g0 g1 g2 hb
  refine take1 (i := 0) (v := ?v1) (some 21) rfl rfl (by kernel_rfl) (by kernel_rfl) (by kernel_rfl) (fun _ _ _ h => h) (Or.inl ⟨by rfl, ?y1⟩) (by assumption) ?r1
  case y1 => (intro w hSw; (try dsimp only at hSw); go_simp; (first | done | with_reducible rfl))
  try simp only [Act.put, List.setIfInBounds_toArray, List.set_cons_zero, List.set_cons_succ]
  refine take1 (i := 1) (v := ?v2) (some 22) rfl rfl (by kernel_rfl) (by kernel_rfl) (by kernel_rfl) (fun _ _ _ h => h) (Or.inl ⟨by rfl, ?y2⟩) (by assumption) ?r2
  case y2 => (intro w hSw; (try dsimp only at hSw); go_simp; (first | done | with_reducible rfl))
  try simp only [Act.put, List.setIfInBounds_toArray, List.set_cons_zero, List.set_cons_succ]
  refine take1 (i := 2) (v := ?v3) (some 23) rfl rfl (by kernel_rfl) (by kernel_rfl) (by kernel_rfl) (fun _ _ _ h => h) (Or.inl ⟨by rfl, ?y3⟩) (by assumption) ?r3
  case y3 => (intro w hSw; (try dsimp only at hSw); go_simp; (first | done | with_reducible rfl))
  try simp only [Act.put, List.setIfInBounds_toArray, List.set_cons_zero, List.set_cons_succ]
  refine take1 (i := 3) (v := ?v4) (some 24) rfl rfl (by kernel_rfl) (by kernel_rfl) (by kernel_rfl) (fun _ _ _ h => h) (Or.inl ⟨by rfl, ?y4⟩) (by assumption) ?r4
  case y4 => (intro w hSw; (try dsimp only at hSw); go_simp; (first | done | with_reducible rfl))
  try simp only [Act.put, List.setIfInBounds_toArray, List.set_cons_zero, List.set_cons_succ]
  refine take1 (i := 4) (v := ?v5) (some 25) rfl rfl (by kernel_rfl) (by kernel_rfl) (by kernel_rfl) (fun _ _ _ h => h) (Or.inl ⟨by rfl, ?y5⟩) (by assumption) ?r5
  case y5 => (intro w hSw; (try dsimp only at hSw); go_simp; (first | done | with_reducible rfl))
  try simp only [Act.put, List.setIfInBounds_toArray, List.set_cons_zero, List.set_cons_succ]
  refine wpAnyH_ready (rs := [5]) (by kernel_rfl) (by simp) ?_
  refine AllReadyH.cons rfl (fun K hK => ?_) AllReadyH.nil
  go_simp
  go_at_call 123
  refine (implBetween_in up lo _ rs _ (rs.set q (digR d)) _ (RodsR.of_own HA3.out.rods) (RodsR.of_own HO3.out) HG.out HG2.out HL9.out.symm).mono ?_
  rintro e w4 ⟨⟨sm, rfl, ho⟩, hb⟩
  rw [HE.out] at ho
  obtain ⟨pm, km, rfl⟩ := own_form ho
  have HA4 := Lib.hid (HA3.out.next hb)
  have HO4 := Lib.hid (own_below HO3.out hb)
  have HM4 := Lib.hid (own_mono ho HS3.out)
  have HB4 : Hid (Below B w w4) := Lib.hid (HB3.out.trans (hb.mono HS3.out))
  have HW4 : Hid (Below w.heap.size w w4) := Lib.hid (HW3.out.trans (hb.mono HW3.out.size))
  have HT4 := Lib.hid ((hb.block _ (Array.getElem?_eq_some_iff.1 HT3.out).1).trans HT3.out)
  have HS4 : Hid (B ≤ w4.heap.size) := Lib.hid (by have := hb.size; have := HS3.out; omega)
  clear hb ho
  obtain ⟨c0, c1, c2, c3, f0, f1, f2, f3⟩ := cell4r HA4.out.box
  obtain ⟨d0, d1, d2, g0, g1, g2⟩ := cell3 HT4.out
  try go_simp
  refine hK.out _ _ (⟨c0, c1, c2, d0, d1, d2⟩) (fun hHeld => ?_)
  clear hK K
  try simp only [Act.put, List.setIfInBounds_toArray, List.set_cons_zero, List.set_cons_succ]
  refine take1 (i := 6) (v := ?v6) (some 20) rfl rfl (by kernel_rfl) (by kernel_rfl) (by kernel_rfl) (fun _ _ _ h => h) (Or.inl ⟨by rfl, ?y6⟩) (by assumption) ?r6
  case y6 => (intro w hSw; (try dsimp only at hSw); go_simp; (first | done | with_reducible rfl))
  try simp only [Act.put, List.setIfInBounds_toArray, List.set_cons_zero, List.set_cons_succ]
  refine take1 (i := 7) (v := ?v7) (some 27) rfl rfl (by kernel_rfl) (by kernel_rfl) (by kernel_rfl) (fun _ _ _ h => h) (Or.inl ⟨by rfl, ?y7⟩) (by assumption) ?r7
  case y7 => (intro w hSw; (try dsimp only at hSw); go_simp; (first | done | with_reducible rfl))
  try simp only [Act.put, List.setIfInBounds_toArray, List.set_cons_zero, List.set_cons_succ]
  refine take1 (i := 8) (v := ?v8) (some 28) rfl rfl (by kernel_rfl) (by kernel_rfl) (by kernel_rfl) (fun _ _ _ h => h) (Or.inl ⟨by rfl, ?y8⟩) (by assumption) ?r8
  case y8 => (intro w hSw; (try dsimp only at hSw); go_simp; (first | done | with_reducible rfl))
  try simp only [Act.put, List.setIfInBounds_toArray, List.set_cons_zero, List.set_cons_succ]
  refine take1 (i := 9) (v := ?v9) (some 8) rfl rfl (by kernel_rfl) (by kernel_rfl) (by kernel_rfl) (fun _ _ _ h => h) (Or.inl ⟨by rfl, ?y9⟩) (by assumption) ?r9
  case y9 => (intro w hSw; (try dsimp only at hSw); go_simp; (first | done | with_reducible rfl))
  try simp only [Act.put, List.setIfInBounds_toArray, List.set_cons_zero, List.set_cons_succ]
  refine take1 (i := 10) (v := ?v10) (some 9) rfl rfl (by kernel_rfl) (by kernel_rfl) (by kernel_rfl) (fun _ _ _ h => h) (Or.inl ⟨by rfl, ?y10⟩) (by assumption) ?r10
  case y10 => (intro w hSw; (try dsimp only at hSw); go_simp; (first | done | with_reducible rfl))
  try simp only [Act.put, List.setIfInBounds_toArray, List.set_cons_zero, List.set_cons_succ]
  refine wpAnyH_done (by kernel_rfl) ?_ _
  -- the frame is stored: the world behind it
  obtain ⟨W, hW⟩ : ∃ W, (((w4.setCell ⟨A, 0, none⟩ (.int .i64 up)).setCell ⟨A, 1, none⟩ (.int .i64 lo)).setCell ⟨A, 2, none⟩ (.slice pq rs.length kq)) = W := ⟨_, rfl⟩
  have h5 := HA4.out.setF (rs' := rs.set q (digR d)) (sv' := .slice pq rs.length kq) HO4.out
  have b5 : Below B w4 (((w4.setCell ⟨A, 0, none⟩ (.int .i64 up)).setCell ⟨A, 1, none⟩ (.int .i64 lo)).setCell ⟨A, 2, none⟩ (.slice pq rs.length kq)) := bl_set3 (Below.refl _ _) HA4.out.ord _ _ _
  have hwb : ∀ b, b ≠ A → W.heap[b]? = w4.heap[b]? := fun b hA => by
    rw [← hW, Below.heap_setCell _ ⟨A, 2, none⟩ _ b hA, Below.heap_setCell _ ⟨A, 1, none⟩ _ b hA, Below.heap_setCell _ ⟨A, 0, none⟩ _ b hA]
  have HWB := Lib.hid hwb
  have HWS : Hid (W.heap.size = w4.heap.size) := Lib.hid (by rw [← hW]; simp)
  clear hwb
  rw [hW] at h5 b5
  obtain ⟨e0, e1, e2, e3, m0, m1, m2, m3⟩ := cell4r h5.box
  have H5 := Lib.hid h5
  have B5 := Lib.hid b5
  clear h5 b5
  have HM5 : Hid (W.ownsRow B 75 3 (.slice pm (turnM q (vAt rs q) d).length km) (turnM q (vAt rs q) d).length (flatC mvC (turnM q (vAt rs q) d))) := Lib.hid (by
    rw [← hW]
    have hne := own_box HM4.out HA4.out.box HA4.out.tne.2
    exact own_set_box (own_set_box (own_set_box HM4.out hne _ _) hne _ _) hne _ _)
  have HS5 : Hid (B ≤ W.heap.size) := Lib.hid (by have := H5.out.lt; have := H5.out.ord; omega)
  have htl := turnM_len q (vAt rs q) d
  go_wp2_with (at_builtin; refine wpList_append_rows (w := W) rfl _ _ 32 rfl B 75 i0 (.agg #[.int .i64 0, .int .i64 0, .int .i64 0]) 3 24 Try.underlying32 hi hz0 hz1 hz2 rfl (by decide) mvC_len mvC_one mg ms.length mc (flatC mvC ms) rfl H5.out.moves pm km (turnM q (vAt rs q) d) rfl ?c2 ?c3 ?c4 ?c5 ?_)
  case c2 =>
    rcases (RowsR.of_own mvC_len HM5.out).src mvC_len (by decide) with h | ⟨ad, e1, h⟩
    · exact Or.inl h
    · exact Or.inr ⟨ad, e1, fun j u hj => h W (Below.refl _ _) j u hj⟩
  case c3 => unfold maxLen; omega
  case c4 => omega
  case c5 => exact HS5.out
  intro g c' w6 ho6 hg6 _
  have hA6 := H5.out.setM ho6 hg6
  have hkp : ∀ b, b < w.heap.size → b ≠ A → b ≠ mg → w6.heap[b]? = w.heap[b]? := by
    intro b hbl hA hmg
    have hW4 : b < W.heap.size := by have := HW4.out.size; have := HWS.out; omega
    rw [hg6.block b hW4 (by intro e; injection e with e; exact hmg e), HWB.out b hA]
    exact HW4.out.block b hbl
  have HKP := Lib.hid hkp
  clear hkp
  have hb6 : Below B w w6 := (HB4.out.trans B5.out).grown hg6 (by have := HS5.out; omega) (fun q hq => by cases hq; exact (H5.out.moves.lt mg rfl).1)
  have hbx : w6.heap[A]? = _ := (hg6.block A H5.out.lt (by intro e; injection e with e; exact H5.out.mne mg rfl e.symm)).trans H5.out.box
  clear e0 e1 e2 e3 m0 m1 m2 m3
  obtain ⟨e0, e1, e2, e3, m0, m1, m2, m3⟩ := cell4r hbx
  have HA6 := Lib.hid hA6
  have HB6 := Lib.hid hb6
  have hord := HA6.out.ord
  clear hA6 hb6 hbx ho6 hg6
  go_wp2_with fail
  go_end0
  exact ⟨rfl, ⟨_, _, _, HA6.out⟩, HB6.out.setCell (p := ⟨A, 3, none⟩) hord _, fun b h1 h2 h3 => (Below.heap_setCell _ ⟨A, 3, none⟩ _ b h2).trans (HKP.out b h1 h2 h3)⟩
/-- Blocks that hold no moves, the box A left out, are as they were. -/
def KeepT (w w' : World) (A : Nat) : Prop := ∀ b cs T fr, w.heap[b]? = some (.cells cs T fr) → T ≠ 75 → b ≠ A → w'.heap[b]? = w.heap[b]?
theorem KeepT.of_below {w w' : World} {A : Nat} (hb : Below w.heap.size w w') : KeepT w w' A := fun b _ _ _ h _ _ => hb.block b (Array.getElem?_eq_some_iff.1 h).1
theorem KeepT.trans {w w1 w2 : World} {A : Nat} (h1 : KeepT w w1 A) (h2 : KeepT w1 w2 A) : KeepT w w2 A := fun b cs T fr h ht ha => by
  have e := h1 b cs T fr h ht ha
  exact (h2 b cs T fr (e.trans h) ht ha).trans e
theorem KeepT.setA (w : World) (A i : Nat) (v : Value) : KeepT w (w.setCell ⟨A, i, none⟩ v) A := fun b _ _ _ _ _ ha => Below.heap_setCell w ⟨A, i, none⟩ v b ha
theorem KeepT.of_keep {w w' : World} {A mg n mc B : Nat} {xs : List Value} (hm : w.ownsRow B 75 3 (.slice (some ⟨mg, 0, none⟩) n mc) n xs) (hk : ∀ b, b < w.heap.size → b ≠ A → b ≠ mg → w'.heap[b]? = w.heap[b]?) : KeepT w w' A := fun b cs T fr h ht ha => by
  refine hk b (Array.getElem?_eq_some_iff.1 h).1 ha (fun e => ?_)
  subst e
  obtain ⟨cur, hc⟩ := own_heap hm (q := b) rfl
  rw [h] at hc
  injection hc with hc
  injection hc with _ h3 _
  exact ht h3
theorem own_keepT {w w' : World} {A B : Nat} {e : TypeId} {size n : Nat} {v : Value} {xs : List Value} (h : w.ownsRow B e size v n xs) (hk : KeepT w w' A) (he : e ≠ 75) (hA : ∀ g, v.ownBlock = some g → g ≠ A) : w'.ownsRow B e size v n xs :=
  own_of_block h fun g hg => by
    obtain ⟨cur, hc⟩ := own_heap h hg
    exact hk g _ _ _ hc he (hA g hg)
end Go.Proofs.Ytjkjaadcdolbhaa
