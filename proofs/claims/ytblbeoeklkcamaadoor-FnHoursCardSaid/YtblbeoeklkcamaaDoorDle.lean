/- A lesson, a list of lessons, a lesson's number, drawn. -/
import Derived.Test.YtblbeoeklkcamaaDoorKc
import Derived.Test.YtblbeoeklkcamaaDoorLessons
import Derived.Test.YtblbeoeklkcamaaDoorTls
import Derived.Test.YtblbeoeklkcamaaDoorKa
import Derived.Test.YtblbeoeklkcamaaDoorAppn
import Derived.Test.YtblbeoeklkcamaaDoorLe3
namespace Go.Proofs.YtblbeoeklkcamaaDoor
set_option linter.unusedVariables false
open Go.RowKit
set_option linter.unusedSimpArgs false

theorem RowsR.keepE {α : Type} {c : Nat} {cells : α → List Value} {w w' : World} {v : Value} {ps : List α} (h : RowsR c cells w v ps) (hs : w.heap.size ≤ w'.heap.size) (hk : ∀ a m c, v = .slice (some a) m c → a.block < w.heap.size → w'.heap[a.block]? = w.heap[a.block]?) : RowsR c cells w' v ps := by
  obtain ⟨a, cap, rfl, hb, h3⟩ := h
  refine ⟨a, cap, rfl, hb, fun hp => ?_⟩
  obtain ⟨b, off, rfl, hlt, hc⟩ := h3 hp
  refine ⟨b, off, rfl, Nat.lt_of_lt_of_le hlt hs, fun i hi j hj => ?_⟩
  rw [← hc i hi j hj]
  have := hk ⟨b, off, none⟩ _ _ rfl hlt
  simp only [World.cell?]
  rw [this]
/-- A list of lessons whose row lies in blocks from B on. -/
def LeX (B : Nat) (w : World) (v : Value) (ps : List Les) : Prop := RowsR 7 lesC w v ps ∧ (∀ a m c, v = .slice (some a) m c → B ≤ a.block)
theorem LeX.grown {w w' : World} {B r : Nat} {v : Value} {ps : List Les} (h : LeX B w v ps) (hg : w.grownBy w' (some r)) (hr : r < B) : LeX B w' v ps :=
  ⟨h.1.keepE hg.size (fun a m c e hl => hg.block _ hl (by intro e2; injection e2 with e2; have := h.2 a m c e; omega)), h.2⟩
theorem LeX.of_own {w : World} {B : Nat} {v : Value} {ps : List Les} (h1 : w.ownsRow B 31 7 v ps.length (flatC lesC ps)) : LeX B w v ps :=
  ⟨RowsR.of_own lesC_len h1, fun a m c e => by subst e; exact (h1.lt a.block rfl).1⟩
/-- The reader and the answer's box while a lesson is drawn. -/
def LeAt (w wi : World) (cb : Nat) (cd : Value) (n : Nat) : Prop := w.grownBy wi (some cb) ∧ CurAt wi cb cd n ∧ wi.heap[w.heap.size]? = some (.cells #[.int .i64 0, .int .i64 0, .int .i64 0, .int .i64 0, .int .i64 0, .int .i64 0, .int .i64 0] 31 (0, 0))
section
variable {w wi w' : World} {cb : Nat} {cd : Value} {n m : Nat}
theorem LeAt.step (h : LeAt w wi cb cd n) (hcb : cb < w.heap.size) (hg : wi.grownBy w' (some cb)) (hc : CurAt w' cb cd m) : LeAt w w' cb cd m :=
  ⟨grown_trans h.1 hg, hc, (hg.block _ (Array.getElem?_eq_some_iff.1 h.2.2).1 (by intro e; injection e with e; omega)).trans h.2.2⟩
theorem LeAt.alloc (h : LeAt w wi cb cd n) (hcb : cb < w.heap.size) (o : Obj) : LeAt w (wi.alloc o) cb cd n :=
  h.step hcb (grown_any (grown_alloc wi o none)) (h.2.1.old (grown_alloc wi o none))
theorem LeAt.code {L : List UInt8} (h : LeAt w wi cb cd n) (hr : CodeR w cb cd L) : CodeR wi cb cd L := hr.grown h.1
theorem LeAt.other (h : LeAt w wi cb cd n) (hcb : cb < w.heap.size) {b : Nat} (hb : w.heap.size < b) (i : Nat) (v : Value) : LeAt w (wi.setCell ⟨b, i, none⟩ v) cb cd n :=
  ⟨grown_set_new h.1 _ _ _ (Nat.le_of_lt hb), h.2.1.set _ _ _ (by omega), (heap_setCell_other wi ⟨b, i, none⟩ _ v (by show w.heap.size ≠ b; omega)).trans h.2.2⟩
theorem LeAt.fin (h : LeAt w wi cb cd n) (hcb : cb < w.heap.size) (x0 x1 x2 x3 x4 x5 x6 : Value) : w.grownBy (((((((wi.setCell ⟨w.heap.size, 0, none⟩ x0).setCell ⟨w.heap.size, 1, none⟩ x1).setCell ⟨w.heap.size, 2, none⟩ x2).setCell ⟨w.heap.size, 3, none⟩ x3).setCell ⟨w.heap.size, 4, none⟩ x4).setCell ⟨w.heap.size, 5, none⟩ x5).setCell ⟨w.heap.size, 6, none⟩ x6) (some cb) ∧ CurAt (((((((wi.setCell ⟨w.heap.size, 0, none⟩ x0).setCell ⟨w.heap.size, 1, none⟩ x1).setCell ⟨w.heap.size, 2, none⟩ x2).setCell ⟨w.heap.size, 3, none⟩ x3).setCell ⟨w.heap.size, 4, none⟩ x4).setCell ⟨w.heap.size, 5, none⟩ x5).setCell ⟨w.heap.size, 6, none⟩ x6) cb cd n :=
  ⟨grown_set_new (grown_set_new (grown_set_new (grown_set_new (grown_set_new (grown_set_new (grown_set_new (h.1) _ _ _ (Nat.le_refl _)) _ _ _ (Nat.le_refl _)) _ _ _ (Nat.le_refl _)) _ _ _ (Nat.le_refl _)) _ _ _ (Nat.le_refl _)) _ _ _ (Nat.le_refl _)) _ _ _ (Nat.le_refl _), (((((((h.2.1).set _ _ _ (by omega)).set _ _ _ (by omega)).set _ _ _ (by omega)).set _ _ _ (by omega)).set _ _ _ (by omega)).set _ _ _ (by omega)).set _ _ _ (by omega)⟩
theorem among_le {L : List UInt8} {zs : List Int} (h : LeAt w wi cb cd n) (hcb : cb < w.heap.size) (hn : n < 4611686018427387000) (hl : (1 ≤ zs.length ∧ zs.length ≤ 100) ∧ (zs.map (Value.int .i64)).length ≤ maxLen) (hr : CodeR w cb cd L) :
    Calls Tryd.prog 29 #[.pointer (some ⟨cb, 0, none⟩), .slice (some ⟨wi.heap.size, 0, none⟩) (zs.map (Value.int .i64)).length (zs.map (Value.int .i64)).length] (wi.alloc (.cells (zs.map (Value.int .i64)).toArray 3)) fun e w' => (∃ z, e = .returned (.int .i64 z) ∧ z ∈ zs) ∧ LeAt w w' cb cd (n + 2) ∧ (wi.alloc (.cells (zs.map (Value.int .i64)).toArray 3)).grownBy w' (some cb) :=
  (among_any cb cd L n _ zs _ hn hl.1 (slr_lit wi (zs.map (Value.int .i64)) 3 hl.2) (fun a m c e => by cases e; have := h.1.size; show wi.heap.size ≠ cb; omega) (h.2.1.old (grown_alloc wi _ none)) ((h.code hr).grown (grown_any (grown_alloc wi _ none)))).mono fun e w' ⟨a, b, c⟩ => ⟨a, (h.alloc hcb _).step hcb c b, c⟩
end
def leCZ : List Int := [1, 1, 2, 9]
def leTZ : List Int := [1, 1, 2, 20]
def leRZ : List Int := [1, 1, 2, 3, 9]
def leDZ : List Int := [0, 0, 0, 1, 6]
def leBZ : List Int := [480, 480, 495, 540, 545, 1140]
def leMZ : List Int := [30, 45, 60, 90]
def leIX : List Int := [0, 99, 100]
def leCX : List Int := [0, 10]
def leTX : List Int := [0, 21]
def leRX : List Int := [0, 10]
def leDX : List Int := [-1, 7]
def leBX : List Int := [479, 1141]
def leMX : List Int := [0, 50, -30]

set_option maxRecDepth 100000 in
set_option maxHeartbeats 6400000 in
theorem lesson_any (cb : Nat) (cd : Value) (L : List UInt8) (n : Nat) (v0 : Int) (w : World) (hn : n < 4611686018427300000) (hc : CurAt w cb cd n) (hr : CodeR w cb cd L) :
    Calls Tryd.prog 49 #[.pointer (some ⟨cb, 0, none⟩), .int .i64 v0] w fun e w' => (∃ v0 v1 v2 v3 v4 v5 v6 : Int, e = .returned (.agg #[.int .i64 v0, .int .i64 v1, .int .i64 v2, .int .i64 v3, .int .i64 v4, .int .i64 v5, .int .i64 v6])) ∧ CurAt w' cb cd (n + 16) ∧ w.grownBy w' (some cb) := by
  have hcb := hc.lt
  have HR := Lib.hid hr
  obtain ⟨w0, hW0⟩ : ∃ u, w.alloc (.cells #[.int .i64 0, .int .i64 0, .int .i64 0, .int .i64 0, .int .i64 0, .int .i64 0, .int .i64 0] 31) = u := ⟨_, rfl⟩
  have HS0 : Hid (LeAt w w0 cb cd n) := Lib.hid (by rw [← hW0]; exact ⟨grown_any (grown_alloc _ _ _), hc.old (grown_alloc _ _ _), alloc_at rfl⟩)
  clear hc hr
  have HD0 := Lib.hid (among_le (zs := leCZ) HS0.out hcb (by omega) (by decide) HR.out)
  go_enter Tryd.func49, Tryd.ntmps49
  go_wp2_with fail
  try rw [hW0]
  refine (HD0.out).mono ?_
  rintro e w1 ⟨⟨v1, rfl, -⟩, hs, -⟩
  have HS1 := Lib.hid hs
  clear hs
  have HD1 := Lib.hid (among_le (zs := leTZ) HS1.out hcb (by omega) (by decide) HR.out)
  go_wp2_with fail
  refine (HD1.out).mono ?_
  rintro e w2 ⟨⟨v2, rfl, -⟩, hs, -⟩
  have HS2 := Lib.hid hs
  clear hs
  have HD2 := Lib.hid (among_le (zs := leRZ) HS2.out hcb (by omega) (by decide) HR.out)
  go_wp2_with fail
  refine (HD2.out).mono ?_
  rintro e w3 ⟨⟨v3, rfl, -⟩, hs, -⟩
  have HS3 := Lib.hid hs
  clear hs
  have HD3 := Lib.hid (among_le (zs := leDZ) HS3.out hcb (by omega) (by decide) HR.out)
  go_wp2_with fail
  refine (HD3.out).mono ?_
  rintro e w4 ⟨⟨v4, rfl, -⟩, hs, -⟩
  have HS4 := Lib.hid hs
  clear hs
  have HD4 := Lib.hid (among_le (zs := leBZ) HS4.out hcb (by omega) (by decide) HR.out)
  go_wp2_with fail
  refine (HD4.out).mono ?_
  rintro e w5 ⟨⟨v5, rfl, -⟩, hs, -⟩
  have HS5 := Lib.hid hs
  clear hs
  have HD5 := Lib.hid (among_le (zs := leMZ) HS5.out hcb (by omega) (by decide) HR.out)
  go_wp2_with fail
  refine (HD5.out).mono ?_
  rintro e w6 ⟨⟨v6, rfl, -⟩, hs, -⟩
  have HS6 := Lib.hid hs
  clear hs
  have hsu := HS6.out.alloc hcb (.cells #[.int .i64 v0, .int .i64 v1, .int .i64 v2, .int .i64 v3, .int .i64 v4, .int .i64 v5, .int .i64 v6] 31)
  have hku : (w6.alloc (.cells #[.int .i64 v0, .int .i64 v1, .int .i64 v2, .int .i64 v3, .int .i64 v4, .int .i64 v5, .int .i64 v6] 31)).heap[w6.heap.size]? = some (.cells #[.int .i64 v0, .int .i64 v1, .int .i64 v2, .int .i64 v3, .int .i64 v4, .int .i64 v5, .int .i64 v6] 31 (0, 0)) := alloc_at rfl
  have hpu : w.heap.size < w6.heap.size := lt_of_block HS6.out.2.2
  go_wp2_with fail
  generalize w6.alloc (.cells #[.int .i64 v0, .int .i64 v1, .int .i64 v2, .int .i64 v3, .int .i64 v4, .int .i64 v5, .int .i64 v6] 31) = wb at hsu hku ⊢
  generalize w6.heap.size = P at hku hpu ⊢
  have HSB := Lib.hid hsu
  have HKB := Lib.hid hku
  have HPP := Lib.hid hpu
  clear hsu hku hpu
  refine (pick_any cb cd L (n + 2 + 2 + 2 + 2 + 2 + 2) 90 wb (by omega) (by omega) (by omega) HSB.out.2.1 (HSB.out.code HR.out)).mono ?_
  rintro e wc ⟨⟨r, rfl, r0, r1⟩, hc, hg⟩
  have HSC := Lib.hid (HSB.out.step hcb hg hc)
  have HKC := Lib.hid ((hg.block _ (Array.getElem?_eq_some_iff.1 HKB.out).1 (by intro e; injection e with e; have := HPP.out; omega)).trans HKB.out)
  clear hc hg
  rcases (by omega : r = 0 ∨ r = 1 ∨ r = 2 ∨ r = 3 ∨ r = 4 ∨ r = 5 ∨ r = 6 ∨ 7 ≤ r) with rfl | rfl | rfl | rfl | rfl | rfl | rfl | hr5
  · skip
    have HKD := Lib.hid (((grown_alloc wc (.cells (leIX.map (Value.int .i64)).toArray 3) none).block _ (Array.getElem?_eq_some_iff.1 HKC.out).1 (by simp)).trans HKC.out)
    have HD := Lib.hid (among_le (zs := leIX) HSC.out hcb (by omega) (by decide) HR.out)
    go_wp2_with fail
    refine (HD.out).mono ?_
    rintro e wd ⟨⟨xx, rfl, hxx⟩, hsd, hgd⟩
    have hkd := (hgd.block _ (Array.getElem?_eq_some_iff.1 HKD.out).1 (by intro e; injection e with e; have := HPP.out; omega)).trans HKD.out
    obtain ⟨we, hWe⟩ : ∃ we, wd.setCell ⟨P, 0, none⟩ (.int .i64 xx) = we := ⟨_, rfl⟩
    have HSE : Hid (LeAt w we cb cd _) := Lib.hid (by rw [← hWe]; exact hsd.other hcb HPP.out 0 (.int .i64 xx))
    have HKE : Hid (we.heap[P]? = some (.cells #[.int .i64 xx, .int .i64 v1, .int .i64 v2, .int .i64 v3, .int .i64 v4, .int .i64 v5, .int .i64 v6] 31 (0, 0))) := Lib.hid (by rw [← hWe]; have h9 := heap_setCell_same wd P 0 _ _ (.int .i64 xx) hkd; simpa using h9)
    obtain ⟨q0, q1, q2, q3, q4, q5, q6, r0x, r1x, r2x, r3x, r4x, r5x, r6x⟩ := cell7 hkd
    clear hsd hgd hkd hxx
    obtain ⟨p0, p1, p2, p3, p4, p5, p6, g0, g1, g2, g3, g4, g5, g6⟩ := cell7 HKE.out
    obtain ⟨z0, z1, z2, z3, z4, z5, z6, y0, y1, y2, y3, y4, y5, y6⟩ := cell7 HSE.out.2.2
    have HF := Lib.hid (HSE.out.fin hcb (.int .i64 xx) (.int .i64 v1) (.int .i64 v2) (.int .i64 v3) (.int .i64 v4) (.int .i64 v5) (.int .i64 v6))
    go_wp2_with fail
    exact bodyPost_ret (v := .agg #[.int .i64 xx, .int .i64 v1, .int .i64 v2, .int .i64 v3, .int .i64 v4, .int .i64 v5, .int .i64 v6]) (by simp [results, Tryd.results49, go_sem, z0, z1, z2, z3, z4, z5, z6]) rfl ⟨⟨xx, v1, v2, v3, v4, v5, v6, rfl⟩, HF.out.2.more (by omega), HF.out.1⟩
  · skip
    have HKD := Lib.hid (((grown_alloc wc (.cells (leCX.map (Value.int .i64)).toArray 3) none).block _ (Array.getElem?_eq_some_iff.1 HKC.out).1 (by simp)).trans HKC.out)
    have HD := Lib.hid (among_le (zs := leCX) HSC.out hcb (by omega) (by decide) HR.out)
    go_wp2_with fail
    refine (HD.out).mono ?_
    rintro e wd ⟨⟨xx, rfl, hxx⟩, hsd, hgd⟩
    have hkd := (hgd.block _ (Array.getElem?_eq_some_iff.1 HKD.out).1 (by intro e; injection e with e; have := HPP.out; omega)).trans HKD.out
    obtain ⟨we, hWe⟩ : ∃ we, wd.setCell ⟨P, 1, none⟩ (.int .i64 xx) = we := ⟨_, rfl⟩
    have HSE : Hid (LeAt w we cb cd _) := Lib.hid (by rw [← hWe]; exact hsd.other hcb HPP.out 1 (.int .i64 xx))
    have HKE : Hid (we.heap[P]? = some (.cells #[.int .i64 v0, .int .i64 xx, .int .i64 v2, .int .i64 v3, .int .i64 v4, .int .i64 v5, .int .i64 v6] 31 (0, 0))) := Lib.hid (by rw [← hWe]; have h9 := heap_setCell_same wd P 1 _ _ (.int .i64 xx) hkd; simpa using h9)
    obtain ⟨q0, q1, q2, q3, q4, q5, q6, r0x, r1x, r2x, r3x, r4x, r5x, r6x⟩ := cell7 hkd
    clear hsd hgd hkd hxx
    obtain ⟨p0, p1, p2, p3, p4, p5, p6, g0, g1, g2, g3, g4, g5, g6⟩ := cell7 HKE.out
    obtain ⟨z0, z1, z2, z3, z4, z5, z6, y0, y1, y2, y3, y4, y5, y6⟩ := cell7 HSE.out.2.2
    have HF := Lib.hid (HSE.out.fin hcb (.int .i64 v0) (.int .i64 xx) (.int .i64 v2) (.int .i64 v3) (.int .i64 v4) (.int .i64 v5) (.int .i64 v6))
    go_wp2_with fail
    exact bodyPost_ret (v := .agg #[.int .i64 v0, .int .i64 xx, .int .i64 v2, .int .i64 v3, .int .i64 v4, .int .i64 v5, .int .i64 v6]) (by simp [results, Tryd.results49, go_sem, z0, z1, z2, z3, z4, z5, z6]) rfl ⟨⟨v0, xx, v2, v3, v4, v5, v6, rfl⟩, HF.out.2.more (by omega), HF.out.1⟩
  · skip
    have HKD := Lib.hid (((grown_alloc wc (.cells (leTX.map (Value.int .i64)).toArray 3) none).block _ (Array.getElem?_eq_some_iff.1 HKC.out).1 (by simp)).trans HKC.out)
    have HD := Lib.hid (among_le (zs := leTX) HSC.out hcb (by omega) (by decide) HR.out)
    go_wp2_with fail
    refine (HD.out).mono ?_
    rintro e wd ⟨⟨xx, rfl, hxx⟩, hsd, hgd⟩
    have hkd := (hgd.block _ (Array.getElem?_eq_some_iff.1 HKD.out).1 (by intro e; injection e with e; have := HPP.out; omega)).trans HKD.out
    obtain ⟨we, hWe⟩ : ∃ we, wd.setCell ⟨P, 2, none⟩ (.int .i64 xx) = we := ⟨_, rfl⟩
    have HSE : Hid (LeAt w we cb cd _) := Lib.hid (by rw [← hWe]; exact hsd.other hcb HPP.out 2 (.int .i64 xx))
    have HKE : Hid (we.heap[P]? = some (.cells #[.int .i64 v0, .int .i64 v1, .int .i64 xx, .int .i64 v3, .int .i64 v4, .int .i64 v5, .int .i64 v6] 31 (0, 0))) := Lib.hid (by rw [← hWe]; have h9 := heap_setCell_same wd P 2 _ _ (.int .i64 xx) hkd; simpa using h9)
    obtain ⟨q0, q1, q2, q3, q4, q5, q6, r0x, r1x, r2x, r3x, r4x, r5x, r6x⟩ := cell7 hkd
    clear hsd hgd hkd hxx
    obtain ⟨p0, p1, p2, p3, p4, p5, p6, g0, g1, g2, g3, g4, g5, g6⟩ := cell7 HKE.out
    obtain ⟨z0, z1, z2, z3, z4, z5, z6, y0, y1, y2, y3, y4, y5, y6⟩ := cell7 HSE.out.2.2
    have HF := Lib.hid (HSE.out.fin hcb (.int .i64 v0) (.int .i64 v1) (.int .i64 xx) (.int .i64 v3) (.int .i64 v4) (.int .i64 v5) (.int .i64 v6))
    go_wp2_with fail
    exact bodyPost_ret (v := .agg #[.int .i64 v0, .int .i64 v1, .int .i64 xx, .int .i64 v3, .int .i64 v4, .int .i64 v5, .int .i64 v6]) (by simp [results, Tryd.results49, go_sem, z0, z1, z2, z3, z4, z5, z6]) rfl ⟨⟨v0, v1, xx, v3, v4, v5, v6, rfl⟩, HF.out.2.more (by omega), HF.out.1⟩
  · skip
    have HKD := Lib.hid (((grown_alloc wc (.cells (leRX.map (Value.int .i64)).toArray 3) none).block _ (Array.getElem?_eq_some_iff.1 HKC.out).1 (by simp)).trans HKC.out)
    have HD := Lib.hid (among_le (zs := leRX) HSC.out hcb (by omega) (by decide) HR.out)
    go_wp2_with fail
    refine (HD.out).mono ?_
    rintro e wd ⟨⟨xx, rfl, hxx⟩, hsd, hgd⟩
    have hkd := (hgd.block _ (Array.getElem?_eq_some_iff.1 HKD.out).1 (by intro e; injection e with e; have := HPP.out; omega)).trans HKD.out
    obtain ⟨we, hWe⟩ : ∃ we, wd.setCell ⟨P, 3, none⟩ (.int .i64 xx) = we := ⟨_, rfl⟩
    have HSE : Hid (LeAt w we cb cd _) := Lib.hid (by rw [← hWe]; exact hsd.other hcb HPP.out 3 (.int .i64 xx))
    have HKE : Hid (we.heap[P]? = some (.cells #[.int .i64 v0, .int .i64 v1, .int .i64 v2, .int .i64 xx, .int .i64 v4, .int .i64 v5, .int .i64 v6] 31 (0, 0))) := Lib.hid (by rw [← hWe]; have h9 := heap_setCell_same wd P 3 _ _ (.int .i64 xx) hkd; simpa using h9)
    obtain ⟨q0, q1, q2, q3, q4, q5, q6, r0x, r1x, r2x, r3x, r4x, r5x, r6x⟩ := cell7 hkd
    clear hsd hgd hkd hxx
    obtain ⟨p0, p1, p2, p3, p4, p5, p6, g0, g1, g2, g3, g4, g5, g6⟩ := cell7 HKE.out
    obtain ⟨z0, z1, z2, z3, z4, z5, z6, y0, y1, y2, y3, y4, y5, y6⟩ := cell7 HSE.out.2.2
    have HF := Lib.hid (HSE.out.fin hcb (.int .i64 v0) (.int .i64 v1) (.int .i64 v2) (.int .i64 xx) (.int .i64 v4) (.int .i64 v5) (.int .i64 v6))
    go_wp2_with fail
    exact bodyPost_ret (v := .agg #[.int .i64 v0, .int .i64 v1, .int .i64 v2, .int .i64 xx, .int .i64 v4, .int .i64 v5, .int .i64 v6]) (by simp [results, Tryd.results49, go_sem, z0, z1, z2, z3, z4, z5, z6]) rfl ⟨⟨v0, v1, v2, xx, v4, v5, v6, rfl⟩, HF.out.2.more (by omega), HF.out.1⟩
  · skip
    have HKD := Lib.hid (((grown_alloc wc (.cells (leDX.map (Value.int .i64)).toArray 3) none).block _ (Array.getElem?_eq_some_iff.1 HKC.out).1 (by simp)).trans HKC.out)
    have HD := Lib.hid (among_le (zs := leDX) HSC.out hcb (by omega) (by decide) HR.out)
    go_wp2_with fail
    refine (HD.out).mono ?_
    rintro e wd ⟨⟨xx, rfl, hxx⟩, hsd, hgd⟩
    have hkd := (hgd.block _ (Array.getElem?_eq_some_iff.1 HKD.out).1 (by intro e; injection e with e; have := HPP.out; omega)).trans HKD.out
    obtain ⟨we, hWe⟩ : ∃ we, wd.setCell ⟨P, 4, none⟩ (.int .i64 xx) = we := ⟨_, rfl⟩
    have HSE : Hid (LeAt w we cb cd _) := Lib.hid (by rw [← hWe]; exact hsd.other hcb HPP.out 4 (.int .i64 xx))
    have HKE : Hid (we.heap[P]? = some (.cells #[.int .i64 v0, .int .i64 v1, .int .i64 v2, .int .i64 v3, .int .i64 xx, .int .i64 v5, .int .i64 v6] 31 (0, 0))) := Lib.hid (by rw [← hWe]; have h9 := heap_setCell_same wd P 4 _ _ (.int .i64 xx) hkd; simpa using h9)
    obtain ⟨q0, q1, q2, q3, q4, q5, q6, r0x, r1x, r2x, r3x, r4x, r5x, r6x⟩ := cell7 hkd
    clear hsd hgd hkd hxx
    obtain ⟨p0, p1, p2, p3, p4, p5, p6, g0, g1, g2, g3, g4, g5, g6⟩ := cell7 HKE.out
    obtain ⟨z0, z1, z2, z3, z4, z5, z6, y0, y1, y2, y3, y4, y5, y6⟩ := cell7 HSE.out.2.2
    have HF := Lib.hid (HSE.out.fin hcb (.int .i64 v0) (.int .i64 v1) (.int .i64 v2) (.int .i64 v3) (.int .i64 xx) (.int .i64 v5) (.int .i64 v6))
    go_wp2_with fail
    exact bodyPost_ret (v := .agg #[.int .i64 v0, .int .i64 v1, .int .i64 v2, .int .i64 v3, .int .i64 xx, .int .i64 v5, .int .i64 v6]) (by simp [results, Tryd.results49, go_sem, z0, z1, z2, z3, z4, z5, z6]) rfl ⟨⟨v0, v1, v2, v3, xx, v5, v6, rfl⟩, HF.out.2.more (by omega), HF.out.1⟩
  · skip
    have HKD := Lib.hid (((grown_alloc wc (.cells (leBX.map (Value.int .i64)).toArray 3) none).block _ (Array.getElem?_eq_some_iff.1 HKC.out).1 (by simp)).trans HKC.out)
    have HD := Lib.hid (among_le (zs := leBX) HSC.out hcb (by omega) (by decide) HR.out)
    go_wp2_with fail
    refine (HD.out).mono ?_
    rintro e wd ⟨⟨xx, rfl, hxx⟩, hsd, hgd⟩
    have hkd := (hgd.block _ (Array.getElem?_eq_some_iff.1 HKD.out).1 (by intro e; injection e with e; have := HPP.out; omega)).trans HKD.out
    obtain ⟨we, hWe⟩ : ∃ we, wd.setCell ⟨P, 5, none⟩ (.int .i64 xx) = we := ⟨_, rfl⟩
    have HSE : Hid (LeAt w we cb cd _) := Lib.hid (by rw [← hWe]; exact hsd.other hcb HPP.out 5 (.int .i64 xx))
    have HKE : Hid (we.heap[P]? = some (.cells #[.int .i64 v0, .int .i64 v1, .int .i64 v2, .int .i64 v3, .int .i64 v4, .int .i64 xx, .int .i64 v6] 31 (0, 0))) := Lib.hid (by rw [← hWe]; have h9 := heap_setCell_same wd P 5 _ _ (.int .i64 xx) hkd; simpa using h9)
    obtain ⟨q0, q1, q2, q3, q4, q5, q6, r0x, r1x, r2x, r3x, r4x, r5x, r6x⟩ := cell7 hkd
    clear hsd hgd hkd hxx
    obtain ⟨p0, p1, p2, p3, p4, p5, p6, g0, g1, g2, g3, g4, g5, g6⟩ := cell7 HKE.out
    obtain ⟨z0, z1, z2, z3, z4, z5, z6, y0, y1, y2, y3, y4, y5, y6⟩ := cell7 HSE.out.2.2
    have HF := Lib.hid (HSE.out.fin hcb (.int .i64 v0) (.int .i64 v1) (.int .i64 v2) (.int .i64 v3) (.int .i64 v4) (.int .i64 xx) (.int .i64 v6))
    go_wp2_with fail
    exact bodyPost_ret (v := .agg #[.int .i64 v0, .int .i64 v1, .int .i64 v2, .int .i64 v3, .int .i64 v4, .int .i64 xx, .int .i64 v6]) (by simp [results, Tryd.results49, go_sem, z0, z1, z2, z3, z4, z5, z6]) rfl ⟨⟨v0, v1, v2, v3, v4, xx, v6, rfl⟩, HF.out.2.more (by omega), HF.out.1⟩
  · skip
    have HKD := Lib.hid (((grown_alloc wc (.cells (leMX.map (Value.int .i64)).toArray 3) none).block _ (Array.getElem?_eq_some_iff.1 HKC.out).1 (by simp)).trans HKC.out)
    have HD := Lib.hid (among_le (zs := leMX) HSC.out hcb (by omega) (by decide) HR.out)
    go_wp2_with fail
    refine (HD.out).mono ?_
    rintro e wd ⟨⟨xx, rfl, hxx⟩, hsd, hgd⟩
    have hkd := (hgd.block _ (Array.getElem?_eq_some_iff.1 HKD.out).1 (by intro e; injection e with e; have := HPP.out; omega)).trans HKD.out
    obtain ⟨we, hWe⟩ : ∃ we, wd.setCell ⟨P, 6, none⟩ (.int .i64 xx) = we := ⟨_, rfl⟩
    have HSE : Hid (LeAt w we cb cd _) := Lib.hid (by rw [← hWe]; exact hsd.other hcb HPP.out 6 (.int .i64 xx))
    have HKE : Hid (we.heap[P]? = some (.cells #[.int .i64 v0, .int .i64 v1, .int .i64 v2, .int .i64 v3, .int .i64 v4, .int .i64 v5, .int .i64 xx] 31 (0, 0))) := Lib.hid (by rw [← hWe]; have h9 := heap_setCell_same wd P 6 _ _ (.int .i64 xx) hkd; simpa using h9)
    obtain ⟨q0, q1, q2, q3, q4, q5, q6, r0x, r1x, r2x, r3x, r4x, r5x, r6x⟩ := cell7 hkd
    clear hsd hgd hkd hxx
    obtain ⟨p0, p1, p2, p3, p4, p5, p6, g0, g1, g2, g3, g4, g5, g6⟩ := cell7 HKE.out
    obtain ⟨z0, z1, z2, z3, z4, z5, z6, y0, y1, y2, y3, y4, y5, y6⟩ := cell7 HSE.out.2.2
    have HF := Lib.hid (HSE.out.fin hcb (.int .i64 v0) (.int .i64 v1) (.int .i64 v2) (.int .i64 v3) (.int .i64 v4) (.int .i64 v5) (.int .i64 xx))
    go_wp2_with fail
    exact bodyPost_ret (v := .agg #[.int .i64 v0, .int .i64 v1, .int .i64 v2, .int .i64 v3, .int .i64 v4, .int .i64 v5, .int .i64 xx]) (by simp [results, Tryd.results49, go_sem, z0, z1, z2, z3, z4, z5, z6]) rfl ⟨⟨v0, v1, v2, v3, v4, v5, xx, rfl⟩, HF.out.2.more (by omega), HF.out.1⟩
  · have b0 : (r == 0) = false := beq_eq_false_iff_ne.2 (by omega)
    have b1 : (r == 1) = false := beq_eq_false_iff_ne.2 (by omega)
    have b2 : (r == 2) = false := beq_eq_false_iff_ne.2 (by omega)
    have b3 : (r == 3) = false := beq_eq_false_iff_ne.2 (by omega)
    have b4 : (r == 4) = false := beq_eq_false_iff_ne.2 (by omega)
    have b5 : (r == 5) = false := beq_eq_false_iff_ne.2 (by omega)
    have b6 : (r == 6) = false := beq_eq_false_iff_ne.2 (by omega)
    obtain ⟨p0, p1, p2, p3, p4, p5, p6, g0, g1, g2, g3, g4, g5, g6⟩ := cell7 HKC.out
    obtain ⟨z0, z1, z2, z3, z4, z5, z6, y0, y1, y2, y3, y4, y5, y6⟩ := cell7 HSC.out.2.2
    have HF := Lib.hid (HSC.out.fin hcb (.int .i64 v0) (.int .i64 v1) (.int .i64 v2) (.int .i64 v3) (.int .i64 v4) (.int .i64 v5) (.int .i64 v6))
    go_wp2_with fail
    exact bodyPost_ret (v := .agg #[.int .i64 v0, .int .i64 v1, .int .i64 v2, .int .i64 v3, .int .i64 v4, .int .i64 v5, .int .i64 v6]) (by simp [results, Tryd.results49, go_sem, z0, z1, z2, z3, z4, z5, z6]) rfl ⟨⟨v0, v1, v2, v3, v4, v5, v6, rfl⟩, HF.out.2.more (by omega), HF.out.1⟩
theorem slr_headE {w : World} {B : Nat} {T : TypeId} {xs : List Value} (hb : w.heap[B]? = some (.cells xs.toArray T (0, 0))) (n : Nat) (hn : n ≤ xs.length) (hl : xs.length ≤ maxLen) : SlR w (.slice (some ⟨B, 0, none⟩) n xs.length) (xs.take n) := by
  have e : (xs.take n).length = n := by rw [List.length_take]; omega
  refine ⟨_, xs.length, by rw [e], ⟨by omega, by omega⟩, fun _ => ⟨B, 0, rfl, lt_of_block hb, fun i hi => ?_⟩⟩
  have h2 : i < xs.length := by omega
  rw [Nat.zero_add, cell_of_row w B i _ _ _ hb]
  simp [List.getElem_take, h2]
theorem grown_freshE {w wi w' : World} {r cr : Option Nat} (h1 : w.grownBy wi cr) (h2 : wi.grownBy w' r) (hr : ∀ q, q < w.heap.size → some q ≠ r) : w.grownBy w' cr :=
  ⟨h2.os.trans h1.os, h2.tape.trans h1.tape, h2.output.trans h1.output, Nat.le_trans h1.size h2.size, fun q hq hn => (h2.block q (Nat.lt_of_lt_of_le hq h1.size) (hr q hq)).trans (h1.block q hq hn)⟩
theorem seven_new {w : World} {a b c d e f g : Value} {T : TypeId} {j : Nat} {u : Value} (hu : [a, b, c, d, e, f, g][j]? = some u) : (w.alloc (.cells #[a, b, c, d, e, f, g] T)).cell? ((⟨w.heap.size, 0, none⟩ : Addr).add j) = some u := by
  have h2 := cell7 (alloc_at (w := w) (o := .cells #[a, b, c, d, e, f, g] T) rfl)
  match j, hu with
  | 0, hu => simp at hu; subst hu; exact h2.1
  | 1, hu => simp at hu; subst hu; exact h2.2.1
  | 2, hu => simp at hu; subst hu; exact h2.2.2.1
  | 3, hu => simp at hu; subst hu; exact h2.2.2.2.1
  | 4, hu => simp at hu; subst hu; exact h2.2.2.2.2.1
  | 5, hu => simp at hu; subst hu; exact h2.2.2.2.2.2.1
  | 6, hu => simp at hu; subst hu; exact h2.2.2.2.2.2.2.1
  | k + 7, hu => simp at hu

set_option maxRecDepth 100000 in
set_option maxHeartbeats 6400000 in
theorem lessons_any (cb : Nat) (cd : Value) (L : List UInt8) (n : Nat) (w : World) (hn : n < 4611686018427200000) (hc : CurAt w cb cd n) (hr : CodeR w cb cd L) :
    Calls Tryd.prog 27 #[.pointer (some ⟨cb, 0, none⟩)] w fun e w' => (∃ (v : Value) (ps : List Les), e = .returned v ∧ LeX w.heap.size w' v ps ∧ ps.length ≤ 13) ∧ CurAt w' cb cd (n + 200) ∧ w.grownBy w' (some cb) := by
  obtain ⟨i0, hi, hz0, hz1, hz2⟩ := info_parts Tryd.infoLes
  have hcb := hc.lt
  have HR := Lib.hid hr
  obtain ⟨w1, hW1⟩ : ∃ u, w.alloc (.cells #[] 31) = u := ⟨_, rfl⟩
  have hg1 : w.grownBy w1 (some cb) := by rw [← hW1]; exact grown_any (grown_alloc _ _ _)
  have ho1 : w1.ownsRow w.heap.size 31 7 (.slice (some ⟨w.heap.size, 0, none⟩) ([] : List Les).length 0) ([] : List Les).length (flatC lesC []) := by rw [← hW1]; exact World.ownsRow_made w #[] (e := 31) (size := 7) 0 (Nat.le_refl w.heap.size) (Nat.zero_le _) (by simp)
  have hc1 : CurAt w1 cb cd n := by rw [← hW1]; exact hc.old (grown_alloc _ _ _)
  have HP1 := Lib.hid (pick_any cb cd L n 9 w1 (by omega) (by omega) (by omega) hc1 (HR.out.grown hg1))
  have HG1 := Lib.hid hg1
  have HO1 := Lib.hid ho1
  clear hc hr hg1 hc1 ho1
  go_enter Tryd.func27, Tryd.ntmps27
  go_wp2_with fail
  try rw [hW1]
  refine (HP1.out).mono ?_
  rintro e w3 ⟨⟨r, rfl, r0, r1⟩, hc3, hg3⟩
  have HC3 := Lib.hid hc3
  have HO3 := Lib.hid (own_grown HO1.out hg3 hcb)
  have HG3 := Lib.hid (grown_trans HG1.out hg3)
  clear hc3 hg3 hW1
  go_wp2_with fail
  go_loopw [3, 4, 5] (fun out iv nv wr => ∃ (K : Int) (m : Nat) (idv : Int) (ps : List Les) (oa : Option Addr) (cp : Nat), nv = .int .i64 K ∧ iv = .int .i64 idv ∧ out = .slice oa ps.length cp ∧ 0 ≤ K ∧ (ps.length : Int) + K ≤ 8 ∧ (m : Int) + 20 * K ≤ n + 162 ∧ Hid (w.grownBy wr (some cb)) ∧ Hid (CurAt wr cb cd m) ∧ Hid (wr.ownsRow w.heap.size 31 7 (.slice oa ps.length cp) ps.length (flatC lesC ps))) (fun _ _ nv _ => (intOf nv).toNat)
  case atStart => exact ⟨r, n + 2, 0, [], _, 0, rfl, rfl, rfl, r0, by simp; omega, by omega, HG3, HC3, HO3⟩
  case round =>
    obtain ⟨K, m, idv, ps, oa, cp, rfl, rfl, rfl, hK, hl, hm, HG, HC, HO⟩ := hrel
    by_cases hk : 0 < K
    · skip
      have z0 : (0 : Int) < K := hk
      have hw1 : IntKind.i64.wrap (K - 1) = K - 1 := by rw [IntKind.wrap_i64]; omega
      have HPK := Lib.hid (pick_any cb cd L m 3 wr (by omega) (by omega) (by omega) HC.out (HR.out.grown HG.out))
      go_wp2_with fail
      refine (HPK.out).mono ?_
      rintro e w2 ⟨⟨r, rfl, r0, r1⟩, hc2, hg2⟩
      have HG2 := Lib.hid (grown_trans HG.out hg2)
      have HC2 := Lib.hid hc2
      have HO2 := Lib.hid (own_grown HO.out hg2 hcb)
      clear hc2 hg2
      have HP2 := Lib.hid (pick_any cb cd L (m + 2) 90 w2 (by omega) (by omega) (by omega) HC2.out (HR.out.grown HG2.out))
      go_wp2_with fail
      refine (HP2.out).mono ?_
      rintro e w3 ⟨⟨r9, rfl, s0, s1⟩, hc3, hg3⟩
      have HG3 := Lib.hid (grown_trans HG2.out hg3)
      have HC3 := Lib.hid hc3
      have HO3 := Lib.hid (own_grown HO2.out hg3 hcb)
      clear hc3 hg3
      have HPU := Lib.hid (fun id2 => lesson_any cb cd L (m + 2 + 2) id2 w3 (by omega) HC3.out (HR.out.grown HG3.out))
      go_wp2_with fail
      refine (HPU.out _).mono ?_
      rintro e w5 ⟨⟨v0, v1, v2, v3, v4, v5, v6, rfl⟩, hc5, hg5⟩
      have HO5 := Lib.hid (own_grown HO3.out hg5 hcb)
      have HG5 := Lib.hid (grown_trans HG3.out hg5)
      have HC5 := Lib.hid hc5
      clear hc5 hg5
      go_wp2_with (at_builtin; refine wpList_append_own _ rfl _ _ 24 rfl w.heap.size 31 i0 (.agg #[.int .i64 0, .int .i64 0, .int .i64 0, .int .i64 0, .int .i64 0, .int .i64 0, .int .i64 0]) 7 56 Tryd.underlying24 hi hz0 hz1 hz2 rfl (by decide) _ _ _ rfl (HO5.out.alloc _) ⟨w5.heap.size, 0, none⟩ 1 1 [.int .i64 v0, .int .i64 v1, .int .i64 v2, .int .i64 v3, .int .i64 v4, .int .i64 v5, .int .i64 v6] rfl rfl ?d1 ?d2 ?d3 ?d4 ?d5 ?_)
      case d1 => intro j u hu; exact seven_new hu
      case d2 => exact lesC_one ⟨v0, v1, v2, v3, v4, v5, v6⟩
      case d3 => unfold maxLen; omega
      case d4 => omega
      case d5 => have := HG5.out.size; simp; omega
      intro vv7 w7 hown7 hgrow7 _
      have HG7 := Lib.hid (grown_freshE (grown_trans HG5.out (grown_any (r := some cb) (grown_alloc w5 (.cells #[.int .i64 v0, .int .i64 v1, .int .i64 v2, .int .i64 v3, .int .i64 v4, .int .i64 v5, .int .i64 v6] 31) none))) hgrow7 (fun q hq e => by have := (HO5.out.lt q e.symm).1; omega))
      have HC7 := Lib.hid ((HC5.out.old (grown_alloc w5 (.cells #[.int .i64 v0, .int .i64 v1, .int .i64 v2, .int .i64 v3, .int .i64 v4, .int .i64 v5, .int .i64 v6] 31) none)).row hgrow7 (by intro e; have := (HO5.out.lt cb e.symm).1; omega))
      have HO7 : Hid (w7.ownsRow w.heap.size 31 7 vv7 (ps ++ [⟨v0, v1, v2, v3, v4, v5, v6⟩] : List Les).length (flatC lesC (ps ++ [⟨v0, v1, v2, v3, v4, v5, v6⟩] : List Les))) := Lib.hid (by rw [List.length_append, List.length_singleton, flatC_app]; exact hown7)
      have HL7 : Hid ((ps ++ [⟨v0, v1, v2, v3, v4, v5, v6⟩] : List Les).length = ps.length + 1) := Lib.hid (by rw [List.length_append, List.length_singleton])
      clear hown7 hgrow7
      generalize (ps ++ [⟨v0, v1, v2, v3, v4, v5, v6⟩] : List Les) = qs at HO7 HL7
      obtain ⟨sa, sc, rfl⟩ := own_form HO7.out
      go_wp2_with fail
      go_roundw
      case rel => exact ⟨K - 1, m + 2 + 2 + 16, _, qs, sa, sc, rfl, rfl, rfl, by omega, by have := HL7.out; omega, by omega, HG7, HC7, HO7⟩
      case measure => simp [intOf]; omega
    · have HON := Lib.hid (one_any cb cd L m 24 wr (by omega) ⟨by omega, by omega⟩ HC.out (HR.out.grown HG.out))
      go_wp2_with fail
      refine (HON.out).mono ?_
      rintro e w5 ⟨⟨b, rfl⟩, hc5, hg5⟩
      have HO5 := Lib.hid (own_grown HO.out hg5 hcb)
      have HG5 := Lib.hid (grown_trans HG.out hg5)
      obtain ⟨m5, hm5⟩ : ∃ m5, m + 2 = m5 := ⟨_, rfl⟩
      rw [hm5] at hc5
      have HC5 := Lib.hid hc5
      clear hc5 hg5
      cases b with
      | false =>
        go_wp2_with fail
        go_ret
        exact ⟨⟨_, ps, rfl, LeX.of_own HO5.out, by omega⟩, HC5.out.more (by omega), HG5.out⟩
      | true =>
        go_wp2_with fail
        go_loopw [3, 4] (fun out iv wr => ∃ (m : Nat) (idv : Int) (ps : List Les) (oa : Option Addr) (cp : Nat), iv = .int .i64 idv ∧ out = .slice oa ps.length cp ∧ ps.length ≤ 13 ∧ (m : Int) + 2 * (13 - (ps.length : Int)) ≤ n + 190 ∧ Hid (w.grownBy wr (some cb)) ∧ Hid (CurAt wr cb cd m) ∧ Hid (wr.ownsRow w.heap.size 31 7 (.slice oa ps.length cp) ps.length (flatC lesC ps))) (fun out _ _ => 14 - (match out with | .slice _ q _ => q | _ => 0))
        case atStart => exact ⟨m5, idv, ps, oa, cp, rfl, rfl, by omega, by omega, HG5, HC5, HO5⟩
        case round =>
          clear HG5 HC5 HO5 HG HC HO
          obtain ⟨m, idv, ps, oa, cp, rfl, rfl, hJ13, hm, HG, HC, HO⟩ := hrel
          have HPK := Lib.hid (pick_any cb cd L m 2 wr (by omega) (by omega) (by omega) HC.out (HR.out.grown HG.out))
          go_wp2_with fail
          refine (HPK.out).mono ?_
          rintro e wp ⟨⟨r, rfl, r0, r1⟩, hc2, hg2⟩
          have HG2 := Lib.hid (grown_trans HG.out hg2)
          have HC2 := Lib.hid hc2
          have HO2 := Lib.hid (own_grown HO.out hg2 hcb)
          clear hc2 hg2
          have hw12 : IntKind.i64.wrap (12 + r) = 12 + r := by rw [IntKind.wrap_i64]; omega
          by_cases hlt : (ps.length : Int) < 12 + r
          · obtain ⟨q6, hq6⟩ : ∃ q, (ps.length : Int).tmod 7 = q := ⟨_, rfl⟩
            have hq7 : IntKind.i64.wrap ((ps.length : Int).tmod 7) = q6 := by rw [← hq6, IntKind.wrap_i64, Int.tmod_eq_emod_of_nonneg (by omega)]; omega
            obtain ⟨idw, hidw⟩ : ∃ q, IntKind.i64.wrap (idv + 1) = q := ⟨_, rfl⟩
            go_wp2_with (at_builtin; refine wpList_append_own _ rfl _ _ 24 rfl w.heap.size 31 i0 (.agg #[.int .i64 0, .int .i64 0, .int .i64 0, .int .i64 0, .int .i64 0, .int .i64 0, .int .i64 0]) 7 56 Tryd.underlying24 hi hz0 hz1 hz2 rfl (by decide) _ _ _ rfl (HO2.out.alloc _) ⟨wp.heap.size, 0, none⟩ 1 1 [.int .i64 idw, .int .i64 3, .int .i64 5, .int .i64 4, .int .i64 q6, .int .i64 600, .int .i64 45] rfl rfl ?d1 ?d2 ?d3 ?d4 ?d5 ?_)
            case d1 => intro j u hu; exact seven_new hu
            case d2 => exact lesC_one ⟨idw, 3, 5, 4, q6, 600, 45⟩
            case d3 => unfold maxLen; omega
            case d4 => omega
            case d5 => have := HG2.out.size; simp; omega
            intro vv7 w7 hown7 hgrow7 _
            have HG7 := Lib.hid (grown_freshE (grown_trans HG2.out (grown_any (r := some cb) (grown_alloc wp (.cells #[.int .i64 idw, .int .i64 3, .int .i64 5, .int .i64 4, .int .i64 q6, .int .i64 600, .int .i64 45] 31) none))) hgrow7 (fun q hq e => by have := (HO2.out.lt q e.symm).1; omega))
            have HC7 := Lib.hid ((HC2.out.old (grown_alloc wp (.cells #[.int .i64 idw, .int .i64 3, .int .i64 5, .int .i64 4, .int .i64 q6, .int .i64 600, .int .i64 45] 31) none)).row hgrow7 (by intro e; have := (HO2.out.lt cb e.symm).1; omega))
            have HO7 : Hid (w7.ownsRow w.heap.size 31 7 vv7 (ps ++ [⟨idw, 3, 5, 4, q6, 600, 45⟩] : List Les).length (flatC lesC (ps ++ [⟨idw, 3, 5, 4, q6, 600, 45⟩] : List Les))) := Lib.hid (by rw [List.length_append, List.length_singleton, flatC_app]; exact hown7)
            have HL7 : Hid ((ps ++ [⟨idw, 3, 5, 4, q6, 600, 45⟩] : List Les).length = ps.length + 1) := Lib.hid (by rw [List.length_append, List.length_singleton])
            clear hown7 hgrow7
            generalize (ps ++ [⟨idw, 3, 5, 4, q6, 600, 45⟩] : List Les) = qs at HO7 HL7
            obtain ⟨sa, sc, rfl⟩ := own_form HO7.out
            go_wp2_with fail
            go_roundw
            case rel => exact ⟨m + 2, idw, qs, sa, sc, rfl, rfl, by have := HL7.out; omega, by have := HL7.out; omega, HG7, HC7, HO7⟩
            case measure => have := HL7.out; simp only []; omega
          · go_wp2_with fail
            go_ret
            exact ⟨⟨_, ps, rfl, LeX.of_own HO2.out, by omega⟩, HC2.out.more (by omega), HG2.out⟩
end Go.Proofs.YtblbeoeklkcamaaDoor
