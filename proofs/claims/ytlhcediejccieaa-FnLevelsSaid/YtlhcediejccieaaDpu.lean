/- A pupil, a class, a pupil's number, drawn. -/
import Derived.Test.YtlhcediejccieaaKc
import Derived.Test.YtlhcediejccieaaPupils
import Derived.Test.YtlhcediejccieaaKa
namespace Go.Proofs.Ytlhcediejccieaa
set_option linter.unusedVariables false
open Go.RowKit
set_option linter.unusedSimpArgs false

theorem RowsR.keepP {α : Type} {c : Nat} {cells : α → List Value} {w w' : World} {v : Value} {ps : List α} (h : RowsR c cells w v ps) (hs : w.heap.size ≤ w'.heap.size) (hk : ∀ a m c, v = .slice (some a) m c → a.block < w.heap.size → w'.heap[a.block]? = w.heap[a.block]?) : RowsR c cells w' v ps := by
  obtain ⟨a, cap, rfl, hb, h3⟩ := h
  refine ⟨a, cap, rfl, hb, fun hp => ?_⟩
  obtain ⟨b, off, rfl, hlt, hc⟩ := h3 hp
  refine ⟨b, off, rfl, Nat.lt_of_lt_of_le hlt hs, fun i hi j hj => ?_⟩
  rw [← hc i hi j hj]
  have := hk ⟨b, off, none⟩ _ _ rfl hlt
  simp only [World.cell?]
  rw [this]
/-- A list of pupils whose row lies in blocks from B on. -/
def PuX (B : Nat) (w : World) (v : Value) (ps : List Pu) : Prop := RowsR 5 puC w v ps ∧ (∀ a m c, v = .slice (some a) m c → B ≤ a.block)
theorem PuX.grown {w w' : World} {B r : Nat} {v : Value} {ps : List Pu} (h : PuX B w v ps) (hg : w.grownBy w' (some r)) (hr : r < B) : PuX B w' v ps :=
  ⟨h.1.keepP hg.size (fun a m c e hl => hg.block _ hl (by intro e2; injection e2 with e2; have := h.2 a m c e; omega)), h.2⟩
theorem PuX.alloc {w : World} {B : Nat} {v : Value} {ps : List Pu} (h : PuX B w v ps) (o : Obj) : PuX B (w.alloc o) v ps := ⟨h.1.keepP (by simp) (fun a m c e hl => alloc_old hl), h.2⟩
theorem PuX.mono {w : World} {B B' : Nat} {v : Value} {ps : List Pu} (h : PuX B w v ps) (hB : B' ≤ B) : PuX B' w v ps := ⟨h.1, fun a m c e => Nat.le_trans hB (h.2 a m c e)⟩
theorem PuX.of_own {w : World} {B : Nat} {v : Value} {ps : List Pu} (h1 : w.ownsRow B 38 5 v ps.length (flatC puC ps)) : PuX B w v ps :=
  ⟨RowsR.of_own puC_len h1, fun a m c e => by subst e; exact (h1.lt a.block rfl).1⟩
/-- The reader and the answer's box while a pupil is drawn. -/
def PuAt (w wi : World) (cb : Nat) (cd : Value) (n : Nat) : Prop := w.grownBy wi (some cb) ∧ CurAt wi cb cd n ∧ wi.heap[w.heap.size]? = some (.cells #[.int .i64 0, .string ⟨#[]⟩, .int .i64 0, .int .i64 0, .int .i64 0] 38 (0, 0))
section
variable {w wi w' : World} {cb : Nat} {cd : Value} {n m : Nat}
theorem PuAt.step (h : PuAt w wi cb cd n) (hcb : cb < w.heap.size) (hg : wi.grownBy w' (some cb)) (hc : CurAt w' cb cd m) : PuAt w w' cb cd m :=
  ⟨grown_trans h.1 hg, hc, (hg.block _ (Array.getElem?_eq_some_iff.1 h.2.2).1 (by intro e; injection e with e; omega)).trans h.2.2⟩
theorem PuAt.alloc (h : PuAt w wi cb cd n) (hcb : cb < w.heap.size) (o : Obj) : PuAt w (wi.alloc o) cb cd n :=
  h.step hcb (grown_any (grown_alloc wi o none)) (h.2.1.old (grown_alloc wi o none))
theorem PuAt.code {L : List UInt8} (h : PuAt w wi cb cd n) (hr : CodeR w cb cd L) : CodeR wi cb cd L := hr.grown h.1
theorem PuAt.other (h : PuAt w wi cb cd n) (hcb : cb < w.heap.size) {b : Nat} (hb : w.heap.size < b) (i : Nat) (v : Value) : PuAt w (wi.setCell ⟨b, i, none⟩ v) cb cd n :=
  ⟨grown_set_new h.1 _ _ _ (Nat.le_of_lt hb), h.2.1.set _ _ _ (by omega), (heap_setCell_other wi ⟨b, i, none⟩ _ v (by show w.heap.size ≠ b; omega)).trans h.2.2⟩
theorem PuAt.fin (h : PuAt w wi cb cd n) (hcb : cb < w.heap.size) (v0 v1 v2 v3 v4 : Value) : w.grownBy (((((wi.setCell ⟨w.heap.size, 0, none⟩ v0).setCell ⟨w.heap.size, 1, none⟩ v1).setCell ⟨w.heap.size, 2, none⟩ v2).setCell ⟨w.heap.size, 3, none⟩ v3).setCell ⟨w.heap.size, 4, none⟩ v4) (some cb) ∧ CurAt (((((wi.setCell ⟨w.heap.size, 0, none⟩ v0).setCell ⟨w.heap.size, 1, none⟩ v1).setCell ⟨w.heap.size, 2, none⟩ v2).setCell ⟨w.heap.size, 3, none⟩ v3).setCell ⟨w.heap.size, 4, none⟩ v4) cb cd n :=
  ⟨grown_set_new (grown_set_new (grown_set_new (grown_set_new (grown_set_new h.1 _ _ _ (Nat.le_refl _)) _ _ _ (Nat.le_refl _)) _ _ _ (Nat.le_refl _)) _ _ _ (Nat.le_refl _)) _ _ _ (Nat.le_refl _), ((((h.2.1.set _ _ _ (by omega)).set _ _ _ (by omega)).set _ _ _ (by omega)).set _ _ _ (by omega)).set _ _ _ (by omega)⟩
theorem among_pu {L : List UInt8} {zs : List Int} (h : PuAt w wi cb cd n) (hcb : cb < w.heap.size) (hn : n < 4611686018427387000) (hl : (1 ≤ zs.length ∧ zs.length ≤ 100) ∧ (zs.map (Value.int .i64)).length ≤ maxLen) (hr : CodeR w cb cd L) :
    Calls Try.prog 51 #[.pointer (some ⟨cb, 0, none⟩), .slice (some ⟨wi.heap.size, 0, none⟩) (zs.map (Value.int .i64)).length (zs.map (Value.int .i64)).length] (wi.alloc (.cells (zs.map (Value.int .i64)).toArray 3)) fun e w' => (∃ z, e = .returned (.int .i64 z) ∧ z ∈ zs) ∧ PuAt w w' cb cd (n + 2) ∧ (wi.alloc (.cells (zs.map (Value.int .i64)).toArray 3)).grownBy w' (some cb) :=
  (among_any cb cd L n _ zs _ hn hl.1 (slr_lit wi (zs.map (Value.int .i64)) 3 hl.2) (fun a m c e => by cases e; have := h.1.size; show wi.heap.size ≠ cb; omega) (h.2.1.old (grown_alloc wi _ none)) ((h.code hr).grown (grown_any (grown_alloc wi _ none)))).mono fun e w' ⟨a, b, c⟩ => ⟨a, (h.alloc hcb _).step hcb c b, c⟩
theorem of_pu {L : List UInt8} {zs : List ByteArray} (h : PuAt w wi cb cd n) (hcb : cb < w.heap.size) (hn : n < 4611686018427387000) (hl : (1 ≤ zs.length ∧ zs.length ≤ 100) ∧ (zs.map Value.string).length ≤ maxLen) (hr : CodeR w cb cd L) :
    Calls Try.prog 64 #[.pointer (some ⟨cb, 0, none⟩), .slice (some ⟨wi.heap.size, 0, none⟩) (zs.map Value.string).length (zs.map Value.string).length] (wi.alloc (.cells (zs.map Value.string).toArray 9)) fun e w' => (∃ z, e = .returned (.string z) ∧ z ∈ zs) ∧ PuAt w w' cb cd (n + 2) ∧ (wi.alloc (.cells (zs.map Value.string).toArray 9)).grownBy w' (some cb) :=
  (of_any cb cd L n _ zs _ hn hl.1 (slr_lit wi (zs.map Value.string) 9 hl.2) (fun a m c e => by cases e; have := h.1.size; show wi.heap.size ≠ cb; omega) (h.2.1.old (grown_alloc wi _ none)) ((h.code hr).grown (grown_any (grown_alloc wi _ none)))).mono fun e w' ⟨a, b, c⟩ => ⟨a, (h.alloc hcb _).step hcb c b, c⟩
end
def puNZ : List ByteArray := [⟨#[97, 107, 105]⟩, ⟨#[98, 101, 110]⟩, ⟨#[99, 104, 101, 110]⟩, ⟨#[97, 107, 105]⟩, ⟨#[100, 111, 114, 97]⟩]
def puNX : List ByteArray := [⟨#[]⟩, ⟨#[65]⟩, ⟨#[97, 98, 99, 100, 101, 102, 103, 104, 105, 106, 107]⟩]
theorem puNZ_le : ∀ x ∈ puNZ, x.size ≤ 11 := by decide
theorem puNX_le : ∀ x ∈ puNX, x.size ≤ 11 := by decide
def puBZ : List Int := [1900, 2010, 2012, 2100]
def puCZ : List Int := [0, 0, 1, 1, 2, 9]
def puLZ : List Int := [0, 1, 3, 4, 4, 7, 10]
def puIX : List Int := [0, 999, 1000]
def puBX : List Int := [1899, 2101]
def puCX : List Int := [-1, 10]
def puLX : List Int := [-1, 11]

set_option maxRecDepth 100000 in
set_option maxHeartbeats 6400000 in
theorem pupil_any (cb : Nat) (cd : Value) (L : List UInt8) (n : Nat) (id : Int) (w : World) (hn : n < 4611686018427300000) (hc : CurAt w cb cd n) (hr : CodeR w cb cd L) :
    Calls Try.prog 50 #[.pointer (some ⟨cb, 0, none⟩), .int .i64 id] w fun e w' => (∃ (i : Int) (x : ByteArray) (b c l : Int), e = .returned (.agg #[.int .i64 i, .string x, .int .i64 b, .int .i64 c, .int .i64 l]) ∧ x.size ≤ 11) ∧ CurAt w' cb cd (n + 12) ∧ w.grownBy w' (some cb) := by
  have hcb := hc.lt
  have HR := Lib.hid hr
  obtain ⟨w0, hW0⟩ : ∃ u, w.alloc (.cells #[.int .i64 0, .string ⟨#[]⟩, .int .i64 0, .int .i64 0, .int .i64 0] 38) = u := ⟨_, rfl⟩
  have HS0 : Hid (PuAt w w0 cb cd n) := Lib.hid (by rw [← hW0]; exact ⟨grown_any (grown_alloc _ _ _), hc.old (grown_alloc _ _ _), alloc_at rfl⟩)
  clear hc hr
  have HD0 := Lib.hid (of_pu (zs := puNZ) HS0.out hcb (by omega) (by decide) HR.out)
  go_enter Try.func50, Try.ntmps50
  go_wp2_with fail
  try rw [hW0]
  refine (HD0.out).mono ?_
  rintro e w1 ⟨⟨x, rfl, hx0⟩, hs, -⟩
  have HS1 := Lib.hid hs
  have HX := Lib.hid (puNZ_le x hx0)
  clear hs hx0
  have HD1 := Lib.hid (among_pu (zs := puBZ) HS1.out hcb (by omega) (by decide) HR.out)
  go_wp2_with fail
  refine (HD1.out).mono ?_
  rintro e w2 ⟨⟨b, rfl, hx1⟩, hs, -⟩
  have HS2 := Lib.hid hs
  clear hs hx1
  have HD2 := Lib.hid (among_pu (zs := puCZ) HS2.out hcb (by omega) (by decide) HR.out)
  go_wp2_with fail
  refine (HD2.out).mono ?_
  rintro e w3 ⟨⟨c, rfl, hx2⟩, hs, -⟩
  have HS3 := Lib.hid hs
  clear hs hx2
  have HD3 := Lib.hid (among_pu (zs := puLZ) HS3.out hcb (by omega) (by decide) HR.out)
  go_wp2_with fail
  refine (HD3.out).mono ?_
  rintro e w4 ⟨⟨l, rfl, hx3⟩, hs, -⟩
  have HS4 := Lib.hid hs
  clear hs hx3
  have hsu := HS4.out.alloc hcb (.cells #[.int .i64 id, .string x, .int .i64 b, .int .i64 c, .int .i64 l] 38)
  have hku : (w4.alloc (.cells #[.int .i64 id, .string x, .int .i64 b, .int .i64 c, .int .i64 l] 38)).heap[w4.heap.size]? = some (.cells #[.int .i64 id, .string x, .int .i64 b, .int .i64 c, .int .i64 l] 38 (0, 0)) := alloc_at rfl
  have hpu : w.heap.size < w4.heap.size := lt_of_block HS4.out.2.2
  go_wp2_with fail
  generalize w4.alloc (.cells #[.int .i64 id, .string x, .int .i64 b, .int .i64 c, .int .i64 l] 38) = wb at hsu hku ⊢
  generalize w4.heap.size = P at hku hpu ⊢
  have HSB := Lib.hid hsu
  have HKB := Lib.hid hku
  have HPP := Lib.hid hpu
  clear hsu hku hpu
  refine (pick_any cb cd L (n + 2 + 2 + 2 + 2) 80 wb (by omega) (by omega) (by omega) HSB.out.2.1 (HSB.out.code HR.out)).mono ?_
  rintro e wc ⟨⟨r, rfl, r0, r1⟩, hc, hg⟩
  have HSC := Lib.hid (HSB.out.step hcb hg hc)
  have HKC := Lib.hid ((hg.block _ (Array.getElem?_eq_some_iff.1 HKB.out).1 (by intro e; injection e with e; have := HPP.out; omega)).trans HKB.out)
  clear hc hg
  rcases (by omega : r = 0 ∨ r = 1 ∨ r = 2 ∨ r = 3 ∨ r = 4 ∨ 5 ≤ r) with rfl | rfl | rfl | rfl | rfl | hr5
  · skip
    have HKD := Lib.hid (((grown_alloc wc (.cells (puIX.map (Value.int .i64)).toArray 3) none).block _ (Array.getElem?_eq_some_iff.1 HKC.out).1 (by simp)).trans HKC.out)
    have HD := Lib.hid (among_pu (zs := puIX) HSC.out hcb (by omega) (by decide) HR.out)
    go_wp2_with fail
    refine (HD.out).mono ?_
    rintro e wd ⟨⟨xx, rfl, hxx⟩, hsd, hgd⟩
    have hkd := (hgd.block _ (Array.getElem?_eq_some_iff.1 HKD.out).1 (by intro e; injection e with e; have := HPP.out; omega)).trans HKD.out
    obtain ⟨we, hWe⟩ : ∃ we, wd.setCell ⟨P, 0, none⟩ (.int .i64 xx) = we := ⟨_, rfl⟩
    have HSE : Hid (PuAt w we cb cd _) := Lib.hid (by rw [← hWe]; exact hsd.other hcb HPP.out 0 (.int .i64 xx))
    have HKE : Hid (we.heap[P]? = some (.cells #[.int .i64 xx, .string x, .int .i64 b, .int .i64 c, .int .i64 l] 38 (0, 0))) := Lib.hid (by rw [← hWe]; have h9 := heap_setCell_same wd P 0 _ _ (.int .i64 xx) hkd; simpa using h9)
    obtain ⟨q0, q1, q2, q3, q4, r0', r1', r2', r3', r4'⟩ := cell5 hkd
    clear hsd hgd hkd hxx
    obtain ⟨p0, p1, p2, p3, p4, g0, g1, g2, g3, g4⟩ := cell5 HKE.out
    obtain ⟨z0, z1, z2, z3, z4, y0, y1, y2, y3, y4⟩ := cell5 HSE.out.2.2
    have HF := Lib.hid (HSE.out.fin hcb (.int .i64 xx) (.string x) (.int .i64 b) (.int .i64 c) (.int .i64 l))
    go_wp2_with fail
    exact bodyPost_ret (v := .agg #[.int .i64 xx, .string x, .int .i64 b, .int .i64 c, .int .i64 l]) (by simp [results, Try.results50, go_sem, z0, z1, z2, z3, z4]) rfl ⟨⟨xx, x, b, c, l, rfl, HX.out⟩, HF.out.2.more (by omega), HF.out.1⟩
  · skip
    have HKD := Lib.hid (((grown_alloc wc (.cells (puNX.map Value.string).toArray 9) none).block _ (Array.getElem?_eq_some_iff.1 HKC.out).1 (by simp)).trans HKC.out)
    have HD := Lib.hid (of_pu (zs := puNX) HSC.out hcb (by omega) (by decide) HR.out)
    go_wp2_with fail
    refine (HD.out).mono ?_
    rintro e wd ⟨⟨xx, rfl, hxx⟩, hsd, hgd⟩
    have HXX := Lib.hid (puNX_le xx hxx)
    have hkd := (hgd.block _ (Array.getElem?_eq_some_iff.1 HKD.out).1 (by intro e; injection e with e; have := HPP.out; omega)).trans HKD.out
    obtain ⟨we, hWe⟩ : ∃ we, wd.setCell ⟨P, 1, none⟩ (.string xx) = we := ⟨_, rfl⟩
    have HSE : Hid (PuAt w we cb cd _) := Lib.hid (by rw [← hWe]; exact hsd.other hcb HPP.out 1 (.string xx))
    have HKE : Hid (we.heap[P]? = some (.cells #[.int .i64 id, .string xx, .int .i64 b, .int .i64 c, .int .i64 l] 38 (0, 0))) := Lib.hid (by rw [← hWe]; have h9 := heap_setCell_same wd P 1 _ _ (.string xx) hkd; simpa using h9)
    obtain ⟨q0, q1, q2, q3, q4, r0', r1', r2', r3', r4'⟩ := cell5 hkd
    clear hsd hgd hkd hxx
    obtain ⟨p0, p1, p2, p3, p4, g0, g1, g2, g3, g4⟩ := cell5 HKE.out
    obtain ⟨z0, z1, z2, z3, z4, y0, y1, y2, y3, y4⟩ := cell5 HSE.out.2.2
    have HF := Lib.hid (HSE.out.fin hcb (.int .i64 id) (.string xx) (.int .i64 b) (.int .i64 c) (.int .i64 l))
    go_wp2_with fail
    exact bodyPost_ret (v := .agg #[.int .i64 id, .string xx, .int .i64 b, .int .i64 c, .int .i64 l]) (by simp [results, Try.results50, go_sem, z0, z1, z2, z3, z4]) rfl ⟨⟨id, xx, b, c, l, rfl, HXX.out⟩, HF.out.2.more (by omega), HF.out.1⟩
  · skip
    have HKD := Lib.hid (((grown_alloc wc (.cells (puBX.map (Value.int .i64)).toArray 3) none).block _ (Array.getElem?_eq_some_iff.1 HKC.out).1 (by simp)).trans HKC.out)
    have HD := Lib.hid (among_pu (zs := puBX) HSC.out hcb (by omega) (by decide) HR.out)
    go_wp2_with fail
    refine (HD.out).mono ?_
    rintro e wd ⟨⟨xx, rfl, hxx⟩, hsd, hgd⟩
    have hkd := (hgd.block _ (Array.getElem?_eq_some_iff.1 HKD.out).1 (by intro e; injection e with e; have := HPP.out; omega)).trans HKD.out
    obtain ⟨we, hWe⟩ : ∃ we, wd.setCell ⟨P, 2, none⟩ (.int .i64 xx) = we := ⟨_, rfl⟩
    have HSE : Hid (PuAt w we cb cd _) := Lib.hid (by rw [← hWe]; exact hsd.other hcb HPP.out 2 (.int .i64 xx))
    have HKE : Hid (we.heap[P]? = some (.cells #[.int .i64 id, .string x, .int .i64 xx, .int .i64 c, .int .i64 l] 38 (0, 0))) := Lib.hid (by rw [← hWe]; have h9 := heap_setCell_same wd P 2 _ _ (.int .i64 xx) hkd; simpa using h9)
    obtain ⟨q0, q1, q2, q3, q4, r0', r1', r2', r3', r4'⟩ := cell5 hkd
    clear hsd hgd hkd hxx
    obtain ⟨p0, p1, p2, p3, p4, g0, g1, g2, g3, g4⟩ := cell5 HKE.out
    obtain ⟨z0, z1, z2, z3, z4, y0, y1, y2, y3, y4⟩ := cell5 HSE.out.2.2
    have HF := Lib.hid (HSE.out.fin hcb (.int .i64 id) (.string x) (.int .i64 xx) (.int .i64 c) (.int .i64 l))
    go_wp2_with fail
    exact bodyPost_ret (v := .agg #[.int .i64 id, .string x, .int .i64 xx, .int .i64 c, .int .i64 l]) (by simp [results, Try.results50, go_sem, z0, z1, z2, z3, z4]) rfl ⟨⟨id, x, xx, c, l, rfl, HX.out⟩, HF.out.2.more (by omega), HF.out.1⟩
  · skip
    have HKD := Lib.hid (((grown_alloc wc (.cells (puCX.map (Value.int .i64)).toArray 3) none).block _ (Array.getElem?_eq_some_iff.1 HKC.out).1 (by simp)).trans HKC.out)
    have HD := Lib.hid (among_pu (zs := puCX) HSC.out hcb (by omega) (by decide) HR.out)
    go_wp2_with fail
    refine (HD.out).mono ?_
    rintro e wd ⟨⟨xx, rfl, hxx⟩, hsd, hgd⟩
    have hkd := (hgd.block _ (Array.getElem?_eq_some_iff.1 HKD.out).1 (by intro e; injection e with e; have := HPP.out; omega)).trans HKD.out
    obtain ⟨we, hWe⟩ : ∃ we, wd.setCell ⟨P, 3, none⟩ (.int .i64 xx) = we := ⟨_, rfl⟩
    have HSE : Hid (PuAt w we cb cd _) := Lib.hid (by rw [← hWe]; exact hsd.other hcb HPP.out 3 (.int .i64 xx))
    have HKE : Hid (we.heap[P]? = some (.cells #[.int .i64 id, .string x, .int .i64 b, .int .i64 xx, .int .i64 l] 38 (0, 0))) := Lib.hid (by rw [← hWe]; have h9 := heap_setCell_same wd P 3 _ _ (.int .i64 xx) hkd; simpa using h9)
    obtain ⟨q0, q1, q2, q3, q4, r0', r1', r2', r3', r4'⟩ := cell5 hkd
    clear hsd hgd hkd hxx
    obtain ⟨p0, p1, p2, p3, p4, g0, g1, g2, g3, g4⟩ := cell5 HKE.out
    obtain ⟨z0, z1, z2, z3, z4, y0, y1, y2, y3, y4⟩ := cell5 HSE.out.2.2
    have HF := Lib.hid (HSE.out.fin hcb (.int .i64 id) (.string x) (.int .i64 b) (.int .i64 xx) (.int .i64 l))
    go_wp2_with fail
    exact bodyPost_ret (v := .agg #[.int .i64 id, .string x, .int .i64 b, .int .i64 xx, .int .i64 l]) (by simp [results, Try.results50, go_sem, z0, z1, z2, z3, z4]) rfl ⟨⟨id, x, b, xx, l, rfl, HX.out⟩, HF.out.2.more (by omega), HF.out.1⟩
  · skip
    have HKD := Lib.hid (((grown_alloc wc (.cells (puLX.map (Value.int .i64)).toArray 3) none).block _ (Array.getElem?_eq_some_iff.1 HKC.out).1 (by simp)).trans HKC.out)
    have HD := Lib.hid (among_pu (zs := puLX) HSC.out hcb (by omega) (by decide) HR.out)
    go_wp2_with fail
    refine (HD.out).mono ?_
    rintro e wd ⟨⟨xx, rfl, hxx⟩, hsd, hgd⟩
    have hkd := (hgd.block _ (Array.getElem?_eq_some_iff.1 HKD.out).1 (by intro e; injection e with e; have := HPP.out; omega)).trans HKD.out
    obtain ⟨we, hWe⟩ : ∃ we, wd.setCell ⟨P, 4, none⟩ (.int .i64 xx) = we := ⟨_, rfl⟩
    have HSE : Hid (PuAt w we cb cd _) := Lib.hid (by rw [← hWe]; exact hsd.other hcb HPP.out 4 (.int .i64 xx))
    have HKE : Hid (we.heap[P]? = some (.cells #[.int .i64 id, .string x, .int .i64 b, .int .i64 c, .int .i64 xx] 38 (0, 0))) := Lib.hid (by rw [← hWe]; have h9 := heap_setCell_same wd P 4 _ _ (.int .i64 xx) hkd; simpa using h9)
    obtain ⟨q0, q1, q2, q3, q4, r0', r1', r2', r3', r4'⟩ := cell5 hkd
    clear hsd hgd hkd hxx
    obtain ⟨p0, p1, p2, p3, p4, g0, g1, g2, g3, g4⟩ := cell5 HKE.out
    obtain ⟨z0, z1, z2, z3, z4, y0, y1, y2, y3, y4⟩ := cell5 HSE.out.2.2
    have HF := Lib.hid (HSE.out.fin hcb (.int .i64 id) (.string x) (.int .i64 b) (.int .i64 c) (.int .i64 xx))
    go_wp2_with fail
    exact bodyPost_ret (v := .agg #[.int .i64 id, .string x, .int .i64 b, .int .i64 c, .int .i64 xx]) (by simp [results, Try.results50, go_sem, z0, z1, z2, z3, z4]) rfl ⟨⟨id, x, b, c, xx, rfl, HX.out⟩, HF.out.2.more (by omega), HF.out.1⟩
  · have b0 : (r == 0) = false := beq_eq_false_iff_ne.2 (by omega)
    have b1 : (r == 1) = false := beq_eq_false_iff_ne.2 (by omega)
    have b2 : (r == 2) = false := beq_eq_false_iff_ne.2 (by omega)
    have b3 : (r == 3) = false := beq_eq_false_iff_ne.2 (by omega)
    have b4 : (r == 4) = false := beq_eq_false_iff_ne.2 (by omega)
    obtain ⟨p0, p1, p2, p3, p4, g0, g1, g2, g3, g4⟩ := cell5 HKC.out
    obtain ⟨z0, z1, z2, z3, z4, y0, y1, y2, y3, y4⟩ := cell5 HSC.out.2.2
    have HF := Lib.hid (HSC.out.fin hcb (.int .i64 id) (.string x) (.int .i64 b) (.int .i64 c) (.int .i64 l))
    go_wp2_with fail
    exact bodyPost_ret (v := .agg #[.int .i64 id, .string x, .int .i64 b, .int .i64 c, .int .i64 l]) (by simp [results, Try.results50, go_sem, z0, z1, z2, z3, z4]) rfl ⟨⟨id, x, b, c, l, rfl, HX.out⟩, HF.out.2.more (by omega), HF.out.1⟩

theorem slr_headP {w : World} {B : Nat} {T : TypeId} {xs : List Value} (hb : w.heap[B]? = some (.cells xs.toArray T (0, 0))) (n : Nat) (hn : n ≤ xs.length) (hl : xs.length ≤ maxLen) : SlR w (.slice (some ⟨B, 0, none⟩) n xs.length) (xs.take n) := by
  have e : (xs.take n).length = n := by rw [List.length_take]; omega
  refine ⟨_, xs.length, by rw [e], ⟨by omega, by omega⟩, fun _ => ⟨B, 0, rfl, lt_of_block hb, fun i hi => ?_⟩⟩
  have h2 : i < xs.length := by omega
  rw [Nat.zero_add, cell_of_row w B i _ _ _ hb]
  simp [List.getElem_take, h2]
set_option maxRecDepth 100000 in
set_option maxHeartbeats 1600000 in
theorem class3_any (cb : Nat) (cd : Value) (L : List UInt8) (n : Nat) (w : World) (hn : n < 4611686018427300000) (hc : CurAt w cb cd n) (hr : CodeR w cb cd L) :
    Calls Try.prog 48 #[.pointer (some ⟨cb, 0, none⟩)] w fun e w' => (∃ z : Int, e = .returned (.int .i64 z) ∧ -1 ≤ z ∧ z ≤ 10) ∧ CurAt w' cb cd (n + 4) ∧ w.grownBy w' (some cb) := by
  have hlt := hc.lt
  have hal := grown_alloc w (.cells (([0, 1, 1, 2, 3, 9, -1, 10] : List Int).map (Value.int .i64)).toArray 3) none
  have HR1 := Lib.hid hr
  have HG2 := Lib.hid (grown_any (r := some cb) hal)
  have HKL : Hid ((w.alloc (.cells (([0, 1, 1, 2, 3, 9, -1, 10] : List Int).map (Value.int .i64)).toArray 3)).heap[w.heap.size]? = some (.cells (([0, 1, 1, 2, 3, 9, -1, 10] : List Int).map (Value.int .i64)).toArray 3 (0, 0))) := Lib.hid (alloc_at rfl)
  have HPK := Lib.hid (pick_any cb cd L n 24 (w.alloc (.cells (([0, 1, 1, 2, 3, 9, -1, 10] : List Int).map (Value.int .i64)).toArray 3)) (by omega) (by omega) (by omega) (hc.old hal) (hr.grown HG2.out))
  clear hc hr hal
  go_enter Try.func48, Try.ntmps48
  go_wp2_with fail
  refine (HPK.out).mono ?_
  rintro e w2 ⟨⟨r, rfl, r0, r1⟩, hc2, hg2⟩
  have HC2 := Lib.hid hc2
  have HG3 := Lib.hid (grown_trans HG2.out hg2)
  have HK2 := Lib.hid ((hg2.block _ (Array.getElem?_eq_some_iff.1 HKL.out).1 (by intro e; injection e with e; omega)).trans HKL.out)
  clear hc2 hg2
  obtain ⟨m, hm, hm5⟩ : ∃ m : Nat, r.tdiv 11 = (m : Int) ∧ m ≤ 2 := by
    rw [Int.tdiv_eq_ediv_of_nonneg r0]
    exact ⟨(r / 11).toNat, by omega, by omega⟩
  have hq : IntKind.i64.wrap (6 + r.tdiv 11) = ((m + 6 : Nat) : Int) := by rw [hm, IntKind.wrap_i64]; omega
  have hq1 : IntKind.i64.wrap (r.tdiv 11) = r.tdiv 11 := by rw [hm, IntKind.wrap_i64]; omega
  go_wp2_with fail
  have hs7 := slr_headP HK2.out (6 + m) (by show 6 + m ≤ 8; omega) (by show 8 ≤ maxLen; unfold maxLen; omega)
  rw [← List.map_take] at hs7
  refine (among_any cb cd L (n + 2) _ (([0, 1, 1, 2, 3, 9, -1, 10] : List Int).take (6 + m)) w2 (by omega) (by rw [List.length_take]; show 1 ≤ min (6 + m) 8 ∧ min (6 + m) 8 ≤ 100; omega) hs7 (fun a m c e => by cases e; show w.heap.size ≠ cb; omega) HC2.out (HR1.out.grown HG3.out)).mono ?_
  rintro e w3 ⟨⟨z, rfl, hz⟩, hc3, hg3⟩
  have HZ : Hid (-1 ≤ z ∧ z ≤ 10) := Lib.hid (by have := List.mem_of_mem_take hz; simp only [List.mem_cons, List.not_mem_nil, or_false] at this; omega)
  have HC3 := Lib.hid hc3
  have HG4 := Lib.hid (grown_trans HG3.out hg3)
  clear hs7 hz hc3 hg3
  go_wp2_with fail
  go_ret
  exact ⟨⟨z, rfl, HZ.out⟩, HC3.out, HG4.out⟩
def piZ : List Int := [0, 1, 500]
set_option maxRecDepth 100000 in
set_option maxHeartbeats 1600000 in
theorem pupilId_any (cb : Nat) (cd : Value) (L : List UInt8) (n B : Nat) (v : Value) (ps : List Pu) (w : World) (hn : n < 4611686018427300000) (hp : PuX B w v ps) (hB : cb < B) (hl : ps.length ≤ 13) (hc : CurAt w cb cd n) (hr : CodeR w cb cd L) :
    Calls Try.prog 47 #[.pointer (some ⟨cb, 0, none⟩), v] w fun e w' => (∃ z : Int, e = .returned (.int .i64 z)) ∧ CurAt w' cb cd (n + 4) ∧ w.grownBy w' (some cb) := by
  have hlt := hc.lt
  have HR := Lib.hid hr
  have HP := Lib.hid hp
  obtain ⟨a, cp, rfl⟩ := hp.1.form
  have HDA : Hid (∀ (w1 : World) (m : Nat), m ≤ n + 2 → w.grownBy w1 (some cb) → CurAt w1 cb cd m → Calls Try.prog 51 #[.pointer (some ⟨cb, 0, none⟩), .slice (some ⟨w1.heap.size, 0, none⟩) 3 3] (w1.alloc (.cells (piZ.map (Value.int .i64)).toArray 3)) fun e w' => (∃ z, e = .returned (.int .i64 z) ∧ z ∈ piZ) ∧ CurAt w' cb cd (m + 2) ∧ (w1.alloc (.cells (piZ.map (Value.int .i64)).toArray 3)).grownBy w' (some cb)) := Lib.hid (fun w1 m hm hg hc => among_any cb cd L m _ piZ _ (by omega) (by decide) (slr_lit w1 (piZ.map (Value.int .i64)) 3 (by decide)) (fun a m c e => by cases e; have := hg.size; show w1.heap.size ≠ cb; omega) (hc.old (grown_alloc w1 _ none)) (HR.out.grown (grown_trans hg (grown_any (grown_alloc w1 _ none)))))
  have HC := Lib.hid hc
  clear hp hc hr
  by_cases h0 : ps.length = 0
  · have z0 : (ps.length : Int) = 0 := by omega
    have z1 : ((ps.length : Int) == 0) = true := by simp [h0]
    have hd := Lib.hid (HDA.out w n (by omega) (World.grownBy.refl w _) HC.out)
    go_enter Try.func47, Try.ntmps47
    go_wp2_with fail
    refine (hd.out).mono ?_
    rintro e w3 ⟨⟨z, rfl, -⟩, hc3, hg3⟩
    have HC3 := Lib.hid hc3
    have HG4 := Lib.hid (grown_trans (grown_any (r := some cb) (grown_alloc w (.cells (piZ.map (Value.int .i64)).toArray 3) none)) hg3)
    clear hc3 hg3
    go_wp2_with fail
    go_ret
    exact ⟨⟨z, rfl⟩, HC3.out.more (by omega), HG4.out⟩
  · have z1 : ((ps.length : Int) == 0) = false := beq_eq_false_iff_ne.2 (by omega)
    go_enter Try.func47, Try.ntmps47
    go_wp2_with fail
    refine (one_any cb cd L n 10 w (by omega) ⟨by omega, by omega⟩ HC.out HR.out).mono ?_
    rintro e w2 ⟨⟨b, rfl⟩, hc2, hg2⟩
    have HC2 := Lib.hid hc2
    have HG2 := Lib.hid hg2
    clear hc2 hg2
    cases b with
    | true =>
      have hd := Lib.hid (HDA.out w2 (n + 2) (by omega) HG2.out HC2.out)
      go_wp2_with fail
      refine (hd.out).mono ?_
      rintro e w3 ⟨⟨z, rfl, -⟩, hc3, hg3⟩
      have HC3 := Lib.hid hc3
      have HG4 := Lib.hid (grown_trans (grown_trans HG2.out (grown_any (r := some cb) (grown_alloc w2 (.cells (piZ.map (Value.int .i64)).toArray 3) none))) hg3)
      clear hc3 hg3
      go_wp2_with fail
      go_ret
      exact ⟨⟨z, rfl⟩, HC3.out.more (by omega), HG4.out⟩
    | false =>
      go_wp2_with fail
      refine (pick_any cb cd L (n + 2) (ps.length : Int) w2 (by omega) (by omega) (by omega) HC2.out (HR.out.grown HG2.out)).mono ?_
      rintro e w3 ⟨⟨z, rfl, z2, z3⟩, hc3, hg3⟩
      obtain ⟨k, rfl⟩ : ∃ k : Nat, z = (k : Int) := ⟨z.toNat, by omega⟩
      have hk : k < ps.length := by omega
      obtain ⟨b1, o1, rfl, l1, k1⟩ := ((HP.out.grown HG2.out hB).grown hg3 hB).1.at _ (Below.refl _ _) k hk
      have p0 := k1 0 (by omega)
      have HC3 := Lib.hid hc3
      have HG4 := Lib.hid (grown_trans HG2.out hg3)
      clear hc3 hg3 k1
      simp only [puC, List.getElem?_cons_zero, Nat.add_zero] at p0
      generalize ps[k].id = idk at p0
      go_wp2_with fail
      go_ret
      exact ⟨⟨idk, rfl⟩, HC3.out.more (by omega), HG4.out⟩
end Go.Proofs.Ytlhcediejccieaa
