/- A system, drawn. -/
import Derived.Test.YtghdmiimanhjgaaDoorUn0
import Derived.Test.YtghdmiimanhjgaaDoorKa
import Derived.Deep.RegionHeld3
import Derived.Deep.AppendLies
import Derived.Deep.Cut
import Derived.OwnWalk
namespace Go.Proofs.YtghdmiimanhjgaaDoor
set_option linter.unusedVariables false
open Go.RowKit
set_option linter.unusedSimpArgs false

def nmL : List ByteArray := [⟨#[99, 117, 112]⟩, ⟨#[112, 111, 117, 110, 100]⟩, ⟨#[115, 116, 111, 110, 101]⟩, ⟨#[98, 97, 108, 101]⟩]
def ofL7 : List ByteArray := [⟨#[]⟩, ⟨#[65]⟩, ⟨#[103, 114, 97, 105, 110]⟩, ⟨#[97, 98, 99, 100, 101, 102, 103, 104, 105, 106, 107]⟩]
theorem nmL_le : ∀ x ∈ nmL, x.size ≤ 11 := by decide
theorem ofL7_le : ∀ x ∈ ofL7, x.size ≤ 11 := by decide
def szZ : List Int := [2, 12, 16, 100]
theorem two_new {w : World} {x y : Value} {T : TypeId} {j : Nat} {u : Value} (hu : [x, y][j]? = some u) : (w.alloc (.cells #[x, y] T)).cell? ((⟨w.heap.size, 0, none⟩ : Addr).add j) = some u := by
  have h2 := cell2 (alloc_at (w := w) (o := .cells #[x, y] T) rfl)
  match j, hu with
  | 0, hu => simp at hu; subst hu; exact h2.1
  | 1, hu => simp at hu; subst hu; exact h2.2.1
  | k + 2, hu => simp at hu
theorem own_neU {w : World} {B g c n U : Nat} {xs : List Value} {x y : Value} {T : TypeId} (h : w.ownsRow B 40 2 (.slice (some ⟨g, 0, none⟩) n c) n xs) (hn : 2 ≤ n) (hb : w.heap[U]? = some (.cells #[x, y] T (0, 0))) : g ≠ U := by
  rcases h.2 with ⟨h1, _⟩ | ⟨g1, c1, cur, h1, h2, h3, h4, h5, h6, h7⟩
  · cases h1
  · cases h1
    intro e
    subst e
    rw [h3] at hb
    injection hb with hb
    injection hb with e1 e2 e3
    subst e1
    simp at h6
    omega
def siZ : List Int := [0, 1, 101]
def lenV : Value → Nat
  | .slice _ k _ => k
  | _ => 0
theorem own_zero {w : World} {B g c n size : Nat} {e : TypeId} {xs : List Value} (h : w.ownsRow B e size (.slice (some ⟨g, 0, none⟩) n c) n xs) : w.ownsRow B e size (.slice (some ⟨g, 0, none⟩) 0 c) ([] : List Un).length (flatC unC []) := by
  rcases h.2 with ⟨h1, _⟩ | ⟨g1, c1, cur, h1, h2, h3, h4, h5, h6, h7⟩
  · cases h1
  · cases h1
    exact ⟨by simp [flatC], .inr ⟨g, c, cur, rfl, h2, h3, Nat.zero_le _, h5, h6, by simp [flatC]⟩⟩
theorem UnAt.cells {w wi : World} {cb : Nat} {cd : Value} {n g cap : Nat} {us : List Un} (h : UnAt w wi cb cd n g cap us) (k : Nat) (hk : k < us.length) : wi.cell? ⟨g, k * 2, none⟩ = some (.string us[k].nm) ∧ wi.cell? ⟨g, k * 2 + 1, none⟩ = some (.int .i64 us[k].sz) := by
  have h1 := flatC_at unC_len us k hk 0 (by omega)
  have h2 := flatC_at unC_len us k hk 1 (by omega)
  exact ⟨(h.2.2.cellAt (k * 2) (by omega)).trans h1, (h.2.2.cellAt (k * 2 + 1) (by omega)).trans h2⟩
theorem nm_cell {wi : World} {nb k : Nat} (h : wi.heap[nb]? = some (.cells (nmL.map Value.string).toArray 9 (0, 0))) (hk : k < nmL.length) : wi.cell? ⟨nb, k, none⟩ = some (.string nmL[k]) := by
  simp only [World.cell?, h]
  simp [List.getElem?_eq_getElem hk]
theorem set_names {us : List Un} {k : Nat} {p : Un} (h : ∀ u ∈ us, u.nm.size ≤ 11) (hp : p.nm.size ≤ 11) : ∀ u ∈ us.set k p, u.nm.size ≤ 11 := by
  intro u hu
  rcases List.mem_or_eq_of_mem_set hu with h1 | h1
  · exact h u h1
  · rw [h1]; exact hp
theorem app_names {us : List Un} {p : Un} (h : ∀ u ∈ us, u.nm.size ≤ 11) (hp : p.nm.size ≤ 11) : ∀ u ∈ us ++ [p], u.nm.size ≤ 11 := by
  intro u hu
  rcases List.mem_append.1 hu with h1 | h1
  · exact h u h1
  · rw [List.mem_singleton.1 h1]; exact hp
theorem Tryd.infoUn9 : (Tryd.prog.info? 40).map (fun i => (i.zero, i.size, i.bytes)) = some (some (.agg #[.string ⟨#[]⟩, .int .i64 0]), 2, 24) := by kernel_rfl
theorem own_ne {w : World} {B g c n nb : Nat} {xs : List Value} {cs : Array Value} (h : w.ownsRow B 40 2 (.slice (some ⟨g, 0, none⟩) n c) n xs) (hb : w.heap[nb]? = some (.cells cs 9 (0, 0))) : g ≠ nb := by
  obtain ⟨cur, hc⟩ := own_cells h
  intro e
  subst e
  rw [hc] at hb
  injection hb with hb
  injection hb with e1 e2 e3
  revert e2
  decide

set_option maxRecDepth 100000 in
set_option maxHeartbeats 6400000 in
theorem system7_any (cb : Nat) (cd : Value) (L : List UInt8) (n : Nat) (w : World) (hn : n < 4611686018427300000) (hc : CurAt w cb cd n) (hr : CodeR w cb cd L) :
    Calls Tryd.prog 23 #[.pointer (some ⟨cb, 0, none⟩)] w fun e w' => (∃ (v : Value) (us : List Un), e = .returned v ∧ w'.ownsRow w.heap.size 40 2 v us.length (flatC unC us) ∧ us.length ≤ 7 ∧ ∀ u ∈ us, u.nm.size ≤ 11) ∧ CurAt w' cb cd (n + 200) ∧ w.grownBy w' (some cb) := by
  obtain ⟨i0, hi, hz0, hz1, hz2⟩ := info_parts Tryd.infoUn9
  have hcb := hc.lt
  have HR := Lib.hid hr
  obtain ⟨W1, hW1⟩ : ∃ W1, w.alloc (.cells #[.string ⟨#[103, 114, 97, 105, 110]⟩, .int .i64 1] 40) = W1 := ⟨_, rfl⟩
  have hu1 : UnAt w W1 cb cd n w.heap.size 1 [⟨⟨#[103, 114, 97, 105, 110]⟩, 1⟩] := by
    rw [← hW1]
    exact ⟨grown_any (grown_alloc _ _ _), hc.old (grown_alloc _ _ _), rfl, .inr ⟨w.heap.size, 1, _, rfl, Nat.le_refl _, alloc_at rfl, Nat.le_refl _, by decide, rfl, rfl⟩⟩
  obtain ⟨W2, hW2⟩ : ∃ W2, W1.alloc (.cells (nmL.map Value.string).toArray 9) = W2 := ⟨_, rfl⟩
  have HU2 : Hid (UnAt w W2 cb cd n w.heap.size 1 [⟨⟨#[103, 114, 97, 105, 110]⟩, 1⟩]) := Lib.hid (by rw [← hW2]; exact hu1.alloc hcb _)
  have hs1 : W1.heap.size = w.heap.size + 1 := by rw [← hW1]; simp
  have HN2 : Hid (W2.heap[W1.heap.size]? = some (.cells (nmL.map Value.string).toArray 9 (0, 0))) := Lib.hid (by rw [← hW2]; exact alloc_at rfl)
  have hcb1 : cb < W1.heap.size := by omega
  have hW2' : W1.alloc (.cells #[.string ⟨#[99, 117, 112]⟩, .string ⟨#[112, 111, 117, 110, 100]⟩, .string ⟨#[115, 116, 111, 110, 101]⟩, .string ⟨#[98, 97, 108, 101]⟩] 9) = W2 := hW2
  clear hu1 hs1 hc hr hW2
  go_enter Tryd.func23, Tryd.ntmps23
  go_wp2_with fail
  try rw [hW1]
  try rw [hW2']
  go_loopw [3, 5] (fun out i wr => ∃ (k m g c : Nat) (us : List Un), k ≤ 4 ∧ i = .int .i64 k ∧ out = .slice (some ⟨g, 0, none⟩) us.length c ∧ us.length = k + 1 ∧ (∀ u ∈ us, u.nm.size ≤ 11) ∧ m ≤ n + 4 * k ∧ UnAt w wr cb cd m g c us ∧ wr.heap[W1.heap.size]? = some (.cells (nmL.map Value.string).toArray 9 (0, 0))) (fun _ i _ => 4 - (intOf i).toNat)
  case atStart => exact ⟨0, n, w.heap.size, 1, _, Nat.zero_le _, rfl, rfl, rfl, (fun u hu => by rw [List.mem_singleton.1 hu]; decide), by omega, HU2.out, HN2.out⟩
  case round =>
    obtain ⟨k, m, g, c, us, hk, rfl, rfl, hul, hnm, hm, hu, hnb⟩ := hrel
    have HU := Lib.hid hu
    have HNB := Lib.hid hnb
    have HNM := Lib.hid hnm
    have HUL := Lib.hid hul
    clear hu hnb hnm hul
    by_cases hlt : k < 4
    · have z0 : (k : Int) < 4 := by omega
      have z1 : (0 : Int) ≤ (k : Int) := by omega
      go_wp2_with fail
      refine (one_un 3 HU.out hcb (by omega) ⟨by omega, by omega⟩ HR.out).mono ?_
      rintro e w3 ⟨⟨x, rfl⟩, hu3, hg3⟩
      have HU3 := Lib.hid hu3
      have HNB3 := Lib.hid ((hg3.block _ (Array.getElem?_eq_some_iff.1 HNB.out).1 (by intro e; injection e with e; omega)).trans HNB.out)
      clear hu3 hg3
      cases x with
      | true =>
        have hl1 : 1 ≤ us.length := by have := HUL.out; omega
        have hl5 : us.length ≤ 5 := by have := HUL.out; omega
        go_wp2_with fail
        refine (pick_un us.length HU3.out hcb (by omega) (by omega) (by omega) HR.out).mono ?_
        rintro e wa ⟨⟨ki, rfl, k0, k1⟩, hua, hga⟩
        obtain ⟨kk, rfl⟩ : ∃ kk : Nat, ki = (kk : Int) := ⟨ki.toNat, by omega⟩
        have HUA := Lib.hid hua
        have hkk : kk < us.length := by omega
        obtain ⟨p0, p1⟩ := hua.cells kk hkk
        have hnk := HNM.out us[kk] (List.getElem_mem hkk)
        generalize us[kk].nm = x9 at p0 hnk
        generalize us[kk].sz = y9 at p1
        have HX9 := Lib.hid hnk
        clear hua hga hnk
        go_wp2_with fail
        have huu := HUA.out.alloc hcb (.cells #[.string x9, .int .i64 y9] 40)
        have hku : (wa.alloc (.cells #[.string x9, .int .i64 y9] 40)).heap[wa.heap.size]? = some (.cells #[.string x9, .int .i64 y9] 40 (0, 0)) := alloc_at rfl
        have hgu : w.heap.size ≤ wa.heap.size ∧ g ≠ wa.heap.size ∧ cb < wa.heap.size := by have := HUA.out.lt; omega
        generalize wa.alloc (.cells #[.string x9, .int .i64 y9] 40) = wb at huu hku ⊢
        generalize wa.heap.size = U at hku hgu ⊢
        have HUB := Lib.hid huu
        have HKB := Lib.hid hku
        have HUU := Lib.hid hgu
        clear p0 p1 huu hku hgu
        refine (pick_un 60 HUB.out hcb (by omega) (by omega) (by omega) HR.out).mono ?_
        rintro e wc ⟨⟨r, rfl, r0, r1⟩, huc, hgc⟩
        have HUC := Lib.hid huc
        have HKC := Lib.hid ((hgc.block _ (Array.getElem?_eq_some_iff.1 HKB.out).1 (by intro e; injection e with e; have := HUU.out; omega)).trans HKB.out)
        clear huc hgc
        rcases (by omega : r = 0 ∨ r = 1 ∨ r = 2 ∨ r = 3 ∨ 4 ≤ r) with rfl | rfl | rfl | rfl | hr4
        · skip
          have HNE : Hid (wc.heap.size ≠ cb) := Lib.hid (by have := HUC.out.lt; omega)
          have HDR := Lib.hid (of_un (ss := ofL7) (HUC.out.alloc hcb (.cells (ofL7.map Value.string).toArray 9)) hcb (by omega) (by decide) (slr_lit wc (ofL7.map Value.string) 9 (by decide)) (fun a m c e => by cases e; exact HNE.out) HR.out)
          have HKD := Lib.hid (((grown_alloc wc (.cells (ofL7.map Value.string).toArray 9) none).block _ (Array.getElem?_eq_some_iff.1 HKC.out).1 (by simp)).trans HKC.out)
          go_wp2_with fail
          refine (HDR.out).mono ?_
          rintro e wd ⟨⟨xx, rfl, hxx⟩, hud, hgd⟩
          have HXX := Lib.hid (ofL7_le _ hxx)
          have hkd := (hgd.block _ (Array.getElem?_eq_some_iff.1 HKD.out).1 (by intro e; injection e with e; have := HUU.out; omega)).trans HKD.out
          obtain ⟨we, hWe⟩ : ∃ we, wd.setCell ⟨U, 0, none⟩ (.string xx) = we := ⟨_, rfl⟩
          have HUE : Hid (UnAt w we cb cd _ g c us) := Lib.hid (by rw [← hWe]; exact hud.other hcb HUU.out.1 HUU.out.2.1 0 _)
          have HKE : Hid (we.heap[U]? = some (.cells #[.string xx, .int .i64 y9] 40 (0, 0))) := Lib.hid (by rw [← hWe]; have h9 := heap_setCell_same wd U 0 _ _ (.string xx) hkd; simpa using h9)
          obtain ⟨z0, z1, y0, y1⟩ := cell2 hkd
          clear hud hgd hkd hxx

          obtain ⟨u0, u1, v0, v1⟩ := cell2 HKE.out
          obtain ⟨e0, d0⟩ : ∃ e, we.cell? ⟨g, kk * 2, none⟩ = some e := ⟨_, (HUE.out.2.2.cellAt (kk * 2) (by omega)).trans (List.getElem?_eq_getElem (by rw [flatC_len unC_len]; omega))⟩
          obtain ⟨e1, d1⟩ : ∃ e, we.cell? ⟨g, kk * 2 + 1, none⟩ = some e := ⟨_, (HUE.out.2.2.cellAt (kk * 2 + 1) (by omega)).trans (List.getElem?_eq_getElem (by rw [flatC_len unC_len]; omega))⟩
          have f0 : we.frozen? ⟨g, kk * 2, none⟩ = false := HUE.out.2.2.frozenAt _
          have f1 : we.frozen? ⟨g, kk * 2 + 1, none⟩ = false := HUE.out.2.2.frozenAt _
          have HSET := Lib.hid (HUE.out.setk hcb kk (by omega) xx y9)
          have HFL : Hid (((us).set kk ⟨xx, y9⟩).length = (us).length) := Lib.hid List.length_set
          go_wp2_with fail
          go_ret
          exact ⟨⟨_, (us).set kk ⟨xx, y9⟩, rfl, by have h9 := HSET.out.2.2; rw [HFL.out] at h9 ⊢; exact h9, by rw [HFL.out]; omega, set_names HNM.out HXX.out⟩, HSET.out.2.1.more (by omega), HSET.out.1⟩
        · skip
          have HNE : Hid (wc.heap.size ≠ cb) := Lib.hid (by have := HUC.out.lt; omega)
          have HDR := Lib.hid (among_un (zs := siZ) (HUC.out.alloc hcb (.cells (siZ.map (Value.int .i64)).toArray 3)) hcb (by omega) (by decide) (slr_lit wc (siZ.map (Value.int .i64)) 3 (by decide)) (fun a m c e => by cases e; exact HNE.out) HR.out)
          have HKD := Lib.hid (((grown_alloc wc (.cells (siZ.map (Value.int .i64)).toArray 3) none).block _ (Array.getElem?_eq_some_iff.1 HKC.out).1 (by simp)).trans HKC.out)
          go_wp2_with fail
          refine (HDR.out).mono ?_
          rintro e wd ⟨⟨xx, rfl, hxx⟩, hud, hgd⟩
          have HXX := Lib.hid (hxx)
          have hkd := (hgd.block _ (Array.getElem?_eq_some_iff.1 HKD.out).1 (by intro e; injection e with e; have := HUU.out; omega)).trans HKD.out
          obtain ⟨we, hWe⟩ : ∃ we, wd.setCell ⟨U, 1, none⟩ (.int .i64 xx) = we := ⟨_, rfl⟩
          have HUE : Hid (UnAt w we cb cd _ g c us) := Lib.hid (by rw [← hWe]; exact hud.other hcb HUU.out.1 HUU.out.2.1 1 _)
          have HKE : Hid (we.heap[U]? = some (.cells #[.string x9, .int .i64 xx] 40 (0, 0))) := Lib.hid (by rw [← hWe]; have h9 := heap_setCell_same wd U 1 _ _ (.int .i64 xx) hkd; simpa using h9)
          obtain ⟨z0, z1, y0, y1⟩ := cell2 hkd
          clear hud hgd hkd hxx

          obtain ⟨u0, u1, v0, v1⟩ := cell2 HKE.out
          obtain ⟨e0, d0⟩ : ∃ e, we.cell? ⟨g, kk * 2, none⟩ = some e := ⟨_, (HUE.out.2.2.cellAt (kk * 2) (by omega)).trans (List.getElem?_eq_getElem (by rw [flatC_len unC_len]; omega))⟩
          obtain ⟨e1, d1⟩ : ∃ e, we.cell? ⟨g, kk * 2 + 1, none⟩ = some e := ⟨_, (HUE.out.2.2.cellAt (kk * 2 + 1) (by omega)).trans (List.getElem?_eq_getElem (by rw [flatC_len unC_len]; omega))⟩
          have f0 : we.frozen? ⟨g, kk * 2, none⟩ = false := HUE.out.2.2.frozenAt _
          have f1 : we.frozen? ⟨g, kk * 2 + 1, none⟩ = false := HUE.out.2.2.frozenAt _
          have HSET := Lib.hid (HUE.out.setk hcb kk (by omega) x9 xx)
          have HFL : Hid (((us).set kk ⟨x9, xx⟩).length = (us).length) := Lib.hid List.length_set
          go_wp2_with fail
          go_ret
          exact ⟨⟨_, (us).set kk ⟨x9, xx⟩, rfl, by have h9 := HSET.out.2.2; rw [HFL.out] at h9 ⊢; exact h9, by rw [HFL.out]; omega, set_names HNM.out HX9.out⟩, HSET.out.2.1.more (by omega), HSET.out.1⟩
        · skip
          go_wp2_with fail
          go_loopw [3] (fun out wr => ∃ (m' g' c' : Nat) (us' : List Un), out = .slice (some ⟨g', 0, none⟩) us'.length c' ∧ us.length ≤ us'.length ∧ us'.length ≤ 7 ∧ Hid (∀ u ∈ us', u.nm.size ≤ 11) ∧ m' + 2 * us.length ≤ n + 60 + 2 * us'.length ∧ Hid (UnAt w wr cb cd m' g' c' us') ∧ Hid (wr.heap[U]? = some (.cells #[.string x9, .int .i64 y9] 40 (0, 0))) ∧ Hid (g' ≠ U)) (fun out _ => 7 - lenV out)
          case atStart => exact ⟨_, g, c, us, rfl, Nat.le_refl _, by omega, HNM, by omega, HUC, HKC, Lib.hid HUU.out.2.1⟩
          case round =>
            obtain ⟨m', g', c', us', rfl, hle, hl7, HNM', hm', HU', HK', HGU'⟩ := hrel
            go_wp2_with fail
            refine (pick_un 2 HU'.out hcb (by omega) (by omega) (by omega) HR.out).mono ?_
            rintro e wp ⟨⟨r2, rfl, s0, s1⟩, hup, hgp⟩
            have HUP := Lib.hid hup
            have HKP := Lib.hid ((hgp.block _ (Array.getElem?_eq_some_iff.1 HK'.out).1 (by intro e; injection e with e; have := HUU.out; omega)).trans HK'.out)
            clear hup hgp
            by_cases hlt2 : (us'.length : Int) < 6 + r2
            · have hl6 : us'.length ≤ 6 := by omega
              obtain ⟨b9, hb9⟩ : ∃ b : UInt8, (b.toNat : Int) = 97 + (us'.length : Int) := ⟨UInt8.ofNat (97 + us'.length), by rw [UInt8.toNat_ofNat_of_lt' (by show 97 + us'.length < 256; omega)]; omega⟩
              obtain ⟨nb, hnbe⟩ : ∃ nb : ByteArray, nb = ⟨[b9].toArray⟩ := ⟨_, rfl⟩
              have HNBS : Hid (nb.size ≤ 11) := Lib.hid (by rw [hnbe]; show 1 ≤ 11; omega)
              obtain ⟨V1, hV1⟩ : ∃ V1, wp.alloc (.cells #[.int .u8 (97 + (us'.length : Int))] 5) = V1 := ⟨_, rfl⟩
              have HUV : Hid (UnAt w V1 cb cd (m' + 2) g' c' us') := Lib.hid (by rw [← hV1]; exact HUP.out.alloc hcb _)
              have HKV : Hid (V1.heap[U]? = some (.cells #[.string x9, .int .i64 y9] 40 (0, 0))) := Lib.hid (by rw [← hV1]; exact ((grown_alloc wp _ none).block _ (Array.getElem?_eq_some_iff.1 HKP.out).1 (by simp)).trans HKP.out)
              have hcv9 : (convert 22 9 (.slice (some ⟨wp.heap.size, 0, none⟩) 1 1)).run Tryd.prog V1 = .ok (.string nb) V1 := by
                have h9 := run_convert_bytes_back (P := Tryd.prog) V1 22 9 5 ⟨wp.heap.size, 0, none⟩ 1 [b9] Tryd.underlying22 Tryd.underlying5 Tryd.underlying9 (fun j hj => by
                  have hj0 : j = 0 := by simpa using hj
                  subst hj0
                  rw [← hV1]
                  show (wp.alloc _).cell? ⟨wp.heap.size, 0, none⟩ = some (.int .u8 (b9.toNat : Int))
                  rw [hb9]
                  exact (cell1 (alloc_at rfl)).1)
                rw [hnbe]
                exact h9
              have HLV := Lib.hid HUV.out.lt
              clear hb9 hnbe
              go_wp2_with (at_builtin; refine wpList_append_own _ rfl _ _ 24 rfl w.heap.size 40 i0 (.agg #[.string ⟨#[]⟩, .int .i64 0]) 2 24 Tryd.underlying24 hi hz0 hz1 hz2 rfl (by decide) _ _ _ rfl (HUV.out.2.2.alloc _) ⟨V1.heap.size, 0, none⟩ 1 1 [.string nb, .int .i64 2] rfl rfl ?y1 ?y2 ?y3 ?y4 ?y5 ?_)
              case y1 => first | exact cell_two_new _ _ _ _ | (intro j u hu; exact two_new hu)
              case y2 => intro u hu; rcases List.mem_cons.1 hu with rfl | hu; rfl; rw [List.mem_singleton.1 hu]; rfl
              case y3 => first | (unfold maxLen; omega) | omega
              case y4 => omega
              case y5 => (have := HLV.out; simp; omega)
              intro v' w8 hown8 hgrow8 _
              obtain ⟨g8, c8, rfl⟩ := own_some hown8 (by omega)
              have HU8 := Lib.hid ((HUV.out.alloc hcb _).push hcb hown8 hgrow8)
              have HK8 := Lib.hid ((hgrow8.block _ (Nat.lt_of_lt_of_le (Array.getElem?_eq_some_iff.1 HKV.out).1 (by simp)) (by intro e; exact HGU'.out (Option.some.inj (show some g' = some U from e.symm)))).trans ((alloc_old (Array.getElem?_eq_some_iff.1 HKV.out).1).trans HKV.out))
              have HG8 := Lib.hid (own_neU hown8 (by omega) HK8.out)
              clear hown8 hgrow8 hcv9
              go_wp2_with fail
              go_roundw
              case rel => exact ⟨m' + 2, g8, c8, us' ++ [⟨nb, 2⟩], by rw [List.length_append, List.length_singleton], by rw [List.length_append, List.length_singleton]; omega, by rw [List.length_append, List.length_singleton]; omega, Lib.hid (app_names HNM'.out HNBS.out), by rw [List.length_append, List.length_singleton]; omega, HU8, HK8, HG8⟩
              case measure => (show 7 - (us'.length + 1) < 7 - us'.length; omega)
            · skip
              obtain ⟨u0, u1, v0, v1⟩ := cell2 HKP.out
              obtain ⟨e0, d0⟩ : ∃ e, wp.cell? ⟨g', kk * 2, none⟩ = some e := ⟨_, (HUP.out.2.2.cellAt (kk * 2) (by omega)).trans (List.getElem?_eq_getElem (by rw [flatC_len unC_len]; omega))⟩
              obtain ⟨e1, d1⟩ : ∃ e, wp.cell? ⟨g', kk * 2 + 1, none⟩ = some e := ⟨_, (HUP.out.2.2.cellAt (kk * 2 + 1) (by omega)).trans (List.getElem?_eq_getElem (by rw [flatC_len unC_len]; omega))⟩
              have f0 : wp.frozen? ⟨g', kk * 2, none⟩ = false := HUP.out.2.2.frozenAt _
              have f1 : wp.frozen? ⟨g', kk * 2 + 1, none⟩ = false := HUP.out.2.2.frozenAt _
              have HSET := Lib.hid (HUP.out.setk hcb kk (by omega) x9 y9)
              have HFL : Hid (((us').set kk ⟨x9, y9⟩).length = (us').length) := Lib.hid List.length_set
              go_wp2_with fail
              go_ret
              exact ⟨⟨_, (us').set kk ⟨x9, y9⟩, rfl, by have h9 := HSET.out.2.2; rw [HFL.out] at h9 ⊢; exact h9, by rw [HFL.out]; omega, set_names HNM'.out HX9.out⟩, HSET.out.2.1.more (by omega), HSET.out.1⟩
        · go_wp2_with fail
          go_ret
          exact ⟨⟨_, [], rfl, own_zero HUC.out.2.2, by simp, fun u hu => by cases hu⟩, HUC.out.2.1.more (by omega), HUC.out.1⟩
        · have b0 : (r == 0) = false := beq_eq_false_iff_ne.2 (by omega)
          have b1 : (r == 1) = false := beq_eq_false_iff_ne.2 (by omega)
          have b2 : (r == 2) = false := beq_eq_false_iff_ne.2 (by omega)
          have b3 : (r == 3) = false := beq_eq_false_iff_ne.2 (by omega)
          obtain ⟨u0, u1, v0, v1⟩ := cell2 HKC.out
          obtain ⟨e0, d0⟩ : ∃ e, wc.cell? ⟨g, kk * 2, none⟩ = some e := ⟨_, (HUC.out.2.2.cellAt (kk * 2) (by omega)).trans (List.getElem?_eq_getElem (by rw [flatC_len unC_len]; omega))⟩
          obtain ⟨e1, d1⟩ : ∃ e, wc.cell? ⟨g, kk * 2 + 1, none⟩ = some e := ⟨_, (HUC.out.2.2.cellAt (kk * 2 + 1) (by omega)).trans (List.getElem?_eq_getElem (by rw [flatC_len unC_len]; omega))⟩
          have f0 : wc.frozen? ⟨g, kk * 2, none⟩ = false := HUC.out.2.2.frozenAt _
          have f1 : wc.frozen? ⟨g, kk * 2 + 1, none⟩ = false := HUC.out.2.2.frozenAt _
          have HSET := Lib.hid (HUC.out.setk hcb kk (by omega) x9 y9)
          have HFL : Hid (((us).set kk ⟨x9, y9⟩).length = (us).length) := Lib.hid List.length_set
          go_wp2_with fail
          go_ret
          exact ⟨⟨_, (us).set kk ⟨x9, y9⟩, rfl, by have h9 := HSET.out.2.2; rw [HFL.out] at h9 ⊢; exact h9, by rw [HFL.out]; omega, set_names HNM.out HX9.out⟩, HSET.out.2.1.more (by omega), HSET.out.1⟩
      | false =>
        have hkl : k < nmL.length := by show k < 4; exact hlt
        have HQ : Hid (∀ wi : World, wi.heap[W1.heap.size]? = some (.cells (nmL.map Value.string).toArray 9 (0, 0)) → wi.cell? ⟨W1.heap.size, k, none⟩ = some (.string nmL[k])) := Lib.hid (fun wi h => nm_cell h hkl)
        have hx9 : (nmL[k]).size ≤ 11 := nmL_le _ (List.getElem_mem hkl)
        generalize nmL[k] = nmk at HQ hx9
        have q0 := HQ.out _ HNB3.out
        go_wp2_with fail
        refine wp_region_held_drew (S := (fun u => u.cell? ⟨W1.heap.size, k, none⟩ = some (.string nmk))) (by kernel_rfl) (q0) (fun hHeld => ?_)
        have hu4 := HU3.out.drew hcb
        have hnb4 : w3.drew.heap[W1.heap.size]? = some (.cells (nmL.map Value.string).toArray 9 (0, 0)) := HNB3.out
        generalize w3.drew = w4 at hu4 hnb4 hHeld ⊢
        have HU4 := Lib.hid hu4
        have HNB4 := Lib.hid hnb4
        clear hu4 hnb4 q0
        have q0 := HQ.out _ HNB4.out
        refine take1 (i := 0) (v := ?v1) (some 22) rfl rfl (by kernel_rfl) (by kernel_rfl) (by kernel_rfl) (fun _ _ _ h => h) (Or.inl ⟨by rfl, ?y1⟩) (by assumption) ?r1
        case y1 => (intro w hSw; (try dsimp only at hSw); go_simp; (first | done | with_reducible rfl))
        try simp only [Act.put, List.setIfInBounds_toArray, List.set_cons_zero, List.set_cons_succ]
        refine take1 (i := 1) (v := ?v2) (some 23) rfl rfl (by kernel_rfl) (by kernel_rfl) (by kernel_rfl) (fun _ _ _ h => h) (Or.inl ⟨by rfl, ?y2⟩) (by assumption) ?r2
        case y2 => (intro w hSw; (try dsimp only at hSw); go_simp; (first | done | with_reducible rfl))
        try simp only [Act.put, List.setIfInBounds_toArray, List.set_cons_zero, List.set_cons_succ]
        refine take1 (i := 2) (v := ?v3) (some 24) rfl rfl (by kernel_rfl) (by kernel_rfl) (by kernel_rfl) (fun _ _ _ h => h) (Or.inl ⟨by rfl, ?y3⟩) (by assumption) ?r3
        case y3 => (intro w hSw; (try dsimp only at hSw); go_simp; (first | done | with_reducible rfl))
        try simp only [Act.put, List.setIfInBounds_toArray, List.set_cons_zero, List.set_cons_succ]
        refine take1 (i := 3) (v := ?v4) (some 25) rfl rfl (by kernel_rfl) (by kernel_rfl) (by kernel_rfl) (fun _ _ _ h => h) (Or.inl ⟨by rfl, ?y4⟩) (by assumption) ?r4
        case y4 => (intro w hSw; (try dsimp only at hSw); go_simp; (first | done | with_reducible rfl))
        try simp only [Act.put, List.setIfInBounds_toArray, List.set_cons_zero, List.set_cons_succ]
        refine take1 (i := 4) (v := ?v5) (some 26) rfl rfl (by kernel_rfl) (by kernel_rfl) (by kernel_rfl) (fun _ _ _ h => h) (Or.inl ⟨by rfl, ?y5⟩) (by assumption) ?r5
        case y5 => (intro w hSw; (try dsimp only at hSw); go_simp; (first | done | with_reducible rfl))
        try simp only [Act.put, List.setIfInBounds_toArray, List.set_cons_zero, List.set_cons_succ]
        refine take1 (i := 5) (v := ?v6) (some 27) rfl rfl (by kernel_rfl) (by kernel_rfl) (by kernel_rfl) (fun _ _ _ h => h) (Or.inl ⟨by rfl, ?y6⟩) (by assumption) ?r6
        case y6 => (intro w hSw; (try dsimp only at hSw); go_simp; (first | done | with_reducible rfl))
        try simp only [Act.put, List.setIfInBounds_toArray, List.set_cons_zero, List.set_cons_succ]
        refine wpAnyH_ready (rs := [6]) (by kernel_rfl) (by simp) ?_
        refine AllReadyH.cons rfl (fun K hK => ?_) AllReadyH.nil
        go_simp
        have hu5 := HU4.out.alloc hcb (.cells (szZ.map (Value.int .i64)).toArray 3)
        have HSL := Lib.hid (slr_lit w4 (szZ.map (Value.int .i64)) 3 (by decide))
        have HNE : Hid (w4.heap.size ≠ cb) := Lib.hid (by have := HU4.out.lt; omega)
        have HAM := Lib.hid (among_un (zs := szZ) hu5 hcb (by omega) (by decide) HSL.out (fun a m c e => by cases e; exact HNE.out) HR.out)
        have HU5 := Lib.hid hu5
        have HNB5 := Lib.hid (((grown_alloc w4 (.cells (szZ.map (Value.int .i64)).toArray 3) none).block _ (Array.getElem?_eq_some_iff.1 HNB4.out).1 (by simp)).trans HNB4.out)
        clear hu5 HSL q0
        change K _ (w4.alloc (.cells (szZ.map (Value.int .i64)).toArray 3))
        generalize w4.alloc (.cells (szZ.map (Value.int .i64)).toArray 3) = w6 at HAM HU5 HNB5 ⊢
        have q0 := HQ.out _ HNB5.out
        refine hK.out _ _ (q0) (fun hHeld => ?_)
        clear hK K
        try simp only [Act.put, List.setIfInBounds_toArray, List.set_cons_zero, List.set_cons_succ]
        refine wpAnyH_ready (rs := [7]) (by kernel_rfl) (by simp) ?_
        refine AllReadyH.cons rfl (fun K hK => ?_) AllReadyH.nil
        go_simp
        go_at_call 25
        refine (HAM.out).mono ?_
        rintro e w7 ⟨⟨z, rfl, -⟩, hu7, hg7⟩
        have HU7 := Lib.hid hu7
        have HNB7 := Lib.hid ((hg7.block _ (Array.getElem?_eq_some_iff.1 HNB5.out).1 (by intro e; injection e with e; omega)).trans HNB5.out)
        clear hu7 hg7 q0
        have q0 := HQ.out _ HNB7.out
        try go_simp
        refine hK.out _ _ (q0) (fun hHeld => ?_)
        clear hK K
        try simp only [Act.put, List.setIfInBounds_toArray, List.set_cons_zero, List.set_cons_succ]
        refine take1 (i := 8) (v := ?v7) (some 30) rfl rfl (by kernel_rfl) (by kernel_rfl) (by kernel_rfl) (fun _ _ _ h => h) (Or.inl ⟨by rfl, ?y7⟩) (by assumption) ?r7
        case y7 => (intro w hSw; (try dsimp only at hSw); go_simp; (first | done | with_reducible rfl))
        try simp only [Act.put, List.setIfInBounds_toArray, List.set_cons_zero, List.set_cons_succ]
        refine wpAnyH_ready (rs := [9]) (by kernel_rfl) (by simp) ?_
        refine AllReadyH.cons rfl (fun K hK => ?_) AllReadyH.nil
        go_simp
        have hu8 := HU7.out.alloc hcb (.cells #[.string nmk, .int .i64 z] 40)
        have hnu : (w7.alloc (.cells #[.string nmk, .int .i64 z] 40)).heap[w7.heap.size]? = some (.cells #[.string nmk, .int .i64 z] 40 (0, 0)) := alloc_at rfl
        have hnb8 := ((grown_alloc w7 (.cells #[.string nmk, .int .i64 z] 40) none).block _ (Array.getElem?_eq_some_iff.1 HNB7.out).1 (by simp)).trans HNB7.out
        generalize w7.alloc (.cells #[.string nmk, .int .i64 z] 40) = w8 at hu8 hnu hnb8 ⊢
        have HU8 := Lib.hid hu8
        have HNU := Lib.hid hnu
        have HNB8 := Lib.hid hnb8
        clear hu8 hnu hnb8 q0
        have q0 := HQ.out _ HNB8.out
        refine hK.out _ _ (q0) (fun hHeld => ?_)
        clear hK K
        try simp only [Act.put, List.setIfInBounds_toArray, List.set_cons_zero, List.set_cons_succ]
        have HL8 := Lib.hid HU8.out.lt
        refine wpAnyH_ready (rs := [10]) (by kernel_rfl) (by simp) ?_
        refine AllReadyH.cons rfl (fun K hK => ?_) AllReadyH.nil
        refine step_append_lies _ (by rfl) _ _ _ (by rfl) w.heap.size 40 i0 (.agg #[.string ⟨#[]⟩, .int .i64 0]) 2 24 Tryd.underlying24 hi hz0 hz1 hz2 rfl (by decide) _ us.length _ (by rfl) HU8.out.2.2 ⟨w7.heap.size, 0, none⟩ 1 1 [.string nmk, .int .i64 z] (by rfl) (by rfl) (World.news_of_block HNU.out) ?h1 (by decide) ?h63 ?hby ?hbs _ rfl ?_
        case h1 => intro u hu; rcases List.mem_cons.1 hu with rfl | hu; rfl; rw [List.mem_singleton.1 hu]; rfl
        case h63 => (have := HUL.out; unfold maxLen; omega)
        case hby => (have := HUL.out; omega)
        case hbs => exact HL8.out.2.2
        intro g2 c2' wn hown hgr _ _
        have HUN := Lib.hid (HU8.out.push hcb hown hgr)
        have hgne := own_ne HU8.out.2.2 HNB8.out
        have HNBN := Lib.hid ((hgr.block _ (Array.getElem?_eq_some_iff.1 HNB8.out).1 (by intro e; exact hgne (Option.some.inj (show some g = some _ from e.symm)))).trans HNB8.out)
        clear hown hgr q0 hgne
        have q0 := HQ.out _ HNBN.out
        refine hK.out _ _ (q0) (fun hHeld => ?_)
        clear hK K
        try simp only [Act.put, List.setIfInBounds_toArray]
        refine take1 (i := 11) (v := ?v8) (some 3) rfl rfl (by kernel_rfl) (by kernel_rfl) (by kernel_rfl) (fun _ _ _ h => h) (Or.inl ⟨by rfl, ?y8⟩) (by assumption) ?r8
        case y8 => (intro w hSw; (try dsimp only at hSw); go_simp; (first | done | with_reducible rfl))
        try simp only [Act.put, List.setIfInBounds_toArray, List.set_cons_zero, List.set_cons_succ]
        refine wpAnyH_done (by kernel_rfl) ?_ _
        go_wp2_with fail
        go_roundw
        case rel => exact ⟨k + 1, m + 2 + 2, g2, c2', us ++ [⟨nmk, z⟩], by omega, by go_num, by rw [List.length_append, List.length_singleton], by rw [List.length_append, List.length_singleton, HUL.out], app_names HNM.out hx9, by omega, HUN.out, HNBN.out⟩
        case measure => simp [intOf]; omega
    · obtain rfl : k = 4 := by omega
      have hl1 : 1 ≤ us.length := by have := HUL.out; omega
      have hl5 : us.length ≤ 5 := by have := HUL.out; omega
      go_wp2_with fail
      refine (pick_un us.length HU.out hcb (by omega) (by omega) (by omega) HR.out).mono ?_
      rintro e wa ⟨⟨ki, rfl, k0, k1⟩, hua, hga⟩
      obtain ⟨kk, rfl⟩ : ∃ kk : Nat, ki = (kk : Int) := ⟨ki.toNat, by omega⟩
      have HUA := Lib.hid hua
      have hkk : kk < us.length := by omega
      obtain ⟨p0, p1⟩ := hua.cells kk hkk
      have hnk := HNM.out us[kk] (List.getElem_mem hkk)
      generalize us[kk].nm = x9 at p0 hnk
      generalize us[kk].sz = y9 at p1
      have HX9 := Lib.hid hnk
      clear hua hga hnk
      go_wp2_with fail
      have huu := HUA.out.alloc hcb (.cells #[.string x9, .int .i64 y9] 40)
      have hku : (wa.alloc (.cells #[.string x9, .int .i64 y9] 40)).heap[wa.heap.size]? = some (.cells #[.string x9, .int .i64 y9] 40 (0, 0)) := alloc_at rfl
      have hgu : w.heap.size ≤ wa.heap.size ∧ g ≠ wa.heap.size ∧ cb < wa.heap.size := by have := HUA.out.lt; omega
      generalize wa.alloc (.cells #[.string x9, .int .i64 y9] 40) = wb at huu hku ⊢
      generalize wa.heap.size = U at hku hgu ⊢
      have HUB := Lib.hid huu
      have HKB := Lib.hid hku
      have HUU := Lib.hid hgu
      clear p0 p1 huu hku hgu
      refine (pick_un 60 HUB.out hcb (by omega) (by omega) (by omega) HR.out).mono ?_
      rintro e wc ⟨⟨r, rfl, r0, r1⟩, huc, hgc⟩
      have HUC := Lib.hid huc
      have HKC := Lib.hid ((hgc.block _ (Array.getElem?_eq_some_iff.1 HKB.out).1 (by intro e; injection e with e; have := HUU.out; omega)).trans HKB.out)
      clear huc hgc
      rcases (by omega : r = 0 ∨ r = 1 ∨ r = 2 ∨ r = 3 ∨ 4 ≤ r) with rfl | rfl | rfl | rfl | hr4
      · skip
        have HNE : Hid (wc.heap.size ≠ cb) := Lib.hid (by have := HUC.out.lt; omega)
        have HDR := Lib.hid (of_un (ss := ofL7) (HUC.out.alloc hcb (.cells (ofL7.map Value.string).toArray 9)) hcb (by omega) (by decide) (slr_lit wc (ofL7.map Value.string) 9 (by decide)) (fun a m c e => by cases e; exact HNE.out) HR.out)
        have HKD := Lib.hid (((grown_alloc wc (.cells (ofL7.map Value.string).toArray 9) none).block _ (Array.getElem?_eq_some_iff.1 HKC.out).1 (by simp)).trans HKC.out)
        go_wp2_with fail
        refine (HDR.out).mono ?_
        rintro e wd ⟨⟨xx, rfl, hxx⟩, hud, hgd⟩
        have HXX := Lib.hid (ofL7_le _ hxx)
        have hkd := (hgd.block _ (Array.getElem?_eq_some_iff.1 HKD.out).1 (by intro e; injection e with e; have := HUU.out; omega)).trans HKD.out
        obtain ⟨we, hWe⟩ : ∃ we, wd.setCell ⟨U, 0, none⟩ (.string xx) = we := ⟨_, rfl⟩
        have HUE : Hid (UnAt w we cb cd _ g c us) := Lib.hid (by rw [← hWe]; exact hud.other hcb HUU.out.1 HUU.out.2.1 0 _)
        have HKE : Hid (we.heap[U]? = some (.cells #[.string xx, .int .i64 y9] 40 (0, 0))) := Lib.hid (by rw [← hWe]; have h9 := heap_setCell_same wd U 0 _ _ (.string xx) hkd; simpa using h9)
        obtain ⟨z0, z1, y0, y1⟩ := cell2 hkd
        clear hud hgd hkd hxx

        obtain ⟨u0, u1, v0, v1⟩ := cell2 HKE.out
        obtain ⟨e0, d0⟩ : ∃ e, we.cell? ⟨g, kk * 2, none⟩ = some e := ⟨_, (HUE.out.2.2.cellAt (kk * 2) (by omega)).trans (List.getElem?_eq_getElem (by rw [flatC_len unC_len]; omega))⟩
        obtain ⟨e1, d1⟩ : ∃ e, we.cell? ⟨g, kk * 2 + 1, none⟩ = some e := ⟨_, (HUE.out.2.2.cellAt (kk * 2 + 1) (by omega)).trans (List.getElem?_eq_getElem (by rw [flatC_len unC_len]; omega))⟩
        have f0 : we.frozen? ⟨g, kk * 2, none⟩ = false := HUE.out.2.2.frozenAt _
        have f1 : we.frozen? ⟨g, kk * 2 + 1, none⟩ = false := HUE.out.2.2.frozenAt _
        have HSET := Lib.hid (HUE.out.setk hcb kk (by omega) xx y9)
        have HFL : Hid (((us).set kk ⟨xx, y9⟩).length = (us).length) := Lib.hid List.length_set
        go_wp2_with fail
        go_ret
        exact ⟨⟨_, (us).set kk ⟨xx, y9⟩, rfl, by have h9 := HSET.out.2.2; rw [HFL.out] at h9 ⊢; exact h9, by rw [HFL.out]; omega, set_names HNM.out HXX.out⟩, HSET.out.2.1.more (by omega), HSET.out.1⟩
      · skip
        have HNE : Hid (wc.heap.size ≠ cb) := Lib.hid (by have := HUC.out.lt; omega)
        have HDR := Lib.hid (among_un (zs := siZ) (HUC.out.alloc hcb (.cells (siZ.map (Value.int .i64)).toArray 3)) hcb (by omega) (by decide) (slr_lit wc (siZ.map (Value.int .i64)) 3 (by decide)) (fun a m c e => by cases e; exact HNE.out) HR.out)
        have HKD := Lib.hid (((grown_alloc wc (.cells (siZ.map (Value.int .i64)).toArray 3) none).block _ (Array.getElem?_eq_some_iff.1 HKC.out).1 (by simp)).trans HKC.out)
        go_wp2_with fail
        refine (HDR.out).mono ?_
        rintro e wd ⟨⟨xx, rfl, hxx⟩, hud, hgd⟩
        have HXX := Lib.hid (hxx)
        have hkd := (hgd.block _ (Array.getElem?_eq_some_iff.1 HKD.out).1 (by intro e; injection e with e; have := HUU.out; omega)).trans HKD.out
        obtain ⟨we, hWe⟩ : ∃ we, wd.setCell ⟨U, 1, none⟩ (.int .i64 xx) = we := ⟨_, rfl⟩
        have HUE : Hid (UnAt w we cb cd _ g c us) := Lib.hid (by rw [← hWe]; exact hud.other hcb HUU.out.1 HUU.out.2.1 1 _)
        have HKE : Hid (we.heap[U]? = some (.cells #[.string x9, .int .i64 xx] 40 (0, 0))) := Lib.hid (by rw [← hWe]; have h9 := heap_setCell_same wd U 1 _ _ (.int .i64 xx) hkd; simpa using h9)
        obtain ⟨z0, z1, y0, y1⟩ := cell2 hkd
        clear hud hgd hkd hxx

        obtain ⟨u0, u1, v0, v1⟩ := cell2 HKE.out
        obtain ⟨e0, d0⟩ : ∃ e, we.cell? ⟨g, kk * 2, none⟩ = some e := ⟨_, (HUE.out.2.2.cellAt (kk * 2) (by omega)).trans (List.getElem?_eq_getElem (by rw [flatC_len unC_len]; omega))⟩
        obtain ⟨e1, d1⟩ : ∃ e, we.cell? ⟨g, kk * 2 + 1, none⟩ = some e := ⟨_, (HUE.out.2.2.cellAt (kk * 2 + 1) (by omega)).trans (List.getElem?_eq_getElem (by rw [flatC_len unC_len]; omega))⟩
        have f0 : we.frozen? ⟨g, kk * 2, none⟩ = false := HUE.out.2.2.frozenAt _
        have f1 : we.frozen? ⟨g, kk * 2 + 1, none⟩ = false := HUE.out.2.2.frozenAt _
        have HSET := Lib.hid (HUE.out.setk hcb kk (by omega) x9 xx)
        have HFL : Hid (((us).set kk ⟨x9, xx⟩).length = (us).length) := Lib.hid List.length_set
        go_wp2_with fail
        go_ret
        exact ⟨⟨_, (us).set kk ⟨x9, xx⟩, rfl, by have h9 := HSET.out.2.2; rw [HFL.out] at h9 ⊢; exact h9, by rw [HFL.out]; omega, set_names HNM.out HX9.out⟩, HSET.out.2.1.more (by omega), HSET.out.1⟩
      · skip
        go_wp2_with fail
        go_loopw [3] (fun out wr => ∃ (m' g' c' : Nat) (us' : List Un), out = .slice (some ⟨g', 0, none⟩) us'.length c' ∧ us.length ≤ us'.length ∧ us'.length ≤ 7 ∧ Hid (∀ u ∈ us', u.nm.size ≤ 11) ∧ m' + 2 * us.length ≤ n + 60 + 2 * us'.length ∧ Hid (UnAt w wr cb cd m' g' c' us') ∧ Hid (wr.heap[U]? = some (.cells #[.string x9, .int .i64 y9] 40 (0, 0))) ∧ Hid (g' ≠ U)) (fun out _ => 7 - lenV out)
        case atStart => exact ⟨_, g, c, us, rfl, Nat.le_refl _, by omega, HNM, by omega, HUC, HKC, Lib.hid HUU.out.2.1⟩
        case round =>
          obtain ⟨m', g', c', us', rfl, hle, hl7, HNM', hm', HU', HK', HGU'⟩ := hrel
          go_wp2_with fail
          refine (pick_un 2 HU'.out hcb (by omega) (by omega) (by omega) HR.out).mono ?_
          rintro e wp ⟨⟨r2, rfl, s0, s1⟩, hup, hgp⟩
          have HUP := Lib.hid hup
          have HKP := Lib.hid ((hgp.block _ (Array.getElem?_eq_some_iff.1 HK'.out).1 (by intro e; injection e with e; have := HUU.out; omega)).trans HK'.out)
          clear hup hgp
          by_cases hlt2 : (us'.length : Int) < 6 + r2
          · have hl6 : us'.length ≤ 6 := by omega
            obtain ⟨b9, hb9⟩ : ∃ b : UInt8, (b.toNat : Int) = 97 + (us'.length : Int) := ⟨UInt8.ofNat (97 + us'.length), by rw [UInt8.toNat_ofNat_of_lt' (by show 97 + us'.length < 256; omega)]; omega⟩
            obtain ⟨nb, hnbe⟩ : ∃ nb : ByteArray, nb = ⟨[b9].toArray⟩ := ⟨_, rfl⟩
            have HNBS : Hid (nb.size ≤ 11) := Lib.hid (by rw [hnbe]; show 1 ≤ 11; omega)
            obtain ⟨V1, hV1⟩ : ∃ V1, wp.alloc (.cells #[.int .u8 (97 + (us'.length : Int))] 5) = V1 := ⟨_, rfl⟩
            have HUV : Hid (UnAt w V1 cb cd (m' + 2) g' c' us') := Lib.hid (by rw [← hV1]; exact HUP.out.alloc hcb _)
            have HKV : Hid (V1.heap[U]? = some (.cells #[.string x9, .int .i64 y9] 40 (0, 0))) := Lib.hid (by rw [← hV1]; exact ((grown_alloc wp _ none).block _ (Array.getElem?_eq_some_iff.1 HKP.out).1 (by simp)).trans HKP.out)
            have hcv9 : (convert 22 9 (.slice (some ⟨wp.heap.size, 0, none⟩) 1 1)).run Tryd.prog V1 = .ok (.string nb) V1 := by
              have h9 := run_convert_bytes_back (P := Tryd.prog) V1 22 9 5 ⟨wp.heap.size, 0, none⟩ 1 [b9] Tryd.underlying22 Tryd.underlying5 Tryd.underlying9 (fun j hj => by
                have hj0 : j = 0 := by simpa using hj
                subst hj0
                rw [← hV1]
                show (wp.alloc _).cell? ⟨wp.heap.size, 0, none⟩ = some (.int .u8 (b9.toNat : Int))
                rw [hb9]
                exact (cell1 (alloc_at rfl)).1)
              rw [hnbe]
              exact h9
            have HLV := Lib.hid HUV.out.lt
            clear hb9 hnbe
            go_wp2_with (at_builtin; refine wpList_append_own _ rfl _ _ 24 rfl w.heap.size 40 i0 (.agg #[.string ⟨#[]⟩, .int .i64 0]) 2 24 Tryd.underlying24 hi hz0 hz1 hz2 rfl (by decide) _ _ _ rfl (HUV.out.2.2.alloc _) ⟨V1.heap.size, 0, none⟩ 1 1 [.string nb, .int .i64 2] rfl rfl ?x1 ?x2 ?x3 ?x4 ?x5 ?_)
            case x1 => first | exact cell_two_new _ _ _ _ | (intro j u hu; exact two_new hu)
            case x2 => intro u hu; rcases List.mem_cons.1 hu with rfl | hu; rfl; rw [List.mem_singleton.1 hu]; rfl
            case x3 => first | (unfold maxLen; omega) | omega
            case x4 => omega
            case x5 => (have := HLV.out; simp; omega)
            intro v' w8 hown8 hgrow8 _
            obtain ⟨g8, c8, rfl⟩ := own_some hown8 (by omega)
            have HU8 := Lib.hid ((HUV.out.alloc hcb _).push hcb hown8 hgrow8)
            have HK8 := Lib.hid ((hgrow8.block _ (Nat.lt_of_lt_of_le (Array.getElem?_eq_some_iff.1 HKV.out).1 (by simp)) (by intro e; exact HGU'.out (Option.some.inj (show some g' = some U from e.symm)))).trans ((alloc_old (Array.getElem?_eq_some_iff.1 HKV.out).1).trans HKV.out))
            have HG8 := Lib.hid (own_neU hown8 (by omega) HK8.out)
            clear hown8 hgrow8 hcv9
            go_wp2_with fail
            go_roundw
            case rel => exact ⟨m' + 2, g8, c8, us' ++ [⟨nb, 2⟩], by rw [List.length_append, List.length_singleton], by rw [List.length_append, List.length_singleton]; omega, by rw [List.length_append, List.length_singleton]; omega, Lib.hid (app_names HNM'.out HNBS.out), by rw [List.length_append, List.length_singleton]; omega, HU8, HK8, HG8⟩
            case measure => (show 7 - (us'.length + 1) < 7 - us'.length; omega)
          · skip
            obtain ⟨u0, u1, v0, v1⟩ := cell2 HKP.out
            obtain ⟨e0, d0⟩ : ∃ e, wp.cell? ⟨g', kk * 2, none⟩ = some e := ⟨_, (HUP.out.2.2.cellAt (kk * 2) (by omega)).trans (List.getElem?_eq_getElem (by rw [flatC_len unC_len]; omega))⟩
            obtain ⟨e1, d1⟩ : ∃ e, wp.cell? ⟨g', kk * 2 + 1, none⟩ = some e := ⟨_, (HUP.out.2.2.cellAt (kk * 2 + 1) (by omega)).trans (List.getElem?_eq_getElem (by rw [flatC_len unC_len]; omega))⟩
            have f0 : wp.frozen? ⟨g', kk * 2, none⟩ = false := HUP.out.2.2.frozenAt _
            have f1 : wp.frozen? ⟨g', kk * 2 + 1, none⟩ = false := HUP.out.2.2.frozenAt _
            have HSET := Lib.hid (HUP.out.setk hcb kk (by omega) x9 y9)
            have HFL : Hid (((us').set kk ⟨x9, y9⟩).length = (us').length) := Lib.hid List.length_set
            go_wp2_with fail
            go_ret
            exact ⟨⟨_, (us').set kk ⟨x9, y9⟩, rfl, by have h9 := HSET.out.2.2; rw [HFL.out] at h9 ⊢; exact h9, by rw [HFL.out]; omega, set_names HNM'.out HX9.out⟩, HSET.out.2.1.more (by omega), HSET.out.1⟩
      · go_wp2_with fail
        go_ret
        exact ⟨⟨_, [], rfl, own_zero HUC.out.2.2, by simp, fun u hu => by cases hu⟩, HUC.out.2.1.more (by omega), HUC.out.1⟩
      · have b0 : (r == 0) = false := beq_eq_false_iff_ne.2 (by omega)
        have b1 : (r == 1) = false := beq_eq_false_iff_ne.2 (by omega)
        have b2 : (r == 2) = false := beq_eq_false_iff_ne.2 (by omega)
        have b3 : (r == 3) = false := beq_eq_false_iff_ne.2 (by omega)
        obtain ⟨u0, u1, v0, v1⟩ := cell2 HKC.out
        obtain ⟨e0, d0⟩ : ∃ e, wc.cell? ⟨g, kk * 2, none⟩ = some e := ⟨_, (HUC.out.2.2.cellAt (kk * 2) (by omega)).trans (List.getElem?_eq_getElem (by rw [flatC_len unC_len]; omega))⟩
        obtain ⟨e1, d1⟩ : ∃ e, wc.cell? ⟨g, kk * 2 + 1, none⟩ = some e := ⟨_, (HUC.out.2.2.cellAt (kk * 2 + 1) (by omega)).trans (List.getElem?_eq_getElem (by rw [flatC_len unC_len]; omega))⟩
        have f0 : wc.frozen? ⟨g, kk * 2, none⟩ = false := HUC.out.2.2.frozenAt _
        have f1 : wc.frozen? ⟨g, kk * 2 + 1, none⟩ = false := HUC.out.2.2.frozenAt _
        have HSET := Lib.hid (HUC.out.setk hcb kk (by omega) x9 y9)
        have HFL : Hid (((us).set kk ⟨x9, y9⟩).length = (us).length) := Lib.hid List.length_set
        go_wp2_with fail
        go_ret
        exact ⟨⟨_, (us).set kk ⟨x9, y9⟩, rfl, by have h9 := HSET.out.2.2; rw [HFL.out] at h9 ⊢; exact h9, by rw [HFL.out]; omega, set_names HNM.out HX9.out⟩, HSET.out.2.1.more (by omega), HSET.out.1⟩
end Go.Proofs.YtghdmiimanhjgaaDoor
