/- Parts laid as one: Mad4, Mad5. -/
import Derived.Test.YtjkjaadcdolbhaaDoorKx
import Derived.Test.YtjkjaadcdolbhaaDoorKf
import Derived.Test.YtjkjaadcdolbhaaDoorKl
import Derived.Test.YtjkjaadcdolbhaaDoorKi
import Derived.Test.YtjkjaadcdolbhaaDoorKd
/-! Mad4 -/
namespace Go.Proofs.YtjkjaadcdolbhaaDoor
set_option linter.unusedVariables false
open Go.RowKit

/-- In a world: the box N of a frame that the call owns with its rods, and a list of moves. -/
structure DgAt (B : Nat) (w : World) (N : Nat) (up lo : Int) (rb rc : Nat) (rs : List (Int × Int)) (g c : Nat) (ms : List Mv) : Prop where
  ord : B ≤ N
  box : w.heap[N]? = some (.cells #[.int .i64 up, .int .i64 lo, .slice (some ⟨rb, 0, none⟩) rs.length rc] 26 (0, 0))
  rods : w.ownsRow B 56 2 (.slice (some ⟨rb, 0, none⟩) rs.length rc) rs.length (flat rs)
  moves : w.ownsRow B 89 3 (.slice (some ⟨g, 0, none⟩) ms.length c) ms.length (flatC mvC ms)
section
variable {B : Nat} {w : World} {N : Nat} {up lo : Int} {rb rc : Nat} {rs : List (Int × Int)} {g c : Nat} {ms : List Mv}
theorem DgAt.lt (h : DgAt B w N up lo rb rc rs g c ms) : N < w.heap.size := (Array.getElem?_eq_some_iff.1 h.box).1
theorem DgAt.next {w' : World} (h : DgAt B w N up lo rb rc rs g c ms) (hb : Below w.heap.size w w') : DgAt B w' N up lo rb rc rs g c ms :=
  ⟨h.ord, (hb.block _ h.lt).trans h.box, own_below h.rods hb, own_below h.moves hb⟩
theorem DgAt.rne (h : DgAt B w N up lo rb rc rs g c ms) : rb ≠ N := own_box h.rods h.box (by decide) rb rfl
theorem DgAt.mne (h : DgAt B w N up lo rb rc rs g c ms) : g ≠ N := own_box h.moves h.box (by decide) g rfl
theorem DgAt.mr (h : DgAt B w N up lo rb rc rs g c ms) : g ≠ rb := by
  obtain ⟨cur, hc⟩ := own_heap h.rods (q := rb) rfl
  exact own_box h.moves hc (by decide) g rfl
theorem DgAt.rodAt (h : DgAt B w N up lo rb rc rs g c ms) {q : Nat} (hq : q < rs.length) : w.cell? ⟨rb, q * 2, none⟩ = some (.int .i64 rs[q].1) ∧ w.cell? ⟨rb, q * 2 + 1, none⟩ = some (.int .i64 rs[q].2) := by
  have hf := flat_at rs q hq
  exact ⟨(h.rods.cellAt (q * 2) (by omega)).trans hf.1, (h.rods.cellAt (q * 2 + 1) (by omega)).trans hf.2⟩
/-- A rod is set in place. -/
theorem DgAt.setR (h : DgAt B w N up lo rb rc rs g c ms) {q : Nat} (hq : q < rs.length) (r : Int × Int) :
    DgAt B ((w.setCell ⟨rb, q * 2, none⟩ (.int .i64 r.1)).setCell ⟨rb, q * 2 + 1, none⟩ (.int .i64 r.2)) N up lo rb rc (rs.set q r) g c ms := by
  have hl : (rs.set q r).length = rs.length := List.length_set
  have hn := h.rne
  have hmr := h.mr
  refine ⟨h.ord, ?_, ?_, own_set_box (own_set_box h.moves (fun k hk => by cases hk; exact hmr) _ _) (fun k hk => by cases hk; exact hmr) _ _⟩
  · rw [hl]
    exact (Below.heap_setCell _ ⟨rb, q * 2 + 1, none⟩ _ N (fun e => hn e.symm)).trans ((Below.heap_setCell w ⟨rb, q * 2, none⟩ _ N (fun e => hn e.symm)).trans h.box)
  · rw [hl]
    have := ((h.rods.stored (q * 2) (.int .i64 r.1)).1.stored (q * 2 + 1) (.int .i64 r.2)).1
    rwa [flat_set rs q hq r] at this
/-- The moves are longer. -/
theorem DgAt.setM {w' : World} {g2 c2 : Nat} {ns : List Mv} (h : DgAt B w N up lo rb rc rs g c ms) (ho : w'.ownsRow B 89 3 (.slice (some ⟨g2, 0, none⟩) (ms.length + ns.length) c2) (ms.length + ns.length) (flatC mvC ms ++ flatC mvC ns)) (hg : w.grownBy w' (some g)) : DgAt B w' N up lo rb rc rs g2 c2 (ms ++ ns) := by
  rw [← flatC_app] at ho
  have hl : (ms ++ ns).length = ms.length + ns.length := List.length_append
  refine ⟨h.ord, (hg.block N h.lt (by intro e; injection e with e; exact h.mne e.symm)).trans h.box, own_kept2 h.rods h.moves (by decide) hg, ?_⟩
  rw [hl]; exact ho
end

set_option maxRecDepth 100000 in
set_option maxHeartbeats 3200000 in
theorem l6Digit_any (up lo : Int) (sv : Value) (rs : List (Int × Int)) (q0 : Nat) (d0 : Int) (w : World) (h : RodsR w sv rs) (hs : stdF rs) (hn : 0 < rs.length ∧ rs.length ≤ 8) (hq0 : q0 < rs.length) (hd0 : 0 ≤ d0) (hd1 : d0 ≤ 9) :
    Calls Tryd.prog 28 #[.agg #[.int .i64 up, .int .i64 lo, sv], .int .i64 q0, .int .i64 d0] w fun e w' => (∃ g c rb rc, e = .returned (.tuple #[.slice (some ⟨g, 0, none⟩) (chM (q0 + 1) d0 rs).length c, .agg #[.int .i64 up, .int .i64 lo, .slice (some ⟨rb, 0, none⟩) (chR (q0 + 1) d0 rs).length rc]]) ∧
      w'.ownsRow w.heap.size 56 2 (.slice (some ⟨rb, 0, none⟩) (chR (q0 + 1) d0 rs).length rc) (chR (q0 + 1) d0 rs).length (flat (chR (q0 + 1) d0 rs)) ∧ w'.ownsRow w.heap.size 89 3 (.slice (some ⟨g, 0, none⟩) (chM (q0 + 1) d0 rs).length c) (chM (q0 + 1) d0 rs).length (flatC mvC (chM (q0 + 1) d0 rs))) ∧ Below w.heap.size w w' := by
  obtain ⟨i0, hi, hz0, hz1, hz2⟩ := info_parts Tryd.infoBeadMove
  obtain ⟨a, cp, rfl⟩ : ∃ a c, sv = .slice a rs.length c := by obtain ⟨a, c, e, _⟩ := h; exact ⟨a, c, e⟩
  have hmt := chM_len (q0 + 1) d0 rs
  obtain ⟨MT, hMT⟩ : ∃ MT, MT = chM (q0 + 1) d0 rs := ⟨_, rfl⟩
  obtain ⟨RT, hRT⟩ : ∃ RT, RT = chR (q0 + 1) d0 rs := ⟨_, rfl⟩
  rw [← hMT] at hmt
  rw [← hMT, ← hRT]
  have HM0 := Lib.hid hMT.symm
  have HR0 := Lib.hid hRT.symm
  have HS0 := Lib.hid hs
  obtain ⟨hn0, hn1⟩ := hn
  clear hMT hRT hs
  have HB0 : Hid (Below w.heap.size w w) := Lib.hid (Below.refl _ _)
  have HRf0 := Lib.hid (h)
  clear h
  go_enter Tryd.func28, Tryd.ntmps28
  go_wp2_with fail
  -- the literal of no moves stands ahead of the copy
  have hb : Below w.heap.size w (((w.alloc (.cells #[.int .i64 up, .int .i64 lo, .slice a rs.length cp] 26)).alloc (.cells #[.int .i64 0, .int .i64 0, .slice none 0 0] 26)).alloc (.cells #[] 89)) := (((Below.refl _ _).alloc (Nat.le_refl _) _).alloc (by simp) _).alloc (by simp; omega) _
  have hkz : (((w.alloc (.cells #[.int .i64 up, .int .i64 lo, .slice a rs.length cp] 26)).alloc (.cells #[.int .i64 0, .int .i64 0, .slice none 0 0] 26)).alloc (.cells #[] 89)).heap[w.heap.size + 1]? = some (.cells #[.int .i64 0, .int .i64 0, .slice none 0 0] 26 (0, 0)) := by
    rw [alloc_old (by simp), alloc_at (by simp)]
  have hom : (((w.alloc (.cells #[.int .i64 up, .int .i64 lo, .slice a rs.length cp] 26)).alloc (.cells #[.int .i64 0, .int .i64 0, .slice none 0 0] 26)).alloc (.cells #[] 89)).ownsRow (w.heap.size + 2) 89 3 (.slice (some ⟨w.heap.size + 1 + 1, 0, none⟩) 0 0) 0 [] := by
    have := World.ownsRow_made (base := w.heap.size + 2) (e := 89) (size := 3) ((w.alloc (.cells #[.int .i64 up, .int .i64 lo, .slice a rs.length cp] 26)).alloc (.cells #[.int .i64 0, .int .i64 0, .slice none 0 0] 26)) #[] 0 (by simp) (Nat.zero_le _) (by simp)
    rw [show ((w.alloc (.cells #[.int .i64 up, .int .i64 lo, .slice a rs.length cp] 26)).alloc (.cells #[.int .i64 0, .int .i64 0, .slice none 0 0] 26)).heap.size = w.heap.size + 1 + 1 by simp] at this
    exact this
  have hsz : (((w.alloc (.cells #[.int .i64 up, .int .i64 lo, .slice a rs.length cp] 26)).alloc (.cells #[.int .i64 0, .int .i64 0, .slice none 0 0] 26)).alloc (.cells #[] 89)).heap.size = w.heap.size + 3 := by simp
  generalize ((w.alloc (.cells #[.int .i64 up, .int .i64 lo, .slice a rs.length cp] 26)).alloc (.cells #[.int .i64 0, .int .i64 0, .slice none 0 0] 26)).alloc (.cells #[] 89) = w1 at hb hkz hom hsz ⊢
  obtain ⟨B, hB⟩ : ∃ B, B = w.heap.size + 2 := ⟨_, rfl⟩
  have HR1 := Lib.hid (HRf0.out.below hb (Nat.le_refl _))
  have HB1 := Lib.hid hb
  have HKZ1 := Lib.hid hkz
  have HOM : Hid (w1.ownsRow B 89 3 (.slice (some ⟨w.heap.size + 1 + 1, 0, none⟩) 0 0) 0 []) := Lib.hid (by rw [hB]; exact hom)
  have hB1 : B ≤ w1.heap.size := by omega
  have HZB : Hid (w.heap.size + 1 < B) := Lib.hid (by omega)
  clear hb hkz hom hsz hB
  refine (l2Own_any up lo _ rs _ HR1.out ⟨hn0, by omega⟩).mono ?_
  rintro e w2 ⟨⟨v, rfl, ho⟩, hb⟩
  obtain ⟨rb0, rc0, rfl⟩ := own_block ho hn0
  go_wp2_with fail
  have hb3 : Below w2.heap.size w2 (w2.alloc (.cells #[.int .i64 up, .int .i64 lo, .slice (some ⟨rb0, 0, none⟩) rs.length rc0] 26)) := (Below.refl _ _).alloc (Nat.le_refl _) _
  have ha3 : DgAt B (w2.alloc (.cells #[.int .i64 up, .int .i64 lo, .slice (some ⟨rb0, 0, none⟩) rs.length rc0] 26)) w2.heap.size up lo rb0 rc0 rs (w.heap.size + 1 + 1) 0 [] :=
    ⟨by have := hb.size; omega, alloc_at rfl, (own_mono ho hB1).alloc _, (own_below HOM.out hb).alloc _⟩
  generalize w2.alloc (.cells #[.int .i64 up, .int .i64 lo, .slice (some ⟨rb0, 0, none⟩) rs.length rc0] 26) = w3 at hb3 ha3 ⊢
  have HBW : Hid (Below w.heap.size w w3) := Lib.hid ((HB1.out.trans (hb.mono HB1.out.size)).trans (hb3.mono (by have := hb.size; have := HB1.out.size; omega)))
  have HKZ : Hid (w3.heap[w.heap.size + 1]? = some (.cells #[.int .i64 0, .int .i64 0, .slice none 0 0] 26 (0, 0))) := Lib.hid (by
    rw [hb3.block _ (by have := hb.size; have := HZB.out; omega), hb.block _ (by have := HZB.out; omega)]; exact HKZ1.out)
  have HA := Lib.hid ha3
  generalize w2.heap.size = N at ha3 HA ⊢
  clear ha3 hb3 hb ho HR1 HB1 HKZ1 HOM
  go_loopw [1, 2, 8] (fun rv dv ov wr => ∃ (k : Nat) (dd : Int) (rs' : List (Int × Int)) (ms' : List Mv) (g c rb rc : Nat), rv = .int .i64 ((k : Int) - 1) ∧ dv = .int .i64 dd ∧ ov = .slice (some ⟨g, 0, none⟩) ms'.length c ∧ DgAt B wr N up lo rb rc rs' g c ms' ∧ Below B w3 wr ∧ k ≤ rs.length ∧ (0 ≤ dd ∧ dd ≤ 9) ∧ stdF rs' ∧ rs'.length = rs.length ∧ ms' ++ chM k dd rs' = MT ∧ chR k dd rs' = RT) (fun rv _ _ _ => (intOf rv + 1).toNat)
  case atStart => exact ⟨q0 + 1, d0, rs, [], _, _, rb0, rc0, by first | rfl | (congr 1; omega) | go_num, rfl, rfl, HA.out, Below.refl _ _, by omega, ⟨hd0, hd1⟩, HS0.out, rfl, HM0.out, HR0.out⟩
  case round =>
    obtain ⟨k, dd, rs', ms', g, c, rb, rc, rfl, rfl, rfl, ha, hb, hk, ⟨hdl, hdh⟩, hst, hln, hmT, hrT⟩ := hrel
    have HA0 := Lib.hid ha
    have HB0 := Lib.hid hb
    have HST := Lib.hid hst
    have HLN := Lib.hid hln
    have HMT := Lib.hid hmT
    have HRT := Lib.hid hrT
    obtain ⟨n0, n1, n2, m0, m1, m2⟩ := cell3 ha.box
    clear ha hb hst hmT hrT hln
    by_cases hgo : 0 < dd ∧ 0 < k
    · obtain ⟨hg1, hg2⟩ := hgo
      obtain ⟨i, rfl⟩ : ∃ i, k = i + 1 := ⟨k - 1, by omega⟩
      have hir : i < rs'.length := by have := HLN.out; omega
      have hq1 : (((i + 1 : Nat) : Int) - 1) = (i : Int) := by omega
      simp only [hq1]
      clear hq1
      obtain ⟨x0, x1⟩ := HA0.out.rodAt hir
      have hr0 := HST.out i hir
      have HV : Hid (5 * rs'[i].1 + rs'[i].2 = vAt rs' i) := Lib.hid (by rw [vAt_in hir]; rfl)
      obtain ⟨v, hv⟩ : ∃ v, v = vAt rs' i := ⟨_, rfl⟩
      have hvb := vAt_bd HST.out i
      rw [← hv] at hvb
      have HVE := Lib.hid hv
      have z1 : (0 : Int) ≤ (i : Int) := by omega
      have z2 : (i : Int) < (rs'.length : Int) := by omega
      clear hv
      have hws : IntKind.i64.wrap (v + dd) = v + dd := by rw [IntKind.wrap_i64]; omega
      obtain ⟨x, hxe⟩ : ∃ x, (v + dd) % 10 = x := ⟨_, rfl⟩
      have hmd : (v + dd).tmod 10 = x := by rw [Int.tmod_eq_emod_of_nonneg (by omega), hxe]
      have hx9 : 0 ≤ x ∧ x ≤ 9 := by omega
      have HXE := Lib.hid hxe
      go_wp2_with fail
      refine (l2Value_any rs'[i].1 rs'[i].2 _ (by omega) (by omega) (by omega) (by omega)).mono ?_
      rintro e w4 ⟨rfl, hb⟩
      rw [HV.out, ← HVE.out]
      have HA4 := Lib.hid (HA0.out.next hb)
      have HB4 : Hid (Below B w3 w4) := Lib.hid (HB0.out.trans (hb.mono (by have := HA0.out.lt; have := HA0.out.ord; omega)))
      clear n0 n1 n2 m0 m1 m2 x0 x1 hb
      go_wp2_with fail
      refine (l6Turn_any i v x _ hvb hx9).mono ?_
      rintro e w5 ⟨⟨g2, c2, rfl, ho2⟩, hb⟩
      have HA5 := Lib.hid (HA4.out.next hb)
      have HS4 : Hid (B ≤ w4.heap.size) := Lib.hid (by have := HA4.out.lt; have := HA4.out.ord; omega)
      have HB5 : Hid (Below B w3 w5) := Lib.hid (HB4.out.trans (hb.mono HS4.out))
      have HS5 : Hid (B ≤ w5.heap.size) := Lib.hid (by have := HA5.out.lt; have := HA5.out.ord; omega)
      have HO2 := Lib.hid ho2
      have htl := turnM_len i v x
      have hmsl : ms'.length ≤ 100 := by have := HMT.out; have h3 : ms'.length ≤ MT.length := by rw [← this, List.length_append]; omega
                                         omega
      clear ho2 hb
      go_wp2_with (at_builtin; refine wpList_append_rows (w := w5) rfl _ _ 44 rfl B 89 i0 (.agg #[.int .i64 0, .int .i64 0, .int .i64 0]) 3 24 Tryd.underlying44 hi hz0 hz1 hz2 rfl (by decide) mvC_len mvC_one g ms'.length c (flatC mvC ms') rfl HA5.out.moves (some ⟨g2, 0, none⟩) c2 (turnM i v x) rfl ?c2 ?c3 ?c4 ?c5 ?_)
      case c2 =>
        rcases (RowsR.of_own mvC_len HO2.out).src mvC_len (by decide) with h | ⟨ad, e1, h⟩
        · exact Or.inl h
        · exact Or.inr ⟨ad, e1, fun j u hj => h w5 (Below.refl _ _) j u hj⟩
      case c3 => unfold maxLen; omega
      case c4 => omega
      case c5 => exact HS5.out
      intro g3 c3 w6 ho6 hg6 _
      have HA6 := Lib.hid (HA5.out.setM ho6 hg6)
      have HB6 : Hid (Below B w3 w6) := Lib.hid (HB5.out.grown hg6 (by have := HS5.out; have := HB5.out.size; first | exact HS5.out | omega) (fun q hq => by cases hq; exact (HA5.out.moves.lt g rfl).1))
      clear ho6 hg6
      obtain ⟨n0, n1, n2, m0, m1, m2⟩ := cell3 HA6.out.box
      go_wp2_with fail
      refine wp_region_held_drew (S := (fun u => u.cell? ⟨N, 2, none⟩ = some (.slice (some ⟨rb, 0, none⟩) rs'.length rc))) (by kernel_rfl) (n2) (fun hHeld => ?_)
      have hb : Below w6.heap.size w6 w6.drew := (Below.refl _ _).drew
      generalize w6.drew = w7 at hb hHeld ⊢
      have HA7 := Lib.hid (HA6.out.next hb)
      have HB7 : Hid (Below B w3 w7) := Lib.hid (HB6.out.trans (hb.mono (by have := HA6.out.lt; have := HA6.out.ord; omega)))
      clear n0 n1 n2 m0 m1 m2 hb
      refine take1 (i := 0) (v := ?v1) (some 35) rfl rfl (by kernel_rfl) (by kernel_rfl) (by kernel_rfl) (fun _ _ _ h => h) (Or.inl ⟨by rfl, ?y1⟩) (by assumption) ?r1
      case y1 => (intro w hSw; (try dsimp only at hSw); go_simp; (first | done | with_reducible rfl))
      try simp only [Act.put, List.setIfInBounds_toArray, List.set_cons_zero, List.set_cons_succ]
      refine take1 (i := 1) (v := ?v2) (some 36) rfl rfl (by kernel_rfl) (by kernel_rfl) (by kernel_rfl) (fun _ _ _ h => h) (Or.inl ⟨by rfl, ?y2⟩) (by assumption) ?r2
      case y2 => (intro w hSw; (try dsimp only at hSw); go_simp; (first | done | with_reducible rfl))
      try simp only [Act.put, List.setIfInBounds_toArray, List.set_cons_zero, List.set_cons_succ]
      refine take1 (i := 2) (v := ?v3) (some 37) rfl rfl (by kernel_rfl) (by kernel_rfl) (by kernel_rfl) (fun _ _ _ h => h) (Or.inl ⟨by rfl, ?y3⟩) (by assumption) ?r3
      case y3 => (intro w hSw; (try dsimp only at hSw); go_simp; (first | done | with_reducible rfl))
      try simp only [Act.put, List.setIfInBounds_toArray, List.set_cons_zero, List.set_cons_succ]
      refine take1 (i := 3) (v := ?v4) (some 38) rfl rfl (by kernel_rfl) (by kernel_rfl) (by kernel_rfl) (fun _ _ _ h => h) (Or.inl ⟨by rfl, ?y4⟩) (by assumption) ?r4
      case y4 => (intro w hSw; (try dsimp only at hSw); go_simp; (first | done | with_reducible rfl))
      try simp only [Act.put, List.setIfInBounds_toArray, List.set_cons_zero, List.set_cons_succ]
      refine take1 (i := 4) (v := ?v5) (some 39) rfl rfl (by kernel_rfl) (by kernel_rfl) (by kernel_rfl) (fun _ _ _ h => h) (Or.inl ⟨by rfl, ?y5⟩) (by assumption) ?r5
      case y5 => (intro w hSw; (try dsimp only at hSw); go_simp; (first | done | with_reducible rfl))
      try simp only [Act.put, List.setIfInBounds_toArray, List.set_cons_zero, List.set_cons_succ]
      refine take1 (i := 5) (v := ?v6) (some 40) rfl rfl (by kernel_rfl) (by kernel_rfl) (by kernel_rfl) (fun _ _ _ h => h) (Or.inl ⟨by rfl, ?y6⟩) (by assumption) ?r6
      case y6 => (intro w hSw; (try dsimp only at hSw); go_simp; (first | done | with_reducible rfl))
      try simp only [Act.put, List.setIfInBounds_toArray, List.set_cons_zero, List.set_cons_succ]
      refine take1 (i := 6) (v := ?v7) (some 41) rfl rfl (by kernel_rfl) (by kernel_rfl) (by kernel_rfl) (fun _ _ _ h => h) (Or.inl ⟨by rfl, ?y7⟩) (by assumption) ?r7
      case y7 => (intro w hSw; (try dsimp only at hSw); go_simp; (first | done | with_reducible rfl))
      try simp only [Act.put, List.setIfInBounds_toArray, List.set_cons_zero, List.set_cons_succ]
      refine wpAnyH_ready (rs := [7]) (by kernel_rfl) (by simp) ?_
      refine AllReadyH.cons rfl (fun K hK => ?_) AllReadyH.nil
      go_simp
      go_at_call 51
      refine (l2Digit_any x _ ⟨hx9.1, by omega⟩).mono ?_
      rintro e w8 ⟨rfl, hb⟩
      have HA8 := Lib.hid (HA7.out.next hb)
      have HB8 : Hid (Below B w3 w8) := Lib.hid (HB7.out.trans (hb.mono (by have := HA7.out.lt; have := HA7.out.ord; omega)))
      clear hb
      obtain ⟨n0, n1, n2, m0, m1, m2⟩ := cell3 HA8.out.box
      obtain ⟨x0, x1⟩ := HA8.out.rodAt hir
      have y0 := HA8.out.rods.frozenAt (i * 2)
      have y1 := HA8.out.rods.frozenAt (i * 2 + 1)
      try go_simp
      refine hK.out _ _ (n2) (fun hHeld => ?_)
      clear hK K
      try simp only [Act.put, List.setIfInBounds_toArray, List.set_cons_zero, List.set_cons_succ]
      refine take1 (i := 8) (v := ?v8) (some 43) rfl rfl (by kernel_rfl) (by kernel_rfl) (by kernel_rfl) (fun _ _ _ h => h) (Or.inl ⟨by rfl, ?y8⟩) (by assumption) ?r8
      case y8 => (intro w hSw; (try dsimp only at hSw); go_simp; (first | done | with_reducible rfl))
      try simp only [Act.put, List.setIfInBounds_toArray, List.set_cons_zero, List.set_cons_succ]
      refine wpAnyH_ready (rs := [9]) (by kernel_rfl) (by simp) ?_
      refine AllReadyH.cons rfl (fun K hK => ?_) AllReadyH.nil
      go_simp
      have ha9 := HA8.out.setR hir (digR x)
      have hrb := (HA8.out.rods.lt rb rfl).1
      have hb9 : Below B w3 ((w8.setCell ⟨rb, i * 2, none⟩ (.int .i64 (x / 5))).setCell ⟨rb, i * 2 + 1, none⟩ (.int .i64 (x % 5))) := (HB8.out.setCell (p := ⟨rb, i * 2, none⟩) hrb _).setCell (p := ⟨rb, i * 2 + 1, none⟩) hrb _
      change DgAt B ((w8.setCell ⟨rb, i * 2, none⟩ (.int .i64 (x / 5))).setCell ⟨rb, i * 2 + 1, none⟩ (.int .i64 (x % 5))) _ _ _ _ _ _ _ _ _ at ha9
      generalize ((w8.setCell ⟨rb, i * 2, none⟩ (.int .i64 (x / 5))).setCell ⟨rb, i * 2 + 1, none⟩ (.int .i64 (x % 5))) = w9 at ha9 hb9 ⊢
      have HA9 := Lib.hid ha9
      have HB9 := Lib.hid hb9
      have hl9 : (rs'.set i (digR x)).length = rs'.length := List.length_set
      clear n0 n1 n2 m0 m1 m2 x0 x1 y0 y1 ha9 hb9
      obtain ⟨n0, n1, n2, m0, m1, m2⟩ := cell3 HA9.out.box
      rw [hl9] at n2
      refine hK.out _ _ (n2) (fun hHeld => ?_)
      clear hK K
      try simp only [Act.put]
      refine wpAnyH_done (by kernel_rfl) ?_ _
      have hE : ms' ++ turnM i v x ++ chM i ((v + dd) / 10) (rs'.set i (digR x)) = MT ∧ chR i ((v + dd) / 10) (rs'.set i (digR x)) = RT := by
        have h1 := HMT.out
        have h2 := HRT.out
        rw [chM, if_neg (by omega), ← HVE.out, HXE.out, ← List.append_assoc] at h1
        rw [chR, if_neg (by omega), ← HVE.out, HXE.out] at h2
        exact ⟨h1, h2⟩
      have HE := Lib.hid hE
      have HL9 := Lib.hid hl9
      have HSS := Lib.hid (stdF_set HST.out i x hx9.1 hx9.2)
      clear hE hl9 n0 n1 n2 m0 m1 m2
      go_wp2_with fail
      go_roundw
      case rel => exact ⟨i, (v + dd) / 10, rs'.set i (digR x), ms' ++ turnM i v x, g3, c3, rb, rc, by first | rfl | go_num, by first | rfl | go_num, by rw [List.length_append], HA9.out, HB9.out, by omega, ⟨by omega, by omega⟩, HSS.out, by rw [HL9.out]; exact HLN.out, HE.out.1, HE.out.2⟩
      case measure => simp [intOf]; try omega
    · have hend : ms' = MT ∧ rs' = RT := by
        have h1 := HMT.out
        have h2 := HRT.out
        by_cases hz : dd = 0
        · subst hz; rw [chM_zero, List.append_nil] at h1; rw [chR_zero] at h2; exact ⟨h1, h2⟩
        · have : k = 0 := by omega
          subst this; simp only [chM, List.append_nil] at h1; simp only [chR] at h2; exact ⟨h1, h2⟩
      obtain ⟨e1, e2⟩ := hend
      subst e1 e2
      clear HMT HRT
      by_cases hz : 0 < dd
      · have hk0 : k = 0 := by omega
        subst hk0
        clear hgo
        try simp only [Int.natCast_zero, Int.zero_sub]
        go_wp2_with fail
        refine wp_region_held_drew (S := (fun u => u.cell? ⟨N, 0, none⟩ = some (.int .i64 up) ∧ u.cell? ⟨N, 1, none⟩ = some (.int .i64 lo) ∧ u.cell? ⟨N, 2, none⟩ = some (.slice (some ⟨rb, 0, none⟩) rs'.length rc))) (by kernel_rfl) (⟨n0, n1, n2⟩) (fun hHeld => ?_)
        have hb : Below wr.heap.size wr wr.drew := (Below.refl _ _).drew
        generalize wr.drew = w5 at hb hHeld ⊢
        have HA5 := Lib.hid (HA0.out.next hb)
        have HB5 : Hid (Below B w3 w5) := Lib.hid (HB0.out.trans (hb.mono (by have := HA0.out.lt; have := HA0.out.ord; omega)))
        clear n0 n1 n2 hb
        obtain ⟨n0, n1, n2, -, -, -⟩ := cell3 HA5.out.box
        have hz5 := (HB5.out.block _ HZB.out).trans HKZ.out
        obtain ⟨z0, z1, z2, y0, y1, y2⟩ := cell3 hz5
        refine take1 (i := 0) (v := ?v9) (some 50) rfl rfl (by kernel_rfl) (by kernel_rfl) (by kernel_rfl) (fun _ _ _ h => h) (Or.inl ⟨by rfl, ?y9⟩) (by assumption) ?r9
        case y9 => (intro w hSw; (try dsimp only at hSw); go_simp; (first | done | with_reducible rfl))
        try simp only [Act.put, List.setIfInBounds_toArray, List.set_cons_zero, List.set_cons_succ]
        refine take1 (i := 1) (v := ?v10) (some 51) rfl rfl (by kernel_rfl) (by kernel_rfl) (by kernel_rfl) (fun _ _ _ h => h) (Or.inl ⟨by rfl, ?y10⟩) (by assumption) ?r10
        case y10 => (intro w hSw; (try dsimp only at hSw); go_simp; (first | done | with_reducible rfl))
        try simp only [Act.put, List.setIfInBounds_toArray, List.set_cons_zero, List.set_cons_succ]
        refine take1 (i := 2) (v := ?v11) (some 6) rfl rfl (by kernel_rfl) (by kernel_rfl) (by kernel_rfl) (fun _ _ _ h => h) (Or.inl ⟨by rfl, ?y11⟩) (by assumption) ?r11
        case y11 => (intro w hSw; (try dsimp only at hSw); go_simp; (first | done | with_reducible rfl))
        try simp only [Act.put, List.setIfInBounds_toArray, List.set_cons_zero, List.set_cons_succ]
        refine wpAnyH_ready (rs := [3]) (by kernel_rfl) (by simp) ?_
        refine AllReadyH.cons rfl (fun K hK => ?_) AllReadyH.nil
        go_simp
        have hzz := box3_set hz5 (.int .i64 up) (.int .i64 lo) (.slice (some ⟨rb, 0, none⟩) rs'.length rc)
        have hnn := (Below.heap_setCell _ ⟨w.heap.size + 1, 2, none⟩ (.slice (some ⟨rb, 0, none⟩) rs'.length rc) N (by have := HA5.out.ord; have := HZB.out; show N ≠ w.heap.size + 1; omega)).trans ((Below.heap_setCell _ ⟨w.heap.size + 1, 1, none⟩ (.int .i64 lo) N (by have := HA5.out.ord; have := HZB.out; show N ≠ w.heap.size + 1; omega)).trans ((Below.heap_setCell w5 ⟨w.heap.size + 1, 0, none⟩ (.int .i64 up) N (by have := HA5.out.ord; have := HZB.out; show N ≠ w.heap.size + 1; omega)).trans HA5.out.box))
        have ho1 := own_set3 HA5.out.rods HZB.out (.int .i64 up) (.int .i64 lo) (.slice (some ⟨rb, 0, none⟩) rs'.length rc)
        have ho2 := own_set3 HA5.out.moves HZB.out (.int .i64 up) (.int .i64 lo) (.slice (some ⟨rb, 0, none⟩) rs'.length rc)
        have hbl := bl_set3 (HBW.out.trans (HB5.out.mono (by have := HZB.out; omega))) (Nat.le_succ w.heap.size) (.int .i64 up) (.int .i64 lo) (.slice (some ⟨rb, 0, none⟩) rs'.length rc)
        clear n0 n1 n2 z0 z1 z2 y0 y1 y2
        generalize ((w5.setCell ⟨w.heap.size + 1, 0, none⟩ (.int .i64 up)).setCell ⟨w.heap.size + 1, 1, none⟩ (.int .i64 lo)).setCell ⟨w.heap.size + 1, 2, none⟩ (.slice (some ⟨rb, 0, none⟩) rs'.length rc) = w6 at hzz hnn ho1 ho2 hbl ⊢
        obtain ⟨n0, n1, n2, -, -, -⟩ := cell3 hnn
        refine hK.out _ _ (⟨n0, n1, n2⟩) (fun hHeld => ?_)
        clear hK K
        try simp only [Act.put]
        refine wpAnyH_done (by kernel_rfl) ?_ _
        obtain ⟨z0, z1, z2, -, -, -⟩ := cell3 hzz
        have HO1 := Lib.hid ho1
        have HO2 := Lib.hid ho2
        have HBL := Lib.hid hbl
        clear hzz hnn ho1 ho2 hbl
        go_wp2_with fail
        have hwB : w.heap.size ≤ B := by have := HZB.out; omega
        exact bodyPost_ret (v := .tuple #[.slice (some ⟨g, 0, none⟩) ms'.length c, .agg #[.int .i64 up, .int .i64 lo, .slice (some ⟨rb, 0, none⟩) rs'.length rc]]) (by simp [results, Tryd.results28, go_sem, z0, z1, z2]) rfl ⟨⟨g, c, rb, rc, rfl, own_mono HO1.out hwB, own_mono HO2.out hwB⟩, HBL.out⟩
      · clear hgo
        go_wp2_with fail
        refine wp_region_held_drew (S := (fun u => u.cell? ⟨N, 0, none⟩ = some (.int .i64 up) ∧ u.cell? ⟨N, 1, none⟩ = some (.int .i64 lo) ∧ u.cell? ⟨N, 2, none⟩ = some (.slice (some ⟨rb, 0, none⟩) rs'.length rc))) (by kernel_rfl) (⟨n0, n1, n2⟩) (fun hHeld => ?_)
        have hb : Below wr.heap.size wr wr.drew := (Below.refl _ _).drew
        generalize wr.drew = w5 at hb hHeld ⊢
        have HA5 := Lib.hid (HA0.out.next hb)
        have HB5 : Hid (Below B w3 w5) := Lib.hid (HB0.out.trans (hb.mono (by have := HA0.out.lt; have := HA0.out.ord; omega)))
        clear n0 n1 n2 hb
        obtain ⟨n0, n1, n2, -, -, -⟩ := cell3 HA5.out.box
        have hz5 := (HB5.out.block _ HZB.out).trans HKZ.out
        obtain ⟨z0, z1, z2, y0, y1, y2⟩ := cell3 hz5
        refine take1 (i := 0) (v := ?v12) (some 50) rfl rfl (by kernel_rfl) (by kernel_rfl) (by kernel_rfl) (fun _ _ _ h => h) (Or.inl ⟨by rfl, ?y12⟩) (by assumption) ?r12
        case y12 => (intro w hSw; (try dsimp only at hSw); go_simp; (first | done | with_reducible rfl))
        try simp only [Act.put, List.setIfInBounds_toArray, List.set_cons_zero, List.set_cons_succ]
        refine take1 (i := 1) (v := ?v13) (some 51) rfl rfl (by kernel_rfl) (by kernel_rfl) (by kernel_rfl) (fun _ _ _ h => h) (Or.inl ⟨by rfl, ?y13⟩) (by assumption) ?r13
        case y13 => (intro w hSw; (try dsimp only at hSw); go_simp; (first | done | with_reducible rfl))
        try simp only [Act.put, List.setIfInBounds_toArray, List.set_cons_zero, List.set_cons_succ]
        refine take1 (i := 2) (v := ?v14) (some 6) rfl rfl (by kernel_rfl) (by kernel_rfl) (by kernel_rfl) (fun _ _ _ h => h) (Or.inl ⟨by rfl, ?y14⟩) (by assumption) ?r14
        case y14 => (intro w hSw; (try dsimp only at hSw); go_simp; (first | done | with_reducible rfl))
        try simp only [Act.put, List.setIfInBounds_toArray, List.set_cons_zero, List.set_cons_succ]
        refine wpAnyH_ready (rs := [3]) (by kernel_rfl) (by simp) ?_
        refine AllReadyH.cons rfl (fun K hK => ?_) AllReadyH.nil
        go_simp
        have hzz := box3_set hz5 (.int .i64 up) (.int .i64 lo) (.slice (some ⟨rb, 0, none⟩) rs'.length rc)
        have hnn := (Below.heap_setCell _ ⟨w.heap.size + 1, 2, none⟩ (.slice (some ⟨rb, 0, none⟩) rs'.length rc) N (by have := HA5.out.ord; have := HZB.out; show N ≠ w.heap.size + 1; omega)).trans ((Below.heap_setCell _ ⟨w.heap.size + 1, 1, none⟩ (.int .i64 lo) N (by have := HA5.out.ord; have := HZB.out; show N ≠ w.heap.size + 1; omega)).trans ((Below.heap_setCell w5 ⟨w.heap.size + 1, 0, none⟩ (.int .i64 up) N (by have := HA5.out.ord; have := HZB.out; show N ≠ w.heap.size + 1; omega)).trans HA5.out.box))
        have ho1 := own_set3 HA5.out.rods HZB.out (.int .i64 up) (.int .i64 lo) (.slice (some ⟨rb, 0, none⟩) rs'.length rc)
        have ho2 := own_set3 HA5.out.moves HZB.out (.int .i64 up) (.int .i64 lo) (.slice (some ⟨rb, 0, none⟩) rs'.length rc)
        have hbl := bl_set3 (HBW.out.trans (HB5.out.mono (by have := HZB.out; omega))) (Nat.le_succ w.heap.size) (.int .i64 up) (.int .i64 lo) (.slice (some ⟨rb, 0, none⟩) rs'.length rc)
        clear n0 n1 n2 z0 z1 z2 y0 y1 y2
        generalize ((w5.setCell ⟨w.heap.size + 1, 0, none⟩ (.int .i64 up)).setCell ⟨w.heap.size + 1, 1, none⟩ (.int .i64 lo)).setCell ⟨w.heap.size + 1, 2, none⟩ (.slice (some ⟨rb, 0, none⟩) rs'.length rc) = w6 at hzz hnn ho1 ho2 hbl ⊢
        obtain ⟨n0, n1, n2, -, -, -⟩ := cell3 hnn
        refine hK.out _ _ (⟨n0, n1, n2⟩) (fun hHeld => ?_)
        clear hK K
        try simp only [Act.put]
        refine wpAnyH_done (by kernel_rfl) ?_ _
        obtain ⟨z0, z1, z2, -, -, -⟩ := cell3 hzz
        have HO1 := Lib.hid ho1
        have HO2 := Lib.hid ho2
        have HBL := Lib.hid hbl
        clear hzz hnn ho1 ho2 hbl
        go_wp2_with fail
        have hwB : w.heap.size ≤ B := by have := HZB.out; omega
        exact bodyPost_ret (v := .tuple #[.slice (some ⟨g, 0, none⟩) ms'.length c, .agg #[.int .i64 up, .int .i64 lo, .slice (some ⟨rb, 0, none⟩) rs'.length rc]]) (by simp [results, Tryd.results28, go_sem, z0, z1, z2]) rfl ⟨⟨g, c, rb, rc, rfl, own_mono HO1.out hwB, own_mono HO2.out hwB⟩, HBL.out⟩
end Go.Proofs.YtjkjaadcdolbhaaDoor

/-! Mad5 -/
namespace Go.Proofs.YtjkjaadcdolbhaaDoor
set_option linter.unusedVariables false
open Go.RowKit

theorem own_setb3 {w : World} {B : Nat} {e : TypeId} {size n : Nat} {v : Value} {xs : List Value} (h : w.ownsRow B e size v n xs) {T : Nat} (hT : ∀ g, v.ownBlock = some g → g ≠ T) (x y z : Value) :
    (((w.setCell ⟨T, 0, none⟩ x).setCell ⟨T, 1, none⟩ y).setCell ⟨T, 2, none⟩ z).ownsRow B e size v n xs := own_set_box (own_set_box (own_set_box h hT _ _) hT _ _) hT _ _
section
variable {B : Nat} {w : World} {N : Nat} {up lo : Int} {rb rc : Nat} {rs : List (Int × Int)} {g c : Nat} {ms : List Mv}
/-- A store into another box of the same type. -/
theorem DgAt.store3 (h : DgAt B w N up lo rb rc rs g c ms) {T : Nat} {cs : Array Value} (hT : w.heap[T]? = some (.cells cs 26 (0, 0))) (hne : N ≠ T) (x y z : Value) :
    DgAt B (((w.setCell ⟨T, 0, none⟩ x).setCell ⟨T, 1, none⟩ y).setCell ⟨T, 2, none⟩ z) N up lo rb rc rs g c ms :=
  ⟨h.ord, (Below.heap_setCell _ ⟨T, 2, none⟩ z N hne).trans ((Below.heap_setCell _ ⟨T, 1, none⟩ y N hne).trans ((Below.heap_setCell w ⟨T, 0, none⟩ x N hne).trans h.box)),
    own_setb3 h.rods (own_box h.rods hT (by decide)) x y z, own_setb3 h.moves (own_box h.moves hT (by decide)) x y z⟩
/-- The frame is set anew. -/
theorem DgAt.setF {rb2 rc2 : Nat} {rs2 : List (Int × Int)} (h : DgAt B w N up lo rb rc rs g c ms) (ho : w.ownsRow B 56 2 (.slice (some ⟨rb2, 0, none⟩) rs2.length rc2) rs2.length (flat rs2)) :
    DgAt B (((w.setCell ⟨N, 0, none⟩ (.int .i64 up)).setCell ⟨N, 1, none⟩ (.int .i64 lo)).setCell ⟨N, 2, none⟩ (.slice (some ⟨rb2, 0, none⟩) rs2.length rc2)) N up lo rb2 rc2 rs2 g c ms :=
  ⟨h.ord, box3_set h.box _ _ _, own_setb3 ho (own_box ho h.box (by decide)) _ _ _, own_setb3 h.moves (own_box h.moves h.box (by decide)) _ _ _⟩
end
/-- Where the model's adding stands. -/
structure NoAt (n : Nat) (m : Int) (RT : List (Int × Int)) (MT : List Mv) (k : Nat) (rs : List (Int × Int)) (ms : List Mv) : Prop where
  std : stdF rs
  len : rs.length = n
  le : k ≤ n
  mT : ms ++ goM k ((digs n m).drop k) rs = MT
  rT : goR k ((digs n m).drop k) rs = RT
theorem NoAt.step {n : Nat} {m : Int} {RT : List (Int × Int)} {MT : List Mv} {k : Nat} {rs : List (Int × Int)} {ms : List Mv} (h : NoAt n m RT MT k rs ms) (hk : k < n) (d : Int) (hd : m / 10 ^ (n - 1 - k) % 10 = d) : NoAt n m RT MT (k + 1) (chR (k + 1) d rs) (ms ++ chM (k + 1) d rs) := by
  have hm := h.mT
  have hr := h.rT
  rw [digs_drop n m k hk, hd] at hm hr
  simp only [goM] at hm
  simp only [goR] at hr
  exact ⟨chR_std _ _ _ h.std, by rw [chR_len]; exact h.len, hk, by rw [List.append_assoc]; exact hm, hr⟩
theorem NoAt.done {n : Nat} {m : Int} {RT : List (Int × Int)} {MT : List Mv} {rs : List (Int × Int)} {ms : List Mv} (h : NoAt n m RT MT n rs ms) : ms = MT ∧ rs = RT := by
  have hm := h.mT
  have hr := h.rT
  rw [List.drop_eq_nil_of_le (by rw [digs_len]; exact Nat.le_refl _)] at hm hr
  simp only [goM, List.append_nil] at hm
  simp only [goR] at hr
  exact ⟨hm, hr⟩
theorem NoAt.short {n : Nat} {m : Int} {RT : List (Int × Int)} {MT : List Mv} {k : Nat} {rs : List (Int × Int)} {ms : List Mv} (h : NoAt n m RT MT k rs ms) : ms.length ≤ MT.length := by rw [← h.mT, List.length_append]; omega

end Go.Proofs.YtjkjaadcdolbhaaDoor
