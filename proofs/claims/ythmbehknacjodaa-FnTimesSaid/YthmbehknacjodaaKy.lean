/- Parts laid as one: Mad4, Mad5. -/
import Derived.Test.YthmbehknacjodaaKx
import Derived.Test.YthmbehknacjodaaKf
import Derived.Test.YthmbehknacjodaaKl
import Derived.Test.YthmbehknacjodaaKi
import Derived.Test.YthmbehknacjodaaKd
/-! Mad4 -/
namespace Go.Proofs.Ythmbehknacjodaa
set_option linter.unusedVariables false
open Go.RowKit

/-- In a world: the box N of a frame that the call owns with its rods, and a list of moves. -/
structure DgAt (B : Nat) (w : World) (N : Nat) (up lo : Int) (rb rc : Nat) (rs : List (Int × Int)) (g c : Nat) (ms : List Mv) : Prop where
  ord : B ≤ N
  box : w.heap[N]? = some (.cells #[.int .i64 up, .int .i64 lo, .slice (some ⟨rb, 0, none⟩) rs.length rc] 42 (0, 0))
  rods : w.ownsRow B 77 2 (.slice (some ⟨rb, 0, none⟩) rs.length rc) rs.length (flat rs)
  moves : w.ownsRow B 138 3 (.slice (some ⟨g, 0, none⟩) ms.length c) ms.length (flatC mvC ms)
section
variable {B : Nat} {w : World} {N : Nat} {up lo : Int} {rb rc : Nat} {rs : List (Int × Int)} {g c : Nat} {ms : List Mv}
theorem DgAt.lt (h : DgAt B w N up lo rb rc rs g c ms) : N < w.heap.size := (Array.getElem?_eq_some_iff.1 h.box).1
theorem DgAt.next {w' : World} (h : DgAt B w N up lo rb rc rs g c ms) (hb : Below w.heap.size w w') : DgAt B w' N up lo rb rc rs g c ms :=
  ⟨h.ord, (hb.block _ h.lt).trans h.box, own_below h.rods hb, own_below h.moves hb⟩
theorem DgAt.rne (h : DgAt B w N up lo rb rc rs g c ms) : rb ≠ N := own_box h.rods h.box (by decide) rb rfl
theorem DgAt.mne (h : DgAt B w N up lo rb rc rs g c ms) : g ≠ N := own_box h.moves h.box (by decide) g rfl
theorem DgAt.mr (h : DgAt B w N up lo rb rc rs g c ms) : g ≠ rb := by
  obtain ⟨cur, hc⟩ := own_heap h.rods (q := rb) rfl
  exact own_box h.moves hc (by decide) g rfl
theorem DgAt.rodAt (h : DgAt B w N up lo rb rc rs g c ms) {q : Nat} (hq : q < rs.length) : w.cell? ⟨rb, q * 2, none⟩ = some (.int .i64 rs[q].1) ∧ w.cell? ⟨rb, q * 2 + 1, none⟩ = some (.int .i64 rs[q].2) := by
  have hf := flat_at rs q hq
  exact ⟨(h.rods.cellAt (q * 2) (by omega)).trans hf.1, (h.rods.cellAt (q * 2 + 1) (by omega)).trans hf.2⟩
/-- A rod is set in place. -/
theorem DgAt.setR (h : DgAt B w N up lo rb rc rs g c ms) {q : Nat} (hq : q < rs.length) (r : Int × Int) :
    DgAt B ((w.setCell ⟨rb, q * 2, none⟩ (.int .i64 r.1)).setCell ⟨rb, q * 2 + 1, none⟩ (.int .i64 r.2)) N up lo rb rc (rs.set q r) g c ms := by
  have hl : (rs.set q r).length = rs.length := List.length_set
  have hn := h.rne
  have hmr := h.mr
  refine ⟨h.ord, ?_, ?_, own_set_box (own_set_box h.moves (fun k hk => by cases hk; exact hmr) _ _) (fun k hk => by cases hk; exact hmr) _ _⟩
  · rw [hl]
    exact (Below.heap_setCell _ ⟨rb, q * 2 + 1, none⟩ _ N (fun e => hn e.symm)).trans ((Below.heap_setCell w ⟨rb, q * 2, none⟩ _ N (fun e => hn e.symm)).trans h.box)
  · rw [hl]
    have := ((h.rods.stored (q * 2) (.int .i64 r.1)).1.stored (q * 2 + 1) (.int .i64 r.2)).1
    rwa [flat_set rs q hq r] at this
/-- The moves are longer. -/
theorem DgAt.setM {w' : World} {g2 c2 : Nat} {ns : List Mv} (h : DgAt B w N up lo rb rc rs g c ms) (ho : w'.ownsRow B 138 3 (.slice (some ⟨g2, 0, none⟩) (ms.length + ns.length) c2) (ms.length + ns.length) (flatC mvC ms ++ flatC mvC ns)) (hg : w.grownBy w' (some g)) : DgAt B w' N up lo rb rc rs g2 c2 (ms ++ ns) := by
  rw [← flatC_app] at ho
  have hl : (ms ++ ns).length = ms.length + ns.length := List.length_append
  refine ⟨h.ord, (hg.block N h.lt (by intro e; injection e with e; exact h.mne e.symm)).trans h.box, own_kept2 h.rods h.moves (by decide) hg, ?_⟩
  rw [hl]; exact ho
end

set_option maxRecDepth 100000 in
set_option maxHeartbeats 3200000 in
theorem l6Digit_any (up lo : Int) (sv : Value) (rs : List (Int × Int)) (q0 : Nat) (d0 : Int) (w : World) (h : RodsR w sv rs) (hs : stdF rs) (hn : 0 < rs.length ∧ rs.length ≤ 8) (hq0 : q0 < rs.length) (hd0 : 0 ≤ d0) (hd1 : d0 ≤ 9) :
    Calls Try.prog 126 #[.agg #[.int .i64 up, .int .i64 lo, sv], .int .i64 q0, .int .i64 d0] w fun e w' => (∃ g c rb rc, e = .returned (.tuple #[.slice (some ⟨g, 0, none⟩) (chM (q0 + 1) d0 rs).length c, .agg #[.int .i64 up, .int .i64 lo, .slice (some ⟨rb, 0, none⟩) (chR (q0 + 1) d0 rs).length rc]]) ∧
      w'.ownsRow w.heap.size 77 2 (.slice (some ⟨rb, 0, none⟩) (chR (q0 + 1) d0 rs).length rc) (chR (q0 + 1) d0 rs).length (flat (chR (q0 + 1) d0 rs)) ∧ w'.ownsRow w.heap.size 138 3 (.slice (some ⟨g, 0, none⟩) (chM (q0 + 1) d0 rs).length c) (chM (q0 + 1) d0 rs).length (flatC mvC (chM (q0 + 1) d0 rs))) ∧ Below w.heap.size w w' := by
  obtain ⟨i0, hi, hz0, hz1, hz2⟩ := info_parts Try.infoBeadMove
  obtain ⟨a, cp, rfl⟩ : ∃ a c, sv = .slice a rs.length c := by obtain ⟨a, c, e, _⟩ := h; exact ⟨a, c, e⟩
  have hmt := chM_len (q0 + 1) d0 rs
  obtain ⟨MT, hMT⟩ : ∃ MT, MT = chM (q0 + 1) d0 rs := ⟨_, rfl⟩
  obtain ⟨RT, hRT⟩ : ∃ RT, RT = chR (q0 + 1) d0 rs := ⟨_, rfl⟩
  rw [← hMT] at hmt
  rw [← hMT, ← hRT]
  have HM0 := Lib.hid hMT.symm
  have HR0 := Lib.hid hRT.symm
  have HS0 := Lib.hid hs
  obtain ⟨hn0, hn1⟩ := hn
  clear hMT hRT hs
  have HB0 : Hid (Below w.heap.size w w) := Lib.hid (Below.refl _ _)
  have HRf0 := Lib.hid (h)
  clear h
  go_enter Try.func126, Try.ntmps126
  go_wp2_with fail
  -- the literal of no moves stands ahead of the copy
  have hb : Below w.heap.size w (((w.alloc (.cells #[.int .i64 up, .int .i64 lo, .slice a rs.length cp] 42)).alloc (.cells #[.int .i64 0, .int .i64 0, .slice none 0 0] 42)).alloc (.cells #[] 138)) := (((Below.refl _ _).alloc (Nat.le_refl _) _).alloc (by simp) _).alloc (by simp; omega) _
  have hkz : (((w.alloc (.cells #[.int .i64 up, .int .i64 lo, .slice a rs.length cp] 42)).alloc (.cells #[.int .i64 0, .int .i64 0, .slice none 0 0] 42)).alloc (.cells #[] 138)).heap[w.heap.size + 1]? = some (.cells #[.int .i64 0, .int .i64 0, .slice none 0 0] 42 (0, 0)) := by
    rw [alloc_old (by simp), alloc_at (by simp)]
  have hom : (((w.alloc (.cells #[.int .i64 up, .int .i64 lo, .slice a rs.length cp] 42)).alloc (.cells #[.int .i64 0, .int .i64 0, .slice none 0 0] 42)).alloc (.cells #[] 138)).ownsRow (w.heap.size + 2) 138 3 (.slice (some ⟨w.heap.size + 1 + 1, 0, none⟩) 0 0) 0 [] := by
    have := World.ownsRow_made (base := w.heap.size + 2) (e := 138) (size := 3) ((w.alloc (.cells #[.int .i64 up, .int .i64 lo, .slice a rs.length cp] 42)).alloc (.cells #[.int .i64 0, .int .i64 0, .slice none 0 0] 42)) #[] 0 (by simp) (Nat.zero_le _) (by simp)
    rw [show ((w.alloc (.cells #[.int .i64 up, .int .i64 lo, .slice a rs.length cp] 42)).alloc (.cells #[.int .i64 0, .int .i64 0, .slice none 0 0] 42)).heap.size = w.heap.size + 1 + 1 by simp] at this
    exact this
  have hsz : (((w.alloc (.cells #[.int .i64 up, .int .i64 lo, .slice a rs.length cp] 42)).alloc (.cells #[.int .i64 0, .int .i64 0, .slice none 0 0] 42)).alloc (.cells #[] 138)).heap.size = w.heap.size + 3 := by simp
  generalize ((w.alloc (.cells #[.int .i64 up, .int .i64 lo, .slice a rs.length cp] 42)).alloc (.cells #[.int .i64 0, .int .i64 0, .slice none 0 0] 42)).alloc (.cells #[] 138) = w1 at hb hkz hom hsz ⊢
  obtain ⟨B, hB⟩ : ∃ B, B = w.heap.size + 2 := ⟨_, rfl⟩
  have HR1 := Lib.hid (HRf0.out.below hb (Nat.le_refl _))
  have HB1 := Lib.hid hb
  have HKZ1 := Lib.hid hkz
  have HOM : Hid (w1.ownsRow B 138 3 (.slice (some ⟨w.heap.size + 1 + 1, 0, none⟩) 0 0) 0 []) := Lib.hid (by rw [hB]; exact hom)
  have hB1 : B ≤ w1.heap.size := by omega
  have HZB : Hid (w.heap.size + 1 < B) := Lib.hid (by omega)
  clear hb hkz hom hsz hB
  refine (l2Own_any up lo _ rs _ HR1.out ⟨hn0, by omega⟩).mono ?_
  rintro e w2 ⟨⟨v, rfl, ho⟩, hb⟩
  obtain ⟨rb0, rc0, rfl⟩ := own_block ho hn0
  go_wp2_with fail
  have hb3 : Below w2.heap.size w2 (w2.alloc (.cells #[.int .i64 up, .int .i64 lo, .slice (some ⟨rb0, 0, none⟩) rs.length rc0] 42)) := (Below.refl _ _).alloc (Nat.le_refl _) _
  have ha3 : DgAt B (w2.alloc (.cells #[.int .i64 up, .int .i64 lo, .slice (some ⟨rb0, 0, none⟩) rs.length rc0] 42)) w2.heap.size up lo rb0 rc0 rs (w.heap.size + 1 + 1) 0 [] :=
    ⟨by have := hb.size; omega, alloc_at rfl, (own_mono ho hB1).alloc _, (own_below HOM.out hb).alloc _⟩
  generalize w2.alloc (.cells #[.int .i64 up, .int .i64 lo, .slice (some ⟨rb0, 0, none⟩) rs.length rc0] 42) = w3 at hb3 ha3 ⊢
  have HBW : Hid (Below w.heap.size w w3) := Lib.hid ((HB1.out.trans (hb.mono HB1.out.size)).trans (hb3.mono (by have := hb.size; have := HB1.out.size; omega)))
  have HKZ : Hid (w3.heap[w.heap.size + 1]? = some (.cells #[.int .i64 0, .int .i64 0, .slice none 0 0] 42 (0, 0))) := Lib.hid (by
    rw [hb3.block _ (by have := hb.size; have := HZB.out; omega), hb.block _ (by have := HZB.out; omega)]; exact HKZ1.out)
  have HA := Lib.hid ha3
  generalize w2.heap.size = N at ha3 HA ⊢
  clear ha3 hb3 hb ho HR1 HB1 HKZ1 HOM
  go_loopw [1, 2, 8] (fun rv dv ov wr => ∃ (k : Nat) (dd : Int) (rs' : List (Int × Int)) (ms' : List Mv) (g c rb rc : Nat), rv = .int .i64 ((k : Int) - 1) ∧ dv = .int .i64 dd ∧ ov = .slice (some ⟨g, 0, none⟩) ms'.length c ∧ DgAt B wr N up lo rb rc rs' g c ms' ∧ Below B w3 wr ∧ k ≤ rs.length ∧ (0 ≤ dd ∧ dd ≤ 9) ∧ stdF rs' ∧ rs'.length = rs.length ∧ ms' ++ chM k dd rs' = MT ∧ chR k dd rs' = RT) (fun rv _ _ _ => (intOf rv + 1).toNat)
  case atStart => exact ⟨q0 + 1, d0, rs, [], _, _, rb0, rc0, by first | rfl | (congr 1; omega) | go_num, rfl, rfl, HA.out, Below.refl _ _, by omega, ⟨hd0, hd1⟩, HS0.out, rfl, HM0.out, HR0.out⟩
  case round =>
    obtain ⟨k, dd, rs', ms', g, c, rb, rc, rfl, rfl, rfl, ha, hb, hk, ⟨hdl, hdh⟩, hst, hln, hmT, hrT⟩ := hrel
    have HA0 := Lib.hid ha
    have HB0 := Lib.hid hb
    have HST := Lib.hid hst
    have HLN := Lib.hid hln
    have HMT := Lib.hid hmT
    have HRT := Lib.hid hrT
    obtain ⟨n0, n1, n2, m0, m1, m2⟩ := cell3 ha.box
    clear ha hb hst hmT hrT hln
    by_cases hgo : 0 < dd ∧ 0 < k
    · obtain ⟨hg1, hg2⟩ := hgo
      obtain ⟨i, rfl⟩ : ∃ i, k = i + 1 := ⟨k - 1, by omega⟩
      have hir : i < rs'.length := by have := HLN.out; omega
      have hq1 : (((i + 1 : Nat) : Int) - 1) = (i : Int) := by omega
      simp only [hq1]
      clear hq1
      obtain ⟨x0, x1⟩ := HA0.out.rodAt hir
      have hr0 := HST.out i hir
      have HV : Hid (5 * rs'[i].1 + rs'[i].2 = vAt rs' i) := Lib.hid (by rw [vAt_in hir]; rfl)
      obtain ⟨v, hv⟩ : ∃ v, v = vAt rs' i := ⟨_, rfl⟩
      have hvb := vAt_bd HST.out i
      rw [← hv] at hvb
      have HVE := Lib.hid hv
      have z1 : (0 : Int) ≤ (i : Int) := by omega
      have z2 : (i : Int) < (rs'.length : Int) := by omega
      clear hv
      have hws : IntKind.i64.wrap (v + dd) = v + dd := by rw [IntKind.wrap_i64]; omega
      obtain ⟨x, hxe⟩ : ∃ x, (v + dd) % 10 = x := ⟨_, rfl⟩
      have hmd : (v + dd).tmod 10 = x := by rw [Int.tmod_eq_emod_of_nonneg (by omega), hxe]
      have hx9 : 0 ≤ x ∧ x ≤ 9 := by omega
      have HXE := Lib.hid hxe
      go_wp2_with fail
      refine (l2Value_any rs'[i].1 rs'[i].2 _ (by omega) (by omega) (by omega) (by omega)).mono ?_
      rintro e w4 ⟨rfl, hb⟩
      rw [HV.out, ← HVE.out]
      have HA4 := Lib.hid (HA0.out.next hb)
      have HB4 : Hid (Below B w3 w4) := Lib.hid (HB0.out.trans (hb.mono (by have := HA0.out.lt; have := HA0.out.ord; omega)))
      clear n0 n1 n2 m0 m1 m2 x0 x1 hb
      go_wp2_with fail
      refine (l6Turn_any i v x _ hvb hx9).mono ?_
      rintro e w5 ⟨⟨g2, c2, rfl, ho2⟩, hb⟩
      have HA5 := Lib.hid (HA4.out.next hb)
      have HS4 : Hid (B ≤ w4.heap.size) := Lib.hid (by have := HA4.out.lt; have := HA4.out.ord; omega)
      have HB5 : Hid (Below B w3 w5) := Lib.hid (HB4.out.trans (hb.mono HS4.out))
      have HS5 : Hid (B ≤ w5.heap.size) := Lib.hid (by have := HA5.out.lt; have := HA5.out.ord; omega)
      have HO2 := Lib.hid ho2
      have htl := turnM_len i v x
      have hmsl : ms'.length ≤ 100 := by have := HMT.out; have h3 : ms'.length ≤ MT.length := by rw [← this, List.length_append]; omega
                                         omega
      clear ho2 hb
      go_wp2_with (at_builtin; refine wpList_append_rows (w := w5) rfl _ _ 81 rfl B 138 i0 (.agg #[.int .i64 0, .int .i64 0, .int .i64 0]) 3 24 Try.underlying81 hi hz0 hz1 hz2 rfl (by decide) mvC_len mvC_one g ms'.length c (flatC mvC ms') rfl HA5.out.moves (some ⟨g2, 0, none⟩) c2 (turnM i v x) rfl ?c2 ?c3 ?c4 ?c5 ?_)
      case c2 =>
        rcases (RowsR.of_own mvC_len HO2.out).src mvC_len (by decide) with h | ⟨ad, e1, h⟩
        · exact Or.inl h
        · exact Or.inr ⟨ad, e1, fun j u hj => h w5 (Below.refl _ _) j u hj⟩
      case c3 => unfold maxLen; omega
      case c4 => omega
      case c5 => exact HS5.out
      intro g3 c3 w6 ho6 hg6 _
      have HA6 := Lib.hid (HA5.out.setM ho6 hg6)
      have HB6 : Hid (Below B w3 w6) := Lib.hid (HB5.out.grown hg6 (by have := HS5.out; have := HB5.out.size; first | exact HS5.out | omega) (fun q hq => by cases hq; exact (HA5.out.moves.lt g rfl).1))
      clear ho6 hg6
      obtain ⟨n0, n1, n2, m0, m1, m2⟩ := cell3 HA6.out.box
      go_wp2_with fail
      refine wp_region_held_drew (S := (fun u => u.cell? ⟨N, 2, none⟩ = some (.slice (some ⟨rb, 0, none⟩) rs'.length rc))) (by kernel_rfl) (n2) (fun hHeld => ?_)
      have hb : Below w6.heap.size w6 w6.drew := (Below.refl _ _).drew
      generalize w6.drew = w7 at hb hHeld ⊢
      have HA7 := Lib.hid (HA6.out.next hb)
      have HB7 : Hid (Below B w3 w7) := Lib.hid (HB6.out.trans (hb.mono (by have := HA6.out.lt; have := HA6.out.ord; omega)))
      clear n0 n1 n2 m0 m1 m2 hb
      refine take1 (i := 0) (v := ?v1) (some 35) rfl rfl (by kernel_rfl) (by kernel_rfl) (by kernel_rfl) (fun _ _ _ h => h) (Or.inl ⟨by rfl, ?y1⟩) (by assumption) ?r1
      case y1 => (intro w hSw; (try dsimp only at hSw); go_simp; (first | done | with_reducible rfl))
      try simp only [Act.put, List.setIfInBounds_toArray, List.set_cons_zero, List.set_cons_succ]
      refine take1 (i := 1) (v := ?v2) (some 36) rfl rfl (by kernel_rfl) (by kernel_rfl) (by kernel_rfl) (fun _ _ _ h => h) (Or.inl ⟨by rfl, ?y2⟩) (by assumption) ?r2
      case y2 => (intro w hSw; (try dsimp only at hSw); go_simp; (first | done | with_reducible rfl))
      try simp only [Act.put, List.setIfInBounds_toArray, List.set_cons_zero, List.set_cons_succ]
      refine take1 (i := 2) (v := ?v3) (some 37) rfl rfl (by kernel_rfl) (by kernel_rfl) (by kernel_rfl) (fun _ _ _ h => h) (Or.inl ⟨by rfl, ?y3⟩) (by assumption) ?r3
      case y3 => (intro w hSw; (try dsimp only at hSw); go_simp; (first | done | with_reducible rfl))
      try simp only [Act.put, List.setIfInBounds_toArray, List.set_cons_zero, List.set_cons_succ]
      refine take1 (i := 3) (v := ?v4) (some 38) rfl rfl (by kernel_rfl) (by kernel_rfl) (by kernel_rfl) (fun _ _ _ h => h) (Or.inl ⟨by rfl, ?y4⟩) (by assumption) ?r4
      case y4 => (intro w hSw; (try dsimp only at hSw); go_simp; (first | done | with_reducible rfl))
      try simp only [Act.put, List.setIfInBounds_toArray, List.set_cons_zero, List.set_cons_succ]
      refine take1 (i := 4) (v := ?v5) (some 39) rfl rfl (by kernel_rfl) (by kernel_rfl) (by kernel_rfl) (fun _ _ _ h => h) (Or.inl ⟨by rfl, ?y5⟩) (by assumption) ?r5
      case y5 => (intro w hSw; (try dsimp only at hSw); go_simp; (first | done | with_reducible rfl))
      try simp only [Act.put, List.setIfInBounds_toArray, List.set_cons_zero, List.set_cons_succ]
      refine take1 (i := 5) (v := ?v6) (some 40) rfl rfl (by kernel_rfl) (by kernel_rfl) (by kernel_rfl) (fun _ _ _ h => h) (Or.inl ⟨by rfl, ?y6⟩) (by assumption) ?r6
      case y6 => (intro w hSw; (try dsimp only at hSw); go_simp; (first | done | with_reducible rfl))
      try simp only [Act.put, List.setIfInBounds_toArray, List.set_cons_zero, List.set_cons_succ]
      refine take1 (i := 6) (v := ?v7) (some 41) rfl rfl (by kernel_rfl) (by kernel_rfl) (by kernel_rfl) (fun _ _ _ h => h) (Or.inl ⟨by rfl, ?y7⟩) (by assumption) ?r7
      case y7 => (intro w hSw; (try dsimp only at hSw); go_simp; (first | done | with_reducible rfl))
      try simp only [Act.put, List.setIfInBounds_toArray, List.set_cons_zero, List.set_cons_succ]
      refine wpAnyH_ready (rs := [7]) (by kernel_rfl) (by simp) ?_
      refine AllReadyH.cons rfl (fun K hK => ?_) AllReadyH.nil
      go_simp
      go_at_call 121
      refine (l2Digit_any x _ ⟨hx9.1, by omega⟩).mono ?_
      rintro e w8 ⟨rfl, hb⟩
      have HA8 := Lib.hid (HA7.out.next hb)
      have HB8 : Hid (Below B w3 w8) := Lib.hid (HB7.out.trans (hb.mono (by have := HA7.out.lt; have := HA7.out.ord; omega)))
      clear hb
      obtain ⟨n0, n1, n2, m0, m1, m2⟩ := cell3 HA8.out.box
      obtain ⟨x0, x1⟩ := HA8.out.rodAt hir
      have y0 := HA8.out.rods.frozenAt (i * 2)
      have y1 := HA8.out.rods.frozenAt (i * 2 + 1)
      try go_simp
      refine hK.out _ _ (n2) (fun hHeld => ?_)
      clear hK K
      try simp only [Act.put, List.setIfInBounds_toArray, List.set_cons_zero, List.set_cons_succ]
      refine take1 (i := 8) (v := ?v8) (some 43) rfl rfl (by kernel_rfl) (by kernel_rfl) (by kernel_rfl) (fun _ _ _ h => h) (Or.inl ⟨by rfl, ?y8⟩) (by assumption) ?r8
      case y8 => (intro w hSw; (try dsimp only at hSw); go_simp; (first | done | with_reducible rfl))
      try simp only [Act.put, List.setIfInBounds_toArray, List.set_cons_zero, List.set_cons_succ]
      refine wpAnyH_ready (rs := [9]) (by kernel_rfl) (by simp) ?_
      refine AllReadyH.cons rfl (fun K hK => ?_) AllReadyH.nil
      go_simp
      have ha9 := HA8.out.setR hir (digR x)
      have hrb := (HA8.out.rods.lt rb rfl).1
      have hb9 : Below B w3 ((w8.setCell ⟨rb, i * 2, none⟩ (.int .i64 (x / 5))).setCell ⟨rb, i * 2 + 1, none⟩ (.int .i64 (x % 5))) := (HB8.out.setCell (p := ⟨rb, i * 2, none⟩) hrb _).setCell (p := ⟨rb, i * 2 + 1, none⟩) hrb _
      change DgAt B ((w8.setCell ⟨rb, i * 2, none⟩ (.int .i64 (x / 5))).setCell ⟨rb, i * 2 + 1, none⟩ (.int .i64 (x % 5))) _ _ _ _ _ _ _ _ _ at ha9
      generalize ((w8.setCell ⟨rb, i * 2, none⟩ (.int .i64 (x / 5))).setCell ⟨rb, i * 2 + 1, none⟩ (.int .i64 (x % 5))) = w9 at ha9 hb9 ⊢
      have HA9 := Lib.hid ha9
      have HB9 := Lib.hid hb9
      have hl9 : (rs'.set i (digR x)).length = rs'.length := List.length_set
      clear n0 n1 n2 m0 m1 m2 x0 x1 y0 y1 ha9 hb9
      obtain ⟨n0, n1, n2, m0, m1, m2⟩ := cell3 HA9.out.box
      rw [hl9] at n2
      refine hK.out _ _ (n2) (fun hHeld => ?_)
      clear hK K
      try simp only [Act.put]
      refine wpAnyH_done (by kernel_rfl) ?_ _
      have hE : ms' ++ turnM i v x ++ chM i ((v + dd) / 10) (rs'.set i (digR x)) = MT ∧ chR i ((v + dd) / 10) (rs'.set i (digR x)) = RT := by
        have h1 := HMT.out
        have h2 := HRT.out
        rw [chM, if_neg (by omega), ← HVE.out, HXE.out, ← List.append_assoc] at h1
        rw [chR, if_neg (by omega), ← HVE.out, HXE.out] at h2
        exact ⟨h1, h2⟩
      have HE := Lib.hid hE
      have HL9 := Lib.hid hl9
      have HSS := Lib.hid (stdF_set HST.out i x hx9.1 hx9.2)
      clear hE hl9 n0 n1 n2 m0 m1 m2
      go_wp2_with fail
      go_roundw
      case rel => exact ⟨i, (v + dd) / 10, rs'.set i (digR x), ms' ++ turnM i v x, g3, c3, rb, rc, by first | rfl | go_num, by first | rfl | go_num, by rw [List.length_append], HA9.out, HB9.out, by omega, ⟨by omega, by omega⟩, HSS.out, by rw [HL9.out]; exact HLN.out, HE.out.1, HE.out.2⟩
      case measure => simp [intOf]; try omega
    · have hend : ms' = MT ∧ rs' = RT := by
        have h1 := HMT.out
        have h2 := HRT.out
        by_cases hz : dd = 0
        · subst hz; rw [chM_zero, List.append_nil] at h1; rw [chR_zero] at h2; exact ⟨h1, h2⟩
        · have : k = 0 := by omega
          subst this; simp only [chM, List.append_nil] at h1; simp only [chR] at h2; exact ⟨h1, h2⟩
      obtain ⟨e1, e2⟩ := hend
      subst e1 e2
      clear HMT HRT
      by_cases hz : 0 < dd
      · have hk0 : k = 0 := by omega
        subst hk0
        clear hgo
        try simp only [Int.natCast_zero, Int.zero_sub]
        go_wp2_with fail
        refine wp_region_held_drew (S := (fun u => u.cell? ⟨N, 0, none⟩ = some (.int .i64 up) ∧ u.cell? ⟨N, 1, none⟩ = some (.int .i64 lo) ∧ u.cell? ⟨N, 2, none⟩ = some (.slice (some ⟨rb, 0, none⟩) rs'.length rc))) (by kernel_rfl) (⟨n0, n1, n2⟩) (fun hHeld => ?_)
        have hb : Below wr.heap.size wr wr.drew := (Below.refl _ _).drew
        generalize wr.drew = w5 at hb hHeld ⊢
        have HA5 := Lib.hid (HA0.out.next hb)
        have HB5 : Hid (Below B w3 w5) := Lib.hid (HB0.out.trans (hb.mono (by have := HA0.out.lt; have := HA0.out.ord; omega)))
        clear n0 n1 n2 hb
        obtain ⟨n0, n1, n2, -, -, -⟩ := cell3 HA5.out.box
        have hz5 := (HB5.out.block _ HZB.out).trans HKZ.out
        obtain ⟨z0, z1, z2, y0, y1, y2⟩ := cell3 hz5
        refine take1 (i := 0) (v := ?v9) (some 50) rfl rfl (by kernel_rfl) (by kernel_rfl) (by kernel_rfl) (fun _ _ _ h => h) (Or.inl ⟨by rfl, ?y9⟩) (by assumption) ?r9
        case y9 => (intro w hSw; (try dsimp only at hSw); go_simp; (first | done | with_reducible rfl))
        try simp only [Act.put, List.setIfInBounds_toArray, List.set_cons_zero, List.set_cons_succ]
        refine take1 (i := 1) (v := ?v10) (some 51) rfl rfl (by kernel_rfl) (by kernel_rfl) (by kernel_rfl) (fun _ _ _ h => h) (Or.inl ⟨by rfl, ?y10⟩) (by assumption) ?r10
        case y10 => (intro w hSw; (try dsimp only at hSw); go_simp; (first | done | with_reducible rfl))
        try simp only [Act.put, List.setIfInBounds_toArray, List.set_cons_zero, List.set_cons_succ]
        refine take1 (i := 2) (v := ?v11) (some 6) rfl rfl (by kernel_rfl) (by kernel_rfl) (by kernel_rfl) (fun _ _ _ h => h) (Or.inl ⟨by rfl, ?y11⟩) (by assumption) ?r11
        case y11 => (intro w hSw; (try dsimp only at hSw); go_simp; (first | done | with_reducible rfl))
        try simp only [Act.put, List.setIfInBounds_toArray, List.set_cons_zero, List.set_cons_succ]
        refine wpAnyH_ready (rs := [3]) (by kernel_rfl) (by simp) ?_
        refine AllReadyH.cons rfl (fun K hK => ?_) AllReadyH.nil
        go_simp
        have hzz := box3_set hz5 (.int .i64 up) (.int .i64 lo) (.slice (some ⟨rb, 0, none⟩) rs'.length rc)
        have hnn := (Below.heap_setCell _ ⟨w.heap.size + 1, 2, none⟩ (.slice (some ⟨rb, 0, none⟩) rs'.length rc) N (by have := HA5.out.ord; have := HZB.out; show N ≠ w.heap.size + 1; omega)).trans ((Below.heap_setCell _ ⟨w.heap.size + 1, 1, none⟩ (.int .i64 lo) N (by have := HA5.out.ord; have := HZB.out; show N ≠ w.heap.size + 1; omega)).trans ((Below.heap_setCell w5 ⟨w.heap.size + 1, 0, none⟩ (.int .i64 up) N (by have := HA5.out.ord; have := HZB.out; show N ≠ w.heap.size + 1; omega)).trans HA5.out.box))
        have ho1 := own_set3 HA5.out.rods HZB.out (.int .i64 up) (.int .i64 lo) (.slice (some ⟨rb, 0, none⟩) rs'.length rc)
        have ho2 := own_set3 HA5.out.moves HZB.out (.int .i64 up) (.int .i64 lo) (.slice (some ⟨rb, 0, none⟩) rs'.length rc)
        have hbl := bl_set3 (HBW.out.trans (HB5.out.mono (by have := HZB.out; omega))) (Nat.le_succ w.heap.size) (.int .i64 up) (.int .i64 lo) (.slice (some ⟨rb, 0, none⟩) rs'.length rc)
        clear n0 n1 n2 z0 z1 z2 y0 y1 y2
        generalize ((w5.setCell ⟨w.heap.size + 1, 0, none⟩ (.int .i64 up)).setCell ⟨w.heap.size + 1, 1, none⟩ (.int .i64 lo)).setCell ⟨w.heap.size + 1, 2, none⟩ (.slice (some ⟨rb, 0, none⟩) rs'.length rc) = w6 at hzz hnn ho1 ho2 hbl ⊢
        obtain ⟨n0, n1, n2, -, -, -⟩ := cell3 hnn
        refine hK.out _ _ (⟨n0, n1, n2⟩) (fun hHeld => ?_)
        clear hK K
        try simp only [Act.put]
        refine wpAnyH_done (by kernel_rfl) ?_ _
        obtain ⟨z0, z1, z2, -, -, -⟩ := cell3 hzz
        have HO1 := Lib.hid ho1
        have HO2 := Lib.hid ho2
        have HBL := Lib.hid hbl
        clear hzz hnn ho1 ho2 hbl
        go_wp2_with fail
        have hwB : w.heap.size ≤ B := by have := HZB.out; omega
        exact bodyPost_ret (v := .tuple #[.slice (some ⟨g, 0, none⟩) ms'.length c, .agg #[.int .i64 up, .int .i64 lo, .slice (some ⟨rb, 0, none⟩) rs'.length rc]]) (by simp [results, Try.results126, go_sem, z0, z1, z2]) rfl ⟨⟨g, c, rb, rc, rfl, own_mono HO1.out hwB, own_mono HO2.out hwB⟩, HBL.out⟩
      · clear hgo
        go_wp2_with fail
        refine wp_region_held_drew (S := (fun u => u.cell? ⟨N, 0, none⟩ = some (.int .i64 up) ∧ u.cell? ⟨N, 1, none⟩ = some (.int .i64 lo) ∧ u.cell? ⟨N, 2, none⟩ = some (.slice (some ⟨rb, 0, none⟩) rs'.length rc))) (by kernel_rfl) (⟨n0, n1, n2⟩) (fun hHeld => ?_)
        have hb : Below wr.heap.size wr wr.drew := (Below.refl _ _).drew
        generalize wr.drew = w5 at hb hHeld ⊢
        have HA5 := Lib.hid (HA0.out.next hb)
        have HB5 : Hid (Below B w3 w5) := Lib.hid (HB0.out.trans (hb.mono (by have := HA0.out.lt; have := HA0.out.ord; omega)))
        clear n0 n1 n2 hb
        obtain ⟨n0, n1, n2, -, -, -⟩ := cell3 HA5.out.box
        have hz5 := (HB5.out.block _ HZB.out).trans HKZ.out
        obtain ⟨z0, z1, z2, y0, y1, y2⟩ := cell3 hz5
        refine take1 (i := 0) (v := ?v12) (some 50) rfl rfl (by kernel_rfl) (by kernel_rfl) (by kernel_rfl) (fun _ _ _ h => h) (Or.inl ⟨by rfl, ?y12⟩) (by assumption) ?r12
        case y12 => (intro w hSw; (try dsimp only at hSw); go_simp; (first | done | with_reducible rfl))
        try simp only [Act.put, List.setIfInBounds_toArray, List.set_cons_zero, List.set_cons_succ]
        refine take1 (i := 1) (v := ?v13) (some 51) rfl rfl (by kernel_rfl) (by kernel_rfl) (by kernel_rfl) (fun _ _ _ h => h) (Or.inl ⟨by rfl, ?y13⟩) (by assumption) ?r13
        case y13 => (intro w hSw; (try dsimp only at hSw); go_simp; (first | done | with_reducible rfl))
        try simp only [Act.put, List.setIfInBounds_toArray, List.set_cons_zero, List.set_cons_succ]
        refine take1 (i := 2) (v := ?v14) (some 6) rfl rfl (by kernel_rfl) (by kernel_rfl) (by kernel_rfl) (fun _ _ _ h => h) (Or.inl ⟨by rfl, ?y14⟩) (by assumption) ?r14
        case y14 => (intro w hSw; (try dsimp only at hSw); go_simp; (first | done | with_reducible rfl))
        try simp only [Act.put, List.setIfInBounds_toArray, List.set_cons_zero, List.set_cons_succ]
        refine wpAnyH_ready (rs := [3]) (by kernel_rfl) (by simp) ?_
        refine AllReadyH.cons rfl (fun K hK => ?_) AllReadyH.nil
        go_simp
        have hzz := box3_set hz5 (.int .i64 up) (.int .i64 lo) (.slice (some ⟨rb, 0, none⟩) rs'.length rc)
        have hnn := (Below.heap_setCell _ ⟨w.heap.size + 1, 2, none⟩ (.slice (some ⟨rb, 0, none⟩) rs'.length rc) N (by have := HA5.out.ord; have := HZB.out; show N ≠ w.heap.size + 1; omega)).trans ((Below.heap_setCell _ ⟨w.heap.size + 1, 1, none⟩ (.int .i64 lo) N (by have := HA5.out.ord; have := HZB.out; show N ≠ w.heap.size + 1; omega)).trans ((Below.heap_setCell w5 ⟨w.heap.size + 1, 0, none⟩ (.int .i64 up) N (by have := HA5.out.ord; have := HZB.out; show N ≠ w.heap.size + 1; omega)).trans HA5.out.box))
        have ho1 := own_set3 HA5.out.rods HZB.out (.int .i64 up) (.int .i64 lo) (.slice (some ⟨rb, 0, none⟩) rs'.length rc)
        have ho2 := own_set3 HA5.out.moves HZB.out (.int .i64 up) (.int .i64 lo) (.slice (some ⟨rb, 0, none⟩) rs'.length rc)
        have hbl := bl_set3 (HBW.out.trans (HB5.out.mono (by have := HZB.out; omega))) (Nat.le_succ w.heap.size) (.int .i64 up) (.int .i64 lo) (.slice (some ⟨rb, 0, none⟩) rs'.length rc)
        clear n0 n1 n2 z0 z1 z2 y0 y1 y2
        generalize ((w5.setCell ⟨w.heap.size + 1, 0, none⟩ (.int .i64 up)).setCell ⟨w.heap.size + 1, 1, none⟩ (.int .i64 lo)).setCell ⟨w.heap.size + 1, 2, none⟩ (.slice (some ⟨rb, 0, none⟩) rs'.length rc) = w6 at hzz hnn ho1 ho2 hbl ⊢
        obtain ⟨n0, n1, n2, -, -, -⟩ := cell3 hnn
        refine hK.out _ _ (⟨n0, n1, n2⟩) (fun hHeld => ?_)
        clear hK K
        try simp only [Act.put]
        refine wpAnyH_done (by kernel_rfl) ?_ _
        obtain ⟨z0, z1, z2, -, -, -⟩ := cell3 hzz
        have HO1 := Lib.hid ho1
        have HO2 := Lib.hid ho2
        have HBL := Lib.hid hbl
        clear hzz hnn ho1 ho2 hbl
        go_wp2_with fail
        have hwB : w.heap.size ≤ B := by have := HZB.out; omega
        exact bodyPost_ret (v := .tuple #[.slice (some ⟨g, 0, none⟩) ms'.length c, .agg #[.int .i64 up, .int .i64 lo, .slice (some ⟨rb, 0, none⟩) rs'.length rc]]) (by simp [results, Try.results126, go_sem, z0, z1, z2]) rfl ⟨⟨g, c, rb, rc, rfl, own_mono HO1.out hwB, own_mono HO2.out hwB⟩, HBL.out⟩
end Go.Proofs.Ythmbehknacjodaa

/-! Mad5 -/
namespace Go.Proofs.Ythmbehknacjodaa
set_option linter.unusedVariables false
open Go.RowKit

theorem own_setb3 {w : World} {B : Nat} {e : TypeId} {size n : Nat} {v : Value} {xs : List Value} (h : w.ownsRow B e size v n xs) {T : Nat} (hT : ∀ g, v.ownBlock = some g → g ≠ T) (x y z : Value) :
    (((w.setCell ⟨T, 0, none⟩ x).setCell ⟨T, 1, none⟩ y).setCell ⟨T, 2, none⟩ z).ownsRow B e size v n xs := own_set_box (own_set_box (own_set_box h hT _ _) hT _ _) hT _ _
section
variable {B : Nat} {w : World} {N : Nat} {up lo : Int} {rb rc : Nat} {rs : List (Int × Int)} {g c : Nat} {ms : List Mv}
/-- A store into another box of the same type. -/
theorem DgAt.store3 (h : DgAt B w N up lo rb rc rs g c ms) {T : Nat} {cs : Array Value} (hT : w.heap[T]? = some (.cells cs 42 (0, 0))) (hne : N ≠ T) (x y z : Value) :
    DgAt B (((w.setCell ⟨T, 0, none⟩ x).setCell ⟨T, 1, none⟩ y).setCell ⟨T, 2, none⟩ z) N up lo rb rc rs g c ms :=
  ⟨h.ord, (Below.heap_setCell _ ⟨T, 2, none⟩ z N hne).trans ((Below.heap_setCell _ ⟨T, 1, none⟩ y N hne).trans ((Below.heap_setCell w ⟨T, 0, none⟩ x N hne).trans h.box)),
    own_setb3 h.rods (own_box h.rods hT (by decide)) x y z, own_setb3 h.moves (own_box h.moves hT (by decide)) x y z⟩
/-- The frame is set anew. -/
theorem DgAt.setF {rb2 rc2 : Nat} {rs2 : List (Int × Int)} (h : DgAt B w N up lo rb rc rs g c ms) (ho : w.ownsRow B 77 2 (.slice (some ⟨rb2, 0, none⟩) rs2.length rc2) rs2.length (flat rs2)) :
    DgAt B (((w.setCell ⟨N, 0, none⟩ (.int .i64 up)).setCell ⟨N, 1, none⟩ (.int .i64 lo)).setCell ⟨N, 2, none⟩ (.slice (some ⟨rb2, 0, none⟩) rs2.length rc2)) N up lo rb2 rc2 rs2 g c ms :=
  ⟨h.ord, box3_set h.box _ _ _, own_setb3 ho (own_box ho h.box (by decide)) _ _ _, own_setb3 h.moves (own_box h.moves h.box (by decide)) _ _ _⟩
end
/-- Where the model's adding stands. -/
structure NoAt (n : Nat) (m : Int) (RT : List (Int × Int)) (MT : List Mv) (k : Nat) (rs : List (Int × Int)) (ms : List Mv) : Prop where
  std : stdF rs
  len : rs.length = n
  le : k ≤ n
  mT : ms ++ goM k ((digs n m).drop k) rs = MT
  rT : goR k ((digs n m).drop k) rs = RT
theorem NoAt.step {n : Nat} {m : Int} {RT : List (Int × Int)} {MT : List Mv} {k : Nat} {rs : List (Int × Int)} {ms : List Mv} (h : NoAt n m RT MT k rs ms) (hk : k < n) (d : Int) (hd : m / 10 ^ (n - 1 - k) % 10 = d) : NoAt n m RT MT (k + 1) (chR (k + 1) d rs) (ms ++ chM (k + 1) d rs) := by
  have hm := h.mT
  have hr := h.rT
  rw [digs_drop n m k hk, hd] at hm hr
  simp only [goM] at hm
  simp only [goR] at hr
  exact ⟨chR_std _ _ _ h.std, by rw [chR_len]; exact h.len, hk, by rw [List.append_assoc]; exact hm, hr⟩
theorem NoAt.done {n : Nat} {m : Int} {RT : List (Int × Int)} {MT : List Mv} {rs : List (Int × Int)} {ms : List Mv} (h : NoAt n m RT MT n rs ms) : ms = MT ∧ rs = RT := by
  have hm := h.mT
  have hr := h.rT
  rw [List.drop_eq_nil_of_le (by rw [digs_len]; exact Nat.le_refl _)] at hm hr
  simp only [goM, List.append_nil] at hm
  simp only [goR] at hr
  exact ⟨hm, hr⟩
theorem NoAt.short {n : Nat} {m : Int} {RT : List (Int × Int)} {MT : List Mv} {k : Nat} {rs : List (Int × Int)} {ms : List Mv} (h : NoAt n m RT MT k rs ms) : ms.length ≤ MT.length := by rw [← h.mT, List.length_append]; omega

set_option maxRecDepth 100000 in
set_option maxHeartbeats 6400000 in
theorem l6Number_any (up lo : Int) (sv : Value) (rs : List (Int × Int)) (m : Int) (w : World) (h : RodsR w sv rs) (hs : stdF rs) (hn : 0 < rs.length ∧ rs.length ≤ 8) (hm0 : 0 ≤ m) (hm1 : m ≤ 1000000000) :
    Calls Try.prog 84 #[.agg #[.int .i64 up, .int .i64 lo, sv], .int .i64 m] w fun e w' => (∃ g c rb rc, e = .returned (.tuple #[.slice (some ⟨g, 0, none⟩) (goM 0 (digs rs.length m) rs).length c, .agg #[.int .i64 up, .int .i64 lo, .slice (some ⟨rb, 0, none⟩) (goR 0 (digs rs.length m) rs).length rc]]) ∧
      w'.ownsRow w.heap.size 77 2 (.slice (some ⟨rb, 0, none⟩) (goR 0 (digs rs.length m) rs).length rc) (goR 0 (digs rs.length m) rs).length (flat (goR 0 (digs rs.length m) rs)) ∧ w'.ownsRow w.heap.size 138 3 (.slice (some ⟨g, 0, none⟩) (goM 0 (digs rs.length m) rs).length c) (goM 0 (digs rs.length m) rs).length (flatC mvC (goM 0 (digs rs.length m) rs))) ∧ Below w.heap.size w w' := by
  obtain ⟨i0, hi, hz0, hz1, hz2⟩ := info_parts Try.infoBeadMove
  have HRW := Lib.hid h
  obtain ⟨a, cp, rfl⟩ : ∃ a c, sv = .slice a rs.length c := by obtain ⟨a, c, e, _⟩ := h; exact ⟨a, c, e⟩
  have hmt := goM_small rs.length m rs hn.2
  have hst : NoAt rs.length m (goR 0 (digs rs.length m) rs) (goM 0 (digs rs.length m) rs) 0 rs [] := ⟨hs, rfl, Nat.zero_le _, rfl, rfl⟩
  generalize goM 0 (digs rs.length m) rs = MT at hmt hst ⊢
  generalize goR 0 (digs rs.length m) rs = RT at hst ⊢
  have HN0 := Lib.hid hst
  obtain ⟨hn0, hn1⟩ := hn
  clear hst hs
  have HB0 : Hid (Below w.heap.size w w) := Lib.hid (Below.refl _ _)
  have HRf0 := Lib.hid (h)
  clear h
  go_enter Try.func84, Try.ntmps84
  go_wp2_with fail
  -- the literal of no moves stands ahead of the copy
  have hb : Below w.heap.size w (((w.alloc (.cells #[.int .i64 up, .int .i64 lo, .slice a rs.length cp] 42)).alloc (.cells #[.int .i64 0, .int .i64 0, .slice none 0 0] 42)).alloc (.cells #[] 138)) := (((Below.refl _ _).alloc (Nat.le_refl _) _).alloc (by simp) _).alloc (by simp; omega) _
  have hkf : (((w.alloc (.cells #[.int .i64 up, .int .i64 lo, .slice a rs.length cp] 42)).alloc (.cells #[.int .i64 0, .int .i64 0, .slice none 0 0] 42)).alloc (.cells #[] 138)).heap[w.heap.size]? = some (.cells #[.int .i64 up, .int .i64 lo, .slice a rs.length cp] 42 (0, 0)) := by
    rw [alloc_old (by simp; omega), alloc_old (by simp), alloc_at rfl]
  have hkz : (((w.alloc (.cells #[.int .i64 up, .int .i64 lo, .slice a rs.length cp] 42)).alloc (.cells #[.int .i64 0, .int .i64 0, .slice none 0 0] 42)).alloc (.cells #[] 138)).heap[w.heap.size + 1]? = some (.cells #[.int .i64 0, .int .i64 0, .slice none 0 0] 42 (0, 0)) := by
    rw [alloc_old (by simp), alloc_at (by simp)]
  have hom : (((w.alloc (.cells #[.int .i64 up, .int .i64 lo, .slice a rs.length cp] 42)).alloc (.cells #[.int .i64 0, .int .i64 0, .slice none 0 0] 42)).alloc (.cells #[] 138)).ownsRow (w.heap.size + 2) 138 3 (.slice (some ⟨w.heap.size + 1 + 1, 0, none⟩) 0 0) 0 [] := by
    have := World.ownsRow_made (base := w.heap.size + 2) (e := 138) (size := 3) ((w.alloc (.cells #[.int .i64 up, .int .i64 lo, .slice a rs.length cp] 42)).alloc (.cells #[.int .i64 0, .int .i64 0, .slice none 0 0] 42)) #[] 0 (by simp) (Nat.zero_le _) (by simp)
    rw [show ((w.alloc (.cells #[.int .i64 up, .int .i64 lo, .slice a rs.length cp] 42)).alloc (.cells #[.int .i64 0, .int .i64 0, .slice none 0 0] 42)).heap.size = w.heap.size + 1 + 1 by simp] at this
    exact this
  have hsz : (((w.alloc (.cells #[.int .i64 up, .int .i64 lo, .slice a rs.length cp] 42)).alloc (.cells #[.int .i64 0, .int .i64 0, .slice none 0 0] 42)).alloc (.cells #[] 138)).heap.size = w.heap.size + 3 := by simp
  generalize ((w.alloc (.cells #[.int .i64 up, .int .i64 lo, .slice a rs.length cp] 42)).alloc (.cells #[.int .i64 0, .int .i64 0, .slice none 0 0] 42)).alloc (.cells #[] 138) = w1 at hb hkf hkz hom hsz ⊢
  obtain ⟨B, hB⟩ : ∃ B, B = w.heap.size + 2 := ⟨_, rfl⟩
  have HR1 := Lib.hid (HRf0.out.below hb (Nat.le_refl _))
  have HB1 := Lib.hid hb
  have HKZ1 := Lib.hid hkz
  have HKF1 := Lib.hid hkf
  have HOM : Hid (w1.ownsRow B 138 3 (.slice (some ⟨w.heap.size + 1 + 1, 0, none⟩) 0 0) 0 []) := Lib.hid (by rw [hB]; exact hom)
  have hB1 : B ≤ w1.heap.size := by omega
  have HZB : Hid (w.heap.size + 1 < B) := Lib.hid (by omega)
  clear hb hkf hkz hom hsz hB
  refine (l2Own_any up lo _ rs _ HR1.out ⟨hn0, by omega⟩).mono ?_
  rintro e w2 ⟨⟨v, rfl, ho⟩, hb⟩
  obtain ⟨rb0, rc0, rfl⟩ := own_block ho hn0
  go_wp2_with fail
  have hb3 : Below w2.heap.size w2 (w2.alloc (.cells #[.int .i64 up, .int .i64 lo, .slice (some ⟨rb0, 0, none⟩) rs.length rc0] 42)) := (Below.refl _ _).alloc (Nat.le_refl _) _
  have ha3 : DgAt B (w2.alloc (.cells #[.int .i64 up, .int .i64 lo, .slice (some ⟨rb0, 0, none⟩) rs.length rc0] 42)) w2.heap.size up lo rb0 rc0 rs (w.heap.size + 1 + 1) 0 [] :=
    ⟨by have := hb.size; omega, alloc_at rfl, (own_mono ho hB1).alloc _, (own_below HOM.out hb).alloc _⟩
  generalize w2.alloc (.cells #[.int .i64 up, .int .i64 lo, .slice (some ⟨rb0, 0, none⟩) rs.length rc0] 42) = w3 at hb3 ha3 ⊢
  have HBW : Hid (Below w.heap.size w w3) := Lib.hid ((HB1.out.trans (hb.mono HB1.out.size)).trans (hb3.mono (by have := hb.size; have := HB1.out.size; omega)))
  have HKZ : Hid (w3.heap[w.heap.size + 1]? = some (.cells #[.int .i64 0, .int .i64 0, .slice none 0 0] 42 (0, 0))) := Lib.hid (by
    rw [hb3.block _ (by have := hb.size; have := HZB.out; omega), hb.block _ (by have := HZB.out; omega)]; exact HKZ1.out)
  have HFB : Hid (w3.heap[w.heap.size]? = some (.cells #[.int .i64 up, .int .i64 lo, .slice a rs.length cp] 42 (0, 0))) := Lib.hid (by
    rw [hb3.block _ (by have := hb.size; have := HZB.out; omega), hb.block _ (by have := HZB.out; omega)]; exact HKF1.out)
  have HWB : Hid (w.heap.size < B) := Lib.hid (by have := HZB.out; omega)
  have HWB2 : Hid (w.heap.size ≤ B) := Lib.hid (by have := HZB.out; omega)
  have HA := Lib.hid ha3
  generalize w2.heap.size = N at ha3 HA ⊢
  clear ha3 hb3 hb ho HR1 HB1 HKZ1 HKF1 HOM
  go_loopw [6, 8] (fun ov kv wr => ∃ (k : Nat) (rs' : List (Int × Int)) (ms' : List Mv) (g c rb rc : Nat), kv = .int .i64 k ∧ ov = .slice (some ⟨g, 0, none⟩) ms'.length c ∧ DgAt B wr N up lo rb rc rs' g c ms' ∧ Below B w3 wr ∧ NoAt rs.length m RT MT k rs' ms') (fun _ kv _ => rs.length - (intOf kv).toNat)
  case atStart => exact ⟨0, rs, [], _, _, rb0, rc0, rfl, rfl, HA.out, Below.refl _ _, HN0.out⟩
  case round =>
    obtain ⟨k, rs', ms', g, c, rb, rc, rfl, rfl, ha, hb, hno⟩ := hrel
    have HA0 := Lib.hid ha
    have HB0 := Lib.hid hb
    have HG := Lib.hid hno
    have HST := Lib.hid hno.std
    have HLN := Lib.hid hno.len
    have hmsl : ms'.length ≤ 128 := by have := hno.short; omega
    have hkn := hno.le
    obtain ⟨n0, n1, n2, m0, m1, m2⟩ := cell3 ha.box
    obtain ⟨p0, p1, p2, -, -, -⟩ := cell3 ((hb.block _ HWB.out).trans HFB.out)
    clear ha hb hno
    by_cases hlt : k < rs.length
    · obtain ⟨dd, hdd⟩ : ∃ dd, m / 10 ^ (rs.length - 1 - k) % 10 = dd := ⟨_, rfl⟩
      have hd9 : 0 ≤ dd ∧ dd ≤ 9 := by omega
      have HDD := Lib.hid hdd
      have z2 : (k : Int) < (rs.length : Int) := by omega
      clear hdd
      go_wp2_with fail
      refine wp_region_held_drew (S := (fun u => u.cell? ⟨N, 0, none⟩ = some (.int .i64 up) ∧ u.cell? ⟨N, 1, none⟩ = some (.int .i64 lo) ∧ u.cell? ⟨N, 2, none⟩ = some (.slice (some ⟨rb, 0, none⟩) rs'.length rc) ∧ u.cell? ⟨w.heap.size, 0, none⟩ = some (.int .i64 up) ∧ u.cell? ⟨w.heap.size, 1, none⟩ = some (.int .i64 lo) ∧ u.cell? ⟨w.heap.size, 2, none⟩ = some (.slice a rs.length cp))) (by kernel_rfl) (⟨n0, n1, n2, p0, p1, p2⟩) (fun hHeld => ?_)
      have hb : Below wr.heap.size wr wr.drew := (Below.refl _ _).drew
      generalize wr.drew = v1 at hb hHeld ⊢
      have HA1 := Lib.hid (HA0.out.next hb)
      have HS0 : Hid (B ≤ wr.heap.size) := Lib.hid (by have := HA0.out.lt; have := HA0.out.ord; omega)
      have HB1 : Hid (Below B w3 v1) := Lib.hid (HB0.out.trans (hb.mono HS0.out))
      clear hb
      try clear n0 n1 n2 p0 p1 p2
      obtain ⟨n0, n1, n2, -, -, -⟩ := cell3 HA1.out.box
      obtain ⟨p0, p1, p2, -, -, -⟩ := cell3 ((HB1.out.block _ HWB.out).trans HFB.out)
      refine take1 (i := 0) (v := ?v15) (some 22) rfl rfl (by kernel_rfl) (by kernel_rfl) (by kernel_rfl) (fun _ _ _ h => h) (Or.inl ⟨by rfl, ?y15⟩) (by assumption) ?r15
      case y15 => (intro w hSw; (try dsimp only at hSw); go_simp; (first | done | with_reducible rfl))
      try simp only [Act.put, List.setIfInBounds_toArray, List.set_cons_zero, List.set_cons_succ]
      refine take1 (i := 1) (v := ?v16) (some 23) rfl rfl (by kernel_rfl) (by kernel_rfl) (by kernel_rfl) (fun _ _ _ h => h) (Or.inl ⟨by rfl, ?y16⟩) (by assumption) ?r16
      case y16 => (intro w hSw; (try dsimp only at hSw); go_simp; (first | done | with_reducible rfl))
      try simp only [Act.put, List.setIfInBounds_toArray, List.set_cons_zero, List.set_cons_succ]
      refine take1 (i := 2) (v := ?v17) (some 24) rfl rfl (by kernel_rfl) (by kernel_rfl) (by kernel_rfl) (fun _ _ _ h => h) (Or.inl ⟨by rfl, ?y17⟩) (by assumption) ?r17
      case y17 => (intro w hSw; (try dsimp only at hSw); go_simp; (first | done | with_reducible rfl))
      try simp only [Act.put, List.setIfInBounds_toArray, List.set_cons_zero, List.set_cons_succ]
      refine take1 (i := 3) (v := ?v18) (some 25) rfl rfl (by kernel_rfl) (by kernel_rfl) (by kernel_rfl) (fun _ _ _ h => h) (Or.inl ⟨by rfl, ?y18⟩) (by assumption) ?r18
      case y18 => (intro w hSw; (try dsimp only at hSw); go_simp; (first | done | with_reducible rfl))
      try simp only [Act.put, List.setIfInBounds_toArray, List.set_cons_zero, List.set_cons_succ]
      refine take1 (i := 4) (v := ?v19) (some 26) rfl rfl (by kernel_rfl) (by kernel_rfl) (by kernel_rfl) (fun _ _ _ h => h) (Or.inl ⟨by rfl, ?y19⟩) (by assumption) ?r19
      case y19 => (intro w hSw; (try dsimp only at hSw); go_simp; (first | done | with_reducible rfl))
      try simp only [Act.put, List.setIfInBounds_toArray, List.set_cons_zero, List.set_cons_succ]
      refine wpAnyH_ready (rs := [5, 10]) (by kernel_rfl) (by simp) ?_
      refine AllReadyH.cons rfl (fun K hK => ?_) (AllReadyH.cons rfl (fun K hK => ?_) AllReadyH.nil)
      · go_simp
        go_at_call 124
        refine (l6At_any up lo _ rs m k _ (HRW.out.below (HBW.out.trans (HB1.out.mono HWB2.out)) (Nat.le_refl _)) hn1 hlt hm0 hm1).mono ?_
        rintro e v2 ⟨rfl, hb⟩
        rw [HDD.out]
        have HA2 := Lib.hid (HA1.out.next hb)
        have HS1 : Hid (B ≤ v1.heap.size) := Lib.hid (by have := HA1.out.lt; have := HA1.out.ord; omega)
        have HB2 : Hid (Below B w3 v2) := Lib.hid (HB1.out.trans (hb.mono HS1.out))
        clear hb
        try clear n0 n1 n2 p0 p1 p2
        obtain ⟨n0, n1, n2, -, -, -⟩ := cell3 HA2.out.box
        obtain ⟨p0, p1, p2, -, -, -⟩ := cell3 ((HB2.out.block _ HWB.out).trans HFB.out)
        try go_simp
        refine hK.out _ _ (⟨n0, n1, n2, p0, p1, p2⟩) (fun hHeld => ?_)
        clear hK K
        try simp only [Act.put, List.setIfInBounds_toArray, List.set_cons_zero, List.set_cons_succ]
        refine wpAnyH_ready (rs := [6, 10]) (by kernel_rfl) (by simp) ?_
        refine AllReadyH.cons rfl (fun K hK => ?_) (AllReadyH.cons rfl (fun K hK => ?_) AllReadyH.nil)
        · go_simp
          go_at_call 126
          refine (l6Digit_any up lo _ rs' k dd _ (RodsR.of_own HA2.out.rods) HST.out (by have := HLN.out; omega) (by have := HLN.out; omega) hd9.1 hd9.2).mono ?_
          rintro e v3 ⟨⟨g2, c2, rb2, rc2, rfl, hor, hom⟩, hb⟩
          have HSX : Hid (B ≤ v2.heap.size) := Lib.hid (by have := HA2.out.lt; have := HA2.out.ord; omega)
          have HR3 := Lib.hid (own_mono hor HSX.out)
          have HM3 := Lib.hid (own_mono hom HSX.out)
          clear hor hom
          have HA3 := Lib.hid (HA2.out.next hb)
          have HS2 : Hid (B ≤ v2.heap.size) := Lib.hid (by have := HA2.out.lt; have := HA2.out.ord; omega)
          have HB3 : Hid (Below B w3 v3) := Lib.hid (HB2.out.trans (hb.mono HS2.out))
          clear hb
          try clear n0 n1 n2 p0 p1 p2
          obtain ⟨n0, n1, n2, -, -, -⟩ := cell3 HA3.out.box
          obtain ⟨p0, p1, p2, -, -, -⟩ := cell3 ((HB3.out.block _ HWB.out).trans HFB.out)
          try go_simp
          refine hK.out _ _ (⟨n0, n1, n2, p0, p1, p2⟩) (fun hHeld => ?_)
          clear hK K
          try simp only [Act.put, List.setIfInBounds_toArray, List.set_cons_zero, List.set_cons_succ]
          refine take1 (i := 7) (v := ?v20) (some 21) rfl rfl (by kernel_rfl) (by kernel_rfl) (by kernel_rfl) (fun _ _ _ h => h) (Or.inl ⟨by rfl, ?y20⟩) (by assumption) ?r20
          case y20 => (intro w hSw; (try dsimp only at hSw); go_simp; (first | done | with_reducible rfl))
          try simp only [Act.put, List.setIfInBounds_toArray, List.set_cons_zero, List.set_cons_succ]
          refine take1 (i := 8) (v := ?v21) (some 29) rfl rfl (by kernel_rfl) (by kernel_rfl) (by kernel_rfl) (fun _ _ _ h => h) (Or.inl ⟨by rfl, ?y21⟩) (by assumption) ?r21
          case y21 => (intro w hSw; (try dsimp only at hSw); go_simp; (first | done | with_reducible rfl))
          try simp only [Act.put, List.setIfInBounds_toArray, List.set_cons_zero, List.set_cons_succ]
          refine take1 (i := 9) (v := ?v22) (some 30) rfl rfl (by kernel_rfl) (by kernel_rfl) (by kernel_rfl) (fun _ _ _ h => h) (Or.inl ⟨by rfl, ?y22⟩) (by assumption) ?r22
          case y22 => (intro w hSw; (try dsimp only at hSw); go_simp; (first | done | with_reducible rfl))
          try simp only [Act.put, List.setIfInBounds_toArray, List.set_cons_zero, List.set_cons_succ]
          refine wpAnyH_ready (rs := [10]) (by kernel_rfl) (by simp) ?_
          refine AllReadyH.cons rfl (fun K hK => ?_) AllReadyH.nil
          go_simp
          have hb : Below v3.heap.size v3 (v3.alloc (.cells #[.int .i64 0, .int .i64 0, .slice none 0 0] 42)) := (Below.refl _ _).alloc (Nat.le_refl _) _
          have ht : (v3.alloc (.cells #[.int .i64 0, .int .i64 0, .slice none 0 0] 42)).heap[v3.heap.size]? = some (.cells #[.int .i64 0, .int .i64 0, .slice none 0 0] 42 (0, 0)) := alloc_at rfl
          have hnt := HA3.out.lt
          generalize v3.alloc (.cells #[.int .i64 0, .int .i64 0, .slice none 0 0] 42) = v4 at hb ht ⊢
          obtain ⟨T, hTe⟩ : ∃ T, T = v3.heap.size := ⟨_, rfl⟩
          rw [← hTe] at ht hnt
          simp only [← hTe]
          have HT4 := Lib.hid ht
          have HNT4 := Lib.hid hnt
          clear ht hnt hTe
          have HA4 := Lib.hid (HA3.out.next hb)
          have HS3 : Hid (B ≤ v3.heap.size) := Lib.hid (by have := HA3.out.lt; have := HA3.out.ord; omega)
          have HB4 : Hid (Below B w3 v4) := Lib.hid (HB3.out.trans (hb.mono HS3.out))
          have HR4 := Lib.hid (own_below HR3.out hb)
          have HM4 := Lib.hid (own_below HM3.out hb)
          clear hb
          try clear n0 n1 n2 p0 p1 p2
          obtain ⟨n0, n1, n2, -, -, -⟩ := cell3 HA4.out.box
          obtain ⟨p0, p1, p2, -, -, -⟩ := cell3 ((HB4.out.block _ HWB.out).trans HFB.out)
          refine hK.out _ _ (⟨n0, n1, n2, p0, p1, p2⟩) (fun hHeld => ?_)
          clear hK K
          try simp only [Act.put, List.setIfInBounds_toArray, List.set_cons_zero, List.set_cons_succ]
          refine take1 (i := 11) (v := ?v23) (some 9) rfl rfl (by kernel_rfl) (by kernel_rfl) (by kernel_rfl) (fun _ _ _ h => h) (Or.inl ⟨by rfl, ?y23⟩) (by assumption) ?r23
          case y23 => (intro w hSw; (try dsimp only at hSw); go_simp; (first | done | with_reducible rfl))
          try simp only [Act.put, List.setIfInBounds_toArray, List.set_cons_zero, List.set_cons_succ]
          obtain ⟨t0, t1, t2, s0, s1, s2⟩ := cell3 HT4.out
          refine wpAnyH_ready (rs := [12]) (by kernel_rfl) (by simp) ?_
          refine AllReadyH.cons rfl (fun K hK => ?_) AllReadyH.nil
          go_simp
          clear t0 t1 t2 s0 s1 s2
          have ha9 := HA4.out.store3 HT4.out (by have := HNT4.out; omega) (.int .i64 up) (.int .i64 lo) (.slice (some ⟨rb2, 0, none⟩) (chR (k + 1) dd rs').length rc2)
          have ht9 := box3_set HT4.out (.int .i64 up) (.int .i64 lo) (.slice (some ⟨rb2, 0, none⟩) (chR (k + 1) dd rs').length rc2)
          have hTB : B ≤ T := by have := HNT4.out; have := HA4.out.ord; omega
          have hb9 := bl_set3 HB4.out hTB (.int .i64 up) (.int .i64 lo) (.slice (some ⟨rb2, 0, none⟩) (chR (k + 1) dd rs').length rc2)
          have hr9 := own_setb3 HR4.out (own_box HR4.out HT4.out (by decide)) (.int .i64 up) (.int .i64 lo) (.slice (some ⟨rb2, 0, none⟩) (chR (k + 1) dd rs').length rc2)
          have hm9 := own_setb3 HM4.out (own_box HM4.out HT4.out (by decide)) (.int .i64 up) (.int .i64 lo) (.slice (some ⟨rb2, 0, none⟩) (chR (k + 1) dd rs').length rc2)
          generalize (((v4.setCell ⟨T, 0, none⟩ (.int .i64 up)).setCell ⟨T, 1, none⟩ (.int .i64 lo)).setCell ⟨T, 2, none⟩ (.slice (some ⟨rb2, 0, none⟩) (chR (k + 1) dd rs').length rc2)) = w9 at ha9 ht9 hb9 hr9 hm9 ⊢
          have HA9 := Lib.hid ha9
          have HT9 := Lib.hid ht9
          have HB9 := Lib.hid hb9
          have HR9 := Lib.hid hr9
          have HM9 := Lib.hid hm9
          have HNT9 := Lib.hid HNT4.out
          clear ha9 ht9 hb9 hr9 hm9
          try clear n0 n1 n2 p0 p1 p2
          obtain ⟨n0, n1, n2, -, -, -⟩ := cell3 HA9.out.box
          obtain ⟨p0, p1, p2, -, -, -⟩ := cell3 ((HB9.out.block _ HWB.out).trans HFB.out)
          refine hK.out _ _ (⟨n0, n1, n2, p0, p1, p2⟩) (fun hHeld => ?_)
          clear hK K
          try simp only [Act.put]
          refine wpAnyH_done (by kernel_rfl) ?_ _
          clear n0 n1 n2 p0 p1 p2
          have HS9 : Hid (B ≤ w9.heap.size) := Lib.hid (by have := HA9.out.lt; have := HA9.out.ord; omega)
          have hcm := chM_len (k + 1) dd rs'
          go_wp2_with (at_builtin; refine wpList_append_rows (w := w9) rfl _ _ 81 rfl B 138 i0 (.agg #[.int .i64 0, .int .i64 0, .int .i64 0]) 3 24 Try.underlying81 hi hz0 hz1 hz2 rfl (by decide) mvC_len mvC_one g ms'.length c (flatC mvC ms') rfl HA9.out.moves (some ⟨g2, 0, none⟩) c2 (chM (k + 1) dd rs') rfl ?c2 ?c3 ?c4 ?c5 ?_)
          case c2 =>
            rcases (RowsR.of_own mvC_len HM9.out).src mvC_len (by decide) with h | ⟨ad, e1, h⟩
            · exact Or.inl h
            · exact Or.inr ⟨ad, e1, fun j u hj => h w9 (Below.refl _ _) j u hj⟩
          case c3 => unfold maxLen; omega
          case c4 => omega
          case c5 => exact HS9.out
          intro g3 c3 w10 ho hg _
          have HA10 := Lib.hid (HA9.out.setM ho hg)
          have HB10 : Hid (Below B w3 w10) := Lib.hid (HB9.out.grown hg HS9.out (fun q hq => by cases hq; exact (HA9.out.moves.lt g rfl).1))
          have HT10 := Lib.hid ((hg.block T (lt_of_block HT9.out) (by intro e; injection e with e; exact own_box HA9.out.moves HT9.out (by decide) g rfl e.symm)).trans HT9.out)
          have HR10 := Lib.hid (own_kept2 HR9.out HA9.out.moves (by decide) hg)
          clear ho hg
          obtain ⟨t0, t1, t2, -, -, -⟩ := cell3 HT10.out
          obtain ⟨n0, n1, n2, m0, m1, m2⟩ := cell3 HA10.out.box
          have ha11 := HA10.out.setF HR10.out
          have hb11 := bl_set3 HB10.out HA10.out.ord (.int .i64 up) (.int .i64 lo) (.slice (some ⟨rb2, 0, none⟩) (chR (k + 1) dd rs').length rc2)
          have HA11 := Lib.hid ha11
          have HB11 := Lib.hid hb11
          have HG11 := Lib.hid (HG.out.step hlt dd HDD.out)
          clear ha11 hb11
          go_wp2_with fail
          go_roundw
          case rel => exact ⟨k + 1, chR (k + 1) dd rs', ms' ++ chM (k + 1) dd rs', g3, c3, rb2, rc2, by go_num, by rw [List.length_append], HA11.out, HB11.out, HG11.out⟩
          case measure => simp [intOf]; omega
        · go_simp
          have hb : Below v2.heap.size v2 (v2.alloc (.cells #[.int .i64 0, .int .i64 0, .slice none 0 0] 42)) := (Below.refl _ _).alloc (Nat.le_refl _) _
          have ht : (v2.alloc (.cells #[.int .i64 0, .int .i64 0, .slice none 0 0] 42)).heap[v2.heap.size]? = some (.cells #[.int .i64 0, .int .i64 0, .slice none 0 0] 42 (0, 0)) := alloc_at rfl
          have hnt := HA2.out.lt
          generalize v2.alloc (.cells #[.int .i64 0, .int .i64 0, .slice none 0 0] 42) = v3 at hb ht ⊢
          obtain ⟨T, hTe⟩ : ∃ T, T = v2.heap.size := ⟨_, rfl⟩
          rw [← hTe] at ht hnt
          simp only [← hTe]
          have HT3 := Lib.hid ht
          have HNT3 := Lib.hid hnt
          clear ht hnt hTe
          have HA3 := Lib.hid (HA2.out.next hb)
          have HS2 : Hid (B ≤ v2.heap.size) := Lib.hid (by have := HA2.out.lt; have := HA2.out.ord; omega)
          have HB3 : Hid (Below B w3 v3) := Lib.hid (HB2.out.trans (hb.mono HS2.out))
          clear hb
          try clear n0 n1 n2 p0 p1 p2
          obtain ⟨n0, n1, n2, -, -, -⟩ := cell3 HA3.out.box
          obtain ⟨p0, p1, p2, -, -, -⟩ := cell3 ((HB3.out.block _ HWB.out).trans HFB.out)
          refine hK.out _ _ (⟨n0, n1, n2, p0, p1, p2⟩) (fun hHeld => ?_)
          clear hK K
          try simp only [Act.put, List.setIfInBounds_toArray, List.set_cons_zero, List.set_cons_succ]
          refine wpAnyH_ready (rs := [6]) (by kernel_rfl) (by simp) ?_
          refine AllReadyH.cons rfl (fun K hK => ?_) AllReadyH.nil
          go_simp
          go_at_call 126
          refine (l6Digit_any up lo _ rs' k dd _ (RodsR.of_own HA3.out.rods) HST.out (by have := HLN.out; omega) (by have := HLN.out; omega) hd9.1 hd9.2).mono ?_
          rintro e v4 ⟨⟨g2, c2, rb2, rc2, rfl, hor, hom⟩, hb⟩
          have HSX : Hid (B ≤ v3.heap.size) := Lib.hid (by have := HA3.out.lt; have := HA3.out.ord; omega)
          have HR4 := Lib.hid (own_mono hor HSX.out)
          have HM4 := Lib.hid (own_mono hom HSX.out)
          clear hor hom
          have HA4 := Lib.hid (HA3.out.next hb)
          have HS3 : Hid (B ≤ v3.heap.size) := Lib.hid (by have := HA3.out.lt; have := HA3.out.ord; omega)
          have HB4 : Hid (Below B w3 v4) := Lib.hid (HB3.out.trans (hb.mono HS3.out))
          have HT4 := Lib.hid ((hb.block _ (lt_of_block HT3.out)).trans HT3.out)
          have HNT4 := Lib.hid HNT3.out
          clear hb
          try clear n0 n1 n2 p0 p1 p2
          obtain ⟨n0, n1, n2, -, -, -⟩ := cell3 HA4.out.box
          obtain ⟨p0, p1, p2, -, -, -⟩ := cell3 ((HB4.out.block _ HWB.out).trans HFB.out)
          try go_simp
          refine hK.out _ _ (⟨n0, n1, n2, p0, p1, p2⟩) (fun hHeld => ?_)
          clear hK K
          try simp only [Act.put, List.setIfInBounds_toArray, List.set_cons_zero, List.set_cons_succ]
          refine take1 (i := 7) (v := ?v24) (some 21) rfl rfl (by kernel_rfl) (by kernel_rfl) (by kernel_rfl) (fun _ _ _ h => h) (Or.inl ⟨by rfl, ?y24⟩) (by assumption) ?r24
          case y24 => (intro w hSw; (try dsimp only at hSw); go_simp; (first | done | with_reducible rfl))
          try simp only [Act.put, List.setIfInBounds_toArray, List.set_cons_zero, List.set_cons_succ]
          refine take1 (i := 8) (v := ?v25) (some 29) rfl rfl (by kernel_rfl) (by kernel_rfl) (by kernel_rfl) (fun _ _ _ h => h) (Or.inl ⟨by rfl, ?y25⟩) (by assumption) ?r25
          case y25 => (intro w hSw; (try dsimp only at hSw); go_simp; (first | done | with_reducible rfl))
          try simp only [Act.put, List.setIfInBounds_toArray, List.set_cons_zero, List.set_cons_succ]
          refine take1 (i := 9) (v := ?v26) (some 30) rfl rfl (by kernel_rfl) (by kernel_rfl) (by kernel_rfl) (fun _ _ _ h => h) (Or.inl ⟨by rfl, ?y26⟩) (by assumption) ?r26
          case y26 => (intro w hSw; (try dsimp only at hSw); go_simp; (first | done | with_reducible rfl))
          try simp only [Act.put, List.setIfInBounds_toArray, List.set_cons_zero, List.set_cons_succ]
          refine take1 (i := 11) (v := ?v27) (some 9) rfl rfl (by kernel_rfl) (by kernel_rfl) (by kernel_rfl) (fun _ _ _ h => h) (Or.inl ⟨by rfl, ?y27⟩) (by assumption) ?r27
          case y27 => (intro w hSw; (try dsimp only at hSw); go_simp; (first | done | with_reducible rfl))
          try simp only [Act.put, List.setIfInBounds_toArray, List.set_cons_zero, List.set_cons_succ]
          obtain ⟨t0, t1, t2, s0, s1, s2⟩ := cell3 HT4.out
          refine wpAnyH_ready (rs := [12]) (by kernel_rfl) (by simp) ?_
          refine AllReadyH.cons rfl (fun K hK => ?_) AllReadyH.nil
          go_simp
          clear t0 t1 t2 s0 s1 s2
          have ha9 := HA4.out.store3 HT4.out (by have := HNT4.out; omega) (.int .i64 up) (.int .i64 lo) (.slice (some ⟨rb2, 0, none⟩) (chR (k + 1) dd rs').length rc2)
          have ht9 := box3_set HT4.out (.int .i64 up) (.int .i64 lo) (.slice (some ⟨rb2, 0, none⟩) (chR (k + 1) dd rs').length rc2)
          have hTB : B ≤ T := by have := HNT4.out; have := HA4.out.ord; omega
          have hb9 := bl_set3 HB4.out hTB (.int .i64 up) (.int .i64 lo) (.slice (some ⟨rb2, 0, none⟩) (chR (k + 1) dd rs').length rc2)
          have hr9 := own_setb3 HR4.out (own_box HR4.out HT4.out (by decide)) (.int .i64 up) (.int .i64 lo) (.slice (some ⟨rb2, 0, none⟩) (chR (k + 1) dd rs').length rc2)
          have hm9 := own_setb3 HM4.out (own_box HM4.out HT4.out (by decide)) (.int .i64 up) (.int .i64 lo) (.slice (some ⟨rb2, 0, none⟩) (chR (k + 1) dd rs').length rc2)
          generalize (((v4.setCell ⟨T, 0, none⟩ (.int .i64 up)).setCell ⟨T, 1, none⟩ (.int .i64 lo)).setCell ⟨T, 2, none⟩ (.slice (some ⟨rb2, 0, none⟩) (chR (k + 1) dd rs').length rc2)) = w9 at ha9 ht9 hb9 hr9 hm9 ⊢
          have HA9 := Lib.hid ha9
          have HT9 := Lib.hid ht9
          have HB9 := Lib.hid hb9
          have HR9 := Lib.hid hr9
          have HM9 := Lib.hid hm9
          have HNT9 := Lib.hid HNT4.out
          clear ha9 ht9 hb9 hr9 hm9
          try clear n0 n1 n2 p0 p1 p2
          obtain ⟨n0, n1, n2, -, -, -⟩ := cell3 HA9.out.box
          obtain ⟨p0, p1, p2, -, -, -⟩ := cell3 ((HB9.out.block _ HWB.out).trans HFB.out)
          refine hK.out _ _ (⟨n0, n1, n2, p0, p1, p2⟩) (fun hHeld => ?_)
          clear hK K
          try simp only [Act.put]
          refine wpAnyH_done (by kernel_rfl) ?_ _
          clear n0 n1 n2 p0 p1 p2
          have HS9 : Hid (B ≤ w9.heap.size) := Lib.hid (by have := HA9.out.lt; have := HA9.out.ord; omega)
          have hcm := chM_len (k + 1) dd rs'
          go_wp2_with (at_builtin; refine wpList_append_rows (w := w9) rfl _ _ 81 rfl B 138 i0 (.agg #[.int .i64 0, .int .i64 0, .int .i64 0]) 3 24 Try.underlying81 hi hz0 hz1 hz2 rfl (by decide) mvC_len mvC_one g ms'.length c (flatC mvC ms') rfl HA9.out.moves (some ⟨g2, 0, none⟩) c2 (chM (k + 1) dd rs') rfl ?c2 ?c3 ?c4 ?c5 ?_)
          case c2 =>
            rcases (RowsR.of_own mvC_len HM9.out).src mvC_len (by decide) with h | ⟨ad, e1, h⟩
            · exact Or.inl h
            · exact Or.inr ⟨ad, e1, fun j u hj => h w9 (Below.refl _ _) j u hj⟩
          case c3 => unfold maxLen; omega
          case c4 => omega
          case c5 => exact HS9.out
          intro g3 c3 w10 ho hg _
          have HA10 := Lib.hid (HA9.out.setM ho hg)
          have HB10 : Hid (Below B w3 w10) := Lib.hid (HB9.out.grown hg HS9.out (fun q hq => by cases hq; exact (HA9.out.moves.lt g rfl).1))
          have HT10 := Lib.hid ((hg.block T (lt_of_block HT9.out) (by intro e; injection e with e; exact own_box HA9.out.moves HT9.out (by decide) g rfl e.symm)).trans HT9.out)
          have HR10 := Lib.hid (own_kept2 HR9.out HA9.out.moves (by decide) hg)
          clear ho hg
          obtain ⟨t0, t1, t2, -, -, -⟩ := cell3 HT10.out
          obtain ⟨n0, n1, n2, m0, m1, m2⟩ := cell3 HA10.out.box
          have ha11 := HA10.out.setF HR10.out
          have hb11 := bl_set3 HB10.out HA10.out.ord (.int .i64 up) (.int .i64 lo) (.slice (some ⟨rb2, 0, none⟩) (chR (k + 1) dd rs').length rc2)
          have HA11 := Lib.hid ha11
          have HB11 := Lib.hid hb11
          have HG11 := Lib.hid (HG.out.step hlt dd HDD.out)
          clear ha11 hb11
          go_wp2_with fail
          go_roundw
          case rel => exact ⟨k + 1, chR (k + 1) dd rs', ms' ++ chM (k + 1) dd rs', g3, c3, rb2, rc2, by go_num, by rw [List.length_append], HA11.out, HB11.out, HG11.out⟩
          case measure => simp [intOf]; omega
      · go_simp
        have hb : Below v1.heap.size v1 (v1.alloc (.cells #[.int .i64 0, .int .i64 0, .slice none 0 0] 42)) := (Below.refl _ _).alloc (Nat.le_refl _) _
        have ht : (v1.alloc (.cells #[.int .i64 0, .int .i64 0, .slice none 0 0] 42)).heap[v1.heap.size]? = some (.cells #[.int .i64 0, .int .i64 0, .slice none 0 0] 42 (0, 0)) := alloc_at rfl
        have hnt := HA1.out.lt
        generalize v1.alloc (.cells #[.int .i64 0, .int .i64 0, .slice none 0 0] 42) = v2 at hb ht ⊢
        obtain ⟨T, hTe⟩ : ∃ T, T = v1.heap.size := ⟨_, rfl⟩
        rw [← hTe] at ht hnt
        simp only [← hTe]
        have HT2 := Lib.hid ht
        have HNT2 := Lib.hid hnt
        clear ht hnt hTe
        have HA2 := Lib.hid (HA1.out.next hb)
        have HS1 : Hid (B ≤ v1.heap.size) := Lib.hid (by have := HA1.out.lt; have := HA1.out.ord; omega)
        have HB2 : Hid (Below B w3 v2) := Lib.hid (HB1.out.trans (hb.mono HS1.out))
        clear hb
        try clear n0 n1 n2 p0 p1 p2
        obtain ⟨n0, n1, n2, -, -, -⟩ := cell3 HA2.out.box
        obtain ⟨p0, p1, p2, -, -, -⟩ := cell3 ((HB2.out.block _ HWB.out).trans HFB.out)
        refine hK.out _ _ (⟨n0, n1, n2, p0, p1, p2⟩) (fun hHeld => ?_)
        clear hK K
        try simp only [Act.put, List.setIfInBounds_toArray, List.set_cons_zero, List.set_cons_succ]
        refine wpAnyH_ready (rs := [5]) (by kernel_rfl) (by simp) ?_
        refine AllReadyH.cons rfl (fun K hK => ?_) AllReadyH.nil
        go_simp
        go_at_call 124
        refine (l6At_any up lo _ rs m k _ (HRW.out.below (HBW.out.trans (HB2.out.mono HWB2.out)) (Nat.le_refl _)) hn1 hlt hm0 hm1).mono ?_
        rintro e v3 ⟨rfl, hb⟩
        rw [HDD.out]
        have HA3 := Lib.hid (HA2.out.next hb)
        have HS2 : Hid (B ≤ v2.heap.size) := Lib.hid (by have := HA2.out.lt; have := HA2.out.ord; omega)
        have HB3 : Hid (Below B w3 v3) := Lib.hid (HB2.out.trans (hb.mono HS2.out))
        have HT3 := Lib.hid ((hb.block _ (lt_of_block HT2.out)).trans HT2.out)
        have HNT3 := Lib.hid HNT2.out
        clear hb
        try clear n0 n1 n2 p0 p1 p2
        obtain ⟨n0, n1, n2, -, -, -⟩ := cell3 HA3.out.box
        obtain ⟨p0, p1, p2, -, -, -⟩ := cell3 ((HB3.out.block _ HWB.out).trans HFB.out)
        try go_simp
        refine hK.out _ _ (⟨n0, n1, n2, p0, p1, p2⟩) (fun hHeld => ?_)
        clear hK K
        try simp only [Act.put, List.setIfInBounds_toArray, List.set_cons_zero, List.set_cons_succ]
        refine wpAnyH_ready (rs := [6]) (by kernel_rfl) (by simp) ?_
        refine AllReadyH.cons rfl (fun K hK => ?_) AllReadyH.nil
        go_simp
        go_at_call 126
        refine (l6Digit_any up lo _ rs' k dd _ (RodsR.of_own HA3.out.rods) HST.out (by have := HLN.out; omega) (by have := HLN.out; omega) hd9.1 hd9.2).mono ?_
        rintro e v4 ⟨⟨g2, c2, rb2, rc2, rfl, hor, hom⟩, hb⟩
        have HSX : Hid (B ≤ v3.heap.size) := Lib.hid (by have := HA3.out.lt; have := HA3.out.ord; omega)
        have HR4 := Lib.hid (own_mono hor HSX.out)
        have HM4 := Lib.hid (own_mono hom HSX.out)
        clear hor hom
        have HA4 := Lib.hid (HA3.out.next hb)
        have HS3 : Hid (B ≤ v3.heap.size) := Lib.hid (by have := HA3.out.lt; have := HA3.out.ord; omega)
        have HB4 : Hid (Below B w3 v4) := Lib.hid (HB3.out.trans (hb.mono HS3.out))
        have HT4 := Lib.hid ((hb.block _ (lt_of_block HT3.out)).trans HT3.out)
        have HNT4 := Lib.hid HNT3.out
        clear hb
        try clear n0 n1 n2 p0 p1 p2
        obtain ⟨n0, n1, n2, -, -, -⟩ := cell3 HA4.out.box
        obtain ⟨p0, p1, p2, -, -, -⟩ := cell3 ((HB4.out.block _ HWB.out).trans HFB.out)
        try go_simp
        refine hK.out _ _ (⟨n0, n1, n2, p0, p1, p2⟩) (fun hHeld => ?_)
        clear hK K
        try simp only [Act.put, List.setIfInBounds_toArray, List.set_cons_zero, List.set_cons_succ]
        refine take1 (i := 7) (v := ?v28) (some 21) rfl rfl (by kernel_rfl) (by kernel_rfl) (by kernel_rfl) (fun _ _ _ h => h) (Or.inl ⟨by rfl, ?y28⟩) (by assumption) ?r28
        case y28 => (intro w hSw; (try dsimp only at hSw); go_simp; (first | done | with_reducible rfl))
        try simp only [Act.put, List.setIfInBounds_toArray, List.set_cons_zero, List.set_cons_succ]
        refine take1 (i := 8) (v := ?v29) (some 29) rfl rfl (by kernel_rfl) (by kernel_rfl) (by kernel_rfl) (fun _ _ _ h => h) (Or.inl ⟨by rfl, ?y29⟩) (by assumption) ?r29
        case y29 => (intro w hSw; (try dsimp only at hSw); go_simp; (first | done | with_reducible rfl))
        try simp only [Act.put, List.setIfInBounds_toArray, List.set_cons_zero, List.set_cons_succ]
        refine take1 (i := 9) (v := ?v30) (some 30) rfl rfl (by kernel_rfl) (by kernel_rfl) (by kernel_rfl) (fun _ _ _ h => h) (Or.inl ⟨by rfl, ?y30⟩) (by assumption) ?r30
        case y30 => (intro w hSw; (try dsimp only at hSw); go_simp; (first | done | with_reducible rfl))
        try simp only [Act.put, List.setIfInBounds_toArray, List.set_cons_zero, List.set_cons_succ]
        refine take1 (i := 11) (v := ?v31) (some 9) rfl rfl (by kernel_rfl) (by kernel_rfl) (by kernel_rfl) (fun _ _ _ h => h) (Or.inl ⟨by rfl, ?y31⟩) (by assumption) ?r31
        case y31 => (intro w hSw; (try dsimp only at hSw); go_simp; (first | done | with_reducible rfl))
        try simp only [Act.put, List.setIfInBounds_toArray, List.set_cons_zero, List.set_cons_succ]
        obtain ⟨t0, t1, t2, s0, s1, s2⟩ := cell3 HT4.out
        refine wpAnyH_ready (rs := [12]) (by kernel_rfl) (by simp) ?_
        refine AllReadyH.cons rfl (fun K hK => ?_) AllReadyH.nil
        go_simp
        clear t0 t1 t2 s0 s1 s2
        have ha9 := HA4.out.store3 HT4.out (by have := HNT4.out; omega) (.int .i64 up) (.int .i64 lo) (.slice (some ⟨rb2, 0, none⟩) (chR (k + 1) dd rs').length rc2)
        have ht9 := box3_set HT4.out (.int .i64 up) (.int .i64 lo) (.slice (some ⟨rb2, 0, none⟩) (chR (k + 1) dd rs').length rc2)
        have hTB : B ≤ T := by have := HNT4.out; have := HA4.out.ord; omega
        have hb9 := bl_set3 HB4.out hTB (.int .i64 up) (.int .i64 lo) (.slice (some ⟨rb2, 0, none⟩) (chR (k + 1) dd rs').length rc2)
        have hr9 := own_setb3 HR4.out (own_box HR4.out HT4.out (by decide)) (.int .i64 up) (.int .i64 lo) (.slice (some ⟨rb2, 0, none⟩) (chR (k + 1) dd rs').length rc2)
        have hm9 := own_setb3 HM4.out (own_box HM4.out HT4.out (by decide)) (.int .i64 up) (.int .i64 lo) (.slice (some ⟨rb2, 0, none⟩) (chR (k + 1) dd rs').length rc2)
        generalize (((v4.setCell ⟨T, 0, none⟩ (.int .i64 up)).setCell ⟨T, 1, none⟩ (.int .i64 lo)).setCell ⟨T, 2, none⟩ (.slice (some ⟨rb2, 0, none⟩) (chR (k + 1) dd rs').length rc2)) = w9 at ha9 ht9 hb9 hr9 hm9 ⊢
        have HA9 := Lib.hid ha9
        have HT9 := Lib.hid ht9
        have HB9 := Lib.hid hb9
        have HR9 := Lib.hid hr9
        have HM9 := Lib.hid hm9
        have HNT9 := Lib.hid HNT4.out
        clear ha9 ht9 hb9 hr9 hm9
        try clear n0 n1 n2 p0 p1 p2
        obtain ⟨n0, n1, n2, -, -, -⟩ := cell3 HA9.out.box
        obtain ⟨p0, p1, p2, -, -, -⟩ := cell3 ((HB9.out.block _ HWB.out).trans HFB.out)
        refine hK.out _ _ (⟨n0, n1, n2, p0, p1, p2⟩) (fun hHeld => ?_)
        clear hK K
        try simp only [Act.put]
        refine wpAnyH_done (by kernel_rfl) ?_ _
        clear n0 n1 n2 p0 p1 p2
        have HS9 : Hid (B ≤ w9.heap.size) := Lib.hid (by have := HA9.out.lt; have := HA9.out.ord; omega)
        have hcm := chM_len (k + 1) dd rs'
        go_wp2_with (at_builtin; refine wpList_append_rows (w := w9) rfl _ _ 81 rfl B 138 i0 (.agg #[.int .i64 0, .int .i64 0, .int .i64 0]) 3 24 Try.underlying81 hi hz0 hz1 hz2 rfl (by decide) mvC_len mvC_one g ms'.length c (flatC mvC ms') rfl HA9.out.moves (some ⟨g2, 0, none⟩) c2 (chM (k + 1) dd rs') rfl ?c2 ?c3 ?c4 ?c5 ?_)
        case c2 =>
          rcases (RowsR.of_own mvC_len HM9.out).src mvC_len (by decide) with h | ⟨ad, e1, h⟩
          · exact Or.inl h
          · exact Or.inr ⟨ad, e1, fun j u hj => h w9 (Below.refl _ _) j u hj⟩
        case c3 => unfold maxLen; omega
        case c4 => omega
        case c5 => exact HS9.out
        intro g3 c3 w10 ho hg _
        have HA10 := Lib.hid (HA9.out.setM ho hg)
        have HB10 : Hid (Below B w3 w10) := Lib.hid (HB9.out.grown hg HS9.out (fun q hq => by cases hq; exact (HA9.out.moves.lt g rfl).1))
        have HT10 := Lib.hid ((hg.block T (lt_of_block HT9.out) (by intro e; injection e with e; exact own_box HA9.out.moves HT9.out (by decide) g rfl e.symm)).trans HT9.out)
        have HR10 := Lib.hid (own_kept2 HR9.out HA9.out.moves (by decide) hg)
        clear ho hg
        obtain ⟨t0, t1, t2, -, -, -⟩ := cell3 HT10.out
        obtain ⟨n0, n1, n2, m0, m1, m2⟩ := cell3 HA10.out.box
        have ha11 := HA10.out.setF HR10.out
        have hb11 := bl_set3 HB10.out HA10.out.ord (.int .i64 up) (.int .i64 lo) (.slice (some ⟨rb2, 0, none⟩) (chR (k + 1) dd rs').length rc2)
        have HA11 := Lib.hid ha11
        have HB11 := Lib.hid hb11
        have HG11 := Lib.hid (HG.out.step hlt dd HDD.out)
        clear ha11 hb11
        go_wp2_with fail
        go_roundw
        case rel => exact ⟨k + 1, chR (k + 1) dd rs', ms' ++ chM (k + 1) dd rs', g3, c3, rb2, rc2, by go_num, by rw [List.length_append], HA11.out, HB11.out, HG11.out⟩
        case measure => simp [intOf]; omega
    · have hke : k = rs.length := by omega
      subst hke
      obtain ⟨e1, e2⟩ := HG.out.done
      subst e1 e2
      clear HG hmt
      have z2 : ¬ ((rs.length : Int) < (rs.length : Int)) := by omega
      go_wp2_with fail
      refine wp_region_held_drew (S := (fun u => u.cell? ⟨N, 0, none⟩ = some (.int .i64 up) ∧ u.cell? ⟨N, 1, none⟩ = some (.int .i64 lo) ∧ u.cell? ⟨N, 2, none⟩ = some (.slice (some ⟨rb, 0, none⟩) rs'.length rc))) (by kernel_rfl) (⟨n0, n1, n2⟩) (fun hHeld => ?_)
      have hb : Below wr.heap.size wr wr.drew := (Below.refl _ _).drew
      generalize wr.drew = w5 at hb hHeld ⊢
      have HA5 := Lib.hid (HA0.out.next hb)
      have HB5 : Hid (Below B w3 w5) := Lib.hid (HB0.out.trans (hb.mono (by have := HA0.out.lt; have := HA0.out.ord; omega)))
      clear n0 n1 n2 hb
      obtain ⟨n0, n1, n2, -, -, -⟩ := cell3 HA5.out.box
      have hz5 := (HB5.out.block _ HZB.out).trans HKZ.out
      obtain ⟨z0, z1, z2, y0, y1, y2⟩ := cell3 hz5
      refine take1 (i := 0) (v := ?v32) (some 35) rfl rfl (by kernel_rfl) (by kernel_rfl) (by kernel_rfl) (fun _ _ _ h => h) (Or.inl ⟨by rfl, ?y32⟩) (by assumption) ?r32
      case y32 => (intro w hSw; (try dsimp only at hSw); go_simp; (first | done | with_reducible rfl))
      try simp only [Act.put, List.setIfInBounds_toArray, List.set_cons_zero, List.set_cons_succ]
      refine take1 (i := 1) (v := ?v33) (some 36) rfl rfl (by kernel_rfl) (by kernel_rfl) (by kernel_rfl) (fun _ _ _ h => h) (Or.inl ⟨by rfl, ?y33⟩) (by assumption) ?r33
      case y33 => (intro w hSw; (try dsimp only at hSw); go_simp; (first | done | with_reducible rfl))
      try simp only [Act.put, List.setIfInBounds_toArray, List.set_cons_zero, List.set_cons_succ]
      refine take1 (i := 2) (v := ?v34) (some 4) rfl rfl (by kernel_rfl) (by kernel_rfl) (by kernel_rfl) (fun _ _ _ h => h) (Or.inl ⟨by rfl, ?y34⟩) (by assumption) ?r34
      case y34 => (intro w hSw; (try dsimp only at hSw); go_simp; (first | done | with_reducible rfl))
      try simp only [Act.put, List.setIfInBounds_toArray, List.set_cons_zero, List.set_cons_succ]
      refine wpAnyH_ready (rs := [3]) (by kernel_rfl) (by simp) ?_
      refine AllReadyH.cons rfl (fun K hK => ?_) AllReadyH.nil
      go_simp
      have hzz := box3_set hz5 (.int .i64 up) (.int .i64 lo) (.slice (some ⟨rb, 0, none⟩) rs'.length rc)
      have hnn := (Below.heap_setCell _ ⟨w.heap.size + 1, 2, none⟩ (.slice (some ⟨rb, 0, none⟩) rs'.length rc) N (by have := HA5.out.ord; have := HZB.out; show N ≠ w.heap.size + 1; omega)).trans ((Below.heap_setCell _ ⟨w.heap.size + 1, 1, none⟩ (.int .i64 lo) N (by have := HA5.out.ord; have := HZB.out; show N ≠ w.heap.size + 1; omega)).trans ((Below.heap_setCell w5 ⟨w.heap.size + 1, 0, none⟩ (.int .i64 up) N (by have := HA5.out.ord; have := HZB.out; show N ≠ w.heap.size + 1; omega)).trans HA5.out.box))
      have ho1 := own_set3 HA5.out.rods HZB.out (.int .i64 up) (.int .i64 lo) (.slice (some ⟨rb, 0, none⟩) rs'.length rc)
      have ho2 := own_set3 HA5.out.moves HZB.out (.int .i64 up) (.int .i64 lo) (.slice (some ⟨rb, 0, none⟩) rs'.length rc)
      have hbl := bl_set3 (HBW.out.trans (HB5.out.mono (by have := HZB.out; omega))) (Nat.le_succ w.heap.size) (.int .i64 up) (.int .i64 lo) (.slice (some ⟨rb, 0, none⟩) rs'.length rc)
      clear n0 n1 n2 z0 z1 z2 y0 y1 y2
      generalize ((w5.setCell ⟨w.heap.size + 1, 0, none⟩ (.int .i64 up)).setCell ⟨w.heap.size + 1, 1, none⟩ (.int .i64 lo)).setCell ⟨w.heap.size + 1, 2, none⟩ (.slice (some ⟨rb, 0, none⟩) rs'.length rc) = w6 at hzz hnn ho1 ho2 hbl ⊢
      obtain ⟨n0, n1, n2, -, -, -⟩ := cell3 hnn
      refine hK.out _ _ (⟨n0, n1, n2⟩) (fun hHeld => ?_)
      clear hK K
      try simp only [Act.put]
      refine wpAnyH_done (by kernel_rfl) ?_ _
      obtain ⟨z0, z1, z2, -, -, -⟩ := cell3 hzz
      have HO1 := Lib.hid ho1
      have HO2 := Lib.hid ho2
      have HBL := Lib.hid hbl
      clear hzz hnn ho1 ho2 hbl
      go_wp2_with fail
      have hwB : w.heap.size ≤ B := by have := HZB.out; omega
      exact bodyPost_ret (v := .tuple #[.slice (some ⟨g, 0, none⟩) ms'.length c, .agg #[.int .i64 up, .int .i64 lo, .slice (some ⟨rb, 0, none⟩) rs'.length rc]]) (by simp [results, Try.results84, go_sem, z0, z1, z2]) rfl ⟨⟨g, c, rb, rc, rfl, own_mono HO1.out hwB, own_mono HO2.out hwB⟩, HBL.out⟩
end Go.Proofs.Ythmbehknacjodaa
