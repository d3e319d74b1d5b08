/- Moves and a number of rods, drawn. -/
import Derived.Test.YtmkocinknhaniaaDbu
import Derived.Deep.AppendLies
namespace Go.Proofs.Ytmkocinknhaniaa
set_option linter.unusedVariables false
open Go.RowKit
set_option linter.unusedSimpArgs false

theorem slr_headX {w : World} {B : Nat} {T : TypeId} {xs : List Value} (hb : w.heap[B]? = some (.cells xs.toArray T (0, 0))) (hl : xs.length ≤ maxLen) : SlR w (.slice (some ⟨B, 0, none⟩) xs.length xs.length) xs := by
  refine ⟨_, xs.length, rfl, ⟨by omega, by omega⟩, fun _ => ⟨B, 0, rfl, lt_of_block hb, fun i hi => ?_⟩⟩
  rw [Nat.zero_add, cell_of_row w B i _ _ _ hb]
  simp [hi]
set_option maxRecDepth 100000 in
set_option maxHeartbeats 6400000 in
theorem drawChangeOf_any (cd : Value) (L : List UInt8) (w : World) (h : SlR w cd (L.map fun c => .int .u8 (c.toNat : Int))) :
    Calls Try.prog 17 #[cd] w fun e w' => (∃ (sq : Value) (ms : List Mv) (r : Int), e = .returned (.tuple #[sq, .int .i64 r]) ∧ w'.ownsRow w.heap.size 40 3 sq ms.length (flatC mvC ms) ∧ ms.length ≤ 70) ∧ Below w.heap.size w w' := by
  obtain ⟨ad, cp, rfl⟩ : ∃ a c, cd = .slice a L.length c := by obtain ⟨a, c, e, _⟩ := h; exact ⟨a, c, by rw [e, List.length_map]⟩
  obtain ⟨W1, hW1, hc1, hr1, hb1⟩ := cur_newM h
  have hs1 : W1.heap.size = w.heap.size + 1 := by rw [← hW1]; simp
  have HF1 := Lib.hid (frame_any w.heap.size _ L 0 W1 (by omega) hc1 hr1)
  have HR1 := Lib.hid hr1
  have HB1 := Lib.hid hb1
  have HS1 := Lib.hid hs1
  clear hc1 hr1 hb1 h hs1
  go_enter Try.func17, Try.ntmps17
  go_wp2_with fail
  try rw [hW1]
  refine (HF1.out).mono ?_
  rintro e w2 ⟨⟨up, lo, sv, rs, rfl, ho, hl⟩, hc2, hg2⟩
  obtain ⟨a, c, rfl⟩ : ∃ a c, sv = .slice a rs.length c := by obtain ⟨a, c, e, _⟩ := RodsR.of_own ho; exact ⟨a, c, e⟩
  have hga := grown_alloc w2 (.cells #[.int .i64 up, .int .i64 lo, .slice a rs.length c] 52) none
  have HG3 := Lib.hid (grown_trans hg2 (grown_any (r := some w.heap.size) hga))
  have HC3 := Lib.hid (hc2.old hga)
  have hkF : (w2.alloc (.cells #[.int .i64 up, .int .i64 lo, .slice a rs.length c] 52)).heap[w2.heap.size]? = some (.cells #[.int .i64 up, .int .i64 lo, .slice a rs.length c] 52 (0, 0)) := alloc_at rfl
  have HKF := Lib.hid hkF
  have HO3 := Lib.hid (ho.alloc (.cells #[.int .i64 up, .int .i64 lo, .slice a rs.length c] 52))
  have HF2 : Hid (w.heap.size + 1 ≤ w2.heap.size) := Lib.hid (by have := hg2.size; have := HS1.out; omega)
  have HLR := Lib.hid hl
  have hmr : rs.length ≤ 9223372036854775807 := by obtain ⟨_, _, _, ⟨m, _⟩, _⟩ := RodsR.of_own ho; exact m
  clear hc2 hg2 hga hkF ho hl
  go_wp2_with fail
  try generalize w2.alloc (.cells #[.int .i64 up, .int .i64 lo, .slice a rs.length c] 52) = w3 at HG3 HC3 HKF HO3 ⊢
  generalize w2.heap.size = F at HKF HF2 ⊢
  obtain ⟨c0, c1, c2, -, -, -⟩ := cell3 HKF.out
  have HB0 : Hid (Below w.heap.size w w) := Lib.hid (Below.refl _ _)
  refine wp_region_held_drew (S := (fun u => u.cell? ⟨F, 0, none⟩ = some (.int .i64 up) ∧ u.cell? ⟨F, 1, none⟩ = some (.int .i64 lo) ∧ u.cell? ⟨F, 2, none⟩ = some (.slice a rs.length c))) (by kernel_rfl) (⟨c0, c1, c2⟩) (fun hHeld => ?_)
  have HG : Hid (W1.grownBy w3.drew (some w.heap.size)) := Lib.hid (grown_trans HG3.out (grown_drewN w3 1 (some w.heap.size)))
  have HC : Hid (CurAt w3.drew w.heap.size (.slice ad L.length cp) (0 + 200)) := Lib.hid (HC3.out.old (grown_drewN w3 1 none))
  have HOF := Lib.hid (own_grown HO3.out (grown_drewN w3 1 (some w.heap.size)) (by have := HS1.out; omega))
  change Hid (w3.drew.ownsRow _ _ _ _ _ _) at HOF
  have HKd : Hid (w3.drew.heap[F]? = some (.cells #[.int .i64 up, .int .i64 lo, .slice a rs.length c] 52 (0, 0))) := HKF
  generalize w3.drew = wn at HG HC HOF HKd hHeld ⊢
  clear c0 c1 c2
  have HX : Hid (wn.grownBy wn (some w.heap.size)) := Lib.hid (World.grownBy.refl wn (some w.heap.size))
  have HCL : Hid (∀ wi, wn.grownBy wi (some w.heap.size) → wi.cell? ⟨F, 0, none⟩ = some (.int .i64 up) ∧ wi.cell? ⟨F, 1, none⟩ = some (.int .i64 lo) ∧ wi.cell? ⟨F, 2, none⟩ = some (.slice a rs.length c)) := Lib.hid (fun wi hg => by
    obtain ⟨c0, c1, c2, -, -, -⟩ := cell3 ((hg.block F (lt_of_block HKd.out) (by intro e; have := HF2.out; injection e with e; omega)).trans HKd.out)
    exact ⟨c0, c1, c2⟩)
  refine take1 (i := 0) (v := ?v1) (some 11) rfl rfl (by kernel_rfl) (by kernel_rfl) (by kernel_rfl) (fun _ _ _ h => h) (Or.inl ⟨by rfl, ?y1⟩) (by assumption) ?r1
  case y1 => (intro w hSw; (try dsimp only at hSw); go_simp; (first | done | with_reducible rfl))
  try simp only [Act.put, List.setIfInBounds_toArray, List.set_cons_zero, List.set_cons_succ]
  refine take1 (i := 1) (v := ?v2) (some 12) rfl rfl (by kernel_rfl) (by kernel_rfl) (by kernel_rfl) (fun _ _ _ h => h) (Or.inl ⟨by rfl, ?y2⟩) (by assumption) ?r2
  case y2 => (intro w hSw; (try dsimp only at hSw); go_simp; (first | done | with_reducible rfl))
  try simp only [Act.put, List.setIfInBounds_toArray, List.set_cons_zero, List.set_cons_succ]
  refine take1 (i := 3) (v := ?v3) (some 14) rfl rfl (by kernel_rfl) (by kernel_rfl) (by kernel_rfl) (fun _ _ _ h => h) (Or.inl ⟨by rfl, ?y3⟩) (by assumption) ?r3
  case y3 => (intro w hSw; (try dsimp only at hSw); go_simp; (first | done | with_reducible rfl))
  try simp only [Act.put, List.setIfInBounds_toArray, List.set_cons_zero, List.set_cons_succ]
  refine take1 (i := 4) (v := ?v4) (some 15) rfl rfl (by kernel_rfl) (by kernel_rfl) (by kernel_rfl) (fun _ _ _ h => h) (Or.inl ⟨by rfl, ?y4⟩) (by assumption) ?r4
  case y4 => (intro w hSw; (try dsimp only at hSw); go_simp; (first | done | with_reducible rfl))
  try simp only [Act.put, List.setIfInBounds_toArray, List.set_cons_zero, List.set_cons_succ]
  refine take1 (i := 5) (v := ?v5) (some 16) rfl rfl (by kernel_rfl) (by kernel_rfl) (by kernel_rfl) (fun _ _ _ h => h) (Or.inl ⟨by rfl, ?y5⟩) (by assumption) ?r5
  case y5 => (intro w hSw; (try dsimp only at hSw); go_simp; (first | done | with_reducible rfl))
  try simp only [Act.put, List.setIfInBounds_toArray, List.set_cons_zero, List.set_cons_succ]
  refine take1 (i := 6) (v := ?v6) (some 17) rfl rfl (by kernel_rfl) (by kernel_rfl) (by kernel_rfl) (fun _ _ _ h => h) (Or.inl ⟨by rfl, ?y6⟩) (by assumption) ?r6
  case y6 => (intro w hSw; (try dsimp only at hSw); go_simp; (first | done | with_reducible rfl))
  try simp only [Act.put, List.setIfInBounds_toArray, List.set_cons_zero, List.set_cons_succ]
  refine take1 (i := 7) (v := ?v7) (some 18) rfl rfl (by kernel_rfl) (by kernel_rfl) (by kernel_rfl) (fun _ _ _ h => h) (Or.inl ⟨by rfl, ?y7⟩) (by assumption) ?r7
  case y7 => (intro w hSw; (try dsimp only at hSw); go_simp; (first | done | with_reducible rfl))
  try simp only [Act.put, List.setIfInBounds_toArray, List.set_cons_zero, List.set_cons_succ]
  refine take1 (i := 8) (v := ?v8) (some 19) rfl rfl (by kernel_rfl) (by kernel_rfl) (by kernel_rfl) (fun _ _ _ h => h) (Or.inl ⟨by rfl, ?y8⟩) (by assumption) ?r8
  case y8 => (intro w hSw; (try dsimp only at hSw); go_simp; (first | done | with_reducible rfl))
  try simp only [Act.put, List.setIfInBounds_toArray, List.set_cons_zero, List.set_cons_succ]
  refine take1 (i := 9) (v := ?v9) (some 20) rfl rfl (by kernel_rfl) (by kernel_rfl) (by kernel_rfl) (fun _ _ _ h => h) (Or.inl ⟨by rfl, ?y9⟩) (by assumption) ?r9
  case y9 => (intro w hSw; (try dsimp only at hSw); go_simp; (first | done | with_reducible rfl))
  try simp only [Act.put, List.setIfInBounds_toArray, List.set_cons_zero, List.set_cons_succ]
  refine wpAnyH_ready (rs := [2, 10]) (by kernel_rfl) (by simp) ?_
  refine AllReadyH.cons rfl (fun K hK => ?_) (AllReadyH.cons rfl (fun K hK => ?_) AllReadyH.nil)
  · go_simp
    go_at_call 29
    refine (beads_any w.heap.size (.slice ad L.length cp) L (0 + 200) up lo a c rs wn (by omega) (RodsR.of_own HOF.out) HLR.out (own_nocur HOF.out (by have := HS1.out; omega)) HC.out (HR1.out.grown HG.out)).mono ?_
    rintro e wn ⟨⟨sq, ms, rfl, ho, hlm⟩, hc, hg⟩
    have HOM := Lib.hid (own_mono ho (by have := HG.out.size; have := HS1.out; omega : w.heap.size + 1 ≤ _))
    obtain ⟨oa, oc, rfl⟩ := (RowsR.of_own mvC_len HOM.out).form
    have HLM := Lib.hid hlm
    replace HC := Lib.hid hc
    replace HOF := Lib.hid (own_grown HOF.out hg (by have := HS1.out; omega))
    try replace HLA := Lib.hid ((hg.block _ (Array.getElem?_eq_some_iff.1 HLA.out).1 (by intro e; injection e with e; exact HNA.out e)).trans HLA.out)
    replace HX := Lib.hid (grown_trans HX.out hg)
    replace HG := Lib.hid (grown_trans HG.out hg)
    clear hc hg ho hlm
    refine hK.out _ _ ((HCL.out _ HX.out)) (fun hHeld => ?_)
    clear hK K
    try simp only [Act.put, List.setIfInBounds_toArray, List.set_cons_zero, List.set_cons_succ]
    refine wpAnyH_ready (rs := [10]) (by kernel_rfl) (by simp) ?_
    refine AllReadyH.cons rfl (fun K hK => ?_) AllReadyH.nil
    go_simp
    obtain ⟨wk, hwk⟩ : ∃ u, wn.alloc (.cells (([(rs.length : Int), (rs.length : Int), 1, 8, 0, 9] : List Int).map (Value.int .i64)).toArray 3) = u := ⟨_, rfl⟩
    have hal : wn.grownBy wk none := hwk ▸ grown_alloc wn (.cells (([(rs.length : Int), (rs.length : Int), 1, 8, 0, 9] : List Int).map (Value.int .i64)).toArray 3) none
    have hla : wk.heap[wn.heap.size]? = some (.cells (([(rs.length : Int), (rs.length : Int), 1, 8, 0, 9] : List Int).map (Value.int .i64)).toArray 3 (0, 0)) := hwk ▸ alloc_at rfl
    have HNA : Hid (wn.heap.size ≠ w.heap.size) := Lib.hid (by have := HG.out.size; have := HS1.out; omega)
    try simp only [List.map_cons, List.map_nil] at hwk
    rw [hwk]
    clear hwk
    replace HC := Lib.hid (HC.out.old hal)
    have hg := grown_any (r := some w.heap.size) hal
    have HLA := Lib.hid hla
    replace HOF := Lib.hid (own_grown HOF.out hg (by have := HS1.out; omega))
    try replace HOM := Lib.hid (own_grown HOM.out hg (by omega))
    replace HX := Lib.hid (grown_trans HX.out hg)
    replace HG := Lib.hid (grown_trans HG.out hg)
    clear hal hla hg
    generalize wn.heap.size = LB at HNA HLA ⊢
    rename World => wn
    refine hK.out _ _ ((HCL.out _ HX.out)) (fun hHeld => ?_)
    clear hK K
    try simp only [Act.put, List.setIfInBounds_toArray, List.set_cons_zero, List.set_cons_succ]
    refine wpAnyH_ready (rs := [11]) (by kernel_rfl) (by simp) ?_
    refine AllReadyH.cons rfl (fun K hK => ?_) AllReadyH.nil
    go_simp
    go_at_call 35
    have hs7 := slr_headX (xs := ([(rs.length : Int), (rs.length : Int), 1, 8, 0, 9] : List Int).map (Value.int .i64)) HLA.out (by show 6 ≤ maxLen; unfold maxLen; omega)
    refine (among_any w.heap.size (.slice ad L.length cp) L (0 + 200 + 400) _ ([(rs.length : Int), (rs.length : Int), 1, 8, 0, 9] : List Int) wn (by omega) ⟨by show 1 ≤ 6; omega, by show 6 ≤ 100; omega⟩ hs7 (fun a m c e => by cases e; exact HNA.out) HC.out (HR1.out.grown HG.out)).mono ?_
    rintro e wn ⟨⟨z6, rfl, hz⟩, hc, hg⟩
    replace HC := Lib.hid hc
    replace HOF := Lib.hid (own_grown HOF.out hg (by have := HS1.out; omega))
    try replace HOM := Lib.hid (own_grown HOM.out hg (by omega))
    try replace HLA := Lib.hid ((hg.block _ (Array.getElem?_eq_some_iff.1 HLA.out).1 (by intro e; injection e with e; exact HNA.out e)).trans HLA.out)
    replace HX := Lib.hid (grown_trans HX.out hg)
    replace HG := Lib.hid (grown_trans HG.out hg)
    clear hc hg hz hs7
    refine hK.out _ _ ((HCL.out _ HX.out)) (fun hHeld => ?_)
    clear hK K
    try simp only [Act.put, List.setIfInBounds_toArray, List.set_cons_zero, List.set_cons_succ]
    refine take1 (i := 12) (v := ?v10) (some 2) rfl rfl (by kernel_rfl) (by kernel_rfl) (by kernel_rfl) (fun _ _ _ h => h) (Or.inl ⟨by rfl, ?y10⟩) (by assumption) ?r10
    case y10 => (intro w hSw; (try dsimp only at hSw); go_simp; (first | done | with_reducible rfl))
    try simp only [Act.put, List.setIfInBounds_toArray, List.set_cons_zero, List.set_cons_succ]
    refine take1 (i := 13) (v := ?v11) (some 3) rfl rfl (by kernel_rfl) (by kernel_rfl) (by kernel_rfl) (fun _ _ _ h => h) (Or.inl ⟨by rfl, ?y11⟩) (by assumption) ?r11
    case y11 => (intro w hSw; (try dsimp only at hSw); go_simp; (first | done | with_reducible rfl))
    try simp only [Act.put, List.setIfInBounds_toArray, List.set_cons_zero, List.set_cons_succ]
    refine wpAnyH_done (by kernel_rfl) ?_ _
    have HB9 := Lib.hid (below_curM HB1.out HG.out (Nat.le_refl _))
    go_wp2_with fail
    go_ret2
    exact ⟨⟨_, ms, z6, rfl, own_mono HOM.out (Nat.le_succ _), HLM.out⟩, HB9.out⟩
  · go_simp
    obtain ⟨wk, hwk⟩ : ∃ u, wn.alloc (.cells (([(rs.length : Int), (rs.length : Int), 1, 8, 0, 9] : List Int).map (Value.int .i64)).toArray 3) = u := ⟨_, rfl⟩
    have hal : wn.grownBy wk none := hwk ▸ grown_alloc wn (.cells (([(rs.length : Int), (rs.length : Int), 1, 8, 0, 9] : List Int).map (Value.int .i64)).toArray 3) none
    have hla : wk.heap[wn.heap.size]? = some (.cells (([(rs.length : Int), (rs.length : Int), 1, 8, 0, 9] : List Int).map (Value.int .i64)).toArray 3 (0, 0)) := hwk ▸ alloc_at rfl
    have HNA : Hid (wn.heap.size ≠ w.heap.size) := Lib.hid (by have := HG.out.size; have := HS1.out; omega)
    try simp only [List.map_cons, List.map_nil] at hwk
    rw [hwk]
    clear hwk
    replace HC := Lib.hid (HC.out.old hal)
    have hg := grown_any (r := some w.heap.size) hal
    have HLA := Lib.hid hla
    replace HOF := Lib.hid (own_grown HOF.out hg (by have := HS1.out; omega))
    try replace HOM := Lib.hid (own_grown HOM.out hg (by omega))
    replace HX := Lib.hid (grown_trans HX.out hg)
    replace HG := Lib.hid (grown_trans HG.out hg)
    clear hal hla hg
    generalize wn.heap.size = LB at HNA HLA ⊢
    rename World => wn
    refine hK.out _ _ ((HCL.out _ HX.out)) (fun hHeld => ?_)
    clear hK K
    try simp only [Act.put, List.setIfInBounds_toArray, List.set_cons_zero, List.set_cons_succ]
    refine wpAnyH_ready (rs := [2]) (by kernel_rfl) (by simp) ?_
    refine AllReadyH.cons rfl (fun K hK => ?_) AllReadyH.nil
    go_simp
    go_at_call 29
    refine (beads_any w.heap.size (.slice ad L.length cp) L (0 + 200) up lo a c rs wn (by omega) (RodsR.of_own HOF.out) HLR.out (own_nocur HOF.out (by have := HS1.out; omega)) HC.out (HR1.out.grown HG.out)).mono ?_
    rintro e wn ⟨⟨sq, ms, rfl, ho, hlm⟩, hc, hg⟩
    have HOM := Lib.hid (own_mono ho (by have := HG.out.size; have := HS1.out; omega : w.heap.size + 1 ≤ _))
    obtain ⟨oa, oc, rfl⟩ := (RowsR.of_own mvC_len HOM.out).form
    have HLM := Lib.hid hlm
    replace HC := Lib.hid hc
    replace HOF := Lib.hid (own_grown HOF.out hg (by have := HS1.out; omega))
    try replace HLA := Lib.hid ((hg.block _ (Array.getElem?_eq_some_iff.1 HLA.out).1 (by intro e; injection e with e; exact HNA.out e)).trans HLA.out)
    replace HX := Lib.hid (grown_trans HX.out hg)
    replace HG := Lib.hid (grown_trans HG.out hg)
    clear hc hg ho hlm
    refine hK.out _ _ ((HCL.out _ HX.out)) (fun hHeld => ?_)
    clear hK K
    try simp only [Act.put, List.setIfInBounds_toArray, List.set_cons_zero, List.set_cons_succ]
    refine wpAnyH_ready (rs := [11]) (by kernel_rfl) (by simp) ?_
    refine AllReadyH.cons rfl (fun K hK => ?_) AllReadyH.nil
    go_simp
    go_at_call 35
    have hs7 := slr_headX (xs := ([(rs.length : Int), (rs.length : Int), 1, 8, 0, 9] : List Int).map (Value.int .i64)) HLA.out (by show 6 ≤ maxLen; unfold maxLen; omega)
    refine (among_any w.heap.size (.slice ad L.length cp) L (0 + 200 + 400) _ ([(rs.length : Int), (rs.length : Int), 1, 8, 0, 9] : List Int) wn (by omega) ⟨by show 1 ≤ 6; omega, by show 6 ≤ 100; omega⟩ hs7 (fun a m c e => by cases e; exact HNA.out) HC.out (HR1.out.grown HG.out)).mono ?_
    rintro e wn ⟨⟨z6, rfl, hz⟩, hc, hg⟩
    replace HC := Lib.hid hc
    replace HOF := Lib.hid (own_grown HOF.out hg (by have := HS1.out; omega))
    try replace HOM := Lib.hid (own_grown HOM.out hg (by omega))
    try replace HLA := Lib.hid ((hg.block _ (Array.getElem?_eq_some_iff.1 HLA.out).1 (by intro e; injection e with e; exact HNA.out e)).trans HLA.out)
    replace HX := Lib.hid (grown_trans HX.out hg)
    replace HG := Lib.hid (grown_trans HG.out hg)
    clear hc hg hz hs7
    refine hK.out _ _ ((HCL.out _ HX.out)) (fun hHeld => ?_)
    clear hK K
    try simp only [Act.put, List.setIfInBounds_toArray, List.set_cons_zero, List.set_cons_succ]
    refine take1 (i := 12) (v := ?v12) (some 2) rfl rfl (by kernel_rfl) (by kernel_rfl) (by kernel_rfl) (fun _ _ _ h => h) (Or.inl ⟨by rfl, ?y12⟩) (by assumption) ?r12
    case y12 => (intro w hSw; (try dsimp only at hSw); go_simp; (first | done | with_reducible rfl))
    try simp only [Act.put, List.setIfInBounds_toArray, List.set_cons_zero, List.set_cons_succ]
    refine take1 (i := 13) (v := ?v13) (some 3) rfl rfl (by kernel_rfl) (by kernel_rfl) (by kernel_rfl) (fun _ _ _ h => h) (Or.inl ⟨by rfl, ?y13⟩) (by assumption) ?r13
    case y13 => (intro w hSw; (try dsimp only at hSw); go_simp; (first | done | with_reducible rfl))
    try simp only [Act.put, List.setIfInBounds_toArray, List.set_cons_zero, List.set_cons_succ]
    refine wpAnyH_done (by kernel_rfl) ?_ _
    have HB9 := Lib.hid (below_curM HB1.out HG.out (Nat.le_refl _))
    go_wp2_with fail
    go_ret2
    exact ⟨⟨_, ms, z6, rfl, own_mono HOM.out (Nat.le_succ _), HLM.out⟩, HB9.out⟩
end Go.Proofs.Ytmkocinknhaniaa
