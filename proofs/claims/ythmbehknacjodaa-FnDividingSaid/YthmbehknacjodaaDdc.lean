/- The draw of a checked division. -/
import Derived.Test.YthmbehknacjodaaDdv
namespace Go.Proofs.Ythmbehknacjodaa
set_option linter.unusedVariables false
open Go.RowKit
set_option linter.unusedSimpArgs false

theorem slr_headD {w : World} {B : Nat} {T : TypeId} {xs : List Value} (hb : w.heap[B]? = some (.cells xs.toArray T (0, 0))) (hl : xs.length ≤ maxLen) : SlR w (.slice (some ⟨B, 0, none⟩) xs.length xs.length) xs := by
  refine ⟨_, xs.length, rfl, ⟨by omega, by omega⟩, fun _ => ⟨B, 0, rfl, lt_of_block hb, fun i hi => ?_⟩⟩
  rw [Nat.zero_add, cell_of_row w B i _ _ _ hb]
  simp [hi]
set_option maxRecDepth 100000 in
set_option maxHeartbeats 6400000 in
theorem drawCheckDivision_any (cd : Value) (L : List UInt8) (w : World) (h : SlR w cd (L.map fun c => .int .u8 (c.toNat : Int))) :
    Calls Try.prog 59 #[cd] w fun e w' => (∃ x y z u : Int, e = .returned (.tuple #[.int .i64 x, .int .i64 y, .int .i64 z, .int .i64 u])) ∧ Below w.heap.size w w' := by
  obtain ⟨ad, cp, rfl⟩ : ∃ a c, cd = .slice a L.length c := by obtain ⟨a, c, e, _⟩ := h; exact ⟨a, c, by rw [e, List.length_map]⟩
  obtain ⟨W1, hW1, hc1, hr1, hb1⟩ := cur_newD h
  have HF1 := Lib.hid (dividend_any w.heap.size _ L 0 W1 (by omega) hc1 hr1)
  have HR1 := Lib.hid hr1
  have HB1 := Lib.hid hb1
  have hW1l : Hid (w.heap.size < W1.heap.size) := Lib.hid (by rw [← hW1]; simp)
  clear hc1 hr1 hb1 h
  go_enter Try.func59, Try.ntmps59
  go_wp2_with fail
  try rw [hW1]
  refine (HF1.out).mono ?_
  rintro e w2 ⟨⟨x, rfl⟩, hc2, hg2⟩
  have HG2 := Lib.hid hg2
  have HB2 := Lib.hid (HB1.out.grown hg2 HB1.out.size (fun k e => by cases e; exact Nat.le_refl _))
  have HC2 := Lib.hid hc2
  clear hc2 hg2
  go_wp2_with fail
  refine (divisor_any w.heap.size _ L (0 + 2) w2 (by omega) HC2.out (HR1.out.grown HG2.out)).mono ?_
  rintro e w3 ⟨⟨y, rfl⟩, hc3, hg3⟩
  have HG3 := Lib.hid (grown_trans HG2.out hg3)
  have HB3 := Lib.hid (HB2.out.grown hg3 HB2.out.size (fun k e => by cases e; exact Nat.le_refl _))
  have HC3 := Lib.hid hc3
  clear hc3 hg3
  go_wp2_with fail
  by_cases hk : okD x y
  · refine (l10Asked_yes x y w3 hk).mono ?_
    rintro e w9 ⟨rfl, hw9⟩
    subst w9
    have y3 : (y == 0) = false := beq_eq_false_iff_ne.2 (by have := hk.2.1; omega)
    have y4 : y ≠ 0 := by have := hk.2.1; omega
    clear hk
    go_wp2_with fail
    have HB0 : Hid (Below w.heap.size w w) := Lib.hid (Below.refl _ _)
    refine wp_region_held_drew (S := (fun _ => True)) (by kernel_rfl) (True.intro) (fun hHeld => ?_)
    have HG : Hid (W1.grownBy w3.drew (some w.heap.size)) := Lib.hid (grown_trans HG3.out (grown_drewN w3 1 (some w.heap.size)))
    have HC : Hid (CurAt w3.drew w.heap.size (.slice ad L.length cp) (0 + 2 + 2)) := Lib.hid (HC3.out.old (grown_drewN w3 1 none))
    generalize w3.drew = wn at HG HC hHeld ⊢
    refine take1 (i := 0) (v := ?v1) (some 22) rfl rfl (by kernel_rfl) (by kernel_rfl) (by kernel_rfl) (fun _ _ _ h => h) (Or.inl ⟨by rfl, ?y1⟩) (by assumption) ?r1
    case y1 => (intro w hSw; (try dsimp only at hSw); go_simp; (first | done | with_reducible rfl))
    try simp only [Act.put, List.setIfInBounds_toArray, List.set_cons_zero, List.set_cons_succ]
    refine take1 (i := 1) (v := ?v2) (some 23) rfl rfl (by kernel_rfl) (by kernel_rfl) (by kernel_rfl) (fun _ _ _ h => h) (Or.inl ⟨by rfl, ?y2⟩) (by assumption) ?r2
    case y2 => (intro w hSw; (try dsimp only at hSw); go_simp; (first | done | with_reducible rfl))
    try simp only [Act.put, List.setIfInBounds_toArray, List.set_cons_zero, List.set_cons_succ]
    refine take1 (i := 2) (v := ?v3) (some 24) rfl rfl (by kernel_rfl) (by kernel_rfl) (by kernel_rfl) (fun _ _ _ h => h) (Or.inl ⟨by rfl, ?y3⟩) (by assumption) ?r3
    case y3 => (intro w hSw; (try dsimp only at hSw); go_simp; (first | done | with_reducible rfl))
    try simp only [Act.put, List.setIfInBounds_toArray, List.set_cons_zero, List.set_cons_succ]
    refine take1 (i := 3) (v := ?v4) (some 25) rfl rfl (by kernel_rfl) (by kernel_rfl) (by kernel_rfl) (fun _ _ _ h => h) (Or.inl ⟨by rfl, ?y4⟩) (by assumption) ?r4
    case y4 => (intro w hSw; (try dsimp only at hSw); go_simp; (first | done | with_reducible rfl))
    try simp only [Act.put, List.setIfInBounds_toArray, List.set_cons_zero, List.set_cons_succ]
    refine take1 (i := 4) (v := ?v5) (some 26) rfl rfl (by kernel_rfl) (by kernel_rfl) (by kernel_rfl) (fun _ _ _ h => h) (Or.inl ⟨by rfl, ?y5⟩) (by assumption) ?r5
    case y5 => (intro w hSw; (try dsimp only at hSw); go_simp; (first | done | with_reducible rfl))
    try simp only [Act.put, List.setIfInBounds_toArray, List.set_cons_zero, List.set_cons_succ]
    refine take1 (i := 5) (v := ?v6) (some 27) rfl rfl (by kernel_rfl) (by kernel_rfl) (by kernel_rfl) (fun _ _ _ h => h) (Or.inl ⟨by rfl, ?y6⟩) (by assumption) ?r6
    case y6 => (intro w hSw; (try dsimp only at hSw); go_simp; (first | done | with_reducible rfl))
    try simp only [Act.put, List.setIfInBounds_toArray, List.set_cons_zero, List.set_cons_succ]
    refine take1 (i := 9) (v := ?v7) (some 31) rfl rfl (by kernel_rfl) (by kernel_rfl) (by kernel_rfl) (fun _ _ _ h => h) (Or.inl ⟨by rfl, ?y7⟩) (by assumption) ?r7
    case y7 => (intro w hSw; (try dsimp only at hSw); go_simp; (first | done | with_reducible rfl))
    try simp only [Act.put, List.setIfInBounds_toArray, List.set_cons_zero, List.set_cons_succ]
    refine take1 (i := 10) (v := ?v8) (some 32) rfl rfl (by kernel_rfl) (by kernel_rfl) (by kernel_rfl) (fun _ _ _ h => h) (Or.inl ⟨by rfl, ?y8⟩) (by assumption) ?r8
    case y8 => (intro w hSw; (try dsimp only at hSw); go_simp; (first | done | with_reducible rfl))
    try simp only [Act.put, List.setIfInBounds_toArray, List.set_cons_zero, List.set_cons_succ]
    refine take1 (i := 11) (v := ?v9) (some 33) rfl rfl (by kernel_rfl) (by kernel_rfl) (by kernel_rfl) (fun _ _ _ h => h) (Or.inl ⟨by rfl, ?y9⟩) (by assumption) ?r9
    case y9 => (intro w hSw; (try dsimp only at hSw); go_simp; (first | done | with_reducible rfl))
    try simp only [Act.put, List.setIfInBounds_toArray, List.set_cons_zero, List.set_cons_succ]
    refine take1 (i := 12) (v := ?v10) (some 34) rfl rfl (by kernel_rfl) (by kernel_rfl) (by kernel_rfl) (fun _ _ _ h => h) (Or.inl ⟨by rfl, ?y10⟩) (by assumption) ?r10
    case y10 => (intro w hSw; (try dsimp only at hSw); go_simp; (first | done | with_reducible rfl))
    try simp only [Act.put, List.setIfInBounds_toArray, List.set_cons_zero, List.set_cons_succ]
    refine take1 (i := 13) (v := ?v11) (some 35) rfl rfl (by kernel_rfl) (by kernel_rfl) (by kernel_rfl) (fun _ _ _ h => h) (Or.inl ⟨by rfl, ?y11⟩) (by assumption) ?r11
    case y11 => (intro w hSw; (try dsimp only at hSw); go_simp; (first | done | with_reducible rfl))
    try simp only [Act.put, List.setIfInBounds_toArray, List.set_cons_zero, List.set_cons_succ]
    refine wpAnyH_ready (rs := [6, 14]) (by kernel_rfl) (by simp) ?_
    refine AllReadyH.cons rfl (fun K hK => ?_) (AllReadyH.cons rfl (fun K hK => ?_) AllReadyH.nil)
    · go_simp
      obtain ⟨wk, hwk⟩ : ∃ u, wn.alloc (.cells (([0, 0, 0, 1, -1] : List Int).map (Value.int .i64)).toArray 3) = u := ⟨_, rfl⟩
      have hal : wn.grownBy wk none := hwk ▸ grown_alloc wn (.cells (([0, 0, 0, 1, -1] : List Int).map (Value.int .i64)).toArray 3) none
      have hla : wk.heap[wn.heap.size]? = some (.cells (([0, 0, 0, 1, -1] : List Int).map (Value.int .i64)).toArray 3 (0, 0)) := hwk ▸ alloc_at rfl
      have HNA : Hid (wn.heap.size ≠ w.heap.size) := Lib.hid (by have := HG.out.size; have := hW1l.out; omega)
      try simp only [List.map_cons, List.map_nil] at hwk
      rw [hwk]
      clear hwk
      replace HC := Lib.hid (HC.out.old hal)
      have hg := grown_any (r := some w.heap.size) hal
      have HLA := Lib.hid hla
      try replace HLB := Lib.hid ((hg.block _ (Array.getElem?_eq_some_iff.1 HLB.out).1 (by intro e; injection e with e; exact HNB.out e)).trans HLB.out)
      replace HG := Lib.hid (grown_trans HG.out hg)
      clear hal hla hg
      generalize wn.heap.size = LBA at HNA HLA ⊢
      rename World => wn
      refine hK.out _ _ (True.intro) (fun hHeld => ?_)
      clear hK K
      try simp only [Act.put, List.setIfInBounds_toArray, List.set_cons_zero, List.set_cons_succ]
      refine wpAnyH_ready (rs := [7, 14]) (by kernel_rfl) (by simp) ?_
      refine AllReadyH.cons rfl (fun K hK => ?_) (AllReadyH.cons rfl (fun K hK => ?_) AllReadyH.nil)
      · go_simp
        go_at_call 87
        have hs7 := slr_headD (xs := ([0, 0, 0, 1, -1] : List Int).map (Value.int .i64)) HLA.out (by show 5 ≤ maxLen; unfold maxLen; omega)
        refine (among_any w.heap.size (.slice ad L.length cp) L (0 + 2 + 2) _ ([0, 0, 0, 1, -1] : List Int) wn (by omega) (by decide) hs7 (fun a m c e => by cases e; exact HNA.out) HC.out (HR1.out.grown HG.out)).mono ?_
        rintro e wn ⟨⟨z6, rfl, hz⟩, hc, hg⟩
        replace HC := Lib.hid hc
        try replace HLA := Lib.hid ((hg.block _ (Array.getElem?_eq_some_iff.1 HLA.out).1 (by intro e; injection e with e; exact HNA.out e)).trans HLA.out)
        try replace HLB := Lib.hid ((hg.block _ (Array.getElem?_eq_some_iff.1 HLB.out).1 (by intro e; injection e with e; exact HNB.out e)).trans HLB.out)
        replace HG := Lib.hid (grown_trans HG.out hg)
        clear hc hg hz hs7
        refine hK.out _ _ (True.intro) (fun hHeld => ?_)
        clear hK K
        try simp only [Act.put, List.setIfInBounds_toArray, List.set_cons_zero, List.set_cons_succ]
        refine take1 (i := 8) (v := ?v12) (some 30) rfl rfl (by kernel_rfl) (by kernel_rfl) (by kernel_rfl) (fun _ _ _ h => h) (Or.inl ⟨by rfl, ?y12⟩) (by assumption) ?r12
        case y12 => (intro w hSw; (try dsimp only at hSw); go_simp; (first | done | with_reducible rfl))
        try simp only [Act.put, List.setIfInBounds_toArray, List.set_cons_zero, List.set_cons_succ]
        refine wpAnyH_ready (rs := [14]) (by kernel_rfl) (by simp) ?_
        refine AllReadyH.cons rfl (fun K hK => ?_) AllReadyH.nil
        go_simp
        obtain ⟨wk, hwk⟩ : ∃ u, wn.alloc (.cells (([0, 0, 0, 1, y, -1] : List Int).map (Value.int .i64)).toArray 3) = u := ⟨_, rfl⟩
        have hal : wn.grownBy wk none := hwk ▸ grown_alloc wn (.cells (([0, 0, 0, 1, y, -1] : List Int).map (Value.int .i64)).toArray 3) none
        have hla : wk.heap[wn.heap.size]? = some (.cells (([0, 0, 0, 1, y, -1] : List Int).map (Value.int .i64)).toArray 3 (0, 0)) := hwk ▸ alloc_at rfl
        have HNB : Hid (wn.heap.size ≠ w.heap.size) := Lib.hid (by have := HG.out.size; have := hW1l.out; omega)
        try simp only [List.map_cons, List.map_nil] at hwk
        rw [hwk]
        clear hwk
        replace HC := Lib.hid (HC.out.old hal)
        have hg := grown_any (r := some w.heap.size) hal
        have HLB := Lib.hid hla
        try replace HLA := Lib.hid ((hg.block _ (Array.getElem?_eq_some_iff.1 HLA.out).1 (by intro e; injection e with e; exact HNA.out e)).trans HLA.out)
        replace HG := Lib.hid (grown_trans HG.out hg)
        clear hal hla hg
        generalize wn.heap.size = LBB at HNB HLB ⊢
        rename World => wn
        refine hK.out _ _ (True.intro) (fun hHeld => ?_)
        clear hK K
        try simp only [Act.put, List.setIfInBounds_toArray, List.set_cons_zero, List.set_cons_succ]
        refine wpAnyH_ready (rs := [15]) (by kernel_rfl) (by simp) ?_
        refine AllReadyH.cons rfl (fun K hK => ?_) AllReadyH.nil
        go_simp
        go_at_call 87
        have hs7 := slr_headD (xs := ([0, 0, 0, 1, y, -1] : List Int).map (Value.int .i64)) HLB.out (by show 6 ≤ maxLen; unfold maxLen; omega)
        refine (among_any w.heap.size (.slice ad L.length cp) L (0 + 2 + 2 + 2) _ ([0, 0, 0, 1, y, -1] : List Int) wn (by omega) ⟨by show 1 ≤ 6; omega, by show 6 ≤ 100; omega⟩ hs7 (fun a m c e => by cases e; exact HNB.out) HC.out (HR1.out.grown HG.out)).mono ?_
        rintro e wn ⟨⟨z7, rfl, hz⟩, hc, hg⟩
        replace HC := Lib.hid hc
        try replace HLA := Lib.hid ((hg.block _ (Array.getElem?_eq_some_iff.1 HLA.out).1 (by intro e; injection e with e; exact HNA.out e)).trans HLA.out)
        try replace HLB := Lib.hid ((hg.block _ (Array.getElem?_eq_some_iff.1 HLB.out).1 (by intro e; injection e with e; exact HNB.out e)).trans HLB.out)
        replace HG := Lib.hid (grown_trans HG.out hg)
        clear hc hg hz hs7
        refine hK.out _ _ (True.intro) (fun hHeld => ?_)
        clear hK K
        try simp only [Act.put, List.setIfInBounds_toArray, List.set_cons_zero, List.set_cons_succ]
        refine take1 (i := 16) (v := ?v13) (some 38) rfl rfl (by kernel_rfl) (by kernel_rfl) (by kernel_rfl) (fun _ _ _ h => h) (Or.inl ⟨by rfl, ?y13⟩) (by assumption) ?r13
        case y13 => (intro w hSw; (try dsimp only at hSw); go_simp; (first | done | with_reducible rfl))
        try simp only [Act.put, List.setIfInBounds_toArray, List.set_cons_zero, List.set_cons_succ]
        refine take1 (i := 17) (v := ?v14) (some 2) rfl rfl (by kernel_rfl) (by kernel_rfl) (by kernel_rfl) (fun _ _ _ h => h) (Or.inl ⟨by rfl, ?y14⟩) (by assumption) ?r14
        case y14 => (intro w hSw; (try dsimp only at hSw); go_simp; (first | done | with_reducible rfl))
        try simp only [Act.put, List.setIfInBounds_toArray, List.set_cons_zero, List.set_cons_succ]
        refine take1 (i := 18) (v := ?v15) (some 3) rfl rfl (by kernel_rfl) (by kernel_rfl) (by kernel_rfl) (fun _ _ _ h => h) (Or.inl ⟨by rfl, ?y15⟩) (by assumption) ?r15
        case y15 => (intro w hSw; (try dsimp only at hSw); go_simp; (first | done | with_reducible rfl))
        try simp only [Act.put, List.setIfInBounds_toArray, List.set_cons_zero, List.set_cons_succ]
        refine take1 (i := 19) (v := ?v16) (some 4) rfl rfl (by kernel_rfl) (by kernel_rfl) (by kernel_rfl) (fun _ _ _ h => h) (Or.inl ⟨by rfl, ?y16⟩) (by assumption) ?r16
        case y16 => (intro w hSw; (try dsimp only at hSw); go_simp; (first | done | with_reducible rfl))
        try simp only [Act.put, List.setIfInBounds_toArray, List.set_cons_zero, List.set_cons_succ]
        refine take1 (i := 20) (v := ?v17) (some 5) rfl rfl (by kernel_rfl) (by kernel_rfl) (by kernel_rfl) (fun _ _ _ h => h) (Or.inl ⟨by rfl, ?y17⟩) (by assumption) ?r17
        case y17 => (intro w hSw; (try dsimp only at hSw); go_simp; (first | done | with_reducible rfl))
        try simp only [Act.put, List.setIfInBounds_toArray, List.set_cons_zero, List.set_cons_succ]
        refine wpAnyH_done (by kernel_rfl) ?_ _
        go_wp2_with fail
        have HB9 := Lib.hid (HB1.out.grown HG.out HB1.out.size (fun k e => by cases e; exact Nat.le_refl _))
        exact bodyPost_ret (v := .tuple #[.int .i64 x, .int .i64 y, .int .i64 _, .int .i64 _]) (by simp [results, Try.results59, go_sem]; exact ⟨rfl, rfl⟩) rfl ⟨⟨x, y, _, _, rfl⟩, HB9.out⟩
      · go_simp
        obtain ⟨wk, hwk⟩ : ∃ u, wn.alloc (.cells (([0, 0, 0, 1, y, -1] : List Int).map (Value.int .i64)).toArray 3) = u := ⟨_, rfl⟩
        have hal : wn.grownBy wk none := hwk ▸ grown_alloc wn (.cells (([0, 0, 0, 1, y, -1] : List Int).map (Value.int .i64)).toArray 3) none
        have hla : wk.heap[wn.heap.size]? = some (.cells (([0, 0, 0, 1, y, -1] : List Int).map (Value.int .i64)).toArray 3 (0, 0)) := hwk ▸ alloc_at rfl
        have HNB : Hid (wn.heap.size ≠ w.heap.size) := Lib.hid (by have := HG.out.size; have := hW1l.out; omega)
        try simp only [List.map_cons, List.map_nil] at hwk
        rw [hwk]
        clear hwk
        replace HC := Lib.hid (HC.out.old hal)
        have hg := grown_any (r := some w.heap.size) hal
        have HLB := Lib.hid hla
        try replace HLA := Lib.hid ((hg.block _ (Array.getElem?_eq_some_iff.1 HLA.out).1 (by intro e; injection e with e; exact HNA.out e)).trans HLA.out)
        replace HG := Lib.hid (grown_trans HG.out hg)
        clear hal hla hg
        generalize wn.heap.size = LBB at HNB HLB ⊢
        rename World => wn
        refine hK.out _ _ (True.intro) (fun hHeld => ?_)
        clear hK K
        try simp only [Act.put, List.setIfInBounds_toArray, List.set_cons_zero, List.set_cons_succ]
        refine wpAnyH_ready (rs := [7]) (by kernel_rfl) (by simp) ?_
        refine AllReadyH.cons rfl (fun K hK => ?_) AllReadyH.nil
        go_simp
        go_at_call 87
        have hs7 := slr_headD (xs := ([0, 0, 0, 1, -1] : List Int).map (Value.int .i64)) HLA.out (by show 5 ≤ maxLen; unfold maxLen; omega)
        refine (among_any w.heap.size (.slice ad L.length cp) L (0 + 2 + 2) _ ([0, 0, 0, 1, -1] : List Int) wn (by omega) (by decide) hs7 (fun a m c e => by cases e; exact HNA.out) HC.out (HR1.out.grown HG.out)).mono ?_
        rintro e wn ⟨⟨z6, rfl, hz⟩, hc, hg⟩
        replace HC := Lib.hid hc
        try replace HLA := Lib.hid ((hg.block _ (Array.getElem?_eq_some_iff.1 HLA.out).1 (by intro e; injection e with e; exact HNA.out e)).trans HLA.out)
        try replace HLB := Lib.hid ((hg.block _ (Array.getElem?_eq_some_iff.1 HLB.out).1 (by intro e; injection e with e; exact HNB.out e)).trans HLB.out)
        replace HG := Lib.hid (grown_trans HG.out hg)
        clear hc hg hz hs7
        refine hK.out _ _ (True.intro) (fun hHeld => ?_)
        clear hK K
        try simp only [Act.put, List.setIfInBounds_toArray, List.set_cons_zero, List.set_cons_succ]
        refine take1 (i := 8) (v := ?v18) (some 30) rfl rfl (by kernel_rfl) (by kernel_rfl) (by kernel_rfl) (fun _ _ _ h => h) (Or.inl ⟨by rfl, ?y18⟩) (by assumption) ?r18
        case y18 => (intro w hSw; (try dsimp only at hSw); go_simp; (first | done | with_reducible rfl))
        try simp only [Act.put, List.setIfInBounds_toArray, List.set_cons_zero, List.set_cons_succ]
        refine wpAnyH_ready (rs := [15]) (by kernel_rfl) (by simp) ?_
        refine AllReadyH.cons rfl (fun K hK => ?_) AllReadyH.nil
        go_simp
        go_at_call 87
        have hs7 := slr_headD (xs := ([0, 0, 0, 1, y, -1] : List Int).map (Value.int .i64)) HLB.out (by show 6 ≤ maxLen; unfold maxLen; omega)
        refine (among_any w.heap.size (.slice ad L.length cp) L (0 + 2 + 2 + 2) _ ([0, 0, 0, 1, y, -1] : List Int) wn (by omega) ⟨by show 1 ≤ 6; omega, by show 6 ≤ 100; omega⟩ hs7 (fun a m c e => by cases e; exact HNB.out) HC.out (HR1.out.grown HG.out)).mono ?_
        rintro e wn ⟨⟨z7, rfl, hz⟩, hc, hg⟩
        replace HC := Lib.hid hc
        try replace HLA := Lib.hid ((hg.block _ (Array.getElem?_eq_some_iff.1 HLA.out).1 (by intro e; injection e with e; exact HNA.out e)).trans HLA.out)
        try replace HLB := Lib.hid ((hg.block _ (Array.getElem?_eq_some_iff.1 HLB.out).1 (by intro e; injection e with e; exact HNB.out e)).trans HLB.out)
        replace HG := Lib.hid (grown_trans HG.out hg)
        clear hc hg hz hs7
        refine hK.out _ _ (True.intro) (fun hHeld => ?_)
        clear hK K
        try simp only [Act.put, List.setIfInBounds_toArray, List.set_cons_zero, List.set_cons_succ]
        refine take1 (i := 16) (v := ?v19) (some 38) rfl rfl (by kernel_rfl) (by kernel_rfl) (by kernel_rfl) (fun _ _ _ h => h) (Or.inl ⟨by rfl, ?y19⟩) (by assumption) ?r19
        case y19 => (intro w hSw; (try dsimp only at hSw); go_simp; (first | done | with_reducible rfl))
        try simp only [Act.put, List.setIfInBounds_toArray, List.set_cons_zero, List.set_cons_succ]
        refine take1 (i := 17) (v := ?v20) (some 2) rfl rfl (by kernel_rfl) (by kernel_rfl) (by kernel_rfl) (fun _ _ _ h => h) (Or.inl ⟨by rfl, ?y20⟩) (by assumption) ?r20
        case y20 => (intro w hSw; (try dsimp only at hSw); go_simp; (first | done | with_reducible rfl))
        try simp only [Act.put, List.setIfInBounds_toArray, List.set_cons_zero, List.set_cons_succ]
        refine take1 (i := 18) (v := ?v21) (some 3) rfl rfl (by kernel_rfl) (by kernel_rfl) (by kernel_rfl) (fun _ _ _ h => h) (Or.inl ⟨by rfl, ?y21⟩) (by assumption) ?r21
        case y21 => (intro w hSw; (try dsimp only at hSw); go_simp; (first | done | with_reducible rfl))
        try simp only [Act.put, List.setIfInBounds_toArray, List.set_cons_zero, List.set_cons_succ]
        refine take1 (i := 19) (v := ?v22) (some 4) rfl rfl (by kernel_rfl) (by kernel_rfl) (by kernel_rfl) (fun _ _ _ h => h) (Or.inl ⟨by rfl, ?y22⟩) (by assumption) ?r22
        case y22 => (intro w hSw; (try dsimp only at hSw); go_simp; (first | done | with_reducible rfl))
        try simp only [Act.put, List.setIfInBounds_toArray, List.set_cons_zero, List.set_cons_succ]
        refine take1 (i := 20) (v := ?v23) (some 5) rfl rfl (by kernel_rfl) (by kernel_rfl) (by kernel_rfl) (fun _ _ _ h => h) (Or.inl ⟨by rfl, ?y23⟩) (by assumption) ?r23
        case y23 => (intro w hSw; (try dsimp only at hSw); go_simp; (first | done | with_reducible rfl))
        try simp only [Act.put, List.setIfInBounds_toArray, List.set_cons_zero, List.set_cons_succ]
        refine wpAnyH_done (by kernel_rfl) ?_ _
        go_wp2_with fail
        have HB9 := Lib.hid (HB1.out.grown HG.out HB1.out.size (fun k e => by cases e; exact Nat.le_refl _))
        exact bodyPost_ret (v := .tuple #[.int .i64 x, .int .i64 y, .int .i64 _, .int .i64 _]) (by simp [results, Try.results59, go_sem]; exact ⟨rfl, rfl⟩) rfl ⟨⟨x, y, _, _, rfl⟩, HB9.out⟩
    · go_simp
      obtain ⟨wk, hwk⟩ : ∃ u, wn.alloc (.cells (([0, 0, 0, 1, y, -1] : List Int).map (Value.int .i64)).toArray 3) = u := ⟨_, rfl⟩
      have hal : wn.grownBy wk none := hwk ▸ grown_alloc wn (.cells (([0, 0, 0, 1, y, -1] : List Int).map (Value.int .i64)).toArray 3) none
      have hla : wk.heap[wn.heap.size]? = some (.cells (([0, 0, 0, 1, y, -1] : List Int).map (Value.int .i64)).toArray 3 (0, 0)) := hwk ▸ alloc_at rfl
      have HNB : Hid (wn.heap.size ≠ w.heap.size) := Lib.hid (by have := HG.out.size; have := hW1l.out; omega)
      try simp only [List.map_cons, List.map_nil] at hwk
      rw [hwk]
      clear hwk
      replace HC := Lib.hid (HC.out.old hal)
      have hg := grown_any (r := some w.heap.size) hal
      have HLB := Lib.hid hla
      try replace HLA := Lib.hid ((hg.block _ (Array.getElem?_eq_some_iff.1 HLA.out).1 (by intro e; injection e with e; exact HNA.out e)).trans HLA.out)
      replace HG := Lib.hid (grown_trans HG.out hg)
      clear hal hla hg
      generalize wn.heap.size = LBB at HNB HLB ⊢
      rename World => wn
      refine hK.out _ _ (True.intro) (fun hHeld => ?_)
      clear hK K
      try simp only [Act.put, List.setIfInBounds_toArray, List.set_cons_zero, List.set_cons_succ]
      refine wpAnyH_ready (rs := [6]) (by kernel_rfl) (by simp) ?_
      refine AllReadyH.cons rfl (fun K hK => ?_) AllReadyH.nil
      go_simp
      obtain ⟨wk, hwk⟩ : ∃ u, wn.alloc (.cells (([0, 0, 0, 1, -1] : List Int).map (Value.int .i64)).toArray 3) = u := ⟨_, rfl⟩
      have hal : wn.grownBy wk none := hwk ▸ grown_alloc wn (.cells (([0, 0, 0, 1, -1] : List Int).map (Value.int .i64)).toArray 3) none
      have hla : wk.heap[wn.heap.size]? = some (.cells (([0, 0, 0, 1, -1] : List Int).map (Value.int .i64)).toArray 3 (0, 0)) := hwk ▸ alloc_at rfl
      have HNA : Hid (wn.heap.size ≠ w.heap.size) := Lib.hid (by have := HG.out.size; have := hW1l.out; omega)
      try simp only [List.map_cons, List.map_nil] at hwk
      rw [hwk]
      clear hwk
      replace HC := Lib.hid (HC.out.old hal)
      have hg := grown_any (r := some w.heap.size) hal
      have HLA := Lib.hid hla
      try replace HLB := Lib.hid ((hg.block _ (Array.getElem?_eq_some_iff.1 HLB.out).1 (by intro e; injection e with e; exact HNB.out e)).trans HLB.out)
      replace HG := Lib.hid (grown_trans HG.out hg)
      clear hal hla hg
      generalize wn.heap.size = LBA at HNA HLA ⊢
      rename World => wn
      refine hK.out _ _ (True.intro) (fun hHeld => ?_)
      clear hK K
      try simp only [Act.put, List.setIfInBounds_toArray, List.set_cons_zero, List.set_cons_succ]
      refine wpAnyH_ready (rs := [7]) (by kernel_rfl) (by simp) ?_
      refine AllReadyH.cons rfl (fun K hK => ?_) AllReadyH.nil
      go_simp
      go_at_call 87
      have hs7 := slr_headD (xs := ([0, 0, 0, 1, -1] : List Int).map (Value.int .i64)) HLA.out (by show 5 ≤ maxLen; unfold maxLen; omega)
      refine (among_any w.heap.size (.slice ad L.length cp) L (0 + 2 + 2) _ ([0, 0, 0, 1, -1] : List Int) wn (by omega) (by decide) hs7 (fun a m c e => by cases e; exact HNA.out) HC.out (HR1.out.grown HG.out)).mono ?_
      rintro e wn ⟨⟨z6, rfl, hz⟩, hc, hg⟩
      replace HC := Lib.hid hc
      try replace HLA := Lib.hid ((hg.block _ (Array.getElem?_eq_some_iff.1 HLA.out).1 (by intro e; injection e with e; exact HNA.out e)).trans HLA.out)
      try replace HLB := Lib.hid ((hg.block _ (Array.getElem?_eq_some_iff.1 HLB.out).1 (by intro e; injection e with e; exact HNB.out e)).trans HLB.out)
      replace HG := Lib.hid (grown_trans HG.out hg)
      clear hc hg hz hs7
      refine hK.out _ _ (True.intro) (fun hHeld => ?_)
      clear hK K
      try simp only [Act.put, List.setIfInBounds_toArray, List.set_cons_zero, List.set_cons_succ]
      refine take1 (i := 8) (v := ?v24) (some 30) rfl rfl (by kernel_rfl) (by kernel_rfl) (by kernel_rfl) (fun _ _ _ h => h) (Or.inl ⟨by rfl, ?y24⟩) (by assumption) ?r24
      case y24 => (intro w hSw; (try dsimp only at hSw); go_simp; (first | done | with_reducible rfl))
      try simp only [Act.put, List.setIfInBounds_toArray, List.set_cons_zero, List.set_cons_succ]
      refine wpAnyH_ready (rs := [15]) (by kernel_rfl) (by simp) ?_
      refine AllReadyH.cons rfl (fun K hK => ?_) AllReadyH.nil
      go_simp
      go_at_call 87
      have hs7 := slr_headD (xs := ([0, 0, 0, 1, y, -1] : List Int).map (Value.int .i64)) HLB.out (by show 6 ≤ maxLen; unfold maxLen; omega)
      refine (among_any w.heap.size (.slice ad L.length cp) L (0 + 2 + 2 + 2) _ ([0, 0, 0, 1, y, -1] : List Int) wn (by omega) ⟨by show 1 ≤ 6; omega, by show 6 ≤ 100; omega⟩ hs7 (fun a m c e => by cases e; exact HNB.out) HC.out (HR1.out.grown HG.out)).mono ?_
      rintro e wn ⟨⟨z7, rfl, hz⟩, hc, hg⟩
      replace HC := Lib.hid hc
      try replace HLA := Lib.hid ((hg.block _ (Array.getElem?_eq_some_iff.1 HLA.out).1 (by intro e; injection e with e; exact HNA.out e)).trans HLA.out)
      try replace HLB := Lib.hid ((hg.block _ (Array.getElem?_eq_some_iff.1 HLB.out).1 (by intro e; injection e with e; exact HNB.out e)).trans HLB.out)
      replace HG := Lib.hid (grown_trans HG.out hg)
      clear hc hg hz hs7
      refine hK.out _ _ (True.intro) (fun hHeld => ?_)
      clear hK K
      try simp only [Act.put, List.setIfInBounds_toArray, List.set_cons_zero, List.set_cons_succ]
      refine take1 (i := 16) (v := ?v25) (some 38) rfl rfl (by kernel_rfl) (by kernel_rfl) (by kernel_rfl) (fun _ _ _ h => h) (Or.inl ⟨by rfl, ?y25⟩) (by assumption) ?r25
      case y25 => (intro w hSw; (try dsimp only at hSw); go_simp; (first | done | with_reducible rfl))
      try simp only [Act.put, List.setIfInBounds_toArray, List.set_cons_zero, List.set_cons_succ]
      refine take1 (i := 17) (v := ?v26) (some 2) rfl rfl (by kernel_rfl) (by kernel_rfl) (by kernel_rfl) (fun _ _ _ h => h) (Or.inl ⟨by rfl, ?y26⟩) (by assumption) ?r26
      case y26 => (intro w hSw; (try dsimp only at hSw); go_simp; (first | done | with_reducible rfl))
      try simp only [Act.put, List.setIfInBounds_toArray, List.set_cons_zero, List.set_cons_succ]
      refine take1 (i := 18) (v := ?v27) (some 3) rfl rfl (by kernel_rfl) (by kernel_rfl) (by kernel_rfl) (fun _ _ _ h => h) (Or.inl ⟨by rfl, ?y27⟩) (by assumption) ?r27
      case y27 => (intro w hSw; (try dsimp only at hSw); go_simp; (first | done | with_reducible rfl))
      try simp only [Act.put, List.setIfInBounds_toArray, List.set_cons_zero, List.set_cons_succ]
      refine take1 (i := 19) (v := ?v28) (some 4) rfl rfl (by kernel_rfl) (by kernel_rfl) (by kernel_rfl) (fun _ _ _ h => h) (Or.inl ⟨by rfl, ?y28⟩) (by assumption) ?r28
      case y28 => (intro w hSw; (try dsimp only at hSw); go_simp; (first | done | with_reducible rfl))
      try simp only [Act.put, List.setIfInBounds_toArray, List.set_cons_zero, List.set_cons_succ]
      refine take1 (i := 20) (v := ?v29) (some 5) rfl rfl (by kernel_rfl) (by kernel_rfl) (by kernel_rfl) (fun _ _ _ h => h) (Or.inl ⟨by rfl, ?y29⟩) (by assumption) ?r29
      case y29 => (intro w hSw; (try dsimp only at hSw); go_simp; (first | done | with_reducible rfl))
      try simp only [Act.put, List.setIfInBounds_toArray, List.set_cons_zero, List.set_cons_succ]
      refine wpAnyH_done (by kernel_rfl) ?_ _
      go_wp2_with fail
      have HB9 := Lib.hid (HB1.out.grown HG.out HB1.out.size (fun k e => by cases e; exact Nat.le_refl _))
      exact bodyPost_ret (v := .tuple #[.int .i64 x, .int .i64 y, .int .i64 _, .int .i64 _]) (by simp [results, Try.results59, go_sem]; exact ⟨rfl, rfl⟩) rfl ⟨⟨x, y, _, _, rfl⟩, HB9.out⟩
  · refine (l10Asked_no x y w3 hk).mono ?_
    rintro e w9 ⟨rfl, hw9⟩
    subst w9
    go_wp2_with fail
    exact bodyPost_ret (v := .tuple #[.int .i64 x, .int .i64 y, .int .i64 5, .int .i64 1]) (by simp [results, Try.results59, go_sem]) rfl ⟨⟨x, y, 5, 1, rfl⟩, HB3.out⟩
end Go.Proofs.Ythmbehknacjodaa
