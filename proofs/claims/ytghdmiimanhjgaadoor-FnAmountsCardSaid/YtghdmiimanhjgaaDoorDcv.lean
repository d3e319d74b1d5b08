/- DrawConvertTo. -/
import Derived.Test.YtghdmiimanhjgaaDoorDma
import Derived.Test.YtghdmiimanhjgaaDoorKa
namespace Go.Proofs.YtghdmiimanhjgaaDoor
set_option linter.unusedVariables false
open Go.RowKit
set_option linter.unusedSimpArgs false

set_option maxRecDepth 100000 in
set_option maxHeartbeats 25600000 in
theorem drawConvertTo_any (cd : Value) (L : List UInt8) (w : World) (h : SlR w cd (L.map fun c => .int .u8 (c.toNat : Int))) :
    Calls Tryd.prog 14 #[cd] w fun e w' => (∃ (v x v2 : Value) (us us2 : List Un) (xs : List Int) (n d : Int), e = .returned (.tuple #[v, .agg #[x], v2, .int .i64 n, .int .i64 d]) ∧ (w'.ownsRow w.heap.size 40 2 v us.length (flatC unC us) ∧ w'.ownsRow w.heap.size 3 1 x xs.length (flatC inC xs) ∧ w'.ownsRow w.heap.size 40 2 v2 us2.length (flatC unC us2)) ∧ (us.length ≤ 7 ∧ ∀ u ∈ us, u.nm.size ≤ 11) ∧ (us2.length ≤ 7 ∧ ∀ u ∈ us2, u.nm.size ≤ 11) ∧ (0 ≤ n ∧ n ≤ 10001) ∧ (0 ≤ d ∧ d ≤ 10001)) ∧ Below w.heap.size w w' := by
  obtain ⟨ad, cp, rfl⟩ : ∃ a c, cd = .slice a L.length c := by obtain ⟨a, c, e, _⟩ := h; exact ⟨a, c, by rw [e, List.length_map]⟩
  have hT : (Lit.int .u64 0).wf = true := by decide
  obtain ⟨Wb, hWb⟩ : ∃ W, w.alloc (.cells #[.slice none 0 0] 27) = W := ⟨_, rfl⟩
  have hbb : Below w.heap.size w Wb := hWb ▸ (Below.refl _ w).alloc (Nat.le_refl _) _
  have hsb : Wb.heap.size = w.heap.size + 1 := by rw [← hWb]; simp
  have hkb : Wb.heap[w.heap.size]? = some (.cells #[.slice none 0 0] 27 (0, 0)) := by rw [← hWb]; exact alloc_at rfl
  have HH := Lib.hid (h.below hbb (Nat.le_refl _))
  have HN := Lib.hid (code_new HH.out (.cells #[.slice ad L.length cp, .int .i64 0, .int .u64 0] 52))
  have hb1 : Below Wb.heap.size Wb (Wb.alloc (.cells #[.slice ad L.length cp, .int .i64 0, .int .u64 0] 52)) := (Below.refl _ _).alloc (Nat.le_refl _) _
  have hc1 : CurAt (Wb.alloc (.cells #[.slice ad L.length cp, .int .i64 0, .int .u64 0] 52)) Wb.heap.size (.slice ad L.length cp) 0 := ⟨0, 0, _, Nat.le_refl _, Lib.hid hT, alloc_at rfl⟩
  have hs1 : (Wb.alloc (.cells #[.slice ad L.length cp, .int .i64 0, .int .u64 0] 52)).heap.size = Wb.heap.size + 1 := by simp
  obtain ⟨W1, hW1⟩ : ∃ W, Wb.alloc (.cells #[.slice ad L.length cp, .int .i64 0, .int .u64 0] 52) = W := ⟨_, rfl⟩
  rw [hW1] at hb1 hc1 hs1 HN
  have HA := Lib.hid (system7_any Wb.heap.size _ L 0 W1 (by omega) hc1 HN.out)
  have HZ1 : Hid (W1.heap[w.heap.size]? = some (.cells #[.slice none 0 0] 27 (0, 0))) := Lib.hid ((hb1.block _ (by omega)).trans hkb)
  have HB1 := Lib.hid (hbb.trans (hb1.mono (by omega)))
  have HS1 : Hid (W1.heap.size = w.heap.size + 2) := Lib.hid (by omega)
  have HSB := Lib.hid hsb
  clear hb1 hc1 hs1 h HH hbb hkb hsb
  go_enter Tryd.func14, Tryd.ntmps14
  go_wp2_with fail
  try rw [hWb]
  try rw [hW1]
  clear hWb hW1
  refine (HA.out).mono ?_
  rintro e w2 ⟨⟨v, us, rfl, ho, hl, hnm⟩, hc2, hg2⟩
  have HO := Lib.hid ho
  have HL : Hid (us.length ≤ 7 ∧ ∀ u ∈ us, u.nm.size ≤ 11) := Lib.hid ⟨hl, hnm⟩
  have HC2 := Lib.hid hc2
  have HG2 := Lib.hid hg2
  obtain ⟨qa, qc, rfl⟩ := own_form ho
  clear hc2 hg2 ho hl hnm
  go_wp2_with fail
  refine (amount7_any Wb.heap.size _ L (0 + 200) us.length qa qc w2 HL.out.1 (by omega) HC2.out (HN.out.grown HG2.out)).mono ?_
  rintro e w3 ⟨⟨x, xs, rfl, hx, hxl⟩, hc3, hg3⟩
  have HS2 : Hid (W1.heap.size ≤ w2.heap.size) := Lib.hid HG2.out.size
  obtain ⟨xa, xc, rfl⟩ := own_form hx
  obtain ⟨W, hW⟩ : ∃ u, (w3.alloc (.cells #[.slice xa xs.length xc] 27)) = u := ⟨_, rfl⟩
  have hal : w3.grownBy W none := hW ▸ grown_alloc w3 _ none
  have HGW := Lib.hid (grown_trans (grown_trans HG2.out hg3) (grown_any (r := some Wb.heap.size) hal))
  have HKX : Hid (W.heap[w3.heap.size]? = some (.cells #[.slice xa xs.length xc] 27 (0, 0))) := Lib.hid (hW ▸ alloc_at rfl)
  have hsw : W.heap.size = w3.heap.size + 1 := by rw [← hW]; simp
  have HBX : Hid (w.heap.size + 2 ≤ w3.heap.size ∧ w3.heap.size < W.heap.size) := Lib.hid (by have := hg3.size; have := HG2.out.size; have := HS1.out; omega)
  have HWS : Hid (w.heap.size + 2 < W.heap.size ∧ Wb.heap.size < W.heap.size) := Lib.hid (by have := HBX.out; have := HSB.out; omega)
  have HRu := Lib.hid (own_grown HO.out (grown_trans hg3 (grown_any (r := some Wb.heap.size) hal)) (by have := HS1.out; have := HSB.out; omega))
  have HRx := Lib.hid (own_grown hx (grown_any (r := some Wb.heap.size) hal) (by have := HS1.out; have := HSB.out; have := HS2.out; omega))
  have HZW : Hid (W.heap[w.heap.size]? = some (.cells #[.slice none 0 0] 27 (0, 0))) := Lib.hid ((HGW.out.block w.heap.size (by have := HS1.out; omega) (by intro e; have := HSB.out; injection e with e; omega)).trans HZ1.out)
  have HBW := Lib.hid (HB1.out.grown HGW.out HB1.out.size (fun k e => by cases e; have := HSB.out; omega))
  have HRX : Hid (∀ wi, W.grownBy wi (some Wb.heap.size) → CodeR wi Wb.heap.size (.slice ad L.length cp) L) := Lib.hid (fun wi hg => HN.out.grown (grown_trans HGW.out hg))
  have HC0 := Lib.hid (hc3.old hal)
  clear hal hc3 hg3 hx hxl hsw
  go_wp2_with fail
  try rw [hW]
  clear hW
  have HCL : Hid (∀ wi, W.grownBy wi (some Wb.heap.size) → wi.cell? ⟨w3.heap.size, 0, none⟩ = some (.slice xa xs.length xc)) := Lib.hid (fun wi hg => (cell1 ((hg.block w3.heap.size HBX.out.2 (by intro e; have := HBX.out; have := HSB.out; injection e with e; omega)).trans HKX.out)).1)
  generalize w3.heap.size = BX at HKX HBX HCL ⊢
  refine wp_region_held_drew (S := (fun u => u.cell? ⟨BX, 0, none⟩ = some (.slice xa xs.length xc))) (by kernel_rfl) ((HCL.out W (grown_any (World.grownBy.refl W none)))) (fun hHeld => ?_)
  have HG : Hid (W.grownBy W.drew (some Wb.heap.size)) := Lib.hid (grown_drewN W 1 (some Wb.heap.size))
  have HC := Lib.hid (HC0.out.old (grown_drewN W 1 none))
  change Hid (CurAt W.drew _ _ _) at HC
  generalize W.drew = wn at HG HC hHeld ⊢
  refine take1 (i := 0) (v := ?v1) (some 18) rfl rfl (by kernel_rfl) (by kernel_rfl) (by kernel_rfl) (fun _ _ _ h => h) (Or.inl ⟨by rfl, ?y1⟩) (by assumption) ?r1
  case y1 => (intro w hSw; (try dsimp only at hSw); go_simp; (first | done | with_reducible rfl))
  try simp only [Act.put, List.setIfInBounds_toArray, List.set_cons_zero, List.set_cons_succ]
  refine take1 (i := 1) (v := ?v2) (some 19) rfl rfl (by kernel_rfl) (by kernel_rfl) (by kernel_rfl) (fun _ _ _ h => h) (Or.inl ⟨by rfl, ?y2⟩) (by assumption) ?r2
  case y2 => (intro w hSw; (try dsimp only at hSw); go_simp; (first | done | with_reducible rfl))
  try simp only [Act.put, List.setIfInBounds_toArray, List.set_cons_zero, List.set_cons_succ]
  refine take1 (i := 2) (v := ?v3) (some 20) rfl rfl (by kernel_rfl) (by kernel_rfl) (by kernel_rfl) (fun _ _ _ h => h) (Or.inl ⟨by rfl, ?y3⟩) (by assumption) ?r3
  case y3 => (intro w hSw; (try dsimp only at hSw); go_simp; (first | done | with_reducible rfl))
  try simp only [Act.put, List.setIfInBounds_toArray, List.set_cons_zero, List.set_cons_succ]
  refine take1 (i := 4) (v := ?v4) (some 22) rfl rfl (by kernel_rfl) (by kernel_rfl) (by kernel_rfl) (fun _ _ _ h => h) (Or.inl ⟨by rfl, ?y4⟩) (by assumption) ?r4
  case y4 => (intro w hSw; (try dsimp only at hSw); go_simp; (first | done | with_reducible rfl))
  try simp only [Act.put, List.setIfInBounds_toArray, List.set_cons_zero, List.set_cons_succ]
  refine take1 (i := 6) (v := ?v5) (some 24) rfl rfl (by kernel_rfl) (by kernel_rfl) (by kernel_rfl) (fun _ _ _ h => h) (Or.inl ⟨by rfl, ?y5⟩) (by assumption) ?r5
  case y5 => (intro w hSw; (try dsimp only at hSw); go_simp; (first | done | with_reducible rfl))
  try simp only [Act.put, List.setIfInBounds_toArray, List.set_cons_zero, List.set_cons_succ]
  refine take1 (i := 12) (v := ?v6) (some 30) rfl rfl (by kernel_rfl) (by kernel_rfl) (by kernel_rfl) (fun _ _ _ h => h) (Or.inl ⟨by rfl, ?y6⟩) (by assumption) ?r6
  case y6 => (intro w hSw; (try dsimp only at hSw); go_simp; (first | done | with_reducible rfl))
  try simp only [Act.put, List.setIfInBounds_toArray, List.set_cons_zero, List.set_cons_succ]
  refine take1 (i := 14) (v := ?v7) (some 32) rfl rfl (by kernel_rfl) (by kernel_rfl) (by kernel_rfl) (fun _ _ _ h => h) (Or.inl ⟨by rfl, ?y7⟩) (by assumption) ?r7
  case y7 => (intro w hSw; (try dsimp only at hSw); go_simp; (first | done | with_reducible rfl))
  try simp only [Act.put, List.setIfInBounds_toArray, List.set_cons_zero, List.set_cons_succ]
  refine wpAnyH_ready (rs := [3, 5, 13]) (by kernel_rfl) (by simp) ?_
  refine AllReadyH.cons rfl (fun K hK => ?_) (AllReadyH.cons rfl (fun K hK => ?_) (AllReadyH.cons rfl (fun K hK => ?_) AllReadyH.nil))
  · go_simp
    go_at_call 23
    refine (system7_any Wb.heap.size (.slice ad L.length cp) L (0 + 200 + 100) wn (by omega) HC.out (HRX.out _ HG.out)).mono ?_
    rintro e wn ⟨⟨v2, us2, rfl, ho, hl, hnm⟩, hc, hg⟩
    have HL2 : Hid (us2.length ≤ 7 ∧ ∀ u ∈ us2, u.nm.size ≤ 11) := Lib.hid ⟨hl, hnm⟩
    have HU := Lib.hid (own_mono ho (by have := HG.out.size; omega : W.heap.size ≤ _))
    obtain ⟨qa2, qc2, rfl⟩ := own_form ho
    replace HC := Lib.hid hc
    try replace HLA := Lib.hid ((hg.block _ (Array.getElem?_eq_some_iff.1 HLA.out).1 (by intro e; injection e with e; exact HNA.out e)).trans HLA.out)
    try replace HLB := Lib.hid ((hg.block _ (Array.getElem?_eq_some_iff.1 HLB.out).1 (by intro e; injection e with e; exact HNB.out e)).trans HLB.out)
    replace HG := Lib.hid (grown_trans HG.out hg)
    clear hc hg ho hl hnm
    refine hK.out _ _ ((HCL.out _ HG.out)) (fun hHeld => ?_)
    clear hK K
    try simp only [Act.put, List.setIfInBounds_toArray, List.set_cons_zero, List.set_cons_succ]
    refine wpAnyH_ready (rs := [5, 7, 13]) (by kernel_rfl) (by simp) ?_
    refine AllReadyH.cons rfl (fun K hK => ?_) (AllReadyH.cons rfl (fun K hK => ?_) (AllReadyH.cons rfl (fun K hK => ?_) AllReadyH.nil))
    · go_simp
      obtain ⟨wk, hwk⟩ : ∃ u, wn.alloc (.cells #[.int .i64 1, .int .i64 3, .int .i64 127, .int .i64 10000, .int .i64 0, .int .i64 10001] 3) = u := ⟨_, rfl⟩
      have hal : wn.grownBy wk none := hwk ▸ grown_alloc wn (.cells #[.int .i64 1, .int .i64 3, .int .i64 127, .int .i64 10000, .int .i64 0, .int .i64 10001] 3) none
      have hla : wk.heap[wn.heap.size]? = some (.cells #[.int .i64 1, .int .i64 3, .int .i64 127, .int .i64 10000, .int .i64 0, .int .i64 10001] 3 (0, 0)) := hwk ▸ alloc_at rfl
      have HNA : Hid (wn.heap.size ≠ Wb.heap.size) := Lib.hid (by have := HG.out.size; have := HWS.out; omega)
      rw [hwk]
      clear hwk
      replace HC := Lib.hid (HC.out.old hal)
      have hg := grown_any (r := some Wb.heap.size) hal
      have HLA := Lib.hid hla
      try replace HU := Lib.hid (own_grown HU.out hg (by have := HWS.out; omega))
      try replace HLB := Lib.hid ((hg.block _ (Array.getElem?_eq_some_iff.1 HLB.out).1 (by intro e; injection e with e; exact HNB.out e)).trans HLB.out)
      replace HG := Lib.hid (grown_trans HG.out hg)
      clear hal hla hg
      generalize wn.heap.size = LBA at HNA HLA ⊢
      rename World => wn
      refine hK.out _ _ ((HCL.out _ HG.out)) (fun hHeld => ?_)
      clear hK K
      try simp only [Act.put, List.setIfInBounds_toArray, List.set_cons_zero, List.set_cons_succ]
      refine wpAnyH_ready (rs := [7, 13]) (by kernel_rfl) (by simp) ?_
      refine AllReadyH.cons rfl (fun K hK => ?_) (AllReadyH.cons rfl (fun K hK => ?_) AllReadyH.nil)
      · go_simp
        go_at_call 26
        refine (pick_any Wb.heap.size (.slice ad L.length cp) L (0 + 200 + 100 + 200) 24 wn (by omega) (by omega) (by omega) HC.out (HRX.out _ HG.out)).mono ?_
        rintro e wn ⟨⟨r6, rfl, r0, r1⟩, hc, hg⟩
        replace HC := Lib.hid hc
        try replace HU := Lib.hid (own_grown HU.out hg (by have := HWS.out; omega))
        try replace HLA := Lib.hid ((hg.block _ (Array.getElem?_eq_some_iff.1 HLA.out).1 (by intro e; injection e with e; exact HNA.out e)).trans HLA.out)
        try replace HLB := Lib.hid ((hg.block _ (Array.getElem?_eq_some_iff.1 HLB.out).1 (by intro e; injection e with e; exact HNB.out e)).trans HLB.out)
        replace HG := Lib.hid (grown_trans HG.out hg)
        clear hc hg
        obtain ⟨m6, hm, hm64, hc6⟩ : ∃ m : Nat, 4 + r6.tdiv 11 = (m : Int) ∧ 4 ≤ m ∧ m ≤ 6 := by
          rw [Int.tdiv_eq_ediv_of_nonneg r0]
          exact ⟨(4 + r6 / 11).toNat, by omega, by omega, by omega⟩
        have hq6 : IntKind.i64.wrap (4 + r6.tdiv 11) = (m6 : Int) := by rw [hm, IntKind.wrap_i64]; omega
        have hp6 : IntKind.i64.wrap (r6.tdiv 11) = r6.tdiv 11 := by rw [IntKind.wrap_i64]; omega
        have hb6 : (0 : Int) ≤ (m6 : Int) ∧ (m6 : Int) ≤ 6 := by omega
        have hbb6 : (m6 : Int) ≤ 6 := by omega
        have hbc6 : (0 : Int) ≤ (m6 : Int) := by omega
        clear hm r0 r1
        refine hK.out _ _ ((HCL.out _ HG.out)) (fun hHeld => ?_)
        clear hK K
        try simp only [Act.put, List.setIfInBounds_toArray, List.set_cons_zero, List.set_cons_succ]
        refine take1 (i := 8) (v := ?v8) (some 26) rfl rfl (by kernel_rfl) (by kernel_rfl) (by kernel_rfl) (fun _ _ _ h => h) (Or.inl ⟨by rfl, ?y8⟩) (by assumption) ?r8
        case y8 => (intro w hSw; (try dsimp only at hSw); go_simp; (first | done | with_reducible rfl))
        try simp only [Act.put, List.setIfInBounds_toArray, List.set_cons_zero, List.set_cons_succ]
        refine take1 (i := 9) (v := ?v9) (some 27) rfl rfl (by kernel_rfl) (by kernel_rfl) (by kernel_rfl) (fun _ _ _ h => h) (Or.inl ⟨by rfl, ?y9⟩) (by assumption) ?r9
        case y9 => (intro w hSw; (try dsimp only at hSw); go_simp; (first | done | with_reducible rfl))
        try simp only [Act.put, List.setIfInBounds_toArray, List.set_cons_zero, List.set_cons_succ]
        refine take1 (i := 10) (v := ?v10) (some 28) rfl rfl (by kernel_rfl) (by kernel_rfl) (by kernel_rfl) (fun _ _ _ h => h) (Or.inl ⟨by rfl, ?y10⟩) (by assumption) ?r10
        case y10 => (intro w hSw; (try dsimp only at hSw); go_simp; (first | done | with_reducible rfl))
        try simp only [Act.put, List.setIfInBounds_toArray, List.set_cons_zero, List.set_cons_succ]
        refine wpAnyH_ready (rs := [11, 13]) (by kernel_rfl) (by simp) ?_
        refine AllReadyH.cons rfl (fun K hK => ?_) (AllReadyH.cons rfl (fun K hK => ?_) AllReadyH.nil)
        · go_simp
          go_at_call 25
          have hs7 := slr_head (xs := [1, 3, 127, 10000, 0, 10001].map (Value.int .i64)) HLA.out (m6) (by show m6 ≤ 6; omega) (by show 6 ≤ maxLen; unfold maxLen; omega)
          rw [← List.map_take] at hs7
          refine (among_any Wb.heap.size (.slice ad L.length cp) L (0 + 200 + 100 + 200 + 2) _ ([1, 3, 127, 10000, 0, 10001].take (m6)) wn (by omega) (by rw [List.length_take]; show 1 ≤ min (m6) 6 ∧ min (m6) 6 ≤ 100; omega) hs7 (fun a m c e => by cases e; exact HNA.out) HC.out (HRX.out _ HG.out)).mono ?_
          rintro e wn ⟨⟨z6, rfl, hz⟩, hc, hg⟩
          have HZB6 : Hid (0 ≤ z6 ∧ z6 ≤ 10001) := Lib.hid (by have := List.mem_of_mem_take hz; simp only [List.mem_cons, List.not_mem_nil, or_false] at this; omega)
          replace HC := Lib.hid hc
          try replace HU := Lib.hid (own_grown HU.out hg (by have := HWS.out; omega))
          try replace HLA := Lib.hid ((hg.block _ (Array.getElem?_eq_some_iff.1 HLA.out).1 (by intro e; injection e with e; exact HNA.out e)).trans HLA.out)
          try replace HLB := Lib.hid ((hg.block _ (Array.getElem?_eq_some_iff.1 HLB.out).1 (by intro e; injection e with e; exact HNB.out e)).trans HLB.out)
          replace HG := Lib.hid (grown_trans HG.out hg)
          clear hc hg hz hs7 hq6 hp6 hb6 hbb6 hbc6
          refine hK.out _ _ ((HCL.out _ HG.out)) (fun hHeld => ?_)
          clear hK K
          try simp only [Act.put, List.setIfInBounds_toArray, List.set_cons_zero, List.set_cons_succ]
          refine wpAnyH_ready (rs := [13, 15]) (by kernel_rfl) (by simp) ?_
          refine AllReadyH.cons rfl (fun K hK => ?_) (AllReadyH.cons rfl (fun K hK => ?_) AllReadyH.nil)
          · go_simp
            obtain ⟨wk, hwk⟩ : ∃ u, wn.alloc (.cells #[.int .i64 1, .int .i64 2, .int .i64 5000, .int .i64 10000, .int .i64 0, .int .i64 10001] 3) = u := ⟨_, rfl⟩
            have hal : wn.grownBy wk none := hwk ▸ grown_alloc wn (.cells #[.int .i64 1, .int .i64 2, .int .i64 5000, .int .i64 10000, .int .i64 0, .int .i64 10001] 3) none
            have hla : wk.heap[wn.heap.size]? = some (.cells #[.int .i64 1, .int .i64 2, .int .i64 5000, .int .i64 10000, .int .i64 0, .int .i64 10001] 3 (0, 0)) := hwk ▸ alloc_at rfl
            have HNB : Hid (wn.heap.size ≠ Wb.heap.size) := Lib.hid (by have := HG.out.size; have := HWS.out; omega)
            rw [hwk]
            clear hwk
            replace HC := Lib.hid (HC.out.old hal)
            have hg := grown_any (r := some Wb.heap.size) hal
            have HLB := Lib.hid hla
            try replace HU := Lib.hid (own_grown HU.out hg (by have := HWS.out; omega))
            try replace HLA := Lib.hid ((hg.block _ (Array.getElem?_eq_some_iff.1 HLA.out).1 (by intro e; injection e with e; exact HNA.out e)).trans HLA.out)
            replace HG := Lib.hid (grown_trans HG.out hg)
            clear hal hla hg
            generalize wn.heap.size = LBB at HNB HLB ⊢
            rename World => wn
            refine hK.out _ _ ((HCL.out _ HG.out)) (fun hHeld => ?_)
            clear hK K
            try simp only [Act.put, List.setIfInBounds_toArray, List.set_cons_zero, List.set_cons_succ]
            refine wpAnyH_ready (rs := [15]) (by kernel_rfl) (by simp) ?_
            refine AllReadyH.cons rfl (fun K hK => ?_) AllReadyH.nil
            go_simp
            go_at_call 26
            refine (pick_any Wb.heap.size (.slice ad L.length cp) L (0 + 200 + 100 + 200 + 2 + 2) 24 wn (by omega) (by omega) (by omega) HC.out (HRX.out _ HG.out)).mono ?_
            rintro e wn ⟨⟨r7, rfl, r0, r1⟩, hc, hg⟩
            replace HC := Lib.hid hc
            try replace HU := Lib.hid (own_grown HU.out hg (by have := HWS.out; omega))
            try replace HLA := Lib.hid ((hg.block _ (Array.getElem?_eq_some_iff.1 HLA.out).1 (by intro e; injection e with e; exact HNA.out e)).trans HLA.out)
            try replace HLB := Lib.hid ((hg.block _ (Array.getElem?_eq_some_iff.1 HLB.out).1 (by intro e; injection e with e; exact HNB.out e)).trans HLB.out)
            replace HG := Lib.hid (grown_trans HG.out hg)
            clear hc hg
            obtain ⟨m7, hm, hm74, hc7⟩ : ∃ m : Nat, 4 + r7.tdiv 11 = (m : Int) ∧ 4 ≤ m ∧ m ≤ 6 := by
              rw [Int.tdiv_eq_ediv_of_nonneg r0]
              exact ⟨(4 + r7 / 11).toNat, by omega, by omega, by omega⟩
            have hq7 : IntKind.i64.wrap (4 + r7.tdiv 11) = (m7 : Int) := by rw [hm, IntKind.wrap_i64]; omega
            have hp7 : IntKind.i64.wrap (r7.tdiv 11) = r7.tdiv 11 := by rw [IntKind.wrap_i64]; omega
            have hb7 : (0 : Int) ≤ (m7 : Int) ∧ (m7 : Int) ≤ 6 := by omega
            have hbb7 : (m7 : Int) ≤ 6 := by omega
            have hbc7 : (0 : Int) ≤ (m7 : Int) := by omega
            clear hm r0 r1
            refine hK.out _ _ ((HCL.out _ HG.out)) (fun hHeld => ?_)
            clear hK K
            try simp only [Act.put, List.setIfInBounds_toArray, List.set_cons_zero, List.set_cons_succ]
            refine take1 (i := 16) (v := ?v11) (some 34) rfl rfl (by kernel_rfl) (by kernel_rfl) (by kernel_rfl) (fun _ _ _ h => h) (Or.inl ⟨by rfl, ?y11⟩) (by assumption) ?r11
            case y11 => (intro w hSw; (try dsimp only at hSw); go_simp; (first | done | with_reducible rfl))
            try simp only [Act.put, List.setIfInBounds_toArray, List.set_cons_zero, List.set_cons_succ]
            refine take1 (i := 17) (v := ?v12) (some 35) rfl rfl (by kernel_rfl) (by kernel_rfl) (by kernel_rfl) (fun _ _ _ h => h) (Or.inl ⟨by rfl, ?y12⟩) (by assumption) ?r12
            case y12 => (intro w hSw; (try dsimp only at hSw); go_simp; (first | done | with_reducible rfl))
            try simp only [Act.put, List.setIfInBounds_toArray, List.set_cons_zero, List.set_cons_succ]
            refine take1 (i := 18) (v := ?v13) (some 36) rfl rfl (by kernel_rfl) (by kernel_rfl) (by kernel_rfl) (fun _ _ _ h => h) (Or.inl ⟨by rfl, ?y13⟩) (by assumption) ?r13
            case y13 => (intro w hSw; (try dsimp only at hSw); go_simp; (first | done | with_reducible rfl))
            try simp only [Act.put, List.setIfInBounds_toArray, List.set_cons_zero, List.set_cons_succ]
            refine wpAnyH_ready (rs := [19]) (by kernel_rfl) (by simp) ?_
            refine AllReadyH.cons rfl (fun K hK => ?_) AllReadyH.nil
            go_simp
            go_at_call 25
            have hs7 := slr_head (xs := [1, 2, 5000, 10000, 0, 10001].map (Value.int .i64)) HLB.out (m7) (by show m7 ≤ 6; omega) (by show 6 ≤ maxLen; unfold maxLen; omega)
            rw [← List.map_take] at hs7
            refine (among_any Wb.heap.size (.slice ad L.length cp) L (0 + 200 + 100 + 200 + 2 + 2 + 2) _ ([1, 2, 5000, 10000, 0, 10001].take (m7)) wn (by omega) (by rw [List.length_take]; show 1 ≤ min (m7) 6 ∧ min (m7) 6 ≤ 100; omega) hs7 (fun a m c e => by cases e; exact HNB.out) HC.out (HRX.out _ HG.out)).mono ?_
            rintro e wn ⟨⟨z7, rfl, hz⟩, hc, hg⟩
            have HZB7 : Hid (0 ≤ z7 ∧ z7 ≤ 10001) := Lib.hid (by have := List.mem_of_mem_take hz; simp only [List.mem_cons, List.not_mem_nil, or_false] at this; omega)
            replace HC := Lib.hid hc
            try replace HU := Lib.hid (own_grown HU.out hg (by have := HWS.out; omega))
            try replace HLA := Lib.hid ((hg.block _ (Array.getElem?_eq_some_iff.1 HLA.out).1 (by intro e; injection e with e; exact HNA.out e)).trans HLA.out)
            try replace HLB := Lib.hid ((hg.block _ (Array.getElem?_eq_some_iff.1 HLB.out).1 (by intro e; injection e with e; exact HNB.out e)).trans HLB.out)
            replace HG := Lib.hid (grown_trans HG.out hg)
            clear hc hg hz hs7 hq7 hp7 hb7 hbb7 hbc7
            refine hK.out _ _ ((HCL.out _ HG.out)) (fun hHeld => ?_)
            clear hK K
            try simp only [Act.put, List.setIfInBounds_toArray, List.set_cons_zero, List.set_cons_succ]
            refine take1 (i := 20) (v := ?v14) (some 2) rfl rfl (by kernel_rfl) (by kernel_rfl) (by kernel_rfl) (fun _ _ _ h => h) (Or.inl ⟨by rfl, ?y14⟩) (by assumption) ?r14
            case y14 => (intro w hSw; (try dsimp only at hSw); go_simp; (first | done | with_reducible rfl))
            try simp only [Act.put, List.setIfInBounds_toArray, List.set_cons_zero, List.set_cons_succ]
            refine wpAnyH_ready (rs := [21]) (by kernel_rfl) (by simp) ?_
            refine AllReadyH.cons rfl (fun K hK => ?_) AllReadyH.nil
            have hz := (HG.out.block w.heap.size (by have := HWS.out; omega) (by intro e; have := HSB.out; injection e with e; omega)).trans HZW.out
            have hl1 := lt_of_block hz
            obtain ⟨c1, f1⟩ := cell1 hz
            have hq1 := box1_set hz (.slice xa xs.length xc)
            have hx1 := (heap_setCell_other wn ⟨w.heap.size, 0, none⟩ BX (.slice xa xs.length xc) (by show BX ≠ w.heap.size; have := HBX.out; omega)).trans ((HG.out.block BX (by have := HBX.out; omega) (by intro e; have := HBX.out; have := HSB.out; injection e with e; omega)).trans HKX.out)
            have HP1 := Lib.hid (ownsRow_setCell_below (own_grown HRu.out HG.out (by have := HS1.out; have := HSB.out; omega)) (a := ⟨w.heap.size, 0, none⟩) (by show w.heap.size < W1.heap.size; have := HS1.out; omega) (.slice xa xs.length xc))
            have HP2 := Lib.hid (ownsRow_setCell_below (own_grown HRx.out HG.out (by have := HS1.out; have := HSB.out; have := HS2.out; omega)) (a := ⟨w.heap.size, 0, none⟩) (by show w.heap.size < w2.heap.size; have := HS1.out; have := HS2.out; omega) (.slice xa xs.length xc))
            have HP3 := Lib.hid (ownsRow_setCell_below HU.out (a := ⟨w.heap.size, 0, none⟩) (by show w.heap.size < W.heap.size; have := HWS.out; omega) (.slice xa xs.length xc))
            have HB4 := Lib.hid ((HBW.out.grown HG.out HBW.out.size (fun k e => by cases e; have := HSB.out; omega)).setCell (p := ⟨w.heap.size, 0, none⟩) (Nat.le_refl _) (.slice xa xs.length xc))
            go_simp
            clear c1 f1 hl1 hz
            generalize wn.setCell ⟨w.heap.size, 0, none⟩ (.slice xa xs.length xc) = wz at hq1 hx1 HP1 HP2 HP3 HB4 ⊢
            refine hK.out _ _ ((cell1 hx1).1) (fun hHeld => ?_)
            clear hK K
            try simp only [Act.put]
            refine take1 (i := 22) (v := ?v15) (some 4) rfl rfl (by kernel_rfl) (by kernel_rfl) (by kernel_rfl) (fun _ _ _ h => h) (Or.inl ⟨by rfl, ?y15⟩) (by assumption) ?r15
            case y15 => (intro w hSw; (try dsimp only at hSw); go_simp; (first | done | with_reducible rfl))
            try simp only [Act.put, List.setIfInBounds_toArray, List.set_cons_zero, List.set_cons_succ]
            refine take1 (i := 23) (v := ?v16) (some 5) rfl rfl (by kernel_rfl) (by kernel_rfl) (by kernel_rfl) (fun _ _ _ h => h) (Or.inl ⟨by rfl, ?y16⟩) (by assumption) ?r16
            case y16 => (intro w hSw; (try dsimp only at hSw); go_simp; (first | done | with_reducible rfl))
            try simp only [Act.put, List.setIfInBounds_toArray, List.set_cons_zero, List.set_cons_succ]
            refine take1 (i := 24) (v := ?v17) (some 6) rfl rfl (by kernel_rfl) (by kernel_rfl) (by kernel_rfl) (fun _ _ _ h => h) (Or.inl ⟨by rfl, ?y17⟩) (by assumption) ?r17
            case y17 => (intro w hSw; (try dsimp only at hSw); go_simp; (first | done | with_reducible rfl))
            try simp only [Act.put, List.setIfInBounds_toArray, List.set_cons_zero, List.set_cons_succ]
            refine wpAnyH_done (by kernel_rfl) ?_ _
            obtain ⟨c3, f3⟩ := cell1 hq1
            clear hq1 hx1
            go_wp2_with fail
            exact bodyPost_ret (v := .tuple #[.slice qa us.length qc, .agg #[.slice xa xs.length xc], .slice qa2 us2.length qc2, .int .i64 z6, .int .i64 z7]) (by simp [results, Tryd.results14, go_sem, c3]) rfl ⟨⟨_, _, _, us, us2, xs, z6, z7, rfl, ⟨own_mono HP1.out (by have := HS1.out; omega), own_mono HP2.out (by have := HS1.out; have := HS2.out; omega), own_mono HP3.out (by have := HWS.out; omega)⟩, HL.out, HL2.out, HZB6.out, HZB7.out⟩, HB4.out⟩
          · go_simp
            go_at_call 26
            refine (pick_any Wb.heap.size (.slice ad L.length cp) L (0 + 200 + 100 + 200 + 2 + 2) 24 wn (by omega) (by omega) (by omega) HC.out (HRX.out _ HG.out)).mono ?_
            rintro e wn ⟨⟨r7, rfl, r0, r1⟩, hc, hg⟩
            replace HC := Lib.hid hc
            try replace HU := Lib.hid (own_grown HU.out hg (by have := HWS.out; omega))
            try replace HLA := Lib.hid ((hg.block _ (Array.getElem?_eq_some_iff.1 HLA.out).1 (by intro e; injection e with e; exact HNA.out e)).trans HLA.out)
            try replace HLB := Lib.hid ((hg.block _ (Array.getElem?_eq_some_iff.1 HLB.out).1 (by intro e; injection e with e; exact HNB.out e)).trans HLB.out)
            replace HG := Lib.hid (grown_trans HG.out hg)
            clear hc hg
            obtain ⟨m7, hm, hm74, hc7⟩ : ∃ m : Nat, 4 + r7.tdiv 11 = (m : Int) ∧ 4 ≤ m ∧ m ≤ 6 := by
              rw [Int.tdiv_eq_ediv_of_nonneg r0]
              exact ⟨(4 + r7 / 11).toNat, by omega, by omega, by omega⟩
            have hq7 : IntKind.i64.wrap (4 + r7.tdiv 11) = (m7 : Int) := by rw [hm, IntKind.wrap_i64]; omega
            have hp7 : IntKind.i64.wrap (r7.tdiv 11) = r7.tdiv 11 := by rw [IntKind.wrap_i64]; omega
            have hb7 : (0 : Int) ≤ (m7 : Int) ∧ (m7 : Int) ≤ 6 := by omega
            have hbb7 : (m7 : Int) ≤ 6 := by omega
            have hbc7 : (0 : Int) ≤ (m7 : Int) := by omega
            clear hm r0 r1
            refine hK.out _ _ ((HCL.out _ HG.out)) (fun hHeld => ?_)
            clear hK K
            try simp only [Act.put, List.setIfInBounds_toArray, List.set_cons_zero, List.set_cons_succ]
            refine take1 (i := 16) (v := ?v18) (some 34) rfl rfl (by kernel_rfl) (by kernel_rfl) (by kernel_rfl) (fun _ _ _ h => h) (Or.inl ⟨by rfl, ?y18⟩) (by assumption) ?r18
            case y18 => (intro w hSw; (try dsimp only at hSw); go_simp; (first | done | with_reducible rfl))
            try simp only [Act.put, List.setIfInBounds_toArray, List.set_cons_zero, List.set_cons_succ]
            refine take1 (i := 17) (v := ?v19) (some 35) rfl rfl (by kernel_rfl) (by kernel_rfl) (by kernel_rfl) (fun _ _ _ h => h) (Or.inl ⟨by rfl, ?y19⟩) (by assumption) ?r19
            case y19 => (intro w hSw; (try dsimp only at hSw); go_simp; (first | done | with_reducible rfl))
            try simp only [Act.put, List.setIfInBounds_toArray, List.set_cons_zero, List.set_cons_succ]
            refine wpAnyH_ready (rs := [13]) (by kernel_rfl) (by simp) ?_
            refine AllReadyH.cons rfl (fun K hK => ?_) AllReadyH.nil
            go_simp
            obtain ⟨wk, hwk⟩ : ∃ u, wn.alloc (.cells #[.int .i64 1, .int .i64 2, .int .i64 5000, .int .i64 10000, .int .i64 0, .int .i64 10001] 3) = u := ⟨_, rfl⟩
            have hal : wn.grownBy wk none := hwk ▸ grown_alloc wn (.cells #[.int .i64 1, .int .i64 2, .int .i64 5000, .int .i64 10000, .int .i64 0, .int .i64 10001] 3) none
            have hla : wk.heap[wn.heap.size]? = some (.cells #[.int .i64 1, .int .i64 2, .int .i64 5000, .int .i64 10000, .int .i64 0, .int .i64 10001] 3 (0, 0)) := hwk ▸ alloc_at rfl
            have HNB : Hid (wn.heap.size ≠ Wb.heap.size) := Lib.hid (by have := HG.out.size; have := HWS.out; omega)
            rw [hwk]
            clear hwk
            replace HC := Lib.hid (HC.out.old hal)
            have hg := grown_any (r := some Wb.heap.size) hal
            have HLB := Lib.hid hla
            try replace HU := Lib.hid (own_grown HU.out hg (by have := HWS.out; omega))
            try replace HLA := Lib.hid ((hg.block _ (Array.getElem?_eq_some_iff.1 HLA.out).1 (by intro e; injection e with e; exact HNA.out e)).trans HLA.out)
            replace HG := Lib.hid (grown_trans HG.out hg)
            clear hal hla hg
            generalize wn.heap.size = LBB at HNB HLB ⊢
            rename World => wn
            refine hK.out _ _ ((HCL.out _ HG.out)) (fun hHeld => ?_)
            clear hK K
            try simp only [Act.put, List.setIfInBounds_toArray, List.set_cons_zero, List.set_cons_succ]
            refine take1 (i := 18) (v := ?v20) (some 36) rfl rfl (by kernel_rfl) (by kernel_rfl) (by kernel_rfl) (fun _ _ _ h => h) (Or.inl ⟨by rfl, ?y20⟩) (by assumption) ?r20
            case y20 => (intro w hSw; (try dsimp only at hSw); go_simp; (first | done | with_reducible rfl))
            try simp only [Act.put, List.setIfInBounds_toArray, List.set_cons_zero, List.set_cons_succ]
            refine wpAnyH_ready (rs := [19]) (by kernel_rfl) (by simp) ?_
            refine AllReadyH.cons rfl (fun K hK => ?_) AllReadyH.nil
            go_simp
            go_at_call 25
            have hs7 := slr_head (xs := [1, 2, 5000, 10000, 0, 10001].map (Value.int .i64)) HLB.out (m7) (by show m7 ≤ 6; omega) (by show 6 ≤ maxLen; unfold maxLen; omega)
            rw [← List.map_take] at hs7
            refine (among_any Wb.heap.size (.slice ad L.length cp) L (0 + 200 + 100 + 200 + 2 + 2 + 2) _ ([1, 2, 5000, 10000, 0, 10001].take (m7)) wn (by omega) (by rw [List.length_take]; show 1 ≤ min (m7) 6 ∧ min (m7) 6 ≤ 100; omega) hs7 (fun a m c e => by cases e; exact HNB.out) HC.out (HRX.out _ HG.out)).mono ?_
            rintro e wn ⟨⟨z7, rfl, hz⟩, hc, hg⟩
            have HZB7 : Hid (0 ≤ z7 ∧ z7 ≤ 10001) := Lib.hid (by have := List.mem_of_mem_take hz; simp only [List.mem_cons, List.not_mem_nil, or_false] at this; omega)
            replace HC := Lib.hid hc
            try replace HU := Lib.hid (own_grown HU.out hg (by have := HWS.out; omega))
            try replace HLA := Lib.hid ((hg.block _ (Array.getElem?_eq_some_iff.1 HLA.out).1 (by intro e; injection e with e; exact HNA.out e)).trans HLA.out)
            try replace HLB := Lib.hid ((hg.block _ (Array.getElem?_eq_some_iff.1 HLB.out).1 (by intro e; injection e with e; exact HNB.out e)).trans HLB.out)
            replace HG := Lib.hid (grown_trans HG.out hg)
            clear hc hg hz hs7 hq7 hp7 hb7 hbb7 hbc7
            refine hK.out _ _ ((HCL.out _ HG.out)) (fun hHeld => ?_)
            clear hK K
            try simp only [Act.put, List.setIfInBounds_toArray, List.set_cons_zero, List.set_cons_succ]
            refine take1 (i := 20) (v := ?v21) (some 2) rfl rfl (by kernel_rfl) (by kernel_rfl) (by kernel_rfl) (fun _ _ _ h => h) (Or.inl ⟨by rfl, ?y21⟩) (by assumption) ?r21
            case y21 => (intro w hSw; (try dsimp only at hSw); go_simp; (first | done | with_reducible rfl))
            try simp only [Act.put, List.setIfInBounds_toArray, List.set_cons_zero, List.set_cons_succ]
            refine wpAnyH_ready (rs := [21]) (by kernel_rfl) (by simp) ?_
            refine AllReadyH.cons rfl (fun K hK => ?_) AllReadyH.nil
            have hz := (HG.out.block w.heap.size (by have := HWS.out; omega) (by intro e; have := HSB.out; injection e with e; omega)).trans HZW.out
            have hl1 := lt_of_block hz
            obtain ⟨c1, f1⟩ := cell1 hz
            have hq1 := box1_set hz (.slice xa xs.length xc)
            have hx1 := (heap_setCell_other wn ⟨w.heap.size, 0, none⟩ BX (.slice xa xs.length xc) (by show BX ≠ w.heap.size; have := HBX.out; omega)).trans ((HG.out.block BX (by have := HBX.out; omega) (by intro e; have := HBX.out; have := HSB.out; injection e with e; omega)).trans HKX.out)
            have HP1 := Lib.hid (ownsRow_setCell_below (own_grown HRu.out HG.out (by have := HS1.out; have := HSB.out; omega)) (a := ⟨w.heap.size, 0, none⟩) (by show w.heap.size < W1.heap.size; have := HS1.out; omega) (.slice xa xs.length xc))
            have HP2 := Lib.hid (ownsRow_setCell_below (own_grown HRx.out HG.out (by have := HS1.out; have := HSB.out; have := HS2.out; omega)) (a := ⟨w.heap.size, 0, none⟩) (by show w.heap.size < w2.heap.size; have := HS1.out; have := HS2.out; omega) (.slice xa xs.length xc))
            have HP3 := Lib.hid (ownsRow_setCell_below HU.out (a := ⟨w.heap.size, 0, none⟩) (by show w.heap.size < W.heap.size; have := HWS.out; omega) (.slice xa xs.length xc))
            have HB4 := Lib.hid ((HBW.out.grown HG.out HBW.out.size (fun k e => by cases e; have := HSB.out; omega)).setCell (p := ⟨w.heap.size, 0, none⟩) (Nat.le_refl _) (.slice xa xs.length xc))
            go_simp
            clear c1 f1 hl1 hz
            generalize wn.setCell ⟨w.heap.size, 0, none⟩ (.slice xa xs.length xc) = wz at hq1 hx1 HP1 HP2 HP3 HB4 ⊢
            refine hK.out _ _ ((cell1 hx1).1) (fun hHeld => ?_)
            clear hK K
            try simp only [Act.put]
            refine take1 (i := 22) (v := ?v22) (some 4) rfl rfl (by kernel_rfl) (by kernel_rfl) (by kernel_rfl) (fun _ _ _ h => h) (Or.inl ⟨by rfl, ?y22⟩) (by assumption) ?r22
            case y22 => (intro w hSw; (try dsimp only at hSw); go_simp; (first | done | with_reducible rfl))
            try simp only [Act.put, List.setIfInBounds_toArray, List.set_cons_zero, List.set_cons_succ]
            refine take1 (i := 23) (v := ?v23) (some 5) rfl rfl (by kernel_rfl) (by kernel_rfl) (by kernel_rfl) (fun _ _ _ h => h) (Or.inl ⟨by rfl, ?y23⟩) (by assumption) ?r23
            case y23 => (intro w hSw; (try dsimp only at hSw); go_simp; (first | done | with_reducible rfl))
            try simp only [Act.put, List.setIfInBounds_toArray, List.set_cons_zero, List.set_cons_succ]
            refine take1 (i := 24) (v := ?v24) (some 6) rfl rfl (by kernel_rfl) (by kernel_rfl) (by kernel_rfl) (fun _ _ _ h => h) (Or.inl ⟨by rfl, ?y24⟩) (by assumption) ?r24
            case y24 => (intro w hSw; (try dsimp only at hSw); go_simp; (first | done | with_reducible rfl))
            try simp only [Act.put, List.setIfInBounds_toArray, List.set_cons_zero, List.set_cons_succ]
            refine wpAnyH_done (by kernel_rfl) ?_ _
            obtain ⟨c3, f3⟩ := cell1 hq1
            clear hq1 hx1
            go_wp2_with fail
            exact bodyPost_ret (v := .tuple #[.slice qa us.length qc, .agg #[.slice xa xs.length xc], .slice qa2 us2.length qc2, .int .i64 z6, .int .i64 z7]) (by simp [results, Tryd.results14, go_sem, c3]) rfl ⟨⟨_, _, _, us, us2, xs, z6, z7, rfl, ⟨own_mono HP1.out (by have := HS1.out; omega), own_mono HP2.out (by have := HS1.out; have := HS2.out; omega), own_mono HP3.out (by have := HWS.out; omega)⟩, HL.out, HL2.out, HZB6.out, HZB7.out⟩, HB4.out⟩
        · go_simp
          obtain ⟨wk, hwk⟩ : ∃ u, wn.alloc (.cells #[.int .i64 1, .int .i64 2, .int .i64 5000, .int .i64 10000, .int .i64 0, .int .i64 10001] 3) = u := ⟨_, rfl⟩
          have hal : wn.grownBy wk none := hwk ▸ grown_alloc wn (.cells #[.int .i64 1, .int .i64 2, .int .i64 5000, .int .i64 10000, .int .i64 0, .int .i64 10001] 3) none
          have hla : wk.heap[wn.heap.size]? = some (.cells #[.int .i64 1, .int .i64 2, .int .i64 5000, .int .i64 10000, .int .i64 0, .int .i64 10001] 3 (0, 0)) := hwk ▸ alloc_at rfl
          have HNB : Hid (wn.heap.size ≠ Wb.heap.size) := Lib.hid (by have := HG.out.size; have := HWS.out; omega)
          rw [hwk]
          clear hwk
          replace HC := Lib.hid (HC.out.old hal)
          have hg := grown_any (r := some Wb.heap.size) hal
          have HLB := Lib.hid hla
          try replace HU := Lib.hid (own_grown HU.out hg (by have := HWS.out; omega))
          try replace HLA := Lib.hid ((hg.block _ (Array.getElem?_eq_some_iff.1 HLA.out).1 (by intro e; injection e with e; exact HNA.out e)).trans HLA.out)
          replace HG := Lib.hid (grown_trans HG.out hg)
          clear hal hla hg
          generalize wn.heap.size = LBB at HNB HLB ⊢
          rename World => wn
          refine hK.out _ _ ((HCL.out _ HG.out)) (fun hHeld => ?_)
          clear hK K
          try simp only [Act.put, List.setIfInBounds_toArray, List.set_cons_zero, List.set_cons_succ]
          refine wpAnyH_ready (rs := [11]) (by kernel_rfl) (by simp) ?_
          refine AllReadyH.cons rfl (fun K hK => ?_) AllReadyH.nil
          go_simp
          go_at_call 25
          have hs7 := slr_head (xs := [1, 3, 127, 10000, 0, 10001].map (Value.int .i64)) HLA.out (m6) (by show m6 ≤ 6; omega) (by show 6 ≤ maxLen; unfold maxLen; omega)
          rw [← List.map_take] at hs7
          refine (among_any Wb.heap.size (.slice ad L.length cp) L (0 + 200 + 100 + 200 + 2) _ ([1, 3, 127, 10000, 0, 10001].take (m6)) wn (by omega) (by rw [List.length_take]; show 1 ≤ min (m6) 6 ∧ min (m6) 6 ≤ 100; omega) hs7 (fun a m c e => by cases e; exact HNA.out) HC.out (HRX.out _ HG.out)).mono ?_
          rintro e wn ⟨⟨z6, rfl, hz⟩, hc, hg⟩
          have HZB6 : Hid (0 ≤ z6 ∧ z6 ≤ 10001) := Lib.hid (by have := List.mem_of_mem_take hz; simp only [List.mem_cons, List.not_mem_nil, or_false] at this; omega)
          replace HC := Lib.hid hc
          try replace HU := Lib.hid (own_grown HU.out hg (by have := HWS.out; omega))
          try replace HLA := Lib.hid ((hg.block _ (Array.getElem?_eq_some_iff.1 HLA.out).1 (by intro e; injection e with e; exact HNA.out e)).trans HLA.out)
          try replace HLB := Lib.hid ((hg.block _ (Array.getElem?_eq_some_iff.1 HLB.out).1 (by intro e; injection e with e; exact HNB.out e)).trans HLB.out)
          replace HG := Lib.hid (grown_trans HG.out hg)
          clear hc hg hz hs7 hq6 hp6 hb6 hbb6 hbc6
          refine hK.out _ _ ((HCL.out _ HG.out)) (fun hHeld => ?_)
          clear hK K
          try simp only [Act.put, List.setIfInBounds_toArray, List.set_cons_zero, List.set_cons_succ]
          refine wpAnyH_ready (rs := [15]) (by kernel_rfl) (by simp) ?_
          refine AllReadyH.cons rfl (fun K hK => ?_) AllReadyH.nil
          go_simp
          go_at_call 26
          refine (pick_any Wb.heap.size (.slice ad L.length cp) L (0 + 200 + 100 + 200 + 2 + 2) 24 wn (by omega) (by omega) (by omega) HC.out (HRX.out _ HG.out)).mono ?_
          rintro e wn ⟨⟨r7, rfl, r0, r1⟩, hc, hg⟩
          replace HC := Lib.hid hc
          try replace HU := Lib.hid (own_grown HU.out hg (by have := HWS.out; omega))
          try replace HLA := Lib.hid ((hg.block _ (Array.getElem?_eq_some_iff.1 HLA.out).1 (by intro e; injection e with e; exact HNA.out e)).trans HLA.out)
          try replace HLB := Lib.hid ((hg.block _ (Array.getElem?_eq_some_iff.1 HLB.out).1 (by intro e; injection e with e; exact HNB.out e)).trans HLB.out)
          replace HG := Lib.hid (grown_trans HG.out hg)
          clear hc hg
          obtain ⟨m7, hm, hm74, hc7⟩ : ∃ m : Nat, 4 + r7.tdiv 11 = (m : Int) ∧ 4 ≤ m ∧ m ≤ 6 := by
            rw [Int.tdiv_eq_ediv_of_nonneg r0]
            exact ⟨(4 + r7 / 11).toNat, by omega, by omega, by omega⟩
          have hq7 : IntKind.i64.wrap (4 + r7.tdiv 11) = (m7 : Int) := by rw [hm, IntKind.wrap_i64]; omega
          have hp7 : IntKind.i64.wrap (r7.tdiv 11) = r7.tdiv 11 := by rw [IntKind.wrap_i64]; omega
          have hb7 : (0 : Int) ≤ (m7 : Int) ∧ (m7 : Int) ≤ 6 := by omega
          have hbb7 : (m7 : Int) ≤ 6 := by omega
          have hbc7 : (0 : Int) ≤ (m7 : Int) := by omega
          clear hm r0 r1
          refine hK.out _ _ ((HCL.out _ HG.out)) (fun hHeld => ?_)
          clear hK K
          try simp only [Act.put, List.setIfInBounds_toArray, List.set_cons_zero, List.set_cons_succ]
          refine take1 (i := 16) (v := ?v25) (some 34) rfl rfl (by kernel_rfl) (by kernel_rfl) (by kernel_rfl) (fun _ _ _ h => h) (Or.inl ⟨by rfl, ?y25⟩) (by assumption) ?r25
          case y25 => (intro w hSw; (try dsimp only at hSw); go_simp; (first | done | with_reducible rfl))
          try simp only [Act.put, List.setIfInBounds_toArray, List.set_cons_zero, List.set_cons_succ]
          refine take1 (i := 17) (v := ?v26) (some 35) rfl rfl (by kernel_rfl) (by kernel_rfl) (by kernel_rfl) (fun _ _ _ h => h) (Or.inl ⟨by rfl, ?y26⟩) (by assumption) ?r26
          case y26 => (intro w hSw; (try dsimp only at hSw); go_simp; (first | done | with_reducible rfl))
          try simp only [Act.put, List.setIfInBounds_toArray, List.set_cons_zero, List.set_cons_succ]
          refine take1 (i := 18) (v := ?v27) (some 36) rfl rfl (by kernel_rfl) (by kernel_rfl) (by kernel_rfl) (fun _ _ _ h => h) (Or.inl ⟨by rfl, ?y27⟩) (by assumption) ?r27
          case y27 => (intro w hSw; (try dsimp only at hSw); go_simp; (first | done | with_reducible rfl))
          try simp only [Act.put, List.setIfInBounds_toArray, List.set_cons_zero, List.set_cons_succ]
          refine wpAnyH_ready (rs := [19]) (by kernel_rfl) (by simp) ?_
          refine AllReadyH.cons rfl (fun K hK => ?_) AllReadyH.nil
          go_simp
          go_at_call 25
          have hs7 := slr_head (xs := [1, 2, 5000, 10000, 0, 10001].map (Value.int .i64)) HLB.out (m7) (by show m7 ≤ 6; omega) (by show 6 ≤ maxLen; unfold maxLen; omega)
          rw [← List.map_take] at hs7
          refine (among_any Wb.heap.size (.slice ad L.length cp) L (0 + 200 + 100 + 200 + 2 + 2 + 2) _ ([1, 2, 5000, 10000, 0, 10001].take (m7)) wn (by omega) (by rw [List.length_take]; show 1 ≤ min (m7) 6 ∧ min (m7) 6 ≤ 100; omega) hs7 (fun a m c e => by cases e; exact HNB.out) HC.out (HRX.out _ HG.out)).mono ?_
          rintro e wn ⟨⟨z7, rfl, hz⟩, hc, hg⟩
          have HZB7 : Hid (0 ≤ z7 ∧ z7 ≤ 10001) := Lib.hid (by have := List.mem_of_mem_take hz; simp only [List.mem_cons, List.not_mem_nil, or_false] at this; omega)
          replace HC := Lib.hid hc
          try replace HU := Lib.hid (own_grown HU.out hg (by have := HWS.out; omega))
          try replace HLA := Lib.hid ((hg.block _ (Array.getElem?_eq_some_iff.1 HLA.out).1 (by intro e; injection e with e; exact HNA.out e)).trans HLA.out)
          try replace HLB := Lib.hid ((hg.block _ (Array.getElem?_eq_some_iff.1 HLB.out).1 (by intro e; injection e with e; exact HNB.out e)).trans HLB.out)
          replace HG := Lib.hid (grown_trans HG.out hg)
          clear hc hg hz hs7 hq7 hp7 hb7 hbb7 hbc7
          refine hK.out _ _ ((HCL.out _ HG.out)) (fun hHeld => ?_)
          clear hK K
          try simp only [Act.put, List.setIfInBounds_toArray, List.set_cons_zero, List.set_cons_succ]
          refine take1 (i := 20) (v := ?v28) (some 2) rfl rfl (by kernel_rfl) (by kernel_rfl) (by kernel_rfl) (fun _ _ _ h => h) (Or.inl ⟨by rfl, ?y28⟩) (by assumption) ?r28
          case y28 => (intro w hSw; (try dsimp only at hSw); go_simp; (first | done | with_reducible rfl))
          try simp only [Act.put, List.setIfInBounds_toArray, List.set_cons_zero, List.set_cons_succ]
          refine wpAnyH_ready (rs := [21]) (by kernel_rfl) (by simp) ?_
          refine AllReadyH.cons rfl (fun K hK => ?_) AllReadyH.nil
          have hz := (HG.out.block w.heap.size (by have := HWS.out; omega) (by intro e; have := HSB.out; injection e with e; omega)).trans HZW.out
          have hl1 := lt_of_block hz
          obtain ⟨c1, f1⟩ := cell1 hz
          have hq1 := box1_set hz (.slice xa xs.length xc)
          have hx1 := (heap_setCell_other wn ⟨w.heap.size, 0, none⟩ BX (.slice xa xs.length xc) (by show BX ≠ w.heap.size; have := HBX.out; omega)).trans ((HG.out.block BX (by have := HBX.out; omega) (by intro e; have := HBX.out; have := HSB.out; injection e with e; omega)).trans HKX.out)
          have HP1 := Lib.hid (ownsRow_setCell_below (own_grown HRu.out HG.out (by have := HS1.out; have := HSB.out; omega)) (a := ⟨w.heap.size, 0, none⟩) (by show w.heap.size < W1.heap.size; have := HS1.out; omega) (.slice xa xs.length xc))
          have HP2 := Lib.hid (ownsRow_setCell_below (own_grown HRx.out HG.out (by have := HS1.out; have := HSB.out; have := HS2.out; omega)) (a := ⟨w.heap.size, 0, none⟩) (by show w.heap.size < w2.heap.size; have := HS1.out; have := HS2.out; omega) (.slice xa xs.length xc))
          have HP3 := Lib.hid (ownsRow_setCell_below HU.out (a := ⟨w.heap.size, 0, none⟩) (by show w.heap.size < W.heap.size; have := HWS.out; omega) (.slice xa xs.length xc))
          have HB4 := Lib.hid ((HBW.out.grown HG.out HBW.out.size (fun k e => by cases e; have := HSB.out; omega)).setCell (p := ⟨w.heap.size, 0, none⟩) (Nat.le_refl _) (.slice xa xs.length xc))
          go_simp
          clear c1 f1 hl1 hz
          generalize wn.setCell ⟨w.heap.size, 0, none⟩ (.slice xa xs.length xc) = wz at hq1 hx1 HP1 HP2 HP3 HB4 ⊢
          refine hK.out _ _ ((cell1 hx1).1) (fun hHeld => ?_)
          clear hK K
          try simp only [Act.put]
          refine take1 (i := 22) (v := ?v29) (some 4) rfl rfl (by kernel_rfl) (by kernel_rfl) (by kernel_rfl) (fun _ _ _ h => h) (Or.inl ⟨by rfl, ?y29⟩) (by assumption) ?r29
          case y29 => (intro w hSw; (try dsimp only at hSw); go_simp; (first | done | with_reducible rfl))
          try simp only [Act.put, List.setIfInBounds_toArray, List.set_cons_zero, List.set_cons_succ]
          refine take1 (i := 23) (v := ?v30) (some 5) rfl rfl (by kernel_rfl) (by kernel_rfl) (by kernel_rfl) (fun _ _ _ h => h) (Or.inl ⟨by rfl, ?y30⟩) (by assumption) ?r30
          case y30 => (intro w hSw; (try dsimp only at hSw); go_simp; (first | done | with_reducible rfl))
          try simp only [Act.put, List.setIfInBounds_toArray, List.set_cons_zero, List.set_cons_succ]
          refine take1 (i := 24) (v := ?v31) (some 6) rfl rfl (by kernel_rfl) (by kernel_rfl) (by kernel_rfl) (fun _ _ _ h => h) (Or.inl ⟨by rfl, ?y31⟩) (by assumption) ?r31
          case y31 => (intro w hSw; (try dsimp only at hSw); go_simp; (first | done | with_reducible rfl))
          try simp only [Act.put, List.setIfInBounds_toArray, List.set_cons_zero, List.set_cons_succ]
          refine wpAnyH_done (by kernel_rfl) ?_ _
          obtain ⟨c3, f3⟩ := cell1 hq1
          clear hq1 hx1
          go_wp2_with fail
          exact bodyPost_ret (v := .tuple #[.slice qa us.length qc, .agg #[.slice xa xs.length xc], .slice qa2 us2.length qc2, .int .i64 z6, .int .i64 z7]) (by simp [results, Tryd.results14, go_sem, c3]) rfl ⟨⟨_, _, _, us, us2, xs, z6, z7, rfl, ⟨own_mono HP1.out (by have := HS1.out; omega), own_mono HP2.out (by have := HS1.out; have := HS2.out; omega), own_mono HP3.out (by have := HWS.out; omega)⟩, HL.out, HL2.out, HZB6.out, HZB7.out⟩, HB4.out⟩
      · go_simp
        obtain ⟨wk, hwk⟩ : ∃ u, wn.alloc (.cells #[.int .i64 1, .int .i64 2, .int .i64 5000, .int .i64 10000, .int .i64 0, .int .i64 10001] 3) = u := ⟨_, rfl⟩
        have hal : wn.grownBy wk none := hwk ▸ grown_alloc wn (.cells #[.int .i64 1, .int .i64 2, .int .i64 5000, .int .i64 10000, .int .i64 0, .int .i64 10001] 3) none
        have hla : wk.heap[wn.heap.size]? = some (.cells #[.int .i64 1, .int .i64 2, .int .i64 5000, .int .i64 10000, .int .i64 0, .int .i64 10001] 3 (0, 0)) := hwk ▸ alloc_at rfl
        have HNB : Hid (wn.heap.size ≠ Wb.heap.size) := Lib.hid (by have := HG.out.size; have := HWS.out; omega)
        rw [hwk]
        clear hwk
        replace HC := Lib.hid (HC.out.old hal)
        have hg := grown_any (r := some Wb.heap.size) hal
        have HLB := Lib.hid hla
        try replace HU := Lib.hid (own_grown HU.out hg (by have := HWS.out; omega))
        try replace HLA := Lib.hid ((hg.block _ (Array.getElem?_eq_some_iff.1 HLA.out).1 (by intro e; injection e with e; exact HNA.out e)).trans HLA.out)
        replace HG := Lib.hid (grown_trans HG.out hg)
        clear hal hla hg
        generalize wn.heap.size = LBB at HNB HLB ⊢
        rename World => wn
        refine hK.out _ _ ((HCL.out _ HG.out)) (fun hHeld => ?_)
        clear hK K
        try simp only [Act.put, List.setIfInBounds_toArray, List.set_cons_zero, List.set_cons_succ]
        refine wpAnyH_ready (rs := [7]) (by kernel_rfl) (by simp) ?_
        refine AllReadyH.cons rfl (fun K hK => ?_) AllReadyH.nil
        go_simp
        go_at_call 26
        refine (pick_any Wb.heap.size (.slice ad L.length cp) L (0 + 200 + 100 + 200) 24 wn (by omega) (by omega) (by omega) HC.out (HRX.out _ HG.out)).mono ?_
        rintro e wn ⟨⟨r6, rfl, r0, r1⟩, hc, hg⟩
        replace HC := Lib.hid hc
        try replace HU := Lib.hid (own_grown HU.out hg (by have := HWS.out; omega))
        try replace HLA := Lib.hid ((hg.block _ (Array.getElem?_eq_some_iff.1 HLA.out).1 (by intro e; injection e with e; exact HNA.out e)).trans HLA.out)
        try replace HLB := Lib.hid ((hg.block _ (Array.getElem?_eq_some_iff.1 HLB.out).1 (by intro e; injection e with e; exact HNB.out e)).trans HLB.out)
        replace HG := Lib.hid (grown_trans HG.out hg)
        clear hc hg
        obtain ⟨m6, hm, hm64, hc6⟩ : ∃ m : Nat, 4 + r6.tdiv 11 = (m : Int) ∧ 4 ≤ m ∧ m ≤ 6 := by
          rw [Int.tdiv_eq_ediv_of_nonneg r0]
          exact ⟨(4 + r6 / 11).toNat, by omega, by omega, by omega⟩
        have hq6 : IntKind.i64.wrap (4 + r6.tdiv 11) = (m6 : Int) := by rw [hm, IntKind.wrap_i64]; omega
        have hp6 : IntKind.i64.wrap (r6.tdiv 11) = r6.tdiv 11 := by rw [IntKind.wrap_i64]; omega
        have hb6 : (0 : Int) ≤ (m6 : Int) ∧ (m6 : Int) ≤ 6 := by omega
        have hbb6 : (m6 : Int) ≤ 6 := by omega
        have hbc6 : (0 : Int) ≤ (m6 : Int) := by omega
        clear hm r0 r1
        refine hK.out _ _ ((HCL.out _ HG.out)) (fun hHeld => ?_)
        clear hK K
        try simp only [Act.put, List.setIfInBounds_toArray, List.set_cons_zero, List.set_cons_succ]
        refine take1 (i := 8) (v := ?v32) (some 26) rfl rfl (by kernel_rfl) (by kernel_rfl) (by kernel_rfl) (fun _ _ _ h => h) (Or.inl ⟨by rfl, ?y32⟩) (by assumption) ?r32
        case y32 => (intro w hSw; (try dsimp only at hSw); go_simp; (first | done | with_reducible rfl))
        try simp only [Act.put, List.setIfInBounds_toArray, List.set_cons_zero, List.set_cons_succ]
        refine take1 (i := 9) (v := ?v33) (some 27) rfl rfl (by kernel_rfl) (by kernel_rfl) (by kernel_rfl) (fun _ _ _ h => h) (Or.inl ⟨by rfl, ?y33⟩) (by assumption) ?r33
        case y33 => (intro w hSw; (try dsimp only at hSw); go_simp; (first | done | with_reducible rfl))
        try simp only [Act.put, List.setIfInBounds_toArray, List.set_cons_zero, List.set_cons_succ]
        refine take1 (i := 10) (v := ?v34) (some 28) rfl rfl (by kernel_rfl) (by kernel_rfl) (by kernel_rfl) (fun _ _ _ h => h) (Or.inl ⟨by rfl, ?y34⟩) (by assumption) ?r34
        case y34 => (intro w hSw; (try dsimp only at hSw); go_simp; (first | done | with_reducible rfl))
        try simp only [Act.put, List.setIfInBounds_toArray, List.set_cons_zero, List.set_cons_succ]
        refine wpAnyH_ready (rs := [11]) (by kernel_rfl) (by simp) ?_
        refine AllReadyH.cons rfl (fun K hK => ?_) AllReadyH.nil
        go_simp
        go_at_call 25
        have hs7 := slr_head (xs := [1, 3, 127, 10000, 0, 10001].map (Value.int .i64)) HLA.out (m6) (by show m6 ≤ 6; omega) (by show 6 ≤ maxLen; unfold maxLen; omega)
        rw [← List.map_take] at hs7
        refine (among_any Wb.heap.size (.slice ad L.length cp) L (0 + 200 + 100 + 200 + 2) _ ([1, 3, 127, 10000, 0, 10001].take (m6)) wn (by omega) (by rw [List.length_take]; show 1 ≤ min (m6) 6 ∧ min (m6) 6 ≤ 100; omega) hs7 (fun a m c e => by cases e; exact HNA.out) HC.out (HRX.out _ HG.out)).mono ?_
        rintro e wn ⟨⟨z6, rfl, hz⟩, hc, hg⟩
        have HZB6 : Hid (0 ≤ z6 ∧ z6 ≤ 10001) := Lib.hid (by have := List.mem_of_mem_take hz; simp only [List.mem_cons, List.not_mem_nil, or_false] at this; omega)
        replace HC := Lib.hid hc
        try replace HU := Lib.hid (own_grown HU.out hg (by have := HWS.out; omega))
        try replace HLA := Lib.hid ((hg.block _ (Array.getElem?_eq_some_iff.1 HLA.out).1 (by intro e; injection e with e; exact HNA.out e)).trans HLA.out)
        try replace HLB := Lib.hid ((hg.block _ (Array.getElem?_eq_some_iff.1 HLB.out).1 (by intro e; injection e with e; exact HNB.out e)).trans HLB.out)
        replace HG := Lib.hid (grown_trans HG.out hg)
        clear hc hg hz hs7 hq6 hp6 hb6 hbb6 hbc6
        refine hK.out _ _ ((HCL.out _ HG.out)) (fun hHeld => ?_)
        clear hK K
        try simp only [Act.put, List.setIfInBounds_toArray, List.set_cons_zero, List.set_cons_succ]
        refine wpAnyH_ready (rs := [15]) (by kernel_rfl) (by simp) ?_
        refine AllReadyH.cons rfl (fun K hK => ?_) AllReadyH.nil
        go_simp
        go_at_call 26
        refine (pick_any Wb.heap.size (.slice ad L.length cp) L (0 + 200 + 100 + 200 + 2 + 2) 24 wn (by omega) (by omega) (by omega) HC.out (HRX.out _ HG.out)).mono ?_
        rintro e wn ⟨⟨r7, rfl, r0, r1⟩, hc, hg⟩
        replace HC := Lib.hid hc
        try replace HU := Lib.hid (own_grown HU.out hg (by have := HWS.out; omega))
        try replace HLA := Lib.hid ((hg.block _ (Array.getElem?_eq_some_iff.1 HLA.out).1 (by intro e; injection e with e; exact HNA.out e)).trans HLA.out)
        try replace HLB := Lib.hid ((hg.block _ (Array.getElem?_eq_some_iff.1 HLB.out).1 (by intro e; injection e with e; exact HNB.out e)).trans HLB.out)
        replace HG := Lib.hid (grown_trans HG.out hg)
        clear hc hg
        obtain ⟨m7, hm, hm74, hc7⟩ : ∃ m : Nat, 4 + r7.tdiv 11 = (m : Int) ∧ 4 ≤ m ∧ m ≤ 6 := by
          rw [Int.tdiv_eq_ediv_of_nonneg r0]
          exact ⟨(4 + r7 / 11).toNat, by omega, by omega, by omega⟩
        have hq7 : IntKind.i64.wrap (4 + r7.tdiv 11) = (m7 : Int) := by rw [hm, IntKind.wrap_i64]; omega
        have hp7 : IntKind.i64.wrap (r7.tdiv 11) = r7.tdiv 11 := by rw [IntKind.wrap_i64]; omega
        have hb7 : (0 : Int) ≤ (m7 : Int) ∧ (m7 : Int) ≤ 6 := by omega
        have hbb7 : (m7 : Int) ≤ 6 := by omega
        have hbc7 : (0 : Int) ≤ (m7 : Int) := by omega
        clear hm r0 r1
        refine hK.out _ _ ((HCL.out _ HG.out)) (fun hHeld => ?_)
        clear hK K
        try simp only [Act.put, List.setIfInBounds_toArray, List.set_cons_zero, List.set_cons_succ]
        refine take1 (i := 16) (v := ?v35) (some 34) rfl rfl (by kernel_rfl) (by kernel_rfl) (by kernel_rfl) (fun _ _ _ h => h) (Or.inl ⟨by rfl, ?y35⟩) (by assumption) ?r35
        case y35 => (intro w hSw; (try dsimp only at hSw); go_simp; (first | done | with_reducible rfl))
        try simp only [Act.put, List.setIfInBounds_toArray, List.set_cons_zero, List.set_cons_succ]
        refine take1 (i := 17) (v := ?v36) (some 35) rfl rfl (by kernel_rfl) (by kernel_rfl) (by kernel_rfl) (fun _ _ _ h => h) (Or.inl ⟨by rfl, ?y36⟩) (by assumption) ?r36
        case y36 => (intro w hSw; (try dsimp only at hSw); go_simp; (first | done | with_reducible rfl))
        try simp only [Act.put, List.setIfInBounds_toArray, List.set_cons_zero, List.set_cons_succ]
        refine take1 (i := 18) (v := ?v37) (some 36) rfl rfl (by kernel_rfl) (by kernel_rfl) (by kernel_rfl) (fun _ _ _ h => h) (Or.inl ⟨by rfl, ?y37⟩) (by assumption) ?r37
        case y37 => (intro w hSw; (try dsimp only at hSw); go_simp; (first | done | with_reducible rfl))
        try simp only [Act.put, List.setIfInBounds_toArray, List.set_cons_zero, List.set_cons_succ]
        refine wpAnyH_ready (rs := [19]) (by kernel_rfl) (by simp) ?_
        refine AllReadyH.cons rfl (fun K hK => ?_) AllReadyH.nil
        go_simp
        go_at_call 25
        have hs7 := slr_head (xs := [1, 2, 5000, 10000, 0, 10001].map (Value.int .i64)) HLB.out (m7) (by show m7 ≤ 6; omega) (by show 6 ≤ maxLen; unfold maxLen; omega)
        rw [← List.map_take] at hs7
        refine (among_any Wb.heap.size (.slice ad L.length cp) L (0 + 200 + 100 + 200 + 2 + 2 + 2) _ ([1, 2, 5000, 10000, 0, 10001].take (m7)) wn (by omega) (by rw [List.length_take]; show 1 ≤ min (m7) 6 ∧ min (m7) 6 ≤ 100; omega) hs7 (fun a m c e => by cases e; exact HNB.out) HC.out (HRX.out _ HG.out)).mono ?_
        rintro e wn ⟨⟨z7, rfl, hz⟩, hc, hg⟩
        have HZB7 : Hid (0 ≤ z7 ∧ z7 ≤ 10001) := Lib.hid (by have := List.mem_of_mem_take hz; simp only [List.mem_cons, List.not_mem_nil, or_false] at this; omega)
        replace HC := Lib.hid hc
        try replace HU := Lib.hid (own_grown HU.out hg (by have := HWS.out; omega))
        try replace HLA := Lib.hid ((hg.block _ (Array.getElem?_eq_some_iff.1 HLA.out).1 (by intro e; injection e with e; exact HNA.out e)).trans HLA.out)
        try replace HLB := Lib.hid ((hg.block _ (Array.getElem?_eq_some_iff.1 HLB.out).1 (by intro e; injection e with e; exact HNB.out e)).trans HLB.out)
        replace HG := Lib.hid (grown_trans HG.out hg)
        clear hc hg hz hs7 hq7 hp7 hb7 hbb7 hbc7
        refine hK.out _ _ ((HCL.out _ HG.out)) (fun hHeld => ?_)
        clear hK K
        try simp only [Act.put, List.setIfInBounds_toArray, List.set_cons_zero, List.set_cons_succ]
        refine take1 (i := 20) (v := ?v38) (some 2) rfl rfl (by kernel_rfl) (by kernel_rfl) (by kernel_rfl) (fun _ _ _ h => h) (Or.inl ⟨by rfl, ?y38⟩) (by assumption) ?r38
        case y38 => (intro w hSw; (try dsimp only at hSw); go_simp; (first | done | with_reducible rfl))
        try simp only [Act.put, List.setIfInBounds_toArray, List.set_cons_zero, List.set_cons_succ]
        refine wpAnyH_ready (rs := [21]) (by kernel_rfl) (by simp) ?_
        refine AllReadyH.cons rfl (fun K hK => ?_) AllReadyH.nil
        have hz := (HG.out.block w.heap.size (by have := HWS.out; omega) (by intro e; have := HSB.out; injection e with e; omega)).trans HZW.out
        have hl1 := lt_of_block hz
        obtain ⟨c1, f1⟩ := cell1 hz
        have hq1 := box1_set hz (.slice xa xs.length xc)
        have hx1 := (heap_setCell_other wn ⟨w.heap.size, 0, none⟩ BX (.slice xa xs.length xc) (by show BX ≠ w.heap.size; have := HBX.out; omega)).trans ((HG.out.block BX (by have := HBX.out; omega) (by intro e; have := HBX.out; have := HSB.out; injection e with e; omega)).trans HKX.out)
        have HP1 := Lib.hid (ownsRow_setCell_below (own_grown HRu.out HG.out (by have := HS1.out; have := HSB.out; omega)) (a := ⟨w.heap.size, 0, none⟩) (by show w.heap.size < W1.heap.size; have := HS1.out; omega) (.slice xa xs.length xc))
        have HP2 := Lib.hid (ownsRow_setCell_below (own_grown HRx.out HG.out (by have := HS1.out; have := HSB.out; have := HS2.out; omega)) (a := ⟨w.heap.size, 0, none⟩) (by show w.heap.size < w2.heap.size; have := HS1.out; have := HS2.out; omega) (.slice xa xs.length xc))
        have HP3 := Lib.hid (ownsRow_setCell_below HU.out (a := ⟨w.heap.size, 0, none⟩) (by show w.heap.size < W.heap.size; have := HWS.out; omega) (.slice xa xs.length xc))
        have HB4 := Lib.hid ((HBW.out.grown HG.out HBW.out.size (fun k e => by cases e; have := HSB.out; omega)).setCell (p := ⟨w.heap.size, 0, none⟩) (Nat.le_refl _) (.slice xa xs.length xc))
        go_simp
        clear c1 f1 hl1 hz
        generalize wn.setCell ⟨w.heap.size, 0, none⟩ (.slice xa xs.length xc) = wz at hq1 hx1 HP1 HP2 HP3 HB4 ⊢
        refine hK.out _ _ ((cell1 hx1).1) (fun hHeld => ?_)
        clear hK K
        try simp only [Act.put]
        refine take1 (i := 22) (v := ?v39) (some 4) rfl rfl (by kernel_rfl) (by kernel_rfl) (by kernel_rfl) (fun _ _ _ h => h) (Or.inl ⟨by rfl, ?y39⟩) (by assumption) ?r39
        case y39 => (intro w hSw; (try dsimp only at hSw); go_simp; (first | done | with_reducible rfl))
        try simp only [Act.put, List.setIfInBounds_toArray, List.set_cons_zero, List.set_cons_succ]
        refine take1 (i := 23) (v := ?v40) (some 5) rfl rfl (by kernel_rfl) (by kernel_rfl) (by kernel_rfl) (fun _ _ _ h => h) (Or.inl ⟨by rfl, ?y40⟩) (by assumption) ?r40
        case y40 => (intro w hSw; (try dsimp only at hSw); go_simp; (first | done | with_reducible rfl))
        try simp only [Act.put, List.setIfInBounds_toArray, List.set_cons_zero, List.set_cons_succ]
        refine take1 (i := 24) (v := ?v41) (some 6) rfl rfl (by kernel_rfl) (by kernel_rfl) (by kernel_rfl) (fun _ _ _ h => h) (Or.inl ⟨by rfl, ?y41⟩) (by assumption) ?r41
        case y41 => (intro w hSw; (try dsimp only at hSw); go_simp; (first | done | with_reducible rfl))
        try simp only [Act.put, List.setIfInBounds_toArray, List.set_cons_zero, List.set_cons_succ]
        refine wpAnyH_done (by kernel_rfl) ?_ _
        obtain ⟨c3, f3⟩ := cell1 hq1
        clear hq1 hx1
        go_wp2_with fail
        exact bodyPost_ret (v := .tuple #[.slice qa us.length qc, .agg #[.slice xa xs.length xc], .slice qa2 us2.length qc2, .int .i64 z6, .int .i64 z7]) (by simp [results, Tryd.results14, go_sem, c3]) rfl ⟨⟨_, _, _, us, us2, xs, z6, z7, rfl, ⟨own_mono HP1.out (by have := HS1.out; omega), own_mono HP2.out (by have := HS1.out; have := HS2.out; omega), own_mono HP3.out (by have := HWS.out; omega)⟩, HL.out, HL2.out, HZB6.out, HZB7.out⟩, HB4.out⟩
    · go_simp
      go_at_call 26
      refine (pick_any Wb.heap.size (.slice ad L.length cp) L (0 + 200 + 100 + 200) 24 wn (by omega) (by omega) (by omega) HC.out (HRX.out _ HG.out)).mono ?_
      rintro e wn ⟨⟨r6, rfl, r0, r1⟩, hc, hg⟩
      replace HC := Lib.hid hc
      try replace HU := Lib.hid (own_grown HU.out hg (by have := HWS.out; omega))
      try replace HLA := Lib.hid ((hg.block _ (Array.getElem?_eq_some_iff.1 HLA.out).1 (by intro e; injection e with e; exact HNA.out e)).trans HLA.out)
      try replace HLB := Lib.hid ((hg.block _ (Array.getElem?_eq_some_iff.1 HLB.out).1 (by intro e; injection e with e; exact HNB.out e)).trans HLB.out)
      replace HG := Lib.hid (grown_trans HG.out hg)
      clear hc hg
      obtain ⟨m6, hm, hm64, hc6⟩ : ∃ m : Nat, 4 + r6.tdiv 11 = (m : Int) ∧ 4 ≤ m ∧ m ≤ 6 := by
        rw [Int.tdiv_eq_ediv_of_nonneg r0]
        exact ⟨(4 + r6 / 11).toNat, by omega, by omega, by omega⟩
      have hq6 : IntKind.i64.wrap (4 + r6.tdiv 11) = (m6 : Int) := by rw [hm, IntKind.wrap_i64]; omega
      have hp6 : IntKind.i64.wrap (r6.tdiv 11) = r6.tdiv 11 := by rw [IntKind.wrap_i64]; omega
      have hb6 : (0 : Int) ≤ (m6 : Int) ∧ (m6 : Int) ≤ 6 := by omega
      have hbb6 : (m6 : Int) ≤ 6 := by omega
      have hbc6 : (0 : Int) ≤ (m6 : Int) := by omega
      clear hm r0 r1
      refine hK.out _ _ ((HCL.out _ HG.out)) (fun hHeld => ?_)
      clear hK K
      try simp only [Act.put, List.setIfInBounds_toArray, List.set_cons_zero, List.set_cons_succ]
      refine take1 (i := 8) (v := ?v42) (some 26) rfl rfl (by kernel_rfl) (by kernel_rfl) (by kernel_rfl) (fun _ _ _ h => h) (Or.inl ⟨by rfl, ?y42⟩) (by assumption) ?r42
      case y42 => (intro w hSw; (try dsimp only at hSw); go_simp; (first | done | with_reducible rfl))
      try simp only [Act.put, List.setIfInBounds_toArray, List.set_cons_zero, List.set_cons_succ]
      refine take1 (i := 9) (v := ?v43) (some 27) rfl rfl (by kernel_rfl) (by kernel_rfl) (by kernel_rfl) (fun _ _ _ h => h) (Or.inl ⟨by rfl, ?y43⟩) (by assumption) ?r43
      case y43 => (intro w hSw; (try dsimp only at hSw); go_simp; (first | done | with_reducible rfl))
      try simp only [Act.put, List.setIfInBounds_toArray, List.set_cons_zero, List.set_cons_succ]
      refine wpAnyH_ready (rs := [5, 13]) (by kernel_rfl) (by simp) ?_
      refine AllReadyH.cons rfl (fun K hK => ?_) (AllReadyH.cons rfl (fun K hK => ?_) AllReadyH.nil)
      · go_simp
        obtain ⟨wk, hwk⟩ : ∃ u, wn.alloc (.cells #[.int .i64 1, .int .i64 3, .int .i64 127, .int .i64 10000, .int .i64 0, .int .i64 10001] 3) = u := ⟨_, rfl⟩
        have hal : wn.grownBy wk none := hwk ▸ grown_alloc wn (.cells #[.int .i64 1, .int .i64 3, .int .i64 127, .int .i64 10000, .int .i64 0, .int .i64 10001] 3) none
        have hla : wk.heap[wn.heap.size]? = some (.cells #[.int .i64 1, .int .i64 3, .int .i64 127, .int .i64 10000, .int .i64 0, .int .i64 10001] 3 (0, 0)) := hwk ▸ alloc_at rfl
        have HNA : Hid (wn.heap.size ≠ Wb.heap.size) := Lib.hid (by have := HG.out.size; have := HWS.out; omega)
        rw [hwk]
        clear hwk
        replace HC := Lib.hid (HC.out.old hal)
        have hg := grown_any (r := some Wb.heap.size) hal
        have HLA := Lib.hid hla
        try replace HU := Lib.hid (own_grown HU.out hg (by have := HWS.out; omega))
        try replace HLB := Lib.hid ((hg.block _ (Array.getElem?_eq_some_iff.1 HLB.out).1 (by intro e; injection e with e; exact HNB.out e)).trans HLB.out)
        replace HG := Lib.hid (grown_trans HG.out hg)
        clear hal hla hg
        generalize wn.heap.size = LBA at HNA HLA ⊢
        rename World => wn
        refine hK.out _ _ ((HCL.out _ HG.out)) (fun hHeld => ?_)
        clear hK K
        try simp only [Act.put, List.setIfInBounds_toArray, List.set_cons_zero, List.set_cons_succ]
        refine take1 (i := 10) (v := ?v44) (some 28) rfl rfl (by kernel_rfl) (by kernel_rfl) (by kernel_rfl) (fun _ _ _ h => h) (Or.inl ⟨by rfl, ?y44⟩) (by assumption) ?r44
        case y44 => (intro w hSw; (try dsimp only at hSw); go_simp; (first | done | with_reducible rfl))
        try simp only [Act.put, List.setIfInBounds_toArray, List.set_cons_zero, List.set_cons_succ]
        refine wpAnyH_ready (rs := [11, 13]) (by kernel_rfl) (by simp) ?_
        refine AllReadyH.cons rfl (fun K hK => ?_) (AllReadyH.cons rfl (fun K hK => ?_) AllReadyH.nil)
        · go_simp
          go_at_call 25
          have hs7 := slr_head (xs := [1, 3, 127, 10000, 0, 10001].map (Value.int .i64)) HLA.out (m6) (by show m6 ≤ 6; omega) (by show 6 ≤ maxLen; unfold maxLen; omega)
          rw [← List.map_take] at hs7
          refine (among_any Wb.heap.size (.slice ad L.length cp) L (0 + 200 + 100 + 200 + 2) _ ([1, 3, 127, 10000, 0, 10001].take (m6)) wn (by omega) (by rw [List.length_take]; show 1 ≤ min (m6) 6 ∧ min (m6) 6 ≤ 100; omega) hs7 (fun a m c e => by cases e; exact HNA.out) HC.out (HRX.out _ HG.out)).mono ?_
          rintro e wn ⟨⟨z6, rfl, hz⟩, hc, hg⟩
          have HZB6 : Hid (0 ≤ z6 ∧ z6 ≤ 10001) := Lib.hid (by have := List.mem_of_mem_take hz; simp only [List.mem_cons, List.not_mem_nil, or_false] at this; omega)
          replace HC := Lib.hid hc
          try replace HU := Lib.hid (own_grown HU.out hg (by have := HWS.out; omega))
          try replace HLA := Lib.hid ((hg.block _ (Array.getElem?_eq_some_iff.1 HLA.out).1 (by intro e; injection e with e; exact HNA.out e)).trans HLA.out)
          try replace HLB := Lib.hid ((hg.block _ (Array.getElem?_eq_some_iff.1 HLB.out).1 (by intro e; injection e with e; exact HNB.out e)).trans HLB.out)
          replace HG := Lib.hid (grown_trans HG.out hg)
          clear hc hg hz hs7 hq6 hp6 hb6 hbb6 hbc6
          refine hK.out _ _ ((HCL.out _ HG.out)) (fun hHeld => ?_)
          clear hK K
          try simp only [Act.put, List.setIfInBounds_toArray, List.set_cons_zero, List.set_cons_succ]
          refine wpAnyH_ready (rs := [13, 15]) (by kernel_rfl) (by simp) ?_
          refine AllReadyH.cons rfl (fun K hK => ?_) (AllReadyH.cons rfl (fun K hK => ?_) AllReadyH.nil)
          · go_simp
            obtain ⟨wk, hwk⟩ : ∃ u, wn.alloc (.cells #[.int .i64 1, .int .i64 2, .int .i64 5000, .int .i64 10000, .int .i64 0, .int .i64 10001] 3) = u := ⟨_, rfl⟩
            have hal : wn.grownBy wk none := hwk ▸ grown_alloc wn (.cells #[.int .i64 1, .int .i64 2, .int .i64 5000, .int .i64 10000, .int .i64 0, .int .i64 10001] 3) none
            have hla : wk.heap[wn.heap.size]? = some (.cells #[.int .i64 1, .int .i64 2, .int .i64 5000, .int .i64 10000, .int .i64 0, .int .i64 10001] 3 (0, 0)) := hwk ▸ alloc_at rfl
            have HNB : Hid (wn.heap.size ≠ Wb.heap.size) := Lib.hid (by have := HG.out.size; have := HWS.out; omega)
            rw [hwk]
            clear hwk
            replace HC := Lib.hid (HC.out.old hal)
            have hg := grown_any (r := some Wb.heap.size) hal
            have HLB := Lib.hid hla
            try replace HU := Lib.hid (own_grown HU.out hg (by have := HWS.out; omega))
            try replace HLA := Lib.hid ((hg.block _ (Array.getElem?_eq_some_iff.1 HLA.out).1 (by intro e; injection e with e; exact HNA.out e)).trans HLA.out)
            replace HG := Lib.hid (grown_trans HG.out hg)
            clear hal hla hg
            generalize wn.heap.size = LBB at HNB HLB ⊢
            rename World => wn
            refine hK.out _ _ ((HCL.out _ HG.out)) (fun hHeld => ?_)
            clear hK K
            try simp only [Act.put, List.setIfInBounds_toArray, List.set_cons_zero, List.set_cons_succ]
            refine wpAnyH_ready (rs := [15]) (by kernel_rfl) (by simp) ?_
            refine AllReadyH.cons rfl (fun K hK => ?_) AllReadyH.nil
            go_simp
            go_at_call 26
            refine (pick_any Wb.heap.size (.slice ad L.length cp) L (0 + 200 + 100 + 200 + 2 + 2) 24 wn (by omega) (by omega) (by omega) HC.out (HRX.out _ HG.out)).mono ?_
            rintro e wn ⟨⟨r7, rfl, r0, r1⟩, hc, hg⟩
            replace HC := Lib.hid hc
            try replace HU := Lib.hid (own_grown HU.out hg (by have := HWS.out; omega))
            try replace HLA := Lib.hid ((hg.block _ (Array.getElem?_eq_some_iff.1 HLA.out).1 (by intro e; injection e with e; exact HNA.out e)).trans HLA.out)
            try replace HLB := Lib.hid ((hg.block _ (Array.getElem?_eq_some_iff.1 HLB.out).1 (by intro e; injection e with e; exact HNB.out e)).trans HLB.out)
            replace HG := Lib.hid (grown_trans HG.out hg)
            clear hc hg
            obtain ⟨m7, hm, hm74, hc7⟩ : ∃ m : Nat, 4 + r7.tdiv 11 = (m : Int) ∧ 4 ≤ m ∧ m ≤ 6 := by
              rw [Int.tdiv_eq_ediv_of_nonneg r0]
              exact ⟨(4 + r7 / 11).toNat, by omega, by omega, by omega⟩
            have hq7 : IntKind.i64.wrap (4 + r7.tdiv 11) = (m7 : Int) := by rw [hm, IntKind.wrap_i64]; omega
            have hp7 : IntKind.i64.wrap (r7.tdiv 11) = r7.tdiv 11 := by rw [IntKind.wrap_i64]; omega
            have hb7 : (0 : Int) ≤ (m7 : Int) ∧ (m7 : Int) ≤ 6 := by omega
            have hbb7 : (m7 : Int) ≤ 6 := by omega
            have hbc7 : (0 : Int) ≤ (m7 : Int) := by omega
            clear hm r0 r1
            refine hK.out _ _ ((HCL.out _ HG.out)) (fun hHeld => ?_)
            clear hK K
            try simp only [Act.put, List.setIfInBounds_toArray, List.set_cons_zero, List.set_cons_succ]
            refine take1 (i := 16) (v := ?v45) (some 34) rfl rfl (by kernel_rfl) (by kernel_rfl) (by kernel_rfl) (fun _ _ _ h => h) (Or.inl ⟨by rfl, ?y45⟩) (by assumption) ?r45
            case y45 => (intro w hSw; (try dsimp only at hSw); go_simp; (first | done | with_reducible rfl))
            try simp only [Act.put, List.setIfInBounds_toArray, List.set_cons_zero, List.set_cons_succ]
            refine take1 (i := 17) (v := ?v46) (some 35) rfl rfl (by kernel_rfl) (by kernel_rfl) (by kernel_rfl) (fun _ _ _ h => h) (Or.inl ⟨by rfl, ?y46⟩) (by assumption) ?r46
            case y46 => (intro w hSw; (try dsimp only at hSw); go_simp; (first | done | with_reducible rfl))
            try simp only [Act.put, List.setIfInBounds_toArray, List.set_cons_zero, List.set_cons_succ]
            refine take1 (i := 18) (v := ?v47) (some 36) rfl rfl (by kernel_rfl) (by kernel_rfl) (by kernel_rfl) (fun _ _ _ h => h) (Or.inl ⟨by rfl, ?y47⟩) (by assumption) ?r47
            case y47 => (intro w hSw; (try dsimp only at hSw); go_simp; (first | done | with_reducible rfl))
            try simp only [Act.put, List.setIfInBounds_toArray, List.set_cons_zero, List.set_cons_succ]
            refine wpAnyH_ready (rs := [19]) (by kernel_rfl) (by simp) ?_
            refine AllReadyH.cons rfl (fun K hK => ?_) AllReadyH.nil
            go_simp
            go_at_call 25
            have hs7 := slr_head (xs := [1, 2, 5000, 10000, 0, 10001].map (Value.int .i64)) HLB.out (m7) (by show m7 ≤ 6; omega) (by show 6 ≤ maxLen; unfold maxLen; omega)
            rw [← List.map_take] at hs7
            refine (among_any Wb.heap.size (.slice ad L.length cp) L (0 + 200 + 100 + 200 + 2 + 2 + 2) _ ([1, 2, 5000, 10000, 0, 10001].take (m7)) wn (by omega) (by rw [List.length_take]; show 1 ≤ min (m7) 6 ∧ min (m7) 6 ≤ 100; omega) hs7 (fun a m c e => by cases e; exact HNB.out) HC.out (HRX.out _ HG.out)).mono ?_
            rintro e wn ⟨⟨z7, rfl, hz⟩, hc, hg⟩
            have HZB7 : Hid (0 ≤ z7 ∧ z7 ≤ 10001) := Lib.hid (by have := List.mem_of_mem_take hz; simp only [List.mem_cons, List.not_mem_nil, or_false] at this; omega)
            replace HC := Lib.hid hc
            try replace HU := Lib.hid (own_grown HU.out hg (by have := HWS.out; omega))
            try replace HLA := Lib.hid ((hg.block _ (Array.getElem?_eq_some_iff.1 HLA.out).1 (by intro e; injection e with e; exact HNA.out e)).trans HLA.out)
            try replace HLB := Lib.hid ((hg.block _ (Array.getElem?_eq_some_iff.1 HLB.out).1 (by intro e; injection e with e; exact HNB.out e)).trans HLB.out)
            replace HG := Lib.hid (grown_trans HG.out hg)
            clear hc hg hz hs7 hq7 hp7 hb7 hbb7 hbc7
            refine hK.out _ _ ((HCL.out _ HG.out)) (fun hHeld => ?_)
            clear hK K
            try simp only [Act.put, List.setIfInBounds_toArray, List.set_cons_zero, List.set_cons_succ]
            refine take1 (i := 20) (v := ?v48) (some 2) rfl rfl (by kernel_rfl) (by kernel_rfl) (by kernel_rfl) (fun _ _ _ h => h) (Or.inl ⟨by rfl, ?y48⟩) (by assumption) ?r48
            case y48 => (intro w hSw; (try dsimp only at hSw); go_simp; (first | done | with_reducible rfl))
            try simp only [Act.put, List.setIfInBounds_toArray, List.set_cons_zero, List.set_cons_succ]
            refine wpAnyH_ready (rs := [21]) (by kernel_rfl) (by simp) ?_
            refine AllReadyH.cons rfl (fun K hK => ?_) AllReadyH.nil
            have hz := (HG.out.block w.heap.size (by have := HWS.out; omega) (by intro e; have := HSB.out; injection e with e; omega)).trans HZW.out
            have hl1 := lt_of_block hz
            obtain ⟨c1, f1⟩ := cell1 hz
            have hq1 := box1_set hz (.slice xa xs.length xc)
            have hx1 := (heap_setCell_other wn ⟨w.heap.size, 0, none⟩ BX (.slice xa xs.length xc) (by show BX ≠ w.heap.size; have := HBX.out; omega)).trans ((HG.out.block BX (by have := HBX.out; omega) (by intro e; have := HBX.out; have := HSB.out; injection e with e; omega)).trans HKX.out)
            have HP1 := Lib.hid (ownsRow_setCell_below (own_grown HRu.out HG.out (by have := HS1.out; have := HSB.out; omega)) (a := ⟨w.heap.size, 0, none⟩) (by show w.heap.size < W1.heap.size; have := HS1.out; omega) (.slice xa xs.length xc))
            have HP2 := Lib.hid (ownsRow_setCell_below (own_grown HRx.out HG.out (by have := HS1.out; have := HSB.out; have := HS2.out; omega)) (a := ⟨w.heap.size, 0, none⟩) (by show w.heap.size < w2.heap.size; have := HS1.out; have := HS2.out; omega) (.slice xa xs.length xc))
            have HP3 := Lib.hid (ownsRow_setCell_below HU.out (a := ⟨w.heap.size, 0, none⟩) (by show w.heap.size < W.heap.size; have := HWS.out; omega) (.slice xa xs.length xc))
            have HB4 := Lib.hid ((HBW.out.grown HG.out HBW.out.size (fun k e => by cases e; have := HSB.out; omega)).setCell (p := ⟨w.heap.size, 0, none⟩) (Nat.le_refl _) (.slice xa xs.length xc))
            go_simp
            clear c1 f1 hl1 hz
            generalize wn.setCell ⟨w.heap.size, 0, none⟩ (.slice xa xs.length xc) = wz at hq1 hx1 HP1 HP2 HP3 HB4 ⊢
            refine hK.out _ _ ((cell1 hx1).1) (fun hHeld => ?_)
            clear hK K
            try simp only [Act.put]
            refine take1 (i := 22) (v := ?v49) (some 4) rfl rfl (by kernel_rfl) (by kernel_rfl) (by kernel_rfl) (fun _ _ _ h => h) (Or.inl ⟨by rfl, ?y49⟩) (by assumption) ?r49
            case y49 => (intro w hSw; (try dsimp only at hSw); go_simp; (first | done | with_reducible rfl))
            try simp only [Act.put, List.setIfInBounds_toArray, List.set_cons_zero, List.set_cons_succ]
            refine take1 (i := 23) (v := ?v50) (some 5) rfl rfl (by kernel_rfl) (by kernel_rfl) (by kernel_rfl) (fun _ _ _ h => h) (Or.inl ⟨by rfl, ?y50⟩) (by assumption) ?r50
            case y50 => (intro w hSw; (try dsimp only at hSw); go_simp; (first | done | with_reducible rfl))
            try simp only [Act.put, List.setIfInBounds_toArray, List.set_cons_zero, List.set_cons_succ]
            refine take1 (i := 24) (v := ?v51) (some 6) rfl rfl (by kernel_rfl) (by kernel_rfl) (by kernel_rfl) (fun _ _ _ h => h) (Or.inl ⟨by rfl, ?y51⟩) (by assumption) ?r51
            case y51 => (intro w hSw; (try dsimp only at hSw); go_simp; (first | done | with_reducible rfl))
            try simp only [Act.put, List.setIfInBounds_toArray, List.set_cons_zero, List.set_cons_succ]
            refine wpAnyH_done (by kernel_rfl) ?_ _
            obtain ⟨c3, f3⟩ := cell1 hq1
            clear hq1 hx1
            go_wp2_with fail
            exact bodyPost_ret (v := .tuple #[.slice qa us.length qc, .agg #[.slice xa xs.length xc], .slice qa2 us2.length qc2, .int .i64 z6, .int .i64 z7]) (by simp [results, Tryd.results14, go_sem, c3]) rfl ⟨⟨_, _, _, us, us2, xs, z6, z7, rfl, ⟨own_mono HP1.out (by have := HS1.out; omega), own_mono HP2.out (by have := HS1.out; have := HS2.out; omega), own_mono HP3.out (by have := HWS.out; omega)⟩, HL.out, HL2.out, HZB6.out, HZB7.out⟩, HB4.out⟩
          · go_simp
            go_at_call 26
            refine (pick_any Wb.heap.size (.slice ad L.length cp) L (0 + 200 + 100 + 200 + 2 + 2) 24 wn (by omega) (by omega) (by omega) HC.out (HRX.out _ HG.out)).mono ?_
            rintro e wn ⟨⟨r7, rfl, r0, r1⟩, hc, hg⟩
            replace HC := Lib.hid hc
            try replace HU := Lib.hid (own_grown HU.out hg (by have := HWS.out; omega))
            try replace HLA := Lib.hid ((hg.block _ (Array.getElem?_eq_some_iff.1 HLA.out).1 (by intro e; injection e with e; exact HNA.out e)).trans HLA.out)
            try replace HLB := Lib.hid ((hg.block _ (Array.getElem?_eq_some_iff.1 HLB.out).1 (by intro e; injection e with e; exact HNB.out e)).trans HLB.out)
            replace HG := Lib.hid (grown_trans HG.out hg)
            clear hc hg
            obtain ⟨m7, hm, hm74, hc7⟩ : ∃ m : Nat, 4 + r7.tdiv 11 = (m : Int) ∧ 4 ≤ m ∧ m ≤ 6 := by
              rw [Int.tdiv_eq_ediv_of_nonneg r0]
              exact ⟨(4 + r7 / 11).toNat, by omega, by omega, by omega⟩
            have hq7 : IntKind.i64.wrap (4 + r7.tdiv 11) = (m7 : Int) := by rw [hm, IntKind.wrap_i64]; omega
            have hp7 : IntKind.i64.wrap (r7.tdiv 11) = r7.tdiv 11 := by rw [IntKind.wrap_i64]; omega
            have hb7 : (0 : Int) ≤ (m7 : Int) ∧ (m7 : Int) ≤ 6 := by omega
            have hbb7 : (m7 : Int) ≤ 6 := by omega
            have hbc7 : (0 : Int) ≤ (m7 : Int) := by omega
            clear hm r0 r1
            refine hK.out _ _ ((HCL.out _ HG.out)) (fun hHeld => ?_)
            clear hK K
            try simp only [Act.put, List.setIfInBounds_toArray, List.set_cons_zero, List.set_cons_succ]
            refine take1 (i := 16) (v := ?v52) (some 34) rfl rfl (by kernel_rfl) (by kernel_rfl) (by kernel_rfl) (fun _ _ _ h => h) (Or.inl ⟨by rfl, ?y52⟩) (by assumption) ?r52
            case y52 => (intro w hSw; (try dsimp only at hSw); go_simp; (first | done | with_reducible rfl))
            try simp only [Act.put, List.setIfInBounds_toArray, List.set_cons_zero, List.set_cons_succ]
            refine take1 (i := 17) (v := ?v53) (some 35) rfl rfl (by kernel_rfl) (by kernel_rfl) (by kernel_rfl) (fun _ _ _ h => h) (Or.inl ⟨by rfl, ?y53⟩) (by assumption) ?r53
            case y53 => (intro w hSw; (try dsimp only at hSw); go_simp; (first | done | with_reducible rfl))
            try simp only [Act.put, List.setIfInBounds_toArray, List.set_cons_zero, List.set_cons_succ]
            refine wpAnyH_ready (rs := [13]) (by kernel_rfl) (by simp) ?_
            refine AllReadyH.cons rfl (fun K hK => ?_) AllReadyH.nil
            go_simp
            obtain ⟨wk, hwk⟩ : ∃ u, wn.alloc (.cells #[.int .i64 1, .int .i64 2, .int .i64 5000, .int .i64 10000, .int .i64 0, .int .i64 10001] 3) = u := ⟨_, rfl⟩
            have hal : wn.grownBy wk none := hwk ▸ grown_alloc wn (.cells #[.int .i64 1, .int .i64 2, .int .i64 5000, .int .i64 10000, .int .i64 0, .int .i64 10001] 3) none
            have hla : wk.heap[wn.heap.size]? = some (.cells #[.int .i64 1, .int .i64 2, .int .i64 5000, .int .i64 10000, .int .i64 0, .int .i64 10001] 3 (0, 0)) := hwk ▸ alloc_at rfl
            have HNB : Hid (wn.heap.size ≠ Wb.heap.size) := Lib.hid (by have := HG.out.size; have := HWS.out; omega)
            rw [hwk]
            clear hwk
            replace HC := Lib.hid (HC.out.old hal)
            have hg := grown_any (r := some Wb.heap.size) hal
            have HLB := Lib.hid hla
            try replace HU := Lib.hid (own_grown HU.out hg (by have := HWS.out; omega))
            try replace HLA := Lib.hid ((hg.block _ (Array.getElem?_eq_some_iff.1 HLA.out).1 (by intro e; injection e with e; exact HNA.out e)).trans HLA.out)
            replace HG := Lib.hid (grown_trans HG.out hg)
            clear hal hla hg
            generalize wn.heap.size = LBB at HNB HLB ⊢
            rename World => wn
            refine hK.out _ _ ((HCL.out _ HG.out)) (fun hHeld => ?_)
            clear hK K
            try simp only [Act.put, List.setIfInBounds_toArray, List.set_cons_zero, List.set_cons_succ]
            refine take1 (i := 18) (v := ?v54) (some 36) rfl rfl (by kernel_rfl) (by kernel_rfl) (by kernel_rfl) (fun _ _ _ h => h) (Or.inl ⟨by rfl, ?y54⟩) (by assumption) ?r54
            case y54 => (intro w hSw; (try dsimp only at hSw); go_simp; (first | done | with_reducible rfl))
            try simp only [Act.put, List.setIfInBounds_toArray, List.set_cons_zero, List.set_cons_succ]
            refine wpAnyH_ready (rs := [19]) (by kernel_rfl) (by simp) ?_
            refine AllReadyH.cons rfl (fun K hK => ?_) AllReadyH.nil
            go_simp
            go_at_call 25
            have hs7 := slr_head (xs := [1, 2, 5000, 10000, 0, 10001].map (Value.int .i64)) HLB.out (m7) (by show m7 ≤ 6; omega) (by show 6 ≤ maxLen; unfold maxLen; omega)
            rw [← List.map_take] at hs7
            refine (among_any Wb.heap.size (.slice ad L.length cp) L (0 + 200 + 100 + 200 + 2 + 2 + 2) _ ([1, 2, 5000, 10000, 0, 10001].take (m7)) wn (by omega) (by rw [List.length_take]; show 1 ≤ min (m7) 6 ∧ min (m7) 6 ≤ 100; omega) hs7 (fun a m c e => by cases e; exact HNB.out) HC.out (HRX.out _ HG.out)).mono ?_
            rintro e wn ⟨⟨z7, rfl, hz⟩, hc, hg⟩
            have HZB7 : Hid (0 ≤ z7 ∧ z7 ≤ 10001) := Lib.hid (by have := List.mem_of_mem_take hz; simp only [List.mem_cons, List.not_mem_nil, or_false] at this; omega)
            replace HC := Lib.hid hc
            try replace HU := Lib.hid (own_grown HU.out hg (by have := HWS.out; omega))
            try replace HLA := Lib.hid ((hg.block _ (Array.getElem?_eq_some_iff.1 HLA.out).1 (by intro e; injection e with e; exact HNA.out e)).trans HLA.out)
            try replace HLB := Lib.hid ((hg.block _ (Array.getElem?_eq_some_iff.1 HLB.out).1 (by intro e; injection e with e; exact HNB.out e)).trans HLB.out)
            replace HG := Lib.hid (grown_trans HG.out hg)
            clear hc hg hz hs7 hq7 hp7 hb7 hbb7 hbc7
            refine hK.out _ _ ((HCL.out _ HG.out)) (fun hHeld => ?_)
            clear hK K
            try simp only [Act.put, List.setIfInBounds_toArray, List.set_cons_zero, List.set_cons_succ]
            refine take1 (i := 20) (v := ?v55) (some 2) rfl rfl (by kernel_rfl) (by kernel_rfl) (by kernel_rfl) (fun _ _ _ h => h) (Or.inl ⟨by rfl, ?y55⟩) (by assumption) ?r55
            case y55 => (intro w hSw; (try dsimp only at hSw); go_simp; (first | done | with_reducible rfl))
            try simp only [Act.put, List.setIfInBounds_toArray, List.set_cons_zero, List.set_cons_succ]
            refine wpAnyH_ready (rs := [21]) (by kernel_rfl) (by simp) ?_
            refine AllReadyH.cons rfl (fun K hK => ?_) AllReadyH.nil
            have hz := (HG.out.block w.heap.size (by have := HWS.out; omega) (by intro e; have := HSB.out; injection e with e; omega)).trans HZW.out
            have hl1 := lt_of_block hz
            obtain ⟨c1, f1⟩ := cell1 hz
            have hq1 := box1_set hz (.slice xa xs.length xc)
            have hx1 := (heap_setCell_other wn ⟨w.heap.size, 0, none⟩ BX (.slice xa xs.length xc) (by show BX ≠ w.heap.size; have := HBX.out; omega)).trans ((HG.out.block BX (by have := HBX.out; omega) (by intro e; have := HBX.out; have := HSB.out; injection e with e; omega)).trans HKX.out)
            have HP1 := Lib.hid (ownsRow_setCell_below (own_grown HRu.out HG.out (by have := HS1.out; have := HSB.out; omega)) (a := ⟨w.heap.size, 0, none⟩) (by show w.heap.size < W1.heap.size; have := HS1.out; omega) (.slice xa xs.length xc))
            have HP2 := Lib.hid (ownsRow_setCell_below (own_grown HRx.out HG.out (by have := HS1.out; have := HSB.out; have := HS2.out; omega)) (a := ⟨w.heap.size, 0, none⟩) (by show w.heap.size < w2.heap.size; have := HS1.out; have := HS2.out; omega) (.slice xa xs.length xc))
            have HP3 := Lib.hid (ownsRow_setCell_below HU.out (a := ⟨w.heap.size, 0, none⟩) (by show w.heap.size < W.heap.size; have := HWS.out; omega) (.slice xa xs.length xc))
            have HB4 := Lib.hid ((HBW.out.grown HG.out HBW.out.size (fun k e => by cases e; have := HSB.out; omega)).setCell (p := ⟨w.heap.size, 0, none⟩) (Nat.le_refl _) (.slice xa xs.length xc))
            go_simp
            clear c1 f1 hl1 hz
            generalize wn.setCell ⟨w.heap.size, 0, none⟩ (.slice xa xs.length xc) = wz at hq1 hx1 HP1 HP2 HP3 HB4 ⊢
            refine hK.out _ _ ((cell1 hx1).1) (fun hHeld => ?_)
            clear hK K
            try simp only [Act.put]
            refine take1 (i := 22) (v := ?v56) (some 4) rfl rfl (by kernel_rfl) (by kernel_rfl) (by kernel_rfl) (fun _ _ _ h => h) (Or.inl ⟨by rfl, ?y56⟩) (by assumption) ?r56
            case y56 => (intro w hSw; (try dsimp only at hSw); go_simp; (first | done | with_reducible rfl))
            try simp only [Act.put, List.setIfInBounds_toArray, List.set_cons_zero, List.set_cons_succ]
            refine take1 (i := 23) (v := ?v57) (some 5) rfl rfl (by kernel_rfl) (by kernel_rfl) (by kernel_rfl) (fun _ _ _ h => h) (Or.inl ⟨by rfl, ?y57⟩) (by assumption) ?r57
            case y57 => (intro w hSw; (try dsimp only at hSw); go_simp; (first | done | with_reducible rfl))
            try simp only [Act.put, List.setIfInBounds_toArray, List.set_cons_zero, List.set_cons_succ]
            refine take1 (i := 24) (v := ?v58) (some 6) rfl rfl (by kernel_rfl) (by kernel_rfl) (by kernel_rfl) (fun _ _ _ h => h) (Or.inl ⟨by rfl, ?y58⟩) (by assumption) ?r58
            case y58 => (intro w hSw; (try dsimp only at hSw); go_simp; (first | done | with_reducible rfl))
            try simp only [Act.put, List.setIfInBounds_toArray, List.set_cons_zero, List.set_cons_succ]
            refine wpAnyH_done (by kernel_rfl) ?_ _
            obtain ⟨c3, f3⟩ := cell1 hq1
            clear hq1 hx1
            go_wp2_with fail
            exact bodyPost_ret (v := .tuple #[.slice qa us.length qc, .agg #[.slice xa xs.length xc], .slice qa2 us2.length qc2, .int .i64 z6, .int .i64 z7]) (by simp [results, Tryd.results14, go_sem, c3]) rfl ⟨⟨_, _, _, us, us2, xs, z6, z7, rfl, ⟨own_mono HP1.out (by have := HS1.out; omega), own_mono HP2.out (by have := HS1.out; have := HS2.out; omega), own_mono HP3.out (by have := HWS.out; omega)⟩, HL.out, HL2.out, HZB6.out, HZB7.out⟩, HB4.out⟩
        · go_simp
          obtain ⟨wk, hwk⟩ : ∃ u, wn.alloc (.cells #[.int .i64 1, .int .i64 2, .int .i64 5000, .int .i64 10000, .int .i64 0, .int .i64 10001] 3) = u := ⟨_, rfl⟩
          have hal : wn.grownBy wk none := hwk ▸ grown_alloc wn (.cells #[.int .i64 1, .int .i64 2, .int .i64 5000, .int .i64 10000, .int .i64 0, .int .i64 10001] 3) none
          have hla : wk.heap[wn.heap.size]? = some (.cells #[.int .i64 1, .int .i64 2, .int .i64 5000, .int .i64 10000, .int .i64 0, .int .i64 10001] 3 (0, 0)) := hwk ▸ alloc_at rfl
          have HNB : Hid (wn.heap.size ≠ Wb.heap.size) := Lib.hid (by have := HG.out.size; have := HWS.out; omega)
          rw [hwk]
          clear hwk
          replace HC := Lib.hid (HC.out.old hal)
          have hg := grown_any (r := some Wb.heap.size) hal
          have HLB := Lib.hid hla
          try replace HU := Lib.hid (own_grown HU.out hg (by have := HWS.out; omega))
          try replace HLA := Lib.hid ((hg.block _ (Array.getElem?_eq_some_iff.1 HLA.out).1 (by intro e; injection e with e; exact HNA.out e)).trans HLA.out)
          replace HG := Lib.hid (grown_trans HG.out hg)
          clear hal hla hg
          generalize wn.heap.size = LBB at HNB HLB ⊢
          rename World => wn
          refine hK.out _ _ ((HCL.out _ HG.out)) (fun hHeld => ?_)
          clear hK K
          try simp only [Act.put, List.setIfInBounds_toArray, List.set_cons_zero, List.set_cons_succ]
          refine wpAnyH_ready (rs := [11]) (by kernel_rfl) (by simp) ?_
          refine AllReadyH.cons rfl (fun K hK => ?_) AllReadyH.nil
          go_simp
          go_at_call 25
          have hs7 := slr_head (xs := [1, 3, 127, 10000, 0, 10001].map (Value.int .i64)) HLA.out (m6) (by show m6 ≤ 6; omega) (by show 6 ≤ maxLen; unfold maxLen; omega)
          rw [← List.map_take] at hs7
          refine (among_any Wb.heap.size (.slice ad L.length cp) L (0 + 200 + 100 + 200 + 2) _ ([1, 3, 127, 10000, 0, 10001].take (m6)) wn (by omega) (by rw [List.length_take]; show 1 ≤ min (m6) 6 ∧ min (m6) 6 ≤ 100; omega) hs7 (fun a m c e => by cases e; exact HNA.out) HC.out (HRX.out _ HG.out)).mono ?_
          rintro e wn ⟨⟨z6, rfl, hz⟩, hc, hg⟩
          have HZB6 : Hid (0 ≤ z6 ∧ z6 ≤ 10001) := Lib.hid (by have := List.mem_of_mem_take hz; simp only [List.mem_cons, List.not_mem_nil, or_false] at this; omega)
          replace HC := Lib.hid hc
          try replace HU := Lib.hid (own_grown HU.out hg (by have := HWS.out; omega))
          try replace HLA := Lib.hid ((hg.block _ (Array.getElem?_eq_some_iff.1 HLA.out).1 (by intro e; injection e with e; exact HNA.out e)).trans HLA.out)
          try replace HLB := Lib.hid ((hg.block _ (Array.getElem?_eq_some_iff.1 HLB.out).1 (by intro e; injection e with e; exact HNB.out e)).trans HLB.out)
          replace HG := Lib.hid (grown_trans HG.out hg)
          clear hc hg hz hs7 hq6 hp6 hb6 hbb6 hbc6
          refine hK.out _ _ ((HCL.out _ HG.out)) (fun hHeld => ?_)
          clear hK K
          try simp only [Act.put, List.setIfInBounds_toArray, List.set_cons_zero, List.set_cons_succ]
          refine wpAnyH_ready (rs := [15]) (by kernel_rfl) (by simp) ?_
          refine AllReadyH.cons rfl (fun K hK => ?_) AllReadyH.nil
          go_simp
          go_at_call 26
          refine (pick_any Wb.heap.size (.slice ad L.length cp) L (0 + 200 + 100 + 200 + 2 + 2) 24 wn (by omega) (by omega) (by omega) HC.out (HRX.out _ HG.out)).mono ?_
          rintro e wn ⟨⟨r7, rfl, r0, r1⟩, hc, hg⟩
          replace HC := Lib.hid hc
          try replace HU := Lib.hid (own_grown HU.out hg (by have := HWS.out; omega))
          try replace HLA := Lib.hid ((hg.block _ (Array.getElem?_eq_some_iff.1 HLA.out).1 (by intro e; injection e with e; exact HNA.out e)).trans HLA.out)
          try replace HLB := Lib.hid ((hg.block _ (Array.getElem?_eq_some_iff.1 HLB.out).1 (by intro e; injection e with e; exact HNB.out e)).trans HLB.out)
          replace HG := Lib.hid (grown_trans HG.out hg)
          clear hc hg
          obtain ⟨m7, hm, hm74, hc7⟩ : ∃ m : Nat, 4 + r7.tdiv 11 = (m : Int) ∧ 4 ≤ m ∧ m ≤ 6 := by
            rw [Int.tdiv_eq_ediv_of_nonneg r0]
            exact ⟨(4 + r7 / 11).toNat, by omega, by omega, by omega⟩
          have hq7 : IntKind.i64.wrap (4 + r7.tdiv 11) = (m7 : Int) := by rw [hm, IntKind.wrap_i64]; omega
          have hp7 : IntKind.i64.wrap (r7.tdiv 11) = r7.tdiv 11 := by rw [IntKind.wrap_i64]; omega
          have hb7 : (0 : Int) ≤ (m7 : Int) ∧ (m7 : Int) ≤ 6 := by omega
          have hbb7 : (m7 : Int) ≤ 6 := by omega
          have hbc7 : (0 : Int) ≤ (m7 : Int) := by omega
          clear hm r0 r1
          refine hK.out _ _ ((HCL.out _ HG.out)) (fun hHeld => ?_)
          clear hK K
          try simp only [Act.put, List.setIfInBounds_toArray, List.set_cons_zero, List.set_cons_succ]
          refine take1 (i := 16) (v := ?v59) (some 34) rfl rfl (by kernel_rfl) (by kernel_rfl) (by kernel_rfl) (fun _ _ _ h => h) (Or.inl ⟨by rfl, ?y59⟩) (by assumption) ?r59
          case y59 => (intro w hSw; (try dsimp only at hSw); go_simp; (first | done | with_reducible rfl))
          try simp only [Act.put, List.setIfInBounds_toArray, List.set_cons_zero, List.set_cons_succ]
          refine take1 (i := 17) (v := ?v60) (some 35) rfl rfl (by kernel_rfl) (by kernel_rfl) (by kernel_rfl) (fun _ _ _ h => h) (Or.inl ⟨by rfl, ?y60⟩) (by assumption) ?r60
          case y60 => (intro w hSw; (try dsimp only at hSw); go_simp; (first | done | with_reducible rfl))
          try simp only [Act.put, List.setIfInBounds_toArray, List.set_cons_zero, List.set_cons_succ]
          refine take1 (i := 18) (v := ?v61) (some 36) rfl rfl (by kernel_rfl) (by kernel_rfl) (by kernel_rfl) (fun _ _ _ h => h) (Or.inl ⟨by rfl, ?y61⟩) (by assumption) ?r61
          case y61 => (intro w hSw; (try dsimp only at hSw); go_simp; (first | done | with_reducible rfl))
          try simp only [Act.put, List.setIfInBounds_toArray, List.set_cons_zero, List.set_cons_succ]
          refine wpAnyH_ready (rs := [19]) (by kernel_rfl) (by simp) ?_
          refine AllReadyH.cons rfl (fun K hK => ?_) AllReadyH.nil
          go_simp
          go_at_call 25
          have hs7 := slr_head (xs := [1, 2, 5000, 10000, 0, 10001].map (Value.int .i64)) HLB.out (m7) (by show m7 ≤ 6; omega) (by show 6 ≤ maxLen; unfold maxLen; omega)
          rw [← List.map_take] at hs7
          refine (among_any Wb.heap.size (.slice ad L.length cp) L (0 + 200 + 100 + 200 + 2 + 2 + 2) _ ([1, 2, 5000, 10000, 0, 10001].take (m7)) wn (by omega) (by rw [List.length_take]; show 1 ≤ min (m7) 6 ∧ min (m7) 6 ≤ 100; omega) hs7 (fun a m c e => by cases e; exact HNB.out) HC.out (HRX.out _ HG.out)).mono ?_
          rintro e wn ⟨⟨z7, rfl, hz⟩, hc, hg⟩
          have HZB7 : Hid (0 ≤ z7 ∧ z7 ≤ 10001) := Lib.hid (by have := List.mem_of_mem_take hz; simp only [List.mem_cons, List.not_mem_nil, or_false] at this; omega)
          replace HC := Lib.hid hc
          try replace HU := Lib.hid (own_grown HU.out hg (by have := HWS.out; omega))
          try replace HLA := Lib.hid ((hg.block _ (Array.getElem?_eq_some_iff.1 HLA.out).1 (by intro e; injection e with e; exact HNA.out e)).trans HLA.out)
          try replace HLB := Lib.hid ((hg.block _ (Array.getElem?_eq_some_iff.1 HLB.out).1 (by intro e; injection e with e; exact HNB.out e)).trans HLB.out)
          replace HG := Lib.hid (grown_trans HG.out hg)
          clear hc hg hz hs7 hq7 hp7 hb7 hbb7 hbc7
          refine hK.out _ _ ((HCL.out _ HG.out)) (fun hHeld => ?_)
          clear hK K
          try simp only [Act.put, List.setIfInBounds_toArray, List.set_cons_zero, List.set_cons_succ]
          refine take1 (i := 20) (v := ?v62) (some 2) rfl rfl (by kernel_rfl) (by kernel_rfl) (by kernel_rfl) (fun _ _ _ h => h) (Or.inl ⟨by rfl, ?y62⟩) (by assumption) ?r62
          case y62 => (intro w hSw; (try dsimp only at hSw); go_simp; (first | done | with_reducible rfl))
          try simp only [Act.put, List.setIfInBounds_toArray, List.set_cons_zero, List.set_cons_succ]
          refine wpAnyH_ready (rs := [21]) (by kernel_rfl) (by simp) ?_
          refine AllReadyH.cons rfl (fun K hK => ?_) AllReadyH.nil
          have hz := (HG.out.block w.heap.size (by have := HWS.out; omega) (by intro e; have := HSB.out; injection e with e; omega)).trans HZW.out
          have hl1 := lt_of_block hz
          obtain ⟨c1, f1⟩ := cell1 hz
          have hq1 := box1_set hz (.slice xa xs.length xc)
          have hx1 := (heap_setCell_other wn ⟨w.heap.size, 0, none⟩ BX (.slice xa xs.length xc) (by show BX ≠ w.heap.size; have := HBX.out; omega)).trans ((HG.out.block BX (by have := HBX.out; omega) (by intro e; have := HBX.out; have := HSB.out; injection e with e; omega)).trans HKX.out)
          have HP1 := Lib.hid (ownsRow_setCell_below (own_grown HRu.out HG.out (by have := HS1.out; have := HSB.out; omega)) (a := ⟨w.heap.size, 0, none⟩) (by show w.heap.size < W1.heap.size; have := HS1.out; omega) (.slice xa xs.length xc))
          have HP2 := Lib.hid (ownsRow_setCell_below (own_grown HRx.out HG.out (by have := HS1.out; have := HSB.out; have := HS2.out; omega)) (a := ⟨w.heap.size, 0, none⟩) (by show w.heap.size < w2.heap.size; have := HS1.out; have := HS2.out; omega) (.slice xa xs.length xc))
          have HP3 := Lib.hid (ownsRow_setCell_below HU.out (a := ⟨w.heap.size, 0, none⟩) (by show w.heap.size < W.heap.size; have := HWS.out; omega) (.slice xa xs.length xc))
          have HB4 := Lib.hid ((HBW.out.grown HG.out HBW.out.size (fun k e => by cases e; have := HSB.out; omega)).setCell (p := ⟨w.heap.size, 0, none⟩) (Nat.le_refl _) (.slice xa xs.length xc))
          go_simp
          clear c1 f1 hl1 hz
          generalize wn.setCell ⟨w.heap.size, 0, none⟩ (.slice xa xs.length xc) = wz at hq1 hx1 HP1 HP2 HP3 HB4 ⊢
          refine hK.out _ _ ((cell1 hx1).1) (fun hHeld => ?_)
          clear hK K
          try simp only [Act.put]
          refine take1 (i := 22) (v := ?v63) (some 4) rfl rfl (by kernel_rfl) (by kernel_rfl) (by kernel_rfl) (fun _ _ _ h => h) (Or.inl ⟨by rfl, ?y63⟩) (by assumption) ?r63
          case y63 => (intro w hSw; (try dsimp only at hSw); go_simp; (first | done | with_reducible rfl))
          try simp only [Act.put, List.setIfInBounds_toArray, List.set_cons_zero, List.set_cons_succ]
          refine take1 (i := 23) (v := ?v64) (some 5) rfl rfl (by kernel_rfl) (by kernel_rfl) (by kernel_rfl) (fun _ _ _ h => h) (Or.inl ⟨by rfl, ?y64⟩) (by assumption) ?r64
          case y64 => (intro w hSw; (try dsimp only at hSw); go_simp; (first | done | with_reducible rfl))
          try simp only [Act.put, List.setIfInBounds_toArray, List.set_cons_zero, List.set_cons_succ]
          refine take1 (i := 24) (v := ?v65) (some 6) rfl rfl (by kernel_rfl) (by kernel_rfl) (by kernel_rfl) (fun _ _ _ h => h) (Or.inl ⟨by rfl, ?y65⟩) (by assumption) ?r65
          case y65 => (intro w hSw; (try dsimp only at hSw); go_simp; (first | done | with_reducible rfl))
          try simp only [Act.put, List.setIfInBounds_toArray, List.set_cons_zero, List.set_cons_succ]
          refine wpAnyH_done (by kernel_rfl) ?_ _
          obtain ⟨c3, f3⟩ := cell1 hq1
          clear hq1 hx1
          go_wp2_with fail
          exact bodyPost_ret (v := .tuple #[.slice qa us.length qc, .agg #[.slice xa xs.length xc], .slice qa2 us2.length qc2, .int .i64 z6, .int .i64 z7]) (by simp [results, Tryd.results14, go_sem, c3]) rfl ⟨⟨_, _, _, us, us2, xs, z6, z7, rfl, ⟨own_mono HP1.out (by have := HS1.out; omega), own_mono HP2.out (by have := HS1.out; have := HS2.out; omega), own_mono HP3.out (by have := HWS.out; omega)⟩, HL.out, HL2.out, HZB6.out, HZB7.out⟩, HB4.out⟩
      · go_simp
        obtain ⟨wk, hwk⟩ : ∃ u, wn.alloc (.cells #[.int .i64 1, .int .i64 2, .int .i64 5000, .int .i64 10000, .int .i64 0, .int .i64 10001] 3) = u := ⟨_, rfl⟩
        have hal : wn.grownBy wk none := hwk ▸ grown_alloc wn (.cells #[.int .i64 1, .int .i64 2, .int .i64 5000, .int .i64 10000, .int .i64 0, .int .i64 10001] 3) none
        have hla : wk.heap[wn.heap.size]? = some (.cells #[.int .i64 1, .int .i64 2, .int .i64 5000, .int .i64 10000, .int .i64 0, .int .i64 10001] 3 (0, 0)) := hwk ▸ alloc_at rfl
        have HNB : Hid (wn.heap.size ≠ Wb.heap.size) := Lib.hid (by have := HG.out.size; have := HWS.out; omega)
        rw [hwk]
        clear hwk
        replace HC := Lib.hid (HC.out.old hal)
        have hg := grown_any (r := some Wb.heap.size) hal
        have HLB := Lib.hid hla
        try replace HU := Lib.hid (own_grown HU.out hg (by have := HWS.out; omega))
        try replace HLA := Lib.hid ((hg.block _ (Array.getElem?_eq_some_iff.1 HLA.out).1 (by intro e; injection e with e; exact HNA.out e)).trans HLA.out)
        replace HG := Lib.hid (grown_trans HG.out hg)
        clear hal hla hg
        generalize wn.heap.size = LBB at HNB HLB ⊢
        rename World => wn
        refine hK.out _ _ ((HCL.out _ HG.out)) (fun hHeld => ?_)
        clear hK K
        try simp only [Act.put, List.setIfInBounds_toArray, List.set_cons_zero, List.set_cons_succ]
        refine wpAnyH_ready (rs := [5]) (by kernel_rfl) (by simp) ?_
        refine AllReadyH.cons rfl (fun K hK => ?_) AllReadyH.nil
        go_simp
        obtain ⟨wk, hwk⟩ : ∃ u, wn.alloc (.cells #[.int .i64 1, .int .i64 3, .int .i64 127, .int .i64 10000, .int .i64 0, .int .i64 10001] 3) = u := ⟨_, rfl⟩
        have hal : wn.grownBy wk none := hwk ▸ grown_alloc wn (.cells #[.int .i64 1, .int .i64 3, .int .i64 127, .int .i64 10000, .int .i64 0, .int .i64 10001] 3) none
        have hla : wk.heap[wn.heap.size]? = some (.cells #[.int .i64 1, .int .i64 3, .int .i64 127, .int .i64 10000, .int .i64 0, .int .i64 10001] 3 (0, 0)) := hwk ▸ alloc_at rfl
        have HNA : Hid (wn.heap.size ≠ Wb.heap.size) := Lib.hid (by have := HG.out.size; have := HWS.out; omega)
        rw [hwk]
        clear hwk
        replace HC := Lib.hid (HC.out.old hal)
        have hg := grown_any (r := some Wb.heap.size) hal
        have HLA := Lib.hid hla
        try replace HU := Lib.hid (own_grown HU.out hg (by have := HWS.out; omega))
        try replace HLB := Lib.hid ((hg.block _ (Array.getElem?_eq_some_iff.1 HLB.out).1 (by intro e; injection e with e; exact HNB.out e)).trans HLB.out)
        replace HG := Lib.hid (grown_trans HG.out hg)
        clear hal hla hg
        generalize wn.heap.size = LBA at HNA HLA ⊢
        rename World => wn
        refine hK.out _ _ ((HCL.out _ HG.out)) (fun hHeld => ?_)
        clear hK K
        try simp only [Act.put, List.setIfInBounds_toArray, List.set_cons_zero, List.set_cons_succ]
        refine take1 (i := 10) (v := ?v66) (some 28) rfl rfl (by kernel_rfl) (by kernel_rfl) (by kernel_rfl) (fun _ _ _ h => h) (Or.inl ⟨by rfl, ?y66⟩) (by assumption) ?r66
        case y66 => (intro w hSw; (try dsimp only at hSw); go_simp; (first | done | with_reducible rfl))
        try simp only [Act.put, List.setIfInBounds_toArray, List.set_cons_zero, List.set_cons_succ]
        refine wpAnyH_ready (rs := [11]) (by kernel_rfl) (by simp) ?_
        refine AllReadyH.cons rfl (fun K hK => ?_) AllReadyH.nil
        go_simp
        go_at_call 25
        have hs7 := slr_head (xs := [1, 3, 127, 10000, 0, 10001].map (Value.int .i64)) HLA.out (m6) (by show m6 ≤ 6; omega) (by show 6 ≤ maxLen; unfold maxLen; omega)
        rw [← List.map_take] at hs7
        refine (among_any Wb.heap.size (.slice ad L.length cp) L (0 + 200 + 100 + 200 + 2) _ ([1, 3, 127, 10000, 0, 10001].take (m6)) wn (by omega) (by rw [List.length_take]; show 1 ≤ min (m6) 6 ∧ min (m6) 6 ≤ 100; omega) hs7 (fun a m c e => by cases e; exact HNA.out) HC.out (HRX.out _ HG.out)).mono ?_
        rintro e wn ⟨⟨z6, rfl, hz⟩, hc, hg⟩
        have HZB6 : Hid (0 ≤ z6 ∧ z6 ≤ 10001) := Lib.hid (by have := List.mem_of_mem_take hz; simp only [List.mem_cons, List.not_mem_nil, or_false] at this; omega)
        replace HC := Lib.hid hc
        try replace HU := Lib.hid (own_grown HU.out hg (by have := HWS.out; omega))
        try replace HLA := Lib.hid ((hg.block _ (Array.getElem?_eq_some_iff.1 HLA.out).1 (by intro e; injection e with e; exact HNA.out e)).trans HLA.out)
        try replace HLB := Lib.hid ((hg.block _ (Array.getElem?_eq_some_iff.1 HLB.out).1 (by intro e; injection e with e; exact HNB.out e)).trans HLB.out)
        replace HG := Lib.hid (grown_trans HG.out hg)
        clear hc hg hz hs7 hq6 hp6 hb6 hbb6 hbc6
        refine hK.out _ _ ((HCL.out _ HG.out)) (fun hHeld => ?_)
        clear hK K
        try simp only [Act.put, List.setIfInBounds_toArray, List.set_cons_zero, List.set_cons_succ]
        refine wpAnyH_ready (rs := [15]) (by kernel_rfl) (by simp) ?_
        refine AllReadyH.cons rfl (fun K hK => ?_) AllReadyH.nil
        go_simp
        go_at_call 26
        refine (pick_any Wb.heap.size (.slice ad L.length cp) L (0 + 200 + 100 + 200 + 2 + 2) 24 wn (by omega) (by omega) (by omega) HC.out (HRX.out _ HG.out)).mono ?_
        rintro e wn ⟨⟨r7, rfl, r0, r1⟩, hc, hg⟩
        replace HC := Lib.hid hc
        try replace HU := Lib.hid (own_grown HU.out hg (by have := HWS.out; omega))
        try replace HLA := Lib.hid ((hg.block _ (Array.getElem?_eq_some_iff.1 HLA.out).1 (by intro e; injection e with e; exact HNA.out e)).trans HLA.out)
        try replace HLB := Lib.hid ((hg.block _ (Array.getElem?_eq_some_iff.1 HLB.out).1 (by intro e; injection e with e; exact HNB.out e)).trans HLB.out)
        replace HG := Lib.hid (grown_trans HG.out hg)
        clear hc hg
        obtain ⟨m7, hm, hm74, hc7⟩ : ∃ m : Nat, 4 + r7.tdiv 11 = (m : Int) ∧ 4 ≤ m ∧ m ≤ 6 := by
          rw [Int.tdiv_eq_ediv_of_nonneg r0]
          exact ⟨(4 + r7 / 11).toNat, by omega, by omega, by omega⟩
        have hq7 : IntKind.i64.wrap (4 + r7.tdiv 11) = (m7 : Int) := by rw [hm, IntKind.wrap_i64]; omega
        have hp7 : IntKind.i64.wrap (r7.tdiv 11) = r7.tdiv 11 := by rw [IntKind.wrap_i64]; omega
        have hb7 : (0 : Int) ≤ (m7 : Int) ∧ (m7 : Int) ≤ 6 := by omega
        have hbb7 : (m7 : Int) ≤ 6 := by omega
        have hbc7 : (0 : Int) ≤ (m7 : Int) := by omega
        clear hm r0 r1
        refine hK.out _ _ ((HCL.out _ HG.out)) (fun hHeld => ?_)
        clear hK K
        try simp only [Act.put, List.setIfInBounds_toArray, List.set_cons_zero, List.set_cons_succ]
        refine take1 (i := 16) (v := ?v67) (some 34) rfl rfl (by kernel_rfl) (by kernel_rfl) (by kernel_rfl) (fun _ _ _ h => h) (Or.inl ⟨by rfl, ?y67⟩) (by assumption) ?r67
        case y67 => (intro w hSw; (try dsimp only at hSw); go_simp; (first | done | with_reducible rfl))
        try simp only [Act.put, List.setIfInBounds_toArray, List.set_cons_zero, List.set_cons_succ]
        refine take1 (i := 17) (v := ?v68) (some 35) rfl rfl (by kernel_rfl) (by kernel_rfl) (by kernel_rfl) (fun _ _ _ h => h) (Or.inl ⟨by rfl, ?y68⟩) (by assumption) ?r68
        case y68 => (intro w hSw; (try dsimp only at hSw); go_simp; (first | done | with_reducible rfl))
        try simp only [Act.put, List.setIfInBounds_toArray, List.set_cons_zero, List.set_cons_succ]
        refine take1 (i := 18) (v := ?v69) (some 36) rfl rfl (by kernel_rfl) (by kernel_rfl) (by kernel_rfl) (fun _ _ _ h => h) (Or.inl ⟨by rfl, ?y69⟩) (by assumption) ?r69
        case y69 => (intro w hSw; (try dsimp only at hSw); go_simp; (first | done | with_reducible rfl))
        try simp only [Act.put, List.setIfInBounds_toArray, List.set_cons_zero, List.set_cons_succ]
        refine wpAnyH_ready (rs := [19]) (by kernel_rfl) (by simp) ?_
        refine AllReadyH.cons rfl (fun K hK => ?_) AllReadyH.nil
        go_simp
        go_at_call 25
        have hs7 := slr_head (xs := [1, 2, 5000, 10000, 0, 10001].map (Value.int .i64)) HLB.out (m7) (by show m7 ≤ 6; omega) (by show 6 ≤ maxLen; unfold maxLen; omega)
        rw [← List.map_take] at hs7
        refine (among_any Wb.heap.size (.slice ad L.length cp) L (0 + 200 + 100 + 200 + 2 + 2 + 2) _ ([1, 2, 5000, 10000, 0, 10001].take (m7)) wn (by omega) (by rw [List.length_take]; show 1 ≤ min (m7) 6 ∧ min (m7) 6 ≤ 100; omega) hs7 (fun a m c e => by cases e; exact HNB.out) HC.out (HRX.out _ HG.out)).mono ?_
        rintro e wn ⟨⟨z7, rfl, hz⟩, hc, hg⟩
        have HZB7 : Hid (0 ≤ z7 ∧ z7 ≤ 10001) := Lib.hid (by have := List.mem_of_mem_take hz; simp only [List.mem_cons, List.not_mem_nil, or_false] at this; omega)
        replace HC := Lib.hid hc
        try replace HU := Lib.hid (own_grown HU.out hg (by have := HWS.out; omega))
        try replace HLA := Lib.hid ((hg.block _ (Array.getElem?_eq_some_iff.1 HLA.out).1 (by intro e; injection e with e; exact HNA.out e)).trans HLA.out)
        try replace HLB := Lib.hid ((hg.block _ (Array.getElem?_eq_some_iff.1 HLB.out).1 (by intro e; injection e with e; exact HNB.out e)).trans HLB.out)
        replace HG := Lib.hid (grown_trans HG.out hg)
        clear hc hg hz hs7 hq7 hp7 hb7 hbb7 hbc7
        refine hK.out _ _ ((HCL.out _ HG.out)) (fun hHeld => ?_)
        clear hK K
        try simp only [Act.put, List.setIfInBounds_toArray, List.set_cons_zero, List.set_cons_succ]
        refine take1 (i := 20) (v := ?v70) (some 2) rfl rfl (by kernel_rfl) (by kernel_rfl) (by kernel_rfl) (fun _ _ _ h => h) (Or.inl ⟨by rfl, ?y70⟩) (by assumption) ?r70
        case y70 => (intro w hSw; (try dsimp only at hSw); go_simp; (first | done | with_reducible rfl))
        try simp only [Act.put, List.setIfInBounds_toArray, List.set_cons_zero, List.set_cons_succ]
        refine wpAnyH_ready (rs := [21]) (by kernel_rfl) (by simp) ?_
        refine AllReadyH.cons rfl (fun K hK => ?_) AllReadyH.nil
        have hz := (HG.out.block w.heap.size (by have := HWS.out; omega) (by intro e; have := HSB.out; injection e with e; omega)).trans HZW.out
        have hl1 := lt_of_block hz
        obtain ⟨c1, f1⟩ := cell1 hz
        have hq1 := box1_set hz (.slice xa xs.length xc)
        have hx1 := (heap_setCell_other wn ⟨w.heap.size, 0, none⟩ BX (.slice xa xs.length xc) (by show BX ≠ w.heap.size; have := HBX.out; omega)).trans ((HG.out.block BX (by have := HBX.out; omega) (by intro e; have := HBX.out; have := HSB.out; injection e with e; omega)).trans HKX.out)
        have HP1 := Lib.hid (ownsRow_setCell_below (own_grown HRu.out HG.out (by have := HS1.out; have := HSB.out; omega)) (a := ⟨w.heap.size, 0, none⟩) (by show w.heap.size < W1.heap.size; have := HS1.out; omega) (.slice xa xs.length xc))
        have HP2 := Lib.hid (ownsRow_setCell_below (own_grown HRx.out HG.out (by have := HS1.out; have := HSB.out; have := HS2.out; omega)) (a := ⟨w.heap.size, 0, none⟩) (by show w.heap.size < w2.heap.size; have := HS1.out; have := HS2.out; omega) (.slice xa xs.length xc))
        have HP3 := Lib.hid (ownsRow_setCell_below HU.out (a := ⟨w.heap.size, 0, none⟩) (by show w.heap.size < W.heap.size; have := HWS.out; omega) (.slice xa xs.length xc))
        have HB4 := Lib.hid ((HBW.out.grown HG.out HBW.out.size (fun k e => by cases e; have := HSB.out; omega)).setCell (p := ⟨w.heap.size, 0, none⟩) (Nat.le_refl _) (.slice xa xs.length xc))
        go_simp
        clear c1 f1 hl1 hz
        generalize wn.setCell ⟨w.heap.size, 0, none⟩ (.slice xa xs.length xc) = wz at hq1 hx1 HP1 HP2 HP3 HB4 ⊢
        refine hK.out _ _ ((cell1 hx1).1) (fun hHeld => ?_)
        clear hK K
        try simp only [Act.put]
        refine take1 (i := 22) (v := ?v71) (some 4) rfl rfl (by kernel_rfl) (by kernel_rfl) (by kernel_rfl) (fun _ _ _ h => h) (Or.inl ⟨by rfl, ?y71⟩) (by assumption) ?r71
        case y71 => (intro w hSw; (try dsimp only at hSw); go_simp; (first | done | with_reducible rfl))
        try simp only [Act.put, List.setIfInBounds_toArray, List.set_cons_zero, List.set_cons_succ]
        refine take1 (i := 23) (v := ?v72) (some 5) rfl rfl (by kernel_rfl) (by kernel_rfl) (by kernel_rfl) (fun _ _ _ h => h) (Or.inl ⟨by rfl, ?y72⟩) (by assumption) ?r72
        case y72 => (intro w hSw; (try dsimp only at hSw); go_simp; (first | done | with_reducible rfl))
        try simp only [Act.put, List.setIfInBounds_toArray, List.set_cons_zero, List.set_cons_succ]
        refine take1 (i := 24) (v := ?v73) (some 6) rfl rfl (by kernel_rfl) (by kernel_rfl) (by kernel_rfl) (fun _ _ _ h => h) (Or.inl ⟨by rfl, ?y73⟩) (by assumption) ?r73
        case y73 => (intro w hSw; (try dsimp only at hSw); go_simp; (first | done | with_reducible rfl))
        try simp only [Act.put, List.setIfInBounds_toArray, List.set_cons_zero, List.set_cons_succ]
        refine wpAnyH_done (by kernel_rfl) ?_ _
        obtain ⟨c3, f3⟩ := cell1 hq1
        clear hq1 hx1
        go_wp2_with fail
        exact bodyPost_ret (v := .tuple #[.slice qa us.length qc, .agg #[.slice xa xs.length xc], .slice qa2 us2.length qc2, .int .i64 z6, .int .i64 z7]) (by simp [results, Tryd.results14, go_sem, c3]) rfl ⟨⟨_, _, _, us, us2, xs, z6, z7, rfl, ⟨own_mono HP1.out (by have := HS1.out; omega), own_mono HP2.out (by have := HS1.out; have := HS2.out; omega), own_mono HP3.out (by have := HWS.out; omega)⟩, HL.out, HL2.out, HZB6.out, HZB7.out⟩, HB4.out⟩
    · go_simp
      obtain ⟨wk, hwk⟩ : ∃ u, wn.alloc (.cells #[.int .i64 1, .int .i64 2, .int .i64 5000, .int .i64 10000, .int .i64 0, .int .i64 10001] 3) = u := ⟨_, rfl⟩
      have hal : wn.grownBy wk none := hwk ▸ grown_alloc wn (.cells #[.int .i64 1, .int .i64 2, .int .i64 5000, .int .i64 10000, .int .i64 0, .int .i64 10001] 3) none
      have hla : wk.heap[wn.heap.size]? = some (.cells #[.int .i64 1, .int .i64 2, .int .i64 5000, .int .i64 10000, .int .i64 0, .int .i64 10001] 3 (0, 0)) := hwk ▸ alloc_at rfl
      have HNB : Hid (wn.heap.size ≠ Wb.heap.size) := Lib.hid (by have := HG.out.size; have := HWS.out; omega)
      rw [hwk]
      clear hwk
      replace HC := Lib.hid (HC.out.old hal)
      have hg := grown_any (r := some Wb.heap.size) hal
      have HLB := Lib.hid hla
      try replace HU := Lib.hid (own_grown HU.out hg (by have := HWS.out; omega))
      try replace HLA := Lib.hid ((hg.block _ (Array.getElem?_eq_some_iff.1 HLA.out).1 (by intro e; injection e with e; exact HNA.out e)).trans HLA.out)
      replace HG := Lib.hid (grown_trans HG.out hg)
      clear hal hla hg
      generalize wn.heap.size = LBB at HNB HLB ⊢
      rename World => wn
      refine hK.out _ _ ((HCL.out _ HG.out)) (fun hHeld => ?_)
      clear hK K
      try simp only [Act.put, List.setIfInBounds_toArray, List.set_cons_zero, List.set_cons_succ]
      refine wpAnyH_ready (rs := [5, 7]) (by kernel_rfl) (by simp) ?_
      refine AllReadyH.cons rfl (fun K hK => ?_) (AllReadyH.cons rfl (fun K hK => ?_) AllReadyH.nil)
      · go_simp
        obtain ⟨wk, hwk⟩ : ∃ u, wn.alloc (.cells #[.int .i64 1, .int .i64 3, .int .i64 127, .int .i64 10000, .int .i64 0, .int .i64 10001] 3) = u := ⟨_, rfl⟩
        have hal : wn.grownBy wk none := hwk ▸ grown_alloc wn (.cells #[.int .i64 1, .int .i64 3, .int .i64 127, .int .i64 10000, .int .i64 0, .int .i64 10001] 3) none
        have hla : wk.heap[wn.heap.size]? = some (.cells #[.int .i64 1, .int .i64 3, .int .i64 127, .int .i64 10000, .int .i64 0, .int .i64 10001] 3 (0, 0)) := hwk ▸ alloc_at rfl
        have HNA : Hid (wn.heap.size ≠ Wb.heap.size) := Lib.hid (by have := HG.out.size; have := HWS.out; omega)
        rw [hwk]
        clear hwk
        replace HC := Lib.hid (HC.out.old hal)
        have hg := grown_any (r := some Wb.heap.size) hal
        have HLA := Lib.hid hla
        try replace HU := Lib.hid (own_grown HU.out hg (by have := HWS.out; omega))
        try replace HLB := Lib.hid ((hg.block _ (Array.getElem?_eq_some_iff.1 HLB.out).1 (by intro e; injection e with e; exact HNB.out e)).trans HLB.out)
        replace HG := Lib.hid (grown_trans HG.out hg)
        clear hal hla hg
        generalize wn.heap.size = LBA at HNA HLA ⊢
        rename World => wn
        refine hK.out _ _ ((HCL.out _ HG.out)) (fun hHeld => ?_)
        clear hK K
        try simp only [Act.put, List.setIfInBounds_toArray, List.set_cons_zero, List.set_cons_succ]
        refine wpAnyH_ready (rs := [7]) (by kernel_rfl) (by simp) ?_
        refine AllReadyH.cons rfl (fun K hK => ?_) AllReadyH.nil
        go_simp
        go_at_call 26
        refine (pick_any Wb.heap.size (.slice ad L.length cp) L (0 + 200 + 100 + 200) 24 wn (by omega) (by omega) (by omega) HC.out (HRX.out _ HG.out)).mono ?_
        rintro e wn ⟨⟨r6, rfl, r0, r1⟩, hc, hg⟩
        replace HC := Lib.hid hc
        try replace HU := Lib.hid (own_grown HU.out hg (by have := HWS.out; omega))
        try replace HLA := Lib.hid ((hg.block _ (Array.getElem?_eq_some_iff.1 HLA.out).1 (by intro e; injection e with e; exact HNA.out e)).trans HLA.out)
        try replace HLB := Lib.hid ((hg.block _ (Array.getElem?_eq_some_iff.1 HLB.out).1 (by intro e; injection e with e; exact HNB.out e)).trans HLB.out)
        replace HG := Lib.hid (grown_trans HG.out hg)
        clear hc hg
        obtain ⟨m6, hm, hm64, hc6⟩ : ∃ m : Nat, 4 + r6.tdiv 11 = (m : Int) ∧ 4 ≤ m ∧ m ≤ 6 := by
          rw [Int.tdiv_eq_ediv_of_nonneg r0]
          exact ⟨(4 + r6 / 11).toNat, by omega, by omega, by omega⟩
        have hq6 : IntKind.i64.wrap (4 + r6.tdiv 11) = (m6 : Int) := by rw [hm, IntKind.wrap_i64]; omega
        have hp6 : IntKind.i64.wrap (r6.tdiv 11) = r6.tdiv 11 := by rw [IntKind.wrap_i64]; omega
        have hb6 : (0 : Int) ≤ (m6 : Int) ∧ (m6 : Int) ≤ 6 := by omega
        have hbb6 : (m6 : Int) ≤ 6 := by omega
        have hbc6 : (0 : Int) ≤ (m6 : Int) := by omega
        clear hm r0 r1
        refine hK.out _ _ ((HCL.out _ HG.out)) (fun hHeld => ?_)
        clear hK K
        try simp only [Act.put, List.setIfInBounds_toArray, List.set_cons_zero, List.set_cons_succ]
        refine take1 (i := 8) (v := ?v74) (some 26) rfl rfl (by kernel_rfl) (by kernel_rfl) (by kernel_rfl) (fun _ _ _ h => h) (Or.inl ⟨by rfl, ?y74⟩) (by assumption) ?r74
        case y74 => (intro w hSw; (try dsimp only at hSw); go_simp; (first | done | with_reducible rfl))
        try simp only [Act.put, List.setIfInBounds_toArray, List.set_cons_zero, List.set_cons_succ]
        refine take1 (i := 9) (v := ?v75) (some 27) rfl rfl (by kernel_rfl) (by kernel_rfl) (by kernel_rfl) (fun _ _ _ h => h) (Or.inl ⟨by rfl, ?y75⟩) (by assumption) ?r75
        case y75 => (intro w hSw; (try dsimp only at hSw); go_simp; (first | done | with_reducible rfl))
        try simp only [Act.put, List.setIfInBounds_toArray, List.set_cons_zero, List.set_cons_succ]
        refine take1 (i := 10) (v := ?v76) (some 28) rfl rfl (by kernel_rfl) (by kernel_rfl) (by kernel_rfl) (fun _ _ _ h => h) (Or.inl ⟨by rfl, ?y76⟩) (by assumption) ?r76
        case y76 => (intro w hSw; (try dsimp only at hSw); go_simp; (first | done | with_reducible rfl))
        try simp only [Act.put, List.setIfInBounds_toArray, List.set_cons_zero, List.set_cons_succ]
        refine wpAnyH_ready (rs := [11]) (by kernel_rfl) (by simp) ?_
        refine AllReadyH.cons rfl (fun K hK => ?_) AllReadyH.nil
        go_simp
        go_at_call 25
        have hs7 := slr_head (xs := [1, 3, 127, 10000, 0, 10001].map (Value.int .i64)) HLA.out (m6) (by show m6 ≤ 6; omega) (by show 6 ≤ maxLen; unfold maxLen; omega)
        rw [← List.map_take] at hs7
        refine (among_any Wb.heap.size (.slice ad L.length cp) L (0 + 200 + 100 + 200 + 2) _ ([1, 3, 127, 10000, 0, 10001].take (m6)) wn (by omega) (by rw [List.length_take]; show 1 ≤ min (m6) 6 ∧ min (m6) 6 ≤ 100; omega) hs7 (fun a m c e => by cases e; exact HNA.out) HC.out (HRX.out _ HG.out)).mono ?_
        rintro e wn ⟨⟨z6, rfl, hz⟩, hc, hg⟩
        have HZB6 : Hid (0 ≤ z6 ∧ z6 ≤ 10001) := Lib.hid (by have := List.mem_of_mem_take hz; simp only [List.mem_cons, List.not_mem_nil, or_false] at this; omega)
        replace HC := Lib.hid hc
        try replace HU := Lib.hid (own_grown HU.out hg (by have := HWS.out; omega))
        try replace HLA := Lib.hid ((hg.block _ (Array.getElem?_eq_some_iff.1 HLA.out).1 (by intro e; injection e with e; exact HNA.out e)).trans HLA.out)
        try replace HLB := Lib.hid ((hg.block _ (Array.getElem?_eq_some_iff.1 HLB.out).1 (by intro e; injection e with e; exact HNB.out e)).trans HLB.out)
        replace HG := Lib.hid (grown_trans HG.out hg)
        clear hc hg hz hs7 hq6 hp6 hb6 hbb6 hbc6
        refine hK.out _ _ ((HCL.out _ HG.out)) (fun hHeld => ?_)
        clear hK K
        try simp only [Act.put, List.setIfInBounds_toArray, List.set_cons_zero, List.set_cons_succ]
        refine wpAnyH_ready (rs := [15]) (by kernel_rfl) (by simp) ?_
        refine AllReadyH.cons rfl (fun K hK => ?_) AllReadyH.nil
        go_simp
        go_at_call 26
        refine (pick_any Wb.heap.size (.slice ad L.length cp) L (0 + 200 + 100 + 200 + 2 + 2) 24 wn (by omega) (by omega) (by omega) HC.out (HRX.out _ HG.out)).mono ?_
        rintro e wn ⟨⟨r7, rfl, r0, r1⟩, hc, hg⟩
        replace HC := Lib.hid hc
        try replace HU := Lib.hid (own_grown HU.out hg (by have := HWS.out; omega))
        try replace HLA := Lib.hid ((hg.block _ (Array.getElem?_eq_some_iff.1 HLA.out).1 (by intro e; injection e with e; exact HNA.out e)).trans HLA.out)
        try replace HLB := Lib.hid ((hg.block _ (Array.getElem?_eq_some_iff.1 HLB.out).1 (by intro e; injection e with e; exact HNB.out e)).trans HLB.out)
        replace HG := Lib.hid (grown_trans HG.out hg)
        clear hc hg
        obtain ⟨m7, hm, hm74, hc7⟩ : ∃ m : Nat, 4 + r7.tdiv 11 = (m : Int) ∧ 4 ≤ m ∧ m ≤ 6 := by
          rw [Int.tdiv_eq_ediv_of_nonneg r0]
          exact ⟨(4 + r7 / 11).toNat, by omega, by omega, by omega⟩
        have hq7 : IntKind.i64.wrap (4 + r7.tdiv 11) = (m7 : Int) := by rw [hm, IntKind.wrap_i64]; omega
        have hp7 : IntKind.i64.wrap (r7.tdiv 11) = r7.tdiv 11 := by rw [IntKind.wrap_i64]; omega
        have hb7 : (0 : Int) ≤ (m7 : Int) ∧ (m7 : Int) ≤ 6 := by omega
        have hbb7 : (m7 : Int) ≤ 6 := by omega
        have hbc7 : (0 : Int) ≤ (m7 : Int) := by omega
        clear hm r0 r1
        refine hK.out _ _ ((HCL.out _ HG.out)) (fun hHeld => ?_)
        clear hK K
        try simp only [Act.put, List.setIfInBounds_toArray, List.set_cons_zero, List.set_cons_succ]
        refine take1 (i := 16) (v := ?v77) (some 34) rfl rfl (by kernel_rfl) (by kernel_rfl) (by kernel_rfl) (fun _ _ _ h => h) (Or.inl ⟨by rfl, ?y77⟩) (by assumption) ?r77
        case y77 => (intro w hSw; (try dsimp only at hSw); go_simp; (first | done | with_reducible rfl))
        try simp only [Act.put, List.setIfInBounds_toArray, List.set_cons_zero, List.set_cons_succ]
        refine take1 (i := 17) (v := ?v78) (some 35) rfl rfl (by kernel_rfl) (by kernel_rfl) (by kernel_rfl) (fun _ _ _ h => h) (Or.inl ⟨by rfl, ?y78⟩) (by assumption) ?r78
        case y78 => (intro w hSw; (try dsimp only at hSw); go_simp; (first | done | with_reducible rfl))
        try simp only [Act.put, List.setIfInBounds_toArray, List.set_cons_zero, List.set_cons_succ]
        refine take1 (i := 18) (v := ?v79) (some 36) rfl rfl (by kernel_rfl) (by kernel_rfl) (by kernel_rfl) (fun _ _ _ h => h) (Or.inl ⟨by rfl, ?y79⟩) (by assumption) ?r79
        case y79 => (intro w hSw; (try dsimp only at hSw); go_simp; (first | done | with_reducible rfl))
        try simp only [Act.put, List.setIfInBounds_toArray, List.set_cons_zero, List.set_cons_succ]
        refine wpAnyH_ready (rs := [19]) (by kernel_rfl) (by simp) ?_
        refine AllReadyH.cons rfl (fun K hK => ?_) AllReadyH.nil
        go_simp
        go_at_call 25
        have hs7 := slr_head (xs := [1, 2, 5000, 10000, 0, 10001].map (Value.int .i64)) HLB.out (m7) (by show m7 ≤ 6; omega) (by show 6 ≤ maxLen; unfold maxLen; omega)
        rw [← List.map_take] at hs7
        refine (among_any Wb.heap.size (.slice ad L.length cp) L (0 + 200 + 100 + 200 + 2 + 2 + 2) _ ([1, 2, 5000, 10000, 0, 10001].take (m7)) wn (by omega) (by rw [List.length_take]; show 1 ≤ min (m7) 6 ∧ min (m7) 6 ≤ 100; omega) hs7 (fun a m c e => by cases e; exact HNB.out) HC.out (HRX.out _ HG.out)).mono ?_
        rintro e wn ⟨⟨z7, rfl, hz⟩, hc, hg⟩
        have HZB7 : Hid (0 ≤ z7 ∧ z7 ≤ 10001) := Lib.hid (by have := List.mem_of_mem_take hz; simp only [List.mem_cons, List.not_mem_nil, or_false] at this; omega)
        replace HC := Lib.hid hc
        try replace HU := Lib.hid (own_grown HU.out hg (by have := HWS.out; omega))
        try replace HLA := Lib.hid ((hg.block _ (Array.getElem?_eq_some_iff.1 HLA.out).1 (by intro e; injection e with e; exact HNA.out e)).trans HLA.out)
        try replace HLB := Lib.hid ((hg.block _ (Array.getElem?_eq_some_iff.1 HLB.out).1 (by intro e; injection e with e; exact HNB.out e)).trans HLB.out)
        replace HG := Lib.hid (grown_trans HG.out hg)
        clear hc hg hz hs7 hq7 hp7 hb7 hbb7 hbc7
        refine hK.out _ _ ((HCL.out _ HG.out)) (fun hHeld => ?_)
        clear hK K
        try simp only [Act.put, List.setIfInBounds_toArray, List.set_cons_zero, List.set_cons_succ]
        refine take1 (i := 20) (v := ?v80) (some 2) rfl rfl (by kernel_rfl) (by kernel_rfl) (by kernel_rfl) (fun _ _ _ h => h) (Or.inl ⟨by rfl, ?y80⟩) (by assumption) ?r80
        case y80 => (intro w hSw; (try dsimp only at hSw); go_simp; (first | done | with_reducible rfl))
        try simp only [Act.put, List.setIfInBounds_toArray, List.set_cons_zero, List.set_cons_succ]
        refine wpAnyH_ready (rs := [21]) (by kernel_rfl) (by simp) ?_
        refine AllReadyH.cons rfl (fun K hK => ?_) AllReadyH.nil
        have hz := (HG.out.block w.heap.size (by have := HWS.out; omega) (by intro e; have := HSB.out; injection e with e; omega)).trans HZW.out
        have hl1 := lt_of_block hz
        obtain ⟨c1, f1⟩ := cell1 hz
        have hq1 := box1_set hz (.slice xa xs.length xc)
        have hx1 := (heap_setCell_other wn ⟨w.heap.size, 0, none⟩ BX (.slice xa xs.length xc) (by show BX ≠ w.heap.size; have := HBX.out; omega)).trans ((HG.out.block BX (by have := HBX.out; omega) (by intro e; have := HBX.out; have := HSB.out; injection e with e; omega)).trans HKX.out)
        have HP1 := Lib.hid (ownsRow_setCell_below (own_grown HRu.out HG.out (by have := HS1.out; have := HSB.out; omega)) (a := ⟨w.heap.size, 0, none⟩) (by show w.heap.size < W1.heap.size; have := HS1.out; omega) (.slice xa xs.length xc))
        have HP2 := Lib.hid (ownsRow_setCell_below (own_grown HRx.out HG.out (by have := HS1.out; have := HSB.out; have := HS2.out; omega)) (a := ⟨w.heap.size, 0, none⟩) (by show w.heap.size < w2.heap.size; have := HS1.out; have := HS2.out; omega) (.slice xa xs.length xc))
        have HP3 := Lib.hid (ownsRow_setCell_below HU.out (a := ⟨w.heap.size, 0, none⟩) (by show w.heap.size < W.heap.size; have := HWS.out; omega) (.slice xa xs.length xc))
        have HB4 := Lib.hid ((HBW.out.grown HG.out HBW.out.size (fun k e => by cases e; have := HSB.out; omega)).setCell (p := ⟨w.heap.size, 0, none⟩) (Nat.le_refl _) (.slice xa xs.length xc))
        go_simp
        clear c1 f1 hl1 hz
        generalize wn.setCell ⟨w.heap.size, 0, none⟩ (.slice xa xs.length xc) = wz at hq1 hx1 HP1 HP2 HP3 HB4 ⊢
        refine hK.out _ _ ((cell1 hx1).1) (fun hHeld => ?_)
        clear hK K
        try simp only [Act.put]
        refine take1 (i := 22) (v := ?v81) (some 4) rfl rfl (by kernel_rfl) (by kernel_rfl) (by kernel_rfl) (fun _ _ _ h => h) (Or.inl ⟨by rfl, ?y81⟩) (by assumption) ?r81
        case y81 => (intro w hSw; (try dsimp only at hSw); go_simp; (first | done | with_reducible rfl))
        try simp only [Act.put, List.setIfInBounds_toArray, List.set_cons_zero, List.set_cons_succ]
        refine take1 (i := 23) (v := ?v82) (some 5) rfl rfl (by kernel_rfl) (by kernel_rfl) (by kernel_rfl) (fun _ _ _ h => h) (Or.inl ⟨by rfl, ?y82⟩) (by assumption) ?r82
        case y82 => (intro w hSw; (try dsimp only at hSw); go_simp; (first | done | with_reducible rfl))
        try simp only [Act.put, List.setIfInBounds_toArray, List.set_cons_zero, List.set_cons_succ]
        refine take1 (i := 24) (v := ?v83) (some 6) rfl rfl (by kernel_rfl) (by kernel_rfl) (by kernel_rfl) (fun _ _ _ h => h) (Or.inl ⟨by rfl, ?y83⟩) (by assumption) ?r83
        case y83 => (intro w hSw; (try dsimp only at hSw); go_simp; (first | done | with_reducible rfl))
        try simp only [Act.put, List.setIfInBounds_toArray, List.set_cons_zero, List.set_cons_succ]
        refine wpAnyH_done (by kernel_rfl) ?_ _
        obtain ⟨c3, f3⟩ := cell1 hq1
        clear hq1 hx1
        go_wp2_with fail
        exact bodyPost_ret (v := .tuple #[.slice qa us.length qc, .agg #[.slice xa xs.length xc], .slice qa2 us2.length qc2, .int .i64 z6, .int .i64 z7]) (by simp [results, Tryd.results14, go_sem, c3]) rfl ⟨⟨_, _, _, us, us2, xs, z6, z7, rfl, ⟨own_mono HP1.out (by have := HS1.out; omega), own_mono HP2.out (by have := HS1.out; have := HS2.out; omega), own_mono HP3.out (by have := HWS.out; omega)⟩, HL.out, HL2.out, HZB6.out, HZB7.out⟩, HB4.out⟩
      · go_simp
        go_at_call 26
        refine (pick_any Wb.heap.size (.slice ad L.length cp) L (0 + 200 + 100 + 200) 24 wn (by omega) (by omega) (by omega) HC.out (HRX.out _ HG.out)).mono ?_
        rintro e wn ⟨⟨r6, rfl, r0, r1⟩, hc, hg⟩
        replace HC := Lib.hid hc
        try replace HU := Lib.hid (own_grown HU.out hg (by have := HWS.out; omega))
        try replace HLA := Lib.hid ((hg.block _ (Array.getElem?_eq_some_iff.1 HLA.out).1 (by intro e; injection e with e; exact HNA.out e)).trans HLA.out)
        try replace HLB := Lib.hid ((hg.block _ (Array.getElem?_eq_some_iff.1 HLB.out).1 (by intro e; injection e with e; exact HNB.out e)).trans HLB.out)
        replace HG := Lib.hid (grown_trans HG.out hg)
        clear hc hg
        obtain ⟨m6, hm, hm64, hc6⟩ : ∃ m : Nat, 4 + r6.tdiv 11 = (m : Int) ∧ 4 ≤ m ∧ m ≤ 6 := by
          rw [Int.tdiv_eq_ediv_of_nonneg r0]
          exact ⟨(4 + r6 / 11).toNat, by omega, by omega, by omega⟩
        have hq6 : IntKind.i64.wrap (4 + r6.tdiv 11) = (m6 : Int) := by rw [hm, IntKind.wrap_i64]; omega
        have hp6 : IntKind.i64.wrap (r6.tdiv 11) = r6.tdiv 11 := by rw [IntKind.wrap_i64]; omega
        have hb6 : (0 : Int) ≤ (m6 : Int) ∧ (m6 : Int) ≤ 6 := by omega
        have hbb6 : (m6 : Int) ≤ 6 := by omega
        have hbc6 : (0 : Int) ≤ (m6 : Int) := by omega
        clear hm r0 r1
        refine hK.out _ _ ((HCL.out _ HG.out)) (fun hHeld => ?_)
        clear hK K
        try simp only [Act.put, List.setIfInBounds_toArray, List.set_cons_zero, List.set_cons_succ]
        refine take1 (i := 8) (v := ?v84) (some 26) rfl rfl (by kernel_rfl) (by kernel_rfl) (by kernel_rfl) (fun _ _ _ h => h) (Or.inl ⟨by rfl, ?y84⟩) (by assumption) ?r84
        case y84 => (intro w hSw; (try dsimp only at hSw); go_simp; (first | done | with_reducible rfl))
        try simp only [Act.put, List.setIfInBounds_toArray, List.set_cons_zero, List.set_cons_succ]
        refine take1 (i := 9) (v := ?v85) (some 27) rfl rfl (by kernel_rfl) (by kernel_rfl) (by kernel_rfl) (fun _ _ _ h => h) (Or.inl ⟨by rfl, ?y85⟩) (by assumption) ?r85
        case y85 => (intro w hSw; (try dsimp only at hSw); go_simp; (first | done | with_reducible rfl))
        try simp only [Act.put, List.setIfInBounds_toArray, List.set_cons_zero, List.set_cons_succ]
        refine wpAnyH_ready (rs := [5]) (by kernel_rfl) (by simp) ?_
        refine AllReadyH.cons rfl (fun K hK => ?_) AllReadyH.nil
        go_simp
        obtain ⟨wk, hwk⟩ : ∃ u, wn.alloc (.cells #[.int .i64 1, .int .i64 3, .int .i64 127, .int .i64 10000, .int .i64 0, .int .i64 10001] 3) = u := ⟨_, rfl⟩
        have hal : wn.grownBy wk none := hwk ▸ grown_alloc wn (.cells #[.int .i64 1, .int .i64 3, .int .i64 127, .int .i64 10000, .int .i64 0, .int .i64 10001] 3) none
        have hla : wk.heap[wn.heap.size]? = some (.cells #[.int .i64 1, .int .i64 3, .int .i64 127, .int .i64 10000, .int .i64 0, .int .i64 10001] 3 (0, 0)) := hwk ▸ alloc_at rfl
        have HNA : Hid (wn.heap.size ≠ Wb.heap.size) := Lib.hid (by have := HG.out.size; have := HWS.out; omega)
        rw [hwk]
        clear hwk
        replace HC := Lib.hid (HC.out.old hal)
        have hg := grown_any (r := some Wb.heap.size) hal
        have HLA := Lib.hid hla
        try replace HU := Lib.hid (own_grown HU.out hg (by have := HWS.out; omega))
        try replace HLB := Lib.hid ((hg.block _ (Array.getElem?_eq_some_iff.1 HLB.out).1 (by intro e; injection e with e; exact HNB.out e)).trans HLB.out)
        replace HG := Lib.hid (grown_trans HG.out hg)
        clear hal hla hg
        generalize wn.heap.size = LBA at HNA HLA ⊢
        rename World => wn
        refine hK.out _ _ ((HCL.out _ HG.out)) (fun hHeld => ?_)
        clear hK K
        try simp only [Act.put, List.setIfInBounds_toArray, List.set_cons_zero, List.set_cons_succ]
        refine take1 (i := 10) (v := ?v86) (some 28) rfl rfl (by kernel_rfl) (by kernel_rfl) (by kernel_rfl) (fun _ _ _ h => h) (Or.inl ⟨by rfl, ?y86⟩) (by assumption) ?r86
        case y86 => (intro w hSw; (try dsimp only at hSw); go_simp; (first | done | with_reducible rfl))
        try simp only [Act.put, List.setIfInBounds_toArray, List.set_cons_zero, List.set_cons_succ]
        refine wpAnyH_ready (rs := [11]) (by kernel_rfl) (by simp) ?_
        refine AllReadyH.cons rfl (fun K hK => ?_) AllReadyH.nil
        go_simp
        go_at_call 25
        have hs7 := slr_head (xs := [1, 3, 127, 10000, 0, 10001].map (Value.int .i64)) HLA.out (m6) (by show m6 ≤ 6; omega) (by show 6 ≤ maxLen; unfold maxLen; omega)
        rw [← List.map_take] at hs7
        refine (among_any Wb.heap.size (.slice ad L.length cp) L (0 + 200 + 100 + 200 + 2) _ ([1, 3, 127, 10000, 0, 10001].take (m6)) wn (by omega) (by rw [List.length_take]; show 1 ≤ min (m6) 6 ∧ min (m6) 6 ≤ 100; omega) hs7 (fun a m c e => by cases e; exact HNA.out) HC.out (HRX.out _ HG.out)).mono ?_
        rintro e wn ⟨⟨z6, rfl, hz⟩, hc, hg⟩
        have HZB6 : Hid (0 ≤ z6 ∧ z6 ≤ 10001) := Lib.hid (by have := List.mem_of_mem_take hz; simp only [List.mem_cons, List.not_mem_nil, or_false] at this; omega)
        replace HC := Lib.hid hc
        try replace HU := Lib.hid (own_grown HU.out hg (by have := HWS.out; omega))
        try replace HLA := Lib.hid ((hg.block _ (Array.getElem?_eq_some_iff.1 HLA.out).1 (by intro e; injection e with e; exact HNA.out e)).trans HLA.out)
        try replace HLB := Lib.hid ((hg.block _ (Array.getElem?_eq_some_iff.1 HLB.out).1 (by intro e; injection e with e; exact HNB.out e)).trans HLB.out)
        replace HG := Lib.hid (grown_trans HG.out hg)
        clear hc hg hz hs7 hq6 hp6 hb6 hbb6 hbc6
        refine hK.out _ _ ((HCL.out _ HG.out)) (fun hHeld => ?_)
        clear hK K
        try simp only [Act.put, List.setIfInBounds_toArray, List.set_cons_zero, List.set_cons_succ]
        refine wpAnyH_ready (rs := [15]) (by kernel_rfl) (by simp) ?_
        refine AllReadyH.cons rfl (fun K hK => ?_) AllReadyH.nil
        go_simp
        go_at_call 26
        refine (pick_any Wb.heap.size (.slice ad L.length cp) L (0 + 200 + 100 + 200 + 2 + 2) 24 wn (by omega) (by omega) (by omega) HC.out (HRX.out _ HG.out)).mono ?_
        rintro e wn ⟨⟨r7, rfl, r0, r1⟩, hc, hg⟩
        replace HC := Lib.hid hc
        try replace HU := Lib.hid (own_grown HU.out hg (by have := HWS.out; omega))
        try replace HLA := Lib.hid ((hg.block _ (Array.getElem?_eq_some_iff.1 HLA.out).1 (by intro e; injection e with e; exact HNA.out e)).trans HLA.out)
        try replace HLB := Lib.hid ((hg.block _ (Array.getElem?_eq_some_iff.1 HLB.out).1 (by intro e; injection e with e; exact HNB.out e)).trans HLB.out)
        replace HG := Lib.hid (grown_trans HG.out hg)
        clear hc hg
        obtain ⟨m7, hm, hm74, hc7⟩ : ∃ m : Nat, 4 + r7.tdiv 11 = (m : Int) ∧ 4 ≤ m ∧ m ≤ 6 := by
          rw [Int.tdiv_eq_ediv_of_nonneg r0]
          exact ⟨(4 + r7 / 11).toNat, by omega, by omega, by omega⟩
        have hq7 : IntKind.i64.wrap (4 + r7.tdiv 11) = (m7 : Int) := by rw [hm, IntKind.wrap_i64]; omega
        have hp7 : IntKind.i64.wrap (r7.tdiv 11) = r7.tdiv 11 := by rw [IntKind.wrap_i64]; omega
        have hb7 : (0 : Int) ≤ (m7 : Int) ∧ (m7 : Int) ≤ 6 := by omega
        have hbb7 : (m7 : Int) ≤ 6 := by omega
        have hbc7 : (0 : Int) ≤ (m7 : Int) := by omega
        clear hm r0 r1
        refine hK.out _ _ ((HCL.out _ HG.out)) (fun hHeld => ?_)
        clear hK K
        try simp only [Act.put, List.setIfInBounds_toArray, List.set_cons_zero, List.set_cons_succ]
        refine take1 (i := 16) (v := ?v87) (some 34) rfl rfl (by kernel_rfl) (by kernel_rfl) (by kernel_rfl) (fun _ _ _ h => h) (Or.inl ⟨by rfl, ?y87⟩) (by assumption) ?r87
        case y87 => (intro w hSw; (try dsimp only at hSw); go_simp; (first | done | with_reducible rfl))
        try simp only [Act.put, List.setIfInBounds_toArray, List.set_cons_zero, List.set_cons_succ]
        refine take1 (i := 17) (v := ?v88) (some 35) rfl rfl (by kernel_rfl) (by kernel_rfl) (by kernel_rfl) (fun _ _ _ h => h) (Or.inl ⟨by rfl, ?y88⟩) (by assumption) ?r88
        case y88 => (intro w hSw; (try dsimp only at hSw); go_simp; (first | done | with_reducible rfl))
        try simp only [Act.put, List.setIfInBounds_toArray, List.set_cons_zero, List.set_cons_succ]
        refine take1 (i := 18) (v := ?v89) (some 36) rfl rfl (by kernel_rfl) (by kernel_rfl) (by kernel_rfl) (fun _ _ _ h => h) (Or.inl ⟨by rfl, ?y89⟩) (by assumption) ?r89
        case y89 => (intro w hSw; (try dsimp only at hSw); go_simp; (first | done | with_reducible rfl))
        try simp only [Act.put, List.setIfInBounds_toArray, List.set_cons_zero, List.set_cons_succ]
        refine wpAnyH_ready (rs := [19]) (by kernel_rfl) (by simp) ?_
        refine AllReadyH.cons rfl (fun K hK => ?_) AllReadyH.nil
        go_simp
        go_at_call 25
        have hs7 := slr_head (xs := [1, 2, 5000, 10000, 0, 10001].map (Value.int .i64)) HLB.out (m7) (by show m7 ≤ 6; omega) (by show 6 ≤ maxLen; unfold maxLen; omega)
        rw [← List.map_take] at hs7
        refine (among_any Wb.heap.size (.slice ad L.length cp) L (0 + 200 + 100 + 200 + 2 + 2 + 2) _ ([1, 2, 5000, 10000, 0, 10001].take (m7)) wn (by omega) (by rw [List.length_take]; show 1 ≤ min (m7) 6 ∧ min (m7) 6 ≤ 100; omega) hs7 (fun a m c e => by cases e; exact HNB.out) HC.out (HRX.out _ HG.out)).mono ?_
        rintro e wn ⟨⟨z7, rfl, hz⟩, hc, hg⟩
        have HZB7 : Hid (0 ≤ z7 ∧ z7 ≤ 10001) := Lib.hid (by have := List.mem_of_mem_take hz; simp only [List.mem_cons, List.not_mem_nil, or_false] at this; omega)
        replace HC := Lib.hid hc
        try replace HU := Lib.hid (own_grown HU.out hg (by have := HWS.out; omega))
        try replace HLA := Lib.hid ((hg.block _ (Array.getElem?_eq_some_iff.1 HLA.out).1 (by intro e; injection e with e; exact HNA.out e)).trans HLA.out)
        try replace HLB := Lib.hid ((hg.block _ (Array.getElem?_eq_some_iff.1 HLB.out).1 (by intro e; injection e with e; exact HNB.out e)).trans HLB.out)
        replace HG := Lib.hid (grown_trans HG.out hg)
        clear hc hg hz hs7 hq7 hp7 hb7 hbb7 hbc7
        refine hK.out _ _ ((HCL.out _ HG.out)) (fun hHeld => ?_)
        clear hK K
        try simp only [Act.put, List.setIfInBounds_toArray, List.set_cons_zero, List.set_cons_succ]
        refine take1 (i := 20) (v := ?v90) (some 2) rfl rfl (by kernel_rfl) (by kernel_rfl) (by kernel_rfl) (fun _ _ _ h => h) (Or.inl ⟨by rfl, ?y90⟩) (by assumption) ?r90
        case y90 => (intro w hSw; (try dsimp only at hSw); go_simp; (first | done | with_reducible rfl))
        try simp only [Act.put, List.setIfInBounds_toArray, List.set_cons_zero, List.set_cons_succ]
        refine wpAnyH_ready (rs := [21]) (by kernel_rfl) (by simp) ?_
        refine AllReadyH.cons rfl (fun K hK => ?_) AllReadyH.nil
        have hz := (HG.out.block w.heap.size (by have := HWS.out; omega) (by intro e; have := HSB.out; injection e with e; omega)).trans HZW.out
        have hl1 := lt_of_block hz
        obtain ⟨c1, f1⟩ := cell1 hz
        have hq1 := box1_set hz (.slice xa xs.length xc)
        have hx1 := (heap_setCell_other wn ⟨w.heap.size, 0, none⟩ BX (.slice xa xs.length xc) (by show BX ≠ w.heap.size; have := HBX.out; omega)).trans ((HG.out.block BX (by have := HBX.out; omega) (by intro e; have := HBX.out; have := HSB.out; injection e with e; omega)).trans HKX.out)
        have HP1 := Lib.hid (ownsRow_setCell_below (own_grown HRu.out HG.out (by have := HS1.out; have := HSB.out; omega)) (a := ⟨w.heap.size, 0, none⟩) (by show w.heap.size < W1.heap.size; have := HS1.out; omega) (.slice xa xs.length xc))
        have HP2 := Lib.hid (ownsRow_setCell_below (own_grown HRx.out HG.out (by have := HS1.out; have := HSB.out; have := HS2.out; omega)) (a := ⟨w.heap.size, 0, none⟩) (by show w.heap.size < w2.heap.size; have := HS1.out; have := HS2.out; omega) (.slice xa xs.length xc))
        have HP3 := Lib.hid (ownsRow_setCell_below HU.out (a := ⟨w.heap.size, 0, none⟩) (by show w.heap.size < W.heap.size; have := HWS.out; omega) (.slice xa xs.length xc))
        have HB4 := Lib.hid ((HBW.out.grown HG.out HBW.out.size (fun k e => by cases e; have := HSB.out; omega)).setCell (p := ⟨w.heap.size, 0, none⟩) (Nat.le_refl _) (.slice xa xs.length xc))
        go_simp
        clear c1 f1 hl1 hz
        generalize wn.setCell ⟨w.heap.size, 0, none⟩ (.slice xa xs.length xc) = wz at hq1 hx1 HP1 HP2 HP3 HB4 ⊢
        refine hK.out _ _ ((cell1 hx1).1) (fun hHeld => ?_)
        clear hK K
        try simp only [Act.put]
        refine take1 (i := 22) (v := ?v91) (some 4) rfl rfl (by kernel_rfl) (by kernel_rfl) (by kernel_rfl) (fun _ _ _ h => h) (Or.inl ⟨by rfl, ?y91⟩) (by assumption) ?r91
        case y91 => (intro w hSw; (try dsimp only at hSw); go_simp; (first | done | with_reducible rfl))
        try simp only [Act.put, List.setIfInBounds_toArray, List.set_cons_zero, List.set_cons_succ]
        refine take1 (i := 23) (v := ?v92) (some 5) rfl rfl (by kernel_rfl) (by kernel_rfl) (by kernel_rfl) (fun _ _ _ h => h) (Or.inl ⟨by rfl, ?y92⟩) (by assumption) ?r92
        case y92 => (intro w hSw; (try dsimp only at hSw); go_simp; (first | done | with_reducible rfl))
        try simp only [Act.put, List.setIfInBounds_toArray, List.set_cons_zero, List.set_cons_succ]
        refine take1 (i := 24) (v := ?v93) (some 6) rfl rfl (by kernel_rfl) (by kernel_rfl) (by kernel_rfl) (fun _ _ _ h => h) (Or.inl ⟨by rfl, ?y93⟩) (by assumption) ?r93
        case y93 => (intro w hSw; (try dsimp only at hSw); go_simp; (first | done | with_reducible rfl))
        try simp only [Act.put, List.setIfInBounds_toArray, List.set_cons_zero, List.set_cons_succ]
        refine wpAnyH_done (by kernel_rfl) ?_ _
        obtain ⟨c3, f3⟩ := cell1 hq1
        clear hq1 hx1
        go_wp2_with fail
        exact bodyPost_ret (v := .tuple #[.slice qa us.length qc, .agg #[.slice xa xs.length xc], .slice qa2 us2.length qc2, .int .i64 z6, .int .i64 z7]) (by simp [results, Tryd.results14, go_sem, c3]) rfl ⟨⟨_, _, _, us, us2, xs, z6, z7, rfl, ⟨own_mono HP1.out (by have := HS1.out; omega), own_mono HP2.out (by have := HS1.out; have := HS2.out; omega), own_mono HP3.out (by have := HWS.out; omega)⟩, HL.out, HL2.out, HZB6.out, HZB7.out⟩, HB4.out⟩
  · go_simp
    obtain ⟨wk, hwk⟩ : ∃ u, wn.alloc (.cells #[.int .i64 1, .int .i64 3, .int .i64 127, .int .i64 10000, .int .i64 0, .int .i64 10001] 3) = u := ⟨_, rfl⟩
    have hal : wn.grownBy wk none := hwk ▸ grown_alloc wn (.cells #[.int .i64 1, .int .i64 3, .int .i64 127, .int .i64 10000, .int .i64 0, .int .i64 10001] 3) none
    have hla : wk.heap[wn.heap.size]? = some (.cells #[.int .i64 1, .int .i64 3, .int .i64 127, .int .i64 10000, .int .i64 0, .int .i64 10001] 3 (0, 0)) := hwk ▸ alloc_at rfl
    have HNA : Hid (wn.heap.size ≠ Wb.heap.size) := Lib.hid (by have := HG.out.size; have := HWS.out; omega)
    rw [hwk]
    clear hwk
    replace HC := Lib.hid (HC.out.old hal)
    have hg := grown_any (r := some Wb.heap.size) hal
    have HLA := Lib.hid hla
    try replace HU := Lib.hid (own_grown HU.out hg (by have := HWS.out; omega))
    try replace HLB := Lib.hid ((hg.block _ (Array.getElem?_eq_some_iff.1 HLB.out).1 (by intro e; injection e with e; exact HNB.out e)).trans HLB.out)
    replace HG := Lib.hid (grown_trans HG.out hg)
    clear hal hla hg
    generalize wn.heap.size = LBA at HNA HLA ⊢
    rename World => wn
    refine hK.out _ _ ((HCL.out _ HG.out)) (fun hHeld => ?_)
    clear hK K
    try simp only [Act.put, List.setIfInBounds_toArray, List.set_cons_zero, List.set_cons_succ]
    refine wpAnyH_ready (rs := [3, 13]) (by kernel_rfl) (by simp) ?_
    refine AllReadyH.cons rfl (fun K hK => ?_) (AllReadyH.cons rfl (fun K hK => ?_) AllReadyH.nil)
    · go_simp
      go_at_call 23
      refine (system7_any Wb.heap.size (.slice ad L.length cp) L (0 + 200 + 100) wn (by omega) HC.out (HRX.out _ HG.out)).mono ?_
      rintro e wn ⟨⟨v2, us2, rfl, ho, hl, hnm⟩, hc, hg⟩
      have HL2 : Hid (us2.length ≤ 7 ∧ ∀ u ∈ us2, u.nm.size ≤ 11) := Lib.hid ⟨hl, hnm⟩
      have HU := Lib.hid (own_mono ho (by have := HG.out.size; omega : W.heap.size ≤ _))
      obtain ⟨qa2, qc2, rfl⟩ := own_form ho
      replace HC := Lib.hid hc
      try replace HLA := Lib.hid ((hg.block _ (Array.getElem?_eq_some_iff.1 HLA.out).1 (by intro e; injection e with e; exact HNA.out e)).trans HLA.out)
      try replace HLB := Lib.hid ((hg.block _ (Array.getElem?_eq_some_iff.1 HLB.out).1 (by intro e; injection e with e; exact HNB.out e)).trans HLB.out)
      replace HG := Lib.hid (grown_trans HG.out hg)
      clear hc hg ho hl hnm
      refine hK.out _ _ ((HCL.out _ HG.out)) (fun hHeld => ?_)
      clear hK K
      try simp only [Act.put, List.setIfInBounds_toArray, List.set_cons_zero, List.set_cons_succ]
      refine wpAnyH_ready (rs := [7, 13]) (by kernel_rfl) (by simp) ?_
      refine AllReadyH.cons rfl (fun K hK => ?_) (AllReadyH.cons rfl (fun K hK => ?_) AllReadyH.nil)
      · go_simp
        go_at_call 26
        refine (pick_any Wb.heap.size (.slice ad L.length cp) L (0 + 200 + 100 + 200) 24 wn (by omega) (by omega) (by omega) HC.out (HRX.out _ HG.out)).mono ?_
        rintro e wn ⟨⟨r6, rfl, r0, r1⟩, hc, hg⟩
        replace HC := Lib.hid hc
        try replace HU := Lib.hid (own_grown HU.out hg (by have := HWS.out; omega))
        try replace HLA := Lib.hid ((hg.block _ (Array.getElem?_eq_some_iff.1 HLA.out).1 (by intro e; injection e with e; exact HNA.out e)).trans HLA.out)
        try replace HLB := Lib.hid ((hg.block _ (Array.getElem?_eq_some_iff.1 HLB.out).1 (by intro e; injection e with e; exact HNB.out e)).trans HLB.out)
        replace HG := Lib.hid (grown_trans HG.out hg)
        clear hc hg
        obtain ⟨m6, hm, hm64, hc6⟩ : ∃ m : Nat, 4 + r6.tdiv 11 = (m : Int) ∧ 4 ≤ m ∧ m ≤ 6 := by
          rw [Int.tdiv_eq_ediv_of_nonneg r0]
          exact ⟨(4 + r6 / 11).toNat, by omega, by omega, by omega⟩
        have hq6 : IntKind.i64.wrap (4 + r6.tdiv 11) = (m6 : Int) := by rw [hm, IntKind.wrap_i64]; omega
        have hp6 : IntKind.i64.wrap (r6.tdiv 11) = r6.tdiv 11 := by rw [IntKind.wrap_i64]; omega
        have hb6 : (0 : Int) ≤ (m6 : Int) ∧ (m6 : Int) ≤ 6 := by omega
        have hbb6 : (m6 : Int) ≤ 6 := by omega
        have hbc6 : (0 : Int) ≤ (m6 : Int) := by omega
        clear hm r0 r1
        refine hK.out _ _ ((HCL.out _ HG.out)) (fun hHeld => ?_)
        clear hK K
        try simp only [Act.put, List.setIfInBounds_toArray, List.set_cons_zero, List.set_cons_succ]
        refine take1 (i := 8) (v := ?v94) (some 26) rfl rfl (by kernel_rfl) (by kernel_rfl) (by kernel_rfl) (fun _ _ _ h => h) (Or.inl ⟨by rfl, ?y94⟩) (by assumption) ?r94
        case y94 => (intro w hSw; (try dsimp only at hSw); go_simp; (first | done | with_reducible rfl))
        try simp only [Act.put, List.setIfInBounds_toArray, List.set_cons_zero, List.set_cons_succ]
        refine take1 (i := 9) (v := ?v95) (some 27) rfl rfl (by kernel_rfl) (by kernel_rfl) (by kernel_rfl) (fun _ _ _ h => h) (Or.inl ⟨by rfl, ?y95⟩) (by assumption) ?r95
        case y95 => (intro w hSw; (try dsimp only at hSw); go_simp; (first | done | with_reducible rfl))
        try simp only [Act.put, List.setIfInBounds_toArray, List.set_cons_zero, List.set_cons_succ]
        refine take1 (i := 10) (v := ?v96) (some 28) rfl rfl (by kernel_rfl) (by kernel_rfl) (by kernel_rfl) (fun _ _ _ h => h) (Or.inl ⟨by rfl, ?y96⟩) (by assumption) ?r96
        case y96 => (intro w hSw; (try dsimp only at hSw); go_simp; (first | done | with_reducible rfl))
        try simp only [Act.put, List.setIfInBounds_toArray, List.set_cons_zero, List.set_cons_succ]
        refine wpAnyH_ready (rs := [11, 13]) (by kernel_rfl) (by simp) ?_
        refine AllReadyH.cons rfl (fun K hK => ?_) (AllReadyH.cons rfl (fun K hK => ?_) AllReadyH.nil)
        · go_simp
          go_at_call 25
          have hs7 := slr_head (xs := [1, 3, 127, 10000, 0, 10001].map (Value.int .i64)) HLA.out (m6) (by show m6 ≤ 6; omega) (by show 6 ≤ maxLen; unfold maxLen; omega)
          rw [← List.map_take] at hs7
          refine (among_any Wb.heap.size (.slice ad L.length cp) L (0 + 200 + 100 + 200 + 2) _ ([1, 3, 127, 10000, 0, 10001].take (m6)) wn (by omega) (by rw [List.length_take]; show 1 ≤ min (m6) 6 ∧ min (m6) 6 ≤ 100; omega) hs7 (fun a m c e => by cases e; exact HNA.out) HC.out (HRX.out _ HG.out)).mono ?_
          rintro e wn ⟨⟨z6, rfl, hz⟩, hc, hg⟩
          have HZB6 : Hid (0 ≤ z6 ∧ z6 ≤ 10001) := Lib.hid (by have := List.mem_of_mem_take hz; simp only [List.mem_cons, List.not_mem_nil, or_false] at this; omega)
          replace HC := Lib.hid hc
          try replace HU := Lib.hid (own_grown HU.out hg (by have := HWS.out; omega))
          try replace HLA := Lib.hid ((hg.block _ (Array.getElem?_eq_some_iff.1 HLA.out).1 (by intro e; injection e with e; exact HNA.out e)).trans HLA.out)
          try replace HLB := Lib.hid ((hg.block _ (Array.getElem?_eq_some_iff.1 HLB.out).1 (by intro e; injection e with e; exact HNB.out e)).trans HLB.out)
          replace HG := Lib.hid (grown_trans HG.out hg)
          clear hc hg hz hs7 hq6 hp6 hb6 hbb6 hbc6
          refine hK.out _ _ ((HCL.out _ HG.out)) (fun hHeld => ?_)
          clear hK K
          try simp only [Act.put, List.setIfInBounds_toArray, List.set_cons_zero, List.set_cons_succ]
          refine wpAnyH_ready (rs := [13, 15]) (by kernel_rfl) (by simp) ?_
          refine AllReadyH.cons rfl (fun K hK => ?_) (AllReadyH.cons rfl (fun K hK => ?_) AllReadyH.nil)
          · go_simp
            obtain ⟨wk, hwk⟩ : ∃ u, wn.alloc (.cells #[.int .i64 1, .int .i64 2, .int .i64 5000, .int .i64 10000, .int .i64 0, .int .i64 10001] 3) = u := ⟨_, rfl⟩
            have hal : wn.grownBy wk none := hwk ▸ grown_alloc wn (.cells #[.int .i64 1, .int .i64 2, .int .i64 5000, .int .i64 10000, .int .i64 0, .int .i64 10001] 3) none
            have hla : wk.heap[wn.heap.size]? = some (.cells #[.int .i64 1, .int .i64 2, .int .i64 5000, .int .i64 10000, .int .i64 0, .int .i64 10001] 3 (0, 0)) := hwk ▸ alloc_at rfl
            have HNB : Hid (wn.heap.size ≠ Wb.heap.size) := Lib.hid (by have := HG.out.size; have := HWS.out; omega)
            rw [hwk]
            clear hwk
            replace HC := Lib.hid (HC.out.old hal)
            have hg := grown_any (r := some Wb.heap.size) hal
            have HLB := Lib.hid hla
            try replace HU := Lib.hid (own_grown HU.out hg (by have := HWS.out; omega))
            try replace HLA := Lib.hid ((hg.block _ (Array.getElem?_eq_some_iff.1 HLA.out).1 (by intro e; injection e with e; exact HNA.out e)).trans HLA.out)
            replace HG := Lib.hid (grown_trans HG.out hg)
            clear hal hla hg
            generalize wn.heap.size = LBB at HNB HLB ⊢
            rename World => wn
            refine hK.out _ _ ((HCL.out _ HG.out)) (fun hHeld => ?_)
            clear hK K
            try simp only [Act.put, List.setIfInBounds_toArray, List.set_cons_zero, List.set_cons_succ]
            refine wpAnyH_ready (rs := [15]) (by kernel_rfl) (by simp) ?_
            refine AllReadyH.cons rfl (fun K hK => ?_) AllReadyH.nil
            go_simp
            go_at_call 26
            refine (pick_any Wb.heap.size (.slice ad L.length cp) L (0 + 200 + 100 + 200 + 2 + 2) 24 wn (by omega) (by omega) (by omega) HC.out (HRX.out _ HG.out)).mono ?_
            rintro e wn ⟨⟨r7, rfl, r0, r1⟩, hc, hg⟩
            replace HC := Lib.hid hc
            try replace HU := Lib.hid (own_grown HU.out hg (by have := HWS.out; omega))
            try replace HLA := Lib.hid ((hg.block _ (Array.getElem?_eq_some_iff.1 HLA.out).1 (by intro e; injection e with e; exact HNA.out e)).trans HLA.out)
            try replace HLB := Lib.hid ((hg.block _ (Array.getElem?_eq_some_iff.1 HLB.out).1 (by intro e; injection e with e; exact HNB.out e)).trans HLB.out)
            replace HG := Lib.hid (grown_trans HG.out hg)
            clear hc hg
            obtain ⟨m7, hm, hm74, hc7⟩ : ∃ m : Nat, 4 + r7.tdiv 11 = (m : Int) ∧ 4 ≤ m ∧ m ≤ 6 := by
              rw [Int.tdiv_eq_ediv_of_nonneg r0]
              exact ⟨(4 + r7 / 11).toNat, by omega, by omega, by omega⟩
            have hq7 : IntKind.i64.wrap (4 + r7.tdiv 11) = (m7 : Int) := by rw [hm, IntKind.wrap_i64]; omega
            have hp7 : IntKind.i64.wrap (r7.tdiv 11) = r7.tdiv 11 := by rw [IntKind.wrap_i64]; omega
            have hb7 : (0 : Int) ≤ (m7 : Int) ∧ (m7 : Int) ≤ 6 := by omega
            have hbb7 : (m7 : Int) ≤ 6 := by omega
            have hbc7 : (0 : Int) ≤ (m7 : Int) := by omega
            clear hm r0 r1
            refine hK.out _ _ ((HCL.out _ HG.out)) (fun hHeld => ?_)
            clear hK K
            try simp only [Act.put, List.setIfInBounds_toArray, List.set_cons_zero, List.set_cons_succ]
            refine take1 (i := 16) (v := ?v97) (some 34) rfl rfl (by kernel_rfl) (by kernel_rfl) (by kernel_rfl) (fun _ _ _ h => h) (Or.inl ⟨by rfl, ?y97⟩) (by assumption) ?r97
            case y97 => (intro w hSw; (try dsimp only at hSw); go_simp; (first | done | with_reducible rfl))
            try simp only [Act.put, List.setIfInBounds_toArray, List.set_cons_zero, List.set_cons_succ]
            refine take1 (i := 17) (v := ?v98) (some 35) rfl rfl (by kernel_rfl) (by kernel_rfl) (by kernel_rfl) (fun _ _ _ h => h) (Or.inl ⟨by rfl, ?y98⟩) (by assumption) ?r98
            case y98 => (intro w hSw; (try dsimp only at hSw); go_simp; (first | done | with_reducible rfl))
            try simp only [Act.put, List.setIfInBounds_toArray, List.set_cons_zero, List.set_cons_succ]
            refine take1 (i := 18) (v := ?v99) (some 36) rfl rfl (by kernel_rfl) (by kernel_rfl) (by kernel_rfl) (fun _ _ _ h => h) (Or.inl ⟨by rfl, ?y99⟩) (by assumption) ?r99
            case y99 => (intro w hSw; (try dsimp only at hSw); go_simp; (first | done | with_reducible rfl))
            try simp only [Act.put, List.setIfInBounds_toArray, List.set_cons_zero, List.set_cons_succ]
            refine wpAnyH_ready (rs := [19]) (by kernel_rfl) (by simp) ?_
            refine AllReadyH.cons rfl (fun K hK => ?_) AllReadyH.nil
            go_simp
            go_at_call 25
            have hs7 := slr_head (xs := [1, 2, 5000, 10000, 0, 10001].map (Value.int .i64)) HLB.out (m7) (by show m7 ≤ 6; omega) (by show 6 ≤ maxLen; unfold maxLen; omega)
            rw [← List.map_take] at hs7
            refine (among_any Wb.heap.size (.slice ad L.length cp) L (0 + 200 + 100 + 200 + 2 + 2 + 2) _ ([1, 2, 5000, 10000, 0, 10001].take (m7)) wn (by omega) (by rw [List.length_take]; show 1 ≤ min (m7) 6 ∧ min (m7) 6 ≤ 100; omega) hs7 (fun a m c e => by cases e; exact HNB.out) HC.out (HRX.out _ HG.out)).mono ?_
            rintro e wn ⟨⟨z7, rfl, hz⟩, hc, hg⟩
            have HZB7 : Hid (0 ≤ z7 ∧ z7 ≤ 10001) := Lib.hid (by have := List.mem_of_mem_take hz; simp only [List.mem_cons, List.not_mem_nil, or_false] at this; omega)
            replace HC := Lib.hid hc
            try replace HU := Lib.hid (own_grown HU.out hg (by have := HWS.out; omega))
            try replace HLA := Lib.hid ((hg.block _ (Array.getElem?_eq_some_iff.1 HLA.out).1 (by intro e; injection e with e; exact HNA.out e)).trans HLA.out)
            try replace HLB := Lib.hid ((hg.block _ (Array.getElem?_eq_some_iff.1 HLB.out).1 (by intro e; injection e with e; exact HNB.out e)).trans HLB.out)
            replace HG := Lib.hid (grown_trans HG.out hg)
            clear hc hg hz hs7 hq7 hp7 hb7 hbb7 hbc7
            refine hK.out _ _ ((HCL.out _ HG.out)) (fun hHeld => ?_)
            clear hK K
            try simp only [Act.put, List.setIfInBounds_toArray, List.set_cons_zero, List.set_cons_succ]
            refine take1 (i := 20) (v := ?v100) (some 2) rfl rfl (by kernel_rfl) (by kernel_rfl) (by kernel_rfl) (fun _ _ _ h => h) (Or.inl ⟨by rfl, ?y100⟩) (by assumption) ?r100
            case y100 => (intro w hSw; (try dsimp only at hSw); go_simp; (first | done | with_reducible rfl))
            try simp only [Act.put, List.setIfInBounds_toArray, List.set_cons_zero, List.set_cons_succ]
            refine wpAnyH_ready (rs := [21]) (by kernel_rfl) (by simp) ?_
            refine AllReadyH.cons rfl (fun K hK => ?_) AllReadyH.nil
            have hz := (HG.out.block w.heap.size (by have := HWS.out; omega) (by intro e; have := HSB.out; injection e with e; omega)).trans HZW.out
            have hl1 := lt_of_block hz
            obtain ⟨c1, f1⟩ := cell1 hz
            have hq1 := box1_set hz (.slice xa xs.length xc)
            have hx1 := (heap_setCell_other wn ⟨w.heap.size, 0, none⟩ BX (.slice xa xs.length xc) (by show BX ≠ w.heap.size; have := HBX.out; omega)).trans ((HG.out.block BX (by have := HBX.out; omega) (by intro e; have := HBX.out; have := HSB.out; injection e with e; omega)).trans HKX.out)
            have HP1 := Lib.hid (ownsRow_setCell_below (own_grown HRu.out HG.out (by have := HS1.out; have := HSB.out; omega)) (a := ⟨w.heap.size, 0, none⟩) (by show w.heap.size < W1.heap.size; have := HS1.out; omega) (.slice xa xs.length xc))
            have HP2 := Lib.hid (ownsRow_setCell_below (own_grown HRx.out HG.out (by have := HS1.out; have := HSB.out; have := HS2.out; omega)) (a := ⟨w.heap.size, 0, none⟩) (by show w.heap.size < w2.heap.size; have := HS1.out; have := HS2.out; omega) (.slice xa xs.length xc))
            have HP3 := Lib.hid (ownsRow_setCell_below HU.out (a := ⟨w.heap.size, 0, none⟩) (by show w.heap.size < W.heap.size; have := HWS.out; omega) (.slice xa xs.length xc))
            have HB4 := Lib.hid ((HBW.out.grown HG.out HBW.out.size (fun k e => by cases e; have := HSB.out; omega)).setCell (p := ⟨w.heap.size, 0, none⟩) (Nat.le_refl _) (.slice xa xs.length xc))
            go_simp
            clear c1 f1 hl1 hz
            generalize wn.setCell ⟨w.heap.size, 0, none⟩ (.slice xa xs.length xc) = wz at hq1 hx1 HP1 HP2 HP3 HB4 ⊢
            refine hK.out _ _ ((cell1 hx1).1) (fun hHeld => ?_)
            clear hK K
            try simp only [Act.put]
            refine take1 (i := 22) (v := ?v101) (some 4) rfl rfl (by kernel_rfl) (by kernel_rfl) (by kernel_rfl) (fun _ _ _ h => h) (Or.inl ⟨by rfl, ?y101⟩) (by assumption) ?r101
            case y101 => (intro w hSw; (try dsimp only at hSw); go_simp; (first | done | with_reducible rfl))
            try simp only [Act.put, List.setIfInBounds_toArray, List.set_cons_zero, List.set_cons_succ]
            refine take1 (i := 23) (v := ?v102) (some 5) rfl rfl (by kernel_rfl) (by kernel_rfl) (by kernel_rfl) (fun _ _ _ h => h) (Or.inl ⟨by rfl, ?y102⟩) (by assumption) ?r102
            case y102 => (intro w hSw; (try dsimp only at hSw); go_simp; (first | done | with_reducible rfl))
            try simp only [Act.put, List.setIfInBounds_toArray, List.set_cons_zero, List.set_cons_succ]
            refine take1 (i := 24) (v := ?v103) (some 6) rfl rfl (by kernel_rfl) (by kernel_rfl) (by kernel_rfl) (fun _ _ _ h => h) (Or.inl ⟨by rfl, ?y103⟩) (by assumption) ?r103
            case y103 => (intro w hSw; (try dsimp only at hSw); go_simp; (first | done | with_reducible rfl))
            try simp only [Act.put, List.setIfInBounds_toArray, List.set_cons_zero, List.set_cons_succ]
            refine wpAnyH_done (by kernel_rfl) ?_ _
            obtain ⟨c3, f3⟩ := cell1 hq1
            clear hq1 hx1
            go_wp2_with fail
            exact bodyPost_ret (v := .tuple #[.slice qa us.length qc, .agg #[.slice xa xs.length xc], .slice qa2 us2.length qc2, .int .i64 z6, .int .i64 z7]) (by simp [results, Tryd.results14, go_sem, c3]) rfl ⟨⟨_, _, _, us, us2, xs, z6, z7, rfl, ⟨own_mono HP1.out (by have := HS1.out; omega), own_mono HP2.out (by have := HS1.out; have := HS2.out; omega), own_mono HP3.out (by have := HWS.out; omega)⟩, HL.out, HL2.out, HZB6.out, HZB7.out⟩, HB4.out⟩
          · go_simp
            go_at_call 26
            refine (pick_any Wb.heap.size (.slice ad L.length cp) L (0 + 200 + 100 + 200 + 2 + 2) 24 wn (by omega) (by omega) (by omega) HC.out (HRX.out _ HG.out)).mono ?_
            rintro e wn ⟨⟨r7, rfl, r0, r1⟩, hc, hg⟩
            replace HC := Lib.hid hc
            try replace HU := Lib.hid (own_grown HU.out hg (by have := HWS.out; omega))
            try replace HLA := Lib.hid ((hg.block _ (Array.getElem?_eq_some_iff.1 HLA.out).1 (by intro e; injection e with e; exact HNA.out e)).trans HLA.out)
            try replace HLB := Lib.hid ((hg.block _ (Array.getElem?_eq_some_iff.1 HLB.out).1 (by intro e; injection e with e; exact HNB.out e)).trans HLB.out)
            replace HG := Lib.hid (grown_trans HG.out hg)
            clear hc hg
            obtain ⟨m7, hm, hm74, hc7⟩ : ∃ m : Nat, 4 + r7.tdiv 11 = (m : Int) ∧ 4 ≤ m ∧ m ≤ 6 := by
              rw [Int.tdiv_eq_ediv_of_nonneg r0]
              exact ⟨(4 + r7 / 11).toNat, by omega, by omega, by omega⟩
            have hq7 : IntKind.i64.wrap (4 + r7.tdiv 11) = (m7 : Int) := by rw [hm, IntKind.wrap_i64]; omega
            have hp7 : IntKind.i64.wrap (r7.tdiv 11) = r7.tdiv 11 := by rw [IntKind.wrap_i64]; omega
            have hb7 : (0 : Int) ≤ (m7 : Int) ∧ (m7 : Int) ≤ 6 := by omega
            have hbb7 : (m7 : Int) ≤ 6 := by omega
            have hbc7 : (0 : Int) ≤ (m7 : Int) := by omega
            clear hm r0 r1
            refine hK.out _ _ ((HCL.out _ HG.out)) (fun hHeld => ?_)
            clear hK K
            try simp only [Act.put, List.setIfInBounds_toArray, List.set_cons_zero, List.set_cons_succ]
            refine take1 (i := 16) (v := ?v104) (some 34) rfl rfl (by kernel_rfl) (by kernel_rfl) (by kernel_rfl) (fun _ _ _ h => h) (Or.inl ⟨by rfl, ?y104⟩) (by assumption) ?r104
            case y104 => (intro w hSw; (try dsimp only at hSw); go_simp; (first | done | with_reducible rfl))
            try simp only [Act.put, List.setIfInBounds_toArray, List.set_cons_zero, List.set_cons_succ]
            refine take1 (i := 17) (v := ?v105) (some 35) rfl rfl (by kernel_rfl) (by kernel_rfl) (by kernel_rfl) (fun _ _ _ h => h) (Or.inl ⟨by rfl, ?y105⟩) (by assumption) ?r105
            case y105 => (intro w hSw; (try dsimp only at hSw); go_simp; (first | done | with_reducible rfl))
            try simp only [Act.put, List.setIfInBounds_toArray, List.set_cons_zero, List.set_cons_succ]
            refine wpAnyH_ready (rs := [13]) (by kernel_rfl) (by simp) ?_
            refine AllReadyH.cons rfl (fun K hK => ?_) AllReadyH.nil
            go_simp
            obtain ⟨wk, hwk⟩ : ∃ u, wn.alloc (.cells #[.int .i64 1, .int .i64 2, .int .i64 5000, .int .i64 10000, .int .i64 0, .int .i64 10001] 3) = u := ⟨_, rfl⟩
            have hal : wn.grownBy wk none := hwk ▸ grown_alloc wn (.cells #[.int .i64 1, .int .i64 2, .int .i64 5000, .int .i64 10000, .int .i64 0, .int .i64 10001] 3) none
            have hla : wk.heap[wn.heap.size]? = some (.cells #[.int .i64 1, .int .i64 2, .int .i64 5000, .int .i64 10000, .int .i64 0, .int .i64 10001] 3 (0, 0)) := hwk ▸ alloc_at rfl
            have HNB : Hid (wn.heap.size ≠ Wb.heap.size) := Lib.hid (by have := HG.out.size; have := HWS.out; omega)
            rw [hwk]
            clear hwk
            replace HC := Lib.hid (HC.out.old hal)
            have hg := grown_any (r := some Wb.heap.size) hal
            have HLB := Lib.hid hla
            try replace HU := Lib.hid (own_grown HU.out hg (by have := HWS.out; omega))
            try replace HLA := Lib.hid ((hg.block _ (Array.getElem?_eq_some_iff.1 HLA.out).1 (by intro e; injection e with e; exact HNA.out e)).trans HLA.out)
            replace HG := Lib.hid (grown_trans HG.out hg)
            clear hal hla hg
            generalize wn.heap.size = LBB at HNB HLB ⊢
            rename World => wn
            refine hK.out _ _ ((HCL.out _ HG.out)) (fun hHeld => ?_)
            clear hK K
            try simp only [Act.put, List.setIfInBounds_toArray, List.set_cons_zero, List.set_cons_succ]
            refine take1 (i := 18) (v := ?v106) (some 36) rfl rfl (by kernel_rfl) (by kernel_rfl) (by kernel_rfl) (fun _ _ _ h => h) (Or.inl ⟨by rfl, ?y106⟩) (by assumption) ?r106
            case y106 => (intro w hSw; (try dsimp only at hSw); go_simp; (first | done | with_reducible rfl))
            try simp only [Act.put, List.setIfInBounds_toArray, List.set_cons_zero, List.set_cons_succ]
            refine wpAnyH_ready (rs := [19]) (by kernel_rfl) (by simp) ?_
            refine AllReadyH.cons rfl (fun K hK => ?_) AllReadyH.nil
            go_simp
            go_at_call 25
            have hs7 := slr_head (xs := [1, 2, 5000, 10000, 0, 10001].map (Value.int .i64)) HLB.out (m7) (by show m7 ≤ 6; omega) (by show 6 ≤ maxLen; unfold maxLen; omega)
            rw [← List.map_take] at hs7
            refine (among_any Wb.heap.size (.slice ad L.length cp) L (0 + 200 + 100 + 200 + 2 + 2 + 2) _ ([1, 2, 5000, 10000, 0, 10001].take (m7)) wn (by omega) (by rw [List.length_take]; show 1 ≤ min (m7) 6 ∧ min (m7) 6 ≤ 100; omega) hs7 (fun a m c e => by cases e; exact HNB.out) HC.out (HRX.out _ HG.out)).mono ?_
            rintro e wn ⟨⟨z7, rfl, hz⟩, hc, hg⟩
            have HZB7 : Hid (0 ≤ z7 ∧ z7 ≤ 10001) := Lib.hid (by have := List.mem_of_mem_take hz; simp only [List.mem_cons, List.not_mem_nil, or_false] at this; omega)
            replace HC := Lib.hid hc
            try replace HU := Lib.hid (own_grown HU.out hg (by have := HWS.out; omega))
            try replace HLA := Lib.hid ((hg.block _ (Array.getElem?_eq_some_iff.1 HLA.out).1 (by intro e; injection e with e; exact HNA.out e)).trans HLA.out)
            try replace HLB := Lib.hid ((hg.block _ (Array.getElem?_eq_some_iff.1 HLB.out).1 (by intro e; injection e with e; exact HNB.out e)).trans HLB.out)
            replace HG := Lib.hid (grown_trans HG.out hg)
            clear hc hg hz hs7 hq7 hp7 hb7 hbb7 hbc7
            refine hK.out _ _ ((HCL.out _ HG.out)) (fun hHeld => ?_)
            clear hK K
            try simp only [Act.put, List.setIfInBounds_toArray, List.set_cons_zero, List.set_cons_succ]
            refine take1 (i := 20) (v := ?v107) (some 2) rfl rfl (by kernel_rfl) (by kernel_rfl) (by kernel_rfl) (fun _ _ _ h => h) (Or.inl ⟨by rfl, ?y107⟩) (by assumption) ?r107
            case y107 => (intro w hSw; (try dsimp only at hSw); go_simp; (first | done | with_reducible rfl))
            try simp only [Act.put, List.setIfInBounds_toArray, List.set_cons_zero, List.set_cons_succ]
            refine wpAnyH_ready (rs := [21]) (by kernel_rfl) (by simp) ?_
            refine AllReadyH.cons rfl (fun K hK => ?_) AllReadyH.nil
            have hz := (HG.out.block w.heap.size (by have := HWS.out; omega) (by intro e; have := HSB.out; injection e with e; omega)).trans HZW.out
            have hl1 := lt_of_block hz
            obtain ⟨c1, f1⟩ := cell1 hz
            have hq1 := box1_set hz (.slice xa xs.length xc)
            have hx1 := (heap_setCell_other wn ⟨w.heap.size, 0, none⟩ BX (.slice xa xs.length xc) (by show BX ≠ w.heap.size; have := HBX.out; omega)).trans ((HG.out.block BX (by have := HBX.out; omega) (by intro e; have := HBX.out; have := HSB.out; injection e with e; omega)).trans HKX.out)
            have HP1 := Lib.hid (ownsRow_setCell_below (own_grown HRu.out HG.out (by have := HS1.out; have := HSB.out; omega)) (a := ⟨w.heap.size, 0, none⟩) (by show w.heap.size < W1.heap.size; have := HS1.out; omega) (.slice xa xs.length xc))
            have HP2 := Lib.hid (ownsRow_setCell_below (own_grown HRx.out HG.out (by have := HS1.out; have := HSB.out; have := HS2.out; omega)) (a := ⟨w.heap.size, 0, none⟩) (by show w.heap.size < w2.heap.size; have := HS1.out; have := HS2.out; omega) (.slice xa xs.length xc))
            have HP3 := Lib.hid (ownsRow_setCell_below HU.out (a := ⟨w.heap.size, 0, none⟩) (by show w.heap.size < W.heap.size; have := HWS.out; omega) (.slice xa xs.length xc))
            have HB4 := Lib.hid ((HBW.out.grown HG.out HBW.out.size (fun k e => by cases e; have := HSB.out; omega)).setCell (p := ⟨w.heap.size, 0, none⟩) (Nat.le_refl _) (.slice xa xs.length xc))
            go_simp
            clear c1 f1 hl1 hz
            generalize wn.setCell ⟨w.heap.size, 0, none⟩ (.slice xa xs.length xc) = wz at hq1 hx1 HP1 HP2 HP3 HB4 ⊢
            refine hK.out _ _ ((cell1 hx1).1) (fun hHeld => ?_)
            clear hK K
            try simp only [Act.put]
            refine take1 (i := 22) (v := ?v108) (some 4) rfl rfl (by kernel_rfl) (by kernel_rfl) (by kernel_rfl) (fun _ _ _ h => h) (Or.inl ⟨by rfl, ?y108⟩) (by assumption) ?r108
            case y108 => (intro w hSw; (try dsimp only at hSw); go_simp; (first | done | with_reducible rfl))
            try simp only [Act.put, List.setIfInBounds_toArray, List.set_cons_zero, List.set_cons_succ]
            refine take1 (i := 23) (v := ?v109) (some 5) rfl rfl (by kernel_rfl) (by kernel_rfl) (by kernel_rfl) (fun _ _ _ h => h) (Or.inl ⟨by rfl, ?y109⟩) (by assumption) ?r109
            case y109 => (intro w hSw; (try dsimp only at hSw); go_simp; (first | done | with_reducible rfl))
            try simp only [Act.put, List.setIfInBounds_toArray, List.set_cons_zero, List.set_cons_succ]
            refine take1 (i := 24) (v := ?v110) (some 6) rfl rfl (by kernel_rfl) (by kernel_rfl) (by kernel_rfl) (fun _ _ _ h => h) (Or.inl ⟨by rfl, ?y110⟩) (by assumption) ?r110
            case y110 => (intro w hSw; (try dsimp only at hSw); go_simp; (first | done | with_reducible rfl))
            try simp only [Act.put, List.setIfInBounds_toArray, List.set_cons_zero, List.set_cons_succ]
            refine wpAnyH_done (by kernel_rfl) ?_ _
            obtain ⟨c3, f3⟩ := cell1 hq1
            clear hq1 hx1
            go_wp2_with fail
            exact bodyPost_ret (v := .tuple #[.slice qa us.length qc, .agg #[.slice xa xs.length xc], .slice qa2 us2.length qc2, .int .i64 z6, .int .i64 z7]) (by simp [results, Tryd.results14, go_sem, c3]) rfl ⟨⟨_, _, _, us, us2, xs, z6, z7, rfl, ⟨own_mono HP1.out (by have := HS1.out; omega), own_mono HP2.out (by have := HS1.out; have := HS2.out; omega), own_mono HP3.out (by have := HWS.out; omega)⟩, HL.out, HL2.out, HZB6.out, HZB7.out⟩, HB4.out⟩
        · go_simp
          obtain ⟨wk, hwk⟩ : ∃ u, wn.alloc (.cells #[.int .i64 1, .int .i64 2, .int .i64 5000, .int .i64 10000, .int .i64 0, .int .i64 10001] 3) = u := ⟨_, rfl⟩
          have hal : wn.grownBy wk none := hwk ▸ grown_alloc wn (.cells #[.int .i64 1, .int .i64 2, .int .i64 5000, .int .i64 10000, .int .i64 0, .int .i64 10001] 3) none
          have hla : wk.heap[wn.heap.size]? = some (.cells #[.int .i64 1, .int .i64 2, .int .i64 5000, .int .i64 10000, .int .i64 0, .int .i64 10001] 3 (0, 0)) := hwk ▸ alloc_at rfl
          have HNB : Hid (wn.heap.size ≠ Wb.heap.size) := Lib.hid (by have := HG.out.size; have := HWS.out; omega)
          rw [hwk]
          clear hwk
          replace HC := Lib.hid (HC.out.old hal)
          have hg := grown_any (r := some Wb.heap.size) hal
          have HLB := Lib.hid hla
          try replace HU := Lib.hid (own_grown HU.out hg (by have := HWS.out; omega))
          try replace HLA := Lib.hid ((hg.block _ (Array.getElem?_eq_some_iff.1 HLA.out).1 (by intro e; injection e with e; exact HNA.out e)).trans HLA.out)
          replace HG := Lib.hid (grown_trans HG.out hg)
          clear hal hla hg
          generalize wn.heap.size = LBB at HNB HLB ⊢
          rename World => wn
          refine hK.out _ _ ((HCL.out _ HG.out)) (fun hHeld => ?_)
          clear hK K
          try simp only [Act.put, List.setIfInBounds_toArray, List.set_cons_zero, List.set_cons_succ]
          refine wpAnyH_ready (rs := [11]) (by kernel_rfl) (by simp) ?_
          refine AllReadyH.cons rfl (fun K hK => ?_) AllReadyH.nil
          go_simp
          go_at_call 25
          have hs7 := slr_head (xs := [1, 3, 127, 10000, 0, 10001].map (Value.int .i64)) HLA.out (m6) (by show m6 ≤ 6; omega) (by show 6 ≤ maxLen; unfold maxLen; omega)
          rw [← List.map_take] at hs7
          refine (among_any Wb.heap.size (.slice ad L.length cp) L (0 + 200 + 100 + 200 + 2) _ ([1, 3, 127, 10000, 0, 10001].take (m6)) wn (by omega) (by rw [List.length_take]; show 1 ≤ min (m6) 6 ∧ min (m6) 6 ≤ 100; omega) hs7 (fun a m c e => by cases e; exact HNA.out) HC.out (HRX.out _ HG.out)).mono ?_
          rintro e wn ⟨⟨z6, rfl, hz⟩, hc, hg⟩
          have HZB6 : Hid (0 ≤ z6 ∧ z6 ≤ 10001) := Lib.hid (by have := List.mem_of_mem_take hz; simp only [List.mem_cons, List.not_mem_nil, or_false] at this; omega)
          replace HC := Lib.hid hc
          try replace HU := Lib.hid (own_grown HU.out hg (by have := HWS.out; omega))
          try replace HLA := Lib.hid ((hg.block _ (Array.getElem?_eq_some_iff.1 HLA.out).1 (by intro e; injection e with e; exact HNA.out e)).trans HLA.out)
          try replace HLB := Lib.hid ((hg.block _ (Array.getElem?_eq_some_iff.1 HLB.out).1 (by intro e; injection e with e; exact HNB.out e)).trans HLB.out)
          replace HG := Lib.hid (grown_trans HG.out hg)
          clear hc hg hz hs7 hq6 hp6 hb6 hbb6 hbc6
          refine hK.out _ _ ((HCL.out _ HG.out)) (fun hHeld => ?_)
          clear hK K
          try simp only [Act.put, List.setIfInBounds_toArray, List.set_cons_zero, List.set_cons_succ]
          refine wpAnyH_ready (rs := [15]) (by kernel_rfl) (by simp) ?_
          refine AllReadyH.cons rfl (fun K hK => ?_) AllReadyH.nil
          go_simp
          go_at_call 26
          refine (pick_any Wb.heap.size (.slice ad L.length cp) L (0 + 200 + 100 + 200 + 2 + 2) 24 wn (by omega) (by omega) (by omega) HC.out (HRX.out _ HG.out)).mono ?_
          rintro e wn ⟨⟨r7, rfl, r0, r1⟩, hc, hg⟩
          replace HC := Lib.hid hc
          try replace HU := Lib.hid (own_grown HU.out hg (by have := HWS.out; omega))
          try replace HLA := Lib.hid ((hg.block _ (Array.getElem?_eq_some_iff.1 HLA.out).1 (by intro e; injection e with e; exact HNA.out e)).trans HLA.out)
          try replace HLB := Lib.hid ((hg.block _ (Array.getElem?_eq_some_iff.1 HLB.out).1 (by intro e; injection e with e; exact HNB.out e)).trans HLB.out)
          replace HG := Lib.hid (grown_trans HG.out hg)
          clear hc hg
          obtain ⟨m7, hm, hm74, hc7⟩ : ∃ m : Nat, 4 + r7.tdiv 11 = (m : Int) ∧ 4 ≤ m ∧ m ≤ 6 := by
            rw [Int.tdiv_eq_ediv_of_nonneg r0]
            exact ⟨(4 + r7 / 11).toNat, by omega, by omega, by omega⟩
          have hq7 : IntKind.i64.wrap (4 + r7.tdiv 11) = (m7 : Int) := by rw [hm, IntKind.wrap_i64]; omega
          have hp7 : IntKind.i64.wrap (r7.tdiv 11) = r7.tdiv 11 := by rw [IntKind.wrap_i64]; omega
          have hb7 : (0 : Int) ≤ (m7 : Int) ∧ (m7 : Int) ≤ 6 := by omega
          have hbb7 : (m7 : Int) ≤ 6 := by omega
          have hbc7 : (0 : Int) ≤ (m7 : Int) := by omega
          clear hm r0 r1
          refine hK.out _ _ ((HCL.out _ HG.out)) (fun hHeld => ?_)
          clear hK K
          try simp only [Act.put, List.setIfInBounds_toArray, List.set_cons_zero, List.set_cons_succ]
          refine take1 (i := 16) (v := ?v111) (some 34) rfl rfl (by kernel_rfl) (by kernel_rfl) (by kernel_rfl) (fun _ _ _ h => h) (Or.inl ⟨by rfl, ?y111⟩) (by assumption) ?r111
          case y111 => (intro w hSw; (try dsimp only at hSw); go_simp; (first | done | with_reducible rfl))
          try simp only [Act.put, List.setIfInBounds_toArray, List.set_cons_zero, List.set_cons_succ]
          refine take1 (i := 17) (v := ?v112) (some 35) rfl rfl (by kernel_rfl) (by kernel_rfl) (by kernel_rfl) (fun _ _ _ h => h) (Or.inl ⟨by rfl, ?y112⟩) (by assumption) ?r112
          case y112 => (intro w hSw; (try dsimp only at hSw); go_simp; (first | done | with_reducible rfl))
          try simp only [Act.put, List.setIfInBounds_toArray, List.set_cons_zero, List.set_cons_succ]
          refine take1 (i := 18) (v := ?v113) (some 36) rfl rfl (by kernel_rfl) (by kernel_rfl) (by kernel_rfl) (fun _ _ _ h => h) (Or.inl ⟨by rfl, ?y113⟩) (by assumption) ?r113
          case y113 => (intro w hSw; (try dsimp only at hSw); go_simp; (first | done | with_reducible rfl))
          try simp only [Act.put, List.setIfInBounds_toArray, List.set_cons_zero, List.set_cons_succ]
          refine wpAnyH_ready (rs := [19]) (by kernel_rfl) (by simp) ?_
          refine AllReadyH.cons rfl (fun K hK => ?_) AllReadyH.nil
          go_simp
          go_at_call 25
          have hs7 := slr_head (xs := [1, 2, 5000, 10000, 0, 10001].map (Value.int .i64)) HLB.out (m7) (by show m7 ≤ 6; omega) (by show 6 ≤ maxLen; unfold maxLen; omega)
          rw [← List.map_take] at hs7
          refine (among_any Wb.heap.size (.slice ad L.length cp) L (0 + 200 + 100 + 200 + 2 + 2 + 2) _ ([1, 2, 5000, 10000, 0, 10001].take (m7)) wn (by omega) (by rw [List.length_take]; show 1 ≤ min (m7) 6 ∧ min (m7) 6 ≤ 100; omega) hs7 (fun a m c e => by cases e; exact HNB.out) HC.out (HRX.out _ HG.out)).mono ?_
          rintro e wn ⟨⟨z7, rfl, hz⟩, hc, hg⟩
          have HZB7 : Hid (0 ≤ z7 ∧ z7 ≤ 10001) := Lib.hid (by have := List.mem_of_mem_take hz; simp only [List.mem_cons, List.not_mem_nil, or_false] at this; omega)
          replace HC := Lib.hid hc
          try replace HU := Lib.hid (own_grown HU.out hg (by have := HWS.out; omega))
          try replace HLA := Lib.hid ((hg.block _ (Array.getElem?_eq_some_iff.1 HLA.out).1 (by intro e; injection e with e; exact HNA.out e)).trans HLA.out)
          try replace HLB := Lib.hid ((hg.block _ (Array.getElem?_eq_some_iff.1 HLB.out).1 (by intro e; injection e with e; exact HNB.out e)).trans HLB.out)
          replace HG := Lib.hid (grown_trans HG.out hg)
          clear hc hg hz hs7 hq7 hp7 hb7 hbb7 hbc7
          refine hK.out _ _ ((HCL.out _ HG.out)) (fun hHeld => ?_)
          clear hK K
          try simp only [Act.put, List.setIfInBounds_toArray, List.set_cons_zero, List.set_cons_succ]
          refine take1 (i := 20) (v := ?v114) (some 2) rfl rfl (by kernel_rfl) (by kernel_rfl) (by kernel_rfl) (fun _ _ _ h => h) (Or.inl ⟨by rfl, ?y114⟩) (by assumption) ?r114
          case y114 => (intro w hSw; (try dsimp only at hSw); go_simp; (first | done | with_reducible rfl))
          try simp only [Act.put, List.setIfInBounds_toArray, List.set_cons_zero, List.set_cons_succ]
          refine wpAnyH_ready (rs := [21]) (by kernel_rfl) (by simp) ?_
          refine AllReadyH.cons rfl (fun K hK => ?_) AllReadyH.nil
          have hz := (HG.out.block w.heap.size (by have := HWS.out; omega) (by intro e; have := HSB.out; injection e with e; omega)).trans HZW.out
          have hl1 := lt_of_block hz
          obtain ⟨c1, f1⟩ := cell1 hz
          have hq1 := box1_set hz (.slice xa xs.length xc)
          have hx1 := (heap_setCell_other wn ⟨w.heap.size, 0, none⟩ BX (.slice xa xs.length xc) (by show BX ≠ w.heap.size; have := HBX.out; omega)).trans ((HG.out.block BX (by have := HBX.out; omega) (by intro e; have := HBX.out; have := HSB.out; injection e with e; omega)).trans HKX.out)
          have HP1 := Lib.hid (ownsRow_setCell_below (own_grown HRu.out HG.out (by have := HS1.out; have := HSB.out; omega)) (a := ⟨w.heap.size, 0, none⟩) (by show w.heap.size < W1.heap.size; have := HS1.out; omega) (.slice xa xs.length xc))
          have HP2 := Lib.hid (ownsRow_setCell_below (own_grown HRx.out HG.out (by have := HS1.out; have := HSB.out; have := HS2.out; omega)) (a := ⟨w.heap.size, 0, none⟩) (by show w.heap.size < w2.heap.size; have := HS1.out; have := HS2.out; omega) (.slice xa xs.length xc))
          have HP3 := Lib.hid (ownsRow_setCell_below HU.out (a := ⟨w.heap.size, 0, none⟩) (by show w.heap.size < W.heap.size; have := HWS.out; omega) (.slice xa xs.length xc))
          have HB4 := Lib.hid ((HBW.out.grown HG.out HBW.out.size (fun k e => by cases e; have := HSB.out; omega)).setCell (p := ⟨w.heap.size, 0, none⟩) (Nat.le_refl _) (.slice xa xs.length xc))
          go_simp
          clear c1 f1 hl1 hz
          generalize wn.setCell ⟨w.heap.size, 0, none⟩ (.slice xa xs.length xc) = wz at hq1 hx1 HP1 HP2 HP3 HB4 ⊢
          refine hK.out _ _ ((cell1 hx1).1) (fun hHeld => ?_)
          clear hK K
          try simp only [Act.put]
          refine take1 (i := 22) (v := ?v115) (some 4) rfl rfl (by kernel_rfl) (by kernel_rfl) (by kernel_rfl) (fun _ _ _ h => h) (Or.inl ⟨by rfl, ?y115⟩) (by assumption) ?r115
          case y115 => (intro w hSw; (try dsimp only at hSw); go_simp; (first | done | with_reducible rfl))
          try simp only [Act.put, List.setIfInBounds_toArray, List.set_cons_zero, List.set_cons_succ]
          refine take1 (i := 23) (v := ?v116) (some 5) rfl rfl (by kernel_rfl) (by kernel_rfl) (by kernel_rfl) (fun _ _ _ h => h) (Or.inl ⟨by rfl, ?y116⟩) (by assumption) ?r116
          case y116 => (intro w hSw; (try dsimp only at hSw); go_simp; (first | done | with_reducible rfl))
          try simp only [Act.put, List.setIfInBounds_toArray, List.set_cons_zero, List.set_cons_succ]
          refine take1 (i := 24) (v := ?v117) (some 6) rfl rfl (by kernel_rfl) (by kernel_rfl) (by kernel_rfl) (fun _ _ _ h => h) (Or.inl ⟨by rfl, ?y117⟩) (by assumption) ?r117
          case y117 => (intro w hSw; (try dsimp only at hSw); go_simp; (first | done | with_reducible rfl))
          try simp only [Act.put, List.setIfInBounds_toArray, List.set_cons_zero, List.set_cons_succ]
          refine wpAnyH_done (by kernel_rfl) ?_ _
          obtain ⟨c3, f3⟩ := cell1 hq1
          clear hq1 hx1
          go_wp2_with fail
          exact bodyPost_ret (v := .tuple #[.slice qa us.length qc, .agg #[.slice xa xs.length xc], .slice qa2 us2.length qc2, .int .i64 z6, .int .i64 z7]) (by simp [results, Tryd.results14, go_sem, c3]) rfl ⟨⟨_, _, _, us, us2, xs, z6, z7, rfl, ⟨own_mono HP1.out (by have := HS1.out; omega), own_mono HP2.out (by have := HS1.out; have := HS2.out; omega), own_mono HP3.out (by have := HWS.out; omega)⟩, HL.out, HL2.out, HZB6.out, HZB7.out⟩, HB4.out⟩
      · go_simp
        obtain ⟨wk, hwk⟩ : ∃ u, wn.alloc (.cells #[.int .i64 1, .int .i64 2, .int .i64 5000, .int .i64 10000, .int .i64 0, .int .i64 10001] 3) = u := ⟨_, rfl⟩
        have hal : wn.grownBy wk none := hwk ▸ grown_alloc wn (.cells #[.int .i64 1, .int .i64 2, .int .i64 5000, .int .i64 10000, .int .i64 0, .int .i64 10001] 3) none
        have hla : wk.heap[wn.heap.size]? = some (.cells #[.int .i64 1, .int .i64 2, .int .i64 5000, .int .i64 10000, .int .i64 0, .int .i64 10001] 3 (0, 0)) := hwk ▸ alloc_at rfl
        have HNB : Hid (wn.heap.size ≠ Wb.heap.size) := Lib.hid (by have := HG.out.size; have := HWS.out; omega)
        rw [hwk]
        clear hwk
        replace HC := Lib.hid (HC.out.old hal)
        have hg := grown_any (r := some Wb.heap.size) hal
        have HLB := Lib.hid hla
        try replace HU := Lib.hid (own_grown HU.out hg (by have := HWS.out; omega))
        try replace HLA := Lib.hid ((hg.block _ (Array.getElem?_eq_some_iff.1 HLA.out).1 (by intro e; injection e with e; exact HNA.out e)).trans HLA.out)
        replace HG := Lib.hid (grown_trans HG.out hg)
        clear hal hla hg
        generalize wn.heap.size = LBB at HNB HLB ⊢
        rename World => wn
        refine hK.out _ _ ((HCL.out _ HG.out)) (fun hHeld => ?_)
        clear hK K
        try simp only [Act.put, List.setIfInBounds_toArray, List.set_cons_zero, List.set_cons_succ]
        refine wpAnyH_ready (rs := [7]) (by kernel_rfl) (by simp) ?_
        refine AllReadyH.cons rfl (fun K hK => ?_) AllReadyH.nil
        go_simp
        go_at_call 26
        refine (pick_any Wb.heap.size (.slice ad L.length cp) L (0 + 200 + 100 + 200) 24 wn (by omega) (by omega) (by omega) HC.out (HRX.out _ HG.out)).mono ?_
        rintro e wn ⟨⟨r6, rfl, r0, r1⟩, hc, hg⟩
        replace HC := Lib.hid hc
        try replace HU := Lib.hid (own_grown HU.out hg (by have := HWS.out; omega))
        try replace HLA := Lib.hid ((hg.block _ (Array.getElem?_eq_some_iff.1 HLA.out).1 (by intro e; injection e with e; exact HNA.out e)).trans HLA.out)
        try replace HLB := Lib.hid ((hg.block _ (Array.getElem?_eq_some_iff.1 HLB.out).1 (by intro e; injection e with e; exact HNB.out e)).trans HLB.out)
        replace HG := Lib.hid (grown_trans HG.out hg)
        clear hc hg
        obtain ⟨m6, hm, hm64, hc6⟩ : ∃ m : Nat, 4 + r6.tdiv 11 = (m : Int) ∧ 4 ≤ m ∧ m ≤ 6 := by
          rw [Int.tdiv_eq_ediv_of_nonneg r0]
          exact ⟨(4 + r6 / 11).toNat, by omega, by omega, by omega⟩
        have hq6 : IntKind.i64.wrap (4 + r6.tdiv 11) = (m6 : Int) := by rw [hm, IntKind.wrap_i64]; omega
        have hp6 : IntKind.i64.wrap (r6.tdiv 11) = r6.tdiv 11 := by rw [IntKind.wrap_i64]; omega
        have hb6 : (0 : Int) ≤ (m6 : Int) ∧ (m6 : Int) ≤ 6 := by omega
        have hbb6 : (m6 : Int) ≤ 6 := by omega
        have hbc6 : (0 : Int) ≤ (m6 : Int) := by omega
        clear hm r0 r1
        refine hK.out _ _ ((HCL.out _ HG.out)) (fun hHeld => ?_)
        clear hK K
        try simp only [Act.put, List.setIfInBounds_toArray, List.set_cons_zero, List.set_cons_succ]
        refine take1 (i := 8) (v := ?v118) (some 26) rfl rfl (by kernel_rfl) (by kernel_rfl) (by kernel_rfl) (fun _ _ _ h => h) (Or.inl ⟨by rfl, ?y118⟩) (by assumption) ?r118
        case y118 => (intro w hSw; (try dsimp only at hSw); go_simp; (first | done | with_reducible rfl))
        try simp only [Act.put, List.setIfInBounds_toArray, List.set_cons_zero, List.set_cons_succ]
        refine take1 (i := 9) (v := ?v119) (some 27) rfl rfl (by kernel_rfl) (by kernel_rfl) (by kernel_rfl) (fun _ _ _ h => h) (Or.inl ⟨by rfl, ?y119⟩) (by assumption) ?r119
        case y119 => (intro w hSw; (try dsimp only at hSw); go_simp; (first | done | with_reducible rfl))
        try simp only [Act.put, List.setIfInBounds_toArray, List.set_cons_zero, List.set_cons_succ]
        refine take1 (i := 10) (v := ?v120) (some 28) rfl rfl (by kernel_rfl) (by kernel_rfl) (by kernel_rfl) (fun _ _ _ h => h) (Or.inl ⟨by rfl, ?y120⟩) (by assumption) ?r120
        case y120 => (intro w hSw; (try dsimp only at hSw); go_simp; (first | done | with_reducible rfl))
        try simp only [Act.put, List.setIfInBounds_toArray, List.set_cons_zero, List.set_cons_succ]
        refine wpAnyH_ready (rs := [11]) (by kernel_rfl) (by simp) ?_
        refine AllReadyH.cons rfl (fun K hK => ?_) AllReadyH.nil
        go_simp
        go_at_call 25
        have hs7 := slr_head (xs := [1, 3, 127, 10000, 0, 10001].map (Value.int .i64)) HLA.out (m6) (by show m6 ≤ 6; omega) (by show 6 ≤ maxLen; unfold maxLen; omega)
        rw [← List.map_take] at hs7
        refine (among_any Wb.heap.size (.slice ad L.length cp) L (0 + 200 + 100 + 200 + 2) _ ([1, 3, 127, 10000, 0, 10001].take (m6)) wn (by omega) (by rw [List.length_take]; show 1 ≤ min (m6) 6 ∧ min (m6) 6 ≤ 100; omega) hs7 (fun a m c e => by cases e; exact HNA.out) HC.out (HRX.out _ HG.out)).mono ?_
        rintro e wn ⟨⟨z6, rfl, hz⟩, hc, hg⟩
        have HZB6 : Hid (0 ≤ z6 ∧ z6 ≤ 10001) := Lib.hid (by have := List.mem_of_mem_take hz; simp only [List.mem_cons, List.not_mem_nil, or_false] at this; omega)
        replace HC := Lib.hid hc
        try replace HU := Lib.hid (own_grown HU.out hg (by have := HWS.out; omega))
        try replace HLA := Lib.hid ((hg.block _ (Array.getElem?_eq_some_iff.1 HLA.out).1 (by intro e; injection e with e; exact HNA.out e)).trans HLA.out)
        try replace HLB := Lib.hid ((hg.block _ (Array.getElem?_eq_some_iff.1 HLB.out).1 (by intro e; injection e with e; exact HNB.out e)).trans HLB.out)
        replace HG := Lib.hid (grown_trans HG.out hg)
        clear hc hg hz hs7 hq6 hp6 hb6 hbb6 hbc6
        refine hK.out _ _ ((HCL.out _ HG.out)) (fun hHeld => ?_)
        clear hK K
        try simp only [Act.put, List.setIfInBounds_toArray, List.set_cons_zero, List.set_cons_succ]
        refine wpAnyH_ready (rs := [15]) (by kernel_rfl) (by simp) ?_
        refine AllReadyH.cons rfl (fun K hK => ?_) AllReadyH.nil
        go_simp
        go_at_call 26
        refine (pick_any Wb.heap.size (.slice ad L.length cp) L (0 + 200 + 100 + 200 + 2 + 2) 24 wn (by omega) (by omega) (by omega) HC.out (HRX.out _ HG.out)).mono ?_
        rintro e wn ⟨⟨r7, rfl, r0, r1⟩, hc, hg⟩
        replace HC := Lib.hid hc
        try replace HU := Lib.hid (own_grown HU.out hg (by have := HWS.out; omega))
        try replace HLA := Lib.hid ((hg.block _ (Array.getElem?_eq_some_iff.1 HLA.out).1 (by intro e; injection e with e; exact HNA.out e)).trans HLA.out)
        try replace HLB := Lib.hid ((hg.block _ (Array.getElem?_eq_some_iff.1 HLB.out).1 (by intro e; injection e with e; exact HNB.out e)).trans HLB.out)
        replace HG := Lib.hid (grown_trans HG.out hg)
        clear hc hg
        obtain ⟨m7, hm, hm74, hc7⟩ : ∃ m : Nat, 4 + r7.tdiv 11 = (m : Int) ∧ 4 ≤ m ∧ m ≤ 6 := by
          rw [Int.tdiv_eq_ediv_of_nonneg r0]
          exact ⟨(4 + r7 / 11).toNat, by omega, by omega, by omega⟩
        have hq7 : IntKind.i64.wrap (4 + r7.tdiv 11) = (m7 : Int) := by rw [hm, IntKind.wrap_i64]; omega
        have hp7 : IntKind.i64.wrap (r7.tdiv 11) = r7.tdiv 11 := by rw [IntKind.wrap_i64]; omega
        have hb7 : (0 : Int) ≤ (m7 : Int) ∧ (m7 : Int) ≤ 6 := by omega
        have hbb7 : (m7 : Int) ≤ 6 := by omega
        have hbc7 : (0 : Int) ≤ (m7 : Int) := by omega
        clear hm r0 r1
        refine hK.out _ _ ((HCL.out _ HG.out)) (fun hHeld => ?_)
        clear hK K
        try simp only [Act.put, List.setIfInBounds_toArray, List.set_cons_zero, List.set_cons_succ]
        refine take1 (i := 16) (v := ?v121) (some 34) rfl rfl (by kernel_rfl) (by kernel_rfl) (by kernel_rfl) (fun _ _ _ h => h) (Or.inl ⟨by rfl, ?y121⟩) (by assumption) ?r121
        case y121 => (intro w hSw; (try dsimp only at hSw); go_simp; (first | done | with_reducible rfl))
        try simp only [Act.put, List.setIfInBounds_toArray, List.set_cons_zero, List.set_cons_succ]
        refine take1 (i := 17) (v := ?v122) (some 35) rfl rfl (by kernel_rfl) (by kernel_rfl) (by kernel_rfl) (fun _ _ _ h => h) (Or.inl ⟨by rfl, ?y122⟩) (by assumption) ?r122
        case y122 => (intro w hSw; (try dsimp only at hSw); go_simp; (first | done | with_reducible rfl))
        try simp only [Act.put, List.setIfInBounds_toArray, List.set_cons_zero, List.set_cons_succ]
        refine take1 (i := 18) (v := ?v123) (some 36) rfl rfl (by kernel_rfl) (by kernel_rfl) (by kernel_rfl) (fun _ _ _ h => h) (Or.inl ⟨by rfl, ?y123⟩) (by assumption) ?r123
        case y123 => (intro w hSw; (try dsimp only at hSw); go_simp; (first | done | with_reducible rfl))
        try simp only [Act.put, List.setIfInBounds_toArray, List.set_cons_zero, List.set_cons_succ]
        refine wpAnyH_ready (rs := [19]) (by kernel_rfl) (by simp) ?_
        refine AllReadyH.cons rfl (fun K hK => ?_) AllReadyH.nil
        go_simp
        go_at_call 25
        have hs7 := slr_head (xs := [1, 2, 5000, 10000, 0, 10001].map (Value.int .i64)) HLB.out (m7) (by show m7 ≤ 6; omega) (by show 6 ≤ maxLen; unfold maxLen; omega)
        rw [← List.map_take] at hs7
        refine (among_any Wb.heap.size (.slice ad L.length cp) L (0 + 200 + 100 + 200 + 2 + 2 + 2) _ ([1, 2, 5000, 10000, 0, 10001].take (m7)) wn (by omega) (by rw [List.length_take]; show 1 ≤ min (m7) 6 ∧ min (m7) 6 ≤ 100; omega) hs7 (fun a m c e => by cases e; exact HNB.out) HC.out (HRX.out _ HG.out)).mono ?_
        rintro e wn ⟨⟨z7, rfl, hz⟩, hc, hg⟩
        have HZB7 : Hid (0 ≤ z7 ∧ z7 ≤ 10001) := Lib.hid (by have := List.mem_of_mem_take hz; simp only [List.mem_cons, List.not_mem_nil, or_false] at this; omega)
        replace HC := Lib.hid hc
        try replace HU := Lib.hid (own_grown HU.out hg (by have := HWS.out; omega))
        try replace HLA := Lib.hid ((hg.block _ (Array.getElem?_eq_some_iff.1 HLA.out).1 (by intro e; injection e with e; exact HNA.out e)).trans HLA.out)
        try replace HLB := Lib.hid ((hg.block _ (Array.getElem?_eq_some_iff.1 HLB.out).1 (by intro e; injection e with e; exact HNB.out e)).trans HLB.out)
        replace HG := Lib.hid (grown_trans HG.out hg)
        clear hc hg hz hs7 hq7 hp7 hb7 hbb7 hbc7
        refine hK.out _ _ ((HCL.out _ HG.out)) (fun hHeld => ?_)
        clear hK K
        try simp only [Act.put, List.setIfInBounds_toArray, List.set_cons_zero, List.set_cons_succ]
        refine take1 (i := 20) (v := ?v124) (some 2) rfl rfl (by kernel_rfl) (by kernel_rfl) (by kernel_rfl) (fun _ _ _ h => h) (Or.inl ⟨by rfl, ?y124⟩) (by assumption) ?r124
        case y124 => (intro w hSw; (try dsimp only at hSw); go_simp; (first | done | with_reducible rfl))
        try simp only [Act.put, List.setIfInBounds_toArray, List.set_cons_zero, List.set_cons_succ]
        refine wpAnyH_ready (rs := [21]) (by kernel_rfl) (by simp) ?_
        refine AllReadyH.cons rfl (fun K hK => ?_) AllReadyH.nil
        have hz := (HG.out.block w.heap.size (by have := HWS.out; omega) (by intro e; have := HSB.out; injection e with e; omega)).trans HZW.out
        have hl1 := lt_of_block hz
        obtain ⟨c1, f1⟩ := cell1 hz
        have hq1 := box1_set hz (.slice xa xs.length xc)
        have hx1 := (heap_setCell_other wn ⟨w.heap.size, 0, none⟩ BX (.slice xa xs.length xc) (by show BX ≠ w.heap.size; have := HBX.out; omega)).trans ((HG.out.block BX (by have := HBX.out; omega) (by intro e; have := HBX.out; have := HSB.out; injection e with e; omega)).trans HKX.out)
        have HP1 := Lib.hid (ownsRow_setCell_below (own_grown HRu.out HG.out (by have := HS1.out; have := HSB.out; omega)) (a := ⟨w.heap.size, 0, none⟩) (by show w.heap.size < W1.heap.size; have := HS1.out; omega) (.slice xa xs.length xc))
        have HP2 := Lib.hid (ownsRow_setCell_below (own_grown HRx.out HG.out (by have := HS1.out; have := HSB.out; have := HS2.out; omega)) (a := ⟨w.heap.size, 0, none⟩) (by show w.heap.size < w2.heap.size; have := HS1.out; have := HS2.out; omega) (.slice xa xs.length xc))
        have HP3 := Lib.hid (ownsRow_setCell_below HU.out (a := ⟨w.heap.size, 0, none⟩) (by show w.heap.size < W.heap.size; have := HWS.out; omega) (.slice xa xs.length xc))
        have HB4 := Lib.hid ((HBW.out.grown HG.out HBW.out.size (fun k e => by cases e; have := HSB.out; omega)).setCell (p := ⟨w.heap.size, 0, none⟩) (Nat.le_refl _) (.slice xa xs.length xc))
        go_simp
        clear c1 f1 hl1 hz
        generalize wn.setCell ⟨w.heap.size, 0, none⟩ (.slice xa xs.length xc) = wz at hq1 hx1 HP1 HP2 HP3 HB4 ⊢
        refine hK.out _ _ ((cell1 hx1).1) (fun hHeld => ?_)
        clear hK K
        try simp only [Act.put]
        refine take1 (i := 22) (v := ?v125) (some 4) rfl rfl (by kernel_rfl) (by kernel_rfl) (by kernel_rfl) (fun _ _ _ h => h) (Or.inl ⟨by rfl, ?y125⟩) (by assumption) ?r125
        case y125 => (intro w hSw; (try dsimp only at hSw); go_simp; (first | done | with_reducible rfl))
        try simp only [Act.put, List.setIfInBounds_toArray, List.set_cons_zero, List.set_cons_succ]
        refine take1 (i := 23) (v := ?v126) (some 5) rfl rfl (by kernel_rfl) (by kernel_rfl) (by kernel_rfl) (fun _ _ _ h => h) (Or.inl ⟨by rfl, ?y126⟩) (by assumption) ?r126
        case y126 => (intro w hSw; (try dsimp only at hSw); go_simp; (first | done | with_reducible rfl))
        try simp only [Act.put, List.setIfInBounds_toArray, List.set_cons_zero, List.set_cons_succ]
        refine take1 (i := 24) (v := ?v127) (some 6) rfl rfl (by kernel_rfl) (by kernel_rfl) (by kernel_rfl) (fun _ _ _ h => h) (Or.inl ⟨by rfl, ?y127⟩) (by assumption) ?r127
        case y127 => (intro w hSw; (try dsimp only at hSw); go_simp; (first | done | with_reducible rfl))
        try simp only [Act.put, List.setIfInBounds_toArray, List.set_cons_zero, List.set_cons_succ]
        refine wpAnyH_done (by kernel_rfl) ?_ _
        obtain ⟨c3, f3⟩ := cell1 hq1
        clear hq1 hx1
        go_wp2_with fail
        exact bodyPost_ret (v := .tuple #[.slice qa us.length qc, .agg #[.slice xa xs.length xc], .slice qa2 us2.length qc2, .int .i64 z6, .int .i64 z7]) (by simp [results, Tryd.results14, go_sem, c3]) rfl ⟨⟨_, _, _, us, us2, xs, z6, z7, rfl, ⟨own_mono HP1.out (by have := HS1.out; omega), own_mono HP2.out (by have := HS1.out; have := HS2.out; omega), own_mono HP3.out (by have := HWS.out; omega)⟩, HL.out, HL2.out, HZB6.out, HZB7.out⟩, HB4.out⟩
    · go_simp
      obtain ⟨wk, hwk⟩ : ∃ u, wn.alloc (.cells #[.int .i64 1, .int .i64 2, .int .i64 5000, .int .i64 10000, .int .i64 0, .int .i64 10001] 3) = u := ⟨_, rfl⟩
      have hal : wn.grownBy wk none := hwk ▸ grown_alloc wn (.cells #[.int .i64 1, .int .i64 2, .int .i64 5000, .int .i64 10000, .int .i64 0, .int .i64 10001] 3) none
      have hla : wk.heap[wn.heap.size]? = some (.cells #[.int .i64 1, .int .i64 2, .int .i64 5000, .int .i64 10000, .int .i64 0, .int .i64 10001] 3 (0, 0)) := hwk ▸ alloc_at rfl
      have HNB : Hid (wn.heap.size ≠ Wb.heap.size) := Lib.hid (by have := HG.out.size; have := HWS.out; omega)
      rw [hwk]
      clear hwk
      replace HC := Lib.hid (HC.out.old hal)
      have hg := grown_any (r := some Wb.heap.size) hal
      have HLB := Lib.hid hla
      try replace HU := Lib.hid (own_grown HU.out hg (by have := HWS.out; omega))
      try replace HLA := Lib.hid ((hg.block _ (Array.getElem?_eq_some_iff.1 HLA.out).1 (by intro e; injection e with e; exact HNA.out e)).trans HLA.out)
      replace HG := Lib.hid (grown_trans HG.out hg)
      clear hal hla hg
      generalize wn.heap.size = LBB at HNB HLB ⊢
      rename World => wn
      refine hK.out _ _ ((HCL.out _ HG.out)) (fun hHeld => ?_)
      clear hK K
      try simp only [Act.put, List.setIfInBounds_toArray, List.set_cons_zero, List.set_cons_succ]
      refine wpAnyH_ready (rs := [3]) (by kernel_rfl) (by simp) ?_
      refine AllReadyH.cons rfl (fun K hK => ?_) AllReadyH.nil
      go_simp
      go_at_call 23
      refine (system7_any Wb.heap.size (.slice ad L.length cp) L (0 + 200 + 100) wn (by omega) HC.out (HRX.out _ HG.out)).mono ?_
      rintro e wn ⟨⟨v2, us2, rfl, ho, hl, hnm⟩, hc, hg⟩
      have HL2 : Hid (us2.length ≤ 7 ∧ ∀ u ∈ us2, u.nm.size ≤ 11) := Lib.hid ⟨hl, hnm⟩
      have HU := Lib.hid (own_mono ho (by have := HG.out.size; omega : W.heap.size ≤ _))
      obtain ⟨qa2, qc2, rfl⟩ := own_form ho
      replace HC := Lib.hid hc
      try replace HLA := Lib.hid ((hg.block _ (Array.getElem?_eq_some_iff.1 HLA.out).1 (by intro e; injection e with e; exact HNA.out e)).trans HLA.out)
      try replace HLB := Lib.hid ((hg.block _ (Array.getElem?_eq_some_iff.1 HLB.out).1 (by intro e; injection e with e; exact HNB.out e)).trans HLB.out)
      replace HG := Lib.hid (grown_trans HG.out hg)
      clear hc hg ho hl hnm
      refine hK.out _ _ ((HCL.out _ HG.out)) (fun hHeld => ?_)
      clear hK K
      try simp only [Act.put, List.setIfInBounds_toArray, List.set_cons_zero, List.set_cons_succ]
      refine wpAnyH_ready (rs := [7]) (by kernel_rfl) (by simp) ?_
      refine AllReadyH.cons rfl (fun K hK => ?_) AllReadyH.nil
      go_simp
      go_at_call 26
      refine (pick_any Wb.heap.size (.slice ad L.length cp) L (0 + 200 + 100 + 200) 24 wn (by omega) (by omega) (by omega) HC.out (HRX.out _ HG.out)).mono ?_
      rintro e wn ⟨⟨r6, rfl, r0, r1⟩, hc, hg⟩
      replace HC := Lib.hid hc
      try replace HU := Lib.hid (own_grown HU.out hg (by have := HWS.out; omega))
      try replace HLA := Lib.hid ((hg.block _ (Array.getElem?_eq_some_iff.1 HLA.out).1 (by intro e; injection e with e; exact HNA.out e)).trans HLA.out)
      try replace HLB := Lib.hid ((hg.block _ (Array.getElem?_eq_some_iff.1 HLB.out).1 (by intro e; injection e with e; exact HNB.out e)).trans HLB.out)
      replace HG := Lib.hid (grown_trans HG.out hg)
      clear hc hg
      obtain ⟨m6, hm, hm64, hc6⟩ : ∃ m : Nat, 4 + r6.tdiv 11 = (m : Int) ∧ 4 ≤ m ∧ m ≤ 6 := by
        rw [Int.tdiv_eq_ediv_of_nonneg r0]
        exact ⟨(4 + r6 / 11).toNat, by omega, by omega, by omega⟩
      have hq6 : IntKind.i64.wrap (4 + r6.tdiv 11) = (m6 : Int) := by rw [hm, IntKind.wrap_i64]; omega
      have hp6 : IntKind.i64.wrap (r6.tdiv 11) = r6.tdiv 11 := by rw [IntKind.wrap_i64]; omega
      have hb6 : (0 : Int) ≤ (m6 : Int) ∧ (m6 : Int) ≤ 6 := by omega
      have hbb6 : (m6 : Int) ≤ 6 := by omega
      have hbc6 : (0 : Int) ≤ (m6 : Int) := by omega
      clear hm r0 r1
      refine hK.out _ _ ((HCL.out _ HG.out)) (fun hHeld => ?_)
      clear hK K
      try simp only [Act.put, List.setIfInBounds_toArray, List.set_cons_zero, List.set_cons_succ]
      refine take1 (i := 8) (v := ?v128) (some 26) rfl rfl (by kernel_rfl) (by kernel_rfl) (by kernel_rfl) (fun _ _ _ h => h) (Or.inl ⟨by rfl, ?y128⟩) (by assumption) ?r128
      case y128 => (intro w hSw; (try dsimp only at hSw); go_simp; (first | done | with_reducible rfl))
      try simp only [Act.put, List.setIfInBounds_toArray, List.set_cons_zero, List.set_cons_succ]
      refine take1 (i := 9) (v := ?v129) (some 27) rfl rfl (by kernel_rfl) (by kernel_rfl) (by kernel_rfl) (fun _ _ _ h => h) (Or.inl ⟨by rfl, ?y129⟩) (by assumption) ?r129
      case y129 => (intro w hSw; (try dsimp only at hSw); go_simp; (first | done | with_reducible rfl))
      try simp only [Act.put, List.setIfInBounds_toArray, List.set_cons_zero, List.set_cons_succ]
      refine take1 (i := 10) (v := ?v130) (some 28) rfl rfl (by kernel_rfl) (by kernel_rfl) (by kernel_rfl) (fun _ _ _ h => h) (Or.inl ⟨by rfl, ?y130⟩) (by assumption) ?r130
      case y130 => (intro w hSw; (try dsimp only at hSw); go_simp; (first | done | with_reducible rfl))
      try simp only [Act.put, List.setIfInBounds_toArray, List.set_cons_zero, List.set_cons_succ]
      refine wpAnyH_ready (rs := [11]) (by kernel_rfl) (by simp) ?_
      refine AllReadyH.cons rfl (fun K hK => ?_) AllReadyH.nil
      go_simp
      go_at_call 25
      have hs7 := slr_head (xs := [1, 3, 127, 10000, 0, 10001].map (Value.int .i64)) HLA.out (m6) (by show m6 ≤ 6; omega) (by show 6 ≤ maxLen; unfold maxLen; omega)
      rw [← List.map_take] at hs7
      refine (among_any Wb.heap.size (.slice ad L.length cp) L (0 + 200 + 100 + 200 + 2) _ ([1, 3, 127, 10000, 0, 10001].take (m6)) wn (by omega) (by rw [List.length_take]; show 1 ≤ min (m6) 6 ∧ min (m6) 6 ≤ 100; omega) hs7 (fun a m c e => by cases e; exact HNA.out) HC.out (HRX.out _ HG.out)).mono ?_
      rintro e wn ⟨⟨z6, rfl, hz⟩, hc, hg⟩
      have HZB6 : Hid (0 ≤ z6 ∧ z6 ≤ 10001) := Lib.hid (by have := List.mem_of_mem_take hz; simp only [List.mem_cons, List.not_mem_nil, or_false] at this; omega)
      replace HC := Lib.hid hc
      try replace HU := Lib.hid (own_grown HU.out hg (by have := HWS.out; omega))
      try replace HLA := Lib.hid ((hg.block _ (Array.getElem?_eq_some_iff.1 HLA.out).1 (by intro e; injection e with e; exact HNA.out e)).trans HLA.out)
      try replace HLB := Lib.hid ((hg.block _ (Array.getElem?_eq_some_iff.1 HLB.out).1 (by intro e; injection e with e; exact HNB.out e)).trans HLB.out)
      replace HG := Lib.hid (grown_trans HG.out hg)
      clear hc hg hz hs7 hq6 hp6 hb6 hbb6 hbc6
      refine hK.out _ _ ((HCL.out _ HG.out)) (fun hHeld => ?_)
      clear hK K
      try simp only [Act.put, List.setIfInBounds_toArray, List.set_cons_zero, List.set_cons_succ]
      refine wpAnyH_ready (rs := [15]) (by kernel_rfl) (by simp) ?_
      refine AllReadyH.cons rfl (fun K hK => ?_) AllReadyH.nil
      go_simp
      go_at_call 26
      refine (pick_any Wb.heap.size (.slice ad L.length cp) L (0 + 200 + 100 + 200 + 2 + 2) 24 wn (by omega) (by omega) (by omega) HC.out (HRX.out _ HG.out)).mono ?_
      rintro e wn ⟨⟨r7, rfl, r0, r1⟩, hc, hg⟩
      replace HC := Lib.hid hc
      try replace HU := Lib.hid (own_grown HU.out hg (by have := HWS.out; omega))
      try replace HLA := Lib.hid ((hg.block _ (Array.getElem?_eq_some_iff.1 HLA.out).1 (by intro e; injection e with e; exact HNA.out e)).trans HLA.out)
      try replace HLB := Lib.hid ((hg.block _ (Array.getElem?_eq_some_iff.1 HLB.out).1 (by intro e; injection e with e; exact HNB.out e)).trans HLB.out)
      replace HG := Lib.hid (grown_trans HG.out hg)
      clear hc hg
      obtain ⟨m7, hm, hm74, hc7⟩ : ∃ m : Nat, 4 + r7.tdiv 11 = (m : Int) ∧ 4 ≤ m ∧ m ≤ 6 := by
        rw [Int.tdiv_eq_ediv_of_nonneg r0]
        exact ⟨(4 + r7 / 11).toNat, by omega, by omega, by omega⟩
      have hq7 : IntKind.i64.wrap (4 + r7.tdiv 11) = (m7 : Int) := by rw [hm, IntKind.wrap_i64]; omega
      have hp7 : IntKind.i64.wrap (r7.tdiv 11) = r7.tdiv 11 := by rw [IntKind.wrap_i64]; omega
      have hb7 : (0 : Int) ≤ (m7 : Int) ∧ (m7 : Int) ≤ 6 := by omega
      have hbb7 : (m7 : Int) ≤ 6 := by omega
      have hbc7 : (0 : Int) ≤ (m7 : Int) := by omega
      clear hm r0 r1
      refine hK.out _ _ ((HCL.out _ HG.out)) (fun hHeld => ?_)
      clear hK K
      try simp only [Act.put, List.setIfInBounds_toArray, List.set_cons_zero, List.set_cons_succ]
      refine take1 (i := 16) (v := ?v131) (some 34) rfl rfl (by kernel_rfl) (by kernel_rfl) (by kernel_rfl) (fun _ _ _ h => h) (Or.inl ⟨by rfl, ?y131⟩) (by assumption) ?r131
      case y131 => (intro w hSw; (try dsimp only at hSw); go_simp; (first | done | with_reducible rfl))
      try simp only [Act.put, List.setIfInBounds_toArray, List.set_cons_zero, List.set_cons_succ]
      refine take1 (i := 17) (v := ?v132) (some 35) rfl rfl (by kernel_rfl) (by kernel_rfl) (by kernel_rfl) (fun _ _ _ h => h) (Or.inl ⟨by rfl, ?y132⟩) (by assumption) ?r132
      case y132 => (intro w hSw; (try dsimp only at hSw); go_simp; (first | done | with_reducible rfl))
      try simp only [Act.put, List.setIfInBounds_toArray, List.set_cons_zero, List.set_cons_succ]
      refine take1 (i := 18) (v := ?v133) (some 36) rfl rfl (by kernel_rfl) (by kernel_rfl) (by kernel_rfl) (fun _ _ _ h => h) (Or.inl ⟨by rfl, ?y133⟩) (by assumption) ?r133
      case y133 => (intro w hSw; (try dsimp only at hSw); go_simp; (first | done | with_reducible rfl))
      try simp only [Act.put, List.setIfInBounds_toArray, List.set_cons_zero, List.set_cons_succ]
      refine wpAnyH_ready (rs := [19]) (by kernel_rfl) (by simp) ?_
      refine AllReadyH.cons rfl (fun K hK => ?_) AllReadyH.nil
      go_simp
      go_at_call 25
      have hs7 := slr_head (xs := [1, 2, 5000, 10000, 0, 10001].map (Value.int .i64)) HLB.out (m7) (by show m7 ≤ 6; omega) (by show 6 ≤ maxLen; unfold maxLen; omega)
      rw [← List.map_take] at hs7
      refine (among_any Wb.heap.size (.slice ad L.length cp) L (0 + 200 + 100 + 200 + 2 + 2 + 2) _ ([1, 2, 5000, 10000, 0, 10001].take (m7)) wn (by omega) (by rw [List.length_take]; show 1 ≤ min (m7) 6 ∧ min (m7) 6 ≤ 100; omega) hs7 (fun a m c e => by cases e; exact HNB.out) HC.out (HRX.out _ HG.out)).mono ?_
      rintro e wn ⟨⟨z7, rfl, hz⟩, hc, hg⟩
      have HZB7 : Hid (0 ≤ z7 ∧ z7 ≤ 10001) := Lib.hid (by have := List.mem_of_mem_take hz; simp only [List.mem_cons, List.not_mem_nil, or_false] at this; omega)
      replace HC := Lib.hid hc
      try replace HU := Lib.hid (own_grown HU.out hg (by have := HWS.out; omega))
      try replace HLA := Lib.hid ((hg.block _ (Array.getElem?_eq_some_iff.1 HLA.out).1 (by intro e; injection e with e; exact HNA.out e)).trans HLA.out)
      try replace HLB := Lib.hid ((hg.block _ (Array.getElem?_eq_some_iff.1 HLB.out).1 (by intro e; injection e with e; exact HNB.out e)).trans HLB.out)
      replace HG := Lib.hid (grown_trans HG.out hg)
      clear hc hg hz hs7 hq7 hp7 hb7 hbb7 hbc7
      refine hK.out _ _ ((HCL.out _ HG.out)) (fun hHeld => ?_)
      clear hK K
      try simp only [Act.put, List.setIfInBounds_toArray, List.set_cons_zero, List.set_cons_succ]
      refine take1 (i := 20) (v := ?v134) (some 2) rfl rfl (by kernel_rfl) (by kernel_rfl) (by kernel_rfl) (fun _ _ _ h => h) (Or.inl ⟨by rfl, ?y134⟩) (by assumption) ?r134
      case y134 => (intro w hSw; (try dsimp only at hSw); go_simp; (first | done | with_reducible rfl))
      try simp only [Act.put, List.setIfInBounds_toArray, List.set_cons_zero, List.set_cons_succ]
      refine wpAnyH_ready (rs := [21]) (by kernel_rfl) (by simp) ?_
      refine AllReadyH.cons rfl (fun K hK => ?_) AllReadyH.nil
      have hz := (HG.out.block w.heap.size (by have := HWS.out; omega) (by intro e; have := HSB.out; injection e with e; omega)).trans HZW.out
      have hl1 := lt_of_block hz
      obtain ⟨c1, f1⟩ := cell1 hz
      have hq1 := box1_set hz (.slice xa xs.length xc)
      have hx1 := (heap_setCell_other wn ⟨w.heap.size, 0, none⟩ BX (.slice xa xs.length xc) (by show BX ≠ w.heap.size; have := HBX.out; omega)).trans ((HG.out.block BX (by have := HBX.out; omega) (by intro e; have := HBX.out; have := HSB.out; injection e with e; omega)).trans HKX.out)
      have HP1 := Lib.hid (ownsRow_setCell_below (own_grown HRu.out HG.out (by have := HS1.out; have := HSB.out; omega)) (a := ⟨w.heap.size, 0, none⟩) (by show w.heap.size < W1.heap.size; have := HS1.out; omega) (.slice xa xs.length xc))
      have HP2 := Lib.hid (ownsRow_setCell_below (own_grown HRx.out HG.out (by have := HS1.out; have := HSB.out; have := HS2.out; omega)) (a := ⟨w.heap.size, 0, none⟩) (by show w.heap.size < w2.heap.size; have := HS1.out; have := HS2.out; omega) (.slice xa xs.length xc))
      have HP3 := Lib.hid (ownsRow_setCell_below HU.out (a := ⟨w.heap.size, 0, none⟩) (by show w.heap.size < W.heap.size; have := HWS.out; omega) (.slice xa xs.length xc))
      have HB4 := Lib.hid ((HBW.out.grown HG.out HBW.out.size (fun k e => by cases e; have := HSB.out; omega)).setCell (p := ⟨w.heap.size, 0, none⟩) (Nat.le_refl _) (.slice xa xs.length xc))
      go_simp
      clear c1 f1 hl1 hz
      generalize wn.setCell ⟨w.heap.size, 0, none⟩ (.slice xa xs.length xc) = wz at hq1 hx1 HP1 HP2 HP3 HB4 ⊢
      refine hK.out _ _ ((cell1 hx1).1) (fun hHeld => ?_)
      clear hK K
      try simp only [Act.put]
      refine take1 (i := 22) (v := ?v135) (some 4) rfl rfl (by kernel_rfl) (by kernel_rfl) (by kernel_rfl) (fun _ _ _ h => h) (Or.inl ⟨by rfl, ?y135⟩) (by assumption) ?r135
      case y135 => (intro w hSw; (try dsimp only at hSw); go_simp; (first | done | with_reducible rfl))
      try simp only [Act.put, List.setIfInBounds_toArray, List.set_cons_zero, List.set_cons_succ]
      refine take1 (i := 23) (v := ?v136) (some 5) rfl rfl (by kernel_rfl) (by kernel_rfl) (by kernel_rfl) (fun _ _ _ h => h) (Or.inl ⟨by rfl, ?y136⟩) (by assumption) ?r136
      case y136 => (intro w hSw; (try dsimp only at hSw); go_simp; (first | done | with_reducible rfl))
      try simp only [Act.put, List.setIfInBounds_toArray, List.set_cons_zero, List.set_cons_succ]
      refine take1 (i := 24) (v := ?v137) (some 6) rfl rfl (by kernel_rfl) (by kernel_rfl) (by kernel_rfl) (fun _ _ _ h => h) (Or.inl ⟨by rfl, ?y137⟩) (by assumption) ?r137
      case y137 => (intro w hSw; (try dsimp only at hSw); go_simp; (first | done | with_reducible rfl))
      try simp only [Act.put, List.setIfInBounds_toArray, List.set_cons_zero, List.set_cons_succ]
      refine wpAnyH_done (by kernel_rfl) ?_ _
      obtain ⟨c3, f3⟩ := cell1 hq1
      clear hq1 hx1
      go_wp2_with fail
      exact bodyPost_ret (v := .tuple #[.slice qa us.length qc, .agg #[.slice xa xs.length xc], .slice qa2 us2.length qc2, .int .i64 z6, .int .i64 z7]) (by simp [results, Tryd.results14, go_sem, c3]) rfl ⟨⟨_, _, _, us, us2, xs, z6, z7, rfl, ⟨own_mono HP1.out (by have := HS1.out; omega), own_mono HP2.out (by have := HS1.out; have := HS2.out; omega), own_mono HP3.out (by have := HWS.out; omega)⟩, HL.out, HL2.out, HZB6.out, HZB7.out⟩, HB4.out⟩
  · go_simp
    obtain ⟨wk, hwk⟩ : ∃ u, wn.alloc (.cells #[.int .i64 1, .int .i64 2, .int .i64 5000, .int .i64 10000, .int .i64 0, .int .i64 10001] 3) = u := ⟨_, rfl⟩
    have hal : wn.grownBy wk none := hwk ▸ grown_alloc wn (.cells #[.int .i64 1, .int .i64 2, .int .i64 5000, .int .i64 10000, .int .i64 0, .int .i64 10001] 3) none
    have hla : wk.heap[wn.heap.size]? = some (.cells #[.int .i64 1, .int .i64 2, .int .i64 5000, .int .i64 10000, .int .i64 0, .int .i64 10001] 3 (0, 0)) := hwk ▸ alloc_at rfl
    have HNB : Hid (wn.heap.size ≠ Wb.heap.size) := Lib.hid (by have := HG.out.size; have := HWS.out; omega)
    rw [hwk]
    clear hwk
    replace HC := Lib.hid (HC.out.old hal)
    have hg := grown_any (r := some Wb.heap.size) hal
    have HLB := Lib.hid hla
    try replace HU := Lib.hid (own_grown HU.out hg (by have := HWS.out; omega))
    try replace HLA := Lib.hid ((hg.block _ (Array.getElem?_eq_some_iff.1 HLA.out).1 (by intro e; injection e with e; exact HNA.out e)).trans HLA.out)
    replace HG := Lib.hid (grown_trans HG.out hg)
    clear hal hla hg
    generalize wn.heap.size = LBB at HNB HLB ⊢
    rename World => wn
    refine hK.out _ _ ((HCL.out _ HG.out)) (fun hHeld => ?_)
    clear hK K
    try simp only [Act.put, List.setIfInBounds_toArray, List.set_cons_zero, List.set_cons_succ]
    refine wpAnyH_ready (rs := [3, 5]) (by kernel_rfl) (by simp) ?_
    refine AllReadyH.cons rfl (fun K hK => ?_) (AllReadyH.cons rfl (fun K hK => ?_) AllReadyH.nil)
    · go_simp
      go_at_call 23
      refine (system7_any Wb.heap.size (.slice ad L.length cp) L (0 + 200 + 100) wn (by omega) HC.out (HRX.out _ HG.out)).mono ?_
      rintro e wn ⟨⟨v2, us2, rfl, ho, hl, hnm⟩, hc, hg⟩
      have HL2 : Hid (us2.length ≤ 7 ∧ ∀ u ∈ us2, u.nm.size ≤ 11) := Lib.hid ⟨hl, hnm⟩
      have HU := Lib.hid (own_mono ho (by have := HG.out.size; omega : W.heap.size ≤ _))
      obtain ⟨qa2, qc2, rfl⟩ := own_form ho
      replace HC := Lib.hid hc
      try replace HLA := Lib.hid ((hg.block _ (Array.getElem?_eq_some_iff.1 HLA.out).1 (by intro e; injection e with e; exact HNA.out e)).trans HLA.out)
      try replace HLB := Lib.hid ((hg.block _ (Array.getElem?_eq_some_iff.1 HLB.out).1 (by intro e; injection e with e; exact HNB.out e)).trans HLB.out)
      replace HG := Lib.hid (grown_trans HG.out hg)
      clear hc hg ho hl hnm
      refine hK.out _ _ ((HCL.out _ HG.out)) (fun hHeld => ?_)
      clear hK K
      try simp only [Act.put, List.setIfInBounds_toArray, List.set_cons_zero, List.set_cons_succ]
      refine wpAnyH_ready (rs := [5, 7]) (by kernel_rfl) (by simp) ?_
      refine AllReadyH.cons rfl (fun K hK => ?_) (AllReadyH.cons rfl (fun K hK => ?_) AllReadyH.nil)
      · go_simp
        obtain ⟨wk, hwk⟩ : ∃ u, wn.alloc (.cells #[.int .i64 1, .int .i64 3, .int .i64 127, .int .i64 10000, .int .i64 0, .int .i64 10001] 3) = u := ⟨_, rfl⟩
        have hal : wn.grownBy wk none := hwk ▸ grown_alloc wn (.cells #[.int .i64 1, .int .i64 3, .int .i64 127, .int .i64 10000, .int .i64 0, .int .i64 10001] 3) none
        have hla : wk.heap[wn.heap.size]? = some (.cells #[.int .i64 1, .int .i64 3, .int .i64 127, .int .i64 10000, .int .i64 0, .int .i64 10001] 3 (0, 0)) := hwk ▸ alloc_at rfl
        have HNA : Hid (wn.heap.size ≠ Wb.heap.size) := Lib.hid (by have := HG.out.size; have := HWS.out; omega)
        rw [hwk]
        clear hwk
        replace HC := Lib.hid (HC.out.old hal)
        have hg := grown_any (r := some Wb.heap.size) hal
        have HLA := Lib.hid hla
        try replace HU := Lib.hid (own_grown HU.out hg (by have := HWS.out; omega))
        try replace HLB := Lib.hid ((hg.block _ (Array.getElem?_eq_some_iff.1 HLB.out).1 (by intro e; injection e with e; exact HNB.out e)).trans HLB.out)
        replace HG := Lib.hid (grown_trans HG.out hg)
        clear hal hla hg
        generalize wn.heap.size = LBA at HNA HLA ⊢
        rename World => wn
        refine hK.out _ _ ((HCL.out _ HG.out)) (fun hHeld => ?_)
        clear hK K
        try simp only [Act.put, List.setIfInBounds_toArray, List.set_cons_zero, List.set_cons_succ]
        refine wpAnyH_ready (rs := [7]) (by kernel_rfl) (by simp) ?_
        refine AllReadyH.cons rfl (fun K hK => ?_) AllReadyH.nil
        go_simp
        go_at_call 26
        refine (pick_any Wb.heap.size (.slice ad L.length cp) L (0 + 200 + 100 + 200) 24 wn (by omega) (by omega) (by omega) HC.out (HRX.out _ HG.out)).mono ?_
        rintro e wn ⟨⟨r6, rfl, r0, r1⟩, hc, hg⟩
        replace HC := Lib.hid hc
        try replace HU := Lib.hid (own_grown HU.out hg (by have := HWS.out; omega))
        try replace HLA := Lib.hid ((hg.block _ (Array.getElem?_eq_some_iff.1 HLA.out).1 (by intro e; injection e with e; exact HNA.out e)).trans HLA.out)
        try replace HLB := Lib.hid ((hg.block _ (Array.getElem?_eq_some_iff.1 HLB.out).1 (by intro e; injection e with e; exact HNB.out e)).trans HLB.out)
        replace HG := Lib.hid (grown_trans HG.out hg)
        clear hc hg
        obtain ⟨m6, hm, hm64, hc6⟩ : ∃ m : Nat, 4 + r6.tdiv 11 = (m : Int) ∧ 4 ≤ m ∧ m ≤ 6 := by
          rw [Int.tdiv_eq_ediv_of_nonneg r0]
          exact ⟨(4 + r6 / 11).toNat, by omega, by omega, by omega⟩
        have hq6 : IntKind.i64.wrap (4 + r6.tdiv 11) = (m6 : Int) := by rw [hm, IntKind.wrap_i64]; omega
        have hp6 : IntKind.i64.wrap (r6.tdiv 11) = r6.tdiv 11 := by rw [IntKind.wrap_i64]; omega
        have hb6 : (0 : Int) ≤ (m6 : Int) ∧ (m6 : Int) ≤ 6 := by omega
        have hbb6 : (m6 : Int) ≤ 6 := by omega
        have hbc6 : (0 : Int) ≤ (m6 : Int) := by omega
        clear hm r0 r1
        refine hK.out _ _ ((HCL.out _ HG.out)) (fun hHeld => ?_)
        clear hK K
        try simp only [Act.put, List.setIfInBounds_toArray, List.set_cons_zero, List.set_cons_succ]
        refine take1 (i := 8) (v := ?v138) (some 26) rfl rfl (by kernel_rfl) (by kernel_rfl) (by kernel_rfl) (fun _ _ _ h => h) (Or.inl ⟨by rfl, ?y138⟩) (by assumption) ?r138
        case y138 => (intro w hSw; (try dsimp only at hSw); go_simp; (first | done | with_reducible rfl))
        try simp only [Act.put, List.setIfInBounds_toArray, List.set_cons_zero, List.set_cons_succ]
        refine take1 (i := 9) (v := ?v139) (some 27) rfl rfl (by kernel_rfl) (by kernel_rfl) (by kernel_rfl) (fun _ _ _ h => h) (Or.inl ⟨by rfl, ?y139⟩) (by assumption) ?r139
        case y139 => (intro w hSw; (try dsimp only at hSw); go_simp; (first | done | with_reducible rfl))
        try simp only [Act.put, List.setIfInBounds_toArray, List.set_cons_zero, List.set_cons_succ]
        refine take1 (i := 10) (v := ?v140) (some 28) rfl rfl (by kernel_rfl) (by kernel_rfl) (by kernel_rfl) (fun _ _ _ h => h) (Or.inl ⟨by rfl, ?y140⟩) (by assumption) ?r140
        case y140 => (intro w hSw; (try dsimp only at hSw); go_simp; (first | done | with_reducible rfl))
        try simp only [Act.put, List.setIfInBounds_toArray, List.set_cons_zero, List.set_cons_succ]
        refine wpAnyH_ready (rs := [11]) (by kernel_rfl) (by simp) ?_
        refine AllReadyH.cons rfl (fun K hK => ?_) AllReadyH.nil
        go_simp
        go_at_call 25
        have hs7 := slr_head (xs := [1, 3, 127, 10000, 0, 10001].map (Value.int .i64)) HLA.out (m6) (by show m6 ≤ 6; omega) (by show 6 ≤ maxLen; unfold maxLen; omega)
        rw [← List.map_take] at hs7
        refine (among_any Wb.heap.size (.slice ad L.length cp) L (0 + 200 + 100 + 200 + 2) _ ([1, 3, 127, 10000, 0, 10001].take (m6)) wn (by omega) (by rw [List.length_take]; show 1 ≤ min (m6) 6 ∧ min (m6) 6 ≤ 100; omega) hs7 (fun a m c e => by cases e; exact HNA.out) HC.out (HRX.out _ HG.out)).mono ?_
        rintro e wn ⟨⟨z6, rfl, hz⟩, hc, hg⟩
        have HZB6 : Hid (0 ≤ z6 ∧ z6 ≤ 10001) := Lib.hid (by have := List.mem_of_mem_take hz; simp only [List.mem_cons, List.not_mem_nil, or_false] at this; omega)
        replace HC := Lib.hid hc
        try replace HU := Lib.hid (own_grown HU.out hg (by have := HWS.out; omega))
        try replace HLA := Lib.hid ((hg.block _ (Array.getElem?_eq_some_iff.1 HLA.out).1 (by intro e; injection e with e; exact HNA.out e)).trans HLA.out)
        try replace HLB := Lib.hid ((hg.block _ (Array.getElem?_eq_some_iff.1 HLB.out).1 (by intro e; injection e with e; exact HNB.out e)).trans HLB.out)
        replace HG := Lib.hid (grown_trans HG.out hg)
        clear hc hg hz hs7 hq6 hp6 hb6 hbb6 hbc6
        refine hK.out _ _ ((HCL.out _ HG.out)) (fun hHeld => ?_)
        clear hK K
        try simp only [Act.put, List.setIfInBounds_toArray, List.set_cons_zero, List.set_cons_succ]
        refine wpAnyH_ready (rs := [15]) (by kernel_rfl) (by simp) ?_
        refine AllReadyH.cons rfl (fun K hK => ?_) AllReadyH.nil
        go_simp
        go_at_call 26
        refine (pick_any Wb.heap.size (.slice ad L.length cp) L (0 + 200 + 100 + 200 + 2 + 2) 24 wn (by omega) (by omega) (by omega) HC.out (HRX.out _ HG.out)).mono ?_
        rintro e wn ⟨⟨r7, rfl, r0, r1⟩, hc, hg⟩
        replace HC := Lib.hid hc
        try replace HU := Lib.hid (own_grown HU.out hg (by have := HWS.out; omega))
        try replace HLA := Lib.hid ((hg.block _ (Array.getElem?_eq_some_iff.1 HLA.out).1 (by intro e; injection e with e; exact HNA.out e)).trans HLA.out)
        try replace HLB := Lib.hid ((hg.block _ (Array.getElem?_eq_some_iff.1 HLB.out).1 (by intro e; injection e with e; exact HNB.out e)).trans HLB.out)
        replace HG := Lib.hid (grown_trans HG.out hg)
        clear hc hg
        obtain ⟨m7, hm, hm74, hc7⟩ : ∃ m : Nat, 4 + r7.tdiv 11 = (m : Int) ∧ 4 ≤ m ∧ m ≤ 6 := by
          rw [Int.tdiv_eq_ediv_of_nonneg r0]
          exact ⟨(4 + r7 / 11).toNat, by omega, by omega, by omega⟩
        have hq7 : IntKind.i64.wrap (4 + r7.tdiv 11) = (m7 : Int) := by rw [hm, IntKind.wrap_i64]; omega
        have hp7 : IntKind.i64.wrap (r7.tdiv 11) = r7.tdiv 11 := by rw [IntKind.wrap_i64]; omega
        have hb7 : (0 : Int) ≤ (m7 : Int) ∧ (m7 : Int) ≤ 6 := by omega
        have hbb7 : (m7 : Int) ≤ 6 := by omega
        have hbc7 : (0 : Int) ≤ (m7 : Int) := by omega
        clear hm r0 r1
        refine hK.out _ _ ((HCL.out _ HG.out)) (fun hHeld => ?_)
        clear hK K
        try simp only [Act.put, List.setIfInBounds_toArray, List.set_cons_zero, List.set_cons_succ]
        refine take1 (i := 16) (v := ?v141) (some 34) rfl rfl (by kernel_rfl) (by kernel_rfl) (by kernel_rfl) (fun _ _ _ h => h) (Or.inl ⟨by rfl, ?y141⟩) (by assumption) ?r141
        case y141 => (intro w hSw; (try dsimp only at hSw); go_simp; (first | done | with_reducible rfl))
        try simp only [Act.put, List.setIfInBounds_toArray, List.set_cons_zero, List.set_cons_succ]
        refine take1 (i := 17) (v := ?v142) (some 35) rfl rfl (by kernel_rfl) (by kernel_rfl) (by kernel_rfl) (fun _ _ _ h => h) (Or.inl ⟨by rfl, ?y142⟩) (by assumption) ?r142
        case y142 => (intro w hSw; (try dsimp only at hSw); go_simp; (first | done | with_reducible rfl))
        try simp only [Act.put, List.setIfInBounds_toArray, List.set_cons_zero, List.set_cons_succ]
        refine take1 (i := 18) (v := ?v143) (some 36) rfl rfl (by kernel_rfl) (by kernel_rfl) (by kernel_rfl) (fun _ _ _ h => h) (Or.inl ⟨by rfl, ?y143⟩) (by assumption) ?r143
        case y143 => (intro w hSw; (try dsimp only at hSw); go_simp; (first | done | with_reducible rfl))
        try simp only [Act.put, List.setIfInBounds_toArray, List.set_cons_zero, List.set_cons_succ]
        refine wpAnyH_ready (rs := [19]) (by kernel_rfl) (by simp) ?_
        refine AllReadyH.cons rfl (fun K hK => ?_) AllReadyH.nil
        go_simp
        go_at_call 25
        have hs7 := slr_head (xs := [1, 2, 5000, 10000, 0, 10001].map (Value.int .i64)) HLB.out (m7) (by show m7 ≤ 6; omega) (by show 6 ≤ maxLen; unfold maxLen; omega)
        rw [← List.map_take] at hs7
        refine (among_any Wb.heap.size (.slice ad L.length cp) L (0 + 200 + 100 + 200 + 2 + 2 + 2) _ ([1, 2, 5000, 10000, 0, 10001].take (m7)) wn (by omega) (by rw [List.length_take]; show 1 ≤ min (m7) 6 ∧ min (m7) 6 ≤ 100; omega) hs7 (fun a m c e => by cases e; exact HNB.out) HC.out (HRX.out _ HG.out)).mono ?_
        rintro e wn ⟨⟨z7, rfl, hz⟩, hc, hg⟩
        have HZB7 : Hid (0 ≤ z7 ∧ z7 ≤ 10001) := Lib.hid (by have := List.mem_of_mem_take hz; simp only [List.mem_cons, List.not_mem_nil, or_false] at this; omega)
        replace HC := Lib.hid hc
        try replace HU := Lib.hid (own_grown HU.out hg (by have := HWS.out; omega))
        try replace HLA := Lib.hid ((hg.block _ (Array.getElem?_eq_some_iff.1 HLA.out).1 (by intro e; injection e with e; exact HNA.out e)).trans HLA.out)
        try replace HLB := Lib.hid ((hg.block _ (Array.getElem?_eq_some_iff.1 HLB.out).1 (by intro e; injection e with e; exact HNB.out e)).trans HLB.out)
        replace HG := Lib.hid (grown_trans HG.out hg)
        clear hc hg hz hs7 hq7 hp7 hb7 hbb7 hbc7
        refine hK.out _ _ ((HCL.out _ HG.out)) (fun hHeld => ?_)
        clear hK K
        try simp only [Act.put, List.setIfInBounds_toArray, List.set_cons_zero, List.set_cons_succ]
        refine take1 (i := 20) (v := ?v144) (some 2) rfl rfl (by kernel_rfl) (by kernel_rfl) (by kernel_rfl) (fun _ _ _ h => h) (Or.inl ⟨by rfl, ?y144⟩) (by assumption) ?r144
        case y144 => (intro w hSw; (try dsimp only at hSw); go_simp; (first | done | with_reducible rfl))
        try simp only [Act.put, List.setIfInBounds_toArray, List.set_cons_zero, List.set_cons_succ]
        refine wpAnyH_ready (rs := [21]) (by kernel_rfl) (by simp) ?_
        refine AllReadyH.cons rfl (fun K hK => ?_) AllReadyH.nil
        have hz := (HG.out.block w.heap.size (by have := HWS.out; omega) (by intro e; have := HSB.out; injection e with e; omega)).trans HZW.out
        have hl1 := lt_of_block hz
        obtain ⟨c1, f1⟩ := cell1 hz
        have hq1 := box1_set hz (.slice xa xs.length xc)
        have hx1 := (heap_setCell_other wn ⟨w.heap.size, 0, none⟩ BX (.slice xa xs.length xc) (by show BX ≠ w.heap.size; have := HBX.out; omega)).trans ((HG.out.block BX (by have := HBX.out; omega) (by intro e; have := HBX.out; have := HSB.out; injection e with e; omega)).trans HKX.out)
        have HP1 := Lib.hid (ownsRow_setCell_below (own_grown HRu.out HG.out (by have := HS1.out; have := HSB.out; omega)) (a := ⟨w.heap.size, 0, none⟩) (by show w.heap.size < W1.heap.size; have := HS1.out; omega) (.slice xa xs.length xc))
        have HP2 := Lib.hid (ownsRow_setCell_below (own_grown HRx.out HG.out (by have := HS1.out; have := HSB.out; have := HS2.out; omega)) (a := ⟨w.heap.size, 0, none⟩) (by show w.heap.size < w2.heap.size; have := HS1.out; have := HS2.out; omega) (.slice xa xs.length xc))
        have HP3 := Lib.hid (ownsRow_setCell_below HU.out (a := ⟨w.heap.size, 0, none⟩) (by show w.heap.size < W.heap.size; have := HWS.out; omega) (.slice xa xs.length xc))
        have HB4 := Lib.hid ((HBW.out.grown HG.out HBW.out.size (fun k e => by cases e; have := HSB.out; omega)).setCell (p := ⟨w.heap.size, 0, none⟩) (Nat.le_refl _) (.slice xa xs.length xc))
        go_simp
        clear c1 f1 hl1 hz
        generalize wn.setCell ⟨w.heap.size, 0, none⟩ (.slice xa xs.length xc) = wz at hq1 hx1 HP1 HP2 HP3 HB4 ⊢
        refine hK.out _ _ ((cell1 hx1).1) (fun hHeld => ?_)
        clear hK K
        try simp only [Act.put]
        refine take1 (i := 22) (v := ?v145) (some 4) rfl rfl (by kernel_rfl) (by kernel_rfl) (by kernel_rfl) (fun _ _ _ h => h) (Or.inl ⟨by rfl, ?y145⟩) (by assumption) ?r145
        case y145 => (intro w hSw; (try dsimp only at hSw); go_simp; (first | done | with_reducible rfl))
        try simp only [Act.put, List.setIfInBounds_toArray, List.set_cons_zero, List.set_cons_succ]
        refine take1 (i := 23) (v := ?v146) (some 5) rfl rfl (by kernel_rfl) (by kernel_rfl) (by kernel_rfl) (fun _ _ _ h => h) (Or.inl ⟨by rfl, ?y146⟩) (by assumption) ?r146
        case y146 => (intro w hSw; (try dsimp only at hSw); go_simp; (first | done | with_reducible rfl))
        try simp only [Act.put, List.setIfInBounds_toArray, List.set_cons_zero, List.set_cons_succ]
        refine take1 (i := 24) (v := ?v147) (some 6) rfl rfl (by kernel_rfl) (by kernel_rfl) (by kernel_rfl) (fun _ _ _ h => h) (Or.inl ⟨by rfl, ?y147⟩) (by assumption) ?r147
        case y147 => (intro w hSw; (try dsimp only at hSw); go_simp; (first | done | with_reducible rfl))
        try simp only [Act.put, List.setIfInBounds_toArray, List.set_cons_zero, List.set_cons_succ]
        refine wpAnyH_done (by kernel_rfl) ?_ _
        obtain ⟨c3, f3⟩ := cell1 hq1
        clear hq1 hx1
        go_wp2_with fail
        exact bodyPost_ret (v := .tuple #[.slice qa us.length qc, .agg #[.slice xa xs.length xc], .slice qa2 us2.length qc2, .int .i64 z6, .int .i64 z7]) (by simp [results, Tryd.results14, go_sem, c3]) rfl ⟨⟨_, _, _, us, us2, xs, z6, z7, rfl, ⟨own_mono HP1.out (by have := HS1.out; omega), own_mono HP2.out (by have := HS1.out; have := HS2.out; omega), own_mono HP3.out (by have := HWS.out; omega)⟩, HL.out, HL2.out, HZB6.out, HZB7.out⟩, HB4.out⟩
      · go_simp
        go_at_call 26
        refine (pick_any Wb.heap.size (.slice ad L.length cp) L (0 + 200 + 100 + 200) 24 wn (by omega) (by omega) (by omega) HC.out (HRX.out _ HG.out)).mono ?_
        rintro e wn ⟨⟨r6, rfl, r0, r1⟩, hc, hg⟩
        replace HC := Lib.hid hc
        try replace HU := Lib.hid (own_grown HU.out hg (by have := HWS.out; omega))
        try replace HLA := Lib.hid ((hg.block _ (Array.getElem?_eq_some_iff.1 HLA.out).1 (by intro e; injection e with e; exact HNA.out e)).trans HLA.out)
        try replace HLB := Lib.hid ((hg.block _ (Array.getElem?_eq_some_iff.1 HLB.out).1 (by intro e; injection e with e; exact HNB.out e)).trans HLB.out)
        replace HG := Lib.hid (grown_trans HG.out hg)
        clear hc hg
        obtain ⟨m6, hm, hm64, hc6⟩ : ∃ m : Nat, 4 + r6.tdiv 11 = (m : Int) ∧ 4 ≤ m ∧ m ≤ 6 := by
          rw [Int.tdiv_eq_ediv_of_nonneg r0]
          exact ⟨(4 + r6 / 11).toNat, by omega, by omega, by omega⟩
        have hq6 : IntKind.i64.wrap (4 + r6.tdiv 11) = (m6 : Int) := by rw [hm, IntKind.wrap_i64]; omega
        have hp6 : IntKind.i64.wrap (r6.tdiv 11) = r6.tdiv 11 := by rw [IntKind.wrap_i64]; omega
        have hb6 : (0 : Int) ≤ (m6 : Int) ∧ (m6 : Int) ≤ 6 := by omega
        have hbb6 : (m6 : Int) ≤ 6 := by omega
        have hbc6 : (0 : Int) ≤ (m6 : Int) := by omega
        clear hm r0 r1
        refine hK.out _ _ ((HCL.out _ HG.out)) (fun hHeld => ?_)
        clear hK K
        try simp only [Act.put, List.setIfInBounds_toArray, List.set_cons_zero, List.set_cons_succ]
        refine take1 (i := 8) (v := ?v148) (some 26) rfl rfl (by kernel_rfl) (by kernel_rfl) (by kernel_rfl) (fun _ _ _ h => h) (Or.inl ⟨by rfl, ?y148⟩) (by assumption) ?r148
        case y148 => (intro w hSw; (try dsimp only at hSw); go_simp; (first | done | with_reducible rfl))
        try simp only [Act.put, List.setIfInBounds_toArray, List.set_cons_zero, List.set_cons_succ]
        refine take1 (i := 9) (v := ?v149) (some 27) rfl rfl (by kernel_rfl) (by kernel_rfl) (by kernel_rfl) (fun _ _ _ h => h) (Or.inl ⟨by rfl, ?y149⟩) (by assumption) ?r149
        case y149 => (intro w hSw; (try dsimp only at hSw); go_simp; (first | done | with_reducible rfl))
        try simp only [Act.put, List.setIfInBounds_toArray, List.set_cons_zero, List.set_cons_succ]
        refine wpAnyH_ready (rs := [5]) (by kernel_rfl) (by simp) ?_
        refine AllReadyH.cons rfl (fun K hK => ?_) AllReadyH.nil
        go_simp
        obtain ⟨wk, hwk⟩ : ∃ u, wn.alloc (.cells #[.int .i64 1, .int .i64 3, .int .i64 127, .int .i64 10000, .int .i64 0, .int .i64 10001] 3) = u := ⟨_, rfl⟩
        have hal : wn.grownBy wk none := hwk ▸ grown_alloc wn (.cells #[.int .i64 1, .int .i64 3, .int .i64 127, .int .i64 10000, .int .i64 0, .int .i64 10001] 3) none
        have hla : wk.heap[wn.heap.size]? = some (.cells #[.int .i64 1, .int .i64 3, .int .i64 127, .int .i64 10000, .int .i64 0, .int .i64 10001] 3 (0, 0)) := hwk ▸ alloc_at rfl
        have HNA : Hid (wn.heap.size ≠ Wb.heap.size) := Lib.hid (by have := HG.out.size; have := HWS.out; omega)
        rw [hwk]
        clear hwk
        replace HC := Lib.hid (HC.out.old hal)
        have hg := grown_any (r := some Wb.heap.size) hal
        have HLA := Lib.hid hla
        try replace HU := Lib.hid (own_grown HU.out hg (by have := HWS.out; omega))
        try replace HLB := Lib.hid ((hg.block _ (Array.getElem?_eq_some_iff.1 HLB.out).1 (by intro e; injection e with e; exact HNB.out e)).trans HLB.out)
        replace HG := Lib.hid (grown_trans HG.out hg)
        clear hal hla hg
        generalize wn.heap.size = LBA at HNA HLA ⊢
        rename World => wn
        refine hK.out _ _ ((HCL.out _ HG.out)) (fun hHeld => ?_)
        clear hK K
        try simp only [Act.put, List.setIfInBounds_toArray, List.set_cons_zero, List.set_cons_succ]
        refine take1 (i := 10) (v := ?v150) (some 28) rfl rfl (by kernel_rfl) (by kernel_rfl) (by kernel_rfl) (fun _ _ _ h => h) (Or.inl ⟨by rfl, ?y150⟩) (by assumption) ?r150
        case y150 => (intro w hSw; (try dsimp only at hSw); go_simp; (first | done | with_reducible rfl))
        try simp only [Act.put, List.setIfInBounds_toArray, List.set_cons_zero, List.set_cons_succ]
        refine wpAnyH_ready (rs := [11]) (by kernel_rfl) (by simp) ?_
        refine AllReadyH.cons rfl (fun K hK => ?_) AllReadyH.nil
        go_simp
        go_at_call 25
        have hs7 := slr_head (xs := [1, 3, 127, 10000, 0, 10001].map (Value.int .i64)) HLA.out (m6) (by show m6 ≤ 6; omega) (by show 6 ≤ maxLen; unfold maxLen; omega)
        rw [← List.map_take] at hs7
        refine (among_any Wb.heap.size (.slice ad L.length cp) L (0 + 200 + 100 + 200 + 2) _ ([1, 3, 127, 10000, 0, 10001].take (m6)) wn (by omega) (by rw [List.length_take]; show 1 ≤ min (m6) 6 ∧ min (m6) 6 ≤ 100; omega) hs7 (fun a m c e => by cases e; exact HNA.out) HC.out (HRX.out _ HG.out)).mono ?_
        rintro e wn ⟨⟨z6, rfl, hz⟩, hc, hg⟩
        have HZB6 : Hid (0 ≤ z6 ∧ z6 ≤ 10001) := Lib.hid (by have := List.mem_of_mem_take hz; simp only [List.mem_cons, List.not_mem_nil, or_false] at this; omega)
        replace HC := Lib.hid hc
        try replace HU := Lib.hid (own_grown HU.out hg (by have := HWS.out; omega))
        try replace HLA := Lib.hid ((hg.block _ (Array.getElem?_eq_some_iff.1 HLA.out).1 (by intro e; injection e with e; exact HNA.out e)).trans HLA.out)
        try replace HLB := Lib.hid ((hg.block _ (Array.getElem?_eq_some_iff.1 HLB.out).1 (by intro e; injection e with e; exact HNB.out e)).trans HLB.out)
        replace HG := Lib.hid (grown_trans HG.out hg)
        clear hc hg hz hs7 hq6 hp6 hb6 hbb6 hbc6
        refine hK.out _ _ ((HCL.out _ HG.out)) (fun hHeld => ?_)
        clear hK K
        try simp only [Act.put, List.setIfInBounds_toArray, List.set_cons_zero, List.set_cons_succ]
        refine wpAnyH_ready (rs := [15]) (by kernel_rfl) (by simp) ?_
        refine AllReadyH.cons rfl (fun K hK => ?_) AllReadyH.nil
        go_simp
        go_at_call 26
        refine (pick_any Wb.heap.size (.slice ad L.length cp) L (0 + 200 + 100 + 200 + 2 + 2) 24 wn (by omega) (by omega) (by omega) HC.out (HRX.out _ HG.out)).mono ?_
        rintro e wn ⟨⟨r7, rfl, r0, r1⟩, hc, hg⟩
        replace HC := Lib.hid hc
        try replace HU := Lib.hid (own_grown HU.out hg (by have := HWS.out; omega))
        try replace HLA := Lib.hid ((hg.block _ (Array.getElem?_eq_some_iff.1 HLA.out).1 (by intro e; injection e with e; exact HNA.out e)).trans HLA.out)
        try replace HLB := Lib.hid ((hg.block _ (Array.getElem?_eq_some_iff.1 HLB.out).1 (by intro e; injection e with e; exact HNB.out e)).trans HLB.out)
        replace HG := Lib.hid (grown_trans HG.out hg)
        clear hc hg
        obtain ⟨m7, hm, hm74, hc7⟩ : ∃ m : Nat, 4 + r7.tdiv 11 = (m : Int) ∧ 4 ≤ m ∧ m ≤ 6 := by
          rw [Int.tdiv_eq_ediv_of_nonneg r0]
          exact ⟨(4 + r7 / 11).toNat, by omega, by omega, by omega⟩
        have hq7 : IntKind.i64.wrap (4 + r7.tdiv 11) = (m7 : Int) := by rw [hm, IntKind.wrap_i64]; omega
        have hp7 : IntKind.i64.wrap (r7.tdiv 11) = r7.tdiv 11 := by rw [IntKind.wrap_i64]; omega
        have hb7 : (0 : Int) ≤ (m7 : Int) ∧ (m7 : Int) ≤ 6 := by omega
        have hbb7 : (m7 : Int) ≤ 6 := by omega
        have hbc7 : (0 : Int) ≤ (m7 : Int) := by omega
        clear hm r0 r1
        refine hK.out _ _ ((HCL.out _ HG.out)) (fun hHeld => ?_)
        clear hK K
        try simp only [Act.put, List.setIfInBounds_toArray, List.set_cons_zero, List.set_cons_succ]
        refine take1 (i := 16) (v := ?v151) (some 34) rfl rfl (by kernel_rfl) (by kernel_rfl) (by kernel_rfl) (fun _ _ _ h => h) (Or.inl ⟨by rfl, ?y151⟩) (by assumption) ?r151
        case y151 => (intro w hSw; (try dsimp only at hSw); go_simp; (first | done | with_reducible rfl))
        try simp only [Act.put, List.setIfInBounds_toArray, List.set_cons_zero, List.set_cons_succ]
        refine take1 (i := 17) (v := ?v152) (some 35) rfl rfl (by kernel_rfl) (by kernel_rfl) (by kernel_rfl) (fun _ _ _ h => h) (Or.inl ⟨by rfl, ?y152⟩) (by assumption) ?r152
        case y152 => (intro w hSw; (try dsimp only at hSw); go_simp; (first | done | with_reducible rfl))
        try simp only [Act.put, List.setIfInBounds_toArray, List.set_cons_zero, List.set_cons_succ]
        refine take1 (i := 18) (v := ?v153) (some 36) rfl rfl (by kernel_rfl) (by kernel_rfl) (by kernel_rfl) (fun _ _ _ h => h) (Or.inl ⟨by rfl, ?y153⟩) (by assumption) ?r153
        case y153 => (intro w hSw; (try dsimp only at hSw); go_simp; (first | done | with_reducible rfl))
        try simp only [Act.put, List.setIfInBounds_toArray, List.set_cons_zero, List.set_cons_succ]
        refine wpAnyH_ready (rs := [19]) (by kernel_rfl) (by simp) ?_
        refine AllReadyH.cons rfl (fun K hK => ?_) AllReadyH.nil
        go_simp
        go_at_call 25
        have hs7 := slr_head (xs := [1, 2, 5000, 10000, 0, 10001].map (Value.int .i64)) HLB.out (m7) (by show m7 ≤ 6; omega) (by show 6 ≤ maxLen; unfold maxLen; omega)
        rw [← List.map_take] at hs7
        refine (among_any Wb.heap.size (.slice ad L.length cp) L (0 + 200 + 100 + 200 + 2 + 2 + 2) _ ([1, 2, 5000, 10000, 0, 10001].take (m7)) wn (by omega) (by rw [List.length_take]; show 1 ≤ min (m7) 6 ∧ min (m7) 6 ≤ 100; omega) hs7 (fun a m c e => by cases e; exact HNB.out) HC.out (HRX.out _ HG.out)).mono ?_
        rintro e wn ⟨⟨z7, rfl, hz⟩, hc, hg⟩
        have HZB7 : Hid (0 ≤ z7 ∧ z7 ≤ 10001) := Lib.hid (by have := List.mem_of_mem_take hz; simp only [List.mem_cons, List.not_mem_nil, or_false] at this; omega)
        replace HC := Lib.hid hc
        try replace HU := Lib.hid (own_grown HU.out hg (by have := HWS.out; omega))
        try replace HLA := Lib.hid ((hg.block _ (Array.getElem?_eq_some_iff.1 HLA.out).1 (by intro e; injection e with e; exact HNA.out e)).trans HLA.out)
        try replace HLB := Lib.hid ((hg.block _ (Array.getElem?_eq_some_iff.1 HLB.out).1 (by intro e; injection e with e; exact HNB.out e)).trans HLB.out)
        replace HG := Lib.hid (grown_trans HG.out hg)
        clear hc hg hz hs7 hq7 hp7 hb7 hbb7 hbc7
        refine hK.out _ _ ((HCL.out _ HG.out)) (fun hHeld => ?_)
        clear hK K
        try simp only [Act.put, List.setIfInBounds_toArray, List.set_cons_zero, List.set_cons_succ]
        refine take1 (i := 20) (v := ?v154) (some 2) rfl rfl (by kernel_rfl) (by kernel_rfl) (by kernel_rfl) (fun _ _ _ h => h) (Or.inl ⟨by rfl, ?y154⟩) (by assumption) ?r154
        case y154 => (intro w hSw; (try dsimp only at hSw); go_simp; (first | done | with_reducible rfl))
        try simp only [Act.put, List.setIfInBounds_toArray, List.set_cons_zero, List.set_cons_succ]
        refine wpAnyH_ready (rs := [21]) (by kernel_rfl) (by simp) ?_
        refine AllReadyH.cons rfl (fun K hK => ?_) AllReadyH.nil
        have hz := (HG.out.block w.heap.size (by have := HWS.out; omega) (by intro e; have := HSB.out; injection e with e; omega)).trans HZW.out
        have hl1 := lt_of_block hz
        obtain ⟨c1, f1⟩ := cell1 hz
        have hq1 := box1_set hz (.slice xa xs.length xc)
        have hx1 := (heap_setCell_other wn ⟨w.heap.size, 0, none⟩ BX (.slice xa xs.length xc) (by show BX ≠ w.heap.size; have := HBX.out; omega)).trans ((HG.out.block BX (by have := HBX.out; omega) (by intro e; have := HBX.out; have := HSB.out; injection e with e; omega)).trans HKX.out)
        have HP1 := Lib.hid (ownsRow_setCell_below (own_grown HRu.out HG.out (by have := HS1.out; have := HSB.out; omega)) (a := ⟨w.heap.size, 0, none⟩) (by show w.heap.size < W1.heap.size; have := HS1.out; omega) (.slice xa xs.length xc))
        have HP2 := Lib.hid (ownsRow_setCell_below (own_grown HRx.out HG.out (by have := HS1.out; have := HSB.out; have := HS2.out; omega)) (a := ⟨w.heap.size, 0, none⟩) (by show w.heap.size < w2.heap.size; have := HS1.out; have := HS2.out; omega) (.slice xa xs.length xc))
        have HP3 := Lib.hid (ownsRow_setCell_below HU.out (a := ⟨w.heap.size, 0, none⟩) (by show w.heap.size < W.heap.size; have := HWS.out; omega) (.slice xa xs.length xc))
        have HB4 := Lib.hid ((HBW.out.grown HG.out HBW.out.size (fun k e => by cases e; have := HSB.out; omega)).setCell (p := ⟨w.heap.size, 0, none⟩) (Nat.le_refl _) (.slice xa xs.length xc))
        go_simp
        clear c1 f1 hl1 hz
        generalize wn.setCell ⟨w.heap.size, 0, none⟩ (.slice xa xs.length xc) = wz at hq1 hx1 HP1 HP2 HP3 HB4 ⊢
        refine hK.out _ _ ((cell1 hx1).1) (fun hHeld => ?_)
        clear hK K
        try simp only [Act.put]
        refine take1 (i := 22) (v := ?v155) (some 4) rfl rfl (by kernel_rfl) (by kernel_rfl) (by kernel_rfl) (fun _ _ _ h => h) (Or.inl ⟨by rfl, ?y155⟩) (by assumption) ?r155
        case y155 => (intro w hSw; (try dsimp only at hSw); go_simp; (first | done | with_reducible rfl))
        try simp only [Act.put, List.setIfInBounds_toArray, List.set_cons_zero, List.set_cons_succ]
        refine take1 (i := 23) (v := ?v156) (some 5) rfl rfl (by kernel_rfl) (by kernel_rfl) (by kernel_rfl) (fun _ _ _ h => h) (Or.inl ⟨by rfl, ?y156⟩) (by assumption) ?r156
        case y156 => (intro w hSw; (try dsimp only at hSw); go_simp; (first | done | with_reducible rfl))
        try simp only [Act.put, List.setIfInBounds_toArray, List.set_cons_zero, List.set_cons_succ]
        refine take1 (i := 24) (v := ?v157) (some 6) rfl rfl (by kernel_rfl) (by kernel_rfl) (by kernel_rfl) (fun _ _ _ h => h) (Or.inl ⟨by rfl, ?y157⟩) (by assumption) ?r157
        case y157 => (intro w hSw; (try dsimp only at hSw); go_simp; (first | done | with_reducible rfl))
        try simp only [Act.put, List.setIfInBounds_toArray, List.set_cons_zero, List.set_cons_succ]
        refine wpAnyH_done (by kernel_rfl) ?_ _
        obtain ⟨c3, f3⟩ := cell1 hq1
        clear hq1 hx1
        go_wp2_with fail
        exact bodyPost_ret (v := .tuple #[.slice qa us.length qc, .agg #[.slice xa xs.length xc], .slice qa2 us2.length qc2, .int .i64 z6, .int .i64 z7]) (by simp [results, Tryd.results14, go_sem, c3]) rfl ⟨⟨_, _, _, us, us2, xs, z6, z7, rfl, ⟨own_mono HP1.out (by have := HS1.out; omega), own_mono HP2.out (by have := HS1.out; have := HS2.out; omega), own_mono HP3.out (by have := HWS.out; omega)⟩, HL.out, HL2.out, HZB6.out, HZB7.out⟩, HB4.out⟩
    · go_simp
      obtain ⟨wk, hwk⟩ : ∃ u, wn.alloc (.cells #[.int .i64 1, .int .i64 3, .int .i64 127, .int .i64 10000, .int .i64 0, .int .i64 10001] 3) = u := ⟨_, rfl⟩
      have hal : wn.grownBy wk none := hwk ▸ grown_alloc wn (.cells #[.int .i64 1, .int .i64 3, .int .i64 127, .int .i64 10000, .int .i64 0, .int .i64 10001] 3) none
      have hla : wk.heap[wn.heap.size]? = some (.cells #[.int .i64 1, .int .i64 3, .int .i64 127, .int .i64 10000, .int .i64 0, .int .i64 10001] 3 (0, 0)) := hwk ▸ alloc_at rfl
      have HNA : Hid (wn.heap.size ≠ Wb.heap.size) := Lib.hid (by have := HG.out.size; have := HWS.out; omega)
      rw [hwk]
      clear hwk
      replace HC := Lib.hid (HC.out.old hal)
      have hg := grown_any (r := some Wb.heap.size) hal
      have HLA := Lib.hid hla
      try replace HU := Lib.hid (own_grown HU.out hg (by have := HWS.out; omega))
      try replace HLB := Lib.hid ((hg.block _ (Array.getElem?_eq_some_iff.1 HLB.out).1 (by intro e; injection e with e; exact HNB.out e)).trans HLB.out)
      replace HG := Lib.hid (grown_trans HG.out hg)
      clear hal hla hg
      generalize wn.heap.size = LBA at HNA HLA ⊢
      rename World => wn
      refine hK.out _ _ ((HCL.out _ HG.out)) (fun hHeld => ?_)
      clear hK K
      try simp only [Act.put, List.setIfInBounds_toArray, List.set_cons_zero, List.set_cons_succ]
      refine wpAnyH_ready (rs := [3]) (by kernel_rfl) (by simp) ?_
      refine AllReadyH.cons rfl (fun K hK => ?_) AllReadyH.nil
      go_simp
      go_at_call 23
      refine (system7_any Wb.heap.size (.slice ad L.length cp) L (0 + 200 + 100) wn (by omega) HC.out (HRX.out _ HG.out)).mono ?_
      rintro e wn ⟨⟨v2, us2, rfl, ho, hl, hnm⟩, hc, hg⟩
      have HL2 : Hid (us2.length ≤ 7 ∧ ∀ u ∈ us2, u.nm.size ≤ 11) := Lib.hid ⟨hl, hnm⟩
      have HU := Lib.hid (own_mono ho (by have := HG.out.size; omega : W.heap.size ≤ _))
      obtain ⟨qa2, qc2, rfl⟩ := own_form ho
      replace HC := Lib.hid hc
      try replace HLA := Lib.hid ((hg.block _ (Array.getElem?_eq_some_iff.1 HLA.out).1 (by intro e; injection e with e; exact HNA.out e)).trans HLA.out)
      try replace HLB := Lib.hid ((hg.block _ (Array.getElem?_eq_some_iff.1 HLB.out).1 (by intro e; injection e with e; exact HNB.out e)).trans HLB.out)
      replace HG := Lib.hid (grown_trans HG.out hg)
      clear hc hg ho hl hnm
      refine hK.out _ _ ((HCL.out _ HG.out)) (fun hHeld => ?_)
      clear hK K
      try simp only [Act.put, List.setIfInBounds_toArray, List.set_cons_zero, List.set_cons_succ]
      refine wpAnyH_ready (rs := [7]) (by kernel_rfl) (by simp) ?_
      refine AllReadyH.cons rfl (fun K hK => ?_) AllReadyH.nil
      go_simp
      go_at_call 26
      refine (pick_any Wb.heap.size (.slice ad L.length cp) L (0 + 200 + 100 + 200) 24 wn (by omega) (by omega) (by omega) HC.out (HRX.out _ HG.out)).mono ?_
      rintro e wn ⟨⟨r6, rfl, r0, r1⟩, hc, hg⟩
      replace HC := Lib.hid hc
      try replace HU := Lib.hid (own_grown HU.out hg (by have := HWS.out; omega))
      try replace HLA := Lib.hid ((hg.block _ (Array.getElem?_eq_some_iff.1 HLA.out).1 (by intro e; injection e with e; exact HNA.out e)).trans HLA.out)
      try replace HLB := Lib.hid ((hg.block _ (Array.getElem?_eq_some_iff.1 HLB.out).1 (by intro e; injection e with e; exact HNB.out e)).trans HLB.out)
      replace HG := Lib.hid (grown_trans HG.out hg)
      clear hc hg
      obtain ⟨m6, hm, hm64, hc6⟩ : ∃ m : Nat, 4 + r6.tdiv 11 = (m : Int) ∧ 4 ≤ m ∧ m ≤ 6 := by
        rw [Int.tdiv_eq_ediv_of_nonneg r0]
        exact ⟨(4 + r6 / 11).toNat, by omega, by omega, by omega⟩
      have hq6 : IntKind.i64.wrap (4 + r6.tdiv 11) = (m6 : Int) := by rw [hm, IntKind.wrap_i64]; omega
      have hp6 : IntKind.i64.wrap (r6.tdiv 11) = r6.tdiv 11 := by rw [IntKind.wrap_i64]; omega
      have hb6 : (0 : Int) ≤ (m6 : Int) ∧ (m6 : Int) ≤ 6 := by omega
      have hbb6 : (m6 : Int) ≤ 6 := by omega
      have hbc6 : (0 : Int) ≤ (m6 : Int) := by omega
      clear hm r0 r1
      refine hK.out _ _ ((HCL.out _ HG.out)) (fun hHeld => ?_)
      clear hK K
      try simp only [Act.put, List.setIfInBounds_toArray, List.set_cons_zero, List.set_cons_succ]
      refine take1 (i := 8) (v := ?v158) (some 26) rfl rfl (by kernel_rfl) (by kernel_rfl) (by kernel_rfl) (fun _ _ _ h => h) (Or.inl ⟨by rfl, ?y158⟩) (by assumption) ?r158
      case y158 => (intro w hSw; (try dsimp only at hSw); go_simp; (first | done | with_reducible rfl))
      try simp only [Act.put, List.setIfInBounds_toArray, List.set_cons_zero, List.set_cons_succ]
      refine take1 (i := 9) (v := ?v159) (some 27) rfl rfl (by kernel_rfl) (by kernel_rfl) (by kernel_rfl) (fun _ _ _ h => h) (Or.inl ⟨by rfl, ?y159⟩) (by assumption) ?r159
      case y159 => (intro w hSw; (try dsimp only at hSw); go_simp; (first | done | with_reducible rfl))
      try simp only [Act.put, List.setIfInBounds_toArray, List.set_cons_zero, List.set_cons_succ]
      refine take1 (i := 10) (v := ?v160) (some 28) rfl rfl (by kernel_rfl) (by kernel_rfl) (by kernel_rfl) (fun _ _ _ h => h) (Or.inl ⟨by rfl, ?y160⟩) (by assumption) ?r160
      case y160 => (intro w hSw; (try dsimp only at hSw); go_simp; (first | done | with_reducible rfl))
      try simp only [Act.put, List.setIfInBounds_toArray, List.set_cons_zero, List.set_cons_succ]
      refine wpAnyH_ready (rs := [11]) (by kernel_rfl) (by simp) ?_
      refine AllReadyH.cons rfl (fun K hK => ?_) AllReadyH.nil
      go_simp
      go_at_call 25
      have hs7 := slr_head (xs := [1, 3, 127, 10000, 0, 10001].map (Value.int .i64)) HLA.out (m6) (by show m6 ≤ 6; omega) (by show 6 ≤ maxLen; unfold maxLen; omega)
      rw [← List.map_take] at hs7
      refine (among_any Wb.heap.size (.slice ad L.length cp) L (0 + 200 + 100 + 200 + 2) _ ([1, 3, 127, 10000, 0, 10001].take (m6)) wn (by omega) (by rw [List.length_take]; show 1 ≤ min (m6) 6 ∧ min (m6) 6 ≤ 100; omega) hs7 (fun a m c e => by cases e; exact HNA.out) HC.out (HRX.out _ HG.out)).mono ?_
      rintro e wn ⟨⟨z6, rfl, hz⟩, hc, hg⟩
      have HZB6 : Hid (0 ≤ z6 ∧ z6 ≤ 10001) := Lib.hid (by have := List.mem_of_mem_take hz; simp only [List.mem_cons, List.not_mem_nil, or_false] at this; omega)
      replace HC := Lib.hid hc
      try replace HU := Lib.hid (own_grown HU.out hg (by have := HWS.out; omega))
      try replace HLA := Lib.hid ((hg.block _ (Array.getElem?_eq_some_iff.1 HLA.out).1 (by intro e; injection e with e; exact HNA.out e)).trans HLA.out)
      try replace HLB := Lib.hid ((hg.block _ (Array.getElem?_eq_some_iff.1 HLB.out).1 (by intro e; injection e with e; exact HNB.out e)).trans HLB.out)
      replace HG := Lib.hid (grown_trans HG.out hg)
      clear hc hg hz hs7 hq6 hp6 hb6 hbb6 hbc6
      refine hK.out _ _ ((HCL.out _ HG.out)) (fun hHeld => ?_)
      clear hK K
      try simp only [Act.put, List.setIfInBounds_toArray, List.set_cons_zero, List.set_cons_succ]
      refine wpAnyH_ready (rs := [15]) (by kernel_rfl) (by simp) ?_
      refine AllReadyH.cons rfl (fun K hK => ?_) AllReadyH.nil
      go_simp
      go_at_call 26
      refine (pick_any Wb.heap.size (.slice ad L.length cp) L (0 + 200 + 100 + 200 + 2 + 2) 24 wn (by omega) (by omega) (by omega) HC.out (HRX.out _ HG.out)).mono ?_
      rintro e wn ⟨⟨r7, rfl, r0, r1⟩, hc, hg⟩
      replace HC := Lib.hid hc
      try replace HU := Lib.hid (own_grown HU.out hg (by have := HWS.out; omega))
      try replace HLA := Lib.hid ((hg.block _ (Array.getElem?_eq_some_iff.1 HLA.out).1 (by intro e; injection e with e; exact HNA.out e)).trans HLA.out)
      try replace HLB := Lib.hid ((hg.block _ (Array.getElem?_eq_some_iff.1 HLB.out).1 (by intro e; injection e with e; exact HNB.out e)).trans HLB.out)
      replace HG := Lib.hid (grown_trans HG.out hg)
      clear hc hg
      obtain ⟨m7, hm, hm74, hc7⟩ : ∃ m : Nat, 4 + r7.tdiv 11 = (m : Int) ∧ 4 ≤ m ∧ m ≤ 6 := by
        rw [Int.tdiv_eq_ediv_of_nonneg r0]
        exact ⟨(4 + r7 / 11).toNat, by omega, by omega, by omega⟩
      have hq7 : IntKind.i64.wrap (4 + r7.tdiv 11) = (m7 : Int) := by rw [hm, IntKind.wrap_i64]; omega
      have hp7 : IntKind.i64.wrap (r7.tdiv 11) = r7.tdiv 11 := by rw [IntKind.wrap_i64]; omega
      have hb7 : (0 : Int) ≤ (m7 : Int) ∧ (m7 : Int) ≤ 6 := by omega
      have hbb7 : (m7 : Int) ≤ 6 := by omega
      have hbc7 : (0 : Int) ≤ (m7 : Int) := by omega
      clear hm r0 r1
      refine hK.out _ _ ((HCL.out _ HG.out)) (fun hHeld => ?_)
      clear hK K
      try simp only [Act.put, List.setIfInBounds_toArray, List.set_cons_zero, List.set_cons_succ]
      refine take1 (i := 16) (v := ?v161) (some 34) rfl rfl (by kernel_rfl) (by kernel_rfl) (by kernel_rfl) (fun _ _ _ h => h) (Or.inl ⟨by rfl, ?y161⟩) (by assumption) ?r161
      case y161 => (intro w hSw; (try dsimp only at hSw); go_simp; (first | done | with_reducible rfl))
      try simp only [Act.put, List.setIfInBounds_toArray, List.set_cons_zero, List.set_cons_succ]
      refine take1 (i := 17) (v := ?v162) (some 35) rfl rfl (by kernel_rfl) (by kernel_rfl) (by kernel_rfl) (fun _ _ _ h => h) (Or.inl ⟨by rfl, ?y162⟩) (by assumption) ?r162
      case y162 => (intro w hSw; (try dsimp only at hSw); go_simp; (first | done | with_reducible rfl))
      try simp only [Act.put, List.setIfInBounds_toArray, List.set_cons_zero, List.set_cons_succ]
      refine take1 (i := 18) (v := ?v163) (some 36) rfl rfl (by kernel_rfl) (by kernel_rfl) (by kernel_rfl) (fun _ _ _ h => h) (Or.inl ⟨by rfl, ?y163⟩) (by assumption) ?r163
      case y163 => (intro w hSw; (try dsimp only at hSw); go_simp; (first | done | with_reducible rfl))
      try simp only [Act.put, List.setIfInBounds_toArray, List.set_cons_zero, List.set_cons_succ]
      refine wpAnyH_ready (rs := [19]) (by kernel_rfl) (by simp) ?_
      refine AllReadyH.cons rfl (fun K hK => ?_) AllReadyH.nil
      go_simp
      go_at_call 25
      have hs7 := slr_head (xs := [1, 2, 5000, 10000, 0, 10001].map (Value.int .i64)) HLB.out (m7) (by show m7 ≤ 6; omega) (by show 6 ≤ maxLen; unfold maxLen; omega)
      rw [← List.map_take] at hs7
      refine (among_any Wb.heap.size (.slice ad L.length cp) L (0 + 200 + 100 + 200 + 2 + 2 + 2) _ ([1, 2, 5000, 10000, 0, 10001].take (m7)) wn (by omega) (by rw [List.length_take]; show 1 ≤ min (m7) 6 ∧ min (m7) 6 ≤ 100; omega) hs7 (fun a m c e => by cases e; exact HNB.out) HC.out (HRX.out _ HG.out)).mono ?_
      rintro e wn ⟨⟨z7, rfl, hz⟩, hc, hg⟩
      have HZB7 : Hid (0 ≤ z7 ∧ z7 ≤ 10001) := Lib.hid (by have := List.mem_of_mem_take hz; simp only [List.mem_cons, List.not_mem_nil, or_false] at this; omega)
      replace HC := Lib.hid hc
      try replace HU := Lib.hid (own_grown HU.out hg (by have := HWS.out; omega))
      try replace HLA := Lib.hid ((hg.block _ (Array.getElem?_eq_some_iff.1 HLA.out).1 (by intro e; injection e with e; exact HNA.out e)).trans HLA.out)
      try replace HLB := Lib.hid ((hg.block _ (Array.getElem?_eq_some_iff.1 HLB.out).1 (by intro e; injection e with e; exact HNB.out e)).trans HLB.out)
      replace HG := Lib.hid (grown_trans HG.out hg)
      clear hc hg hz hs7 hq7 hp7 hb7 hbb7 hbc7
      refine hK.out _ _ ((HCL.out _ HG.out)) (fun hHeld => ?_)
      clear hK K
      try simp only [Act.put, List.setIfInBounds_toArray, List.set_cons_zero, List.set_cons_succ]
      refine take1 (i := 20) (v := ?v164) (some 2) rfl rfl (by kernel_rfl) (by kernel_rfl) (by kernel_rfl) (fun _ _ _ h => h) (Or.inl ⟨by rfl, ?y164⟩) (by assumption) ?r164
      case y164 => (intro w hSw; (try dsimp only at hSw); go_simp; (first | done | with_reducible rfl))
      try simp only [Act.put, List.setIfInBounds_toArray, List.set_cons_zero, List.set_cons_succ]
      refine wpAnyH_ready (rs := [21]) (by kernel_rfl) (by simp) ?_
      refine AllReadyH.cons rfl (fun K hK => ?_) AllReadyH.nil
      have hz := (HG.out.block w.heap.size (by have := HWS.out; omega) (by intro e; have := HSB.out; injection e with e; omega)).trans HZW.out
      have hl1 := lt_of_block hz
      obtain ⟨c1, f1⟩ := cell1 hz
      have hq1 := box1_set hz (.slice xa xs.length xc)
      have hx1 := (heap_setCell_other wn ⟨w.heap.size, 0, none⟩ BX (.slice xa xs.length xc) (by show BX ≠ w.heap.size; have := HBX.out; omega)).trans ((HG.out.block BX (by have := HBX.out; omega) (by intro e; have := HBX.out; have := HSB.out; injection e with e; omega)).trans HKX.out)
      have HP1 := Lib.hid (ownsRow_setCell_below (own_grown HRu.out HG.out (by have := HS1.out; have := HSB.out; omega)) (a := ⟨w.heap.size, 0, none⟩) (by show w.heap.size < W1.heap.size; have := HS1.out; omega) (.slice xa xs.length xc))
      have HP2 := Lib.hid (ownsRow_setCell_below (own_grown HRx.out HG.out (by have := HS1.out; have := HSB.out; have := HS2.out; omega)) (a := ⟨w.heap.size, 0, none⟩) (by show w.heap.size < w2.heap.size; have := HS1.out; have := HS2.out; omega) (.slice xa xs.length xc))
      have HP3 := Lib.hid (ownsRow_setCell_below HU.out (a := ⟨w.heap.size, 0, none⟩) (by show w.heap.size < W.heap.size; have := HWS.out; omega) (.slice xa xs.length xc))
      have HB4 := Lib.hid ((HBW.out.grown HG.out HBW.out.size (fun k e => by cases e; have := HSB.out; omega)).setCell (p := ⟨w.heap.size, 0, none⟩) (Nat.le_refl _) (.slice xa xs.length xc))
      go_simp
      clear c1 f1 hl1 hz
      generalize wn.setCell ⟨w.heap.size, 0, none⟩ (.slice xa xs.length xc) = wz at hq1 hx1 HP1 HP2 HP3 HB4 ⊢
      refine hK.out _ _ ((cell1 hx1).1) (fun hHeld => ?_)
      clear hK K
      try simp only [Act.put]
      refine take1 (i := 22) (v := ?v165) (some 4) rfl rfl (by kernel_rfl) (by kernel_rfl) (by kernel_rfl) (fun _ _ _ h => h) (Or.inl ⟨by rfl, ?y165⟩) (by assumption) ?r165
      case y165 => (intro w hSw; (try dsimp only at hSw); go_simp; (first | done | with_reducible rfl))
      try simp only [Act.put, List.setIfInBounds_toArray, List.set_cons_zero, List.set_cons_succ]
      refine take1 (i := 23) (v := ?v166) (some 5) rfl rfl (by kernel_rfl) (by kernel_rfl) (by kernel_rfl) (fun _ _ _ h => h) (Or.inl ⟨by rfl, ?y166⟩) (by assumption) ?r166
      case y166 => (intro w hSw; (try dsimp only at hSw); go_simp; (first | done | with_reducible rfl))
      try simp only [Act.put, List.setIfInBounds_toArray, List.set_cons_zero, List.set_cons_succ]
      refine take1 (i := 24) (v := ?v167) (some 6) rfl rfl (by kernel_rfl) (by kernel_rfl) (by kernel_rfl) (fun _ _ _ h => h) (Or.inl ⟨by rfl, ?y167⟩) (by assumption) ?r167
      case y167 => (intro w hSw; (try dsimp only at hSw); go_simp; (first | done | with_reducible rfl))
      try simp only [Act.put, List.setIfInBounds_toArray, List.set_cons_zero, List.set_cons_succ]
      refine wpAnyH_done (by kernel_rfl) ?_ _
      obtain ⟨c3, f3⟩ := cell1 hq1
      clear hq1 hx1
      go_wp2_with fail
      exact bodyPost_ret (v := .tuple #[.slice qa us.length qc, .agg #[.slice xa xs.length xc], .slice qa2 us2.length qc2, .int .i64 z6, .int .i64 z7]) (by simp [results, Tryd.results14, go_sem, c3]) rfl ⟨⟨_, _, _, us, us2, xs, z6, z7, rfl, ⟨own_mono HP1.out (by have := HS1.out; omega), own_mono HP2.out (by have := HS1.out; have := HS2.out; omega), own_mono HP3.out (by have := HWS.out; omega)⟩, HL.out, HL2.out, HZB6.out, HZB7.out⟩, HB4.out⟩
end Go.Proofs.YtghdmiimanhjgaaDoor
