/- A system and an amount or a name, drawn. -/
import Derived.Test.YtghdmiimanhjgaaDoorDms
namespace Go.Proofs.YtghdmiimanhjgaaDoor
set_option linter.unusedVariables false
open Go.RowKit
set_option linter.unusedSimpArgs false

set_option maxRecDepth 100000 in
set_option maxHeartbeats 3200000 in
theorem drawIsAmount_any (cd : Value) (L : List UInt8) (w : World) (h : SlR w cd (L.map fun c => .int .u8 (c.toNat : Int))) :
    Calls Tryd.prog 39 #[cd] w fun e w' => (∃ (v x : Value) (us : List Un) (xs : List Int), e = .returned (.tuple #[v, .agg #[x]]) ∧ w'.ownsRow w.heap.size 40 2 v us.length (flatC unC us) ∧ w'.ownsRow w.heap.size 3 1 x xs.length (flatC inC xs) ∧ (us.length ≤ 7 ∧ ∀ u ∈ us, u.nm.size ≤ 11) ∧ xs.length ≤ 8) ∧ Below w.heap.size w w' := by
  obtain ⟨ad, cp, rfl⟩ : ∃ a c, cd = .slice a L.length c := by obtain ⟨a, c, e, _⟩ := h; exact ⟨a, c, by rw [e, List.length_map]⟩
  have hT : (Lit.int .u64 0).wf = true := by decide
  obtain ⟨Wb, hWb⟩ : ∃ W, w.alloc (.cells #[.slice none 0 0] 27) = W := ⟨_, rfl⟩
  have hbb : Below w.heap.size w Wb := hWb ▸ (Below.refl _ w).alloc (Nat.le_refl _) _
  have hsb : Wb.heap.size = w.heap.size + 1 := by rw [← hWb]; simp
  have hkb : Wb.heap[w.heap.size]? = some (.cells #[.slice none 0 0] 27 (0, 0)) := by rw [← hWb]; exact alloc_at rfl
  have HH := Lib.hid (h.below hbb (Nat.le_refl _))
  have HN := Lib.hid (code_new HH.out (.cells #[.slice ad L.length cp, .int .i64 0, .int .u64 0] 52))
  have hb1 : Below Wb.heap.size Wb (Wb.alloc (.cells #[.slice ad L.length cp, .int .i64 0, .int .u64 0] 52)) := (Below.refl _ _).alloc (Nat.le_refl _) _
  have hc1 : CurAt (Wb.alloc (.cells #[.slice ad L.length cp, .int .i64 0, .int .u64 0] 52)) Wb.heap.size (.slice ad L.length cp) 0 := ⟨0, 0, _, Nat.le_refl _, Lib.hid hT, alloc_at rfl⟩
  have hs1 : (Wb.alloc (.cells #[.slice ad L.length cp, .int .i64 0, .int .u64 0] 52)).heap.size = Wb.heap.size + 1 := by simp
  obtain ⟨W1, hW1⟩ : ∃ W, Wb.alloc (.cells #[.slice ad L.length cp, .int .i64 0, .int .u64 0] 52) = W := ⟨_, rfl⟩
  rw [hW1] at hb1 hc1 hs1 HN
  have HA := Lib.hid (system7_any Wb.heap.size _ L 0 W1 (by omega) hc1 HN.out)
  have HZ1 : Hid (W1.heap[w.heap.size]? = some (.cells #[.slice none 0 0] 27 (0, 0))) := Lib.hid ((hb1.block _ (by omega)).trans hkb)
  have HB1 := Lib.hid (hbb.trans (hb1.mono (by omega)))
  have HS1 : Hid (W1.heap.size = w.heap.size + 2) := Lib.hid (by omega)
  have HSB := Lib.hid hsb
  clear hb1 hc1 hs1 h HH hbb hkb hsb
  go_enter Tryd.func39, Tryd.ntmps39
  go_wp2_with fail
  try rw [hWb]
  try rw [hW1]
  clear hWb hW1
  refine (HA.out).mono ?_
  rintro e w2 ⟨⟨v, us, rfl, ho, hl, hnm⟩, hc2, hg2⟩
  have HO := Lib.hid ho
  have HL : Hid (us.length ≤ 7 ∧ ∀ u ∈ us, u.nm.size ≤ 11) := Lib.hid ⟨hl, hnm⟩
  have HC2 := Lib.hid hc2
  have HG2 := Lib.hid hg2
  obtain ⟨qa, qc, rfl⟩ := own_form ho
  clear hc2 hg2 ho hl hnm
  go_wp2_with fail
  refine (amount7_any Wb.heap.size _ L (0 + 200) us.length qa qc w2 HL.out.1 (by omega) HC2.out (HN.out.grown HG2.out)).mono ?_
  rintro e w3 ⟨⟨x, xs, rfl, hx, hxl⟩, -, hg3⟩
  have HXL := Lib.hid hxl
  have HS2 : Hid (W1.heap.size ≤ w2.heap.size) := Lib.hid HG2.out.size
  have hz1 := ((grown_trans HG2.out hg3).block w.heap.size (by have := HS1.out; omega) (by intro e; have := HSB.out; injection e with e; omega)).trans HZ1.out
  obtain ⟨xa, xc, rfl⟩ := own_form hx
  have hl1 := lt_of_block hz1
  have hq1 := box1_set hz1 (.slice xa xs.length xc)
  have HP1 := Lib.hid (ownsRow_setCell_below (own_grown HO.out hg3 (by have := HS1.out; have := HSB.out; omega)) (a := ⟨w.heap.size, 0, none⟩) (by show w.heap.size < W1.heap.size; have := HS1.out; omega) (.slice xa xs.length xc))
  have HP2 := Lib.hid (ownsRow_setCell_below hx (a := ⟨w.heap.size, 0, none⟩) (by show w.heap.size < w2.heap.size; have := HS1.out; have := HS2.out; omega) (.slice xa xs.length xc))
  have HB4 := Lib.hid ((HB1.out.grown (grown_trans HG2.out hg3) HB1.out.size (fun k e => by cases e; have := HSB.out; omega)).setCell (p := ⟨w.heap.size, 0, none⟩) (Nat.le_refl _) (.slice xa xs.length xc))
  obtain ⟨c1, f1⟩ := cell1 hz1
  obtain ⟨c3, f3⟩ := cell1 hq1
  clear hg3 hx hxl hz1 hq1
  go_wp2_with fail
  exact bodyPost_ret (v := .tuple #[.slice qa us.length qc, .agg #[.slice xa xs.length xc]]) (by simp [results, Tryd.results39, go_sem, c3]) rfl ⟨⟨_, _, us, xs, rfl, own_mono HP1.out (by have := HS1.out; omega), own_mono HP2.out (by have := HS1.out; have := HS2.out; omega), HL.out, HXL.out⟩, HB4.out⟩
set_option maxRecDepth 100000 in
set_option maxHeartbeats 3200000 in
theorem drawValueIn_any (cd : Value) (L : List UInt8) (w : World) (h : SlR w cd (L.map fun c => .int .u8 (c.toNat : Int))) :
    Calls Tryd.prog 21 #[cd] w fun e w' => (∃ (v x : Value) (us : List Un) (xs : List Int), e = .returned (.tuple #[v, .agg #[x]]) ∧ w'.ownsRow w.heap.size 40 2 v us.length (flatC unC us) ∧ w'.ownsRow w.heap.size 3 1 x xs.length (flatC inC xs) ∧ (us.length ≤ 7 ∧ ∀ u ∈ us, u.nm.size ≤ 11) ∧ xs.length ≤ 8) ∧ Below w.heap.size w w' := by
  obtain ⟨ad, cp, rfl⟩ : ∃ a c, cd = .slice a L.length c := by obtain ⟨a, c, e, _⟩ := h; exact ⟨a, c, by rw [e, List.length_map]⟩
  have hT : (Lit.int .u64 0).wf = true := by decide
  obtain ⟨Wb, hWb⟩ : ∃ W, w.alloc (.cells #[.slice none 0 0] 27) = W := ⟨_, rfl⟩
  have hbb : Below w.heap.size w Wb := hWb ▸ (Below.refl _ w).alloc (Nat.le_refl _) _
  have hsb : Wb.heap.size = w.heap.size + 1 := by rw [← hWb]; simp
  have hkb : Wb.heap[w.heap.size]? = some (.cells #[.slice none 0 0] 27 (0, 0)) := by rw [← hWb]; exact alloc_at rfl
  have HH := Lib.hid (h.below hbb (Nat.le_refl _))
  have HA := Lib.hid (drawIsAmount_any _ L Wb HH.out)
  have HZ1 := Lib.hid hkb
  have HB1 := Lib.hid hbb
  have HSB := Lib.hid hsb
  clear h HH hbb hkb hsb
  go_enter Tryd.func21, Tryd.ntmps21
  go_wp2_with fail
  try rw [hWb]
  clear hWb
  refine (HA.out).mono ?_
  rintro e w4 ⟨⟨v, x, us, xs, rfl, hv, hx, hL, hxl⟩, hb4⟩
  obtain ⟨qa, qc, rfl⟩ := own_form hv
  obtain ⟨xa, xc, rfl⟩ := own_form hx
  have hz1 := (hb4.block w.heap.size (by have := HSB.out; omega)).trans HZ1.out
  have hl1 := lt_of_block hz1
  have hq1 := box1_set hz1 (.slice xa xs.length xc)
  have HP1 := Lib.hid (ownsRow_setCell_below hv (a := ⟨w.heap.size, 0, none⟩) (by show w.heap.size < Wb.heap.size; have := HSB.out; omega) (.slice xa xs.length xc))
  have HP2 := Lib.hid (ownsRow_setCell_below hx (a := ⟨w.heap.size, 0, none⟩) (by show w.heap.size < Wb.heap.size; have := HSB.out; omega) (.slice xa xs.length xc))
  have HB4 := Lib.hid ((HB1.out.trans (hb4.mono (by have := HSB.out; omega))).setCell (p := ⟨w.heap.size, 0, none⟩) (Nat.le_refl _) (.slice xa xs.length xc))
  obtain ⟨c1, f1⟩ := cell1 hz1
  obtain ⟨c3, f3⟩ := cell1 hq1
  have HL := Lib.hid hL
  have HXL := Lib.hid hxl
  clear hb4 hv hx hz1 hq1 hL hxl
  go_wp2_with fail
  exact bodyPost_ret (v := .tuple #[.slice qa us.length qc, .agg #[.slice xa xs.length xc]]) (by simp [results, Tryd.results21, go_sem, c3]) rfl ⟨⟨_, _, us, xs, rfl, own_mono HP1.out (by have := HSB.out; omega), own_mono HP2.out (by have := HSB.out; omega), HL.out, HXL.out⟩, HB4.out⟩
set_option maxRecDepth 100000 in
set_option maxHeartbeats 3200000 in
theorem drawAmountText_any (cd : Value) (L : List UInt8) (w : World) (h : SlR w cd (L.map fun c => .int .u8 (c.toNat : Int))) :
    Calls Tryd.prog 17 #[cd] w fun e w' => (∃ (v x : Value) (us : List Un) (xs : List Int), e = .returned (.tuple #[v, .agg #[x]]) ∧ w'.ownsRow w.heap.size 40 2 v us.length (flatC unC us) ∧ w'.ownsRow w.heap.size 3 1 x xs.length (flatC inC xs) ∧ (us.length ≤ 7 ∧ ∀ u ∈ us, u.nm.size ≤ 11) ∧ xs.length ≤ 8) ∧ Below w.heap.size w w' := by
  obtain ⟨ad, cp, rfl⟩ : ∃ a c, cd = .slice a L.length c := by obtain ⟨a, c, e, _⟩ := h; exact ⟨a, c, by rw [e, List.length_map]⟩
  have hT : (Lit.int .u64 0).wf = true := by decide
  obtain ⟨Wb, hWb⟩ : ∃ W, w.alloc (.cells #[.slice none 0 0] 27) = W := ⟨_, rfl⟩
  have hbb : Below w.heap.size w Wb := hWb ▸ (Below.refl _ w).alloc (Nat.le_refl _) _
  have hsb : Wb.heap.size = w.heap.size + 1 := by rw [← hWb]; simp
  have hkb : Wb.heap[w.heap.size]? = some (.cells #[.slice none 0 0] 27 (0, 0)) := by rw [← hWb]; exact alloc_at rfl
  have HH := Lib.hid (h.below hbb (Nat.le_refl _))
  have HA := Lib.hid (drawIsAmount_any _ L Wb HH.out)
  have HZ1 := Lib.hid hkb
  have HB1 := Lib.hid hbb
  have HSB := Lib.hid hsb
  clear h HH hbb hkb hsb
  go_enter Tryd.func17, Tryd.ntmps17
  go_wp2_with fail
  try rw [hWb]
  clear hWb
  refine (HA.out).mono ?_
  rintro e w4 ⟨⟨v, x, us, xs, rfl, hv, hx, hL, hxl⟩, hb4⟩
  obtain ⟨qa, qc, rfl⟩ := own_form hv
  obtain ⟨xa, xc, rfl⟩ := own_form hx
  have hz1 := (hb4.block w.heap.size (by have := HSB.out; omega)).trans HZ1.out
  have hl1 := lt_of_block hz1
  have hq1 := box1_set hz1 (.slice xa xs.length xc)
  have HP1 := Lib.hid (ownsRow_setCell_below hv (a := ⟨w.heap.size, 0, none⟩) (by show w.heap.size < Wb.heap.size; have := HSB.out; omega) (.slice xa xs.length xc))
  have HP2 := Lib.hid (ownsRow_setCell_below hx (a := ⟨w.heap.size, 0, none⟩) (by show w.heap.size < Wb.heap.size; have := HSB.out; omega) (.slice xa xs.length xc))
  have HB4 := Lib.hid ((HB1.out.trans (hb4.mono (by have := HSB.out; omega))).setCell (p := ⟨w.heap.size, 0, none⟩) (Nat.le_refl _) (.slice xa xs.length xc))
  obtain ⟨c1, f1⟩ := cell1 hz1
  obtain ⟨c3, f3⟩ := cell1 hq1
  have HL := Lib.hid hL
  have HXL := Lib.hid hxl
  clear hb4 hv hx hz1 hq1 hL hxl
  go_wp2_with fail
  exact bodyPost_ret (v := .tuple #[.slice qa us.length qc, .agg #[.slice xa xs.length xc]]) (by simp [results, Tryd.results17, go_sem, c3]) rfl ⟨⟨_, _, us, xs, rfl, own_mono HP1.out (by have := HSB.out; omega), own_mono HP2.out (by have := HSB.out; omega), HL.out, HXL.out⟩, HB4.out⟩
def unNames : List ByteArray := [⟨#[103, 114, 97, 105, 110]⟩, ⟨#[99, 117, 112]⟩, ⟨#[112, 111, 117, 110, 100]⟩, ⟨#[115, 116, 111, 110, 101]⟩, ⟨#[98, 97, 108, 101]⟩, ⟨#[110, 111, 110, 101]⟩, ⟨#[]⟩]
set_option maxRecDepth 100000 in
set_option maxHeartbeats 3200000 in
theorem drawUnitsIn_any (cd : Value) (L : List UInt8) (w : World) (h : SlR w cd (L.map fun c => .int .u8 (c.toNat : Int))) :
    Calls Tryd.prog 10 #[cd] w fun e w' => (∃ (v : Value) (us : List Un) (nm : ByteArray), e = .returned (.tuple #[v, .string nm]) ∧ w'.ownsRow w.heap.size 40 2 v us.length (flatC unC us) ∧ us.length ≤ 7 ∧ ∀ u ∈ us, u.nm.size ≤ 11) ∧ Below w.heap.size w w' := by
  obtain ⟨ad, cp, rfl⟩ : ∃ a c, cd = .slice a L.length c := by obtain ⟨a, c, e, _⟩ := h; exact ⟨a, c, by rw [e, List.length_map]⟩
  have hT : (Lit.int .u64 0).wf = true := by decide
  have HH := Lib.hid h
  have HN := Lib.hid (code_new HH.out (.cells #[.slice ad L.length cp, .int .i64 0, .int .u64 0] 52))
  have hb1 : Below w.heap.size w (w.alloc (.cells #[.slice ad L.length cp, .int .i64 0, .int .u64 0] 52)) := (Below.refl _ _).alloc (Nat.le_refl _) _
  have hc1 : CurAt (w.alloc (.cells #[.slice ad L.length cp, .int .i64 0, .int .u64 0] 52)) w.heap.size (.slice ad L.length cp) 0 := ⟨0, 0, _, Nat.le_refl _, Lib.hid hT, alloc_at rfl⟩
  have hs1 : (w.alloc (.cells #[.slice ad L.length cp, .int .i64 0, .int .u64 0] 52)).heap.size = w.heap.size + 1 := by simp
  obtain ⟨W1, hW1⟩ : ∃ W, w.alloc (.cells #[.slice ad L.length cp, .int .i64 0, .int .u64 0] 52) = W := ⟨_, rfl⟩
  rw [hW1] at hb1 hc1 hs1 HN
  have HA := Lib.hid (system7_any w.heap.size _ L 0 W1 (by omega) hc1 HN.out)
  have HB1 := Lib.hid hb1
  have HS1 := Lib.hid hs1
  clear hb1 hc1 hs1 h HH
  go_enter Tryd.func10, Tryd.ntmps10
  go_wp2_with fail
  try rw [hW1]
  refine (HA.out).mono ?_
  rintro e w2 ⟨⟨v, us, rfl, ho, hl, hnm⟩, hc2, hg2⟩
  have HO := Lib.hid ho
  have HL : Hid (us.length ≤ 7 ∧ ∀ u ∈ us, u.nm.size ≤ 11) := Lib.hid ⟨hl, hnm⟩
  have HC2 := Lib.hid hc2
  have HG2 := Lib.hid hg2
  obtain ⟨qa, qc, rfl⟩ := own_form ho
  clear hc2 hg2 ho hl hnm
  clear hW1
  have hal := grown_alloc w2 (.cells (unNames.map Value.string).toArray 9) none
  have HNE : Hid (w2.heap.size ≠ w.heap.size) := Lib.hid (by have := HG2.out.size; have := HS1.out; omega)
  have HAM := Lib.hid (of_any w.heap.size _ L (0 + 200) _ unNames (w2.alloc (.cells (unNames.map Value.string).toArray 9)) (by omega) (by decide) (slr_lit w2 (unNames.map Value.string) 9 (by decide)) (fun a m c e => by cases e; exact HNE.out) (HC2.out.old hal) (HN.out.grown (grown_trans HG2.out (grown_any hal))))
  have HG3 := Lib.hid (grown_trans HG2.out (grown_any (r := some w.heap.size) hal))
  have HGL := Lib.hid (grown_any (r := some w.heap.size) hal)
  clear hal
  go_wp2_with fail
  refine (HAM.out).mono ?_
  rintro e w3 ⟨⟨z, rfl, -⟩, -, hg3⟩
  have HO3 := Lib.hid (own_grown HO.out (grown_trans HGL.out hg3) (by have := HS1.out; omega))
  have HB3 := Lib.hid (HB1.out.grown (grown_trans HG3.out hg3) HB1.out.size (fun k e => by cases e; exact Nat.le_refl _))
  clear hg3
  go_wp2_with fail
  go_ret2
  exact ⟨⟨_, us, z, rfl, own_mono HO3.out (by have := HS1.out; omega), HL.out.1, HL.out.2⟩, HB3.out⟩
end Go.Proofs.YtghdmiimanhjgaaDoor
