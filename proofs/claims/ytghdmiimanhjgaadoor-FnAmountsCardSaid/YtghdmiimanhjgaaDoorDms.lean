/- A system, amounts and a number, drawn. -/
import Derived.Test.YtghdmiimanhjgaaDoorDsys
import Derived.Test.YtghdmiimanhjgaaDoorDamt
import Derived.Test.YtghdmiimanhjgaaDoorAmts
import Derived.Test.YtghdmiimanhjgaaDoorOwn
import Derived.Test.YtghdmiimanhjgaaDoorMsr
namespace Go.Proofs.YtghdmiimanhjgaaDoor
set_option linter.unusedVariables false
open Go.RowKit
set_option linter.unusedSimpArgs false

theorem slr_head {w : World} {B : Nat} {T : TypeId} {xs : List Value} (hb : w.heap[B]? = some (.cells xs.toArray T (0, 0))) (n : Nat) (hn : n ≤ xs.length) (hl : xs.length ≤ maxLen) : SlR w (.slice (some ⟨B, 0, none⟩) n xs.length) (xs.take n) := by
  have e : (xs.take n).length = n := by rw [List.length_take]; omega
  refine ⟨_, xs.length, by rw [e], ⟨by omega, by omega⟩, fun _ => ⟨B, 0, rfl, lt_of_block hb, fun i hi => ?_⟩⟩
  have h2 : i < xs.length := by omega
  rw [Nat.zero_add, cell_of_row w B i _ _ _ hb]
  simp [List.getElem_take, h2]
set_option maxRecDepth 100000 in
set_option maxHeartbeats 3200000 in
theorem drawTimesOf_any (cd : Value) (L : List UInt8) (w : World) (h : SlR w cd (L.map fun c => .int .u8 (c.toNat : Int))) :
    Calls Tryd.prog 5 #[cd] w fun e w' => (∃ (v x : Value) (us : List Un) (xs : List Int) (z : Int), e = .returned (.tuple #[v, .agg #[x], .int .i64 z]) ∧ w'.ownsRow w.heap.size 40 2 v us.length (flatC unC us) ∧ w'.ownsRow w.heap.size 3 1 x xs.length (flatC inC xs) ∧ (us.length ≤ 7 ∧ ∀ u ∈ us, u.nm.size ≤ 11) ∧ xs.length ≤ 8 ∧ -1 ≤ z ∧ z ≤ 1001) ∧ Below w.heap.size w w' := by
  obtain ⟨ad, cp, rfl⟩ : ∃ a c, cd = .slice a L.length c := by obtain ⟨a, c, e, _⟩ := h; exact ⟨a, c, by rw [e, List.length_map]⟩
  have hT : (Lit.int .u64 0).wf = true := by decide
  obtain ⟨Wb, hWb⟩ : ∃ W, w.alloc (.cells #[.slice none 0 0] 27) = W := ⟨_, rfl⟩
  have hbb : Below w.heap.size w Wb := hWb ▸ (Below.refl _ w).alloc (Nat.le_refl _) _
  have hsb : Wb.heap.size = w.heap.size + 1 := by rw [← hWb]; simp
  have hkb : Wb.heap[w.heap.size]? = some (.cells #[.slice none 0 0] 27 (0, 0)) := by rw [← hWb]; exact alloc_at rfl
  have HH := Lib.hid (h.below hbb (Nat.le_refl _))
  have HN := Lib.hid (code_new HH.out (.cells #[.slice ad L.length cp, .int .i64 0, .int .u64 0] 52))
  have hb1 : Below Wb.heap.size Wb (Wb.alloc (.cells #[.slice ad L.length cp, .int .i64 0, .int .u64 0] 52)) := (Below.refl _ _).alloc (Nat.le_refl _) _
  have hc1 : CurAt (Wb.alloc (.cells #[.slice ad L.length cp, .int .i64 0, .int .u64 0] 52)) Wb.heap.size (.slice ad L.length cp) 0 := ⟨0, 0, _, Nat.le_refl _, Lib.hid hT, alloc_at rfl⟩
  have hs1 : (Wb.alloc (.cells #[.slice ad L.length cp, .int .i64 0, .int .u64 0] 52)).heap.size = Wb.heap.size + 1 := by simp
  obtain ⟨W1, hW1⟩ : ∃ W, Wb.alloc (.cells #[.slice ad L.length cp, .int .i64 0, .int .u64 0] 52) = W := ⟨_, rfl⟩
  rw [hW1] at hb1 hc1 hs1 HN
  have HA := Lib.hid (system7_any Wb.heap.size _ L 0 W1 (by omega) hc1 HN.out)
  have HZ1 : Hid (W1.heap[w.heap.size]? = some (.cells #[.slice none 0 0] 27 (0, 0))) := Lib.hid ((hb1.block _ (by omega)).trans hkb)
  have HB1 := Lib.hid (hbb.trans (hb1.mono (by omega)))
  have HS1 : Hid (W1.heap.size = w.heap.size + 2) := Lib.hid (by omega)
  have HSB := Lib.hid hsb
  clear hb1 hc1 hs1 h HH hbb hkb hsb
  go_enter Tryd.func5, Tryd.ntmps5
  go_wp2_with fail
  try rw [hWb]
  try rw [hW1]
  clear hWb hW1
  refine (HA.out).mono ?_
  rintro e w2 ⟨⟨v, us, rfl, ho, hl, hnm⟩, hc2, hg2⟩
  have HO := Lib.hid ho
  have HL : Hid (us.length ≤ 7 ∧ ∀ u ∈ us, u.nm.size ≤ 11) := Lib.hid ⟨hl, hnm⟩
  have HC2 := Lib.hid hc2
  have HG2 := Lib.hid hg2
  obtain ⟨qa, qc, rfl⟩ := own_form ho
  clear hc2 hg2 ho hl hnm
  go_wp2_with fail
  refine (amount7_any Wb.heap.size _ L (0 + 200) us.length qa qc w2 HL.out.1 (by omega) HC2.out (HN.out.grown HG2.out)).mono ?_
  rintro e w3 ⟨⟨x, xs, rfl, hx, hxl⟩, hc3, hg3⟩
  have HX := Lib.hid hx
  have HXL := Lib.hid hxl
  have HO3 := Lib.hid (own_grown HO.out hg3 (by have := HS1.out; have := HSB.out; omega))
  have HG3 := Lib.hid (grown_trans HG2.out hg3)
  have HS2 : Hid (W1.heap.size ≤ w2.heap.size) := Lib.hid HG2.out.size
  have HS3 : Hid (W1.heap.size ≤ w3.heap.size) := Lib.hid HG3.out.size
  obtain ⟨xa, xc, rfl⟩ := own_form hx
  have hal := grown_alloc w3 (.cells ([0, 1, 2, 12, 1000, -1, 1001].map (Value.int .i64)).toArray 3) none
  have HG4 := Lib.hid (grown_trans HG3.out (grown_any (r := some Wb.heap.size) hal))
  have HGL := Lib.hid (grown_any (r := some Wb.heap.size) hal)
  have HKL : Hid ((w3.alloc (.cells ([0, 1, 2, 12, 1000, -1, 1001].map (Value.int .i64)).toArray 3)).heap[w3.heap.size]? = some (.cells ([0, 1, 2, 12, 1000, -1, 1001].map (Value.int .i64)).toArray 3 (0, 0))) := Lib.hid (alloc_at rfl)
  have HPK := Lib.hid (pick_any Wb.heap.size _ L (0 + 200 + 100) 24 (w3.alloc (.cells ([0, 1, 2, 12, 1000, -1, 1001].map (Value.int .i64)).toArray 3)) (by omega) (by omega) (by omega) (hc3.old hal) (HN.out.grown HG4.out))
  clear hc3 hg3 hx hxl hal
  go_wp2_with fail
  refine (HPK.out).mono ?_
  rintro e w4 ⟨⟨r, rfl, r0, r1⟩, hc4, hg4⟩
  have HC4 := Lib.hid hc4
  have HG5 := Lib.hid (grown_trans HG4.out hg4)
  have HL5 := Lib.hid (grown_trans HGL.out hg4)
  have HK4 : Hid (w4.heap[w3.heap.size]? = some (.cells ([0, 1, 2, 12, 1000, -1, 1001].map (Value.int .i64)).toArray 3 (0, 0))) := Lib.hid ((hg4.block _ (Array.getElem?_eq_some_iff.1 HKL.out).1 (by intro e; have := HS1.out; have := HS3.out; have := HSB.out; injection e with e; omega)).trans HKL.out)
  clear hc4 hg4
  obtain ⟨m, hm, hm5⟩ : ∃ m : Nat, r.tdiv 11 = (m : Int) ∧ m ≤ 2 := by
    rw [Int.tdiv_eq_ediv_of_nonneg r0]
    exact ⟨(r / 11).toNat, by omega, by omega⟩
  have hq : IntKind.i64.wrap (5 + r.tdiv 11) = ((m + 5 : Nat) : Int) := by rw [hm, IntKind.wrap_i64]; omega
  have hq1 : IntKind.i64.wrap (r.tdiv 11) = r.tdiv 11 := by rw [hm, IntKind.wrap_i64]; omega
  go_wp2_with fail
  have hs7 := slr_head HK4.out (5 + m) (by show 5 + m ≤ 7; omega) (by show 7 ≤ maxLen; unfold maxLen; omega)
  rw [← List.map_take] at hs7
  have hne4 : w3.heap.size ≠ Wb.heap.size := by have := HS3.out; have := HS1.out; have := HSB.out; omega
  refine (among_any Wb.heap.size _ L (0 + 200 + 100 + 2) _ ([0, 1, 2, 12, 1000, -1, 1001].take (5 + m)) w4 (by omega) (by rw [List.length_take]; show 1 ≤ min (5 + m) 7 ∧ min (5 + m) 7 ≤ 100; omega) hs7 (fun a m c e => by cases e; exact hne4) HC4.out (HN.out.grown HG5.out)).mono ?_
  rintro e w5 ⟨⟨z, rfl, hz⟩, -, hg5⟩
  have HZB : Hid (-1 ≤ z ∧ z ≤ 1001) := Lib.hid (by have := List.mem_of_mem_take hz; simp only [List.mem_cons, List.not_mem_nil, or_false] at this; omega)
  have hz1 := ((grown_trans HG5.out hg5).block w.heap.size (by have := HS1.out; omega) (by intro e; have := HSB.out; injection e with e; omega)).trans HZ1.out
  have hl1 := lt_of_block hz1
  have hq1 := box1_set hz1 (.slice xa xs.length xc)
  have HP1 := Lib.hid (ownsRow_setCell_below (own_grown HO3.out (grown_trans HL5.out hg5) (by have := HS1.out; have := HSB.out; omega)) (a := ⟨w.heap.size, 0, none⟩) (by show w.heap.size < W1.heap.size; have := HS1.out; omega) (.slice xa xs.length xc))
  have HP2 := Lib.hid (ownsRow_setCell_below (own_grown HX.out (grown_trans HL5.out hg5) (by have := HS1.out; have := HSB.out; have := HS2.out; omega)) (a := ⟨w.heap.size, 0, none⟩) (by show w.heap.size < w2.heap.size; have := HS1.out; have := HS2.out; omega) (.slice xa xs.length xc))
  have HB4 := Lib.hid ((HB1.out.grown (grown_trans HG5.out hg5) HB1.out.size (fun k e => by cases e; have := HSB.out; omega)).setCell (p := ⟨w.heap.size, 0, none⟩) (Nat.le_refl _) (.slice xa xs.length xc))
  obtain ⟨c1, f1⟩ := cell1 hz1
  obtain ⟨c3, f3⟩ := cell1 hq1
  clear hg5 hz hz1 hq1 hs7 hq hm
  go_wp2_with fail
  exact bodyPost_ret (v := .tuple #[.slice qa us.length qc, .agg #[.slice xa xs.length xc], .int .i64 z]) (by simp [results, Tryd.results5, go_sem, c3]) rfl ⟨⟨_, _, us, xs, z, rfl, own_mono HP1.out (by have := HS1.out; omega), own_mono HP2.out (by have := HS1.out; have := HS2.out; omega), HL.out, HXL.out, HZB.out⟩, HB4.out⟩
end Go.Proofs.YtghdmiimanhjgaaDoor
