/- The draws of the functions over lessons. -/
import Derived.Test.YtblbeoeklkcamaaDoorDle
namespace Go.Proofs.YtblbeoeklkcamaaDoor
set_option linter.unusedVariables false
open Go.RowKit
set_option linter.unusedSimpArgs false

theorem cur_newE {w : World} {cd : Value} {L : List UInt8} (h : SlR w cd (L.map fun c => .int .u8 (c.toNat : Int))) : ∃ W1, w.alloc (.cells #[cd, .int .i64 0, .int .u64 0] 56) = W1 ∧ CurAt W1 w.heap.size cd 0 ∧ CodeR W1 w.heap.size cd L ∧ Below w.heap.size w W1 :=
  ⟨_, rfl, ⟨0, 0, _, Nat.le_refl _, Lib.hid (by decide), alloc_at rfl⟩, code_new h _, (Below.refl _ w).alloc (Nat.le_refl _) _⟩
def liZ : List Int := [0, 1, 50]
set_option maxRecDepth 100000 in
set_option maxHeartbeats 1600000 in
theorem lessonId_any (cb : Nat) (cd : Value) (L : List UInt8) (n B : Nat) (v : Value) (ps : List Les) (w : World) (hn : n < 4611686018427300000) (hp : LeX B w v ps) (hB : cb < B) (hl : ps.length ≤ 13) (hc : CurAt w cb cd n) (hr : CodeR w cb cd L) :
    Calls Tryd.prog 28 #[.pointer (some ⟨cb, 0, none⟩), v] w fun e w' => (∃ z : Int, e = .returned (.int .i64 z)) ∧ CurAt w' cb cd (n + 4) ∧ w.grownBy w' (some cb) := by
  have hlt := hc.lt
  have HR := Lib.hid hr
  have HP := Lib.hid hp
  obtain ⟨a, cp, rfl⟩ := hp.1.form
  have HDA : Hid (∀ (w1 : World) (m : Nat), m ≤ n + 2 → w.grownBy w1 (some cb) → CurAt w1 cb cd m → Calls Tryd.prog 29 #[.pointer (some ⟨cb, 0, none⟩), .slice (some ⟨w1.heap.size, 0, none⟩) 3 3] (w1.alloc (.cells (liZ.map (Value.int .i64)).toArray 3)) fun e w' => (∃ z, e = .returned (.int .i64 z) ∧ z ∈ liZ) ∧ CurAt w' cb cd (m + 2) ∧ (w1.alloc (.cells (liZ.map (Value.int .i64)).toArray 3)).grownBy w' (some cb)) := Lib.hid (fun w1 m hm hg hc => among_any cb cd L m _ liZ _ (by omega) (by decide) (slr_lit w1 (liZ.map (Value.int .i64)) 3 (by decide)) (fun a m c e => by cases e; have := hg.size; show w1.heap.size ≠ cb; omega) (hc.old (grown_alloc w1 _ none)) (HR.out.grown (grown_trans hg (grown_any (grown_alloc w1 _ none)))))
  have HC := Lib.hid hc
  clear hp hc hr
  by_cases h0 : ps.length = 0
  · have z0 : (ps.length : Int) = 0 := by omega
    have z1 : ((ps.length : Int) == 0) = true := by simp [h0]
    have hd := Lib.hid (HDA.out w n (by omega) (World.grownBy.refl w _) HC.out)
    go_enter Tryd.func28, Tryd.ntmps28
    go_wp2_with fail
    refine (hd.out).mono ?_
    rintro e w3 ⟨⟨z, rfl, -⟩, hc3, hg3⟩
    have HC3 := Lib.hid hc3
    have HG4 := Lib.hid (grown_trans (grown_any (r := some cb) (grown_alloc w (.cells (liZ.map (Value.int .i64)).toArray 3) none)) hg3)
    clear hc3 hg3
    go_wp2_with fail
    go_ret
    exact ⟨⟨z, rfl⟩, HC3.out.more (by omega), HG4.out⟩
  · have z1 : ((ps.length : Int) == 0) = false := beq_eq_false_iff_ne.2 (by omega)
    go_enter Tryd.func28, Tryd.ntmps28
    go_wp2_with fail
    refine (one_any cb cd L n 10 w (by omega) ⟨by omega, by omega⟩ HC.out HR.out).mono ?_
    rintro e w2 ⟨⟨b, rfl⟩, hc2, hg2⟩
    have HC2 := Lib.hid hc2
    have HG2 := Lib.hid hg2
    clear hc2 hg2
    cases b with
    | true =>
      have hd := Lib.hid (HDA.out w2 (n + 2) (by omega) HG2.out HC2.out)
      go_wp2_with fail
      refine (hd.out).mono ?_
      rintro e w3 ⟨⟨z, rfl, -⟩, hc3, hg3⟩
      have HC3 := Lib.hid hc3
      have HG4 := Lib.hid (grown_trans (grown_trans HG2.out (grown_any (r := some cb) (grown_alloc w2 (.cells (liZ.map (Value.int .i64)).toArray 3) none))) hg3)
      clear hc3 hg3
      go_wp2_with fail
      go_ret
      exact ⟨⟨z, rfl⟩, HC3.out.more (by omega), HG4.out⟩
    | false =>
      go_wp2_with fail
      refine (pick_any cb cd L (n + 2) (ps.length : Int) w2 (by omega) (by omega) (by omega) HC2.out (HR.out.grown HG2.out)).mono ?_
      rintro e w3 ⟨⟨z, rfl, z2, z3⟩, hc3, hg3⟩
      obtain ⟨k, rfl⟩ : ∃ k : Nat, z = (k : Int) := ⟨z.toNat, by omega⟩
      have hk : k < ps.length := by omega
      obtain ⟨b1, o1, rfl, l1, k1⟩ := ((HP.out.grown HG2.out hB).grown hg3 hB).1.at _ (Below.refl _ _) k hk
      have p0 := k1 0 (by omega)
      have HC3 := Lib.hid hc3
      have HG4 := Lib.hid (grown_trans HG2.out hg3)
      clear hc3 hg3 k1
      simp only [lesC, List.getElem?_cons_zero, Nat.add_zero] at p0
      generalize ps[k].id = idk at p0
      go_wp2_with fail
      go_ret
      exact ⟨⟨idk, rfl⟩, HC3.out.more (by omega), HG4.out⟩
set_option maxRecDepth 100000 in
set_option maxHeartbeats 3200000 in
theorem drawAreLessons_any (cd : Value) (L : List UInt8) (w : World) (h : SlR w cd (L.map fun c => .int .u8 (c.toNat : Int))) :
    Calls Tryd.prog 23 #[cd] w fun e w' => (∃ (v : Value) (ps : List Les), e = .returned v ∧ RowsR 7 lesC w' v ps ∧ ps.length ≤ 13) ∧ Below w.heap.size w w' := by
  obtain ⟨ad, cp, rfl⟩ : ∃ a c, cd = .slice a L.length c := by obtain ⟨a, c, e, _⟩ := h; exact ⟨a, c, by rw [e, List.length_map]⟩
  obtain ⟨W1, hW1, hc1, hr1, hb1⟩ := cur_newE h
  have HS1 : Hid (w.heap.size < W1.heap.size) := Lib.hid (by rw [← hW1]; simp)
  have HF1 := Lib.hid (lessons_any w.heap.size _ L 0 W1 (by omega) hc1 hr1)
  have HR1 := Lib.hid hr1
  have HB1 := Lib.hid hb1
  clear hc1 hr1 hb1 h
  go_enter Tryd.func23, Tryd.ntmps23
  go_wp2_with fail
  try rw [hW1]
  refine (HF1.out).mono ?_
  rintro e w2 ⟨⟨v, ps, rfl, hx, hl⟩, hc2, hg2⟩
  have HX2 := Lib.hid hx
  have HC2 := Lib.hid hc2
  have HG2 := Lib.hid hg2
  clear hx hc2 hg2
  obtain ⟨va, vc, rfl⟩ := HX2.out.1.form
  go_wp2_with fail
  exact bodyPost_ret (v := .slice va ps.length vc) (by simp [results, Tryd.results23, go_sem]) rfl ⟨⟨_, ps, rfl, HX2.out.1, hl⟩, HB1.out.grown HG2.out HB1.out.size (fun k e => by cases e; exact Nat.le_refl _)⟩
set_option maxRecDepth 100000 in
set_option maxHeartbeats 3200000 in
theorem drawShiftLesson_any (cd : Value) (L : List UInt8) (w : World) (h : SlR w cd (L.map fun c => .int .u8 (c.toNat : Int))) :
    Calls Tryd.prog 11 #[cd] w fun e w' => (∃ (v : Value) (ps : List Les) (x y z : Int), e = .returned (.tuple #[v, .int .i64 x, .int .i64 y, .int .i64 z]) ∧ RowsR 7 lesC w' v ps ∧ ps.length ≤ 13) ∧ Below w.heap.size w w' := by
  obtain ⟨ad, cp, rfl⟩ : ∃ a c, cd = .slice a L.length c := by obtain ⟨a, c, e, _⟩ := h; exact ⟨a, c, by rw [e, List.length_map]⟩
  obtain ⟨W1, hW1, hc1, hr1, hb1⟩ := cur_newE h
  have HS1 : Hid (w.heap.size < W1.heap.size) := Lib.hid (by rw [← hW1]; simp)
  have HF1 := Lib.hid (lessons_any w.heap.size _ L 0 W1 (by omega) hc1 hr1)
  have HR1 := Lib.hid hr1
  have HB1 := Lib.hid hb1
  clear hc1 hr1 hb1 h
  go_enter Tryd.func11, Tryd.ntmps11
  go_wp2_with fail
  try rw [hW1]
  refine (HF1.out).mono ?_
  rintro e w2 ⟨⟨v, ps, rfl, hx, hl⟩, hc2, hg2⟩
  have HX2 := Lib.hid hx
  have HC2 := Lib.hid hc2
  have HG2 := Lib.hid hg2
  clear hx hc2 hg2
  obtain ⟨va, vc, rfl⟩ := HX2.out.1.form
  go_wp2_with fail
  refine (lessonId_any w.heap.size _ L (0 + 200) W1.heap.size _ ps w2 (by omega) HX2.out HS1.out hl HC2.out (HR1.out.grown HG2.out)).mono ?_
  rintro e w3 ⟨⟨x, rfl⟩, hc, hg⟩
  have HX3 := Lib.hid (HX2.out.grown hg HS1.out)
  have HC3 := Lib.hid hc
  have HG3 := Lib.hid (grown_trans HG2.out hg)
  clear hc hg
  have HA3 := Lib.hid (grown_alloc w3 (.cells (([0, 0, 1, 5, -1, 7] : List Int).map (Value.int .i64)).toArray 3) none)
  have HKL3 : Hid ((w3.alloc (.cells (([0, 0, 1, 5, -1, 7] : List Int).map (Value.int .i64)).toArray 3)).heap[w3.heap.size]? = some (.cells (([0, 0, 1, 5, -1, 7] : List Int).map (Value.int .i64)).toArray 3 (0, 0))) := Lib.hid (alloc_at rfl)
  have HGA3 := Lib.hid (grown_trans HG3.out (grown_any (r := some w.heap.size) HA3.out))
  have HPK3 := Lib.hid (pick_any w.heap.size _ L (0 + 200 + 4) 24 (w3.alloc (.cells (([0, 0, 1, 5, -1, 7] : List Int).map (Value.int .i64)).toArray 3)) (by omega) (by omega) (by omega) (HC3.out.old HA3.out) (HR1.out.grown HGA3.out))
  go_wp2_with fail
  refine (HPK3.out).mono ?_
  rintro e u3 ⟨⟨r3, rfl, ra3, rb3⟩, hc2, hg2⟩
  have HCU3 := Lib.hid hc2
  have HGV3 := Lib.hid hg2
  have HGU3 := Lib.hid (grown_trans HGA3.out hg2)
  have HWS3 : Hid (W1.heap.size ≤ w3.heap.size) := Lib.hid HG3.out.size
  have HKU3 := Lib.hid ((hg2.block _ (Array.getElem?_eq_some_iff.1 HKL3.out).1 (by intro e; injection e with e; have := HS1.out; have := HWS3.out; omega)).trans HKL3.out)
  clear hc2 hg2
  obtain ⟨m3, hm3, hn3⟩ : ∃ m : Nat, r3.tdiv 11 = (m : Int) ∧ m ≤ 2 := by
    rw [Int.tdiv_eq_ediv_of_nonneg ra3]
    exact ⟨(r3 / 11).toNat, by omega, by omega⟩
  have hq3 : IntKind.i64.wrap (4 + r3.tdiv 11) = ((m3 + 4 : Nat) : Int) := by rw [hm3, IntKind.wrap_i64]; omega
  have ho3 : IntKind.i64.wrap (r3.tdiv 11) = r3.tdiv 11 := by rw [hm3, IntKind.wrap_i64]; omega
  go_wp2_with fail
  have hs7 := slr_headE HKU3.out (4 + m3) (by show 4 + m3 ≤ 6; omega) (by show 6 ≤ maxLen; unfold maxLen; omega)
  rw [← List.map_take] at hs7
  refine (among_any w.heap.size _ L (0 + 200 + 4 + 2) _ (([0, 0, 1, 5, -1, 7] : List Int).take (4 + m3)) u3 (by omega) (by rw [List.length_take]; show 1 ≤ min (4 + m3) 6 ∧ min (4 + m3) 6 ≤ 100; omega) hs7 (fun a m c e => by cases e; have := HS1.out; have := HWS3.out; show w3.heap.size ≠ w.heap.size; omega) HCU3.out (HR1.out.grown HGU3.out)).mono ?_
  rintro e w4 ⟨⟨y, rfl, -⟩, hc3, hg3⟩
  have HC4 := Lib.hid hc3
  have HG4 := Lib.hid (grown_trans HGU3.out hg3)
  have HX4 := Lib.hid (HX3.out.grown (grown_trans (grown_trans (grown_any (r := some w.heap.size) HA3.out) HGV3.out) hg3) HS1.out)
  clear hs7 hc3 hg3 hm3 hq3 ho3
  have HA4 := Lib.hid (grown_alloc w4 (.cells (([480, 510, 570, 1140, 479, 1141] : List Int).map (Value.int .i64)).toArray 3) none)
  have HKL4 : Hid ((w4.alloc (.cells (([480, 510, 570, 1140, 479, 1141] : List Int).map (Value.int .i64)).toArray 3)).heap[w4.heap.size]? = some (.cells (([480, 510, 570, 1140, 479, 1141] : List Int).map (Value.int .i64)).toArray 3 (0, 0))) := Lib.hid (alloc_at rfl)
  have HGA4 := Lib.hid (grown_trans HG4.out (grown_any (r := some w.heap.size) HA4.out))
  have HPK4 := Lib.hid (pick_any w.heap.size _ L (0 + 200 + 4 + 2 + 2) 24 (w4.alloc (.cells (([480, 510, 570, 1140, 479, 1141] : List Int).map (Value.int .i64)).toArray 3)) (by omega) (by omega) (by omega) (HC4.out.old HA4.out) (HR1.out.grown HGA4.out))
  go_wp2_with fail
  refine (HPK4.out).mono ?_
  rintro e u4 ⟨⟨r4, rfl, ra4, rb4⟩, hc2, hg2⟩
  have HCU4 := Lib.hid hc2
  have HGV4 := Lib.hid hg2
  have HGU4 := Lib.hid (grown_trans HGA4.out hg2)
  have HWS4 : Hid (W1.heap.size ≤ w4.heap.size) := Lib.hid HG4.out.size
  have HKU4 := Lib.hid ((hg2.block _ (Array.getElem?_eq_some_iff.1 HKL4.out).1 (by intro e; injection e with e; have := HS1.out; have := HWS4.out; omega)).trans HKL4.out)
  clear hc2 hg2
  obtain ⟨m4, hm4, hn4⟩ : ∃ m : Nat, r4.tdiv 11 = (m : Int) ∧ m ≤ 2 := by
    rw [Int.tdiv_eq_ediv_of_nonneg ra4]
    exact ⟨(r4 / 11).toNat, by omega, by omega⟩
  have hq4 : IntKind.i64.wrap (4 + r4.tdiv 11) = ((m4 + 4 : Nat) : Int) := by rw [hm4, IntKind.wrap_i64]; omega
  have ho4 : IntKind.i64.wrap (r4.tdiv 11) = r4.tdiv 11 := by rw [hm4, IntKind.wrap_i64]; omega
  go_wp2_with fail
  have hs7 := slr_headE HKU4.out (4 + m4) (by show 4 + m4 ≤ 6; omega) (by show 6 ≤ maxLen; unfold maxLen; omega)
  rw [← List.map_take] at hs7
  refine (among_any w.heap.size _ L (0 + 200 + 4 + 2 + 2 + 2) _ (([480, 510, 570, 1140, 479, 1141] : List Int).take (4 + m4)) u4 (by omega) (by rw [List.length_take]; show 1 ≤ min (4 + m4) 6 ∧ min (4 + m4) 6 ≤ 100; omega) hs7 (fun a m c e => by cases e; have := HS1.out; have := HWS4.out; show w4.heap.size ≠ w.heap.size; omega) HCU4.out (HR1.out.grown HGU4.out)).mono ?_
  rintro e w5 ⟨⟨z, rfl, -⟩, hc3, hg3⟩
  have HC5 := Lib.hid hc3
  have HG5 := Lib.hid (grown_trans HGU4.out hg3)
  have HX5 := Lib.hid (HX4.out.grown (grown_trans (grown_trans (grown_any (r := some w.heap.size) HA4.out) HGV4.out) hg3) HS1.out)
  clear hs7 hc3 hg3 hm4 hq4 ho4
  go_wp2_with fail
  exact bodyPost_ret (v := .tuple #[.slice va ps.length vc, .int .i64 x, .int .i64 y, .int .i64 z]) (by simp [results, Tryd.results11, go_sem]) rfl ⟨⟨_, ps, x, y, z, rfl, HX5.out.1, hl⟩, HB1.out.grown HG5.out HB1.out.size (fun k e => by cases e; exact Nat.le_refl _)⟩
set_option maxRecDepth 100000 in
set_option maxHeartbeats 3200000 in
theorem drawLongestGap_any (cd : Value) (L : List UInt8) (w : World) (h : SlR w cd (L.map fun c => .int .u8 (c.toNat : Int))) :
    Calls Tryd.prog 15 #[cd] w fun e w' => (∃ (v : Value) (ps : List Les) (x : Int), e = .returned (.tuple #[v, .int .i64 x]) ∧ RowsR 7 lesC w' v ps ∧ ps.length ≤ 13) ∧ Below w.heap.size w w' := by
  obtain ⟨ad, cp, rfl⟩ : ∃ a c, cd = .slice a L.length c := by obtain ⟨a, c, e, _⟩ := h; exact ⟨a, c, by rw [e, List.length_map]⟩
  obtain ⟨W1, hW1, hc1, hr1, hb1⟩ := cur_newE h
  have HS1 : Hid (w.heap.size < W1.heap.size) := Lib.hid (by rw [← hW1]; simp)
  have HF1 := Lib.hid (lessons_any w.heap.size _ L 0 W1 (by omega) hc1 hr1)
  have HR1 := Lib.hid hr1
  have HB1 := Lib.hid hb1
  clear hc1 hr1 hb1 h
  go_enter Tryd.func15, Tryd.ntmps15
  go_wp2_with fail
  try rw [hW1]
  refine (HF1.out).mono ?_
  rintro e w2 ⟨⟨v, ps, rfl, hx, hl⟩, hc2, hg2⟩
  have HX2 := Lib.hid hx
  have HC2 := Lib.hid hc2
  have HG2 := Lib.hid hg2
  clear hx hc2 hg2
  obtain ⟨va, vc, rfl⟩ := HX2.out.1.form
  have HA2 := Lib.hid (grown_alloc w2 (.cells (([1, 1, 2, 9, 0, 10] : List Int).map (Value.int .i64)).toArray 3) none)
  have HKL2 : Hid ((w2.alloc (.cells (([1, 1, 2, 9, 0, 10] : List Int).map (Value.int .i64)).toArray 3)).heap[w2.heap.size]? = some (.cells (([1, 1, 2, 9, 0, 10] : List Int).map (Value.int .i64)).toArray 3 (0, 0))) := Lib.hid (alloc_at rfl)
  have HGA2 := Lib.hid (grown_trans HG2.out (grown_any (r := some w.heap.size) HA2.out))
  have HPK2 := Lib.hid (pick_any w.heap.size _ L (0 + 200) 24 (w2.alloc (.cells (([1, 1, 2, 9, 0, 10] : List Int).map (Value.int .i64)).toArray 3)) (by omega) (by omega) (by omega) (HC2.out.old HA2.out) (HR1.out.grown HGA2.out))
  go_wp2_with fail
  refine (HPK2.out).mono ?_
  rintro e u2 ⟨⟨r2, rfl, ra2, rb2⟩, hc2, hg2⟩
  have HCU2 := Lib.hid hc2
  have HGV2 := Lib.hid hg2
  have HGU2 := Lib.hid (grown_trans HGA2.out hg2)
  have HWS2 : Hid (W1.heap.size ≤ w2.heap.size) := Lib.hid HG2.out.size
  have HKU2 := Lib.hid ((hg2.block _ (Array.getElem?_eq_some_iff.1 HKL2.out).1 (by intro e; injection e with e; have := HS1.out; have := HWS2.out; omega)).trans HKL2.out)
  clear hc2 hg2
  obtain ⟨m2, hm2, hn2⟩ : ∃ m : Nat, r2.tdiv 11 = (m : Int) ∧ m ≤ 2 := by
    rw [Int.tdiv_eq_ediv_of_nonneg ra2]
    exact ⟨(r2 / 11).toNat, by omega, by omega⟩
  have hq2 : IntKind.i64.wrap (4 + r2.tdiv 11) = ((m2 + 4 : Nat) : Int) := by rw [hm2, IntKind.wrap_i64]; omega
  have ho2 : IntKind.i64.wrap (r2.tdiv 11) = r2.tdiv 11 := by rw [hm2, IntKind.wrap_i64]; omega
  go_wp2_with fail
  have hs7 := slr_headE HKU2.out (4 + m2) (by show 4 + m2 ≤ 6; omega) (by show 6 ≤ maxLen; unfold maxLen; omega)
  rw [← List.map_take] at hs7
  refine (among_any w.heap.size _ L (0 + 200 + 2) _ (([1, 1, 2, 9, 0, 10] : List Int).take (4 + m2)) u2 (by omega) (by rw [List.length_take]; show 1 ≤ min (4 + m2) 6 ∧ min (4 + m2) 6 ≤ 100; omega) hs7 (fun a m c e => by cases e; have := HS1.out; have := HWS2.out; show w2.heap.size ≠ w.heap.size; omega) HCU2.out (HR1.out.grown HGU2.out)).mono ?_
  rintro e w3 ⟨⟨x, rfl, -⟩, hc3, hg3⟩
  have HC3 := Lib.hid hc3
  have HG3 := Lib.hid (grown_trans HGU2.out hg3)
  have HX3 := Lib.hid (HX2.out.grown (grown_trans (grown_trans (grown_any (r := some w.heap.size) HA2.out) HGV2.out) hg3) HS1.out)
  clear hs7 hc3 hg3 hm2 hq2 ho2
  go_wp2_with fail
  exact bodyPost_ret (v := .tuple #[.slice va ps.length vc, .int .i64 x]) (by simp [results, Tryd.results15, go_sem]) rfl ⟨⟨_, ps, x, rfl, HX3.out.1, hl⟩, HB1.out.grown HG3.out HB1.out.size (fun k e => by cases e; exact Nat.le_refl _)⟩
set_option maxRecDepth 100000 in
set_option maxHeartbeats 3200000 in
theorem drawTeacherHours_any (cd : Value) (L : List UInt8) (w : World) (h : SlR w cd (L.map fun c => .int .u8 (c.toNat : Int))) :
    Calls Tryd.prog 6 #[cd] w fun e w' => (∃ (v : Value) (ps : List Les), e = .returned v ∧ RowsR 7 lesC w' v ps ∧ ps.length ≤ 13) ∧ Below w.heap.size w w' := by
  have HD := Lib.hid (drawAreLessons_any cd L w h)
  obtain ⟨ad, cp, rfl⟩ : ∃ a c, cd = .slice a L.length c := by obtain ⟨a, c, e, _⟩ := h; exact ⟨a, c, by rw [e, List.length_map]⟩
  clear h
  go_enter Tryd.func6, Tryd.ntmps6
  go_wp2_with fail
  refine (HD.out).mono ?_
  rintro e w3 ⟨⟨v, ps, rfl, hx, hl⟩, hb⟩
  have HX := Lib.hid hx
  have HB := Lib.hid hb
  clear hx hb
  go_wp2_with fail
  exact bodyPost_ret (v := v) (by simp [results, Tryd.results6, go_sem]) rfl ⟨⟨v, ps, rfl, HX.out, hl⟩, HB.out⟩
set_option maxRecDepth 100000 in
set_option maxHeartbeats 3200000 in
theorem drawIsLesson_any (cd : Value) (L : List UInt8) (w : World) (h : SlR w cd (L.map fun c => .int .u8 (c.toNat : Int))) :
    Calls Tryd.prog 43 #[cd] w fun e w' => (∃ v0 v1 v2 v3 v4 v5 v6 : Int, e = .returned (.agg #[.int .i64 v0, .int .i64 v1, .int .i64 v2, .int .i64 v3, .int .i64 v4, .int .i64 v5, .int .i64 v6])) ∧ Below w.heap.size w w' := by
  obtain ⟨ad, cp, rfl⟩ : ∃ a c, cd = .slice a L.length c := by obtain ⟨a, c, e, _⟩ := h; exact ⟨a, c, by rw [e, List.length_map]⟩
  obtain ⟨W0, hW0⟩ : ∃ u, w.alloc (.cells #[.int .i64 0, .int .i64 0, .int .i64 0, .int .i64 0, .int .i64 0, .int .i64 0, .int .i64 0] 31) = u := ⟨_, rfl⟩
  have hb0 : Below w.heap.size w W0 := by rw [← hW0]; exact (Below.refl _ w).alloc (Nat.le_refl _) _
  have hz0 : W0.heap[w.heap.size]? = some (.cells #[.int .i64 0, .int .i64 0, .int .i64 0, .int .i64 0, .int .i64 0, .int .i64 0, .int .i64 0] 31 (0, 0)) := by rw [← hW0]; exact alloc_at rfl
  have hs0 : W0.heap.size = w.heap.size + 1 := by rw [← hW0]; simp
  obtain ⟨W1, hW1, hc1, hr1, hb1⟩ := cur_newE (h.below hb0 (Nat.le_refl _))
  have hz1 := (hb1.block _ (by omega)).trans hz0
  have hs1 : W1.heap.size = w.heap.size + 2 := by rw [← hW1]; simp; omega
  rw [hs0] at hc1 hr1
  have HAM := Lib.hid (among_any (w.heap.size + 1) _ L 0 _ [1, 42, 99] (W1.alloc (.cells (([1, 42, 99] : List Int).map (Value.int .i64)).toArray 3)) (by omega) (by decide) (slr_lit W1 (([1, 42, 99] : List Int).map (Value.int .i64)) 3 (by decide)) (fun a m c e => by cases e; show W1.heap.size ≠ w.heap.size + 1; omega) (hc1.old (grown_alloc W1 _ none)) (hr1.grown (grown_any (grown_alloc W1 _ none))))
  have HB1 : Hid (Below w.heap.size w W1) := Lib.hid (hb0.trans (hb1.mono (by omega)))
  have HZ1 := Lib.hid hz1
  have HR1 := Lib.hid hr1
  have HS1 := Lib.hid hs1
  clear hc1 hr1 hb1 hb0 hz0 hz1 h hs1
  go_enter Tryd.func43, Tryd.ntmps43
  go_wp2_with fail
  try rw [hW0]
  try rw [hW1]
  refine (HAM.out).mono ?_
  rintro e w2 ⟨⟨id, rfl, -⟩, hc2, hg2⟩
  have HG2 := Lib.hid (grown_trans (grown_any (r := some (w.heap.size + 1)) (grown_alloc W1 (.cells (([1, 42, 99] : List Int).map (Value.int .i64)).toArray 3) none)) hg2)
  have HPU := Lib.hid (lesson_any (w.heap.size + 1) _ L (0 + 2) id w2 (by omega) hc2 (HR1.out.grown HG2.out))
  clear hc2 hg2
  go_wp2_with fail
  refine (HPU.out).mono ?_
  rintro e w3 ⟨⟨v0, v1, v2, v3, v4, v5, v6, rfl⟩, hc3, hg3⟩
  have hz3 := ((grown_trans HG2.out hg3).block w.heap.size (by have := HS1.out; omega) (by intro e; injection e with e; omega)).trans HZ1.out
  have HBL := Lib.hid ((((((((HB1.out.grown (grown_trans HG2.out hg3) HB1.out.size (fun k e => by cases e; exact Nat.le_succ _)).setCell (p := ⟨w.heap.size, 0, none⟩) (Nat.le_refl _) (.int .i64 v0)).setCell (p := ⟨w.heap.size, 1, none⟩) (Nat.le_refl _) (.int .i64 v1)).setCell (p := ⟨w.heap.size, 2, none⟩) (Nat.le_refl _) (.int .i64 v2)).setCell (p := ⟨w.heap.size, 3, none⟩) (Nat.le_refl _) (.int .i64 v3)).setCell (p := ⟨w.heap.size, 4, none⟩) (Nat.le_refl _) (.int .i64 v4)).setCell (p := ⟨w.heap.size, 5, none⟩) (Nat.le_refl _) (.int .i64 v5)).setCell (p := ⟨w.heap.size, 6, none⟩) (Nat.le_refl _) (.int .i64 v6))
  obtain ⟨z0, z1, z2, z3, z4, z5, z6, y0, y1, y2, y3, y4, y5, y6⟩ := cell7 hz3
  clear hc3 hg3 hz3
  go_wp2_with fail
  exact bodyPost_ret (v := .agg #[.int .i64 v0, .int .i64 v1, .int .i64 v2, .int .i64 v3, .int .i64 v4, .int .i64 v5, .int .i64 v6]) (by simp [results, Tryd.results43, go_sem, z0, z1, z2, z3, z4, z5, z6]) rfl ⟨⟨v0, v1, v2, v3, v4, v5, v6, rfl⟩, HBL.out⟩
set_option maxRecDepth 100000 in
set_option maxHeartbeats 3200000 in
theorem drawLessonText_any (cd : Value) (L : List UInt8) (w : World) (h : SlR w cd (L.map fun c => .int .u8 (c.toNat : Int))) :
    Calls Tryd.prog 18 #[cd] w fun e w' => (∃ v0 v1 v2 v3 v4 v5 v6 : Int, e = .returned (.agg #[.int .i64 v0, .int .i64 v1, .int .i64 v2, .int .i64 v3, .int .i64 v4, .int .i64 v5, .int .i64 v6])) ∧ Below w.heap.size w w' := by
  obtain ⟨W0, hW0⟩ : ∃ u, w.alloc (.cells #[.int .i64 0, .int .i64 0, .int .i64 0, .int .i64 0, .int .i64 0, .int .i64 0, .int .i64 0] 31) = u := ⟨_, rfl⟩
  have hb0 : Below w.heap.size w W0 := by rw [← hW0]; exact (Below.refl _ w).alloc (Nat.le_refl _) _
  have hz0 : W0.heap[w.heap.size]? = some (.cells #[.int .i64 0, .int .i64 0, .int .i64 0, .int .i64 0, .int .i64 0, .int .i64 0, .int .i64 0] 31 (0, 0)) := by rw [← hW0]; exact alloc_at rfl
  have hs0 : W0.heap.size = w.heap.size + 1 := by rw [← hW0]; simp
  have HD := Lib.hid (drawIsLesson_any cd L W0 (h.below hb0 (Nat.le_refl _)))
  obtain ⟨ad, cp, rfl⟩ : ∃ a c, cd = .slice a L.length c := by obtain ⟨a, c, e, _⟩ := h; exact ⟨a, c, by rw [e, List.length_map]⟩
  have HB0 := Lib.hid hb0
  have HZ0 := Lib.hid hz0
  have HS0 := Lib.hid hs0
  clear h hb0 hz0 hs0
  go_enter Tryd.func18, Tryd.ntmps18
  go_wp2_with fail
  try rw [hW0]
  refine (HD.out).mono ?_
  rintro e w3 ⟨⟨v0, v1, v2, v3, v4, v5, v6, rfl⟩, hb⟩
  have hb0 := HB0.out
  have hs0 := HS0.out
  have hz3 := (hb.block w.heap.size (by omega)).trans HZ0.out
  have HBL := Lib.hid ((((((((hb0.trans (hb.mono (by omega))).setCell (p := ⟨w.heap.size, 0, none⟩) (Nat.le_refl _) (.int .i64 v0)).setCell (p := ⟨w.heap.size, 1, none⟩) (Nat.le_refl _) (.int .i64 v1)).setCell (p := ⟨w.heap.size, 2, none⟩) (Nat.le_refl _) (.int .i64 v2)).setCell (p := ⟨w.heap.size, 3, none⟩) (Nat.le_refl _) (.int .i64 v3)).setCell (p := ⟨w.heap.size, 4, none⟩) (Nat.le_refl _) (.int .i64 v4)).setCell (p := ⟨w.heap.size, 5, none⟩) (Nat.le_refl _) (.int .i64 v5)).setCell (p := ⟨w.heap.size, 6, none⟩) (Nat.le_refl _) (.int .i64 v6))
  obtain ⟨z0, z1, z2, z3, z4, z5, z6, y0, y1, y2, y3, y4, y5, y6⟩ := cell7 hz3
  clear hb hb0 hs0 hz3
  go_wp2_with fail
  exact bodyPost_ret (v := .agg #[.int .i64 v0, .int .i64 v1, .int .i64 v2, .int .i64 v3, .int .i64 v4, .int .i64 v5, .int .i64 v6]) (by simp [results, Tryd.results18, go_sem, z0, z1, z2, z3, z4, z5, z6]) rfl ⟨⟨v0, v1, v2, v3, v4, v5, v6, rfl⟩, HBL.out⟩
end Go.Proofs.YtblbeoeklkcamaaDoor
