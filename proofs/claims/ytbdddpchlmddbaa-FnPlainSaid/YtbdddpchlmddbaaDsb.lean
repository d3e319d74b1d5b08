/- A board's count of lines and a value, drawn. -/
import Derived.Test.YtbdddpchlmddbaaDb5
namespace Go.Proofs.Ytbdddpchlmddbaa
set_option linter.unusedVariables false
open Go.RowKit
set_option linter.unusedSimpArgs false

theorem slr_headS {w : World} {B : Nat} {T : TypeId} {xs : List Value} (hb : w.heap[B]? = some (.cells xs.toArray T (0, 0))) (n : Nat) (hn : n ≤ xs.length) (hl : xs.length ≤ maxLen) : SlR w (.slice (some ⟨B, 0, none⟩) n xs.length) (xs.take n) := by
  have e : (xs.take n).length = n := by rw [List.length_take]; omega
  refine ⟨_, xs.length, by rw [e], ⟨by omega, by omega⟩, fun _ => ⟨B, 0, rfl, lt_of_block hb, fun i hi => ?_⟩⟩
  have h2 : i < xs.length := by omega
  rw [Nat.zero_add, cell_of_row w B i _ _ _ hb]
  simp [List.getElem_take, h2]
set_option maxRecDepth 100000 in
set_option maxHeartbeats 3200000 in
theorem drawSetBoard_any (cd : Value) (L : List UInt8) (w : World) (h : SlR w cd (L.map fun c => .int .u8 (c.toNat : Int))) :
    Calls Try.prog 15 #[cd] w fun e w' => (∃ x y : Int, e = .returned (.tuple #[.int .i64 x, .int .i64 y]) ∧ (0 ≤ x ∧ x ≤ 7) ∧ -1 ≤ y ∧ y ≤ 1000000) ∧ Below w.heap.size w w' := by
  obtain ⟨ad, cp, rfl⟩ : ∃ a c, cd = .slice a L.length c := by obtain ⟨a, c, e, _⟩ := h; exact ⟨a, c, by rw [e, List.length_map]⟩
  have hT : (Lit.int .u64 0).wf = true := by decide
  have HN := Lib.hid (code_new h)
  obtain ⟨W1, hW1⟩ : ∃ W1, w.alloc (.cells #[.slice ad L.length cp, .int .i64 0, .int .u64 0] 54) = W1 := ⟨_, rfl⟩
  have hc1 : CurAt W1 w.heap.size (.slice ad L.length cp) 0 := ⟨0, 0, _, Nat.le_refl _, Lib.hid hT, by rw [← hW1]; exact alloc_at rfl⟩
  have hr1 : CodeR W1 w.heap.size (.slice ad L.length cp) L := by rw [← hW1]; exact HN.out _
  have HB1 : Hid (Below w.heap.size w W1) := Lib.hid (by rw [← hW1]; exact (Below.refl _ w).alloc (Nat.le_refl _) _)
  have HS1 : Hid (W1.heap.size = w.heap.size + 1) := Lib.hid (by rw [← hW1]; simp)
  have HR1 := Lib.hid hr1
  have hal := grown_alloc W1 (.cells (([1, 2, 3, 6, 0, 7] : List Int).map (Value.int .i64)).toArray 3) none
  have HG2 := Lib.hid (grown_any (r := some w.heap.size) hal)
  have HKL : Hid ((W1.alloc (.cells (([1, 2, 3, 6, 0, 7] : List Int).map (Value.int .i64)).toArray 3)).heap[W1.heap.size]? = some (.cells (([1, 2, 3, 6, 0, 7] : List Int).map (Value.int .i64)).toArray 3 (0, 0))) := Lib.hid (alloc_at rfl)
  have HPK := Lib.hid (pick_any w.heap.size _ L 0 24 (W1.alloc (.cells (([1, 2, 3, 6, 0, 7] : List Int).map (Value.int .i64)).toArray 3)) (by omega) (by omega) (by omega) (hc1.old hal) (hr1.grown HG2.out))
  clear hc1 hr1 h hal HN
  go_enter Try.func15, Try.ntmps15
  go_wp2_with fail
  try rw [hW1]
  refine (HPK.out).mono ?_
  rintro e w2 ⟨⟨r, rfl, r0, r1⟩, hc2, hg2⟩
  have HC2 := Lib.hid hc2
  have HG3 := Lib.hid (grown_trans HG2.out hg2)
  have HK2 := Lib.hid ((hg2.block _ (Array.getElem?_eq_some_iff.1 HKL.out).1 (by intro e; have := HS1.out; injection e with e; omega)).trans HKL.out)
  clear hc2 hg2
  obtain ⟨m, hm, hm5⟩ : ∃ m : Nat, r.tdiv 11 = (m : Int) ∧ m ≤ 2 := by
    rw [Int.tdiv_eq_ediv_of_nonneg r0]
    exact ⟨(r / 11).toNat, by omega, by omega⟩
  have hq : IntKind.i64.wrap (4 + r.tdiv 11) = ((m + 4 : Nat) : Int) := by rw [hm, IntKind.wrap_i64]; omega
  have hq1 : IntKind.i64.wrap (r.tdiv 11) = r.tdiv 11 := by rw [hm, IntKind.wrap_i64]; omega
  go_wp2_with fail
  have hs7 := slr_headS HK2.out (4 + m) (by show 4 + m ≤ 6; omega) (by show 6 ≤ maxLen; unfold maxLen; omega)
  rw [← List.map_take] at hs7
  have hne4 : W1.heap.size ≠ w.heap.size := by have := HS1.out; omega
  refine (among_any w.heap.size _ L (0 + 2) _ (([1, 2, 3, 6, 0, 7] : List Int).take (4 + m)) w2 (by omega) (by rw [List.length_take]; show 1 ≤ min (4 + m) 6 ∧ min (4 + m) 6 ≤ 100; omega) hs7 (fun a m c e => by cases e; exact hne4) HC2.out (HR1.out.grown HG3.out)).mono ?_
  rintro e w3 ⟨⟨z, rfl, hz⟩, hc3, hg3⟩
  have HZ : Hid (0 ≤ z ∧ z ≤ 7) := Lib.hid (by have := List.mem_of_mem_take hz; simp only [List.mem_cons, List.not_mem_nil, or_false] at this; omega)
  have hal := grown_alloc w3 (.cells (([0, 4, 5, 9, 10, 99, 100, 4738, 999999, 1000000, -1] : List Int).map (Value.int .i64)).toArray 3) none
  have hg4 := grown_trans (grown_trans HG3.out hg3) (grown_any (r := some w.heap.size) hal)
  have HO := Lib.hid (among_any w.heap.size _ L (0 + 2 + 2) _ [0, 4, 5, 9, 10, 99, 100, 4738, 999999, 1000000, -1] _ (by omega) (by decide) (slr_lit w3 (([0, 4, 5, 9, 10, 99, 100, 4738, 999999, 1000000, -1] : List Int).map (Value.int .i64)) 3 (by decide)) (fun a m c e => by cases e; have := hg3.size; have := HG3.out.size; have := HS1.out; show w3.heap.size ≠ w.heap.size; omega) (hc3.old hal) (HR1.out.grown hg4))
  have HG4 := Lib.hid hg4
  clear hs7 hne4 hz hc3 hg3 hal hg4
  go_wp2_with fail
  refine (HO.out).mono ?_
  rintro e w5 ⟨⟨y, rfl, hy⟩, -, hg5⟩
  have HY : Hid (-1 ≤ y ∧ y ≤ 1000000) := Lib.hid (by simp only [List.mem_cons, List.not_mem_nil, or_false] at hy; omega)
  have HB5 := Lib.hid (HB1.out.grown (grown_trans HG4.out hg5) HB1.out.size (fun k e => by cases e; exact Nat.le_refl _))
  clear hy hg5
  go_wp2_with fail
  exact bodyPost_ret (v := .tuple #[.int .i64 z, .int .i64 y]) (by simp [results, Try.results15, go_sem]) rfl ⟨⟨z, y, rfl, HZ.out, HY.out⟩, HB5.out⟩
end Go.Proofs.Ytbdddpchlmddbaa
