/- The program's TeacherHours. -/
import Derived.Test.YtblbeoeklkcamaaDoorLi8
namespace Go.Proofs.YtblbeoeklkcamaaDoor
set_option linter.unusedVariables false
open Go.RowKit

theorem load_list {P : Program} (W : World) (b : Nat) (L : List Value) (T : TypeId) (h : W.heap[b]? = some (.cells L.toArray T (0, 0))) (n : Nat) (hn : L.length = n) : Sem.run P (loadCellsFrom ⟨b, 0, none⟩ 0 n #[]) W = .ok L.toArray W := by
  have := run_loadCells_list (P := P) W ⟨b, 0, none⟩ L (fun j v hj => by rw [add_off2, Nat.zero_add]; simp only [World.cell?, h]; simpa using hj)
  rw [hn] at this
  simpa [loadCells] using this
def mnL (f : Nat → Int) : List Value := (List.range 21).map fun r => .int .i64 (f r)
theorem mnL_at (f : Nat → Int) (i : Nat) (h : i < (mnL f).length) : (mnL f)[i] = .int .i64 (f i) := by simp [mnL]
theorem mnL_set (f g : Nat → Int) (r : Nat) (v : Int) (hr : g r = v) (h : ∀ i, i ≠ r → g i = f i) : (mnL f).set r (.int .i64 v) = mnL g := by
  apply List.ext_getElem?
  intro i
  by_cases e : i = r
  · subst e
    by_cases h9 : i < 21
    · rw [List.getElem?_set_self (by simp [mnL]; exact h9)]; simp [mnL, h9, hr]
    · rw [List.getElem?_eq_none (by simp [mnL]; omega), List.getElem?_eq_none (by simp [mnL]; omega)]
  · rw [List.getElem?_set_ne (fun e' => e e'.symm)]
    by_cases h9 : i < 21
    · simp [mnL, h9, h i e]
    · rw [List.getElem?_eq_none (by simp [mnL]; omega), List.getElem?_eq_none (by simp [mnL]; omega)]
theorem ix21 (x0 x1 x2 x3 x4 x5 x6 x7 x8 x9 x10 x11 x12 x13 x14 x15 x16 x17 x18 x19 x20 : Int) (w : World) : ∀ (k : Nat), k < 21 → (Instr.index 51 (.agg #[.int .i64 x0, .int .i64 x1, .int .i64 x2, .int .i64 x3, .int .i64 x4, .int .i64 x5, .int .i64 x6, .int .i64 x7, .int .i64 x8, .int .i64 x9, .int .i64 x10, .int .i64 x11, .int .i64 x12, .int .i64 x13, .int .i64 x14, .int .i64 x15, .int .i64 x16, .int .i64 x17, .int .i64 x18, .int .i64 x19, .int .i64 x20]) (.int .i64 (k : Int))).run Tryd.prog w = .ok (.int .i64 ([x0, x1, x2, x3, x4, x5, x6, x7, x8, x9, x10, x11, x12, x13, x14, x15, x16, x17, x18, x19, x20].getD k 0)) w
  | 0, _ => by kernel_rfl
  | 1, _ => by kernel_rfl
  | 2, _ => by kernel_rfl
  | 3, _ => by kernel_rfl
  | 4, _ => by kernel_rfl
  | 5, _ => by kernel_rfl
  | 6, _ => by kernel_rfl
  | 7, _ => by kernel_rfl
  | 8, _ => by kernel_rfl
  | 9, _ => by kernel_rfl
  | 10, _ => by kernel_rfl
  | 11, _ => by kernel_rfl
  | 12, _ => by kernel_rfl
  | 13, _ => by kernel_rfl
  | 14, _ => by kernel_rfl
  | 15, _ => by kernel_rfl
  | 16, _ => by kernel_rfl
  | 17, _ => by kernel_rfl
  | 18, _ => by kernel_rfl
  | 19, _ => by kernel_rfl
  | 20, _ => by kernel_rfl
  | k + 21, h => absurd h (by omega)
theorem ixX (X : Nat → Int) (k : Nat) (w : World) (hk : k < 21) : (Instr.index 51 (.agg #[.int .i64 (X 0), .int .i64 (X 1), .int .i64 (X 2), .int .i64 (X 3), .int .i64 (X 4), .int .i64 (X 5), .int .i64 (X 6), .int .i64 (X 7), .int .i64 (X 8), .int .i64 (X 9), .int .i64 (X 10), .int .i64 (X 11), .int .i64 (X 12), .int .i64 (X 13), .int .i64 (X 14), .int .i64 (X 15), .int .i64 (X 16), .int .i64 (X 17), .int .i64 (X 18), .int .i64 (X 19), .int .i64 (X 20)]) (.int .i64 (k : Int))).run Tryd.prog w = .ok (.int .i64 (X k)) w := by
  rw [ix21 (X 0) (X 1) (X 2) (X 3) (X 4) (X 5) (X 6) (X 7) (X 8) (X 9) (X 10) (X 11) (X 12) (X 13) (X 14) (X 15) (X 16) (X 17) (X 18) (X 19) (X 20) w k hk]
  have : ([X 0, X 1, X 2, X 3, X 4, X 5, X 6, X 7, X 8, X 9, X 10, X 11, X 12, X 13, X 14, X 15, X 16, X 17, X 18, X 19, X 20] : List Int).getD k 0 = X k := by
    match k, hk with
    | 0, _ => rfl
    | 1, _ => rfl
    | 2, _ => rfl
    | 3, _ => rfl
    | 4, _ => rfl
    | 5, _ => rfl
    | 6, _ => rfl
    | 7, _ => rfl
    | 8, _ => rfl
    | 9, _ => rfl
    | 10, _ => rfl
    | 11, _ => rfl
    | 12, _ => rfl
    | 13, _ => rfl
    | 14, _ => rfl
    | 15, _ => rfl
    | 16, _ => rfl
    | 17, _ => rfl
    | 18, _ => rfl
    | 19, _ => rfl
    | 20, _ => rfl
    | k + 21, h => exact absurd h (by omega)
  rw [this]
theorem mnL_zero (ps : List Les) : (#[.int .i64 0, .int .i64 0, .int .i64 0, .int .i64 0, .int .i64 0, .int .i64 0, .int .i64 0, .int .i64 0, .int .i64 0, .int .i64 0, .int .i64 0, .int .i64 0, .int .i64 0, .int .i64 0, .int .i64 0, .int .i64 0, .int .i64 0, .int .i64 0, .int .i64 0, .int .i64 0, .int .i64 0] : Array Value) = (mnL fun (r : Nat) => minT ps (r : Int) 0).toArray := rfl
set_option maxRecDepth 100000 in
set_option maxHeartbeats 800000 in
theorem implHours_no (v : Value) (ps : List Les) (w : World) (h : RowsR 7 lesC w v ps) (hn : ¬ okLs ps) :
    Calls Tryd.prog 7 #[v] w fun e w' => (∃ sq vs, e = .returned (.tuple #[sq, .bool false]) ∧ OwnSS w.heap.size w'.heap.size w' sq vs []) ∧ Below w.heap.size w w' := by
  have HR := Lib.hid h
  have HN := Lib.hid hn
  obtain ⟨a, cp, rfl⟩ := h.form
  clear h hn
  go_enter Tryd.func7, Tryd.ntmps7
  go_wp2_with fail
  refine (iGood_no _ ps _ HR.out HN.out).mono ?_
  rintro e w2 ⟨rfl, hb2⟩
  have HB2 := Lib.hid hb2
  clear hb2
  go_wp2_with fail
  have hs0 : (w2.alloc (.cells #[] 33)).heap.size = w2.heap.size + 1 := by simp
  have hb0 : Below w.heap.size w (w2.alloc (.cells #[] 33)) := HB2.out.alloc HB2.out.size _
  have ho0 := World.ownsRow_made (base := w.heap.size) (e := 33) (size := 1) w2 #[] 0 HB2.out.size (Nat.zero_le _) (by simp)
  generalize w2.alloc (.cells #[] 33) = w3 at hs0 hb0 ho0 ⊢
  have HB3 := Lib.hid hb0
  have HO3 := Lib.hid ho0
  clear hs0 hb0 ho0
  go_wp2_with fail
  go_ret2
  exact ⟨⟨_, [], rfl, OwnSS.empty HB3.out.size HO3.out (fun g hg => (HO3.out.lt g hg).2)⟩, HB3.out⟩
set_option maxRecDepth 100000 in
set_option maxHeartbeats 6400000 in
theorem implHours_ok (v : Value) (ps : List Les) (w : World) (h : RowsR 7 lesC w v ps) (ho : okLs ps) :
    Calls Tryd.prog 7 #[v] w fun e w' => (∃ sq vs, e = .returned (.tuple #[sq, .bool true]) ∧ OwnSS w.heap.size w'.heap.size w' sq vs (hoL ps 21)) ∧ Below w.heap.size w w' := by
  have hl := okLs_len ho
  have HR := Lib.hid h
  have HO := Lib.hid ho
  obtain ⟨a, cp, rfl⟩ := h.form
  have R1 := Lib.hid h.at
  clear h ho
  go_enter Tryd.func7, Tryd.ntmps7
  go_wp2_with fail
  refine (iGood_yes _ ps _ HR.out HO.out).mono ?_
  rintro e w2 ⟨rfl, hb2⟩
  have HB2 := Lib.hid hb2
  clear hb2
  go_wp2_with fail
  have hk2 : (w2.alloc (.cells #[.int .i64 0, .int .i64 0, .int .i64 0, .int .i64 0, .int .i64 0, .int .i64 0, .int .i64 0, .int .i64 0, .int .i64 0, .int .i64 0, .int .i64 0, .int .i64 0, .int .i64 0, .int .i64 0, .int .i64 0, .int .i64 0, .int .i64 0, .int .i64 0, .int .i64 0, .int .i64 0, .int .i64 0] 51)).heap[w2.heap.size]? = some (.cells #[.int .i64 0, .int .i64 0, .int .i64 0, .int .i64 0, .int .i64 0, .int .i64 0, .int .i64 0, .int .i64 0, .int .i64 0, .int .i64 0, .int .i64 0, .int .i64 0, .int .i64 0, .int .i64 0, .int .i64 0, .int .i64 0, .int .i64 0, .int .i64 0, .int .i64 0, .int .i64 0, .int .i64 0] 51 (0, 0)) := alloc_at rfl
  have hb3 : Below w.heap.size w (w2.alloc (.cells #[.int .i64 0, .int .i64 0, .int .i64 0, .int .i64 0, .int .i64 0, .int .i64 0, .int .i64 0, .int .i64 0, .int .i64 0, .int .i64 0, .int .i64 0, .int .i64 0, .int .i64 0, .int .i64 0, .int .i64 0, .int .i64 0, .int .i64 0, .int .i64 0, .int .i64 0, .int .i64 0, .int .i64 0] 51)) := HB2.out.alloc HB2.out.size _
  generalize w2.alloc (.cells #[.int .i64 0, .int .i64 0, .int .i64 0, .int .i64 0, .int .i64 0, .int .i64 0, .int .i64 0, .int .i64 0, .int .i64 0, .int .i64 0, .int .i64 0, .int .i64 0, .int .i64 0, .int .i64 0, .int .i64 0, .int .i64 0, .int .i64 0, .int .i64 0, .int .i64 0, .int .i64 0, .int .i64 0] 51) = w3 at hk2 hb3 ⊢
  have HW2 := Lib.hid HB2.out.size
  generalize w2.heap.size = B at hk2 HW2 ⊢
  have HA3 : Hid (w3.heap[B]? = some (.cells (mnL (fun (r : Nat) => minT ps (r : Int) 0)).toArray 51 (0, 0))) := Lib.hid (by rw [hk2, mnL_zero ps])
  have HB3 := Lib.hid hb3
  clear hk2 hb3
  go_loopw [16] (fun iv wr => ∃ k : Nat, k ≤ ps.length ∧ iv = .int .i64 k ∧ wr.heap[B]? = some (.cells (mnL (fun (r : Nat) => minT ps (r : Int) k)).toArray 51 (0, 0)) ∧ Below w.heap.size w wr) (fun iv _ => ps.length - (intOf iv).toNat)
  case atStart => exact ⟨0, Nat.zero_le _, rfl, HA3.out, HB3.out⟩
  case round =>
    obtain ⟨k, hk, rfl, hka, hb⟩ := hrel
    rename World => wq
    have HBk := Lib.hid hb
    have HAk := Lib.hid hka
    by_cases hlt : k < ps.length
    · as_aux_lemma =>
      have z1 : (0 : Int) ≤ (k : Int) := by omega
      have z2 : (k : Int) < (ps.length : Int) := by omega
      obtain ⟨b1, o1, rfl, l1, k1⟩ := R1.out _ hb k hlt
      have hst : ∀ r : Int, minT ps r (k + 1) = if (leD ps k).tch = r then minT ps r k + (leD ps k).mins else minT ps r k := fun r => rfl
      have htc := (okLs_at HO.out k hlt).2.2.1
      have hmi := (okTm_end (okLs_at HO.out k hlt).2.2.2.2.2).2
      obtain ⟨x, hx⟩ : ∃ x, leD ps k = x := ⟨_, rfl⟩
      rw [← leD_at ps k hlt, hx] at k1 htc hmi
      rw [hx] at hst
      obtain ⟨tn, htn⟩ : ∃ tn : Nat, x.tch = (tn : Int) := ⟨x.tch.toNat, by omega⟩
      have hbd := minT_bd HO.out (tn : Int) k (by omega)
      have hcl := cell_list hka (i := tn) (by simp [mnL]; omega)
      rw [mnL_at] at hcl
      obtain ⟨M, hM⟩ : ∃ M, minT ps (tn : Int) k = M := ⟨_, rfl⟩
      have hwr : IntKind.i64.wrap (M + x.mins) = M + x.mins := by rw [IntKind.wrap_i64]; omega
      have HE : Hid ((mnL (fun (r : Nat) => minT ps (r : Int) k)).set tn (.int .i64 (M + x.mins)) = mnL (fun (r : Nat) => minT ps (r : Int) (k + 1))) := Lib.hid (mnL_set _ _ tn _ (by rw [hst, htn, if_pos rfl, hM]) (fun i hi => by rw [hst, htn, if_neg (by omega)]))
      have c2 : wq.cell? ⟨B, tn, none⟩ = some (.int .i64 M) := by rw [← hM]; exact hcl.1
      have hfz : wq.frozen? ⟨B, tn, none⟩ = false := hcl.2
      have p0 : wq.cell? ⟨b1, o1 + k * 7, none⟩ = some (.int .i64 x.id) := k1 0 (by omega)
      have p1 : wq.cell? ⟨b1, o1 + k * 7 + 1, none⟩ = some (.int .i64 x.cls) := k1 1 (by omega)
      have p2 : wq.cell? ⟨b1, o1 + k * 7 + 2, none⟩ = some (.int .i64 x.tch) := k1 2 (by omega)
      have p3 : wq.cell? ⟨b1, o1 + k * 7 + 3, none⟩ = some (.int .i64 x.room) := k1 3 (by omega)
      have p4 : wq.cell? ⟨b1, o1 + k * 7 + 4, none⟩ = some (.int .i64 x.day) := k1 4 (by omega)
      have p5 : wq.cell? ⟨b1, o1 + k * 7 + 5, none⟩ = some (.int .i64 x.bgn) := k1 5 (by omega)
      have p6 : wq.cell? ⟨b1, o1 + k * 7 + 6, none⟩ = some (.int .i64 x.mins) := k1 6 (by omega)
      have hBl : B < wq.heap.size := lt_of_block hka
      have hne : B ≠ wq.heap.size := by omega
      have z3 : (0 : Int) ≤ (tn : Int) := by omega
      have z4 : (tn : Int) < 21 := by omega
      have HTN := Lib.hid htn
      clear k1 hx hst hbd hcl hM htc hmi hb hka htn
      go_wp2_with fail
      have hb8 : Below wq.heap.size wq (wq.alloc (.cells #[.int .i64 x.id, .int .i64 x.cls, .int .i64 x.tch, .int .i64 x.room, .int .i64 x.day, .int .i64 x.bgn, .int .i64 x.mins] 31)) := (Below.refl _ _).alloc (Nat.le_refl _) _
      have hk8 : (wq.alloc (.cells #[.int .i64 x.id, .int .i64 x.cls, .int .i64 x.tch, .int .i64 x.room, .int .i64 x.day, .int .i64 x.bgn, .int .i64 x.mins] 31)).heap[wq.heap.size]? = some (.cells #[.int .i64 x.id, .int .i64 x.cls, .int .i64 x.tch, .int .i64 x.room, .int .i64 x.day, .int .i64 x.bgn, .int .i64 x.mins] 31 (0, 0)) := alloc_at rfl
      have c3 : (wq.alloc (.cells #[.int .i64 x.id, .int .i64 x.cls, .int .i64 x.tch, .int .i64 x.room, .int .i64 x.day, .int .i64 x.bgn, .int .i64 x.mins] 31)).cell? ⟨B, tn, none⟩ = some (.int .i64 M) := (hb8.cell (p := ⟨B, tn, none⟩) hBl).trans c2
      have hf3 : (wq.alloc (.cells #[.int .i64 x.id, .int .i64 x.cls, .int .i64 x.tch, .int .i64 x.room, .int .i64 x.day, .int .i64 x.bgn, .int .i64 x.mins] 31)).frozen? ⟨B, tn, none⟩ = false := by rw [World.frozen?_of_block (alloc_old hBl)]; exact hfz
      generalize wq.alloc (.cells #[.int .i64 x.id, .int .i64 x.cls, .int .i64 x.tch, .int .i64 x.room, .int .i64 x.day, .int .i64 x.bgn, .int .i64 x.mins] 31) = w8 at hb8 hk8 c3 hf3 ⊢
      have HA8 := Lib.hid ((hb8.block _ hBl).trans HAk.out)
      have HB8 := Lib.hid (HBk.out.trans (hb8.mono HBk.out.size))
      generalize wq.heap.size = B8 at hk8 ⊢
      have e2 : w8.cell? ⟨B8, 2, none⟩ = some (.int .i64 (tn : Int)) := by rw [← HTN.out]; exact (cell7 hk8).2.2.1
      have e6 : w8.cell? ⟨B8, 6, none⟩ = some (.int .i64 x.mins) := (cell7 hk8).2.2.2.2.2.2.1
      clear hb8 hk8 p0 p1 p2 p3 p4 p5 p6 hne hBl c2 hfz
      go_region
      have HA9 : Hid ((w8.setCell ⟨B, tn, none⟩ (.int .i64 (M + x.mins))).heap[B]? = some (.cells (mnL (fun (r : Nat) => minT ps (r : Int) (k + 1))).toArray 51 (0, 0))) := Lib.hid (by rw [← HE.out]; exact set_list HA8.out _)
      have HB9 := Lib.hid (HB8.out.setCell (p := ⟨B, tn, none⟩) (show w.heap.size ≤ B from HW2.out) (.int .i64 (M + x.mins)))
      generalize w8.setCell ⟨B, tn, none⟩ (.int .i64 (M + x.mins)) = w9 at HA9 HB9 ⊢
      clear c3 hf3 e2 e6
      go_wp2_with fail
      go_roundw
      case rel => exact ⟨k + 1, by omega, by go_num, (by first | exact HA9.out | exact HA9.out), (by first | exact HB9.out | exact HB9.out.drew)⟩
      case measure => simp [intOf]; omega
    · as_aux_lemma =>
      obtain rfl : k = ps.length := by omega
      obtain ⟨X, hX⟩ : ∃ X : Nat → Int, (fun r : Nat => minT ps (r : Int) ps.length) = X := ⟨_, rfl⟩
      have HX : Hid (∀ r : Nat, minT ps (r : Int) ps.length = X r) := Lib.hid (fun r => by rw [← hX])
      rw [hX] at hka
      clear hX hb
      have hBl : B < wq.heap.size := lt_of_block hka
      have hne : B ≠ wq.heap.size := by omega
      have hb5 : Below w.heap.size w (wq.alloc (.cells #[] 33)) := HBk.out.alloc HBk.out.size _
      have ho5 := World.ownsRow_made (base := w.heap.size) (e := 33) (size := 1) wq #[] 0 HBk.out.size (Nat.zero_le _) (by simp)
      have hgl : (wq.alloc (.cells #[] 33)).heap[B]? = some (.cells (mnL X).toArray 51 (0, 0)) := (alloc_old hBl).trans hka
      clear hka
      go_wp2_with (refine wpList_load_row rfl 51 _ rfl B rfl 51 (mnL X).toArray (0, 0) _ hgl Tryd.underlying51 rfl (by kernel_rfl) ?_)
      clear hgl
      generalize wq.alloc (.cells #[] 33) = w5 at hb5 ho5 ⊢
      have HB5 := Lib.hid hb5
      have HO5 := Lib.hid ho5
      clear hb5 ho5 hne hBl
      have HIX : Hid (∀ (k : Nat) (w : World), k < 21 → (Instr.index 51 (.agg (mnL X).toArray) (.int .i64 (k : Int))).run Tryd.prog w = .ok (.int .i64 (X k)) w) := Lib.hid (fun k w hk => ixX X k w hk)
      go_loopw [7, 31] (fun out tv wr => ∃ (n : Nat) (vs : List Value), n ≤ 21 ∧ tv = .int .i64 n ∧ OwnSS w.heap.size wr.heap.size wr out vs (hoL ps n) ∧ Below w.heap.size w wr) (fun _ tv _ => 30 - (intOf tv).toNat)
      case atStart => exact ⟨0, [], by omega, rfl, OwnSS.empty HB5.out.size HO5.out (fun g hg => (HO5.out.lt g hg).2), HB5.out⟩
      case round =>
        obtain ⟨n, vs, hn, rfl, hss, hb⟩ := hrel
        rename World => wo
        have HBo := Lib.hid hb
        have HSo := Lib.hid hss
        obtain ⟨oa, oc, hform⟩ := hss.form
        have HLV : Hid (vs.length ≤ 1000) := Lib.hid (by have h1 := hss.len; have h2 := (hoL_len ps n).1; omega)
        subst hform
        clear hb hss
        by_cases h21 : n < 21
        · have z1 : (n : Int) < 21 := by omega
          have hix := fun w => HIX.out n w h21
          obtain ⟨S, hS⟩ : ∃ S, X n = S := ⟨_, rfl⟩
          rw [hS] at hix
          have HSS : Hid (minT ps (n : Int) ps.length = S) := Lib.hid (by rw [HX.out, hS])
          clear hS
          by_cases h0 : 0 < S
          · have HE : Hid (hoL ps (n + 1) = hoL ps n ++ [[(n : Int), S]]) := Lib.hid (by rw [hoL, HSS.out, if_pos h0])
            obtain ⟨Q, hQ⟩ : ∃ Q, hoL ps n = Q := ⟨_, rfl⟩
            rw [hQ] at HSo HE ⊢
            clear hQ
            go_wp2_with (at_builtin; refine wpList_push2 rfl _ _ rfl wo w w.heap.size (.slice oa Q.length oc) vs Q (n : Int) S rfl rfl HSo.out HBo.out HBo.out.size (by have := HLV.out; omega) ?_)
            intro v5 w6 hs5 hb6
            have HS5 := Lib.hid hs5
            have HB6 := Lib.hid hb6
            clear hs5 hb6
            go_wp2_with fail
            go_roundw
            case rel => exact ⟨n + 1, _, by omega, by go_num, by rw [HE.out]; exact HS5.out, HB6.out⟩
            case measure => simp [intOf]; omega
          · have HE : Hid (hoL ps (n + 1) = hoL ps n) := Lib.hid (by rw [hoL, HSS.out, if_neg h0])
            go_wp2_with fail
            go_roundw
            case rel => exact ⟨n + 1, vs, by omega, by go_num, by rw [HE.out]; exact HSo.out, HBo.out⟩
            case measure => simp [intOf]; omega
        · obtain rfl : n = 21 := by omega
          go_wp2_with fail
          go_ret2
          exact ⟨⟨_, vs, rfl, HSo.out⟩, HBo.out⟩
end Go.Proofs.YtblbeoeklkcamaaDoor
