/- The law FnTimes. -/
import Derived.Test.YthmbehknacjodaaKm
import Derived.Test.YthmbehknacjodaaVin
import Derived.Test.YthmbehknacjodaaKw
import Derived.Test.YthmbehknacjodaaKv
import Derived.Test.YthmbehknacjodaaDpo
import Derived.Test.YthmbehknacjodaaK9b
import Derived.Test.YthmbehknacjodaaK9d
import Derived.Test.YthmbehknacjodaaK9e
import Derived.Test.YthmbehknacjodaaK9c
import Derived.Test.YthmbehknacjodaaK9a
namespace Go.Proofs.Ythmbehknacjodaa
set_option linter.unusedVariables false
open Go.RowKit
set_option linter.unusedSimpArgs false

theorem eqTrip (x y z : Int) (w : World) : (Op.equalIn 10000 57 (.agg #[.int .i64 x, .int .i64 y, .int .i64 z]) (.agg #[.int .i64 x, .int .i64 y, .int .i64 z])).run Try.prog w = .ok true w := by
  have hi := Try.underlying3
  have ha := Try.isAgg3
  have hz := Try.sizeOf3
  show (Op.equalIn (9999 + 1) _ _ _).run _ _ = _
  unfold Op.equalIn
  simp only [Sem.run_bind, run_underlying Try.underlying57, Result.andThen_ok, Std.Legacy.Range.forIn_eq_forIn_range', Std.Legacy.Range.size, Nat.sub_zero, Nat.add_sub_cancel, Nat.div_one, List.range'_succ, List.range'_zero, List.forIn_cons, List.forIn_nil]
  go_simp
set_option maxRecDepth 100000 in
set_option maxHeartbeats 800000 in
theorem vTriples_yes (v1 v2 : Value) (ps : List Tr) (w : World) (h1 : RowsR 3 trC w v1 ps) (h2 : RowsR 3 trC w v2 ps) :
    Calls Try.prog 21 #[v1, v2] w fun e w' => e = .returned (.bool true) ∧ Below w.heap.size w w' := by
  have hm : ps.length ≤ 9223372036854775807 := by obtain ⟨_, _, _, ⟨m, _⟩, _⟩ := h1; exact m
  obtain ⟨a1, c1, rfl⟩ := h1.form
  obtain ⟨a2, c2, rfl⟩ := h2.form
  have R1 := Lib.hid h1.at
  have R2 := Lib.hid h2.at
  clear h1 h2
  go_enter Try.func21, Try.ntmps21
  go_wp2_with fail
  go_loopw [5] (fun i wr => ∃ k : Nat, k ≤ ps.length ∧ i = .int .i64 k ∧ Below w.heap.size w wr) (fun i _ => ps.length - (intOf i).toNat)
  case atStart => exact ⟨0, Nat.zero_le _, rfl, Below.refl _ _⟩
  case round =>
    obtain ⟨k, hk, rfl, hb⟩ := hrel
    by_cases hlt : k < ps.length
    · obtain ⟨b1, o1, rfl, l1, k1⟩ := R1.out _ hb k hlt
      obtain ⟨b2, o2, rfl, l2, k2⟩ := R2.out _ hb k hlt
      have p0 : wr.cell? ⟨b1, o1 + k * 3, none⟩ = some (.int .i64 ps[k].i) := k1 0 (by omega)
      have q0 : wr.cell? ⟨b2, o2 + k * 3, none⟩ = some (.int .i64 ps[k].i) := k2 0 (by omega)
      have p1 : wr.cell? ⟨b1, o1 + k * 3 + 1, none⟩ = some (.int .i64 ps[k].k) := k1 1 (by omega)
      have q1 : wr.cell? ⟨b2, o2 + k * 3 + 1, none⟩ = some (.int .i64 ps[k].k) := k2 1 (by omega)
      have p2 : wr.cell? ⟨b1, o1 + k * 3 + 2, none⟩ = some (.int .i64 ps[k].v) := k1 2 (by omega)
      have q2 : wr.cell? ⟨b2, o2 + k * 3 + 2, none⟩ = some (.int .i64 ps[k].v) := k2 2 (by omega)
      have z1 : (0 : Int) ≤ (k : Int) := by omega
      have z2 : (k : Int) < (ps.length : Int) := by omega
      clear k1 k2
      generalize ps[k].i = x0 at p0 q0
      generalize ps[k].k = x1 at p1 q1
      generalize ps[k].v = x2 at p2 q2
      have heq := eqTrip x0 x1 x2
      go_wp2_with fail
      go_region
      have hb2 := hb.drew
      clear p0 q0 p1 q1 p2 q2
      go_wp2_with fail
      go_roundw
      case rel => exact ⟨k + 1, by omega, by go_num, hb2⟩
      case measure => simp [intOf]; omega
    · go_wp2_with fail
      go_ret
      exact ⟨rfl, hb⟩
/-- The total before the one at a place: 0 at the first. -/
def lt0 (l : List Int) (k : Nat) : Int := ((0 :: l)[k]?).getD 0
theorem lt0_zero (l : List Int) : lt0 l 0 = 0 := rfl
theorem lt0_succ (l : List Int) (k : Nat) (h : k < l.length) : lt0 l (k + 1) = l[k] := by unfold lt0; rw [List.getElem?_cons_succ, List.getElem?_eq_getElem h]; rfl
theorem ttL_at : ∀ (l : List Tr) (s : Int) (k : Nat) (h : k < (ttL s l).length), (ttL s l)[k] = s + smT (l.take (k + 1))
  | [], _, k, h => by simp [ttL] at h
  | t :: l, s, 0, h => by simp [ttL, smT]
  | t :: l, s, k + 1, h => by
    simp only [ttL, List.getElem_cons_succ]
    rw [ttL_at l (s + wT t) k (by simpa [ttL] using h), List.take_succ_cons, smT_cons]
    omega
theorem lt0_ttL (l : List Tr) (k : Nat) (h : k ≤ l.length) : lt0 (ttL 0 l) k = smT (l.take k) := by
  cases k with
  | zero => rw [lt0_zero, List.take_zero]; rfl
  | succ k => rw [lt0_succ _ _ (by rw [ttL_len]; omega), ttL_at]; omega
theorem ttL_up {a b : Nat} (ha : a ≤ 9999) (hb : b ≤ 9999) (k : Nat) (h : k < (ttL 0 (prT (dgL a) (dgL b))).length) : lt0 (ttL 0 (prT (dgL a) (dgL b))) k < (ttL 0 (prT (dgL a) (dgL b)))[k] := by
  have hk : k < (prT (dgL a) (dgL b)).length := by rw [ttL_len] at h; exact h
  rw [lt0_ttL _ _ (by omega), ttL_at]
  have e : (prT (dgL a) (dgL b)).take (k + 1) = (prT (dgL a) (dgL b)).take k ++ [(prT (dgL a) (dgL b))[k]] := by rw [List.take_add_one, List.getElem?_eq_getElem hk]; rfl
  rw [e, smT_app, smT_cons, smT_nil]
  have := (wT_bd (part_ok ha hb (List.getElem_mem hk))).1
  omega
theorem dbL_nn2 : ∀ (k a b : Nat), a < 2 ^ k → ∀ x ∈ dbL a b, 0 ≤ x.2
  | 0, a, b, h, x, hx => by rw [show a = 0 by simpa using h, dbL_zero] at hx; cases hx
  | k + 1, a, b, h, x, hx => by
    by_cases h0 : a = 0
    · rw [h0, dbL_zero] at hx; cases hx
    · rw [dbL_pos (by omega)] at hx
      rcases List.mem_cons.1 hx with rfl | hx
      · exact Int.natCast_nonneg b
      · exact dbL_nn2 k (a / 2) (2 * b) (by rw [Nat.pow_succ] at h; omega) x hx
theorem odL_nn : ∀ l : List (Int × Int), (∀ x ∈ l, 0 ≤ x.2) → ∀ y ∈ odL l, 0 ≤ y
  | [], _, y, hy => by simp [odL] at hy
  | x :: t, h, y, hy => by
    rw [odL] at hy
    rcases List.mem_append.1 hy with hy | hy
    · split at hy
      · rw [List.mem_singleton.1 hy]; exact h x List.mem_cons_self
      · cases hy
    · exact odL_nn t (fun z hz => h z (List.mem_cons_of_mem _ hz)) y hy
def RdB (f : Nat) (av : Array Value) (w : World) (ms : List (Int × Int)) (b : Bool) : Prop :=
  Calls Try.prog f av w fun e w' => (∃ v, e = .returned (.tuple #[v, .bool b]) ∧ RodsR w' v ms) ∧ Below w.heap.size w w'
theorem ofOwnR {f : Nat} {av : Array Value} {w : World} {ms : List (Int × Int)} {b : Bool} (h : Calls Try.prog f av w fun e w' => (∃ v, e = .returned (.tuple #[v, .bool b]) ∧ w'.ownsRow w.heap.size 77 2 v ms.length (flat ms)) ∧ Below w.heap.size w w') : RdB f av w ms b :=
  h.mono fun _ _ ⟨⟨v, he, ho⟩, hb⟩ => ⟨⟨v, he, RodsR.of_own ho⟩, hb⟩
def TrB (f : Nat) (av : Array Value) (w : World) (ms : List Tr) (b : Bool) : Prop :=
  Calls Try.prog f av w fun e w' => (∃ v, e = .returned (.tuple #[v, .bool b]) ∧ RowsR 3 trC w' v ms) ∧ Below w.heap.size w w'
theorem ofOwnT {f : Nat} {av : Array Value} {w : World} {ms : List Tr} {b : Bool} (h : Calls Try.prog f av w fun e w' => (∃ v, e = .returned (.tuple #[v, .bool b]) ∧ w'.ownsRow w.heap.size 57 3 v ms.length (flatC trC ms)) ∧ Below w.heap.size w w') : TrB f av w ms b :=
  h.mono fun _ _ ⟨⟨v, he, ho⟩, hb⟩ => ⟨⟨v, he, RowsR.of_own trC_len ho⟩, hb⟩
theorem nat_of {x : Int} (h : 0 ≤ x) : ∃ n : Nat, x = (n : Int) := ⟨x.toNat, by omega⟩
theorem ti_same (x y : Int) : ∃ (ts rows : List Int) (ps : List Tr) (b : Bool),
    (∀ w, IsB 17 #[.int .i64 x, .int .i64 y] w ts b) ∧ (∀ w, IsB 16 #[.int .i64 x, .int .i64 y] w ts b) ∧ (∀ w, TrB 20 #[.int .i64 x, .int .i64 y] w ps b) ∧ (∀ w, TrB 19 #[.int .i64 x, .int .i64 y] w ps b) ∧
    (∀ w, IsB 23 #[.int .i64 x, .int .i64 y] w rows b) ∧ (∀ w, IsB 22 #[.int .i64 x, .int .i64 y] w rows b) ∧
    (b = true → ∃ (rs : List (Int × Int)) (n : Int), (∀ w, RdB 25 #[.int .i64 x, .int .i64 y] w rs true) ∧ (∀ w, RdB 24 #[.int .i64 x, .int .i64 y] w rs true) ∧ (∀ w, InB 29 #[.int .i64 x, .int .i64 y] w n true) ∧ (∀ w, InB 28 #[.int .i64 x, .int .i64 y] w n true) ∧
      0 ≤ n ∧ IntKind.i64.wrap (x * y) = x * y ∧ (∀ (k : Nat) (h : k < ts.length), lt0 ts k < ts[k]) ∧ lt0 ts ts.length = x * y ∧ ps.length = ts.length ∧ rows.length ≤ rs.length ∧ (∀ z ∈ rows, 0 ≤ z) ∧ rows.sum = x * y ∧ rows.sum ≤ 9223372036854775807) := by
  by_cases h : okFs x y
  · obtain ⟨⟨h1, h2⟩, h3, h4⟩ := h
    obtain ⟨a, rfl⟩ := nat_of h1
    obtain ⟨b, rfl⟩ := nat_of h3
    have ha : a ≤ 9999 := by omega
    have hb : b ≤ 9999 := by omega
    have ht := mul_top ha hb
    have hs := odL_sum 14 a b (by omega)
    refine ⟨_, _, _, true, fun w => speTotals_yes a b w ha hb, fun w => ofOwnI (impTotals_yes a b w ha hb), fun w => spePartsOf_yes a b w ha hb, fun w => ofOwnT (impPartsOf_yes a b w ha hb), fun w => speOddRows_yes a b w ha hb, fun w => ofOwnI (impOddRows_yes a b w ha hb), fun _ =>
      ⟨_, _, fun w => speByDoubling_yes a b w ha hb, fun w => ofOwnR (impByDoubling_yes a b w ha hb), fun w => speTimesCarries_yes a b w ha hb, fun w => impTimesCarries_yes a b w ha hb, by omega, by rw [IntKind.wrap_i64]; omega, fun k hk => ttL_up ha hb k hk, ?_, (ttL_len _ _).symm, odL_len _, odL_nn _ (dbL_nn2 14 a b (by omega)), hs, by omega⟩⟩
    rw [ttL_len, lt0_ttL _ _ (Nat.le_refl _), List.take_length, smT_all]
  · exact ⟨[], [], [], false, fun w => speTotals_no x y w h, fun w => ofOwnI (impTotals_no x y w h), fun w => spePartsOf_no x y w h, fun w => ofOwnT (impPartsOf_no x y w h), fun w => speOddRows_no x y w h, fun w => ofOwnI (impOddRows_no x y w h), fun h => by cases h⟩
theorem po_same (up lo : Int) (rs : List (Int × Int)) (x y : Int) (hx : -1 ≤ x ∧ x ≤ 10000) (hy : -1 ≤ y ∧ y ≤ 10000) : ∃ (fu fl : Int) (qs : List (Int × Int)) (b : Bool),
    (∀ w sv, RodsR w sv rs → FrB 32 #[.agg #[.int .i64 up, .int .i64 lo, sv], .int .i64 x, .int .i64 y] w fu fl qs b) ∧ (∀ w sv, RodsR w sv rs → FrB 31 #[.agg #[.int .i64 up, .int .i64 lo, sv], .int .i64 x, .int .i64 y] w fu fl qs b) ∧
    (b = true → ∃ N : Int, (∀ w sv, RodsR w sv rs → InB 34 #[.agg #[.int .i64 up, .int .i64 lo, sv]] w N true) ∧ (∀ w sv, RodsR w sv qs → InB 34 #[.agg #[.int .i64 fu, .int .i64 fl, sv]] w (N + x * y) true) ∧ IntKind.i64.wrap (x * y) = x * y ∧ IntKind.i64.wrap (N + x * y) = N + x * y) := by
  by_cases hp : canP up lo rs x y
  · have hc := hp.2
    obtain ⟨z, hz⟩ : ∃ z, x * y = z := ⟨_, rfl⟩
    have hst := goR_std (digs rs.length (x * y)) 0 rs hc.2.1
    have hgd : goodF up lo (goR 0 (digs rs.length (x * y)) rs) := stdF_good hst hc.1.2.1 hc.1.2.2.1 (by rw [goR_len]; exact hc.1.2.2.2)
    have hm : (x * y) % 10 ^ rs.length = x * y := Int.emod_eq_of_lt hc.2.2.1 hc.2.2.2.1
    have hnum : numF (goR 0 (digs rs.length (x * y)) rs) = numF rs + x * y := by
      have h5 := goR_num rs.length (x * y) rs.length 0 rs (by omega) rfl hc.2.1 (by rw [hm]; exact hc.2.2.2.2)
      rw [List.drop_zero, hm] at h5
      exact h5
    have hn0 : 0 ≤ numF rs := by
      have := (numF_bd up lo rs hc.1.2.1.2 hc.1.2.2.1.2 hc.1.1 rs.length (Nat.le_refl _)).1
      rwa [List.take_length] at this
    have hp8 : (10 : Int) ^ rs.length ≤ 100000000 := (pow_bd rs.length hc.1.2.2.2.2).2
    have h5 := hc.2.2.2.2
    have h3 := hc.2.2.1
    exact ⟨up, lo, _, true, fun w sv h => speProductOn_yes up lo sv rs x y w h hp, fun w sv h => ofOwn (impProductOn_yes up lo sv rs x y w h hp), fun _ => ⟨numF rs, fun w sv h => implNumberOn_yes up lo sv rs w h hc.1, fun w sv h => by rw [← hnum]; exact implNumberOn_yes up lo sv _ w h hgd, by rw [IntKind.wrap_i64]; omega, by rw [IntKind.wrap_i64]; omega⟩⟩
  · exact ⟨0, 0, [], false, fun w sv h => speProductOn_no up lo sv rs x y w h hp, fun w sv h => ofOwn (impProductOn_no up lo sv rs x y w h hp), fun h => by cases h⟩
set_option maxRecDepth 100000 in
set_option maxHeartbeats 12800000 in
theorem lawTimes (w : World) (ad : Option Addr) (cp : Nat) (L : List UInt8) (h : SlR w (.slice ad L.length cp) (L.map fun c => .int .u8 (c.toNat : Int))) :
    Calls Try.prog 3 #[.slice ad L.length cp] w fun e w' => e = .returned (.bool true) ∧ Below w.heap.size w w' := by
  have hm : L.length ≤ 9223372036854775807 := by
    obtain ⟨a, c, e, ⟨m, _⟩, _⟩ := h
    rw [List.length_map] at m
    exact m
  have HB0 : Hid (Below w.heap.size w w) := Lib.hid (Below.refl _ _)
  have HRk0 := Lib.hid (h)
  clear h
  by_cases hbig : (65536 : Int) < (L.length : Int)
  · go_enter Try.func3, Try.ntmps3
    go_wp2_with fail
    refine (vBig_any ad L.length cp _ true (decide_eq_true hbig)).mono ?_
    rintro e w' ⟨rfl, hw⟩
    subst w'
    go_wp2_with fail
    go_ret
    exact ⟨rfl, Below.refl _ _⟩
  · go_enter Try.func3, Try.ntmps3
    go_wp2_with fail
    refine (vBig_any ad L.length cp _ false (decide_eq_false (by omega))).mono ?_
    rintro e w' ⟨rfl, hw⟩
    subst w'
    go_wp2_with fail
    refine (drawTotals_any _ L _ HRk0.out).mono ?_
    rintro e w1 ⟨⟨x, y, rfl, -, -⟩, hb⟩
    have HB1 : Hid (Below w.heap.size w w1) := Lib.hid (HB0.out.trans (hb.mono HB0.out.size))
    have HZ1 : Hid (w.heap.size ≤ w1.heap.size) := Lib.hid hb.size
    have HRk1 := Lib.hid (HRk0.out.below HB1.out (Nat.le_refl _))
    clear hb
    obtain ⟨ts, rows, ps, b, h1, h2, h3, h4, h5, h6, hY⟩ := ti_same x y
    have HT1 := Lib.hid h1
    have HT2 := Lib.hid h2
    have HP1 := Lib.hid h3
    have HP2 := Lib.hid h4
    have HO1 := Lib.hid h5
    have HO2 := Lib.hid h6
    clear h1 h2 h3 h4 h5 h6
    have hb1 : (b != b) = false := by simp
    go_wp2_with fail
    refine (HT2.out _).mono ?_
    rintro e w2 ⟨⟨v, rfl, ho⟩, hb⟩
    have HB2 : Hid (Below w.heap.size w w2) := Lib.hid (HB1.out.trans (hb.mono HB1.out.size))
    have HZ2 : Hid (w1.heap.size ≤ w2.heap.size) := Lib.hid hb.size
    have HRk2 := Lib.hid (HRk0.out.below HB2.out (Nat.le_refl _))
    clear hb
    obtain ⟨qao, qco, rfl⟩ := ho.form
    have HRo2 := Lib.hid (ho)
    have HBs2_2 : Hid (Below w2.heap.size w2 w2) := Lib.hid (Below.refl _ _)
    clear ho
    go_wp2_with fail
    refine (HT1.out _).mono ?_
    rintro e w3 ⟨⟨v, rfl, ho⟩, hb⟩
    have HB3 : Hid (Below w.heap.size w w3) := Lib.hid (HB2.out.trans (hb.mono HB2.out.size))
    have HZ3 : Hid (w2.heap.size ≤ w3.heap.size) := Lib.hid hb.size
    have HRk3 := Lib.hid (HRk0.out.below HB3.out (Nat.le_refl _))
    have HRo3 := Lib.hid (HRo2.out.below hb (Nat.le_refl _))
    have HBs2_3 : Hid (Below w2.heap.size w2 w3) := Lib.hid (HBs2_2.out.trans (hb.mono HBs2_2.out.size))
    clear hb
    obtain ⟨qap, qcp, rfl⟩ := ho.form
    have HRp3 := Lib.hid (ho)
    have HBs3_3 : Hid (Below w3.heap.size w3 w3) := Lib.hid (Below.refl _ _)
    clear ho
    go_wp2_with fail
    refine (vInts_yes _ _ ts _ HRo3.out HRp3.out).mono ?_
    rintro e w4 ⟨rfl, hb⟩
    have HB4 : Hid (Below w.heap.size w w4) := Lib.hid (HB3.out.trans (hb.mono HB3.out.size))
    have HZ4 : Hid (w3.heap.size ≤ w4.heap.size) := Lib.hid hb.size
    have HRk4 := Lib.hid (HRk0.out.below HB4.out (Nat.le_refl _))
    have HRo4 := Lib.hid (HRo3.out.below hb (Nat.le_refl _))
    have HRp4 := Lib.hid (HRp3.out.below hb (Nat.le_refl _))
    have HBs2_4 : Hid (Below w2.heap.size w2 w4) := Lib.hid (HBs2_3.out.trans (hb.mono HBs2_3.out.size))
    have HBs3_4 : Hid (Below w3.heap.size w3 w4) := Lib.hid (HBs3_3.out.trans (hb.mono HBs3_3.out.size))
    clear hb
    go_wp2_with fail
    refine (HP2.out _).mono ?_
    rintro e w5 ⟨⟨v, rfl, ho⟩, hb⟩
    have HB5 : Hid (Below w.heap.size w w5) := Lib.hid (HB4.out.trans (hb.mono HB4.out.size))
    have HZ5 : Hid (w4.heap.size ≤ w5.heap.size) := Lib.hid hb.size
    have HRk5 := Lib.hid (HRk0.out.below HB5.out (Nat.le_refl _))
    have HRo5 := Lib.hid (HRo4.out.below hb (Nat.le_refl _))
    have HBs2_5 : Hid (Below w2.heap.size w2 w5) := Lib.hid (HBs2_4.out.trans (hb.mono HBs2_4.out.size))
    clear hb
    obtain ⟨qaq, qcq, rfl⟩ := ho.form
    have HRq5 := Lib.hid (ho)
    have HBs5_5 : Hid (Below w5.heap.size w5 w5) := Lib.hid (Below.refl _ _)
    clear ho
    go_wp2_with fail
    refine (HP1.out _).mono ?_
    rintro e w6 ⟨⟨v, rfl, ho⟩, hb⟩
    have HB6 : Hid (Below w.heap.size w w6) := Lib.hid (HB5.out.trans (hb.mono HB5.out.size))
    have HZ6 : Hid (w5.heap.size ≤ w6.heap.size) := Lib.hid hb.size
    have HRk6 := Lib.hid (HRk0.out.below HB6.out (Nat.le_refl _))
    have HRo6 := Lib.hid (HRo5.out.below hb (Nat.le_refl _))
    have HRq6 := Lib.hid (HRq5.out.below hb (Nat.le_refl _))
    have HBs2_6 : Hid (Below w2.heap.size w2 w6) := Lib.hid (HBs2_5.out.trans (hb.mono HBs2_5.out.size))
    have HBs5_6 : Hid (Below w5.heap.size w5 w6) := Lib.hid (HBs5_5.out.trans (hb.mono HBs5_5.out.size))
    clear hb
    obtain ⟨qap, qcp, rfl⟩ := ho.form
    have HRp6 := Lib.hid (ho)
    have HBs6_6 : Hid (Below w6.heap.size w6 w6) := Lib.hid (Below.refl _ _)
    clear ho
    go_wp2_with fail
    refine (vTriples_yes _ _ ps _ HRq6.out HRp6.out).mono ?_
    rintro e w7 ⟨rfl, hb⟩
    have HB7 : Hid (Below w.heap.size w w7) := Lib.hid (HB6.out.trans (hb.mono HB6.out.size))
    have HZ7 : Hid (w6.heap.size ≤ w7.heap.size) := Lib.hid hb.size
    have HRk7 := Lib.hid (HRk0.out.below HB7.out (Nat.le_refl _))
    have HRo7 := Lib.hid (HRo6.out.below hb (Nat.le_refl _))
    have HRq7 := Lib.hid (HRq6.out.below hb (Nat.le_refl _))
    have HRp7 := Lib.hid (HRp6.out.below hb (Nat.le_refl _))
    have HBs2_7 : Hid (Below w2.heap.size w2 w7) := Lib.hid (HBs2_6.out.trans (hb.mono HBs2_6.out.size))
    have HBs5_7 : Hid (Below w5.heap.size w5 w7) := Lib.hid (HBs5_6.out.trans (hb.mono HBs5_6.out.size))
    have HBs6_7 : Hid (Below w6.heap.size w6 w7) := Lib.hid (HBs6_6.out.trans (hb.mono HBs6_6.out.size))
    clear hb
    go_wp2_with fail
    refine (HO2.out _).mono ?_
    rintro e w8 ⟨⟨v, rfl, ho⟩, hb⟩
    have HB8 : Hid (Below w.heap.size w w8) := Lib.hid (HB7.out.trans (hb.mono HB7.out.size))
    have HZ8 : Hid (w7.heap.size ≤ w8.heap.size) := Lib.hid hb.size
    have HRk8 := Lib.hid (HRk0.out.below HB8.out (Nat.le_refl _))
    have HRo8 := Lib.hid (HRo7.out.below hb (Nat.le_refl _))
    have HBs2_8 : Hid (Below w2.heap.size w2 w8) := Lib.hid (HBs2_7.out.trans (hb.mono HBs2_7.out.size))
    clear hb
    obtain ⟨qar, qcr, rfl⟩ := ho.form
    have HRr8 := Lib.hid (ho)
    have HBs8_8 : Hid (Below w8.heap.size w8 w8) := Lib.hid (Below.refl _ _)
    clear ho
    go_wp2_with fail
    refine (HO1.out _).mono ?_
    rintro e w9 ⟨⟨v, rfl, ho⟩, hb⟩
    have HB9 : Hid (Below w.heap.size w w9) := Lib.hid (HB8.out.trans (hb.mono HB8.out.size))
    have HZ9 : Hid (w8.heap.size ≤ w9.heap.size) := Lib.hid hb.size
    have HRk9 := Lib.hid (HRk0.out.below HB9.out (Nat.le_refl _))
    have HRo9 := Lib.hid (HRo8.out.below hb (Nat.le_refl _))
    have HRr9 := Lib.hid (HRr8.out.below hb (Nat.le_refl _))
    have HBs2_9 : Hid (Below w2.heap.size w2 w9) := Lib.hid (HBs2_8.out.trans (hb.mono HBs2_8.out.size))
    have HBs8_9 : Hid (Below w8.heap.size w8 w9) := Lib.hid (HBs8_8.out.trans (hb.mono HBs8_8.out.size))
    clear hb
    obtain ⟨qap, qcp, rfl⟩ := ho.form
    have HRp9 := Lib.hid (ho)
    have HBs9_9 : Hid (Below w9.heap.size w9 w9) := Lib.hid (Below.refl _ _)
    clear ho
    go_wp2_with fail
    refine (vInts_yes _ _ rows _ HRr9.out HRp9.out).mono ?_
    rintro e w10 ⟨rfl, hb⟩
    have HB10 : Hid (Below w.heap.size w w10) := Lib.hid (HB9.out.trans (hb.mono HB9.out.size))
    have HZ10 : Hid (w9.heap.size ≤ w10.heap.size) := Lib.hid hb.size
    have HRk10 := Lib.hid (HRk0.out.below HB10.out (Nat.le_refl _))
    have HRo10 := Lib.hid (HRo9.out.below hb (Nat.le_refl _))
    have HRr10 := Lib.hid (HRr9.out.below hb (Nat.le_refl _))
    have HRp10 := Lib.hid (HRp9.out.below hb (Nat.le_refl _))
    have HBs2_10 : Hid (Below w2.heap.size w2 w10) := Lib.hid (HBs2_9.out.trans (hb.mono HBs2_9.out.size))
    have HBs8_10 : Hid (Below w8.heap.size w8 w10) := Lib.hid (HBs8_9.out.trans (hb.mono HBs8_9.out.size))
    have HBs9_10 : Hid (Below w9.heap.size w9 w10) := Lib.hid (HBs9_9.out.trans (hb.mono HBs9_9.out.size))
    clear hb
    cases b with
    | true =>
      obtain ⟨rs, n, hd1, hd2, hc1, hc2, hn0, hwm, hup, hend, hpl, hrl, hnn, hsum, hsle⟩ := hY rfl
      have HD1 := Lib.hid hd1
      have HD2 := Lib.hid hd2
      have HC1 := Lib.hid hc1
      have HC2 := Lib.hid hc2
      have HUP := Lib.hid hup
      have HEND := Lib.hid hend
      have HNN := Lib.hid hnn
      have HSUM := Lib.hid hsum
      have HSLE := Lib.hid hsle
      have hml : ts.length ≤ 9223372036854775807 := by obtain ⟨_, _, _, ⟨m, _⟩, _⟩ := HRo10.out; exact m
      have HPL := Lib.hid hpl
      have HRL := Lib.hid hrl
      have HWM := Lib.hid hwm
      have HN0 := Lib.hid hn0
      clear hY hd1 hd2 hc1 hc2 hup hend hnn hsum hsle hpl hrl hwm hn0
      go_wp2_with fail
      go_loopw [17, 18] (fun lv iv wr => ∃ j : Nat, j ≤ ts.length ∧ lv = .int .i64 (lt0 ts j) ∧ iv = .int .i64 j ∧ wr = w10) (fun _ iv _ => ts.length - (intOf iv).toNat)
      case atStart => exact ⟨0, Nat.zero_le _, by rw [lt0_zero], rfl, rfl⟩
      case round =>
        obtain ⟨j, hjk, rfl, rfl, hw⟩ := hrel
        subst wr
        by_cases hlt : j < ts.length
        · obtain ⟨a0, b0, o0, c0, he0, rfl, hbl, hcell⟩ := ints_at HRo10.out j hlt
          injection he0 with he0 _ _
          subst he0
          have hup := HUP.out j hlt
          have hsu := lt0_succ ts j hlt
          obtain ⟨P, hP⟩ : ∃ P, lt0 ts j = P := ⟨_, rfl⟩
          obtain ⟨V, hV⟩ : ∃ V, ts[j] = V := ⟨_, rfl⟩
          rw [hP, hV] at hup
          rw [hV] at hsu hcell
          rw [hP]
          have hle : decide (V ≤ P) = false := decide_eq_false (by omega)
          have hnl : ¬ (V ≤ P) := by omega
          have z1 : (0 : Int) ≤ (j : Int) := by omega
          have z2 : (j : Int) < (ts.length : Int) := by omega
          clear hP hV
          go_wp2_with fail
          go_roundw
          case rel => exact ⟨j + 1, by omega, by rw [hsu], by go_num, by first | rfl | trivial⟩
          case measure => simp [intOf]; omega
        · obtain rfl : j = ts.length := by omega
          rw [HEND.out]
          have z2 : ¬ ((ts.length : Int) < (ts.length : Int)) := by omega
          have hxx : (x * y != x * y) = false := by simp
          have hpx : ((ps.length : Int) != (ts.length : Int)) = false := by rw [HPL.out]; simp
          have hrx : ¬ ((rs.length : Int) < (rows.length : Int)) := by have := HRL.out; omega
          have hwm := HWM.out
          go_wp2_with fail
          refine (HD2.out _).mono ?_
          rintro e w11 ⟨⟨v, rfl, ho⟩, hb⟩
          have HB11 : Hid (Below w.heap.size w w11) := Lib.hid (HB10.out.trans (hb.mono HB10.out.size))
          have HZ11 : Hid (w10.heap.size ≤ w11.heap.size) := Lib.hid hb.size
          have HRk11 := Lib.hid (HRk0.out.below HB11.out (Nat.le_refl _))
          have HRo11 := Lib.hid (HRo10.out.below hb (Nat.le_refl _))
          have HRr11 := Lib.hid (HRr10.out.below hb (Nat.le_refl _))
          have HBs2_11 : Hid (Below w2.heap.size w2 w11) := Lib.hid (HBs2_10.out.trans (hb.mono HBs2_10.out.size))
          have HBs8_11 : Hid (Below w8.heap.size w8 w11) := Lib.hid (HBs8_10.out.trans (hb.mono HBs8_10.out.size))
          clear hb
          obtain ⟨qai, qci, rfl⟩ : ∃ a c, v = .slice a rs.length c := by obtain ⟨a, c, e, _⟩ := ho; exact ⟨a, c, e⟩
          have HRi11 := Lib.hid (ho)
          have HBs11_11 : Hid (Below w11.heap.size w11 w11) := Lib.hid (Below.refl _ _)
          clear ho
          go_wp2_with fail
          refine (HD1.out _).mono ?_
          rintro e w12 ⟨⟨v, rfl, ho⟩, hb⟩
          have HB12 : Hid (Below w.heap.size w w12) := Lib.hid (HB11.out.trans (hb.mono HB11.out.size))
          have HZ12 : Hid (w11.heap.size ≤ w12.heap.size) := Lib.hid hb.size
          have HRk12 := Lib.hid (HRk0.out.below HB12.out (Nat.le_refl _))
          have HRo12 := Lib.hid (HRo11.out.below hb (Nat.le_refl _))
          have HRr12 := Lib.hid (HRr11.out.below hb (Nat.le_refl _))
          have HRi12 := Lib.hid (HRi11.out.below hb (Nat.le_refl _))
          have HBs2_12 : Hid (Below w2.heap.size w2 w12) := Lib.hid (HBs2_11.out.trans (hb.mono HBs2_11.out.size))
          have HBs8_12 : Hid (Below w8.heap.size w8 w12) := Lib.hid (HBs8_11.out.trans (hb.mono HBs8_11.out.size))
          have HBs11_12 : Hid (Below w11.heap.size w11 w12) := Lib.hid (HBs11_11.out.trans (hb.mono HBs11_11.out.size))
          clear hb
          obtain ⟨qaj, qcj, rfl⟩ : ∃ a c, v = .slice a rs.length c := by obtain ⟨a, c, e, _⟩ := ho; exact ⟨a, c, e⟩
          have HRj12 := Lib.hid (ho)
          have HBs12_12 : Hid (Below w12.heap.size w12 w12) := Lib.hid (Below.refl _ _)
          clear ho
          go_wp2_with fail
          refine (vPairs_yes _ _ rs _ HRi12.out HRj12.out).mono ?_
          rintro e w13 ⟨rfl, hb⟩
          have HB13 : Hid (Below w.heap.size w w13) := Lib.hid (HB12.out.trans (hb.mono HB12.out.size))
          have HZ13 : Hid (w12.heap.size ≤ w13.heap.size) := Lib.hid hb.size
          have HRk13 := Lib.hid (HRk0.out.below HB13.out (Nat.le_refl _))
          have HRo13 := Lib.hid (HRo12.out.below hb (Nat.le_refl _))
          have HRr13 := Lib.hid (HRr12.out.below hb (Nat.le_refl _))
          have HRi13 := Lib.hid (HRi12.out.below hb (Nat.le_refl _))
          have HRj13 := Lib.hid (HRj12.out.below hb (Nat.le_refl _))
          have HBs2_13 : Hid (Below w2.heap.size w2 w13) := Lib.hid (HBs2_12.out.trans (hb.mono HBs2_12.out.size))
          have HBs8_13 : Hid (Below w8.heap.size w8 w13) := Lib.hid (HBs8_12.out.trans (hb.mono HBs8_12.out.size))
          have HBs11_13 : Hid (Below w11.heap.size w11 w13) := Lib.hid (HBs11_12.out.trans (hb.mono HBs11_12.out.size))
          have HBs12_13 : Hid (Below w12.heap.size w12 w13) := Lib.hid (HBs12_12.out.trans (hb.mono HBs12_12.out.size))
          clear hb
          go_wp2_with fail
          refine (vSum_yes _ rows _ HRr13.out HNN.out HSLE.out).mono ?_
          rintro e w14 ⟨rfl, hb⟩
          have HB14 : Hid (Below w.heap.size w w14) := Lib.hid (HB13.out.trans (hb.mono HB13.out.size))
          have HZ14 : Hid (w13.heap.size ≤ w14.heap.size) := Lib.hid hb.size
          have HRk14 := Lib.hid (HRk0.out.below HB14.out (Nat.le_refl _))
          have HRo14 := Lib.hid (HRo13.out.below hb (Nat.le_refl _))
          have HRr14 := Lib.hid (HRr13.out.below hb (Nat.le_refl _))
          have HBs2_14 : Hid (Below w2.heap.size w2 w14) := Lib.hid (HBs2_13.out.trans (hb.mono HBs2_13.out.size))
          have HBs8_14 : Hid (Below w8.heap.size w8 w14) := Lib.hid (HBs8_13.out.trans (hb.mono HBs8_13.out.size))
          clear hb
          rw [HSUM.out]
          go_wp2_with fail
          refine (HC2.out _).mono ?_
          rintro e w15 ⟨rfl, hb⟩
          have HB15 : Hid (Below w.heap.size w w15) := Lib.hid (HB14.out.trans (hb.mono HB14.out.size))
          have HZ15 : Hid (w14.heap.size ≤ w15.heap.size) := Lib.hid hb.size
          have HRk15 := Lib.hid (HRk0.out.below HB15.out (Nat.le_refl _))
          have HRo15 := Lib.hid (HRo14.out.below hb (Nat.le_refl _))
          have HBs2_15 : Hid (Below w2.heap.size w2 w15) := Lib.hid (HBs2_14.out.trans (hb.mono HBs2_14.out.size))
          clear hb
          go_wp2_with fail
          refine (HC1.out _).mono ?_
          rintro e w16 ⟨rfl, hb⟩
          have HB16 : Hid (Below w.heap.size w w16) := Lib.hid (HB15.out.trans (hb.mono HB15.out.size))
          have HZ16 : Hid (w15.heap.size ≤ w16.heap.size) := Lib.hid hb.size
          have HRk16 := Lib.hid (HRk0.out.below HB16.out (Nat.le_refl _))
          have HRo16 := Lib.hid (HRo15.out.below hb (Nat.le_refl _))
          have HBs2_16 : Hid (Below w2.heap.size w2 w16) := Lib.hid (HBs2_15.out.trans (hb.mono HBs2_15.out.size))
          clear hb
          have hnn2 : (n != n) = false := by simp
          have hn1 : ¬ (n < 0) := by have := HN0.out; omega
          go_wp2_with fail
          refine (drawProductOn_any _ L _ HRk16.out).mono ?_
          rintro e w17 ⟨⟨yu, yl, yv, ys, x2, y2, rfl, ho, -, hx2, hy2⟩, hb⟩
          have HB17 : Hid (Below w.heap.size w w17) := Lib.hid (HB16.out.trans (hb.mono HB16.out.size))
          have HZ17 : Hid (w16.heap.size ≤ w17.heap.size) := Lib.hid hb.size
          have HRk17 := Lib.hid (HRk0.out.below HB17.out (Nat.le_refl _))
          have HRo17 := Lib.hid (HRo16.out.below hb (Nat.le_refl _))
          have HBs2_17 : Hid (Below w2.heap.size w2 w17) := Lib.hid (HBs2_16.out.trans (hb.mono HBs2_16.out.size))
          clear hb
          obtain ⟨qay, qcy, rfl⟩ : ∃ a c, yv = .slice a ys.length c := by obtain ⟨a, c, e, _⟩ := ho; exact ⟨a, c, e⟩
          have HRy17 := Lib.hid (ho)
          have HBs17_17 : Hid (Below w17.heap.size w17 w17) := Lib.hid (Below.refl _ _)
          clear ho
          obtain ⟨gu, gl, rs2, b2, hS, hI, hY2⟩ := po_same yu yl ys x2 y2 hx2 hy2
          have HS2 := Lib.hid hS
          have HI2 := Lib.hid hI
          clear hS hI hx2 hy2
          have hb2 : (b2 != b2) = false := by simp
          go_wp2_with fail
          have hb : Below w17.heap.size w17 (w17.alloc (.cells #[.int .i64 yu, .int .i64 yl, .slice qay ys.length qcy] 42)) := (Below.refl _ _).alloc (Nat.le_refl _) _
          have hk : (w17.alloc (.cells #[.int .i64 yu, .int .i64 yl, .slice qay ys.length qcy] 42)).heap[w17.heap.size]? = some (.cells #[.int .i64 yu, .int .i64 yl, .slice qay ys.length qcy] 42 (0, 0)) := alloc_at rfl
          have hz : (w17.alloc (.cells #[.int .i64 yu, .int .i64 yl, .slice qay ys.length qcy] 42)).heap.size = w17.heap.size + 1 := by simp
          generalize w17.alloc (.cells #[.int .i64 yu, .int .i64 yl, .slice qay ys.length qcy] 42) = w18 at hb hk hz ⊢
          have HB18 : Hid (Below w.heap.size w w18) := Lib.hid (HB17.out.trans (hb.mono HB17.out.size))
          have HZ18 : Hid (w17.heap.size ≤ w18.heap.size) := Lib.hid hb.size
          have HRk18 := Lib.hid (HRk0.out.below HB18.out (Nat.le_refl _))
          have HRo18 := Lib.hid (HRo17.out.below hb (Nat.le_refl _))
          have HRy18 := Lib.hid (HRy17.out.below hb (Nat.le_refl _))
          have HBs2_18 : Hid (Below w2.heap.size w2 w18) := Lib.hid (HBs2_17.out.trans (hb.mono HBs2_17.out.size))
          have HBs17_18 : Hid (Below w17.heap.size w17 w18) := Lib.hid (HBs17_17.out.trans (hb.mono HBs17_17.out.size))
          have HKy18 := Lib.hid hk
          replace HZ18 : Hid (w17.heap.size < w18.heap.size) := Lib.hid (by omega)
          have HE18 := Lib.hid hz
          clear hb hk hz
          refine (HI2.out _ _ HRy18.out).mono ?_
          rintro e w19 ⟨⟨v, rfl, ho⟩, hb⟩
          have HB19 : Hid (Below w.heap.size w w19) := Lib.hid (HB18.out.trans (hb.mono HB18.out.size))
          have HZ19 : Hid (w18.heap.size ≤ w19.heap.size) := Lib.hid hb.size
          have HRk19 := Lib.hid (HRk0.out.below HB19.out (Nat.le_refl _))
          have HRo19 := Lib.hid (HRo18.out.below hb (Nat.le_refl _))
          have HRy19 := Lib.hid (HRy18.out.below hb (Nat.le_refl _))
          have HKy19 := Lib.hid ((hb.block _ (lt_of_block HKy18.out)).trans HKy18.out)
          have HBs2_19 : Hid (Below w2.heap.size w2 w19) := Lib.hid (HBs2_18.out.trans (hb.mono HBs2_18.out.size))
          have HBs17_19 : Hid (Below w17.heap.size w17 w19) := Lib.hid (HBs17_18.out.trans (hb.mono HBs17_18.out.size))
          clear hb
          obtain ⟨qas, qcs, rfl⟩ : ∃ a c, v = .slice a rs2.length c := by obtain ⟨a, c, e, _⟩ := ho; exact ⟨a, c, e⟩
          have HRs19 := Lib.hid (ho)
          have HBs19_19 : Hid (Below w19.heap.size w19 w19) := Lib.hid (Below.refl _ _)
          clear ho
          have lty := lt_of_block HKy19.out
          obtain ⟨cy0, cy1, cy2, fy0, fy1, fy2⟩ := cell3 HKy19.out
          go_wp2_with fail
          have hb : Below w19.heap.size w19 (w19.alloc (.cells #[.int .i64 gu, .int .i64 gl, .slice qas rs2.length qcs] 42)) := (Below.refl _ _).alloc (Nat.le_refl _) _
          have hk : (w19.alloc (.cells #[.int .i64 gu, .int .i64 gl, .slice qas rs2.length qcs] 42)).heap[w19.heap.size]? = some (.cells #[.int .i64 gu, .int .i64 gl, .slice qas rs2.length qcs] 42 (0, 0)) := alloc_at rfl
          have hz : (w19.alloc (.cells #[.int .i64 gu, .int .i64 gl, .slice qas rs2.length qcs] 42)).heap.size = w19.heap.size + 1 := by simp
          generalize w19.alloc (.cells #[.int .i64 gu, .int .i64 gl, .slice qas rs2.length qcs] 42) = w20 at hb hk hz ⊢
          have HB20 : Hid (Below w.heap.size w w20) := Lib.hid (HB19.out.trans (hb.mono HB19.out.size))
          have HZ20 : Hid (w19.heap.size ≤ w20.heap.size) := Lib.hid hb.size
          have HRk20 := Lib.hid (HRk0.out.below HB20.out (Nat.le_refl _))
          have HRo20 := Lib.hid (HRo19.out.below hb (Nat.le_refl _))
          have HRy20 := Lib.hid (HRy19.out.below hb (Nat.le_refl _))
          have HKy20 := Lib.hid ((hb.block _ (lt_of_block HKy19.out)).trans HKy19.out)
          have HRs20 := Lib.hid (HRs19.out.below hb (Nat.le_refl _))
          have HBs2_20 : Hid (Below w2.heap.size w2 w20) := Lib.hid (HBs2_19.out.trans (hb.mono HBs2_19.out.size))
          have HBs17_20 : Hid (Below w17.heap.size w17 w20) := Lib.hid (HBs17_19.out.trans (hb.mono HBs17_19.out.size))
          have HBs19_20 : Hid (Below w19.heap.size w19 w20) := Lib.hid (HBs19_19.out.trans (hb.mono HBs19_19.out.size))
          have HKs20 := Lib.hid hk
          replace HZ20 : Hid (w19.heap.size < w20.heap.size) := Lib.hid (by omega)
          have HE20 := Lib.hid hz
          clear hb hk hz
          refine (HS2.out _ _ HRy20.out).mono ?_
          rintro e w21 ⟨⟨v, rfl, ho⟩, hb⟩
          have HB21 : Hid (Below w.heap.size w w21) := Lib.hid (HB20.out.trans (hb.mono HB20.out.size))
          have HZ21 : Hid (w20.heap.size ≤ w21.heap.size) := Lib.hid hb.size
          have HRk21 := Lib.hid (HRk0.out.below HB21.out (Nat.le_refl _))
          have HRo21 := Lib.hid (HRo20.out.below hb (Nat.le_refl _))
          have HRy21 := Lib.hid (HRy20.out.below hb (Nat.le_refl _))
          have HKy21 := Lib.hid ((hb.block _ (lt_of_block HKy20.out)).trans HKy20.out)
          have HRs21 := Lib.hid (HRs20.out.below hb (Nat.le_refl _))
          have HKs21 := Lib.hid ((hb.block _ (lt_of_block HKs20.out)).trans HKs20.out)
          have HBs2_21 : Hid (Below w2.heap.size w2 w21) := Lib.hid (HBs2_20.out.trans (hb.mono HBs2_20.out.size))
          have HBs17_21 : Hid (Below w17.heap.size w17 w21) := Lib.hid (HBs17_20.out.trans (hb.mono HBs17_20.out.size))
          have HBs19_21 : Hid (Below w19.heap.size w19 w21) := Lib.hid (HBs19_20.out.trans (hb.mono HBs19_20.out.size))
          clear hb
          obtain ⟨qat, qct, rfl⟩ : ∃ a c, v = .slice a rs2.length c := by obtain ⟨a, c, e, _⟩ := ho; exact ⟨a, c, e⟩
          have HRt21 := Lib.hid (ho)
          have HBs21_21 : Hid (Below w21.heap.size w21 w21) := Lib.hid (Below.refl _ _)
          clear ho
          clear cy0 cy1 cy2 fy0 fy1 fy2 lty
          have lty := lt_of_block HKy21.out
          obtain ⟨cy0, cy1, cy2, fy0, fy1, fy2⟩ := cell3 HKy21.out
          have lts := lt_of_block HKs21.out
          obtain ⟨cs0, cs1, cs2, fs0, fs1, fs2⟩ := cell3 HKs21.out
          go_wp2_with fail
          have hb : Below w21.heap.size w21 (w21.alloc (.cells #[.int .i64 gu, .int .i64 gl, .slice qat rs2.length qct] 42)) := (Below.refl _ _).alloc (Nat.le_refl _) _
          have hk : (w21.alloc (.cells #[.int .i64 gu, .int .i64 gl, .slice qat rs2.length qct] 42)).heap[w21.heap.size]? = some (.cells #[.int .i64 gu, .int .i64 gl, .slice qat rs2.length qct] 42 (0, 0)) := alloc_at rfl
          have hz : (w21.alloc (.cells #[.int .i64 gu, .int .i64 gl, .slice qat rs2.length qct] 42)).heap.size = w21.heap.size + 1 := by simp
          generalize w21.alloc (.cells #[.int .i64 gu, .int .i64 gl, .slice qat rs2.length qct] 42) = w22 at hb hk hz ⊢
          have HB22 : Hid (Below w.heap.size w w22) := Lib.hid (HB21.out.trans (hb.mono HB21.out.size))
          have HZ22 : Hid (w21.heap.size ≤ w22.heap.size) := Lib.hid hb.size
          have HRk22 := Lib.hid (HRk0.out.below HB22.out (Nat.le_refl _))
          have HRo22 := Lib.hid (HRo21.out.below hb (Nat.le_refl _))
          have HRy22 := Lib.hid (HRy21.out.below hb (Nat.le_refl _))
          have HKy22 := Lib.hid ((hb.block _ (lt_of_block HKy21.out)).trans HKy21.out)
          have HRs22 := Lib.hid (HRs21.out.below hb (Nat.le_refl _))
          have HKs22 := Lib.hid ((hb.block _ (lt_of_block HKs21.out)).trans HKs21.out)
          have HRt22 := Lib.hid (HRt21.out.below hb (Nat.le_refl _))
          have HBs2_22 : Hid (Below w2.heap.size w2 w22) := Lib.hid (HBs2_21.out.trans (hb.mono HBs2_21.out.size))
          have HBs17_22 : Hid (Below w17.heap.size w17 w22) := Lib.hid (HBs17_21.out.trans (hb.mono HBs17_21.out.size))
          have HBs19_22 : Hid (Below w19.heap.size w19 w22) := Lib.hid (HBs19_21.out.trans (hb.mono HBs19_21.out.size))
          have HBs21_22 : Hid (Below w21.heap.size w21 w22) := Lib.hid (HBs21_21.out.trans (hb.mono HBs21_21.out.size))
          have HKt22 := Lib.hid hk
          replace HZ22 : Hid (w21.heap.size < w22.heap.size) := Lib.hid (by omega)
          have HE22 := Lib.hid hz
          clear hb hk hz
          refine (vFrame_yes gu gl _ _ rs2 _ HRs22.out HRt22.out).mono ?_
          rintro e w23 ⟨rfl, hb⟩
          have HB23 : Hid (Below w.heap.size w w23) := Lib.hid (HB22.out.trans (hb.mono HB22.out.size))
          have HZ23 : Hid (w22.heap.size ≤ w23.heap.size) := Lib.hid hb.size
          have HRk23 := Lib.hid (HRk0.out.below HB23.out (Nat.le_refl _))
          have HRo23 := Lib.hid (HRo22.out.below hb (Nat.le_refl _))
          have HRy23 := Lib.hid (HRy22.out.below hb (Nat.le_refl _))
          have HKy23 := Lib.hid ((hb.block _ (lt_of_block HKy22.out)).trans HKy22.out)
          have HRs23 := Lib.hid (HRs22.out.below hb (Nat.le_refl _))
          have HKs23 := Lib.hid ((hb.block _ (lt_of_block HKs22.out)).trans HKs22.out)
          have HRt23 := Lib.hid (HRt22.out.below hb (Nat.le_refl _))
          have HKt23 := Lib.hid ((hb.block _ (lt_of_block HKt22.out)).trans HKt22.out)
          have HBs2_23 : Hid (Below w2.heap.size w2 w23) := Lib.hid (HBs2_22.out.trans (hb.mono HBs2_22.out.size))
          have HBs17_23 : Hid (Below w17.heap.size w17 w23) := Lib.hid (HBs17_22.out.trans (hb.mono HBs17_22.out.size))
          have HBs19_23 : Hid (Below w19.heap.size w19 w23) := Lib.hid (HBs19_22.out.trans (hb.mono HBs19_22.out.size))
          have HBs21_23 : Hid (Below w21.heap.size w21 w23) := Lib.hid (HBs21_22.out.trans (hb.mono HBs21_22.out.size))
          clear hb
          cases b2 with
          | true =>
            obtain ⟨N2, hNa, hNb, hw1, hw2⟩ := hY2 rfl
            have HNA := Lib.hid hNa
            have HNB := Lib.hid hNb
            have hq : ((N2 + x2 * y2) == (N2 + x2 * y2)) = true := by simp
            clear hY2 hNa hNb
            clear cy0 cy1 cy2 fy0 fy1 fy2 lty cs0 cs1 cs2 fs0 fs1 fs2 lts
            have lty := lt_of_block HKy23.out
            obtain ⟨cy0, cy1, cy2, fy0, fy1, fy2⟩ := cell3 HKy23.out
            have lts := lt_of_block HKs23.out
            obtain ⟨cs0, cs1, cs2, fs0, fs1, fs2⟩ := cell3 HKs23.out
            go_wp2_with fail
            refine (HNA.out _ _ HRy23.out).mono ?_
            rintro e w24 ⟨rfl, hb⟩
            have HB24 : Hid (Below w.heap.size w w24) := Lib.hid (HB23.out.trans (hb.mono HB23.out.size))
            have HZ24 : Hid (w23.heap.size ≤ w24.heap.size) := Lib.hid hb.size
            have HRk24 := Lib.hid (HRk0.out.below HB24.out (Nat.le_refl _))
            have HRo24 := Lib.hid (HRo23.out.below hb (Nat.le_refl _))
            have HRy24 := Lib.hid (HRy23.out.below hb (Nat.le_refl _))
            have HKy24 := Lib.hid ((hb.block _ (lt_of_block HKy23.out)).trans HKy23.out)
            have HRs24 := Lib.hid (HRs23.out.below hb (Nat.le_refl _))
            have HKs24 := Lib.hid ((hb.block _ (lt_of_block HKs23.out)).trans HKs23.out)
            have HBs2_24 : Hid (Below w2.heap.size w2 w24) := Lib.hid (HBs2_23.out.trans (hb.mono HBs2_23.out.size))
            have HBs17_24 : Hid (Below w17.heap.size w17 w24) := Lib.hid (HBs17_23.out.trans (hb.mono HBs17_23.out.size))
            have HBs19_24 : Hid (Below w19.heap.size w19 w24) := Lib.hid (HBs19_23.out.trans (hb.mono HBs19_23.out.size))
            clear hb
            clear cy0 cy1 cy2 fy0 fy1 fy2 lty cs0 cs1 cs2 fs0 fs1 fs2 lts
            have lty := lt_of_block HKy24.out
            obtain ⟨cy0, cy1, cy2, fy0, fy1, fy2⟩ := cell3 HKy24.out
            have lts := lt_of_block HKs24.out
            obtain ⟨cs0, cs1, cs2, fs0, fs1, fs2⟩ := cell3 HKs24.out
            go_wp2_with fail
            refine (HNB.out _ _ HRs24.out).mono ?_
            rintro e w25 ⟨rfl, hb⟩
            have HB25 : Hid (Below w.heap.size w w25) := Lib.hid (HB24.out.trans (hb.mono HB24.out.size))
            have HZ25 : Hid (w24.heap.size ≤ w25.heap.size) := Lib.hid hb.size
            have HRk25 := Lib.hid (HRk0.out.below HB25.out (Nat.le_refl _))
            have HRo25 := Lib.hid (HRo24.out.below hb (Nat.le_refl _))
            have HRy25 := Lib.hid (HRy24.out.below hb (Nat.le_refl _))
            have HKy25 := Lib.hid ((hb.block _ (lt_of_block HKy24.out)).trans HKy24.out)
            have HRs25 := Lib.hid (HRs24.out.below hb (Nat.le_refl _))
            have HKs25 := Lib.hid ((hb.block _ (lt_of_block HKs24.out)).trans HKs24.out)
            have HBs2_25 : Hid (Below w2.heap.size w2 w25) := Lib.hid (HBs2_24.out.trans (hb.mono HBs2_24.out.size))
            have HBs17_25 : Hid (Below w17.heap.size w17 w25) := Lib.hid (HBs17_24.out.trans (hb.mono HBs17_24.out.size))
            have HBs19_25 : Hid (Below w19.heap.size w19 w25) := Lib.hid (HBs19_24.out.trans (hb.mono HBs19_24.out.size))
            clear hb
            clear cy0 cy1 cy2 fy0 fy1 fy2 lty cs0 cs1 cs2 fs0 fs1 fs2 lts
            have lty := lt_of_block HKy25.out
            obtain ⟨cy0, cy1, cy2, fy0, fy1, fy2⟩ := cell3 HKy25.out
            have lts := lt_of_block HKs25.out
            obtain ⟨cs0, cs1, cs2, fs0, fs1, fs2⟩ := cell3 HKs25.out
            go_wp2_with fail
            go_ret
            exact ⟨ret_bool (by first | (simp; done) | (simp; omega)), HB25.out⟩
          | false =>
            clear hY2
            clear cy0 cy1 cy2 fy0 fy1 fy2 lty cs0 cs1 cs2 fs0 fs1 fs2 lts
            have lty := lt_of_block HKy23.out
            obtain ⟨cy0, cy1, cy2, fy0, fy1, fy2⟩ := cell3 HKy23.out
            have lts := lt_of_block HKs23.out
            obtain ⟨cs0, cs1, cs2, fs0, fs1, fs2⟩ := cell3 HKs23.out
            go_wp2_with fail
            go_ret
            exact ⟨rfl, HB23.out⟩
    | false =>
      clear hY
      go_wp2_with fail
      refine (drawProductOn_any _ L _ HRk10.out).mono ?_
      rintro e w11 ⟨⟨yu, yl, yv, ys, x2, y2, rfl, ho, -, hx2, hy2⟩, hb⟩
      have HB11 : Hid (Below w.heap.size w w11) := Lib.hid (HB10.out.trans (hb.mono HB10.out.size))
      have HZ11 : Hid (w10.heap.size ≤ w11.heap.size) := Lib.hid hb.size
      have HRk11 := Lib.hid (HRk0.out.below HB11.out (Nat.le_refl _))
      have HRo11 := Lib.hid (HRo10.out.below hb (Nat.le_refl _))
      have HRr11 := Lib.hid (HRr10.out.below hb (Nat.le_refl _))
      have HBs2_11 : Hid (Below w2.heap.size w2 w11) := Lib.hid (HBs2_10.out.trans (hb.mono HBs2_10.out.size))
      have HBs8_11 : Hid (Below w8.heap.size w8 w11) := Lib.hid (HBs8_10.out.trans (hb.mono HBs8_10.out.size))
      clear hb
      obtain ⟨qay, qcy, rfl⟩ : ∃ a c, yv = .slice a ys.length c := by obtain ⟨a, c, e, _⟩ := ho; exact ⟨a, c, e⟩
      have HRy11 := Lib.hid (ho)
      have HBs11_11 : Hid (Below w11.heap.size w11 w11) := Lib.hid (Below.refl _ _)
      clear ho
      obtain ⟨gu, gl, rs2, b2, hS, hI, hY2⟩ := po_same yu yl ys x2 y2 hx2 hy2
      have HS2 := Lib.hid hS
      have HI2 := Lib.hid hI
      clear hS hI hx2 hy2
      have hb2 : (b2 != b2) = false := by simp
      go_wp2_with fail
      have hb : Below w11.heap.size w11 (w11.alloc (.cells #[.int .i64 yu, .int .i64 yl, .slice qay ys.length qcy] 42)) := (Below.refl _ _).alloc (Nat.le_refl _) _
      have hk : (w11.alloc (.cells #[.int .i64 yu, .int .i64 yl, .slice qay ys.length qcy] 42)).heap[w11.heap.size]? = some (.cells #[.int .i64 yu, .int .i64 yl, .slice qay ys.length qcy] 42 (0, 0)) := alloc_at rfl
      have hz : (w11.alloc (.cells #[.int .i64 yu, .int .i64 yl, .slice qay ys.length qcy] 42)).heap.size = w11.heap.size + 1 := by simp
      generalize w11.alloc (.cells #[.int .i64 yu, .int .i64 yl, .slice qay ys.length qcy] 42) = w12 at hb hk hz ⊢
      have HB12 : Hid (Below w.heap.size w w12) := Lib.hid (HB11.out.trans (hb.mono HB11.out.size))
      have HZ12 : Hid (w11.heap.size ≤ w12.heap.size) := Lib.hid hb.size
      have HRk12 := Lib.hid (HRk0.out.below HB12.out (Nat.le_refl _))
      have HRo12 := Lib.hid (HRo11.out.below hb (Nat.le_refl _))
      have HRr12 := Lib.hid (HRr11.out.below hb (Nat.le_refl _))
      have HRy12 := Lib.hid (HRy11.out.below hb (Nat.le_refl _))
      have HBs2_12 : Hid (Below w2.heap.size w2 w12) := Lib.hid (HBs2_11.out.trans (hb.mono HBs2_11.out.size))
      have HBs8_12 : Hid (Below w8.heap.size w8 w12) := Lib.hid (HBs8_11.out.trans (hb.mono HBs8_11.out.size))
      have HBs11_12 : Hid (Below w11.heap.size w11 w12) := Lib.hid (HBs11_11.out.trans (hb.mono HBs11_11.out.size))
      have HKy12 := Lib.hid hk
      replace HZ12 : Hid (w11.heap.size < w12.heap.size) := Lib.hid (by omega)
      have HE12 := Lib.hid hz
      clear hb hk hz
      refine (HI2.out _ _ HRy12.out).mono ?_
      rintro e w13 ⟨⟨v, rfl, ho⟩, hb⟩
      have HB13 : Hid (Below w.heap.size w w13) := Lib.hid (HB12.out.trans (hb.mono HB12.out.size))
      have HZ13 : Hid (w12.heap.size ≤ w13.heap.size) := Lib.hid hb.size
      have HRk13 := Lib.hid (HRk0.out.below HB13.out (Nat.le_refl _))
      have HRo13 := Lib.hid (HRo12.out.below hb (Nat.le_refl _))
      have HRr13 := Lib.hid (HRr12.out.below hb (Nat.le_refl _))
      have HRy13 := Lib.hid (HRy12.out.below hb (Nat.le_refl _))
      have HKy13 := Lib.hid ((hb.block _ (lt_of_block HKy12.out)).trans HKy12.out)
      have HBs2_13 : Hid (Below w2.heap.size w2 w13) := Lib.hid (HBs2_12.out.trans (hb.mono HBs2_12.out.size))
      have HBs8_13 : Hid (Below w8.heap.size w8 w13) := Lib.hid (HBs8_12.out.trans (hb.mono HBs8_12.out.size))
      have HBs11_13 : Hid (Below w11.heap.size w11 w13) := Lib.hid (HBs11_12.out.trans (hb.mono HBs11_12.out.size))
      clear hb
      obtain ⟨qas, qcs, rfl⟩ : ∃ a c, v = .slice a rs2.length c := by obtain ⟨a, c, e, _⟩ := ho; exact ⟨a, c, e⟩
      have HRs13 := Lib.hid (ho)
      have HBs13_13 : Hid (Below w13.heap.size w13 w13) := Lib.hid (Below.refl _ _)
      clear ho
      have lty := lt_of_block HKy13.out
      obtain ⟨cy0, cy1, cy2, fy0, fy1, fy2⟩ := cell3 HKy13.out
      go_wp2_with fail
      have hb : Below w13.heap.size w13 (w13.alloc (.cells #[.int .i64 gu, .int .i64 gl, .slice qas rs2.length qcs] 42)) := (Below.refl _ _).alloc (Nat.le_refl _) _
      have hk : (w13.alloc (.cells #[.int .i64 gu, .int .i64 gl, .slice qas rs2.length qcs] 42)).heap[w13.heap.size]? = some (.cells #[.int .i64 gu, .int .i64 gl, .slice qas rs2.length qcs] 42 (0, 0)) := alloc_at rfl
      have hz : (w13.alloc (.cells #[.int .i64 gu, .int .i64 gl, .slice qas rs2.length qcs] 42)).heap.size = w13.heap.size + 1 := by simp
      generalize w13.alloc (.cells #[.int .i64 gu, .int .i64 gl, .slice qas rs2.length qcs] 42) = w14 at hb hk hz ⊢
      have HB14 : Hid (Below w.heap.size w w14) := Lib.hid (HB13.out.trans (hb.mono HB13.out.size))
      have HZ14 : Hid (w13.heap.size ≤ w14.heap.size) := Lib.hid hb.size
      have HRk14 := Lib.hid (HRk0.out.below HB14.out (Nat.le_refl _))
      have HRo14 := Lib.hid (HRo13.out.below hb (Nat.le_refl _))
      have HRr14 := Lib.hid (HRr13.out.below hb (Nat.le_refl _))
      have HRy14 := Lib.hid (HRy13.out.below hb (Nat.le_refl _))
      have HKy14 := Lib.hid ((hb.block _ (lt_of_block HKy13.out)).trans HKy13.out)
      have HRs14 := Lib.hid (HRs13.out.below hb (Nat.le_refl _))
      have HBs2_14 : Hid (Below w2.heap.size w2 w14) := Lib.hid (HBs2_13.out.trans (hb.mono HBs2_13.out.size))
      have HBs8_14 : Hid (Below w8.heap.size w8 w14) := Lib.hid (HBs8_13.out.trans (hb.mono HBs8_13.out.size))
      have HBs11_14 : Hid (Below w11.heap.size w11 w14) := Lib.hid (HBs11_13.out.trans (hb.mono HBs11_13.out.size))
      have HBs13_14 : Hid (Below w13.heap.size w13 w14) := Lib.hid (HBs13_13.out.trans (hb.mono HBs13_13.out.size))
      have HKs14 := Lib.hid hk
      replace HZ14 : Hid (w13.heap.size < w14.heap.size) := Lib.hid (by omega)
      have HE14 := Lib.hid hz
      clear hb hk hz
      refine (HS2.out _ _ HRy14.out).mono ?_
      rintro e w15 ⟨⟨v, rfl, ho⟩, hb⟩
      have HB15 : Hid (Below w.heap.size w w15) := Lib.hid (HB14.out.trans (hb.mono HB14.out.size))
      have HZ15 : Hid (w14.heap.size ≤ w15.heap.size) := Lib.hid hb.size
      have HRk15 := Lib.hid (HRk0.out.below HB15.out (Nat.le_refl _))
      have HRo15 := Lib.hid (HRo14.out.below hb (Nat.le_refl _))
      have HRr15 := Lib.hid (HRr14.out.below hb (Nat.le_refl _))
      have HRy15 := Lib.hid (HRy14.out.below hb (Nat.le_refl _))
      have HKy15 := Lib.hid ((hb.block _ (lt_of_block HKy14.out)).trans HKy14.out)
      have HRs15 := Lib.hid (HRs14.out.below hb (Nat.le_refl _))
      have HKs15 := Lib.hid ((hb.block _ (lt_of_block HKs14.out)).trans HKs14.out)
      have HBs2_15 : Hid (Below w2.heap.size w2 w15) := Lib.hid (HBs2_14.out.trans (hb.mono HBs2_14.out.size))
      have HBs8_15 : Hid (Below w8.heap.size w8 w15) := Lib.hid (HBs8_14.out.trans (hb.mono HBs8_14.out.size))
      have HBs11_15 : Hid (Below w11.heap.size w11 w15) := Lib.hid (HBs11_14.out.trans (hb.mono HBs11_14.out.size))
      have HBs13_15 : Hid (Below w13.heap.size w13 w15) := Lib.hid (HBs13_14.out.trans (hb.mono HBs13_14.out.size))
      clear hb
      obtain ⟨qat, qct, rfl⟩ : ∃ a c, v = .slice a rs2.length c := by obtain ⟨a, c, e, _⟩ := ho; exact ⟨a, c, e⟩
      have HRt15 := Lib.hid (ho)
      have HBs15_15 : Hid (Below w15.heap.size w15 w15) := Lib.hid (Below.refl _ _)
      clear ho
      clear cy0 cy1 cy2 fy0 fy1 fy2 lty
      have lty := lt_of_block HKy15.out
      obtain ⟨cy0, cy1, cy2, fy0, fy1, fy2⟩ := cell3 HKy15.out
      have lts := lt_of_block HKs15.out
      obtain ⟨cs0, cs1, cs2, fs0, fs1, fs2⟩ := cell3 HKs15.out
      go_wp2_with fail
      have hb : Below w15.heap.size w15 (w15.alloc (.cells #[.int .i64 gu, .int .i64 gl, .slice qat rs2.length qct] 42)) := (Below.refl _ _).alloc (Nat.le_refl _) _
      have hk : (w15.alloc (.cells #[.int .i64 gu, .int .i64 gl, .slice qat rs2.length qct] 42)).heap[w15.heap.size]? = some (.cells #[.int .i64 gu, .int .i64 gl, .slice qat rs2.length qct] 42 (0, 0)) := alloc_at rfl
      have hz : (w15.alloc (.cells #[.int .i64 gu, .int .i64 gl, .slice qat rs2.length qct] 42)).heap.size = w15.heap.size + 1 := by simp
      generalize w15.alloc (.cells #[.int .i64 gu, .int .i64 gl, .slice qat rs2.length qct] 42) = w16 at hb hk hz ⊢
      have HB16 : Hid (Below w.heap.size w w16) := Lib.hid (HB15.out.trans (hb.mono HB15.out.size))
      have HZ16 : Hid (w15.heap.size ≤ w16.heap.size) := Lib.hid hb.size
      have HRk16 := Lib.hid (HRk0.out.below HB16.out (Nat.le_refl _))
      have HRo16 := Lib.hid (HRo15.out.below hb (Nat.le_refl _))
      have HRr16 := Lib.hid (HRr15.out.below hb (Nat.le_refl _))
      have HRy16 := Lib.hid (HRy15.out.below hb (Nat.le_refl _))
      have HKy16 := Lib.hid ((hb.block _ (lt_of_block HKy15.out)).trans HKy15.out)
      have HRs16 := Lib.hid (HRs15.out.below hb (Nat.le_refl _))
      have HKs16 := Lib.hid ((hb.block _ (lt_of_block HKs15.out)).trans HKs15.out)
      have HRt16 := Lib.hid (HRt15.out.below hb (Nat.le_refl _))
      have HBs2_16 : Hid (Below w2.heap.size w2 w16) := Lib.hid (HBs2_15.out.trans (hb.mono HBs2_15.out.size))
      have HBs8_16 : Hid (Below w8.heap.size w8 w16) := Lib.hid (HBs8_15.out.trans (hb.mono HBs8_15.out.size))
      have HBs11_16 : Hid (Below w11.heap.size w11 w16) := Lib.hid (HBs11_15.out.trans (hb.mono HBs11_15.out.size))
      have HBs13_16 : Hid (Below w13.heap.size w13 w16) := Lib.hid (HBs13_15.out.trans (hb.mono HBs13_15.out.size))
      have HBs15_16 : Hid (Below w15.heap.size w15 w16) := Lib.hid (HBs15_15.out.trans (hb.mono HBs15_15.out.size))
      have HKt16 := Lib.hid hk
      replace HZ16 : Hid (w15.heap.size < w16.heap.size) := Lib.hid (by omega)
      have HE16 := Lib.hid hz
      clear hb hk hz
      refine (vFrame_yes gu gl _ _ rs2 _ HRs16.out HRt16.out).mono ?_
      rintro e w17 ⟨rfl, hb⟩
      have HB17 : Hid (Below w.heap.size w w17) := Lib.hid (HB16.out.trans (hb.mono HB16.out.size))
      have HZ17 : Hid (w16.heap.size ≤ w17.heap.size) := Lib.hid hb.size
      have HRk17 := Lib.hid (HRk0.out.below HB17.out (Nat.le_refl _))
      have HRo17 := Lib.hid (HRo16.out.below hb (Nat.le_refl _))
      have HRr17 := Lib.hid (HRr16.out.below hb (Nat.le_refl _))
      have HRy17 := Lib.hid (HRy16.out.below hb (Nat.le_refl _))
      have HKy17 := Lib.hid ((hb.block _ (lt_of_block HKy16.out)).trans HKy16.out)
      have HRs17 := Lib.hid (HRs16.out.below hb (Nat.le_refl _))
      have HKs17 := Lib.hid ((hb.block _ (lt_of_block HKs16.out)).trans HKs16.out)
      have HRt17 := Lib.hid (HRt16.out.below hb (Nat.le_refl _))
      have HKt17 := Lib.hid ((hb.block _ (lt_of_block HKt16.out)).trans HKt16.out)
      have HBs2_17 : Hid (Below w2.heap.size w2 w17) := Lib.hid (HBs2_16.out.trans (hb.mono HBs2_16.out.size))
      have HBs8_17 : Hid (Below w8.heap.size w8 w17) := Lib.hid (HBs8_16.out.trans (hb.mono HBs8_16.out.size))
      have HBs11_17 : Hid (Below w11.heap.size w11 w17) := Lib.hid (HBs11_16.out.trans (hb.mono HBs11_16.out.size))
      have HBs13_17 : Hid (Below w13.heap.size w13 w17) := Lib.hid (HBs13_16.out.trans (hb.mono HBs13_16.out.size))
      have HBs15_17 : Hid (Below w15.heap.size w15 w17) := Lib.hid (HBs15_16.out.trans (hb.mono HBs15_16.out.size))
      clear hb
      cases b2 with
      | true =>
        obtain ⟨N2, hNa, hNb, hw1, hw2⟩ := hY2 rfl
        have HNA := Lib.hid hNa
        have HNB := Lib.hid hNb
        have hq : ((N2 + x2 * y2) == (N2 + x2 * y2)) = true := by simp
        clear hY2 hNa hNb
        clear cy0 cy1 cy2 fy0 fy1 fy2 lty cs0 cs1 cs2 fs0 fs1 fs2 lts
        have lty := lt_of_block HKy17.out
        obtain ⟨cy0, cy1, cy2, fy0, fy1, fy2⟩ := cell3 HKy17.out
        have lts := lt_of_block HKs17.out
        obtain ⟨cs0, cs1, cs2, fs0, fs1, fs2⟩ := cell3 HKs17.out
        go_wp2_with fail
        refine (HNA.out _ _ HRy17.out).mono ?_
        rintro e w18 ⟨rfl, hb⟩
        have HB18 : Hid (Below w.heap.size w w18) := Lib.hid (HB17.out.trans (hb.mono HB17.out.size))
        have HZ18 : Hid (w17.heap.size ≤ w18.heap.size) := Lib.hid hb.size
        have HRk18 := Lib.hid (HRk0.out.below HB18.out (Nat.le_refl _))
        have HRo18 := Lib.hid (HRo17.out.below hb (Nat.le_refl _))
        have HRr18 := Lib.hid (HRr17.out.below hb (Nat.le_refl _))
        have HRy18 := Lib.hid (HRy17.out.below hb (Nat.le_refl _))
        have HKy18 := Lib.hid ((hb.block _ (lt_of_block HKy17.out)).trans HKy17.out)
        have HRs18 := Lib.hid (HRs17.out.below hb (Nat.le_refl _))
        have HKs18 := Lib.hid ((hb.block _ (lt_of_block HKs17.out)).trans HKs17.out)
        have HBs2_18 : Hid (Below w2.heap.size w2 w18) := Lib.hid (HBs2_17.out.trans (hb.mono HBs2_17.out.size))
        have HBs8_18 : Hid (Below w8.heap.size w8 w18) := Lib.hid (HBs8_17.out.trans (hb.mono HBs8_17.out.size))
        have HBs11_18 : Hid (Below w11.heap.size w11 w18) := Lib.hid (HBs11_17.out.trans (hb.mono HBs11_17.out.size))
        have HBs13_18 : Hid (Below w13.heap.size w13 w18) := Lib.hid (HBs13_17.out.trans (hb.mono HBs13_17.out.size))
        clear hb
        clear cy0 cy1 cy2 fy0 fy1 fy2 lty cs0 cs1 cs2 fs0 fs1 fs2 lts
        have lty := lt_of_block HKy18.out
        obtain ⟨cy0, cy1, cy2, fy0, fy1, fy2⟩ := cell3 HKy18.out
        have lts := lt_of_block HKs18.out
        obtain ⟨cs0, cs1, cs2, fs0, fs1, fs2⟩ := cell3 HKs18.out
        go_wp2_with fail
        refine (HNB.out _ _ HRs18.out).mono ?_
        rintro e w19 ⟨rfl, hb⟩
        have HB19 : Hid (Below w.heap.size w w19) := Lib.hid (HB18.out.trans (hb.mono HB18.out.size))
        have HZ19 : Hid (w18.heap.size ≤ w19.heap.size) := Lib.hid hb.size
        have HRk19 := Lib.hid (HRk0.out.below HB19.out (Nat.le_refl _))
        have HRo19 := Lib.hid (HRo18.out.below hb (Nat.le_refl _))
        have HRr19 := Lib.hid (HRr18.out.below hb (Nat.le_refl _))
        have HRy19 := Lib.hid (HRy18.out.below hb (Nat.le_refl _))
        have HKy19 := Lib.hid ((hb.block _ (lt_of_block HKy18.out)).trans HKy18.out)
        have HRs19 := Lib.hid (HRs18.out.below hb (Nat.le_refl _))
        have HKs19 := Lib.hid ((hb.block _ (lt_of_block HKs18.out)).trans HKs18.out)
        have HBs2_19 : Hid (Below w2.heap.size w2 w19) := Lib.hid (HBs2_18.out.trans (hb.mono HBs2_18.out.size))
        have HBs8_19 : Hid (Below w8.heap.size w8 w19) := Lib.hid (HBs8_18.out.trans (hb.mono HBs8_18.out.size))
        have HBs11_19 : Hid (Below w11.heap.size w11 w19) := Lib.hid (HBs11_18.out.trans (hb.mono HBs11_18.out.size))
        have HBs13_19 : Hid (Below w13.heap.size w13 w19) := Lib.hid (HBs13_18.out.trans (hb.mono HBs13_18.out.size))
        clear hb
        clear cy0 cy1 cy2 fy0 fy1 fy2 lty cs0 cs1 cs2 fs0 fs1 fs2 lts
        have lty := lt_of_block HKy19.out
        obtain ⟨cy0, cy1, cy2, fy0, fy1, fy2⟩ := cell3 HKy19.out
        have lts := lt_of_block HKs19.out
        obtain ⟨cs0, cs1, cs2, fs0, fs1, fs2⟩ := cell3 HKs19.out
        go_wp2_with fail
        go_ret
        exact ⟨ret_bool (by first | (simp; done) | (simp; omega)), HB19.out⟩
      | false =>
        clear hY2
        clear cy0 cy1 cy2 fy0 fy1 fy2 lty cs0 cs1 cs2 fs0 fs1 fs2 lts
        have lty := lt_of_block HKy17.out
        obtain ⟨cy0, cy1, cy2, fy0, fy1, fy2⟩ := cell3 HKy17.out
        have lts := lt_of_block HKs17.out
        obtain ⟨cs0, cs1, cs2, fs0, fs1, fs2⟩ := cell3 HKs17.out
        go_wp2_with fail
        go_ret
        exact ⟨rfl, HB17.out⟩
end Go.Proofs.Ythmbehknacjodaa
