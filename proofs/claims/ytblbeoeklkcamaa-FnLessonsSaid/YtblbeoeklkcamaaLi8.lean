/- The program's FreeRooms. -/
import Derived.Test.YtblbeoeklkcamaaLi2
import Derived.Test.YtblbeoeklkcamaaTf
import Derived.Test.YtblbeoeklkcamaaTg
import Derived.Test.YtblbeoeklkcamaaK9a
import Derived.Test.YtblbeoeklkcamaaPp
namespace Go.Proofs.Ytblbeoeklkcamaa
set_option linter.unusedVariables false
open Go.RowKit

/-- A block's cells, told by a list. -/
theorem cell_list {w : World} {b i : Nat} {L : List Value} {T : TypeId} (h : w.heap[b]? = some (.cells L.toArray T (0, 0))) (hi : i < L.length) : w.cell? ⟨b, i, none⟩ = some L[i] ∧ w.frozen? ⟨b, i, none⟩ = false := by
  simp [World.cell?, World.frozen?, h, hi]
theorem set_list {w : World} {b i : Nat} {L : List Value} {T : TypeId} (h : w.heap[b]? = some (.cells L.toArray T (0, 0))) (x : Value) : (w.setCell ⟨b, i, none⟩ x).heap[b]? = some (.cells (L.set i x).toArray T (0, 0)) := by
  have h1 := heap_setCell_same w b i _ _ x h
  simpa using h1
def blL (f : Nat → Bool) : List Value := (List.range 10).map fun r => .bool (f r)
theorem blL_at (f : Nat → Bool) (i : Nat) (h : i < (blL f).length) : (blL f)[i] = .bool (f i) := by simp [blL]
theorem blL_set (f g : Nat → Bool) (r : Nat) (v : Bool) (hr : g r = v) (h : ∀ i, i ≠ r → g i = f i) : (blL f).set r (.bool v) = blL g := by
  apply List.ext_getElem?
  intro i
  by_cases e : i = r
  · subst e
    by_cases h9 : i < 10
    · rw [List.getElem?_set_self (by simp [blL]; exact h9)]; simp [blL, h9, hr]
    · rw [List.getElem?_eq_none (by simp [blL]; omega), List.getElem?_eq_none (by simp [blL]; omega)]
  · rw [List.getElem?_set_ne (fun e' => e e'.symm)]
    by_cases h9 : i < 10
    · simp [blL, h9, h i e]
    · rw [List.getElem?_eq_none (by simp [blL]; omega), List.getElem?_eq_none (by simp [blL]; omega)]
set_option maxRecDepth 100000 in
set_option maxHeartbeats 1600000 in
theorem implFree_no (v : Value) (ps : List Les) (d b m : Int) (w : World) (h : RowsR 7 lesC w v ps) (qs : List Int) (t : Bool) (hn : ¬ okFr ps d b m) (hq : qs = [] ∧ t = false) :
    Calls Try.prog 21 #[v, .int .i64 d, .int .i64 b, .int .i64 m] w fun e w' => (∃ sq, e = .returned (.tuple #[sq, .bool t]) ∧ w'.ownsRow w.heap.size 3 1 sq qs.length (flatC inC (qs))) ∧ Below w.heap.size w w' := by
  have HT := Lib.hid hq
  have HR := Lib.hid h
  obtain ⟨a, cp, rfl⟩ := h.form
  clear h hq
  by_cases ho : okLs ps
  · have HO := Lib.hid ho
    have HTM : Hid (¬ ((0 ≤ d ∧ d ≤ 6) ∧ okTm b m)) := Lib.hid (fun e => hn ⟨ho, e⟩)
    clear hn ho
    go_enter Try.func21, Try.ntmps21
    go_wp2_with fail
    refine (iGood_yes _ ps _ HR.out HO.out).mono ?_
    rintro e w2 ⟨rfl, hb2⟩
    have HB2 := Lib.hid hb2
    clear hb2
    go_wp2_with fail
    refine (isTime_any d b m _ false ⟨fun e => by simp at e, fun e => absurd e HTM.out⟩).mono ?_
    rintro e w' ⟨rfl, hw⟩
    subst w'
    go_wp2_with fail
    go_ret2
    refine ⟨⟨_, by rw [HT.out.2]; rfl, ?_⟩, HB2.out.alloc HB2.out.size _⟩
    rw [HT.out.1]
    exact World.ownsRow_made (base := w.heap.size) (e := 3) (size := 1) _ #[] 0 HB2.out.size (Nat.zero_le _) (by simp)
  · have HO := Lib.hid ho
    clear hn ho
    go_enter Try.func21, Try.ntmps21
    go_wp2_with fail
    refine (iGood_no _ ps _ HR.out HO.out).mono ?_
    rintro e w2 ⟨rfl, hb2⟩
    have HB2 := Lib.hid hb2
    clear hb2
    go_wp2_with fail
    go_ret2
    refine ⟨⟨_, by rw [HT.out.2]; rfl, ?_⟩, HB2.out.alloc HB2.out.size _⟩
    rw [HT.out.1]
    exact World.ownsRow_made (base := w.heap.size) (e := 3) (size := 1) _ #[] 0 HB2.out.size (Nat.zero_le _) (by simp)
set_option maxRecDepth 100000 in
set_option maxHeartbeats 6400000 in
theorem implFree_ok (v : Value) (ps : List Les) (d b m : Int) (w : World) (h : RowsR 7 lesC w v ps) (hok : okFr ps d b m) (qs : List Int) (hq : qs = frL ps ⟨0, 0, 0, 0, d, b, m⟩ 9) :
    Calls Try.prog 21 #[v, .int .i64 d, .int .i64 b, .int .i64 m] w fun e w' => (∃ sq, e = .returned (.tuple #[sq, .bool true]) ∧ w'.ownsRow w.heap.size 3 1 sq qs.length (flatC inC (qs))) ∧ Below w.heap.size w w' := by
  obtain ⟨i0, hi, hz0, hz1, hz2⟩ := info_parts Try.infoInL
  obtain ⟨ho, htm⟩ := hok
  have hl := okLs_len ho
  have HR := Lib.hid h
  have HO := Lib.hid ho
  have HTM := Lib.hid htm
  obtain ⟨P, hP⟩ : ∃ P : Les, ⟨0, 0, 0, 0, d, b, m⟩ = P := ⟨_, rfl⟩
  rw [hP] at hq
  have HQ := Lib.hid hq
  have HME : Hid (∀ (x : Les) (w : World), Calls Try.prog 63 #[lesV x, .agg #[.int .i64 0, .int .i64 0, .int .i64 0, .int .i64 0, .int .i64 d, .int .i64 b, .int .i64 m]] w fun e w' => e = .returned (.bool (meetB x P)) ∧ Below w.heap.size w w') := Lib.hid (fun x w => by rw [← hP]; exact implMeet_any x ⟨0, 0, 0, 0, d, b, m⟩ w)
  obtain ⟨a, cp, rfl⟩ := h.form
  have R1 := Lib.hid h.at
  clear h ho htm hq hP
  go_enter Try.func21, Try.ntmps21
  go_wp2_with fail
  refine (iGood_yes _ ps _ HR.out HO.out).mono ?_
  rintro e w2 ⟨rfl, hb2⟩
  have HB2 := Lib.hid hb2
  clear hb2
  go_wp2_with fail
  refine (isTime_any d b m _ true ⟨fun _ => HTM.out, fun _ => rfl⟩).mono ?_
  rintro e w' ⟨rfl, hw⟩
  subst w'
  go_wp2_with fail
  have hk1 : ((w2.alloc (.cells #[.int .i64 0, .int .i64 0, .int .i64 0, .int .i64 0, .int .i64 d, .int .i64 b, .int .i64 m] 50)).alloc (.cells #[.bool false, .bool false, .bool false, .bool false, .bool false, .bool false, .bool false, .bool false, .bool false, .bool false] 79)).heap[w2.heap.size]? = some (.cells #[.int .i64 0, .int .i64 0, .int .i64 0, .int .i64 0, .int .i64 d, .int .i64 b, .int .i64 m] 50 (0, 0)) := (alloc_old (by simp)).trans (alloc_at rfl)
  have hk2 : ((w2.alloc (.cells #[.int .i64 0, .int .i64 0, .int .i64 0, .int .i64 0, .int .i64 d, .int .i64 b, .int .i64 m] 50)).alloc (.cells #[.bool false, .bool false, .bool false, .bool false, .bool false, .bool false, .bool false, .bool false, .bool false, .bool false] 79)).heap[w2.heap.size + 1]? = some (.cells #[.bool false, .bool false, .bool false, .bool false, .bool false, .bool false, .bool false, .bool false, .bool false, .bool false] 79 (0, 0)) := alloc_at (by simp)
  have hb3 : Below w.heap.size w ((w2.alloc (.cells #[.int .i64 0, .int .i64 0, .int .i64 0, .int .i64 0, .int .i64 d, .int .i64 b, .int .i64 m] 50)).alloc (.cells #[.bool false, .bool false, .bool false, .bool false, .bool false, .bool false, .bool false, .bool false, .bool false, .bool false] 79)) := (HB2.out.alloc HB2.out.size _).alloc (by have := HB2.out.size; simp; omega) _
  generalize (w2.alloc (.cells #[.int .i64 0, .int .i64 0, .int .i64 0, .int .i64 0, .int .i64 d, .int .i64 b, .int .i64 m] 50)).alloc (.cells #[.bool false, .bool false, .bool false, .bool false, .bool false, .bool false, .bool false, .bool false, .bool false, .bool false] 79) = w3 at hk1 hk2 hb3 ⊢
  have HW2 := Lib.hid HB2.out.size
  generalize hB0 : w2.heap.size = B0 at hk1 hk2 HW2 ⊢
  generalize hB1 : B0 + 1 = B1 at hk2 ⊢
  have HK3 := Lib.hid hk1
  have HA3 : Hid (w3.heap[B1]? = some (.cells (blL (fun (r : Nat) => frT ps P (r : Int) 0)).toArray 79 (0, 0))) := Lib.hid (by rw [hk2]; simp [blL, frT_zero, List.range, List.range.loop])
  have HB3 := Lib.hid hb3
  have HNB : Hid (B1 = B0 + 1) := Lib.hid hB1.symm
  clear hk1 hk2 hb3 hB0 hB1
  go_loopw [33] (fun iv wr => ∃ k : Nat, k ≤ ps.length ∧ iv = .int .i64 k ∧ wr.heap[B0]? = some (.cells #[.int .i64 0, .int .i64 0, .int .i64 0, .int .i64 0, .int .i64 d, .int .i64 b, .int .i64 m] 50 (0, 0)) ∧ wr.heap[B1]? = some (.cells (blL (fun (r : Nat) => frT ps P (r : Int) k)).toArray 79 (0, 0)) ∧ Below w.heap.size w wr) (fun iv _ => ps.length - (intOf iv).toNat)
  case atStart => exact ⟨0, Nat.zero_le _, rfl, HK3.out, HA3.out, HB3.out⟩
  case round =>
    obtain ⟨k, hk, rfl, hkp, hka, hb⟩ := hrel
    have HBk := Lib.hid hb
    have HKk := Lib.hid hkp
    have HAk := Lib.hid hka
    by_cases hlt : k < ps.length
    · have z1 : (0 : Int) ≤ (k : Int) := by omega
      have z2 : (k : Int) < (ps.length : Int) := by omega
      obtain ⟨b1, o1, rfl, l1, k1⟩ := R1.out _ hb k hlt
      have hst := fun r : Int => frT_step ps P r k hlt
      have hrm := (okLs_at HO.out k hlt).2.2.2.1
      obtain ⟨x, hx⟩ : ∃ x, leD ps k = x := ⟨_, rfl⟩
      rw [← leD_at ps k hlt, hx] at k1 hrm
      rw [hx] at hst
      obtain ⟨rm, hrmn⟩ : ∃ rm : Nat, x.room = (rm : Int) := ⟨x.room.toNat, by omega⟩
      have p0 : wr.cell? ⟨b1, o1 + k * 7, none⟩ = some (.int .i64 x.id) := k1 0 (by omega)
      have p1 : wr.cell? ⟨b1, o1 + k * 7 + 1, none⟩ = some (.int .i64 x.cls) := k1 1 (by omega)
      have p2 : wr.cell? ⟨b1, o1 + k * 7 + 2, none⟩ = some (.int .i64 x.tch) := k1 2 (by omega)
      have p3 : wr.cell? ⟨b1, o1 + k * 7 + 3, none⟩ = some (.int .i64 x.room) := k1 3 (by omega)
      have p4 : wr.cell? ⟨b1, o1 + k * 7 + 4, none⟩ = some (.int .i64 x.day) := k1 4 (by omega)
      have p5 : wr.cell? ⟨b1, o1 + k * 7 + 5, none⟩ = some (.int .i64 x.bgn) := k1 5 (by omega)
      have p6 : wr.cell? ⟨b1, o1 + k * 7 + 6, none⟩ = some (.int .i64 x.mins) := k1 6 (by omega)
      obtain ⟨e0, e1, e2, e3, e4, e5, e6, -, -, -, -, -, -, -⟩ := cell7 hkp
      have hBl : B0 < wr.heap.size := lt_of_block hkp
      have hne : B0 ≠ wr.heap.size := by omega
      have HC := Lib.hid (fun w => HME.out x w)
      change Hid (∀ w : World, Calls Try.prog 63 #[.agg #[.int .i64 x.id, .int .i64 x.cls, .int .i64 x.tch, .int .i64 x.room, .int .i64 x.day, .int .i64 x.bgn, .int .i64 x.mins], .agg #[.int .i64 0, .int .i64 0, .int .i64 0, .int .i64 0, .int .i64 d, .int .i64 b, .int .i64 m]] w fun e w' => e = .returned (.bool (meetB x P)) ∧ Below w.heap.size w w') at HC
      obtain ⟨mb, hmb⟩ : ∃ mb, meetB x P = mb := ⟨_, rfl⟩
      rw [hmb] at HC hst
      have HST := Lib.hid hst
      have HRM := Lib.hid (And.intro hrm hrmn)
      clear k1 hx hst hmb hb hkp hka hrm hrmn
      go_wp2_with fail
      have hb8 : Below wr.heap.size wr (wr.alloc (.cells #[.int .i64 x.id, .int .i64 x.cls, .int .i64 x.tch, .int .i64 x.room, .int .i64 x.day, .int .i64 x.bgn, .int .i64 x.mins] 50)) := (Below.refl _ _).alloc (Nat.le_refl _) _
      have hk8 : (wr.alloc (.cells #[.int .i64 x.id, .int .i64 x.cls, .int .i64 x.tch, .int .i64 x.room, .int .i64 x.day, .int .i64 x.bgn, .int .i64 x.mins] 50)).heap[wr.heap.size]? = some (.cells #[.int .i64 x.id, .int .i64 x.cls, .int .i64 x.tch, .int .i64 x.room, .int .i64 x.day, .int .i64 x.bgn, .int .i64 x.mins] 50 (0, 0)) := alloc_at rfl
      generalize wr.alloc (.cells #[.int .i64 x.id, .int .i64 x.cls, .int .i64 x.tch, .int .i64 x.room, .int .i64 x.day, .int .i64 x.bgn, .int .i64 x.mins] 50) = w8 at hb8 hk8 ⊢
      refine (HC.out w8).mono ?_
      rintro e w4 ⟨rfl, hb9⟩
      have hb4 : Below wr.heap.size wr w4 := hb8.trans (hb9.mono hb8.size)
      have HB4 := Lib.hid (HBk.out.trans (hb4.mono HBk.out.size))
      have HK4 := Lib.hid ((hb4.block _ (lt_of_block HKk.out)).trans HKk.out)
      have HA4 := Lib.hid ((hb4.block _ (lt_of_block HAk.out)).trans HAk.out)
      have HX4 := Lib.hid ((hb9.block _ (lt_of_block hk8)).trans hk8)
      have HX5 : Hid (B1 < wr.heap.size) := Lib.hid (lt_of_block HAk.out)
      clear hb8 hk8 hb9 hb4 p0 e0 p1 e1 p2 e2 p3 e3 p4 e4 p5 e5 p6 e6 hne hBl
      generalize wr.heap.size = B8 at HX4 HX5 ⊢
      cases mb with
      | false =>
        have HE : Hid ((blL (fun (r : Nat) => frT ps P (r : Int) (k + 1))) = blL (fun (r : Nat) => frT ps P (r : Int) k)) := Lib.hid (by congr 1; funext r; rw [HST.out]; simp)
        go_wp2_with fail
        go_roundw
        case rel => exact ⟨k + 1, by omega, by go_num, HK4.out, by rw [HE.out]; exact HA4.out, HB4.out⟩
        case measure => simp [intOf]; omega
      | true =>
        have hrr := HRM.out
        have y3 : w4.cell? ⟨B8, 3, none⟩ = some (.int .i64 (rm : Int)) := by rw [← hrr.2]; exact (cell7 HX4.out).2.2.2.1
        have hcl := cell_list HA4.out (i := rm) (by simp [blL]; omega)
        obtain ⟨u, hu⟩ : ∃ u, w4.cell? ⟨B1, rm, none⟩ = some u := ⟨_, hcl.1⟩
        have hfz := hcl.2
        have z3 : (0 : Int) ≤ (rm : Int) := by omega
        have z4 : (rm : Int) < 10 := by omega
        have HE2 : ∀ i : Nat, i ≠ rm → frT ps P (i : Int) (k + 1) = frT ps P (i : Int) k := by
          intro i hi
          have hx : decide ((rm : Int) = (i : Int)) = false := decide_eq_false (by omega)
          rw [HST.out, hrr.2, hx]; simp
        have HE : Hid ((blL (fun (r : Nat) => frT ps P (r : Int) k)).set rm (.bool true) = blL (fun (r : Nat) => frT ps P (r : Int) (k + 1))) := Lib.hid (blL_set _ _ rm true (by rw [HST.out, hrr.2]; simp) HE2)
        clear HE2
        clear hcl hrr
        go_wp2_with fail
        have HA5 : Hid ((w4.setCell ⟨B1, rm, none⟩ (.bool true)).heap[B1]? = some (.cells (blL (fun (r : Nat) => frT ps P (r : Int) (k + 1))).toArray 79 (0, 0))) := Lib.hid (by rw [← HE.out]; exact set_list HA4.out _)
        have HK5 : Hid ((w4.setCell ⟨B1, rm, none⟩ (.bool true)).heap[B0]? = some (.cells #[.int .i64 0, .int .i64 0, .int .i64 0, .int .i64 0, .int .i64 d, .int .i64 b, .int .i64 m] 50 (0, 0))) := Lib.hid (by
          rw [← HK4.out]; exact heap_setCell_other _ _ _ _ (by show B0 ≠ B1; have := HNB.out; omega))
        have HB5 := Lib.hid (HB4.out.setCell (p := ⟨B1, rm, none⟩) (show w.heap.size ≤ B1 by have := HNB.out; have := HW2.out; omega) (.bool true))
        go_roundw
        case rel => exact ⟨k + 1, by omega, by go_num, HK5.out, HA5.out, HB5.out⟩
        case measure => simp [intOf]; omega
    · obtain rfl : k = ps.length := by omega
      clear hkp hka hb
      go_wp2_with fail
      have hoa : OutA w.heap.size B1 (B1 + 1) (wr.alloc (.cells #[] 3)) 3 1 wr.heap.size 0 0 [] := outA_made wr 3 1 HBk.out.size (by have := lt_of_block HAk.out; omega)
      have hb5 : Below w.heap.size w (wr.alloc (.cells #[] 3)) := HBk.out.alloc HBk.out.size _
      have ha5 : (wr.alloc (.cells #[] 3)).heap[B1]? = some (.cells (blL (fun (r : Nat) => frT ps P (r : Int) ps.length)).toArray 79 (0, 0)) := (alloc_old (lt_of_block HAk.out)).trans HAk.out
      generalize wr.alloc (.cells #[] 3) = w5 at hoa hb5 ha5 ⊢
      generalize wr.heap.size = G0 at hoa ⊢
      have HOA := Lib.hid hoa
      have HB5 := Lib.hid hb5
      have HA5 := Lib.hid ha5
      clear hoa hb5 ha5
      go_loopw [14, 15] (fun out rv wr => ∃ (n g cc L : Nat), n ≤ 9 ∧ rv = .int .i64 ((n + 1 : Nat) : Int) ∧ out = .slice (some ⟨g, 0, none⟩) L cc ∧ L = (frL ps P n).length ∧ OutA w.heap.size B1 (B1 + 1) wr 3 1 g L cc (flatC inC (frL ps P n)) ∧ Below w.heap.size w wr ∧ wr.heap[B1]? = some (.cells (blL (fun (r : Nat) => frT ps P (r : Int) ps.length)).toArray 79 (0, 0))) (fun _ rv _ => 20 - (intOf rv).toNat)
      case atStart => exact ⟨0, G0, 0, 0, by omega, rfl, rfl, rfl, HOA.out, HB5.out, HA5.out⟩
      case round =>
        obtain ⟨n, g, cc, L, hn, rfl, rfl, hL, hoa, hb, hka⟩ := hrel
        rename World => wq
        have HB6 := Lib.hid hb
        have HO6 := Lib.hid hoa
        have HA6 := Lib.hid hka
        have HL6 := Lib.hid hL
        have hfl : L ≤ 9 := by have := frL_len ps P n; omega
        clear hoa hb hL
        by_cases h9 : n < 9
        · have z1 : ((n + 1 : Nat) : Int) ≤ 9 := by omega
          have hcl := cell_list hka (i := n + 1) (by simp [blL]; omega)
          rw [blL_at] at hcl
          obtain ⟨T, hT⟩ : ∃ T, frT ps P ((n + 1 : Nat) : Int) ps.length = T := ⟨_, rfl⟩
          rw [hT] at hcl
          have HTT : Hid (frT ps P ((n : Int) + 1) ps.length = T) := Lib.hid (by rw [← hT]; congr 1)
          have q1 : wq.cell? ⟨B1, n + 1, none⟩ = some (.bool T) := hcl.1
          obtain ⟨r, hr⟩ : ∃ r : Nat, n + 1 = r := ⟨_, rfl⟩
          have HRR := Lib.hid hr
          rw [hr] at z1 q1 ⊢
          have z3 : (0 : Int) ≤ (r : Int) := by omega
          have z4 : (r : Int) < 10 := by omega
          clear hcl hT hka hr
          cases T with
          | true =>
            have HE : Hid (frL ps P (n + 1) = frL ps P n) := Lib.hid (by rw [frL, if_pos HTT.out])
            go_wp2_with fail
            go_roundw
            case rel => exact ⟨n + 1, g, cc, L, by omega, by rw [HRR.out]; go_num, rfl, by rw [HE.out]; exact HL6.out, by rw [HE.out]; exact HO6.out, HB6.out, HA6.out⟩
            case measure => simp [intOf]; omega
          | false =>
            have HE : Hid (frL ps P (n + 1) = frL ps P n ++ [(r : Int)]) := Lib.hid (by rw [frL, if_neg (by rw [HTT.out]; simp)]; have := HRR.out; congr 2; omega)
            go_wp2_with (at_builtin; refine wpList_push (wr := wq) rfl _ _ 35 rfl w.heap.size B1 (B1 + 1) w 3 i0 (.int .i64 0) 1 8 Try.underlying35 hi hz0 hz1 hz2 rfl (by decide) g L cc (flatC inC (frL ps P n)) [.int .i64 (r : Int)] rfl rfl rfl ?c1 ?c2 (by decide) HO6.out HB6.out ?_)
            case c1 => intro u hu; rw [List.mem_singleton.1 hu]; rfl
            case c2 => omega
            intro g3 c3 w7 hO3 hB3 hK3
            have HO7 : Hid (OutA w.heap.size B1 (B1 + 1) w7 3 1 g3 (L + 1) c3 (flatC inC (frL ps P (n + 1)))) := Lib.hid (by rw [HE.out, flatC_app]; exact hO3)
            have HB7 := Lib.hid hB3
            have HA7 : Hid (w7.heap[B1]? = some (.cells (blL (fun (r : Nat) => frT ps P (r : Int) ps.length)).toArray 79 (0, 0))) := Lib.hid ((hK3 B1 (Nat.le_refl _) (Nat.lt_succ_self _)).trans HA6.out)
            clear hO3 hB3 hK3
            go_wp2_with fail
            go_roundw
            case rel => exact ⟨n + 1, g3, c3, L + 1, by omega, by rw [HRR.out]; go_num, rfl, by rw [HE.out, List.length_append, ← HL6.out]; rfl, HO7.out, HB7.out, HA7.out⟩
            case measure => simp [intOf]; omega
        · obtain rfl : n = 9 := by omega
          clear hka
          go_wp2_with fail
          go_ret2
          refine ⟨⟨_, rfl, ?_⟩, HB6.out⟩
          rw [HQ.out, ← HL6.out]
          exact HO6.out.own
theorem implFree_any (v : Value) (ps : List Les) (d b m : Int) (w : World) (h : RowsR 7 lesC w v ps) (qs : List Int) (t : Bool) (hf : FrF ps d b m qs t) :
    Calls Try.prog 21 #[v, .int .i64 d, .int .i64 b, .int .i64 m] w fun e w' => (∃ sq, e = .returned (.tuple #[sq, .bool t]) ∧ w'.ownsRow w.heap.size 3 1 sq qs.length (flatC inC (qs))) ∧ Below w.heap.size w w' := by
  rcases hf with ⟨h1, h2, rfl⟩ | ⟨h1, h2, h3⟩
  · exact implFree_ok v ps d b m w h h1 qs h2
  · exact implFree_no v ps d b m w h qs t h1 ⟨h2, h3⟩
end Go.Proofs.Ytblbeoeklkcamaa
