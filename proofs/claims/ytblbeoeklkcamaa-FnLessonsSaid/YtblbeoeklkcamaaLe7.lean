/- The model's FreeRooms and TeacherHours. -/
import Derived.Test.YtblbeoeklkcamaaLe3
import Derived.Test.YtblbeoeklkcamaaTf
import Derived.Test.YtblbeoeklkcamaaPp
import Derived.Test.YtblbeoeklkcamaaTg
namespace Go.Proofs.Ytblbeoeklkcamaa
set_option linter.unusedVariables false
open Go.RowKit

set_option maxRecDepth 100000 in
set_option maxHeartbeats 1600000 in
theorem specFree_no (v : Value) (ps : List Les) (d b m : Int) (w : World) (h : RowsR 7 lesC w v ps) (qs : List Int) (t : Bool) (hn : ¬ okFr ps d b m) (hq : qs = [] ∧ t = false) :
    Calls Try.prog 22 #[v, .int .i64 d, .int .i64 b, .int .i64 m] w fun e w' => (∃ sq, e = .returned (.tuple #[sq, .bool t]) ∧ w'.ownsRow w.heap.size 3 1 sq qs.length (flatC inC (qs))) ∧ Below w.heap.size w w' := by
  have HT := Lib.hid hq
  have HR := Lib.hid h
  obtain ⟨a, cp, rfl⟩ := h.form
  clear h hq
  by_cases ho : okLs ps
  · have HO := Lib.hid ho
    by_cases hd : 0 ≤ d ∧ d ≤ 6
    · have HD := Lib.hid hd
      have HTM : Hid (¬ okTm b m) := Lib.hid (fun e => hn ⟨ho, hd, e⟩)
      clear hn ho hd
      go_enter Try.func22, Try.ntmps22
      go_wp2_with fail
      have hb0 : Below w.heap.size w (w.alloc (.cells #[] 3)) := (Below.refl _ _).alloc (Nat.le_refl _) _
      have ho0 := World.ownsRow_made (base := w.heap.size) (e := 3) (size := 1) w #[] 0 (Nat.le_refl _) (Nat.zero_le _) (by simp)
      generalize w.alloc (.cells #[] 3) = w1 at hb0 ho0 ⊢
      have HB1 := Lib.hid hb0
      have HO1 := Lib.hid ho0
      clear hb0 ho0
      refine (l11Good_yes _ ps _ (HR.out.below HB1.out (Nat.le_refl _)) HO.out).mono ?_
      rintro e w2 ⟨rfl, hb2⟩
      have HB2 := Lib.hid (HB1.out.trans (hb2.mono HB1.out.size))
      have HO2 := Lib.hid (own_below HO1.out hb2)
      clear hb2
      go_wp2_with fail
      refine (l11Week_yes _ _ HD.out).mono ?_
      rintro e w' ⟨rfl, hw⟩
      subst w'
      go_wp2_with fail
      refine (l11Time_any b m _ false ⟨fun e => by simp at e, fun e => absurd e HTM.out⟩).mono ?_
      rintro e w3 ⟨rfl, hb3⟩
      have HB3 := Lib.hid (HB2.out.trans (hb3.mono HB2.out.size))
      have HO3 := Lib.hid (own_below HO2.out hb3)
      clear hb3
      go_wp2_with fail
      go_ret2
      refine ⟨⟨_, by rw [HT.out.2]; rfl, ?_⟩, HB3.out⟩
      rw [HT.out.1]
      exact HO3.out
    · have HD := Lib.hid hd
      clear hn ho hd
      go_enter Try.func22, Try.ntmps22
      go_wp2_with fail
      have hb0 : Below w.heap.size w (w.alloc (.cells #[] 3)) := (Below.refl _ _).alloc (Nat.le_refl _) _
      have ho0 := World.ownsRow_made (base := w.heap.size) (e := 3) (size := 1) w #[] 0 (Nat.le_refl _) (Nat.zero_le _) (by simp)
      generalize w.alloc (.cells #[] 3) = w1 at hb0 ho0 ⊢
      have HB1 := Lib.hid hb0
      have HO1 := Lib.hid ho0
      clear hb0 ho0
      refine (l11Good_yes _ ps _ (HR.out.below HB1.out (Nat.le_refl _)) HO.out).mono ?_
      rintro e w2 ⟨rfl, hb2⟩
      have HB2 := Lib.hid (HB1.out.trans (hb2.mono HB1.out.size))
      have HO2 := Lib.hid (own_below HO1.out hb2)
      clear hb2
      go_wp2_with fail
      refine (l11Week_no _ _ HD.out).mono ?_
      rintro e w' ⟨rfl, hw⟩
      subst w'
      go_wp2_with fail
      go_ret2
      refine ⟨⟨_, by rw [HT.out.2]; rfl, ?_⟩, HB2.out⟩
      rw [HT.out.1]
      exact HO2.out
  · have HO := Lib.hid ho
    clear hn ho
    go_enter Try.func22, Try.ntmps22
    go_wp2_with fail
    have hb0 : Below w.heap.size w (w.alloc (.cells #[] 3)) := (Below.refl _ _).alloc (Nat.le_refl _) _
    have ho0 := World.ownsRow_made (base := w.heap.size) (e := 3) (size := 1) w #[] 0 (Nat.le_refl _) (Nat.zero_le _) (by simp)
    generalize w.alloc (.cells #[] 3) = w1 at hb0 ho0 ⊢
    have HB1 := Lib.hid hb0
    have HO1 := Lib.hid ho0
    clear hb0 ho0
    refine (l11Good_no _ ps _ (HR.out.below HB1.out (Nat.le_refl _)) HO.out).mono ?_
    rintro e w2 ⟨rfl, hb2⟩
    have HB2 := Lib.hid (HB1.out.trans (hb2.mono HB1.out.size))
    have HO2 := Lib.hid (own_below HO1.out hb2)
    clear hb2
    go_wp2_with fail
    go_ret2
    refine ⟨⟨_, by rw [HT.out.2]; rfl, ?_⟩, HB2.out⟩
    rw [HT.out.1]
    exact HO2.out
set_option maxRecDepth 100000 in
set_option maxHeartbeats 3200000 in
theorem specFree_ok (v : Value) (ps : List Les) (d b m : Int) (w : World) (h : RowsR 7 lesC w v ps) (hok : okFr ps d b m) (qs : List Int) (hq : qs = frL ps ⟨0, 0, 0, 0, d, b, m⟩ 9) :
    Calls Try.prog 22 #[v, .int .i64 d, .int .i64 b, .int .i64 m] w fun e w' => (∃ sq, e = .returned (.tuple #[sq, .bool true]) ∧ w'.ownsRow w.heap.size 3 1 sq qs.length (flatC inC (qs))) ∧ Below w.heap.size w w' := by
  obtain ⟨i0, hi, hz0, hz1, hz2⟩ := info_parts Try.infoInL
  obtain ⟨ho, hd, htm⟩ := hok
  have hl := okLs_len ho
  have HR := Lib.hid h
  have HO := Lib.hid ho
  have HD := Lib.hid hd
  have HTM := Lib.hid htm
  obtain ⟨P, hP⟩ : ∃ P : Les, ⟨0, 0, 0, 0, d, b, m⟩ = P := ⟨_, rfl⟩
  rw [hP] at hq
  have HQ := Lib.hid hq
  have HME : Hid (∀ (x : Les) (w : World), Calls Try.prog 66 #[lesV x, .agg #[.int .i64 0, .int .i64 0, .int .i64 0, .int .i64 0, .int .i64 d, .int .i64 b, .int .i64 m]] w fun e w' => e = .returned (.bool (meetB x P)) ∧ Below w.heap.size w w') := Lib.hid (fun x w => by rw [← hP]; exact specMeet_any x ⟨0, 0, 0, 0, d, b, m⟩ w)
  obtain ⟨a, cp, rfl⟩ := h.form
  have R1 := Lib.hid h.at
  clear h ho hd htm hq hP
  go_enter Try.func22, Try.ntmps22
  go_wp2_with fail
  have hb0 : Below w.heap.size w (w.alloc (.cells #[] 3)) := (Below.refl _ _).alloc (Nat.le_refl _) _
  have ho0 := World.ownsRow_made (base := w.heap.size) (e := 3) (size := 1) w #[] 0 (Nat.le_refl _) (Nat.zero_le _) (by simp)
  generalize w.alloc (.cells #[] 3) = w1 at hb0 ho0 ⊢
  have HB1 := Lib.hid hb0
  have HO1 := Lib.hid ho0
  clear hb0 ho0
  refine (l11Good_yes _ ps _ (HR.out.below HB1.out (Nat.le_refl _)) HO.out).mono ?_
  rintro e w2 ⟨rfl, hb2⟩
  have HB2 := Lib.hid (HB1.out.trans (hb2.mono HB1.out.size))
  have HO2 := Lib.hid (own_below HO1.out hb2)
  clear hb2
  go_wp2_with fail
  refine (l11Week_yes _ _ HD.out).mono ?_
  rintro e w' ⟨rfl, hw⟩
  subst w'
  go_wp2_with fail
  refine (l11Time_any b m _ true ⟨fun _ => HTM.out, fun _ => rfl⟩).mono ?_
  rintro e w3 ⟨rfl, hb3⟩
  have HB3 := Lib.hid (HB2.out.trans (hb3.mono HB2.out.size))
  have HO3 := Lib.hid (own_below HO2.out hb3)
  clear hb3
  go_wp2_with fail
  go_loopw [10, 11] (fun out rv wr => ∃ n : Nat, n ≤ 9 ∧ rv = .int .i64 ((n + 1 : Nat) : Int) ∧ wr.ownsRow w.heap.size 3 1 out (frL ps P n).length (flatC inC (frL ps P n)) ∧ Below w.heap.size w wr) (fun _ rv _ => 20 - (intOf rv).toNat)
  case atStart => exact ⟨0, by omega, rfl, HO3.out, HB3.out⟩
  case round =>
    obtain ⟨n, hn, rfl, hown, hb⟩ := hrel
    rename World => wo
    obtain ⟨oa, oc, hform⟩ := own_form hown
    subst hform
    have HBo := Lib.hid hb
    have HOo := Lib.hid hown
    have hfl := frL_len ps P n
    clear hb hown
    by_cases h9 : n < 9
    · have z1 : ((n + 1 : Nat) : Int) ≤ 9 := by omega
      obtain ⟨r, hr⟩ : ∃ r : Int, ((n + 1 : Nat) : Int) = r := ⟨_, rfl⟩
      have HRR : Hid (r = (n : Int) + 1) := Lib.hid (by omega)
      have HR9 : Hid (r + 1 = ((n + 1 + 1 : Nat) : Int)) := Lib.hid (by omega)
      rw [hr] at z1 ⊢
      have hrw : IntKind.i64.wrap (r + 1) = r + 1 := by rw [IntKind.wrap_i64]; omega
      have HRB : Hid (1 ≤ r ∧ r ≤ 9) := Lib.hid (by omega)
      clear hr
      go_wp2_with fail
      go_loopw [12, 13] (fun fv iv wr => ∃ i : Nat, i ≤ ps.length ∧ iv = .int .i64 i ∧ fv = .bool (!frT ps P r i) ∧ Below wo.heap.size wo wr) (fun _ iv _ => ps.length - (intOf iv).toNat)
      case atStart => exact ⟨0, Nat.zero_le _, rfl, by rw [frT_zero]; rfl, Below.refl _ _⟩
      case round =>
        obtain ⟨i, hi', rfl, rfl, hb⟩ := hrel
        rename World => wi
        have HBi := Lib.hid hb
        have HBW : Hid (Below w.heap.size w wi) := Lib.hid (HBo.out.trans (hb.mono HBo.out.size))
        clear hb
        by_cases hlt : i < ps.length
        · have y1 : (0 : Int) ≤ (i : Int) := by omega
          have y2 : (i : Int) < (ps.length : Int) := by omega
          obtain ⟨b1, o1, rfl, l1, k1⟩ := R1.out _ HBW.out i hlt
          have hst := frT_step ps P r i hlt
          obtain ⟨x, hx⟩ : ∃ x, leD ps i = x := ⟨_, rfl⟩
          rw [← leD_at ps i hlt, hx] at k1
          rw [hx] at hst
          have p0 : wi.cell? ⟨b1, o1 + i * 7, none⟩ = some (.int .i64 x.id) := k1 0 (by omega)
          have p1 : wi.cell? ⟨b1, o1 + i * 7 + 1, none⟩ = some (.int .i64 x.cls) := k1 1 (by omega)
          have p2 : wi.cell? ⟨b1, o1 + i * 7 + 2, none⟩ = some (.int .i64 x.tch) := k1 2 (by omega)
          have p3 : wi.cell? ⟨b1, o1 + i * 7 + 3, none⟩ = some (.int .i64 x.room) := k1 3 (by omega)
          have p4 : wi.cell? ⟨b1, o1 + i * 7 + 4, none⟩ = some (.int .i64 x.day) := k1 4 (by omega)
          have p5 : wi.cell? ⟨b1, o1 + i * 7 + 5, none⟩ = some (.int .i64 x.bgn) := k1 5 (by omega)
          have p6 : wi.cell? ⟨b1, o1 + i * 7 + 6, none⟩ = some (.int .i64 x.mins) := k1 6 (by omega)
          have HC := Lib.hid (fun w => HME.out x w)
          change Hid (∀ w : World, Calls Try.prog 66 #[.agg #[.int .i64 x.id, .int .i64 x.cls, .int .i64 x.tch, .int .i64 x.room, .int .i64 x.day, .int .i64 x.bgn, .int .i64 x.mins], .agg #[.int .i64 0, .int .i64 0, .int .i64 0, .int .i64 0, .int .i64 d, .int .i64 b, .int .i64 m]] w fun e w' => e = .returned (.bool (meetB x P)) ∧ Below w.heap.size w w') at HC
          obtain ⟨mb, hmb⟩ : ∃ mb, meetB x P = mb := ⟨_, rfl⟩
          rw [hmb] at HC hst
          obtain ⟨T, hT⟩ : ∃ T, frT ps P r i = T := ⟨_, rfl⟩
          rw [hT] at hst ⊢
          have HST := Lib.hid hst
          clear k1 hx hst hmb hT
          by_cases hrm : x.room = r
          · have hrm' : (x.room == r) = true := by simpa using hrm
            have HS2 : Hid (frT ps P r (i + 1) = (T || mb)) := Lib.hid (by rw [HST.out]; simp [hrm])
            clear hrm
            go_wp2_with fail
            refine (HC.out _).mono ?_
            rintro e w4 ⟨rfl, hb4⟩
            have HB4 := Lib.hid (HBi.out.trans (hb4.mono HBi.out.size))
            clear hb4 p0 p1 p2 p3 p4 p5 p6
            cases mb with
            | true =>
              go_wp2_with fail
              go_roundw
              case rel => exact ⟨i + 1, by omega, by go_num, by rw [HS2.out, Bool.or_true]; rfl, HB4.out⟩
              case measure => simp [intOf]; omega
            | false =>
              go_wp2_with fail
              go_roundw
              case rel => exact ⟨i + 1, by omega, by go_num, by rw [HS2.out, Bool.or_false], HB4.out⟩
              case measure => simp [intOf]; omega
          · have hrm' : (x.room == r) = false := by simpa using hrm
            have HS2 : Hid (frT ps P r (i + 1) = T) := Lib.hid (by rw [HST.out]; simp [hrm])
            clear hrm
            go_wp2_with fail
            go_roundw
            case rel => exact ⟨i + 1, by omega, by go_num, by rw [HS2.out], HBi.out⟩
            case measure => simp [intOf]; omega
        · obtain rfl : i = ps.length := by omega
          have HO4 := Lib.hid (own_below HOo.out HBi.out)
          obtain ⟨T, hT⟩ : ∃ T, frT ps P r ps.length = T := ⟨_, rfl⟩
          have HTT := Lib.hid hT
          rw [hT]
          clear hT
          cases T with
          | true =>
            have HE : Hid (frL ps P (n + 1) = frL ps P n) := Lib.hid (by rw [frL, if_pos (by rw [← HRR.out]; exact HTT.out)])
            go_wp2_with fail
            go_roundw
            case rel => exact ⟨n + 1, by omega, by rw [← HR9.out], by rw [HE.out]; exact HO4.out, HBW.out⟩
            case measure => have := HRB.out; simp [intOf]; omega
          | false =>
            have HE : Hid (frL ps P (n + 1) = frL ps P n ++ [r]) := Lib.hid (by rw [frL, if_neg (by rw [← HRR.out, HTT.out]; simp), HRR.out])
            go_wp2_with (at_builtin; refine wpList_append_own _ rfl _ _ 35 rfl w.heap.size 3 i0 (.int .i64 0) 1 8 Try.underlying35 hi hz0 hz1 hz2 rfl (by decide) _ _ _ rfl (HO4.out.alloc _) ⟨wi.heap.size, 0, none⟩ 1 1 [.int .i64 r] rfl rfl ?c1 ?c2 ?c3 ?c4 ?c5 ?_)
            case c1 => exact one_new _ _ _
            case c2 => intro u hu; rw [List.mem_singleton.1 hu]; rfl
            case c3 => unfold maxLen; omega
            case c4 => omega
            case c5 => have := HBW.out.size; simp; omega
            intro v5 w5 hown5 hgrow5 _
            have HO5 := Lib.hid hown5
            have HB5 : Hid (Below w.heap.size w w5) := Lib.hid ((HBW.out.alloc HBW.out.size _).grown hgrow5 (by have := HBW.out.size; simp; omega) (fun q hq => (HO4.out.lt q hq).1))
            clear hown5 hgrow5
            go_wp2_with fail
            go_roundw
            case rel =>
              refine ⟨n + 1, by omega, by rw [← HR9.out], ?_, HB5.out⟩
              rw [HE.out, flatC_app, List.length_append]
              have := HO5.out
              simpa [flatC, inC] using this
            case measure => have := HRB.out; simp [intOf]; omega
    · obtain rfl : n = 9 := by omega
      go_wp2_with fail
      go_ret2
      refine ⟨⟨_, rfl, ?_⟩, HBo.out⟩
      rw [HQ.out]
      exact HOo.out
theorem specFree_any (v : Value) (ps : List Les) (d b m : Int) (w : World) (h : RowsR 7 lesC w v ps) (qs : List Int) (t : Bool) (hf : FrF ps d b m qs t) :
    Calls Try.prog 22 #[v, .int .i64 d, .int .i64 b, .int .i64 m] w fun e w' => (∃ sq, e = .returned (.tuple #[sq, .bool t]) ∧ w'.ownsRow w.heap.size 3 1 sq qs.length (flatC inC (qs))) ∧ Below w.heap.size w w' := by
  rcases hf with ⟨h1, h2, rfl⟩ | ⟨h1, h2, h3⟩
  · exact specFree_ok v ps d b m w h h1 qs h2
  · exact specFree_no v ps d b m w h qs t h1 ⟨h2, h3⟩
end Go.Proofs.Ytblbeoeklkcamaa
