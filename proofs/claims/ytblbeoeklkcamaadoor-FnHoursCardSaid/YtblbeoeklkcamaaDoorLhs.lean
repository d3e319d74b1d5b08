/- The law FnHours. -/
import Derived.Test.YtblbeoeklkcamaaDoorVlh
import Derived.Test.YtblbeoeklkcamaaDoorTch
import Derived.Test.YtblbeoeklkcamaaDoorDlf
import Derived.Test.YtblbeoeklkcamaaDoorLi3
import Derived.Test.YtblbeoeklkcamaaDoorLi6
import Derived.Test.YtblbeoeklkcamaaDoorLi9
import Derived.Test.YtblbeoeklkcamaaDoorLi10
import Derived.Test.YtblbeoeklkcamaaDoorLe3
import Derived.Test.YtblbeoeklkcamaaDoorLe5
import Derived.Test.YtblbeoeklkcamaaDoorLe8
import Derived.Test.YtblbeoeklkcamaaDoorLe9
import Derived.Test.YtblbeoeklkcamaaDoorLessono
namespace Go.Proofs.YtblbeoeklkcamaaDoor
set_option linter.unusedVariables false
open Go.RowKit
set_option linter.unusedSimpArgs false

theorem gpF_ge {ps : List Les} {c g : Int} {t : Bool} (h : GpF ps c g t) : 0 ≤ g := by
  rcases h with ⟨_, rfl, _⟩ | ⟨_, rfl, _⟩
  · exact gpA_ge ps c 7
  · exact Int.le_refl _
theorem implHours_any (v : Value) (ps : List Les) (w : World) (h : RowsR 7 lesC w v ps) (ys : List (List Int)) (t : Bool) (hp : HoF ps ys t) :
    Calls Tryd.prog 7 #[v] w fun e w' => (∃ sq, e = .returned (.tuple #[sq, .bool t]) ∧ SSR w' sq ys) ∧ Below w.heap.size w w' := by
  rcases hp with ⟨ho, rfl, rfl⟩ | ⟨ho, rfl, rfl⟩
  · exact (implHours_ok v ps w h ho).mono fun e w' ⟨⟨sq, vs, h1, h2⟩, h3⟩ => ⟨⟨sq, h1, h2.reads⟩, h3⟩
  · exact (implHours_no v ps w h ho).mono fun e w' ⟨⟨sq, vs, h1, h2⟩, h3⟩ => ⟨⟨sq, h1, h2.reads⟩, h3⟩
theorem specHours_any (v : Value) (ps : List Les) (w : World) (h : RowsR 7 lesC w v ps) (ys : List (List Int)) (t : Bool) (hp : HoF ps ys t) :
    Calls Tryd.prog 8 #[v] w fun e w' => (∃ sq, e = .returned (.tuple #[sq, .bool t]) ∧ SSR w' sq ys) ∧ Below w.heap.size w w' := by
  rcases hp with ⟨ho, rfl, rfl⟩ | ⟨ho, rfl, rfl⟩
  · exact (specHours_ok v ps w h ho).mono fun e w' ⟨⟨sq, vs, h1, h2⟩, h3⟩ => ⟨⟨sq, h1, h2.reads⟩, h3⟩
  · exact (specHours_no v ps w h ho).mono fun e w' ⟨⟨sq, vs, h1, h2⟩, h3⟩ => ⟨⟨sq, h1, h2.reads⟩, h3⟩
theorem text_same (v0 v1 v2 v3 v4 v5 v6 : Int) : ∃ s t, (∀ w, Calls Tryd.prog 20 #[.agg #[.int .i64 v0, .int .i64 v1, .int .i64 v2, .int .i64 v3, .int .i64 v4, .int .i64 v5, .int .i64 v6]] w fun e w' => e = .returned (.tuple #[.string s, .bool t]) ∧ Below w.heap.size w w') ∧ (∀ w, Lib.TabIs Tryd.prog w "internal/strconv.uint64pow10" .u64 Lib.pow10Tab → TabW w → Calls Tryd.prog 19 #[.agg #[.int .i64 v0, .int .i64 v1, .int .i64 v2, .int .i64 v3, .int .i64 v4, .int .i64 v5, .int .i64 v6]] w fun e w' => e = .returned (.tuple #[.string s, .bool t]) ∧ Below w.heap.size w w') ∧ (∀ w, Calls Tryd.prog 21 #[.agg #[.int .i64 v0, .int .i64 v1, .int .i64 v2, .int .i64 v3, .int .i64 v4, .int .i64 v5, .int .i64 v6]] w fun e w' => e = .returned (.bool t) ∧ Below w.heap.size w w') := by
  by_cases h : okLe ⟨v0, v1, v2, v3, v4, v5, v6⟩
  · exact ⟨_, true, fun w => specText_yes ⟨v0, v1, v2, v3, v4, v5, v6⟩ w h, fun w h1 h2 => implText_yes ⟨v0, v1, v2, v3, v4, v5, v6⟩ w h h1 h2, fun w => implIsLesson_any ⟨v0, v1, v2, v3, v4, v5, v6⟩ w true ⟨fun _ => h, fun _ => rfl⟩⟩
  · exact ⟨_, false, fun w => specText_no ⟨v0, v1, v2, v3, v4, v5, v6⟩ w h, fun w _ _ => implText_no ⟨v0, v1, v2, v3, v4, v5, v6⟩ w h, fun w => implIsLesson_any ⟨v0, v1, v2, v3, v4, v5, v6⟩ w false ⟨fun e => by simp at e, fun e => absurd e h⟩⟩
set_option maxRecDepth 100000 in
set_option maxHeartbeats 25600000 in
theorem lawHours (w : World) (ad : Option Addr) (cp : Nat) (L : List UInt8) (h : SlR w (.slice ad L.length cp) (L.map fun c => .int .u8 (c.toNat : Int))) (ht : Lib.TabIs Tryd.prog w "internal/strconv.uint64pow10" .u64 Lib.pow10Tab) (hw : TabW w) :
    Calls Tryd.prog 3 #[.slice ad L.length cp] w fun e w' => e = .returned (.bool true) ∧ Below w.heap.size w w' := by
  have hm : L.length ≤ 9223372036854775807 := by
    obtain ⟨a, c, e, ⟨m, _⟩, _⟩ := h
    rw [List.length_map] at m
    exact m
  have HT := Lib.hid ht
  have HW := Lib.hid hw
  clear ht hw
  have HB0 : Hid (Below w.heap.size w w) := Lib.hid (Below.refl _ _)
  have HRk0 := Lib.hid (h)
  clear h
  by_cases hbig : (65536 : Int) < (L.length : Int)
  · go_enter Tryd.func3, Tryd.ntmps3
    go_wp2_with fail
    refine (rBig_any ad L.length cp _ true (decide_eq_true hbig)).mono ?_
    rintro e w' ⟨rfl, hw⟩
    subst w'
    go_wp2_with fail
    go_ret
    exact ⟨rfl, Below.refl _ _⟩
  · go_enter Tryd.func3, Tryd.ntmps3
    go_wp2_with fail
    refine (rBig_any ad L.length cp _ false (decide_eq_false (by omega))).mono ?_
    rintro e w' ⟨rfl, hw⟩
    subst w'
    go_wp2_with fail
    refine (drawTeacherHours_any _ L _ HRk0.out).mono ?_
    rintro e w1 ⟨⟨v, ps, rfl, ho, hl⟩, hb⟩
    have HB1 : Hid (Below w.heap.size w w1) := Lib.hid (HB0.out.trans (hb.mono HB0.out.size))
    have HZ1 : Hid (w.heap.size ≤ w1.heap.size) := Lib.hid hb.size
    have HRk1 := Lib.hid (HRk0.out.below HB1.out (Nat.le_refl _))
    clear hb
    obtain ⟨qap, qcp, rfl⟩ := ho.form
    have HRp1 := Lib.hid (ho)
    have HBs1_1 : Hid (Below w1.heap.size w1 w1) := Lib.hid (Below.refl _ _)
    clear ho
    obtain ⟨ys, t, hf⟩ := hoF_or ps
    have HF := Lib.hid hf
    have hnet : (t != t) = false := by simp
    clear hf
    go_wp2_with fail
    refine (implHours_any _ ps _ HRp1.out ys t HF.out).mono ?_
    rintro e w2 ⟨⟨v, rfl, ho⟩, hb⟩
    have HB2 : Hid (Below w.heap.size w w2) := Lib.hid (HB1.out.trans (hb.mono HB1.out.size))
    have HZ2 : Hid (w1.heap.size ≤ w2.heap.size) := Lib.hid hb.size
    have HRk2 := Lib.hid (HRk0.out.below HB2.out (Nat.le_refl _))
    have HRp2 := Lib.hid (HRp1.out.below hb (Nat.le_refl _))
    have HBs1_2 : Hid (Below w1.heap.size w1 w2) := Lib.hid (HBs1_1.out.trans (hb.mono HBs1_1.out.size))
    clear hb
    obtain ⟨qay, qcy, rfl⟩ := ho.form
    have HRy2 := Lib.hid (ho)
    have HBs2_2 : Hid (Below w2.heap.size w2 w2) := Lib.hid (Below.refl _ _)
    clear ho
    go_wp2_with fail
    refine (specHours_any _ ps _ HRp2.out ys t HF.out).mono ?_
    rintro e w3 ⟨⟨v, rfl, ho⟩, hb⟩
    have HB3 : Hid (Below w.heap.size w w3) := Lib.hid (HB2.out.trans (hb.mono HB2.out.size))
    have HZ3 : Hid (w2.heap.size ≤ w3.heap.size) := Lib.hid hb.size
    have HRk3 := Lib.hid (HRk0.out.below HB3.out (Nat.le_refl _))
    have HRp3 := Lib.hid (HRp2.out.below hb (Nat.le_refl _))
    have HRy3 := Lib.hid (HRy2.out.below hb (Nat.le_refl _))
    have HBs1_3 : Hid (Below w1.heap.size w1 w3) := Lib.hid (HBs1_2.out.trans (hb.mono HBs1_2.out.size))
    have HBs2_3 : Hid (Below w2.heap.size w2 w3) := Lib.hid (HBs2_2.out.trans (hb.mono HBs2_2.out.size))
    clear hb
    obtain ⟨qaz, qcz, rfl⟩ := ho.form
    have HRz3 := Lib.hid (ho)
    have HBs3_3 : Hid (Below w3.heap.size w3 w3) := Lib.hid (Below.refl _ _)
    clear ho
    go_wp2_with fail
    refine (rTable_yes _ _ ys _ HRy3.out HRz3.out).mono ?_
    rintro e w4 ⟨rfl, hb⟩
    have HB4 : Hid (Below w.heap.size w w4) := Lib.hid (HB3.out.trans (hb.mono HB3.out.size))
    have HZ4 : Hid (w3.heap.size ≤ w4.heap.size) := Lib.hid hb.size
    have HRk4 := Lib.hid (HRk0.out.below HB4.out (Nat.le_refl _))
    have HRp4 := Lib.hid (HRp3.out.below hb (Nat.le_refl _))
    have HRy4 := Lib.hid (HRy3.out.below hb (Nat.le_refl _))
    have HRz4 := Lib.hid (HRz3.out.below hb (Nat.le_refl _))
    have HBs1_4 : Hid (Below w1.heap.size w1 w4) := Lib.hid (HBs1_3.out.trans (hb.mono HBs1_3.out.size))
    have HBs2_4 : Hid (Below w2.heap.size w2 w4) := Lib.hid (HBs2_3.out.trans (hb.mono HBs2_3.out.size))
    have HBs3_4 : Hid (Below w3.heap.size w3 w4) := Lib.hid (HBs3_3.out.trans (hb.mono HBs3_3.out.size))
    clear hb
    obtain ⟨P, hP⟩ : ∃ P : World → Prop, ∀ wr, P wr ↔ Below w4.heap.size w4 wr := ⟨_, fun _ => Iff.rfl⟩
    have HP8 := Lib.hid HRp4.out
    have HY8 := Lib.hid HRy4.out
    have HK8 := Lib.hid HRk4.out
    have HB8 := Lib.hid HB4.out
    have P0 : Hid (P w4) := Lib.hid ((hP _).2 (Below.refl _ _))
    have PN : Hid (∀ wr w', P wr → Below wr.heap.size wr w' → P w') := Lib.hid (fun wr w' h1 h2 => (hP _).2 (((hP _).1 h1).trans (h2.mono ((hP _).1 h1).size)))
    have PB : Hid (∀ wr, P wr → Below w.heap.size w wr) := Lib.hid (fun wr h1 => HB8.out.trans (((hP _).1 h1).mono HB8.out.size))
    have PK : Hid (∀ wr, P wr → SlR wr (.slice ad L.length cp) (L.map fun c => .int .u8 (c.toNat : Int))) := Lib.hid (fun wr h1 => HK8.out.below ((hP _).1 h1) (Nat.le_refl _))
    have PP : Hid (∀ wr, P wr → RowsR 7 lesC wr (.slice qap ps.length qcp) ps) := Lib.hid (fun wr h1 => HP8.out.below ((hP _).1 h1) (Nat.le_refl _))
    have PY : Hid (∀ wr, P wr → SSR wr (.slice qay ys.length qcy) ys) := Lib.hid (fun wr h1 => HY8.out.below ((hP _).1 h1) (Nat.le_refl _))
    clear hP HP8 HY8 HK8 HB8
    have hmp : ps.length ≤ 9223372036854775807 := by obtain ⟨_, _, _, ⟨m, _⟩, _⟩ := PP.out _ P0.out; exact m
    cases t with
    | false =>
      have hys : ys.length = 0 := by
        rcases HF.out with ⟨_, _, h⟩ | ⟨_, h, _⟩
        · simp at h
        · rw [h]; rfl
      go_wp2_with fail
      go_loopw [8, 9] (fun sv iv wr => sv = .int .i64 0 ∧ iv = .int .i64 0 ∧ P wr) (fun _ _ _ => 0)
      case atStart => exact ⟨rfl, rfl, P0.out⟩
      case round =>
        rename World => w50
        obtain ⟨rfl, rfl, hp⟩ := hrel
        have HPP := Lib.hid hp
        clear hp
        by_cases hp0 : 0 < ps.length
        · skip
          go_wp2_with fail
          go_loopw [8, 10] (fun sv iv wr => sv = .int .i64 0 ∧ iv = .int .i64 0 ∧ P wr) (fun _ _ _ => 0)
          case atStart => exact ⟨rfl, rfl, HPP.out⟩
          case round =>
            rename World => w60
            obtain ⟨rfl, rfl, hp⟩ := hrel
            have hpb := PB.out _ hp
            have hpk := PK.out _ hp
            have HB60 : Hid (Below w.heap.size w w60) := Lib.hid hpb
            have HRk60 := Lib.hid (HRk0.out.below HB60.out (Nat.le_refl _))
            have HRk60 := Lib.hid (hpk)
            have HBs60_60 : Hid (Below w60.heap.size w60 w60) := Lib.hid (Below.refl _ _)
            clear hp hpb hpk
            go_wp2_with fail
            refine (drawShiftLesson_any _ L _ HRk60.out).mono ?_
            rintro e w61 ⟨⟨v, ls, id, d, b, rfl, ho, hl1⟩, hb⟩
            have HB61 : Hid (Below w.heap.size w w61) := Lib.hid (HB60.out.trans (hb.mono HB60.out.size))
            have HZ61 : Hid (w60.heap.size ≤ w61.heap.size) := Lib.hid hb.size
            have HRk61 := Lib.hid (HRk0.out.below HB61.out (Nat.le_refl _))
            have HBs60_61 : Hid (Below w60.heap.size w60 w61) := Lib.hid (HBs60_60.out.trans (hb.mono HBs60_60.out.size))
            clear hb
            obtain ⟨qal, qcl, rfl⟩ := ho.form
            have HRl61 := Lib.hid (ho)
            have HBs61_61 : Hid (Below w61.heap.size w61 w61) := Lib.hid (Below.refl _ _)
            clear ho
            obtain ⟨qs, f, hsf⟩ := shF_or ls id d b
            have HSF := Lib.hid hsf
            have hnef : (f != f) = false := by simp
            clear hsf hl1
            go_wp2_with fail
            refine (implShift_any _ ls id d b _ HRl61.out qs f HSF.out).mono ?_
            rintro e w62 ⟨⟨v, rfl, ho⟩, hb⟩
            have HB62 : Hid (Below w.heap.size w w62) := Lib.hid (HB61.out.trans (hb.mono HB61.out.size))
            have HZ62 : Hid (w61.heap.size ≤ w62.heap.size) := Lib.hid hb.size
            have HRk62 := Lib.hid (HRk0.out.below HB62.out (Nat.le_refl _))
            have HRl62 := Lib.hid (HRl61.out.below hb (Nat.le_refl _))
            have HBs60_62 : Hid (Below w60.heap.size w60 w62) := Lib.hid (HBs60_61.out.trans (hb.mono HBs60_61.out.size))
            have HBs61_62 : Hid (Below w61.heap.size w61 w62) := Lib.hid (HBs61_61.out.trans (hb.mono HBs61_61.out.size))
            clear hb
            obtain ⟨qaq, qcq, rfl⟩ := own_form ho
            have HRq62 := Lib.hid ((RowsR.of_own lesC_len ho))
            have HBs62_62 : Hid (Below w62.heap.size w62 w62) := Lib.hid (Below.refl _ _)
            clear ho
            go_wp2_with fail
            refine (specShift_any _ ls id d b _ HRl62.out qs f HSF.out).mono ?_
            rintro e w63 ⟨⟨v, rfl, ho⟩, hb⟩
            have HB63 : Hid (Below w.heap.size w w63) := Lib.hid (HB62.out.trans (hb.mono HB62.out.size))
            have HZ63 : Hid (w62.heap.size ≤ w63.heap.size) := Lib.hid hb.size
            have HRk63 := Lib.hid (HRk0.out.below HB63.out (Nat.le_refl _))
            have HRl63 := Lib.hid (HRl62.out.below hb (Nat.le_refl _))
            have HRq63 := Lib.hid (HRq62.out.below hb (Nat.le_refl _))
            have HBs60_63 : Hid (Below w60.heap.size w60 w63) := Lib.hid (HBs60_62.out.trans (hb.mono HBs60_62.out.size))
            have HBs61_63 : Hid (Below w61.heap.size w61 w63) := Lib.hid (HBs61_62.out.trans (hb.mono HBs61_62.out.size))
            have HBs62_63 : Hid (Below w62.heap.size w62 w63) := Lib.hid (HBs62_62.out.trans (hb.mono HBs62_62.out.size))
            clear hb
            obtain ⟨qar, qcr, rfl⟩ := own_form ho
            have HRr63 := Lib.hid ((RowsR.of_own lesC_len ho))
            have HBs63_63 : Hid (Below w63.heap.size w63 w63) := Lib.hid (Below.refl _ _)
            clear ho
            go_wp2_with fail
            refine (rLessons_yes _ _ qs _ HRq63.out HRr63.out).mono ?_
            rintro e w64 ⟨rfl, hb⟩
            have HB64 : Hid (Below w.heap.size w w64) := Lib.hid (HB63.out.trans (hb.mono HB63.out.size))
            have HZ64 : Hid (w63.heap.size ≤ w64.heap.size) := Lib.hid hb.size
            have HRk64 := Lib.hid (HRk0.out.below HB64.out (Nat.le_refl _))
            have HRl64 := Lib.hid (HRl63.out.below hb (Nat.le_refl _))
            have HRq64 := Lib.hid (HRq63.out.below hb (Nat.le_refl _))
            have HRr64 := Lib.hid (HRr63.out.below hb (Nat.le_refl _))
            have HBs60_64 : Hid (Below w60.heap.size w60 w64) := Lib.hid (HBs60_63.out.trans (hb.mono HBs60_63.out.size))
            have HBs61_64 : Hid (Below w61.heap.size w61 w64) := Lib.hid (HBs61_63.out.trans (hb.mono HBs61_63.out.size))
            have HBs62_64 : Hid (Below w62.heap.size w62 w64) := Lib.hid (HBs62_63.out.trans (hb.mono HBs62_63.out.size))
            have HBs63_64 : Hid (Below w63.heap.size w63 w64) := Lib.hid (HBs63_63.out.trans (hb.mono HBs63_63.out.size))
            clear hb
            have HL8 := Lib.hid HRl64.out
            have HQ8 := Lib.hid HRq64.out
            have HK8 := Lib.hid HRk64.out
            have HB8 := Lib.hid HB64.out
            obtain ⟨Q, hQ⟩ : ∃ Q : World → Prop, ∀ wr, Q wr ↔ Below w64.heap.size w64 wr := ⟨_, fun _ => Iff.rfl⟩
            have Q0 : Hid (Q w64) := Lib.hid ((hQ _).2 (Below.refl _ _))
            have QN : Hid (∀ wr w', Q wr → Below wr.heap.size wr w' → Q w') := Lib.hid (fun wr w' h1 h2 => (hQ _).2 (((hQ _).1 h1).trans (h2.mono ((hQ _).1 h1).size)))
            have QB : Hid (∀ wr, Q wr → Below w.heap.size w wr) := Lib.hid (fun wr h1 => HB8.out.trans (((hQ _).1 h1).mono HB8.out.size))
            have QK : Hid (∀ wr, Q wr → SlR wr (.slice ad L.length cp) (L.map fun c => .int .u8 (c.toNat : Int))) := Lib.hid (fun wr h1 => HK8.out.below ((hQ _).1 h1) (Nat.le_refl _))
            have QL : Hid (∀ wr, Q wr → RowsR 7 lesC wr (.slice qal ls.length qcl) ls) := Lib.hid (fun wr h1 => HL8.out.below ((hQ _).1 h1) (Nat.le_refl _))
            have QQ : Hid (∀ wr, Q wr → RowsR 7 lesC wr (.slice qaq qs.length qcq) qs) := Lib.hid (fun wr h1 => HQ8.out.below ((hQ _).1 h1) (Nat.le_refl _))
            clear hQ HL8 HQ8 HK8 HB8
            have hml : ls.length ≤ 9223372036854775807 := by obtain ⟨_, _, _, ⟨m, _⟩, _⟩ := QL.out _ Q0.out; exact m
            cases f with
            | false =>
              go_wp2_with fail
              go_loopw [19] (fun iv wr => iv = .int .i64 0 ∧ Q wr) (fun _ _ => 0)
              case atStart => exact ⟨rfl, Q0.out⟩
              case round =>
                rename World => w70
                obtain ⟨rfl, hq⟩ := hrel
                have hqb := QB.out _ hq
                have hqk := QK.out _ hq
                have HB70 : Hid (Below w.heap.size w w70) := Lib.hid hqb
                have HRk70 := Lib.hid (HRk0.out.below HB70.out (Nat.le_refl _))
                have HRk70 := Lib.hid (hqk)
                have HBs70_70 : Hid (Below w70.heap.size w70 w70) := Lib.hid (Below.refl _ _)
                clear hq hqb hqk
                by_cases hl0 : 0 < ls.length
                · skip
                  go_wp2_with fail
                  refine (drawLongestGap_any _ L _ HRk70.out).mono ?_
                  rintro e w71 ⟨⟨v, us, c, rfl, ho, hl2⟩, hb⟩
                  have HB71 : Hid (Below w.heap.size w w71) := Lib.hid (HB70.out.trans (hb.mono HB70.out.size))
                  have HZ71 : Hid (w70.heap.size ≤ w71.heap.size) := Lib.hid hb.size
                  have HRk71 := Lib.hid (HRk0.out.below HB71.out (Nat.le_refl _))
                  have HBs70_71 : Hid (Below w70.heap.size w70 w71) := Lib.hid (HBs70_70.out.trans (hb.mono HBs70_70.out.size))
                  clear hb
                  obtain ⟨qau, qcu, rfl⟩ := ho.form
                  have HRu71 := Lib.hid (ho)
                  have HBs71_71 : Hid (Below w71.heap.size w71 w71) := Lib.hid (Below.refl _ _)
                  clear ho
                  obtain ⟨g, gt, hg⟩ := gpF_or us c
                  have hg0 : 0 ≤ g := gpF_ge hg
                  have HG := Lib.hid hg
                  have hneg : (g != g) = false := by simp
                  have hnegt : (gt != gt) = false := by simp
                  clear hg hl2
                  go_wp2_with fail
                  refine (implGap_any _ us c _ HRu71.out g gt HG.out).mono ?_
                  rintro e w72 ⟨rfl, hb⟩
                  have HB72 : Hid (Below w.heap.size w w72) := Lib.hid (HB71.out.trans (hb.mono HB71.out.size))
                  have HZ72 : Hid (w71.heap.size ≤ w72.heap.size) := Lib.hid hb.size
                  have HRk72 := Lib.hid (HRk0.out.below HB72.out (Nat.le_refl _))
                  have HRu72 := Lib.hid (HRu71.out.below hb (Nat.le_refl _))
                  have HBs70_72 : Hid (Below w70.heap.size w70 w72) := Lib.hid (HBs70_71.out.trans (hb.mono HBs70_71.out.size))
                  have HBs71_72 : Hid (Below w71.heap.size w71 w72) := Lib.hid (HBs71_71.out.trans (hb.mono HBs71_71.out.size))
                  clear hb
                  go_wp2_with fail
                  refine (specGap_any _ us c _ HRu72.out g gt HG.out).mono ?_
                  rintro e w73 ⟨rfl, hb⟩
                  have HB73 : Hid (Below w.heap.size w w73) := Lib.hid (HB72.out.trans (hb.mono HB72.out.size))
                  have HZ73 : Hid (w72.heap.size ≤ w73.heap.size) := Lib.hid hb.size
                  have HRk73 := Lib.hid (HRk0.out.below HB73.out (Nat.le_refl _))
                  have HRu73 := Lib.hid (HRu72.out.below hb (Nat.le_refl _))
                  have HBs70_73 : Hid (Below w70.heap.size w70 w73) := Lib.hid (HBs70_72.out.trans (hb.mono HBs70_72.out.size))
                  have HBs71_73 : Hid (Below w71.heap.size w71 w73) := Lib.hid (HBs71_72.out.trans (hb.mono HBs71_72.out.size))
                  clear hb
                  go_wp2_with fail
                  refine (drawLessonText_any _ L _ HRk73.out).mono ?_
                  rintro e w74 ⟨⟨v0, v1, v2, v3, v4, v5, v6, rfl⟩, hb⟩
                  have HB74 : Hid (Below w.heap.size w w74) := Lib.hid (HB73.out.trans (hb.mono HB73.out.size))
                  have HZ74 : Hid (w73.heap.size ≤ w74.heap.size) := Lib.hid hb.size
                  have HRk74 := Lib.hid (HRk0.out.below HB74.out (Nat.le_refl _))
                  have HBs70_74 : Hid (Below w70.heap.size w70 w74) := Lib.hid (HBs70_73.out.trans (hb.mono HBs70_73.out.size))
                  clear hb
                  obtain ⟨s, xt, hS, hI, hO⟩ := text_same v0 v1 v2 v3 v4 v5 v6
                  have HS9 := Lib.hid hS
                  have HI9 := Lib.hid hI
                  have HO9 := Lib.hid hO
                  have hes : (s.toList == s.toList) = true := by simp
                  have hext : (xt == xt) = true := by simp
                  clear hS hI hO
                  go_wp2_with fail
                  have hb : Below w74.heap.size w74 (w74.alloc (.cells #[.int .i64 v0, .int .i64 v1, .int .i64 v2, .int .i64 v3, .int .i64 v4, .int .i64 v5, .int .i64 v6] 31)) := (Below.refl _ _).alloc (Nat.le_refl _) _
                  have hk : (w74.alloc (.cells #[.int .i64 v0, .int .i64 v1, .int .i64 v2, .int .i64 v3, .int .i64 v4, .int .i64 v5, .int .i64 v6] 31)).heap[w74.heap.size]? = some (.cells #[.int .i64 v0, .int .i64 v1, .int .i64 v2, .int .i64 v3, .int .i64 v4, .int .i64 v5, .int .i64 v6] 31 (0, 0)) := alloc_at rfl
                  have hz : (w74.alloc (.cells #[.int .i64 v0, .int .i64 v1, .int .i64 v2, .int .i64 v3, .int .i64 v4, .int .i64 v5, .int .i64 v6] 31)).heap.size = w74.heap.size + 1 := by simp
                  generalize w74.alloc (.cells #[.int .i64 v0, .int .i64 v1, .int .i64 v2, .int .i64 v3, .int .i64 v4, .int .i64 v5, .int .i64 v6] 31) = w75 at hb hk hz ⊢
                  have HB75 : Hid (Below w.heap.size w w75) := Lib.hid (HB74.out.trans (hb.mono HB74.out.size))
                  have HZ75 : Hid (w74.heap.size ≤ w75.heap.size) := Lib.hid hb.size
                  have HRk75 := Lib.hid (HRk0.out.below HB75.out (Nat.le_refl _))
                  have HBs70_75 : Hid (Below w70.heap.size w70 w75) := Lib.hid (HBs70_74.out.trans (hb.mono HBs70_74.out.size))
                  have HKxx75 := Lib.hid hk
                  replace HZ75 : Hid (w74.heap.size < w75.heap.size) := Lib.hid (by omega)
                  have HE75 := Lib.hid hz
                  clear hb hk hz
                  have ltxx := lt_of_block HKxx75.out
                  obtain ⟨cxx0, cxx1, cxx2, cxx3, cxx4, cxx5, cxx6, fxx0, fxx1, fxx2, fxx3, fxx4, fxx5, fxx6⟩ := cell7 HKxx75.out
                  refine (HI9.out _ (tab_below HT.out HB75.out) (tabw_below HW.out HB75.out)).mono ?_
                  rintro e w76 ⟨rfl, hb⟩
                  have HB76 : Hid (Below w.heap.size w w76) := Lib.hid (HB75.out.trans (hb.mono HB75.out.size))
                  have HZ76 : Hid (w75.heap.size ≤ w76.heap.size) := Lib.hid hb.size
                  have HRk76 := Lib.hid (HRk0.out.below HB76.out (Nat.le_refl _))
                  have HKxx76 := Lib.hid ((hb.block _ (lt_of_block HKxx75.out)).trans HKxx75.out)
                  have HBs70_76 : Hid (Below w70.heap.size w70 w76) := Lib.hid (HBs70_75.out.trans (hb.mono HBs70_75.out.size))
                  clear hb
                  clear cxx0 cxx1 cxx2 cxx3 cxx4 cxx5 cxx6 fxx0 fxx1 fxx2 fxx3 fxx4 fxx5 fxx6 ltxx
                  have ltxx := lt_of_block HKxx76.out
                  obtain ⟨cxx0, cxx1, cxx2, cxx3, cxx4, cxx5, cxx6, fxx0, fxx1, fxx2, fxx3, fxx4, fxx5, fxx6⟩ := cell7 HKxx76.out
                  go_wp2_with fail
                  refine (HS9.out _).mono ?_
                  rintro e w77 ⟨rfl, hb⟩
                  have HB77 : Hid (Below w.heap.size w w77) := Lib.hid (HB76.out.trans (hb.mono HB76.out.size))
                  have HZ77 : Hid (w76.heap.size ≤ w77.heap.size) := Lib.hid hb.size
                  have HRk77 := Lib.hid (HRk0.out.below HB77.out (Nat.le_refl _))
                  have HKxx77 := Lib.hid ((hb.block _ (lt_of_block HKxx76.out)).trans HKxx76.out)
                  have HBs70_77 : Hid (Below w70.heap.size w70 w77) := Lib.hid (HBs70_76.out.trans (hb.mono HBs70_76.out.size))
                  clear hb
                  clear cxx0 cxx1 cxx2 cxx3 cxx4 cxx5 cxx6 fxx0 fxx1 fxx2 fxx3 fxx4 fxx5 fxx6 ltxx
                  have ltxx := lt_of_block HKxx77.out
                  obtain ⟨cxx0, cxx1, cxx2, cxx3, cxx4, cxx5, cxx6, fxx0, fxx1, fxx2, fxx3, fxx4, fxx5, fxx6⟩ := cell7 HKxx77.out
                  go_wp2_with fail
                  refine (HO9.out _).mono ?_
                  rintro e w78 ⟨rfl, hb⟩
                  have HB78 : Hid (Below w.heap.size w w78) := Lib.hid (HB77.out.trans (hb.mono HB77.out.size))
                  have HZ78 : Hid (w77.heap.size ≤ w78.heap.size) := Lib.hid hb.size
                  have HRk78 := Lib.hid (HRk0.out.below HB78.out (Nat.le_refl _))
                  have HKxx78 := Lib.hid ((hb.block _ (lt_of_block HKxx77.out)).trans HKxx77.out)
                  have HBs70_78 : Hid (Below w70.heap.size w70 w78) := Lib.hid (HBs70_77.out.trans (hb.mono HBs70_77.out.size))
                  clear hb
                  clear cxx0 cxx1 cxx2 cxx3 cxx4 cxx5 cxx6 fxx0 fxx1 fxx2 fxx3 fxx4 fxx5 fxx6 ltxx
                  have ltxx := lt_of_block HKxx78.out
                  obtain ⟨cxx0, cxx1, cxx2, cxx3, cxx4, cxx5, cxx6, fxx0, fxx1, fxx2, fxx3, fxx4, fxx5, fxx6⟩ := cell7 HKxx78.out
                  go_wp2_with fail
                  go_ret
                  exact ⟨ret_bool (by first | (simp; done) | rfl), HB78.out⟩
                · skip
                  have hl1 : ls.length = 0 := by omega
                  go_wp2_with fail
                  refine (drawLongestGap_any _ L _ HRk70.out).mono ?_
                  rintro e w71 ⟨⟨v, us, c, rfl, ho, hl2⟩, hb⟩
                  have HB71 : Hid (Below w.heap.size w w71) := Lib.hid (HB70.out.trans (hb.mono HB70.out.size))
                  have HZ71 : Hid (w70.heap.size ≤ w71.heap.size) := Lib.hid hb.size
                  have HRk71 := Lib.hid (HRk0.out.below HB71.out (Nat.le_refl _))
                  have HBs70_71 : Hid (Below w70.heap.size w70 w71) := Lib.hid (HBs70_70.out.trans (hb.mono HBs70_70.out.size))
                  clear hb
                  obtain ⟨qau, qcu, rfl⟩ := ho.form
                  have HRu71 := Lib.hid (ho)
                  have HBs71_71 : Hid (Below w71.heap.size w71 w71) := Lib.hid (Below.refl _ _)
                  clear ho
                  obtain ⟨g, gt, hg⟩ := gpF_or us c
                  have hg0 : 0 ≤ g := gpF_ge hg
                  have HG := Lib.hid hg
                  have hneg : (g != g) = false := by simp
                  have hnegt : (gt != gt) = false := by simp
                  clear hg hl2
                  go_wp2_with fail
                  refine (implGap_any _ us c _ HRu71.out g gt HG.out).mono ?_
                  rintro e w72 ⟨rfl, hb⟩
                  have HB72 : Hid (Below w.heap.size w w72) := Lib.hid (HB71.out.trans (hb.mono HB71.out.size))
                  have HZ72 : Hid (w71.heap.size ≤ w72.heap.size) := Lib.hid hb.size
                  have HRk72 := Lib.hid (HRk0.out.below HB72.out (Nat.le_refl _))
                  have HRu72 := Lib.hid (HRu71.out.below hb (Nat.le_refl _))
                  have HBs70_72 : Hid (Below w70.heap.size w70 w72) := Lib.hid (HBs70_71.out.trans (hb.mono HBs70_71.out.size))
                  have HBs71_72 : Hid (Below w71.heap.size w71 w72) := Lib.hid (HBs71_71.out.trans (hb.mono HBs71_71.out.size))
                  clear hb
                  go_wp2_with fail
                  refine (specGap_any _ us c _ HRu72.out g gt HG.out).mono ?_
                  rintro e w73 ⟨rfl, hb⟩
                  have HB73 : Hid (Below w.heap.size w w73) := Lib.hid (HB72.out.trans (hb.mono HB72.out.size))
                  have HZ73 : Hid (w72.heap.size ≤ w73.heap.size) := Lib.hid hb.size
                  have HRk73 := Lib.hid (HRk0.out.below HB73.out (Nat.le_refl _))
                  have HRu73 := Lib.hid (HRu72.out.below hb (Nat.le_refl _))
                  have HBs70_73 : Hid (Below w70.heap.size w70 w73) := Lib.hid (HBs70_72.out.trans (hb.mono HBs70_72.out.size))
                  have HBs71_73 : Hid (Below w71.heap.size w71 w73) := Lib.hid (HBs71_72.out.trans (hb.mono HBs71_72.out.size))
                  clear hb
                  go_wp2_with fail
                  refine (drawLessonText_any _ L _ HRk73.out).mono ?_
                  rintro e w74 ⟨⟨v0, v1, v2, v3, v4, v5, v6, rfl⟩, hb⟩
                  have HB74 : Hid (Below w.heap.size w w74) := Lib.hid (HB73.out.trans (hb.mono HB73.out.size))
                  have HZ74 : Hid (w73.heap.size ≤ w74.heap.size) := Lib.hid hb.size
                  have HRk74 := Lib.hid (HRk0.out.below HB74.out (Nat.le_refl _))
                  have HBs70_74 : Hid (Below w70.heap.size w70 w74) := Lib.hid (HBs70_73.out.trans (hb.mono HBs70_73.out.size))
                  clear hb
                  obtain ⟨s, xt, hS, hI, hO⟩ := text_same v0 v1 v2 v3 v4 v5 v6
                  have HS9 := Lib.hid hS
                  have HI9 := Lib.hid hI
                  have HO9 := Lib.hid hO
                  have hes : (s.toList == s.toList) = true := by simp
                  have hext : (xt == xt) = true := by simp
                  clear hS hI hO
                  go_wp2_with fail
                  have hb : Below w74.heap.size w74 (w74.alloc (.cells #[.int .i64 v0, .int .i64 v1, .int .i64 v2, .int .i64 v3, .int .i64 v4, .int .i64 v5, .int .i64 v6] 31)) := (Below.refl _ _).alloc (Nat.le_refl _) _
                  have hk : (w74.alloc (.cells #[.int .i64 v0, .int .i64 v1, .int .i64 v2, .int .i64 v3, .int .i64 v4, .int .i64 v5, .int .i64 v6] 31)).heap[w74.heap.size]? = some (.cells #[.int .i64 v0, .int .i64 v1, .int .i64 v2, .int .i64 v3, .int .i64 v4, .int .i64 v5, .int .i64 v6] 31 (0, 0)) := alloc_at rfl
                  have hz : (w74.alloc (.cells #[.int .i64 v0, .int .i64 v1, .int .i64 v2, .int .i64 v3, .int .i64 v4, .int .i64 v5, .int .i64 v6] 31)).heap.size = w74.heap.size + 1 := by simp
                  generalize w74.alloc (.cells #[.int .i64 v0, .int .i64 v1, .int .i64 v2, .int .i64 v3, .int .i64 v4, .int .i64 v5, .int .i64 v6] 31) = w75 at hb hk hz ⊢
                  have HB75 : Hid (Below w.heap.size w w75) := Lib.hid (HB74.out.trans (hb.mono HB74.out.size))
                  have HZ75 : Hid (w74.heap.size ≤ w75.heap.size) := Lib.hid hb.size
                  have HRk75 := Lib.hid (HRk0.out.below HB75.out (Nat.le_refl _))
                  have HBs70_75 : Hid (Below w70.heap.size w70 w75) := Lib.hid (HBs70_74.out.trans (hb.mono HBs70_74.out.size))
                  have HKxx75 := Lib.hid hk
                  replace HZ75 : Hid (w74.heap.size < w75.heap.size) := Lib.hid (by omega)
                  have HE75 := Lib.hid hz
                  clear hb hk hz
                  have ltxx := lt_of_block HKxx75.out
                  obtain ⟨cxx0, cxx1, cxx2, cxx3, cxx4, cxx5, cxx6, fxx0, fxx1, fxx2, fxx3, fxx4, fxx5, fxx6⟩ := cell7 HKxx75.out
                  refine (HI9.out _ (tab_below HT.out HB75.out) (tabw_below HW.out HB75.out)).mono ?_
                  rintro e w76 ⟨rfl, hb⟩
                  have HB76 : Hid (Below w.heap.size w w76) := Lib.hid (HB75.out.trans (hb.mono HB75.out.size))
                  have HZ76 : Hid (w75.heap.size ≤ w76.heap.size) := Lib.hid hb.size
                  have HRk76 := Lib.hid (HRk0.out.below HB76.out (Nat.le_refl _))
                  have HKxx76 := Lib.hid ((hb.block _ (lt_of_block HKxx75.out)).trans HKxx75.out)
                  have HBs70_76 : Hid (Below w70.heap.size w70 w76) := Lib.hid (HBs70_75.out.trans (hb.mono HBs70_75.out.size))
                  clear hb
                  clear cxx0 cxx1 cxx2 cxx3 cxx4 cxx5 cxx6 fxx0 fxx1 fxx2 fxx3 fxx4 fxx5 fxx6 ltxx
                  have ltxx := lt_of_block HKxx76.out
                  obtain ⟨cxx0, cxx1, cxx2, cxx3, cxx4, cxx5, cxx6, fxx0, fxx1, fxx2, fxx3, fxx4, fxx5, fxx6⟩ := cell7 HKxx76.out
                  go_wp2_with fail
                  refine (HS9.out _).mono ?_
                  rintro e w77 ⟨rfl, hb⟩
                  have HB77 : Hid (Below w.heap.size w w77) := Lib.hid (HB76.out.trans (hb.mono HB76.out.size))
                  have HZ77 : Hid (w76.heap.size ≤ w77.heap.size) := Lib.hid hb.size
                  have HRk77 := Lib.hid (HRk0.out.below HB77.out (Nat.le_refl _))
                  have HKxx77 := Lib.hid ((hb.block _ (lt_of_block HKxx76.out)).trans HKxx76.out)
                  have HBs70_77 : Hid (Below w70.heap.size w70 w77) := Lib.hid (HBs70_76.out.trans (hb.mono HBs70_76.out.size))
                  clear hb
                  clear cxx0 cxx1 cxx2 cxx3 cxx4 cxx5 cxx6 fxx0 fxx1 fxx2 fxx3 fxx4 fxx5 fxx6 ltxx
                  have ltxx := lt_of_block HKxx77.out
                  obtain ⟨cxx0, cxx1, cxx2, cxx3, cxx4, cxx5, cxx6, fxx0, fxx1, fxx2, fxx3, fxx4, fxx5, fxx6⟩ := cell7 HKxx77.out
                  go_wp2_with fail
                  refine (HO9.out _).mono ?_
                  rintro e w78 ⟨rfl, hb⟩
                  have HB78 : Hid (Below w.heap.size w w78) := Lib.hid (HB77.out.trans (hb.mono HB77.out.size))
                  have HZ78 : Hid (w77.heap.size ≤ w78.heap.size) := Lib.hid hb.size
                  have HRk78 := Lib.hid (HRk0.out.below HB78.out (Nat.le_refl _))
                  have HKxx78 := Lib.hid ((hb.block _ (lt_of_block HKxx77.out)).trans HKxx77.out)
                  have HBs70_78 : Hid (Below w70.heap.size w70 w78) := Lib.hid (HBs70_77.out.trans (hb.mono HBs70_77.out.size))
                  clear hb
                  clear cxx0 cxx1 cxx2 cxx3 cxx4 cxx5 cxx6 fxx0 fxx1 fxx2 fxx3 fxx4 fxx5 fxx6 ltxx
                  have ltxx := lt_of_block HKxx78.out
                  obtain ⟨cxx0, cxx1, cxx2, cxx3, cxx4, cxx5, cxx6, fxx0, fxx1, fxx2, fxx3, fxx4, fxx5, fxx6⟩ := cell7 HKxx78.out
                  go_wp2_with fail
                  go_ret
                  exact ⟨ret_bool (by first | (simp; done) | rfl), HB78.out⟩
            | true =>
              go_wp2_with fail
              go_loopw [19] (fun iv wr => ∃ j : Nat, j ≤ ls.length ∧ iv = .int .i64 j ∧ Q wr) (fun iv _ => ls.length - (intOf iv).toNat)
              case atStart => exact ⟨0, Nat.zero_le _, rfl, Q0.out⟩
              case round =>
                rename World => w70
                obtain ⟨j, q1, rfl, hq⟩ := hrel
                have HQ := Lib.hid hq
                by_cases hlt : j < ls.length
                · have hr := QL.out _ hq
                  obtain ⟨b1, o1, rfl, l1, k1⟩ := hr.at _ (Below.refl _ _) j hlt
                  have p0 : w70.cell? ⟨b1, o1 + j * 7, none⟩ = some (.int .i64 ls[j].id) := k1 0 (by omega)
                  have p4 : w70.cell? ⟨b1, o1 + j * 7 + 4, none⟩ = some (.int .i64 ls[j].day) := k1 4 (by omega)
                  have p5 : w70.cell? ⟨b1, o1 + j * 7 + 5, none⟩ = some (.int .i64 ls[j].bgn) := k1 5 (by omega)
                  have z1 : (0 : Int) ≤ (j : Int) := by omega
                  have z2 : (j : Int) < (ls.length : Int) := by omega
                  have SB := Lib.hid (fun he : ls[j].id = id => shift_back HSF.out j hlt he)
                  clear k1 hr hq
                  generalize ls[j].id = y0 at p0 SB
                  generalize ls[j].day = y1 at p4 SB
                  generalize ls[j].bgn = y2 at p5 SB
                  by_cases he : y0 = id
                  · subst y0
                    have he1 : (id == id) = true := by simp
                    obtain ⟨rs, t2, hs2, hb2⟩ := SB.out rfl
                    have HC := Lib.hid (fun w' (h' : Q w') => implShift_any _ qs id y1 y2 w' (QQ.out w' h') rs t2 hs2)
                    have HBK := Lib.hid hb2
                    clear SB hs2 hb2
                    go_wp2_with fail
                    refine wp_region_held_drew (S := (fun w' => w'.cell? ⟨b1, o1 + j * 7 + 4, none⟩ = some (.int .i64 y1) ∧ w'.cell? ⟨b1, o1 + j * 7 + 5, none⟩ = some (.int .i64 y2))) (by kernel_rfl) (⟨p4, p5⟩) (fun hHeld => ?_)
                    refine take1 (i := 0) (v := ?v1) (some 143) rfl rfl (by kernel_rfl) (by kernel_rfl) (by kernel_rfl) (fun _ _ _ h => h) (Or.inl ⟨by rfl, ?y1⟩) (by assumption) ?r1
                    case y1 => (intro w hSw; (try dsimp only at hSw); go_simp; (first | done | with_reducible rfl))
                    try simp only [Act.put, List.setIfInBounds_toArray, List.set_cons_zero, List.set_cons_succ]
                    refine take1 (i := 1) (v := ?v2) (some 144) rfl rfl (by kernel_rfl) (by kernel_rfl) (by kernel_rfl) (fun _ _ _ h => h) (Or.inl ⟨by rfl, ?y2⟩) (by assumption) ?r2
                    case y2 => (intro w hSw; (try dsimp only at hSw); go_simp; (first | done | with_reducible rfl))
                    try simp only [Act.put, List.setIfInBounds_toArray, List.set_cons_zero, List.set_cons_succ]
                    refine take1 (i := 2) (v := ?v3) (some 145) rfl rfl (by kernel_rfl) (by kernel_rfl) (by kernel_rfl) (fun _ _ _ h => h) (Or.inl ⟨by rfl, ?y3⟩) (by assumption) ?r3
                    case y3 => (intro w hSw; (try dsimp only at hSw); go_simp; (first | done | with_reducible rfl))
                    try simp only [Act.put, List.setIfInBounds_toArray, List.set_cons_zero, List.set_cons_succ]
                    refine take1 (i := 3) (v := ?v4) (some 146) rfl rfl (by kernel_rfl) (by kernel_rfl) (by kernel_rfl) (fun _ _ _ h => h) (Or.inl ⟨by rfl, ?y4⟩) (by assumption) ?r4
                    case y4 => (intro w hSw; (try dsimp only at hSw); go_simp; (first | done | with_reducible rfl))
                    try simp only [Act.put, List.setIfInBounds_toArray, List.set_cons_zero, List.set_cons_succ]
                    refine take1 (i := 4) (v := ?v5) (some 147) rfl rfl (by kernel_rfl) (by kernel_rfl) (by kernel_rfl) (fun _ _ _ h => h) (Or.inl ⟨by rfl, ?y5⟩) (by assumption) ?r5
                    case y5 => (intro w hSw; (try dsimp only at hSw); go_simp; (first | done | with_reducible rfl))
                    try simp only [Act.put, List.setIfInBounds_toArray, List.set_cons_zero, List.set_cons_succ]
                    refine take1 (i := 5) (v := ?v6) (some 148) rfl rfl (by kernel_rfl) (by kernel_rfl) (by kernel_rfl) (fun _ _ _ h => h) (Or.inl ⟨by rfl, ?y6⟩) (by assumption) ?r6
                    case y6 => (intro w hSw; (try dsimp only at hSw); go_simp; (first | done | with_reducible rfl))
                    try simp only [Act.put, List.setIfInBounds_toArray, List.set_cons_zero, List.set_cons_succ]
                    refine take1 (i := 6) (v := ?v7) (some 149) rfl rfl (by kernel_rfl) (by kernel_rfl) (by kernel_rfl) (fun _ _ _ h => h) (Or.inl ⟨by rfl, ?y7⟩) (by assumption) ?r7
                    case y7 => (intro w hSw; (try dsimp only at hSw); go_simp; (first | done | with_reducible rfl))
                    try simp only [Act.put, List.setIfInBounds_toArray, List.set_cons_zero, List.set_cons_succ]
                    refine take1 (i := 7) (v := ?v8) (some 150) rfl rfl (by kernel_rfl) (by kernel_rfl) (by kernel_rfl) (fun _ _ _ h => h) (Or.inl ⟨by rfl, ?y8⟩) (by assumption) ?r8
                    case y8 => (intro w hSw; (try dsimp only at hSw); go_simp; (first | done | with_reducible rfl))
                    try simp only [Act.put, List.setIfInBounds_toArray, List.set_cons_zero, List.set_cons_succ]
                    refine take1 (i := 8) (v := ?v9) (some 151) rfl rfl (by kernel_rfl) (by kernel_rfl) (by kernel_rfl) (fun _ _ _ h => h) (Or.inl ⟨by rfl, ?y9⟩) (by assumption) ?r9
                    case y9 => (intro w hSw; (try dsimp only at hSw); go_simp; (first | done | with_reducible rfl))
                    try simp only [Act.put, List.setIfInBounds_toArray, List.set_cons_zero, List.set_cons_succ]
                    refine take1 (i := 9) (v := ?v10) (some 152) rfl rfl (by kernel_rfl) (by kernel_rfl) (by kernel_rfl) (fun _ _ _ h => h) (Or.inl ⟨by rfl, ?y10⟩) (by assumption) ?r10
                    case y10 => (intro w hSw; (try dsimp only at hSw); go_simp; (first | done | with_reducible rfl))
                    try simp only [Act.put, List.setIfInBounds_toArray, List.set_cons_zero, List.set_cons_succ]
                    refine take1 (i := 10) (v := ?v11) (some 153) rfl rfl (by kernel_rfl) (by kernel_rfl) (by kernel_rfl) (fun _ _ _ h => h) (Or.inl ⟨by rfl, ?y11⟩) (by assumption) ?r11
                    case y11 => (intro w hSw; (try dsimp only at hSw); go_simp; (first | done | with_reducible rfl))
                    try simp only [Act.put, List.setIfInBounds_toArray, List.set_cons_zero, List.set_cons_succ]
                    refine take1 (i := 11) (v := ?v12) (some 154) rfl rfl (by kernel_rfl) (by kernel_rfl) (by kernel_rfl) (fun _ _ _ h => h) (Or.inl ⟨by rfl, ?y12⟩) (by assumption) ?r12
                    case y12 => (intro w hSw; (try dsimp only at hSw); go_simp; (first | done | with_reducible rfl))
                    try simp only [Act.put, List.setIfInBounds_toArray, List.set_cons_zero, List.set_cons_succ]
                    refine wpAnyH_ready (rs := [12]) (by kernel_rfl) (by simp) ?_
                    refine AllReadyH.cons rfl (fun K hK => ?_) AllReadyH.nil
                    go_simp
                    go_at_call 12
                    refine (HC.out _ (QN.out _ _ HQ.out (Below.drew (Below.refl _ _)))).mono ?_
                    rintro e w71 ⟨⟨sq, rfl, ho⟩, hb'⟩
                    obtain ⟨sa, sc, rfl⟩ := own_form ho
                    have hb7 : Below w70.heap.size w70 w71 := Below.trans (Below.drew (Below.refl _ _)) hb'
                    have HR7 := Lib.hid (RowsR.of_own lesC_len ho)
                    clear hb' ho
                    try go_simp
                    refine hK.out _ _ (⟨(hb7.cell (p := ⟨b1, _, none⟩) l1).trans p4, (hb7.cell (p := ⟨b1, _, none⟩) l1).trans p5⟩) (fun hHeld => ?_)
                    clear hK K
                    try simp only [Act.put, List.setIfInBounds_toArray, List.set_cons_zero, List.set_cons_succ]
                    refine take1 (i := 13) (v := ?v13) (some 142) rfl rfl (by kernel_rfl) (by kernel_rfl) (by kernel_rfl) (fun _ _ _ h => h) (Or.inl ⟨by rfl, ?y13⟩) (by assumption) ?r13
                    case y13 => (intro w hSw; (try dsimp only at hSw); go_simp; (first | done | with_reducible rfl))
                    try simp only [Act.put, List.setIfInBounds_toArray, List.set_cons_zero, List.set_cons_succ]
                    refine take1 (i := 14) (v := ?v14) (some 156) rfl rfl (by kernel_rfl) (by kernel_rfl) (by kernel_rfl) (fun _ _ _ h => h) (Or.inl ⟨by rfl, ?y14⟩) (by assumption) ?r14
                    case y14 => (intro w hSw; (try dsimp only at hSw); go_simp; (first | done | with_reducible rfl))
                    try simp only [Act.put, List.setIfInBounds_toArray, List.set_cons_zero, List.set_cons_succ]
                    refine take1 (i := 15) (v := ?v15) (some 157) rfl rfl (by kernel_rfl) (by kernel_rfl) (by kernel_rfl) (fun _ _ _ h => h) (Or.inl ⟨by rfl, ?y15⟩) (by assumption) ?r15
                    case y15 => (intro w hSw; (try dsimp only at hSw); go_simp; (first | done | with_reducible rfl))
                    try simp only [Act.put, List.setIfInBounds_toArray, List.set_cons_zero, List.set_cons_succ]
                    refine take1 (i := 16) (v := ?v16) (some 20) rfl rfl (by kernel_rfl) (by kernel_rfl) (by kernel_rfl) (fun _ _ _ h => h) (Or.inl ⟨by rfl, ?y16⟩) (by assumption) ?r16
                    case y16 => (intro w hSw; (try dsimp only at hSw); go_simp; (first | done | with_reducible rfl))
                    try simp only [Act.put, List.setIfInBounds_toArray, List.set_cons_zero, List.set_cons_succ]
                    refine take1 (i := 17) (v := ?v17) (some 21) rfl rfl (by kernel_rfl) (by kernel_rfl) (by kernel_rfl) (fun _ _ _ h => h) (Or.inl ⟨by rfl, ?y17⟩) (by assumption) ?r17
                    case y17 => (intro w hSw; (try dsimp only at hSw); go_simp; (first | done | with_reducible rfl))
                    try simp only [Act.put, List.setIfInBounds_toArray, List.set_cons_zero, List.set_cons_succ]
                    refine wpAnyH_done (by kernel_rfl) ?_ _
                    have HQ7 := Lib.hid (QN.out _ _ HQ.out hb7)
                    clear p0 p4 p5 hHeld hb7
                    cases t2 with
                    | false =>
                      go_wp2_with fail
                      go_roundw
                      case rel => exact ⟨j + 1, by omega, by go_num, HQ7.out⟩
                      case measure => simp [intOf]; omega
                    | true =>
                      obtain rfl := HBK.out rfl
                      go_wp2_with fail
                      refine (rLessons_yes _ _ _ _ HR7.out (QL.out _ HQ7.out)).mono ?_
                      rintro e w72 ⟨rfl, hb8⟩
                      have HQ8 := Lib.hid (QN.out _ _ HQ7.out hb8)
                      clear hb8
                      go_wp2_with fail
                      go_roundw
                      case rel => exact ⟨j + 1, by omega, by go_num, HQ8.out⟩
                      case measure => simp [intOf]; omega
                  · have he1 : (y0 == id) = false := beq_eq_false_iff_ne.2 he
                    clear SB
                    go_wp2_with fail
                    go_roundw
                    case rel => exact ⟨j + 1, by omega, by go_num, HQ.out⟩
                    case measure => simp [intOf]; omega
                · have z2 : ¬ (j : Int) < (ls.length : Int) := by omega
                  have hqb := QB.out _ hq
                  have hqk := QK.out _ hq
                  have HB70 : Hid (Below w.heap.size w w70) := Lib.hid hqb
                  have HRk70 := Lib.hid (HRk0.out.below HB70.out (Nat.le_refl _))
                  have HRk70 := Lib.hid (hqk)
                  have HBs70_70 : Hid (Below w70.heap.size w70 w70) := Lib.hid (Below.refl _ _)
                  clear hq hqb hqk
                  go_wp2_with fail
                  refine (drawLongestGap_any _ L _ HRk70.out).mono ?_
                  rintro e w71 ⟨⟨v, us, c, rfl, ho, hl2⟩, hb⟩
                  have HB71 : Hid (Below w.heap.size w w71) := Lib.hid (HB70.out.trans (hb.mono HB70.out.size))
                  have HZ71 : Hid (w70.heap.size ≤ w71.heap.size) := Lib.hid hb.size
                  have HRk71 := Lib.hid (HRk0.out.below HB71.out (Nat.le_refl _))
                  have HBs70_71 : Hid (Below w70.heap.size w70 w71) := Lib.hid (HBs70_70.out.trans (hb.mono HBs70_70.out.size))
                  clear hb
                  obtain ⟨qau, qcu, rfl⟩ := ho.form
                  have HRu71 := Lib.hid (ho)
                  have HBs71_71 : Hid (Below w71.heap.size w71 w71) := Lib.hid (Below.refl _ _)
                  clear ho
                  obtain ⟨g, gt, hg⟩ := gpF_or us c
                  have hg0 : 0 ≤ g := gpF_ge hg
                  have HG := Lib.hid hg
                  have hneg : (g != g) = false := by simp
                  have hnegt : (gt != gt) = false := by simp
                  clear hg hl2
                  go_wp2_with fail
                  refine (implGap_any _ us c _ HRu71.out g gt HG.out).mono ?_
                  rintro e w72 ⟨rfl, hb⟩
                  have HB72 : Hid (Below w.heap.size w w72) := Lib.hid (HB71.out.trans (hb.mono HB71.out.size))
                  have HZ72 : Hid (w71.heap.size ≤ w72.heap.size) := Lib.hid hb.size
                  have HRk72 := Lib.hid (HRk0.out.below HB72.out (Nat.le_refl _))
                  have HRu72 := Lib.hid (HRu71.out.below hb (Nat.le_refl _))
                  have HBs70_72 : Hid (Below w70.heap.size w70 w72) := Lib.hid (HBs70_71.out.trans (hb.mono HBs70_71.out.size))
                  have HBs71_72 : Hid (Below w71.heap.size w71 w72) := Lib.hid (HBs71_71.out.trans (hb.mono HBs71_71.out.size))
                  clear hb
                  go_wp2_with fail
                  refine (specGap_any _ us c _ HRu72.out g gt HG.out).mono ?_
                  rintro e w73 ⟨rfl, hb⟩
                  have HB73 : Hid (Below w.heap.size w w73) := Lib.hid (HB72.out.trans (hb.mono HB72.out.size))
                  have HZ73 : Hid (w72.heap.size ≤ w73.heap.size) := Lib.hid hb.size
                  have HRk73 := Lib.hid (HRk0.out.below HB73.out (Nat.le_refl _))
                  have HRu73 := Lib.hid (HRu72.out.below hb (Nat.le_refl _))
                  have HBs70_73 : Hid (Below w70.heap.size w70 w73) := Lib.hid (HBs70_72.out.trans (hb.mono HBs70_72.out.size))
                  have HBs71_73 : Hid (Below w71.heap.size w71 w73) := Lib.hid (HBs71_72.out.trans (hb.mono HBs71_72.out.size))
                  clear hb
                  go_wp2_with fail
                  refine (drawLessonText_any _ L _ HRk73.out).mono ?_
                  rintro e w74 ⟨⟨v0, v1, v2, v3, v4, v5, v6, rfl⟩, hb⟩
                  have HB74 : Hid (Below w.heap.size w w74) := Lib.hid (HB73.out.trans (hb.mono HB73.out.size))
                  have HZ74 : Hid (w73.heap.size ≤ w74.heap.size) := Lib.hid hb.size
                  have HRk74 := Lib.hid (HRk0.out.below HB74.out (Nat.le_refl _))
                  have HBs70_74 : Hid (Below w70.heap.size w70 w74) := Lib.hid (HBs70_73.out.trans (hb.mono HBs70_73.out.size))
                  clear hb
                  obtain ⟨s, xt, hS, hI, hO⟩ := text_same v0 v1 v2 v3 v4 v5 v6
                  have HS9 := Lib.hid hS
                  have HI9 := Lib.hid hI
                  have HO9 := Lib.hid hO
                  have hes : (s.toList == s.toList) = true := by simp
                  have hext : (xt == xt) = true := by simp
                  clear hS hI hO
                  go_wp2_with fail
                  have hb : Below w74.heap.size w74 (w74.alloc (.cells #[.int .i64 v0, .int .i64 v1, .int .i64 v2, .int .i64 v3, .int .i64 v4, .int .i64 v5, .int .i64 v6] 31)) := (Below.refl _ _).alloc (Nat.le_refl _) _
                  have hk : (w74.alloc (.cells #[.int .i64 v0, .int .i64 v1, .int .i64 v2, .int .i64 v3, .int .i64 v4, .int .i64 v5, .int .i64 v6] 31)).heap[w74.heap.size]? = some (.cells #[.int .i64 v0, .int .i64 v1, .int .i64 v2, .int .i64 v3, .int .i64 v4, .int .i64 v5, .int .i64 v6] 31 (0, 0)) := alloc_at rfl
                  have hz : (w74.alloc (.cells #[.int .i64 v0, .int .i64 v1, .int .i64 v2, .int .i64 v3, .int .i64 v4, .int .i64 v5, .int .i64 v6] 31)).heap.size = w74.heap.size + 1 := by simp
                  generalize w74.alloc (.cells #[.int .i64 v0, .int .i64 v1, .int .i64 v2, .int .i64 v3, .int .i64 v4, .int .i64 v5, .int .i64 v6] 31) = w75 at hb hk hz ⊢
                  have HB75 : Hid (Below w.heap.size w w75) := Lib.hid (HB74.out.trans (hb.mono HB74.out.size))
                  have HZ75 : Hid (w74.heap.size ≤ w75.heap.size) := Lib.hid hb.size
                  have HRk75 := Lib.hid (HRk0.out.below HB75.out (Nat.le_refl _))
                  have HBs70_75 : Hid (Below w70.heap.size w70 w75) := Lib.hid (HBs70_74.out.trans (hb.mono HBs70_74.out.size))
                  have HKxx75 := Lib.hid hk
                  replace HZ75 : Hid (w74.heap.size < w75.heap.size) := Lib.hid (by omega)
                  have HE75 := Lib.hid hz
                  clear hb hk hz
                  have ltxx := lt_of_block HKxx75.out
                  obtain ⟨cxx0, cxx1, cxx2, cxx3, cxx4, cxx5, cxx6, fxx0, fxx1, fxx2, fxx3, fxx4, fxx5, fxx6⟩ := cell7 HKxx75.out
                  refine (HI9.out _ (tab_below HT.out HB75.out) (tabw_below HW.out HB75.out)).mono ?_
                  rintro e w76 ⟨rfl, hb⟩
                  have HB76 : Hid (Below w.heap.size w w76) := Lib.hid (HB75.out.trans (hb.mono HB75.out.size))
                  have HZ76 : Hid (w75.heap.size ≤ w76.heap.size) := Lib.hid hb.size
                  have HRk76 := Lib.hid (HRk0.out.below HB76.out (Nat.le_refl _))
                  have HKxx76 := Lib.hid ((hb.block _ (lt_of_block HKxx75.out)).trans HKxx75.out)
                  have HBs70_76 : Hid (Below w70.heap.size w70 w76) := Lib.hid (HBs70_75.out.trans (hb.mono HBs70_75.out.size))
                  clear hb
                  clear cxx0 cxx1 cxx2 cxx3 cxx4 cxx5 cxx6 fxx0 fxx1 fxx2 fxx3 fxx4 fxx5 fxx6 ltxx
                  have ltxx := lt_of_block HKxx76.out
                  obtain ⟨cxx0, cxx1, cxx2, cxx3, cxx4, cxx5, cxx6, fxx0, fxx1, fxx2, fxx3, fxx4, fxx5, fxx6⟩ := cell7 HKxx76.out
                  go_wp2_with fail
                  refine (HS9.out _).mono ?_
                  rintro e w77 ⟨rfl, hb⟩
                  have HB77 : Hid (Below w.heap.size w w77) := Lib.hid (HB76.out.trans (hb.mono HB76.out.size))
                  have HZ77 : Hid (w76.heap.size ≤ w77.heap.size) := Lib.hid hb.size
                  have HRk77 := Lib.hid (HRk0.out.below HB77.out (Nat.le_refl _))
                  have HKxx77 := Lib.hid ((hb.block _ (lt_of_block HKxx76.out)).trans HKxx76.out)
                  have HBs70_77 : Hid (Below w70.heap.size w70 w77) := Lib.hid (HBs70_76.out.trans (hb.mono HBs70_76.out.size))
                  clear hb
                  clear cxx0 cxx1 cxx2 cxx3 cxx4 cxx5 cxx6 fxx0 fxx1 fxx2 fxx3 fxx4 fxx5 fxx6 ltxx
                  have ltxx := lt_of_block HKxx77.out
                  obtain ⟨cxx0, cxx1, cxx2, cxx3, cxx4, cxx5, cxx6, fxx0, fxx1, fxx2, fxx3, fxx4, fxx5, fxx6⟩ := cell7 HKxx77.out
                  go_wp2_with fail
                  refine (HO9.out _).mono ?_
                  rintro e w78 ⟨rfl, hb⟩
                  have HB78 : Hid (Below w.heap.size w w78) := Lib.hid (HB77.out.trans (hb.mono HB77.out.size))
                  have HZ78 : Hid (w77.heap.size ≤ w78.heap.size) := Lib.hid hb.size
                  have HRk78 := Lib.hid (HRk0.out.below HB78.out (Nat.le_refl _))
                  have HKxx78 := Lib.hid ((hb.block _ (lt_of_block HKxx77.out)).trans HKxx77.out)
                  have HBs70_78 : Hid (Below w70.heap.size w70 w78) := Lib.hid (HBs70_77.out.trans (hb.mono HBs70_77.out.size))
                  clear hb
                  clear cxx0 cxx1 cxx2 cxx3 cxx4 cxx5 cxx6 fxx0 fxx1 fxx2 fxx3 fxx4 fxx5 fxx6 ltxx
                  have ltxx := lt_of_block HKxx78.out
                  obtain ⟨cxx0, cxx1, cxx2, cxx3, cxx4, cxx5, cxx6, fxx0, fxx1, fxx2, fxx3, fxx4, fxx5, fxx6⟩ := cell7 HKxx78.out
                  go_wp2_with fail
                  go_ret
                  exact ⟨ret_bool (by first | (simp; done) | rfl), HB78.out⟩
        · skip
          have hp1 : ps.length = 0 := by omega
          go_wp2_with fail
          go_loopw [8, 10] (fun sv iv wr => sv = .int .i64 0 ∧ iv = .int .i64 0 ∧ P wr) (fun _ _ _ => 0)
          case atStart => exact ⟨rfl, rfl, HPP.out⟩
          case round =>
            rename World => w60
            obtain ⟨rfl, rfl, hp⟩ := hrel
            have hpb := PB.out _ hp
            have hpk := PK.out _ hp
            have HB60 : Hid (Below w.heap.size w w60) := Lib.hid hpb
            have HRk60 := Lib.hid (HRk0.out.below HB60.out (Nat.le_refl _))
            have HRk60 := Lib.hid (hpk)
            have HBs60_60 : Hid (Below w60.heap.size w60 w60) := Lib.hid (Below.refl _ _)
            clear hp hpb hpk
            go_wp2_with fail
            refine (drawShiftLesson_any _ L _ HRk60.out).mono ?_
            rintro e w61 ⟨⟨v, ls, id, d, b, rfl, ho, hl1⟩, hb⟩
            have HB61 : Hid (Below w.heap.size w w61) := Lib.hid (HB60.out.trans (hb.mono HB60.out.size))
            have HZ61 : Hid (w60.heap.size ≤ w61.heap.size) := Lib.hid hb.size
            have HRk61 := Lib.hid (HRk0.out.below HB61.out (Nat.le_refl _))
            have HBs60_61 : Hid (Below w60.heap.size w60 w61) := Lib.hid (HBs60_60.out.trans (hb.mono HBs60_60.out.size))
            clear hb
            obtain ⟨qal, qcl, rfl⟩ := ho.form
            have HRl61 := Lib.hid (ho)
            have HBs61_61 : Hid (Below w61.heap.size w61 w61) := Lib.hid (Below.refl _ _)
            clear ho
            obtain ⟨qs, f, hsf⟩ := shF_or ls id d b
            have HSF := Lib.hid hsf
            have hnef : (f != f) = false := by simp
            clear hsf hl1
            go_wp2_with fail
            refine (implShift_any _ ls id d b _ HRl61.out qs f HSF.out).mono ?_
            rintro e w62 ⟨⟨v, rfl, ho⟩, hb⟩
            have HB62 : Hid (Below w.heap.size w w62) := Lib.hid (HB61.out.trans (hb.mono HB61.out.size))
            have HZ62 : Hid (w61.heap.size ≤ w62.heap.size) := Lib.hid hb.size
            have HRk62 := Lib.hid (HRk0.out.below HB62.out (Nat.le_refl _))
            have HRl62 := Lib.hid (HRl61.out.below hb (Nat.le_refl _))
            have HBs60_62 : Hid (Below w60.heap.size w60 w62) := Lib.hid (HBs60_61.out.trans (hb.mono HBs60_61.out.size))
            have HBs61_62 : Hid (Below w61.heap.size w61 w62) := Lib.hid (HBs61_61.out.trans (hb.mono HBs61_61.out.size))
            clear hb
            obtain ⟨qaq, qcq, rfl⟩ := own_form ho
            have HRq62 := Lib.hid ((RowsR.of_own lesC_len ho))
            have HBs62_62 : Hid (Below w62.heap.size w62 w62) := Lib.hid (Below.refl _ _)
            clear ho
            go_wp2_with fail
            refine (specShift_any _ ls id d b _ HRl62.out qs f HSF.out).mono ?_
            rintro e w63 ⟨⟨v, rfl, ho⟩, hb⟩
            have HB63 : Hid (Below w.heap.size w w63) := Lib.hid (HB62.out.trans (hb.mono HB62.out.size))
            have HZ63 : Hid (w62.heap.size ≤ w63.heap.size) := Lib.hid hb.size
            have HRk63 := Lib.hid (HRk0.out.below HB63.out (Nat.le_refl _))
            have HRl63 := Lib.hid (HRl62.out.below hb (Nat.le_refl _))
            have HRq63 := Lib.hid (HRq62.out.below hb (Nat.le_refl _))
            have HBs60_63 : Hid (Below w60.heap.size w60 w63) := Lib.hid (HBs60_62.out.trans (hb.mono HBs60_62.out.size))
            have HBs61_63 : Hid (Below w61.heap.size w61 w63) := Lib.hid (HBs61_62.out.trans (hb.mono HBs61_62.out.size))
            have HBs62_63 : Hid (Below w62.heap.size w62 w63) := Lib.hid (HBs62_62.out.trans (hb.mono HBs62_62.out.size))
            clear hb
            obtain ⟨qar, qcr, rfl⟩ := own_form ho
            have HRr63 := Lib.hid ((RowsR.of_own lesC_len ho))
            have HBs63_63 : Hid (Below w63.heap.size w63 w63) := Lib.hid (Below.refl _ _)
            clear ho
            go_wp2_with fail
            refine (rLessons_yes _ _ qs _ HRq63.out HRr63.out).mono ?_
            rintro e w64 ⟨rfl, hb⟩
            have HB64 : Hid (Below w.heap.size w w64) := Lib.hid (HB63.out.trans (hb.mono HB63.out.size))
            have HZ64 : Hid (w63.heap.size ≤ w64.heap.size) := Lib.hid hb.size
            have HRk64 := Lib.hid (HRk0.out.below HB64.out (Nat.le_refl _))
            have HRl64 := Lib.hid (HRl63.out.below hb (Nat.le_refl _))
            have HRq64 := Lib.hid (HRq63.out.below hb (Nat.le_refl _))
            have HRr64 := Lib.hid (HRr63.out.below hb (Nat.le_refl _))
            have HBs60_64 : Hid (Below w60.heap.size w60 w64) := Lib.hid (HBs60_63.out.trans (hb.mono HBs60_63.out.size))
            have HBs61_64 : Hid (Below w61.heap.size w61 w64) := Lib.hid (HBs61_63.out.trans (hb.mono HBs61_63.out.size))
            have HBs62_64 : Hid (Below w62.heap.size w62 w64) := Lib.hid (HBs62_63.out.trans (hb.mono HBs62_63.out.size))
            have HBs63_64 : Hid (Below w63.heap.size w63 w64) := Lib.hid (HBs63_63.out.trans (hb.mono HBs63_63.out.size))
            clear hb
            have HL8 := Lib.hid HRl64.out
            have HQ8 := Lib.hid HRq64.out
            have HK8 := Lib.hid HRk64.out
            have HB8 := Lib.hid HB64.out
            obtain ⟨Q, hQ⟩ : ∃ Q : World → Prop, ∀ wr, Q wr ↔ Below w64.heap.size w64 wr := ⟨_, fun _ => Iff.rfl⟩
            have Q0 : Hid (Q w64) := Lib.hid ((hQ _).2 (Below.refl _ _))
            have QN : Hid (∀ wr w', Q wr → Below wr.heap.size wr w' → Q w') := Lib.hid (fun wr w' h1 h2 => (hQ _).2 (((hQ _).1 h1).trans (h2.mono ((hQ _).1 h1).size)))
            have QB : Hid (∀ wr, Q wr → Below w.heap.size w wr) := Lib.hid (fun wr h1 => HB8.out.trans (((hQ _).1 h1).mono HB8.out.size))
            have QK : Hid (∀ wr, Q wr → SlR wr (.slice ad L.length cp) (L.map fun c => .int .u8 (c.toNat : Int))) := Lib.hid (fun wr h1 => HK8.out.below ((hQ _).1 h1) (Nat.le_refl _))
            have QL : Hid (∀ wr, Q wr → RowsR 7 lesC wr (.slice qal ls.length qcl) ls) := Lib.hid (fun wr h1 => HL8.out.below ((hQ _).1 h1) (Nat.le_refl _))
            have QQ : Hid (∀ wr, Q wr → RowsR 7 lesC wr (.slice qaq qs.length qcq) qs) := Lib.hid (fun wr h1 => HQ8.out.below ((hQ _).1 h1) (Nat.le_refl _))
            clear hQ HL8 HQ8 HK8 HB8
            have hml : ls.length ≤ 9223372036854775807 := by obtain ⟨_, _, _, ⟨m, _⟩, _⟩ := QL.out _ Q0.out; exact m
            cases f with
            | false =>
              go_wp2_with fail
              go_loopw [19] (fun iv wr => iv = .int .i64 0 ∧ Q wr) (fun _ _ => 0)
              case atStart => exact ⟨rfl, Q0.out⟩
              case round =>
                rename World => w70
                obtain ⟨rfl, hq⟩ := hrel
                have hqb := QB.out _ hq
                have hqk := QK.out _ hq
                have HB70 : Hid (Below w.heap.size w w70) := Lib.hid hqb
                have HRk70 := Lib.hid (HRk0.out.below HB70.out (Nat.le_refl _))
                have HRk70 := Lib.hid (hqk)
                have HBs70_70 : Hid (Below w70.heap.size w70 w70) := Lib.hid (Below.refl _ _)
                clear hq hqb hqk
                by_cases hl0 : 0 < ls.length
                · skip
                  go_wp2_with fail
                  refine (drawLongestGap_any _ L _ HRk70.out).mono ?_
                  rintro e w71 ⟨⟨v, us, c, rfl, ho, hl2⟩, hb⟩
                  have HB71 : Hid (Below w.heap.size w w71) := Lib.hid (HB70.out.trans (hb.mono HB70.out.size))
                  have HZ71 : Hid (w70.heap.size ≤ w71.heap.size) := Lib.hid hb.size
                  have HRk71 := Lib.hid (HRk0.out.below HB71.out (Nat.le_refl _))
                  have HBs70_71 : Hid (Below w70.heap.size w70 w71) := Lib.hid (HBs70_70.out.trans (hb.mono HBs70_70.out.size))
                  clear hb
                  obtain ⟨qau, qcu, rfl⟩ := ho.form
                  have HRu71 := Lib.hid (ho)
                  have HBs71_71 : Hid (Below w71.heap.size w71 w71) := Lib.hid (Below.refl _ _)
                  clear ho
                  obtain ⟨g, gt, hg⟩ := gpF_or us c
                  have hg0 : 0 ≤ g := gpF_ge hg
                  have HG := Lib.hid hg
                  have hneg : (g != g) = false := by simp
                  have hnegt : (gt != gt) = false := by simp
                  clear hg hl2
                  go_wp2_with fail
                  refine (implGap_any _ us c _ HRu71.out g gt HG.out).mono ?_
                  rintro e w72 ⟨rfl, hb⟩
                  have HB72 : Hid (Below w.heap.size w w72) := Lib.hid (HB71.out.trans (hb.mono HB71.out.size))
                  have HZ72 : Hid (w71.heap.size ≤ w72.heap.size) := Lib.hid hb.size
                  have HRk72 := Lib.hid (HRk0.out.below HB72.out (Nat.le_refl _))
                  have HRu72 := Lib.hid (HRu71.out.below hb (Nat.le_refl _))
                  have HBs70_72 : Hid (Below w70.heap.size w70 w72) := Lib.hid (HBs70_71.out.trans (hb.mono HBs70_71.out.size))
                  have HBs71_72 : Hid (Below w71.heap.size w71 w72) := Lib.hid (HBs71_71.out.trans (hb.mono HBs71_71.out.size))
                  clear hb
                  go_wp2_with fail
                  refine (specGap_any _ us c _ HRu72.out g gt HG.out).mono ?_
                  rintro e w73 ⟨rfl, hb⟩
                  have HB73 : Hid (Below w.heap.size w w73) := Lib.hid (HB72.out.trans (hb.mono HB72.out.size))
                  have HZ73 : Hid (w72.heap.size ≤ w73.heap.size) := Lib.hid hb.size
                  have HRk73 := Lib.hid (HRk0.out.below HB73.out (Nat.le_refl _))
                  have HRu73 := Lib.hid (HRu72.out.below hb (Nat.le_refl _))
                  have HBs70_73 : Hid (Below w70.heap.size w70 w73) := Lib.hid (HBs70_72.out.trans (hb.mono HBs70_72.out.size))
                  have HBs71_73 : Hid (Below w71.heap.size w71 w73) := Lib.hid (HBs71_72.out.trans (hb.mono HBs71_72.out.size))
                  clear hb
                  go_wp2_with fail
                  refine (drawLessonText_any _ L _ HRk73.out).mono ?_
                  rintro e w74 ⟨⟨v0, v1, v2, v3, v4, v5, v6, rfl⟩, hb⟩
                  have HB74 : Hid (Below w.heap.size w w74) := Lib.hid (HB73.out.trans (hb.mono HB73.out.size))
                  have HZ74 : Hid (w73.heap.size ≤ w74.heap.size) := Lib.hid hb.size
                  have HRk74 := Lib.hid (HRk0.out.below HB74.out (Nat.le_refl _))
                  have HBs70_74 : Hid (Below w70.heap.size w70 w74) := Lib.hid (HBs70_73.out.trans (hb.mono HBs70_73.out.size))
                  clear hb
                  obtain ⟨s, xt, hS, hI, hO⟩ := text_same v0 v1 v2 v3 v4 v5 v6
                  have HS9 := Lib.hid hS
                  have HI9 := Lib.hid hI
                  have HO9 := Lib.hid hO
                  have hes : (s.toList == s.toList) = true := by simp
                  have hext : (xt == xt) = true := by simp
                  clear hS hI hO
                  go_wp2_with fail
                  have hb : Below w74.heap.size w74 (w74.alloc (.cells #[.int .i64 v0, .int .i64 v1, .int .i64 v2, .int .i64 v3, .int .i64 v4, .int .i64 v5, .int .i64 v6] 31)) := (Below.refl _ _).alloc (Nat.le_refl _) _
                  have hk : (w74.alloc (.cells #[.int .i64 v0, .int .i64 v1, .int .i64 v2, .int .i64 v3, .int .i64 v4, .int .i64 v5, .int .i64 v6] 31)).heap[w74.heap.size]? = some (.cells #[.int .i64 v0, .int .i64 v1, .int .i64 v2, .int .i64 v3, .int .i64 v4, .int .i64 v5, .int .i64 v6] 31 (0, 0)) := alloc_at rfl
                  have hz : (w74.alloc (.cells #[.int .i64 v0, .int .i64 v1, .int .i64 v2, .int .i64 v3, .int .i64 v4, .int .i64 v5, .int .i64 v6] 31)).heap.size = w74.heap.size + 1 := by simp
                  generalize w74.alloc (.cells #[.int .i64 v0, .int .i64 v1, .int .i64 v2, .int .i64 v3, .int .i64 v4, .int .i64 v5, .int .i64 v6] 31) = w75 at hb hk hz ⊢
                  have HB75 : Hid (Below w.heap.size w w75) := Lib.hid (HB74.out.trans (hb.mono HB74.out.size))
                  have HZ75 : Hid (w74.heap.size ≤ w75.heap.size) := Lib.hid hb.size
                  have HRk75 := Lib.hid (HRk0.out.below HB75.out (Nat.le_refl _))
                  have HBs70_75 : Hid (Below w70.heap.size w70 w75) := Lib.hid (HBs70_74.out.trans (hb.mono HBs70_74.out.size))
                  have HKxx75 := Lib.hid hk
                  replace HZ75 : Hid (w74.heap.size < w75.heap.size) := Lib.hid (by omega)
                  have HE75 := Lib.hid hz
                  clear hb hk hz
                  have ltxx := lt_of_block HKxx75.out
                  obtain ⟨cxx0, cxx1, cxx2, cxx3, cxx4, cxx5, cxx6, fxx0, fxx1, fxx2, fxx3, fxx4, fxx5, fxx6⟩ := cell7 HKxx75.out
                  refine (HI9.out _ (tab_below HT.out HB75.out) (tabw_below HW.out HB75.out)).mono ?_
                  rintro e w76 ⟨rfl, hb⟩
                  have HB76 : Hid (Below w.heap.size w w76) := Lib.hid (HB75.out.trans (hb.mono HB75.out.size))
                  have HZ76 : Hid (w75.heap.size ≤ w76.heap.size) := Lib.hid hb.size
                  have HRk76 := Lib.hid (HRk0.out.below HB76.out (Nat.le_refl _))
                  have HKxx76 := Lib.hid ((hb.block _ (lt_of_block HKxx75.out)).trans HKxx75.out)
                  have HBs70_76 : Hid (Below w70.heap.size w70 w76) := Lib.hid (HBs70_75.out.trans (hb.mono HBs70_75.out.size))
                  clear hb
                  clear cxx0 cxx1 cxx2 cxx3 cxx4 cxx5 cxx6 fxx0 fxx1 fxx2 fxx3 fxx4 fxx5 fxx6 ltxx
                  have ltxx := lt_of_block HKxx76.out
                  obtain ⟨cxx0, cxx1, cxx2, cxx3, cxx4, cxx5, cxx6, fxx0, fxx1, fxx2, fxx3, fxx4, fxx5, fxx6⟩ := cell7 HKxx76.out
                  go_wp2_with fail
                  refine (HS9.out _).mono ?_
                  rintro e w77 ⟨rfl, hb⟩
                  have HB77 : Hid (Below w.heap.size w w77) := Lib.hid (HB76.out.trans (hb.mono HB76.out.size))
                  have HZ77 : Hid (w76.heap.size ≤ w77.heap.size) := Lib.hid hb.size
                  have HRk77 := Lib.hid (HRk0.out.below HB77.out (Nat.le_refl _))
                  have HKxx77 := Lib.hid ((hb.block _ (lt_of_block HKxx76.out)).trans HKxx76.out)
                  have HBs70_77 : Hid (Below w70.heap.size w70 w77) := Lib.hid (HBs70_76.out.trans (hb.mono HBs70_76.out.size))
                  clear hb
                  clear cxx0 cxx1 cxx2 cxx3 cxx4 cxx5 cxx6 fxx0 fxx1 fxx2 fxx3 fxx4 fxx5 fxx6 ltxx
                  have ltxx := lt_of_block HKxx77.out
                  obtain ⟨cxx0, cxx1, cxx2, cxx3, cxx4, cxx5, cxx6, fxx0, fxx1, fxx2, fxx3, fxx4, fxx5, fxx6⟩ := cell7 HKxx77.out
                  go_wp2_with fail
                  refine (HO9.out _).mono ?_
                  rintro e w78 ⟨rfl, hb⟩
                  have HB78 : Hid (Below w.heap.size w w78) := Lib.hid (HB77.out.trans (hb.mono HB77.out.size))
                  have HZ78 : Hid (w77.heap.size ≤ w78.heap.size) := Lib.hid hb.size
                  have HRk78 := Lib.hid (HRk0.out.below HB78.out (Nat.le_refl _))
                  have HKxx78 := Lib.hid ((hb.block _ (lt_of_block HKxx77.out)).trans HKxx77.out)
                  have HBs70_78 : Hid (Below w70.heap.size w70 w78) := Lib.hid (HBs70_77.out.trans (hb.mono HBs70_77.out.size))
                  clear hb
                  clear cxx0 cxx1 cxx2 cxx3 cxx4 cxx5 cxx6 fxx0 fxx1 fxx2 fxx3 fxx4 fxx5 fxx6 ltxx
                  have ltxx := lt_of_block HKxx78.out
                  obtain ⟨cxx0, cxx1, cxx2, cxx3, cxx4, cxx5, cxx6, fxx0, fxx1, fxx2, fxx3, fxx4, fxx5, fxx6⟩ := cell7 HKxx78.out
                  go_wp2_with fail
                  go_ret
                  exact ⟨ret_bool (by first | (simp; done) | rfl), HB78.out⟩
                · skip
                  have hl1 : ls.length = 0 := by omega
                  go_wp2_with fail
                  refine (drawLongestGap_any _ L _ HRk70.out).mono ?_
                  rintro e w71 ⟨⟨v, us, c, rfl, ho, hl2⟩, hb⟩
                  have HB71 : Hid (Below w.heap.size w w71) := Lib.hid (HB70.out.trans (hb.mono HB70.out.size))
                  have HZ71 : Hid (w70.heap.size ≤ w71.heap.size) := Lib.hid hb.size
                  have HRk71 := Lib.hid (HRk0.out.below HB71.out (Nat.le_refl _))
                  have HBs70_71 : Hid (Below w70.heap.size w70 w71) := Lib.hid (HBs70_70.out.trans (hb.mono HBs70_70.out.size))
                  clear hb
                  obtain ⟨qau, qcu, rfl⟩ := ho.form
                  have HRu71 := Lib.hid (ho)
                  have HBs71_71 : Hid (Below w71.heap.size w71 w71) := Lib.hid (Below.refl _ _)
                  clear ho
                  obtain ⟨g, gt, hg⟩ := gpF_or us c
                  have hg0 : 0 ≤ g := gpF_ge hg
                  have HG := Lib.hid hg
                  have hneg : (g != g) = false := by simp
                  have hnegt : (gt != gt) = false := by simp
                  clear hg hl2
                  go_wp2_with fail
                  refine (implGap_any _ us c _ HRu71.out g gt HG.out).mono ?_
                  rintro e w72 ⟨rfl, hb⟩
                  have HB72 : Hid (Below w.heap.size w w72) := Lib.hid (HB71.out.trans (hb.mono HB71.out.size))
                  have HZ72 : Hid (w71.heap.size ≤ w72.heap.size) := Lib.hid hb.size
                  have HRk72 := Lib.hid (HRk0.out.below HB72.out (Nat.le_refl _))
                  have HRu72 := Lib.hid (HRu71.out.below hb (Nat.le_refl _))
                  have HBs70_72 : Hid (Below w70.heap.size w70 w72) := Lib.hid (HBs70_71.out.trans (hb.mono HBs70_71.out.size))
                  have HBs71_72 : Hid (Below w71.heap.size w71 w72) := Lib.hid (HBs71_71.out.trans (hb.mono HBs71_71.out.size))
                  clear hb
                  go_wp2_with fail
                  refine (specGap_any _ us c _ HRu72.out g gt HG.out).mono ?_
                  rintro e w73 ⟨rfl, hb⟩
                  have HB73 : Hid (Below w.heap.size w w73) := Lib.hid (HB72.out.trans (hb.mono HB72.out.size))
                  have HZ73 : Hid (w72.heap.size ≤ w73.heap.size) := Lib.hid hb.size
                  have HRk73 := Lib.hid (HRk0.out.below HB73.out (Nat.le_refl _))
                  have HRu73 := Lib.hid (HRu72.out.below hb (Nat.le_refl _))
                  have HBs70_73 : Hid (Below w70.heap.size w70 w73) := Lib.hid (HBs70_72.out.trans (hb.mono HBs70_72.out.size))
                  have HBs71_73 : Hid (Below w71.heap.size w71 w73) := Lib.hid (HBs71_72.out.trans (hb.mono HBs71_72.out.size))
                  clear hb
                  go_wp2_with fail
                  refine (drawLessonText_any _ L _ HRk73.out).mono ?_
                  rintro e w74 ⟨⟨v0, v1, v2, v3, v4, v5, v6, rfl⟩, hb⟩
                  have HB74 : Hid (Below w.heap.size w w74) := Lib.hid (HB73.out.trans (hb.mono HB73.out.size))
                  have HZ74 : Hid (w73.heap.size ≤ w74.heap.size) := Lib.hid hb.size
                  have HRk74 := Lib.hid (HRk0.out.below HB74.out (Nat.le_refl _))
                  have HBs70_74 : Hid (Below w70.heap.size w70 w74) := Lib.hid (HBs70_73.out.trans (hb.mono HBs70_73.out.size))
                  clear hb
                  obtain ⟨s, xt, hS, hI, hO⟩ := text_same v0 v1 v2 v3 v4 v5 v6
                  have HS9 := Lib.hid hS
                  have HI9 := Lib.hid hI
                  have HO9 := Lib.hid hO
                  have hes : (s.toList == s.toList) = true := by simp
                  have hext : (xt == xt) = true := by simp
                  clear hS hI hO
                  go_wp2_with fail
                  have hb : Below w74.heap.size w74 (w74.alloc (.cells #[.int .i64 v0, .int .i64 v1, .int .i64 v2, .int .i64 v3, .int .i64 v4, .int .i64 v5, .int .i64 v6] 31)) := (Below.refl _ _).alloc (Nat.le_refl _) _
                  have hk : (w74.alloc (.cells #[.int .i64 v0, .int .i64 v1, .int .i64 v2, .int .i64 v3, .int .i64 v4, .int .i64 v5, .int .i64 v6] 31)).heap[w74.heap.size]? = some (.cells #[.int .i64 v0, .int .i64 v1, .int .i64 v2, .int .i64 v3, .int .i64 v4, .int .i64 v5, .int .i64 v6] 31 (0, 0)) := alloc_at rfl
                  have hz : (w74.alloc (.cells #[.int .i64 v0, .int .i64 v1, .int .i64 v2, .int .i64 v3, .int .i64 v4, .int .i64 v5, .int .i64 v6] 31)).heap.size = w74.heap.size + 1 := by simp
                  generalize w74.alloc (.cells #[.int .i64 v0, .int .i64 v1, .int .i64 v2, .int .i64 v3, .int .i64 v4, .int .i64 v5, .int .i64 v6] 31) = w75 at hb hk hz ⊢
                  have HB75 : Hid (Below w.heap.size w w75) := Lib.hid (HB74.out.trans (hb.mono HB74.out.size))
                  have HZ75 : Hid (w74.heap.size ≤ w75.heap.size) := Lib.hid hb.size
                  have HRk75 := Lib.hid (HRk0.out.below HB75.out (Nat.le_refl _))
                  have HBs70_75 : Hid (Below w70.heap.size w70 w75) := Lib.hid (HBs70_74.out.trans (hb.mono HBs70_74.out.size))
                  have HKxx75 := Lib.hid hk
                  replace HZ75 : Hid (w74.heap.size < w75.heap.size) := Lib.hid (by omega)
                  have HE75 := Lib.hid hz
                  clear hb hk hz
                  have ltxx := lt_of_block HKxx75.out
                  obtain ⟨cxx0, cxx1, cxx2, cxx3, cxx4, cxx5, cxx6, fxx0, fxx1, fxx2, fxx3, fxx4, fxx5, fxx6⟩ := cell7 HKxx75.out
                  refine (HI9.out _ (tab_below HT.out HB75.out) (tabw_below HW.out HB75.out)).mono ?_
                  rintro e w76 ⟨rfl, hb⟩
                  have HB76 : Hid (Below w.heap.size w w76) := Lib.hid (HB75.out.trans (hb.mono HB75.out.size))
                  have HZ76 : Hid (w75.heap.size ≤ w76.heap.size) := Lib.hid hb.size
                  have HRk76 := Lib.hid (HRk0.out.below HB76.out (Nat.le_refl _))
                  have HKxx76 := Lib.hid ((hb.block _ (lt_of_block HKxx75.out)).trans HKxx75.out)
                  have HBs70_76 : Hid (Below w70.heap.size w70 w76) := Lib.hid (HBs70_75.out.trans (hb.mono HBs70_75.out.size))
                  clear hb
                  clear cxx0 cxx1 cxx2 cxx3 cxx4 cxx5 cxx6 fxx0 fxx1 fxx2 fxx3 fxx4 fxx5 fxx6 ltxx
                  have ltxx := lt_of_block HKxx76.out
                  obtain ⟨cxx0, cxx1, cxx2, cxx3, cxx4, cxx5, cxx6, fxx0, fxx1, fxx2, fxx3, fxx4, fxx5, fxx6⟩ := cell7 HKxx76.out
                  go_wp2_with fail
                  refine (HS9.out _).mono ?_
                  rintro e w77 ⟨rfl, hb⟩
                  have HB77 : Hid (Below w.heap.size w w77) := Lib.hid (HB76.out.trans (hb.mono HB76.out.size))
                  have HZ77 : Hid (w76.heap.size ≤ w77.heap.size) := Lib.hid hb.size
                  have HRk77 := Lib.hid (HRk0.out.below HB77.out (Nat.le_refl _))
                  have HKxx77 := Lib.hid ((hb.block _ (lt_of_block HKxx76.out)).trans HKxx76.out)
                  have HBs70_77 : Hid (Below w70.heap.size w70 w77) := Lib.hid (HBs70_76.out.trans (hb.mono HBs70_76.out.size))
                  clear hb
                  clear cxx0 cxx1 cxx2 cxx3 cxx4 cxx5 cxx6 fxx0 fxx1 fxx2 fxx3 fxx4 fxx5 fxx6 ltxx
                  have ltxx := lt_of_block HKxx77.out
                  obtain ⟨cxx0, cxx1, cxx2, cxx3, cxx4, cxx5, cxx6, fxx0, fxx1, fxx2, fxx3, fxx4, fxx5, fxx6⟩ := cell7 HKxx77.out
                  go_wp2_with fail
                  refine (HO9.out _).mono ?_
                  rintro e w78 ⟨rfl, hb⟩
                  have HB78 : Hid (Below w.heap.size w w78) := Lib.hid (HB77.out.trans (hb.mono HB77.out.size))
                  have HZ78 : Hid (w77.heap.size ≤ w78.heap.size) := Lib.hid hb.size
                  have HRk78 := Lib.hid (HRk0.out.below HB78.out (Nat.le_refl _))
                  have HKxx78 := Lib.hid ((hb.block _ (lt_of_block HKxx77.out)).trans HKxx77.out)
                  have HBs70_78 : Hid (Below w70.heap.size w70 w78) := Lib.hid (HBs70_77.out.trans (hb.mono HBs70_77.out.size))
                  clear hb
                  clear cxx0 cxx1 cxx2 cxx3 cxx4 cxx5 cxx6 fxx0 fxx1 fxx2 fxx3 fxx4 fxx5 fxx6 ltxx
                  have ltxx := lt_of_block HKxx78.out
                  obtain ⟨cxx0, cxx1, cxx2, cxx3, cxx4, cxx5, cxx6, fxx0, fxx1, fxx2, fxx3, fxx4, fxx5, fxx6⟩ := cell7 HKxx78.out
                  go_wp2_with fail
                  go_ret
                  exact ⟨ret_bool (by first | (simp; done) | rfl), HB78.out⟩
            | true =>
              go_wp2_with fail
              go_loopw [19] (fun iv wr => ∃ j : Nat, j ≤ ls.length ∧ iv = .int .i64 j ∧ Q wr) (fun iv _ => ls.length - (intOf iv).toNat)
              case atStart => exact ⟨0, Nat.zero_le _, rfl, Q0.out⟩
              case round =>
                rename World => w70
                obtain ⟨j, q1, rfl, hq⟩ := hrel
                have HQ := Lib.hid hq
                by_cases hlt : j < ls.length
                · have hr := QL.out _ hq
                  obtain ⟨b1, o1, rfl, l1, k1⟩ := hr.at _ (Below.refl _ _) j hlt
                  have p0 : w70.cell? ⟨b1, o1 + j * 7, none⟩ = some (.int .i64 ls[j].id) := k1 0 (by omega)
                  have p4 : w70.cell? ⟨b1, o1 + j * 7 + 4, none⟩ = some (.int .i64 ls[j].day) := k1 4 (by omega)
                  have p5 : w70.cell? ⟨b1, o1 + j * 7 + 5, none⟩ = some (.int .i64 ls[j].bgn) := k1 5 (by omega)
                  have z1 : (0 : Int) ≤ (j : Int) := by omega
                  have z2 : (j : Int) < (ls.length : Int) := by omega
                  have SB := Lib.hid (fun he : ls[j].id = id => shift_back HSF.out j hlt he)
                  clear k1 hr hq
                  generalize ls[j].id = y0 at p0 SB
                  generalize ls[j].day = y1 at p4 SB
                  generalize ls[j].bgn = y2 at p5 SB
                  by_cases he : y0 = id
                  · subst y0
                    have he1 : (id == id) = true := by simp
                    obtain ⟨rs, t2, hs2, hb2⟩ := SB.out rfl
                    have HC := Lib.hid (fun w' (h' : Q w') => implShift_any _ qs id y1 y2 w' (QQ.out w' h') rs t2 hs2)
                    have HBK := Lib.hid hb2
                    clear SB hs2 hb2
                    go_wp2_with fail
                    refine wp_region_held_drew (S := (fun w' => w'.cell? ⟨b1, o1 + j * 7 + 4, none⟩ = some (.int .i64 y1) ∧ w'.cell? ⟨b1, o1 + j * 7 + 5, none⟩ = some (.int .i64 y2))) (by kernel_rfl) (⟨p4, p5⟩) (fun hHeld => ?_)
                    refine take1 (i := 0) (v := ?v18) (some 143) rfl rfl (by kernel_rfl) (by kernel_rfl) (by kernel_rfl) (fun _ _ _ h => h) (Or.inl ⟨by rfl, ?y18⟩) (by assumption) ?r18
                    case y18 => (intro w hSw; (try dsimp only at hSw); go_simp; (first | done | with_reducible rfl))
                    try simp only [Act.put, List.setIfInBounds_toArray, List.set_cons_zero, List.set_cons_succ]
                    refine take1 (i := 1) (v := ?v19) (some 144) rfl rfl (by kernel_rfl) (by kernel_rfl) (by kernel_rfl) (fun _ _ _ h => h) (Or.inl ⟨by rfl, ?y19⟩) (by assumption) ?r19
                    case y19 => (intro w hSw; (try dsimp only at hSw); go_simp; (first | done | with_reducible rfl))
                    try simp only [Act.put, List.setIfInBounds_toArray, List.set_cons_zero, List.set_cons_succ]
                    refine take1 (i := 2) (v := ?v20) (some 145) rfl rfl (by kernel_rfl) (by kernel_rfl) (by kernel_rfl) (fun _ _ _ h => h) (Or.inl ⟨by rfl, ?y20⟩) (by assumption) ?r20
                    case y20 => (intro w hSw; (try dsimp only at hSw); go_simp; (first | done | with_reducible rfl))
                    try simp only [Act.put, List.setIfInBounds_toArray, List.set_cons_zero, List.set_cons_succ]
                    refine take1 (i := 3) (v := ?v21) (some 146) rfl rfl (by kernel_rfl) (by kernel_rfl) (by kernel_rfl) (fun _ _ _ h => h) (Or.inl ⟨by rfl, ?y21⟩) (by assumption) ?r21
                    case y21 => (intro w hSw; (try dsimp only at hSw); go_simp; (first | done | with_reducible rfl))
                    try simp only [Act.put, List.setIfInBounds_toArray, List.set_cons_zero, List.set_cons_succ]
                    refine take1 (i := 4) (v := ?v22) (some 147) rfl rfl (by kernel_rfl) (by kernel_rfl) (by kernel_rfl) (fun _ _ _ h => h) (Or.inl ⟨by rfl, ?y22⟩) (by assumption) ?r22
                    case y22 => (intro w hSw; (try dsimp only at hSw); go_simp; (first | done | with_reducible rfl))
                    try simp only [Act.put, List.setIfInBounds_toArray, List.set_cons_zero, List.set_cons_succ]
                    refine take1 (i := 5) (v := ?v23) (some 148) rfl rfl (by kernel_rfl) (by kernel_rfl) (by kernel_rfl) (fun _ _ _ h => h) (Or.inl ⟨by rfl, ?y23⟩) (by assumption) ?r23
                    case y23 => (intro w hSw; (try dsimp only at hSw); go_simp; (first | done | with_reducible rfl))
                    try simp only [Act.put, List.setIfInBounds_toArray, List.set_cons_zero, List.set_cons_succ]
                    refine take1 (i := 6) (v := ?v24) (some 149) rfl rfl (by kernel_rfl) (by kernel_rfl) (by kernel_rfl) (fun _ _ _ h => h) (Or.inl ⟨by rfl, ?y24⟩) (by assumption) ?r24
                    case y24 => (intro w hSw; (try dsimp only at hSw); go_simp; (first | done | with_reducible rfl))
                    try simp only [Act.put, List.setIfInBounds_toArray, List.set_cons_zero, List.set_cons_succ]
                    refine take1 (i := 7) (v := ?v25) (some 150) rfl rfl (by kernel_rfl) (by kernel_rfl) (by kernel_rfl) (fun _ _ _ h => h) (Or.inl ⟨by rfl, ?y25⟩) (by assumption) ?r25
                    case y25 => (intro w hSw; (try dsimp only at hSw); go_simp; (first | done | with_reducible rfl))
                    try simp only [Act.put, List.setIfInBounds_toArray, List.set_cons_zero, List.set_cons_succ]
                    refine take1 (i := 8) (v := ?v26) (some 151) rfl rfl (by kernel_rfl) (by kernel_rfl) (by kernel_rfl) (fun _ _ _ h => h) (Or.inl ⟨by rfl, ?y26⟩) (by assumption) ?r26
                    case y26 => (intro w hSw; (try dsimp only at hSw); go_simp; (first | done | with_reducible rfl))
                    try simp only [Act.put, List.setIfInBounds_toArray, List.set_cons_zero, List.set_cons_succ]
                    refine take1 (i := 9) (v := ?v27) (some 152) rfl rfl (by kernel_rfl) (by kernel_rfl) (by kernel_rfl) (fun _ _ _ h => h) (Or.inl ⟨by rfl, ?y27⟩) (by assumption) ?r27
                    case y27 => (intro w hSw; (try dsimp only at hSw); go_simp; (first | done | with_reducible rfl))
                    try simp only [Act.put, List.setIfInBounds_toArray, List.set_cons_zero, List.set_cons_succ]
                    refine take1 (i := 10) (v := ?v28) (some 153) rfl rfl (by kernel_rfl) (by kernel_rfl) (by kernel_rfl) (fun _ _ _ h => h) (Or.inl ⟨by rfl, ?y28⟩) (by assumption) ?r28
                    case y28 => (intro w hSw; (try dsimp only at hSw); go_simp; (first | done | with_reducible rfl))
                    try simp only [Act.put, List.setIfInBounds_toArray, List.set_cons_zero, List.set_cons_succ]
                    refine take1 (i := 11) (v := ?v29) (some 154) rfl rfl (by kernel_rfl) (by kernel_rfl) (by kernel_rfl) (fun _ _ _ h => h) (Or.inl ⟨by rfl, ?y29⟩) (by assumption) ?r29
                    case y29 => (intro w hSw; (try dsimp only at hSw); go_simp; (first | done | with_reducible rfl))
                    try simp only [Act.put, List.setIfInBounds_toArray, List.set_cons_zero, List.set_cons_succ]
                    refine wpAnyH_ready (rs := [12]) (by kernel_rfl) (by simp) ?_
                    refine AllReadyH.cons rfl (fun K hK => ?_) AllReadyH.nil
                    go_simp
                    go_at_call 12
                    refine (HC.out _ (QN.out _ _ HQ.out (Below.drew (Below.refl _ _)))).mono ?_
                    rintro e w71 ⟨⟨sq, rfl, ho⟩, hb'⟩
                    obtain ⟨sa, sc, rfl⟩ := own_form ho
                    have hb7 : Below w70.heap.size w70 w71 := Below.trans (Below.drew (Below.refl _ _)) hb'
                    have HR7 := Lib.hid (RowsR.of_own lesC_len ho)
                    clear hb' ho
                    try go_simp
                    refine hK.out _ _ (⟨(hb7.cell (p := ⟨b1, _, none⟩) l1).trans p4, (hb7.cell (p := ⟨b1, _, none⟩) l1).trans p5⟩) (fun hHeld => ?_)
                    clear hK K
                    try simp only [Act.put, List.setIfInBounds_toArray, List.set_cons_zero, List.set_cons_succ]
                    refine take1 (i := 13) (v := ?v30) (some 142) rfl rfl (by kernel_rfl) (by kernel_rfl) (by kernel_rfl) (fun _ _ _ h => h) (Or.inl ⟨by rfl, ?y30⟩) (by assumption) ?r30
                    case y30 => (intro w hSw; (try dsimp only at hSw); go_simp; (first | done | with_reducible rfl))
                    try simp only [Act.put, List.setIfInBounds_toArray, List.set_cons_zero, List.set_cons_succ]
                    refine take1 (i := 14) (v := ?v31) (some 156) rfl rfl (by kernel_rfl) (by kernel_rfl) (by kernel_rfl) (fun _ _ _ h => h) (Or.inl ⟨by rfl, ?y31⟩) (by assumption) ?r31
                    case y31 => (intro w hSw; (try dsimp only at hSw); go_simp; (first | done | with_reducible rfl))
                    try simp only [Act.put, List.setIfInBounds_toArray, List.set_cons_zero, List.set_cons_succ]
                    refine take1 (i := 15) (v := ?v32) (some 157) rfl rfl (by kernel_rfl) (by kernel_rfl) (by kernel_rfl) (fun _ _ _ h => h) (Or.inl ⟨by rfl, ?y32⟩) (by assumption) ?r32
                    case y32 => (intro w hSw; (try dsimp only at hSw); go_simp; (first | done | with_reducible rfl))
                    try simp only [Act.put, List.setIfInBounds_toArray, List.set_cons_zero, List.set_cons_succ]
                    refine take1 (i := 16) (v := ?v33) (some 20) rfl rfl (by kernel_rfl) (by kernel_rfl) (by kernel_rfl) (fun _ _ _ h => h) (Or.inl ⟨by rfl, ?y33⟩) (by assumption) ?r33
                    case y33 => (intro w hSw; (try dsimp only at hSw); go_simp; (first | done | with_reducible rfl))
                    try simp only [Act.put, List.setIfInBounds_toArray, List.set_cons_zero, List.set_cons_succ]
                    refine take1 (i := 17) (v := ?v34) (some 21) rfl rfl (by kernel_rfl) (by kernel_rfl) (by kernel_rfl) (fun _ _ _ h => h) (Or.inl ⟨by rfl, ?y34⟩) (by assumption) ?r34
                    case y34 => (intro w hSw; (try dsimp only at hSw); go_simp; (first | done | with_reducible rfl))
                    try simp only [Act.put, List.setIfInBounds_toArray, List.set_cons_zero, List.set_cons_succ]
                    refine wpAnyH_done (by kernel_rfl) ?_ _
                    have HQ7 := Lib.hid (QN.out _ _ HQ.out hb7)
                    clear p0 p4 p5 hHeld hb7
                    cases t2 with
                    | false =>
                      go_wp2_with fail
                      go_roundw
                      case rel => exact ⟨j + 1, by omega, by go_num, HQ7.out⟩
                      case measure => simp [intOf]; omega
                    | true =>
                      obtain rfl := HBK.out rfl
                      go_wp2_with fail
                      refine (rLessons_yes _ _ _ _ HR7.out (QL.out _ HQ7.out)).mono ?_
                      rintro e w72 ⟨rfl, hb8⟩
                      have HQ8 := Lib.hid (QN.out _ _ HQ7.out hb8)
                      clear hb8
                      go_wp2_with fail
                      go_roundw
                      case rel => exact ⟨j + 1, by omega, by go_num, HQ8.out⟩
                      case measure => simp [intOf]; omega
                  · have he1 : (y0 == id) = false := beq_eq_false_iff_ne.2 he
                    clear SB
                    go_wp2_with fail
                    go_roundw
                    case rel => exact ⟨j + 1, by omega, by go_num, HQ.out⟩
                    case measure => simp [intOf]; omega
                · have z2 : ¬ (j : Int) < (ls.length : Int) := by omega
                  have hqb := QB.out _ hq
                  have hqk := QK.out _ hq
                  have HB70 : Hid (Below w.heap.size w w70) := Lib.hid hqb
                  have HRk70 := Lib.hid (HRk0.out.below HB70.out (Nat.le_refl _))
                  have HRk70 := Lib.hid (hqk)
                  have HBs70_70 : Hid (Below w70.heap.size w70 w70) := Lib.hid (Below.refl _ _)
                  clear hq hqb hqk
                  go_wp2_with fail
                  refine (drawLongestGap_any _ L _ HRk70.out).mono ?_
                  rintro e w71 ⟨⟨v, us, c, rfl, ho, hl2⟩, hb⟩
                  have HB71 : Hid (Below w.heap.size w w71) := Lib.hid (HB70.out.trans (hb.mono HB70.out.size))
                  have HZ71 : Hid (w70.heap.size ≤ w71.heap.size) := Lib.hid hb.size
                  have HRk71 := Lib.hid (HRk0.out.below HB71.out (Nat.le_refl _))
                  have HBs70_71 : Hid (Below w70.heap.size w70 w71) := Lib.hid (HBs70_70.out.trans (hb.mono HBs70_70.out.size))
                  clear hb
                  obtain ⟨qau, qcu, rfl⟩ := ho.form
                  have HRu71 := Lib.hid (ho)
                  have HBs71_71 : Hid (Below w71.heap.size w71 w71) := Lib.hid (Below.refl _ _)
                  clear ho
                  obtain ⟨g, gt, hg⟩ := gpF_or us c
                  have hg0 : 0 ≤ g := gpF_ge hg
                  have HG := Lib.hid hg
                  have hneg : (g != g) = false := by simp
                  have hnegt : (gt != gt) = false := by simp
                  clear hg hl2
                  go_wp2_with fail
                  refine (implGap_any _ us c _ HRu71.out g gt HG.out).mono ?_
                  rintro e w72 ⟨rfl, hb⟩
                  have HB72 : Hid (Below w.heap.size w w72) := Lib.hid (HB71.out.trans (hb.mono HB71.out.size))
                  have HZ72 : Hid (w71.heap.size ≤ w72.heap.size) := Lib.hid hb.size
                  have HRk72 := Lib.hid (HRk0.out.below HB72.out (Nat.le_refl _))
                  have HRu72 := Lib.hid (HRu71.out.below hb (Nat.le_refl _))
                  have HBs70_72 : Hid (Below w70.heap.size w70 w72) := Lib.hid (HBs70_71.out.trans (hb.mono HBs70_71.out.size))
                  have HBs71_72 : Hid (Below w71.heap.size w71 w72) := Lib.hid (HBs71_71.out.trans (hb.mono HBs71_71.out.size))
                  clear hb
                  go_wp2_with fail
                  refine (specGap_any _ us c _ HRu72.out g gt HG.out).mono ?_
                  rintro e w73 ⟨rfl, hb⟩
                  have HB73 : Hid (Below w.heap.size w w73) := Lib.hid (HB72.out.trans (hb.mono HB72.out.size))
                  have HZ73 : Hid (w72.heap.size ≤ w73.heap.size) := Lib.hid hb.size
                  have HRk73 := Lib.hid (HRk0.out.below HB73.out (Nat.le_refl _))
                  have HRu73 := Lib.hid (HRu72.out.below hb (Nat.le_refl _))
                  have HBs70_73 : Hid (Below w70.heap.size w70 w73) := Lib.hid (HBs70_72.out.trans (hb.mono HBs70_72.out.size))
                  have HBs71_73 : Hid (Below w71.heap.size w71 w73) := Lib.hid (HBs71_72.out.trans (hb.mono HBs71_72.out.size))
                  clear hb
                  go_wp2_with fail
                  refine (drawLessonText_any _ L _ HRk73.out).mono ?_
                  rintro e w74 ⟨⟨v0, v1, v2, v3, v4, v5, v6, rfl⟩, hb⟩
                  have HB74 : Hid (Below w.heap.size w w74) := Lib.hid (HB73.out.trans (hb.mono HB73.out.size))
                  have HZ74 : Hid (w73.heap.size ≤ w74.heap.size) := Lib.hid hb.size
                  have HRk74 := Lib.hid (HRk0.out.below HB74.out (Nat.le_refl _))
                  have HBs70_74 : Hid (Below w70.heap.size w70 w74) := Lib.hid (HBs70_73.out.trans (hb.mono HBs70_73.out.size))
                  clear hb
                  obtain ⟨s, xt, hS, hI, hO⟩ := text_same v0 v1 v2 v3 v4 v5 v6
                  have HS9 := Lib.hid hS
                  have HI9 := Lib.hid hI
                  have HO9 := Lib.hid hO
                  have hes : (s.toList == s.toList) = true := by simp
                  have hext : (xt == xt) = true := by simp
                  clear hS hI hO
                  go_wp2_with fail
                  have hb : Below w74.heap.size w74 (w74.alloc (.cells #[.int .i64 v0, .int .i64 v1, .int .i64 v2, .int .i64 v3, .int .i64 v4, .int .i64 v5, .int .i64 v6] 31)) := (Below.refl _ _).alloc (Nat.le_refl _) _
                  have hk : (w74.alloc (.cells #[.int .i64 v0, .int .i64 v1, .int .i64 v2, .int .i64 v3, .int .i64 v4, .int .i64 v5, .int .i64 v6] 31)).heap[w74.heap.size]? = some (.cells #[.int .i64 v0, .int .i64 v1, .int .i64 v2, .int .i64 v3, .int .i64 v4, .int .i64 v5, .int .i64 v6] 31 (0, 0)) := alloc_at rfl
                  have hz : (w74.alloc (.cells #[.int .i64 v0, .int .i64 v1, .int .i64 v2, .int .i64 v3, .int .i64 v4, .int .i64 v5, .int .i64 v6] 31)).heap.size = w74.heap.size + 1 := by simp
                  generalize w74.alloc (.cells #[.int .i64 v0, .int .i64 v1, .int .i64 v2, .int .i64 v3, .int .i64 v4, .int .i64 v5, .int .i64 v6] 31) = w75 at hb hk hz ⊢
                  have HB75 : Hid (Below w.heap.size w w75) := Lib.hid (HB74.out.trans (hb.mono HB74.out.size))
                  have HZ75 : Hid (w74.heap.size ≤ w75.heap.size) := Lib.hid hb.size
                  have HRk75 := Lib.hid (HRk0.out.below HB75.out (Nat.le_refl _))
                  have HBs70_75 : Hid (Below w70.heap.size w70 w75) := Lib.hid (HBs70_74.out.trans (hb.mono HBs70_74.out.size))
                  have HKxx75 := Lib.hid hk
                  replace HZ75 : Hid (w74.heap.size < w75.heap.size) := Lib.hid (by omega)
                  have HE75 := Lib.hid hz
                  clear hb hk hz
                  have ltxx := lt_of_block HKxx75.out
                  obtain ⟨cxx0, cxx1, cxx2, cxx3, cxx4, cxx5, cxx6, fxx0, fxx1, fxx2, fxx3, fxx4, fxx5, fxx6⟩ := cell7 HKxx75.out
                  refine (HI9.out _ (tab_below HT.out HB75.out) (tabw_below HW.out HB75.out)).mono ?_
                  rintro e w76 ⟨rfl, hb⟩
                  have HB76 : Hid (Below w.heap.size w w76) := Lib.hid (HB75.out.trans (hb.mono HB75.out.size))
                  have HZ76 : Hid (w75.heap.size ≤ w76.heap.size) := Lib.hid hb.size
                  have HRk76 := Lib.hid (HRk0.out.below HB76.out (Nat.le_refl _))
                  have HKxx76 := Lib.hid ((hb.block _ (lt_of_block HKxx75.out)).trans HKxx75.out)
                  have HBs70_76 : Hid (Below w70.heap.size w70 w76) := Lib.hid (HBs70_75.out.trans (hb.mono HBs70_75.out.size))
                  clear hb
                  clear cxx0 cxx1 cxx2 cxx3 cxx4 cxx5 cxx6 fxx0 fxx1 fxx2 fxx3 fxx4 fxx5 fxx6 ltxx
                  have ltxx := lt_of_block HKxx76.out
                  obtain ⟨cxx0, cxx1, cxx2, cxx3, cxx4, cxx5, cxx6, fxx0, fxx1, fxx2, fxx3, fxx4, fxx5, fxx6⟩ := cell7 HKxx76.out
                  go_wp2_with fail
                  refine (HS9.out _).mono ?_
                  rintro e w77 ⟨rfl, hb⟩
                  have HB77 : Hid (Below w.heap.size w w77) := Lib.hid (HB76.out.trans (hb.mono HB76.out.size))
                  have HZ77 : Hid (w76.heap.size ≤ w77.heap.size) := Lib.hid hb.size
                  have HRk77 := Lib.hid (HRk0.out.below HB77.out (Nat.le_refl _))
                  have HKxx77 := Lib.hid ((hb.block _ (lt_of_block HKxx76.out)).trans HKxx76.out)
                  have HBs70_77 : Hid (Below w70.heap.size w70 w77) := Lib.hid (HBs70_76.out.trans (hb.mono HBs70_76.out.size))
                  clear hb
                  clear cxx0 cxx1 cxx2 cxx3 cxx4 cxx5 cxx6 fxx0 fxx1 fxx2 fxx3 fxx4 fxx5 fxx6 ltxx
                  have ltxx := lt_of_block HKxx77.out
                  obtain ⟨cxx0, cxx1, cxx2, cxx3, cxx4, cxx5, cxx6, fxx0, fxx1, fxx2, fxx3, fxx4, fxx5, fxx6⟩ := cell7 HKxx77.out
                  go_wp2_with fail
                  refine (HO9.out _).mono ?_
                  rintro e w78 ⟨rfl, hb⟩
                  have HB78 : Hid (Below w.heap.size w w78) := Lib.hid (HB77.out.trans (hb.mono HB77.out.size))
                  have HZ78 : Hid (w77.heap.size ≤ w78.heap.size) := Lib.hid hb.size
                  have HRk78 := Lib.hid (HRk0.out.below HB78.out (Nat.le_refl _))
                  have HKxx78 := Lib.hid ((hb.block _ (lt_of_block HKxx77.out)).trans HKxx77.out)
                  have HBs70_78 : Hid (Below w70.heap.size w70 w78) := Lib.hid (HBs70_77.out.trans (hb.mono HBs70_77.out.size))
                  clear hb
                  clear cxx0 cxx1 cxx2 cxx3 cxx4 cxx5 cxx6 fxx0 fxx1 fxx2 fxx3 fxx4 fxx5 fxx6 ltxx
                  have ltxx := lt_of_block HKxx78.out
                  obtain ⟨cxx0, cxx1, cxx2, cxx3, cxx4, cxx5, cxx6, fxx0, fxx1, fxx2, fxx3, fxx4, fxx5, fxx6⟩ := cell7 HKxx78.out
                  go_wp2_with fail
                  go_ret
                  exact ⟨ret_bool (by first | (simp; done) | rfl), HB78.out⟩
    | true =>
      obtain ⟨hsum, hrow, hly, hok⟩ := hoF_sum HF.out
      have HSUM := Lib.hid hsum
      have HROW := Lib.hid hrow
      have HOK := Lib.hid hok
      have hlp := okLs_len hok
      have HPM : Hid (∀ j, j < ps.length → 0 ≤ sumM ps j ∧ sumM ps j ≤ 1080) := Lib.hid (fun j hj => by have := sumM_bd HOK.out j (by omega); have := okLs_len HOK.out; omega)
      have HPN : Hid (0 ≤ sumM ps ps.length ∧ sumM ps ps.length ≤ 1080) := Lib.hid (by have := sumM_bd HOK.out ps.length (Nat.le_refl _); omega)
      have HYB : Hid (∀ j, j ≤ ys.length → 0 ≤ sumH ys j ∧ sumH ys j ≤ 30000) := Lib.hid (fun j hj => by have := sumH_bd HROW.out j hj; omega)
      clear hsum hrow hok
      go_wp2_with fail
      go_loopw [8, 9] (fun sv iv wr => ∃ (j : Nat) (y : Int), j ≤ ps.length ∧ iv = .int .i64 j ∧ sv = .int .i64 y ∧ Hid (y = sumM ps j) ∧ P wr) (fun _ iv _ => ps.length - (intOf iv).toNat)
      case atStart => exact ⟨0, 0, Nat.zero_le _, rfl, rfl, Lib.hid rfl, P0.out⟩
      case round =>
        rename World => w50
        obtain ⟨j, y, q1, rfl, rfl, HY, hp⟩ := hrel
        have HPP := Lib.hid hp
        by_cases hlt : j < ps.length
        · have hr := PP.out _ hp
          obtain ⟨b1, o1, rfl, l1, k1⟩ := hr.at _ (Below.refl _ _) j hlt
          have p6 : w50.cell? ⟨b1, o1 + j * 7 + 6, none⟩ = some (.int .i64 ps[j].mins) := k1 6 (by omega)
          have z1 : (0 : Int) ≤ (j : Int) := by omega
          have z2 : (j : Int) < (ps.length : Int) := by omega
          have hx := (okTm_end (okLs_at HOK.out j hlt).2.2.2.2.2).2
          have hy9 := HPM.out j hlt
          rw [← HY.out] at hy9
          have HN : Hid (sumM ps (j + 1) = y + ps[j].mins) := Lib.hid (by rw [sumM, ← HY.out, leD_at ps j hlt])
          clear k1 hr hp
          generalize ps[j].mins = x at p6 hx HN
          have hw1 : IntKind.i64.wrap (y + x) = y + x := by rw [IntKind.wrap_i64]; omega
          go_wp2_with fail
          go_roundw
          case rel => exact ⟨j + 1, y + x, by omega, by go_num, rfl, Lib.hid HN.out.symm, HPP.out⟩
          case measure => simp [intOf]; omega
        · have z2 : ¬ (j : Int) < (ps.length : Int) := by omega
          have hjn : j = ps.length := by omega
          have HY2 : Hid (y = sumM ps ps.length) := Lib.hid (by rw [HY.out, hjn])
          clear hp
          go_wp2_with fail
          go_loopw [8, 10] (fun sv iv wr => ∃ (i : Nat) (z : Int), i ≤ ys.length ∧ iv = .int .i64 i ∧ sv = .int .i64 z ∧ Hid (z = y - sumH ys i) ∧ P wr) (fun _ iv _ => ys.length - (intOf iv).toNat)
          case atStart => exact ⟨0, y, Nat.zero_le _, rfl, rfl, Lib.hid (by simp [sumH]), HPP.out⟩
          case round =>
            rename World => w60
            obtain ⟨i, z, q2, rfl, rfl, HZ, hp⟩ := hrel
            have HP6 := Lib.hid hp
            by_cases hlt2 : i < ys.length
            · obtain ⟨vs, u1, u2, u3⟩ := PY.out _ hp
              have hiv : i < vs.length := by omega
              have u4 : RowsR 1 vC w60 (.slice qay vs.length qcy) vs := by rw [u2]; exact u1
              obtain ⟨b1, o1, rfl, l1, k1⟩ := u4.at _ (Below.refl _ _) i hiv
              have p0 : w60.cell? ⟨b1, o1 + i, none⟩ = some (vs.getD i undef) := by have := k1 0 (by omega); rw [Nat.mul_one] at this; rw [getD_at _ _ _ hiv]; exact this
              have r0 := u3 i hiv
              have e9 : ys.getD i [] = ys[i] := by simp [List.getD, hlt2]
              obtain ⟨t9, m9, hy9, ht9, hm9⟩ := HROW.out _ (List.getElem_mem hlt2)
              rw [e9, hy9] at r0
              have HN : Hid (sumH ys (i + 1) = sumH ys i + m9) := Lib.hid (by rw [sumH, e9, hy9]; rfl)
              generalize vs.getD i undef = u at p0 r0
              obtain ⟨ua, uc, rfl⟩ := r0.form
              obtain ⟨b2, o2, rfl, l2, k2⟩ := r0.at _ (Below.refl _ _) 0 (by simp)
              have c0 : w60.cell? ⟨b2, o2, none⟩ = some (.int .i64 t9) := by have := k2 0 (by omega); simpa [inC] using this
              have HC := Lib.hid (fun w' (hb' : Below w60.heap.size w60 w') => rSum2_any _ t9 m9 w' (r0.below hb' (Nat.le_refl _)) (by omega) (by omega))
              have z3 : (0 : Int) ≤ (i : Int) := by omega
              have z4 : (i : Int) < (ys.length : Int) := by omega
              have hyb := HYB.out i q2
              have hpn := HPN.out
              rw [← HY2.out] at hpn
              have hz9 := HZ.out
              obtain ⟨s9, hs9⟩ : ∃ s9, t9 + m9 = s9 := ⟨_, rfl⟩
              have hw1 : IntKind.i64.wrap (z - s9) = z - s9 := by rw [IntKind.wrap_i64]; omega
              obtain ⟨q9, hq9⟩ : ∃ q9, z - s9 = q9 := ⟨_, rfl⟩
              rw [hq9] at hw1
              have hw2 : IntKind.i64.wrap (q9 + t9) = q9 + t9 := by rw [IntKind.wrap_i64]; omega
              have HV : Hid (q9 + t9 = y - sumH ys (i + 1)) := Lib.hid (by rw [HN.out]; omega)
              rw [hs9] at HC
              clear k1 k2 u1 u2 u3 u4 r0 e9 hy9 hyb hpn hz9 hp hs9
              simp only [List.length_cons, List.length_nil, Nat.zero_add, Nat.reduceAdd] at p0 HC
              go_wp2_with fail
              refine wp_region_held_drew (S := (fun w' => w'.cell? ⟨b1, o1 + i, none⟩ = some (.slice (some ⟨b2, o2, none⟩) 2 uc) ∧ w'.cell? ⟨b2, o2, none⟩ = some (.int .i64 t9))) (by kernel_rfl) (⟨p0, c0⟩) (fun hHeld => ?_)
              refine take1 (i := 0) (v := ?v35) (some 78) rfl rfl (by kernel_rfl) (by kernel_rfl) (by kernel_rfl) (fun _ _ _ h => h) (Or.inl ⟨by rfl, ?y35⟩) (by assumption) ?r35
              case y35 => (intro w hSw; (try dsimp only at hSw); go_simp; (first | done | with_reducible rfl))
              try simp only [Act.put, List.setIfInBounds_toArray, List.set_cons_zero, List.set_cons_succ]
              refine take1 (i := 1) (v := ?v36) (some 79) rfl rfl (by kernel_rfl) (by kernel_rfl) (by kernel_rfl) (fun _ _ _ h => h) (Or.inl ⟨by rfl, ?y36⟩) (by assumption) ?r36
              case y36 => (intro w hSw; (try dsimp only at hSw); go_simp; (first | done | with_reducible rfl))
              try simp only [Act.put, List.setIfInBounds_toArray, List.set_cons_zero, List.set_cons_succ]
              refine take1 (i := 2) (v := ?v37) (some 80) rfl rfl (by kernel_rfl) (by kernel_rfl) (by kernel_rfl) (fun _ _ _ h => h) (Or.inl ⟨by rfl, ?y37⟩) (by assumption) ?r37
              case y37 => (intro w hSw; (try dsimp only at hSw); go_simp; (first | done | with_reducible rfl))
              try simp only [Act.put, List.setIfInBounds_toArray, List.set_cons_zero, List.set_cons_succ]
              refine take1 (i := 3) (v := ?v38) (some 81) rfl rfl (by kernel_rfl) (by kernel_rfl) (by kernel_rfl) (fun _ _ _ h => h) (Or.inl ⟨by rfl, ?y38⟩) (by assumption) ?r38
              case y38 => (intro w hSw; (try dsimp only at hSw); go_simp; (first | done | with_reducible rfl))
              try simp only [Act.put, List.setIfInBounds_toArray, List.set_cons_zero, List.set_cons_succ]
              refine take1 (i := 4) (v := ?v39) (some 82) rfl rfl (by kernel_rfl) (by kernel_rfl) (by kernel_rfl) (fun _ _ _ h => h) (Or.inl ⟨by rfl, ?y39⟩) (by assumption) ?r39
              case y39 => (intro w hSw; (try dsimp only at hSw); go_simp; (first | done | with_reducible rfl))
              try simp only [Act.put, List.setIfInBounds_toArray, List.set_cons_zero, List.set_cons_succ]
              refine take1 (i := 7) (v := ?v40) (some 85) rfl rfl (by kernel_rfl) (by kernel_rfl) (by kernel_rfl) (fun _ _ _ h => h) (Or.inl ⟨by rfl, ?y40⟩) (by assumption) ?r40
              case y40 => (intro w hSw; (try dsimp only at hSw); go_simp; (first | done | with_reducible rfl))
              try simp only [Act.put, List.setIfInBounds_toArray, List.set_cons_zero, List.set_cons_succ]
              refine take1 (i := 8) (v := ?v41) (some 86) rfl rfl (by kernel_rfl) (by kernel_rfl) (by kernel_rfl) (fun _ _ _ h => h) (Or.inl ⟨by rfl, ?y41⟩) (by assumption) ?r41
              case y41 => (intro w hSw; (try dsimp only at hSw); go_simp; (first | done | with_reducible rfl))
              try simp only [Act.put, List.setIfInBounds_toArray, List.set_cons_zero, List.set_cons_succ]
              refine take1 (i := 9) (v := ?v42) (some 87) rfl rfl (by kernel_rfl) (by kernel_rfl) (by kernel_rfl) (fun _ _ _ h => h) (Or.inl ⟨by rfl, ?y42⟩) (by assumption) ?r42
              case y42 => (intro w hSw; (try dsimp only at hSw); go_simp; (first | done | with_reducible rfl))
              try simp only [Act.put, List.setIfInBounds_toArray, List.set_cons_zero, List.set_cons_succ]
              refine take1 (i := 10) (v := ?v43) (some 88) rfl rfl (by kernel_rfl) (by kernel_rfl) (by kernel_rfl) (fun _ _ _ h => h) (Or.inl ⟨by rfl, ?y43⟩) (by assumption) ?r43
              case y43 => (intro w hSw; (try dsimp only at hSw); go_simp; (first | done | with_reducible rfl))
              try simp only [Act.put, List.setIfInBounds_toArray, List.set_cons_zero, List.set_cons_succ]
              refine take1 (i := 11) (v := ?v44) (some 89) rfl rfl (by kernel_rfl) (by kernel_rfl) (by kernel_rfl) (fun _ _ _ h => h) (Or.inl ⟨by rfl, ?y44⟩) (by assumption) ?r44
              case y44 => (intro w hSw; (try dsimp only at hSw); go_simp; (first | done | with_reducible rfl))
              try simp only [Act.put, List.setIfInBounds_toArray, List.set_cons_zero, List.set_cons_succ]
              refine take1 (i := 12) (v := ?v45) (some 90) rfl rfl (by kernel_rfl) (by kernel_rfl) (by kernel_rfl) (fun _ _ _ h => h) (Or.inl ⟨by rfl, ?y45⟩) (by assumption) ?r45
              case y45 => (intro w hSw; (try dsimp only at hSw); go_simp; (first | done | with_reducible rfl))
              try simp only [Act.put, List.setIfInBounds_toArray, List.set_cons_zero, List.set_cons_succ]
              refine wpAnyH_ready (rs := [5]) (by kernel_rfl) (by simp) ?_
              refine AllReadyH.cons rfl (fun K hK => ?_) AllReadyH.nil
              go_simp
              go_at_call 10
              refine (HC.out _ (Below.drew (Below.refl _ _))).mono ?_
              rintro e w61 ⟨rfl, hb'⟩
              have hb6 : Below w60.heap.size w60 w61 := Below.trans (Below.drew (Below.refl _ _)) hb'
              clear hb'
              try go_simp
              refine hK.out _ _ (⟨(hb6.cell (p := ⟨b1, _, none⟩) l1).trans p0, (hb6.cell (p := ⟨b2, _, none⟩) l2).trans c0⟩) (fun hHeld => ?_)
              clear hK K
              try simp only [Act.put, List.setIfInBounds_toArray, List.set_cons_zero, List.set_cons_succ]
              refine take1 (i := 6) (v := ?v46) (some 84) rfl rfl (by kernel_rfl) (by kernel_rfl) (by kernel_rfl) (fun _ _ _ h => h) (Or.inl ⟨by rfl, ?y46⟩) (by assumption) ?r46
              case y46 => (intro w hSw; (try dsimp only at hSw); go_simp; (first | done | with_reducible rfl))
              try simp only [Act.put, List.setIfInBounds_toArray, List.set_cons_zero, List.set_cons_succ]
              refine take1 (i := 13) (v := ?v47) (some 91) rfl rfl (by kernel_rfl) (by kernel_rfl) (by kernel_rfl) (fun _ _ _ h => h) (Or.inl ⟨by rfl, ?y47⟩) (by assumption) ?r47
              case y47 => (intro w hSw; (try dsimp only at hSw); go_simp; (first | done | with_reducible rfl))
              try simp only [Act.put, List.setIfInBounds_toArray, List.set_cons_zero, List.set_cons_succ]
              refine take1 (i := 14) (v := ?v48) (some 8) rfl rfl (by kernel_rfl) (by kernel_rfl) (by kernel_rfl) (fun _ _ _ h => h) (Or.inl ⟨by rfl, ?y48⟩) (by assumption) ?r48
              case y48 => (intro w hSw; (try dsimp only at hSw); go_simp; (first | done | with_reducible rfl))
              try simp only [Act.put, List.setIfInBounds_toArray, List.set_cons_zero, List.set_cons_succ]
              refine wpAnyH_done (by kernel_rfl) ?_ _
              have HP7 := Lib.hid (PN.out _ _ HP6.out hb6)
              clear p0 c0 hHeld hb6
              go_wp2_with fail
              go_roundw
              case rel => exact ⟨i + 1, q9 + t9, by omega, by go_num, rfl, HV, HP7.out⟩
              case measure => simp [intOf]; omega
            · have z4 : ¬ (i : Int) < (ys.length : Int) := by omega
              have hin : i = ys.length := by omega
              have hz0 : z = 0 := by rw [HZ.out, hin, HSUM.out, ← HY2.out]; omega
              subst hz0
              have hpb := PB.out _ hp
              have hpk := PK.out _ hp
              have HB60 : Hid (Below w.heap.size w w60) := Lib.hid hpb
              have HRk60 := Lib.hid (HRk0.out.below HB60.out (Nat.le_refl _))
              have HRk60 := Lib.hid (hpk)
              have HBs60_60 : Hid (Below w60.heap.size w60 w60) := Lib.hid (Below.refl _ _)
              clear hp hpb hpk
              go_wp2_with fail
              refine (drawShiftLesson_any _ L _ HRk60.out).mono ?_
              rintro e w61 ⟨⟨v, ls, id, d, b, rfl, ho, hl1⟩, hb⟩
              have HB61 : Hid (Below w.heap.size w w61) := Lib.hid (HB60.out.trans (hb.mono HB60.out.size))
              have HZ61 : Hid (w60.heap.size ≤ w61.heap.size) := Lib.hid hb.size
              have HRk61 := Lib.hid (HRk0.out.below HB61.out (Nat.le_refl _))
              have HBs60_61 : Hid (Below w60.heap.size w60 w61) := Lib.hid (HBs60_60.out.trans (hb.mono HBs60_60.out.size))
              clear hb
              obtain ⟨qal, qcl, rfl⟩ := ho.form
              have HRl61 := Lib.hid (ho)
              have HBs61_61 : Hid (Below w61.heap.size w61 w61) := Lib.hid (Below.refl _ _)
              clear ho
              obtain ⟨qs, f, hsf⟩ := shF_or ls id d b
              have HSF := Lib.hid hsf
              have hnef : (f != f) = false := by simp
              clear hsf hl1
              go_wp2_with fail
              refine (implShift_any _ ls id d b _ HRl61.out qs f HSF.out).mono ?_
              rintro e w62 ⟨⟨v, rfl, ho⟩, hb⟩
              have HB62 : Hid (Below w.heap.size w w62) := Lib.hid (HB61.out.trans (hb.mono HB61.out.size))
              have HZ62 : Hid (w61.heap.size ≤ w62.heap.size) := Lib.hid hb.size
              have HRk62 := Lib.hid (HRk0.out.below HB62.out (Nat.le_refl _))
              have HRl62 := Lib.hid (HRl61.out.below hb (Nat.le_refl _))
              have HBs60_62 : Hid (Below w60.heap.size w60 w62) := Lib.hid (HBs60_61.out.trans (hb.mono HBs60_61.out.size))
              have HBs61_62 : Hid (Below w61.heap.size w61 w62) := Lib.hid (HBs61_61.out.trans (hb.mono HBs61_61.out.size))
              clear hb
              obtain ⟨qaq, qcq, rfl⟩ := own_form ho
              have HRq62 := Lib.hid ((RowsR.of_own lesC_len ho))
              have HBs62_62 : Hid (Below w62.heap.size w62 w62) := Lib.hid (Below.refl _ _)
              clear ho
              go_wp2_with fail
              refine (specShift_any _ ls id d b _ HRl62.out qs f HSF.out).mono ?_
              rintro e w63 ⟨⟨v, rfl, ho⟩, hb⟩
              have HB63 : Hid (Below w.heap.size w w63) := Lib.hid (HB62.out.trans (hb.mono HB62.out.size))
              have HZ63 : Hid (w62.heap.size ≤ w63.heap.size) := Lib.hid hb.size
              have HRk63 := Lib.hid (HRk0.out.below HB63.out (Nat.le_refl _))
              have HRl63 := Lib.hid (HRl62.out.below hb (Nat.le_refl _))
              have HRq63 := Lib.hid (HRq62.out.below hb (Nat.le_refl _))
              have HBs60_63 : Hid (Below w60.heap.size w60 w63) := Lib.hid (HBs60_62.out.trans (hb.mono HBs60_62.out.size))
              have HBs61_63 : Hid (Below w61.heap.size w61 w63) := Lib.hid (HBs61_62.out.trans (hb.mono HBs61_62.out.size))
              have HBs62_63 : Hid (Below w62.heap.size w62 w63) := Lib.hid (HBs62_62.out.trans (hb.mono HBs62_62.out.size))
              clear hb
              obtain ⟨qar, qcr, rfl⟩ := own_form ho
              have HRr63 := Lib.hid ((RowsR.of_own lesC_len ho))
              have HBs63_63 : Hid (Below w63.heap.size w63 w63) := Lib.hid (Below.refl _ _)
              clear ho
              go_wp2_with fail
              refine (rLessons_yes _ _ qs _ HRq63.out HRr63.out).mono ?_
              rintro e w64 ⟨rfl, hb⟩
              have HB64 : Hid (Below w.heap.size w w64) := Lib.hid (HB63.out.trans (hb.mono HB63.out.size))
              have HZ64 : Hid (w63.heap.size ≤ w64.heap.size) := Lib.hid hb.size
              have HRk64 := Lib.hid (HRk0.out.below HB64.out (Nat.le_refl _))
              have HRl64 := Lib.hid (HRl63.out.below hb (Nat.le_refl _))
              have HRq64 := Lib.hid (HRq63.out.below hb (Nat.le_refl _))
              have HRr64 := Lib.hid (HRr63.out.below hb (Nat.le_refl _))
              have HBs60_64 : Hid (Below w60.heap.size w60 w64) := Lib.hid (HBs60_63.out.trans (hb.mono HBs60_63.out.size))
              have HBs61_64 : Hid (Below w61.heap.size w61 w64) := Lib.hid (HBs61_63.out.trans (hb.mono HBs61_63.out.size))
              have HBs62_64 : Hid (Below w62.heap.size w62 w64) := Lib.hid (HBs62_63.out.trans (hb.mono HBs62_63.out.size))
              have HBs63_64 : Hid (Below w63.heap.size w63 w64) := Lib.hid (HBs63_63.out.trans (hb.mono HBs63_63.out.size))
              clear hb
              have HL8 := Lib.hid HRl64.out
              have HQ8 := Lib.hid HRq64.out
              have HK8 := Lib.hid HRk64.out
              have HB8 := Lib.hid HB64.out
              obtain ⟨Q, hQ⟩ : ∃ Q : World → Prop, ∀ wr, Q wr ↔ Below w64.heap.size w64 wr := ⟨_, fun _ => Iff.rfl⟩
              have Q0 : Hid (Q w64) := Lib.hid ((hQ _).2 (Below.refl _ _))
              have QN : Hid (∀ wr w', Q wr → Below wr.heap.size wr w' → Q w') := Lib.hid (fun wr w' h1 h2 => (hQ _).2 (((hQ _).1 h1).trans (h2.mono ((hQ _).1 h1).size)))
              have QB : Hid (∀ wr, Q wr → Below w.heap.size w wr) := Lib.hid (fun wr h1 => HB8.out.trans (((hQ _).1 h1).mono HB8.out.size))
              have QK : Hid (∀ wr, Q wr → SlR wr (.slice ad L.length cp) (L.map fun c => .int .u8 (c.toNat : Int))) := Lib.hid (fun wr h1 => HK8.out.below ((hQ _).1 h1) (Nat.le_refl _))
              have QL : Hid (∀ wr, Q wr → RowsR 7 lesC wr (.slice qal ls.length qcl) ls) := Lib.hid (fun wr h1 => HL8.out.below ((hQ _).1 h1) (Nat.le_refl _))
              have QQ : Hid (∀ wr, Q wr → RowsR 7 lesC wr (.slice qaq qs.length qcq) qs) := Lib.hid (fun wr h1 => HQ8.out.below ((hQ _).1 h1) (Nat.le_refl _))
              clear hQ HL8 HQ8 HK8 HB8
              have hml : ls.length ≤ 9223372036854775807 := by obtain ⟨_, _, _, ⟨m, _⟩, _⟩ := QL.out _ Q0.out; exact m
              cases f with
              | false =>
                go_wp2_with fail
                go_loopw [19] (fun iv wr => iv = .int .i64 0 ∧ Q wr) (fun _ _ => 0)
                case atStart => exact ⟨rfl, Q0.out⟩
                case round =>
                  rename World => w70
                  obtain ⟨rfl, hq⟩ := hrel
                  have hqb := QB.out _ hq
                  have hqk := QK.out _ hq
                  have HB70 : Hid (Below w.heap.size w w70) := Lib.hid hqb
                  have HRk70 := Lib.hid (HRk0.out.below HB70.out (Nat.le_refl _))
                  have HRk70 := Lib.hid (hqk)
                  have HBs70_70 : Hid (Below w70.heap.size w70 w70) := Lib.hid (Below.refl _ _)
                  clear hq hqb hqk
                  by_cases hl0 : 0 < ls.length
                  · skip
                    go_wp2_with fail
                    refine (drawLongestGap_any _ L _ HRk70.out).mono ?_
                    rintro e w71 ⟨⟨v, us, c, rfl, ho, hl2⟩, hb⟩
                    have HB71 : Hid (Below w.heap.size w w71) := Lib.hid (HB70.out.trans (hb.mono HB70.out.size))
                    have HZ71 : Hid (w70.heap.size ≤ w71.heap.size) := Lib.hid hb.size
                    have HRk71 := Lib.hid (HRk0.out.below HB71.out (Nat.le_refl _))
                    have HBs70_71 : Hid (Below w70.heap.size w70 w71) := Lib.hid (HBs70_70.out.trans (hb.mono HBs70_70.out.size))
                    clear hb
                    obtain ⟨qau, qcu, rfl⟩ := ho.form
                    have HRu71 := Lib.hid (ho)
                    have HBs71_71 : Hid (Below w71.heap.size w71 w71) := Lib.hid (Below.refl _ _)
                    clear ho
                    obtain ⟨g, gt, hg⟩ := gpF_or us c
                    have hg0 : 0 ≤ g := gpF_ge hg
                    have HG := Lib.hid hg
                    have hneg : (g != g) = false := by simp
                    have hnegt : (gt != gt) = false := by simp
                    clear hg hl2
                    go_wp2_with fail
                    refine (implGap_any _ us c _ HRu71.out g gt HG.out).mono ?_
                    rintro e w72 ⟨rfl, hb⟩
                    have HB72 : Hid (Below w.heap.size w w72) := Lib.hid (HB71.out.trans (hb.mono HB71.out.size))
                    have HZ72 : Hid (w71.heap.size ≤ w72.heap.size) := Lib.hid hb.size
                    have HRk72 := Lib.hid (HRk0.out.below HB72.out (Nat.le_refl _))
                    have HRu72 := Lib.hid (HRu71.out.below hb (Nat.le_refl _))
                    have HBs70_72 : Hid (Below w70.heap.size w70 w72) := Lib.hid (HBs70_71.out.trans (hb.mono HBs70_71.out.size))
                    have HBs71_72 : Hid (Below w71.heap.size w71 w72) := Lib.hid (HBs71_71.out.trans (hb.mono HBs71_71.out.size))
                    clear hb
                    go_wp2_with fail
                    refine (specGap_any _ us c _ HRu72.out g gt HG.out).mono ?_
                    rintro e w73 ⟨rfl, hb⟩
                    have HB73 : Hid (Below w.heap.size w w73) := Lib.hid (HB72.out.trans (hb.mono HB72.out.size))
                    have HZ73 : Hid (w72.heap.size ≤ w73.heap.size) := Lib.hid hb.size
                    have HRk73 := Lib.hid (HRk0.out.below HB73.out (Nat.le_refl _))
                    have HRu73 := Lib.hid (HRu72.out.below hb (Nat.le_refl _))
                    have HBs70_73 : Hid (Below w70.heap.size w70 w73) := Lib.hid (HBs70_72.out.trans (hb.mono HBs70_72.out.size))
                    have HBs71_73 : Hid (Below w71.heap.size w71 w73) := Lib.hid (HBs71_72.out.trans (hb.mono HBs71_72.out.size))
                    clear hb
                    go_wp2_with fail
                    refine (drawLessonText_any _ L _ HRk73.out).mono ?_
                    rintro e w74 ⟨⟨v0, v1, v2, v3, v4, v5, v6, rfl⟩, hb⟩
                    have HB74 : Hid (Below w.heap.size w w74) := Lib.hid (HB73.out.trans (hb.mono HB73.out.size))
                    have HZ74 : Hid (w73.heap.size ≤ w74.heap.size) := Lib.hid hb.size
                    have HRk74 := Lib.hid (HRk0.out.below HB74.out (Nat.le_refl _))
                    have HBs70_74 : Hid (Below w70.heap.size w70 w74) := Lib.hid (HBs70_73.out.trans (hb.mono HBs70_73.out.size))
                    clear hb
                    obtain ⟨s, xt, hS, hI, hO⟩ := text_same v0 v1 v2 v3 v4 v5 v6
                    have HS9 := Lib.hid hS
                    have HI9 := Lib.hid hI
                    have HO9 := Lib.hid hO
                    have hes : (s.toList == s.toList) = true := by simp
                    have hext : (xt == xt) = true := by simp
                    clear hS hI hO
                    go_wp2_with fail
                    have hb : Below w74.heap.size w74 (w74.alloc (.cells #[.int .i64 v0, .int .i64 v1, .int .i64 v2, .int .i64 v3, .int .i64 v4, .int .i64 v5, .int .i64 v6] 31)) := (Below.refl _ _).alloc (Nat.le_refl _) _
                    have hk : (w74.alloc (.cells #[.int .i64 v0, .int .i64 v1, .int .i64 v2, .int .i64 v3, .int .i64 v4, .int .i64 v5, .int .i64 v6] 31)).heap[w74.heap.size]? = some (.cells #[.int .i64 v0, .int .i64 v1, .int .i64 v2, .int .i64 v3, .int .i64 v4, .int .i64 v5, .int .i64 v6] 31 (0, 0)) := alloc_at rfl
                    have hz : (w74.alloc (.cells #[.int .i64 v0, .int .i64 v1, .int .i64 v2, .int .i64 v3, .int .i64 v4, .int .i64 v5, .int .i64 v6] 31)).heap.size = w74.heap.size + 1 := by simp
                    generalize w74.alloc (.cells #[.int .i64 v0, .int .i64 v1, .int .i64 v2, .int .i64 v3, .int .i64 v4, .int .i64 v5, .int .i64 v6] 31) = w75 at hb hk hz ⊢
                    have HB75 : Hid (Below w.heap.size w w75) := Lib.hid (HB74.out.trans (hb.mono HB74.out.size))
                    have HZ75 : Hid (w74.heap.size ≤ w75.heap.size) := Lib.hid hb.size
                    have HRk75 := Lib.hid (HRk0.out.below HB75.out (Nat.le_refl _))
                    have HBs70_75 : Hid (Below w70.heap.size w70 w75) := Lib.hid (HBs70_74.out.trans (hb.mono HBs70_74.out.size))
                    have HKxx75 := Lib.hid hk
                    replace HZ75 : Hid (w74.heap.size < w75.heap.size) := Lib.hid (by omega)
                    have HE75 := Lib.hid hz
                    clear hb hk hz
                    have ltxx := lt_of_block HKxx75.out
                    obtain ⟨cxx0, cxx1, cxx2, cxx3, cxx4, cxx5, cxx6, fxx0, fxx1, fxx2, fxx3, fxx4, fxx5, fxx6⟩ := cell7 HKxx75.out
                    refine (HI9.out _ (tab_below HT.out HB75.out) (tabw_below HW.out HB75.out)).mono ?_
                    rintro e w76 ⟨rfl, hb⟩
                    have HB76 : Hid (Below w.heap.size w w76) := Lib.hid (HB75.out.trans (hb.mono HB75.out.size))
                    have HZ76 : Hid (w75.heap.size ≤ w76.heap.size) := Lib.hid hb.size
                    have HRk76 := Lib.hid (HRk0.out.below HB76.out (Nat.le_refl _))
                    have HKxx76 := Lib.hid ((hb.block _ (lt_of_block HKxx75.out)).trans HKxx75.out)
                    have HBs70_76 : Hid (Below w70.heap.size w70 w76) := Lib.hid (HBs70_75.out.trans (hb.mono HBs70_75.out.size))
                    clear hb
                    clear cxx0 cxx1 cxx2 cxx3 cxx4 cxx5 cxx6 fxx0 fxx1 fxx2 fxx3 fxx4 fxx5 fxx6 ltxx
                    have ltxx := lt_of_block HKxx76.out
                    obtain ⟨cxx0, cxx1, cxx2, cxx3, cxx4, cxx5, cxx6, fxx0, fxx1, fxx2, fxx3, fxx4, fxx5, fxx6⟩ := cell7 HKxx76.out
                    go_wp2_with fail
                    refine (HS9.out _).mono ?_
                    rintro e w77 ⟨rfl, hb⟩
                    have HB77 : Hid (Below w.heap.size w w77) := Lib.hid (HB76.out.trans (hb.mono HB76.out.size))
                    have HZ77 : Hid (w76.heap.size ≤ w77.heap.size) := Lib.hid hb.size
                    have HRk77 := Lib.hid (HRk0.out.below HB77.out (Nat.le_refl _))
                    have HKxx77 := Lib.hid ((hb.block _ (lt_of_block HKxx76.out)).trans HKxx76.out)
                    have HBs70_77 : Hid (Below w70.heap.size w70 w77) := Lib.hid (HBs70_76.out.trans (hb.mono HBs70_76.out.size))
                    clear hb
                    clear cxx0 cxx1 cxx2 cxx3 cxx4 cxx5 cxx6 fxx0 fxx1 fxx2 fxx3 fxx4 fxx5 fxx6 ltxx
                    have ltxx := lt_of_block HKxx77.out
                    obtain ⟨cxx0, cxx1, cxx2, cxx3, cxx4, cxx5, cxx6, fxx0, fxx1, fxx2, fxx3, fxx4, fxx5, fxx6⟩ := cell7 HKxx77.out
                    go_wp2_with fail
                    refine (HO9.out _).mono ?_
                    rintro e w78 ⟨rfl, hb⟩
                    have HB78 : Hid (Below w.heap.size w w78) := Lib.hid (HB77.out.trans (hb.mono HB77.out.size))
                    have HZ78 : Hid (w77.heap.size ≤ w78.heap.size) := Lib.hid hb.size
                    have HRk78 := Lib.hid (HRk0.out.below HB78.out (Nat.le_refl _))
                    have HKxx78 := Lib.hid ((hb.block _ (lt_of_block HKxx77.out)).trans HKxx77.out)
                    have HBs70_78 : Hid (Below w70.heap.size w70 w78) := Lib.hid (HBs70_77.out.trans (hb.mono HBs70_77.out.size))
                    clear hb
                    clear cxx0 cxx1 cxx2 cxx3 cxx4 cxx5 cxx6 fxx0 fxx1 fxx2 fxx3 fxx4 fxx5 fxx6 ltxx
                    have ltxx := lt_of_block HKxx78.out
                    obtain ⟨cxx0, cxx1, cxx2, cxx3, cxx4, cxx5, cxx6, fxx0, fxx1, fxx2, fxx3, fxx4, fxx5, fxx6⟩ := cell7 HKxx78.out
                    go_wp2_with fail
                    go_ret
                    exact ⟨ret_bool (by first | (simp; done) | rfl), HB78.out⟩
                  · skip
                    have hl1 : ls.length = 0 := by omega
                    go_wp2_with fail
                    refine (drawLongestGap_any _ L _ HRk70.out).mono ?_
                    rintro e w71 ⟨⟨v, us, c, rfl, ho, hl2⟩, hb⟩
                    have HB71 : Hid (Below w.heap.size w w71) := Lib.hid (HB70.out.trans (hb.mono HB70.out.size))
                    have HZ71 : Hid (w70.heap.size ≤ w71.heap.size) := Lib.hid hb.size
                    have HRk71 := Lib.hid (HRk0.out.below HB71.out (Nat.le_refl _))
                    have HBs70_71 : Hid (Below w70.heap.size w70 w71) := Lib.hid (HBs70_70.out.trans (hb.mono HBs70_70.out.size))
                    clear hb
                    obtain ⟨qau, qcu, rfl⟩ := ho.form
                    have HRu71 := Lib.hid (ho)
                    have HBs71_71 : Hid (Below w71.heap.size w71 w71) := Lib.hid (Below.refl _ _)
                    clear ho
                    obtain ⟨g, gt, hg⟩ := gpF_or us c
                    have hg0 : 0 ≤ g := gpF_ge hg
                    have HG := Lib.hid hg
                    have hneg : (g != g) = false := by simp
                    have hnegt : (gt != gt) = false := by simp
                    clear hg hl2
                    go_wp2_with fail
                    refine (implGap_any _ us c _ HRu71.out g gt HG.out).mono ?_
                    rintro e w72 ⟨rfl, hb⟩
                    have HB72 : Hid (Below w.heap.size w w72) := Lib.hid (HB71.out.trans (hb.mono HB71.out.size))
                    have HZ72 : Hid (w71.heap.size ≤ w72.heap.size) := Lib.hid hb.size
                    have HRk72 := Lib.hid (HRk0.out.below HB72.out (Nat.le_refl _))
                    have HRu72 := Lib.hid (HRu71.out.below hb (Nat.le_refl _))
                    have HBs70_72 : Hid (Below w70.heap.size w70 w72) := Lib.hid (HBs70_71.out.trans (hb.mono HBs70_71.out.size))
                    have HBs71_72 : Hid (Below w71.heap.size w71 w72) := Lib.hid (HBs71_71.out.trans (hb.mono HBs71_71.out.size))
                    clear hb
                    go_wp2_with fail
                    refine (specGap_any _ us c _ HRu72.out g gt HG.out).mono ?_
                    rintro e w73 ⟨rfl, hb⟩
                    have HB73 : Hid (Below w.heap.size w w73) := Lib.hid (HB72.out.trans (hb.mono HB72.out.size))
                    have HZ73 : Hid (w72.heap.size ≤ w73.heap.size) := Lib.hid hb.size
                    have HRk73 := Lib.hid (HRk0.out.below HB73.out (Nat.le_refl _))
                    have HRu73 := Lib.hid (HRu72.out.below hb (Nat.le_refl _))
                    have HBs70_73 : Hid (Below w70.heap.size w70 w73) := Lib.hid (HBs70_72.out.trans (hb.mono HBs70_72.out.size))
                    have HBs71_73 : Hid (Below w71.heap.size w71 w73) := Lib.hid (HBs71_72.out.trans (hb.mono HBs71_72.out.size))
                    clear hb
                    go_wp2_with fail
                    refine (drawLessonText_any _ L _ HRk73.out).mono ?_
                    rintro e w74 ⟨⟨v0, v1, v2, v3, v4, v5, v6, rfl⟩, hb⟩
                    have HB74 : Hid (Below w.heap.size w w74) := Lib.hid (HB73.out.trans (hb.mono HB73.out.size))
                    have HZ74 : Hid (w73.heap.size ≤ w74.heap.size) := Lib.hid hb.size
                    have HRk74 := Lib.hid (HRk0.out.below HB74.out (Nat.le_refl _))
                    have HBs70_74 : Hid (Below w70.heap.size w70 w74) := Lib.hid (HBs70_73.out.trans (hb.mono HBs70_73.out.size))
                    clear hb
                    obtain ⟨s, xt, hS, hI, hO⟩ := text_same v0 v1 v2 v3 v4 v5 v6
                    have HS9 := Lib.hid hS
                    have HI9 := Lib.hid hI
                    have HO9 := Lib.hid hO
                    have hes : (s.toList == s.toList) = true := by simp
                    have hext : (xt == xt) = true := by simp
                    clear hS hI hO
                    go_wp2_with fail
                    have hb : Below w74.heap.size w74 (w74.alloc (.cells #[.int .i64 v0, .int .i64 v1, .int .i64 v2, .int .i64 v3, .int .i64 v4, .int .i64 v5, .int .i64 v6] 31)) := (Below.refl _ _).alloc (Nat.le_refl _) _
                    have hk : (w74.alloc (.cells #[.int .i64 v0, .int .i64 v1, .int .i64 v2, .int .i64 v3, .int .i64 v4, .int .i64 v5, .int .i64 v6] 31)).heap[w74.heap.size]? = some (.cells #[.int .i64 v0, .int .i64 v1, .int .i64 v2, .int .i64 v3, .int .i64 v4, .int .i64 v5, .int .i64 v6] 31 (0, 0)) := alloc_at rfl
                    have hz : (w74.alloc (.cells #[.int .i64 v0, .int .i64 v1, .int .i64 v2, .int .i64 v3, .int .i64 v4, .int .i64 v5, .int .i64 v6] 31)).heap.size = w74.heap.size + 1 := by simp
                    generalize w74.alloc (.cells #[.int .i64 v0, .int .i64 v1, .int .i64 v2, .int .i64 v3, .int .i64 v4, .int .i64 v5, .int .i64 v6] 31) = w75 at hb hk hz ⊢
                    have HB75 : Hid (Below w.heap.size w w75) := Lib.hid (HB74.out.trans (hb.mono HB74.out.size))
                    have HZ75 : Hid (w74.heap.size ≤ w75.heap.size) := Lib.hid hb.size
                    have HRk75 := Lib.hid (HRk0.out.below HB75.out (Nat.le_refl _))
                    have HBs70_75 : Hid (Below w70.heap.size w70 w75) := Lib.hid (HBs70_74.out.trans (hb.mono HBs70_74.out.size))
                    have HKxx75 := Lib.hid hk
                    replace HZ75 : Hid (w74.heap.size < w75.heap.size) := Lib.hid (by omega)
                    have HE75 := Lib.hid hz
                    clear hb hk hz
                    have ltxx := lt_of_block HKxx75.out
                    obtain ⟨cxx0, cxx1, cxx2, cxx3, cxx4, cxx5, cxx6, fxx0, fxx1, fxx2, fxx3, fxx4, fxx5, fxx6⟩ := cell7 HKxx75.out
                    refine (HI9.out _ (tab_below HT.out HB75.out) (tabw_below HW.out HB75.out)).mono ?_
                    rintro e w76 ⟨rfl, hb⟩
                    have HB76 : Hid (Below w.heap.size w w76) := Lib.hid (HB75.out.trans (hb.mono HB75.out.size))
                    have HZ76 : Hid (w75.heap.size ≤ w76.heap.size) := Lib.hid hb.size
                    have HRk76 := Lib.hid (HRk0.out.below HB76.out (Nat.le_refl _))
                    have HKxx76 := Lib.hid ((hb.block _ (lt_of_block HKxx75.out)).trans HKxx75.out)
                    have HBs70_76 : Hid (Below w70.heap.size w70 w76) := Lib.hid (HBs70_75.out.trans (hb.mono HBs70_75.out.size))
                    clear hb
                    clear cxx0 cxx1 cxx2 cxx3 cxx4 cxx5 cxx6 fxx0 fxx1 fxx2 fxx3 fxx4 fxx5 fxx6 ltxx
                    have ltxx := lt_of_block HKxx76.out
                    obtain ⟨cxx0, cxx1, cxx2, cxx3, cxx4, cxx5, cxx6, fxx0, fxx1, fxx2, fxx3, fxx4, fxx5, fxx6⟩ := cell7 HKxx76.out
                    go_wp2_with fail
                    refine (HS9.out _).mono ?_
                    rintro e w77 ⟨rfl, hb⟩
                    have HB77 : Hid (Below w.heap.size w w77) := Lib.hid (HB76.out.trans (hb.mono HB76.out.size))
                    have HZ77 : Hid (w76.heap.size ≤ w77.heap.size) := Lib.hid hb.size
                    have HRk77 := Lib.hid (HRk0.out.below HB77.out (Nat.le_refl _))
                    have HKxx77 := Lib.hid ((hb.block _ (lt_of_block HKxx76.out)).trans HKxx76.out)
                    have HBs70_77 : Hid (Below w70.heap.size w70 w77) := Lib.hid (HBs70_76.out.trans (hb.mono HBs70_76.out.size))
                    clear hb
                    clear cxx0 cxx1 cxx2 cxx3 cxx4 cxx5 cxx6 fxx0 fxx1 fxx2 fxx3 fxx4 fxx5 fxx6 ltxx
                    have ltxx := lt_of_block HKxx77.out
                    obtain ⟨cxx0, cxx1, cxx2, cxx3, cxx4, cxx5, cxx6, fxx0, fxx1, fxx2, fxx3, fxx4, fxx5, fxx6⟩ := cell7 HKxx77.out
                    go_wp2_with fail
                    refine (HO9.out _).mono ?_
                    rintro e w78 ⟨rfl, hb⟩
                    have HB78 : Hid (Below w.heap.size w w78) := Lib.hid (HB77.out.trans (hb.mono HB77.out.size))
                    have HZ78 : Hid (w77.heap.size ≤ w78.heap.size) := Lib.hid hb.size
                    have HRk78 := Lib.hid (HRk0.out.below HB78.out (Nat.le_refl _))
                    have HKxx78 := Lib.hid ((hb.block _ (lt_of_block HKxx77.out)).trans HKxx77.out)
                    have HBs70_78 : Hid (Below w70.heap.size w70 w78) := Lib.hid (HBs70_77.out.trans (hb.mono HBs70_77.out.size))
                    clear hb
                    clear cxx0 cxx1 cxx2 cxx3 cxx4 cxx5 cxx6 fxx0 fxx1 fxx2 fxx3 fxx4 fxx5 fxx6 ltxx
                    have ltxx := lt_of_block HKxx78.out
                    obtain ⟨cxx0, cxx1, cxx2, cxx3, cxx4, cxx5, cxx6, fxx0, fxx1, fxx2, fxx3, fxx4, fxx5, fxx6⟩ := cell7 HKxx78.out
                    go_wp2_with fail
                    go_ret
                    exact ⟨ret_bool (by first | (simp; done) | rfl), HB78.out⟩
              | true =>
                go_wp2_with fail
                go_loopw [19] (fun iv wr => ∃ j : Nat, j ≤ ls.length ∧ iv = .int .i64 j ∧ Q wr) (fun iv _ => ls.length - (intOf iv).toNat)
                case atStart => exact ⟨0, Nat.zero_le _, rfl, Q0.out⟩
                case round =>
                  rename World => w70
                  obtain ⟨j, q1, rfl, hq⟩ := hrel
                  have HQ := Lib.hid hq
                  by_cases hlt : j < ls.length
                  · have hr := QL.out _ hq
                    obtain ⟨b1, o1, rfl, l1, k1⟩ := hr.at _ (Below.refl _ _) j hlt
                    have p0 : w70.cell? ⟨b1, o1 + j * 7, none⟩ = some (.int .i64 ls[j].id) := k1 0 (by omega)
                    have p4 : w70.cell? ⟨b1, o1 + j * 7 + 4, none⟩ = some (.int .i64 ls[j].day) := k1 4 (by omega)
                    have p5 : w70.cell? ⟨b1, o1 + j * 7 + 5, none⟩ = some (.int .i64 ls[j].bgn) := k1 5 (by omega)
                    have z1 : (0 : Int) ≤ (j : Int) := by omega
                    have z2 : (j : Int) < (ls.length : Int) := by omega
                    have SB := Lib.hid (fun he : ls[j].id = id => shift_back HSF.out j hlt he)
                    clear k1 hr hq
                    generalize ls[j].id = y0 at p0 SB
                    generalize ls[j].day = y1 at p4 SB
                    generalize ls[j].bgn = y2 at p5 SB
                    by_cases he : y0 = id
                    · subst y0
                      have he1 : (id == id) = true := by simp
                      obtain ⟨rs, t2, hs2, hb2⟩ := SB.out rfl
                      have HC := Lib.hid (fun w' (h' : Q w') => implShift_any _ qs id y1 y2 w' (QQ.out w' h') rs t2 hs2)
                      have HBK := Lib.hid hb2
                      clear SB hs2 hb2
                      go_wp2_with fail
                      refine wp_region_held_drew (S := (fun w' => w'.cell? ⟨b1, o1 + j * 7 + 4, none⟩ = some (.int .i64 y1) ∧ w'.cell? ⟨b1, o1 + j * 7 + 5, none⟩ = some (.int .i64 y2))) (by kernel_rfl) (⟨p4, p5⟩) (fun hHeld => ?_)
                      refine take1 (i := 0) (v := ?v49) (some 143) rfl rfl (by kernel_rfl) (by kernel_rfl) (by kernel_rfl) (fun _ _ _ h => h) (Or.inl ⟨by rfl, ?y49⟩) (by assumption) ?r49
                      case y49 => (intro w hSw; (try dsimp only at hSw); go_simp; (first | done | with_reducible rfl))
                      try simp only [Act.put, List.setIfInBounds_toArray, List.set_cons_zero, List.set_cons_succ]
                      refine take1 (i := 1) (v := ?v50) (some 144) rfl rfl (by kernel_rfl) (by kernel_rfl) (by kernel_rfl) (fun _ _ _ h => h) (Or.inl ⟨by rfl, ?y50⟩) (by assumption) ?r50
                      case y50 => (intro w hSw; (try dsimp only at hSw); go_simp; (first | done | with_reducible rfl))
                      try simp only [Act.put, List.setIfInBounds_toArray, List.set_cons_zero, List.set_cons_succ]
                      refine take1 (i := 2) (v := ?v51) (some 145) rfl rfl (by kernel_rfl) (by kernel_rfl) (by kernel_rfl) (fun _ _ _ h => h) (Or.inl ⟨by rfl, ?y51⟩) (by assumption) ?r51
                      case y51 => (intro w hSw; (try dsimp only at hSw); go_simp; (first | done | with_reducible rfl))
                      try simp only [Act.put, List.setIfInBounds_toArray, List.set_cons_zero, List.set_cons_succ]
                      refine take1 (i := 3) (v := ?v52) (some 146) rfl rfl (by kernel_rfl) (by kernel_rfl) (by kernel_rfl) (fun _ _ _ h => h) (Or.inl ⟨by rfl, ?y52⟩) (by assumption) ?r52
                      case y52 => (intro w hSw; (try dsimp only at hSw); go_simp; (first | done | with_reducible rfl))
                      try simp only [Act.put, List.setIfInBounds_toArray, List.set_cons_zero, List.set_cons_succ]
                      refine take1 (i := 4) (v := ?v53) (some 147) rfl rfl (by kernel_rfl) (by kernel_rfl) (by kernel_rfl) (fun _ _ _ h => h) (Or.inl ⟨by rfl, ?y53⟩) (by assumption) ?r53
                      case y53 => (intro w hSw; (try dsimp only at hSw); go_simp; (first | done | with_reducible rfl))
                      try simp only [Act.put, List.setIfInBounds_toArray, List.set_cons_zero, List.set_cons_succ]
                      refine take1 (i := 5) (v := ?v54) (some 148) rfl rfl (by kernel_rfl) (by kernel_rfl) (by kernel_rfl) (fun _ _ _ h => h) (Or.inl ⟨by rfl, ?y54⟩) (by assumption) ?r54
                      case y54 => (intro w hSw; (try dsimp only at hSw); go_simp; (first | done | with_reducible rfl))
                      try simp only [Act.put, List.setIfInBounds_toArray, List.set_cons_zero, List.set_cons_succ]
                      refine take1 (i := 6) (v := ?v55) (some 149) rfl rfl (by kernel_rfl) (by kernel_rfl) (by kernel_rfl) (fun _ _ _ h => h) (Or.inl ⟨by rfl, ?y55⟩) (by assumption) ?r55
                      case y55 => (intro w hSw; (try dsimp only at hSw); go_simp; (first | done | with_reducible rfl))
                      try simp only [Act.put, List.setIfInBounds_toArray, List.set_cons_zero, List.set_cons_succ]
                      refine take1 (i := 7) (v := ?v56) (some 150) rfl rfl (by kernel_rfl) (by kernel_rfl) (by kernel_rfl) (fun _ _ _ h => h) (Or.inl ⟨by rfl, ?y56⟩) (by assumption) ?r56
                      case y56 => (intro w hSw; (try dsimp only at hSw); go_simp; (first | done | with_reducible rfl))
                      try simp only [Act.put, List.setIfInBounds_toArray, List.set_cons_zero, List.set_cons_succ]
                      refine take1 (i := 8) (v := ?v57) (some 151) rfl rfl (by kernel_rfl) (by kernel_rfl) (by kernel_rfl) (fun _ _ _ h => h) (Or.inl ⟨by rfl, ?y57⟩) (by assumption) ?r57
                      case y57 => (intro w hSw; (try dsimp only at hSw); go_simp; (first | done | with_reducible rfl))
                      try simp only [Act.put, List.setIfInBounds_toArray, List.set_cons_zero, List.set_cons_succ]
                      refine take1 (i := 9) (v := ?v58) (some 152) rfl rfl (by kernel_rfl) (by kernel_rfl) (by kernel_rfl) (fun _ _ _ h => h) (Or.inl ⟨by rfl, ?y58⟩) (by assumption) ?r58
                      case y58 => (intro w hSw; (try dsimp only at hSw); go_simp; (first | done | with_reducible rfl))
                      try simp only [Act.put, List.setIfInBounds_toArray, List.set_cons_zero, List.set_cons_succ]
                      refine take1 (i := 10) (v := ?v59) (some 153) rfl rfl (by kernel_rfl) (by kernel_rfl) (by kernel_rfl) (fun _ _ _ h => h) (Or.inl ⟨by rfl, ?y59⟩) (by assumption) ?r59
                      case y59 => (intro w hSw; (try dsimp only at hSw); go_simp; (first | done | with_reducible rfl))
                      try simp only [Act.put, List.setIfInBounds_toArray, List.set_cons_zero, List.set_cons_succ]
                      refine take1 (i := 11) (v := ?v60) (some 154) rfl rfl (by kernel_rfl) (by kernel_rfl) (by kernel_rfl) (fun _ _ _ h => h) (Or.inl ⟨by rfl, ?y60⟩) (by assumption) ?r60
                      case y60 => (intro w hSw; (try dsimp only at hSw); go_simp; (first | done | with_reducible rfl))
                      try simp only [Act.put, List.setIfInBounds_toArray, List.set_cons_zero, List.set_cons_succ]
                      refine wpAnyH_ready (rs := [12]) (by kernel_rfl) (by simp) ?_
                      refine AllReadyH.cons rfl (fun K hK => ?_) AllReadyH.nil
                      go_simp
                      go_at_call 12
                      refine (HC.out _ (QN.out _ _ HQ.out (Below.drew (Below.refl _ _)))).mono ?_
                      rintro e w71 ⟨⟨sq, rfl, ho⟩, hb'⟩
                      obtain ⟨sa, sc, rfl⟩ := own_form ho
                      have hb7 : Below w70.heap.size w70 w71 := Below.trans (Below.drew (Below.refl _ _)) hb'
                      have HR7 := Lib.hid (RowsR.of_own lesC_len ho)
                      clear hb' ho
                      try go_simp
                      refine hK.out _ _ (⟨(hb7.cell (p := ⟨b1, _, none⟩) l1).trans p4, (hb7.cell (p := ⟨b1, _, none⟩) l1).trans p5⟩) (fun hHeld => ?_)
                      clear hK K
                      try simp only [Act.put, List.setIfInBounds_toArray, List.set_cons_zero, List.set_cons_succ]
                      refine take1 (i := 13) (v := ?v61) (some 142) rfl rfl (by kernel_rfl) (by kernel_rfl) (by kernel_rfl) (fun _ _ _ h => h) (Or.inl ⟨by rfl, ?y61⟩) (by assumption) ?r61
                      case y61 => (intro w hSw; (try dsimp only at hSw); go_simp; (first | done | with_reducible rfl))
                      try simp only [Act.put, List.setIfInBounds_toArray, List.set_cons_zero, List.set_cons_succ]
                      refine take1 (i := 14) (v := ?v62) (some 156) rfl rfl (by kernel_rfl) (by kernel_rfl) (by kernel_rfl) (fun _ _ _ h => h) (Or.inl ⟨by rfl, ?y62⟩) (by assumption) ?r62
                      case y62 => (intro w hSw; (try dsimp only at hSw); go_simp; (first | done | with_reducible rfl))
                      try simp only [Act.put, List.setIfInBounds_toArray, List.set_cons_zero, List.set_cons_succ]
                      refine take1 (i := 15) (v := ?v63) (some 157) rfl rfl (by kernel_rfl) (by kernel_rfl) (by kernel_rfl) (fun _ _ _ h => h) (Or.inl ⟨by rfl, ?y63⟩) (by assumption) ?r63
                      case y63 => (intro w hSw; (try dsimp only at hSw); go_simp; (first | done | with_reducible rfl))
                      try simp only [Act.put, List.setIfInBounds_toArray, List.set_cons_zero, List.set_cons_succ]
                      refine take1 (i := 16) (v := ?v64) (some 20) rfl rfl (by kernel_rfl) (by kernel_rfl) (by kernel_rfl) (fun _ _ _ h => h) (Or.inl ⟨by rfl, ?y64⟩) (by assumption) ?r64
                      case y64 => (intro w hSw; (try dsimp only at hSw); go_simp; (first | done | with_reducible rfl))
                      try simp only [Act.put, List.setIfInBounds_toArray, List.set_cons_zero, List.set_cons_succ]
                      refine take1 (i := 17) (v := ?v65) (some 21) rfl rfl (by kernel_rfl) (by kernel_rfl) (by kernel_rfl) (fun _ _ _ h => h) (Or.inl ⟨by rfl, ?y65⟩) (by assumption) ?r65
                      case y65 => (intro w hSw; (try dsimp only at hSw); go_simp; (first | done | with_reducible rfl))
                      try simp only [Act.put, List.setIfInBounds_toArray, List.set_cons_zero, List.set_cons_succ]
                      refine wpAnyH_done (by kernel_rfl) ?_ _
                      have HQ7 := Lib.hid (QN.out _ _ HQ.out hb7)
                      clear p0 p4 p5 hHeld hb7
                      cases t2 with
                      | false =>
                        go_wp2_with fail
                        go_roundw
                        case rel => exact ⟨j + 1, by omega, by go_num, HQ7.out⟩
                        case measure => simp [intOf]; omega
                      | true =>
                        obtain rfl := HBK.out rfl
                        go_wp2_with fail
                        refine (rLessons_yes _ _ _ _ HR7.out (QL.out _ HQ7.out)).mono ?_
                        rintro e w72 ⟨rfl, hb8⟩
                        have HQ8 := Lib.hid (QN.out _ _ HQ7.out hb8)
                        clear hb8
                        go_wp2_with fail
                        go_roundw
                        case rel => exact ⟨j + 1, by omega, by go_num, HQ8.out⟩
                        case measure => simp [intOf]; omega
                    · have he1 : (y0 == id) = false := beq_eq_false_iff_ne.2 he
                      clear SB
                      go_wp2_with fail
                      go_roundw
                      case rel => exact ⟨j + 1, by omega, by go_num, HQ.out⟩
                      case measure => simp [intOf]; omega
                  · have z2 : ¬ (j : Int) < (ls.length : Int) := by omega
                    have hqb := QB.out _ hq
                    have hqk := QK.out _ hq
                    have HB70 : Hid (Below w.heap.size w w70) := Lib.hid hqb
                    have HRk70 := Lib.hid (HRk0.out.below HB70.out (Nat.le_refl _))
                    have HRk70 := Lib.hid (hqk)
                    have HBs70_70 : Hid (Below w70.heap.size w70 w70) := Lib.hid (Below.refl _ _)
                    clear hq hqb hqk
                    go_wp2_with fail
                    refine (drawLongestGap_any _ L _ HRk70.out).mono ?_
                    rintro e w71 ⟨⟨v, us, c, rfl, ho, hl2⟩, hb⟩
                    have HB71 : Hid (Below w.heap.size w w71) := Lib.hid (HB70.out.trans (hb.mono HB70.out.size))
                    have HZ71 : Hid (w70.heap.size ≤ w71.heap.size) := Lib.hid hb.size
                    have HRk71 := Lib.hid (HRk0.out.below HB71.out (Nat.le_refl _))
                    have HBs70_71 : Hid (Below w70.heap.size w70 w71) := Lib.hid (HBs70_70.out.trans (hb.mono HBs70_70.out.size))
                    clear hb
                    obtain ⟨qau, qcu, rfl⟩ := ho.form
                    have HRu71 := Lib.hid (ho)
                    have HBs71_71 : Hid (Below w71.heap.size w71 w71) := Lib.hid (Below.refl _ _)
                    clear ho
                    obtain ⟨g, gt, hg⟩ := gpF_or us c
                    have hg0 : 0 ≤ g := gpF_ge hg
                    have HG := Lib.hid hg
                    have hneg : (g != g) = false := by simp
                    have hnegt : (gt != gt) = false := by simp
                    clear hg hl2
                    go_wp2_with fail
                    refine (implGap_any _ us c _ HRu71.out g gt HG.out).mono ?_
                    rintro e w72 ⟨rfl, hb⟩
                    have HB72 : Hid (Below w.heap.size w w72) := Lib.hid (HB71.out.trans (hb.mono HB71.out.size))
                    have HZ72 : Hid (w71.heap.size ≤ w72.heap.size) := Lib.hid hb.size
                    have HRk72 := Lib.hid (HRk0.out.below HB72.out (Nat.le_refl _))
                    have HRu72 := Lib.hid (HRu71.out.below hb (Nat.le_refl _))
                    have HBs70_72 : Hid (Below w70.heap.size w70 w72) := Lib.hid (HBs70_71.out.trans (hb.mono HBs70_71.out.size))
                    have HBs71_72 : Hid (Below w71.heap.size w71 w72) := Lib.hid (HBs71_71.out.trans (hb.mono HBs71_71.out.size))
                    clear hb
                    go_wp2_with fail
                    refine (specGap_any _ us c _ HRu72.out g gt HG.out).mono ?_
                    rintro e w73 ⟨rfl, hb⟩
                    have HB73 : Hid (Below w.heap.size w w73) := Lib.hid (HB72.out.trans (hb.mono HB72.out.size))
                    have HZ73 : Hid (w72.heap.size ≤ w73.heap.size) := Lib.hid hb.size
                    have HRk73 := Lib.hid (HRk0.out.below HB73.out (Nat.le_refl _))
                    have HRu73 := Lib.hid (HRu72.out.below hb (Nat.le_refl _))
                    have HBs70_73 : Hid (Below w70.heap.size w70 w73) := Lib.hid (HBs70_72.out.trans (hb.mono HBs70_72.out.size))
                    have HBs71_73 : Hid (Below w71.heap.size w71 w73) := Lib.hid (HBs71_72.out.trans (hb.mono HBs71_72.out.size))
                    clear hb
                    go_wp2_with fail
                    refine (drawLessonText_any _ L _ HRk73.out).mono ?_
                    rintro e w74 ⟨⟨v0, v1, v2, v3, v4, v5, v6, rfl⟩, hb⟩
                    have HB74 : Hid (Below w.heap.size w w74) := Lib.hid (HB73.out.trans (hb.mono HB73.out.size))
                    have HZ74 : Hid (w73.heap.size ≤ w74.heap.size) := Lib.hid hb.size
                    have HRk74 := Lib.hid (HRk0.out.below HB74.out (Nat.le_refl _))
                    have HBs70_74 : Hid (Below w70.heap.size w70 w74) := Lib.hid (HBs70_73.out.trans (hb.mono HBs70_73.out.size))
                    clear hb
                    obtain ⟨s, xt, hS, hI, hO⟩ := text_same v0 v1 v2 v3 v4 v5 v6
                    have HS9 := Lib.hid hS
                    have HI9 := Lib.hid hI
                    have HO9 := Lib.hid hO
                    have hes : (s.toList == s.toList) = true := by simp
                    have hext : (xt == xt) = true := by simp
                    clear hS hI hO
                    go_wp2_with fail
                    have hb : Below w74.heap.size w74 (w74.alloc (.cells #[.int .i64 v0, .int .i64 v1, .int .i64 v2, .int .i64 v3, .int .i64 v4, .int .i64 v5, .int .i64 v6] 31)) := (Below.refl _ _).alloc (Nat.le_refl _) _
                    have hk : (w74.alloc (.cells #[.int .i64 v0, .int .i64 v1, .int .i64 v2, .int .i64 v3, .int .i64 v4, .int .i64 v5, .int .i64 v6] 31)).heap[w74.heap.size]? = some (.cells #[.int .i64 v0, .int .i64 v1, .int .i64 v2, .int .i64 v3, .int .i64 v4, .int .i64 v5, .int .i64 v6] 31 (0, 0)) := alloc_at rfl
                    have hz : (w74.alloc (.cells #[.int .i64 v0, .int .i64 v1, .int .i64 v2, .int .i64 v3, .int .i64 v4, .int .i64 v5, .int .i64 v6] 31)).heap.size = w74.heap.size + 1 := by simp
                    generalize w74.alloc (.cells #[.int .i64 v0, .int .i64 v1, .int .i64 v2, .int .i64 v3, .int .i64 v4, .int .i64 v5, .int .i64 v6] 31) = w75 at hb hk hz ⊢
                    have HB75 : Hid (Below w.heap.size w w75) := Lib.hid (HB74.out.trans (hb.mono HB74.out.size))
                    have HZ75 : Hid (w74.heap.size ≤ w75.heap.size) := Lib.hid hb.size
                    have HRk75 := Lib.hid (HRk0.out.below HB75.out (Nat.le_refl _))
                    have HBs70_75 : Hid (Below w70.heap.size w70 w75) := Lib.hid (HBs70_74.out.trans (hb.mono HBs70_74.out.size))
                    have HKxx75 := Lib.hid hk
                    replace HZ75 : Hid (w74.heap.size < w75.heap.size) := Lib.hid (by omega)
                    have HE75 := Lib.hid hz
                    clear hb hk hz
                    have ltxx := lt_of_block HKxx75.out
                    obtain ⟨cxx0, cxx1, cxx2, cxx3, cxx4, cxx5, cxx6, fxx0, fxx1, fxx2, fxx3, fxx4, fxx5, fxx6⟩ := cell7 HKxx75.out
                    refine (HI9.out _ (tab_below HT.out HB75.out) (tabw_below HW.out HB75.out)).mono ?_
                    rintro e w76 ⟨rfl, hb⟩
                    have HB76 : Hid (Below w.heap.size w w76) := Lib.hid (HB75.out.trans (hb.mono HB75.out.size))
                    have HZ76 : Hid (w75.heap.size ≤ w76.heap.size) := Lib.hid hb.size
                    have HRk76 := Lib.hid (HRk0.out.below HB76.out (Nat.le_refl _))
                    have HKxx76 := Lib.hid ((hb.block _ (lt_of_block HKxx75.out)).trans HKxx75.out)
                    have HBs70_76 : Hid (Below w70.heap.size w70 w76) := Lib.hid (HBs70_75.out.trans (hb.mono HBs70_75.out.size))
                    clear hb
                    clear cxx0 cxx1 cxx2 cxx3 cxx4 cxx5 cxx6 fxx0 fxx1 fxx2 fxx3 fxx4 fxx5 fxx6 ltxx
                    have ltxx := lt_of_block HKxx76.out
                    obtain ⟨cxx0, cxx1, cxx2, cxx3, cxx4, cxx5, cxx6, fxx0, fxx1, fxx2, fxx3, fxx4, fxx5, fxx6⟩ := cell7 HKxx76.out
                    go_wp2_with fail
                    refine (HS9.out _).mono ?_
                    rintro e w77 ⟨rfl, hb⟩
                    have HB77 : Hid (Below w.heap.size w w77) := Lib.hid (HB76.out.trans (hb.mono HB76.out.size))
                    have HZ77 : Hid (w76.heap.size ≤ w77.heap.size) := Lib.hid hb.size
                    have HRk77 := Lib.hid (HRk0.out.below HB77.out (Nat.le_refl _))
                    have HKxx77 := Lib.hid ((hb.block _ (lt_of_block HKxx76.out)).trans HKxx76.out)
                    have HBs70_77 : Hid (Below w70.heap.size w70 w77) := Lib.hid (HBs70_76.out.trans (hb.mono HBs70_76.out.size))
                    clear hb
                    clear cxx0 cxx1 cxx2 cxx3 cxx4 cxx5 cxx6 fxx0 fxx1 fxx2 fxx3 fxx4 fxx5 fxx6 ltxx
                    have ltxx := lt_of_block HKxx77.out
                    obtain ⟨cxx0, cxx1, cxx2, cxx3, cxx4, cxx5, cxx6, fxx0, fxx1, fxx2, fxx3, fxx4, fxx5, fxx6⟩ := cell7 HKxx77.out
                    go_wp2_with fail
                    refine (HO9.out _).mono ?_
                    rintro e w78 ⟨rfl, hb⟩
                    have HB78 : Hid (Below w.heap.size w w78) := Lib.hid (HB77.out.trans (hb.mono HB77.out.size))
                    have HZ78 : Hid (w77.heap.size ≤ w78.heap.size) := Lib.hid hb.size
                    have HRk78 := Lib.hid (HRk0.out.below HB78.out (Nat.le_refl _))
                    have HKxx78 := Lib.hid ((hb.block _ (lt_of_block HKxx77.out)).trans HKxx77.out)
                    have HBs70_78 : Hid (Below w70.heap.size w70 w78) := Lib.hid (HBs70_77.out.trans (hb.mono HBs70_77.out.size))
                    clear hb
                    clear cxx0 cxx1 cxx2 cxx3 cxx4 cxx5 cxx6 fxx0 fxx1 fxx2 fxx3 fxx4 fxx5 fxx6 ltxx
                    have ltxx := lt_of_block HKxx78.out
                    obtain ⟨cxx0, cxx1, cxx2, cxx3, cxx4, cxx5, cxx6, fxx0, fxx1, fxx2, fxx3, fxx4, fxx5, fxx6⟩ := cell7 HKxx78.out
                    go_wp2_with fail
                    go_ret
                    exact ⟨ret_bool (by first | (simp; done) | rfl), HB78.out⟩
end Go.Proofs.YtblbeoeklkcamaaDoor
