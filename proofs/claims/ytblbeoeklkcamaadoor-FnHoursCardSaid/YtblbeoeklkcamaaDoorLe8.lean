/- The model's TeacherHours. -/
import Derived.Test.YtblbeoeklkcamaaDoorLe3
import Derived.Test.YtblbeoeklkcamaaDoorTf
import Derived.Test.YtblbeoeklkcamaaDoorPp
namespace Go.Proofs.YtblbeoeklkcamaaDoor
set_option linter.unusedVariables false
open Go.RowKit

set_option maxRecDepth 100000 in
set_option maxHeartbeats 800000 in
theorem specHours_no (v : Value) (ps : List Les) (w : World) (h : RowsR 7 lesC w v ps) (hn : ¬ okLs ps) :
    Calls Tryd.prog 8 #[v] w fun e w' => (∃ sq vs, e = .returned (.tuple #[sq, .bool false]) ∧ OwnSS w.heap.size w'.heap.size w' sq vs []) ∧ Below w.heap.size w w' := by
  have HR := Lib.hid h
  have HN := Lib.hid hn
  obtain ⟨a, cp, rfl⟩ := h.form
  clear h hn
  go_enter Tryd.func8, Tryd.ntmps8
  go_wp2_with fail
  have hb0 : Below w.heap.size w (w.alloc (.cells #[] 33)) := (Below.refl _ _).alloc (Nat.le_refl _) _
  have ho0 := World.ownsRow_made (base := w.heap.size) (e := 33) (size := 1) w #[] 0 (Nat.le_refl _) (Nat.zero_le _) (by simp)
  generalize w.alloc (.cells #[] 33) = w1 at hb0 ho0 ⊢
  have HB1 := Lib.hid hb0
  have HO1 := Lib.hid ho0
  clear hb0 ho0
  refine (l11Good_no _ ps _ (HR.out.below HB1.out (Nat.le_refl _)) HN.out).mono ?_
  rintro e w2 ⟨rfl, hb2⟩
  have HB2 := Lib.hid (HB1.out.trans (hb2.mono HB1.out.size))
  have HO2 := Lib.hid (own_below HO1.out hb2)
  clear hb2
  go_wp2_with fail
  go_ret2
  exact ⟨⟨_, [], rfl, OwnSS.empty HB2.out.size HO2.out (fun g hg => (HO2.out.lt g hg).2)⟩, HB2.out⟩
set_option maxRecDepth 100000 in
set_option maxHeartbeats 6400000 in
theorem specHours_ok (v : Value) (ps : List Les) (w : World) (h : RowsR 7 lesC w v ps) (ho : okLs ps) :
    Calls Tryd.prog 8 #[v] w fun e w' => (∃ sq vs, e = .returned (.tuple #[sq, .bool true]) ∧ OwnSS w.heap.size w'.heap.size w' sq vs (hoL ps 21)) ∧ Below w.heap.size w w' := by
  have hl := okLs_len ho
  have HR := Lib.hid h
  have HO := Lib.hid ho
  obtain ⟨a, cp, rfl⟩ := h.form
  have R1 := Lib.hid h.at
  clear h ho
  go_enter Tryd.func8, Tryd.ntmps8
  go_wp2_with fail
  have hb0 : Below w.heap.size w (w.alloc (.cells #[] 33)) := (Below.refl _ _).alloc (Nat.le_refl _) _
  have ho0 := World.ownsRow_made (base := w.heap.size) (e := 33) (size := 1) w #[] 0 (Nat.le_refl _) (Nat.zero_le _) (by simp)
  generalize w.alloc (.cells #[] 33) = w1 at hb0 ho0 ⊢
  have HB1 := Lib.hid hb0
  have HO1 := Lib.hid ho0
  clear hb0 ho0
  refine (l11Good_yes _ ps _ (HR.out.below HB1.out (Nat.le_refl _)) HO.out).mono ?_
  rintro e w2 ⟨rfl, hb2⟩
  have HB2 := Lib.hid (HB1.out.trans (hb2.mono HB1.out.size))
  have HO2 := Lib.hid (own_below HO1.out hb2)
  clear hb2
  go_wp2_with fail
  go_loopw [4, 5] (fun out tv wr => ∃ (n : Nat) (vs : List Value), 1 ≤ n ∧ n ≤ 21 ∧ tv = .int .i64 n ∧ OwnSS w.heap.size wr.heap.size wr out vs (hoL ps n) ∧ Below w.heap.size w wr) (fun _ tv _ => 30 - (intOf tv).toNat)
  case atStart => exact ⟨1, [], by omega, by omega, rfl, by rw [hoL_one HO.out]; exact OwnSS.empty HB2.out.size HO2.out (fun g hg => (HO2.out.lt g hg).2), HB2.out⟩
  case round =>
    obtain ⟨n, vs, hn1, hn, rfl, hss, hb⟩ := hrel
    rename World => wo
    have HBo := Lib.hid hb
    have HSo := Lib.hid hss
    obtain ⟨oa, oc, hform⟩ := hss.form
    have HLV : Hid (vs.length ≤ 1000) := Lib.hid (by have h1 := hss.len; have h2 := (hoL_len ps n).1; omega)
    subst hform
    clear hb hss
    by_cases h20 : n ≤ 20
    · have z1 : (n : Int) ≤ 20 := by omega
      go_wp2_with fail
      go_loopw [6, 7] (fun sv iv wr => ∃ i : Nat, i ≤ ps.length ∧ iv = .int .i64 i ∧ sv = .int .i64 (minT ps n i) ∧ Below wo.heap.size wo wr) (fun _ iv _ => ps.length - (intOf iv).toNat)
      case atStart => exact ⟨0, Nat.zero_le _, rfl, rfl, Below.refl _ _⟩
      case round =>
        obtain ⟨i, hi', rfl, rfl, hb⟩ := hrel
        rename World => wi
        have HBi := Lib.hid hb
        have HBW : Hid (Below w.heap.size w wi) := Lib.hid (HBo.out.trans (hb.mono HBo.out.size))
        clear hb
        by_cases hlt : i < ps.length
        · have y1 : (0 : Int) ≤ (i : Int) := by omega
          have y2 : (i : Int) < (ps.length : Int) := by omega
          obtain ⟨b1, o1, rfl, l1, k1⟩ := R1.out _ HBW.out i hlt
          obtain ⟨x, hx⟩ : ∃ x, leD ps i = x := ⟨_, rfl⟩
          have hbd := minT_bd HO.out (n : Int) i (by omega)
          have hmi := (okTm_end (okLs_at HO.out i hlt).2.2.2.2.2).2
          have HST : Hid (minT ps n (i + 1) = if x.tch = (n : Int) then minT ps n i + x.mins else minT ps n i) := Lib.hid (by rw [minT, hx])
          rw [← leD_at ps i hlt, hx] at k1 hmi
          have p2 : wi.cell? ⟨b1, o1 + i * 7 + 2, none⟩ = some (.int .i64 x.tch) := k1 2 (by omega)
          have p6 : wi.cell? ⟨b1, o1 + i * 7 + 6, none⟩ = some (.int .i64 x.mins) := k1 6 (by omega)
          obtain ⟨S, hS⟩ : ∃ S, minT ps (n : Int) i = S := ⟨_, rfl⟩
          rw [hS] at hbd HST ⊢
          have hwr : IntKind.i64.wrap (S + x.mins) = S + x.mins := by rw [IntKind.wrap_i64]; omega
          clear k1 hx hS hbd hmi
          by_cases htc : x.tch = (n : Int)
          · have htc' : (x.tch == (n : Int)) = true := by simpa using htc
            have HS2 : Hid (minT ps n (i + 1) = S + x.mins) := Lib.hid (by rw [HST.out, if_pos htc])
            clear htc
            go_wp2_with fail
            go_roundw
            case rel => exact ⟨i + 1, by omega, by go_num, by rw [HS2.out], HBi.out⟩
            case measure => simp [intOf]; omega
          · have htc' : (x.tch == (n : Int)) = false := by simpa using htc
            have HS2 : Hid (minT ps n (i + 1) = S) := Lib.hid (by rw [HST.out, if_neg htc])
            clear htc
            go_wp2_with fail
            go_roundw
            case rel => exact ⟨i + 1, by omega, by go_num, by rw [HS2.out], HBi.out⟩
            case measure => simp [intOf]; omega
        · obtain rfl : i = ps.length := by omega
          have HS4 := Lib.hid ((HSo.out.next HBi.out).rehi HBi.out.size)
          obtain ⟨S, hS⟩ : ∃ S, minT ps (n : Int) ps.length = S := ⟨_, rfl⟩
          have HSS := Lib.hid hS
          rw [hS]
          clear hS
          by_cases h0 : 0 < S
          · have HE : Hid (hoL ps (n + 1) = hoL ps n ++ [[(n : Int), S]]) := Lib.hid (by rw [hoL, HSS.out, if_pos h0])
            obtain ⟨Q, hQ⟩ : ∃ Q, hoL ps n = Q := ⟨_, rfl⟩
            rw [hQ] at HS4 HE ⊢
            clear hQ
            go_wp2_with (at_builtin; refine wpList_push2 rfl _ _ rfl wi w w.heap.size (.slice oa Q.length oc) vs Q (n : Int) S rfl rfl HS4.out HBW.out HBW.out.size (by have := HLV.out; omega) ?_)
            intro v5 w5 hs5 hb6
            have HS5 := Lib.hid hs5
            have HB5 := Lib.hid hb6
            clear hs5 hb6
            go_wp2_with fail
            go_roundw
            case rel => exact ⟨n + 1, _, by omega, by omega, by go_num, by rw [HE.out]; exact HS5.out, HB5.out⟩
            case measure => simp [intOf]; omega
          · have HE : Hid (hoL ps (n + 1) = hoL ps n) := Lib.hid (by rw [hoL, HSS.out, if_neg h0])
            go_wp2_with fail
            go_roundw
            case rel => exact ⟨n + 1, vs, by omega, by omega, by go_num, by rw [HE.out]; exact HS4.out, HBW.out⟩
            case measure => simp [intOf]; omega
    · obtain rfl : n = 21 := by omega
      go_wp2_with fail
      go_ret2
      exact ⟨⟨_, vs, rfl, HSo.out⟩, HBo.out⟩
end Go.Proofs.YtblbeoeklkcamaaDoor
