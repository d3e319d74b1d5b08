/- The program's ClashingPairs. -/
import Derived.Test.YtblbeoeklkcamaaLi2
import Derived.Test.YtblbeoeklkcamaaTp
import Derived.Test.YtblbeoeklkcamaaPp
namespace Go.Proofs.Ytblbeoeklkcamaa
set_option linter.unusedVariables false
open Go.RowKit

set_option maxRecDepth 100000 in
set_option maxHeartbeats 800000 in
theorem implPairs_no (v : Value) (ps : List Les) (w : World) (h : RowsR 7 lesC w v ps) (hn : ¬ okLs ps) :
    Calls Try.prog 18 #[v] w fun e w' => (∃ sq vs, e = .returned (.tuple #[sq, .bool false]) ∧ OwnSS w.heap.size w'.heap.size w' sq vs []) ∧ Below w.heap.size w w' := by
  have HR := Lib.hid h
  have HN := Lib.hid hn
  obtain ⟨a, cp, rfl⟩ := h.form
  clear h hn
  go_enter Try.func18, Try.ntmps18
  go_wp2_with fail
  refine (iGood_no _ ps _ HR.out HN.out).mono ?_
  rintro e w2 ⟨rfl, hb2⟩
  have HB2 := Lib.hid hb2
  clear hb2
  go_wp2_with fail
  have hs0 : (w2.alloc (.cells #[] 35)).heap.size = w2.heap.size + 1 := by simp
  have hb0 : Below w.heap.size w (w2.alloc (.cells #[] 35)) := HB2.out.alloc HB2.out.size _
  have ho0 := World.ownsRow_made (base := w.heap.size) (e := 35) (size := 1) w2 #[] 0 HB2.out.size (Nat.zero_le _) (by simp)
  generalize w2.alloc (.cells #[] 35) = w3 at hs0 hb0 ho0 ⊢
  have HB3 := Lib.hid hb0
  have HO3 := Lib.hid ho0
  clear hs0 hb0 ho0
  go_wp2_with fail
  go_ret2
  exact ⟨⟨_, [], rfl, OwnSS.empty HB3.out.size HO3.out (fun g hg => (HO3.out.lt g hg).2)⟩, HB3.out⟩
set_option maxRecDepth 100000 in
set_option maxHeartbeats 6400000 in
theorem implPairs_ok (v : Value) (ps : List Les) (w : World) (h : RowsR 7 lesC w v ps) (ho : okLs ps) :
    Calls Try.prog 18 #[v] w fun e w' => (∃ sq vs, e = .returned (.tuple #[sq, .bool true]) ∧ OwnSS w.heap.size w'.heap.size w' sq vs (prA ps ps.length)) ∧ Below w.heap.size w w' := by
  have hl := okLs_len ho
  have HR := Lib.hid h
  have HO := Lib.hid ho
  have hcap : ∃ a cp, v = .slice a ps.length cp ∧ ps.length ≤ cp := by obtain ⟨a, cp, e, ⟨_, h2⟩, _⟩ := h; exact ⟨a, cp, e, h2⟩
  obtain ⟨a, cp, rfl, hnc⟩ := hcap
  have R1 := Lib.hid h.at
  clear h ho
  go_enter Try.func18, Try.ntmps18
  go_wp2_with fail
  refine (iGood_yes _ ps _ HR.out HO.out).mono ?_
  rintro e w1 ⟨rfl, hb2⟩
  have HB1 := Lib.hid hb2
  clear hb2
  go_wp2_with fail
  have hb0 : Below w.heap.size w (w1.alloc (.cells #[] 35)) := HB1.out.alloc HB1.out.size _
  have ho0 := World.ownsRow_made (base := w.heap.size) (e := 35) (size := 1) w1 #[] 0 HB1.out.size (Nat.zero_le _) (by simp)
  generalize w1.alloc (.cells #[] 35) = w2 at hb0 ho0 ⊢
  have HB2 := Lib.hid hb0
  have HO2 := Lib.hid ho0
  clear hb0 ho0
  go_loopw [4, 16] (fun out iv wr => ∃ (i : Nat) (vs : List Value), i ≤ ps.length ∧ iv = .int .i64 i ∧ OwnSS w.heap.size wr.heap.size wr out vs (prA ps i) ∧ Below w.heap.size w wr) (fun _ iv _ => ps.length - (intOf iv).toNat)
  case atStart => exact ⟨0, [], Nat.zero_le _, rfl, OwnSS.empty HB2.out.size HO2.out (fun g hg => (HO2.out.lt g hg).2), HB2.out⟩
  case round =>
    obtain ⟨i, vs, hi, rfl, hss, hb⟩ := hrel
    rename World => wo
    have HBo := Lib.hid hb
    have HSo := Lib.hid hss
    obtain ⟨oa, oc, hform⟩ := hss.form
    subst hform
    clear hss
    by_cases hlt : i < ps.length
    · have z1 : (0 : Int) ≤ (i : Int) := by omega
      have z2 : (i : Int) < (ps.length : Int) := by omega
      have z3 : i + 1 ≤ ps.length := by omega
      have z4 : (0 : Int) ≤ (i : Int) + 1 := by omega
      have z5 : (i : Int) + 1 ≤ (ps.length : Int) := by omega
      obtain ⟨b1, o1, rfl, l1, k1⟩ := R1.out _ hb i hlt
      obtain ⟨x, hx⟩ : ∃ x, leD ps i = x := ⟨_, rfl⟩
      rw [← leD_at ps i hlt, hx] at k1
      have p0 : wo.cell? ⟨b1, o1 + i * 7, none⟩ = some (.int .i64 x.id) := k1 0 (by omega)
      have p1 : wo.cell? ⟨b1, o1 + i * 7 + 1, none⟩ = some (.int .i64 x.cls) := k1 1 (by omega)
      have p2 : wo.cell? ⟨b1, o1 + i * 7 + 2, none⟩ = some (.int .i64 x.tch) := k1 2 (by omega)
      have p3 : wo.cell? ⟨b1, o1 + i * 7 + 3, none⟩ = some (.int .i64 x.room) := k1 3 (by omega)
      have p4 : wo.cell? ⟨b1, o1 + i * 7 + 4, none⟩ = some (.int .i64 x.day) := k1 4 (by omega)
      have p5 : wo.cell? ⟨b1, o1 + i * 7 + 5, none⟩ = some (.int .i64 x.bgn) := k1 5 (by omega)
      have p6 : wo.cell? ⟨b1, o1 + i * 7 + 6, none⟩ = some (.int .i64 x.mins) := k1 6 (by omega)
      have HX := Lib.hid hx
      have hb6 : Below wo.heap.size wo (wo.alloc (.cells #[.int .i64 x.id, .int .i64 x.cls, .int .i64 x.tch, .int .i64 x.room, .int .i64 x.day, .int .i64 x.bgn, .int .i64 x.mins] 50)) := (Below.refl _ _).alloc (Nat.le_refl _) _
      have hk6 : (wo.alloc (.cells #[.int .i64 x.id, .int .i64 x.cls, .int .i64 x.tch, .int .i64 x.room, .int .i64 x.day, .int .i64 x.bgn, .int .i64 x.mins] 50)).heap[wo.heap.size]? = some (.cells #[.int .i64 x.id, .int .i64 x.cls, .int .i64 x.tch, .int .i64 x.room, .int .i64 x.day, .int .i64 x.bgn, .int .i64 x.mins] 50 (0, 0)) := alloc_at rfl
      have hz6 : wo.heap.size < (wo.alloc (.cells #[.int .i64 x.id, .int .i64 x.cls, .int .i64 x.tch, .int .i64 x.room, .int .i64 x.day, .int .i64 x.bgn, .int .i64 x.mins] 50)).heap.size := by simp
      clear k1 hx hb
      by_cases hcp : cp = i + 1
      · have hnl : ps.length = i + 1 := by omega
        have HE : Hid (prA ps i = prA ps (i + 1)) := Lib.hid (by rw [prA, hnl, Nat.sub_self]; simp [prR])
        have HS6 := Lib.hid ((HSo.out.next hb6).rehi hb6.size)
        have HB6 := Lib.hid (HBo.out.trans (hb6.mono HBo.out.size))
        have hsub : ps.length - (i + 1) = 0 := by omega
        clear hb6 hk6 hz6
        go_wp2_with fail
        generalize wo.alloc (.cells #[.int .i64 x.id, .int .i64 x.cls, .int .i64 x.tch, .int .i64 x.room, .int .i64 x.day, .int .i64 x.bgn, .int .i64 x.mins] 50) = w6 at HS6 HB6 ⊢
        go_loopw [4, 26] (fun out kv wr => out = .slice oa (prA ps i).length oc ∧ kv = .int .i64 0 ∧ wr = w6) (fun _ _ _ => 0)
        case atStart => exact ⟨rfl, rfl, rfl⟩
        case round =>
          obtain ⟨rfl, rfl, rfl⟩ := hrel
          go_wp2_with fail
          go_roundw
          case rel => exact ⟨i + 1, vs, by omega, by go_num, by rw [← HE.out]; exact HS6.out, HB6.out⟩
          case measure => simp [intOf]; omega
      · generalize hw6 : wo.alloc (.cells #[.int .i64 x.id, .int .i64 x.cls, .int .i64 x.tch, .int .i64 x.room, .int .i64 x.day, .int .i64 x.bgn, .int .i64 x.mins] 50) = w6 at hb6 hk6 hz6
        have HB6 := Lib.hid hb6
        have HK6 := Lib.hid hk6
        have HZ6 := Lib.hid hz6
        clear hb6 hk6 hz6
        go_wp2_with fail
        clear hw6 p0 p1 p2 p3 p4 p5 p6
        have HB6W := Lib.hid (HBo.out.trans (HB6.out.mono HBo.out.size))
        have HS6 := Lib.hid ((HSo.out.next HB6.out).rehi HB6.out.size)
        have HNE0 : Hid (some wo.heap.size ≠ (Value.slice oa (prA ps i).length oc).ownBlock) := Lib.hid (fun e => absurd (HSo.out.outer.2 _ e.symm) (Nat.lt_irrefl _))
        generalize hBB : wo.heap.size = B at HK6 HZ6 HNE0 ⊢
        clear HB6 hBB
        go_loopw [4, 26] (fun out kv wr => ∃ (d : Nat) (vs : List Value), i + 1 + d ≤ ps.length ∧ kv = .int .i64 d ∧ OwnSS w.heap.size wr.heap.size wr out vs (prA ps i ++ prR ps i d) ∧ Below w.heap.size w wr ∧ wr.heap[B]? = some (.cells #[.int .i64 x.id, .int .i64 x.cls, .int .i64 x.tch, .int .i64 x.room, .int .i64 x.day, .int .i64 x.bgn, .int .i64 x.mins] 50 (0, 0)) ∧ some B ≠ out.ownBlock) (fun _ kv _ => ps.length - (intOf kv).toNat)
        case atStart => exact ⟨0, vs, by omega, rfl, by rw [prR, List.append_nil]; exact HS6.out, HB6W.out, HK6.out, HNE0.out⟩
        case round =>
          obtain ⟨d, vs2, hd, rfl, hss, hb, hkb, hne0⟩ := hrel
          rename World => wi
          have HBi := Lib.hid hb
          have HSi := Lib.hid hss
          have HKi := Lib.hid hkb
          have HNE := Lib.hid hne0
          clear hne0
          obtain ⟨oa2, oc2, hform⟩ := hss.form
          have HLV : Hid (vs2.length ≤ 1000) := Lib.hid (by
            have h1 := hss.len
            have h2 := (prA_len ps hl i).1
            have h3 := (prR_len ps i d).1
            rw [List.length_append] at h1
            omega)
          subst hform
          obtain ⟨Q, hQ⟩ : ∃ Q, prA ps i ++ prR ps i d = Q := ⟨_, rfl⟩
          rw [hQ] at HSi HNE ⊢
          have HQQ := Lib.hid hQ
          clear hss hQ
          by_cases hk : i + 1 + d < ps.length
          · have y1 : (0 : Int) ≤ (d : Int) := by omega
            have y2 : (d : Int) < ((ps.length - (i + 1) : Nat) : Int) := by omega
            obtain ⟨b2, o2, e2, _, k2⟩ := R1.out _ hb (i + 1 + d) hk
            obtain ⟨rfl, rfl⟩ : b1 = b2 ∧ o1 = o2 := by injection e2 with e2; injection e2 with e2 e3; exact ⟨e2, e3⟩
            obtain ⟨y, hy⟩ : ∃ y, leD ps (i + 1 + d) = y := ⟨_, rfl⟩
            rw [← leD_at ps (i + 1 + d) hk, hy] at k2
            have q0 : wi.cell? ⟨b1, o1 + (i + 1) * 7 + d * 7, none⟩ = some (.int .i64 y.id) := by have := k2 0 (by omega); rw [show o1 + (i + 1 + d) * 7 + 0 = o1 + (i + 1) * 7 + d * 7 by omega] at this; exact this
            have q1 : wi.cell? ⟨b1, o1 + (i + 1) * 7 + d * 7 + 1, none⟩ = some (.int .i64 y.cls) := by have := k2 1 (by omega); rw [show o1 + (i + 1 + d) * 7 + 1 = o1 + (i + 1) * 7 + d * 7 + 1 by omega] at this; exact this
            have q2 : wi.cell? ⟨b1, o1 + (i + 1) * 7 + d * 7 + 2, none⟩ = some (.int .i64 y.tch) := by have := k2 2 (by omega); rw [show o1 + (i + 1 + d) * 7 + 2 = o1 + (i + 1) * 7 + d * 7 + 2 by omega] at this; exact this
            have q3 : wi.cell? ⟨b1, o1 + (i + 1) * 7 + d * 7 + 3, none⟩ = some (.int .i64 y.room) := by have := k2 3 (by omega); rw [show o1 + (i + 1 + d) * 7 + 3 = o1 + (i + 1) * 7 + d * 7 + 3 by omega] at this; exact this
            have q4 : wi.cell? ⟨b1, o1 + (i + 1) * 7 + d * 7 + 4, none⟩ = some (.int .i64 y.day) := by have := k2 4 (by omega); rw [show o1 + (i + 1 + d) * 7 + 4 = o1 + (i + 1) * 7 + d * 7 + 4 by omega] at this; exact this
            have q5 : wi.cell? ⟨b1, o1 + (i + 1) * 7 + d * 7 + 5, none⟩ = some (.int .i64 y.bgn) := by have := k2 5 (by omega); rw [show o1 + (i + 1 + d) * 7 + 5 = o1 + (i + 1) * 7 + d * 7 + 5 by omega] at this; exact this
            have q6 : wi.cell? ⟨b1, o1 + (i + 1) * 7 + d * 7 + 6, none⟩ = some (.int .i64 y.mins) := by have := k2 6 (by omega); rw [show o1 + (i + 1 + d) * 7 + 6 = o1 + (i + 1) * 7 + d * 7 + 6 by omega] at this; exact this
            obtain ⟨x0, x1, x2, x3, x4, x5, x6, -, -, -, -, -, -, -⟩ := cell7 hkb
            have hBlt : B < wi.heap.size := lt_of_block hkb
            have hne : B ≠ wi.heap.size := by omega
            have HY := Lib.hid hy
            have HC := Lib.hid (fun w => implClash_any x y w)
            change Hid (∀ w : World, Calls Try.prog 60 #[.agg #[.int .i64 x.id, .int .i64 x.cls, .int .i64 x.tch, .int .i64 x.room, .int .i64 x.day, .int .i64 x.bgn, .int .i64 x.mins], .agg #[.int .i64 y.id, .int .i64 y.cls, .int .i64 y.tch, .int .i64 y.room, .int .i64 y.day, .int .i64 y.bgn, .int .i64 y.mins]] w fun e w' => e = .returned (.bool (clashB x y)) ∧ Below w.heap.size w w') at HC
            obtain ⟨cb, hcb⟩ : ∃ cb, clashB x y = cb := ⟨_, rfl⟩
            rw [hcb] at HC
            have HCB := Lib.hid hcb
            have HKd : Hid ((d : Int) + 1 = ((d + 1 : Nat) : Int)) := Lib.hid (by omega)
            clear k2 e2 hy hcb hb hkb
            go_wp2_with fail
            have hb8 : Below wi.heap.size wi (wi.alloc (.cells #[.int .i64 y.id, .int .i64 y.cls, .int .i64 y.tch, .int .i64 y.room, .int .i64 y.day, .int .i64 y.bgn, .int .i64 y.mins] 50)) := (Below.refl _ _).alloc (Nat.le_refl _) _
            have hk8 : (wi.alloc (.cells #[.int .i64 y.id, .int .i64 y.cls, .int .i64 y.tch, .int .i64 y.room, .int .i64 y.day, .int .i64 y.bgn, .int .i64 y.mins] 50)).heap[wi.heap.size]? = some (.cells #[.int .i64 y.id, .int .i64 y.cls, .int .i64 y.tch, .int .i64 y.room, .int .i64 y.day, .int .i64 y.bgn, .int .i64 y.mins] 50 (0, 0)) := alloc_at rfl
            generalize wi.alloc (.cells #[.int .i64 y.id, .int .i64 y.cls, .int .i64 y.tch, .int .i64 y.room, .int .i64 y.day, .int .i64 y.bgn, .int .i64 y.mins] 50) = w8 at hb8 hk8 ⊢
            refine (HC.out w8).mono ?_
            rintro e w3 ⟨rfl, hb9⟩
            have hb3 : Below wi.heap.size wi w3 := hb8.trans (hb9.mono hb8.size)
            have HB3 := Lib.hid (HBi.out.trans (hb3.mono HBi.out.size))
            have HS3 := Lib.hid ((HSi.out.next hb3).rehi hb3.size)
            have HK3 := Lib.hid ((hb3.block _ (lt_of_block HKi.out)).trans HKi.out)
            have HK8 := Lib.hid ((hb9.block _ (lt_of_block hk8)).trans hk8)
            clear hb8 hk8 hb9 hb3 q0 x0 q1 x1 q2 x2 q3 x3 q4 x4 q5 x5 q6 x6 hne hBlt
            generalize wi.heap.size = B8 at HK8 ⊢
            cases cb with
            | false =>
              have HE : Hid (Q = prA ps i ++ prR ps i (d + 1)) := Lib.hid (by rw [← HQQ.out, prR_no (by rw [HX.out, HY.out]; exact HCB.out)])
              go_wp2_with fail
              go_roundw
              case rel => exact ⟨d + 1, vs2, by omega, by go_num, by rw [← HE.out]; exact HS3.out, HB3.out, HK3.out, HNE.out⟩
              case measure => simp [intOf]; omega
            | true =>
              have HE : Hid (Q ++ [[x.id, y.id]] = prA ps i ++ prR ps i (d + 1)) := Lib.hid (by rw [← HQQ.out, prR_yes (by rw [HX.out, HY.out]; exact HCB.out), HX.out, HY.out, List.append_assoc])
              have x0 := (cell7 HK3.out).1
              have y0 := (cell7 HK8.out).1
              go_wp2_with (at_builtin; refine wpList_push2k rfl _ _ rfl w3 w w.heap.size (.slice oa2 Q.length oc2) vs2 Q x.id y.id rfl rfl HS3.out HB3.out HB3.out.size (by have := HLV.out; omega) ?_)
              intro v5 w5 hs5 hb6 hkp
              have hkp2 := hkp B (lt_of_block HK3.out) HNE.out
              have HNE5 := Lib.hid hkp2.2
              have HS5 := Lib.hid hs5
              have HB5 := Lib.hid hb6
              have HK5 : Hid (w5.heap[B]? = some (.cells #[.int .i64 x.id, .int .i64 x.cls, .int .i64 x.tch, .int .i64 x.room, .int .i64 x.day, .int .i64 x.bgn, .int .i64 x.mins] 50 (0, 0))) := Lib.hid (hkp2.1.trans HK3.out)
              clear hs5 hb6 hkp hkp2 x0 y0
              go_wp2_with fail
              go_roundw
              case rel => exact ⟨d + 1, _, by omega, by go_num, by rw [← HE.out]; exact HS5.out, HB5.out, HK5.out, HNE5.out⟩
              case measure => simp [intOf]; omega
          · have y2 : ¬ (d : Int) < ((ps.length - (i + 1) : Nat) : Int) := by omega
            have HE : Hid (Q = prA ps (i + 1)) := Lib.hid (by rw [← HQQ.out, prA]; congr 2; omega)
            clear hb hkb
            go_wp2_with fail
            go_roundw
            case rel => exact ⟨i + 1, vs2, by omega, by go_num, by rw [← HE.out]; exact HSi.out, HBi.out⟩
            case measure => simp [intOf]; omega
    · obtain rfl : i = ps.length := by omega
      clear hb
      go_wp2_with fail
      go_ret2
      exact ⟨⟨_, vs, rfl, HSo.out⟩, HBo.out⟩
end Go.Proofs.Ytblbeoeklkcamaa
