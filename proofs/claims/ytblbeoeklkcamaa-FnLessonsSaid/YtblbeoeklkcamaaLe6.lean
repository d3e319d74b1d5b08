/- The model's ClashingPairs. -/
import Derived.Test.YtblbeoeklkcamaaLe3
import Derived.Test.YtblbeoeklkcamaaTp
import Derived.Test.YtblbeoeklkcamaaPp
namespace Go.Proofs.Ytblbeoeklkcamaa
set_option linter.unusedVariables false
open Go.RowKit

set_option maxRecDepth 100000 in
set_option maxHeartbeats 800000 in
theorem specPairs_no (v : Value) (ps : List Les) (w : World) (h : RowsR 7 lesC w v ps) (hn : ¬ okLs ps) :
    Calls Try.prog 28 #[v] w fun e w' => (∃ sq vs, e = .returned (.tuple #[sq, .bool false]) ∧ OwnSS w.heap.size w'.heap.size w' sq vs []) ∧ Below w.heap.size w w' := by
  have HR := Lib.hid h
  have HN := Lib.hid hn
  obtain ⟨a, cp, rfl⟩ := h.form
  clear h hn
  go_enter Try.func28, Try.ntmps28
  go_wp2_with fail
  have hb0 : Below w.heap.size w (w.alloc (.cells #[] 35)) := (Below.refl _ _).alloc (Nat.le_refl _) _
  have ho0 := World.ownsRow_made (base := w.heap.size) (e := 35) (size := 1) w #[] 0 (Nat.le_refl _) (Nat.zero_le _) (by simp)
  generalize w.alloc (.cells #[] 35) = w1 at hb0 ho0 ⊢
  have HB1 := Lib.hid hb0
  have HO1 := Lib.hid ho0
  clear hb0 ho0
  refine (l11Good_no _ ps _ (HR.out.below HB1.out (Nat.le_refl _)) HN.out).mono ?_
  rintro e w2 ⟨rfl, hb2⟩
  have HB2 := Lib.hid (HB1.out.trans (hb2.mono HB1.out.size))
  have HO2 := Lib.hid (own_below HO1.out hb2)
  clear hb2
  go_wp2_with fail
  go_ret2
  exact ⟨⟨_, [], rfl, OwnSS.empty HB2.out.size HO2.out (fun g hg => (HO2.out.lt g hg).2)⟩, HB2.out⟩
set_option maxRecDepth 100000 in
set_option maxHeartbeats 6400000 in
theorem specPairs_ok (v : Value) (ps : List Les) (w : World) (h : RowsR 7 lesC w v ps) (ho : okLs ps) :
    Calls Try.prog 28 #[v] w fun e w' => (∃ sq vs, e = .returned (.tuple #[sq, .bool true]) ∧ OwnSS w.heap.size w'.heap.size w' sq vs (prA ps ps.length)) ∧ Below w.heap.size w w' := by
  have hl := okLs_len ho
  have HR := Lib.hid h
  have HO := Lib.hid ho
  obtain ⟨a, cp, rfl⟩ := h.form
  have R1 := Lib.hid h.at
  clear h ho
  go_enter Try.func28, Try.ntmps28
  go_wp2_with fail
  have hb0 : Below w.heap.size w (w.alloc (.cells #[] 35)) := (Below.refl _ _).alloc (Nat.le_refl _) _
  have ho0 := World.ownsRow_made (base := w.heap.size) (e := 35) (size := 1) w #[] 0 (Nat.le_refl _) (Nat.zero_le _) (by simp)
  generalize w.alloc (.cells #[] 35) = w1 at hb0 ho0 ⊢
  have HB1 := Lib.hid hb0
  have HO1 := Lib.hid ho0
  clear hb0 ho0
  refine (l11Good_yes _ ps _ (HR.out.below HB1.out (Nat.le_refl _)) HO.out).mono ?_
  rintro e w2 ⟨rfl, hb2⟩
  have HB2 := Lib.hid (HB1.out.trans (hb2.mono HB1.out.size))
  have HO2 := Lib.hid (own_below HO1.out hb2)
  clear hb2
  go_wp2_with fail
  go_loopw [4, 5] (fun out iv wr => ∃ (i : Nat) (vs : List Value), i ≤ ps.length ∧ iv = .int .i64 i ∧ OwnSS w.heap.size wr.heap.size wr out vs (prA ps i) ∧ Below w.heap.size w wr) (fun _ iv _ => ps.length - (intOf iv).toNat)
  case atStart => exact ⟨0, [], Nat.zero_le _, rfl, OwnSS.empty HB2.out.size HO2.out (fun g hg => (HO2.out.lt g hg).2), HB2.out⟩
  case round =>
    obtain ⟨i, vs, hi, rfl, hss, hb⟩ := hrel
    rename World => wo
    have HBo := Lib.hid hb
    have HSo := Lib.hid hss
    obtain ⟨oa, oc, hform⟩ := hss.form
    subst hform
    clear hb hss
    by_cases hlt : i < ps.length
    · have z1 : (0 : Int) ≤ (i : Int) := by omega
      have z2 : (i : Int) < (ps.length : Int) := by omega
      go_wp2_with fail
      go_loopw [4, 6] (fun out kv wr => ∃ (d : Nat) (vs : List Value), i + 1 + d ≤ ps.length ∧ kv = .int .i64 ((i + 1 + d : Nat) : Int) ∧ OwnSS w.heap.size wr.heap.size wr out vs (prA ps i ++ prR ps i d) ∧ Below w.heap.size w wr) (fun _ kv _ => ps.length - (intOf kv).toNat)
      case atStart => exact ⟨0, vs, by omega, rfl, by rw [prR, List.append_nil]; exact HSo.out, HBo.out⟩
      case round =>
        obtain ⟨d, vs2, hd, rfl, hss, hb⟩ := hrel
        rename World => wi
        have HBi := Lib.hid hb
        have HSi := Lib.hid hss
        obtain ⟨oa2, oc2, hform⟩ := hss.form
        have HLV : Hid (vs2.length ≤ 1000) := Lib.hid (by
          have h1 := hss.len
          have h2 := (prA_len ps hl i).1
          have h3 := (prR_len ps i d).1
          rw [List.length_append] at h1
          omega)
        subst hform
        clear hss
        obtain ⟨Q, hQ⟩ : ∃ Q, prA ps i ++ prR ps i d = Q := ⟨_, rfl⟩
        rw [hQ] at HSi ⊢
        have HQQ := Lib.hid hQ
        clear hQ
        by_cases hk : i + 1 + d < ps.length
        · have y1 : (0 : Int) ≤ ((i + 1 + d : Nat) : Int) := by omega
          have y2 : ((i + 1 + d : Nat) : Int) < (ps.length : Int) := by omega
          obtain ⟨b1, o1, rfl, l1, k1⟩ := R1.out _ hb i hlt
          obtain ⟨b2, o2, e2, _, k2⟩ := R1.out _ hb (i + 1 + d) hk
          obtain ⟨rfl, rfl⟩ : b1 = b2 ∧ o1 = o2 := by injection e2 with e2; injection e2 with e2 e3; exact ⟨e2, e3⟩
          obtain ⟨x, hx⟩ : ∃ x, leD ps i = x := ⟨_, rfl⟩
          obtain ⟨y, hy⟩ : ∃ y, leD ps (i + 1 + d) = y := ⟨_, rfl⟩
          rw [← leD_at ps i hlt, hx] at k1
          rw [← leD_at ps (i + 1 + d) hk, hy] at k2
          have p0 : wi.cell? ⟨b1, o1 + i * 7, none⟩ = some (.int .i64 x.id) := k1 0 (by omega)
          have q0 : wi.cell? ⟨b1, o1 + (i + 1 + d) * 7, none⟩ = some (.int .i64 y.id) := k2 0 (by omega)
          have p1 : wi.cell? ⟨b1, o1 + i * 7 + 1, none⟩ = some (.int .i64 x.cls) := k1 1 (by omega)
          have q1 : wi.cell? ⟨b1, o1 + (i + 1 + d) * 7 + 1, none⟩ = some (.int .i64 y.cls) := k2 1 (by omega)
          have p2 : wi.cell? ⟨b1, o1 + i * 7 + 2, none⟩ = some (.int .i64 x.tch) := k1 2 (by omega)
          have q2 : wi.cell? ⟨b1, o1 + (i + 1 + d) * 7 + 2, none⟩ = some (.int .i64 y.tch) := k2 2 (by omega)
          have p3 : wi.cell? ⟨b1, o1 + i * 7 + 3, none⟩ = some (.int .i64 x.room) := k1 3 (by omega)
          have q3 : wi.cell? ⟨b1, o1 + (i + 1 + d) * 7 + 3, none⟩ = some (.int .i64 y.room) := k2 3 (by omega)
          have p4 : wi.cell? ⟨b1, o1 + i * 7 + 4, none⟩ = some (.int .i64 x.day) := k1 4 (by omega)
          have q4 : wi.cell? ⟨b1, o1 + (i + 1 + d) * 7 + 4, none⟩ = some (.int .i64 y.day) := k2 4 (by omega)
          have p5 : wi.cell? ⟨b1, o1 + i * 7 + 5, none⟩ = some (.int .i64 x.bgn) := k1 5 (by omega)
          have q5 : wi.cell? ⟨b1, o1 + (i + 1 + d) * 7 + 5, none⟩ = some (.int .i64 y.bgn) := k2 5 (by omega)
          have p6 : wi.cell? ⟨b1, o1 + i * 7 + 6, none⟩ = some (.int .i64 x.mins) := k1 6 (by omega)
          have q6 : wi.cell? ⟨b1, o1 + (i + 1 + d) * 7 + 6, none⟩ = some (.int .i64 y.mins) := k2 6 (by omega)
          have l2 : b1 < wi.heap.size := Nat.lt_of_lt_of_le l1 HBi.out.size
          have HXY : Hid (leD ps i = x ∧ leD ps (i + 1 + d) = y) := Lib.hid ⟨hx, hy⟩
          have HC := Lib.hid (fun w => specClash_any x y w)
          change Hid (∀ w : World, Calls Try.prog 73 #[.agg #[.int .i64 x.id, .int .i64 x.cls, .int .i64 x.tch, .int .i64 x.room, .int .i64 x.day, .int .i64 x.bgn, .int .i64 x.mins], .agg #[.int .i64 y.id, .int .i64 y.cls, .int .i64 y.tch, .int .i64 y.room, .int .i64 y.day, .int .i64 y.bgn, .int .i64 y.mins]] w fun e w' => e = .returned (.bool (clashB x y)) ∧ Below w.heap.size w w') at HC
          obtain ⟨cb, hcb⟩ : ∃ cb, clashB x y = cb := ⟨_, rfl⟩
          rw [hcb] at HC
          have HCB := Lib.hid hcb
          obtain ⟨kk, hK⟩ : ∃ kk : Nat, i + 1 + d = kk := ⟨_, rfl⟩
          have HK := Lib.hid hK
          clear k1 k2 e2 hx hy hcb hb
          rw [hK] at y1 y2 q0 q1 q2 q3 q4 q5 q6 hk ⊢
          clear hK
          go_wp2_with fail
          refine wp_region_held_drew (S := (fun w' => w'.cell? ⟨b1, o1 + i * 7, none⟩ = some (.int .i64 x.id) ∧ w'.cell? ⟨b1, o1 + i * 7 + 1, none⟩ = some (.int .i64 x.cls) ∧ w'.cell? ⟨b1, o1 + i * 7 + 2, none⟩ = some (.int .i64 x.tch) ∧ w'.cell? ⟨b1, o1 + i * 7 + 3, none⟩ = some (.int .i64 x.room) ∧ w'.cell? ⟨b1, o1 + i * 7 + 4, none⟩ = some (.int .i64 x.day) ∧ w'.cell? ⟨b1, o1 + i * 7 + 5, none⟩ = some (.int .i64 x.bgn) ∧ w'.cell? ⟨b1, o1 + i * 7 + 6, none⟩ = some (.int .i64 x.mins) ∧ w'.cell? ⟨b1, o1 + kk * 7, none⟩ = some (.int .i64 y.id) ∧ w'.cell? ⟨b1, o1 + kk * 7 + 1, none⟩ = some (.int .i64 y.cls) ∧ w'.cell? ⟨b1, o1 + kk * 7 + 2, none⟩ = some (.int .i64 y.tch) ∧ w'.cell? ⟨b1, o1 + kk * 7 + 3, none⟩ = some (.int .i64 y.room) ∧ w'.cell? ⟨b1, o1 + kk * 7 + 4, none⟩ = some (.int .i64 y.day) ∧ w'.cell? ⟨b1, o1 + kk * 7 + 5, none⟩ = some (.int .i64 y.bgn) ∧ w'.cell? ⟨b1, o1 + kk * 7 + 6, none⟩ = some (.int .i64 y.mins))) (by kernel_rfl) (⟨p0, p1, p2, p3, p4, p5, p6, q0, q1, q2, q3, q4, q5, q6⟩) (fun hHeld => ?_)
          refine take1 (i := 0) (v := ?v1) (some 26) rfl rfl (by kernel_rfl) (by kernel_rfl) (by kernel_rfl) (fun _ _ _ h => h) (Or.inl ⟨by rfl, ?y1⟩) (by assumption) ?r1
          case y1 => (intro w hSw; (try dsimp only at hSw); go_simp; (first | done | with_reducible rfl))
          try simp only [Act.put, List.setIfInBounds_toArray, List.set_cons_zero, List.set_cons_succ]
          refine take1 (i := 1) (v := ?v2) (some 27) rfl rfl (by kernel_rfl) (by kernel_rfl) (by kernel_rfl) (fun _ _ _ h => h) (Or.inl ⟨by rfl, ?y2⟩) (by assumption) ?r2
          case y2 => (intro w hSw; (try dsimp only at hSw); go_simp; (first | done | with_reducible rfl))
          try simp only [Act.put, List.setIfInBounds_toArray, List.set_cons_zero, List.set_cons_succ]
          refine take1 (i := 2) (v := ?v3) (some 28) rfl rfl (by kernel_rfl) (by kernel_rfl) (by kernel_rfl) (fun _ _ _ h => h) (Or.inl ⟨by rfl, ?y3⟩) (by assumption) ?r3
          case y3 => (intro w hSw; (try dsimp only at hSw); go_simp; (first | done | with_reducible rfl))
          try simp only [Act.put, List.setIfInBounds_toArray, List.set_cons_zero, List.set_cons_succ]
          refine take1 (i := 3) (v := ?v4) (some 29) rfl rfl (by kernel_rfl) (by kernel_rfl) (by kernel_rfl) (fun _ _ _ h => h) (Or.inl ⟨by rfl, ?y4⟩) (by assumption) ?r4
          case y4 => (intro w hSw; (try dsimp only at hSw); go_simp; (first | done | with_reducible rfl))
          try simp only [Act.put, List.setIfInBounds_toArray, List.set_cons_zero, List.set_cons_succ]
          refine take1 (i := 4) (v := ?v5) (some 30) rfl rfl (by kernel_rfl) (by kernel_rfl) (by kernel_rfl) (fun _ _ _ h => h) (Or.inl ⟨by rfl, ?y5⟩) (by assumption) ?r5
          case y5 => (intro w hSw; (try dsimp only at hSw); go_simp; (first | done | with_reducible rfl))
          try simp only [Act.put, List.setIfInBounds_toArray, List.set_cons_zero, List.set_cons_succ]
          refine take1 (i := 5) (v := ?v6) (some 31) rfl rfl (by kernel_rfl) (by kernel_rfl) (by kernel_rfl) (fun _ _ _ h => h) (Or.inl ⟨by rfl, ?y6⟩) (by assumption) ?r6
          case y6 => (intro w hSw; (try dsimp only at hSw); go_simp; (first | done | with_reducible rfl))
          try simp only [Act.put, List.setIfInBounds_toArray, List.set_cons_zero, List.set_cons_succ]
          refine take1 (i := 6) (v := ?v7) (some 32) rfl rfl (by kernel_rfl) (by kernel_rfl) (by kernel_rfl) (fun _ _ _ h => h) (Or.inl ⟨by rfl, ?y7⟩) (by assumption) ?r7
          case y7 => (intro w hSw; (try dsimp only at hSw); go_simp; (first | done | with_reducible rfl))
          try simp only [Act.put, List.setIfInBounds_toArray, List.set_cons_zero, List.set_cons_succ]
          refine take1 (i := 7) (v := ?v8) (some 33) rfl rfl (by kernel_rfl) (by kernel_rfl) (by kernel_rfl) (fun _ _ _ h => h) (Or.inl ⟨by rfl, ?y8⟩) (by assumption) ?r8
          case y8 => (intro w hSw; (try dsimp only at hSw); go_simp; (first | done | with_reducible rfl))
          try simp only [Act.put, List.setIfInBounds_toArray, List.set_cons_zero, List.set_cons_succ]
          refine wpAnyH_ready (rs := [8]) (by kernel_rfl) (by simp) ?_
          refine AllReadyH.cons rfl (fun K hK => ?_) AllReadyH.nil
          go_simp
          go_at_call 73
          refine (HC.out _).mono ?_
          rintro e w3 ⟨rfl, hb'⟩
          have hb3 : Below wi.heap.size wi w3 := Below.trans (Below.drew (Below.refl _ _)) hb'
          clear hb'
          try go_simp
          refine hK.out _ _ (⟨(hb3.cell (p := ⟨b1, _, none⟩) l2).trans p0, (hb3.cell (p := ⟨b1, _, none⟩) l2).trans p1, (hb3.cell (p := ⟨b1, _, none⟩) l2).trans p2, (hb3.cell (p := ⟨b1, _, none⟩) l2).trans p3, (hb3.cell (p := ⟨b1, _, none⟩) l2).trans p4, (hb3.cell (p := ⟨b1, _, none⟩) l2).trans p5, (hb3.cell (p := ⟨b1, _, none⟩) l2).trans p6, (hb3.cell (p := ⟨b1, _, none⟩) l2).trans q0, (hb3.cell (p := ⟨b1, _, none⟩) l2).trans q1, (hb3.cell (p := ⟨b1, _, none⟩) l2).trans q2, (hb3.cell (p := ⟨b1, _, none⟩) l2).trans q3, (hb3.cell (p := ⟨b1, _, none⟩) l2).trans q4, (hb3.cell (p := ⟨b1, _, none⟩) l2).trans q5, (hb3.cell (p := ⟨b1, _, none⟩) l2).trans q6⟩) (fun hHeld => ?_)
          clear hK K
          try simp only [Act.put, List.setIfInBounds_toArray, List.set_cons_zero, List.set_cons_succ]
          refine wpAnyH_done (by kernel_rfl) ?_ _
          have HB3 : Hid (Below w.heap.size w w3) := Lib.hid (HBi.out.trans (hb3.mono HBi.out.size))
          have HS3 := Lib.hid ((HSi.out.next hb3).rehi hb3.size)
          have r0 : w3.cell? ⟨b1, o1 + i * 7, none⟩ = some (.int .i64 x.id) := (hb3.cell (p := ⟨b1, _, none⟩) l2).trans p0
          have t0 : w3.cell? ⟨b1, o1 + kk * 7, none⟩ = some (.int .i64 y.id) := (hb3.cell (p := ⟨b1, _, none⟩) l2).trans q0
          have l3 : b1 < w3.heap.size := Nat.lt_of_lt_of_le l2 hb3.size
          clear hHeld hb3 p0 q0 p1 q1 p2 q2 p3 q3 p4 q4 p5 q5 p6 q6
          cases cb with
          | false =>
            have HE : Hid (Q = prA ps i ++ prR ps i (d + 1)) := Lib.hid (by rw [← HQQ.out, prR_no (by rw [HXY.out.1, HXY.out.2]; exact HCB.out)])
            have HKd : Hid ((kk : Int) + 1 = ((i + 1 + (d + 1) : Nat) : Int)) := Lib.hid (by have := HK.out; omega)
            go_wp2_with fail
            go_roundw
            case rel => exact ⟨d + 1, vs2, by have := HK.out; omega, by first | (rw [← HKd.out]; done) | (rw [← HKd.out]; go_num), by rw [← HE.out]; exact HS3.out, HB3.out⟩
            case measure => simp [intOf]; omega
          | true =>
            have HE : Hid (Q ++ [[x.id, y.id]] = prA ps i ++ prR ps i (d + 1)) := Lib.hid (by rw [← HQQ.out, prR_yes (by rw [HXY.out.1, HXY.out.2]; exact HCB.out), HXY.out.1, HXY.out.2, List.append_assoc])
            have HKd : Hid ((kk : Int) + 1 = ((i + 1 + (d + 1) : Nat) : Int)) := Lib.hid (by have := HK.out; omega)
            go_wp2_with fail
            refine wp_region_held_drew (S := (fun w' => w'.cell? ⟨b1, o1 + i * 7, none⟩ = some (.int .i64 x.id) ∧ w'.cell? ⟨b1, o1 + kk * 7, none⟩ = some (.int .i64 y.id))) (by kernel_rfl) (⟨r0, t0⟩) (fun hHeld => ?_)
            have hbd : Below w.heap.size w w3.drew := HB3.out.drew
            have hsd : OwnSS w.heap.size w3.drew.heap.size w3.drew (.slice oa2 Q.length oc2) vs2 Q := HS3.out.next (Below.refl _ _).drew
            have hcd : ∀ W', Below w3.drew.heap.size w3.drew W' → (W'.cell? ⟨b1, o1 + i * 7, none⟩ = some (.int .i64 x.id) ∧ W'.cell? ⟨b1, o1 + kk * 7, none⟩ = some (.int .i64 y.id)) := fun W' h => ⟨(h.cell (p := ⟨b1, _, none⟩) l3).trans r0, (h.cell (p := ⟨b1, _, none⟩) l3).trans t0⟩
            generalize w3.drew = wd at hbd hsd hcd hHeld ⊢
            have HBD := Lib.hid hbd
            have HSD := Lib.hid hsd
            have HCD := Lib.hid hcd
            clear hbd hsd hcd r0 t0
            refine take1 (i := 0) (v := ?v9) (some 35) rfl rfl (by kernel_rfl) (by kernel_rfl) (by kernel_rfl) (fun _ _ _ h => h) (Or.inl ⟨by rfl, ?y9⟩) (by assumption) ?r9
            case y9 => (intro w hSw; (try dsimp only at hSw); go_simp; (first | done | with_reducible rfl))
            try simp only [Act.put, List.setIfInBounds_toArray, List.set_cons_zero, List.set_cons_succ]
            refine take1 (i := 1) (v := ?v10) (some 36) rfl rfl (by kernel_rfl) (by kernel_rfl) (by kernel_rfl) (fun _ _ _ h => h) (Or.inl ⟨by rfl, ?y10⟩) (by assumption) ?r10
            case y10 => (intro w hSw; (try dsimp only at hSw); go_simp; (first | done | with_reducible rfl))
            try simp only [Act.put, List.setIfInBounds_toArray, List.set_cons_zero, List.set_cons_succ]
            refine take1 (i := 2) (v := ?v11) (some 37) rfl rfl (by kernel_rfl) (by kernel_rfl) (by kernel_rfl) (fun _ _ _ h => h) (Or.inl ⟨by rfl, ?y11⟩) (by assumption) ?r11
            case y11 => (intro w hSw; (try dsimp only at hSw); go_simp; (first | done | with_reducible rfl))
            try simp only [Act.put, List.setIfInBounds_toArray, List.set_cons_zero, List.set_cons_succ]
            refine take1 (i := 3) (v := ?v12) (some 38) rfl rfl (by kernel_rfl) (by kernel_rfl) (by kernel_rfl) (fun _ _ _ h => h) (Or.inl ⟨by rfl, ?y12⟩) (by assumption) ?r12
            case y12 => (intro w hSw; (try dsimp only at hSw); go_simp; (first | done | with_reducible rfl))
            try simp only [Act.put, List.setIfInBounds_toArray, List.set_cons_zero, List.set_cons_succ]
            refine take1 (i := 4) (v := ?v13) (some 39) rfl rfl (by kernel_rfl) (by kernel_rfl) (by kernel_rfl) (fun _ _ _ h => h) (Or.inl ⟨by rfl, ?y13⟩) (by assumption) ?r13
            case y13 => (intro w hSw; (try dsimp only at hSw); go_simp; (first | done | with_reducible rfl))
            try simp only [Act.put, List.setIfInBounds_toArray, List.set_cons_zero, List.set_cons_succ]
            refine take1 (i := 5) (v := ?v14) (some 40) rfl rfl (by kernel_rfl) (by kernel_rfl) (by kernel_rfl) (fun _ _ _ h => h) (Or.inl ⟨by rfl, ?y14⟩) (by assumption) ?r14
            case y14 => (intro w hSw; (try dsimp only at hSw); go_simp; (first | done | with_reducible rfl))
            try simp only [Act.put, List.setIfInBounds_toArray, List.set_cons_zero, List.set_cons_succ]
            refine take1 (i := 6) (v := ?v15) (some 41) rfl rfl (by kernel_rfl) (by kernel_rfl) (by kernel_rfl) (fun _ _ _ h => h) (Or.inl ⟨by rfl, ?y15⟩) (by assumption) ?r15
            case y15 => (intro w hSw; (try dsimp only at hSw); go_simp; (first | done | with_reducible rfl))
            try simp only [Act.put, List.setIfInBounds_toArray, List.set_cons_zero, List.set_cons_succ]
            refine take1 (i := 7) (v := ?v16) (some 42) rfl rfl (by kernel_rfl) (by kernel_rfl) (by kernel_rfl) (fun _ _ _ h => h) (Or.inl ⟨by rfl, ?y16⟩) (by assumption) ?r16
            case y16 => (intro w hSw; (try dsimp only at hSw); go_simp; (first | done | with_reducible rfl))
            try simp only [Act.put, List.setIfInBounds_toArray, List.set_cons_zero, List.set_cons_succ]
            refine take1 (i := 8) (v := ?v17) (some 43) rfl rfl (by kernel_rfl) (by kernel_rfl) (by kernel_rfl) (fun _ _ _ h => h) (Or.inl ⟨by rfl, ?y17⟩) (by assumption) ?r17
            case y17 => (intro w hSw; (try dsimp only at hSw); go_simp; (first | done | with_reducible rfl))
            try simp only [Act.put, List.setIfInBounds_toArray, List.set_cons_zero, List.set_cons_succ]
            refine take1 (i := 9) (v := ?v18) (some 44) rfl rfl (by kernel_rfl) (by kernel_rfl) (by kernel_rfl) (fun _ _ _ h => h) (Or.inl ⟨by rfl, ?y18⟩) (by assumption) ?r18
            case y18 => (intro w hSw; (try dsimp only at hSw); go_simp; (first | done | with_reducible rfl))
            try simp only [Act.put, List.setIfInBounds_toArray, List.set_cons_zero, List.set_cons_succ]
            refine take1 (i := 10) (v := ?v19) (some 45) rfl rfl (by kernel_rfl) (by kernel_rfl) (by kernel_rfl) (fun _ _ _ h => h) (Or.inl ⟨by rfl, ?y19⟩) (by assumption) ?r19
            case y19 => (intro w hSw; (try dsimp only at hSw); go_simp; (first | done | with_reducible rfl))
            try simp only [Act.put, List.setIfInBounds_toArray, List.set_cons_zero, List.set_cons_succ]
            refine wpAnyH_ready (rs := [11]) (by kernel_rfl) (by simp) ?_
            refine AllReadyH.cons rfl (fun K hK => ?_) AllReadyH.nil
            go_simp
            have hb4 : Below wd.heap.size wd (wd.alloc (.cells #[.int .i64 x.id, .int .i64 y.id] 3)) := (Below.refl _ _).alloc (Nat.le_refl _) _
            refine hK.out _ _ (HCD.out _ hb4) (fun hHeld => ?_)
            clear hK K
            try simp only [Act.put]
            refine wpAnyH_ready (rs := [12]) (by kernel_rfl) (by simp) ?_
            refine AllReadyH.cons rfl (fun K hK => ?_) AllReadyH.nil
            go_simp
            have hb5 : Below wd.heap.size wd ((wd.alloc (.cells #[.int .i64 x.id, .int .i64 y.id] 3)).alloc (.cells #[.slice (some ⟨wd.heap.size, 0, none⟩) 2 2] 35)) := hb4.alloc hb4.size _
            refine hK.out _ _ (HCD.out _ hb5) (fun hHeld => ?_)
            clear hK K
            try simp only [Act.put]
            refine wpAnyH_ready (rs := [13]) (by kernel_rfl) (by simp) ?_
            refine AllReadyH.cons rfl (fun K hK => ?_) AllReadyH.nil
            refine step_push2 (by rfl) _ _ (by rfl) wd w w.heap.size _ vs2 Q x.id y.id (by rfl) (by rfl) HSD.out HBD.out HBD.out.size (by have := HLV.out; omega) ?_
            intro v5 w5 hs5 hb6
            have hc5 : (w5.cell? ⟨b1, o1 + i * 7, none⟩ = some (.int .i64 x.id) ∧ w5.cell? ⟨b1, o1 + kk * 7, none⟩ = some (.int .i64 y.id)) := by
              obtain ⟨b2, o2, e2, _, k1⟩ := R1.out _ hb6 i hlt
              obtain ⟨b3, o3, e3, _, k2⟩ := R1.out _ hb6 kk hk
              obtain ⟨rfl, rfl⟩ : b1 = b2 ∧ o1 = o2 := by injection e2 with e2; injection e2 with e2 e3; exact ⟨e2, e3⟩
              obtain ⟨rfl, rfl⟩ : b1 = b3 ∧ o1 = o3 := by injection e3 with e3; injection e3 with e3 e4; exact ⟨e3, e4⟩
              have hKK := HK.out
              subst hKK
              rw [← leD_at ps i hlt, HXY.out.1] at k1
              rw [← leD_at ps (i + 1 + d) hk, HXY.out.2] at k2
              exact ⟨k1 0 (by omega), k2 0 (by omega)⟩
            have HS5 := Lib.hid hs5
            have HB5 := Lib.hid hb6
            clear hs5 hb4 hb5 hb6
            refine hK.out _ _ (hc5) (fun hHeld => ?_)
            clear hK K
            try simp only [Act.put, List.setIfInBounds_toArray]
            refine take1 (i := 14) (v := ?v20) (some 4) rfl rfl (by kernel_rfl) (by kernel_rfl) (by kernel_rfl) (fun _ _ _ h => h) (Or.inl ⟨by rfl, ?y20⟩) (by assumption) ?r20
            case y20 => (intro w hSw; (try dsimp only at hSw); go_simp; (first | done | with_reducible rfl))
            try simp only [Act.put]
            refine wpAnyH_done (by kernel_rfl) ?_ _
            clear hHeld hc5
            go_wp2_with fail
            go_roundw
            case rel => exact ⟨d + 1, _, by have := HK.out; omega, by first | (rw [← HKd.out]; done) | (rw [← HKd.out]; go_num), by rw [← HE.out]; exact HS5.out, HB5.out⟩
            case measure => simp [intOf]; omega
        · have y2 : ¬ ((i + 1 + d : Nat) : Int) < (ps.length : Int) := by omega
          have HE : Hid (Q = prA ps (i + 1)) := Lib.hid (by rw [← HQQ.out, prA]; congr 2; omega)
          clear hb
          go_wp2_with fail
          go_roundw
          case rel => exact ⟨i + 1, vs2, by omega, by go_num, by rw [← HE.out]; exact HSi.out, HBi.out⟩
          case measure => simp [intOf]; omega
    · obtain rfl : i = ps.length := by omega
      go_wp2_with fail
      go_ret2
      exact ⟨⟨_, vs, rfl, HSo.out⟩, HBo.out⟩
end Go.Proofs.Ytblbeoeklkcamaa
