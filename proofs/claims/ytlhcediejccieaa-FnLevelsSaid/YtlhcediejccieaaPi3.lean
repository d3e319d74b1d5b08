/- The program's test of a list of pupils. -/
import Derived.Test.YtlhcediejccieaaPi2
namespace Go.Proofs.Ytlhcediejccieaa
set_option linter.unusedVariables false
open Go.RowKit

set_option maxRecDepth 100000 in
set_option maxHeartbeats 3200000 in
theorem iGood_bad (v : Value) (ps : List Pu) (w : World) (h : RowsR 5 puC w v ps) (hs : ∀ p ∈ ps, p.name.size ≤ maxLen) (hlen : ps.length ≤ 12) (p : Nat) (hp : p ≤ ps.length) (hpre : ∀ i (h : i < ps.length), i < p → okAt ps i h) (hx : ∀ h : p < ps.length, ¬ okAt ps p h) (q : Nat) (hq1 : 1 ≤ q) (hq : q ≤ 10) (hcp : ∀ c : Int, 1 ≤ c → c < q → okCl c ps) (hcx : q ≤ 9 → ¬ okCl (q : Int) ps) (r : Bool) (hr1 : p < ps.length → r = false) (hr2 : p = ps.length → q ≤ 9 → r = false) (hr3 : p = ps.length → q = 10 → r = true) :
    Calls Try.prog 27 #[v] w fun e w' => e = .returned (.bool r) ∧ Below w.heap.size w w' := by
  obtain ⟨a, cp, rfl⟩ := h.form
  have R1 := Lib.hid h.at
  have HP := Lib.hid hpre
  have HX := Lib.hid hx
  have HR1 := Lib.hid hr1
  have HW := Lib.hid h
  have HCP := Lib.hid hcp
  have HCX := Lib.hid hcx
  have HR2 := Lib.hid hr2
  have HR3 := Lib.hid hr3
  clear hcp hcx hr2 hr3
  have HS := Lib.hid hs
  clear hs
  clear h hpre hx hr1
  go_enter Try.func27, Try.ntmps27
  go_wp2_with fail
  go_loopw [11] (fun i wr => ∃ k : Nat, k ≤ p ∧ i = .int .i64 k ∧ Below w.heap.size w wr) (fun i _ => ps.length - (intOf i).toNat)
  case atStart => exact ⟨0, Nat.zero_le _, rfl, Below.refl _ _⟩
  case round =>
    obtain ⟨k, hk, rfl, hb⟩ := hrel
    have HB := Lib.hid hb
    by_cases hlt : k < ps.length
    · have z1 : (0 : Int) ≤ (k : Int) := by omega
      have z2 : (k : Int) < (ps.length : Int) := by omega
      obtain ⟨b1, o1, rfl, l1, k1⟩ := R1.out _ hb k hlt
      have l2 : b1 < wr.heap.size := Nat.lt_of_lt_of_le l1 hb.size
      by_cases hkp : k < p
      · have hok := HP.out k hlt hkp
        by_cases hk0 : 0 < k
        · obtain ⟨m, rfl⟩ : ∃ m, k = m + 1 := ⟨k - 1, by omega⟩
          have HG : Hid (okPu ps[m + 1]) := Lib.hid (hok.1)
          have HN : Hid (ps[m + 1].name.size ≤ maxLen) := Lib.hid (HS.out _ (List.getElem_mem hlt))
          have p0 : wr.cell? ⟨b1, o1 + (m + 1) * 5, none⟩ = some (.int .i64 ps[m + 1].id) := k1 0 (by omega)
          have p1 : wr.cell? ⟨b1, o1 + (m + 1) * 5 + 1, none⟩ = some (.string ps[m + 1].name) := k1 1 (by omega)
          have p2 : wr.cell? ⟨b1, o1 + (m + 1) * 5 + 2, none⟩ = some (.int .i64 ps[m + 1].born) := k1 2 (by omega)
          have p3 : wr.cell? ⟨b1, o1 + (m + 1) * 5 + 3, none⟩ = some (.int .i64 ps[m + 1].cls) := k1 3 (by omega)
          have p4 : wr.cell? ⟨b1, o1 + (m + 1) * 5 + 4, none⟩ = some (.int .i64 ps[m + 1].lvl) := k1 4 (by omega)
          obtain ⟨b1', o1', e1, _, k2⟩ := R1.out _ hb m (by omega)
          obtain ⟨rfl, rfl⟩ : b1 = b1' ∧ o1 = o1' := by injection e1 with e1; injection e1 with e1 e2; exact ⟨e1, e2⟩
          have p5 : wr.cell? ⟨b1, o1 + m * 5, none⟩ = some (.int .i64 ps[m].id) := k2 0 (by omega)
          have hcmp : decide (ps[m + 1].id ≤ ps[m].id) = false := decide_eq_false (by have := hok.2 hk0; simp at this; omega)
          have z3 : (0 : Int) ≤ (m : Int) := by omega
          have z4 : (m : Int) < (ps.length : Int) := by omega
          have z5 : (m : Int) + 1 < (ps.length : Int) := by omega
          have z6 : (0 : Int) ≤ (m : Int) + 1 := by omega
          clear hb k1 k2 e1
          generalize ps[m + 1] = q at p0 p1 p2 p3 p4 hcmp HG HN
          generalize ps[m] = q2 at p5 hcmp
          go_wp2_with fail
          have hb1 : Below wr.heap.size wr (wr.alloc (.cells #[.int .i64 q.id, .string q.name, .int .i64 q.born, .int .i64 q.cls, .int .i64 q.lvl] 38)) := (Below.refl _ _).alloc (Nat.le_refl _) _
          have hk1 : (wr.alloc (.cells #[.int .i64 q.id, .string q.name, .int .i64 q.born, .int .i64 q.cls, .int .i64 q.lvl] 38)).heap[wr.heap.size]? = some (.cells #[.int .i64 q.id, .string q.name, .int .i64 q.born, .int .i64 q.cls, .int .i64 q.lvl] 38 (0, 0)) := alloc_at rfl
          have hz1 : (wr.alloc (.cells #[.int .i64 q.id, .string q.name, .int .i64 q.born, .int .i64 q.cls, .int .i64 q.lvl] 38)).heap.size = wr.heap.size + 1 := by simp
          generalize wr.alloc (.cells #[.int .i64 q.id, .string q.name, .int .i64 q.born, .int .i64 q.cls, .int .i64 q.lvl] 38) = w1 at hb1 hk1 hz1 ⊢
          obtain ⟨c0, c1, c2, c3, c4, _, _, _, _, _⟩ := cell5 hk1
          have lb : wr.heap.size < w1.heap.size := by omega
          have lb1 : b1 < w1.heap.size := by omega
          clear hz1 hk1
          have z7 : IntKind.i64.wrap (m : Int) = (m : Int) := by rw [IntKind.wrap_i64]; omega
          refine wp_region_held_drew (S := (fun w' => w'.cell? ⟨wr.heap.size, 0, none⟩ = some (.int .i64 q.id) ∧ w'.cell? ⟨wr.heap.size, 1, none⟩ = some (.string q.name) ∧ w'.cell? ⟨wr.heap.size, 2, none⟩ = some (.int .i64 q.born) ∧ w'.cell? ⟨wr.heap.size, 3, none⟩ = some (.int .i64 q.cls) ∧ w'.cell? ⟨wr.heap.size, 4, none⟩ = some (.int .i64 q.lvl) ∧ w'.cell? ⟨b1, o1 + m * 5, none⟩ = some (.int .i64 q2.id))) (by kernel_rfl) (⟨c0, c1, c2, c3, c4, (hb1.cell (p := ⟨b1, _, none⟩) l2).trans p5⟩) (fun hHeld => ?_)
          refine take1 (i := 0) (v := ?v1) (some 16) rfl rfl (by kernel_rfl) (by kernel_rfl) (by kernel_rfl) (fun _ _ _ h => h) (Or.inl ⟨by rfl, ?y1⟩) (by assumption) ?r1
          case y1 => (intro w hSw; (try dsimp only at hSw); go_simp; (first | done | with_reducible rfl))
          try simp only [Act.put, List.setIfInBounds_toArray, List.set_cons_zero, List.set_cons_succ]
          refine wpAnyH_ready (rs := [1]) (by kernel_rfl) (by simp) ?_
          refine AllReadyH.cons rfl (fun K hK => ?_) AllReadyH.nil
          go_simp
          go_at_call 22
          refine (implIsPupil_yes q _ HN.out HG.out).mono ?_
          rintro e w2 ⟨rfl, hb'⟩
          have hb2 : Below w1.heap.size w1 w2 := Below.trans (Below.drew (Below.refl _ _)) hb'
          clear hb'
          have HB2 : Hid (Below w.heap.size w w2) := Lib.hid ((HB.out.trans (hb1.mono HB.out.size)).trans (hb2.mono (Nat.le_trans HB.out.size hb1.size)))
          try go_simp
          refine hK.out _ _ (⟨(hb2.cell (p := ⟨wr.heap.size, _, none⟩) lb).trans c0, (hb2.cell (p := ⟨wr.heap.size, _, none⟩) lb).trans c1, (hb2.cell (p := ⟨wr.heap.size, _, none⟩) lb).trans c2, (hb2.cell (p := ⟨wr.heap.size, _, none⟩) lb).trans c3, (hb2.cell (p := ⟨wr.heap.size, _, none⟩) lb).trans c4, (hb2.cell (p := ⟨b1, _, none⟩) lb1).trans ((hb1.cell (p := ⟨b1, _, none⟩) l2).trans p5)⟩) (fun hHeld => ?_)
          clear hK K
          try simp only [Act.put, List.setIfInBounds_toArray, List.set_cons_zero, List.set_cons_succ]
          refine take1 (i := 2) (v := ?v2) (some 18) rfl rfl (by kernel_rfl) (by kernel_rfl) (by kernel_rfl) (fun _ _ _ h => h) (Or.inl ⟨by rfl, ?y2⟩) (by assumption) ?r2
          case y2 => (intro w hSw; (try dsimp only at hSw); go_simp; (first | done | with_reducible rfl))
          try simp only [Act.put, List.setIfInBounds_toArray, List.set_cons_zero, List.set_cons_succ]
          refine take1 (i := 3) (v := ?v3) (some 19) rfl rfl (by kernel_rfl) (by kernel_rfl) (by kernel_rfl) (fun _ _ _ h => h) (Or.inl ⟨by rfl, ?y3⟩) (by assumption) ?r3
          case y3 => (intro w hSw; (try dsimp only at hSw); go_simp; (first | done | with_reducible rfl))
          try simp only [Act.put, List.setIfInBounds_toArray, List.set_cons_zero, List.set_cons_succ]
          refine take1 (i := 4) (v := ?v4) (some 20) rfl rfl (by kernel_rfl) (by kernel_rfl) (by kernel_rfl) (fun _ _ _ h => h) (Or.inl ⟨by rfl, ?y4⟩) (by assumption) ?r4
          case y4 => (intro w hSw; (try dsimp only at hSw); go_simp; (first | done | with_reducible rfl))
          try simp only [Act.put, List.setIfInBounds_toArray, List.set_cons_zero, List.set_cons_succ]
          refine take1 (i := 5) (v := ?v5) (some 21) rfl rfl (by kernel_rfl) (by kernel_rfl) (by kernel_rfl) (fun _ _ _ h => h) (Or.inl ⟨by rfl, ?y5⟩) (by assumption) ?r5
          case y5 => (intro w hSw; (try dsimp only at hSw); go_simp; (first | done | with_reducible rfl))
          try simp only [Act.put, List.setIfInBounds_toArray, List.set_cons_zero, List.set_cons_succ]
          refine take1 (i := 6) (v := ?v6) (some 22) rfl rfl (by kernel_rfl) (by kernel_rfl) (by kernel_rfl) (fun _ _ _ h => h) (Or.inl ⟨by rfl, ?y6⟩) (by assumption) ?r6
          case y6 => (intro w hSw; (try dsimp only at hSw); go_simp; (first | done | with_reducible rfl))
          try simp only [Act.put, List.setIfInBounds_toArray, List.set_cons_zero, List.set_cons_succ]
          refine take1 (i := 7) (v := ?v7) (some 23) rfl rfl (by kernel_rfl) (by kernel_rfl) (by kernel_rfl) (fun _ _ _ h => h) (Or.inl ⟨by rfl, ?y7⟩) (by assumption) ?r7
          case y7 => (intro w hSw; (try dsimp only at hSw); go_simp; (first | done | with_reducible rfl))
          try simp only [Act.put, List.setIfInBounds_toArray, List.set_cons_zero, List.set_cons_succ]
          refine take1 (i := 8) (v := ?v8) (some 24) rfl rfl (by kernel_rfl) (by kernel_rfl) (by kernel_rfl) (fun _ _ _ h => h) (Or.inl ⟨by rfl, ?y8⟩) (by assumption) ?r8
          case y8 => (intro w hSw; (try dsimp only at hSw); go_simp; (first | done | with_reducible rfl))
          try simp only [Act.put, List.setIfInBounds_toArray, List.set_cons_zero, List.set_cons_succ]
          refine take1 (i := 9) (v := ?v9) (some 25) rfl rfl (by kernel_rfl) (by kernel_rfl) (by kernel_rfl) (fun _ _ _ h => h) (Or.inl ⟨by rfl, ?y9⟩) (by assumption) ?r9
          case y9 => (intro w hSw; (try dsimp only at hSw); go_simp; (first | done | with_reducible rfl))
          try simp only [Act.put, List.setIfInBounds_toArray, List.set_cons_zero, List.set_cons_succ]
          refine take1 (i := 10) (v := ?v10) (some 26) rfl rfl (by kernel_rfl) (by kernel_rfl) (by kernel_rfl) (fun _ _ _ h => h) (Or.inl ⟨by rfl, ?y10⟩) (by assumption) ?r10
          case y10 => (intro w hSw; (try dsimp only at hSw); go_simp; (first | done | with_reducible rfl))
          try simp only [Act.put, List.setIfInBounds_toArray, List.set_cons_zero, List.set_cons_succ]
          refine take1 (i := 11) (v := ?v11) (some 27) rfl rfl (by kernel_rfl) (by kernel_rfl) (by kernel_rfl) (fun _ _ _ h => h) (Or.inl ⟨by rfl, ?y11⟩) (by assumption) ?r11
          case y11 => (intro w hSw; (try dsimp only at hSw); go_simp; (first | done | with_reducible rfl))
          try simp only [Act.put, List.setIfInBounds_toArray, List.set_cons_zero, List.set_cons_succ]
          refine take1 (i := 12) (v := ?v12) (some 28) rfl rfl (by kernel_rfl) (by kernel_rfl) (by kernel_rfl) (fun _ _ _ h => h) (Or.inl ⟨by rfl, ?y12⟩) (by assumption) ?r12
          case y12 => (intro w hSw; (try dsimp only at hSw); go_simp; (first | done | with_reducible rfl))
          try simp only [Act.put, List.setIfInBounds_toArray, List.set_cons_zero, List.set_cons_succ]
          refine take1 (i := 13) (v := ?v13) (some 29) rfl rfl (by kernel_rfl) (by kernel_rfl) (by kernel_rfl) (fun _ _ _ h => h) (Or.inl ⟨by rfl, ?y13⟩) (by assumption) ?r13
          case y13 => (intro w hSw; (try dsimp only at hSw); go_simp; (first | done | with_reducible rfl))
          try simp only [Act.put, List.setIfInBounds_toArray, List.set_cons_zero, List.set_cons_succ]
          refine take1 (i := 14) (v := ?v14) (some 30) rfl rfl (by kernel_rfl) (by kernel_rfl) (by kernel_rfl) (fun _ _ _ h => h) (Or.inl ⟨by rfl, ?y14⟩) (by assumption) ?r14
          case y14 => (intro w hSw; (try dsimp only at hSw); go_simp; (first | done | with_reducible rfl))
          try simp only [Act.put, List.setIfInBounds_toArray, List.set_cons_zero, List.set_cons_succ]
          refine take1 (i := 15) (v := ?v15) (some 31) rfl rfl (by kernel_rfl) (by kernel_rfl) (by kernel_rfl) (fun _ _ _ h => h) (Or.inl ⟨by rfl, ?y15⟩) (by assumption) ?r15
          case y15 => (intro w hSw; (try dsimp only at hSw); go_simp; (first | done | with_reducible rfl))
          try simp only [Act.put, List.setIfInBounds_toArray, List.set_cons_zero, List.set_cons_succ]
          refine take1 (i := 16) (v := ?v16) (some 32) rfl rfl (by kernel_rfl) (by kernel_rfl) (by kernel_rfl) (fun _ _ _ h => h) (Or.inl ⟨by rfl, ?y16⟩) (by assumption) ?r16
          case y16 => (intro w hSw; (try dsimp only at hSw); go_simp; (first | done | with_reducible rfl))
          try simp only [Act.put, List.setIfInBounds_toArray, List.set_cons_zero, List.set_cons_succ]
          refine take1 (i := 17) (v := ?v17) (some 33) rfl rfl (by kernel_rfl) (by kernel_rfl) (by kernel_rfl) (fun _ _ _ h => h) (Or.inl ⟨by rfl, ?y17⟩) (by assumption) ?r17
          case y17 => (intro w hSw; (try dsimp only at hSw); go_simp; (first | done | with_reducible rfl))
          try simp only [Act.put, List.setIfInBounds_toArray, List.set_cons_zero, List.set_cons_succ]
          refine wpAnyH_done (by kernel_rfl) ?_ _
          go_wp2_with fail
          go_roundw
          case rel => exact ⟨(m + 1) + 1, by omega, by go_num, HB2.out⟩
          case measure => simp [intOf]; omega
        · have HG : Hid (okPu ps[k]) := Lib.hid (hok.1)
          have HN : Hid (ps[k].name.size ≤ maxLen) := Lib.hid (HS.out _ (List.getElem_mem hlt))
          have hd : decide (0 < k) = false := decide_eq_false hk0
          have p0 : wr.cell? ⟨b1, o1 + k * 5, none⟩ = some (.int .i64 ps[k].id) := k1 0 (by omega)
          have p1 : wr.cell? ⟨b1, o1 + k * 5 + 1, none⟩ = some (.string ps[k].name) := k1 1 (by omega)
          have p2 : wr.cell? ⟨b1, o1 + k * 5 + 2, none⟩ = some (.int .i64 ps[k].born) := k1 2 (by omega)
          have p3 : wr.cell? ⟨b1, o1 + k * 5 + 3, none⟩ = some (.int .i64 ps[k].cls) := k1 3 (by omega)
          have p4 : wr.cell? ⟨b1, o1 + k * 5 + 4, none⟩ = some (.int .i64 ps[k].lvl) := k1 4 (by omega)
          clear hb k1
          generalize ps[k] = q at p0 p1 p2 p3 p4 HG HN
          go_wp2_with fail
          have hb1 : Below wr.heap.size wr (wr.alloc (.cells #[.int .i64 q.id, .string q.name, .int .i64 q.born, .int .i64 q.cls, .int .i64 q.lvl] 38)) := (Below.refl _ _).alloc (Nat.le_refl _) _
          have hk1 : (wr.alloc (.cells #[.int .i64 q.id, .string q.name, .int .i64 q.born, .int .i64 q.cls, .int .i64 q.lvl] 38)).heap[wr.heap.size]? = some (.cells #[.int .i64 q.id, .string q.name, .int .i64 q.born, .int .i64 q.cls, .int .i64 q.lvl] 38 (0, 0)) := alloc_at rfl
          have hz1 : (wr.alloc (.cells #[.int .i64 q.id, .string q.name, .int .i64 q.born, .int .i64 q.cls, .int .i64 q.lvl] 38)).heap.size = wr.heap.size + 1 := by simp
          generalize wr.alloc (.cells #[.int .i64 q.id, .string q.name, .int .i64 q.born, .int .i64 q.cls, .int .i64 q.lvl] 38) = w1 at hb1 hk1 hz1 ⊢
          obtain ⟨c0, c1, c2, c3, c4, _, _, _, _, _⟩ := cell5 hk1
          have lb : wr.heap.size < w1.heap.size := by omega
          have lb1 : b1 < w1.heap.size := by omega
          clear hz1 hk1
          refine wp_region_held_drew (S := (fun w' => w'.cell? ⟨wr.heap.size, 0, none⟩ = some (.int .i64 q.id) ∧ w'.cell? ⟨wr.heap.size, 1, none⟩ = some (.string q.name) ∧ w'.cell? ⟨wr.heap.size, 2, none⟩ = some (.int .i64 q.born) ∧ w'.cell? ⟨wr.heap.size, 3, none⟩ = some (.int .i64 q.cls) ∧ w'.cell? ⟨wr.heap.size, 4, none⟩ = some (.int .i64 q.lvl))) (by kernel_rfl) (⟨c0, c1, c2, c3, c4⟩) (fun hHeld => ?_)
          refine take1 (i := 0) (v := ?v18) (some 16) rfl rfl (by kernel_rfl) (by kernel_rfl) (by kernel_rfl) (fun _ _ _ h => h) (Or.inl ⟨by rfl, ?y18⟩) (by assumption) ?r18
          case y18 => (intro w hSw; (try dsimp only at hSw); go_simp; (first | done | with_reducible rfl))
          try simp only [Act.put, List.setIfInBounds_toArray, List.set_cons_zero, List.set_cons_succ]
          refine wpAnyH_ready (rs := [1]) (by kernel_rfl) (by simp) ?_
          refine AllReadyH.cons rfl (fun K hK => ?_) AllReadyH.nil
          go_simp
          go_at_call 22
          refine (implIsPupil_yes q _ HN.out HG.out).mono ?_
          rintro e w2 ⟨rfl, hb'⟩
          have hb2 : Below w1.heap.size w1 w2 := Below.trans (Below.drew (Below.refl _ _)) hb'
          clear hb'
          have HB2 : Hid (Below w.heap.size w w2) := Lib.hid ((HB.out.trans (hb1.mono HB.out.size)).trans (hb2.mono (Nat.le_trans HB.out.size hb1.size)))
          try go_simp
          refine hK.out _ _ (⟨(hb2.cell (p := ⟨wr.heap.size, _, none⟩) lb).trans c0, (hb2.cell (p := ⟨wr.heap.size, _, none⟩) lb).trans c1, (hb2.cell (p := ⟨wr.heap.size, _, none⟩) lb).trans c2, (hb2.cell (p := ⟨wr.heap.size, _, none⟩) lb).trans c3, (hb2.cell (p := ⟨wr.heap.size, _, none⟩) lb).trans c4⟩) (fun hHeld => ?_)
          clear hK K
          try simp only [Act.put, List.setIfInBounds_toArray, List.set_cons_zero, List.set_cons_succ]
          refine take1 (i := 2) (v := ?v19) (some 18) rfl rfl (by kernel_rfl) (by kernel_rfl) (by kernel_rfl) (fun _ _ _ h => h) (Or.inl ⟨by rfl, ?y19⟩) (by assumption) ?r19
          case y19 => (intro w hSw; (try dsimp only at hSw); go_simp; (first | done | with_reducible rfl))
          try simp only [Act.put, List.setIfInBounds_toArray, List.set_cons_zero, List.set_cons_succ]
          refine take1 (i := 3) (v := ?v20) (some 19) rfl rfl (by kernel_rfl) (by kernel_rfl) (by kernel_rfl) (fun _ _ _ h => h) (Or.inl ⟨by rfl, ?y20⟩) (by assumption) ?r20
          case y20 => (intro w hSw; (try dsimp only at hSw); go_simp; (first | done | with_reducible rfl))
          try simp only [Act.put, List.setIfInBounds_toArray, List.set_cons_zero, List.set_cons_succ]
          refine take1 (i := 4) (v := ?v21) (some 20) rfl rfl (by kernel_rfl) (by kernel_rfl) (by kernel_rfl) (fun _ _ _ h => h) (Or.inl ⟨by rfl, ?y21⟩) (by assumption) ?r21
          case y21 => (intro w hSw; (try dsimp only at hSw); go_simp; (first | done | with_reducible rfl))
          try simp only [Act.put, List.setIfInBounds_toArray, List.set_cons_zero, List.set_cons_succ]
          refine take1 (i := 5) (v := ?v22) (some 21) rfl rfl (by kernel_rfl) (by kernel_rfl) (by kernel_rfl) (fun _ _ _ h => h) (Or.inl ⟨by rfl, ?y22⟩) (by assumption) ?r22
          case y22 => (intro w hSw; (try dsimp only at hSw); go_simp; (first | done | with_reducible rfl))
          try simp only [Act.put, List.setIfInBounds_toArray, List.set_cons_zero, List.set_cons_succ]
          refine take1 (i := 6) (v := ?v23) (some 22) rfl rfl (by kernel_rfl) (by kernel_rfl) (by kernel_rfl) (fun _ _ _ h => h) (Or.inl ⟨by rfl, ?y23⟩) (by assumption) ?r23
          case y23 => (intro w hSw; (try dsimp only at hSw); go_simp; (first | done | with_reducible rfl))
          try simp only [Act.put, List.setIfInBounds_toArray, List.set_cons_zero, List.set_cons_succ]
          refine take1 (i := 7) (v := undef) (some 23) rfl rfl (by kernel_rfl) (by kernel_rfl) (by kernel_rfl) (fun _ _ _ h => h) (Or.inr ⟨by rfl, rfl⟩) (by assumption) ?_
          try simp only [Act.put, List.setIfInBounds_toArray, List.set_cons_zero, List.set_cons_succ]
          refine take1 (i := 8) (v := undef) (some 24) rfl rfl (by kernel_rfl) (by kernel_rfl) (by kernel_rfl) (fun _ _ _ h => h) (Or.inr ⟨by rfl, rfl⟩) (by assumption) ?_
          try simp only [Act.put, List.setIfInBounds_toArray, List.set_cons_zero, List.set_cons_succ]
          refine take1 (i := 9) (v := undef) (some 25) rfl rfl (by kernel_rfl) (by kernel_rfl) (by kernel_rfl) (fun _ _ _ h => h) (Or.inr ⟨by rfl, rfl⟩) (by assumption) ?_
          try simp only [Act.put, List.setIfInBounds_toArray, List.set_cons_zero, List.set_cons_succ]
          refine take1 (i := 10) (v := undef) (some 26) rfl rfl (by kernel_rfl) (by kernel_rfl) (by kernel_rfl) (fun _ _ _ h => h) (Or.inr ⟨by rfl, rfl⟩) (by assumption) ?_
          try simp only [Act.put, List.setIfInBounds_toArray, List.set_cons_zero, List.set_cons_succ]
          refine take1 (i := 11) (v := undef) (some 27) rfl rfl (by kernel_rfl) (by kernel_rfl) (by kernel_rfl) (fun _ _ _ h => h) (Or.inr ⟨by rfl, rfl⟩) (by assumption) ?_
          try simp only [Act.put, List.setIfInBounds_toArray, List.set_cons_zero, List.set_cons_succ]
          refine take1 (i := 12) (v := undef) (some 28) rfl rfl (by kernel_rfl) (by kernel_rfl) (by kernel_rfl) (fun _ _ _ h => h) (Or.inr ⟨by rfl, rfl⟩) (by assumption) ?_
          try simp only [Act.put, List.setIfInBounds_toArray, List.set_cons_zero, List.set_cons_succ]
          refine take1 (i := 13) (v := undef) (some 29) rfl rfl (by kernel_rfl) (by kernel_rfl) (by kernel_rfl) (fun _ _ _ h => h) (Or.inr ⟨by rfl, rfl⟩) (by assumption) ?_
          try simp only [Act.put, List.setIfInBounds_toArray, List.set_cons_zero, List.set_cons_succ]
          refine take1 (i := 14) (v := undef) (some 30) rfl rfl (by kernel_rfl) (by kernel_rfl) (by kernel_rfl) (fun _ _ _ h => h) (Or.inr ⟨by rfl, rfl⟩) (by assumption) ?_
          try simp only [Act.put, List.setIfInBounds_toArray, List.set_cons_zero, List.set_cons_succ]
          refine take1 (i := 15) (v := undef) (some 31) rfl rfl (by kernel_rfl) (by kernel_rfl) (by kernel_rfl) (fun _ _ _ h => h) (Or.inr ⟨by rfl, rfl⟩) (by assumption) ?_
          try simp only [Act.put, List.setIfInBounds_toArray, List.set_cons_zero, List.set_cons_succ]
          refine take1 (i := 16) (v := ?v33) (some 32) rfl rfl (by kernel_rfl) (by kernel_rfl) (by kernel_rfl) (fun _ _ _ h => h) (Or.inl ⟨by rfl, ?y33⟩) (by assumption) ?r33
          case y33 => (intro w hSw; (try dsimp only at hSw); go_simp; (first | done | with_reducible rfl))
          try simp only [Act.put, List.setIfInBounds_toArray, List.set_cons_zero, List.set_cons_succ]
          refine take1 (i := 17) (v := ?v34) (some 33) rfl rfl (by kernel_rfl) (by kernel_rfl) (by kernel_rfl) (fun _ _ _ h => h) (Or.inl ⟨by rfl, ?y34⟩) (by assumption) ?r34
          case y34 => (intro w hSw; (try dsimp only at hSw); go_simp; (first | done | with_reducible rfl))
          try simp only [Act.put, List.setIfInBounds_toArray, List.set_cons_zero, List.set_cons_succ]
          refine wpAnyH_done (by kernel_rfl) ?_ _
          go_wp2_with fail
          go_roundw
          case rel => exact ⟨k + 1, by omega, by go_num, HB2.out⟩
          case measure => simp [intOf]; omega
      · obtain rfl : k = p := by omega
        by_cases hok : okPu ps[k]
        · have hk0 : 0 < k := Classical.byContradiction fun h0 => HX.out hlt ⟨hok, fun h => absurd h h0⟩
          obtain ⟨m, rfl⟩ : ∃ m, k = m + 1 := ⟨k - 1, by omega⟩
          have HG : Hid (okPu ps[m + 1]) := Lib.hid (hok)
          have HN : Hid (ps[m + 1].name.size ≤ maxLen) := Lib.hid (HS.out _ (List.getElem_mem hlt))
          have p0 : wr.cell? ⟨b1, o1 + (m + 1) * 5, none⟩ = some (.int .i64 ps[m + 1].id) := k1 0 (by omega)
          have p1 : wr.cell? ⟨b1, o1 + (m + 1) * 5 + 1, none⟩ = some (.string ps[m + 1].name) := k1 1 (by omega)
          have p2 : wr.cell? ⟨b1, o1 + (m + 1) * 5 + 2, none⟩ = some (.int .i64 ps[m + 1].born) := k1 2 (by omega)
          have p3 : wr.cell? ⟨b1, o1 + (m + 1) * 5 + 3, none⟩ = some (.int .i64 ps[m + 1].cls) := k1 3 (by omega)
          have p4 : wr.cell? ⟨b1, o1 + (m + 1) * 5 + 4, none⟩ = some (.int .i64 ps[m + 1].lvl) := k1 4 (by omega)
          obtain ⟨b1', o1', e1, _, k2⟩ := R1.out _ hb m (by omega)
          obtain ⟨rfl, rfl⟩ : b1 = b1' ∧ o1 = o1' := by injection e1 with e1; injection e1 with e1 e2; exact ⟨e1, e2⟩
          have p5 : wr.cell? ⟨b1, o1 + m * 5, none⟩ = some (.int .i64 ps[m].id) := k2 0 (by omega)
          have hcmp : decide (ps[m + 1].id ≤ ps[m].id) = true := decide_eq_true (Classical.byContradiction fun hh => HX.out hlt ⟨hok, fun _ => by simp; omega⟩)
          have z3 : (0 : Int) ≤ (m : Int) := by omega
          have z4 : (m : Int) < (ps.length : Int) := by omega
          have z5 : (m : Int) + 1 < (ps.length : Int) := by omega
          have z6 : (0 : Int) ≤ (m : Int) + 1 := by omega
          clear hb k1 k2 e1
          generalize ps[m + 1] = q at p0 p1 p2 p3 p4 hcmp HG HN
          generalize ps[m] = q2 at p5 hcmp
          go_wp2_with fail
          have hb1 : Below wr.heap.size wr (wr.alloc (.cells #[.int .i64 q.id, .string q.name, .int .i64 q.born, .int .i64 q.cls, .int .i64 q.lvl] 38)) := (Below.refl _ _).alloc (Nat.le_refl _) _
          have hk1 : (wr.alloc (.cells #[.int .i64 q.id, .string q.name, .int .i64 q.born, .int .i64 q.cls, .int .i64 q.lvl] 38)).heap[wr.heap.size]? = some (.cells #[.int .i64 q.id, .string q.name, .int .i64 q.born, .int .i64 q.cls, .int .i64 q.lvl] 38 (0, 0)) := alloc_at rfl
          have hz1 : (wr.alloc (.cells #[.int .i64 q.id, .string q.name, .int .i64 q.born, .int .i64 q.cls, .int .i64 q.lvl] 38)).heap.size = wr.heap.size + 1 := by simp
          generalize wr.alloc (.cells #[.int .i64 q.id, .string q.name, .int .i64 q.born, .int .i64 q.cls, .int .i64 q.lvl] 38) = w1 at hb1 hk1 hz1 ⊢
          obtain ⟨c0, c1, c2, c3, c4, _, _, _, _, _⟩ := cell5 hk1
          have lb : wr.heap.size < w1.heap.size := by omega
          have lb1 : b1 < w1.heap.size := by omega
          clear hz1 hk1
          have z7 : IntKind.i64.wrap (m : Int) = (m : Int) := by rw [IntKind.wrap_i64]; omega
          refine wp_region_held_drew (S := (fun w' => w'.cell? ⟨wr.heap.size, 0, none⟩ = some (.int .i64 q.id) ∧ w'.cell? ⟨wr.heap.size, 1, none⟩ = some (.string q.name) ∧ w'.cell? ⟨wr.heap.size, 2, none⟩ = some (.int .i64 q.born) ∧ w'.cell? ⟨wr.heap.size, 3, none⟩ = some (.int .i64 q.cls) ∧ w'.cell? ⟨wr.heap.size, 4, none⟩ = some (.int .i64 q.lvl) ∧ w'.cell? ⟨b1, o1 + m * 5, none⟩ = some (.int .i64 q2.id))) (by kernel_rfl) (⟨c0, c1, c2, c3, c4, (hb1.cell (p := ⟨b1, _, none⟩) l2).trans p5⟩) (fun hHeld => ?_)
          refine take1 (i := 0) (v := ?v35) (some 16) rfl rfl (by kernel_rfl) (by kernel_rfl) (by kernel_rfl) (fun _ _ _ h => h) (Or.inl ⟨by rfl, ?y35⟩) (by assumption) ?r35
          case y35 => (intro w hSw; (try dsimp only at hSw); go_simp; (first | done | with_reducible rfl))
          try simp only [Act.put, List.setIfInBounds_toArray, List.set_cons_zero, List.set_cons_succ]
          refine wpAnyH_ready (rs := [1]) (by kernel_rfl) (by simp) ?_
          refine AllReadyH.cons rfl (fun K hK => ?_) AllReadyH.nil
          go_simp
          go_at_call 22
          refine (implIsPupil_yes q _ HN.out HG.out).mono ?_
          rintro e w2 ⟨rfl, hb'⟩
          have hb2 : Below w1.heap.size w1 w2 := Below.trans (Below.drew (Below.refl _ _)) hb'
          clear hb'
          have HB2 : Hid (Below w.heap.size w w2) := Lib.hid ((HB.out.trans (hb1.mono HB.out.size)).trans (hb2.mono (Nat.le_trans HB.out.size hb1.size)))
          try go_simp
          refine hK.out _ _ (⟨(hb2.cell (p := ⟨wr.heap.size, _, none⟩) lb).trans c0, (hb2.cell (p := ⟨wr.heap.size, _, none⟩) lb).trans c1, (hb2.cell (p := ⟨wr.heap.size, _, none⟩) lb).trans c2, (hb2.cell (p := ⟨wr.heap.size, _, none⟩) lb).trans c3, (hb2.cell (p := ⟨wr.heap.size, _, none⟩) lb).trans c4, (hb2.cell (p := ⟨b1, _, none⟩) lb1).trans ((hb1.cell (p := ⟨b1, _, none⟩) l2).trans p5)⟩) (fun hHeld => ?_)
          clear hK K
          try simp only [Act.put, List.setIfInBounds_toArray, List.set_cons_zero, List.set_cons_succ]
          refine take1 (i := 2) (v := ?v36) (some 18) rfl rfl (by kernel_rfl) (by kernel_rfl) (by kernel_rfl) (fun _ _ _ h => h) (Or.inl ⟨by rfl, ?y36⟩) (by assumption) ?r36
          case y36 => (intro w hSw; (try dsimp only at hSw); go_simp; (first | done | with_reducible rfl))
          try simp only [Act.put, List.setIfInBounds_toArray, List.set_cons_zero, List.set_cons_succ]
          refine take1 (i := 3) (v := ?v37) (some 19) rfl rfl (by kernel_rfl) (by kernel_rfl) (by kernel_rfl) (fun _ _ _ h => h) (Or.inl ⟨by rfl, ?y37⟩) (by assumption) ?r37
          case y37 => (intro w hSw; (try dsimp only at hSw); go_simp; (first | done | with_reducible rfl))
          try simp only [Act.put, List.setIfInBounds_toArray, List.set_cons_zero, List.set_cons_succ]
          refine take1 (i := 4) (v := ?v38) (some 20) rfl rfl (by kernel_rfl) (by kernel_rfl) (by kernel_rfl) (fun _ _ _ h => h) (Or.inl ⟨by rfl, ?y38⟩) (by assumption) ?r38
          case y38 => (intro w hSw; (try dsimp only at hSw); go_simp; (first | done | with_reducible rfl))
          try simp only [Act.put, List.setIfInBounds_toArray, List.set_cons_zero, List.set_cons_succ]
          refine take1 (i := 5) (v := ?v39) (some 21) rfl rfl (by kernel_rfl) (by kernel_rfl) (by kernel_rfl) (fun _ _ _ h => h) (Or.inl ⟨by rfl, ?y39⟩) (by assumption) ?r39
          case y39 => (intro w hSw; (try dsimp only at hSw); go_simp; (first | done | with_reducible rfl))
          try simp only [Act.put, List.setIfInBounds_toArray, List.set_cons_zero, List.set_cons_succ]
          refine take1 (i := 6) (v := ?v40) (some 22) rfl rfl (by kernel_rfl) (by kernel_rfl) (by kernel_rfl) (fun _ _ _ h => h) (Or.inl ⟨by rfl, ?y40⟩) (by assumption) ?r40
          case y40 => (intro w hSw; (try dsimp only at hSw); go_simp; (first | done | with_reducible rfl))
          try simp only [Act.put, List.setIfInBounds_toArray, List.set_cons_zero, List.set_cons_succ]
          refine take1 (i := 7) (v := ?v41) (some 23) rfl rfl (by kernel_rfl) (by kernel_rfl) (by kernel_rfl) (fun _ _ _ h => h) (Or.inl ⟨by rfl, ?y41⟩) (by assumption) ?r41
          case y41 => (intro w hSw; (try dsimp only at hSw); go_simp; (first | done | with_reducible rfl))
          try simp only [Act.put, List.setIfInBounds_toArray, List.set_cons_zero, List.set_cons_succ]
          refine take1 (i := 8) (v := ?v42) (some 24) rfl rfl (by kernel_rfl) (by kernel_rfl) (by kernel_rfl) (fun _ _ _ h => h) (Or.inl ⟨by rfl, ?y42⟩) (by assumption) ?r42
          case y42 => (intro w hSw; (try dsimp only at hSw); go_simp; (first | done | with_reducible rfl))
          try simp only [Act.put, List.setIfInBounds_toArray, List.set_cons_zero, List.set_cons_succ]
          refine take1 (i := 9) (v := ?v43) (some 25) rfl rfl (by kernel_rfl) (by kernel_rfl) (by kernel_rfl) (fun _ _ _ h => h) (Or.inl ⟨by rfl, ?y43⟩) (by assumption) ?r43
          case y43 => (intro w hSw; (try dsimp only at hSw); go_simp; (first | done | with_reducible rfl))
          try simp only [Act.put, List.setIfInBounds_toArray, List.set_cons_zero, List.set_cons_succ]
          refine take1 (i := 10) (v := ?v44) (some 26) rfl rfl (by kernel_rfl) (by kernel_rfl) (by kernel_rfl) (fun _ _ _ h => h) (Or.inl ⟨by rfl, ?y44⟩) (by assumption) ?r44
          case y44 => (intro w hSw; (try dsimp only at hSw); go_simp; (first | done | with_reducible rfl))
          try simp only [Act.put, List.setIfInBounds_toArray, List.set_cons_zero, List.set_cons_succ]
          refine take1 (i := 11) (v := ?v45) (some 27) rfl rfl (by kernel_rfl) (by kernel_rfl) (by kernel_rfl) (fun _ _ _ h => h) (Or.inl ⟨by rfl, ?y45⟩) (by assumption) ?r45
          case y45 => (intro w hSw; (try dsimp only at hSw); go_simp; (first | done | with_reducible rfl))
          try simp only [Act.put, List.setIfInBounds_toArray, List.set_cons_zero, List.set_cons_succ]
          refine take1 (i := 12) (v := ?v46) (some 28) rfl rfl (by kernel_rfl) (by kernel_rfl) (by kernel_rfl) (fun _ _ _ h => h) (Or.inl ⟨by rfl, ?y46⟩) (by assumption) ?r46
          case y46 => (intro w hSw; (try dsimp only at hSw); go_simp; (first | done | with_reducible rfl))
          try simp only [Act.put, List.setIfInBounds_toArray, List.set_cons_zero, List.set_cons_succ]
          refine take1 (i := 13) (v := ?v47) (some 29) rfl rfl (by kernel_rfl) (by kernel_rfl) (by kernel_rfl) (fun _ _ _ h => h) (Or.inl ⟨by rfl, ?y47⟩) (by assumption) ?r47
          case y47 => (intro w hSw; (try dsimp only at hSw); go_simp; (first | done | with_reducible rfl))
          try simp only [Act.put, List.setIfInBounds_toArray, List.set_cons_zero, List.set_cons_succ]
          refine take1 (i := 14) (v := ?v48) (some 30) rfl rfl (by kernel_rfl) (by kernel_rfl) (by kernel_rfl) (fun _ _ _ h => h) (Or.inl ⟨by rfl, ?y48⟩) (by assumption) ?r48
          case y48 => (intro w hSw; (try dsimp only at hSw); go_simp; (first | done | with_reducible rfl))
          try simp only [Act.put, List.setIfInBounds_toArray, List.set_cons_zero, List.set_cons_succ]
          refine take1 (i := 15) (v := ?v49) (some 31) rfl rfl (by kernel_rfl) (by kernel_rfl) (by kernel_rfl) (fun _ _ _ h => h) (Or.inl ⟨by rfl, ?y49⟩) (by assumption) ?r49
          case y49 => (intro w hSw; (try dsimp only at hSw); go_simp; (first | done | with_reducible rfl))
          try simp only [Act.put, List.setIfInBounds_toArray, List.set_cons_zero, List.set_cons_succ]
          refine take1 (i := 16) (v := ?v50) (some 32) rfl rfl (by kernel_rfl) (by kernel_rfl) (by kernel_rfl) (fun _ _ _ h => h) (Or.inl ⟨by rfl, ?y50⟩) (by assumption) ?r50
          case y50 => (intro w hSw; (try dsimp only at hSw); go_simp; (first | done | with_reducible rfl))
          try simp only [Act.put, List.setIfInBounds_toArray, List.set_cons_zero, List.set_cons_succ]
          refine take1 (i := 17) (v := ?v51) (some 33) rfl rfl (by kernel_rfl) (by kernel_rfl) (by kernel_rfl) (fun _ _ _ h => h) (Or.inl ⟨by rfl, ?y51⟩) (by assumption) ?r51
          case y51 => (intro w hSw; (try dsimp only at hSw); go_simp; (first | done | with_reducible rfl))
          try simp only [Act.put, List.setIfInBounds_toArray, List.set_cons_zero, List.set_cons_succ]
          refine wpAnyH_done (by kernel_rfl) ?_ _
          go_wp2_with fail
          go_ret
          exact ⟨ret_bool (HR1.out (by omega)).symm, HB2.out⟩
        · have HG := Lib.hid hok
          have HN : Hid (ps[k].name.size ≤ maxLen) := Lib.hid (HS.out _ (List.getElem_mem hlt))
          have p0 : wr.cell? ⟨b1, o1 + k * 5, none⟩ = some (.int .i64 ps[k].id) := k1 0 (by omega)
          have p1 : wr.cell? ⟨b1, o1 + k * 5 + 1, none⟩ = some (.string ps[k].name) := k1 1 (by omega)
          have p2 : wr.cell? ⟨b1, o1 + k * 5 + 2, none⟩ = some (.int .i64 ps[k].born) := k1 2 (by omega)
          have p3 : wr.cell? ⟨b1, o1 + k * 5 + 3, none⟩ = some (.int .i64 ps[k].cls) := k1 3 (by omega)
          have p4 : wr.cell? ⟨b1, o1 + k * 5 + 4, none⟩ = some (.int .i64 ps[k].lvl) := k1 4 (by omega)
          clear hb k1 hok
          generalize ps[k] = q at p0 p1 p2 p3 p4 HG HN
          go_wp2_with fail
          have hb1 : Below wr.heap.size wr (wr.alloc (.cells #[.int .i64 q.id, .string q.name, .int .i64 q.born, .int .i64 q.cls, .int .i64 q.lvl] 38)) := (Below.refl _ _).alloc (Nat.le_refl _) _
          have hk1 : (wr.alloc (.cells #[.int .i64 q.id, .string q.name, .int .i64 q.born, .int .i64 q.cls, .int .i64 q.lvl] 38)).heap[wr.heap.size]? = some (.cells #[.int .i64 q.id, .string q.name, .int .i64 q.born, .int .i64 q.cls, .int .i64 q.lvl] 38 (0, 0)) := alloc_at rfl
          have hz1 : (wr.alloc (.cells #[.int .i64 q.id, .string q.name, .int .i64 q.born, .int .i64 q.cls, .int .i64 q.lvl] 38)).heap.size = wr.heap.size + 1 := by simp
          generalize wr.alloc (.cells #[.int .i64 q.id, .string q.name, .int .i64 q.born, .int .i64 q.cls, .int .i64 q.lvl] 38) = w1 at hb1 hk1 hz1 ⊢
          obtain ⟨c0, c1, c2, c3, c4, _, _, _, _, _⟩ := cell5 hk1
          have lb : wr.heap.size < w1.heap.size := by omega
          have lb1 : b1 < w1.heap.size := by omega
          clear hz1 hk1
          refine wp_region_held_drew (S := (fun w' => w'.cell? ⟨wr.heap.size, 0, none⟩ = some (.int .i64 q.id) ∧ w'.cell? ⟨wr.heap.size, 1, none⟩ = some (.string q.name) ∧ w'.cell? ⟨wr.heap.size, 2, none⟩ = some (.int .i64 q.born) ∧ w'.cell? ⟨wr.heap.size, 3, none⟩ = some (.int .i64 q.cls) ∧ w'.cell? ⟨wr.heap.size, 4, none⟩ = some (.int .i64 q.lvl))) (by kernel_rfl) (⟨c0, c1, c2, c3, c4⟩) (fun hHeld => ?_)
          refine take1 (i := 0) (v := ?v52) (some 16) rfl rfl (by kernel_rfl) (by kernel_rfl) (by kernel_rfl) (fun _ _ _ h => h) (Or.inl ⟨by rfl, ?y52⟩) (by assumption) ?r52
          case y52 => (intro w hSw; (try dsimp only at hSw); go_simp; (first | done | with_reducible rfl))
          try simp only [Act.put, List.setIfInBounds_toArray, List.set_cons_zero, List.set_cons_succ]
          refine wpAnyH_ready (rs := [1]) (by kernel_rfl) (by simp) ?_
          refine AllReadyH.cons rfl (fun K hK => ?_) AllReadyH.nil
          go_simp
          go_at_call 22
          refine (implIsPupil_no q _ HN.out HG.out).mono ?_
          rintro e w2 ⟨rfl, hb'⟩
          have hb2 : Below w1.heap.size w1 w2 := Below.trans (Below.drew (Below.refl _ _)) hb'
          clear hb'
          have HB2 : Hid (Below w.heap.size w w2) := Lib.hid ((HB.out.trans (hb1.mono HB.out.size)).trans (hb2.mono (Nat.le_trans HB.out.size hb1.size)))
          try go_simp
          refine hK.out _ _ (⟨(hb2.cell (p := ⟨wr.heap.size, _, none⟩) lb).trans c0, (hb2.cell (p := ⟨wr.heap.size, _, none⟩) lb).trans c1, (hb2.cell (p := ⟨wr.heap.size, _, none⟩) lb).trans c2, (hb2.cell (p := ⟨wr.heap.size, _, none⟩) lb).trans c3, (hb2.cell (p := ⟨wr.heap.size, _, none⟩) lb).trans c4⟩) (fun hHeld => ?_)
          clear hK K
          try simp only [Act.put, List.setIfInBounds_toArray, List.set_cons_zero, List.set_cons_succ]
          refine take1 (i := 2) (v := ?v53) (some 18) rfl rfl (by kernel_rfl) (by kernel_rfl) (by kernel_rfl) (fun _ _ _ h => h) (Or.inl ⟨by rfl, ?y53⟩) (by assumption) ?r53
          case y53 => (intro w hSw; (try dsimp only at hSw); go_simp; (first | done | with_reducible rfl))
          try simp only [Act.put, List.setIfInBounds_toArray, List.set_cons_zero, List.set_cons_succ]
          refine take1 (i := 3) (v := ?v54) (some 19) rfl rfl (by kernel_rfl) (by kernel_rfl) (by kernel_rfl) (fun _ _ _ h => h) (Or.inl ⟨by rfl, ?y54⟩) (by assumption) ?r54
          case y54 => (intro w hSw; (try dsimp only at hSw); go_simp; (first | done | with_reducible rfl))
          try simp only [Act.put, List.setIfInBounds_toArray, List.set_cons_zero, List.set_cons_succ]
          refine take1 (i := 4) (v := undef) (some 20) rfl rfl (by kernel_rfl) (by kernel_rfl) (by kernel_rfl) (fun _ _ _ h => h) (Or.inr ⟨by rfl, rfl⟩) (by assumption) ?_
          try simp only [Act.put, List.setIfInBounds_toArray, List.set_cons_zero, List.set_cons_succ]
          refine take1 (i := 5) (v := undef) (some 21) rfl rfl (by kernel_rfl) (by kernel_rfl) (by kernel_rfl) (fun _ _ _ h => h) (Or.inr ⟨by rfl, rfl⟩) (by assumption) ?_
          try simp only [Act.put, List.setIfInBounds_toArray, List.set_cons_zero, List.set_cons_succ]
          refine take1 (i := 6) (v := undef) (some 22) rfl rfl (by kernel_rfl) (by kernel_rfl) (by kernel_rfl) (fun _ _ _ h => h) (Or.inr ⟨by rfl, rfl⟩) (by assumption) ?_
          try simp only [Act.put, List.setIfInBounds_toArray, List.set_cons_zero, List.set_cons_succ]
          refine take1 (i := 7) (v := undef) (some 23) rfl rfl (by kernel_rfl) (by kernel_rfl) (by kernel_rfl) (fun _ _ _ h => h) (Or.inr ⟨by rfl, rfl⟩) (by assumption) ?_
          try simp only [Act.put, List.setIfInBounds_toArray, List.set_cons_zero, List.set_cons_succ]
          refine take1 (i := 8) (v := undef) (some 24) rfl rfl (by kernel_rfl) (by kernel_rfl) (by kernel_rfl) (fun _ _ _ h => h) (Or.inr ⟨by rfl, rfl⟩) (by assumption) ?_
          try simp only [Act.put, List.setIfInBounds_toArray, List.set_cons_zero, List.set_cons_succ]
          refine take1 (i := 9) (v := undef) (some 25) rfl rfl (by kernel_rfl) (by kernel_rfl) (by kernel_rfl) (fun _ _ _ h => h) (Or.inr ⟨by rfl, rfl⟩) (by assumption) ?_
          try simp only [Act.put, List.setIfInBounds_toArray, List.set_cons_zero, List.set_cons_succ]
          refine take1 (i := 10) (v := undef) (some 26) rfl rfl (by kernel_rfl) (by kernel_rfl) (by kernel_rfl) (fun _ _ _ h => h) (Or.inr ⟨by rfl, rfl⟩) (by assumption) ?_
          try simp only [Act.put, List.setIfInBounds_toArray, List.set_cons_zero, List.set_cons_succ]
          refine take1 (i := 11) (v := undef) (some 27) rfl rfl (by kernel_rfl) (by kernel_rfl) (by kernel_rfl) (fun _ _ _ h => h) (Or.inr ⟨by rfl, rfl⟩) (by assumption) ?_
          try simp only [Act.put, List.setIfInBounds_toArray, List.set_cons_zero, List.set_cons_succ]
          refine take1 (i := 12) (v := undef) (some 28) rfl rfl (by kernel_rfl) (by kernel_rfl) (by kernel_rfl) (fun _ _ _ h => h) (Or.inr ⟨by rfl, rfl⟩) (by assumption) ?_
          try simp only [Act.put, List.setIfInBounds_toArray, List.set_cons_zero, List.set_cons_succ]
          refine take1 (i := 13) (v := undef) (some 29) rfl rfl (by kernel_rfl) (by kernel_rfl) (by kernel_rfl) (fun _ _ _ h => h) (Or.inr ⟨by rfl, rfl⟩) (by assumption) ?_
          try simp only [Act.put, List.setIfInBounds_toArray, List.set_cons_zero, List.set_cons_succ]
          refine take1 (i := 14) (v := undef) (some 30) rfl rfl (by kernel_rfl) (by kernel_rfl) (by kernel_rfl) (fun _ _ _ h => h) (Or.inr ⟨by rfl, rfl⟩) (by assumption) ?_
          try simp only [Act.put, List.setIfInBounds_toArray, List.set_cons_zero, List.set_cons_succ]
          refine take1 (i := 15) (v := undef) (some 31) rfl rfl (by kernel_rfl) (by kernel_rfl) (by kernel_rfl) (fun _ _ _ h => h) (Or.inr ⟨by rfl, rfl⟩) (by assumption) ?_
          try simp only [Act.put, List.setIfInBounds_toArray, List.set_cons_zero, List.set_cons_succ]
          refine take1 (i := 16) (v := undef) (some 32) rfl rfl (by kernel_rfl) (by kernel_rfl) (by kernel_rfl) (fun _ _ _ h => h) (Or.inr ⟨by rfl, rfl⟩) (by assumption) ?_
          try simp only [Act.put, List.setIfInBounds_toArray, List.set_cons_zero, List.set_cons_succ]
          refine take1 (i := 17) (v := ?v68) (some 33) rfl rfl (by kernel_rfl) (by kernel_rfl) (by kernel_rfl) (fun _ _ _ h => h) (Or.inl ⟨by rfl, ?y68⟩) (by assumption) ?r68
          case y68 => (intro w hSw; (try dsimp only at hSw); go_simp; (first | done | with_reducible rfl))
          try simp only [Act.put, List.setIfInBounds_toArray, List.set_cons_zero, List.set_cons_succ]
          refine wpAnyH_done (by kernel_rfl) ?_ _
          go_wp2_with fail
          go_ret
          exact ⟨ret_bool (HR1.out (by omega)).symm, HB2.out⟩
    · obtain rfl : p = ps.length := by omega
      have HV : Hid (∀ (i : Nat) (h : i < ps.length), 0 ≤ ps[i].lvl ∧ ps[i].lvl ≤ 10) := Lib.hid (fun i h => (HP.out i h h).1.2.2.2.2)
      clear hb
      go_wp2_with fail
      go_loopw [5] (fun c wr => ∃ n : Nat, 1 ≤ n ∧ n ≤ q ∧ c = .int .i64 n ∧ Below w.heap.size w wr) (fun c _ => 10 - (intOf c).toNat)
      case atStart => exact ⟨1, by omega, hq1, rfl, HB.out⟩
      case round =>
        obtain ⟨n, hn1, hn, rfl, hb⟩ := hrel
        have HB2 := Lib.hid hb
        clear hb
        by_cases h9 : n ≤ 9
        · have z1 : (n : Int) ≤ 9 := by omega
          have z2 : (0 : Int) ≤ (n : Int) := by omega
          have hcl := fun w' (hb' : Below w.heap.size w w') => classOk_any _ ps n w' (HW.out.below hb' (Nat.le_refl _)) (by omega) HV.out
          by_cases hc : okCl (n : Int) ps
          · have hnq : n < q := by
              rcases Nat.lt_or_ge n q with h' | h'
              · exact h'
              · obtain rfl : n = q := by omega
                exact absurd hc (HCX.out h9)
            rw [decide_eq_true hc] at hcl
            have HCL := Lib.hid hcl
            clear hcl hc
            go_wp2_with fail
            refine (HCL.out _ HB2.out).mono ?_
            rintro e w3 ⟨rfl, hb3⟩
            go_wp2_with fail
            go_roundw
            case rel => exact ⟨n + 1, by omega, by omega, by go_num, HB2.out.trans (hb3.mono HB2.out.size)⟩
            case measure => simp [intOf]; omega
          · have hnq : n = q := by
              rcases Nat.lt_or_ge n q with h' | h'
              · exact absurd (HCP.out n (by omega) (by omega)) hc
              · omega
            subst hnq
            rw [decide_eq_false hc] at hcl
            have HCL := Lib.hid hcl
            clear hcl hc
            go_wp2_with fail
            refine (HCL.out _ HB2.out).mono ?_
            rintro e w3 ⟨rfl, hb3⟩
            go_wp2_with fail
            go_ret
            exact ⟨ret_bool (HR2.out (by first | trivial | rfl) h9).symm, HB2.out.trans (hb3.mono HB2.out.size)⟩
        · obtain rfl : n = q := by omega
          have hn10 : ¬ (n : Int) ≤ 9 := by omega
          have HN10 : Hid (n = 10) := Lib.hid (by omega)
          go_wp2_with fail
          go_ret
          exact ⟨ret_bool (HR3.out (by first | trivial | rfl) HN10.out).symm, HB2.out⟩
set_option maxRecDepth 100000 in
set_option maxHeartbeats 400000 in
theorem iGood_long (v : Value) (ps : List Pu) (w : World) (h : RowsR 5 puC w v ps) (hlen : 12 < ps.length) :
    Calls Try.prog 27 #[v] w fun e w' => e = .returned (.bool false) ∧ Below w.heap.size w w' := by
  obtain ⟨a, cp, rfl⟩ := h.form
  have hm : ps.length ≤ 9223372036854775807 := by obtain ⟨_, _, _, ⟨m, _⟩, _⟩ := h; exact m
  clear h
  go_enter Try.func27, Try.ntmps27
  go_wp2_with fail
  go_ret
  exact ⟨rfl, Below.refl _ _⟩
theorem iGood_any (v : Value) (ps : List Pu) (w : World) (h : RowsR 5 puC w v ps) (hs : ∀ p ∈ ps, p.name.size ≤ maxLen) (r : Bool) (hr : r = true ↔ okL ps) :
    Calls Try.prog 27 #[v] w fun e w' => e = .returned (.bool r) ∧ Below w.heap.size w w' := by
  by_cases hlen : ps.length ≤ 12
  · obtain ⟨p, hp, hpre, hx⟩ := first_bad' ps.length (fun i h => okAt ps i h)
    obtain ⟨q, hq1, hq, hcp, hcx⟩ := first_class (fun c => okCl c ps)
    refine iGood_bad v ps w h hs hlen p hp hpre hx q hq1 hq hcp hcx r (fun hlt => ?_) (fun he h9 => ?_) (fun he h10 => ?_)
    · refine Bool.eq_false_iff.2 fun hr' => ?_
      exact hx hlt ((hr.1 hr').1 p hlt)
    · refine Bool.eq_false_iff.2 fun hr' => ?_
      exact hcx h9 ((hr.1 hr').2.1 q (by omega) (by omega))
    · subst he h10
      exact hr.2 ⟨fun i h => hpre i h h, fun c h1 h2 => hcp c h1 (by omega), hlen⟩
  · have e : r = false := Bool.eq_false_iff.2 fun hr' => hlen (hr.1 hr').2.2
    subst e
    exact iGood_long v ps w h (by omega)
theorem iGood_yes (v : Value) (ps : List Pu) (w : World) (h : RowsR 5 puC w v ps) (hs : ∀ p ∈ ps, p.name.size ≤ maxLen) (ho : okL ps) :
    Calls Try.prog 27 #[v] w fun e w' => e = .returned (.bool true) ∧ Below w.heap.size w w' :=
  iGood_any v ps w h hs true ⟨fun _ => ho, fun _ => rfl⟩
theorem iGood_no (v : Value) (ps : List Pu) (w : World) (h : RowsR 5 puC w v ps) (hs : ∀ p ∈ ps, p.name.size ≤ maxLen) (ho : ¬ okL ps) :
    Calls Try.prog 27 #[v] w fun e w' => e = .returned (.bool false) ∧ Below w.heap.size w w' :=
  iGood_any v ps w h hs false ⟨fun h => by simp at h, fun h => absurd h ho⟩
end Go.Proofs.Ytlhcediejccieaa
