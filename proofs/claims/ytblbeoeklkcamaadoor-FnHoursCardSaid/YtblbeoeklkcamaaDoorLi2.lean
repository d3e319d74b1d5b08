/- The program: when lessons clash; where one is. -/
import Derived.Test.YtblbeoeklkcamaaDoorLi1
namespace Go.Proofs.YtblbeoeklkcamaaDoor
set_option linter.unusedVariables false
open Go.RowKit

set_option maxRecDepth 100000 in
set_option maxHeartbeats 800000 in
theorem endOf_any (x : Les) (w : World) :
    Calls Tryd.prog 39 #[lesV x] w fun e w' => e = .returned (.int .i64 (endL x)) ∧ Below w.heap.size w w' := by
  obtain ⟨id, cls, tch, room, day, bgn, mins⟩ := x
  show Calls Tryd.prog 39 #[.agg #[.int .i64 id, .int .i64 cls, .int .i64 tch, .int .i64 room, .int .i64 day, .int .i64 bgn, .int .i64 mins]] w fun e w' => e = .returned (.int .i64 (endL ⟨id, cls, tch, room, day, bgn, mins⟩)) ∧ Below w.heap.size w w'
  obtain ⟨z, hz⟩ : ∃ z, IntKind.i64.wrap (bgn + mins) = z := ⟨_, rfl⟩
  have hE : endL ⟨id, cls, tch, room, day, bgn, mins⟩ = z := hz
  rw [hE]
  clear hE
  go_enter Tryd.func39, Tryd.ntmps39
  go_wp2_with fail
  go_ret
  exact ⟨rfl, (Below.refl _ _).alloc (Nat.le_refl _) _⟩
set_option maxRecDepth 100000 in
set_option maxHeartbeats 1600000 in
theorem implMeet_any (x y : Les) (w : World) :
    Calls Tryd.prog 67 #[lesV x, lesV y] w fun e w' => e = .returned (.bool (meetB x y)) ∧ Below w.heap.size w w' := by
  obtain ⟨aid, acls, atch, aroom, aday, abgn, amins⟩ := x
  obtain ⟨bid, bcls, btch, broom, bday, bbgn, bmins⟩ := y
  show Calls Tryd.prog 67 #[.agg #[.int .i64 aid, .int .i64 acls, .int .i64 atch, .int .i64 aroom, .int .i64 aday, .int .i64 abgn, .int .i64 amins], .agg #[.int .i64 bid, .int .i64 bcls, .int .i64 btch, .int .i64 broom, .int .i64 bday, .int .i64 bbgn, .int .i64 bmins]] w fun e w' => e = .returned (.bool (meetB ⟨aid, acls, atch, aroom, aday, abgn, amins⟩ ⟨bid, bcls, btch, broom, bday, bbgn, bmins⟩)) ∧ Below w.heap.size w w'
  obtain ⟨eb, heb⟩ : ∃ z, IntKind.i64.wrap (bbgn + bmins) = z := ⟨_, rfl⟩
  obtain ⟨ea, hea⟩ : ∃ z, IntKind.i64.wrap (abgn + amins) = z := ⟨_, rfl⟩
  have hE : meetB ⟨aid, acls, atch, aroom, aday, abgn, amins⟩ ⟨bid, bcls, btch, broom, bday, bbgn, bmins⟩ = decide (aday = bday ∧ abgn < eb ∧ bbgn < ea) := by subst heb; subst hea; rfl
  generalize meetB ⟨aid, acls, atch, aroom, aday, abgn, amins⟩ ⟨bid, bcls, btch, broom, bday, bbgn, bmins⟩ = r at hE ⊢
  have HE := Lib.hid hE
  clear hE
  have HEB := Lib.hid (fun w => endOf_any ⟨bid, bcls, btch, broom, bday, bbgn, bmins⟩ w)
  have HEA := Lib.hid (fun w => endOf_any ⟨aid, acls, atch, aroom, aday, abgn, amins⟩ w)
  change Hid (∀ w : World, Calls Tryd.prog 39 #[.agg #[.int .i64 bid, .int .i64 bcls, .int .i64 btch, .int .i64 broom, .int .i64 bday, .int .i64 bbgn, .int .i64 bmins]] w fun e w' => e = .returned (.int .i64 (IntKind.i64.wrap (bbgn + bmins))) ∧ Below w.heap.size w w') at HEB
  change Hid (∀ w : World, Calls Tryd.prog 39 #[.agg #[.int .i64 aid, .int .i64 acls, .int .i64 atch, .int .i64 aroom, .int .i64 aday, .int .i64 abgn, .int .i64 amins]] w fun e w' => e = .returned (.int .i64 (IntKind.i64.wrap (abgn + amins))) ∧ Below w.heap.size w w') at HEA
  rw [heb] at HEB
  rw [hea] at HEA
  clear heb hea
  by_cases hd : aday = bday
  · have hd' : (aday == bday) = true := by simpa using hd
    by_cases h1 : abgn < eb
    · by_cases h2 : bbgn < ea
      · have HN : Hid (r = true) := Lib.hid (by rw [HE.out]; simp [hd, h1, h2])
        clear hd
        go_enter Tryd.func67, Tryd.ntmps67
        go_wp2_with fail
        have hba : Below w.heap.size w ((w.alloc (.cells #[.int .i64 aid, .int .i64 acls, .int .i64 atch, .int .i64 aroom, .int .i64 aday, .int .i64 abgn, .int .i64 amins] 31)).alloc (.cells #[.int .i64 bid, .int .i64 bcls, .int .i64 btch, .int .i64 broom, .int .i64 bday, .int .i64 bbgn, .int .i64 bmins] 31)) := ((Below.refl _ _).alloc (Nat.le_refl _) _).alloc (by simp) _
        have hka : ((w.alloc (.cells #[.int .i64 aid, .int .i64 acls, .int .i64 atch, .int .i64 aroom, .int .i64 aday, .int .i64 abgn, .int .i64 amins] 31)).alloc (.cells #[.int .i64 bid, .int .i64 bcls, .int .i64 btch, .int .i64 broom, .int .i64 bday, .int .i64 bbgn, .int .i64 bmins] 31)).heap[w.heap.size]? = some (.cells #[.int .i64 aid, .int .i64 acls, .int .i64 atch, .int .i64 aroom, .int .i64 aday, .int .i64 abgn, .int .i64 amins] 31 (0, 0)) := (alloc_old (by simp)).trans (alloc_at rfl)
        have hkb : ((w.alloc (.cells #[.int .i64 aid, .int .i64 acls, .int .i64 atch, .int .i64 aroom, .int .i64 aday, .int .i64 abgn, .int .i64 amins] 31)).alloc (.cells #[.int .i64 bid, .int .i64 bcls, .int .i64 btch, .int .i64 broom, .int .i64 bday, .int .i64 bbgn, .int .i64 bmins] 31)).heap[w.heap.size + 1]? = some (.cells #[.int .i64 bid, .int .i64 bcls, .int .i64 btch, .int .i64 broom, .int .i64 bday, .int .i64 bbgn, .int .i64 bmins] 31 (0, 0)) := alloc_at (by simp)
        generalize ((w.alloc (.cells #[.int .i64 aid, .int .i64 acls, .int .i64 atch, .int .i64 aroom, .int .i64 aday, .int .i64 abgn, .int .i64 amins] 31)).alloc (.cells #[.int .i64 bid, .int .i64 bcls, .int .i64 btch, .int .i64 broom, .int .i64 bday, .int .i64 bbgn, .int .i64 bmins] 31)) = w1 at hba hka hkb ⊢
        generalize hP : w.heap.size = P at hka ⊢
        generalize hQ : P + 1 = Q at hkb ⊢
        rw [hP, hQ] at hkb
        have la := lt_of_block hka
        have lb := lt_of_block hkb
        obtain ⟨x0, x1, x2, x3, x4, x5, x6, -, -, -, -, -, -, -⟩ := cell7 hka
        obtain ⟨y0, y1, y2, y3, y4, y5, y6, -, -, -, -, -, -, -⟩ := cell7 hkb
        have HBA := Lib.hid hba
        clear hba hka hkb hP hQ
        refine wp_region_held_drew (S := (fun w' => w'.cell? ⟨P, 0, none⟩ = some (.int .i64 aid) ∧ w'.cell? ⟨P, 1, none⟩ = some (.int .i64 acls) ∧ w'.cell? ⟨P, 2, none⟩ = some (.int .i64 atch) ∧ w'.cell? ⟨P, 3, none⟩ = some (.int .i64 aroom) ∧ w'.cell? ⟨P, 4, none⟩ = some (.int .i64 aday) ∧ w'.cell? ⟨P, 5, none⟩ = some (.int .i64 abgn) ∧ w'.cell? ⟨P, 6, none⟩ = some (.int .i64 amins) ∧ w'.cell? ⟨Q, 0, none⟩ = some (.int .i64 bid) ∧ w'.cell? ⟨Q, 1, none⟩ = some (.int .i64 bcls) ∧ w'.cell? ⟨Q, 2, none⟩ = some (.int .i64 btch) ∧ w'.cell? ⟨Q, 3, none⟩ = some (.int .i64 broom) ∧ w'.cell? ⟨Q, 4, none⟩ = some (.int .i64 bday) ∧ w'.cell? ⟨Q, 5, none⟩ = some (.int .i64 bbgn) ∧ w'.cell? ⟨Q, 6, none⟩ = some (.int .i64 bmins))) (by kernel_rfl) (⟨x0, x1, x2, x3, x4, x5, x6, y0, y1, y2, y3, y4, y5, y6⟩) (fun hHeld => ?_)
        refine take1 (i := 0) (v := ?v1) (some 5) rfl rfl (by kernel_rfl) (by kernel_rfl) (by kernel_rfl) (fun _ _ _ h => h) (Or.inl ⟨by rfl, ?y1⟩) (by assumption) ?r1
        case y1 => (intro w hSw; (try dsimp only at hSw); go_simp; (first | done | with_reducible rfl))
        try simp only [Act.put, List.setIfInBounds_toArray, List.set_cons_zero, List.set_cons_succ]
        refine take1 (i := 1) (v := ?v2) (some 6) rfl rfl (by kernel_rfl) (by kernel_rfl) (by kernel_rfl) (fun _ _ _ h => h) (Or.inl ⟨by rfl, ?y2⟩) (by assumption) ?r2
        case y2 => (intro w hSw; (try dsimp only at hSw); go_simp; (first | done | with_reducible rfl))
        try simp only [Act.put, List.setIfInBounds_toArray, List.set_cons_zero, List.set_cons_succ]
        refine take1 (i := 2) (v := ?v3) (some 7) rfl rfl (by kernel_rfl) (by kernel_rfl) (by kernel_rfl) (fun _ _ _ h => h) (Or.inl ⟨by rfl, ?y3⟩) (by assumption) ?r3
        case y3 => (intro w hSw; (try dsimp only at hSw); go_simp; (first | done | with_reducible rfl))
        try simp only [Act.put, List.setIfInBounds_toArray, List.set_cons_zero, List.set_cons_succ]
        refine take1 (i := 3) (v := ?v4) (some 8) rfl rfl (by kernel_rfl) (by kernel_rfl) (by kernel_rfl) (fun _ _ _ h => h) (Or.inl ⟨by rfl, ?y4⟩) (by assumption) ?r4
        case y4 => (intro w hSw; (try dsimp only at hSw); go_simp; (first | done | with_reducible rfl))
        try simp only [Act.put, List.setIfInBounds_toArray, List.set_cons_zero, List.set_cons_succ]
        refine take1 (i := 4) (v := ?v5) (some 9) rfl rfl (by kernel_rfl) (by kernel_rfl) (by kernel_rfl) (fun _ _ _ h => h) (Or.inl ⟨by rfl, ?y5⟩) (by assumption) ?r5
        case y5 => (intro w hSw; (try dsimp only at hSw); go_simp; (first | done | with_reducible rfl))
        try simp only [Act.put, List.setIfInBounds_toArray, List.set_cons_zero, List.set_cons_succ]
        refine take1 (i := 5) (v := ?v6) (some 10) rfl rfl (by kernel_rfl) (by kernel_rfl) (by kernel_rfl) (fun _ _ _ h => h) (Or.inl ⟨by rfl, ?y6⟩) (by assumption) ?r6
        case y6 => (intro w hSw; (try dsimp only at hSw); go_simp; (first | done | with_reducible rfl))
        try simp only [Act.put, List.setIfInBounds_toArray, List.set_cons_zero, List.set_cons_succ]
        refine take1 (i := 6) (v := ?v7) (some 11) rfl rfl (by kernel_rfl) (by kernel_rfl) (by kernel_rfl) (fun _ _ _ h => h) (Or.inl ⟨by rfl, ?y7⟩) (by assumption) ?r7
        case y7 => (intro w hSw; (try dsimp only at hSw); go_simp; (first | done | with_reducible rfl))
        try simp only [Act.put, List.setIfInBounds_toArray, List.set_cons_zero, List.set_cons_succ]
        refine take1 (i := 7) (v := ?v8) (some 12) rfl rfl (by kernel_rfl) (by kernel_rfl) (by kernel_rfl) (fun _ _ _ h => h) (Or.inl ⟨by rfl, ?y8⟩) (by assumption) ?r8
        case y8 => (intro w hSw; (try dsimp only at hSw); go_simp; (first | done | with_reducible rfl))
        try simp only [Act.put, List.setIfInBounds_toArray, List.set_cons_zero, List.set_cons_succ]
        refine take1 (i := 8) (v := ?v9) (some 13) rfl rfl (by kernel_rfl) (by kernel_rfl) (by kernel_rfl) (fun _ _ _ h => h) (Or.inl ⟨by rfl, ?y9⟩) (by assumption) ?r9
        case y9 => (intro w hSw; (try dsimp only at hSw); go_simp; (first | done | with_reducible rfl))
        try simp only [Act.put, List.setIfInBounds_toArray, List.set_cons_zero, List.set_cons_succ]
        refine wpAnyH_ready (rs := [9]) (by kernel_rfl) (by simp) ?_
        refine AllReadyH.cons rfl (fun K hK => ?_) AllReadyH.nil
        go_simp
        go_at_call 39
        refine (HEB.out _).mono ?_
        rintro e w2 ⟨rfl, hb'⟩
        have hh : Below w1.heap.size w1 w2 := Below.trans (Below.drew (Below.refl _ _)) hb'
        clear hb'
        try go_simp
        refine hK.out _ _ (⟨(hh.cell (p := ⟨P, 0, none⟩) la).trans x0, (hh.cell (p := ⟨P, 1, none⟩) la).trans x1, (hh.cell (p := ⟨P, 2, none⟩) la).trans x2, (hh.cell (p := ⟨P, 3, none⟩) la).trans x3, (hh.cell (p := ⟨P, 4, none⟩) la).trans x4, (hh.cell (p := ⟨P, 5, none⟩) la).trans x5, (hh.cell (p := ⟨P, 6, none⟩) la).trans x6, (hh.cell (p := ⟨Q, 0, none⟩) lb).trans y0, (hh.cell (p := ⟨Q, 1, none⟩) lb).trans y1, (hh.cell (p := ⟨Q, 2, none⟩) lb).trans y2, (hh.cell (p := ⟨Q, 3, none⟩) lb).trans y3, (hh.cell (p := ⟨Q, 4, none⟩) lb).trans y4, (hh.cell (p := ⟨Q, 5, none⟩) lb).trans y5, (hh.cell (p := ⟨Q, 6, none⟩) lb).trans y6⟩) (fun hHeld => ?_)
        clear hK K
        try simp only [Act.put, List.setIfInBounds_toArray, List.set_cons_zero, List.set_cons_succ]
        refine take1 (i := 10) (v := ?v10) (some 15) rfl rfl (by kernel_rfl) (by kernel_rfl) (by kernel_rfl) (fun _ _ _ h => h) (Or.inl ⟨by rfl, ?y10⟩) (by assumption) ?r10
        case y10 => (intro w hSw; (try dsimp only at hSw); go_simp; (first | done | with_reducible rfl))
        try simp only [Act.put, List.setIfInBounds_toArray, List.set_cons_zero, List.set_cons_succ]
        refine take1 (i := 11) (v := ?v11) (some 16) rfl rfl (by kernel_rfl) (by kernel_rfl) (by kernel_rfl) (fun _ _ _ h => h) (Or.inl ⟨by rfl, ?y11⟩) (by assumption) ?r11
        case y11 => (intro w hSw; (try dsimp only at hSw); go_simp; (first | done | with_reducible rfl))
        try simp only [Act.put, List.setIfInBounds_toArray, List.set_cons_zero, List.set_cons_succ]
        refine take1 (i := 12) (v := ?v12) (some 17) rfl rfl (by kernel_rfl) (by kernel_rfl) (by kernel_rfl) (fun _ _ _ h => h) (Or.inl ⟨by rfl, ?y12⟩) (by assumption) ?r12
        case y12 => (intro w hSw; (try dsimp only at hSw); go_simp; (first | done | with_reducible rfl))
        try simp only [Act.put, List.setIfInBounds_toArray, List.set_cons_zero, List.set_cons_succ]
        refine take1 (i := 13) (v := ?v13) (some 18) rfl rfl (by kernel_rfl) (by kernel_rfl) (by kernel_rfl) (fun _ _ _ h => h) (Or.inl ⟨by rfl, ?y13⟩) (by assumption) ?r13
        case y13 => (intro w hSw; (try dsimp only at hSw); go_simp; (first | done | with_reducible rfl))
        try simp only [Act.put, List.setIfInBounds_toArray, List.set_cons_zero, List.set_cons_succ]
        refine take1 (i := 14) (v := ?v14) (some 19) rfl rfl (by kernel_rfl) (by kernel_rfl) (by kernel_rfl) (fun _ _ _ h => h) (Or.inl ⟨by rfl, ?y14⟩) (by assumption) ?r14
        case y14 => (intro w hSw; (try dsimp only at hSw); go_simp; (first | done | with_reducible rfl))
        try simp only [Act.put, List.setIfInBounds_toArray, List.set_cons_zero, List.set_cons_succ]
        refine take1 (i := 15) (v := ?v15) (some 20) rfl rfl (by kernel_rfl) (by kernel_rfl) (by kernel_rfl) (fun _ _ _ h => h) (Or.inl ⟨by rfl, ?y15⟩) (by assumption) ?r15
        case y15 => (intro w hSw; (try dsimp only at hSw); go_simp; (first | done | with_reducible rfl))
        try simp only [Act.put, List.setIfInBounds_toArray, List.set_cons_zero, List.set_cons_succ]
        refine wpAnyH_ready (rs := [16]) (by kernel_rfl) (by simp) ?_
        refine AllReadyH.cons rfl (fun K hK => ?_) AllReadyH.nil
        go_simp
        go_at_call 39
        refine (HEA.out _).mono ?_
        rintro e w3 ⟨rfl, hb'⟩
        replace hh : Below w1.heap.size w1 w3 := hh.trans (hb'.mono hh.size)
        clear hb'
        try go_simp
        refine hK.out _ _ (⟨(hh.cell (p := ⟨P, 0, none⟩) la).trans x0, (hh.cell (p := ⟨P, 1, none⟩) la).trans x1, (hh.cell (p := ⟨P, 2, none⟩) la).trans x2, (hh.cell (p := ⟨P, 3, none⟩) la).trans x3, (hh.cell (p := ⟨P, 4, none⟩) la).trans x4, (hh.cell (p := ⟨P, 5, none⟩) la).trans x5, (hh.cell (p := ⟨P, 6, none⟩) la).trans x6, (hh.cell (p := ⟨Q, 0, none⟩) lb).trans y0, (hh.cell (p := ⟨Q, 1, none⟩) lb).trans y1, (hh.cell (p := ⟨Q, 2, none⟩) lb).trans y2, (hh.cell (p := ⟨Q, 3, none⟩) lb).trans y3, (hh.cell (p := ⟨Q, 4, none⟩) lb).trans y4, (hh.cell (p := ⟨Q, 5, none⟩) lb).trans y5, (hh.cell (p := ⟨Q, 6, none⟩) lb).trans y6⟩) (fun hHeld => ?_)
        clear hK K
        try simp only [Act.put, List.setIfInBounds_toArray, List.set_cons_zero, List.set_cons_succ]
        refine take1 (i := 17) (v := ?v16) (some 22) rfl rfl (by kernel_rfl) (by kernel_rfl) (by kernel_rfl) (fun _ _ _ h => h) (Or.inl ⟨by rfl, ?y16⟩) (by assumption) ?r16
        case y16 => (intro w hSw; (try dsimp only at hSw); go_simp; (first | done | with_reducible rfl))
        try simp only [Act.put, List.setIfInBounds_toArray, List.set_cons_zero, List.set_cons_succ]
        refine take1 (i := 18) (v := ?v17) (some 23) rfl rfl (by kernel_rfl) (by kernel_rfl) (by kernel_rfl) (fun _ _ _ h => h) (Or.inl ⟨by rfl, ?y17⟩) (by assumption) ?r17
        case y17 => (intro w hSw; (try dsimp only at hSw); go_simp; (first | done | with_reducible rfl))
        try simp only [Act.put, List.setIfInBounds_toArray, List.set_cons_zero, List.set_cons_succ]
        refine take1 (i := 19) (v := ?v18) (some 4) rfl rfl (by kernel_rfl) (by kernel_rfl) (by kernel_rfl) (fun _ _ _ h => h) (Or.inl ⟨by rfl, ?y18⟩) (by assumption) ?r18
        case y18 => (intro w hSw; (try dsimp only at hSw); go_simp; (first | done | with_reducible rfl))
        try simp only [Act.put]
        refine wpAnyH_done (by kernel_rfl) ?_ _
        have HH := Lib.hid (HBA.out.trans (hh.mono HBA.out.size))
        clear hh hHeld
        go_wp2_with fail
        go_ret
        exact ⟨ret_bool HN.out.symm, HH.out⟩
      · have HN : Hid (r = false) := Lib.hid (by rw [HE.out]; simp [h2])
        clear hd
        have h2x : decide (bbgn < ea) = false := decide_eq_false h2
        go_enter Tryd.func67, Tryd.ntmps67
        go_wp2_with fail
        have hba : Below w.heap.size w ((w.alloc (.cells #[.int .i64 aid, .int .i64 acls, .int .i64 atch, .int .i64 aroom, .int .i64 aday, .int .i64 abgn, .int .i64 amins] 31)).alloc (.cells #[.int .i64 bid, .int .i64 bcls, .int .i64 btch, .int .i64 broom, .int .i64 bday, .int .i64 bbgn, .int .i64 bmins] 31)) := ((Below.refl _ _).alloc (Nat.le_refl _) _).alloc (by simp) _
        have hka : ((w.alloc (.cells #[.int .i64 aid, .int .i64 acls, .int .i64 atch, .int .i64 aroom, .int .i64 aday, .int .i64 abgn, .int .i64 amins] 31)).alloc (.cells #[.int .i64 bid, .int .i64 bcls, .int .i64 btch, .int .i64 broom, .int .i64 bday, .int .i64 bbgn, .int .i64 bmins] 31)).heap[w.heap.size]? = some (.cells #[.int .i64 aid, .int .i64 acls, .int .i64 atch, .int .i64 aroom, .int .i64 aday, .int .i64 abgn, .int .i64 amins] 31 (0, 0)) := (alloc_old (by simp)).trans (alloc_at rfl)
        have hkb : ((w.alloc (.cells #[.int .i64 aid, .int .i64 acls, .int .i64 atch, .int .i64 aroom, .int .i64 aday, .int .i64 abgn, .int .i64 amins] 31)).alloc (.cells #[.int .i64 bid, .int .i64 bcls, .int .i64 btch, .int .i64 broom, .int .i64 bday, .int .i64 bbgn, .int .i64 bmins] 31)).heap[w.heap.size + 1]? = some (.cells #[.int .i64 bid, .int .i64 bcls, .int .i64 btch, .int .i64 broom, .int .i64 bday, .int .i64 bbgn, .int .i64 bmins] 31 (0, 0)) := alloc_at (by simp)
        generalize ((w.alloc (.cells #[.int .i64 aid, .int .i64 acls, .int .i64 atch, .int .i64 aroom, .int .i64 aday, .int .i64 abgn, .int .i64 amins] 31)).alloc (.cells #[.int .i64 bid, .int .i64 bcls, .int .i64 btch, .int .i64 broom, .int .i64 bday, .int .i64 bbgn, .int .i64 bmins] 31)) = w1 at hba hka hkb ⊢
        generalize hP : w.heap.size = P at hka ⊢
        generalize hQ : P + 1 = Q at hkb ⊢
        rw [hP, hQ] at hkb
        have la := lt_of_block hka
        have lb := lt_of_block hkb
        obtain ⟨x0, x1, x2, x3, x4, x5, x6, -, -, -, -, -, -, -⟩ := cell7 hka
        obtain ⟨y0, y1, y2, y3, y4, y5, y6, -, -, -, -, -, -, -⟩ := cell7 hkb
        have HBA := Lib.hid hba
        clear hba hka hkb hP hQ
        refine wp_region_held_drew (S := (fun w' => w'.cell? ⟨P, 0, none⟩ = some (.int .i64 aid) ∧ w'.cell? ⟨P, 1, none⟩ = some (.int .i64 acls) ∧ w'.cell? ⟨P, 2, none⟩ = some (.int .i64 atch) ∧ w'.cell? ⟨P, 3, none⟩ = some (.int .i64 aroom) ∧ w'.cell? ⟨P, 4, none⟩ = some (.int .i64 aday) ∧ w'.cell? ⟨P, 5, none⟩ = some (.int .i64 abgn) ∧ w'.cell? ⟨P, 6, none⟩ = some (.int .i64 amins) ∧ w'.cell? ⟨Q, 0, none⟩ = some (.int .i64 bid) ∧ w'.cell? ⟨Q, 1, none⟩ = some (.int .i64 bcls) ∧ w'.cell? ⟨Q, 2, none⟩ = some (.int .i64 btch) ∧ w'.cell? ⟨Q, 3, none⟩ = some (.int .i64 broom) ∧ w'.cell? ⟨Q, 4, none⟩ = some (.int .i64 bday) ∧ w'.cell? ⟨Q, 5, none⟩ = some (.int .i64 bbgn) ∧ w'.cell? ⟨Q, 6, none⟩ = some (.int .i64 bmins))) (by kernel_rfl) (⟨x0, x1, x2, x3, x4, x5, x6, y0, y1, y2, y3, y4, y5, y6⟩) (fun hHeld => ?_)
        refine take1 (i := 0) (v := ?v19) (some 5) rfl rfl (by kernel_rfl) (by kernel_rfl) (by kernel_rfl) (fun _ _ _ h => h) (Or.inl ⟨by rfl, ?y19⟩) (by assumption) ?r19
        case y19 => (intro w hSw; (try dsimp only at hSw); go_simp; (first | done | with_reducible rfl))
        try simp only [Act.put, List.setIfInBounds_toArray, List.set_cons_zero, List.set_cons_succ]
        refine take1 (i := 1) (v := ?v20) (some 6) rfl rfl (by kernel_rfl) (by kernel_rfl) (by kernel_rfl) (fun _ _ _ h => h) (Or.inl ⟨by rfl, ?y20⟩) (by assumption) ?r20
        case y20 => (intro w hSw; (try dsimp only at hSw); go_simp; (first | done | with_reducible rfl))
        try simp only [Act.put, List.setIfInBounds_toArray, List.set_cons_zero, List.set_cons_succ]
        refine take1 (i := 2) (v := ?v21) (some 7) rfl rfl (by kernel_rfl) (by kernel_rfl) (by kernel_rfl) (fun _ _ _ h => h) (Or.inl ⟨by rfl, ?y21⟩) (by assumption) ?r21
        case y21 => (intro w hSw; (try dsimp only at hSw); go_simp; (first | done | with_reducible rfl))
        try simp only [Act.put, List.setIfInBounds_toArray, List.set_cons_zero, List.set_cons_succ]
        refine take1 (i := 3) (v := ?v22) (some 8) rfl rfl (by kernel_rfl) (by kernel_rfl) (by kernel_rfl) (fun _ _ _ h => h) (Or.inl ⟨by rfl, ?y22⟩) (by assumption) ?r22
        case y22 => (intro w hSw; (try dsimp only at hSw); go_simp; (first | done | with_reducible rfl))
        try simp only [Act.put, List.setIfInBounds_toArray, List.set_cons_zero, List.set_cons_succ]
        refine take1 (i := 4) (v := ?v23) (some 9) rfl rfl (by kernel_rfl) (by kernel_rfl) (by kernel_rfl) (fun _ _ _ h => h) (Or.inl ⟨by rfl, ?y23⟩) (by assumption) ?r23
        case y23 => (intro w hSw; (try dsimp only at hSw); go_simp; (first | done | with_reducible rfl))
        try simp only [Act.put, List.setIfInBounds_toArray, List.set_cons_zero, List.set_cons_succ]
        refine take1 (i := 5) (v := ?v24) (some 10) rfl rfl (by kernel_rfl) (by kernel_rfl) (by kernel_rfl) (fun _ _ _ h => h) (Or.inl ⟨by rfl, ?y24⟩) (by assumption) ?r24
        case y24 => (intro w hSw; (try dsimp only at hSw); go_simp; (first | done | with_reducible rfl))
        try simp only [Act.put, List.setIfInBounds_toArray, List.set_cons_zero, List.set_cons_succ]
        refine take1 (i := 6) (v := ?v25) (some 11) rfl rfl (by kernel_rfl) (by kernel_rfl) (by kernel_rfl) (fun _ _ _ h => h) (Or.inl ⟨by rfl, ?y25⟩) (by assumption) ?r25
        case y25 => (intro w hSw; (try dsimp only at hSw); go_simp; (first | done | with_reducible rfl))
        try simp only [Act.put, List.setIfInBounds_toArray, List.set_cons_zero, List.set_cons_succ]
        refine take1 (i := 7) (v := ?v26) (some 12) rfl rfl (by kernel_rfl) (by kernel_rfl) (by kernel_rfl) (fun _ _ _ h => h) (Or.inl ⟨by rfl, ?y26⟩) (by assumption) ?r26
        case y26 => (intro w hSw; (try dsimp only at hSw); go_simp; (first | done | with_reducible rfl))
        try simp only [Act.put, List.setIfInBounds_toArray, List.set_cons_zero, List.set_cons_succ]
        refine take1 (i := 8) (v := ?v27) (some 13) rfl rfl (by kernel_rfl) (by kernel_rfl) (by kernel_rfl) (fun _ _ _ h => h) (Or.inl ⟨by rfl, ?y27⟩) (by assumption) ?r27
        case y27 => (intro w hSw; (try dsimp only at hSw); go_simp; (first | done | with_reducible rfl))
        try simp only [Act.put, List.setIfInBounds_toArray, List.set_cons_zero, List.set_cons_succ]
        refine wpAnyH_ready (rs := [9]) (by kernel_rfl) (by simp) ?_
        refine AllReadyH.cons rfl (fun K hK => ?_) AllReadyH.nil
        go_simp
        go_at_call 39
        refine (HEB.out _).mono ?_
        rintro e w2 ⟨rfl, hb'⟩
        have hh : Below w1.heap.size w1 w2 := Below.trans (Below.drew (Below.refl _ _)) hb'
        clear hb'
        try go_simp
        refine hK.out _ _ (⟨(hh.cell (p := ⟨P, 0, none⟩) la).trans x0, (hh.cell (p := ⟨P, 1, none⟩) la).trans x1, (hh.cell (p := ⟨P, 2, none⟩) la).trans x2, (hh.cell (p := ⟨P, 3, none⟩) la).trans x3, (hh.cell (p := ⟨P, 4, none⟩) la).trans x4, (hh.cell (p := ⟨P, 5, none⟩) la).trans x5, (hh.cell (p := ⟨P, 6, none⟩) la).trans x6, (hh.cell (p := ⟨Q, 0, none⟩) lb).trans y0, (hh.cell (p := ⟨Q, 1, none⟩) lb).trans y1, (hh.cell (p := ⟨Q, 2, none⟩) lb).trans y2, (hh.cell (p := ⟨Q, 3, none⟩) lb).trans y3, (hh.cell (p := ⟨Q, 4, none⟩) lb).trans y4, (hh.cell (p := ⟨Q, 5, none⟩) lb).trans y5, (hh.cell (p := ⟨Q, 6, none⟩) lb).trans y6⟩) (fun hHeld => ?_)
        clear hK K
        try simp only [Act.put, List.setIfInBounds_toArray, List.set_cons_zero, List.set_cons_succ]
        refine take1 (i := 10) (v := ?v28) (some 15) rfl rfl (by kernel_rfl) (by kernel_rfl) (by kernel_rfl) (fun _ _ _ h => h) (Or.inl ⟨by rfl, ?y28⟩) (by assumption) ?r28
        case y28 => (intro w hSw; (try dsimp only at hSw); go_simp; (first | done | with_reducible rfl))
        try simp only [Act.put, List.setIfInBounds_toArray, List.set_cons_zero, List.set_cons_succ]
        refine take1 (i := 11) (v := ?v29) (some 16) rfl rfl (by kernel_rfl) (by kernel_rfl) (by kernel_rfl) (fun _ _ _ h => h) (Or.inl ⟨by rfl, ?y29⟩) (by assumption) ?r29
        case y29 => (intro w hSw; (try dsimp only at hSw); go_simp; (first | done | with_reducible rfl))
        try simp only [Act.put, List.setIfInBounds_toArray, List.set_cons_zero, List.set_cons_succ]
        refine take1 (i := 12) (v := ?v30) (some 17) rfl rfl (by kernel_rfl) (by kernel_rfl) (by kernel_rfl) (fun _ _ _ h => h) (Or.inl ⟨by rfl, ?y30⟩) (by assumption) ?r30
        case y30 => (intro w hSw; (try dsimp only at hSw); go_simp; (first | done | with_reducible rfl))
        try simp only [Act.put, List.setIfInBounds_toArray, List.set_cons_zero, List.set_cons_succ]
        refine take1 (i := 13) (v := ?v31) (some 18) rfl rfl (by kernel_rfl) (by kernel_rfl) (by kernel_rfl) (fun _ _ _ h => h) (Or.inl ⟨by rfl, ?y31⟩) (by assumption) ?r31
        case y31 => (intro w hSw; (try dsimp only at hSw); go_simp; (first | done | with_reducible rfl))
        try simp only [Act.put, List.setIfInBounds_toArray, List.set_cons_zero, List.set_cons_succ]
        refine take1 (i := 14) (v := ?v32) (some 19) rfl rfl (by kernel_rfl) (by kernel_rfl) (by kernel_rfl) (fun _ _ _ h => h) (Or.inl ⟨by rfl, ?y32⟩) (by assumption) ?r32
        case y32 => (intro w hSw; (try dsimp only at hSw); go_simp; (first | done | with_reducible rfl))
        try simp only [Act.put, List.setIfInBounds_toArray, List.set_cons_zero, List.set_cons_succ]
        refine take1 (i := 15) (v := ?v33) (some 20) rfl rfl (by kernel_rfl) (by kernel_rfl) (by kernel_rfl) (fun _ _ _ h => h) (Or.inl ⟨by rfl, ?y33⟩) (by assumption) ?r33
        case y33 => (intro w hSw; (try dsimp only at hSw); go_simp; (first | done | with_reducible rfl))
        try simp only [Act.put, List.setIfInBounds_toArray, List.set_cons_zero, List.set_cons_succ]
        refine wpAnyH_ready (rs := [16]) (by kernel_rfl) (by simp) ?_
        refine AllReadyH.cons rfl (fun K hK => ?_) AllReadyH.nil
        go_simp
        go_at_call 39
        refine (HEA.out _).mono ?_
        rintro e w3 ⟨rfl, hb'⟩
        replace hh : Below w1.heap.size w1 w3 := hh.trans (hb'.mono hh.size)
        clear hb'
        try go_simp
        refine hK.out _ _ (⟨(hh.cell (p := ⟨P, 0, none⟩) la).trans x0, (hh.cell (p := ⟨P, 1, none⟩) la).trans x1, (hh.cell (p := ⟨P, 2, none⟩) la).trans x2, (hh.cell (p := ⟨P, 3, none⟩) la).trans x3, (hh.cell (p := ⟨P, 4, none⟩) la).trans x4, (hh.cell (p := ⟨P, 5, none⟩) la).trans x5, (hh.cell (p := ⟨P, 6, none⟩) la).trans x6, (hh.cell (p := ⟨Q, 0, none⟩) lb).trans y0, (hh.cell (p := ⟨Q, 1, none⟩) lb).trans y1, (hh.cell (p := ⟨Q, 2, none⟩) lb).trans y2, (hh.cell (p := ⟨Q, 3, none⟩) lb).trans y3, (hh.cell (p := ⟨Q, 4, none⟩) lb).trans y4, (hh.cell (p := ⟨Q, 5, none⟩) lb).trans y5, (hh.cell (p := ⟨Q, 6, none⟩) lb).trans y6⟩) (fun hHeld => ?_)
        clear hK K
        try simp only [Act.put, List.setIfInBounds_toArray, List.set_cons_zero, List.set_cons_succ]
        refine take1 (i := 17) (v := ?v34) (some 22) rfl rfl (by kernel_rfl) (by kernel_rfl) (by kernel_rfl) (fun _ _ _ h => h) (Or.inl ⟨by rfl, ?y34⟩) (by assumption) ?r34
        case y34 => (intro w hSw; (try dsimp only at hSw); go_simp; (first | done | with_reducible rfl))
        try simp only [Act.put, List.setIfInBounds_toArray, List.set_cons_zero, List.set_cons_succ]
        refine take1 (i := 18) (v := ?v35) (some 23) rfl rfl (by kernel_rfl) (by kernel_rfl) (by kernel_rfl) (fun _ _ _ h => h) (Or.inl ⟨by rfl, ?y35⟩) (by assumption) ?r35
        case y35 => (intro w hSw; (try dsimp only at hSw); go_simp; (first | done | with_reducible rfl))
        try simp only [Act.put, List.setIfInBounds_toArray, List.set_cons_zero, List.set_cons_succ]
        refine take1 (i := 19) (v := ?v36) (some 4) rfl rfl (by kernel_rfl) (by kernel_rfl) (by kernel_rfl) (fun _ _ _ h => h) (Or.inl ⟨by rfl, ?y36⟩) (by assumption) ?r36
        case y36 => (intro w hSw; (try dsimp only at hSw); go_simp; (first | done | with_reducible rfl))
        try simp only [Act.put]
        refine wpAnyH_done (by kernel_rfl) ?_ _
        have HH := Lib.hid (HBA.out.trans (hh.mono HBA.out.size))
        clear hh hHeld
        go_wp2_with fail
        go_ret
        exact ⟨ret_bool HN.out.symm, HH.out⟩
    · have HN : Hid (r = false) := Lib.hid (by rw [HE.out]; simp [h1])
      clear hd
      have h1x : decide (abgn < eb) = false := decide_eq_false h1
      go_enter Tryd.func67, Tryd.ntmps67
      go_wp2_with fail
      have hba : Below w.heap.size w ((w.alloc (.cells #[.int .i64 aid, .int .i64 acls, .int .i64 atch, .int .i64 aroom, .int .i64 aday, .int .i64 abgn, .int .i64 amins] 31)).alloc (.cells #[.int .i64 bid, .int .i64 bcls, .int .i64 btch, .int .i64 broom, .int .i64 bday, .int .i64 bbgn, .int .i64 bmins] 31)) := ((Below.refl _ _).alloc (Nat.le_refl _) _).alloc (by simp) _
      have hka : ((w.alloc (.cells #[.int .i64 aid, .int .i64 acls, .int .i64 atch, .int .i64 aroom, .int .i64 aday, .int .i64 abgn, .int .i64 amins] 31)).alloc (.cells #[.int .i64 bid, .int .i64 bcls, .int .i64 btch, .int .i64 broom, .int .i64 bday, .int .i64 bbgn, .int .i64 bmins] 31)).heap[w.heap.size]? = some (.cells #[.int .i64 aid, .int .i64 acls, .int .i64 atch, .int .i64 aroom, .int .i64 aday, .int .i64 abgn, .int .i64 amins] 31 (0, 0)) := (alloc_old (by simp)).trans (alloc_at rfl)
      have hkb : ((w.alloc (.cells #[.int .i64 aid, .int .i64 acls, .int .i64 atch, .int .i64 aroom, .int .i64 aday, .int .i64 abgn, .int .i64 amins] 31)).alloc (.cells #[.int .i64 bid, .int .i64 bcls, .int .i64 btch, .int .i64 broom, .int .i64 bday, .int .i64 bbgn, .int .i64 bmins] 31)).heap[w.heap.size + 1]? = some (.cells #[.int .i64 bid, .int .i64 bcls, .int .i64 btch, .int .i64 broom, .int .i64 bday, .int .i64 bbgn, .int .i64 bmins] 31 (0, 0)) := alloc_at (by simp)
      generalize ((w.alloc (.cells #[.int .i64 aid, .int .i64 acls, .int .i64 atch, .int .i64 aroom, .int .i64 aday, .int .i64 abgn, .int .i64 amins] 31)).alloc (.cells #[.int .i64 bid, .int .i64 bcls, .int .i64 btch, .int .i64 broom, .int .i64 bday, .int .i64 bbgn, .int .i64 bmins] 31)) = w1 at hba hka hkb ⊢
      generalize hP : w.heap.size = P at hka ⊢
      generalize hQ : P + 1 = Q at hkb ⊢
      rw [hP, hQ] at hkb
      have la := lt_of_block hka
      have lb := lt_of_block hkb
      obtain ⟨x0, x1, x2, x3, x4, x5, x6, -, -, -, -, -, -, -⟩ := cell7 hka
      obtain ⟨y0, y1, y2, y3, y4, y5, y6, -, -, -, -, -, -, -⟩ := cell7 hkb
      have HBA := Lib.hid hba
      clear hba hka hkb hP hQ
      refine wp_region_held_drew (S := (fun w' => w'.cell? ⟨P, 0, none⟩ = some (.int .i64 aid) ∧ w'.cell? ⟨P, 1, none⟩ = some (.int .i64 acls) ∧ w'.cell? ⟨P, 2, none⟩ = some (.int .i64 atch) ∧ w'.cell? ⟨P, 3, none⟩ = some (.int .i64 aroom) ∧ w'.cell? ⟨P, 4, none⟩ = some (.int .i64 aday) ∧ w'.cell? ⟨P, 5, none⟩ = some (.int .i64 abgn) ∧ w'.cell? ⟨P, 6, none⟩ = some (.int .i64 amins) ∧ w'.cell? ⟨Q, 0, none⟩ = some (.int .i64 bid) ∧ w'.cell? ⟨Q, 1, none⟩ = some (.int .i64 bcls) ∧ w'.cell? ⟨Q, 2, none⟩ = some (.int .i64 btch) ∧ w'.cell? ⟨Q, 3, none⟩ = some (.int .i64 broom) ∧ w'.cell? ⟨Q, 4, none⟩ = some (.int .i64 bday) ∧ w'.cell? ⟨Q, 5, none⟩ = some (.int .i64 bbgn) ∧ w'.cell? ⟨Q, 6, none⟩ = some (.int .i64 bmins))) (by kernel_rfl) (⟨x0, x1, x2, x3, x4, x5, x6, y0, y1, y2, y3, y4, y5, y6⟩) (fun hHeld => ?_)
      refine take1 (i := 0) (v := ?v37) (some 5) rfl rfl (by kernel_rfl) (by kernel_rfl) (by kernel_rfl) (fun _ _ _ h => h) (Or.inl ⟨by rfl, ?y37⟩) (by assumption) ?r37
      case y37 => (intro w hSw; (try dsimp only at hSw); go_simp; (first | done | with_reducible rfl))
      try simp only [Act.put, List.setIfInBounds_toArray, List.set_cons_zero, List.set_cons_succ]
      refine take1 (i := 1) (v := ?v38) (some 6) rfl rfl (by kernel_rfl) (by kernel_rfl) (by kernel_rfl) (fun _ _ _ h => h) (Or.inl ⟨by rfl, ?y38⟩) (by assumption) ?r38
      case y38 => (intro w hSw; (try dsimp only at hSw); go_simp; (first | done | with_reducible rfl))
      try simp only [Act.put, List.setIfInBounds_toArray, List.set_cons_zero, List.set_cons_succ]
      refine take1 (i := 2) (v := ?v39) (some 7) rfl rfl (by kernel_rfl) (by kernel_rfl) (by kernel_rfl) (fun _ _ _ h => h) (Or.inl ⟨by rfl, ?y39⟩) (by assumption) ?r39
      case y39 => (intro w hSw; (try dsimp only at hSw); go_simp; (first | done | with_reducible rfl))
      try simp only [Act.put, List.setIfInBounds_toArray, List.set_cons_zero, List.set_cons_succ]
      refine take1 (i := 3) (v := ?v40) (some 8) rfl rfl (by kernel_rfl) (by kernel_rfl) (by kernel_rfl) (fun _ _ _ h => h) (Or.inl ⟨by rfl, ?y40⟩) (by assumption) ?r40
      case y40 => (intro w hSw; (try dsimp only at hSw); go_simp; (first | done | with_reducible rfl))
      try simp only [Act.put, List.setIfInBounds_toArray, List.set_cons_zero, List.set_cons_succ]
      refine take1 (i := 4) (v := ?v41) (some 9) rfl rfl (by kernel_rfl) (by kernel_rfl) (by kernel_rfl) (fun _ _ _ h => h) (Or.inl ⟨by rfl, ?y41⟩) (by assumption) ?r41
      case y41 => (intro w hSw; (try dsimp only at hSw); go_simp; (first | done | with_reducible rfl))
      try simp only [Act.put, List.setIfInBounds_toArray, List.set_cons_zero, List.set_cons_succ]
      refine take1 (i := 5) (v := ?v42) (some 10) rfl rfl (by kernel_rfl) (by kernel_rfl) (by kernel_rfl) (fun _ _ _ h => h) (Or.inl ⟨by rfl, ?y42⟩) (by assumption) ?r42
      case y42 => (intro w hSw; (try dsimp only at hSw); go_simp; (first | done | with_reducible rfl))
      try simp only [Act.put, List.setIfInBounds_toArray, List.set_cons_zero, List.set_cons_succ]
      refine take1 (i := 6) (v := ?v43) (some 11) rfl rfl (by kernel_rfl) (by kernel_rfl) (by kernel_rfl) (fun _ _ _ h => h) (Or.inl ⟨by rfl, ?y43⟩) (by assumption) ?r43
      case y43 => (intro w hSw; (try dsimp only at hSw); go_simp; (first | done | with_reducible rfl))
      try simp only [Act.put, List.setIfInBounds_toArray, List.set_cons_zero, List.set_cons_succ]
      refine take1 (i := 7) (v := ?v44) (some 12) rfl rfl (by kernel_rfl) (by kernel_rfl) (by kernel_rfl) (fun _ _ _ h => h) (Or.inl ⟨by rfl, ?y44⟩) (by assumption) ?r44
      case y44 => (intro w hSw; (try dsimp only at hSw); go_simp; (first | done | with_reducible rfl))
      try simp only [Act.put, List.setIfInBounds_toArray, List.set_cons_zero, List.set_cons_succ]
      refine take1 (i := 8) (v := ?v45) (some 13) rfl rfl (by kernel_rfl) (by kernel_rfl) (by kernel_rfl) (fun _ _ _ h => h) (Or.inl ⟨by rfl, ?y45⟩) (by assumption) ?r45
      case y45 => (intro w hSw; (try dsimp only at hSw); go_simp; (first | done | with_reducible rfl))
      try simp only [Act.put, List.setIfInBounds_toArray, List.set_cons_zero, List.set_cons_succ]
      refine wpAnyH_ready (rs := [9]) (by kernel_rfl) (by simp) ?_
      refine AllReadyH.cons rfl (fun K hK => ?_) AllReadyH.nil
      go_simp
      go_at_call 39
      refine (HEB.out _).mono ?_
      rintro e w2 ⟨rfl, hb'⟩
      have hh : Below w1.heap.size w1 w2 := Below.trans (Below.drew (Below.refl _ _)) hb'
      clear hb'
      try go_simp
      refine hK.out _ _ (⟨(hh.cell (p := ⟨P, 0, none⟩) la).trans x0, (hh.cell (p := ⟨P, 1, none⟩) la).trans x1, (hh.cell (p := ⟨P, 2, none⟩) la).trans x2, (hh.cell (p := ⟨P, 3, none⟩) la).trans x3, (hh.cell (p := ⟨P, 4, none⟩) la).trans x4, (hh.cell (p := ⟨P, 5, none⟩) la).trans x5, (hh.cell (p := ⟨P, 6, none⟩) la).trans x6, (hh.cell (p := ⟨Q, 0, none⟩) lb).trans y0, (hh.cell (p := ⟨Q, 1, none⟩) lb).trans y1, (hh.cell (p := ⟨Q, 2, none⟩) lb).trans y2, (hh.cell (p := ⟨Q, 3, none⟩) lb).trans y3, (hh.cell (p := ⟨Q, 4, none⟩) lb).trans y4, (hh.cell (p := ⟨Q, 5, none⟩) lb).trans y5, (hh.cell (p := ⟨Q, 6, none⟩) lb).trans y6⟩) (fun hHeld => ?_)
      clear hK K
      try simp only [Act.put, List.setIfInBounds_toArray, List.set_cons_zero, List.set_cons_succ]
      refine take1 (i := 10) (v := ?v46) (some 15) rfl rfl (by kernel_rfl) (by kernel_rfl) (by kernel_rfl) (fun _ _ _ h => h) (Or.inl ⟨by rfl, ?y46⟩) (by assumption) ?r46
      case y46 => (intro w hSw; (try dsimp only at hSw); go_simp; (first | done | with_reducible rfl))
      try simp only [Act.put, List.setIfInBounds_toArray, List.set_cons_zero, List.set_cons_succ]
      refine take1 (i := 11) (v := ?v47) (some 16) rfl rfl (by kernel_rfl) (by kernel_rfl) (by kernel_rfl) (fun _ _ _ h => h) (Or.inl ⟨by rfl, ?y47⟩) (by assumption) ?r47
      case y47 => (intro w hSw; (try dsimp only at hSw); go_simp; (first | done | with_reducible rfl))
      try simp only [Act.put, List.setIfInBounds_toArray, List.set_cons_zero, List.set_cons_succ]
      refine take1 (i := 12) (v := ?v48) (some 17) rfl rfl (by kernel_rfl) (by kernel_rfl) (by kernel_rfl) (fun _ _ _ h => h) (Or.inl ⟨by rfl, ?y48⟩) (by assumption) ?r48
      case y48 => (intro w hSw; (try dsimp only at hSw); go_simp; (first | done | with_reducible rfl))
      try simp only [Act.put, List.setIfInBounds_toArray, List.set_cons_zero, List.set_cons_succ]
      refine take1 (i := 13) (v := undef) (some 18) rfl rfl (by kernel_rfl) (by kernel_rfl) (by kernel_rfl) (fun _ _ _ h => h) (Or.inr ⟨by rfl, rfl⟩) (by assumption) ?_
      try simp only [Act.put, List.setIfInBounds_toArray, List.set_cons_zero, List.set_cons_succ]
      refine take1 (i := 14) (v := undef) (some 19) rfl rfl (by kernel_rfl) (by kernel_rfl) (by kernel_rfl) (fun _ _ _ h => h) (Or.inr ⟨by rfl, rfl⟩) (by assumption) ?_
      try simp only [Act.put, List.setIfInBounds_toArray, List.set_cons_zero, List.set_cons_succ]
      refine take1 (i := 15) (v := undef) (some 20) rfl rfl (by kernel_rfl) (by kernel_rfl) (by kernel_rfl) (fun _ _ _ h => h) (Or.inr ⟨by rfl, rfl⟩) (by assumption) ?_
      try simp only [Act.put, List.setIfInBounds_toArray, List.set_cons_zero, List.set_cons_succ]
      refine take1 (i := 16) (v := undef) (some 21) rfl rfl (by kernel_rfl) (by kernel_rfl) (by kernel_rfl) (fun _ _ _ h => h) (Or.inr ⟨by rfl, rfl⟩) (by assumption) ?_
      try simp only [Act.put, List.setIfInBounds_toArray, List.set_cons_zero, List.set_cons_succ]
      refine take1 (i := 17) (v := undef) (some 22) rfl rfl (by kernel_rfl) (by kernel_rfl) (by kernel_rfl) (fun _ _ _ h => h) (Or.inr ⟨by rfl, rfl⟩) (by assumption) ?_
      try simp only [Act.put, List.setIfInBounds_toArray, List.set_cons_zero, List.set_cons_succ]
      refine take1 (i := 18) (v := ?v54) (some 23) rfl rfl (by kernel_rfl) (by kernel_rfl) (by kernel_rfl) (fun _ _ _ h => h) (Or.inl ⟨by rfl, ?y54⟩) (by assumption) ?r54
      case y54 => (intro w hSw; (try dsimp only at hSw); go_simp; (first | done | with_reducible rfl))
      try simp only [Act.put, List.setIfInBounds_toArray, List.set_cons_zero, List.set_cons_succ]
      refine take1 (i := 19) (v := ?v55) (some 4) rfl rfl (by kernel_rfl) (by kernel_rfl) (by kernel_rfl) (fun _ _ _ h => h) (Or.inl ⟨by rfl, ?y55⟩) (by assumption) ?r55
      case y55 => (intro w hSw; (try dsimp only at hSw); go_simp; (first | done | with_reducible rfl))
      try simp only [Act.put]
      refine wpAnyH_done (by kernel_rfl) ?_ _
      have HH := Lib.hid (HBA.out.trans (hh.mono HBA.out.size))
      clear hh hHeld
      go_wp2_with fail
      go_ret
      exact ⟨ret_bool HN.out.symm, HH.out⟩
  · have hd' : (aday == bday) = false := by simpa using hd
    have HN : Hid (r = false) := Lib.hid (by rw [HE.out]; simp [hd])
    clear hd
    go_enter Tryd.func67, Tryd.ntmps67
    go_wp2_with fail
    have hba : Below w.heap.size w ((w.alloc (.cells #[.int .i64 aid, .int .i64 acls, .int .i64 atch, .int .i64 aroom, .int .i64 aday, .int .i64 abgn, .int .i64 amins] 31)).alloc (.cells #[.int .i64 bid, .int .i64 bcls, .int .i64 btch, .int .i64 broom, .int .i64 bday, .int .i64 bbgn, .int .i64 bmins] 31)) := ((Below.refl _ _).alloc (Nat.le_refl _) _).alloc (by simp) _
    have hka : ((w.alloc (.cells #[.int .i64 aid, .int .i64 acls, .int .i64 atch, .int .i64 aroom, .int .i64 aday, .int .i64 abgn, .int .i64 amins] 31)).alloc (.cells #[.int .i64 bid, .int .i64 bcls, .int .i64 btch, .int .i64 broom, .int .i64 bday, .int .i64 bbgn, .int .i64 bmins] 31)).heap[w.heap.size]? = some (.cells #[.int .i64 aid, .int .i64 acls, .int .i64 atch, .int .i64 aroom, .int .i64 aday, .int .i64 abgn, .int .i64 amins] 31 (0, 0)) := (alloc_old (by simp)).trans (alloc_at rfl)
    have hkb : ((w.alloc (.cells #[.int .i64 aid, .int .i64 acls, .int .i64 atch, .int .i64 aroom, .int .i64 aday, .int .i64 abgn, .int .i64 amins] 31)).alloc (.cells #[.int .i64 bid, .int .i64 bcls, .int .i64 btch, .int .i64 broom, .int .i64 bday, .int .i64 bbgn, .int .i64 bmins] 31)).heap[w.heap.size + 1]? = some (.cells #[.int .i64 bid, .int .i64 bcls, .int .i64 btch, .int .i64 broom, .int .i64 bday, .int .i64 bbgn, .int .i64 bmins] 31 (0, 0)) := alloc_at (by simp)
    generalize ((w.alloc (.cells #[.int .i64 aid, .int .i64 acls, .int .i64 atch, .int .i64 aroom, .int .i64 aday, .int .i64 abgn, .int .i64 amins] 31)).alloc (.cells #[.int .i64 bid, .int .i64 bcls, .int .i64 btch, .int .i64 broom, .int .i64 bday, .int .i64 bbgn, .int .i64 bmins] 31)) = w1 at hba hka hkb ⊢
    generalize hP : w.heap.size = P at hka ⊢
    generalize hQ : P + 1 = Q at hkb ⊢
    rw [hP, hQ] at hkb
    have la := lt_of_block hka
    have lb := lt_of_block hkb
    obtain ⟨x0, x1, x2, x3, x4, x5, x6, -, -, -, -, -, -, -⟩ := cell7 hka
    obtain ⟨y0, y1, y2, y3, y4, y5, y6, -, -, -, -, -, -, -⟩ := cell7 hkb
    have HBA := Lib.hid hba
    clear hba hka hkb hP hQ
    refine wp_region_held_drew (S := (fun w' => w'.cell? ⟨P, 0, none⟩ = some (.int .i64 aid) ∧ w'.cell? ⟨P, 1, none⟩ = some (.int .i64 acls) ∧ w'.cell? ⟨P, 2, none⟩ = some (.int .i64 atch) ∧ w'.cell? ⟨P, 3, none⟩ = some (.int .i64 aroom) ∧ w'.cell? ⟨P, 4, none⟩ = some (.int .i64 aday) ∧ w'.cell? ⟨P, 5, none⟩ = some (.int .i64 abgn) ∧ w'.cell? ⟨P, 6, none⟩ = some (.int .i64 amins) ∧ w'.cell? ⟨Q, 0, none⟩ = some (.int .i64 bid) ∧ w'.cell? ⟨Q, 1, none⟩ = some (.int .i64 bcls) ∧ w'.cell? ⟨Q, 2, none⟩ = some (.int .i64 btch) ∧ w'.cell? ⟨Q, 3, none⟩ = some (.int .i64 broom) ∧ w'.cell? ⟨Q, 4, none⟩ = some (.int .i64 bday) ∧ w'.cell? ⟨Q, 5, none⟩ = some (.int .i64 bbgn) ∧ w'.cell? ⟨Q, 6, none⟩ = some (.int .i64 bmins))) (by kernel_rfl) (⟨x0, x1, x2, x3, x4, x5, x6, y0, y1, y2, y3, y4, y5, y6⟩) (fun hHeld => ?_)
    generalize hwq : w1.drew = wq at hHeld ⊢
    have hh : Below w1.heap.size w1 wq := by rw [← hwq]; exact (Below.refl _ _).drew
    clear hwq
    refine take1 (i := 0) (v := ?v56) (some 5) rfl rfl (by kernel_rfl) (by kernel_rfl) (by kernel_rfl) (fun _ _ _ h => h) (Or.inl ⟨by rfl, ?y56⟩) (by assumption) ?r56
    case y56 => (intro w hSw; (try dsimp only at hSw); go_simp; (first | done | with_reducible rfl))
    try simp only [Act.put, List.setIfInBounds_toArray, List.set_cons_zero, List.set_cons_succ]
    refine take1 (i := 1) (v := ?v57) (some 6) rfl rfl (by kernel_rfl) (by kernel_rfl) (by kernel_rfl) (fun _ _ _ h => h) (Or.inl ⟨by rfl, ?y57⟩) (by assumption) ?r57
    case y57 => (intro w hSw; (try dsimp only at hSw); go_simp; (first | done | with_reducible rfl))
    try simp only [Act.put, List.setIfInBounds_toArray, List.set_cons_zero, List.set_cons_succ]
    refine take1 (i := 2) (v := ?v58) (some 7) rfl rfl (by kernel_rfl) (by kernel_rfl) (by kernel_rfl) (fun _ _ _ h => h) (Or.inl ⟨by rfl, ?y58⟩) (by assumption) ?r58
    case y58 => (intro w hSw; (try dsimp only at hSw); go_simp; (first | done | with_reducible rfl))
    try simp only [Act.put, List.setIfInBounds_toArray, List.set_cons_zero, List.set_cons_succ]
    refine take1 (i := 3) (v := ?v59) (some 8) rfl rfl (by kernel_rfl) (by kernel_rfl) (by kernel_rfl) (fun _ _ _ h => h) (Or.inl ⟨by rfl, ?y59⟩) (by assumption) ?r59
    case y59 => (intro w hSw; (try dsimp only at hSw); go_simp; (first | done | with_reducible rfl))
    try simp only [Act.put, List.setIfInBounds_toArray, List.set_cons_zero, List.set_cons_succ]
    refine take1 (i := 4) (v := ?v60) (some 9) rfl rfl (by kernel_rfl) (by kernel_rfl) (by kernel_rfl) (fun _ _ _ h => h) (Or.inl ⟨by rfl, ?y60⟩) (by assumption) ?r60
    case y60 => (intro w hSw; (try dsimp only at hSw); go_simp; (first | done | with_reducible rfl))
    try simp only [Act.put, List.setIfInBounds_toArray, List.set_cons_zero, List.set_cons_succ]
    refine take1 (i := 5) (v := ?v61) (some 10) rfl rfl (by kernel_rfl) (by kernel_rfl) (by kernel_rfl) (fun _ _ _ h => h) (Or.inl ⟨by rfl, ?y61⟩) (by assumption) ?r61
    case y61 => (intro w hSw; (try dsimp only at hSw); go_simp; (first | done | with_reducible rfl))
    try simp only [Act.put, List.setIfInBounds_toArray, List.set_cons_zero, List.set_cons_succ]
    refine take1 (i := 6) (v := undef) (some 11) rfl rfl (by kernel_rfl) (by kernel_rfl) (by kernel_rfl) (fun _ _ _ h => h) (Or.inr ⟨by rfl, rfl⟩) (by assumption) ?_
    try simp only [Act.put, List.setIfInBounds_toArray, List.set_cons_zero, List.set_cons_succ]
    refine take1 (i := 7) (v := undef) (some 12) rfl rfl (by kernel_rfl) (by kernel_rfl) (by kernel_rfl) (fun _ _ _ h => h) (Or.inr ⟨by rfl, rfl⟩) (by assumption) ?_
    try simp only [Act.put, List.setIfInBounds_toArray, List.set_cons_zero, List.set_cons_succ]
    refine take1 (i := 8) (v := undef) (some 13) rfl rfl (by kernel_rfl) (by kernel_rfl) (by kernel_rfl) (fun _ _ _ h => h) (Or.inr ⟨by rfl, rfl⟩) (by assumption) ?_
    try simp only [Act.put, List.setIfInBounds_toArray, List.set_cons_zero, List.set_cons_succ]
    refine take1 (i := 9) (v := undef) (some 14) rfl rfl (by kernel_rfl) (by kernel_rfl) (by kernel_rfl) (fun _ _ _ h => h) (Or.inr ⟨by rfl, rfl⟩) (by assumption) ?_
    try simp only [Act.put, List.setIfInBounds_toArray, List.set_cons_zero, List.set_cons_succ]
    refine take1 (i := 10) (v := undef) (some 15) rfl rfl (by kernel_rfl) (by kernel_rfl) (by kernel_rfl) (fun _ _ _ h => h) (Or.inr ⟨by rfl, rfl⟩) (by assumption) ?_
    try simp only [Act.put, List.setIfInBounds_toArray, List.set_cons_zero, List.set_cons_succ]
    refine take1 (i := 11) (v := ?v67) (some 16) rfl rfl (by kernel_rfl) (by kernel_rfl) (by kernel_rfl) (fun _ _ _ h => h) (Or.inl ⟨by rfl, ?y67⟩) (by assumption) ?r67
    case y67 => (intro w hSw; (try dsimp only at hSw); go_simp; (first | done | with_reducible rfl))
    try simp only [Act.put, List.setIfInBounds_toArray, List.set_cons_zero, List.set_cons_succ]
    refine take1 (i := 12) (v := ?v68) (some 17) rfl rfl (by kernel_rfl) (by kernel_rfl) (by kernel_rfl) (fun _ _ _ h => h) (Or.inl ⟨by rfl, ?y68⟩) (by assumption) ?r68
    case y68 => (intro w hSw; (try dsimp only at hSw); go_simp; (first | done | with_reducible rfl))
    try simp only [Act.put, List.setIfInBounds_toArray, List.set_cons_zero, List.set_cons_succ]
    refine take1 (i := 13) (v := undef) (some 18) rfl rfl (by kernel_rfl) (by kernel_rfl) (by kernel_rfl) (fun _ _ _ h => h) (Or.inr ⟨by rfl, rfl⟩) (by assumption) ?_
    try simp only [Act.put, List.setIfInBounds_toArray, List.set_cons_zero, List.set_cons_succ]
    refine take1 (i := 14) (v := undef) (some 19) rfl rfl (by kernel_rfl) (by kernel_rfl) (by kernel_rfl) (fun _ _ _ h => h) (Or.inr ⟨by rfl, rfl⟩) (by assumption) ?_
    try simp only [Act.put, List.setIfInBounds_toArray, List.set_cons_zero, List.set_cons_succ]
    refine take1 (i := 15) (v := undef) (some 20) rfl rfl (by kernel_rfl) (by kernel_rfl) (by kernel_rfl) (fun _ _ _ h => h) (Or.inr ⟨by rfl, rfl⟩) (by assumption) ?_
    try simp only [Act.put, List.setIfInBounds_toArray, List.set_cons_zero, List.set_cons_succ]
    refine take1 (i := 16) (v := undef) (some 21) rfl rfl (by kernel_rfl) (by kernel_rfl) (by kernel_rfl) (fun _ _ _ h => h) (Or.inr ⟨by rfl, rfl⟩) (by assumption) ?_
    try simp only [Act.put, List.setIfInBounds_toArray, List.set_cons_zero, List.set_cons_succ]
    refine take1 (i := 17) (v := undef) (some 22) rfl rfl (by kernel_rfl) (by kernel_rfl) (by kernel_rfl) (fun _ _ _ h => h) (Or.inr ⟨by rfl, rfl⟩) (by assumption) ?_
    try simp only [Act.put, List.setIfInBounds_toArray, List.set_cons_zero, List.set_cons_succ]
    refine take1 (i := 18) (v := ?v74) (some 23) rfl rfl (by kernel_rfl) (by kernel_rfl) (by kernel_rfl) (fun _ _ _ h => h) (Or.inl ⟨by rfl, ?y74⟩) (by assumption) ?r74
    case y74 => (intro w hSw; (try dsimp only at hSw); go_simp; (first | done | with_reducible rfl))
    try simp only [Act.put, List.setIfInBounds_toArray, List.set_cons_zero, List.set_cons_succ]
    refine take1 (i := 19) (v := ?v75) (some 4) rfl rfl (by kernel_rfl) (by kernel_rfl) (by kernel_rfl) (fun _ _ _ h => h) (Or.inl ⟨by rfl, ?y75⟩) (by assumption) ?r75
    case y75 => (intro w hSw; (try dsimp only at hSw); go_simp; (first | done | with_reducible rfl))
    try simp only [Act.put]
    refine wpAnyH_done (by kernel_rfl) ?_ _
    have HH := Lib.hid (HBA.out.trans (hh.mono HBA.out.size))
    clear hh hHeld
    go_wp2_with fail
    go_ret
    exact ⟨ret_bool HN.out.symm, HH.out⟩
set_option maxRecDepth 100000 in
set_option maxHeartbeats 1600000 in
theorem implClash_any (x y : Les) (w : World) :
    Calls Tryd.prog 57 #[lesV x, lesV y] w fun e w' => e = .returned (.bool (clashB x y)) ∧ Below w.heap.size w w' := by
  have HC := Lib.hid (fun w => implMeet_any x y w)
  obtain ⟨aid, acls, atch, aroom, aday, abgn, amins⟩ := x
  obtain ⟨bid, bcls, btch, broom, bday, bbgn, bmins⟩ := y
  show Calls Tryd.prog 57 #[.agg #[.int .i64 aid, .int .i64 acls, .int .i64 atch, .int .i64 aroom, .int .i64 aday, .int .i64 abgn, .int .i64 amins], .agg #[.int .i64 bid, .int .i64 bcls, .int .i64 btch, .int .i64 broom, .int .i64 bday, .int .i64 bbgn, .int .i64 bmins]] w fun e w' => e = .returned (.bool (clashB ⟨aid, acls, atch, aroom, aday, abgn, amins⟩ ⟨bid, bcls, btch, broom, bday, bbgn, bmins⟩)) ∧ Below w.heap.size w w'
  change Hid (∀ w : World, Calls Tryd.prog 67 #[.agg #[.int .i64 aid, .int .i64 acls, .int .i64 atch, .int .i64 aroom, .int .i64 aday, .int .i64 abgn, .int .i64 amins], .agg #[.int .i64 bid, .int .i64 bcls, .int .i64 btch, .int .i64 broom, .int .i64 bday, .int .i64 bbgn, .int .i64 bmins]] w fun e w' => e = .returned (.bool (meetB ⟨aid, acls, atch, aroom, aday, abgn, amins⟩ ⟨bid, bcls, btch, broom, bday, bbgn, bmins⟩)) ∧ Below w.heap.size w w') at HC
  have hE : clashB ⟨aid, acls, atch, aroom, aday, abgn, amins⟩ ⟨bid, bcls, btch, broom, bday, bbgn, bmins⟩ = (meetB ⟨aid, acls, atch, aroom, aday, abgn, amins⟩ ⟨bid, bcls, btch, broom, bday, bbgn, bmins⟩ && decide (acls = bcls ∨ atch = btch ∨ aroom = broom)) := rfl
  generalize meetB ⟨aid, acls, atch, aroom, aday, abgn, amins⟩ ⟨bid, bcls, btch, broom, bday, bbgn, bmins⟩ = mb at HC hE
  generalize clashB ⟨aid, acls, atch, aroom, aday, abgn, amins⟩ ⟨bid, bcls, btch, broom, bday, bbgn, bmins⟩ = r at hE ⊢
  have HE := Lib.hid hE
  clear hE
  have HB0 : Hid (Below w.heap.size w w) := Lib.hid (Below.refl _ _)
  go_enter Tryd.func57, Tryd.ntmps57
  go_wp2_with fail
  have hb : Below w.heap.size w (w.alloc (.cells #[.int .i64 aid, .int .i64 acls, .int .i64 atch, .int .i64 aroom, .int .i64 aday, .int .i64 abgn, .int .i64 amins] 31)) := (Below.refl _ _).alloc (Nat.le_refl _) _
  have hk : (w.alloc (.cells #[.int .i64 aid, .int .i64 acls, .int .i64 atch, .int .i64 aroom, .int .i64 aday, .int .i64 abgn, .int .i64 amins] 31)).heap[w.heap.size]? = some (.cells #[.int .i64 aid, .int .i64 acls, .int .i64 atch, .int .i64 aroom, .int .i64 aday, .int .i64 abgn, .int .i64 amins] 31 (0, 0)) := alloc_at rfl
  have hz : (w.alloc (.cells #[.int .i64 aid, .int .i64 acls, .int .i64 atch, .int .i64 aroom, .int .i64 aday, .int .i64 abgn, .int .i64 amins] 31)).heap.size = w.heap.size + 1 := by simp
  generalize w.alloc (.cells #[.int .i64 aid, .int .i64 acls, .int .i64 atch, .int .i64 aroom, .int .i64 aday, .int .i64 abgn, .int .i64 amins] 31) = w1 at hb hk hz ⊢
  have HB1 : Hid (Below w.heap.size w w1) := Lib.hid (HB0.out.trans (hb.mono HB0.out.size))
  have HZ1 : Hid (w.heap.size ≤ w1.heap.size) := Lib.hid hb.size
  have HKf1 := Lib.hid hk
  replace HZ1 : Hid (w.heap.size < w1.heap.size) := Lib.hid (by omega)
  have HE1 := Lib.hid hz
  clear hb hk hz
  have hb : Below w1.heap.size w1 (w1.alloc (.cells #[.int .i64 bid, .int .i64 bcls, .int .i64 btch, .int .i64 broom, .int .i64 bday, .int .i64 bbgn, .int .i64 bmins] 31)) := (Below.refl _ _).alloc (Nat.le_refl _) _
  have hk : (w1.alloc (.cells #[.int .i64 bid, .int .i64 bcls, .int .i64 btch, .int .i64 broom, .int .i64 bday, .int .i64 bbgn, .int .i64 bmins] 31)).heap[w.heap.size + 1]? = some (.cells #[.int .i64 bid, .int .i64 bcls, .int .i64 btch, .int .i64 broom, .int .i64 bday, .int .i64 bbgn, .int .i64 bmins] 31 (0, 0)) := alloc_at (by have := HE1.out; omega)
  have hz : (w1.alloc (.cells #[.int .i64 bid, .int .i64 bcls, .int .i64 btch, .int .i64 broom, .int .i64 bday, .int .i64 bbgn, .int .i64 bmins] 31)).heap.size = w1.heap.size + 1 := by simp
  generalize w1.alloc (.cells #[.int .i64 bid, .int .i64 bcls, .int .i64 btch, .int .i64 broom, .int .i64 bday, .int .i64 bbgn, .int .i64 bmins] 31) = w2 at hb hk hz ⊢
  have HB2 : Hid (Below w.heap.size w w2) := Lib.hid (HB1.out.trans (hb.mono HB1.out.size))
  have HZ2 : Hid (w1.heap.size ≤ w2.heap.size) := Lib.hid hb.size
  have HKf2 := Lib.hid ((hb.block _ (lt_of_block HKf1.out)).trans HKf1.out)
  have HKg2 := Lib.hid hk
  replace HZ2 : Hid (w1.heap.size < w2.heap.size) := Lib.hid (by omega)
  have HE2 := Lib.hid hz
  clear hb hk hz
  have ltf := lt_of_block HKf2.out
  obtain ⟨cf0, cf1, cf2, cf3, cf4, cf5, cf6, ff0, ff1, ff2, ff3, ff4, ff5, ff6⟩ := cell7 HKf2.out
  have ltg := lt_of_block HKg2.out
  obtain ⟨cg0, cg1, cg2, cg3, cg4, cg5, cg6, fg0, fg1, fg2, fg3, fg4, fg5, fg6⟩ := cell7 HKg2.out
  refine (HC.out _).mono ?_
  rintro e w3 ⟨rfl, hb⟩
  have HB3 : Hid (Below w.heap.size w w3) := Lib.hid (HB2.out.trans (hb.mono HB2.out.size))
  have HZ3 : Hid (w2.heap.size ≤ w3.heap.size) := Lib.hid hb.size
  have HKf3 := Lib.hid ((hb.block _ (lt_of_block HKf2.out)).trans HKf2.out)
  have HKg3 := Lib.hid ((hb.block _ (lt_of_block HKg2.out)).trans HKg2.out)
  clear hb
  cases mb with
  | false =>
    have HN : Hid (r = false) := Lib.hid (by rw [HE.out]; rfl)
    clear cf0 cf1 cf2 cf3 cf4 cf5 cf6 ff0 ff1 ff2 ff3 ff4 ff5 ff6 ltf cg0 cg1 cg2 cg3 cg4 cg5 cg6 fg0 fg1 fg2 fg3 fg4 fg5 fg6 ltg
    have ltf := lt_of_block HKf3.out
    obtain ⟨cf0, cf1, cf2, cf3, cf4, cf5, cf6, ff0, ff1, ff2, ff3, ff4, ff5, ff6⟩ := cell7 HKf3.out
    have ltg := lt_of_block HKg3.out
    obtain ⟨cg0, cg1, cg2, cg3, cg4, cg5, cg6, fg0, fg1, fg2, fg3, fg4, fg5, fg6⟩ := cell7 HKg3.out
    go_wp2_with fail
    go_ret
    exact ⟨ret_bool HN.out.symm, HB3.out⟩
  | true =>
    have HE2 : Hid (r = decide (acls = bcls ∨ atch = btch ∨ aroom = broom)) := Lib.hid (by rw [HE.out]; rfl)
    clear cf0 cf1 cf2 cf3 cf4 cf5 cf6 ff0 ff1 ff2 ff3 ff4 ff5 ff6 ltf cg0 cg1 cg2 cg3 cg4 cg5 cg6 fg0 fg1 fg2 fg3 fg4 fg5 fg6 ltg
    have ltf := lt_of_block HKf3.out
    obtain ⟨cf0, cf1, cf2, cf3, cf4, cf5, cf6, ff0, ff1, ff2, ff3, ff4, ff5, ff6⟩ := cell7 HKf3.out
    have ltg := lt_of_block HKg3.out
    obtain ⟨cg0, cg1, cg2, cg3, cg4, cg5, cg6, fg0, fg1, fg2, fg3, fg4, fg5, fg6⟩ := cell7 HKg3.out
    by_cases h1 : acls = bcls
    · have HN : Hid (r = true) := Lib.hid (by rw [HE2.out]; simp [h1])
      have h1' : (acls == bcls) = true := by simpa using h1
      clear h1
      go_wp2_with fail
      go_ret
      exact ⟨ret_bool HN.out.symm, HB3.out⟩
    · have h1' : (acls == bcls) = false := by simpa using h1
      by_cases h2 : atch = btch
      · have HN : Hid (r = true) := Lib.hid (by rw [HE2.out]; simp [h2])
        have h2' : (atch == btch) = true := by simpa using h2
        clear h1 h2
        go_wp2_with fail
        go_ret
        exact ⟨ret_bool HN.out.symm, HB3.out⟩
      · have h2' : (atch == btch) = false := by simpa using h2
        by_cases h3 : aroom = broom
        · have HN : Hid (r = true) := Lib.hid (by rw [HE2.out]; simp [h3])
          have h3' : (aroom == broom) = true := by simpa using h3
          clear h1 h2 h3
          go_wp2_with fail
          go_ret
          exact ⟨ret_bool HN.out.symm, HB3.out⟩
        · have HN : Hid (r = false) := Lib.hid (by rw [HE2.out]; simp [h1, h2, h3])
          have h3' : (aroom == broom) = false := by simpa using h3
          clear h1 h2 h3
          go_wp2_with fail
          go_ret
          exact ⟨ret_bool HN.out.symm, HB3.out⟩
theorem lcell1 {w : World} {b : Nat} {x : Value} {T : TypeId} (h : w.heap[b]? = some (.cells #[x] T (0, 0))) : w.cell? ⟨b, 0, none⟩ = some x := by simp [World.cell?, h]
set_option maxRecDepth 100000 in
set_option maxHeartbeats 800000 in
theorem isLid_any (id : Int) (B : Nat) (x : Les) (w : World) (hc : w.cell? ⟨B, 0, none⟩ = some (.int .i64 id)) :
    Calls Tryd.prog 53 #[lesV x, .pointer (some ⟨B, 0, none⟩)] w fun e w' => e = .returned (.bool (decide (x.id = id))) ∧ Below w.heap.size w w' := by
  obtain ⟨pid, pcls, ptch, proom, pday, pbgn, pmins⟩ := x
  show Calls Tryd.prog 53 #[.agg #[.int .i64 pid, .int .i64 pcls, .int .i64 ptch, .int .i64 proom, .int .i64 pday, .int .i64 pbgn, .int .i64 pmins], .pointer (some ⟨B, 0, none⟩)] w fun e w' => e = .returned (.bool (decide (pid = id))) ∧ Below w.heap.size w w'
  have hB : B < w.heap.size := cell_lt hc
  have hne : B ≠ w.heap.size := by omega
  by_cases h : pid = id
  · subst h
    rw [decide_eq_true rfl]
    go_enter Tryd.func53, Tryd.ntmps53
    go_wp2_with fail
    go_ret
    exact ⟨rfl, (Below.refl _ _).alloc (Nat.le_refl _) _⟩
  · have hb : (pid == id) = false := by rw [beq_eq_false_iff_ne]; exact h
    rw [decide_eq_false h]
    go_enter Tryd.func53, Tryd.ntmps53
    go_wp2_with fail
    go_ret
    exact ⟨rfl, (Below.refl _ _).alloc (Nat.le_refl _) _⟩
/-- Another lesson, with which x clashes. -/
def othB (x y : Les) : Bool := decide (y.id ≠ x.id) && clashB x y
set_option maxRecDepth 100000 in
set_option maxHeartbeats 1600000 in
theorem isOth_any (x : Les) (B : Nat) (y : Les) (w : World) (hc : w.heap[B]? = some (.cells #[.int .i64 x.id, .int .i64 x.cls, .int .i64 x.tch, .int .i64 x.room, .int .i64 x.day, .int .i64 x.bgn, .int .i64 x.mins] 31 (0, 0))) :
    Calls Tryd.prog 56 #[lesV y, .pointer (some ⟨B, 0, none⟩)] w fun e w' => e = .returned (.bool (othB x y)) ∧ Below w.heap.size w w' := by
  have HC := Lib.hid (fun w => implClash_any x y w)
  have hE : othB x y = (decide (y.id ≠ x.id) && clashB x y) := rfl
  obtain ⟨pid, pcls, ptch, proom, pday, pbgn, pmins⟩ := y
  obtain ⟨q, hq⟩ : ∃ q : Les, x = q := ⟨_, rfl⟩
  subst hq
  generalize othB x ⟨pid, pcls, ptch, proom, pday, pbgn, pmins⟩ = r at hE ⊢
  generalize clashB x ⟨pid, pcls, ptch, proom, pday, pbgn, pmins⟩ = cb at hE HC
  change Hid (∀ w : World, Calls Tryd.prog 57 #[.agg #[.int .i64 x.id, .int .i64 x.cls, .int .i64 x.tch, .int .i64 x.room, .int .i64 x.day, .int .i64 x.bgn, .int .i64 x.mins], .agg #[.int .i64 pid, .int .i64 pcls, .int .i64 ptch, .int .i64 proom, .int .i64 pday, .int .i64 pbgn, .int .i64 pmins]] w fun e w' => e = .returned (.bool cb) ∧ Below w.heap.size w w') at HC
  show Calls Tryd.prog 56 #[.agg #[.int .i64 pid, .int .i64 pcls, .int .i64 ptch, .int .i64 proom, .int .i64 pday, .int .i64 pbgn, .int .i64 pmins], .pointer (some ⟨B, 0, none⟩)] w fun e w' => e = .returned (.bool r) ∧ Below w.heap.size w w'
  replace hE : r = (decide (pid ≠ x.id) && cb) := hE
  have HE := Lib.hid hE
  clear hE
  have hB : B < w.heap.size := lt_of_block hc
  have hne : B ≠ w.heap.size := by omega
  have HB0 : Hid (Below w.heap.size w w) := Lib.hid (Below.refl _ _)
  have HKx0 := Lib.hid (hc)
  clear hc
  by_cases h : pid = x.id
  · have HN : Hid (r = false) := Lib.hid (by rw [HE.out]; simp [h])
    have hb : (pid != x.id) = false := by simpa using h
    clear h
    have ltx := lt_of_block HKx0.out
    obtain ⟨cx0, cx1, cx2, cx3, cx4, cx5, cx6, fx0, fx1, fx2, fx3, fx4, fx5, fx6⟩ := cell7 HKx0.out
    go_enter Tryd.func56, Tryd.ntmps56
    go_wp2_with fail
    go_ret
    exact ⟨ret_bool HN.out.symm, (Below.refl _ _).alloc (Nat.le_refl _) _⟩
  · have HN : Hid (r = cb) := Lib.hid (by rw [HE.out]; simp [h])
    have hb : (pid != x.id) = true := by simpa using h
    clear h
    have ltx := lt_of_block HKx0.out
    obtain ⟨cx0, cx1, cx2, cx3, cx4, cx5, cx6, fx0, fx1, fx2, fx3, fx4, fx5, fx6⟩ := cell7 HKx0.out
    go_enter Tryd.func56, Tryd.ntmps56
    go_wp2_with fail
    have hb1 : Below w.heap.size w (w.alloc (.cells #[.int .i64 pid, .int .i64 pcls, .int .i64 ptch, .int .i64 proom, .int .i64 pday, .int .i64 pbgn, .int .i64 pmins] 31)) := (Below.refl _ _).alloc (Nat.le_refl _) _
    have HBX := Lib.hid hb1
    clear hb1
    refine (HC.out _).mono ?_
    rintro e w2 ⟨rfl, hb2⟩
    have HB2 := Lib.hid (HBX.out.trans (hb2.mono HBX.out.size))
    clear hb2
    go_wp2_with fail
    go_ret
    exact ⟨ret_bool HN.out.symm, HB2.out⟩
set_option maxRecDepth 100000 in
set_option maxHeartbeats 1600000 in
theorem lidIdx_scan (v : Value) (ps : List Les) (P : Les → Bool) (B : Nat) (w : World) (h : RowsR 7 lesC w v ps) (hcall : ∀ x w', Below w.heap.size w w' → Calls Tryd.prog 53 #[lesV x, .pointer (some ⟨B, 0, none⟩)] w' fun e w'' => e = .returned (.bool (P x)) ∧ Below w'.heap.size w' w'') (K : Nat) (hK : K ≤ ps.length) (hpre : ∀ j (hj : j < ps.length), j < K → P ps[j] = false) (hx : ∀ hj : K < ps.length, P ps[K] = true) (r : Int) (hr1 : K < ps.length → r = K) (hr2 : ¬ K < ps.length → r = -1) :
    Calls Tryd.prog 52 #[v, .func (.func 53) #[] #[.pointer (some ⟨B, 0, none⟩)]] w fun e w' => e = .returned (.int .i64 r) ∧ Below w.heap.size w w' := by
  have hm : ps.length ≤ 9223372036854775807 := by obtain ⟨_, _, _, ⟨m, _⟩, _⟩ := h; exact m
  obtain ⟨a, cp, rfl⟩ := h.form
  have R1 := Lib.hid h.at
  have HP := Lib.hid hpre
  have HX := Lib.hid hx
  have HR1 := Lib.hid hr1
  have HR2 := Lib.hid hr2
  have HF := Lib.hid hcall
  clear h hpre hx hr1 hr2 hcall
  go_enter Tryd.func52, Tryd.ntmps52
  go_wp2_with fail
  go_loopw [8] (fun i wr => ∃ n : Nat, n ≤ K ∧ i = .int .i64 n ∧ Below w.heap.size w wr) (fun i _ => ps.length - (intOf i).toNat)
  case atStart => exact ⟨0, Nat.zero_le _, rfl, Below.refl _ _⟩
  case round =>
    obtain ⟨n, hn, rfl, hb⟩ := hrel
    have HB := Lib.hid hb
    by_cases hlt : n < ps.length
    · have z1 : (0 : Int) ≤ (n : Int) := by omega
      have z2 : (n : Int) < (ps.length : Int) := by omega
      obtain ⟨b1, o1, rfl, l1, k1⟩ := R1.out _ hb n hlt
      have p0 : wr.cell? ⟨b1, o1 + n * 7, none⟩ = some (.int .i64 ps[n].id) := k1 0 (by omega)
      have p1 : wr.cell? ⟨b1, o1 + n * 7 + 1, none⟩ = some (.int .i64 ps[n].cls) := k1 1 (by omega)
      have p2 : wr.cell? ⟨b1, o1 + n * 7 + 2, none⟩ = some (.int .i64 ps[n].tch) := k1 2 (by omega)
      have p3 : wr.cell? ⟨b1, o1 + n * 7 + 3, none⟩ = some (.int .i64 ps[n].room) := k1 3 (by omega)
      have p4 : wr.cell? ⟨b1, o1 + n * 7 + 4, none⟩ = some (.int .i64 ps[n].day) := k1 4 (by omega)
      have p5 : wr.cell? ⟨b1, o1 + n * 7 + 5, none⟩ = some (.int .i64 ps[n].bgn) := k1 5 (by omega)
      have p6 : wr.cell? ⟨b1, o1 + n * 7 + 6, none⟩ = some (.int .i64 ps[n].mins) := k1 6 (by omega)
      have hcall := HF.out ps[n] wr hb
      cases hq : P ps[n] with
      | true =>
        have HE : Hid (n = K) := Lib.hid (by
          rcases Nat.lt_or_ge n K with h' | h'
          · have := HP.out n hlt h'; rw [hq] at this; simp at this
          · omega)
        rw [hq] at hcall
        have HCALL := Lib.hid hcall
        generalize ps[n] = q at p0 p1 p2 p3 p4 p5 p6 HCALL
        clear hq k1 hb hcall
        go_wp2_with (go_at_call 53; refine HCALL.out.mono ?_; rintro e w2 ⟨rfl, hb2⟩)
        go_ret
        exact ⟨ret_int (by rw [HR1.out (by have := HE.out; omega), HE.out]), HB.out.trans (hb2.mono HB.out.size)⟩
      | false =>
        have HE : Hid (n < K) := Lib.hid (by
          rcases Nat.lt_or_ge n K with h' | h'
          · exact h'
          · obtain rfl : n = K := by omega
            have := HX.out hlt; rw [hq] at this; simp at this)
        rw [hq] at hcall
        have HCALL := Lib.hid hcall
        generalize ps[n] = q at p0 p1 p2 p3 p4 p5 p6 HCALL
        clear hq k1 hb hcall
        go_wp2_with (go_at_call 53; refine HCALL.out.mono ?_; rintro e w2 ⟨rfl, hb2⟩)
        go_roundw
        case rel => exact ⟨n + 1, HE.out, by go_num, HB.out.trans (hb2.mono HB.out.size)⟩
        case measure => simp [intOf]; omega
    · have HE : Hid (¬ K < ps.length) := Lib.hid (by omega)
      clear hb
      go_wp2_with fail
      go_ret
      exact ⟨ret_int (HR2.out HE.out).symm, HB.out⟩
set_option maxRecDepth 100000 in
set_option maxHeartbeats 1600000 in
theorem othIdx_scan (v : Value) (ps : List Les) (P : Les → Bool) (B : Nat) (w : World) (h : RowsR 7 lesC w v ps) (hcall : ∀ x w', Below w.heap.size w w' → Calls Tryd.prog 56 #[lesV x, .pointer (some ⟨B, 0, none⟩)] w' fun e w'' => e = .returned (.bool (P x)) ∧ Below w'.heap.size w' w'') (K : Nat) (hK : K ≤ ps.length) (hpre : ∀ j (hj : j < ps.length), j < K → P ps[j] = false) (hx : ∀ hj : K < ps.length, P ps[K] = true) (r : Int) (hr1 : K < ps.length → r = K) (hr2 : ¬ K < ps.length → r = -1) :
    Calls Tryd.prog 52 #[v, .func (.func 56) #[] #[.pointer (some ⟨B, 0, none⟩)]] w fun e w' => e = .returned (.int .i64 r) ∧ Below w.heap.size w w' := by
  have hm : ps.length ≤ 9223372036854775807 := by obtain ⟨_, _, _, ⟨m, _⟩, _⟩ := h; exact m
  obtain ⟨a, cp, rfl⟩ := h.form
  have R1 := Lib.hid h.at
  have HP := Lib.hid hpre
  have HX := Lib.hid hx
  have HR1 := Lib.hid hr1
  have HR2 := Lib.hid hr2
  have HF := Lib.hid hcall
  clear h hpre hx hr1 hr2 hcall
  go_enter Tryd.func52, Tryd.ntmps52
  go_wp2_with fail
  go_loopw [8] (fun i wr => ∃ n : Nat, n ≤ K ∧ i = .int .i64 n ∧ Below w.heap.size w wr) (fun i _ => ps.length - (intOf i).toNat)
  case atStart => exact ⟨0, Nat.zero_le _, rfl, Below.refl _ _⟩
  case round =>
    obtain ⟨n, hn, rfl, hb⟩ := hrel
    have HB := Lib.hid hb
    by_cases hlt : n < ps.length
    · have z1 : (0 : Int) ≤ (n : Int) := by omega
      have z2 : (n : Int) < (ps.length : Int) := by omega
      obtain ⟨b1, o1, rfl, l1, k1⟩ := R1.out _ hb n hlt
      have p0 : wr.cell? ⟨b1, o1 + n * 7, none⟩ = some (.int .i64 ps[n].id) := k1 0 (by omega)
      have p1 : wr.cell? ⟨b1, o1 + n * 7 + 1, none⟩ = some (.int .i64 ps[n].cls) := k1 1 (by omega)
      have p2 : wr.cell? ⟨b1, o1 + n * 7 + 2, none⟩ = some (.int .i64 ps[n].tch) := k1 2 (by omega)
      have p3 : wr.cell? ⟨b1, o1 + n * 7 + 3, none⟩ = some (.int .i64 ps[n].room) := k1 3 (by omega)
      have p4 : wr.cell? ⟨b1, o1 + n * 7 + 4, none⟩ = some (.int .i64 ps[n].day) := k1 4 (by omega)
      have p5 : wr.cell? ⟨b1, o1 + n * 7 + 5, none⟩ = some (.int .i64 ps[n].bgn) := k1 5 (by omega)
      have p6 : wr.cell? ⟨b1, o1 + n * 7 + 6, none⟩ = some (.int .i64 ps[n].mins) := k1 6 (by omega)
      have hcall := HF.out ps[n] wr hb
      cases hq : P ps[n] with
      | true =>
        have HE : Hid (n = K) := Lib.hid (by
          rcases Nat.lt_or_ge n K with h' | h'
          · have := HP.out n hlt h'; rw [hq] at this; simp at this
          · omega)
        rw [hq] at hcall
        have HCALL := Lib.hid hcall
        generalize ps[n] = q at p0 p1 p2 p3 p4 p5 p6 HCALL
        clear hq k1 hb hcall
        go_wp2_with (go_at_call 56; refine HCALL.out.mono ?_; rintro e w2 ⟨rfl, hb2⟩)
        go_ret
        exact ⟨ret_int (by rw [HR1.out (by have := HE.out; omega), HE.out]), HB.out.trans (hb2.mono HB.out.size)⟩
      | false =>
        have HE : Hid (n < K) := Lib.hid (by
          rcases Nat.lt_or_ge n K with h' | h'
          · exact h'
          · obtain rfl : n = K := by omega
            have := HX.out hlt; rw [hq] at this; simp at this)
        rw [hq] at hcall
        have HCALL := Lib.hid hcall
        generalize ps[n] = q at p0 p1 p2 p3 p4 p5 p6 HCALL
        clear hq k1 hb hcall
        go_wp2_with (go_at_call 56; refine HCALL.out.mono ?_; rintro e w2 ⟨rfl, hb2⟩)
        go_roundw
        case rel => exact ⟨n + 1, HE.out, by go_num, HB.out.trans (hb2.mono HB.out.size)⟩
        case measure => simp [intOf]; omega
    · have HE : Hid (¬ K < ps.length) := Lib.hid (by omega)
      clear hb
      go_wp2_with fail
      go_ret
      exact ⟨ret_int (HR2.out HE.out).symm, HB.out⟩
set_option maxRecDepth 100000 in
set_option maxHeartbeats 800000 in
theorem clashesWith_any (x : Les) (v : Value) (ps : List Les) (w : World) (h : RowsR 7 lesC w v ps) (r : Bool) (hr : r = true ↔ ∃ k, k < ps.length ∧ (leD ps k).id ≠ x.id ∧ clashB x (leD ps k) = true) :
    Calls Tryd.prog 34 #[lesV x, v] w fun e w' => e = .returned (.bool r) ∧ Below w.heap.size w w' := by
  have hoth : ∀ k (hk : k < ps.length), othB x ps[k] = true ↔ (leD ps k).id ≠ x.id ∧ clashB x (leD ps k) = true := fun k hk => by rw [leD_at ps k hk]; simp [othB]
  obtain ⟨K, hK, hpre, hx⟩ := first_bad ps.length (fun i hi => othB x ps[i] = false)
  have hx' : ∀ hj : K < ps.length, othB x ps[K] = true := fun hj => by simpa using hx hj
  obtain ⟨z, hz1, hz2⟩ : ∃ z : Int, (K < ps.length → z = K) ∧ (¬ K < ps.length → z = -1) := by
    by_cases hk : K < ps.length
    · exact ⟨K, fun _ => rfl, fun h => absurd hk h⟩
    · exact ⟨-1, fun h => absurd h hk, fun _ => rfl⟩
  have hrz : r = decide (0 ≤ z) := by
    by_cases hk : K < ps.length
    · rw [hz1 hk, decide_eq_true (by omega)]
      exact hr.2 ⟨K, hk, (hoth K hk).1 (hx' hk)⟩
    · rw [hz2 hk, decide_eq_false (by omega)]
      refine Bool.eq_false_iff.2 fun e => ?_
      obtain ⟨k, hk', h2⟩ := hr.1 e
      have := hpre k hk' (by omega)
      rw [(hoth k hk').2 h2] at this
      simp at this
  have HZ := Lib.hid hrz
  have HF : Hid (∀ w' : World, Below w.heap.size w w' → w'.heap[w.heap.size]? = some (.cells #[.int .i64 x.id, .int .i64 x.cls, .int .i64 x.tch, .int .i64 x.room, .int .i64 x.day, .int .i64 x.bgn, .int .i64 x.mins] 31 (0, 0)) → Calls Tryd.prog 55 #[v, .func (.func 56) #[] #[.pointer (some ⟨w.heap.size, 0, none⟩)]] w' fun e w'' => e = .returned (.bool r) ∧ Below w'.heap.size w' w'') := Lib.hid (fun w' hb hc => by
    have HI := Lib.hid (othIdx_scan v ps (othB x) w.heap.size w' (h.below hb (Nat.le_refl _)) (fun y w2 hb2 => isOth_any x w.heap.size y w2 ((hb2.block _ (lt_of_block hc)).trans hc)) K hK hpre hx' z hz1 hz2)
    clear hz1 hz2 hr hoth hpre hx hx' hrz
    go_enter Tryd.func55, Tryd.ntmps55
    go_wp2_with fail
    refine HI.out.mono ?_
    rintro e w3 ⟨rfl, hb3⟩
    go_wp2_with fail
    go_ret
    exact ⟨ret_bool HZ.out.symm, hb3⟩)
  obtain ⟨id, cls, tch, room, day, bgn, mins⟩ := x
  show Calls Tryd.prog 34 #[.agg #[.int .i64 id, .int .i64 cls, .int .i64 tch, .int .i64 room, .int .i64 day, .int .i64 bgn, .int .i64 mins], v] w fun e w' => e = .returned (.bool r) ∧ Below w.heap.size w w'
  change Hid (∀ w' : World, Below w.heap.size w w' → w'.heap[w.heap.size]? = some (.cells #[.int .i64 id, .int .i64 cls, .int .i64 tch, .int .i64 room, .int .i64 day, .int .i64 bgn, .int .i64 mins] 31 (0, 0)) → Calls Tryd.prog 55 #[v, .func (.func 56) #[] #[.pointer (some ⟨w.heap.size, 0, none⟩)]] w' fun e w'' => e = .returned (.bool r) ∧ Below w'.heap.size w' w'') at HF
  clear h hr hoth hpre hx hx' hz1 hz2 hrz
  go_enter Tryd.func34, Tryd.ntmps34
  go_wp2_with fail
  have hb1 : Below w.heap.size w (w.alloc (.cells #[.int .i64 id, .int .i64 cls, .int .i64 tch, .int .i64 room, .int .i64 day, .int .i64 bgn, .int .i64 mins] 31)) := (Below.refl _ _).alloc (Nat.le_refl _) _
  have hk1 : (w.alloc (.cells #[.int .i64 id, .int .i64 cls, .int .i64 tch, .int .i64 room, .int .i64 day, .int .i64 bgn, .int .i64 mins] 31)).heap[w.heap.size]? = some (.cells #[.int .i64 id, .int .i64 cls, .int .i64 tch, .int .i64 room, .int .i64 day, .int .i64 bgn, .int .i64 mins] 31 (0, 0)) := alloc_at rfl
  have HB1 := Lib.hid hb1
  refine (HF.out _ hb1 hk1).mono ?_
  rintro e w2 ⟨rfl, hb2⟩
  have HB2 := Lib.hid (HB1.out.trans (hb2.mono HB1.out.size))
  clear hb1 hk1 hb2
  go_wp2_with fail
  go_ret
  exact ⟨rfl, HB2.out⟩
/-- What lessonIndex gives. -/
def IdxF (ps : List Les) (id : Int) (r : Int) (t : Bool) : Prop := (okLs ps ∧ ∃ k : Nat, fndAt ps id k ∧ r = k ∧ t = true) ∨ (okLs ps ∧ fndNo ps id ∧ r = -1 ∧ t = false) ∨ (¬ okLs ps ∧ r = 0 ∧ t = false)
theorem idxF_or (ps : List Les) (id : Int) : ∃ r t, IdxF ps id r t := by
  by_cases ho : okLs ps
  · rcases fnd_or ps id with ⟨k, hk⟩ | hn
    · exact ⟨k, true, .inl ⟨ho, k, hk, rfl, rfl⟩⟩
    · exact ⟨-1, false, .inr (.inl ⟨ho, hn, rfl, rfl⟩)⟩
  · exact ⟨0, false, .inr (.inr ⟨ho, rfl, rfl⟩)⟩
set_option maxRecDepth 100000 in
set_option maxHeartbeats 800000 in
theorem lessonIndex_any (v : Value) (ps : List Les) (id : Int) (w : World) (h : RowsR 7 lesC w v ps) (r : Int) (t : Bool) (hi : IdxF ps id r t) :
    Calls Tryd.prog 31 #[v, .int .i64 id] w fun e w' => e = .returned (.tuple #[.int .i64 r, .bool t]) ∧ Below w.heap.size w w' := by
  have HR := Lib.hid h
  by_cases ho : okLs ps
  · have HC := Lib.hid (fun w' (hb : Below w.heap.size w w') => iGood_yes v ps w' (h.below hb (Nat.le_refl _)) ho)
    have HT : Hid (t = decide (0 ≤ r)) := Lib.hid (by
      rcases hi with ⟨_, k, _, rfl, rfl⟩ | ⟨_, _, rfl, rfl⟩ | ⟨hn, _⟩
      · simp
      · rfl
      · exact absurd ho hn)
    have HF : Hid (∀ w' : World, Below w.heap.size w w' → w'.cell? ⟨w.heap.size, 0, none⟩ = some (.int .i64 id) → Calls Tryd.prog 52 #[v, .func (.func 53) #[] #[.pointer (some ⟨w.heap.size, 0, none⟩)]] w' fun e w'' => e = .returned (.int .i64 r) ∧ Below w'.heap.size w' w'') := Lib.hid (fun w' hb hcell => by
      have hcall : ∀ x w2, Below w'.heap.size w' w2 → Calls Tryd.prog 53 #[lesV x, .pointer (some ⟨w.heap.size, 0, none⟩)] w2 fun e w'' => e = .returned (.bool ((fun x : Les => decide (x.id = id)) x)) ∧ Below w2.heap.size w2 w'' := fun x w2 hb2 => isLid_any id w.heap.size x w2 ((hb2.cell (p := ⟨w.heap.size, 0, none⟩) (cell_lt hcell)).trans hcell)
      rcases hi with ⟨_, k, hk, rfl, rfl⟩ | ⟨_, hno, rfl, rfl⟩ | ⟨hn, _⟩
      · exact lidIdx_scan v ps _ w.heap.size w' (HR.out.below hb (Nat.le_refl _)) hcall k (Nat.le_of_lt hk.1) (fun j hj hjk => decide_eq_false (hk.2.2 j hj hjk)) (fun _ => decide_eq_true hk.2.1) k (fun _ => rfl) (fun h => absurd hk.1 h)
      · exact lidIdx_scan v ps _ w.heap.size w' (HR.out.below hb (Nat.le_refl _)) hcall ps.length (Nat.le_refl _) (fun j hj _ => decide_eq_false (hno j hj)) (fun h => absurd h (Nat.lt_irrefl _)) (-1) (fun h => absurd h (Nat.lt_irrefl _)) (fun _ => rfl)
      · exact absurd ho hn)
    clear h hi ho
    go_enter Tryd.func31, Tryd.ntmps31
    go_wp2_with fail
    have hb0 : Below w.heap.size w (w.alloc (.cells #[.int .i64 id] 3)) := (Below.refl _ _).alloc (Nat.le_refl _) _
    refine (HC.out _ hb0).mono ?_
    rintro e w2 ⟨rfl, hb2⟩
    have HB2 : Hid (Below w.heap.size w w2) := Lib.hid (hb0.trans (hb2.mono (by simp)))
    have HCell : Hid (w2.cell? ⟨w.heap.size, 0, none⟩ = some (.int .i64 id)) := Lib.hid ((hb2.cell (p := ⟨w.heap.size, 0, none⟩) (by simp)).trans (lcell1 (alloc_at rfl)))
    clear hb0 hb2
    go_wp2_with fail
    refine (HF.out _ HB2.out HCell.out).mono ?_
    rintro e w3 ⟨rfl, hb3⟩
    have HB3 : Hid (Below w.heap.size w w3) := Lib.hid (HB2.out.trans (hb3.mono HB2.out.size))
    clear hb3
    go_wp2_with fail
    go_ret2
    exact ⟨by rw [HT.out]; rfl, HB3.out⟩
  · have HC := Lib.hid (fun w' (hb : Below w.heap.size w w') => iGood_no v ps w' (h.below hb (Nat.le_refl _)) ho)
    have HT : Hid (r = 0 ∧ t = false) := Lib.hid (by
      rcases hi with ⟨h1, _⟩ | ⟨h1, _⟩ | ⟨_, h1, h2⟩
      · exact absurd h1 ho
      · exact absurd h1 ho
      · exact ⟨h1, h2⟩)
    clear h hi ho
    go_enter Tryd.func31, Tryd.ntmps31
    go_wp2_with fail
    have hb0 : Below w.heap.size w (w.alloc (.cells #[.int .i64 id] 3)) := (Below.refl _ _).alloc (Nat.le_refl _) _
    refine (HC.out _ hb0).mono ?_
    rintro e w2 ⟨rfl, hb2⟩
    have HB2 : Hid (Below w.heap.size w w2) := Lib.hid (hb0.trans (hb2.mono (by simp)))
    clear hb0 hb2
    go_wp2_with fail
    go_ret2
    exact ⟨by rw [HT.out.1, HT.out.2]; rfl, HB2.out⟩
end Go.Proofs.YtblbeoeklkcamaaDoor
