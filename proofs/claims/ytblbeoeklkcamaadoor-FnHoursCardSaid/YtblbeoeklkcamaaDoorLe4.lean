/- The model's lessons of a class on a day. -/
import Derived.Test.YtblbeoeklkcamaaDoorLe3
import Derived.Test.YtblbeoeklkcamaaDoorSta
namespace Go.Proofs.YtblbeoeklkcamaaDoor
set_option linter.unusedVariables false
open Go.RowKit

set_option linter.unusedSimpArgs false
set_option maxRecDepth 100000 in
set_option maxHeartbeats 6400000 in
theorem l11Day_any (v : Value) (ps : List Les) (c d : Int) (w : World) (h : RowsR 7 lesC w v ps) (hl : ps.length ≤ 12) :
    Calls Tryd.prog 41 #[v, .int .i64 c, .int .i64 d] w fun e w' => (∃ sq, e = .returned sq ∧ w'.ownsRow w.heap.size 31 7 sq (dayF ps c d).length (flatC lesC (dayF ps c d))) ∧ Below w.heap.size w w' := by
  obtain ⟨i0, hi, hz0, hz1, hz2⟩ := info_parts Tryd.infoLes
  obtain ⟨a, cp, rfl⟩ := h.form
  have R1 := Lib.hid h.at
  clear h
  go_enter Tryd.func41, Tryd.ntmps41
  go_wp2_with fail
  have HO := Lib.hid (World.ownsRow_made (base := w.heap.size) (e := 31) (size := 7) w #[] 0 (Nat.le_refl _) (Nat.zero_le _) (by simp))
  go_loopw [7, 8] (fun out iv wr => ∃ (n g cap : Nat), n ≤ ps.length ∧ iv = .int .i64 n ∧ out = .slice (some ⟨g, 0, none⟩) (dayF (ps.take n) c d).length cap ∧ wr.ownsRow w.heap.size 31 7 (.slice (some ⟨g, 0, none⟩) (dayF (ps.take n) c d).length cap) (dayF (ps.take n) c d).length (flatC lesC (dayF (ps.take n) c d)) ∧ Below w.heap.size w wr) (fun _ iv _ => ps.length - (intOf iv).toNat)
  case atStart => exact ⟨0, _, _, Nat.zero_le _, rfl, rfl, HO.out, (Below.refl _ _).alloc (Nat.le_refl _) _⟩
  case round =>
    obtain ⟨n, g, cap, hn, rfl, rfl, hown, hb⟩ := hrel
    rename World => wo
    have HOo := Lib.hid hown
    have HBo := Lib.hid hb
    by_cases hlt : n < ps.length
    · have z1 : (0 : Int) ≤ (n : Int) := by omega
      have z2 : (n : Int) < (ps.length : Int) := by omega
      obtain ⟨b1, o1, rfl, l1, k1⟩ := R1.out _ hb n hlt
      obtain ⟨x, hx⟩ : ∃ x, ps[n] = x := ⟨_, rfl⟩
      have HSS : Hid (∀ W', Below w.heap.size w W' → (fun w' : World => w'.cell? ⟨b1, o1 + n * 7, none⟩ = some (.int .i64 x.id) ∧ w'.cell? ⟨b1, o1 + n * 7 + 1, none⟩ = some (.int .i64 x.cls) ∧ w'.cell? ⟨b1, o1 + n * 7 + 2, none⟩ = some (.int .i64 x.tch) ∧ w'.cell? ⟨b1, o1 + n * 7 + 3, none⟩ = some (.int .i64 x.room) ∧ w'.cell? ⟨b1, o1 + n * 7 + 4, none⟩ = some (.int .i64 x.day) ∧ w'.cell? ⟨b1, o1 + n * 7 + 5, none⟩ = some (.int .i64 x.bgn) ∧ w'.cell? ⟨b1, o1 + n * 7 + 6, none⟩ = some (.int .i64 x.mins)) W') := Lib.hid (fun W' hb' => by
        obtain ⟨b2, o2, e2, _, k2⟩ := R1.out _ hb' n hlt
        obtain ⟨rfl, rfl⟩ : b1 = b2 ∧ o1 = o2 := by injection e2 with e2; injection e2 with e2 e3; exact ⟨e2, e3⟩
        rw [hx] at k2
        exact ⟨k2 0 (by omega), k2 1 (by omega), k2 2 (by omega), k2 3 (by omega), k2 4 (by omega), k2 5 (by omega), k2 6 (by omega)⟩)
      rw [hx] at k1
      have p1 : wo.cell? ⟨b1, o1 + n * 7 + 1, none⟩ = some (.int .i64 x.cls) := k1 1 (by omega)
      have p4 : wo.cell? ⟨b1, o1 + n * 7 + 4, none⟩ = some (.int .i64 x.day) := k1 4 (by omega)
      have HX := Lib.hid hx
      clear k1 hown hb
      by_cases hc : x.cls = c
      · have hc' : (x.cls != c) = false := by simpa using hc
        by_cases hd : x.day = d
        · have hd' : (x.day != d) = false := by simpa using hd
          have HYES : Hid (dayF (ps.take (n + 1)) c d = insL (dayF (ps.take n) c d) x) := Lib.hid (by rw [dayF_yes ps c d n hlt (by rw [hx]; exact ⟨hc, hd⟩), hx])
          obtain ⟨D, hD⟩ : ∃ D, dayF (ps.take n) c d = D := ⟨_, rfl⟩
          rw [hD] at HOo HYES
          have hDn : D.length ≤ 12 := by rw [← hD]; have := dayF_len (ps.take n) c d; have := List.length_take_le n ps; omega
          obtain ⟨L, hL⟩ : ∃ L, D.length = L := ⟨_, rfl⟩
          have HDL : Hid (D.length = L) := Lib.hid hL
          rw [hD, hL]
          rw [hL] at HOo hDn
          have hLc : L ≤ cap := by
            rcases HOo.out.2 with ⟨h0, _⟩ | ⟨g', cap', cur, h0, _, _, hnc, _⟩
            · simp at h0
            · injection h0 with _ _ h2; omega
          clear hD hL hc hd hx
          go_wp2_with fail
          go_loopw [9] (fun kv wr => ∃ k : Nat, k ≤ L ∧ kv = .int .i64 k ∧ insJ D x k = insJ D x L ∧ Below wo.heap.size wo wr) (fun kv _ => (intOf kv).toNat)
          case atStart => exact ⟨L, Nat.le_refl _, rfl, rfl, Below.refl _ _⟩
          case round =>
            obtain ⟨k, hk, rfl, hJ, hb⟩ := hrel
            rename World => wi
            have HJ := Lib.hid hJ
            have HBI := Lib.hid hb
            have HBW : Hid (Below w.heap.size w wi) := Lib.hid (HBo.out.trans (hb.mono HBo.out.size))
            have HOW : Hid (wi.ownsRow w.heap.size 31 7 (.slice (some ⟨g, 0, none⟩) L cap) L (flatC lesC (D))) := Lib.hid (own_below HOo.out hb)
            clear hb hJ
            by_cases hk0 : k = 0
            · have hkd : decide (0 < k) = false := decide_eq_false (by omega)
              have HE : Hid (insAt D x k = insL D x) := Lib.hid (by unfold insL; rw [HDL.out, ← HJ.out, hk0]; rfl)
              clear hk0
              go_wp2_with fail
              refine wp_region_held_drew (S := (fun _ => True)) (by kernel_rfl) (trivial) (fun hHeld => ?_)
              have hbq := HBW.out.drew
              have hoq := HOW.out.drew
              generalize wi.drew = wq at hbq hoq hHeld ⊢
              clear HBW HOW
              have HBW := Lib.hid hbq
              have HOW := Lib.hid hoq
              clear hbq hoq
              refine take1 (i := 0) (v := ?v1) (some 35) rfl rfl (by kernel_rfl) (by kernel_rfl) (by kernel_rfl) (fun _ _ _ h => h) (Or.inl ⟨by rfl, ?y1⟩) (by assumption) ?r1
              case y1 => (intro w hSw; (try dsimp only at hSw); go_simp; (first | done | with_reducible rfl))
              try simp only [Act.put, List.setIfInBounds_toArray, List.set_cons_zero, List.set_cons_succ]
              refine take1 (i := 1) (v := ?v2) (some 36) rfl rfl (by kernel_rfl) (by kernel_rfl) (by kernel_rfl) (fun _ _ _ h => h) (Or.inl ⟨by rfl, ?y2⟩) (by assumption) ?r2
              case y2 => (intro w hSw; (try dsimp only at hSw); go_simp; (first | done | with_reducible rfl))
              try simp only [Act.put, List.setIfInBounds_toArray, List.set_cons_zero, List.set_cons_succ]
              refine take1 (i := 2) (v := ?v3) (some 37) rfl rfl (by kernel_rfl) (by kernel_rfl) (by kernel_rfl) (fun _ _ _ h => h) (Or.inl ⟨by rfl, ?y3⟩) (by assumption) ?r3
              case y3 => (intro w hSw; (try dsimp only at hSw); go_simp; (first | done | with_reducible rfl))
              try simp only [Act.put, List.setIfInBounds_toArray, List.set_cons_zero, List.set_cons_succ]
              refine take1 (i := 3) (v := undef) (some 38) rfl rfl (by kernel_rfl) (by kernel_rfl) (by kernel_rfl) (fun _ _ _ h => h) (Or.inr ⟨by rfl, rfl⟩) (by assumption) ?_
              try simp only [Act.put, List.setIfInBounds_toArray, List.set_cons_zero, List.set_cons_succ]
              refine take1 (i := 4) (v := undef) (some 39) rfl rfl (by kernel_rfl) (by kernel_rfl) (by kernel_rfl) (fun _ _ _ h => h) (Or.inr ⟨by rfl, rfl⟩) (by assumption) ?_
              try simp only [Act.put, List.setIfInBounds_toArray, List.set_cons_zero, List.set_cons_succ]
              refine take1 (i := 5) (v := undef) (some 40) rfl rfl (by kernel_rfl) (by kernel_rfl) (by kernel_rfl) (fun _ _ _ h => h) (Or.inr ⟨by rfl, rfl⟩) (by assumption) ?_
              try simp only [Act.put, List.setIfInBounds_toArray, List.set_cons_zero, List.set_cons_succ]
              refine take1 (i := 6) (v := undef) (some 41) rfl rfl (by kernel_rfl) (by kernel_rfl) (by kernel_rfl) (fun _ _ _ h => h) (Or.inr ⟨by rfl, rfl⟩) (by assumption) ?_
              try simp only [Act.put, List.setIfInBounds_toArray, List.set_cons_zero, List.set_cons_succ]
              refine take1 (i := 7) (v := undef) (some 42) rfl rfl (by kernel_rfl) (by kernel_rfl) (by kernel_rfl) (fun _ _ _ h => h) (Or.inr ⟨by rfl, rfl⟩) (by assumption) ?_
              try simp only [Act.put, List.setIfInBounds_toArray, List.set_cons_zero, List.set_cons_succ]
              refine take1 (i := 8) (v := undef) (some 43) rfl rfl (by kernel_rfl) (by kernel_rfl) (by kernel_rfl) (fun _ _ _ h => h) (Or.inr ⟨by rfl, rfl⟩) (by assumption) ?_
              try simp only [Act.put, List.setIfInBounds_toArray, List.set_cons_zero, List.set_cons_succ]
              refine take1 (i := 9) (v := undef) (some 44) rfl rfl (by kernel_rfl) (by kernel_rfl) (by kernel_rfl) (fun _ _ _ h => h) (Or.inr ⟨by rfl, rfl⟩) (by assumption) ?_
              try simp only [Act.put, List.setIfInBounds_toArray, List.set_cons_zero, List.set_cons_succ]
              refine take1 (i := 10) (v := undef) (some 45) rfl rfl (by kernel_rfl) (by kernel_rfl) (by kernel_rfl) (fun _ _ _ h => h) (Or.inr ⟨by rfl, rfl⟩) (by assumption) ?_
              try simp only [Act.put, List.setIfInBounds_toArray, List.set_cons_zero, List.set_cons_succ]
              refine take1 (i := 11) (v := undef) (some 46) rfl rfl (by kernel_rfl) (by kernel_rfl) (by kernel_rfl) (fun _ _ _ h => h) (Or.inr ⟨by rfl, rfl⟩) (by assumption) ?_
              try simp only [Act.put, List.setIfInBounds_toArray, List.set_cons_zero, List.set_cons_succ]
              refine take1 (i := 12) (v := undef) (some 47) rfl rfl (by kernel_rfl) (by kernel_rfl) (by kernel_rfl) (fun _ _ _ h => h) (Or.inr ⟨by rfl, rfl⟩) (by assumption) ?_
              try simp only [Act.put, List.setIfInBounds_toArray, List.set_cons_zero, List.set_cons_succ]
              refine take1 (i := 13) (v := undef) (some 48) rfl rfl (by kernel_rfl) (by kernel_rfl) (by kernel_rfl) (fun _ _ _ h => h) (Or.inr ⟨by rfl, rfl⟩) (by assumption) ?_
              try simp only [Act.put, List.setIfInBounds_toArray, List.set_cons_zero, List.set_cons_succ]
              refine take1 (i := 14) (v := undef) (some 49) rfl rfl (by kernel_rfl) (by kernel_rfl) (by kernel_rfl) (fun _ _ _ h => h) (Or.inr ⟨by rfl, rfl⟩) (by assumption) ?_
              try simp only [Act.put, List.setIfInBounds_toArray, List.set_cons_zero, List.set_cons_succ]
              refine take1 (i := 15) (v := ?v16) (some 50) rfl rfl (by kernel_rfl) (by kernel_rfl) (by kernel_rfl) (fun _ _ _ h => h) (Or.inl ⟨by rfl, ?y16⟩) (by assumption) ?r16
              case y16 => (intro w hSw; (try dsimp only at hSw); go_simp; (first | done | with_reducible rfl))
              try simp only [Act.put, List.setIfInBounds_toArray, List.set_cons_zero, List.set_cons_succ]
              refine wpAnyH_done (by kernel_rfl) ?_ _
              go_wp2_with fail
              have hkc : k ≤ cap := by omega
              obtain ⟨ad2, had2⟩ : ∃ ad2, (if cap = k then some (⟨g, 0, none⟩ : Addr) else some ⟨g, k * 7, none⟩) = some ad2 := by split <;> exact ⟨_, rfl⟩
              have HAD := Lib.hid had2
              clear had2
              refine wp_region_held_drew (S := (fun w' => w'.cell? ⟨b1, o1 + n * 7, none⟩ = some (.int .i64 x.id) ∧ w'.cell? ⟨b1, o1 + n * 7 + 1, none⟩ = some (.int .i64 x.cls) ∧ w'.cell? ⟨b1, o1 + n * 7 + 2, none⟩ = some (.int .i64 x.tch) ∧ w'.cell? ⟨b1, o1 + n * 7 + 3, none⟩ = some (.int .i64 x.room) ∧ w'.cell? ⟨b1, o1 + n * 7 + 4, none⟩ = some (.int .i64 x.day) ∧ w'.cell? ⟨b1, o1 + n * 7 + 5, none⟩ = some (.int .i64 x.bgn) ∧ w'.cell? ⟨b1, o1 + n * 7 + 6, none⟩ = some (.int .i64 x.mins))) (by kernel_rfl) (HSS.out _ HBW.out.drew) (fun hHeld => ?_)
              have hbd := HBW.out.drew
              have hod := HOW.out.drew
              generalize wq.drew = wd at hbd hod hHeld ⊢
              have HBD := Lib.hid hbd
              have HOD := Lib.hid hod
              have hgd : g < wd.heap.size := (hod.lt g rfl).2
              have HSD : Hid (∀ W', Below wd.heap.size wd W' → (fun w' : World => w'.cell? ⟨b1, o1 + n * 7, none⟩ = some (.int .i64 x.id) ∧ w'.cell? ⟨b1, o1 + n * 7 + 1, none⟩ = some (.int .i64 x.cls) ∧ w'.cell? ⟨b1, o1 + n * 7 + 2, none⟩ = some (.int .i64 x.tch) ∧ w'.cell? ⟨b1, o1 + n * 7 + 3, none⟩ = some (.int .i64 x.room) ∧ w'.cell? ⟨b1, o1 + n * 7 + 4, none⟩ = some (.int .i64 x.day) ∧ w'.cell? ⟨b1, o1 + n * 7 + 5, none⟩ = some (.int .i64 x.bgn) ∧ w'.cell? ⟨b1, o1 + n * 7 + 6, none⟩ = some (.int .i64 x.mins)) W') := Lib.hid (fun W' h => HSS.out _ (HBD.out.trans (h.mono HBD.out.size)))
              have HNA : Hid (∀ W', Below wd.heap.size wd W' → ∀ j u, (flatC lesC (D.take k))[j]? = some u → W'.cell? ((⟨g, 0, none⟩ : Addr).add j) = some u) := Lib.hid (fun W' h j u hu => by
                rw [add_off2, Nat.zero_add]
                exact (h.cell (p := ⟨g, j, none⟩) hgd).trans (take_cells lesC_len HOD.out HDL.out j u hu))
              have HNC : Hid (∀ W', Below wd.heap.size wd W' → ∀ j u, (flatC lesC (D.drop k))[j]? = some u → W'.cell? (ad2.add j) = some u) := Lib.hid (fun W' h j u hu => by
                have had := HAD.out
                by_cases hck : cap = k
                · rw [List.drop_of_length_le (by have := HDL.out; omega)] at hu
                  simp [flatC] at hu
                · rw [if_neg hck] at had
                  injection had with had
                  subst had
                  rw [add_off2]
                  exact (h.cell (p := ⟨g, k * 7 + j, none⟩) hgd).trans (drop_addr lesC_len HOD.out HDL.out j u hu))
              have HBzwd : Hid (Below wd.heap.size wd wd) := Lib.hid (Below.refl _ _)
              clear hbd hod hgd
              refine take1 (i := 1) (v := ?v17) (some 54) rfl rfl (by kernel_rfl) (by kernel_rfl) (by kernel_rfl) (fun _ _ _ h => h) (Or.inl ⟨by rfl, ?y17⟩) (by assumption) ?r17
              case y17 => (intro w hSw; (try dsimp only at hSw); go_simp; (first | done | with_reducible rfl))
              try simp only [Act.put, List.setIfInBounds_toArray, List.set_cons_zero, List.set_cons_succ]
              refine take1 (i := 2) (v := ?v18) (some 55) rfl rfl (by kernel_rfl) (by kernel_rfl) (by kernel_rfl) (fun _ _ _ h => h) (Or.inl ⟨by rfl, ?y18⟩) (by assumption) ?r18
              case y18 => (intro w hSw; (try dsimp only at hSw); go_simp; (first | done | with_reducible rfl))
              try simp only [Act.put, List.setIfInBounds_toArray, List.set_cons_zero, List.set_cons_succ]
              refine take1 (i := 3) (v := ?v19) (some 56) rfl rfl (by kernel_rfl) (by kernel_rfl) (by kernel_rfl) (fun _ _ _ h => h) (Or.inl ⟨by rfl, ?y19⟩) (by assumption) ?r19
              case y19 => (intro w hSw; (try dsimp only at hSw); go_simp; (first | done | with_reducible rfl))
              try simp only [Act.put, List.setIfInBounds_toArray, List.set_cons_zero, List.set_cons_succ]
              refine take1 (i := 5) (v := ?v20) (some 58) rfl rfl (by kernel_rfl) (by kernel_rfl) (by kernel_rfl) (fun _ _ _ h => h) (Or.inl ⟨by rfl, ?y20⟩) (by assumption) ?r20
              case y20 => (intro w hSw; (try dsimp only at hSw); go_simp; (first | done | with_reducible rfl))
              try simp only [Act.put, List.setIfInBounds_toArray, List.set_cons_zero, List.set_cons_succ]
              refine take1 (i := 6) (v := ?v21) (some 59) rfl rfl (by kernel_rfl) (by kernel_rfl) (by kernel_rfl) (fun _ _ _ h => h) (Or.inl ⟨by rfl, ?y21⟩) (by assumption) ?r21
              case y21 => (intro w hSw; (try dsimp only at hSw); go_simp; (first | done | with_reducible rfl))
              try simp only [Act.put, List.setIfInBounds_toArray, List.set_cons_zero, List.set_cons_succ]
              refine take1 (i := 7) (v := ?v22) (some 60) rfl rfl (by kernel_rfl) (by kernel_rfl) (by kernel_rfl) (fun _ _ _ h => h) (Or.inl ⟨by rfl, ?y22⟩) (by assumption) ?r22
              case y22 => (intro w hSw; (try dsimp only at hSw); go_simp; (first | done | with_reducible rfl))
              try simp only [Act.put, List.setIfInBounds_toArray, List.set_cons_zero, List.set_cons_succ]
              refine take1 (i := 8) (v := ?v23) (some 61) rfl rfl (by kernel_rfl) (by kernel_rfl) (by kernel_rfl) (fun _ _ _ h => h) (Or.inl ⟨by rfl, ?y23⟩) (by assumption) ?r23
              case y23 => (intro w hSw; (try dsimp only at hSw); go_simp; (first | done | with_reducible rfl))
              try simp only [Act.put, List.setIfInBounds_toArray, List.set_cons_zero, List.set_cons_succ]
              refine take1 (i := 11) (v := ?v24) (some 64) rfl rfl (by kernel_rfl) (by kernel_rfl) (by kernel_rfl) (fun _ _ _ h => h) (Or.inl ⟨by rfl, ?y24⟩) (by assumption) ?r24
              case y24 => (intro w hSw; (try dsimp only at hSw); go_simp; (first | done | with_reducible rfl))
              try simp only [Act.put, List.setIfInBounds_toArray, List.set_cons_zero, List.set_cons_succ]
              refine take1 (i := 12) (v := ?v25) (some 65) rfl rfl (by kernel_rfl) (by kernel_rfl) (by kernel_rfl) (fun _ _ _ h => h) (Or.inl ⟨by rfl, ?y25⟩) (by assumption) ?r25
              case y25 => (intro w hSw; (try dsimp only at hSw); go_simp; (first | done | with_reducible rfl))
              try simp only [Act.put, List.setIfInBounds_toArray, List.set_cons_zero, List.set_cons_succ]
              refine take1 (i := 13) (v := ?v26) (some 66) rfl rfl (by kernel_rfl) (by kernel_rfl) (by kernel_rfl) (fun _ _ _ h => h) (Or.inl ⟨by rfl, ?y26⟩) (by assumption) ?r26
              case y26 => (intro w hSw; (try dsimp only at hSw); go_simp; (first | done | with_reducible rfl))
              try simp only [Act.put, List.setIfInBounds_toArray, List.set_cons_zero, List.set_cons_succ]
              refine wpAnyH_ready (rs := [0, 9]) (by kernel_rfl) (by simp) ?_
              refine AllReadyH.cons rfl (fun K hK => ?_) (AllReadyH.cons rfl (fun K hK => ?_) AllReadyH.nil)
              · skip
                go_simp
                have hb : Below wd.heap.size wd (wd.alloc (.cells #[] 31)) := HBzwd.out.alloc HBzwd.out.size _
                have ho : (wd.alloc (.cells #[] 31)).ownsRow wd.heap.size 31 7 (.slice (some ⟨wd.heap.size, 0, none⟩) 0 0) (0) ([]) := World.ownsRow_made wd #[] 0 HBzwd.out.size (Nat.zero_le _) (by simp)
                refine hK.out _ _ (HSD.out _ hb) (fun hHeld => ?_)
                clear hK K
                try simp only [Act.put]
                generalize wd.alloc (.cells #[] 31) = y1 at hb ho hHeld ⊢
                have HBzy1 := Lib.hid hb
                have HOzy1 := Lib.hid ho
                clear hb ho
                refine wpAnyH_ready (rs := [4, 9]) (by kernel_rfl) (by simp) ?_
                refine AllReadyH.cons rfl (fun K hK => ?_) (AllReadyH.cons rfl (fun K hK => ?_) AllReadyH.nil)
                · skip
                  refine step_append_at (by rfl) _ _ _ (by rfl) wd.heap.size 31 i0 (.agg #[.int .i64 0, .int .i64 0, .int .i64 0, .int .i64 0, .int .i64 0, .int .i64 0, .int .i64 0]) 7 56 Tryd.underlying24 hi hz0 hz1 hz2 rfl (by decide) _ 0 [] (by rfl) HOzy1.out ⟨g, 0, none⟩ k cap (flatC lesC (D.take k)) (by rfl) (by rw [flatC_len lesC_len, List.length_take, HDL.out, Nat.min_eq_left hk]) (HNA.out _ HBzy1.out) (flatC_one lesC_one _) (by unfold maxLen; omega) (by omega) HBzy1.out.size ?_
                  intro v4 y2 how hgr hloc hnn
                  have HBzy2 := Lib.hid (HBzy1.out.grown hgr HBzy1.out.size (fun q hq => (HOzy1.out.lt q hq).1))
                  have HOzy2 : Hid (y2.ownsRow wd.heap.size 31 7 v4 (k) (flatC lesC (D.take k))) := Lib.hid (by simpa using how)
                  clear how hgr hloc hnn
                  refine hK.out _ _ (HSD.out _ HBzy2.out) (fun hHeld => ?_)
                  clear hK K
                  try simp only [Act.put, List.setIfInBounds_toArray]
                  refine wpAnyH_ready (rs := [9]) (by kernel_rfl) (by simp) ?_
                  refine AllReadyH.cons rfl (fun K hK => ?_) AllReadyH.nil
                  go_simp
                  have hb : Below wd.heap.size wd (y2.alloc (.cells #[.int .i64 x.id, .int .i64 x.cls, .int .i64 x.tch, .int .i64 x.room, .int .i64 x.day, .int .i64 x.bgn, .int .i64 x.mins] 31)) := HBzy2.out.alloc HBzy2.out.size _
                  have hk : (y2.alloc (.cells #[.int .i64 x.id, .int .i64 x.cls, .int .i64 x.tch, .int .i64 x.room, .int .i64 x.day, .int .i64 x.bgn, .int .i64 x.mins] 31)).heap[y2.heap.size]? = some (.cells (lesC x).toArray 31 (0, 0)) := alloc_at rfl
                  have ho := HOzy2.out.alloc (.cells #[.int .i64 x.id, .int .i64 x.cls, .int .i64 x.tch, .int .i64 x.room, .int .i64 x.day, .int .i64 x.bgn, .int .i64 x.mins] 31)
                  refine hK.out _ _ (HSD.out _ hb) (fun hHeld => ?_)
                  clear hK K
                  try simp only [Act.put]
                  generalize y2.alloc (.cells #[.int .i64 x.id, .int .i64 x.cls, .int .i64 x.tch, .int .i64 x.room, .int .i64 x.day, .int .i64 x.bgn, .int .i64 x.mins] 31) = y3 at hb hk ho hHeld ⊢
                  have HBzy3 := Lib.hid hb
                  have HKzy3 := Lib.hid hk
                  have HOzy3 := Lib.hid ho
                  clear hb hk ho
                  refine wpAnyH_ready (rs := [10]) (by kernel_rfl) (by simp) ?_
                  refine AllReadyH.cons rfl (fun K hK => ?_) AllReadyH.nil
                  refine step_append_at (by rfl) _ _ _ (by rfl) wd.heap.size 31 i0 (.agg #[.int .i64 0, .int .i64 0, .int .i64 0, .int .i64 0, .int .i64 0, .int .i64 0, .int .i64 0]) 7 56 Tryd.underlying24 hi hz0 hz1 hz2 rfl (by decide) _ k (flatC lesC (D.take k)) (by rfl) HOzy3.out ⟨y2.heap.size, 0, none⟩ 1 1 (lesC x) (by rfl) (by rfl) (news_at (vs := lesC x) HKzy3.out) (lesC_one x) (by unfold maxLen; omega) (by omega) HBzy3.out.size ?_
                  intro v10 y4 how hgr hloc hnn
                  have HBzy4 := Lib.hid (HBzy3.out.grown hgr HBzy3.out.size (fun q hq => (HOzy3.out.lt q hq).1))
                  have HOzy4 : Hid (y4.ownsRow wd.heap.size 31 7 v10 (k + 1) (flatC lesC (D.take k) ++ lesC x)) := Lib.hid how
                  clear how hgr hloc hnn
                  refine hK.out _ _ (HSD.out _ HBzy4.out) (fun hHeld => ?_)
                  clear hK K
                  try simp only [Act.put, List.setIfInBounds_toArray]
                  refine wpAnyH_ready (rs := [14]) (by kernel_rfl) (by simp) ?_
                  refine AllReadyH.cons rfl (fun K hK => ?_) AllReadyH.nil
                  refine step_append_at (by rfl) _ _ _ (by rfl) wd.heap.size 31 i0 (.agg #[.int .i64 0, .int .i64 0, .int .i64 0, .int .i64 0, .int .i64 0, .int .i64 0, .int .i64 0]) 7 56 Tryd.underlying24 hi hz0 hz1 hz2 rfl (by decide) _ (k + 1) (flatC lesC (D.take k) ++ lesC x) (by rfl) HOzy4.out ad2 (L - k) (cap - k) (flatC lesC (D.drop k)) (by exact congrArg (fun z => Value.slice z (L - k) (cap - k)) HAD.out) (by rw [flatC_len lesC_len, List.length_drop, HDL.out]) (HNC.out _ HBzy4.out) (flatC_one lesC_one _) (by unfold maxLen; omega) (by omega) HBzy4.out.size ?_
                  intro v14 y5 how hgr hloc hnn
                  have HBzy5 := Lib.hid (HBzy4.out.grown hgr HBzy4.out.size (fun q hq => (HOzy4.out.lt q hq).1))
                  obtain ⟨g2, c2, rfl⟩ := own_some how (by omega)
                  have hkl : k + 1 + (L - k) = L + 1 := by omega
                  rw [hkl] at how ⊢
                  have HOzy5 : Hid (y5.ownsRow wd.heap.size 31 7 (.slice (some ⟨g2, 0, none⟩) (L + 1) c2) (L + 1) (flatC lesC (insAt D x k))) := Lib.hid (by
                    unfold insAt; rw [flatC_app]; rw [List.append_assoc] at how; exact how)
                  clear how hgr hloc hnn hkl
                  refine hK.out _ _ (HSD.out _ HBzy5.out) (fun hHeld => ?_)
                  clear hK K
                  try simp only [Act.put, List.setIfInBounds_toArray]
                  refine take1 (i := 15) (v := ?v27) (some 7) rfl rfl (by kernel_rfl) (by kernel_rfl) (by kernel_rfl) (fun _ _ _ h => h) (Or.inl ⟨by rfl, ?y27⟩) (by assumption) ?r27
                  case y27 => (intro w hSw; (try dsimp only at hSw); go_simp; (first | done | with_reducible rfl))
                  try simp only [Act.put]
                  refine wpAnyH_done (by kernel_rfl) ?_ _
                  have HBf : Hid (Below w.heap.size w y5) := Lib.hid (HBD.out.trans (HBzy5.out.mono HBD.out.size))
                  have HOf : Hid (y5.ownsRow w.heap.size 31 7 (.slice (some ⟨g2, 0, none⟩) (L + 1) c2) (L + 1) (flatC lesC (insAt D x k))) := Lib.hid (own_mono HOzy5.out HBD.out.size)
                  have HLf : Hid ((insL D x).length = L + 1) := Lib.hid (by rw [insL_len, HDL.out])
                  clear hHeld
                  go_wp2_with fail
                  go_roundw
                  case rel => exact ⟨n + 1, g2, c2, by omega, by go_num, by rw [HYES.out, HLf.out], by rw [HYES.out, HLf.out, ← HE.out]; exact HOf.out, HBf.out⟩
                  case measure => simp [intOf]; omega
                · skip
                  go_simp
                  have hb : Below wd.heap.size wd (y1.alloc (.cells #[.int .i64 x.id, .int .i64 x.cls, .int .i64 x.tch, .int .i64 x.room, .int .i64 x.day, .int .i64 x.bgn, .int .i64 x.mins] 31)) := HBzy1.out.alloc HBzy1.out.size _
                  have hk : (y1.alloc (.cells #[.int .i64 x.id, .int .i64 x.cls, .int .i64 x.tch, .int .i64 x.room, .int .i64 x.day, .int .i64 x.bgn, .int .i64 x.mins] 31)).heap[y1.heap.size]? = some (.cells (lesC x).toArray 31 (0, 0)) := alloc_at rfl
                  have ho := HOzy1.out.alloc (.cells #[.int .i64 x.id, .int .i64 x.cls, .int .i64 x.tch, .int .i64 x.room, .int .i64 x.day, .int .i64 x.bgn, .int .i64 x.mins] 31)
                  have HNzy6 : Hid (some y1.heap.size ≠ (Value.slice (some ⟨wd.heap.size, 0, none⟩) 0 0).ownBlock) := Lib.hid (fun e => absurd (HOzy1.out.lt _ e.symm).2 (Nat.lt_irrefl _))
                  refine hK.out _ _ (HSD.out _ hb) (fun hHeld => ?_)
                  clear hK K
                  try simp only [Act.put]
                  generalize y1.alloc (.cells #[.int .i64 x.id, .int .i64 x.cls, .int .i64 x.tch, .int .i64 x.room, .int .i64 x.day, .int .i64 x.bgn, .int .i64 x.mins] 31) = y6 at hb hk ho hHeld ⊢
                  have HBzy6 := Lib.hid hb
                  have HKzy6 := Lib.hid hk
                  have HOzy6 := Lib.hid ho
                  clear hb hk ho
                  refine wpAnyH_ready (rs := [4]) (by kernel_rfl) (by simp) ?_
                  refine AllReadyH.cons rfl (fun K hK => ?_) AllReadyH.nil
                  refine step_append_at (by rfl) _ _ _ (by rfl) wd.heap.size 31 i0 (.agg #[.int .i64 0, .int .i64 0, .int .i64 0, .int .i64 0, .int .i64 0, .int .i64 0, .int .i64 0]) 7 56 Tryd.underlying24 hi hz0 hz1 hz2 rfl (by decide) _ 0 [] (by rfl) HOzy6.out ⟨g, 0, none⟩ k cap (flatC lesC (D.take k)) (by rfl) (by rw [flatC_len lesC_len, List.length_take, HDL.out, Nat.min_eq_left hk]) (HNA.out _ HBzy6.out) (flatC_one lesC_one _) (by unfold maxLen; omega) (by omega) HBzy6.out.size ?_
                  intro v4 y7 how hgr hloc hnn
                  have HBzy7 := Lib.hid (HBzy6.out.grown hgr HBzy6.out.size (fun q hq => (HOzy6.out.lt q hq).1))
                  have HOzy7 : Hid (y7.ownsRow wd.heap.size 31 7 v4 (k) (flatC lesC (D.take k))) := Lib.hid (by simpa using how)
                  have HKzy7 := Lib.hid ((hgr.block _ (lt_of_block HKzy6.out) HNzy6.out).trans HKzy6.out)
                  clear how hgr hloc hnn
                  refine hK.out _ _ (HSD.out _ HBzy7.out) (fun hHeld => ?_)
                  clear hK K
                  try simp only [Act.put, List.setIfInBounds_toArray]
                  refine wpAnyH_ready (rs := [10]) (by kernel_rfl) (by simp) ?_
                  refine AllReadyH.cons rfl (fun K hK => ?_) AllReadyH.nil
                  refine step_append_at (by rfl) _ _ _ (by rfl) wd.heap.size 31 i0 (.agg #[.int .i64 0, .int .i64 0, .int .i64 0, .int .i64 0, .int .i64 0, .int .i64 0, .int .i64 0]) 7 56 Tryd.underlying24 hi hz0 hz1 hz2 rfl (by decide) _ k (flatC lesC (D.take k)) (by rfl) HOzy7.out ⟨y1.heap.size, 0, none⟩ 1 1 (lesC x) (by rfl) (by rfl) (news_at (vs := lesC x) HKzy7.out) (lesC_one x) (by unfold maxLen; omega) (by omega) HBzy7.out.size ?_
                  intro v10 y8 how hgr hloc hnn
                  have HBzy8 := Lib.hid (HBzy7.out.grown hgr HBzy7.out.size (fun q hq => (HOzy7.out.lt q hq).1))
                  have HOzy8 : Hid (y8.ownsRow wd.heap.size 31 7 v10 (k + 1) (flatC lesC (D.take k) ++ lesC x)) := Lib.hid how
                  clear how hgr hloc hnn
                  refine hK.out _ _ (HSD.out _ HBzy8.out) (fun hHeld => ?_)
                  clear hK K
                  try simp only [Act.put, List.setIfInBounds_toArray]
                  refine wpAnyH_ready (rs := [14]) (by kernel_rfl) (by simp) ?_
                  refine AllReadyH.cons rfl (fun K hK => ?_) AllReadyH.nil
                  refine step_append_at (by rfl) _ _ _ (by rfl) wd.heap.size 31 i0 (.agg #[.int .i64 0, .int .i64 0, .int .i64 0, .int .i64 0, .int .i64 0, .int .i64 0, .int .i64 0]) 7 56 Tryd.underlying24 hi hz0 hz1 hz2 rfl (by decide) _ (k + 1) (flatC lesC (D.take k) ++ lesC x) (by rfl) HOzy8.out ad2 (L - k) (cap - k) (flatC lesC (D.drop k)) (by exact congrArg (fun z => Value.slice z (L - k) (cap - k)) HAD.out) (by rw [flatC_len lesC_len, List.length_drop, HDL.out]) (HNC.out _ HBzy8.out) (flatC_one lesC_one _) (by unfold maxLen; omega) (by omega) HBzy8.out.size ?_
                  intro v14 y9 how hgr hloc hnn
                  have HBzy9 := Lib.hid (HBzy8.out.grown hgr HBzy8.out.size (fun q hq => (HOzy8.out.lt q hq).1))
                  obtain ⟨g2, c2, rfl⟩ := own_some how (by omega)
                  have hkl : k + 1 + (L - k) = L + 1 := by omega
                  rw [hkl] at how ⊢
                  have HOzy9 : Hid (y9.ownsRow wd.heap.size 31 7 (.slice (some ⟨g2, 0, none⟩) (L + 1) c2) (L + 1) (flatC lesC (insAt D x k))) := Lib.hid (by
                    unfold insAt; rw [flatC_app]; rw [List.append_assoc] at how; exact how)
                  clear how hgr hloc hnn hkl
                  refine hK.out _ _ (HSD.out _ HBzy9.out) (fun hHeld => ?_)
                  clear hK K
                  try simp only [Act.put, List.setIfInBounds_toArray]
                  refine take1 (i := 15) (v := ?v28) (some 7) rfl rfl (by kernel_rfl) (by kernel_rfl) (by kernel_rfl) (fun _ _ _ h => h) (Or.inl ⟨by rfl, ?y28⟩) (by assumption) ?r28
                  case y28 => (intro w hSw; (try dsimp only at hSw); go_simp; (first | done | with_reducible rfl))
                  try simp only [Act.put]
                  refine wpAnyH_done (by kernel_rfl) ?_ _
                  have HBf : Hid (Below w.heap.size w y9) := Lib.hid (HBD.out.trans (HBzy9.out.mono HBD.out.size))
                  have HOf : Hid (y9.ownsRow w.heap.size 31 7 (.slice (some ⟨g2, 0, none⟩) (L + 1) c2) (L + 1) (flatC lesC (insAt D x k))) := Lib.hid (own_mono HOzy9.out HBD.out.size)
                  have HLf : Hid ((insL D x).length = L + 1) := Lib.hid (by rw [insL_len, HDL.out])
                  clear hHeld
                  go_wp2_with fail
                  go_roundw
                  case rel => exact ⟨n + 1, g2, c2, by omega, by go_num, by rw [HYES.out, HLf.out], by rw [HYES.out, HLf.out, ← HE.out]; exact HOf.out, HBf.out⟩
                  case measure => simp [intOf]; omega
              · skip
                go_simp
                have hb : Below wd.heap.size wd (wd.alloc (.cells #[.int .i64 x.id, .int .i64 x.cls, .int .i64 x.tch, .int .i64 x.room, .int .i64 x.day, .int .i64 x.bgn, .int .i64 x.mins] 31)) := HBzwd.out.alloc HBzwd.out.size _
                have hk : (wd.alloc (.cells #[.int .i64 x.id, .int .i64 x.cls, .int .i64 x.tch, .int .i64 x.room, .int .i64 x.day, .int .i64 x.bgn, .int .i64 x.mins] 31)).heap[wd.heap.size]? = some (.cells (lesC x).toArray 31 (0, 0)) := alloc_at rfl
                refine hK.out _ _ (HSD.out _ hb) (fun hHeld => ?_)
                clear hK K
                try simp only [Act.put]
                generalize wd.alloc (.cells #[.int .i64 x.id, .int .i64 x.cls, .int .i64 x.tch, .int .i64 x.room, .int .i64 x.day, .int .i64 x.bgn, .int .i64 x.mins] 31) = y10 at hb hk hHeld ⊢
                have HBzy10 := Lib.hid hb
                have HKzy10 := Lib.hid hk
                clear hb hk
                refine wpAnyH_ready (rs := [0]) (by kernel_rfl) (by simp) ?_
                refine AllReadyH.cons rfl (fun K hK => ?_) AllReadyH.nil
                go_simp
                have hb : Below wd.heap.size wd (y10.alloc (.cells #[] 31)) := HBzy10.out.alloc HBzy10.out.size _
                have ho : (y10.alloc (.cells #[] 31)).ownsRow wd.heap.size 31 7 (.slice (some ⟨y10.heap.size, 0, none⟩) 0 0) (0) ([]) := World.ownsRow_made y10 #[] 0 HBzy10.out.size (Nat.zero_le _) (by simp)
                have hk : (y10.alloc (.cells #[] 31)).heap[wd.heap.size]? = some (.cells (lesC x).toArray 31 (0, 0)) := (alloc_old (lt_of_block HKzy10.out)).trans HKzy10.out
                have HNzy11 : Hid (some (wd.heap.size) ≠ (Value.slice (some ⟨y10.heap.size, 0, none⟩) 0 0).ownBlock) := Lib.hid (fun e => by have h1 := lt_of_block HKzy10.out; simp [Value.ownBlock] at e; omega)
                refine hK.out _ _ (HSD.out _ hb) (fun hHeld => ?_)
                clear hK K
                try simp only [Act.put]
                generalize y10.alloc (.cells #[] 31) = y11 at hb ho hk hHeld ⊢
                have HBzy11 := Lib.hid hb
                have HOzy11 := Lib.hid ho
                have HKzy11 := Lib.hid hk
                clear hb ho hk
                refine wpAnyH_ready (rs := [4]) (by kernel_rfl) (by simp) ?_
                refine AllReadyH.cons rfl (fun K hK => ?_) AllReadyH.nil
                refine step_append_at (by rfl) _ _ _ (by rfl) wd.heap.size 31 i0 (.agg #[.int .i64 0, .int .i64 0, .int .i64 0, .int .i64 0, .int .i64 0, .int .i64 0, .int .i64 0]) 7 56 Tryd.underlying24 hi hz0 hz1 hz2 rfl (by decide) _ 0 [] (by rfl) HOzy11.out ⟨g, 0, none⟩ k cap (flatC lesC (D.take k)) (by rfl) (by rw [flatC_len lesC_len, List.length_take, HDL.out, Nat.min_eq_left hk]) (HNA.out _ HBzy11.out) (flatC_one lesC_one _) (by unfold maxLen; omega) (by omega) HBzy11.out.size ?_
                intro v4 y12 how hgr hloc hnn
                have HBzy12 := Lib.hid (HBzy11.out.grown hgr HBzy11.out.size (fun q hq => (HOzy11.out.lt q hq).1))
                have HOzy12 : Hid (y12.ownsRow wd.heap.size 31 7 v4 (k) (flatC lesC (D.take k))) := Lib.hid (by simpa using how)
                have HKzy12 := Lib.hid ((hgr.block _ (lt_of_block HKzy11.out) HNzy11.out).trans HKzy11.out)
                clear how hgr hloc hnn
                refine hK.out _ _ (HSD.out _ HBzy12.out) (fun hHeld => ?_)
                clear hK K
                try simp only [Act.put, List.setIfInBounds_toArray]
                refine wpAnyH_ready (rs := [10]) (by kernel_rfl) (by simp) ?_
                refine AllReadyH.cons rfl (fun K hK => ?_) AllReadyH.nil
                refine step_append_at (by rfl) _ _ _ (by rfl) wd.heap.size 31 i0 (.agg #[.int .i64 0, .int .i64 0, .int .i64 0, .int .i64 0, .int .i64 0, .int .i64 0, .int .i64 0]) 7 56 Tryd.underlying24 hi hz0 hz1 hz2 rfl (by decide) _ k (flatC lesC (D.take k)) (by rfl) HOzy12.out ⟨wd.heap.size, 0, none⟩ 1 1 (lesC x) (by rfl) (by rfl) (news_at (vs := lesC x) HKzy12.out) (lesC_one x) (by unfold maxLen; omega) (by omega) HBzy12.out.size ?_
                intro v10 y13 how hgr hloc hnn
                have HBzy13 := Lib.hid (HBzy12.out.grown hgr HBzy12.out.size (fun q hq => (HOzy12.out.lt q hq).1))
                have HOzy13 : Hid (y13.ownsRow wd.heap.size 31 7 v10 (k + 1) (flatC lesC (D.take k) ++ lesC x)) := Lib.hid how
                clear how hgr hloc hnn
                refine hK.out _ _ (HSD.out _ HBzy13.out) (fun hHeld => ?_)
                clear hK K
                try simp only [Act.put, List.setIfInBounds_toArray]
                refine wpAnyH_ready (rs := [14]) (by kernel_rfl) (by simp) ?_
                refine AllReadyH.cons rfl (fun K hK => ?_) AllReadyH.nil
                refine step_append_at (by rfl) _ _ _ (by rfl) wd.heap.size 31 i0 (.agg #[.int .i64 0, .int .i64 0, .int .i64 0, .int .i64 0, .int .i64 0, .int .i64 0, .int .i64 0]) 7 56 Tryd.underlying24 hi hz0 hz1 hz2 rfl (by decide) _ (k + 1) (flatC lesC (D.take k) ++ lesC x) (by rfl) HOzy13.out ad2 (L - k) (cap - k) (flatC lesC (D.drop k)) (by exact congrArg (fun z => Value.slice z (L - k) (cap - k)) HAD.out) (by rw [flatC_len lesC_len, List.length_drop, HDL.out]) (HNC.out _ HBzy13.out) (flatC_one lesC_one _) (by unfold maxLen; omega) (by omega) HBzy13.out.size ?_
                intro v14 y14 how hgr hloc hnn
                have HBzy14 := Lib.hid (HBzy13.out.grown hgr HBzy13.out.size (fun q hq => (HOzy13.out.lt q hq).1))
                obtain ⟨g2, c2, rfl⟩ := own_some how (by omega)
                have hkl : k + 1 + (L - k) = L + 1 := by omega
                rw [hkl] at how ⊢
                have HOzy14 : Hid (y14.ownsRow wd.heap.size 31 7 (.slice (some ⟨g2, 0, none⟩) (L + 1) c2) (L + 1) (flatC lesC (insAt D x k))) := Lib.hid (by
                  unfold insAt; rw [flatC_app]; rw [List.append_assoc] at how; exact how)
                clear how hgr hloc hnn hkl
                refine hK.out _ _ (HSD.out _ HBzy14.out) (fun hHeld => ?_)
                clear hK K
                try simp only [Act.put, List.setIfInBounds_toArray]
                refine take1 (i := 15) (v := ?v29) (some 7) rfl rfl (by kernel_rfl) (by kernel_rfl) (by kernel_rfl) (fun _ _ _ h => h) (Or.inl ⟨by rfl, ?y29⟩) (by assumption) ?r29
                case y29 => (intro w hSw; (try dsimp only at hSw); go_simp; (first | done | with_reducible rfl))
                try simp only [Act.put]
                refine wpAnyH_done (by kernel_rfl) ?_ _
                have HBf : Hid (Below w.heap.size w y14) := Lib.hid (HBD.out.trans (HBzy14.out.mono HBD.out.size))
                have HOf : Hid (y14.ownsRow w.heap.size 31 7 (.slice (some ⟨g2, 0, none⟩) (L + 1) c2) (L + 1) (flatC lesC (insAt D x k))) := Lib.hid (own_mono HOzy14.out HBD.out.size)
                have HLf : Hid ((insL D x).length = L + 1) := Lib.hid (by rw [insL_len, HDL.out])
                clear hHeld
                go_wp2_with fail
                go_roundw
                case rel => exact ⟨n + 1, g2, c2, by omega, by go_num, by rw [HYES.out, HLf.out], by rw [HYES.out, HLf.out, ← HE.out]; exact HOf.out, HBf.out⟩
                case measure => simp [intOf]; omega
            · obtain ⟨m, hm⟩ : ∃ m, k = m + 1 := ⟨k - 1, by omega⟩
              have hmD : m < D.length := by have := HDL.out; omega
              obtain ⟨y, hy⟩ : ∃ y, leD D m = y := ⟨_, rfl⟩
              have q5 : wi.cell? ⟨g, m * 7 + 5, none⟩ = some (.int .i64 y.bgn) := by
                have := (HOW.out.cellAt (m * 7 + 5) (by have := HDL.out; omega)).trans (flatC_at lesC_len D m hmD 5 (by omega))
                rw [← leD_at D m hmD, hy] at this
                exact this
              have p5 : wi.cell? ⟨b1, o1 + n * 7 + 5, none⟩ = some (.int .i64 x.bgn) := (HSS.out wi HBW.out).2.2.2.2.2.1
              have y0 : decide (0 < k) = true := decide_eq_true (by omega)
              have y1 : (0 : Int) ≤ (m : Int) := by omega
              have y2 : (m : Int) < (L : Int) := by omega
              have y3 : IntKind.i64.wrap ((k : Int) - 1) = (m : Int) := by rw [IntKind.wrap_i64]; omega
              have HM := Lib.hid hm
              have HY := Lib.hid hy
              clear hm hy hmD hk0
              by_cases hcm : x.bgn < y.bgn
              · have HJ2 : Hid (insJ D x m = insJ D x L) := Lib.hid (by
                  rw [← HJ.out, HM.out]
                  exact (insJ_go (by rw [HY.out]; exact hcm)).symm)
                have HBd : Hid (Below wo.heap.size wo wi.drew) := Lib.hid HBI.out.drew
                go_wp2_with fail
                refine wp_region_held_drew (S := (fun w' => w'.cell? ⟨g, m * 7 + 5, none⟩ = some (.int .i64 y.bgn) ∧ w'.cell? ⟨b1, o1 + n * 7 + 5, none⟩ = some (.int .i64 x.bgn))) (by kernel_rfl) (⟨q5, p5⟩) (fun hHeld => ?_)
                generalize wi.drew = wq at HBd hHeld ⊢
                refine take1 (i := 0) (v := ?v30) (some 35) rfl rfl (by kernel_rfl) (by kernel_rfl) (by kernel_rfl) (fun _ _ _ h => h) (Or.inl ⟨by rfl, ?y30⟩) (by assumption) ?r30
                case y30 => (intro w hSw; (try dsimp only at hSw); go_simp; (first | done | with_reducible rfl))
                try simp only [Act.put, List.setIfInBounds_toArray, List.set_cons_zero, List.set_cons_succ]
                refine take1 (i := 1) (v := ?v31) (some 36) rfl rfl (by kernel_rfl) (by kernel_rfl) (by kernel_rfl) (fun _ _ _ h => h) (Or.inl ⟨by rfl, ?y31⟩) (by assumption) ?r31
                case y31 => (intro w hSw; (try dsimp only at hSw); go_simp; (first | done | with_reducible rfl))
                try simp only [Act.put, List.setIfInBounds_toArray, List.set_cons_zero, List.set_cons_succ]
                refine take1 (i := 2) (v := ?v32) (some 37) rfl rfl (by kernel_rfl) (by kernel_rfl) (by kernel_rfl) (fun _ _ _ h => h) (Or.inl ⟨by rfl, ?y32⟩) (by assumption) ?r32
                case y32 => (intro w hSw; (try dsimp only at hSw); go_simp; (first | done | with_reducible rfl))
                try simp only [Act.put, List.setIfInBounds_toArray, List.set_cons_zero, List.set_cons_succ]
                refine take1 (i := 3) (v := ?v33) (some 38) rfl rfl (by kernel_rfl) (by kernel_rfl) (by kernel_rfl) (fun _ _ _ h => h) (Or.inl ⟨by rfl, ?y33⟩) (by assumption) ?r33
                case y33 => (intro w hSw; (try dsimp only at hSw); go_simp; (first | done | with_reducible rfl))
                try simp only [Act.put, List.setIfInBounds_toArray, List.set_cons_zero, List.set_cons_succ]
                refine take1 (i := 4) (v := ?v34) (some 39) rfl rfl (by kernel_rfl) (by kernel_rfl) (by kernel_rfl) (fun _ _ _ h => h) (Or.inl ⟨by rfl, ?y34⟩) (by assumption) ?r34
                case y34 => (intro w hSw; (try dsimp only at hSw); go_simp; (first | done | with_reducible rfl))
                try simp only [Act.put, List.setIfInBounds_toArray, List.set_cons_zero, List.set_cons_succ]
                refine take1 (i := 5) (v := ?v35) (some 40) rfl rfl (by kernel_rfl) (by kernel_rfl) (by kernel_rfl) (fun _ _ _ h => h) (Or.inl ⟨by rfl, ?y35⟩) (by assumption) ?r35
                case y35 => (intro w hSw; (try dsimp only at hSw); go_simp; (first | done | with_reducible rfl))
                try simp only [Act.put, List.setIfInBounds_toArray, List.set_cons_zero, List.set_cons_succ]
                refine take1 (i := 6) (v := ?v36) (some 41) rfl rfl (by kernel_rfl) (by kernel_rfl) (by kernel_rfl) (fun _ _ _ h => h) (Or.inl ⟨by rfl, ?y36⟩) (by assumption) ?r36
                case y36 => (intro w hSw; (try dsimp only at hSw); go_simp; (first | done | with_reducible rfl))
                try simp only [Act.put, List.setIfInBounds_toArray, List.set_cons_zero, List.set_cons_succ]
                refine take1 (i := 7) (v := ?v37) (some 42) rfl rfl (by kernel_rfl) (by kernel_rfl) (by kernel_rfl) (fun _ _ _ h => h) (Or.inl ⟨by rfl, ?y37⟩) (by assumption) ?r37
                case y37 => (intro w hSw; (try dsimp only at hSw); go_simp; (first | done | with_reducible rfl))
                try simp only [Act.put, List.setIfInBounds_toArray, List.set_cons_zero, List.set_cons_succ]
                refine take1 (i := 8) (v := ?v38) (some 43) rfl rfl (by kernel_rfl) (by kernel_rfl) (by kernel_rfl) (fun _ _ _ h => h) (Or.inl ⟨by rfl, ?y38⟩) (by assumption) ?r38
                case y38 => (intro w hSw; (try dsimp only at hSw); go_simp; (first | done | with_reducible rfl))
                try simp only [Act.put, List.setIfInBounds_toArray, List.set_cons_zero, List.set_cons_succ]
                refine take1 (i := 9) (v := ?v39) (some 44) rfl rfl (by kernel_rfl) (by kernel_rfl) (by kernel_rfl) (fun _ _ _ h => h) (Or.inl ⟨by rfl, ?y39⟩) (by assumption) ?r39
                case y39 => (intro w hSw; (try dsimp only at hSw); go_simp; (first | done | with_reducible rfl))
                try simp only [Act.put, List.setIfInBounds_toArray, List.set_cons_zero, List.set_cons_succ]
                refine take1 (i := 10) (v := ?v40) (some 45) rfl rfl (by kernel_rfl) (by kernel_rfl) (by kernel_rfl) (fun _ _ _ h => h) (Or.inl ⟨by rfl, ?y40⟩) (by assumption) ?r40
                case y40 => (intro w hSw; (try dsimp only at hSw); go_simp; (first | done | with_reducible rfl))
                try simp only [Act.put, List.setIfInBounds_toArray, List.set_cons_zero, List.set_cons_succ]
                refine take1 (i := 11) (v := ?v41) (some 46) rfl rfl (by kernel_rfl) (by kernel_rfl) (by kernel_rfl) (fun _ _ _ h => h) (Or.inl ⟨by rfl, ?y41⟩) (by assumption) ?r41
                case y41 => (intro w hSw; (try dsimp only at hSw); go_simp; (first | done | with_reducible rfl))
                try simp only [Act.put, List.setIfInBounds_toArray, List.set_cons_zero, List.set_cons_succ]
                refine take1 (i := 12) (v := ?v42) (some 47) rfl rfl (by kernel_rfl) (by kernel_rfl) (by kernel_rfl) (fun _ _ _ h => h) (Or.inl ⟨by rfl, ?y42⟩) (by assumption) ?r42
                case y42 => (intro w hSw; (try dsimp only at hSw); go_simp; (first | done | with_reducible rfl))
                try simp only [Act.put, List.setIfInBounds_toArray, List.set_cons_zero, List.set_cons_succ]
                refine take1 (i := 13) (v := ?v43) (some 48) rfl rfl (by kernel_rfl) (by kernel_rfl) (by kernel_rfl) (fun _ _ _ h => h) (Or.inl ⟨by rfl, ?y43⟩) (by assumption) ?r43
                case y43 => (intro w hSw; (try dsimp only at hSw); go_simp; (first | done | with_reducible rfl))
                try simp only [Act.put, List.setIfInBounds_toArray, List.set_cons_zero, List.set_cons_succ]
                refine take1 (i := 14) (v := ?v44) (some 49) rfl rfl (by kernel_rfl) (by kernel_rfl) (by kernel_rfl) (fun _ _ _ h => h) (Or.inl ⟨by rfl, ?y44⟩) (by assumption) ?r44
                case y44 => (intro w hSw; (try dsimp only at hSw); go_simp; (first | done | with_reducible rfl))
                try simp only [Act.put, List.setIfInBounds_toArray, List.set_cons_zero, List.set_cons_succ]
                refine take1 (i := 15) (v := ?v45) (some 50) rfl rfl (by kernel_rfl) (by kernel_rfl) (by kernel_rfl) (fun _ _ _ h => h) (Or.inl ⟨by rfl, ?y45⟩) (by assumption) ?r45
                case y45 => (intro w hSw; (try dsimp only at hSw); go_simp; (first | done | with_reducible rfl))
                try simp only [Act.put, List.setIfInBounds_toArray, List.set_cons_zero, List.set_cons_succ]
                refine wpAnyH_done (by kernel_rfl) ?_ _
                clear hHeld q5 p5
                go_wp2_with fail
                go_roundw
                case rel => exact ⟨m, by have := HM.out; omega, by go_num, HJ2.out, HBd.out⟩
                case measure => have := HM.out; simp [intOf]; omega
              · have HE : Hid (insAt D x k = insL D x) := Lib.hid (by
                  unfold insL; rw [HDL.out, ← HJ.out, HM.out]
                  rw [insJ_stop (by rw [HY.out]; exact hcm)])
                go_wp2_with fail
                refine wp_region_held_drew (S := (fun w' => w'.cell? ⟨g, m * 7 + 5, none⟩ = some (.int .i64 y.bgn) ∧ w'.cell? ⟨b1, o1 + n * 7 + 5, none⟩ = some (.int .i64 x.bgn))) (by kernel_rfl) (⟨q5, p5⟩) (fun hHeld => ?_)
                have hbq := HBW.out.drew
                have hoq := HOW.out.drew
                generalize wi.drew = wq at hbq hoq hHeld ⊢
                clear HBW HOW q5 p5
                have HBW := Lib.hid hbq
                have HOW := Lib.hid hoq
                clear hbq hoq
                refine take1 (i := 0) (v := ?v46) (some 35) rfl rfl (by kernel_rfl) (by kernel_rfl) (by kernel_rfl) (fun _ _ _ h => h) (Or.inl ⟨by rfl, ?y46⟩) (by assumption) ?r46
                case y46 => (intro w hSw; (try dsimp only at hSw); go_simp; (first | done | with_reducible rfl))
                try simp only [Act.put, List.setIfInBounds_toArray, List.set_cons_zero, List.set_cons_succ]
                refine take1 (i := 1) (v := ?v47) (some 36) rfl rfl (by kernel_rfl) (by kernel_rfl) (by kernel_rfl) (fun _ _ _ h => h) (Or.inl ⟨by rfl, ?y47⟩) (by assumption) ?r47
                case y47 => (intro w hSw; (try dsimp only at hSw); go_simp; (first | done | with_reducible rfl))
                try simp only [Act.put, List.setIfInBounds_toArray, List.set_cons_zero, List.set_cons_succ]
                refine take1 (i := 2) (v := ?v48) (some 37) rfl rfl (by kernel_rfl) (by kernel_rfl) (by kernel_rfl) (fun _ _ _ h => h) (Or.inl ⟨by rfl, ?y48⟩) (by assumption) ?r48
                case y48 => (intro w hSw; (try dsimp only at hSw); go_simp; (first | done | with_reducible rfl))
                try simp only [Act.put, List.setIfInBounds_toArray, List.set_cons_zero, List.set_cons_succ]
                refine take1 (i := 3) (v := ?v49) (some 38) rfl rfl (by kernel_rfl) (by kernel_rfl) (by kernel_rfl) (fun _ _ _ h => h) (Or.inl ⟨by rfl, ?y49⟩) (by assumption) ?r49
                case y49 => (intro w hSw; (try dsimp only at hSw); go_simp; (first | done | with_reducible rfl))
                try simp only [Act.put, List.setIfInBounds_toArray, List.set_cons_zero, List.set_cons_succ]
                refine take1 (i := 4) (v := ?v50) (some 39) rfl rfl (by kernel_rfl) (by kernel_rfl) (by kernel_rfl) (fun _ _ _ h => h) (Or.inl ⟨by rfl, ?y50⟩) (by assumption) ?r50
                case y50 => (intro w hSw; (try dsimp only at hSw); go_simp; (first | done | with_reducible rfl))
                try simp only [Act.put, List.setIfInBounds_toArray, List.set_cons_zero, List.set_cons_succ]
                refine take1 (i := 5) (v := ?v51) (some 40) rfl rfl (by kernel_rfl) (by kernel_rfl) (by kernel_rfl) (fun _ _ _ h => h) (Or.inl ⟨by rfl, ?y51⟩) (by assumption) ?r51
                case y51 => (intro w hSw; (try dsimp only at hSw); go_simp; (first | done | with_reducible rfl))
                try simp only [Act.put, List.setIfInBounds_toArray, List.set_cons_zero, List.set_cons_succ]
                refine take1 (i := 6) (v := ?v52) (some 41) rfl rfl (by kernel_rfl) (by kernel_rfl) (by kernel_rfl) (fun _ _ _ h => h) (Or.inl ⟨by rfl, ?y52⟩) (by assumption) ?r52
                case y52 => (intro w hSw; (try dsimp only at hSw); go_simp; (first | done | with_reducible rfl))
                try simp only [Act.put, List.setIfInBounds_toArray, List.set_cons_zero, List.set_cons_succ]
                refine take1 (i := 7) (v := ?v53) (some 42) rfl rfl (by kernel_rfl) (by kernel_rfl) (by kernel_rfl) (fun _ _ _ h => h) (Or.inl ⟨by rfl, ?y53⟩) (by assumption) ?r53
                case y53 => (intro w hSw; (try dsimp only at hSw); go_simp; (first | done | with_reducible rfl))
                try simp only [Act.put, List.setIfInBounds_toArray, List.set_cons_zero, List.set_cons_succ]
                refine take1 (i := 8) (v := ?v54) (some 43) rfl rfl (by kernel_rfl) (by kernel_rfl) (by kernel_rfl) (fun _ _ _ h => h) (Or.inl ⟨by rfl, ?y54⟩) (by assumption) ?r54
                case y54 => (intro w hSw; (try dsimp only at hSw); go_simp; (first | done | with_reducible rfl))
                try simp only [Act.put, List.setIfInBounds_toArray, List.set_cons_zero, List.set_cons_succ]
                refine take1 (i := 9) (v := ?v55) (some 44) rfl rfl (by kernel_rfl) (by kernel_rfl) (by kernel_rfl) (fun _ _ _ h => h) (Or.inl ⟨by rfl, ?y55⟩) (by assumption) ?r55
                case y55 => (intro w hSw; (try dsimp only at hSw); go_simp; (first | done | with_reducible rfl))
                try simp only [Act.put, List.setIfInBounds_toArray, List.set_cons_zero, List.set_cons_succ]
                refine take1 (i := 10) (v := ?v56) (some 45) rfl rfl (by kernel_rfl) (by kernel_rfl) (by kernel_rfl) (fun _ _ _ h => h) (Or.inl ⟨by rfl, ?y56⟩) (by assumption) ?r56
                case y56 => (intro w hSw; (try dsimp only at hSw); go_simp; (first | done | with_reducible rfl))
                try simp only [Act.put, List.setIfInBounds_toArray, List.set_cons_zero, List.set_cons_succ]
                refine take1 (i := 11) (v := ?v57) (some 46) rfl rfl (by kernel_rfl) (by kernel_rfl) (by kernel_rfl) (fun _ _ _ h => h) (Or.inl ⟨by rfl, ?y57⟩) (by assumption) ?r57
                case y57 => (intro w hSw; (try dsimp only at hSw); go_simp; (first | done | with_reducible rfl))
                try simp only [Act.put, List.setIfInBounds_toArray, List.set_cons_zero, List.set_cons_succ]
                refine take1 (i := 12) (v := ?v58) (some 47) rfl rfl (by kernel_rfl) (by kernel_rfl) (by kernel_rfl) (fun _ _ _ h => h) (Or.inl ⟨by rfl, ?y58⟩) (by assumption) ?r58
                case y58 => (intro w hSw; (try dsimp only at hSw); go_simp; (first | done | with_reducible rfl))
                try simp only [Act.put, List.setIfInBounds_toArray, List.set_cons_zero, List.set_cons_succ]
                refine take1 (i := 13) (v := ?v59) (some 48) rfl rfl (by kernel_rfl) (by kernel_rfl) (by kernel_rfl) (fun _ _ _ h => h) (Or.inl ⟨by rfl, ?y59⟩) (by assumption) ?r59
                case y59 => (intro w hSw; (try dsimp only at hSw); go_simp; (first | done | with_reducible rfl))
                try simp only [Act.put, List.setIfInBounds_toArray, List.set_cons_zero, List.set_cons_succ]
                refine take1 (i := 14) (v := ?v60) (some 49) rfl rfl (by kernel_rfl) (by kernel_rfl) (by kernel_rfl) (fun _ _ _ h => h) (Or.inl ⟨by rfl, ?y60⟩) (by assumption) ?r60
                case y60 => (intro w hSw; (try dsimp only at hSw); go_simp; (first | done | with_reducible rfl))
                try simp only [Act.put, List.setIfInBounds_toArray, List.set_cons_zero, List.set_cons_succ]
                refine take1 (i := 15) (v := ?v61) (some 50) rfl rfl (by kernel_rfl) (by kernel_rfl) (by kernel_rfl) (fun _ _ _ h => h) (Or.inl ⟨by rfl, ?y61⟩) (by assumption) ?r61
                case y61 => (intro w hSw; (try dsimp only at hSw); go_simp; (first | done | with_reducible rfl))
                try simp only [Act.put, List.setIfInBounds_toArray, List.set_cons_zero, List.set_cons_succ]
                refine wpAnyH_done (by kernel_rfl) ?_ _
                clear hHeld y1 y2 y3 y0
                go_wp2_with fail
                clear hcm
                have hkc : k ≤ cap := by omega
                obtain ⟨ad2, had2⟩ : ∃ ad2, (if cap = k then some (⟨g, 0, none⟩ : Addr) else some ⟨g, k * 7, none⟩) = some ad2 := by split <;> exact ⟨_, rfl⟩
                have HAD := Lib.hid had2
                clear had2
                refine wp_region_held_drew (S := (fun w' => w'.cell? ⟨b1, o1 + n * 7, none⟩ = some (.int .i64 x.id) ∧ w'.cell? ⟨b1, o1 + n * 7 + 1, none⟩ = some (.int .i64 x.cls) ∧ w'.cell? ⟨b1, o1 + n * 7 + 2, none⟩ = some (.int .i64 x.tch) ∧ w'.cell? ⟨b1, o1 + n * 7 + 3, none⟩ = some (.int .i64 x.room) ∧ w'.cell? ⟨b1, o1 + n * 7 + 4, none⟩ = some (.int .i64 x.day) ∧ w'.cell? ⟨b1, o1 + n * 7 + 5, none⟩ = some (.int .i64 x.bgn) ∧ w'.cell? ⟨b1, o1 + n * 7 + 6, none⟩ = some (.int .i64 x.mins))) (by kernel_rfl) (HSS.out _ HBW.out.drew) (fun hHeld => ?_)
                have hbd := HBW.out.drew
                have hod := HOW.out.drew
                generalize wq.drew = wd at hbd hod hHeld ⊢
                have HBD := Lib.hid hbd
                have HOD := Lib.hid hod
                have hgd : g < wd.heap.size := (hod.lt g rfl).2
                have HSD : Hid (∀ W', Below wd.heap.size wd W' → (fun w' : World => w'.cell? ⟨b1, o1 + n * 7, none⟩ = some (.int .i64 x.id) ∧ w'.cell? ⟨b1, o1 + n * 7 + 1, none⟩ = some (.int .i64 x.cls) ∧ w'.cell? ⟨b1, o1 + n * 7 + 2, none⟩ = some (.int .i64 x.tch) ∧ w'.cell? ⟨b1, o1 + n * 7 + 3, none⟩ = some (.int .i64 x.room) ∧ w'.cell? ⟨b1, o1 + n * 7 + 4, none⟩ = some (.int .i64 x.day) ∧ w'.cell? ⟨b1, o1 + n * 7 + 5, none⟩ = some (.int .i64 x.bgn) ∧ w'.cell? ⟨b1, o1 + n * 7 + 6, none⟩ = some (.int .i64 x.mins)) W') := Lib.hid (fun W' h => HSS.out _ (HBD.out.trans (h.mono HBD.out.size)))
                have HNA : Hid (∀ W', Below wd.heap.size wd W' → ∀ j u, (flatC lesC (D.take k))[j]? = some u → W'.cell? ((⟨g, 0, none⟩ : Addr).add j) = some u) := Lib.hid (fun W' h j u hu => by
                  rw [add_off2, Nat.zero_add]
                  exact (h.cell (p := ⟨g, j, none⟩) hgd).trans (take_cells lesC_len HOD.out HDL.out j u hu))
                have HNC : Hid (∀ W', Below wd.heap.size wd W' → ∀ j u, (flatC lesC (D.drop k))[j]? = some u → W'.cell? (ad2.add j) = some u) := Lib.hid (fun W' h j u hu => by
                  have had := HAD.out
                  by_cases hck : cap = k
                  · rw [List.drop_of_length_le (by have := HDL.out; omega)] at hu
                    simp [flatC] at hu
                  · rw [if_neg hck] at had
                    injection had with had
                    subst had
                    rw [add_off2]
                    exact (h.cell (p := ⟨g, k * 7 + j, none⟩) hgd).trans (drop_addr lesC_len HOD.out HDL.out j u hu))
                have HBzwd : Hid (Below wd.heap.size wd wd) := Lib.hid (Below.refl _ _)
                clear hbd hod hgd
                refine take1 (i := 1) (v := ?v62) (some 54) rfl rfl (by kernel_rfl) (by kernel_rfl) (by kernel_rfl) (fun _ _ _ h => h) (Or.inl ⟨by rfl, ?y62⟩) (by assumption) ?r62
                case y62 => (intro w hSw; (try dsimp only at hSw); go_simp; (first | done | with_reducible rfl))
                try simp only [Act.put, List.setIfInBounds_toArray, List.set_cons_zero, List.set_cons_succ]
                refine take1 (i := 2) (v := ?v63) (some 55) rfl rfl (by kernel_rfl) (by kernel_rfl) (by kernel_rfl) (fun _ _ _ h => h) (Or.inl ⟨by rfl, ?y63⟩) (by assumption) ?r63
                case y63 => (intro w hSw; (try dsimp only at hSw); go_simp; (first | done | with_reducible rfl))
                try simp only [Act.put, List.setIfInBounds_toArray, List.set_cons_zero, List.set_cons_succ]
                refine take1 (i := 3) (v := ?v64) (some 56) rfl rfl (by kernel_rfl) (by kernel_rfl) (by kernel_rfl) (fun _ _ _ h => h) (Or.inl ⟨by rfl, ?y64⟩) (by assumption) ?r64
                case y64 => (intro w hSw; (try dsimp only at hSw); go_simp; (first | done | with_reducible rfl))
                try simp only [Act.put, List.setIfInBounds_toArray, List.set_cons_zero, List.set_cons_succ]
                refine take1 (i := 5) (v := ?v65) (some 58) rfl rfl (by kernel_rfl) (by kernel_rfl) (by kernel_rfl) (fun _ _ _ h => h) (Or.inl ⟨by rfl, ?y65⟩) (by assumption) ?r65
                case y65 => (intro w hSw; (try dsimp only at hSw); go_simp; (first | done | with_reducible rfl))
                try simp only [Act.put, List.setIfInBounds_toArray, List.set_cons_zero, List.set_cons_succ]
                refine take1 (i := 6) (v := ?v66) (some 59) rfl rfl (by kernel_rfl) (by kernel_rfl) (by kernel_rfl) (fun _ _ _ h => h) (Or.inl ⟨by rfl, ?y66⟩) (by assumption) ?r66
                case y66 => (intro w hSw; (try dsimp only at hSw); go_simp; (first | done | with_reducible rfl))
                try simp only [Act.put, List.setIfInBounds_toArray, List.set_cons_zero, List.set_cons_succ]
                refine take1 (i := 7) (v := ?v67) (some 60) rfl rfl (by kernel_rfl) (by kernel_rfl) (by kernel_rfl) (fun _ _ _ h => h) (Or.inl ⟨by rfl, ?y67⟩) (by assumption) ?r67
                case y67 => (intro w hSw; (try dsimp only at hSw); go_simp; (first | done | with_reducible rfl))
                try simp only [Act.put, List.setIfInBounds_toArray, List.set_cons_zero, List.set_cons_succ]
                refine take1 (i := 8) (v := ?v68) (some 61) rfl rfl (by kernel_rfl) (by kernel_rfl) (by kernel_rfl) (fun _ _ _ h => h) (Or.inl ⟨by rfl, ?y68⟩) (by assumption) ?r68
                case y68 => (intro w hSw; (try dsimp only at hSw); go_simp; (first | done | with_reducible rfl))
                try simp only [Act.put, List.setIfInBounds_toArray, List.set_cons_zero, List.set_cons_succ]
                refine take1 (i := 11) (v := ?v69) (some 64) rfl rfl (by kernel_rfl) (by kernel_rfl) (by kernel_rfl) (fun _ _ _ h => h) (Or.inl ⟨by rfl, ?y69⟩) (by assumption) ?r69
                case y69 => (intro w hSw; (try dsimp only at hSw); go_simp; (first | done | with_reducible rfl))
                try simp only [Act.put, List.setIfInBounds_toArray, List.set_cons_zero, List.set_cons_succ]
                refine take1 (i := 12) (v := ?v70) (some 65) rfl rfl (by kernel_rfl) (by kernel_rfl) (by kernel_rfl) (fun _ _ _ h => h) (Or.inl ⟨by rfl, ?y70⟩) (by assumption) ?r70
                case y70 => (intro w hSw; (try dsimp only at hSw); go_simp; (first | done | with_reducible rfl))
                try simp only [Act.put, List.setIfInBounds_toArray, List.set_cons_zero, List.set_cons_succ]
                refine take1 (i := 13) (v := ?v71) (some 66) rfl rfl (by kernel_rfl) (by kernel_rfl) (by kernel_rfl) (fun _ _ _ h => h) (Or.inl ⟨by rfl, ?y71⟩) (by assumption) ?r71
                case y71 => (intro w hSw; (try dsimp only at hSw); go_simp; (first | done | with_reducible rfl))
                try simp only [Act.put, List.setIfInBounds_toArray, List.set_cons_zero, List.set_cons_succ]
                refine wpAnyH_ready (rs := [0, 9]) (by kernel_rfl) (by simp) ?_
                refine AllReadyH.cons rfl (fun K hK => ?_) (AllReadyH.cons rfl (fun K hK => ?_) AllReadyH.nil)
                · skip
                  go_simp
                  have hb : Below wd.heap.size wd (wd.alloc (.cells #[] 31)) := HBzwd.out.alloc HBzwd.out.size _
                  have ho : (wd.alloc (.cells #[] 31)).ownsRow wd.heap.size 31 7 (.slice (some ⟨wd.heap.size, 0, none⟩) 0 0) (0) ([]) := World.ownsRow_made wd #[] 0 HBzwd.out.size (Nat.zero_le _) (by simp)
                  refine hK.out _ _ (HSD.out _ hb) (fun hHeld => ?_)
                  clear hK K
                  try simp only [Act.put]
                  generalize wd.alloc (.cells #[] 31) = y15 at hb ho hHeld ⊢
                  have HBzy15 := Lib.hid hb
                  have HOzy15 := Lib.hid ho
                  clear hb ho
                  refine wpAnyH_ready (rs := [4, 9]) (by kernel_rfl) (by simp) ?_
                  refine AllReadyH.cons rfl (fun K hK => ?_) (AllReadyH.cons rfl (fun K hK => ?_) AllReadyH.nil)
                  · skip
                    refine step_append_at (by rfl) _ _ _ (by rfl) wd.heap.size 31 i0 (.agg #[.int .i64 0, .int .i64 0, .int .i64 0, .int .i64 0, .int .i64 0, .int .i64 0, .int .i64 0]) 7 56 Tryd.underlying24 hi hz0 hz1 hz2 rfl (by decide) _ 0 [] (by rfl) HOzy15.out ⟨g, 0, none⟩ k cap (flatC lesC (D.take k)) (by rfl) (by rw [flatC_len lesC_len, List.length_take, HDL.out, Nat.min_eq_left hk]) (HNA.out _ HBzy15.out) (flatC_one lesC_one _) (by unfold maxLen; omega) (by omega) HBzy15.out.size ?_
                    intro v4 y16 how hgr hloc hnn
                    have HBzy16 := Lib.hid (HBzy15.out.grown hgr HBzy15.out.size (fun q hq => (HOzy15.out.lt q hq).1))
                    have HOzy16 : Hid (y16.ownsRow wd.heap.size 31 7 v4 (k) (flatC lesC (D.take k))) := Lib.hid (by simpa using how)
                    clear how hgr hloc hnn
                    refine hK.out _ _ (HSD.out _ HBzy16.out) (fun hHeld => ?_)
                    clear hK K
                    try simp only [Act.put, List.setIfInBounds_toArray]
                    refine wpAnyH_ready (rs := [9]) (by kernel_rfl) (by simp) ?_
                    refine AllReadyH.cons rfl (fun K hK => ?_) AllReadyH.nil
                    go_simp
                    have hb : Below wd.heap.size wd (y16.alloc (.cells #[.int .i64 x.id, .int .i64 x.cls, .int .i64 x.tch, .int .i64 x.room, .int .i64 x.day, .int .i64 x.bgn, .int .i64 x.mins] 31)) := HBzy16.out.alloc HBzy16.out.size _
                    have hk : (y16.alloc (.cells #[.int .i64 x.id, .int .i64 x.cls, .int .i64 x.tch, .int .i64 x.room, .int .i64 x.day, .int .i64 x.bgn, .int .i64 x.mins] 31)).heap[y16.heap.size]? = some (.cells (lesC x).toArray 31 (0, 0)) := alloc_at rfl
                    have ho := HOzy16.out.alloc (.cells #[.int .i64 x.id, .int .i64 x.cls, .int .i64 x.tch, .int .i64 x.room, .int .i64 x.day, .int .i64 x.bgn, .int .i64 x.mins] 31)
                    refine hK.out _ _ (HSD.out _ hb) (fun hHeld => ?_)
                    clear hK K
                    try simp only [Act.put]
                    generalize y16.alloc (.cells #[.int .i64 x.id, .int .i64 x.cls, .int .i64 x.tch, .int .i64 x.room, .int .i64 x.day, .int .i64 x.bgn, .int .i64 x.mins] 31) = y17 at hb hk ho hHeld ⊢
                    have HBzy17 := Lib.hid hb
                    have HKzy17 := Lib.hid hk
                    have HOzy17 := Lib.hid ho
                    clear hb hk ho
                    refine wpAnyH_ready (rs := [10]) (by kernel_rfl) (by simp) ?_
                    refine AllReadyH.cons rfl (fun K hK => ?_) AllReadyH.nil
                    refine step_append_at (by rfl) _ _ _ (by rfl) wd.heap.size 31 i0 (.agg #[.int .i64 0, .int .i64 0, .int .i64 0, .int .i64 0, .int .i64 0, .int .i64 0, .int .i64 0]) 7 56 Tryd.underlying24 hi hz0 hz1 hz2 rfl (by decide) _ k (flatC lesC (D.take k)) (by rfl) HOzy17.out ⟨y16.heap.size, 0, none⟩ 1 1 (lesC x) (by rfl) (by rfl) (news_at (vs := lesC x) HKzy17.out) (lesC_one x) (by unfold maxLen; omega) (by omega) HBzy17.out.size ?_
                    intro v10 y18 how hgr hloc hnn
                    have HBzy18 := Lib.hid (HBzy17.out.grown hgr HBzy17.out.size (fun q hq => (HOzy17.out.lt q hq).1))
                    have HOzy18 : Hid (y18.ownsRow wd.heap.size 31 7 v10 (k + 1) (flatC lesC (D.take k) ++ lesC x)) := Lib.hid how
                    clear how hgr hloc hnn
                    refine hK.out _ _ (HSD.out _ HBzy18.out) (fun hHeld => ?_)
                    clear hK K
                    try simp only [Act.put, List.setIfInBounds_toArray]
                    refine wpAnyH_ready (rs := [14]) (by kernel_rfl) (by simp) ?_
                    refine AllReadyH.cons rfl (fun K hK => ?_) AllReadyH.nil
                    refine step_append_at (by rfl) _ _ _ (by rfl) wd.heap.size 31 i0 (.agg #[.int .i64 0, .int .i64 0, .int .i64 0, .int .i64 0, .int .i64 0, .int .i64 0, .int .i64 0]) 7 56 Tryd.underlying24 hi hz0 hz1 hz2 rfl (by decide) _ (k + 1) (flatC lesC (D.take k) ++ lesC x) (by rfl) HOzy18.out ad2 (L - k) (cap - k) (flatC lesC (D.drop k)) (by exact congrArg (fun z => Value.slice z (L - k) (cap - k)) HAD.out) (by rw [flatC_len lesC_len, List.length_drop, HDL.out]) (HNC.out _ HBzy18.out) (flatC_one lesC_one _) (by unfold maxLen; omega) (by omega) HBzy18.out.size ?_
                    intro v14 y19 how hgr hloc hnn
                    have HBzy19 := Lib.hid (HBzy18.out.grown hgr HBzy18.out.size (fun q hq => (HOzy18.out.lt q hq).1))
                    obtain ⟨g2, c2, rfl⟩ := own_some how (by omega)
                    have hkl : k + 1 + (L - k) = L + 1 := by omega
                    rw [hkl] at how ⊢
                    have HOzy19 : Hid (y19.ownsRow wd.heap.size 31 7 (.slice (some ⟨g2, 0, none⟩) (L + 1) c2) (L + 1) (flatC lesC (insAt D x k))) := Lib.hid (by
                      unfold insAt; rw [flatC_app]; rw [List.append_assoc] at how; exact how)
                    clear how hgr hloc hnn hkl
                    refine hK.out _ _ (HSD.out _ HBzy19.out) (fun hHeld => ?_)
                    clear hK K
                    try simp only [Act.put, List.setIfInBounds_toArray]
                    refine take1 (i := 15) (v := ?v72) (some 7) rfl rfl (by kernel_rfl) (by kernel_rfl) (by kernel_rfl) (fun _ _ _ h => h) (Or.inl ⟨by rfl, ?y72⟩) (by assumption) ?r72
                    case y72 => (intro w hSw; (try dsimp only at hSw); go_simp; (first | done | with_reducible rfl))
                    try simp only [Act.put]
                    refine wpAnyH_done (by kernel_rfl) ?_ _
                    have HBf : Hid (Below w.heap.size w y19) := Lib.hid (HBD.out.trans (HBzy19.out.mono HBD.out.size))
                    have HOf : Hid (y19.ownsRow w.heap.size 31 7 (.slice (some ⟨g2, 0, none⟩) (L + 1) c2) (L + 1) (flatC lesC (insAt D x k))) := Lib.hid (own_mono HOzy19.out HBD.out.size)
                    have HLf : Hid ((insL D x).length = L + 1) := Lib.hid (by rw [insL_len, HDL.out])
                    clear hHeld
                    go_wp2_with fail
                    go_roundw
                    case rel => exact ⟨n + 1, g2, c2, by omega, by go_num, by rw [HYES.out, HLf.out], by rw [HYES.out, HLf.out, ← HE.out]; exact HOf.out, HBf.out⟩
                    case measure => simp [intOf]; omega
                  · skip
                    go_simp
                    have hb : Below wd.heap.size wd (y15.alloc (.cells #[.int .i64 x.id, .int .i64 x.cls, .int .i64 x.tch, .int .i64 x.room, .int .i64 x.day, .int .i64 x.bgn, .int .i64 x.mins] 31)) := HBzy15.out.alloc HBzy15.out.size _
                    have hk : (y15.alloc (.cells #[.int .i64 x.id, .int .i64 x.cls, .int .i64 x.tch, .int .i64 x.room, .int .i64 x.day, .int .i64 x.bgn, .int .i64 x.mins] 31)).heap[y15.heap.size]? = some (.cells (lesC x).toArray 31 (0, 0)) := alloc_at rfl
                    have ho := HOzy15.out.alloc (.cells #[.int .i64 x.id, .int .i64 x.cls, .int .i64 x.tch, .int .i64 x.room, .int .i64 x.day, .int .i64 x.bgn, .int .i64 x.mins] 31)
                    have HNzy20 : Hid (some y15.heap.size ≠ (Value.slice (some ⟨wd.heap.size, 0, none⟩) 0 0).ownBlock) := Lib.hid (fun e => absurd (HOzy15.out.lt _ e.symm).2 (Nat.lt_irrefl _))
                    refine hK.out _ _ (HSD.out _ hb) (fun hHeld => ?_)
                    clear hK K
                    try simp only [Act.put]
                    generalize y15.alloc (.cells #[.int .i64 x.id, .int .i64 x.cls, .int .i64 x.tch, .int .i64 x.room, .int .i64 x.day, .int .i64 x.bgn, .int .i64 x.mins] 31) = y20 at hb hk ho hHeld ⊢
                    have HBzy20 := Lib.hid hb
                    have HKzy20 := Lib.hid hk
                    have HOzy20 := Lib.hid ho
                    clear hb hk ho
                    refine wpAnyH_ready (rs := [4]) (by kernel_rfl) (by simp) ?_
                    refine AllReadyH.cons rfl (fun K hK => ?_) AllReadyH.nil
                    refine step_append_at (by rfl) _ _ _ (by rfl) wd.heap.size 31 i0 (.agg #[.int .i64 0, .int .i64 0, .int .i64 0, .int .i64 0, .int .i64 0, .int .i64 0, .int .i64 0]) 7 56 Tryd.underlying24 hi hz0 hz1 hz2 rfl (by decide) _ 0 [] (by rfl) HOzy20.out ⟨g, 0, none⟩ k cap (flatC lesC (D.take k)) (by rfl) (by rw [flatC_len lesC_len, List.length_take, HDL.out, Nat.min_eq_left hk]) (HNA.out _ HBzy20.out) (flatC_one lesC_one _) (by unfold maxLen; omega) (by omega) HBzy20.out.size ?_
                    intro v4 y21 how hgr hloc hnn
                    have HBzy21 := Lib.hid (HBzy20.out.grown hgr HBzy20.out.size (fun q hq => (HOzy20.out.lt q hq).1))
                    have HOzy21 : Hid (y21.ownsRow wd.heap.size 31 7 v4 (k) (flatC lesC (D.take k))) := Lib.hid (by simpa using how)
                    have HKzy21 := Lib.hid ((hgr.block _ (lt_of_block HKzy20.out) HNzy20.out).trans HKzy20.out)
                    clear how hgr hloc hnn
                    refine hK.out _ _ (HSD.out _ HBzy21.out) (fun hHeld => ?_)
                    clear hK K
                    try simp only [Act.put, List.setIfInBounds_toArray]
                    refine wpAnyH_ready (rs := [10]) (by kernel_rfl) (by simp) ?_
                    refine AllReadyH.cons rfl (fun K hK => ?_) AllReadyH.nil
                    refine step_append_at (by rfl) _ _ _ (by rfl) wd.heap.size 31 i0 (.agg #[.int .i64 0, .int .i64 0, .int .i64 0, .int .i64 0, .int .i64 0, .int .i64 0, .int .i64 0]) 7 56 Tryd.underlying24 hi hz0 hz1 hz2 rfl (by decide) _ k (flatC lesC (D.take k)) (by rfl) HOzy21.out ⟨y15.heap.size, 0, none⟩ 1 1 (lesC x) (by rfl) (by rfl) (news_at (vs := lesC x) HKzy21.out) (lesC_one x) (by unfold maxLen; omega) (by omega) HBzy21.out.size ?_
                    intro v10 y22 how hgr hloc hnn
                    have HBzy22 := Lib.hid (HBzy21.out.grown hgr HBzy21.out.size (fun q hq => (HOzy21.out.lt q hq).1))
                    have HOzy22 : Hid (y22.ownsRow wd.heap.size 31 7 v10 (k + 1) (flatC lesC (D.take k) ++ lesC x)) := Lib.hid how
                    clear how hgr hloc hnn
                    refine hK.out _ _ (HSD.out _ HBzy22.out) (fun hHeld => ?_)
                    clear hK K
                    try simp only [Act.put, List.setIfInBounds_toArray]
                    refine wpAnyH_ready (rs := [14]) (by kernel_rfl) (by simp) ?_
                    refine AllReadyH.cons rfl (fun K hK => ?_) AllReadyH.nil
                    refine step_append_at (by rfl) _ _ _ (by rfl) wd.heap.size 31 i0 (.agg #[.int .i64 0, .int .i64 0, .int .i64 0, .int .i64 0, .int .i64 0, .int .i64 0, .int .i64 0]) 7 56 Tryd.underlying24 hi hz0 hz1 hz2 rfl (by decide) _ (k + 1) (flatC lesC (D.take k) ++ lesC x) (by rfl) HOzy22.out ad2 (L - k) (cap - k) (flatC lesC (D.drop k)) (by exact congrArg (fun z => Value.slice z (L - k) (cap - k)) HAD.out) (by rw [flatC_len lesC_len, List.length_drop, HDL.out]) (HNC.out _ HBzy22.out) (flatC_one lesC_one _) (by unfold maxLen; omega) (by omega) HBzy22.out.size ?_
                    intro v14 y23 how hgr hloc hnn
                    have HBzy23 := Lib.hid (HBzy22.out.grown hgr HBzy22.out.size (fun q hq => (HOzy22.out.lt q hq).1))
                    obtain ⟨g2, c2, rfl⟩ := own_some how (by omega)
                    have hkl : k + 1 + (L - k) = L + 1 := by omega
                    rw [hkl] at how ⊢
                    have HOzy23 : Hid (y23.ownsRow wd.heap.size 31 7 (.slice (some ⟨g2, 0, none⟩) (L + 1) c2) (L + 1) (flatC lesC (insAt D x k))) := Lib.hid (by
                      unfold insAt; rw [flatC_app]; rw [List.append_assoc] at how; exact how)
                    clear how hgr hloc hnn hkl
                    refine hK.out _ _ (HSD.out _ HBzy23.out) (fun hHeld => ?_)
                    clear hK K
                    try simp only [Act.put, List.setIfInBounds_toArray]
                    refine take1 (i := 15) (v := ?v73) (some 7) rfl rfl (by kernel_rfl) (by kernel_rfl) (by kernel_rfl) (fun _ _ _ h => h) (Or.inl ⟨by rfl, ?y73⟩) (by assumption) ?r73
                    case y73 => (intro w hSw; (try dsimp only at hSw); go_simp; (first | done | with_reducible rfl))
                    try simp only [Act.put]
                    refine wpAnyH_done (by kernel_rfl) ?_ _
                    have HBf : Hid (Below w.heap.size w y23) := Lib.hid (HBD.out.trans (HBzy23.out.mono HBD.out.size))
                    have HOf : Hid (y23.ownsRow w.heap.size 31 7 (.slice (some ⟨g2, 0, none⟩) (L + 1) c2) (L + 1) (flatC lesC (insAt D x k))) := Lib.hid (own_mono HOzy23.out HBD.out.size)
                    have HLf : Hid ((insL D x).length = L + 1) := Lib.hid (by rw [insL_len, HDL.out])
                    clear hHeld
                    go_wp2_with fail
                    go_roundw
                    case rel => exact ⟨n + 1, g2, c2, by omega, by go_num, by rw [HYES.out, HLf.out], by rw [HYES.out, HLf.out, ← HE.out]; exact HOf.out, HBf.out⟩
                    case measure => simp [intOf]; omega
                · skip
                  go_simp
                  have hb : Below wd.heap.size wd (wd.alloc (.cells #[.int .i64 x.id, .int .i64 x.cls, .int .i64 x.tch, .int .i64 x.room, .int .i64 x.day, .int .i64 x.bgn, .int .i64 x.mins] 31)) := HBzwd.out.alloc HBzwd.out.size _
                  have hk : (wd.alloc (.cells #[.int .i64 x.id, .int .i64 x.cls, .int .i64 x.tch, .int .i64 x.room, .int .i64 x.day, .int .i64 x.bgn, .int .i64 x.mins] 31)).heap[wd.heap.size]? = some (.cells (lesC x).toArray 31 (0, 0)) := alloc_at rfl
                  refine hK.out _ _ (HSD.out _ hb) (fun hHeld => ?_)
                  clear hK K
                  try simp only [Act.put]
                  generalize wd.alloc (.cells #[.int .i64 x.id, .int .i64 x.cls, .int .i64 x.tch, .int .i64 x.room, .int .i64 x.day, .int .i64 x.bgn, .int .i64 x.mins] 31) = y24 at hb hk hHeld ⊢
                  have HBzy24 := Lib.hid hb
                  have HKzy24 := Lib.hid hk
                  clear hb hk
                  refine wpAnyH_ready (rs := [0]) (by kernel_rfl) (by simp) ?_
                  refine AllReadyH.cons rfl (fun K hK => ?_) AllReadyH.nil
                  go_simp
                  have hb : Below wd.heap.size wd (y24.alloc (.cells #[] 31)) := HBzy24.out.alloc HBzy24.out.size _
                  have ho : (y24.alloc (.cells #[] 31)).ownsRow wd.heap.size 31 7 (.slice (some ⟨y24.heap.size, 0, none⟩) 0 0) (0) ([]) := World.ownsRow_made y24 #[] 0 HBzy24.out.size (Nat.zero_le _) (by simp)
                  have hk : (y24.alloc (.cells #[] 31)).heap[wd.heap.size]? = some (.cells (lesC x).toArray 31 (0, 0)) := (alloc_old (lt_of_block HKzy24.out)).trans HKzy24.out
                  have HNzy25 : Hid (some (wd.heap.size) ≠ (Value.slice (some ⟨y24.heap.size, 0, none⟩) 0 0).ownBlock) := Lib.hid (fun e => by have h1 := lt_of_block HKzy24.out; simp [Value.ownBlock] at e; omega)
                  refine hK.out _ _ (HSD.out _ hb) (fun hHeld => ?_)
                  clear hK K
                  try simp only [Act.put]
                  generalize y24.alloc (.cells #[] 31) = y25 at hb ho hk hHeld ⊢
                  have HBzy25 := Lib.hid hb
                  have HOzy25 := Lib.hid ho
                  have HKzy25 := Lib.hid hk
                  clear hb ho hk
                  refine wpAnyH_ready (rs := [4]) (by kernel_rfl) (by simp) ?_
                  refine AllReadyH.cons rfl (fun K hK => ?_) AllReadyH.nil
                  refine step_append_at (by rfl) _ _ _ (by rfl) wd.heap.size 31 i0 (.agg #[.int .i64 0, .int .i64 0, .int .i64 0, .int .i64 0, .int .i64 0, .int .i64 0, .int .i64 0]) 7 56 Tryd.underlying24 hi hz0 hz1 hz2 rfl (by decide) _ 0 [] (by rfl) HOzy25.out ⟨g, 0, none⟩ k cap (flatC lesC (D.take k)) (by rfl) (by rw [flatC_len lesC_len, List.length_take, HDL.out, Nat.min_eq_left hk]) (HNA.out _ HBzy25.out) (flatC_one lesC_one _) (by unfold maxLen; omega) (by omega) HBzy25.out.size ?_
                  intro v4 y26 how hgr hloc hnn
                  have HBzy26 := Lib.hid (HBzy25.out.grown hgr HBzy25.out.size (fun q hq => (HOzy25.out.lt q hq).1))
                  have HOzy26 : Hid (y26.ownsRow wd.heap.size 31 7 v4 (k) (flatC lesC (D.take k))) := Lib.hid (by simpa using how)
                  have HKzy26 := Lib.hid ((hgr.block _ (lt_of_block HKzy25.out) HNzy25.out).trans HKzy25.out)
                  clear how hgr hloc hnn
                  refine hK.out _ _ (HSD.out _ HBzy26.out) (fun hHeld => ?_)
                  clear hK K
                  try simp only [Act.put, List.setIfInBounds_toArray]
                  refine wpAnyH_ready (rs := [10]) (by kernel_rfl) (by simp) ?_
                  refine AllReadyH.cons rfl (fun K hK => ?_) AllReadyH.nil
                  refine step_append_at (by rfl) _ _ _ (by rfl) wd.heap.size 31 i0 (.agg #[.int .i64 0, .int .i64 0, .int .i64 0, .int .i64 0, .int .i64 0, .int .i64 0, .int .i64 0]) 7 56 Tryd.underlying24 hi hz0 hz1 hz2 rfl (by decide) _ k (flatC lesC (D.take k)) (by rfl) HOzy26.out ⟨wd.heap.size, 0, none⟩ 1 1 (lesC x) (by rfl) (by rfl) (news_at (vs := lesC x) HKzy26.out) (lesC_one x) (by unfold maxLen; omega) (by omega) HBzy26.out.size ?_
                  intro v10 y27 how hgr hloc hnn
                  have HBzy27 := Lib.hid (HBzy26.out.grown hgr HBzy26.out.size (fun q hq => (HOzy26.out.lt q hq).1))
                  have HOzy27 : Hid (y27.ownsRow wd.heap.size 31 7 v10 (k + 1) (flatC lesC (D.take k) ++ lesC x)) := Lib.hid how
                  clear how hgr hloc hnn
                  refine hK.out _ _ (HSD.out _ HBzy27.out) (fun hHeld => ?_)
                  clear hK K
                  try simp only [Act.put, List.setIfInBounds_toArray]
                  refine wpAnyH_ready (rs := [14]) (by kernel_rfl) (by simp) ?_
                  refine AllReadyH.cons rfl (fun K hK => ?_) AllReadyH.nil
                  refine step_append_at (by rfl) _ _ _ (by rfl) wd.heap.size 31 i0 (.agg #[.int .i64 0, .int .i64 0, .int .i64 0, .int .i64 0, .int .i64 0, .int .i64 0, .int .i64 0]) 7 56 Tryd.underlying24 hi hz0 hz1 hz2 rfl (by decide) _ (k + 1) (flatC lesC (D.take k) ++ lesC x) (by rfl) HOzy27.out ad2 (L - k) (cap - k) (flatC lesC (D.drop k)) (by exact congrArg (fun z => Value.slice z (L - k) (cap - k)) HAD.out) (by rw [flatC_len lesC_len, List.length_drop, HDL.out]) (HNC.out _ HBzy27.out) (flatC_one lesC_one _) (by unfold maxLen; omega) (by omega) HBzy27.out.size ?_
                  intro v14 y28 how hgr hloc hnn
                  have HBzy28 := Lib.hid (HBzy27.out.grown hgr HBzy27.out.size (fun q hq => (HOzy27.out.lt q hq).1))
                  obtain ⟨g2, c2, rfl⟩ := own_some how (by omega)
                  have hkl : k + 1 + (L - k) = L + 1 := by omega
                  rw [hkl] at how ⊢
                  have HOzy28 : Hid (y28.ownsRow wd.heap.size 31 7 (.slice (some ⟨g2, 0, none⟩) (L + 1) c2) (L + 1) (flatC lesC (insAt D x k))) := Lib.hid (by
                    unfold insAt; rw [flatC_app]; rw [List.append_assoc] at how; exact how)
                  clear how hgr hloc hnn hkl
                  refine hK.out _ _ (HSD.out _ HBzy28.out) (fun hHeld => ?_)
                  clear hK K
                  try simp only [Act.put, List.setIfInBounds_toArray]
                  refine take1 (i := 15) (v := ?v74) (some 7) rfl rfl (by kernel_rfl) (by kernel_rfl) (by kernel_rfl) (fun _ _ _ h => h) (Or.inl ⟨by rfl, ?y74⟩) (by assumption) ?r74
                  case y74 => (intro w hSw; (try dsimp only at hSw); go_simp; (first | done | with_reducible rfl))
                  try simp only [Act.put]
                  refine wpAnyH_done (by kernel_rfl) ?_ _
                  have HBf : Hid (Below w.heap.size w y28) := Lib.hid (HBD.out.trans (HBzy28.out.mono HBD.out.size))
                  have HOf : Hid (y28.ownsRow w.heap.size 31 7 (.slice (some ⟨g2, 0, none⟩) (L + 1) c2) (L + 1) (flatC lesC (insAt D x k))) := Lib.hid (own_mono HOzy28.out HBD.out.size)
                  have HLf : Hid ((insL D x).length = L + 1) := Lib.hid (by rw [insL_len, HDL.out])
                  clear hHeld
                  go_wp2_with fail
                  go_roundw
                  case rel => exact ⟨n + 1, g2, c2, by omega, by go_num, by rw [HYES.out, HLf.out], by rw [HYES.out, HLf.out, ← HE.out]; exact HOf.out, HBf.out⟩
                  case measure => simp [intOf]; omega
        · have hd' : (x.day != d) = true := by simpa using hd
          have HNO : Hid (dayF (ps.take (n + 1)) c d = dayF (ps.take n) c d) := Lib.hid (dayF_no ps c d n hlt (by rw [HX.out]; exact fun e => hd e.2))
          clear hd hc hx
          go_wp2_with fail
          go_roundw
          case rel => exact ⟨n + 1, g, cap, by omega, by go_num, by rw [HNO.out], by rw [HNO.out]; exact HOo.out, HBo.out⟩
          case measure => simp [intOf]; omega
      · have hc' : (x.cls != c) = true := by simpa using hc
        have HNO : Hid (dayF (ps.take (n + 1)) c d = dayF (ps.take n) c d) := Lib.hid (dayF_no ps c d n hlt (by rw [HX.out]; exact fun e => hc e.1))
        clear hc hx
        go_wp2_with fail
        go_roundw
        case rel => exact ⟨n + 1, g, cap, by omega, by go_num, by rw [HNO.out], by rw [HNO.out]; exact HOo.out, HBo.out⟩
        case measure => simp [intOf]; omega
    · have HE : Hid (dayF (ps.take n) c d = dayF ps c d) := Lib.hid (by rw [List.take_of_length_le (by omega)])
      clear hown hb
      go_wp2_with fail
      go_ret
      exact ⟨⟨_, rfl, by rw [← HE.out]; exact HOo.out⟩, HBo.out⟩
end Go.Proofs.YtblbeoeklkcamaaDoor
