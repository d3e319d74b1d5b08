/- The program's text of a lesson. -/
import Derived.Test.YtblbeoeklkcamaaDoorTlt
import Derived.Test.YtblbeoeklkcamaaDoorTab
import Derived.Test.YtblbeoeklkcamaaDoorTabw
import Derived.Test.YtblbeoeklkcamaaDoorLi2
import Derived.OwnWalk
import Derived.Deep.RegionHeld3
namespace Go.Proofs.YtblbeoeklkcamaaDoor
set_option linter.unusedVariables false
open Go.RowKit

theorem digitSignE_any (x : Int) (w : World) (h0 : 0 ≤ x) (h1 : x ≤ 9) :
    Calls Tryd.prog 63 #[.int .i64 x] w fun e w' => e = .returned (.int .u8 ((chE x).toNat : Int)) ∧ w' = w := by
  have hc := chE_nat x h0 h1
  rw [hc]
  go_enter Tryd.func63, Tryd.ntmps63
  go_wp2_with fail
  go_ret
  exact ⟨rfl, rfl⟩
theorem itoaE_any (x : Int) (w : World) (h0 : 0 ≤ x) (h1 : x ≤ 9999) (ht : Lib.TabIs Tryd.prog w "internal/strconv.uint64pow10" .u64 Lib.pow10Tab) :
    Calls Tryd.prog 45 #[.int .i64 x] w fun e w' => e = .returned (.string (nmS x)) ∧ Below w.heap.size w w' := by
  refine (Tryd.strconv_Itoa x (by omega) (by omega) w ht).mono ?_
  rintro e w'' ⟨rfl, k, os, rfl⟩
  exact ⟨rfl, bl_grow _ _ _⟩
set_option maxRecDepth 100000 in
set_option maxHeartbeats 1600000 in
theorem clockText_any (m : Int) (w : World) (h0 : 0 ≤ m) (h1 : m ≤ 9999) (ht : Lib.TabIs Tryd.prog w "internal/strconv.uint64pow10" .u64 Lib.pow10Tab) :
    Calls Tryd.prog 44 #[.int .i64 m] w fun e w' => e = .returned (.string (clS m)) ∧ Below w.heap.size w w' := by
  have HT := Lib.hid ht
  obtain ⟨A, hA⟩ : ∃ A, A = nmS (m / 60) := ⟨_, rfl⟩
  have sA : A.size ≤ 19 := by rw [hA]; exact nmS_size _ (by omega) (by omega)
  obtain ⟨x, hx⟩ : ∃ x, x = m / 60 := ⟨_, rfl⟩
  obtain ⟨mm, hmm⟩ : ∃ mm, mm = m % 60 := ⟨_, rfl⟩
  obtain ⟨y, hy⟩ : ∃ y, y = mm / 10 := ⟨_, rfl⟩
  obtain ⟨z, hz⟩ : ∃ z, z = mm % 10 := ⟨_, rfl⟩
  have y0 : 0 ≤ y ∧ y ≤ 9 := by omega
  have z0 : 0 ≤ z ∧ z ≤ 9 := by omega
  have HC : Hid (A ++ ⟨[58, chE y, chE z].toArray⟩ = clS m) := Lib.hid (by rw [hA]; exact clS_eq m _ _ (by rw [hy, hmm]) (by rw [hz, hmm]))
  have x1 : IntKind.i64.wrap (m.tdiv 60) = x := by rw [IntKind.wrap_i64, Int.tdiv_eq_ediv_of_nonneg h0]; omega
  have x2 : IntKind.i64.wrap (m.tmod 60) = mm := by rw [IntKind.wrap_i64, Int.tmod_eq_emod_of_nonneg h0]; omega
  have x3 : m.tmod 60 = mm := by rw [Int.tmod_eq_emod_of_nonneg h0]; omega
  have y1 : IntKind.i64.wrap (mm.tdiv 10) = y := by rw [IntKind.wrap_i64, Int.tdiv_eq_ediv_of_nonneg (by omega)]; omega
  have z1 : IntKind.i64.wrap (mm.tmod 10) = z := by rw [IntKind.wrap_i64, Int.tmod_eq_emod_of_nonneg (by omega)]; omega
  have z2 : mm.tmod 10 = z := by rw [Int.tmod_eq_emod_of_nonneg (by omega)]; omega
  have HI : Hid (∀ w', Below w.heap.size w w' → Calls Tryd.prog 45 #[.int .i64 x] w' fun e w'' => e = .returned (.string A) ∧ Below w'.heap.size w' w'') := Lib.hid (fun w' hb => by rw [hA, hx]; exact itoaE_any (m / 60) w' (by omega) (by omega) (tab_below HT.out hb))
  have HY : Hid (∀ w, Calls Tryd.prog 63 #[.int .i64 y] w fun e w' => e = .returned (.int .u8 ((chE y).toNat : Int)) ∧ w' = w) := Lib.hid (fun w => digitSignE_any y w y0.1 y0.2)
  have HZ : Hid (∀ w, Calls Tryd.prog 63 #[.int .i64 z] w fun e w' => e = .returned (.int .u8 ((chE z).toNat : Int)) ∧ w' = w) := Lib.hid (fun w => digitSignE_any z w z0.1 z0.2)
  generalize chE y = cy at HC HY
  generalize chE z = cz at HC HZ
  have HCV : Hid (∀ w' : World, (w'.cell? ⟨w.heap.size, 0, none⟩ = some (.int .u8 58) ∧ w'.cell? ⟨w.heap.size, 1, none⟩ = some (.int .u8 (cy.toNat : Int)) ∧ w'.cell? ⟨w.heap.size, 2, none⟩ = some (.int .u8 (cz.toNat : Int))) → (convert 22 9 (.slice (some ⟨w.heap.size, 0, none⟩) 3 3)).run Tryd.prog w' = .ok (.string ⟨[58, cy, cz].toArray⟩) w') := Lib.hid (fun w' hs =>
    run_convert_bytes_back (P := Tryd.prog) w' 22 9 5 ⟨w.heap.size, 0, none⟩ 3 [58, cy, cz] Tryd.underlying22 Tryd.underlying5 Tryd.underlying9 (fun j hj => match j, hj with
      | 0, _ => hs.1
      | 1, _ => hs.2.1
      | 2, _ => hs.2.2))
  obtain ⟨S3, hS3⟩ : ∃ S3 : ByteArray, S3 = ⟨[58, cy, cz].toArray⟩ := ⟨_, rfl⟩
  have sS : S3.size = 3 := by rw [hS3]; rfl
  rw [← hS3] at HCV HC
  have g1 : ¬ 9223372036854775807 < A.size + 3 := by omega
  have g2 : ¬ 9223372036854775807 < A.size + S3.size := by omega
  clear hA hx hmm hy hz ht hS3 y0 z0
  have HB0 : Hid (Below w.heap.size w w) := Lib.hid (Below.refl _ _)
  go_enter Tryd.func44, Tryd.ntmps44
  go_wp2_with fail
  refine (HY.out _).mono ?_
  rintro e w' ⟨rfl, hw⟩
  subst w'
  go_wp2_with fail
  refine (HZ.out _).mono ?_
  rintro e w' ⟨rfl, hw⟩
  subst w'
  go_wp2_with fail
  have hb : Below w.heap.size w (w.alloc (.cells #[.int .u8 58, .int .u8 (cy.toNat : Int), .int .u8 (cz.toNat : Int)] 5)) := (Below.refl _ _).alloc (Nat.le_refl _) _
  have hk : (w.alloc (.cells #[.int .u8 58, .int .u8 (cy.toNat : Int), .int .u8 (cz.toNat : Int)] 5)).heap[w.heap.size]? = some (.cells #[.int .u8 58, .int .u8 (cy.toNat : Int), .int .u8 (cz.toNat : Int)] 5 (0, 0)) := alloc_at rfl
  have hz : (w.alloc (.cells #[.int .u8 58, .int .u8 (cy.toNat : Int), .int .u8 (cz.toNat : Int)] 5)).heap.size = w.heap.size + 1 := by simp
  generalize w.alloc (.cells #[.int .u8 58, .int .u8 (cy.toNat : Int), .int .u8 (cz.toNat : Int)] 5) = w1 at hb hk hz ⊢
  have HB1 : Hid (Below w.heap.size w w1) := Lib.hid (HB0.out.trans (hb.mono HB0.out.size))
  have HZ1 : Hid (w.heap.size ≤ w1.heap.size) := Lib.hid hb.size
  have HKs1 := Lib.hid hk
  replace HZ1 : Hid (w.heap.size < w1.heap.size) := Lib.hid (by omega)
  have HE1 := Lib.hid hz
  clear hb hk hz
  have lts := lt_of_block HKs1.out
  obtain ⟨cs0, cs1, cs2, fs0, fs1, fs2⟩ := cell3 HKs1.out
  refine wp_region_held_drew (S := (fun w' => w'.cell? ⟨w.heap.size, 0, none⟩ = some (.int .u8 58) ∧ w'.cell? ⟨w.heap.size, 1, none⟩ = some (.int .u8 (cy.toNat : Int)) ∧ w'.cell? ⟨w.heap.size, 2, none⟩ = some (.int .u8 (cz.toNat : Int)))) (by kernel_rfl) (⟨cs0, cs1, cs2⟩) (fun hHeld => ?_)
  have hb : Below w1.heap.size w1 w1.drew := (Below.refl _ _).drew
  generalize w1.drew = w2 at hb hHeld ⊢
  have HB2 : Hid (Below w.heap.size w w2) := Lib.hid (HB1.out.trans (hb.mono HB1.out.size))
  have HZ2 : Hid (w1.heap.size ≤ w2.heap.size) := Lib.hid hb.size
  have HKs2 := Lib.hid ((hb.block _ (lt_of_block HKs1.out)).trans HKs1.out)
  clear hb
  clear cs0 cs1 cs2 fs0 fs1 fs2 lts
  have lts := lt_of_block HKs2.out
  obtain ⟨cs0, cs1, cs2, fs0, fs1, fs2⟩ := cell3 HKs2.out
  refine take1 (i := 0) (v := ?v1) (some 17) rfl rfl (by kernel_rfl) (by kernel_rfl) (by kernel_rfl) (fun _ _ _ h => h) (Or.inl ⟨by rfl, ?y1⟩) (by assumption) ?r1
  case y1 => (intro w hSw; (try dsimp only at hSw); go_simp; (first | done | with_reducible rfl))
  try simp only [Act.put, List.setIfInBounds_toArray, List.set_cons_zero, List.set_cons_succ]
  refine take1 (i := 2) (v := ?v2) (some 19) rfl rfl (by kernel_rfl) (by kernel_rfl) (by kernel_rfl) (fun _ _ _ h => h) (Or.inl ⟨by rfl, ?y2⟩) (by assumption) ?r2
  case y2 => (intro w hSw; (try dsimp only at hSw); go_simp; (first | done | with_reducible rfl))
  try simp only [Act.put, List.setIfInBounds_toArray, List.set_cons_zero, List.set_cons_succ]
  refine take1 (i := 3) (v := .string S3) (some 20) rfl rfl (by kernel_rfl) (by kernel_rfl) (by kernel_rfl) (fun _ _ _ h => h) (Or.inl ⟨by rfl, ?yc⟩) (by assumption) ?rc
  case yc => (intro w hSw; (try dsimp only at hSw); have hc9 := HCV.out w hSw; go_simp; (first | done | with_reducible rfl))
  try simp only [Act.put, List.setIfInBounds_toArray, List.set_cons_zero, List.set_cons_succ]
  refine wpAnyH_ready (rs := [1]) (by kernel_rfl) (by simp) ?_
  refine AllReadyH.cons rfl (fun K hK => ?_) AllReadyH.nil
  go_simp
  go_at_call 45
  refine (HI.out _ HB2.out).mono ?_
  rintro e w3 ⟨rfl, hb⟩
  have HB3 : Hid (Below w.heap.size w w3) := Lib.hid (HB2.out.trans (hb.mono HB2.out.size))
  have HZ3 : Hid (w2.heap.size ≤ w3.heap.size) := Lib.hid hb.size
  have HKs3 := Lib.hid ((hb.block _ (lt_of_block HKs2.out)).trans HKs2.out)
  clear hb
  clear cs0 cs1 cs2 fs0 fs1 fs2 lts
  have lts := lt_of_block HKs3.out
  obtain ⟨cs0, cs1, cs2, fs0, fs1, fs2⟩ := cell3 HKs3.out
  try go_simp
  refine hK.out _ _ (⟨cs0, cs1, cs2⟩) (fun hHeld => ?_)
  clear hK K
  try simp only [Act.put, List.setIfInBounds_toArray, List.set_cons_zero, List.set_cons_succ]
  refine take1 (i := 4) (v := ?v3) (some 21) rfl rfl (by kernel_rfl) (by kernel_rfl) (by kernel_rfl) (fun _ _ _ h => h) (Or.inl ⟨by rfl, ?y3⟩) (by assumption) ?r3
  case y3 => (intro w hSw; (try dsimp only at hSw); go_simp; (first | done | with_reducible rfl))
  try simp only [Act.put, List.setIfInBounds_toArray, List.set_cons_zero, List.set_cons_succ]
  refine take1 (i := 5) (v := ?v4) (some 2) rfl rfl (by kernel_rfl) (by kernel_rfl) (by kernel_rfl) (fun _ _ _ h => h) (Or.inl ⟨by rfl, ?y4⟩) (by assumption) ?r4
  case y4 => (intro w hSw; (try dsimp only at hSw); go_simp; (first | done | with_reducible rfl))
  try simp only [Act.put, List.setIfInBounds_toArray, List.set_cons_zero, List.set_cons_succ]
  refine wpAnyH_done (by kernel_rfl) ?_ _
  go_wp2_with fail
  go_ret
  exact ⟨by rw [← HC.out]; rfl, HB3.out⟩

set_option maxRecDepth 100000 in
set_option maxHeartbeats 3200000 in
theorem implText_yes (x : Les) (w : World) (h : okLe x) (ht : Lib.TabIs Tryd.prog w "internal/strconv.uint64pow10" .u64 Lib.pow10Tab) (hw : TabW w) :
    Calls Tryd.prog 19 #[lesV x] w fun e w' => e = .returned (.tuple #[.string (txL (dayB x.day.toNat) x.cls x.bgn (endL x) x.room), .bool true]) ∧ Below w.heap.size w w' := by
  have HO := Lib.hid (fun w => implIsLesson_any x w true ⟨fun _ => h, fun _ => rfl⟩)
  have HEN := Lib.hid (fun w => endOf_any x w)
  have HT1 := Lib.hid ht
  have HT2 := Lib.hid hw
  obtain ⟨-, ⟨c0, c1⟩, -, ⟨r0, r1⟩, ⟨d0, d1⟩, ⟨b0, b1⟩, hm⟩ := id h
  have hend := okLe_end h
  obtain ⟨id, cls, tch, room, day, bgn, mins⟩ := x
  change Hid (∀ w : World, Calls Tryd.prog 21 #[.agg #[.int .i64 id, .int .i64 cls, .int .i64 tch, .int .i64 room, .int .i64 day, .int .i64 bgn, .int .i64 mins]] w fun e w' => e = .returned (.bool true) ∧ Below w.heap.size w w') at HO
  show Calls Tryd.prog 19 #[.agg #[.int .i64 id, .int .i64 cls, .int .i64 tch, .int .i64 room, .int .i64 day, .int .i64 bgn, .int .i64 mins]] w fun e w' => e = .returned (.tuple #[.string (txL (dayB day.toNat) cls bgn (endL ⟨id, cls, tch, room, day, bgn, mins⟩) room), .bool true]) ∧ Below w.heap.size w w'
  simp only at c0 c1 r0 r1 d0 d1 b0 b1 hm hend
  generalize endL ⟨id, cls, tch, room, day, bgn, mins⟩ = en at hend HEN ⊢
  have e0 : 0 ≤ en := by omega
  have e1 : en ≤ 9999 := by omega
  obtain ⟨A, hA⟩ : ∃ A, A = nmS cls := ⟨_, rfl⟩
  obtain ⟨B, hB⟩ : ∃ B, B = clS bgn := ⟨_, rfl⟩
  obtain ⟨E, hE⟩ : ∃ E, E = clS en := ⟨_, rfl⟩
  obtain ⟨F, hF⟩ : ∃ F, F = nmS room := ⟨_, rfl⟩
  have sA : A.size ≤ 19 := by rw [hA]; exact nmS_size _ (by omega) (by omega)
  have sB : B.size ≤ 22 := by rw [hB]; exact clS_size _ (by omega) (by omega)
  have sE : E.size ≤ 22 := by rw [hE]; exact clS_size _ (by omega) (by omega)
  have sF : F.size ≤ 19 := by rw [hF]; exact nmS_size _ (by omega) (by omega)
  obtain ⟨j, rfl⟩ : ∃ j : Nat, day = (j : Int) := ⟨day.toNat, by omega⟩
  have hjt : ((j : Int).toNat) = j := Int.toNat_natCast j
  rw [hjt]
  have hj7 : j < 7 := by omega
  have sD := day_size j
  obtain ⟨D, hD⟩ : ∃ D, D = dayB j := ⟨_, rfl⟩
  have HG : Hid (∀ w', Below w.heap.size w w' → w'.cell? ⟨0, j, none⟩ = some (.string D)) := Lib.hid (fun w' hb => by rw [hD]; exact (tabw_below HT2.out hb).cell j hj7)
  rw [← hD] at sD ⊢
  change Hid (∀ w : World, Calls Tryd.prog 39 #[.agg #[.int .i64 id, .int .i64 cls, .int .i64 tch, .int .i64 room, .int .i64 (j : Int), .int .i64 bgn, .int .i64 mins]] w fun e w' => e = .returned (.int .i64 en) ∧ Below w.heap.size w w') at HEN
  have HS : Hid (clsS ++ A ++ spS ++ D ++ spS ++ (B ++ dsS ++ E) ++ romS ++ F = txL D cls bgn en room) := Lib.hid (by rw [hA, hB, hE, hF]; exact txL_eq D cls bgn en room)
  have HA : Hid (∀ w', Below w.heap.size w w' → Calls Tryd.prog 45 #[.int .i64 cls] w' fun e w'' => e = .returned (.string A) ∧ Below w'.heap.size w' w'') := Lib.hid (fun w' hb => by rw [hA]; exact itoaE_any cls w' (by omega) (by omega) (tab_below HT1.out hb))
  have HF : Hid (∀ w', Below w.heap.size w w' → Calls Tryd.prog 45 #[.int .i64 room] w' fun e w'' => e = .returned (.string F) ∧ Below w'.heap.size w' w'') := Lib.hid (fun w' hb => by rw [hF]; exact itoaE_any room w' (by omega) (by omega) (tab_below HT1.out hb))
  have HB : Hid (∀ w', Below w.heap.size w w' → Calls Tryd.prog 44 #[.int .i64 bgn] w' fun e w'' => e = .returned (.string B) ∧ Below w'.heap.size w' w'') := Lib.hid (fun w' hb => by rw [hB]; exact clockText_any bgn w' (by omega) (by omega) (tab_below HT1.out hb))
  have HE : Hid (∀ w', Below w.heap.size w w' → Calls Tryd.prog 44 #[.int .i64 en] w' fun e w'' => e = .returned (.string E) ∧ Below w'.heap.size w' w'') := Lib.hid (fun w' hb => by rw [hE]; exact clockText_any en w' (by omega) (by omega) (tab_below HT1.out hb))
  have z1 : (0 : Int) ≤ (j : Int) := by omega
  have z2 : (j : Int) < 7 := by omega
  clear hA hB hE hF h hjt hD ht hw hend hm
  have p0 : ¬ 9223372036854775807 < B.size + 1 := by omega
  have p1 : ¬ 9223372036854775807 < B.size + 1 + E.size := by omega
  obtain ⟨SP, hSP⟩ : ∃ SP, SP = B ++ dsS ++ E := ⟨_, rfl⟩
  rw [← hSP] at HS
  have sSP : SP.size ≤ 45 := by
    have e : SP.size = B.size + 1 + E.size := by rw [hSP]; simp only [ByteArray.size_append]; rfl
    omega
  have HSP : Hid (B ++ ⟨#[45]⟩ ++ E = SP) := Lib.hid hSP.symm
  clear hSP
  have g0 : ¬ 9223372036854775807 < 6 + A.size := by omega
  have g1 : ¬ 9223372036854775807 < 6 + A.size + 1 := by omega
  have g2 : ¬ 9223372036854775807 < 6 + A.size + 1 + D.size := by omega
  have g3 : ¬ 9223372036854775807 < 6 + A.size + 1 + D.size + 1 := by omega
  have g4 : ¬ 9223372036854775807 < 6 + A.size + 1 + D.size + 1 + SP.size := by omega
  have g5 : ¬ 9223372036854775807 < 6 + A.size + 1 + D.size + 1 + SP.size + 6 := by omega
  have g6 : ¬ 9223372036854775807 < 6 + A.size + 1 + D.size + 1 + SP.size + 6 + F.size := by omega
  have HB0 : Hid (Below w.heap.size w w) := Lib.hid (Below.refl _ _)
  go_enter Tryd.func19, Tryd.ntmps19
  go_wp2_with fail
  have hb : Below w.heap.size w (w.alloc (.cells #[.int .i64 id, .int .i64 cls, .int .i64 tch, .int .i64 room, .int .i64 (j : Int), .int .i64 bgn, .int .i64 mins] 31)) := (Below.refl _ _).alloc (Nat.le_refl _) _
  have hk : (w.alloc (.cells #[.int .i64 id, .int .i64 cls, .int .i64 tch, .int .i64 room, .int .i64 (j : Int), .int .i64 bgn, .int .i64 mins] 31)).heap[w.heap.size]? = some (.cells #[.int .i64 id, .int .i64 cls, .int .i64 tch, .int .i64 room, .int .i64 (j : Int), .int .i64 bgn, .int .i64 mins] 31 (0, 0)) := alloc_at rfl
  have hz : (w.alloc (.cells #[.int .i64 id, .int .i64 cls, .int .i64 tch, .int .i64 room, .int .i64 (j : Int), .int .i64 bgn, .int .i64 mins] 31)).heap.size = w.heap.size + 1 := by simp
  generalize w.alloc (.cells #[.int .i64 id, .int .i64 cls, .int .i64 tch, .int .i64 room, .int .i64 (j : Int), .int .i64 bgn, .int .i64 mins] 31) = w1 at hb hk hz ⊢
  have HB1 : Hid (Below w.heap.size w w1) := Lib.hid (HB0.out.trans (hb.mono HB0.out.size))
  have HZ1 : Hid (w.heap.size ≤ w1.heap.size) := Lib.hid hb.size
  have HKf1 := Lib.hid hk
  replace HZ1 : Hid (w.heap.size < w1.heap.size) := Lib.hid (by omega)
  have HE1 := Lib.hid hz
  clear hb hk hz
  have ltf := lt_of_block HKf1.out
  obtain ⟨cf0, cf1, cf2, cf3, cf4, cf5, cf6, ff0, ff1, ff2, ff3, ff4, ff5, ff6⟩ := cell7 HKf1.out
  refine (HO.out _).mono ?_
  rintro e w2 ⟨rfl, hb⟩
  have HB2 : Hid (Below w.heap.size w w2) := Lib.hid (HB1.out.trans (hb.mono HB1.out.size))
  have HZ2 : Hid (w1.heap.size ≤ w2.heap.size) := Lib.hid hb.size
  have HKf2 := Lib.hid ((hb.block _ (lt_of_block HKf1.out)).trans HKf1.out)
  clear hb
  go_wp2_with fail
  clear cf0 cf1 cf2 cf3 cf4 cf5 cf6 ff0 ff1 ff2 ff3 ff4 ff5 ff6 ltf
  have ltf := lt_of_block HKf2.out
  obtain ⟨cf0, cf1, cf2, cf3, cf4, cf5, cf6, ff0, ff1, ff2, ff3, ff4, ff5, ff6⟩ := cell7 HKf2.out
  refine wp_region_held_drew (S := (fun w' => w'.cell? ⟨w.heap.size, 0, none⟩ = some (.int .i64 id) ∧ w'.cell? ⟨w.heap.size, 1, none⟩ = some (.int .i64 cls) ∧ w'.cell? ⟨w.heap.size, 2, none⟩ = some (.int .i64 tch) ∧ w'.cell? ⟨w.heap.size, 3, none⟩ = some (.int .i64 room) ∧ w'.cell? ⟨w.heap.size, 4, none⟩ = some (.int .i64 (j : Int)) ∧ w'.cell? ⟨w.heap.size, 5, none⟩ = some (.int .i64 bgn) ∧ w'.cell? ⟨w.heap.size, 6, none⟩ = some (.int .i64 mins))) (by kernel_rfl) (⟨cf0, cf1, cf2, cf3, cf4, cf5, cf6⟩) (fun hHeld => ?_)
  have hb : Below w2.heap.size w2 w2.drew := (Below.refl _ _).drew
  generalize w2.drew = w3 at hb hHeld ⊢
  have HB3 : Hid (Below w.heap.size w w3) := Lib.hid (HB2.out.trans (hb.mono HB2.out.size))
  have HZ3 : Hid (w2.heap.size ≤ w3.heap.size) := Lib.hid hb.size
  have HKf3 := Lib.hid ((hb.block _ (lt_of_block HKf2.out)).trans HKf2.out)
  clear hb
  clear cf0 cf1 cf2 cf3 cf4 cf5 cf6 ff0 ff1 ff2 ff3 ff4 ff5 ff6 ltf
  have ltf := lt_of_block HKf3.out
  obtain ⟨cf0, cf1, cf2, cf3, cf4, cf5, cf6, ff0, ff1, ff2, ff3, ff4, ff5, ff6⟩ := cell7 HKf3.out
  refine take1 (i := 0) (v := ?v5) (some 8) rfl rfl (by kernel_rfl) (by kernel_rfl) (by kernel_rfl) (fun _ _ _ h => h) (Or.inl ⟨by rfl, ?y5⟩) (by assumption) ?r5
  case y5 => (intro w hSw; (try dsimp only at hSw); go_simp; (first | done | with_reducible rfl))
  try simp only [Act.put, List.setIfInBounds_toArray, List.set_cons_zero, List.set_cons_succ]
  refine take1 (i := 1) (v := ?v6) (some 9) rfl rfl (by kernel_rfl) (by kernel_rfl) (by kernel_rfl) (fun _ _ _ h => h) (Or.inl ⟨by rfl, ?y6⟩) (by assumption) ?r6
  case y6 => (intro w hSw; (try dsimp only at hSw); go_simp; (first | done | with_reducible rfl))
  try simp only [Act.put, List.setIfInBounds_toArray, List.set_cons_zero, List.set_cons_succ]
  refine take1 (i := 4) (v := ?v7) (some 12) rfl rfl (by kernel_rfl) (by kernel_rfl) (by kernel_rfl) (fun _ _ _ h => h) (Or.inl ⟨by rfl, ?y7⟩) (by assumption) ?r7
  case y7 => (intro w hSw; (try dsimp only at hSw); go_simp; (first | done | with_reducible rfl))
  try simp only [Act.put, List.setIfInBounds_toArray, List.set_cons_zero, List.set_cons_succ]
  refine wpAnyH_ready (rs := [2]) (by kernel_rfl) (by simp) ?_
  refine AllReadyH.cons rfl (fun K hK => ?_) AllReadyH.nil
  go_simp
  go_at_call 44
  refine (HB.out _ HB3.out).mono ?_
  rintro e w4 ⟨rfl, hb⟩
  have HB4 : Hid (Below w.heap.size w w4) := Lib.hid (HB3.out.trans (hb.mono HB3.out.size))
  have HZ4 : Hid (w3.heap.size ≤ w4.heap.size) := Lib.hid hb.size
  have HKf4 := Lib.hid ((hb.block _ (lt_of_block HKf3.out)).trans HKf3.out)
  clear hb
  clear cf0 cf1 cf2 cf3 cf4 cf5 cf6 ff0 ff1 ff2 ff3 ff4 ff5 ff6 ltf
  have ltf := lt_of_block HKf4.out
  obtain ⟨cf0, cf1, cf2, cf3, cf4, cf5, cf6, ff0, ff1, ff2, ff3, ff4, ff5, ff6⟩ := cell7 HKf4.out
  try go_simp
  refine hK.out _ _ (⟨cf0, cf1, cf2, cf3, cf4, cf5, cf6⟩) (fun hHeld => ?_)
  clear hK K
  try simp only [Act.put, List.setIfInBounds_toArray, List.set_cons_zero, List.set_cons_succ]
  refine take1 (i := 3) (v := ?v8) (some 11) rfl rfl (by kernel_rfl) (by kernel_rfl) (by kernel_rfl) (fun _ _ _ h => h) (Or.inl ⟨by rfl, ?y8⟩) (by assumption) ?r8
  case y8 => (intro w hSw; (try dsimp only at hSw); go_simp; (first | done | with_reducible rfl))
  try simp only [Act.put, List.setIfInBounds_toArray, List.set_cons_zero, List.set_cons_succ]
  refine wpAnyH_ready (rs := [5]) (by kernel_rfl) (by simp) ?_
  refine AllReadyH.cons rfl (fun K hK => ?_) AllReadyH.nil
  go_simp
  go_at_call 39
  refine (HEN.out _).mono ?_
  rintro e w5 ⟨rfl, hb⟩
  have HB5 : Hid (Below w.heap.size w w5) := Lib.hid (HB4.out.trans (hb.mono HB4.out.size))
  have HZ5 : Hid (w4.heap.size ≤ w5.heap.size) := Lib.hid hb.size
  have HKf5 := Lib.hid ((hb.block _ (lt_of_block HKf4.out)).trans HKf4.out)
  clear hb
  clear cf0 cf1 cf2 cf3 cf4 cf5 cf6 ff0 ff1 ff2 ff3 ff4 ff5 ff6 ltf
  have ltf := lt_of_block HKf5.out
  obtain ⟨cf0, cf1, cf2, cf3, cf4, cf5, cf6, ff0, ff1, ff2, ff3, ff4, ff5, ff6⟩ := cell7 HKf5.out
  try go_simp
  refine hK.out _ _ (⟨cf0, cf1, cf2, cf3, cf4, cf5, cf6⟩) (fun hHeld => ?_)
  clear hK K
  try simp only [Act.put, List.setIfInBounds_toArray, List.set_cons_zero, List.set_cons_succ]
  refine wpAnyH_ready (rs := [6]) (by kernel_rfl) (by simp) ?_
  refine AllReadyH.cons rfl (fun K hK => ?_) AllReadyH.nil
  go_simp
  go_at_call 44
  refine (HE.out _ HB5.out).mono ?_
  rintro e w6 ⟨rfl, hb⟩
  have HB6 : Hid (Below w.heap.size w w6) := Lib.hid (HB5.out.trans (hb.mono HB5.out.size))
  have HZ6 : Hid (w5.heap.size ≤ w6.heap.size) := Lib.hid hb.size
  have HKf6 := Lib.hid ((hb.block _ (lt_of_block HKf5.out)).trans HKf5.out)
  clear hb
  clear cf0 cf1 cf2 cf3 cf4 cf5 cf6 ff0 ff1 ff2 ff3 ff4 ff5 ff6 ltf
  have ltf := lt_of_block HKf6.out
  obtain ⟨cf0, cf1, cf2, cf3, cf4, cf5, cf6, ff0, ff1, ff2, ff3, ff4, ff5, ff6⟩ := cell7 HKf6.out
  try go_simp
  refine hK.out _ _ (⟨cf0, cf1, cf2, cf3, cf4, cf5, cf6⟩) (fun hHeld => ?_)
  clear hK K
  try simp only [Act.put, List.setIfInBounds_toArray, List.set_cons_zero, List.set_cons_succ]
  refine take1 (i := 7) (v := ?v9) (some 15) rfl rfl (by kernel_rfl) (by kernel_rfl) (by kernel_rfl) (fun _ _ _ h => h) (Or.inl ⟨by rfl, ?y9⟩) (by assumption) ?r9
  case y9 => (intro w hSw; (try dsimp only at hSw); go_simp; (first | done | with_reducible rfl))
  try simp only [Act.put, List.setIfInBounds_toArray, List.set_cons_zero, List.set_cons_succ]
  refine take1 (i := 8) (v := ?v10) (some 4) rfl rfl (by kernel_rfl) (by kernel_rfl) (by kernel_rfl) (fun _ _ _ h => h) (Or.inl ⟨by rfl, ?y10⟩) (by assumption) ?r10
  case y10 => (intro w hSw; (try dsimp only at hSw); go_simp; (first | done | with_reducible rfl))
  try simp only [Act.put, List.setIfInBounds_toArray, List.set_cons_zero, List.set_cons_succ]
  refine wpAnyH_done (by kernel_rfl) ?_ _
  rw [HSP.out]
  go_wp2_with fail
  have tg := HG.out _ HB6.out
  refine wp_region_held_drew (S := (fun w' => w'.cell? ⟨w.heap.size, 0, none⟩ = some (.int .i64 id) ∧ w'.cell? ⟨w.heap.size, 1, none⟩ = some (.int .i64 cls) ∧ w'.cell? ⟨w.heap.size, 2, none⟩ = some (.int .i64 tch) ∧ w'.cell? ⟨w.heap.size, 3, none⟩ = some (.int .i64 room) ∧ w'.cell? ⟨w.heap.size, 4, none⟩ = some (.int .i64 (j : Int)) ∧ w'.cell? ⟨w.heap.size, 5, none⟩ = some (.int .i64 bgn) ∧ w'.cell? ⟨w.heap.size, 6, none⟩ = some (.int .i64 mins) ∧ w'.cell? ⟨0, j, none⟩ = some (.string D))) (by kernel_rfl) (⟨cf0, cf1, cf2, cf3, cf4, cf5, cf6, tg⟩) (fun hHeld => ?_)
  clear tg
  have hb : Below w6.heap.size w6 w6.drew := (Below.refl _ _).drew
  generalize w6.drew = w7 at hb hHeld ⊢
  have HB7 : Hid (Below w.heap.size w w7) := Lib.hid (HB6.out.trans (hb.mono HB6.out.size))
  have HZ7 : Hid (w6.heap.size ≤ w7.heap.size) := Lib.hid hb.size
  have HKf7 := Lib.hid ((hb.block _ (lt_of_block HKf6.out)).trans HKf6.out)
  clear hb
  clear cf0 cf1 cf2 cf3 cf4 cf5 cf6 ff0 ff1 ff2 ff3 ff4 ff5 ff6 ltf
  have ltf := lt_of_block HKf7.out
  obtain ⟨cf0, cf1, cf2, cf3, cf4, cf5, cf6, ff0, ff1, ff2, ff3, ff4, ff5, ff6⟩ := cell7 HKf7.out
  refine take1 (i := 0) (v := ?v11) (some 16) rfl rfl (by kernel_rfl) (by kernel_rfl) (by kernel_rfl) (fun _ _ _ h => h) (Or.inl ⟨by rfl, ?y11⟩) (by assumption) ?r11
  case y11 => (intro w hSw; (try dsimp only at hSw); go_simp; (first | done | with_reducible rfl))
  try simp only [Act.put, List.setIfInBounds_toArray, List.set_cons_zero, List.set_cons_succ]
  refine take1 (i := 1) (v := ?v12) (some 17) rfl rfl (by kernel_rfl) (by kernel_rfl) (by kernel_rfl) (fun _ _ _ h => h) (Or.inl ⟨by rfl, ?y12⟩) (by assumption) ?r12
  case y12 => (intro w hSw; (try dsimp only at hSw); go_simp; (first | done | with_reducible rfl))
  try simp only [Act.put, List.setIfInBounds_toArray, List.set_cons_zero, List.set_cons_succ]
  refine take1 (i := 5) (v := ?v13) (some 21) rfl rfl (by kernel_rfl) (by kernel_rfl) (by kernel_rfl) (fun _ _ _ h => h) (Or.inl ⟨by rfl, ?y13⟩) (by assumption) ?r13
  case y13 => (intro w hSw; (try dsimp only at hSw); go_simp; (first | done | with_reducible rfl))
  try simp only [Act.put, List.setIfInBounds_toArray, List.set_cons_zero, List.set_cons_succ]
  refine take1 (i := 6) (v := ?v14) (some 22) rfl rfl (by kernel_rfl) (by kernel_rfl) (by kernel_rfl) (fun _ _ _ h => h) (Or.inl ⟨by rfl, ?y14⟩) (by assumption) ?r14
  case y14 => (intro w hSw; (try dsimp only at hSw); go_simp; (first | done | with_reducible rfl))
  try simp only [Act.put, List.setIfInBounds_toArray, List.set_cons_zero, List.set_cons_succ]
  refine take1 (i := 7) (v := ?v15) (some 23) rfl rfl (by kernel_rfl) (by kernel_rfl) (by kernel_rfl) (fun _ _ _ h => h) (Or.inl ⟨by rfl, ?y15⟩) (by assumption) ?r15
  case y15 => (intro w hSw; (try dsimp only at hSw); go_simp; (first | done | with_reducible rfl))
  try simp only [Act.put, List.setIfInBounds_toArray, List.set_cons_zero, List.set_cons_succ]
  refine take1 (i := 8) (v := ?v16) (some 24) rfl rfl (by kernel_rfl) (by kernel_rfl) (by kernel_rfl) (fun _ _ _ h => h) (Or.inl ⟨by rfl, ?y16⟩) (by assumption) ?r16
  case y16 => (intro w hSw; (try dsimp only at hSw); go_simp; (first | done | with_reducible rfl))
  try simp only [Act.put, List.setIfInBounds_toArray, List.set_cons_zero, List.set_cons_succ]
  refine take1 (i := 11) (v := ?v17) (some 27) rfl rfl (by kernel_rfl) (by kernel_rfl) (by kernel_rfl) (fun _ _ _ h => h) (Or.inl ⟨by rfl, ?y17⟩) (by assumption) ?r17
  case y17 => (intro w hSw; (try dsimp only at hSw); go_simp; (first | done | with_reducible rfl))
  try simp only [Act.put, List.setIfInBounds_toArray, List.set_cons_zero, List.set_cons_succ]
  refine take1 (i := 14) (v := ?v18) (some 30) rfl rfl (by kernel_rfl) (by kernel_rfl) (by kernel_rfl) (fun _ _ _ h => h) (Or.inl ⟨by rfl, ?y18⟩) (by assumption) ?r18
  case y18 => (intro w hSw; (try dsimp only at hSw); go_simp; (first | done | with_reducible rfl))
  try simp only [Act.put, List.setIfInBounds_toArray, List.set_cons_zero, List.set_cons_succ]
  refine take1 (i := 15) (v := ?v19) (some 31) rfl rfl (by kernel_rfl) (by kernel_rfl) (by kernel_rfl) (fun _ _ _ h => h) (Or.inl ⟨by rfl, ?y19⟩) (by assumption) ?r19
  case y19 => (intro w hSw; (try dsimp only at hSw); go_simp; (first | done | with_reducible rfl))
  try simp only [Act.put, List.setIfInBounds_toArray, List.set_cons_zero, List.set_cons_succ]
  refine wpAnyH_ready (rs := [2]) (by kernel_rfl) (by simp) ?_
  refine AllReadyH.cons rfl (fun K hK => ?_) AllReadyH.nil
  go_simp
  go_at_call 45
  refine (HA.out _ HB7.out).mono ?_
  rintro e w8 ⟨rfl, hb⟩
  have HB8 : Hid (Below w.heap.size w w8) := Lib.hid (HB7.out.trans (hb.mono HB7.out.size))
  have HZ8 : Hid (w7.heap.size ≤ w8.heap.size) := Lib.hid hb.size
  have HKf8 := Lib.hid ((hb.block _ (lt_of_block HKf7.out)).trans HKf7.out)
  clear hb
  clear cf0 cf1 cf2 cf3 cf4 cf5 cf6 ff0 ff1 ff2 ff3 ff4 ff5 ff6 ltf
  have ltf := lt_of_block HKf8.out
  obtain ⟨cf0, cf1, cf2, cf3, cf4, cf5, cf6, ff0, ff1, ff2, ff3, ff4, ff5, ff6⟩ := cell7 HKf8.out
  try go_simp
  have tg := HG.out _ HB8.out
  refine hK.out _ _ (⟨cf0, cf1, cf2, cf3, cf4, cf5, cf6, tg⟩) (fun hHeld => ?_)
  clear hK K
  try simp only [Act.put, List.setIfInBounds_toArray, List.set_cons_zero, List.set_cons_succ]
  clear tg
  refine take1 (i := 3) (v := ?v20) (some 19) rfl rfl (by kernel_rfl) (by kernel_rfl) (by kernel_rfl) (fun _ _ _ h => h) (Or.inl ⟨by rfl, ?y20⟩) (by assumption) ?r20
  case y20 => (intro w hSw; (try dsimp only at hSw); go_simp; (first | done | with_reducible rfl))
  try simp only [Act.put, List.setIfInBounds_toArray, List.set_cons_zero, List.set_cons_succ]
  refine take1 (i := 4) (v := ?v21) (some 20) rfl rfl (by kernel_rfl) (by kernel_rfl) (by kernel_rfl) (fun _ _ _ h => h) (Or.inl ⟨by rfl, ?y21⟩) (by assumption) ?r21
  case y21 => (intro w hSw; (try dsimp only at hSw); go_simp; (first | done | with_reducible rfl))
  try simp only [Act.put, List.setIfInBounds_toArray, List.set_cons_zero, List.set_cons_succ]
  refine take1 (i := 9) (v := ?v22) (some 25) rfl rfl (by kernel_rfl) (by kernel_rfl) (by kernel_rfl) (fun _ _ _ h => h) (Or.inl ⟨by rfl, ?y22⟩) (by assumption) ?r22
  case y22 => (intro w hSw; (try dsimp only at hSw); go_simp; (first | done | with_reducible rfl))
  try simp only [Act.put, List.setIfInBounds_toArray, List.set_cons_zero, List.set_cons_succ]
  refine take1 (i := 10) (v := ?v23) (some 26) rfl rfl (by kernel_rfl) (by kernel_rfl) (by kernel_rfl) (fun _ _ _ h => h) (Or.inl ⟨by rfl, ?y23⟩) (by assumption) ?r23
  case y23 => (intro w hSw; (try dsimp only at hSw); go_simp; (first | done | with_reducible rfl))
  try simp only [Act.put, List.setIfInBounds_toArray, List.set_cons_zero, List.set_cons_succ]
  refine take1 (i := 12) (v := ?v24) (some 28) rfl rfl (by kernel_rfl) (by kernel_rfl) (by kernel_rfl) (fun _ _ _ h => h) (Or.inl ⟨by rfl, ?y24⟩) (by assumption) ?r24
  case y24 => (intro w hSw; (try dsimp only at hSw); go_simp; (first | done | with_reducible rfl))
  try simp only [Act.put, List.setIfInBounds_toArray, List.set_cons_zero, List.set_cons_succ]
  refine take1 (i := 13) (v := ?v25) (some 29) rfl rfl (by kernel_rfl) (by kernel_rfl) (by kernel_rfl) (fun _ _ _ h => h) (Or.inl ⟨by rfl, ?y25⟩) (by assumption) ?r25
  case y25 => (intro w hSw; (try dsimp only at hSw); go_simp; (first | done | with_reducible rfl))
  try simp only [Act.put, List.setIfInBounds_toArray, List.set_cons_zero, List.set_cons_succ]
  refine wpAnyH_ready (rs := [16]) (by kernel_rfl) (by simp) ?_
  refine AllReadyH.cons rfl (fun K hK => ?_) AllReadyH.nil
  go_simp
  go_at_call 45
  refine (HF.out _ HB8.out).mono ?_
  rintro e w9 ⟨rfl, hb⟩
  have HB9 : Hid (Below w.heap.size w w9) := Lib.hid (HB8.out.trans (hb.mono HB8.out.size))
  have HZ9 : Hid (w8.heap.size ≤ w9.heap.size) := Lib.hid hb.size
  have HKf9 := Lib.hid ((hb.block _ (lt_of_block HKf8.out)).trans HKf8.out)
  clear hb
  clear cf0 cf1 cf2 cf3 cf4 cf5 cf6 ff0 ff1 ff2 ff3 ff4 ff5 ff6 ltf
  have ltf := lt_of_block HKf9.out
  obtain ⟨cf0, cf1, cf2, cf3, cf4, cf5, cf6, ff0, ff1, ff2, ff3, ff4, ff5, ff6⟩ := cell7 HKf9.out
  try go_simp
  have tg := HG.out _ HB9.out
  refine hK.out _ _ (⟨cf0, cf1, cf2, cf3, cf4, cf5, cf6, tg⟩) (fun hHeld => ?_)
  clear hK K
  try simp only [Act.put, List.setIfInBounds_toArray, List.set_cons_zero, List.set_cons_succ]
  clear tg
  refine take1 (i := 17) (v := ?v26) (some 33) rfl rfl (by kernel_rfl) (by kernel_rfl) (by kernel_rfl) (fun _ _ _ h => h) (Or.inl ⟨by rfl, ?y26⟩) (by assumption) ?r26
  case y26 => (intro w hSw; (try dsimp only at hSw); go_simp; (first | done | with_reducible rfl))
  try simp only [Act.put, List.setIfInBounds_toArray, List.set_cons_zero, List.set_cons_succ]
  refine take1 (i := 18) (v := ?v27) (some 2) rfl rfl (by kernel_rfl) (by kernel_rfl) (by kernel_rfl) (fun _ _ _ h => h) (Or.inl ⟨by rfl, ?y27⟩) (by assumption) ?r27
  case y27 => (intro w hSw; (try dsimp only at hSw); go_simp; (first | done | with_reducible rfl))
  try simp only [Act.put, List.setIfInBounds_toArray, List.set_cons_zero, List.set_cons_succ]
  refine take1 (i := 19) (v := ?v28) (some 3) rfl rfl (by kernel_rfl) (by kernel_rfl) (by kernel_rfl) (fun _ _ _ h => h) (Or.inl ⟨by rfl, ?y28⟩) (by assumption) ?r28
  case y28 => (intro w hSw; (try dsimp only at hSw); go_simp; (first | done | with_reducible rfl))
  try simp only [Act.put, List.setIfInBounds_toArray, List.set_cons_zero, List.set_cons_succ]
  refine wpAnyH_done (by kernel_rfl) ?_ _
  go_wp2_with fail
  go_ret2
  exact ⟨by rw [← HS.out]; rfl, HB9.out⟩
set_option maxRecDepth 100000 in
set_option maxHeartbeats 800000 in
theorem implText_no (x : Les) (w : World) (h : ¬ okLe x) :
    Calls Tryd.prog 19 #[lesV x] w fun e w' => e = .returned (.tuple #[.string ⟨#[]⟩, .bool false]) ∧ Below w.heap.size w w' := by
  have HO := Lib.hid (fun w => implIsLesson_any x w false ⟨fun e => by simp at e, fun e => absurd e h⟩)
  obtain ⟨id, cls, tch, room, day, bgn, mins⟩ := x
  change Hid (∀ w : World, Calls Tryd.prog 21 #[.agg #[.int .i64 id, .int .i64 cls, .int .i64 tch, .int .i64 room, .int .i64 day, .int .i64 bgn, .int .i64 mins]] w fun e w' => e = .returned (.bool false) ∧ Below w.heap.size w w') at HO
  show Calls Tryd.prog 19 #[.agg #[.int .i64 id, .int .i64 cls, .int .i64 tch, .int .i64 room, .int .i64 day, .int .i64 bgn, .int .i64 mins]] w fun e w' => e = .returned (.tuple #[.string ⟨#[]⟩, .bool false]) ∧ Below w.heap.size w w'
  clear h
  have HB0 : Hid (Below w.heap.size w w) := Lib.hid (Below.refl _ _)
  go_enter Tryd.func19, Tryd.ntmps19
  go_wp2_with fail
  have hb : Below w.heap.size w (w.alloc (.cells #[.int .i64 id, .int .i64 cls, .int .i64 tch, .int .i64 room, .int .i64 day, .int .i64 bgn, .int .i64 mins] 31)) := (Below.refl _ _).alloc (Nat.le_refl _) _
  have hk : (w.alloc (.cells #[.int .i64 id, .int .i64 cls, .int .i64 tch, .int .i64 room, .int .i64 day, .int .i64 bgn, .int .i64 mins] 31)).heap[w.heap.size]? = some (.cells #[.int .i64 id, .int .i64 cls, .int .i64 tch, .int .i64 room, .int .i64 day, .int .i64 bgn, .int .i64 mins] 31 (0, 0)) := alloc_at rfl
  have hz : (w.alloc (.cells #[.int .i64 id, .int .i64 cls, .int .i64 tch, .int .i64 room, .int .i64 day, .int .i64 bgn, .int .i64 mins] 31)).heap.size = w.heap.size + 1 := by simp
  generalize w.alloc (.cells #[.int .i64 id, .int .i64 cls, .int .i64 tch, .int .i64 room, .int .i64 day, .int .i64 bgn, .int .i64 mins] 31) = w1 at hb hk hz ⊢
  have HB1 : Hid (Below w.heap.size w w1) := Lib.hid (HB0.out.trans (hb.mono HB0.out.size))
  have HZ1 : Hid (w.heap.size ≤ w1.heap.size) := Lib.hid hb.size
  have HKf1 := Lib.hid hk
  replace HZ1 : Hid (w.heap.size < w1.heap.size) := Lib.hid (by omega)
  have HE1 := Lib.hid hz
  clear hb hk hz
  have ltf := lt_of_block HKf1.out
  obtain ⟨cf0, cf1, cf2, cf3, cf4, cf5, cf6, ff0, ff1, ff2, ff3, ff4, ff5, ff6⟩ := cell7 HKf1.out
  refine (HO.out _).mono ?_
  rintro e w2 ⟨rfl, hb⟩
  have HB2 : Hid (Below w.heap.size w w2) := Lib.hid (HB1.out.trans (hb.mono HB1.out.size))
  have HZ2 : Hid (w1.heap.size ≤ w2.heap.size) := Lib.hid hb.size
  have HKf2 := Lib.hid ((hb.block _ (lt_of_block HKf1.out)).trans HKf1.out)
  clear hb
  go_wp2_with fail
  go_ret2
  exact ⟨rfl, HB2.out⟩
end Go.Proofs.YtblbeoeklkcamaaDoor
