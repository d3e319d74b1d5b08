/- The model's text of a lesson. -/
import Derived.Test.YtblbeoeklkcamaaDoorLtc
import Derived.Test.YtblbeoeklkcamaaDoorLe1
import Derived.Deep.RegionHeld3
namespace Go.Proofs.YtblbeoeklkcamaaDoor
set_option linter.unusedVariables false
open Go.RowKit

set_option maxRecDepth 100000 in
set_option maxHeartbeats 3200000 in
theorem specText_yes (x : Les) (w : World) (h : okLe x) :
    Calls Tryd.prog 20 #[lesV x] w fun e w' => e = .returned (.tuple #[.string (txL (dayB x.day.toNat) x.cls x.bgn (endL x) x.room), .bool true]) ∧ Below w.heap.size w w' := by
  have HO := Lib.hid (fun w => l11One_any x w true ⟨fun _ => h, fun _ => rfl⟩)
  obtain ⟨-, ⟨c0, c1⟩, -, ⟨r0, r1⟩, ⟨d0, d1⟩, ⟨b0, b1⟩, hm⟩ := id h
  have hend := okLe_end h
  obtain ⟨id, cls, tch, room, day, bgn, mins⟩ := x
  change Hid (∀ w : World, Calls Tryd.prog 46 #[.agg #[.int .i64 id, .int .i64 cls, .int .i64 tch, .int .i64 room, .int .i64 day, .int .i64 bgn, .int .i64 mins]] w fun e w' => e = .returned (.bool true) ∧ Below w.heap.size w w') at HO
  show Calls Tryd.prog 20 #[.agg #[.int .i64 id, .int .i64 cls, .int .i64 tch, .int .i64 room, .int .i64 day, .int .i64 bgn, .int .i64 mins]] w fun e w' => e = .returned (.tuple #[.string (txL (dayB day.toNat) cls bgn (endL ⟨id, cls, tch, room, day, bgn, mins⟩) room), .bool true]) ∧ Below w.heap.size w w'
  simp only at c0 c1 r0 r1 d0 d1 b0 b1 hm hend
  generalize endL ⟨id, cls, tch, room, day, bgn, mins⟩ = en at hend ⊢
  have e0 : 0 ≤ en := by omega
  have e1 : en ≤ 9999 := by omega
  obtain ⟨j, rfl⟩ : ∃ j : Nat, day = (j : Int) := ⟨day.toNat, by omega⟩
  have hjt : ((j : Int).toNat) = j := Int.toNat_natCast j
  rw [hjt]
  have hj7 : j < 7 := by omega
  have sD := day_size j
  obtain ⟨T, hT⟩ : ∃ T : Int → ByteArray, ∀ v, T v = nmS v := ⟨_, fun _ => rfl⟩
  obtain ⟨U, hU⟩ : ∃ U : Int → ByteArray, ∀ v, U v = clS v := ⟨_, fun _ => rfl⟩
  have HTC : Hid (∀ v w, 0 ≤ v → v ≤ 9999 → Calls Tryd.prog 47 #[.int .i64 v] w fun e w' => e = .returned (.string (T v)) ∧ Below w.heap.size w w') := Lib.hid (fun v w h0 h1 => by rw [hT]; exact (l1Num_any v w (by omega) (by omega)).mono (by rintro e w' ⟨rfl, m, rfl⟩; exact ⟨rfl, bl_drewN (Below.refl _ _) _⟩))
  have HUC : Hid (∀ v w, 0 ≤ v → v ≤ 9999 → Calls Tryd.prog 48 #[.int .i64 v] w fun e w' => e = .returned (.string (U v)) ∧ Below w.heap.size w w') := Lib.hid (fun v w h0 h1 => by rw [hU]; exact (l11Clock_any v w h0 h1).mono (by rintro e w' ⟨rfl, m, rfl⟩; exact ⟨rfl, bl_drewN (Below.refl _ _) _⟩))
  have HT : Hid (txL (dayB j) cls bgn en room = clsS ++ T cls ++ spS ++ dayB j ++ spS ++ U bgn ++ dsS ++ U en ++ romS ++ T room) := Lib.hid (by rw [hT, hT, hU, hU]; rfl)
  have sA : (T cls).size ≤ 19 := by rw [hT]; exact nmS_size _ (by omega) (by omega)
  have sF : (T room).size ≤ 19 := by rw [hT]; exact nmS_size _ (by omega) (by omega)
  have sB : (U bgn).size ≤ 22 := by rw [hU]; exact clS_size _ (by omega) (by omega)
  have sE : (U en).size ≤ 22 := by rw [hU]; exact clS_size _ (by omega) (by omega)
  have hen : IntKind.i64.wrap (bgn + mins) = en := by rw [IntKind.wrap_i64]; omega
  have z1 : (0 : Int) ≤ (j : Int) := by omega
  have z2 : (j : Int) < 7 := by omega
  have HA : Hid (∀ w, Calls Tryd.prog 47 #[.int .i64 cls] w fun e w' => e = .returned (.string (T cls)) ∧ Below w.heap.size w w') := Lib.hid (fun w => HTC.out cls w (by omega) (by omega))
  have HF : Hid (∀ w, Calls Tryd.prog 47 #[.int .i64 room] w fun e w' => e = .returned (.string (T room)) ∧ Below w.heap.size w w') := Lib.hid (fun w => HTC.out room w (by omega) (by omega))
  have HB : Hid (∀ w, Calls Tryd.prog 48 #[.int .i64 bgn] w fun e w' => e = .returned (.string (U bgn)) ∧ Below w.heap.size w w') := Lib.hid (fun w => HUC.out bgn w (by omega) (by omega))
  have HE : Hid (∀ w, Calls Tryd.prog 48 #[.int .i64 en] w fun e w' => e = .returned (.string (U en)) ∧ Below w.heap.size w w') := Lib.hid (fun w => HUC.out en w (by omega) (by omega))
  generalize T cls = A at HT HA sA
  generalize T room = F at HT HF sF
  generalize U bgn = B at HT HB sB
  generalize U en = E at HT HE sE
  clear hT hU h hjt HTC HUC
  obtain ⟨D, hD⟩ : ∃ D, D = dayB j := ⟨_, rfl⟩
  rw [← hD] at HT sD ⊢
  have g0 : ¬ 9223372036854775807 < 6 + A.size := by omega
  have g1 : ¬ 9223372036854775807 < 6 + A.size + 1 := by omega
  have g2 : ¬ 9223372036854775807 < 6 + A.size + 1 + D.size := by omega
  have g3 : ¬ 9223372036854775807 < 6 + A.size + 1 + D.size + 1 := by omega
  have g4 : ¬ 9223372036854775807 < 6 + A.size + 1 + D.size + 1 + B.size := by omega
  have g5 : ¬ 9223372036854775807 < 6 + A.size + 1 + D.size + 1 + B.size + 1 := by omega
  have g6 : ¬ 9223372036854775807 < 6 + A.size + 1 + D.size + 1 + B.size + 1 + E.size := by omega
  have g7 : ¬ 9223372036854775807 < 6 + A.size + 1 + D.size + 1 + B.size + 1 + E.size + 6 := by omega
  have g8 : ¬ 9223372036854775807 < 6 + A.size + 1 + D.size + 1 + B.size + 1 + E.size + 6 + F.size := by omega
  have HB0 : Hid (Below w.heap.size w w) := Lib.hid (Below.refl _ _)
  go_enter Tryd.func20, Tryd.ntmps20
  go_wp2_with fail
  have hb : Below w.heap.size w (w.alloc (.cells #[.int .i64 id, .int .i64 cls, .int .i64 tch, .int .i64 room, .int .i64 (j : Int), .int .i64 bgn, .int .i64 mins] 31)) := (Below.refl _ _).alloc (Nat.le_refl _) _
  have hk : (w.alloc (.cells #[.int .i64 id, .int .i64 cls, .int .i64 tch, .int .i64 room, .int .i64 (j : Int), .int .i64 bgn, .int .i64 mins] 31)).heap[w.heap.size]? = some (.cells #[.int .i64 id, .int .i64 cls, .int .i64 tch, .int .i64 room, .int .i64 (j : Int), .int .i64 bgn, .int .i64 mins] 31 (0, 0)) := alloc_at rfl
  have hz : (w.alloc (.cells #[.int .i64 id, .int .i64 cls, .int .i64 tch, .int .i64 room, .int .i64 (j : Int), .int .i64 bgn, .int .i64 mins] 31)).heap.size = w.heap.size + 1 := by simp
  generalize w.alloc (.cells #[.int .i64 id, .int .i64 cls, .int .i64 tch, .int .i64 room, .int .i64 (j : Int), .int .i64 bgn, .int .i64 mins] 31) = w1 at hb hk hz ⊢
  have HB1 : Hid (Below w.heap.size w w1) := Lib.hid (HB0.out.trans (hb.mono HB0.out.size))
  have HZ1 : Hid (w.heap.size ≤ w1.heap.size) := Lib.hid hb.size
  have HKf1 := Lib.hid hk
  replace HZ1 : Hid (w.heap.size < w1.heap.size) := Lib.hid (by omega)
  have HE1 := Lib.hid hz
  clear hb hk hz
  have ltf := lt_of_block HKf1.out
  obtain ⟨cf0, cf1, cf2, cf3, cf4, cf5, cf6, ff0, ff1, ff2, ff3, ff4, ff5, ff6⟩ := cell7 HKf1.out
  refine (HO.out _).mono ?_
  rintro e w2 ⟨rfl, hb⟩
  have HB2 : Hid (Below w.heap.size w w2) := Lib.hid (HB1.out.trans (hb.mono HB1.out.size))
  have HZ2 : Hid (w1.heap.size ≤ w2.heap.size) := Lib.hid hb.size
  have HKf2 := Lib.hid ((hb.block _ (lt_of_block HKf1.out)).trans HKf1.out)
  clear hb
  clear cf0 cf1 cf2 cf3 cf4 cf5 cf6 ff0 ff1 ff2 ff3 ff4 ff5 ff6 ltf
  have ltf := lt_of_block HKf2.out
  obtain ⟨cf0, cf1, cf2, cf3, cf4, cf5, cf6, ff0, ff1, ff2, ff3, ff4, ff5, ff6⟩ := cell7 HKf2.out
  go_wp2_with fail
  have HDD : ∀ h : j < ([Value.string ⟨#[109, 111]⟩, Value.string ⟨#[116, 117]⟩, Value.string ⟨#[119, 101]⟩, Value.string ⟨#[116, 104]⟩, Value.string ⟨#[102, 114]⟩, Value.string ⟨#[115, 97]⟩, Value.string ⟨#[115, 117]⟩] : List Value).length, ([Value.string ⟨#[109, 111]⟩, Value.string ⟨#[116, 117]⟩, Value.string ⟨#[119, 101]⟩, Value.string ⟨#[116, 104]⟩, Value.string ⟨#[102, 114]⟩, Value.string ⟨#[115, 97]⟩, Value.string ⟨#[115, 117]⟩] : List Value)[j]'h = .string D := by
    intro h
    rw [hD]
    rcases (by omega : j = 0 ∨ j = 1 ∨ j = 2 ∨ j = 3 ∨ j = 4 ∨ j = 5 ∨ j = 6) with rfl | rfl | rfl | rfl | rfl | rfl | rfl <;> rfl
  simp only [HDD]
  have hb : Below w2.heap.size w2 (w2.alloc (.cells #[Value.string ⟨#[109, 111]⟩, Value.string ⟨#[116, 117]⟩, Value.string ⟨#[119, 101]⟩, Value.string ⟨#[116, 104]⟩, Value.string ⟨#[102, 114]⟩, Value.string ⟨#[115, 97]⟩, Value.string ⟨#[115, 117]⟩] 9)) := (Below.refl _ _).alloc (Nat.le_refl _) _
  generalize w2.alloc (.cells #[Value.string ⟨#[109, 111]⟩, Value.string ⟨#[116, 117]⟩, Value.string ⟨#[119, 101]⟩, Value.string ⟨#[116, 104]⟩, Value.string ⟨#[102, 114]⟩, Value.string ⟨#[115, 97]⟩, Value.string ⟨#[115, 117]⟩] 9) = w3 at hb ⊢
  clear HDD hD
  have HB3 : Hid (Below w.heap.size w w3) := Lib.hid (HB2.out.trans (hb.mono HB2.out.size))
  have HZ3 : Hid (w2.heap.size ≤ w3.heap.size) := Lib.hid hb.size
  have HKf3 := Lib.hid ((hb.block _ (lt_of_block HKf2.out)).trans HKf2.out)
  clear hb
  clear cf0 cf1 cf2 cf3 cf4 cf5 cf6 ff0 ff1 ff2 ff3 ff4 ff5 ff6 ltf
  have ltf := lt_of_block HKf3.out
  obtain ⟨cf0, cf1, cf2, cf3, cf4, cf5, cf6, ff0, ff1, ff2, ff3, ff4, ff5, ff6⟩ := cell7 HKf3.out
  refine wp_region_held_drew (S := (fun w' => w'.cell? ⟨w.heap.size, 0, none⟩ = some (.int .i64 id) ∧ w'.cell? ⟨w.heap.size, 1, none⟩ = some (.int .i64 cls) ∧ w'.cell? ⟨w.heap.size, 2, none⟩ = some (.int .i64 tch) ∧ w'.cell? ⟨w.heap.size, 3, none⟩ = some (.int .i64 room) ∧ w'.cell? ⟨w.heap.size, 4, none⟩ = some (.int .i64 (j : Int)) ∧ w'.cell? ⟨w.heap.size, 5, none⟩ = some (.int .i64 bgn) ∧ w'.cell? ⟨w.heap.size, 6, none⟩ = some (.int .i64 mins))) (by kernel_rfl) (⟨cf0, cf1, cf2, cf3, cf4, cf5, cf6⟩) (fun hHeld => ?_)
  have hb : Below w3.heap.size w3 w3.drew := (Below.refl _ _).drew
  generalize w3.drew = w4 at hb hHeld ⊢
  have HB4 : Hid (Below w.heap.size w w4) := Lib.hid (HB3.out.trans (hb.mono HB3.out.size))
  have HZ4 : Hid (w3.heap.size ≤ w4.heap.size) := Lib.hid hb.size
  have HKf4 := Lib.hid ((hb.block _ (lt_of_block HKf3.out)).trans HKf3.out)
  clear hb
  clear cf0 cf1 cf2 cf3 cf4 cf5 cf6 ff0 ff1 ff2 ff3 ff4 ff5 ff6 ltf
  have ltf := lt_of_block HKf4.out
  obtain ⟨cf0, cf1, cf2, cf3, cf4, cf5, cf6, ff0, ff1, ff2, ff3, ff4, ff5, ff6⟩ := cell7 HKf4.out
  refine take1 (i := 0) (v := ?v1) (some 13) rfl rfl (by kernel_rfl) (by kernel_rfl) (by kernel_rfl) (fun _ _ _ h => h) (Or.inl ⟨by rfl, ?y1⟩) (by assumption) ?r1
  case y1 => (intro w hSw; (try dsimp only at hSw); go_simp; (first | done | with_reducible rfl))
  try simp only [Act.put, List.setIfInBounds_toArray, List.set_cons_zero, List.set_cons_succ]
  refine take1 (i := 1) (v := ?v2) (some 14) rfl rfl (by kernel_rfl) (by kernel_rfl) (by kernel_rfl) (fun _ _ _ h => h) (Or.inl ⟨by rfl, ?y2⟩) (by assumption) ?r2
  case y2 => (intro w hSw; (try dsimp only at hSw); go_simp; (first | done | with_reducible rfl))
  try simp only [Act.put, List.setIfInBounds_toArray, List.set_cons_zero, List.set_cons_succ]
  refine take1 (i := 5) (v := ?v3) (some 18) rfl rfl (by kernel_rfl) (by kernel_rfl) (by kernel_rfl) (fun _ _ _ h => h) (Or.inl ⟨by rfl, ?y3⟩) (by assumption) ?r3
  case y3 => (intro w hSw; (try dsimp only at hSw); go_simp; (first | done | with_reducible rfl))
  try simp only [Act.put, List.setIfInBounds_toArray, List.set_cons_zero, List.set_cons_succ]
  refine take1 (i := 8) (v := ?v4) (some 21) rfl rfl (by kernel_rfl) (by kernel_rfl) (by kernel_rfl) (fun _ _ _ h => h) (Or.inl ⟨by rfl, ?y4⟩) (by assumption) ?r4
  case y4 => (intro w hSw; (try dsimp only at hSw); go_simp; (first | done | with_reducible rfl))
  try simp only [Act.put, List.setIfInBounds_toArray, List.set_cons_zero, List.set_cons_succ]
  refine take1 (i := 9) (v := ?v5) (some 22) rfl rfl (by kernel_rfl) (by kernel_rfl) (by kernel_rfl) (fun _ _ _ h => h) (Or.inl ⟨by rfl, ?y5⟩) (by assumption) ?r5
  case y5 => (intro w hSw; (try dsimp only at hSw); go_simp; (first | done | with_reducible rfl))
  try simp only [Act.put, List.setIfInBounds_toArray, List.set_cons_zero, List.set_cons_succ]
  refine take1 (i := 13) (v := ?v6) (some 26) rfl rfl (by kernel_rfl) (by kernel_rfl) (by kernel_rfl) (fun _ _ _ h => h) (Or.inl ⟨by rfl, ?y6⟩) (by assumption) ?r6
  case y6 => (intro w hSw; (try dsimp only at hSw); go_simp; (first | done | with_reducible rfl))
  try simp only [Act.put, List.setIfInBounds_toArray, List.set_cons_zero, List.set_cons_succ]
  refine take1 (i := 14) (v := ?v7) (some 27) rfl rfl (by kernel_rfl) (by kernel_rfl) (by kernel_rfl) (fun _ _ _ h => h) (Or.inl ⟨by rfl, ?y7⟩) (by assumption) ?r7
  case y7 => (intro w hSw; (try dsimp only at hSw); go_simp; (first | done | with_reducible rfl))
  try simp only [Act.put, List.setIfInBounds_toArray, List.set_cons_zero, List.set_cons_succ]
  refine take1 (i := 15) (v := ?v8) (some 28) rfl rfl (by kernel_rfl) (by kernel_rfl) (by kernel_rfl) (fun _ _ _ h => h) (Or.inl ⟨by rfl, ?y8⟩) (by assumption) ?r8
  case y8 => (intro w hSw; (try dsimp only at hSw); go_simp; (first | done | with_reducible rfl))
  try simp only [Act.put, List.setIfInBounds_toArray, List.set_cons_zero, List.set_cons_succ]
  refine take1 (i := 16) (v := ?v9) (some 29) rfl rfl (by kernel_rfl) (by kernel_rfl) (by kernel_rfl) (fun _ _ _ h => h) (Or.inl ⟨by rfl, ?y9⟩) (by assumption) ?r9
  case y9 => (intro w hSw; (try dsimp only at hSw); go_simp; (first | done | with_reducible rfl))
  try simp only [Act.put, List.setIfInBounds_toArray, List.set_cons_zero, List.set_cons_succ]
  refine take1 (i := 17) (v := ?v10) (some 30) rfl rfl (by kernel_rfl) (by kernel_rfl) (by kernel_rfl) (fun _ _ _ h => h) (Or.inl ⟨by rfl, ?y10⟩) (by assumption) ?r10
  case y10 => (intro w hSw; (try dsimp only at hSw); go_simp; (first | done | with_reducible rfl))
  try simp only [Act.put, List.setIfInBounds_toArray, List.set_cons_zero, List.set_cons_succ]
  refine take1 (i := 21) (v := ?v11) (some 34) rfl rfl (by kernel_rfl) (by kernel_rfl) (by kernel_rfl) (fun _ _ _ h => h) (Or.inl ⟨by rfl, ?y11⟩) (by assumption) ?r11
  case y11 => (intro w hSw; (try dsimp only at hSw); go_simp; (first | done | with_reducible rfl))
  try simp only [Act.put, List.setIfInBounds_toArray, List.set_cons_zero, List.set_cons_succ]
  refine take1 (i := 22) (v := ?v12) (some 35) rfl rfl (by kernel_rfl) (by kernel_rfl) (by kernel_rfl) (fun _ _ _ h => h) (Or.inl ⟨by rfl, ?y12⟩) (by assumption) ?r12
  case y12 => (intro w hSw; (try dsimp only at hSw); go_simp; (first | done | with_reducible rfl))
  try simp only [Act.put, List.setIfInBounds_toArray, List.set_cons_zero, List.set_cons_succ]
  refine wpAnyH_ready (rs := [2]) (by kernel_rfl) (by simp) ?_
  refine AllReadyH.cons rfl (fun K hK => ?_) AllReadyH.nil
  go_simp
  go_at_call 47
  refine (HA.out _).mono ?_
  rintro e w5 ⟨rfl, hb⟩
  have HB5 : Hid (Below w.heap.size w w5) := Lib.hid (HB4.out.trans (hb.mono HB4.out.size))
  have HZ5 : Hid (w4.heap.size ≤ w5.heap.size) := Lib.hid hb.size
  have HKf5 := Lib.hid ((hb.block _ (lt_of_block HKf4.out)).trans HKf4.out)
  clear hb
  clear cf0 cf1 cf2 cf3 cf4 cf5 cf6 ff0 ff1 ff2 ff3 ff4 ff5 ff6 ltf
  have ltf := lt_of_block HKf5.out
  obtain ⟨cf0, cf1, cf2, cf3, cf4, cf5, cf6, ff0, ff1, ff2, ff3, ff4, ff5, ff6⟩ := cell7 HKf5.out
  try go_simp
  refine hK.out _ _ (⟨cf0, cf1, cf2, cf3, cf4, cf5, cf6⟩) (fun hHeld => ?_)
  clear hK K
  try simp only [Act.put, List.setIfInBounds_toArray, List.set_cons_zero, List.set_cons_succ]
  refine take1 (i := 3) (v := ?v13) (some 16) rfl rfl (by kernel_rfl) (by kernel_rfl) (by kernel_rfl) (fun _ _ _ h => h) (Or.inl ⟨by rfl, ?y13⟩) (by assumption) ?r13
  case y13 => (intro w hSw; (try dsimp only at hSw); go_simp; (first | done | with_reducible rfl))
  try simp only [Act.put, List.setIfInBounds_toArray, List.set_cons_zero, List.set_cons_succ]
  refine take1 (i := 4) (v := ?v14) (some 17) rfl rfl (by kernel_rfl) (by kernel_rfl) (by kernel_rfl) (fun _ _ _ h => h) (Or.inl ⟨by rfl, ?y14⟩) (by assumption) ?r14
  case y14 => (intro w hSw; (try dsimp only at hSw); go_simp; (first | done | with_reducible rfl))
  try simp only [Act.put, List.setIfInBounds_toArray, List.set_cons_zero, List.set_cons_succ]
  refine take1 (i := 6) (v := ?v15) (some 19) rfl rfl (by kernel_rfl) (by kernel_rfl) (by kernel_rfl) (fun _ _ _ h => h) (Or.inl ⟨by rfl, ?y15⟩) (by assumption) ?r15
  case y15 => (intro w hSw; (try dsimp only at hSw); go_simp; (first | done | with_reducible rfl))
  try simp only [Act.put, List.setIfInBounds_toArray, List.set_cons_zero, List.set_cons_succ]
  refine take1 (i := 7) (v := ?v16) (some 20) rfl rfl (by kernel_rfl) (by kernel_rfl) (by kernel_rfl) (fun _ _ _ h => h) (Or.inl ⟨by rfl, ?y16⟩) (by assumption) ?r16
  case y16 => (intro w hSw; (try dsimp only at hSw); go_simp; (first | done | with_reducible rfl))
  try simp only [Act.put, List.setIfInBounds_toArray, List.set_cons_zero, List.set_cons_succ]
  refine wpAnyH_ready (rs := [10]) (by kernel_rfl) (by simp) ?_
  refine AllReadyH.cons rfl (fun K hK => ?_) AllReadyH.nil
  go_simp
  go_at_call 48
  refine (HB.out _).mono ?_
  rintro e w6 ⟨rfl, hb⟩
  have HB6 : Hid (Below w.heap.size w w6) := Lib.hid (HB5.out.trans (hb.mono HB5.out.size))
  have HZ6 : Hid (w5.heap.size ≤ w6.heap.size) := Lib.hid hb.size
  have HKf6 := Lib.hid ((hb.block _ (lt_of_block HKf5.out)).trans HKf5.out)
  clear hb
  clear cf0 cf1 cf2 cf3 cf4 cf5 cf6 ff0 ff1 ff2 ff3 ff4 ff5 ff6 ltf
  have ltf := lt_of_block HKf6.out
  obtain ⟨cf0, cf1, cf2, cf3, cf4, cf5, cf6, ff0, ff1, ff2, ff3, ff4, ff5, ff6⟩ := cell7 HKf6.out
  try go_simp
  refine hK.out _ _ (⟨cf0, cf1, cf2, cf3, cf4, cf5, cf6⟩) (fun hHeld => ?_)
  clear hK K
  try simp only [Act.put, List.setIfInBounds_toArray, List.set_cons_zero, List.set_cons_succ]
  refine take1 (i := 11) (v := ?v17) (some 24) rfl rfl (by kernel_rfl) (by kernel_rfl) (by kernel_rfl) (fun _ _ _ h => h) (Or.inl ⟨by rfl, ?y17⟩) (by assumption) ?r17
  case y17 => (intro w hSw; (try dsimp only at hSw); go_simp; (first | done | with_reducible rfl))
  try simp only [Act.put, List.setIfInBounds_toArray, List.set_cons_zero, List.set_cons_succ]
  refine take1 (i := 12) (v := ?v18) (some 25) rfl rfl (by kernel_rfl) (by kernel_rfl) (by kernel_rfl) (fun _ _ _ h => h) (Or.inl ⟨by rfl, ?y18⟩) (by assumption) ?r18
  case y18 => (intro w hSw; (try dsimp only at hSw); go_simp; (first | done | with_reducible rfl))
  try simp only [Act.put, List.setIfInBounds_toArray, List.set_cons_zero, List.set_cons_succ]
  refine wpAnyH_ready (rs := [18]) (by kernel_rfl) (by simp) ?_
  refine AllReadyH.cons rfl (fun K hK => ?_) AllReadyH.nil
  go_simp
  go_at_call 48
  rw [← hend]
  refine (HE.out _).mono ?_
  rintro e w7 ⟨rfl, hb⟩
  have HB7 : Hid (Below w.heap.size w w7) := Lib.hid (HB6.out.trans (hb.mono HB6.out.size))
  have HZ7 : Hid (w6.heap.size ≤ w7.heap.size) := Lib.hid hb.size
  have HKf7 := Lib.hid ((hb.block _ (lt_of_block HKf6.out)).trans HKf6.out)
  clear hb
  clear cf0 cf1 cf2 cf3 cf4 cf5 cf6 ff0 ff1 ff2 ff3 ff4 ff5 ff6 ltf
  have ltf := lt_of_block HKf7.out
  obtain ⟨cf0, cf1, cf2, cf3, cf4, cf5, cf6, ff0, ff1, ff2, ff3, ff4, ff5, ff6⟩ := cell7 HKf7.out
  try go_simp
  refine hK.out _ _ (⟨cf0, cf1, cf2, cf3, cf4, cf5, cf6⟩) (fun hHeld => ?_)
  clear hK K
  try simp only [Act.put, List.setIfInBounds_toArray, List.set_cons_zero, List.set_cons_succ]
  refine take1 (i := 19) (v := ?v19) (some 32) rfl rfl (by kernel_rfl) (by kernel_rfl) (by kernel_rfl) (fun _ _ _ h => h) (Or.inl ⟨by rfl, ?y19⟩) (by assumption) ?r19
  case y19 => (intro w hSw; (try dsimp only at hSw); go_simp; (first | done | with_reducible rfl))
  try simp only [Act.put, List.setIfInBounds_toArray, List.set_cons_zero, List.set_cons_succ]
  refine take1 (i := 20) (v := ?v20) (some 33) rfl rfl (by kernel_rfl) (by kernel_rfl) (by kernel_rfl) (fun _ _ _ h => h) (Or.inl ⟨by rfl, ?y20⟩) (by assumption) ?r20
  case y20 => (intro w hSw; (try dsimp only at hSw); go_simp; (first | done | with_reducible rfl))
  try simp only [Act.put, List.setIfInBounds_toArray, List.set_cons_zero, List.set_cons_succ]
  refine wpAnyH_ready (rs := [23]) (by kernel_rfl) (by simp) ?_
  refine AllReadyH.cons rfl (fun K hK => ?_) AllReadyH.nil
  go_simp
  go_at_call 47
  refine (HF.out _).mono ?_
  rintro e w8 ⟨rfl, hb⟩
  have HB8 : Hid (Below w.heap.size w w8) := Lib.hid (HB7.out.trans (hb.mono HB7.out.size))
  have HZ8 : Hid (w7.heap.size ≤ w8.heap.size) := Lib.hid hb.size
  have HKf8 := Lib.hid ((hb.block _ (lt_of_block HKf7.out)).trans HKf7.out)
  clear hb
  clear cf0 cf1 cf2 cf3 cf4 cf5 cf6 ff0 ff1 ff2 ff3 ff4 ff5 ff6 ltf
  have ltf := lt_of_block HKf8.out
  obtain ⟨cf0, cf1, cf2, cf3, cf4, cf5, cf6, ff0, ff1, ff2, ff3, ff4, ff5, ff6⟩ := cell7 HKf8.out
  try go_simp
  refine hK.out _ _ (⟨cf0, cf1, cf2, cf3, cf4, cf5, cf6⟩) (fun hHeld => ?_)
  clear hK K
  try simp only [Act.put, List.setIfInBounds_toArray, List.set_cons_zero, List.set_cons_succ]
  refine take1 (i := 24) (v := ?v21) (some 37) rfl rfl (by kernel_rfl) (by kernel_rfl) (by kernel_rfl) (fun _ _ _ h => h) (Or.inl ⟨by rfl, ?y21⟩) (by assumption) ?r21
  case y21 => (intro w hSw; (try dsimp only at hSw); go_simp; (first | done | with_reducible rfl))
  try simp only [Act.put, List.setIfInBounds_toArray, List.set_cons_zero, List.set_cons_succ]
  refine take1 (i := 25) (v := ?v22) (some 2) rfl rfl (by kernel_rfl) (by kernel_rfl) (by kernel_rfl) (fun _ _ _ h => h) (Or.inl ⟨by rfl, ?y22⟩) (by assumption) ?r22
  case y22 => (intro w hSw; (try dsimp only at hSw); go_simp; (first | done | with_reducible rfl))
  try simp only [Act.put, List.setIfInBounds_toArray, List.set_cons_zero, List.set_cons_succ]
  refine take1 (i := 26) (v := ?v23) (some 3) rfl rfl (by kernel_rfl) (by kernel_rfl) (by kernel_rfl) (fun _ _ _ h => h) (Or.inl ⟨by rfl, ?y23⟩) (by assumption) ?r23
  case y23 => (intro w hSw; (try dsimp only at hSw); go_simp; (first | done | with_reducible rfl))
  try simp only [Act.put, List.setIfInBounds_toArray, List.set_cons_zero, List.set_cons_succ]
  refine wpAnyH_done (by kernel_rfl) ?_ _
  go_wp2_with fail
  go_ret2
  exact ⟨by rw [HT.out]; rfl, HB8.out⟩
set_option maxRecDepth 100000 in
set_option maxHeartbeats 800000 in
theorem specText_no (x : Les) (w : World) (h : ¬ okLe x) :
    Calls Tryd.prog 20 #[lesV x] w fun e w' => e = .returned (.tuple #[.string ⟨#[]⟩, .bool false]) ∧ Below w.heap.size w w' := by
  have HO := Lib.hid (fun w => l11One_any x w false ⟨fun e => by simp at e, fun e => absurd e h⟩)
  obtain ⟨id, cls, tch, room, day, bgn, mins⟩ := x
  change Hid (∀ w : World, Calls Tryd.prog 46 #[.agg #[.int .i64 id, .int .i64 cls, .int .i64 tch, .int .i64 room, .int .i64 day, .int .i64 bgn, .int .i64 mins]] w fun e w' => e = .returned (.bool false) ∧ Below w.heap.size w w') at HO
  show Calls Tryd.prog 20 #[.agg #[.int .i64 id, .int .i64 cls, .int .i64 tch, .int .i64 room, .int .i64 day, .int .i64 bgn, .int .i64 mins]] w fun e w' => e = .returned (.tuple #[.string ⟨#[]⟩, .bool false]) ∧ Below w.heap.size w w'
  clear h
  have HB0 : Hid (Below w.heap.size w w) := Lib.hid (Below.refl _ _)
  go_enter Tryd.func20, Tryd.ntmps20
  go_wp2_with fail
  have hb : Below w.heap.size w (w.alloc (.cells #[.int .i64 id, .int .i64 cls, .int .i64 tch, .int .i64 room, .int .i64 day, .int .i64 bgn, .int .i64 mins] 31)) := (Below.refl _ _).alloc (Nat.le_refl _) _
  have hk : (w.alloc (.cells #[.int .i64 id, .int .i64 cls, .int .i64 tch, .int .i64 room, .int .i64 day, .int .i64 bgn, .int .i64 mins] 31)).heap[w.heap.size]? = some (.cells #[.int .i64 id, .int .i64 cls, .int .i64 tch, .int .i64 room, .int .i64 day, .int .i64 bgn, .int .i64 mins] 31 (0, 0)) := alloc_at rfl
  have hz : (w.alloc (.cells #[.int .i64 id, .int .i64 cls, .int .i64 tch, .int .i64 room, .int .i64 day, .int .i64 bgn, .int .i64 mins] 31)).heap.size = w.heap.size + 1 := by simp
  generalize w.alloc (.cells #[.int .i64 id, .int .i64 cls, .int .i64 tch, .int .i64 room, .int .i64 day, .int .i64 bgn, .int .i64 mins] 31) = w1 at hb hk hz ⊢
  have HB1 : Hid (Below w.heap.size w w1) := Lib.hid (HB0.out.trans (hb.mono HB0.out.size))
  have HZ1 : Hid (w.heap.size ≤ w1.heap.size) := Lib.hid hb.size
  have HKf1 := Lib.hid hk
  replace HZ1 : Hid (w.heap.size < w1.heap.size) := Lib.hid (by omega)
  have HE1 := Lib.hid hz
  clear hb hk hz
  have ltf := lt_of_block HKf1.out
  obtain ⟨cf0, cf1, cf2, cf3, cf4, cf5, cf6, ff0, ff1, ff2, ff3, ff4, ff5, ff6⟩ := cell7 HKf1.out
  refine (HO.out _).mono ?_
  rintro e w2 ⟨rfl, hb⟩
  have HB2 : Hid (Below w.heap.size w w2) := Lib.hid (HB1.out.trans (hb.mono HB1.out.size))
  have HZ2 : Hid (w1.heap.size ≤ w2.heap.size) := Lib.hid hb.size
  have HKf2 := Lib.hid ((hb.block _ (lt_of_block HKf1.out)).trans HKf1.out)
  clear hb
  go_wp2_with fail
  go_ret2
  exact ⟨rfl, HB2.out⟩
end Go.Proofs.YtblbeoeklkcamaaDoor
