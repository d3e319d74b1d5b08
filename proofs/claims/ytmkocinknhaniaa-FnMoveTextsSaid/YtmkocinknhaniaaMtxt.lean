/- The model's MovesText. -/
import Derived.Test.YtmkocinknhaniaaKz
import Derived.Test.YtmkocinknhaniaaChd
import Derived.Laws.IdiomStrings
import Derived.Deep.RegionHeld3
import Derived.Deep.QuietTactic
namespace Go.Proofs.Ytmkocinknhaniaa
set_option linter.unusedVariables false
open Go.RowKit

def ulT (p : Int) : UInt8 := if p = 0 then 117 else 108
def sgT (x : Int) : UInt8 := if 0 < x then 43 else 45
def mvT (m : Mv) : List UInt8 := [chD m.rod, ulT m.part, sgT m.amt, chD (if 0 < m.amt then m.amt else -m.amt)]
def sepT (ms : List Mv) : List UInt8 := ms.flatMap fun m => 32 :: mvT m
def msT (ms : List Mv) : List UInt8 := (sepT ms).drop 1
theorem sepT_len (ms : List Mv) : (sepT ms).length = 5 * ms.length := by
  induction ms with
  | nil => rfl
  | cons m t ih =>
    have : sepT (m :: t) = (32 :: mvT m) ++ sepT t := rfl
    rw [this, List.length_append, ih]; simp [mvT]; omega
theorem msT_snoc (ms : List Mv) (k : Nat) (h : k < ms.length) (h0 : 0 < k) : msT (ms.take (k + 1)) = msT (ms.take k) ++ (32 :: mvT ms[k]) := by
  unfold msT
  have e : sepT (ms.take (k + 1)) = sepT (ms.take k) ++ (32 :: mvT ms[k]) := by
    unfold sepT; rw [List.take_succ_eq_append_getElem h, List.flatMap_append]; simp
  rw [e, List.drop_append_of_le_length (by rw [sepT_len, List.length_take]; omega)]
theorem msT_one (ms : List Mv) (h : 0 < ms.length) : msT (ms.take (0 + 1)) = mvT ms[0] := by
  unfold msT sepT
  rw [List.take_succ_eq_append_getElem h, List.flatMap_append]; simp
theorem msT_len (ms : List Mv) : (msT ms).length = 5 * ms.length - 1 := by unfold msT; rw [List.length_drop, sepT_len]

theorem l1Num_neg (x : Int) (w : World) (h0 : 1 ≤ x) (h1 : x ≤ 9) :
    Calls Try.prog 44 #[.int .i64 (-x)] w fun e w' => e = .returned (.string ⟨#[45, chD x]⟩) ∧ ∃ m, w' = w.drewN m := by
  have h := l1Num_any (-x) w (by omega) (by omega)
  rw [itoa_neg (-x) (by omega), Int.neg_neg, itoa_small x (by omega), dec_small x.toNat (by omega)] at h
  exact h

-- l4Text
set_option maxRecDepth 100000 in
set_option maxHeartbeats 12800000 in
theorem l4Text_any (v : Value) (ms : List Mv) (w : World) (h : RowsR 3 mvC w v ms) (ho : okMs ms) :
    Calls Try.prog 28 #[v] w fun e w' => e = .returned (.string ⟨(msT ms).toArray⟩) ∧ Below w.heap.size w w' := by
  have h60 := ho.2
  obtain ⟨a, cp, rfl⟩ := h.form
  have R1 := Lib.hid h.at
  have HO := Lib.hid ho
  clear h ho
  have HB0 : Hid (Below w.heap.size w w) := Lib.hid (Below.refl _ _)
  go_enter Try.func28, Try.ntmps28
  go_wp2_with fail
  go_loopw [3, 4] (fun s i wr => ∃ k : Nat, k ≤ ms.length ∧ i = .int .i64 k ∧ s = .string ⟨(msT (ms.take k)).toArray⟩ ∧ Below w.heap.size w wr) (fun _ i _ => ms.length - (intOf i).toNat)
  case atStart => exact ⟨0, Nat.zero_le _, rfl, rfl, Below.refl _ _⟩
  case round =>
    obtain ⟨k, hk, rfl, rfl, hb⟩ := hrel
    have HB := Lib.hid hb
    by_cases hlt : k < ms.length
    · have z1 : (0 : Int) ≤ (k : Int) := by omega
      have z2 : (k : Int) < (ms.length : Int) := by omega
      obtain ⟨b1, o1, rfl, l1, k1⟩ := R1.out _ hb k hlt
      have p0 : wr.cell? ⟨b1, o1 + k * 3, none⟩ = some (.int .i64 ms[k].rod) := k1 0 (by omega)
      have p1 : wr.cell? ⟨b1, o1 + k * 3 + 1, none⟩ = some (.int .i64 ms[k].part) := k1 1 (by omega)
      have p2 : wr.cell? ⟨b1, o1 + k * 3 + 2, none⟩ = some (.int .i64 ms[k].amt) := k1 2 (by omega)
      have hok := HO.out.1 k hlt
      obtain ⟨m, hm⟩ : ∃ m, ms[k] = m := ⟨_, rfl⟩
      rw [hm] at p0 p1 p2 hok
      obtain ⟨rod, part, amt⟩ := m
      have HMK := Lib.hid hm
      obtain ⟨⟨r0, r1⟩, ⟨q0, q1⟩, ⟨m0, m1⟩, m2⟩ := hok
      dsimp only at r0 r1 q0 q1 m0 m1 m2 p0 p1 p2
      have hs : (⟨(msT (ms.take k)).toArray⟩ : ByteArray).size ≤ 5 * k := by rw [mk_size, msT_len, List.length_take]; omega
      obtain ⟨s, hsv⟩ : ∃ s : ByteArray, s = ⟨(msT (ms.take k)).toArray⟩ := ⟨_, rfl⟩
      rw [← hsv] at hs ⊢
      have HS := Lib.hid hsv
      clear hb k1 hm hsv
      by_cases hk0 : k = 0
      · have HK0 := Lib.hid hk0
        clear hk0
        rcases (show part = 0 ∨ part = 1 by omega) with rfl | rfl
        · have HVP : Hid (0 < amt → s ++ ⟨#[chD rod]⟩ ++ ⟨#[117]⟩ ++ ⟨#[43]⟩ ++ ⟨#[chD amt]⟩ = ⟨(msT (ms.take (k + 1))).toArray⟩) := Lib.hid (by
            intro hpos
            have hk0 := HK0.out; subst hk0; rw [HS.out, msT_one ms hlt, HMK.out]; unfold mvT ulT sgT; simp [ByteArray.mk_append_mk, hpos, msT, sepT])
          have HVN : Hid (∀ x, 0 < x → amt = -x → s ++ ⟨#[chD rod]⟩ ++ ⟨#[117]⟩ ++ ⟨#[45, chD x]⟩ = ⟨(msT (ms.take (k + 1))).toArray⟩) := Lib.hid (by
            intro x hx hax
            have h1 : ¬ 0 < amt := by omega
            have h2 : -amt = x := by omega
            have hk0 := HK0.out; subst hk0; rw [HS.out, msT_one ms hlt, HMK.out]; unfold mvT ulT sgT; dsimp only; rw [if_neg h1, if_neg h1, h2]; simp [ByteArray.mk_append_mk, msT, sepT])
          have g1 : ¬ 9223372036854775807 < s.size + 1 := by omega
          have g2 : ¬ 9223372036854775807 < s.size + 1 + 1 := by omega
          have g3 : ¬ 9223372036854775807 < s.size + 1 + 1 + 1 := by omega
          have g4 : ¬ 9223372036854775807 < s.size + 1 + 1 + 1 + 1 := by omega
          have g9 : ¬ 9223372036854775807 < s.size + 1 + 1 + 2 := by omega
          have hkb : decide (0 < k) = false := decide_eq_false (by have := HK0.out; omega)
          go_wp2_with fail
          have hb1 : Below wr.heap.size wr (wr.alloc (.cells #[.int .i64 rod, .int .i64 0, .int .i64 amt] 40)) := (Below.refl _ _).alloc (Nat.le_refl _) _
          have hk1 : (wr.alloc (.cells #[.int .i64 rod, .int .i64 0, .int .i64 amt] 40)).heap[wr.heap.size]? = some (.cells #[.int .i64 rod, .int .i64 0, .int .i64 amt] 40 (0, 0)) := alloc_at rfl
          have hz1 : (wr.alloc (.cells #[.int .i64 rod, .int .i64 0, .int .i64 amt] 40)).heap.size = wr.heap.size + 1 := by simp
          generalize wr.alloc (.cells #[.int .i64 rod, .int .i64 0, .int .i64 amt] 40) = w1 at hb1 hk1 hz1 ⊢
          obtain ⟨c0, c1, c2, _, _, _⟩ := cell3 hk1
          have lb := lt_of_block hk1
          have HB1 := Lib.hid (HB.out.trans (hb1.mono HB.out.size))
          clear hb1 p0 p1 p2
          have hbq : Below w1.heap.size w1 (w1.drew.alloc (.cells #[.string ⟨#[117]⟩, .string ⟨#[108]⟩] 9)) := (Below.drew (Below.refl _ _)).alloc (Nat.le_refl _) _
          have kq0 := (hbq.cell (p := ⟨wr.heap.size, 0, none⟩) lb).trans c0
          have kq1 := (hbq.cell (p := ⟨wr.heap.size, 1, none⟩) lb).trans c1
          have kq2 := (hbq.cell (p := ⟨wr.heap.size, 2, none⟩) lb).trans c2
          have hbx : Below w1.heap.size w1 (w1.alloc (.cells #[.string ⟨#[117]⟩, .string ⟨#[108]⟩] 9)) := (Below.refl _ _).alloc (Nat.le_refl _) _
          have kx2 := (hbx.cell (p := ⟨wr.heap.size, 2, none⟩) lb).trans c2
          have HB9 := Lib.hid (HB1.out.trans (hbx.mono HB1.out.size))
          clear hbq hbx
          refine wp_region_held_drew (S := (fun w' => w'.cell? ⟨wr.heap.size, 0, none⟩ = some (.int .i64 rod) ∧ w'.cell? ⟨wr.heap.size, 1, none⟩ = some (.int .i64 0) ∧ w'.cell? ⟨wr.heap.size, 2, none⟩ = some (.int .i64 amt))) (by kernel_rfl) (⟨c0, c1, c2⟩) (fun hHeld => ?_)
          refine take1 (i := 0) (v := ?v1) (some 20) rfl rfl (by kernel_rfl) (by kernel_rfl) (by kernel_rfl) (fun _ _ _ h => h) (Or.inl ⟨by rfl, ?y1⟩) (by assumption) ?r1
          case y1 => (intro w hSw; (try dsimp only at hSw); go_simp; (first | done | with_reducible rfl))
          try simp only [Act.put, List.setIfInBounds_toArray, List.set_cons_zero, List.set_cons_succ]
          refine take1 (i := 1) (v := ?v2) (some 21) rfl rfl (by kernel_rfl) (by kernel_rfl) (by kernel_rfl) (fun _ _ _ h => h) (Or.inl ⟨by rfl, ?y2⟩) (by assumption) ?r2
          case y2 => (intro w hSw; (try dsimp only at hSw); go_simp; (first | done | with_reducible rfl))
          try simp only [Act.put, List.setIfInBounds_toArray, List.set_cons_zero, List.set_cons_succ]
          refine take1 (i := 2) (v := ?v3) (some 22) rfl rfl (by kernel_rfl) (by kernel_rfl) (by kernel_rfl) (fun _ _ _ h => h) (Or.inl ⟨by rfl, ?y3⟩) (by assumption) ?r3
          case y3 => (intro w hSw; (try dsimp only at hSw); go_simp; (first | done | with_reducible rfl))
          try simp only [Act.put, List.setIfInBounds_toArray, List.set_cons_zero, List.set_cons_succ]
          refine take1 (i := 6) (v := ?v4) (some 26) rfl rfl (by kernel_rfl) (by kernel_rfl) (by kernel_rfl) (fun _ _ _ h => h) (Or.inl ⟨by rfl, ?y4⟩) (by assumption) ?r4
          case y4 => (intro w hSw; (try dsimp only at hSw); go_simp; (first | done | with_reducible rfl))
          try simp only [Act.put, List.setIfInBounds_toArray, List.set_cons_zero, List.set_cons_succ]
          refine take1 (i := 7) (v := ?v5) (some 27) rfl rfl (by kernel_rfl) (by kernel_rfl) (by kernel_rfl) (fun _ _ _ h => h) (Or.inl ⟨by rfl, ?y5⟩) (by assumption) ?r5
          case y5 => (intro w hSw; (try dsimp only at hSw); go_simp; (first | done | with_reducible rfl))
          try simp only [Act.put, List.setIfInBounds_toArray, List.set_cons_zero, List.set_cons_succ]
          refine wpAnyH_ready (rs := [3, 5]) (by kernel_rfl) (by simp) ?_
          refine AllReadyH.cons rfl (fun K hK => ?_) (AllReadyH.cons rfl (fun K hK => ?_) AllReadyH.nil)
          · go_simp
            go_at_call 44
            refine (l1Num_dig _ _ (by omega) (by omega)).mono ?_
            rintro e w20 ⟨rfl, hw⟩
            subst hw
            try go_simp
            refine hK.out _ _ (hHeld) (fun hHeld => ?_)
            clear hK K
            try simp only [Act.put, List.setIfInBounds_toArray, List.set_cons_zero, List.set_cons_succ]
            refine take1 (i := 4) (v := ?v6) (some 24) rfl rfl (by kernel_rfl) (by kernel_rfl) (by kernel_rfl) (fun _ _ _ h => h) (Or.inl ⟨by rfl, ?y6⟩) (by assumption) ?r6
            case y6 => (intro w hSw; (try dsimp only at hSw); go_simp; (first | done | with_reducible rfl))
            try simp only [Act.put, List.setIfInBounds_toArray, List.set_cons_zero, List.set_cons_succ]
            refine wpAnyH_ready (rs := [5]) (by kernel_rfl) (by simp) ?_
            refine AllReadyH.cons rfl (fun K hK => ?_) AllReadyH.nil
            go_simp
            refine hK.out _ _ (⟨kq0, kq1, kq2⟩) (fun hHeld => ?_)
            clear hK K
            try simp only [Act.put, List.setIfInBounds_toArray, List.set_cons_zero, List.set_cons_succ]
            refine take1 (i := 8) (v := ?v7) (some 28) rfl rfl (by kernel_rfl) (by kernel_rfl) (by kernel_rfl) (fun _ _ _ h => h) (Or.inl ⟨by rfl, ?y7⟩) (by assumption) ?r7
            case y7 => (intro w hSw; (try dsimp only at hSw); go_simp; (first | done | with_reducible rfl))
            try simp only [Act.put, List.setIfInBounds_toArray, List.set_cons_zero, List.set_cons_succ]
            refine wpAnyH_ready (rs := [9]) (by kernel_rfl) (by simp) ?_
            refine AllReadyH.cons rfl (fun K hK => ?_) AllReadyH.nil
            go_simp
            refine hK.out _ _ (⟨kq0, kq1, kq2⟩) (fun hHeld => ?_)
            clear hK K
            try simp only [Act.put, List.setIfInBounds_toArray, List.set_cons_zero, List.set_cons_succ]
            refine take1 (i := 10) (v := ?v8) (some 30) rfl rfl (by kernel_rfl) (by kernel_rfl) (by kernel_rfl) (fun _ _ _ h => h) (Or.inl ⟨by rfl, ?y8⟩) (by assumption) ?r8
            case y8 => (intro w hSw; (try dsimp only at hSw); go_simp; (first | done | with_reducible rfl))
            try simp only [Act.put, List.setIfInBounds_toArray, List.set_cons_zero, List.set_cons_succ]
            refine take1 (i := 11) (v := ?v9) (some 3) rfl rfl (by kernel_rfl) (by kernel_rfl) (by kernel_rfl) (fun _ _ _ h => h) (Or.inl ⟨by rfl, ?y9⟩) (by assumption) ?r9
            case y9 => (intro w hSw; (try dsimp only at hSw); go_simp; (first | done | with_reducible rfl))
            try simp only [Act.put, List.setIfInBounds_toArray, List.set_cons_zero, List.set_cons_succ]
            refine wpAnyH_done (by kernel_rfl) ?_ _
            clear kq0 kq1 kq2
            generalize w1.alloc (.cells #[.string ⟨#[117]⟩, .string ⟨#[108]⟩] 9) = w9 at kx2 HB9 ⊢
            by_cases hpos : 0 < amt
            · have h5 : decide ((0 : Int) < amt) = true := decide_eq_true hpos
              have HV := Lib.hid (HVP.out hpos)
              go_wp2_with fail
              refine (l1Num_dig amt _ (by omega) (by omega)).mono ?_
              rintro e w20 ⟨rfl, hw⟩
              subst hw
              go_wp2_with fail
              go_roundw
              case rel => exact ⟨k + 1, by omega, by go_num, by rw [HV.out], HB9.out.drew⟩
              case measure => simp [intOf]; omega
            · have h5 : decide ((0 : Int) < amt) = false := decide_eq_false hpos
              obtain ⟨x, hx⟩ : ∃ x, x = -amt := ⟨_, rfl⟩
              have HV := Lib.hid (HVN.out x (by omega) (by omega))
              obtain rfl : amt = -x := by omega
              clear hx
              go_wp2_with fail
              refine (l1Num_neg x _ (by omega) (by omega)).mono ?_
              rintro e w20 ⟨rfl, nn, rfl⟩
              go_wp2_with fail
              go_roundw
              case rel => exact ⟨k + 1, by omega, by go_num, by rw [HV.out], bl_drewN HB9.out _⟩
              case measure => simp [intOf]; omega
          · go_simp
            refine hK.out _ _ (⟨kq0, kq1, kq2⟩) (fun hHeld => ?_)
            clear hK K
            try simp only [Act.put, List.setIfInBounds_toArray, List.set_cons_zero, List.set_cons_succ]
            refine take1 (i := 8) (v := ?v10) (some 28) rfl rfl (by kernel_rfl) (by kernel_rfl) (by kernel_rfl) (fun _ _ _ h => h) (Or.inl ⟨by rfl, ?y10⟩) (by assumption) ?r10
            case y10 => (intro w hSw; (try dsimp only at hSw); go_simp; (first | done | with_reducible rfl))
            try simp only [Act.put, List.setIfInBounds_toArray, List.set_cons_zero, List.set_cons_succ]
            refine wpAnyH_ready (rs := [3, 9]) (by kernel_rfl) (by simp) ?_
            refine AllReadyH.cons rfl (fun K hK => ?_) (AllReadyH.cons rfl (fun K hK => ?_) AllReadyH.nil)
            · go_simp
              go_at_call 44
              refine (l1Num_dig _ _ (by omega) (by omega)).mono ?_
              rintro e w20 ⟨rfl, hw⟩
              subst hw
              try go_simp
              refine hK.out _ _ (⟨kq0, kq1, kq2⟩) (fun hHeld => ?_)
              clear hK K
              try simp only [Act.put, List.setIfInBounds_toArray, List.set_cons_zero, List.set_cons_succ]
              refine take1 (i := 4) (v := ?v11) (some 24) rfl rfl (by kernel_rfl) (by kernel_rfl) (by kernel_rfl) (fun _ _ _ h => h) (Or.inl ⟨by rfl, ?y11⟩) (by assumption) ?r11
              case y11 => (intro w hSw; (try dsimp only at hSw); go_simp; (first | done | with_reducible rfl))
              try simp only [Act.put, List.setIfInBounds_toArray, List.set_cons_zero, List.set_cons_succ]
              refine wpAnyH_ready (rs := [9]) (by kernel_rfl) (by simp) ?_
              refine AllReadyH.cons rfl (fun K hK => ?_) AllReadyH.nil
              go_simp
              refine hK.out _ _ (⟨kq0, kq1, kq2⟩) (fun hHeld => ?_)
              clear hK K
              try simp only [Act.put, List.setIfInBounds_toArray, List.set_cons_zero, List.set_cons_succ]
              refine take1 (i := 10) (v := ?v12) (some 30) rfl rfl (by kernel_rfl) (by kernel_rfl) (by kernel_rfl) (fun _ _ _ h => h) (Or.inl ⟨by rfl, ?y12⟩) (by assumption) ?r12
              case y12 => (intro w hSw; (try dsimp only at hSw); go_simp; (first | done | with_reducible rfl))
              try simp only [Act.put, List.setIfInBounds_toArray, List.set_cons_zero, List.set_cons_succ]
              refine take1 (i := 11) (v := ?v13) (some 3) rfl rfl (by kernel_rfl) (by kernel_rfl) (by kernel_rfl) (fun _ _ _ h => h) (Or.inl ⟨by rfl, ?y13⟩) (by assumption) ?r13
              case y13 => (intro w hSw; (try dsimp only at hSw); go_simp; (first | done | with_reducible rfl))
              try simp only [Act.put, List.setIfInBounds_toArray, List.set_cons_zero, List.set_cons_succ]
              refine wpAnyH_done (by kernel_rfl) ?_ _
              clear kq0 kq1 kq2
              generalize w1.alloc (.cells #[.string ⟨#[117]⟩, .string ⟨#[108]⟩] 9) = w9 at kx2 HB9 ⊢
              by_cases hpos : 0 < amt
              · have h5 : decide ((0 : Int) < amt) = true := decide_eq_true hpos
                have HV := Lib.hid (HVP.out hpos)
                go_wp2_with fail
                refine (l1Num_dig amt _ (by omega) (by omega)).mono ?_
                rintro e w20 ⟨rfl, hw⟩
                subst hw
                go_wp2_with fail
                go_roundw
                case rel => exact ⟨k + 1, by omega, by go_num, by rw [HV.out], HB9.out.drew⟩
                case measure => simp [intOf]; omega
              · have h5 : decide ((0 : Int) < amt) = false := decide_eq_false hpos
                obtain ⟨x, hx⟩ : ∃ x, x = -amt := ⟨_, rfl⟩
                have HV := Lib.hid (HVN.out x (by omega) (by omega))
                obtain rfl : amt = -x := by omega
                clear hx
                go_wp2_with fail
                refine (l1Num_neg x _ (by omega) (by omega)).mono ?_
                rintro e w20 ⟨rfl, nn, rfl⟩
                go_wp2_with fail
                go_roundw
                case rel => exact ⟨k + 1, by omega, by go_num, by rw [HV.out], bl_drewN HB9.out _⟩
                case measure => simp [intOf]; omega
            · go_simp
              refine hK.out _ _ (⟨kq0, kq1, kq2⟩) (fun hHeld => ?_)
              clear hK K
              try simp only [Act.put, List.setIfInBounds_toArray, List.set_cons_zero, List.set_cons_succ]
              refine wpAnyH_ready (rs := [3]) (by kernel_rfl) (by simp) ?_
              refine AllReadyH.cons rfl (fun K hK => ?_) AllReadyH.nil
              go_simp
              go_at_call 44
              refine (l1Num_dig _ _ (by omega) (by omega)).mono ?_
              rintro e w20 ⟨rfl, hw⟩
              subst hw
              try go_simp
              refine hK.out _ _ (⟨kq0, kq1, kq2⟩) (fun hHeld => ?_)
              clear hK K
              try simp only [Act.put, List.setIfInBounds_toArray, List.set_cons_zero, List.set_cons_succ]
              refine take1 (i := 4) (v := ?v14) (some 24) rfl rfl (by kernel_rfl) (by kernel_rfl) (by kernel_rfl) (fun _ _ _ h => h) (Or.inl ⟨by rfl, ?y14⟩) (by assumption) ?r14
              case y14 => (intro w hSw; (try dsimp only at hSw); go_simp; (first | done | with_reducible rfl))
              try simp only [Act.put, List.setIfInBounds_toArray, List.set_cons_zero, List.set_cons_succ]
              refine take1 (i := 10) (v := ?v15) (some 30) rfl rfl (by kernel_rfl) (by kernel_rfl) (by kernel_rfl) (fun _ _ _ h => h) (Or.inl ⟨by rfl, ?y15⟩) (by assumption) ?r15
              case y15 => (intro w hSw; (try dsimp only at hSw); go_simp; (first | done | with_reducible rfl))
              try simp only [Act.put, List.setIfInBounds_toArray, List.set_cons_zero, List.set_cons_succ]
              refine take1 (i := 11) (v := ?v16) (some 3) rfl rfl (by kernel_rfl) (by kernel_rfl) (by kernel_rfl) (fun _ _ _ h => h) (Or.inl ⟨by rfl, ?y16⟩) (by assumption) ?r16
              case y16 => (intro w hSw; (try dsimp only at hSw); go_simp; (first | done | with_reducible rfl))
              try simp only [Act.put, List.setIfInBounds_toArray, List.set_cons_zero, List.set_cons_succ]
              refine wpAnyH_done (by kernel_rfl) ?_ _
              clear kq0 kq1 kq2
              generalize w1.alloc (.cells #[.string ⟨#[117]⟩, .string ⟨#[108]⟩] 9) = w9 at kx2 HB9 ⊢
              by_cases hpos : 0 < amt
              · have h5 : decide ((0 : Int) < amt) = true := decide_eq_true hpos
                have HV := Lib.hid (HVP.out hpos)
                go_wp2_with fail
                refine (l1Num_dig amt _ (by omega) (by omega)).mono ?_
                rintro e w20 ⟨rfl, hw⟩
                subst hw
                go_wp2_with fail
                go_roundw
                case rel => exact ⟨k + 1, by omega, by go_num, by rw [HV.out], HB9.out.drew⟩
                case measure => simp [intOf]; omega
              · have h5 : decide ((0 : Int) < amt) = false := decide_eq_false hpos
                obtain ⟨x, hx⟩ : ∃ x, x = -amt := ⟨_, rfl⟩
                have HV := Lib.hid (HVN.out x (by omega) (by omega))
                obtain rfl : amt = -x := by omega
                clear hx
                go_wp2_with fail
                refine (l1Num_neg x _ (by omega) (by omega)).mono ?_
                rintro e w20 ⟨rfl, nn, rfl⟩
                go_wp2_with fail
                go_roundw
                case rel => exact ⟨k + 1, by omega, by go_num, by rw [HV.out], bl_drewN HB9.out _⟩
                case measure => simp [intOf]; omega
        · have HVP : Hid (0 < amt → s ++ ⟨#[chD rod]⟩ ++ ⟨#[108]⟩ ++ ⟨#[43]⟩ ++ ⟨#[chD amt]⟩ = ⟨(msT (ms.take (k + 1))).toArray⟩) := Lib.hid (by
            intro hpos
            have hk0 := HK0.out; subst hk0; rw [HS.out, msT_one ms hlt, HMK.out]; unfold mvT ulT sgT; simp [ByteArray.mk_append_mk, hpos, msT, sepT])
          have HVN : Hid (∀ x, 0 < x → amt = -x → s ++ ⟨#[chD rod]⟩ ++ ⟨#[108]⟩ ++ ⟨#[45, chD x]⟩ = ⟨(msT (ms.take (k + 1))).toArray⟩) := Lib.hid (by
            intro x hx hax
            have h1 : ¬ 0 < amt := by omega
            have h2 : -amt = x := by omega
            have hk0 := HK0.out; subst hk0; rw [HS.out, msT_one ms hlt, HMK.out]; unfold mvT ulT sgT; dsimp only; rw [if_neg h1, if_neg h1, h2]; simp [ByteArray.mk_append_mk, msT, sepT])
          have g1 : ¬ 9223372036854775807 < s.size + 1 := by omega
          have g2 : ¬ 9223372036854775807 < s.size + 1 + 1 := by omega
          have g3 : ¬ 9223372036854775807 < s.size + 1 + 1 + 1 := by omega
          have g4 : ¬ 9223372036854775807 < s.size + 1 + 1 + 1 + 1 := by omega
          have g9 : ¬ 9223372036854775807 < s.size + 1 + 1 + 2 := by omega
          have hkb : decide (0 < k) = false := decide_eq_false (by have := HK0.out; omega)
          go_wp2_with fail
          have hb1 : Below wr.heap.size wr (wr.alloc (.cells #[.int .i64 rod, .int .i64 1, .int .i64 amt] 40)) := (Below.refl _ _).alloc (Nat.le_refl _) _
          have hk1 : (wr.alloc (.cells #[.int .i64 rod, .int .i64 1, .int .i64 amt] 40)).heap[wr.heap.size]? = some (.cells #[.int .i64 rod, .int .i64 1, .int .i64 amt] 40 (0, 0)) := alloc_at rfl
          have hz1 : (wr.alloc (.cells #[.int .i64 rod, .int .i64 1, .int .i64 amt] 40)).heap.size = wr.heap.size + 1 := by simp
          generalize wr.alloc (.cells #[.int .i64 rod, .int .i64 1, .int .i64 amt] 40) = w1 at hb1 hk1 hz1 ⊢
          obtain ⟨c0, c1, c2, _, _, _⟩ := cell3 hk1
          have lb := lt_of_block hk1
          have HB1 := Lib.hid (HB.out.trans (hb1.mono HB.out.size))
          clear hb1 p0 p1 p2
          have hbq : Below w1.heap.size w1 (w1.drew.alloc (.cells #[.string ⟨#[117]⟩, .string ⟨#[108]⟩] 9)) := (Below.drew (Below.refl _ _)).alloc (Nat.le_refl _) _
          have kq0 := (hbq.cell (p := ⟨wr.heap.size, 0, none⟩) lb).trans c0
          have kq1 := (hbq.cell (p := ⟨wr.heap.size, 1, none⟩) lb).trans c1
          have kq2 := (hbq.cell (p := ⟨wr.heap.size, 2, none⟩) lb).trans c2
          have hbx : Below w1.heap.size w1 (w1.alloc (.cells #[.string ⟨#[117]⟩, .string ⟨#[108]⟩] 9)) := (Below.refl _ _).alloc (Nat.le_refl _) _
          have kx2 := (hbx.cell (p := ⟨wr.heap.size, 2, none⟩) lb).trans c2
          have HB9 := Lib.hid (HB1.out.trans (hbx.mono HB1.out.size))
          clear hbq hbx
          refine wp_region_held_drew (S := (fun w' => w'.cell? ⟨wr.heap.size, 0, none⟩ = some (.int .i64 rod) ∧ w'.cell? ⟨wr.heap.size, 1, none⟩ = some (.int .i64 1) ∧ w'.cell? ⟨wr.heap.size, 2, none⟩ = some (.int .i64 amt))) (by kernel_rfl) (⟨c0, c1, c2⟩) (fun hHeld => ?_)
          refine take1 (i := 0) (v := ?v17) (some 20) rfl rfl (by kernel_rfl) (by kernel_rfl) (by kernel_rfl) (fun _ _ _ h => h) (Or.inl ⟨by rfl, ?y17⟩) (by assumption) ?r17
          case y17 => (intro w hSw; (try dsimp only at hSw); go_simp; (first | done | with_reducible rfl))
          try simp only [Act.put, List.setIfInBounds_toArray, List.set_cons_zero, List.set_cons_succ]
          refine take1 (i := 1) (v := ?v18) (some 21) rfl rfl (by kernel_rfl) (by kernel_rfl) (by kernel_rfl) (fun _ _ _ h => h) (Or.inl ⟨by rfl, ?y18⟩) (by assumption) ?r18
          case y18 => (intro w hSw; (try dsimp only at hSw); go_simp; (first | done | with_reducible rfl))
          try simp only [Act.put, List.setIfInBounds_toArray, List.set_cons_zero, List.set_cons_succ]
          refine take1 (i := 2) (v := ?v19) (some 22) rfl rfl (by kernel_rfl) (by kernel_rfl) (by kernel_rfl) (fun _ _ _ h => h) (Or.inl ⟨by rfl, ?y19⟩) (by assumption) ?r19
          case y19 => (intro w hSw; (try dsimp only at hSw); go_simp; (first | done | with_reducible rfl))
          try simp only [Act.put, List.setIfInBounds_toArray, List.set_cons_zero, List.set_cons_succ]
          refine take1 (i := 6) (v := ?v20) (some 26) rfl rfl (by kernel_rfl) (by kernel_rfl) (by kernel_rfl) (fun _ _ _ h => h) (Or.inl ⟨by rfl, ?y20⟩) (by assumption) ?r20
          case y20 => (intro w hSw; (try dsimp only at hSw); go_simp; (first | done | with_reducible rfl))
          try simp only [Act.put, List.setIfInBounds_toArray, List.set_cons_zero, List.set_cons_succ]
          refine take1 (i := 7) (v := ?v21) (some 27) rfl rfl (by kernel_rfl) (by kernel_rfl) (by kernel_rfl) (fun _ _ _ h => h) (Or.inl ⟨by rfl, ?y21⟩) (by assumption) ?r21
          case y21 => (intro w hSw; (try dsimp only at hSw); go_simp; (first | done | with_reducible rfl))
          try simp only [Act.put, List.setIfInBounds_toArray, List.set_cons_zero, List.set_cons_succ]
          refine wpAnyH_ready (rs := [3, 5]) (by kernel_rfl) (by simp) ?_
          refine AllReadyH.cons rfl (fun K hK => ?_) (AllReadyH.cons rfl (fun K hK => ?_) AllReadyH.nil)
          · go_simp
            go_at_call 44
            refine (l1Num_dig _ _ (by omega) (by omega)).mono ?_
            rintro e w20 ⟨rfl, hw⟩
            subst hw
            try go_simp
            refine hK.out _ _ (hHeld) (fun hHeld => ?_)
            clear hK K
            try simp only [Act.put, List.setIfInBounds_toArray, List.set_cons_zero, List.set_cons_succ]
            refine take1 (i := 4) (v := ?v22) (some 24) rfl rfl (by kernel_rfl) (by kernel_rfl) (by kernel_rfl) (fun _ _ _ h => h) (Or.inl ⟨by rfl, ?y22⟩) (by assumption) ?r22
            case y22 => (intro w hSw; (try dsimp only at hSw); go_simp; (first | done | with_reducible rfl))
            try simp only [Act.put, List.setIfInBounds_toArray, List.set_cons_zero, List.set_cons_succ]
            refine wpAnyH_ready (rs := [5]) (by kernel_rfl) (by simp) ?_
            refine AllReadyH.cons rfl (fun K hK => ?_) AllReadyH.nil
            go_simp
            refine hK.out _ _ (⟨kq0, kq1, kq2⟩) (fun hHeld => ?_)
            clear hK K
            try simp only [Act.put, List.setIfInBounds_toArray, List.set_cons_zero, List.set_cons_succ]
            refine take1 (i := 8) (v := ?v23) (some 28) rfl rfl (by kernel_rfl) (by kernel_rfl) (by kernel_rfl) (fun _ _ _ h => h) (Or.inl ⟨by rfl, ?y23⟩) (by assumption) ?r23
            case y23 => (intro w hSw; (try dsimp only at hSw); go_simp; (first | done | with_reducible rfl))
            try simp only [Act.put, List.setIfInBounds_toArray, List.set_cons_zero, List.set_cons_succ]
            refine wpAnyH_ready (rs := [9]) (by kernel_rfl) (by simp) ?_
            refine AllReadyH.cons rfl (fun K hK => ?_) AllReadyH.nil
            go_simp
            refine hK.out _ _ (⟨kq0, kq1, kq2⟩) (fun hHeld => ?_)
            clear hK K
            try simp only [Act.put, List.setIfInBounds_toArray, List.set_cons_zero, List.set_cons_succ]
            refine take1 (i := 10) (v := ?v24) (some 30) rfl rfl (by kernel_rfl) (by kernel_rfl) (by kernel_rfl) (fun _ _ _ h => h) (Or.inl ⟨by rfl, ?y24⟩) (by assumption) ?r24
            case y24 => (intro w hSw; (try dsimp only at hSw); go_simp; (first | done | with_reducible rfl))
            try simp only [Act.put, List.setIfInBounds_toArray, List.set_cons_zero, List.set_cons_succ]
            refine take1 (i := 11) (v := ?v25) (some 3) rfl rfl (by kernel_rfl) (by kernel_rfl) (by kernel_rfl) (fun _ _ _ h => h) (Or.inl ⟨by rfl, ?y25⟩) (by assumption) ?r25
            case y25 => (intro w hSw; (try dsimp only at hSw); go_simp; (first | done | with_reducible rfl))
            try simp only [Act.put, List.setIfInBounds_toArray, List.set_cons_zero, List.set_cons_succ]
            refine wpAnyH_done (by kernel_rfl) ?_ _
            clear kq0 kq1 kq2
            generalize w1.alloc (.cells #[.string ⟨#[117]⟩, .string ⟨#[108]⟩] 9) = w9 at kx2 HB9 ⊢
            by_cases hpos : 0 < amt
            · have h5 : decide ((0 : Int) < amt) = true := decide_eq_true hpos
              have HV := Lib.hid (HVP.out hpos)
              go_wp2_with fail
              refine (l1Num_dig amt _ (by omega) (by omega)).mono ?_
              rintro e w20 ⟨rfl, hw⟩
              subst hw
              go_wp2_with fail
              go_roundw
              case rel => exact ⟨k + 1, by omega, by go_num, by rw [HV.out], HB9.out.drew⟩
              case measure => simp [intOf]; omega
            · have h5 : decide ((0 : Int) < amt) = false := decide_eq_false hpos
              obtain ⟨x, hx⟩ : ∃ x, x = -amt := ⟨_, rfl⟩
              have HV := Lib.hid (HVN.out x (by omega) (by omega))
              obtain rfl : amt = -x := by omega
              clear hx
              go_wp2_with fail
              refine (l1Num_neg x _ (by omega) (by omega)).mono ?_
              rintro e w20 ⟨rfl, nn, rfl⟩
              go_wp2_with fail
              go_roundw
              case rel => exact ⟨k + 1, by omega, by go_num, by rw [HV.out], bl_drewN HB9.out _⟩
              case measure => simp [intOf]; omega
          · go_simp
            refine hK.out _ _ (⟨kq0, kq1, kq2⟩) (fun hHeld => ?_)
            clear hK K
            try simp only [Act.put, List.setIfInBounds_toArray, List.set_cons_zero, List.set_cons_succ]
            refine take1 (i := 8) (v := ?v26) (some 28) rfl rfl (by kernel_rfl) (by kernel_rfl) (by kernel_rfl) (fun _ _ _ h => h) (Or.inl ⟨by rfl, ?y26⟩) (by assumption) ?r26
            case y26 => (intro w hSw; (try dsimp only at hSw); go_simp; (first | done | with_reducible rfl))
            try simp only [Act.put, List.setIfInBounds_toArray, List.set_cons_zero, List.set_cons_succ]
            refine wpAnyH_ready (rs := [3, 9]) (by kernel_rfl) (by simp) ?_
            refine AllReadyH.cons rfl (fun K hK => ?_) (AllReadyH.cons rfl (fun K hK => ?_) AllReadyH.nil)
            · go_simp
              go_at_call 44
              refine (l1Num_dig _ _ (by omega) (by omega)).mono ?_
              rintro e w20 ⟨rfl, hw⟩
              subst hw
              try go_simp
              refine hK.out _ _ (⟨kq0, kq1, kq2⟩) (fun hHeld => ?_)
              clear hK K
              try simp only [Act.put, List.setIfInBounds_toArray, List.set_cons_zero, List.set_cons_succ]
              refine take1 (i := 4) (v := ?v27) (some 24) rfl rfl (by kernel_rfl) (by kernel_rfl) (by kernel_rfl) (fun _ _ _ h => h) (Or.inl ⟨by rfl, ?y27⟩) (by assumption) ?r27
              case y27 => (intro w hSw; (try dsimp only at hSw); go_simp; (first | done | with_reducible rfl))
              try simp only [Act.put, List.setIfInBounds_toArray, List.set_cons_zero, List.set_cons_succ]
              refine wpAnyH_ready (rs := [9]) (by kernel_rfl) (by simp) ?_
              refine AllReadyH.cons rfl (fun K hK => ?_) AllReadyH.nil
              go_simp
              refine hK.out _ _ (⟨kq0, kq1, kq2⟩) (fun hHeld => ?_)
              clear hK K
              try simp only [Act.put, List.setIfInBounds_toArray, List.set_cons_zero, List.set_cons_succ]
              refine take1 (i := 10) (v := ?v28) (some 30) rfl rfl (by kernel_rfl) (by kernel_rfl) (by kernel_rfl) (fun _ _ _ h => h) (Or.inl ⟨by rfl, ?y28⟩) (by assumption) ?r28
              case y28 => (intro w hSw; (try dsimp only at hSw); go_simp; (first | done | with_reducible rfl))
              try simp only [Act.put, List.setIfInBounds_toArray, List.set_cons_zero, List.set_cons_succ]
              refine take1 (i := 11) (v := ?v29) (some 3) rfl rfl (by kernel_rfl) (by kernel_rfl) (by kernel_rfl) (fun _ _ _ h => h) (Or.inl ⟨by rfl, ?y29⟩) (by assumption) ?r29
              case y29 => (intro w hSw; (try dsimp only at hSw); go_simp; (first | done | with_reducible rfl))
              try simp only [Act.put, List.setIfInBounds_toArray, List.set_cons_zero, List.set_cons_succ]
              refine wpAnyH_done (by kernel_rfl) ?_ _
              clear kq0 kq1 kq2
              generalize w1.alloc (.cells #[.string ⟨#[117]⟩, .string ⟨#[108]⟩] 9) = w9 at kx2 HB9 ⊢
              by_cases hpos : 0 < amt
              · have h5 : decide ((0 : Int) < amt) = true := decide_eq_true hpos
                have HV := Lib.hid (HVP.out hpos)
                go_wp2_with fail
                refine (l1Num_dig amt _ (by omega) (by omega)).mono ?_
                rintro e w20 ⟨rfl, hw⟩
                subst hw
                go_wp2_with fail
                go_roundw
                case rel => exact ⟨k + 1, by omega, by go_num, by rw [HV.out], HB9.out.drew⟩
                case measure => simp [intOf]; omega
              · have h5 : decide ((0 : Int) < amt) = false := decide_eq_false hpos
                obtain ⟨x, hx⟩ : ∃ x, x = -amt := ⟨_, rfl⟩
                have HV := Lib.hid (HVN.out x (by omega) (by omega))
                obtain rfl : amt = -x := by omega
                clear hx
                go_wp2_with fail
                refine (l1Num_neg x _ (by omega) (by omega)).mono ?_
                rintro e w20 ⟨rfl, nn, rfl⟩
                go_wp2_with fail
                go_roundw
                case rel => exact ⟨k + 1, by omega, by go_num, by rw [HV.out], bl_drewN HB9.out _⟩
                case measure => simp [intOf]; omega
            · go_simp
              refine hK.out _ _ (⟨kq0, kq1, kq2⟩) (fun hHeld => ?_)
              clear hK K
              try simp only [Act.put, List.setIfInBounds_toArray, List.set_cons_zero, List.set_cons_succ]
              refine wpAnyH_ready (rs := [3]) (by kernel_rfl) (by simp) ?_
              refine AllReadyH.cons rfl (fun K hK => ?_) AllReadyH.nil
              go_simp
              go_at_call 44
              refine (l1Num_dig _ _ (by omega) (by omega)).mono ?_
              rintro e w20 ⟨rfl, hw⟩
              subst hw
              try go_simp
              refine hK.out _ _ (⟨kq0, kq1, kq2⟩) (fun hHeld => ?_)
              clear hK K
              try simp only [Act.put, List.setIfInBounds_toArray, List.set_cons_zero, List.set_cons_succ]
              refine take1 (i := 4) (v := ?v30) (some 24) rfl rfl (by kernel_rfl) (by kernel_rfl) (by kernel_rfl) (fun _ _ _ h => h) (Or.inl ⟨by rfl, ?y30⟩) (by assumption) ?r30
              case y30 => (intro w hSw; (try dsimp only at hSw); go_simp; (first | done | with_reducible rfl))
              try simp only [Act.put, List.setIfInBounds_toArray, List.set_cons_zero, List.set_cons_succ]
              refine take1 (i := 10) (v := ?v31) (some 30) rfl rfl (by kernel_rfl) (by kernel_rfl) (by kernel_rfl) (fun _ _ _ h => h) (Or.inl ⟨by rfl, ?y31⟩) (by assumption) ?r31
              case y31 => (intro w hSw; (try dsimp only at hSw); go_simp; (first | done | with_reducible rfl))
              try simp only [Act.put, List.setIfInBounds_toArray, List.set_cons_zero, List.set_cons_succ]
              refine take1 (i := 11) (v := ?v32) (some 3) rfl rfl (by kernel_rfl) (by kernel_rfl) (by kernel_rfl) (fun _ _ _ h => h) (Or.inl ⟨by rfl, ?y32⟩) (by assumption) ?r32
              case y32 => (intro w hSw; (try dsimp only at hSw); go_simp; (first | done | with_reducible rfl))
              try simp only [Act.put, List.setIfInBounds_toArray, List.set_cons_zero, List.set_cons_succ]
              refine wpAnyH_done (by kernel_rfl) ?_ _
              clear kq0 kq1 kq2
              generalize w1.alloc (.cells #[.string ⟨#[117]⟩, .string ⟨#[108]⟩] 9) = w9 at kx2 HB9 ⊢
              by_cases hpos : 0 < amt
              · have h5 : decide ((0 : Int) < amt) = true := decide_eq_true hpos
                have HV := Lib.hid (HVP.out hpos)
                go_wp2_with fail
                refine (l1Num_dig amt _ (by omega) (by omega)).mono ?_
                rintro e w20 ⟨rfl, hw⟩
                subst hw
                go_wp2_with fail
                go_roundw
                case rel => exact ⟨k + 1, by omega, by go_num, by rw [HV.out], HB9.out.drew⟩
                case measure => simp [intOf]; omega
              · have h5 : decide ((0 : Int) < amt) = false := decide_eq_false hpos
                obtain ⟨x, hx⟩ : ∃ x, x = -amt := ⟨_, rfl⟩
                have HV := Lib.hid (HVN.out x (by omega) (by omega))
                obtain rfl : amt = -x := by omega
                clear hx
                go_wp2_with fail
                refine (l1Num_neg x _ (by omega) (by omega)).mono ?_
                rintro e w20 ⟨rfl, nn, rfl⟩
                go_wp2_with fail
                go_roundw
                case rel => exact ⟨k + 1, by omega, by go_num, by rw [HV.out], bl_drewN HB9.out _⟩
                case measure => simp [intOf]; omega
      · have HK0 : Hid (0 < k) := Lib.hid (by omega)
        clear hk0
        rcases (show part = 0 ∨ part = 1 by omega) with rfl | rfl
        · have HVP : Hid (0 < amt → s ++ ⟨#[32]⟩ ++ ⟨#[chD rod]⟩ ++ ⟨#[117]⟩ ++ ⟨#[43]⟩ ++ ⟨#[chD amt]⟩ = ⟨(msT (ms.take (k + 1))).toArray⟩) := Lib.hid (by
            intro hpos
            rw [HS.out, msT_snoc ms k hlt (by have := HK0.out; omega), HMK.out]; unfold mvT ulT sgT; simp [ByteArray.mk_append_mk, hpos])
          have HVN : Hid (∀ x, 0 < x → amt = -x → s ++ ⟨#[32]⟩ ++ ⟨#[chD rod]⟩ ++ ⟨#[117]⟩ ++ ⟨#[45, chD x]⟩ = ⟨(msT (ms.take (k + 1))).toArray⟩) := Lib.hid (by
            intro x hx hax
            have h1 : ¬ 0 < amt := by omega
            have h2 : -amt = x := by omega
            rw [HS.out, msT_snoc ms k hlt (by have := HK0.out; omega), HMK.out]; unfold mvT ulT sgT; dsimp only; rw [if_neg h1, if_neg h1, h2]; simp [ByteArray.mk_append_mk])
          have g0 : ¬ 9223372036854775807 < s.size + 1 := by omega
          have g1 : ¬ 9223372036854775807 < s.size + 1 + 1 := by omega
          have g2 : ¬ 9223372036854775807 < s.size + 1 + 1 + 1 := by omega
          have g3 : ¬ 9223372036854775807 < s.size + 1 + 1 + 1 + 1 := by omega
          have g4 : ¬ 9223372036854775807 < s.size + 1 + 1 + 1 + 1 + 1 := by omega
          have g9 : ¬ 9223372036854775807 < s.size + 1 + 1 + 1 + 2 := by omega
          have hkb : decide (0 < k) = true := decide_eq_true (by have := HK0.out; omega)
          go_wp2_with fail
          have hb1 : Below wr.heap.size wr (wr.alloc (.cells #[.int .i64 rod, .int .i64 0, .int .i64 amt] 40)) := (Below.refl _ _).alloc (Nat.le_refl _) _
          have hk1 : (wr.alloc (.cells #[.int .i64 rod, .int .i64 0, .int .i64 amt] 40)).heap[wr.heap.size]? = some (.cells #[.int .i64 rod, .int .i64 0, .int .i64 amt] 40 (0, 0)) := alloc_at rfl
          have hz1 : (wr.alloc (.cells #[.int .i64 rod, .int .i64 0, .int .i64 amt] 40)).heap.size = wr.heap.size + 1 := by simp
          generalize wr.alloc (.cells #[.int .i64 rod, .int .i64 0, .int .i64 amt] 40) = w1 at hb1 hk1 hz1 ⊢
          obtain ⟨c0, c1, c2, _, _, _⟩ := cell3 hk1
          have lb := lt_of_block hk1
          have HB1 := Lib.hid (HB.out.trans (hb1.mono HB.out.size))
          clear hb1 p0 p1 p2
          have hbq : Below w1.heap.size w1 (w1.drew.alloc (.cells #[.string ⟨#[117]⟩, .string ⟨#[108]⟩] 9)) := (Below.drew (Below.refl _ _)).alloc (Nat.le_refl _) _
          have kq0 := (hbq.cell (p := ⟨wr.heap.size, 0, none⟩) lb).trans c0
          have kq1 := (hbq.cell (p := ⟨wr.heap.size, 1, none⟩) lb).trans c1
          have kq2 := (hbq.cell (p := ⟨wr.heap.size, 2, none⟩) lb).trans c2
          have hbx : Below w1.heap.size w1 (w1.alloc (.cells #[.string ⟨#[117]⟩, .string ⟨#[108]⟩] 9)) := (Below.refl _ _).alloc (Nat.le_refl _) _
          have kx2 := (hbx.cell (p := ⟨wr.heap.size, 2, none⟩) lb).trans c2
          have HB9 := Lib.hid (HB1.out.trans (hbx.mono HB1.out.size))
          clear hbq hbx
          refine wp_region_held_drew (S := (fun w' => w'.cell? ⟨wr.heap.size, 0, none⟩ = some (.int .i64 rod) ∧ w'.cell? ⟨wr.heap.size, 1, none⟩ = some (.int .i64 0) ∧ w'.cell? ⟨wr.heap.size, 2, none⟩ = some (.int .i64 amt))) (by kernel_rfl) (⟨c0, c1, c2⟩) (fun hHeld => ?_)
          refine take1 (i := 0) (v := ?v33) (some 20) rfl rfl (by kernel_rfl) (by kernel_rfl) (by kernel_rfl) (fun _ _ _ h => h) (Or.inl ⟨by rfl, ?y33⟩) (by assumption) ?r33
          case y33 => (intro w hSw; (try dsimp only at hSw); go_simp; (first | done | with_reducible rfl))
          try simp only [Act.put, List.setIfInBounds_toArray, List.set_cons_zero, List.set_cons_succ]
          refine take1 (i := 1) (v := ?v34) (some 21) rfl rfl (by kernel_rfl) (by kernel_rfl) (by kernel_rfl) (fun _ _ _ h => h) (Or.inl ⟨by rfl, ?y34⟩) (by assumption) ?r34
          case y34 => (intro w hSw; (try dsimp only at hSw); go_simp; (first | done | with_reducible rfl))
          try simp only [Act.put, List.setIfInBounds_toArray, List.set_cons_zero, List.set_cons_succ]
          refine take1 (i := 2) (v := ?v35) (some 22) rfl rfl (by kernel_rfl) (by kernel_rfl) (by kernel_rfl) (fun _ _ _ h => h) (Or.inl ⟨by rfl, ?y35⟩) (by assumption) ?r35
          case y35 => (intro w hSw; (try dsimp only at hSw); go_simp; (first | done | with_reducible rfl))
          try simp only [Act.put, List.setIfInBounds_toArray, List.set_cons_zero, List.set_cons_succ]
          refine take1 (i := 6) (v := ?v36) (some 26) rfl rfl (by kernel_rfl) (by kernel_rfl) (by kernel_rfl) (fun _ _ _ h => h) (Or.inl ⟨by rfl, ?y36⟩) (by assumption) ?r36
          case y36 => (intro w hSw; (try dsimp only at hSw); go_simp; (first | done | with_reducible rfl))
          try simp only [Act.put, List.setIfInBounds_toArray, List.set_cons_zero, List.set_cons_succ]
          refine take1 (i := 7) (v := ?v37) (some 27) rfl rfl (by kernel_rfl) (by kernel_rfl) (by kernel_rfl) (fun _ _ _ h => h) (Or.inl ⟨by rfl, ?y37⟩) (by assumption) ?r37
          case y37 => (intro w hSw; (try dsimp only at hSw); go_simp; (first | done | with_reducible rfl))
          try simp only [Act.put, List.setIfInBounds_toArray, List.set_cons_zero, List.set_cons_succ]
          refine wpAnyH_ready (rs := [3, 5]) (by kernel_rfl) (by simp) ?_
          refine AllReadyH.cons rfl (fun K hK => ?_) (AllReadyH.cons rfl (fun K hK => ?_) AllReadyH.nil)
          · go_simp
            go_at_call 44
            refine (l1Num_dig _ _ (by omega) (by omega)).mono ?_
            rintro e w20 ⟨rfl, hw⟩
            subst hw
            try go_simp
            refine hK.out _ _ (hHeld) (fun hHeld => ?_)
            clear hK K
            try simp only [Act.put, List.setIfInBounds_toArray, List.set_cons_zero, List.set_cons_succ]
            refine take1 (i := 4) (v := ?v38) (some 24) rfl rfl (by kernel_rfl) (by kernel_rfl) (by kernel_rfl) (fun _ _ _ h => h) (Or.inl ⟨by rfl, ?y38⟩) (by assumption) ?r38
            case y38 => (intro w hSw; (try dsimp only at hSw); go_simp; (first | done | with_reducible rfl))
            try simp only [Act.put, List.setIfInBounds_toArray, List.set_cons_zero, List.set_cons_succ]
            refine wpAnyH_ready (rs := [5]) (by kernel_rfl) (by simp) ?_
            refine AllReadyH.cons rfl (fun K hK => ?_) AllReadyH.nil
            go_simp
            refine hK.out _ _ (⟨kq0, kq1, kq2⟩) (fun hHeld => ?_)
            clear hK K
            try simp only [Act.put, List.setIfInBounds_toArray, List.set_cons_zero, List.set_cons_succ]
            refine take1 (i := 8) (v := ?v39) (some 28) rfl rfl (by kernel_rfl) (by kernel_rfl) (by kernel_rfl) (fun _ _ _ h => h) (Or.inl ⟨by rfl, ?y39⟩) (by assumption) ?r39
            case y39 => (intro w hSw; (try dsimp only at hSw); go_simp; (first | done | with_reducible rfl))
            try simp only [Act.put, List.setIfInBounds_toArray, List.set_cons_zero, List.set_cons_succ]
            refine wpAnyH_ready (rs := [9]) (by kernel_rfl) (by simp) ?_
            refine AllReadyH.cons rfl (fun K hK => ?_) AllReadyH.nil
            go_simp
            refine hK.out _ _ (⟨kq0, kq1, kq2⟩) (fun hHeld => ?_)
            clear hK K
            try simp only [Act.put, List.setIfInBounds_toArray, List.set_cons_zero, List.set_cons_succ]
            refine take1 (i := 10) (v := ?v40) (some 30) rfl rfl (by kernel_rfl) (by kernel_rfl) (by kernel_rfl) (fun _ _ _ h => h) (Or.inl ⟨by rfl, ?y40⟩) (by assumption) ?r40
            case y40 => (intro w hSw; (try dsimp only at hSw); go_simp; (first | done | with_reducible rfl))
            try simp only [Act.put, List.setIfInBounds_toArray, List.set_cons_zero, List.set_cons_succ]
            refine take1 (i := 11) (v := ?v41) (some 3) rfl rfl (by kernel_rfl) (by kernel_rfl) (by kernel_rfl) (fun _ _ _ h => h) (Or.inl ⟨by rfl, ?y41⟩) (by assumption) ?r41
            case y41 => (intro w hSw; (try dsimp only at hSw); go_simp; (first | done | with_reducible rfl))
            try simp only [Act.put, List.setIfInBounds_toArray, List.set_cons_zero, List.set_cons_succ]
            refine wpAnyH_done (by kernel_rfl) ?_ _
            clear kq0 kq1 kq2
            generalize w1.alloc (.cells #[.string ⟨#[117]⟩, .string ⟨#[108]⟩] 9) = w9 at kx2 HB9 ⊢
            by_cases hpos : 0 < amt
            · have h5 : decide ((0 : Int) < amt) = true := decide_eq_true hpos
              have HV := Lib.hid (HVP.out hpos)
              go_wp2_with fail
              refine (l1Num_dig amt _ (by omega) (by omega)).mono ?_
              rintro e w20 ⟨rfl, hw⟩
              subst hw
              go_wp2_with fail
              go_roundw
              case rel => exact ⟨k + 1, by omega, by go_num, by rw [HV.out], HB9.out.drew⟩
              case measure => simp [intOf]; omega
            · have h5 : decide ((0 : Int) < amt) = false := decide_eq_false hpos
              obtain ⟨x, hx⟩ : ∃ x, x = -amt := ⟨_, rfl⟩
              have HV := Lib.hid (HVN.out x (by omega) (by omega))
              obtain rfl : amt = -x := by omega
              clear hx
              go_wp2_with fail
              refine (l1Num_neg x _ (by omega) (by omega)).mono ?_
              rintro e w20 ⟨rfl, nn, rfl⟩
              go_wp2_with fail
              go_roundw
              case rel => exact ⟨k + 1, by omega, by go_num, by rw [HV.out], bl_drewN HB9.out _⟩
              case measure => simp [intOf]; omega
          · go_simp
            refine hK.out _ _ (⟨kq0, kq1, kq2⟩) (fun hHeld => ?_)
            clear hK K
            try simp only [Act.put, List.setIfInBounds_toArray, List.set_cons_zero, List.set_cons_succ]
            refine take1 (i := 8) (v := ?v42) (some 28) rfl rfl (by kernel_rfl) (by kernel_rfl) (by kernel_rfl) (fun _ _ _ h => h) (Or.inl ⟨by rfl, ?y42⟩) (by assumption) ?r42
            case y42 => (intro w hSw; (try dsimp only at hSw); go_simp; (first | done | with_reducible rfl))
            try simp only [Act.put, List.setIfInBounds_toArray, List.set_cons_zero, List.set_cons_succ]
            refine wpAnyH_ready (rs := [3, 9]) (by kernel_rfl) (by simp) ?_
            refine AllReadyH.cons rfl (fun K hK => ?_) (AllReadyH.cons rfl (fun K hK => ?_) AllReadyH.nil)
            · go_simp
              go_at_call 44
              refine (l1Num_dig _ _ (by omega) (by omega)).mono ?_
              rintro e w20 ⟨rfl, hw⟩
              subst hw
              try go_simp
              refine hK.out _ _ (⟨kq0, kq1, kq2⟩) (fun hHeld => ?_)
              clear hK K
              try simp only [Act.put, List.setIfInBounds_toArray, List.set_cons_zero, List.set_cons_succ]
              refine take1 (i := 4) (v := ?v43) (some 24) rfl rfl (by kernel_rfl) (by kernel_rfl) (by kernel_rfl) (fun _ _ _ h => h) (Or.inl ⟨by rfl, ?y43⟩) (by assumption) ?r43
              case y43 => (intro w hSw; (try dsimp only at hSw); go_simp; (first | done | with_reducible rfl))
              try simp only [Act.put, List.setIfInBounds_toArray, List.set_cons_zero, List.set_cons_succ]
              refine wpAnyH_ready (rs := [9]) (by kernel_rfl) (by simp) ?_
              refine AllReadyH.cons rfl (fun K hK => ?_) AllReadyH.nil
              go_simp
              refine hK.out _ _ (⟨kq0, kq1, kq2⟩) (fun hHeld => ?_)
              clear hK K
              try simp only [Act.put, List.setIfInBounds_toArray, List.set_cons_zero, List.set_cons_succ]
              refine take1 (i := 10) (v := ?v44) (some 30) rfl rfl (by kernel_rfl) (by kernel_rfl) (by kernel_rfl) (fun _ _ _ h => h) (Or.inl ⟨by rfl, ?y44⟩) (by assumption) ?r44
              case y44 => (intro w hSw; (try dsimp only at hSw); go_simp; (first | done | with_reducible rfl))
              try simp only [Act.put, List.setIfInBounds_toArray, List.set_cons_zero, List.set_cons_succ]
              refine take1 (i := 11) (v := ?v45) (some 3) rfl rfl (by kernel_rfl) (by kernel_rfl) (by kernel_rfl) (fun _ _ _ h => h) (Or.inl ⟨by rfl, ?y45⟩) (by assumption) ?r45
              case y45 => (intro w hSw; (try dsimp only at hSw); go_simp; (first | done | with_reducible rfl))
              try simp only [Act.put, List.setIfInBounds_toArray, List.set_cons_zero, List.set_cons_succ]
              refine wpAnyH_done (by kernel_rfl) ?_ _
              clear kq0 kq1 kq2
              generalize w1.alloc (.cells #[.string ⟨#[117]⟩, .string ⟨#[108]⟩] 9) = w9 at kx2 HB9 ⊢
              by_cases hpos : 0 < amt
              · have h5 : decide ((0 : Int) < amt) = true := decide_eq_true hpos
                have HV := Lib.hid (HVP.out hpos)
                go_wp2_with fail
                refine (l1Num_dig amt _ (by omega) (by omega)).mono ?_
                rintro e w20 ⟨rfl, hw⟩
                subst hw
                go_wp2_with fail
                go_roundw
                case rel => exact ⟨k + 1, by omega, by go_num, by rw [HV.out], HB9.out.drew⟩
                case measure => simp [intOf]; omega
              · have h5 : decide ((0 : Int) < amt) = false := decide_eq_false hpos
                obtain ⟨x, hx⟩ : ∃ x, x = -amt := ⟨_, rfl⟩
                have HV := Lib.hid (HVN.out x (by omega) (by omega))
                obtain rfl : amt = -x := by omega
                clear hx
                go_wp2_with fail
                refine (l1Num_neg x _ (by omega) (by omega)).mono ?_
                rintro e w20 ⟨rfl, nn, rfl⟩
                go_wp2_with fail
                go_roundw
                case rel => exact ⟨k + 1, by omega, by go_num, by rw [HV.out], bl_drewN HB9.out _⟩
                case measure => simp [intOf]; omega
            · go_simp
              refine hK.out _ _ (⟨kq0, kq1, kq2⟩) (fun hHeld => ?_)
              clear hK K
              try simp only [Act.put, List.setIfInBounds_toArray, List.set_cons_zero, List.set_cons_succ]
              refine wpAnyH_ready (rs := [3]) (by kernel_rfl) (by simp) ?_
              refine AllReadyH.cons rfl (fun K hK => ?_) AllReadyH.nil
              go_simp
              go_at_call 44
              refine (l1Num_dig _ _ (by omega) (by omega)).mono ?_
              rintro e w20 ⟨rfl, hw⟩
              subst hw
              try go_simp
              refine hK.out _ _ (⟨kq0, kq1, kq2⟩) (fun hHeld => ?_)
              clear hK K
              try simp only [Act.put, List.setIfInBounds_toArray, List.set_cons_zero, List.set_cons_succ]
              refine take1 (i := 4) (v := ?v46) (some 24) rfl rfl (by kernel_rfl) (by kernel_rfl) (by kernel_rfl) (fun _ _ _ h => h) (Or.inl ⟨by rfl, ?y46⟩) (by assumption) ?r46
              case y46 => (intro w hSw; (try dsimp only at hSw); go_simp; (first | done | with_reducible rfl))
              try simp only [Act.put, List.setIfInBounds_toArray, List.set_cons_zero, List.set_cons_succ]
              refine take1 (i := 10) (v := ?v47) (some 30) rfl rfl (by kernel_rfl) (by kernel_rfl) (by kernel_rfl) (fun _ _ _ h => h) (Or.inl ⟨by rfl, ?y47⟩) (by assumption) ?r47
              case y47 => (intro w hSw; (try dsimp only at hSw); go_simp; (first | done | with_reducible rfl))
              try simp only [Act.put, List.setIfInBounds_toArray, List.set_cons_zero, List.set_cons_succ]
              refine take1 (i := 11) (v := ?v48) (some 3) rfl rfl (by kernel_rfl) (by kernel_rfl) (by kernel_rfl) (fun _ _ _ h => h) (Or.inl ⟨by rfl, ?y48⟩) (by assumption) ?r48
              case y48 => (intro w hSw; (try dsimp only at hSw); go_simp; (first | done | with_reducible rfl))
              try simp only [Act.put, List.setIfInBounds_toArray, List.set_cons_zero, List.set_cons_succ]
              refine wpAnyH_done (by kernel_rfl) ?_ _
              clear kq0 kq1 kq2
              generalize w1.alloc (.cells #[.string ⟨#[117]⟩, .string ⟨#[108]⟩] 9) = w9 at kx2 HB9 ⊢
              by_cases hpos : 0 < amt
              · have h5 : decide ((0 : Int) < amt) = true := decide_eq_true hpos
                have HV := Lib.hid (HVP.out hpos)
                go_wp2_with fail
                refine (l1Num_dig amt _ (by omega) (by omega)).mono ?_
                rintro e w20 ⟨rfl, hw⟩
                subst hw
                go_wp2_with fail
                go_roundw
                case rel => exact ⟨k + 1, by omega, by go_num, by rw [HV.out], HB9.out.drew⟩
                case measure => simp [intOf]; omega
              · have h5 : decide ((0 : Int) < amt) = false := decide_eq_false hpos
                obtain ⟨x, hx⟩ : ∃ x, x = -amt := ⟨_, rfl⟩
                have HV := Lib.hid (HVN.out x (by omega) (by omega))
                obtain rfl : amt = -x := by omega
                clear hx
                go_wp2_with fail
                refine (l1Num_neg x _ (by omega) (by omega)).mono ?_
                rintro e w20 ⟨rfl, nn, rfl⟩
                go_wp2_with fail
                go_roundw
                case rel => exact ⟨k + 1, by omega, by go_num, by rw [HV.out], bl_drewN HB9.out _⟩
                case measure => simp [intOf]; omega
        · have HVP : Hid (0 < amt → s ++ ⟨#[32]⟩ ++ ⟨#[chD rod]⟩ ++ ⟨#[108]⟩ ++ ⟨#[43]⟩ ++ ⟨#[chD amt]⟩ = ⟨(msT (ms.take (k + 1))).toArray⟩) := Lib.hid (by
            intro hpos
            rw [HS.out, msT_snoc ms k hlt (by have := HK0.out; omega), HMK.out]; unfold mvT ulT sgT; simp [ByteArray.mk_append_mk, hpos])
          have HVN : Hid (∀ x, 0 < x → amt = -x → s ++ ⟨#[32]⟩ ++ ⟨#[chD rod]⟩ ++ ⟨#[108]⟩ ++ ⟨#[45, chD x]⟩ = ⟨(msT (ms.take (k + 1))).toArray⟩) := Lib.hid (by
            intro x hx hax
            have h1 : ¬ 0 < amt := by omega
            have h2 : -amt = x := by omega
            rw [HS.out, msT_snoc ms k hlt (by have := HK0.out; omega), HMK.out]; unfold mvT ulT sgT; dsimp only; rw [if_neg h1, if_neg h1, h2]; simp [ByteArray.mk_append_mk])
          have g0 : ¬ 9223372036854775807 < s.size + 1 := by omega
          have g1 : ¬ 9223372036854775807 < s.size + 1 + 1 := by omega
          have g2 : ¬ 9223372036854775807 < s.size + 1 + 1 + 1 := by omega
          have g3 : ¬ 9223372036854775807 < s.size + 1 + 1 + 1 + 1 := by omega
          have g4 : ¬ 9223372036854775807 < s.size + 1 + 1 + 1 + 1 + 1 := by omega
          have g9 : ¬ 9223372036854775807 < s.size + 1 + 1 + 1 + 2 := by omega
          have hkb : decide (0 < k) = true := decide_eq_true (by have := HK0.out; omega)
          go_wp2_with fail
          have hb1 : Below wr.heap.size wr (wr.alloc (.cells #[.int .i64 rod, .int .i64 1, .int .i64 amt] 40)) := (Below.refl _ _).alloc (Nat.le_refl _) _
          have hk1 : (wr.alloc (.cells #[.int .i64 rod, .int .i64 1, .int .i64 amt] 40)).heap[wr.heap.size]? = some (.cells #[.int .i64 rod, .int .i64 1, .int .i64 amt] 40 (0, 0)) := alloc_at rfl
          have hz1 : (wr.alloc (.cells #[.int .i64 rod, .int .i64 1, .int .i64 amt] 40)).heap.size = wr.heap.size + 1 := by simp
          generalize wr.alloc (.cells #[.int .i64 rod, .int .i64 1, .int .i64 amt] 40) = w1 at hb1 hk1 hz1 ⊢
          obtain ⟨c0, c1, c2, _, _, _⟩ := cell3 hk1
          have lb := lt_of_block hk1
          have HB1 := Lib.hid (HB.out.trans (hb1.mono HB.out.size))
          clear hb1 p0 p1 p2
          have hbq : Below w1.heap.size w1 (w1.drew.alloc (.cells #[.string ⟨#[117]⟩, .string ⟨#[108]⟩] 9)) := (Below.drew (Below.refl _ _)).alloc (Nat.le_refl _) _
          have kq0 := (hbq.cell (p := ⟨wr.heap.size, 0, none⟩) lb).trans c0
          have kq1 := (hbq.cell (p := ⟨wr.heap.size, 1, none⟩) lb).trans c1
          have kq2 := (hbq.cell (p := ⟨wr.heap.size, 2, none⟩) lb).trans c2
          have hbx : Below w1.heap.size w1 (w1.alloc (.cells #[.string ⟨#[117]⟩, .string ⟨#[108]⟩] 9)) := (Below.refl _ _).alloc (Nat.le_refl _) _
          have kx2 := (hbx.cell (p := ⟨wr.heap.size, 2, none⟩) lb).trans c2
          have HB9 := Lib.hid (HB1.out.trans (hbx.mono HB1.out.size))
          clear hbq hbx
          refine wp_region_held_drew (S := (fun w' => w'.cell? ⟨wr.heap.size, 0, none⟩ = some (.int .i64 rod) ∧ w'.cell? ⟨wr.heap.size, 1, none⟩ = some (.int .i64 1) ∧ w'.cell? ⟨wr.heap.size, 2, none⟩ = some (.int .i64 amt))) (by kernel_rfl) (⟨c0, c1, c2⟩) (fun hHeld => ?_)
          refine take1 (i := 0) (v := ?v49) (some 20) rfl rfl (by kernel_rfl) (by kernel_rfl) (by kernel_rfl) (fun _ _ _ h => h) (Or.inl ⟨by rfl, ?y49⟩) (by assumption) ?r49
          case y49 => (intro w hSw; (try dsimp only at hSw); go_simp; (first | done | with_reducible rfl))
          try simp only [Act.put, List.setIfInBounds_toArray, List.set_cons_zero, List.set_cons_succ]
          refine take1 (i := 1) (v := ?v50) (some 21) rfl rfl (by kernel_rfl) (by kernel_rfl) (by kernel_rfl) (fun _ _ _ h => h) (Or.inl ⟨by rfl, ?y50⟩) (by assumption) ?r50
          case y50 => (intro w hSw; (try dsimp only at hSw); go_simp; (first | done | with_reducible rfl))
          try simp only [Act.put, List.setIfInBounds_toArray, List.set_cons_zero, List.set_cons_succ]
          refine take1 (i := 2) (v := ?v51) (some 22) rfl rfl (by kernel_rfl) (by kernel_rfl) (by kernel_rfl) (fun _ _ _ h => h) (Or.inl ⟨by rfl, ?y51⟩) (by assumption) ?r51
          case y51 => (intro w hSw; (try dsimp only at hSw); go_simp; (first | done | with_reducible rfl))
          try simp only [Act.put, List.setIfInBounds_toArray, List.set_cons_zero, List.set_cons_succ]
          refine take1 (i := 6) (v := ?v52) (some 26) rfl rfl (by kernel_rfl) (by kernel_rfl) (by kernel_rfl) (fun _ _ _ h => h) (Or.inl ⟨by rfl, ?y52⟩) (by assumption) ?r52
          case y52 => (intro w hSw; (try dsimp only at hSw); go_simp; (first | done | with_reducible rfl))
          try simp only [Act.put, List.setIfInBounds_toArray, List.set_cons_zero, List.set_cons_succ]
          refine take1 (i := 7) (v := ?v53) (some 27) rfl rfl (by kernel_rfl) (by kernel_rfl) (by kernel_rfl) (fun _ _ _ h => h) (Or.inl ⟨by rfl, ?y53⟩) (by assumption) ?r53
          case y53 => (intro w hSw; (try dsimp only at hSw); go_simp; (first | done | with_reducible rfl))
          try simp only [Act.put, List.setIfInBounds_toArray, List.set_cons_zero, List.set_cons_succ]
          refine wpAnyH_ready (rs := [3, 5]) (by kernel_rfl) (by simp) ?_
          refine AllReadyH.cons rfl (fun K hK => ?_) (AllReadyH.cons rfl (fun K hK => ?_) AllReadyH.nil)
          · go_simp
            go_at_call 44
            refine (l1Num_dig _ _ (by omega) (by omega)).mono ?_
            rintro e w20 ⟨rfl, hw⟩
            subst hw
            try go_simp
            refine hK.out _ _ (hHeld) (fun hHeld => ?_)
            clear hK K
            try simp only [Act.put, List.setIfInBounds_toArray, List.set_cons_zero, List.set_cons_succ]
            refine take1 (i := 4) (v := ?v54) (some 24) rfl rfl (by kernel_rfl) (by kernel_rfl) (by kernel_rfl) (fun _ _ _ h => h) (Or.inl ⟨by rfl, ?y54⟩) (by assumption) ?r54
            case y54 => (intro w hSw; (try dsimp only at hSw); go_simp; (first | done | with_reducible rfl))
            try simp only [Act.put, List.setIfInBounds_toArray, List.set_cons_zero, List.set_cons_succ]
            refine wpAnyH_ready (rs := [5]) (by kernel_rfl) (by simp) ?_
            refine AllReadyH.cons rfl (fun K hK => ?_) AllReadyH.nil
            go_simp
            refine hK.out _ _ (⟨kq0, kq1, kq2⟩) (fun hHeld => ?_)
            clear hK K
            try simp only [Act.put, List.setIfInBounds_toArray, List.set_cons_zero, List.set_cons_succ]
            refine take1 (i := 8) (v := ?v55) (some 28) rfl rfl (by kernel_rfl) (by kernel_rfl) (by kernel_rfl) (fun _ _ _ h => h) (Or.inl ⟨by rfl, ?y55⟩) (by assumption) ?r55
            case y55 => (intro w hSw; (try dsimp only at hSw); go_simp; (first | done | with_reducible rfl))
            try simp only [Act.put, List.setIfInBounds_toArray, List.set_cons_zero, List.set_cons_succ]
            refine wpAnyH_ready (rs := [9]) (by kernel_rfl) (by simp) ?_
            refine AllReadyH.cons rfl (fun K hK => ?_) AllReadyH.nil
            go_simp
            refine hK.out _ _ (⟨kq0, kq1, kq2⟩) (fun hHeld => ?_)
            clear hK K
            try simp only [Act.put, List.setIfInBounds_toArray, List.set_cons_zero, List.set_cons_succ]
            refine take1 (i := 10) (v := ?v56) (some 30) rfl rfl (by kernel_rfl) (by kernel_rfl) (by kernel_rfl) (fun _ _ _ h => h) (Or.inl ⟨by rfl, ?y56⟩) (by assumption) ?r56
            case y56 => (intro w hSw; (try dsimp only at hSw); go_simp; (first | done | with_reducible rfl))
            try simp only [Act.put, List.setIfInBounds_toArray, List.set_cons_zero, List.set_cons_succ]
            refine take1 (i := 11) (v := ?v57) (some 3) rfl rfl (by kernel_rfl) (by kernel_rfl) (by kernel_rfl) (fun _ _ _ h => h) (Or.inl ⟨by rfl, ?y57⟩) (by assumption) ?r57
            case y57 => (intro w hSw; (try dsimp only at hSw); go_simp; (first | done | with_reducible rfl))
            try simp only [Act.put, List.setIfInBounds_toArray, List.set_cons_zero, List.set_cons_succ]
            refine wpAnyH_done (by kernel_rfl) ?_ _
            clear kq0 kq1 kq2
            generalize w1.alloc (.cells #[.string ⟨#[117]⟩, .string ⟨#[108]⟩] 9) = w9 at kx2 HB9 ⊢
            by_cases hpos : 0 < amt
            · have h5 : decide ((0 : Int) < amt) = true := decide_eq_true hpos
              have HV := Lib.hid (HVP.out hpos)
              go_wp2_with fail
              refine (l1Num_dig amt _ (by omega) (by omega)).mono ?_
              rintro e w20 ⟨rfl, hw⟩
              subst hw
              go_wp2_with fail
              go_roundw
              case rel => exact ⟨k + 1, by omega, by go_num, by rw [HV.out], HB9.out.drew⟩
              case measure => simp [intOf]; omega
            · have h5 : decide ((0 : Int) < amt) = false := decide_eq_false hpos
              obtain ⟨x, hx⟩ : ∃ x, x = -amt := ⟨_, rfl⟩
              have HV := Lib.hid (HVN.out x (by omega) (by omega))
              obtain rfl : amt = -x := by omega
              clear hx
              go_wp2_with fail
              refine (l1Num_neg x _ (by omega) (by omega)).mono ?_
              rintro e w20 ⟨rfl, nn, rfl⟩
              go_wp2_with fail
              go_roundw
              case rel => exact ⟨k + 1, by omega, by go_num, by rw [HV.out], bl_drewN HB9.out _⟩
              case measure => simp [intOf]; omega
          · go_simp
            refine hK.out _ _ (⟨kq0, kq1, kq2⟩) (fun hHeld => ?_)
            clear hK K
            try simp only [Act.put, List.setIfInBounds_toArray, List.set_cons_zero, List.set_cons_succ]
            refine take1 (i := 8) (v := ?v58) (some 28) rfl rfl (by kernel_rfl) (by kernel_rfl) (by kernel_rfl) (fun _ _ _ h => h) (Or.inl ⟨by rfl, ?y58⟩) (by assumption) ?r58
            case y58 => (intro w hSw; (try dsimp only at hSw); go_simp; (first | done | with_reducible rfl))
            try simp only [Act.put, List.setIfInBounds_toArray, List.set_cons_zero, List.set_cons_succ]
            refine wpAnyH_ready (rs := [3, 9]) (by kernel_rfl) (by simp) ?_
            refine AllReadyH.cons rfl (fun K hK => ?_) (AllReadyH.cons rfl (fun K hK => ?_) AllReadyH.nil)
            · go_simp
              go_at_call 44
              refine (l1Num_dig _ _ (by omega) (by omega)).mono ?_
              rintro e w20 ⟨rfl, hw⟩
              subst hw
              try go_simp
              refine hK.out _ _ (⟨kq0, kq1, kq2⟩) (fun hHeld => ?_)
              clear hK K
              try simp only [Act.put, List.setIfInBounds_toArray, List.set_cons_zero, List.set_cons_succ]
              refine take1 (i := 4) (v := ?v59) (some 24) rfl rfl (by kernel_rfl) (by kernel_rfl) (by kernel_rfl) (fun _ _ _ h => h) (Or.inl ⟨by rfl, ?y59⟩) (by assumption) ?r59
              case y59 => (intro w hSw; (try dsimp only at hSw); go_simp; (first | done | with_reducible rfl))
              try simp only [Act.put, List.setIfInBounds_toArray, List.set_cons_zero, List.set_cons_succ]
              refine wpAnyH_ready (rs := [9]) (by kernel_rfl) (by simp) ?_
              refine AllReadyH.cons rfl (fun K hK => ?_) AllReadyH.nil
              go_simp
              refine hK.out _ _ (⟨kq0, kq1, kq2⟩) (fun hHeld => ?_)
              clear hK K
              try simp only [Act.put, List.setIfInBounds_toArray, List.set_cons_zero, List.set_cons_succ]
              refine take1 (i := 10) (v := ?v60) (some 30) rfl rfl (by kernel_rfl) (by kernel_rfl) (by kernel_rfl) (fun _ _ _ h => h) (Or.inl ⟨by rfl, ?y60⟩) (by assumption) ?r60
              case y60 => (intro w hSw; (try dsimp only at hSw); go_simp; (first | done | with_reducible rfl))
              try simp only [Act.put, List.setIfInBounds_toArray, List.set_cons_zero, List.set_cons_succ]
              refine take1 (i := 11) (v := ?v61) (some 3) rfl rfl (by kernel_rfl) (by kernel_rfl) (by kernel_rfl) (fun _ _ _ h => h) (Or.inl ⟨by rfl, ?y61⟩) (by assumption) ?r61
              case y61 => (intro w hSw; (try dsimp only at hSw); go_simp; (first | done | with_reducible rfl))
              try simp only [Act.put, List.setIfInBounds_toArray, List.set_cons_zero, List.set_cons_succ]
              refine wpAnyH_done (by kernel_rfl) ?_ _
              clear kq0 kq1 kq2
              generalize w1.alloc (.cells #[.string ⟨#[117]⟩, .string ⟨#[108]⟩] 9) = w9 at kx2 HB9 ⊢
              by_cases hpos : 0 < amt
              · have h5 : decide ((0 : Int) < amt) = true := decide_eq_true hpos
                have HV := Lib.hid (HVP.out hpos)
                go_wp2_with fail
                refine (l1Num_dig amt _ (by omega) (by omega)).mono ?_
                rintro e w20 ⟨rfl, hw⟩
                subst hw
                go_wp2_with fail
                go_roundw
                case rel => exact ⟨k + 1, by omega, by go_num, by rw [HV.out], HB9.out.drew⟩
                case measure => simp [intOf]; omega
              · have h5 : decide ((0 : Int) < amt) = false := decide_eq_false hpos
                obtain ⟨x, hx⟩ : ∃ x, x = -amt := ⟨_, rfl⟩
                have HV := Lib.hid (HVN.out x (by omega) (by omega))
                obtain rfl : amt = -x := by omega
                clear hx
                go_wp2_with fail
                refine (l1Num_neg x _ (by omega) (by omega)).mono ?_
                rintro e w20 ⟨rfl, nn, rfl⟩
                go_wp2_with fail
                go_roundw
                case rel => exact ⟨k + 1, by omega, by go_num, by rw [HV.out], bl_drewN HB9.out _⟩
                case measure => simp [intOf]; omega
            · go_simp
              refine hK.out _ _ (⟨kq0, kq1, kq2⟩) (fun hHeld => ?_)
              clear hK K
              try simp only [Act.put, List.setIfInBounds_toArray, List.set_cons_zero, List.set_cons_succ]
              refine wpAnyH_ready (rs := [3]) (by kernel_rfl) (by simp) ?_
              refine AllReadyH.cons rfl (fun K hK => ?_) AllReadyH.nil
              go_simp
              go_at_call 44
              refine (l1Num_dig _ _ (by omega) (by omega)).mono ?_
              rintro e w20 ⟨rfl, hw⟩
              subst hw
              try go_simp
              refine hK.out _ _ (⟨kq0, kq1, kq2⟩) (fun hHeld => ?_)
              clear hK K
              try simp only [Act.put, List.setIfInBounds_toArray, List.set_cons_zero, List.set_cons_succ]
              refine take1 (i := 4) (v := ?v62) (some 24) rfl rfl (by kernel_rfl) (by kernel_rfl) (by kernel_rfl) (fun _ _ _ h => h) (Or.inl ⟨by rfl, ?y62⟩) (by assumption) ?r62
              case y62 => (intro w hSw; (try dsimp only at hSw); go_simp; (first | done | with_reducible rfl))
              try simp only [Act.put, List.setIfInBounds_toArray, List.set_cons_zero, List.set_cons_succ]
              refine take1 (i := 10) (v := ?v63) (some 30) rfl rfl (by kernel_rfl) (by kernel_rfl) (by kernel_rfl) (fun _ _ _ h => h) (Or.inl ⟨by rfl, ?y63⟩) (by assumption) ?r63
              case y63 => (intro w hSw; (try dsimp only at hSw); go_simp; (first | done | with_reducible rfl))
              try simp only [Act.put, List.setIfInBounds_toArray, List.set_cons_zero, List.set_cons_succ]
              refine take1 (i := 11) (v := ?v64) (some 3) rfl rfl (by kernel_rfl) (by kernel_rfl) (by kernel_rfl) (fun _ _ _ h => h) (Or.inl ⟨by rfl, ?y64⟩) (by assumption) ?r64
              case y64 => (intro w hSw; (try dsimp only at hSw); go_simp; (first | done | with_reducible rfl))
              try simp only [Act.put, List.setIfInBounds_toArray, List.set_cons_zero, List.set_cons_succ]
              refine wpAnyH_done (by kernel_rfl) ?_ _
              clear kq0 kq1 kq2
              generalize w1.alloc (.cells #[.string ⟨#[117]⟩, .string ⟨#[108]⟩] 9) = w9 at kx2 HB9 ⊢
              by_cases hpos : 0 < amt
              · have h5 : decide ((0 : Int) < amt) = true := decide_eq_true hpos
                have HV := Lib.hid (HVP.out hpos)
                go_wp2_with fail
                refine (l1Num_dig amt _ (by omega) (by omega)).mono ?_
                rintro e w20 ⟨rfl, hw⟩
                subst hw
                go_wp2_with fail
                go_roundw
                case rel => exact ⟨k + 1, by omega, by go_num, by rw [HV.out], HB9.out.drew⟩
                case measure => simp [intOf]; omega
              · have h5 : decide ((0 : Int) < amt) = false := decide_eq_false hpos
                obtain ⟨x, hx⟩ : ∃ x, x = -amt := ⟨_, rfl⟩
                have HV := Lib.hid (HVN.out x (by omega) (by omega))
                obtain rfl : amt = -x := by omega
                clear hx
                go_wp2_with fail
                refine (l1Num_neg x _ (by omega) (by omega)).mono ?_
                rintro e w20 ⟨rfl, nn, rfl⟩
                go_wp2_with fail
                go_roundw
                case rel => exact ⟨k + 1, by omega, by go_num, by rw [HV.out], bl_drewN HB9.out _⟩
                case measure => simp [intOf]; omega
    · have HE : Hid ((⟨(msT (ms.take k)).toArray⟩ : ByteArray) = ⟨(msT ms).toArray⟩) := Lib.hid (by rw [List.take_of_length_le (by omega)])
      generalize (⟨(msT (ms.take k)).toArray⟩ : ByteArray) = s at HE ⊢
      clear hb
      go_wp2_with fail
      go_ret
      exact ⟨ret_str HE.out, HB.out⟩

set_option maxRecDepth 100000 in
set_option maxHeartbeats 800000 in
theorem specText_yes (v : Value) (ps : List Mv) (w : World) (h : RowsR 3 mvC w v ps) (ho : okMs ps) :
    Calls Try.prog 8 #[v] w fun e w' => e = .returned (.tuple #[.string ⟨(msT ps).toArray⟩, .bool true]) ∧ Below w.heap.size w w' := by
  have HH := Lib.hid h
  have HO := Lib.hid ho
  clear h ho
  go_enter Try.func8, Try.ntmps8
  go_wp2_with fail
  refine (l4Good_any v ps _ HH.out true ⟨fun _ => HO.out, fun _ => rfl⟩).mono ?_
  rintro e w2 ⟨rfl, hb⟩
  have HB := Lib.hid hb
  clear hb
  go_wp2_with fail
  refine (l4Text_any v ps _ (HH.out.below HB.out (Nat.le_refl _)) HO.out).mono ?_
  rintro e w3 ⟨rfl, hb⟩
  have HB2 := Lib.hid (HB.out.trans (hb.mono HB.out.size))
  clear hb
  go_wp2_with fail
  go_ret2
  exact ⟨rfl, HB2.out⟩
set_option maxRecDepth 100000 in
set_option maxHeartbeats 800000 in
theorem specText_no (v : Value) (ps : List Mv) (w : World) (h : RowsR 3 mvC w v ps) (ho : ¬ okMs ps) :
    Calls Try.prog 8 #[v] w fun e w' => e = .returned (.tuple #[.string ⟨#[]⟩, .bool false]) ∧ Below w.heap.size w w' := by
  have HH := Lib.hid h
  have HO := Lib.hid ho
  clear h ho
  go_enter Try.func8, Try.ntmps8
  go_wp2_with fail
  refine (l4Good_any v ps _ HH.out false ⟨fun h => by simp at h, fun h => absurd h HO.out⟩).mono ?_
  rintro e w2 ⟨rfl, hb⟩
  go_wp2_with fail
  go_ret2
  exact ⟨rfl, hb⟩
end Go.Proofs.Ytmkocinknhaniaa
