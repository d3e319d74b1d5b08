/- The model's l4Beads and BeadsOf. -/
import Derived.Test.YtmkocinknhaniaaKz
namespace Go.Proofs.Ytmkocinknhaniaa
set_option linter.unusedVariables false
open Go.RowKit

def absI (x : Int) : Int := if x < 0 then -x else x
def beadsI (ms : List Mv) : Int := (ms.map fun m => absI m.amt).sum
theorem beadsI_snoc (ms : List Mv) (k : Nat) (h : k < ms.length) : beadsI (ms.take (k + 1)) = beadsI (ms.take k) + absI ms[k].amt := by
  unfold beadsI; rw [List.take_succ_eq_append_getElem h, List.map_append, List.sum_append]; simp
theorem absI_bd {x : Int} (h : -5 ≤ x ∧ x ≤ 5) : 0 ≤ absI x ∧ absI x ≤ 5 := by unfold absI; split <;> omega

set_option maxRecDepth 100000 in
set_option maxHeartbeats 400000 in
theorem l1Most_abs (x d : Int) (w : World) (hx : -5 ≤ x ∧ x ≤ 5) (hd : absI x = d) :
    Calls Try.prog 49 #[.int .i64 x, .int .i64 (-x)] w fun e w' => e = .returned (.int .i64 d) ∧ w' = w := by
  obtain ⟨h1, h2⟩ := hx
  by_cases h : -x < x
  · have e : x = d := by unfold absI at hd; split at hd <;> omega
    subst e
    clear hd
    go_enter Try.func49, Try.ntmps49
    go_wp2_with fail
    go_ret
    exact ⟨rfl, rfl⟩
  · have HE : Hid (-x = d) := Lib.hid (by unfold absI at hd; split at hd <;> omega)
    clear hd
    go_enter Try.func49, Try.ntmps49
    go_wp2_with fail
    go_ret
    exact ⟨by rw [← HE.out]; rfl, rfl⟩

set_option maxRecDepth 100000 in
set_option maxHeartbeats 1600000 in
theorem l4Beads_any (v : Value) (ps : List Mv) (w : World) (h : RowsR 3 mvC w v ps) (ho : okMs ps) :
    Calls Try.prog 40 #[v] w fun e w' => e = .returned (.int .i64 (beadsI ps)) ∧ Below w.heap.size w w' := by
  have hm : ps.length ≤ 9223372036854775807 := by obtain ⟨_, _, _, ⟨m, _⟩, _⟩ := h; exact m
  obtain ⟨a, cp, rfl⟩ := h.form
  have R1 := Lib.hid h.at
  have HO := Lib.hid ho
  have h60 := ho.2
  clear h ho
  go_enter Try.func40, Try.ntmps40
  go_wp2_with fail
  go_loopw [3, 4] (fun n i wr => ∃ (k : Nat) (S : Int), k ≤ ps.length ∧ i = .int .i64 k ∧ n = .int .i64 S ∧ 0 ≤ S ∧ S ≤ 5 * k ∧ Hid (beadsI (ps.take k) = S) ∧ Below w.heap.size w wr) (fun _ i _ => ps.length - (intOf i).toNat)
  case atStart => exact ⟨0, 0, Nat.zero_le _, rfl, rfl, by omega, by omega, Lib.hid rfl, Below.refl _ _⟩
  case round =>
    obtain ⟨k, S, hk, rfl, rfl, hS0, hS1, HSM, hb⟩ := hrel
    have HB := Lib.hid hb
    by_cases hlt : k < ps.length
    · have z1 : (0 : Int) ≤ (k : Int) := by omega
      have z2 : (k : Int) < (ps.length : Int) := by omega
      obtain ⟨b1, o1, rfl, l1, k1⟩ := R1.out _ hb k hlt
      have p2 : wr.cell? ⟨b1, o1 + k * 3 + 2, none⟩ = some (.int .i64 ps[k].amt) := k1 2 (by omega)
      have hok := HO.out.1 k hlt
      obtain ⟨x, hx⟩ : ∃ x, ps[k].amt = x := ⟨_, rfl⟩
      have HX := Lib.hid hx
      obtain ⟨hx0, hx1⟩ : -5 ≤ x ∧ x ≤ 5 := by have := hok.2.2.1; omega
      obtain ⟨d, hd⟩ : ∃ d, absI x = d := ⟨_, rfl⟩
      have hdb : 0 ≤ d ∧ d ≤ 5 := by rw [← hd]; exact absI_bd ⟨hx0, hx1⟩
      have HD := Lib.hid hd
      rw [hx] at p2
      have hwn : IntKind.i64.wrap (-x) = -x := by rw [IntKind.wrap_i64]; omega
      clear k1 hb hok hx hd
      obtain ⟨hd0, hd1⟩ := hdb
      have hws : IntKind.i64.wrap (S + d) = S + d := by rw [IntKind.wrap_i64]; omega
      go_wp2_with fail
      refine wp_region_held_drew (S := (fun w' => w'.cell? ⟨b1, o1 + k * 3 + 2, none⟩ = some (.int .i64 x))) (by kernel_rfl) (p2) (fun hHeld => ?_)
      refine take1 (i := 0) (v := ?v1) (some 11) rfl rfl (by kernel_rfl) (by kernel_rfl) (by kernel_rfl) (fun _ _ _ h => h) (Or.inl ⟨by rfl, ?y1⟩) (by assumption) ?r1
      case y1 => (intro w hSw; (try dsimp only at hSw); go_simp; (first | done | with_reducible rfl))
      try simp only [Act.put, List.setIfInBounds_toArray, List.set_cons_zero, List.set_cons_succ]
      refine take1 (i := 1) (v := ?v2) (some 12) rfl rfl (by kernel_rfl) (by kernel_rfl) (by kernel_rfl) (fun _ _ _ h => h) (Or.inl ⟨by rfl, ?y2⟩) (by assumption) ?r2
      case y2 => (intro w hSw; (try dsimp only at hSw); go_simp; (first | done | with_reducible rfl))
      try simp only [Act.put, List.setIfInBounds_toArray, List.set_cons_zero, List.set_cons_succ]
      refine take1 (i := 2) (v := ?v3) (some 13) rfl rfl (by kernel_rfl) (by kernel_rfl) (by kernel_rfl) (fun _ _ _ h => h) (Or.inl ⟨by rfl, ?y3⟩) (by assumption) ?r3
      case y3 => (intro w hSw; (try dsimp only at hSw); go_simp; (first | done | with_reducible rfl))
      try simp only [Act.put, List.setIfInBounds_toArray, List.set_cons_zero, List.set_cons_succ]
      refine take1 (i := 3) (v := ?v4) (some 14) rfl rfl (by kernel_rfl) (by kernel_rfl) (by kernel_rfl) (fun _ _ _ h => h) (Or.inl ⟨by rfl, ?y4⟩) (by assumption) ?r4
      case y4 => (intro w hSw; (try dsimp only at hSw); go_simp; (first | done | with_reducible rfl))
      try simp only [Act.put, List.setIfInBounds_toArray, List.set_cons_zero, List.set_cons_succ]
      refine take1 (i := 4) (v := ?v5) (some 15) rfl rfl (by kernel_rfl) (by kernel_rfl) (by kernel_rfl) (fun _ _ _ h => h) (Or.inl ⟨by rfl, ?y5⟩) (by assumption) ?r5
      case y5 => (intro w hSw; (try dsimp only at hSw); go_simp; (first | done | with_reducible rfl))
      try simp only [Act.put, List.setIfInBounds_toArray, List.set_cons_zero, List.set_cons_succ]
      refine take1 (i := 5) (v := ?v6) (some 16) rfl rfl (by kernel_rfl) (by kernel_rfl) (by kernel_rfl) (fun _ _ _ h => h) (Or.inl ⟨by rfl, ?y6⟩) (by assumption) ?r6
      case y6 => (intro w hSw; (try dsimp only at hSw); go_simp; (first | done | with_reducible rfl))
      try simp only [Act.put, List.setIfInBounds_toArray, List.set_cons_zero, List.set_cons_succ]
      refine take1 (i := 6) (v := ?v7) (some 17) rfl rfl (by kernel_rfl) (by kernel_rfl) (by kernel_rfl) (fun _ _ _ h => h) (Or.inl ⟨by rfl, ?y7⟩) (by assumption) ?r7
      case y7 => (intro w hSw; (try dsimp only at hSw); go_simp; (first | done | with_reducible rfl))
      try simp only [Act.put, List.setIfInBounds_toArray, List.set_cons_zero, List.set_cons_succ]
      refine take1 (i := 7) (v := ?v8) (some 18) rfl rfl (by kernel_rfl) (by kernel_rfl) (by kernel_rfl) (fun _ _ _ h => h) (Or.inl ⟨by rfl, ?y8⟩) (by assumption) ?r8
      case y8 => (intro w hSw; (try dsimp only at hSw); go_simp; (first | done | with_reducible rfl))
      try simp only [Act.put, List.setIfInBounds_toArray, List.set_cons_zero, List.set_cons_succ]
      refine take1 (i := 8) (v := ?v9) (some 19) rfl rfl (by kernel_rfl) (by kernel_rfl) (by kernel_rfl) (fun _ _ _ h => h) (Or.inl ⟨by rfl, ?y9⟩) (by assumption) ?r9
      case y9 => (intro w hSw; (try dsimp only at hSw); go_simp; (first | done | with_reducible rfl))
      try simp only [Act.put, List.setIfInBounds_toArray, List.set_cons_zero, List.set_cons_succ]
      refine take1 (i := 9) (v := ?v10) (some 20) rfl rfl (by kernel_rfl) (by kernel_rfl) (by kernel_rfl) (fun _ _ _ h => h) (Or.inl ⟨by rfl, ?y10⟩) (by assumption) ?r10
      case y10 => (intro w hSw; (try dsimp only at hSw); go_simp; (first | done | with_reducible rfl))
      try simp only [Act.put, List.setIfInBounds_toArray, List.set_cons_zero, List.set_cons_succ]
      refine take1 (i := 10) (v := ?v11) (some 21) rfl rfl (by kernel_rfl) (by kernel_rfl) (by kernel_rfl) (fun _ _ _ h => h) (Or.inl ⟨by rfl, ?y11⟩) (by assumption) ?r11
      case y11 => (intro w hSw; (try dsimp only at hSw); go_simp; (first | done | with_reducible rfl))
      try simp only [Act.put, List.setIfInBounds_toArray, List.set_cons_zero, List.set_cons_succ]
      refine take1 (i := 11) (v := ?v12) (some 22) rfl rfl (by kernel_rfl) (by kernel_rfl) (by kernel_rfl) (fun _ _ _ h => h) (Or.inl ⟨by rfl, ?y12⟩) (by assumption) ?r12
      case y12 => (intro w hSw; (try dsimp only at hSw); go_simp; (first | done | with_reducible rfl))
      try simp only [Act.put, List.setIfInBounds_toArray, List.set_cons_zero, List.set_cons_succ]
      refine wpAnyH_ready (rs := [12]) (by kernel_rfl) (by simp) ?_
      refine AllReadyH.cons rfl (fun K hK => ?_) AllReadyH.nil
      go_simp
      go_at_call 49
      try rw [hwn]
      refine (l1Most_abs x d _ ⟨hx0, hx1⟩ HD.out).mono ?_
      rintro e w2 ⟨rfl, hw2⟩
      subst hw2
      try go_simp
      refine hK.out _ _ (hHeld) (fun hHeld => ?_)
      clear hK K
      try simp only [Act.put, List.setIfInBounds_toArray, List.set_cons_zero, List.set_cons_succ]
      refine take1 (i := 13) (v := ?v13) (some 24) rfl rfl (by kernel_rfl) (by kernel_rfl) (by kernel_rfl) (fun _ _ _ h => h) (Or.inl ⟨by rfl, ?y13⟩) (by assumption) ?r13
      case y13 => (intro w hSw; (try dsimp only at hSw); go_simp; (first | done | with_reducible rfl))
      try simp only [Act.put, List.setIfInBounds_toArray, List.set_cons_zero, List.set_cons_succ]
      refine take1 (i := 14) (v := ?v14) (some 3) rfl rfl (by kernel_rfl) (by kernel_rfl) (by kernel_rfl) (fun _ _ _ h => h) (Or.inl ⟨by rfl, ?y14⟩) (by assumption) ?r14
      case y14 => (intro w hSw; (try dsimp only at hSw); go_simp; (first | done | with_reducible rfl))
      try simp only [Act.put, List.setIfInBounds_toArray, List.set_cons_zero, List.set_cons_succ]
      refine wpAnyH_done (by kernel_rfl) ?_ _
      go_wp2_with fail
      go_roundw
      case rel => exact ⟨k + 1, S + d, by omega, by go_num, (by first | rfl | rw [hws] | go_num), by omega, by omega, Lib.hid (by rw [beadsI_snoc ps k hlt, HSM.out, HX.out, HD.out]), HB.out.drew⟩
      case measure => simp [intOf]; omega
    · have HE : Hid (beadsI ps = S) := Lib.hid (by have := HSM.out; rwa [List.take_of_length_le (by omega)] at this)
      clear hb
      go_wp2_with fail
      go_ret
      exact ⟨by rw [HE.out]; rfl, HB.out⟩

set_option maxRecDepth 100000 in
set_option maxHeartbeats 800000 in
theorem specBeads_yes (v : Value) (ps : List Mv) (w : World) (h : RowsR 3 mvC w v ps) (ho : okMs ps) :
    Calls Try.prog 20 #[v] w fun e w' => e = .returned (.tuple #[.int .i64 (beadsI ps), .bool true]) ∧ Below w.heap.size w w' := by
  have HH := Lib.hid h
  have HO := Lib.hid ho
  clear h ho
  go_enter Try.func20, Try.ntmps20
  go_wp2_with fail
  refine (l4Good_any v ps _ HH.out true ⟨fun _ => HO.out, fun _ => rfl⟩).mono ?_
  rintro e w2 ⟨rfl, hb⟩
  have HB := Lib.hid hb
  clear hb
  go_wp2_with fail
  refine (l4Beads_any v ps _ (HH.out.below HB.out (Nat.le_refl _)) HO.out).mono ?_
  rintro e w3 ⟨rfl, hb⟩
  have HB2 := Lib.hid (HB.out.trans (hb.mono HB.out.size))
  clear hb
  go_wp2_with fail
  go_ret2
  exact ⟨rfl, HB2.out⟩
set_option maxRecDepth 100000 in
set_option maxHeartbeats 800000 in
theorem specBeads_no (v : Value) (ps : List Mv) (w : World) (h : RowsR 3 mvC w v ps) (ho : ¬ okMs ps) :
    Calls Try.prog 20 #[v] w fun e w' => e = .returned (.tuple #[.int .i64 0, .bool false]) ∧ Below w.heap.size w w' := by
  have HH := Lib.hid h
  have HO := Lib.hid ho
  clear h ho
  go_enter Try.func20, Try.ntmps20
  go_wp2_with fail
  refine (l4Good_any v ps _ HH.out false ⟨fun h => by simp at h, fun h => absurd h HO.out⟩).mono ?_
  rintro e w2 ⟨rfl, hb⟩
  go_wp2_with fail
  go_ret2
  exact ⟨rfl, hb⟩
end Go.Proofs.Ytmkocinknhaniaa
