/- The program's test whether elements can be joined. -/
import Derived.Test.YtfmkdfmholhnjaaStrs
import Derived.Deep.LoopGhost
import Derived.LoopTactic
namespace Go.Proofs.Ytfmkdfmholhnjaa
set_option linter.unusedVariables false
open Go.RowKit

theorem byte_ne {x c : UInt8} (h : x ≠ c) : ((x.toNat : Int) == (c.toNat : Int)) = false := by
  rw [beq_eq_false_iff_ne]; intro e; exact h (UInt8.toNat_inj.1 (by omega))
theorem not_mem_at {s : ByteArray} {c : UInt8} (h : c ∉ s.data.toList) (k : Nat) (hk : k < s.size) : s[k] ≠ c := by
  intro e
  exact h (by rw [← e]; exact List.getElem_mem (l := s.data.toList) (by simpa using hk))

theorem byte_eq {x c : UInt8} (h : x = c) : ((x.toNat : Int) == (c.toNat : Int)) = true := by rw [h]; simp
theorem first_at {s : ByteArray} {c : UInt8} (h : c ∈ s.data.toList) : ∃ (j : Nat) (hj : j < s.size), s[j] = c ∧ ∀ (i : Nat) (hi : i < s.size), i < j → s[i] ≠ c := by
  have hex : ∃ j, ∃ hj : j < s.size, s[j] = c := by
    obtain ⟨j, hj, he⟩ := List.getElem_of_mem h
    exact ⟨j, by simpa using hj, he⟩
  have key : ∀ n, ∀ m, m ≤ n → (∃ hm : m < s.size, s[m] = c) → ∃ (j : Nat) (hj : j < s.size), s[j] = c ∧ ∀ (i : Nat) (hi : i < s.size), i < j → s[i] ≠ c := by
    intro n
    induction n with
    | zero => intro m hm ⟨h1, h2⟩; exact ⟨m, h1, h2, fun i _ hi => by omega⟩
    | succ n ih =>
      intro m hm ⟨h1, h2⟩
      by_cases hx : ∃ j, j < m ∧ ∃ hj : j < s.size, s[j] = c
      · obtain ⟨j, hj, hb⟩ := hx
        exact ih j (by omega) hb
      · exact ⟨m, h1, h2, fun i hi him he => hx ⟨i, him, hi, he⟩⟩
  obtain ⟨m, hm⟩ := hex
  exact key m m (Nat.le_refl _) hm

set_option maxRecDepth 100000 in
set_option maxHeartbeats 800000 in
theorem canJoin_yes (v : Value) (ss : List ByteArray) (c : UInt8) (w : World) (h : SlR w v (ss.map Value.string)) (hn : ss.length ≤ 1048576) (hc : ∀ x ∈ ss, c ∉ x.data.toList) (ht : (ss.length : Int) - 1 + (sizes ss : Nat) ≤ 4000) :
    Calls Try.prog 26 #[v, .int .u8 (c.toNat : Int)] w fun e w' => e = .returned (.bool true) ∧ ∃ m, w' = w.drewN m := by
  obtain ⟨a, cp, rfl, ⟨m1, _⟩, r1⟩ := h
  rw [List.length_map] at *
  have R1 : Hid (ss ≠ [] → ∃ b off, a = some ⟨b, off, none⟩ ∧ b < w.heap.size ∧ ∀ (i : Nat) (h : i < ss.length), w.cell? ⟨b, off + i, none⟩ = some (.string ss[i])) := Lib.hid fun hx => by
    obtain ⟨b, off, h1, h2, h3⟩ := r1 (by simpa using hx)
    exact ⟨b, off, h1, h2, fun i h => by have q := h3 i (by simpa using h); rwa [List.getElem_map] at q⟩
  have HC := Lib.hid hc
  clear r1 m1 hc
  have hmono : ∀ k, sizes (ss.take k) ≤ sizes ss := fun k => by
    have e : sizes ss = sizes (ss.take k) + sizes (ss.drop k) := by
      conv => lhs; rw [← List.take_append_drop k ss]
      rw [sizes, List.map_append, List.sum_append]; rfl
    omega
  have HM := Lib.hid hmono
  clear hmono
  go_enter Try.func26, Try.ntmps26
  go_wp2
  go_step3
  go_wp2
  go_step3
  go_wp2
  go_loopg [5, 6, 15] ss.length (fun g s5 s6 s15 wx => ∃ (k m : Nat), k + g = ss.length ∧ s15 = .int .i64 k ∧ s6 = .bool true ∧ s5 = .int .i64 ((ss.length : Int) - 1 + (sizes (ss.take k) : Nat)) ∧ wx = w.drewN m)
  case atStart => exact ⟨0, 0, by omega, rfl, rfl, by simp [sizes], rfl⟩
  case round =>
    obtain ⟨k, m, hkg, rfl, rfl, rfl, rfl⟩ := hrel
    have HK := Lib.hid hkg
    have hk1 : k ≤ ss.length := by omega
    clear hkg
    by_cases hlt : k < ss.length
    · obtain ⟨b1, o1, rfl, l1, K1⟩ := R1.out (by intro e; subst e; simp at hlt)
      have q1 := K1 k hlt
      have hs1 := HM.out (k + 1)
      rw [sizes_take ss k hlt] at hs1
      have HS := Lib.hid (sizes_take ss k hlt)
      have HN := Lib.hid (HC.out ss[k] (List.getElem_mem _))
      clear K1
      generalize hT : ss[k] = T at *
      have HT := Lib.hid hT
      clear hT
      go_wp2_with fail
      go_loopg [6, 27] T.size (fun g2 s6 s27 wy => ∃ j : Nat, j + g2 = T.size ∧ s27 = .int .i64 j ∧ s6 = .bool true ∧ wy = w.drewN m)
      case atStart => exact ⟨0, by omega, rfl, rfl, rfl⟩
      case round =>
        obtain ⟨j, hj, rfl, rfl, rfl⟩ := hrel
        have HJ := Lib.hid hj
        have hj1 : j ≤ T.size := by omega
        clear hj
        by_cases hjt : j < T.size
        · have hne := byte_ne (not_mem_at HN.out j hjt)
          go_wp2
          go_roundg (T.size - (j + 1))
          case measure => have := HJ.out; omega
          case rel => exact ⟨j + 1, by omega, by go_num, rfl, rfl⟩
        · go_wp2
          go_roundg (ss.length - (k + 1))
          case measure => have := HK.out; omega
          case rel => exact ⟨k + 1, m, by omega, by go_num, rfl, by rw [HS.out]; congr 1; omega, rfl⟩
    · have hsz : sizes (ss.take k) = sizes ss := by rw [List.take_of_length_le (by omega)]
      have hq : (ss.length : Int) - 1 + (sizes (ss.take k) : Nat) ≤ 4000 := by omega
      clear hsz
      go_wp2_with fail
      rw [Exit.noGoto_ret]
      go_ret
      exact ⟨rfl, _, rfl⟩
set_option maxRecDepth 100000 in
set_option maxHeartbeats 800000 in
theorem canJoin_big (v : Value) (ss : List ByteArray) (c : UInt8) (w : World) (h : SlR w v (ss.map Value.string)) (hn : ss.length ≤ 1048576) (h0 : 0 < ss.length) (hsz : ∀ x ∈ ss, x.size ≤ 1048576) (hq : 4000 < (ss.length : Int) - 1) :
    Calls Try.prog 26 #[v, .int .u8 (c.toNat : Int)] w fun e w' => e = .returned (.bool false) ∧ ∃ m, w' = w.drewN m := by
  obtain ⟨a, cp, rfl, ⟨m1, _⟩, r1⟩ := h
  rw [List.length_map] at *
  have R1 : Hid (ss ≠ [] → ∃ b off, a = some ⟨b, off, none⟩ ∧ b < w.heap.size ∧ ∀ (i : Nat) (h : i < ss.length), w.cell? ⟨b, off + i, none⟩ = some (.string ss[i])) := Lib.hid fun hx => by
    obtain ⟨b, off, h1, h2, h3⟩ := r1 (by simpa using hx)
    exact ⟨b, off, h1, h2, fun i h => by have q := h3 i (by simpa using h); rwa [List.getElem_map] at q⟩
  obtain ⟨b1, o1, rfl, l1, K1⟩ := R1.out (by intro e; subst e; simp at h0)
  have q1 : w.cell? ⟨b1, o1, none⟩ = some (.string ss[0]) := K1 0 h0
  have hz := hsz ss[0] (List.getElem_mem _)
  clear r1 m1 K1 hsz R1
  go_enter Try.func26, Try.ntmps26
  go_wp2
  go_step3
  go_wp2
  go_step3
  go_wp2
  refine wp_loop_rounds 1 ?_
  rw [rounds_succ]
  go_wp2_with fail
  rw [Exit.noGoto_ret]
  go_ret
  exact ⟨ret_bool (decide_eq_false (by omega)), 0, rfl⟩
set_option maxRecDepth 100000 in
set_option maxHeartbeats 800000 in
theorem canJoin_long (v : Value) (ss : List ByteArray) (c : UInt8) (w : World) (h : SlR w v (ss.map Value.string)) (hn : ss.length ≤ 1048576) (p : Nat) (hp : p < ss.length) (hsz : ∀ x ∈ ss, x.size ≤ 1048576) (hc : ∀ (k : Nat) (h : k < ss.length), k < p → c ∉ ss[k].data.toList) (ht : (ss.length : Int) - 1 + (sizes (ss.take p) : Nat) ≤ 4000) (hq : 4000 < (ss.length : Int) - 1 + (sizes (ss.take p) : Nat) + (ss[p].size : Int)) :
    Calls Try.prog 26 #[v, .int .u8 (c.toNat : Int)] w fun e w' => e = .returned (.bool false) ∧ ∃ m, w' = w.drewN m := by
  obtain ⟨a, cp, rfl, ⟨m1, _⟩, r1⟩ := h
  rw [List.length_map] at *
  have R1 : Hid (ss ≠ [] → ∃ b off, a = some ⟨b, off, none⟩ ∧ b < w.heap.size ∧ ∀ (i : Nat) (h : i < ss.length), w.cell? ⟨b, off + i, none⟩ = some (.string ss[i])) := Lib.hid fun hx => by
    obtain ⟨b, off, h1, h2, h3⟩ := r1 (by simpa using hx)
    exact ⟨b, off, h1, h2, fun i h => by have q := h3 i (by simpa using h); rwa [List.getElem_map] at q⟩
  have HC := Lib.hid hc
  clear r1 m1 hc
  have hmono : ∀ k, k ≤ p → sizes (ss.take k) ≤ sizes (ss.take p) := fun k hk => by
    have e : sizes (ss.take p) = sizes (ss.take k) + sizes ((ss.take p).drop k) := by
      conv => lhs; rw [← List.take_append_drop k (ss.take p)]
      rw [sizes, List.map_append, List.sum_append, List.take_take, Nat.min_eq_left hk]; rfl
    omega
  have HM := Lib.hid hmono
  have HSZ := Lib.hid hsz
  clear hmono hsz
  go_enter Try.func26, Try.ntmps26
  go_wp2
  go_step3
  go_wp2
  go_step3
  go_wp2
  go_loopg [5, 6, 15] ss.length (fun g s5 s6 s15 wx => ∃ (k m : Nat), k ≤ p ∧ k + g = ss.length ∧ s15 = .int .i64 k ∧ s6 = .bool true ∧ s5 = .int .i64 ((ss.length : Int) - 1 + (sizes (ss.take k) : Nat)) ∧ wx = w.drewN m)
  case atStart => exact ⟨0, 0, Nat.zero_le _, by omega, rfl, rfl, by simp [sizes], rfl⟩
  case round =>
    obtain ⟨k, m, hkp, hkg, rfl, rfl, rfl, rfl⟩ := hrel
    have HK := Lib.hid hkg
    have hk1 : k ≤ ss.length := by omega
    clear hkg
    have hlt : k < ss.length := by omega
    by_cases hkq : k < p
    · obtain ⟨b1, o1, rfl, l1, K1⟩ := R1.out (by intro e; subst e; simp at hlt)
      have q1 := K1 k hlt
      have hs1 := HM.out (k + 1) hkq
      rw [sizes_take ss k hlt] at hs1
      have HS := Lib.hid (sizes_take ss k hlt)
      have HN := Lib.hid (HC.out k hlt hkq)
      clear K1
      generalize hT : ss[k] = T at *
      have HT := Lib.hid hT
      clear hT
      go_wp2_with fail
      go_loopg [6, 27] T.size (fun g2 s6 s27 wy => ∃ j : Nat, j + g2 = T.size ∧ s27 = .int .i64 j ∧ s6 = .bool true ∧ wy = w.drewN m)
      case atStart => exact ⟨0, by omega, rfl, rfl, rfl⟩
      case round =>
        obtain ⟨j, hj, rfl, rfl, rfl⟩ := hrel
        have HJ := Lib.hid hj
        have hj1 : j ≤ T.size := by omega
        clear hj
        by_cases hjt : j < T.size
        · have hne := byte_ne (not_mem_at HN.out j hjt)
          go_wp2
          go_roundg (T.size - (j + 1))
          case measure => have := HJ.out; omega
          case rel => exact ⟨j + 1, by omega, by go_num, rfl, rfl⟩
        · go_wp2
          go_roundg (ss.length - (k + 1))
          case measure => have := HK.out; omega
          case rel => exact ⟨k + 1, m, by omega, by omega, by go_num, rfl, by rw [HS.out]; congr 1; omega, rfl⟩
    · have hkp' : k = p := by omega
      subst hkp'
      obtain ⟨b1, o1, rfl, l1, K1⟩ := R1.out (by intro e; subst e; simp at hlt)
      have q1 := K1 k hlt
      have hz := HSZ.out ss[k] (List.getElem_mem _)
      have hq2 : ((ss.length : Int) - 1 + (sizes (ss.take k) : Nat) + (ss[k].size : Int) ≤ 4000) = False := eq_false (by omega)
      clear K1
      go_wp2_with fail
      rw [Exit.noGoto_ret]
      go_ret
      exact ⟨rfl, _, rfl⟩
set_option maxRecDepth 100000 in
set_option maxHeartbeats 800000 in
theorem canJoin_has (v : Value) (ss : List ByteArray) (c : UInt8) (w : World) (h : SlR w v (ss.map Value.string)) (hn : ss.length ≤ 1048576) (p : Nat) (hp : p < ss.length) (hsz : ∀ x ∈ ss, x.size ≤ 1048576) (hc : ∀ (k : Nat) (h : k < ss.length), k < p → c ∉ ss[k].data.toList) (ht : (ss.length : Int) - 1 + (sizes (ss.take p) : Nat) ≤ 4000) (hq : (ss.length : Int) - 1 + (sizes (ss.take p) : Nat) + (ss[p].size : Int) ≤ 4000) (hcm : c ∈ ss[p].data.toList) :
    Calls Try.prog 26 #[v, .int .u8 (c.toNat : Int)] w fun e w' => e = .returned (.bool false) ∧ ∃ m, w' = w.drewN m := by
  obtain ⟨a, cp, rfl, ⟨m1, _⟩, r1⟩ := h
  rw [List.length_map] at *
  have R1 : Hid (ss ≠ [] → ∃ b off, a = some ⟨b, off, none⟩ ∧ b < w.heap.size ∧ ∀ (i : Nat) (h : i < ss.length), w.cell? ⟨b, off + i, none⟩ = some (.string ss[i])) := Lib.hid fun hx => by
    obtain ⟨b, off, h1, h2, h3⟩ := r1 (by simpa using hx)
    exact ⟨b, off, h1, h2, fun i h => by have q := h3 i (by simpa using h); rwa [List.getElem_map] at q⟩
  have HC := Lib.hid hc
  clear r1 m1 hc
  have hmono : ∀ k, k ≤ p → sizes (ss.take k) ≤ sizes (ss.take p) := fun k hk => by
    have e : sizes (ss.take p) = sizes (ss.take k) + sizes ((ss.take p).drop k) := by
      conv => lhs; rw [← List.take_append_drop k (ss.take p)]
      rw [sizes, List.map_append, List.sum_append, List.take_take, Nat.min_eq_left hk]; rfl
    omega
  have HM := Lib.hid hmono
  have HSZ := Lib.hid hsz
  clear hmono hsz
  go_enter Try.func26, Try.ntmps26
  go_wp2
  go_step3
  go_wp2
  go_step3
  go_wp2
  go_loopg [5, 6, 15] ss.length (fun g s5 s6 s15 wx => ∃ (k m : Nat), k ≤ p ∧ k + g = ss.length ∧ s15 = .int .i64 k ∧ s6 = .bool true ∧ s5 = .int .i64 ((ss.length : Int) - 1 + (sizes (ss.take k) : Nat)) ∧ wx = w.drewN m)
  case atStart => exact ⟨0, 0, Nat.zero_le _, by omega, rfl, rfl, by simp [sizes], rfl⟩
  case round =>
    obtain ⟨k, m, hkp, hkg, rfl, rfl, rfl, rfl⟩ := hrel
    have HK := Lib.hid hkg
    have hk1 : k ≤ ss.length := by omega
    clear hkg
    have hlt : k < ss.length := by omega
    by_cases hkq : k < p
    · obtain ⟨b1, o1, rfl, l1, K1⟩ := R1.out (by intro e; subst e; simp at hlt)
      have q1 := K1 k hlt
      have hs1 := HM.out (k + 1) hkq
      rw [sizes_take ss k hlt] at hs1
      have HS := Lib.hid (sizes_take ss k hlt)
      have HN := Lib.hid (HC.out k hlt hkq)
      clear K1
      generalize hT : ss[k] = T at *
      have HT := Lib.hid hT
      clear hT
      go_wp2_with fail
      go_loopg [6, 27] T.size (fun g2 s6 s27 wy => ∃ j : Nat, j + g2 = T.size ∧ s27 = .int .i64 j ∧ s6 = .bool true ∧ wy = w.drewN m)
      case atStart => exact ⟨0, by omega, rfl, rfl, rfl⟩
      case round =>
        obtain ⟨j, hj, rfl, rfl, rfl⟩ := hrel
        have HJ := Lib.hid hj
        have hj1 : j ≤ T.size := by omega
        clear hj
        by_cases hjt : j < T.size
        · have hne := byte_ne (not_mem_at HN.out j hjt)
          go_wp2
          go_roundg (T.size - (j + 1))
          case measure => have := HJ.out; omega
          case rel => exact ⟨j + 1, by omega, by go_num, rfl, rfl⟩
        · go_wp2
          go_roundg (ss.length - (k + 1))
          case measure => have := HK.out; omega
          case rel => exact ⟨k + 1, m, by omega, by omega, by go_num, rfl, by rw [HS.out]; congr 1; omega, rfl⟩
    · have hkp' : k = p := by omega
      subst hkp'
      obtain ⟨b1, o1, rfl, l1, K1⟩ := R1.out (by intro e; subst e; simp at hlt)
      have q1 := K1 k hlt
      have hz := HSZ.out ss[k] (List.getElem_mem _)
      clear K1
      obtain ⟨j0, hj0, he, hpre⟩ := first_at hcm
      have HP := Lib.hid hpre
      have HE := Lib.hid he
      clear hpre he hcm
      generalize hT : ss[k] = T at *
      have HT := Lib.hid hT
      clear hT
      go_wp2_with fail
      go_loopg [6, 27] T.size (fun g2 s6 s27 wy => ∃ j : Nat, j ≤ j0 ∧ j + g2 = T.size ∧ s27 = .int .i64 j ∧ s6 = .bool true ∧ wy = w.drewN m)
      case atStart => exact ⟨0, Nat.zero_le _, by omega, rfl, rfl, rfl⟩
      case round =>
        obtain ⟨j, hjj, hj, rfl, rfl, rfl⟩ := hrel
        have HJ := Lib.hid hj
        clear hj
        have hjt : j < T.size := by omega
        by_cases hje : j < j0
        · have hne := byte_ne (HP.out j hjt hje)
          go_wp2
          go_roundg (T.size - (j + 1))
          case measure => have := HJ.out; omega
          case rel => exact ⟨j + 1, by omega, by omega, by go_num, rfl, rfl⟩
        · have hjj' : j = j0 := by omega
          subst hjj'
          have hne := byte_eq HE.out
          go_wp2
          rw [Exit.noGoto_ret]
          go_ret
          exact ⟨rfl, _, rfl⟩
end Go.Proofs.Ytfmkdfmholhnjaa
