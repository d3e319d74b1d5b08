/- The reference model joins strings as the library does, within the limit and where no element has the separator. -/
import Derived.Test.YtfmkdfmholhnjaaJoinc
import Derived.Test.YtfmkdfmholhnjaaStands
import Derived.Lib.Join
namespace Go.Proofs.Ytfmkdfmholhnjaa
set_option linter.unusedVariables false
open Go.RowKit

def joinB (ss : List ByteArray) (c : UInt8) : ByteArray := ⟨(Lib.join (ss.map fun s => s.data.toList) [c]).toArray⟩
theorem joinTail_snoc (sep : List UInt8) (r : List (List UInt8)) (y : List UInt8) : Lib.joinTail sep (r ++ [y]) = Lib.joinTail sep r ++ sep ++ y := by
  simp [Lib.joinTail, List.append_assoc]
theorem join_snoc (xs : List (List UInt8)) (y sep : List UInt8) (h : xs ≠ []) : Lib.join (xs ++ [y]) sep = Lib.join xs sep ++ sep ++ y := by
  cases xs with
  | nil => exact absurd rfl h
  | cons x r => rw [List.cons_append, Lib.join_cons, Lib.join_cons, joinTail_snoc]; simp [List.append_assoc]
theorem mk_data (s : ByteArray) : (⟨s.data.toList.toArray⟩ : ByteArray) = s := by
  apply ByteArray.ext; simp
theorem joinB_zero (ss : List ByteArray) (c : UInt8) : joinB (ss.take 0) c = ⟨#[]⟩ := rfl
theorem joinB_one (ss : List ByteArray) (c : UInt8) (h : 0 < ss.length) : joinB (ss.take 1) c = ss[0] := by
  unfold joinB
  rw [List.take_succ_eq_append_getElem (by omega)]
  simp [Lib.join_one]
theorem joinB_succ (ss : List ByteArray) (c : UInt8) (k : Nat) (h0 : 0 < k) (h : k < ss.length) : joinB (ss.take (k + 1)) c = joinB (ss.take k) c ++ ⟨#[c]⟩ ++ ss[k] := by
  unfold joinB
  rw [List.take_succ_eq_append_getElem (by omega), List.map_append, List.map_singleton, join_snoc _ _ _ (by
    intro e
    have := congrArg List.length e
    rw [List.length_map, List.length_take, List.length_nil] at this
    omega)]
  apply ByteArray.ext
  simp
theorem joinB_size (ss : List ByteArray) (c : UInt8) : ∀ k, 0 < k → k ≤ ss.length → ((joinB (ss.take k) c).size : Int) = (k : Int) - 1 + (sizes (ss.take k) : Nat) := by
  intro k
  induction k with
  | zero => intro h; omega
  | succ k ih =>
    intro _ hk
    rw [sizes_take ss k (by omega)]
    by_cases h0 : k = 0
    · subst h0
      rw [joinB_one ss c (by omega)]
      simp [sizes]
    · rw [joinB_succ ss c k (by omega) (by omega), ByteArray.size_append, ByteArray.size_append]
      have := ih (by omega) (by omega)
      have e1 : (ByteArray.mk #[c]).size = 1 := rfl
      rw [e1]
      omega
theorem stands_quiet_no (s : ByteArray) (c : UInt8) (w : World) (hs : s.size ≤ maxLen) (h : c ∉ s.data.toList) :
    Calls Try.prog 28 #[.string s, .int .u8 (c.toNat : Int)] w fun e w' => e = .returned (.bool false) ∧ w' = w :=
  (l1Stands_no s c w hs h).mono fun _ _ ⟨a, b⟩ => ⟨a, b.symm⟩
theorem stands_quiet_yes (s : ByteArray) (c : UInt8) (w : World) (hs : s.size ≤ maxLen) (h : c ∈ s.data.toList) :
    Calls Try.prog 28 #[.string s, .int .u8 (c.toNat : Int)] w fun e w' => e = .returned (.bool true) ∧ w' = w :=
  (l1Stands_yes s c w hs h).mono fun _ _ ⟨a, b⟩ => ⟨a, b.symm⟩

set_option maxRecDepth 100000 in
set_option maxHeartbeats 800000 in
theorem specJoin_yes (v : Value) (ss : List ByteArray) (c : UInt8) (w : World) (h : SlR w v (ss.map Value.string)) (hn : ss.length ≤ 1048576) (h0 : 0 < ss.length) (hsz : ∀ x ∈ ss, x.size ≤ 1048576) (hc : ∀ x ∈ ss, c ∉ x.data.toList) (ht : (ss.length : Int) - 1 + (sizes ss : Nat) ≤ 4000) :
    Calls Try.prog 14 #[v, .string ⟨#[c]⟩] w fun e w' => e = .returned (.tuple #[.string (joinB ss c), .bool true]) ∧ ∃ m, w' = w.drewN m := by
  obtain ⟨a, cp, rfl, ⟨m1, _⟩, r1⟩ := h
  rw [List.length_map] at *
  obtain ⟨b1, o1, rfl, l1, k1⟩ := r1 (by intro e; rw [List.map_eq_nil_iff] at e; subst e; simp at h0)
  have K1 : Hid (∀ (i : Nat) (h : i < ss.length), w.cell? ⟨b1, o1 + i, none⟩ = some (.string ss[i])) := Lib.hid fun i h => by have q := k1 i (by simpa using h); rwa [List.getElem_map] at q
  have HC := Lib.hid hc
  have HSZ := Lib.hid hsz
  have hmono : ∀ k, k ≤ ss.length → (k : Int) - 1 + sizes (ss.take k) ≤ 4000 := fun k hk => by
    have e : sizes ss = sizes (ss.take k) + sizes (ss.drop k) := by
      conv => lhs; rw [← List.take_append_drop k ss]
      rw [sizes, List.map_append, List.sum_append]; rfl
    omega
  have HM := Lib.hid hmono
  clear r1 k1 m1 hc hsz hmono
  have hne0 : ((ss.length : Int) == 0) = false := beq_eq_false_iff_ne.2 (by omega)
  go_enter Try.func14, Try.ntmps14
  go_wp2_with fail
  go_loopw [6, 7] (fun out i wr => ∃ (k m : Nat) (o : ByteArray), k ≤ ss.length ∧ i = .int .i64 k ∧ out = .string o ∧ o = joinB (ss.take k) c ∧ wr = w.drewN m) (fun _ i _ => ss.length - (intOf i).toNat)
  case atStart => exact ⟨0, 0, _, Nat.zero_le _, rfl, rfl, joinB_zero ss c, rfl⟩
  case round =>
    obtain ⟨k, m, o, hk, rfl, rfl, ho, hwr⟩ := hrel
    have HW := Lib.hid hwr
    by_cases hlt : k < ss.length
    · have q1 : wr.cell? ⟨b1, o1 + k, none⟩ = some (.string ss[k]) := by rw [hwr]; exact K1.out k hlt
      clear hwr
      have hz := HSZ.out ss[k] (List.getElem_mem _)
      have HN := Lib.hid (HC.out ss[k] (List.getElem_mem _))
      have z1 : (0 : Int) ≤ (k : Int) := by omega
      have z2 : (k : Int) < (ss.length : Int) := by omega
      have hfit := joinB_size ss c (k + 1) (by omega) hlt
      have hm1 := HM.out (k + 1) hlt
      by_cases h0k : k = 0
      · subst h0k
        have hf : (ss[0].size : Int) ≤ 4000 := by rw [joinB_one ss c hlt] at hfit; omega
        have ho' : o = ⟨#[]⟩ := ho
        subst ho'
        have q1' : wr.cell? ⟨b1, o1, none⟩ = some (.string ss[0]) := q1
        have e1 : Hid ((⟨#[]⟩ : ByteArray) ++ ss[0] = joinB (ss.take 1) c) := Lib.hid (by rw [joinB_one ss c hlt]; apply ByteArray.ext; simp)
        clear ho hfit hm1 q1
        go_wp2_with fail
        go_quiet ((go_at_call 28; exact Calls.quiet_of_same (stands_quiet_no _ c _ (by unfold maxLen; omega) HN.out)))
        go_wp2_with fail
        go_roundw
        case rel => exact ⟨1, _, _, by omega, rfl, rfl, e1.out, by rw [HW.out, World.drewN_drewN]⟩
        case measure => simp [intOf]; omega
      · have hk0 : 0 < k := by omega
        have hos : (o.size : Int) ≤ 4000 := by
          have := joinB_size ss c k hk0 hk
          have := HM.out k hk
          rw [ho]; omega
        have hf : (o.size : Int) + 1 + (ss[k].size : Int) ≤ 4000 := by
          rw [joinB_succ ss c k hk0 hlt, ByteArray.size_append, ByteArray.size_append, ← ho] at hfit
          have e2 : (ByteArray.mk #[c]).size = 1 := rfl
          rw [e2] at hfit
          omega
        have e1 : Hid (o ++ ⟨#[c]⟩ ++ ss[k] = joinB (ss.take (k + 1)) c) := Lib.hid (by rw [joinB_succ ss c k hk0 hlt, ho])
        clear ho hfit hm1 h0k
        go_wp2_with fail
        go_quiet ((go_at_call 28; exact Calls.quiet_of_same (stands_quiet_no _ c _ (by unfold maxLen; omega) HN.out)))
        go_wp2_with fail
        go_roundw
        case rel => exact ⟨k + 1, _, _, by omega, by go_num, rfl, e1.out, by rw [HW.out, World.drewN_drewN]⟩
        case measure => simp [intOf]; omega
    · have hke : k = ss.length := by omega
      subst hke
      have ho' : Hid (o = joinB ss c) := Lib.hid (by rw [ho, List.take_length])
      clear ho hwr
      go_wp2_with fail
      go_ret2
      exact ⟨ret_str2 ho'.out, m, HW.out⟩
set_option maxRecDepth 100000 in
set_option maxHeartbeats 800000 in
theorem specJoin_has (v : Value) (ss : List ByteArray) (c : UInt8) (w : World) (h : SlR w v (ss.map Value.string)) (hn : ss.length ≤ 1048576) (h0 : 0 < ss.length) (hsz : ∀ x ∈ ss, x.size ≤ 1048576) (p : Nat) (hp : p < ss.length) (hc : ∀ (k : Nat) (h : k < ss.length), k < p → c ∉ ss[k].data.toList) (ht : ∀ k, 0 < k → k ≤ p → (k : Int) - 1 + sizes (ss.take k) ≤ 4000) (hx : c ∈ ss[p].data.toList) :
    Calls Try.prog 14 #[v, .string ⟨#[c]⟩] w fun e w' => e = .returned (.tuple #[.string ⟨#[]⟩, .bool false]) ∧ ∃ m, w' = w.drewN m := by
  obtain ⟨a, cp, rfl, ⟨m1, _⟩, r1⟩ := h
  rw [List.length_map] at *
  obtain ⟨b1, o1, rfl, l1, k1⟩ := r1 (by intro e; rw [List.map_eq_nil_iff] at e; subst e; simp at h0)
  have K1 : Hid (∀ (i : Nat) (h : i < ss.length), w.cell? ⟨b1, o1 + i, none⟩ = some (.string ss[i])) := Lib.hid fun i h => by have q := k1 i (by simpa using h); rwa [List.getElem_map] at q
  have HC := Lib.hid hc
  have HSZ := Lib.hid hsz
  have HM := Lib.hid ht
  clear r1 k1 m1 hc hsz ht
  have hne0 : ((ss.length : Int) == 0) = false := beq_eq_false_iff_ne.2 (by omega)
  go_enter Try.func14, Try.ntmps14
  go_wp2_with fail
  go_loopw [6, 7] (fun out i wr => ∃ (k m : Nat) (o : ByteArray), k ≤ p ∧ i = .int .i64 k ∧ out = .string o ∧ o = joinB (ss.take k) c ∧ wr = w.drewN m) (fun _ i _ => ss.length - (intOf i).toNat)
  case atStart => exact ⟨0, 0, _, Nat.zero_le _, rfl, rfl, joinB_zero ss c, rfl⟩
  case round =>
    obtain ⟨k, m, o, hk, rfl, rfl, ho, hwr⟩ := hrel
    have HW := Lib.hid hwr
    have hlt : k < ss.length := by omega
    by_cases hkp : k < p
    · have q1 : wr.cell? ⟨b1, o1 + k, none⟩ = some (.string ss[k]) := by rw [hwr]; exact K1.out k hlt
      clear hwr
      have hz := HSZ.out ss[k] (List.getElem_mem _)
      have HN := Lib.hid (HC.out k hlt hkp)
      have z1 : (0 : Int) ≤ (k : Int) := by omega
      have z2 : (k : Int) < (ss.length : Int) := by omega
      have hfit := joinB_size ss c (k + 1) (by omega) hlt
      have hm1 := HM.out (k + 1) (by omega) hkp
      by_cases h0k : k = 0
      · subst h0k
        have hf : (ss[0].size : Int) ≤ 4000 := by rw [joinB_one ss c hlt] at hfit; omega
        have ho' : o = ⟨#[]⟩ := ho
        subst ho'
        have q1' : wr.cell? ⟨b1, o1, none⟩ = some (.string ss[0]) := q1
        have e1 : Hid ((⟨#[]⟩ : ByteArray) ++ ss[0] = joinB (ss.take 1) c) := Lib.hid (by rw [joinB_one ss c hlt]; apply ByteArray.ext; simp)
        clear ho hfit hm1 q1
        go_wp2_with fail
        go_quiet ((go_at_call 28; exact Calls.quiet_of_same (stands_quiet_no _ c _ (by unfold maxLen; omega) HN.out)))
        go_wp2_with fail
        go_roundw
        case rel => exact ⟨1, _, _, by omega, rfl, rfl, e1.out, by rw [HW.out, World.drewN_drewN]⟩
        case measure => simp [intOf]; omega
      · have hk0 : 0 < k := by omega
        have hos : (o.size : Int) ≤ 4000 := by
          have := joinB_size ss c k hk0 (by omega)
          have := HM.out k hk0 hk
          rw [ho]; omega
        have hf : (o.size : Int) + 1 + (ss[k].size : Int) ≤ 4000 := by
          rw [joinB_succ ss c k hk0 hlt, ByteArray.size_append, ByteArray.size_append, ← ho] at hfit
          have e2 : (ByteArray.mk #[c]).size = 1 := rfl
          rw [e2] at hfit
          omega
        have e1 : Hid (o ++ ⟨#[c]⟩ ++ ss[k] = joinB (ss.take (k + 1)) c) := Lib.hid (by rw [joinB_succ ss c k hk0 hlt, ho])
        clear ho hfit hm1 h0k
        go_wp2_with fail
        go_quiet ((go_at_call 28; exact Calls.quiet_of_same (stands_quiet_no _ c _ (by unfold maxLen; omega) HN.out)))
        go_wp2_with fail
        go_roundw
        case rel => exact ⟨k + 1, _, _, by omega, by go_num, rfl, e1.out, by rw [HW.out, World.drewN_drewN]⟩
        case measure => simp [intOf]; omega
    · have hke : k = p := by omega
      subst hke
      have q1 : wr.cell? ⟨b1, o1 + k, none⟩ = some (.string ss[k]) := by rw [hwr]; exact K1.out k hlt
      clear hwr
      have hz := HSZ.out ss[k] (List.getElem_mem _)
      have z1 : (0 : Int) ≤ (k : Int) := by omega
      have z2 : (k : Int) < (ss.length : Int) := by omega
      have HX := Lib.hid hx
      by_cases h0k : k = 0
      · subst h0k
        have ho' : o = ⟨#[]⟩ := ho
        subst ho'
        have q1' : wr.cell? ⟨b1, o1, none⟩ = some (.string ss[0]) := q1
        clear ho q1 hx
        go_wp2_with fail
        go_quiet ((go_at_call 28; exact Calls.quiet_of_same (stands_quiet_yes _ c _ (by unfold maxLen; omega) HX.out)))
        go_wp2_with fail
        go_ret2
        exact ⟨rfl, _, by rw [HW.out, World.drewN_drewN]⟩
      · have hk0 : 0 < k := by omega
        have hos : (o.size : Int) = (k : Int) - 1 + (sizes (ss.take k) : Nat) := by rw [ho]; exact joinB_size ss c k hk0 (by omega)
        have hos2 := HM.out k hk0 (Nat.le_refl _)
        have hos3 : (o.size : Int) ≤ 4000 := by omega
        clear ho hx hos h0k
        go_wp2_with fail
        go_quiet ((go_at_call 28; exact Calls.quiet_of_same (stands_quiet_yes _ c _ (by unfold maxLen; omega) HX.out)))
        go_wp2_with fail
        go_ret2
        exact ⟨rfl, _, by rw [HW.out, World.drewN_drewN]⟩
set_option maxRecDepth 100000 in
set_option maxHeartbeats 800000 in
theorem specJoin_long (v : Value) (ss : List ByteArray) (c : UInt8) (w : World) (h : SlR w v (ss.map Value.string)) (hn : ss.length ≤ 1048576) (h0 : 0 < ss.length) (hsz : ∀ x ∈ ss, x.size ≤ 1048576) (p : Nat) (hp : p < ss.length) (hc : ∀ (k : Nat) (h : k < ss.length), k < p → c ∉ ss[k].data.toList) (ht : ∀ k, 0 < k → k ≤ p → (k : Int) - 1 + sizes (ss.take k) ≤ 4000) (hx : c ∉ ss[p].data.toList) (hl : 4000 < (p : Int) + sizes (ss.take (p + 1))) :
    Calls Try.prog 14 #[v, .string ⟨#[c]⟩] w fun e w' => e = .returned (.tuple #[.string ⟨#[]⟩, .bool false]) ∧ ∃ m, w' = w.drewN m := by
  obtain ⟨a, cp, rfl, ⟨m1, _⟩, r1⟩ := h
  rw [List.length_map] at *
  obtain ⟨b1, o1, rfl, l1, k1⟩ := r1 (by intro e; rw [List.map_eq_nil_iff] at e; subst e; simp at h0)
  have K1 : Hid (∀ (i : Nat) (h : i < ss.length), w.cell? ⟨b1, o1 + i, none⟩ = some (.string ss[i])) := Lib.hid fun i h => by have q := k1 i (by simpa using h); rwa [List.getElem_map] at q
  have HC := Lib.hid hc
  have HSZ := Lib.hid hsz
  have HM := Lib.hid ht
  clear r1 k1 m1 hc hsz ht
  have hne0 : ((ss.length : Int) == 0) = false := beq_eq_false_iff_ne.2 (by omega)
  go_enter Try.func14, Try.ntmps14
  go_wp2_with fail
  go_loopw [6, 7] (fun out i wr => ∃ (k m : Nat) (o : ByteArray), k ≤ p ∧ i = .int .i64 k ∧ out = .string o ∧ o = joinB (ss.take k) c ∧ wr = w.drewN m) (fun _ i _ => ss.length - (intOf i).toNat)
  case atStart => exact ⟨0, 0, _, Nat.zero_le _, rfl, rfl, joinB_zero ss c, rfl⟩
  case round =>
    obtain ⟨k, m, o, hk, rfl, rfl, ho, hwr⟩ := hrel
    have HW := Lib.hid hwr
    have hlt : k < ss.length := by omega
    by_cases hkp : k < p
    · have q1 : wr.cell? ⟨b1, o1 + k, none⟩ = some (.string ss[k]) := by rw [hwr]; exact K1.out k hlt
      clear hwr
      have hz := HSZ.out ss[k] (List.getElem_mem _)
      have HN := Lib.hid (HC.out k hlt hkp)
      have z1 : (0 : Int) ≤ (k : Int) := by omega
      have z2 : (k : Int) < (ss.length : Int) := by omega
      have hfit := joinB_size ss c (k + 1) (by omega) hlt
      have hm1 := HM.out (k + 1) (by omega) hkp
      by_cases h0k : k = 0
      · subst h0k
        have hf : (ss[0].size : Int) ≤ 4000 := by rw [joinB_one ss c hlt] at hfit; omega
        have ho' : o = ⟨#[]⟩ := ho
        subst ho'
        have q1' : wr.cell? ⟨b1, o1, none⟩ = some (.string ss[0]) := q1
        have e1 : Hid ((⟨#[]⟩ : ByteArray) ++ ss[0] = joinB (ss.take 1) c) := Lib.hid (by rw [joinB_one ss c hlt]; apply ByteArray.ext; simp)
        clear ho hfit hm1 q1
        go_wp2_with fail
        go_quiet ((go_at_call 28; exact Calls.quiet_of_same (stands_quiet_no _ c _ (by unfold maxLen; omega) HN.out)))
        go_wp2_with fail
        go_roundw
        case rel => exact ⟨1, _, _, by omega, rfl, rfl, e1.out, by rw [HW.out, World.drewN_drewN]⟩
        case measure => simp [intOf]; omega
      · have hk0 : 0 < k := by omega
        have hos : (o.size : Int) ≤ 4000 := by
          have := joinB_size ss c k hk0 (by omega)
          have := HM.out k hk0 hk
          rw [ho]; omega
        have hf : (o.size : Int) + 1 + (ss[k].size : Int) ≤ 4000 := by
          rw [joinB_succ ss c k hk0 hlt, ByteArray.size_append, ByteArray.size_append, ← ho] at hfit
          have e2 : (ByteArray.mk #[c]).size = 1 := rfl
          rw [e2] at hfit
          omega
        have e1 : Hid (o ++ ⟨#[c]⟩ ++ ss[k] = joinB (ss.take (k + 1)) c) := Lib.hid (by rw [joinB_succ ss c k hk0 hlt, ho])
        clear ho hfit hm1 h0k
        go_wp2_with fail
        go_quiet ((go_at_call 28; exact Calls.quiet_of_same (stands_quiet_no _ c _ (by unfold maxLen; omega) HN.out)))
        go_wp2_with fail
        go_roundw
        case rel => exact ⟨k + 1, _, _, by omega, by go_num, rfl, e1.out, by rw [HW.out, World.drewN_drewN]⟩
        case measure => simp [intOf]; omega
    · have hke : k = p := by omega
      subst hke
      have q1 : wr.cell? ⟨b1, o1 + k, none⟩ = some (.string ss[k]) := by rw [hwr]; exact K1.out k hlt
      clear hwr
      have hz := HSZ.out ss[k] (List.getElem_mem _)
      have z1 : (0 : Int) ≤ (k : Int) := by omega
      have z2 : (k : Int) < (ss.length : Int) := by omega
      have HX := Lib.hid hx
      by_cases h0k : k = 0
      · subst h0k
        have ho' : o = ⟨#[]⟩ := ho
        subst ho'
        have q1' : wr.cell? ⟨b1, o1, none⟩ = some (.string ss[0]) := q1
        have hf : 4000 < (ss[0].size : Int) := by
          have e := joinB_size ss c 1 (by omega) hlt
          rw [joinB_one ss c hlt] at e
          have e2 : sizes (ss.take (0 + 1)) = sizes (ss.take 1) := rfl
          omega
        clear ho q1 hx hl
        go_wp2_with fail
        go_quiet ((go_at_call 28; exact Calls.quiet_of_same (stands_quiet_no _ c _ (by unfold maxLen; omega) HX.out)))
        go_wp2_with fail
        go_ret2
        exact ⟨rfl, _, by rw [HW.out, World.drewN_drewN]⟩
      · have hk0 : 0 < k := by omega
        have hos : (o.size : Int) = (k : Int) - 1 + (sizes (ss.take k) : Nat) := by rw [ho]; exact joinB_size ss c k hk0 (by omega)
        have hos2 := HM.out k hk0 (Nat.le_refl _)
        have hf : 4000 < (o.size : Int) + 1 + (ss[k].size : Int) := by
          have e := sizes_take ss k hlt
          omega
        have hos3 : (o.size : Int) ≤ 4000 := by omega
        clear ho hx hos h0k hl hos2
        go_wp2_with fail
        go_quiet ((go_at_call 28; exact Calls.quiet_of_same (stands_quiet_no _ c _ (by unfold maxLen; omega) HX.out)))
        go_wp2_with fail
        go_ret2
        exact ⟨rfl, _, by rw [HW.out, World.drewN_drewN]⟩
set_option maxRecDepth 100000 in
set_option maxHeartbeats 800000 in
theorem specJoin_sep (v : Value) (ss : List ByteArray) (sep : ByteArray) (w : World) (h : SlR w v (ss.map Value.string)) (hs : sep.size ≤ 1048576) (h1 : sep.size ≠ 1) :
    Calls Try.prog 14 #[v, .string sep] w fun e w' => e = .returned (.tuple #[.string ⟨#[]⟩, .bool false]) ∧ ∃ m, w' = w.drewN m := by
  obtain ⟨a, cp, rfl, _, _⟩ := h
  have hne : ((sep.size : Int) == 1) = false := beq_eq_false_iff_ne.2 (by omega)
  clear h1
  go_enter Try.func14, Try.ntmps14
  go_wp2_with fail
  go_ret2
  exact ⟨rfl, 0, rfl⟩
set_option maxRecDepth 100000 in
set_option maxHeartbeats 800000 in
theorem specJoin_nil (v : Value) (c : UInt8) (w : World) (h : SlR w v []) :
    Calls Try.prog 14 #[v, .string ⟨#[c]⟩] w fun e w' => e = .returned (.tuple #[.string ⟨#[]⟩, .bool false]) ∧ ∃ m, w' = w.drewN m := by
  obtain ⟨a, cp, rfl, _, _⟩ := h
  go_enter Try.func14, Try.ntmps14
  go_wp2_with fail
  go_ret2
  exact ⟨rfl, 0, rfl⟩
end Go.Proofs.Ytfmkdfmholhnjaa
