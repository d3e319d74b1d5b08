/- The program joins strings as the library does, within the limit and where no element has the separator. -/
import Derived.Test.YtfmkdfmholhnjaaJoins
import Derived.Test.YtfmkdfmholhnjaaShelf
namespace Go.Proofs.Ytfmkdfmholhnjaa
set_option linter.unusedVariables false
open Go.RowKit

/-- All can be joined. -/
def CanJ (ss : List ByteArray) (c : UInt8) : Prop := (∀ x ∈ ss, c ∉ x.data.toList) ∧ (ss.length : Int) - 1 + (sizes ss : Nat) ≤ 4000
theorem sizes_le (ss : List ByteArray) (k : Nat) : sizes (ss.take k) ≤ sizes ss := by
  have e : sizes ss = sizes (ss.take k) + sizes (ss.drop k) := by
    conv => lhs; rw [← List.take_append_drop k ss]
    rw [sizes, List.map_append, List.sum_append]; rfl
  omega
theorem bad_ex {ss : List ByteArray} {c : UInt8} (h0 : 0 < ss.length) (h : ¬ CanJ ss c) : (∃ k, k < ss.length ∧ ∃ hk : k < ss.length, c ∈ ss[k].data.toList) ∨ 4000 < (ss.length : Int) - 1 + (sizes ss : Nat) := by
  by_cases h1 : ∀ x ∈ ss, c ∉ x.data.toList
  · right
    by_cases h2 : (ss.length : Int) - 1 + (sizes ss : Nat) ≤ 4000
    · exact absurd ⟨h1, h2⟩ h
    · omega
  · left
    refine Classical.byContradiction fun hn => h1 fun x hx hc => ?_
    obtain ⟨k, hk, he⟩ := List.getElem_of_mem hx
    exact hn ⟨k, hk, hk, by rw [he]; exact hc⟩

theorem specJoin_no (v : Value) (ss : List ByteArray) (c : UInt8) (w : World) (h : SlR w v (ss.map Value.string)) (hn : ss.length ≤ 1048576) (h0 : 0 < ss.length) (hsz : ∀ x ∈ ss, x.size ≤ 1048576) (hq : ¬ CanJ ss c) :
    Calls Try.prog 14 #[v, .string ⟨#[c]⟩] w fun e w' => e = .returned (.tuple #[.string ⟨#[]⟩, .bool false]) ∧ ∃ m, w' = w.drewN m := by
  obtain ⟨p, hp, hb, hpre⟩ := first_idx ss.length (fun k => (∃ hk : k < ss.length, c ∈ ss[k].data.toList) ∨ 4000 < (k : Int) + sizes (ss.take (k + 1))) (by
    rcases bad_ex h0 hq with ⟨k, hk, hm⟩ | hl
    · exact ⟨k, hk, .inl hm⟩
    · refine ⟨ss.length - 1, by omega, .inr ?_⟩
      rw [show ss.length - 1 + 1 = ss.length by omega, List.take_length]; omega)
  have hc : ∀ (k : Nat) (h : k < ss.length), k < p → c ∉ ss[k].data.toList := fun k hk hkp hm => hpre k hkp (.inl ⟨hk, hm⟩)
  have ht : ∀ k, 0 < k → k ≤ p → (k : Int) - 1 + sizes (ss.take k) ≤ 4000 := fun k hk0 hkp => by
    have := hpre (k - 1) (by omega)
    rw [show k - 1 + 1 = k by omega] at this
    refine Classical.byContradiction fun hn => this (.inr (by omega))
  by_cases hx : c ∈ ss[p].data.toList
  · exact specJoin_has v ss c w h hn h0 hsz p hp hc ht hx
  · rcases hb with ⟨_, hm⟩ | hl
    · exact absurd hm hx
    · exact specJoin_long v ss c w h hn h0 hsz p hp hc ht hx hl

theorem canJoin_no (v : Value) (ss : List ByteArray) (c : UInt8) (w : World) (h : SlR w v (ss.map Value.string)) (hn : ss.length ≤ 1048576) (h0 : 0 < ss.length) (hsz : ∀ x ∈ ss, x.size ≤ 1048576) (hq : ¬ CanJ ss c) :
    Calls Try.prog 26 #[v, .int .u8 (c.toNat : Int)] w fun e w' => e = .returned (.bool false) ∧ ∃ m, w' = w.drewN m := by
  by_cases hbig : 4000 < (ss.length : Int) - 1
  · have ht : ¬ ((ss.length : Int) - 1 + (sizes (ss.take 0) : Nat) ≤ 4000) := by simp [sizes]; omega
    refine canJoin_big v ss c w h hn h0 hsz (by omega)
  · obtain ⟨p, hp, hb, hpre⟩ := first_idx ss.length (fun k => (∃ hk : k < ss.length, c ∈ ss[k].data.toList) ∨ 4000 < (ss.length : Int) - 1 + sizes (ss.take (k + 1))) (by
      rcases bad_ex h0 hq with ⟨k, hk, hm⟩ | hl
      · exact ⟨k, hk, .inl hm⟩
      · refine ⟨ss.length - 1, by omega, .inr ?_⟩
        rw [show ss.length - 1 + 1 = ss.length by omega, List.take_length]; omega)
    have hc : ∀ (k : Nat) (h : k < ss.length), k < p → c ∉ ss[k].data.toList := fun k hk hkp hm => hpre k hkp (.inl ⟨hk, hm⟩)
    have ht : (ss.length : Int) - 1 + (sizes (ss.take p) : Nat) ≤ 4000 := by
      by_cases hp0 : p = 0
      · subst hp0; simp [sizes]; omega
      · have := hpre (p - 1) (by omega)
        rw [show p - 1 + 1 = p by omega] at this
        refine Classical.byContradiction fun hn => this (.inr (by omega))
    have hst := sizes_take ss p hp
    by_cases hx : 4000 < (ss.length : Int) - 1 + (sizes (ss.take p) : Nat) + (ss[p].size : Int)
    · exact canJoin_long v ss c w h hn p hp hsz hc ht hx
    · rcases hb with ⟨_, hm⟩ | hl
      · exact canJoin_has v ss c w h hn p hp hsz hc ht (by omega) hm
      · exfalso; omega

theorem join_len (ss : List ByteArray) (c : UInt8) (h0 : 0 < ss.length) : ((Lib.join (ss.map fun s => s.data.toList) [c]).length : Int) = (ss.length : Int) - 1 + (sizes ss : Nat) := by
  have := joinB_size ss c ss.length h0 (Nat.le_refl _)
  rw [List.take_length] at this
  rw [← this]; unfold joinB; rw [mk_size]

set_option maxRecDepth 100000 in
set_option maxHeartbeats 800000 in
theorem implJoin_sep (v : Value) (ss : List ByteArray) (sep : ByteArray) (w : World) (h : SlR w v (ss.map Value.string)) (hn : ss.length ≤ 1048576) (hs : sep.size ≤ 1048576) (h1 : sep.size ≠ 1) :
    Calls Try.prog 13 #[v, .string sep] w fun e w' => e = .returned (.tuple #[.string ⟨#[]⟩, .bool false]) ∧ Below w.heap.size w w' := by
  obtain ⟨a, cp, rfl, _, _⟩ := h
  rw [List.length_map]
  have hne : ((sep.size : Int) == 1) = false := beq_eq_false_iff_ne.2 (by omega)
  have hne2 : ((sep.size : Int) != 1) = true := by rw [bne_iff_ne]; omega
  clear h1
  by_cases h0 : ss.length = 0
  · have hss : ss = [] := List.length_eq_zero_iff.1 h0
    subst hss
    clear h0
    go_enter Try.func13, Try.ntmps13
    go_wp2_with fail
    go_ret2
    exact ⟨rfl, Below.refl _ _⟩
  · have hz : ((ss.length : Int) == 0) = false := beq_eq_false_iff_ne.2 (by omega)
    clear h0
    go_enter Try.func13, Try.ntmps13
    go_wp2_with fail
    go_ret2
    exact ⟨rfl, Below.refl _ _⟩
set_option maxRecDepth 100000 in
set_option maxHeartbeats 800000 in
theorem implJoin_nil (v : Value) (c : UInt8) (w : World) (h : SlR w v []) :
    Calls Try.prog 13 #[v, .string ⟨#[c]⟩] w fun e w' => e = .returned (.tuple #[.string ⟨#[]⟩, .bool false]) ∧ Below w.heap.size w w' := by
  obtain ⟨a, cp, rfl, _, _⟩ := h
  go_enter Try.func13, Try.ntmps13
  go_wp2_with fail
  go_ret2
  exact ⟨rfl, Below.refl _ _⟩
set_option maxRecDepth 100000 in
set_option maxHeartbeats 800000 in
theorem implJoin_no (v : Value) (ss : List ByteArray) (c : UInt8) (w : World) (h : SlR w v (ss.map Value.string)) (hn : ss.length ≤ 1048576) (h0 : 0 < ss.length) (hsz : ∀ x ∈ ss, x.size ≤ 1048576) (hq : ¬ CanJ ss c) :
    Calls Try.prog 13 #[v, .string ⟨#[c]⟩] w fun e w' => e = .returned (.tuple #[.string ⟨#[]⟩, .bool false]) ∧ Below w.heap.size w w' := by
  have K := Lib.hid (canJoin_no v ss c w h hn h0 hsz hq)
  obtain ⟨a, cp, rfl, _, _⟩ := h
  rw [List.length_map] at *
  have hz : ((ss.length : Int) == 0) = false := beq_eq_false_iff_ne.2 (by omega)
  clear hsz hq
  go_enter Try.func13, Try.ntmps13
  go_wp2_with fail
  refine K.out.mono ?_
  rintro e w1 ⟨rfl, m, rfl⟩
  go_wp2_with fail
  go_ret2
  exact ⟨rfl, bl_drewN (Below.refl _ _) _⟩
set_option maxRecDepth 100000 in
set_option maxHeartbeats 800000 in
theorem implJoin_yes (v : Value) (ss : List ByteArray) (c : UInt8) (w : World) (h : SlR w v (ss.map Value.string)) (hn : ss.length ≤ 1048576) (h0 : 0 < ss.length) (hq : CanJ ss c) :
    Calls Try.prog 13 #[v, .string ⟨#[c]⟩] w fun e w' => e = .returned (.tuple #[.string (joinB ss c), .bool true]) ∧ Below w.heap.size w w' := by
  have K := Lib.hid (canJoin_yes v ss c w h hn hq.1 hq.2)
  have hl := join_len ss c h0
  obtain ⟨hq1, hq2⟩ := hq
  obtain ⟨a, cp, rfl, ⟨_, hcp⟩, r1⟩ := h
  obtain ⟨b1, o1, rfl, l1, k1⟩ := r1 (by intro e; rw [List.map_eq_nil_iff] at e; subst e; simp at h0)
  have K1 : Hid (∀ (m : Nat) (j : Nat) x, ss[j]? = some x → (w.drewN m).cell? ⟨b1, o1 + j, none⟩ = some (.string x)) := Lib.hid fun m j x hx => by
    obtain ⟨hj, he⟩ := List.getElem?_eq_some_iff.1 hx
    have q := k1 j (by simpa using hj)
    rw [List.getElem_map, he] at q
    exact q
  rw [List.length_map] at *
  have hz : ((ss.length : Int) == 0) = false := beq_eq_false_iff_ne.2 (by omega)
  have HL : Hid ((Lib.join (ss.map fun s => s.data.toList) [c]).length ≤ 140737488355328) := Lib.hid (by omega)
  clear hq1 hq2 r1 k1 hl
  go_enter Try.func13, Try.ntmps13
  go_wp2_with fail
  refine K.out.mono ?_
  rintro e w1 ⟨rfl, m, rfl⟩
  go_wp2_with fail
  refine (Try.strings_Join b1 o1 cp ss ⟨#[c]⟩ _ (K1.out m) l1 (by omega) hcp HL.out).mono ?_
  rintro e w2 ⟨rfl, hb⟩
  go_wp2_with fail
  go_ret2
  exact ⟨rfl, (bl_drewN (Below.refl _ _) _).trans hb⟩

theorem size_le_sizes : ∀ (ss : List ByteArray) (x : ByteArray), x ∈ ss → x.size ≤ sizes ss
  | [], _, h => by cases h
  | y :: r, x, h => by
    have e : sizes (y :: r) = y.size + sizes r := by simp [sizes]
    rw [e]
    rcases List.mem_cons.1 h with rfl | h
    · omega
    · have := size_le_sizes r x h; omega
/-- One answer for both, whatever the slice and the world. -/
theorem join_same (ss : List ByteArray) (sep : ByteArray) (hn : ss.length ≤ 1048576) (hsz : ∀ x ∈ ss, x.size ≤ 1048576) (hs : sep.size ≤ 1048576) :
    ∃ (r : ByteArray) (b : Bool), (∀ v w, SlR w v (ss.map Value.string) → Calls Try.prog 14 #[v, .string sep] w fun e w' => e = .returned (.tuple #[.string r, .bool b]) ∧ ∃ m, w' = w.drewN m) ∧
      (∀ v w, SlR w v (ss.map Value.string) → Calls Try.prog 13 #[v, .string sep] w fun e w' => e = .returned (.tuple #[.string r, .bool b]) ∧ Below w.heap.size w w') := by
  by_cases h1 : sep.size = 1
  · obtain ⟨c, rfl⟩ : ∃ c, sep = ⟨#[c]⟩ := by
      obtain ⟨⟨l⟩⟩ := sep
      match l, h1 with
      | [c], _ => exact ⟨c, rfl⟩
      | [], h => cases h
      | _ :: _ :: _, h => simp [ByteArray.size] at h
    by_cases h0 : 0 < ss.length
    · by_cases hq : CanJ ss c
      · exact ⟨_, _, fun v w h => specJoin_yes v ss c w h hn h0 hsz hq.1 hq.2, fun v w h => implJoin_yes v ss c w h hn h0 hq⟩
      · exact ⟨_, _, fun v w h => specJoin_no v ss c w h hn h0 hsz hq, fun v w h => implJoin_no v ss c w h hn h0 hsz hq⟩
    · have hss : ss = [] := List.length_eq_zero_iff.1 (by omega)
      subst hss
      exact ⟨_, _, fun v w h => specJoin_nil v c w h, fun v w h => implJoin_nil v c w h⟩
  · exact ⟨_, _, fun v w h => specJoin_sep v ss sep w h hs h1, fun v w h => implJoin_sep v ss sep w h hn hs h1⟩

end Go.Proofs.Ytfmkdfmholhnjaa
