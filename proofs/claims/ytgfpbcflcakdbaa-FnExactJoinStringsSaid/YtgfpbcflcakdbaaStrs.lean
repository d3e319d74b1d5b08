/- The law's helpers on slices of strings: compare, copy, measure. -/
import Derived.Test.YtgfpbcflcakdbaaSlr
import Derived.Deep.QuietTactic
import Derived.BigQuiet
namespace Go.Proofs.Ytgfpbcflcakdbaa
set_option linter.unusedVariables false
open Go.RowKit

theorem Try.infoStr' : (Try.prog.info? 9).map (fun i => (i.zero, i.size, i.bytes)) = some (some (.string ⟨#[]⟩), 1, 16) := by kernel_rfl

set_option maxHeartbeats 400000 in
theorem eqStringS_yes (v1 v2 : Value) (ss : List ByteArray) (w : World) (h1 : SlR w v1 (ss.map Value.string)) (h2 : SlR w v2 (ss.map Value.string)) :
    Calls Try.prog 18 #[v1, v2] w fun e w' => e = .returned (.bool true) ∧ ∃ m, w' = w.drewN m := by
  obtain ⟨a1, c1, rfl, ⟨m1, _⟩, r1⟩ := h1
  obtain ⟨a2, c2, rfl, _, r2⟩ := h2
  rw [List.length_map] at *
  by_cases hx : ss = []
  · subst hx
    clear r1 r2
    go_enter Try.func18, Try.ntmps18
    go_wp2
    refine wp_loop_rounds 1 ?_
    rw [rounds_succ]
    go_wp2
    go_ret
    exact ⟨rfl, 0, rfl⟩
  · obtain ⟨b1, o1, rfl, l1, k1⟩ := r1 (by simpa using hx)
    obtain ⟨b2, o2, rfl, l2, k2⟩ := r2 (by simpa using hx)
    clear r1 r2
    unfold maxLen at m1
    have K1 : Hid (∀ (i : Nat) (h : i < ss.length), w.cell? ⟨b1, o1 + i, none⟩ = some (.string ss[i])) := Lib.hid fun i h => by have q := k1 i (by simpa using h); rwa [List.getElem_map] at q
    have K2 : Hid (∀ (i : Nat) (h : i < ss.length), w.cell? ⟨b2, o2 + i, none⟩ = some (.string ss[i])) := Lib.hid fun i h => by have q := k2 i (by simpa using h); rwa [List.getElem_map] at q
    clear k1 k2 hx
    go_enter Try.func18, Try.ntmps18
    go_wp2
    go_loopw [5] (fun i wr => ∃ k m : Nat, k ≤ ss.length ∧ i = .int .i64 k ∧ wr = w.drewN m) (fun i _ => ss.length - (intOf i).toNat)
    case atStart => exact ⟨0, 0, Nat.zero_le _, rfl, rfl⟩
    case round =>
      obtain ⟨k, m, hk, rfl, rfl⟩ := hrel
      by_cases hlt : k < ss.length
      · have q1 := K1.out k hlt
        have q2 := K2.out k hlt
        have z1 : (0 : Int) ≤ (k : Int) := by omega
        have z2 : (k : Int) < (ss.length : Int) := by omega
        go_wp2
        go_quiet (fail)
        go_wp2
        go_roundw
        case rel => exact ⟨k + 1, _, by omega, by go_num, rfl⟩
        case measure => simp [intOf]; omega
      · go_wp2
        go_ret
        exact ⟨rfl, _, rfl⟩

/-- The sizes of strings, added up. -/
def sizes (ss : List ByteArray) : Nat := (ss.map ByteArray.size).sum
theorem sizes_take (ss : List ByteArray) (k : Nat) (h : k < ss.length) : sizes (ss.take (k + 1)) = sizes (ss.take k) + ss[k].size := by
  unfold sizes; rw [List.take_succ_eq_append_getElem h, List.map_append, List.sum_append]; simp

set_option maxHeartbeats 400000 in
theorem szStringS_any (v : Value) (ss : List ByteArray) (left : Int) (w : World) (h : SlR w v (ss.map Value.string)) (hb : ∀ x ∈ ss, x.size ≤ maxLen) (h0 : 0 ≤ left) (h1 : left ≤ 1048576) :
    Calls Try.prog 21 #[v, .int .i64 left] w fun e w' => (∃ r : Int, e = .returned (.int .i64 r) ∧ r ≤ 1048576 ∧ (0 ≤ r → r + ss.length + sizes ss = left)) ∧ w = w' := by
  obtain ⟨a, c, rfl, ⟨m1, _⟩, r1⟩ := h
  rw [List.length_map] at *
  by_cases hx : ss = []
  · subst hx
    clear r1
    go_enter Try.func21, Try.ntmps21
    go_wp2
    refine wp_loop_rounds 1 ?_
    rw [rounds_succ]
    go_wp2
    go_ret
    exact ⟨⟨_, rfl, by omega, fun _ => by simp [sizes]⟩, rfl⟩
  · obtain ⟨b1, o1, rfl, l1, k1⟩ := r1 (by simpa using hx)
    clear r1
    unfold maxLen at m1 hb
    have K1 : Hid (∀ (i : Nat) (h : i < ss.length), w.cell? ⟨b1, o1 + i, none⟩ = some (.string ss[i])) := Lib.hid fun i h => by have q := k1 i (by simpa using h); rwa [List.getElem_map] at q
    have HB := Lib.hid hb
    clear k1 hx hb
    by_cases hlen : (left : Int) < ss.length
    · go_enter Try.func21, Try.ntmps21
      go_wp2
      go_ret
      exact ⟨⟨_, rfl, by omega, fun h => by omega⟩, rfl⟩
    · go_enter Try.func21, Try.ntmps21
      go_wp2
      go_loop [1, 5] (fun lf i => ∃ k : Nat, k ≤ ss.length ∧ i = .int .i64 k ∧ lf = .int .i64 (left - ss.length - (sizes (ss.take k) : Nat)) ∧ (sizes (ss.take k) : Int) ≤ left - ss.length) (fun _ i => ss.length - (intOf i).toNat)
      case atStart => exact ⟨0, Nat.zero_le _, rfl, by simp [sizes], by simp [sizes]; omega⟩
      case round =>
        obtain ⟨k, hk, rfl, rfl, hle⟩ := hrel
        by_cases hlt : k < ss.length
        · have q1 := K1.out k hlt
          have hs := HB.out ss[k] (List.getElem_mem _)
          have HS := Lib.hid (sizes_take ss k hlt)
          by_cases hn : (left : Int) - ss.length - (sizes (ss.take k) : Nat) - (ss[k].size : Int) < 0
          · go_wp2
            go_ret
            exact ⟨⟨_, rfl, by omega, fun h => by omega⟩, rfl⟩
          · go_wp2
            go_round
            case rel => exact ⟨k + 1, by omega, by go_num, by rw [HS.out]; congr 1; omega, by rw [HS.out]; omega⟩
            case measure => simp [intOf]; omega
        · have hkk : k = ss.length := by omega
          subst hkk
          go_wp2
          go_ret
          exact ⟨⟨_, rfl, by omega, fun _ => by omega⟩, rfl⟩

set_option maxHeartbeats 800000 in
theorem toStringS_any (v : Value) (ss : List ByteArray) (w : World) (h : SlR w v (ss.map Value.string)) (hn : ss.length ≤ 1048576) :
    Calls Try.prog 22 #[v] w fun e w' => (∃ v', e = .returned v' ∧ w'.ownsRow w.heap.size 9 1 v' ss.length (ss.map Value.string)) ∧ Below w.heap.size w w' := by
  obtain ⟨i0, hi, hz0, hz1, hz2⟩ := info_parts Try.infoStr'
  obtain ⟨a, c, rfl, ⟨m1, _⟩, r1⟩ := h
  rw [List.length_map] at *
  have R1 : Hid (ss ≠ [] → ∃ b off, a = some ⟨b, off, none⟩ ∧ b < w.heap.size ∧ ∀ (i : Nat) (h : i < ss.length), w.cell? ⟨b, off + i, none⟩ = some (.string ss[i])) := Lib.hid fun hx => by
    obtain ⟨b, off, h1, h2, h3⟩ := r1 (by simpa using hx)
    exact ⟨b, off, h1, h2, fun i h => by have q := h3 i (by simpa using h); rwa [List.getElem_map] at q⟩
  clear r1 m1
  go_enter Try.func22, Try.ntmps22
  go_wp2_with (at_make; refine wpList_make_full _ rfl _ _ 26 rfl w.heap.size 9 i0 (.string ⟨#[]⟩) 1 Try.underlying26 hi hz0 hz1 _ _ _ _ ss.length rfl rfl rfl rfl ?b2 ?b3 (Nat.le_refl _) ?_)
  case b2 => rw [hz2]; omega
  case b3 => unfold maxLen; omega
  intro w0 hown0 hgrow0
  have HO0 := Lib.hid hown0
  have HG0 := Lib.hid hgrow0
  clear hown0 hgrow0
  go_wp2
  go_loopw [4] (fun i wr => ∃ (k : Nat) (xs : List Value), k ≤ ss.length ∧ i = .int .i64 k ∧ xs.length = ss.length ∧ (∀ (j : Nat) (h : j < ss.length), j < k → xs[j]? = some (.string ss[j])) ∧ wr.ownsRow w.heap.size 9 1 (.slice (some ⟨w.heap.size, 0, none⟩) ss.length ss.length) ss.length xs ∧ Below w.heap.size w wr) (fun i _ => ss.length - (intOf i).toNat)
  case atStart => exact ⟨0, _, Nat.zero_le _, rfl, by have := HO0.out.1; omega, fun j _ h => by omega, HO0.out, (Below.refl _ _).grown HG0.out (Nat.le_refl _) (fun k h => by cases h)⟩
  case round =>
    obtain ⟨k, xs, hk, rfl, hxl, hpre, hown, hb⟩ := hrel
    by_cases hlt : k < ss.length
    · obtain ⟨b1, o1, rfl, l1, K1⟩ := R1.out (by intro e; subst e; simp at hlt)
      have q1 : wr.cell? ⟨b1, o1 + k, none⟩ = some (.string ss[k]) := (hb.cell (p := ⟨b1, o1 + k, none⟩) l1).trans (K1 k hlt)
      obtain ⟨u, q2⟩ : ∃ u, wr.cell? ⟨w.heap.size, k, none⟩ = some u := by
        have := hown.cells (g := w.heap.size) rfl k _ (List.getElem?_eq_getElem (by omega))
        rw [add_off, Nat.zero_add] at this
        exact ⟨_, this⟩
      have q3 : wr.frozen? ⟨w.heap.size, k, none⟩ = false := hown.frozenAt k
      have HO := Lib.hid hown
      have HP := Lib.hid hpre
      have HX := Lib.hid hxl
      clear K1 hown hpre hxl
      go_wp2
      go_roundw
      case rel =>
        refine ⟨k + 1, xs.set k (.string ss[k]), by omega, by go_num, by rw [List.length_set]; exact HX.out, fun j h hj => ?_, (HO.out.stored k _).1, hb.setCell (Nat.le_refl _) _⟩
        by_cases e : j = k
        · subst e; rw [List.getElem?_set_self (by rw [HX.out]; exact h)]
        · rw [List.getElem?_set_ne (by omega)]; exact HP.out j h (by omega)
      case measure => simp [intOf]; omega
    · have HO := Lib.hid hown
      have hxs : xs = ss.map Value.string := by
        apply List.ext_getElem?
        intro j
        by_cases hj : j < ss.length
        · rw [hpre j hj (by omega), List.getElem?_map, List.getElem?_eq_getElem hj]; rfl
        · rw [List.getElem?_eq_none (by omega), List.getElem?_eq_none (by rw [List.length_map]; omega)]
      have HX := Lib.hid hxs
      clear hxs hown hpre hxl
      go_wp2
      go_ret
      exact ⟨⟨_, rfl, HX.out ▸ HO.out⟩, hb⟩
end Go.Proofs.Ytgfpbcflcakdbaa
