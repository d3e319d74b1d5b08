/- Slices of strings marked, and the marks held. -/
import Derived.Test.YtfmkdfmholhnjaaStrs
import Derived.Test.YtfmkdfmholhnjaaMtext
import Derived.Test.YtfmkdfmholhnjaaOw
import Derived.Test.YtfmkdfmholhnjaaReg
import Derived.Deep.RegionHeld3
namespace Go.Proofs.Ytfmkdfmholhnjaa
set_option linter.unusedVariables false
open Go.RowKit

def mkSt (k : Int) (n : Nat) : List ByteArray := (List.range n).map fun (i : Nat) => mT (k + (i : Int))
theorem mkSt_len (k : Int) (n : Nat) : (mkSt k n).length = n := by simp [mkSt]
theorem mkSt_at (k : Int) (n i : Nat) (h : i < n) : ((mkSt k n).map Value.string)[i]? = some (.string (mT (k + (i : Int)))) := by simp [mkSt, h]
set_option maxRecDepth 100000 in
set_option maxHeartbeats 1600000 in
theorem markStringS_any (v : Value) (n : Nat) (k : Int) (lo hi : Nat) (e : TypeId) (xs : List Value) (w : World) (h : Ow lo hi w e 1 v n xs) (hn : n ≤ 1048576) (hk : 1 ≤ k ∧ k ≤ 4000000) (hlo : lo ≤ w.heap.size) :
    Calls Try.prog 8 #[v, .int .i64 k] w fun en w' => en = .returned (.int .i64 (k + n)) ∧ Ow lo hi w' e 1 v n ((mkSt k n).map Value.string) ∧ Btw lo hi w w' := by
  obtain ⟨hk0, hk1⟩ := hk
  have h' := h
  rcases h.1.2 with ⟨rfl, h0⟩ | ⟨g, cap, cur, rfl, hb, hg, hnc, hc, hsz, ht⟩
  · subst h0
    go_enter Try.func8, Try.ntmps8
    go_wp2_with fail
    go_loopw [5, 1] (fun i kk wr => i = .int .i64 0 ∧ kk = .int .i64 k ∧ wr = w) (fun i _ _ => 0)
    case atStart => exact ⟨rfl, rfl, rfl⟩
    case round =>
      obtain ⟨rfl, rfl, rfl⟩ := hrel
      go_wp2_with fail
      go_ret
      have e0 : xs = [] := List.length_eq_zero_iff.1 (by simpa using h'.1.1)
      subst e0
      exact ⟨by simp, h', Btw.refl _ _ _⟩
  · have HO := Lib.hid h'
    have HX := Lib.hid h'.1.1
    have HG : Hid (lo ≤ g ∧ g < hi) := Lib.hid ⟨hb, h'.2 g rfl⟩
    clear h h' hb hg hnc hc hsz ht
    go_enter Try.func8, Try.ntmps8
    go_wp2_with fail
    go_loopw [5, 1] (fun i kk wr => ∃ (m : Nat) (ys : List Value), m ≤ n ∧ i = .int .i64 m ∧ kk = .int .i64 (k + (m : Int)) ∧ ys.length = n * 1 ∧ Hid (∀ (i : Nat), i < m → ys[i]? = some (.string (mT (k + (i : Int))))) ∧ Ow lo hi wr e 1 (.slice (some ⟨g, 0, none⟩) n cap) n ys ∧ Btw lo hi w wr) (fun i _ _ => n - (intOf i).toNat)
    case atStart => exact ⟨0, xs, Nat.zero_le _, rfl, by simp, HX.out, Lib.hid fun i hi => absurd hi (by omega), HO.out, Btw.refl _ _ _⟩
    case round =>
      obtain ⟨m, ys, hm, rfl, rfl, hyl, HP, how, hbt⟩ := hrel
      have HW := Lib.hid how
      have HB := Lib.hid hbt
      have HL := Lib.hid hyl
      by_cases hlt : m < n
      · have z1 : (0 : Int) ≤ (m : Int) := by omega
        have z2 : (m : Int) < (n : Int) := by omega
        clear how hbt hyl
        go_wp2_with fail
        refine (markText_any (k + (m : Int)) _ ⟨by omega, by omega⟩).mono ?_
        rintro en w2 ⟨rfl, hb2⟩
        have HW2 := Lib.hid (HW.out.next hb2)
        have HB2 : Hid (Btw lo hi w w2) := Lib.hid (Btw.of_below HB.out hb2 (by have := HB.out.size; omega))
        clear hb2
        obtain ⟨u0, c0⟩ : ∃ u, w2.cell? ⟨g, m, none⟩ = some u := ⟨_, (HW2.out.1.cellAt m (by omega)).trans (List.getElem?_eq_getElem (by have := HL.out; omega))⟩
        have f0 : w2.frozen? ⟨g, m, none⟩ = false := HW2.out.1.frozenAt _
        generalize hmt : mT (k + (m : Int)) = tt
        have HMT := Lib.hid hmt
        clear hmt
        go_wp2_with fail
        go_roundw
        case rel =>
          refine ⟨m + 1, ys.set m (.string tt), by omega, by go_num, by congr 1; omega, by rw [List.length_set]; exact HL.out, Lib.hid fun i hi => ?_, HW2.out.stored _ _, HB2.out.setCell HG.out.1 HG.out.2 _⟩
          have hl := HL.out
          by_cases e : i = m
          · subst e
            rw [List.getElem?_set_self (by omega), HMT.out]
          · rw [List.getElem?_set_ne (by omega)]
            exact HP.out i (by omega)
        case measure => simp [intOf]; omega
      · have hmn : m = n := by omega
        subst hmn
        have hz : ys = (mkSt k m).map Value.string := by
          refine List.ext_getElem? fun i => ?_
          by_cases hi : i < m
          · rw [HP.out i hi, mkSt_at k m i hi]
          · rw [List.getElem?_eq_none (by omega), List.getElem?_eq_none (by rw [List.length_map, mkSt_len]; omega)]
        have HW2 := Lib.hid (hz ▸ HW.out)
        clear how hbt hyl hz
        go_wp2_with fail
        go_ret
        exact ⟨rfl, HW2.out, HB.out⟩

set_option maxRecDepth 100000 in
set_option maxHeartbeats 1600000 in
theorem heldStringS_any (v : Value) (n : Nat) (k : Int) (w : World) (h : SlR w v ((mkSt k n).map Value.string)) (hn : n ≤ 1048576) (hk : 1 ≤ k ∧ k ≤ 4000000) :
    Calls Try.prog 9 #[v, .int .i64 k] w fun en w' => en = .returned (.int .i64 (k + n)) ∧ Below w.heap.size w w' := by
  obtain ⟨hk0, hk1⟩ := hk
  obtain ⟨a, cp, rfl, ⟨m1, _⟩, r1⟩ := h
  have hll : ((mkSt k n).map Value.string).length = n := by rw [List.length_map, mkSt_len]
  have R1 : Hid (∀ w' : World, Below w.heap.size w w' → ∀ i, i < n → ∃ b off, a = some ⟨b, off, none⟩ ∧ b < w.heap.size ∧ w'.cell? ⟨b, off + i, none⟩ = some (.string (mT (k + (i : Int))))) := Lib.hid (fun w' hb i hi => by
    obtain ⟨b, o, e1, e2, e3⟩ := r1 (by intro e; rw [e] at hll; simp at hll; omega)
    refine ⟨b, o, e1, e2, ?_⟩
    have h1 := e3 i (by rw [hll]; exact hi)
    have h2 := mkSt_at k n i hi
    rw [List.getElem?_eq_getElem (by rw [hll]; exact hi)] at h2
    rw [hb.cell (p := ⟨b, o + i, none⟩) e2, h1, Option.some.inj h2])
  rw [hll]
  clear r1 m1 hll
  go_enter Try.func9, Try.ntmps9
  go_wp2_with fail
  go_loopw [5, 1] (fun i kk wr => ∃ (m : Nat), m ≤ n ∧ i = .int .i64 m ∧ kk = .int .i64 (k + (m : Int)) ∧ Below w.heap.size w wr) (fun i _ _ => n - (intOf i).toNat)
  case atStart => exact ⟨0, Nat.zero_le _, rfl, by simp, Below.refl _ _⟩
  case round =>
    obtain ⟨m, hm, rfl, rfl, hb⟩ := hrel
    by_cases hlt : m < n
    · obtain ⟨b1, o1, rfl, l1, k1⟩ := R1.out _ hb m hlt
      have z1 : (0 : Int) ≤ (m : Int) := by omega
      have z2 : (m : Int) < (n : Int) := by omega
      have HB := Lib.hid hb
      have HMK := Lib.hid (markText_any (k + (m : Int)))
      generalize mT (k + (m : Int)) = tt at k1 HMK
      have hxx : (!tt.toList == tt.toList) = false := by simp
      go_wp2_with fail
      have HB0 : Hid (Below w.heap.size w w) := Lib.hid (Below.refl _ _)
      refine wp_region_held_drew (S := (fun w' => w'.cell? ⟨b1, o1 + m, none⟩ = some (.string tt))) (by kernel_rfl) (k1) (fun hHeld => ?_)
      have hbd : Below wr.heap.size wr wr.drew := (Below.refl _ _).drew
      have HB2 := Lib.hid (HB.out.trans (hbd.mono HB.out.size))
      have hlz : b1 < wr.drew.heap.size := by have := HB2.out.size; omega
      generalize wr.drew = w3 at hHeld HB2 hlz ⊢
      clear hbd k1
      have k1 := hHeld
      refine take1 (i := 0) (v := ?v1) (some 12) rfl rfl (by kernel_rfl) (by kernel_rfl) (by kernel_rfl) (fun _ _ _ h => h) (Or.inl ⟨by rfl, ?y1⟩) (by assumption) ?r1
      case y1 => (intro w hSw; (try dsimp only at hSw); go_simp; (first | done | with_reducible rfl))
      try simp only [Act.put, List.setIfInBounds_toArray, List.set_cons_zero, List.set_cons_succ]
      refine take1 (i := 1) (v := ?v2) (some 13) rfl rfl (by kernel_rfl) (by kernel_rfl) (by kernel_rfl) (fun _ _ _ h => h) (Or.inl ⟨by rfl, ?y2⟩) (by assumption) ?r2
      case y2 => (intro w hSw; (try dsimp only at hSw); go_simp; (first | done | with_reducible rfl))
      try simp only [Act.put, List.setIfInBounds_toArray, List.set_cons_zero, List.set_cons_succ]
      refine take1 (i := 2) (v := ?v3) (some 14) rfl rfl (by kernel_rfl) (by kernel_rfl) (by kernel_rfl) (fun _ _ _ h => h) (Or.inl ⟨by rfl, ?y3⟩) (by assumption) ?r3
      case y3 => (intro w hSw; (try dsimp only at hSw); go_simp; (first | done | with_reducible rfl))
      try simp only [Act.put, List.setIfInBounds_toArray, List.set_cons_zero, List.set_cons_succ]
      refine take1 (i := 3) (v := ?v4) (some 15) rfl rfl (by kernel_rfl) (by kernel_rfl) (by kernel_rfl) (fun _ _ _ h => h) (Or.inl ⟨by rfl, ?y4⟩) (by assumption) ?r4
      case y4 => (intro w hSw; (try dsimp only at hSw); go_simp; (first | done | with_reducible rfl))
      try simp only [Act.put, List.setIfInBounds_toArray, List.set_cons_zero, List.set_cons_succ]
      refine take1 (i := 4) (v := ?v5) (some 16) rfl rfl (by kernel_rfl) (by kernel_rfl) (by kernel_rfl) (fun _ _ _ h => h) (Or.inl ⟨by rfl, ?y5⟩) (by assumption) ?r5
      case y5 => (intro w hSw; (try dsimp only at hSw); go_simp; (first | done | with_reducible rfl))
      try simp only [Act.put, List.setIfInBounds_toArray, List.set_cons_zero, List.set_cons_succ]
      refine wpAnyH_ready (rs := [5]) (by kernel_rfl) (by simp) ?_
      refine AllReadyH.cons rfl (fun K hK => ?_) AllReadyH.nil
      go_simp
      go_at_call 21
      refine (HMK.out _ ⟨by omega, by omega⟩).mono ?_
      rintro en w4 ⟨rfl, hb4⟩
      have HB4 := Lib.hid (HB2.out.trans (hb4.mono HB2.out.size))
      have k2 : w4.cell? ⟨b1, o1 + m, none⟩ = some (.string tt) := (hb4.cell (p := ⟨b1, o1 + m, none⟩) hlz).trans k1
      clear hb4
      try go_simp
      refine hK.out _ _ (k2) (fun hHeld => ?_)
      clear hK K
      try simp only [Act.put, List.setIfInBounds_toArray, List.set_cons_zero, List.set_cons_succ]
      refine take1 (i := 6) (v := ?v6) (some 18) rfl rfl (by kernel_rfl) (by kernel_rfl) (by kernel_rfl) (fun _ _ _ h => h) (Or.inl ⟨by rfl, ?y6⟩) (by assumption) ?r6
      case y6 => (intro w hSw; (try dsimp only at hSw); go_simp; (first | done | with_reducible rfl))
      try simp only [Act.put, List.setIfInBounds_toArray, List.set_cons_zero, List.set_cons_succ]
      refine wpAnyH_done (by kernel_rfl) ?_ _
      clear k1 k2 hHeld
      go_wp2_with fail
      go_roundw
      case rel => exact ⟨m + 1, by omega, by go_num, by congr 1; omega, HB4.out⟩
      case measure => simp [intOf]; omega
    · have hmn : m = n := by omega
      subst hmn
      go_wp2_with fail
      go_ret
      exact ⟨rfl, hb⟩
end Go.Proofs.Ytfmkdfmholhnjaa
