/- The model's plain board with a value; SetBoard. -/
import Derived.Test.YtbdddpchlmddbaaBcarry
import Derived.Maps.AppendAt
namespace Go.Proofs.Ytbdddpchlmddbaa
set_option linter.unusedVariables false
open Go.RowKit

def dgL (k : Nat) (n : Int) : List Int := (List.range k).map fun j => n / 10 ^ j % 5
def dgS (k : Nat) (n : Int) : List Int := (List.range k).map fun j => n / 10 ^ j / 5 % 2
theorem dgL_len (k : Nat) (n : Int) : (dgL k n).length = k := by simp [dgL]
theorem dgS_len (k : Nat) (n : Int) : (dgS k n).length = k := by simp [dgS]
theorem dgL_snoc (k : Nat) (n : Int) : dgL (k + 1) n = dgL k n ++ [n / 10 ^ k % 5] := by unfold dgL; rw [List.range_succ, List.map_append]; rfl
theorem dgS_snoc (k : Nat) (n : Int) : dgS (k + 1) n = dgS k n ++ [n / 10 ^ k / 5 % 2] := by unfold dgS; rw [List.range_succ, List.map_append]; rfl
theorem dg_next (k : Nat) (n : Int) : n / 10 ^ (k + 1) = n / 10 ^ k / 10 := by
  rw [Int.pow_succ, Int.ediv_ediv_of_nonneg (Int.pow_nonneg (by omega))]
/-- The answer of a plain board with the value n. -/
def SetF (L : Nat) (n : Int) (qs qt : List Int) (r : Bool) : Prop :=
  ((0 ≤ n ∧ n / 10 ^ L ≤ 0) ∧ qs = dgL L n ∧ qt = dgS L n ∧ r = true) ∨ (¬ (0 ≤ n ∧ n / 10 ^ L ≤ 0) ∧ qs = [] ∧ qt = [] ∧ r = false)
theorem OwB.push1 {lo hi : Nat} {w w' : World} {v1 v2 v' : Value} {ls ss : List Int} {x : Int} {o : Obj} (h : OwB lo hi w v1 v2 ls ss) (hhi : hi ≤ w.heap.size) (ho : w'.ownsRow lo 3 1 v' (ls.length + 1) (flatC inC ls ++ [.int .i64 x]))
    (hg : (w.alloc o).grownBy w' v1.ownBlock) (hl : v'.ownBlock = v1.ownBlock ∨ v'.ownBlock = some (w.heap.size + 1)) : OwB lo w'.heap.size w' v' v2 (ls ++ [x]) ss := by
  have hsz : (w.alloc o).heap.size = w.heap.size + 1 := by simp
  refine ⟨⟨?_, fun g hg' => (ho.lt g hg').2⟩, ⟨(h.2.1.1.alloc o).kept hg ?_, fun g hg' => by have h1 := h.2.1.2 g hg'; have h2 := hg.size; omega⟩, fun g hg1 hg2 => ?_⟩
  · rw [flatC_app, List.length_append]; simpa [flatC, inC] using ho
  · cases e : v2.ownBlock with
    | none => exact .inl rfl
    | some g => exact .inr fun e' => h.2.2 g e'.symm e
  · rcases hl with hl | hl
    · exact h.2.2 g (hl ▸ hg1) hg2
    · have h1 := h.2.1.2 g hg2
      rw [hl] at hg1
      injection hg1 with hg1
      omega
theorem OwB.push2 {lo hi : Nat} {w w' : World} {v1 v2 v' : Value} {ls ss : List Int} {x : Int} {o : Obj} (h : OwB lo hi w v1 v2 ls ss) (hhi : hi ≤ w.heap.size) (ho : w'.ownsRow lo 3 1 v' (ss.length + 1) (flatC inC ss ++ [.int .i64 x]))
    (hg : (w.alloc o).grownBy w' v2.ownBlock) (hl : v'.ownBlock = v2.ownBlock ∨ v'.ownBlock = some (w.heap.size + 1)) : OwB lo w'.heap.size w' v1 v' ls (ss ++ [x]) := by
  have hsz : (w.alloc o).heap.size = w.heap.size + 1 := by simp
  refine ⟨⟨(h.1.1.alloc o).kept hg ?_, fun g hg' => by have h1 := h.1.2 g hg'; have h2 := hg.size; omega⟩, ⟨?_, fun g hg' => (ho.lt g hg').2⟩, fun g hg1 hg2 => ?_⟩
  · cases e : v1.ownBlock with
    | none => exact .inl rfl
    | some g => exact .inr fun e' => h.2.2 g e e'.symm
  · rw [flatC_app, List.length_append]; simpa [flatC, inC] using ho
  · rcases hl with hl | hl
    · exact h.2.2 g hg1 (hl ▸ hg2)
    · have h1 := h.1.2 g hg1
      rw [hl] at hg2
      injection hg2 with hg2
      omega

set_option maxRecDepth 100000 in
set_option maxHeartbeats 3200000 in
theorem l5Set_yes (L : Nat) (n : Int) (w : World) (hL : L ≤ 6) (h0 : 0 ≤ n) (hm : n ≤ 9223372036854775807) (qs qt : List Int) (r : Bool) (hk : (n / 10 ^ L ≤ 0 ∧ qs = dgL L n ∧ qt = dgS L n ∧ r = true) ∨ (0 < n / 10 ^ L ∧ qs = [] ∧ qt = [] ∧ r = false)) :
    Calls Try.prog 33 #[.int .i64 L, .int .i64 n] w fun e w' => (∃ s1 t1, e = .returned (.tuple #[.agg #[s1, t1], .bool r]) ∧ OwB w.heap.size w'.heap.size w' s1 t1 qs qt) ∧ Below w.heap.size w w' := by
  obtain ⟨i0, hi, hz0, hz1, hz2⟩ := info_parts Try.infoI5
  have HK := Lib.hid hk
  have HB0 : Hid (Below w.heap.size w w) := Lib.hid (Below.refl _ _)
  clear hk
  go_enter Try.func33, Try.ntmps33
  go_wp2_with fail
  have hb : Below w.heap.size w (w.alloc (.cells #[.slice none 0 0, .slice none 0 0] 26)) := (Below.refl _ _).alloc (Nat.le_refl _) _
  have hk : (w.alloc (.cells #[.slice none 0 0, .slice none 0 0] 26)).heap[w.heap.size]? = some (.cells #[.slice none 0 0, .slice none 0 0] 26 (0, 0)) := alloc_at rfl
  have hz : (w.alloc (.cells #[.slice none 0 0, .slice none 0 0] 26)).heap.size = w.heap.size + 1 := by simp
  generalize w.alloc (.cells #[.slice none 0 0, .slice none 0 0] 26) = w1 at hb hk hz ⊢
  have HB1 : Hid (Below w.heap.size w w1) := Lib.hid (HB0.out.trans (hb.mono HB0.out.size))
  have HZ1 : Hid (w.heap.size ≤ w1.heap.size) := Lib.hid hb.size
  have HKz1 := Lib.hid hk
  replace HZ1 : Hid (w.heap.size < w1.heap.size) := Lib.hid (by omega)
  have HE1 := Lib.hid hz
  clear hb hk hz
  have hb : Below w1.heap.size w1 (w1.alloc (.cells #[.slice none 0 0, .slice none 0 0] 26)) := (Below.refl _ _).alloc (Nat.le_refl _) _
  have hk : (w1.alloc (.cells #[.slice none 0 0, .slice none 0 0] 26)).heap[w.heap.size + 1]? = some (.cells #[.slice none 0 0, .slice none 0 0] 26 (0, 0)) := alloc_at (by have := HE1.out; omega)
  have hz : (w1.alloc (.cells #[.slice none 0 0, .slice none 0 0] 26)).heap.size = w1.heap.size + 1 := by simp
  generalize w1.alloc (.cells #[.slice none 0 0, .slice none 0 0] 26) = w2 at hb hk hz ⊢
  have HB2 : Hid (Below w.heap.size w w2) := Lib.hid (HB1.out.trans (hb.mono HB1.out.size))
  have HZ2 : Hid (w1.heap.size ≤ w2.heap.size) := Lib.hid hb.size
  have HKz2 := Lib.hid ((hb.block _ (lt_of_block HKz1.out)).trans HKz1.out)
  have HKo2 := Lib.hid hk
  replace HZ2 : Hid (w1.heap.size < w2.heap.size) := Lib.hid (by omega)
  have HE2 := Lib.hid hz
  clear hb hk hz
  have ltz := lt_of_block HKz2.out
  obtain ⟨cz0, cz1, fz0, fz1⟩ := cell2 HKz2.out
  have lto := lt_of_block HKo2.out
  obtain ⟨co0, co1, fo0, fo1⟩ := cell2 HKo2.out
  have hlz : w.heap.size < w2.heap.size := ltz
  have hlo : w.heap.size + 1 < w2.heap.size := lto
  go_wp2_with fail
  go_loopw [1, 7] (fun nv iv wr => ∃ (k : Nat) (m : Int) (p1 p2 : Option Addr) (k1 k2 : Nat), k ≤ L ∧ iv = .int .i64 k ∧ nv = .int .i64 m ∧ Hid (m = n / 10 ^ k) ∧ (0 ≤ m ∧ m ≤ 9223372036854775807) ∧ wr.heap[w.heap.size]? = some (.cells #[.slice none 0 0, .slice none 0 0] 26 (0, 0)) ∧
    wr.heap[w.heap.size + 1]? = some (.cells #[.slice p1 k k1, .slice p2 k k2] 26 (0, 0)) ∧ OwB w2.heap.size wr.heap.size wr (.slice p1 k k1) (.slice p2 k k2) (dgL k n) (dgS k n) ∧ Below w.heap.size w wr ∧ w2.heap.size ≤ wr.heap.size) (fun _ i _ => L - (intOf i).toNat)
  case atStart => exact ⟨0, n, none, none, 0, 0, Nat.zero_le _, rfl, rfl, Lib.hid (by simp), ⟨h0, hm⟩, HKz2.out, HKo2.out, OwB.nil' _ _ _, HB2.out, Nat.le_refl _⟩
  case round =>
    obtain ⟨k, m, p1, p2, k1, k2, hk, rfl, rfl, HM, ⟨m0, m1⟩, hkz, hko, hown, hb, hsz⟩ := hrel
    have HKZ := Lib.hid hkz
    have HKO := Lib.hid hko
    have HOW := Lib.hid hown
    have HB := Lib.hid hb
    have HSZ := Lib.hid hsz
    by_cases hlt : k < L
    · obtain ⟨x, hx⟩ : ∃ x, m.tmod 5 = x := ⟨_, rfl⟩
      obtain ⟨d, hd⟩ : ∃ d, IntKind.i64.wrap (m.tdiv 5) = d := ⟨_, rfl⟩
      obtain ⟨y, hy⟩ : ∃ y, d.tmod 2 = y := ⟨_, rfl⟩
      obtain ⟨m', hm'⟩ : ∃ m', IntKind.i64.wrap (m.tdiv 10) = m' := ⟨_, rfl⟩
      have HX : Hid (x = m % 5) := Lib.hid (by rw [← hx, Int.tmod_eq_emod_of_nonneg m0])
      have HD : Hid (d = m / 5) := Lib.hid (by rw [← hd, Int.tdiv_eq_ediv_of_nonneg m0, IntKind.wrap_i64]; omega)
      have HY : Hid (y = m / 5 % 2) := Lib.hid (by rw [← hy, HD.out, Int.tmod_eq_emod_of_nonneg (by omega)])
      have HN : Hid (m' = m / 10) := Lib.hid (by rw [← hm', Int.tdiv_eq_ediv_of_nonneg m0, IntKind.wrap_i64]; omega)
      obtain ⟨o0, o1, f0, f1⟩ := cell2 hko
      have z0 : (k : Int) < (L : Int) := by omega
      have hll := dgL_len k n
      have hls := dgS_len k n
      clear hkz hko hown hb hsz hlt
      go_wp2_with (at_builtin; refine wpList_append_own_at _ rfl _ _ 24 rfl w2.heap.size 3 i0 (.int .i64 0) 1 8 Try.underlying24 hi hz0 hz1 hz2 rfl (by decide) _ _ _ rfl (HOW.out.1.1.alloc _) ⟨wr.heap.size, 0, none⟩ 1 1 [.int .i64 x] rfl rfl ?c1 ?c2 ?c3 ?c4 ?c5 ?_)
      case c1 => exact cell_one_new _ _ _
      case c2 => intro u hu; rw [List.mem_singleton.1 hu]; rfl
      case c3 => unfold maxLen; omega
      case c4 => omega
      case c5 => have := HSZ.out; simp; omega
      intro v' w3 hown3 hgrow3 _ hat3
      obtain ⟨p3, k3, rfl⟩ := own_form hown3
      have HO3 := Lib.hid (HOW.out.push1 (Nat.le_refl _) (by rw [hll]; exact hown3) hgrow3 hat3)
      have HG3 := Lib.hid hgrow3
      have HB3 : Hid (Below w.heap.size w w3) := Lib.hid ((HB.out.alloc HB.out.size _).grown hgrow3 (by have := HSZ.out; simp; omega) (fun q hq => by have := (HOW.out.1.1.lt q hq).1; omega))
      have HSZ3 : Hid (w2.heap.size ≤ w3.heap.size) := Lib.hid (by have h1 := hgrow3.size; have := HSZ.out; simp at h1; omega)
      have hne : ∀ q, q < w2.heap.size → some q ≠ (Value.slice p1 k k1).ownBlock := fun q hq e => by have := (HOW.out.1.1.lt q e.symm).1; omega
      have HKZ3 := Lib.hid ((hgrow3.block w.heap.size (by have := HSZ.out; simp; omega) (hne _ hlz)).trans ((alloc_old (by have := HSZ.out; omega)).trans HKZ.out))
      have HKO3 := Lib.hid ((hgrow3.block (w.heap.size + 1) (by have := HSZ.out; simp; omega) (hne _ hlo)).trans ((alloc_old (by have := HSZ.out; omega)).trans HKO.out))
      clear hown3 hgrow3 hat3 o0 o1 f0 f1 hne
      obtain ⟨o0, o1, f0, f1⟩ := cell2 HKO3.out
      have HO4 := Lib.hid (HO3.out.set (a := ⟨w.heap.size + 1, 0, none⟩) hlo (.slice p3 (k + 1) k3))
      have HKO4 : Hid ((w3.setCell ⟨w.heap.size + 1, 0, none⟩ (.slice p3 (k + 1) k3)).heap[w.heap.size + 1]? = some (.cells #[.slice p3 (k + 1) k3, .slice p2 k k2] 26 (0, 0))) := Lib.hid (heap_setCell_same _ _ 0 _ _ _ HKO3.out)
      have hss : (w3.setCell ⟨w.heap.size + 1, 0, none⟩ (.slice p3 (k + 1) k3)).heap.size = w3.heap.size := by simp [World.setCell]
      have HSS := Lib.hid hss
      have HKZ4 : Hid ((w3.setCell ⟨w.heap.size + 1, 0, none⟩ (.slice p3 (k + 1) k3)).heap[w.heap.size]? = some (.cells #[.slice none 0 0, .slice none 0 0] 26 (0, 0))) := Lib.hid ((Below.heap_setCell _ ⟨w.heap.size + 1, 0, none⟩ _ _ (by show w.heap.size ≠ w.heap.size + 1; omega)).trans HKZ3.out)
      go_wp2_with (at_builtin; refine wpList_append_own_at _ rfl _ _ 24 rfl w2.heap.size 3 i0 (.int .i64 0) 1 8 Try.underlying24 hi hz0 hz1 hz2 rfl (by decide) _ _ _ rfl (HO4.out.2.1.1.alloc _) ⟨w3.heap.size, 0, none⟩ 1 1 [.int .i64 y] rfl rfl ?d1 ?d2 ?d3 ?d4 ?d5 ?_)
      case d1 =>
        have := cell_one_new (w3.setCell ⟨w.heap.size + 1, 0, none⟩ (.slice p3 (k + 1) k3)) (.int .i64 y) 3
        rw [hss] at this
        exact this
      case d2 => intro u hu; rw [List.mem_singleton.1 hu]; rfl
      case d3 => unfold maxLen; omega
      case d4 => omega
      case d5 => have := HSZ3.out; simp; omega
      intro v' w5 hown5 hgrow5 _ hat5
      obtain ⟨p5, k5, rfl⟩ := own_form hown5
      have HO5 := Lib.hid (HO4.out.push2 (by rw [HSS.out]; exact Nat.le_refl _) (by rw [hls]; exact hown5) hgrow5 (by rw [HSS.out]; exact hat5))
      have HB5 : Hid (Below w.heap.size w w5) := Lib.hid (((HB3.out.setCell (p := ⟨w.heap.size + 1, 0, none⟩) (Nat.le_succ _) _).alloc (by rw [HSS.out]; exact HB3.out.size) _).grown hgrow5 (by have h1 := HB3.out.size; have := HSS.out; simp; omega) (fun q hq => by have := (HOW.out.2.1.1.lt q hq).1; omega))
      have HSZ5 : Hid (w2.heap.size ≤ w5.heap.size) := Lib.hid (by have h1 := hgrow5.size; have := HSZ3.out; have := HSS.out; simp at h1; omega)
      have hne : ∀ q, q < w2.heap.size → some q ≠ (Value.slice p2 k k2).ownBlock := fun q hq e => by have := (HOW.out.2.1.1.lt q e.symm).1; omega
      have HKZ5 := Lib.hid ((hgrow5.block w.heap.size (by have := HSZ3.out; have := HSS.out; simp; omega) (hne _ hlz)).trans ((alloc_old (by have := HSZ3.out; have := HSS.out; omega)).trans HKZ4.out))
      have HKO5 := Lib.hid ((hgrow5.block (w.heap.size + 1) (by have := HSZ3.out; have := HSS.out; simp; omega) (hne _ hlo)).trans ((alloc_old (by have := HSZ3.out; have := HSS.out; omega)).trans HKO4.out))
      clear hown5 hgrow5 hat5 o0 o1 f0 f1 hne hss
      obtain ⟨o0, o1, f0, f1⟩ := cell2 HKO5.out
      have HO6 := Lib.hid (HO5.out.set (a := ⟨w.heap.size + 1, 1, none⟩) hlo (.slice p5 (k + 1) k5))
      have HKO6 : Hid ((w5.setCell ⟨w.heap.size + 1, 1, none⟩ (.slice p5 (k + 1) k5)).heap[w.heap.size + 1]? = some (.cells #[.slice p3 (k + 1) k3, .slice p5 (k + 1) k5] 26 (0, 0))) := Lib.hid (heap_setCell_same _ _ 1 _ _ _ HKO5.out)
      have HKZ6 : Hid ((w5.setCell ⟨w.heap.size + 1, 1, none⟩ (.slice p5 (k + 1) k5)).heap[w.heap.size]? = some (.cells #[.slice none 0 0, .slice none 0 0] 26 (0, 0))) := Lib.hid ((Below.heap_setCell _ ⟨w.heap.size + 1, 1, none⟩ _ _ (by show w.heap.size ≠ w.heap.size + 1; omega)).trans HKZ5.out)
      have HS6 : Hid ((w5.setCell ⟨w.heap.size + 1, 1, none⟩ (.slice p5 (k + 1) k5)).heap.size = w5.heap.size) := Lib.hid (by simp [World.setCell])
      have HB6 := Lib.hid (HB5.out.setCell (p := ⟨w.heap.size + 1, 1, none⟩) (Nat.le_succ _) (.slice p5 (k + 1) k5))
      go_wp2_with fail
      go_roundw
      case rel =>
        refine ⟨k + 1, m', p3, p5, k3, k5, by omega, by go_num, rfl, Lib.hid (by rw [HN.out, HM.out, dg_next]), by have := HN.out; omega, HKZ6.out, HKO6.out, ?_, HB6.out, by have := HSZ5.out; rw [HS6.out]; omega⟩
        rw [HS6.out, dgL_snoc, dgS_snoc, ← HM.out, ← HX.out, ← HY.out]
        exact HO6.out
      case measure => simp [intOf]; omega
    · obtain rfl : k = L := by omega
      clear hkz hko hown hb hsz hlt
      obtain ⟨o0, o1, f0, f1⟩ := cell2 HKO.out
      obtain ⟨q0, q1, g0, g1⟩ := cell2 HKZ.out
      have hzr : w.heap.size < wr.heap.size := by have := HSZ.out; omega
      rcases HK.out with ⟨h1, hq1, hq2, rfl⟩ | ⟨h1, hq1, hq2, rfl⟩
      · subst hq1 hq2
        have hm0 : m = 0 := by have := HM.out; omega
        subst hm0
        go_wp2_with fail
        exact bodyPost_ret (v := .tuple #[.agg #[.slice p1 k k1, .slice p2 k k2], .bool true]) (by simp [results, Try.results33, go_sem, q0, q1]) rfl ⟨⟨_, _, rfl, ((HOW.out.set (a := ⟨w.heap.size, 0, none⟩) hlz _).set (a := ⟨w.heap.size, 1, none⟩) hlz _).mono (by have := HB2.out.size; omega) (by simp [World.setCell])⟩, (HB.out.setCell (p := ⟨w.heap.size, 0, none⟩) (Nat.le_refl _) _).setCell (p := ⟨w.heap.size, 1, none⟩) (Nat.le_refl _) _⟩
      · subst hq1 hq2
        have hm0 : 0 < m := by have := HM.out; omega
        go_wp2_with fail
        exact bodyPost_ret (v := .tuple #[.agg #[.slice none 0 0, .slice none 0 0], .bool false]) (by simp [results, Try.results33, go_sem, q0, q1]) rfl ⟨⟨_, _, rfl, OwB.nil' _ _ _⟩, (HB.out.setCell (p := ⟨w.heap.size, 0, none⟩) (Nat.le_refl _) _).setCell (p := ⟨w.heap.size, 1, none⟩) (Nat.le_refl _) _⟩
end Go.Proofs.Ytbdddpchlmddbaa
