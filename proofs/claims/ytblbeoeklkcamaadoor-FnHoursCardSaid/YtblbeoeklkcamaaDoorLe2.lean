/- The model: when lessons clash, where one is, whether it fits. -/
import Derived.Test.YtblbeoeklkcamaaDoorLe1
namespace Go.Proofs.YtblbeoeklkcamaaDoor
set_option linter.unusedVariables false
open Go.RowKit

set_option maxRecDepth 100000 in
set_option maxHeartbeats 1600000 in
theorem specMeet_any (x y : Les) (w : World) :
    Calls Tryd.prog 68 #[lesV x, lesV y] w fun e w' => e = .returned (.bool (meetB x y)) ∧ Below w.heap.size w w' := by
  obtain ⟨aid, acls, atch, aroom, aday, abgn, amins⟩ := x
  obtain ⟨bid, bcls, btch, broom, bday, bbgn, bmins⟩ := y
  show Calls Tryd.prog 68 #[.agg #[.int .i64 aid, .int .i64 acls, .int .i64 atch, .int .i64 aroom, .int .i64 aday, .int .i64 abgn, .int .i64 amins], .agg #[.int .i64 bid, .int .i64 bcls, .int .i64 btch, .int .i64 broom, .int .i64 bday, .int .i64 bbgn, .int .i64 bmins]] w fun e w' => e = .returned (.bool (meetB ⟨aid, acls, atch, aroom, aday, abgn, amins⟩ ⟨bid, bcls, btch, broom, bday, bbgn, bmins⟩)) ∧ Below w.heap.size w w'
  obtain ⟨eb, heb⟩ : ∃ z, IntKind.i64.wrap (bbgn + bmins) = z := ⟨_, rfl⟩
  obtain ⟨ea, hea⟩ : ∃ z, IntKind.i64.wrap (abgn + amins) = z := ⟨_, rfl⟩
  have hE : meetB ⟨aid, acls, atch, aroom, aday, abgn, amins⟩ ⟨bid, bcls, btch, broom, bday, bbgn, bmins⟩ = decide (aday = bday ∧ abgn < eb ∧ bbgn < ea) := by subst heb; subst hea; rfl
  generalize meetB ⟨aid, acls, atch, aroom, aday, abgn, amins⟩ ⟨bid, bcls, btch, broom, bday, bbgn, bmins⟩ = r at hE ⊢
  have HE := Lib.hid hE
  clear hE
  by_cases hd : aday = bday
  · have hd' : (aday == bday) = true := by simpa using hd
    by_cases h1 : abgn < eb
    · by_cases h2 : bbgn < ea
      · have HN : Hid (r = true) := Lib.hid (by rw [HE.out]; simp [hd, h1, h2])
        clear hd
        go_enter Tryd.func68, Tryd.ntmps68
        go_wp2_with fail
        go_ret
        exact ⟨ret_bool HN.out.symm, ((Below.refl _ _).alloc (Nat.le_refl _) _).alloc (by simp) _⟩
      · have HN : Hid (r = false) := Lib.hid (by rw [HE.out]; simp [h2])
        clear hd
        go_enter Tryd.func68, Tryd.ntmps68
        go_wp2_with fail
        go_ret
        exact ⟨ret_bool HN.out.symm, ((Below.refl _ _).alloc (Nat.le_refl _) _).alloc (by simp) _⟩
    · have HN : Hid (r = false) := Lib.hid (by rw [HE.out]; simp [h1])
      clear hd
      go_enter Tryd.func68, Tryd.ntmps68
      go_wp2_with fail
      go_ret
      exact ⟨ret_bool HN.out.symm, ((Below.refl _ _).alloc (Nat.le_refl _) _).alloc (by simp) _⟩
  · have hd' : (aday == bday) = false := by simpa using hd
    have HN : Hid (r = false) := Lib.hid (by rw [HE.out]; simp [hd])
    clear hd
    go_enter Tryd.func68, Tryd.ntmps68
    go_wp2_with fail
    go_ret
    exact ⟨ret_bool HN.out.symm, ((Below.refl _ _).alloc (Nat.le_refl _) _).alloc (by simp) _⟩
set_option maxRecDepth 100000 in
set_option maxHeartbeats 1600000 in
theorem specClash_any (x y : Les) (w : World) :
    Calls Tryd.prog 58 #[lesV x, lesV y] w fun e w' => e = .returned (.bool (clashB x y)) ∧ Below w.heap.size w w' := by
  have HC := Lib.hid (fun w => specMeet_any x y w)
  obtain ⟨aid, acls, atch, aroom, aday, abgn, amins⟩ := x
  obtain ⟨bid, bcls, btch, broom, bday, bbgn, bmins⟩ := y
  show Calls Tryd.prog 58 #[.agg #[.int .i64 aid, .int .i64 acls, .int .i64 atch, .int .i64 aroom, .int .i64 aday, .int .i64 abgn, .int .i64 amins], .agg #[.int .i64 bid, .int .i64 bcls, .int .i64 btch, .int .i64 broom, .int .i64 bday, .int .i64 bbgn, .int .i64 bmins]] w fun e w' => e = .returned (.bool (clashB ⟨aid, acls, atch, aroom, aday, abgn, amins⟩ ⟨bid, bcls, btch, broom, bday, bbgn, bmins⟩)) ∧ Below w.heap.size w w'
  change Hid (∀ w : World, Calls Tryd.prog 68 #[.agg #[.int .i64 aid, .int .i64 acls, .int .i64 atch, .int .i64 aroom, .int .i64 aday, .int .i64 abgn, .int .i64 amins], .agg #[.int .i64 bid, .int .i64 bcls, .int .i64 btch, .int .i64 broom, .int .i64 bday, .int .i64 bbgn, .int .i64 bmins]] w fun e w' => e = .returned (.bool (meetB ⟨aid, acls, atch, aroom, aday, abgn, amins⟩ ⟨bid, bcls, btch, broom, bday, bbgn, bmins⟩)) ∧ Below w.heap.size w w') at HC
  have hE : clashB ⟨aid, acls, atch, aroom, aday, abgn, amins⟩ ⟨bid, bcls, btch, broom, bday, bbgn, bmins⟩ = (meetB ⟨aid, acls, atch, aroom, aday, abgn, amins⟩ ⟨bid, bcls, btch, broom, bday, bbgn, bmins⟩ && decide (acls = bcls ∨ atch = btch ∨ aroom = broom)) := rfl
  generalize meetB ⟨aid, acls, atch, aroom, aday, abgn, amins⟩ ⟨bid, bcls, btch, broom, bday, bbgn, bmins⟩ = mb at HC hE
  generalize clashB ⟨aid, acls, atch, aroom, aday, abgn, amins⟩ ⟨bid, bcls, btch, broom, bday, bbgn, bmins⟩ = r at hE ⊢
  have HE := Lib.hid hE
  clear hE
  have HB0 : Hid (Below w.heap.size w w) := Lib.hid (Below.refl _ _)
  go_enter Tryd.func58, Tryd.ntmps58
  go_wp2_with fail
  have hb : Below w.heap.size w (w.alloc (.cells #[.int .i64 aid, .int .i64 acls, .int .i64 atch, .int .i64 aroom, .int .i64 aday, .int .i64 abgn, .int .i64 amins] 31)) := (Below.refl _ _).alloc (Nat.le_refl _) _
  have hk : (w.alloc (.cells #[.int .i64 aid, .int .i64 acls, .int .i64 atch, .int .i64 aroom, .int .i64 aday, .int .i64 abgn, .int .i64 amins] 31)).heap[w.heap.size]? = some (.cells #[.int .i64 aid, .int .i64 acls, .int .i64 atch, .int .i64 aroom, .int .i64 aday, .int .i64 abgn, .int .i64 amins] 31 (0, 0)) := alloc_at rfl
  have hz : (w.alloc (.cells #[.int .i64 aid, .int .i64 acls, .int .i64 atch, .int .i64 aroom, .int .i64 aday, .int .i64 abgn, .int .i64 amins] 31)).heap.size = w.heap.size + 1 := by simp
  generalize w.alloc (.cells #[.int .i64 aid, .int .i64 acls, .int .i64 atch, .int .i64 aroom, .int .i64 aday, .int .i64 abgn, .int .i64 amins] 31) = w1 at hb hk hz ⊢
  have HB1 : Hid (Below w.heap.size w w1) := Lib.hid (HB0.out.trans (hb.mono HB0.out.size))
  have HZ1 : Hid (w.heap.size ≤ w1.heap.size) := Lib.hid hb.size
  have HKf1 := Lib.hid hk
  replace HZ1 : Hid (w.heap.size < w1.heap.size) := Lib.hid (by omega)
  have HE1 := Lib.hid hz
  clear hb hk hz
  have hb : Below w1.heap.size w1 (w1.alloc (.cells #[.int .i64 bid, .int .i64 bcls, .int .i64 btch, .int .i64 broom, .int .i64 bday, .int .i64 bbgn, .int .i64 bmins] 31)) := (Below.refl _ _).alloc (Nat.le_refl _) _
  have hk : (w1.alloc (.cells #[.int .i64 bid, .int .i64 bcls, .int .i64 btch, .int .i64 broom, .int .i64 bday, .int .i64 bbgn, .int .i64 bmins] 31)).heap[w.heap.size + 1]? = some (.cells #[.int .i64 bid, .int .i64 bcls, .int .i64 btch, .int .i64 broom, .int .i64 bday, .int .i64 bbgn, .int .i64 bmins] 31 (0, 0)) := alloc_at (by have := HE1.out; omega)
  have hz : (w1.alloc (.cells #[.int .i64 bid, .int .i64 bcls, .int .i64 btch, .int .i64 broom, .int .i64 bday, .int .i64 bbgn, .int .i64 bmins] 31)).heap.size = w1.heap.size + 1 := by simp
  generalize w1.alloc (.cells #[.int .i64 bid, .int .i64 bcls, .int .i64 btch, .int .i64 broom, .int .i64 bday, .int .i64 bbgn, .int .i64 bmins] 31) = w2 at hb hk hz ⊢
  have HB2 : Hid (Below w.heap.size w w2) := Lib.hid (HB1.out.trans (hb.mono HB1.out.size))
  have HZ2 : Hid (w1.heap.size ≤ w2.heap.size) := Lib.hid hb.size
  have HKf2 := Lib.hid ((hb.block _ (lt_of_block HKf1.out)).trans HKf1.out)
  have HKg2 := Lib.hid hk
  replace HZ2 : Hid (w1.heap.size < w2.heap.size) := Lib.hid (by omega)
  have HE2 := Lib.hid hz
  clear hb hk hz
  have ltf := lt_of_block HKf2.out
  obtain ⟨cf0, cf1, cf2, cf3, cf4, cf5, cf6, ff0, ff1, ff2, ff3, ff4, ff5, ff6⟩ := cell7 HKf2.out
  have ltg := lt_of_block HKg2.out
  obtain ⟨cg0, cg1, cg2, cg3, cg4, cg5, cg6, fg0, fg1, fg2, fg3, fg4, fg5, fg6⟩ := cell7 HKg2.out
  refine (HC.out _).mono ?_
  rintro e w3 ⟨rfl, hb⟩
  have HB3 : Hid (Below w.heap.size w w3) := Lib.hid (HB2.out.trans (hb.mono HB2.out.size))
  have HZ3 : Hid (w2.heap.size ≤ w3.heap.size) := Lib.hid hb.size
  have HKf3 := Lib.hid ((hb.block _ (lt_of_block HKf2.out)).trans HKf2.out)
  have HKg3 := Lib.hid ((hb.block _ (lt_of_block HKg2.out)).trans HKg2.out)
  clear hb
  cases mb with
  | false =>
    have HN : Hid (r = false) := Lib.hid (by rw [HE.out]; rfl)
    clear cf0 cf1 cf2 cf3 cf4 cf5 cf6 ff0 ff1 ff2 ff3 ff4 ff5 ff6 ltf cg0 cg1 cg2 cg3 cg4 cg5 cg6 fg0 fg1 fg2 fg3 fg4 fg5 fg6 ltg
    have ltf := lt_of_block HKf3.out
    obtain ⟨cf0, cf1, cf2, cf3, cf4, cf5, cf6, ff0, ff1, ff2, ff3, ff4, ff5, ff6⟩ := cell7 HKf3.out
    have ltg := lt_of_block HKg3.out
    obtain ⟨cg0, cg1, cg2, cg3, cg4, cg5, cg6, fg0, fg1, fg2, fg3, fg4, fg5, fg6⟩ := cell7 HKg3.out
    go_wp2_with fail
    go_ret
    exact ⟨ret_bool HN.out.symm, HB3.out⟩
  | true =>
    have HE2 : Hid (r = decide (acls = bcls ∨ atch = btch ∨ aroom = broom)) := Lib.hid (by rw [HE.out]; rfl)
    clear cf0 cf1 cf2 cf3 cf4 cf5 cf6 ff0 ff1 ff2 ff3 ff4 ff5 ff6 ltf cg0 cg1 cg2 cg3 cg4 cg5 cg6 fg0 fg1 fg2 fg3 fg4 fg5 fg6 ltg
    have ltf := lt_of_block HKf3.out
    obtain ⟨cf0, cf1, cf2, cf3, cf4, cf5, cf6, ff0, ff1, ff2, ff3, ff4, ff5, ff6⟩ := cell7 HKf3.out
    have ltg := lt_of_block HKg3.out
    obtain ⟨cg0, cg1, cg2, cg3, cg4, cg5, cg6, fg0, fg1, fg2, fg3, fg4, fg5, fg6⟩ := cell7 HKg3.out
    by_cases h1 : acls = bcls
    · have HN : Hid (r = true) := Lib.hid (by rw [HE2.out]; simp [h1])
      have h1' : (acls == bcls) = true := by simpa using h1
      clear h1
      go_wp2_with fail
      go_ret
      exact ⟨ret_bool HN.out.symm, HB3.out⟩
    · have h1' : (acls == bcls) = false := by simpa using h1
      by_cases h2 : atch = btch
      · have HN : Hid (r = true) := Lib.hid (by rw [HE2.out]; simp [h2])
        have h2' : (atch == btch) = true := by simpa using h2
        clear h1 h2
        go_wp2_with fail
        go_ret
        exact ⟨ret_bool HN.out.symm, HB3.out⟩
      · have h2' : (atch == btch) = false := by simpa using h2
        by_cases h3 : aroom = broom
        · have HN : Hid (r = true) := Lib.hid (by rw [HE2.out]; simp [h3])
          have h3' : (aroom == broom) = true := by simpa using h3
          clear h1 h2 h3
          go_wp2_with fail
          go_ret
          exact ⟨ret_bool HN.out.symm, HB3.out⟩
        · have HN : Hid (r = false) := Lib.hid (by rw [HE2.out]; simp [h1, h2, h3])
          have h3' : (aroom == broom) = false := by simpa using h3
          clear h1 h2 h3
          go_wp2_with fail
          go_ret
          exact ⟨ret_bool HN.out.symm, HB3.out⟩
set_option maxRecDepth 100000 in
set_option maxHeartbeats 1600000 in
theorem l11Find_scan (v : Value) (ps : List Les) (id : Int) (w : World) (h : RowsR 7 lesC w v ps) (K : Nat) (hK : K ≤ ps.length) (hpre : ∀ j (hj : j < ps.length), j < K → ps[j].id ≠ id) (hx : ∀ hj : K < ps.length, ps[K].id = id) (r : Int) (hr1 : K < ps.length → r = K) (hr2 : ¬ K < ps.length → r = -1) :
    Calls Tryd.prog 35 #[v, .int .i64 id] w fun e w' => e = .returned (.int .i64 r) ∧ Below w.heap.size w w' := by
  have hm : ps.length ≤ 9223372036854775807 := by obtain ⟨_, _, _, ⟨m, _⟩, _⟩ := h; exact m
  obtain ⟨a, cp, rfl⟩ := h.form
  have R1 := Lib.hid h.at
  have HP := Lib.hid hpre
  have HX := Lib.hid hx
  have HR1 := Lib.hid hr1
  have HR2 := Lib.hid hr2
  clear h hpre hx hr1 hr2
  go_enter Tryd.func35, Tryd.ntmps35
  go_wp2_with fail
  go_loopw [5] (fun i wr => ∃ n : Nat, n ≤ K ∧ i = .int .i64 n ∧ Below w.heap.size w wr) (fun i _ => ps.length - (intOf i).toNat)
  case atStart => exact ⟨0, Nat.zero_le _, rfl, Below.refl _ _⟩
  case round =>
    obtain ⟨n, hn, rfl, hb⟩ := hrel
    have HB := Lib.hid hb
    by_cases hlt : n < ps.length
    · have z1 : (0 : Int) ≤ (n : Int) := by omega
      have z2 : (n : Int) < (ps.length : Int) := by omega
      obtain ⟨b1, o1, rfl, l1, k1⟩ := R1.out _ hb n hlt
      have p0 : wr.cell? ⟨b1, o1 + n * 7, none⟩ = some (.int .i64 ps[n].id) := k1 0 (by omega)
      clear k1 hb
      by_cases hq : ps[n].id = id
      · have HE : Hid (n = K) := Lib.hid (by
          rcases Nat.lt_or_ge n K with h' | h'
          · exact absurd hq (HP.out n hlt h')
          · omega)
        rw [hq] at p0
        clear hq
        go_wp2_with fail
        go_ret
        exact ⟨ret_int (by rw [HR1.out (by have := HE.out; omega), HE.out]), HB.out⟩
      · have hqb : (ps[n].id == id) = false := by rw [beq_eq_false_iff_ne]; exact hq
        have HE : Hid (n < K) := Lib.hid (by
          rcases Nat.lt_or_ge n K with h' | h'
          · exact h'
          · obtain rfl : n = K := by omega
            exact absurd (HX.out hlt) hq)
        clear hq
        go_wp2_with fail
        go_roundw
        case rel => exact ⟨n + 1, HE.out, by go_num, HB.out⟩
        case measure => simp [intOf]; omega
    · have HE : Hid (¬ K < ps.length) := Lib.hid (by omega)
      clear hb
      go_wp2_with fail
      go_ret
      exact ⟨ret_int (HR2.out HE.out).symm, HB.out⟩
theorem l11Find_yes (v : Value) (ps : List Les) (id : Int) (w : World) (h : RowsR 7 lesC w v ps) (k : Nat) (hk : fndAt ps id k) :
    Calls Tryd.prog 35 #[v, .int .i64 id] w fun e w' => e = .returned (.int .i64 k) ∧ Below w.heap.size w w' :=
  l11Find_scan v ps id w h k (Nat.le_of_lt hk.1) hk.2.2 (fun _ => hk.2.1) k (fun _ => rfl) (fun h => absurd hk.1 h)
theorem l11Find_no (v : Value) (ps : List Les) (id : Int) (w : World) (h : RowsR 7 lesC w v ps) (hn : fndNo ps id) :
    Calls Tryd.prog 35 #[v, .int .i64 id] w fun e w' => e = .returned (.int .i64 (-1)) ∧ Below w.heap.size w w' :=
  l11Find_scan v ps id w h ps.length (Nat.le_refl _) (fun j hj _ => hn j hj) (fun h => absurd h (Nat.lt_irrefl _)) (-1) (fun h => absurd h (Nat.lt_irrefl _)) (fun _ => rfl)
set_option maxRecDepth 100000 in
set_option maxHeartbeats 3200000 in
theorem l11Fits_any (v : Value) (ps : List Les) (i : Nat) (d b : Int) (w : World) (h : RowsR 7 lesC w v ps) (hi : i < ps.length) (r : Bool) (hr : r = true ↔ fitP ps i d b) :
    Calls Tryd.prog 36 #[v, .int .i64 i, .int .i64 d, .int .i64 b] w fun e w' => e = .returned (.bool r) ∧ Below w.heap.size w w' := by
  have hm : ps.length ≤ 9223372036854775807 := by obtain ⟨_, _, _, ⟨m, _⟩, _⟩ := h; exact m
  obtain ⟨a, cp, rfl⟩ := h.form
  have R1 := Lib.hid h.at
  obtain ⟨q0, hq0⟩ : ∃ q, leD ps i = q := ⟨_, rfl⟩
  have HQ0 : Hid (ps[i] = q0) := Lib.hid (by rw [← hq0, leD_at ps i hi])
  have HR : Hid (r = true ↔ okLe (atL q0 d b) ∧ ∀ k, k < ps.length → k ≠ i → clashB (atL q0 d b) (leD ps k) = false) := Lib.hid (by rw [← hq0]; exact hr)
  clear hr h hq0
  obtain ⟨b0, o0, rfl, l0, k0⟩ := R1.out _ (Below.refl _ _) i hi
  rw [HQ0.out] at k0
  have y0 : w.cell? ⟨b0, o0 + i * 7, none⟩ = some (.int .i64 q0.id) := k0 0 (by omega)
  have y1 : w.cell? ⟨b0, o0 + i * 7 + 1, none⟩ = some (.int .i64 q0.cls) := k0 1 (by omega)
  have y2 : w.cell? ⟨b0, o0 + i * 7 + 2, none⟩ = some (.int .i64 q0.tch) := k0 2 (by omega)
  have y3 : w.cell? ⟨b0, o0 + i * 7 + 3, none⟩ = some (.int .i64 q0.room) := k0 3 (by omega)
  have y4 : w.cell? ⟨b0, o0 + i * 7 + 4, none⟩ = some (.int .i64 q0.day) := k0 4 (by omega)
  have y5 : w.cell? ⟨b0, o0 + i * 7 + 5, none⟩ = some (.int .i64 q0.bgn) := k0 5 (by omega)
  have y6 : w.cell? ⟨b0, o0 + i * 7 + 6, none⟩ = some (.int .i64 q0.mins) := k0 6 (by omega)
  have z1 : (0 : Int) ≤ (i : Int) := by omega
  have z2 : (i : Int) < (ps.length : Int) := by omega
  clear k0
  go_enter Tryd.func36, Tryd.ntmps36
  go_wp2_with fail
  have hb1 : Below w.heap.size w (w.alloc (.cells #[.int .i64 q0.id, .int .i64 q0.cls, .int .i64 q0.tch, .int .i64 q0.room, .int .i64 d, .int .i64 b, .int .i64 q0.mins] 31)) := (Below.refl _ _).alloc (Nat.le_refl _) _
  have hk1 : (w.alloc (.cells #[.int .i64 q0.id, .int .i64 q0.cls, .int .i64 q0.tch, .int .i64 q0.room, .int .i64 d, .int .i64 b, .int .i64 q0.mins] 31)).heap[w.heap.size]? = some (.cells #[.int .i64 q0.id, .int .i64 q0.cls, .int .i64 q0.tch, .int .i64 q0.room, .int .i64 d, .int .i64 b, .int .i64 q0.mins] 31 (0, 0)) := alloc_at rfl
  have hz1 : w.heap.size < (w.alloc (.cells #[.int .i64 q0.id, .int .i64 q0.cls, .int .i64 q0.tch, .int .i64 q0.room, .int .i64 d, .int .i64 b, .int .i64 q0.mins] 31)).heap.size := by simp
  generalize w.alloc (.cells #[.int .i64 q0.id, .int .i64 q0.cls, .int .i64 q0.tch, .int .i64 q0.room, .int .i64 d, .int .i64 b, .int .i64 q0.mins] 31) = w1 at hb1 hk1 hz1 ⊢
  have HB1 := Lib.hid hb1
  have HK1 := Lib.hid hk1
  have HZ1 := Lib.hid hz1
  clear hb1 hk1 hz1 y0 y1 y2 y3 y4 y5 y6
  go_loopw [10] (fun kv wr => ∃ n : Nat, n ≤ ps.length ∧ kv = .int .i64 n ∧ (∀ k, k < n → k ≠ i → clashB (atL q0 d b) (leD ps k) = false) ∧ Below w1.heap.size w1 wr) (fun kv _ => ps.length - (intOf kv).toNat)
  case atStart => exact ⟨0, Nat.zero_le _, rfl, fun k h => by omega, Below.refl _ _⟩
  case round =>
    obtain ⟨n, hn, rfl, hpre, hb⟩ := hrel
    have HB := Lib.hid hb
    have HP := Lib.hid hpre
    have HBW : Hid (Below w.heap.size w wr) := Lib.hid (HB1.out.trans (hb.mono HB1.out.size))
    have HK : Hid (wr.heap[w.heap.size]? = some (.cells #[.int .i64 q0.id, .int .i64 q0.cls, .int .i64 q0.tch, .int .i64 q0.room, .int .i64 d, .int .i64 b, .int .i64 q0.mins] 31 (0, 0))) := Lib.hid ((hb.block _ HZ1.out).trans HK1.out)
    clear hb hpre
    by_cases hlt : n < ps.length
    · have y1 : (0 : Int) ≤ (n : Int) := by omega
      have y2 : (n : Int) < (ps.length : Int) := by omega
      obtain ⟨b1, o1, e1, l1, k1⟩ := R1.out _ HBW.out n hlt
      obtain ⟨rfl, rfl⟩ : b0 = b1 ∧ o0 = o1 := by injection e1 with e1; injection e1 with e1 e2; exact ⟨e1, e2⟩
      have HQ : Hid (leD ps n = ps[n]) := Lib.hid (leD_at ps n hlt)
      have p0 : wr.cell? ⟨b0, o0 + n * 7, none⟩ = some (.int .i64 ps[n].id) := k1 0 (by omega)
      have p1 : wr.cell? ⟨b0, o0 + n * 7 + 1, none⟩ = some (.int .i64 ps[n].cls) := k1 1 (by omega)
      have p2 : wr.cell? ⟨b0, o0 + n * 7 + 2, none⟩ = some (.int .i64 ps[n].tch) := k1 2 (by omega)
      have p3 : wr.cell? ⟨b0, o0 + n * 7 + 3, none⟩ = some (.int .i64 ps[n].room) := k1 3 (by omega)
      have p4 : wr.cell? ⟨b0, o0 + n * 7 + 4, none⟩ = some (.int .i64 ps[n].day) := k1 4 (by omega)
      have p5 : wr.cell? ⟨b0, o0 + n * 7 + 5, none⟩ = some (.int .i64 ps[n].bgn) := k1 5 (by omega)
      have p6 : wr.cell? ⟨b0, o0 + n * 7 + 6, none⟩ = some (.int .i64 ps[n].mins) := k1 6 (by omega)
      obtain ⟨x0, x1, x2, x3, x4, x5, x6, -, -, -, -, -, -, -⟩ := cell7 HK.out
      have l2 : b0 < wr.heap.size := Nat.lt_of_lt_of_le l1 HBW.out.size
      have l3 : w.heap.size < wr.heap.size := Nat.lt_of_lt_of_le HZ1.out HB.out.size
      clear k1 e1
      generalize ps[n] = q at p0 p1 p2 p3 p4 p5 p6 HQ
      by_cases hni : n = i
      · have hne : ((n : Int) != (i : Int)) = false := by subst hni; simp
        have HP2 : Hid (∀ k, k < n + 1 → k ≠ i → clashB (atL q0 d b) (leD ps k) = false) := Lib.hid (fun k h hk => by
          rcases Nat.lt_or_ge k n with h' | h'
          · exact HP.out k h' hk
          · exact absurd (show k = i by omega) hk)
        clear hni
        go_wp2_with fail
        refine wp_region_held_drew (S := (fun w' => w'.cell? ⟨w.heap.size, 0, none⟩ = some (.int .i64 q0.id) ∧ w'.cell? ⟨w.heap.size, 1, none⟩ = some (.int .i64 q0.cls) ∧ w'.cell? ⟨w.heap.size, 2, none⟩ = some (.int .i64 q0.tch) ∧ w'.cell? ⟨w.heap.size, 3, none⟩ = some (.int .i64 q0.room) ∧ w'.cell? ⟨w.heap.size, 4, none⟩ = some (.int .i64 d) ∧ w'.cell? ⟨w.heap.size, 5, none⟩ = some (.int .i64 b) ∧ w'.cell? ⟨w.heap.size, 6, none⟩ = some (.int .i64 q0.mins) ∧ w'.cell? ⟨b0, o0 + n * 7, none⟩ = some (.int .i64 q.id) ∧ w'.cell? ⟨b0, o0 + n * 7 + 1, none⟩ = some (.int .i64 q.cls) ∧ w'.cell? ⟨b0, o0 + n * 7 + 2, none⟩ = some (.int .i64 q.tch) ∧ w'.cell? ⟨b0, o0 + n * 7 + 3, none⟩ = some (.int .i64 q.room) ∧ w'.cell? ⟨b0, o0 + n * 7 + 4, none⟩ = some (.int .i64 q.day) ∧ w'.cell? ⟨b0, o0 + n * 7 + 5, none⟩ = some (.int .i64 q.bgn) ∧ w'.cell? ⟨b0, o0 + n * 7 + 6, none⟩ = some (.int .i64 q.mins))) (by kernel_rfl) (⟨x0, x1, x2, x3, x4, x5, x6, p0, p1, p2, p3, p4, p5, p6⟩) (fun hHeld => ?_)
        generalize hwq : wr.drew = wq at hHeld ⊢
        have HBq : Hid (Below w1.heap.size w1 wq) := Lib.hid (by rw [← hwq]; exact HB.out.drew)
        clear hwq
        refine take1 (i := 0) (v := ?v1) (some 25) rfl rfl (by kernel_rfl) (by kernel_rfl) (by kernel_rfl) (fun _ _ _ h => h) (Or.inl ⟨by rfl, ?y1⟩) (by assumption) ?r1
        case y1 => (intro w hSw; (try dsimp only at hSw); go_simp; (first | done | with_reducible rfl))
        try simp only [Act.put, List.setIfInBounds_toArray, List.set_cons_zero, List.set_cons_succ]
        refine take1 (i := 1) (v := ?v2) (some 26) rfl rfl (by kernel_rfl) (by kernel_rfl) (by kernel_rfl) (fun _ _ _ h => h) (Or.inl ⟨by rfl, ?y2⟩) (by assumption) ?r2
        case y2 => (intro w hSw; (try dsimp only at hSw); go_simp; (first | done | with_reducible rfl))
        try simp only [Act.put, List.setIfInBounds_toArray, List.set_cons_zero, List.set_cons_succ]
        refine take1 (i := 2) (v := ?v3) (some 27) rfl rfl (by kernel_rfl) (by kernel_rfl) (by kernel_rfl) (fun _ _ _ h => h) (Or.inl ⟨by rfl, ?y3⟩) (by assumption) ?r3
        case y3 => (intro w hSw; (try dsimp only at hSw); go_simp; (first | done | with_reducible rfl))
        try simp only [Act.put, List.setIfInBounds_toArray, List.set_cons_zero, List.set_cons_succ]
        refine take1 (i := 3) (v := ?v4) (some 28) rfl rfl (by kernel_rfl) (by kernel_rfl) (by kernel_rfl) (fun _ _ _ h => h) (Or.inl ⟨by rfl, ?y4⟩) (by assumption) ?r4
        case y4 => (intro w hSw; (try dsimp only at hSw); go_simp; (first | done | with_reducible rfl))
        try simp only [Act.put, List.setIfInBounds_toArray, List.set_cons_zero, List.set_cons_succ]
        refine take1 (i := 4) (v := undef) (some 29) rfl rfl (by kernel_rfl) (by kernel_rfl) (by kernel_rfl) (fun _ _ _ h => h) (Or.inr ⟨by rfl, rfl⟩) (by assumption) ?_
        try simp only [Act.put, List.setIfInBounds_toArray, List.set_cons_zero, List.set_cons_succ]
        refine take1 (i := 5) (v := undef) (some 30) rfl rfl (by kernel_rfl) (by kernel_rfl) (by kernel_rfl) (fun _ _ _ h => h) (Or.inr ⟨by rfl, rfl⟩) (by assumption) ?_
        try simp only [Act.put, List.setIfInBounds_toArray, List.set_cons_zero, List.set_cons_succ]
        refine take1 (i := 6) (v := undef) (some 31) rfl rfl (by kernel_rfl) (by kernel_rfl) (by kernel_rfl) (fun _ _ _ h => h) (Or.inr ⟨by rfl, rfl⟩) (by assumption) ?_
        try simp only [Act.put, List.setIfInBounds_toArray, List.set_cons_zero, List.set_cons_succ]
        refine take1 (i := 7) (v := undef) (some 32) rfl rfl (by kernel_rfl) (by kernel_rfl) (by kernel_rfl) (fun _ _ _ h => h) (Or.inr ⟨by rfl, rfl⟩) (by assumption) ?_
        try simp only [Act.put, List.setIfInBounds_toArray, List.set_cons_zero, List.set_cons_succ]
        refine take1 (i := 8) (v := undef) (some 33) rfl rfl (by kernel_rfl) (by kernel_rfl) (by kernel_rfl) (fun _ _ _ h => h) (Or.inr ⟨by rfl, rfl⟩) (by assumption) ?_
        try simp only [Act.put, List.setIfInBounds_toArray, List.set_cons_zero, List.set_cons_succ]
        refine take1 (i := 9) (v := undef) (some 34) rfl rfl (by kernel_rfl) (by kernel_rfl) (by kernel_rfl) (fun _ _ _ h => h) (Or.inr ⟨by rfl, rfl⟩) (by assumption) ?_
        try simp only [Act.put, List.setIfInBounds_toArray, List.set_cons_zero, List.set_cons_succ]
        refine take1 (i := 10) (v := ?v11) (some 35) rfl rfl (by kernel_rfl) (by kernel_rfl) (by kernel_rfl) (fun _ _ _ h => h) (Or.inl ⟨by rfl, ?y11⟩) (by assumption) ?r11
        case y11 => (intro w hSw; (try dsimp only at hSw); go_simp; (first | done | with_reducible rfl))
        try simp only [Act.put, List.setIfInBounds_toArray, List.set_cons_zero, List.set_cons_succ]
        refine wpAnyH_done (by kernel_rfl) ?_ _
        go_wp2_with fail
        go_roundw
        case rel => exact ⟨n + 1, by omega, by go_num, HP2.out, HBq.out⟩
        case measure => simp [intOf]; omega
      · have hne : ((n : Int) != (i : Int)) = true := by simp; omega
        have HC := Lib.hid (fun w => specClash_any (atL q0 d b) q w)
        have HNI := Lib.hid hni
        obtain ⟨cb, hcb⟩ : ∃ cb, clashB (atL q0 d b) q = cb := ⟨_, rfl⟩
        rw [hcb] at HC
        change Hid (∀ w : World, Calls Tryd.prog 58 #[.agg #[.int .i64 q0.id, .int .i64 q0.cls, .int .i64 q0.tch, .int .i64 q0.room, .int .i64 d, .int .i64 b, .int .i64 q0.mins], .agg #[.int .i64 q.id, .int .i64 q.cls, .int .i64 q.tch, .int .i64 q.room, .int .i64 q.day, .int .i64 q.bgn, .int .i64 q.mins]] w fun e w' => e = .returned (.bool cb) ∧ Below w.heap.size w w') at HC
        have HCB := Lib.hid hcb
        clear hni hcb
        go_wp2_with fail
        refine wp_region_held_drew (S := (fun w' => w'.cell? ⟨w.heap.size, 0, none⟩ = some (.int .i64 q0.id) ∧ w'.cell? ⟨w.heap.size, 1, none⟩ = some (.int .i64 q0.cls) ∧ w'.cell? ⟨w.heap.size, 2, none⟩ = some (.int .i64 q0.tch) ∧ w'.cell? ⟨w.heap.size, 3, none⟩ = some (.int .i64 q0.room) ∧ w'.cell? ⟨w.heap.size, 4, none⟩ = some (.int .i64 d) ∧ w'.cell? ⟨w.heap.size, 5, none⟩ = some (.int .i64 b) ∧ w'.cell? ⟨w.heap.size, 6, none⟩ = some (.int .i64 q0.mins) ∧ w'.cell? ⟨b0, o0 + n * 7, none⟩ = some (.int .i64 q.id) ∧ w'.cell? ⟨b0, o0 + n * 7 + 1, none⟩ = some (.int .i64 q.cls) ∧ w'.cell? ⟨b0, o0 + n * 7 + 2, none⟩ = some (.int .i64 q.tch) ∧ w'.cell? ⟨b0, o0 + n * 7 + 3, none⟩ = some (.int .i64 q.room) ∧ w'.cell? ⟨b0, o0 + n * 7 + 4, none⟩ = some (.int .i64 q.day) ∧ w'.cell? ⟨b0, o0 + n * 7 + 5, none⟩ = some (.int .i64 q.bgn) ∧ w'.cell? ⟨b0, o0 + n * 7 + 6, none⟩ = some (.int .i64 q.mins))) (by kernel_rfl) (⟨x0, x1, x2, x3, x4, x5, x6, p0, p1, p2, p3, p4, p5, p6⟩) (fun hHeld => ?_)
        refine take1 (i := 0) (v := ?v12) (some 25) rfl rfl (by kernel_rfl) (by kernel_rfl) (by kernel_rfl) (fun _ _ _ h => h) (Or.inl ⟨by rfl, ?y12⟩) (by assumption) ?r12
        case y12 => (intro w hSw; (try dsimp only at hSw); go_simp; (first | done | with_reducible rfl))
        try simp only [Act.put, List.setIfInBounds_toArray, List.set_cons_zero, List.set_cons_succ]
        refine take1 (i := 1) (v := ?v13) (some 26) rfl rfl (by kernel_rfl) (by kernel_rfl) (by kernel_rfl) (fun _ _ _ h => h) (Or.inl ⟨by rfl, ?y13⟩) (by assumption) ?r13
        case y13 => (intro w hSw; (try dsimp only at hSw); go_simp; (first | done | with_reducible rfl))
        try simp only [Act.put, List.setIfInBounds_toArray, List.set_cons_zero, List.set_cons_succ]
        refine take1 (i := 2) (v := ?v14) (some 27) rfl rfl (by kernel_rfl) (by kernel_rfl) (by kernel_rfl) (fun _ _ _ h => h) (Or.inl ⟨by rfl, ?y14⟩) (by assumption) ?r14
        case y14 => (intro w hSw; (try dsimp only at hSw); go_simp; (first | done | with_reducible rfl))
        try simp only [Act.put, List.setIfInBounds_toArray, List.set_cons_zero, List.set_cons_succ]
        refine take1 (i := 3) (v := ?v15) (some 28) rfl rfl (by kernel_rfl) (by kernel_rfl) (by kernel_rfl) (fun _ _ _ h => h) (Or.inl ⟨by rfl, ?y15⟩) (by assumption) ?r15
        case y15 => (intro w hSw; (try dsimp only at hSw); go_simp; (first | done | with_reducible rfl))
        try simp only [Act.put, List.setIfInBounds_toArray, List.set_cons_zero, List.set_cons_succ]
        refine take1 (i := 4) (v := ?v16) (some 29) rfl rfl (by kernel_rfl) (by kernel_rfl) (by kernel_rfl) (fun _ _ _ h => h) (Or.inl ⟨by rfl, ?y16⟩) (by assumption) ?r16
        case y16 => (intro w hSw; (try dsimp only at hSw); go_simp; (first | done | with_reducible rfl))
        try simp only [Act.put, List.setIfInBounds_toArray, List.set_cons_zero, List.set_cons_succ]
        refine take1 (i := 5) (v := ?v17) (some 30) rfl rfl (by kernel_rfl) (by kernel_rfl) (by kernel_rfl) (fun _ _ _ h => h) (Or.inl ⟨by rfl, ?y17⟩) (by assumption) ?r17
        case y17 => (intro w hSw; (try dsimp only at hSw); go_simp; (first | done | with_reducible rfl))
        try simp only [Act.put, List.setIfInBounds_toArray, List.set_cons_zero, List.set_cons_succ]
        refine take1 (i := 6) (v := ?v18) (some 31) rfl rfl (by kernel_rfl) (by kernel_rfl) (by kernel_rfl) (fun _ _ _ h => h) (Or.inl ⟨by rfl, ?y18⟩) (by assumption) ?r18
        case y18 => (intro w hSw; (try dsimp only at hSw); go_simp; (first | done | with_reducible rfl))
        try simp only [Act.put, List.setIfInBounds_toArray, List.set_cons_zero, List.set_cons_succ]
        refine take1 (i := 7) (v := ?v19) (some 32) rfl rfl (by kernel_rfl) (by kernel_rfl) (by kernel_rfl) (fun _ _ _ h => h) (Or.inl ⟨by rfl, ?y19⟩) (by assumption) ?r19
        case y19 => (intro w hSw; (try dsimp only at hSw); go_simp; (first | done | with_reducible rfl))
        try simp only [Act.put, List.setIfInBounds_toArray, List.set_cons_zero, List.set_cons_succ]
        refine take1 (i := 8) (v := ?v20) (some 33) rfl rfl (by kernel_rfl) (by kernel_rfl) (by kernel_rfl) (fun _ _ _ h => h) (Or.inl ⟨by rfl, ?y20⟩) (by assumption) ?r20
        case y20 => (intro w hSw; (try dsimp only at hSw); go_simp; (first | done | with_reducible rfl))
        try simp only [Act.put, List.setIfInBounds_toArray, List.set_cons_zero, List.set_cons_succ]
        refine wpAnyH_ready (rs := [9]) (by kernel_rfl) (by simp) ?_
        refine AllReadyH.cons rfl (fun K hK => ?_) AllReadyH.nil
        go_simp
        go_at_call 58
        refine (HC.out _).mono ?_
        rintro e w2 ⟨rfl, hb'⟩
        have hb2 : Below wr.heap.size wr w2 := Below.trans (Below.drew (Below.refl _ _)) hb'
        clear hb'
        try go_simp
        refine hK.out _ _ (⟨(hb2.cell (p := ⟨w.heap.size, 0, none⟩) l3).trans x0, (hb2.cell (p := ⟨w.heap.size, 1, none⟩) l3).trans x1, (hb2.cell (p := ⟨w.heap.size, 2, none⟩) l3).trans x2, (hb2.cell (p := ⟨w.heap.size, 3, none⟩) l3).trans x3, (hb2.cell (p := ⟨w.heap.size, 4, none⟩) l3).trans x4, (hb2.cell (p := ⟨w.heap.size, 5, none⟩) l3).trans x5, (hb2.cell (p := ⟨w.heap.size, 6, none⟩) l3).trans x6, (hb2.cell (p := ⟨b0, _, none⟩) l2).trans p0, (hb2.cell (p := ⟨b0, _, none⟩) l2).trans p1, (hb2.cell (p := ⟨b0, _, none⟩) l2).trans p2, (hb2.cell (p := ⟨b0, _, none⟩) l2).trans p3, (hb2.cell (p := ⟨b0, _, none⟩) l2).trans p4, (hb2.cell (p := ⟨b0, _, none⟩) l2).trans p5, (hb2.cell (p := ⟨b0, _, none⟩) l2).trans p6⟩) (fun hHeld => ?_)
        clear hK K
        try simp only [Act.put, List.setIfInBounds_toArray, List.set_cons_zero, List.set_cons_succ]
        refine take1 (i := 10) (v := ?v21) (some 35) rfl rfl (by kernel_rfl) (by kernel_rfl) (by kernel_rfl) (fun _ _ _ h => h) (Or.inl ⟨by rfl, ?y21⟩) (by assumption) ?r21
        case y21 => (intro w hSw; (try dsimp only at hSw); go_simp; (first | done | with_reducible rfl))
        try simp only [Act.put, List.setIfInBounds_toArray, List.set_cons_zero, List.set_cons_succ]
        refine wpAnyH_done (by kernel_rfl) ?_ _
        have HB2 : Hid (Below w1.heap.size w1 w2) := Lib.hid (HB.out.trans (hb2.mono HB.out.size))
        clear hHeld x0 p0 x1 p1 x2 p2 x3 p3 x4 p4 x5 p5 x6 p6
        cases cb with
        | true =>
          have HN : Hid (r = false) := Lib.hid (Bool.eq_false_iff.2 fun e => by
            have := (HR.out.1 e).2 n (by omega) HNI.out
            rw [HQ.out, HCB.out] at this
            simp at this)
          go_wp2_with fail
          go_ret
          exact ⟨ret_bool HN.out.symm, HB1.out.trans (HB2.out.mono HB1.out.size)⟩
        | false =>
          have HP2 : Hid (∀ k, k < n + 1 → k ≠ i → clashB (atL q0 d b) (leD ps k) = false) := Lib.hid (fun k h hk => by
            rcases Nat.lt_or_ge k n with h' | h'
            · exact HP.out k h' hk
            · obtain rfl : k = n := by omega
              rw [HQ.out]; exact HCB.out)
          go_wp2_with fail
          go_roundw
          case rel => exact ⟨n + 1, by omega, by go_num, HP2.out, HB2.out⟩
          case measure => simp [intOf]; omega
    · obtain rfl : n = ps.length := by omega
      have HO := Lib.hid (fun w => l11One_any (atL q0 d b) w r ⟨fun e => (HR.out.1 e).1, fun h => HR.out.2 ⟨h, HP.out⟩⟩)
      change Hid (∀ w : World, Calls Tryd.prog 46 #[.agg #[.int .i64 q0.id, .int .i64 q0.cls, .int .i64 q0.tch, .int .i64 q0.room, .int .i64 d, .int .i64 b, .int .i64 q0.mins]] w fun e w' => e = .returned (.bool r) ∧ Below w.heap.size w w') at HO
      obtain ⟨x0, x1, x2, x3, x4, x5, x6, -, -, -, -, -, -, -⟩ := cell7 HK.out
      go_wp2_with fail
      refine (HO.out _).mono ?_
      rintro e w2 ⟨rfl, hb2⟩
      have HB2 := Lib.hid (HBW.out.trans (hb2.mono HBW.out.size))
      clear hb2
      go_wp2_with fail
      go_ret
      exact ⟨rfl, HB2.out⟩
end Go.Proofs.YtblbeoeklkcamaaDoor
