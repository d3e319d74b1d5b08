/- The model's PlainBoard. -/
import Derived.Test.YtbdddpchlmddbaaPnf
namespace Go.Proofs.Ytbdddpchlmddbaa
set_option linter.unusedVariables false
open Go.RowKit

set_option maxRecDepth 100000 in
set_option maxHeartbeats 1600000 in
theorem specPlain_no (v1 v2 : Value) (ls ss : List Int) (w : World) (h : BrdR w v1 v2 ls ss) (hg : ¬ okB ls ss) (qs qt : List Int) (r0 : Int) (r : Bool) (hk : qs = [] ∧ qt = [] ∧ r0 = 0 ∧ r = false) :
    Calls Try.prog 7 #[.agg #[v1, v2]] w fun e w' => (∃ s1 t1, e = .returned (.tuple #[.agg #[s1, t1], .int .i64 r0, .bool r]) ∧ OwB w.heap.size w'.heap.size w' s1 t1 qs qt) ∧ Below w.heap.size w w' := by
  obtain ⟨a1, c1, a2, c2, rfl, rfl⟩ := h.form
  obtain ⟨rfl, rfl, rfl, rfl⟩ := hk
  have H1 := Lib.hid hg
  have HB0 : Hid (Below w.heap.size w w) := Lib.hid (Below.refl _ _)
  have HRf0 := Lib.hid (h)
  clear h hg
  go_enter Try.func7, Try.ntmps7
  go_wp2_with fail
  have hb : Below w.heap.size w (w.alloc (.cells #[.slice a1 ls.length c1, .slice a2 ss.length c2] 26)) := (Below.refl _ _).alloc (Nat.le_refl _) _
  have hk : (w.alloc (.cells #[.slice a1 ls.length c1, .slice a2 ss.length c2] 26)).heap[w.heap.size]? = some (.cells #[.slice a1 ls.length c1, .slice a2 ss.length c2] 26 (0, 0)) := alloc_at rfl
  have hz : (w.alloc (.cells #[.slice a1 ls.length c1, .slice a2 ss.length c2] 26)).heap.size = w.heap.size + 1 := by simp
  generalize w.alloc (.cells #[.slice a1 ls.length c1, .slice a2 ss.length c2] 26) = w1 at hb hk hz ⊢
  have HB1 : Hid (Below w.heap.size w w1) := Lib.hid (HB0.out.trans (hb.mono HB0.out.size))
  have HZ1 : Hid (w.heap.size ≤ w1.heap.size) := Lib.hid hb.size
  have HRf1 := Lib.hid (HRf0.out.below HB1.out (Nat.le_refl _))
  have HKb1 := Lib.hid hk
  replace HZ1 : Hid (w.heap.size < w1.heap.size) := Lib.hid (by omega)
  have HE1 := Lib.hid hz
  clear hb hk hz
  have hb : Below w1.heap.size w1 (w1.alloc (.cells #[.slice none 0 0, .slice none 0 0] 26)) := (Below.refl _ _).alloc (Nat.le_refl _) _
  have hk : (w1.alloc (.cells #[.slice none 0 0, .slice none 0 0] 26)).heap[w.heap.size + 1]? = some (.cells #[.slice none 0 0, .slice none 0 0] 26 (0, 0)) := alloc_at (by have := HE1.out; omega)
  have hz : (w1.alloc (.cells #[.slice none 0 0, .slice none 0 0] 26)).heap.size = w1.heap.size + 1 := by simp
  generalize w1.alloc (.cells #[.slice none 0 0, .slice none 0 0] 26) = w2 at hb hk hz ⊢
  have HB2 : Hid (Below w.heap.size w w2) := Lib.hid (HB1.out.trans (hb.mono HB1.out.size))
  have HZ2 : Hid (w1.heap.size ≤ w2.heap.size) := Lib.hid hb.size
  have HRf2 := Lib.hid (HRf0.out.below HB2.out (Nat.le_refl _))
  have HKb2 := Lib.hid ((hb.block _ (lt_of_block HKb1.out)).trans HKb1.out)
  have HKz2 := Lib.hid hk
  replace HZ2 : Hid (w1.heap.size < w2.heap.size) := Lib.hid (by omega)
  have HE2 := Lib.hid hz
  clear hb hk hz
  have ltb := lt_of_block HKb2.out
  obtain ⟨cb0, cb1, fb0, fb1⟩ := cell2 HKb2.out
  have ltz := lt_of_block HKz2.out
  obtain ⟨cz0, cz1, fz0, fz1⟩ := cell2 HKz2.out
  refine (l5Good_any _ _ ls ss _ HRf2.out false ⟨fun e => by simp at e, fun e => absurd e H1.out⟩).mono ?_
  rintro e w3 ⟨rfl, hb⟩
  have HB3 : Hid (Below w.heap.size w w3) := Lib.hid (HB2.out.trans (hb.mono HB2.out.size))
  have HZ3 : Hid (w2.heap.size ≤ w3.heap.size) := Lib.hid hb.size
  have HRf3 := Lib.hid (HRf0.out.below HB3.out (Nat.le_refl _))
  have HKb3 := Lib.hid ((hb.block _ (lt_of_block HKb2.out)).trans HKb2.out)
  have HKz3 := Lib.hid ((hb.block _ (lt_of_block HKz2.out)).trans HKz2.out)
  clear hb
  clear cb0 cb1 fb0 fb1 ltb cz0 cz1 fz0 fz1 ltz
  have ltb := lt_of_block HKb3.out
  obtain ⟨cb0, cb1, fb0, fb1⟩ := cell2 HKb3.out
  have ltz := lt_of_block HKz3.out
  obtain ⟨cz0, cz1, fz0, fz1⟩ := cell2 HKz3.out
  go_wp2_with fail
  exact bodyPost_ret (v := .tuple #[.agg #[(.slice none 0 0), (.slice none 0 0)], .int .i64 0, .bool false]) (by simp [results, Try.results7, go_sem, cz0, cz1]) rfl ⟨⟨_, _, rfl, OwB.nil' _ _ _⟩, by first | exact HB3.out | exact (HB3.out.setCell (p := ⟨w.heap.size + 1, 0, none⟩) (Nat.le_succ _) _).setCell (p := ⟨w.heap.size + 1, 1, none⟩) (Nat.le_succ _) _⟩
set_option maxRecDepth 100000 in
set_option maxHeartbeats 6400000 in
theorem specPlain_yes (v1 v2 : Value) (ls ss : List Int) (w : World) (h : BrdR w v1 v2 ls ss) (hg : okB ls ss) (qs qt : List Int) (r0 : Int) (r : Bool)
    (hk : (((plF ls ss).ok ∧ plB (plF ls ss).os (plF ls ss).ot) ∧ qs = (plF ls ss).os ∧ qt = (plF ls ss).ot ∧ r0 = (plF ls ss).n ∧ r = true) ∨ (¬ ((plF ls ss).ok ∧ plB (plF ls ss).os (plF ls ss).ot) ∧ qs = [] ∧ qt = [] ∧ r0 = 0 ∧ r = false)) :
    Calls Try.prog 7 #[.agg #[v1, v2]] w fun e w' => (∃ s1 t1, e = .returned (.tuple #[.agg #[s1, t1], .int .i64 r0, .bool r]) ∧ OwB w.heap.size w'.heap.size w' s1 t1 qs qt) ∧ Below w.heap.size w w' := by
  obtain ⟨a1, c1, a2, c2, rfl, rfl⟩ := h.form
  have HG := Lib.hid hg
  have HK := Lib.hid hk
  have hl6 : ls.length ≤ 6 := hg.1.2
  have hlp : 0 < ls.length := hg.1.1
  have hs6 : ss.length = ls.length := hg.2.1
  have HS6 := Lib.hid hs6
  have HB0 : Hid (Below w.heap.size w w) := Lib.hid (Below.refl _ _)
  have HRf0 := Lib.hid (h)
  clear h hg hk hs6
  go_enter Try.func7, Try.ntmps7
  go_wp2_with fail
  have hb : Below w.heap.size w (w.alloc (.cells #[.slice a1 ls.length c1, .slice a2 ss.length c2] 26)) := (Below.refl _ _).alloc (Nat.le_refl _) _
  have hk : (w.alloc (.cells #[.slice a1 ls.length c1, .slice a2 ss.length c2] 26)).heap[w.heap.size]? = some (.cells #[.slice a1 ls.length c1, .slice a2 ss.length c2] 26 (0, 0)) := alloc_at rfl
  have hz : (w.alloc (.cells #[.slice a1 ls.length c1, .slice a2 ss.length c2] 26)).heap.size = w.heap.size + 1 := by simp
  generalize w.alloc (.cells #[.slice a1 ls.length c1, .slice a2 ss.length c2] 26) = w1 at hb hk hz ⊢
  have HB1 : Hid (Below w.heap.size w w1) := Lib.hid (HB0.out.trans (hb.mono HB0.out.size))
  have HZ1 : Hid (w.heap.size ≤ w1.heap.size) := Lib.hid hb.size
  have HRf1 := Lib.hid (HRf0.out.below HB1.out (Nat.le_refl _))
  have HKb1 := Lib.hid hk
  replace HZ1 : Hid (w.heap.size < w1.heap.size) := Lib.hid (by omega)
  have HE1 := Lib.hid hz
  clear hb hk hz
  have hb : Below w1.heap.size w1 (w1.alloc (.cells #[.slice none 0 0, .slice none 0 0] 26)) := (Below.refl _ _).alloc (Nat.le_refl _) _
  have hk : (w1.alloc (.cells #[.slice none 0 0, .slice none 0 0] 26)).heap[w.heap.size + 1]? = some (.cells #[.slice none 0 0, .slice none 0 0] 26 (0, 0)) := alloc_at (by have := HE1.out; omega)
  have hz : (w1.alloc (.cells #[.slice none 0 0, .slice none 0 0] 26)).heap.size = w1.heap.size + 1 := by simp
  generalize w1.alloc (.cells #[.slice none 0 0, .slice none 0 0] 26) = w2 at hb hk hz ⊢
  have HB2 : Hid (Below w.heap.size w w2) := Lib.hid (HB1.out.trans (hb.mono HB1.out.size))
  have HZ2 : Hid (w1.heap.size ≤ w2.heap.size) := Lib.hid hb.size
  have HRf2 := Lib.hid (HRf0.out.below HB2.out (Nat.le_refl _))
  have HKb2 := Lib.hid ((hb.block _ (lt_of_block HKb1.out)).trans HKb1.out)
  have HKz2 := Lib.hid hk
  replace HZ2 : Hid (w1.heap.size < w2.heap.size) := Lib.hid (by omega)
  have HE2 := Lib.hid hz
  clear hb hk hz
  have ltb := lt_of_block HKb2.out
  obtain ⟨cb0, cb1, fb0, fb1⟩ := cell2 HKb2.out
  have ltz := lt_of_block HKz2.out
  obtain ⟨cz0, cz1, fz0, fz1⟩ := cell2 HKz2.out
  have hlz2 : w.heap.size + 1 < w2.heap.size := ltz
  refine (l5Good_any _ _ ls ss _ HRf2.out true ⟨fun _ => HG.out, fun _ => rfl⟩).mono ?_
  rintro e w3 ⟨rfl, hb⟩
  have HB3 : Hid (Below w.heap.size w w3) := Lib.hid (HB2.out.trans (hb.mono HB2.out.size))
  have HZ3 : Hid (w2.heap.size ≤ w3.heap.size) := Lib.hid hb.size
  have HRf3 := Lib.hid (HRf0.out.below HB3.out (Nat.le_refl _))
  have HKb3 := Lib.hid ((hb.block _ (lt_of_block HKb2.out)).trans HKb2.out)
  have HKz3 := Lib.hid ((hb.block _ (lt_of_block HKz2.out)).trans HKz2.out)
  clear hb
  have hlz : w.heap.size + 1 < w3.heap.size := by have := HZ3.out; omega
  clear cb0 cb1 fb0 fb1 ltb cz0 cz1 fz0 fz1 ltz
  have ltb := lt_of_block HKb3.out
  obtain ⟨cb0, cb1, fb0, fb1⟩ := cell2 HKb3.out
  have ltz := lt_of_block HKz3.out
  obtain ⟨cz0, cz1, fz0, fz1⟩ := cell2 HKz3.out
  go_wp2_with fail
  refine (l5Own_any _ _ ls ss _ HRf3.out (by omega) (by have := HS6.out; omega)).mono ?_
  rintro e w4 ⟨⟨s1, s2, rfl, ho⟩, hb⟩
  have HB4 : Hid (Below w.heap.size w w4) := Lib.hid (HB3.out.trans (hb.mono HB3.out.size))
  have HZ4 : Hid (w3.heap.size ≤ w4.heap.size) := Lib.hid hb.size
  have HRf4 := Lib.hid (HRf0.out.below HB4.out (Nat.le_refl _))
  have HKb4 := Lib.hid ((hb.block _ (lt_of_block HKb3.out)).trans HKb3.out)
  have HKz4 := Lib.hid ((hb.block _ (lt_of_block HKz3.out)).trans HKz3.out)
  clear hb
  obtain ⟨p1, k1, p2, k2, rfl, rfl⟩ := ho.form
  have h34 : w3.heap.size ≤ w4.heap.size := by have := HZ4.out; omega
  have HOv4 := Lib.hid (ho)
  clear ho
  clear cb0 cb1 fb0 fb1 ltb cz0 cz1 fz0 fz1 ltz
  have ltb := lt_of_block HKb4.out
  obtain ⟨cb0, cb1, fb0, fb1⟩ := cell2 HKb4.out
  have ltz := lt_of_block HKz4.out
  obtain ⟨cz0, cz1, fz0, fz1⟩ := cell2 HKz4.out
  go_wp2_with fail
  have hb : Below w4.heap.size w4 (w4.alloc (.cells #[.slice p1 ls.length k1, .slice p2 ss.length k2] 26)) := (Below.refl _ _).alloc (Nat.le_refl _) _
  have hk : (w4.alloc (.cells #[.slice p1 ls.length k1, .slice p2 ss.length k2] 26)).heap[w4.heap.size]? = some (.cells #[.slice p1 ls.length k1, .slice p2 ss.length k2] 26 (0, 0)) := alloc_at rfl
  have hz : (w4.alloc (.cells #[.slice p1 ls.length k1, .slice p2 ss.length k2] 26)).heap.size = w4.heap.size + 1 := by simp
  generalize w4.alloc (.cells #[.slice p1 ls.length k1, .slice p2 ss.length k2] 26) = w5 at hb hk hz ⊢
  have HB5 : Hid (Below w.heap.size w w5) := Lib.hid (HB4.out.trans (hb.mono HB4.out.size))
  have HZ5 : Hid (w4.heap.size ≤ w5.heap.size) := Lib.hid hb.size
  have HRf5 := Lib.hid (HRf0.out.below HB5.out (Nat.le_refl _))
  have HKb5 := Lib.hid ((hb.block _ (lt_of_block HKb4.out)).trans HKb4.out)
  have HKz5 := Lib.hid ((hb.block _ (lt_of_block HKz4.out)).trans HKz4.out)
  have HOv5 := Lib.hid (HOv4.out.next hb)
  have HKo5 := Lib.hid hk
  replace HZ5 : Hid (w4.heap.size < w5.heap.size) := Lib.hid (by omega)
  have HE5 := Lib.hid hz
  clear hb hk hz
  clear cb0 cb1 fb0 fb1 ltb cz0 cz1 fz0 fz1 ltz
  have ltb := lt_of_block HKb5.out
  obtain ⟨cb0, cb1, fb0, fb1⟩ := cell2 HKb5.out
  have ltz := lt_of_block HKz5.out
  obtain ⟨cz0, cz1, fz0, fz1⟩ := cell2 HKz5.out
  have lto := lt_of_block HKo5.out
  obtain ⟨co0, co1, fo0, fo1⟩ := cell2 HKo5.out
  go_wp2_with fail
  go_loopw [6, 7, 8] (fun nv ov iv wr => ∃ (k : Nat) (os ot : List Int) (n : Int) (ob : Bool) (s1 s2 : Value) (lo hi : Nat), k < ls.length ∧ iv = .int .i64 k ∧ nv = .int .i64 n ∧ ov = .bool ob ∧ Hid (os = (plR ls ss k).os ∧ ot = (plR ls ss k).ot ∧ n = (plR ls ss k).n ∧ (ob = true ↔ (plR ls ss k).ok)) ∧ (os.length = ls.length ∧ ot.length = ls.length) ∧ Hid (bdN (Mk k) os ∧ bdN (Mk k) ot) ∧ (0 ≤ n ∧ n ≤ 10000 * (k : Int)) ∧ wr.heap[w.heap.size]? = some (.cells #[.slice a1 ls.length c1, .slice a2 ss.length c2] 26 (0, 0)) ∧ wr.heap[w.heap.size + 1]? = some (.cells #[.slice none 0 0, .slice none 0 0] 26 (0, 0)) ∧ wr.heap[w4.heap.size]? = some (.cells #[s1, s2] 26 (0, 0)) ∧ OwB lo hi wr s1 s2 os ot ∧ (w3.heap.size ≤ lo ∧ lo ≤ hi ∧ hi ≤ wr.heap.size) ∧ Below w.heap.size w wr) (fun _ _ i _ => ls.length - (intOf i).toNat)
  case atStart => exact ⟨0, ls, ss, 0, true, _, _, _, _, hlp, rfl, rfl, rfl, Lib.hid ⟨rfl, rfl, rfl, by simp [plR]⟩, ⟨rfl, HS6.out⟩, Lib.hid (by have := HG.out.bdN; simpa [Mk] using this), by omega, HKb5.out, HKz5.out, HKo5.out, HOv5.out, ⟨Nat.le_refl _, h34, by have := HZ1.out; have := HZ2.out; have := HZ3.out; have := HZ4.out; have := HZ5.out;  omega⟩, HB5.out⟩
  case round =>
    obtain ⟨k, os, ot, n, ob, s1, s2, lo, hi, hkl, rfl, rfl, rfl, HST, ⟨hlo1, hlo2⟩, HBD, ⟨hn0, hn1⟩, hkb, hkz, hko, hov, ⟨hx1, hx2, hx3⟩, hb⟩ := hrel
    obtain ⟨g1, k1, g2, k2, rfl, rfl, _, _⟩ := hov.some' (by omega) (by omega)
    have hk1 : k < os.length := by omega
    have hk2 : k < ot.length := by omega
    obtain ⟨hM0, hM1⟩ := Mk_le k (by omega)
    obtain ⟨x, hx⟩ : ∃ x, os[k] = x := ⟨_, rfl⟩
    have hxb := HBD.out.1 k hk1
    rw [hx] at hxb
    obtain ⟨hxb0, hxb1⟩ := hxb
    obtain ⟨t1, ht1⟩ : ∃ t1, IntKind.i64.wrap (x.tdiv 5) = t1 := ⟨_, rfl⟩
    have HT1 : Hid (t1 = x / 5) := Lib.hid (by rw [← ht1, Int.tdiv_eq_ediv_of_nonneg hxb0, IntKind.wrap_i64]; omega)
    have ht1b : 0 ≤ t1 ∧ t1 ≤ 960 := by have := HT1.out; omega
    have hA := mvA_bd hM0 HBD.out.1 HBD.out.2 k hk1 hk2 t1 (by rw [hx]; exact HT1.out)
    have hMA := fun w' hq => l5Move_any (.slice (some ⟨g1, 0, none⟩) os.length k1) (.slice (some ⟨g2, 0, none⟩) ot.length k2) os ot w' hq (by omega) (by omega) true k t1 (by simp; omega) (by omega) (HBD.out.1.bd (by omega)) (HBD.out.2.bd (by omega))
    have hla1 := mvL_len true k t1 os
    have hla2 := mvS_len true k t1 ot
    have HPA : Hid (mvL true k t1 os = (plA k (plR ls ss k)).os ∧ mvS true k t1 ot = (plA k (plR ls ss k)).ot ∧ n + t1 = (plA k (plR ls ss k)).n ∧ ((ob = true ∧ okB (mvL true k t1 os) (mvS true k t1 ot)) ↔ (plA k (plR ls ss k)).ok)) := Lib.hid (by
      obtain ⟨e1, e2, e3, e4⟩ := HST.out
      have e5 : t1 = (plR ls ss k).os.getD k 0 / 5 := by rw [← e1, getDi_at os k hk1, hx]; exact HT1.out
      unfold plA
      rw [← e5, ← e1, ← e2, ← e3]
      exact ⟨rfl, rfl, rfl, by rw [e4]⟩)
    have HD := Lib.hid (hov.at1 k hk1 hx)
    generalize mvL true k t1 os = os1 at hA hMA hla1 HPA
    generalize mvS true k t1 ot = ot1 at hA hMA hla2 HPA
    have HA := Lib.hid hA
    have HMA := Lib.hid hMA
    have z0 : (0 : Int) ≤ (k : Int) := by omega
    have z1 : (k : Int) < (os.length : Int) := by omega
    have z2 : (k : Int) < (ls.length : Int) := by omega
    have wn1 : IntKind.i64.wrap (n + t1) = n + t1 := by rw [IntKind.wrap_i64]; omega
    have wk1 : IntKind.i64.wrap ((k : Int) + 1) = (k : Int) + 1 := by rw [IntKind.wrap_i64]; omega
    have hl1' : 0 < os1.length := by omega
    have hl2' : 0 < ot1.length := by omega
    have HLA : Hid (os1.length ≤ 6 ∧ ot1.length = os1.length) := Lib.hid (by omega)
    have HLO := Lib.hid hlo1
    have HLP := Lib.hid hlo2
    have HL1 := Lib.hid hla1
    have HL2 := Lib.hid hla2
    clear hlo1 hlo2 hla1 hla2
    have HB20 : Hid (Below w.heap.size w wr) := Lib.hid hb
    have HRf20 := Lib.hid (HRf0.out.below HB20.out (Nat.le_refl _))
    have HKb20 := Lib.hid (hkb)
    have HKz20 := Lib.hid (hkz)
    have HKo20 := Lib.hid (hko)
    have HOv20 := Lib.hid (hov)
    clear hkb hkz hko hov hb hx hA hMA
    have hd := HD.out
    have ltb := lt_of_block HKb20.out
    obtain ⟨cb0, cb1, fb0, fb1⟩ := cell2 HKb20.out
    have ltz := lt_of_block HKz20.out
    obtain ⟨cz0, cz1, fz0, fz1⟩ := cell2 HKz20.out
    have lto := lt_of_block HKo20.out
    obtain ⟨co0, co1, fo0, fo1⟩ := cell2 HKo20.out
    go_wp2_with fail
    refine (HMA.out _ HOv20.out.reads).mono ?_
    rintro e w21 ⟨⟨s3, s4, rfl, ho⟩, hb⟩
    have HB21 : Hid (Below w.heap.size w w21) := Lib.hid (HB20.out.trans (hb.mono HB20.out.size))
    have HZ21 : Hid (wr.heap.size ≤ w21.heap.size) := Lib.hid hb.size
    have HRf21 := Lib.hid (HRf0.out.below HB21.out (Nat.le_refl _))
    have HKb21 := Lib.hid ((hb.block _ (lt_of_block HKb20.out)).trans HKb20.out)
    have HKz21 := Lib.hid ((hb.block _ (lt_of_block HKz20.out)).trans HKz20.out)
    have HKo21 := Lib.hid ((hb.block _ (lt_of_block HKo20.out)).trans HKo20.out)
    have HOv21 := Lib.hid (HOv20.out.next hb)
    clear hb
    clear hd ht1
    obtain ⟨g3, k3, g4, k4, rfl, rfl, _, _⟩ := ho.some' hl1' hl2'
    have HOv21 := Lib.hid (ho)
    clear ho
    have hoc : w4.heap.size < wr.heap.size := lto
    have hzr : w.heap.size + 1 < wr.heap.size := by omega
    have hwr : w.heap.size ≤ wr.heap.size := by omega
    by_cases hbk : k + 1 = ls.length
    · have hbq : (((k : Int) + 1) == (ls.length : Int)) = true := by simp; omega
      have HF : Hid (plF ls ss = plA k (plR ls ss k)) := Lib.hid (by unfold plF; rw [show ls.length - 1 = k by omega])
      have HK2 : Hid ((((ob = true ∧ okB os1 ot1) ∧ plB os1 ot1) ∧ qs = os1 ∧ qt = ot1 ∧ r0 = n + t1 ∧ r = true) ∨ (¬ ((ob = true ∧ okB os1 ot1) ∧ plB os1 ot1) ∧ qs = [] ∧ qt = [] ∧ r0 = 0 ∧ r = false)) := Lib.hid (by
        obtain ⟨e1, e2, e3, e4⟩ := HPA.out
        rw [e4, e1, e2, e3, ← HF.out]; exact HK.out)
      clear hbk
      cases ob with
      | true =>
        obtain ⟨oqg3, oqg4, ofg3, ofg4⟩ := cell2 HKo21.out
        have hkq := box2_set HKo21.out (.slice (some ⟨g3, 0, none⟩) os1.length k3) (.slice (some ⟨g4, 0, none⟩) ot1.length k4)
        have hm : Btw w4.heap.size (w4.heap.size + 1) w21 ((w21.setCell ⟨w4.heap.size, 0, none⟩ (.slice (some ⟨g3, 0, none⟩) os1.length k3)).setCell ⟨w4.heap.size, 1, none⟩ (.slice (some ⟨g4, 0, none⟩) ot1.length k4)) := ((Btw.refl w4.heap.size (w4.heap.size + 1) w21).setCell (p := ⟨w4.heap.size, 0, none⟩) (Nat.le_refl _) (Nat.lt_succ_self _) _).setCell (p := ⟨w4.heap.size, 1, none⟩) (Nat.le_refl _) (Nat.lt_succ_self _) _
        obtain ⟨w22, hwg3⟩ : ∃ x, (w21.setCell ⟨w4.heap.size, 0, none⟩ (.slice (some ⟨g3, 0, none⟩) os1.length k3)).setCell ⟨w4.heap.size, 1, none⟩ (.slice (some ⟨g4, 0, none⟩) ot1.length k4) = x := ⟨_, rfl⟩
        rw [hwg3] at hkq hm
        have HZ22 : Hid (w21.heap.size ≤ w22.heap.size) := Lib.hid hm.size
        have HB22 : Hid (Below w.heap.size w w22) := Lib.hid (HB21.out.trans (hm.below.mono (by have := HZ21.out; have := HB20.out.size; omega)))
        have HRf22 := Lib.hid (HRf0.out.below HB22.out (Nat.le_refl _))
        have HKb22 := Lib.hid ((hm.block _ (by have := lt_of_block HKb21.out; have := HZ21.out; omega)).trans HKb21.out)
        have HKz22 := Lib.hid ((hm.block _ (by have := lt_of_block HKz21.out; have := HZ21.out; omega)).trans HKz21.out)
        have HOv22 := Lib.hid (HOv21.out.btw hm (by have := HZ21.out; omega))
        clear hm
        have HKo22 := Lib.hid (hkq)
        clear hkq
        clear cb0 cb1 fb0 fb1 ltb cz0 cz1 fz0 fz1 ltz co0 co1 fo0 fo1 lto
        have ltb := lt_of_block HKb22.out
        obtain ⟨cb0, cb1, fb0, fb1⟩ := cell2 HKb22.out
        have ltz := lt_of_block HKz22.out
        obtain ⟨cz0, cz1, fz0, fz1⟩ := cell2 HKz22.out
        have lto := lt_of_block HKo22.out
        obtain ⟨co0, co1, fo0, fo1⟩ := cell2 HKo22.out
        go_wp2_with fail
        clear oqg3 oqg4 ofg3 ofg4 hwg3
        by_cases hok : okB os1 ot1
        · have HOK := Lib.hid hok
          refine (l5Good_any _ _ os1 ot1 _ HOv22.out.reads true ⟨fun _ => HOK.out, fun _ => rfl⟩).mono ?_
          rintro e w23 ⟨rfl, hb⟩
          have HB23 : Hid (Below w.heap.size w w23) := Lib.hid (HB22.out.trans (hb.mono HB22.out.size))
          have HZ23 : Hid (w22.heap.size ≤ w23.heap.size) := Lib.hid hb.size
          have HRf23 := Lib.hid (HRf0.out.below HB23.out (Nat.le_refl _))
          have HKb23 := Lib.hid ((hb.block _ (lt_of_block HKb22.out)).trans HKb22.out)
          have HKz23 := Lib.hid ((hb.block _ (lt_of_block HKz22.out)).trans HKz22.out)
          have HOv23 := Lib.hid (HOv22.out.next hb)
          have HKo23 := Lib.hid ((hb.block _ (lt_of_block HKo22.out)).trans HKo22.out)
          clear hb
          clear hok
          clear cb0 cb1 fb0 fb1 ltb cz0 cz1 fz0 fz1 ltz co0 co1 fo0 fo1 lto
          have ltb := lt_of_block HKb23.out
          obtain ⟨cb0, cb1, fb0, fb1⟩ := cell2 HKb23.out
          have ltz := lt_of_block HKz23.out
          obtain ⟨cz0, cz1, fz0, fz1⟩ := cell2 HKz23.out
          have lto := lt_of_block HKo23.out
          obtain ⟨co0, co1, fo0, fo1⟩ := cell2 HKo23.out
          go_wp2_with fail
          by_cases hpl : plB os1 ot1
          · have HPL := Lib.hid hpl
            have HE : Hid (qs = os1 ∧ qt = ot1 ∧ r0 = n + t1 ∧ r = true) := Lib.hid (by
              rcases HK2.out with ⟨_, h2⟩ | ⟨h1, _⟩
              · exact h2
              · exact absurd ⟨⟨by first | rfl | trivial, HOK.out⟩, HPL.out⟩ h1)
            obtain ⟨e1, e2, e3, e4⟩ := HE.out
            subst e1 e2 e3 e4
            clear hpl
            refine (l5Plain_any _ _ qs qt _ HOv23.out.reads HLA.out.1 HLA.out.2 true ⟨fun _ => HPL.out, fun _ => rfl⟩).mono ?_
            rintro e w24 ⟨rfl, hb⟩
            have HB24 : Hid (Below w.heap.size w w24) := Lib.hid (HB23.out.trans (hb.mono HB23.out.size))
            have HZ24 : Hid (w23.heap.size ≤ w24.heap.size) := Lib.hid hb.size
            have HRf24 := Lib.hid (HRf0.out.below HB24.out (Nat.le_refl _))
            have HKb24 := Lib.hid ((hb.block _ (lt_of_block HKb23.out)).trans HKb23.out)
            have HKz24 := Lib.hid ((hb.block _ (lt_of_block HKz23.out)).trans HKz23.out)
            have HOv24 := Lib.hid (HOv23.out.next hb)
            have HKo24 := Lib.hid ((hb.block _ (lt_of_block HKo23.out)).trans HKo23.out)
            clear hb
            clear cb0 cb1 fb0 fb1 ltb cz0 cz1 fz0 fz1 ltz co0 co1 fo0 fo1 lto
            have ltb := lt_of_block HKb24.out
            obtain ⟨cb0, cb1, fb0, fb1⟩ := cell2 HKb24.out
            have ltz := lt_of_block HKz24.out
            obtain ⟨cz0, cz1, fz0, fz1⟩ := cell2 HKz24.out
            have lto := lt_of_block HKo24.out
            obtain ⟨co0, co1, fo0, fo1⟩ := cell2 HKo24.out
            go_wp2_with fail
            exact bodyPost_ret (v := .tuple #[.agg #[.slice (some ⟨g3, 0, none⟩) qs.length k3, .slice (some ⟨g4, 0, none⟩) qt.length k4], .int .i64 (n + t1), .bool true]) (by simp [results, Try.results7, go_sem, cz0, cz1]) rfl ⟨⟨_, _, rfl, ((HOv24.out.set (a := ⟨w.heap.size + 1, 0, none⟩) hzr _).set (a := ⟨w.heap.size + 1, 1, none⟩) hzr _).mono (by omega) (by simp [World.setCell]; have := HZ21.out; have := HZ22.out; have := HZ23.out; have := HZ24.out;  omega)⟩, by first | exact HB24.out | exact (HB24.out.setCell (p := ⟨w.heap.size + 1, 0, none⟩) (Nat.le_succ _) _).setCell (p := ⟨w.heap.size + 1, 1, none⟩) (Nat.le_succ _) _⟩
          · have HPL := Lib.hid hpl
            have HE : Hid (qs = [] ∧ qt = [] ∧ r0 = 0 ∧ r = false) := Lib.hid (by
              rcases HK2.out with ⟨h1, _⟩ | ⟨_, h2⟩
              · exact absurd h1.2 HPL.out
              · exact h2)
            obtain ⟨e1, e2, e3, e4⟩ := HE.out
            subst e1 e2 e3 e4
            clear hpl
            refine (l5Plain_any _ _ os1 ot1 _ HOv23.out.reads HLA.out.1 HLA.out.2 false ⟨fun e => by simp at e, fun e => absurd e HPL.out⟩).mono ?_
            rintro e w24 ⟨rfl, hb⟩
            have HB24 : Hid (Below w.heap.size w w24) := Lib.hid (HB23.out.trans (hb.mono HB23.out.size))
            have HZ24 : Hid (w23.heap.size ≤ w24.heap.size) := Lib.hid hb.size
            have HRf24 := Lib.hid (HRf0.out.below HB24.out (Nat.le_refl _))
            have HKb24 := Lib.hid ((hb.block _ (lt_of_block HKb23.out)).trans HKb23.out)
            have HKz24 := Lib.hid ((hb.block _ (lt_of_block HKz23.out)).trans HKz23.out)
            have HOv24 := Lib.hid (HOv23.out.next hb)
            have HKo24 := Lib.hid ((hb.block _ (lt_of_block HKo23.out)).trans HKo23.out)
            clear hb
            clear cb0 cb1 fb0 fb1 ltb cz0 cz1 fz0 fz1 ltz co0 co1 fo0 fo1 lto
            have ltb := lt_of_block HKb24.out
            obtain ⟨cb0, cb1, fb0, fb1⟩ := cell2 HKb24.out
            have ltz := lt_of_block HKz24.out
            obtain ⟨cz0, cz1, fz0, fz1⟩ := cell2 HKz24.out
            have lto := lt_of_block HKo24.out
            obtain ⟨co0, co1, fo0, fo1⟩ := cell2 HKo24.out
            go_wp2_with fail
            exact bodyPost_ret (v := .tuple #[.agg #[(.slice none 0 0), (.slice none 0 0)], .int .i64 0, .bool false]) (by simp [results, Try.results7, go_sem, cz0, cz1]) rfl ⟨⟨_, _, rfl, OwB.nil' _ _ _⟩, by first | exact HB24.out | exact (HB24.out.setCell (p := ⟨w.heap.size + 1, 0, none⟩) (Nat.le_succ _) _).setCell (p := ⟨w.heap.size + 1, 1, none⟩) (Nat.le_succ _) _⟩
        · have HOK := Lib.hid hok
          clear hok
          have HE : Hid (qs = [] ∧ qt = [] ∧ r0 = 0 ∧ r = false) := Lib.hid (by
            rcases HK2.out with ⟨h1, _⟩ | ⟨_, h2⟩
            · exact absurd h1.1.2 HOK.out
            · exact h2)
          obtain ⟨e1, e2, e3, e4⟩ := HE.out
          subst e1 e2 e3 e4
          refine (l5Good_any _ _ os1 ot1 _ HOv22.out.reads false ⟨fun e => by simp at e, fun e => absurd e HOK.out⟩).mono ?_
          rintro e w23 ⟨rfl, hb⟩
          have HB23 : Hid (Below w.heap.size w w23) := Lib.hid (HB22.out.trans (hb.mono HB22.out.size))
          have HZ23 : Hid (w22.heap.size ≤ w23.heap.size) := Lib.hid hb.size
          have HRf23 := Lib.hid (HRf0.out.below HB23.out (Nat.le_refl _))
          have HKb23 := Lib.hid ((hb.block _ (lt_of_block HKb22.out)).trans HKb22.out)
          have HKz23 := Lib.hid ((hb.block _ (lt_of_block HKz22.out)).trans HKz22.out)
          have HOv23 := Lib.hid (HOv22.out.next hb)
          have HKo23 := Lib.hid ((hb.block _ (lt_of_block HKo22.out)).trans HKo22.out)
          clear hb
          clear cb0 cb1 fb0 fb1 ltb cz0 cz1 fz0 fz1 ltz co0 co1 fo0 fo1 lto
          have ltb := lt_of_block HKb23.out
          obtain ⟨cb0, cb1, fb0, fb1⟩ := cell2 HKb23.out
          have ltz := lt_of_block HKz23.out
          obtain ⟨cz0, cz1, fz0, fz1⟩ := cell2 HKz23.out
          have lto := lt_of_block HKo23.out
          obtain ⟨co0, co1, fo0, fo1⟩ := cell2 HKo23.out
          go_wp2_with fail
          exact bodyPost_ret (v := .tuple #[.agg #[(.slice none 0 0), (.slice none 0 0)], .int .i64 0, .bool false]) (by simp [results, Try.results7, go_sem, cz0, cz1]) rfl ⟨⟨_, _, rfl, OwB.nil' _ _ _⟩, by first | exact HB23.out | exact (HB23.out.setCell (p := ⟨w.heap.size + 1, 0, none⟩) (Nat.le_succ _) _).setCell (p := ⟨w.heap.size + 1, 1, none⟩) (Nat.le_succ _) _⟩
      | false =>
        have HE : Hid (qs = [] ∧ qt = [] ∧ r0 = 0 ∧ r = false) := Lib.hid (by
          rcases HK2.out with ⟨h1, _⟩ | ⟨_, h2⟩
          · exact absurd h1.1.1 (by simp)
          · exact h2)
        obtain ⟨e1, e2, e3, e4⟩ := HE.out
        subst e1 e2 e3 e4
        obtain ⟨oqg3, oqg4, ofg3, ofg4⟩ := cell2 HKo21.out
        have hkq := box2_set HKo21.out (.slice (some ⟨g3, 0, none⟩) os1.length k3) (.slice (some ⟨g4, 0, none⟩) ot1.length k4)
        have hm : Btw w4.heap.size (w4.heap.size + 1) w21 ((w21.setCell ⟨w4.heap.size, 0, none⟩ (.slice (some ⟨g3, 0, none⟩) os1.length k3)).setCell ⟨w4.heap.size, 1, none⟩ (.slice (some ⟨g4, 0, none⟩) ot1.length k4)) := ((Btw.refl w4.heap.size (w4.heap.size + 1) w21).setCell (p := ⟨w4.heap.size, 0, none⟩) (Nat.le_refl _) (Nat.lt_succ_self _) _).setCell (p := ⟨w4.heap.size, 1, none⟩) (Nat.le_refl _) (Nat.lt_succ_self _) _
        obtain ⟨w22, hwg3⟩ : ∃ x, (w21.setCell ⟨w4.heap.size, 0, none⟩ (.slice (some ⟨g3, 0, none⟩) os1.length k3)).setCell ⟨w4.heap.size, 1, none⟩ (.slice (some ⟨g4, 0, none⟩) ot1.length k4) = x := ⟨_, rfl⟩
        rw [hwg3] at hkq hm
        have HZ22 : Hid (w21.heap.size ≤ w22.heap.size) := Lib.hid hm.size
        have HB22 : Hid (Below w.heap.size w w22) := Lib.hid (HB21.out.trans (hm.below.mono (by have := HZ21.out; have := HB20.out.size; omega)))
        have HRf22 := Lib.hid (HRf0.out.below HB22.out (Nat.le_refl _))
        have HKb22 := Lib.hid ((hm.block _ (by have := lt_of_block HKb21.out; have := HZ21.out; omega)).trans HKb21.out)
        have HKz22 := Lib.hid ((hm.block _ (by have := lt_of_block HKz21.out; have := HZ21.out; omega)).trans HKz21.out)
        have HOv22 := Lib.hid (HOv21.out.btw hm (by have := HZ21.out; omega))
        clear hm
        have HKo22 := Lib.hid (hkq)
        clear hkq
        clear cb0 cb1 fb0 fb1 ltb cz0 cz1 fz0 fz1 ltz co0 co1 fo0 fo1 lto
        have ltb := lt_of_block HKb22.out
        obtain ⟨cb0, cb1, fb0, fb1⟩ := cell2 HKb22.out
        have ltz := lt_of_block HKz22.out
        obtain ⟨cz0, cz1, fz0, fz1⟩ := cell2 HKz22.out
        have lto := lt_of_block HKo22.out
        obtain ⟨co0, co1, fo0, fo1⟩ := cell2 HKo22.out
        go_wp2_with fail
        exact bodyPost_ret (v := .tuple #[.agg #[(.slice none 0 0), (.slice none 0 0)], .int .i64 0, .bool false]) (by simp [results, Try.results7, go_sem, cz0, cz1]) rfl ⟨⟨_, _, rfl, OwB.nil' _ _ _⟩, by first | exact HB22.out | exact (HB22.out.setCell (p := ⟨w.heap.size + 1, 0, none⟩) (Nat.le_succ _) _).setCell (p := ⟨w.heap.size + 1, 1, none⟩) (Nat.le_succ _) _⟩
    · have hbq : (((k : Int) + 1) == (ls.length : Int)) = false := by simp; omega
      have hq1 := HL1.out
      have hq2 := HL2.out
      have hq3 := HLO.out
      have hq4 := HLP.out
      have hkp : k + 1 < ls.length := by omega
      obtain ⟨hM2, hM3⟩ := Mk_le (k + 1) (by omega)
      have hk3 : k < ot1.length := by omega
      have hk4 : k + 1 < os1.length := by omega
      obtain ⟨x2, hx2⟩ : ∃ x2, ot1[k] = x2 := ⟨_, rfl⟩
      have hyb := HA.out.2 k hk3
      rw [hx2] at hyb
      obtain ⟨hyb0, hyb1⟩ := hyb
      obtain ⟨t2, ht2⟩ : ∃ t2, IntKind.i64.wrap (x2.tdiv 2) = t2 := ⟨_, rfl⟩
      have HT2 : Hid (t2 = x2 / 2) := Lib.hid (by rw [← ht2, Int.tdiv_eq_ediv_of_nonneg hyb0, IntKind.wrap_i64]; omega)
      have ht2b : 0 ≤ t2 ∧ t2 ≤ 960 := by have := HT2.out; omega
      have hC := mvC_bd hM0 HA.out.1 HA.out.2 k hk4 hk3 t2 (by rw [hx2]; exact HT2.out)
      have hMC := fun w' hq => l5Move_any (.slice (some ⟨g3, 0, none⟩) os1.length k3) (.slice (some ⟨g4, 0, none⟩) ot1.length k4) os1 ot1 w' hq (by omega) (by omega) false k t2 (by simp; omega) (by omega) (HA.out.1.bd (by omega)) (HA.out.2.bd (by omega))
      have hlc1 := mvL_len false k t2 os1
      have hlc2 := mvS_len false k t2 ot1
      have HPC : Hid (mvL false k t2 os1 = (plR ls ss (k + 1)).os ∧ mvS false k t2 ot1 = (plR ls ss (k + 1)).ot ∧ n + t1 + t2 = (plR ls ss (k + 1)).n ∧ (((ob = true ∧ okB os1 ot1) ∧ okB (mvL false k t2 os1) (mvS false k t2 ot1)) ↔ (plR ls ss (k + 1)).ok)) := Lib.hid (by
        obtain ⟨e1, e2, e3, e4⟩ := HPA.out
        have e5 : t2 = (plA k (plR ls ss k)).ot.getD k 0 / 2 := by rw [← e2, getDi_at ot1 k hk3, hx2]; exact HT2.out
        show _ = (plC k (plA k (plR ls ss k))).os ∧ _ = (plC k (plA k (plR ls ss k))).ot ∧ _ = (plC k (plA k (plR ls ss k))).n ∧ (_ ↔ (plC k (plA k (plR ls ss k))).ok)
        unfold plC
        rw [← e5, ← e1, ← e2, ← e3]
        exact ⟨rfl, rfl, rfl, by rw [e4]⟩)
      have HX2 := Lib.hid hx2
      generalize mvL false k t2 os1 = os2 at hC hMC hlc1 HPC
      generalize mvS false k t2 ot1 = ot2 at hC hMC hlc2 HPC
      have HBC : Hid (bdN (Mk (k + 1)) os2 ∧ bdN (Mk (k + 1)) ot2) := Lib.hid (by rw [Mk_next]; exact hC)
      have HMC := Lib.hid hMC
      have wn2 : IntKind.i64.wrap (n + t1 + t2) = n + t1 + t2 := by rw [IntKind.wrap_i64]; omega
      have zz1 : (k : Int) < (ot1.length : Int) := by omega
      have HLC : Hid (os2.length = ls.length ∧ ot2.length = ls.length) := Lib.hid (by have := HL1.out; have := HL2.out; have := HLO.out; have := HLP.out; omega)
      have HP3 : Hid (0 < os2.length ∧ 0 < ot2.length) := Lib.hid (by have := HLC.out; omega)
      clear hC hMC hlc1 hlc2 hx2 hbk hq1 hq2 hq3 hq4
      cases ob with
      | true =>
        obtain ⟨oqg3, oqg4, ofg3, ofg4⟩ := cell2 HKo21.out
        have hkq := box2_set HKo21.out (.slice (some ⟨g3, 0, none⟩) os1.length k3) (.slice (some ⟨g4, 0, none⟩) ot1.length k4)
        have hm : Btw w4.heap.size (w4.heap.size + 1) w21 ((w21.setCell ⟨w4.heap.size, 0, none⟩ (.slice (some ⟨g3, 0, none⟩) os1.length k3)).setCell ⟨w4.heap.size, 1, none⟩ (.slice (some ⟨g4, 0, none⟩) ot1.length k4)) := ((Btw.refl w4.heap.size (w4.heap.size + 1) w21).setCell (p := ⟨w4.heap.size, 0, none⟩) (Nat.le_refl _) (Nat.lt_succ_self _) _).setCell (p := ⟨w4.heap.size, 1, none⟩) (Nat.le_refl _) (Nat.lt_succ_self _) _
        obtain ⟨w22, hwg3⟩ : ∃ x, (w21.setCell ⟨w4.heap.size, 0, none⟩ (.slice (some ⟨g3, 0, none⟩) os1.length k3)).setCell ⟨w4.heap.size, 1, none⟩ (.slice (some ⟨g4, 0, none⟩) ot1.length k4) = x := ⟨_, rfl⟩
        rw [hwg3] at hkq hm
        have HZ22 : Hid (w21.heap.size ≤ w22.heap.size) := Lib.hid hm.size
        have HB22 : Hid (Below w.heap.size w w22) := Lib.hid (HB21.out.trans (hm.below.mono (by have := HZ21.out; have := HB20.out.size; omega)))
        have HRf22 := Lib.hid (HRf0.out.below HB22.out (Nat.le_refl _))
        have HKb22 := Lib.hid ((hm.block _ (by have := lt_of_block HKb21.out; have := HZ21.out; omega)).trans HKb21.out)
        have HKz22 := Lib.hid ((hm.block _ (by have := lt_of_block HKz21.out; have := HZ21.out; omega)).trans HKz21.out)
        have HOv22 := Lib.hid (HOv21.out.btw hm (by have := HZ21.out; omega))
        clear hm
        have HKo22 := Lib.hid (hkq)
        clear hkq
        clear cb0 cb1 fb0 fb1 ltb cz0 cz1 fz0 fz1 ltz co0 co1 fo0 fo1 lto
        have ltb := lt_of_block HKb22.out
        obtain ⟨cb0, cb1, fb0, fb1⟩ := cell2 HKb22.out
        have ltz := lt_of_block HKz22.out
        obtain ⟨cz0, cz1, fz0, fz1⟩ := cell2 HKz22.out
        have lto := lt_of_block HKo22.out
        obtain ⟨co0, co1, fo0, fo1⟩ := cell2 HKo22.out
        go_wp2_with fail
        clear oqg3 oqg4 ofg3 ofg4 hwg3
        by_cases hok : okB os1 ot1
        · have HOK := Lib.hid hok
          clear hok
          refine (l5Good_any _ _ os1 ot1 _ HOv22.out.reads true ⟨fun _ => HOK.out, fun _ => rfl⟩).mono ?_
          rintro e w23 ⟨rfl, hb⟩
          have HB23 : Hid (Below w.heap.size w w23) := Lib.hid (HB22.out.trans (hb.mono HB22.out.size))
          have HZ23 : Hid (w22.heap.size ≤ w23.heap.size) := Lib.hid hb.size
          have HRf23 := Lib.hid (HRf0.out.below HB23.out (Nat.le_refl _))
          have HKb23 := Lib.hid ((hb.block _ (lt_of_block HKb22.out)).trans HKb22.out)
          have HKz23 := Lib.hid ((hb.block _ (lt_of_block HKz22.out)).trans HKz22.out)
          have HOv23 := Lib.hid (HOv22.out.next hb)
          have HKo23 := Lib.hid ((hb.block _ (lt_of_block HKo22.out)).trans HKo22.out)
          clear hb
          have hd2 := HOv23.out.at2 k hk3 HX2.out
          clear cb0 cb1 fb0 fb1 ltb cz0 cz1 fz0 fz1 ltz co0 co1 fo0 fo1 lto
          have ltb := lt_of_block HKb23.out
          obtain ⟨cb0, cb1, fb0, fb1⟩ := cell2 HKb23.out
          have ltz := lt_of_block HKz23.out
          obtain ⟨cz0, cz1, fz0, fz1⟩ := cell2 HKz23.out
          have lto := lt_of_block HKo23.out
          obtain ⟨co0, co1, fo0, fo1⟩ := cell2 HKo23.out
          go_wp2_with fail
          clear hd2
          refine (HMC.out _ HOv23.out.reads).mono ?_
          rintro e w24 ⟨⟨s5, s6, rfl, ho⟩, hb⟩
          have HB24 : Hid (Below w.heap.size w w24) := Lib.hid (HB23.out.trans (hb.mono HB23.out.size))
          have HZ24 : Hid (w23.heap.size ≤ w24.heap.size) := Lib.hid hb.size
          have HRf24 := Lib.hid (HRf0.out.below HB24.out (Nat.le_refl _))
          have HKb24 := Lib.hid ((hb.block _ (lt_of_block HKb23.out)).trans HKb23.out)
          have HKz24 := Lib.hid ((hb.block _ (lt_of_block HKz23.out)).trans HKz23.out)
          have HOv24 := Lib.hid (HOv23.out.next hb)
          have HKo24 := Lib.hid ((hb.block _ (lt_of_block HKo23.out)).trans HKo23.out)
          clear hb
          obtain ⟨g5, k5, g6, k6, rfl, rfl, _, _⟩ := ho.some' HP3.out.1 HP3.out.2
          have HOv24 := Lib.hid (ho)
          clear ho
          obtain ⟨oqg5, oqg6, ofg5, ofg6⟩ := cell2 HKo24.out
          have hkq := box2_set HKo24.out (.slice (some ⟨g5, 0, none⟩) os2.length k5) (.slice (some ⟨g6, 0, none⟩) ot2.length k6)
          have hm : Btw w4.heap.size (w4.heap.size + 1) w24 ((w24.setCell ⟨w4.heap.size, 0, none⟩ (.slice (some ⟨g5, 0, none⟩) os2.length k5)).setCell ⟨w4.heap.size, 1, none⟩ (.slice (some ⟨g6, 0, none⟩) ot2.length k6)) := ((Btw.refl w4.heap.size (w4.heap.size + 1) w24).setCell (p := ⟨w4.heap.size, 0, none⟩) (Nat.le_refl _) (Nat.lt_succ_self _) _).setCell (p := ⟨w4.heap.size, 1, none⟩) (Nat.le_refl _) (Nat.lt_succ_self _) _
          obtain ⟨w25, hwg5⟩ : ∃ x, (w24.setCell ⟨w4.heap.size, 0, none⟩ (.slice (some ⟨g5, 0, none⟩) os2.length k5)).setCell ⟨w4.heap.size, 1, none⟩ (.slice (some ⟨g6, 0, none⟩) ot2.length k6) = x := ⟨_, rfl⟩
          rw [hwg5] at hkq hm
          have HZ25 : Hid (w24.heap.size ≤ w25.heap.size) := Lib.hid hm.size
          have HB25 : Hid (Below w.heap.size w w25) := Lib.hid (HB24.out.trans (hm.below.mono (by have := HZ21.out; have := HZ22.out; have := HZ23.out; have := HZ24.out; have := HB20.out.size; omega)))
          have HRf25 := Lib.hid (HRf0.out.below HB25.out (Nat.le_refl _))
          have HKb25 := Lib.hid ((hm.block _ (by have := lt_of_block HKb24.out; have := HZ21.out; have := HZ22.out; have := HZ23.out; have := HZ24.out; omega)).trans HKb24.out)
          have HKz25 := Lib.hid ((hm.block _ (by have := lt_of_block HKz24.out; have := HZ21.out; have := HZ22.out; have := HZ23.out; have := HZ24.out; omega)).trans HKz24.out)
          have HOv25 := Lib.hid (HOv24.out.btw hm (by have := HZ21.out; have := HZ22.out; have := HZ23.out; have := HZ24.out; omega))
          clear hm
          have HKo25 := Lib.hid (hkq)
          clear hkq
          clear cb0 cb1 fb0 fb1 ltb cz0 cz1 fz0 fz1 ltz co0 co1 fo0 fo1 lto
          have ltb := lt_of_block HKb25.out
          obtain ⟨cb0, cb1, fb0, fb1⟩ := cell2 HKb25.out
          have ltz := lt_of_block HKz25.out
          obtain ⟨cz0, cz1, fz0, fz1⟩ := cell2 HKz25.out
          have lto := lt_of_block HKo25.out
          obtain ⟨co0, co1, fo0, fo1⟩ := cell2 HKo25.out
          go_wp2_with fail
          clear oqg5 oqg6 ofg5 ofg6 hwg5
          by_cases hok2 : okB os2 ot2
          · have HOK2 := Lib.hid hok2
            clear hok2
            refine (l5Good_any _ _ os2 ot2 _ HOv25.out.reads true ⟨fun _ => HOK2.out, fun _ => rfl⟩).mono ?_
            rintro e w26 ⟨rfl, hb⟩
            have HB26 : Hid (Below w.heap.size w w26) := Lib.hid (HB25.out.trans (hb.mono HB25.out.size))
            have HZ26 : Hid (w25.heap.size ≤ w26.heap.size) := Lib.hid hb.size
            have HRf26 := Lib.hid (HRf0.out.below HB26.out (Nat.le_refl _))
            have HKb26 := Lib.hid ((hb.block _ (lt_of_block HKb25.out)).trans HKb25.out)
            have HKz26 := Lib.hid ((hb.block _ (lt_of_block HKz25.out)).trans HKz25.out)
            have HOv26 := Lib.hid (HOv25.out.next hb)
            have HKo26 := Lib.hid ((hb.block _ (lt_of_block HKo25.out)).trans HKo25.out)
            clear hb
            clear cb0 cb1 fb0 fb1 ltb cz0 cz1 fz0 fz1 ltz co0 co1 fo0 fo1 lto
            have ltb := lt_of_block HKb26.out
            obtain ⟨cb0, cb1, fb0, fb1⟩ := cell2 HKb26.out
            have ltz := lt_of_block HKz26.out
            obtain ⟨cz0, cz1, fz0, fz1⟩ := cell2 HKz26.out
            have lto := lt_of_block HKo26.out
            obtain ⟨co0, co1, fo0, fo1⟩ := cell2 HKo26.out
            go_wp2_with fail
            go_roundw
            case rel => exact ⟨k + 1, os2, ot2, n + t1 + t2, true, _, _, _, _, hkp, by go_num, rfl, rfl, Lib.hid ⟨HPC.out.1, HPC.out.2.1, HPC.out.2.2.1, by rw [← HPC.out.2.2.2]; exact ⟨fun _ => ⟨⟨by first | rfl | trivial, HOK.out⟩, HOK2.out⟩, fun _ => rfl⟩⟩, HLC.out, HBC, by omega, HKb26.out, HKz26.out, HKo26.out, HOv26.out, ⟨by have := HZ21.out; have := HZ22.out; have := HZ23.out; have := HZ24.out; have := HZ25.out; have := HZ26.out;  omega, by have := HZ21.out; have := HZ22.out; have := HZ23.out; have := HZ24.out; have := HZ25.out; have := HZ26.out;  omega, by have := HZ21.out; have := HZ22.out; have := HZ23.out; have := HZ24.out; have := HZ25.out; have := HZ26.out;  omega⟩, HB26.out⟩
            case measure => simp [intOf]; omega
          · have HOK2 := Lib.hid hok2
            clear hok2
            refine (l5Good_any _ _ os2 ot2 _ HOv25.out.reads false ⟨fun e => by simp at e, fun e => absurd e HOK2.out⟩).mono ?_
            rintro e w26 ⟨rfl, hb⟩
            have HB26 : Hid (Below w.heap.size w w26) := Lib.hid (HB25.out.trans (hb.mono HB25.out.size))
            have HZ26 : Hid (w25.heap.size ≤ w26.heap.size) := Lib.hid hb.size
            have HRf26 := Lib.hid (HRf0.out.below HB26.out (Nat.le_refl _))
            have HKb26 := Lib.hid ((hb.block _ (lt_of_block HKb25.out)).trans HKb25.out)
            have HKz26 := Lib.hid ((hb.block _ (lt_of_block HKz25.out)).trans HKz25.out)
            have HOv26 := Lib.hid (HOv25.out.next hb)
            have HKo26 := Lib.hid ((hb.block _ (lt_of_block HKo25.out)).trans HKo25.out)
            clear hb
            clear cb0 cb1 fb0 fb1 ltb cz0 cz1 fz0 fz1 ltz co0 co1 fo0 fo1 lto
            have ltb := lt_of_block HKb26.out
            obtain ⟨cb0, cb1, fb0, fb1⟩ := cell2 HKb26.out
            have ltz := lt_of_block HKz26.out
            obtain ⟨cz0, cz1, fz0, fz1⟩ := cell2 HKz26.out
            have lto := lt_of_block HKo26.out
            obtain ⟨co0, co1, fo0, fo1⟩ := cell2 HKo26.out
            go_wp2_with fail
            go_roundw
            case rel => exact ⟨k + 1, os2, ot2, n + t1 + t2, false, _, _, _, _, hkp, by go_num, rfl, rfl, Lib.hid ⟨HPC.out.1, HPC.out.2.1, HPC.out.2.2.1, by rw [← HPC.out.2.2.2]; exact ⟨fun e => by simp at e, fun e => absurd e.2 HOK2.out⟩⟩, HLC.out, HBC, by omega, HKb26.out, HKz26.out, HKo26.out, HOv26.out, ⟨by have := HZ21.out; have := HZ22.out; have := HZ23.out; have := HZ24.out; have := HZ25.out; have := HZ26.out;  omega, by have := HZ21.out; have := HZ22.out; have := HZ23.out; have := HZ24.out; have := HZ25.out; have := HZ26.out;  omega, by have := HZ21.out; have := HZ22.out; have := HZ23.out; have := HZ24.out; have := HZ25.out; have := HZ26.out;  omega⟩, HB26.out⟩
            case measure => simp [intOf]; omega
        · have HOK := Lib.hid hok
          clear hok
          refine (l5Good_any _ _ os1 ot1 _ HOv22.out.reads false ⟨fun e => by simp at e, fun e => absurd e HOK.out⟩).mono ?_
          rintro e w23 ⟨rfl, hb⟩
          have HB23 : Hid (Below w.heap.size w w23) := Lib.hid (HB22.out.trans (hb.mono HB22.out.size))
          have HZ23 : Hid (w22.heap.size ≤ w23.heap.size) := Lib.hid hb.size
          have HRf23 := Lib.hid (HRf0.out.below HB23.out (Nat.le_refl _))
          have HKb23 := Lib.hid ((hb.block _ (lt_of_block HKb22.out)).trans HKb22.out)
          have HKz23 := Lib.hid ((hb.block _ (lt_of_block HKz22.out)).trans HKz22.out)
          have HOv23 := Lib.hid (HOv22.out.next hb)
          have HKo23 := Lib.hid ((hb.block _ (lt_of_block HKo22.out)).trans HKo22.out)
          clear hb
          have hd2 := HOv23.out.at2 k hk3 HX2.out
          clear cb0 cb1 fb0 fb1 ltb cz0 cz1 fz0 fz1 ltz co0 co1 fo0 fo1 lto
          have ltb := lt_of_block HKb23.out
          obtain ⟨cb0, cb1, fb0, fb1⟩ := cell2 HKb23.out
          have ltz := lt_of_block HKz23.out
          obtain ⟨cz0, cz1, fz0, fz1⟩ := cell2 HKz23.out
          have lto := lt_of_block HKo23.out
          obtain ⟨co0, co1, fo0, fo1⟩ := cell2 HKo23.out
          go_wp2_with fail
          clear hd2
          refine (HMC.out _ HOv23.out.reads).mono ?_
          rintro e w24 ⟨⟨s5, s6, rfl, ho⟩, hb⟩
          have HB24 : Hid (Below w.heap.size w w24) := Lib.hid (HB23.out.trans (hb.mono HB23.out.size))
          have HZ24 : Hid (w23.heap.size ≤ w24.heap.size) := Lib.hid hb.size
          have HRf24 := Lib.hid (HRf0.out.below HB24.out (Nat.le_refl _))
          have HKb24 := Lib.hid ((hb.block _ (lt_of_block HKb23.out)).trans HKb23.out)
          have HKz24 := Lib.hid ((hb.block _ (lt_of_block HKz23.out)).trans HKz23.out)
          have HOv24 := Lib.hid (HOv23.out.next hb)
          have HKo24 := Lib.hid ((hb.block _ (lt_of_block HKo23.out)).trans HKo23.out)
          clear hb
          obtain ⟨g5, k5, g6, k6, rfl, rfl, _, _⟩ := ho.some' HP3.out.1 HP3.out.2
          have HOv24 := Lib.hid (ho)
          clear ho
          obtain ⟨oqg5, oqg6, ofg5, ofg6⟩ := cell2 HKo24.out
          have hkq := box2_set HKo24.out (.slice (some ⟨g5, 0, none⟩) os2.length k5) (.slice (some ⟨g6, 0, none⟩) ot2.length k6)
          have hm : Btw w4.heap.size (w4.heap.size + 1) w24 ((w24.setCell ⟨w4.heap.size, 0, none⟩ (.slice (some ⟨g5, 0, none⟩) os2.length k5)).setCell ⟨w4.heap.size, 1, none⟩ (.slice (some ⟨g6, 0, none⟩) ot2.length k6)) := ((Btw.refl w4.heap.size (w4.heap.size + 1) w24).setCell (p := ⟨w4.heap.size, 0, none⟩) (Nat.le_refl _) (Nat.lt_succ_self _) _).setCell (p := ⟨w4.heap.size, 1, none⟩) (Nat.le_refl _) (Nat.lt_succ_self _) _
          obtain ⟨w25, hwg5⟩ : ∃ x, (w24.setCell ⟨w4.heap.size, 0, none⟩ (.slice (some ⟨g5, 0, none⟩) os2.length k5)).setCell ⟨w4.heap.size, 1, none⟩ (.slice (some ⟨g6, 0, none⟩) ot2.length k6) = x := ⟨_, rfl⟩
          rw [hwg5] at hkq hm
          have HZ25 : Hid (w24.heap.size ≤ w25.heap.size) := Lib.hid hm.size
          have HB25 : Hid (Below w.heap.size w w25) := Lib.hid (HB24.out.trans (hm.below.mono (by have := HZ21.out; have := HZ22.out; have := HZ23.out; have := HZ24.out; have := HB20.out.size; omega)))
          have HRf25 := Lib.hid (HRf0.out.below HB25.out (Nat.le_refl _))
          have HKb25 := Lib.hid ((hm.block _ (by have := lt_of_block HKb24.out; have := HZ21.out; have := HZ22.out; have := HZ23.out; have := HZ24.out; omega)).trans HKb24.out)
          have HKz25 := Lib.hid ((hm.block _ (by have := lt_of_block HKz24.out; have := HZ21.out; have := HZ22.out; have := HZ23.out; have := HZ24.out; omega)).trans HKz24.out)
          have HOv25 := Lib.hid (HOv24.out.btw hm (by have := HZ21.out; have := HZ22.out; have := HZ23.out; have := HZ24.out; omega))
          clear hm
          have HKo25 := Lib.hid (hkq)
          clear hkq
          clear cb0 cb1 fb0 fb1 ltb cz0 cz1 fz0 fz1 ltz co0 co1 fo0 fo1 lto
          have ltb := lt_of_block HKb25.out
          obtain ⟨cb0, cb1, fb0, fb1⟩ := cell2 HKb25.out
          have ltz := lt_of_block HKz25.out
          obtain ⟨cz0, cz1, fz0, fz1⟩ := cell2 HKz25.out
          have lto := lt_of_block HKo25.out
          obtain ⟨co0, co1, fo0, fo1⟩ := cell2 HKo25.out
          go_wp2_with fail
          clear oqg5 oqg6 ofg5 ofg6 hwg5
          go_roundw
          case rel => exact ⟨k + 1, os2, ot2, n + t1 + t2, false, _, _, _, _, hkp, by go_num, rfl, rfl, Lib.hid ⟨HPC.out.1, HPC.out.2.1, HPC.out.2.2.1, by rw [← HPC.out.2.2.2]; exact ⟨fun e => by simp at e, fun e => absurd e.1.2 HOK.out⟩⟩, HLC.out, HBC, by omega, HKb25.out, HKz25.out, HKo25.out, HOv25.out, ⟨by have := HZ21.out; have := HZ22.out; have := HZ23.out; have := HZ24.out; have := HZ25.out;  omega, by have := HZ21.out; have := HZ22.out; have := HZ23.out; have := HZ24.out; have := HZ25.out;  omega, by have := HZ21.out; have := HZ22.out; have := HZ23.out; have := HZ24.out; have := HZ25.out;  omega⟩, HB25.out⟩
          case measure => simp [intOf]; omega
      | false =>
        obtain ⟨oqg3, oqg4, ofg3, ofg4⟩ := cell2 HKo21.out
        have hkq := box2_set HKo21.out (.slice (some ⟨g3, 0, none⟩) os1.length k3) (.slice (some ⟨g4, 0, none⟩) ot1.length k4)
        have hm : Btw w4.heap.size (w4.heap.size + 1) w21 ((w21.setCell ⟨w4.heap.size, 0, none⟩ (.slice (some ⟨g3, 0, none⟩) os1.length k3)).setCell ⟨w4.heap.size, 1, none⟩ (.slice (some ⟨g4, 0, none⟩) ot1.length k4)) := ((Btw.refl w4.heap.size (w4.heap.size + 1) w21).setCell (p := ⟨w4.heap.size, 0, none⟩) (Nat.le_refl _) (Nat.lt_succ_self _) _).setCell (p := ⟨w4.heap.size, 1, none⟩) (Nat.le_refl _) (Nat.lt_succ_self _) _
        obtain ⟨w22, hwg3⟩ : ∃ x, (w21.setCell ⟨w4.heap.size, 0, none⟩ (.slice (some ⟨g3, 0, none⟩) os1.length k3)).setCell ⟨w4.heap.size, 1, none⟩ (.slice (some ⟨g4, 0, none⟩) ot1.length k4) = x := ⟨_, rfl⟩
        rw [hwg3] at hkq hm
        have HZ22 : Hid (w21.heap.size ≤ w22.heap.size) := Lib.hid hm.size
        have HB22 : Hid (Below w.heap.size w w22) := Lib.hid (HB21.out.trans (hm.below.mono (by have := HZ21.out; have := HB20.out.size; omega)))
        have HRf22 := Lib.hid (HRf0.out.below HB22.out (Nat.le_refl _))
        have HKb22 := Lib.hid ((hm.block _ (by have := lt_of_block HKb21.out; have := HZ21.out; omega)).trans HKb21.out)
        have HKz22 := Lib.hid ((hm.block _ (by have := lt_of_block HKz21.out; have := HZ21.out; omega)).trans HKz21.out)
        have HOv22 := Lib.hid (HOv21.out.btw hm (by have := HZ21.out; omega))
        clear hm
        have HKo22 := Lib.hid (hkq)
        clear hkq
        have hd2 := HOv22.out.at2 k hk3 HX2.out
        clear cb0 cb1 fb0 fb1 ltb cz0 cz1 fz0 fz1 ltz co0 co1 fo0 fo1 lto
        have ltb := lt_of_block HKb22.out
        obtain ⟨cb0, cb1, fb0, fb1⟩ := cell2 HKb22.out
        have ltz := lt_of_block HKz22.out
        obtain ⟨cz0, cz1, fz0, fz1⟩ := cell2 HKz22.out
        have lto := lt_of_block HKo22.out
        obtain ⟨co0, co1, fo0, fo1⟩ := cell2 HKo22.out
        go_wp2_with fail
        clear hd2
        refine (HMC.out _ HOv22.out.reads).mono ?_
        rintro e w23 ⟨⟨s5, s6, rfl, ho⟩, hb⟩
        have HB23 : Hid (Below w.heap.size w w23) := Lib.hid (HB22.out.trans (hb.mono HB22.out.size))
        have HZ23 : Hid (w22.heap.size ≤ w23.heap.size) := Lib.hid hb.size
        have HRf23 := Lib.hid (HRf0.out.below HB23.out (Nat.le_refl _))
        have HKb23 := Lib.hid ((hb.block _ (lt_of_block HKb22.out)).trans HKb22.out)
        have HKz23 := Lib.hid ((hb.block _ (lt_of_block HKz22.out)).trans HKz22.out)
        have HOv23 := Lib.hid (HOv22.out.next hb)
        have HKo23 := Lib.hid ((hb.block _ (lt_of_block HKo22.out)).trans HKo22.out)
        clear hb
        obtain ⟨g5, k5, g6, k6, rfl, rfl, _, _⟩ := ho.some' HP3.out.1 HP3.out.2
        have HOv23 := Lib.hid (ho)
        clear ho
        obtain ⟨oqg5, oqg6, ofg5, ofg6⟩ := cell2 HKo23.out
        have hkq := box2_set HKo23.out (.slice (some ⟨g5, 0, none⟩) os2.length k5) (.slice (some ⟨g6, 0, none⟩) ot2.length k6)
        have hm : Btw w4.heap.size (w4.heap.size + 1) w23 ((w23.setCell ⟨w4.heap.size, 0, none⟩ (.slice (some ⟨g5, 0, none⟩) os2.length k5)).setCell ⟨w4.heap.size, 1, none⟩ (.slice (some ⟨g6, 0, none⟩) ot2.length k6)) := ((Btw.refl w4.heap.size (w4.heap.size + 1) w23).setCell (p := ⟨w4.heap.size, 0, none⟩) (Nat.le_refl _) (Nat.lt_succ_self _) _).setCell (p := ⟨w4.heap.size, 1, none⟩) (Nat.le_refl _) (Nat.lt_succ_self _) _
        obtain ⟨w24, hwg5⟩ : ∃ x, (w23.setCell ⟨w4.heap.size, 0, none⟩ (.slice (some ⟨g5, 0, none⟩) os2.length k5)).setCell ⟨w4.heap.size, 1, none⟩ (.slice (some ⟨g6, 0, none⟩) ot2.length k6) = x := ⟨_, rfl⟩
        rw [hwg5] at hkq hm
        have HZ24 : Hid (w23.heap.size ≤ w24.heap.size) := Lib.hid hm.size
        have HB24 : Hid (Below w.heap.size w w24) := Lib.hid (HB23.out.trans (hm.below.mono (by have := HZ21.out; have := HZ22.out; have := HZ23.out; have := HB20.out.size; omega)))
        have HRf24 := Lib.hid (HRf0.out.below HB24.out (Nat.le_refl _))
        have HKb24 := Lib.hid ((hm.block _ (by have := lt_of_block HKb23.out; have := HZ21.out; have := HZ22.out; have := HZ23.out; omega)).trans HKb23.out)
        have HKz24 := Lib.hid ((hm.block _ (by have := lt_of_block HKz23.out; have := HZ21.out; have := HZ22.out; have := HZ23.out; omega)).trans HKz23.out)
        have HOv24 := Lib.hid (HOv23.out.btw hm (by have := HZ21.out; have := HZ22.out; have := HZ23.out; omega))
        clear hm
        have HKo24 := Lib.hid (hkq)
        clear hkq
        clear cb0 cb1 fb0 fb1 ltb cz0 cz1 fz0 fz1 ltz co0 co1 fo0 fo1 lto
        have ltb := lt_of_block HKb24.out
        obtain ⟨cb0, cb1, fb0, fb1⟩ := cell2 HKb24.out
        have ltz := lt_of_block HKz24.out
        obtain ⟨cz0, cz1, fz0, fz1⟩ := cell2 HKz24.out
        have lto := lt_of_block HKo24.out
        obtain ⟨co0, co1, fo0, fo1⟩ := cell2 HKo24.out
        go_wp2_with fail
        clear oqg5 oqg6 ofg5 ofg6 hwg5
        go_roundw
        case rel => exact ⟨k + 1, os2, ot2, n + t1 + t2, false, _, _, _, _, hkp, by go_num, rfl, rfl, Lib.hid ⟨HPC.out.1, HPC.out.2.1, HPC.out.2.2.1, by rw [← HPC.out.2.2.2]; exact ⟨fun e => by simp at e, fun e => absurd e.1.1 (by simp)⟩⟩, HLC.out, HBC, by omega, HKb24.out, HKz24.out, HKo24.out, HOv24.out, ⟨by have := HZ21.out; have := HZ22.out; have := HZ23.out; have := HZ24.out;  omega, by have := HZ21.out; have := HZ22.out; have := HZ23.out; have := HZ24.out;  omega, by have := HZ21.out; have := HZ22.out; have := HZ23.out; have := HZ24.out;  omega⟩, HB24.out⟩
        case measure => simp [intOf]; omega
theorem specPlainBoard_any (v1 v2 : Value) (ls ss : List Int) (w : World) (h : BrdR w v1 v2 ls ss) (qs qt : List Int) (r0 : Int) (r : Bool) (hk : PnF ls ss qs qt r0 r) :
    Calls Try.prog 7 #[.agg #[v1, v2]] w fun e w' => (∃ s1 t1, e = .returned (.tuple #[.agg #[s1, t1], .int .i64 r0, .bool r]) ∧ OwB w.heap.size w'.heap.size w' s1 t1 qs qt) ∧ Below w.heap.size w w' := by
  by_cases hg : okB ls ss
  · refine specPlain_yes v1 v2 ls ss w h hg qs qt r0 r ?_
    rcases hk with ⟨⟨_, h2⟩, h3⟩ | ⟨h1, h2⟩
    · exact .inl ⟨h2, h3⟩
    · exact .inr ⟨fun h3 => h1 ⟨hg, h3⟩, h2⟩
  · refine specPlain_no v1 v2 ls ss w h hg qs qt r0 r ?_
    rcases hk with ⟨h1, _⟩ | ⟨_, h2⟩
    · exact absurd h1.1 hg
    · exact h2
end Go.Proofs.Ytbdddpchlmddbaa
