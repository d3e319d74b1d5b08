/- The law FnBoards. -/
import Derived.Test.YtbdddpchlmddbaaDoorVbd
import Derived.Test.YtbdddpchlmddbaaDoorPlm
import Derived.Test.YtbdddpchlmddbaaDoorDbb
import Derived.Test.YtbdddpchlmddbaaDoorDbc
import Derived.Test.YtbdddpchlmddbaaDoorBjoin
import Derived.Test.YtbdddpchlmddbaaDoorJjoin
import Derived.Test.YtbdddpchlmddbaaDoorBcarry
import Derived.Test.YtbdddpchlmddbaaDoorJwith
import Derived.Test.YtbdddpchlmddbaaDoorJval
import Derived.Test.YtbdddpchlmddbaaDoorBval
import Derived.Test.YtbdddpchlmddbaaDoorBtext
import Derived.Test.YtbdddpchlmddbaaDoorJtext
import Derived.Test.YtbdddpchlmddbaaDoorTab
namespace Go.Proofs.YtbdddpchlmddbaaDoor
set_option linter.unusedVariables false
open Go.RowKit
set_option linter.unusedSimpArgs false

def Br5 (f : Nat) (av : Array Value) (w : World) (qs qt : List Int) (b : Bool) : Prop :=
  Calls Tryd.prog f av w fun e w' => (∃ s t, e = .returned (.tuple #[.agg #[s, t], .bool b]) ∧ BrdR w' s t qs qt) ∧ Below w.heap.size w w'
theorem ofOwnB5 {f : Nat} {av : Array Value} {w : World} {qs qt : List Int} {b : Bool} (h : Calls Tryd.prog f av w fun e w' => (∃ s t, e = .returned (.tuple #[.agg #[s, t], .bool b]) ∧ OwB w.heap.size w'.heap.size w' s t qs qt) ∧ Below w.heap.size w w') : Br5 f av w qs qt b :=
  h.mono fun _ _ ⟨⟨s, t, he, ho⟩, hb⟩ => ⟨⟨s, t, he, ho.reads⟩, hb⟩
def I5 (f : Nat) (av : Array Value) (w : World) (x : Int) (b : Bool) : Prop :=
  Calls Tryd.prog f av w fun e w' => e = .returned (.tuple #[.int .i64 x, .bool b]) ∧ Below w.heap.size w w'
def Bo5 (f : Nat) (av : Array Value) (w : World) (c b : Bool) : Prop :=
  Calls Tryd.prog f av w fun e w' => e = .returned (.tuple #[.bool c, .bool b]) ∧ Below w.heap.size w w'
theorem val_small {ls ss : List Int} (h : okB ls ss) : 0 ≤ valB ls ss ∧ valB ls ss ≤ 2000000000 := by
  have := valB_max h 0 (Nat.zero_le _)
  simpa using this
theorem carF_or (t : Int) (ls ss : List Int) (line : Bool) (k : Int) : ∃ qs qt r, CarF t ls ss line k qs qt r := by
  by_cases h : (okB ls ss ∧ plcB line k ls) ∧ okB (mvL line k.toNat t ls) (mvS line k.toNat t ss)
  · exact ⟨_, _, _, .inl ⟨h.1, h.2, rfl, rfl, rfl⟩⟩
  · exact ⟨_, _, _, .inr ⟨h, rfl, rfl, rfl⟩⟩
theorem ca_same (ls ss : List Int) (line : Bool) (k : Int) : ∃ (qs qt : List Int) (b : Bool), (∀ w v1 v2, BrdR w v1 v2 ls ss → Br5 7 #[.agg #[v1, v2], .bool line, .int .i64 k] w qs qt b) ∧ (∀ w v1 v2, BrdR w v1 v2 ls ss → Br5 6 #[.agg #[v1, v2], .bool line, .int .i64 k] w qs qt b) ∧
    (b = true → ∃ x : Int, (∀ w v1 v2, BrdR w v1 v2 ls ss → I5 9 #[.agg #[v1, v2]] w x true) ∧ (∀ w v1 v2, BrdR w v1 v2 qs qt → I5 9 #[.agg #[v1, v2]] w x true) ∧ (∀ w v1 v2, BrdR w v1 v2 qs qt → Br5 10 #[.agg #[v1, v2], .bool line, .int .i64 k] w ls ss true)) := by
  obtain ⟨qs, qt, b, hk⟩ := carF_or 1 ls ss line k
  refine ⟨qs, qt, b, fun w v1 v2 h => ofOwnB5 (specCarryAt_any v1 v2 ls ss line k w h qs qt b hk), fun w v1 v2 h => ofOwnB5 (implCarryAt_any v1 v2 ls ss line k w h qs qt b hk), fun hb => ?_⟩
  subst hb
  rcases hk with ⟨⟨h1, h2⟩, h3, rfl, rfl, -⟩ | ⟨-, -, -, h⟩
  · have hl : k.toNat + (if line then 0 else 1) < ls.length := by
      have := h2.1; have := h2.2
      cases line with
      | true => simp at *; omega
      | false => simp at *; omega
    have hl2 : k.toNat < ss.length := by rw [h1.2.1]; omega
    have e1 := mv_back line k.toNat 1 ls hl
    have e2 := mv_backS line k.toNat 1 ss hl2
    have hv := mv_val line k.toNat 1 ls ss h1.2.1 hl
    refine ⟨valB ls ss, fun w v1 v2 h => implValue_yes v1 v2 ls ss w h h1, fun w v1 v2 h => ?_, fun w v1 v2 h => ofOwnB5 (implBorrowAt_any v1 v2 _ _ line k w h ls ss true (.inl ⟨⟨h3, h2.1, by rw [mvL_len]; exact h2.2⟩, ?_, e1.symm, e2.symm, rfl⟩))⟩
    · have := implValue_yes v1 v2 _ _ w h h3
      rw [hv] at this
      exact this
    · show okB (mvL line k.toNat (-1) _) (mvS line k.toNat (-1) _)
      rw [e1, e2]; exact h1
  · cases h
theorem ba_same (ls ss : List Int) (line : Bool) (k : Int) : ∃ (qs qt : List Int) (b : Bool), (∀ w v1 v2, BrdR w v1 v2 ls ss → Br5 12 #[.agg #[v1, v2], .bool line, .int .i64 k] w qs qt b) ∧ (∀ w v1 v2, BrdR w v1 v2 ls ss → Br5 10 #[.agg #[v1, v2], .bool line, .int .i64 k] w qs qt b) := by
  obtain ⟨qs, qt, b, hk⟩ := carF_or (-1) ls ss line k
  exact ⟨qs, qt, b, fun w v1 v2 h => ofOwnB5 (specBorrowAt_any v1 v2 ls ss line k w h qs qt b hk), fun w v1 v2 h => ofOwnB5 (implBorrowAt_any v1 v2 ls ss line k w h qs qt b hk)⟩
theorem jb_same (ls ss ms ts : List Int) : ∃ (qs qt : List Int) (b : Bool), (∀ w v1 v2 u1 u2, BrdR w v1 v2 ls ss → BrdR w u1 u2 ms ts → Br5 15 #[.agg #[v1, v2], .agg #[u1, u2]] w qs qt b) ∧ (∀ w v1 v2 u1 u2, BrdR w v1 v2 ls ss → BrdR w u1 u2 ms ts → Br5 14 #[.agg #[v1, v2], .agg #[u1, u2]] w qs qt b) ∧
    (b = true → ∃ x y z : Int, (∀ w v1 v2, BrdR w v1 v2 ls ss → I5 9 #[.agg #[v1, v2]] w x true) ∧ (∀ w v1 v2, BrdR w v1 v2 ms ts → I5 9 #[.agg #[v1, v2]] w y true) ∧ (∀ w v1 v2, BrdR w v1 v2 qs qt → I5 9 #[.agg #[v1, v2]] w z true) ∧ IntKind.i64.wrap (x + y) = z) := by
  obtain ⟨qs, qt, b, hk⟩ := jbF_or ls ss ms ts
  refine ⟨qs, qt, b, fun w v1 v2 u1 u2 h h' => ofOwnB5 (specJoin_any v1 v2 u1 u2 ls ss ms ts w h h' qs qt b hk), fun w v1 v2 u1 u2 h h' => ofOwnB5 (implJoinBoards_any v1 v2 u1 u2 ls ss ms ts w h h' qs qt b hk), fun hb => ?_⟩
  subst hb
  rcases hk with ⟨⟨h1, h2, hl⟩, h3, rfl, rfl, -⟩ | ⟨-, -, -, h⟩
  · have hx := val_small h1
    have hy := val_small h2
    have hv : valB (jn ls ms ls.length) (jn ss ts ss.length) = valB ls ss + valB ms ts := by
      refine val_add _ _ ls ss ms ts (jn_len _ _ _) (by rw [jn_len, h1.2.1]) h1.2.1 hl.symm (by rw [h2.2.1, hl]) (fun k k1 k2 k3 => jn_early _ _ _ k k1 k2 k3 k2) (fun k k1 k2 k3 => jn_early _ _ _ k k1 k2 k3 k2)
    refine ⟨valB ls ss, valB ms ts, valB ls ss + valB ms ts, fun w v1 v2 h => implValue_yes v1 v2 ls ss w h h1, fun w v1 v2 h => implValue_yes v1 v2 ms ts w h h2, fun w v1 v2 h => ?_, by rw [IntKind.wrap_i64]; omega⟩
    have := implValue_yes v1 v2 _ _ w h h3
    rw [hv] at this
    exact this
  · cases h
theorem cn_same (ls ss : List Int) : ∃ (x : Int) (b : Bool), (∀ w v1 v2, BrdR w v1 v2 ls ss → I5 18 #[.agg #[v1, v2]] w x b) ∧ (∀ w v1 v2, BrdR w v1 v2 ls ss → I5 17 #[.agg #[v1, v2]] w x b) := by
  by_cases h : okB ls ss
  · exact ⟨_, true, fun w v1 v2 h' => specCounters_yes v1 v2 ls ss w h' h, fun w v1 v2 h' => implCounters_yes v1 v2 ls ss w h' h⟩
  · exact ⟨0, false, fun w v1 v2 h' => specCounters_no v1 v2 ls ss w h' h, fun w v1 v2 h' => implCounters_no v1 v2 ls ss w h' h⟩
def St5 (f : Nat) (av : Array Value) (w : World) (s : ByteArray) (b : Bool) : Prop :=
  Calls Tryd.prog f av w fun e w' => e = .returned (.tuple #[.string s, .bool b]) ∧ Below w.heap.size w w'
def B5 (f : Nat) (av : Array Value) (w : World) (b : Bool) : Prop :=
  Calls Tryd.prog f av w fun e w' => e = .returned (.bool b) ∧ Below w.heap.size w w'
theorem bt_same (ls ss : List Int) : ∃ (s : ByteArray) (b : Bool), (∀ w v1 v2, BrdR w v1 v2 ls ss → St5 20 #[.agg #[v1, v2]] w s b) ∧ (∀ w v1 v2, Lib.TabIs Tryd.prog w "internal/strconv.uint64pow10" .u64 Lib.pow10Tab → BrdR w v1 v2 ls ss → St5 19 #[.agg #[v1, v2]] w s b) ∧ (∀ w v1 v2, BrdR w v1 v2 ls ss → B5 21 #[.agg #[v1, v2]] w b) := by
  obtain ⟨s, t, hk⟩ := btxF_or ls ss
  refine ⟨s, t, fun w v1 v2 h => specBoardText_any v1 v2 ls ss w h s t hk, fun w v1 v2 ht h => implBoardText_any v1 v2 ls ss w h s t hk ht, fun w v1 v2 h => implIsBoard_any v1 v2 ls ss w h t ?_⟩
  rcases hk with ⟨h1, -, rfl⟩ | ⟨h1, -, rfl⟩
  · simp [h1]
  · simp [h1]
set_option maxRecDepth 100000 in
set_option maxHeartbeats 12800000 in
theorem lawBoards (w : World) (ad : Option Addr) (cp : Nat) (L : List UInt8) (h : SlR w (.slice ad L.length cp) (L.map fun c => .int .u8 (c.toNat : Int))) (ht : Lib.TabIs Tryd.prog w "internal/strconv.uint64pow10" .u64 Lib.pow10Tab) :
    Calls Tryd.prog 3 #[.slice ad L.length cp] w fun e w' => e = .returned (.bool true) ∧ Below w.heap.size w w' := by
  have hm : L.length ≤ 9223372036854775807 := by
    obtain ⟨a, c, e, ⟨m, _⟩, _⟩ := h
    rw [List.length_map] at m
    exact m
  have HT := Lib.hid ht
  clear ht
  have HB0 : Hid (Below w.heap.size w w) := Lib.hid (Below.refl _ _)
  have HRk0 := Lib.hid (h)
  clear h
  by_cases hbig : (65536 : Int) < (L.length : Int)
  · go_enter Tryd.func3, Tryd.ntmps3
    go_wp2_with fail
    refine (rBig_any ad L.length cp _ true (decide_eq_true hbig)).mono ?_
    rintro e w' ⟨rfl, hw⟩
    subst w'
    go_wp2_with fail
    go_ret
    exact ⟨rfl, Below.refl _ _⟩
  · go_enter Tryd.func3, Tryd.ntmps3
    go_wp2_with fail
    refine (rBig_any ad L.length cp _ false (decide_eq_false (by omega))).mono ?_
    rintro e w' ⟨rfl, hw⟩
    subst w'
    go_wp2_with fail
    refine (drawCarryAt_any _ L _ HRk0.out).mono ?_
    rintro e w1 ⟨⟨v1, v2, ls, ss, line, k, rfl, ho, hl1, hl2⟩, hb⟩
    have HB1 : Hid (Below w.heap.size w w1) := Lib.hid (HB0.out.trans (hb.mono HB0.out.size))
    have HZ1 : Hid (w.heap.size ≤ w1.heap.size) := Lib.hid hb.size
    have HRk1 := Lib.hid (HRk0.out.below HB1.out (Nat.le_refl _))
    clear hb
    obtain ⟨qaa, qca, raa, rca, rfl, rfl⟩ := ho.1.form
    have HRa1 := Lib.hid (ho.1)
    have HBs1_1 : Hid (Below w1.heap.size w1 w1) := Lib.hid (Below.refl _ _)
    clear ho
    obtain ⟨ps, qs, b, hS, hI, hY⟩ := ca_same ls ss line k
    have HS1 := Lib.hid hS
    have HI1 := Lib.hid hI
    clear hS hI
    have hneb : (b != b) = false := by simp
    go_wp2_with fail
    have hb : Below w1.heap.size w1 (w1.alloc (.cells #[.slice qaa ls.length qca, .slice raa ss.length rca] 26)) := (Below.refl _ _).alloc (Nat.le_refl _) _
    have hk : (w1.alloc (.cells #[.slice qaa ls.length qca, .slice raa ss.length rca] 26)).heap[w1.heap.size]? = some (.cells #[.slice qaa ls.length qca, .slice raa ss.length rca] 26 (0, 0)) := alloc_at rfl
    have hz : (w1.alloc (.cells #[.slice qaa ls.length qca, .slice raa ss.length rca] 26)).heap.size = w1.heap.size + 1 := by simp
    generalize w1.alloc (.cells #[.slice qaa ls.length qca, .slice raa ss.length rca] 26) = w2 at hb hk hz ⊢
    have HB2 : Hid (Below w.heap.size w w2) := Lib.hid (HB1.out.trans (hb.mono HB1.out.size))
    have HZ2 : Hid (w1.heap.size ≤ w2.heap.size) := Lib.hid hb.size
    have HRk2 := Lib.hid (HRk0.out.below HB2.out (Nat.le_refl _))
    have HRa2 := Lib.hid (HRa1.out.below hb (Nat.le_refl _))
    have HBs1_2 : Hid (Below w1.heap.size w1 w2) := Lib.hid (HBs1_1.out.trans (hb.mono HBs1_1.out.size))
    have HKba2 := Lib.hid hk
    replace HZ2 : Hid (w1.heap.size < w2.heap.size) := Lib.hid (by omega)
    have HE2 := Lib.hid hz
    clear hb hk hz
    refine (HI1.out _ _ _ HRa2.out).mono ?_
    rintro e w3 ⟨⟨s1, t1, rfl, ho⟩, hb⟩
    have HB3 : Hid (Below w.heap.size w w3) := Lib.hid (HB2.out.trans (hb.mono HB2.out.size))
    have HZ3 : Hid (w2.heap.size ≤ w3.heap.size) := Lib.hid hb.size
    have HRk3 := Lib.hid (HRk0.out.below HB3.out (Nat.le_refl _))
    have HRa3 := Lib.hid (HRa2.out.below hb (Nat.le_refl _))
    have HKba3 := Lib.hid ((hb.block _ (lt_of_block HKba2.out)).trans HKba2.out)
    have HBs1_3 : Hid (Below w1.heap.size w1 w3) := Lib.hid (HBs1_2.out.trans (hb.mono HBs1_2.out.size))
    clear hb
    obtain ⟨qap, qcp, rap, rcp, rfl, rfl⟩ := ho.form
    have HRp3 := Lib.hid (ho)
    have HBs3_3 : Hid (Below w3.heap.size w3 w3) := Lib.hid (Below.refl _ _)
    clear ho
    have ltba := lt_of_block HKba3.out
    obtain ⟨cba0, cba1, fba0, fba1⟩ := cell2 HKba3.out
    go_wp2_with fail
    have hb : Below w3.heap.size w3 (w3.alloc (.cells #[.slice qap ps.length qcp, .slice rap qs.length rcp] 26)) := (Below.refl _ _).alloc (Nat.le_refl _) _
    have hk : (w3.alloc (.cells #[.slice qap ps.length qcp, .slice rap qs.length rcp] 26)).heap[w3.heap.size]? = some (.cells #[.slice qap ps.length qcp, .slice rap qs.length rcp] 26 (0, 0)) := alloc_at rfl
    have hz : (w3.alloc (.cells #[.slice qap ps.length qcp, .slice rap qs.length rcp] 26)).heap.size = w3.heap.size + 1 := by simp
    generalize w3.alloc (.cells #[.slice qap ps.length qcp, .slice rap qs.length rcp] 26) = w4 at hb hk hz ⊢
    have HB4 : Hid (Below w.heap.size w w4) := Lib.hid (HB3.out.trans (hb.mono HB3.out.size))
    have HZ4 : Hid (w3.heap.size ≤ w4.heap.size) := Lib.hid hb.size
    have HRk4 := Lib.hid (HRk0.out.below HB4.out (Nat.le_refl _))
    have HRa4 := Lib.hid (HRa3.out.below hb (Nat.le_refl _))
    have HKba4 := Lib.hid ((hb.block _ (lt_of_block HKba3.out)).trans HKba3.out)
    have HRp4 := Lib.hid (HRp3.out.below hb (Nat.le_refl _))
    have HBs1_4 : Hid (Below w1.heap.size w1 w4) := Lib.hid (HBs1_3.out.trans (hb.mono HBs1_3.out.size))
    have HBs3_4 : Hid (Below w3.heap.size w3 w4) := Lib.hid (HBs3_3.out.trans (hb.mono HBs3_3.out.size))
    have HKbp4 := Lib.hid hk
    replace HZ4 : Hid (w3.heap.size < w4.heap.size) := Lib.hid (by omega)
    have HE4 := Lib.hid hz
    clear hb hk hz
    refine (HS1.out _ _ _ HRa4.out).mono ?_
    rintro e w5 ⟨⟨s1, t1, rfl, ho⟩, hb⟩
    have HB5 : Hid (Below w.heap.size w w5) := Lib.hid (HB4.out.trans (hb.mono HB4.out.size))
    have HZ5 : Hid (w4.heap.size ≤ w5.heap.size) := Lib.hid hb.size
    have HRk5 := Lib.hid (HRk0.out.below HB5.out (Nat.le_refl _))
    have HRa5 := Lib.hid (HRa4.out.below hb (Nat.le_refl _))
    have HKba5 := Lib.hid ((hb.block _ (lt_of_block HKba4.out)).trans HKba4.out)
    have HRp5 := Lib.hid (HRp4.out.below hb (Nat.le_refl _))
    have HKbp5 := Lib.hid ((hb.block _ (lt_of_block HKbp4.out)).trans HKbp4.out)
    have HBs1_5 : Hid (Below w1.heap.size w1 w5) := Lib.hid (HBs1_4.out.trans (hb.mono HBs1_4.out.size))
    have HBs3_5 : Hid (Below w3.heap.size w3 w5) := Lib.hid (HBs3_4.out.trans (hb.mono HBs3_4.out.size))
    clear hb
    obtain ⟨qaq, qcq, raq, rcq, rfl, rfl⟩ := ho.form
    have HRq5 := Lib.hid (ho)
    have HBs5_5 : Hid (Below w5.heap.size w5 w5) := Lib.hid (Below.refl _ _)
    clear ho
    clear cba0 cba1 fba0 fba1 ltba
    have ltba := lt_of_block HKba5.out
    obtain ⟨cba0, cba1, fba0, fba1⟩ := cell2 HKba5.out
    have ltbp := lt_of_block HKbp5.out
    obtain ⟨cbp0, cbp1, fbp0, fbp1⟩ := cell2 HKbp5.out
    go_wp2_with fail
    have hb : Below w5.heap.size w5 (w5.alloc (.cells #[.slice qaq ps.length qcq, .slice raq qs.length rcq] 26)) := (Below.refl _ _).alloc (Nat.le_refl _) _
    have hk : (w5.alloc (.cells #[.slice qaq ps.length qcq, .slice raq qs.length rcq] 26)).heap[w5.heap.size]? = some (.cells #[.slice qaq ps.length qcq, .slice raq qs.length rcq] 26 (0, 0)) := alloc_at rfl
    have hz : (w5.alloc (.cells #[.slice qaq ps.length qcq, .slice raq qs.length rcq] 26)).heap.size = w5.heap.size + 1 := by simp
    generalize w5.alloc (.cells #[.slice qaq ps.length qcq, .slice raq qs.length rcq] 26) = w6 at hb hk hz ⊢
    have HB6 : Hid (Below w.heap.size w w6) := Lib.hid (HB5.out.trans (hb.mono HB5.out.size))
    have HZ6 : Hid (w5.heap.size ≤ w6.heap.size) := Lib.hid hb.size
    have HRk6 := Lib.hid (HRk0.out.below HB6.out (Nat.le_refl _))
    have HRa6 := Lib.hid (HRa5.out.below hb (Nat.le_refl _))
    have HKba6 := Lib.hid ((hb.block _ (lt_of_block HKba5.out)).trans HKba5.out)
    have HRp6 := Lib.hid (HRp5.out.below hb (Nat.le_refl _))
    have HKbp6 := Lib.hid ((hb.block _ (lt_of_block HKbp5.out)).trans HKbp5.out)
    have HRq6 := Lib.hid (HRq5.out.below hb (Nat.le_refl _))
    have HBs1_6 : Hid (Below w1.heap.size w1 w6) := Lib.hid (HBs1_5.out.trans (hb.mono HBs1_5.out.size))
    have HBs3_6 : Hid (Below w3.heap.size w3 w6) := Lib.hid (HBs3_5.out.trans (hb.mono HBs3_5.out.size))
    have HBs5_6 : Hid (Below w5.heap.size w5 w6) := Lib.hid (HBs5_5.out.trans (hb.mono HBs5_5.out.size))
    have HKbq6 := Lib.hid hk
    replace HZ6 : Hid (w5.heap.size < w6.heap.size) := Lib.hid (by omega)
    have HE6 := Lib.hid hz
    clear hb hk hz
    refine (rBoard_yes _ _ _ _ ps qs _ HRp6.out HRq6.out).mono ?_
    rintro e w7 ⟨rfl, hb⟩
    have HB7 : Hid (Below w.heap.size w w7) := Lib.hid (HB6.out.trans (hb.mono HB6.out.size))
    have HZ7 : Hid (w6.heap.size ≤ w7.heap.size) := Lib.hid hb.size
    have HRk7 := Lib.hid (HRk0.out.below HB7.out (Nat.le_refl _))
    have HRa7 := Lib.hid (HRa6.out.below hb (Nat.le_refl _))
    have HKba7 := Lib.hid ((hb.block _ (lt_of_block HKba6.out)).trans HKba6.out)
    have HRp7 := Lib.hid (HRp6.out.below hb (Nat.le_refl _))
    have HKbp7 := Lib.hid ((hb.block _ (lt_of_block HKbp6.out)).trans HKbp6.out)
    have HRq7 := Lib.hid (HRq6.out.below hb (Nat.le_refl _))
    have HKbq7 := Lib.hid ((hb.block _ (lt_of_block HKbq6.out)).trans HKbq6.out)
    have HBs1_7 : Hid (Below w1.heap.size w1 w7) := Lib.hid (HBs1_6.out.trans (hb.mono HBs1_6.out.size))
    have HBs3_7 : Hid (Below w3.heap.size w3 w7) := Lib.hid (HBs3_6.out.trans (hb.mono HBs3_6.out.size))
    have HBs5_7 : Hid (Below w5.heap.size w5 w7) := Lib.hid (HBs5_6.out.trans (hb.mono HBs5_6.out.size))
    clear hb
    cases b with
    | true =>
      obtain ⟨x, k1, k2, k3⟩ := hY rfl
      have HK1 := Lib.hid k1
      have HK2 := Lib.hid k2
      have HK3 := Lib.hid k3
      clear hY k1 k2 k3
      have hnex : (x != x) = false := by simp
      clear cba0 cba1 fba0 fba1 ltba cbp0 cbp1 fbp0 fbp1 ltbp
      have ltba := lt_of_block HKba7.out
      obtain ⟨cba0, cba1, fba0, fba1⟩ := cell2 HKba7.out
      have ltbp := lt_of_block HKbp7.out
      obtain ⟨cbp0, cbp1, fbp0, fbp1⟩ := cell2 HKbp7.out
      go_wp2_with fail
      refine (HK1.out _ _ _ HRa7.out).mono ?_
      rintro e w8 ⟨rfl, hb⟩
      have HB8 : Hid (Below w.heap.size w w8) := Lib.hid (HB7.out.trans (hb.mono HB7.out.size))
      have HZ8 : Hid (w7.heap.size ≤ w8.heap.size) := Lib.hid hb.size
      have HRk8 := Lib.hid (HRk0.out.below HB8.out (Nat.le_refl _))
      have HRa8 := Lib.hid (HRa7.out.below hb (Nat.le_refl _))
      have HKba8 := Lib.hid ((hb.block _ (lt_of_block HKba7.out)).trans HKba7.out)
      have HRp8 := Lib.hid (HRp7.out.below hb (Nat.le_refl _))
      have HKbp8 := Lib.hid ((hb.block _ (lt_of_block HKbp7.out)).trans HKbp7.out)
      have HBs1_8 : Hid (Below w1.heap.size w1 w8) := Lib.hid (HBs1_7.out.trans (hb.mono HBs1_7.out.size))
      have HBs3_8 : Hid (Below w3.heap.size w3 w8) := Lib.hid (HBs3_7.out.trans (hb.mono HBs3_7.out.size))
      clear hb
      clear cba0 cba1 fba0 fba1 ltba cbp0 cbp1 fbp0 fbp1 ltbp
      have ltba := lt_of_block HKba8.out
      obtain ⟨cba0, cba1, fba0, fba1⟩ := cell2 HKba8.out
      have ltbp := lt_of_block HKbp8.out
      obtain ⟨cbp0, cbp1, fbp0, fbp1⟩ := cell2 HKbp8.out
      go_wp2_with fail
      refine (HK2.out _ _ _ HRp8.out).mono ?_
      rintro e w9 ⟨rfl, hb⟩
      have HB9 : Hid (Below w.heap.size w w9) := Lib.hid (HB8.out.trans (hb.mono HB8.out.size))
      have HZ9 : Hid (w8.heap.size ≤ w9.heap.size) := Lib.hid hb.size
      have HRk9 := Lib.hid (HRk0.out.below HB9.out (Nat.le_refl _))
      have HRa9 := Lib.hid (HRa8.out.below hb (Nat.le_refl _))
      have HKba9 := Lib.hid ((hb.block _ (lt_of_block HKba8.out)).trans HKba8.out)
      have HRp9 := Lib.hid (HRp8.out.below hb (Nat.le_refl _))
      have HKbp9 := Lib.hid ((hb.block _ (lt_of_block HKbp8.out)).trans HKbp8.out)
      have HBs1_9 : Hid (Below w1.heap.size w1 w9) := Lib.hid (HBs1_8.out.trans (hb.mono HBs1_8.out.size))
      have HBs3_9 : Hid (Below w3.heap.size w3 w9) := Lib.hid (HBs3_8.out.trans (hb.mono HBs3_8.out.size))
      clear hb
      clear cba0 cba1 fba0 fba1 ltba cbp0 cbp1 fbp0 fbp1 ltbp
      have ltba := lt_of_block HKba9.out
      obtain ⟨cba0, cba1, fba0, fba1⟩ := cell2 HKba9.out
      have ltbp := lt_of_block HKbp9.out
      obtain ⟨cbp0, cbp1, fbp0, fbp1⟩ := cell2 HKbp9.out
      go_wp2_with fail
      refine (HK3.out _ _ _ HRp9.out).mono ?_
      rintro e w10 ⟨⟨s1, t1, rfl, ho⟩, hb⟩
      have HB10 : Hid (Below w.heap.size w w10) := Lib.hid (HB9.out.trans (hb.mono HB9.out.size))
      have HZ10 : Hid (w9.heap.size ≤ w10.heap.size) := Lib.hid hb.size
      have HRk10 := Lib.hid (HRk0.out.below HB10.out (Nat.le_refl _))
      have HRa10 := Lib.hid (HRa9.out.below hb (Nat.le_refl _))
      have HKba10 := Lib.hid ((hb.block _ (lt_of_block HKba9.out)).trans HKba9.out)
      have HRp10 := Lib.hid (HRp9.out.below hb (Nat.le_refl _))
      have HKbp10 := Lib.hid ((hb.block _ (lt_of_block HKbp9.out)).trans HKbp9.out)
      have HBs1_10 : Hid (Below w1.heap.size w1 w10) := Lib.hid (HBs1_9.out.trans (hb.mono HBs1_9.out.size))
      have HBs3_10 : Hid (Below w3.heap.size w3 w10) := Lib.hid (HBs3_9.out.trans (hb.mono HBs3_9.out.size))
      clear hb
      obtain ⟨qar, qcr, rar, rcr, rfl, rfl⟩ := ho.form
      have HRr10 := Lib.hid (ho)
      have HBs10_10 : Hid (Below w10.heap.size w10 w10) := Lib.hid (Below.refl _ _)
      clear ho
      clear cba0 cba1 fba0 fba1 ltba cbp0 cbp1 fbp0 fbp1 ltbp
      have ltba := lt_of_block HKba10.out
      obtain ⟨cba0, cba1, fba0, fba1⟩ := cell2 HKba10.out
      have ltbp := lt_of_block HKbp10.out
      obtain ⟨cbp0, cbp1, fbp0, fbp1⟩ := cell2 HKbp10.out
      go_wp2_with fail
      have hb : Below w10.heap.size w10 (w10.alloc (.cells #[.slice qar ls.length qcr, .slice rar ss.length rcr] 26)) := (Below.refl _ _).alloc (Nat.le_refl _) _
      have hk : (w10.alloc (.cells #[.slice qar ls.length qcr, .slice rar ss.length rcr] 26)).heap[w10.heap.size]? = some (.cells #[.slice qar ls.length qcr, .slice rar ss.length rcr] 26 (0, 0)) := alloc_at rfl
      have hz : (w10.alloc (.cells #[.slice qar ls.length qcr, .slice rar ss.length rcr] 26)).heap.size = w10.heap.size + 1 := by simp
      generalize w10.alloc (.cells #[.slice qar ls.length qcr, .slice rar ss.length rcr] 26) = w11 at hb hk hz ⊢
      have HB11 : Hid (Below w.heap.size w w11) := Lib.hid (HB10.out.trans (hb.mono HB10.out.size))
      have HZ11 : Hid (w10.heap.size ≤ w11.heap.size) := Lib.hid hb.size
      have HRk11 := Lib.hid (HRk0.out.below HB11.out (Nat.le_refl _))
      have HRa11 := Lib.hid (HRa10.out.below hb (Nat.le_refl _))
      have HKba11 := Lib.hid ((hb.block _ (lt_of_block HKba10.out)).trans HKba10.out)
      have HRp11 := Lib.hid (HRp10.out.below hb (Nat.le_refl _))
      have HKbp11 := Lib.hid ((hb.block _ (lt_of_block HKbp10.out)).trans HKbp10.out)
      have HRr11 := Lib.hid (HRr10.out.below hb (Nat.le_refl _))
      have HBs1_11 : Hid (Below w1.heap.size w1 w11) := Lib.hid (HBs1_10.out.trans (hb.mono HBs1_10.out.size))
      have HBs3_11 : Hid (Below w3.heap.size w3 w11) := Lib.hid (HBs3_10.out.trans (hb.mono HBs3_10.out.size))
      have HBs10_11 : Hid (Below w10.heap.size w10 w11) := Lib.hid (HBs10_10.out.trans (hb.mono HBs10_10.out.size))
      have HKbr11 := Lib.hid hk
      replace HZ11 : Hid (w10.heap.size < w11.heap.size) := Lib.hid (by omega)
      have HE11 := Lib.hid hz
      clear hb hk hz
      refine (rBoard_yes _ _ _ _ ls ss _ HRr11.out HRa11.out).mono ?_
      rintro e w12 ⟨rfl, hb⟩
      have HB12 : Hid (Below w.heap.size w w12) := Lib.hid (HB11.out.trans (hb.mono HB11.out.size))
      have HZ12 : Hid (w11.heap.size ≤ w12.heap.size) := Lib.hid hb.size
      have HRk12 := Lib.hid (HRk0.out.below HB12.out (Nat.le_refl _))
      have HRa12 := Lib.hid (HRa11.out.below hb (Nat.le_refl _))
      have HKba12 := Lib.hid ((hb.block _ (lt_of_block HKba11.out)).trans HKba11.out)
      have HRp12 := Lib.hid (HRp11.out.below hb (Nat.le_refl _))
      have HKbp12 := Lib.hid ((hb.block _ (lt_of_block HKbp11.out)).trans HKbp11.out)
      have HRr12 := Lib.hid (HRr11.out.below hb (Nat.le_refl _))
      have HKbr12 := Lib.hid ((hb.block _ (lt_of_block HKbr11.out)).trans HKbr11.out)
      have HBs1_12 : Hid (Below w1.heap.size w1 w12) := Lib.hid (HBs1_11.out.trans (hb.mono HBs1_11.out.size))
      have HBs3_12 : Hid (Below w3.heap.size w3 w12) := Lib.hid (HBs3_11.out.trans (hb.mono HBs3_11.out.size))
      have HBs10_12 : Hid (Below w10.heap.size w10 w12) := Lib.hid (HBs10_11.out.trans (hb.mono HBs10_11.out.size))
      clear hb
      clear cba0 cba1 fba0 fba1 ltba cbp0 cbp1 fbp0 fbp1 ltbp
      go_wp2_with fail
      refine (drawBorrowAt_any _ L _ HRk12.out).mono ?_
      rintro e w13 ⟨⟨v1, v2, ms2, ts2, line2, k2, rfl, ho, -, -⟩, hb⟩
      have HB13 : Hid (Below w.heap.size w w13) := Lib.hid (HB12.out.trans (hb.mono HB12.out.size))
      have HZ13 : Hid (w12.heap.size ≤ w13.heap.size) := Lib.hid hb.size
      have HRk13 := Lib.hid (HRk0.out.below HB13.out (Nat.le_refl _))
      clear hb
      obtain ⟨qag, qcg, rag, rcg, rfl, rfl⟩ := ho.1.form
      have HRg13 := Lib.hid (ho.1)
      have HBs13_13 : Hid (Below w13.heap.size w13 w13) := Lib.hid (Below.refl _ _)
      clear ho
      obtain ⟨gs, hs, b2, hS, hI⟩ := ba_same ms2 ts2 line2 k2
      have HS2 := Lib.hid hS
      have HI2 := Lib.hid hI
      clear hS hI
      have hneb2 : (b2 != b2) = false := by simp
      go_wp2_with fail
      have hb : Below w13.heap.size w13 (w13.alloc (.cells #[.slice qag ms2.length qcg, .slice rag ts2.length rcg] 26)) := (Below.refl _ _).alloc (Nat.le_refl _) _
      have hk : (w13.alloc (.cells #[.slice qag ms2.length qcg, .slice rag ts2.length rcg] 26)).heap[w13.heap.size]? = some (.cells #[.slice qag ms2.length qcg, .slice rag ts2.length rcg] 26 (0, 0)) := alloc_at rfl
      have hz : (w13.alloc (.cells #[.slice qag ms2.length qcg, .slice rag ts2.length rcg] 26)).heap.size = w13.heap.size + 1 := by simp
      generalize w13.alloc (.cells #[.slice qag ms2.length qcg, .slice rag ts2.length rcg] 26) = w14 at hb hk hz ⊢
      have HB14 : Hid (Below w.heap.size w w14) := Lib.hid (HB13.out.trans (hb.mono HB13.out.size))
      have HZ14 : Hid (w13.heap.size ≤ w14.heap.size) := Lib.hid hb.size
      have HRk14 := Lib.hid (HRk0.out.below HB14.out (Nat.le_refl _))
      have HRg14 := Lib.hid (HRg13.out.below hb (Nat.le_refl _))
      have HBs13_14 : Hid (Below w13.heap.size w13 w14) := Lib.hid (HBs13_13.out.trans (hb.mono HBs13_13.out.size))
      have HKbg14 := Lib.hid hk
      replace HZ14 : Hid (w13.heap.size < w14.heap.size) := Lib.hid (by omega)
      have HE14 := Lib.hid hz
      clear hb hk hz
      refine (HI2.out _ _ _ HRg14.out).mono ?_
      rintro e w15 ⟨⟨s1, t1, rfl, ho⟩, hb⟩
      have HB15 : Hid (Below w.heap.size w w15) := Lib.hid (HB14.out.trans (hb.mono HB14.out.size))
      have HZ15 : Hid (w14.heap.size ≤ w15.heap.size) := Lib.hid hb.size
      have HRk15 := Lib.hid (HRk0.out.below HB15.out (Nat.le_refl _))
      have HRg15 := Lib.hid (HRg14.out.below hb (Nat.le_refl _))
      have HKbg15 := Lib.hid ((hb.block _ (lt_of_block HKbg14.out)).trans HKbg14.out)
      have HBs13_15 : Hid (Below w13.heap.size w13 w15) := Lib.hid (HBs13_14.out.trans (hb.mono HBs13_14.out.size))
      clear hb
      obtain ⟨qah, qch, rah, rch, rfl, rfl⟩ := ho.form
      have HRh15 := Lib.hid (ho)
      have HBs15_15 : Hid (Below w15.heap.size w15 w15) := Lib.hid (Below.refl _ _)
      clear ho
      have ltbg := lt_of_block HKbg15.out
      obtain ⟨cbg0, cbg1, fbg0, fbg1⟩ := cell2 HKbg15.out
      go_wp2_with fail
      have hb : Below w15.heap.size w15 (w15.alloc (.cells #[.slice qah gs.length qch, .slice rah hs.length rch] 26)) := (Below.refl _ _).alloc (Nat.le_refl _) _
      have hk : (w15.alloc (.cells #[.slice qah gs.length qch, .slice rah hs.length rch] 26)).heap[w15.heap.size]? = some (.cells #[.slice qah gs.length qch, .slice rah hs.length rch] 26 (0, 0)) := alloc_at rfl
      have hz : (w15.alloc (.cells #[.slice qah gs.length qch, .slice rah hs.length rch] 26)).heap.size = w15.heap.size + 1 := by simp
      generalize w15.alloc (.cells #[.slice qah gs.length qch, .slice rah hs.length rch] 26) = w16 at hb hk hz ⊢
      have HB16 : Hid (Below w.heap.size w w16) := Lib.hid (HB15.out.trans (hb.mono HB15.out.size))
      have HZ16 : Hid (w15.heap.size ≤ w16.heap.size) := Lib.hid hb.size
      have HRk16 := Lib.hid (HRk0.out.below HB16.out (Nat.le_refl _))
      have HRg16 := Lib.hid (HRg15.out.below hb (Nat.le_refl _))
      have HKbg16 := Lib.hid ((hb.block _ (lt_of_block HKbg15.out)).trans HKbg15.out)
      have HRh16 := Lib.hid (HRh15.out.below hb (Nat.le_refl _))
      have HBs13_16 : Hid (Below w13.heap.size w13 w16) := Lib.hid (HBs13_15.out.trans (hb.mono HBs13_15.out.size))
      have HBs15_16 : Hid (Below w15.heap.size w15 w16) := Lib.hid (HBs15_15.out.trans (hb.mono HBs15_15.out.size))
      have HKbh16 := Lib.hid hk
      replace HZ16 : Hid (w15.heap.size < w16.heap.size) := Lib.hid (by omega)
      have HE16 := Lib.hid hz
      clear hb hk hz
      refine (HS2.out _ _ _ HRg16.out).mono ?_
      rintro e w17 ⟨⟨s1, t1, rfl, ho⟩, hb⟩
      have HB17 : Hid (Below w.heap.size w w17) := Lib.hid (HB16.out.trans (hb.mono HB16.out.size))
      have HZ17 : Hid (w16.heap.size ≤ w17.heap.size) := Lib.hid hb.size
      have HRk17 := Lib.hid (HRk0.out.below HB17.out (Nat.le_refl _))
      have HRg17 := Lib.hid (HRg16.out.below hb (Nat.le_refl _))
      have HKbg17 := Lib.hid ((hb.block _ (lt_of_block HKbg16.out)).trans HKbg16.out)
      have HRh17 := Lib.hid (HRh16.out.below hb (Nat.le_refl _))
      have HKbh17 := Lib.hid ((hb.block _ (lt_of_block HKbh16.out)).trans HKbh16.out)
      have HBs13_17 : Hid (Below w13.heap.size w13 w17) := Lib.hid (HBs13_16.out.trans (hb.mono HBs13_16.out.size))
      have HBs15_17 : Hid (Below w15.heap.size w15 w17) := Lib.hid (HBs15_16.out.trans (hb.mono HBs15_16.out.size))
      clear hb
      obtain ⟨qai, qci, rai, rci, rfl, rfl⟩ := ho.form
      have HRi17 := Lib.hid (ho)
      have HBs17_17 : Hid (Below w17.heap.size w17 w17) := Lib.hid (Below.refl _ _)
      clear ho
      clear cbg0 cbg1 fbg0 fbg1 ltbg
      have ltbg := lt_of_block HKbg17.out
      obtain ⟨cbg0, cbg1, fbg0, fbg1⟩ := cell2 HKbg17.out
      have ltbh := lt_of_block HKbh17.out
      obtain ⟨cbh0, cbh1, fbh0, fbh1⟩ := cell2 HKbh17.out
      go_wp2_with fail
      have hb : Below w17.heap.size w17 (w17.alloc (.cells #[.slice qai gs.length qci, .slice rai hs.length rci] 26)) := (Below.refl _ _).alloc (Nat.le_refl _) _
      have hk : (w17.alloc (.cells #[.slice qai gs.length qci, .slice rai hs.length rci] 26)).heap[w17.heap.size]? = some (.cells #[.slice qai gs.length qci, .slice rai hs.length rci] 26 (0, 0)) := alloc_at rfl
      have hz : (w17.alloc (.cells #[.slice qai gs.length qci, .slice rai hs.length rci] 26)).heap.size = w17.heap.size + 1 := by simp
      generalize w17.alloc (.cells #[.slice qai gs.length qci, .slice rai hs.length rci] 26) = w18 at hb hk hz ⊢
      have HB18 : Hid (Below w.heap.size w w18) := Lib.hid (HB17.out.trans (hb.mono HB17.out.size))
      have HZ18 : Hid (w17.heap.size ≤ w18.heap.size) := Lib.hid hb.size
      have HRk18 := Lib.hid (HRk0.out.below HB18.out (Nat.le_refl _))
      have HRg18 := Lib.hid (HRg17.out.below hb (Nat.le_refl _))
      have HKbg18 := Lib.hid ((hb.block _ (lt_of_block HKbg17.out)).trans HKbg17.out)
      have HRh18 := Lib.hid (HRh17.out.below hb (Nat.le_refl _))
      have HKbh18 := Lib.hid ((hb.block _ (lt_of_block HKbh17.out)).trans HKbh17.out)
      have HRi18 := Lib.hid (HRi17.out.below hb (Nat.le_refl _))
      have HBs13_18 : Hid (Below w13.heap.size w13 w18) := Lib.hid (HBs13_17.out.trans (hb.mono HBs13_17.out.size))
      have HBs15_18 : Hid (Below w15.heap.size w15 w18) := Lib.hid (HBs15_17.out.trans (hb.mono HBs15_17.out.size))
      have HBs17_18 : Hid (Below w17.heap.size w17 w18) := Lib.hid (HBs17_17.out.trans (hb.mono HBs17_17.out.size))
      have HKbi18 := Lib.hid hk
      replace HZ18 : Hid (w17.heap.size < w18.heap.size) := Lib.hid (by omega)
      have HE18 := Lib.hid hz
      clear hb hk hz
      refine (rBoard_yes _ _ _ _ gs hs _ HRh18.out HRi18.out).mono ?_
      rintro e w19 ⟨rfl, hb⟩
      have HB19 : Hid (Below w.heap.size w w19) := Lib.hid (HB18.out.trans (hb.mono HB18.out.size))
      have HZ19 : Hid (w18.heap.size ≤ w19.heap.size) := Lib.hid hb.size
      have HRk19 := Lib.hid (HRk0.out.below HB19.out (Nat.le_refl _))
      have HRg19 := Lib.hid (HRg18.out.below hb (Nat.le_refl _))
      have HKbg19 := Lib.hid ((hb.block _ (lt_of_block HKbg18.out)).trans HKbg18.out)
      have HRh19 := Lib.hid (HRh18.out.below hb (Nat.le_refl _))
      have HKbh19 := Lib.hid ((hb.block _ (lt_of_block HKbh18.out)).trans HKbh18.out)
      have HRi19 := Lib.hid (HRi18.out.below hb (Nat.le_refl _))
      have HKbi19 := Lib.hid ((hb.block _ (lt_of_block HKbi18.out)).trans HKbi18.out)
      have HBs13_19 : Hid (Below w13.heap.size w13 w19) := Lib.hid (HBs13_18.out.trans (hb.mono HBs13_18.out.size))
      have HBs15_19 : Hid (Below w15.heap.size w15 w19) := Lib.hid (HBs15_18.out.trans (hb.mono HBs15_18.out.size))
      have HBs17_19 : Hid (Below w17.heap.size w17 w19) := Lib.hid (HBs17_18.out.trans (hb.mono HBs17_18.out.size))
      clear hb
      clear cbg0 cbg1 fbg0 fbg1 ltbg cbh0 cbh1 fbh0 fbh1 ltbh
      go_wp2_with fail
      refine (drawJoinBoards_any _ L _ HRk19.out).mono ?_
      rintro e w20 ⟨⟨v1, v2, u1, u2, ms, ts, cs, ds, rfl, ⟨ho, -, -⟩, ho2, -, -⟩, hb⟩
      have HB20 : Hid (Below w.heap.size w w20) := Lib.hid (HB19.out.trans (hb.mono HB19.out.size))
      have HZ20 : Hid (w19.heap.size ≤ w20.heap.size) := Lib.hid hb.size
      have HRk20 := Lib.hid (HRk0.out.below HB20.out (Nat.le_refl _))
      clear hb
      obtain ⟨qac, qcc, rac, rcc, rfl, rfl⟩ := ho.1.form
      obtain ⟨qad, qcd, rad, rcd, rfl, rfl⟩ := ho2.1.form
      have HRc20 := Lib.hid (ho.1)
      have HBs20_20 : Hid (Below w20.heap.size w20 w20) := Lib.hid (Below.refl _ _)
      have HRd20 := Lib.hid (ho2.1)
      clear ho ho2
      obtain ⟨es, fs, b3, hS, hI, hY3⟩ := jb_same ms ts cs ds
      have HS3 := Lib.hid hS
      have HI3 := Lib.hid hI
      clear hS hI
      have hneb3 : (b3 != b3) = false := by simp
      go_wp2_with fail
      have hb : Below w20.heap.size w20 (w20.alloc (.cells #[.slice qac ms.length qcc, .slice rac ts.length rcc] 26)) := (Below.refl _ _).alloc (Nat.le_refl _) _
      have hk : (w20.alloc (.cells #[.slice qac ms.length qcc, .slice rac ts.length rcc] 26)).heap[w20.heap.size]? = some (.cells #[.slice qac ms.length qcc, .slice rac ts.length rcc] 26 (0, 0)) := alloc_at rfl
      have hz : (w20.alloc (.cells #[.slice qac ms.length qcc, .slice rac ts.length rcc] 26)).heap.size = w20.heap.size + 1 := by simp
      generalize w20.alloc (.cells #[.slice qac ms.length qcc, .slice rac ts.length rcc] 26) = w21 at hb hk hz ⊢
      have HB21 : Hid (Below w.heap.size w w21) := Lib.hid (HB20.out.trans (hb.mono HB20.out.size))
      have HZ21 : Hid (w20.heap.size ≤ w21.heap.size) := Lib.hid hb.size
      have HRk21 := Lib.hid (HRk0.out.below HB21.out (Nat.le_refl _))
      have HRc21 := Lib.hid (HRc20.out.below hb (Nat.le_refl _))
      have HRd21 := Lib.hid (HRd20.out.below hb (Nat.le_refl _))
      have HBs20_21 : Hid (Below w20.heap.size w20 w21) := Lib.hid (HBs20_20.out.trans (hb.mono HBs20_20.out.size))
      have HKbc21 := Lib.hid hk
      replace HZ21 : Hid (w20.heap.size < w21.heap.size) := Lib.hid (by omega)
      have HE21 := Lib.hid hz
      clear hb hk hz
      have hb : Below w21.heap.size w21 (w21.alloc (.cells #[.slice qad cs.length qcd, .slice rad ds.length rcd] 26)) := (Below.refl _ _).alloc (Nat.le_refl _) _
      have hk : (w21.alloc (.cells #[.slice qad cs.length qcd, .slice rad ds.length rcd] 26)).heap[w20.heap.size + 1]? = some (.cells #[.slice qad cs.length qcd, .slice rad ds.length rcd] 26 (0, 0)) := alloc_at (by have := HE2.out; have := HE4.out; have := HE6.out; have := HE11.out; have := HE14.out; have := HE16.out; have := HE18.out; have := HE21.out; omega)
      have hz : (w21.alloc (.cells #[.slice qad cs.length qcd, .slice rad ds.length rcd] 26)).heap.size = w21.heap.size + 1 := by simp
      generalize w21.alloc (.cells #[.slice qad cs.length qcd, .slice rad ds.length rcd] 26) = w22 at hb hk hz ⊢
      have HB22 : Hid (Below w.heap.size w w22) := Lib.hid (HB21.out.trans (hb.mono HB21.out.size))
      have HZ22 : Hid (w21.heap.size ≤ w22.heap.size) := Lib.hid hb.size
      have HRk22 := Lib.hid (HRk0.out.below HB22.out (Nat.le_refl _))
      have HRc22 := Lib.hid (HRc21.out.below hb (Nat.le_refl _))
      have HRd22 := Lib.hid (HRd21.out.below hb (Nat.le_refl _))
      have HKbc22 := Lib.hid ((hb.block _ (lt_of_block HKbc21.out)).trans HKbc21.out)
      have HBs20_22 : Hid (Below w20.heap.size w20 w22) := Lib.hid (HBs20_21.out.trans (hb.mono HBs20_21.out.size))
      have HKbd22 := Lib.hid hk
      replace HZ22 : Hid (w21.heap.size < w22.heap.size) := Lib.hid (by omega)
      have HE22 := Lib.hid hz
      clear hb hk hz
      refine (HI3.out _ _ _ _ _ HRc22.out HRd22.out).mono ?_
      rintro e w23 ⟨⟨s1, t1, rfl, ho⟩, hb⟩
      have HB23 : Hid (Below w.heap.size w w23) := Lib.hid (HB22.out.trans (hb.mono HB22.out.size))
      have HZ23 : Hid (w22.heap.size ≤ w23.heap.size) := Lib.hid hb.size
      have HRk23 := Lib.hid (HRk0.out.below HB23.out (Nat.le_refl _))
      have HRc23 := Lib.hid (HRc22.out.below hb (Nat.le_refl _))
      have HRd23 := Lib.hid (HRd22.out.below hb (Nat.le_refl _))
      have HKbc23 := Lib.hid ((hb.block _ (lt_of_block HKbc22.out)).trans HKbc22.out)
      have HKbd23 := Lib.hid ((hb.block _ (lt_of_block HKbd22.out)).trans HKbd22.out)
      have HBs20_23 : Hid (Below w20.heap.size w20 w23) := Lib.hid (HBs20_22.out.trans (hb.mono HBs20_22.out.size))
      clear hb
      obtain ⟨qae, qce, rae, rce, rfl, rfl⟩ := ho.form
      have HRe23 := Lib.hid (ho)
      have HBs23_23 : Hid (Below w23.heap.size w23 w23) := Lib.hid (Below.refl _ _)
      clear ho
      have ltbc := lt_of_block HKbc23.out
      obtain ⟨cbc0, cbc1, fbc0, fbc1⟩ := cell2 HKbc23.out
      have ltbd := lt_of_block HKbd23.out
      obtain ⟨cbd0, cbd1, fbd0, fbd1⟩ := cell2 HKbd23.out
      go_wp2_with fail
      have hb : Below w23.heap.size w23 (w23.alloc (.cells #[.slice qae es.length qce, .slice rae fs.length rce] 26)) := (Below.refl _ _).alloc (Nat.le_refl _) _
      have hk : (w23.alloc (.cells #[.slice qae es.length qce, .slice rae fs.length rce] 26)).heap[w23.heap.size]? = some (.cells #[.slice qae es.length qce, .slice rae fs.length rce] 26 (0, 0)) := alloc_at rfl
      have hz : (w23.alloc (.cells #[.slice qae es.length qce, .slice rae fs.length rce] 26)).heap.size = w23.heap.size + 1 := by simp
      generalize w23.alloc (.cells #[.slice qae es.length qce, .slice rae fs.length rce] 26) = w24 at hb hk hz ⊢
      have HB24 : Hid (Below w.heap.size w w24) := Lib.hid (HB23.out.trans (hb.mono HB23.out.size))
      have HZ24 : Hid (w23.heap.size ≤ w24.heap.size) := Lib.hid hb.size
      have HRk24 := Lib.hid (HRk0.out.below HB24.out (Nat.le_refl _))
      have HRc24 := Lib.hid (HRc23.out.below hb (Nat.le_refl _))
      have HRd24 := Lib.hid (HRd23.out.below hb (Nat.le_refl _))
      have HKbc24 := Lib.hid ((hb.block _ (lt_of_block HKbc23.out)).trans HKbc23.out)
      have HKbd24 := Lib.hid ((hb.block _ (lt_of_block HKbd23.out)).trans HKbd23.out)
      have HRe24 := Lib.hid (HRe23.out.below hb (Nat.le_refl _))
      have HBs20_24 : Hid (Below w20.heap.size w20 w24) := Lib.hid (HBs20_23.out.trans (hb.mono HBs20_23.out.size))
      have HBs23_24 : Hid (Below w23.heap.size w23 w24) := Lib.hid (HBs23_23.out.trans (hb.mono HBs23_23.out.size))
      have HKbe24 := Lib.hid hk
      replace HZ24 : Hid (w23.heap.size < w24.heap.size) := Lib.hid (by omega)
      have HE24 := Lib.hid hz
      clear hb hk hz
      refine (HS3.out _ _ _ _ _ HRc24.out HRd24.out).mono ?_
      rintro e w25 ⟨⟨s1, t1, rfl, ho⟩, hb⟩
      have HB25 : Hid (Below w.heap.size w w25) := Lib.hid (HB24.out.trans (hb.mono HB24.out.size))
      have HZ25 : Hid (w24.heap.size ≤ w25.heap.size) := Lib.hid hb.size
      have HRk25 := Lib.hid (HRk0.out.below HB25.out (Nat.le_refl _))
      have HRc25 := Lib.hid (HRc24.out.below hb (Nat.le_refl _))
      have HRd25 := Lib.hid (HRd24.out.below hb (Nat.le_refl _))
      have HKbc25 := Lib.hid ((hb.block _ (lt_of_block HKbc24.out)).trans HKbc24.out)
      have HKbd25 := Lib.hid ((hb.block _ (lt_of_block HKbd24.out)).trans HKbd24.out)
      have HRe25 := Lib.hid (HRe24.out.below hb (Nat.le_refl _))
      have HKbe25 := Lib.hid ((hb.block _ (lt_of_block HKbe24.out)).trans HKbe24.out)
      have HBs20_25 : Hid (Below w20.heap.size w20 w25) := Lib.hid (HBs20_24.out.trans (hb.mono HBs20_24.out.size))
      have HBs23_25 : Hid (Below w23.heap.size w23 w25) := Lib.hid (HBs23_24.out.trans (hb.mono HBs23_24.out.size))
      clear hb
      obtain ⟨qaf, qcf, raf, rcf, rfl, rfl⟩ := ho.form
      have HRf25 := Lib.hid (ho)
      have HBs25_25 : Hid (Below w25.heap.size w25 w25) := Lib.hid (Below.refl _ _)
      clear ho
      clear cbc0 cbc1 fbc0 fbc1 ltbc cbd0 cbd1 fbd0 fbd1 ltbd
      have ltbc := lt_of_block HKbc25.out
      obtain ⟨cbc0, cbc1, fbc0, fbc1⟩ := cell2 HKbc25.out
      have ltbd := lt_of_block HKbd25.out
      obtain ⟨cbd0, cbd1, fbd0, fbd1⟩ := cell2 HKbd25.out
      have ltbe := lt_of_block HKbe25.out
      obtain ⟨cbe0, cbe1, fbe0, fbe1⟩ := cell2 HKbe25.out
      go_wp2_with fail
      have hb : Below w25.heap.size w25 (w25.alloc (.cells #[.slice qaf es.length qcf, .slice raf fs.length rcf] 26)) := (Below.refl _ _).alloc (Nat.le_refl _) _
      have hk : (w25.alloc (.cells #[.slice qaf es.length qcf, .slice raf fs.length rcf] 26)).heap[w25.heap.size]? = some (.cells #[.slice qaf es.length qcf, .slice raf fs.length rcf] 26 (0, 0)) := alloc_at rfl
      have hz : (w25.alloc (.cells #[.slice qaf es.length qcf, .slice raf fs.length rcf] 26)).heap.size = w25.heap.size + 1 := by simp
      generalize w25.alloc (.cells #[.slice qaf es.length qcf, .slice raf fs.length rcf] 26) = w26 at hb hk hz ⊢
      have HB26 : Hid (Below w.heap.size w w26) := Lib.hid (HB25.out.trans (hb.mono HB25.out.size))
      have HZ26 : Hid (w25.heap.size ≤ w26.heap.size) := Lib.hid hb.size
      have HRk26 := Lib.hid (HRk0.out.below HB26.out (Nat.le_refl _))
      have HRc26 := Lib.hid (HRc25.out.below hb (Nat.le_refl _))
      have HRd26 := Lib.hid (HRd25.out.below hb (Nat.le_refl _))
      have HKbc26 := Lib.hid ((hb.block _ (lt_of_block HKbc25.out)).trans HKbc25.out)
      have HKbd26 := Lib.hid ((hb.block _ (lt_of_block HKbd25.out)).trans HKbd25.out)
      have HRe26 := Lib.hid (HRe25.out.below hb (Nat.le_refl _))
      have HKbe26 := Lib.hid ((hb.block _ (lt_of_block HKbe25.out)).trans HKbe25.out)
      have HRf26 := Lib.hid (HRf25.out.below hb (Nat.le_refl _))
      have HBs20_26 : Hid (Below w20.heap.size w20 w26) := Lib.hid (HBs20_25.out.trans (hb.mono HBs20_25.out.size))
      have HBs23_26 : Hid (Below w23.heap.size w23 w26) := Lib.hid (HBs23_25.out.trans (hb.mono HBs23_25.out.size))
      have HBs25_26 : Hid (Below w25.heap.size w25 w26) := Lib.hid (HBs25_25.out.trans (hb.mono HBs25_25.out.size))
      have HKbf26 := Lib.hid hk
      replace HZ26 : Hid (w25.heap.size < w26.heap.size) := Lib.hid (by omega)
      have HE26 := Lib.hid hz
      clear hb hk hz
      refine (rBoard_yes _ _ _ _ es fs _ HRe26.out HRf26.out).mono ?_
      rintro e w27 ⟨rfl, hb⟩
      have HB27 : Hid (Below w.heap.size w w27) := Lib.hid (HB26.out.trans (hb.mono HB26.out.size))
      have HZ27 : Hid (w26.heap.size ≤ w27.heap.size) := Lib.hid hb.size
      have HRk27 := Lib.hid (HRk0.out.below HB27.out (Nat.le_refl _))
      have HRc27 := Lib.hid (HRc26.out.below hb (Nat.le_refl _))
      have HRd27 := Lib.hid (HRd26.out.below hb (Nat.le_refl _))
      have HKbc27 := Lib.hid ((hb.block _ (lt_of_block HKbc26.out)).trans HKbc26.out)
      have HKbd27 := Lib.hid ((hb.block _ (lt_of_block HKbd26.out)).trans HKbd26.out)
      have HRe27 := Lib.hid (HRe26.out.below hb (Nat.le_refl _))
      have HKbe27 := Lib.hid ((hb.block _ (lt_of_block HKbe26.out)).trans HKbe26.out)
      have HRf27 := Lib.hid (HRf26.out.below hb (Nat.le_refl _))
      have HKbf27 := Lib.hid ((hb.block _ (lt_of_block HKbf26.out)).trans HKbf26.out)
      have HBs20_27 : Hid (Below w20.heap.size w20 w27) := Lib.hid (HBs20_26.out.trans (hb.mono HBs20_26.out.size))
      have HBs23_27 : Hid (Below w23.heap.size w23 w27) := Lib.hid (HBs23_26.out.trans (hb.mono HBs23_26.out.size))
      have HBs25_27 : Hid (Below w25.heap.size w25 w27) := Lib.hid (HBs25_26.out.trans (hb.mono HBs25_26.out.size))
      clear hb
      cases b3 with
      | true =>
        obtain ⟨x3, y3, z3, k1, k2, k3, hw3⟩ := hY3 rfl
        have HK31 := Lib.hid k1
        have HK32 := Lib.hid k2
        have HK33 := Lib.hid k3
        clear hY3 k1 k2 k3
        have hnez3 : (z3 != z3) = false := by simp
        clear cbc0 cbc1 fbc0 fbc1 ltbc cbd0 cbd1 fbd0 fbd1 ltbd cbe0 cbe1 fbe0 fbe1 ltbe
        have ltbc := lt_of_block HKbc27.out
        obtain ⟨cbc0, cbc1, fbc0, fbc1⟩ := cell2 HKbc27.out
        have ltbd := lt_of_block HKbd27.out
        obtain ⟨cbd0, cbd1, fbd0, fbd1⟩ := cell2 HKbd27.out
        have ltbe := lt_of_block HKbe27.out
        obtain ⟨cbe0, cbe1, fbe0, fbe1⟩ := cell2 HKbe27.out
        go_wp2_with fail
        refine (HK31.out _ _ _ HRc27.out).mono ?_
        rintro e w28 ⟨rfl, hb⟩
        have HB28 : Hid (Below w.heap.size w w28) := Lib.hid (HB27.out.trans (hb.mono HB27.out.size))
        have HZ28 : Hid (w27.heap.size ≤ w28.heap.size) := Lib.hid hb.size
        have HRk28 := Lib.hid (HRk0.out.below HB28.out (Nat.le_refl _))
        have HRc28 := Lib.hid (HRc27.out.below hb (Nat.le_refl _))
        have HRd28 := Lib.hid (HRd27.out.below hb (Nat.le_refl _))
        have HKbc28 := Lib.hid ((hb.block _ (lt_of_block HKbc27.out)).trans HKbc27.out)
        have HKbd28 := Lib.hid ((hb.block _ (lt_of_block HKbd27.out)).trans HKbd27.out)
        have HRe28 := Lib.hid (HRe27.out.below hb (Nat.le_refl _))
        have HKbe28 := Lib.hid ((hb.block _ (lt_of_block HKbe27.out)).trans HKbe27.out)
        have HBs20_28 : Hid (Below w20.heap.size w20 w28) := Lib.hid (HBs20_27.out.trans (hb.mono HBs20_27.out.size))
        have HBs23_28 : Hid (Below w23.heap.size w23 w28) := Lib.hid (HBs23_27.out.trans (hb.mono HBs23_27.out.size))
        clear hb
        clear cbc0 cbc1 fbc0 fbc1 ltbc cbd0 cbd1 fbd0 fbd1 ltbd cbe0 cbe1 fbe0 fbe1 ltbe
        have ltbc := lt_of_block HKbc28.out
        obtain ⟨cbc0, cbc1, fbc0, fbc1⟩ := cell2 HKbc28.out
        have ltbd := lt_of_block HKbd28.out
        obtain ⟨cbd0, cbd1, fbd0, fbd1⟩ := cell2 HKbd28.out
        have ltbe := lt_of_block HKbe28.out
        obtain ⟨cbe0, cbe1, fbe0, fbe1⟩ := cell2 HKbe28.out
        go_wp2_with fail
        refine (HK32.out _ _ _ HRd28.out).mono ?_
        rintro e w29 ⟨rfl, hb⟩
        have HB29 : Hid (Below w.heap.size w w29) := Lib.hid (HB28.out.trans (hb.mono HB28.out.size))
        have HZ29 : Hid (w28.heap.size ≤ w29.heap.size) := Lib.hid hb.size
        have HRk29 := Lib.hid (HRk0.out.below HB29.out (Nat.le_refl _))
        have HRc29 := Lib.hid (HRc28.out.below hb (Nat.le_refl _))
        have HRd29 := Lib.hid (HRd28.out.below hb (Nat.le_refl _))
        have HKbc29 := Lib.hid ((hb.block _ (lt_of_block HKbc28.out)).trans HKbc28.out)
        have HKbd29 := Lib.hid ((hb.block _ (lt_of_block HKbd28.out)).trans HKbd28.out)
        have HRe29 := Lib.hid (HRe28.out.below hb (Nat.le_refl _))
        have HKbe29 := Lib.hid ((hb.block _ (lt_of_block HKbe28.out)).trans HKbe28.out)
        have HBs20_29 : Hid (Below w20.heap.size w20 w29) := Lib.hid (HBs20_28.out.trans (hb.mono HBs20_28.out.size))
        have HBs23_29 : Hid (Below w23.heap.size w23 w29) := Lib.hid (HBs23_28.out.trans (hb.mono HBs23_28.out.size))
        clear hb
        clear cbc0 cbc1 fbc0 fbc1 ltbc cbd0 cbd1 fbd0 fbd1 ltbd cbe0 cbe1 fbe0 fbe1 ltbe
        have ltbc := lt_of_block HKbc29.out
        obtain ⟨cbc0, cbc1, fbc0, fbc1⟩ := cell2 HKbc29.out
        have ltbd := lt_of_block HKbd29.out
        obtain ⟨cbd0, cbd1, fbd0, fbd1⟩ := cell2 HKbd29.out
        have ltbe := lt_of_block HKbe29.out
        obtain ⟨cbe0, cbe1, fbe0, fbe1⟩ := cell2 HKbe29.out
        go_wp2_with fail
        refine (HK33.out _ _ _ HRe29.out).mono ?_
        rintro e w30 ⟨rfl, hb⟩
        have HB30 : Hid (Below w.heap.size w w30) := Lib.hid (HB29.out.trans (hb.mono HB29.out.size))
        have HZ30 : Hid (w29.heap.size ≤ w30.heap.size) := Lib.hid hb.size
        have HRk30 := Lib.hid (HRk0.out.below HB30.out (Nat.le_refl _))
        have HRc30 := Lib.hid (HRc29.out.below hb (Nat.le_refl _))
        have HRd30 := Lib.hid (HRd29.out.below hb (Nat.le_refl _))
        have HKbc30 := Lib.hid ((hb.block _ (lt_of_block HKbc29.out)).trans HKbc29.out)
        have HKbd30 := Lib.hid ((hb.block _ (lt_of_block HKbd29.out)).trans HKbd29.out)
        have HRe30 := Lib.hid (HRe29.out.below hb (Nat.le_refl _))
        have HKbe30 := Lib.hid ((hb.block _ (lt_of_block HKbe29.out)).trans HKbe29.out)
        have HBs20_30 : Hid (Below w20.heap.size w20 w30) := Lib.hid (HBs20_29.out.trans (hb.mono HBs20_29.out.size))
        have HBs23_30 : Hid (Below w23.heap.size w23 w30) := Lib.hid (HBs23_29.out.trans (hb.mono HBs23_29.out.size))
        clear hb
        clear cbc0 cbc1 fbc0 fbc1 ltbc cbd0 cbd1 fbd0 fbd1 ltbd cbe0 cbe1 fbe0 fbe1 ltbe
        go_wp2_with fail
        refine (drawCountersOn_any _ L _ HRk30.out).mono ?_
        rintro e w31 ⟨⟨v1, v2, ms4, ts4, rfl, ho, -, -⟩, hb⟩
        have HB31 : Hid (Below w.heap.size w w31) := Lib.hid (HB30.out.trans (hb.mono HB30.out.size))
        have HZ31 : Hid (w30.heap.size ≤ w31.heap.size) := Lib.hid hb.size
        have HRk31 := Lib.hid (HRk0.out.below HB31.out (Nat.le_refl _))
        clear hb
        obtain ⟨qam, qcm, ram, rcm, rfl, rfl⟩ := ho.1.form
        have HRm31 := Lib.hid (ho.1)
        have HBs31_31 : Hid (Below w31.heap.size w31 w31) := Lib.hid (Below.refl _ _)
        clear ho
        obtain ⟨x4, b4, hS, hI⟩ := cn_same ms4 ts4
        have HS4 := Lib.hid hS
        have HI4 := Lib.hid hI
        clear hS hI
        have hnex4 : (x4 != x4) = false := by simp
        have hneb4 : (b4 != b4) = false := by simp
        obtain ⟨s5, b5, hS, hI, hB5⟩ := bt_same ms4 ts4
        have HS5 := Lib.hid hS
        have HI5 := Lib.hid hI
        have HQ5 := Lib.hid hB5
        clear hS hI hB5
        have heqb5 : (b5 == b5) = true := by simp
        have hs5 : (s5.toList == s5.toList) = true := by simp
        go_wp2_with fail
        have hb : Below w31.heap.size w31 (w31.alloc (.cells #[.slice qam ms4.length qcm, .slice ram ts4.length rcm] 26)) := (Below.refl _ _).alloc (Nat.le_refl _) _
        have hk : (w31.alloc (.cells #[.slice qam ms4.length qcm, .slice ram ts4.length rcm] 26)).heap[w31.heap.size]? = some (.cells #[.slice qam ms4.length qcm, .slice ram ts4.length rcm] 26 (0, 0)) := alloc_at rfl
        have hz : (w31.alloc (.cells #[.slice qam ms4.length qcm, .slice ram ts4.length rcm] 26)).heap.size = w31.heap.size + 1 := by simp
        generalize w31.alloc (.cells #[.slice qam ms4.length qcm, .slice ram ts4.length rcm] 26) = w32 at hb hk hz ⊢
        have HB32 : Hid (Below w.heap.size w w32) := Lib.hid (HB31.out.trans (hb.mono HB31.out.size))
        have HZ32 : Hid (w31.heap.size ≤ w32.heap.size) := Lib.hid hb.size
        have HRk32 := Lib.hid (HRk0.out.below HB32.out (Nat.le_refl _))
        have HRm32 := Lib.hid (HRm31.out.below hb (Nat.le_refl _))
        have HBs31_32 : Hid (Below w31.heap.size w31 w32) := Lib.hid (HBs31_31.out.trans (hb.mono HBs31_31.out.size))
        have HKbm32 := Lib.hid hk
        replace HZ32 : Hid (w31.heap.size < w32.heap.size) := Lib.hid (by omega)
        have HE32 := Lib.hid hz
        clear hb hk hz
        refine (HI4.out _ _ _ HRm32.out).mono ?_
        rintro e w33 ⟨rfl, hb⟩
        have HB33 : Hid (Below w.heap.size w w33) := Lib.hid (HB32.out.trans (hb.mono HB32.out.size))
        have HZ33 : Hid (w32.heap.size ≤ w33.heap.size) := Lib.hid hb.size
        have HRk33 := Lib.hid (HRk0.out.below HB33.out (Nat.le_refl _))
        have HRm33 := Lib.hid (HRm32.out.below hb (Nat.le_refl _))
        have HKbm33 := Lib.hid ((hb.block _ (lt_of_block HKbm32.out)).trans HKbm32.out)
        have HBs31_33 : Hid (Below w31.heap.size w31 w33) := Lib.hid (HBs31_32.out.trans (hb.mono HBs31_32.out.size))
        clear hb
        have ltbm := lt_of_block HKbm33.out
        obtain ⟨cbm0, cbm1, fbm0, fbm1⟩ := cell2 HKbm33.out
        go_wp2_with fail
        refine (HS4.out _ _ _ HRm33.out).mono ?_
        rintro e w34 ⟨rfl, hb⟩
        have HB34 : Hid (Below w.heap.size w w34) := Lib.hid (HB33.out.trans (hb.mono HB33.out.size))
        have HZ34 : Hid (w33.heap.size ≤ w34.heap.size) := Lib.hid hb.size
        have HRk34 := Lib.hid (HRk0.out.below HB34.out (Nat.le_refl _))
        have HRm34 := Lib.hid (HRm33.out.below hb (Nat.le_refl _))
        have HKbm34 := Lib.hid ((hb.block _ (lt_of_block HKbm33.out)).trans HKbm33.out)
        have HBs31_34 : Hid (Below w31.heap.size w31 w34) := Lib.hid (HBs31_33.out.trans (hb.mono HBs31_33.out.size))
        clear hb
        clear cbm0 cbm1 fbm0 fbm1 ltbm
        have ltbm := lt_of_block HKbm34.out
        obtain ⟨cbm0, cbm1, fbm0, fbm1⟩ := cell2 HKbm34.out
        go_wp2_with fail
        refine (HI5.out _ _ _ (tab_below HT.out HB34.out) HRm34.out).mono ?_
        rintro e w35 ⟨rfl, hb⟩
        have HB35 : Hid (Below w.heap.size w w35) := Lib.hid (HB34.out.trans (hb.mono HB34.out.size))
        have HZ35 : Hid (w34.heap.size ≤ w35.heap.size) := Lib.hid hb.size
        have HRk35 := Lib.hid (HRk0.out.below HB35.out (Nat.le_refl _))
        have HRm35 := Lib.hid (HRm34.out.below hb (Nat.le_refl _))
        have HKbm35 := Lib.hid ((hb.block _ (lt_of_block HKbm34.out)).trans HKbm34.out)
        have HBs31_35 : Hid (Below w31.heap.size w31 w35) := Lib.hid (HBs31_34.out.trans (hb.mono HBs31_34.out.size))
        clear hb
        clear cbm0 cbm1 fbm0 fbm1 ltbm
        have ltbm := lt_of_block HKbm35.out
        obtain ⟨cbm0, cbm1, fbm0, fbm1⟩ := cell2 HKbm35.out
        go_wp2_with fail
        refine (HS5.out _ _ _ HRm35.out).mono ?_
        rintro e w36 ⟨rfl, hb⟩
        have HB36 : Hid (Below w.heap.size w w36) := Lib.hid (HB35.out.trans (hb.mono HB35.out.size))
        have HZ36 : Hid (w35.heap.size ≤ w36.heap.size) := Lib.hid hb.size
        have HRk36 := Lib.hid (HRk0.out.below HB36.out (Nat.le_refl _))
        have HRm36 := Lib.hid (HRm35.out.below hb (Nat.le_refl _))
        have HKbm36 := Lib.hid ((hb.block _ (lt_of_block HKbm35.out)).trans HKbm35.out)
        have HBs31_36 : Hid (Below w31.heap.size w31 w36) := Lib.hid (HBs31_35.out.trans (hb.mono HBs31_35.out.size))
        clear hb
        clear cbm0 cbm1 fbm0 fbm1 ltbm
        have ltbm := lt_of_block HKbm36.out
        obtain ⟨cbm0, cbm1, fbm0, fbm1⟩ := cell2 HKbm36.out
        go_wp2_with fail
        refine (HQ5.out _ _ _ HRm36.out).mono ?_
        rintro e w37 ⟨rfl, hb⟩
        have HB37 : Hid (Below w.heap.size w w37) := Lib.hid (HB36.out.trans (hb.mono HB36.out.size))
        have HZ37 : Hid (w36.heap.size ≤ w37.heap.size) := Lib.hid hb.size
        have HRk37 := Lib.hid (HRk0.out.below HB37.out (Nat.le_refl _))
        have HRm37 := Lib.hid (HRm36.out.below hb (Nat.le_refl _))
        have HKbm37 := Lib.hid ((hb.block _ (lt_of_block HKbm36.out)).trans HKbm36.out)
        have HBs31_37 : Hid (Below w31.heap.size w31 w37) := Lib.hid (HBs31_36.out.trans (hb.mono HBs31_36.out.size))
        clear hb
        clear cbm0 cbm1 fbm0 fbm1 ltbm
        go_wp2_with fail
        go_ret
        exact ⟨ret_bool (by first | (simp; done) | rfl), HB37.out⟩
      | false =>
        clear hY3
        clear cbc0 cbc1 fbc0 fbc1 ltbc cbd0 cbd1 fbd0 fbd1 ltbd cbe0 cbe1 fbe0 fbe1 ltbe
        go_wp2_with fail
        refine (drawCountersOn_any _ L _ HRk27.out).mono ?_
        rintro e w28 ⟨⟨v1, v2, ms4, ts4, rfl, ho, -, -⟩, hb⟩
        have HB28 : Hid (Below w.heap.size w w28) := Lib.hid (HB27.out.trans (hb.mono HB27.out.size))
        have HZ28 : Hid (w27.heap.size ≤ w28.heap.size) := Lib.hid hb.size
        have HRk28 := Lib.hid (HRk0.out.below HB28.out (Nat.le_refl _))
        clear hb
        obtain ⟨qam, qcm, ram, rcm, rfl, rfl⟩ := ho.1.form
        have HRm28 := Lib.hid (ho.1)
        have HBs28_28 : Hid (Below w28.heap.size w28 w28) := Lib.hid (Below.refl _ _)
        clear ho
        obtain ⟨x4, b4, hS, hI⟩ := cn_same ms4 ts4
        have HS4 := Lib.hid hS
        have HI4 := Lib.hid hI
        clear hS hI
        have hnex4 : (x4 != x4) = false := by simp
        have hneb4 : (b4 != b4) = false := by simp
        obtain ⟨s5, b5, hS, hI, hB5⟩ := bt_same ms4 ts4
        have HS5 := Lib.hid hS
        have HI5 := Lib.hid hI
        have HQ5 := Lib.hid hB5
        clear hS hI hB5
        have heqb5 : (b5 == b5) = true := by simp
        have hs5 : (s5.toList == s5.toList) = true := by simp
        go_wp2_with fail
        have hb : Below w28.heap.size w28 (w28.alloc (.cells #[.slice qam ms4.length qcm, .slice ram ts4.length rcm] 26)) := (Below.refl _ _).alloc (Nat.le_refl _) _
        have hk : (w28.alloc (.cells #[.slice qam ms4.length qcm, .slice ram ts4.length rcm] 26)).heap[w28.heap.size]? = some (.cells #[.slice qam ms4.length qcm, .slice ram ts4.length rcm] 26 (0, 0)) := alloc_at rfl
        have hz : (w28.alloc (.cells #[.slice qam ms4.length qcm, .slice ram ts4.length rcm] 26)).heap.size = w28.heap.size + 1 := by simp
        generalize w28.alloc (.cells #[.slice qam ms4.length qcm, .slice ram ts4.length rcm] 26) = w29 at hb hk hz ⊢
        have HB29 : Hid (Below w.heap.size w w29) := Lib.hid (HB28.out.trans (hb.mono HB28.out.size))
        have HZ29 : Hid (w28.heap.size ≤ w29.heap.size) := Lib.hid hb.size
        have HRk29 := Lib.hid (HRk0.out.below HB29.out (Nat.le_refl _))
        have HRm29 := Lib.hid (HRm28.out.below hb (Nat.le_refl _))
        have HBs28_29 : Hid (Below w28.heap.size w28 w29) := Lib.hid (HBs28_28.out.trans (hb.mono HBs28_28.out.size))
        have HKbm29 := Lib.hid hk
        replace HZ29 : Hid (w28.heap.size < w29.heap.size) := Lib.hid (by omega)
        have HE29 := Lib.hid hz
        clear hb hk hz
        refine (HI4.out _ _ _ HRm29.out).mono ?_
        rintro e w30 ⟨rfl, hb⟩
        have HB30 : Hid (Below w.heap.size w w30) := Lib.hid (HB29.out.trans (hb.mono HB29.out.size))
        have HZ30 : Hid (w29.heap.size ≤ w30.heap.size) := Lib.hid hb.size
        have HRk30 := Lib.hid (HRk0.out.below HB30.out (Nat.le_refl _))
        have HRm30 := Lib.hid (HRm29.out.below hb (Nat.le_refl _))
        have HKbm30 := Lib.hid ((hb.block _ (lt_of_block HKbm29.out)).trans HKbm29.out)
        have HBs28_30 : Hid (Below w28.heap.size w28 w30) := Lib.hid (HBs28_29.out.trans (hb.mono HBs28_29.out.size))
        clear hb
        have ltbm := lt_of_block HKbm30.out
        obtain ⟨cbm0, cbm1, fbm0, fbm1⟩ := cell2 HKbm30.out
        go_wp2_with fail
        refine (HS4.out _ _ _ HRm30.out).mono ?_
        rintro e w31 ⟨rfl, hb⟩
        have HB31 : Hid (Below w.heap.size w w31) := Lib.hid (HB30.out.trans (hb.mono HB30.out.size))
        have HZ31 : Hid (w30.heap.size ≤ w31.heap.size) := Lib.hid hb.size
        have HRk31 := Lib.hid (HRk0.out.below HB31.out (Nat.le_refl _))
        have HRm31 := Lib.hid (HRm30.out.below hb (Nat.le_refl _))
        have HKbm31 := Lib.hid ((hb.block _ (lt_of_block HKbm30.out)).trans HKbm30.out)
        have HBs28_31 : Hid (Below w28.heap.size w28 w31) := Lib.hid (HBs28_30.out.trans (hb.mono HBs28_30.out.size))
        clear hb
        clear cbm0 cbm1 fbm0 fbm1 ltbm
        have ltbm := lt_of_block HKbm31.out
        obtain ⟨cbm0, cbm1, fbm0, fbm1⟩ := cell2 HKbm31.out
        go_wp2_with fail
        refine (HI5.out _ _ _ (tab_below HT.out HB31.out) HRm31.out).mono ?_
        rintro e w32 ⟨rfl, hb⟩
        have HB32 : Hid (Below w.heap.size w w32) := Lib.hid (HB31.out.trans (hb.mono HB31.out.size))
        have HZ32 : Hid (w31.heap.size ≤ w32.heap.size) := Lib.hid hb.size
        have HRk32 := Lib.hid (HRk0.out.below HB32.out (Nat.le_refl _))
        have HRm32 := Lib.hid (HRm31.out.below hb (Nat.le_refl _))
        have HKbm32 := Lib.hid ((hb.block _ (lt_of_block HKbm31.out)).trans HKbm31.out)
        have HBs28_32 : Hid (Below w28.heap.size w28 w32) := Lib.hid (HBs28_31.out.trans (hb.mono HBs28_31.out.size))
        clear hb
        clear cbm0 cbm1 fbm0 fbm1 ltbm
        have ltbm := lt_of_block HKbm32.out
        obtain ⟨cbm0, cbm1, fbm0, fbm1⟩ := cell2 HKbm32.out
        go_wp2_with fail
        refine (HS5.out _ _ _ HRm32.out).mono ?_
        rintro e w33 ⟨rfl, hb⟩
        have HB33 : Hid (Below w.heap.size w w33) := Lib.hid (HB32.out.trans (hb.mono HB32.out.size))
        have HZ33 : Hid (w32.heap.size ≤ w33.heap.size) := Lib.hid hb.size
        have HRk33 := Lib.hid (HRk0.out.below HB33.out (Nat.le_refl _))
        have HRm33 := Lib.hid (HRm32.out.below hb (Nat.le_refl _))
        have HKbm33 := Lib.hid ((hb.block _ (lt_of_block HKbm32.out)).trans HKbm32.out)
        have HBs28_33 : Hid (Below w28.heap.size w28 w33) := Lib.hid (HBs28_32.out.trans (hb.mono HBs28_32.out.size))
        clear hb
        clear cbm0 cbm1 fbm0 fbm1 ltbm
        have ltbm := lt_of_block HKbm33.out
        obtain ⟨cbm0, cbm1, fbm0, fbm1⟩ := cell2 HKbm33.out
        go_wp2_with fail
        refine (HQ5.out _ _ _ HRm33.out).mono ?_
        rintro e w34 ⟨rfl, hb⟩
        have HB34 : Hid (Below w.heap.size w w34) := Lib.hid (HB33.out.trans (hb.mono HB33.out.size))
        have HZ34 : Hid (w33.heap.size ≤ w34.heap.size) := Lib.hid hb.size
        have HRk34 := Lib.hid (HRk0.out.below HB34.out (Nat.le_refl _))
        have HRm34 := Lib.hid (HRm33.out.below hb (Nat.le_refl _))
        have HKbm34 := Lib.hid ((hb.block _ (lt_of_block HKbm33.out)).trans HKbm33.out)
        have HBs28_34 : Hid (Below w28.heap.size w28 w34) := Lib.hid (HBs28_33.out.trans (hb.mono HBs28_33.out.size))
        clear hb
        clear cbm0 cbm1 fbm0 fbm1 ltbm
        go_wp2_with fail
        go_ret
        exact ⟨ret_bool (by first | (simp; done) | rfl), HB34.out⟩
    | false =>
      clear hY
      clear cba0 cba1 fba0 fba1 ltba cbp0 cbp1 fbp0 fbp1 ltbp
      go_wp2_with fail
      refine (drawBorrowAt_any _ L _ HRk7.out).mono ?_
      rintro e w8 ⟨⟨v1, v2, ms2, ts2, line2, k2, rfl, ho, -, -⟩, hb⟩
      have HB8 : Hid (Below w.heap.size w w8) := Lib.hid (HB7.out.trans (hb.mono HB7.out.size))
      have HZ8 : Hid (w7.heap.size ≤ w8.heap.size) := Lib.hid hb.size
      have HRk8 := Lib.hid (HRk0.out.below HB8.out (Nat.le_refl _))
      clear hb
      obtain ⟨qag, qcg, rag, rcg, rfl, rfl⟩ := ho.1.form
      have HRg8 := Lib.hid (ho.1)
      have HBs8_8 : Hid (Below w8.heap.size w8 w8) := Lib.hid (Below.refl _ _)
      clear ho
      obtain ⟨gs, hs, b2, hS, hI⟩ := ba_same ms2 ts2 line2 k2
      have HS2 := Lib.hid hS
      have HI2 := Lib.hid hI
      clear hS hI
      have hneb2 : (b2 != b2) = false := by simp
      go_wp2_with fail
      have hb : Below w8.heap.size w8 (w8.alloc (.cells #[.slice qag ms2.length qcg, .slice rag ts2.length rcg] 26)) := (Below.refl _ _).alloc (Nat.le_refl _) _
      have hk : (w8.alloc (.cells #[.slice qag ms2.length qcg, .slice rag ts2.length rcg] 26)).heap[w8.heap.size]? = some (.cells #[.slice qag ms2.length qcg, .slice rag ts2.length rcg] 26 (0, 0)) := alloc_at rfl
      have hz : (w8.alloc (.cells #[.slice qag ms2.length qcg, .slice rag ts2.length rcg] 26)).heap.size = w8.heap.size + 1 := by simp
      generalize w8.alloc (.cells #[.slice qag ms2.length qcg, .slice rag ts2.length rcg] 26) = w9 at hb hk hz ⊢
      have HB9 : Hid (Below w.heap.size w w9) := Lib.hid (HB8.out.trans (hb.mono HB8.out.size))
      have HZ9 : Hid (w8.heap.size ≤ w9.heap.size) := Lib.hid hb.size
      have HRk9 := Lib.hid (HRk0.out.below HB9.out (Nat.le_refl _))
      have HRg9 := Lib.hid (HRg8.out.below hb (Nat.le_refl _))
      have HBs8_9 : Hid (Below w8.heap.size w8 w9) := Lib.hid (HBs8_8.out.trans (hb.mono HBs8_8.out.size))
      have HKbg9 := Lib.hid hk
      replace HZ9 : Hid (w8.heap.size < w9.heap.size) := Lib.hid (by omega)
      have HE9 := Lib.hid hz
      clear hb hk hz
      refine (HI2.out _ _ _ HRg9.out).mono ?_
      rintro e w10 ⟨⟨s1, t1, rfl, ho⟩, hb⟩
      have HB10 : Hid (Below w.heap.size w w10) := Lib.hid (HB9.out.trans (hb.mono HB9.out.size))
      have HZ10 : Hid (w9.heap.size ≤ w10.heap.size) := Lib.hid hb.size
      have HRk10 := Lib.hid (HRk0.out.below HB10.out (Nat.le_refl _))
      have HRg10 := Lib.hid (HRg9.out.below hb (Nat.le_refl _))
      have HKbg10 := Lib.hid ((hb.block _ (lt_of_block HKbg9.out)).trans HKbg9.out)
      have HBs8_10 : Hid (Below w8.heap.size w8 w10) := Lib.hid (HBs8_9.out.trans (hb.mono HBs8_9.out.size))
      clear hb
      obtain ⟨qah, qch, rah, rch, rfl, rfl⟩ := ho.form
      have HRh10 := Lib.hid (ho)
      have HBs10_10 : Hid (Below w10.heap.size w10 w10) := Lib.hid (Below.refl _ _)
      clear ho
      have ltbg := lt_of_block HKbg10.out
      obtain ⟨cbg0, cbg1, fbg0, fbg1⟩ := cell2 HKbg10.out
      go_wp2_with fail
      have hb : Below w10.heap.size w10 (w10.alloc (.cells #[.slice qah gs.length qch, .slice rah hs.length rch] 26)) := (Below.refl _ _).alloc (Nat.le_refl _) _
      have hk : (w10.alloc (.cells #[.slice qah gs.length qch, .slice rah hs.length rch] 26)).heap[w10.heap.size]? = some (.cells #[.slice qah gs.length qch, .slice rah hs.length rch] 26 (0, 0)) := alloc_at rfl
      have hz : (w10.alloc (.cells #[.slice qah gs.length qch, .slice rah hs.length rch] 26)).heap.size = w10.heap.size + 1 := by simp
      generalize w10.alloc (.cells #[.slice qah gs.length qch, .slice rah hs.length rch] 26) = w11 at hb hk hz ⊢
      have HB11 : Hid (Below w.heap.size w w11) := Lib.hid (HB10.out.trans (hb.mono HB10.out.size))
      have HZ11 : Hid (w10.heap.size ≤ w11.heap.size) := Lib.hid hb.size
      have HRk11 := Lib.hid (HRk0.out.below HB11.out (Nat.le_refl _))
      have HRg11 := Lib.hid (HRg10.out.below hb (Nat.le_refl _))
      have HKbg11 := Lib.hid ((hb.block _ (lt_of_block HKbg10.out)).trans HKbg10.out)
      have HRh11 := Lib.hid (HRh10.out.below hb (Nat.le_refl _))
      have HBs8_11 : Hid (Below w8.heap.size w8 w11) := Lib.hid (HBs8_10.out.trans (hb.mono HBs8_10.out.size))
      have HBs10_11 : Hid (Below w10.heap.size w10 w11) := Lib.hid (HBs10_10.out.trans (hb.mono HBs10_10.out.size))
      have HKbh11 := Lib.hid hk
      replace HZ11 : Hid (w10.heap.size < w11.heap.size) := Lib.hid (by omega)
      have HE11 := Lib.hid hz
      clear hb hk hz
      refine (HS2.out _ _ _ HRg11.out).mono ?_
      rintro e w12 ⟨⟨s1, t1, rfl, ho⟩, hb⟩
      have HB12 : Hid (Below w.heap.size w w12) := Lib.hid (HB11.out.trans (hb.mono HB11.out.size))
      have HZ12 : Hid (w11.heap.size ≤ w12.heap.size) := Lib.hid hb.size
      have HRk12 := Lib.hid (HRk0.out.below HB12.out (Nat.le_refl _))
      have HRg12 := Lib.hid (HRg11.out.below hb (Nat.le_refl _))
      have HKbg12 := Lib.hid ((hb.block _ (lt_of_block HKbg11.out)).trans HKbg11.out)
      have HRh12 := Lib.hid (HRh11.out.below hb (Nat.le_refl _))
      have HKbh12 := Lib.hid ((hb.block _ (lt_of_block HKbh11.out)).trans HKbh11.out)
      have HBs8_12 : Hid (Below w8.heap.size w8 w12) := Lib.hid (HBs8_11.out.trans (hb.mono HBs8_11.out.size))
      have HBs10_12 : Hid (Below w10.heap.size w10 w12) := Lib.hid (HBs10_11.out.trans (hb.mono HBs10_11.out.size))
      clear hb
      obtain ⟨qai, qci, rai, rci, rfl, rfl⟩ := ho.form
      have HRi12 := Lib.hid (ho)
      have HBs12_12 : Hid (Below w12.heap.size w12 w12) := Lib.hid (Below.refl _ _)
      clear ho
      clear cbg0 cbg1 fbg0 fbg1 ltbg
      have ltbg := lt_of_block HKbg12.out
      obtain ⟨cbg0, cbg1, fbg0, fbg1⟩ := cell2 HKbg12.out
      have ltbh := lt_of_block HKbh12.out
      obtain ⟨cbh0, cbh1, fbh0, fbh1⟩ := cell2 HKbh12.out
      go_wp2_with fail
      have hb : Below w12.heap.size w12 (w12.alloc (.cells #[.slice qai gs.length qci, .slice rai hs.length rci] 26)) := (Below.refl _ _).alloc (Nat.le_refl _) _
      have hk : (w12.alloc (.cells #[.slice qai gs.length qci, .slice rai hs.length rci] 26)).heap[w12.heap.size]? = some (.cells #[.slice qai gs.length qci, .slice rai hs.length rci] 26 (0, 0)) := alloc_at rfl
      have hz : (w12.alloc (.cells #[.slice qai gs.length qci, .slice rai hs.length rci] 26)).heap.size = w12.heap.size + 1 := by simp
      generalize w12.alloc (.cells #[.slice qai gs.length qci, .slice rai hs.length rci] 26) = w13 at hb hk hz ⊢
      have HB13 : Hid (Below w.heap.size w w13) := Lib.hid (HB12.out.trans (hb.mono HB12.out.size))
      have HZ13 : Hid (w12.heap.size ≤ w13.heap.size) := Lib.hid hb.size
      have HRk13 := Lib.hid (HRk0.out.below HB13.out (Nat.le_refl _))
      have HRg13 := Lib.hid (HRg12.out.below hb (Nat.le_refl _))
      have HKbg13 := Lib.hid ((hb.block _ (lt_of_block HKbg12.out)).trans HKbg12.out)
      have HRh13 := Lib.hid (HRh12.out.below hb (Nat.le_refl _))
      have HKbh13 := Lib.hid ((hb.block _ (lt_of_block HKbh12.out)).trans HKbh12.out)
      have HRi13 := Lib.hid (HRi12.out.below hb (Nat.le_refl _))
      have HBs8_13 : Hid (Below w8.heap.size w8 w13) := Lib.hid (HBs8_12.out.trans (hb.mono HBs8_12.out.size))
      have HBs10_13 : Hid (Below w10.heap.size w10 w13) := Lib.hid (HBs10_12.out.trans (hb.mono HBs10_12.out.size))
      have HBs12_13 : Hid (Below w12.heap.size w12 w13) := Lib.hid (HBs12_12.out.trans (hb.mono HBs12_12.out.size))
      have HKbi13 := Lib.hid hk
      replace HZ13 : Hid (w12.heap.size < w13.heap.size) := Lib.hid (by omega)
      have HE13 := Lib.hid hz
      clear hb hk hz
      refine (rBoard_yes _ _ _ _ gs hs _ HRh13.out HRi13.out).mono ?_
      rintro e w14 ⟨rfl, hb⟩
      have HB14 : Hid (Below w.heap.size w w14) := Lib.hid (HB13.out.trans (hb.mono HB13.out.size))
      have HZ14 : Hid (w13.heap.size ≤ w14.heap.size) := Lib.hid hb.size
      have HRk14 := Lib.hid (HRk0.out.below HB14.out (Nat.le_refl _))
      have HRg14 := Lib.hid (HRg13.out.below hb (Nat.le_refl _))
      have HKbg14 := Lib.hid ((hb.block _ (lt_of_block HKbg13.out)).trans HKbg13.out)
      have HRh14 := Lib.hid (HRh13.out.below hb (Nat.le_refl _))
      have HKbh14 := Lib.hid ((hb.block _ (lt_of_block HKbh13.out)).trans HKbh13.out)
      have HRi14 := Lib.hid (HRi13.out.below hb (Nat.le_refl _))
      have HKbi14 := Lib.hid ((hb.block _ (lt_of_block HKbi13.out)).trans HKbi13.out)
      have HBs8_14 : Hid (Below w8.heap.size w8 w14) := Lib.hid (HBs8_13.out.trans (hb.mono HBs8_13.out.size))
      have HBs10_14 : Hid (Below w10.heap.size w10 w14) := Lib.hid (HBs10_13.out.trans (hb.mono HBs10_13.out.size))
      have HBs12_14 : Hid (Below w12.heap.size w12 w14) := Lib.hid (HBs12_13.out.trans (hb.mono HBs12_13.out.size))
      clear hb
      clear cbg0 cbg1 fbg0 fbg1 ltbg cbh0 cbh1 fbh0 fbh1 ltbh
      go_wp2_with fail
      refine (drawJoinBoards_any _ L _ HRk14.out).mono ?_
      rintro e w15 ⟨⟨v1, v2, u1, u2, ms, ts, cs, ds, rfl, ⟨ho, -, -⟩, ho2, -, -⟩, hb⟩
      have HB15 : Hid (Below w.heap.size w w15) := Lib.hid (HB14.out.trans (hb.mono HB14.out.size))
      have HZ15 : Hid (w14.heap.size ≤ w15.heap.size) := Lib.hid hb.size
      have HRk15 := Lib.hid (HRk0.out.below HB15.out (Nat.le_refl _))
      clear hb
      obtain ⟨qac, qcc, rac, rcc, rfl, rfl⟩ := ho.1.form
      obtain ⟨qad, qcd, rad, rcd, rfl, rfl⟩ := ho2.1.form
      have HRc15 := Lib.hid (ho.1)
      have HBs15_15 : Hid (Below w15.heap.size w15 w15) := Lib.hid (Below.refl _ _)
      have HRd15 := Lib.hid (ho2.1)
      clear ho ho2
      obtain ⟨es, fs, b3, hS, hI, hY3⟩ := jb_same ms ts cs ds
      have HS3 := Lib.hid hS
      have HI3 := Lib.hid hI
      clear hS hI
      have hneb3 : (b3 != b3) = false := by simp
      go_wp2_with fail
      have hb : Below w15.heap.size w15 (w15.alloc (.cells #[.slice qac ms.length qcc, .slice rac ts.length rcc] 26)) := (Below.refl _ _).alloc (Nat.le_refl _) _
      have hk : (w15.alloc (.cells #[.slice qac ms.length qcc, .slice rac ts.length rcc] 26)).heap[w15.heap.size]? = some (.cells #[.slice qac ms.length qcc, .slice rac ts.length rcc] 26 (0, 0)) := alloc_at rfl
      have hz : (w15.alloc (.cells #[.slice qac ms.length qcc, .slice rac ts.length rcc] 26)).heap.size = w15.heap.size + 1 := by simp
      generalize w15.alloc (.cells #[.slice qac ms.length qcc, .slice rac ts.length rcc] 26) = w16 at hb hk hz ⊢
      have HB16 : Hid (Below w.heap.size w w16) := Lib.hid (HB15.out.trans (hb.mono HB15.out.size))
      have HZ16 : Hid (w15.heap.size ≤ w16.heap.size) := Lib.hid hb.size
      have HRk16 := Lib.hid (HRk0.out.below HB16.out (Nat.le_refl _))
      have HRc16 := Lib.hid (HRc15.out.below hb (Nat.le_refl _))
      have HRd16 := Lib.hid (HRd15.out.below hb (Nat.le_refl _))
      have HBs15_16 : Hid (Below w15.heap.size w15 w16) := Lib.hid (HBs15_15.out.trans (hb.mono HBs15_15.out.size))
      have HKbc16 := Lib.hid hk
      replace HZ16 : Hid (w15.heap.size < w16.heap.size) := Lib.hid (by omega)
      have HE16 := Lib.hid hz
      clear hb hk hz
      have hb : Below w16.heap.size w16 (w16.alloc (.cells #[.slice qad cs.length qcd, .slice rad ds.length rcd] 26)) := (Below.refl _ _).alloc (Nat.le_refl _) _
      have hk : (w16.alloc (.cells #[.slice qad cs.length qcd, .slice rad ds.length rcd] 26)).heap[w15.heap.size + 1]? = some (.cells #[.slice qad cs.length qcd, .slice rad ds.length rcd] 26 (0, 0)) := alloc_at (by have := HE2.out; have := HE4.out; have := HE6.out; have := HE9.out; have := HE11.out; have := HE13.out; have := HE16.out; omega)
      have hz : (w16.alloc (.cells #[.slice qad cs.length qcd, .slice rad ds.length rcd] 26)).heap.size = w16.heap.size + 1 := by simp
      generalize w16.alloc (.cells #[.slice qad cs.length qcd, .slice rad ds.length rcd] 26) = w17 at hb hk hz ⊢
      have HB17 : Hid (Below w.heap.size w w17) := Lib.hid (HB16.out.trans (hb.mono HB16.out.size))
      have HZ17 : Hid (w16.heap.size ≤ w17.heap.size) := Lib.hid hb.size
      have HRk17 := Lib.hid (HRk0.out.below HB17.out (Nat.le_refl _))
      have HRc17 := Lib.hid (HRc16.out.below hb (Nat.le_refl _))
      have HRd17 := Lib.hid (HRd16.out.below hb (Nat.le_refl _))
      have HKbc17 := Lib.hid ((hb.block _ (lt_of_block HKbc16.out)).trans HKbc16.out)
      have HBs15_17 : Hid (Below w15.heap.size w15 w17) := Lib.hid (HBs15_16.out.trans (hb.mono HBs15_16.out.size))
      have HKbd17 := Lib.hid hk
      replace HZ17 : Hid (w16.heap.size < w17.heap.size) := Lib.hid (by omega)
      have HE17 := Lib.hid hz
      clear hb hk hz
      refine (HI3.out _ _ _ _ _ HRc17.out HRd17.out).mono ?_
      rintro e w18 ⟨⟨s1, t1, rfl, ho⟩, hb⟩
      have HB18 : Hid (Below w.heap.size w w18) := Lib.hid (HB17.out.trans (hb.mono HB17.out.size))
      have HZ18 : Hid (w17.heap.size ≤ w18.heap.size) := Lib.hid hb.size
      have HRk18 := Lib.hid (HRk0.out.below HB18.out (Nat.le_refl _))
      have HRc18 := Lib.hid (HRc17.out.below hb (Nat.le_refl _))
      have HRd18 := Lib.hid (HRd17.out.below hb (Nat.le_refl _))
      have HKbc18 := Lib.hid ((hb.block _ (lt_of_block HKbc17.out)).trans HKbc17.out)
      have HKbd18 := Lib.hid ((hb.block _ (lt_of_block HKbd17.out)).trans HKbd17.out)
      have HBs15_18 : Hid (Below w15.heap.size w15 w18) := Lib.hid (HBs15_17.out.trans (hb.mono HBs15_17.out.size))
      clear hb
      obtain ⟨qae, qce, rae, rce, rfl, rfl⟩ := ho.form
      have HRe18 := Lib.hid (ho)
      have HBs18_18 : Hid (Below w18.heap.size w18 w18) := Lib.hid (Below.refl _ _)
      clear ho
      have ltbc := lt_of_block HKbc18.out
      obtain ⟨cbc0, cbc1, fbc0, fbc1⟩ := cell2 HKbc18.out
      have ltbd := lt_of_block HKbd18.out
      obtain ⟨cbd0, cbd1, fbd0, fbd1⟩ := cell2 HKbd18.out
      go_wp2_with fail
      have hb : Below w18.heap.size w18 (w18.alloc (.cells #[.slice qae es.length qce, .slice rae fs.length rce] 26)) := (Below.refl _ _).alloc (Nat.le_refl _) _
      have hk : (w18.alloc (.cells #[.slice qae es.length qce, .slice rae fs.length rce] 26)).heap[w18.heap.size]? = some (.cells #[.slice qae es.length qce, .slice rae fs.length rce] 26 (0, 0)) := alloc_at rfl
      have hz : (w18.alloc (.cells #[.slice qae es.length qce, .slice rae fs.length rce] 26)).heap.size = w18.heap.size + 1 := by simp
      generalize w18.alloc (.cells #[.slice qae es.length qce, .slice rae fs.length rce] 26) = w19 at hb hk hz ⊢
      have HB19 : Hid (Below w.heap.size w w19) := Lib.hid (HB18.out.trans (hb.mono HB18.out.size))
      have HZ19 : Hid (w18.heap.size ≤ w19.heap.size) := Lib.hid hb.size
      have HRk19 := Lib.hid (HRk0.out.below HB19.out (Nat.le_refl _))
      have HRc19 := Lib.hid (HRc18.out.below hb (Nat.le_refl _))
      have HRd19 := Lib.hid (HRd18.out.below hb (Nat.le_refl _))
      have HKbc19 := Lib.hid ((hb.block _ (lt_of_block HKbc18.out)).trans HKbc18.out)
      have HKbd19 := Lib.hid ((hb.block _ (lt_of_block HKbd18.out)).trans HKbd18.out)
      have HRe19 := Lib.hid (HRe18.out.below hb (Nat.le_refl _))
      have HBs15_19 : Hid (Below w15.heap.size w15 w19) := Lib.hid (HBs15_18.out.trans (hb.mono HBs15_18.out.size))
      have HBs18_19 : Hid (Below w18.heap.size w18 w19) := Lib.hid (HBs18_18.out.trans (hb.mono HBs18_18.out.size))
      have HKbe19 := Lib.hid hk
      replace HZ19 : Hid (w18.heap.size < w19.heap.size) := Lib.hid (by omega)
      have HE19 := Lib.hid hz
      clear hb hk hz
      refine (HS3.out _ _ _ _ _ HRc19.out HRd19.out).mono ?_
      rintro e w20 ⟨⟨s1, t1, rfl, ho⟩, hb⟩
      have HB20 : Hid (Below w.heap.size w w20) := Lib.hid (HB19.out.trans (hb.mono HB19.out.size))
      have HZ20 : Hid (w19.heap.size ≤ w20.heap.size) := Lib.hid hb.size
      have HRk20 := Lib.hid (HRk0.out.below HB20.out (Nat.le_refl _))
      have HRc20 := Lib.hid (HRc19.out.below hb (Nat.le_refl _))
      have HRd20 := Lib.hid (HRd19.out.below hb (Nat.le_refl _))
      have HKbc20 := Lib.hid ((hb.block _ (lt_of_block HKbc19.out)).trans HKbc19.out)
      have HKbd20 := Lib.hid ((hb.block _ (lt_of_block HKbd19.out)).trans HKbd19.out)
      have HRe20 := Lib.hid (HRe19.out.below hb (Nat.le_refl _))
      have HKbe20 := Lib.hid ((hb.block _ (lt_of_block HKbe19.out)).trans HKbe19.out)
      have HBs15_20 : Hid (Below w15.heap.size w15 w20) := Lib.hid (HBs15_19.out.trans (hb.mono HBs15_19.out.size))
      have HBs18_20 : Hid (Below w18.heap.size w18 w20) := Lib.hid (HBs18_19.out.trans (hb.mono HBs18_19.out.size))
      clear hb
      obtain ⟨qaf, qcf, raf, rcf, rfl, rfl⟩ := ho.form
      have HRf20 := Lib.hid (ho)
      have HBs20_20 : Hid (Below w20.heap.size w20 w20) := Lib.hid (Below.refl _ _)
      clear ho
      clear cbc0 cbc1 fbc0 fbc1 ltbc cbd0 cbd1 fbd0 fbd1 ltbd
      have ltbc := lt_of_block HKbc20.out
      obtain ⟨cbc0, cbc1, fbc0, fbc1⟩ := cell2 HKbc20.out
      have ltbd := lt_of_block HKbd20.out
      obtain ⟨cbd0, cbd1, fbd0, fbd1⟩ := cell2 HKbd20.out
      have ltbe := lt_of_block HKbe20.out
      obtain ⟨cbe0, cbe1, fbe0, fbe1⟩ := cell2 HKbe20.out
      go_wp2_with fail
      have hb : Below w20.heap.size w20 (w20.alloc (.cells #[.slice qaf es.length qcf, .slice raf fs.length rcf] 26)) := (Below.refl _ _).alloc (Nat.le_refl _) _
      have hk : (w20.alloc (.cells #[.slice qaf es.length qcf, .slice raf fs.length rcf] 26)).heap[w20.heap.size]? = some (.cells #[.slice qaf es.length qcf, .slice raf fs.length rcf] 26 (0, 0)) := alloc_at rfl
      have hz : (w20.alloc (.cells #[.slice qaf es.length qcf, .slice raf fs.length rcf] 26)).heap.size = w20.heap.size + 1 := by simp
      generalize w20.alloc (.cells #[.slice qaf es.length qcf, .slice raf fs.length rcf] 26) = w21 at hb hk hz ⊢
      have HB21 : Hid (Below w.heap.size w w21) := Lib.hid (HB20.out.trans (hb.mono HB20.out.size))
      have HZ21 : Hid (w20.heap.size ≤ w21.heap.size) := Lib.hid hb.size
      have HRk21 := Lib.hid (HRk0.out.below HB21.out (Nat.le_refl _))
      have HRc21 := Lib.hid (HRc20.out.below hb (Nat.le_refl _))
      have HRd21 := Lib.hid (HRd20.out.below hb (Nat.le_refl _))
      have HKbc21 := Lib.hid ((hb.block _ (lt_of_block HKbc20.out)).trans HKbc20.out)
      have HKbd21 := Lib.hid ((hb.block _ (lt_of_block HKbd20.out)).trans HKbd20.out)
      have HRe21 := Lib.hid (HRe20.out.below hb (Nat.le_refl _))
      have HKbe21 := Lib.hid ((hb.block _ (lt_of_block HKbe20.out)).trans HKbe20.out)
      have HRf21 := Lib.hid (HRf20.out.below hb (Nat.le_refl _))
      have HBs15_21 : Hid (Below w15.heap.size w15 w21) := Lib.hid (HBs15_20.out.trans (hb.mono HBs15_20.out.size))
      have HBs18_21 : Hid (Below w18.heap.size w18 w21) := Lib.hid (HBs18_20.out.trans (hb.mono HBs18_20.out.size))
      have HBs20_21 : Hid (Below w20.heap.size w20 w21) := Lib.hid (HBs20_20.out.trans (hb.mono HBs20_20.out.size))
      have HKbf21 := Lib.hid hk
      replace HZ21 : Hid (w20.heap.size < w21.heap.size) := Lib.hid (by omega)
      have HE21 := Lib.hid hz
      clear hb hk hz
      refine (rBoard_yes _ _ _ _ es fs _ HRe21.out HRf21.out).mono ?_
      rintro e w22 ⟨rfl, hb⟩
      have HB22 : Hid (Below w.heap.size w w22) := Lib.hid (HB21.out.trans (hb.mono HB21.out.size))
      have HZ22 : Hid (w21.heap.size ≤ w22.heap.size) := Lib.hid hb.size
      have HRk22 := Lib.hid (HRk0.out.below HB22.out (Nat.le_refl _))
      have HRc22 := Lib.hid (HRc21.out.below hb (Nat.le_refl _))
      have HRd22 := Lib.hid (HRd21.out.below hb (Nat.le_refl _))
      have HKbc22 := Lib.hid ((hb.block _ (lt_of_block HKbc21.out)).trans HKbc21.out)
      have HKbd22 := Lib.hid ((hb.block _ (lt_of_block HKbd21.out)).trans HKbd21.out)
      have HRe22 := Lib.hid (HRe21.out.below hb (Nat.le_refl _))
      have HKbe22 := Lib.hid ((hb.block _ (lt_of_block HKbe21.out)).trans HKbe21.out)
      have HRf22 := Lib.hid (HRf21.out.below hb (Nat.le_refl _))
      have HKbf22 := Lib.hid ((hb.block _ (lt_of_block HKbf21.out)).trans HKbf21.out)
      have HBs15_22 : Hid (Below w15.heap.size w15 w22) := Lib.hid (HBs15_21.out.trans (hb.mono HBs15_21.out.size))
      have HBs18_22 : Hid (Below w18.heap.size w18 w22) := Lib.hid (HBs18_21.out.trans (hb.mono HBs18_21.out.size))
      have HBs20_22 : Hid (Below w20.heap.size w20 w22) := Lib.hid (HBs20_21.out.trans (hb.mono HBs20_21.out.size))
      clear hb
      cases b3 with
      | true =>
        obtain ⟨x3, y3, z3, k1, k2, k3, hw3⟩ := hY3 rfl
        have HK31 := Lib.hid k1
        have HK32 := Lib.hid k2
        have HK33 := Lib.hid k3
        clear hY3 k1 k2 k3
        have hnez3 : (z3 != z3) = false := by simp
        clear cbc0 cbc1 fbc0 fbc1 ltbc cbd0 cbd1 fbd0 fbd1 ltbd cbe0 cbe1 fbe0 fbe1 ltbe
        have ltbc := lt_of_block HKbc22.out
        obtain ⟨cbc0, cbc1, fbc0, fbc1⟩ := cell2 HKbc22.out
        have ltbd := lt_of_block HKbd22.out
        obtain ⟨cbd0, cbd1, fbd0, fbd1⟩ := cell2 HKbd22.out
        have ltbe := lt_of_block HKbe22.out
        obtain ⟨cbe0, cbe1, fbe0, fbe1⟩ := cell2 HKbe22.out
        go_wp2_with fail
        refine (HK31.out _ _ _ HRc22.out).mono ?_
        rintro e w23 ⟨rfl, hb⟩
        have HB23 : Hid (Below w.heap.size w w23) := Lib.hid (HB22.out.trans (hb.mono HB22.out.size))
        have HZ23 : Hid (w22.heap.size ≤ w23.heap.size) := Lib.hid hb.size
        have HRk23 := Lib.hid (HRk0.out.below HB23.out (Nat.le_refl _))
        have HRc23 := Lib.hid (HRc22.out.below hb (Nat.le_refl _))
        have HRd23 := Lib.hid (HRd22.out.below hb (Nat.le_refl _))
        have HKbc23 := Lib.hid ((hb.block _ (lt_of_block HKbc22.out)).trans HKbc22.out)
        have HKbd23 := Lib.hid ((hb.block _ (lt_of_block HKbd22.out)).trans HKbd22.out)
        have HRe23 := Lib.hid (HRe22.out.below hb (Nat.le_refl _))
        have HKbe23 := Lib.hid ((hb.block _ (lt_of_block HKbe22.out)).trans HKbe22.out)
        have HBs15_23 : Hid (Below w15.heap.size w15 w23) := Lib.hid (HBs15_22.out.trans (hb.mono HBs15_22.out.size))
        have HBs18_23 : Hid (Below w18.heap.size w18 w23) := Lib.hid (HBs18_22.out.trans (hb.mono HBs18_22.out.size))
        clear hb
        clear cbc0 cbc1 fbc0 fbc1 ltbc cbd0 cbd1 fbd0 fbd1 ltbd cbe0 cbe1 fbe0 fbe1 ltbe
        have ltbc := lt_of_block HKbc23.out
        obtain ⟨cbc0, cbc1, fbc0, fbc1⟩ := cell2 HKbc23.out
        have ltbd := lt_of_block HKbd23.out
        obtain ⟨cbd0, cbd1, fbd0, fbd1⟩ := cell2 HKbd23.out
        have ltbe := lt_of_block HKbe23.out
        obtain ⟨cbe0, cbe1, fbe0, fbe1⟩ := cell2 HKbe23.out
        go_wp2_with fail
        refine (HK32.out _ _ _ HRd23.out).mono ?_
        rintro e w24 ⟨rfl, hb⟩
        have HB24 : Hid (Below w.heap.size w w24) := Lib.hid (HB23.out.trans (hb.mono HB23.out.size))
        have HZ24 : Hid (w23.heap.size ≤ w24.heap.size) := Lib.hid hb.size
        have HRk24 := Lib.hid (HRk0.out.below HB24.out (Nat.le_refl _))
        have HRc24 := Lib.hid (HRc23.out.below hb (Nat.le_refl _))
        have HRd24 := Lib.hid (HRd23.out.below hb (Nat.le_refl _))
        have HKbc24 := Lib.hid ((hb.block _ (lt_of_block HKbc23.out)).trans HKbc23.out)
        have HKbd24 := Lib.hid ((hb.block _ (lt_of_block HKbd23.out)).trans HKbd23.out)
        have HRe24 := Lib.hid (HRe23.out.below hb (Nat.le_refl _))
        have HKbe24 := Lib.hid ((hb.block _ (lt_of_block HKbe23.out)).trans HKbe23.out)
        have HBs15_24 : Hid (Below w15.heap.size w15 w24) := Lib.hid (HBs15_23.out.trans (hb.mono HBs15_23.out.size))
        have HBs18_24 : Hid (Below w18.heap.size w18 w24) := Lib.hid (HBs18_23.out.trans (hb.mono HBs18_23.out.size))
        clear hb
        clear cbc0 cbc1 fbc0 fbc1 ltbc cbd0 cbd1 fbd0 fbd1 ltbd cbe0 cbe1 fbe0 fbe1 ltbe
        have ltbc := lt_of_block HKbc24.out
        obtain ⟨cbc0, cbc1, fbc0, fbc1⟩ := cell2 HKbc24.out
        have ltbd := lt_of_block HKbd24.out
        obtain ⟨cbd0, cbd1, fbd0, fbd1⟩ := cell2 HKbd24.out
        have ltbe := lt_of_block HKbe24.out
        obtain ⟨cbe0, cbe1, fbe0, fbe1⟩ := cell2 HKbe24.out
        go_wp2_with fail
        refine (HK33.out _ _ _ HRe24.out).mono ?_
        rintro e w25 ⟨rfl, hb⟩
        have HB25 : Hid (Below w.heap.size w w25) := Lib.hid (HB24.out.trans (hb.mono HB24.out.size))
        have HZ25 : Hid (w24.heap.size ≤ w25.heap.size) := Lib.hid hb.size
        have HRk25 := Lib.hid (HRk0.out.below HB25.out (Nat.le_refl _))
        have HRc25 := Lib.hid (HRc24.out.below hb (Nat.le_refl _))
        have HRd25 := Lib.hid (HRd24.out.below hb (Nat.le_refl _))
        have HKbc25 := Lib.hid ((hb.block _ (lt_of_block HKbc24.out)).trans HKbc24.out)
        have HKbd25 := Lib.hid ((hb.block _ (lt_of_block HKbd24.out)).trans HKbd24.out)
        have HRe25 := Lib.hid (HRe24.out.below hb (Nat.le_refl _))
        have HKbe25 := Lib.hid ((hb.block _ (lt_of_block HKbe24.out)).trans HKbe24.out)
        have HBs15_25 : Hid (Below w15.heap.size w15 w25) := Lib.hid (HBs15_24.out.trans (hb.mono HBs15_24.out.size))
        have HBs18_25 : Hid (Below w18.heap.size w18 w25) := Lib.hid (HBs18_24.out.trans (hb.mono HBs18_24.out.size))
        clear hb
        clear cbc0 cbc1 fbc0 fbc1 ltbc cbd0 cbd1 fbd0 fbd1 ltbd cbe0 cbe1 fbe0 fbe1 ltbe
        go_wp2_with fail
        refine (drawCountersOn_any _ L _ HRk25.out).mono ?_
        rintro e w26 ⟨⟨v1, v2, ms4, ts4, rfl, ho, -, -⟩, hb⟩
        have HB26 : Hid (Below w.heap.size w w26) := Lib.hid (HB25.out.trans (hb.mono HB25.out.size))
        have HZ26 : Hid (w25.heap.size ≤ w26.heap.size) := Lib.hid hb.size
        have HRk26 := Lib.hid (HRk0.out.below HB26.out (Nat.le_refl _))
        clear hb
        obtain ⟨qam, qcm, ram, rcm, rfl, rfl⟩ := ho.1.form
        have HRm26 := Lib.hid (ho.1)
        have HBs26_26 : Hid (Below w26.heap.size w26 w26) := Lib.hid (Below.refl _ _)
        clear ho
        obtain ⟨x4, b4, hS, hI⟩ := cn_same ms4 ts4
        have HS4 := Lib.hid hS
        have HI4 := Lib.hid hI
        clear hS hI
        have hnex4 : (x4 != x4) = false := by simp
        have hneb4 : (b4 != b4) = false := by simp
        obtain ⟨s5, b5, hS, hI, hB5⟩ := bt_same ms4 ts4
        have HS5 := Lib.hid hS
        have HI5 := Lib.hid hI
        have HQ5 := Lib.hid hB5
        clear hS hI hB5
        have heqb5 : (b5 == b5) = true := by simp
        have hs5 : (s5.toList == s5.toList) = true := by simp
        go_wp2_with fail
        have hb : Below w26.heap.size w26 (w26.alloc (.cells #[.slice qam ms4.length qcm, .slice ram ts4.length rcm] 26)) := (Below.refl _ _).alloc (Nat.le_refl _) _
        have hk : (w26.alloc (.cells #[.slice qam ms4.length qcm, .slice ram ts4.length rcm] 26)).heap[w26.heap.size]? = some (.cells #[.slice qam ms4.length qcm, .slice ram ts4.length rcm] 26 (0, 0)) := alloc_at rfl
        have hz : (w26.alloc (.cells #[.slice qam ms4.length qcm, .slice ram ts4.length rcm] 26)).heap.size = w26.heap.size + 1 := by simp
        generalize w26.alloc (.cells #[.slice qam ms4.length qcm, .slice ram ts4.length rcm] 26) = w27 at hb hk hz ⊢
        have HB27 : Hid (Below w.heap.size w w27) := Lib.hid (HB26.out.trans (hb.mono HB26.out.size))
        have HZ27 : Hid (w26.heap.size ≤ w27.heap.size) := Lib.hid hb.size
        have HRk27 := Lib.hid (HRk0.out.below HB27.out (Nat.le_refl _))
        have HRm27 := Lib.hid (HRm26.out.below hb (Nat.le_refl _))
        have HBs26_27 : Hid (Below w26.heap.size w26 w27) := Lib.hid (HBs26_26.out.trans (hb.mono HBs26_26.out.size))
        have HKbm27 := Lib.hid hk
        replace HZ27 : Hid (w26.heap.size < w27.heap.size) := Lib.hid (by omega)
        have HE27 := Lib.hid hz
        clear hb hk hz
        refine (HI4.out _ _ _ HRm27.out).mono ?_
        rintro e w28 ⟨rfl, hb⟩
        have HB28 : Hid (Below w.heap.size w w28) := Lib.hid (HB27.out.trans (hb.mono HB27.out.size))
        have HZ28 : Hid (w27.heap.size ≤ w28.heap.size) := Lib.hid hb.size
        have HRk28 := Lib.hid (HRk0.out.below HB28.out (Nat.le_refl _))
        have HRm28 := Lib.hid (HRm27.out.below hb (Nat.le_refl _))
        have HKbm28 := Lib.hid ((hb.block _ (lt_of_block HKbm27.out)).trans HKbm27.out)
        have HBs26_28 : Hid (Below w26.heap.size w26 w28) := Lib.hid (HBs26_27.out.trans (hb.mono HBs26_27.out.size))
        clear hb
        have ltbm := lt_of_block HKbm28.out
        obtain ⟨cbm0, cbm1, fbm0, fbm1⟩ := cell2 HKbm28.out
        go_wp2_with fail
        refine (HS4.out _ _ _ HRm28.out).mono ?_
        rintro e w29 ⟨rfl, hb⟩
        have HB29 : Hid (Below w.heap.size w w29) := Lib.hid (HB28.out.trans (hb.mono HB28.out.size))
        have HZ29 : Hid (w28.heap.size ≤ w29.heap.size) := Lib.hid hb.size
        have HRk29 := Lib.hid (HRk0.out.below HB29.out (Nat.le_refl _))
        have HRm29 := Lib.hid (HRm28.out.below hb (Nat.le_refl _))
        have HKbm29 := Lib.hid ((hb.block _ (lt_of_block HKbm28.out)).trans HKbm28.out)
        have HBs26_29 : Hid (Below w26.heap.size w26 w29) := Lib.hid (HBs26_28.out.trans (hb.mono HBs26_28.out.size))
        clear hb
        clear cbm0 cbm1 fbm0 fbm1 ltbm
        have ltbm := lt_of_block HKbm29.out
        obtain ⟨cbm0, cbm1, fbm0, fbm1⟩ := cell2 HKbm29.out
        go_wp2_with fail
        refine (HI5.out _ _ _ (tab_below HT.out HB29.out) HRm29.out).mono ?_
        rintro e w30 ⟨rfl, hb⟩
        have HB30 : Hid (Below w.heap.size w w30) := Lib.hid (HB29.out.trans (hb.mono HB29.out.size))
        have HZ30 : Hid (w29.heap.size ≤ w30.heap.size) := Lib.hid hb.size
        have HRk30 := Lib.hid (HRk0.out.below HB30.out (Nat.le_refl _))
        have HRm30 := Lib.hid (HRm29.out.below hb (Nat.le_refl _))
        have HKbm30 := Lib.hid ((hb.block _ (lt_of_block HKbm29.out)).trans HKbm29.out)
        have HBs26_30 : Hid (Below w26.heap.size w26 w30) := Lib.hid (HBs26_29.out.trans (hb.mono HBs26_29.out.size))
        clear hb
        clear cbm0 cbm1 fbm0 fbm1 ltbm
        have ltbm := lt_of_block HKbm30.out
        obtain ⟨cbm0, cbm1, fbm0, fbm1⟩ := cell2 HKbm30.out
        go_wp2_with fail
        refine (HS5.out _ _ _ HRm30.out).mono ?_
        rintro e w31 ⟨rfl, hb⟩
        have HB31 : Hid (Below w.heap.size w w31) := Lib.hid (HB30.out.trans (hb.mono HB30.out.size))
        have HZ31 : Hid (w30.heap.size ≤ w31.heap.size) := Lib.hid hb.size
        have HRk31 := Lib.hid (HRk0.out.below HB31.out (Nat.le_refl _))
        have HRm31 := Lib.hid (HRm30.out.below hb (Nat.le_refl _))
        have HKbm31 := Lib.hid ((hb.block _ (lt_of_block HKbm30.out)).trans HKbm30.out)
        have HBs26_31 : Hid (Below w26.heap.size w26 w31) := Lib.hid (HBs26_30.out.trans (hb.mono HBs26_30.out.size))
        clear hb
        clear cbm0 cbm1 fbm0 fbm1 ltbm
        have ltbm := lt_of_block HKbm31.out
        obtain ⟨cbm0, cbm1, fbm0, fbm1⟩ := cell2 HKbm31.out
        go_wp2_with fail
        refine (HQ5.out _ _ _ HRm31.out).mono ?_
        rintro e w32 ⟨rfl, hb⟩
        have HB32 : Hid (Below w.heap.size w w32) := Lib.hid (HB31.out.trans (hb.mono HB31.out.size))
        have HZ32 : Hid (w31.heap.size ≤ w32.heap.size) := Lib.hid hb.size
        have HRk32 := Lib.hid (HRk0.out.below HB32.out (Nat.le_refl _))
        have HRm32 := Lib.hid (HRm31.out.below hb (Nat.le_refl _))
        have HKbm32 := Lib.hid ((hb.block _ (lt_of_block HKbm31.out)).trans HKbm31.out)
        have HBs26_32 : Hid (Below w26.heap.size w26 w32) := Lib.hid (HBs26_31.out.trans (hb.mono HBs26_31.out.size))
        clear hb
        clear cbm0 cbm1 fbm0 fbm1 ltbm
        go_wp2_with fail
        go_ret
        exact ⟨ret_bool (by first | (simp; done) | rfl), HB32.out⟩
      | false =>
        clear hY3
        clear cbc0 cbc1 fbc0 fbc1 ltbc cbd0 cbd1 fbd0 fbd1 ltbd cbe0 cbe1 fbe0 fbe1 ltbe
        go_wp2_with fail
        refine (drawCountersOn_any _ L _ HRk22.out).mono ?_
        rintro e w23 ⟨⟨v1, v2, ms4, ts4, rfl, ho, -, -⟩, hb⟩
        have HB23 : Hid (Below w.heap.size w w23) := Lib.hid (HB22.out.trans (hb.mono HB22.out.size))
        have HZ23 : Hid (w22.heap.size ≤ w23.heap.size) := Lib.hid hb.size
        have HRk23 := Lib.hid (HRk0.out.below HB23.out (Nat.le_refl _))
        clear hb
        obtain ⟨qam, qcm, ram, rcm, rfl, rfl⟩ := ho.1.form
        have HRm23 := Lib.hid (ho.1)
        have HBs23_23 : Hid (Below w23.heap.size w23 w23) := Lib.hid (Below.refl _ _)
        clear ho
        obtain ⟨x4, b4, hS, hI⟩ := cn_same ms4 ts4
        have HS4 := Lib.hid hS
        have HI4 := Lib.hid hI
        clear hS hI
        have hnex4 : (x4 != x4) = false := by simp
        have hneb4 : (b4 != b4) = false := by simp
        obtain ⟨s5, b5, hS, hI, hB5⟩ := bt_same ms4 ts4
        have HS5 := Lib.hid hS
        have HI5 := Lib.hid hI
        have HQ5 := Lib.hid hB5
        clear hS hI hB5
        have heqb5 : (b5 == b5) = true := by simp
        have hs5 : (s5.toList == s5.toList) = true := by simp
        go_wp2_with fail
        have hb : Below w23.heap.size w23 (w23.alloc (.cells #[.slice qam ms4.length qcm, .slice ram ts4.length rcm] 26)) := (Below.refl _ _).alloc (Nat.le_refl _) _
        have hk : (w23.alloc (.cells #[.slice qam ms4.length qcm, .slice ram ts4.length rcm] 26)).heap[w23.heap.size]? = some (.cells #[.slice qam ms4.length qcm, .slice ram ts4.length rcm] 26 (0, 0)) := alloc_at rfl
        have hz : (w23.alloc (.cells #[.slice qam ms4.length qcm, .slice ram ts4.length rcm] 26)).heap.size = w23.heap.size + 1 := by simp
        generalize w23.alloc (.cells #[.slice qam ms4.length qcm, .slice ram ts4.length rcm] 26) = w24 at hb hk hz ⊢
        have HB24 : Hid (Below w.heap.size w w24) := Lib.hid (HB23.out.trans (hb.mono HB23.out.size))
        have HZ24 : Hid (w23.heap.size ≤ w24.heap.size) := Lib.hid hb.size
        have HRk24 := Lib.hid (HRk0.out.below HB24.out (Nat.le_refl _))
        have HRm24 := Lib.hid (HRm23.out.below hb (Nat.le_refl _))
        have HBs23_24 : Hid (Below w23.heap.size w23 w24) := Lib.hid (HBs23_23.out.trans (hb.mono HBs23_23.out.size))
        have HKbm24 := Lib.hid hk
        replace HZ24 : Hid (w23.heap.size < w24.heap.size) := Lib.hid (by omega)
        have HE24 := Lib.hid hz
        clear hb hk hz
        refine (HI4.out _ _ _ HRm24.out).mono ?_
        rintro e w25 ⟨rfl, hb⟩
        have HB25 : Hid (Below w.heap.size w w25) := Lib.hid (HB24.out.trans (hb.mono HB24.out.size))
        have HZ25 : Hid (w24.heap.size ≤ w25.heap.size) := Lib.hid hb.size
        have HRk25 := Lib.hid (HRk0.out.below HB25.out (Nat.le_refl _))
        have HRm25 := Lib.hid (HRm24.out.below hb (Nat.le_refl _))
        have HKbm25 := Lib.hid ((hb.block _ (lt_of_block HKbm24.out)).trans HKbm24.out)
        have HBs23_25 : Hid (Below w23.heap.size w23 w25) := Lib.hid (HBs23_24.out.trans (hb.mono HBs23_24.out.size))
        clear hb
        have ltbm := lt_of_block HKbm25.out
        obtain ⟨cbm0, cbm1, fbm0, fbm1⟩ := cell2 HKbm25.out
        go_wp2_with fail
        refine (HS4.out _ _ _ HRm25.out).mono ?_
        rintro e w26 ⟨rfl, hb⟩
        have HB26 : Hid (Below w.heap.size w w26) := Lib.hid (HB25.out.trans (hb.mono HB25.out.size))
        have HZ26 : Hid (w25.heap.size ≤ w26.heap.size) := Lib.hid hb.size
        have HRk26 := Lib.hid (HRk0.out.below HB26.out (Nat.le_refl _))
        have HRm26 := Lib.hid (HRm25.out.below hb (Nat.le_refl _))
        have HKbm26 := Lib.hid ((hb.block _ (lt_of_block HKbm25.out)).trans HKbm25.out)
        have HBs23_26 : Hid (Below w23.heap.size w23 w26) := Lib.hid (HBs23_25.out.trans (hb.mono HBs23_25.out.size))
        clear hb
        clear cbm0 cbm1 fbm0 fbm1 ltbm
        have ltbm := lt_of_block HKbm26.out
        obtain ⟨cbm0, cbm1, fbm0, fbm1⟩ := cell2 HKbm26.out
        go_wp2_with fail
        refine (HI5.out _ _ _ (tab_below HT.out HB26.out) HRm26.out).mono ?_
        rintro e w27 ⟨rfl, hb⟩
        have HB27 : Hid (Below w.heap.size w w27) := Lib.hid (HB26.out.trans (hb.mono HB26.out.size))
        have HZ27 : Hid (w26.heap.size ≤ w27.heap.size) := Lib.hid hb.size
        have HRk27 := Lib.hid (HRk0.out.below HB27.out (Nat.le_refl _))
        have HRm27 := Lib.hid (HRm26.out.below hb (Nat.le_refl _))
        have HKbm27 := Lib.hid ((hb.block _ (lt_of_block HKbm26.out)).trans HKbm26.out)
        have HBs23_27 : Hid (Below w23.heap.size w23 w27) := Lib.hid (HBs23_26.out.trans (hb.mono HBs23_26.out.size))
        clear hb
        clear cbm0 cbm1 fbm0 fbm1 ltbm
        have ltbm := lt_of_block HKbm27.out
        obtain ⟨cbm0, cbm1, fbm0, fbm1⟩ := cell2 HKbm27.out
        go_wp2_with fail
        refine (HS5.out _ _ _ HRm27.out).mono ?_
        rintro e w28 ⟨rfl, hb⟩
        have HB28 : Hid (Below w.heap.size w w28) := Lib.hid (HB27.out.trans (hb.mono HB27.out.size))
        have HZ28 : Hid (w27.heap.size ≤ w28.heap.size) := Lib.hid hb.size
        have HRk28 := Lib.hid (HRk0.out.below HB28.out (Nat.le_refl _))
        have HRm28 := Lib.hid (HRm27.out.below hb (Nat.le_refl _))
        have HKbm28 := Lib.hid ((hb.block _ (lt_of_block HKbm27.out)).trans HKbm27.out)
        have HBs23_28 : Hid (Below w23.heap.size w23 w28) := Lib.hid (HBs23_27.out.trans (hb.mono HBs23_27.out.size))
        clear hb
        clear cbm0 cbm1 fbm0 fbm1 ltbm
        have ltbm := lt_of_block HKbm28.out
        obtain ⟨cbm0, cbm1, fbm0, fbm1⟩ := cell2 HKbm28.out
        go_wp2_with fail
        refine (HQ5.out _ _ _ HRm28.out).mono ?_
        rintro e w29 ⟨rfl, hb⟩
        have HB29 : Hid (Below w.heap.size w w29) := Lib.hid (HB28.out.trans (hb.mono HB28.out.size))
        have HZ29 : Hid (w28.heap.size ≤ w29.heap.size) := Lib.hid hb.size
        have HRk29 := Lib.hid (HRk0.out.below HB29.out (Nat.le_refl _))
        have HRm29 := Lib.hid (HRm28.out.below hb (Nat.le_refl _))
        have HKbm29 := Lib.hid ((hb.block _ (lt_of_block HKbm28.out)).trans HKbm28.out)
        have HBs23_29 : Hid (Below w23.heap.size w23 w29) := Lib.hid (HBs23_28.out.trans (hb.mono HBs23_28.out.size))
        clear hb
        clear cbm0 cbm1 fbm0 fbm1 ltbm
        go_wp2_with fail
        go_ret
        exact ⟨ret_bool (by first | (simp; done) | rfl), HB29.out⟩
end Go.Proofs.YtbdddpchlmddbaaDoor
