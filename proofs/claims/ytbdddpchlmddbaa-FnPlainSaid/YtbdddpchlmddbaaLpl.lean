/- The law FnPlain. -/
import Derived.Test.YtbdddpchlmddbaaVbd
import Derived.Test.YtbdddpchlmddbaaPlm
import Derived.Test.YtbdddpchlmddbaaDbb
import Derived.Test.YtbdddpchlmddbaaDsb
import Derived.Test.YtbdddpchlmddbaaBplain
import Derived.Test.YtbdddpchlmddbaaJplain
import Derived.Test.YtbdddpchlmddbaaBtake
import Derived.Test.YtbdddpchlmddbaaJtake
import Derived.Test.YtbdddpchlmddbaaJval
import Derived.Test.YtbdddpchlmddbaaJset
import Derived.Test.YtbdddpchlmddbaaBsetb
import Derived.Test.YtbdddpchlmddbaaBval
namespace Go.Proofs.Ytbdddpchlmddbaa
set_option linter.unusedVariables false
open Go.RowKit
set_option linter.unusedSimpArgs false

def Br5 (f : Nat) (av : Array Value) (w : World) (qs qt : List Int) (b : Bool) : Prop :=
  Calls Try.prog f av w fun e w' => (∃ s t, e = .returned (.tuple #[.agg #[s, t], .bool b]) ∧ BrdR w' s t qs qt) ∧ Below w.heap.size w w'
theorem ofOwnB5 {f : Nat} {av : Array Value} {w : World} {qs qt : List Int} {b : Bool} (h : Calls Try.prog f av w fun e w' => (∃ s t, e = .returned (.tuple #[.agg #[s, t], .bool b]) ∧ OwB w.heap.size w'.heap.size w' s t qs qt) ∧ Below w.heap.size w w') : Br5 f av w qs qt b :=
  h.mono fun _ _ ⟨⟨s, t, he, ho⟩, hb⟩ => ⟨⟨s, t, he, ho.reads⟩, hb⟩
def I5 (f : Nat) (av : Array Value) (w : World) (x : Int) (b : Bool) : Prop :=
  Calls Try.prog f av w fun e w' => e = .returned (.tuple #[.int .i64 x, .bool b]) ∧ Below w.heap.size w w'
def Bo5 (f : Nat) (av : Array Value) (w : World) (c b : Bool) : Prop :=
  Calls Try.prog f av w fun e w' => e = .returned (.tuple #[.bool c, .bool b]) ∧ Below w.heap.size w w'
theorem val_small {ls ss : List Int} (h : okB ls ss) : 0 ≤ valB ls ss ∧ valB ls ss ≤ 2000000000 := by
  have := valB_max h 0 (Nat.zero_le _)
  simpa using this
def Bn5 (f : Nat) (av : Array Value) (w : World) (qs qt : List Int) (n : Int) (b : Bool) : Prop :=
  Calls Try.prog f av w fun e w' => (∃ s t, e = .returned (.tuple #[.agg #[s, t], .int .i64 n, .bool b]) ∧ BrdR w' s t qs qt) ∧ Below w.heap.size w w'
theorem ofOwnN5 {f : Nat} {av : Array Value} {w : World} {qs qt : List Int} {n : Int} {b : Bool} (h : Calls Try.prog f av w fun e w' => (∃ s t, e = .returned (.tuple #[.agg #[s, t], .int .i64 n, .bool b]) ∧ OwB w.heap.size w'.heap.size w' s t qs qt) ∧ Below w.heap.size w w') : Bn5 f av w qs qt n b :=
  h.mono fun _ _ ⟨⟨s, t, he, ho⟩, hb⟩ => ⟨⟨s, t, he, ho.reads⟩, hb⟩
theorem pn_same (ls ss : List Int) : ∃ (qs qt : List Int) (n : Int) (b : Bool), (∀ w v1 v2, BrdR w v1 v2 ls ss → Bn5 7 #[.agg #[v1, v2]] w qs qt n b) ∧ (∀ w v1 v2, BrdR w v1 v2 ls ss → Bn5 6 #[.agg #[v1, v2]] w qs qt n b) ∧
    (b = true → ∃ x : Int, (∀ w v1 v2, BrdR w v1 v2 ls ss → I5 9 #[.agg #[v1, v2]] w x true) ∧ (∀ w v1 v2, BrdR w v1 v2 qs qt → I5 9 #[.agg #[v1, v2]] w x true) ∧ (∀ w v1 v2, BrdR w v1 v2 qs qt → Bo5 10 #[.agg #[v1, v2]] w true true) ∧ (∀ w, Br5 11 #[.int .i64 (ls.length : Int), .int .i64 x] w qs qt true) ∧ 0 ≤ n) := by
  obtain ⟨qs, qt, n, b, hk⟩ := pnF_or ls ss
  refine ⟨qs, qt, n, b, fun w v1 v2 h => ofOwnN5 (specPlainBoard_any v1 v2 ls ss w h qs qt n b hk), fun w v1 v2 h => ofOwnN5 (implPlainBoard_any v1 v2 ls ss w h qs qt n b hk), fun hb => ?_⟩
  subst hb
  rcases hk with ⟨⟨hg, ho, hp⟩, rfl, rfl, rfl, -⟩ | ⟨-, -, -, -, h⟩
  · obtain ⟨h1, h2, h3, h4⟩ := plF_all ls ss hg ho hp
    have hv := val_small hg
    refine ⟨valB ls ss, fun w v1 v2 h => implValue_yes v1 v2 ls ss w h hg, fun w v1 v2 h => ?_, fun w v1 v2 h => implIsPlain_any v1 v2 _ _ w h true true (by simp [h1]) (by simp [h1, hp]), fun w => ofOwnB5 (implSetBoard_any _ _ w (by omega) _ _ true (.inl ⟨⟨by have := hg.1.1; omega, by have := hg.1.2; omega⟩, by simpa using h3⟩)), h4⟩
    have := implValue_yes v1 v2 _ _ w h h1
    rw [h2] at this
    exact this
  · cases h
theorem tk_same (ls ss ms ts : List Int) : ∃ (qs qt : List Int) (b : Bool), (∀ w v1 v2 u1 u2, BrdR w v1 v2 ls ss → BrdR w u1 u2 ms ts → Br5 14 #[.agg #[v1, v2], .agg #[u1, u2]] w qs qt b) ∧ (∀ w v1 v2 u1 u2, BrdR w v1 v2 ls ss → BrdR w u1 u2 ms ts → Br5 13 #[.agg #[v1, v2], .agg #[u1, u2]] w qs qt b) ∧
    (b = true → ∃ x y z : Int, (∀ w v1 v2, BrdR w v1 v2 ls ss → I5 9 #[.agg #[v1, v2]] w x true) ∧ (∀ w v1 v2, BrdR w v1 v2 ms ts → I5 9 #[.agg #[v1, v2]] w y true) ∧ (∀ w v1 v2, BrdR w v1 v2 qs qt → I5 9 #[.agg #[v1, v2]] w z true) ∧ IntKind.i64.wrap (y + z) = x) := by
  obtain ⟨qs, qt, b, hk⟩ := tkF_or ls ss ms ts
  refine ⟨qs, qt, b, fun w v1 v2 u1 u2 h h' => ofOwnB5 (specTake_any v1 v2 u1 u2 ls ss ms ts w h h' qs qt b hk), fun w v1 v2 u1 u2 h h' => ofOwnB5 (implTakeAway_any v1 v2 u1 u2 ls ss ms ts w h h' qs qt b hk), fun hb => ?_⟩
  subst hb
  rcases hk with ⟨⟨h1, h2⟩, ⟨⟨v0, v1⟩, rfl, rfl, -⟩ | ⟨-, -, -, h⟩⟩ | ⟨-, -, -, h⟩
  · have hx := val_small h1
    have hy := val_small h2
    have ho := okB_digits ls.length (valB ls ss - valB ms ts) h1.1
    have hv := val_digits ls.length _ v0 v1
    refine ⟨valB ls ss, valB ms ts, valB ls ss - valB ms ts, fun w v1 v2 h => implValue_yes v1 v2 ls ss w h h1, fun w v1 v2 h => implValue_yes v1 v2 ms ts w h h2, fun w v1 v2 h => ?_, by rw [IntKind.wrap_i64]; omega⟩
    have := implValue_yes v1 v2 _ _ w h ho
    rw [hv] at this
    exact this
  · cases h
  · cases h
theorem sb_same (l n : Int) (hn : n ≤ 9223372036854775807) : ∃ (qs qt : List Int) (b : Bool), (∀ w, Br5 16 #[.int .i64 l, .int .i64 n] w qs qt b) ∧ (∀ w, Br5 11 #[.int .i64 l, .int .i64 n] w qs qt b) := by
  obtain ⟨qs, qt, b, hk⟩ := sbF_or l n
  exact ⟨qs, qt, b, fun w => ofOwnB5 (specSetBoard_any l n w hn qs qt b hk), fun w => ofOwnB5 (implSetBoard_any l n w hn qs qt b hk)⟩
theorem ip_same (ls ss : List Int) : ∃ c b : Bool, (∀ w v1 v2, BrdR w v1 v2 ls ss → Bo5 18 #[.agg #[v1, v2]] w c b) ∧ (∀ w v1 v2, BrdR w v1 v2 ls ss → Bo5 10 #[.agg #[v1, v2]] w c b) := by
  obtain ⟨b, hb⟩ : ∃ b : Bool, b = true ↔ okB ls ss := by
    by_cases h : okB ls ss
    · exact ⟨true, by simp [h]⟩
    · exact ⟨false, by simp [h]⟩
  obtain ⟨c, hc⟩ : ∃ b : Bool, b = true ↔ okB ls ss ∧ plB ls ss := by
    by_cases h : okB ls ss ∧ plB ls ss
    · exact ⟨true, by simp [h]⟩
    · exact ⟨false, by simp [h]⟩
  exact ⟨c, b, fun w v1 v2 h => specIsPlain_any v1 v2 ls ss w h c b hb hc, fun w v1 v2 h => implIsPlain_any v1 v2 ls ss w h c b hb hc⟩
theorem bv_same (ls ss : List Int) : ∃ (x : Int) (b : Bool), (∀ w v1 v2, BrdR w v1 v2 ls ss → I5 20 #[.agg #[v1, v2]] w x b) ∧ (∀ w v1 v2, BrdR w v1 v2 ls ss → I5 9 #[.agg #[v1, v2]] w x b) := by
  by_cases h : okB ls ss
  · exact ⟨_, true, fun w v1 v2 h' => specBoardValue_yes v1 v2 ls ss w h' h, fun w v1 v2 h' => implValue_yes v1 v2 ls ss w h' h⟩
  · exact ⟨0, false, fun w v1 v2 h' => specBoardValue_no v1 v2 ls ss w h' h, fun w v1 v2 h' => implValue_no v1 v2 ls ss w h' h⟩
set_option maxRecDepth 100000 in
set_option maxHeartbeats 12800000 in
theorem lawPlain (w : World) (ad : Option Addr) (cp : Nat) (L : List UInt8) (h : SlR w (.slice ad L.length cp) (L.map fun c => .int .u8 (c.toNat : Int))) :
    Calls Try.prog 3 #[.slice ad L.length cp] w fun e w' => e = .returned (.bool true) ∧ Below w.heap.size w w' := by
  have hm : L.length ≤ 9223372036854775807 := by
    obtain ⟨a, c, e, ⟨m, _⟩, _⟩ := h
    rw [List.length_map] at m
    exact m
  have HB0 : Hid (Below w.heap.size w w) := Lib.hid (Below.refl _ _)
  have HRk0 := Lib.hid (h)
  clear h
  by_cases hbig : (65536 : Int) < (L.length : Int)
  · go_enter Try.func3, Try.ntmps3
    go_wp2_with fail
    refine (rBig_any ad L.length cp _ true (decide_eq_true hbig)).mono ?_
    rintro e w' ⟨rfl, hw⟩
    subst w'
    go_wp2_with fail
    go_ret
    exact ⟨rfl, Below.refl _ _⟩
  · go_enter Try.func3, Try.ntmps3
    go_wp2_with fail
    refine (rBig_any ad L.length cp _ false (decide_eq_false (by omega))).mono ?_
    rintro e w' ⟨rfl, hw⟩
    subst w'
    go_wp2_with fail
    refine (drawPlainBoard_any _ L _ HRk0.out).mono ?_
    rintro e w1 ⟨⟨v1, v2, ls, ss, rfl, ho, hl1, hl2⟩, hb⟩
    have HB1 : Hid (Below w.heap.size w w1) := Lib.hid (HB0.out.trans (hb.mono HB0.out.size))
    have HZ1 : Hid (w.heap.size ≤ w1.heap.size) := Lib.hid hb.size
    have HRk1 := Lib.hid (HRk0.out.below HB1.out (Nat.le_refl _))
    clear hb
    obtain ⟨qaa, qca, raa, rca, rfl, rfl⟩ := ho.1.form
    have HRa1 := Lib.hid (ho.1)
    have HBs1_1 : Hid (Below w1.heap.size w1 w1) := Lib.hid (Below.refl _ _)
    clear ho
    obtain ⟨ps, qs, n, b, hS, hI, hY⟩ := pn_same ls ss
    have HS1 := Lib.hid hS
    have HI1 := Lib.hid hI
    clear hS hI
    have hneb : (b != b) = false := by simp
    have hnen : (n != n) = false := by simp
    go_wp2_with fail
    have hb : Below w1.heap.size w1 (w1.alloc (.cells #[.slice qaa ls.length qca, .slice raa ss.length rca] 26)) := (Below.refl _ _).alloc (Nat.le_refl _) _
    have hk : (w1.alloc (.cells #[.slice qaa ls.length qca, .slice raa ss.length rca] 26)).heap[w1.heap.size]? = some (.cells #[.slice qaa ls.length qca, .slice raa ss.length rca] 26 (0, 0)) := alloc_at rfl
    have hz : (w1.alloc (.cells #[.slice qaa ls.length qca, .slice raa ss.length rca] 26)).heap.size = w1.heap.size + 1 := by simp
    generalize w1.alloc (.cells #[.slice qaa ls.length qca, .slice raa ss.length rca] 26) = w2 at hb hk hz ⊢
    have HB2 : Hid (Below w.heap.size w w2) := Lib.hid (HB1.out.trans (hb.mono HB1.out.size))
    have HZ2 : Hid (w1.heap.size ≤ w2.heap.size) := Lib.hid hb.size
    have HRk2 := Lib.hid (HRk0.out.below HB2.out (Nat.le_refl _))
    have HRa2 := Lib.hid (HRa1.out.below hb (Nat.le_refl _))
    have HBs1_2 : Hid (Below w1.heap.size w1 w2) := Lib.hid (HBs1_1.out.trans (hb.mono HBs1_1.out.size))
    have HKba2 := Lib.hid hk
    replace HZ2 : Hid (w1.heap.size < w2.heap.size) := Lib.hid (by omega)
    have HE2 := Lib.hid hz
    clear hb hk hz
    refine (HI1.out _ _ _ HRa2.out).mono ?_
    rintro e w3 ⟨⟨s1, t1, rfl, ho⟩, hb⟩
    have HB3 : Hid (Below w.heap.size w w3) := Lib.hid (HB2.out.trans (hb.mono HB2.out.size))
    have HZ3 : Hid (w2.heap.size ≤ w3.heap.size) := Lib.hid hb.size
    have HRk3 := Lib.hid (HRk0.out.below HB3.out (Nat.le_refl _))
    have HRa3 := Lib.hid (HRa2.out.below hb (Nat.le_refl _))
    have HKba3 := Lib.hid ((hb.block _ (lt_of_block HKba2.out)).trans HKba2.out)
    have HBs1_3 : Hid (Below w1.heap.size w1 w3) := Lib.hid (HBs1_2.out.trans (hb.mono HBs1_2.out.size))
    clear hb
    obtain ⟨qap, qcp, rap, rcp, rfl, rfl⟩ := ho.form
    have HRp3 := Lib.hid (ho)
    have HBs3_3 : Hid (Below w3.heap.size w3 w3) := Lib.hid (Below.refl _ _)
    clear ho
    have ltba := lt_of_block HKba3.out
    obtain ⟨cba0, cba1, fba0, fba1⟩ := cell2 HKba3.out
    go_wp2_with fail
    have hb : Below w3.heap.size w3 (w3.alloc (.cells #[.slice qap ps.length qcp, .slice rap qs.length rcp] 26)) := (Below.refl _ _).alloc (Nat.le_refl _) _
    have hk : (w3.alloc (.cells #[.slice qap ps.length qcp, .slice rap qs.length rcp] 26)).heap[w3.heap.size]? = some (.cells #[.slice qap ps.length qcp, .slice rap qs.length rcp] 26 (0, 0)) := alloc_at rfl
    have hz : (w3.alloc (.cells #[.slice qap ps.length qcp, .slice rap qs.length rcp] 26)).heap.size = w3.heap.size + 1 := by simp
    generalize w3.alloc (.cells #[.slice qap ps.length qcp, .slice rap qs.length rcp] 26) = w4 at hb hk hz ⊢
    have HB4 : Hid (Below w.heap.size w w4) := Lib.hid (HB3.out.trans (hb.mono HB3.out.size))
    have HZ4 : Hid (w3.heap.size ≤ w4.heap.size) := Lib.hid hb.size
    have HRk4 := Lib.hid (HRk0.out.below HB4.out (Nat.le_refl _))
    have HRa4 := Lib.hid (HRa3.out.below hb (Nat.le_refl _))
    have HKba4 := Lib.hid ((hb.block _ (lt_of_block HKba3.out)).trans HKba3.out)
    have HRp4 := Lib.hid (HRp3.out.below hb (Nat.le_refl _))
    have HBs1_4 : Hid (Below w1.heap.size w1 w4) := Lib.hid (HBs1_3.out.trans (hb.mono HBs1_3.out.size))
    have HBs3_4 : Hid (Below w3.heap.size w3 w4) := Lib.hid (HBs3_3.out.trans (hb.mono HBs3_3.out.size))
    have HKbp4 := Lib.hid hk
    replace HZ4 : Hid (w3.heap.size < w4.heap.size) := Lib.hid (by omega)
    have HE4 := Lib.hid hz
    clear hb hk hz
    refine (HS1.out _ _ _ HRa4.out).mono ?_
    rintro e w5 ⟨⟨s1, t1, rfl, ho⟩, hb⟩
    have HB5 : Hid (Below w.heap.size w w5) := Lib.hid (HB4.out.trans (hb.mono HB4.out.size))
    have HZ5 : Hid (w4.heap.size ≤ w5.heap.size) := Lib.hid hb.size
    have HRk5 := Lib.hid (HRk0.out.below HB5.out (Nat.le_refl _))
    have HRa5 := Lib.hid (HRa4.out.below hb (Nat.le_refl _))
    have HKba5 := Lib.hid ((hb.block _ (lt_of_block HKba4.out)).trans HKba4.out)
    have HRp5 := Lib.hid (HRp4.out.below hb (Nat.le_refl _))
    have HKbp5 := Lib.hid ((hb.block _ (lt_of_block HKbp4.out)).trans HKbp4.out)
    have HBs1_5 : Hid (Below w1.heap.size w1 w5) := Lib.hid (HBs1_4.out.trans (hb.mono HBs1_4.out.size))
    have HBs3_5 : Hid (Below w3.heap.size w3 w5) := Lib.hid (HBs3_4.out.trans (hb.mono HBs3_4.out.size))
    clear hb
    obtain ⟨qaq, qcq, raq, rcq, rfl, rfl⟩ := ho.form
    have HRq5 := Lib.hid (ho)
    have HBs5_5 : Hid (Below w5.heap.size w5 w5) := Lib.hid (Below.refl _ _)
    clear ho
    clear cba0 cba1 fba0 fba1 ltba
    have ltba := lt_of_block HKba5.out
    obtain ⟨cba0, cba1, fba0, fba1⟩ := cell2 HKba5.out
    have ltbp := lt_of_block HKbp5.out
    obtain ⟨cbp0, cbp1, fbp0, fbp1⟩ := cell2 HKbp5.out
    go_wp2_with fail
    have hb : Below w5.heap.size w5 (w5.alloc (.cells #[.slice qaq ps.length qcq, .slice raq qs.length rcq] 26)) := (Below.refl _ _).alloc (Nat.le_refl _) _
    have hk : (w5.alloc (.cells #[.slice qaq ps.length qcq, .slice raq qs.length rcq] 26)).heap[w5.heap.size]? = some (.cells #[.slice qaq ps.length qcq, .slice raq qs.length rcq] 26 (0, 0)) := alloc_at rfl
    have hz : (w5.alloc (.cells #[.slice qaq ps.length qcq, .slice raq qs.length rcq] 26)).heap.size = w5.heap.size + 1 := by simp
    generalize w5.alloc (.cells #[.slice qaq ps.length qcq, .slice raq qs.length rcq] 26) = w6 at hb hk hz ⊢
    have HB6 : Hid (Below w.heap.size w w6) := Lib.hid (HB5.out.trans (hb.mono HB5.out.size))
    have HZ6 : Hid (w5.heap.size ≤ w6.heap.size) := Lib.hid hb.size
    have HRk6 := Lib.hid (HRk0.out.below HB6.out (Nat.le_refl _))
    have HRa6 := Lib.hid (HRa5.out.below hb (Nat.le_refl _))
    have HKba6 := Lib.hid ((hb.block _ (lt_of_block HKba5.out)).trans HKba5.out)
    have HRp6 := Lib.hid (HRp5.out.below hb (Nat.le_refl _))
    have HKbp6 := Lib.hid ((hb.block _ (lt_of_block HKbp5.out)).trans HKbp5.out)
    have HRq6 := Lib.hid (HRq5.out.below hb (Nat.le_refl _))
    have HBs1_6 : Hid (Below w1.heap.size w1 w6) := Lib.hid (HBs1_5.out.trans (hb.mono HBs1_5.out.size))
    have HBs3_6 : Hid (Below w3.heap.size w3 w6) := Lib.hid (HBs3_5.out.trans (hb.mono HBs3_5.out.size))
    have HBs5_6 : Hid (Below w5.heap.size w5 w6) := Lib.hid (HBs5_5.out.trans (hb.mono HBs5_5.out.size))
    have HKbq6 := Lib.hid hk
    replace HZ6 : Hid (w5.heap.size < w6.heap.size) := Lib.hid (by omega)
    have HE6 := Lib.hid hz
    clear hb hk hz
    refine (rBoard_yes _ _ _ _ ps qs _ HRp6.out HRq6.out).mono ?_
    rintro e w7 ⟨rfl, hb⟩
    have HB7 : Hid (Below w.heap.size w w7) := Lib.hid (HB6.out.trans (hb.mono HB6.out.size))
    have HZ7 : Hid (w6.heap.size ≤ w7.heap.size) := Lib.hid hb.size
    have HRk7 := Lib.hid (HRk0.out.below HB7.out (Nat.le_refl _))
    have HRa7 := Lib.hid (HRa6.out.below hb (Nat.le_refl _))
    have HKba7 := Lib.hid ((hb.block _ (lt_of_block HKba6.out)).trans HKba6.out)
    have HRp7 := Lib.hid (HRp6.out.below hb (Nat.le_refl _))
    have HKbp7 := Lib.hid ((hb.block _ (lt_of_block HKbp6.out)).trans HKbp6.out)
    have HRq7 := Lib.hid (HRq6.out.below hb (Nat.le_refl _))
    have HKbq7 := Lib.hid ((hb.block _ (lt_of_block HKbq6.out)).trans HKbq6.out)
    have HBs1_7 : Hid (Below w1.heap.size w1 w7) := Lib.hid (HBs1_6.out.trans (hb.mono HBs1_6.out.size))
    have HBs3_7 : Hid (Below w3.heap.size w3 w7) := Lib.hid (HBs3_6.out.trans (hb.mono HBs3_6.out.size))
    have HBs5_7 : Hid (Below w5.heap.size w5 w7) := Lib.hid (HBs5_6.out.trans (hb.mono HBs5_6.out.size))
    clear hb
    cases b with
    | true =>
      obtain ⟨x, k1, k2, k3, k4, hn0⟩ := hY rfl
      have HK1 := Lib.hid k1
      have HK2 := Lib.hid k2
      have HK3 := Lib.hid k3
      have HK4 := Lib.hid k4
      have hn1 : ¬ (n < 0) := by omega
      clear hY k1 k2 k3 k4
      have hnex : (x != x) = false := by simp
      clear cba0 cba1 fba0 fba1 ltba cbp0 cbp1 fbp0 fbp1 ltbp
      have ltba := lt_of_block HKba7.out
      obtain ⟨cba0, cba1, fba0, fba1⟩ := cell2 HKba7.out
      have ltbp := lt_of_block HKbp7.out
      obtain ⟨cbp0, cbp1, fbp0, fbp1⟩ := cell2 HKbp7.out
      go_wp2_with fail
      refine (HK1.out _ _ _ HRa7.out).mono ?_
      rintro e w8 ⟨rfl, hb⟩
      have HB8 : Hid (Below w.heap.size w w8) := Lib.hid (HB7.out.trans (hb.mono HB7.out.size))
      have HZ8 : Hid (w7.heap.size ≤ w8.heap.size) := Lib.hid hb.size
      have HRk8 := Lib.hid (HRk0.out.below HB8.out (Nat.le_refl _))
      have HRa8 := Lib.hid (HRa7.out.below hb (Nat.le_refl _))
      have HKba8 := Lib.hid ((hb.block _ (lt_of_block HKba7.out)).trans HKba7.out)
      have HRp8 := Lib.hid (HRp7.out.below hb (Nat.le_refl _))
      have HKbp8 := Lib.hid ((hb.block _ (lt_of_block HKbp7.out)).trans HKbp7.out)
      have HBs1_8 : Hid (Below w1.heap.size w1 w8) := Lib.hid (HBs1_7.out.trans (hb.mono HBs1_7.out.size))
      have HBs3_8 : Hid (Below w3.heap.size w3 w8) := Lib.hid (HBs3_7.out.trans (hb.mono HBs3_7.out.size))
      clear hb
      clear cba0 cba1 fba0 fba1 ltba cbp0 cbp1 fbp0 fbp1 ltbp
      have ltba := lt_of_block HKba8.out
      obtain ⟨cba0, cba1, fba0, fba1⟩ := cell2 HKba8.out
      have ltbp := lt_of_block HKbp8.out
      obtain ⟨cbp0, cbp1, fbp0, fbp1⟩ := cell2 HKbp8.out
      go_wp2_with fail
      refine (HK2.out _ _ _ HRp8.out).mono ?_
      rintro e w9 ⟨rfl, hb⟩
      have HB9 : Hid (Below w.heap.size w w9) := Lib.hid (HB8.out.trans (hb.mono HB8.out.size))
      have HZ9 : Hid (w8.heap.size ≤ w9.heap.size) := Lib.hid hb.size
      have HRk9 := Lib.hid (HRk0.out.below HB9.out (Nat.le_refl _))
      have HRa9 := Lib.hid (HRa8.out.below hb (Nat.le_refl _))
      have HKba9 := Lib.hid ((hb.block _ (lt_of_block HKba8.out)).trans HKba8.out)
      have HRp9 := Lib.hid (HRp8.out.below hb (Nat.le_refl _))
      have HKbp9 := Lib.hid ((hb.block _ (lt_of_block HKbp8.out)).trans HKbp8.out)
      have HBs1_9 : Hid (Below w1.heap.size w1 w9) := Lib.hid (HBs1_8.out.trans (hb.mono HBs1_8.out.size))
      have HBs3_9 : Hid (Below w3.heap.size w3 w9) := Lib.hid (HBs3_8.out.trans (hb.mono HBs3_8.out.size))
      clear hb
      clear cba0 cba1 fba0 fba1 ltba cbp0 cbp1 fbp0 fbp1 ltbp
      have ltba := lt_of_block HKba9.out
      obtain ⟨cba0, cba1, fba0, fba1⟩ := cell2 HKba9.out
      have ltbp := lt_of_block HKbp9.out
      obtain ⟨cbp0, cbp1, fbp0, fbp1⟩ := cell2 HKbp9.out
      go_wp2_with fail
      refine (HK3.out _ _ _ HRp9.out).mono ?_
      rintro e w10 ⟨rfl, hb⟩
      have HB10 : Hid (Below w.heap.size w w10) := Lib.hid (HB9.out.trans (hb.mono HB9.out.size))
      have HZ10 : Hid (w9.heap.size ≤ w10.heap.size) := Lib.hid hb.size
      have HRk10 := Lib.hid (HRk0.out.below HB10.out (Nat.le_refl _))
      have HRa10 := Lib.hid (HRa9.out.below hb (Nat.le_refl _))
      have HKba10 := Lib.hid ((hb.block _ (lt_of_block HKba9.out)).trans HKba9.out)
      have HRp10 := Lib.hid (HRp9.out.below hb (Nat.le_refl _))
      have HKbp10 := Lib.hid ((hb.block _ (lt_of_block HKbp9.out)).trans HKbp9.out)
      have HBs1_10 : Hid (Below w1.heap.size w1 w10) := Lib.hid (HBs1_9.out.trans (hb.mono HBs1_9.out.size))
      have HBs3_10 : Hid (Below w3.heap.size w3 w10) := Lib.hid (HBs3_9.out.trans (hb.mono HBs3_9.out.size))
      clear hb
      clear cba0 cba1 fba0 fba1 ltba cbp0 cbp1 fbp0 fbp1 ltbp
      have ltba := lt_of_block HKba10.out
      obtain ⟨cba0, cba1, fba0, fba1⟩ := cell2 HKba10.out
      have ltbp := lt_of_block HKbp10.out
      obtain ⟨cbp0, cbp1, fbp0, fbp1⟩ := cell2 HKbp10.out
      go_wp2_with fail
      refine (HK4.out _).mono ?_
      rintro e w11 ⟨⟨s1, t1, rfl, ho⟩, hb⟩
      have HB11 : Hid (Below w.heap.size w w11) := Lib.hid (HB10.out.trans (hb.mono HB10.out.size))
      have HZ11 : Hid (w10.heap.size ≤ w11.heap.size) := Lib.hid hb.size
      have HRk11 := Lib.hid (HRk0.out.below HB11.out (Nat.le_refl _))
      have HRa11 := Lib.hid (HRa10.out.below hb (Nat.le_refl _))
      have HKba11 := Lib.hid ((hb.block _ (lt_of_block HKba10.out)).trans HKba10.out)
      have HRp11 := Lib.hid (HRp10.out.below hb (Nat.le_refl _))
      have HKbp11 := Lib.hid ((hb.block _ (lt_of_block HKbp10.out)).trans HKbp10.out)
      have HBs1_11 : Hid (Below w1.heap.size w1 w11) := Lib.hid (HBs1_10.out.trans (hb.mono HBs1_10.out.size))
      have HBs3_11 : Hid (Below w3.heap.size w3 w11) := Lib.hid (HBs3_10.out.trans (hb.mono HBs3_10.out.size))
      clear hb
      obtain ⟨qar, qcr, rar, rcr, rfl, rfl⟩ := ho.form
      have HRr11 := Lib.hid (ho)
      have HBs11_11 : Hid (Below w11.heap.size w11 w11) := Lib.hid (Below.refl _ _)
      clear ho
      clear cba0 cba1 fba0 fba1 ltba cbp0 cbp1 fbp0 fbp1 ltbp
      have ltba := lt_of_block HKba11.out
      obtain ⟨cba0, cba1, fba0, fba1⟩ := cell2 HKba11.out
      have ltbp := lt_of_block HKbp11.out
      obtain ⟨cbp0, cbp1, fbp0, fbp1⟩ := cell2 HKbp11.out
      go_wp2_with fail
      have hb : Below w11.heap.size w11 (w11.alloc (.cells #[.slice qar ps.length qcr, .slice rar qs.length rcr] 26)) := (Below.refl _ _).alloc (Nat.le_refl _) _
      have hk : (w11.alloc (.cells #[.slice qar ps.length qcr, .slice rar qs.length rcr] 26)).heap[w11.heap.size]? = some (.cells #[.slice qar ps.length qcr, .slice rar qs.length rcr] 26 (0, 0)) := alloc_at rfl
      have hz : (w11.alloc (.cells #[.slice qar ps.length qcr, .slice rar qs.length rcr] 26)).heap.size = w11.heap.size + 1 := by simp
      generalize w11.alloc (.cells #[.slice qar ps.length qcr, .slice rar qs.length rcr] 26) = w12 at hb hk hz ⊢
      have HB12 : Hid (Below w.heap.size w w12) := Lib.hid (HB11.out.trans (hb.mono HB11.out.size))
      have HZ12 : Hid (w11.heap.size ≤ w12.heap.size) := Lib.hid hb.size
      have HRk12 := Lib.hid (HRk0.out.below HB12.out (Nat.le_refl _))
      have HRa12 := Lib.hid (HRa11.out.below hb (Nat.le_refl _))
      have HKba12 := Lib.hid ((hb.block _ (lt_of_block HKba11.out)).trans HKba11.out)
      have HRp12 := Lib.hid (HRp11.out.below hb (Nat.le_refl _))
      have HKbp12 := Lib.hid ((hb.block _ (lt_of_block HKbp11.out)).trans HKbp11.out)
      have HRr12 := Lib.hid (HRr11.out.below hb (Nat.le_refl _))
      have HBs1_12 : Hid (Below w1.heap.size w1 w12) := Lib.hid (HBs1_11.out.trans (hb.mono HBs1_11.out.size))
      have HBs3_12 : Hid (Below w3.heap.size w3 w12) := Lib.hid (HBs3_11.out.trans (hb.mono HBs3_11.out.size))
      have HBs11_12 : Hid (Below w11.heap.size w11 w12) := Lib.hid (HBs11_11.out.trans (hb.mono HBs11_11.out.size))
      have HKbr12 := Lib.hid hk
      replace HZ12 : Hid (w11.heap.size < w12.heap.size) := Lib.hid (by omega)
      have HE12 := Lib.hid hz
      clear hb hk hz
      refine (rBoard_yes _ _ _ _ ps qs _ HRr12.out HRp12.out).mono ?_
      rintro e w13 ⟨rfl, hb⟩
      have HB13 : Hid (Below w.heap.size w w13) := Lib.hid (HB12.out.trans (hb.mono HB12.out.size))
      have HZ13 : Hid (w12.heap.size ≤ w13.heap.size) := Lib.hid hb.size
      have HRk13 := Lib.hid (HRk0.out.below HB13.out (Nat.le_refl _))
      have HRa13 := Lib.hid (HRa12.out.below hb (Nat.le_refl _))
      have HKba13 := Lib.hid ((hb.block _ (lt_of_block HKba12.out)).trans HKba12.out)
      have HRp13 := Lib.hid (HRp12.out.below hb (Nat.le_refl _))
      have HKbp13 := Lib.hid ((hb.block _ (lt_of_block HKbp12.out)).trans HKbp12.out)
      have HRr13 := Lib.hid (HRr12.out.below hb (Nat.le_refl _))
      have HKbr13 := Lib.hid ((hb.block _ (lt_of_block HKbr12.out)).trans HKbr12.out)
      have HBs1_13 : Hid (Below w1.heap.size w1 w13) := Lib.hid (HBs1_12.out.trans (hb.mono HBs1_12.out.size))
      have HBs3_13 : Hid (Below w3.heap.size w3 w13) := Lib.hid (HBs3_12.out.trans (hb.mono HBs3_12.out.size))
      have HBs11_13 : Hid (Below w11.heap.size w11 w13) := Lib.hid (HBs11_12.out.trans (hb.mono HBs11_12.out.size))
      clear hb
      clear cba0 cba1 fba0 fba1 ltba cbp0 cbp1 fbp0 fbp1 ltbp
      go_wp2_with fail
      refine (drawTakeAway_any _ L _ HRk13.out).mono ?_
      rintro e w14 ⟨⟨v1, v2, u1, u2, ms, ts, cs, ds, rfl, ⟨ho, -, -⟩, ho2, -, -⟩, hb⟩
      have HB14 : Hid (Below w.heap.size w w14) := Lib.hid (HB13.out.trans (hb.mono HB13.out.size))
      have HZ14 : Hid (w13.heap.size ≤ w14.heap.size) := Lib.hid hb.size
      have HRk14 := Lib.hid (HRk0.out.below HB14.out (Nat.le_refl _))
      clear hb
      obtain ⟨qac, qcc, rac, rcc, rfl, rfl⟩ := ho.1.form
      obtain ⟨qad, qcd, rad, rcd, rfl, rfl⟩ := ho2.1.form
      have HRc14 := Lib.hid (ho.1)
      have HBs14_14 : Hid (Below w14.heap.size w14 w14) := Lib.hid (Below.refl _ _)
      have HRd14 := Lib.hid (ho2.1)
      clear ho ho2
      obtain ⟨es, fs, b2, hS, hI, hY2⟩ := tk_same ms ts cs ds
      have HS2 := Lib.hid hS
      have HI2 := Lib.hid hI
      clear hS hI
      have hneb2 : (b2 != b2) = false := by simp
      go_wp2_with fail
      have hb : Below w14.heap.size w14 (w14.alloc (.cells #[.slice qac ms.length qcc, .slice rac ts.length rcc] 26)) := (Below.refl _ _).alloc (Nat.le_refl _) _
      have hk : (w14.alloc (.cells #[.slice qac ms.length qcc, .slice rac ts.length rcc] 26)).heap[w14.heap.size]? = some (.cells #[.slice qac ms.length qcc, .slice rac ts.length rcc] 26 (0, 0)) := alloc_at rfl
      have hz : (w14.alloc (.cells #[.slice qac ms.length qcc, .slice rac ts.length rcc] 26)).heap.size = w14.heap.size + 1 := by simp
      generalize w14.alloc (.cells #[.slice qac ms.length qcc, .slice rac ts.length rcc] 26) = w15 at hb hk hz ⊢
      have HB15 : Hid (Below w.heap.size w w15) := Lib.hid (HB14.out.trans (hb.mono HB14.out.size))
      have HZ15 : Hid (w14.heap.size ≤ w15.heap.size) := Lib.hid hb.size
      have HRk15 := Lib.hid (HRk0.out.below HB15.out (Nat.le_refl _))
      have HRc15 := Lib.hid (HRc14.out.below hb (Nat.le_refl _))
      have HRd15 := Lib.hid (HRd14.out.below hb (Nat.le_refl _))
      have HBs14_15 : Hid (Below w14.heap.size w14 w15) := Lib.hid (HBs14_14.out.trans (hb.mono HBs14_14.out.size))
      have HKbc15 := Lib.hid hk
      replace HZ15 : Hid (w14.heap.size < w15.heap.size) := Lib.hid (by omega)
      have HE15 := Lib.hid hz
      clear hb hk hz
      have hb : Below w15.heap.size w15 (w15.alloc (.cells #[.slice qad cs.length qcd, .slice rad ds.length rcd] 26)) := (Below.refl _ _).alloc (Nat.le_refl _) _
      have hk : (w15.alloc (.cells #[.slice qad cs.length qcd, .slice rad ds.length rcd] 26)).heap[w14.heap.size + 1]? = some (.cells #[.slice qad cs.length qcd, .slice rad ds.length rcd] 26 (0, 0)) := alloc_at (by have := HE2.out; have := HE4.out; have := HE6.out; have := HE12.out; have := HE15.out; omega)
      have hz : (w15.alloc (.cells #[.slice qad cs.length qcd, .slice rad ds.length rcd] 26)).heap.size = w15.heap.size + 1 := by simp
      generalize w15.alloc (.cells #[.slice qad cs.length qcd, .slice rad ds.length rcd] 26) = w16 at hb hk hz ⊢
      have HB16 : Hid (Below w.heap.size w w16) := Lib.hid (HB15.out.trans (hb.mono HB15.out.size))
      have HZ16 : Hid (w15.heap.size ≤ w16.heap.size) := Lib.hid hb.size
      have HRk16 := Lib.hid (HRk0.out.below HB16.out (Nat.le_refl _))
      have HRc16 := Lib.hid (HRc15.out.below hb (Nat.le_refl _))
      have HRd16 := Lib.hid (HRd15.out.below hb (Nat.le_refl _))
      have HKbc16 := Lib.hid ((hb.block _ (lt_of_block HKbc15.out)).trans HKbc15.out)
      have HBs14_16 : Hid (Below w14.heap.size w14 w16) := Lib.hid (HBs14_15.out.trans (hb.mono HBs14_15.out.size))
      have HKbd16 := Lib.hid hk
      replace HZ16 : Hid (w15.heap.size < w16.heap.size) := Lib.hid (by omega)
      have HE16 := Lib.hid hz
      clear hb hk hz
      refine (HI2.out _ _ _ _ _ HRc16.out HRd16.out).mono ?_
      rintro e w17 ⟨⟨s1, t1, rfl, ho⟩, hb⟩
      have HB17 : Hid (Below w.heap.size w w17) := Lib.hid (HB16.out.trans (hb.mono HB16.out.size))
      have HZ17 : Hid (w16.heap.size ≤ w17.heap.size) := Lib.hid hb.size
      have HRk17 := Lib.hid (HRk0.out.below HB17.out (Nat.le_refl _))
      have HRc17 := Lib.hid (HRc16.out.below hb (Nat.le_refl _))
      have HRd17 := Lib.hid (HRd16.out.below hb (Nat.le_refl _))
      have HKbc17 := Lib.hid ((hb.block _ (lt_of_block HKbc16.out)).trans HKbc16.out)
      have HKbd17 := Lib.hid ((hb.block _ (lt_of_block HKbd16.out)).trans HKbd16.out)
      have HBs14_17 : Hid (Below w14.heap.size w14 w17) := Lib.hid (HBs14_16.out.trans (hb.mono HBs14_16.out.size))
      clear hb
      obtain ⟨qae, qce, rae, rce, rfl, rfl⟩ := ho.form
      have HRe17 := Lib.hid (ho)
      have HBs17_17 : Hid (Below w17.heap.size w17 w17) := Lib.hid (Below.refl _ _)
      clear ho
      have ltbc := lt_of_block HKbc17.out
      obtain ⟨cbc0, cbc1, fbc0, fbc1⟩ := cell2 HKbc17.out
      have ltbd := lt_of_block HKbd17.out
      obtain ⟨cbd0, cbd1, fbd0, fbd1⟩ := cell2 HKbd17.out
      go_wp2_with fail
      have hb : Below w17.heap.size w17 (w17.alloc (.cells #[.slice qae es.length qce, .slice rae fs.length rce] 26)) := (Below.refl _ _).alloc (Nat.le_refl _) _
      have hk : (w17.alloc (.cells #[.slice qae es.length qce, .slice rae fs.length rce] 26)).heap[w17.heap.size]? = some (.cells #[.slice qae es.length qce, .slice rae fs.length rce] 26 (0, 0)) := alloc_at rfl
      have hz : (w17.alloc (.cells #[.slice qae es.length qce, .slice rae fs.length rce] 26)).heap.size = w17.heap.size + 1 := by simp
      generalize w17.alloc (.cells #[.slice qae es.length qce, .slice rae fs.length rce] 26) = w18 at hb hk hz ⊢
      have HB18 : Hid (Below w.heap.size w w18) := Lib.hid (HB17.out.trans (hb.mono HB17.out.size))
      have HZ18 : Hid (w17.heap.size ≤ w18.heap.size) := Lib.hid hb.size
      have HRk18 := Lib.hid (HRk0.out.below HB18.out (Nat.le_refl _))
      have HRc18 := Lib.hid (HRc17.out.below hb (Nat.le_refl _))
      have HRd18 := Lib.hid (HRd17.out.below hb (Nat.le_refl _))
      have HKbc18 := Lib.hid ((hb.block _ (lt_of_block HKbc17.out)).trans HKbc17.out)
      have HKbd18 := Lib.hid ((hb.block _ (lt_of_block HKbd17.out)).trans HKbd17.out)
      have HRe18 := Lib.hid (HRe17.out.below hb (Nat.le_refl _))
      have HBs14_18 : Hid (Below w14.heap.size w14 w18) := Lib.hid (HBs14_17.out.trans (hb.mono HBs14_17.out.size))
      have HBs17_18 : Hid (Below w17.heap.size w17 w18) := Lib.hid (HBs17_17.out.trans (hb.mono HBs17_17.out.size))
      have HKbe18 := Lib.hid hk
      replace HZ18 : Hid (w17.heap.size < w18.heap.size) := Lib.hid (by omega)
      have HE18 := Lib.hid hz
      clear hb hk hz
      refine (HS2.out _ _ _ _ _ HRc18.out HRd18.out).mono ?_
      rintro e w19 ⟨⟨s1, t1, rfl, ho⟩, hb⟩
      have HB19 : Hid (Below w.heap.size w w19) := Lib.hid (HB18.out.trans (hb.mono HB18.out.size))
      have HZ19 : Hid (w18.heap.size ≤ w19.heap.size) := Lib.hid hb.size
      have HRk19 := Lib.hid (HRk0.out.below HB19.out (Nat.le_refl _))
      have HRc19 := Lib.hid (HRc18.out.below hb (Nat.le_refl _))
      have HRd19 := Lib.hid (HRd18.out.below hb (Nat.le_refl _))
      have HKbc19 := Lib.hid ((hb.block _ (lt_of_block HKbc18.out)).trans HKbc18.out)
      have HKbd19 := Lib.hid ((hb.block _ (lt_of_block HKbd18.out)).trans HKbd18.out)
      have HRe19 := Lib.hid (HRe18.out.below hb (Nat.le_refl _))
      have HKbe19 := Lib.hid ((hb.block _ (lt_of_block HKbe18.out)).trans HKbe18.out)
      have HBs14_19 : Hid (Below w14.heap.size w14 w19) := Lib.hid (HBs14_18.out.trans (hb.mono HBs14_18.out.size))
      have HBs17_19 : Hid (Below w17.heap.size w17 w19) := Lib.hid (HBs17_18.out.trans (hb.mono HBs17_18.out.size))
      clear hb
      obtain ⟨qaf, qcf, raf, rcf, rfl, rfl⟩ := ho.form
      have HRf19 := Lib.hid (ho)
      have HBs19_19 : Hid (Below w19.heap.size w19 w19) := Lib.hid (Below.refl _ _)
      clear ho
      clear cbc0 cbc1 fbc0 fbc1 ltbc cbd0 cbd1 fbd0 fbd1 ltbd
      have ltbc := lt_of_block HKbc19.out
      obtain ⟨cbc0, cbc1, fbc0, fbc1⟩ := cell2 HKbc19.out
      have ltbd := lt_of_block HKbd19.out
      obtain ⟨cbd0, cbd1, fbd0, fbd1⟩ := cell2 HKbd19.out
      have ltbe := lt_of_block HKbe19.out
      obtain ⟨cbe0, cbe1, fbe0, fbe1⟩ := cell2 HKbe19.out
      go_wp2_with fail
      have hb : Below w19.heap.size w19 (w19.alloc (.cells #[.slice qaf es.length qcf, .slice raf fs.length rcf] 26)) := (Below.refl _ _).alloc (Nat.le_refl _) _
      have hk : (w19.alloc (.cells #[.slice qaf es.length qcf, .slice raf fs.length rcf] 26)).heap[w19.heap.size]? = some (.cells #[.slice qaf es.length qcf, .slice raf fs.length rcf] 26 (0, 0)) := alloc_at rfl
      have hz : (w19.alloc (.cells #[.slice qaf es.length qcf, .slice raf fs.length rcf] 26)).heap.size = w19.heap.size + 1 := by simp
      generalize w19.alloc (.cells #[.slice qaf es.length qcf, .slice raf fs.length rcf] 26) = w20 at hb hk hz ⊢
      have HB20 : Hid (Below w.heap.size w w20) := Lib.hid (HB19.out.trans (hb.mono HB19.out.size))
      have HZ20 : Hid (w19.heap.size ≤ w20.heap.size) := Lib.hid hb.size
      have HRk20 := Lib.hid (HRk0.out.below HB20.out (Nat.le_refl _))
      have HRc20 := Lib.hid (HRc19.out.below hb (Nat.le_refl _))
      have HRd20 := Lib.hid (HRd19.out.below hb (Nat.le_refl _))
      have HKbc20 := Lib.hid ((hb.block _ (lt_of_block HKbc19.out)).trans HKbc19.out)
      have HKbd20 := Lib.hid ((hb.block _ (lt_of_block HKbd19.out)).trans HKbd19.out)
      have HRe20 := Lib.hid (HRe19.out.below hb (Nat.le_refl _))
      have HKbe20 := Lib.hid ((hb.block _ (lt_of_block HKbe19.out)).trans HKbe19.out)
      have HRf20 := Lib.hid (HRf19.out.below hb (Nat.le_refl _))
      have HBs14_20 : Hid (Below w14.heap.size w14 w20) := Lib.hid (HBs14_19.out.trans (hb.mono HBs14_19.out.size))
      have HBs17_20 : Hid (Below w17.heap.size w17 w20) := Lib.hid (HBs17_19.out.trans (hb.mono HBs17_19.out.size))
      have HBs19_20 : Hid (Below w19.heap.size w19 w20) := Lib.hid (HBs19_19.out.trans (hb.mono HBs19_19.out.size))
      have HKbf20 := Lib.hid hk
      replace HZ20 : Hid (w19.heap.size < w20.heap.size) := Lib.hid (by omega)
      have HE20 := Lib.hid hz
      clear hb hk hz
      refine (rBoard_yes _ _ _ _ es fs _ HRe20.out HRf20.out).mono ?_
      rintro e w21 ⟨rfl, hb⟩
      have HB21 : Hid (Below w.heap.size w w21) := Lib.hid (HB20.out.trans (hb.mono HB20.out.size))
      have HZ21 : Hid (w20.heap.size ≤ w21.heap.size) := Lib.hid hb.size
      have HRk21 := Lib.hid (HRk0.out.below HB21.out (Nat.le_refl _))
      have HRc21 := Lib.hid (HRc20.out.below hb (Nat.le_refl _))
      have HRd21 := Lib.hid (HRd20.out.below hb (Nat.le_refl _))
      have HKbc21 := Lib.hid ((hb.block _ (lt_of_block HKbc20.out)).trans HKbc20.out)
      have HKbd21 := Lib.hid ((hb.block _ (lt_of_block HKbd20.out)).trans HKbd20.out)
      have HRe21 := Lib.hid (HRe20.out.below hb (Nat.le_refl _))
      have HKbe21 := Lib.hid ((hb.block _ (lt_of_block HKbe20.out)).trans HKbe20.out)
      have HRf21 := Lib.hid (HRf20.out.below hb (Nat.le_refl _))
      have HKbf21 := Lib.hid ((hb.block _ (lt_of_block HKbf20.out)).trans HKbf20.out)
      have HBs14_21 : Hid (Below w14.heap.size w14 w21) := Lib.hid (HBs14_20.out.trans (hb.mono HBs14_20.out.size))
      have HBs17_21 : Hid (Below w17.heap.size w17 w21) := Lib.hid (HBs17_20.out.trans (hb.mono HBs17_20.out.size))
      have HBs19_21 : Hid (Below w19.heap.size w19 w21) := Lib.hid (HBs19_20.out.trans (hb.mono HBs19_20.out.size))
      clear hb
      cases b2 with
      | true =>
        obtain ⟨x2, y2, z2, k1, k2, k3, hw2⟩ := hY2 rfl
        have HK21 := Lib.hid k1
        have HK22 := Lib.hid k2
        have HK23 := Lib.hid k3
        clear hY2 k1 k2 k3
        have hnex2 : (x2 != x2) = false := by simp
        clear cbc0 cbc1 fbc0 fbc1 ltbc cbd0 cbd1 fbd0 fbd1 ltbd cbe0 cbe1 fbe0 fbe1 ltbe
        have ltbc := lt_of_block HKbc21.out
        obtain ⟨cbc0, cbc1, fbc0, fbc1⟩ := cell2 HKbc21.out
        have ltbd := lt_of_block HKbd21.out
        obtain ⟨cbd0, cbd1, fbd0, fbd1⟩ := cell2 HKbd21.out
        have ltbe := lt_of_block HKbe21.out
        obtain ⟨cbe0, cbe1, fbe0, fbe1⟩ := cell2 HKbe21.out
        go_wp2_with fail
        refine (HK21.out _ _ _ HRc21.out).mono ?_
        rintro e w22 ⟨rfl, hb⟩
        have HB22 : Hid (Below w.heap.size w w22) := Lib.hid (HB21.out.trans (hb.mono HB21.out.size))
        have HZ22 : Hid (w21.heap.size ≤ w22.heap.size) := Lib.hid hb.size
        have HRk22 := Lib.hid (HRk0.out.below HB22.out (Nat.le_refl _))
        have HRc22 := Lib.hid (HRc21.out.below hb (Nat.le_refl _))
        have HRd22 := Lib.hid (HRd21.out.below hb (Nat.le_refl _))
        have HKbc22 := Lib.hid ((hb.block _ (lt_of_block HKbc21.out)).trans HKbc21.out)
        have HKbd22 := Lib.hid ((hb.block _ (lt_of_block HKbd21.out)).trans HKbd21.out)
        have HRe22 := Lib.hid (HRe21.out.below hb (Nat.le_refl _))
        have HKbe22 := Lib.hid ((hb.block _ (lt_of_block HKbe21.out)).trans HKbe21.out)
        have HBs14_22 : Hid (Below w14.heap.size w14 w22) := Lib.hid (HBs14_21.out.trans (hb.mono HBs14_21.out.size))
        have HBs17_22 : Hid (Below w17.heap.size w17 w22) := Lib.hid (HBs17_21.out.trans (hb.mono HBs17_21.out.size))
        clear hb
        clear cbc0 cbc1 fbc0 fbc1 ltbc cbd0 cbd1 fbd0 fbd1 ltbd cbe0 cbe1 fbe0 fbe1 ltbe
        have ltbc := lt_of_block HKbc22.out
        obtain ⟨cbc0, cbc1, fbc0, fbc1⟩ := cell2 HKbc22.out
        have ltbd := lt_of_block HKbd22.out
        obtain ⟨cbd0, cbd1, fbd0, fbd1⟩ := cell2 HKbd22.out
        have ltbe := lt_of_block HKbe22.out
        obtain ⟨cbe0, cbe1, fbe0, fbe1⟩ := cell2 HKbe22.out
        go_wp2_with fail
        refine (HK22.out _ _ _ HRd22.out).mono ?_
        rintro e w23 ⟨rfl, hb⟩
        have HB23 : Hid (Below w.heap.size w w23) := Lib.hid (HB22.out.trans (hb.mono HB22.out.size))
        have HZ23 : Hid (w22.heap.size ≤ w23.heap.size) := Lib.hid hb.size
        have HRk23 := Lib.hid (HRk0.out.below HB23.out (Nat.le_refl _))
        have HRc23 := Lib.hid (HRc22.out.below hb (Nat.le_refl _))
        have HRd23 := Lib.hid (HRd22.out.below hb (Nat.le_refl _))
        have HKbc23 := Lib.hid ((hb.block _ (lt_of_block HKbc22.out)).trans HKbc22.out)
        have HKbd23 := Lib.hid ((hb.block _ (lt_of_block HKbd22.out)).trans HKbd22.out)
        have HRe23 := Lib.hid (HRe22.out.below hb (Nat.le_refl _))
        have HKbe23 := Lib.hid ((hb.block _ (lt_of_block HKbe22.out)).trans HKbe22.out)
        have HBs14_23 : Hid (Below w14.heap.size w14 w23) := Lib.hid (HBs14_22.out.trans (hb.mono HBs14_22.out.size))
        have HBs17_23 : Hid (Below w17.heap.size w17 w23) := Lib.hid (HBs17_22.out.trans (hb.mono HBs17_22.out.size))
        clear hb
        clear cbc0 cbc1 fbc0 fbc1 ltbc cbd0 cbd1 fbd0 fbd1 ltbd cbe0 cbe1 fbe0 fbe1 ltbe
        have ltbc := lt_of_block HKbc23.out
        obtain ⟨cbc0, cbc1, fbc0, fbc1⟩ := cell2 HKbc23.out
        have ltbd := lt_of_block HKbd23.out
        obtain ⟨cbd0, cbd1, fbd0, fbd1⟩ := cell2 HKbd23.out
        have ltbe := lt_of_block HKbe23.out
        obtain ⟨cbe0, cbe1, fbe0, fbe1⟩ := cell2 HKbe23.out
        go_wp2_with fail
        refine (HK23.out _ _ _ HRe23.out).mono ?_
        rintro e w24 ⟨rfl, hb⟩
        have HB24 : Hid (Below w.heap.size w w24) := Lib.hid (HB23.out.trans (hb.mono HB23.out.size))
        have HZ24 : Hid (w23.heap.size ≤ w24.heap.size) := Lib.hid hb.size
        have HRk24 := Lib.hid (HRk0.out.below HB24.out (Nat.le_refl _))
        have HRc24 := Lib.hid (HRc23.out.below hb (Nat.le_refl _))
        have HRd24 := Lib.hid (HRd23.out.below hb (Nat.le_refl _))
        have HKbc24 := Lib.hid ((hb.block _ (lt_of_block HKbc23.out)).trans HKbc23.out)
        have HKbd24 := Lib.hid ((hb.block _ (lt_of_block HKbd23.out)).trans HKbd23.out)
        have HRe24 := Lib.hid (HRe23.out.below hb (Nat.le_refl _))
        have HKbe24 := Lib.hid ((hb.block _ (lt_of_block HKbe23.out)).trans HKbe23.out)
        have HBs14_24 : Hid (Below w14.heap.size w14 w24) := Lib.hid (HBs14_23.out.trans (hb.mono HBs14_23.out.size))
        have HBs17_24 : Hid (Below w17.heap.size w17 w24) := Lib.hid (HBs17_23.out.trans (hb.mono HBs17_23.out.size))
        clear hb
        clear cbc0 cbc1 fbc0 fbc1 ltbc cbd0 cbd1 fbd0 fbd1 ltbd cbe0 cbe1 fbe0 fbe1 ltbe
        go_wp2_with fail
        refine (drawSetBoard_any _ L _ HRk24.out).mono ?_
        rintro e w25 ⟨⟨lx, vx, rfl, hx1, hx2⟩, hb⟩
        have HB25 : Hid (Below w.heap.size w w25) := Lib.hid (HB24.out.trans (hb.mono HB24.out.size))
        have HZ25 : Hid (w24.heap.size ≤ w25.heap.size) := Lib.hid hb.size
        have HRk25 := Lib.hid (HRk0.out.below HB25.out (Nat.le_refl _))
        clear hb
        obtain ⟨gs, hs, b3, hS, hI⟩ := sb_same lx vx (by omega)
        have HS3 := Lib.hid hS
        have HI3 := Lib.hid hI
        clear hS hI
        have hneb3 : (b3 != b3) = false := by simp
        go_wp2_with fail
        refine (HI3.out _).mono ?_
        rintro e w26 ⟨⟨s1, t1, rfl, ho⟩, hb⟩
        have HB26 : Hid (Below w.heap.size w w26) := Lib.hid (HB25.out.trans (hb.mono HB25.out.size))
        have HZ26 : Hid (w25.heap.size ≤ w26.heap.size) := Lib.hid hb.size
        have HRk26 := Lib.hid (HRk0.out.below HB26.out (Nat.le_refl _))
        clear hb
        obtain ⟨qag, qcg, rag, rcg, rfl, rfl⟩ := ho.form
        have HRg26 := Lib.hid (ho)
        have HBs26_26 : Hid (Below w26.heap.size w26 w26) := Lib.hid (Below.refl _ _)
        clear ho
        go_wp2_with fail
        have hb : Below w26.heap.size w26 (w26.alloc (.cells #[.slice qag gs.length qcg, .slice rag hs.length rcg] 26)) := (Below.refl _ _).alloc (Nat.le_refl _) _
        have hk : (w26.alloc (.cells #[.slice qag gs.length qcg, .slice rag hs.length rcg] 26)).heap[w26.heap.size]? = some (.cells #[.slice qag gs.length qcg, .slice rag hs.length rcg] 26 (0, 0)) := alloc_at rfl
        have hz : (w26.alloc (.cells #[.slice qag gs.length qcg, .slice rag hs.length rcg] 26)).heap.size = w26.heap.size + 1 := by simp
        generalize w26.alloc (.cells #[.slice qag gs.length qcg, .slice rag hs.length rcg] 26) = w27 at hb hk hz ⊢
        have HB27 : Hid (Below w.heap.size w w27) := Lib.hid (HB26.out.trans (hb.mono HB26.out.size))
        have HZ27 : Hid (w26.heap.size ≤ w27.heap.size) := Lib.hid hb.size
        have HRk27 := Lib.hid (HRk0.out.below HB27.out (Nat.le_refl _))
        have HRg27 := Lib.hid (HRg26.out.below hb (Nat.le_refl _))
        have HBs26_27 : Hid (Below w26.heap.size w26 w27) := Lib.hid (HBs26_26.out.trans (hb.mono HBs26_26.out.size))
        have HKbg27 := Lib.hid hk
        replace HZ27 : Hid (w26.heap.size < w27.heap.size) := Lib.hid (by omega)
        have HE27 := Lib.hid hz
        clear hb hk hz
        refine (HS3.out _).mono ?_
        rintro e w28 ⟨⟨s1, t1, rfl, ho⟩, hb⟩
        have HB28 : Hid (Below w.heap.size w w28) := Lib.hid (HB27.out.trans (hb.mono HB27.out.size))
        have HZ28 : Hid (w27.heap.size ≤ w28.heap.size) := Lib.hid hb.size
        have HRk28 := Lib.hid (HRk0.out.below HB28.out (Nat.le_refl _))
        have HRg28 := Lib.hid (HRg27.out.below hb (Nat.le_refl _))
        have HKbg28 := Lib.hid ((hb.block _ (lt_of_block HKbg27.out)).trans HKbg27.out)
        have HBs26_28 : Hid (Below w26.heap.size w26 w28) := Lib.hid (HBs26_27.out.trans (hb.mono HBs26_27.out.size))
        clear hb
        obtain ⟨qah, qch, rah, rch, rfl, rfl⟩ := ho.form
        have HRh28 := Lib.hid (ho)
        have HBs28_28 : Hid (Below w28.heap.size w28 w28) := Lib.hid (Below.refl _ _)
        clear ho
        have ltbg := lt_of_block HKbg28.out
        obtain ⟨cbg0, cbg1, fbg0, fbg1⟩ := cell2 HKbg28.out
        go_wp2_with fail
        have hb : Below w28.heap.size w28 (w28.alloc (.cells #[.slice qah gs.length qch, .slice rah hs.length rch] 26)) := (Below.refl _ _).alloc (Nat.le_refl _) _
        have hk : (w28.alloc (.cells #[.slice qah gs.length qch, .slice rah hs.length rch] 26)).heap[w28.heap.size]? = some (.cells #[.slice qah gs.length qch, .slice rah hs.length rch] 26 (0, 0)) := alloc_at rfl
        have hz : (w28.alloc (.cells #[.slice qah gs.length qch, .slice rah hs.length rch] 26)).heap.size = w28.heap.size + 1 := by simp
        generalize w28.alloc (.cells #[.slice qah gs.length qch, .slice rah hs.length rch] 26) = w29 at hb hk hz ⊢
        have HB29 : Hid (Below w.heap.size w w29) := Lib.hid (HB28.out.trans (hb.mono HB28.out.size))
        have HZ29 : Hid (w28.heap.size ≤ w29.heap.size) := Lib.hid hb.size
        have HRk29 := Lib.hid (HRk0.out.below HB29.out (Nat.le_refl _))
        have HRg29 := Lib.hid (HRg28.out.below hb (Nat.le_refl _))
        have HKbg29 := Lib.hid ((hb.block _ (lt_of_block HKbg28.out)).trans HKbg28.out)
        have HRh29 := Lib.hid (HRh28.out.below hb (Nat.le_refl _))
        have HBs26_29 : Hid (Below w26.heap.size w26 w29) := Lib.hid (HBs26_28.out.trans (hb.mono HBs26_28.out.size))
        have HBs28_29 : Hid (Below w28.heap.size w28 w29) := Lib.hid (HBs28_28.out.trans (hb.mono HBs28_28.out.size))
        have HKbh29 := Lib.hid hk
        replace HZ29 : Hid (w28.heap.size < w29.heap.size) := Lib.hid (by omega)
        have HE29 := Lib.hid hz
        clear hb hk hz
        refine (rBoard_yes _ _ _ _ gs hs _ HRg29.out HRh29.out).mono ?_
        rintro e w30 ⟨rfl, hb⟩
        have HB30 : Hid (Below w.heap.size w w30) := Lib.hid (HB29.out.trans (hb.mono HB29.out.size))
        have HZ30 : Hid (w29.heap.size ≤ w30.heap.size) := Lib.hid hb.size
        have HRk30 := Lib.hid (HRk0.out.below HB30.out (Nat.le_refl _))
        have HRg30 := Lib.hid (HRg29.out.below hb (Nat.le_refl _))
        have HKbg30 := Lib.hid ((hb.block _ (lt_of_block HKbg29.out)).trans HKbg29.out)
        have HRh30 := Lib.hid (HRh29.out.below hb (Nat.le_refl _))
        have HKbh30 := Lib.hid ((hb.block _ (lt_of_block HKbh29.out)).trans HKbh29.out)
        have HBs26_30 : Hid (Below w26.heap.size w26 w30) := Lib.hid (HBs26_29.out.trans (hb.mono HBs26_29.out.size))
        have HBs28_30 : Hid (Below w28.heap.size w28 w30) := Lib.hid (HBs28_29.out.trans (hb.mono HBs28_29.out.size))
        clear hb
        clear cbg0 cbg1 fbg0 fbg1 ltbg
        go_wp2_with fail
        refine (drawIsPlain_any _ L _ HRk30.out).mono ?_
        rintro e w31 ⟨⟨v1, v2, ms4, ts4, rfl, ho, -, -⟩, hb⟩
        have HB31 : Hid (Below w.heap.size w w31) := Lib.hid (HB30.out.trans (hb.mono HB30.out.size))
        have HZ31 : Hid (w30.heap.size ≤ w31.heap.size) := Lib.hid hb.size
        have HRk31 := Lib.hid (HRk0.out.below HB31.out (Nat.le_refl _))
        clear hb
        obtain ⟨qam, qcm, ram, rcm, rfl, rfl⟩ := ho.1.form
        have HRm31 := Lib.hid (ho.1)
        have HBs31_31 : Hid (Below w31.heap.size w31 w31) := Lib.hid (Below.refl _ _)
        clear ho
        obtain ⟨c4, b4, hS, hI⟩ := ip_same ms4 ts4
        have HS4 := Lib.hid hS
        have HI4 := Lib.hid hI
        clear hS hI
        have heqc4 : (c4 == c4) = true := by simp
        have heqb4 : (b4 == b4) = true := by simp
        go_wp2_with fail
        have hb : Below w31.heap.size w31 (w31.alloc (.cells #[.slice qam ms4.length qcm, .slice ram ts4.length rcm] 26)) := (Below.refl _ _).alloc (Nat.le_refl _) _
        have hk : (w31.alloc (.cells #[.slice qam ms4.length qcm, .slice ram ts4.length rcm] 26)).heap[w31.heap.size]? = some (.cells #[.slice qam ms4.length qcm, .slice ram ts4.length rcm] 26 (0, 0)) := alloc_at rfl
        have hz : (w31.alloc (.cells #[.slice qam ms4.length qcm, .slice ram ts4.length rcm] 26)).heap.size = w31.heap.size + 1 := by simp
        generalize w31.alloc (.cells #[.slice qam ms4.length qcm, .slice ram ts4.length rcm] 26) = w32 at hb hk hz ⊢
        have HB32 : Hid (Below w.heap.size w w32) := Lib.hid (HB31.out.trans (hb.mono HB31.out.size))
        have HZ32 : Hid (w31.heap.size ≤ w32.heap.size) := Lib.hid hb.size
        have HRk32 := Lib.hid (HRk0.out.below HB32.out (Nat.le_refl _))
        have HRm32 := Lib.hid (HRm31.out.below hb (Nat.le_refl _))
        have HBs31_32 : Hid (Below w31.heap.size w31 w32) := Lib.hid (HBs31_31.out.trans (hb.mono HBs31_31.out.size))
        have HKbm32 := Lib.hid hk
        replace HZ32 : Hid (w31.heap.size < w32.heap.size) := Lib.hid (by omega)
        have HE32 := Lib.hid hz
        clear hb hk hz
        refine (HI4.out _ _ _ HRm32.out).mono ?_
        rintro e w33 ⟨rfl, hb⟩
        have HB33 : Hid (Below w.heap.size w w33) := Lib.hid (HB32.out.trans (hb.mono HB32.out.size))
        have HZ33 : Hid (w32.heap.size ≤ w33.heap.size) := Lib.hid hb.size
        have HRk33 := Lib.hid (HRk0.out.below HB33.out (Nat.le_refl _))
        have HRm33 := Lib.hid (HRm32.out.below hb (Nat.le_refl _))
        have HKbm33 := Lib.hid ((hb.block _ (lt_of_block HKbm32.out)).trans HKbm32.out)
        have HBs31_33 : Hid (Below w31.heap.size w31 w33) := Lib.hid (HBs31_32.out.trans (hb.mono HBs31_32.out.size))
        clear hb
        have ltbm := lt_of_block HKbm33.out
        obtain ⟨cbm0, cbm1, fbm0, fbm1⟩ := cell2 HKbm33.out
        go_wp2_with fail
        refine (HS4.out _ _ _ HRm33.out).mono ?_
        rintro e w34 ⟨rfl, hb⟩
        have HB34 : Hid (Below w.heap.size w w34) := Lib.hid (HB33.out.trans (hb.mono HB33.out.size))
        have HZ34 : Hid (w33.heap.size ≤ w34.heap.size) := Lib.hid hb.size
        have HRk34 := Lib.hid (HRk0.out.below HB34.out (Nat.le_refl _))
        have HRm34 := Lib.hid (HRm33.out.below hb (Nat.le_refl _))
        have HKbm34 := Lib.hid ((hb.block _ (lt_of_block HKbm33.out)).trans HKbm33.out)
        have HBs31_34 : Hid (Below w31.heap.size w31 w34) := Lib.hid (HBs31_33.out.trans (hb.mono HBs31_33.out.size))
        clear hb
        clear cbm0 cbm1 fbm0 fbm1 ltbm
        go_wp2_with fail
        refine (drawBoardValue_any _ L _ HRk34.out).mono ?_
        rintro e w35 ⟨⟨v1, v2, ms5, ts5, rfl, ho, -, -⟩, hb⟩
        have HB35 : Hid (Below w.heap.size w w35) := Lib.hid (HB34.out.trans (hb.mono HB34.out.size))
        have HZ35 : Hid (w34.heap.size ≤ w35.heap.size) := Lib.hid hb.size
        have HRk35 := Lib.hid (HRk0.out.below HB35.out (Nat.le_refl _))
        clear hb
        obtain ⟨qan, qcn, ran, rcn, rfl, rfl⟩ := ho.1.form
        have HRn35 := Lib.hid (ho.1)
        have HBs35_35 : Hid (Below w35.heap.size w35 w35) := Lib.hid (Below.refl _ _)
        clear ho
        obtain ⟨x5, b5, hS, hI⟩ := bv_same ms5 ts5
        have HS5 := Lib.hid hS
        have HI5 := Lib.hid hI
        clear hS hI
        have heqx5 : (x5 == x5) = true := by simp
        have heqb5 : (b5 == b5) = true := by simp
        go_wp2_with fail
        have hb : Below w35.heap.size w35 (w35.alloc (.cells #[.slice qan ms5.length qcn, .slice ran ts5.length rcn] 26)) := (Below.refl _ _).alloc (Nat.le_refl _) _
        have hk : (w35.alloc (.cells #[.slice qan ms5.length qcn, .slice ran ts5.length rcn] 26)).heap[w35.heap.size]? = some (.cells #[.slice qan ms5.length qcn, .slice ran ts5.length rcn] 26 (0, 0)) := alloc_at rfl
        have hz : (w35.alloc (.cells #[.slice qan ms5.length qcn, .slice ran ts5.length rcn] 26)).heap.size = w35.heap.size + 1 := by simp
        generalize w35.alloc (.cells #[.slice qan ms5.length qcn, .slice ran ts5.length rcn] 26) = w36 at hb hk hz ⊢
        have HB36 : Hid (Below w.heap.size w w36) := Lib.hid (HB35.out.trans (hb.mono HB35.out.size))
        have HZ36 : Hid (w35.heap.size ≤ w36.heap.size) := Lib.hid hb.size
        have HRk36 := Lib.hid (HRk0.out.below HB36.out (Nat.le_refl _))
        have HRn36 := Lib.hid (HRn35.out.below hb (Nat.le_refl _))
        have HBs35_36 : Hid (Below w35.heap.size w35 w36) := Lib.hid (HBs35_35.out.trans (hb.mono HBs35_35.out.size))
        have HKbn36 := Lib.hid hk
        replace HZ36 : Hid (w35.heap.size < w36.heap.size) := Lib.hid (by omega)
        have HE36 := Lib.hid hz
        clear hb hk hz
        refine (HI5.out _ _ _ HRn36.out).mono ?_
        rintro e w37 ⟨rfl, hb⟩
        have HB37 : Hid (Below w.heap.size w w37) := Lib.hid (HB36.out.trans (hb.mono HB36.out.size))
        have HZ37 : Hid (w36.heap.size ≤ w37.heap.size) := Lib.hid hb.size
        have HRk37 := Lib.hid (HRk0.out.below HB37.out (Nat.le_refl _))
        have HRn37 := Lib.hid (HRn36.out.below hb (Nat.le_refl _))
        have HKbn37 := Lib.hid ((hb.block _ (lt_of_block HKbn36.out)).trans HKbn36.out)
        have HBs35_37 : Hid (Below w35.heap.size w35 w37) := Lib.hid (HBs35_36.out.trans (hb.mono HBs35_36.out.size))
        clear hb
        have ltbn := lt_of_block HKbn37.out
        obtain ⟨cbn0, cbn1, fbn0, fbn1⟩ := cell2 HKbn37.out
        go_wp2_with fail
        refine (HS5.out _ _ _ HRn37.out).mono ?_
        rintro e w38 ⟨rfl, hb⟩
        have HB38 : Hid (Below w.heap.size w w38) := Lib.hid (HB37.out.trans (hb.mono HB37.out.size))
        have HZ38 : Hid (w37.heap.size ≤ w38.heap.size) := Lib.hid hb.size
        have HRk38 := Lib.hid (HRk0.out.below HB38.out (Nat.le_refl _))
        have HRn38 := Lib.hid (HRn37.out.below hb (Nat.le_refl _))
        have HKbn38 := Lib.hid ((hb.block _ (lt_of_block HKbn37.out)).trans HKbn37.out)
        have HBs35_38 : Hid (Below w35.heap.size w35 w38) := Lib.hid (HBs35_37.out.trans (hb.mono HBs35_37.out.size))
        clear hb
        clear cbn0 cbn1 fbn0 fbn1 ltbn
        go_wp2_with fail
        go_ret
        exact ⟨ret_bool (by first | (simp; done) | rfl), HB38.out⟩
      | false =>
        clear hY2
        clear cbc0 cbc1 fbc0 fbc1 ltbc cbd0 cbd1 fbd0 fbd1 ltbd cbe0 cbe1 fbe0 fbe1 ltbe
        go_wp2_with fail
        refine (drawSetBoard_any _ L _ HRk21.out).mono ?_
        rintro e w22 ⟨⟨lx, vx, rfl, hx1, hx2⟩, hb⟩
        have HB22 : Hid (Below w.heap.size w w22) := Lib.hid (HB21.out.trans (hb.mono HB21.out.size))
        have HZ22 : Hid (w21.heap.size ≤ w22.heap.size) := Lib.hid hb.size
        have HRk22 := Lib.hid (HRk0.out.below HB22.out (Nat.le_refl _))
        clear hb
        obtain ⟨gs, hs, b3, hS, hI⟩ := sb_same lx vx (by omega)
        have HS3 := Lib.hid hS
        have HI3 := Lib.hid hI
        clear hS hI
        have hneb3 : (b3 != b3) = false := by simp
        go_wp2_with fail
        refine (HI3.out _).mono ?_
        rintro e w23 ⟨⟨s1, t1, rfl, ho⟩, hb⟩
        have HB23 : Hid (Below w.heap.size w w23) := Lib.hid (HB22.out.trans (hb.mono HB22.out.size))
        have HZ23 : Hid (w22.heap.size ≤ w23.heap.size) := Lib.hid hb.size
        have HRk23 := Lib.hid (HRk0.out.below HB23.out (Nat.le_refl _))
        clear hb
        obtain ⟨qag, qcg, rag, rcg, rfl, rfl⟩ := ho.form
        have HRg23 := Lib.hid (ho)
        have HBs23_23 : Hid (Below w23.heap.size w23 w23) := Lib.hid (Below.refl _ _)
        clear ho
        go_wp2_with fail
        have hb : Below w23.heap.size w23 (w23.alloc (.cells #[.slice qag gs.length qcg, .slice rag hs.length rcg] 26)) := (Below.refl _ _).alloc (Nat.le_refl _) _
        have hk : (w23.alloc (.cells #[.slice qag gs.length qcg, .slice rag hs.length rcg] 26)).heap[w23.heap.size]? = some (.cells #[.slice qag gs.length qcg, .slice rag hs.length rcg] 26 (0, 0)) := alloc_at rfl
        have hz : (w23.alloc (.cells #[.slice qag gs.length qcg, .slice rag hs.length rcg] 26)).heap.size = w23.heap.size + 1 := by simp
        generalize w23.alloc (.cells #[.slice qag gs.length qcg, .slice rag hs.length rcg] 26) = w24 at hb hk hz ⊢
        have HB24 : Hid (Below w.heap.size w w24) := Lib.hid (HB23.out.trans (hb.mono HB23.out.size))
        have HZ24 : Hid (w23.heap.size ≤ w24.heap.size) := Lib.hid hb.size
        have HRk24 := Lib.hid (HRk0.out.below HB24.out (Nat.le_refl _))
        have HRg24 := Lib.hid (HRg23.out.below hb (Nat.le_refl _))
        have HBs23_24 : Hid (Below w23.heap.size w23 w24) := Lib.hid (HBs23_23.out.trans (hb.mono HBs23_23.out.size))
        have HKbg24 := Lib.hid hk
        replace HZ24 : Hid (w23.heap.size < w24.heap.size) := Lib.hid (by omega)
        have HE24 := Lib.hid hz
        clear hb hk hz
        refine (HS3.out _).mono ?_
        rintro e w25 ⟨⟨s1, t1, rfl, ho⟩, hb⟩
        have HB25 : Hid (Below w.heap.size w w25) := Lib.hid (HB24.out.trans (hb.mono HB24.out.size))
        have HZ25 : Hid (w24.heap.size ≤ w25.heap.size) := Lib.hid hb.size
        have HRk25 := Lib.hid (HRk0.out.below HB25.out (Nat.le_refl _))
        have HRg25 := Lib.hid (HRg24.out.below hb (Nat.le_refl _))
        have HKbg25 := Lib.hid ((hb.block _ (lt_of_block HKbg24.out)).trans HKbg24.out)
        have HBs23_25 : Hid (Below w23.heap.size w23 w25) := Lib.hid (HBs23_24.out.trans (hb.mono HBs23_24.out.size))
        clear hb
        obtain ⟨qah, qch, rah, rch, rfl, rfl⟩ := ho.form
        have HRh25 := Lib.hid (ho)
        have HBs25_25 : Hid (Below w25.heap.size w25 w25) := Lib.hid (Below.refl _ _)
        clear ho
        have ltbg := lt_of_block HKbg25.out
        obtain ⟨cbg0, cbg1, fbg0, fbg1⟩ := cell2 HKbg25.out
        go_wp2_with fail
        have hb : Below w25.heap.size w25 (w25.alloc (.cells #[.slice qah gs.length qch, .slice rah hs.length rch] 26)) := (Below.refl _ _).alloc (Nat.le_refl _) _
        have hk : (w25.alloc (.cells #[.slice qah gs.length qch, .slice rah hs.length rch] 26)).heap[w25.heap.size]? = some (.cells #[.slice qah gs.length qch, .slice rah hs.length rch] 26 (0, 0)) := alloc_at rfl
        have hz : (w25.alloc (.cells #[.slice qah gs.length qch, .slice rah hs.length rch] 26)).heap.size = w25.heap.size + 1 := by simp
        generalize w25.alloc (.cells #[.slice qah gs.length qch, .slice rah hs.length rch] 26) = w26 at hb hk hz ⊢
        have HB26 : Hid (Below w.heap.size w w26) := Lib.hid (HB25.out.trans (hb.mono HB25.out.size))
        have HZ26 : Hid (w25.heap.size ≤ w26.heap.size) := Lib.hid hb.size
        have HRk26 := Lib.hid (HRk0.out.below HB26.out (Nat.le_refl _))
        have HRg26 := Lib.hid (HRg25.out.below hb (Nat.le_refl _))
        have HKbg26 := Lib.hid ((hb.block _ (lt_of_block HKbg25.out)).trans HKbg25.out)
        have HRh26 := Lib.hid (HRh25.out.below hb (Nat.le_refl _))
        have HBs23_26 : Hid (Below w23.heap.size w23 w26) := Lib.hid (HBs23_25.out.trans (hb.mono HBs23_25.out.size))
        have HBs25_26 : Hid (Below w25.heap.size w25 w26) := Lib.hid (HBs25_25.out.trans (hb.mono HBs25_25.out.size))
        have HKbh26 := Lib.hid hk
        replace HZ26 : Hid (w25.heap.size < w26.heap.size) := Lib.hid (by omega)
        have HE26 := Lib.hid hz
        clear hb hk hz
        refine (rBoard_yes _ _ _ _ gs hs _ HRg26.out HRh26.out).mono ?_
        rintro e w27 ⟨rfl, hb⟩
        have HB27 : Hid (Below w.heap.size w w27) := Lib.hid (HB26.out.trans (hb.mono HB26.out.size))
        have HZ27 : Hid (w26.heap.size ≤ w27.heap.size) := Lib.hid hb.size
        have HRk27 := Lib.hid (HRk0.out.below HB27.out (Nat.le_refl _))
        have HRg27 := Lib.hid (HRg26.out.below hb (Nat.le_refl _))
        have HKbg27 := Lib.hid ((hb.block _ (lt_of_block HKbg26.out)).trans HKbg26.out)
        have HRh27 := Lib.hid (HRh26.out.below hb (Nat.le_refl _))
        have HKbh27 := Lib.hid ((hb.block _ (lt_of_block HKbh26.out)).trans HKbh26.out)
        have HBs23_27 : Hid (Below w23.heap.size w23 w27) := Lib.hid (HBs23_26.out.trans (hb.mono HBs23_26.out.size))
        have HBs25_27 : Hid (Below w25.heap.size w25 w27) := Lib.hid (HBs25_26.out.trans (hb.mono HBs25_26.out.size))
        clear hb
        clear cbg0 cbg1 fbg0 fbg1 ltbg
        go_wp2_with fail
        refine (drawIsPlain_any _ L _ HRk27.out).mono ?_
        rintro e w28 ⟨⟨v1, v2, ms4, ts4, rfl, ho, -, -⟩, hb⟩
        have HB28 : Hid (Below w.heap.size w w28) := Lib.hid (HB27.out.trans (hb.mono HB27.out.size))
        have HZ28 : Hid (w27.heap.size ≤ w28.heap.size) := Lib.hid hb.size
        have HRk28 := Lib.hid (HRk0.out.below HB28.out (Nat.le_refl _))
        clear hb
        obtain ⟨qam, qcm, ram, rcm, rfl, rfl⟩ := ho.1.form
        have HRm28 := Lib.hid (ho.1)
        have HBs28_28 : Hid (Below w28.heap.size w28 w28) := Lib.hid (Below.refl _ _)
        clear ho
        obtain ⟨c4, b4, hS, hI⟩ := ip_same ms4 ts4
        have HS4 := Lib.hid hS
        have HI4 := Lib.hid hI
        clear hS hI
        have heqc4 : (c4 == c4) = true := by simp
        have heqb4 : (b4 == b4) = true := by simp
        go_wp2_with fail
        have hb : Below w28.heap.size w28 (w28.alloc (.cells #[.slice qam ms4.length qcm, .slice ram ts4.length rcm] 26)) := (Below.refl _ _).alloc (Nat.le_refl _) _
        have hk : (w28.alloc (.cells #[.slice qam ms4.length qcm, .slice ram ts4.length rcm] 26)).heap[w28.heap.size]? = some (.cells #[.slice qam ms4.length qcm, .slice ram ts4.length rcm] 26 (0, 0)) := alloc_at rfl
        have hz : (w28.alloc (.cells #[.slice qam ms4.length qcm, .slice ram ts4.length rcm] 26)).heap.size = w28.heap.size + 1 := by simp
        generalize w28.alloc (.cells #[.slice qam ms4.length qcm, .slice ram ts4.length rcm] 26) = w29 at hb hk hz ⊢
        have HB29 : Hid (Below w.heap.size w w29) := Lib.hid (HB28.out.trans (hb.mono HB28.out.size))
        have HZ29 : Hid (w28.heap.size ≤ w29.heap.size) := Lib.hid hb.size
        have HRk29 := Lib.hid (HRk0.out.below HB29.out (Nat.le_refl _))
        have HRm29 := Lib.hid (HRm28.out.below hb (Nat.le_refl _))
        have HBs28_29 : Hid (Below w28.heap.size w28 w29) := Lib.hid (HBs28_28.out.trans (hb.mono HBs28_28.out.size))
        have HKbm29 := Lib.hid hk
        replace HZ29 : Hid (w28.heap.size < w29.heap.size) := Lib.hid (by omega)
        have HE29 := Lib.hid hz
        clear hb hk hz
        refine (HI4.out _ _ _ HRm29.out).mono ?_
        rintro e w30 ⟨rfl, hb⟩
        have HB30 : Hid (Below w.heap.size w w30) := Lib.hid (HB29.out.trans (hb.mono HB29.out.size))
        have HZ30 : Hid (w29.heap.size ≤ w30.heap.size) := Lib.hid hb.size
        have HRk30 := Lib.hid (HRk0.out.below HB30.out (Nat.le_refl _))
        have HRm30 := Lib.hid (HRm29.out.below hb (Nat.le_refl _))
        have HKbm30 := Lib.hid ((hb.block _ (lt_of_block HKbm29.out)).trans HKbm29.out)
        have HBs28_30 : Hid (Below w28.heap.size w28 w30) := Lib.hid (HBs28_29.out.trans (hb.mono HBs28_29.out.size))
        clear hb
        have ltbm := lt_of_block HKbm30.out
        obtain ⟨cbm0, cbm1, fbm0, fbm1⟩ := cell2 HKbm30.out
        go_wp2_with fail
        refine (HS4.out _ _ _ HRm30.out).mono ?_
        rintro e w31 ⟨rfl, hb⟩
        have HB31 : Hid (Below w.heap.size w w31) := Lib.hid (HB30.out.trans (hb.mono HB30.out.size))
        have HZ31 : Hid (w30.heap.size ≤ w31.heap.size) := Lib.hid hb.size
        have HRk31 := Lib.hid (HRk0.out.below HB31.out (Nat.le_refl _))
        have HRm31 := Lib.hid (HRm30.out.below hb (Nat.le_refl _))
        have HKbm31 := Lib.hid ((hb.block _ (lt_of_block HKbm30.out)).trans HKbm30.out)
        have HBs28_31 : Hid (Below w28.heap.size w28 w31) := Lib.hid (HBs28_30.out.trans (hb.mono HBs28_30.out.size))
        clear hb
        clear cbm0 cbm1 fbm0 fbm1 ltbm
        go_wp2_with fail
        refine (drawBoardValue_any _ L _ HRk31.out).mono ?_
        rintro e w32 ⟨⟨v1, v2, ms5, ts5, rfl, ho, -, -⟩, hb⟩
        have HB32 : Hid (Below w.heap.size w w32) := Lib.hid (HB31.out.trans (hb.mono HB31.out.size))
        have HZ32 : Hid (w31.heap.size ≤ w32.heap.size) := Lib.hid hb.size
        have HRk32 := Lib.hid (HRk0.out.below HB32.out (Nat.le_refl _))
        clear hb
        obtain ⟨qan, qcn, ran, rcn, rfl, rfl⟩ := ho.1.form
        have HRn32 := Lib.hid (ho.1)
        have HBs32_32 : Hid (Below w32.heap.size w32 w32) := Lib.hid (Below.refl _ _)
        clear ho
        obtain ⟨x5, b5, hS, hI⟩ := bv_same ms5 ts5
        have HS5 := Lib.hid hS
        have HI5 := Lib.hid hI
        clear hS hI
        have heqx5 : (x5 == x5) = true := by simp
        have heqb5 : (b5 == b5) = true := by simp
        go_wp2_with fail
        have hb : Below w32.heap.size w32 (w32.alloc (.cells #[.slice qan ms5.length qcn, .slice ran ts5.length rcn] 26)) := (Below.refl _ _).alloc (Nat.le_refl _) _
        have hk : (w32.alloc (.cells #[.slice qan ms5.length qcn, .slice ran ts5.length rcn] 26)).heap[w32.heap.size]? = some (.cells #[.slice qan ms5.length qcn, .slice ran ts5.length rcn] 26 (0, 0)) := alloc_at rfl
        have hz : (w32.alloc (.cells #[.slice qan ms5.length qcn, .slice ran ts5.length rcn] 26)).heap.size = w32.heap.size + 1 := by simp
        generalize w32.alloc (.cells #[.slice qan ms5.length qcn, .slice ran ts5.length rcn] 26) = w33 at hb hk hz ⊢
        have HB33 : Hid (Below w.heap.size w w33) := Lib.hid (HB32.out.trans (hb.mono HB32.out.size))
        have HZ33 : Hid (w32.heap.size ≤ w33.heap.size) := Lib.hid hb.size
        have HRk33 := Lib.hid (HRk0.out.below HB33.out (Nat.le_refl _))
        have HRn33 := Lib.hid (HRn32.out.below hb (Nat.le_refl _))
        have HBs32_33 : Hid (Below w32.heap.size w32 w33) := Lib.hid (HBs32_32.out.trans (hb.mono HBs32_32.out.size))
        have HKbn33 := Lib.hid hk
        replace HZ33 : Hid (w32.heap.size < w33.heap.size) := Lib.hid (by omega)
        have HE33 := Lib.hid hz
        clear hb hk hz
        refine (HI5.out _ _ _ HRn33.out).mono ?_
        rintro e w34 ⟨rfl, hb⟩
        have HB34 : Hid (Below w.heap.size w w34) := Lib.hid (HB33.out.trans (hb.mono HB33.out.size))
        have HZ34 : Hid (w33.heap.size ≤ w34.heap.size) := Lib.hid hb.size
        have HRk34 := Lib.hid (HRk0.out.below HB34.out (Nat.le_refl _))
        have HRn34 := Lib.hid (HRn33.out.below hb (Nat.le_refl _))
        have HKbn34 := Lib.hid ((hb.block _ (lt_of_block HKbn33.out)).trans HKbn33.out)
        have HBs32_34 : Hid (Below w32.heap.size w32 w34) := Lib.hid (HBs32_33.out.trans (hb.mono HBs32_33.out.size))
        clear hb
        have ltbn := lt_of_block HKbn34.out
        obtain ⟨cbn0, cbn1, fbn0, fbn1⟩ := cell2 HKbn34.out
        go_wp2_with fail
        refine (HS5.out _ _ _ HRn34.out).mono ?_
        rintro e w35 ⟨rfl, hb⟩
        have HB35 : Hid (Below w.heap.size w w35) := Lib.hid (HB34.out.trans (hb.mono HB34.out.size))
        have HZ35 : Hid (w34.heap.size ≤ w35.heap.size) := Lib.hid hb.size
        have HRk35 := Lib.hid (HRk0.out.below HB35.out (Nat.le_refl _))
        have HRn35 := Lib.hid (HRn34.out.below hb (Nat.le_refl _))
        have HKbn35 := Lib.hid ((hb.block _ (lt_of_block HKbn34.out)).trans HKbn34.out)
        have HBs32_35 : Hid (Below w32.heap.size w32 w35) := Lib.hid (HBs32_34.out.trans (hb.mono HBs32_34.out.size))
        clear hb
        clear cbn0 cbn1 fbn0 fbn1 ltbn
        go_wp2_with fail
        go_ret
        exact ⟨ret_bool (by first | (simp; done) | rfl), HB35.out⟩
    | false =>
      clear hY
      clear cba0 cba1 fba0 fba1 ltba cbp0 cbp1 fbp0 fbp1 ltbp
      go_wp2_with fail
      refine (drawTakeAway_any _ L _ HRk7.out).mono ?_
      rintro e w8 ⟨⟨v1, v2, u1, u2, ms, ts, cs, ds, rfl, ⟨ho, -, -⟩, ho2, -, -⟩, hb⟩
      have HB8 : Hid (Below w.heap.size w w8) := Lib.hid (HB7.out.trans (hb.mono HB7.out.size))
      have HZ8 : Hid (w7.heap.size ≤ w8.heap.size) := Lib.hid hb.size
      have HRk8 := Lib.hid (HRk0.out.below HB8.out (Nat.le_refl _))
      clear hb
      obtain ⟨qac, qcc, rac, rcc, rfl, rfl⟩ := ho.1.form
      obtain ⟨qad, qcd, rad, rcd, rfl, rfl⟩ := ho2.1.form
      have HRc8 := Lib.hid (ho.1)
      have HBs8_8 : Hid (Below w8.heap.size w8 w8) := Lib.hid (Below.refl _ _)
      have HRd8 := Lib.hid (ho2.1)
      clear ho ho2
      obtain ⟨es, fs, b2, hS, hI, hY2⟩ := tk_same ms ts cs ds
      have HS2 := Lib.hid hS
      have HI2 := Lib.hid hI
      clear hS hI
      have hneb2 : (b2 != b2) = false := by simp
      go_wp2_with fail
      have hb : Below w8.heap.size w8 (w8.alloc (.cells #[.slice qac ms.length qcc, .slice rac ts.length rcc] 26)) := (Below.refl _ _).alloc (Nat.le_refl _) _
      have hk : (w8.alloc (.cells #[.slice qac ms.length qcc, .slice rac ts.length rcc] 26)).heap[w8.heap.size]? = some (.cells #[.slice qac ms.length qcc, .slice rac ts.length rcc] 26 (0, 0)) := alloc_at rfl
      have hz : (w8.alloc (.cells #[.slice qac ms.length qcc, .slice rac ts.length rcc] 26)).heap.size = w8.heap.size + 1 := by simp
      generalize w8.alloc (.cells #[.slice qac ms.length qcc, .slice rac ts.length rcc] 26) = w9 at hb hk hz ⊢
      have HB9 : Hid (Below w.heap.size w w9) := Lib.hid (HB8.out.trans (hb.mono HB8.out.size))
      have HZ9 : Hid (w8.heap.size ≤ w9.heap.size) := Lib.hid hb.size
      have HRk9 := Lib.hid (HRk0.out.below HB9.out (Nat.le_refl _))
      have HRc9 := Lib.hid (HRc8.out.below hb (Nat.le_refl _))
      have HRd9 := Lib.hid (HRd8.out.below hb (Nat.le_refl _))
      have HBs8_9 : Hid (Below w8.heap.size w8 w9) := Lib.hid (HBs8_8.out.trans (hb.mono HBs8_8.out.size))
      have HKbc9 := Lib.hid hk
      replace HZ9 : Hid (w8.heap.size < w9.heap.size) := Lib.hid (by omega)
      have HE9 := Lib.hid hz
      clear hb hk hz
      have hb : Below w9.heap.size w9 (w9.alloc (.cells #[.slice qad cs.length qcd, .slice rad ds.length rcd] 26)) := (Below.refl _ _).alloc (Nat.le_refl _) _
      have hk : (w9.alloc (.cells #[.slice qad cs.length qcd, .slice rad ds.length rcd] 26)).heap[w8.heap.size + 1]? = some (.cells #[.slice qad cs.length qcd, .slice rad ds.length rcd] 26 (0, 0)) := alloc_at (by have := HE2.out; have := HE4.out; have := HE6.out; have := HE9.out; omega)
      have hz : (w9.alloc (.cells #[.slice qad cs.length qcd, .slice rad ds.length rcd] 26)).heap.size = w9.heap.size + 1 := by simp
      generalize w9.alloc (.cells #[.slice qad cs.length qcd, .slice rad ds.length rcd] 26) = w10 at hb hk hz ⊢
      have HB10 : Hid (Below w.heap.size w w10) := Lib.hid (HB9.out.trans (hb.mono HB9.out.size))
      have HZ10 : Hid (w9.heap.size ≤ w10.heap.size) := Lib.hid hb.size
      have HRk10 := Lib.hid (HRk0.out.below HB10.out (Nat.le_refl _))
      have HRc10 := Lib.hid (HRc9.out.below hb (Nat.le_refl _))
      have HRd10 := Lib.hid (HRd9.out.below hb (Nat.le_refl _))
      have HKbc10 := Lib.hid ((hb.block _ (lt_of_block HKbc9.out)).trans HKbc9.out)
      have HBs8_10 : Hid (Below w8.heap.size w8 w10) := Lib.hid (HBs8_9.out.trans (hb.mono HBs8_9.out.size))
      have HKbd10 := Lib.hid hk
      replace HZ10 : Hid (w9.heap.size < w10.heap.size) := Lib.hid (by omega)
      have HE10 := Lib.hid hz
      clear hb hk hz
      refine (HI2.out _ _ _ _ _ HRc10.out HRd10.out).mono ?_
      rintro e w11 ⟨⟨s1, t1, rfl, ho⟩, hb⟩
      have HB11 : Hid (Below w.heap.size w w11) := Lib.hid (HB10.out.trans (hb.mono HB10.out.size))
      have HZ11 : Hid (w10.heap.size ≤ w11.heap.size) := Lib.hid hb.size
      have HRk11 := Lib.hid (HRk0.out.below HB11.out (Nat.le_refl _))
      have HRc11 := Lib.hid (HRc10.out.below hb (Nat.le_refl _))
      have HRd11 := Lib.hid (HRd10.out.below hb (Nat.le_refl _))
      have HKbc11 := Lib.hid ((hb.block _ (lt_of_block HKbc10.out)).trans HKbc10.out)
      have HKbd11 := Lib.hid ((hb.block _ (lt_of_block HKbd10.out)).trans HKbd10.out)
      have HBs8_11 : Hid (Below w8.heap.size w8 w11) := Lib.hid (HBs8_10.out.trans (hb.mono HBs8_10.out.size))
      clear hb
      obtain ⟨qae, qce, rae, rce, rfl, rfl⟩ := ho.form
      have HRe11 := Lib.hid (ho)
      have HBs11_11 : Hid (Below w11.heap.size w11 w11) := Lib.hid (Below.refl _ _)
      clear ho
      have ltbc := lt_of_block HKbc11.out
      obtain ⟨cbc0, cbc1, fbc0, fbc1⟩ := cell2 HKbc11.out
      have ltbd := lt_of_block HKbd11.out
      obtain ⟨cbd0, cbd1, fbd0, fbd1⟩ := cell2 HKbd11.out
      go_wp2_with fail
      have hb : Below w11.heap.size w11 (w11.alloc (.cells #[.slice qae es.length qce, .slice rae fs.length rce] 26)) := (Below.refl _ _).alloc (Nat.le_refl _) _
      have hk : (w11.alloc (.cells #[.slice qae es.length qce, .slice rae fs.length rce] 26)).heap[w11.heap.size]? = some (.cells #[.slice qae es.length qce, .slice rae fs.length rce] 26 (0, 0)) := alloc_at rfl
      have hz : (w11.alloc (.cells #[.slice qae es.length qce, .slice rae fs.length rce] 26)).heap.size = w11.heap.size + 1 := by simp
      generalize w11.alloc (.cells #[.slice qae es.length qce, .slice rae fs.length rce] 26) = w12 at hb hk hz ⊢
      have HB12 : Hid (Below w.heap.size w w12) := Lib.hid (HB11.out.trans (hb.mono HB11.out.size))
      have HZ12 : Hid (w11.heap.size ≤ w12.heap.size) := Lib.hid hb.size
      have HRk12 := Lib.hid (HRk0.out.below HB12.out (Nat.le_refl _))
      have HRc12 := Lib.hid (HRc11.out.below hb (Nat.le_refl _))
      have HRd12 := Lib.hid (HRd11.out.below hb (Nat.le_refl _))
      have HKbc12 := Lib.hid ((hb.block _ (lt_of_block HKbc11.out)).trans HKbc11.out)
      have HKbd12 := Lib.hid ((hb.block _ (lt_of_block HKbd11.out)).trans HKbd11.out)
      have HRe12 := Lib.hid (HRe11.out.below hb (Nat.le_refl _))
      have HBs8_12 : Hid (Below w8.heap.size w8 w12) := Lib.hid (HBs8_11.out.trans (hb.mono HBs8_11.out.size))
      have HBs11_12 : Hid (Below w11.heap.size w11 w12) := Lib.hid (HBs11_11.out.trans (hb.mono HBs11_11.out.size))
      have HKbe12 := Lib.hid hk
      replace HZ12 : Hid (w11.heap.size < w12.heap.size) := Lib.hid (by omega)
      have HE12 := Lib.hid hz
      clear hb hk hz
      refine (HS2.out _ _ _ _ _ HRc12.out HRd12.out).mono ?_
      rintro e w13 ⟨⟨s1, t1, rfl, ho⟩, hb⟩
      have HB13 : Hid (Below w.heap.size w w13) := Lib.hid (HB12.out.trans (hb.mono HB12.out.size))
      have HZ13 : Hid (w12.heap.size ≤ w13.heap.size) := Lib.hid hb.size
      have HRk13 := Lib.hid (HRk0.out.below HB13.out (Nat.le_refl _))
      have HRc13 := Lib.hid (HRc12.out.below hb (Nat.le_refl _))
      have HRd13 := Lib.hid (HRd12.out.below hb (Nat.le_refl _))
      have HKbc13 := Lib.hid ((hb.block _ (lt_of_block HKbc12.out)).trans HKbc12.out)
      have HKbd13 := Lib.hid ((hb.block _ (lt_of_block HKbd12.out)).trans HKbd12.out)
      have HRe13 := Lib.hid (HRe12.out.below hb (Nat.le_refl _))
      have HKbe13 := Lib.hid ((hb.block _ (lt_of_block HKbe12.out)).trans HKbe12.out)
      have HBs8_13 : Hid (Below w8.heap.size w8 w13) := Lib.hid (HBs8_12.out.trans (hb.mono HBs8_12.out.size))
      have HBs11_13 : Hid (Below w11.heap.size w11 w13) := Lib.hid (HBs11_12.out.trans (hb.mono HBs11_12.out.size))
      clear hb
      obtain ⟨qaf, qcf, raf, rcf, rfl, rfl⟩ := ho.form
      have HRf13 := Lib.hid (ho)
      have HBs13_13 : Hid (Below w13.heap.size w13 w13) := Lib.hid (Below.refl _ _)
      clear ho
      clear cbc0 cbc1 fbc0 fbc1 ltbc cbd0 cbd1 fbd0 fbd1 ltbd
      have ltbc := lt_of_block HKbc13.out
      obtain ⟨cbc0, cbc1, fbc0, fbc1⟩ := cell2 HKbc13.out
      have ltbd := lt_of_block HKbd13.out
      obtain ⟨cbd0, cbd1, fbd0, fbd1⟩ := cell2 HKbd13.out
      have ltbe := lt_of_block HKbe13.out
      obtain ⟨cbe0, cbe1, fbe0, fbe1⟩ := cell2 HKbe13.out
      go_wp2_with fail
      have hb : Below w13.heap.size w13 (w13.alloc (.cells #[.slice qaf es.length qcf, .slice raf fs.length rcf] 26)) := (Below.refl _ _).alloc (Nat.le_refl _) _
      have hk : (w13.alloc (.cells #[.slice qaf es.length qcf, .slice raf fs.length rcf] 26)).heap[w13.heap.size]? = some (.cells #[.slice qaf es.length qcf, .slice raf fs.length rcf] 26 (0, 0)) := alloc_at rfl
      have hz : (w13.alloc (.cells #[.slice qaf es.length qcf, .slice raf fs.length rcf] 26)).heap.size = w13.heap.size + 1 := by simp
      generalize w13.alloc (.cells #[.slice qaf es.length qcf, .slice raf fs.length rcf] 26) = w14 at hb hk hz ⊢
      have HB14 : Hid (Below w.heap.size w w14) := Lib.hid (HB13.out.trans (hb.mono HB13.out.size))
      have HZ14 : Hid (w13.heap.size ≤ w14.heap.size) := Lib.hid hb.size
      have HRk14 := Lib.hid (HRk0.out.below HB14.out (Nat.le_refl _))
      have HRc14 := Lib.hid (HRc13.out.below hb (Nat.le_refl _))
      have HRd14 := Lib.hid (HRd13.out.below hb (Nat.le_refl _))
      have HKbc14 := Lib.hid ((hb.block _ (lt_of_block HKbc13.out)).trans HKbc13.out)
      have HKbd14 := Lib.hid ((hb.block _ (lt_of_block HKbd13.out)).trans HKbd13.out)
      have HRe14 := Lib.hid (HRe13.out.below hb (Nat.le_refl _))
      have HKbe14 := Lib.hid ((hb.block _ (lt_of_block HKbe13.out)).trans HKbe13.out)
      have HRf14 := Lib.hid (HRf13.out.below hb (Nat.le_refl _))
      have HBs8_14 : Hid (Below w8.heap.size w8 w14) := Lib.hid (HBs8_13.out.trans (hb.mono HBs8_13.out.size))
      have HBs11_14 : Hid (Below w11.heap.size w11 w14) := Lib.hid (HBs11_13.out.trans (hb.mono HBs11_13.out.size))
      have HBs13_14 : Hid (Below w13.heap.size w13 w14) := Lib.hid (HBs13_13.out.trans (hb.mono HBs13_13.out.size))
      have HKbf14 := Lib.hid hk
      replace HZ14 : Hid (w13.heap.size < w14.heap.size) := Lib.hid (by omega)
      have HE14 := Lib.hid hz
      clear hb hk hz
      refine (rBoard_yes _ _ _ _ es fs _ HRe14.out HRf14.out).mono ?_
      rintro e w15 ⟨rfl, hb⟩
      have HB15 : Hid (Below w.heap.size w w15) := Lib.hid (HB14.out.trans (hb.mono HB14.out.size))
      have HZ15 : Hid (w14.heap.size ≤ w15.heap.size) := Lib.hid hb.size
      have HRk15 := Lib.hid (HRk0.out.below HB15.out (Nat.le_refl _))
      have HRc15 := Lib.hid (HRc14.out.below hb (Nat.le_refl _))
      have HRd15 := Lib.hid (HRd14.out.below hb (Nat.le_refl _))
      have HKbc15 := Lib.hid ((hb.block _ (lt_of_block HKbc14.out)).trans HKbc14.out)
      have HKbd15 := Lib.hid ((hb.block _ (lt_of_block HKbd14.out)).trans HKbd14.out)
      have HRe15 := Lib.hid (HRe14.out.below hb (Nat.le_refl _))
      have HKbe15 := Lib.hid ((hb.block _ (lt_of_block HKbe14.out)).trans HKbe14.out)
      have HRf15 := Lib.hid (HRf14.out.below hb (Nat.le_refl _))
      have HKbf15 := Lib.hid ((hb.block _ (lt_of_block HKbf14.out)).trans HKbf14.out)
      have HBs8_15 : Hid (Below w8.heap.size w8 w15) := Lib.hid (HBs8_14.out.trans (hb.mono HBs8_14.out.size))
      have HBs11_15 : Hid (Below w11.heap.size w11 w15) := Lib.hid (HBs11_14.out.trans (hb.mono HBs11_14.out.size))
      have HBs13_15 : Hid (Below w13.heap.size w13 w15) := Lib.hid (HBs13_14.out.trans (hb.mono HBs13_14.out.size))
      clear hb
      cases b2 with
      | true =>
        obtain ⟨x2, y2, z2, k1, k2, k3, hw2⟩ := hY2 rfl
        have HK21 := Lib.hid k1
        have HK22 := Lib.hid k2
        have HK23 := Lib.hid k3
        clear hY2 k1 k2 k3
        have hnex2 : (x2 != x2) = false := by simp
        clear cbc0 cbc1 fbc0 fbc1 ltbc cbd0 cbd1 fbd0 fbd1 ltbd cbe0 cbe1 fbe0 fbe1 ltbe
        have ltbc := lt_of_block HKbc15.out
        obtain ⟨cbc0, cbc1, fbc0, fbc1⟩ := cell2 HKbc15.out
        have ltbd := lt_of_block HKbd15.out
        obtain ⟨cbd0, cbd1, fbd0, fbd1⟩ := cell2 HKbd15.out
        have ltbe := lt_of_block HKbe15.out
        obtain ⟨cbe0, cbe1, fbe0, fbe1⟩ := cell2 HKbe15.out
        go_wp2_with fail
        refine (HK21.out _ _ _ HRc15.out).mono ?_
        rintro e w16 ⟨rfl, hb⟩
        have HB16 : Hid (Below w.heap.size w w16) := Lib.hid (HB15.out.trans (hb.mono HB15.out.size))
        have HZ16 : Hid (w15.heap.size ≤ w16.heap.size) := Lib.hid hb.size
        have HRk16 := Lib.hid (HRk0.out.below HB16.out (Nat.le_refl _))
        have HRc16 := Lib.hid (HRc15.out.below hb (Nat.le_refl _))
        have HRd16 := Lib.hid (HRd15.out.below hb (Nat.le_refl _))
        have HKbc16 := Lib.hid ((hb.block _ (lt_of_block HKbc15.out)).trans HKbc15.out)
        have HKbd16 := Lib.hid ((hb.block _ (lt_of_block HKbd15.out)).trans HKbd15.out)
        have HRe16 := Lib.hid (HRe15.out.below hb (Nat.le_refl _))
        have HKbe16 := Lib.hid ((hb.block _ (lt_of_block HKbe15.out)).trans HKbe15.out)
        have HBs8_16 : Hid (Below w8.heap.size w8 w16) := Lib.hid (HBs8_15.out.trans (hb.mono HBs8_15.out.size))
        have HBs11_16 : Hid (Below w11.heap.size w11 w16) := Lib.hid (HBs11_15.out.trans (hb.mono HBs11_15.out.size))
        clear hb
        clear cbc0 cbc1 fbc0 fbc1 ltbc cbd0 cbd1 fbd0 fbd1 ltbd cbe0 cbe1 fbe0 fbe1 ltbe
        have ltbc := lt_of_block HKbc16.out
        obtain ⟨cbc0, cbc1, fbc0, fbc1⟩ := cell2 HKbc16.out
        have ltbd := lt_of_block HKbd16.out
        obtain ⟨cbd0, cbd1, fbd0, fbd1⟩ := cell2 HKbd16.out
        have ltbe := lt_of_block HKbe16.out
        obtain ⟨cbe0, cbe1, fbe0, fbe1⟩ := cell2 HKbe16.out
        go_wp2_with fail
        refine (HK22.out _ _ _ HRd16.out).mono ?_
        rintro e w17 ⟨rfl, hb⟩
        have HB17 : Hid (Below w.heap.size w w17) := Lib.hid (HB16.out.trans (hb.mono HB16.out.size))
        have HZ17 : Hid (w16.heap.size ≤ w17.heap.size) := Lib.hid hb.size
        have HRk17 := Lib.hid (HRk0.out.below HB17.out (Nat.le_refl _))
        have HRc17 := Lib.hid (HRc16.out.below hb (Nat.le_refl _))
        have HRd17 := Lib.hid (HRd16.out.below hb (Nat.le_refl _))
        have HKbc17 := Lib.hid ((hb.block _ (lt_of_block HKbc16.out)).trans HKbc16.out)
        have HKbd17 := Lib.hid ((hb.block _ (lt_of_block HKbd16.out)).trans HKbd16.out)
        have HRe17 := Lib.hid (HRe16.out.below hb (Nat.le_refl _))
        have HKbe17 := Lib.hid ((hb.block _ (lt_of_block HKbe16.out)).trans HKbe16.out)
        have HBs8_17 : Hid (Below w8.heap.size w8 w17) := Lib.hid (HBs8_16.out.trans (hb.mono HBs8_16.out.size))
        have HBs11_17 : Hid (Below w11.heap.size w11 w17) := Lib.hid (HBs11_16.out.trans (hb.mono HBs11_16.out.size))
        clear hb
        clear cbc0 cbc1 fbc0 fbc1 ltbc cbd0 cbd1 fbd0 fbd1 ltbd cbe0 cbe1 fbe0 fbe1 ltbe
        have ltbc := lt_of_block HKbc17.out
        obtain ⟨cbc0, cbc1, fbc0, fbc1⟩ := cell2 HKbc17.out
        have ltbd := lt_of_block HKbd17.out
        obtain ⟨cbd0, cbd1, fbd0, fbd1⟩ := cell2 HKbd17.out
        have ltbe := lt_of_block HKbe17.out
        obtain ⟨cbe0, cbe1, fbe0, fbe1⟩ := cell2 HKbe17.out
        go_wp2_with fail
        refine (HK23.out _ _ _ HRe17.out).mono ?_
        rintro e w18 ⟨rfl, hb⟩
        have HB18 : Hid (Below w.heap.size w w18) := Lib.hid (HB17.out.trans (hb.mono HB17.out.size))
        have HZ18 : Hid (w17.heap.size ≤ w18.heap.size) := Lib.hid hb.size
        have HRk18 := Lib.hid (HRk0.out.below HB18.out (Nat.le_refl _))
        have HRc18 := Lib.hid (HRc17.out.below hb (Nat.le_refl _))
        have HRd18 := Lib.hid (HRd17.out.below hb (Nat.le_refl _))
        have HKbc18 := Lib.hid ((hb.block _ (lt_of_block HKbc17.out)).trans HKbc17.out)
        have HKbd18 := Lib.hid ((hb.block _ (lt_of_block HKbd17.out)).trans HKbd17.out)
        have HRe18 := Lib.hid (HRe17.out.below hb (Nat.le_refl _))
        have HKbe18 := Lib.hid ((hb.block _ (lt_of_block HKbe17.out)).trans HKbe17.out)
        have HBs8_18 : Hid (Below w8.heap.size w8 w18) := Lib.hid (HBs8_17.out.trans (hb.mono HBs8_17.out.size))
        have HBs11_18 : Hid (Below w11.heap.size w11 w18) := Lib.hid (HBs11_17.out.trans (hb.mono HBs11_17.out.size))
        clear hb
        clear cbc0 cbc1 fbc0 fbc1 ltbc cbd0 cbd1 fbd0 fbd1 ltbd cbe0 cbe1 fbe0 fbe1 ltbe
        go_wp2_with fail
        refine (drawSetBoard_any _ L _ HRk18.out).mono ?_
        rintro e w19 ⟨⟨lx, vx, rfl, hx1, hx2⟩, hb⟩
        have HB19 : Hid (Below w.heap.size w w19) := Lib.hid (HB18.out.trans (hb.mono HB18.out.size))
        have HZ19 : Hid (w18.heap.size ≤ w19.heap.size) := Lib.hid hb.size
        have HRk19 := Lib.hid (HRk0.out.below HB19.out (Nat.le_refl _))
        clear hb
        obtain ⟨gs, hs, b3, hS, hI⟩ := sb_same lx vx (by omega)
        have HS3 := Lib.hid hS
        have HI3 := Lib.hid hI
        clear hS hI
        have hneb3 : (b3 != b3) = false := by simp
        go_wp2_with fail
        refine (HI3.out _).mono ?_
        rintro e w20 ⟨⟨s1, t1, rfl, ho⟩, hb⟩
        have HB20 : Hid (Below w.heap.size w w20) := Lib.hid (HB19.out.trans (hb.mono HB19.out.size))
        have HZ20 : Hid (w19.heap.size ≤ w20.heap.size) := Lib.hid hb.size
        have HRk20 := Lib.hid (HRk0.out.below HB20.out (Nat.le_refl _))
        clear hb
        obtain ⟨qag, qcg, rag, rcg, rfl, rfl⟩ := ho.form
        have HRg20 := Lib.hid (ho)
        have HBs20_20 : Hid (Below w20.heap.size w20 w20) := Lib.hid (Below.refl _ _)
        clear ho
        go_wp2_with fail
        have hb : Below w20.heap.size w20 (w20.alloc (.cells #[.slice qag gs.length qcg, .slice rag hs.length rcg] 26)) := (Below.refl _ _).alloc (Nat.le_refl _) _
        have hk : (w20.alloc (.cells #[.slice qag gs.length qcg, .slice rag hs.length rcg] 26)).heap[w20.heap.size]? = some (.cells #[.slice qag gs.length qcg, .slice rag hs.length rcg] 26 (0, 0)) := alloc_at rfl
        have hz : (w20.alloc (.cells #[.slice qag gs.length qcg, .slice rag hs.length rcg] 26)).heap.size = w20.heap.size + 1 := by simp
        generalize w20.alloc (.cells #[.slice qag gs.length qcg, .slice rag hs.length rcg] 26) = w21 at hb hk hz ⊢
        have HB21 : Hid (Below w.heap.size w w21) := Lib.hid (HB20.out.trans (hb.mono HB20.out.size))
        have HZ21 : Hid (w20.heap.size ≤ w21.heap.size) := Lib.hid hb.size
        have HRk21 := Lib.hid (HRk0.out.below HB21.out (Nat.le_refl _))
        have HRg21 := Lib.hid (HRg20.out.below hb (Nat.le_refl _))
        have HBs20_21 : Hid (Below w20.heap.size w20 w21) := Lib.hid (HBs20_20.out.trans (hb.mono HBs20_20.out.size))
        have HKbg21 := Lib.hid hk
        replace HZ21 : Hid (w20.heap.size < w21.heap.size) := Lib.hid (by omega)
        have HE21 := Lib.hid hz
        clear hb hk hz
        refine (HS3.out _).mono ?_
        rintro e w22 ⟨⟨s1, t1, rfl, ho⟩, hb⟩
        have HB22 : Hid (Below w.heap.size w w22) := Lib.hid (HB21.out.trans (hb.mono HB21.out.size))
        have HZ22 : Hid (w21.heap.size ≤ w22.heap.size) := Lib.hid hb.size
        have HRk22 := Lib.hid (HRk0.out.below HB22.out (Nat.le_refl _))
        have HRg22 := Lib.hid (HRg21.out.below hb (Nat.le_refl _))
        have HKbg22 := Lib.hid ((hb.block _ (lt_of_block HKbg21.out)).trans HKbg21.out)
        have HBs20_22 : Hid (Below w20.heap.size w20 w22) := Lib.hid (HBs20_21.out.trans (hb.mono HBs20_21.out.size))
        clear hb
        obtain ⟨qah, qch, rah, rch, rfl, rfl⟩ := ho.form
        have HRh22 := Lib.hid (ho)
        have HBs22_22 : Hid (Below w22.heap.size w22 w22) := Lib.hid (Below.refl _ _)
        clear ho
        have ltbg := lt_of_block HKbg22.out
        obtain ⟨cbg0, cbg1, fbg0, fbg1⟩ := cell2 HKbg22.out
        go_wp2_with fail
        have hb : Below w22.heap.size w22 (w22.alloc (.cells #[.slice qah gs.length qch, .slice rah hs.length rch] 26)) := (Below.refl _ _).alloc (Nat.le_refl _) _
        have hk : (w22.alloc (.cells #[.slice qah gs.length qch, .slice rah hs.length rch] 26)).heap[w22.heap.size]? = some (.cells #[.slice qah gs.length qch, .slice rah hs.length rch] 26 (0, 0)) := alloc_at rfl
        have hz : (w22.alloc (.cells #[.slice qah gs.length qch, .slice rah hs.length rch] 26)).heap.size = w22.heap.size + 1 := by simp
        generalize w22.alloc (.cells #[.slice qah gs.length qch, .slice rah hs.length rch] 26) = w23 at hb hk hz ⊢
        have HB23 : Hid (Below w.heap.size w w23) := Lib.hid (HB22.out.trans (hb.mono HB22.out.size))
        have HZ23 : Hid (w22.heap.size ≤ w23.heap.size) := Lib.hid hb.size
        have HRk23 := Lib.hid (HRk0.out.below HB23.out (Nat.le_refl _))
        have HRg23 := Lib.hid (HRg22.out.below hb (Nat.le_refl _))
        have HKbg23 := Lib.hid ((hb.block _ (lt_of_block HKbg22.out)).trans HKbg22.out)
        have HRh23 := Lib.hid (HRh22.out.below hb (Nat.le_refl _))
        have HBs20_23 : Hid (Below w20.heap.size w20 w23) := Lib.hid (HBs20_22.out.trans (hb.mono HBs20_22.out.size))
        have HBs22_23 : Hid (Below w22.heap.size w22 w23) := Lib.hid (HBs22_22.out.trans (hb.mono HBs22_22.out.size))
        have HKbh23 := Lib.hid hk
        replace HZ23 : Hid (w22.heap.size < w23.heap.size) := Lib.hid (by omega)
        have HE23 := Lib.hid hz
        clear hb hk hz
        refine (rBoard_yes _ _ _ _ gs hs _ HRg23.out HRh23.out).mono ?_
        rintro e w24 ⟨rfl, hb⟩
        have HB24 : Hid (Below w.heap.size w w24) := Lib.hid (HB23.out.trans (hb.mono HB23.out.size))
        have HZ24 : Hid (w23.heap.size ≤ w24.heap.size) := Lib.hid hb.size
        have HRk24 := Lib.hid (HRk0.out.below HB24.out (Nat.le_refl _))
        have HRg24 := Lib.hid (HRg23.out.below hb (Nat.le_refl _))
        have HKbg24 := Lib.hid ((hb.block _ (lt_of_block HKbg23.out)).trans HKbg23.out)
        have HRh24 := Lib.hid (HRh23.out.below hb (Nat.le_refl _))
        have HKbh24 := Lib.hid ((hb.block _ (lt_of_block HKbh23.out)).trans HKbh23.out)
        have HBs20_24 : Hid (Below w20.heap.size w20 w24) := Lib.hid (HBs20_23.out.trans (hb.mono HBs20_23.out.size))
        have HBs22_24 : Hid (Below w22.heap.size w22 w24) := Lib.hid (HBs22_23.out.trans (hb.mono HBs22_23.out.size))
        clear hb
        clear cbg0 cbg1 fbg0 fbg1 ltbg
        go_wp2_with fail
        refine (drawIsPlain_any _ L _ HRk24.out).mono ?_
        rintro e w25 ⟨⟨v1, v2, ms4, ts4, rfl, ho, -, -⟩, hb⟩
        have HB25 : Hid (Below w.heap.size w w25) := Lib.hid (HB24.out.trans (hb.mono HB24.out.size))
        have HZ25 : Hid (w24.heap.size ≤ w25.heap.size) := Lib.hid hb.size
        have HRk25 := Lib.hid (HRk0.out.below HB25.out (Nat.le_refl _))
        clear hb
        obtain ⟨qam, qcm, ram, rcm, rfl, rfl⟩ := ho.1.form
        have HRm25 := Lib.hid (ho.1)
        have HBs25_25 : Hid (Below w25.heap.size w25 w25) := Lib.hid (Below.refl _ _)
        clear ho
        obtain ⟨c4, b4, hS, hI⟩ := ip_same ms4 ts4
        have HS4 := Lib.hid hS
        have HI4 := Lib.hid hI
        clear hS hI
        have heqc4 : (c4 == c4) = true := by simp
        have heqb4 : (b4 == b4) = true := by simp
        go_wp2_with fail
        have hb : Below w25.heap.size w25 (w25.alloc (.cells #[.slice qam ms4.length qcm, .slice ram ts4.length rcm] 26)) := (Below.refl _ _).alloc (Nat.le_refl _) _
        have hk : (w25.alloc (.cells #[.slice qam ms4.length qcm, .slice ram ts4.length rcm] 26)).heap[w25.heap.size]? = some (.cells #[.slice qam ms4.length qcm, .slice ram ts4.length rcm] 26 (0, 0)) := alloc_at rfl
        have hz : (w25.alloc (.cells #[.slice qam ms4.length qcm, .slice ram ts4.length rcm] 26)).heap.size = w25.heap.size + 1 := by simp
        generalize w25.alloc (.cells #[.slice qam ms4.length qcm, .slice ram ts4.length rcm] 26) = w26 at hb hk hz ⊢
        have HB26 : Hid (Below w.heap.size w w26) := Lib.hid (HB25.out.trans (hb.mono HB25.out.size))
        have HZ26 : Hid (w25.heap.size ≤ w26.heap.size) := Lib.hid hb.size
        have HRk26 := Lib.hid (HRk0.out.below HB26.out (Nat.le_refl _))
        have HRm26 := Lib.hid (HRm25.out.below hb (Nat.le_refl _))
        have HBs25_26 : Hid (Below w25.heap.size w25 w26) := Lib.hid (HBs25_25.out.trans (hb.mono HBs25_25.out.size))
        have HKbm26 := Lib.hid hk
        replace HZ26 : Hid (w25.heap.size < w26.heap.size) := Lib.hid (by omega)
        have HE26 := Lib.hid hz
        clear hb hk hz
        refine (HI4.out _ _ _ HRm26.out).mono ?_
        rintro e w27 ⟨rfl, hb⟩
        have HB27 : Hid (Below w.heap.size w w27) := Lib.hid (HB26.out.trans (hb.mono HB26.out.size))
        have HZ27 : Hid (w26.heap.size ≤ w27.heap.size) := Lib.hid hb.size
        have HRk27 := Lib.hid (HRk0.out.below HB27.out (Nat.le_refl _))
        have HRm27 := Lib.hid (HRm26.out.below hb (Nat.le_refl _))
        have HKbm27 := Lib.hid ((hb.block _ (lt_of_block HKbm26.out)).trans HKbm26.out)
        have HBs25_27 : Hid (Below w25.heap.size w25 w27) := Lib.hid (HBs25_26.out.trans (hb.mono HBs25_26.out.size))
        clear hb
        have ltbm := lt_of_block HKbm27.out
        obtain ⟨cbm0, cbm1, fbm0, fbm1⟩ := cell2 HKbm27.out
        go_wp2_with fail
        refine (HS4.out _ _ _ HRm27.out).mono ?_
        rintro e w28 ⟨rfl, hb⟩
        have HB28 : Hid (Below w.heap.size w w28) := Lib.hid (HB27.out.trans (hb.mono HB27.out.size))
        have HZ28 : Hid (w27.heap.size ≤ w28.heap.size) := Lib.hid hb.size
        have HRk28 := Lib.hid (HRk0.out.below HB28.out (Nat.le_refl _))
        have HRm28 := Lib.hid (HRm27.out.below hb (Nat.le_refl _))
        have HKbm28 := Lib.hid ((hb.block _ (lt_of_block HKbm27.out)).trans HKbm27.out)
        have HBs25_28 : Hid (Below w25.heap.size w25 w28) := Lib.hid (HBs25_27.out.trans (hb.mono HBs25_27.out.size))
        clear hb
        clear cbm0 cbm1 fbm0 fbm1 ltbm
        go_wp2_with fail
        refine (drawBoardValue_any _ L _ HRk28.out).mono ?_
        rintro e w29 ⟨⟨v1, v2, ms5, ts5, rfl, ho, -, -⟩, hb⟩
        have HB29 : Hid (Below w.heap.size w w29) := Lib.hid (HB28.out.trans (hb.mono HB28.out.size))
        have HZ29 : Hid (w28.heap.size ≤ w29.heap.size) := Lib.hid hb.size
        have HRk29 := Lib.hid (HRk0.out.below HB29.out (Nat.le_refl _))
        clear hb
        obtain ⟨qan, qcn, ran, rcn, rfl, rfl⟩ := ho.1.form
        have HRn29 := Lib.hid (ho.1)
        have HBs29_29 : Hid (Below w29.heap.size w29 w29) := Lib.hid (Below.refl _ _)
        clear ho
        obtain ⟨x5, b5, hS, hI⟩ := bv_same ms5 ts5
        have HS5 := Lib.hid hS
        have HI5 := Lib.hid hI
        clear hS hI
        have heqx5 : (x5 == x5) = true := by simp
        have heqb5 : (b5 == b5) = true := by simp
        go_wp2_with fail
        have hb : Below w29.heap.size w29 (w29.alloc (.cells #[.slice qan ms5.length qcn, .slice ran ts5.length rcn] 26)) := (Below.refl _ _).alloc (Nat.le_refl _) _
        have hk : (w29.alloc (.cells #[.slice qan ms5.length qcn, .slice ran ts5.length rcn] 26)).heap[w29.heap.size]? = some (.cells #[.slice qan ms5.length qcn, .slice ran ts5.length rcn] 26 (0, 0)) := alloc_at rfl
        have hz : (w29.alloc (.cells #[.slice qan ms5.length qcn, .slice ran ts5.length rcn] 26)).heap.size = w29.heap.size + 1 := by simp
        generalize w29.alloc (.cells #[.slice qan ms5.length qcn, .slice ran ts5.length rcn] 26) = w30 at hb hk hz ⊢
        have HB30 : Hid (Below w.heap.size w w30) := Lib.hid (HB29.out.trans (hb.mono HB29.out.size))
        have HZ30 : Hid (w29.heap.size ≤ w30.heap.size) := Lib.hid hb.size
        have HRk30 := Lib.hid (HRk0.out.below HB30.out (Nat.le_refl _))
        have HRn30 := Lib.hid (HRn29.out.below hb (Nat.le_refl _))
        have HBs29_30 : Hid (Below w29.heap.size w29 w30) := Lib.hid (HBs29_29.out.trans (hb.mono HBs29_29.out.size))
        have HKbn30 := Lib.hid hk
        replace HZ30 : Hid (w29.heap.size < w30.heap.size) := Lib.hid (by omega)
        have HE30 := Lib.hid hz
        clear hb hk hz
        refine (HI5.out _ _ _ HRn30.out).mono ?_
        rintro e w31 ⟨rfl, hb⟩
        have HB31 : Hid (Below w.heap.size w w31) := Lib.hid (HB30.out.trans (hb.mono HB30.out.size))
        have HZ31 : Hid (w30.heap.size ≤ w31.heap.size) := Lib.hid hb.size
        have HRk31 := Lib.hid (HRk0.out.below HB31.out (Nat.le_refl _))
        have HRn31 := Lib.hid (HRn30.out.below hb (Nat.le_refl _))
        have HKbn31 := Lib.hid ((hb.block _ (lt_of_block HKbn30.out)).trans HKbn30.out)
        have HBs29_31 : Hid (Below w29.heap.size w29 w31) := Lib.hid (HBs29_30.out.trans (hb.mono HBs29_30.out.size))
        clear hb
        have ltbn := lt_of_block HKbn31.out
        obtain ⟨cbn0, cbn1, fbn0, fbn1⟩ := cell2 HKbn31.out
        go_wp2_with fail
        refine (HS5.out _ _ _ HRn31.out).mono ?_
        rintro e w32 ⟨rfl, hb⟩
        have HB32 : Hid (Below w.heap.size w w32) := Lib.hid (HB31.out.trans (hb.mono HB31.out.size))
        have HZ32 : Hid (w31.heap.size ≤ w32.heap.size) := Lib.hid hb.size
        have HRk32 := Lib.hid (HRk0.out.below HB32.out (Nat.le_refl _))
        have HRn32 := Lib.hid (HRn31.out.below hb (Nat.le_refl _))
        have HKbn32 := Lib.hid ((hb.block _ (lt_of_block HKbn31.out)).trans HKbn31.out)
        have HBs29_32 : Hid (Below w29.heap.size w29 w32) := Lib.hid (HBs29_31.out.trans (hb.mono HBs29_31.out.size))
        clear hb
        clear cbn0 cbn1 fbn0 fbn1 ltbn
        go_wp2_with fail
        go_ret
        exact ⟨ret_bool (by first | (simp; done) | rfl), HB32.out⟩
      | false =>
        clear hY2
        clear cbc0 cbc1 fbc0 fbc1 ltbc cbd0 cbd1 fbd0 fbd1 ltbd cbe0 cbe1 fbe0 fbe1 ltbe
        go_wp2_with fail
        refine (drawSetBoard_any _ L _ HRk15.out).mono ?_
        rintro e w16 ⟨⟨lx, vx, rfl, hx1, hx2⟩, hb⟩
        have HB16 : Hid (Below w.heap.size w w16) := Lib.hid (HB15.out.trans (hb.mono HB15.out.size))
        have HZ16 : Hid (w15.heap.size ≤ w16.heap.size) := Lib.hid hb.size
        have HRk16 := Lib.hid (HRk0.out.below HB16.out (Nat.le_refl _))
        clear hb
        obtain ⟨gs, hs, b3, hS, hI⟩ := sb_same lx vx (by omega)
        have HS3 := Lib.hid hS
        have HI3 := Lib.hid hI
        clear hS hI
        have hneb3 : (b3 != b3) = false := by simp
        go_wp2_with fail
        refine (HI3.out _).mono ?_
        rintro e w17 ⟨⟨s1, t1, rfl, ho⟩, hb⟩
        have HB17 : Hid (Below w.heap.size w w17) := Lib.hid (HB16.out.trans (hb.mono HB16.out.size))
        have HZ17 : Hid (w16.heap.size ≤ w17.heap.size) := Lib.hid hb.size
        have HRk17 := Lib.hid (HRk0.out.below HB17.out (Nat.le_refl _))
        clear hb
        obtain ⟨qag, qcg, rag, rcg, rfl, rfl⟩ := ho.form
        have HRg17 := Lib.hid (ho)
        have HBs17_17 : Hid (Below w17.heap.size w17 w17) := Lib.hid (Below.refl _ _)
        clear ho
        go_wp2_with fail
        have hb : Below w17.heap.size w17 (w17.alloc (.cells #[.slice qag gs.length qcg, .slice rag hs.length rcg] 26)) := (Below.refl _ _).alloc (Nat.le_refl _) _
        have hk : (w17.alloc (.cells #[.slice qag gs.length qcg, .slice rag hs.length rcg] 26)).heap[w17.heap.size]? = some (.cells #[.slice qag gs.length qcg, .slice rag hs.length rcg] 26 (0, 0)) := alloc_at rfl
        have hz : (w17.alloc (.cells #[.slice qag gs.length qcg, .slice rag hs.length rcg] 26)).heap.size = w17.heap.size + 1 := by simp
        generalize w17.alloc (.cells #[.slice qag gs.length qcg, .slice rag hs.length rcg] 26) = w18 at hb hk hz ⊢
        have HB18 : Hid (Below w.heap.size w w18) := Lib.hid (HB17.out.trans (hb.mono HB17.out.size))
        have HZ18 : Hid (w17.heap.size ≤ w18.heap.size) := Lib.hid hb.size
        have HRk18 := Lib.hid (HRk0.out.below HB18.out (Nat.le_refl _))
        have HRg18 := Lib.hid (HRg17.out.below hb (Nat.le_refl _))
        have HBs17_18 : Hid (Below w17.heap.size w17 w18) := Lib.hid (HBs17_17.out.trans (hb.mono HBs17_17.out.size))
        have HKbg18 := Lib.hid hk
        replace HZ18 : Hid (w17.heap.size < w18.heap.size) := Lib.hid (by omega)
        have HE18 := Lib.hid hz
        clear hb hk hz
        refine (HS3.out _).mono ?_
        rintro e w19 ⟨⟨s1, t1, rfl, ho⟩, hb⟩
        have HB19 : Hid (Below w.heap.size w w19) := Lib.hid (HB18.out.trans (hb.mono HB18.out.size))
        have HZ19 : Hid (w18.heap.size ≤ w19.heap.size) := Lib.hid hb.size
        have HRk19 := Lib.hid (HRk0.out.below HB19.out (Nat.le_refl _))
        have HRg19 := Lib.hid (HRg18.out.below hb (Nat.le_refl _))
        have HKbg19 := Lib.hid ((hb.block _ (lt_of_block HKbg18.out)).trans HKbg18.out)
        have HBs17_19 : Hid (Below w17.heap.size w17 w19) := Lib.hid (HBs17_18.out.trans (hb.mono HBs17_18.out.size))
        clear hb
        obtain ⟨qah, qch, rah, rch, rfl, rfl⟩ := ho.form
        have HRh19 := Lib.hid (ho)
        have HBs19_19 : Hid (Below w19.heap.size w19 w19) := Lib.hid (Below.refl _ _)
        clear ho
        have ltbg := lt_of_block HKbg19.out
        obtain ⟨cbg0, cbg1, fbg0, fbg1⟩ := cell2 HKbg19.out
        go_wp2_with fail
        have hb : Below w19.heap.size w19 (w19.alloc (.cells #[.slice qah gs.length qch, .slice rah hs.length rch] 26)) := (Below.refl _ _).alloc (Nat.le_refl _) _
        have hk : (w19.alloc (.cells #[.slice qah gs.length qch, .slice rah hs.length rch] 26)).heap[w19.heap.size]? = some (.cells #[.slice qah gs.length qch, .slice rah hs.length rch] 26 (0, 0)) := alloc_at rfl
        have hz : (w19.alloc (.cells #[.slice qah gs.length qch, .slice rah hs.length rch] 26)).heap.size = w19.heap.size + 1 := by simp
        generalize w19.alloc (.cells #[.slice qah gs.length qch, .slice rah hs.length rch] 26) = w20 at hb hk hz ⊢
        have HB20 : Hid (Below w.heap.size w w20) := Lib.hid (HB19.out.trans (hb.mono HB19.out.size))
        have HZ20 : Hid (w19.heap.size ≤ w20.heap.size) := Lib.hid hb.size
        have HRk20 := Lib.hid (HRk0.out.below HB20.out (Nat.le_refl _))
        have HRg20 := Lib.hid (HRg19.out.below hb (Nat.le_refl _))
        have HKbg20 := Lib.hid ((hb.block _ (lt_of_block HKbg19.out)).trans HKbg19.out)
        have HRh20 := Lib.hid (HRh19.out.below hb (Nat.le_refl _))
        have HBs17_20 : Hid (Below w17.heap.size w17 w20) := Lib.hid (HBs17_19.out.trans (hb.mono HBs17_19.out.size))
        have HBs19_20 : Hid (Below w19.heap.size w19 w20) := Lib.hid (HBs19_19.out.trans (hb.mono HBs19_19.out.size))
        have HKbh20 := Lib.hid hk
        replace HZ20 : Hid (w19.heap.size < w20.heap.size) := Lib.hid (by omega)
        have HE20 := Lib.hid hz
        clear hb hk hz
        refine (rBoard_yes _ _ _ _ gs hs _ HRg20.out HRh20.out).mono ?_
        rintro e w21 ⟨rfl, hb⟩
        have HB21 : Hid (Below w.heap.size w w21) := Lib.hid (HB20.out.trans (hb.mono HB20.out.size))
        have HZ21 : Hid (w20.heap.size ≤ w21.heap.size) := Lib.hid hb.size
        have HRk21 := Lib.hid (HRk0.out.below HB21.out (Nat.le_refl _))
        have HRg21 := Lib.hid (HRg20.out.below hb (Nat.le_refl _))
        have HKbg21 := Lib.hid ((hb.block _ (lt_of_block HKbg20.out)).trans HKbg20.out)
        have HRh21 := Lib.hid (HRh20.out.below hb (Nat.le_refl _))
        have HKbh21 := Lib.hid ((hb.block _ (lt_of_block HKbh20.out)).trans HKbh20.out)
        have HBs17_21 : Hid (Below w17.heap.size w17 w21) := Lib.hid (HBs17_20.out.trans (hb.mono HBs17_20.out.size))
        have HBs19_21 : Hid (Below w19.heap.size w19 w21) := Lib.hid (HBs19_20.out.trans (hb.mono HBs19_20.out.size))
        clear hb
        clear cbg0 cbg1 fbg0 fbg1 ltbg
        go_wp2_with fail
        refine (drawIsPlain_any _ L _ HRk21.out).mono ?_
        rintro e w22 ⟨⟨v1, v2, ms4, ts4, rfl, ho, -, -⟩, hb⟩
        have HB22 : Hid (Below w.heap.size w w22) := Lib.hid (HB21.out.trans (hb.mono HB21.out.size))
        have HZ22 : Hid (w21.heap.size ≤ w22.heap.size) := Lib.hid hb.size
        have HRk22 := Lib.hid (HRk0.out.below HB22.out (Nat.le_refl _))
        clear hb
        obtain ⟨qam, qcm, ram, rcm, rfl, rfl⟩ := ho.1.form
        have HRm22 := Lib.hid (ho.1)
        have HBs22_22 : Hid (Below w22.heap.size w22 w22) := Lib.hid (Below.refl _ _)
        clear ho
        obtain ⟨c4, b4, hS, hI⟩ := ip_same ms4 ts4
        have HS4 := Lib.hid hS
        have HI4 := Lib.hid hI
        clear hS hI
        have heqc4 : (c4 == c4) = true := by simp
        have heqb4 : (b4 == b4) = true := by simp
        go_wp2_with fail
        have hb : Below w22.heap.size w22 (w22.alloc (.cells #[.slice qam ms4.length qcm, .slice ram ts4.length rcm] 26)) := (Below.refl _ _).alloc (Nat.le_refl _) _
        have hk : (w22.alloc (.cells #[.slice qam ms4.length qcm, .slice ram ts4.length rcm] 26)).heap[w22.heap.size]? = some (.cells #[.slice qam ms4.length qcm, .slice ram ts4.length rcm] 26 (0, 0)) := alloc_at rfl
        have hz : (w22.alloc (.cells #[.slice qam ms4.length qcm, .slice ram ts4.length rcm] 26)).heap.size = w22.heap.size + 1 := by simp
        generalize w22.alloc (.cells #[.slice qam ms4.length qcm, .slice ram ts4.length rcm] 26) = w23 at hb hk hz ⊢
        have HB23 : Hid (Below w.heap.size w w23) := Lib.hid (HB22.out.trans (hb.mono HB22.out.size))
        have HZ23 : Hid (w22.heap.size ≤ w23.heap.size) := Lib.hid hb.size
        have HRk23 := Lib.hid (HRk0.out.below HB23.out (Nat.le_refl _))
        have HRm23 := Lib.hid (HRm22.out.below hb (Nat.le_refl _))
        have HBs22_23 : Hid (Below w22.heap.size w22 w23) := Lib.hid (HBs22_22.out.trans (hb.mono HBs22_22.out.size))
        have HKbm23 := Lib.hid hk
        replace HZ23 : Hid (w22.heap.size < w23.heap.size) := Lib.hid (by omega)
        have HE23 := Lib.hid hz
        clear hb hk hz
        refine (HI4.out _ _ _ HRm23.out).mono ?_
        rintro e w24 ⟨rfl, hb⟩
        have HB24 : Hid (Below w.heap.size w w24) := Lib.hid (HB23.out.trans (hb.mono HB23.out.size))
        have HZ24 : Hid (w23.heap.size ≤ w24.heap.size) := Lib.hid hb.size
        have HRk24 := Lib.hid (HRk0.out.below HB24.out (Nat.le_refl _))
        have HRm24 := Lib.hid (HRm23.out.below hb (Nat.le_refl _))
        have HKbm24 := Lib.hid ((hb.block _ (lt_of_block HKbm23.out)).trans HKbm23.out)
        have HBs22_24 : Hid (Below w22.heap.size w22 w24) := Lib.hid (HBs22_23.out.trans (hb.mono HBs22_23.out.size))
        clear hb
        have ltbm := lt_of_block HKbm24.out
        obtain ⟨cbm0, cbm1, fbm0, fbm1⟩ := cell2 HKbm24.out
        go_wp2_with fail
        refine (HS4.out _ _ _ HRm24.out).mono ?_
        rintro e w25 ⟨rfl, hb⟩
        have HB25 : Hid (Below w.heap.size w w25) := Lib.hid (HB24.out.trans (hb.mono HB24.out.size))
        have HZ25 : Hid (w24.heap.size ≤ w25.heap.size) := Lib.hid hb.size
        have HRk25 := Lib.hid (HRk0.out.below HB25.out (Nat.le_refl _))
        have HRm25 := Lib.hid (HRm24.out.below hb (Nat.le_refl _))
        have HKbm25 := Lib.hid ((hb.block _ (lt_of_block HKbm24.out)).trans HKbm24.out)
        have HBs22_25 : Hid (Below w22.heap.size w22 w25) := Lib.hid (HBs22_24.out.trans (hb.mono HBs22_24.out.size))
        clear hb
        clear cbm0 cbm1 fbm0 fbm1 ltbm
        go_wp2_with fail
        refine (drawBoardValue_any _ L _ HRk25.out).mono ?_
        rintro e w26 ⟨⟨v1, v2, ms5, ts5, rfl, ho, -, -⟩, hb⟩
        have HB26 : Hid (Below w.heap.size w w26) := Lib.hid (HB25.out.trans (hb.mono HB25.out.size))
        have HZ26 : Hid (w25.heap.size ≤ w26.heap.size) := Lib.hid hb.size
        have HRk26 := Lib.hid (HRk0.out.below HB26.out (Nat.le_refl _))
        clear hb
        obtain ⟨qan, qcn, ran, rcn, rfl, rfl⟩ := ho.1.form
        have HRn26 := Lib.hid (ho.1)
        have HBs26_26 : Hid (Below w26.heap.size w26 w26) := Lib.hid (Below.refl _ _)
        clear ho
        obtain ⟨x5, b5, hS, hI⟩ := bv_same ms5 ts5
        have HS5 := Lib.hid hS
        have HI5 := Lib.hid hI
        clear hS hI
        have heqx5 : (x5 == x5) = true := by simp
        have heqb5 : (b5 == b5) = true := by simp
        go_wp2_with fail
        have hb : Below w26.heap.size w26 (w26.alloc (.cells #[.slice qan ms5.length qcn, .slice ran ts5.length rcn] 26)) := (Below.refl _ _).alloc (Nat.le_refl _) _
        have hk : (w26.alloc (.cells #[.slice qan ms5.length qcn, .slice ran ts5.length rcn] 26)).heap[w26.heap.size]? = some (.cells #[.slice qan ms5.length qcn, .slice ran ts5.length rcn] 26 (0, 0)) := alloc_at rfl
        have hz : (w26.alloc (.cells #[.slice qan ms5.length qcn, .slice ran ts5.length rcn] 26)).heap.size = w26.heap.size + 1 := by simp
        generalize w26.alloc (.cells #[.slice qan ms5.length qcn, .slice ran ts5.length rcn] 26) = w27 at hb hk hz ⊢
        have HB27 : Hid (Below w.heap.size w w27) := Lib.hid (HB26.out.trans (hb.mono HB26.out.size))
        have HZ27 : Hid (w26.heap.size ≤ w27.heap.size) := Lib.hid hb.size
        have HRk27 := Lib.hid (HRk0.out.below HB27.out (Nat.le_refl _))
        have HRn27 := Lib.hid (HRn26.out.below hb (Nat.le_refl _))
        have HBs26_27 : Hid (Below w26.heap.size w26 w27) := Lib.hid (HBs26_26.out.trans (hb.mono HBs26_26.out.size))
        have HKbn27 := Lib.hid hk
        replace HZ27 : Hid (w26.heap.size < w27.heap.size) := Lib.hid (by omega)
        have HE27 := Lib.hid hz
        clear hb hk hz
        refine (HI5.out _ _ _ HRn27.out).mono ?_
        rintro e w28 ⟨rfl, hb⟩
        have HB28 : Hid (Below w.heap.size w w28) := Lib.hid (HB27.out.trans (hb.mono HB27.out.size))
        have HZ28 : Hid (w27.heap.size ≤ w28.heap.size) := Lib.hid hb.size
        have HRk28 := Lib.hid (HRk0.out.below HB28.out (Nat.le_refl _))
        have HRn28 := Lib.hid (HRn27.out.below hb (Nat.le_refl _))
        have HKbn28 := Lib.hid ((hb.block _ (lt_of_block HKbn27.out)).trans HKbn27.out)
        have HBs26_28 : Hid (Below w26.heap.size w26 w28) := Lib.hid (HBs26_27.out.trans (hb.mono HBs26_27.out.size))
        clear hb
        have ltbn := lt_of_block HKbn28.out
        obtain ⟨cbn0, cbn1, fbn0, fbn1⟩ := cell2 HKbn28.out
        go_wp2_with fail
        refine (HS5.out _ _ _ HRn28.out).mono ?_
        rintro e w29 ⟨rfl, hb⟩
        have HB29 : Hid (Below w.heap.size w w29) := Lib.hid (HB28.out.trans (hb.mono HB28.out.size))
        have HZ29 : Hid (w28.heap.size ≤ w29.heap.size) := Lib.hid hb.size
        have HRk29 := Lib.hid (HRk0.out.below HB29.out (Nat.le_refl _))
        have HRn29 := Lib.hid (HRn28.out.below hb (Nat.le_refl _))
        have HKbn29 := Lib.hid ((hb.block _ (lt_of_block HKbn28.out)).trans HKbn28.out)
        have HBs26_29 : Hid (Below w26.heap.size w26 w29) := Lib.hid (HBs26_28.out.trans (hb.mono HBs26_28.out.size))
        clear hb
        clear cbn0 cbn1 fbn0 fbn1 ltbn
        go_wp2_with fail
        go_ret
        exact ⟨ret_bool (by first | (simp; done) | rfl), HB29.out⟩
end Go.Proofs.Ytbdddpchlmddbaa
