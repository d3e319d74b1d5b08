/- The law's helpers on Unit and slices of it: compare, copy, measure. -/
import Derived.Test.YtlmnbecfaaeohaaKa
import Derived.Test.YtlmnbecfaaeohaaMtext
import Derived.Deep.RegionHeld3
import Derived.Deep.QuietTactic
import Derived.BigQuiet
import Derived.StillTailTactics
namespace Go.Proofs.Ytlmnbecfaaeohaa
set_option linter.unusedVariables false
open Go.RowKit

structure Un where
  nm : ByteArray
  sz : Int

def unV (p : Un) : Value := .agg #[.string p.nm, .int .i64 p.sz]
def unC (p : Un) : List Value := [.string p.nm, .int .i64 p.sz]
theorem unC_len (p : Un) : (unC p).length = 2 := rfl

set_option maxRecDepth 100000 in
set_option maxHeartbeats 1600000 in
theorem eqUnit_yes (p : Un) (w : World) :
    Calls Try.prog 48 #[unV p, unV p] w fun e w' => e = .returned (.bool true) ∧ Below w.heap.size w w' := by
  obtain ⟨nm, sz⟩ := p
  show Calls Try.prog 48 #[.agg #[.string nm, .int .i64 sz], .agg #[.string nm, .int .i64 sz]] w fun e w' => e = .returned (.bool true) ∧ Below w.heap.size w w'
  have hsnm : (!nm.toList == nm.toList) = false := by simp
  go_enter Try.func48, Try.ntmps48
  go_wp2_with fail
  go_ret
  exact ⟨rfl, ((Below.refl _ _).alloc (Nat.le_refl _) _).alloc (by simp) _⟩

set_option maxRecDepth 100000 in
set_option maxHeartbeats 1600000 in
theorem toUnit_any (p : Un) (w : World) :
    Calls Try.prog 44 #[unV p] w fun e w' => e = .returned (unV p) ∧ Below w.heap.size w w' := by
  obtain ⟨nm, sz⟩ := p
  show Calls Try.prog 44 #[.agg #[.string nm, .int .i64 sz]] w fun e w' => e = .returned (.agg #[.string nm, .int .i64 sz]) ∧ Below w.heap.size w w'
  go_enter Try.func44, Try.ntmps44
  go_wp2_with fail
  exact bodyPost_ret (v := .agg #[.string nm, .int .i64 sz]) (by simp [results, Try.results44, go_sem]) rfl ⟨rfl, (((Below.refl _ _).alloc (Nat.le_refl _) _).alloc (by simp) _).alloc (by simp; omega) _⟩

set_option maxRecDepth 100000 in
set_option maxHeartbeats 1600000 in
theorem eqUnitS_yes (v1 v2 : Value) (ps : List Un) (w : World) (h1 : RowsR 2 unC w v1 ps) (h2 : RowsR 2 unC w v2 ps) :
    Calls Try.prog 17 #[v1, v2] w fun e w' => e = .returned (.bool true) ∧ Below w.heap.size w w' := by
  have hm : ps.length ≤ 9223372036854775807 := by obtain ⟨_, _, _, ⟨m, _⟩, _⟩ := h1; exact m
  obtain ⟨a1, c1, rfl⟩ := h1.form
  obtain ⟨a2, c2, rfl⟩ := h2.form
  have R1 := Lib.hid h1.at
  have R2 := Lib.hid h2.at
  clear h1 h2
  go_enter Try.func17, Try.ntmps17
  go_wp2_with fail
  go_loopw [5] (fun i wr => ∃ k : Nat, k ≤ ps.length ∧ i = .int .i64 k ∧ Below w.heap.size w wr) (fun i _ => ps.length - (intOf i).toNat)
  case atStart => exact ⟨0, Nat.zero_le _, rfl, Below.refl _ _⟩
  case round =>
    obtain ⟨k, hk, rfl, hb⟩ := hrel
    by_cases hlt : k < ps.length
    · obtain ⟨b1, o1, rfl, l1, k1⟩ := R1.out _ hb k hlt
      obtain ⟨b2, o2, rfl, l2, k2⟩ := R2.out _ hb k hlt
      have p0 : wr.cell? ⟨b1, o1 + k * 2, none⟩ = some (.string ps[k].nm) := k1 0 (by omega)
      have q0 : wr.cell? ⟨b2, o2 + k * 2, none⟩ = some (.string ps[k].nm) := k2 0 (by omega)
      have p1 : wr.cell? ⟨b1, o1 + k * 2 + 1, none⟩ = some (.int .i64 ps[k].sz) := k1 1 (by omega)
      have q1 : wr.cell? ⟨b2, o2 + k * 2 + 1, none⟩ = some (.int .i64 ps[k].sz) := k2 1 (by omega)
      have z1 : (0 : Int) ≤ (k : Int) := by omega
      have z2 : (k : Int) < (ps.length : Int) := by omega
      clear k1 k2
      go_wp2_with fail
      go_still_tail 8, (by kernel_rfl)
      change wpList _ _ _ _ _ wr.drew
      have hb2 := hb.drew
      generalize wr.drew = w2 at hb2 ⊢
      clear p0 q0 p1 q1 hb
      go_wp2_with fail
      refine (eqUnit_yes ps[k] _).mono ?_
      rintro e w3 ⟨rfl, hb3⟩
      go_wp2_with fail
      go_roundw
      case rel => exact ⟨k + 1, by omega, by go_num, hb2.trans (hb3.mono hb2.size)⟩
      case measure => simp [intOf]; omega
    · go_wp2_with fail
      go_ret
      exact ⟨rfl, hb⟩

theorem Try.infoUnit : (Try.prog.info? 58).map (fun i => (i.zero, i.size, i.bytes)) = some (some (.agg #[.string ⟨#[]⟩, .int .i64 0]), 2, 24) := by kernel_rfl

set_option maxRecDepth 100000 in
set_option maxHeartbeats 1600000 in
theorem toUnitS_any (v : Value) (ps : List Un) (w : World) (h : RowsR 2 unC w v ps) (hn : ps.length ≤ 1048576) :
    Calls Try.prog 15 #[v] w fun e w' => (∃ v', e = .returned v' ∧ w'.ownsRow w.heap.size 58 2 v' ps.length (flatC unC ps)) ∧ Below w.heap.size w w' := by
  obtain ⟨i0, hi, hz0, hz1, hz2⟩ := info_parts Try.infoUnit
  obtain ⟨a, cp, rfl⟩ := h.form
  have R1 := Lib.hid h.at
  clear h
  go_enter Try.func15, Try.ntmps15
  go_wp2_with (at_make; refine wpList_make_full _ rfl _ _ 25 rfl w.heap.size 58 i0 (.agg #[.string ⟨#[]⟩, .int .i64 0]) 2 Try.underlying25 hi hz0 hz1 _ _ _ _ ps.length rfl rfl rfl rfl ?b2 ?b3 (Nat.le_refl _) ?_)
  case b2 => rw [hz2]; omega
  case b3 => unfold maxLen; omega
  intro w0 hown0 hgrow0
  have HO0 := Lib.hid hown0
  have HG0 := Lib.hid hgrow0
  clear hown0 hgrow0
  go_wp2
  go_loopw [4] (fun i wr => ∃ (k : Nat) (xs : List Value), k ≤ ps.length ∧ i = .int .i64 k ∧ xs.length = ps.length * 2 ∧ (∀ (i : Nat) (h : i < ps.length), i < k → ∀ j, j < 2 → xs[i * 2 + j]? = (unC ps[i])[j]?) ∧ wr.ownsRow w.heap.size 58 2 (.slice (some ⟨w.heap.size, 0, none⟩) ps.length ps.length) ps.length xs ∧ Below w.heap.size w wr) (fun i _ => ps.length - (intOf i).toNat)
  case atStart => exact ⟨0, _, Nat.zero_le _, rfl, by have := HO0.out.1; omega, fun i _ h => by omega, HO0.out, (Below.refl _ _).grown HG0.out (Nat.le_refl _) (fun k h => by cases h)⟩
  case round =>
    obtain ⟨k, xs, hk, rfl, hxl, hpre, hown, hb⟩ := hrel
    have HO := Lib.hid hown
    have HP := Lib.hid hpre
    have HX := Lib.hid hxl
    by_cases hlt : k < ps.length
    · obtain ⟨b1, o1, rfl, l1, k1⟩ := R1.out _ hb k hlt
      have p0 : wr.cell? ⟨b1, o1 + k * 2, none⟩ = some (.string ps[k].nm) := k1 0 (by omega)
      have p1 : wr.cell? ⟨b1, o1 + k * 2 + 1, none⟩ = some (.int .i64 ps[k].sz) := k1 1 (by omega)
      have z1 : (0 : Int) ≤ (k : Int) := by omega
      have z2 : (k : Int) < (ps.length : Int) := by omega
      clear k1 hown hpre hxl
      go_wp2_with fail
      refine (toUnit_any ps[k] _).mono ?_
      rintro e w2 ⟨rfl, hb2⟩
      have HO2 := Lib.hid (own_below HO.out hb2)
      have HB2 : Hid (Below w.heap.size w w2) := Lib.hid (hb.trans (hb2.mono hb.size))
      obtain ⟨u0, d0⟩ : ∃ u, w2.cell? ⟨w.heap.size, k * 2, none⟩ = some u := ⟨_, (HO2.out.cellAt (k * 2 + 0) (by omega)).trans (List.getElem?_eq_getElem (by have := HX.out; omega))⟩
      have f0 : w2.frozen? ⟨w.heap.size, k * 2, none⟩ = false := HO2.out.frozenAt _
      obtain ⟨u1, d1⟩ : ∃ u, w2.cell? ⟨w.heap.size, k * 2 + 1, none⟩ = some u := ⟨_, (HO2.out.cellAt (k * 2 + 1) (by omega)).trans (List.getElem?_eq_getElem (by have := HX.out; omega))⟩
      have f1 : w2.frozen? ⟨w.heap.size, k * 2 + 1, none⟩ = false := HO2.out.frozenAt _
      clear hb2 p0 p1 hb
      unfold unV
      go_wp2_with fail
      go_roundw
      case rel =>
        refine ⟨k + 1, (xs.set (k * 2) (.string ps[k].nm)).set (k * 2 + 1) (.int .i64 ps[k].sz), by omega, by go_num, by simp only [List.length_set]; exact HX.out, fun i h hi j hj => ?_, ((HO2.out.stored (k * 2) _).1.stored (k * 2 + 1) _).1, (HB2.out.setCell (Nat.le_refl _) _).setCell (Nat.le_refl _) _⟩
        have hx := HX.out
        by_cases e : i = k
        · subst e
          have hj' : j = 0 ∨ j = 1 := by omega
          rcases hj' with rfl | rfl
          · simp only [Nat.add_zero]
            rw [List.getElem?_set_ne (by omega), List.getElem?_set_self (by (try simp only [List.length_set]); omega)]; rfl
          · rw [List.getElem?_set_self (by (try simp only [List.length_set]); omega)]; rfl
        · rw [List.getElem?_set_ne (by omega), List.getElem?_set_ne (by omega)]
          exact HP.out i h (by omega) j hj
      case measure => simp [intOf]; omega
    · have HXS := Lib.hid (flatC_of unC_len (by omega) xs ps hxl (fun i h j hj => hpre i h (by omega) j hj))
      clear hown hpre hxl
      go_wp2_with fail
      go_ret
      exact ⟨⟨_, rfl, HXS.out ▸ HO.out⟩, hb⟩

def szUn (p : Un) : Nat := p.nm.size
def szsUn : List Un → Nat
  | [] => 0
  | p :: t => szUn p + szsUn t
theorem szsUn_app (a b : List Un) : szsUn (a ++ b) = szsUn a + szsUn b := by
  induction a with
  | nil => simp [szsUn]
  | cons x t ih => simp [szsUn, ih]; omega
theorem szsUn_mem (ps : List Un) : ∀ p ∈ ps, szUn p ≤ szsUn ps := by
  induction ps with
  | nil => intro p h; cases h
  | cons x t ih =>
    intro p h
    rw [szsUn]
    rcases List.mem_cons.1 h with rfl | h
    · omega
    · have := ih p h; omega

set_option maxRecDepth 100000 in
set_option maxHeartbeats 1600000 in
theorem szUnit_any (p : Un) (left : Int) (w : World) (h0 : 0 ≤ left) (h1 : left ≤ 1048576) (hs : p.nm.size ≤ maxLen) :
    Calls Try.prog 42 #[unV p, .int .i64 left] w fun e w' => (∃ r : Int, e = .returned (.int .i64 r) ∧ r ≤ 1048576 ∧ (0 ≤ r → r + szUn p = left)) ∧ Below w.heap.size w w' := by
  obtain ⟨nm, sz⟩ := p
  have hs1 : nm.size ≤ 9223372036854775807 := hs
  show Calls Try.prog 42 #[.agg #[.string nm, .int .i64 sz], .int .i64 left] w fun e w' => (∃ r : Int, e = .returned (.int .i64 r) ∧ r ≤ 1048576 ∧ (0 ≤ r → r + nm.size = left)) ∧ Below w.heap.size w w'
  by_cases hlt : left < nm.size
  · go_enter Try.func42, Try.ntmps42
    go_wp2_with fail
    go_ret
    exact ⟨⟨_, rfl, by omega, fun h => by omega⟩, (Below.refl _ _).alloc (Nat.le_refl _) _⟩
  · go_enter Try.func42, Try.ntmps42
    go_wp2_with fail
    go_ret
    exact ⟨⟨_, rfl, by omega, fun h => by omega⟩, (Below.refl _ _).alloc (Nat.le_refl _) _⟩

set_option maxRecDepth 100000 in
set_option maxHeartbeats 1600000 in
theorem szUnitS_any (v : Value) (ps : List Un) (left : Int) (w : World) (h : RowsR 2 unC w v ps) (hs : ∀ p ∈ ps, p.nm.size ≤ maxLen) (h0 : 0 ≤ left) (h1 : left ≤ 1048576) :
    Calls Try.prog 13 #[v, .int .i64 left] w fun e w' => (∃ r : Int, e = .returned (.int .i64 r) ∧ r ≤ 1048576 ∧ (0 ≤ r → r + ps.length + szsUn ps = left)) ∧ Below w.heap.size w w' := by
  have hm : ps.length ≤ 9223372036854775807 := by obtain ⟨_, _, _, ⟨m, _⟩, _⟩ := h; exact m
  obtain ⟨a, cp, rfl⟩ := h.form
  have R1 := Lib.hid h.at
  have HS := Lib.hid hs
  clear h hs
  by_cases hlt : left < ps.length
  · go_enter Try.func13, Try.ntmps13
    go_wp2_with fail
    go_ret
    exact ⟨⟨_, rfl, by omega, fun h => by omega⟩, Below.refl _ _⟩
  go_enter Try.func13, Try.ntmps13
  go_wp2_with fail
  go_loopw [5, 1] (fun i lf wr => ∃ (k : Nat) (l : Int), k ≤ ps.length ∧ i = .int .i64 k ∧ lf = .int .i64 l ∧ 0 ≤ l ∧ l + ps.length + szsUn (ps.take k) = left ∧ Below w.heap.size w wr) (fun i _ _ => ps.length - (intOf i).toNat)
  case atStart => exact ⟨0, left - ps.length, Nat.zero_le _, rfl, rfl, by omega, by simp [szsUn], Below.refl _ _⟩
  case round =>
    obtain ⟨k, l, hk, rfl, rfl, hl0, hl1, hb⟩ := hrel
    by_cases hk2 : k < ps.length
    · obtain ⟨b1, o1, rfl, l1, k1⟩ := R1.out _ hb k hk2
      have p0 : wr.cell? ⟨b1, o1 + k * 2, none⟩ = some (.string ps[k].nm) := k1 0 (by omega)
      have p1 : wr.cell? ⟨b1, o1 + k * 2 + 1, none⟩ = some (.int .i64 ps[k].sz) := k1 1 (by omega)
      have z1 : (0 : Int) ≤ (k : Int) := by omega
      have z2 : (k : Int) < (ps.length : Int) := by omega
      have hsn : szsUn (ps.take (k + 1)) = szsUn (ps.take k) + szUn ps[k] := by rw [List.take_succ_eq_append_getElem hk2, szsUn_app]; simp [szsUn]
      have HSN := Lib.hid hsn
      have HL1 := Lib.hid hl1
      have hl2 : l ≤ 1048576 := by omega
      clear k1 hsn hl1
      go_wp2_with fail
      refine (szUnit_any ps[k] l _ hl0 hl2 (HS.out _ (List.getElem_mem hk2))).mono ?_
      rintro e w2 ⟨⟨r, rfl, hr1, hr2⟩, hb2⟩
      have HB2 := Lib.hid (hb.trans (hb2.mono hb.size))
      clear hb hb2 p0 p1
      by_cases hr : r < 0
      · go_wp2_with fail
        go_ret
        exact ⟨⟨_, rfl, by omega, fun h => by omega⟩, HB2.out⟩
      · have hr0 : 0 ≤ r := by omega
        have hr3 := hr2 hr0
        have HR3 := Lib.hid hr3
        clear hr2 hr3
        go_wp2_with fail
        go_roundw
        case rel => exact ⟨k + 1, r, by omega, by go_num, rfl, hr0, by have := HR3.out; have := HL1.out; have := HSN.out; omega, HB2.out⟩
        case measure => simp [intOf]; omega
    · have HT : Hid (szsUn (ps.take k) = szsUn ps) := Lib.hid (by rw [List.take_of_length_le (by omega)])
      have HL1 := Lib.hid hl1
      have hl2 : l ≤ 1048576 := by omega
      clear hl1
      go_wp2_with fail
      go_ret
      exact ⟨⟨_, rfl, by omega, fun h => by have := HL1.out; have := HT.out; omega⟩, hb⟩

def mkUn (k : Int) : Un := { nm := mT (k), sz := k + 1 }
def mksUn (k : Int) (n : Nat) : List Un := (List.range n).map fun (i : Nat) => mkUn (k + 2 * (i : Int))
theorem mksUn_len (k : Int) (n : Nat) : (mksUn k n).length = n := by simp [mksUn]
theorem mksUn_at (k : Int) (n i : Nat) (h : i < (mksUn k n).length) : (mksUn k n)[i] = mkUn (k + 2 * (i : Int)) := by simp [mksUn]

set_option maxRecDepth 100000 in
set_option maxHeartbeats 3200000 in
theorem markUnitS_any (v : Value) (n : Nat) (k : Int) (lo hi : Nat) (e : TypeId) (xs : List Value) (w : World) (h : Ow lo hi w e 2 v n xs) (hn : n ≤ 1048576) (hk : 1 ≤ k ∧ k ≤ 4194304) (hlo : lo ≤ w.heap.size) :
    Calls Try.prog 27 #[v, .int .i64 k] w fun en w' => en = .returned (.int .i64 (k + 2 * n)) ∧ Ow lo hi w' e 2 v n (flatC unC (mksUn k n)) ∧ Btw lo hi w w' := by
  obtain ⟨hk0, hk1⟩ := hk
  have h' := h
  rcases h.1.2 with ⟨rfl, h0⟩ | ⟨g, cap, cur, rfl, hb, hg, hnc, hc, hsz, ht⟩
  · subst h0
    go_enter Try.func27, Try.ntmps27
    go_wp2_with fail
    go_loopw [5, 1] (fun i kk wr => i = .int .i64 0 ∧ kk = .int .i64 k ∧ wr = w) (fun i _ _ => 0)
    case atStart => exact ⟨rfl, rfl, rfl⟩
    case round =>
      obtain ⟨rfl, rfl, rfl⟩ := hrel
      go_wp2_with fail
      go_ret
      have e0 : xs = [] := List.length_eq_zero_iff.1 (by simpa using h'.1.1)
      subst e0
      exact ⟨by simp, h', Btw.refl _ _ _⟩
  · have HO := Lib.hid h'
    have HX := Lib.hid h'.1.1
    have HG : Hid (lo ≤ g ∧ g < hi) := Lib.hid ⟨hb, h'.2 g rfl⟩
    clear h h' hb hg hnc hc hsz ht
    go_enter Try.func27, Try.ntmps27
    go_wp2_with fail
    go_loopw [5, 1] (fun i kk wr => ∃ (m : Nat) (ys : List Value), m ≤ n ∧ i = .int .i64 m ∧ kk = .int .i64 (k + 2 * (m : Int)) ∧ ys.length = n * 2 ∧ (∀ (i : Nat), i < m → ∀ j, j < 2 → ys[i * 2 + j]? = (unC (mkUn (k + 2 * (i : Int))))[j]?) ∧ Ow lo hi wr e 2 (.slice (some ⟨g, 0, none⟩) n cap) n ys ∧ Btw lo hi w wr) (fun i _ _ => n - (intOf i).toNat)
    case atStart => exact ⟨0, xs, Nat.zero_le _, rfl, by simp, HX.out, fun i hi => absurd hi (by omega), HO.out, Btw.refl _ _ _⟩
    case round =>
      obtain ⟨m, ys, hm, rfl, rfl, hyl, hpre, how, hbt⟩ := hrel
      have HW0 := Lib.hid how
      have HB0 := Lib.hid hbt
      have HP := Lib.hid hpre
      have HL := Lib.hid hyl
      by_cases hlt : m < n
      · have z1 : (0 : Int) ≤ (m : Int) := by omega
        have z2 : (m : Int) < (n : Int) := by omega
        clear how hbt hpre hyl
        have hq0 : ys.length = n * 2 := HL.out
        go_wp2_with fail
        have HWs0 := Lib.hid HW0.out
        have HBs0 := Lib.hid HB0.out
        generalize wr = w10 at HWs0 HBs0 ⊢
        have hsz1 : lo ≤ (w10).heap.size := Nat.le_trans hlo HBs0.out.size
        refine (markText_any (k + 2 * (m : Int)) _ ⟨by omega, by omega⟩).mono ?_
        rintro e' w21 ⟨rfl, hb1⟩
        have HWc1 := Lib.hid (HWs0.out.next hb1)
        have HBc1 := Lib.hid (HBs0.out.of_below hb1 hsz1)
        clear hb1 hsz1
        obtain ⟨u0, d0⟩ : ∃ u, (w21).cell? ⟨g, m * 2, none⟩ = some u := ⟨_, (HWc1.out.1.cellAt (m * 2 + 0) (by omega)).trans (List.getElem?_eq_getElem (by (try simp only [List.length_set]); omega))⟩
        have f0 : (w21).frozen? ⟨g, m * 2, none⟩ = false := HWc1.out.1.frozenAt _
        obtain ⟨u1, d1⟩ : ∃ u, (w21).cell? ⟨g, m * 2 + 1, none⟩ = some u := ⟨_, (HWc1.out.1.cellAt (m * 2 + 1) (by omega)).trans (List.getElem?_eq_getElem (by (try simp only [List.length_set]); omega))⟩
        have f1 : (w21).frozen? ⟨g, m * 2 + 1, none⟩ = false := HWc1.out.1.frozenAt _
        go_wp2_with fail
        have HWs1 := Lib.hid ((HWc1.out.stored (m * 2) (.string (mT (k + 2 * (m : Int))))).stored (m * 2 + 1) (.int .i64 (k + 2 * (m : Int) + 1)))
        have HBs1 := Lib.hid ((HBc1.out.setCell (p := ⟨g, m * 2, none⟩) HG.out.1 HG.out.2 (.string (mT (k + 2 * (m : Int))))).setCell (p := ⟨g, m * 2 + 1, none⟩) HG.out.1 HG.out.2 (.int .i64 (k + 2 * (m : Int) + 1)))
        go_roundw
        case rel =>
          refine ⟨m + 1, ((ys.set (m * 2) (.string (mT (k + 2 * (m : Int))))).set (m * 2 + 1) (.int .i64 (k + 2 * (m : Int) + 1))), by omega, by go_num, by congr 1; omega, by simp only [List.length_set]; exact HL.out, fun i hi j hj => ?_, HWs1.out, HBs1.out⟩
          have hl := HL.out
          by_cases e : i = m
          · subst e
            have hj' : j = 0 ∨ j = 1 := by omega
            rcases hj' with rfl | rfl
            · simp only [Nat.add_zero]
              rw [List.getElem?_set_ne (by omega), List.getElem?_set_self (by (try simp only [List.length_set]); omega)]; rfl
            · rw [List.getElem?_set_self (by (try simp only [List.length_set]); omega)]; rfl
          · rw [List.getElem?_set_ne (by omega), List.getElem?_set_ne (by omega)]
            exact HP.out i (by omega) j hj
        case measure => simp [intOf]; omega
      · have hmn : m = n := by omega
        subst hmn
        have hz := flatC_of unC_len (by omega) ys (mksUn k m) (by rw [mksUn_len]; exact hyl) (fun i hi j hj => by rw [mksUn_at]; exact hpre i (by rw [mksUn_len] at hi; exact hi) j hj)
        clear how hbt hpre hyl
        go_wp2_with fail
        go_ret
        exact ⟨rfl, hz ▸ HW0.out, HB0.out⟩

end Go.Proofs.Ytlmnbecfaaeohaa
