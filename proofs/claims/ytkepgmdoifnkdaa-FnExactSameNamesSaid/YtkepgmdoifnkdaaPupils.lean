/- The law's helpers on Pupil and slices of it: compare, copy, measure. -/
import Derived.Test.YtkepgmdoifnkdaaKa
import Derived.Test.YtkepgmdoifnkdaaMtext
import Derived.Deep.RegionHeld3
import Derived.Deep.QuietTactic
import Derived.BigQuiet
import Derived.StillTailTactics
namespace Go.Proofs.Ytkepgmdoifnkdaa
set_option linter.unusedVariables false
open Go.RowKit

structure Pu where
  id : Int
  name : ByteArray
  born : Int
  cls : Int
  lvl : Int

def puV (p : Pu) : Value := .agg #[.int .i64 p.id, .string p.name, .int .i64 p.born, .int .i64 p.cls, .int .i64 p.lvl]
def puC (p : Pu) : List Value := [.int .i64 p.id, .string p.name, .int .i64 p.born, .int .i64 p.cls, .int .i64 p.lvl]
theorem puC_len (p : Pu) : (puC p).length = 5 := rfl

set_option maxRecDepth 100000 in
set_option maxHeartbeats 1600000 in
theorem eqPupil_yes (p : Pu) (w : World) :
    Calls Try.prog 54 #[puV p, puV p] w fun e w' => e = .returned (.bool true) ∧ Below w.heap.size w w' := by
  obtain ⟨id, name, born, cls, lvl⟩ := p
  show Calls Try.prog 54 #[.agg #[.int .i64 id, .string name, .int .i64 born, .int .i64 cls, .int .i64 lvl], .agg #[.int .i64 id, .string name, .int .i64 born, .int .i64 cls, .int .i64 lvl]] w fun e w' => e = .returned (.bool true) ∧ Below w.heap.size w w'
  have hsname : (!name.toList == name.toList) = false := by simp
  go_enter Try.func54, Try.ntmps54
  go_wp2_with fail
  go_ret
  exact ⟨rfl, ((Below.refl _ _).alloc (Nat.le_refl _) _).alloc (by simp) _⟩

set_option maxRecDepth 100000 in
set_option maxHeartbeats 1600000 in
theorem toPupil_any (p : Pu) (w : World) :
    Calls Try.prog 16 #[puV p] w fun e w' => e = .returned (puV p) ∧ Below w.heap.size w w' := by
  obtain ⟨id, name, born, cls, lvl⟩ := p
  show Calls Try.prog 16 #[.agg #[.int .i64 id, .string name, .int .i64 born, .int .i64 cls, .int .i64 lvl]] w fun e w' => e = .returned (.agg #[.int .i64 id, .string name, .int .i64 born, .int .i64 cls, .int .i64 lvl]) ∧ Below w.heap.size w w'
  go_enter Try.func16, Try.ntmps16
  go_wp2_with fail
  exact bodyPost_ret (v := .agg #[.int .i64 id, .string name, .int .i64 born, .int .i64 cls, .int .i64 lvl]) (by simp [results, Try.results16, go_sem]) rfl ⟨rfl, (((Below.refl _ _).alloc (Nat.le_refl _) _).alloc (by simp) _).alloc (by simp; omega) _⟩

set_option maxRecDepth 100000 in
set_option maxHeartbeats 1600000 in
theorem eqPupilS_yes (v1 v2 : Value) (ps : List Pu) (w : World) (h1 : RowsR 5 puC w v1 ps) (h2 : RowsR 5 puC w v2 ps) :
    Calls Try.prog 22 #[v1, v2] w fun e w' => e = .returned (.bool true) ∧ Below w.heap.size w w' := by
  have hm : ps.length ≤ 9223372036854775807 := by obtain ⟨_, _, _, ⟨m, _⟩, _⟩ := h1; exact m
  obtain ⟨a1, c1, rfl⟩ := h1.form
  obtain ⟨a2, c2, rfl⟩ := h2.form
  have R1 := Lib.hid h1.at
  have R2 := Lib.hid h2.at
  clear h1 h2
  go_enter Try.func22, Try.ntmps22
  go_wp2_with fail
  go_loopw [5] (fun i wr => ∃ k : Nat, k ≤ ps.length ∧ i = .int .i64 k ∧ Below w.heap.size w wr) (fun i _ => ps.length - (intOf i).toNat)
  case atStart => exact ⟨0, Nat.zero_le _, rfl, Below.refl _ _⟩
  case round =>
    obtain ⟨k, hk, rfl, hb⟩ := hrel
    by_cases hlt : k < ps.length
    · obtain ⟨b1, o1, rfl, l1, k1⟩ := R1.out _ hb k hlt
      obtain ⟨b2, o2, rfl, l2, k2⟩ := R2.out _ hb k hlt
      have p0 : wr.cell? ⟨b1, o1 + k * 5, none⟩ = some (.int .i64 ps[k].id) := k1 0 (by omega)
      have q0 : wr.cell? ⟨b2, o2 + k * 5, none⟩ = some (.int .i64 ps[k].id) := k2 0 (by omega)
      have p1 : wr.cell? ⟨b1, o1 + k * 5 + 1, none⟩ = some (.string ps[k].name) := k1 1 (by omega)
      have q1 : wr.cell? ⟨b2, o2 + k * 5 + 1, none⟩ = some (.string ps[k].name) := k2 1 (by omega)
      have p2 : wr.cell? ⟨b1, o1 + k * 5 + 2, none⟩ = some (.int .i64 ps[k].born) := k1 2 (by omega)
      have q2 : wr.cell? ⟨b2, o2 + k * 5 + 2, none⟩ = some (.int .i64 ps[k].born) := k2 2 (by omega)
      have p3 : wr.cell? ⟨b1, o1 + k * 5 + 3, none⟩ = some (.int .i64 ps[k].cls) := k1 3 (by omega)
      have q3 : wr.cell? ⟨b2, o2 + k * 5 + 3, none⟩ = some (.int .i64 ps[k].cls) := k2 3 (by omega)
      have p4 : wr.cell? ⟨b1, o1 + k * 5 + 4, none⟩ = some (.int .i64 ps[k].lvl) := k1 4 (by omega)
      have q4 : wr.cell? ⟨b2, o2 + k * 5 + 4, none⟩ = some (.int .i64 ps[k].lvl) := k2 4 (by omega)
      have z1 : (0 : Int) ≤ (k : Int) := by omega
      have z2 : (k : Int) < (ps.length : Int) := by omega
      clear k1 k2
      go_wp2_with fail
      go_still_tail 8, (by kernel_rfl)
      change wpList _ _ _ _ _ wr.drew
      have hb2 := hb.drew
      generalize wr.drew = w2 at hb2 ⊢
      clear p0 q0 p1 q1 p2 q2 p3 q3 p4 q4 hb
      go_wp2_with fail
      refine (eqPupil_yes ps[k] _).mono ?_
      rintro e w3 ⟨rfl, hb3⟩
      go_wp2_with fail
      go_roundw
      case rel => exact ⟨k + 1, by omega, by go_num, hb2.trans (hb3.mono hb2.size)⟩
      case measure => simp [intOf]; omega
    · go_wp2_with fail
      go_ret
      exact ⟨rfl, hb⟩

theorem Try.infoPupil : (Try.prog.info? 26).map (fun i => (i.zero, i.size, i.bytes)) = some (some (.agg #[.int .i64 0, .string ⟨#[]⟩, .int .i64 0, .int .i64 0, .int .i64 0]), 5, 48) := by kernel_rfl

set_option maxRecDepth 100000 in
set_option maxHeartbeats 1600000 in
theorem toPupilS_any (v : Value) (ps : List Pu) (w : World) (h : RowsR 5 puC w v ps) (hn : ps.length ≤ 1048576) :
    Calls Try.prog 20 #[v] w fun e w' => (∃ v', e = .returned v' ∧ w'.ownsRow w.heap.size 26 5 v' ps.length (flatC puC ps)) ∧ Below w.heap.size w w' := by
  obtain ⟨i0, hi, hz0, hz1, hz2⟩ := info_parts Try.infoPupil
  obtain ⟨a, cp, rfl⟩ := h.form
  have R1 := Lib.hid h.at
  clear h
  go_enter Try.func20, Try.ntmps20
  go_wp2_with (at_make; refine wpList_make_full _ rfl _ _ 32 rfl w.heap.size 26 i0 (.agg #[.int .i64 0, .string ⟨#[]⟩, .int .i64 0, .int .i64 0, .int .i64 0]) 5 Try.underlying32 hi hz0 hz1 _ _ _ _ ps.length rfl rfl rfl rfl ?b2 ?b3 (Nat.le_refl _) ?_)
  case b2 => rw [hz2]; omega
  case b3 => unfold maxLen; omega
  intro w0 hown0 hgrow0
  have HO0 := Lib.hid hown0
  have HG0 := Lib.hid hgrow0
  clear hown0 hgrow0
  go_wp2
  go_loopw [4] (fun i wr => ∃ (k : Nat) (xs : List Value), k ≤ ps.length ∧ i = .int .i64 k ∧ xs.length = ps.length * 5 ∧ (∀ (i : Nat) (h : i < ps.length), i < k → ∀ j, j < 5 → xs[i * 5 + j]? = (puC ps[i])[j]?) ∧ wr.ownsRow w.heap.size 26 5 (.slice (some ⟨w.heap.size, 0, none⟩) ps.length ps.length) ps.length xs ∧ Below w.heap.size w wr) (fun i _ => ps.length - (intOf i).toNat)
  case atStart => exact ⟨0, _, Nat.zero_le _, rfl, by have := HO0.out.1; omega, fun i _ h => by omega, HO0.out, (Below.refl _ _).grown HG0.out (Nat.le_refl _) (fun k h => by cases h)⟩
  case round =>
    obtain ⟨k, xs, hk, rfl, hxl, hpre, hown, hb⟩ := hrel
    have HO := Lib.hid hown
    have HP := Lib.hid hpre
    have HX := Lib.hid hxl
    by_cases hlt : k < ps.length
    · obtain ⟨b1, o1, rfl, l1, k1⟩ := R1.out _ hb k hlt
      have p0 : wr.cell? ⟨b1, o1 + k * 5, none⟩ = some (.int .i64 ps[k].id) := k1 0 (by omega)
      have p1 : wr.cell? ⟨b1, o1 + k * 5 + 1, none⟩ = some (.string ps[k].name) := k1 1 (by omega)
      have p2 : wr.cell? ⟨b1, o1 + k * 5 + 2, none⟩ = some (.int .i64 ps[k].born) := k1 2 (by omega)
      have p3 : wr.cell? ⟨b1, o1 + k * 5 + 3, none⟩ = some (.int .i64 ps[k].cls) := k1 3 (by omega)
      have p4 : wr.cell? ⟨b1, o1 + k * 5 + 4, none⟩ = some (.int .i64 ps[k].lvl) := k1 4 (by omega)
      have z1 : (0 : Int) ≤ (k : Int) := by omega
      have z2 : (k : Int) < (ps.length : Int) := by omega
      clear k1 hown hpre hxl
      go_wp2_with fail
      refine (toPupil_any ps[k] _).mono ?_
      rintro e w2 ⟨rfl, hb2⟩
      have HO2 := Lib.hid (own_below HO.out hb2)
      have HB2 : Hid (Below w.heap.size w w2) := Lib.hid (hb.trans (hb2.mono hb.size))
      obtain ⟨u0, d0⟩ : ∃ u, w2.cell? ⟨w.heap.size, k * 5, none⟩ = some u := ⟨_, (HO2.out.cellAt (k * 5 + 0) (by omega)).trans (List.getElem?_eq_getElem (by have := HX.out; omega))⟩
      have f0 : w2.frozen? ⟨w.heap.size, k * 5, none⟩ = false := HO2.out.frozenAt _
      obtain ⟨u1, d1⟩ : ∃ u, w2.cell? ⟨w.heap.size, k * 5 + 1, none⟩ = some u := ⟨_, (HO2.out.cellAt (k * 5 + 1) (by omega)).trans (List.getElem?_eq_getElem (by have := HX.out; omega))⟩
      have f1 : w2.frozen? ⟨w.heap.size, k * 5 + 1, none⟩ = false := HO2.out.frozenAt _
      obtain ⟨u2, d2⟩ : ∃ u, w2.cell? ⟨w.heap.size, k * 5 + 2, none⟩ = some u := ⟨_, (HO2.out.cellAt (k * 5 + 2) (by omega)).trans (List.getElem?_eq_getElem (by have := HX.out; omega))⟩
      have f2 : w2.frozen? ⟨w.heap.size, k * 5 + 2, none⟩ = false := HO2.out.frozenAt _
      obtain ⟨u3, d3⟩ : ∃ u, w2.cell? ⟨w.heap.size, k * 5 + 3, none⟩ = some u := ⟨_, (HO2.out.cellAt (k * 5 + 3) (by omega)).trans (List.getElem?_eq_getElem (by have := HX.out; omega))⟩
      have f3 : w2.frozen? ⟨w.heap.size, k * 5 + 3, none⟩ = false := HO2.out.frozenAt _
      obtain ⟨u4, d4⟩ : ∃ u, w2.cell? ⟨w.heap.size, k * 5 + 4, none⟩ = some u := ⟨_, (HO2.out.cellAt (k * 5 + 4) (by omega)).trans (List.getElem?_eq_getElem (by have := HX.out; omega))⟩
      have f4 : w2.frozen? ⟨w.heap.size, k * 5 + 4, none⟩ = false := HO2.out.frozenAt _
      clear hb2 p0 p1 p2 p3 p4 hb
      unfold puV
      go_wp2_with fail
      go_roundw
      case rel =>
        refine ⟨k + 1, ((((xs.set (k * 5) (.int .i64 ps[k].id)).set (k * 5 + 1) (.string ps[k].name)).set (k * 5 + 2) (.int .i64 ps[k].born)).set (k * 5 + 3) (.int .i64 ps[k].cls)).set (k * 5 + 4) (.int .i64 ps[k].lvl), by omega, by go_num, by simp only [List.length_set]; exact HX.out, fun i h hi j hj => ?_, (((((HO2.out.stored (k * 5) _).1.stored (k * 5 + 1) _).1.stored (k * 5 + 2) _).1.stored (k * 5 + 3) _).1.stored (k * 5 + 4) _).1, ((((HB2.out.setCell (Nat.le_refl _) _).setCell (Nat.le_refl _) _).setCell (Nat.le_refl _) _).setCell (Nat.le_refl _) _).setCell (Nat.le_refl _) _⟩
        have hx := HX.out
        by_cases e : i = k
        · subst e
          have hj' : j = 0 ∨ j = 1 ∨ j = 2 ∨ j = 3 ∨ j = 4 := by omega
          rcases hj' with rfl | rfl | rfl | rfl | rfl
          · simp only [Nat.add_zero]
            rw [List.getElem?_set_ne (by omega), List.getElem?_set_ne (by omega), List.getElem?_set_ne (by omega), List.getElem?_set_ne (by omega), List.getElem?_set_self (by (try simp only [List.length_set]); omega)]; rfl
          · rw [List.getElem?_set_ne (by omega), List.getElem?_set_ne (by omega), List.getElem?_set_ne (by omega), List.getElem?_set_self (by (try simp only [List.length_set]); omega)]; rfl
          · rw [List.getElem?_set_ne (by omega), List.getElem?_set_ne (by omega), List.getElem?_set_self (by (try simp only [List.length_set]); omega)]; rfl
          · rw [List.getElem?_set_ne (by omega), List.getElem?_set_self (by (try simp only [List.length_set]); omega)]; rfl
          · rw [List.getElem?_set_self (by (try simp only [List.length_set]); omega)]; rfl
        · rw [List.getElem?_set_ne (by omega), List.getElem?_set_ne (by omega), List.getElem?_set_ne (by omega), List.getElem?_set_ne (by omega), List.getElem?_set_ne (by omega)]
          exact HP.out i h (by omega) j hj
      case measure => simp [intOf]; omega
    · have HXS := Lib.hid (flatC_of puC_len (by omega) xs ps hxl (fun i h j hj => hpre i h (by omega) j hj))
      clear hown hpre hxl
      go_wp2_with fail
      go_ret
      exact ⟨⟨_, rfl, HXS.out ▸ HO.out⟩, hb⟩

def szPu (p : Pu) : Nat := p.name.size
def szsPu : List Pu → Nat
  | [] => 0
  | p :: t => szPu p + szsPu t
theorem szsPu_app (a b : List Pu) : szsPu (a ++ b) = szsPu a + szsPu b := by
  induction a with
  | nil => simp [szsPu]
  | cons x t ih => simp [szsPu, ih]; omega
theorem szsPu_mem (ps : List Pu) : ∀ p ∈ ps, szPu p ≤ szsPu ps := by
  induction ps with
  | nil => intro p h; cases h
  | cons x t ih =>
    intro p h
    rw [szsPu]
    rcases List.mem_cons.1 h with rfl | h
    · omega
    · have := ih p h; omega

set_option maxRecDepth 100000 in
set_option maxHeartbeats 1600000 in
theorem szPupil_any (p : Pu) (left : Int) (w : World) (h0 : 0 ≤ left) (h1 : left ≤ 1048576) (hs : p.name.size ≤ maxLen) :
    Calls Try.prog 14 #[puV p, .int .i64 left] w fun e w' => (∃ r : Int, e = .returned (.int .i64 r) ∧ r ≤ 1048576 ∧ (0 ≤ r → r + szPu p = left)) ∧ Below w.heap.size w w' := by
  obtain ⟨id, name, born, cls, lvl⟩ := p
  have hs1 : name.size ≤ 9223372036854775807 := hs
  show Calls Try.prog 14 #[.agg #[.int .i64 id, .string name, .int .i64 born, .int .i64 cls, .int .i64 lvl], .int .i64 left] w fun e w' => (∃ r : Int, e = .returned (.int .i64 r) ∧ r ≤ 1048576 ∧ (0 ≤ r → r + name.size = left)) ∧ Below w.heap.size w w'
  by_cases hlt : left < name.size
  · go_enter Try.func14, Try.ntmps14
    go_wp2_with fail
    go_ret
    exact ⟨⟨_, rfl, by omega, fun h => by omega⟩, (Below.refl _ _).alloc (Nat.le_refl _) _⟩
  · go_enter Try.func14, Try.ntmps14
    go_wp2_with fail
    go_ret
    exact ⟨⟨_, rfl, by omega, fun h => by omega⟩, (Below.refl _ _).alloc (Nat.le_refl _) _⟩

set_option maxRecDepth 100000 in
set_option maxHeartbeats 1600000 in
theorem szPupilS_any (v : Value) (ps : List Pu) (left : Int) (w : World) (h : RowsR 5 puC w v ps) (hs : ∀ p ∈ ps, p.name.size ≤ maxLen) (h0 : 0 ≤ left) (h1 : left ≤ 1048576) :
    Calls Try.prog 18 #[v, .int .i64 left] w fun e w' => (∃ r : Int, e = .returned (.int .i64 r) ∧ r ≤ 1048576 ∧ (0 ≤ r → r + ps.length + szsPu ps = left)) ∧ Below w.heap.size w w' := by
  have hm : ps.length ≤ 9223372036854775807 := by obtain ⟨_, _, _, ⟨m, _⟩, _⟩ := h; exact m
  obtain ⟨a, cp, rfl⟩ := h.form
  have R1 := Lib.hid h.at
  have HS := Lib.hid hs
  clear h hs
  by_cases hlt : left < ps.length
  · go_enter Try.func18, Try.ntmps18
    go_wp2_with fail
    go_ret
    exact ⟨⟨_, rfl, by omega, fun h => by omega⟩, Below.refl _ _⟩
  go_enter Try.func18, Try.ntmps18
  go_wp2_with fail
  go_loopw [5, 1] (fun i lf wr => ∃ (k : Nat) (l : Int), k ≤ ps.length ∧ i = .int .i64 k ∧ lf = .int .i64 l ∧ 0 ≤ l ∧ l + ps.length + szsPu (ps.take k) = left ∧ Below w.heap.size w wr) (fun i _ _ => ps.length - (intOf i).toNat)
  case atStart => exact ⟨0, left - ps.length, Nat.zero_le _, rfl, rfl, by omega, by simp [szsPu], Below.refl _ _⟩
  case round =>
    obtain ⟨k, l, hk, rfl, rfl, hl0, hl1, hb⟩ := hrel
    by_cases hk2 : k < ps.length
    · obtain ⟨b1, o1, rfl, l1, k1⟩ := R1.out _ hb k hk2
      have p0 : wr.cell? ⟨b1, o1 + k * 5, none⟩ = some (.int .i64 ps[k].id) := k1 0 (by omega)
      have p1 : wr.cell? ⟨b1, o1 + k * 5 + 1, none⟩ = some (.string ps[k].name) := k1 1 (by omega)
      have p2 : wr.cell? ⟨b1, o1 + k * 5 + 2, none⟩ = some (.int .i64 ps[k].born) := k1 2 (by omega)
      have p3 : wr.cell? ⟨b1, o1 + k * 5 + 3, none⟩ = some (.int .i64 ps[k].cls) := k1 3 (by omega)
      have p4 : wr.cell? ⟨b1, o1 + k * 5 + 4, none⟩ = some (.int .i64 ps[k].lvl) := k1 4 (by omega)
      have z1 : (0 : Int) ≤ (k : Int) := by omega
      have z2 : (k : Int) < (ps.length : Int) := by omega
      have hsn : szsPu (ps.take (k + 1)) = szsPu (ps.take k) + szPu ps[k] := by rw [List.take_succ_eq_append_getElem hk2, szsPu_app]; simp [szsPu]
      have HSN := Lib.hid hsn
      have HL1 := Lib.hid hl1
      have hl2 : l ≤ 1048576 := by omega
      clear k1 hsn hl1
      go_wp2_with fail
      refine (szPupil_any ps[k] l _ hl0 hl2 (HS.out _ (List.getElem_mem hk2))).mono ?_
      rintro e w2 ⟨⟨r, rfl, hr1, hr2⟩, hb2⟩
      have HB2 := Lib.hid (hb.trans (hb2.mono hb.size))
      clear hb hb2 p0 p1 p2 p3 p4
      by_cases hr : r < 0
      · go_wp2_with fail
        go_ret
        exact ⟨⟨_, rfl, by omega, fun h => by omega⟩, HB2.out⟩
      · have hr0 : 0 ≤ r := by omega
        have hr3 := hr2 hr0
        have HR3 := Lib.hid hr3
        clear hr2 hr3
        go_wp2_with fail
        go_roundw
        case rel => exact ⟨k + 1, r, by omega, by go_num, rfl, hr0, by have := HR3.out; have := HL1.out; have := HSN.out; omega, HB2.out⟩
        case measure => simp [intOf]; omega
    · have HT : Hid (szsPu (ps.take k) = szsPu ps) := Lib.hid (by rw [List.take_of_length_le (by omega)])
      have HL1 := Lib.hid hl1
      have hl2 : l ≤ 1048576 := by omega
      clear hl1
      go_wp2_with fail
      go_ret
      exact ⟨⟨_, rfl, by omega, fun h => by have := HL1.out; have := HT.out; omega⟩, hb⟩

def mkPu (k : Int) : Pu := { id := k, name := mT (k + 1), born := k + 1 + 1, cls := k + 1 + 1 + 1, lvl := k + 1 + 1 + 1 + 1 }
def mksPu (k : Int) (n : Nat) : List Pu := (List.range n).map fun (i : Nat) => mkPu (k + 5 * (i : Int))
theorem mksPu_len (k : Int) (n : Nat) : (mksPu k n).length = n := by simp [mksPu]
theorem mksPu_at (k : Int) (n i : Nat) (h : i < (mksPu k n).length) : (mksPu k n)[i] = mkPu (k + 5 * (i : Int)) := by simp [mksPu]

set_option maxRecDepth 100000 in
set_option maxHeartbeats 3200000 in
theorem markPupilS_any (v : Value) (n : Nat) (k : Int) (lo hi : Nat) (e : TypeId) (xs : List Value) (w : World) (h : Ow lo hi w e 5 v n xs) (hn : n ≤ 1048576) (hk : 1 ≤ k ∧ k ≤ 1000) (hlo : lo ≤ w.heap.size) :
    Calls Try.prog 26 #[v, .int .i64 k] w fun en w' => en = .returned (.int .i64 (k + 5 * n)) ∧ Ow lo hi w' e 5 v n (flatC puC (mksPu k n)) ∧ Btw lo hi w w' := by
  obtain ⟨hk0, hk1⟩ := hk
  have h' := h
  rcases h.1.2 with ⟨rfl, h0⟩ | ⟨g, cap, cur, rfl, hb, hg, hnc, hc, hsz, ht⟩
  · subst h0
    go_enter Try.func26, Try.ntmps26
    go_wp2_with fail
    go_loopw [5, 1] (fun i kk wr => i = .int .i64 0 ∧ kk = .int .i64 k ∧ wr = w) (fun i _ _ => 0)
    case atStart => exact ⟨rfl, rfl, rfl⟩
    case round =>
      obtain ⟨rfl, rfl, rfl⟩ := hrel
      go_wp2_with fail
      go_ret
      have e0 : xs = [] := List.length_eq_zero_iff.1 (by simpa using h'.1.1)
      subst e0
      exact ⟨by simp, h', Btw.refl _ _ _⟩
  · have HO := Lib.hid h'
    have HX := Lib.hid h'.1.1
    have HG : Hid (lo ≤ g ∧ g < hi) := Lib.hid ⟨hb, h'.2 g rfl⟩
    clear h h' hb hg hnc hc hsz ht
    go_enter Try.func26, Try.ntmps26
    go_wp2_with fail
    go_loopw [5, 1] (fun i kk wr => ∃ (m : Nat) (ys : List Value), m ≤ n ∧ i = .int .i64 m ∧ kk = .int .i64 (k + 5 * (m : Int)) ∧ ys.length = n * 5 ∧ (∀ (i : Nat), i < m → ∀ j, j < 5 → ys[i * 5 + j]? = (puC (mkPu (k + 5 * (i : Int))))[j]?) ∧ Ow lo hi wr e 5 (.slice (some ⟨g, 0, none⟩) n cap) n ys ∧ Btw lo hi w wr) (fun i _ _ => n - (intOf i).toNat)
    case atStart => exact ⟨0, xs, Nat.zero_le _, rfl, by simp, HX.out, fun i hi => absurd hi (by omega), HO.out, Btw.refl _ _ _⟩
    case round =>
      obtain ⟨m, ys, hm, rfl, rfl, hyl, hpre, how, hbt⟩ := hrel
      have HW0 := Lib.hid how
      have HB0 := Lib.hid hbt
      have HP := Lib.hid hpre
      have HL := Lib.hid hyl
      by_cases hlt : m < n
      · have z1 : (0 : Int) ≤ (m : Int) := by omega
        have z2 : (m : Int) < (n : Int) := by omega
        clear how hbt hpre hyl
        have hq0 : ys.length = n * 5 := HL.out
        obtain ⟨u0, d0⟩ : ∃ u, (wr).cell? ⟨g, m * 5, none⟩ = some u := ⟨_, (HW0.out.1.cellAt (m * 5 + 0) (by omega)).trans (List.getElem?_eq_getElem (by (try simp only [List.length_set]); omega))⟩
        have f0 : (wr).frozen? ⟨g, m * 5, none⟩ = false := HW0.out.1.frozenAt _
        go_wp2_with fail
        have HWs0 := Lib.hid (HW0.out.stored (m * 5) (.int .i64 (k + 5 * (m : Int))))
        have HBs0 := Lib.hid (HB0.out.setCell (p := ⟨g, m * 5, none⟩) HG.out.1 HG.out.2 (.int .i64 (k + 5 * (m : Int))))
        generalize (wr.setCell ⟨g, m * 5, none⟩ (.int .i64 (k + 5 * (m : Int)))) = w10 at HWs0 HBs0 ⊢
        clear d0 f0
        have hsz1 : lo ≤ (w10).heap.size := Nat.le_trans hlo HBs0.out.size
        refine (markText_any (k + 5 * (m : Int) + 1) _ ⟨by omega, by omega⟩).mono ?_
        rintro e' w21 ⟨rfl, hb1⟩
        have HWc1 := Lib.hid (HWs0.out.next hb1)
        have HBc1 := Lib.hid (HBs0.out.of_below hb1 hsz1)
        clear hb1 hsz1
        obtain ⟨u1, d1⟩ : ∃ u, (w21).cell? ⟨g, m * 5 + 1, none⟩ = some u := ⟨_, (HWc1.out.1.cellAt (m * 5 + 1) (by omega)).trans (List.getElem?_eq_getElem (by (try simp only [List.length_set]); omega))⟩
        have f1 : (w21).frozen? ⟨g, m * 5 + 1, none⟩ = false := HWc1.out.1.frozenAt _
        obtain ⟨u2, d2⟩ : ∃ u, (w21).cell? ⟨g, m * 5 + 2, none⟩ = some u := ⟨_, (HWc1.out.1.cellAt (m * 5 + 2) (by omega)).trans (List.getElem?_eq_getElem (by (try simp only [List.length_set]); omega))⟩
        have f2 : (w21).frozen? ⟨g, m * 5 + 2, none⟩ = false := HWc1.out.1.frozenAt _
        obtain ⟨u3, d3⟩ : ∃ u, (w21).cell? ⟨g, m * 5 + 3, none⟩ = some u := ⟨_, (HWc1.out.1.cellAt (m * 5 + 3) (by omega)).trans (List.getElem?_eq_getElem (by (try simp only [List.length_set]); omega))⟩
        have f3 : (w21).frozen? ⟨g, m * 5 + 3, none⟩ = false := HWc1.out.1.frozenAt _
        obtain ⟨u4, d4⟩ : ∃ u, (w21).cell? ⟨g, m * 5 + 4, none⟩ = some u := ⟨_, (HWc1.out.1.cellAt (m * 5 + 4) (by omega)).trans (List.getElem?_eq_getElem (by (try simp only [List.length_set]); omega))⟩
        have f4 : (w21).frozen? ⟨g, m * 5 + 4, none⟩ = false := HWc1.out.1.frozenAt _
        go_wp2_with fail
        have HWs1 := Lib.hid ((((HWc1.out.stored (m * 5 + 1) (.string (mT (k + 5 * (m : Int) + 1)))).stored (m * 5 + 2) (.int .i64 (k + 5 * (m : Int) + 1 + 1))).stored (m * 5 + 3) (.int .i64 (k + 5 * (m : Int) + 1 + 1 + 1))).stored (m * 5 + 4) (.int .i64 (k + 5 * (m : Int) + 1 + 1 + 1 + 1)))
        have HBs1 := Lib.hid ((((HBc1.out.setCell (p := ⟨g, m * 5 + 1, none⟩) HG.out.1 HG.out.2 (.string (mT (k + 5 * (m : Int) + 1)))).setCell (p := ⟨g, m * 5 + 2, none⟩) HG.out.1 HG.out.2 (.int .i64 (k + 5 * (m : Int) + 1 + 1))).setCell (p := ⟨g, m * 5 + 3, none⟩) HG.out.1 HG.out.2 (.int .i64 (k + 5 * (m : Int) + 1 + 1 + 1))).setCell (p := ⟨g, m * 5 + 4, none⟩) HG.out.1 HG.out.2 (.int .i64 (k + 5 * (m : Int) + 1 + 1 + 1 + 1)))
        go_roundw
        case rel =>
          refine ⟨m + 1, (((((ys.set (m * 5) (.int .i64 (k + 5 * (m : Int)))).set (m * 5 + 1) (.string (mT (k + 5 * (m : Int) + 1)))).set (m * 5 + 2) (.int .i64 (k + 5 * (m : Int) + 1 + 1))).set (m * 5 + 3) (.int .i64 (k + 5 * (m : Int) + 1 + 1 + 1))).set (m * 5 + 4) (.int .i64 (k + 5 * (m : Int) + 1 + 1 + 1 + 1))), by omega, by go_num, by congr 1; omega, by simp only [List.length_set]; exact HL.out, fun i hi j hj => ?_, HWs1.out, HBs1.out⟩
          have hl := HL.out
          by_cases e : i = m
          · subst e
            have hj' : j = 0 ∨ j = 1 ∨ j = 2 ∨ j = 3 ∨ j = 4 := by omega
            rcases hj' with rfl | rfl | rfl | rfl | rfl
            · simp only [Nat.add_zero]
              rw [List.getElem?_set_ne (by omega), List.getElem?_set_ne (by omega), List.getElem?_set_ne (by omega), List.getElem?_set_ne (by omega), List.getElem?_set_self (by (try simp only [List.length_set]); omega)]; rfl
            · rw [List.getElem?_set_ne (by omega), List.getElem?_set_ne (by omega), List.getElem?_set_ne (by omega), List.getElem?_set_self (by (try simp only [List.length_set]); omega)]; rfl
            · rw [List.getElem?_set_ne (by omega), List.getElem?_set_ne (by omega), List.getElem?_set_self (by (try simp only [List.length_set]); omega)]; rfl
            · rw [List.getElem?_set_ne (by omega), List.getElem?_set_self (by (try simp only [List.length_set]); omega)]; rfl
            · rw [List.getElem?_set_self (by (try simp only [List.length_set]); omega)]; rfl
          · rw [List.getElem?_set_ne (by omega), List.getElem?_set_ne (by omega), List.getElem?_set_ne (by omega), List.getElem?_set_ne (by omega), List.getElem?_set_ne (by omega)]
            exact HP.out i (by omega) j hj
        case measure => simp [intOf]; omega
      · have hmn : m = n := by omega
        subst hmn
        have hz := flatC_of puC_len (by omega) ys (mksPu k m) (by rw [mksPu_len]; exact hyl) (fun i hi j hj => by rw [mksPu_at]; exact hpre i (by rw [mksPu_len] at hi; exact hi) j hj)
        clear how hbt hpre hyl
        go_wp2_with fail
        go_ret
        exact ⟨rfl, hz ▸ HW0.out, HB0.out⟩

set_option maxRecDepth 100000 in
set_option maxHeartbeats 3200000 in
theorem heldPupilS_any (v : Value) (n : Nat) (k : Int) (w : World) (h : RowsR 5 puC w v (mksPu k n)) (hn : n ≤ 1048576) (hk : 1 ≤ k ∧ k ≤ 1000) :
    Calls Try.prog 31 #[v, .int .i64 k] w fun en w' => en = .returned (.int .i64 (k + 5 * n)) ∧ Below w.heap.size w w' := by
  obtain ⟨hk0, hk1⟩ := hk
  obtain ⟨a, cp, rfl⟩ := h.form
  have R1 : Hid (∀ w' : World, Below w.heap.size w w' → ∀ i, i < n → ∃ b off, a = some ⟨b, off, none⟩ ∧ b < w.heap.size ∧ ∀ j, j < 5 → w'.cell? ⟨b, off + i * 5 + j, none⟩ = (puC (mkPu (k + 5 * (i : Int))))[j]?) := Lib.hid (fun w' hb i hi => by
    obtain ⟨b, o, e1, e2, e3⟩ := h.at w' hb i (by rw [mksPu_len]; exact hi)
    exact ⟨b, o, e1, e2, fun j hj => by rw [e3 j hj, mksPu_at]⟩)
  clear h
  rw [mksPu_len]
  go_enter Try.func31, Try.ntmps31
  go_wp2_with fail
  go_loopw [5, 1] (fun i kk wr => ∃ (m : Nat), m ≤ n ∧ i = .int .i64 m ∧ kk = .int .i64 (k + 5 * (m : Int)) ∧ Below w.heap.size w wr) (fun i _ _ => n - (intOf i).toNat)
  case atStart => exact ⟨0, Nat.zero_le _, rfl, by simp, Below.refl _ _⟩
  case round =>
    obtain ⟨m, hm, rfl, rfl, hb⟩ := hrel
    by_cases hlt : m < n
    · obtain ⟨b1, o1, rfl, l1, k1⟩ := R1.out _ hb m hlt
      have z1 : (0 : Int) ≤ (m : Int) := by omega
      have z2 : (m : Int) < (n : Int) := by omega
      have HB0 := Lib.hid hb
      have p0 : wr.cell? ⟨b1, o1 + m * 5, none⟩ = some (.int .i64 (k + 5 * (m : Int))) := k1 0 (by omega)
      have p1 : wr.cell? ⟨b1, o1 + m * 5 + 1, none⟩ = some (.string (mT (k + 5 * (m : Int) + 1))) := k1 1 (by omega)
      have p2 : wr.cell? ⟨b1, o1 + m * 5 + 2, none⟩ = some (.int .i64 (k + 5 * (m : Int) + 1 + 1)) := k1 2 (by omega)
      have p3 : wr.cell? ⟨b1, o1 + m * 5 + 3, none⟩ = some (.int .i64 (k + 5 * (m : Int) + 1 + 1 + 1)) := k1 3 (by omega)
      have p4 : wr.cell? ⟨b1, o1 + m * 5 + 4, none⟩ = some (.int .i64 (k + 5 * (m : Int) + 1 + 1 + 1 + 1)) := k1 4 (by omega)
      have K1 := Lib.hid k1
      clear k1 hb
      go_wp2_with fail
      have hq : Below wr.heap.size wr wr.drew := (Below.refl _ _).drew
      have hss0 : (!(mT (k + 5 * (m : Int) + 1)).toList == (mT (k + 5 * (m : Int) + 1)).toList) = false := by simp
      go_region_held3 (fun w' => w'.cell? ⟨b1, o1 + m * 5 + 1, none⟩ = some (.string (mT (k + 5 * (m : Int) + 1))))
        (first
          | go_keep
          | exact (hq.cell (p := ⟨b1, o1 + m * 5 + 1, none⟩) (Nat.lt_of_lt_of_le l1 HB0.out.size)).trans p1)
        (first
          | (go_at_call 57; refine (markText_any (k + 5 * (m : Int) + 1) _ ⟨by omega, by omega⟩).mono ?_; rintro e' w20 ⟨rfl, hb'⟩; replace hq := hq.trans (hb'.mono hq.size); clear hb'))
      replace p0 := (hq.cell (p := ⟨b1, o1 + m * 5, none⟩) (Nat.lt_of_lt_of_le l1 HB0.out.size)).trans p0
      replace p1 := (hq.cell (p := ⟨b1, o1 + m * 5 + 1, none⟩) (Nat.lt_of_lt_of_le l1 HB0.out.size)).trans p1
      replace p2 := (hq.cell (p := ⟨b1, o1 + m * 5 + 2, none⟩) (Nat.lt_of_lt_of_le l1 HB0.out.size)).trans p2
      replace p3 := (hq.cell (p := ⟨b1, o1 + m * 5 + 3, none⟩) (Nat.lt_of_lt_of_le l1 HB0.out.size)).trans p3
      replace p4 := (hq.cell (p := ⟨b1, o1 + m * 5 + 4, none⟩) (Nat.lt_of_lt_of_le l1 HB0.out.size)).trans p4
      have HBh0 := Lib.hid (HB0.out.trans (hq.mono HB0.out.size))
      clear hq
      go_wp2_with fail
      go_roundw
      case rel => exact ⟨m + 1, by omega, by go_num, by congr 1; omega, HBh0.out⟩
      case measure => simp [intOf]; omega
    · have hmn : m = n := by omega
      subst hmn
      go_wp2_with fail
      go_ret
      exact ⟨rfl, hb⟩
end Go.Proofs.Ytkepgmdoifnkdaa
