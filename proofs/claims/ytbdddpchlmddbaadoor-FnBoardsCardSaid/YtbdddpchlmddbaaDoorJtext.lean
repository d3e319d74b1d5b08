/- The program's text of a board. -/
import Derived.Test.YtbdddpchlmddbaaDoorJone
import Derived.Test.YtbdddpchlmddbaaDoorBtext
import Derived.Test.YtbdddpchlmddbaaDoorTab
import Derived.Test.YtbdddpchlmddbaaDoorShelf
import Derived.OwnWalk
import Derived.Maps.AppendAt
namespace Go.Proofs.YtbdddpchlmddbaaDoor
set_option linter.unusedVariables false
open Go.RowKit

theorem bc_app (a b : List UInt8) : Lib.byteCells (a ++ b) = Lib.byteCells a ++ Lib.byteCells b := by simp [Lib.byteCells]
theorem bc_one (l : List UInt8) : ∀ u ∈ Lib.byteCells l, u.oneCell' = true := by intro u hu; simp [Lib.byteCells] at hu; obtain ⟨b, _, rfl⟩ := hu; rfl
theorem Tryd.infoByte : (Tryd.prog.info? 5).map (fun i => (i.zero, i.size, i.bytes)) = some (some (.int .u8 0), 1, 1) := by kernel_rfl
theorem own_as {w : World} {B : Nat} {e : TypeId} {size n n' : Nat} {v : Value} {xs ys : List Value} (h : w.ownsRow B e size v n xs) (hn : n = n') (hx : xs = ys) : w.ownsRow B e size v n' ys := by subst hn; subst hx; exact h

set_option maxRecDepth 100000 in
set_option maxHeartbeats 3200000 in
theorem implBoardText_yes (v1 v2 : Value) (ls ss : List Int) (w : World) (h : BrdR w v1 v2 ls ss) (hg : okB ls ss) (ht : Lib.TabIs Tryd.prog w "internal/strconv.uint64pow10" .u64 Lib.pow10Tab) :
    Calls Tryd.prog 19 #[.agg #[v1, v2]] w fun e w' => e = .returned (.tuple #[.string ⟨(bdT ls ss).toArray⟩, .bool true]) ∧ Below w.heap.size w w' := by
  obtain ⟨i0, hi, hz0, hz1, hz2⟩ := info_parts Tryd.infoByte
  obtain ⟨a1, c1, a2, c2, rfl, rfl⟩ := h.form
  have A1 := Lib.hid (int_at h.1)
  have A2 := Lib.hid (int_at h.2)
  have HG := Lib.hid hg
  have hl6 : ls.length ≤ 6 := hg.1.2
  have hlp : 0 < ls.length := hg.1.1
  have hns : (ss.length : Int) ≤ 6 := by have := hg.2.1; omega
  have HTB : Hid (∀ w1, Below w.heap.size w w1 → Lib.TabBelow Tryd.prog (w.heap.size + 1) w1 "internal/strconv.uint64pow10" .u64 Lib.pow10Tab) := Lib.hid (fun w1 h1 w' h2 => tab_below ht (h1.trans (h2.mono (by omega))))
  have HIL : Hid (∀ v : Int, 0 ≤ v → v ≤ 30 → (Lib.itoa v).length ≤ 19) := Lib.hid (fun v h0 h1 => itoa_len v h0 h1)
  have HB0 : Hid (Below w.heap.size w w) := Lib.hid (Below.refl _ _)
  have HRf0 := Lib.hid (h)
  clear h hg ht
  go_enter Tryd.func19, Tryd.ntmps19
  go_wp2_with fail
  have hb : Below w.heap.size w (w.alloc (.cells #[.slice a1 ls.length c1, .slice a2 ss.length c2] 26)) := (Below.refl _ _).alloc (Nat.le_refl _) _
  have hk : (w.alloc (.cells #[.slice a1 ls.length c1, .slice a2 ss.length c2] 26)).heap[w.heap.size]? = some (.cells #[.slice a1 ls.length c1, .slice a2 ss.length c2] 26 (0, 0)) := alloc_at rfl
  have hz : (w.alloc (.cells #[.slice a1 ls.length c1, .slice a2 ss.length c2] 26)).heap.size = w.heap.size + 1 := by simp
  generalize w.alloc (.cells #[.slice a1 ls.length c1, .slice a2 ss.length c2] 26) = w1 at hb hk hz ⊢
  have HB1 : Hid (Below w.heap.size w w1) := Lib.hid (HB0.out.trans (hb.mono HB0.out.size))
  have HZ1 : Hid (w.heap.size ≤ w1.heap.size) := Lib.hid hb.size
  have HRf1 := Lib.hid (HRf0.out.below HB1.out (Nat.le_refl _))
  have HKb1 := Lib.hid hk
  replace HZ1 : Hid (w.heap.size < w1.heap.size) := Lib.hid (by omega)
  have HE1 := Lib.hid hz
  clear hb hk hz
  have ltb := lt_of_block HKb1.out
  obtain ⟨cb0, cb1, fb0, fb1⟩ := cell2 HKb1.out
  refine (implIsBoard_any _ _ ls ss _ HRf1.out true ⟨fun _ => HG.out, fun _ => rfl⟩).mono ?_
  rintro e w2 ⟨rfl, hb⟩
  have HB2 : Hid (Below w.heap.size w w2) := Lib.hid (HB1.out.trans (hb.mono HB1.out.size))
  have HZ2 : Hid (w1.heap.size ≤ w2.heap.size) := Lib.hid hb.size
  have HRf2 := Lib.hid (HRf0.out.below HB2.out (Nat.le_refl _))
  have HKb2 := Lib.hid ((hb.block _ (lt_of_block HKb1.out)).trans HKb1.out)
  clear hb
  have hb2 : w.heap.size + 1 ≤ w2.heap.size := by have := HE1.out; have := HZ2.out; omega
  have HO0 := Lib.hid (World.ownsRow_made (base := w.heap.size + 1) (e := 5) (size := 1) w2 #[] 0 hb2 (Nat.zero_le _) (by simp))
  have hk2 := HKb2.out
  have HK0 : Hid ((w2.alloc (.cells #[] 5)).heap[w.heap.size]? = some (.cells #[.slice a1 ls.length c1, .slice a2 ss.length c2] 26 (0, 0))) := Lib.hid ((alloc_old (by omega)).trans hk2)
  have HB0' := Lib.hid (HB2.out.alloc (o := .cells #[] 5) HB2.out.size)
  clear hk2
  clear cb0 cb1 fb0 fb1 ltb
  have ltb := lt_of_block HKb2.out
  obtain ⟨cb0, cb1, fb0, fb1⟩ := cell2 HKb2.out
  go_wp2_with fail
  go_loopw [4, 5] (fun s i wr => ∃ (k d N : Nat) (ii : Int) (v : Value), k + d = ls.length ∧ ii + 1 = (k : Int) ∧ i = .int .i64 ii ∧ s = v ∧ Hid (N = (tB ls ss d).length) ∧ N ≤ 40 * d ∧ wr.ownsRow (w.heap.size + 1) 5 1 v N (Lib.byteCells (tB ls ss d)) ∧ wr.heap[w.heap.size]? = some (.cells #[.slice a1 ls.length c1, .slice a2 ss.length c2] 26 (0, 0)) ∧ Below w.heap.size w wr ∧ w.heap.size + 1 ≤ wr.heap.size) (fun _ i _ => (intOf i + 1).toNat)
  case atStart => exact ⟨ls.length, 0, 0, (ls.length : Int) - 1, _, by omega, by omega, by go_num, rfl, Lib.hid rfl, by omega, HO0.out, HK0.out, HB0'.out, by simp; omega⟩
  case round =>
    obtain ⟨k, d, N, ii, v, hk, hki, rfl, rfl, HN, hN4, hown, hkb, hb, hsz⟩ := hrel
    have HO := Lib.hid hown
    have HB := Lib.hid hb
    have HKB := Lib.hid hkb
    by_cases hk0 : 0 < k
    · obtain ⟨m, rfl⟩ : ∃ m, k = m + 1 := ⟨k - 1, by omega⟩
      obtain rfl : ii = (m : Int) := by omega
      have hlt : m < ls.length := by omega
      have hlt2 : m < ss.length := by rw [HG.out.2.1]; exact hlt
      have z1 : (0 : Int) ≤ (m : Int) := by omega
      have z2 : (m : Int) < (ls.length : Int) := by omega
      have z3 : (m : Int) < (ss.length : Int) := by omega
      obtain ⟨b1, o1, rfl, _, p0⟩ := A1.out _ hb m hlt
      obtain ⟨b2, o2, rfl, _, q0⟩ := A2.out _ hb m hlt2
      have HST := Lib.hid (tB_step ls ss d m (by omega) HG.out.2.1 hlt hlt2)
      obtain ⟨⟨x0, x1⟩, y0, y1⟩ := HG.out.2.2 m hlt hlt2
      have HPX : Hid (∀ w', Below w.heap.size w w' → w'.cell? ⟨b1, o1 + m, none⟩ = some (.int .i64 ls[m])) := Lib.hid (fun w' hb' => by obtain ⟨b, o, e, _, c⟩ := A1.out _ hb' m hlt; cases e; exact c)
      generalize ls[m] = x at p0 HST x0 x1 HPX
      generalize ss[m] = y at q0 HST y0 y1
      have sx := HIL.out x x0 x1
      have sy := HIL.out y y0 y1
      obtain ⟨X, hX⟩ : ∃ X, (Lib.itoa x).length = X := ⟨_, rfl⟩
      obtain ⟨Y, hY⟩ : ∃ Y, (Lib.itoa y).length = Y := ⟨_, rfl⟩
      rw [hX] at sx
      rw [hY] at sy
      have HX := Lib.hid hX
      have HY := Lib.hid hY
      obtain ⟨cb0, cb1, _, _⟩ := cell2 hkb
      have HI1 := Lib.hid (Tryd.strconv_AppendInt_10 (w.heap.size + 1) N y (by omega) (by omega) _ _ wr HO.out hsz (by omega) (HTB.out _ HB.out))
      have HSZ := Lib.hid hsz
      clear hki hk0 hb hkb hown hX hY hsz
      go_wp2_with fail
      refine HI1.out.mono ?_
      rintro e w21 ⟨v1, rfl, hown1, hb1, _⟩
      have HB1 : Hid (Below w.heap.size w w21) := Lib.hid (HB.out.trans (hb1.mono (by omega)))
      have HK1 := Lib.hid ((hb1.block w.heap.size (by omega)).trans HKB.out)
      have HS1 : Hid (w.heap.size + 1 ≤ w21.heap.size) := Lib.hid (by have := hb1.size; have := HSZ.out; omega)
      have HO1 := Lib.hid (own_as hown1 (by rw [HY.out]) (bc_app _ _).symm)
      obtain ⟨pv1, kv1, rfl⟩ := own_form HO1.out
      clear hown1 hb1 cb0 cb1 p0 q0 HI1
      go_wp2_with (at_builtin; refine wpList_append_own _ rfl _ _ 22 rfl (w.heap.size + 1) 5 i0 (.int .u8 0) 1 1 Tryd.underlying22 hi hz0 hz1 hz2 rfl (by decide) _ _ _ rfl (HO1.out.alloc _) ⟨w21.heap.size, 0, none⟩ 1 1 (Lib.byteCells [47]) rfl rfl ?c11 ?c12 ?c13 ?c14 ?c15 ?_)
      case c11 => exact cell_one_new _ _ _
      case c12 => exact bc_one _
      case c13 => unfold maxLen; omega
      case c14 => omega
      case c15 => (have hs5 := HS1.out; simp; omega)
      intro v' w22 hown2 hgrow2 _
      have HO2 := Lib.hid (own_as hown2 rfl (bc_app _ _).symm)
      obtain ⟨pv2, kv2, rfl⟩ := own_form HO2.out
      have HB2' : Hid (Below w.heap.size w w22) := Lib.hid ((HB1.out.alloc HB1.out.size _).grown hgrow2 (by have := HS1.out; simp; omega) (fun q hq => by have := (HO1.out.lt q hq).1; omega))
      have HK2 := Lib.hid ((hgrow2.block w.heap.size (by have := HS1.out; simp; omega) (fun e => by have := (HO1.out.lt _ e.symm).1; omega)).trans ((alloc_old (by have := HS1.out; omega)).trans HK1.out))
      have HS2 : Hid (w.heap.size + 1 ≤ w22.heap.size) := Lib.hid (by have h1 := hgrow2.size; have := HS1.out; simp at h1; omega)
      clear hown2 hgrow2
      obtain ⟨cb0, cb1, _, _⟩ := cell2 HK2.out
      have p0 := HPX.out _ HB2'.out
      have HI2 := Lib.hid (Tryd.strconv_AppendInt_10 (w.heap.size + 1) (N + Y + 1) x (by omega) (by omega) _ _ w22 HO2.out HS2.out (by omega) (HTB.out _ HB2'.out))
      go_wp2_with fail
      refine HI2.out.mono ?_
      rintro e w23 ⟨v3, rfl, hown3, hb3, _⟩
      have HB3 : Hid (Below w.heap.size w w23) := Lib.hid (HB2'.out.trans (hb3.mono (by omega)))
      have HK3 := Lib.hid ((hb3.block w.heap.size (by omega)).trans HK2.out)
      have HS3 : Hid (w.heap.size + 1 ≤ w23.heap.size) := Lib.hid (by have := hb3.size; have := HS2.out; omega)
      have HO3 := Lib.hid (own_as hown3 (by rw [HX.out]) (bc_app _ _).symm)
      obtain ⟨pv3, kv3, rfl⟩ := own_form HO3.out
      clear hown3 hb3 cb0 cb1 p0 HI2
      by_cases hm : 0 < m
      · have hd : (decide ((0 : Int) < (m : Int))) = true := decide_eq_true (by omega)
        have hd2 : decide (0 < m) = true := decide_eq_true hm
        have HE : Hid (tB ls ss (d + 1) = tB ls ss d ++ Lib.itoa y ++ [47] ++ Lib.itoa x ++ [32]) := Lib.hid (by rw [HST.out, if_pos hm]; simp)
        clear hm
        go_wp2_with (at_builtin; refine wpList_append_own _ rfl _ _ 22 rfl (w.heap.size + 1) 5 i0 (.int .u8 0) 1 1 Tryd.underlying22 hi hz0 hz1 hz2 rfl (by decide) _ _ _ rfl (HO3.out.alloc _) ⟨w23.heap.size, 0, none⟩ 1 1 (Lib.byteCells [32]) rfl rfl ?c21 ?c22 ?c23 ?c24 ?c25 ?_)
        case c21 => exact cell_one_new _ _ _
        case c22 => exact bc_one _
        case c23 => unfold maxLen; omega
        case c24 => omega
        case c25 => (have hs5 := HS3.out; simp; omega)
        intro v' w24 hown4 hgrow4 _
        have HO4 := Lib.hid (own_as hown4 rfl (ys := Lib.byteCells (tB ls ss (d + 1))) (by rw [HE.out]; simp [Lib.byteCells]))
        have HB4 : Hid (Below w.heap.size w w24) := Lib.hid ((HB3.out.alloc HB3.out.size _).grown hgrow4 (by have := HS3.out; simp; omega) (fun q hq => by have := (HO3.out.lt q hq).1; omega))
        have HK4 := Lib.hid ((hgrow4.block w.heap.size (by have := HS3.out; simp; omega) (fun e => by have := (HO3.out.lt _ e.symm).1; omega)).trans ((alloc_old (by have := HS3.out; omega)).trans HK3.out))
        have HS4 : Hid (w.heap.size + 1 ≤ w24.heap.size) := Lib.hid (by have h1 := hgrow4.size; have := HS3.out; simp at h1; omega)
        clear hown4 hgrow4
        go_wp2_with fail
        go_roundw
        case rel => exact ⟨m, d + 1, N + Y + 1 + X + 1, (m : Int) - 1, _, by omega, by omega, by go_num, rfl, Lib.hid (by rw [HE.out]; simp only [List.length_append, List.length_singleton]; rw [← HN.out, HX.out, HY.out]), by omega, HO4.out, HK4.out, HB4.out, HS4.out⟩
        case measure => simp [intOf]
      · have hd : (decide ((0 : Int) < (m : Int))) = false := decide_eq_false (by omega)
        have hd2 : decide (0 < m) = false := decide_eq_false hm
        have HE : Hid (tB ls ss (d + 1) = tB ls ss d ++ Lib.itoa y ++ [47] ++ Lib.itoa x) := Lib.hid (by rw [HST.out, if_neg hm]; simp)
        have HO4 := Lib.hid (own_as HO3.out rfl (ys := Lib.byteCells (tB ls ss (d + 1))) (by rw [HE.out]))
        clear hm
        go_wp2_with fail
        go_roundw
        case rel => exact ⟨m, d + 1, N + Y + 1 + X, (m : Int) - 1, _, by omega, by omega, by go_num, rfl, Lib.hid (by rw [HE.out]; simp only [List.length_append, List.length_singleton]; rw [← HN.out, HX.out, HY.out]), by omega, HO4.out, HK3.out, HB3.out, HS3.out⟩
        case measure => simp [intOf]
    · obtain rfl : k = 0 := by omega
      obtain rfl : ii = -1 := by omega
      obtain rfl : d = ls.length := by omega
      have hpos : 0 < N := by
        have h1 := HN.out
        obtain ⟨j, hj⟩ : ∃ j, ls.length = j + 1 := ⟨ls.length - 1, by omega⟩
        rw [h1, hj]
        show 0 < (tB ls ss j ++ _).length
        rw [List.length_append, List.length_append, List.length_cons]; omega
      obtain ⟨g, cap, rfl⟩ := own_some HO.out hpos
      have HOB : wr.ownsRow (w.heap.size + 1) 5 1 (.slice (some ⟨g, 0, none⟩) N cap) N (Lib.byteCells (bdT ls ss)) := HO.out
      have hcv : ∀ (T : TypeId), Tryd.prog.underlying T = some .string → (convert 22 T (.slice (some ⟨g, 0, none⟩) N cap)).run Tryd.prog wr = .ok (.string ⟨(bdT ls ss).toArray⟩) wr := by
        intro T hT
        have := run_convert_bytes_back (P := Tryd.prog) wr 22 T 5 ⟨g, 0, none⟩ cap (bdT ls ss) Tryd.underlying22 Tryd.underlying5 hT (fun j hj => HOB.cells (g := g) rfl j (.int .u8 ((bdT ls ss)[j].toNat : Int)) (by simp [Lib.byteCells, List.getElem?_eq_getElem hj]))
        rwa [show (bdT ls ss).length = N from HN.out.symm] at this
      have hcv9 := hcv _ Tryd.underlying9
      clear hki hk0 hb hkb hcv hown HOB
      go_wp2_with fail
      go_ret2
      exact ⟨rfl, HB.out⟩
set_option maxRecDepth 100000 in
set_option maxHeartbeats 800000 in
theorem implBoardText_any (v1 v2 : Value) (ls ss : List Int) (w : World) (h : BrdR w v1 v2 ls ss) (s : ByteArray) (t : Bool) (hk : BtxF ls ss s t) (ht : Lib.TabIs Tryd.prog w "internal/strconv.uint64pow10" .u64 Lib.pow10Tab) :
    Calls Tryd.prog 19 #[.agg #[v1, v2]] w fun e w' => e = .returned (.tuple #[.string s, .bool t]) ∧ Below w.heap.size w w' := by
  rcases hk with ⟨hg, rfl, rfl⟩ | ⟨hg, rfl, rfl⟩
  · exact implBoardText_yes v1 v2 ls ss w h hg ht
  · have HG := Lib.hid hg
    obtain ⟨a1, c1, a2, c2, rfl, rfl⟩ := h.form
    have HB0 : Hid (Below w.heap.size w w) := Lib.hid (Below.refl _ _)
    have HRf0 := Lib.hid (h)
    clear h hg ht
    go_enter Tryd.func19, Tryd.ntmps19
    go_wp2_with fail
    have hb : Below w.heap.size w (w.alloc (.cells #[.slice a1 ls.length c1, .slice a2 ss.length c2] 26)) := (Below.refl _ _).alloc (Nat.le_refl _) _
    have hk : (w.alloc (.cells #[.slice a1 ls.length c1, .slice a2 ss.length c2] 26)).heap[w.heap.size]? = some (.cells #[.slice a1 ls.length c1, .slice a2 ss.length c2] 26 (0, 0)) := alloc_at rfl
    have hz : (w.alloc (.cells #[.slice a1 ls.length c1, .slice a2 ss.length c2] 26)).heap.size = w.heap.size + 1 := by simp
    generalize w.alloc (.cells #[.slice a1 ls.length c1, .slice a2 ss.length c2] 26) = w1 at hb hk hz ⊢
    have HB1 : Hid (Below w.heap.size w w1) := Lib.hid (HB0.out.trans (hb.mono HB0.out.size))
    have HZ1 : Hid (w.heap.size ≤ w1.heap.size) := Lib.hid hb.size
    have HRf1 := Lib.hid (HRf0.out.below HB1.out (Nat.le_refl _))
    have HKb1 := Lib.hid hk
    replace HZ1 : Hid (w.heap.size < w1.heap.size) := Lib.hid (by omega)
    have HE1 := Lib.hid hz
    clear hb hk hz
    have ltb := lt_of_block HKb1.out
    obtain ⟨cb0, cb1, fb0, fb1⟩ := cell2 HKb1.out
    refine (implIsBoard_any _ _ ls ss _ HRf1.out false ⟨fun e => by simp at e, fun e => absurd e HG.out⟩).mono ?_
    rintro e w2 ⟨rfl, hb⟩
    have HB2 : Hid (Below w.heap.size w w2) := Lib.hid (HB1.out.trans (hb.mono HB1.out.size))
    have HZ2 : Hid (w1.heap.size ≤ w2.heap.size) := Lib.hid hb.size
    have HRf2 := Lib.hid (HRf0.out.below HB2.out (Nat.le_refl _))
    have HKb2 := Lib.hid ((hb.block _ (lt_of_block HKb1.out)).trans HKb1.out)
    clear hb
    clear cb0 cb1 fb0 fb1 ltb
    have ltb := lt_of_block HKb2.out
    obtain ⟨cb0, cb1, fb0, fb1⟩ := cell2 HKb2.out
    go_wp2_with fail
    go_ret2
    exact ⟨rfl, HB2.out⟩
end Go.Proofs.YtbdddpchlmddbaaDoor
