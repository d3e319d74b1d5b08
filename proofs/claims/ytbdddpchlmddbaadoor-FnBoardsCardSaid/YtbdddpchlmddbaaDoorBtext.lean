/- The model's text of a board. -/
import Derived.Test.YtbdddpchlmddbaaDoorBgood
import Derived.Test.YtbdddpchlmddbaaDoorNum
import Derived.BigQuiet
import Derived.Laws.IdiomStrings
namespace Go.Proofs.YtbdddpchlmddbaaDoor
set_option linter.unusedVariables false
open Go.RowKit

/-- The text of the last d lines. -/
def tB (ls ss : List Int) : Nat → List UInt8
  | 0 => []
  | d + 1 => tB ls ss d ++ (Lib.itoa (ss.getD (ls.length - (d + 1)) 0) ++ 47 :: (Lib.itoa (ls.getD (ls.length - (d + 1)) 0) ++ if 0 < ls.length - (d + 1) then [32] else []))
def bdT (ls ss : List Int) : List UInt8 := tB ls ss ls.length
theorem itoa_len (n : Int) (h0 : 0 ≤ n) (h1 : n ≤ 30) : (Lib.itoa n).length ≤ 19 := by rw [itoa_small n h0]; exact dec_len _ (by omega)
theorem tB_step (ls ss : List Int) (d m : Nat) (h : m + (d + 1) = ls.length) (hs : ss.length = ls.length) (h1 : m < ls.length) (h2 : m < ss.length) : tB ls ss (d + 1) = tB ls ss d ++ (Lib.itoa ss[m] ++ 47 :: (Lib.itoa ls[m] ++ if 0 < m then [32] else [])) := by
  have e : ls.length - (d + 1) = m := by omega
  show tB ls ss d ++ _ = _
  rw [e]
  congr 2
  · rw [List.getD_eq_getElem?_getD, List.getElem?_eq_getElem h2]; rfl
  · rw [List.getD_eq_getElem?_getD, List.getElem?_eq_getElem h1]; rfl
/-- The answer of BoardText. -/
def BtxF (ls ss : List Int) (s : ByteArray) (t : Bool) : Prop := (okB ls ss ∧ s = ⟨(bdT ls ss).toArray⟩ ∧ t = true) ∨ (¬ okB ls ss ∧ s = ⟨#[]⟩ ∧ t = false)
theorem btxF_or (ls ss : List Int) : ∃ s t, BtxF ls ss s t := by
  by_cases h : okB ls ss
  · exact ⟨_, _, .inl ⟨h, rfl, rfl⟩⟩
  · exact ⟨_, _, .inr ⟨h, rfl, rfl⟩⟩
set_option maxRecDepth 100000 in
set_option maxHeartbeats 1600000 in
theorem specBoardText_yes (v1 v2 : Value) (ls ss : List Int) (w : World) (h : BrdR w v1 v2 ls ss) (hg : okB ls ss) :
    Calls Tryd.prog 20 #[.agg #[v1, v2]] w fun e w' => e = .returned (.tuple #[.string ⟨(bdT ls ss).toArray⟩, .bool true]) ∧ Below w.heap.size w w' := by
  obtain ⟨a1, c1, a2, c2, rfl, rfl⟩ := h.form
  have A1 := Lib.hid (int_at h.1)
  have A2 := Lib.hid (int_at h.2)
  have HG := Lib.hid hg
  have hl6 : ls.length ≤ 6 := hg.1.2
  have hns : (ss.length : Int) ≤ 6 := by have := hg.2.1; omega
  obtain ⟨T, hT⟩ : ∃ T : Int → ByteArray, ∀ v, T v = ⟨(Lib.itoa v).toArray⟩ := ⟨_, fun _ => rfl⟩
  have HTT := Lib.hid hT
  have HTS : Hid (∀ v, 0 ≤ v → v ≤ 30 → (T v).size ≤ 19) := Lib.hid (fun v h0 h1 => by rw [hT, mk_size]; exact itoa_len v h0 h1)
  have HTC : Hid (∀ v w, 0 ≤ v → v ≤ 30 → Calls Tryd.prog 38 #[.int .i64 v] w fun e w' => e = .returned (.string (T v)) ∧ ∃ m, w' = w.drewN m) := Lib.hid (fun v w h0 h1 => by rw [hT]; exact l1Num_any v w (by omega) (by omega))
  clear hT
  have q47 : (⟨#[47]⟩ : ByteArray).size = 1 := rfl
  have q32 : (⟨#[32]⟩ : ByteArray).size = 1 := rfl
  have HB0 : Hid (Below w.heap.size w w) := Lib.hid (Below.refl _ _)
  have HRf0 := Lib.hid (h)
  clear h hg
  go_enter Tryd.func20, Tryd.ntmps20
  go_wp2_with fail
  have hb : Below w.heap.size w (w.alloc (.cells #[.slice a1 ls.length c1, .slice a2 ss.length c2] 26)) := (Below.refl _ _).alloc (Nat.le_refl _) _
  have hk : (w.alloc (.cells #[.slice a1 ls.length c1, .slice a2 ss.length c2] 26)).heap[w.heap.size]? = some (.cells #[.slice a1 ls.length c1, .slice a2 ss.length c2] 26 (0, 0)) := alloc_at rfl
  have hz : (w.alloc (.cells #[.slice a1 ls.length c1, .slice a2 ss.length c2] 26)).heap.size = w.heap.size + 1 := by simp
  generalize w.alloc (.cells #[.slice a1 ls.length c1, .slice a2 ss.length c2] 26) = w1 at hb hk hz ⊢
  have HB1 : Hid (Below w.heap.size w w1) := Lib.hid (HB0.out.trans (hb.mono HB0.out.size))
  have HZ1 : Hid (w.heap.size ≤ w1.heap.size) := Lib.hid hb.size
  have HRf1 := Lib.hid (HRf0.out.below HB1.out (Nat.le_refl _))
  have HKb1 := Lib.hid hk
  replace HZ1 : Hid (w.heap.size < w1.heap.size) := Lib.hid (by omega)
  have HE1 := Lib.hid hz
  clear hb hk hz
  refine (l5Good_any _ _ ls ss _ HRf1.out true ⟨fun _ => HG.out, fun _ => rfl⟩).mono ?_
  rintro e w2 ⟨rfl, hb⟩
  have HB2 : Hid (Below w.heap.size w w2) := Lib.hid (HB1.out.trans (hb.mono HB1.out.size))
  have HZ2 : Hid (w1.heap.size ≤ w2.heap.size) := Lib.hid hb.size
  have HRf2 := Lib.hid (HRf0.out.below HB2.out (Nat.le_refl _))
  have HKb2 := Lib.hid ((hb.block _ (lt_of_block HKb1.out)).trans HKb1.out)
  clear hb
  have ltb := lt_of_block HKb2.out
  obtain ⟨cb0, cb1, fb0, fb1⟩ := cell2 HKb2.out
  go_wp2_with fail
  go_loopw [4, 5] (fun s i wr => ∃ (k d : Nat) (ii : Int) (S : ByteArray), k + d = ls.length ∧ ii + 1 = (k : Int) ∧ i = .int .i64 ii ∧ s = .string S ∧ Hid (S = ⟨(tB ls ss d).toArray⟩) ∧ S.size ≤ 40 * d ∧ wr.heap[w.heap.size]? = some (.cells #[.slice a1 ls.length c1, .slice a2 ss.length c2] 26 (0, 0)) ∧ Below w.heap.size w wr) (fun _ i _ => (intOf i + 1).toNat)
  case atStart => exact ⟨ls.length, 0, (ls.length : Int) - 1, ⟨#[]⟩, by omega, by omega, by go_num, rfl, Lib.hid rfl, Nat.le_refl _, HKb2.out, HB2.out⟩
  case round =>
    obtain ⟨k, d, ii, S, hk, hki, rfl, rfl, HS, hsz, hkb, hb⟩ := hrel
    have HB := Lib.hid hb
    have HKB := Lib.hid hkb
    by_cases hk0 : 0 < k
    · obtain ⟨m, rfl⟩ : ∃ m, k = m + 1 := ⟨k - 1, by omega⟩
      obtain rfl : ii = (m : Int) := by omega
      have hlt : m < ls.length := by omega
      have hlt2 : m < ss.length := by rw [HG.out.2.1]; exact hlt
      have z1 : (0 : Int) ≤ (m : Int) := by omega
      have z2 : (m : Int) < (ls.length : Int) := by omega
      have z3 : (m : Int) < (ss.length : Int) := by omega
      obtain ⟨b1, o1, rfl, _, p0⟩ := A1.out _ hb m hlt
      obtain ⟨b2, o2, rfl, _, q0⟩ := A2.out _ hb m hlt2
      have HN := Lib.hid (tB_step ls ss d m (by omega) HG.out.2.1 hlt hlt2)
      obtain ⟨⟨x0, x1⟩, y0, y1⟩ := HG.out.2.2 m hlt hlt2
      generalize ls[m] = x at p0 HN x0 x1
      generalize ss[m] = y at q0 HN y0 y1
      have sx := HTS.out x x0 x1
      have sy := HTS.out y y0 y1
      have HP : Hid (0 < m → S ++ T y ++ ⟨#[47]⟩ ++ T x ++ ⟨#[32]⟩ = ⟨(tB ls ss (d + 1)).toArray⟩) := Lib.hid (by
        intro h0
        rw [HN.out, HS.out, HTT.out, HTT.out, if_pos h0]
        simp [ByteArray.mk_append_mk])
      have HZ : Hid (m = 0 → S ++ T y ++ ⟨#[47]⟩ ++ T x = ⟨(tB ls ss (d + 1)).toArray⟩) := Lib.hid (by
        intro h0
        rw [HN.out, HS.out, HTT.out, HTT.out, if_neg (by omega)]
        simp [ByteArray.mk_append_mk])
      obtain ⟨cb0, cb1, _, _⟩ := cell2 hkb
      have g1 : ¬ 9223372036854775807 < S.size + (T y).size := by omega
      have g2 : ¬ 9223372036854775807 < S.size + (T y).size + 1 := by omega
      have g3 : ¬ 9223372036854775807 < S.size + (T y).size + 1 + (T x).size := by omega
      have g4 : ¬ 9223372036854775807 < S.size + (T y).size + 1 + (T x).size + 1 := by omega
      clear hki hk0 hb hkb
      go_wp2_with fail
      go_quiet ((go_at_call 38; exact Calls.quiet_of (HTC.out _ _ (by omega) (by omega))))
      rename Nat => nq
      have hbq : Below wr.heap.size wr (wr.drewN nq) := bl_drewN (Below.refl _ wr) nq
      have HB2 := Lib.hid (HB.out.trans (hbq.mono HB.out.size))
      have HK2 := Lib.hid ((hbq.block _ (lt_of_block HKB.out)).trans HKB.out)
      clear cb0 cb1 p0 q0
      generalize wr.drewN nq = w9 at HB2 HK2 hbq ⊢
      clear hbq
      by_cases hm : 0 < m
      · have hd : decide (0 < m) = true := decide_eq_true hm
        have HE := Lib.hid (HP.out hm)
        clear hm
        go_wp2_with fail
        go_roundw
        case rel => exact ⟨m, d + 1, (m : Int) - 1, _, by omega, by omega, by go_num, rfl, HE, by simp only [ByteArray.size_append, q47, q32]; omega, HK2.out, HB2.out⟩
        case measure => simp [intOf]
      · have hd : decide (0 < m) = false := decide_eq_false hm
        have HE := Lib.hid (HZ.out (by omega))
        clear hm
        go_wp2_with fail
        go_roundw
        case rel => exact ⟨m, d + 1, (m : Int) - 1, _, by omega, by omega, by go_num, rfl, HE, by simp only [ByteArray.size_append, q47]; omega, HK2.out, HB2.out⟩
        case measure => simp [intOf]
    · have hke : k = 0 := by omega
      subst hke
      obtain rfl : ii = -1 := by omega
      have HE : Hid (S = ⟨(bdT ls ss).toArray⟩) := Lib.hid (by rw [HS.out]; unfold bdT; have : d = ls.length := by omega
                                                               rw [this])
      clear hki hk0 hb hkb
      go_wp2_with fail
      go_ret2
      exact ⟨by have h9 := HE.out; subst h9; rfl, HB.out⟩
set_option maxRecDepth 100000 in
set_option maxHeartbeats 800000 in
theorem specBoardText_any (v1 v2 : Value) (ls ss : List Int) (w : World) (h : BrdR w v1 v2 ls ss) (s : ByteArray) (t : Bool) (hk : BtxF ls ss s t) :
    Calls Tryd.prog 20 #[.agg #[v1, v2]] w fun e w' => e = .returned (.tuple #[.string s, .bool t]) ∧ Below w.heap.size w w' := by
  rcases hk with ⟨hg, rfl, rfl⟩ | ⟨hg, rfl, rfl⟩
  · exact specBoardText_yes v1 v2 ls ss w h hg
  · have HG := Lib.hid hg
    obtain ⟨a1, c1, a2, c2, rfl, rfl⟩ := h.form
    have HB0 : Hid (Below w.heap.size w w) := Lib.hid (Below.refl _ _)
    have HRf0 := Lib.hid (h)
    clear h hg
    go_enter Tryd.func20, Tryd.ntmps20
    go_wp2_with fail
    have hb : Below w.heap.size w (w.alloc (.cells #[.slice a1 ls.length c1, .slice a2 ss.length c2] 26)) := (Below.refl _ _).alloc (Nat.le_refl _) _
    have hk : (w.alloc (.cells #[.slice a1 ls.length c1, .slice a2 ss.length c2] 26)).heap[w.heap.size]? = some (.cells #[.slice a1 ls.length c1, .slice a2 ss.length c2] 26 (0, 0)) := alloc_at rfl
    have hz : (w.alloc (.cells #[.slice a1 ls.length c1, .slice a2 ss.length c2] 26)).heap.size = w.heap.size + 1 := by simp
    generalize w.alloc (.cells #[.slice a1 ls.length c1, .slice a2 ss.length c2] 26) = w1 at hb hk hz ⊢
    have HB1 : Hid (Below w.heap.size w w1) := Lib.hid (HB0.out.trans (hb.mono HB0.out.size))
    have HZ1 : Hid (w.heap.size ≤ w1.heap.size) := Lib.hid hb.size
    have HRf1 := Lib.hid (HRf0.out.below HB1.out (Nat.le_refl _))
    have HKb1 := Lib.hid hk
    replace HZ1 : Hid (w.heap.size < w1.heap.size) := Lib.hid (by omega)
    have HE1 := Lib.hid hz
    clear hb hk hz
    have ltb := lt_of_block HKb1.out
    obtain ⟨cb0, cb1, fb0, fb1⟩ := cell2 HKb1.out
    refine (l5Good_any _ _ ls ss _ HRf1.out false ⟨fun e => by simp at e, fun e => absurd e HG.out⟩).mono ?_
    rintro e w2 ⟨rfl, hb⟩
    have HB2 : Hid (Below w.heap.size w w2) := Lib.hid (HB1.out.trans (hb.mono HB1.out.size))
    have HZ2 : Hid (w1.heap.size ≤ w2.heap.size) := Lib.hid hb.size
    have HRf2 := Lib.hid (HRf0.out.below HB2.out (Nat.le_refl _))
    have HKb2 := Lib.hid ((hb.block _ (lt_of_block HKb1.out)).trans HKb1.out)
    clear hb
    clear cb0 cb1 fb0 fb1 ltb
    have ltb := lt_of_block HKb2.out
    obtain ⟨cb0, cb1, fb0, fb1⟩ := cell2 HKb2.out
    go_wp2_with fail
    go_ret2
    exact ⟨rfl, HB2.out⟩
end Go.Proofs.YtbdddpchlmddbaaDoor
