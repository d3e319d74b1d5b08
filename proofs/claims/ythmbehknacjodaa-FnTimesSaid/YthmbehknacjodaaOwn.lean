/- Copies of frames: slices.Clone of rods, the model's l2Own. -/
import Derived.Test.YthmbehknacjodaaKb
import Derived.Test.YthmbehknacjodaaKa
import Derived.Lib.SliceRun
import Derived.Lib.Walk
import Derived.Deep.RegionHeld3
import Derived.Deep.AppendLies
import Derived.Deep.RegionLaw
namespace Go.Proofs.Ythmbehknacjodaa
set_option linter.unusedVariables false
open Go.RowKit

theorem own_relen {w : World} {B : Nat} {e : TypeId} {size : Nat} {v : Value} {n k : Nat} {xs : List Value} (h : k = n) (ho : w.ownsRow B e size v n xs) : w.ownsRow B e size v k xs := by subst h; exact ho
theorem own_set3 {w : World} {B : Nat} {e : TypeId} {size : Nat} {v : Value} {n : Nat} {xs : List Value} {g : Nat} (h : w.ownsRow B e size v n xs) (hg : g < B) (x y z : Value) :
    (((w.setCell ⟨g, 0, none⟩ x).setCell ⟨g, 1, none⟩ y).setCell ⟨g, 2, none⟩ z).ownsRow B e size v n xs :=
  ownsRow_setCell_below (ownsRow_setCell_below (ownsRow_setCell_below h (a := ⟨g, 0, none⟩) hg x) (a := ⟨g, 1, none⟩) hg y) (a := ⟨g, 2, none⟩) hg z
theorem bl_set3 {w0 w : World} {B g : Nat} (h : Below B w0 w) (hg : B ≤ g) (x y z : Value) : Below B w0 (((w.setCell ⟨g, 0, none⟩ x).setCell ⟨g, 1, none⟩ y).setCell ⟨g, 2, none⟩ z) :=
  ((h.setCell (p := ⟨g, 0, none⟩) hg x).setCell (p := ⟨g, 1, none⟩) hg y).setCell (p := ⟨g, 2, none⟩) hg z
theorem own_block {w : World} {base size n : Nat} {e : TypeId} {v : Value} {xs : List Value} (h : w.ownsRow base e size v n xs) (hn : 0 < n) : ∃ g cap, v = .slice (some ⟨g, 0, none⟩) n cap := by
  rcases h.2 with ⟨_, h0⟩ | ⟨g, cap, cur, rfl, _⟩
  · omega
  · exact ⟨g, cap, rfl⟩
theorem rods_news {w : World} {a : Option Addr} {c : Nat} {rs : List (Int × Int)} (h : RodsR w (.slice a rs.length c) rs) (h0 : 0 < rs.length) :
    ∃ b off, a = some ⟨b, off, none⟩ ∧ b < w.heap.size ∧ ∀ w', Below w.heap.size w w' → ∀ j u, (flat rs)[j]? = some u → w'.cell? ((⟨b, off, none⟩ : Addr).add j) = some u := by
  obtain ⟨a', c', e, _, h3⟩ := h
  obtain ⟨b, off, ha, hlt, hc⟩ := h3 (by intro e; subst e; simp at h0)
  have : a = a' := by injection e
  subst this
  refine ⟨b, off, ha, hlt, fun w' hb j u hu => ?_⟩
  have hj : j < rs.length * 2 := by
    rcases Nat.lt_or_ge j (flat rs).length with h' | h'
    · rwa [flat_len] at h'
    · rw [List.getElem?_eq_none h'] at hu; cases hu
  have hadd : (⟨b, off, none⟩ : Addr).add j = ⟨b, off + j, none⟩ := by cases j <;> simp [Addr.add]
  rw [hadd]
  have hf := flat_at rs (j / 2) (by omega)
  have hcc := hc (j / 2) (by omega)
  by_cases hod : j % 2 = 0
  · have e : j / 2 * 2 = j := by omega
    rw [e] at hf hcc
    rw [hf.1] at hu
    exact ((hb.cell (p := ⟨b, off + j, none⟩) hlt).trans hcc.1).trans hu
  · have e : j / 2 * 2 + 1 = j := by omega
    rw [Nat.add_assoc, e] at hcc
    rw [e] at hf
    rw [hf.2] at hu
    exact ((hb.cell (p := ⟨b, off + j, none⟩) hlt).trans hcc.2).trans hu
theorem flat_one {rs : List (Int × Int)} : ∀ u ∈ flat rs, u.oneCell' = true := by
  induction rs with
  | nil => intro u hu; cases hu
  | cons r t ih =>
    intro u hu
    simp only [flat, List.mem_cons] at hu
    rcases hu with rfl | rfl | hu
    · rfl
    · rfl
    · exact ih u hu
theorem flat_set (rs : List (Int × Int)) (q : Nat) (hq : q < rs.length) (r : Int × Int) : ((flat rs).set (q * 2) (.int .i64 r.1)).set (q * 2 + 1) (.int .i64 r.2) = flat (rs.set q r) := by
  apply flat_of
  · rw [List.length_set, List.length_set, flat_len, List.length_set]
  · intro j h
    have hl : j < rs.length := by simpa using h
    have hf := flat_at rs j hl
    have hll := flat_len rs
    by_cases e : j = q
    · subst e
      rw [List.getElem_set_self]
      exact ⟨by rw [List.getElem?_set_ne (by omega), List.getElem?_set_self (by omega)], by rw [List.getElem?_set_self (by rw [List.length_set]; omega)]⟩
    · rw [List.getElem_set_ne (by omega)]
      exact ⟨by rw [List.getElem?_set_ne (by omega), List.getElem?_set_ne (by omega)]; exact hf.1, by rw [List.getElem?_set_ne (by omega), List.getElem?_set_ne (by omega)]; exact hf.2⟩

set_option maxRecDepth 100000 in
set_option maxHeartbeats 1600000 in
theorem clone_any (v : Value) (rs : List (Int × Int)) (w : World) (h : RodsR w v rs) (hn : 0 < rs.length ∧ rs.length ≤ 1048576) :
    Calls Try.prog 135 #[v] w fun e w' => (∃ v', e = .returned v' ∧ w'.ownsRow w.heap.size 77 2 v' rs.length (flat rs)) ∧ Below w.heap.size w w' := by
  obtain ⟨i0, hi, hz0, hz1, hz2⟩ := info_parts Try.infoRod
  obtain ⟨a, c, rfl⟩ : ∃ a c, v = .slice a rs.length c := by obtain ⟨a, c, e, _⟩ := h; exact ⟨a, c, e⟩
  obtain ⟨hn0, hn1⟩ := hn
  obtain ⟨b, off, rfl, hlt, hc⟩ := rods_news h hn0
  have HC := Lib.hid hc
  clear hc h
  have q22 : ∀ (w : World) (a : Option Addr) (n c n' c' : Nat), (binOp .eql 34 (.slice a n c) (.slice none n' c')).run Try.prog w = .ok (.bool a.isNone) w := fun w a n c n' c' => Lib.run_eql_slice_nil w _ _ a n c n' c' Try.underlying34
  go_enter Try.func135, Try.ntmps135
  go_wp2_with (at_builtin; refine wpList_append_own _ rfl _ _ 34 rfl w.heap.size 77 i0 (.agg #[.int .i64 0, .int .i64 0]) 2 16 Try.underlying34 hi hz0 hz1 hz2 rfl (by decide) _ _ _ rfl (World.ownsRow_made w #[] 0 (Nat.le_refl _) (Nat.zero_le _) (by simp)) ⟨b, off, none⟩ rs.length c (flat rs) rfl ?qc1 ?qc2 ?qc3 ?qc4 ?qc5 ?qc6 ?_)
  case qc1 => exact flat_len rs
  case qc2 => exact HC.out _ ((Below.refl _ w).alloc (Nat.le_refl _) _)
  case qc3 => exact flat_one
  case qc4 => unfold maxLen; omega
  case qc5 => omega
  case qc6 => simp
  intro v' w1 hown hgrow hnil
  have HO := Lib.hid hown
  have HB := Lib.hid (((Below.refl _ w).alloc (Nat.le_refl _) _).grown hgrow (by simp) (by intro k hk; simp [Value.ownBlock] at hk; omega))
  clear hown hgrow hnil
  go_wp2
  go_ret
  exact ⟨⟨v', rfl, by simpa using HO.out⟩, HB.out⟩

set_option maxRecDepth 100000 in
set_option maxHeartbeats 3200000 in
theorem l2Own_any (up lo : Int) (sv : Value) (rs : List (Int × Int)) (w : World) (h : RodsR w sv rs) (hn : 0 < rs.length ∧ rs.length ≤ 1048576) :
    Calls Try.prog 123 #[.agg #[.int .i64 up, .int .i64 lo, sv]] w fun e w' => (∃ v', e = .returned (.agg #[.int .i64 up, .int .i64 lo, v']) ∧ w'.ownsRow w.heap.size 77 2 v' rs.length (flat rs)) ∧ Below w.heap.size w w' := by
  obtain ⟨i0, hi, hz0, hz1, hz2⟩ := info_parts Try.infoRod
  obtain ⟨a, c, rfl⟩ : ∃ a c, sv = .slice a rs.length c := by obtain ⟨a, c, e, _⟩ := h; exact ⟨a, c, e⟩
  obtain ⟨hn0, hn1⟩ := hn
  obtain ⟨b, off, rfl, hlt, hc⟩ := rods_news h hn0
  have HC := Lib.hid hc
  clear hc h
  have HB0 : Hid (Below w.heap.size w w) := Lib.hid (Below.refl _ _)
  go_enter Try.func123, Try.ntmps123
  go_wp2_with fail
  have hb : Below w.heap.size w (w.alloc (.cells #[.int .i64 up, .int .i64 lo, .slice (some ⟨b, off, none⟩) rs.length c] 42)) := (Below.refl _ _).alloc (Nat.le_refl _) _
  have hk : (w.alloc (.cells #[.int .i64 up, .int .i64 lo, .slice (some ⟨b, off, none⟩) rs.length c] 42)).heap[w.heap.size]? = some (.cells #[.int .i64 up, .int .i64 lo, .slice (some ⟨b, off, none⟩) rs.length c] 42 (0, 0)) := alloc_at rfl
  have hz : (w.alloc (.cells #[.int .i64 up, .int .i64 lo, .slice (some ⟨b, off, none⟩) rs.length c] 42)).heap.size = w.heap.size + 1 := by simp
  generalize w.alloc (.cells #[.int .i64 up, .int .i64 lo, .slice (some ⟨b, off, none⟩) rs.length c] 42) = w1 at hb hk hz ⊢
  have HB1 : Hid (Below w.heap.size w w1) := Lib.hid (HB0.out.trans (hb.mono HB0.out.size))
  have HZ1 : Hid (w.heap.size ≤ w1.heap.size) := Lib.hid hb.size
  have HKf1 := Lib.hid hk
  replace HZ1 : Hid (w.heap.size < w1.heap.size) := Lib.hid (by omega)
  have HE1 := Lib.hid hz
  clear hb hk hz
  have hb : Below w1.heap.size w1 (w1.alloc (.cells #[.int .i64 0, .int .i64 0, .slice none 0 0] 42)) := (Below.refl _ _).alloc (Nat.le_refl _) _
  have hk : (w1.alloc (.cells #[.int .i64 0, .int .i64 0, .slice none 0 0] 42)).heap[w.heap.size + 1]? = some (.cells #[.int .i64 0, .int .i64 0, .slice none 0 0] 42 (0, 0)) := alloc_at (by have := HE1.out; omega)
  have hz : (w1.alloc (.cells #[.int .i64 0, .int .i64 0, .slice none 0 0] 42)).heap.size = w1.heap.size + 1 := by simp
  generalize w1.alloc (.cells #[.int .i64 0, .int .i64 0, .slice none 0 0] 42) = w2 at hb hk hz ⊢
  have HB2 : Hid (Below w.heap.size w w2) := Lib.hid (HB1.out.trans (hb.mono HB1.out.size))
  have HZ2 : Hid (w1.heap.size ≤ w2.heap.size) := Lib.hid hb.size
  have HKf2 := Lib.hid ((hb.block _ (lt_of_block HKf1.out)).trans HKf1.out)
  have HKz2 := Lib.hid hk
  replace HZ2 : Hid (w1.heap.size < w2.heap.size) := Lib.hid (by omega)
  have HE2 := Lib.hid hz
  clear hb hk hz
  have ltf := lt_of_block HKf2.out
  obtain ⟨cf0, cf1, cf2, ff0, ff1, ff2⟩ := cell3 HKf2.out
  have ltz := lt_of_block HKz2.out
  obtain ⟨cz0, cz1, cz2, fz0, fz1, fz2⟩ := cell3 HKz2.out
  go_wp2_with fail
  have hgap : w.heap.size + 1 < w2.heap.size := ltz
  go_region_held3 (fun w' => w'.cell? ⟨w.heap.size, 0, none⟩ = some (.int .i64 up) ∧ w'.cell? ⟨w.heap.size, 1, none⟩ = some (.int .i64 lo) ∧ w'.cell? ⟨w.heap.size, 2, none⟩ = some (.slice (some ⟨b, off, none⟩) rs.length c))
    (first
      | go_keep
      | exact ⟨x0, x1, x2⟩)
    ((refine step_append_lies _ (by rfl) _ _ _ (by rfl) w2.heap.size 77 i0 _ 2 16 Try.underlying34 hi hz0 hz1 hz2 rfl (by omega) _ 0 [] (by rfl) (World.ownsRow_made _ #[] 0 (Nat.le_refl _) (Nat.zero_le _) (by simp)) ⟨b, off, none⟩ rs.length c (flat rs) (by rfl) (flat_len rs) (HC.out _ ((HB2.out.trans ((Below.refl _ w2).drew.mono HB2.out.size)).alloc HB2.out.size _)) flat_one hn0 (by unfold maxLen; omega) (by omega) (by simp) (w2.heap.size + 1) (by simp) ?_
      intro gg cap w5 hown5 hgrow hat hlt5
      have hz5 := (hgrow.block (w.heap.size + 1) (by simp; omega) (by simp [Value.ownBlock]; omega)).trans ((alloc_old (by show w.heap.size + 1 < w2.heap.size; omega)).trans HKz2.out)
      have hf5 := (hgrow.block w.heap.size (by simp; omega) (by simp [Value.ownBlock]; omega)).trans ((alloc_old (by show w.heap.size < w2.heap.size; omega)).trans HKf2.out)
      obtain ⟨x0, x1, x2, _, _, _⟩ := cell3 hf5
      obtain ⟨z0, z1, z2, zf0, zf1, zf2⟩ := cell3 hz5))
  have HW := Lib.hid (show w5.ownsRow w2.heap.size 77 2 (.slice (some ⟨gg, 0, none⟩) rs.length cap) rs.length (flat rs) by simpa using hown5)
  have HB5 := Lib.hid (((HB2.out.trans ((Below.refl _ w2).drew.mono HB2.out.size)).alloc HB2.out.size _).grown hgrow (by simp; omega) (fun k hk => by simp [Value.ownBlock] at hk; omega))
  clear hown5 hgrow hat hlt5 hf5 hz5
  go_wp2_with fail
  exact bodyPost_ret (v := .agg #[.int .i64 up, .int .i64 lo, .slice (some ⟨gg, 0, none⟩) rs.length cap]) (by simp [results, Try.results123, go_sem, z0, z1, z2]) rfl ⟨⟨_, rfl, own_mono (own_set3 HW.out hgap _ _ _) HB2.out.size⟩, bl_set3 HB5.out (Nat.le_succ _) _ _ _⟩
end Go.Proofs.Ythmbehknacjodaa
