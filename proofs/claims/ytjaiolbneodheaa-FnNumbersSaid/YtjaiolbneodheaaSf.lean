/- The reference model's scalar functions on frames. -/
import Derived.Test.YtjaiolbneodheaaGood
namespace Go.Proofs.Ytjaiolbneodheaa
set_option linter.unusedVariables false
open Go.RowKit

def valF (r : Int × Int) : Int := 5 * r.1 + r.2
def numF (rs : List (Int × Int)) : Int := rs.foldl (fun n r => 10 * n + valF r) 0
theorem numF_snoc (rs : List (Int × Int)) (k : Nat) (h : k < rs.length) : numF (rs.take (k + 1)) = 10 * numF (rs.take k) + valF rs[k] := by
  unfold numF; rw [List.take_succ_eq_append_getElem h, List.foldl_append]; rfl
theorem numF_bd (up lo : Int) (rs : List (Int × Int)) (hu : up ≤ 2) (hl : lo ≤ 5) (hg : ∀ (i : Nat) (h : i < rs.length), rodOk up lo rs[i]) : ∀ k, k ≤ rs.length → 0 ≤ numF (rs.take k) ∧ numF (rs.take k) + 2 ≤ 2 * 10 ^ k := by
  intro k
  induction k with
  | zero => intro _; simp [numF]
  | succ k ih =>
    intro hk
    obtain ⟨i1, i2⟩ := ih (by omega)
    obtain ⟨⟨d1, d2⟩, d3, d4⟩ := hg k (by omega)
    rw [numF_snoc rs k (by omega)]
    unfold valF
    rw [Int.pow_succ]
    omega
theorem numF_max (up lo : Int) (rs : List (Int × Int)) (hg : goodF up lo rs) (k : Nat) (hk : k ≤ rs.length) : 0 ≤ numF (rs.take k) ∧ numF (rs.take k) ≤ 200000000 := by
  obtain ⟨g1, ⟨_, g3⟩, ⟨_, g5⟩, _, g7⟩ := hg
  obtain ⟨h1, h2⟩ := numF_bd up lo rs g3 g5 g1 k hk
  have h3 : (10 : Int) ^ k ≤ 10 ^ 8 := by
    have : (10 : Nat) ^ k ≤ 10 ^ 8 := Nat.pow_le_pow_right (by decide) (by omega)
    exact_mod_cast this
  have h4 : (10 : Int) ^ 8 = 100000000 := by decide
  omega

set_option maxRecDepth 100000 in
set_option maxHeartbeats 400000 in
theorem l2Value_any (x y : Int) (w : World) (hx : 0 ≤ x) (hx2 : x ≤ 1000) (hy : 0 ≤ y) (hy2 : y ≤ 1000) :
    Calls Try.prog 107 #[.agg #[.int .i64 x, .int .i64 y]] w fun e w' => e = .returned (.int .i64 (5 * x + y)) ∧ Below w.heap.size w w' := by
  go_enter Try.func107, Try.ntmps107
  go_wp2_with fail
  go_ret
  exact ⟨rfl, (Below.refl _ _).alloc (Nat.le_refl _) _⟩

set_option maxRecDepth 100000 in
set_option maxHeartbeats 1600000 in
theorem l2Number_good (up lo : Int) (sv : Value) (rs : List (Int × Int)) (w : World) (h : RodsR w sv rs) (hg : goodF up lo rs) :
    Calls Try.prog 110 #[.agg #[.int .i64 up, .int .i64 lo, sv]] w fun e w' => e = .returned (.int .i64 (numF rs)) ∧ Below w.heap.size w w' := by
  obtain ⟨a, cp, rfl, ⟨m1, _⟩, r1⟩ := h
  have HN : Hid (∀ k, k ≤ rs.length → 0 ≤ numF (rs.take k) ∧ numF (rs.take k) ≤ 200000000) := Lib.hid (numF_max up lo rs hg)
  obtain ⟨g1, ⟨g2, g3⟩, ⟨g4, g5⟩, g6, g7⟩ := hg
  have R1 := Lib.hid r1
  have G1 := Lib.hid g1
  clear r1 g1 m1
  go_enter Try.func110, Try.ntmps110
  go_wp2_with fail
  go_loopw [3, 4] (fun n i wr => ∃ k : Nat, k ≤ rs.length ∧ i = .int .i64 k ∧ n = .int .i64 (numF (rs.take k)) ∧ wr.heap[w.heap.size]? = some (.cells #[.int .i64 up, .int .i64 lo, .slice a rs.length cp] 28 (0, 0)) ∧ Below w.heap.size w wr) (fun _ i _ => rs.length - (intOf i).toNat)
  case atStart => exact ⟨0, Nat.zero_le _, rfl, rfl, alloc_at rfl, (Below.refl _ _).alloc (Nat.le_refl _) _⟩
  case round =>
    obtain ⟨k, hk, rfl, rfl, hh, hb⟩ := hrel
    obtain ⟨c0, c1, c2, _, _, _⟩ := cell3 hh
    have HH := Lib.hid hh
    have HB := Lib.hid hb
    obtain ⟨n1, n2⟩ := HN.out k hk
    by_cases hlt : k < rs.length
    · obtain ⟨b1, o1, rfl, l1, k1⟩ := R1.out (by intro e; subst e; simp at hlt)
      have p1 := (hb.cell (p := ⟨b1, o1 + k * 2, none⟩) l1).trans (k1 k hlt).1
      have p2 := (hb.cell (p := ⟨b1, o1 + k * 2 + 1, none⟩) l1).trans (k1 k hlt).2
      obtain ⟨⟨d1, d2⟩, d3, d4⟩ := G1.out k hlt
      have HS := Lib.hid (numF_snoc rs k hlt)
      clear k1 hh hb
      go_wp2_with fail
      refine (l2Value_any rs[k].1 rs[k].2 _ d1 (by omega) d3 (by omega)).mono ?_
      rintro e w3 ⟨rfl, hb3⟩
      go_wp2_with fail
      go_roundw
      case rel => exact ⟨k + 1, by omega, by go_num, by rw [HS.out]; rfl, (hb3.block _ (lt_of_block HH.out)).trans HH.out, HB.out.trans (hb3.mono HB.out.size)⟩
      case measure => simp [intOf]; omega
    · have HT : Hid (numF (rs.take k) = numF rs) := Lib.hid (by rw [List.take_of_length_le (by omega)])
      clear hh hb
      go_wp2_with fail
      go_ret
      exact ⟨ret_int HT.out, HB.out⟩

set_option maxRecDepth 100000 in
set_option maxHeartbeats 1600000 in
theorem specNumberOn_no (up lo : Int) (sv : Value) (rs : List (Int × Int)) (w : World) (h : RodsR w sv rs) (hg : ¬ goodF up lo rs) :
    Calls Try.prog 21 #[.agg #[.int .i64 up, .int .i64 lo, sv]] w fun e w' => e = .returned (.tuple #[.int .i64 0, .bool false]) ∧ Below w.heap.size w w' := by
  have HR := Lib.hid h
  have HF : Hid (∃ a c, sv = .slice a rs.length c) := Lib.hid (by obtain ⟨a, c, e, _⟩ := h; exact ⟨a, c, e⟩)
  have HM : Hid (rs.length ≤ 9223372036854775807) := Lib.hid (by obtain ⟨a, c, _, ⟨m, _⟩, _⟩ := h; unfold maxLen at m; omega)
  obtain ⟨a, c, rfl⟩ := HF.out
  clear h HF
  go_enter Try.func21, Try.ntmps21
  go_wp2_with fail
  have HB0 : Hid (Below w.heap.size w (w.alloc (.cells #[.int .i64 up, .int .i64 lo, .slice a rs.length c] 28))) := Lib.hid ((Below.refl _ _).alloc (Nat.le_refl _) _)
  have HK0 : Hid ((w.alloc (.cells #[.int .i64 up, .int .i64 lo, .slice a rs.length c] 28)).heap[w.heap.size]? = some (.cells #[.int .i64 up, .int .i64 lo, .slice a rs.length c] 28 (0, 0))) := Lib.hid (alloc_at rfl)
  generalize (w.alloc (.cells #[.int .i64 up, .int .i64 lo, .slice a rs.length c] 28)) = w0 at HB0 HK0 ⊢
  have HR0 := Lib.hid (HR.out.below HB0.out (Nat.le_refl _))
  refine (l2Good_no up lo _ rs _ HR0.out hg).mono ?_
  rintro e w1 ⟨rfl, hb⟩
  have HB1 : Hid (Below w.heap.size w w1) := Lib.hid (HB0.out.trans (hb.mono HB0.out.size))
  have HK1 := Lib.hid ((hb.block _ (lt_of_block HK0.out)).trans HK0.out)
  have HR1 := Lib.hid (HR0.out.below hb (Nat.le_refl _))
  obtain ⟨c0, c1, c2, _, _, _⟩ := cell3 HK1.out
  clear hb
  go_wp2_with fail
  go_ret2
  exact ⟨rfl, HB1.out⟩
set_option maxRecDepth 100000 in
set_option maxHeartbeats 1600000 in
theorem specNumberOn_yes (up lo : Int) (sv : Value) (rs : List (Int × Int)) (w : World) (h : RodsR w sv rs) (hg : goodF up lo rs) :
    Calls Try.prog 21 #[.agg #[.int .i64 up, .int .i64 lo, sv]] w fun e w' => e = .returned (.tuple #[.int .i64 (numF rs), .bool true]) ∧ Below w.heap.size w w' := by
  have HR := Lib.hid h
  have HF : Hid (∃ a c, sv = .slice a rs.length c) := Lib.hid (by obtain ⟨a, c, e, _⟩ := h; exact ⟨a, c, e⟩)
  have HM : Hid (rs.length ≤ 9223372036854775807) := Lib.hid (by obtain ⟨a, c, _, ⟨m, _⟩, _⟩ := h; unfold maxLen at m; omega)
  obtain ⟨a, c, rfl⟩ := HF.out
  clear h HF
  go_enter Try.func21, Try.ntmps21
  go_wp2_with fail
  have HB0 : Hid (Below w.heap.size w (w.alloc (.cells #[.int .i64 up, .int .i64 lo, .slice a rs.length c] 28))) := Lib.hid ((Below.refl _ _).alloc (Nat.le_refl _) _)
  have HK0 : Hid ((w.alloc (.cells #[.int .i64 up, .int .i64 lo, .slice a rs.length c] 28)).heap[w.heap.size]? = some (.cells #[.int .i64 up, .int .i64 lo, .slice a rs.length c] 28 (0, 0))) := Lib.hid (alloc_at rfl)
  generalize (w.alloc (.cells #[.int .i64 up, .int .i64 lo, .slice a rs.length c] 28)) = w0 at HB0 HK0 ⊢
  have HR0 := Lib.hid (HR.out.below HB0.out (Nat.le_refl _))
  refine (l2Good_yes up lo _ rs _ HR0.out hg).mono ?_
  rintro e w1 ⟨rfl, hb⟩
  have HB1 : Hid (Below w.heap.size w w1) := Lib.hid (HB0.out.trans (hb.mono HB0.out.size))
  have HK1 := Lib.hid ((hb.block _ (lt_of_block HK0.out)).trans HK0.out)
  have HR1 := Lib.hid (HR0.out.below hb (Nat.le_refl _))
  obtain ⟨c0, c1, c2, _, _, _⟩ := cell3 HK1.out
  clear hb
  go_wp2_with fail
  refine (l2Number_good up lo _ rs _ HR1.out hg).mono ?_
  rintro e w2 ⟨rfl, hb⟩
  have HB2 : Hid (Below w.heap.size w w2) := Lib.hid (HB1.out.trans (hb.mono HB1.out.size))
  have HK2 := Lib.hid ((hb.block _ (lt_of_block HK1.out)).trans HK1.out)
  have HR2 := Lib.hid (HR1.out.below hb (Nat.le_refl _))
  obtain ⟨c0, c1, c2, _, _, _⟩ := cell3 HK2.out
  clear hb
  go_wp2_with fail
  go_ret2
  exact ⟨rfl, HB2.out⟩
set_option maxRecDepth 100000 in
set_option maxHeartbeats 1600000 in
theorem l2Rod_bad (up lo : Int) (sv : Value) (rs : List (Int × Int)) (w : World) (h : RodsR w sv rs) (q : Int) (hg : ¬ goodF up lo rs) :
    Calls Try.prog 103 #[.agg #[.int .i64 up, .int .i64 lo, sv], .int .i64 q] w fun e w' => e = .returned (.bool false) ∧ Below w.heap.size w w' := by
  have HR := Lib.hid h
  have HF : Hid (∃ a c, sv = .slice a rs.length c) := Lib.hid (by obtain ⟨a, c, e, _⟩ := h; exact ⟨a, c, e⟩)
  have HM : Hid (rs.length ≤ 9223372036854775807) := Lib.hid (by obtain ⟨a, c, _, ⟨m, _⟩, _⟩ := h; unfold maxLen at m; omega)
  obtain ⟨a, c, rfl⟩ := HF.out
  clear h HF
  go_enter Try.func103, Try.ntmps103
  go_wp2_with fail
  have HB0 : Hid (Below w.heap.size w (w.alloc (.cells #[.int .i64 up, .int .i64 lo, .slice a rs.length c] 28))) := Lib.hid ((Below.refl _ _).alloc (Nat.le_refl _) _)
  have HK0 : Hid ((w.alloc (.cells #[.int .i64 up, .int .i64 lo, .slice a rs.length c] 28)).heap[w.heap.size]? = some (.cells #[.int .i64 up, .int .i64 lo, .slice a rs.length c] 28 (0, 0))) := Lib.hid (alloc_at rfl)
  generalize (w.alloc (.cells #[.int .i64 up, .int .i64 lo, .slice a rs.length c] 28)) = w0 at HB0 HK0 ⊢
  have HR0 := Lib.hid (HR.out.below HB0.out (Nat.le_refl _))
  refine (l2Good_no up lo _ rs _ HR0.out hg).mono ?_
  rintro e w1 ⟨rfl, hb⟩
  have HB1 : Hid (Below w.heap.size w w1) := Lib.hid (HB0.out.trans (hb.mono HB0.out.size))
  have HK1 := Lib.hid ((hb.block _ (lt_of_block HK0.out)).trans HK0.out)
  have HR1 := Lib.hid (HR0.out.below hb (Nat.le_refl _))
  obtain ⟨c0, c1, c2, _, _, _⟩ := cell3 HK1.out
  clear hb
  go_wp2_with fail
  go_ret
  exact ⟨rfl, HB1.out⟩
set_option maxRecDepth 100000 in
set_option maxHeartbeats 1600000 in
theorem l2Rod_good (up lo : Int) (sv : Value) (rs : List (Int × Int)) (w : World) (h : RodsR w sv rs) (q : Int) (hg : goodF up lo rs) :
    Calls Try.prog 103 #[.agg #[.int .i64 up, .int .i64 lo, sv], .int .i64 q] w fun e w' => e = .returned (.bool (inB q 0 ((rs.length : Int) - 1))) ∧ Below w.heap.size w w' := by
  have HR := Lib.hid h
  have HF : Hid (∃ a c, sv = .slice a rs.length c) := Lib.hid (by obtain ⟨a, c, e, _⟩ := h; exact ⟨a, c, e⟩)
  have HM : Hid (rs.length ≤ 9223372036854775807) := Lib.hid (by obtain ⟨a, c, _, ⟨m, _⟩, _⟩ := h; unfold maxLen at m; omega)
  obtain ⟨a, c, rfl⟩ := HF.out
  clear h HF
  go_enter Try.func103, Try.ntmps103
  go_wp2_with fail
  have HB0 : Hid (Below w.heap.size w (w.alloc (.cells #[.int .i64 up, .int .i64 lo, .slice a rs.length c] 28))) := Lib.hid ((Below.refl _ _).alloc (Nat.le_refl _) _)
  have HK0 : Hid ((w.alloc (.cells #[.int .i64 up, .int .i64 lo, .slice a rs.length c] 28)).heap[w.heap.size]? = some (.cells #[.int .i64 up, .int .i64 lo, .slice a rs.length c] 28 (0, 0))) := Lib.hid (alloc_at rfl)
  generalize (w.alloc (.cells #[.int .i64 up, .int .i64 lo, .slice a rs.length c] 28)) = w0 at HB0 HK0 ⊢
  have HR0 := Lib.hid (HR.out.below HB0.out (Nat.le_refl _))
  have hl1 : (rs.length : Int) ≤ 8 := by obtain ⟨_, _, _, g6, g7⟩ := hg; omega
  have hl2 : 1 ≤ (rs.length : Int) := by obtain ⟨_, _, _, g6, g7⟩ := hg; omega
  have HG := Lib.hid hg
  clear hg
  refine (l2Good_yes up lo _ rs _ HR0.out HG.out).mono ?_
  rintro e w1 ⟨rfl, hb⟩
  have HB1 : Hid (Below w.heap.size w w1) := Lib.hid (HB0.out.trans (hb.mono HB0.out.size))
  have HK1 := Lib.hid ((hb.block _ (lt_of_block HK0.out)).trans HK0.out)
  have HR1 := Lib.hid (HR0.out.below hb (Nat.le_refl _))
  obtain ⟨c0, c1, c2, _, _, _⟩ := cell3 HK1.out
  clear hb
  go_wp2_with fail
  refine (l1In_any q 0 _ _).mono ?_
  rintro e w' ⟨rfl, rfl⟩
  go_wp2_with fail
  go_ret
  exact ⟨rfl, HB1.out⟩
set_option maxRecDepth 100000 in
set_option maxHeartbeats 1600000 in
theorem specRodValue_bad (up lo : Int) (sv : Value) (rs : List (Int × Int)) (w : World) (h : RodsR w sv rs) (q : Int) (hg : ¬ goodF up lo rs) :
    Calls Try.prog 19 #[.agg #[.int .i64 up, .int .i64 lo, sv], .int .i64 q] w fun e w' => e = .returned (.tuple #[.int .i64 0, .bool false]) ∧ Below w.heap.size w w' := by
  have HR := Lib.hid h
  have HF : Hid (∃ a c, sv = .slice a rs.length c) := Lib.hid (by obtain ⟨a, c, e, _⟩ := h; exact ⟨a, c, e⟩)
  have HM : Hid (rs.length ≤ 9223372036854775807) := Lib.hid (by obtain ⟨a, c, _, ⟨m, _⟩, _⟩ := h; unfold maxLen at m; omega)
  obtain ⟨a, c, rfl⟩ := HF.out
  clear h HF
  go_enter Try.func19, Try.ntmps19
  go_wp2_with fail
  have HB0 : Hid (Below w.heap.size w (w.alloc (.cells #[.int .i64 up, .int .i64 lo, .slice a rs.length c] 28))) := Lib.hid ((Below.refl _ _).alloc (Nat.le_refl _) _)
  have HK0 : Hid ((w.alloc (.cells #[.int .i64 up, .int .i64 lo, .slice a rs.length c] 28)).heap[w.heap.size]? = some (.cells #[.int .i64 up, .int .i64 lo, .slice a rs.length c] 28 (0, 0))) := Lib.hid (alloc_at rfl)
  generalize (w.alloc (.cells #[.int .i64 up, .int .i64 lo, .slice a rs.length c] 28)) = w0 at HB0 HK0 ⊢
  have HR0 := Lib.hid (HR.out.below HB0.out (Nat.le_refl _))
  refine (l2Rod_bad up lo _ rs _ HR0.out q hg).mono ?_
  rintro e w1 ⟨rfl, hb⟩
  have HB1 : Hid (Below w.heap.size w w1) := Lib.hid (HB0.out.trans (hb.mono HB0.out.size))
  have HK1 := Lib.hid ((hb.block _ (lt_of_block HK0.out)).trans HK0.out)
  have HR1 := Lib.hid (HR0.out.below hb (Nat.le_refl _))
  obtain ⟨c0, c1, c2, _, _, _⟩ := cell3 HK1.out
  clear hb
  go_wp2_with fail
  go_ret2
  exact ⟨rfl, HB1.out⟩
set_option maxRecDepth 100000 in
set_option maxHeartbeats 1600000 in
theorem specRodValue_out (up lo : Int) (sv : Value) (rs : List (Int × Int)) (w : World) (h : RodsR w sv rs) (q : Int) (hg : goodF up lo rs) (hq : ¬ (0 ≤ q ∧ q ≤ (rs.length : Int) - 1)) :
    Calls Try.prog 19 #[.agg #[.int .i64 up, .int .i64 lo, sv], .int .i64 q] w fun e w' => e = .returned (.tuple #[.int .i64 0, .bool false]) ∧ Below w.heap.size w w' := by
  have HR := Lib.hid h
  have HF : Hid (∃ a c, sv = .slice a rs.length c) := Lib.hid (by obtain ⟨a, c, e, _⟩ := h; exact ⟨a, c, e⟩)
  have HM : Hid (rs.length ≤ 9223372036854775807) := Lib.hid (by obtain ⟨a, c, _, ⟨m, _⟩, _⟩ := h; unfold maxLen at m; omega)
  obtain ⟨a, c, rfl⟩ := HF.out
  clear h HF
  go_enter Try.func19, Try.ntmps19
  go_wp2_with fail
  have HB0 : Hid (Below w.heap.size w (w.alloc (.cells #[.int .i64 up, .int .i64 lo, .slice a rs.length c] 28))) := Lib.hid ((Below.refl _ _).alloc (Nat.le_refl _) _)
  have HK0 : Hid ((w.alloc (.cells #[.int .i64 up, .int .i64 lo, .slice a rs.length c] 28)).heap[w.heap.size]? = some (.cells #[.int .i64 up, .int .i64 lo, .slice a rs.length c] 28 (0, 0))) := Lib.hid (alloc_at rfl)
  generalize (w.alloc (.cells #[.int .i64 up, .int .i64 lo, .slice a rs.length c] 28)) = w0 at HB0 HK0 ⊢
  have HR0 := Lib.hid (HR.out.below HB0.out (Nat.le_refl _))
  have hi := inB_no hq
  clear hq
  refine (l2Rod_good up lo _ rs _ HR0.out q hg).mono ?_
  rintro e w1 ⟨rfl, hb⟩
  have HB1 : Hid (Below w.heap.size w w1) := Lib.hid (HB0.out.trans (hb.mono HB0.out.size))
  have HK1 := Lib.hid ((hb.block _ (lt_of_block HK0.out)).trans HK0.out)
  have HR1 := Lib.hid (HR0.out.below hb (Nat.le_refl _))
  obtain ⟨c0, c1, c2, _, _, _⟩ := cell3 HK1.out
  clear hb
  go_wp2_with fail
  go_ret2
  exact ⟨rfl, HB1.out⟩
set_option maxRecDepth 100000 in
set_option maxHeartbeats 1600000 in
theorem specRodValue_in (up lo : Int) (sv : Value) (rs : List (Int × Int)) (w : World) (h : RodsR w sv rs) (q : Nat) (hq : q < rs.length) (hg : goodF up lo rs) :
    Calls Try.prog 19 #[.agg #[.int .i64 up, .int .i64 lo, sv], .int .i64 q] w fun e w' => e = .returned (.tuple #[.int .i64 (valF rs[q]), .bool true]) ∧ Below w.heap.size w w' := by
  have HR := Lib.hid h
  have HF : Hid (∃ a c, sv = .slice a rs.length c) := Lib.hid (by obtain ⟨a, c, e, _⟩ := h; exact ⟨a, c, e⟩)
  have HM : Hid (rs.length ≤ 9223372036854775807) := Lib.hid (by obtain ⟨a, c, _, ⟨m, _⟩, _⟩ := h; unfold maxLen at m; omega)
  obtain ⟨a, c, rfl⟩ := HF.out
  clear h HF
  go_enter Try.func19, Try.ntmps19
  go_wp2_with fail
  have HB0 : Hid (Below w.heap.size w (w.alloc (.cells #[.int .i64 up, .int .i64 lo, .slice a rs.length c] 28))) := Lib.hid ((Below.refl _ _).alloc (Nat.le_refl _) _)
  have HK0 : Hid ((w.alloc (.cells #[.int .i64 up, .int .i64 lo, .slice a rs.length c] 28)).heap[w.heap.size]? = some (.cells #[.int .i64 up, .int .i64 lo, .slice a rs.length c] 28 (0, 0))) := Lib.hid (alloc_at rfl)
  generalize (w.alloc (.cells #[.int .i64 up, .int .i64 lo, .slice a rs.length c] 28)) = w0 at HB0 HK0 ⊢
  have HR0 := Lib.hid (HR.out.below HB0.out (Nat.le_refl _))
  have hi : inB (q : Int) 0 ((rs.length : Int) - 1) = true := inB_yes (by omega) (by omega)
  have HG := Lib.hid hg
  obtain ⟨⟨d1, d2⟩, d3, d4⟩ := hg.1 q hq
  obtain ⟨_, ⟨_, g3⟩, ⟨_, g5⟩, _⟩ := hg
  have hm : rs.length ≤ 9223372036854775807 := HM.out
  refine (l2Rod_good up lo _ rs _ HR0.out q HG.out).mono ?_
  rintro e w1 ⟨rfl, hb⟩
  have HB1 : Hid (Below w.heap.size w w1) := Lib.hid (HB0.out.trans (hb.mono HB0.out.size))
  have HK1 := Lib.hid ((hb.block _ (lt_of_block HK0.out)).trans HK0.out)
  have HR1 := Lib.hid (HR0.out.below hb (Nat.le_refl _))
  obtain ⟨c0, c1, c2, _, _, _⟩ := cell3 HK1.out
  clear hb
  obtain ⟨a2, c2', he, _, k2⟩ := HR1.out
  obtain ⟨b1, o1, e1, l1, kk⟩ := k2 (by intro e; subst e; simp at hq)
  have hae : a = some ⟨b1, o1, none⟩ := by injection he with he; rw [he, e1]
  subst hae
  obtain ⟨p1, p2⟩ := kk q hq
  clear he k2 kk e1 l1
  go_wp2_with fail
  refine (l2Value_any rs[q].1 rs[q].2 _ d1 (by omega) d3 (by omega)).mono ?_
  rintro e w3 ⟨rfl, hb3⟩
  go_wp2_with fail
  go_ret2
  exact ⟨rfl, HB1.out.trans (hb3.mono HB1.out.size)⟩
def stdR (r : Int × Int) : Prop := r.1 ≤ 1 ∧ r.2 ≤ 4
end Go.Proofs.Ytjaiolbneodheaa
