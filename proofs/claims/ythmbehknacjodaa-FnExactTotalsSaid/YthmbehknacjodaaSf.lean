/- The reference model's scalar functions on frames. -/
import Derived.Test.YthmbehknacjodaaGood
namespace Go.Proofs.Ythmbehknacjodaa
set_option linter.unusedVariables false
open Go.RowKit

def valF (r : Int × Int) : Int := 5 * r.1 + r.2
def numF (rs : List (Int × Int)) : Int := rs.foldl (fun n r => 10 * n + valF r) 0
theorem numF_snoc (rs : List (Int × Int)) (k : Nat) (h : k < rs.length) : numF (rs.take (k + 1)) = 10 * numF (rs.take k) + valF rs[k] := by
  unfold numF; rw [List.take_succ_eq_append_getElem h, List.foldl_append]; rfl
theorem numF_bd (up lo : Int) (rs : List (Int × Int)) (hu : up ≤ 2) (hl : lo ≤ 5) (hg : ∀ (i : Nat) (h : i < rs.length), rodOk up lo rs[i]) : ∀ k, k ≤ rs.length → 0 ≤ numF (rs.take k) ∧ numF (rs.take k) + 2 ≤ 2 * 10 ^ k := by
  intro k
  induction k with
  | zero => intro _; simp [numF]
  | succ k ih =>
    intro hk
    obtain ⟨i1, i2⟩ := ih (by omega)
    obtain ⟨⟨d1, d2⟩, d3, d4⟩ := hg k (by omega)
    rw [numF_snoc rs k (by omega)]
    unfold valF
    rw [Int.pow_succ]
    omega
theorem numF_max (up lo : Int) (rs : List (Int × Int)) (hg : goodF up lo rs) (k : Nat) (hk : k ≤ rs.length) : 0 ≤ numF (rs.take k) ∧ numF (rs.take k) ≤ 200000000 := by
  obtain ⟨g1, ⟨_, g3⟩, ⟨_, g5⟩, _, g7⟩ := hg
  obtain ⟨h1, h2⟩ := numF_bd up lo rs g3 g5 g1 k hk
  have h3 : (10 : Int) ^ k ≤ 10 ^ 8 := by
    have : (10 : Nat) ^ k ≤ 10 ^ 8 := Nat.pow_le_pow_right (by decide) (by omega)
    exact_mod_cast this
  have h4 : (10 : Int) ^ 8 = 100000000 := by decide
  omega

set_option maxRecDepth 100000 in
set_option maxHeartbeats 400000 in
theorem l2Value_any (x y : Int) (w : World) (hx : 0 ≤ x) (hx2 : x ≤ 1000) (hy : 0 ≤ y) (hy2 : y ≤ 1000) :
    Calls Try.prog 125 #[.agg #[.int .i64 x, .int .i64 y]] w fun e w' => e = .returned (.int .i64 (5 * x + y)) ∧ Below w.heap.size w w' := by
  go_enter Try.func125, Try.ntmps125
  go_wp2_with fail
  go_ret
  exact ⟨rfl, (Below.refl _ _).alloc (Nat.le_refl _) _⟩

set_option maxRecDepth 100000 in
set_option maxHeartbeats 1600000 in
theorem l2Number_good (up lo : Int) (sv : Value) (rs : List (Int × Int)) (w : World) (h : RodsR w sv rs) (hg : goodF up lo rs) :
    Calls Try.prog 110 #[.agg #[.int .i64 up, .int .i64 lo, sv]] w fun e w' => e = .returned (.int .i64 (numF rs)) ∧ Below w.heap.size w w' := by
  obtain ⟨a, cp, rfl, ⟨m1, _⟩, r1⟩ := h
  have HN : Hid (∀ k, k ≤ rs.length → 0 ≤ numF (rs.take k) ∧ numF (rs.take k) ≤ 200000000) := Lib.hid (numF_max up lo rs hg)
  obtain ⟨g1, ⟨g2, g3⟩, ⟨g4, g5⟩, g6, g7⟩ := hg
  have R1 := Lib.hid r1
  have G1 := Lib.hid g1
  clear r1 g1 m1
  go_enter Try.func110, Try.ntmps110
  go_wp2_with fail
  go_loopw [3, 4] (fun n i wr => ∃ k : Nat, k ≤ rs.length ∧ i = .int .i64 k ∧ n = .int .i64 (numF (rs.take k)) ∧ wr.heap[w.heap.size]? = some (.cells #[.int .i64 up, .int .i64 lo, .slice a rs.length cp] 42 (0, 0)) ∧ Below w.heap.size w wr) (fun _ i _ => rs.length - (intOf i).toNat)
  case atStart => exact ⟨0, Nat.zero_le _, rfl, rfl, alloc_at rfl, (Below.refl _ _).alloc (Nat.le_refl _) _⟩
  case round =>
    obtain ⟨k, hk, rfl, rfl, hh, hb⟩ := hrel
    obtain ⟨c0, c1, c2, _, _, _⟩ := cell3 hh
    have HH := Lib.hid hh
    have HB := Lib.hid hb
    obtain ⟨n1, n2⟩ := HN.out k hk
    by_cases hlt : k < rs.length
    · obtain ⟨b1, o1, rfl, l1, k1⟩ := R1.out (by intro e; subst e; simp at hlt)
      have p1 := (hb.cell (p := ⟨b1, o1 + k * 2, none⟩) l1).trans (k1 k hlt).1
      have p2 := (hb.cell (p := ⟨b1, o1 + k * 2 + 1, none⟩) l1).trans (k1 k hlt).2
      obtain ⟨⟨d1, d2⟩, d3, d4⟩ := G1.out k hlt
      have HS := Lib.hid (numF_snoc rs k hlt)
      clear k1 hh hb
      go_wp2_with fail
      refine (l2Value_any rs[k].1 rs[k].2 _ d1 (by omega) d3 (by omega)).mono ?_
      rintro e w3 ⟨rfl, hb3⟩
      go_wp2_with fail
      go_roundw
      case rel => exact ⟨k + 1, by omega, by go_num, by rw [HS.out]; rfl, (hb3.block _ (lt_of_block HH.out)).trans HH.out, HB.out.trans (hb3.mono HB.out.size)⟩
      case measure => simp [intOf]; omega
    · have HT : Hid (numF (rs.take k) = numF rs) := Lib.hid (by rw [List.take_of_length_le (by omega)])
      clear hh hb
      go_wp2_with fail
      go_ret
      exact ⟨ret_int HT.out, HB.out⟩

def stdR (r : Int × Int) : Prop := r.1 ≤ 1 ∧ r.2 ≤ 4
set_option maxRecDepth 100000 in
set_option maxHeartbeats 1600000 in
theorem l2Standard_yes (up lo : Int) (sv : Value) (rs : List (Int × Int)) (w : World) (h : RodsR w sv rs) (hg : goodF up lo rs) (hs : ∀ (i : Nat) (h : i < rs.length), stdR rs[i]) :
    Calls Try.prog 109 #[.agg #[.int .i64 up, .int .i64 lo, sv]] w fun e w' => e = .returned (.bool true) ∧ Below w.heap.size w w' := by
  have HRR := Lib.hid h
  obtain ⟨a, cp, rfl, ⟨m1, _⟩, r1⟩ := h
  have HG := Lib.hid hg
  obtain ⟨g1, ⟨g2, g3⟩, ⟨g4, g5⟩, g6, g7⟩ := hg
  have R1 := Lib.hid r1
  have G1 := Lib.hid g1
  have S1 := Lib.hid hs
  clear hs
  clear r1 g1 m1
  go_enter Try.func109, Try.ntmps109
  go_wp2_with fail
  go_loopw [3] (fun i wr => ∃ k : Nat, k ≤ rs.length ∧ i = .int .i64 k ∧ wr.heap[w.heap.size]? = some (.cells #[.int .i64 up, .int .i64 lo, .slice a rs.length cp] 42 (0, 0)) ∧ Below w.heap.size w wr) (fun i _ => rs.length - (intOf i).toNat)
  case atStart => exact ⟨0, Nat.zero_le _, rfl, alloc_at rfl, (Below.refl _ _).alloc (Nat.le_refl _) _⟩
  case round =>
    obtain ⟨k, hk, rfl, hh, hb⟩ := hrel
    obtain ⟨c0, c1, c2, _, _, _⟩ := cell3 hh
    have HH := Lib.hid hh
    have HB := Lib.hid hb
    by_cases hlt : k < rs.length
    · have hs := S1.out k hlt
      obtain ⟨s1, s2⟩ := hs
      obtain ⟨b1, o1, rfl, l1, k1⟩ := R1.out (by intro e; subst e; simp at hlt)
      have p1 := (hb.cell (p := ⟨b1, o1 + k * 2, none⟩) l1).trans (k1 k hlt).1
      have p2 := (hb.cell (p := ⟨b1, o1 + k * 2 + 1, none⟩) l1).trans (k1 k hlt).2
      have z1 : (0 : Int) ≤ (k : Int) := by omega
      have z2 : (k : Int) < (rs.length : Int) := by omega
      clear k1 hh hb
      go_wp2_with fail
      go_roundw
      case rel => exact ⟨k + 1, by omega, by go_num, HH.out, HB.out⟩
      case measure => simp [intOf]; omega
    · have hrr : RodsR wr (.slice a rs.length cp) rs := HRR.out.below HB.out (Nat.le_refl _)
      clear hh hb
      go_wp2_with fail
      refine (l2Good_yes up lo _ rs _ hrr HG.out).mono ?_
      rintro e w3 ⟨rfl, hb3⟩
      go_wp2_with fail
      go_ret
      exact ⟨rfl, HB.out.trans (hb3.mono HB.out.size)⟩
set_option maxRecDepth 100000 in
set_option maxHeartbeats 1600000 in
theorem l2Standard_no (up lo : Int) (sv : Value) (rs : List (Int × Int)) (w : World) (h : RodsR w sv rs) (hg : goodF up lo rs) (p : Nat) (hp : p < rs.length) (hpre : ∀ (i : Nat) (h : i < rs.length), i < p → stdR rs[i]) (hx : ¬ stdR rs[p]) :
    Calls Try.prog 109 #[.agg #[.int .i64 up, .int .i64 lo, sv]] w fun e w' => e = .returned (.bool false) ∧ Below w.heap.size w w' := by
  have HRR := Lib.hid h
  obtain ⟨a, cp, rfl, ⟨m1, _⟩, r1⟩ := h
  have HG := Lib.hid hg
  obtain ⟨g1, ⟨g2, g3⟩, ⟨g4, g5⟩, g6, g7⟩ := hg
  have R1 := Lib.hid r1
  have G1 := Lib.hid g1
  have S1 := Lib.hid hpre
  have HX := Lib.hid hx
  clear hpre hx
  clear r1 g1 m1
  go_enter Try.func109, Try.ntmps109
  go_wp2_with fail
  go_loopw [3] (fun i wr => ∃ k : Nat, k ≤ p ∧ i = .int .i64 k ∧ wr.heap[w.heap.size]? = some (.cells #[.int .i64 up, .int .i64 lo, .slice a rs.length cp] 42 (0, 0)) ∧ Below w.heap.size w wr) (fun i _ => rs.length - (intOf i).toNat)
  case atStart => exact ⟨0, Nat.zero_le _, rfl, alloc_at rfl, (Below.refl _ _).alloc (Nat.le_refl _) _⟩
  case round =>
    obtain ⟨k, hk, rfl, hh, hb⟩ := hrel
    obtain ⟨c0, c1, c2, _, _, _⟩ := cell3 hh
    have HH := Lib.hid hh
    have HB := Lib.hid hb
    have hlt : k < rs.length := by omega
    by_cases hkp : k < p
    · obtain ⟨s1, s2⟩ := S1.out k hlt hkp
      obtain ⟨b1, o1, rfl, l1, k1⟩ := R1.out (by intro e; subst e; simp at hlt)
      have p1 := (hb.cell (p := ⟨b1, o1 + k * 2, none⟩) l1).trans (k1 k hlt).1
      have p2 := (hb.cell (p := ⟨b1, o1 + k * 2 + 1, none⟩) l1).trans (k1 k hlt).2
      have z1 : (0 : Int) ≤ (k : Int) := by omega
      have z2 : (k : Int) < (rs.length : Int) := by omega
      clear k1 hh hb
      go_wp2_with fail
      go_roundw
      case rel => exact ⟨k + 1, by omega, by go_num, HH.out, HB.out⟩
      case measure => simp [intOf]; omega
    · have hkp' : k = p := by omega
      subst hkp'
      obtain ⟨b1, o1, rfl, l1, k1⟩ := R1.out (by intro e; subst e; simp at hlt)
      have p1 := (hb.cell (p := ⟨b1, o1 + k * 2, none⟩) l1).trans (k1 k hlt).1
      have p2 := (hb.cell (p := ⟨b1, o1 + k * 2 + 1, none⟩) l1).trans (k1 k hlt).2
      have z1 : (0 : Int) ≤ (k : Int) := by omega
      have z2 : (k : Int) < (rs.length : Int) := by omega
      clear k1 hh hb
      by_cases s1 : rs[k].1 ≤ 1
      · have s2 : 4 < rs[k].2 := by
          rcases Int.lt_or_le 4 rs[k].2 with h | h
          · exact h
          · exact absurd ⟨s1, h⟩ HX.out
        go_wp2_with fail
        go_ret
        exact ⟨rfl, HB.out⟩
      · go_wp2_with fail
        go_ret
        exact ⟨rfl, HB.out⟩
end Go.Proofs.Ythmbehknacjodaa
