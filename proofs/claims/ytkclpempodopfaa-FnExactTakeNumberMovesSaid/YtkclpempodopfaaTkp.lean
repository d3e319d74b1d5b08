/- The program's takings: what is set when a digit is taken, as a chain of boxes. -/
import Derived.Test.YtkclpempodopfaaTkm
import Derived.Test.YtkclpempodopfaaIScal
import Derived.Test.YtkclpempodopfaaCob
namespace Go.Proofs.Ytkclpempodopfaa
set_option linter.unusedVariables false
open Go.RowKit

/-- In a world: a chain of takings from block lo on. -/
def TkCh (w : World) (lo : Nat) : Value → List (Nat × Int) → Prop
  | p, [] => p = .pointer none
  | p, (q, x) :: t => ∃ a p', p = .pointer (some ⟨a, 0, none⟩) ∧ lo ≤ a ∧ w.heap[a]? = some (.cells #[.int .i64 (q : Nat), .int .i64 x, p'] 107 (0, 0)) ∧ TkCh w lo p' t
theorem TkCh.kept {w w' : World} : ∀ (L : List (Nat × Int)) (lo : Nat) (p : Value), TkCh w lo p L → (∀ a cs, lo ≤ a → w.heap[a]? = some (.cells cs 107 (0, 0)) → w'.heap[a]? = w.heap[a]?) → TkCh w' lo p L
  | [], _, _, h, _ => h
  | (q, x) :: t, lo, p, h, hk => by
    obtain ⟨a, p', e, hl, hb, ht⟩ := h
    exact ⟨a, p', e, hl, (hk a _ hl hb).trans hb, TkCh.kept t lo p' ht hk⟩
theorem TkCh.next {w w' : World} {L : List (Nat × Int)} {lo : Nat} {p : Value} (h : TkCh w lo p L) (hb : Below w.heap.size w w') : TkCh w' lo p L :=
  TkCh.kept L lo p h fun a _ _ ha => hb.block a (Array.getElem?_eq_some_iff.1 ha).1
theorem TkCh.mono {w : World} : ∀ {L : List (Nat × Int)} {lo lo' : Nat} {p : Value}, TkCh w lo p L → lo' ≤ lo → TkCh w lo' p L
  | [], _, _, _, h, _ => h
  | (q, x) :: t, lo, lo', p, h, hl => by
    obtain ⟨a, p', e, h1, hb, ht⟩ := h
    exact ⟨a, p', e, by omega, hb, ht.mono hl⟩
/-- A chain that there is if the taking did not fail. -/
def TkO (b : Bool) (w : World) (lo : Nat) (p : Value) (L : List (Nat × Int)) : Prop := b = true → TkCh w lo p L
theorem TkO.next {b : Bool} {w w' : World} {L : List (Nat × Int)} {lo : Nat} {p : Value} (h : TkO b w lo p L) (hb : Below w.heap.size w w') : TkO b w' lo p L := fun e => (h e).next hb
theorem TkCh.form {w : World} {L : List (Nat × Int)} {lo : Nat} {p : Value} (h : TkCh w lo p L) : ∃ o, p = .pointer o := by
  cases L with
  | nil => exact ⟨_, h⟩
  | cons c t => obtain ⟨a, p', e, _⟩ := h; exact ⟨_, e⟩

set_option maxRecDepth 100000 in
set_option maxHeartbeats 1600000 in
theorem takingOf_any (rs : List (Int × Int)) (hs : stdF rs) (hn : rs.length ≤ 8) : ∀ (k : Nat) (d : Int) (b : Bool) (sv : Value) (w : World), RodsR w sv rs → k ≤ rs.length → 0 ≤ d → d ≤ 9 → (b = true ↔ endB k d rs) →
    Calls Try.prog 95 #[sv, .int .i64 ((k : Int) - 1), .int .i64 d] w fun e w' => (∃ o, e = .returned (.tuple #[.pointer o, .bool b]) ∧ TkO b w' w.heap.size (.pointer o) (brL k d rs)) ∧ Below w.heap.size w w'
  | 0, d, b, sv, w, h, hk, h0, h9, hb => by
    obtain ⟨a, c, rfl⟩ : ∃ a c, sv = .slice a rs.length c := by obtain ⟨a, c, e, _⟩ := h; exact ⟨a, c, e⟩
    obtain rfl : b = false := by cases b with | true => exact (hb.1 rfl).elim | false => rfl
    clear h hb
    simp only [Int.natCast_zero, Int.zero_sub]
    go_enter Try.func95, Try.ntmps95
    go_wp2_with fail
    go_ret2
    exact ⟨⟨_, rfl, fun h => (by cases h)⟩, Below.refl _ _⟩
  | k + 1, d, b, sv, w, h, hk, h0, h9, hb => by
    have hm : rs.length ≤ 9223372036854775807 := by omega
    obtain ⟨a, c, rfl⟩ : ∃ a c, sv = .slice a rs.length c := by obtain ⟨a, c, e, _⟩ := h; exact ⟨a, c, e⟩
    have hq1 : (((k + 1 : Nat) : Int) - 1) = (k : Int) := by omega
    simp only [hq1]
    clear hq1
    have hkr : k < rs.length := by omega
    obtain ⟨b1, o1, rfl, p1, p2⟩ := rods_at h w (Below.refl _ _) k hkr
    have hr := hs k hkr
    have HV : Hid (5 * rs[k].1 + rs[k].2 = vAt rs k) := Lib.hid (by rw [vAt_in hkr]; rfl)
    obtain ⟨v, hv⟩ : ∃ v, v = vAt rs k := ⟨_, rfl⟩
    have hvb := vAt_bd hs k
    rw [← hv] at hvb
    have HVE := Lib.hid hv
    have z1 : (0 : Int) ≤ (k : Int) := by omega
    have z2 : (k : Int) < (rs.length : Int) := by omega
    have HE : Hid (b = true ↔ d ≤ v ∨ endB k 1 rs) := Lib.hid (by rw [hv]; exact hb)
    have HL : Hid (brL (k + 1) d rs = if d ≤ v then [(k, v - d)] else (k, v + 10 - d) :: brL k 1 rs) := Lib.hid (by rw [hv]; rfl)
    have HS := Lib.hid hs
    have HR0 := Lib.hid h
    clear hv hb hs
    have HB0 : Hid (Below w.heap.size w w) := Lib.hid (Below.refl _ _)
    have HRf0 := Lib.hid (h)
    clear h
    go_enter Try.func95, Try.ntmps95
    go_wp2_with fail
    refine (valueOf_sgn rs[k].1 rs[k].2 _ ⟨by omega, by omega⟩).mono ?_
    rintro e w1 ⟨rfl, hb⟩
    have HB1 : Hid (Below w.heap.size w w1) := Lib.hid (HB0.out.trans (hb.mono HB0.out.size))
    have HZ1 : Hid (w.heap.size ≤ w1.heap.size) := Lib.hid hb.size
    have HRf1 := Lib.hid (HRf0.out.below HB1.out (Nat.le_refl _))
    clear hb
    rw [HV.out, ← HVE.out]
    by_cases hd : d ≤ v
    · obtain rfl : b = true := HE.out.2 (Or.inl hd)
      rw [if_pos hd] at HL
      go_wp2_with fail
      have hb : Below w1.heap.size w1 (w1.alloc (.cells #[.int .i64 k, .int .i64 (v - d), .pointer none] 107)) := (Below.refl _ _).alloc (Nat.le_refl _) _
      have hk : (w1.alloc (.cells #[.int .i64 k, .int .i64 (v - d), .pointer none] 107)).heap[w1.heap.size]? = some (.cells #[.int .i64 k, .int .i64 (v - d), .pointer none] 107 (0, 0)) := alloc_at rfl
      have hz : (w1.alloc (.cells #[.int .i64 k, .int .i64 (v - d), .pointer none] 107)).heap.size = w1.heap.size + 1 := by simp
      generalize w1.alloc (.cells #[.int .i64 k, .int .i64 (v - d), .pointer none] 107) = w2 at hb hk hz ⊢
      have HB2 : Hid (Below w.heap.size w w2) := Lib.hid (HB1.out.trans (hb.mono HB1.out.size))
      have HZ2 : Hid (w1.heap.size ≤ w2.heap.size) := Lib.hid hb.size
      have HRf2 := Lib.hid (HRf0.out.below HB2.out (Nat.le_refl _))
      have HKt2 := Lib.hid hk
      replace HZ2 : Hid (w1.heap.size < w2.heap.size) := Lib.hid (by omega)
      have HE2 := Lib.hid hz
      clear hb hk hz
      go_ret2
      refine ⟨⟨_, rfl, fun _ => ?_⟩, HB2.out⟩
      rw [HL.out]
      exact ⟨_, _, rfl, HB1.out.size, HKt2.out, rfl⟩
    · rw [if_neg hd] at HL
      have HE2 : Hid (b = true ↔ endB k 1 rs) := Lib.hid ⟨fun h => (HE.out.1 h).resolve_left hd, fun h => HE.out.2 (Or.inr h)⟩
      have hwk : IntKind.i64.wrap ((k : Int) - 1) = (k : Int) - 1 := by rw [IntKind.wrap_i64]; omega
      have hwv : IntKind.i64.wrap (v + 10) = v + 10 := by rw [IntKind.wrap_i64]; omega
      have hwd : IntKind.i64.wrap (v + 10 - d) = v + 10 - d := by rw [IntKind.wrap_i64]; omega
      clear HE
      go_wp2_with fail
      refine (takingOf_any rs HS.out hn k 1 b _ _ HRf1.out (by omega) (by omega) (by omega) HE2.out).mono ?_
      rintro e w2 ⟨⟨o, rfl, hch⟩, hb⟩
      have HB2 : Hid (Below w.heap.size w w2) := Lib.hid (HB1.out.trans (hb.mono HB1.out.size))
      have HZ2 : Hid (w1.heap.size ≤ w2.heap.size) := Lib.hid hb.size
      have HRf2 := Lib.hid (HRf0.out.below HB2.out (Nat.le_refl _))
      clear hb
      have HOch2 := Lib.hid (hch)
      clear hch
      go_wp2_with fail
      have hb : Below w2.heap.size w2 (w2.alloc (.cells #[.int .i64 k, .int .i64 (v + 10 - d), .pointer o] 107)) := (Below.refl _ _).alloc (Nat.le_refl _) _
      have hk : (w2.alloc (.cells #[.int .i64 k, .int .i64 (v + 10 - d), .pointer o] 107)).heap[w2.heap.size]? = some (.cells #[.int .i64 k, .int .i64 (v + 10 - d), .pointer o] 107 (0, 0)) := alloc_at rfl
      have hz : (w2.alloc (.cells #[.int .i64 k, .int .i64 (v + 10 - d), .pointer o] 107)).heap.size = w2.heap.size + 1 := by simp
      generalize w2.alloc (.cells #[.int .i64 k, .int .i64 (v + 10 - d), .pointer o] 107) = w3 at hb hk hz ⊢
      have HB3 : Hid (Below w.heap.size w w3) := Lib.hid (HB2.out.trans (hb.mono HB2.out.size))
      have HZ3 : Hid (w2.heap.size ≤ w3.heap.size) := Lib.hid hb.size
      have HRf3 := Lib.hid (HRf0.out.below HB3.out (Nat.le_refl _))
      have HOch3 := Lib.hid (HOch2.out.next hb)
      have HKt3 := Lib.hid hk
      replace HZ3 : Hid (w2.heap.size < w3.heap.size) := Lib.hid (by omega)
      have HE3 := Lib.hid hz
      clear hb hk hz
      go_ret2
      refine ⟨⟨_, rfl, fun hbt => ?_⟩, HB3.out⟩
      rw [HL.out]
      exact ⟨_, _, rfl, HB2.out.size, HKt3.out, (HOch3.out hbt).mono HB1.out.size⟩
end Go.Proofs.Ytkclpempodopfaa
