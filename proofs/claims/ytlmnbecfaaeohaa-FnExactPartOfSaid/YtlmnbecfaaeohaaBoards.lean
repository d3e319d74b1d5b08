/- The law's helpers on boards: copy, measure, compare, mark, held. -/
import Derived.Test.YtlmnbecfaaeohaaInts
import Derived.Test.YtlmnbecfaaeohaaIntss
import Derived.Test.YtlmnbecfaaeohaaKb
namespace Go.Proofs.Ytlmnbecfaaeohaa
set_option linter.unusedVariables false
open Go.RowKit

theorem Try.infoI5 : (Try.prog.info? 3).map (fun i => (i.zero, i.size, i.bytes)) = some (some (.int .i64 0), 1, 8) := by kernel_rfl
def BrdR (w : World) (v1 v2 : Value) (ls ss : List Int) : Prop := RowsR 1 inC w v1 ls ∧ RowsR 1 inC w v2 ss
theorem BrdR.below {w w' : World} {v1 v2 : Value} {ls ss : List Int} (h : BrdR w v1 v2 ls ss) {B : Nat} (hb : Below B w w') (hB : w.heap.size ≤ B) : BrdR w' v1 v2 ls ss := ⟨h.1.below hb hB, h.2.below hb hB⟩
theorem BrdR.form {w : World} {v1 v2 : Value} {ls ss : List Int} (h : BrdR w v1 v2 ls ss) : ∃ a1 c1 a2 c2, v1 = .slice a1 ls.length c1 ∧ v2 = .slice a2 ss.length c2 := by
  obtain ⟨a1, c1, e1⟩ := h.1.form
  obtain ⟨a2, c2, e2⟩ := h.2.form
  exact ⟨a1, c1, a2, c2, e1, e2⟩
/-- Two fresh rows of ints, apart from one another. -/
def OwB (lo hi : Nat) (w : World) (v1 v2 : Value) (ls ss : List Int) : Prop :=
  Ow lo hi w 3 1 v1 ls.length (flatC inC ls) ∧ Ow lo hi w 3 1 v2 ss.length (flatC inC ss) ∧ ∀ g, v1.ownBlock = some g → v2.ownBlock ≠ some g
theorem OwB.next {lo hi : Nat} {w w' : World} {v1 v2 : Value} {ls ss : List Int} (h : OwB lo hi w v1 v2 ls ss) (hb : Below w.heap.size w w') : OwB lo hi w' v1 v2 ls ss := ⟨h.1.next hb, h.2.1.next hb, h.2.2⟩
theorem OwB.btw {lo hi a b : Nat} {w w' : World} {v1 v2 : Value} {ls ss : List Int} (h : OwB lo hi w v1 v2 ls ss) (hb : Btw a b w w') (hd : hi ≤ a ∨ b ≤ lo) : OwB lo hi w' v1 v2 ls ss := ⟨h.1.btw hb hd, h.2.1.btw hb hd, h.2.2⟩
theorem OwB.reads {lo hi : Nat} {w : World} {v1 v2 : Value} {ls ss : List Int} (h : OwB lo hi w v1 v2 ls ss) : BrdR w v1 v2 ls ss := ⟨RowsR.of_own inC_len h.1.1, RowsR.of_own inC_len h.2.1.1⟩
theorem OwB.form {lo hi : Nat} {w : World} {v1 v2 : Value} {ls ss : List Int} (h : OwB lo hi w v1 v2 ls ss) : ∃ a1 c1 a2 c2, v1 = .slice a1 ls.length c1 ∧ v2 = .slice a2 ss.length c2 := h.reads.form
theorem OwB.mono {lo hi lo' hi' : Nat} {w : World} {v1 v2 : Value} {ls ss : List Int} (h : OwB lo hi w v1 v2 ls ss) (h1 : lo' ≤ lo) (h2 : hi ≤ hi') : OwB lo' hi' w v1 v2 ls ss := ⟨h.1.widen h1 h2, h.2.1.widen h1 h2, h.2.2⟩

set_option maxRecDepth 100000 in
set_option maxHeartbeats 1600000 in
theorem toIntS_any (v : Value) (ps : List Int) (w : World) (h : RowsR 1 inC w v ps) (hn : ps.length ≤ 1048576) :
    Calls Try.prog 51 #[v] w fun e w' => (∃ v', e = .returned v' ∧ w'.ownsRow w.heap.size 3 1 v' ps.length (flatC inC ps)) ∧ Below w.heap.size w w' := by
  obtain ⟨i0, hi, hz0, hz1, hz2⟩ := info_parts Try.infoI5
  obtain ⟨a, cp, rfl⟩ := h.form
  have R1 := Lib.hid h.at
  clear h
  go_enter Try.func51, Try.ntmps51
  go_wp2_with (at_make; refine wpList_make_full _ rfl _ _ 29 rfl w.heap.size 3 i0 (.int .i64 0) 1 Try.underlying29 hi hz0 hz1 _ _ _ _ ps.length rfl rfl rfl rfl ?b2 ?b3 (Nat.le_refl _) ?_)
  case b2 => rw [hz2]; omega
  case b3 => unfold maxLen; omega
  intro w0 hown0 hgrow0
  have HO0 := Lib.hid hown0
  have HG0 := Lib.hid hgrow0
  clear hown0 hgrow0
  go_wp2
  go_loopw [4] (fun i wr => ∃ (k : Nat) (xs : List Value), k ≤ ps.length ∧ i = .int .i64 k ∧ xs.length = ps.length ∧ Hid (∀ (i : Nat) (h : i < ps.length), i < k → xs[i]? = some (.int .i64 ps[i])) ∧ wr.ownsRow w.heap.size 3 1 (.slice (some ⟨w.heap.size, 0, none⟩) ps.length ps.length) ps.length xs ∧ Below w.heap.size w wr) (fun i _ => ps.length - (intOf i).toNat)
  case atStart => exact ⟨0, _, Nat.zero_le _, rfl, by have := HO0.out.1; omega, Lib.hid (fun i _ h => by omega), HO0.out, (Below.refl _ _).grown HG0.out (Nat.le_refl _) (fun k h => by cases h)⟩
  case round =>
    obtain ⟨k, xs, hk, rfl, hxl, HP, hown, hb⟩ := hrel
    have HO := Lib.hid hown
    have HB := Lib.hid hb
    have HX := Lib.hid hxl
    by_cases hlt : k < ps.length
    · obtain ⟨b1, o1, rfl, l1, k1⟩ := R1.out _ hb k hlt
      have p0 : wr.cell? ⟨b1, o1 + k, none⟩ = some (.int .i64 ps[k]) := by have := k1 0 (by omega); rw [Nat.mul_one] at this; exact this
      have z1 : (0 : Int) ≤ (k : Int) := by omega
      have z2 : (k : Int) < (ps.length : Int) := by omega
      obtain ⟨u0, d0⟩ : ∃ u, wr.cell? ⟨w.heap.size, k, none⟩ = some u := ⟨_, (hown.cellAt k (by omega)).trans (List.getElem?_eq_getElem (by omega))⟩
      have f0 := hown.frozenAt k
      clear k1 hown hxl hb
      go_wp2_with fail
      go_roundw
      case rel =>
        refine ⟨k + 1, xs.set k (.int .i64 ps[k]), by omega, by go_num, by rw [List.length_set]; exact HX.out, Lib.hid (fun i h hi => ?_), (HO.out.stored _ _).1, HB.out.setCell (Nat.le_refl _) _⟩
        have hx := HX.out
        by_cases e : i = k
        · subst e; rw [List.getElem?_set_self (by omega)]
        · rw [List.getElem?_set_ne (fun e' => e e'.symm)]; exact HP.out i h (by omega)
      case measure => simp [intOf]; omega
    · have HXS : Hid (xs = flatC inC ps) := Lib.hid (flatC_of inC_len (by omega) xs ps (by omega) (fun i h j hj => by
        have hj0 : j = 0 := by omega
        subst hj0
        rw [Nat.mul_one, Nat.add_zero]
        exact HP.out i h (by omega)))
      clear hown hxl hb
      go_wp2_with fail
      go_ret
      exact ⟨⟨_, rfl, HXS.out ▸ HO.out⟩, HB.out⟩

set_option maxRecDepth 100000 in
set_option maxHeartbeats 800000 in
theorem szIntS_any (v : Value) (ps : List Int) (left : Int) (w : World) (h : RowsR 1 inC w v ps) (h0 : 0 ≤ left) (h1 : left ≤ 1048576) :
    Calls Try.prog 49 #[v, .int .i64 left] w fun e w' => (∃ l : Int, e = .returned (.int .i64 l) ∧ l ≤ 1048576 ∧ (l < 0 ∨ (ps.length : Int) + l = left)) ∧ Below w.heap.size w w' := by
  have hm : ps.length ≤ 9223372036854775807 := by obtain ⟨_, _, _, ⟨m, _⟩, _⟩ := h; exact m
  obtain ⟨a, cp, rfl⟩ := h.form
  clear h
  have hw : IntKind.i64.wrap (left - (ps.length : Int)) = left - ps.length := by rw [IntKind.wrap_i64]; omega
  by_cases hlt : left - (ps.length : Int) < 0
  · go_enter Try.func49, Try.ntmps49
    go_wp2_with fail
    go_ret
    exact ⟨⟨-1, rfl, by omega, .inl (by omega)⟩, Below.refl _ _⟩
  · have hge : (ps.length : Int) ≤ left := by omega
    go_enter Try.func49, Try.ntmps49
    go_wp2_with fail
    go_ret
    exact ⟨⟨_, rfl, by omega, .inr (by omega)⟩, Below.refl _ _⟩

theorem OwB.mk2 {B B1 B2 : Nat} {w : World} {v1 v2 : Value} {ls ss : List Int} (h1 : w.ownsRow B1 3 1 v1 ls.length (flatC inC ls)) (h2 : w.ownsRow B2 3 1 v2 ss.length (flatC inC ss)) (hB1 : B ≤ B1) (hB2 : B ≤ B2) (hs : ∀ g, v1.ownBlock = some g → g < B2) : OwB B w.heap.size w v1 v2 ls ss :=
  ⟨⟨own_mono h1 hB1, fun g hg => (h1.lt g hg).2⟩, ⟨own_mono h2 hB2, fun g hg => (h2.lt g hg).2⟩, fun g hg hg2 => by have := hs g hg; have := (h2.lt g hg2).1; omega⟩
theorem OwB.set {lo hi : Nat} {w : World} {v1 v2 : Value} {ls ss : List Int} (h : OwB lo hi w v1 v2 ls ss) {a : Addr} (ha : a.block < lo) (u : Value) : OwB lo hi (w.setCell a u) v1 v2 ls ss :=
  h.btw ((Btw.refl a.block (a.block + 1) w).setCell (p := a) (Nat.le_refl _) (Nat.lt_succ_self _) u) (.inr ha)
theorem box2_set {w : World} {g : Nat} {a b : Value} {T : TypeId} (h : w.heap[g]? = some (.cells #[a, b] T (0, 0))) (x y : Value) : ((w.setCell ⟨g, 0, none⟩ x).setCell ⟨g, 1, none⟩ y).heap[g]? = some (.cells #[x, y] T (0, 0)) := by
  have h1 := heap_setCell_same w g 0 _ _ x h
  have h2 := heap_setCell_same _ g 1 _ _ y h1
  simpa using h2

end Go.Proofs.Ytlmnbecfaaeohaa
