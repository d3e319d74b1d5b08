/- The program's UndoMoves. -/
import Derived.Test.YtpdckmhhmgkaaaaQrev
import Derived.Test.YtpdckmhhmgkaaaaQone
import Derived.Test.YtpdckmhhmgkaaaaCopyn
namespace Go.Proofs.Ytpdckmhhmgkaaaa
set_option linter.unusedVariables false
open Go.RowKit

/-- The first k moves negated. -/
def NegK (rs cs : List Mv) (k : Nat) : Prop := cs.length = rs.length ∧ ∀ x, x < rs.length → cs[x]? = if x < k then (rs[x]?).map mvNeg else rs[x]?
theorem negK_zero (rs : List Mv) : NegK rs rs 0 := ⟨rfl, fun x hx => by rw [if_neg (by omega)]⟩
theorem negK_end {rs cs : List Mv} {k : Nat} (h : NegK rs cs k) (hk : rs.length ≤ k) : cs = rs.map mvNeg := by
  refine List.ext_getElem? fun x => ?_
  by_cases hx : x < rs.length
  · rw [h.2 x hx, if_pos (by omega), List.getElem?_map]
  · rw [List.getElem?_eq_none (by rw [h.1]; omega), List.getElem?_eq_none (by rw [List.length_map]; omega)]
theorem negK_step {rs cs : List Mv} {k : Nat} (h : NegK rs cs k) (hk : k < rs.length) (m : Mv) (hm : cs[k]? = some m) : NegK rs (cs.set k (mvNeg m)) (k + 1) := by
  refine ⟨by rw [List.length_set]; exact h.1, fun x hx => ?_⟩
  have h1 := h.2 k hk
  rw [if_neg (by omega), hm] at h1
  by_cases e : x = k
  · subst e
    rw [List.getElem?_set_self (by rw [h.1]; omega), if_pos (by omega), ← h1]; rfl
  · rw [List.getElem?_set_ne (fun e' => e e'.symm), h.2 x hx]
    by_cases e2 : x < k
    · rw [if_pos e2, if_pos (by omega)]
    · rw [if_neg e2, if_neg (by omega)]

set_option maxRecDepth 100000 in
set_option maxHeartbeats 3200000 in
theorem implUndo_yes (v : Value) (ps : List Mv) (w : World) (h : RowsR 3 mvC w v ps) (ho : okMs ps) :
    Calls Try.prog 36 #[v] w fun e w' => (∃ sq, e = .returned (.tuple #[sq, .bool true]) ∧ w'.ownsRow w.heap.size 38 3 sq (undoL ps).length (flatC mvC (undoL ps))) ∧ Below w.heap.size w w' := by
  obtain ⟨i0, hi, hz0, hz1, hz2⟩ := info_parts Try.infoBeadMove
  have h60 : ps.length ≤ 60 := ho.2
  have HA := Lib.hid (areMoves_any v ps w h true ⟨fun _ => ho, fun _ => rfl⟩)
  obtain ⟨a, cp, rfl⟩ := h.form
  have HSRC := Lib.hid (h.src mvC_len (by decide))
  have HOK : Hid (∀ m ∈ ps, -5 ≤ m.amt ∧ m.amt ≤ 5) := Lib.hid (fun m hm => by
    obtain ⟨k, hk, rfl⟩ := List.getElem_of_mem hm; exact (ho.1 k hk).2.2.1)
  clear h ho
  have HB0 : Hid (Below w.heap.size w w) := Lib.hid (Below.refl _ _)
  go_enter Try.func36, Try.ntmps36
  go_wp2_with fail
  refine (HA.out).mono ?_
  rintro e w1 ⟨rfl, hb⟩
  have HB1 : Hid (Below w.heap.size w w1) := Lib.hid (HB0.out.trans (hb.mono HB0.out.size))
  have HZ1 : Hid (w.heap.size ≤ w1.heap.size) := Lib.hid hb.size
  clear hb
  go_wp2_with (at_make; refine wpList_make_full _ rfl _ _ 46 rfl w1.heap.size 38 i0 (.agg #[.int .i64 0, .int .i64 0, .int .i64 0]) 3 Try.underlying46 hi hz0 hz1 _ _ _ _ ps.length rfl rfl rfl rfl ?b2 ?b3 (Nat.le_refl _) ?_)
  case b2 => rw [hz2]; omega
  case b3 => unfold maxLen; omega
  intro w2 hownm hgrowm
  have hb : Below w1.heap.size w1 w2 := (Below.refl _ _).grown hgrowm (Nat.le_refl _) (fun k h => by cases h)
  clear hgrowm
  have HB2 : Hid (Below w.heap.size w w2) := Lib.hid (HB1.out.trans (hb.mono HB1.out.size))
  have HZ2 : Hid (w1.heap.size ≤ w2.heap.size) := Lib.hid hb.size
  clear hb
  have HOM := Lib.hid hownm
  have hown5 := hownm
  have hsrc5 : (a = none ∧ ps.length = 0) ∨ ∃ ad, a = some ad ∧ ∀ j u, (flatC mvC ps)[j]? = some u → w2.cell? (ad.add j) = some u := by
    rcases HSRC.out with ⟨h1, h2⟩ | ⟨ad, h1, h2⟩
    · exact .inl ⟨h1, by rw [h2]; rfl⟩
    · exact .inr ⟨ad, h1, h2 _ HB2.out⟩
  have HSR := Lib.hid hsrc5
  clear hownm hsrc5 hown5
  go_wp2_with (with_reducible refine wpList_copy_all rfl _ _ 46 46 rfl w1.heap.size 38 i0 3 Try.underlying46 hi hz1 w1.heap.size ps.length ps.length rfl a cp rfl _ HOM.out (flatC mvC ps) (flatC_len mvC_len ps) HSR.out (flatC_one mvC_one ps) ?_)
  intro w3 hown6 hm
  have HO6 := Lib.hid hown6.out
  have hw1 : w.heap.size ≤ w1.heap.size := HB1.out.size
  clear hown6
  have HZ3 : Hid (w2.heap.size ≤ w3.heap.size) := Lib.hid hm.size
  have HB3 : Hid (Below w.heap.size w w3) := Lib.hid (HB2.out.trans (hm.below.mono (by have := HZ1.out; have := HZ2.out; have := HB0.out.size; omega)))
  clear hm
  go_wp2_with fail
  refine (reverse_any w1.heap.size ps.length ps.length w1.heap.size ps _ rfl h60 HO6.out).mono ?_
  rintro e w4 ⟨rfl, ho7, hm⟩
  have HO7 := Lib.hid ho7
  clear ho7
  have HZ4 : Hid (w3.heap.size ≤ w4.heap.size) := Lib.hid hm.size
  have HB4 : Hid (Below w.heap.size w w4) := Lib.hid (HB3.out.trans (hm.below.mono (by have := HZ1.out; have := HZ2.out; have := HZ3.out; have := HB0.out.size; omega)))
  clear hm
  go_wp2_with fail
  go_loopw [20] (fun i wr => ∃ (k : Nat) (cs : List Mv), k ≤ ps.length ∧ i = .int .i64 k ∧ Hid (NegK ps.reverse cs k) ∧ wr.ownsRow w1.heap.size 38 3 (.slice (some ⟨w1.heap.size, 0, none⟩) ps.length ps.length) ps.length (flatC mvC cs) ∧ Below w.heap.size w wr) (fun i _ => ps.length - (intOf i).toNat)
  case atStart => exact ⟨0, ps.reverse, Nat.zero_le _, rfl, Lib.hid (negK_zero _), HO7.out, HB4.out⟩
  case round =>
    obtain ⟨k, cs, hk, rfl, HR, hown, hb⟩ := hrel
    have HO := Lib.hid hown
    have HB := Lib.hid hb
    have HLC : Hid (cs.length = ps.length) := Lib.hid (by rw [HR.out.1, List.length_reverse])
    by_cases hlt : k < ps.length
    · have z1 : (0 : Int) ≤ (k : Int) := by omega
      have z2 : (k : Int) < (ps.length : Int) := by omega
      have hkl : k < cs.length := by rw [HLC.out]; exact hlt
      have hkr : k < ps.reverse.length := by rw [List.length_reverse]; exact hlt
      obtain ⟨m, hm⟩ : ∃ m, cs[k] = m := ⟨_, rfl⟩
      have hmm : cs[k]? = some m := by rw [List.getElem?_eq_getElem hkl, hm]
      have hb5 : -5 ≤ m.amt ∧ m.amt ≤ 5 := by
        refine HOK.out m ?_
        have h1 := HR.out.2 k hkr
        rw [if_neg (by omega), hmm] at h1
        exact List.mem_reverse.1 (List.mem_of_getElem? h1.symm)
      obtain ⟨m0, m1⟩ := hb5
      have hd : wr.cell? ⟨w1.heap.size, k * 3 + 2, none⟩ = some (.int .i64 m.amt) := by
        have := (hown.cellAt (k * 3 + 2) (by omega)).trans (flatC_at mvC_len cs k hkl 2 (by omega))
        rw [hm] at this; exact this
      have hf := hown.frozenAt (k * 3 + 2)
      have hwn : IntKind.i64.wrap (-m.amt) = -m.amt := by rw [IntKind.wrap_i64]; omega
      have HNS := Lib.hid (negK_step HR.out hkr m hmm)
      have HOS : Hid ((wr.setCell ⟨w1.heap.size, k * 3 + 2, none⟩ (.int .i64 (-m.amt))).ownsRow w1.heap.size 38 3 (.slice (some ⟨w1.heap.size, 0, none⟩) ps.length ps.length) ps.length (flatC mvC (cs.set k (mvNeg m)))) := Lib.hid (by
        have h1 := (HO.out.stored (k * 3 + 2) (.int .i64 (-m.amt))).1
        rwa [flatC_set1 mvC_len cs k 2 hkl (by omega) (.int .i64 (-m.amt)) (mvNeg m) (by rw [hm]; rfl)] at h1)
      have HBS : Hid (Below w.heap.size w (wr.setCell ⟨w1.heap.size, k * 3 + 2, none⟩ (.int .i64 (-m.amt)))) := Lib.hid (HB.out.setCell hw1 _)
      clear hown hb hkl hkr hm hmm
      go_wp2_with fail
      go_roundw
      case rel => exact ⟨k + 1, cs.set k (mvNeg m), by omega, by go_num, HNS, HOS.out, HBS.out⟩
      case measure => simp [intOf]; omega
    · have HE : Hid (cs = undoL ps) := Lib.hid (by
        rw [negK_end HR.out (by rw [List.length_reverse]; omega), undoL, List.map_reverse])
      clear hown hb
      go_wp2_with fail
      go_ret2
      refine ⟨⟨_, rfl, ?_⟩, HB.out⟩
      rw [← HE.out]
      exact own_mono (own_relen' HLC.out HO.out) hw1
set_option maxRecDepth 100000 in
set_option maxHeartbeats 400000 in
theorem implUndo_no (v : Value) (ps : List Mv) (w : World) (h : RowsR 3 mvC w v ps) (ho : ¬ okMs ps) :
    Calls Try.prog 36 #[v] w fun e w' => (∃ sq, e = .returned (.tuple #[sq, .bool false]) ∧ w'.ownsRow w.heap.size 38 3 sq ([] : List Mv).length (flatC mvC [])) ∧ Below w.heap.size w w' := by
  have HA := Lib.hid (areMoves_any v ps w h false ⟨fun e => by simp at e, fun e => absurd e ho⟩)
  clear h ho
  go_enter Try.func36, Try.ntmps36
  go_wp2_with fail
  refine HA.out.mono ?_
  rintro e w2 ⟨rfl, hb2⟩
  have HB := Lib.hid hb2
  clear hb2
  go_wp2_with fail
  go_ret2
  exact ⟨⟨_, rfl, World.ownsRow_made (base := w.heap.size) (e := 38) (size := 3) _ #[] 0 HB.out.size (Nat.zero_le _) (by simp)⟩, HB.out.alloc HB.out.size _⟩
end Go.Proofs.Ytpdckmhhmgkaaaa
