/- ParseFrame: what a text's bytes say; the program's ParseFrame. -/
import Derived.Test.YtbnfbpbfbdbiaaaText
import Derived.Test.YtbnfbpbfbdbiaaaMade
import Derived.StillTailTactics
import Derived.Deep.Cut
import Derived.Deep.RegionLaw
namespace Go.Proofs.Ytbnfbpbfbdbiaaa
set_option linter.unusedVariables false
open Go.RowKit

theorem bneS {a b : ByteArray} (h : a ≠ b) : (!a.toList == b.toList) = true := by
  rw [Bool.not_eq_true', beq_eq_false_iff_ne]
  intro e
  exact h (by rw [ByteArray.toList_eq, ByteArray.toList_eq] at e; exact ByteArray.ext (Array.ext' e))
theorem bneSF {a b : ByteArray} (h : a = b) : (!a.toList == b.toList) = false := by subst h; simp
theorem mk_data' (s : ByteArray) : (⟨s.data.toList.toArray⟩ : ByteArray) = s := by
  cases s; simp
def dB (s : ByteArray) (q : Nat) : Int := ((s.data.toList.getD q 0).toNat : Int) - 48
def pR (s : ByteArray) (r : Nat) : List (Int × Int) := (List.range r).map fun i => (dB s (3 + i * 3 + 1), dB s (3 + i * 3 + 2))
theorem pR_len (s : ByteArray) (r : Nat) : (pR s r).length = r := by simp [pR]
theorem pR_at (s : ByteArray) (r i : Nat) (h : i < (pR s r).length) : (pR s r)[i] = (dB s (3 + i * 3 + 1), dB s (3 + i * 3 + 2)) := by simp [pR]
theorem ixS (s : ByteArray) (i : Int) (q : Nat) (h : i = (q : Int)) (hq : q < s.size) (w : World) :
    (Instr.index 9 (.string s) (.int .i64 i)).run Try.prog w = .ok (.int .u8 (dB s q + 48)) w := by
  subst h
  rw [run_index_string w _ s .i64 q Try.underlying9, dif_pos ⟨by omega, by omega⟩]
  have hl : q < s.data.toList.length := by simpa using hq
  have e : s.data.toList.getD q 0 = s[q] := by
    rw [List.getD_eq_getElem?_getD, List.getElem?_eq_getElem hl]
    rfl
  unfold dB
  rw [e]
  congr 2
  show ((s[q].toNat : Nat) : Int) = (s[q].toNat : Int) - 48 + 48
  omega
theorem dB_bd (s : ByteArray) (q : Nat) : -48 ≤ dB s q ∧ dB s q ≤ 207 := by
  unfold dB
  have := (s.data.toList.getD q 0).toNat_lt
  omega

/-- What stands at each place of a frame's text. -/
theorem rodsT_at : ∀ (rs : List (Int × Int)) (i : Nat) (h : i < rs.length), (rodsT rs).getD (i * 3) 0 = 32 ∧ (rodsT rs).getD (i * 3 + 1) 0 = chD rs[i].1 ∧ (rodsT rs).getD (i * 3 + 2) 0 = chD rs[i].2
  | r :: t, 0, _ => ⟨rfl, rfl, rfl⟩
  | r :: t, i + 1, h => by
    have := rodsT_at t i (by simpa using h)
    rw [show (i + 1) * 3 = i * 3 + 3 by omega]
    simpa [rodsT] using this
theorem textF_at (up lo : Int) (rs : List (Int × Int)) (i : Nat) (h : i < rs.length) : (textF up lo rs).getD (3 + i * 3 + 1) 0 = chD rs[i].1 ∧ (textF up lo rs).getD (3 + i * 3 + 2) 0 = chD rs[i].2 := by
  have := rodsT_at rs i h
  rw [show 3 + i * 3 + 1 = (i * 3 + 1) + 3 by omega, show 3 + i * 3 + 2 = (i * 3 + 2) + 3 by omega]
  simpa [textF] using this.2
theorem good_dig (up lo : Int) (rs : List (Int × Int)) (hg : goodF up lo rs) : (0 ≤ up ∧ up ≤ 9) ∧ (0 ≤ lo ∧ lo ≤ 9) ∧ ∀ i (h : i < rs.length), (0 ≤ rs[i].1 ∧ rs[i].1 ≤ 9) ∧ (0 ≤ rs[i].2 ∧ rs[i].2 ≤ 9) := by
  obtain ⟨g1, ⟨g2, g3⟩, ⟨g4, g5⟩, _⟩ := hg
  refine ⟨by omega, by omega, fun i h => ?_⟩
  obtain ⟨⟨d1, d2⟩, d3, d4⟩ := g1 i h
  omega
theorem parse_text (s : ByteArray) (up lo : Int) (rs : List (Int × Int)) (hg : goodF up lo rs) (ht : textF up lo rs = s.data.toList) :
    s.size = 3 + 3 * rs.length ∧ dB s 0 = up ∧ dB s 2 = lo ∧ pR s rs.length = rs := by
  obtain ⟨h1, h2, h3⟩ := good_dig up lo rs hg
  refine ⟨?_, ?_, ?_, ?_⟩
  · have := textF_len up lo rs
    rw [ht] at this
    simpa using this
  · unfold dB
    rw [← ht]
    show ((chD up).toNat : Int) - 48 = up
    rw [chD_nat up h1.1 h1.2]; omega
  · unfold dB
    rw [← ht]
    show ((chD lo).toNat : Int) - 48 = lo
    rw [chD_nat lo h2.1 h2.2]; omega
  · apply List.ext_getElem
    · rw [pR_len]
    · intro i hi hi2
      rw [pR_at]
      have ha := textF_at up lo rs i hi2
      have hb := h3 i hi2
      unfold dB
      rw [← ht, ha.1, ha.2, chD_nat _ hb.1.1 hb.1.2, chD_nat _ hb.2.1 hb.2.2]
      refine Prod.ext ?_ ?_
      · show 48 + rs[i].1 - 48 = rs[i].1
        omega
      · show 48 + rs[i].2 - 48 = rs[i].2
        omega
/-- The text is a frame's. -/
def IsT (s : ByteArray) (up lo : Int) (rs : List (Int × Int)) : Prop := goodF up lo rs ∧ textF up lo rs = s.data.toList

theorem signDigit_any (x : Int) (w : World) (h : -48 ≤ x ∧ x ≤ 207) :
    Calls Try.prog 83 #[.int .u8 (x + 48)] w fun e w' => e = .returned (.int .i64 x) ∧ w' = w := by
  obtain ⟨h0, h1⟩ := h
  go_enter Try.func83, Try.ntmps83
  go_wp2_with fail
  go_ret
  exact ⟨ret_int (by omega), rfl⟩

set_option maxRecDepth 100000 in
set_option maxHeartbeats 6400000 in
theorem implParse_core (s : ByteArray) (r : Nat) (w : World) (hs : s.size = 3 + 3 * r) (hr : 1 ≤ r ∧ r ≤ 8) (ok : Bool) (fu fl : Int) (qs : List (Int × Int))
    (hok : (ok = true ∧ fu = dB s 0 ∧ fl = dB s 2 ∧ qs = pR s r ∧ IsT s (dB s 0) (dB s 2) (pR s r)) ∨ (ok = false ∧ fu = 0 ∧ fl = 0 ∧ qs = [] ∧ ¬ IsT s (dB s 0) (dB s 2) (pR s r))) :
    Calls Try.prog 50 #[.string s] w fun e w' => (∃ v, e = .returned (.tuple #[.agg #[.int .i64 fu, .int .i64 fl, v], .bool ok]) ∧ w'.ownsRow w.heap.size 69 2 v qs.length (flat qs)) ∧ Below w.heap.size w w' := by
  obtain ⟨i0, hi, hz0, hz1, hz2⟩ := info_parts Try.infoRod
  obtain ⟨hr0, hr1⟩ := hr
  have HK := Lib.hid hok
  have HS := Lib.hid hs
  have q2 : ((s.size : Int) - 3) / 3 = (r : Int) := by omega
  have q3 : ((s.size : Int) != 3 + (r : Int) * 3) = false := by simp; omega
  have q4 : (6 : Int) ≤ (s.size : Int) := by omega
  have q5 : (s.size : Int) ≤ 27 := by omega
  have j0 := ixS s 0 0 rfl (by omega)
  have j2 := ixS s 2 2 rfl (by omega)
  have sg0 := fun w => signDigit_any (dB s 0) w (dB_bd s 0)
  have sg2 := fun w => signDigit_any (dB s 2) w (dB_bd s 2)
  have HG0 := Lib.hid sg0
  have HG2 := Lib.hid sg2
  clear hok sg0 sg2 hs
  generalize dB s 0 = x0 at HG0 HK j0
  generalize dB s 2 = x2 at HG2 HK j2
  have hmk : ∀ w : World, (Instr.makeSlice 26 (.int .i64 (r : Int)) (.int .i64 (r : Int))).run Try.prog w = .ok (.slice (some ⟨w.heap.size, 0, none⟩) r r) (w.alloc (.cells (madeCells #[.int .i64 0, .int .i64 0] (r * 2)) 69)) := fun w => by
    have := run_make (P := Try.prog) w 26 69 i0 (.agg #[.int .i64 0, .int .i64 0]) Try.underlying26 hi hz0 .i64 .i64 (r : Int) (r : Int) (by omega) (Int.le_refl _) (by rw [hz2]; omega) (by omega)
    rw [hz1, Int.toNat_natCast] at this
    exact this
  have HB0 : Hid (Below w.heap.size w w) := Lib.hid (Below.refl _ _)
  go_enter Try.func50, Try.ntmps50
  go_wp2_with fail
  have hb : Below w.heap.size w (w.alloc (.cells #[.int .i64 0, .int .i64 0, .slice none 0 0] 28)) := (Below.refl _ _).alloc (Nat.le_refl _) _
  have hk : (w.alloc (.cells #[.int .i64 0, .int .i64 0, .slice none 0 0] 28)).heap[w.heap.size]? = some (.cells #[.int .i64 0, .int .i64 0, .slice none 0 0] 28 (0, 0)) := alloc_at rfl
  have hz : (w.alloc (.cells #[.int .i64 0, .int .i64 0, .slice none 0 0] 28)).heap.size = w.heap.size + 1 := by simp
  generalize w.alloc (.cells #[.int .i64 0, .int .i64 0, .slice none 0 0] 28) = w1 at hb hk hz ⊢
  have HB1 : Hid (Below w.heap.size w w1) := Lib.hid (HB0.out.trans (hb.mono HB0.out.size))
  have HZ1 : Hid (w.heap.size ≤ w1.heap.size) := Lib.hid hb.size
  have HKz1 := Lib.hid hk
  replace HZ1 : Hid (w.heap.size < w1.heap.size) := Lib.hid (by omega)
  have HE1 := Lib.hid hz
  clear hb hk hz
  have ltz := lt_of_block HKz1.out
  obtain ⟨cz0, cz1, cz2, fz0, fz1, fz2⟩ := cell3 HKz1.out
  have hw1 : w.heap.size < w1.heap.size := ltz
  have HRA : Hid (∃ fb gb : Nat, Value.pointer (some ⟨w1.heap.size + 1, 0, none⟩) = .pointer (some ⟨fb, 0, none⟩) ∧ ((w1.alloc (.cells (madeCells #[.int .i64 0, .int .i64 0] (r * 2)) 69)).alloc (.cells #[.int .i64 x0, .int .i64 x2, .slice (some ⟨w1.heap.size, 0, none⟩) r r] 28)).drew.heap[w.heap.size]? = some (.cells #[.int .i64 0, .int .i64 0, .slice none 0 0] 28 (0, 0)) ∧ ((w1.alloc (.cells (madeCells #[.int .i64 0, .int .i64 0] (r * 2)) 69)).alloc (.cells #[.int .i64 x0, .int .i64 x2, .slice (some ⟨w1.heap.size, 0, none⟩) r r] 28)).drew.heap[fb]? = some (.cells #[.int .i64 x0, .int .i64 x2, .slice (some ⟨gb, 0, none⟩) r r] 28 (0, 0)) ∧ ((w1.alloc (.cells (madeCells #[.int .i64 0, .int .i64 0] (r * 2)) 69)).alloc (.cells #[.int .i64 x0, .int .i64 x2, .slice (some ⟨w1.heap.size, 0, none⟩) r r] 28)).drew.ownsRow (w.heap.size + 1) 69 2 (.slice (some ⟨gb, 0, none⟩) r r) r (madeCells #[.int .i64 0, .int .i64 0] (r * 2)).toList ∧ fb ≠ gb ∧ w.heap.size < fb ∧ Below w.heap.size w ((w1.alloc (.cells (madeCells #[.int .i64 0, .int .i64 0] (r * 2)) 69)).alloc (.cells #[.int .i64 x0, .int .i64 x2, .slice (some ⟨w1.heap.size, 0, none⟩) r r] 28)).drew) := Lib.hid ⟨w1.heap.size + 1, w1.heap.size, rfl, (alloc_old (by simp; omega)).trans ((alloc_old hw1).trans HKz1.out), alloc_at (by simp), (World.ownsRow_lit w1 _ r hw1 (by unfold maxLen; omega) (by simp [madeCells])).alloc _, by omega, by omega, ((HB1.out.alloc HB1.out.size _).alloc (by simp; omega) _).drew⟩
  have HRB : Hid (∃ fb gb : Nat, Value.pointer (some ⟨w1.heap.size, 0, none⟩) = .pointer (some ⟨fb, 0, none⟩) ∧ ((w1.alloc (.cells #[.int .i64 x0, .int .i64 x2, .slice (some ⟨w1.heap.size + 1, 0, none⟩) r r] 28)).alloc (.cells (madeCells #[.int .i64 0, .int .i64 0] (r * 2)) 69)).drew.heap[w.heap.size]? = some (.cells #[.int .i64 0, .int .i64 0, .slice none 0 0] 28 (0, 0)) ∧ ((w1.alloc (.cells #[.int .i64 x0, .int .i64 x2, .slice (some ⟨w1.heap.size + 1, 0, none⟩) r r] 28)).alloc (.cells (madeCells #[.int .i64 0, .int .i64 0] (r * 2)) 69)).drew.heap[fb]? = some (.cells #[.int .i64 x0, .int .i64 x2, .slice (some ⟨gb, 0, none⟩) r r] 28 (0, 0)) ∧ ((w1.alloc (.cells #[.int .i64 x0, .int .i64 x2, .slice (some ⟨w1.heap.size + 1, 0, none⟩) r r] 28)).alloc (.cells (madeCells #[.int .i64 0, .int .i64 0] (r * 2)) 69)).drew.ownsRow (w.heap.size + 1) 69 2 (.slice (some ⟨gb, 0, none⟩) r r) r (madeCells #[.int .i64 0, .int .i64 0] (r * 2)).toList ∧ fb ≠ gb ∧ w.heap.size < fb ∧ Below w.heap.size w ((w1.alloc (.cells #[.int .i64 x0, .int .i64 x2, .slice (some ⟨w1.heap.size + 1, 0, none⟩) r r] 28)).alloc (.cells (madeCells #[.int .i64 0, .int .i64 0] (r * 2)) 69)).drew) := Lib.hid (by
    have ho := World.ownsRow_lit (base := w.heap.size + 1) (e := 69) (size := 2) (w1.alloc (.cells #[.int .i64 x0, .int .i64 x2, .slice (some ⟨w1.heap.size + 1, 0, none⟩) r r] 28)) (madeCells #[.int .i64 0, .int .i64 0] (r * 2)) r (by simp; omega) (by unfold maxLen; omega) (by simp [madeCells])
    rw [show (w1.alloc (.cells #[.int .i64 x0, .int .i64 x2, .slice (some ⟨w1.heap.size + 1, 0, none⟩) r r] 28)).heap.size = w1.heap.size + 1 by simp] at ho
    exact ⟨w1.heap.size, w1.heap.size + 1, rfl, (alloc_old (by simp; omega)).trans ((alloc_old hw1).trans HKz1.out), (alloc_old (by simp)).trans (alloc_at rfl), ho, by omega, by omega, ((HB1.out.alloc HB1.out.size _).alloc (by simp; omega) _).drew⟩)
  go_cut [5] from 29 (fun p wc => ∃ fb gb : Nat, p = .pointer (some ⟨fb, 0, none⟩) ∧ wc.heap[w.heap.size]? = some (.cells #[.int .i64 0, .int .i64 0, .slice none 0 0] 28 (0, 0)) ∧ wc.heap[fb]? = some (.cells #[.int .i64 x0, .int .i64 x2, .slice (some ⟨gb, 0, none⟩) r r] 28 (0, 0)) ∧ wc.ownsRow (w.heap.size + 1) 69 2 (.slice (some ⟨gb, 0, none⟩) r r) r (madeCells #[.int .i64 0, .int .i64 0] (r * 2)).toList ∧ fb ≠ gb ∧ w.heap.size < fb ∧ Below w.heap.size w wc)
  case first =>
    refine wp_region_any (by kernel_rfl) ?_
    try (change wpAny _ _ _ _ _ _ _ (World.drew _))
    refine wpAny_take (i := 0) (v := .string s) rfl (by kernel_rfl) (by kernel_rfl) (by kernel_rfl) (fun _ _ _ h => h) (Or.inl ⟨by rfl, ?_⟩) ?_
    · intro w
      go_simp
    refine wpAny_take (i := 1) (v := .int .u8 (x0 + 48)) rfl (by kernel_rfl) (by kernel_rfl) (by kernel_rfl) (fun _ _ _ h => h) (Or.inl ⟨by rfl, ?_⟩) ?_
    · intro w
      go_simp
    refine wpAny_take (i := 3) (v := .string s) rfl (by kernel_rfl) (by kernel_rfl) (by kernel_rfl) (fun _ _ _ h => h) (Or.inl ⟨by rfl, ?_⟩) ?_
    · intro w
      go_simp
    refine wpAny_take (i := 4) (v := .int .u8 (x2 + 48)) rfl (by kernel_rfl) (by kernel_rfl) (by kernel_rfl) (fun _ _ _ h => h) (Or.inl ⟨by rfl, ?_⟩) ?_
    · intro w
      go_simp
    refine wpAny_take (i := 6) (v := .int .i64 (r : Int)) rfl (by kernel_rfl) (by kernel_rfl) (by kernel_rfl) (fun _ _ _ h => h) (Or.inl ⟨by rfl, ?_⟩) ?_
    · intro w
      go_simp
    refine wpAny_ready (rs := [2, 7, 9]) (by kernel_rfl) (by simp) ?_
    refine AllReady.cons rfl (fun K hK => ?_) ?_
    · go_simp
      go_at_call 83
      refine (HG0.out _).mono ?_
      rintro e w9 ⟨rfl, hw⟩
      subst w9
      try go_simp
      refine hK _ _ ?_
      clear hK K
      refine wpAny_ready (rs := [5, 7, 9]) (by kernel_rfl) (by simp) ?_
      refine AllReady.cons rfl (fun K hK => ?_) ?_
      · go_simp
        go_at_call 83
        refine (HG2.out _).mono ?_
        rintro e w9 ⟨rfl, hw⟩
        subst w9
        try go_simp
        refine hK _ _ ?_
        clear hK K
        refine wpAny_ready (rs := [7, 9]) (by kernel_rfl) (by simp) ?_
        refine AllReady.cons rfl (fun K hK => ?_) ?_
        · go_simp
          refine hK _ _ ?_
          clear hK K
          refine wpAny_take (i := 8) (v := .agg #[.int .i64 x0, .int .i64 x2, .slice (some ⟨w1.heap.size, 0, none⟩) r r]) rfl (by kernel_rfl) (by kernel_rfl) (by kernel_rfl) (fun _ _ _ h => h) (Or.inl ⟨by rfl, ?_⟩) ?_
          · intro w
            go_simp
          refine wpAny_ready (rs := [9]) (by kernel_rfl) (by simp) ?_
          refine AllReady.cons rfl (fun K hK => ?_) ?_
          · go_simp
            refine hK _ _ ?_
            clear hK K
            refine wpAny_ready (rs := [10]) (by kernel_rfl) (by simp) ?_
            refine AllReady.cons rfl (fun K hK => ?_) ?_
            · go_simp
              refine hK _ _ ?_
              clear hK K
              refine wpAny_done (by kernel_rfl) ?_ _
              go_wp2_with fail
              go_meet
              exact HRA.out
            exact AllReady.nil
          exact AllReady.nil
        refine AllReady.cons rfl (fun K hK => ?_) ?_
        · go_simp
          refine hK _ _ ?_
          clear hK K
          refine wpAny_ready (rs := [7]) (by kernel_rfl) (by simp) ?_
          refine AllReady.cons rfl (fun K hK => ?_) ?_
          · go_simp
            refine hK _ _ ?_
            clear hK K
            refine wpAny_take (i := 8) (v := .agg #[.int .i64 x0, .int .i64 x2, .slice (some ⟨w1.heap.size + 1, 0, none⟩) r r]) rfl (by kernel_rfl) (by kernel_rfl) (by kernel_rfl) (fun _ _ _ h => h) (Or.inl ⟨by rfl, ?_⟩) ?_
            · intro w
              go_simp
            refine wpAny_ready (rs := [10]) (by kernel_rfl) (by simp) ?_
            refine AllReady.cons rfl (fun K hK => ?_) ?_
            · go_simp
              refine hK _ _ ?_
              clear hK K
              refine wpAny_done (by kernel_rfl) ?_ _
              go_wp2_with fail
              go_meet
              exact HRB.out
            exact AllReady.nil
          exact AllReady.nil
        exact AllReady.nil
      refine AllReady.cons rfl (fun K hK => ?_) ?_
      · go_simp
        refine hK _ _ ?_
        clear hK K
        refine wpAny_ready (rs := [5, 9]) (by kernel_rfl) (by simp) ?_
        refine AllReady.cons rfl (fun K hK => ?_) ?_
        · go_simp
          go_at_call 83
          refine (HG2.out _).mono ?_
          rintro e w9 ⟨rfl, hw⟩
          subst w9
          try go_simp
          refine hK _ _ ?_
          clear hK K
          refine wpAny_take (i := 8) (v := .agg #[.int .i64 x0, .int .i64 x2, .slice (some ⟨w1.heap.size, 0, none⟩) r r]) rfl (by kernel_rfl) (by kernel_rfl) (by kernel_rfl) (fun _ _ _ h => h) (Or.inl ⟨by rfl, ?_⟩) ?_
          · intro w
            go_simp
          refine wpAny_ready (rs := [9]) (by kernel_rfl) (by simp) ?_
          refine AllReady.cons rfl (fun K hK => ?_) ?_
          · go_simp
            refine hK _ _ ?_
            clear hK K
            refine wpAny_ready (rs := [10]) (by kernel_rfl) (by simp) ?_
            refine AllReady.cons rfl (fun K hK => ?_) ?_
            · go_simp
              refine hK _ _ ?_
              clear hK K
              refine wpAny_done (by kernel_rfl) ?_ _
              go_wp2_with fail
              go_meet
              exact HRA.out
            exact AllReady.nil
          exact AllReady.nil
        refine AllReady.cons rfl (fun K hK => ?_) ?_
        · go_simp
          refine hK _ _ ?_
          clear hK K
          refine wpAny_ready (rs := [5]) (by kernel_rfl) (by simp) ?_
          refine AllReady.cons rfl (fun K hK => ?_) ?_
          · go_simp
            go_at_call 83
            refine (HG2.out _).mono ?_
            rintro e w9 ⟨rfl, hw⟩
            subst w9
            try go_simp
            refine hK _ _ ?_
            clear hK K
            refine wpAny_take (i := 8) (v := .agg #[.int .i64 x0, .int .i64 x2, .slice (some ⟨w1.heap.size, 0, none⟩) r r]) rfl (by kernel_rfl) (by kernel_rfl) (by kernel_rfl) (fun _ _ _ h => h) (Or.inl ⟨by rfl, ?_⟩) ?_
            · intro w
              go_simp
            refine wpAny_ready (rs := [10]) (by kernel_rfl) (by simp) ?_
            refine AllReady.cons rfl (fun K hK => ?_) ?_
            · go_simp
              refine hK _ _ ?_
              clear hK K
              refine wpAny_done (by kernel_rfl) ?_ _
              go_wp2_with fail
              go_meet
              exact HRA.out
            exact AllReady.nil
          exact AllReady.nil
        exact AllReady.nil
      refine AllReady.cons rfl (fun K hK => ?_) ?_
      · go_simp
        refine hK _ _ ?_
        clear hK K
        refine wpAny_ready (rs := [5, 7]) (by kernel_rfl) (by simp) ?_
        refine AllReady.cons rfl (fun K hK => ?_) ?_
        · go_simp
          go_at_call 83
          refine (HG2.out _).mono ?_
          rintro e w9 ⟨rfl, hw⟩
          subst w9
          try go_simp
          refine hK _ _ ?_
          clear hK K
          refine wpAny_ready (rs := [7]) (by kernel_rfl) (by simp) ?_
          refine AllReady.cons rfl (fun K hK => ?_) ?_
          · go_simp
            refine hK _ _ ?_
            clear hK K
            refine wpAny_take (i := 8) (v := .agg #[.int .i64 x0, .int .i64 x2, .slice (some ⟨w1.heap.size + 1, 0, none⟩) r r]) rfl (by kernel_rfl) (by kernel_rfl) (by kernel_rfl) (fun _ _ _ h => h) (Or.inl ⟨by rfl, ?_⟩) ?_
            · intro w
              go_simp
            refine wpAny_ready (rs := [10]) (by kernel_rfl) (by simp) ?_
            refine AllReady.cons rfl (fun K hK => ?_) ?_
            · go_simp
              refine hK _ _ ?_
              clear hK K
              refine wpAny_done (by kernel_rfl) ?_ _
              go_wp2_with fail
              go_meet
              exact HRB.out
            exact AllReady.nil
          exact AllReady.nil
        refine AllReady.cons rfl (fun K hK => ?_) ?_
        · go_simp
          refine hK _ _ ?_
          clear hK K
          refine wpAny_ready (rs := [5]) (by kernel_rfl) (by simp) ?_
          refine AllReady.cons rfl (fun K hK => ?_) ?_
          · go_simp
            go_at_call 83
            refine (HG2.out _).mono ?_
            rintro e w9 ⟨rfl, hw⟩
            subst w9
            try go_simp
            refine hK _ _ ?_
            clear hK K
            refine wpAny_take (i := 8) (v := .agg #[.int .i64 x0, .int .i64 x2, .slice (some ⟨w1.heap.size + 1, 0, none⟩) r r]) rfl (by kernel_rfl) (by kernel_rfl) (by kernel_rfl) (fun _ _ _ h => h) (Or.inl ⟨by rfl, ?_⟩) ?_
            · intro w
              go_simp
            refine wpAny_ready (rs := [10]) (by kernel_rfl) (by simp) ?_
            refine AllReady.cons rfl (fun K hK => ?_) ?_
            · go_simp
              refine hK _ _ ?_
              clear hK K
              refine wpAny_done (by kernel_rfl) ?_ _
              go_wp2_with fail
              go_meet
              exact HRB.out
            exact AllReady.nil
          exact AllReady.nil
        exact AllReady.nil
      exact AllReady.nil
    refine AllReady.cons rfl (fun K hK => ?_) ?_
    · go_simp
      refine hK _ _ ?_
      clear hK K
      refine wpAny_ready (rs := [2, 9]) (by kernel_rfl) (by simp) ?_
      refine AllReady.cons rfl (fun K hK => ?_) ?_
      · go_simp
        go_at_call 83
        refine (HG0.out _).mono ?_
        rintro e w9 ⟨rfl, hw⟩
        subst w9
        try go_simp
        refine hK _ _ ?_
        clear hK K
        refine wpAny_ready (rs := [5, 9]) (by kernel_rfl) (by simp) ?_
        refine AllReady.cons rfl (fun K hK => ?_) ?_
        · go_simp
          go_at_call 83
          refine (HG2.out _).mono ?_
          rintro e w9 ⟨rfl, hw⟩
          subst w9
          try go_simp
          refine hK _ _ ?_
          clear hK K
          refine wpAny_take (i := 8) (v := .agg #[.int .i64 x0, .int .i64 x2, .slice (some ⟨w1.heap.size, 0, none⟩) r r]) rfl (by kernel_rfl) (by kernel_rfl) (by kernel_rfl) (fun _ _ _ h => h) (Or.inl ⟨by rfl, ?_⟩) ?_
          · intro w
            go_simp
          refine wpAny_ready (rs := [9]) (by kernel_rfl) (by simp) ?_
          refine AllReady.cons rfl (fun K hK => ?_) ?_
          · go_simp
            refine hK _ _ ?_
            clear hK K
            refine wpAny_ready (rs := [10]) (by kernel_rfl) (by simp) ?_
            refine AllReady.cons rfl (fun K hK => ?_) ?_
            · go_simp
              refine hK _ _ ?_
              clear hK K
              refine wpAny_done (by kernel_rfl) ?_ _
              go_wp2_with fail
              go_meet
              exact HRA.out
            exact AllReady.nil
          exact AllReady.nil
        refine AllReady.cons rfl (fun K hK => ?_) ?_
        · go_simp
          refine hK _ _ ?_
          clear hK K
          refine wpAny_ready (rs := [5]) (by kernel_rfl) (by simp) ?_
          refine AllReady.cons rfl (fun K hK => ?_) ?_
          · go_simp
            go_at_call 83
            refine (HG2.out _).mono ?_
            rintro e w9 ⟨rfl, hw⟩
            subst w9
            try go_simp
            refine hK _ _ ?_
            clear hK K
            refine wpAny_take (i := 8) (v := .agg #[.int .i64 x0, .int .i64 x2, .slice (some ⟨w1.heap.size, 0, none⟩) r r]) rfl (by kernel_rfl) (by kernel_rfl) (by kernel_rfl) (fun _ _ _ h => h) (Or.inl ⟨by rfl, ?_⟩) ?_
            · intro w
              go_simp
            refine wpAny_ready (rs := [10]) (by kernel_rfl) (by simp) ?_
            refine AllReady.cons rfl (fun K hK => ?_) ?_
            · go_simp
              refine hK _ _ ?_
              clear hK K
              refine wpAny_done (by kernel_rfl) ?_ _
              go_wp2_with fail
              go_meet
              exact HRA.out
            exact AllReady.nil
          exact AllReady.nil
        exact AllReady.nil
      refine AllReady.cons rfl (fun K hK => ?_) ?_
      · go_simp
        refine hK _ _ ?_
        clear hK K
        refine wpAny_ready (rs := [2]) (by kernel_rfl) (by simp) ?_
        refine AllReady.cons rfl (fun K hK => ?_) ?_
        · go_simp
          go_at_call 83
          refine (HG0.out _).mono ?_
          rintro e w9 ⟨rfl, hw⟩
          subst w9
          try go_simp
          refine hK _ _ ?_
          clear hK K
          refine wpAny_ready (rs := [5]) (by kernel_rfl) (by simp) ?_
          refine AllReady.cons rfl (fun K hK => ?_) ?_
          · go_simp
            go_at_call 83
            refine (HG2.out _).mono ?_
            rintro e w9 ⟨rfl, hw⟩
            subst w9
            try go_simp
            refine hK _ _ ?_
            clear hK K
            refine wpAny_take (i := 8) (v := .agg #[.int .i64 x0, .int .i64 x2, .slice (some ⟨w1.heap.size, 0, none⟩) r r]) rfl (by kernel_rfl) (by kernel_rfl) (by kernel_rfl) (fun _ _ _ h => h) (Or.inl ⟨by rfl, ?_⟩) ?_
            · intro w
              go_simp
            refine wpAny_ready (rs := [10]) (by kernel_rfl) (by simp) ?_
            refine AllReady.cons rfl (fun K hK => ?_) ?_
            · go_simp
              refine hK _ _ ?_
              clear hK K
              refine wpAny_done (by kernel_rfl) ?_ _
              go_wp2_with fail
              go_meet
              exact HRA.out
            exact AllReady.nil
          exact AllReady.nil
        exact AllReady.nil
      exact AllReady.nil
    refine AllReady.cons rfl (fun K hK => ?_) ?_
    · go_simp
      refine hK _ _ ?_
      clear hK K
      refine wpAny_ready (rs := [2, 7]) (by kernel_rfl) (by simp) ?_
      refine AllReady.cons rfl (fun K hK => ?_) ?_
      · go_simp
        go_at_call 83
        refine (HG0.out _).mono ?_
        rintro e w9 ⟨rfl, hw⟩
        subst w9
        try go_simp
        refine hK _ _ ?_
        clear hK K
        refine wpAny_ready (rs := [5, 7]) (by kernel_rfl) (by simp) ?_
        refine AllReady.cons rfl (fun K hK => ?_) ?_
        · go_simp
          go_at_call 83
          refine (HG2.out _).mono ?_
          rintro e w9 ⟨rfl, hw⟩
          subst w9
          try go_simp
          refine hK _ _ ?_
          clear hK K
          refine wpAny_ready (rs := [7]) (by kernel_rfl) (by simp) ?_
          refine AllReady.cons rfl (fun K hK => ?_) ?_
          · go_simp
            refine hK _ _ ?_
            clear hK K
            refine wpAny_take (i := 8) (v := .agg #[.int .i64 x0, .int .i64 x2, .slice (some ⟨w1.heap.size + 1, 0, none⟩) r r]) rfl (by kernel_rfl) (by kernel_rfl) (by kernel_rfl) (fun _ _ _ h => h) (Or.inl ⟨by rfl, ?_⟩) ?_
            · intro w
              go_simp
            refine wpAny_ready (rs := [10]) (by kernel_rfl) (by simp) ?_
            refine AllReady.cons rfl (fun K hK => ?_) ?_
            · go_simp
              refine hK _ _ ?_
              clear hK K
              refine wpAny_done (by kernel_rfl) ?_ _
              go_wp2_with fail
              go_meet
              exact HRB.out
            exact AllReady.nil
          exact AllReady.nil
        refine AllReady.cons rfl (fun K hK => ?_) ?_
        · go_simp
          refine hK _ _ ?_
          clear hK K
          refine wpAny_ready (rs := [5]) (by kernel_rfl) (by simp) ?_
          refine AllReady.cons rfl (fun K hK => ?_) ?_
          · go_simp
            go_at_call 83
            refine (HG2.out _).mono ?_
            rintro e w9 ⟨rfl, hw⟩
            subst w9
            try go_simp
            refine hK _ _ ?_
            clear hK K
            refine wpAny_take (i := 8) (v := .agg #[.int .i64 x0, .int .i64 x2, .slice (some ⟨w1.heap.size + 1, 0, none⟩) r r]) rfl (by kernel_rfl) (by kernel_rfl) (by kernel_rfl) (fun _ _ _ h => h) (Or.inl ⟨by rfl, ?_⟩) ?_
            · intro w
              go_simp
            refine wpAny_ready (rs := [10]) (by kernel_rfl) (by simp) ?_
            refine AllReady.cons rfl (fun K hK => ?_) ?_
            · go_simp
              refine hK _ _ ?_
              clear hK K
              refine wpAny_done (by kernel_rfl) ?_ _
              go_wp2_with fail
              go_meet
              exact HRB.out
            exact AllReady.nil
          exact AllReady.nil
        exact AllReady.nil
      refine AllReady.cons rfl (fun K hK => ?_) ?_
      · go_simp
        refine hK _ _ ?_
        clear hK K
        refine wpAny_ready (rs := [2]) (by kernel_rfl) (by simp) ?_
        refine AllReady.cons rfl (fun K hK => ?_) ?_
        · go_simp
          go_at_call 83
          refine (HG0.out _).mono ?_
          rintro e w9 ⟨rfl, hw⟩
          subst w9
          try go_simp
          refine hK _ _ ?_
          clear hK K
          refine wpAny_ready (rs := [5]) (by kernel_rfl) (by simp) ?_
          refine AllReady.cons rfl (fun K hK => ?_) ?_
          · go_simp
            go_at_call 83
            refine (HG2.out _).mono ?_
            rintro e w9 ⟨rfl, hw⟩
            subst w9
            try go_simp
            refine hK _ _ ?_
            clear hK K
            refine wpAny_take (i := 8) (v := .agg #[.int .i64 x0, .int .i64 x2, .slice (some ⟨w1.heap.size + 1, 0, none⟩) r r]) rfl (by kernel_rfl) (by kernel_rfl) (by kernel_rfl) (fun _ _ _ h => h) (Or.inl ⟨by rfl, ?_⟩) ?_
            · intro w
              go_simp
            refine wpAny_ready (rs := [10]) (by kernel_rfl) (by simp) ?_
            refine AllReady.cons rfl (fun K hK => ?_) ?_
            · go_simp
              refine hK _ _ ?_
              clear hK K
              refine wpAny_done (by kernel_rfl) ?_ _
              go_wp2_with fail
              go_meet
              exact HRB.out
            exact AllReady.nil
          exact AllReady.nil
        exact AllReady.nil
      exact AllReady.nil
    exact AllReady.nil
  case rest =>
    obtain ⟨fb, gb, rfl, hz, hf, ho, hne, hfb, hb⟩ := hcut
    have HZ3 := Lib.hid hz
    have HF3 := Lib.hid hf
    have HO3 := Lib.hid ho
    have HB3 := Lib.hid hb
    have hgb : w.heap.size + 1 ≤ gb := (ho.lt gb rfl).1
    obtain ⟨cf0, cf1, cf2, _, _, _⟩ := cell3 hf
    clear hz hf ho hb HRA HRB
    go_wp2_with fail
    go_loopw [41] (fun i wr => ∃ (k : Nat) (xs : List Value), k ≤ r ∧ i = .int .i64 k ∧ xs.length = r * 2 ∧ (∀ j (h : j < (pR s r).length), j < k → xs[j * 2]? = some (.int .i64 (pR s r)[j].1) ∧ xs[j * 2 + 1]? = some (.int .i64 (pR s r)[j].2)) ∧ wr.heap[w.heap.size]? = some (.cells #[.int .i64 0, .int .i64 0, .slice none 0 0] 28 (0, 0)) ∧ wr.heap[fb]? = some (.cells #[.int .i64 x0, .int .i64 x2, .slice (some ⟨gb, 0, none⟩) r r] 28 (0, 0)) ∧ wr.ownsRow (w.heap.size + 1) 69 2 (.slice (some ⟨gb, 0, none⟩) r r) r xs ∧ Below w.heap.size w wr) (fun i _ => r - (intOf i).toNat)
    case atStart => exact ⟨0, _, Nat.zero_le _, rfl, by have := HO3.out.1; omega, fun j h hj => absurd hj (by omega), HZ3.out, HF3.out, HO3.out, HB3.out⟩
    case round =>
      clear cf0 cf1 cf2
      obtain ⟨k, xs, hk, rfl, hxl, hpre, hz, hf, hown, hb⟩ := hrel
      have HZ := Lib.hid hz
      have HF := Lib.hid hf
      have HO := Lib.hid hown
      have HB := Lib.hid hb
      have HP := Lib.hid hpre
      have HX := Lib.hid hxl
      obtain ⟨cf0, cf1, cf2, ff0, ff1, ff2⟩ := cell3 hf
      obtain ⟨cz0, cz1, cz2, fz0, fz1, fz2⟩ := cell3 hz
      have ltf := lt_of_block hf
      by_cases hlt : k < r
      · have z1 : (0 : Int) ≤ (k : Int) := by omega
        have z2 : (k : Int) < (r : Int) := by omega
        have jA := ixS s (IntKind.i64.wrap (3 + (k : Int) * 3 + 1)) (3 + k * 3 + 1) (by rw [IntKind.wrap_i64]; omega) (by have := HS.out; omega)
        have jB := ixS s (IntKind.i64.wrap (3 + (k : Int) * 3 + 2)) (3 + k * 3 + 2) (by rw [IntKind.wrap_i64]; omega) (by have := HS.out; omega)
        have HGA := Lib.hid fun w => signDigit_any (dB s (3 + k * 3 + 1)) w (dB_bd s _)
        have HGB := Lib.hid fun w => signDigit_any (dB s (3 + k * 3 + 2)) w (dB_bd s _)
        have HD : Hid (∀ h : k < (pR s r).length, (pR s r)[k] = (dB s (3 + k * 3 + 1), dB s (3 + k * 3 + 2))) := Lib.hid fun h => pR_at s r k h
        generalize dB s (3 + k * 3 + 1) = xa at jA HGA HD
        generalize dB s (3 + k * 3 + 2) = xb at jB HGB HD
        obtain ⟨u0, c0⟩ : ∃ u, wr.cell? ⟨gb, k * 2, none⟩ = some u := ⟨_, (hown.cellAt (k * 2) (by omega)).trans (List.getElem?_eq_getElem (by omega))⟩
        obtain ⟨u1, c1⟩ : ∃ u, wr.cell? ⟨gb, k * 2 + 1, none⟩ = some u := ⟨_, (hown.cellAt (k * 2 + 1) (by omega)).trans (List.getElem?_eq_getElem (by omega))⟩
        have g0 := hown.frozenAt (k * 2)
        have g1 := hown.frozenAt (k * 2 + 1)
        clear hz hf hown hb hpre hxl
        go_wp2_with fail
        refine wp_region_still_tail 15 (by kernel_rfl) (by kernel_rfl) ?_
        simp only [List.take_succ_cons, List.take_zero, List.drop_succ_cons, List.drop_zero]
        repeat still_step
        still_call (HGA.out _)
        repeat still_step
        still_call (HGB.out _)
        repeat still_step
        refine wpStill_nil ?_
        go_wp2_with fail
        refine ⟨⟨k + 1, (xs.set (k * 2) (.int .i64 xa)).set (k * 2 + 1) (.int .i64 xb), by omega, by simp, by rw [List.length_set, List.length_set]; exact HX.out, fun j h hj => ?_, (Below.heap_setCell _ ⟨gb, k * 2 + 1, none⟩ _ _ (by show w.heap.size ≠ gb; omega)).trans ((Below.heap_setCell _ ⟨gb, k * 2, none⟩ _ _ (by show w.heap.size ≠ gb; omega)).trans HZ.out), (Below.heap_setCell _ ⟨gb, k * 2 + 1, none⟩ _ _ hne).trans ((Below.heap_setCell _ ⟨gb, k * 2, none⟩ _ _ hne).trans HF.out), ((HO.out.stored (k * 2) (.int .i64 xa)).1.stored (k * 2 + 1) (.int .i64 xb)).1, ?_⟩, by simp [intOf]; omega⟩
        · have hx := HX.out
          by_cases e : j = k
          · subst e
            rw [HD.out h]
            exact ⟨by rw [List.getElem?_set_ne (by omega), List.getElem?_set_self (by omega)], by rw [List.getElem?_set_self (by rw [List.length_set]; omega)]⟩
          · have := HP.out j h (by omega)
            exact ⟨by rw [List.getElem?_set_ne (by omega), List.getElem?_set_ne (by omega)]; exact this.1, by rw [List.getElem?_set_ne (by omega), List.getElem?_set_ne (by omega)]; exact this.2⟩
        · first
            | exact ((HB.out.drew.setCell (p := ⟨gb, k * 2, none⟩) (by show w.heap.size ≤ gb; omega) _).setCell (p := ⟨gb, k * 2 + 1, none⟩) (by show w.heap.size ≤ gb; omega) _)
            | exact ((HB.out.setCell (p := ⟨gb, k * 2, none⟩) (by show w.heap.size ≤ gb; omega) _).setCell (p := ⟨gb, k * 2 + 1, none⟩) (by show w.heap.size ≤ gb; omega) _).drew
      · have hke : k = r := by omega
        subst hke
        have hxs : xs = flat (pR s k) := flat_of xs _ (by rw [pR_len]; exact hxl) (fun j h => hpre j h (by rw [pR_len] at h; exact h))
        subst hxs
        have HR : Hid (RodsR wr (.slice (some ⟨gb, 0, none⟩) k k) (pR s k)) := Lib.hid (by
          have := RodsR.of_own (rs := pR s k) (v := .slice (some ⟨gb, 0, none⟩) k k) (w := wr) (B := w.heap.size + 1) (e := 69) (by rw [pR_len]; exact hown)
          exact this)
        clear hz hf hown hb hpre hxl
        go_wp2_with fail
        rcases HK.out with ⟨rfl, rfl, rfl, rfl, hgood, htext⟩ | ⟨rfl, rfl, rfl, rfl, hk'⟩
        · have hts : (⟨(textF fu fl (pR s k)).toArray⟩ : ByteArray) = s := by rw [htext]
          have hcall := implFrameText_yes fu fl _ _ wr HR.out hgood
          rw [hts] at hcall
          refine hcall.mono ?_
          rintro e w5 ⟨rfl, hb5⟩
          have hss := bneSF (a := s) (b := s) rfl
          have HZ5 := Lib.hid ((hb5.block _ (lt_of_block HZ.out)).trans HZ.out)
          have HF5 := Lib.hid ((hb5.block _ (lt_of_block HF.out)).trans HF.out)
          have HO5 := Lib.hid (own_below HO.out hb5)
          have HB5 : Hid (Below w.heap.size w w5) := Lib.hid (HB.out.trans (hb5.mono HB.out.size))
          obtain ⟨a0, a1, a2, _, _, _⟩ := cell3 HZ5.out
          obtain ⟨b0, b1, b2, _, _, _⟩ := cell3 HF5.out
          clear hb5 cf0 cf1 cf2 cz0 cz1 cz2 hcall
          go_wp2_with fail
          refine bodyPost_ret (v := .tuple #[.agg #[.int .i64 fu, .int .i64 fl, .slice (some ⟨gb, 0, none⟩) k k], .bool true]) (by simp [results, Try.results50, go_sem, a0, a1, a2]) rfl ⟨⟨_, rfl, ?_⟩, bl_set3 HB5.out (Nat.le_refl _) _ _ _⟩
          rw [pR_len]
          exact own_mono (own_set3 HO5.out (Nat.lt_succ_self _) _ _ _) (Nat.le_succ _)
        · by_cases hgood : goodF x0 x2 (pR s k)
          · have hts : (⟨(textF x0 x2 (pR s k)).toArray⟩ : ByteArray) ≠ s := fun e => hk' ⟨hgood, by have := congrArg (fun b : ByteArray => b.data.toList) e; simpa using this⟩
            have hss := bneS hts
            have hcall := implFrameText_yes x0 x2 _ _ wr HR.out hgood
            generalize (⟨(textF x0 x2 (pR s k)).toArray⟩ : ByteArray) = tt at hcall hss hts
            refine hcall.mono ?_
            rintro e w5 ⟨rfl, hb5⟩
            have HZ5 := Lib.hid ((hb5.block _ (lt_of_block HZ.out)).trans HZ.out)
            have HB5 : Hid (Below w.heap.size w w5) := Lib.hid (HB.out.trans (hb5.mono HB.out.size))
            obtain ⟨a0, a1, a2, _, _, _⟩ := cell3 HZ5.out
            clear hb5 cf0 cf1 cf2 cz0 cz1 cz2 hcall
            go_wp2_with fail
            exact bodyPost_ret (v := .tuple #[.agg #[.int .i64 0, .int .i64 0, .slice none 0 0], .bool false]) (by simp [results, Try.results50, go_sem, a0, a1, a2]) rfl ⟨⟨_, rfl, own_nil _ _ _ _⟩, bl_set3 HB5.out (Nat.le_refl _) _ _ _⟩
          · refine (implFrameText_no x0 x2 _ _ wr HR.out hgood).mono ?_
            rintro e w5 ⟨rfl, hb5⟩
            have HZ5 := Lib.hid ((hb5.block _ (lt_of_block HZ.out)).trans HZ.out)
            have HB5 : Hid (Below w.heap.size w w5) := Lib.hid (HB.out.trans (hb5.mono HB.out.size))
            obtain ⟨a0, a1, a2, _, _, _⟩ := cell3 HZ5.out
            clear hb5 cf0 cf1 cf2 cz0 cz1 cz2
            go_wp2_with fail
            exact bodyPost_ret (v := .tuple #[.agg #[.int .i64 0, .int .i64 0, .slice none 0 0], .bool false]) (by simp [results, Try.results50, go_sem, a0, a1, a2]) rfl ⟨⟨_, rfl, own_nil _ _ _ _⟩, bl_set3 HB5.out (Nat.le_refl _) _ _ _⟩

set_option maxHeartbeats 1600000 in
theorem implParse_early (s : ByteArray) (w : World) (hs : s.size ≤ 1048576) (h : ¬ ∃ r : Nat, (1 ≤ r ∧ r ≤ 8) ∧ s.size = 3 + 3 * r) :
    Calls Try.prog 50 #[.string s] w fun e w' => e = .returned (.tuple #[.agg #[.int .i64 0, .int .i64 0, .slice none 0 0], .bool false]) ∧ Below w.heap.size w w' := by
  have q0 : (0 : Int) ≤ (s.size : Int) := by omega
  have q1 : (s.size : Int) ≤ 1048576 := by omega
  by_cases h3 : s.size < 3
  · clear h
    have hd : ((s.size : Int) - 3).tdiv 3 < 1 := by
      have : s.size = 0 ∨ s.size = 1 ∨ s.size = 2 := by omega
      rcases this with e | e | e <;> rw [e] <;> decide
    have hd2 : -9 ≤ ((s.size : Int) - 3).tdiv 3 := by
      have : s.size = 0 ∨ s.size = 1 ∨ s.size = 2 := by omega
      rcases this with e | e | e <;> rw [e] <;> decide
    generalize hq : ((s.size : Int) - 3).tdiv 3 = q at hd hd2
    go_enter Try.func50, Try.ntmps50
    go_wp2_with fail
    exact bodyPost_ret (v := .tuple #[.agg #[.int .i64 0, .int .i64 0, .slice none 0 0], .bool false]) (by simp [results, Try.results50, go_sem]) rfl ⟨rfl, (Below.refl _ _).alloc (Nat.le_refl _) _⟩
  have q2 : (0 : Int) ≤ (s.size : Int) - 3 := by omega
  by_cases h4 : ((s.size : Int) - 3) / 3 < 1
  · clear h
    go_enter Try.func50, Try.ntmps50
    go_wp2_with fail
    exact bodyPost_ret (v := .tuple #[.agg #[.int .i64 0, .int .i64 0, .slice none 0 0], .bool false]) (by simp [results, Try.results50, go_sem]) rfl ⟨rfl, (Below.refl _ _).alloc (Nat.le_refl _) _⟩
  by_cases h5 : 8 < ((s.size : Int) - 3) / 3
  · clear h
    go_enter Try.func50, Try.ntmps50
    go_wp2_with fail
    exact bodyPost_ret (v := .tuple #[.agg #[.int .i64 0, .int .i64 0, .slice none 0 0], .bool false]) (by simp [results, Try.results50, go_sem]) rfl ⟨rfl, (Below.refl _ _).alloc (Nat.le_refl _) _⟩
  have h6 : ((s.size : Int) != 3 + ((s.size : Int) - 3) / 3 * 3) = true := by
    rw [bne_iff_ne]
    intro e
    exact h ⟨(s.size - 3) / 3, by omega, by omega⟩
  have h7 : ((s.size : Int) == 3 + ((s.size : Int) - 3) / 3 * 3) = false := by
    rw [beq_eq_false_iff_ne]
    rw [bne_iff_ne] at h6
    exact h6
  clear h
  go_enter Try.func50, Try.ntmps50
  go_wp2_with fail
  exact bodyPost_ret (v := .tuple #[.agg #[.int .i64 0, .int .i64 0, .slice none 0 0], .bool false]) (by simp [results, Try.results50, go_sem]) rfl ⟨rfl, (Below.refl _ _).alloc (Nat.le_refl _) _⟩

theorem implParse_ok (s : ByteArray) (up lo : Int) (rs : List (Int × Int)) (w : World) (h : IsT s up lo rs) :
    Calls Try.prog 50 #[.string s] w fun e w' => (∃ v, e = .returned (.tuple #[.agg #[.int .i64 up, .int .i64 lo, v], .bool true]) ∧ w'.ownsRow w.heap.size 69 2 v rs.length (flat rs)) ∧ Below w.heap.size w w' := by
  obtain ⟨h1, h2, h3, h4⟩ := parse_text s up lo rs h.1 h.2
  have hl := h.1.2.2.2
  refine implParse_core s rs.length w h1 hl true up lo rs (.inl ⟨rfl, h2.symm, h3.symm, h4.symm, ?_⟩)
  rw [h2, h3, h4]
  exact h
theorem implParse_bad (s : ByteArray) (w : World) (hs : s.size ≤ 1048576) (h : ¬ ∃ up lo rs, IsT s up lo rs) :
    Calls Try.prog 50 #[.string s] w fun e w' => (∃ v, e = .returned (.tuple #[.agg #[.int .i64 0, .int .i64 0, v], .bool false]) ∧ w'.ownsRow w.heap.size 69 2 v ([] : List (Int × Int)).length (flat [])) ∧ Below w.heap.size w w' := by
  by_cases hr : ∃ r : Nat, (1 ≤ r ∧ r ≤ 8) ∧ s.size = 3 + 3 * r
  · obtain ⟨r, hr1, hr2⟩ := hr
    exact implParse_core s r w hr2 hr1 false 0 0 [] (.inr ⟨rfl, rfl, rfl, rfl, fun hh => h ⟨_, _, _, hh⟩⟩)
  · exact (implParse_early s w hs hr).mono fun e w' ⟨he, hb⟩ => ⟨⟨_, he, own_nil _ _ _ _⟩, hb⟩
end Go.Proofs.Ytbnfbpbfbdbiaaa
