/- What is drawn for joining. -/
import Derived.Test.YtfmkdfmholhnjaaDspl
import Derived.Test.YtfmkdfmholhnjaaLSplitString
namespace Go.Proofs.Ytfmkdfmholhnjaa
set_option linter.unusedVariables false
open Go.RowKit

theorem Try.infoStrD : (Try.prog.info? 9).map (fun i => (i.zero, i.size, i.bytes)) = some (some (.string ⟨#[]⟩), 1, 16) := by kernel_rfl
theorem Try.infoByteD : (Try.prog.info? 5).map (fun i => (i.zero, i.size, i.bytes)) = some (some (.int .u8 0), 1, 1) := by kernel_rfl
def markL : List ByteArray := [⟨#[44]⟩, ⟨#[59]⟩, ⟨#[59]⟩, ⟨#[]⟩, ⟨#[97, 98]⟩]
theorem markL_le : ∀ x ∈ markL, x.size ≤ 2 := by
  intro x hx
  simp only [markL, List.mem_cons, List.not_mem_nil, or_false] at hx
  rcases hx with rfl | rfl | rfl | rfl | rfl <;> decide
theorem own_str_push {w : World} {B n : Nat} {v : Value} {ss : List ByteArray} {x : ByteArray} (h : w.ownsRow B 9 1 v (n + 1) (ss.map Value.string ++ [.string x])) : w.ownsRow B 9 1 v (n + 1) ((ss ++ [x]).map Value.string) := by
  rw [List.map_append]; exact h
theorem own_grown {w w' : World} {B cb : Nat} {e : TypeId} {size : Nat} {v : Value} {n : Nat} {xs : List Value} (h : w.ownsRow B e size v n xs) (hg : w.grownBy w' (some cb)) (hc : cb < B) : w'.ownsRow B e size v n xs :=
  own_of_block h fun g hg' => hg.block g (h.lt g hg').2 (by have := (h.lt g hg').1; intro e; injection e with e; omega)
theorem CurAt.row {w w' : World} {b : Nat} {cd : Value} {n : Nat} {r : Option Nat} (h : CurAt w b cd n) (hg : w.grownBy w' r) (hne : some b ≠ r) : CurAt w' b cd n := by
  obtain ⟨k, sd, T, h1, h2, h3⟩ := h
  exact ⟨k, sd, T, h1, h2, (hg.block b (Array.getElem?_eq_some_iff.1 h3).1 hne).trans h3⟩
set_option maxRecDepth 100000 in
set_option maxHeartbeats 3200000 in
theorem drawJoin_any (cd : Value) (L : List UInt8) (w : World) (h : SlR w cd (L.map fun c => .int .u8 (c.toNat : Int))) :
    Calls Try.prog 12 #[cd] w fun e w' => (∃ (v : Value) (ss : List ByteArray) (y : ByteArray), e = .returned (.tuple #[v, .string y]) ∧ SlR w' v (ss.map Value.string) ∧ ss.length ≤ 10 ∧ (∀ x ∈ ss, x.size ≤ 5000) ∧ y.size ≤ 2) ∧ Below w.heap.size w w' := by
  obtain ⟨i0, hi, hz0, hz1, hz2⟩ := info_parts Try.infoStrD
  obtain ⟨j0, hj, hy0, hy1, hy2⟩ := info_parts Try.infoByteD
  obtain ⟨ad, cp, rfl⟩ : ∃ a c, cd = .slice a L.length c := by obtain ⟨a, c, e, _⟩ := h; exact ⟨a, c, by rw [e, List.length_map]⟩
  have hT : (Lit.int .u64 0).wf = true := by decide
  have HCD := Lib.hid (fun w' (hb : Below w.heap.size w w') => code_at h hb)
  obtain ⟨W1, hW1⟩ : ∃ W1, w.alloc (.cells #[.slice ad L.length cp, .int .i64 0, .int .u64 0] 45) = W1 := ⟨_, rfl⟩
  have hc1 : CurAt W1 w.heap.size (.slice ad L.length cp) 0 := ⟨0, 0, _, Nat.le_refl _, Lib.hid hT, by rw [← hW1]; exact alloc_at rfl⟩
  have hb1 : Below w.heap.size w W1 := by rw [← hW1]; exact (Below.refl _ w).alloc (Nat.le_refl _) _
  have hs1 : W1.heap.size = w.heap.size + 1 := by rw [← hW1]; simp
  obtain ⟨W2, hW2⟩ : ∃ W2, W1.alloc (.cells #[] 9) = W2 := ⟨_, rfl⟩
  have hg2 : W1.grownBy W2 none := by rw [← hW2]; exact grown_alloc _ _ _
  have hb2 : Below w.heap.size w W2 := by rw [← hW2]; exact hb1.alloc hb1.size _
  have HO2 : Hid (W2.ownsRow (w.heap.size + 1) 9 1 (.slice (some ⟨W1.heap.size, 0, none⟩) 0 0) 0 (([] : List ByteArray).map Value.string)) := Lib.hid (by rw [← hW2]; exact World.ownsRow_made _ _ _ (by omega) (Nat.zero_le _) (by simp))
  have HP := Lib.hid (pick_any w.heap.size _ L 0 4 W2 (by omega) (by omega) (by omega) (hc1.old hg2) (HCD.out _ hb2))
  have HB2 := Lib.hid hb2
  have hs2 : w.heap.size + 1 ≤ W2.heap.size := by have := hg2.size; omega
  have HS1 := Lib.hid hs1
  have HS2 := Lib.hid hs2
  clear hc1 hb1 hb2 hg2 h hs1 hs2
  go_enter Try.func12, Try.ntmps12
  go_wp2_with fail
  refine (HP.out).mono ?_
  rintro e w3 ⟨⟨r, rfl, r0, r1⟩, hc3, hg3⟩
  have HB3 : Hid (Below w.heap.size w w3) := Lib.hid (HB2.out.grown hg3 HB2.out.size (fun k e => by cases e; exact Nat.le_refl _))
  have HO3 := Lib.hid (own_grown HO2.out hg3 (Nat.lt_succ_self _))
  have HC3 := Lib.hid hc3
  have HS3 : Hid (w.heap.size + 1 ≤ w3.heap.size) := Lib.hid (by have := hg3.size; have := HS2.out; omega)
  clear hc3 hg3
  go_wp2_with fail
  go_loopw [5, 7] (fun vv iv wr => ∃ (k n : Nat) (ss : List ByteArray) (v : Value), (k : Int) ≤ r ∧ iv = .int .i64 k ∧ vv = v ∧ ss.length = k ∧ n ≤ 2 + 2 * k ∧ Hid (∀ x ∈ ss, x.size ≤ 10) ∧ wr.ownsRow (w.heap.size + 1) 9 1 v k (ss.map Value.string) ∧ CurAt wr w.heap.size (.slice ad L.length cp) n ∧ Below w.heap.size w wr ∧ w.heap.size + 1 ≤ wr.heap.size) (fun _ i _ => (r - intOf i).toNat)
  case atStart => exact ⟨0, 2, [], _, by omega, rfl, rfl, rfl, by omega, Lib.hid (fun x hx => by cases hx), HO3.out, HC3.out, HB3.out, HS3.out⟩
  case round =>
    obtain ⟨k, n, ss, v, hk, rfl, rfl, hsl, hn, HX, hown, hcur, hb, hsz⟩ := hrel
    have HSL := Lib.hid hsl
    have HO := Lib.hid hown
    have HC := Lib.hid hcur
    have HB := Lib.hid hb
    have HS := Lib.hid hsz
    clear hown hcur hb hsz hsl
    by_cases hlt : (k : Int) < r
    · have HA := Lib.hid (any1_any w.heap.size _ L n wr (by omega) HC.out (HCD.out _ HB.out))
      go_wp2_with fail
      refine (HA.out).mono ?_
      rintro e w4 ⟨⟨x, rfl, hx⟩, hc4, hg4⟩
      have HB4 : Hid (Below w.heap.size w w4) := Lib.hid (HB.out.grown hg4 HB.out.size (fun k e => by cases e; exact Nat.le_refl _))
      have HO4 := Lib.hid (own_grown HO.out hg4 (Nat.lt_succ_self _))
      have HC4 := Lib.hid hc4
      have HS4 : Hid (w.heap.size + 1 ≤ w4.heap.size) := Lib.hid (by have := hg4.size; have := HS.out; omega)
      clear hc4 hg4
      go_wp2_with (at_builtin; refine wpList_append_own _ rfl _ _ 22 rfl (w.heap.size + 1) 9 i0 (.string ⟨#[]⟩) 1 16 Try.underlying22 hi hz0 hz1 hz2 rfl (by decide) _ _ _ rfl (HO4.out.alloc _) ⟨w4.heap.size, 0, none⟩ 1 1 [.string x] rfl rfl ?c41 ?c42 ?c43 ?c44 ?c45 ?_)
      case c41 => exact cell_one_new _ _ _
      case c42 => intro u hu; rw [List.mem_singleton.1 hu]; rfl
      case c43 => unfold maxLen; omega
      case c44 => omega
      case c45 => (have hs5 := HS4.out; simp; omega)
      intro v' wn4 hownn hgrown _
      have HON4 := Lib.hid (own_str_push hownn)
      have HBN4 : Hid (Below w.heap.size w wn4) := Lib.hid ((HB4.out.alloc HB4.out.size _).grown hgrown (by have := HS4.out; simp; omega) (fun q hq => by have := (HO4.out.lt q hq).1; omega))
      have HCN4 := Lib.hid ((HC4.out.old (grown_alloc _ _ none)).row hgrown (fun e => by have := (HO4.out.lt _ e.symm).1; omega))
      have HSN4 : Hid (w.heap.size + 1 ≤ wn4.heap.size) := Lib.hid (by have h1 := hgrown.size; have := HS4.out; simp at h1; omega)
      clear hownn hgrown
      go_wp2_with fail
      go_roundw
      case rel => exact ⟨k + 1, n + 2, ss ++ [x], _, by omega, by go_num, rfl, by rw [List.length_append, HSL.out]; rfl, by omega, Lib.hid (fun z hz => by rcases List.mem_append.1 hz with h | h; exact HX.out z h; rw [List.mem_singleton.1 h]; exact hx), HON4.out, HCN4.out, HBN4.out, HSN4.out⟩
      case measure => simp [intOf]; omega
    · have HA := Lib.hid (one_any w.heap.size _ L n 20 wr (by omega) (by omega) HC.out (HCD.out _ HB.out))
      go_wp2_with fail
      refine (HA.out).mono ?_
      rintro e w4 ⟨⟨x, rfl⟩, hc4, hg4⟩
      have HB4 : Hid (Below w.heap.size w w4) := Lib.hid (HB.out.grown hg4 HB.out.size (fun k e => by cases e; exact Nat.le_refl _))
      have HO4 := Lib.hid (own_grown HO.out hg4 (Nat.lt_succ_self _))
      have HC4 := Lib.hid hc4
      have HS4 : Hid (w.heap.size + 1 ≤ w4.heap.size) := Lib.hid (by have := hg4.size; have := HS.out; omega)
      clear hc4 hg4
      cases x with
      | true =>
        have HPK := Lib.hid (pick_any w.heap.size _ L (n + 2) 20 w4 (by omega) (by omega) (by omega) HC4.out (HCD.out _ HB4.out))
        go_wp2_with fail
        refine (HPK.out).mono ?_
        rintro e w5 ⟨⟨r2, rfl, r20, r21⟩, hc5, hg5⟩
        have HB5 : Hid (Below w.heap.size w w5) := Lib.hid (HB4.out.grown hg5 HB4.out.size (fun k e => by cases e; exact Nat.le_refl _))
        have HO5 := Lib.hid (own_grown HO4.out hg5 (Nat.lt_succ_self _))
        have HC5 := Lib.hid hc5
        have HS5 : Hid (w.heap.size + 1 ≤ w5.heap.size) := Lib.hid (by have := hg5.size; have := HS4.out; omega)
        clear hc5 hg5
        obtain ⟨M, hM⟩ : ∃ M : Nat, (M : Int) = 3990 + r2 := ⟨(3990 + r2).toNat, by omega⟩
        have wM : IntKind.i64.wrap (3990 + r2) = (M : Int) := by rw [hM, IntKind.wrap_i64]; omega
        have hM2 : M ≤ 4010 := by omega
        clear hM
        go_wp2_with (at_make; refine wpList_make_full _ rfl _ _ 28 rfl w5.heap.size 5 j0 (.int .u8 0) 1 Try.underlying28 hj hy0 hy1 _ _ _ _ M rfl rfl rfl rfl ?m2 ?m3 (Nat.le_refl _) ?_)
        case m2 => rw [hy2]; omega
        case m3 => unfold maxLen; omega
        intro w6 hown6 hgrow6
        have hb56 : Below w5.heap.size w5 w6 := (Below.refl _ _).grown hgrow6 (Nat.le_refl _) (fun k h => by cases h)
        have HB6 : Hid (Below w.heap.size w w6) := Lib.hid (HB5.out.trans (hb56.mono HB5.out.size))
        have HO6 := Lib.hid (own_below HO5.out hb56)
        have HC6 := Lib.hid (HC5.out.old hgrow6)
        have HS6 : Hid (w.heap.size + 1 ≤ w6.heap.size) := Lib.hid (by have := hb56.size; have := HS5.out; omega)
        have hcv : ∀ (T : TypeId), Try.prog.underlying T = some .string → (convert 28 T (.slice (some ⟨w5.heap.size, 0, none⟩) M M)).run Try.prog w6 = .ok (.string ⟨(List.replicate M (0 : UInt8)).toArray⟩) w6 := by
          intro T hT
          have := run_convert_bytes_back (P := Try.prog) w6 28 T 5 ⟨w5.heap.size, 0, none⟩ M (List.replicate M (0 : UInt8)) Try.underlying28 Try.underlying5 hT (fun j hj2 => by
            have hj3 : j < M := by simpa using hj2
            exact hown6.cells (g := w5.heap.size) rfl j _ (by simp [madeCells, hj3, Nat.mod_one]))
          rwa [List.length_replicate] at this
        have hcv9 := hcv _ Try.underlying9
        obtain ⟨z, hz⟩ : ∃ z : ByteArray, (⟨(List.replicate M (0 : UInt8)).toArray⟩ : ByteArray) = z := ⟨_, rfl⟩
        have HZ : Hid (z.size ≤ 5000) := Lib.hid (by rw [← hz]; show (List.replicate M (0 : UInt8)).toArray.size ≤ 5000; simp; omega)
        rw [hz] at hcv9
        clear hcv hz hown6 hgrow6 hb56
        go_wp2_with (at_builtin; refine wpList_append_own _ rfl _ _ 22 rfl (w.heap.size + 1) 9 i0 (.string ⟨#[]⟩) 1 16 Try.underlying22 hi hz0 hz1 hz2 rfl (by decide) _ _ _ rfl (HO6.out.alloc _) ⟨w6.heap.size, 0, none⟩ 1 1 [.string z] rfl rfl ?c61 ?c62 ?c63 ?c64 ?c65 ?_)
        case c61 => exact cell_one_new _ _ _
        case c62 => intro u hu; rw [List.mem_singleton.1 hu]; rfl
        case c63 => unfold maxLen; omega
        case c64 => omega
        case c65 => (have hs5 := HS6.out; simp; omega)
        intro v' wn6 hownn hgrown _
        have HON6 := Lib.hid (own_str_push hownn)
        have HBN6 : Hid (Below w.heap.size w wn6) := Lib.hid ((HB6.out.alloc HB6.out.size _).grown hgrown (by have := HS6.out; simp; omega) (fun q hq => by have := (HO6.out.lt q hq).1; omega))
        have HCN6 := Lib.hid ((HC6.out.old (grown_alloc _ _ none)).row hgrown (fun e => by have := (HO6.out.lt _ e.symm).1; omega))
        have HSN6 : Hid (w.heap.size + 1 ≤ wn6.heap.size) := Lib.hid (by have h1 := hgrown.size; have := HS6.out; simp at h1; omega)
        clear hownn hgrown
        have hga := grown_alloc wn6 (.cells (markL.map Value.string).toArray 9) none
        have HOF := Lib.hid (of_any w.heap.size (.slice ad L.length cp) L (n + 2 + 2) _ markL _ (by omega) (by decide) (slr_lit wn6 (markL.map Value.string) 9 (by decide)) (fun a m c e => by cases e; show wn6.heap.size ≠ w.heap.size; have := HSN6.out; omega) (HCN6.out.old hga) ((HCD.out _ HBN6.out).grown (grown_any hga)))
        have HBF : Hid (Below w.heap.size w (wn6.alloc (.cells (markL.map Value.string).toArray 9))) := Lib.hid (HBN6.out.alloc HBN6.out.size _)
        clear hga
        go_wp2_with fail
        refine (HOF.out).mono ?_
        rintro e w99 ⟨⟨y, rfl, hy⟩, hc9, hg9⟩
        have HY := Lib.hid (markL_le y hy)
        have HRR := Lib.hid (slr_own (own_grown (HON6.out.alloc _) hg9 (Nat.lt_succ_self _)))
        have HBG : Hid (Below w.heap.size w w99) := Lib.hid (HBF.out.grown hg9 HBF.out.size (fun k e => by cases e; exact Nat.le_refl _))
        clear hc9 hg9 hy
        go_wp2_with fail
        go_ret2
        exact ⟨⟨_, ss ++ [z], y, rfl, HRR.out, by rw [List.length_append, HSL.out, List.length_singleton]; omega, fun q hq => by rcases List.mem_append.1 hq with h | h; (have := HX.out q h; omega); (rw [List.mem_singleton.1 h]; exact HZ.out), HY.out⟩, HBG.out⟩
      | false =>
        have hga := grown_alloc w4 (.cells (markL.map Value.string).toArray 9) none
        have HOF := Lib.hid (of_any w.heap.size (.slice ad L.length cp) L (n + 2) _ markL _ (by omega) (by decide) (slr_lit w4 (markL.map Value.string) 9 (by decide)) (fun a m c e => by cases e; show w4.heap.size ≠ w.heap.size; have := HS4.out; omega) (HC4.out.old hga) ((HCD.out _ HB4.out).grown (grown_any hga)))
        have HBF : Hid (Below w.heap.size w (w4.alloc (.cells (markL.map Value.string).toArray 9))) := Lib.hid (HB4.out.alloc HB4.out.size _)
        clear hga
        go_wp2_with fail
        refine (HOF.out).mono ?_
        rintro e w99 ⟨⟨y, rfl, hy⟩, hc9, hg9⟩
        have HY := Lib.hid (markL_le y hy)
        have HRR := Lib.hid (slr_own (own_grown (HO4.out.alloc _) hg9 (Nat.lt_succ_self _)))
        have HBG : Hid (Below w.heap.size w w99) := Lib.hid (HBF.out.grown hg9 HBF.out.size (fun k e => by cases e; exact Nat.le_refl _))
        clear hc9 hg9 hy
        go_wp2_with fail
        go_ret2
        exact ⟨⟨_, ss, y, rfl, HRR.out, by rw [HSL.out]; omega, fun q hq => by have := HX.out q hq; omega, HY.out⟩, HBG.out⟩
end Go.Proofs.Ytfmkdfmholhnjaa
