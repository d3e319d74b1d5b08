/- Parts laid as one: Tks, Tkn. -/
import Derived.Test.YtjkjaadcdolbhaaKp
import Derived.Test.YtjkjaadcdolbhaaCon
/-! Tks -/
namespace Go.Proofs.Ytjkjaadcdolbhaa
set_option linter.unusedVariables false
open Go.RowKit

/-- Where the taking of digits stands. -/
structure SuAt (n : Nat) (ps : List (Int × Int)) (X : Option (List (Int × Int) × List Mv × Nat)) (k : Nat) (rs : List (Int × Int)) (ms : List Mv) (c : Nat) : Prop where
  std : stdF rs
  len : rs.length = n
  le : k ≤ ps.length
  run : runT (ps.drop k) rs ms c = X
  mb : ms.length ≤ 16 * k
  cb : c ≤ 8 * k
section
variable {n : Nat} {ps : List (Int × Int)} {X : Option (List (Int × Int) × List Mv × Nat)} {k : Nat} {rs : List (Int × Int)} {ms : List Mv} {c : Nat}
theorem SuAt.yes (h : SuAt n ps X k rs ms c) (hn : n ≤ 8) (hk : k < ps.length) {q : Nat} {d : Int} (hq : ps[k].1 = (q : Int)) (hd : ps[k].2 = d) (hok : okT rs (q : Int) d) : SuAt n ps X (k + 1) (brR (q + 1) d rs) (ms ++ brM (q + 1) d rs) (c + brC (q + 1) d rs) := by
  have hr := h.run
  rw [List.drop_eq_getElem_cons hk, show ps[k] = ((q : Int), d) from Prod.ext hq hd] at hr
  unfold runT at hr
  rw [if_pos hok, Int.toNat_natCast] at hr
  have hq8 : q + 1 ≤ 8 := by have := hok.1; have := h.len; omega
  refine ⟨brR_std _ _ _ h.std, by rw [brR_len]; exact h.len, hk, hr, ?_, ?_⟩
  · rw [List.length_append]; have := brM_len (q + 1) d rs; have := h.mb; omega
  · have := brC_le (q + 1) d rs; have := h.cb; omega
theorem SuAt.no (h : SuAt n ps X k rs ms c) (hk : k < ps.length) {q d : Int} (hq : ps[k].1 = q) (hd : ps[k].2 = d) (hno : ¬ okT rs q d) : X = none := by
  have hr := h.run
  rw [List.drop_eq_getElem_cons hk, show ps[k] = (q, d) from Prod.ext hq hd] at hr
  unfold runT at hr
  rw [if_neg hno] at hr
  exact hr.symm
theorem SuAt.done (h : SuAt n ps X ps.length rs ms c) : X = some (rs, ms, c) := by
  have hr := h.run
  rw [List.drop_length] at hr
  unfold runT at hr
  exact hr.symm
end

set_option maxRecDepth 100000 in
set_option maxHeartbeats 1600000 in
theorem subOf_bad (up lo : Int) (sv : Value) (rs : List (Int × Int)) (w : World) (h : RodsR w sv rs) (hn : ¬ (goodF up lo rs ∧ stdF rs)) (dv : Value) (ps : List (Int × Int)) (hd : RodsR w dv ps) :
    Calls Try.prog 70 #[.agg #[.int .i64 up, .int .i64 lo, sv], dv] w fun e w' => e = .returned (.tuple #[.agg #[.int .i64 0, .int .i64 0, .slice none 0 0, .slice none 0 0, .int .i64 0], .bool false]) ∧ Below w.heap.size w w' := by
  obtain ⟨a, cp, rfl⟩ : ∃ a c, sv = .slice a rs.length c := by obtain ⟨a, c, e, _⟩ := h; exact ⟨a, c, e⟩
  have hm : rs.length ≤ 9223372036854775807 := by obtain ⟨_, _, _, ⟨m, _⟩, _⟩ := h; exact m
  obtain ⟨pa, pc, rfl⟩ : ∃ a c, dv = .slice a ps.length c := by obtain ⟨a, c, e, _⟩ := hd; exact ⟨a, c, e⟩
  have HN := Lib.hid hn
  have HB0 : Hid (Below w.heap.size w w) := Lib.hid (Below.refl _ _)
  have HRf0 := Lib.hid (h)
  clear h hd hn
  go_enter Try.func70, Try.ntmps70
  go_wp2_with fail
  have hb : Below w.heap.size w (w.alloc (.cells #[.int .i64 up, .int .i64 lo, .slice a rs.length cp] 26)) := (Below.refl _ _).alloc (Nat.le_refl _) _
  have hk : (w.alloc (.cells #[.int .i64 up, .int .i64 lo, .slice a rs.length cp] 26)).heap[w.heap.size]? = some (.cells #[.int .i64 up, .int .i64 lo, .slice a rs.length cp] 26 (0, 0)) := alloc_at rfl
  have hz : (w.alloc (.cells #[.int .i64 up, .int .i64 lo, .slice a rs.length cp] 26)).heap.size = w.heap.size + 1 := by simp
  generalize w.alloc (.cells #[.int .i64 up, .int .i64 lo, .slice a rs.length cp] 26) = w1 at hb hk hz ⊢
  have HB1 : Hid (Below w.heap.size w w1) := Lib.hid (HB0.out.trans (hb.mono HB0.out.size))
  have HZ1 : Hid (w.heap.size ≤ w1.heap.size) := Lib.hid hb.size
  have HRf1 := Lib.hid (HRf0.out.below HB1.out (Nat.le_refl _))
  have HKf1 := Lib.hid hk
  replace HZ1 : Hid (w.heap.size < w1.heap.size) := Lib.hid (by omega)
  have HE1 := Lib.hid hz
  clear hb hk hz
  have hb : Below w1.heap.size w1 (w1.alloc (.cells #[.int .i64 0, .int .i64 0, .slice none 0 0, .slice none 0 0, .int .i64 0] 67)) := (Below.refl _ _).alloc (Nat.le_refl _) _
  have hk : (w1.alloc (.cells #[.int .i64 0, .int .i64 0, .slice none 0 0, .slice none 0 0, .int .i64 0] 67)).heap[w.heap.size + 1]? = some (.cells #[.int .i64 0, .int .i64 0, .slice none 0 0, .slice none 0 0, .int .i64 0] 67 (0, 0)) := alloc_at (by have := HE1.out; omega)
  have hz : (w1.alloc (.cells #[.int .i64 0, .int .i64 0, .slice none 0 0, .slice none 0 0, .int .i64 0] 67)).heap.size = w1.heap.size + 1 := by simp
  generalize w1.alloc (.cells #[.int .i64 0, .int .i64 0, .slice none 0 0, .slice none 0 0, .int .i64 0] 67) = w2 at hb hk hz ⊢
  have HB2 : Hid (Below w.heap.size w w2) := Lib.hid (HB1.out.trans (hb.mono HB1.out.size))
  have HZ2 : Hid (w1.heap.size ≤ w2.heap.size) := Lib.hid hb.size
  have HRf2 := Lib.hid (HRf0.out.below HB2.out (Nat.le_refl _))
  have HKf2 := Lib.hid ((hb.block _ (lt_of_block HKf1.out)).trans HKf1.out)
  have HKz2 := Lib.hid hk
  replace HZ2 : Hid (w1.heap.size < w2.heap.size) := Lib.hid (by omega)
  have HE2 := Lib.hid hz
  clear hb hk hz
  have ltf := lt_of_block HKf2.out
  obtain ⟨cf0, cf1, cf2, ff0, ff1, ff2⟩ := cell3 HKf2.out
  have ltz := lt_of_block HKz2.out
  obtain ⟨cz0, cz1, cz2, cz3, cz4, fz0, fz1, fz2, fz3, fz4⟩ := cell5 HKz2.out
  go_wp2_with fail
  refine (courseOn_no up lo _ rs _ HRf2.out HN.out).mono ?_
  rintro e w3 ⟨rfl, hb⟩
  have HB3 : Hid (Below w.heap.size w w3) := Lib.hid (HB2.out.trans (hb.mono HB2.out.size))
  have HZ3 : Hid (w2.heap.size ≤ w3.heap.size) := Lib.hid hb.size
  have HRf3 := Lib.hid (HRf0.out.below HB3.out (Nat.le_refl _))
  have HKf3 := Lib.hid ((hb.block _ (lt_of_block HKf2.out)).trans HKf2.out)
  have HKz3 := Lib.hid ((hb.block _ (lt_of_block HKz2.out)).trans HKz2.out)
  clear hb
  clear cf0 cf1 cf2 ff0 ff1 ff2 ltf cz0 cz1 cz2 cz3 cz4 fz0 fz1 fz2 fz3 fz4 ltz
  have ltf := lt_of_block HKf3.out
  obtain ⟨cf0, cf1, cf2, ff0, ff1, ff2⟩ := cell3 HKf3.out
  have ltz := lt_of_block HKz3.out
  obtain ⟨cz0, cz1, cz2, cz3, cz4, fz0, fz1, fz2, fz3, fz4⟩ := cell5 HKz3.out
  go_wp2_with fail
  have hkz := (alloc_old (w := (((((w3.setCell ⟨w.heap.size + 1, 0, none⟩ (.int .i64 0)).setCell ⟨w.heap.size + 1, 1, none⟩ (.int .i64 0)).setCell ⟨w.heap.size + 1, 2, none⟩ (.slice none 0 0)).setCell ⟨w.heap.size + 1, 3, none⟩ (.slice none 0 0)).setCell ⟨w.heap.size + 1, 4, none⟩ (.int .i64 0))) (o := .cells #[.int .i64 0, .int .i64 0, .slice none 0 0, .slice none 0 0] 65) (k := w.heap.size + 1) (by simp; exact ltz)).trans (box5_set HKz3.out (.int .i64 0) (.int .i64 0) (.slice none 0 0) (.slice none 0 0) (.int .i64 0))
  have hbz : Below w.heap.size w ((((((w3.setCell ⟨w.heap.size + 1, 0, none⟩ (.int .i64 0)).setCell ⟨w.heap.size + 1, 1, none⟩ (.int .i64 0)).setCell ⟨w.heap.size + 1, 2, none⟩ (.slice none 0 0)).setCell ⟨w.heap.size + 1, 3, none⟩ (.slice none 0 0)).setCell ⟨w.heap.size + 1, 4, none⟩ (.int .i64 0)).alloc (.cells #[.int .i64 0, .int .i64 0, .slice none 0 0, .slice none 0 0] 65)) := (bl_set5 HB3.out (Nat.le_succ _) _ _ _ _ _).alloc (by simp; exact HB3.out.size) _
  generalize (((((w3.setCell ⟨w.heap.size + 1, 0, none⟩ (.int .i64 0)).setCell ⟨w.heap.size + 1, 1, none⟩ (.int .i64 0)).setCell ⟨w.heap.size + 1, 2, none⟩ (.slice none 0 0)).setCell ⟨w.heap.size + 1, 3, none⟩ (.slice none 0 0)).setCell ⟨w.heap.size + 1, 4, none⟩ (.int .i64 0)).alloc (.cells #[.int .i64 0, .int .i64 0, .slice none 0 0, .slice none 0 0] 65) = W9 at hkz hbz ⊢
  obtain ⟨y0, y1, y2, y3, y4, -, -, -, -, -⟩ := cell5 hkz
  exact bodyPost_ret (v := .tuple #[.agg #[.int .i64 0, .int .i64 0, .slice none 0 0, .slice none 0 0, .int .i64 0], .bool false]) (by simp [results, Try.results70, go_sem, y0, y1, y2, y3, y4]) rfl ⟨rfl, hbz⟩

set_option maxRecDepth 100000 in
set_option maxHeartbeats 3200000 in
theorem subOf_run (up lo : Int) (sv : Value) (rs : List (Int × Int)) (w : World) (h : RodsR w sv rs) (hg : goodF up lo rs) (hs : stdF rs) (dv : Value) (ps : List (Int × Int)) (hd : RodsR w dv ps) (hl : ps.length ≤ 8) (X : Option (List (Int × Int) × List Mv × Nat)) (hX : runT ps rs [] 0 = X) :
    Calls Try.prog 70 #[.agg #[.int .i64 up, .int .i64 lo, sv], dv] w fun e w' => ((∃ RT MT CT s1 g1 k1, X = some (RT, MT, CT) ∧ e = .returned (.tuple #[.agg #[.int .i64 up, .int .i64 lo, s1, .slice (some ⟨g1, 0, none⟩) MT.length k1, .int .i64 (CT : Nat)], .bool true]) ∧ w'.ownsRow w.heap.size 83 2 s1 RT.length (flat RT) ∧ w'.ownsRow w.heap.size 75 3 (.slice (some ⟨g1, 0, none⟩) MT.length k1) MT.length (flatC mvC MT)) ∨ (X = none ∧ e = .returned (.tuple #[.agg #[.int .i64 0, .int .i64 0, .slice none 0 0, .slice none 0 0, .int .i64 0], .bool false]))) ∧ Below w.heap.size w w' := by
  obtain ⟨a, cp, rfl⟩ : ∃ a c, sv = .slice a rs.length c := by obtain ⟨a, c, e, _⟩ := h; exact ⟨a, c, e⟩
  have hm : rs.length ≤ 9223372036854775807 := by obtain ⟨_, _, _, ⟨m, _⟩, _⟩ := h; exact m
  obtain ⟨pa, pc, rfl⟩ : ∃ a c, dv = .slice a ps.length c := by obtain ⟨a, c, e, _⟩ := hd; exact ⟨a, c, e⟩
  have HSU : Hid (SuAt rs.length ps X 0 rs [] 0) := Lib.hid ⟨hs, rfl, Nat.zero_le _, hX, Nat.le_refl _, Nat.le_refl _⟩
  have HG := Lib.hid hg
  have HS := Lib.hid hs
  have hl8 : rs.length ≤ 8 := hg.2.2.2.2
  have RL : Hid (∀ w' : World, Below w.heap.size w w' → ∀ k, (hk : k < ps.length) → ∃ b o, pa = some ⟨b, o, none⟩ ∧ w'.cell? ⟨b, o + k * 2, none⟩ = some (.int .i64 ps[k].1) ∧ w'.cell? ⟨b, o + k * 2 + 1, none⟩ = some (.int .i64 ps[k].2)) := Lib.hid (rods_at hd)
  have HB0 : Hid (Below w.heap.size w w) := Lib.hid (Below.refl _ _)
  have HRf0 := Lib.hid (h)
  clear h hd hg hs hX
  go_enter Try.func70, Try.ntmps70
  go_wp2_with fail
  have hb : Below w.heap.size w (w.alloc (.cells #[.int .i64 up, .int .i64 lo, .slice a rs.length cp] 26)) := (Below.refl _ _).alloc (Nat.le_refl _) _
  have hk : (w.alloc (.cells #[.int .i64 up, .int .i64 lo, .slice a rs.length cp] 26)).heap[w.heap.size]? = some (.cells #[.int .i64 up, .int .i64 lo, .slice a rs.length cp] 26 (0, 0)) := alloc_at rfl
  have hz : (w.alloc (.cells #[.int .i64 up, .int .i64 lo, .slice a rs.length cp] 26)).heap.size = w.heap.size + 1 := by simp
  generalize w.alloc (.cells #[.int .i64 up, .int .i64 lo, .slice a rs.length cp] 26) = w1 at hb hk hz ⊢
  have HB1 : Hid (Below w.heap.size w w1) := Lib.hid (HB0.out.trans (hb.mono HB0.out.size))
  have HZ1 : Hid (w.heap.size ≤ w1.heap.size) := Lib.hid hb.size
  have HRf1 := Lib.hid (HRf0.out.below HB1.out (Nat.le_refl _))
  have HKf1 := Lib.hid hk
  replace HZ1 : Hid (w.heap.size < w1.heap.size) := Lib.hid (by omega)
  have HE1 := Lib.hid hz
  clear hb hk hz
  have hb : Below w1.heap.size w1 (w1.alloc (.cells #[.int .i64 0, .int .i64 0, .slice none 0 0, .slice none 0 0, .int .i64 0] 67)) := (Below.refl _ _).alloc (Nat.le_refl _) _
  have hk : (w1.alloc (.cells #[.int .i64 0, .int .i64 0, .slice none 0 0, .slice none 0 0, .int .i64 0] 67)).heap[w.heap.size + 1]? = some (.cells #[.int .i64 0, .int .i64 0, .slice none 0 0, .slice none 0 0, .int .i64 0] 67 (0, 0)) := alloc_at (by have := HE1.out; omega)
  have hz : (w1.alloc (.cells #[.int .i64 0, .int .i64 0, .slice none 0 0, .slice none 0 0, .int .i64 0] 67)).heap.size = w1.heap.size + 1 := by simp
  generalize w1.alloc (.cells #[.int .i64 0, .int .i64 0, .slice none 0 0, .slice none 0 0, .int .i64 0] 67) = w2 at hb hk hz ⊢
  have HB2 : Hid (Below w.heap.size w w2) := Lib.hid (HB1.out.trans (hb.mono HB1.out.size))
  have HZ2 : Hid (w1.heap.size ≤ w2.heap.size) := Lib.hid hb.size
  have HRf2 := Lib.hid (HRf0.out.below HB2.out (Nat.le_refl _))
  have HKf2 := Lib.hid ((hb.block _ (lt_of_block HKf1.out)).trans HKf1.out)
  have HKz2 := Lib.hid hk
  replace HZ2 : Hid (w1.heap.size < w2.heap.size) := Lib.hid (by omega)
  have HE2 := Lib.hid hz
  clear hb hk hz
  have ltf := lt_of_block HKf2.out
  obtain ⟨cf0, cf1, cf2, ff0, ff1, ff2⟩ := cell3 HKf2.out
  have ltz := lt_of_block HKz2.out
  obtain ⟨cz0, cz1, cz2, cz3, cz4, fz0, fz1, fz2, fz3, fz4⟩ := cell5 HKz2.out
  go_wp2_with fail
  have HZB : Hid (w.heap.size + 1 < w2.heap.size) := Lib.hid ltz
  have HWB := Lib.hid HB2.out.size
  obtain ⟨B, hB⟩ : ∃ B, B = w2.heap.size := ⟨_, rfl⟩
  have HBE := Lib.hid hB
  clear hB
  refine (courseOn_yes up lo _ rs _ HRf2.out HG.out HS.out).mono ?_
  rintro e w3 ⟨⟨g, cap, mg, rfl, hor, hom⟩, hb⟩
  have HB3 : Hid (Below w.heap.size w w3) := Lib.hid (HB2.out.trans (hb.mono HB2.out.size))
  have HZ3 : Hid (w2.heap.size ≤ w3.heap.size) := Lib.hid hb.size
  have HRf3 := Lib.hid (HRf0.out.below HB3.out (Nat.le_refl _))
  have HKf3 := Lib.hid ((hb.block _ (lt_of_block HKf2.out)).trans HKf2.out)
  have HKz3 := Lib.hid ((hb.block _ (lt_of_block HKz2.out)).trans HKz2.out)
  clear hb
  rw [← HBE.out] at hor hom
  have HB9 : Hid (B ≤ w3.heap.size) := Lib.hid (by rw [HBE.out]; exact HZ3.out)
  have HOR := Lib.hid hor
  have HOM := Lib.hid hom
  clear hor hom
  clear cf0 cf1 cf2 ff0 ff1 ff2 ltf cz0 cz1 cz2 cz3 cz4 fz0 fz1 fz2 fz3 fz4 ltz
  have ltf := lt_of_block HKf3.out
  obtain ⟨cf0, cf1, cf2, ff0, ff1, ff2⟩ := cell3 HKf3.out
  have ltz := lt_of_block HKz3.out
  obtain ⟨cz0, cz1, cz2, cz3, cz4, fz0, fz1, fz2, fz3, fz4⟩ := cell5 HKz3.out
  go_wp2_with fail
  have hbX : Below w3.heap.size w3 ((w3.alloc (.cells #[.int .i64 up, .int .i64 lo, .slice (some ⟨g, 0, none⟩) rs.length cap, .slice (some ⟨mg, 0, none⟩) 0 0] 65)).alloc (.cells #[.int .i64 up, .int .i64 lo, .slice (some ⟨g, 0, none⟩) rs.length cap, .slice (some ⟨mg, 0, none⟩) 0 0, .int .i64 0] 67)) := ((Below.refl _ _).alloc (Nat.le_refl _) _).alloc (by simp) _
  have haX : CoAt B ((w3.alloc (.cells #[.int .i64 up, .int .i64 lo, .slice (some ⟨g, 0, none⟩) rs.length cap, .slice (some ⟨mg, 0, none⟩) 0 0] 65)).alloc (.cells #[.int .i64 up, .int .i64 lo, .slice (some ⟨g, 0, none⟩) rs.length cap, .slice (some ⟨mg, 0, none⟩) 0 0, .int .i64 0] 67)) (w3.heap.size + 1) 67 [.int .i64 ((0 : Nat) : Int)] up lo (.slice (some ⟨g, 0, none⟩) rs.length cap) mg 0 rs [] :=
    ⟨by have := HB9.out; omega, ⟨by decide, by decide⟩, alloc_at (by simp), own_below HOR.out hbX, own_below HOM.out hbX⟩
  generalize ((w3.alloc (.cells #[.int .i64 up, .int .i64 lo, .slice (some ⟨g, 0, none⟩) rs.length cap, .slice (some ⟨mg, 0, none⟩) 0 0] 65)).alloc (.cells #[.int .i64 up, .int .i64 lo, .slice (some ⟨g, 0, none⟩) rs.length cap, .slice (some ⟨mg, 0, none⟩) 0 0, .int .i64 0] 67)) = U at hbX haX ⊢
  generalize w3.heap.size + 1 = A at haX ⊢
  have HAX := Lib.hid haX
  have HBU : Hid (Below w.heap.size w U) := Lib.hid (HB3.out.trans (hbX.mono HB3.out.size))
  have HKZ : Hid (U.heap[w.heap.size + 1]? = some (.cells #[.int .i64 0, .int .i64 0, .slice none 0 0, .slice none 0 0, .int .i64 0] 67 (0, 0))) := Lib.hid ((hbX.block _ (lt_of_block HKz3.out)).trans HKz3.out)
  have HZB' : Hid (w.heap.size + 1 < B) := Lib.hid (by rw [HBE.out]; exact HZB.out)
  have HWB' : Hid (w.heap.size ≤ B) := Lib.hid (by rw [HBE.out]; exact HWB.out)
  clear hbX haX cz0 cz1 cz2 cz3 cz4 fz0 fz1 fz2 fz3 fz4 cf0 cf1 cf2 ff0 ff1 ff2
  go_loopw [23] (fun iv wr => ∃ (k : Nat) (sv' : Value) (mg' mc' : Nat) (rs' : List (Int × Int)) (ms' : List Mv) (c' : Nat), iv = .int .i64 k ∧ CoAt B wr A 67 [.int .i64 (c' : Nat)] up lo sv' mg' mc' rs' ms' ∧ Below B U wr ∧ SuAt rs.length ps X k rs' ms' c') (fun iv _ => ps.length - (intOf iv).toNat)
  case atStart => exact ⟨0, _, _, _, rs, [], 0, rfl, HAX.out, Below.refl _ _, HSU.out⟩
  case round =>
    obtain ⟨k, sv', mg', mc', rs', ms', c', rfl, ha, hb, hu⟩ := hrel
    have HA0 := Lib.hid ha
    have HB0 := Lib.hid hb
    have HU0 := Lib.hid hu
    have hBU : Below w.heap.size w wr := HBU.out.trans (hb.mono HWB'.out)
    have hkz := (hb.block _ HZB'.out).trans HKZ.out
    obtain ⟨cz0, cz1, cz2, cz3, cz4, fz0, fz1, fz2, fz3, fz4⟩ := cell5 hkz
    have HK0 := Lib.hid hkz
    have hzl := lt_of_block hkz
    clear ha hb hu hkz
    by_cases hlt : k < ps.length
    · obtain ⟨b1, o1, rfl, x0, x1⟩ := RL.out _ hBU k hlt
      have HBW := Lib.hid hBU
      obtain ⟨q, hq⟩ : ∃ q, ps[k].1 = q := ⟨_, rfl⟩
      obtain ⟨d, hd⟩ : ∃ d, ps[k].2 = d := ⟨_, rfl⟩
      rw [hq] at x0
      rw [hd] at x1
      have HQ := Lib.hid hq
      have HD := Lib.hid hd
      have z1 : (0 : Int) ≤ (k : Int) := by omega
      have z2 : (k : Int) < (ps.length : Int) := by omega
      clear hBU hq hd
      go_wp2_with fail
      have hb1 : Below wr.heap.size wr (wr.alloc (.cells #[.int .i64 q, .int .i64 d] 87)) := (Below.refl _ _).alloc (Nat.le_refl _) _
      generalize wr.alloc (.cells #[.int .i64 q, .int .i64 d] 87) = w1 at hb1 ⊢
      have hBr : B ≤ wr.heap.size := by have := HA0.out.ord; have := HA0.out.lt; omega
      have HA1 := Lib.hid (HA0.out.next hb1)
      have HB1 := Lib.hid (HB0.out.trans (hb1.mono hBr))
      have HK1 := Lib.hid ((hb1.block _ hzl).trans HK0.out)
      have hg' := stdF_good HU0.out.std HG.out.2.1 HG.out.2.2.1 (by rw [HU0.out.len]; exact HG.out.2.2.2)
      clear hb1 x0 x1 cz0 cz1 cz2 cz3 cz4 fz0 fz1 fz2 fz3 fz4 hzl hBr
      by_cases hok : okT rs' q d
      · obtain ⟨qn, rfl⟩ : ∃ qn : Nat, q = (qn : Int) := ⟨q.toNat, by have := hok.1; omega⟩
        have HOK := Lib.hid hok
        have hqn : qn < rs'.length := by have := hok.1; omega
        have he : endB (qn + 1) d rs' := (endB_iff qn d rs' HU0.out.std hqn hok.2.1.1 hok.2.1.2).2 (by have := hok.2.2; rwa [Int.toNat_natCast] at this)
        have h0 := hok.2.1.1
        have h9 := hok.2.1.2
        have hmb := HU0.out.mb
        have hcb := HU0.out.cb
        clear hok
        refine (take_yes B A mg' mc' up lo sv' rs' ms' _ qn d _ HA1.out hg' HU0.out.std hqn h0 h9 he (by omega) ⟨by omega, by omega⟩).mono ?_
        rintro e w2 ⟨rfl, ⟨sv2, mg2, mc2, ha⟩, hb⟩
        rw [show ((c' : Int) + ((brC (qn + 1) d rs' : Nat) : Int)) = ((c' + brC (qn + 1) d rs' : Nat) : Int) by omega] at ha
        have HA2 := Lib.hid ha
        have HB2 := Lib.hid (HB1.out.trans hb)
        have HU2 := Lib.hid (HU0.out.yes hl8 hlt HQ.out HD.out HOK.out)
        clear ha hb hmb hcb he hg'
        go_wp2_with fail
        go_roundw
        case rel => exact ⟨k + 1, _, _, _, _, _, _, by go_num, HA2.out, HB2.out, HU2.out⟩
        case measure => simp [intOf]; omega
      · refine (take_no B A mg' mc' up lo sv' rs' ms' _ q d _ HA1.out hg' HU0.out.std hok).mono ?_
        rintro e w2 ⟨rfl, -, hb⟩
        have HNO := Lib.hid (HU0.out.no hlt HQ.out HD.out hok)
        have hk2 := (hb.block _ HZB'.out).trans HK1.out
        have HB2 : Hid (Below w.heap.size w w2) := Lib.hid (HBU.out.trans ((HB1.out.trans hb).mono HWB'.out))
        clear hb hg' hok
        obtain ⟨cz0, cz1, cz2, cz3, cz4, fz0, fz1, fz2, fz3, fz4⟩ := cell5 hk2
        clear hk2
        go_wp2_with fail
        exact bodyPost_ret (v := .tuple #[.agg #[.int .i64 0, .int .i64 0, .slice none 0 0, .slice none 0 0, .int .i64 0], .bool false]) (by simp [results, Try.results70, go_sem, cz0, cz1, cz2, cz3, cz4]) rfl ⟨Or.inr ⟨HNO.out, rfl⟩, bl_set5 HB2.out (Nat.le_succ _) _ _ _ _ _⟩
    · have hke : k = ps.length := by have := HU0.out.le; omega
      subst hke
      have HX := Lib.hid HU0.out.done
      obtain ⟨sa, sc, rfl⟩ := own_form HA0.out.rods
      have HBW := Lib.hid hBU
      have z2 : ¬ ((ps.length : Int) < (ps.length : Int)) := by omega
      obtain ⟨c0, c1, c2, c3, c4, f0, f1, f2, f3, f4⟩ := cell5 HA0.out.box
      clear hBU
      go_wp2_with fail
      exact bodyPost_ret (v := .tuple #[.agg #[.int .i64 up, .int .i64 lo, .slice sa rs'.length sc, .slice (some ⟨mg', 0, none⟩) ms'.length mc', .int .i64 (c' : Nat)], .bool true]) (by simp [results, Try.results70, go_sem, cz0, cz1, cz2, cz3, cz4]) rfl
        ⟨Or.inl ⟨rs', ms', c', HX.out, _, _, _, rfl, own_mono (own_set5 HA0.out.rods HZB'.out _ _ _ _ _) HWB'.out, own_mono (own_set5 HA0.out.moves HZB'.out _ _ _ _ _) HWB'.out⟩, bl_set5 HBW.out (Nat.le_succ _) _ _ _ _ _⟩
end Go.Proofs.Ytjkjaadcdolbhaa

/-! Tkn -/
namespace Go.Proofs.Ytjkjaadcdolbhaa
set_option linter.unusedVariables false
open Go.RowKit

theorem Try.infoPlaced : (Try.prog.info? 87).map (fun i => (i.zero, i.size, i.bytes)) = some (some (.agg #[.int .i64 0, .int .i64 0]), 2, 16) := by kernel_rfl
theorem dpr_len (n : Nat) (m : Int) : (dpr n m 0).length = n := by simp [dpr]
theorem dpr_at (n : Nat) (m : Int) (j : Nat) (h : j < (dpr n m 0).length) : (dpr n m 0)[j] = ((j : Int), m / 10 ^ (n - 1 - j) % 10) := by simp [dpr]
theorem subOf_x (up lo : Int) (sv : Value) (rs : List (Int × Int)) (w : World) (h : RodsR w sv rs) (dv : Value) (ps : List (Int × Int)) (hd : RodsR w dv ps) (hl : ps.length ≤ 8) (X : Option (List (Int × Int) × List Mv × Nat)) (hc : (¬ (goodF up lo rs ∧ stdF rs) ∧ X = none) ∨ (goodF up lo rs ∧ stdF rs ∧ runT ps rs [] 0 = X)) :
    Calls Try.prog 70 #[.agg #[.int .i64 up, .int .i64 lo, sv], dv] w fun e w' => ((∃ RT MT CT s1 g1 k1, X = some (RT, MT, CT) ∧ e = .returned (.tuple #[.agg #[.int .i64 up, .int .i64 lo, s1, .slice (some ⟨g1, 0, none⟩) MT.length k1, .int .i64 (CT : Nat)], .bool true]) ∧ w'.ownsRow w.heap.size 83 2 s1 RT.length (flat RT) ∧ w'.ownsRow w.heap.size 75 3 (.slice (some ⟨g1, 0, none⟩) MT.length k1) MT.length (flatC mvC MT)) ∨ (X = none ∧ e = .returned (.tuple #[.agg #[.int .i64 0, .int .i64 0, .slice none 0 0, .slice none 0 0, .int .i64 0], .bool false]))) ∧ Below w.heap.size w w' := by
  rcases hc with ⟨hn, hX⟩ | ⟨hg, hs, hX⟩
  · exact (subOf_bad up lo sv rs w h hn dv ps hd).mono fun _ _ ⟨e, hb⟩ => ⟨Or.inr ⟨hX, e⟩, hb⟩
  · exact subOf_run up lo sv rs w h hg hs dv ps hd hl X hX

set_option maxRecDepth 100000 in
set_option maxHeartbeats 1600000 in
theorem subN_short (up lo : Int) (sv : Value) (rs : List (Int × Int)) (m : Int) (w : World) (h : RodsR w sv rs) (hb : m ≤ 9223372036854775807) (hn : ¬ okFor up lo rs.length m) :
    Calls Try.prog 62 #[.agg #[.int .i64 up, .int .i64 lo, sv], .int .i64 m] w fun e w' => e = .returned (.tuple #[.agg #[.int .i64 0, .int .i64 0, .slice none 0 0, .slice none 0 0, .int .i64 0], .bool false]) ∧ Below w.heap.size w w' := by
  obtain ⟨a, cp, rfl⟩ : ∃ a c, sv = .slice a rs.length c := by obtain ⟨a, c, e, _⟩ := h; exact ⟨a, c, e⟩
  have hm : rs.length ≤ 9223372036854775807 := by obtain ⟨_, _, _, ⟨m, _⟩, _⟩ := h; exact m
  have HN := Lib.hid hn
  have HB0 : Hid (Below w.heap.size w w) := Lib.hid (Below.refl _ _)
  have HRf0 := Lib.hid (h)
  clear h hn
  go_enter Try.func62, Try.ntmps62
  go_wp2_with fail
  have hb : Below w.heap.size w (w.alloc (.cells #[.int .i64 up, .int .i64 lo, .slice a rs.length cp] 26)) := (Below.refl _ _).alloc (Nat.le_refl _) _
  have hk : (w.alloc (.cells #[.int .i64 up, .int .i64 lo, .slice a rs.length cp] 26)).heap[w.heap.size]? = some (.cells #[.int .i64 up, .int .i64 lo, .slice a rs.length cp] 26 (0, 0)) := alloc_at rfl
  have hz : (w.alloc (.cells #[.int .i64 up, .int .i64 lo, .slice a rs.length cp] 26)).heap.size = w.heap.size + 1 := by simp
  generalize w.alloc (.cells #[.int .i64 up, .int .i64 lo, .slice a rs.length cp] 26) = w1 at hb hk hz ⊢
  have HB1 : Hid (Below w.heap.size w w1) := Lib.hid (HB0.out.trans (hb.mono HB0.out.size))
  have HZ1 : Hid (w.heap.size ≤ w1.heap.size) := Lib.hid hb.size
  have HRf1 := Lib.hid (HRf0.out.below HB1.out (Nat.le_refl _))
  have HKf1 := Lib.hid hk
  replace HZ1 : Hid (w.heap.size < w1.heap.size) := Lib.hid (by omega)
  have HE1 := Lib.hid hz
  clear hb hk hz
  have hb : Below w1.heap.size w1 (w1.alloc (.cells #[.int .i64 0, .int .i64 0, .slice none 0 0, .slice none 0 0, .int .i64 0] 67)) := (Below.refl _ _).alloc (Nat.le_refl _) _
  have hk : (w1.alloc (.cells #[.int .i64 0, .int .i64 0, .slice none 0 0, .slice none 0 0, .int .i64 0] 67)).heap[w.heap.size + 1]? = some (.cells #[.int .i64 0, .int .i64 0, .slice none 0 0, .slice none 0 0, .int .i64 0] 67 (0, 0)) := alloc_at (by have := HE1.out; omega)
  have hz : (w1.alloc (.cells #[.int .i64 0, .int .i64 0, .slice none 0 0, .slice none 0 0, .int .i64 0] 67)).heap.size = w1.heap.size + 1 := by simp
  generalize w1.alloc (.cells #[.int .i64 0, .int .i64 0, .slice none 0 0, .slice none 0 0, .int .i64 0] 67) = w2 at hb hk hz ⊢
  have HB2 : Hid (Below w.heap.size w w2) := Lib.hid (HB1.out.trans (hb.mono HB1.out.size))
  have HZ2 : Hid (w1.heap.size ≤ w2.heap.size) := Lib.hid hb.size
  have HRf2 := Lib.hid (HRf0.out.below HB2.out (Nat.le_refl _))
  have HKf2 := Lib.hid ((hb.block _ (lt_of_block HKf1.out)).trans HKf1.out)
  have HKz2 := Lib.hid hk
  replace HZ2 : Hid (w1.heap.size < w2.heap.size) := Lib.hid (by omega)
  have HE2 := Lib.hid hz
  clear hb hk hz
  have ltf := lt_of_block HKf2.out
  obtain ⟨cf0, cf1, cf2, ff0, ff1, ff2⟩ := cell3 HKf2.out
  have ltz := lt_of_block HKz2.out
  obtain ⟨cz0, cz1, cz2, cz3, cz4, fz0, fz1, fz2, fz3, fz4⟩ := cell5 HKz2.out
  go_wp2_with fail
  refine (implFrameFor_bad up lo rs.length m _ hb HN.out).mono ?_
  rintro e w3 ⟨⟨v1, rfl, oa⟩, hb⟩
  have HB3 : Hid (Below w.heap.size w w3) := Lib.hid (HB2.out.trans (hb.mono HB2.out.size))
  have HZ3 : Hid (w2.heap.size ≤ w3.heap.size) := Lib.hid hb.size
  have HRf3 := Lib.hid (HRf0.out.below HB3.out (Nat.le_refl _))
  have HKf3 := Lib.hid ((hb.block _ (lt_of_block HKf2.out)).trans HKf2.out)
  have HKz3 := Lib.hid ((hb.block _ (lt_of_block HKz2.out)).trans HKz2.out)
  clear hb
  obtain ⟨p1, k1, rfl⟩ := own_form oa
  clear oa
  clear cf0 cf1 cf2 ff0 ff1 ff2 ltf cz0 cz1 cz2 cz3 cz4 fz0 fz1 fz2 fz3 fz4 ltz
  have ltf := lt_of_block HKf3.out
  obtain ⟨cf0, cf1, cf2, ff0, ff1, ff2⟩ := cell3 HKf3.out
  have ltz := lt_of_block HKz3.out
  obtain ⟨cz0, cz1, cz2, cz3, cz4, fz0, fz1, fz2, fz3, fz4⟩ := cell5 HKz3.out
  go_wp2_with fail
  have hkz := (alloc_old (w := (((((w3.setCell ⟨w.heap.size + 1, 0, none⟩ (.int .i64 0)).setCell ⟨w.heap.size + 1, 1, none⟩ (.int .i64 0)).setCell ⟨w.heap.size + 1, 2, none⟩ (.slice none 0 0)).setCell ⟨w.heap.size + 1, 3, none⟩ (.slice none 0 0)).setCell ⟨w.heap.size + 1, 4, none⟩ (.int .i64 0))) (o := .cells #[.int .i64 0, .int .i64 0, .slice p1 ([] : List (Int × Int)).length k1] 26) (k := w.heap.size + 1) (by simp; exact ltz)).trans (box5_set HKz3.out (.int .i64 0) (.int .i64 0) (.slice none 0 0) (.slice none 0 0) (.int .i64 0))
  have hbz : Below w.heap.size w ((((((w3.setCell ⟨w.heap.size + 1, 0, none⟩ (.int .i64 0)).setCell ⟨w.heap.size + 1, 1, none⟩ (.int .i64 0)).setCell ⟨w.heap.size + 1, 2, none⟩ (.slice none 0 0)).setCell ⟨w.heap.size + 1, 3, none⟩ (.slice none 0 0)).setCell ⟨w.heap.size + 1, 4, none⟩ (.int .i64 0)).alloc (.cells #[.int .i64 0, .int .i64 0, .slice p1 ([] : List (Int × Int)).length k1] 26)) := (bl_set5 HB3.out (Nat.le_succ _) _ _ _ _ _).alloc (by simp; exact HB3.out.size) _
  try simp only [List.length_nil] at hkz hbz
  generalize (((((w3.setCell ⟨w.heap.size + 1, 0, none⟩ (.int .i64 0)).setCell ⟨w.heap.size + 1, 1, none⟩ (.int .i64 0)).setCell ⟨w.heap.size + 1, 2, none⟩ (.slice none 0 0)).setCell ⟨w.heap.size + 1, 3, none⟩ (.slice none 0 0)).setCell ⟨w.heap.size + 1, 4, none⟩ (.int .i64 0)).alloc (.cells #[.int .i64 0, .int .i64 0, .slice p1 0 k1] 26) = W9 at hkz hbz ⊢
  obtain ⟨y0, y1, y2, y3, y4, -, -, -, -, -⟩ := cell5 hkz
  exact bodyPost_ret (v := .tuple #[.agg #[.int .i64 0, .int .i64 0, .slice none 0 0, .slice none 0 0, .int .i64 0], .bool false]) (by simp [results, Try.results62, go_sem, y0, y1, y2, y3, y4]) rfl ⟨rfl, hbz⟩

set_option maxRecDepth 100000 in
set_option maxHeartbeats 3200000 in
theorem subN_any (up lo : Int) (sv : Value) (rs : List (Int × Int)) (m : Int) (w : World) (h : RodsR w sv rs) (hk : okFor up lo rs.length m) (X : Option (List (Int × Int) × List Mv × Nat)) (hc : (¬ (goodF up lo rs ∧ stdF rs) ∧ X = none) ∨ (goodF up lo rs ∧ stdF rs ∧ runT (dpr rs.length m 0) rs [] 0 = X)) :
    Calls Try.prog 62 #[.agg #[.int .i64 up, .int .i64 lo, sv], .int .i64 m] w fun e w' => ((∃ RT MT CT s1 g1 k1, X = some (RT, MT, CT) ∧ e = .returned (.tuple #[.agg #[.int .i64 up, .int .i64 lo, s1, .slice (some ⟨g1, 0, none⟩) MT.length k1, .int .i64 (CT : Nat)], .bool true]) ∧ w'.ownsRow w.heap.size 83 2 s1 RT.length (flat RT) ∧ w'.ownsRow w.heap.size 75 3 (.slice (some ⟨g1, 0, none⟩) MT.length k1) MT.length (flatC mvC MT)) ∨ (X = none ∧ e = .returned (.tuple #[.agg #[.int .i64 0, .int .i64 0, .slice none 0 0, .slice none 0 0, .int .i64 0], .bool false]))) ∧ Below w.heap.size w w' := by
  obtain ⟨i0, hi, hz0, hz1, hz2⟩ := info_parts Try.infoPlaced
  obtain ⟨a, cp, rfl⟩ : ∃ a c, sv = .slice a rs.length c := by obtain ⟨a, c, e, _⟩ := h; exact ⟨a, c, e⟩
  have hm : rs.length ≤ 9223372036854775807 := by obtain ⟨_, _, _, ⟨m, _⟩, _⟩ := h; exact m
  have HC := Lib.hid hc
  have HK := Lib.hid hk
  have hn : 0 < rs.length ∧ rs.length ≤ 8 := by have := hk.2.2.1; omega
  have hml := hk.2.2.2.1
  have HRW := Lib.hid h
  have HB0 : Hid (Below w.heap.size w w) := Lib.hid (Below.refl _ _)
  have HRf0 := Lib.hid (h)
  clear h hc hk
  go_enter Try.func62, Try.ntmps62
  go_wp2_with fail
  have hb : Below w.heap.size w (w.alloc (.cells #[.int .i64 up, .int .i64 lo, .slice a rs.length cp] 26)) := (Below.refl _ _).alloc (Nat.le_refl _) _
  have hk : (w.alloc (.cells #[.int .i64 up, .int .i64 lo, .slice a rs.length cp] 26)).heap[w.heap.size]? = some (.cells #[.int .i64 up, .int .i64 lo, .slice a rs.length cp] 26 (0, 0)) := alloc_at rfl
  have hz : (w.alloc (.cells #[.int .i64 up, .int .i64 lo, .slice a rs.length cp] 26)).heap.size = w.heap.size + 1 := by simp
  generalize w.alloc (.cells #[.int .i64 up, .int .i64 lo, .slice a rs.length cp] 26) = w1 at hb hk hz ⊢
  have HB1 : Hid (Below w.heap.size w w1) := Lib.hid (HB0.out.trans (hb.mono HB0.out.size))
  have HZ1 : Hid (w.heap.size ≤ w1.heap.size) := Lib.hid hb.size
  have HRf1 := Lib.hid (HRf0.out.below HB1.out (Nat.le_refl _))
  have HKf1 := Lib.hid hk
  replace HZ1 : Hid (w.heap.size < w1.heap.size) := Lib.hid (by omega)
  have HE1 := Lib.hid hz
  clear hb hk hz
  have hb : Below w1.heap.size w1 (w1.alloc (.cells #[.int .i64 0, .int .i64 0, .slice none 0 0, .slice none 0 0, .int .i64 0] 67)) := (Below.refl _ _).alloc (Nat.le_refl _) _
  have hk : (w1.alloc (.cells #[.int .i64 0, .int .i64 0, .slice none 0 0, .slice none 0 0, .int .i64 0] 67)).heap[w.heap.size + 1]? = some (.cells #[.int .i64 0, .int .i64 0, .slice none 0 0, .slice none 0 0, .int .i64 0] 67 (0, 0)) := alloc_at (by have := HE1.out; omega)
  have hz : (w1.alloc (.cells #[.int .i64 0, .int .i64 0, .slice none 0 0, .slice none 0 0, .int .i64 0] 67)).heap.size = w1.heap.size + 1 := by simp
  generalize w1.alloc (.cells #[.int .i64 0, .int .i64 0, .slice none 0 0, .slice none 0 0, .int .i64 0] 67) = w2 at hb hk hz ⊢
  have HB2 : Hid (Below w.heap.size w w2) := Lib.hid (HB1.out.trans (hb.mono HB1.out.size))
  have HZ2 : Hid (w1.heap.size ≤ w2.heap.size) := Lib.hid hb.size
  have HRf2 := Lib.hid (HRf0.out.below HB2.out (Nat.le_refl _))
  have HKf2 := Lib.hid ((hb.block _ (lt_of_block HKf1.out)).trans HKf1.out)
  have HKz2 := Lib.hid hk
  replace HZ2 : Hid (w1.heap.size < w2.heap.size) := Lib.hid (by omega)
  have HE2 := Lib.hid hz
  clear hb hk hz
  have ltf := lt_of_block HKf2.out
  obtain ⟨cf0, cf1, cf2, ff0, ff1, ff2⟩ := cell3 HKf2.out
  have ltz := lt_of_block HKz2.out
  obtain ⟨cz0, cz1, cz2, cz3, cz4, fz0, fz1, fz2, fz3, fz4⟩ := cell5 HKz2.out
  go_wp2_with fail
  refine (implFrameFor_ok up lo rs.length m _ HK.out).mono ?_
  rintro e w3 ⟨⟨v1, rfl, oa⟩, hb⟩
  have HB3 : Hid (Below w.heap.size w w3) := Lib.hid (HB2.out.trans (hb.mono HB2.out.size))
  have HZ3 : Hid (w2.heap.size ≤ w3.heap.size) := Lib.hid hb.size
  have HRf3 := Lib.hid (HRf0.out.below HB3.out (Nat.le_refl _))
  have HKf3 := Lib.hid ((hb.block _ (lt_of_block HKf2.out)).trans HKf2.out)
  have HKz3 := Lib.hid ((hb.block _ (lt_of_block HKz2.out)).trans HKz2.out)
  clear hb
  obtain ⟨g1, k1, rfl⟩ := own_block oa (by rw [forR_len]; exact hn.1)
  have HOa3 := Lib.hid (Ow.mk' oa)
  clear oa
  obtain ⟨qs, hqs⟩ : ∃ qs, qs = forR rs.length m := ⟨_, rfl⟩
  have hql : qs.length = rs.length := by rw [hqs, forR_len]
  have HQS := Lib.hid hqs
  rw [← hqs, hql]
  rw [← hqs, hql] at HOa3
  clear hqs
  clear cf0 cf1 cf2 ff0 ff1 ff2 ltf cz0 cz1 cz2 cz3 cz4 fz0 fz1 fz2 fz3 fz4 ltz
  have ltf := lt_of_block HKf3.out
  obtain ⟨cf0, cf1, cf2, ff0, ff1, ff2⟩ := cell3 HKf3.out
  have ltz := lt_of_block HKz3.out
  obtain ⟨cz0, cz1, cz2, cz3, cz4, fz0, fz1, fz2, fz3, fz4⟩ := cell5 HKz3.out
  have HZ0 := Lib.hid HKz3.out
  have HF0 := Lib.hid HKf3.out
  have hltz := ltz
  have hltf := ltf
  go_wp2_with (at_make; refine wpList_make_full _ rfl _ _ 109 rfl (w3.heap.size + 1) 87 i0 (.agg #[.int .i64 0, .int .i64 0]) 2 Try.underlying109 hi hz0 hz1 _ _ _ _ rs.length rfl rfl rfl rfl ?b2 ?b3 (by simp) ?_)
  case b2 => rw [hz2]; omega
  case b3 => unfold maxLen; omega
  intro w9 hown hgrow
  have HO9 := Lib.hid hown
  have hbt : Below w3.heap.size w3 (w3.alloc (.cells #[.int .i64 up, .int .i64 lo, .slice (some ⟨g1, 0, none⟩) rs.length k1] 26)) := (Below.refl _ _).alloc (Nat.le_refl _) _
  have hb9 : Below w3.heap.size w3 w9 := hbt.grown hgrow (by simp) (fun k h => by cases h)
  have hkt : w9.heap[w3.heap.size]? = some (.cells #[.int .i64 up, .int .i64 lo, .slice (some ⟨g1, 0, none⟩) rs.length k1] 26 (0, 0)) := by
    rw [hgrow.block w3.heap.size (by simp) (by simp)]; exact alloc_at rfl
  have HT9 := Lib.hid hkt
  have HA9 := Lib.hid (HOa3.out.next hb9)
  have HB9 := Lib.hid (HB3.out.trans (hb9.mono HB3.out.size))
  have HZ9 := Lib.hid ((hb9.block _ hltz).trans HZ0.out)
  have HF9 := Lib.hid ((hb9.block _ hltf).trans HF0.out)
  have hs9 : w3.heap.size + 1 < w9.heap.size := (hown.lt _ rfl).2
  have HS9 := Lib.hid hs9
  have HWL : Hid (w.heap.size ≤ w3.heap.size + 1) := Lib.hid (by omega)
  clear hown hgrow hbt hb9 hkt hs9 cf0 cf1 cf2 ff0 ff1 ff2 cz0 cz1 cz2 cz3 cz4 fz0 fz1 fz2 fz3 fz4 ltz ltf
  obtain ⟨D, hD⟩ : ∃ D, D = w3.heap.size := ⟨_, rfl⟩
  try simp only [← hD]
  rw [← hD] at HO9 HT9 HS9 HWL hltz hltf
  have HZD : Hid (w.heap.size + 1 < D + 1) := Lib.hid (by omega)
  have HFD : Hid (w.heap.size < D + 1) := Lib.hid (by omega)
  have HTD : Hid (D < D + 1) := Lib.hid (by omega)
  have HAD : Hid (w3.heap.size ≤ D + 1) := Lib.hid (by omega)
  clear hD hltz hltf
  obtain ⟨ct0, ct1, ct2, -, -, -⟩ := cell3 HT9.out
  go_wp2_with fail
  go_loopw [32] (fun iv wr => ∃ (k : Nat) (xs : List Value), iv = .int .i64 k ∧ k ≤ rs.length ∧ xs.length = rs.length * 2 ∧ (∀ j (h : j < (dpr rs.length m 0).length), j < k → xs[j * 2]? = some (.int .i64 (dpr rs.length m 0)[j].1) ∧ xs[j * 2 + 1]? = some (.int .i64 (dpr rs.length m 0)[j].2)) ∧ wr.ownsRow (D + 1) 87 2 (.slice (some ⟨D + 1, 0, none⟩) rs.length rs.length) rs.length xs ∧ Below (D + 1) w9 wr) (fun iv _ => rs.length - (intOf iv).toNat)
  case atStart => exact ⟨0, _, rfl, Nat.zero_le _, by have := HO9.out.1; omega, fun j _ hj => absurd hj (by omega), HO9.out, Below.refl _ _⟩
  case round =>
    obtain ⟨k, xs, rfl, hk, hxl, hpre, hown, hb⟩ := hrel
    have HO0 := Lib.hid hown
    have HB0 := Lib.hid hb
    have HP := Lib.hid hpre
    have HX := Lib.hid hxl
    have HT0 := Lib.hid ((hb.block _ HTD.out).trans HT9.out)
    have HZ0 := Lib.hid ((hb.block _ HZD.out).trans HZ9.out)
    have HF0 := Lib.hid ((hb.block _ HFD.out).trans HF9.out)
    have HBW : Hid (Below w.heap.size w wr) := Lib.hid (HB9.out.trans (hb.mono HWL.out))
    obtain ⟨ct0, ct1, ct2, -, -, -⟩ := cell3 HT0.out
    by_cases hlt : k < rs.length
    · have hkq : k < qs.length := by omega
      have ho := (HA9.out.below hb HAD.out).1
      rw [show rs.length = qs.length from hql.symm] at ho
      have x0 := (ho.cellAt (k * 2) (by omega)).trans (flat_at qs k hkq).1
      have x1 := (ho.cellAt (k * 2 + 1) (by omega)).trans (flat_at qs k hkq).2
      obtain ⟨dd, hdd⟩ : ∃ dd, m / 10 ^ (rs.length - 1 - k) % 10 = dd := ⟨_, rfl⟩
      have hq : qs[k] = digR dd := by
        have h1 := forR_at rs.length m k (by rw [forR_len]; exact hlt)
        rw [hdd] at h1
        rw [← h1]
        congr 1
        try exact HQS.out
      have HV : Hid (5 * qs[k].1 + qs[k].2 = dd) := Lib.hid (by rw [hq]; exact valF_digR dd)
      have hd9 : 0 ≤ dd ∧ dd ≤ 9 := by omega
      have HR : Hid ((0 ≤ qs[k].1 ∧ qs[k].1 ≤ 1) ∧ (0 ≤ qs[k].2 ∧ qs[k].2 ≤ 4)) := Lib.hid (by rw [hq]; exact digR_bd dd hd9.1 hd9.2)
      have HDD := Lib.hid hdd
      have z1 : (0 : Int) ≤ (k : Int) := by omega
      have z2 : (k : Int) < (rs.length : Int) := by omega
      clear hown hb hpre ho hq hdd hxl
      go_wp2_with fail
      refine (valueOf_sgn qs[k].1 qs[k].2 _ ⟨by have := HR.out; omega, by have := HR.out; omega⟩).mono ?_
      rintro e w2 ⟨rfl, hb2⟩
      rw [HV.out]
      have hle : D + 1 ≤ wr.heap.size := Nat.le_of_lt (HO0.out.lt _ rfl).2
      have HO2 := Lib.hid (own_below HO0.out hb2)
      have HB2 := Lib.hid (HB0.out.trans (hb2.mono hle))
      obtain ⟨u0, c0⟩ : ∃ u, w2.cell? ⟨D + 1, k * 2, none⟩ = some u := by
        have := HO2.out.cells (g := D + 1) rfl (k * 2) _ (List.getElem?_eq_getElem (by have := HX.out; omega))
        rw [add_off, Nat.zero_add] at this
        exact ⟨_, this⟩
      obtain ⟨u1, c1⟩ : ∃ u, w2.cell? ⟨D + 1, k * 2 + 1, none⟩ = some u := by
        have := HO2.out.cells (g := D + 1) rfl (k * 2 + 1) _ (List.getElem?_eq_getElem (by have := HX.out; omega))
        rw [add_off, Nat.zero_add] at this
        exact ⟨_, this⟩
      have f0 : w2.frozen? ⟨D + 1, k * 2, none⟩ = false := HO2.out.frozenAt _
      have f1 : w2.frozen? ⟨D + 1, k * 2 + 1, none⟩ = false := HO2.out.frozenAt _
      clear hb2 x0 x1 ct0 ct1 ct2
      go_wp2_with fail
      go_roundw
      case rel =>
        refine ⟨k + 1, (xs.set (k * 2) (.int .i64 k)).set (k * 2 + 1) (.int .i64 dd), by go_num, by omega, by rw [List.length_set, List.length_set]; exact HX.out, fun j h hj => ?_, ((HO2.out.stored (k * 2) _).1.stored (k * 2 + 1) _).1, (HB2.out.setCell (Nat.le_refl _) _).setCell (Nat.le_refl _) _⟩
        have hx := HX.out
        by_cases e : j = k
        · subst e
          rw [dpr_at, HDD.out]
          exact ⟨by rw [List.getElem?_set_ne (by omega), List.getElem?_set_self (by omega)], by rw [List.getElem?_set_self (by rw [List.length_set]; omega)]⟩
        · have hjl : j < rs.length := by rw [dpr_len] at h; exact h
          have := HP.out j h (by omega)
          exact ⟨by rw [List.getElem?_set_ne (by omega), List.getElem?_set_ne (by omega)]; exact this.1, by rw [List.getElem?_set_ne (by omega), List.getElem?_set_ne (by omega)]; exact this.2⟩
      case measure => simp [intOf]; omega
    · obtain rfl : k = rs.length := by omega
      have hxs : xs = flat (dpr rs.length m 0) := flat_of xs _ (by rw [dpr_len]; exact hxl) (fun j h => hpre j h (by rw [dpr_len] at h; exact h))
      have HRD : Hid (RodsR wr (.slice (some ⟨D + 1, 0, none⟩) rs.length rs.length) (dpr rs.length m 0)) := Lib.hid (RodsR.of_own (e := 87) (B := D + 1) (by rw [dpr_len, ← hxs]; exact hown))
      have HRF : Hid (RodsR wr (.slice a rs.length cp) rs) := Lib.hid (HRW.out.below HBW.out (Nat.le_refl _))
      obtain ⟨cf0, cf1, cf2, ff0, ff1, ff2⟩ := cell3 HF0.out
      have z2 : ¬ ((rs.length : Int) < (rs.length : Int)) := by omega
      clear hown hb hpre hxl hxs ct0 ct1 ct2 HO0 HB0 HP HX
      go_wp2_with fail
      refine (subOf_x up lo _ rs _ HRF.out _ _ HRD.out (by rw [dpr_len]; exact hn.2) X HC.out).mono ?_
      rintro e w2 ⟨he, hb2⟩
      have hk2 := (hb2.block _ (lt_of_block HZ0.out)).trans HZ0.out
      have HB2 := Lib.hid (HBW.out.trans (hb2.mono HBW.out.size))
      have hzr : w.heap.size + 1 < wr.heap.size := lt_of_block HZ0.out
      clear cf0 cf1 cf2 ff0 ff1 ff2
      obtain ⟨cz0, cz1, cz2, cz3, cz4, fz0, fz1, fz2, fz3, fz4⟩ := cell5 hk2
      clear hb2 hk2
      rcases he with ⟨RT, MT, CT, s1, g3, k3, hX, rfl, or, om⟩ | ⟨hX, rfl⟩
      · have HXX := Lib.hid hX
        have HOR := Lib.hid or
        have HOM := Lib.hid om
        obtain ⟨sa, sc, rfl⟩ := own_form or
        clear hX or om
        go_wp2_with fail
        exact bodyPost_ret (v := .tuple #[.agg #[.int .i64 up, .int .i64 lo, .slice sa RT.length sc, .slice (some ⟨g3, 0, none⟩) MT.length k3, .int .i64 (CT : Nat)], .bool true]) (by simp [results, Try.results62, go_sem, cz0, cz1, cz2, cz3, cz4]) rfl
          ⟨Or.inl ⟨RT, MT, CT, _, _, _, HXX.out, rfl, own_mono (own_set5 HOR.out hzr _ _ _ _ _) HBW.out.size, own_mono (own_set5 HOM.out hzr _ _ _ _ _) HBW.out.size⟩, bl_set5 HB2.out (Nat.le_succ _) _ _ _ _ _⟩
      · have HXX := Lib.hid hX
        clear hX
        go_wp2_with fail
        exact bodyPost_ret (v := .tuple #[.agg #[.int .i64 0, .int .i64 0, .slice none 0 0, .slice none 0 0, .int .i64 0], .bool false]) (by simp [results, Try.results62, go_sem, cz0, cz1, cz2, cz3, cz4]) rfl ⟨Or.inr ⟨HXX.out, rfl⟩, bl_set5 HB2.out (Nat.le_succ _) _ _ _ _ _⟩

/-- The subtraction of a number that can be taken, and of one that cannot. -/
theorem subN_yes (up lo : Int) (sv : Value) (rs : List (Int × Int)) (m : Int) (w : World) (h : RodsR w sv rs) (hc : canT up lo rs m) :
    Calls Try.prog 62 #[.agg #[.int .i64 up, .int .i64 lo, sv], .int .i64 m] w fun e w' => (∃ s1 g1 k1, e = .returned (.tuple #[.agg #[.int .i64 up, .int .i64 lo, s1, .slice (some ⟨g1, 0, none⟩) (tkM 0 (digs rs.length m) rs).length k1, .int .i64 ((tkC 0 (digs rs.length m) rs : Nat) : Int)], .bool true]) ∧ w'.ownsRow w.heap.size 83 2 s1 (tkR 0 (digs rs.length m) rs).length (flat (tkR 0 (digs rs.length m) rs)) ∧ w'.ownsRow w.heap.size 75 3 (.slice (some ⟨g1, 0, none⟩) (tkM 0 (digs rs.length m) rs).length k1) (tkM 0 (digs rs.length m) rs).length (flatC mvC (tkM 0 (digs rs.length m) rs))) ∧ Below w.heap.size w w' := by
  obtain ⟨hg, hs, h0, h1⟩ := hc
  have hb := numF_stdb hs
  have hk : okFor up lo rs.length m := ⟨hg.2.1, hg.2.2.1, by have := hg.2.2.2; omega, h0, by rw [Int.toNat_natCast]; omega⟩
  refine (subN_any up lo sv rs m w h hk _ (Or.inr ⟨hg, hs, (run_all hs m h0 (by omega)).1 h1⟩)).mono ?_
  rintro e w' ⟨⟨RT, MT, CT, s1, g1, k1, hX, he, or, om⟩ | ⟨hX, he⟩, hb⟩
  · injection hX with hX
    injection hX with h1 hX
    injection hX with h2 h3
    subst h1 h2 h3
    exact ⟨⟨s1, g1, k1, he, or, om⟩, hb⟩
  · cases hX
theorem subN_no (up lo : Int) (sv : Value) (rs : List (Int × Int)) (m : Int) (w : World) (h : RodsR w sv rs) (hb : m ≤ 9223372036854775807) (hc : ¬ canT up lo rs m) :
    Calls Try.prog 62 #[.agg #[.int .i64 up, .int .i64 lo, sv], .int .i64 m] w fun e w' => e = .returned (.tuple #[.agg #[.int .i64 0, .int .i64 0, .slice none 0 0, .slice none 0 0, .int .i64 0], .bool false]) ∧ Below w.heap.size w w' := by
  by_cases hk : okFor up lo rs.length m
  · have hk2 := hk.2.2.2
    rw [Int.toNat_natCast] at hk2
    obtain ⟨X, hXn⟩ : ∃ X : Option (List (Int × Int) × List Mv × Nat), X = none := ⟨_, rfl⟩
    have hX : (¬ (goodF up lo rs ∧ stdF rs) ∧ X = none) ∨ (goodF up lo rs ∧ stdF rs ∧ runT (dpr rs.length m 0) rs [] 0 = X) := by
      by_cases hs : goodF up lo rs ∧ stdF rs
      · exact Or.inr ⟨hs.1, hs.2, by rw [hXn]; exact (run_all hs.2 m hk2.1 (by omega)).2 (fun h' => hc ⟨hs.1, hs.2, hk2.1, h'⟩)⟩
      · exact Or.inl ⟨hs, hXn⟩
    refine (subN_any up lo sv rs m w h hk X hX).mono ?_
    rintro e w' ⟨⟨RT, MT, CT, s1, g1, k1, hX, _⟩ | ⟨_, he⟩, hb⟩
    · rw [hXn] at hX; cases hX
    · exact ⟨he, hb⟩
  · exact subN_short up lo sv rs m w h hb hk
end Go.Proofs.Ytjkjaadcdolbhaa
